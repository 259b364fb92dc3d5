/-
  Contracts and lemmas on which the proofs of this seat stand (several texts in one). Conditions are each theorem's own.
-/
import Derived.Test.YtpoigngpdcmipaaGreatMb2
import Derived.Deep.Cut
import Derived.Deep.CutRange
import Derived.Deep.WholeRow
import Derived.Test.YtpoigngpdcmipaaGreatMb1
import Derived.Deep.MidRow
import Derived.ChangeKeysEq
namespace Go.Proofs.YtpoigngpdcmipaaGreat
open Go.RowKit
theorem chk4_ok {q : P4} (h : chk4 q = 0) : arg4 q ∧ size4 q ≤ 65535 ∧ q.off + (q.dat.length : Int) ≤ 65535 := by
  unfold chk4 at h
  split at h
  · rename_i ha
    split at h
    · cases h
    · exact ⟨ha, by omega, by omega⟩
  · cases h
def l20 (q : P4) : List UInt8 := hda q (size4 q) ++ be2 (sum4 q) ++ [u8 (q.src / 16777216), u8 (q.src / 65536), u8 (q.src / 256), u8 q.src, u8 (q.dst / 16777216), u8 (q.dst / 65536), u8 (q.dst / 256), u8 q.dst]
theorem bld4_l20 (q : P4) (more : List UInt8) : bld4 q ++ more = l20 q ++ (q.opt ++ (q.dat ++ more)) := by
  simp [bld4, hd4, l20, hdb, List.append_assoc]
theorem hd4_l20 (q : P4) : hd4 q (size4 q) (sum4 q) = l20 q ++ q.opt := by simp [hd4, l20, hdb, List.append_assoc]
theorem l20_len (q : P4) : (l20 q).length = 20 := by simp [l20, hda, be2]
section
variable {q : P4} {more : List UInt8}
theorem byt_b (i : Nat) (hi : i < 20) : byt (bld4 q ++ more) i = byt (l20 q) i := by
  rw [bld4_l20]; exact byt_left (by rw [l20_len]; exact hi)
theorem back_fields (h : chk4 q = 0) :
    hlen (bld4 q ++ more) = head4 q ∧ byt (bld4 q ++ more) 0 / 16 = 4 ∧ n2 (bld4 q ++ more) 2 = size4 q ∧ n2 (bld4 q ++ more) 6 = flags4 q ∧ n2 (bld4 q ++ more) 4 = q.id ∧ byt (bld4 q ++ more) 1 = q.tos ∧ byt (bld4 q ++ more) 8 = q.ttl ∧
      byt (bld4 q ++ more) 9 = q.proto ∧ n4 (bld4 q ++ more) 12 = q.src ∧ n4 (bld4 q ++ more) 16 = q.dst := by
  obtain ⟨⟨a1, a2, a3, a4, a5, a6, a7, a8, a9, a10, a11, a12, a13, a14, a15, a16, a17, a18⟩, hs, ho⟩ := chk4_ok h
  have hh : head4 q = 20 + (q.opt.length : Int) := rfl
  have hz : size4 q = head4 q + (q.dat.length : Int) := rfl
  have hf : 0 ≤ flags4 q ∧ flags4 q < 32768 := by unfold flags4 bit; split <;> split <;> omega
  have b : ∀ i, i < 20 → byt (bld4 q ++ more) i = byt (l20 q) i := fun i hi => byt_b i hi
  have c0 : byt (l20 q) 0 = (64 + head4 q / 4) % 256 := u8_val _
  have c1 : byt (l20 q) 1 = q.tos % 256 := u8_val _
  have c2 : byt (l20 q) 2 = size4 q / 256 % 256 := u8_val _
  have c3 : byt (l20 q) 3 = size4 q % 256 := u8_val _
  have c4 : byt (l20 q) 4 = q.id / 256 % 256 := u8_val _
  have c5 : byt (l20 q) 5 = q.id % 256 := u8_val _
  have c6 : byt (l20 q) 6 = flags4 q / 256 % 256 := u8_val _
  have c7 : byt (l20 q) 7 = flags4 q % 256 := u8_val _
  have c8 : byt (l20 q) 8 = q.ttl % 256 := u8_val _
  have c9 : byt (l20 q) 9 = q.proto % 256 := u8_val _
  have c12 : byt (l20 q) 12 = q.src / 16777216 % 256 := u8_val _
  have c13 : byt (l20 q) 13 = q.src / 65536 % 256 := u8_val _
  have c14 : byt (l20 q) 14 = q.src / 256 % 256 := u8_val _
  have c15 : byt (l20 q) 15 = q.src % 256 := u8_val _
  have c16 : byt (l20 q) 16 = q.dst / 16777216 % 256 := u8_val _
  have c17 : byt (l20 q) 17 = q.dst / 65536 % 256 := u8_val _
  have c18 : byt (l20 q) 18 = q.dst / 256 % 256 := u8_val _
  have c19 : byt (l20 q) 19 = q.dst % 256 := u8_val _
  unfold hlen n2 n4
  rw [b 0 (by omega), b 1 (by omega), b 2 (by omega), b 3 (by omega), b 4 (by omega), b 5 (by omega), b 6 (by omega), b 7 (by omega), b 8 (by omega), b 9 (by omega), b 12 (by omega), b 13 (by omega), b 14 (by omega), b 15 (by omega),
    b 16 (by omega), b 17 (by omega), b 18 (by omega), b 19 (by omega), c0, c1, c2, c3, c4, c5, c6, c7, c8, c9, c12, c13, c14, c15, c16, c17, c18, c19]
  clear b c0 c1 c2 c3 c4 c5 c6 c7 c8 c9 c12 c13 c14 c15 c16 c17 c18 c19 h
  have h4 : head4 q % 4 = 0 := by omega
  refine ⟨by omega, by omega, by omega, by omega, by omega, by omega, by omega, by omega, by omega, by omega⟩
theorem back_take (n : Nat) (hn : n = 20 + q.opt.length) : (bld4 q ++ more).take n = hd4 q (size4 q) (sum4 q) := by
  rw [bld4, List.append_assoc, List.take_left' (by rw [hd4_len, hn])]
theorem back_raw (h : chk4 q = 0) : raw4 (bld4 q ++ more) = q := by
  obtain ⟨f0, f1, f2, f3, f4, f5, f6, f7, f8, f9⟩ := back_fields (more := more) h
  obtain ⟨⟨a1, a2, a3, a4, a5, a6, a7, a8, a9, a10, a11, a12, a13, a14, a15, a16, a17, a18⟩, hs, ho⟩ := chk4_ok h
  have hh : head4 q = 20 + (q.opt.length : Int) := rfl
  have hz : size4 q = head4 q + (q.dat.length : Int) := rfl
  have hl : (bld4 q ++ more).length = 20 + q.opt.length + q.dat.length + more.length := by rw [List.length_append, bld4_len]
  have d1 : (head4 q).toNat = 20 + q.opt.length := by omega
  have d2 : (min (size4 q) ((bld4 q ++ more).length : Int)).toNat = 20 + q.opt.length + q.dat.length := by rw [hl]; omega
  have e1 : (bld4 q ++ more).take (20 + q.opt.length + q.dat.length) = bld4 q := List.take_left' (by rw [bld4_len])
  have e2 : (bld4 q).drop (20 + q.opt.length) = q.dat := by rw [bld4, List.drop_left' (by rw [hd4_len])]
  have e3 : (hd4 q (size4 q) (sum4 q)).drop 20 = q.opt := by rw [hd4_l20, List.drop_left' (l20_len q)]
  have g1 : flags4 q % 8192 * 8 = q.off := by unfold flags4 bit; split <;> split <;> omega
  have g2 : decide (flags4 q / 16384 % 2 = 1) = q.df := by
    rw [Bool.eq_iff_iff, decide_eq_true_iff]; unfold flags4 bit
    cases q.df <;> cases q.mf <;> simp <;> omega
  have g3 : decide (flags4 q / 8192 % 2 = 1) = q.mf := by
    rw [Bool.eq_iff_iff, decide_eq_true_iff]; unfold flags4 bit
    cases q.df <;> cases q.mf <;> simp <;> omega
  unfold raw4 fl4
  rw [f0, f2, f3, f4, f5, f6, f7, f8, f9, d1, d2, e1, e2, back_take _ rfl, e3, g1, g2, g3]
theorem back_ok (h : chk4 q = 0) : prsE (bld4 q ++ more) false = 0 ∧ prsV (bld4 q ++ more) false = q := by
  have hraw := back_raw (more := more) h
  obtain ⟨f0, f1, f2, f3, f4, f5, f6, f7, f8, f9⟩ := back_fields (more := more) h
  obtain ⟨⟨a1, a2, a3, a4, a5, a6, a7, a8, a9, a10, a11, a12, a13, a14, a15, a16, a17, a18⟩, hs, ho⟩ := chk4_ok h
  have hh : head4 q = 20 + (q.opt.length : Int) := rfl
  have hz : size4 q = head4 q + (q.dat.length : Int) := rfl
  have hl : (bld4 q ++ more).length = 20 + q.opt.length + q.dat.length + more.length := by rw [List.length_append, bld4_len]
  have hf : flags4 q < 32768 := by unfold flags4 bit; split <;> split <;> omega
  have hb : bad4 (bld4 q ++ more) false = 0 := by
    unfold bad4
    rw [if_neg (by omega), f0, f1, f2, f3, if_neg (by omega), if_neg (by rw [hl]; omega), if_neg (by omega), if_neg ?_]
    rw [show (head4 q).toNat = 20 + q.opt.length from by omega, back_take _ rfl, head_right]; simp
  have he : prsE (bld4 q ++ more) false = 0 := by
    unfold prsE
    rw [if_pos hb, hraw, if_neg (by rw [h]; simp)]
  exact ⟨he, by rw [prsV, if_pos he, hraw]⟩
end
end Go.Proofs.YtpoigngpdcmipaaGreat
namespace Go.Proofs.YtpoigngpdcmipaaGreat
open Go.RowKit
theorem put_two {bs : List UInt8} {n : Int} (h0 : 0 ≤ n) (h1 : n ≤ 65535) : putB bs n 2 = bs ++ be2 n := by
  rw [putB, if_pos (fitsB_iff.2 ⟨by omega, by omega, h0, by simp [pw]; omega⟩), ← digs_two h0]; rfl
theorem put_four {bs : List UInt8} {n : Int} (h0 : 0 ≤ n) (h1 : n < 4294967296) : putB bs n 4 = bs ++ be4 n := by
  rw [putB, if_pos (fitsB_iff.2 ⟨by omega, by omega, h0, by simp [pw]; omega⟩), ← digs_four h0]; rfl
theorem putB_le {bs : List UInt8} {n s : Int} {K : Nat} (h : bs.length ≤ K) (hs : s.toNat ≤ 4) : (putB bs n s).length ≤ K + 4 := by
  rw [putB]; split
  · rw [List.length_append, digs_length]; omega
  · omega
theorem arg_own {w : World} {base c : Nat} {A : Option Addr} {bs : List UInt8} (h : w.ownsRow base 5 1 (.slice A bs.length c) bs.length (row bs)) : Arg w w.heap.size A c bs := by
  refine ⟨Rd.of_own rfl h, ?_, fun e => ?_⟩
  · rcases h.2 with ⟨hv, h0⟩ | ⟨g, cap, cur, hv, _, _, hle, _⟩
    · omega
    · injection hv with h1 h2 h3; omega
  · rcases h.2 with ⟨hv, h0⟩ | ⟨g, cap, cur, hv, _, _, hle, _⟩
    · injection hv
    · injection hv with h1 h2 h3; rw [e] at h1; cases h1
theorem own_base {w : World} {base base' e s n : Nat} {v : Value} {xs : List Value} (h : w.ownsRow base' e s v n xs) (hb : base ≤ base') : w.ownsRow base e s v n xs := by
  obtain ⟨hl, h0 | ⟨g, cap, cur, hv, hg, r⟩⟩ := h
  · exact ⟨hl, .inl h0⟩
  · exact ⟨hl, .inr ⟨g, cap, cur, hv, by omega, r⟩⟩
theorem own_made {w : World} {base n : Nat} {v : Value} {xs : List Value} {bs : List UInt8} (h : w.ownsRow base 5 1 v n xs) (hn : n = bs.length) (hx : xs = row bs) : ∃ A c, v = .slice A bs.length c ∧ w.ownsRow base 5 1 (.slice A bs.length c) bs.length (row bs) := by
  subst hn; subst hx
  rcases h.2 with ⟨hv, h0⟩ | ⟨g, cap, cur, hv, _⟩
  · rw [hv] at h; exact ⟨none, 0, by rw [hv, h0], by rw [h0] at h ⊢; exact h⟩
  · rw [hv] at h; exact ⟨_, _, hv, h⟩
section
variable (q : P4) (A : Option Addr) (c : Nat) (A' : Option Addr) (c' : Nat) (w : World)
set_option maxRecDepth 100000 in
set_option maxHeartbeats 8000000 in
theorem r5hd (B : Nat) (size sum : Int) (hq : arg4 q) (hs0 : 0 ≤ size) (hs1 : size ≤ 65535) (hm0 : 0 ≤ sum) (hm1 : sum ≤ 65535) (hO : Arg w B A c q.opt) (hB : B ≤ w.heap.size) :
    Calls Tryz.prog 52 #[v4v q A c A' c', .int .i64 size, .int .i64 sum] w fun e w' => ∃ v, e = .returned v ∧ Made w w' v (hd4 q size sum) := by
  have hBl : Below w.heap.size w (w.alloc (.cells (v4a q A c A' c') 46)) := (Below.refl w.heap.size w).alloc (Nat.le_refl _) _
  have hAt := At4.new (q := q) (A := A) (c := c) (A' := A') (c' := c') w
  have hz : (w.alloc (.cells (v4a q A c A' c') 46)).heap.size = w.heap.size + 1 := by simp
  have h2 := hAt.off; have h7 := hAt.df; have h8 := hAt.mf
  obtain ⟨a1, a2, a3, a4, a5, a6, a7, a8, a9, a10, a11, a12, a13, a14, a15, a16, a17, a18⟩ := hq
  have ho : q.opt.length ≤ 1000000 := by omega
  unfold v4v
  rw [show #[Value.int .i64 q.tos, .int .i64 q.id, .int .i64 q.off, .int .i64 q.ttl, .int .i64 q.proto, .int .i64 q.src, .int .i64 q.dst, .bool q.df, .bool q.mf, .slice A q.opt.length c, .slice A' q.dat.length c'] = v4a q A c A' c' from rfl]
  go_enter Tryz.func52, Tryz.ntmps52
  go_upto_if 13 with fail
  generalize w.alloc (.cells (v4a q A c A' c') 46) = W at *
  have td : Int.tdiv q.off 8 = q.off / 8 := Int.tdiv_eq_ediv_of_nonneg a13
  have HF := Lib.hid (show flags4 q = q.off / 8 + bit q.df 16384 + bit q.mf 8192 from rfl)
  obtain ⟨D, hD⟩ : ∃ D, D = q.df := ⟨_, rfl⟩
  obtain ⟨M, hM⟩ : ∃ M, M = q.mf := ⟨_, rfl⟩
  rw [← hD] at h7 HF ⊢
  rw [← hM] at h8 HF
  obtain ⟨F1, hF1⟩ : ∃ n, n = q.off / 8 + bit D 16384 := ⟨_, rfl⟩
  have bD : 0 ≤ bit D 16384 ∧ bit D 16384 ≤ 16384 := by unfold bit; cases D <;> simp
  have bM : 0 ≤ bit M 8192 ∧ bit M 8192 ≤ 8192 := by unfold bit; cases M <;> simp
  have hfb : 0 ≤ flags4 q ∧ flags4 q < 32768 := by rw [HF.out]; omega
  rw [← hF1] at HF
  have hf1 : 0 ≤ F1 ∧ F1 < 24576 := by omega
  have HF1 := Lib.hid hF1
  clear hD hM hF1 a18
  go_cut [7] from 9 (fun s w' => s = .int .i64 F1 ∧ w' = W)
  case first =>
    cases D
    · have e1 := Lib.hid (show F1 = q.off / 8 by rw [HF1.out]; simp [bit])
      go_wp2_with fail
      go_meet
      exact ⟨by rw [e1.out], rfl⟩
    · have e1 := Lib.hid (show F1 = q.off / 8 + 16384 by rw [HF1.out]; simp [bit])
      go_wp2_with fail
      go_meet
      exact ⟨by rw [e1.out], rfl⟩
  case rest =>
    obtain ⟨hs7, hwc⟩ := hcut
    subst hs7; rw [hwc]; clear hwc
    go_upto_if 17 with fail
    go_cut [7] from 9 (fun s w' => s = .int .i64 (flags4 q) ∧ w' = W)
    case first =>
      cases M
      · have e1 := Lib.hid (show flags4 q = F1 by rw [HF.out]; simp [bit])
        go_wp2_with fail
        go_meet
        exact ⟨by rw [e1.out], rfl⟩
      · have e1 := Lib.hid (show flags4 q = F1 + 8192 by rw [HF.out]; simp [bit])
        go_wp2_with fail
        go_meet
        exact ⟨by rw [e1.out], rfl⟩
    case rest =>
      obtain ⟨hs7, hwc⟩ := hcut
      subst hs7; rw [hwc]; clear hwc
      clear HF HF1 hf1 bD bM h7 h8 h2
      go_wp2_with fail
      refine wp_region_held_drew (S := fun w' => Below W.heap.size W w') (by kernel_rfl) (Below.refl _ W).drew (fun hS => ?_)
      refine held_pure (i := 0) (oi := ⟨some 20, _, _, _, _, _⟩) rfl (by kernel_rfl) (by kernel_rfl) (by kernel_rfl) (fun _ _ _ h => h) (by rfl) (fun w hSw => run_load_v4 rfl rfl (hAt.below hSw (by omega)) rfl) hS (fun hS => ?_)
      try go_frame
      refine held_pure (i := 5) (oi := ⟨some 25, _, _, _, _, _⟩) rfl (by kernel_rfl) (by kernel_rfl) (by kernel_rfl) (fun _ _ _ h => h) (by rfl) (v := ?_) (fun w hSw => ?_) hS (fun hS => ?_)
      rotate_left
      · go_simp; try with_reducible rfl
      try go_frame
      refine held_pure (i := 6) (oi := ⟨some 26, _, _, _, _, _⟩) rfl (by kernel_rfl) (by kernel_rfl) (by kernel_rfl) (fun _ _ _ h => h) (by rfl) (fun w hSw => run_load_int rfl rfl (hAt.below hSw (by omega)).tos) hS (fun hS => ?_)
      try go_frame
      refine held_pure (i := 7) (oi := ⟨some 27, _, _, _, _, _⟩) rfl (by kernel_rfl) (by kernel_rfl) (by kernel_rfl) (fun _ _ _ h => h) (by rfl) (v := ?_) (fun w hSw => ?_) hS (fun hS => ?_)
      rotate_left
      · go_simp; try with_reducible rfl
      try go_frame
      refine wpAnyH_ready (rs := [1]) (by kernel_rfl) (by simp) (AllReadyH.cons (o := ⟨some 21, _, _, _, _, _⟩) rfl (fun K hK => ?_) AllReadyH.nil)
      rw [if_pos (by rfl)]
      go_simp
      refine (r5head q A c A' c' _ ho).mono ?_
      rintro e w1 ⟨rfl, x1⟩
      show K _ _
      refine hK.out _ _ (below_step hS x1) (fun hS => ?_)
      clear hK K
      try go_frame
      refine held_pure (i := 2) (oi := ⟨some 22, _, _, _, _, _⟩) rfl (by kernel_rfl) (by kernel_rfl) (by kernel_rfl) (fun _ _ _ h => h) (by rfl) (v := ?_) (fun w hSw => ?_) hS (fun hS => ?_)
      rotate_left
      · go_simp; try with_reducible rfl
      try go_frame
      refine held_pure (i := 3) (oi := ⟨some 23, _, _, _, _, _⟩) rfl (by kernel_rfl) (by kernel_rfl) (by kernel_rfl) (fun _ _ _ h => h) (by rfl) (v := ?_) (fun w hSw => ?_) hS (fun hS => ?_)
      rotate_left
      · go_simp; try with_reducible rfl
      try go_frame
      refine held_pure (i := 4) (oi := ⟨some 24, _, _, _, _, _⟩) rfl (by kernel_rfl) (by kernel_rfl) (by kernel_rfl) (fun _ _ _ h => h) (by rfl) (v := ?_) (fun w hSw => ?_) hS (fun hS => ?_)
      rotate_left
      · go_simp; try with_reducible rfl
      try go_frame
      refine wpAnyH_ready (rs := [8]) (by kernel_rfl) (by simp) (AllReadyH.cons (o := ⟨some 28, _, _, _, _, _⟩) rfl (fun K hK => ?_) AllReadyH.nil)
      rw [if_pos (by rfl)]
      go_simp
      refine hK.out _ _ (hS.alloc hS.size _) (fun hS => ?_)
      clear hK K
      try go_frame
      refine held_pure (i := 9) (oi := ⟨some 8, _, _, _, _, _⟩) rfl (by kernel_rfl) (by kernel_rfl) (by kernel_rfl) (fun _ _ _ h => h) (by rfl) (v := ?_) (fun w hSw => ?_) hS (fun hS => ?_)
      rotate_left
      · go_simp; try with_reducible rfl
      try go_frame
      refine wpAnyH_done (by kernel_rfl) ?_ _
      go_wp2_with fail
      have hh4 : 20 ≤ head4 q ∧ head4 q ≤ 60 := by unfold head4; omega
      have e1 : IntKind.u8.wrap (IntKind.i64.wrap (64 + IntKind.i64.wrap (Int.tdiv (head4 q) 4))) = ((u8 (64 + head4 q / 4)).toNat : Int) := by
        rw [u8_val, Int.tdiv_eq_ediv_of_nonneg (by omega), IntWalk.i64_in (head4 q / 4) (by omega), IntWalk.i64_in _ (by omega), IntKind.wrap_u8]
      have e2 : IntKind.u8.wrap q.tos = ((u8 q.tos).toNat : Int) := by rw [u8_val, IntKind.wrap_u8]
      rw [e1, e2] at hS ⊢
      have hArg7 : Arg (w1.alloc (.cells #[.int .u8 ((u8 (64 + head4 q / 4)).toNat : Int), .int .u8 ((u8 q.tos).toNat : Int)] 5)) (w1.heap.size + 1) (some ⟨w1.heap.size, 0, none⟩) 2 [u8 (64 + head4 q / 4), u8 q.tos] :=
        ⟨Rd.pair _ rfl rfl, by simp, fun e => by cases e⟩
      have hz7 : (w1.alloc (.cells #[.int .u8 ((u8 (64 + head4 q / 4)).toNat : Int), .int .u8 ((u8 q.tos).toNat : Int)] 5)).heap.size = w1.heap.size + 1 := by simp
      have hb7 := hS
      clear e1 e2 x1
      generalize w1.alloc (.cells #[.int .u8 ((u8 (64 + head4 q / 4)).toNat : Int), .int .u8 ((u8 q.tos).toNat : Int)] 5) = W7 at *
      refine wp_region_held_drew (S := fun w' => Below W7.heap.size W7 w') (by kernel_rfl) (Below.refl _ W7).drew (fun hS => ?_)
      refine held_pure (i := 0) (oi := ⟨some 29, _, _, _, _, _⟩) rfl (by kernel_rfl) (by kernel_rfl) (by kernel_rfl) (fun _ _ _ h => h) (by rfl) (v := ?_) (fun w hSw => ?_) hS (fun hS => ?_)
      rotate_left
      · go_simp; try with_reducible rfl
      try go_frame
      refine held_pure (i := 1) (oi := ⟨some 30, _, _, _, _, _⟩) rfl (by kernel_rfl) (by kernel_rfl) (by kernel_rfl) (fun _ _ _ h => h) (by rfl) (v := ?_) (fun w hSw => ?_) hS (fun hS => ?_)
      rotate_left
      · go_simp; try with_reducible rfl
      try go_frame
      refine held_pure (i := 3) (oi := ⟨some 32, _, _, _, _, _⟩) rfl (by kernel_rfl) (by kernel_rfl) (by kernel_rfl) (fun _ _ _ h => h) (by rfl) (v := ?_) (fun w hSw => ?_) hS (fun hS => ?_)
      rotate_left
      · go_simp; try with_reducible rfl
      try go_frame
      refine held_pure (i := 4) (oi := ⟨some 33, _, _, _, _, _⟩) rfl (by kernel_rfl) (by kernel_rfl) (by kernel_rfl) (fun _ _ _ h => h) (by rfl) (fun w hSw => run_load_int rfl rfl (hAt.below (hb7.trans (hSw.mono hb7.size)) (by omega)).id) hS (fun hS => ?_)
      try go_frame
      refine held_pure (i := 6) (oi := ⟨some 35, _, _, _, _, _⟩) rfl (by kernel_rfl) (by kernel_rfl) (by kernel_rfl) (fun _ _ _ h => h) (by rfl) (v := ?_) (fun w hSw => ?_) hS (fun hS => ?_)
      rotate_left
      · go_simp; try with_reducible rfl
      try go_frame
      refine wpAnyH_ready (rs := [2]) (by kernel_rfl) (by simp) (AllReadyH.cons (o := ⟨some 31, _, _, _, _, _⟩) rfl (fun K hK => ?_) AllReadyH.nil)
      rw [if_pos (by rfl)]
      go_simp
      refine (rput_any _ _ _ _ size 2 _ (hArg7.drewN 1) (by simp)).mono ?_
      rintro e w72 ⟨v72, rfl, A72, c72, rfl, l72, rd72, ow72, x72⟩
      show K _ _
      refine hK.out _ _ (below_step hS x72) (fun hS => ?_)
      clear hK K
      try go_frame
      refine wpAnyH_ready (rs := [5]) (by kernel_rfl) (by simp) (AllReadyH.cons (o := ⟨some 34, _, _, _, _, _⟩) rfl (fun K hK => ?_) AllReadyH.nil)
      rw [if_pos (by rfl)]
      go_simp
      refine (rput_any _ _ _ _ q.id 2 _ (arg_own ow72) (by exact Nat.le_trans (putB_le (K := 2) (by simp) (by decide)) (by decide))).mono ?_
      rintro e w75 ⟨v75, rfl, A75, c75, rfl, l75, rd75, ow75, x75⟩
      show K _ _
      refine hK.out _ _ (below_step hS x75) (fun hS => ?_)
      clear hK K
      try go_frame
      refine wpAnyH_ready (rs := [7]) (by kernel_rfl) (by simp) (AllReadyH.cons (o := ⟨some 36, _, _, _, _, _⟩) rfl (fun K hK => ?_) AllReadyH.nil)
      rw [if_pos (by rfl)]
      go_simp
      refine (rput_any _ _ _ _ (flags4 q) 2 _ (arg_own ow75) (by exact Nat.le_trans (putB_le (K := 6) (putB_le (K := 2) (by simp) (by decide)) (by decide)) (by decide))).mono ?_
      rintro e w77 ⟨v77, rfl, A77, c77, rfl, l77, rd77, ow77, x77⟩
      show K _ _
      refine hK.out _ _ (below_step hS x77) (fun hS => ?_)
      clear hK K
      try go_frame
      refine held_pure (i := 8) (oi := ⟨some 8, _, _, _, _, _⟩) rfl (by kernel_rfl) (by kernel_rfl) (by kernel_rfl) (fun _ _ _ h => h) (by rfl) (v := ?_) (fun w hSw => ?_) hS (fun hS => ?_)
      rotate_left
      · go_simp; try with_reducible rfl
      try go_frame
      refine wpAnyH_done (by kernel_rfl) ?_ _
      have hW77 : Below W.heap.size W w77 := hb7.trans (hS.mono hb7.size)
      have hsz : W.heap.size ≤ w75.heap.size := by
        have k1 := hb7.size; have k2 := x72.size; have k3 := x75.size
        simp only [World.heap_drewN] at k2; omega
      obtain ⟨b1, hb1⟩ : ∃ b, b = putB (putB (putB [u8 (64 + head4 q / 4), u8 q.tos] size 2) q.id 2) (flags4 q) 2 := ⟨_, rfl⟩
      rw [← hb1] at l77 rd77 ow77 ⊢
      rw [put_two hs0 hs1, put_two a7 a8, put_two hfb.1 (by omega)] at hb1
      have HB1 := Lib.hid hb1
      have hl1 := Lib.hid (show b1.length = 8 by rw [hb1]; simp [be2])
      obtain ⟨b1b, hb1b⟩ : ∃ b, b = b1 ++ [u8 q.ttl, u8 q.proto] := ⟨_, rfl⟩
      have hl1b := Lib.hid (show b1b.length = 10 by rw [hb1b]; simp [hl1.out])
      have HB1b := Lib.hid hb1b
      clear hb1b
      have own77 := own_base ow77 hsz
      have ht := (hAt.below hW77 (by omega)).ttl
      have hp := (hAt.below hW77 (by omega)).proto
      clear hb1 hb7 hS x72 x75 x77 l72 l75 l77 rd72 rd75 rd77 ow72 ow75 ow77 hArg7
      go_wp2_with (first
        | (at_builtin; go_loud (refine append_rd rfl _ _ rfl W.heap.size _ _ _ rfl (own_below own77 ((Below.refl w77.heap.size w77).alloc (Nat.le_refl _) _)) _ (some ⟨_, 0, none⟩) _ [u8 q.ttl, u8 q.proto] rfl (fun e => by cases e) (Rd.pair _ (by rw [u8_val]; omega) (by rw [u8_val]; omega)) (by rw [hl1.out]; simp) (by simp; exact Nat.le_succ_of_le hW77.size) ?_; intro v8 w8 own8 grow8; obtain ⟨A8, c8, rfl, owm8⟩ := own_made (bs := b1b) own8 (by rw [HB1b.out]; simp) (by rw [HB1b.out]; simp [row])))
        | (go_at_call 39; refine (rput_any _ _ _ _ sum 2 _ (arg_own owm8) (by rw [hl1b.out]; decide)).mono ?_; rintro e w9 ⟨v9, rfl, A9, c9, rfl, l9, rd9, ow9, x9⟩))
      have hW8 : Below W.heap.size W w8 := (hW77.alloc hW77.size _).grown grow8 (by simp; exact Nat.le_succ_of_le hW77.size) (fun k hk => own_block_ge own77 k hk)
      obtain ⟨b2, hb2⟩ : ∃ b, b = putB b1b sum 2 := ⟨_, rfl⟩
      rw [← hb2] at rd9 ow9 ⊢
      rw [put_two hm0 hm1] at hb2
      have HB2 := Lib.hid hb2
      have hl2 := Lib.hid (show b2.length = 12 by rw [hb2]; simp [hl1b.out, be2])
      have hb9 : Below W.heap.size W w9 := hW8.trans (x9.mono hW8.size)
      have hArg9 := arg_own ow9
      clear hb2 own77 own8 owm8 rd9 l9 x9 grow8
      refine wp_region_held_drew (S := fun w' => Below w9.heap.size w9 w') (by kernel_rfl) (Below.refl _ w9).drew (fun hS => ?_)
      refine held_pure (i := 0) (oi := ⟨some 48, _, _, _, _, _⟩) rfl (by kernel_rfl) (by kernel_rfl) (by kernel_rfl) (fun _ _ _ h => h) (by rfl) (v := ?_) (fun w hSw => ?_) hS (fun hS => ?_)
      rotate_left
      · go_simp; try with_reducible rfl
      try go_frame
      refine held_pure (i := 1) (oi := ⟨some 49, _, _, _, _, _⟩) rfl (by kernel_rfl) (by kernel_rfl) (by kernel_rfl) (fun _ _ _ h => h) (by rfl) (v := ?_) (fun w hSw => ?_) hS (fun hS => ?_)
      rotate_left
      · go_simp; try with_reducible rfl
      try go_frame
      refine held_pure (i := 2) (oi := ⟨some 50, _, _, _, _, _⟩) rfl (by kernel_rfl) (by kernel_rfl) (by kernel_rfl) (fun _ _ _ h => h) (by rfl) (fun w hSw => run_load_int rfl rfl (hAt.below (hb9.trans (hSw.mono hb9.size)) (by omega)).src) hS (fun hS => ?_)
      try go_frame
      refine held_pure (i := 4) (oi := ⟨some 52, _, _, _, _, _⟩) rfl (by kernel_rfl) (by kernel_rfl) (by kernel_rfl) (fun _ _ _ h => h) (by rfl) (v := ?_) (fun w hSw => ?_) hS (fun hS => ?_)
      rotate_left
      · go_simp; try with_reducible rfl
      try go_frame
      refine held_pure (i := 5) (oi := ⟨some 53, _, _, _, _, _⟩) rfl (by kernel_rfl) (by kernel_rfl) (by kernel_rfl) (fun _ _ _ h => h) (by rfl) (fun w hSw => run_load_int rfl rfl (hAt.below (hb9.trans (hSw.mono hb9.size)) (by omega)).dst) hS (fun hS => ?_)
      try go_frame
      refine wpAnyH_ready (rs := [3]) (by kernel_rfl) (by simp) (AllReadyH.cons (o := ⟨some 51, _, _, _, _, _⟩) rfl (fun K hK => ?_) AllReadyH.nil)
      rw [if_pos (by rfl)]
      go_simp
      refine (rput_any _ _ _ _ q.src 4 _ (hArg9.drewN 1) (by rw [hl2.out]; decide)).mono ?_
      rintro e w93 ⟨v93, rfl, A93, c93, rfl, l93, rd93, ow93, x93⟩
      show K _ _
      refine hK.out _ _ (below_step hS x93) (fun hS => ?_)
      clear hK K
      try go_frame
      refine wpAnyH_ready (rs := [6]) (by kernel_rfl) (by simp) (AllReadyH.cons (o := ⟨some 54, _, _, _, _, _⟩) rfl (fun K hK => ?_) AllReadyH.nil)
      rw [if_pos (by rfl)]
      go_simp
      refine (rput_any _ _ _ _ q.dst 4 _ (arg_own ow93) (by exact Nat.le_trans (putB_le (K := 12) (by rw [hl2.out]; decide) (by decide)) (by decide))).mono ?_
      rintro e w96 ⟨v96, rfl, A96, c96, rfl, l96, rd96, ow96, x96⟩
      show K _ _
      refine hK.out _ _ (below_step hS x96) (fun hS => ?_)
      clear hK K
      try go_frame
      refine held_pure (i := 7) (oi := ⟨some 8, _, _, _, _, _⟩) rfl (by kernel_rfl) (by kernel_rfl) (by kernel_rfl) (fun _ _ _ h => h) (by rfl) (v := ?_) (fun w hSw => ?_) hS (fun hS => ?_)
      rotate_left
      · go_simp; try with_reducible rfl
      try go_frame
      refine wpAnyH_done (by kernel_rfl) ?_ _
      have hW96 : Below W.heap.size W w96 := hb9.trans (hS.mono hb9.size)
      have hsz9 : W.heap.size ≤ w93.heap.size := by
        have k1 := hb9.size; have k2 := x93.size
        simp only [World.heap_drewN] at k2; omega
      obtain ⟨b3, hb3⟩ : ∃ b, b = putB (putB b2 q.src 4) q.dst 4 := ⟨_, rfl⟩
      rw [← hb3] at ow96 ⊢
      rw [put_four a9 a10, put_four a11 a12] at hb3
      have HB3 := Lib.hid hb3
      have hl3 := Lib.hid (show b3.length = 20 by rw [hb3]; simp [hl2.out, be4])
      have own96 := own_base ow96 hsz9
      have hop := (hAt.below hW96 (by omega)).opt
      have hrd := (hO.rd.below (hBl.mono hB)).below (hW96.mono (by omega))
      have hnn := hO.none_
      obtain ⟨b4, hb4⟩ : ∃ b, b = b3 ++ q.opt := ⟨_, rfl⟩
      have HB4 := Lib.hid hb4
      clear hb4
      clear hb3 x93 x96 l93 l96 rd93 rd96 ow93 ow96 hArg9
      go_wp2_with (at_builtin; go_loud (refine append_rd rfl _ _ rfl W.heap.size _ _ _ rfl own96 _ A _ q.opt rfl hnn hrd (by rw [hl3.out]; omega) hW96.size ?_; intro v10 w10 own10 grow10; obtain ⟨A10, c10, rfl, owm10⟩ := own_made (bs := b4) own10 (by rw [HB4.out]; simp) (by rw [HB4.out, row_append])))
      have hW10 : Below W.heap.size W w10 := hW96.grown grow10 hW96.size (fun k hk => own_block_ge own96 k hk)
      go_ret
      have hfin : b4 = hd4 q size sum := by
        rw [HB4.out, HB3.out, HB2.out, HB1b.out, HB1.out]; simp [hd4, hda, hdb, be2, be4]
      rw [← hfin]
      exact ⟨_, rfl, Made.of_own (own_base owm10 (by omega)) (hBl.trans (hW10.mono (by omega)))⟩
end
end Go.Proofs.YtpoigngpdcmipaaGreat
namespace Go.Proofs.YtpoigngpdcmipaaGreat
open Go.RowKit
theorem rof_one (A : Option Addr) (bs : List UInt8) (c B : Nat) (w : World) (h : Rd2 w B A [bs]) (hl : bs.length ≤ 1099511627000) :
    Calls Tryz.prog 49 #[.slice A 1 c] w fun e w' => e = .returned (.int .i64 (65535 - fold (psum [bs]))) ∧ ∃ n, w' = w.drewN n :=
  rof_any A [bs] c B w h (by simpa [bulk] using hl) (by simp)
theorem append_wp {w : World} {o : Oper} {a : Act} {K : Act → World → Prop} {Q : Exit → Act → World → Prop} (s x : Operand)
    (ho : o.op = .call { callee := .builtin .append, args := #[s, x], argTypes := #[22, 22] })
    (base : Nat) (v : Value) (n : Nat) (xs : List Value) (hs : a.eval s = v) (hown : w.ownsRow base 5 1 v n xs)
    (B : Nat) (A : Option Addr) (c : Nat) (bs : List UInt8) (hx : a.eval x = .slice A bs.length c) (hA : A = none → c = 0) (hr : Rd w B A bs)
    (hlen : n + bs.length ≤ 2199023255552) (hbase : base ≤ w.heap.size)
    (h : ∀ v' w', w'.ownsRow base 5 1 v' (n + bs.length) (xs ++ row bs) → w.grownBy w' v.ownBlock → K (a.put o.dst v') w') : o.wp Tryz.prog a w K Q := by
  obtain ⟨i0, hi, hz0, hz1, hz2⟩ := info_parts info_u8
  rcases A with _ | ad
  · have h0 : bs = [] := by
      rcases Nat.eq_zero_or_pos bs.length with e | e
      · exact List.eq_nil_of_length_eq_zero e
      · obtain ⟨_, _, e', _⟩ := hr e; cases e'
    subst h0
    obtain rfl := hA rfl
    have hrun := run_append_owned_none (P := Tryz.prog) (w := w) base 22 o.type 5 i0 1 Tryz.underlying22 hi v n xs hown
    unfold Oper.wp
    simp [execOp, ho, resolve, invoke, builtin, hs, hx, hrun, Result.andThen]
    exact h v w (by simpa [row] using hown) (World.grownBy.refl w _)
  · exact wp_append_own w s x 22 ho base 5 i0 (.int .u8 0) 1 1 Tryz.underlying22 hi hz0 hz1 hz2 rfl (by decide) v n xs hs hown ad bs.length c (row bs) hx
      (by rw [row_length, Nat.mul_one]) hr.src (row_one bs) (by unfold maxLen; omega) (by omega) hbase (fun v' w' h1 h2 _ => h v' w' h1 h2)
section
variable (q : P4) (A : Option Addr) (c : Nat) (A' : Option Addr) (c' : Nat) (w : World)
set_option maxRecDepth 100000 in
set_option maxHeartbeats 8000000 in
theorem r5build (B : Nat) (hO : Arg w B A c q.opt) (hD : Arg w B A' c' q.dat) (hB : B ≤ w.heap.size) (ho : q.opt.length ≤ 1000000) (hd : q.dat.length ≤ 1000000) :
    Calls Tryz.prog 26 #[v4v q A c A' c'] w fun e w' => ∃ v, e = .returned (.tuple #[v, .int .i64 (chk4 q)]) ∧ (chk4 q ≠ 0 → v = .slice none 0 0 ∧ Below w.heap.size w w') ∧ (chk4 q = 0 → Made w w' v (bld4 q)) := by
  have hBl : Below w.heap.size w (w.alloc (.cells (v4a q A c A' c') 46)) := (Below.refl w.heap.size w).alloc (Nat.le_refl _) _
  have hAt := At4.new (q := q) (A := A) (c := c) (A' := A') (c' := c') w
  have hz : (w.alloc (.cells (v4a q A c A' c') 46)).heap.size = w.heap.size + 1 := by simp
  unfold v4v
  rw [show #[Value.int .i64 q.tos, .int .i64 q.id, .int .i64 q.off, .int .i64 q.ttl, .int .i64 q.proto, .int .i64 q.src, .int .i64 q.dst, .bool q.df, .bool q.mf, .slice A q.opt.length c, .slice A' q.dat.length c'] = v4a q A c A' c' from rfl]
  go_enter Tryz.func26, Tryz.ntmps26
  go_upto_region 1 with fail
  have hg := World.alloc_heap_new w (.cells (v4a q A c A' c') 46)
  generalize w.alloc (.cells (v4a q A c A' c') 46) = W at *
  by_cases hc : chk4 q = 0
  · have ha : arg4 q := by
      rcases Decidable.em (arg4 q) with h | h
      · exact h
      · exfalso; rw [chk4, if_neg h] at hc; omega
    have hz1 : size4 q ≤ 65535 := by
      rcases Int.lt_or_le 65535 (size4 q) with h | h
      · exfalso; rw [chk4, if_pos ha, if_pos (.inl h)] at hc; omega
      · exact h
    have hz0 : 0 ≤ size4 q := by unfold size4 head4; omega
    obtain ⟨hs0, hs1⟩ := sum4_bd q
    have HC := Lib.hid hc
    have ho40 : q.opt.length ≤ 40 := by obtain ⟨_, _, _, _, _, _, _, _, _, _, _, _, _, _, _, h, _⟩ := ha; exact h
    clear hc
    go_upto_region 4 with (first
      | ((with_reducible show wpList _ _ _ (Oper.mk _ (Op.load _ _) _ _ _ _ :: _) _ _); refine v4_load (g := w.heap.size) rfl hg rfl ?_)
      | (go_at_call 51; refine (r5check q A c A' c' _ ho hd).mono ?_; rintro e w1 ⟨rfl, x1⟩; rw [HC.out]))
    have hb1 : Below W.heap.size W w1 := x1
    clear x1
    refine wp_region_held_drew (S := fun w' => Below w1.heap.size w1 w') (by kernel_rfl) (Below.refl _ w1).drew (fun hS => ?_)
    refine held_pure (i := 0) (oi := ⟨some 11, _, _, _, _, _⟩) rfl (by kernel_rfl) (by kernel_rfl) (by kernel_rfl) (fun _ _ _ h => h) (by rfl) (fun w hSw => run_load_v4 rfl rfl (hAt.below (hb1.trans (hSw.mono hb1.size)) (by omega)) rfl) hS (fun hS => ?_)
    try go_frame
    refine held_pure (i := 1) (oi := ⟨some 12, _, _, _, _, _⟩) rfl (by kernel_rfl) (by kernel_rfl) (by kernel_rfl) (fun _ _ _ h => h) (by rfl) (fun w hSw => run_load_v4 rfl rfl (hAt.below (hb1.trans (hSw.mono hb1.size)) (by omega)) rfl) hS (fun hS => ?_)
    try go_frame
    refine wpAnyH_ready (rs := [2]) (by kernel_rfl) (by simp) (AllReadyH.cons (o := ⟨some 13, _, _, _, _, _⟩) rfl (fun K hK => ?_) AllReadyH.nil)
    rw [if_pos (by rfl)]
    go_simp
    refine (r5size q A c A' c' _ ho hd).mono ?_
    rintro e w2 ⟨rfl, x2⟩
    show K _ _
    refine hK.out _ _ (below_step hS x2) (fun hS => ?_)
    clear hK K
    try go_frame
    refine wpAnyH_ready (rs := [3]) (by kernel_rfl) (by simp) (AllReadyH.cons (o := ⟨some 14, _, _, _, _, _⟩) rfl (fun K hK => ?_) AllReadyH.nil)
    rw [if_pos (by rfl)]
    go_simp
    refine (r5hd q A c A' c' _ B (size4 q) 0 ha hz0 hz1 (by omega) (by omega) ((hO.below (hBl.mono hB)).below (((hb1).trans (hS.mono (hb1).size)).mono (by omega))) (by have k1 := hS.size; have k2 := (hb1).size; omega)).mono ?_
    rintro e wh ⟨vh, rfl, Ah, ch, rfl, lh, rdh, owh, xh⟩
    show K _ _
    refine hK.out _ _ (below_step hS xh) (fun hS => ?_)
    clear hK K
    try go_frame
    refine wpAnyH_ready (rs := [4]) (by kernel_rfl) (by simp) (AllReadyH.cons (o := ⟨some 15, _, _, _, _, _⟩) rfl (fun K hK => ?_) AllReadyH.nil)
    rw [if_pos (by rfl)]
    go_simp
    refine hK.out _ _ (hS.alloc hS.size _) (fun hS => ?_)
    clear hK K
    try go_frame
    refine wpAnyH_ready (rs := [5]) (by kernel_rfl) (by simp) (AllReadyH.cons (o := ⟨some 16, _, _, _, _, _⟩) rfl (fun K hK => ?_) AllReadyH.nil)
    rw [if_pos (by rfl)]
    go_simp
    refine (rof_one _ (hd4 q (size4 q) 0) _ _ _ (Rd2.one (World.alloc_heap_new wh _) (Nat.lt_succ_self _) (((arg_own owh).alloc (Nat.le_refl _) _).more (Nat.le_succ _))) (by rw [hd4_len]; omega)).mono ?_
    rintro e w5 ⟨rfl, n5, rfl⟩
    show K _ _
    refine hK.out _ _ (below_drewN hS _) (fun hS => ?_)
    clear hK K
    try go_frame
    refine held_pure (i := 6) (oi := ⟨some 5, _, _, _, _, _⟩) rfl (by kernel_rfl) (by kernel_rfl) (by kernel_rfl) (fun _ _ _ h => h) (by rfl) (v := ?_) (fun w hSw => ?_) hS (fun hS => ?_)
    rotate_left
    · go_simp; try with_reducible rfl
    try go_frame
    refine wpAnyH_done (by kernel_rfl) ?_ _
    go_wp2_with fail
    have hb5 := hb1.trans (hS.mono hb1.size)
    generalize (wh.alloc (.cells #[.slice Ah (hd4 q (size4 q) 0).length ch] 22)).drewN n5 = W5 at hS hb5 ⊢
    have eqs : (65535 - fold (psum [hd4 q (size4 q) 0])) = sum4 q := rfl
    rw [eqs]
    refine wp_region_held_drew (S := fun w' => Below W5.heap.size W5 w') (by kernel_rfl) (Below.refl _ W5).drew (fun hS => ?_)
    refine held_pure (i := 0) (oi := ⟨some 17, _, _, _, _, _⟩) rfl (by kernel_rfl) (by kernel_rfl) (by kernel_rfl) (fun _ _ _ h => h) (by rfl) (fun w hSw => run_load_v4 rfl rfl (hAt.below (hb5.trans (hSw.mono hb5.size)) (by omega)) rfl) hS (fun hS => ?_)
    try go_frame
    refine held_pure (i := 1) (oi := ⟨some 18, _, _, _, _, _⟩) rfl (by kernel_rfl) (by kernel_rfl) (by kernel_rfl) (fun _ _ _ h => h) (by rfl) (fun w hSw => run_load_v4 rfl rfl (hAt.below (hb5.trans (hSw.mono hb5.size)) (by omega)) rfl) hS (fun hS => ?_)
    try go_frame
    refine held_pure (i := 3) (oi := ⟨some 20, _, _, _, _, _⟩) rfl (by kernel_rfl) (by kernel_rfl) (by kernel_rfl) (fun _ _ _ h => h) (by rfl) (v := ?_) (fun w hSw => ?_) hS (fun hS => ?_)
    rotate_left
    · go_simp; try with_reducible rfl
    try go_frame
    refine held_pure (i := 5) (oi := ⟨some 22, _, _, _, _, _⟩) rfl (by kernel_rfl) (by kernel_rfl) (by kernel_rfl) (fun _ _ _ h => h) (by rfl) (v := ?_) (fun w hSw => ?_) hS (fun hS => ?_)
    rotate_left
    · go_simp; try with_reducible rfl
    try go_frame
    refine held_pure (i := 6) (oi := ⟨some 23, _, _, _, _, _⟩) rfl (by kernel_rfl) (by kernel_rfl) (by kernel_rfl) (fun _ _ _ h => h) (by rfl) (fun w hSw => run_load_sl rfl rfl (hAt.below (hb5.trans (hSw.mono hb5.size)) (by omega)).dat) hS (fun hS => ?_)
    try go_frame
    refine wpAnyH_ready (rs := [2]) (by kernel_rfl) (by simp) (AllReadyH.cons (o := ⟨some 19, _, _, _, _, _⟩) rfl (fun K hK => ?_) AllReadyH.nil)
    rw [if_pos (by rfl)]
    go_simp
    refine (r5size q A c A' c' _ ho hd).mono ?_
    rintro e w2 ⟨rfl, x2⟩
    show K _ _
    refine hK.out _ _ (below_step hS x2) (fun hS => ?_)
    clear hK K
    try go_frame
    refine wpAnyH_ready (rs := [4]) (by kernel_rfl) (by simp) (AllReadyH.cons (o := ⟨some 21, _, _, _, _, _⟩) rfl (fun K hK => ?_) AllReadyH.nil)
    rw [if_pos (by rfl)]
    go_simp
    refine (r5hd q A c A' c' _ B (size4 q) (sum4 q) ha hz0 hz1 hs0 hs1 ((hO.below (hBl.mono hB)).below (((hb5).trans (hS.mono (hb5).size)).mono (by omega))) (by have k1 := hS.size; have k2 := (hb5).size; omega)).mono ?_
    rintro e wg ⟨vg, rfl, Ag, cg, rfl, lg, rdg, owg, xg⟩
    have og := own_base owg hS.size
    show K _ _
    refine hK.out _ _ (below_step hS xg) (fun hS => ?_)
    clear hK K
    try go_frame
    refine wpAnyH_ready (rs := [7]) (by kernel_rfl) (by simp) (AllReadyH.cons (o := ⟨some 24, _, _, _, _, _⟩) rfl (fun K hK => ?_) AllReadyH.nil)
    rw [if_pos (by rfl)]
    refine append_wp _ _ rfl W5.heap.size _ _ _ rfl og w.heap.size A' c' q.dat rfl hD.none_ (((hD.below (hBl.mono hB)).below ((hb5.trans (hS.mono hb5.size)).mono (by omega))).rd.more hB) (by rw [hd4_len]; omega) hS.size ?_
    intro v7 w7 own7 grow7
    obtain ⟨A7, c7, rfl, owm7⟩ := own_made (bs := bld4 q) own7 (by simp [bld4]) (by rw [bld4, row_append])
    refine hK.out _ _ (hS.grown grow7 hS.size (fun k hk => own_block_ge og k hk)) (fun hS => ?_)
    clear hK K
    try go_frame
    refine held_pure (i := 8) (oi := ⟨some 2, _, _, _, _, _⟩) rfl (by kernel_rfl) (by kernel_rfl) (by kernel_rfl) (fun _ _ _ h => h) (by rfl) (v := ?_) (fun w hSw => ?_) hS (fun hS => ?_)
    rotate_left
    · go_simp; try with_reducible rfl
    try go_frame
    refine held_pure (i := 9) (oi := ⟨some 3, _, _, _, _, _⟩) rfl (by kernel_rfl) (by kernel_rfl) (by kernel_rfl) (fun _ _ _ h => h) (by rfl) (v := ?_) (fun w hSw => ?_) hS (fun hS => ?_)
    rotate_left
    · go_simp; try with_reducible rfl
    try go_frame
    refine wpAnyH_done (by kernel_rfl) ?_ _
    go_wp2_with fail
    go_ret2
    exact ⟨.slice A7 (bld4 q).length c7, by rw [HC.out]; rfl, fun h => absurd HC.out h, fun _ => Made.of_own (own_base owm7 (by have := hb5.size; omega)) (hBl.trans ((hb5.trans (hS.mono hb5.size)).mono (by omega)))⟩
  · have hne : (chk4 q == 0) = false := by simpa using hc
    have HN := Lib.hid hc
    clear hc
    go_wp2_with (first
      | ((with_reducible show wpList _ _ _ (Oper.mk _ (Op.load _ _) _ _ _ _ :: _) _ _); refine v4_load (g := w.heap.size) rfl hg rfl ?_)
      | (go_at_call 51; refine (r5check q A c A' c' _ ho hd).mono ?_; rintro e w1 ⟨rfl, x1⟩))
    go_ret2
    exact ⟨_, rfl, fun _ => ⟨rfl, hBl.trans (x1.mono (by omega))⟩, fun h => absurd h HN.out⟩
end
end Go.Proofs.YtpoigngpdcmipaaGreat
namespace Go.Proofs.YtpoigngpdcmipaaGreat
open Go.RowKit
theorem get_two {b : List UInt8} {i : Nat} (h : i + 2 ≤ b.length) : getV b (i : Int) 2 = n2 b i := by
  have e := getV_ok (bs := b) (a := i) (s := 2) (by omega) (by omega) h
  rw [show (2 : Int) = ((2 : Nat) : Int) from rfl, e, num_two _ (by simp; omega), byt_cut _ _ _ (by omega), byt_cut _ _ _ (by omega)]; rfl
theorem byt_drop (b : List UInt8) (a k : Nat) : byt (b.drop a) k = byt b (a + k) := by simp [byt]
theorem get_four {b : List UInt8} {i : Nat} (h : i + 4 ≤ b.length) : getV b (i : Int) 4 = n4 b i := by
  have e := getV_ok (bs := b) (a := i) (s := 4) (by omega) (by omega) h
  have hl : (b.drop i).length = b.length - i := by simp
  rw [show (4 : Int) = ((4 : Nat) : Int) from rfl, e, num_take _ (k := 3) (by omega), num_take _ (k := 2) (by omega), num_take _ (k := 1) (by omega), num_take _ (k := 0) (by omega), List.take_zero]
  simp only [byt_drop, n4, num, List.foldl_nil, Nat.add_zero]; omega
theorem n2_bd (b : List UInt8) (i : Nat) : 0 ≤ n2 b i ∧ n2 b i ≤ 65535 := by
  have h1 := byt_lo b i; have h2 := byt_hi b i; have h3 := byt_lo b (i + 1); have h4 := byt_hi b (i + 1)
  unfold n2; omega
theorem own_setCell {w : World} {base e sz n : Nat} {v : Value} {xs : List Value} (h : w.ownsRow base e sz v n xs) {p : Addr} {u : Value} (hp : p.block < base) : (w.setCell p u).ownsRow base e sz v n xs := by
  obtain ⟨h1, h2⟩ := h
  refine ⟨h1, ?_⟩
  rcases h2 with h2 | ⟨g, cap, cur, hv, hg, hh, r⟩
  · exact .inl h2
  · exact .inr ⟨g, cap, cur, hv, hg, (heap_setCell_other w p g u (by omega)).trans hh, r⟩
theorem own_setRow {w : World} {base e sz n : Nat} {v : Value} {xs : List Value} (h : w.ownsRow base e sz v n xs) {g : Nat} {cs : Array Value} (hp : g < base) : (w.setRow g cs).ownsRow base e sz v n xs := by
  obtain ⟨h1, h2⟩ := h
  refine ⟨h1, ?_⟩
  rcases h2 with h2 | ⟨k, cap, cur, hv, hg, hh, r⟩
  · exact .inl h2
  · exact .inr ⟨k, cap, cur, hv, hg, (setRow_other w g k cs (by omega)).trans hh, r⟩
theorem below_row {B : Nat} {a w : World} (h : Below B a w) {g : Nat} {cs : Array Value} (hg : B ≤ g) : Below B a (w.setRow g cs) :=
  ⟨h.os, h.tape, h.output, by rw [size_setRow]; exact h.size, fun k hk => (setRow_other w g k cs (by omega)).trans (h.block k hk)⟩
theorem v4_result {fn : Func} {p : Tmp} {tmps : Array Value} {w : World} {g : Nat} {t : TypeId} {cs : Array Value} {fr : Nat × Nat} (h : fn.results = #[.cell p 46])
    (hp : tmps.getD p undef = .pointer (some ⟨g, 0, none⟩)) (hg : w.heap[g]? = some (.cells cs t fr)) (hl : cs.size = 11) : (results fn tmps).run Tryz.prog w = .ok (.agg cs) w :=
  results_cell_row h tmps w g t cs fr _ hp hg Tryz.underlying46 rfl (by rw [hl]; kernel_rfl)
end Go.Proofs.YtpoigngpdcmipaaGreat
namespace Go.Proofs.YtpoigngpdcmipaaGreat
open Go.RowKit
def allB (bs : List Bool) : Bool := bs.all id
theorem index_all (g n : Nat) (w : World) (hn : n ≤ 1000) (h : ∀ j, j < n → w.cell? ⟨g, j, none⟩ = some (.bool true)) :
    Calls Tryz.prog 118 #[.slice (some ⟨g, 0, none⟩) n n, .bool false] w fun e w' => e = .returned (.int .i64 (-1)) ∧ w = w' := by
  have H := Lib.hid h
  clear h
  go_enter Tryz.func118, Tryz.ntmps118
  go_wp2
  go_loop [8] (fun i => ∃ k : Nat, k ≤ n ∧ i = .int .i64 k) (fun i => n - (intOf i).toNat)
  case atStart => exact ⟨0, Nat.zero_le _, rfl⟩
  case round =>
    obtain ⟨k, hk, rfl⟩ := hrel
    by_cases hlt : k < n
    · have hc := H.out k hlt
      go_wp2
      go_round
      case rel => exact ⟨k + 1, by omega, by simp⟩
      case measure => simp [intOf]; omega
    · obtain rfl : k = n := by omega
      go_wp2
      go_ret
      exact ⟨rfl, rfl⟩
theorem index_some (g n k0 : Nat) (w : World) (hn : n ≤ 1000) (hk0 : k0 < n) (h : ∀ j, j < k0 → w.cell? ⟨g, j, none⟩ = some (.bool true)) (h0 : w.cell? ⟨g, k0, none⟩ = some (.bool false)) :
    Calls Tryz.prog 118 #[.slice (some ⟨g, 0, none⟩) n n, .bool false] w fun e w' => e = .returned (.int .i64 (k0 : Int)) ∧ w = w' := by
  have H := Lib.hid h
  have H0 := Lib.hid h0
  clear h h0
  go_enter Tryz.func118, Tryz.ntmps118
  go_wp2
  go_loop [8] (fun i => ∃ k : Nat, k ≤ k0 ∧ i = .int .i64 k) (fun i => n - (intOf i).toNat)
  case atStart => exact ⟨0, Nat.zero_le _, rfl⟩
  case round =>
    obtain ⟨k, hk, rfl⟩ := hrel
    have hlt : k < n := by omega
    by_cases hlt2 : k < k0
    · have hc := H.out k hlt2
      go_wp2
      go_round
      case rel => exact ⟨k + 1, by omega, by simp⟩
      case measure => simp [intOf]; omega
    · obtain rfl : k = k0 := by omega
      have hc := H0.out
      go_wp2
      go_ret
      exact ⟨rfl, rfl⟩
theorem first_false : ∀ (bs : List Bool), allB bs = false → ∃ k, k < bs.length ∧ (∀ j, j < k → bs[j]? = some true) ∧ bs[k]? = some false
  | [], h => by cases h
  | false :: l, _ => ⟨0, by simp, fun j hj => absurd hj (Nat.not_lt_zero j), rfl⟩
  | true :: l, h => by
    obtain ⟨k, h1, h2, h3⟩ := first_false l (by simpa [allB] using h)
    refine ⟨k + 1, by simp; omega, fun j hj => ?_, by simpa using h3⟩
    cases j with
    | zero => rfl
    | succ j => simpa using h2 j (by omega)
theorem contains_any (g : Nat) (bs : List Bool) (w : World) (hn : bs.length ≤ 1000) (h : w.rangeAt g 0 (bs.map Value.bool)) :
    Calls Tryz.prog 96 #[.slice (some ⟨g, 0, none⟩) bs.length bs.length, .bool false] w fun e w' => e = .returned (.bool (!allB bs)) ∧ w = w' := by
  have hc : ∀ j b, bs[j]? = some b → w.cell? ⟨g, j, none⟩ = some (.bool b) := fun j b hj => by
    have := h j (.bool b) (by rw [List.getElem?_map, hj]; rfl)
    rwa [Nat.zero_add] at this
  cases ha : allB bs
  · obtain ⟨k, h1, h2, h3⟩ := first_false bs ha
    have c := index_some g bs.length k w hn h1 (fun j hj => hc j true (h2 j hj)) (hc k false h3)
    clear h hc h2 h3
    go_enter Tryz.func96, Tryz.ntmps96
    go_wp2_with (go_at_call 118; refine c.mono ?_; rintro e w' ⟨rfl, rfl⟩)
    go_ret
    exact ⟨rfl, rfl⟩
  · have hall : ∀ j, j < bs.length → bs[j]? = some true := fun j hj => by
      have := (List.all_eq_true.1 ha) bs[j] (List.getElem_mem hj)
      rw [List.getElem?_eq_getElem hj]; simpa using this
    have c := index_all g bs.length w hn (fun j hj => hc j true (hall j hj))
    clear h hc hall
    go_enter Tryz.func96, Tryz.ntmps96
    go_wp2_with (go_at_call 118; refine c.mono ?_; rintro e w' ⟨rfl, rfl⟩)
    go_ret
    exact ⟨rfl, rfl⟩
theorem all6_any (g : Nat) (bs : List Bool) (w : World) (hn : bs.length ≤ 1000) (h : w.rangeAt g 0 (bs.map Value.bool)) :
    Calls Tryz.prog 66 #[.slice (some ⟨g, 0, none⟩) bs.length bs.length] w fun e w' => e = .returned (.bool (allB bs)) ∧ w = w' := by
  have c := contains_any g bs w hn h
  clear h
  go_enter Tryz.func66, Tryz.ntmps66
  go_wp2_with (go_at_call 96; refine c.mono ?_; rintro e w' ⟨rfl, rfl⟩)
  go_ret
  exact ⟨ret_bool (by simp), rfl⟩
theorem all4_any (g : Nat) (bs : List Bool) (w : World) (hn : bs.length ≤ 1000) (h : w.rangeAt g 0 (bs.map Value.bool)) :
    Calls Tryz.prog 109 #[.slice (some ⟨g, 0, none⟩) bs.length bs.length] w fun e w' => e = .returned (.bool (allB bs)) ∧ w = w' := by
  have c := contains_any g bs w hn h
  clear h
  go_enter Tryz.func109, Tryz.ntmps109
  go_wp2_with (go_at_call 96; refine c.mono ?_; rintro e w' ⟨rfl, rfl⟩)
  go_ret
  exact ⟨ret_bool (by simp), rfl⟩
end Go.Proofs.YtpoigngpdcmipaaGreat
namespace Go.Proofs.YtpoigngpdcmipaaGreat
open Go.RowKit
def okF (f : F6) : Prop := 0 ≤ f.next ∧ f.next ≤ 255 ∧ 0 ≤ f.off ∧ f.off ≤ 65528 ∧ f.off % 8 = 0 ∧ 0 ≤ f.id ∧ f.id < 4294967296
instance (f : F6) : Decidable (okF f) := by unfold okF; infer_instance
def offB (f : F6) : Bool := decide (0 ≤ f.off) && decide (f.off ≤ 65528)
def mulB (f : F6) : Bool := decide (f.off % 8 = 0)
theorem okF_iff (f : F6) : okF f ↔ (fitsB f.next 1 = true ∧ offB f = true ∧ mulB f = true ∧ fitsB f.id 4 = true) := by
  unfold okF offB mulB
  simp only [Bool.and_eq_true, fitsB_iff, decide_eq_true_eq, pw]
  constructor
  · rintro ⟨a1, a2, a3, a4, a5, a6, a7⟩
    refine ⟨⟨?_, ?_, ?_, ?_⟩, ⟨?_, ?_⟩, ?_, ?_, ?_, ?_, ?_⟩ <;> (try simp) <;> omega
  · rintro ⟨⟨_, _, f1, f2⟩, ⟨o1, o2⟩, m, _, _, g1, g2⟩
    simp at f2 g2
    refine ⟨?_, ?_, ?_, ?_, ?_, ?_, ?_⟩ <;> omega
def bytF (f : F6) : List UInt8 := [u8 f.next, 0] ++ be2 (f.off + bit f.more 1) ++ be4 f.id
def bldF (f : F6) : List UInt8 := if okF f then bytF f else []
def errF (f : F6) : Int := if okF f then 0 else 1
def frz : F6 := ⟨0, 0, 0, false⟩
def rawF (b : List UInt8) : F6 := ⟨byt b 0, n2 b 2 / 8 * 8, n4 b 4, decide (n2 b 2 % 2 = 1)⟩
def prsF (b : List UInt8) : F6 := if b.length < 8 then frz else rawF b
def rstF (b : List UInt8) : List UInt8 := if b.length < 8 then [] else b.drop 8
def prsG (b : List UInt8) : Int := if b.length < 8 then 3 else 0
theorem backF (f : F6) (more : List UInt8) (h : okF f) : prsF (bldF f ++ more) = f ∧ rstF (bldF f ++ more) = more ∧ prsG (bldF f ++ more) = 0 := by
  obtain ⟨h1, h2, h3, h4, h5, h6, h7⟩ := h
  have hb : bldF f = bytF f := by rw [bldF, if_pos ⟨h1, h2, h3, h4, h5, h6, h7⟩]
  have hl : ¬ (bytF f ++ more).length < 8 := by simp [bytF, be2, be4]
  rw [hb]
  refine ⟨?_, ?_, by rw [prsG, if_neg hl]⟩
  · rw [prsF, if_neg hl]
    obtain ⟨nx, off, id, mr⟩ := f
    simp only at h1 h2 h3 h4 h5 h6 h7
    have e0 : byt (bytF ⟨nx, off, id, mr⟩ ++ more) 0 = nx := by
      have := u8_val nx
      simp [bytF, byt]; omega
    have e2 : n2 (bytF ⟨nx, off, id, mr⟩ ++ more) 2 = off + bit mr 1 := by
      have a := u8_val ((off + bit mr 1) / 256)
      have b := u8_val (off + bit mr 1)
      have c : 0 ≤ bit mr 1 ∧ bit mr 1 ≤ 1 := by unfold bit; cases mr <;> simp
      simp only [bytF, n2, byt, be2, be4, List.cons_append, List.nil_append, List.getElem?_cons_succ, List.getElem?_cons_zero, Option.getD_some]
      omega
    have e4 : n4 (bytF ⟨nx, off, id, mr⟩ ++ more) 4 = id := by
      have a := u8_val (id / 16777216)
      have b := u8_val (id / 65536)
      have c := u8_val (id / 256)
      have d := u8_val id
      simp only [bytF, n4, byt, be2, be4, List.cons_append, List.nil_append, List.getElem?_cons_succ, List.getElem?_cons_zero, Option.getD_some]
      omega
    rw [rawF, e0, e2, e4]
    have f1 : (off + bit mr 1) / 8 * 8 = off := by cases mr <;> simp [bit] <;> omega
    have f2 : decide ((off + bit mr 1) % 2 = 1) = mr := by cases mr <;> simp [bit] <;> omega
    rw [f1, f2]
  · rw [rstF, if_neg hl]
    simp [bytF, be2, be4]
def arg6 (q : P6) : Prop := 0 ≤ q.traffic ∧ q.traffic ≤ 255 ∧ 0 ≤ q.next ∧ q.next ≤ 255 ∧ 0 ≤ q.hop ∧ q.hop ≤ 255 ∧ 0 ≤ q.flow ∧ q.flow < 1048576
instance (q : P6) : Decidable (arg6 q) := by unfold arg6; infer_instance
def chk6 (q : P6) : Int := if arg6 q then (if (q.dat.length : Int) > 65535 then 6 else 0) else 1
def size6 (q : P6) : Int := 40 + (q.dat.length : Int)
def fst6 (q : P6) : Int := 1610612736 + q.traffic * 1048576 + q.flow
def hd6 (q : P6) : List UInt8 := be4 (fst6 q) ++ be2 (q.dat.length : Int) ++ [u8 q.next, u8 q.hop]
def bld6 (q : P6) : List UInt8 := hd6 q ++ q.src ++ q.dst ++ q.dat
theorem hd6_len (q : P6) : (hd6 q).length = 8 := by simp [hd6, be2, be4]
theorem bld6_len (q : P6) (hs : q.src.length = 16) (hd : q.dst.length = 16) : (bld6 q).length = 40 + q.dat.length := by
  simp [bld6, hd6_len, hs, hd]; omega
def p6z : P6 := ⟨0, 0, 0, 0, nul, nul, []⟩
def bad6 (b : List UInt8) (quoted : Bool) : Int :=
  if b.length < 40 then 3
  else if byt b 0 / 16 ≠ 6 then 4
  else if quoted = false ∧ n2 b 4 > (b.length : Int) - 40 then 3
  else 0
def end6 (b : List UInt8) : Nat := 40 + min (n2 b 4).toNat (b.length - 40)
def raw6 (b : List UInt8) : P6 := ⟨byt b 0 % 16 * 16 + byt b 1 / 16, byt b 1 % 16 * 65536 + byt b 2 * 256 + byt b 3, byt b 6, byt b 7, (b.drop 8).take 16, (b.drop 24).take 16, (b.take (end6 b)).drop 40⟩
def prs6 (b : List UInt8) (quoted : Bool) : P6 := if bad6 b quoted = 0 then raw6 b else p6z
theorem back6 (q : P6) (more : List UInt8) (hs : q.src.length = 16) (hd : q.dst.length = 16) (h : chk6 q = 0) : bad6 (bld6 q ++ more) false = 0 ∧ raw6 (bld6 q ++ more) = q := by
  have ha : arg6 q := by
    rcases Decidable.em (arg6 q) with h' | h'
    · exact h'
    · rw [chk6, if_neg h'] at h; omega
  have hl : (q.dat.length : Int) ≤ 65535 := by
    rcases Int.lt_or_le 65535 (q.dat.length : Int) with h' | h'
    · rw [chk6, if_pos ha, if_pos h'] at h; omega
    · exact h'
  obtain ⟨a1, a2, a3, a4, a5, a6, a7, a8⟩ := ha
  have hlen : (bld6 q ++ more).length = 40 + q.dat.length + more.length := by rw [List.length_append, bld6_len q hs hd]
  have b0 : byt (bld6 q ++ more) 0 = fst6 q / 16777216 % 256 := by have := u8_val (fst6 q / 16777216); simpa [bld6, hd6, be4, byt] using this
  have b1 : byt (bld6 q ++ more) 1 = fst6 q / 65536 % 256 := by have := u8_val (fst6 q / 65536); simpa [bld6, hd6, be4, byt] using this
  have b2 : byt (bld6 q ++ more) 2 = fst6 q / 256 % 256 := by have := u8_val (fst6 q / 256); simpa [bld6, hd6, be4, byt] using this
  have b3 : byt (bld6 q ++ more) 3 = fst6 q % 256 := by have := u8_val (fst6 q); simpa [bld6, hd6, be4, byt] using this
  have b4 : byt (bld6 q ++ more) 4 = (q.dat.length : Int) / 256 % 256 := by have := u8_val ((q.dat.length : Int) / 256); simpa [bld6, hd6, be4, be2, byt] using this
  have b5 : byt (bld6 q ++ more) 5 = (q.dat.length : Int) % 256 := by have := u8_val (q.dat.length : Int); simpa [bld6, hd6, be4, be2, byt] using this
  have b6 : byt (bld6 q ++ more) 6 = q.next % 256 := by have := u8_val q.next; simpa [bld6, hd6, be4, be2, byt] using this
  have b7 : byt (bld6 q ++ more) 7 = q.hop % 256 := by have := u8_val q.hop; simpa [bld6, hd6, be4, be2, byt] using this
  have hn : n2 (bld6 q ++ more) 4 = (q.dat.length : Int) := by rw [n2, b4, b5]; omega
  have hf : fst6 q = 1610612736 + q.traffic * 1048576 + q.flow := rfl
  have he : end6 (bld6 q ++ more) = 40 + q.dat.length := by rw [end6, hn, hlen]; simp; omega
  have hd8 : (bld6 q ++ more).drop 8 = q.src ++ (q.dst ++ (q.dat ++ more)) := by
    rw [bld6, List.append_assoc, List.append_assoc, List.append_assoc, ← hd6_len q, List.drop_left]
  have hd24 : (bld6 q ++ more).drop 24 = q.dst ++ (q.dat ++ more) := by
    rw [show 24 = 8 + 16 from rfl, ← List.drop_drop, hd8, ← hs, List.drop_left]
  have hd40 : (bld6 q ++ more).drop 40 = q.dat ++ more := by
    rw [show 40 = 24 + 16 from rfl, ← List.drop_drop, hd24, ← hd, List.drop_left]
  refine ⟨?_, ?_⟩
  · rw [bad6, if_neg (by rw [hlen]; omega), if_neg (by rw [b0, hf]; omega), if_neg (by rw [hn, hlen]; omega)]
  · have e1 : ((bld6 q ++ more).take (end6 (bld6 q ++ more))).drop 40 = q.dat := by
      rw [he, List.drop_take, hd40]; simp
    have e2 : ((bld6 q ++ more).drop 8).take 16 = q.src := by rw [hd8, ← hs, List.take_left]
    have e3 : ((bld6 q ++ more).drop 24).take 16 = q.dst := by rw [hd24, ← hd, List.take_left]
    have e4 : byt (bld6 q ++ more) 0 % 16 * 16 + byt (bld6 q ++ more) 1 / 16 = q.traffic := by rw [b0, b1, hf]; omega
    have e5 : byt (bld6 q ++ more) 1 % 16 * 65536 + byt (bld6 q ++ more) 2 * 256 + byt (bld6 q ++ more) 3 = q.flow := by rw [b1, b2, b3, hf]; omega
    have e6 : byt (bld6 q ++ more) 6 = q.next := by rw [b6]; omega
    have e7 : byt (bld6 q ++ more) 7 = q.hop := by rw [b7]; omega
    rw [raw6, e1, e2, e3, e4, e5, e6, e7]
end Go.Proofs.YtpoigngpdcmipaaGreat
namespace Go.Proofs.YtpoigngpdcmipaaGreat
open Go.RowKit
def fra (f : F6) : Array Value := #[.int .i64 f.next, .int .i64 f.off, .int .i64 f.id, .bool f.more]
def AtF (W : World) (g : Nat) (f : F6) : Prop := W.rangeAt g 0 (fra f).toList
section
variable {W : World} {g : Nat} {f : F6}
theorem AtF.new (w : World) : AtF (w.alloc (.cells (fra f) 42)) w.heap.size f := fun j v hj => by
  rw [Nat.zero_add, World.cell?_alloc_new, ← hj, Array.getElem?_toList]
theorem AtF.below {w : World} {B : Nat} (h : AtF W g f) (hb : Below B W w) (hg : g < B) : AtF w g f := range_below h hg hb
theorem AtF.next (h : AtF W g f) : W.cell? ⟨g, 0, none⟩ = some (.int .i64 f.next) := h 0 _ rfl
theorem AtF.off (h : AtF W g f) : W.cell? ⟨g, 1, none⟩ = some (.int .i64 f.off) := h 1 _ rfl
theorem AtF.id (h : AtF W g f) : W.cell? ⟨g, 2, none⟩ = some (.int .i64 f.id) := h 2 _ rfl
theorem AtF.more (h : AtF W g f) : W.cell? ⟨g, 3, none⟩ = some (.bool f.more) := h 3 _ rfl
end
theorem range_bools (w : World) (bs : List Bool) (t : TypeId) : (w.alloc (.cells (bs.map Value.bool).toArray t)).rangeAt w.heap.size 0 (bs.map Value.bool) := fun j v hj => by
  rw [Nat.zero_add, World.cell?_alloc_new, ← hj, List.getElem?_toArray]
theorem all6_new (bs : List Bool) (cs : Array Value) (n : Nat) (t : TypeId) (w : World) (hc : cs = (bs.map Value.bool).toArray) (hn : n = bs.length) (hl : bs.length ≤ 1000) :
    Calls Tryz.prog 66 #[.slice (some ⟨w.heap.size, 0, none⟩) n n] (w.alloc (.cells cs t)).drew fun e w' => e = .returned (.bool (allB bs)) ∧ (w.alloc (.cells cs t)).drew = w' := by
  subst hc; subst hn
  exact all6_any w.heap.size bs _ hl (range_bools w bs t)
theorem all4_new (bs : List Bool) (cs : Array Value) (n : Nat) (t : TypeId) (w : World) (hc : cs = (bs.map Value.bool).toArray) (hn : n = bs.length) (hl : bs.length ≤ 1000) :
    Calls Tryz.prog 109 #[.slice (some ⟨w.heap.size, 0, none⟩) n n] (w.alloc (.cells cs t)).drew fun e w' => e = .returned (.bool (allB bs)) ∧ (w.alloc (.cells cs t)).drew = w' := by
  subst hc; subst hn
  exact all4_any w.heap.size bs _ hl (range_bools w bs t)
theorem get6_any (A : Option Addr) (bs : List UInt8) (c B : Nat) (at_ s : Int) (w : World) (h : Rd w B A bs) (hl : bs.length ≤ 1099511627776) (hc : bs.length ≤ c) :
    Calls Tryz.prog 31 #[.slice A bs.length c, .int .i64 at_, .int .i64 s] w fun e w' => e = .returned (.int .i64 (getV bs at_ s)) ∧ w = w' := by
  go_enter Tryz.func31, Tryz.ntmps31
  go_wp2_with (go_at_call 62; refine (get_any A bs c B at_ s _ h hl hc).mono ?_; rintro e w' ⟨rfl, rfl⟩)
  go_ret
  exact ⟨rfl, rfl⟩
theorem get4_any (A : Option Addr) (bs : List UInt8) (c B : Nat) (at_ s : Int) (w : World) (h : Rd w B A bs) (hl : bs.length ≤ 1099511627776) (hc : bs.length ≤ c) :
    Calls Tryz.prog 107 #[.slice A bs.length c, .int .i64 at_, .int .i64 s] w fun e w' => e = .returned (.int .i64 (getV bs at_ s)) ∧ w = w' := by
  go_enter Tryz.func107, Tryz.ntmps107
  go_wp2_with (go_at_call 62; refine (get_any A bs c B at_ s _ h hl hc).mono ?_; rintro e w' ⟨rfl, rfl⟩)
  go_ret
  exact ⟨rfl, rfl⟩
theorem fresh_any (A : Option Addr) (bs : List UInt8) (c B : Nat) (w : World) (h : Arg w B A c bs) (hl : bs.length ≤ 1099511627776) :
    Calls Tryz.prog 61 #[.slice A bs.length c] w fun e w' => ∃ v, e = .returned v ∧ Made w w' v bs := by
  have hr := h.rd
  have hn := h.none_
  go_enter Tryz.func61, Tryz.ntmps61
  go_wp2_with (at_builtin; refine append_rd rfl _ _ rfl w.heap.size _ _ _ rfl (World.ownsRow_nil _ _ _ _) B A c bs rfl hn hr (by omega) (Nat.le_refl _) ?_; intro v1 w1 hown hgrow)
  go_ret
  have hb1 : Below w.heap.size w w1 := (Below.refl _ w).grown hgrow (Nat.le_refl _) (fun k hk => by cases (show (none : Option Nat) = some k from hk))
  exact ⟨_, rfl, Made.of_own (by simpa using hown) hb1⟩
def putL (ps : List (Int × Int)) : List UInt8 := ps.foldl (fun b x => putB b x.1 x.2) []
theorem putL_snoc (ps : List (Int × Int)) (x : Int × Int) : putL (ps ++ [x]) = putB (putL ps) x.1 x.2 := by simp [putL]
theorem putL_len (ps : List (Int × Int)) (h : ∀ x ∈ ps, x.2.toNat ≤ 4) : (putL ps).length ≤ 4 * ps.length := by
  have key : ∀ (ps : List (Int × Int)) (b : List UInt8), (∀ x ∈ ps, x.2.toNat ≤ 4) → (ps.foldl (fun b x => putB b x.1 x.2) b).length ≤ b.length + 4 * ps.length := by
    intro ps
    induction ps with
    | nil => intro b _; simp
    | cons x l ih =>
      intro b hx
      have h1 := ih (putB b x.1 x.2) (fun y hy => hx y (by simp [hy]))
      have h2 := putB_le (n := x.1) (Nat.le_refl b.length) (hx x (by simp))
      simp only [List.foldl_cons, List.length_cons]; omega
  simpa [putL] using key ps [] h
theorem putL_take (ps : List (Int × Int)) {k : Nat} {x : Int × Int} (h : ps[k]? = some x) : putL (ps.take (k + 1)) = putB (putL (ps.take k)) x.1 x.2 := by
  rw [List.take_add_one, h]; exact putL_snoc _ _
theorem made_shape {w w' : World} {v : Value} {bs : List UInt8} (h : Made w w' v bs) : ∃ A c, v = .slice A bs.length c ∧ Arg w' w'.heap.size A c bs ∧ w'.ownsRow w.heap.size 5 1 (.slice A bs.length c) bs.length (row bs) ∧ Below w.heap.size w w' := by
  obtain ⟨A, c, rfl, hl, hr, ho, hb⟩ := h
  exact ⟨A, c, rfl, arg_own ho, ho, hb⟩
set_option maxHeartbeats 4000000 in
theorem put6_any (g : Nat) (ps : List (Int × Int)) (w : World) (hn : ps.length ≤ 10) (hs : ∀ x ∈ ps, x.2.toNat ≤ 4) (hg : g < w.heap.size)
    (h : ∀ (k : Nat) (x : Int × Int), ps[k]? = some x → w.cell? ⟨g, k * 2, none⟩ = some (.int .i64 x.1) ∧ w.cell? ⟨g, k * 2 + 1, none⟩ = some (.int .i64 x.2)) :
    Calls Tryz.prog 119 #[.slice (some ⟨g, 0, none⟩) ps.length ps.length] w fun e w' => ∃ v, e = .returned v ∧ Made w w' v (putL ps) := by
  have H := Lib.hid h
  clear h
  have HL := Lib.hid (fun k => (putL_len (ps.take k) (fun x hx => hs x (List.mem_of_mem_take hx))))
  clear hs
  go_enter Tryz.func119, Tryz.ntmps119
  go_wp2
  go_loopw [3, 8] (fun v i W => ∃ (k c : Nat) (A : Option Addr) (bs : List UInt8), k ≤ ps.length ∧ i = .int .i64 (k : Int) ∧ Hid (bs = putL (ps.take k)) ∧ bs.length ≤ 40 ∧ v = .slice A bs.length c ∧ W.ownsRow w.heap.size 5 1 (.slice A bs.length c) bs.length (row bs) ∧ Below w.heap.size w W) (fun _ i _ => ps.length - (intOf i).toNat)
  case atStart => exact ⟨0, 0, none, [], Nat.zero_le _, rfl, Lib.hid rfl, by simp, rfl, World.ownsRow_nil _ _ _ _, Below.refl _ _⟩
  case round =>
    obtain ⟨k, c, A, bs, hk, rfl, HB, hb40, rfl, hown, hbel⟩ := hrel
    by_cases hlt : k < ps.length
    · obtain ⟨x, hx⟩ : ∃ x, ps[k]? = some x := ⟨_, List.getElem?_eq_getElem hlt⟩
      obtain ⟨c1, c2⟩ := H.out k x hx
      have HX := Lib.hid hx
      clear hx
      have d1 := (hbel.cell (p := ⟨g, k * 2, none⟩) hg).trans c1
      have d2 := (hbel.cell (p := ⟨g, k * 2 + 1, none⟩) hg).trans c2
      clear c1 c2
      obtain ⟨n, s⟩ := x
      simp only at d1 d2
      go_wp2_with (go_at_call 148; refine (put_any A bs c _ n s _ (arg_own (own_below hown ((Below.refl _ _).alloc (Nat.le_refl _) _) )).rd (Nat.le_refl _) (by omega)).mono ?_; rintro e w2 ⟨v2, rfl, A2, c2, rfl, l2, rd2, ow2, x2⟩)
      have hz2 := x2.size
      have bel2 : Below w.heap.size w w2 := (hbel.alloc hbel.size _).trans (x2.mono (by simp; exact Nat.le_succ_of_le hbel.size))
      have own2 : w2.ownsRow w.heap.size 5 1 (.slice A2 (putB bs n s).length c2) (putB bs n s).length (row (putB bs n s)) := own_base ow2 (by simp; exact Nat.le_succ_of_le hbel.size)
      have HP := Lib.hid (putL_take ps HX.out)
      have h40 : (putB bs n s).length ≤ 40 := by
        rw [HB.out, ← HP.out]
        have := HL.out (k + 1)
        have h2 : (ps.take (k + 1)).length ≤ ps.length := by rw [List.length_take]; omega
        omega
      go_roundw
      case rel => exact ⟨k + 1, c2, A2, _, by omega, by simp, Lib.hid (by rw [HP.out, HB.out]), h40, rfl, own2, bel2⟩
      case measure => simp [intOf]; omega
    · obtain rfl : k = ps.length := by omega
      go_wp2
      go_ret
      have e : bs = putL ps := by rw [HB.out, List.take_length]
      subst e
      exact ⟨_, rfl, Made.of_own hown hbel⟩
theorem Made.after {w W w' : World} {v : Value} {bs : List UInt8} (h : Made W w' v bs) (hb : Below w.heap.size w W) : Made w w' v bs := by
  obtain ⟨A, c, rfl, hl, hr, ho, hB⟩ := h
  exact Made.of_own (own_base ho hb.size) (hb.trans (hB.mono hb.size))
theorem Made.below {w w' : World} {v : Value} {bs : List UInt8} (h : Made w w' v bs) : Below w.heap.size w w' := by
  obtain ⟨A, c, rfl, hl, hr, ho, hB⟩ := h
  exact hB
theorem putR_F (f : F6) (p : Int) (h : okF f) (hp : p = f.off + bit f.more 1) : putB (putB [u8 f.next, 0] p 2) f.id 4 = bldF f := by
  rw [bldF, if_pos h]
  obtain ⟨h1, h2, h3, h4, h5, h6, h7⟩ := h
  have hb : 0 ≤ bit f.more 1 ∧ bit f.more 1 ≤ 1 := by unfold bit; cases f.more <;> simp
  subst hp
  rw [put_two (by omega) (by omega), put_four h6 h7, bytF]
def flat : List (Int × Int) → List Value
  | [] => []
  | x :: l => .int .i64 x.1 :: .int .i64 x.2 :: flat l
theorem flat_get : ∀ (ps : List (Int × Int)) (k : Nat) (x : Int × Int), ps[k]? = some x → (flat ps)[k * 2]? = some (.int .i64 x.1) ∧ (flat ps)[k * 2 + 1]? = some (.int .i64 x.2)
  | [], k, x, h => by simp at h
  | y :: l, 0, x, h => by simp at h; subst h; exact ⟨rfl, rfl⟩
  | y :: l, k + 1, x, h => by
    have := flat_get l k x (by simpa using h)
    rw [show (k + 1) * 2 = k * 2 + 1 + 1 from by omega]
    simpa [flat] using this
theorem put6_new (ps : List (Int × Int)) (cs : Array Value) (n : Nat) (t : TypeId) (w : World) (hc : cs = (flat ps).toArray) (hn : n = ps.length) (hl : ps.length ≤ 10) (hs : ∀ x ∈ ps, x.2.toNat ≤ 4) :
    Calls Tryz.prog 119 #[.slice (some ⟨w.heap.size, 0, none⟩) n n] (w.alloc (.cells cs t)) fun e w' => ∃ v, e = .returned v ∧ Made w w' v (putL ps) := by
  subst hc; subst hn
  refine (put6_any w.heap.size ps _ hl hs (by simp) fun k x hx => ?_).mono ?_
  · obtain ⟨h1, h2⟩ := flat_get ps k x hx
    exact ⟨by rw [World.cell?_alloc_new, List.getElem?_toArray]; exact h1, by rw [World.cell?_alloc_new, List.getElem?_toArray]; exact h2⟩
  · rintro e w' ⟨v, he, hm⟩
    exact ⟨v, he, hm.after ((Below.refl _ w).alloc (Nat.le_refl _) _)⟩
theorem put_one {bs : List UInt8} {n : Int} (h0 : 0 ≤ n) (h1 : n ≤ 255) : putB bs n 1 = bs ++ [u8 n] := by
  rw [putB, if_pos (fitsB_iff.2 ⟨by omega, by omega, h0, by simp [pw]; omega⟩)]
  simp [digs, List.range_succ, u8_dig h0, pw]
theorem putL_F (f : F6) (p : Int) (h : okF f) (hp : p = f.off + bit f.more 1) : putL [(f.next, 1), (0, 1), (p, 2), (f.id, 4)] = bldF f := by
  rw [bldF, if_pos h]
  obtain ⟨h1, h2, h3, h4, h5, h6, h7⟩ := h
  have hb : 0 ≤ bit f.more 1 ∧ bit f.more 1 ≤ 1 := by unfold bit; cases f.more <;> simp
  subst hp
  simp only [putL, List.foldl_cons, List.foldl_nil]
  rw [put_one h1 h2, put_one (by omega) (by omega), put_two (by omega) (by omega), put_four h6 h7, bytF]
  rfl
end Go.Proofs.YtpoigngpdcmipaaGreat
namespace Go.Proofs.YtpoigngpdcmipaaGreat
open Go.RowKit
def cutA (A : Option Addr) (c lo : Nat) : Option Addr := if c = lo then A else A.map (·.add lo)
theorem Arg.cut {w : World} {B : Nat} {A : Option Addr} {c : Nat} {bs : List UInt8} (h : Arg w B A c bs) (lo hi : Nat) (hh : hi ≤ bs.length) : Arg w B (cutA A c lo) (c - lo) ((bs.take hi).drop lo) := by
  have hcap := h.cap
  refine ⟨fun hn => ?_, by simp; omega, fun e => ?_⟩
  · have hl : lo < hi := by simp at hn; omega
    obtain ⟨b, off, rfl, hb, hc⟩ := h.rd (by omega)
    refine ⟨b, off + lo, by simp [cutA, show ¬ c = lo from by omega, add_off], hb, fun j hj => ?_⟩
    have hj' : j < hi - lo := by simp at hj; omega
    rw [Nat.add_assoc, hc (lo + j) (by omega)]
    simp only [byt, List.getElem?_drop, List.getElem?_take]
    rw [if_pos (by omega)]
  · unfold cutA at e
    split at e
    · have := h.none_ e; omega
    · have : A = none := by cases A <;> simp at e ⊢
      have := h.none_ this; omega
theorem Arg.cut_lo {w : World} {B : Nat} {A : Option Addr} {c : Nat} {bs : List UInt8} (h : Arg w B A c bs) (lo : Nat) : Arg w B (cutA A c lo) (c - lo) (bs.drop lo) := by
  have := h.cut lo bs.length (Nat.le_refl _)
  rwa [List.take_length] at this
theorem Arg.cut_hi {w : World} {B : Nat} {A : Option Addr} {c : Nat} {bs : List UInt8} (h : Arg w B A c bs) (hi : Nat) (hh : hi ≤ bs.length) : Arg w B A c (bs.take hi) := by
  have hcap := h.cap
  refine ⟨fun hn => ?_, by simp; omega, h.none_⟩
  obtain ⟨b, off, rfl, hb, hc⟩ := h.rd (by simp at hn; omega)
  refine ⟨b, off, rfl, hb, fun j hj => ?_⟩
  have hj' : j < hi := by simp at hj; omega
  rw [hc j (by omega)]
  simp only [byt, List.getElem?_take]
  rw [if_pos hj']
theorem slice_bytes : Tryz.prog.underlying 22 = some (.slice (Tryz.prog.elem 22)) := by kernel_rfl
theorem run_cut_l {o : Oper} {a : Act} {w : World} {x lo : Operand} {A : Option Addr} {n c l m : Nat} (ho : o.op = .slice 22 x (some lo) none none) (hx : a.eval x = .slice A n c) (hl : a.eval lo = .int .i64 (l : Int)) (hn : l ≤ n) (hm : m = n - l) :
    (execOp a.eval o).run Tryz.prog w = .ok (.value (.slice (cutA A c l) m (c - l))) w := by
  subst hm
  have h1 := run_slice_l (P := Tryz.prog) (w := w) 22 A n c slice_bytes .i64 (l : Int) (by omega) (by omega)
  unfold execOp
  simp only [ho, hx, hl, Option.map, Sem.run_bind, run_sliceAt_slice _ _ _ _ _ _ slice_bytes, h1]
  go_simp
  rfl
theorem run_cut_lh {o : Oper} {a : Act} {w : World} {x lo hi : Operand} {A : Option Addr} {n c m : Nat} {l h : Int} (ho : o.op = .slice 22 x (some lo) (some hi) none) (hx : a.eval x = .slice A n c) (hl : a.eval lo = .int .i64 l) (hh : a.eval hi = .int .i64 h)
    (h0 : 0 ≤ l) (h1 : l ≤ h) (h2 : h ≤ (c : Int)) (hm : m = h.toNat - l.toNat) :
    (execOp a.eval o).run Tryz.prog w = .ok (.value (.slice (cutA A c l.toNat) m (c - l.toNat))) w := by
  subst hm
  have h1 := run_slice_lh (P := Tryz.prog) (w := w) 22 A n c slice_bytes .i64 .i64 l h h0 h1 h2
  unfold execOp
  simp only [ho, hx, hl, hh, Option.map, Sem.run_bind, run_sliceAt_slice _ _ _ _ _ _ slice_bytes, h1]
  go_simp
  rfl
theorem run_cut_h {o : Oper} {a : Act} {w : World} {x hi : Operand} {A : Option Addr} {n c m : Nat} {h : Int} (ho : o.op = .slice 22 x none (some hi) none) (hx : a.eval x = .slice A n c) (hh : a.eval hi = .int .i64 h)
    (h0 : 0 ≤ h) (h2 : h ≤ (c : Int)) (hm : m = h.toNat) :
    (execOp a.eval o).run Tryz.prog w = .ok (.value (.slice A m c)) w := by
  subst hm
  have h1 := run_slice_h (P := Tryz.prog) (w := w) 22 A n c slice_bytes .i64 h h0 h2
  unfold execOp
  simp only [ho, hx, hh, Option.map, Sem.run_bind, run_sliceAt_slice _ _ _ _ _ _ slice_bytes, h1]
  go_simp
theorem wpList_val {P : Program} {ops : Array Oper} {rest : List Oper} {o : Oper} {a : Act} {w : World} {Q : Exit → Act → World → Prop} {v : Value} (hg : o.guard = none) (hrun : (execOp a.eval o).run P w = .ok (.value v) w)
    (h : wpList P ops Q rest (a.put o.dst v) w) : wpList P ops Q (o :: rest) a w :=
  wpList_plain hg fun K hK => by unfold Oper.wp; rw [hrun]; exact hK _ _ h
def OwnR (w0 : World) (t n : Nat) (w' : World) : Prop := Below w0.heap.size w0 w' ∧ ∃ cs : Array Value, cs.size = n ∧ w'.heap[w0.heap.size]? = some (.cells cs t (0, 0))
section
variable {w0 w w' : World} {t n : Nat}
theorem OwnR.new (w : World) (cs : Array Value) (t : TypeId) : OwnR w t cs.size (w.alloc (.cells cs t)) := ⟨(Below.refl _ w).alloc (Nat.le_refl _) _, cs, rfl, World.alloc_heap_new w _⟩
theorem OwnR.b (h : OwnR w0 t n w) : Below w0.heap.size w0 w := h.1
theorem OwnR.lt (h : OwnR w0 t n w) : w0.heap.size < w.heap.size := by obtain ⟨_, cs, _, hg⟩ := h; exact heap_lt hg
theorem OwnR.drew (h : OwnR w0 t n w) : OwnR w0 t n w.drew := ⟨h.1.drew, h.2⟩
theorem OwnR.step (h : OwnR w0 t n w) (hb : Below w.heap.size w w') : OwnR w0 t n w' := by
  have hl := h.lt
  obtain ⟨hB, cs, hn, hg⟩ := h
  exact ⟨hB.trans (hb.mono hB.size), cs, hn, (hb.block _ hl).trans hg⟩
theorem OwnR.alloc (h : OwnR w0 t n w) (o : Obj) : OwnR w0 t n (w.alloc o) := h.step ((Below.refl _ w).alloc (Nat.le_refl _) _)
theorem OwnR.row (h : OwnR w0 t n w) (cs : Array Value) (hc : cs.size = n) : OwnR w0 t n (w.setRow w0.heap.size cs) := by
  obtain ⟨hB, cs', hn, hg⟩ := h
  exact ⟨below_row hB (Nat.le_refl _), cs, hc, setRow_heap _ _ _ _ _ _ hg⟩
end
theorem Made.row {w W w' : World} {v : Value} {bs : List UInt8} {cs : Array Value} (h : Made W w' v bs) (hb : Below w.heap.size w W) (hg : w.heap.size < W.heap.size) : Made w (w'.setRow w.heap.size cs) v bs := by
  obtain ⟨A, c, rfl, hl, hr, ho, hB⟩ := h
  exact Made.of_own (own_base (own_setRow ho hg) hb.size) (below_row (hb.trans (hB.mono hb.size)) (Nat.le_refl _))
theorem res2 {fn : Func} {p q : Tmp} {T : TypeId} {tmps : Array Value} {w : World} {g : Nat} {cs : Array Value} (h : fn.results = #[.cell p T, .tmp q])
    (hp : tmps.getD p undef = .pointer (some ⟨g, 0, none⟩)) (hr : (loadVar T ⟨g, 0, none⟩).run Tryz.prog w = .ok (.agg cs) w) :
    (results fn tmps).run Tryz.prog w = .ok (.tuple #[.agg cs, tmps.getD q undef]) w := by
  have hp' : tmps[p]?.getD undef = .pointer (some ⟨g, 0, none⟩) := by simpa using hp
  simp [results, h, hp', asAddr, hr]
theorem res3 {fn : Func} {p q r : Tmp} {T : TypeId} {tmps : Array Value} {w : World} {g : Nat} {cs : Array Value} (h : fn.results = #[.cell p T, .tmp q, .tmp r])
    (hp : tmps.getD p undef = .pointer (some ⟨g, 0, none⟩)) (hr : (loadVar T ⟨g, 0, none⟩).run Tryz.prog w = .ok (.agg cs) w) :
    (results fn tmps).run Tryz.prog w = .ok (.tuple #[.agg cs, tmps.getD q undef, tmps.getD r undef]) w := by
  have hp' : tmps[p]?.getD undef = .pointer (some ⟨g, 0, none⟩) := by simpa using hp
  simp [results, h, hp', asAddr, hr]
theorem get_one {b : List UInt8} {i : Nat} (h : i + 1 ≤ b.length) : getV b (i : Int) 1 = byt b i := by
  have e := getV_ok (bs := b) (a := i) (s := 1) (by omega) (by omega) h
  have hl : (b.drop i).length = b.length - i := by simp
  rw [show (1 : Int) = ((1 : Nat) : Int) from rfl, e, num_take _ (k := 0) (by omega), List.take_zero]
  simp only [byt_drop, num, List.foldl_nil, Nat.add_zero]; omega
theorem n4_bd (b : List UInt8) (i : Nat) : 0 ≤ n4 b i ∧ n4 b i < 4294967296 := by
  have h1 := byt_lo b i; have h2 := byt_hi b i; have h3 := byt_lo b (i + 1); have h4 := byt_hi b (i + 1)
  have h5 := byt_lo b (i + 2); have h6 := byt_hi b (i + 2); have h7 := byt_lo b (i + 3); have h8 := byt_hi b (i + 3)
  unfold n4; omega
theorem and_mask (k : Nat) (n : Int) (h0 : 0 ≤ n) (h1 : n ≤ 9223372036854775807) (hk : k ≤ 62) : bits .and .i64 n (2 ^ k - 1) = n % 2 ^ k :=
  bits_mask .i64 63 (by decide) wraps63 k (by omega) n h0 (by omega)
end Go.Proofs.YtpoigngpdcmipaaGreat
namespace Go.Proofs.YtpoigngpdcmipaaGreat
open Go.RowKit
theorem items_eq (a b : List UInt8) (d : Nat) (w : World) : ∀ is : List Nat, (∀ i ∈ is, i < a.length ∧ i < b.length) →
    (Op.eqItems (d + 1) 5 1 (cel a) (cel b) is).run Tryz.prog w = .ok (decide (∀ i ∈ is, byt a i = byt b i)) w
  | [], _ => by simp [Op.eqItems]
  | i :: is, h => by
    have hp : Tryz.prog.plainKey 5 = true := by kernel_rfl
    obtain ⟨h1, h2⟩ := h i (by simp)
    have p1 := run_part_plain (P := Tryz.prog) w hp (off := i * 1) (by rw [Nat.mul_one]; exact cel_get a h1)
    have p2 := run_part_plain (P := Tryz.prog) w hp (off := i * 1) (by rw [Nat.mul_one]; exact cel_get b h2)
    have p3 := run_equalIn_int w d 5 .u8 .u8 (byt a i) (byt b i) Tryz.underlying5
    have ih := items_eq a b d w is (fun j hj => h j (by simp [hj]))
    simp only [Op.eqItems, Sem.run_bind, p1, p2, p3, Result.andThen_ok]
    by_cases he : byt a i = byt b i
    · simp [he, ih]
    · simp [he]
theorem same_bytes {a b : List UInt8} (ha : a.length = 16) (hb : b.length = 16) : (∀ i ∈ List.range 16, byt a i = byt b i) ↔ a = b := by
  constructor
  · intro h
    refine List.ext_getElem (by omega) fun i h1 h2 => ?_
    exact (byt_eq h1 h2).1 (h i (by simp; omega))
  · rintro rfl i _; rfl
set_option maxRecDepth 100000 in
theorem six_eq (a b : List UInt8) (ha : a.length = 16) (hb : b.length = 16) (w : World) :
    (Op.equalIn 10000 25 (.agg (cel a)) (.agg (cel b))).run Tryz.prog w = .ok (decide (a = b)) w := by
  have hi : ∃ i, Tryz.prog.info? 5 = some i := Option.isSome_iff_exists.1 (by kernel_rfl)
  obtain ⟨i, hi⟩ := hi
  have hc : Tryz.prog.cellsOf 5 = 1 := by kernel_rfl
  rw [show (10000 : Nat) = 9998 + 1 + 1 from rfl, run_equalIn_array w 9999 (cel a) (cel b) Tryz.underlying25 hi, hc, items_eq a b 9998 w _ (by simp; omega)]
  congr 1
  rw [decide_eq_decide]
  exact same_bytes ha hb
end Go.Proofs.YtpoigngpdcmipaaGreat
namespace Go.Proofs.YtpoigngpdcmipaaGreat
open Go.RowKit
def v6a (q : P6) (A : Option Addr) (c : Nat) : Array Value := (v6l q A c).toArray
def At6 (W : World) (g : Nat) (q : P6) (A : Option Addr) (c : Nat) : Prop := W.rangeAt g 0 (v6l q A c)
section
variable {W : World} {g : Nat} {q : P6} {A : Option Addr} {c : Nat}
theorem At6.new (w : World) : At6 (w.alloc (.cells (v6a q A c) 38)) w.heap.size q A c := fun j v hj => by
  rw [Nat.zero_add, World.cell?_alloc_new, v6a, List.getElem?_toArray, ← hj]
theorem At6.below {w : World} {B : Nat} (h : At6 W g q A c) (hb : Below B W w) (hg : g < B) : At6 w g q A c := range_below h hg hb
theorem At6.traffic (h : At6 W g q A c) : W.cell? ⟨g, 0, none⟩ = some (.int .i64 q.traffic) := h 0 _ rfl
theorem At6.flow (h : At6 W g q A c) : W.cell? ⟨g, 1, none⟩ = some (.int .i64 q.flow) := h 1 _ rfl
theorem At6.next (h : At6 W g q A c) : W.cell? ⟨g, 2, none⟩ = some (.int .i64 q.next) := h 2 _ rfl
theorem At6.hop (h : At6 W g q A c) : W.cell? ⟨g, 3, none⟩ = some (.int .i64 q.hop) := h 3 _ rfl
theorem v6l_src (j : Nat) (v : Value) (hj : (row q.src)[j]? = some v) : (v6l q A c)[4 + j]? = some v := by
  have hl : j < (row q.src).length := (List.getElem?_eq_some_iff.1 hj).1
  rw [v6l, List.append_assoc, List.append_assoc, List.getElem?_append_right (by simp)]
  rw [show 4 + j - [Value.int .i64 q.traffic, .int .i64 q.flow, .int .i64 q.next, .int .i64 q.hop].length = j from by simp]
  rw [List.getElem?_append_left hl]; exact hj
theorem v6l_dst (hs : q.src.length = 16) (j : Nat) (v : Value) (hj : (row q.dst)[j]? = some v) : (v6l q A c)[20 + j]? = some v := by
  have hl : j < (row q.dst).length := (List.getElem?_eq_some_iff.1 hj).1
  have e : ([Value.int .i64 q.traffic, .int .i64 q.flow, .int .i64 q.next, .int .i64 q.hop] ++ row q.src).length = 20 := by simp [row_length, hs]
  rw [v6l, List.append_assoc, List.getElem?_append_right (by rw [e]; omega), e, show 20 + j - 20 = j from by omega, List.getElem?_append_left hl]; exact hj
theorem v6l_dat (hs : q.src.length = 16) (hd : q.dst.length = 16) : (v6l q A c)[36]? = some (.slice A q.dat.length c) := by
  have e : ([Value.int .i64 q.traffic, .int .i64 q.flow, .int .i64 q.next, .int .i64 q.hop] ++ row q.src ++ row q.dst).length = 36 := by simp [row_length, hs, hd]
  rw [v6l, List.getElem?_append_right (by rw [e]; omega), e]; rfl
theorem v6l_len (hs : q.src.length = 16) (hd : q.dst.length = 16) : (v6l q A c).length = 37 := by simp [v6l, row_length, hs, hd]
theorem At6.src (h : At6 W g q A c) : W.rangeAt g 4 (row q.src) := fun j v hj => by
  have := h (4 + j) v (v6l_src j v hj); rwa [Nat.zero_add] at this
theorem At6.dst (h : At6 W g q A c) (hs : q.src.length = 16) : W.rangeAt g 20 (row q.dst) := fun j v hj => by
  have := h (20 + j) v (v6l_dst hs j v hj); rwa [Nat.zero_add] at this
theorem At6.dat (h : At6 W g q A c) (hs : q.src.length = 16) (hd : q.dst.length = 16) : W.cell? ⟨g, 36, none⟩ = some (.slice A q.dat.length c) := h 36 _ (v6l_dat hs hd)
end
theorem run_load_v6 {o : Oper} {a : Act} {w : World} {x : Operand} {g : Nat} {cs : List Value} (ho : o.op = .load 38 x) (hx : a.eval x = .pointer (some ⟨g, 0, none⟩)) (hr : w.rangeAt g 0 cs) (hl : cs.length = 37) :
    (execOp a.eval o).run Tryz.prog w = .ok (.value (.agg cs.toArray)) w := by
  have h := run_loadVar_mid (P := Tryz.prog) w g 0 38 cs _ hr Tryz.underlying38 rfl (by rw [hl]; kernel_rfl)
  unfold execOp
  simp only [ho, hx, Instr.loadAt, Instr.sureAddr, Sem.run_bind, Sem.run_pure, Result.andThen_ok, h]
theorem run_load_six {o : Oper} {a : Act} {w : World} {x : Operand} {g i : Nat} {cs : List UInt8} (ho : o.op = .load 25 x) (hx : a.eval x = .pointer (some ⟨g, i, none⟩)) (hr : w.rangeAt g i (row cs)) (hl : cs.length = 16) :
    (execOp a.eval o).run Tryz.prog w = .ok (.value (.agg (cel cs))) w := by
  have h := run_loadVar_mid (P := Tryz.prog) w g i 25 (row cs) _ hr Tryz.underlying25 rfl (by rw [row_length, hl]; kernel_rfl)
  unfold execOp
  simp only [ho, hx, Instr.loadAt, Instr.sureAddr, Sem.run_bind, Sem.run_pure, Result.andThen_ok, h, cel]
theorem wpList_valg {P : Program} {ops : Array Oper} {rest : List Oper} {o : Oper} {a : Act} {w : World} {Q : Exit → Act → World → Prop} {v : Value} (hw : Region.wanted o (yielded ops a.tmps) = true) (hrun : (execOp a.eval o).run P w = .ok (.value v) w)
    (h : wpList P ops Q rest (a.put o.dst v) w) : wpList P ops Q (o :: rest) a w :=
  wpList_step fun K hK => by rw [if_pos hw]; unfold Oper.wp; rw [hrun]; exact hK _ _ h
def flowB (q : P6) : Bool := decide (0 ≤ q.flow) && decide (q.flow < 1048576)
theorem arg6_iff (q : P6) : arg6 q ↔ (fitsB q.traffic 1 = true ∧ fitsB q.next 1 = true ∧ fitsB q.hop 1 = true ∧ flowB q = true) := by
  unfold arg6 flowB
  simp only [Bool.and_eq_true, fitsB_iff, decide_eq_true_eq, pw]
  constructor
  · rintro ⟨a1, a2, a3, a4, a5, a6, a7, a8⟩
    refine ⟨⟨?_, ?_, ?_, ?_⟩, ⟨?_, ?_, ?_, ?_⟩, ⟨?_, ?_, ?_, ?_⟩, ?_, ?_⟩ <;> (try simp) <;> omega
  · rintro ⟨⟨_, _, f1, f2⟩, ⟨_, _, g1, g2⟩, ⟨_, _, h1, h2⟩, m1, m2⟩
    simp at f2 g2 h2
    refine ⟨?_, ?_, ?_, ?_, ?_, ?_, ?_, ?_⟩ <;> omega
section
variable (q : P6) (A : Option Addr) (c : Nat) (w : World)
theorem c6size (hs : q.src.length = 16) (hd : q.dst.length = 16) (hl : q.dat.length ≤ 1000000) : Calls Tryz.prog 35 #[v6v q A c] w fun e w' => e = .returned (.int .i64 (size6 q)) ∧ Below w.heap.size w w' := by
  have hB : Below w.heap.size w (w.alloc (.cells (v6a q A c) 38)) := (Below.refl w.heap.size w).alloc (Nat.le_refl _) _
  have k := (At6.new (q := q) (A := A) (c := c) w).dat hs hd
  unfold v6v size6
  rw [show (v6l q A c).toArray = v6a q A c from rfl]
  go_enter Tryz.func35, Tryz.ntmps35
  go_wp2_with fail
  go_ret
  exact ⟨rfl, hB⟩
end
end Go.Proofs.YtpoigngpdcmipaaGreat
