/-
  Contract of the document's plain answers of layer 5: head. Conditions are each theorem's own.
-/
import Derived.Test.YtcfcmnhnijjehaaV4T
import Derived.Test.YtcfcmnhnijjehaaV4N
import Derived.Deep.Cut
import Derived.Deep.CutRange
namespace Go.Proofs.Ytcfcmnhnijjehaa
open Go.RowKit

theorem put_two {bs : List UInt8} {n : Int} (h0 : 0 ≤ n) (h1 : n ≤ 65535) : putB bs n 2 = bs ++ be2 n := by
  rw [putB, if_pos (fitsB_iff.2 ⟨by omega, by omega, h0, by simp [pw]; omega⟩), ← digs_two h0]; rfl
theorem put_four {bs : List UInt8} {n : Int} (h0 : 0 ≤ n) (h1 : n < 4294967296) : putB bs n 4 = bs ++ be4 n := by
  rw [putB, if_pos (fitsB_iff.2 ⟨by omega, by omega, h0, by simp [pw]; omega⟩), ← digs_four h0]; rfl
theorem putB_le {bs : List UInt8} {n s : Int} {K : Nat} (h : bs.length ≤ K) (hs : s.toNat ≤ 4) : (putB bs n s).length ≤ K + 4 := by
  rw [putB]; split
  · rw [List.length_append, digs_length]; omega
  · omega
theorem arg_own {w : World} {base c : Nat} {A : Option Addr} {bs : List UInt8} (h : w.ownsRow base 5 1 (.slice A bs.length c) bs.length (row bs)) : Arg w w.heap.size A c bs := by
  refine ⟨Rd.of_own rfl h, ?_, fun e => ?_⟩
  · rcases h.2 with ⟨hv, h0⟩ | ⟨g, cap, cur, hv, _, _, hle, _⟩
    · omega
    · injection hv with h1 h2 h3; omega
  · rcases h.2 with ⟨hv, h0⟩ | ⟨g, cap, cur, hv, _, _, hle, _⟩
    · injection hv
    · injection hv with h1 h2 h3; rw [e] at h1; cases h1
theorem own_base {w : World} {base base' e s n : Nat} {v : Value} {xs : List Value} (h : w.ownsRow base' e s v n xs) (hb : base ≤ base') : w.ownsRow base e s v n xs := by
  obtain ⟨hl, h0 | ⟨g, cap, cur, hv, hg, r⟩⟩ := h
  · exact ⟨hl, .inl h0⟩
  · exact ⟨hl, .inr ⟨g, cap, cur, hv, by omega, r⟩⟩
theorem own_made {w : World} {base n : Nat} {v : Value} {xs : List Value} {bs : List UInt8} (h : w.ownsRow base 5 1 v n xs) (hn : n = bs.length) (hx : xs = row bs) : ∃ A c, v = .slice A bs.length c ∧ w.ownsRow base 5 1 (.slice A bs.length c) bs.length (row bs) := by
  subst hn; subst hx
  rcases h.2 with ⟨hv, h0⟩ | ⟨g, cap, cur, hv, _⟩
  · rw [hv] at h; exact ⟨none, 0, by rw [hv, h0], by rw [h0] at h ⊢; exact h⟩
  · rw [hv] at h; exact ⟨_, _, hv, h⟩
section
variable (q : P4) (A : Option Addr) (c : Nat) (A' : Option Addr) (c' : Nat) (w : World)
set_option maxRecDepth 100000 in
set_option maxHeartbeats 8000000 in
theorem r5hd (B : Nat) (size sum : Int) (hq : arg4 q) (hs0 : 0 ≤ size) (hs1 : size ≤ 65535) (hm0 : 0 ≤ sum) (hm1 : sum ≤ 65535) (hO : Arg w B A c q.opt) (hB : B ≤ w.heap.size) :
    Calls Try.prog 51 #[v4v q A c A' c', .int .i64 size, .int .i64 sum] w fun e w' => ∃ v, e = .returned v ∧ Made w w' v (hd4 q size sum) := by
  have hBl : Below w.heap.size w (w.alloc (.cells (v4a q A c A' c') 24)) := (Below.refl w.heap.size w).alloc (Nat.le_refl _) _
  have hAt := At4.new (q := q) (A := A) (c := c) (A' := A') (c' := c') w
  have hz : (w.alloc (.cells (v4a q A c A' c') 24)).heap.size = w.heap.size + 1 := by simp
  have h2 := hAt.off; have h7 := hAt.df; have h8 := hAt.mf
  obtain ⟨a1, a2, a3, a4, a5, a6, a7, a8, a9, a10, a11, a12, a13, a14, a15, a16, a17, a18⟩ := hq
  have ho : q.opt.length ≤ 1000000 := by omega
  unfold v4v
  rw [show #[Value.int .i64 q.tos, .int .i64 q.id, .int .i64 q.off, .int .i64 q.ttl, .int .i64 q.proto, .int .i64 q.src, .int .i64 q.dst, .bool q.df, .bool q.mf, .slice A q.opt.length c, .slice A' q.dat.length c'] = v4a q A c A' c' from rfl]
  go_enter Try.func51, Try.ntmps51
  go_upto_if 13 with fail
  generalize w.alloc (.cells (v4a q A c A' c') 24) = W at *
  have td : Int.tdiv q.off 8 = q.off / 8 := Int.tdiv_eq_ediv_of_nonneg a13
  have HF := Lib.hid (show flags4 q = q.off / 8 + bit q.df 16384 + bit q.mf 8192 from rfl)
  obtain ⟨D, hD⟩ : ∃ D, D = q.df := ⟨_, rfl⟩
  obtain ⟨M, hM⟩ : ∃ M, M = q.mf := ⟨_, rfl⟩
  rw [← hD] at h7 HF ⊢
  rw [← hM] at h8 HF
  obtain ⟨F1, hF1⟩ : ∃ n, n = q.off / 8 + bit D 16384 := ⟨_, rfl⟩
  have bD : 0 ≤ bit D 16384 ∧ bit D 16384 ≤ 16384 := by unfold bit; cases D <;> simp
  have bM : 0 ≤ bit M 8192 ∧ bit M 8192 ≤ 8192 := by unfold bit; cases M <;> simp
  have hfb : 0 ≤ flags4 q ∧ flags4 q < 32768 := by rw [HF.out]; omega
  rw [← hF1] at HF
  have hf1 : 0 ≤ F1 ∧ F1 < 24576 := by omega
  have HF1 := Lib.hid hF1
  clear hD hM hF1 a18
  go_cut [7] from 9 (fun s w' => s = .int .i64 F1 ∧ w' = W)
  case first =>
    cases D
    · have e1 := Lib.hid (show F1 = q.off / 8 by rw [HF1.out]; simp [bit])
      go_wp2_with fail
      go_meet
      exact ⟨by rw [e1.out], rfl⟩
    · have e1 := Lib.hid (show F1 = q.off / 8 + 16384 by rw [HF1.out]; simp [bit])
      go_wp2_with fail
      go_meet
      exact ⟨by rw [e1.out], rfl⟩
  case rest =>
    obtain ⟨hs7, hwc⟩ := hcut
    subst hs7; rw [hwc]; clear hwc
    go_upto_if 17 with fail
    go_cut [7] from 9 (fun s w' => s = .int .i64 (flags4 q) ∧ w' = W)
    case first =>
      cases M
      · have e1 := Lib.hid (show flags4 q = F1 by rw [HF.out]; simp [bit])
        go_wp2_with fail
        go_meet
        exact ⟨by rw [e1.out], rfl⟩
      · have e1 := Lib.hid (show flags4 q = F1 + 8192 by rw [HF.out]; simp [bit])
        go_wp2_with fail
        go_meet
        exact ⟨by rw [e1.out], rfl⟩
    case rest =>
      obtain ⟨hs7, hwc⟩ := hcut
      subst hs7; rw [hwc]; clear hwc
      clear HF HF1 hf1 bD bM h7 h8 h2
      go_wp2_with fail
      refine wp_region_held_drew (S := fun w' => Below W.heap.size W w') (by kernel_rfl) (Below.refl _ W).drew (fun hS => ?_)
      refine held_pure (i := 0) (oi := ⟨some 20, _, _, _, _, _⟩) rfl (by kernel_rfl) (by kernel_rfl) (by kernel_rfl) (fun _ _ _ h => h) (by rfl) (fun w hSw => run_load_v4 rfl rfl (hAt.below hSw (by omega)) rfl) hS (fun hS => ?_)
      try go_frame
      refine held_pure (i := 5) (oi := ⟨some 25, _, _, _, _, _⟩) rfl (by kernel_rfl) (by kernel_rfl) (by kernel_rfl) (fun _ _ _ h => h) (by rfl) (v := ?_) (fun w hSw => ?_) hS (fun hS => ?_)
      rotate_left
      · go_simp; try with_reducible rfl
      try go_frame
      refine held_pure (i := 6) (oi := ⟨some 26, _, _, _, _, _⟩) rfl (by kernel_rfl) (by kernel_rfl) (by kernel_rfl) (fun _ _ _ h => h) (by rfl) (fun w hSw => run_load_int rfl rfl (hAt.below hSw (by omega)).tos) hS (fun hS => ?_)
      try go_frame
      refine held_pure (i := 7) (oi := ⟨some 27, _, _, _, _, _⟩) rfl (by kernel_rfl) (by kernel_rfl) (by kernel_rfl) (fun _ _ _ h => h) (by rfl) (v := ?_) (fun w hSw => ?_) hS (fun hS => ?_)
      rotate_left
      · go_simp; try with_reducible rfl
      try go_frame
      refine wpAnyH_ready (rs := [1]) (by kernel_rfl) (by simp) (AllReadyH.cons (o := ⟨some 21, _, _, _, _, _⟩) rfl (fun K hK => ?_) AllReadyH.nil)
      rw [if_pos (by rfl)]
      go_simp
      refine (r5head q A c A' c' _ ho).mono ?_
      rintro e w1 ⟨rfl, x1⟩
      show K _ _
      refine hK.out _ _ (below_step hS x1) (fun hS => ?_)
      clear hK K
      try go_frame
      refine held_pure (i := 2) (oi := ⟨some 22, _, _, _, _, _⟩) rfl (by kernel_rfl) (by kernel_rfl) (by kernel_rfl) (fun _ _ _ h => h) (by rfl) (v := ?_) (fun w hSw => ?_) hS (fun hS => ?_)
      rotate_left
      · go_simp; try with_reducible rfl
      try go_frame
      refine held_pure (i := 3) (oi := ⟨some 23, _, _, _, _, _⟩) rfl (by kernel_rfl) (by kernel_rfl) (by kernel_rfl) (fun _ _ _ h => h) (by rfl) (v := ?_) (fun w hSw => ?_) hS (fun hS => ?_)
      rotate_left
      · go_simp; try with_reducible rfl
      try go_frame
      refine held_pure (i := 4) (oi := ⟨some 24, _, _, _, _, _⟩) rfl (by kernel_rfl) (by kernel_rfl) (by kernel_rfl) (fun _ _ _ h => h) (by rfl) (v := ?_) (fun w hSw => ?_) hS (fun hS => ?_)
      rotate_left
      · go_simp; try with_reducible rfl
      try go_frame
      refine wpAnyH_ready (rs := [8]) (by kernel_rfl) (by simp) (AllReadyH.cons (o := ⟨some 28, _, _, _, _, _⟩) rfl (fun K hK => ?_) AllReadyH.nil)
      rw [if_pos (by rfl)]
      go_simp
      refine hK.out _ _ (hS.alloc hS.size _) (fun hS => ?_)
      clear hK K
      try go_frame
      refine held_pure (i := 9) (oi := ⟨some 8, _, _, _, _, _⟩) rfl (by kernel_rfl) (by kernel_rfl) (by kernel_rfl) (fun _ _ _ h => h) (by rfl) (v := ?_) (fun w hSw => ?_) hS (fun hS => ?_)
      rotate_left
      · go_simp; try with_reducible rfl
      try go_frame
      refine wpAnyH_done (by kernel_rfl) ?_ _
      go_wp2_with fail
      have hh4 : 20 ≤ head4 q ∧ head4 q ≤ 60 := by unfold head4; omega
      have e1 : IntKind.u8.wrap (IntKind.i64.wrap (64 + IntKind.i64.wrap (Int.tdiv (head4 q) 4))) = ((u8 (64 + head4 q / 4)).toNat : Int) := by
        rw [u8_val, Int.tdiv_eq_ediv_of_nonneg (by omega), IntWalk.i64_in (head4 q / 4) (by omega), IntWalk.i64_in _ (by omega), IntKind.wrap_u8]
      have e2 : IntKind.u8.wrap q.tos = ((u8 q.tos).toNat : Int) := by rw [u8_val, IntKind.wrap_u8]
      rw [e1, e2] at hS ⊢
      have hArg7 : Arg (w1.alloc (.cells #[.int .u8 ((u8 (64 + head4 q / 4)).toNat : Int), .int .u8 ((u8 q.tos).toNat : Int)] 5)) (w1.heap.size + 1) (some ⟨w1.heap.size, 0, none⟩) 2 [u8 (64 + head4 q / 4), u8 q.tos] :=
        ⟨Rd.pair _ rfl rfl, by simp, fun e => by cases e⟩
      have hz7 : (w1.alloc (.cells #[.int .u8 ((u8 (64 + head4 q / 4)).toNat : Int), .int .u8 ((u8 q.tos).toNat : Int)] 5)).heap.size = w1.heap.size + 1 := by simp
      have hb7 := hS
      clear e1 e2 x1
      generalize w1.alloc (.cells #[.int .u8 ((u8 (64 + head4 q / 4)).toNat : Int), .int .u8 ((u8 q.tos).toNat : Int)] 5) = W7 at *
      refine wp_region_held_drew (S := fun w' => Below W7.heap.size W7 w') (by kernel_rfl) (Below.refl _ W7).drew (fun hS => ?_)
      refine held_pure (i := 0) (oi := ⟨some 29, _, _, _, _, _⟩) rfl (by kernel_rfl) (by kernel_rfl) (by kernel_rfl) (fun _ _ _ h => h) (by rfl) (v := ?_) (fun w hSw => ?_) hS (fun hS => ?_)
      rotate_left
      · go_simp; try with_reducible rfl
      try go_frame
      refine held_pure (i := 1) (oi := ⟨some 30, _, _, _, _, _⟩) rfl (by kernel_rfl) (by kernel_rfl) (by kernel_rfl) (fun _ _ _ h => h) (by rfl) (v := ?_) (fun w hSw => ?_) hS (fun hS => ?_)
      rotate_left
      · go_simp; try with_reducible rfl
      try go_frame
      refine held_pure (i := 3) (oi := ⟨some 32, _, _, _, _, _⟩) rfl (by kernel_rfl) (by kernel_rfl) (by kernel_rfl) (fun _ _ _ h => h) (by rfl) (v := ?_) (fun w hSw => ?_) hS (fun hS => ?_)
      rotate_left
      · go_simp; try with_reducible rfl
      try go_frame
      refine held_pure (i := 4) (oi := ⟨some 33, _, _, _, _, _⟩) rfl (by kernel_rfl) (by kernel_rfl) (by kernel_rfl) (fun _ _ _ h => h) (by rfl) (fun w hSw => run_load_int rfl rfl (hAt.below (hb7.trans (hSw.mono hb7.size)) (by omega)).id) hS (fun hS => ?_)
      try go_frame
      refine held_pure (i := 6) (oi := ⟨some 35, _, _, _, _, _⟩) rfl (by kernel_rfl) (by kernel_rfl) (by kernel_rfl) (fun _ _ _ h => h) (by rfl) (v := ?_) (fun w hSw => ?_) hS (fun hS => ?_)
      rotate_left
      · go_simp; try with_reducible rfl
      try go_frame
      refine wpAnyH_ready (rs := [2]) (by kernel_rfl) (by simp) (AllReadyH.cons (o := ⟨some 31, _, _, _, _, _⟩) rfl (fun K hK => ?_) AllReadyH.nil)
      rw [if_pos (by rfl)]
      go_simp
      refine (rput_any _ _ _ _ size 2 _ (hArg7.drewN 1) (by simp)).mono ?_
      rintro e w72 ⟨v72, rfl, A72, c72, rfl, l72, rd72, ow72, x72⟩
      show K _ _
      refine hK.out _ _ (below_step hS x72) (fun hS => ?_)
      clear hK K
      try go_frame
      refine wpAnyH_ready (rs := [5]) (by kernel_rfl) (by simp) (AllReadyH.cons (o := ⟨some 34, _, _, _, _, _⟩) rfl (fun K hK => ?_) AllReadyH.nil)
      rw [if_pos (by rfl)]
      go_simp
      refine (rput_any _ _ _ _ q.id 2 _ (arg_own ow72) (by exact Nat.le_trans (putB_le (K := 2) (by simp) (by decide)) (by decide))).mono ?_
      rintro e w75 ⟨v75, rfl, A75, c75, rfl, l75, rd75, ow75, x75⟩
      show K _ _
      refine hK.out _ _ (below_step hS x75) (fun hS => ?_)
      clear hK K
      try go_frame
      refine wpAnyH_ready (rs := [7]) (by kernel_rfl) (by simp) (AllReadyH.cons (o := ⟨some 36, _, _, _, _, _⟩) rfl (fun K hK => ?_) AllReadyH.nil)
      rw [if_pos (by rfl)]
      go_simp
      refine (rput_any _ _ _ _ (flags4 q) 2 _ (arg_own ow75) (by exact Nat.le_trans (putB_le (K := 6) (putB_le (K := 2) (by simp) (by decide)) (by decide)) (by decide))).mono ?_
      rintro e w77 ⟨v77, rfl, A77, c77, rfl, l77, rd77, ow77, x77⟩
      show K _ _
      refine hK.out _ _ (below_step hS x77) (fun hS => ?_)
      clear hK K
      try go_frame
      refine held_pure (i := 8) (oi := ⟨some 8, _, _, _, _, _⟩) rfl (by kernel_rfl) (by kernel_rfl) (by kernel_rfl) (fun _ _ _ h => h) (by rfl) (v := ?_) (fun w hSw => ?_) hS (fun hS => ?_)
      rotate_left
      · go_simp; try with_reducible rfl
      try go_frame
      refine wpAnyH_done (by kernel_rfl) ?_ _
      have hW77 : Below W.heap.size W w77 := hb7.trans (hS.mono hb7.size)
      have hsz : W.heap.size ≤ w75.heap.size := by
        have k1 := hb7.size; have k2 := x72.size; have k3 := x75.size
        simp only [World.heap_drewN] at k2; omega
      obtain ⟨b1, hb1⟩ : ∃ b, b = putB (putB (putB [u8 (64 + head4 q / 4), u8 q.tos] size 2) q.id 2) (flags4 q) 2 := ⟨_, rfl⟩
      rw [← hb1] at l77 rd77 ow77 ⊢
      rw [put_two hs0 hs1, put_two a7 a8, put_two hfb.1 (by omega)] at hb1
      have HB1 := Lib.hid hb1
      have hl1 := Lib.hid (show b1.length = 8 by rw [hb1]; simp [be2])
      obtain ⟨b1b, hb1b⟩ : ∃ b, b = b1 ++ [u8 q.ttl, u8 q.proto] := ⟨_, rfl⟩
      have hl1b := Lib.hid (show b1b.length = 10 by rw [hb1b]; simp [hl1.out])
      have HB1b := Lib.hid hb1b
      clear hb1b
      have own77 := own_base ow77 hsz
      have ht := (hAt.below hW77 (by omega)).ttl
      have hp := (hAt.below hW77 (by omega)).proto
      clear hb1 hb7 hS x72 x75 x77 l72 l75 l77 rd72 rd75 rd77 ow72 ow75 ow77 hArg7
      go_wp2_with (first
        | (at_builtin; go_loud (refine append_rd rfl _ _ rfl W.heap.size _ _ _ rfl (own_below own77 ((Below.refl w77.heap.size w77).alloc (Nat.le_refl _) _)) _ (some ⟨_, 0, none⟩) _ [u8 q.ttl, u8 q.proto] rfl (fun e => by cases e) (Rd.pair _ (by rw [u8_val]; omega) (by rw [u8_val]; omega)) (by rw [hl1.out]; simp) (by simp; exact Nat.le_succ_of_le hW77.size) ?_; intro v8 w8 own8 grow8; obtain ⟨A8, c8, rfl, owm8⟩ := own_made (bs := b1b) own8 (by rw [HB1b.out]; simp) (by rw [HB1b.out]; simp [row])))
        | (go_at_call 64; refine (rput_any _ _ _ _ sum 2 _ (arg_own owm8) (by rw [hl1b.out]; decide)).mono ?_; rintro e w9 ⟨v9, rfl, A9, c9, rfl, l9, rd9, ow9, x9⟩))
      have hW8 : Below W.heap.size W w8 := (hW77.alloc hW77.size _).grown grow8 (by simp; exact Nat.le_succ_of_le hW77.size) (fun k hk => own_block_ge own77 k hk)
      obtain ⟨b2, hb2⟩ : ∃ b, b = putB b1b sum 2 := ⟨_, rfl⟩
      rw [← hb2] at rd9 ow9 ⊢
      rw [put_two hm0 hm1] at hb2
      have HB2 := Lib.hid hb2
      have hl2 := Lib.hid (show b2.length = 12 by rw [hb2]; simp [hl1b.out, be2])
      have hb9 : Below W.heap.size W w9 := hW8.trans (x9.mono hW8.size)
      have hArg9 := arg_own ow9
      clear hb2 own77 own8 owm8 rd9 l9 x9 grow8
      refine wp_region_held_drew (S := fun w' => Below w9.heap.size w9 w') (by kernel_rfl) (Below.refl _ w9).drew (fun hS => ?_)
      refine held_pure (i := 0) (oi := ⟨some 48, _, _, _, _, _⟩) rfl (by kernel_rfl) (by kernel_rfl) (by kernel_rfl) (fun _ _ _ h => h) (by rfl) (v := ?_) (fun w hSw => ?_) hS (fun hS => ?_)
      rotate_left
      · go_simp; try with_reducible rfl
      try go_frame
      refine held_pure (i := 1) (oi := ⟨some 49, _, _, _, _, _⟩) rfl (by kernel_rfl) (by kernel_rfl) (by kernel_rfl) (fun _ _ _ h => h) (by rfl) (v := ?_) (fun w hSw => ?_) hS (fun hS => ?_)
      rotate_left
      · go_simp; try with_reducible rfl
      try go_frame
      refine held_pure (i := 2) (oi := ⟨some 50, _, _, _, _, _⟩) rfl (by kernel_rfl) (by kernel_rfl) (by kernel_rfl) (fun _ _ _ h => h) (by rfl) (fun w hSw => run_load_int rfl rfl (hAt.below (hb9.trans (hSw.mono hb9.size)) (by omega)).src) hS (fun hS => ?_)
      try go_frame
      refine held_pure (i := 4) (oi := ⟨some 52, _, _, _, _, _⟩) rfl (by kernel_rfl) (by kernel_rfl) (by kernel_rfl) (fun _ _ _ h => h) (by rfl) (v := ?_) (fun w hSw => ?_) hS (fun hS => ?_)
      rotate_left
      · go_simp; try with_reducible rfl
      try go_frame
      refine held_pure (i := 5) (oi := ⟨some 53, _, _, _, _, _⟩) rfl (by kernel_rfl) (by kernel_rfl) (by kernel_rfl) (fun _ _ _ h => h) (by rfl) (fun w hSw => run_load_int rfl rfl (hAt.below (hb9.trans (hSw.mono hb9.size)) (by omega)).dst) hS (fun hS => ?_)
      try go_frame
      refine wpAnyH_ready (rs := [3]) (by kernel_rfl) (by simp) (AllReadyH.cons (o := ⟨some 51, _, _, _, _, _⟩) rfl (fun K hK => ?_) AllReadyH.nil)
      rw [if_pos (by rfl)]
      go_simp
      refine (rput_any _ _ _ _ q.src 4 _ (hArg9.drewN 1) (by rw [hl2.out]; decide)).mono ?_
      rintro e w93 ⟨v93, rfl, A93, c93, rfl, l93, rd93, ow93, x93⟩
      show K _ _
      refine hK.out _ _ (below_step hS x93) (fun hS => ?_)
      clear hK K
      try go_frame
      refine wpAnyH_ready (rs := [6]) (by kernel_rfl) (by simp) (AllReadyH.cons (o := ⟨some 54, _, _, _, _, _⟩) rfl (fun K hK => ?_) AllReadyH.nil)
      rw [if_pos (by rfl)]
      go_simp
      refine (rput_any _ _ _ _ q.dst 4 _ (arg_own ow93) (by exact Nat.le_trans (putB_le (K := 12) (by rw [hl2.out]; decide) (by decide)) (by decide))).mono ?_
      rintro e w96 ⟨v96, rfl, A96, c96, rfl, l96, rd96, ow96, x96⟩
      show K _ _
      refine hK.out _ _ (below_step hS x96) (fun hS => ?_)
      clear hK K
      try go_frame
      refine held_pure (i := 7) (oi := ⟨some 8, _, _, _, _, _⟩) rfl (by kernel_rfl) (by kernel_rfl) (by kernel_rfl) (fun _ _ _ h => h) (by rfl) (v := ?_) (fun w hSw => ?_) hS (fun hS => ?_)
      rotate_left
      · go_simp; try with_reducible rfl
      try go_frame
      refine wpAnyH_done (by kernel_rfl) ?_ _
      have hW96 : Below W.heap.size W w96 := hb9.trans (hS.mono hb9.size)
      have hsz9 : W.heap.size ≤ w93.heap.size := by
        have k1 := hb9.size; have k2 := x93.size
        simp only [World.heap_drewN] at k2; omega
      obtain ⟨b3, hb3⟩ : ∃ b, b = putB (putB b2 q.src 4) q.dst 4 := ⟨_, rfl⟩
      rw [← hb3] at ow96 ⊢
      rw [put_four a9 a10, put_four a11 a12] at hb3
      have HB3 := Lib.hid hb3
      have hl3 := Lib.hid (show b3.length = 20 by rw [hb3]; simp [hl2.out, be4])
      have own96 := own_base ow96 hsz9
      have hop := (hAt.below hW96 (by omega)).opt
      have hrd := (hO.rd.below (hBl.mono hB)).below (hW96.mono (by omega))
      have hnn := hO.none_
      obtain ⟨b4, hb4⟩ : ∃ b, b = b3 ++ q.opt := ⟨_, rfl⟩
      have HB4 := Lib.hid hb4
      clear hb4
      clear hb3 x93 x96 l93 l96 rd93 rd96 ow93 ow96 hArg9
      go_wp2_with (at_builtin; go_loud (refine append_rd rfl _ _ rfl W.heap.size _ _ _ rfl own96 _ A _ q.opt rfl hnn hrd (by rw [hl3.out]; omega) hW96.size ?_; intro v10 w10 own10 grow10; obtain ⟨A10, c10, rfl, owm10⟩ := own_made (bs := b4) own10 (by rw [HB4.out]; simp) (by rw [HB4.out, row_append])))
      have hW10 : Below W.heap.size W w10 := hW96.grown grow10 hW96.size (fun k hk => own_block_ge own96 k hk)
      go_ret
      have hfin : b4 = hd4 q size sum := by
        rw [HB4.out, HB3.out, HB2.out, HB1b.out, HB1.out]; simp [hd4, hda, hdb, be2, be4]
      rw [← hfin]
      exact ⟨_, rfl, Made.of_own (own_base owm10 (by omega)) (hBl.trans (hW10.mono (by omega)))⟩
end
end Go.Proofs.Ytcfcmnhnijjehaa
