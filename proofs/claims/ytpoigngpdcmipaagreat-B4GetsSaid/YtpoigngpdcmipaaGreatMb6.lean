/-
  Contracts and lemmas on which the proofs of this seat stand (several texts in one). Conditions are each theorem's own.
-/
import Derived.Test.YtpoigngpdcmipaaGreatMb5
import Derived.Test.YtpoigngpdcmipaaGreatMb3
namespace Go.Proofs.YtpoigngpdcmipaaGreat
open Go.RowKit
def ten4 (q : P4) : List (Int × Int) := [(64 + head4 q / 4, 1), (q.tos, 1), (size4 q, 2), (q.id, 2), (flags4 q, 2), (q.ttl, 1), (q.proto, 1), (0, 2), (q.src, 4), (q.dst, 4)]
theorem ten_index (ps : List (Int × Int)) (hl : ps.length = 10) {k : Nat} {x : Int × Int} (hx : ps[k]? = some x) : ∀ w, (Instr.index 217 (.agg (flat ps).toArray) (.int .i64 (k : Int))).run Tryz.prog w = .ok (.agg #[.int .i64 x.1, .int .i64 x.2]) w := by
  match ps, hl with
  | [p0, p1, p2, p3, p4, p5, p6, p7, p8, p9], _ =>
    have hk : k < 10 := by have := (List.getElem?_eq_some_iff.1 hx).1; simpa using this
    have h : k = 0 ∨ k = 1 ∨ k = 2 ∨ k = 3 ∨ k = 4 ∨ k = 5 ∨ k = 6 ∨ k = 7 ∨ k = 8 ∨ k = 9 := by omega
    intro w
    rcases h with rfl | rfl | rfl | rfl | rfl | rfl | rfl | rfl | rfl | rfl <;> (simp at hx; subst hx; kernel_rfl)
theorem ten_put (q : P4) (h : arg4 q) (hz : 0 ≤ size4 q ∧ size4 q ≤ 65535) : putL (ten4 q) ++ q.opt = hd4 q (size4 q) 0 := by
  obtain ⟨a1, a2, a3, a4, a5, a6, a7, a8, a9, a10, a11, a12, a13, a14, a15, a16, a17, a18⟩ := h
  have hh : head4 q = 20 + (q.opt.length : Int) := rfl
  have hf : 0 ≤ flags4 q ∧ flags4 q ≤ 65535 := by
    have b1 : 0 ≤ bit q.df 16384 ∧ bit q.df 16384 ≤ 16384 := by unfold bit; cases q.df <;> simp
    have b2 : 0 ≤ bit q.mf 8192 ∧ bit q.mf 8192 ≤ 8192 := by unfold bit; cases q.mf <;> simp
    unfold flags4; omega
  simp only [ten4, putL, List.foldl_cons, List.foldl_nil]
  rw [put_one (n := 64 + head4 q / 4) (by omega) (by omega), put_one a1 a2, put_two hz.1 hz.2, put_two a7 a8, put_two hf.1 hf.2, put_one a3 a4, put_one a5 a6, put_two (n := 0) (by omega) (by omega), put_four a9 a10, put_four a11 a12]
  simp [hd4, hda, hdb, be2, be4]
theorem set_sum (q : P4) : setB (hd4 q (size4 q) 0) 10 (sum4 q) 2 = hd4 q (size4 q) (sum4 q) := by
  obtain ⟨h0, h1⟩ := sum4_bd q
  have hl := hd4_len q (size4 q) 0
  rw [setB, if_pos ⟨fitsB_iff.2 ⟨by omega, by omega, h0, by simp [pw]; omega⟩, by omega, by rw [hl]; omega⟩]
  have e : digs (sum4 q) (2 : Int).toNat = be2 (sum4 q) := digs_two h0
  have ha : (hda q (size4 q)).length = 10 := rfl
  rw [e, show (10 : Int).toNat = 10 from rfl, hd4, List.append_assoc, splice_mid _ _ _ 10 ha, hd4]
  simp [be2]
section
variable (q : P4) (A : Option Addr) (c : Nat) (A' : Option Addr) (c' : Nat) (w : World)
set_option maxRecDepth 100000 in
set_option maxHeartbeats 2000000 in
theorem c4bhead (B : Nat) (ha : arg4 q) (hsz : 0 ≤ size4 q ∧ size4 q ≤ 65535) (hO : Arg w B A c q.opt) (hB0 : B ≤ w.heap.size) (hd : q.dat.length ≤ 1000000) :
    Calls Tryz.prog 147 #[v4v q A c A' c'] w fun e w' => ∃ v, e = .returned v ∧ Made w w' v (hd4 q (size4 q) (sum4 q)) := by
  have hB : Below w.heap.size w (w.alloc (.cells (v4a q A c A' c') 46)) := (Below.refl w.heap.size w).alloc (Nat.le_refl _) _
  have hAt := At4.new (q := q) (A := A) (c := c) (A' := A') (c' := c') w
  have hz : w.heap.size < (w.alloc (.cells (v4a q A c A' c') 46)).heap.size := by simp
  unfold v4v
  rw [show #[Value.int .i64 q.tos, .int .i64 q.id, .int .i64 q.off, .int .i64 q.ttl, .int .i64 q.proto, .int .i64 q.src, .int .i64 q.dst, .bool q.df, .bool q.mf, .slice A q.opt.length c, .slice A' q.dat.length c'] = v4a q A c A' c' from rfl]
  have ho40 : q.opt.length ≤ 40 := by obtain ⟨_, _, _, _, _, _, _, _, _, _, _, _, _, _, _, h, _⟩ := ha; exact h
  have ho : q.opt.length ≤ 1000000 := by omega
  have hh : head4 q = 20 + (q.opt.length : Int) := rfl
  have hhb : 20 ≤ head4 q ∧ head4 q ≤ 60 := by omega
  have hof : 0 ≤ q.off ∧ q.off ≤ 65528 := ⟨ha.2.2.2.2.2.2.2.2.2.2.2.2.1, ha.2.2.2.2.2.2.2.2.2.2.2.2.2.1⟩
  have HO1 := Lib.hid (show bits .or .i64 64 (IntKind.i64.wrap (Int.tdiv (head4 q) 4)) = 64 + head4 q / 4 from by
    rw [Int.tdiv_eq_ediv_of_nonneg (by omega), IntWalk.i64_in (head4 q / 4) (by omega)]
    exact bits_join .i64 62 (by decide) wraps_i64 6 64 (head4 q / 4) (by omega) (by decide) (by decide) (by omega) (by omega) (by omega))
  have HO2 := Lib.hid (show bits .or .i64 (flg4 q) (IntKind.i64.wrap (Int.tdiv q.off 8)) = flags4 q by
    rw [Int.tdiv_eq_ediv_of_nonneg hof.1, IntWalk.i64_in (q.off / 8) (by omega)]
    have e := bits_join .i64 62 (by decide) wraps_i64 13 (flg4 q) (q.off / 8) (by unfold flg4 bit; cases q.df <;> cases q.mf <;> simp) (by unfold flg4 bit; cases q.df <;> cases q.mf <;> simp) (by unfold flg4 bit; cases q.df <;> cases q.mf <;> simp) (by omega) (by omega) (by omega)
    rw [e, flags4, flg4]; omega)
  obtain ⟨PS, hPS⟩ : ∃ l, l = ten4 q := ⟨_, rfl⟩
  have HPA := Lib.hid (show flat (ten4 q) = flat PS by rw [hPS])
  have HSM := Lib.hid (show sum4 q = 65535 - fold (psum [hd4 q (size4 q) 0]) from rfl)
  have HST := Lib.hid (set_sum q)
  have HHL := Lib.hid (hd4_len q (size4 q) 0)
  obtain ⟨H0, hH0⟩ : ∃ l, l = hd4 q (size4 q) 0 := ⟨_, rfl⟩
  rw [← hH0] at HSM HST HHL
  have HH0 := Lib.hid hH0
  clear hH0
  have HPP := Lib.hid (show H0 = putL PS ++ q.opt by rw [hPS, HH0.out]; exact (ten_put q ha hsz).symm)
  have HPL := Lib.hid (show PS.length = 10 by rw [hPS]; rfl)
  have HP4 := Lib.hid (show ∀ x ∈ PS, x.2.toNat ≤ 4 by rw [hPS]; simp [ten4])
  clear hPS hh
  go_enter Tryz.func147, Tryz.ntmps147
  go_wp2_with fail
  generalize w.alloc (.cells (v4a q A c A' c') 46) = W at *
  refine wp_region_held_drew (S := fun w' => Below W.heap.size W w') (by kernel_rfl) (Below.refl _ W).drew (fun hS => ?_)
  refine held_pure (i := 0) (oi := ⟨some 6, _, _, _, _, _⟩) rfl (by kernel_rfl) (by kernel_rfl) (by kernel_rfl) (fun _ _ _ h => h) (by rfl) (fun w hSw => run_load_v4 rfl rfl (hAt.below hSw (by omega)) rfl) hS (fun hS => ?_)
  try go_frame
  refine held_pure (i := 5) (oi := ⟨some 11, _, _, _, _, _⟩) rfl (by kernel_rfl) (by kernel_rfl) (by kernel_rfl) (fun _ _ _ h => h) (by rfl) (v := ?_) (fun w hSw => ?_) hS (fun hS => ?_)
  rotate_left
  · go_simp; try with_reducible rfl
  try go_frame
  refine held_pure (i := 6) (oi := ⟨some 12, _, _, _, _, _⟩) rfl (by kernel_rfl) (by kernel_rfl) (by kernel_rfl) (fun _ _ _ h => h) (by rfl) (fun w hSw => run_load_int rfl rfl ((hAt.below hSw (by omega)).tos)) hS (fun hS => ?_)
  try go_frame
  refine held_pure (i := 7) (oi := ⟨some 13, _, _, _, _, _⟩) rfl (by kernel_rfl) (by kernel_rfl) (by kernel_rfl) (fun _ _ _ h => h) (by rfl) (v := ?_) (fun w hSw => ?_) hS (fun hS => ?_)
  rotate_left
  · go_simp; try with_reducible rfl
  try go_frame
  refine held_pure (i := 8) (oi := ⟨some 14, _, _, _, _, _⟩) rfl (by kernel_rfl) (by kernel_rfl) (by kernel_rfl) (fun _ _ _ h => h) (by rfl) (fun w hSw => run_load_v4 rfl rfl (hAt.below hSw (by omega)) rfl) hS (fun hS => ?_)
  try go_frame
  refine held_pure (i := 11) (oi := ⟨some 17, _, _, _, _, _⟩) rfl (by kernel_rfl) (by kernel_rfl) (by kernel_rfl) (fun _ _ _ h => h) (by rfl) (v := ?_) (fun w hSw => ?_) hS (fun hS => ?_)
  rotate_left
  · go_simp; try with_reducible rfl
  try go_frame
  refine held_pure (i := 12) (oi := ⟨some 18, _, _, _, _, _⟩) rfl (by kernel_rfl) (by kernel_rfl) (by kernel_rfl) (fun _ _ _ h => h) (by rfl) (fun w hSw => run_load_int rfl rfl ((hAt.below hSw (by omega)).id)) hS (fun hS => ?_)
  try go_frame
  refine held_pure (i := 13) (oi := ⟨some 19, _, _, _, _, _⟩) rfl (by kernel_rfl) (by kernel_rfl) (by kernel_rfl) (fun _ _ _ h => h) (by rfl) (v := ?_) (fun w hSw => ?_) hS (fun hS => ?_)
  rotate_left
  · go_simp; try with_reducible rfl
  try go_frame
  refine held_pure (i := 14) (oi := ⟨some 20, _, _, _, _, _⟩) rfl (by kernel_rfl) (by kernel_rfl) (by kernel_rfl) (fun _ _ _ h => h) (by rfl) (fun w hSw => run_load_v4 rfl rfl (hAt.below hSw (by omega)) rfl) hS (fun hS => ?_)
  try go_frame
  refine held_pure (i := 16) (oi := ⟨some 22, _, _, _, _, _⟩) rfl (by kernel_rfl) (by kernel_rfl) (by kernel_rfl) (fun _ _ _ h => h) (by rfl) (v := ?_) (fun w hSw => ?_) hS (fun hS => ?_)
  rotate_left
  · go_simp; try with_reducible rfl
  try go_frame
  refine held_pure (i := 17) (oi := ⟨some 23, _, _, _, _, _⟩) rfl (by kernel_rfl) (by kernel_rfl) (by kernel_rfl) (fun _ _ _ h => h) (by rfl) (fun w hSw => run_load_int rfl rfl ((hAt.below hSw (by omega)).off)) hS (fun hS => ?_)
  try go_frame
  refine held_pure (i := 18) (oi := ⟨some 24, _, _, _, _, _⟩) rfl (by kernel_rfl) (by kernel_rfl) (by kernel_rfl) (fun _ _ _ h => h) (by rfl) (v := ?_) (fun w hSw => ?_) hS (fun hS => ?_)
  rotate_left
  · go_simp; try with_reducible rfl
  try go_frame
  refine held_pure (i := 21) (oi := ⟨some 27, _, _, _, _, _⟩) rfl (by kernel_rfl) (by kernel_rfl) (by kernel_rfl) (fun _ _ _ h => h) (by rfl) (v := ?_) (fun w hSw => ?_) hS (fun hS => ?_)
  rotate_left
  · go_simp; try with_reducible rfl
  try go_frame
  refine held_pure (i := 22) (oi := ⟨some 28, _, _, _, _, _⟩) rfl (by kernel_rfl) (by kernel_rfl) (by kernel_rfl) (fun _ _ _ h => h) (by rfl) (fun w hSw => run_load_int rfl rfl ((hAt.below hSw (by omega)).ttl)) hS (fun hS => ?_)
  try go_frame
  refine held_pure (i := 23) (oi := ⟨some 29, _, _, _, _, _⟩) rfl (by kernel_rfl) (by kernel_rfl) (by kernel_rfl) (fun _ _ _ h => h) (by rfl) (v := ?_) (fun w hSw => ?_) hS (fun hS => ?_)
  rotate_left
  · go_simp; try with_reducible rfl
  try go_frame
  refine held_pure (i := 24) (oi := ⟨some 30, _, _, _, _, _⟩) rfl (by kernel_rfl) (by kernel_rfl) (by kernel_rfl) (fun _ _ _ h => h) (by rfl) (v := ?_) (fun w hSw => ?_) hS (fun hS => ?_)
  rotate_left
  · go_simp; try with_reducible rfl
  try go_frame
  refine held_pure (i := 25) (oi := ⟨some 31, _, _, _, _, _⟩) rfl (by kernel_rfl) (by kernel_rfl) (by kernel_rfl) (fun _ _ _ h => h) (by rfl) (fun w hSw => run_load_int rfl rfl ((hAt.below hSw (by omega)).proto)) hS (fun hS => ?_)
  try go_frame
  refine held_pure (i := 26) (oi := ⟨some 32, _, _, _, _, _⟩) rfl (by kernel_rfl) (by kernel_rfl) (by kernel_rfl) (fun _ _ _ h => h) (by rfl) (v := ?_) (fun w hSw => ?_) hS (fun hS => ?_)
  rotate_left
  · go_simp; try with_reducible rfl
  try go_frame
  refine held_pure (i := 27) (oi := ⟨some 33, _, _, _, _, _⟩) rfl (by kernel_rfl) (by kernel_rfl) (by kernel_rfl) (fun _ _ _ h => h) (by rfl) (v := ?_) (fun w hSw => ?_) hS (fun hS => ?_)
  rotate_left
  · go_simp; try with_reducible rfl
  try go_frame
  refine held_pure (i := 28) (oi := ⟨some 34, _, _, _, _, _⟩) rfl (by kernel_rfl) (by kernel_rfl) (by kernel_rfl) (fun _ _ _ h => h) (by rfl) (v := ?_) (fun w hSw => ?_) hS (fun hS => ?_)
  rotate_left
  · go_simp; try with_reducible rfl
  try go_frame
  refine held_pure (i := 29) (oi := ⟨some 35, _, _, _, _, _⟩) rfl (by kernel_rfl) (by kernel_rfl) (by kernel_rfl) (fun _ _ _ h => h) (by rfl) (fun w hSw => run_load_int rfl rfl ((hAt.below hSw (by omega)).src)) hS (fun hS => ?_)
  try go_frame
  refine held_pure (i := 30) (oi := ⟨some 36, _, _, _, _, _⟩) rfl (by kernel_rfl) (by kernel_rfl) (by kernel_rfl) (fun _ _ _ h => h) (by rfl) (v := ?_) (fun w hSw => ?_) hS (fun hS => ?_)
  rotate_left
  · go_simp; try with_reducible rfl
  try go_frame
  refine held_pure (i := 31) (oi := ⟨some 37, _, _, _, _, _⟩) rfl (by kernel_rfl) (by kernel_rfl) (by kernel_rfl) (fun _ _ _ h => h) (by rfl) (v := ?_) (fun w hSw => ?_) hS (fun hS => ?_)
  rotate_left
  · go_simp; try with_reducible rfl
  try go_frame
  refine held_pure (i := 32) (oi := ⟨some 38, _, _, _, _, _⟩) rfl (by kernel_rfl) (by kernel_rfl) (by kernel_rfl) (fun _ _ _ h => h) (by rfl) (fun w hSw => run_load_int rfl rfl ((hAt.below hSw (by omega)).dst)) hS (fun hS => ?_)
  try go_frame
  refine held_pure (i := 33) (oi := ⟨some 39, _, _, _, _, _⟩) rfl (by kernel_rfl) (by kernel_rfl) (by kernel_rfl) (fun _ _ _ h => h) (by rfl) (v := ?_) (fun w hSw => ?_) hS (fun hS => ?_)
  rotate_left
  · go_simp; try with_reducible rfl
  try go_frame
  refine held_pure (i := 35) (oi := ⟨some 41, _, _, _, _, _⟩) rfl (by kernel_rfl) (by kernel_rfl) (by kernel_rfl) (fun _ _ _ h => h) (by rfl) (v := ?_) (fun w hSw => ?_) hS (fun hS => ?_)
  rotate_left
  · go_simp; try with_reducible rfl
  try go_frame
  refine wpAnyH_ready (rs := [1]) (by kernel_rfl) (by simp) (AllReadyH.cons (o := ⟨some 7, _, _, _, _, _⟩) rfl (fun K hK => ?_) AllReadyH.nil)
  rw [if_pos (by rfl)]
  go_simp
  refine (c4head q A c A' c' _ ho).mono ?_
  rintro e w1 ⟨rfl, x1⟩
  show K _ _
  refine hK.out _ _ (below_step hS x1) (fun hS => ?_)
  clear hK K
  try go_frame
  refine held_pure (i := 2) (oi := ⟨some 8, _, _, _, _, _⟩) rfl (by kernel_rfl) (by kernel_rfl) (by kernel_rfl) (fun _ _ _ h => h) (by rfl) (v := ?_) (fun w hSw => ?_) hS (fun hS => ?_)
  rotate_left
  · go_simp; try with_reducible rfl
  try go_frame
  refine held_pure (i := 3) (oi := ⟨some 9, _, _, _, _, _⟩) rfl (by kernel_rfl) (by kernel_rfl) (by kernel_rfl) (fun _ _ _ h => h) (by rfl) (v := .int .i64 (64 + head4 q / 4)) (fun w hSw => by go_simp; exact HO1.out) hS (fun hS => ?_)
  try go_frame
  refine held_pure (i := 4) (oi := ⟨some 10, _, _, _, _, _⟩) rfl (by kernel_rfl) (by kernel_rfl) (by kernel_rfl) (fun _ _ _ h => h) (by rfl) (v := ?_) (fun w hSw => ?_) hS (fun hS => ?_)
  rotate_left
  · go_simp; try with_reducible rfl
  try go_frame
  refine wpAnyH_ready (rs := [9]) (by kernel_rfl) (by simp) (AllReadyH.cons (o := ⟨some 15, _, _, _, _, _⟩) rfl (fun K hK => ?_) AllReadyH.nil)
  rw [if_pos (by rfl)]
  go_simp
  refine (c4size q A c A' c' _ ho hd).mono ?_
  rintro e w9 ⟨rfl, x9⟩
  show K _ _
  refine hK.out _ _ (below_step hS x9) (fun hS => ?_)
  clear hK K
  try go_frame
  refine held_pure (i := 10) (oi := ⟨some 16, _, _, _, _, _⟩) rfl (by kernel_rfl) (by kernel_rfl) (by kernel_rfl) (fun _ _ _ h => h) (by rfl) (v := ?_) (fun w hSw => ?_) hS (fun hS => ?_)
  rotate_left
  · go_simp; try with_reducible rfl
  try go_frame
  refine wpAnyH_ready (rs := [15]) (by kernel_rfl) (by simp) (AllReadyH.cons (o := ⟨some 21, _, _, _, _, _⟩) rfl (fun K hK => ?_) AllReadyH.nil)
  rw [if_pos (by rfl)]
  go_simp
  refine (c4flags q A c A' c' _).mono ?_
  rintro e w15 ⟨rfl, x15⟩
  show K _ _
  refine hK.out _ _ (below_step hS x15) (fun hS => ?_)
  clear hK K
  try go_frame
  refine held_pure (i := 19) (oi := ⟨some 25, _, _, _, _, _⟩) rfl (by kernel_rfl) (by kernel_rfl) (by kernel_rfl) (fun _ _ _ h => h) (by rfl) (v := .int .i64 (flags4 q)) (fun w hSw => by go_simp; exact HO2.out) hS (fun hS => ?_)
  try go_frame
  refine held_pure (i := 20) (oi := ⟨some 26, _, _, _, _, _⟩) rfl (by kernel_rfl) (by kernel_rfl) (by kernel_rfl) (fun _ _ _ h => h) (by rfl) (v := ?_) (fun w hSw => ?_) hS (fun hS => ?_)
  rotate_left
  · go_simp; try with_reducible rfl
  try go_frame
  refine held_pure (i := 34) (oi := ⟨some 40, _, _, _, _, _⟩) rfl (by kernel_rfl) (by kernel_rfl) (by kernel_rfl) (fun _ _ _ h => h) (by rfl) (v := .agg (flat PS).toArray) (fun w hSw => by go_simp; try exact HPA.out) hS (fun hS => ?_)
  try go_frame
  refine wpAnyH_done (by kernel_rfl) ?_ _
  have HL := Lib.hid (fun k => (putL_len (PS.take k) (fun x hx => HP4.out x (List.mem_of_mem_take hx))))
  have hzS := hS.size
  go_wp2_with fail
  go_loopw [3, 41] (fun v i W' => ∃ (k c : Nat) (A : Option Addr) (bs : List UInt8), k ≤ 10 ∧ i = .int .i64 (k : Int) ∧ Hid (bs = putL (PS.take k)) ∧ bs.length ≤ 40 ∧ v = .slice A bs.length c ∧ W'.ownsRow W.heap.size 5 1 (.slice A bs.length c) bs.length (row bs) ∧ Below W.heap.size W W') (fun _ i _ => 10 - (intOf i).toNat)
  case atStart => exact ⟨0, 0, none, [], Nat.zero_le _, rfl, Lib.hid rfl, by simp, rfl, World.ownsRow_nil _ _ _ _, hS⟩
  case round =>
    obtain ⟨k, ck, Ak, bs, hk, rfl, HB, hb40, rfl, hown, hbel⟩ := hrel
    have hsW := hbel.size
    by_cases hlt : k < 10
    · obtain ⟨x, hx⟩ : ∃ x, PS[k]? = some x := ⟨_, List.getElem?_eq_getElem (by rw [HPL.out]; exact hlt)⟩
      have hidx := ten_index PS HPL.out hx
      have HX := Lib.hid hx
      clear hx
      obtain ⟨n, s⟩ := x
      simp only at hidx
      go_wp2_with (go_at_call 148; refine (put_any Ak bs ck _ n s _ (arg_own (own_below hown ((Below.refl _ _).alloc (Nat.le_refl _) _))).rd (Nat.le_refl _) (by omega)).mono ?_; rintro e w2 ⟨v2, rfl, A2, c2, rfl, l2, rd2, ow2, x2⟩)
      have hz2 := x2.size
      have bel2 : Below W.heap.size W w2 := (hbel.alloc hbel.size _).trans (x2.mono (by simp; exact Nat.le_succ_of_le hbel.size))
      have own2 : w2.ownsRow W.heap.size 5 1 (.slice A2 (putB bs n s).length c2) (putB bs n s).length (row (putB bs n s)) := own_base ow2 (by simp; exact Nat.le_succ_of_le hbel.size)
      have HP := Lib.hid (putL_take PS HX.out)
      have h40 : (putB bs n s).length ≤ 40 := by
        rw [HB.out, ← HP.out]
        have := HL.out (k + 1)
        have h2 : (PS.take (k + 1)).length ≤ PS.length := by rw [List.length_take]; omega
        have := HPL.out
        omega
      go_roundw
      case rel => exact ⟨k + 1, c2, A2, _, by omega, by simp, Lib.hid (by rw [HP.out, HB.out]), h40, rfl, own2, bel2⟩
      case measure => simp [intOf]; omega
    · obtain rfl : k = 10 := by omega
      have HBS := Lib.hid (show H0 = bs ++ q.opt by rw [HPP.out, HB.out, List.take_of_length_le (by rw [HPL.out]; exact Nat.le_refl _)])
      have k9 := (hAt.below hbel (by omega)).opt
      have hOr := hO.below ((hB.trans (hbel.mono (by omega))).mono hB0)
      go_wp2_with (first
        | (at_builtin; refine append_rd rfl _ _ rfl W.heap.size _ _ _ rfl hown B A c q.opt rfl hO.none_ hOr.rd (by omega) hsW ?_; intro v5 w5 own5 grow5; obtain ⟨A5, c5, rfl, owm5⟩ := own_made (bs := H0) own5 (by rw [HBS.out, List.length_append]) (by rw [HBS.out, row_append]))
        | (go_at_call 146; refine (of_one (some ⟨w5.heap.size, 0, none⟩) H0 1 _ (sum4 q) HSM _ (Rd2.one (World.alloc_heap_new w5 _) (Nat.lt_succ_self _) (((arg_own owm5).alloc (Nat.le_refl _) _).more (Nat.le_succ _))) (by simp) (by rw [HHL.out]; omega)).mono ?_; rintro e w6 ⟨rfl, x6⟩)
        | (go_at_call 167; refine (set_any A5 H0 c5 w5.heap.size 10 (sum4 q) 2 _ ((arg_own owm5).rd.below (((Below.refl _ w5).alloc (Nat.le_refl _) _).trans (x6.mono (by simp)))) (Nat.le_trans (by simp) x6.size) (by rw [HHL.out]; omega)).mono ?_; rintro e w7 ⟨v7, rfl, m7⟩; rw [HST.out] at m7))
      go_ret
      have b5 : Below W.heap.size W w5 := hbel.grown grow5 hsW (fun k hk => own_block_ge hown k hk)
      have z5 := b5.size
      exact ⟨v7, rfl, m7.after (hB.trans ((b5.alloc z5 _).trans (x6.mono (by simp; omega)) |>.mono (by omega)))⟩
end
end Go.Proofs.YtpoigngpdcmipaaGreat
namespace Go.Proofs.YtpoigngpdcmipaaGreat
open Go.RowKit
theorem chk4_zero {q : P4} (h : chk4 q = 0) : arg4 q ∧ 0 ≤ size4 q ∧ size4 q ≤ 65535 := by
  have ha : arg4 q := by
    rcases Decidable.em (arg4 q) with h' | h'
    · exact h'
    · exfalso; rw [chk4, if_neg h'] at h; omega
  refine ⟨ha, by unfold size4 head4; omega, ?_⟩
  rcases Int.lt_or_le 65535 (size4 q) with h' | h'
  · exfalso; rw [chk4, if_pos ha, if_pos (.inl h')] at h; omega
  · exact h'
theorem out4 (q : P4) (n hn : Nat) (hh : hn = 20 + q.opt.length) (hnn : n = hn + q.dat.length) : ∃ C5 : List UInt8, C5 = splice (List.replicate n 0) 0 (hd4 q (size4 q) (sum4 q)) ∧ bld4 q = splice C5 hn q.dat ∧ C5.length = n := by
  have hl := hd4_len q (size4 q) (sum4 q)
  have e5 := splice_mid [] (List.replicate n 0) (hd4 q (size4 q) (sum4 q)) 0 rfl
  simp only [List.nil_append] at e5
  have e9 := splice_mid (hd4 q (size4 q) (sum4 q)) ((List.replicate n 0).drop (hd4 q (size4 q) (sum4 q)).length) q.dat hn (by omega)
  refine ⟨_, rfl, ?_, ?_⟩
  · rw [e5, e9, bld4]; simp [hl]; omega
  · rw [e5]; simp [hl]; omega
section
variable (q : P4) (A : Option Addr) (c : Nat) (A' : Option Addr) (c' : Nat) (w : World)
set_option maxRecDepth 100000 in
set_option maxHeartbeats 1000000 in
theorem c4build (B : Nat) (hO : Arg w B A c q.opt) (hD : Arg w B A' c' q.dat) (hB0 : B ≤ w.heap.size) (ho : q.opt.length ≤ 1000000) (hd : q.dat.length ≤ 1000000) :
    Calls Tryz.prog 116 #[v4v q A c A' c'] w fun e w' => ∃ v, e = .returned (.tuple #[v, .int .i64 (chk4 q)]) ∧ (chk4 q ≠ 0 → v = .slice none 0 0 ∧ Below w.heap.size w w') ∧ (chk4 q = 0 → Made w w' v (bld4 q)) := by
  have hB : Below w.heap.size w (w.alloc (.cells (v4a q A c A' c') 46)) := (Below.refl w.heap.size w).alloc (Nat.le_refl _) _
  have hAt := At4.new (q := q) (A := A) (c := c) (A' := A') (c' := c') w
  have hz : w.heap.size < (w.alloc (.cells (v4a q A c A' c') 46)).heap.size := by simp
  unfold v4v
  rw [show #[Value.int .i64 q.tos, .int .i64 q.id, .int .i64 q.off, .int .i64 q.ttl, .int .i64 q.proto, .int .i64 q.src, .int .i64 q.dst, .bool q.df, .bool q.mf, .slice A q.opt.length c, .slice A' q.dat.length c'] = v4a q A c A' c' from rfl]
  go_enter Tryz.func116, Tryz.ntmps116
  go_upto_region 1 with fail
  generalize w.alloc (.cells (v4a q A c A' c') 46) = W at *
  by_cases hc : chk4 q = 0
  · obtain ⟨ha, hs0, hs1⟩ := chk4_zero hc
    have HC := Lib.hid hc
    clear hc
    go_upto_region 4 with (first
      | ((with_reducible show wpList _ _ _ (Oper.mk _ (Op.load 46 _) _ _ _ _ :: _) _ _); refine wpList_val rfl (run_load_v4 rfl rfl hAt rfl) ?_)
      | (go_at_call 84; refine (c4check q A c A' c' _ ho hd).mono ?_; rintro e w1 ⟨rfl, x1⟩; rw [HC.out]))
    obtain ⟨hn, hhn⟩ : ∃ n, n = 20 + q.opt.length := ⟨_, rfl⟩
    obtain ⟨n, hnn⟩ : ∃ n, n = hn + q.dat.length := ⟨_, rfl⟩
    have HHd := Lib.hid (show head4 q = (hn : Int) by rw [head4, hhn]; omega)
    have HZ4 := Lib.hid (show size4 q = (n : Int) by rw [size4, HHd.out, hnn]; omega)
    have HHL := Lib.hid (show (hd4 q (size4 q) (sum4 q)).length = hn by rw [hd4_len, hhn])
    obtain ⟨C5, hC5, hC9, hL5⟩ := out4 q n hn hhn hnn
    have HC5 := Lib.hid hC5; have HC9 := Lib.hid hC9; have HL5 := Lib.hid hL5
    have HN := Lib.hid hnn
    have HL9 := Lib.hid (show (bld4 q).length = n by rw [bld4_len, hnn, hhn])
    have hn1 : n ≤ 65535 := by have := HZ4.out; omega
    have hhp : 20 ≤ hn := by omega
    have hnle : hn ≤ n := by omega
    obtain ⟨HD, hHD⟩ : ∃ l, l = hd4 q (size4 q) (sum4 q) := ⟨_, rfl⟩
    rw [← hHD] at HC5 HHL
    have HHD := Lib.hid hHD
    clear hC5 hC9 hL5 hnn hhn hHD
    have hmk : ∀ W : World, (Instr.makeSlice 22 (.int .i64 (n : Int)) (.int .i64 (n : Int))).run Tryz.prog W = .ok (.slice (some ⟨W.heap.size, 0, none⟩) n n) (W.alloc (.cells (List.replicate n (.int .u8 0)).toArray 5)) := fun W => by
      rw [← made_rep]; exact run_make_row' 22 5 (.int .u8 0) 1 Tryz.underlying22 info_u8 rfl .i64 .i64 n (by omega) (by omega) W
    have hAt1 := hAt.below x1 hz
    go_upto_region 5 with (first
      | ((with_reducible show wpList _ _ _ (Oper.mk _ (Op.load 46 _) _ _ _ _ :: _) _ _); refine wpList_val rfl (run_load_v4 rfl rfl hAt1 rfl) ?_)
      | (go_at_call 111; refine (c4size q A c A' c' _ ho hd).mono ?_; rintro e w2 ⟨rfl, x2⟩; rw [HZ4.out]))
    have x12 : Below W.heap.size W w2 := x1.trans (x2.mono x1.size)
    have hG : W.heap.size ≤ w2.heap.size := x12.size
    have x13 : Below W.heap.size W (w2.alloc (.cells (Array.replicate n (.int .u8 0)) 5)) := x12.alloc hG _
    have hAt3 := hAt.below x13 hz
    have hg3 : (w2.alloc (.cells (Array.replicate n (.int .u8 0)) 5)).heap[w2.heap.size]? = some (.cells (row (List.replicate n 0)).toArray 5 (0, 0)) := by
      rw [World.alloc_heap_new]; simp [row]
    have hz3 : w2.heap.size < (w2.alloc (.cells (Array.replicate n (.int .u8 0)) 5)).heap.size := by simp
    clear hAt1 hmk
    have HG3 := Lib.hid hg3
    clear hg3
    generalize w2.alloc (.cells (Array.replicate n (.int .u8 0)) 5) = W3 at *
    have hO3 := hO.below ((hB.trans (x13.mono hB.size)).mono hB0)
    go_upto_region 6 with (first
      | ((with_reducible show wpList _ _ _ (Oper.mk _ (Op.load 46 _) _ _ _ _ :: _) _ _); refine wpList_val rfl (run_load_v4 rfl rfl hAt3 rfl) ?_)
      | (go_at_call 147; refine (c4bhead q A c A' c' _ B ha ⟨hs0, hs1⟩ hO3 (Nat.le_trans hB0 (hB.trans (x13.mono hB.size)).size) hd).mono ?_; rintro e w4 ⟨v4, rfl, m4⟩; rw [← HHD.out] at m4; obtain ⟨A4, c4, rfl, arg4', ow4, x4⟩ := made_shape m4)
      | (refine copy_wl rfl (.tmp 14) (.tmp 16) rfl w2.heap.size 0 n _ _ _ HD _ _ rfl (fun _ => rfl) rfl (List.replicate n 0) ((x4.block _ hz3).trans HG3.out) (by rw [HHL.out]; exact hnle) arg4'.rd (by rw [HHL.out]; simp; exact hnle) W W.heap.size (x13.trans (x4.mono x13.size)) hG C5 HC5.out ?_; intro w5 HG5 hB5 hz5))
    have hgz : w2.heap.size < w5.heap.size := by have := x4.size; omega
    refine wp_region_held_drew (S := fun w' => Below W.heap.size W w') (by kernel_rfl) hB5.drew (fun hS => ?_)
    refine held_pure (i := 0) (oi := ⟨some 18, _, _, _, _, _⟩) rfl (by kernel_rfl) (by kernel_rfl) (by kernel_rfl) (fun _ _ _ h => h) (by rfl) (v := ?_) (fun w hSw => ?_) hS (fun hS => ?_)
    rotate_left
    · go_simp; try with_reducible rfl
    try go_frame
    refine held_pure (i := 1) (oi := ⟨some 19, _, _, _, _, _⟩) rfl (by kernel_rfl) (by kernel_rfl) (by kernel_rfl) (fun _ _ _ h => h) (by rfl) (fun w hSw => run_load_v4 rfl rfl (hAt.below hSw hz) rfl) hS (fun hS => ?_)
    try go_frame
    refine held_pure (i := 4) (oi := ⟨some 22, _, _, _, _, _⟩) rfl (by kernel_rfl) (by kernel_rfl) (by kernel_rfl) (fun _ _ _ h => h) (by rfl) (v := ?_) (fun w hSw => ?_) hS (fun hS => ?_)
    rotate_left
    · go_simp; try with_reducible rfl
    try go_frame
    refine held_pure (i := 5) (oi := ⟨some 23, _, _, _, _, _⟩) rfl (by kernel_rfl) (by kernel_rfl) (by kernel_rfl) (fun _ _ _ h => h) (by rfl) (fun w hSw => run_load_sl rfl rfl (hAt.below hSw hz).dat) hS (fun hS => ?_)
    try go_frame
    refine wpAnyH_ready (rs := [2]) (by kernel_rfl) (by simp) (AllReadyH.cons (o := ⟨some 20, _, _, _, _, _⟩) rfl (fun K hK => ?_) AllReadyH.nil)
    rw [if_pos (by rfl)]
    go_simp
    refine (c4head q A c A' c' _ ho).mono ?_
    rintro e wH ⟨rfl, xH⟩
    rw [HHd.out]
    show K _ _
    refine hK.out _ _ (hS.trans (xH.mono hS.size)) (fun hS => ?_)
    clear hK K
    try go_frame
    refine held_pure (i := 3) (oi := ⟨some 21, _, _, _, _, _⟩) rfl (by kernel_rfl) (by kernel_rfl) (by kernel_rfl) (fun _ _ _ h => h) (by rfl) (fun w hSw => run_cut_l rfl rfl (l := hn) rfl (by omega) (m := q.dat.length) (by have := HN.out; omega)) hS (fun hS => ?_)
    try go_frame
    refine wpAnyH_ready (rs := [6]) (by kernel_rfl) (by simp) (AllReadyH.cons (o := ⟨some 24, _, _, _, _, _⟩) rfl (fun K hK => ?_) AllReadyH.nil)
    rw [if_pos (by rfl)]
    refine copy_wp _ _ rfl w2.heap.size hn _ _ _ _ q.dat _ B rfl (fun h => by have := HN.out; simp [cutA, add_off]; omega) rfl C5 (((xH).block _ hgz).trans HG5.out) (Nat.le_refl _) (hD.rd.below ((hB.trans (hS.mono (by omega))).mono hB0)) (by rw [HL5.out]; have := HN.out; omega) W W.heap.size hS hG (bld4 q) HC9.out ?_
    intro w9 HG9 hB9 hz9
    refine hK.out _ _ hB9 (fun hS => ?_)
    clear hK K
    try go_frame
    refine wpAnyH_done (by kernel_rfl) ?_ _
    go_wp2_with fail
    go_ret2
    exact ⟨.slice (some ⟨w2.heap.size, 0, none⟩) n n, by rw [HC.out]; rfl, fun h => absurd HC.out h, fun _ => by
      have ho' := own_of_block (base := w.heap.size) (g := w2.heap.size) (by omega) HG9.out (by rw [HL9.out]; omega)
      rw [HL9.out] at ho'
      exact Made.of_own (by rw [HL9.out]; exact ho') (hB.trans (hS.mono (by omega)))⟩
  · have hne : (chk4 q != 0) = true := by simpa using hc
    have HN := Lib.hid hc
    clear hc
    go_wp2_with (first
      | ((with_reducible show wpList _ _ _ (Oper.mk _ (Op.load 46 _) _ _ _ _ :: _) _ _); refine wpList_val rfl (run_load_v4 rfl rfl hAt rfl) ?_)
      | (go_at_call 84; refine (c4check q A c A' c' _ ho hd).mono ?_; rintro e w1 ⟨rfl, x1⟩; skip))
    go_ret2
    exact ⟨.slice none 0 0, rfl, fun _ => ⟨rfl, hB.trans (x1.mono (by omega))⟩, fun h => absurd h HN.out⟩
end
end Go.Proofs.YtpoigngpdcmipaaGreat
namespace Go.Proofs.YtpoigngpdcmipaaGreat
open Go.RowKit
def lay4 (b : List UInt8) (quoted : Bool) : Int :=
  if b.length < 20 then 3
  else if byt b 0 / 16 ≠ 4 ∨ hlen b < 20 then 4
  else if hlen b > (b.length : Int) ∨ (quoted = false ∧ n2 b 2 > (b.length : Int)) then 3
  else if n2 b 2 < hlen b ∨ n2 b 6 ≥ 32768 then 4
  else 0
theorem and_two (a k : Nat) : a &&& 2 ^ k = (if a.testBit k then 2 ^ k else 0) := by
  refine Nat.eq_of_testBit_eq fun i => ?_
  rw [Nat.testBit_and, Nat.testBit_two_pow]
  rcases Nat.decEq k i with h | h
  · cases hb : a.testBit k <;> simp [h]
  · subst h; cases hb : a.testBit k <;> simp
theorem and_bit (k : Nat) (n : Int) (h0 : 0 ≤ n) (h1 : n ≤ 9223372036854775807) (hk : k ≤ 62) : bits .and .i64 n (2 ^ k) = n / 2 ^ k % 2 * 2 ^ k := by
  obtain ⟨a, rfl⟩ := Int.eq_ofNat_of_zero_le h0
  have hc : ((2 : Int) ^ k) = ((2 ^ k : Nat) : Int) := by simp
  have hp : 2 ^ k < 2 ^ 63 := Nat.pow_lt_pow_right (by decide) (by omega)
  rw [hc, (bits_nat .i64 63 (by decide) wraps63 a (2 ^ k) (by omega) hp).1]
  have e : ((a : Int) / ((2 ^ k : Nat) : Int)) % 2 = ((a / 2 ^ k % 2 : Nat) : Int) := rfl
  rw [e, and_two a k, Nat.testBit_eq_decide_div_mod_eq]
  rcases Nat.mod_two_eq_zero_or_one (a / 2 ^ k) with h | h <;> simp [h]
def layV (n s k : Int) : Value := .tuple #[.int .i64 (if k = 0 then n else 0), .int .i64 (if k = 0 then s else 0), .int .i64 k]
set_option maxRecDepth 100000 in
set_option maxHeartbeats 1000000 in
theorem c4layout (b : List UInt8) (A : Option Addr) (c B : Nat) (quoted : Bool) (w : World) (hR : Arg w B A c b) (hl : b.length ≤ 1000000) :
    Calls Tryz.prog 81 #[.slice A b.length c, .bool quoted] w fun e w' => e = .returned (layV (hlen b) (min (n2 b 2) (b.length : Int)) (lay4 b quoted)) ∧ w = w' := by
  have hcap := hR.cap
  go_enter Tryz.func81, Tryz.ntmps81
  by_cases h20 : b.length < 20
  · have d20 : decide ((b.length : Int) < 20) = true := by simp; omega
    have HL := Lib.hid (show lay4 b quoted = 3 by rw [lay4, if_pos h20])
    go_wp2_with fail
    go_ret3
    exact ⟨by rw [HL.out]; rfl, rfl⟩
  · have d20 : decide ((b.length : Int) < 20) = false := by simp; omega
    have G0 := Lib.hid (show getV b 0 1 = byt b 0 from get_one (b := b) (i := 0) (by omega))
    have b0 := byt_lo b 0; have b1 := byt_hi b 0
    obtain ⟨F, hF⟩ : ∃ n, n = byt b 0 := ⟨_, rfl⟩
    have HH := Lib.hid (show hlen b = F % 16 * 4 by rw [hF]; rfl)
    rw [← hF] at G0 b0 b1
    have HF := Lib.hid hF
    clear hF
    have hA : bits .and .i64 F 15 = F % 16 := and_mask 4 F b0 (by omega) (by decide)
    by_cases h4 : F / 16 = 4
    · by_cases h5 : F % 16 < 5
      · have HL := Lib.hid (show lay4 b quoted = 4 by rw [lay4, if_neg h20, if_pos (.inr (by rw [HH.out]; omega))])
        have d4 : (F / 16 != 4) = false := by simp [h4]
        have d5 : decide (F % 16 < 5) = true := by simpa using h5
        go_wp2_with (first
      | (go_at_call 107; go_loud ((with_reducible refine (get4_any A b c B 0 1 _ hR.rd (by omega) hR.cap).mono ?_); rintro e w' ⟨rfl, rfl⟩; rw [show getV b 0 1 = F from G0.out])))
        go_ret3
        exact ⟨by rw [HL.out]; rfl, rfl⟩
      · have d4 : (F / 16 != 4) = false := by simp [h4]
        have d5 : decide (F % 16 < 5) = false := by simpa using h5
        go_upto_region 6 with (first
      | (go_at_call 107; go_loud ((with_reducible refine (get4_any A b c B 0 1 _ hR.rd (by omega) hR.cap).mono ?_); rintro e w' ⟨rfl, rfl⟩; rw [show getV b 0 1 = F from G0.out])))
        have z0 := n2_bd b 2
        have G2 := Lib.hid (show getV b 2 2 = n2 b 2 from get_two (b := b) (i := 2) (by omega))
        obtain ⟨Z, hZ⟩ : ∃ n, n = n2 b 2 := ⟨_, rfl⟩
        rw [← hZ] at G2 z0
        have x0 := n2_bd b 6
        have G6 := Lib.hid (show getV b 6 2 = n2 b 6 from get_two (b := b) (i := 6) (by omega))
        obtain ⟨X, hX⟩ : ∃ n, n = n2 b 6 := ⟨_, rfl⟩
        rw [← hX] at G6 x0
        have HZ := Lib.hid hZ
        have HX := Lib.hid hX
        clear hZ hX
        have HW := Lib.hid (IntWalk.i64_in (F % 16 * 4) (by omega))
        go_upto_region 7 with (first
      | (go_at_call 107; go_loud ((with_reducible refine (get4_any A b c B 2 2 _ hR.rd (by omega) hR.cap).mono ?_); rintro e w' ⟨rfl, rfl⟩; rw [show getV b 2 2 = Z from G2.out])))
        have HB := Lib.hid (show bits .and .i64 X 32768 = X / 32768 % 2 * 32768 from and_bit 15 X x0.1 (by omega) (by decide))
        rcases quoted with _ | _
        · skip
          rcases Int.lt_or_le (b.length : Int) (F % 16 * 4) with k1 | k1
          · have d1 : decide ((b.length : Int) < F % 16 * 4) = true := by simpa using k1
            have HL := Lib.hid (show lay4 b false = 3 by rw [lay4, if_neg h20, if_neg (by rw [← HF.out, HH.out]; omega), if_pos (.inl (by rw [HH.out]; omega))])
            go_wp2_with fail
            go_ret3
            exact ⟨by rw [HL.out]; rfl, rfl⟩
          · have d1 : decide ((b.length : Int) < F % 16 * 4) = false := by simpa using k1
            rcases Int.lt_or_le (b.length : Int) Z with k2 | k2
            · have d2 : decide ((b.length : Int) < Z) = true := by simpa using k2
              have HL := Lib.hid (show lay4 b false = 3 by rw [lay4, if_neg h20, if_neg (by rw [← HF.out, HH.out]; omega), if_pos (.inr ⟨rfl, by rw [← HZ.out]; omega⟩)])
              go_wp2_with fail
              go_ret3
              exact ⟨by rw [HL.out]; rfl, rfl⟩
            · have d2 : decide ((b.length : Int) < Z) = false := by simpa using k2
              rcases Int.lt_or_le Z (F % 16 * 4) with k3 | k3
              · have d3 : decide (Z < F % 16 * 4) = true := by simpa using k3
                have HL := Lib.hid (show lay4 b false = 4 by rw [lay4, if_neg h20, if_neg (by rw [← HF.out, HH.out]; omega), if_neg (by rw [HH.out, ← HZ.out]; simp; omega), if_pos (by rw [HH.out, ← HZ.out, ← HX.out]; omega)])
                go_wp2_with fail
                go_ret3
                exact ⟨by rw [HL.out]; rfl, rfl⟩
              · have d3 : decide (Z < F % 16 * 4) = false := by simpa using k3
                rcases Int.lt_or_le X 32768 with k4 | k4
                · have hX : bits .and .i64 X 32768 = 0 := by rw [HB.out]; omega
                  have HL := Lib.hid (show lay4 b false = 0 by rw [lay4, if_neg h20, if_neg (by rw [← HF.out, HH.out]; omega), if_neg (by rw [HH.out, ← HZ.out]; simp; omega), if_neg (by rw [HH.out, ← HZ.out, ← HX.out]; omega)])
                  go_wp2_with (first
                        | (go_at_call 107; go_loud ((with_reducible refine (get4_any A b c B 6 2 _ hR.rd (by omega) hR.cap).mono ?_); rintro e w' ⟨rfl, rfl⟩; rw [show getV b 6 2 = X from G6.out])))
                  go_ret3
                  exact ⟨by rw [HL.out]; rw [HH.out, ← HZ.out, show min Z (b.length : Int) = Z by omega]; rfl, rfl⟩
                · have hX : bits .and .i64 X 32768 = 32768 := by rw [HB.out]; omega
                  have HL := Lib.hid (show lay4 b false = 4 by rw [lay4, if_neg h20, if_neg (by rw [← HF.out, HH.out]; omega), if_neg (by rw [HH.out, ← HZ.out]; simp; omega), if_pos (by rw [HH.out, ← HZ.out, ← HX.out]; omega)])
                  go_wp2_with (first
                        | (go_at_call 107; go_loud ((with_reducible refine (get4_any A b c B 6 2 _ hR.rd (by omega) hR.cap).mono ?_); rintro e w' ⟨rfl, rfl⟩; rw [show getV b 6 2 = X from G6.out])))
                  go_ret3
                  exact ⟨by rw [HL.out]; rfl, rfl⟩
        · rcases Int.lt_or_le (b.length : Int) Z with k0 | k0
          · skip
            rcases Int.lt_or_le (b.length : Int) (F % 16 * 4) with k1 | k1
            · have d1 : decide ((b.length : Int) < F % 16 * 4) = true := by simpa using k1
              have HL := Lib.hid (show lay4 b true = 3 by rw [lay4, if_neg h20, if_neg (by rw [← HF.out, HH.out]; omega), if_pos (.inl (by rw [HH.out]; omega))])
              go_wp2_with fail
              go_ret3
              exact ⟨by rw [HL.out]; rfl, rfl⟩
            · have d1 : decide ((b.length : Int) < F % 16 * 4) = false := by simpa using k1
              have d2 : decide ((b.length : Int) < (b.length : Int)) = false := by simp; try omega
              rcases Int.lt_or_le (b.length : Int) (F % 16 * 4) with k3 | k3
              · have d3 : decide ((b.length : Int) < F % 16 * 4) = true := by simpa using k3
                exfalso; omega
              · have d3 : decide ((b.length : Int) < F % 16 * 4) = false := by simpa using k3
                rcases Int.lt_or_le X 32768 with k4 | k4
                · have hX : bits .and .i64 X 32768 = 0 := by rw [HB.out]; omega
                  have HL := Lib.hid (show lay4 b true = 0 by rw [lay4, if_neg h20, if_neg (by rw [← HF.out, HH.out]; omega), if_neg (by rw [HH.out, ← HZ.out]; simp; omega), if_neg (by rw [HH.out, ← HZ.out, ← HX.out]; omega)])
                  go_wp2_with (first
                        | (go_at_call 107; go_loud ((with_reducible refine (get4_any A b c B 6 2 _ hR.rd (by omega) hR.cap).mono ?_); rintro e w' ⟨rfl, rfl⟩; rw [show getV b 6 2 = X from G6.out])))
                  go_ret3
                  exact ⟨by rw [HL.out]; rw [HH.out, ← HZ.out, show min Z (b.length : Int) = (b.length : Int) by omega]; rfl, rfl⟩
                · have hX : bits .and .i64 X 32768 = 32768 := by rw [HB.out]; omega
                  have HL := Lib.hid (show lay4 b true = 4 by rw [lay4, if_neg h20, if_neg (by rw [← HF.out, HH.out]; omega), if_neg (by rw [HH.out, ← HZ.out]; simp; omega), if_pos (by rw [HH.out, ← HZ.out, ← HX.out]; omega)])
                  go_wp2_with (first
                        | (go_at_call 107; go_loud ((with_reducible refine (get4_any A b c B 6 2 _ hR.rd (by omega) hR.cap).mono ?_); rintro e w' ⟨rfl, rfl⟩; rw [show getV b 6 2 = X from G6.out])))
                  go_ret3
                  exact ⟨by rw [HL.out]; rfl, rfl⟩
          · skip
            rcases Int.lt_or_le (b.length : Int) (F % 16 * 4) with k1 | k1
            · have d1 : decide ((b.length : Int) < F % 16 * 4) = true := by simpa using k1
              have HL := Lib.hid (show lay4 b true = 3 by rw [lay4, if_neg h20, if_neg (by rw [← HF.out, HH.out]; omega), if_pos (.inl (by rw [HH.out]; omega))])
              go_wp2_with fail
              go_ret3
              exact ⟨by rw [HL.out]; rfl, rfl⟩
            · have d1 : decide ((b.length : Int) < F % 16 * 4) = false := by simpa using k1
              have d2 : decide ((b.length : Int) < Z) = false := by simp; try omega
              rcases Int.lt_or_le Z (F % 16 * 4) with k3 | k3
              · have d3 : decide (Z < F % 16 * 4) = true := by simpa using k3
                have HL := Lib.hid (show lay4 b true = 4 by rw [lay4, if_neg h20, if_neg (by rw [← HF.out, HH.out]; omega), if_neg (by rw [HH.out, ← HZ.out]; simp; omega), if_pos (by rw [HH.out, ← HZ.out, ← HX.out]; omega)])
                go_wp2_with fail
                go_ret3
                exact ⟨by rw [HL.out]; rfl, rfl⟩
              · have d3 : decide (Z < F % 16 * 4) = false := by simpa using k3
                rcases Int.lt_or_le X 32768 with k4 | k4
                · have hX : bits .and .i64 X 32768 = 0 := by rw [HB.out]; omega
                  have HL := Lib.hid (show lay4 b true = 0 by rw [lay4, if_neg h20, if_neg (by rw [← HF.out, HH.out]; omega), if_neg (by rw [HH.out, ← HZ.out]; simp; omega), if_neg (by rw [HH.out, ← HZ.out, ← HX.out]; omega)])
                  go_wp2_with (first
                        | (go_at_call 107; go_loud ((with_reducible refine (get4_any A b c B 6 2 _ hR.rd (by omega) hR.cap).mono ?_); rintro e w' ⟨rfl, rfl⟩; rw [show getV b 6 2 = X from G6.out])))
                  go_ret3
                  exact ⟨by rw [HL.out]; rw [HH.out, ← HZ.out, show min Z (b.length : Int) = Z by omega]; rfl, rfl⟩
                · have hX : bits .and .i64 X 32768 = 32768 := by rw [HB.out]; omega
                  have HL := Lib.hid (show lay4 b true = 4 by rw [lay4, if_neg h20, if_neg (by rw [← HF.out, HH.out]; omega), if_neg (by rw [HH.out, ← HZ.out]; simp; omega), if_pos (by rw [HH.out, ← HZ.out, ← HX.out]; omega)])
                  go_wp2_with (first
                        | (go_at_call 107; go_loud ((with_reducible refine (get4_any A b c B 6 2 _ hR.rd (by omega) hR.cap).mono ?_); rintro e w' ⟨rfl, rfl⟩; rw [show getV b 6 2 = X from G6.out])))
                  go_ret3
                  exact ⟨by rw [HL.out]; rfl, rfl⟩
    · have HL := Lib.hid (show lay4 b quoted = 4 by rw [lay4, if_neg h20, if_pos (.inl (by rw [← HF.out]; exact h4))])
      have d4 : (F / 16 != 4) = true := by simpa using h4
      go_wp2_with (first
      | (go_at_call 107; go_loud ((with_reducible refine (get4_any A b c B 0 1 _ hR.rd (by omega) hR.cap).mono ?_); rintro e w' ⟨rfl, rfl⟩; rw [show getV b 0 1 = F from G0.out])))
      go_ret3
      exact ⟨by rw [HL.out]; rfl, rfl⟩
end Go.Proofs.YtpoigngpdcmipaaGreat
namespace Go.Proofs.YtpoigngpdcmipaaGreat
open Go.RowKit
theorem flag_one (n m : Int) (hm : 0 < m) : ((n % 2 * m) != 0) = decide (n % 2 = 1) := by
  rcases (show n % 2 = 0 ∨ n % 2 = 1 by omega) with h | h
  · simp [h]
  · simp [h]; omega
section
variable (b : List UInt8) (A : Option Addr) (c : Nat) (w : World)
set_option maxRecDepth 100000 in
set_option maxHeartbeats 2000000 in
theorem c4read (B H Z : Nat) (D : List UInt8) (hR : Arg w B A c b) (hB : B ≤ w.heap.size) (hl2 : b.length ≤ 1000000) (hH : (H : Int) = hlen b) (h20 : 20 ≤ H) (hHZ : H ≤ Z) (hZl : Z ≤ b.length) (hDd : D = (b.take Z).drop H) :
    Calls Tryz.prog 83 #[.slice A b.length c, .int .i64 (H : Int), .int .i64 (Z : Int)] w fun e w' => ∃ P p P' p', e = .returned (v4v (fl4 b D) P p P' p') ∧ Made w w' (.slice P (fl4 b D).opt.length p) (fl4 b D).opt ∧ Made w w' (.slice P' (fl4 b D).dat.length p') (fl4 b D).dat := by
  have hcap := hR.cap
  have hOR0 := OwnR.new w (v4a p4z none 0 none 0) 46
  obtain ⟨O, hOd⟩ : ∃ l, l = (b.take H).drop 20 := ⟨_, rfl⟩
  have hO : Arg w B (cutA A c 20) (c - 20) O := by rw [hOd]; exact hR.cut 20 H (by omega)
  have hD : Arg w B (cutA A c H) (c - H) D := by rw [hDd]; exact hR.cut H Z hZl
  have HOl := Lib.hid (show O.length = H - 20 by rw [hOd]; simp; omega)
  have HDl := Lib.hid (show D.length = Z - H by rw [hDd]; simp; omega)
  have G6 := Lib.hid (show getV b 6 2 = n2 b 6 from get_two (b := b) (i := 6) (by omega))
  have G1 := Lib.hid (show getV b 1 1 = byt b 1 from get_one (b := b) (i := 1) (by omega))
  have G4 := Lib.hid (show getV b 4 2 = n2 b 4 from get_two (b := b) (i := 4) (by omega))
  have G8 := Lib.hid (show getV b 8 1 = byt b 8 from get_one (b := b) (i := 8) (by omega))
  have G9 := Lib.hid (show getV b 9 1 = byt b 9 from get_one (b := b) (i := 9) (by omega))
  have G12 := Lib.hid (show getV b 12 4 = n4 b 12 from get_four (b := b) (i := 12) (by omega))
  have G16 := Lib.hid (show getV b 16 4 = n4 b 16 from get_four (b := b) (i := 16) (by omega))
  have hx := n2_bd b 6
  obtain ⟨X, hX⟩ : ∃ n, n = n2 b 6 := ⟨_, rfl⟩
  have HQ := Lib.hid (show fl4 b D = ⟨byt b 1, n2 b 4, X % 8192 * 8, byt b 8, byt b 9, n4 b 12, n4 b 16, decide (X / 16384 % 2 = 1), decide (X / 8192 % 2 = 1), O, D⟩ by rw [fl4, ← hH, ← hX, hOd]; rfl)
  rw [← hX] at G6 hx
  clear hX hOd hDd hH
  have HA := Lib.hid (show bits .and .i64 X 8191 = X % 8192 from and_mask 13 X hx.1 (by omega) (by decide))
  have HW := Lib.hid (IntWalk.i64_in (X % 8192 * 8) (by omega))
  have HB1 := Lib.hid (show bits .and .i64 X 16384 = X / 16384 % 2 * 16384 from and_bit 14 X hx.1 (by omega) (by decide))
  have HB2 := Lib.hid (show bits .and .i64 X 8192 = X / 8192 % 2 * 8192 from and_bit 13 X hx.1 (by omega) (by decide))
  have HC1 := Lib.hid (flag_one (X / 16384) 16384 (by decide))
  have HC2 := Lib.hid (flag_one (X / 8192) 8192 (by decide))
  rw [HQ.out]
  go_enter Tryz.func83, Tryz.ntmps83
  go_upto_region 1 with fail
  have hOR : OwnR w 46 11 (w.alloc (.cells #[.int .i64 0, .int .i64 0, .int .i64 0, .int .i64 0, .int .i64 0, .int .i64 0, .int .i64 0, .bool false, .bool false, .slice none 0 0, .slice none 0 0] 46)) := hOR0
  clear hOR0
  generalize w.alloc (.cells #[.int .i64 0, .int .i64 0, .int .i64 0, .int .i64 0, .int .i64 0, .int .i64 0, .int .i64 0, .bool false, .bool false, .slice none 0 0, .slice none 0 0] 46) = W at *
  go_upto_region 2 with (go_at_call 107; ((with_reducible refine (get4_any A b c B 6 2 _ (hR.below (hOR.b.mono hB)).rd (by omega) hR.cap).mono ?_); rintro e w' ⟨rfl, rfl⟩; rw [show getV b 6 2 = X from G6.out]))
  refine wp_region_held_drew (S := OwnR w 46 11) (by kernel_rfl) hOR.drew (fun hS => ?_)
  refine held_pure (i := 0) (oi := ⟨some 10, _, _, _, _, _⟩) rfl (by kernel_rfl) (by kernel_rfl) (by kernel_rfl) (fun _ _ _ h => h) (by rfl) (v := ?_) (fun w hSw => ?_) hS (fun hS => ?_)
  rotate_left
  · go_simp; try with_reducible rfl
  try go_frame
  refine held_pure (i := 2) (oi := ⟨some 12, _, _, _, _, _⟩) rfl (by kernel_rfl) (by kernel_rfl) (by kernel_rfl) (fun _ _ _ h => h) (by rfl) (v := ?_) (fun w hSw => ?_) hS (fun hS => ?_)
  rotate_left
  · go_simp; try with_reducible rfl
  try go_frame
  refine held_pure (i := 4) (oi := ⟨some 14, _, _, _, _, _⟩) rfl (by kernel_rfl) (by kernel_rfl) (by kernel_rfl) (fun _ _ _ h => h) (by rfl) (v := ?_) (fun w hSw => ?_) hS (fun hS => ?_)
  rotate_left
  · go_simp; try with_reducible rfl
  try go_frame
  refine held_pure (i := 5) (oi := ⟨some 15, _, _, _, _, _⟩) rfl (by kernel_rfl) (by kernel_rfl) (by kernel_rfl) (fun _ _ _ h => h) (by rfl) (v := .int .i64 (X % 8192)) (fun w hSw => by go_simp; exact HA.out) hS (fun hS => ?_)
  try go_frame
  refine held_pure (i := 6) (oi := ⟨some 16, _, _, _, _, _⟩) rfl (by kernel_rfl) (by kernel_rfl) (by kernel_rfl) (fun _ _ _ h => h) (by rfl) (v := .int .i64 (X % 8192 * 8)) (fun w hSw => by go_simp; try exact HW.out) hS (fun hS => ?_)
  try go_frame
  refine held_pure (i := 7) (oi := ⟨some 17, _, _, _, _, _⟩) rfl (by kernel_rfl) (by kernel_rfl) (by kernel_rfl) (fun _ _ _ h => h) (by rfl) (v := ?_) (fun w hSw => ?_) hS (fun hS => ?_)
  rotate_left
  · go_simp; try with_reducible rfl
  try go_frame
  refine held_pure (i := 9) (oi := ⟨some 19, _, _, _, _, _⟩) rfl (by kernel_rfl) (by kernel_rfl) (by kernel_rfl) (fun _ _ _ h => h) (by rfl) (v := ?_) (fun w hSw => ?_) hS (fun hS => ?_)
  rotate_left
  · go_simp; try with_reducible rfl
  try go_frame
  refine held_pure (i := 11) (oi := ⟨some 21, _, _, _, _, _⟩) rfl (by kernel_rfl) (by kernel_rfl) (by kernel_rfl) (fun _ _ _ h => h) (by rfl) (v := ?_) (fun w hSw => ?_) hS (fun hS => ?_)
  rotate_left
  · go_simp; try with_reducible rfl
  try go_frame
  refine held_pure (i := 13) (oi := ⟨some 23, _, _, _, _, _⟩) rfl (by kernel_rfl) (by kernel_rfl) (by kernel_rfl) (fun _ _ _ h => h) (by rfl) (v := ?_) (fun w hSw => ?_) hS (fun hS => ?_)
  rotate_left
  · go_simp; try with_reducible rfl
  try go_frame
  refine held_pure (i := 15) (oi := ⟨some 25, _, _, _, _, _⟩) rfl (by kernel_rfl) (by kernel_rfl) (by kernel_rfl) (fun _ _ _ h => h) (by rfl) (v := ?_) (fun w hSw => ?_) hS (fun hS => ?_)
  rotate_left
  · go_simp; try with_reducible rfl
  try go_frame
  refine held_pure (i := 16) (oi := ⟨some 26, _, _, _, _, _⟩) rfl (by kernel_rfl) (by kernel_rfl) (by kernel_rfl) (fun _ _ _ h => h) (by rfl) (v := .int .i64 (X / 16384 % 2 * 16384)) (fun w hSw => by go_simp; exact HB1.out) hS (fun hS => ?_)
  try go_frame
  refine held_pure (i := 17) (oi := ⟨some 27, _, _, _, _, _⟩) rfl (by kernel_rfl) (by kernel_rfl) (by kernel_rfl) (fun _ _ _ h => h) (by rfl) (v := .bool (decide (X / 16384 % 2 = 1))) (fun w hSw => by go_simp; exact HC1.out) hS (fun hS => ?_)
  try go_frame
  refine held_pure (i := 18) (oi := ⟨some 28, _, _, _, _, _⟩) rfl (by kernel_rfl) (by kernel_rfl) (by kernel_rfl) (fun _ _ _ h => h) (by rfl) (v := ?_) (fun w hSw => ?_) hS (fun hS => ?_)
  rotate_left
  · go_simp; try with_reducible rfl
  try go_frame
  refine held_pure (i := 19) (oi := ⟨some 29, _, _, _, _, _⟩) rfl (by kernel_rfl) (by kernel_rfl) (by kernel_rfl) (fun _ _ _ h => h) (by rfl) (v := .int .i64 (X / 8192 % 2 * 8192)) (fun w hSw => by go_simp; exact HB2.out) hS (fun hS => ?_)
  try go_frame
  refine held_pure (i := 20) (oi := ⟨some 30, _, _, _, _, _⟩) rfl (by kernel_rfl) (by kernel_rfl) (by kernel_rfl) (fun _ _ _ h => h) (by rfl) (v := .bool (decide (X / 8192 % 2 = 1))) (fun w hSw => by go_simp; exact HC2.out) hS (fun hS => ?_)
  try go_frame
  refine held_pure (i := 21) (oi := ⟨some 31, _, _, _, _, _⟩) rfl (by kernel_rfl) (by kernel_rfl) (by kernel_rfl) (fun _ _ _ h => h) (by rfl) (v := ?_) (fun w hSw => ?_) hS (fun hS => ?_)
  rotate_left
  · go_simp; try with_reducible rfl
  try go_frame
  refine held_pure (i := 22) (oi := ⟨some 32, _, _, _, _, _⟩) rfl (by kernel_rfl) (by kernel_rfl) (by kernel_rfl) (fun _ _ _ h => h) (by rfl) (v := ?_) (fun w hSw => ?_) hS (fun hS => ?_)
  rotate_left
  · go_simp; try with_reducible rfl
  try go_frame
  refine held_pure (i := 23) (oi := ⟨some 33, _, _, _, _, _⟩) rfl (by kernel_rfl) (by kernel_rfl) (by kernel_rfl) (fun _ _ _ h => h) (by rfl) (fun w hSw => run_cut_lh rfl rfl rfl rfl (l := 20) (h := (H : Int)) (by omega) (by omega) (by omega) (m := O.length) (by have := HOl.out; omega)) hS (fun hS => ?_)
  try go_frame
  refine held_pure (i := 25) (oi := ⟨some 35, _, _, _, _, _⟩) rfl (by kernel_rfl) (by kernel_rfl) (by kernel_rfl) (fun _ _ _ h => h) (by rfl) (v := ?_) (fun w hSw => ?_) hS (fun hS => ?_)
  rotate_left
  · go_simp; try with_reducible rfl
  try go_frame
  refine held_pure (i := 26) (oi := ⟨some 36, _, _, _, _, _⟩) rfl (by kernel_rfl) (by kernel_rfl) (by kernel_rfl) (fun _ _ _ h => h) (by rfl) (v := ?_) (fun w hSw => ?_) hS (fun hS => ?_)
  rotate_left
  · go_simp; try with_reducible rfl
  try go_frame
  refine held_pure (i := 27) (oi := ⟨some 37, _, _, _, _, _⟩) rfl (by kernel_rfl) (by kernel_rfl) (by kernel_rfl) (fun _ _ _ h => h) (by rfl) (v := ?_) (fun w hSw => ?_) hS (fun hS => ?_)
  rotate_left
  · go_simp; try with_reducible rfl
  try go_frame
  refine held_pure (i := 28) (oi := ⟨some 38, _, _, _, _, _⟩) rfl (by kernel_rfl) (by kernel_rfl) (by kernel_rfl) (fun _ _ _ h => h) (by rfl) (fun w hSw => run_cut_lh rfl rfl rfl rfl (l := (H : Int)) (h := (Z : Int)) (by omega) (by omega) (by omega) (m := D.length) (by have := HDl.out; omega)) hS (fun hS => ?_)
  try go_frame
  refine wpAnyH_ready (rs := [1]) (by kernel_rfl) (by simp) (AllReadyH.cons (o := ⟨some 11, _, _, _, _, _⟩) rfl (fun K hK => ?_) AllReadyH.nil)
  rw [if_pos (by rfl)]
  go_simp
  refine (get4_any A b c B 1 1 _ (hR.below (hS.b.mono hB)).rd (by omega) hR.cap).mono ?_
  rintro e w1 ⟨rfl, rfl⟩
  rw [show getV b 1 1 = byt b 1 from G1.out]
  show K _ _
  refine hK.out _ _ hS (fun hS => ?_)
  clear hK K
  try go_frame
  refine wpAnyH_ready (rs := [3]) (by kernel_rfl) (by simp) (AllReadyH.cons (o := ⟨some 13, _, _, _, _, _⟩) rfl (fun K hK => ?_) AllReadyH.nil)
  rw [if_pos (by rfl)]
  go_simp
  refine (get4_any A b c B 4 2 _ (hR.below (hS.b.mono hB)).rd (by omega) hR.cap).mono ?_
  rintro e w3 ⟨rfl, rfl⟩
  rw [show getV b 4 2 = n2 b 4 from G4.out]
  show K _ _
  refine hK.out _ _ hS (fun hS => ?_)
  clear hK K
  try go_frame
  refine wpAnyH_ready (rs := [8]) (by kernel_rfl) (by simp) (AllReadyH.cons (o := ⟨some 18, _, _, _, _, _⟩) rfl (fun K hK => ?_) AllReadyH.nil)
  rw [if_pos (by rfl)]
  go_simp
  refine (get4_any A b c B 8 1 _ (hR.below (hS.b.mono hB)).rd (by omega) hR.cap).mono ?_
  rintro e w8 ⟨rfl, rfl⟩
  rw [show getV b 8 1 = byt b 8 from G8.out]
  show K _ _
  refine hK.out _ _ hS (fun hS => ?_)
  clear hK K
  try go_frame
  refine wpAnyH_ready (rs := [10]) (by kernel_rfl) (by simp) (AllReadyH.cons (o := ⟨some 20, _, _, _, _, _⟩) rfl (fun K hK => ?_) AllReadyH.nil)
  rw [if_pos (by rfl)]
  go_simp
  refine (get4_any A b c B 9 1 _ (hR.below (hS.b.mono hB)).rd (by omega) hR.cap).mono ?_
  rintro e w10 ⟨rfl, rfl⟩
  rw [show getV b 9 1 = byt b 9 from G9.out]
  show K _ _
  refine hK.out _ _ hS (fun hS => ?_)
  clear hK K
  try go_frame
  refine wpAnyH_ready (rs := [12]) (by kernel_rfl) (by simp) (AllReadyH.cons (o := ⟨some 22, _, _, _, _, _⟩) rfl (fun K hK => ?_) AllReadyH.nil)
  rw [if_pos (by rfl)]
  go_simp
  refine (get4_any A b c B 12 4 _ (hR.below (hS.b.mono hB)).rd (by omega) hR.cap).mono ?_
  rintro e w12 ⟨rfl, rfl⟩
  rw [show getV b 12 4 = n4 b 12 from G12.out]
  show K _ _
  refine hK.out _ _ hS (fun hS => ?_)
  clear hK K
  try go_frame
  refine wpAnyH_ready (rs := [14]) (by kernel_rfl) (by simp) (AllReadyH.cons (o := ⟨some 24, _, _, _, _, _⟩) rfl (fun K hK => ?_) AllReadyH.nil)
  rw [if_pos (by rfl)]
  go_simp
  refine (get4_any A b c B 16 4 _ (hR.below (hS.b.mono hB)).rd (by omega) hR.cap).mono ?_
  rintro e w14 ⟨rfl, rfl⟩
  rw [show getV b 16 4 = n4 b 16 from G16.out]
  show K _ _
  refine hK.out _ _ hS (fun hS => ?_)
  clear hK K
  try go_frame
  refine wpAnyH_ready (rs := [24]) (by kernel_rfl) (by simp) (AllReadyH.cons (o := ⟨some 34, _, _, _, _, _⟩) rfl (fun K hK => ?_) AllReadyH.nil)
  rw [if_pos (by rfl)]
  refine append_wp _ _ rfl (w.heap.size + 1) (.slice none 0 0) 0 [] rfl (World.ownsRow_nil _ _ _ _) B (cutA A c 20) _ O rfl (hO.none_) ((hO.below (hS.b.mono hB)).rd) (by have := HOl.out; have := HDl.out; omega) hS.lt ?_
  intro v5 y5 own5 grow5
  obtain ⟨P5, p5, rfl, owm5⟩ := own_made (bs := O) own5 (Nat.zero_add _) (List.nil_append _)
  clear own5
  have x5 := (Below.refl _ _).grown grow5 (Nat.le_refl _) (fun k hk => by cases hk)
  clear grow5
  refine hK.out _ _ (hS.step x5) (fun hS => ?_)
  clear hK K
  try go_frame
  refine wpAnyH_ready (rs := [29]) (by kernel_rfl) (by simp) (AllReadyH.cons (o := ⟨some 39, _, _, _, _, _⟩) rfl (fun K hK => ?_) AllReadyH.nil)
  rw [if_pos (by rfl)]
  refine append_wp _ _ rfl (w.heap.size + 1) (.slice none 0 0) 0 [] rfl (World.ownsRow_nil _ _ _ _) B (cutA A c H) _ D rfl (hD.none_) ((hD.below (hS.b.mono hB)).rd) (by have := HOl.out; have := HDl.out; omega) hS.lt ?_
  intro v6 y6 own6 grow6
  obtain ⟨P6, p6, rfl, owm6⟩ := own_made (bs := D) own6 (Nat.zero_add _) (List.nil_append _)
  clear own6
  have x6 := (Below.refl _ _).grown grow6 (Nat.le_refl _) (fun k hk => by cases hk)
  clear grow6
  refine hK.out _ _ (hS.step x6) (fun hS => ?_)
  clear hK K
  try go_frame
  refine held_pure (i := 30) (oi := ⟨some 40, _, _, _, _, _⟩) rfl (by kernel_rfl) (by kernel_rfl) (by kernel_rfl) (fun _ _ _ h => h) (by rfl) (v := ?_) (fun w hSw => ?_) hS (fun hS => ?_)
  rotate_left
  · go_simp; try with_reducible rfl
  try go_frame
  refine wpAnyH_ready (rs := [31]) (by kernel_rfl) (by simp) (AllReadyH.cons (o := ⟨none, _, _, _, _, _⟩) rfl (fun K hK => ?_) AllReadyH.nil)
  rw [if_pos (by rfl)]
  obtain ⟨old, hold, hgo⟩ := hS.2
  have hrow := hS.row (v4a ⟨byt b 1, n2 b 4, X % 8192 * 8, byt b 8, byt b 9, n4 b 12, n4 b 16, decide (X / 16384 % 2 = 1), decide (X / 8192 % 2 = 1), O, D⟩ P5 p5 P6 p6) rfl
  refine wp_store_row 46 _ _ rfl w.heap.size (v4a ⟨byt b 1, n2 b 4, X % 8192 * 8, byt b 8, byt b 9, n4 b 12, n4 b 16, decide (X / 16384 % 2 = 1), decide (X / 8192 % 2 = 1), O, D⟩ P5 p5 P6 p6) rfl rfl 46 old hgo (by kernel_rfl) hold (by simp [v4a, Value.oneCell']) ?_
  have hgz := setRow_heap _ _ _ (v4a ⟨byt b 1, n2 b 4, X % 8192 * 8, byt b 8, byt b 9, n4 b 12, n4 b 16, decide (X / 16384 % 2 = 1), decide (X / 8192 % 2 = 1), O, D⟩ P5 p5 P6 p6) _ _ hgo
  refine hK.out _ _ hrow (fun hS => ?_)
  clear hK K
  try go_frame
  refine wpAnyH_done (by kernel_rfl) ?_ _
  go_wp2_with fail
  have oz5 := own_setRow (own_below owm5 x6) (g := w.heap.size) (cs := v4a ⟨byt b 1, n2 b 4, X % 8192 * 8, byt b 8, byt b 9, n4 b 12, n4 b 16, decide (X / 16384 % 2 = 1), decide (X / 8192 % 2 = 1), O, D⟩ P5 p5 P6 p6) (Nat.lt_succ_self _)
  have oz6 := own_setRow owm6 (g := w.heap.size) (cs := v4a ⟨byt b 1, n2 b 4, X % 8192 * 8, byt b 8, byt b 9, n4 b 12, n4 b 16, decide (X / 16384 % 2 = 1), decide (X / 8192 % 2 = 1), O, D⟩ P5 p5 P6 p6) (Nat.lt_succ_self _)
  exact bodyPost_ret (v4_result rfl rfl hgz rfl) rfl ⟨P5, p5, P6, p6, rfl, Made.of_own (own_base oz5 (Nat.le_succ _)) hS.b, Made.of_own (own_base oz6 (Nat.le_succ _)) hS.b⟩
end
end Go.Proofs.YtpoigngpdcmipaaGreat
namespace Go.Proofs.YtpoigngpdcmipaaGreat
open Go.RowKit
theorem chk6_zero {q : P6} (h : chk6 q = 0) : arg6 q ∧ (q.dat.length : Int) ≤ 65535 := by
  have ha : arg6 q := by
    rcases Decidable.em (arg6 q) with h' | h'
    · exact h'
    · rw [chk6, if_neg h'] at h; omega
  refine ⟨ha, ?_⟩
  rcases Int.lt_or_le 65535 (q.dat.length : Int) with h' | h'
  · rw [chk6, if_pos ha, if_pos h'] at h; omega
  · exact h'
section
variable (q : P6) (A : Option Addr) (c : Nat) (w : World)
set_option maxRecDepth 100000 in
set_option maxHeartbeats 1000000 in
theorem c6build (B : Nat) (hs : q.src.length = 16) (hd : q.dst.length = 16) (hl : q.dat.length ≤ 1000000) (hD : Arg w B A c q.dat) (hB0 : B ≤ w.heap.size) :
    Calls Tryz.prog 117 #[v6v q A c] w fun e w' => ∃ v, e = .returned (.tuple #[v, .int .i64 (chk6 q)]) ∧ (chk6 q ≠ 0 → v = .slice none 0 0 ∧ Below w.heap.size w w') ∧ (chk6 q = 0 → Made w w' v (bld6 q)) := by
  have hB : Below w.heap.size w (w.alloc (.cells (v6a q A c) 38)) := (Below.refl w.heap.size w).alloc (Nat.le_refl _) _
  have hAt := At6.new (q := q) (A := A) (c := c) w
  have hz : w.heap.size < (w.alloc (.cells (v6a q A c) 38)).heap.size := by simp
  unfold v6v
  rw [show (v6l q A c).toArray = v6a q A c from rfl]
  go_enter Tryz.func117, Tryz.ntmps117
  go_upto_region 1 with fail
  generalize w.alloc (.cells (v6a q A c) 38) = W at *
  by_cases hc : chk6 q = 0
  · obtain ⟨⟨a1, a2, a3, a4, a5, a6, a7, a8⟩, a9⟩ := chk6_zero hc
    have HC := Lib.hid hc
    clear hc
    have B1 := Lib.hid (or_byte 6 q.traffic (by omega) (by omega) a1 a2)
    go_upto_region 4 with (first
      | ((with_reducible show wpList _ _ _ (Oper.mk _ (Op.load 38 _) _ _ _ _ :: _) _ _); refine wpList_val rfl (run_load_v6 rfl rfl hAt (v6l_len hs hd)) ?_)
      | (go_at_call 34; refine (c6check q A c _ hs hd hl).mono ?_; rintro e w1 ⟨rfl, x1⟩; rw [HC.out]))
    have hAt1 := hAt.below x1 hz
    have k0 := hAt1.traffic; have k1 := hAt1.flow; have k2 := hAt1.next; have k3 := hAt1.hop; have k6 := hAt1.dat hs hd
    go_upto_region 5 with fail
    rw [fst6_bits q ⟨a1, a2, a3, a4, a5, a6, a7, a8⟩]
    obtain ⟨N, hN⟩ : ∃ N, N = fst6 q := ⟨_, rfl⟩
    rw [← hN]
    obtain ⟨n, hn⟩ : ∃ n, n = 40 + q.dat.length := ⟨_, rfl⟩
    have HP := Lib.hid (putL_6 q N ⟨a1, a2, a3, a4, a5, a6, a7, a8⟩ a9 hN)
    obtain ⟨C5, C7, C8, hC5, hC7, hC8, hC9, hL5, hL7, hL8⟩ := out6 q hs hd n hn
    have HC5 := Lib.hid hC5; have HC7 := Lib.hid hC7; have HC8 := Lib.hid hC8; have HC9 := Lib.hid hC9
    have HL5 := Lib.hid hL5; have HL7 := Lib.hid hL7; have HL8 := Lib.hid hL8
    have HN := Lib.hid hn
    have hn40 : 40 ≤ n := by omega
    have hz6 : size6 q = (n : Int) := by rw [size6, hn]; omega
    have HL9 := Lib.hid (show (bld6 q).length = n by rw [bld6_len q hs hd, hn])
    clear hC5 hC7 hC8 hC9 hL5 hL7 hL8 hN
    have hmk : ∀ W : World, (Instr.makeSlice 22 (.int .i64 (n : Int)) (.int .i64 (n : Int))).run Tryz.prog W = .ok (.slice (some ⟨W.heap.size, 0, none⟩) n n) (W.alloc (.cells (List.replicate n (.int .u8 0)).toArray 5)) := fun W => by
      rw [← made_rep]; exact run_make_row' 22 5 (.int .u8 0) 1 Tryz.underlying22 info_u8 rfl .i64 .i64 n (by omega) (by omega) W
    have HZ6 := Lib.hid hz6
    clear hn hz6
    go_upto_region 6 with (first
      | ((with_reducible show wpList _ _ _ (Oper.mk _ (Op.load 38 _) _ _ _ _ :: _) _ _); refine wpList_val rfl (run_load_v6 rfl rfl hAt1 (v6l_len hs hd)) ?_)
      | (go_at_call 35; refine (c6size q A c _ hs hd hl).mono ?_; rintro e w2 ⟨rfl, x2⟩; rw [HZ6.out]))
    have x12 : Below W.heap.size W w2 := x1.trans (x2.mono x1.size)
    have hG : W.heap.size ≤ w2.heap.size := x12.size
    have hAt2 := hAt.below x12 hz
    have x13 : Below W.heap.size W (w2.alloc (.cells (Array.replicate n (.int .u8 0)) 5)) := x12.alloc hG _
    have hAt3 := hAt.below x13 hz
    have hg3 : (w2.alloc (.cells (Array.replicate n (.int .u8 0)) 5)).heap[w2.heap.size]? = some (.cells (row (List.replicate n 0)).toArray 5 (0, 0)) := by
      rw [World.alloc_heap_new]; simp [row]
    have hz3 : w2.heap.size < (w2.alloc (.cells (Array.replicate n (.int .u8 0)) 5)).heap.size := by simp
    clear k0 k1 k2 k3 k6 hAt1 hmk
    have k2 := hAt3.next; have k3 := hAt3.hop; have k6 := hAt3.dat hs hd
    clear hAt2 hAt3
    have HG3 := Lib.hid hg3
    clear hg3
    generalize w2.alloc (.cells (Array.replicate n (.int .u8 0)) 5) = W3 at *
    go_upto_region 7 with (first
      | (go_at_call 119; refine (put6_new [(N, 4), ((q.dat.length : Int), 2), (q.next, 1), (q.hop, 1)] _ 4 _ W3 (by rfl) (by rfl) (by simp) (by simp)).mono ?_; rintro e w4 ⟨v4, rfl, m4⟩; rw [HP.out] at m4; obtain ⟨A4, c4, rfl, arg4, ow4, x4⟩ := made_shape m4)
      | (refine copy_wl rfl (.tmp 22) (.tmp 36) rfl w2.heap.size 0 n _ _ _ (hd6 q) _ _ rfl (fun _ => rfl) rfl (List.replicate n 0) ((x4.block _ hz3).trans HG3.out) (by rw [hd6_len]; omega) arg4.rd (by rw [hd6_len]; simp; omega) W W.heap.size (x13.trans (x4.mono x13.size)) hG C5 HC5.out ?_; intro w5 HG5 hB5 hz5))
    have HS := Lib.hid hs; have HT := Lib.hid hd
    clear k2 k3 k6
    refine wp_region_held_drew (S := fun w' => Below W.heap.size W w') (by kernel_rfl) hB5.drew (fun hS => ?_)
    refine held_pure (i := 0) (oi := ⟨some 38, _, _, _, _, _⟩) rfl (by kernel_rfl) (by kernel_rfl) (by kernel_rfl) (fun _ _ _ h => h) (by rfl) (v := ?_) (fun w hSw => ?_) hS (fun hS => ?_)
    rotate_left
    · go_simp; try with_reducible rfl
    try go_frame
    refine held_pure (i := 1) (oi := ⟨some 39, _, _, _, _, _⟩) rfl (by kernel_rfl) (by kernel_rfl) (by kernel_rfl) (fun _ _ _ h => h) (by rfl) (fun w hSw => run_cut_lh rfl rfl rfl rfl (l := 8) (h := 24) (by omega) (by omega) (by omega) (m := 16) rfl) hS (fun hS => ?_)
    try go_frame
    refine held_pure (i := 2) (oi := ⟨some 40, _, _, _, _, _⟩) rfl (by kernel_rfl) (by kernel_rfl) (by kernel_rfl) (fun _ _ _ h => h) (by rfl) (v := ?_) (fun w hSw => ?_) hS (fun hS => ?_)
    rotate_left
    · go_simp; try with_reducible rfl
    try go_frame
    refine held_pure (i := 3) (oi := ⟨some 41, _, _, _, _, _⟩) rfl (by kernel_rfl) (by kernel_rfl) (by kernel_rfl) (fun _ _ _ h => h) (by rfl) (fun w hSw => run_slice_six rfl rfl) hS (fun hS => ?_)
    try go_frame
    refine wpAnyH_ready (rs := [4]) (by kernel_rfl) (by simp) (AllReadyH.cons (o := ⟨some 42, _, _, _, _, _⟩) rfl (fun K hK => ?_) AllReadyH.nil)
    rw [if_pos (by rfl)]
    refine copy_wp _ _ rfl w2.heap.size 8 16 _ _ _ q.src _ W.heap.size rfl (fun h => by have := HN.out; simp [cutA, add_off]; omega) (by rw [HS.out]; rfl) C5 HG5.out (by rw [HS.out]; decide) (Rd.of_range ((hAt.below hS hz).src) hz) (by rw [HL5.out]; have := HS.out; omega) W W.heap.size hS hG C7 HC7.out ?_
    intro w7 HG7 hB7 hz7
    refine hK.out _ _ hB7 (fun hS => ?_)
    clear hK K
    try go_frame
    refine wpAnyH_done (by kernel_rfl) ?_ _
    go_wp2_with fail
    refine wp_region_held_drew (S := fun w' => Below W.heap.size W w') (by kernel_rfl) hB7.drew (fun hS => ?_)
    refine held_pure (i := 0) (oi := ⟨some 43, _, _, _, _, _⟩) rfl (by kernel_rfl) (by kernel_rfl) (by kernel_rfl) (fun _ _ _ h => h) (by rfl) (v := ?_) (fun w hSw => ?_) hS (fun hS => ?_)
    rotate_left
    · go_simp; try with_reducible rfl
    try go_frame
    refine held_pure (i := 1) (oi := ⟨some 44, _, _, _, _, _⟩) rfl (by kernel_rfl) (by kernel_rfl) (by kernel_rfl) (fun _ _ _ h => h) (by rfl) (fun w hSw => run_cut_lh rfl rfl rfl rfl (l := 24) (h := 40) (by omega) (by omega) (by omega) (m := 16) rfl) hS (fun hS => ?_)
    try go_frame
    refine held_pure (i := 2) (oi := ⟨some 45, _, _, _, _, _⟩) rfl (by kernel_rfl) (by kernel_rfl) (by kernel_rfl) (fun _ _ _ h => h) (by rfl) (v := ?_) (fun w hSw => ?_) hS (fun hS => ?_)
    rotate_left
    · go_simp; try with_reducible rfl
    try go_frame
    refine held_pure (i := 3) (oi := ⟨some 46, _, _, _, _, _⟩) rfl (by kernel_rfl) (by kernel_rfl) (by kernel_rfl) (fun _ _ _ h => h) (by rfl) (fun w hSw => run_slice_six rfl rfl) hS (fun hS => ?_)
    try go_frame
    refine wpAnyH_ready (rs := [4]) (by kernel_rfl) (by simp) (AllReadyH.cons (o := ⟨some 47, _, _, _, _, _⟩) rfl (fun K hK => ?_) AllReadyH.nil)
    rw [if_pos (by rfl)]
    refine copy_wp _ _ rfl w2.heap.size 24 16 _ _ _ q.dst _ W.heap.size rfl (fun h => by have := HN.out; simp [cutA, add_off]; omega) (by rw [HT.out]; rfl) C7 HG7.out (by rw [HT.out]; decide) (Rd.of_range ((hAt.below hS hz).dst hs) hz) (by rw [HL7.out]; have := HS.out; omega) W W.heap.size hS hG C8 HC8.out ?_
    intro w8 HG8 hB8 hz8
    refine hK.out _ _ hB8 (fun hS => ?_)
    clear hK K
    try go_frame
    refine wpAnyH_done (by kernel_rfl) ?_ _
    go_wp2_with fail
    refine wp_region_held_drew (S := fun w' => Below W.heap.size W w') (by kernel_rfl) hB8.drew (fun hS => ?_)
    refine held_pure (i := 0) (oi := ⟨some 48, _, _, _, _, _⟩) rfl (by kernel_rfl) (by kernel_rfl) (by kernel_rfl) (fun _ _ _ h => h) (by rfl) (v := ?_) (fun w hSw => ?_) hS (fun hS => ?_)
    rotate_left
    · go_simp; try with_reducible rfl
    try go_frame
    refine held_pure (i := 1) (oi := ⟨some 49, _, _, _, _, _⟩) rfl (by kernel_rfl) (by kernel_rfl) (by kernel_rfl) (fun _ _ _ h => h) (by rfl) (fun w hSw => run_cut_l rfl rfl (l := 40) rfl (by omega) (m := q.dat.length) (by have := HN.out; omega)) hS (fun hS => ?_)
    try go_frame
    refine held_pure (i := 2) (oi := ⟨some 50, _, _, _, _, _⟩) rfl (by kernel_rfl) (by kernel_rfl) (by kernel_rfl) (fun _ _ _ h => h) (by rfl) (v := ?_) (fun w hSw => ?_) hS (fun hS => ?_)
    rotate_left
    · go_simp; try with_reducible rfl
    try go_frame
    refine held_pure (i := 3) (oi := ⟨some 51, _, _, _, _, _⟩) rfl (by kernel_rfl) (by kernel_rfl) (by kernel_rfl) (fun _ _ _ h => h) (by rfl) (fun w hSw => run_load_sl rfl rfl ((hAt.below hSw hz).dat hs hd)) hS (fun hS => ?_)
    try go_frame
    refine wpAnyH_ready (rs := [4]) (by kernel_rfl) (by simp) (AllReadyH.cons (o := ⟨some 52, _, _, _, _, _⟩) rfl (fun K hK => ?_) AllReadyH.nil)
    rw [if_pos (by rfl)]
    refine copy_wp _ _ rfl w2.heap.size 40 _ _ _ _ q.dat _ B rfl (fun h => by have := HN.out; simp [cutA, add_off]; omega) (by rfl) C8 HG8.out (Nat.le_refl _) (hD.rd.below ((hB.mono hB0).trans (hS.mono (by omega)))) (by rw [HL8.out]; have := HN.out; omega) W W.heap.size hS hG (bld6 q) HC9.out ?_
    intro w9 HG9 hB9 hz9
    refine hK.out _ _ hB9 (fun hS => ?_)
    clear hK K
    try go_frame
    refine wpAnyH_done (by kernel_rfl) ?_ _
    go_wp2_with fail
    go_ret2
    exact ⟨.slice (some ⟨w2.heap.size, 0, none⟩) n n, by rw [HC.out]; rfl, fun h => absurd HC.out h, fun _ => by
      have ho := own_of_block (base := w.heap.size) (g := w2.heap.size) (by omega) HG9.out (by rw [HL9.out]; have := HN.out; omega)
      rw [HL9.out] at ho
      exact Made.of_own (by rw [HL9.out]; exact ho) (hB.trans (hS.mono (by omega)))⟩
  · have hne : (chk6 q != 0) = true := by simpa using hc
    have HN := Lib.hid hc
    clear hc
    go_wp2_with (first
      | ((with_reducible show wpList _ _ _ (Oper.mk _ (Op.load 38 _) _ _ _ _ :: _) _ _); refine wpList_val rfl (run_load_v6 rfl rfl hAt (v6l_len hs hd)) ?_)
      | (go_at_call 34; refine (c6check q A c _ hs hd hl).mono ?_; rintro e w1 ⟨rfl, x1⟩; skip))
    go_ret2
    exact ⟨.slice none 0 0, rfl, fun _ => ⟨rfl, hB.trans (x1.mono (by omega))⟩, fun h => absurd h HN.out⟩
end
end Go.Proofs.YtpoigngpdcmipaaGreat
