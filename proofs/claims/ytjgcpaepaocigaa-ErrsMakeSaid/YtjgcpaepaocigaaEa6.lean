/-
  Contracts and lemmas on which the proofs of this seat stand (several texts in one). Conditions are each theorem's own.
-/
import Derived.Test.YtjgcpaepaocigaaEa5
import Derived.Test.YtjgcpaepaocigaaEa4
import Derived.Test.YtjgcpaepaocigaaEa2

/-
  Contract of v4's buildHead. Conditions are each theorem's own.
-/
namespace Go.Proofs.Ytjgcpaepaocigaa
open Go.RowKit

/-- The ten numbers of a head. -/
def ten4 (q : P4) : List (Int × Int) := [(64 + head4 q / 4, 1), (q.tos, 1), (size4 q, 2), (q.id, 2), (flags4 q, 2), (q.ttl, 1), (q.proto, 1), (0, 2), (q.src, 4), (q.dst, 4)]
theorem ten_index (ps : List (Int × Int)) (hl : ps.length = 10) {k : Nat} {x : Int × Int} (hx : ps[k]? = some x) : ∀ w, (Instr.index 108 (.agg (flat ps).toArray) (.int .i64 (k : Int))).run Try.prog w = .ok (.agg #[.int .i64 x.1, .int .i64 x.2]) w := by
  match ps, hl with
  | [p0, p1, p2, p3, p4, p5, p6, p7, p8, p9], _ =>
    have hk : k < 10 := by have := (List.getElem?_eq_some_iff.1 hx).1; simpa using this
    have h : k = 0 ∨ k = 1 ∨ k = 2 ∨ k = 3 ∨ k = 4 ∨ k = 5 ∨ k = 6 ∨ k = 7 ∨ k = 8 ∨ k = 9 := by omega
    intro w
    rcases h with rfl | rfl | rfl | rfl | rfl | rfl | rfl | rfl | rfl | rfl <;> (simp at hx; subst hx; kernel_rfl)
theorem ten_put (q : P4) (h : arg4 q) (hz : 0 ≤ size4 q ∧ size4 q ≤ 65535) : putL (ten4 q) ++ q.opt = hd4 q (size4 q) 0 := by
  obtain ⟨a1, a2, a3, a4, a5, a6, a7, a8, a9, a10, a11, a12, a13, a14, a15, a16, a17, a18⟩ := h
  have hh : head4 q = 20 + (q.opt.length : Int) := rfl
  have hf : 0 ≤ flags4 q ∧ flags4 q ≤ 65535 := by
    have b1 : 0 ≤ bit q.df 16384 ∧ bit q.df 16384 ≤ 16384 := by unfold bit; cases q.df <;> simp
    have b2 : 0 ≤ bit q.mf 8192 ∧ bit q.mf 8192 ≤ 8192 := by unfold bit; cases q.mf <;> simp
    unfold flags4; omega
  simp only [ten4, putL, List.foldl_cons, List.foldl_nil]
  rw [put_one (n := 64 + head4 q / 4) (by omega) (by omega), put_one a1 a2, put_two hz.1 hz.2, put_two a7 a8, put_two hf.1 hf.2, put_one a3 a4, put_one a5 a6, put_two (n := 0) (by omega) (by omega), put_four a9 a10, put_four a11 a12]
  simp [hd4, hda, hdb, be2, be4]
theorem set_sum (q : P4) : setB (hd4 q (size4 q) 0) 10 (sum4 q) 2 = hd4 q (size4 q) (sum4 q) := by
  obtain ⟨h0, h1⟩ := sum4_bd q
  have hl := hd4_len q (size4 q) 0
  rw [setB, if_pos ⟨fitsB_iff.2 ⟨by omega, by omega, h0, by simp [pw]; omega⟩, by omega, by rw [hl]; omega⟩]
  have e : digs (sum4 q) (2 : Int).toNat = be2 (sum4 q) := digs_two h0
  have ha : (hda q (size4 q)).length = 10 := rfl
  rw [e, show (10 : Int).toNat = 10 from rfl, hd4, List.append_assoc, splice_mid _ _ _ 10 ha, hd4]
  simp [be2]
section
variable (q : P4) (A : Option Addr) (c : Nat) (A' : Option Addr) (c' : Nat) (w : World)
set_option maxRecDepth 100000 in
set_option maxHeartbeats 2000000 in
theorem c4bhead (B : Nat) (ha : arg4 q) (hsz : 0 ≤ size4 q ∧ size4 q ≤ 65535) (hO : Arg w B A c q.opt) (hB0 : B ≤ w.heap.size) (hd : q.dat.length ≤ 1000000) :
    Calls Try.prog 47 #[v4v q A c A' c'] w fun e w' => ∃ v, e = .returned v ∧ Made w w' v (hd4 q (size4 q) (sum4 q)) := by
  have hB : Below w.heap.size w (w.alloc (.cells (v4a q A c A' c') 36)) := (Below.refl w.heap.size w).alloc (Nat.le_refl _) _
  have hAt := At4.new (q := q) (A := A) (c := c) (A' := A') (c' := c') w
  have hz : w.heap.size < (w.alloc (.cells (v4a q A c A' c') 36)).heap.size := by simp
  unfold v4v
  rw [show #[Value.int .i64 q.tos, .int .i64 q.id, .int .i64 q.off, .int .i64 q.ttl, .int .i64 q.proto, .int .i64 q.src, .int .i64 q.dst, .bool q.df, .bool q.mf, .slice A q.opt.length c, .slice A' q.dat.length c'] = v4a q A c A' c' from rfl]
  have ho40 : q.opt.length ≤ 40 := by obtain ⟨_, _, _, _, _, _, _, _, _, _, _, _, _, _, _, h, _⟩ := ha; exact h
  have ho : q.opt.length ≤ 1000000 := by omega
  have hh : head4 q = 20 + (q.opt.length : Int) := rfl
  have hhb : 20 ≤ head4 q ∧ head4 q ≤ 60 := by omega
  have hof : 0 ≤ q.off ∧ q.off ≤ 65528 := ⟨ha.2.2.2.2.2.2.2.2.2.2.2.2.1, ha.2.2.2.2.2.2.2.2.2.2.2.2.2.1⟩
  have HO1 := Lib.hid (show bits .or .i64 64 (IntKind.i64.wrap (Int.tdiv (head4 q) 4)) = 64 + head4 q / 4 from by
    rw [Int.tdiv_eq_ediv_of_nonneg (by omega), IntWalk.i64_in (head4 q / 4) (by omega)]
    exact bits_join .i64 62 (by decide) wraps_i64 6 64 (head4 q / 4) (by omega) (by decide) (by decide) (by omega) (by omega) (by omega))
  have HO2 := Lib.hid (show bits .or .i64 (flg4 q) (IntKind.i64.wrap (Int.tdiv q.off 8)) = flags4 q by
    rw [Int.tdiv_eq_ediv_of_nonneg hof.1, IntWalk.i64_in (q.off / 8) (by omega)]
    have e := bits_join .i64 62 (by decide) wraps_i64 13 (flg4 q) (q.off / 8) (by unfold flg4 bit; cases q.df <;> cases q.mf <;> simp) (by unfold flg4 bit; cases q.df <;> cases q.mf <;> simp) (by unfold flg4 bit; cases q.df <;> cases q.mf <;> simp) (by omega) (by omega) (by omega)
    rw [e, flags4, flg4]; omega)
  obtain ⟨PS, hPS⟩ : ∃ l, l = ten4 q := ⟨_, rfl⟩
  have HPA := Lib.hid (show flat (ten4 q) = flat PS by rw [hPS])
  have HSM := Lib.hid (show sum4 q = 65535 - fold (psum [hd4 q (size4 q) 0]) from rfl)
  have HST := Lib.hid (set_sum q)
  have HHL := Lib.hid (hd4_len q (size4 q) 0)
  obtain ⟨H0, hH0⟩ : ∃ l, l = hd4 q (size4 q) 0 := ⟨_, rfl⟩
  rw [← hH0] at HSM HST HHL
  have HH0 := Lib.hid hH0
  clear hH0
  have HPP := Lib.hid (show H0 = putL PS ++ q.opt by rw [hPS, HH0.out]; exact (ten_put q ha hsz).symm)
  have HPL := Lib.hid (show PS.length = 10 by rw [hPS]; rfl)
  have HP4 := Lib.hid (show ∀ x ∈ PS, x.2.toNat ≤ 4 by rw [hPS]; simp [ten4])
  clear hPS hh
  go_enter Try.func47, Try.ntmps47
  go_wp2_with fail
  generalize w.alloc (.cells (v4a q A c A' c') 36) = W at *
  refine wp_region_held_drew (S := fun w' => Below W.heap.size W w') (by kernel_rfl) (Below.refl _ W).drew (fun hS => ?_)
  refine held_pure (i := 0) (oi := ⟨some 6, _, _, _, _, _⟩) rfl (by kernel_rfl) (by kernel_rfl) (by kernel_rfl) (fun _ _ _ h => h) (by rfl) (fun w hSw => run_load_v4 rfl rfl (hAt.below hSw (by omega)) rfl) hS (fun hS => ?_)
  try go_frame
  refine held_pure (i := 5) (oi := ⟨some 11, _, _, _, _, _⟩) rfl (by kernel_rfl) (by kernel_rfl) (by kernel_rfl) (fun _ _ _ h => h) (by rfl) (v := ?_) (fun w hSw => ?_) hS (fun hS => ?_)
  rotate_left
  · go_simp; try with_reducible rfl
  try go_frame
  refine held_pure (i := 6) (oi := ⟨some 12, _, _, _, _, _⟩) rfl (by kernel_rfl) (by kernel_rfl) (by kernel_rfl) (fun _ _ _ h => h) (by rfl) (fun w hSw => run_load_int rfl rfl ((hAt.below hSw (by omega)).tos)) hS (fun hS => ?_)
  try go_frame
  refine held_pure (i := 7) (oi := ⟨some 13, _, _, _, _, _⟩) rfl (by kernel_rfl) (by kernel_rfl) (by kernel_rfl) (fun _ _ _ h => h) (by rfl) (v := ?_) (fun w hSw => ?_) hS (fun hS => ?_)
  rotate_left
  · go_simp; try with_reducible rfl
  try go_frame
  refine held_pure (i := 8) (oi := ⟨some 14, _, _, _, _, _⟩) rfl (by kernel_rfl) (by kernel_rfl) (by kernel_rfl) (fun _ _ _ h => h) (by rfl) (fun w hSw => run_load_v4 rfl rfl (hAt.below hSw (by omega)) rfl) hS (fun hS => ?_)
  try go_frame
  refine held_pure (i := 11) (oi := ⟨some 17, _, _, _, _, _⟩) rfl (by kernel_rfl) (by kernel_rfl) (by kernel_rfl) (fun _ _ _ h => h) (by rfl) (v := ?_) (fun w hSw => ?_) hS (fun hS => ?_)
  rotate_left
  · go_simp; try with_reducible rfl
  try go_frame
  refine held_pure (i := 12) (oi := ⟨some 18, _, _, _, _, _⟩) rfl (by kernel_rfl) (by kernel_rfl) (by kernel_rfl) (fun _ _ _ h => h) (by rfl) (fun w hSw => run_load_int rfl rfl ((hAt.below hSw (by omega)).id)) hS (fun hS => ?_)
  try go_frame
  refine held_pure (i := 13) (oi := ⟨some 19, _, _, _, _, _⟩) rfl (by kernel_rfl) (by kernel_rfl) (by kernel_rfl) (fun _ _ _ h => h) (by rfl) (v := ?_) (fun w hSw => ?_) hS (fun hS => ?_)
  rotate_left
  · go_simp; try with_reducible rfl
  try go_frame
  refine held_pure (i := 14) (oi := ⟨some 20, _, _, _, _, _⟩) rfl (by kernel_rfl) (by kernel_rfl) (by kernel_rfl) (fun _ _ _ h => h) (by rfl) (fun w hSw => run_load_v4 rfl rfl (hAt.below hSw (by omega)) rfl) hS (fun hS => ?_)
  try go_frame
  refine held_pure (i := 16) (oi := ⟨some 22, _, _, _, _, _⟩) rfl (by kernel_rfl) (by kernel_rfl) (by kernel_rfl) (fun _ _ _ h => h) (by rfl) (v := ?_) (fun w hSw => ?_) hS (fun hS => ?_)
  rotate_left
  · go_simp; try with_reducible rfl
  try go_frame
  refine held_pure (i := 17) (oi := ⟨some 23, _, _, _, _, _⟩) rfl (by kernel_rfl) (by kernel_rfl) (by kernel_rfl) (fun _ _ _ h => h) (by rfl) (fun w hSw => run_load_int rfl rfl ((hAt.below hSw (by omega)).off)) hS (fun hS => ?_)
  try go_frame
  refine held_pure (i := 18) (oi := ⟨some 24, _, _, _, _, _⟩) rfl (by kernel_rfl) (by kernel_rfl) (by kernel_rfl) (fun _ _ _ h => h) (by rfl) (v := ?_) (fun w hSw => ?_) hS (fun hS => ?_)
  rotate_left
  · go_simp; try with_reducible rfl
  try go_frame
  refine held_pure (i := 21) (oi := ⟨some 27, _, _, _, _, _⟩) rfl (by kernel_rfl) (by kernel_rfl) (by kernel_rfl) (fun _ _ _ h => h) (by rfl) (v := ?_) (fun w hSw => ?_) hS (fun hS => ?_)
  rotate_left
  · go_simp; try with_reducible rfl
  try go_frame
  refine held_pure (i := 22) (oi := ⟨some 28, _, _, _, _, _⟩) rfl (by kernel_rfl) (by kernel_rfl) (by kernel_rfl) (fun _ _ _ h => h) (by rfl) (fun w hSw => run_load_int rfl rfl ((hAt.below hSw (by omega)).ttl)) hS (fun hS => ?_)
  try go_frame
  refine held_pure (i := 23) (oi := ⟨some 29, _, _, _, _, _⟩) rfl (by kernel_rfl) (by kernel_rfl) (by kernel_rfl) (fun _ _ _ h => h) (by rfl) (v := ?_) (fun w hSw => ?_) hS (fun hS => ?_)
  rotate_left
  · go_simp; try with_reducible rfl
  try go_frame
  refine held_pure (i := 24) (oi := ⟨some 30, _, _, _, _, _⟩) rfl (by kernel_rfl) (by kernel_rfl) (by kernel_rfl) (fun _ _ _ h => h) (by rfl) (v := ?_) (fun w hSw => ?_) hS (fun hS => ?_)
  rotate_left
  · go_simp; try with_reducible rfl
  try go_frame
  refine held_pure (i := 25) (oi := ⟨some 31, _, _, _, _, _⟩) rfl (by kernel_rfl) (by kernel_rfl) (by kernel_rfl) (fun _ _ _ h => h) (by rfl) (fun w hSw => run_load_int rfl rfl ((hAt.below hSw (by omega)).proto)) hS (fun hS => ?_)
  try go_frame
  refine held_pure (i := 26) (oi := ⟨some 32, _, _, _, _, _⟩) rfl (by kernel_rfl) (by kernel_rfl) (by kernel_rfl) (fun _ _ _ h => h) (by rfl) (v := ?_) (fun w hSw => ?_) hS (fun hS => ?_)
  rotate_left
  · go_simp; try with_reducible rfl
  try go_frame
  refine held_pure (i := 27) (oi := ⟨some 33, _, _, _, _, _⟩) rfl (by kernel_rfl) (by kernel_rfl) (by kernel_rfl) (fun _ _ _ h => h) (by rfl) (v := ?_) (fun w hSw => ?_) hS (fun hS => ?_)
  rotate_left
  · go_simp; try with_reducible rfl
  try go_frame
  refine held_pure (i := 28) (oi := ⟨some 34, _, _, _, _, _⟩) rfl (by kernel_rfl) (by kernel_rfl) (by kernel_rfl) (fun _ _ _ h => h) (by rfl) (v := ?_) (fun w hSw => ?_) hS (fun hS => ?_)
  rotate_left
  · go_simp; try with_reducible rfl
  try go_frame
  refine held_pure (i := 29) (oi := ⟨some 35, _, _, _, _, _⟩) rfl (by kernel_rfl) (by kernel_rfl) (by kernel_rfl) (fun _ _ _ h => h) (by rfl) (fun w hSw => run_load_int rfl rfl ((hAt.below hSw (by omega)).src)) hS (fun hS => ?_)
  try go_frame
  refine held_pure (i := 30) (oi := ⟨some 36, _, _, _, _, _⟩) rfl (by kernel_rfl) (by kernel_rfl) (by kernel_rfl) (fun _ _ _ h => h) (by rfl) (v := ?_) (fun w hSw => ?_) hS (fun hS => ?_)
  rotate_left
  · go_simp; try with_reducible rfl
  try go_frame
  refine held_pure (i := 31) (oi := ⟨some 37, _, _, _, _, _⟩) rfl (by kernel_rfl) (by kernel_rfl) (by kernel_rfl) (fun _ _ _ h => h) (by rfl) (v := ?_) (fun w hSw => ?_) hS (fun hS => ?_)
  rotate_left
  · go_simp; try with_reducible rfl
  try go_frame
  refine held_pure (i := 32) (oi := ⟨some 38, _, _, _, _, _⟩) rfl (by kernel_rfl) (by kernel_rfl) (by kernel_rfl) (fun _ _ _ h => h) (by rfl) (fun w hSw => run_load_int rfl rfl ((hAt.below hSw (by omega)).dst)) hS (fun hS => ?_)
  try go_frame
  refine held_pure (i := 33) (oi := ⟨some 39, _, _, _, _, _⟩) rfl (by kernel_rfl) (by kernel_rfl) (by kernel_rfl) (fun _ _ _ h => h) (by rfl) (v := ?_) (fun w hSw => ?_) hS (fun hS => ?_)
  rotate_left
  · go_simp; try with_reducible rfl
  try go_frame
  refine held_pure (i := 35) (oi := ⟨some 41, _, _, _, _, _⟩) rfl (by kernel_rfl) (by kernel_rfl) (by kernel_rfl) (fun _ _ _ h => h) (by rfl) (v := ?_) (fun w hSw => ?_) hS (fun hS => ?_)
  rotate_left
  · go_simp; try with_reducible rfl
  try go_frame
  refine wpAnyH_ready (rs := [1]) (by kernel_rfl) (by simp) (AllReadyH.cons (o := ⟨some 7, _, _, _, _, _⟩) rfl (fun K hK => ?_) AllReadyH.nil)
  rw [if_pos (by rfl)]
  go_simp
  refine (c4head q A c A' c' _ ho).mono ?_
  rintro e w1 ⟨rfl, x1⟩
  show K _ _
  refine hK.out _ _ (below_step hS x1) (fun hS => ?_)
  clear hK K
  try go_frame
  refine held_pure (i := 2) (oi := ⟨some 8, _, _, _, _, _⟩) rfl (by kernel_rfl) (by kernel_rfl) (by kernel_rfl) (fun _ _ _ h => h) (by rfl) (v := ?_) (fun w hSw => ?_) hS (fun hS => ?_)
  rotate_left
  · go_simp; try with_reducible rfl
  try go_frame
  refine held_pure (i := 3) (oi := ⟨some 9, _, _, _, _, _⟩) rfl (by kernel_rfl) (by kernel_rfl) (by kernel_rfl) (fun _ _ _ h => h) (by rfl) (v := .int .i64 (64 + head4 q / 4)) (fun w hSw => by go_simp; exact HO1.out) hS (fun hS => ?_)
  try go_frame
  refine held_pure (i := 4) (oi := ⟨some 10, _, _, _, _, _⟩) rfl (by kernel_rfl) (by kernel_rfl) (by kernel_rfl) (fun _ _ _ h => h) (by rfl) (v := ?_) (fun w hSw => ?_) hS (fun hS => ?_)
  rotate_left
  · go_simp; try with_reducible rfl
  try go_frame
  refine wpAnyH_ready (rs := [9]) (by kernel_rfl) (by simp) (AllReadyH.cons (o := ⟨some 15, _, _, _, _, _⟩) rfl (fun K hK => ?_) AllReadyH.nil)
  rw [if_pos (by rfl)]
  go_simp
  refine (c4size q A c A' c' _ ho hd).mono ?_
  rintro e w9 ⟨rfl, x9⟩
  show K _ _
  refine hK.out _ _ (below_step hS x9) (fun hS => ?_)
  clear hK K
  try go_frame
  refine held_pure (i := 10) (oi := ⟨some 16, _, _, _, _, _⟩) rfl (by kernel_rfl) (by kernel_rfl) (by kernel_rfl) (fun _ _ _ h => h) (by rfl) (v := ?_) (fun w hSw => ?_) hS (fun hS => ?_)
  rotate_left
  · go_simp; try with_reducible rfl
  try go_frame
  refine wpAnyH_ready (rs := [15]) (by kernel_rfl) (by simp) (AllReadyH.cons (o := ⟨some 21, _, _, _, _, _⟩) rfl (fun K hK => ?_) AllReadyH.nil)
  rw [if_pos (by rfl)]
  go_simp
  refine (c4flags q A c A' c' _).mono ?_
  rintro e w15 ⟨rfl, x15⟩
  show K _ _
  refine hK.out _ _ (below_step hS x15) (fun hS => ?_)
  clear hK K
  try go_frame
  refine held_pure (i := 19) (oi := ⟨some 25, _, _, _, _, _⟩) rfl (by kernel_rfl) (by kernel_rfl) (by kernel_rfl) (fun _ _ _ h => h) (by rfl) (v := .int .i64 (flags4 q)) (fun w hSw => by go_simp; exact HO2.out) hS (fun hS => ?_)
  try go_frame
  refine held_pure (i := 20) (oi := ⟨some 26, _, _, _, _, _⟩) rfl (by kernel_rfl) (by kernel_rfl) (by kernel_rfl) (fun _ _ _ h => h) (by rfl) (v := ?_) (fun w hSw => ?_) hS (fun hS => ?_)
  rotate_left
  · go_simp; try with_reducible rfl
  try go_frame
  refine held_pure (i := 34) (oi := ⟨some 40, _, _, _, _, _⟩) rfl (by kernel_rfl) (by kernel_rfl) (by kernel_rfl) (fun _ _ _ h => h) (by rfl) (v := .agg (flat PS).toArray) (fun w hSw => by go_simp; try exact HPA.out) hS (fun hS => ?_)
  try go_frame
  refine wpAnyH_done (by kernel_rfl) ?_ _
  have HL := Lib.hid (fun k => (putL_len (PS.take k) (fun x hx => HP4.out x (List.mem_of_mem_take hx))))
  have hzS := hS.size
  go_wp2_with fail
  go_loopw [3, 41] (fun v i W' => ∃ (k c : Nat) (A : Option Addr) (bs : List UInt8), k ≤ 10 ∧ i = .int .i64 (k : Int) ∧ Hid (bs = putL (PS.take k)) ∧ bs.length ≤ 40 ∧ v = .slice A bs.length c ∧ W'.ownsRow W.heap.size 5 1 (.slice A bs.length c) bs.length (row bs) ∧ Below W.heap.size W W') (fun _ i _ => 10 - (intOf i).toNat)
  case atStart => exact ⟨0, 0, none, [], Nat.zero_le _, rfl, Lib.hid rfl, by simp, rfl, World.ownsRow_nil _ _ _ _, hS⟩
  case round =>
    obtain ⟨k, ck, Ak, bs, hk, rfl, HB, hb40, rfl, hown, hbel⟩ := hrel
    have hsW := hbel.size
    by_cases hlt : k < 10
    · obtain ⟨x, hx⟩ : ∃ x, PS[k]? = some x := ⟨_, List.getElem?_eq_getElem (by rw [HPL.out]; exact hlt)⟩
      have hidx := ten_index PS HPL.out hx
      have HX := Lib.hid hx
      clear hx
      obtain ⟨n, s⟩ := x
      simp only at hidx
      go_wp2_with (go_at_call 76; refine (put_any Ak bs ck _ n s _ (arg_own (own_below hown ((Below.refl _ _).alloc (Nat.le_refl _) _))).rd (Nat.le_refl _) (by omega)).mono ?_; rintro e w2 ⟨v2, rfl, A2, c2, rfl, l2, rd2, ow2, x2⟩)
      have hz2 := x2.size
      have bel2 : Below W.heap.size W w2 := (hbel.alloc hbel.size _).trans (x2.mono (by simp; exact Nat.le_succ_of_le hbel.size))
      have own2 : w2.ownsRow W.heap.size 5 1 (.slice A2 (putB bs n s).length c2) (putB bs n s).length (row (putB bs n s)) := own_base ow2 (by simp; exact Nat.le_succ_of_le hbel.size)
      have HP := Lib.hid (putL_take PS HX.out)
      have h40 : (putB bs n s).length ≤ 40 := by
        rw [HB.out, ← HP.out]
        have := HL.out (k + 1)
        have h2 : (PS.take (k + 1)).length ≤ PS.length := by rw [List.length_take]; omega
        have := HPL.out
        omega
      go_roundw
      case rel => exact ⟨k + 1, c2, A2, _, by omega, by simp, Lib.hid (by rw [HP.out, HB.out]), h40, rfl, own2, bel2⟩
      case measure => simp [intOf]; omega
    · obtain rfl : k = 10 := by omega
      have HBS := Lib.hid (show H0 = bs ++ q.opt by rw [HPP.out, HB.out, List.take_of_length_le (by rw [HPL.out]; exact Nat.le_refl _)])
      have k9 := (hAt.below hbel (by omega)).opt
      have hOr := hO.below ((hB.trans (hbel.mono (by omega))).mono hB0)
      go_wp2_with (first
        | (at_builtin; refine append_rd rfl _ _ rfl W.heap.size _ _ _ rfl hown B A c q.opt rfl hO.none_ hOr.rd (by omega) hsW ?_; intro v5 w5 own5 grow5; obtain ⟨A5, c5, rfl, owm5⟩ := own_made (bs := H0) own5 (by rw [HBS.out, List.length_append]) (by rw [HBS.out, row_append]))
        | (go_at_call 62; refine (of_one (some ⟨w5.heap.size, 0, none⟩) H0 1 _ (sum4 q) HSM _ (Rd2.one (World.alloc_heap_new w5 _) (Nat.lt_succ_self _) (((arg_own owm5).alloc (Nat.le_refl _) _).more (Nat.le_succ _))) (by simp) (by rw [HHL.out]; omega)).mono ?_; rintro e w6 ⟨rfl, x6⟩)
        | (go_at_call 77; refine (set_any A5 H0 c5 w5.heap.size 10 (sum4 q) 2 _ ((arg_own owm5).rd.below (((Below.refl _ w5).alloc (Nat.le_refl _) _).trans (x6.mono (by simp)))) (Nat.le_trans (by simp) x6.size) (by rw [HHL.out]; omega)).mono ?_; rintro e w7 ⟨v7, rfl, m7⟩; rw [HST.out] at m7))
      go_ret
      have b5 : Below W.heap.size W w5 := hbel.grown grow5 hsW (fun k hk => own_block_ge hown k hk)
      have z5 := b5.size
      exact ⟨v7, rfl, m7.after (hB.trans ((b5.alloc z5 _).trans (x6.mono (by simp; omega)) |>.mono (by omega)))⟩
end
end Go.Proofs.Ytjgcpaepaocigaa

/-
  Contract of v4.Build. Conditions are each theorem's own.
-/
namespace Go.Proofs.Ytjgcpaepaocigaa
open Go.RowKit

theorem chk4_zero {q : P4} (h : chk4 q = 0) : arg4 q ∧ 0 ≤ size4 q ∧ size4 q ≤ 65535 := by
  have ha : arg4 q := by
    rcases Decidable.em (arg4 q) with h' | h'
    · exact h'
    · exfalso; rw [chk4, if_neg h'] at h; omega
  refine ⟨ha, by unfold size4 head4; omega, ?_⟩
  rcases Int.lt_or_le 65535 (size4 q) with h' | h'
  · exfalso; rw [chk4, if_pos ha, if_pos (.inl h')] at h; omega
  · exact h'
theorem out4 (q : P4) (n hn : Nat) (hh : hn = 20 + q.opt.length) (hnn : n = hn + q.dat.length) : ∃ C5 : List UInt8, C5 = splice (List.replicate n 0) 0 (hd4 q (size4 q) (sum4 q)) ∧ bld4 q = splice C5 hn q.dat ∧ C5.length = n := by
  have hl := hd4_len q (size4 q) (sum4 q)
  have e5 := splice_mid [] (List.replicate n 0) (hd4 q (size4 q) (sum4 q)) 0 rfl
  simp only [List.nil_append] at e5
  have e9 := splice_mid (hd4 q (size4 q) (sum4 q)) ((List.replicate n 0).drop (hd4 q (size4 q) (sum4 q)).length) q.dat hn (by omega)
  refine ⟨_, rfl, ?_, ?_⟩
  · rw [e5, e9, bld4]; simp [hl]; omega
  · rw [e5]; simp [hl]; omega
section
variable (q : P4) (A : Option Addr) (c : Nat) (A' : Option Addr) (c' : Nat) (w : World)
set_option maxRecDepth 100000 in
set_option maxHeartbeats 1000000 in
theorem c4build (B : Nat) (hO : Arg w B A c q.opt) (hD : Arg w B A' c' q.dat) (hB0 : B ≤ w.heap.size) (ho : q.opt.length ≤ 1000000) (hd : q.dat.length ≤ 1000000) :
    Calls Try.prog 19 #[v4v q A c A' c'] w fun e w' => ∃ v, e = .returned (.tuple #[v, .int .i64 (chk4 q)]) ∧ (chk4 q ≠ 0 → v = .slice none 0 0 ∧ Below w.heap.size w w') ∧ (chk4 q = 0 → Made w w' v (bld4 q)) := by
  have hB : Below w.heap.size w (w.alloc (.cells (v4a q A c A' c') 36)) := (Below.refl w.heap.size w).alloc (Nat.le_refl _) _
  have hAt := At4.new (q := q) (A := A) (c := c) (A' := A') (c' := c') w
  have hz : w.heap.size < (w.alloc (.cells (v4a q A c A' c') 36)).heap.size := by simp
  unfold v4v
  rw [show #[Value.int .i64 q.tos, .int .i64 q.id, .int .i64 q.off, .int .i64 q.ttl, .int .i64 q.proto, .int .i64 q.src, .int .i64 q.dst, .bool q.df, .bool q.mf, .slice A q.opt.length c, .slice A' q.dat.length c'] = v4a q A c A' c' from rfl]
  go_enter Try.func19, Try.ntmps19
  go_upto_region 1 with fail
  generalize w.alloc (.cells (v4a q A c A' c') 36) = W at *
  by_cases hc : chk4 q = 0
  · obtain ⟨ha, hs0, hs1⟩ := chk4_zero hc
    have HC := Lib.hid hc
    clear hc
    go_upto_region 4 with (first
      | ((with_reducible show wpList _ _ _ (Oper.mk _ (Op.load 36 _) _ _ _ _ :: _) _ _); refine wpList_val rfl (run_load_v4 rfl rfl hAt rfl) ?_)
      | (go_at_call 37; refine (c4check q A c A' c' _ ho hd).mono ?_; rintro e w1 ⟨rfl, x1⟩; rw [HC.out]))
    obtain ⟨hn, hhn⟩ : ∃ n, n = 20 + q.opt.length := ⟨_, rfl⟩
    obtain ⟨n, hnn⟩ : ∃ n, n = hn + q.dat.length := ⟨_, rfl⟩
    have HHd := Lib.hid (show head4 q = (hn : Int) by rw [head4, hhn]; omega)
    have HZ4 := Lib.hid (show size4 q = (n : Int) by rw [size4, HHd.out, hnn]; omega)
    have HHL := Lib.hid (show (hd4 q (size4 q) (sum4 q)).length = hn by rw [hd4_len, hhn])
    obtain ⟨C5, hC5, hC9, hL5⟩ := out4 q n hn hhn hnn
    have HC5 := Lib.hid hC5; have HC9 := Lib.hid hC9; have HL5 := Lib.hid hL5
    have HN := Lib.hid hnn
    have HL9 := Lib.hid (show (bld4 q).length = n by rw [bld4_len, hnn, hhn])
    have hn1 : n ≤ 65535 := by have := HZ4.out; omega
    have hhp : 20 ≤ hn := by omega
    have hnle : hn ≤ n := by omega
    obtain ⟨HD, hHD⟩ : ∃ l, l = hd4 q (size4 q) (sum4 q) := ⟨_, rfl⟩
    rw [← hHD] at HC5 HHL
    have HHD := Lib.hid hHD
    clear hC5 hC9 hL5 hnn hhn hHD
    have hmk : ∀ W : World, (Instr.makeSlice 34 (.int .i64 (n : Int)) (.int .i64 (n : Int))).run Try.prog W = .ok (.slice (some ⟨W.heap.size, 0, none⟩) n n) (W.alloc (.cells (List.replicate n (.int .u8 0)).toArray 5)) := fun W => by
      rw [← made_rep]; exact run_make_row' 34 5 (.int .u8 0) 1 Try.underlying34 info_u8 rfl .i64 .i64 n (by omega) (by omega) W
    have hAt1 := hAt.below x1 hz
    go_upto_region 5 with (first
      | ((with_reducible show wpList _ _ _ (Oper.mk _ (Op.load 36 _) _ _ _ _ :: _) _ _); refine wpList_val rfl (run_load_v4 rfl rfl hAt1 rfl) ?_)
      | (go_at_call 23; refine (c4size q A c A' c' _ ho hd).mono ?_; rintro e w2 ⟨rfl, x2⟩; rw [HZ4.out]))
    have x12 : Below W.heap.size W w2 := x1.trans (x2.mono x1.size)
    have hG : W.heap.size ≤ w2.heap.size := x12.size
    have x13 : Below W.heap.size W (w2.alloc (.cells (Array.replicate n (.int .u8 0)) 5)) := x12.alloc hG _
    have hAt3 := hAt.below x13 hz
    have hg3 : (w2.alloc (.cells (Array.replicate n (.int .u8 0)) 5)).heap[w2.heap.size]? = some (.cells (row (List.replicate n 0)).toArray 5 (0, 0)) := by
      rw [World.alloc_heap_new]; simp [row]
    have hz3 : w2.heap.size < (w2.alloc (.cells (Array.replicate n (.int .u8 0)) 5)).heap.size := by simp
    clear hAt1 hmk
    have HG3 := Lib.hid hg3
    clear hg3
    generalize w2.alloc (.cells (Array.replicate n (.int .u8 0)) 5) = W3 at *
    have hO3 := hO.below ((hB.trans (x13.mono hB.size)).mono hB0)
    go_upto_region 6 with (first
      | ((with_reducible show wpList _ _ _ (Oper.mk _ (Op.load 36 _) _ _ _ _ :: _) _ _); refine wpList_val rfl (run_load_v4 rfl rfl hAt3 rfl) ?_)
      | (go_at_call 47; refine (c4bhead q A c A' c' _ B ha ⟨hs0, hs1⟩ hO3 (Nat.le_trans hB0 (hB.trans (x13.mono hB.size)).size) hd).mono ?_; rintro e w4 ⟨v4, rfl, m4⟩; rw [← HHD.out] at m4; obtain ⟨A4, c4, rfl, arg4', ow4, x4⟩ := made_shape m4)
      | (refine copy_wl rfl (.tmp 14) (.tmp 16) rfl w2.heap.size 0 n _ _ _ HD _ _ rfl (fun _ => rfl) rfl (List.replicate n 0) ((x4.block _ hz3).trans HG3.out) (by rw [HHL.out]; exact hnle) arg4'.rd (by rw [HHL.out]; simp; exact hnle) W W.heap.size (x13.trans (x4.mono x13.size)) hG C5 HC5.out ?_; intro w5 HG5 hB5 hz5))
    have hgz : w2.heap.size < w5.heap.size := by have := x4.size; omega
    refine wp_region_held_drew (S := fun w' => Below W.heap.size W w') (by kernel_rfl) hB5.drew (fun hS => ?_)
    refine held_pure (i := 0) (oi := ⟨some 18, _, _, _, _, _⟩) rfl (by kernel_rfl) (by kernel_rfl) (by kernel_rfl) (fun _ _ _ h => h) (by rfl) (v := ?_) (fun w hSw => ?_) hS (fun hS => ?_)
    rotate_left
    · go_simp; try with_reducible rfl
    try go_frame
    refine held_pure (i := 1) (oi := ⟨some 19, _, _, _, _, _⟩) rfl (by kernel_rfl) (by kernel_rfl) (by kernel_rfl) (fun _ _ _ h => h) (by rfl) (fun w hSw => run_load_v4 rfl rfl (hAt.below hSw hz) rfl) hS (fun hS => ?_)
    try go_frame
    refine held_pure (i := 4) (oi := ⟨some 22, _, _, _, _, _⟩) rfl (by kernel_rfl) (by kernel_rfl) (by kernel_rfl) (fun _ _ _ h => h) (by rfl) (v := ?_) (fun w hSw => ?_) hS (fun hS => ?_)
    rotate_left
    · go_simp; try with_reducible rfl
    try go_frame
    refine held_pure (i := 5) (oi := ⟨some 23, _, _, _, _, _⟩) rfl (by kernel_rfl) (by kernel_rfl) (by kernel_rfl) (fun _ _ _ h => h) (by rfl) (fun w hSw => run_load_sl rfl rfl (hAt.below hSw hz).dat) hS (fun hS => ?_)
    try go_frame
    refine wpAnyH_ready (rs := [2]) (by kernel_rfl) (by simp) (AllReadyH.cons (o := ⟨some 20, _, _, _, _, _⟩) rfl (fun K hK => ?_) AllReadyH.nil)
    rw [if_pos (by rfl)]
    go_simp
    refine (c4head q A c A' c' _ ho).mono ?_
    rintro e wH ⟨rfl, xH⟩
    rw [HHd.out]
    show K _ _
    refine hK.out _ _ (hS.trans (xH.mono hS.size)) (fun hS => ?_)
    clear hK K
    try go_frame
    refine held_pure (i := 3) (oi := ⟨some 21, _, _, _, _, _⟩) rfl (by kernel_rfl) (by kernel_rfl) (by kernel_rfl) (fun _ _ _ h => h) (by rfl) (fun w hSw => run_cut_l rfl rfl (l := hn) rfl (by omega) (m := q.dat.length) (by have := HN.out; omega)) hS (fun hS => ?_)
    try go_frame
    refine wpAnyH_ready (rs := [6]) (by kernel_rfl) (by simp) (AllReadyH.cons (o := ⟨some 24, _, _, _, _, _⟩) rfl (fun K hK => ?_) AllReadyH.nil)
    rw [if_pos (by rfl)]
    refine copy_wp _ _ rfl w2.heap.size hn _ _ _ _ q.dat _ B rfl (fun h => by have := HN.out; simp [cutA, add_off]; omega) rfl C5 (((xH).block _ hgz).trans HG5.out) (Nat.le_refl _) (hD.rd.below ((hB.trans (hS.mono (by omega))).mono hB0)) (by rw [HL5.out]; have := HN.out; omega) W W.heap.size hS hG (bld4 q) HC9.out ?_
    intro w9 HG9 hB9 hz9
    refine hK.out _ _ hB9 (fun hS => ?_)
    clear hK K
    try go_frame
    refine wpAnyH_done (by kernel_rfl) ?_ _
    go_wp2_with fail
    go_ret2
    exact ⟨.slice (some ⟨w2.heap.size, 0, none⟩) n n, by rw [HC.out]; rfl, fun h => absurd HC.out h, fun _ => by
      have ho' := own_of_block (base := w.heap.size) (g := w2.heap.size) (by omega) HG9.out (by rw [HL9.out]; omega)
      rw [HL9.out] at ho'
      exact Made.of_own (by rw [HL9.out]; exact ho') (hB.trans (hS.mono (by omega)))⟩
  · have hne : (chk4 q != 0) = true := by simpa using hc
    have HN := Lib.hid hc
    clear hc
    go_wp2_with (first
      | ((with_reducible show wpList _ _ _ (Oper.mk _ (Op.load 36 _) _ _ _ _ :: _) _ _); refine wpList_val rfl (run_load_v4 rfl rfl hAt rfl) ?_)
      | (go_at_call 37; refine (c4check q A c A' c' _ ho hd).mono ?_; rintro e w1 ⟨rfl, x1⟩; skip))
    go_ret2
    exact ⟨.slice none 0 0, rfl, fun _ => ⟨rfl, hB.trans (x1.mono (by omega))⟩, fun h => absurd h HN.out⟩
end
end Go.Proofs.Ytjgcpaepaocigaa

/-
  Contract of v4's layout. Conditions are each theorem's own.
-/
namespace Go.Proofs.Ytjgcpaepaocigaa
open Go.RowKit

/-- What is wrong with the numbers of a head; nothing: 0. -/
def lay4 (b : List UInt8) (quoted : Bool) : Int :=
  if b.length < 20 then 3
  else if byt b 0 / 16 ≠ 4 ∨ hlen b < 20 then 4
  else if hlen b > (b.length : Int) ∨ (quoted = false ∧ n2 b 2 > (b.length : Int)) then 3
  else if n2 b 2 < hlen b ∨ n2 b 6 ≥ 32768 then 4
  else 0
theorem and_two (a k : Nat) : a &&& 2 ^ k = (if a.testBit k then 2 ^ k else 0) := by
  refine Nat.eq_of_testBit_eq fun i => ?_
  rw [Nat.testBit_and, Nat.testBit_two_pow]
  rcases Nat.decEq k i with h | h
  · cases hb : a.testBit k <;> simp [h]
  · subst h; cases hb : a.testBit k <;> simp
theorem and_bit (k : Nat) (n : Int) (h0 : 0 ≤ n) (h1 : n ≤ 9223372036854775807) (hk : k ≤ 62) : bits .and .i64 n (2 ^ k) = n / 2 ^ k % 2 * 2 ^ k := by
  obtain ⟨a, rfl⟩ := Int.eq_ofNat_of_zero_le h0
  have hc : ((2 : Int) ^ k) = ((2 ^ k : Nat) : Int) := by simp
  have hp : 2 ^ k < 2 ^ 63 := Nat.pow_lt_pow_right (by decide) (by omega)
  rw [hc, (bits_nat .i64 63 (by decide) wraps63 a (2 ^ k) (by omega) hp).1]
  have e : ((a : Int) / ((2 ^ k : Nat) : Int)) % 2 = ((a / 2 ^ k % 2 : Nat) : Int) := rfl
  rw [e, and_two a k, Nat.testBit_eq_decide_div_mod_eq]
  rcases Nat.mod_two_eq_zero_or_one (a / 2 ^ k) with h | h <;> simp [h]
def layV (n s k : Int) : Value := .tuple #[.int .i64 (if k = 0 then n else 0), .int .i64 (if k = 0 then s else 0), .int .i64 k]
set_option maxRecDepth 100000 in
set_option maxHeartbeats 1000000 in
theorem c4layout (b : List UInt8) (A : Option Addr) (c B : Nat) (quoted : Bool) (w : World) (hR : Arg w B A c b) (hl : b.length ≤ 1000000) :
    Calls Try.prog 52 #[.slice A b.length c, .bool quoted] w fun e w' => e = .returned (layV (hlen b) (min (n2 b 2) (b.length : Int)) (lay4 b quoted)) ∧ w = w' := by
  have hcap := hR.cap
  go_enter Try.func52, Try.ntmps52
  by_cases h20 : b.length < 20
  · have d20 : decide ((b.length : Int) < 20) = true := by simp; omega
    have HL := Lib.hid (show lay4 b quoted = 3 by rw [lay4, if_pos h20])
    go_wp2_with fail
    go_ret3
    exact ⟨by rw [HL.out]; rfl, rfl⟩
  · have d20 : decide ((b.length : Int) < 20) = false := by simp; omega
    have G0 := Lib.hid (show getV b 0 1 = byt b 0 from get_one (b := b) (i := 0) (by omega))
    have b0 := byt_lo b 0; have b1 := byt_hi b 0
    obtain ⟨F, hF⟩ : ∃ n, n = byt b 0 := ⟨_, rfl⟩
    have HH := Lib.hid (show hlen b = F % 16 * 4 by rw [hF]; rfl)
    rw [← hF] at G0 b0 b1
    have HF := Lib.hid hF
    clear hF
    have hA : bits .and .i64 F 15 = F % 16 := and_mask 4 F b0 (by omega) (by decide)
    by_cases h4 : F / 16 = 4
    · by_cases h5 : F % 16 < 5
      · have HL := Lib.hid (show lay4 b quoted = 4 by rw [lay4, if_neg h20, if_pos (.inr (by rw [HH.out]; omega))])
        have d4 : (F / 16 != 4) = false := by simp [h4]
        have d5 : decide (F % 16 < 5) = true := by simpa using h5
        go_wp2_with (first
      | (go_at_call 83; go_loud ((with_reducible refine (get4_any A b c B 0 1 _ hR.rd (by omega) hR.cap).mono ?_); rintro e w' ⟨rfl, rfl⟩; rw [show getV b 0 1 = F from G0.out])))
        go_ret3
        exact ⟨by rw [HL.out]; rfl, rfl⟩
      · have d4 : (F / 16 != 4) = false := by simp [h4]
        have d5 : decide (F % 16 < 5) = false := by simpa using h5
        go_upto_region 6 with (first
      | (go_at_call 83; go_loud ((with_reducible refine (get4_any A b c B 0 1 _ hR.rd (by omega) hR.cap).mono ?_); rintro e w' ⟨rfl, rfl⟩; rw [show getV b 0 1 = F from G0.out])))
        have z0 := n2_bd b 2
        have G2 := Lib.hid (show getV b 2 2 = n2 b 2 from get_two (b := b) (i := 2) (by omega))
        obtain ⟨Z, hZ⟩ : ∃ n, n = n2 b 2 := ⟨_, rfl⟩
        rw [← hZ] at G2 z0
        have x0 := n2_bd b 6
        have G6 := Lib.hid (show getV b 6 2 = n2 b 6 from get_two (b := b) (i := 6) (by omega))
        obtain ⟨X, hX⟩ : ∃ n, n = n2 b 6 := ⟨_, rfl⟩
        rw [← hX] at G6 x0
        have HZ := Lib.hid hZ
        have HX := Lib.hid hX
        clear hZ hX
        have HW := Lib.hid (IntWalk.i64_in (F % 16 * 4) (by omega))
        go_upto_region 7 with (first
      | (go_at_call 83; go_loud ((with_reducible refine (get4_any A b c B 2 2 _ hR.rd (by omega) hR.cap).mono ?_); rintro e w' ⟨rfl, rfl⟩; rw [show getV b 2 2 = Z from G2.out])))
        have HB := Lib.hid (show bits .and .i64 X 32768 = X / 32768 % 2 * 32768 from and_bit 15 X x0.1 (by omega) (by decide))
        rcases quoted with _ | _
        · skip
          rcases Int.lt_or_le (b.length : Int) (F % 16 * 4) with k1 | k1
          · have d1 : decide ((b.length : Int) < F % 16 * 4) = true := by simpa using k1
            have HL := Lib.hid (show lay4 b false = 3 by rw [lay4, if_neg h20, if_neg (by rw [← HF.out, HH.out]; omega), if_pos (.inl (by rw [HH.out]; omega))])
            go_wp2_with fail
            go_ret3
            exact ⟨by rw [HL.out]; rfl, rfl⟩
          · have d1 : decide ((b.length : Int) < F % 16 * 4) = false := by simpa using k1
            rcases Int.lt_or_le (b.length : Int) Z with k2 | k2
            · have d2 : decide ((b.length : Int) < Z) = true := by simpa using k2
              have HL := Lib.hid (show lay4 b false = 3 by rw [lay4, if_neg h20, if_neg (by rw [← HF.out, HH.out]; omega), if_pos (.inr ⟨rfl, by rw [← HZ.out]; omega⟩)])
              go_wp2_with fail
              go_ret3
              exact ⟨by rw [HL.out]; rfl, rfl⟩
            · have d2 : decide ((b.length : Int) < Z) = false := by simpa using k2
              rcases Int.lt_or_le Z (F % 16 * 4) with k3 | k3
              · have d3 : decide (Z < F % 16 * 4) = true := by simpa using k3
                have HL := Lib.hid (show lay4 b false = 4 by rw [lay4, if_neg h20, if_neg (by rw [← HF.out, HH.out]; omega), if_neg (by rw [HH.out, ← HZ.out]; simp; omega), if_pos (by rw [HH.out, ← HZ.out, ← HX.out]; omega)])
                go_wp2_with fail
                go_ret3
                exact ⟨by rw [HL.out]; rfl, rfl⟩
              · have d3 : decide (Z < F % 16 * 4) = false := by simpa using k3
                rcases Int.lt_or_le X 32768 with k4 | k4
                · have hX : bits .and .i64 X 32768 = 0 := by rw [HB.out]; omega
                  have HL := Lib.hid (show lay4 b false = 0 by rw [lay4, if_neg h20, if_neg (by rw [← HF.out, HH.out]; omega), if_neg (by rw [HH.out, ← HZ.out]; simp; omega), if_neg (by rw [HH.out, ← HZ.out, ← HX.out]; omega)])
                  go_wp2_with (first
                        | (go_at_call 83; go_loud ((with_reducible refine (get4_any A b c B 6 2 _ hR.rd (by omega) hR.cap).mono ?_); rintro e w' ⟨rfl, rfl⟩; rw [show getV b 6 2 = X from G6.out])))
                  go_ret3
                  exact ⟨by rw [HL.out]; rw [HH.out, ← HZ.out, show min Z (b.length : Int) = Z by omega]; rfl, rfl⟩
                · have hX : bits .and .i64 X 32768 = 32768 := by rw [HB.out]; omega
                  have HL := Lib.hid (show lay4 b false = 4 by rw [lay4, if_neg h20, if_neg (by rw [← HF.out, HH.out]; omega), if_neg (by rw [HH.out, ← HZ.out]; simp; omega), if_pos (by rw [HH.out, ← HZ.out, ← HX.out]; omega)])
                  go_wp2_with (first
                        | (go_at_call 83; go_loud ((with_reducible refine (get4_any A b c B 6 2 _ hR.rd (by omega) hR.cap).mono ?_); rintro e w' ⟨rfl, rfl⟩; rw [show getV b 6 2 = X from G6.out])))
                  go_ret3
                  exact ⟨by rw [HL.out]; rfl, rfl⟩
        · rcases Int.lt_or_le (b.length : Int) Z with k0 | k0
          · skip
            rcases Int.lt_or_le (b.length : Int) (F % 16 * 4) with k1 | k1
            · have d1 : decide ((b.length : Int) < F % 16 * 4) = true := by simpa using k1
              have HL := Lib.hid (show lay4 b true = 3 by rw [lay4, if_neg h20, if_neg (by rw [← HF.out, HH.out]; omega), if_pos (.inl (by rw [HH.out]; omega))])
              go_wp2_with fail
              go_ret3
              exact ⟨by rw [HL.out]; rfl, rfl⟩
            · have d1 : decide ((b.length : Int) < F % 16 * 4) = false := by simpa using k1
              have d2 : decide ((b.length : Int) < (b.length : Int)) = false := by simp; try omega
              rcases Int.lt_or_le (b.length : Int) (F % 16 * 4) with k3 | k3
              · have d3 : decide ((b.length : Int) < F % 16 * 4) = true := by simpa using k3
                exfalso; omega
              · have d3 : decide ((b.length : Int) < F % 16 * 4) = false := by simpa using k3
                rcases Int.lt_or_le X 32768 with k4 | k4
                · have hX : bits .and .i64 X 32768 = 0 := by rw [HB.out]; omega
                  have HL := Lib.hid (show lay4 b true = 0 by rw [lay4, if_neg h20, if_neg (by rw [← HF.out, HH.out]; omega), if_neg (by rw [HH.out, ← HZ.out]; simp; omega), if_neg (by rw [HH.out, ← HZ.out, ← HX.out]; omega)])
                  go_wp2_with (first
                        | (go_at_call 83; go_loud ((with_reducible refine (get4_any A b c B 6 2 _ hR.rd (by omega) hR.cap).mono ?_); rintro e w' ⟨rfl, rfl⟩; rw [show getV b 6 2 = X from G6.out])))
                  go_ret3
                  exact ⟨by rw [HL.out]; rw [HH.out, ← HZ.out, show min Z (b.length : Int) = (b.length : Int) by omega]; rfl, rfl⟩
                · have hX : bits .and .i64 X 32768 = 32768 := by rw [HB.out]; omega
                  have HL := Lib.hid (show lay4 b true = 4 by rw [lay4, if_neg h20, if_neg (by rw [← HF.out, HH.out]; omega), if_neg (by rw [HH.out, ← HZ.out]; simp; omega), if_pos (by rw [HH.out, ← HZ.out, ← HX.out]; omega)])
                  go_wp2_with (first
                        | (go_at_call 83; go_loud ((with_reducible refine (get4_any A b c B 6 2 _ hR.rd (by omega) hR.cap).mono ?_); rintro e w' ⟨rfl, rfl⟩; rw [show getV b 6 2 = X from G6.out])))
                  go_ret3
                  exact ⟨by rw [HL.out]; rfl, rfl⟩
          · skip
            rcases Int.lt_or_le (b.length : Int) (F % 16 * 4) with k1 | k1
            · have d1 : decide ((b.length : Int) < F % 16 * 4) = true := by simpa using k1
              have HL := Lib.hid (show lay4 b true = 3 by rw [lay4, if_neg h20, if_neg (by rw [← HF.out, HH.out]; omega), if_pos (.inl (by rw [HH.out]; omega))])
              go_wp2_with fail
              go_ret3
              exact ⟨by rw [HL.out]; rfl, rfl⟩
            · have d1 : decide ((b.length : Int) < F % 16 * 4) = false := by simpa using k1
              have d2 : decide ((b.length : Int) < Z) = false := by simp; try omega
              rcases Int.lt_or_le Z (F % 16 * 4) with k3 | k3
              · have d3 : decide (Z < F % 16 * 4) = true := by simpa using k3
                have HL := Lib.hid (show lay4 b true = 4 by rw [lay4, if_neg h20, if_neg (by rw [← HF.out, HH.out]; omega), if_neg (by rw [HH.out, ← HZ.out]; simp; omega), if_pos (by rw [HH.out, ← HZ.out, ← HX.out]; omega)])
                go_wp2_with fail
                go_ret3
                exact ⟨by rw [HL.out]; rfl, rfl⟩
              · have d3 : decide (Z < F % 16 * 4) = false := by simpa using k3
                rcases Int.lt_or_le X 32768 with k4 | k4
                · have hX : bits .and .i64 X 32768 = 0 := by rw [HB.out]; omega
                  have HL := Lib.hid (show lay4 b true = 0 by rw [lay4, if_neg h20, if_neg (by rw [← HF.out, HH.out]; omega), if_neg (by rw [HH.out, ← HZ.out]; simp; omega), if_neg (by rw [HH.out, ← HZ.out, ← HX.out]; omega)])
                  go_wp2_with (first
                        | (go_at_call 83; go_loud ((with_reducible refine (get4_any A b c B 6 2 _ hR.rd (by omega) hR.cap).mono ?_); rintro e w' ⟨rfl, rfl⟩; rw [show getV b 6 2 = X from G6.out])))
                  go_ret3
                  exact ⟨by rw [HL.out]; rw [HH.out, ← HZ.out, show min Z (b.length : Int) = Z by omega]; rfl, rfl⟩
                · have hX : bits .and .i64 X 32768 = 32768 := by rw [HB.out]; omega
                  have HL := Lib.hid (show lay4 b true = 4 by rw [lay4, if_neg h20, if_neg (by rw [← HF.out, HH.out]; omega), if_neg (by rw [HH.out, ← HZ.out]; simp; omega), if_pos (by rw [HH.out, ← HZ.out, ← HX.out]; omega)])
                  go_wp2_with (first
                        | (go_at_call 83; go_loud ((with_reducible refine (get4_any A b c B 6 2 _ hR.rd (by omega) hR.cap).mono ?_); rintro e w' ⟨rfl, rfl⟩; rw [show getV b 6 2 = X from G6.out])))
                  go_ret3
                  exact ⟨by rw [HL.out]; rfl, rfl⟩

    · have HL := Lib.hid (show lay4 b quoted = 4 by rw [lay4, if_neg h20, if_pos (.inl (by rw [← HF.out]; exact h4))])
      have d4 : (F / 16 != 4) = true := by simpa using h4
      go_wp2_with (first
      | (go_at_call 83; go_loud ((with_reducible refine (get4_any A b c B 0 1 _ hR.rd (by omega) hR.cap).mono ?_); rintro e w' ⟨rfl, rfl⟩; rw [show getV b 0 1 = F from G0.out])))
      go_ret3
      exact ⟨by rw [HL.out]; rfl, rfl⟩
end Go.Proofs.Ytjgcpaepaocigaa

/-
  Contract of v4's read. Conditions are each theorem's own.
-/
namespace Go.Proofs.Ytjgcpaepaocigaa
open Go.RowKit

theorem flag_one (n m : Int) (hm : 0 < m) : ((n % 2 * m) != 0) = decide (n % 2 = 1) := by
  rcases (show n % 2 = 0 ∨ n % 2 = 1 by omega) with h | h
  · simp [h]
  · simp [h]; omega
section
variable (b : List UInt8) (A : Option Addr) (c : Nat) (w : World)
set_option maxRecDepth 100000 in
set_option maxHeartbeats 2000000 in
theorem c4read (B H Z : Nat) (D : List UInt8) (hR : Arg w B A c b) (hB : B ≤ w.heap.size) (hl2 : b.length ≤ 1000000) (hH : (H : Int) = hlen b) (h20 : 20 ≤ H) (hHZ : H ≤ Z) (hZl : Z ≤ b.length) (hDd : D = (b.take Z).drop H) :
    Calls Try.prog 53 #[.slice A b.length c, .int .i64 (H : Int), .int .i64 (Z : Int)] w fun e w' => ∃ P p P' p', e = .returned (v4v (fl4 b D) P p P' p') ∧ Made w w' (.slice P (fl4 b D).opt.length p) (fl4 b D).opt ∧ Made w w' (.slice P' (fl4 b D).dat.length p') (fl4 b D).dat := by
  have hcap := hR.cap
  have hOR0 := OwnR.new w (v4a p4z none 0 none 0) 36
  obtain ⟨O, hOd⟩ : ∃ l, l = (b.take H).drop 20 := ⟨_, rfl⟩
  have hO : Arg w B (cutA A c 20) (c - 20) O := by rw [hOd]; exact hR.cut 20 H (by omega)
  have hD : Arg w B (cutA A c H) (c - H) D := by rw [hDd]; exact hR.cut H Z hZl
  have HOl := Lib.hid (show O.length = H - 20 by rw [hOd]; simp; omega)
  have HDl := Lib.hid (show D.length = Z - H by rw [hDd]; simp; omega)
  have G6 := Lib.hid (show getV b 6 2 = n2 b 6 from get_two (b := b) (i := 6) (by omega))
  have G1 := Lib.hid (show getV b 1 1 = byt b 1 from get_one (b := b) (i := 1) (by omega))
  have G4 := Lib.hid (show getV b 4 2 = n2 b 4 from get_two (b := b) (i := 4) (by omega))
  have G8 := Lib.hid (show getV b 8 1 = byt b 8 from get_one (b := b) (i := 8) (by omega))
  have G9 := Lib.hid (show getV b 9 1 = byt b 9 from get_one (b := b) (i := 9) (by omega))
  have G12 := Lib.hid (show getV b 12 4 = n4 b 12 from get_four (b := b) (i := 12) (by omega))
  have G16 := Lib.hid (show getV b 16 4 = n4 b 16 from get_four (b := b) (i := 16) (by omega))
  have hx := n2_bd b 6
  obtain ⟨X, hX⟩ : ∃ n, n = n2 b 6 := ⟨_, rfl⟩
  have HQ := Lib.hid (show fl4 b D = ⟨byt b 1, n2 b 4, X % 8192 * 8, byt b 8, byt b 9, n4 b 12, n4 b 16, decide (X / 16384 % 2 = 1), decide (X / 8192 % 2 = 1), O, D⟩ by rw [fl4, ← hH, ← hX, hOd]; rfl)
  rw [← hX] at G6 hx
  clear hX hOd hDd hH
  have HA := Lib.hid (show bits .and .i64 X 8191 = X % 8192 from and_mask 13 X hx.1 (by omega) (by decide))
  have HW := Lib.hid (IntWalk.i64_in (X % 8192 * 8) (by omega))
  have HB1 := Lib.hid (show bits .and .i64 X 16384 = X / 16384 % 2 * 16384 from and_bit 14 X hx.1 (by omega) (by decide))
  have HB2 := Lib.hid (show bits .and .i64 X 8192 = X / 8192 % 2 * 8192 from and_bit 13 X hx.1 (by omega) (by decide))
  have HC1 := Lib.hid (flag_one (X / 16384) 16384 (by decide))
  have HC2 := Lib.hid (flag_one (X / 8192) 8192 (by decide))
  rw [HQ.out]
  go_enter Try.func53, Try.ntmps53
  go_upto_region 1 with fail
  have hOR : OwnR w 36 11 (w.alloc (.cells #[.int .i64 0, .int .i64 0, .int .i64 0, .int .i64 0, .int .i64 0, .int .i64 0, .int .i64 0, .bool false, .bool false, .slice none 0 0, .slice none 0 0] 36)) := hOR0
  clear hOR0
  generalize w.alloc (.cells #[.int .i64 0, .int .i64 0, .int .i64 0, .int .i64 0, .int .i64 0, .int .i64 0, .int .i64 0, .bool false, .bool false, .slice none 0 0, .slice none 0 0] 36) = W at *
  go_upto_region 2 with (go_at_call 83; ((with_reducible refine (get4_any A b c B 6 2 _ (hR.below (hOR.b.mono hB)).rd (by omega) hR.cap).mono ?_); rintro e w' ⟨rfl, rfl⟩; rw [show getV b 6 2 = X from G6.out]))
  refine wp_region_held_drew (S := OwnR w 36 11) (by kernel_rfl) hOR.drew (fun hS => ?_)
  refine held_pure (i := 0) (oi := ⟨some 10, _, _, _, _, _⟩) rfl (by kernel_rfl) (by kernel_rfl) (by kernel_rfl) (fun _ _ _ h => h) (by rfl) (v := ?_) (fun w hSw => ?_) hS (fun hS => ?_)
  rotate_left
  · go_simp; try with_reducible rfl
  try go_frame
  refine held_pure (i := 2) (oi := ⟨some 12, _, _, _, _, _⟩) rfl (by kernel_rfl) (by kernel_rfl) (by kernel_rfl) (fun _ _ _ h => h) (by rfl) (v := ?_) (fun w hSw => ?_) hS (fun hS => ?_)
  rotate_left
  · go_simp; try with_reducible rfl
  try go_frame
  refine held_pure (i := 4) (oi := ⟨some 14, _, _, _, _, _⟩) rfl (by kernel_rfl) (by kernel_rfl) (by kernel_rfl) (fun _ _ _ h => h) (by rfl) (v := ?_) (fun w hSw => ?_) hS (fun hS => ?_)
  rotate_left
  · go_simp; try with_reducible rfl
  try go_frame
  refine held_pure (i := 5) (oi := ⟨some 15, _, _, _, _, _⟩) rfl (by kernel_rfl) (by kernel_rfl) (by kernel_rfl) (fun _ _ _ h => h) (by rfl) (v := .int .i64 (X % 8192)) (fun w hSw => by go_simp; exact HA.out) hS (fun hS => ?_)
  try go_frame
  refine held_pure (i := 6) (oi := ⟨some 16, _, _, _, _, _⟩) rfl (by kernel_rfl) (by kernel_rfl) (by kernel_rfl) (fun _ _ _ h => h) (by rfl) (v := .int .i64 (X % 8192 * 8)) (fun w hSw => by go_simp; try exact HW.out) hS (fun hS => ?_)
  try go_frame
  refine held_pure (i := 7) (oi := ⟨some 17, _, _, _, _, _⟩) rfl (by kernel_rfl) (by kernel_rfl) (by kernel_rfl) (fun _ _ _ h => h) (by rfl) (v := ?_) (fun w hSw => ?_) hS (fun hS => ?_)
  rotate_left
  · go_simp; try with_reducible rfl
  try go_frame
  refine held_pure (i := 9) (oi := ⟨some 19, _, _, _, _, _⟩) rfl (by kernel_rfl) (by kernel_rfl) (by kernel_rfl) (fun _ _ _ h => h) (by rfl) (v := ?_) (fun w hSw => ?_) hS (fun hS => ?_)
  rotate_left
  · go_simp; try with_reducible rfl
  try go_frame
  refine held_pure (i := 11) (oi := ⟨some 21, _, _, _, _, _⟩) rfl (by kernel_rfl) (by kernel_rfl) (by kernel_rfl) (fun _ _ _ h => h) (by rfl) (v := ?_) (fun w hSw => ?_) hS (fun hS => ?_)
  rotate_left
  · go_simp; try with_reducible rfl
  try go_frame
  refine held_pure (i := 13) (oi := ⟨some 23, _, _, _, _, _⟩) rfl (by kernel_rfl) (by kernel_rfl) (by kernel_rfl) (fun _ _ _ h => h) (by rfl) (v := ?_) (fun w hSw => ?_) hS (fun hS => ?_)
  rotate_left
  · go_simp; try with_reducible rfl
  try go_frame
  refine held_pure (i := 15) (oi := ⟨some 25, _, _, _, _, _⟩) rfl (by kernel_rfl) (by kernel_rfl) (by kernel_rfl) (fun _ _ _ h => h) (by rfl) (v := ?_) (fun w hSw => ?_) hS (fun hS => ?_)
  rotate_left
  · go_simp; try with_reducible rfl
  try go_frame
  refine held_pure (i := 16) (oi := ⟨some 26, _, _, _, _, _⟩) rfl (by kernel_rfl) (by kernel_rfl) (by kernel_rfl) (fun _ _ _ h => h) (by rfl) (v := .int .i64 (X / 16384 % 2 * 16384)) (fun w hSw => by go_simp; exact HB1.out) hS (fun hS => ?_)
  try go_frame
  refine held_pure (i := 17) (oi := ⟨some 27, _, _, _, _, _⟩) rfl (by kernel_rfl) (by kernel_rfl) (by kernel_rfl) (fun _ _ _ h => h) (by rfl) (v := .bool (decide (X / 16384 % 2 = 1))) (fun w hSw => by go_simp; exact HC1.out) hS (fun hS => ?_)
  try go_frame
  refine held_pure (i := 18) (oi := ⟨some 28, _, _, _, _, _⟩) rfl (by kernel_rfl) (by kernel_rfl) (by kernel_rfl) (fun _ _ _ h => h) (by rfl) (v := ?_) (fun w hSw => ?_) hS (fun hS => ?_)
  rotate_left
  · go_simp; try with_reducible rfl
  try go_frame
  refine held_pure (i := 19) (oi := ⟨some 29, _, _, _, _, _⟩) rfl (by kernel_rfl) (by kernel_rfl) (by kernel_rfl) (fun _ _ _ h => h) (by rfl) (v := .int .i64 (X / 8192 % 2 * 8192)) (fun w hSw => by go_simp; exact HB2.out) hS (fun hS => ?_)
  try go_frame
  refine held_pure (i := 20) (oi := ⟨some 30, _, _, _, _, _⟩) rfl (by kernel_rfl) (by kernel_rfl) (by kernel_rfl) (fun _ _ _ h => h) (by rfl) (v := .bool (decide (X / 8192 % 2 = 1))) (fun w hSw => by go_simp; exact HC2.out) hS (fun hS => ?_)
  try go_frame
  refine held_pure (i := 21) (oi := ⟨some 31, _, _, _, _, _⟩) rfl (by kernel_rfl) (by kernel_rfl) (by kernel_rfl) (fun _ _ _ h => h) (by rfl) (v := ?_) (fun w hSw => ?_) hS (fun hS => ?_)
  rotate_left
  · go_simp; try with_reducible rfl
  try go_frame
  refine held_pure (i := 22) (oi := ⟨some 32, _, _, _, _, _⟩) rfl (by kernel_rfl) (by kernel_rfl) (by kernel_rfl) (fun _ _ _ h => h) (by rfl) (v := ?_) (fun w hSw => ?_) hS (fun hS => ?_)
  rotate_left
  · go_simp; try with_reducible rfl
  try go_frame
  refine held_pure (i := 23) (oi := ⟨some 33, _, _, _, _, _⟩) rfl (by kernel_rfl) (by kernel_rfl) (by kernel_rfl) (fun _ _ _ h => h) (by rfl) (fun w hSw => run_cut_lh rfl rfl rfl rfl (l := 20) (h := (H : Int)) (by omega) (by omega) (by omega) (m := O.length) (by have := HOl.out; omega)) hS (fun hS => ?_)
  try go_frame
  refine held_pure (i := 25) (oi := ⟨some 35, _, _, _, _, _⟩) rfl (by kernel_rfl) (by kernel_rfl) (by kernel_rfl) (fun _ _ _ h => h) (by rfl) (v := ?_) (fun w hSw => ?_) hS (fun hS => ?_)
  rotate_left
  · go_simp; try with_reducible rfl
  try go_frame
  refine held_pure (i := 26) (oi := ⟨some 36, _, _, _, _, _⟩) rfl (by kernel_rfl) (by kernel_rfl) (by kernel_rfl) (fun _ _ _ h => h) (by rfl) (v := ?_) (fun w hSw => ?_) hS (fun hS => ?_)
  rotate_left
  · go_simp; try with_reducible rfl
  try go_frame
  refine held_pure (i := 27) (oi := ⟨some 37, _, _, _, _, _⟩) rfl (by kernel_rfl) (by kernel_rfl) (by kernel_rfl) (fun _ _ _ h => h) (by rfl) (v := ?_) (fun w hSw => ?_) hS (fun hS => ?_)
  rotate_left
  · go_simp; try with_reducible rfl
  try go_frame
  refine held_pure (i := 28) (oi := ⟨some 38, _, _, _, _, _⟩) rfl (by kernel_rfl) (by kernel_rfl) (by kernel_rfl) (fun _ _ _ h => h) (by rfl) (fun w hSw => run_cut_lh rfl rfl rfl rfl (l := (H : Int)) (h := (Z : Int)) (by omega) (by omega) (by omega) (m := D.length) (by have := HDl.out; omega)) hS (fun hS => ?_)
  try go_frame
  refine wpAnyH_ready (rs := [1]) (by kernel_rfl) (by simp) (AllReadyH.cons (o := ⟨some 11, _, _, _, _, _⟩) rfl (fun K hK => ?_) AllReadyH.nil)
  rw [if_pos (by rfl)]
  go_simp
  refine (get4_any A b c B 1 1 _ (hR.below (hS.b.mono hB)).rd (by omega) hR.cap).mono ?_
  rintro e w1 ⟨rfl, rfl⟩
  rw [show getV b 1 1 = byt b 1 from G1.out]
  show K _ _
  refine hK.out _ _ hS (fun hS => ?_)
  clear hK K
  try go_frame
  refine wpAnyH_ready (rs := [3]) (by kernel_rfl) (by simp) (AllReadyH.cons (o := ⟨some 13, _, _, _, _, _⟩) rfl (fun K hK => ?_) AllReadyH.nil)
  rw [if_pos (by rfl)]
  go_simp
  refine (get4_any A b c B 4 2 _ (hR.below (hS.b.mono hB)).rd (by omega) hR.cap).mono ?_
  rintro e w3 ⟨rfl, rfl⟩
  rw [show getV b 4 2 = n2 b 4 from G4.out]
  show K _ _
  refine hK.out _ _ hS (fun hS => ?_)
  clear hK K
  try go_frame
  refine wpAnyH_ready (rs := [8]) (by kernel_rfl) (by simp) (AllReadyH.cons (o := ⟨some 18, _, _, _, _, _⟩) rfl (fun K hK => ?_) AllReadyH.nil)
  rw [if_pos (by rfl)]
  go_simp
  refine (get4_any A b c B 8 1 _ (hR.below (hS.b.mono hB)).rd (by omega) hR.cap).mono ?_
  rintro e w8 ⟨rfl, rfl⟩
  rw [show getV b 8 1 = byt b 8 from G8.out]
  show K _ _
  refine hK.out _ _ hS (fun hS => ?_)
  clear hK K
  try go_frame
  refine wpAnyH_ready (rs := [10]) (by kernel_rfl) (by simp) (AllReadyH.cons (o := ⟨some 20, _, _, _, _, _⟩) rfl (fun K hK => ?_) AllReadyH.nil)
  rw [if_pos (by rfl)]
  go_simp
  refine (get4_any A b c B 9 1 _ (hR.below (hS.b.mono hB)).rd (by omega) hR.cap).mono ?_
  rintro e w10 ⟨rfl, rfl⟩
  rw [show getV b 9 1 = byt b 9 from G9.out]
  show K _ _
  refine hK.out _ _ hS (fun hS => ?_)
  clear hK K
  try go_frame
  refine wpAnyH_ready (rs := [12]) (by kernel_rfl) (by simp) (AllReadyH.cons (o := ⟨some 22, _, _, _, _, _⟩) rfl (fun K hK => ?_) AllReadyH.nil)
  rw [if_pos (by rfl)]
  go_simp
  refine (get4_any A b c B 12 4 _ (hR.below (hS.b.mono hB)).rd (by omega) hR.cap).mono ?_
  rintro e w12 ⟨rfl, rfl⟩
  rw [show getV b 12 4 = n4 b 12 from G12.out]
  show K _ _
  refine hK.out _ _ hS (fun hS => ?_)
  clear hK K
  try go_frame
  refine wpAnyH_ready (rs := [14]) (by kernel_rfl) (by simp) (AllReadyH.cons (o := ⟨some 24, _, _, _, _, _⟩) rfl (fun K hK => ?_) AllReadyH.nil)
  rw [if_pos (by rfl)]
  go_simp
  refine (get4_any A b c B 16 4 _ (hR.below (hS.b.mono hB)).rd (by omega) hR.cap).mono ?_
  rintro e w14 ⟨rfl, rfl⟩
  rw [show getV b 16 4 = n4 b 16 from G16.out]
  show K _ _
  refine hK.out _ _ hS (fun hS => ?_)
  clear hK K
  try go_frame
  refine wpAnyH_ready (rs := [24]) (by kernel_rfl) (by simp) (AllReadyH.cons (o := ⟨some 34, _, _, _, _, _⟩) rfl (fun K hK => ?_) AllReadyH.nil)
  rw [if_pos (by rfl)]
  refine append_wp _ _ rfl (w.heap.size + 1) (.slice none 0 0) 0 [] rfl (World.ownsRow_nil _ _ _ _) B (cutA A c 20) _ O rfl (hO.none_) ((hO.below (hS.b.mono hB)).rd) (by have := HOl.out; have := HDl.out; omega) hS.lt ?_
  intro v5 y5 own5 grow5
  obtain ⟨P5, p5, rfl, owm5⟩ := own_made (bs := O) own5 (Nat.zero_add _) (List.nil_append _)
  clear own5
  have x5 := (Below.refl _ _).grown grow5 (Nat.le_refl _) (fun k hk => by cases hk)
  clear grow5
  refine hK.out _ _ (hS.step x5) (fun hS => ?_)
  clear hK K
  try go_frame
  refine wpAnyH_ready (rs := [29]) (by kernel_rfl) (by simp) (AllReadyH.cons (o := ⟨some 39, _, _, _, _, _⟩) rfl (fun K hK => ?_) AllReadyH.nil)
  rw [if_pos (by rfl)]
  refine append_wp _ _ rfl (w.heap.size + 1) (.slice none 0 0) 0 [] rfl (World.ownsRow_nil _ _ _ _) B (cutA A c H) _ D rfl (hD.none_) ((hD.below (hS.b.mono hB)).rd) (by have := HOl.out; have := HDl.out; omega) hS.lt ?_
  intro v6 y6 own6 grow6
  obtain ⟨P6, p6, rfl, owm6⟩ := own_made (bs := D) own6 (Nat.zero_add _) (List.nil_append _)
  clear own6
  have x6 := (Below.refl _ _).grown grow6 (Nat.le_refl _) (fun k hk => by cases hk)
  clear grow6
  refine hK.out _ _ (hS.step x6) (fun hS => ?_)
  clear hK K
  try go_frame
  refine held_pure (i := 30) (oi := ⟨some 40, _, _, _, _, _⟩) rfl (by kernel_rfl) (by kernel_rfl) (by kernel_rfl) (fun _ _ _ h => h) (by rfl) (v := ?_) (fun w hSw => ?_) hS (fun hS => ?_)
  rotate_left
  · go_simp; try with_reducible rfl
  try go_frame
  refine wpAnyH_ready (rs := [31]) (by kernel_rfl) (by simp) (AllReadyH.cons (o := ⟨none, _, _, _, _, _⟩) rfl (fun K hK => ?_) AllReadyH.nil)
  rw [if_pos (by rfl)]
  obtain ⟨old, hold, hgo⟩ := hS.2
  have hrow := hS.row (v4a ⟨byt b 1, n2 b 4, X % 8192 * 8, byt b 8, byt b 9, n4 b 12, n4 b 16, decide (X / 16384 % 2 = 1), decide (X / 8192 % 2 = 1), O, D⟩ P5 p5 P6 p6) rfl
  refine wp_store_row 36 _ _ rfl w.heap.size (v4a ⟨byt b 1, n2 b 4, X % 8192 * 8, byt b 8, byt b 9, n4 b 12, n4 b 16, decide (X / 16384 % 2 = 1), decide (X / 8192 % 2 = 1), O, D⟩ P5 p5 P6 p6) rfl rfl 36 old hgo (by kernel_rfl) hold (by simp [v4a, Value.oneCell']) ?_
  have hgz := setRow_heap _ _ _ (v4a ⟨byt b 1, n2 b 4, X % 8192 * 8, byt b 8, byt b 9, n4 b 12, n4 b 16, decide (X / 16384 % 2 = 1), decide (X / 8192 % 2 = 1), O, D⟩ P5 p5 P6 p6) _ _ hgo
  refine hK.out _ _ hrow (fun hS => ?_)
  clear hK K
  try go_frame
  refine wpAnyH_done (by kernel_rfl) ?_ _
  go_wp2_with fail
  have oz5 := own_setRow (own_below owm5 x6) (g := w.heap.size) (cs := v4a ⟨byt b 1, n2 b 4, X % 8192 * 8, byt b 8, byt b 9, n4 b 12, n4 b 16, decide (X / 16384 % 2 = 1), decide (X / 8192 % 2 = 1), O, D⟩ P5 p5 P6 p6) (Nat.lt_succ_self _)
  have oz6 := own_setRow owm6 (g := w.heap.size) (cs := v4a ⟨byt b 1, n2 b 4, X % 8192 * 8, byt b 8, byt b 9, n4 b 12, n4 b 16, decide (X / 16384 % 2 = 1), decide (X / 8192 % 2 = 1), O, D⟩ P5 p5 P6 p6) (Nat.lt_succ_self _)
  exact bodyPost_ret (v4_result rfl rfl hgz rfl) rfl ⟨P5, p5, P6, p6, rfl, Made.of_own (own_base oz5 (Nat.le_succ _)) hS.b, Made.of_own (own_base oz6 (Nat.le_succ _)) hS.b⟩
end
end Go.Proofs.Ytjgcpaepaocigaa

/-
  Contract of v6.Build. Conditions are each theorem's own.
-/
namespace Go.Proofs.Ytjgcpaepaocigaa
open Go.RowKit

theorem chk6_zero {q : P6} (h : chk6 q = 0) : arg6 q ∧ (q.dat.length : Int) ≤ 65535 := by
  have ha : arg6 q := by
    rcases Decidable.em (arg6 q) with h' | h'
    · exact h'
    · rw [chk6, if_neg h'] at h; omega
  refine ⟨ha, ?_⟩
  rcases Int.lt_or_le 65535 (q.dat.length : Int) with h' | h'
  · rw [chk6, if_pos ha, if_pos h'] at h; omega
  · exact h'
section
variable (q : P6) (A : Option Addr) (c : Nat) (w : World)
end
end Go.Proofs.Ytjgcpaepaocigaa

/-
  Contract of v6.Quoted. Conditions are each theorem's own.
-/
namespace Go.Proofs.Ytjgcpaepaocigaa
open Go.RowKit

theorem Made.later {W w1 w2 : World} {v : Value} {bs : List UInt8} (h : Made W w1 v bs) (hb : Below w1.heap.size w1 w2) : Made W w2 v bs := by
  obtain ⟨A, c, rfl, hl, hr, ho, hB⟩ := h
  exact Made.of_own (own_below ho hb) (hB.trans (hb.mono hB.size))
theorem v6a_one (q : P6) (A : Option Addr) (c : Nat) : (v6a q A c).all (·.oneCell') = true := by
  refine Array.all_eq_true_iff_forall_mem.2 fun v hv => ?_
  have hv' : v ∈ v6l q A c := by simpa [v6a] using hv
  simp only [v6l, List.mem_append, List.mem_cons, List.not_mem_nil, or_false] at hv'
  rcases hv' with (((h | h | h | h) | h) | h) | h
  · subst h; rfl
  · subst h; rfl
  · subst h; rfl
  · subst h; rfl
  · exact row_one _ v h
  · exact row_one _ v h
  · subst h; rfl
theorem six_cells (q : P6) (A : Option Addr) (c : Nat) (ss dd : List UInt8) (hs : ss.length = 16) (hd : dd.length = 16) :
    splice (splice (v6l ⟨q.traffic, q.flow, q.next, q.hop, nul, nul, q.dat⟩ A c) 4 (row ss)) 20 (row dd) = v6l ⟨q.traffic, q.flow, q.next, q.hop, ss, dd, q.dat⟩ A c := by
  have e0 : (row nul).length = 16 := by rw [row_length]; rfl
  have es : (row ss).length = 16 := by rw [row_length, hs]
  have ed : (row dd).length = 16 := by rw [row_length, hd]
  simp only [v6l]
  rw [List.append_assoc, List.append_assoc, splice_mid4 _ _ _ 4 rfl, es, List.drop_append_of_le_length (by omega), List.drop_of_length_le (by omega), List.nil_append,
    splice_mid4 _ _ _ 20 (by simp [es]), ed, List.drop_append_of_le_length (by omega), List.drop_of_length_le (by omega), List.nil_append]
section
variable (b : List UInt8) (A : Option Addr) (c : Nat) (w : World)
end
end Go.Proofs.Ytjgcpaepaocigaa

/-
  Contract of v4.Parse. Conditions are each theorem's own.
-/
namespace Go.Proofs.Ytjgcpaepaocigaa
open Go.RowKit

theorem v4a_one (q : P4) (A : Option Addr) (c : Nat) (A' : Option Addr) (c' : Nat) : (v4a q A c A' c').all (·.oneCell') = true := by simp [v4a, Value.oneCell']
theorem v4_store {ops : Array Oper} {rest : List Oper} {x y : Operand} {ty : TypeId} {pos : String} {af : Array Edge} {a : Act} {w : World} {Q : Exit → Act → World → Prop}
    {g : Nat} {t : TypeId} {cs old : Array Value} (hx : a.eval x = .pointer (some ⟨g, 0, none⟩)) (hy : a.eval y = .agg cs) (hg : w.heap[g]? = some (.cells old t (0, 0))) (ho : old.size = 11) (hl : cs.size = 11) (h1 : cs.all (·.oneCell') = true)
    (h : wpList Try.prog ops Q rest (a.put none undef) (w.setRow g cs)) : wpList Try.prog ops Q (⟨none, .store 36 x y, ty, pos, af, none⟩ :: rest) a w :=
  wpList_plain rfl fun _ hK => wp_store_row 36 x y rfl g cs hx hy t old hg (by rw [hl]; kernel_rfl) (by rw [ho, hl]) h1 (hK _ _ h)
theorem v4_store_new {ops : Array Oper} {rest : List Oper} {x y : Operand} {ty : TypeId} {pos : String} {af : Array Edge} {a : Act} {w : World} {Q : Exit → Act → World → Prop}
    {t : TypeId} {cs old : Array Value} (hx : a.eval x = .pointer (some ⟨w.heap.size, 0, none⟩)) (hy : a.eval y = .agg cs) (ho : old.size = 11) (hl : cs.size = 11) (h1 : cs.all (·.oneCell') = true)
    (h : wpList Try.prog ops Q rest (a.put none undef) (w.alloc (.cells cs t))) : wpList Try.prog ops Q (⟨none, .store 36 x y, ty, pos, af, none⟩ :: rest) a (w.alloc (.cells old t)) :=
  v4_store hx hy (World.alloc_heap_new w _) ho hl h1 (by rw [World.setRow_alloc_new]; exact h)
theorem bad4_lay (b : List UInt8) (quoted : Bool) : bad4 b quoted = if lay4 b quoted = 0 then (if quoted = false ∧ rightB [b.take (hlen b).toNat] = false then 5 else 0) else lay4 b quoted := by
  unfold bad4 lay4
  by_cases h1 : b.length < 20
  · rw [if_pos h1, if_pos h1, if_neg (by decide)]
  · rw [if_neg h1, if_neg h1]
    by_cases h2 : byt b 0 / 16 ≠ 4 ∨ hlen b < 20
    · rw [if_pos h2, if_pos h2, if_neg (by decide)]
    · rw [if_neg h2, if_neg h2]
      by_cases h3 : hlen b > (b.length : Int) ∨ (quoted = false ∧ n2 b 2 > (b.length : Int))
      · rw [if_pos h3, if_pos h3, if_neg (by decide)]
      · rw [if_neg h3, if_neg h3]
        by_cases h4 : n2 b 2 < hlen b ∨ n2 b 6 ≥ 32768
        · rw [if_pos h4, if_pos h4, if_neg (by decide)]
        · rw [if_neg h4, if_neg h4, if_pos rfl]
theorem lay4_zero {b : List UInt8} {quoted : Bool} (h : lay4 b quoted = 0) : 20 ≤ hlen b ∧ hlen b ≤ (b.length : Int) ∧ hlen b ≤ n2 b 2 ∧ (quoted = false → n2 b 2 ≤ (b.length : Int)) := by
  unfold lay4 at h
  by_cases h1 : b.length < 20
  · rw [if_pos h1] at h; omega
  · rw [if_neg h1] at h
    by_cases h2 : byt b 0 / 16 ≠ 4 ∨ hlen b < 20
    · rw [if_pos h2] at h; omega
    · rw [if_neg h2] at h
      by_cases h3 : hlen b > (b.length : Int) ∨ (quoted = false ∧ n2 b 2 > (b.length : Int))
      · rw [if_pos h3] at h; omega
      · rw [if_neg h3] at h
        by_cases h4 : n2 b 2 < hlen b ∨ n2 b 6 ≥ 32768
        · rw [if_pos h4] at h; omega
        · refine ⟨by omega, by omega, by omega, fun e => ?_⟩
          rcases Int.lt_or_le (b.length : Int) (n2 b 2) with h5 | h5
          · exact absurd (.inr ⟨e, h5⟩) h3
          · exact h5
theorem layV_no {n s k : Int} (h : k ≠ 0) : layV n s k = .tuple #[.int .i64 0, .int .i64 0, .int .i64 k] := by rw [layV, if_neg h, if_neg h]
section
variable (b : List UInt8) (A : Option Addr) (c : Nat) (w : World)
end
end Go.Proofs.Ytjgcpaepaocigaa

/-
  Contracts of layer 5's helpers of the statements: far, awake. Conditions are each theorem's own.
-/
namespace Go.Proofs.Ytjgcpaepaocigaa
open Go.RowKit

/-- An operation that is wanted and yields a value, in a list that goes in the order of the text. -/
theorem wpList_valw {P : Program} {ops : Array Oper} {rest : List Oper} {o : Oper} {a : Act} {w : World} {Q : Exit → Act → World → Prop} {v : Value} (hg : Region.wanted o (yielded ops a.tmps) = true) (hrun : (execOp a.eval o).run P w = .ok (.value v) w)
    (h : wpList P ops Q rest (a.put o.dst v) w) : wpList P ops Q (o :: rest) a w :=
  wpList_step fun K hK => by rw [if_pos hg]; unfold Oper.wp; rw [hrun]; exact hK _ _ h
def qa4 : P4 := ⟨0, 0, 0, 9, 17, 167772161, 3221225985, false, false, [], [7]⟩
theorem build4_awake (g : Nat) (w : World) (hg : w.heap[g]? = some (.cells #[.int .u8 7] 5 (0, 0))) :
    Calls Try.prog 19 #[v4v qa4 none 0 (some ⟨g, 0, none⟩) 1] w fun e w' => ∃ b o c, e = .returned (.tuple #[.slice (some ⟨b, o, none⟩) 21 c, .int .i64 0]) ∧ Arg w' w'.heap.size (some ⟨b, o, none⟩) c (bld4 qa4) ∧ w'.cell? ⟨b, o, none⟩ = some (.int .u8 69) ∧ Below w.heap.size w w' := by
  have hc : chk4 qa4 = 0 := by decide
  have hlen : (bld4 qa4).length = 21 := by decide
  have h0 : byt (bld4 qa4) 0 = 69 := by decide
  refine (c4build qa4 none 0 (some ⟨g, 0, none⟩) 1 w w.heap.size (Arg.nil _ _) ⟨Rd.of_block hg (heap_lt hg) 0 (fun j hj => by
    have : j = 0 := by simpa [qa4] using hj
    subst this; rfl), by decide, fun e => by cases e⟩ (Nat.le_refl _) (by decide) (by decide)).mono ?_
  rintro e w' ⟨v, rfl, _, hm⟩
  obtain ⟨A, c, rfl, ha, ho, hb⟩ := made_shape (hm hc)
  obtain ⟨b, o, rfl, hbB, hcell⟩ := ha.rd (by rw [hlen]; omega)
  refine ⟨b, o, c, by rw [hc, hlen], ha, ?_, hb⟩
  rw [← h0]; exact hcell 0 (by rw [hlen]; omega)
def res4 (q : P4) : List UInt8 := if chk4 q = 0 then bld4 q else []
theorem res4_shape {q : P4} {w w' : World} {v : Value} (h : (chk4 q ≠ 0 → v = .slice none 0 0 ∧ Below w.heap.size w w') ∧ (chk4 q = 0 → Made w w' v (bld4 q))) :
    ∃ P k, v = .slice P (res4 q).length k ∧ Rd w' w'.heap.size P (res4 q) ∧ Below w.heap.size w w' := by
  by_cases hc : chk4 q = 0
  · obtain ⟨A, c, rfl, hl, hr, ho, hb⟩ := h.2 hc
    exact ⟨A, c, by rw [res4, if_pos hc], by rw [res4, if_pos hc]; exact hr, hb⟩
  · obtain ⟨rfl, hb⟩ := h.1 hc
    exact ⟨none, 0, by rw [res4, if_neg hc]; rfl, by rw [res4, if_neg hc]; exact Rd.nil, hb⟩
end Go.Proofs.Ytjgcpaepaocigaa

/-
  What layer 5's statement V4Back stands on besides: Right of the document's plain answers, of one. Conditions are each theorem's own.
-/
namespace Go.Proofs.Ytjgcpaepaocigaa
open Go.RowKit

theorem rright_one (A : Option Addr) (bs : List UInt8) (c B : Nat) (w : World) (h : Rd2 w B A [bs]) (hl : bs.length ≤ 1099511627000) :
    Calls Try.prog 94 #[.slice A 1 c] w fun e w' => e = .returned (.bool (rightB [bs])) ∧ ∃ n, w' = w.drewN n :=
  rright_any A [bs] c B w h (by simpa [bulk] using hl) (by simp)
theorem back_head {q : P4} {H : Nat} (hH : H = 20 + q.opt.length) : (bld4 q).take H = hd4 q (size4 q) (sum4 q) := by
  have := back_take (q := q) (more := []) H hH
  rwa [List.append_nil] at this
end Go.Proofs.Ytjgcpaepaocigaa

/-
  Contract of v6.Parse. Conditions are each theorem's own.
-/
namespace Go.Proofs.Ytjgcpaepaocigaa
open Go.RowKit

theorem end6_len (b : List UInt8) (h : ¬ b.length < 40) : ((b.take (end6 b)).drop 40).length = end6 b - 40 := by
  have : end6 b ≤ b.length := by unfold end6; omega
  simp; omega
theorem prs6_len (b : List UInt8) (u : Bool) : (prs6 b u).src.length = 16 ∧ (prs6 b u).dst.length = 16 := by
  unfold prs6
  by_cases h : bad6 b u = 0
  · rw [if_pos h]
    have h40 : ¬ b.length < 40 := fun h' => by rw [bad6, if_pos h'] at h; omega
    simp only [raw6, List.length_take, List.length_drop]
    omega
  · rw [if_neg h]; exact ⟨rfl, rfl⟩
section
variable (b : List UInt8) (A : Option Addr) (c : Nat) (w : World)
end
end Go.Proofs.Ytjgcpaepaocigaa

/-
  Single cells stored into a block of the call's own, as operations; a packet of IPv6 that is filled cell by cell. Conditions are each theorem's own.
-/
namespace Go.Proofs.Ytjgcpaepaocigaa
open Go.RowKit

section
variable {o : Oper} {a : Act} {w : World} {K : Act → World → Prop} {Q : Exit → Act → World → Prop} {x y : Operand} {p : Addr} {v0 : Value}
theorem store_int_wp {n : Int} (ho : o.op = .store 3 x y) (hx : a.eval x = .pointer (some p)) (hy : a.eval y = .int .i64 n) (hc : w.cell? p = some v0) (hf : w.frozen? p = false) (h : K (a.put o.dst undef) (w.setCell p (.int .i64 n))) : o.wp Try.prog a w K Q := by
  unfold Oper.wp execOp
  simp only [ho, hx, hy]
  go_simp
  exact h
theorem store_u8_wp {n : Int} (ho : o.op = .store 5 x y) (hx : a.eval x = .pointer (some p)) (hy : a.eval y = .int .u8 n) (hc : w.cell? p = some v0) (hf : w.frozen? p = false) (h : K (a.put o.dst undef) (w.setCell p (.int .u8 n))) : o.wp Try.prog a w K Q := by
  unfold Oper.wp execOp
  simp only [ho, hx, hy]
  go_simp
  exact h
end
theorem OwnR.row_other {w0 w : World} {t n g : Nat} {cs : Array Value} (h : OwnR w0 t n w) (hg : w0.heap.size < g) : OwnR w0 t n (w.setRow g cs) := by
  obtain ⟨hB, c0, hn, h0⟩ := h
  exact ⟨below_row hB (by omega), c0, hn, (setRow_other w g _ cs (by omega)).trans h0⟩
theorem OwnR.set {w0 w : World} {t n g i : Nat} {v : Value} (h : OwnR w0 t n w) (hg : w0.heap.size < g) : OwnR w0 t n (w.setCell ⟨g, i, none⟩ v) := by
  obtain ⟨hB, c0, hn, h0⟩ := h
  exact ⟨hB.setCell (p := ⟨g, i, none⟩) (by show _ ≤ g; omega) v, c0, hn, (heap_setCell_other w ⟨g, i, none⟩ _ v (by show _ ≠ g; omega)).trans h0⟩
section
variable {w w' : World} {g i : Nat} {q q' : P6} {A A' : Option Addr} {c c' : Nat} {v : Value}
end
/-- The first k bytes, and noughts up to 16. -/
def fil (l : List UInt8) (k : Nat) : List UInt8 := l.take k ++ List.replicate (16 - k) 0
theorem fil_len (l : List UInt8) {k : Nat} (hk : k ≤ 16) (hl : 16 ≤ l.length) : (fil l k).length = 16 := by simp [fil]; omega
theorem fil_zero (l : List UInt8) : fil l 0 = nul := rfl
theorem fil_all (l : List UInt8) : fil l 16 = l.take 16 := by simp [fil]
theorem fil_set (l : List UInt8) {k : Nat} (hk : k < 16) (hl : 16 ≤ l.length) : (fil l k).set k l[k] = fil l (k + 1) := by
  unfold fil
  have e : (l.take k).length = k := by simp; omega
  rw [List.set_append_right _ _ (by omega), e, Nat.sub_self, show 16 - k = (16 - (k + 1)) + 1 from by omega, List.replicate_succ, List.set_cons_zero, List.take_succ_eq_append_getElem (by omega), List.append_assoc]
  rfl
theorem row_setb (l : List UInt8) (k : Nat) (x : UInt8) : (row l).set k (.int .u8 (x.toNat : Int)) = row (l.set k x) := by simp [row, List.map_set]
theorem set_src (q : P6) (A : Option Addr) (c k : Nat) (x : UInt8) (hk : k < 16) (hs : q.src.length = 16) : (v6a q A c).setIfInBounds (4 + k) (.int .u8 (x.toNat : Int)) = v6a ⟨q.traffic, q.flow, q.next, q.hop, q.src.set k x, q.dst, q.dat⟩ A c := by
  have h4 : ([Value.int .i64 q.traffic, .int .i64 q.flow, .int .i64 q.next, .int .i64 q.hop]).length = 4 := rfl
  rw [v6a, v6a, List.setIfInBounds_toArray, v6l, v6l]
  congr 1
  simp only [List.append_assoc]
  rw [List.set_append_right _ _ (by rw [h4]; omega), h4, show 4 + k - 4 = k from by omega, List.set_append_left _ _ (by rw [row_length]; omega), row_setb]
theorem set_dst (q : P6) (A : Option Addr) (c k : Nat) (x : UInt8) (hk : k < 16) (hs : q.src.length = 16) (hd : q.dst.length = 16) : (v6a q A c).setIfInBounds (20 + k) (.int .u8 (x.toNat : Int)) = v6a ⟨q.traffic, q.flow, q.next, q.hop, q.src, q.dst.set k x, q.dat⟩ A c := by
  have h4 : ([Value.int .i64 q.traffic, .int .i64 q.flow, .int .i64 q.next, .int .i64 q.hop] ++ row q.src).length = 20 := by simp [row_length, hs]
  rw [v6a, v6a, List.setIfInBounds_toArray, v6l, v6l]
  congr 1
  rw [List.append_assoc, List.append_assoc (_ ++ row q.src), List.set_append_right _ _ (by rw [h4]; omega), h4, show 20 + k - 20 = k from by omega, List.set_append_left _ _ (by rw [row_length]; omega), row_setb]
theorem set_dat (q : P6) (A P : Option Addr) (c p : Nat) (D : List UInt8) (hs : q.src.length = 16) (hd : q.dst.length = 16) : (v6a q A c).setIfInBounds 36 (.slice P D.length p) = v6a ⟨q.traffic, q.flow, q.next, q.hop, q.src, q.dst, D⟩ P p := by
  have h4 : ([Value.int .i64 q.traffic, .int .i64 q.flow, .int .i64 q.next, .int .i64 q.hop] ++ row q.src ++ row q.dst).length = 36 := by simp [row_length, hs, hd]
  rw [v6a, v6a, List.setIfInBounds_toArray, v6l, v6l]
  congr 1
  rw [List.set_append_right _ _ (by rw [h4]; omega), h4]; rfl
end Go.Proofs.Ytjgcpaepaocigaa

/-
  The struct api.UDP as data: its cells, its value, a block that holds one. Conditions are each theorem's own.
-/
namespace Go.Proofs.Ytjgcpaepaocigaa
open Go.RowKit Go.ChangeShapes Go.WideShapes

structure PU where
  src : Int
  dst : Int
  nosum : Bool
  dat : List UInt8
def usz : PU := ⟨0, 0, false, []⟩
/-- Its cells. -/
def usa (q : PU) (A : Option Addr) (c : Nat) : Array Value := #[.int .i64 q.src, .int .i64 q.dst, .bool q.nosum, .slice A q.dat.length c]
def usv (q : PU) (A : Option Addr) (c : Nat) : Value := .agg #[.int .i64 q.src, .int .i64 q.dst, .bool q.nosum, .slice A q.dat.length c]
theorem usv_eq (q : PU) (A : Option Addr) (c : Nat) : usv q A c = .agg (usa q A c) := rfl
def PU.fits (q : PU) : Prop := ∀ n ∈ [q.src, q.dst], (Lit.int .i64 n).wf = true
theorem usa_size (q : PU) (A : Option Addr) (c : Nat) : (usa q A c).size = 4 := rfl
theorem us_one (q : PU) (A : Option Addr) (c : Nat) : (usa q A c).all (·.oneCell') = true := by simp [usa, Value.oneCell']
section
variable {H : Type} {enc : TypeId × Value → H} {w : World} {base : Nat} {v : Value} {d : DataW H} {p : List MemPlace}
set_option maxRecDepth 100000 in
theorem get_us (hv : Value.okWide Try.prog w .any base 94 v) (h : DataW.Trod enc Try.prog w 0 (fun _ => true) true 94 v d p) :
    ∃ q A c, v = usv q A c ∧ Arg w w.heap.size A c q.dat ∧ c ≤ maxLen ∧ q.fits := by
  obtain ⟨cs, rfl, hcs⟩ : ∃ cs, v = .agg cs ∧ cs.size = Try.prog.cellsOf 94 := by
    have := hv
    simp only [Value.okWide, Try.underlying94] at this
    obtain ⟨cs, h1, h2, _⟩ := this
    exact ⟨cs, h1, h2⟩
  obtain ⟨fuel, hf⟩ := h
  obtain ⟨xs, n, _, _, hl, hxs, hall⟩ := DataW.trod_struct Try.underlying94 hf
  have hci : Try.prog.cellsOf 3 = 1 := by kernel_rfl
  have hcb : Try.prog.cellsOf 4 = 1 := by kernel_rfl
  have hcy : Try.prog.cellsOf 34 = 1 := by kernel_rfl
  have hcu : Try.prog.cellsOf 5 = 1 := by kernel_rfl
  have hcn : Try.prog.cellsOf 94 = 4 := by kernel_rfl
  obtain ⟨l⟩ := cs
  have hl' : l.length = 4 := by rw [← hcn]; exact hl
  have hall' : ∀ (i : Nat) (f : Field), _ → DataW.trod enc Try.prog w 0 (fun _ => true) true n f.type ((l.drop f.offset).take (Try.prog.cellsOf f.type)) = xs[i]? := hall
  match xs, hxs with
  | [y0, y1, y2, y3], _ =>
    have h0 : DataW.trod enc Try.prog w 0 (fun _ => true) true n 3 ((l.drop 0).take (Try.prog.cellsOf 3)) = some y0 := hall' 0 _ rfl
    rw [hci] at h0
    obtain ⟨a0, e0, f0⟩ := cell_int Try.underlying3 h0
    have h1 : DataW.trod enc Try.prog w 0 (fun _ => true) true n 3 ((l.drop 1).take (Try.prog.cellsOf 3)) = some y1 := hall' 1 _ rfl
    rw [hci] at h1
    obtain ⟨a1, e1, f1⟩ := cell_int Try.underlying3 h1
    have h2 : DataW.trod enc Try.prog w 0 (fun _ => true) true n 4 ((l.drop 2).take (Try.prog.cellsOf 4)) = some y2 := hall' 2 _ rfl
    rw [hcb] at h2
    obtain ⟨a2, e2⟩ := cell_bool Try.underlying4 h2
    have h3 : DataW.trod enc Try.prog w 0 (fun _ => true) true n 34 ((l.drop 3).take (Try.prog.cellsOf 34)) = some y3 := hall' 3 _ rfl
    rw [hcy] at h3
    obtain ⟨A3, c3, a3, e3, f3, g3⟩ := cell_bytes Try.underlying34 Try.underlying5 hcu h3
    have k0 := piece_get e0
    have k1 := piece_get e1
    have k2 := piece_get e2
    have k3 := piece_get e3
    have el : l = [.int .i64 a0, .int .i64 a1, .bool a2, .slice A3 a3.length c3] := by
      match l, hl' with
      | [x0, x1, x2, x3], _ => simp at k0 k1 k2 k3; simp [k0, k1, k2, k3]
    refine ⟨⟨a0, a1, a2, a3⟩, A3, c3, by rw [el]; rfl, f3, g3, ?_⟩
    intro m hm
    simp only [List.mem_cons, List.not_mem_nil, or_false] at hm
    rcases hm with rfl | rfl <;> assumption
end
/-- It lies in a block of its own. -/
def Atus (W : World) (g : Nat) (q : PU) (A : Option Addr) (c : Nat) : Prop := W.rangeAt g 0 (usa q A c).toList
section
variable {W : World} {g : Nat} {q : PU} {A : Option Addr} {c : Nat}
theorem Atus.new (w : World) : Atus (w.alloc (.cells (usa q A c) 94)) w.heap.size q A c := fun j v hj => by
  rw [Nat.zero_add, World.cell?_alloc_new, ← hj, Array.getElem?_toList]
theorem Atus.of_heap {t : TypeId} {fr : Nat × Nat} (h : W.heap[g]? = some (.cells (usa q A c) t fr)) : Atus W g q A c := fun j v hj => by
  rw [cell_of_row W g (0 + j) _ _ _ h, Nat.zero_add, ← Array.getElem?_toList]; exact hj
theorem Atus.below {w : World} {B : Nat} (h : Atus W g q A c) (hb : Below B W w) (hg : g < B) : Atus w g q A c := range_below h hg hb
theorem Atus.src (h : Atus W g q A c) : W.cell? ⟨g, 0, none⟩ = some (.int .i64 q.src) := h 0 _ rfl
theorem Atus.dst (h : Atus W g q A c) : W.cell? ⟨g, 1, none⟩ = some (.int .i64 q.dst) := h 1 _ rfl
theorem Atus.nosum (h : Atus W g q A c) : W.cell? ⟨g, 2, none⟩ = some (.bool q.nosum) := h 2 _ rfl
theorem Atus.dat (h : Atus W g q A c) : W.cell? ⟨g, 3, none⟩ = some (.slice A q.dat.length c) := h 3 _ rfl
end
theorem run_load_us {o : Oper} {a : Act} {w : World} {x : Operand} {g : Nat} {cs : List Value} (ho : o.op = .load 94 x) (hx : a.eval x = .pointer (some ⟨g, 0, none⟩)) (hr : w.rangeAt g 0 cs) (hl : cs.length = 4) :
    (execOp a.eval o).run Try.prog w = .ok (.value (.agg cs.toArray)) w := by
  have h := run_loadVar_mid (P := Try.prog) w g 0 94 cs _ hr Try.underlying94 rfl (by rw [hl]; kernel_rfl)
  unfold execOp
  simp only [ho, hx, Instr.loadAt, Instr.sureAddr, Sem.run_bind, Sem.run_pure, Result.andThen_ok, h]
theorem us_store {ops : Array Oper} {rest : List Oper} {x y : Operand} {ty : TypeId} {pos : String} {af : Array Edge} {a : Act} {w : World} {Q : Exit → Act → World → Prop}
    {g : Nat} {t : TypeId} {cs old : Array Value} (hx : a.eval x = .pointer (some ⟨g, 0, none⟩)) (hy : a.eval y = .agg cs) (hg : w.heap[g]? = some (.cells old t (0, 0))) (ho : old.size = 4) (hl : cs.size = 4) (h1 : cs.all (·.oneCell') = true)
    (h : wpList Try.prog ops Q rest (a.put none undef) (w.setRow g cs)) : wpList Try.prog ops Q (⟨none, .store 94 x y, ty, pos, af, none⟩ :: rest) a w :=
  wpList_plain rfl fun _ hK => wp_store_row 94 x y rfl g cs hx hy t old hg (by rw [hl]; kernel_rfl) (by rw [ho, hl]) h1 (hK _ _ h)
theorem us_store_new {ops : Array Oper} {rest : List Oper} {x y : Operand} {ty : TypeId} {pos : String} {af : Array Edge} {a : Act} {w : World} {Q : Exit → Act → World → Prop}
    {t : TypeId} {cs old : Array Value} (hx : a.eval x = .pointer (some ⟨w.heap.size, 0, none⟩)) (hy : a.eval y = .agg cs) (ho : old.size = 4) (hl : cs.size = 4) (h1 : cs.all (·.oneCell') = true)
    (h : wpList Try.prog ops Q rest (a.put none undef) (w.alloc (.cells cs t))) : wpList Try.prog ops Q (⟨none, .store 94 x y, ty, pos, af, none⟩ :: rest) a (w.alloc (.cells old t)) :=
  us_store hx hy (World.alloc_heap_new w _) ho hl h1 (by rw [World.setRow_alloc_new]; exact h)
theorem us_result {fn : Func} {p : Tmp} {tmps : Array Value} {w : World} {g : Nat} {t : TypeId} {cs : Array Value} {fr : Nat × Nat} (h : fn.results = #[.cell p 94])
    (hp : tmps.getD p undef = .pointer (some ⟨g, 0, none⟩)) (hg : w.heap[g]? = some (.cells cs t fr)) (hl : cs.size = 4) : (results fn tmps).run Try.prog w = .ok (.agg cs) w :=
  results_cell_row h tmps w g t cs fr _ hp hg Try.underlying94 rfl (by rw [hl]; kernel_rfl)
theorem us_load_run {w : World} {g : Nat} {t : TypeId} {cs : Array Value} {fr : Nat × Nat} (hg : w.heap[g]? = some (.cells cs t fr)) (hl : cs.size = 4) : (loadVar 94 ⟨g, 0, none⟩).run Try.prog w = .ok (.agg cs) w :=
  run_loadVar_row w g t 94 cs fr _ hg Try.underlying94 rfl (by rw [hl]; kernel_rfl)
end Go.Proofs.Ytjgcpaepaocigaa

/-
  Datagrams of UDP in plain lists of bytes: what may be, its bytes, what bytes are. No program. Conditions are each theorem's own.
-/
namespace Go.Proofs.Ytjgcpaepaocigaa
open Go.RowKit

/-- What is told of a number in so many bytes. -/
def msk (ps : List (Int × Int)) : List (Int × Int) := ps.map fun x => (x.1 % pw x.2.toNat, x.2)
theorem msk_len (ps : List (Int × Int)) : (msk ps).length = ps.length := by simp [msk]
theorem msk_get {ps : List (Int × Int)} {k : Nat} {x : Int × Int} (h : ps[k]? = some x) : (msk ps)[k]? = some (x.1 % pw x.2.toNat, x.2) := by simp [msk, h]
theorem be2_mod (n : Int) : be2 (n % 65536) = be2 n := by
  have e : ∀ a b : Int, a % 256 = b % 256 → u8 a = u8 b := fun a b h => by apply UInt8.toNat_inj.1; have h1 := u8_val a; have h2 := u8_val b; omega
  unfold be2
  rw [e (n % 65536 / 256) (n / 256) (by omega), e (n % 65536) n (by omega)]
theorem be4_mod (n : Int) : be4 (n % 4294967296) = be4 n := by
  have e : ∀ a b : Int, a % 256 = b % 256 → u8 a = u8 b := fun a b h => by apply UInt8.toNat_inj.1; have h1 := u8_val a; have h2 := u8_val b; omega
  unfold be4
  rw [e (n % 4294967296 / 16777216) (n / 16777216) (by omega), e (n % 4294967296 / 65536) (n / 65536) (by omega), e (n % 4294967296 / 256) (n / 256) (by omega), e (n % 4294967296) n (by omega)]
theorem u8_mod (n : Int) : u8 (n % 256) = u8 n := by apply UInt8.toNat_inj.1; have h1 := u8_val (n % 256); have h2 := u8_val n; omega
theorem pw1 : pw (1 : Int).toNat = 256 := rfl
theorem pw2 : pw (2 : Int).toNat = 65536 := rfl
theorem pw4 : pw (4 : Int).toNat = 4294967296 := rfl
theorem putm_one (bs : List UInt8) (n : Int) : putB bs (n % 256) 1 = bs ++ [u8 n] := by rw [put_one (by omega) (by omega), u8_mod]
theorem putm_two (bs : List UInt8) (n : Int) : putB bs (n % 65536) 2 = bs ++ be2 n := by rw [put_two (by omega) (by omega), be2_mod]
theorem putm_four (bs : List UInt8) (n : Int) : putB bs (n % 4294967296) 4 = bs ++ be4 n := by rw [put_four (by omega) (by omega), be4_mod]
/-- What a sum is of, too. -/
def psd (src dst proto size : Int) : List UInt8 := be4 src ++ be4 dst ++ [u8 0] ++ [u8 proto] ++ be2 size
theorem psd_len (src dst proto size : Int) : (psd src dst proto size).length = 12 := by simp [psd, be4, be2]
theorem putL_psd (src dst proto size : Int) : putL (msk [(src, 4), (dst, 4), (0, 1), (proto, 1), (size, 2)]) = psd src dst proto size := by
  simp only [msk, List.map, putL, List.foldl_cons, List.foldl_nil, pw1, pw2, pw4]
  rw [putm_four, putm_four, putm_one, putm_one, putm_two]; rfl
/-- A head. -/
def hdU (q : PU) (s : Int) : List UInt8 := be2 q.src ++ be2 q.dst ++ be2 (8 + (q.dat.length : Int)) ++ be2 s
theorem hdU_len (q : PU) (s : Int) : (hdU q s).length = 8 := by simp [hdU, be2]
theorem putL_hdU (q : PU) (s : Int) : putL (msk [(q.src, 2), (q.dst, 2), (8 + (q.dat.length : Int), 2), (s, 2)]) = hdU q s := by
  simp only [msk, List.map, putL, List.foldl_cons, List.foldl_nil, pw2]
  rw [putm_two, putm_two, putm_two, putm_two]; rfl
/-- The sum, and what stands in its place. -/
def smU (src dst : Int) (q : PU) : Int := 65535 - fold (psum [psd src dst 17 (8 + (q.dat.length : Int)), hdU q 0, q.dat])
theorem smU_bd (src dst : Int) (q : PU) : 0 ≤ smU src dst q ∧ smU src dst q ≤ 65535 := by
  have := fold_bd (psum [psd src dst 17 (8 + (q.dat.length : Int)), hdU q 0, q.dat]); unfold smU; omega
def ckU (src dst : Int) (q : PU) : Int := if q.nosum then 0 else if smU src dst q = 0 then 65535 else smU src dst q
theorem ckU_bd (src dst : Int) (q : PU) : 0 ≤ ckU src dst q ∧ ckU src dst q ≤ 65535 := by
  have := smU_bd src dst q; unfold ckU; split
  · omega
  · split <;> omega
def bldU (src dst : Int) (q : PU) : List UInt8 := hdU q (ckU src dst q) ++ q.dat
theorem bldU_len (src dst : Int) (q : PU) : (bldU src dst q).length = 8 + q.dat.length := by rw [bldU, List.length_append, hdU_len]
def argU (q : PU) : Prop := 0 ≤ q.src ∧ q.src ≤ 65535 ∧ 0 ≤ q.dst ∧ q.dst ≤ 65535
instance (q : PU) : Decidable (argU q) := by unfold argU; infer_instance
def chkU (q : PU) : Int := if argU q then (if q.dat.length > 65527 then 6 else 0) else 1
theorem chkU_ok {q : PU} (h : chkU q = 0) : argU q ∧ q.dat.length ≤ 65527 := by
  unfold chkU at h
  split at h
  · rename_i ha
    split at h
    · cases h
    · exact ⟨ha, by omega⟩
  · cases h
/-- What is wrong with bytes; nothing: 0. -/
def badU (src dst : Int) (b : List UInt8) : Int :=
  if b.length < 8 then 3
  else if n2 b 4 > (b.length : Int) then 3
  else if n2 b 4 < (b.length : Int) then 4
  else if n2 b 6 ≠ 0 ∧ rightB [psd src dst 17 (n2 b 4), b] = false then 5
  else 0
def rawU (b : List UInt8) : PU := ⟨n2 b 0, n2 b 2, decide (n2 b 6 = 0), b.drop 8⟩
def prsU (src dst : Int) (b : List UInt8) : PU := if badU src dst b = 0 then rawU b else usz
/-- Are two the same? -/
def sameU (q r : PU) : Bool := (q.src == r.src && q.dst == r.dst) && (q.nosum == r.nosum) && decide (q.dat = r.dat)
theorem sameU_iff {q r : PU} : sameU q r = true ↔ q = r := by
  obtain ⟨a0, a1, a2, a3⟩ := q
  obtain ⟨b0, b1, b2, b3⟩ := r
  simp only [sameU, Bool.and_eq_true, beq_iff_eq, decide_eq_true_eq, PU.mk.injEq]
  constructor
  · rintro ⟨⟨⟨h0, h1⟩, h2⟩, h3⟩; exact ⟨h0, h1, h2, h3⟩
  · rintro ⟨h0, h1, h2, h3⟩; exact ⟨⟨⟨h0, h1⟩, h2⟩, h3⟩
/-- Bytes after bytes of even length. -/
theorem psum_glue (a b c : List UInt8) {m : Nat} (h : b.length = 2 * m) : psum [a, b, c] = psum [a, b ++ c] := by
  simp only [psum_cons]
  rw [wall_append h]; omega
theorem psum_glue2 (a b : List UInt8) {m : Nat} (h : a.length = 2 * m) : psum [a, b] = psum [a ++ b] := by
  simp only [psum_cons]
  rw [wall_append h]; omega
theorem smU_two (src dst : Int) (q : PU) : 65535 - fold (psum [psd src dst 17 (8 + (q.dat.length : Int)), hdU q 0 ++ q.dat]) = smU src dst q := by
  rw [smU, psum_glue _ _ _ (m := 4) (hdU_len q 0)]
/-- What is built is right. -/
theorem hdU_wall (q : PU) {s : Int} (h0 : 0 ≤ s) (h1 : s ≤ 65535) : wall (hdU q s) = wall (hdU q 0) + s := by
  have z : ∀ n : Int, 0 ≤ n → n ≤ 65535 → wall (hdU q n) = wall (be2 q.src ++ be2 q.dst ++ be2 (8 + (q.dat.length : Int))) + n := fun n a b => by
    rw [hdU, wall_append (m := 3) (by simp [be2]), be2_wall a b]
  rw [z s h0 h1, z 0 (by omega) (by omega)]; omega
theorem psum_nn (ps : List (List UInt8)) : 0 ≤ psum ps := (psum_bd ps).1
theorem right_of {S s : Int} (h : 0 ≤ S) (hs : s = 65535 - fold S) : fold (S + s) = 65535 := by subst hs; exact fold_right h
theorem right_full {S : Int} (hs : 65535 - fold S = 0) : fold (S + 65535) = 65535 := by
  unfold fold at *; split at hs
  · omega
  · split <;> omega
theorem bldU_right (src dst : Int) (q : PU) (hn : q.nosum = false) : rightB [psd src dst 17 (8 + (q.dat.length : Int)), bldU src dst q] = true := by
  have e : psum [psd src dst 17 (8 + (q.dat.length : Int)), bldU src dst q] = psum [psd src dst 17 (8 + (q.dat.length : Int)), hdU q 0, q.dat] + ckU src dst q := by
    rw [bldU, ← psum_glue _ _ _ (m := 4) (hdU_len q _)]
    simp only [psum_cons]
    rw [hdU_wall q (ckU_bd src dst q).1 (ckU_bd src dst q).2]; omega
  rw [rightB, e]
  have hp := psum_nn [psd src dst 17 (8 + (q.dat.length : Int)), hdU q 0, q.dat]
  have hs : smU src dst q = 65535 - fold (psum [psd src dst 17 (8 + (q.dat.length : Int)), hdU q 0, q.dat]) := rfl
  unfold ckU
  rw [hn]
  simp only [Bool.false_eq_true, if_false]
  by_cases h : smU src dst q = 0
  · rw [if_pos h, right_full (by omega)]; rfl
  · rw [if_neg h, right_of hp hs]; rfl
theorem n2_be2 {a b : List UInt8} {n : Int} (h0 : 0 ≤ n) (h1 : n ≤ 65535) {k : Nat} (hk : a.length = k) : n2 (a ++ (be2 n ++ b)) k = n := by
  have e0 : byt (a ++ (be2 n ++ b)) (a.length + 0) = byt (be2 n ++ b) 0 := byt_right
  have e1 : byt (a ++ (be2 n ++ b)) (a.length + 1) = byt (be2 n ++ b) 1 := byt_right
  subst hk
  unfold n2
  rw [show a.length = a.length + 0 from rfl, e0, Nat.add_zero, e1]
  have c0 : byt (be2 n ++ b) 0 = n / 256 % 256 := u8_val _
  have c1 : byt (be2 n ++ b) 1 = n % 256 := u8_val _
  rw [c0, c1]; omega
theorem backU {src dst : Int} {q : PU} (h : chkU q = 0) : badU src dst (bldU src dst q) = 0 ∧ prsU src dst (bldU src dst q) = q := by
  obtain ⟨⟨a1, a2, a3, a4⟩, hl⟩ := chkU_ok h
  have hc := ckU_bd src dst q
  have hlen := bldU_len src dst q
  have f0 : n2 (bldU src dst q) 0 = q.src := by
    rw [bldU, hdU, List.append_assoc, List.append_assoc, List.append_assoc]; exact n2_be2 (a := []) a1 a2 rfl
  have f2 : n2 (bldU src dst q) 2 = q.dst := by
    rw [bldU, hdU, List.append_assoc, List.append_assoc, List.append_assoc]; exact n2_be2 (a := be2 q.src) a3 a4 rfl
  have f4 : n2 (bldU src dst q) 4 = 8 + (q.dat.length : Int) := by
    rw [bldU, hdU, List.append_assoc, List.append_assoc]; exact n2_be2 (a := be2 q.src ++ be2 q.dst) (by omega) (by omega) rfl
  have f6 : n2 (bldU src dst q) 6 = ckU src dst q := by
    rw [bldU, hdU, List.append_assoc]; exact n2_be2 (a := be2 q.src ++ be2 q.dst ++ be2 (8 + (q.dat.length : Int))) hc.1 hc.2 rfl
  have hz : (ckU src dst q = 0) ↔ q.nosum = true := by
    have := smU_bd src dst q
    unfold ckU
    cases hn : q.nosum
    · simp only [Bool.false_eq_true, if_false, iff_false]
      split <;> omega
    · simp
  have hb : badU src dst (bldU src dst q) = 0 := by
    unfold badU
    rw [if_neg (by omega), f4, f6, if_neg (by omega), if_neg (by omega), if_neg ?_]
    rintro ⟨g1, g2⟩
    have hn : q.nosum = false := by cases hn : q.nosum; rfl; exact absurd (hz.2 hn) g1
    rw [bldU_right src dst q hn] at g2; cases g2
  refine ⟨hb, ?_⟩
  rw [prsU, if_pos hb, rawU, f0, f2, f6]
  have hd : (bldU src dst q).drop 8 = q.dat := by rw [bldU, List.drop_left' (hdU_len q _)]
  rw [hd]
  have : decide (ckU src dst q = 0) = q.nosum := by
    rw [Bool.eq_iff_iff, decide_eq_true_iff]; exact hz
  rw [this]
end Go.Proofs.Ytjgcpaepaocigaa
