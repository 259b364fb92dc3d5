/-
  Contract of v4's buildHead. Conditions are each theorem's own.
-/
import Derived.Test.YtcfcmnhnijjehaaV4B
import Derived.Test.YtcfcmnhnijjehaaCopyB
namespace Go.Proofs.Ytcfcmnhnijjehaa
open Go.RowKit

/-- The ten numbers of a head. -/
def ten4 (q : P4) : List (Int × Int) := [(64 + head4 q / 4, 1), (q.tos, 1), (size4 q, 2), (q.id, 2), (flags4 q, 2), (q.ttl, 1), (q.proto, 1), (0, 2), (q.src, 4), (q.dst, 4)]
theorem ten_index (ps : List (Int × Int)) (hl : ps.length = 10) {k : Nat} {x : Int × Int} (hx : ps[k]? = some x) : ∀ w, (Instr.index 83 (.agg (flat ps).toArray) (.int .i64 (k : Int))).run Try.prog w = .ok (.agg #[.int .i64 x.1, .int .i64 x.2]) w := by
  match ps, hl with
  | [p0, p1, p2, p3, p4, p5, p6, p7, p8, p9], _ =>
    have hk : k < 10 := by have := (List.getElem?_eq_some_iff.1 hx).1; simpa using this
    have h : k = 0 ∨ k = 1 ∨ k = 2 ∨ k = 3 ∨ k = 4 ∨ k = 5 ∨ k = 6 ∨ k = 7 ∨ k = 8 ∨ k = 9 := by omega
    intro w
    rcases h with rfl | rfl | rfl | rfl | rfl | rfl | rfl | rfl | rfl | rfl <;> (simp at hx; subst hx; kernel_rfl)
theorem ten_put (q : P4) (h : arg4 q) (hz : 0 ≤ size4 q ∧ size4 q ≤ 65535) : putL (ten4 q) ++ q.opt = hd4 q (size4 q) 0 := by
  obtain ⟨a1, a2, a3, a4, a5, a6, a7, a8, a9, a10, a11, a12, a13, a14, a15, a16, a17, a18⟩ := h
  have hh : head4 q = 20 + (q.opt.length : Int) := rfl
  have hf : 0 ≤ flags4 q ∧ flags4 q ≤ 65535 := by
    have b1 : 0 ≤ bit q.df 16384 ∧ bit q.df 16384 ≤ 16384 := by unfold bit; cases q.df <;> simp
    have b2 : 0 ≤ bit q.mf 8192 ∧ bit q.mf 8192 ≤ 8192 := by unfold bit; cases q.mf <;> simp
    unfold flags4; omega
  simp only [ten4, putL, List.foldl_cons, List.foldl_nil]
  rw [put_one (n := 64 + head4 q / 4) (by omega) (by omega), put_one a1 a2, put_two hz.1 hz.2, put_two a7 a8, put_two hf.1 hf.2, put_one a3 a4, put_one a5 a6, put_two (n := 0) (by omega) (by omega), put_four a9 a10, put_four a11 a12]
  simp [hd4, hda, hdb, be2, be4]
theorem set_sum (q : P4) : setB (hd4 q (size4 q) 0) 10 (sum4 q) 2 = hd4 q (size4 q) (sum4 q) := by
  obtain ⟨h0, h1⟩ := sum4_bd q
  have hl := hd4_len q (size4 q) 0
  rw [setB, if_pos ⟨fitsB_iff.2 ⟨by omega, by omega, h0, by simp [pw]; omega⟩, by omega, by rw [hl]; omega⟩]
  have e : digs (sum4 q) (2 : Int).toNat = be2 (sum4 q) := digs_two h0
  have ha : (hda q (size4 q)).length = 10 := rfl
  rw [e, show (10 : Int).toNat = 10 from rfl, hd4, List.append_assoc, splice_mid _ _ _ 10 ha, hd4]
  simp [be2]
section
variable (q : P4) (A : Option Addr) (c : Nat) (A' : Option Addr) (c' : Nat) (w : World)
set_option maxRecDepth 100000 in
set_option maxHeartbeats 2000000 in
theorem c4bhead (B : Nat) (ha : arg4 q) (hsz : 0 ≤ size4 q ∧ size4 q ≤ 65535) (hO : Arg w B A c q.opt) (hB0 : B ≤ w.heap.size) (hd : q.dat.length ≤ 1000000) :
    Calls Try.prog 49 #[v4v q A c A' c'] w fun e w' => ∃ v, e = .returned v ∧ Made w w' v (hd4 q (size4 q) (sum4 q)) := by
  have hB : Below w.heap.size w (w.alloc (.cells (v4a q A c A' c') 24)) := (Below.refl w.heap.size w).alloc (Nat.le_refl _) _
  have hAt := At4.new (q := q) (A := A) (c := c) (A' := A') (c' := c') w
  have hz : w.heap.size < (w.alloc (.cells (v4a q A c A' c') 24)).heap.size := by simp
  unfold v4v
  rw [show #[Value.int .i64 q.tos, .int .i64 q.id, .int .i64 q.off, .int .i64 q.ttl, .int .i64 q.proto, .int .i64 q.src, .int .i64 q.dst, .bool q.df, .bool q.mf, .slice A q.opt.length c, .slice A' q.dat.length c'] = v4a q A c A' c' from rfl]
  have ho40 : q.opt.length ≤ 40 := by obtain ⟨_, _, _, _, _, _, _, _, _, _, _, _, _, _, _, h, _⟩ := ha; exact h
  have ho : q.opt.length ≤ 1000000 := by omega
  have hh : head4 q = 20 + (q.opt.length : Int) := rfl
  have hhb : 20 ≤ head4 q ∧ head4 q ≤ 60 := by omega
  have hof : 0 ≤ q.off ∧ q.off ≤ 65528 := ⟨ha.2.2.2.2.2.2.2.2.2.2.2.2.1, ha.2.2.2.2.2.2.2.2.2.2.2.2.2.1⟩
  have HO1 := Lib.hid (show bits .or .i64 64 (IntKind.i64.wrap (Int.tdiv (head4 q) 4)) = 64 + head4 q / 4 from by
    rw [Int.tdiv_eq_ediv_of_nonneg (by omega), IntWalk.i64_in (head4 q / 4) (by omega)]
    exact bits_join .i64 62 (by decide) wraps_i64 6 64 (head4 q / 4) (by omega) (by decide) (by decide) (by omega) (by omega) (by omega))
  have HO2 := Lib.hid (show bits .or .i64 (flg4 q) (IntKind.i64.wrap (Int.tdiv q.off 8)) = flags4 q by
    rw [Int.tdiv_eq_ediv_of_nonneg hof.1, IntWalk.i64_in (q.off / 8) (by omega)]
    have e := bits_join .i64 62 (by decide) wraps_i64 13 (flg4 q) (q.off / 8) (by unfold flg4 bit; cases q.df <;> cases q.mf <;> simp) (by unfold flg4 bit; cases q.df <;> cases q.mf <;> simp) (by unfold flg4 bit; cases q.df <;> cases q.mf <;> simp) (by omega) (by omega) (by omega)
    rw [e, flags4, flg4]; omega)
  obtain ⟨PS, hPS⟩ : ∃ l, l = ten4 q := ⟨_, rfl⟩
  have HPA := Lib.hid (show flat (ten4 q) = flat PS by rw [hPS])
  have HSM := Lib.hid (show sum4 q = 65535 - fold (psum [hd4 q (size4 q) 0]) from rfl)
  have HST := Lib.hid (set_sum q)
  have HHL := Lib.hid (hd4_len q (size4 q) 0)
  obtain ⟨H0, hH0⟩ : ∃ l, l = hd4 q (size4 q) 0 := ⟨_, rfl⟩
  rw [← hH0] at HSM HST HHL
  have HH0 := Lib.hid hH0
  clear hH0
  have HPP := Lib.hid (show H0 = putL PS ++ q.opt by rw [hPS, HH0.out]; exact (ten_put q ha hsz).symm)
  have HPL := Lib.hid (show PS.length = 10 by rw [hPS]; rfl)
  have HP4 := Lib.hid (show ∀ x ∈ PS, x.2.toNat ≤ 4 by rw [hPS]; simp [ten4])
  clear hPS hh
  go_enter Try.func49, Try.ntmps49
  go_wp2_with fail
  generalize w.alloc (.cells (v4a q A c A' c') 24) = W at *
  refine wp_region_held_drew (S := fun w' => Below W.heap.size W w') (by kernel_rfl) (Below.refl _ W).drew (fun hS => ?_)
  refine held_pure (i := 0) (oi := ⟨some 6, _, _, _, _, _⟩) rfl (by kernel_rfl) (by kernel_rfl) (by kernel_rfl) (fun _ _ _ h => h) (by rfl) (fun w hSw => run_load_v4 rfl rfl (hAt.below hSw (by omega)) rfl) hS (fun hS => ?_)
  try go_frame
  refine held_pure (i := 5) (oi := ⟨some 11, _, _, _, _, _⟩) rfl (by kernel_rfl) (by kernel_rfl) (by kernel_rfl) (fun _ _ _ h => h) (by rfl) (v := ?_) (fun w hSw => ?_) hS (fun hS => ?_)
  rotate_left
  · go_simp; try with_reducible rfl
  try go_frame
  refine held_pure (i := 6) (oi := ⟨some 12, _, _, _, _, _⟩) rfl (by kernel_rfl) (by kernel_rfl) (by kernel_rfl) (fun _ _ _ h => h) (by rfl) (fun w hSw => run_load_int rfl rfl ((hAt.below hSw (by omega)).tos)) hS (fun hS => ?_)
  try go_frame
  refine held_pure (i := 7) (oi := ⟨some 13, _, _, _, _, _⟩) rfl (by kernel_rfl) (by kernel_rfl) (by kernel_rfl) (fun _ _ _ h => h) (by rfl) (v := ?_) (fun w hSw => ?_) hS (fun hS => ?_)
  rotate_left
  · go_simp; try with_reducible rfl
  try go_frame
  refine held_pure (i := 8) (oi := ⟨some 14, _, _, _, _, _⟩) rfl (by kernel_rfl) (by kernel_rfl) (by kernel_rfl) (fun _ _ _ h => h) (by rfl) (fun w hSw => run_load_v4 rfl rfl (hAt.below hSw (by omega)) rfl) hS (fun hS => ?_)
  try go_frame
  refine held_pure (i := 11) (oi := ⟨some 17, _, _, _, _, _⟩) rfl (by kernel_rfl) (by kernel_rfl) (by kernel_rfl) (fun _ _ _ h => h) (by rfl) (v := ?_) (fun w hSw => ?_) hS (fun hS => ?_)
  rotate_left
  · go_simp; try with_reducible rfl
  try go_frame
  refine held_pure (i := 12) (oi := ⟨some 18, _, _, _, _, _⟩) rfl (by kernel_rfl) (by kernel_rfl) (by kernel_rfl) (fun _ _ _ h => h) (by rfl) (fun w hSw => run_load_int rfl rfl ((hAt.below hSw (by omega)).id)) hS (fun hS => ?_)
  try go_frame
  refine held_pure (i := 13) (oi := ⟨some 19, _, _, _, _, _⟩) rfl (by kernel_rfl) (by kernel_rfl) (by kernel_rfl) (fun _ _ _ h => h) (by rfl) (v := ?_) (fun w hSw => ?_) hS (fun hS => ?_)
  rotate_left
  · go_simp; try with_reducible rfl
  try go_frame
  refine held_pure (i := 14) (oi := ⟨some 20, _, _, _, _, _⟩) rfl (by kernel_rfl) (by kernel_rfl) (by kernel_rfl) (fun _ _ _ h => h) (by rfl) (fun w hSw => run_load_v4 rfl rfl (hAt.below hSw (by omega)) rfl) hS (fun hS => ?_)
  try go_frame
  refine held_pure (i := 16) (oi := ⟨some 22, _, _, _, _, _⟩) rfl (by kernel_rfl) (by kernel_rfl) (by kernel_rfl) (fun _ _ _ h => h) (by rfl) (v := ?_) (fun w hSw => ?_) hS (fun hS => ?_)
  rotate_left
  · go_simp; try with_reducible rfl
  try go_frame
  refine held_pure (i := 17) (oi := ⟨some 23, _, _, _, _, _⟩) rfl (by kernel_rfl) (by kernel_rfl) (by kernel_rfl) (fun _ _ _ h => h) (by rfl) (fun w hSw => run_load_int rfl rfl ((hAt.below hSw (by omega)).off)) hS (fun hS => ?_)
  try go_frame
  refine held_pure (i := 18) (oi := ⟨some 24, _, _, _, _, _⟩) rfl (by kernel_rfl) (by kernel_rfl) (by kernel_rfl) (fun _ _ _ h => h) (by rfl) (v := ?_) (fun w hSw => ?_) hS (fun hS => ?_)
  rotate_left
  · go_simp; try with_reducible rfl
  try go_frame
  refine held_pure (i := 21) (oi := ⟨some 27, _, _, _, _, _⟩) rfl (by kernel_rfl) (by kernel_rfl) (by kernel_rfl) (fun _ _ _ h => h) (by rfl) (v := ?_) (fun w hSw => ?_) hS (fun hS => ?_)
  rotate_left
  · go_simp; try with_reducible rfl
  try go_frame
  refine held_pure (i := 22) (oi := ⟨some 28, _, _, _, _, _⟩) rfl (by kernel_rfl) (by kernel_rfl) (by kernel_rfl) (fun _ _ _ h => h) (by rfl) (fun w hSw => run_load_int rfl rfl ((hAt.below hSw (by omega)).ttl)) hS (fun hS => ?_)
  try go_frame
  refine held_pure (i := 23) (oi := ⟨some 29, _, _, _, _, _⟩) rfl (by kernel_rfl) (by kernel_rfl) (by kernel_rfl) (fun _ _ _ h => h) (by rfl) (v := ?_) (fun w hSw => ?_) hS (fun hS => ?_)
  rotate_left
  · go_simp; try with_reducible rfl
  try go_frame
  refine held_pure (i := 24) (oi := ⟨some 30, _, _, _, _, _⟩) rfl (by kernel_rfl) (by kernel_rfl) (by kernel_rfl) (fun _ _ _ h => h) (by rfl) (v := ?_) (fun w hSw => ?_) hS (fun hS => ?_)
  rotate_left
  · go_simp; try with_reducible rfl
  try go_frame
  refine held_pure (i := 25) (oi := ⟨some 31, _, _, _, _, _⟩) rfl (by kernel_rfl) (by kernel_rfl) (by kernel_rfl) (fun _ _ _ h => h) (by rfl) (fun w hSw => run_load_int rfl rfl ((hAt.below hSw (by omega)).proto)) hS (fun hS => ?_)
  try go_frame
  refine held_pure (i := 26) (oi := ⟨some 32, _, _, _, _, _⟩) rfl (by kernel_rfl) (by kernel_rfl) (by kernel_rfl) (fun _ _ _ h => h) (by rfl) (v := ?_) (fun w hSw => ?_) hS (fun hS => ?_)
  rotate_left
  · go_simp; try with_reducible rfl
  try go_frame
  refine held_pure (i := 27) (oi := ⟨some 33, _, _, _, _, _⟩) rfl (by kernel_rfl) (by kernel_rfl) (by kernel_rfl) (fun _ _ _ h => h) (by rfl) (v := ?_) (fun w hSw => ?_) hS (fun hS => ?_)
  rotate_left
  · go_simp; try with_reducible rfl
  try go_frame
  refine held_pure (i := 28) (oi := ⟨some 34, _, _, _, _, _⟩) rfl (by kernel_rfl) (by kernel_rfl) (by kernel_rfl) (fun _ _ _ h => h) (by rfl) (v := ?_) (fun w hSw => ?_) hS (fun hS => ?_)
  rotate_left
  · go_simp; try with_reducible rfl
  try go_frame
  refine held_pure (i := 29) (oi := ⟨some 35, _, _, _, _, _⟩) rfl (by kernel_rfl) (by kernel_rfl) (by kernel_rfl) (fun _ _ _ h => h) (by rfl) (fun w hSw => run_load_int rfl rfl ((hAt.below hSw (by omega)).src)) hS (fun hS => ?_)
  try go_frame
  refine held_pure (i := 30) (oi := ⟨some 36, _, _, _, _, _⟩) rfl (by kernel_rfl) (by kernel_rfl) (by kernel_rfl) (fun _ _ _ h => h) (by rfl) (v := ?_) (fun w hSw => ?_) hS (fun hS => ?_)
  rotate_left
  · go_simp; try with_reducible rfl
  try go_frame
  refine held_pure (i := 31) (oi := ⟨some 37, _, _, _, _, _⟩) rfl (by kernel_rfl) (by kernel_rfl) (by kernel_rfl) (fun _ _ _ h => h) (by rfl) (v := ?_) (fun w hSw => ?_) hS (fun hS => ?_)
  rotate_left
  · go_simp; try with_reducible rfl
  try go_frame
  refine held_pure (i := 32) (oi := ⟨some 38, _, _, _, _, _⟩) rfl (by kernel_rfl) (by kernel_rfl) (by kernel_rfl) (fun _ _ _ h => h) (by rfl) (fun w hSw => run_load_int rfl rfl ((hAt.below hSw (by omega)).dst)) hS (fun hS => ?_)
  try go_frame
  refine held_pure (i := 33) (oi := ⟨some 39, _, _, _, _, _⟩) rfl (by kernel_rfl) (by kernel_rfl) (by kernel_rfl) (fun _ _ _ h => h) (by rfl) (v := ?_) (fun w hSw => ?_) hS (fun hS => ?_)
  rotate_left
  · go_simp; try with_reducible rfl
  try go_frame
  refine held_pure (i := 35) (oi := ⟨some 41, _, _, _, _, _⟩) rfl (by kernel_rfl) (by kernel_rfl) (by kernel_rfl) (fun _ _ _ h => h) (by rfl) (v := ?_) (fun w hSw => ?_) hS (fun hS => ?_)
  rotate_left
  · go_simp; try with_reducible rfl
  try go_frame
  refine wpAnyH_ready (rs := [1]) (by kernel_rfl) (by simp) (AllReadyH.cons (o := ⟨some 7, _, _, _, _, _⟩) rfl (fun K hK => ?_) AllReadyH.nil)
  rw [if_pos (by rfl)]
  go_simp
  refine (c4head q A c A' c' _ ho).mono ?_
  rintro e w1 ⟨rfl, x1⟩
  show K _ _
  refine hK.out _ _ (below_step hS x1) (fun hS => ?_)
  clear hK K
  try go_frame
  refine held_pure (i := 2) (oi := ⟨some 8, _, _, _, _, _⟩) rfl (by kernel_rfl) (by kernel_rfl) (by kernel_rfl) (fun _ _ _ h => h) (by rfl) (v := ?_) (fun w hSw => ?_) hS (fun hS => ?_)
  rotate_left
  · go_simp; try with_reducible rfl
  try go_frame
  refine held_pure (i := 3) (oi := ⟨some 9, _, _, _, _, _⟩) rfl (by kernel_rfl) (by kernel_rfl) (by kernel_rfl) (fun _ _ _ h => h) (by rfl) (v := .int .i64 (64 + head4 q / 4)) (fun w hSw => by go_simp; exact HO1.out) hS (fun hS => ?_)
  try go_frame
  refine held_pure (i := 4) (oi := ⟨some 10, _, _, _, _, _⟩) rfl (by kernel_rfl) (by kernel_rfl) (by kernel_rfl) (fun _ _ _ h => h) (by rfl) (v := ?_) (fun w hSw => ?_) hS (fun hS => ?_)
  rotate_left
  · go_simp; try with_reducible rfl
  try go_frame
  refine wpAnyH_ready (rs := [9]) (by kernel_rfl) (by simp) (AllReadyH.cons (o := ⟨some 15, _, _, _, _, _⟩) rfl (fun K hK => ?_) AllReadyH.nil)
  rw [if_pos (by rfl)]
  go_simp
  refine (c4size q A c A' c' _ ho hd).mono ?_
  rintro e w9 ⟨rfl, x9⟩
  show K _ _
  refine hK.out _ _ (below_step hS x9) (fun hS => ?_)
  clear hK K
  try go_frame
  refine held_pure (i := 10) (oi := ⟨some 16, _, _, _, _, _⟩) rfl (by kernel_rfl) (by kernel_rfl) (by kernel_rfl) (fun _ _ _ h => h) (by rfl) (v := ?_) (fun w hSw => ?_) hS (fun hS => ?_)
  rotate_left
  · go_simp; try with_reducible rfl
  try go_frame
  refine wpAnyH_ready (rs := [15]) (by kernel_rfl) (by simp) (AllReadyH.cons (o := ⟨some 21, _, _, _, _, _⟩) rfl (fun K hK => ?_) AllReadyH.nil)
  rw [if_pos (by rfl)]
  go_simp
  refine (c4flags q A c A' c' _).mono ?_
  rintro e w15 ⟨rfl, x15⟩
  show K _ _
  refine hK.out _ _ (below_step hS x15) (fun hS => ?_)
  clear hK K
  try go_frame
  refine held_pure (i := 19) (oi := ⟨some 25, _, _, _, _, _⟩) rfl (by kernel_rfl) (by kernel_rfl) (by kernel_rfl) (fun _ _ _ h => h) (by rfl) (v := .int .i64 (flags4 q)) (fun w hSw => by go_simp; exact HO2.out) hS (fun hS => ?_)
  try go_frame
  refine held_pure (i := 20) (oi := ⟨some 26, _, _, _, _, _⟩) rfl (by kernel_rfl) (by kernel_rfl) (by kernel_rfl) (fun _ _ _ h => h) (by rfl) (v := ?_) (fun w hSw => ?_) hS (fun hS => ?_)
  rotate_left
  · go_simp; try with_reducible rfl
  try go_frame
  refine held_pure (i := 34) (oi := ⟨some 40, _, _, _, _, _⟩) rfl (by kernel_rfl) (by kernel_rfl) (by kernel_rfl) (fun _ _ _ h => h) (by rfl) (v := .agg (flat PS).toArray) (fun w hSw => by go_simp; try exact HPA.out) hS (fun hS => ?_)
  try go_frame
  refine wpAnyH_done (by kernel_rfl) ?_ _
  have HL := Lib.hid (fun k => (putL_len (PS.take k) (fun x hx => HP4.out x (List.mem_of_mem_take hx))))
  have hzS := hS.size
  go_wp2_with fail
  go_loopw [3, 41] (fun v i W' => ∃ (k c : Nat) (A : Option Addr) (bs : List UInt8), k ≤ 10 ∧ i = .int .i64 (k : Int) ∧ Hid (bs = putL (PS.take k)) ∧ bs.length ≤ 40 ∧ v = .slice A bs.length c ∧ W'.ownsRow W.heap.size 5 1 (.slice A bs.length c) bs.length (row bs) ∧ Below W.heap.size W W') (fun _ i _ => 10 - (intOf i).toNat)
  case atStart => exact ⟨0, 0, none, [], Nat.zero_le _, rfl, Lib.hid rfl, by simp, rfl, World.ownsRow_nil _ _ _ _, hS⟩
  case round =>
    obtain ⟨k, ck, Ak, bs, hk, rfl, HB, hb40, rfl, hown, hbel⟩ := hrel
    have hsW := hbel.size
    by_cases hlt : k < 10
    · obtain ⟨x, hx⟩ : ∃ x, PS[k]? = some x := ⟨_, List.getElem?_eq_getElem (by rw [HPL.out]; exact hlt)⟩
      have hidx := ten_index PS HPL.out hx
      have HX := Lib.hid hx
      clear hx
      obtain ⟨n, s⟩ := x
      simp only at hidx
      go_wp2_with (go_at_call 72; refine (put_any Ak bs ck _ n s _ (arg_own (own_below hown ((Below.refl _ _).alloc (Nat.le_refl _) _))).rd (Nat.le_refl _) (by omega)).mono ?_; rintro e w2 ⟨v2, rfl, A2, c2, rfl, l2, rd2, ow2, x2⟩)
      have hz2 := x2.size
      have bel2 : Below W.heap.size W w2 := (hbel.alloc hbel.size _).trans (x2.mono (by simp; exact Nat.le_succ_of_le hbel.size))
      have own2 : w2.ownsRow W.heap.size 5 1 (.slice A2 (putB bs n s).length c2) (putB bs n s).length (row (putB bs n s)) := own_base ow2 (by simp; exact Nat.le_succ_of_le hbel.size)
      have HP := Lib.hid (putL_take PS HX.out)
      have h40 : (putB bs n s).length ≤ 40 := by
        rw [HB.out, ← HP.out]
        have := HL.out (k + 1)
        have h2 : (PS.take (k + 1)).length ≤ PS.length := by rw [List.length_take]; omega
        have := HPL.out
        omega
      go_roundw
      case rel => exact ⟨k + 1, c2, A2, _, by omega, by simp, Lib.hid (by rw [HP.out, HB.out]), h40, rfl, own2, bel2⟩
      case measure => simp [intOf]; omega
    · obtain rfl : k = 10 := by omega
      have HBS := Lib.hid (show H0 = bs ++ q.opt by rw [HPP.out, HB.out, List.take_of_length_le (by rw [HPL.out]; exact Nat.le_refl _)])
      have k9 := (hAt.below hbel (by omega)).opt
      have hOr := hO.below ((hB.trans (hbel.mono (by omega))).mono hB0)
      go_wp2_with (first
        | (at_builtin; refine append_rd rfl _ _ rfl W.heap.size _ _ _ rfl hown B A c q.opt rfl hO.none_ hOr.rd (by omega) hsW ?_; intro v5 w5 own5 grow5; obtain ⟨A5, c5, rfl, owm5⟩ := own_made (bs := H0) own5 (by rw [HBS.out, List.length_append]) (by rw [HBS.out, row_append]))
        | (go_at_call 74; refine (of_one (some ⟨w5.heap.size, 0, none⟩) H0 1 _ (sum4 q) HSM _ (Rd2.one (World.alloc_heap_new w5 _) (Nat.lt_succ_self _) (((arg_own owm5).alloc (Nat.le_refl _) _).more (Nat.le_succ _))) (by simp) (by rw [HHL.out]; omega)).mono ?_; rintro e w6 ⟨rfl, x6⟩)
        | (go_at_call 73; refine (set_any A5 H0 c5 w5.heap.size 10 (sum4 q) 2 _ ((arg_own owm5).rd.below (((Below.refl _ w5).alloc (Nat.le_refl _) _).trans (x6.mono (by simp)))) (Nat.le_trans (by simp) x6.size) (by rw [HHL.out]; omega)).mono ?_; rintro e w7 ⟨v7, rfl, m7⟩; rw [HST.out] at m7))
      go_ret
      have b5 : Below W.heap.size W w5 := hbel.grown grow5 hsW (fun k hk => own_block_ge hown k hk)
      have z5 := b5.size
      exact ⟨v7, rfl, m7.after (hB.trans ((b5.alloc z5 _).trans (x6.mono (by simp; omega)) |>.mono (by omega)))⟩
end
end Go.Proofs.Ytcfcmnhnijjehaa
