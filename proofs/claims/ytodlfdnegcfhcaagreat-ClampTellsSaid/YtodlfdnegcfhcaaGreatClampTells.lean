/-
  For every segment, every packet and every size, goosepondlaw12.ClampTells answers true: the segment, and the packet, whose greatest size is held, and how great it is for the size, are what the document says.
  Conditions: none but the statement's own.
-/
import Derived.Test.YtodlfdnegcfhcaaGreatRows
import Derived.WalkKit
import Derived.ProofKit
import Derived.OpenShut
import Derived.ChangeOld
import Derived.Below
import Derived.Test.YtodlfdnegcfhcaaGreatMa1
import Derived.Test.YtodlfdnegcfhcaaGreatMf2
import Derived.Test.YtodlfdnegcfhcaaGreatMf4
import Derived.Test.YtodlfdnegcfhcaaGreatMd2
namespace Go.Proofs.YtodlfdnegcfhcaaGreat.clampTells
open Go.ChangeShapes Go.WideShapes Go.ChangeAt Go.RowKit
set_option linter.unusedVariables false
attribute [local go_sem] Oper.semAt_some

theorem own : ownKnob Tryz.prog.godebug = none := by kernel_rfl
theorem laidOut : laidOutB Tryz.prog = true := by kernel_rfl

/-! ### The walk -/
set_option maxRecDepth 100000 in
set_option maxHeartbeats 4000000 in
theorem walk (x0 : PT) (A0 : Option Addr) (c0 : Nat) (A0' : Option Addr) (c0' : Nat) (x1 : P4) (A1 : Option Addr) (c1 : Nat) (A1' : Option Addr) (c1' : Nat) (a2 : Int) (w : World) (h0 : Arg w w.heap.size A0 c0 x0.opt) (h0' : Arg w w.heap.size A0' c0' x0.dat) (m0 : c0 ≤ maxLen) (m0' : c0' ≤ maxLen) (w0 : x0.fits) (h1 : Arg w w.heap.size A1 c1 x1.opt) (h1' : Arg w w.heap.size A1' c1' x1.dat) (m1 : c1 ≤ maxLen) (m1' : c1' ≤ maxLen) (w1 : x1.fits) (w2 : (Lit.int .i64 a2).wf = true) :
    Calls Tryz.prog 6 #[tsv x0 A0 c0 A0' c0', v4v x1 A1 c1 A1' c1', .int .i64 a2] w fun e w' => e = .returned (.bool true) ∧ Below w.heap.size w w' := by
  have q0 : Below w.heap.size w ((w.alloc (.cells (tsa x0 A0 c0 A0' c0') 41)).alloc (.cells (v4a x1 A1 c1 A1' c1') 24)) := below_two w _ _
  have hT0 : ((w.alloc (.cells (tsa x0 A0 c0 A0' c0') 41)).alloc (.cells (v4a x1 A1 c1 A1' c1') 24)).heap[w.heap.size]? = some (.cells (tsa x0 A0 c0 A0' c0') 41 (0, 0)) := (Below.heap_alloc (w.alloc (.cells (tsa x0 A0 c0 A0' c0') 41)) _ w.heap.size (by simp)).trans (World.alloc_heap_new w _)
  have hV0 : ((w.alloc (.cells (tsa x0 A0 c0 A0' c0') 41)).alloc (.cells (v4a x1 A1 c1 A1' c1') 24)).heap[w.heap.size + 1]? = some (.cells (v4a x1 A1 c1 A1' c1') 24 (0, 0)) := by
    have := World.alloc_heap_new (w.alloc (.cells (tsa x0 A0 c0 A0' c0') 41)) (.cells (v4a x1 A1 c1 A1' c1') 24)
    rwa [World.size_alloc] at this
  obtain ⟨Sg, hS0⟩ : ∃ y, y = sgT x0 a2 := ⟨_, rfl⟩
  obtain ⟨Kq, hK0⟩ : ∃ y, y = pkP x1 a2 := ⟨_, rfl⟩
  have HS := Lib.hid hS0; have HK := Lib.hid hK0
  have KS := Lib.hid (sameT_iff.2 (rfl : Sg = Sg)); have KK := Lib.hid (same4_iff.2 (rfl : Kq = Kq))
  clear hS0 hK0
  rw [tsv_eq, v4q_eq]
  go_enter Tryz.func6, Tryz.ntmps6
  go_upto_region 1 with fail
  generalize (w.alloc (.cells (tsa x0 A0 c0 A0' c0') 41)).alloc (.cells (v4a x1 A1 c1 A1' c1') 24) = X0 at *
  have atT := Atts.of_heap hT0
  have atV := At4.of_heap hV0
  have kd := atT.dat; have ko := atT.opt; have ld := atV.dat; have lo := atV.opt
  have zT := heap_lt hT0; have zV := heap_lt hV0
  by_cases f1 : 3000 < x0.dat.length
  · have df1 : decide (3000 < (x0.dat.length : Int)) = true := by simp; omega
    go_wp2_with (go_at_call 20; refine (awakeC_any _).mono ?_; rintro e w20 ⟨rfl, y20⟩)
    go_ret
    exact ⟨rfl, q0.trans (y20.mono q0.size)⟩
  have df1 : decide (3000 < (x0.dat.length : Int)) = false := by simp; omega
  by_cases f2 : 200 < x0.opt.length
  · have df2 : decide (200 < (x0.opt.length : Int)) = true := by simp; omega
    go_wp2_with (go_at_call 20; refine (awakeC_any _).mono ?_; rintro e w20 ⟨rfl, y20⟩)
    go_ret
    exact ⟨rfl, q0.trans (y20.mono q0.size)⟩
  have df2 : decide (200 < (x0.opt.length : Int)) = false := by simp; omega
  by_cases f3 : 3000 < x1.dat.length
  · have df3 : decide (3000 < (x1.dat.length : Int)) = true := by simp; omega
    go_wp2_with (go_at_call 20; refine (awakeC_any _).mono ?_; rintro e w20 ⟨rfl, y20⟩)
    go_ret
    exact ⟨rfl, q0.trans (y20.mono q0.size)⟩
  have df3 : decide (3000 < (x1.dat.length : Int)) = false := by simp; omega
  by_cases f4 : 200 < x1.opt.length
  · have df4 : decide (200 < (x1.opt.length : Int)) = true := by simp; omega
    go_wp2_with (go_at_call 20; refine (awakeC_any _).mono ?_; rintro e w20 ⟨rfl, y20⟩)
    go_ret
    exact ⟨rfl, q0.trans (y20.mono q0.size)⟩
  have df4 : decide (200 < (x1.opt.length : Int)) = false := by simp; omega
  have lT1 : x0.opt.length ≤ 1000000 := by omega
  have lT2 : x0.dat.length ≤ 1000000 := by omega
  have lV1 : x1.opt.length ≤ 1000000 := by omega
  have lV2 : x1.dat.length ≤ 900000 := by omega
  clear f1 f2 f3 f4
  go_upto_region 4 with (go_at_call 21; refine (clone_any A0 x0.opt c0 w.heap.size _ (h0.below q0) q0.size (by omega)).mono ?_; rintro e X1 ⟨v1, rfl, m1⟩; obtain ⟨P1, p1, rfl, g1, o1, x1'⟩ := made_shape m1)
  have q1 := q0.trans (x1'.mono q0.size)
  have atT1 := atT.below x1' zT
  have atV1 := atV.below x1' zV
  have ko1 := atT1.opt
  have zT1 := Nat.lt_of_lt_of_le zT x1'.size
  have zV1 := Nat.lt_of_lt_of_le zV x1'.size
  clear kd ko ld lo df1 df2 df3 df4 m1 o1 hT0 hV0 atT atV
  refine wp_region_held_drew (S := fun w' => Below X1.heap.size X1 w') (by kernel_rfl) (Below.refl _ X1).drew (fun hS => ?_)
  refine held_pure (i := 0) (oi := ⟨some 34, _, _, _, _, _⟩) rfl (by kernel_rfl) (by kernel_rfl) (by kernel_rfl) (fun _ _ _ h => h) (by rfl) (fun w hSw => run_load_ts rfl rfl (atT1.below hSw zT1) rfl) hS (fun hS => ?_)
  try go_frame
  refine held_pure (i := 1) (oi := ⟨some 35, _, _, _, _, _⟩) rfl (by kernel_rfl) (by kernel_rfl) (by kernel_rfl) (fun _ _ _ h => h) (by rfl) (v := ?_) (fun w hSw => ?_) hS (fun hS => ?_)
  rotate_left
  · go_simp; try with_reducible rfl
  try go_frame
  refine held_pure (i := 3) (oi := ⟨some 37, _, _, _, _, _⟩) rfl (by kernel_rfl) (by kernel_rfl) (by kernel_rfl) (fun _ _ _ h => h) (by rfl) (fun w hSw => run_load_ts rfl rfl (atT1.below hSw zT1) rfl) hS (fun hS => ?_)
  try go_frame
  refine held_pure (i := 4) (oi := ⟨some 38, _, _, _, _, _⟩) rfl (by kernel_rfl) (by kernel_rfl) (by kernel_rfl) (fun _ _ _ h => h) (by rfl) (v := ?_) (fun w hSw => ?_) hS (fun hS => ?_)
  rotate_left
  · go_simp; try with_reducible rfl
  try go_frame
  refine wpAnyH_ready (rs := [2]) (by kernel_rfl) (by simp) (AllReadyH.cons (o := ⟨some 36, _, _, _, _, _⟩) rfl (fun K hK => ?_) AllReadyH.nil)
  rw [if_pos (by rfl)]
  go_simp
  refine (c12seg x0 A0 c0 A0' c0' _ lT1 lT2 w.heap.size (h0.below (q1.trans (hS.mono q1.size))) (h0'.below (q1.trans (hS.mono q1.size))) (q1.trans (hS.mono q1.size)).size a2).mono ?_
  rintro e u2 ⟨P2, p2, P2', p2', rfl, mo2, md2⟩
  rw [← HS.out] at mo2 md2
  rw [← HS.out]
  have x2 := mo2.below
  have go2 := made_arg mo2
  have gd2 := made_arg md2
  show K _ _
  refine hK.out _ _ (below_step hS x2) (fun hS => ?_)
  clear hK K
  try go_frame
  refine wpAnyH_ready (rs := [5]) (by kernel_rfl) (by simp) (AllReadyH.cons (o := ⟨some 39, _, _, _, _, _⟩) rfl (fun K hK => ?_) AllReadyH.nil)
  rw [if_pos (by rfl)]
  go_simp
  refine (r12seg x0 A0 c0 A0' c0' _ lT1 lT2 w.heap.size (h0.below (q1.trans (hS.mono q1.size))) (h0'.below (q1.trans (hS.mono q1.size))) (q1.trans (hS.mono q1.size)).size a2).mono ?_
  rintro e u5 ⟨P5, p5, P5', p5', rfl, mo5, md5⟩
  rw [← HS.out] at mo5 md5
  rw [← HS.out]
  have x5 := mo5.below
  have go5 := made_arg mo5
  have gd5 := made_arg md5
  show K _ _
  refine hK.out _ _ (below_step hS x5) (fun hS => ?_)
  clear hK K
  try go_frame
  refine wpAnyH_ready (rs := [6]) (by kernel_rfl) (by simp) (AllReadyH.cons (o := ⟨some 40, _, _, _, _, _⟩) rfl (fun K hK => ?_) AllReadyH.nil)
  rw [if_pos (by rfl)]
  go_simp
  refine (rTsame Sg Sg P2 p2 P2' p2' P5 p5 P5' p5' u5.heap.size _ (Nat.le_refl _) ((go2.below x5).more x5.size).rd go5.rd ((gd2.below x5).more x5.size).rd gd5.rd).mono ?_
  rintro e u6 ⟨rfl, x6⟩
  rw [KS.out]
  show K _ _
  refine hK.out _ _ (below_step hS x6) (fun hS => ?_)
  clear hK K
  try go_frame
  refine held_pure (i := 7) (oi := ⟨some 41, _, _, _, _, _⟩) rfl (by kernel_rfl) (by kernel_rfl) (by kernel_rfl) (fun _ _ _ h => h) (by rfl) (v := ?_) (fun w hSw => ?_) hS (fun hS => ?_)
  rotate_left
  · go_simp; try with_reducible rfl
  try go_frame
  refine held_pure (i := 8) (oi := ⟨some 42, _, _, _, _, _⟩) rfl (by kernel_rfl) (by kernel_rfl) (by kernel_rfl) (fun _ _ _ h => h) (by rfl) (fun w hSw => run_load_v4 rfl rfl (atV1.below hSw zV1) rfl) hS (fun hS => ?_)
  try go_frame
  refine held_pure (i := 9) (oi := ⟨some 43, _, _, _, _, _⟩) rfl (by kernel_rfl) (by kernel_rfl) (by kernel_rfl) (fun _ _ _ h => h) (by rfl) (v := ?_) (fun w hSw => ?_) hS (fun hS => ?_)
  rotate_left
  · go_simp; try with_reducible rfl
  try go_frame
  refine held_pure (i := 11) (oi := ⟨some 45, _, _, _, _, _⟩) rfl (by kernel_rfl) (by kernel_rfl) (by kernel_rfl) (fun _ _ _ h => h) (by rfl) (fun w hSw => run_load_v4 rfl rfl (atV1.below hSw zV1) rfl) hS (fun hS => ?_)
  try go_frame
  refine held_pure (i := 12) (oi := ⟨some 46, _, _, _, _, _⟩) rfl (by kernel_rfl) (by kernel_rfl) (by kernel_rfl) (fun _ _ _ h => h) (by rfl) (v := ?_) (fun w hSw => ?_) hS (fun hS => ?_)
  rotate_left
  · go_simp; try with_reducible rfl
  try go_frame
  refine wpAnyH_ready (rs := [10]) (by kernel_rfl) (by simp) (AllReadyH.cons (o := ⟨some 44, _, _, _, _, _⟩) rfl (fun K hK => ?_) AllReadyH.nil)
  rw [if_pos (by rfl)]
  go_simp
  refine (c12pk x1 A1 c1 A1' c1' _ lV1 lV2 w.heap.size (h1.below (q1.trans (hS.mono q1.size))) (h1'.below (q1.trans (hS.mono q1.size))) (q1.trans (hS.mono q1.size)).size a2).mono ?_
  rintro e u10 ⟨P10, p10, P10', p10', rfl, mo10, md10⟩
  rw [← HK.out] at mo10 md10
  rw [← HK.out]
  have x10 := mo10.below
  have go10 := made_arg mo10
  have gd10 := made_arg md10
  show K _ _
  refine hK.out _ _ (below_step hS x10) (fun hS => ?_)
  clear hK K
  try go_frame
  refine wpAnyH_ready (rs := [13]) (by kernel_rfl) (by simp) (AllReadyH.cons (o := ⟨some 47, _, _, _, _, _⟩) rfl (fun K hK => ?_) AllReadyH.nil)
  rw [if_pos (by rfl)]
  go_simp
  refine (r12pk x1 A1 c1 A1' c1' _ lV1 lV2 w.heap.size (h1.below (q1.trans (hS.mono q1.size))) (h1'.below (q1.trans (hS.mono q1.size))) (q1.trans (hS.mono q1.size)).size a2).mono ?_
  rintro e u13 ⟨P13, p13, P13', p13', rfl, mo13, md13⟩
  rw [← HK.out] at mo13 md13
  rw [← HK.out]
  have x13 := mo13.below
  have go13 := made_arg mo13
  have gd13 := made_arg md13
  show K _ _
  refine hK.out _ _ (below_step hS x13) (fun hS => ?_)
  clear hK K
  try go_frame
  refine wpAnyH_ready (rs := [14]) (by kernel_rfl) (by simp) (AllReadyH.cons (o := ⟨some 48, _, _, _, _, _⟩) rfl (fun K hK => ?_) AllReadyH.nil)
  rw [if_pos (by rfl)]
  go_simp
  refine (r5same Kq Kq P10 p10 P10' p10' P13 p13 P13' p13' u13.heap.size _ (Nat.le_refl _) ((go10.below x13).more x13.size).rd ((gd10.below x13).more x13.size).rd go13.rd gd13.rd).mono ?_
  rintro e u14 ⟨rfl, x14⟩
  rw [KK.out]
  show K _ _
  refine hK.out _ _ (below_step hS x14) (fun hS => ?_)
  clear hK K
  try go_frame
  refine held_pure (i := 15) (oi := ⟨some 49, _, _, _, _, _⟩) rfl (by kernel_rfl) (by kernel_rfl) (by kernel_rfl) (fun _ _ _ h => h) (by rfl) (v := ?_) (fun w hSw => ?_) hS (fun hS => ?_)
  rotate_left
  · go_simp; try with_reducible rfl
  try go_frame
  refine held_pure (i := 16) (oi := ⟨some 50, _, _, _, _, _⟩) rfl (by kernel_rfl) (by kernel_rfl) (by kernel_rfl) (fun _ _ _ h => h) (by rfl) (v := ?_) (fun w hSw => ?_) hS (fun hS => ?_)
  rotate_left
  · go_simp; try with_reducible rfl
  try go_frame
  refine held_pure (i := 17) (oi := ⟨some 51, _, _, _, _, _⟩) rfl (by kernel_rfl) (by kernel_rfl) (by kernel_rfl) (fun _ _ _ h => h) (by rfl) (v := ?_) (fun w hSw => ?_) hS (fun hS => ?_)
  rotate_left
  · go_simp; try with_reducible rfl
  try go_frame
  refine held_pure (i := 19) (oi := ⟨some 53, _, _, _, _, _⟩) rfl (by kernel_rfl) (by kernel_rfl) (by kernel_rfl) (fun _ _ _ h => h) (by rfl) (v := ?_) (fun w hSw => ?_) hS (fun hS => ?_)
  rotate_left
  · go_simp; try with_reducible rfl
  try go_frame
  refine wpAnyH_ready (rs := [18]) (by kernel_rfl) (by simp) (AllReadyH.cons (o := ⟨some 52, _, _, _, _, _⟩) rfl (fun K hK => ?_) AllReadyH.nil)
  rw [if_pos (by rfl)]
  go_simp
  refine (c12most _ _).mono ?_
  rintro e u18 ⟨rfl, rfl⟩
  show K _ _
  refine hK.out _ _ hS (fun hS => ?_)
  clear hK K
  try go_frame
  refine wpAnyH_ready (rs := [20]) (by kernel_rfl) (by simp) (AllReadyH.cons (o := ⟨some 54, _, _, _, _, _⟩) rfl (fun K hK => ?_) AllReadyH.nil)
  rw [if_pos (by rfl)]
  go_simp
  refine (r12most _ _).mono ?_
  rintro e u20 ⟨rfl, rfl⟩
  show K _ _
  refine hK.out _ _ hS (fun hS => ?_)
  clear hK K
  try go_frame
  refine held_pure (i := 21) (oi := ⟨some 55, _, _, _, _, _⟩) rfl (by kernel_rfl) (by kernel_rfl) (by kernel_rfl) (fun _ _ _ h => h) (by rfl) (v := ?_) (fun w hSw => ?_) hS (fun hS => ?_)
  rotate_left
  · go_simp; try with_reducible rfl
  try go_frame
  refine held_pure (i := 22) (oi := ⟨some 56, _, _, _, _, _⟩) rfl (by kernel_rfl) (by kernel_rfl) (by kernel_rfl) (fun _ _ _ h => h) (by rfl) (v := ?_) (fun w hSw => ?_) hS (fun hS => ?_)
  rotate_left
  · go_simp; try with_reducible rfl
  try go_frame
  refine held_pure (i := 23) (oi := ⟨some 57, _, _, _, _, _⟩) rfl (by kernel_rfl) (by kernel_rfl) (by kernel_rfl) (fun _ _ _ h => h) (by rfl) (v := ?_) (fun w hSw => ?_) hS (fun hS => ?_)
  rotate_left
  · go_simp; try with_reducible rfl
  try go_frame
  refine held_pure (i := 24) (oi := ⟨some 58, _, _, _, _, _⟩) rfl (by kernel_rfl) (by kernel_rfl) (by kernel_rfl) (fun _ _ _ h => h) (by rfl) (v := ?_) (fun w hSw => ?_) hS (fun hS => ?_)
  rotate_left
  · go_simp; try with_reducible rfl
  try go_frame
  refine held_pure (i := 25) (oi := ⟨some 59, _, _, _, _, _⟩) rfl (by kernel_rfl) (by kernel_rfl) (by kernel_rfl) (fun _ _ _ h => h) (by rfl) (fun w hSw => run_load_sl rfl rfl ((atT1.below hSw zT1).opt)) hS (fun hS => ?_)
  try go_frame
  refine held_pure (i := 26) (oi := ⟨some 60, _, _, _, _, _⟩) rfl (by kernel_rfl) (by kernel_rfl) (by kernel_rfl) (fun _ _ _ h => h) (by rfl) (v := ?_) (fun w hSw => ?_) hS (fun hS => ?_)
  rotate_left
  · go_simp; try with_reducible rfl
  try go_frame
  refine wpAnyH_ready (rs := [27]) (by kernel_rfl) (by simp) (AllReadyH.cons (o := ⟨some 61, _, _, _, _, _⟩) rfl (fun K hK => ?_) AllReadyH.nil)
  rw [if_pos (by rfl)]
  go_simp
  refine (equal_same A0 P1 x0.opt c0 p1 w.heap.size X1.heap.size _ (h0.below (q1.trans (hS.mono q1.size))).rd (g1.below hS).rd).mono ?_
  rintro e u27 ⟨rfl, rfl⟩
  show K _ _
  refine hK.out _ _ hS (fun hS => ?_)
  clear hK K
  try go_frame
  refine held_pure (i := 28) (oi := ⟨some 62, _, _, _, _, _⟩) rfl (by kernel_rfl) (by kernel_rfl) (by kernel_rfl) (fun _ _ _ h => h) (by rfl) (v := ?_) (fun w hSw => ?_) hS (fun hS => ?_)
  rotate_left
  · go_simp; try with_reducible rfl
  try go_frame
  refine held_pure (i := 29) (oi := ⟨some 63, _, _, _, _, _⟩) rfl (by kernel_rfl) (by kernel_rfl) (by kernel_rfl) (fun _ _ _ h => h) (by rfl) (v := ?_) (fun w hSw => ?_) hS (fun hS => ?_)
  rotate_left
  · go_simp; try with_reducible rfl
  try go_frame
  refine wpAnyH_ready (rs := [30]) (by kernel_rfl) (by simp) (AllReadyH.cons (o := ⟨some 64, _, _, _, _, _⟩) rfl (fun K hK => ?_) AllReadyH.nil)
  rw [if_pos (by rfl)]
  go_simp
  refine (awakeC_any _).mono ?_
  rintro e u30 ⟨rfl, x30⟩
  show K _ _
  refine hK.out _ _ (below_step hS x30) (fun hS => ?_)
  clear hK K
  try go_frame
  refine held_pure (i := 31) (oi := ⟨some 65, _, _, _, _, _⟩) rfl (by kernel_rfl) (by kernel_rfl) (by kernel_rfl) (fun _ _ _ h => h) (by rfl) (v := ?_) (fun w hSw => ?_) hS (fun hS => ?_)
  rotate_left
  · go_simp; try with_reducible rfl
  try go_frame
  refine held_pure (i := 32) (oi := ⟨some 6, _, _, _, _, _⟩) rfl (by kernel_rfl) (by kernel_rfl) (by kernel_rfl) (fun _ _ _ h => h) (by rfl) (v := ?_) (fun w hSw => ?_) hS (fun hS => ?_)
  rotate_left
  · go_simp; try with_reducible rfl
  try go_frame
  refine wpAnyH_done (by kernel_rfl) ?_ _
  go_wp2_with fail
  go_ret
  exact ⟨rfl, q1.trans (hS.mono q1.size)⟩

/-! ### The row's step -/
set_option maxRecDepth 100000 in
theorem lifted (os : Os) (started : os.Started) (H : Type) (enc : TypeId × Value → H) :
    ReturnsInHanded {} Tryz.checked os 6 .any (Rows.clampTellsSpec.pre6 enc Tryz.prog Tryz.f6 Rows.clampTellsRow.domain false) (Rows.clampTellsSpec.post enc Tryz.prog Tryz.f6 false true false false) := by
  refine returnsInHanded_of_change (C := Tryz.checked) own started (by kernel_rfl) Tryz.func6
    (ChangeSpec.witness6 (enc := enc) (C := Tryz.checked) false ⟨#[], #[.agg #[.int .i64 0, .int .i64 0, .int .i64 0, .int .i64 0, .int .i64 0, .int .i64 0, .int .i64 0, .int .i64 0, .slice none 0 0, .slice none 0 0], .agg #[.int .i64 0, .int .i64 0, .int .i64 0, .int .i64 0, .int .i64 0, .int .i64 0, .int .i64 0, .bool false, .bool false, .slice none 0 0, .slice none 0 0], .int .i64 0], []⟩ 8 (by kernel_rfl) (by kernel_rfl) (by kernel_rfl) (by kernel_rfl)) ?_
  intro W base args ds gs before hval0 hW hcnd _
  have hval : ∀ (j : Nat) t v, Tryz.f6.params[j]? = some t → args[j]? = some v → Value.okWide Tryz.prog W .any base t v := hval0
  have hW' := hW
  obtain ⟨p, q, hA0, hV, rfl, hfz, hnd⟩ := hW
  have hA : DataW.TrodAll enc Tryz.prog W 0 (fun _ => true) true Tryz.f6.params.toList args.toList ds p := hA0
  rw [Tryz.params6] at hA hval
  obtain ⟨v0, vs0, d0, ds0, p0, q0, hargs, rfl, rfl, t0, r0⟩ := trodAll_cons hA
  obtain ⟨v1, vs1, d1, ds1, p1, q1, rfl, rfl, rfl, t1, r1⟩ := trodAll_cons r0
  obtain ⟨v2, vs2, d2, ds2, p2, q2, rfl, rfl, rfl, t2, r2⟩ := trodAll_cons r1
  obtain ⟨rfl, rfl, rfl⟩ := trodAll_nil r2
  obtain rfl : args = #[v0, v1, v2] := by cases args; simp_all
  obtain ⟨rfl, rfl⟩ := trodVars_none hV
  have k0 := t0
  have lt0 := Trod_lt t0
  have k1 := t1
  have lt1 := Trod_lt t1
  have k2 := t2
  have lt2 := Trod_lt t2
  obtain ⟨x0, A0, c0, A0', c0', rfl, h0, h0', m0, m0', w0⟩ := get_ts (hval 0 41 v0 rfl rfl) t0
  obtain ⟨x1, A1, c1, A1', c1', rfl, h1, h1', m1, m1', w1⟩ := get_v4 (hval 1 24 v1 rfl rfl) t1
  obtain ⟨a2, rfl, w2⟩ := get_int Tryz.underlying3 (hval 2 3 v2 rfl rfl) t2
  clear hA0 hval0
  refine (walk x0 A0 c0 A0' c0' x1 A1 c1 A1' c1' a2 W h0 h0' m0 m0' w0 h1 h1' m1 m1' w1 w2).mono fun e W' ⟨he, bel⟩ => ?_
  subst he
  exact ⟨_, rfl, _, _, _, [], _, [], hW', trodAll_mk1 (shut_bool Tryz.underlying4 _), (trodAll_cons_mk (Below.trod laidOut (by kernel_rfl) (of_decide_eq_true (by kernel_rfl)) k0 bel lt0) (trodAll_cons_mk (Below.trod laidOut (by kernel_rfl) (of_decide_eq_true (by kernel_rfl)) k1 bel lt1) (trodAll_cons_mk (Below.trod laidOut (by kernel_rfl) (of_decide_eq_true (by kernel_rfl)) k2 bel lt2) trodAll_mk0))), rfl, bel.frame _, fun h => by cases h⟩

theorem over : Rows.clampTellsRow.holds Tryz.pinned (OpenSpec.ofChange Rows.clampTellsSpec) :=
  OpenClaim.holds_of_wide 6 Tryz.f6 rfl rfl rfl rfl rfl rfl rfl ⟨rfl, rfl, rfl, rfl, rfl⟩ rfl rfl rfl rfl rfl (by kernel_rfl) Tryz.func6 (by kernel_rfl)
    (of_decide_eq_true (by kernel_rfl)) (by unfold Func.isWrapper; first | (rw [if_pos (by decide +kernel)]; kernel_rfl) | (rw [if_neg (by decide +kernel)]; exact ⟨rfl, rfl⟩))
    (fun os started H enc _ => lifted os started H enc)

theorem proved : Rows.ClampTellsSaid := over
end Go.Proofs.YtodlfdnegcfhcaaGreat.clampTells
