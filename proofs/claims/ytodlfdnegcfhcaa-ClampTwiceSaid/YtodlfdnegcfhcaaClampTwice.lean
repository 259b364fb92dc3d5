/-
  For all bytes and every size, goosepondlaw12.ClampTwice answers true: held twice the packet that they are is held once; nothing but the greatest size, and the sum, is changed, and ports stay.
  Conditions: none but the statement's own.
-/
import Derived.Test.YtodlfdnegcfhcaaRows
import Derived.WalkKit
import Derived.ProofKit
import Derived.OpenShut
import Derived.ChangeOld
import Derived.Below
import Derived.Test.YtodlfdnegcfhcaaNa1
import Derived.Test.YtodlfdnegcfhcaaNc2
import Derived.Test.YtodlfdnegcfhcaaNa7
namespace Go.Proofs.Ytodlfdnegcfhcaa.clampTwice
open Go.ChangeShapes Go.WideShapes Go.ChangeAt Go.RowKit
set_option linter.unusedVariables false
attribute [local go_sem] Oper.semAt_some

theorem own : ownKnob Try.prog.godebug = none := by kernel_rfl
theorem laidOut : laidOutB Try.prog = true := by kernel_rfl

/-! ### The walk -/
set_option maxRecDepth 100000 in
set_option maxHeartbeats 4000000 in
theorem walk (A0 : Option Addr) (c0 : Nat) (b0 : List UInt8) (a1 : Int) (w : World) (h0 : Arg w w.heap.size A0 c0 b0) (m0 : c0 ≤ maxLen) (w1 : (Lit.int .i64 a1).wf = true) :
    Calls Try.prog 3 #[.slice A0 b0.length c0, .int .i64 a1] w fun e w' => e = .returned (.bool true) ∧ Below w.heap.size w w' := by
  by_cases h : 3000 < b0.length
  · have hd : decide (3000 < (b0.length : Int)) = true := by simp; omega
    go_enter Try.func3, Try.ntmps3
    go_wp2_with (go_at_call 5; refine (awakeC_any _).mono ?_; rintro e w20 ⟨rfl, y20⟩)
    go_ret
    exact ⟨rfl, y20⟩
  have hd : decide (3000 < (b0.length : Int)) = false := by simp; omega
  have q0 : Below w.heap.size w w := Below.refl _ _
  obtain ⟨u, hu⟩ : ∃ q, q = prsV b0 false := ⟨_, rfl⟩
  obtain ⟨e0, he0⟩ : ∃ q, q = prsE b0 false := ⟨_, rfl⟩
  have hul := prs_len b0
  rw [← hu] at hul
  have HU := Lib.hid hu; have H0 := Lib.hid he0
  have hb3 : b0.length ≤ 3000 := by omega
  have ho : u.opt.length ≤ 1000000 := by omega
  have hl : u.dat.length ≤ 900000 := by omega
  obtain ⟨k, a, b, hV⟩ := ofV_is u
  obtain ⟨E, hE⟩ : ∃ y, y = ofE u := ⟨_, rfl⟩
  obtain ⟨Kq, hK⟩ : ∃ y, y = pkP u a1 := ⟨_, rfl⟩
  obtain ⟨p1e, p2e, p3e, p4e, p5e, p6e⟩ := pk_of u a1
  rw [← hK] at p1e p2e p3e p4e p5e p6e
  have HV := Lib.hid hV; have HE := Lib.hid hE; have HK := Lib.hid hK
  have HVK := Lib.hid (show ofV Kq = prA k a b by rw [← hV, ofV, ofV, p1e, p2e, p3e, p4e])
  have HEK := Lib.hid (show E = ofE Kq by rw [hE, p1e])
  have HPK := Lib.hid p6e
  have g5 : ((Kq.dat.length : Int) != (u.dat.length : Int)) = false := by rw [p5e]; exact bne_self_eq_false _
  have hoK : Kq.opt.length ≤ 1000000 := by rw [hK, pk_opt]; exact ho
  have hlK : Kq.dat.length ≤ 900000 := by rw [p5e]; exact hl
  have HRK := Lib.hid (show datP Kq u.dat = u by rw [hK]; exact pk_rest u a1)
  have HOK := Lib.hid (show Kq.opt = u.opt by rw [hK, pk_opt])
  have KK := Lib.hid (same4_iff.2 (rfl : Kq = Kq)); have KU := Lib.hid (same4_iff.2 (rfl : u = u))
  clear hu he0 hul h hV hE hK p1e p2e p3e p4e p5e p6e
  go_enter Try.func3, Try.ntmps3
  go_upto_region 3 with fail
  clear hd
  go_upto_region 4 with (first
    | (go_at_call 6; refine (r5parse b0 A0 c0 _ w.heap.size (h0.below q0) q0.size (by omega)).mono ?_; rintro e w1 ⟨P1, p1, P1', p1', rfl, mo, md⟩; rw [← HU.out] at mo md; rw [← HU.out, ← H0.out])
    | ((with_reducible show wpList _ _ _ (Oper.mk _ (Op.store 25 _ _) _ _ _ _ :: _) _ _); refine v4_store_new (cs := v4a u P1 p1 P1' p1') rfl rfl rfl rfl (v4a_one _ _ _ _ _) ?_))
  have y1 := mo.below
  have at1 := At4.new (q := u) (A := P1) (c := p1) (A' := P1') (c' := p1') w1
  have ja : Below w1.heap.size w1 (w1.alloc (.cells (v4a u P1 p1 P1' p1') 25)) := (Below.refl _ w1).alloc (Nat.le_refl _) _
  have ra1 := ((made_arg mo).below ja).rd.more ja.size
  have rd1 := ((made_arg md).below ja).rd.more ja.size
  have ga1 := ((made_arg mo).below ja).more ja.size
  have gd1 := ((made_arg md).below ja).more ja.size
  have zn1 : w1.heap.size < (w1.alloc (.cells (v4a u P1 p1 P1' p1') 25)).heap.size := by simp
  have x1 := y1.trans (ja.mono y1.size)
  have q1 := q0.trans (x1.mono q0.size)
  clear mo md ja y1
  generalize w1.alloc (.cells (v4a u P1 p1 P1' p1') 25) = X1 at *
  have z1 := zn1
  by_cases hx : e0 = 0
  rotate_left
  · have dx : (e0 != 0) = true := by simpa using hx
    go_wp2_with (go_at_call 5; refine (awakeC_any _).mono ?_; rintro e w20 ⟨rfl, y20⟩)
    go_ret
    exact ⟨rfl, q1.trans (y20.mono q1.size)⟩
  have dx : (e0 != 0) = false := by simpa using hx
  clear hx
  have gb1 := ga1
  have gc1 := gd1
  have c1 : Below X1.heap.size X1 X1 := Below.refl _ _
  go_upto_region 7 with (first
    | ((with_reducible show wpList _ _ _ (Oper.mk _ (Op.load 25 _) _ _ _ _ :: _) _ _); refine wpList_valw (by rfl) (run_load_v4 rfl rfl at1 rfl) ?_)
    | (go_at_call 7; refine (c12pk u P1 p1 P1' p1' _ ho hl X1.heap.size ga1 gd1 (Nat.le_refl _) a1).mono ?_; rintro e w2 ⟨P2, p2, P2', p2', rfl, mo, md⟩; rw [← HK.out] at mo md; rw [← HK.out])
    | ((with_reducible show wpList _ _ _ (Oper.mk _ (Op.store 25 _ _) _ _ _ _ :: _) _ _); refine v4_store_new (cs := v4a Kq P2 p2 P2' p2') rfl rfl rfl rfl (v4a_one _ _ _ _ _) ?_))
  have y2 := mo.below
  have hq2 := World.alloc_heap_new w2 (.cells (v4a Kq P2 p2 P2' p2') 25)
  have at2 := At4.of_heap hq2
  have ja : Below w2.heap.size w2 (w2.alloc (.cells (v4a Kq P2 p2 P2' p2') 25)) := (Below.refl _ w2).alloc (Nat.le_refl _) _
  have ra2 := ((made_arg mo).below ja).rd.more ja.size
  have rd2 := ((made_arg md).below ja).rd.more ja.size
  have ga2 := ((made_arg mo).below ja).more ja.size
  have gd2 := ((made_arg md).below ja).more ja.size
  have zn2 : w2.heap.size < (w2.alloc (.cells (v4a Kq P2 p2 P2' p2') 25)).heap.size := by simp
  have x2 := y2.trans (ja.mono y2.size)
  have q2 := q1.trans (x2.mono q1.size)
  have zz2 := y2.size
  have gb2 := made_arg mo
  have c2 := ja
  have c1 := c1.trans (x2.mono c1.size)
  clear mo md ja y2
  generalize w2.alloc (.cells (v4a Kq P2 p2 P2' p2') 25) = X2 at *
  have at1 := at1.below x2 z1
  have ra1 := (ra1.below x2).more x2.size
  have rd1 := (rd1.below x2).more x2.size
  have z1 := Nat.lt_of_lt_of_le z1 x2.size
  have z2 := zn2
  have ga1 := (ga1.below x2).more x2.size
  have gd1 := (gd1.below x2).more x2.size
  have z12 : w1.heap.size < w2.heap.size := by omega
  have q1s := q1.size
  go_upto_region 8 with (first
    | ((with_reducible show wpList _ _ _ (Oper.mk _ (Op.load 25 _) _ _ _ _ :: _) _ _); refine wpList_valw (by rfl) (run_load_v4 rfl rfl at1 rfl) ?_)
    | (go_at_call 8; refine (cOf u P1 p1 P1' p1' _ ho hl X2.heap.size gd1 (Nat.le_refl _)).mono ?_; rintro e w3 ⟨rfl, y3⟩; rw [HV.out, ← HE.out])
    | ((with_reducible show wpList _ _ _ (Oper.mk _ (Op.store 31 _ _) _ _ _ _ :: _) _ _); refine pr_store_new (cs := prA k a b) rfl rfl rfl rfl (prA_one _ _ _) ?_))
  have ja : Below w3.heap.size w3 (w3.alloc (.cells (prA k a b) 31)) := (Below.refl _ w3).alloc (Nat.le_refl _) _
  have kk3 : (w3.alloc (.cells (prA k a b) 31)).rangeAt w3.heap.size 0 [.int .i64 k, .int .i64 a, .int .i64 b] := range_new w3 (prA k a b) _
  have x3 := y3.trans (ja.mono y3.size)
  have q3 := q2.trans (x3.mono q2.size)
  clear ja y3
  have zn3 : w3.heap.size < (w3.alloc (.cells (prA k a b) 31)).heap.size := by simp
  generalize w3.alloc (.cells (prA k a b) 31) = X3 at *
  have at1 := at1.below x3 z1
  have ra1 := (ra1.below x3).more x3.size
  have rd1 := (rd1.below x3).more x3.size
  have z1 := Nat.lt_of_lt_of_le z1 x3.size
  have at2 := at2.below x3 z2
  have ra2 := (ra2.below x3).more x3.size
  have rd2 := (rd2.below x3).more x3.size
  have z2 := Nat.lt_of_lt_of_le z2 x3.size
  have z3 := zn3
  have ga1 := (ga1.below x3).more x3.size
  have gd1 := (gd1.below x3).more x3.size
  have ga2 := (ga2.below x3).more x3.size
  have gd2 := (gd2.below x3).more x3.size
  have hq2 := (x3.block w2.heap.size zn2).trans hq2
  have c1 := c1.trans (x3.mono c1.size)
  have c2 := c2.trans (x3.mono c2.size)
  go_upto_region 9 with (first
    | ((with_reducible show wpList _ _ _ (Oper.mk _ (Op.load 25 _) _ _ _ _ :: _) _ _); refine wpList_valw (by rfl) (run_load_v4 rfl rfl at2 rfl) ?_)
    | (go_at_call 8; refine (cOf Kq P2 p2 P2' p2' _ hoK hlK X3.heap.size gd2 (Nat.le_refl _)).mono ?_; rintro e w4 ⟨rfl, y4⟩; rw [HVK.out, ← HEK.out])
    | ((with_reducible show wpList _ _ _ (Oper.mk _ (Op.store 31 _ _) _ _ _ _ :: _) _ _); refine pr_store_new (cs := prA k a b) rfl rfl rfl rfl (prA_one _ _ _) ?_))
  have ja : Below w4.heap.size w4 (w4.alloc (.cells (prA k a b) 31)) := (Below.refl _ w4).alloc (Nat.le_refl _) _
  have kk4 : (w4.alloc (.cells (prA k a b) 31)).rangeAt w4.heap.size 0 [.int .i64 k, .int .i64 a, .int .i64 b] := range_new w4 (prA k a b) _
  have x4 := y4.trans (ja.mono y4.size)
  have q4 := q3.trans (x4.mono q3.size)
  clear ja y4
  have zn4 : w4.heap.size < (w4.alloc (.cells (prA k a b) 31)).heap.size := by simp
  generalize w4.alloc (.cells (prA k a b) 31) = X4 at *
  have at1 := at1.below x4 z1
  have ra1 := (ra1.below x4).more x4.size
  have rd1 := (rd1.below x4).more x4.size
  have z1 := Nat.lt_of_lt_of_le z1 x4.size
  have at2 := at2.below x4 z2
  have ra2 := (ra2.below x4).more x4.size
  have rd2 := (rd2.below x4).more x4.size
  have z2 := Nat.lt_of_lt_of_le z2 x4.size
  have kk3 := range_below kk3 z3 x4
  have z3 := Nat.lt_of_lt_of_le z3 x4.size
  have z4 := zn4
  have ga1 := (ga1.below x4).more x4.size
  have gd1 := (gd1.below x4).more x4.size
  have ga2 := (ga2.below x4).more x4.size
  have gd2 := (gd2.below x4).more x4.size
  have hq2 := (x4.block w2.heap.size (by have := x3.size; omega)).trans hq2
  have c1 := c1.trans (x4.mono c1.size)
  have c2 := c2.trans (x4.mono c2.size)
  clear x1 x2 x3 x4 zn1 zn2 zn3 zn4 q0 q1 q2 q3
  refine wp_region_held_drew (S := fun w' => Below X4.heap.size X4 w') (by kernel_rfl) (Below.refl _ X4).drew (fun hS => ?_)
  refine held_pure (i := 0) (oi := ⟨some 37, _, _, _, _, _⟩) rfl (by kernel_rfl) (by kernel_rfl) (by kernel_rfl) (fun _ _ _ h => h) (by rfl) (v := ?_) (fun w hSw => ?_) hS (fun hS => ?_)
  rotate_left
  · go_simp; try with_reducible rfl
  try go_frame
  refine held_pure (i := 1) (oi := ⟨some 38, _, _, _, _, _⟩) rfl (by kernel_rfl) (by kernel_rfl) (by kernel_rfl) (fun _ _ _ h => h) (by rfl) (v := ?_) (fun w hSw => ?_) hS (fun hS => ?_)
  rotate_left
  · go_simp; try with_reducible rfl
  try go_frame
  refine held_pure (i := 2) (oi := ⟨some 39, _, _, _, _, _⟩) rfl (by kernel_rfl) (by kernel_rfl) (by kernel_rfl) (fun _ _ _ h => h) (by rfl) (v := ?_) (fun w hSw => ?_) hS (fun hS => ?_)
  rotate_left
  · go_simp; try with_reducible rfl
  try go_frame
  refine held_pure (i := 3) (oi := ⟨some 40, _, _, _, _, _⟩) rfl (by kernel_rfl) (by kernel_rfl) (by kernel_rfl) (fun _ _ _ h => h) (by rfl) (v := ?_) (fun w hSw => ?_) hS (fun hS => ?_)
  rotate_left
  · go_simp; try with_reducible rfl
  try go_frame
  refine held_pure (i := 4) (oi := ⟨some 41, _, _, _, _, _⟩) rfl (by kernel_rfl) (by kernel_rfl) (by kernel_rfl) (fun _ _ _ h => h) (by rfl) (fun w hSw => run_load_pr rfl rfl (range_below kk3 z3 hSw) rfl) hS (fun hS => ?_)
  try go_frame
  refine held_pure (i := 5) (oi := ⟨some 42, _, _, _, _, _⟩) rfl (by kernel_rfl) (by kernel_rfl) (by kernel_rfl) (fun _ _ _ h => h) (by rfl) (fun w hSw => run_load_pr rfl rfl (range_below kk4 z4 hSw) rfl) hS (fun hS => ?_)
  try go_frame
  refine held_pure (i := 6) (oi := ⟨some 43, _, _, _, _, _⟩) rfl (by kernel_rfl) (by kernel_rfl) (by kernel_rfl) (fun _ _ _ h => h) (by rfl) (v := .bool false) (fun w hSw => by go_simp) hS (fun hS => ?_)
  try go_frame
  refine held_pure (i := 7) (oi := ⟨some 44, _, _, _, _, _⟩) rfl (by kernel_rfl) (by kernel_rfl) (by kernel_rfl) (fun _ _ _ h => h) (by rfl) (v := ?_) (fun w hSw => ?_) hS (fun hS => ?_)
  rotate_left
  · go_simp; try with_reducible rfl
  try go_frame
  refine held_pure (i := 8) (oi := ⟨some 45, _, _, _, _, _⟩) rfl (by kernel_rfl) (by kernel_rfl) (by kernel_rfl) (fun _ _ _ h => h) (by rfl) (v := ?_) (fun w hSw => ?_) hS (fun hS => ?_)
  rotate_left
  · go_simp; try with_reducible rfl
  try go_frame
  refine held_pure (i := 9) (oi := ⟨some 46, _, _, _, _, _⟩) rfl (by kernel_rfl) (by kernel_rfl) (by kernel_rfl) (fun _ _ _ h => h) (by rfl) (v := ?_) (fun w hSw => ?_) hS (fun hS => ?_)
  rotate_left
  · go_simp; try with_reducible rfl
  try go_frame
  refine held_pure (i := 10) (oi := ⟨some 47, _, _, _, _, _⟩) rfl (by kernel_rfl) (by kernel_rfl) (by kernel_rfl) (fun _ _ _ h => h) (by rfl) (fun w hSw => run_load_sl rfl rfl ((at2.below hSw z2).dat)) hS (fun hS => ?_)
  try go_frame
  refine held_pure (i := 11) (oi := ⟨some 48, _, _, _, _, _⟩) rfl (by kernel_rfl) (by kernel_rfl) (by kernel_rfl) (fun _ _ _ h => h) (by rfl) (v := ?_) (fun w hSw => ?_) hS (fun hS => ?_)
  rotate_left
  · go_simp; try with_reducible rfl
  try go_frame
  refine held_pure (i := 12) (oi := ⟨some 49, _, _, _, _, _⟩) rfl (by kernel_rfl) (by kernel_rfl) (by kernel_rfl) (fun _ _ _ h => h) (by rfl) (v := ?_) (fun w hSw => ?_) hS (fun hS => ?_)
  rotate_left
  · go_simp; try with_reducible rfl
  try go_frame
  refine held_pure (i := 13) (oi := ⟨some 50, _, _, _, _, _⟩) rfl (by kernel_rfl) (by kernel_rfl) (by kernel_rfl) (fun _ _ _ h => h) (by rfl) (fun w hSw => run_load_sl rfl rfl ((at1.below hSw z1).dat)) hS (fun hS => ?_)
  try go_frame
  refine held_pure (i := 14) (oi := ⟨some 51, _, _, _, _, _⟩) rfl (by kernel_rfl) (by kernel_rfl) (by kernel_rfl) (fun _ _ _ h => h) (by rfl) (v := ?_) (fun w hSw => ?_) hS (fun hS => ?_)
  rotate_left
  · go_simp; try with_reducible rfl
  try go_frame
  refine held_pure (i := 15) (oi := ⟨some 52, _, _, _, _, _⟩) rfl (by kernel_rfl) (by kernel_rfl) (by kernel_rfl) (fun _ _ _ h => h) (by rfl) (v := ?_) (fun w hSw => ?_) hS (fun hS => ?_)
  rotate_left
  · go_simp; try with_reducible rfl
  try go_frame
  refine held_pure (i := 16) (oi := ⟨some 53, _, _, _, _, _⟩) rfl (by kernel_rfl) (by kernel_rfl) (by kernel_rfl) (fun _ _ _ h => h) (by rfl) (v := ?_) (fun w hSw => ?_) hS (fun hS => ?_)
  rotate_left
  · go_simp; try with_reducible rfl
  try go_frame
  refine held_pure (i := 17) (oi := ⟨some 54, _, _, _, _, _⟩) rfl (by kernel_rfl) (by kernel_rfl) (by kernel_rfl) (fun _ _ _ h => h) (by rfl) (v := ?_) (fun w hSw => ?_) hS (fun hS => ?_)
  rotate_left
  · go_simp; try with_reducible rfl
  try go_frame
  refine held_pure (i := 18) (oi := ⟨some 55, _, _, _, _, _⟩) rfl (by kernel_rfl) (by kernel_rfl) (by kernel_rfl) (fun _ _ _ h => h) (by rfl) (fun w hSw => run_load_v4 rfl rfl (at2.below hSw z2) rfl) hS (fun hS => ?_)
  try go_frame
  refine held_pure (i := 19) (oi := ⟨some 56, _, _, _, _, _⟩) rfl (by kernel_rfl) (by kernel_rfl) (by kernel_rfl) (fun _ _ _ h => h) (by rfl) (v := ?_) (fun w hSw => ?_) hS (fun hS => ?_)
  rotate_left
  · go_simp; try with_reducible rfl
  try go_frame
  refine held_pure (i := 21) (oi := ⟨some 58, _, _, _, _, _⟩) rfl (by kernel_rfl) (by kernel_rfl) (by kernel_rfl) (fun _ _ _ h => h) (by rfl) (fun w hSw => run_load_v4 rfl rfl (at2.below hSw z2) rfl) hS (fun hS => ?_)
  try go_frame
  refine wpAnyH_ready (rs := [20]) (by kernel_rfl) (by simp) (AllReadyH.cons (o := ⟨some 57, _, _, _, _, _⟩) rfl (fun K hK => ?_) AllReadyH.nil)
  rw [if_pos (by rfl)]
  go_simp
  refine (c12pk Kq P2 p2 P2' p2' _ hoK hlK X4.heap.size (ga2.below hS) (gd2.below hS) hS.size a1).mono ?_
  rintro e u9 ⟨P9, p9, P9', p9', rfl, mo, md⟩
  rw [HPK.out] at mo md
  rw [HPK.out]
  have x9 := mo.below
  have go9 := made_arg mo
  have gd9 := made_arg md
  show K _ _
  refine hK.out _ _ (below_step hS x9) (fun hS => ?_)
  clear hK K
  try go_frame
  refine wpAnyH_ready (rs := [22]) (by kernel_rfl) (by simp) (AllReadyH.cons (o := ⟨some 59, _, _, _, _, _⟩) rfl (fun K hK => ?_) AllReadyH.nil)
  rw [if_pos (by rfl)]
  go_simp
  refine (r5same Kq Kq P9 p9 P9' p9' P2 p2 P2' p2' u9.heap.size _ (Nat.le_refl _) go9.rd gd9.rd ((ra2.below hS).more hS.size) ((rd2.below hS).more hS.size)).mono ?_
  rintro e u10 ⟨rfl, x10⟩
  rw [KK.out]
  show K _ _
  refine hK.out _ _ (below_step hS x10) (fun hS => ?_)
  clear hK K
  try go_frame
  refine held_pure (i := 23) (oi := ⟨some 60, _, _, _, _, _⟩) rfl (by kernel_rfl) (by kernel_rfl) (by kernel_rfl) (fun _ _ _ h => h) (by rfl) (v := ?_) (fun w hSw => ?_) hS (fun hS => ?_)
  rotate_left
  · go_simp; try with_reducible rfl
  try go_frame
  refine held_pure (i := 24) (oi := ⟨some 61, _, _, _, _, _⟩) rfl (by kernel_rfl) (by kernel_rfl) (by kernel_rfl) (fun _ _ _ h => h) (by rfl) (v := ?_) (fun w hSw => ?_) hS (fun hS => ?_)
  rotate_left
  · go_simp; try with_reducible rfl
  try go_frame
  refine wpAnyH_done (by kernel_rfl) ?_ _
  have kx := (at1.below hS z1).dat
  have hqS := (hS.block w2.heap.size z2).trans hq2
  have ky := (At4.of_heap hqS).dat
  have fy := heap_frozen hqS 10
  go_upto_region 12 with fail
  have hq9 : (u10.setCell ⟨w2.heap.size, 10, none⟩ (.slice P1' u.dat.length p1')).heap[w2.heap.size]? = some (.cells (v4a (datP Kq u.dat) P2 p2 P1' p1') 25 (0, 0)) := heap_setCell_same u10 w2.heap.size 10 _ _ (.slice P1' u.dat.length p1') hqS
  rw [HRK.out] at hq9
  have hq9b := At4.of_heap hq9
  have at9 := (at1.below hS z1).setCell (p := ⟨w2.heap.size, 10, none⟩) (by show w2.heap.size ≠ w1.heap.size; omega) (.slice P1' u.dat.length p1')
  have c1 := (c1.trans (hS.mono c1.size)).setCell (p := ⟨w2.heap.size, 10, none⟩) (by show X1.heap.size ≤ w2.heap.size; omega) (.slice P1' u.dat.length p1')
  have c2 := (c2.trans (hS.mono c2.size)).setCell (p := ⟨w2.heap.size, 10, none⟩) (Nat.le_refl _) (.slice P1' u.dat.length p1')
  have q9 := (q4.trans (hS.mono q4.size)).setCell (p := ⟨w2.heap.size, 10, none⟩) (by show w.heap.size ≤ w2.heap.size; have := q1s; omega) (.slice P1' u.dat.length p1')
  have rb1 := ((gb1.below c1).more c1.size).rd
  have rc1 := ((gc1.below c1).more c1.size).rd
  have rb2 := ((gb2.below c2).more c2.size).rd
  rw [HOK.out] at rb2
  clear kx ky fy hqS hq9 hq2 at2 hS x9 x10 go9 gd9
  generalize u10.setCell ⟨w2.heap.size, 10, none⟩ (.slice P1' u.dat.length p1') = X9 at *
  go_wp2_with (first
    | ((with_reducible show wpList _ _ _ (Oper.mk (some 65) (Op.load 25 _) _ _ _ _ :: _) _ _); refine wpList_valw (by rfl) (run_load_v4 rfl rfl at9 rfl) ?_)
    | ((with_reducible show wpList _ _ _ (Oper.mk (some 66) (Op.load 25 _) _ _ _ _ :: _) _ _); refine wpList_valw (by rfl) (run_load_v4 rfl rfl hq9b rfl) ?_)
    | (go_at_call 9; refine (r5same u u P1 p1 P1' p1' P2 p2 P1' p1' X9.heap.size _ (Nat.le_refl _) rb1 rc1 rb2 rc1).mono ?_; rintro e w11 ⟨rfl, x11⟩; rw [KU.out])
    | (go_at_call 5; refine (awakeC_any _).mono ?_; rintro e w20 ⟨rfl, y20⟩))
  go_ret
  have q11 := q9.trans (x11.mono q9.size)
  exact ⟨rfl, q11.trans (y20.mono q11.size)⟩

/-! ### The row's step -/
set_option maxRecDepth 100000 in
theorem lifted (os : Os) (started : os.Started) (H : Type) (enc : TypeId × Value → H) :
    ReturnsInHanded {} Try.checked os 3 .any (Rows.clampTwiceSpec.pre6 enc Try.prog Try.f3 Rows.clampTwiceRow.domain false) (Rows.clampTwiceSpec.post enc Try.prog Try.f3 false true false false) := by
  refine returnsInHanded_of_change (C := Try.checked) own started (by kernel_rfl) Try.func3
    (ChangeSpec.witness6 (enc := enc) (C := Try.checked) false ⟨#[], #[.slice none 0 0, .int .i64 0], []⟩ 8 (by kernel_rfl) (by kernel_rfl) (by kernel_rfl) (by kernel_rfl)) ?_
  intro W base args ds gs before hval0 hW hcnd _
  have hval : ∀ (j : Nat) t v, Try.f3.params[j]? = some t → args[j]? = some v → Value.okWide Try.prog W .any base t v := hval0
  have hW' := hW
  obtain ⟨p, q, hA0, hV, rfl, hfz, hnd⟩ := hW
  have hA : DataW.TrodAll enc Try.prog W 0 (fun _ => true) true Try.f3.params.toList args.toList ds p := hA0
  rw [Try.params3] at hA hval
  obtain ⟨v0, vs0, d0, ds0, p0, q0, hargs, rfl, rfl, t0, r0⟩ := trodAll_cons hA
  obtain ⟨v1, vs1, d1, ds1, p1, q1, rfl, rfl, rfl, t1, r1⟩ := trodAll_cons r0
  obtain ⟨rfl, rfl, rfl⟩ := trodAll_nil r1
  obtain rfl : args = #[v0, v1] := by cases args; simp_all
  obtain ⟨rfl, rfl⟩ := trodVars_none hV
  have k0 := t0
  have lt0 := Trod_lt t0
  have k1 := t1
  have lt1 := Trod_lt t1
  obtain ⟨A0, c0, b0, rfl, h0, m0⟩ := get_bytes Try.underlying22 Try.underlying5 (by kernel_rfl) (hval 0 22 v0 rfl rfl) t0
  obtain ⟨a1, rfl, w1⟩ := get_int Try.underlying3 (hval 1 3 v1 rfl rfl) t1
  clear hA0 hval0
  refine (walk A0 c0 b0 a1 W h0 m0 w1).mono fun e W' ⟨he, bel⟩ => ?_
  subst he
  exact ⟨_, rfl, _, _, _, [], _, [], hW', trodAll_mk1 (shut_bool Try.underlying4 _), (trodAll_cons_mk (Below.trod laidOut (by kernel_rfl) (of_decide_eq_true (by kernel_rfl)) k0 bel lt0) (trodAll_cons_mk (Below.trod laidOut (by kernel_rfl) (of_decide_eq_true (by kernel_rfl)) k1 bel lt1) trodAll_mk0)), rfl, bel.frame _, fun h => by cases h⟩

theorem over : Rows.clampTwiceRow.holds Try.pinned (OpenSpec.ofChange Rows.clampTwiceSpec) :=
  OpenClaim.holds_of_wide 3 Try.f3 rfl rfl rfl rfl rfl rfl rfl ⟨rfl, rfl, rfl, rfl, rfl⟩ rfl rfl rfl rfl rfl (by kernel_rfl) Try.func3 (by kernel_rfl)
    (of_decide_eq_true (by kernel_rfl)) (by unfold Func.isWrapper; first | (rw [if_pos (by decide +kernel)]; kernel_rfl) | (rw [if_neg (by decide +kernel)]; exact ⟨rfl, rfl⟩))
    (fun os started H enc _ => lifted os started H enc)

theorem proved : Rows.ClampTwiceSaid := over
end Go.Proofs.Ytodlfdnegcfhcaa.clampTwice
