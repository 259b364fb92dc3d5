/-
  For every packet of IPv4, every address and port, goosepondlaw11.PortsTell answers true: its ports, and the packet from, or to, any other endpoint, are what the document says, or refused.
  Conditions: none but the statement's own.
-/
import Derived.Test.YtodlfdnegcfhcaaGreatRows
import Derived.WalkKit
import Derived.ProofKit
import Derived.OpenShut
import Derived.ChangeOld
import Derived.Below
import Derived.Test.YtodlfdnegcfhcaaGreatMa1
import Derived.Test.YtodlfdnegcfhcaaGreatMe3
namespace Go.Proofs.YtodlfdnegcfhcaaGreat.portsTell
open Go.ChangeShapes Go.WideShapes Go.ChangeAt Go.RowKit
set_option linter.unusedVariables false
attribute [local go_sem] Oper.semAt_some

theorem own : ownKnob Tryz.prog.godebug = none := by kernel_rfl
theorem laidOut : laidOutB Tryz.prog = true := by kernel_rfl

/-! ### The walk -/
set_option maxRecDepth 100000 in
set_option maxHeartbeats 4000000 in
theorem walk (x0 : P4) (A0 : Option Addr) (c0 : Nat) (A0' : Option Addr) (c0' : Nat) (a1 : Int) (a2 : Int) (w : World) (h0 : Arg w w.heap.size A0 c0 x0.opt) (h0' : Arg w w.heap.size A0' c0' x0.dat) (m0 : c0 ≤ maxLen) (m0' : c0' ≤ maxLen) (w0 : x0.fits) (w1 : (Lit.int .i64 a1).wf = true) (w2 : (Lit.int .i64 a2).wf = true) :
    Calls Tryz.prog 3 #[v4v x0 A0 c0 A0' c0', .int .i64 a1, .int .i64 a2] w fun e w' => e = .returned (.bool true) ∧ Below w.heap.size w w' := by
  have q0 : Below w.heap.size w (w.alloc (.cells (v4a x0 A0 c0 A0' c0') 24)) := (Below.refl _ w).alloc (Nat.le_refl _) _
  have at0 := At4.new (q := x0) (A := A0) (c := c0) (A' := A0') (c' := c0') w
  have z0 : w.heap.size < (w.alloc (.cells (v4a x0 A0 c0 A0' c0') 24)).heap.size := by simp
  obtain ⟨k, a, b, hV⟩ := ofV_is x0
  obtain ⟨E, hE⟩ : ∃ y, y = ofE x0 := ⟨_, rfl⟩
  obtain ⟨M, hM⟩ : ∃ y, y = mayE x0 a1 a2 := ⟨_, rfl⟩
  obtain ⟨G, hG⟩ : ∃ y, y = flg x0 := ⟨_, rfl⟩
  obtain ⟨F, hF⟩ : ∃ y, y = frV x0 a1 a2 := ⟨_, rfl⟩
  obtain ⟨T, hT⟩ : ∃ y, y = toV x0 a1 a2 := ⟨_, rfl⟩
  have HV := Lib.hid hV; have HE := Lib.hid hE; have HM := Lib.hid hM; have HG := Lib.hid hG; have HF := Lib.hid hF; have HT := Lib.hid hT
  have KF := Lib.hid (same4_iff.2 (rfl : F = F)); have KT := Lib.hid (same4_iff.2 (rfl : T = T))
  clear hV hE hM hG hF hT
  rw [v4q_eq]
  go_enter Tryz.func3, Tryz.ntmps3
  go_upto_region 1 with fail
  generalize w.alloc (.cells (v4a x0 A0 c0 A0' c0') 24) = X0 at *
  rcases hf : (decide (3000 < x0.dat.length) || decide (200 < x0.opt.length)) with _ | _
  rotate_left
  · have HF0 := Lib.hid hf
    clear hf
    go_wp2_with (first
      | ((with_reducible show wpList _ _ _ (Oper.mk _ (Op.load 24 _) _ _ _ _ :: _) _ _); refine wpList_valw (by rfl) (run_load_v4 rfl rfl at0 rfl) ?_)
      | (go_at_call 7; refine (farP_any x0 A0 c0 A0' c0' _).mono ?_; rintro e w1 ⟨rfl, y1⟩; rw [HF0.out])
      | (go_at_call 8; refine (awakeP_any _).mono ?_; rintro e w20 ⟨rfl, y20⟩))
    go_ret
    exact ⟨rfl, q0.trans ((y1.trans (y20.mono y1.size)).mono q0.size)⟩
  have HF0 := Lib.hid hf
  have hl : x0.dat.length ≤ 900000 := by simp at hf; omega
  have ho : x0.opt.length ≤ 1000000 := by simp at hf; omega
  clear hf
  go_upto_region 3 with (first
    | ((with_reducible show wpList _ _ _ (Oper.mk _ (Op.load 24 _) _ _ _ _ :: _) _ _); refine wpList_valw (by rfl) (run_load_v4 rfl rfl at0 rfl) ?_)
    | (go_at_call 7; refine (farP_any x0 A0 c0 A0' c0' _).mono ?_; rintro e X1 ⟨rfl, x1⟩; rw [HF0.out]))
  have q1 := q0.trans (x1.mono q0.size)
  have at0 := at0.below x1 z0
  have z0 := Nat.lt_of_lt_of_le z0 x1.size
  go_upto_region 4 with (first
    | ((with_reducible show wpList _ _ _ (Oper.mk _ (Op.load 24 _) _ _ _ _ :: _) _ _); refine wpList_valw (by rfl) (run_load_v4 rfl rfl at0 rfl) ?_)
    | (go_at_call 9; refine (cOf x0 A0 c0 A0' c0' _ ho hl w.heap.size (h0'.below q1) q1.size).mono ?_; rintro e w2 ⟨rfl, y2⟩; rw [HV.out, ← HE.out])
    | ((with_reducible show wpList _ _ _ (Oper.mk _ (Op.store 28 _ _) _ _ _ _ :: _) _ _); refine pr_store_new (cs := prA k a b) rfl rfl rfl rfl (prA_one _ _ _) ?_))
  have ja : Below w2.heap.size w2 (w2.alloc (.cells (prA k a b) 28)) := (Below.refl _ w2).alloc (Nat.le_refl _) _
  have kk2 : (w2.alloc (.cells (prA k a b) 28)).rangeAt w2.heap.size 0 [.int .i64 k, .int .i64 a, .int .i64 b] := range_new w2 (prA k a b) _
  have x2 := y2.trans (ja.mono y2.size)
  have q2 := q1.trans (x2.mono q1.size)
  clear ja y2
  have zn2 : w2.heap.size < (w2.alloc (.cells (prA k a b) 28)).heap.size := by simp
  generalize w2.alloc (.cells (prA k a b) 28) = X2 at *
  have at0 := at0.below x2 z0
  have z0 := Nat.lt_of_lt_of_le z0 x2.size
  have z2 := zn2
  go_upto_region 5 with (first
    | ((with_reducible show wpList _ _ _ (Oper.mk _ (Op.load 24 _) _ _ _ _ :: _) _ _); refine wpList_valw (by rfl) (run_load_v4 rfl rfl at0 rfl) ?_)
    | (go_at_call 10; refine (r11of x0 A0 c0 A0' c0' _ ho hl w.heap.size (h0'.below q2) q2.size).mono ?_; rintro e w3 ⟨rfl, y3⟩; rw [HV.out, ← HE.out])
    | ((with_reducible show wpList _ _ _ (Oper.mk _ (Op.store 28 _ _) _ _ _ _ :: _) _ _); refine pr_store_new (cs := prA k a b) rfl rfl rfl rfl (prA_one _ _ _) ?_))
  have ja : Below w3.heap.size w3 (w3.alloc (.cells (prA k a b) 28)) := (Below.refl _ w3).alloc (Nat.le_refl _) _
  have kk3 : (w3.alloc (.cells (prA k a b) 28)).rangeAt w3.heap.size 0 [.int .i64 k, .int .i64 a, .int .i64 b] := range_new w3 (prA k a b) _
  have x3 := y3.trans (ja.mono y3.size)
  have q3 := q2.trans (x3.mono q2.size)
  clear ja y3
  have zn3 : w3.heap.size < (w3.alloc (.cells (prA k a b) 28)).heap.size := by simp
  generalize w3.alloc (.cells (prA k a b) 28) = X3 at *
  have at0 := at0.below x3 z0
  have z0 := Nat.lt_of_lt_of_le z0 x3.size
  have kk2 := range_below kk2 z2 x3
  have z2 := Nat.lt_of_lt_of_le z2 x3.size
  have z3 := zn3
  go_upto_region 6 with (first
    | ((with_reducible show wpList _ _ _ (Oper.mk _ (Op.load 24 _) _ _ _ _ :: _) _ _); refine wpList_valw (by rfl) (run_load_v4 rfl rfl at0 rfl) ?_)
    | (go_at_call 11; refine (cFrom x0 A0 c0 A0' c0' _ ho hl w.heap.size (h0.below q3) (h0'.below q3) q3.size a1 a2).mono ?_; rintro e w4 ⟨P4, p4, P4', p4', rfl, mo, md⟩; rw [← HF.out] at mo md; rw [← HF.out, ← HM.out])
    | ((with_reducible show wpList _ _ _ (Oper.mk _ (Op.store 24 _ _) _ _ _ _ :: _) _ _); refine v4_store_new (cs := v4a F P4 p4 P4' p4') rfl rfl rfl rfl (v4a_one _ _ _ _ _) ?_))
  have y4 := mo.below
  have at4 := At4.new (q := F) (A := P4) (c := p4) (A' := P4') (c' := p4') w4
  have ja : Below w4.heap.size w4 (w4.alloc (.cells (v4a F P4 p4 P4' p4') 24)) := (Below.refl _ w4).alloc (Nat.le_refl _) _
  have ra4 := ((made_arg mo).below ja).rd.more ja.size
  have rd4 := ((made_arg md).below ja).rd.more ja.size
  have ga4 := ((made_arg mo).below ja).more ja.size
  have gd4 := ((made_arg md).below ja).more ja.size
  have zn4 : w4.heap.size < (w4.alloc (.cells (v4a F P4 p4 P4' p4') 24)).heap.size := by simp
  have x4 := y4.trans (ja.mono y4.size)
  have q4 := q3.trans (x4.mono q3.size)
  clear mo md ja y4
  generalize w4.alloc (.cells (v4a F P4 p4 P4' p4') 24) = X4 at *
  have at0 := at0.below x4 z0
  have z0 := Nat.lt_of_lt_of_le z0 x4.size
  have kk2 := range_below kk2 z2 x4
  have z2 := Nat.lt_of_lt_of_le z2 x4.size
  have kk3 := range_below kk3 z3 x4
  have z3 := Nat.lt_of_lt_of_le z3 x4.size
  have z4 := zn4
  go_upto_region 7 with (first
    | ((with_reducible show wpList _ _ _ (Oper.mk _ (Op.load 24 _) _ _ _ _ :: _) _ _); refine wpList_valw (by rfl) (run_load_v4 rfl rfl at0 rfl) ?_)
    | (go_at_call 12; refine (r11From x0 A0 c0 A0' c0' _ ho hl w.heap.size (h0.below q4) (h0'.below q4) q4.size a1 a2).mono ?_; rintro e w5 ⟨P5, p5, P5', p5', rfl, mo, md⟩; rw [← HF.out] at mo md; rw [← HF.out, ← HM.out])
    | ((with_reducible show wpList _ _ _ (Oper.mk _ (Op.store 24 _ _) _ _ _ _ :: _) _ _); refine v4_store_new (cs := v4a F P5 p5 P5' p5') rfl rfl rfl rfl (v4a_one _ _ _ _ _) ?_))
  have y5 := mo.below
  have at5 := At4.new (q := F) (A := P5) (c := p5) (A' := P5') (c' := p5') w5
  have ja : Below w5.heap.size w5 (w5.alloc (.cells (v4a F P5 p5 P5' p5') 24)) := (Below.refl _ w5).alloc (Nat.le_refl _) _
  have ra5 := ((made_arg mo).below ja).rd.more ja.size
  have rd5 := ((made_arg md).below ja).rd.more ja.size
  have ga5 := ((made_arg mo).below ja).more ja.size
  have gd5 := ((made_arg md).below ja).more ja.size
  have zn5 : w5.heap.size < (w5.alloc (.cells (v4a F P5 p5 P5' p5') 24)).heap.size := by simp
  have x5 := y5.trans (ja.mono y5.size)
  have q5 := q4.trans (x5.mono q4.size)
  clear mo md ja y5
  generalize w5.alloc (.cells (v4a F P5 p5 P5' p5') 24) = X5 at *
  have at0 := at0.below x5 z0
  have z0 := Nat.lt_of_lt_of_le z0 x5.size
  have kk2 := range_below kk2 z2 x5
  have z2 := Nat.lt_of_lt_of_le z2 x5.size
  have kk3 := range_below kk3 z3 x5
  have z3 := Nat.lt_of_lt_of_le z3 x5.size
  have at4 := at4.below x5 z4
  have ra4 := (ra4.below x5).more x5.size
  have rd4 := (rd4.below x5).more x5.size
  have z4 := Nat.lt_of_lt_of_le z4 x5.size
  have z5 := zn5
  go_upto_region 8 with (first
    | ((with_reducible show wpList _ _ _ (Oper.mk _ (Op.load 24 _) _ _ _ _ :: _) _ _); refine wpList_valw (by rfl) (run_load_v4 rfl rfl at0 rfl) ?_)
    | (go_at_call 13; refine (cTo x0 A0 c0 A0' c0' _ ho hl w.heap.size (h0.below q5) (h0'.below q5) q5.size a1 a2).mono ?_; rintro e w6 ⟨P6, p6, P6', p6', rfl, mo, md⟩; rw [← HT.out] at mo md; rw [← HT.out, ← HM.out])
    | ((with_reducible show wpList _ _ _ (Oper.mk _ (Op.store 24 _ _) _ _ _ _ :: _) _ _); refine v4_store_new (cs := v4a T P6 p6 P6' p6') rfl rfl rfl rfl (v4a_one _ _ _ _ _) ?_))
  have y6 := mo.below
  have at6 := At4.new (q := T) (A := P6) (c := p6) (A' := P6') (c' := p6') w6
  have ja : Below w6.heap.size w6 (w6.alloc (.cells (v4a T P6 p6 P6' p6') 24)) := (Below.refl _ w6).alloc (Nat.le_refl _) _
  have ra6 := ((made_arg mo).below ja).rd.more ja.size
  have rd6 := ((made_arg md).below ja).rd.more ja.size
  have ga6 := ((made_arg mo).below ja).more ja.size
  have gd6 := ((made_arg md).below ja).more ja.size
  have zn6 : w6.heap.size < (w6.alloc (.cells (v4a T P6 p6 P6' p6') 24)).heap.size := by simp
  have x6 := y6.trans (ja.mono y6.size)
  have q6 := q5.trans (x6.mono q5.size)
  clear mo md ja y6
  generalize w6.alloc (.cells (v4a T P6 p6 P6' p6') 24) = X6 at *
  have at0 := at0.below x6 z0
  have z0 := Nat.lt_of_lt_of_le z0 x6.size
  have kk2 := range_below kk2 z2 x6
  have z2 := Nat.lt_of_lt_of_le z2 x6.size
  have kk3 := range_below kk3 z3 x6
  have z3 := Nat.lt_of_lt_of_le z3 x6.size
  have at4 := at4.below x6 z4
  have ra4 := (ra4.below x6).more x6.size
  have rd4 := (rd4.below x6).more x6.size
  have z4 := Nat.lt_of_lt_of_le z4 x6.size
  have at5 := at5.below x6 z5
  have ra5 := (ra5.below x6).more x6.size
  have rd5 := (rd5.below x6).more x6.size
  have z5 := Nat.lt_of_lt_of_le z5 x6.size
  have z6 := zn6
  go_upto_region 9 with (first
    | ((with_reducible show wpList _ _ _ (Oper.mk _ (Op.load 24 _) _ _ _ _ :: _) _ _); refine wpList_valw (by rfl) (run_load_v4 rfl rfl at0 rfl) ?_)
    | (go_at_call 14; refine (r11To x0 A0 c0 A0' c0' _ ho hl w.heap.size (h0.below q6) (h0'.below q6) q6.size a1 a2).mono ?_; rintro e w7 ⟨P7, p7, P7', p7', rfl, mo, md⟩; rw [← HT.out] at mo md; rw [← HT.out, ← HM.out])
    | ((with_reducible show wpList _ _ _ (Oper.mk _ (Op.store 24 _ _) _ _ _ _ :: _) _ _); refine v4_store_new (cs := v4a T P7 p7 P7' p7') rfl rfl rfl rfl (v4a_one _ _ _ _ _) ?_))
  have y7 := mo.below
  have at7 := At4.new (q := T) (A := P7) (c := p7) (A' := P7') (c' := p7') w7
  have ja : Below w7.heap.size w7 (w7.alloc (.cells (v4a T P7 p7 P7' p7') 24)) := (Below.refl _ w7).alloc (Nat.le_refl _) _
  have ra7 := ((made_arg mo).below ja).rd.more ja.size
  have rd7 := ((made_arg md).below ja).rd.more ja.size
  have ga7 := ((made_arg mo).below ja).more ja.size
  have gd7 := ((made_arg md).below ja).more ja.size
  have zn7 : w7.heap.size < (w7.alloc (.cells (v4a T P7 p7 P7' p7') 24)).heap.size := by simp
  have x7 := y7.trans (ja.mono y7.size)
  have q7 := q6.trans (x7.mono q6.size)
  clear mo md ja y7
  generalize w7.alloc (.cells (v4a T P7 p7 P7' p7') 24) = X7 at *
  have at0 := at0.below x7 z0
  have z0 := Nat.lt_of_lt_of_le z0 x7.size
  have kk2 := range_below kk2 z2 x7
  have z2 := Nat.lt_of_lt_of_le z2 x7.size
  have kk3 := range_below kk3 z3 x7
  have z3 := Nat.lt_of_lt_of_le z3 x7.size
  have at4 := at4.below x7 z4
  have ra4 := (ra4.below x7).more x7.size
  have rd4 := (rd4.below x7).more x7.size
  have z4 := Nat.lt_of_lt_of_le z4 x7.size
  have at5 := at5.below x7 z5
  have ra5 := (ra5.below x7).more x7.size
  have rd5 := (rd5.below x7).more x7.size
  have z5 := Nat.lt_of_lt_of_le z5 x7.size
  have at6 := at6.below x7 z6
  have ra6 := (ra6.below x7).more x7.size
  have rd6 := (rd6.below x7).more x7.size
  have z6 := Nat.lt_of_lt_of_le z6 x7.size
  have z7 := zn7
  clear ga4 gd4 ga5 gd5 ga6 gd6 ga7 gd7 x1 x2 x3 x4 x5 x6 x7 zn2 zn3 zn4 zn5 zn6 zn7 q0 q1 q2 q3 q4 q5 q6 HV HE HM HF HT
  refine wp_region_held_drew (S := fun w' => Below X7.heap.size X7 w') (by kernel_rfl) (Below.refl _ X7).drew (fun hS => ?_)
  refine held_pure (i := 0) (oi := ⟨some 60, _, _, _, _, _⟩) rfl (by kernel_rfl) (by kernel_rfl) (by kernel_rfl) (fun _ _ _ h => h) (by rfl) (fun w hSw => run_load_pr rfl rfl (range_below kk2 z2 hSw) rfl) hS (fun hS => ?_)
  try go_frame
  refine held_pure (i := 1) (oi := ⟨some 61, _, _, _, _, _⟩) rfl (by kernel_rfl) (by kernel_rfl) (by kernel_rfl) (fun _ _ _ h => h) (by rfl) (fun w hSw => run_load_pr rfl rfl (range_below kk3 z3 hSw) rfl) hS (fun hS => ?_)
  try go_frame
  refine held_pure (i := 2) (oi := ⟨some 62, _, _, _, _, _⟩) rfl (by kernel_rfl) (by kernel_rfl) (by kernel_rfl) (fun _ _ _ h => h) (by rfl) (v := .bool true) (fun w hSw => by go_simp) hS (fun hS => ?_)
  try go_frame
  refine held_pure (i := 3) (oi := ⟨some 63, _, _, _, _, _⟩) rfl (by kernel_rfl) (by kernel_rfl) (by kernel_rfl) (fun _ _ _ h => h) (by rfl) (v := ?_) (fun w hSw => ?_) hS (fun hS => ?_)
  rotate_left
  · go_simp; try with_reducible rfl
  try go_frame
  refine held_pure (i := 4) (oi := ⟨some 64, _, _, _, _, _⟩) rfl (by kernel_rfl) (by kernel_rfl) (by kernel_rfl) (fun _ _ _ h => h) (by rfl) (v := ?_) (fun w hSw => ?_) hS (fun hS => ?_)
  rotate_left
  · go_simp; try with_reducible rfl
  try go_frame
  refine held_pure (i := 5) (oi := ⟨some 65, _, _, _, _, _⟩) rfl (by kernel_rfl) (by kernel_rfl) (by kernel_rfl) (fun _ _ _ h => h) (by rfl) (v := ?_) (fun w hSw => ?_) hS (fun hS => ?_)
  rotate_left
  · go_simp; try with_reducible rfl
  try go_frame
  refine held_pure (i := 6) (oi := ⟨some 66, _, _, _, _, _⟩) rfl (by kernel_rfl) (by kernel_rfl) (by kernel_rfl) (fun _ _ _ h => h) (by rfl) (v := ?_) (fun w hSw => ?_) hS (fun hS => ?_)
  rotate_left
  · go_simp; try with_reducible rfl
  try go_frame
  refine held_pure (i := 7) (oi := ⟨some 67, _, _, _, _, _⟩) rfl (by kernel_rfl) (by kernel_rfl) (by kernel_rfl) (fun _ _ _ h => h) (by rfl) (v := ?_) (fun w hSw => ?_) hS (fun hS => ?_)
  rotate_left
  · go_simp; try with_reducible rfl
  try go_frame
  refine held_pure (i := 8) (oi := ⟨some 68, _, _, _, _, _⟩) rfl (by kernel_rfl) (by kernel_rfl) (by kernel_rfl) (fun _ _ _ h => h) (by rfl) (v := ?_) (fun w hSw => ?_) hS (fun hS => ?_)
  rotate_left
  · go_simp; try with_reducible rfl
  try go_frame
  refine held_pure (i := 9) (oi := ⟨some 69, _, _, _, _, _⟩) rfl (by kernel_rfl) (by kernel_rfl) (by kernel_rfl) (fun _ _ _ h => h) (by rfl) (v := ?_) (fun w hSw => ?_) hS (fun hS => ?_)
  rotate_left
  · go_simp; try with_reducible rfl
  try go_frame
  refine held_pure (i := 10) (oi := ⟨some 70, _, _, _, _, _⟩) rfl (by kernel_rfl) (by kernel_rfl) (by kernel_rfl) (fun _ _ _ h => h) (by rfl) (v := ?_) (fun w hSw => ?_) hS (fun hS => ?_)
  rotate_left
  · go_simp; try with_reducible rfl
  try go_frame
  refine held_pure (i := 11) (oi := ⟨some 71, _, _, _, _, _⟩) rfl (by kernel_rfl) (by kernel_rfl) (by kernel_rfl) (fun _ _ _ h => h) (by rfl) (v := ?_) (fun w hSw => ?_) hS (fun hS => ?_)
  rotate_left
  · go_simp; try with_reducible rfl
  try go_frame
  refine held_pure (i := 12) (oi := ⟨some 72, _, _, _, _, _⟩) rfl (by kernel_rfl) (by kernel_rfl) (by kernel_rfl) (fun _ _ _ h => h) (by rfl) (v := ?_) (fun w hSw => ?_) hS (fun hS => ?_)
  rotate_left
  · go_simp; try with_reducible rfl
  try go_frame
  refine held_pure (i := 13) (oi := ⟨some 73, _, _, _, _, _⟩) rfl (by kernel_rfl) (by kernel_rfl) (by kernel_rfl) (fun _ _ _ h => h) (by rfl) (v := ?_) (fun w hSw => ?_) hS (fun hS => ?_)
  rotate_left
  · go_simp; try with_reducible rfl
  try go_frame
  refine held_pure (i := 14) (oi := ⟨some 74, _, _, _, _, _⟩) rfl (by kernel_rfl) (by kernel_rfl) (by kernel_rfl) (fun _ _ _ h => h) (by rfl) (v := ?_) (fun w hSw => ?_) hS (fun hS => ?_)
  rotate_left
  · go_simp; try with_reducible rfl
  try go_frame
  refine held_pure (i := 15) (oi := ⟨some 75, _, _, _, _, _⟩) rfl (by kernel_rfl) (by kernel_rfl) (by kernel_rfl) (fun _ _ _ h => h) (by rfl) (v := ?_) (fun w hSw => ?_) hS (fun hS => ?_)
  rotate_left
  · go_simp; try with_reducible rfl
  try go_frame
  refine held_pure (i := 16) (oi := ⟨some 76, _, _, _, _, _⟩) rfl (by kernel_rfl) (by kernel_rfl) (by kernel_rfl) (fun _ _ _ h => h) (by rfl) (v := ?_) (fun w hSw => ?_) hS (fun hS => ?_)
  rotate_left
  · go_simp; try with_reducible rfl
  try go_frame
  refine held_pure (i := 17) (oi := ⟨some 77, _, _, _, _, _⟩) rfl (by kernel_rfl) (by kernel_rfl) (by kernel_rfl) (fun _ _ _ h => h) (by rfl) (v := ?_) (fun w hSw => ?_) hS (fun hS => ?_)
  rotate_left
  · go_simp; try with_reducible rfl
  try go_frame
  refine held_pure (i := 18) (oi := ⟨some 78, _, _, _, _, _⟩) rfl (by kernel_rfl) (by kernel_rfl) (by kernel_rfl) (fun _ _ _ h => h) (by rfl) (v := ?_) (fun w hSw => ?_) hS (fun hS => ?_)
  rotate_left
  · go_simp; try with_reducible rfl
  try go_frame
  refine held_pure (i := 19) (oi := ⟨some 79, _, _, _, _, _⟩) rfl (by kernel_rfl) (by kernel_rfl) (by kernel_rfl) (fun _ _ _ h => h) (by rfl) (fun w hSw => run_load_v4 rfl rfl (at4.below hSw z4) rfl) hS (fun hS => ?_)
  try go_frame
  refine held_pure (i := 20) (oi := ⟨some 80, _, _, _, _, _⟩) rfl (by kernel_rfl) (by kernel_rfl) (by kernel_rfl) (fun _ _ _ h => h) (by rfl) (fun w hSw => run_load_v4 rfl rfl (at5.below hSw z5) rfl) hS (fun hS => ?_)
  try go_frame
  refine wpAnyH_ready (rs := [21]) (by kernel_rfl) (by simp) (AllReadyH.cons (o := ⟨some 81, _, _, _, _, _⟩) rfl (fun K hK => ?_) AllReadyH.nil)
  rw [if_pos (by rfl)]
  go_simp
  refine (r5same F F P4 p4 P4' p4' P5 p5 P5' p5' X7.heap.size _ hS.size (ra4.below hS) (rd4.below hS) (ra5.below hS) (rd5.below hS)).mono ?_
  rintro e u21 ⟨rfl, x21⟩
  rw [KF.out]
  show K _ _
  refine hK.out _ _ (below_step hS x21) (fun hS => ?_)
  clear hK K
  try go_frame
  refine held_pure (i := 22) (oi := ⟨some 82, _, _, _, _, _⟩) rfl (by kernel_rfl) (by kernel_rfl) (by kernel_rfl) (fun _ _ _ h => h) (by rfl) (v := ?_) (fun w hSw => ?_) hS (fun hS => ?_)
  rotate_left
  · go_simp; try with_reducible rfl
  try go_frame
  refine held_pure (i := 23) (oi := ⟨some 83, _, _, _, _, _⟩) rfl (by kernel_rfl) (by kernel_rfl) (by kernel_rfl) (fun _ _ _ h => h) (by rfl) (v := ?_) (fun w hSw => ?_) hS (fun hS => ?_)
  rotate_left
  · go_simp; try with_reducible rfl
  try go_frame
  refine held_pure (i := 24) (oi := ⟨some 84, _, _, _, _, _⟩) rfl (by kernel_rfl) (by kernel_rfl) (by kernel_rfl) (fun _ _ _ h => h) (by rfl) (fun w hSw => run_load_v4 rfl rfl (at6.below hSw z6) rfl) hS (fun hS => ?_)
  try go_frame
  refine held_pure (i := 25) (oi := ⟨some 85, _, _, _, _, _⟩) rfl (by kernel_rfl) (by kernel_rfl) (by kernel_rfl) (fun _ _ _ h => h) (by rfl) (fun w hSw => run_load_v4 rfl rfl (at7.below hSw z7) rfl) hS (fun hS => ?_)
  try go_frame
  refine wpAnyH_ready (rs := [26]) (by kernel_rfl) (by simp) (AllReadyH.cons (o := ⟨some 86, _, _, _, _, _⟩) rfl (fun K hK => ?_) AllReadyH.nil)
  rw [if_pos (by rfl)]
  go_simp
  refine (r5same T T P6 p6 P6' p6' P7 p7 P7' p7' X7.heap.size _ hS.size (ra6.below hS) (rd6.below hS) (ra7.below hS) (rd7.below hS)).mono ?_
  rintro e u26 ⟨rfl, x26⟩
  rw [KT.out]
  show K _ _
  refine hK.out _ _ (below_step hS x26) (fun hS => ?_)
  clear hK K
  try go_frame
  refine held_pure (i := 27) (oi := ⟨some 87, _, _, _, _, _⟩) rfl (by kernel_rfl) (by kernel_rfl) (by kernel_rfl) (fun _ _ _ h => h) (by rfl) (v := ?_) (fun w hSw => ?_) hS (fun hS => ?_)
  rotate_left
  · go_simp; try with_reducible rfl
  try go_frame
  refine held_pure (i := 28) (oi := ⟨some 88, _, _, _, _, _⟩) rfl (by kernel_rfl) (by kernel_rfl) (by kernel_rfl) (fun _ _ _ h => h) (by rfl) (v := ?_) (fun w hSw => ?_) hS (fun hS => ?_)
  rotate_left
  · go_simp; try with_reducible rfl
  try go_frame
  refine held_pure (i := 29) (oi := ⟨some 89, _, _, _, _, _⟩) rfl (by kernel_rfl) (by kernel_rfl) (by kernel_rfl) (fun _ _ _ h => h) (by rfl) (fun w hSw => run_load_v4 rfl rfl (at0.below hSw z0) rfl) hS (fun hS => ?_)
  try go_frame
  refine held_pure (i := 31) (oi := ⟨some 91, _, _, _, _, _⟩) rfl (by kernel_rfl) (by kernel_rfl) (by kernel_rfl) (fun _ _ _ h => h) (by rfl) (fun w hSw => run_load_v4 rfl rfl (at0.below hSw z0) rfl) hS (fun hS => ?_)
  try go_frame
  refine wpAnyH_ready (rs := [30]) (by kernel_rfl) (by simp) (AllReadyH.cons (o := ⟨some 90, _, _, _, _, _⟩) rfl (fun K hK => ?_) AllReadyH.nil)
  rw [if_pos (by rfl)]
  go_simp
  refine (cFlags x0 A0 c0 A0' c0' _ ho hl w.heap.size (h0'.below (q7.trans (hS.mono q7.size))) (q7.trans (hS.mono q7.size)).size).mono ?_
  rintro e u30 ⟨rfl, x30⟩
  rw [← HG.out]
  show K _ _
  refine hK.out _ _ (below_step hS x30) (fun hS => ?_)
  clear hK K
  try go_frame
  refine wpAnyH_ready (rs := [32]) (by kernel_rfl) (by simp) (AllReadyH.cons (o := ⟨some 92, _, _, _, _, _⟩) rfl (fun K hK => ?_) AllReadyH.nil)
  rw [if_pos (by rfl)]
  go_simp
  refine (r11flags x0 A0 c0 A0' c0' _ ho hl w.heap.size (h0'.below (q7.trans (hS.mono q7.size))) (q7.trans (hS.mono q7.size)).size).mono ?_
  rintro e u32 ⟨rfl, x32⟩
  rw [← HG.out]
  show K _ _
  refine hK.out _ _ (below_step hS x32) (fun hS => ?_)
  clear hK K
  try go_frame
  refine held_pure (i := 33) (oi := ⟨some 93, _, _, _, _, _⟩) rfl (by kernel_rfl) (by kernel_rfl) (by kernel_rfl) (fun _ _ _ h => h) (by rfl) (v := ?_) (fun w hSw => ?_) hS (fun hS => ?_)
  rotate_left
  · go_simp; try with_reducible rfl
  try go_frame
  refine held_pure (i := 34) (oi := ⟨some 94, _, _, _, _, _⟩) rfl (by kernel_rfl) (by kernel_rfl) (by kernel_rfl) (fun _ _ _ h => h) (by rfl) (v := ?_) (fun w hSw => ?_) hS (fun hS => ?_)
  rotate_left
  · go_simp; try with_reducible rfl
  try go_frame
  refine held_pure (i := 35) (oi := ⟨some 95, _, _, _, _, _⟩) rfl (by kernel_rfl) (by kernel_rfl) (by kernel_rfl) (fun _ _ _ h => h) (by rfl) (v := ?_) (fun w hSw => ?_) hS (fun hS => ?_)
  rotate_left
  · go_simp; try with_reducible rfl
  try go_frame
  refine wpAnyH_ready (rs := [36]) (by kernel_rfl) (by simp) (AllReadyH.cons (o := ⟨some 96, _, _, _, _, _⟩) rfl (fun K hK => ?_) AllReadyH.nil)
  rw [if_pos (by rfl)]
  go_simp
  refine (awakeP_any _).mono ?_
  rintro e u36 ⟨rfl, x36⟩
  show K _ _
  refine hK.out _ _ (below_step hS x36) (fun hS => ?_)
  clear hK K
  try go_frame
  refine held_pure (i := 37) (oi := ⟨some 97, _, _, _, _, _⟩) rfl (by kernel_rfl) (by kernel_rfl) (by kernel_rfl) (fun _ _ _ h => h) (by rfl) (v := ?_) (fun w hSw => ?_) hS (fun hS => ?_)
  rotate_left
  · go_simp; try with_reducible rfl
  try go_frame
  refine held_pure (i := 38) (oi := ⟨some 6, _, _, _, _, _⟩) rfl (by kernel_rfl) (by kernel_rfl) (by kernel_rfl) (fun _ _ _ h => h) (by rfl) (v := ?_) (fun w hSw => ?_) hS (fun hS => ?_)
  rotate_left
  · go_simp; try with_reducible rfl
  try go_frame
  refine wpAnyH_done (by kernel_rfl) ?_ _
  go_wp2_with fail
  go_ret
  exact ⟨rfl, q7.trans (hS.mono q7.size)⟩

/-! ### The row's step -/
set_option maxRecDepth 100000 in
theorem lifted (os : Os) (started : os.Started) (H : Type) (enc : TypeId × Value → H) :
    ReturnsInHanded {} Tryz.checked os 3 .any (Rows.portsTellSpec.pre6 enc Tryz.prog Tryz.f3 Rows.portsTellRow.domain false) (Rows.portsTellSpec.post enc Tryz.prog Tryz.f3 false true false false) := by
  refine returnsInHanded_of_change (C := Tryz.checked) own started (by kernel_rfl) Tryz.func3
    (ChangeSpec.witness6 (enc := enc) (C := Tryz.checked) false ⟨#[], #[.agg #[.int .i64 0, .int .i64 0, .int .i64 0, .int .i64 0, .int .i64 0, .int .i64 0, .int .i64 0, .bool false, .bool false, .slice none 0 0, .slice none 0 0], .int .i64 0, .int .i64 0], []⟩ 8 (by kernel_rfl) (by kernel_rfl) (by kernel_rfl) (by kernel_rfl)) ?_
  intro W base args ds gs before hval0 hW hcnd _
  have hval : ∀ (j : Nat) t v, Tryz.f3.params[j]? = some t → args[j]? = some v → Value.okWide Tryz.prog W .any base t v := hval0
  have hW' := hW
  obtain ⟨p, q, hA0, hV, rfl, hfz, hnd⟩ := hW
  have hA : DataW.TrodAll enc Tryz.prog W 0 (fun _ => true) true Tryz.f3.params.toList args.toList ds p := hA0
  rw [Tryz.params3] at hA hval
  obtain ⟨v0, vs0, d0, ds0, p0, q0, hargs, rfl, rfl, t0, r0⟩ := trodAll_cons hA
  obtain ⟨v1, vs1, d1, ds1, p1, q1, rfl, rfl, rfl, t1, r1⟩ := trodAll_cons r0
  obtain ⟨v2, vs2, d2, ds2, p2, q2, rfl, rfl, rfl, t2, r2⟩ := trodAll_cons r1
  obtain ⟨rfl, rfl, rfl⟩ := trodAll_nil r2
  obtain rfl : args = #[v0, v1, v2] := by cases args; simp_all
  obtain ⟨rfl, rfl⟩ := trodVars_none hV
  have k0 := t0
  have lt0 := Trod_lt t0
  have k1 := t1
  have lt1 := Trod_lt t1
  have k2 := t2
  have lt2 := Trod_lt t2
  obtain ⟨x0, A0, c0, A0', c0', rfl, h0, h0', m0, m0', w0⟩ := get_v4 (hval 0 24 v0 rfl rfl) t0
  obtain ⟨a1, rfl, w1⟩ := get_int Tryz.underlying3 (hval 1 3 v1 rfl rfl) t1
  obtain ⟨a2, rfl, w2⟩ := get_int Tryz.underlying3 (hval 2 3 v2 rfl rfl) t2
  clear hA0 hval0
  refine (walk x0 A0 c0 A0' c0' a1 a2 W h0 h0' m0 m0' w0 w1 w2).mono fun e W' ⟨he, bel⟩ => ?_
  subst he
  exact ⟨_, rfl, _, _, _, [], _, [], hW', trodAll_mk1 (shut_bool Tryz.underlying4 _), (trodAll_cons_mk (Below.trod laidOut (by kernel_rfl) (of_decide_eq_true (by kernel_rfl)) k0 bel lt0) (trodAll_cons_mk (Below.trod laidOut (by kernel_rfl) (of_decide_eq_true (by kernel_rfl)) k1 bel lt1) (trodAll_cons_mk (Below.trod laidOut (by kernel_rfl) (of_decide_eq_true (by kernel_rfl)) k2 bel lt2) trodAll_mk0))), rfl, bel.frame _, fun h => by cases h⟩

theorem over : Rows.portsTellRow.holds Tryz.pinned (OpenSpec.ofChange Rows.portsTellSpec) :=
  OpenClaim.holds_of_wide 3 Tryz.f3 rfl rfl rfl rfl rfl rfl rfl ⟨rfl, rfl, rfl, rfl, rfl⟩ rfl rfl rfl rfl rfl (by kernel_rfl) Tryz.func3 (by kernel_rfl)
    (of_decide_eq_true (by kernel_rfl)) (by unfold Func.isWrapper; first | (rw [if_pos (by decide +kernel)]; kernel_rfl) | (rw [if_neg (by decide +kernel)]; exact ⟨rfl, rfl⟩))
    (fun os started H enc _ => lifted os started H enc)

theorem proved : Rows.PortsTellSaid := over
end Go.Proofs.YtodlfdnegcfhcaaGreat.portsTell
