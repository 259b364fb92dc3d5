/-
  For all bytes, every address and port, goosepondlaw11.PortsTake answers true: a packet from another endpoint has its ports, and its other ones stay; a packet of which ports are told may be sent on.
  Conditions: none but the statement's own.
-/
import Derived.Test.YtodlfdnegcfhcaaGreatRows
import Derived.WalkKit
import Derived.ProofKit
import Derived.OpenShut
import Derived.ChangeOld
import Derived.Below
import Derived.Test.YtodlfdnegcfhcaaGreatMa1
import Derived.Test.YtodlfdnegcfhcaaGreatMe3
namespace Go.Proofs.YtodlfdnegcfhcaaGreat.portsTake
open Go.ChangeShapes Go.WideShapes Go.ChangeAt Go.RowKit
set_option linter.unusedVariables false
attribute [local go_sem] Oper.semAt_some

theorem own : ownKnob Tryz.prog.godebug = none := by kernel_rfl
theorem laidOut : laidOutB Tryz.prog = true := by kernel_rfl

/-! ### The walk -/
set_option maxRecDepth 100000 in
set_option maxHeartbeats 4000000 in
theorem walk (A0 : Option Addr) (c0 : Nat) (b0 : List UInt8) (a1 : Int) (a2 : Int) (w : World) (h0 : Arg w w.heap.size A0 c0 b0) (m0 : c0 ≤ maxLen) (w1 : (Lit.int .i64 a1).wf = true) (w2 : (Lit.int .i64 a2).wf = true) :
    Calls Tryz.prog 5 #[.slice A0 b0.length c0, .int .i64 a1, .int .i64 a2] w fun e w' => e = .returned (.bool true) ∧ Below w.heap.size w w' := by
  by_cases h : 3000 < b0.length
  · have hd : decide (3000 < (b0.length : Int)) = true := by simp; omega
    go_enter Tryz.func5, Tryz.ntmps5
    go_wp2_with (go_at_call 8; refine (awakeP_any _).mono ?_; rintro e w20 ⟨rfl, y20⟩)
    go_ret
    exact ⟨rfl, y20⟩
  have hd : decide (3000 < (b0.length : Int)) = false := by simp; omega
  have q0 : Below w.heap.size w w := Below.refl _ _
  obtain ⟨u, hu⟩ : ∃ q, q = prsV b0 false := ⟨_, rfl⟩
  obtain ⟨e0, he0⟩ : ∃ q, q = prsE b0 false := ⟨_, rfl⟩
  have hul := prs_len b0
  rw [← hu] at hul
  have HU := Lib.hid hu; have H0 := Lib.hid he0
  have hb3 : b0.length ≤ 3000 := by omega
  have ho : u.opt.length ≤ 1000000 := by omega
  have hl : u.dat.length ≤ 900000 := by omega
  obtain ⟨k, a, b, hV⟩ := ofV_is u
  obtain ⟨E, hE⟩ : ∃ y, y = ofE u := ⟨_, rfl⟩
  have HV := Lib.hid hV; have HE := Lib.hid hE
  clear hu he0 hul h hV hE
  go_enter Tryz.func5, Tryz.ntmps5
  go_upto_region 3 with fail
  clear hd
  go_upto_region 4 with (first
    | (go_at_call 18; refine (c4parse b0 A0 c0 _ w.heap.size (h0.below q0) q0.size (by omega)).mono ?_; rintro e w1 ⟨P1, p1, P1', p1', rfl, mo, md⟩; rw [← HU.out] at mo md; rw [← HU.out, ← H0.out])
    | ((with_reducible show wpList _ _ _ (Oper.mk _ (Op.store 24 _ _) _ _ _ _ :: _) _ _); refine v4_store_new (cs := v4a u P1 p1 P1' p1') rfl rfl rfl rfl (v4a_one _ _ _ _ _) ?_))
  have y1 := mo.below
  have at1 := At4.new (q := u) (A := P1) (c := p1) (A' := P1') (c' := p1') w1
  have ja : Below w1.heap.size w1 (w1.alloc (.cells (v4a u P1 p1 P1' p1') 24)) := (Below.refl _ w1).alloc (Nat.le_refl _) _
  have ra1 := ((made_arg mo).below ja).rd.more ja.size
  have rd1 := ((made_arg md).below ja).rd.more ja.size
  have ga1 := ((made_arg mo).below ja).more ja.size
  have gd1 := ((made_arg md).below ja).more ja.size
  have zn1 : w1.heap.size < (w1.alloc (.cells (v4a u P1 p1 P1' p1') 24)).heap.size := by simp
  have x1 := y1.trans (ja.mono y1.size)
  have q1 := q0.trans (x1.mono q0.size)
  clear mo md ja y1
  generalize w1.alloc (.cells (v4a u P1 p1 P1' p1') 24) = X1 at *
  have z1 := zn1
  go_upto_region 5 with (first
    | ((with_reducible show wpList _ _ _ (Oper.mk _ (Op.load 24 _) _ _ _ _ :: _) _ _); refine wpList_valw (by rfl) (run_load_v4 rfl rfl at1 rfl) ?_)
    | (go_at_call 9; refine (cOf u P1 p1 P1' p1' _ ho hl X1.heap.size gd1 (Nat.le_refl _)).mono ?_; rintro e w2 ⟨rfl, y2⟩; rw [HV.out, ← HE.out])
    | ((with_reducible show wpList _ _ _ (Oper.mk _ (Op.store 28 _ _) _ _ _ _ :: _) _ _); refine pr_store_new (cs := prA k a b) rfl rfl rfl rfl (prA_one _ _ _) ?_))
  have ja : Below w2.heap.size w2 (w2.alloc (.cells (prA k a b) 28)) := (Below.refl _ w2).alloc (Nat.le_refl _) _
  have kk2 : (w2.alloc (.cells (prA k a b) 28)).rangeAt w2.heap.size 0 [.int .i64 k, .int .i64 a, .int .i64 b] := range_new w2 (prA k a b) _
  have x2 := y2.trans (ja.mono y2.size)
  have q2 := q1.trans (x2.mono q1.size)
  clear ja y2
  have zn2 : w2.heap.size < (w2.alloc (.cells (prA k a b) 28)).heap.size := by simp
  generalize w2.alloc (.cells (prA k a b) 28) = X2 at *
  have at1 := at1.below x2 z1
  have ra1 := (ra1.below x2).more x2.size
  have rd1 := (rd1.below x2).more x2.size
  have z1 := Nat.lt_of_lt_of_le z1 x2.size
  have z2 := zn2
  have ga1 := (ga1.below x2).more x2.size
  have gd1 := (gd1.below x2).more x2.size
  by_cases hx : e0 = 0 ∧ E = 0
  rotate_left
  · rcases Decidable.em (e0 = 0) with hy | hy
    · have dx : (e0 != 0) = false := by simpa using hy
      have dE : (E != 0) = true := by simp; omega
      clear hx hy
      go_wp2_with (go_at_call 8; refine (awakeP_any _).mono ?_; rintro e w20 ⟨rfl, y20⟩)
      go_ret
      exact ⟨rfl, q2.trans (y20.mono q2.size)⟩
    · have dx : (e0 != 0) = true := by simpa using hy
      clear hx hy
      go_wp2_with (go_at_call 8; refine (awakeP_any _).mono ?_; rintro e w20 ⟨rfl, y20⟩)
      go_ret
      exact ⟨rfl, q2.trans (y20.mono q2.size)⟩
  have dx : (e0 != 0) = false := by simp; omega
  have dE : (E != 0) = false := by simp; omega
  have hE0 : ofE u = 0 := by rw [← HE.out]; exact hx.2
  clear hx
  obtain ⟨M, hM⟩ : ∃ y, y = mayE u a1 a2 := ⟨_, rfl⟩
  obtain ⟨F, hF⟩ : ∃ y, y = frV u a1 a2 := ⟨_, rfl⟩
  obtain ⟨T, hT⟩ : ∃ y, y = toV u a1 a2 := ⟨_, rfl⟩
  have HM := Lib.hid hM; have HF := Lib.hid hF; have HT := Lib.hid hT; have HE0 := Lib.hid hE0
  clear hM hF hT hE0
  go_upto_region 8 with (first
    | ((with_reducible show wpList _ _ _ (Oper.mk _ (Op.load 24 _) _ _ _ _ :: _) _ _); refine wpList_valw (by rfl) (run_load_v4 rfl rfl at1 rfl) ?_)
    | (go_at_call 11; refine (cFrom u P1 p1 P1' p1' _ ho hl X2.heap.size ga1 gd1 (Nat.le_refl _) a1 a2).mono ?_; rintro e w3 ⟨P3, p3, P3', p3', rfl, mo, md⟩; rw [← HF.out] at mo md; rw [← HF.out, ← HM.out])
    | ((with_reducible show wpList _ _ _ (Oper.mk _ (Op.store 24 _ _) _ _ _ _ :: _) _ _); refine v4_store_new (cs := v4a F P3 p3 P3' p3') rfl rfl rfl rfl (v4a_one _ _ _ _ _) ?_))
  have y3 := mo.below
  have at3 := At4.new (q := F) (A := P3) (c := p3) (A' := P3') (c' := p3') w3
  have ja : Below w3.heap.size w3 (w3.alloc (.cells (v4a F P3 p3 P3' p3') 24)) := (Below.refl _ w3).alloc (Nat.le_refl _) _
  have ra3 := ((made_arg mo).below ja).rd.more ja.size
  have rd3 := ((made_arg md).below ja).rd.more ja.size
  have ga3 := ((made_arg mo).below ja).more ja.size
  have gd3 := ((made_arg md).below ja).more ja.size
  have zn3 : w3.heap.size < (w3.alloc (.cells (v4a F P3 p3 P3' p3') 24)).heap.size := by simp
  have x3 := y3.trans (ja.mono y3.size)
  have q3 := q2.trans (x3.mono q2.size)
  clear mo md ja y3
  generalize w3.alloc (.cells (v4a F P3 p3 P3' p3') 24) = X3 at *
  have at1 := at1.below x3 z1
  have ra1 := (ra1.below x3).more x3.size
  have rd1 := (rd1.below x3).more x3.size
  have z1 := Nat.lt_of_lt_of_le z1 x3.size
  have kk2 := range_below kk2 z2 x3
  have z2 := Nat.lt_of_lt_of_le z2 x3.size
  have z3 := zn3
  have ga1 := (ga1.below x3).more x3.size
  have gd1 := (gd1.below x3).more x3.size
  go_upto_region 9 with (first
    | ((with_reducible show wpList _ _ _ (Oper.mk _ (Op.load 24 _) _ _ _ _ :: _) _ _); refine wpList_valw (by rfl) (run_load_v4 rfl rfl at1 rfl) ?_)
    | (go_at_call 13; refine (cTo u P1 p1 P1' p1' _ ho hl X3.heap.size ga1 gd1 (Nat.le_refl _) a1 a2).mono ?_; rintro e w4 ⟨P4, p4, P4', p4', rfl, mo, md⟩; rw [← HT.out] at mo md; rw [← HT.out, ← HM.out])
    | ((with_reducible show wpList _ _ _ (Oper.mk _ (Op.store 24 _ _) _ _ _ _ :: _) _ _); refine v4_store_new (cs := v4a T P4 p4 P4' p4') rfl rfl rfl rfl (v4a_one _ _ _ _ _) ?_))
  have y4 := mo.below
  have at4 := At4.new (q := T) (A := P4) (c := p4) (A' := P4') (c' := p4') w4
  have ja : Below w4.heap.size w4 (w4.alloc (.cells (v4a T P4 p4 P4' p4') 24)) := (Below.refl _ w4).alloc (Nat.le_refl _) _
  have ra4 := ((made_arg mo).below ja).rd.more ja.size
  have rd4 := ((made_arg md).below ja).rd.more ja.size
  have ga4 := ((made_arg mo).below ja).more ja.size
  have gd4 := ((made_arg md).below ja).more ja.size
  have zn4 : w4.heap.size < (w4.alloc (.cells (v4a T P4 p4 P4' p4') 24)).heap.size := by simp
  have x4 := y4.trans (ja.mono y4.size)
  have q4 := q3.trans (x4.mono q3.size)
  clear mo md ja y4
  generalize w4.alloc (.cells (v4a T P4 p4 P4' p4') 24) = X4 at *
  have at1 := at1.below x4 z1
  have ra1 := (ra1.below x4).more x4.size
  have rd1 := (rd1.below x4).more x4.size
  have z1 := Nat.lt_of_lt_of_le z1 x4.size
  have kk2 := range_below kk2 z2 x4
  have z2 := Nat.lt_of_lt_of_le z2 x4.size
  have at3 := at3.below x4 z3
  have ra3 := (ra3.below x4).more x4.size
  have rd3 := (rd3.below x4).more x4.size
  have z3 := Nat.lt_of_lt_of_le z3 x4.size
  have z4 := zn4
  have ga1 := (ga1.below x4).more x4.size
  have gd1 := (gd1.below x4).more x4.size
  have gd3 := (gd3.below x4).more x4.size
  by_cases hm : M = 0
  rotate_left
  · have hM1 : M = 1 := by
      have h1 := HM.out
      rw [mayE, if_neg (by rw [HE0.out]; simp)] at h1
      split at h1
      · exact absurd h1 hm
      · exact h1
    subst hM1
    go_wp2_with (go_at_call 8; refine (awakeP_any _).mono ?_; rintro e w20 ⟨rfl, y20⟩)
    go_ret
    exact ⟨rfl, q4.trans (y20.mono q4.size)⟩
  have hm0 : mayE u a1 a2 = 0 := by rw [← HM.out]; exact hm
  subst hm
  obtain ⟨f0, f1, f2, f3⟩ := fr_take hm0
  obtain ⟨t0, t1, t2, t3⟩ := to_take hm0
  have eF : F = frP u a1 a2 := by rw [HF.out, frV, if_pos hm0]
  have eT : T = toP u a1 a2 := by rw [HT.out, toV, if_pos hm0]
  have hfo : F.opt = u.opt := by rw [eF]; rfl
  have hto : T.opt = u.opt := by rw [eT]; rfl
  rw [← eF] at f0 f1 f2 f3
  rw [← eT] at t0 t1 t2 t3
  have g1 : (F.src == a1) = true := by rw [eF]; exact beq_self_eq_true _
  have g2 : (F.dst == u.dst) = true := by rw [eF]; exact beq_self_eq_true _
  have g3 : (T.dst == a1) = true := by rw [eT]; exact beq_self_eq_true _
  have g4 : (T.src == u.src) = true := by rw [eT]; exact beq_self_eq_true _
  have g5 : ((F.dat.length : Int) == (u.dat.length : Int)) = true := by rw [f3]; exact beq_self_eq_true _
  have g6 : (F.ttl == u.ttl) = true := by rw [eF]; exact beq_self_eq_true _
  have HOP := Lib.hid (show decide (F.opt = u.opt) = true by simpa using hfo)
  have hoF : F.opt.length ≤ 1000000 := by rw [hfo]; exact ho
  have hoT : T.opt.length ≤ 1000000 := by rw [hto]; exact ho
  have hlF : F.dat.length ≤ 900000 := by rw [f3]; exact hl
  have hlT : T.dat.length ≤ 900000 := by rw [t3]; exact hl
  have HF0 := Lib.hid f0; have HT0 := Lib.hid t0
  have eV : a = ptS u ∧ b = ptD u := by
    have h1 := HV.out
    rw [ofV, if_pos HE0.out] at h1
    have h2 := congrArg (fun l => l[1]?) h1
    have h3 := congrArg (fun l => l[2]?) h1
    simp [prA] at h2 h3
    exact ⟨h2.symm, h3.symm⟩
  obtain ⟨d1, hd1⟩ : ∃ y, y = ptD F := ⟨_, rfl⟩
  obtain ⟨d2, hd2⟩ : ∃ y, y = ptS T := ⟨_, rfl⟩
  have HVF := Lib.hid (show ofV F = prA F.proto a2 d1 by rw [ofV, if_pos HF0.out, f1, hd1])
  have HVT := Lib.hid (show ofV T = prA T.proto d2 a2 by rw [ofV, if_pos HT0.out, t1, hd2])
  have hpp : (u.proto != 1) = false ∨ ((u.proto != 1) = true ∧ (d1 != b) = false ∧ (d2 != a) = false) := by
    by_cases hp : u.proto = 1
    · exact .inl (by simpa using hp)
    · refine .inr ⟨by simpa using hp, ?_, ?_⟩
      · rw [hd1, f2 hp, eV.2]; simp
      · rw [hd2, t2 hp, eV.1]; simp
  clear f0 f1 f2 f3 t0 t1 t2 t3 eF eT hfo hto hm0 eV hd1 hd2
  go_upto_region 12 with (first
    | ((with_reducible show wpList _ _ _ (Oper.mk _ (Op.load 24 _) _ _ _ _ :: _) _ _); refine wpList_valw (by rfl) (run_load_v4 rfl rfl at3 rfl) ?_)
    | (go_at_call 9; refine (cOf F P3 p3 P3' p3' _ hoF hlF X4.heap.size gd3 (Nat.le_refl _)).mono ?_; rintro e w5 ⟨rfl, y5⟩; rw [HVF.out, HF0.out])
    | ((with_reducible show wpList _ _ _ (Oper.mk _ (Op.store 28 _ _) _ _ _ _ :: _) _ _); refine pr_store_new (cs := prA F.proto a2 d1) rfl rfl rfl rfl (prA_one _ _ _) ?_))
  have ja : Below w5.heap.size w5 (w5.alloc (.cells (prA F.proto a2 d1) 28)) := (Below.refl _ w5).alloc (Nat.le_refl _) _
  have kk5 : (w5.alloc (.cells (prA F.proto a2 d1) 28)).rangeAt w5.heap.size 0 [.int .i64 F.proto, .int .i64 a2, .int .i64 d1] := range_new w5 (prA F.proto a2 d1) _
  have x5 := y5.trans (ja.mono y5.size)
  have q5 := q4.trans (x5.mono q4.size)
  clear ja y5
  have zn5 : w5.heap.size < (w5.alloc (.cells (prA F.proto a2 d1) 28)).heap.size := by simp
  generalize w5.alloc (.cells (prA F.proto a2 d1) 28) = X5 at *
  have at1 := at1.below x5 z1
  have ra1 := (ra1.below x5).more x5.size
  have rd1 := (rd1.below x5).more x5.size
  have z1 := Nat.lt_of_lt_of_le z1 x5.size
  have kk2 := range_below kk2 z2 x5
  have z2 := Nat.lt_of_lt_of_le z2 x5.size
  have at3 := at3.below x5 z3
  have ra3 := (ra3.below x5).more x5.size
  have rd3 := (rd3.below x5).more x5.size
  have z3 := Nat.lt_of_lt_of_le z3 x5.size
  have at4 := at4.below x5 z4
  have ra4 := (ra4.below x5).more x5.size
  have rd4 := (rd4.below x5).more x5.size
  have z4 := Nat.lt_of_lt_of_le z4 x5.size
  have z5 := zn5
  have gd4 := (gd4.below x5).more x5.size
  go_upto_region 13 with (first
    | ((with_reducible show wpList _ _ _ (Oper.mk _ (Op.load 24 _) _ _ _ _ :: _) _ _); refine wpList_valw (by rfl) (run_load_v4 rfl rfl at4 rfl) ?_)
    | (go_at_call 9; refine (cOf T P4 p4 P4' p4' _ hoT hlT X5.heap.size gd4 (Nat.le_refl _)).mono ?_; rintro e w6 ⟨rfl, y6⟩; rw [HVT.out, HT0.out])
    | ((with_reducible show wpList _ _ _ (Oper.mk _ (Op.store 28 _ _) _ _ _ _ :: _) _ _); refine pr_store_new (cs := prA T.proto d2 a2) rfl rfl rfl rfl (prA_one _ _ _) ?_))
  have ja : Below w6.heap.size w6 (w6.alloc (.cells (prA T.proto d2 a2) 28)) := (Below.refl _ w6).alloc (Nat.le_refl _) _
  have kk6 : (w6.alloc (.cells (prA T.proto d2 a2) 28)).rangeAt w6.heap.size 0 [.int .i64 T.proto, .int .i64 d2, .int .i64 a2] := range_new w6 (prA T.proto d2 a2) _
  have x6 := y6.trans (ja.mono y6.size)
  have q6 := q5.trans (x6.mono q5.size)
  clear ja y6
  have zn6 : w6.heap.size < (w6.alloc (.cells (prA T.proto d2 a2) 28)).heap.size := by simp
  generalize w6.alloc (.cells (prA T.proto d2 a2) 28) = X6 at *
  have at1 := at1.below x6 z1
  have ra1 := (ra1.below x6).more x6.size
  have rd1 := (rd1.below x6).more x6.size
  have z1 := Nat.lt_of_lt_of_le z1 x6.size
  have kk2 := range_below kk2 z2 x6
  have z2 := Nat.lt_of_lt_of_le z2 x6.size
  have at3 := at3.below x6 z3
  have ra3 := (ra3.below x6).more x6.size
  have rd3 := (rd3.below x6).more x6.size
  have z3 := Nat.lt_of_lt_of_le z3 x6.size
  have at4 := at4.below x6 z4
  have ra4 := (ra4.below x6).more x6.size
  have rd4 := (rd4.below x6).more x6.size
  have z4 := Nat.lt_of_lt_of_le z4 x6.size
  have kk5 := range_below kk5 z5 x6
  have z5 := Nat.lt_of_lt_of_le z5 x6.size
  have z6 := zn6
  have rb1 := (ga1.below x5).more x5.size
  have rb1 := ((rb1.below x6).more x6.size).rd
  have c1 : X6.cell? ⟨w5.heap.size, 1, none⟩ = some (.int .i64 a2) := kk5 1 _ rfl
  have c2 : X6.cell? ⟨w5.heap.size, 2, none⟩ = some (.int .i64 d1) := kk5 2 _ rfl
  have c3 : X6.cell? ⟨w6.heap.size, 1, none⟩ = some (.int .i64 d2) := kk6 1 _ rfl
  have c4 : X6.cell? ⟨w6.heap.size, 2, none⟩ = some (.int .i64 a2) := kk6 2 _ rfl
  have c5 : X6.cell? ⟨w2.heap.size, 1, none⟩ = some (.int .i64 a) := kk2 1 _ rfl
  have c6 : X6.cell? ⟨w2.heap.size, 2, none⟩ = some (.int .i64 b) := kk2 2 _ rfl
  have k1 := at1.proto; have k2 := at1.src; have k3 := at1.dst; have k4 := at1.ttl; have k5 := at1.opt; have k6 := at1.dat
  have l2 := at3.src; have l3 := at3.dst; have l4 := at3.ttl; have l5 := at3.opt; have l6 := at3.dat
  have m2 := at4.src; have m3 := at4.dst
  clear kk2 kk5 kk6 x1 x2 x3 x4 x5 x6 zn1 zn2 zn3 zn4 zn5 zn6 ga1 gd1 ga3 gd3 ga4 gd4
  have hsz : X6.heap.size ≤ X6.heap.size := Nat.le_refl _
  rcases hpp with dp | ⟨dp, dd, ds⟩
  · go_wp2_with (first
      | (go_at_call 19; refine (equal_any P3 P1 F.opt u.opt p3 p1 X6.heap.size X6.heap.size _ ra3 rb1).mono ?_; rintro e w9 ⟨rfl, rfl⟩; rw [HOP.out])
      | (go_at_call 8; refine (awakeP_any _).mono ?_; rintro e w20 ⟨rfl, y20⟩))
    go_ret
    exact ⟨rfl, q6.trans (y20.mono q6.size)⟩
  · go_wp2_with (first
      | (go_at_call 19; refine (equal_any P3 P1 F.opt u.opt p3 p1 X6.heap.size X6.heap.size _ ra3 rb1).mono ?_; rintro e w9 ⟨rfl, rfl⟩; rw [HOP.out])
      | (go_at_call 8; refine (awakeP_any _).mono ?_; rintro e w20 ⟨rfl, y20⟩))
    go_ret
    exact ⟨rfl, q6.trans (y20.mono q6.size)⟩

/-! ### The row's step -/
set_option maxRecDepth 100000 in
theorem lifted (os : Os) (started : os.Started) (H : Type) (enc : TypeId × Value → H) :
    ReturnsInHanded {} Tryz.checked os 5 .any (Rows.portsTakeSpec.pre6 enc Tryz.prog Tryz.f5 Rows.portsTakeRow.domain false) (Rows.portsTakeSpec.post enc Tryz.prog Tryz.f5 false true false false) := by
  refine returnsInHanded_of_change (C := Tryz.checked) own started (by kernel_rfl) Tryz.func5
    (ChangeSpec.witness6 (enc := enc) (C := Tryz.checked) false ⟨#[], #[.slice none 0 0, .int .i64 0, .int .i64 0], []⟩ 8 (by kernel_rfl) (by kernel_rfl) (by kernel_rfl) (by kernel_rfl)) ?_
  intro W base args ds gs before hval0 hW hcnd _
  have hval : ∀ (j : Nat) t v, Tryz.f5.params[j]? = some t → args[j]? = some v → Value.okWide Tryz.prog W .any base t v := hval0
  have hW' := hW
  obtain ⟨p, q, hA0, hV, rfl, hfz, hnd⟩ := hW
  have hA : DataW.TrodAll enc Tryz.prog W 0 (fun _ => true) true Tryz.f5.params.toList args.toList ds p := hA0
  rw [Tryz.params5] at hA hval
  obtain ⟨v0, vs0, d0, ds0, p0, q0, hargs, rfl, rfl, t0, r0⟩ := trodAll_cons hA
  obtain ⟨v1, vs1, d1, ds1, p1, q1, rfl, rfl, rfl, t1, r1⟩ := trodAll_cons r0
  obtain ⟨v2, vs2, d2, ds2, p2, q2, rfl, rfl, rfl, t2, r2⟩ := trodAll_cons r1
  obtain ⟨rfl, rfl, rfl⟩ := trodAll_nil r2
  obtain rfl : args = #[v0, v1, v2] := by cases args; simp_all
  obtain ⟨rfl, rfl⟩ := trodVars_none hV
  have k0 := t0
  have lt0 := Trod_lt t0
  have k1 := t1
  have lt1 := Trod_lt t1
  have k2 := t2
  have lt2 := Trod_lt t2
  obtain ⟨A0, c0, b0, rfl, h0, m0⟩ := get_bytes Tryz.underlying22 Tryz.underlying5 (by kernel_rfl) (hval 0 22 v0 rfl rfl) t0
  obtain ⟨a1, rfl, w1⟩ := get_int Tryz.underlying3 (hval 1 3 v1 rfl rfl) t1
  obtain ⟨a2, rfl, w2⟩ := get_int Tryz.underlying3 (hval 2 3 v2 rfl rfl) t2
  clear hA0 hval0
  refine (walk A0 c0 b0 a1 a2 W h0 m0 w1 w2).mono fun e W' ⟨he, bel⟩ => ?_
  subst he
  exact ⟨_, rfl, _, _, _, [], _, [], hW', trodAll_mk1 (shut_bool Tryz.underlying4 _), (trodAll_cons_mk (Below.trod laidOut (by kernel_rfl) (of_decide_eq_true (by kernel_rfl)) k0 bel lt0) (trodAll_cons_mk (Below.trod laidOut (by kernel_rfl) (of_decide_eq_true (by kernel_rfl)) k1 bel lt1) (trodAll_cons_mk (Below.trod laidOut (by kernel_rfl) (of_decide_eq_true (by kernel_rfl)) k2 bel lt2) trodAll_mk0))), rfl, bel.frame _, fun h => by cases h⟩

theorem over : Rows.portsTakeRow.holds Tryz.pinned (OpenSpec.ofChange Rows.portsTakeSpec) :=
  OpenClaim.holds_of_wide 5 Tryz.f5 rfl rfl rfl rfl rfl rfl rfl ⟨rfl, rfl, rfl, rfl, rfl⟩ rfl rfl rfl rfl rfl (by kernel_rfl) Tryz.func5 (by kernel_rfl)
    (of_decide_eq_true (by kernel_rfl)) (by unfold Func.isWrapper; first | (rw [if_pos (by decide +kernel)]; kernel_rfl) | (rw [if_neg (by decide +kernel)]; exact ⟨rfl, rfl⟩))
    (fun os started H enc _ => lifted os started H enc)

theorem proved : Rows.PortsTakeSaid := over
end Go.Proofs.YtodlfdnegcfhcaaGreat.portsTake
