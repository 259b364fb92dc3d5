/-
  For all bytes, addresses and ports goosepondlaw26.QuoteTells answers true: the ports of any bytes that are quoted, and the bytes from, or to, any other endpoint, are what the document says, or refused. Conditions: none but the statement's own.
-/
import Derived.Test.YtkgbjohadkbjaaaRows
import Derived.WalkKit
import Derived.ProofKit
import Derived.OpenShut
import Derived.ChangeOld
import Derived.Below
import Derived.Test.YtkgbjohadkbjaaaQa2
import Derived.Test.YtkgbjohadkbjaaaQa13
namespace Go.Proofs.Ytkgbjohadkbjaaa.quoteTells
open Go.ChangeShapes Go.WideShapes Go.ChangeAt Go.RowKit
set_option linter.unusedVariables false
attribute [local go_sem] Oper.semAt_some

theorem own : ownKnob Try.prog.godebug = none := by kernel_rfl
theorem laidOut : laidOutB Try.prog = true := by kernel_rfl

/-! ### The walk -/
set_option maxRecDepth 100000 in
set_option maxHeartbeats 4000000 in
theorem walk (A0 : Option Addr) (c0 : Nat) (b0 : List UInt8) (a1 : Int) (a2 : Int) (w : World) (h0 : Arg w w.heap.size A0 c0 b0) (m0 : c0 ≤ maxLen) (w1 : (Lit.int .i64 a1).wf = true) (w2 : (Lit.int .i64 a2).wf = true) :
    Calls Try.prog 7 #[.slice A0 b0.length c0, .int .i64 a1, .int .i64 a2] w fun e w' => e = .returned (.bool true) ∧ Below w.heap.size w w' := by
  by_cases hbig : 2000 < b0.length
  · have d0 : decide (2000 < (b0.length : Int)) = true := by simp; omega
    go_enter Try.func7, Try.ntmps7
    go_wp2_with (go_at_call 22; refine (awake26 _).mono ?_; rintro e w10 ⟨rfl, b10⟩)
    go_ret
    exact ⟨rfl, b10⟩
  · have d0 : decide (2000 < (b0.length : Int)) = false := by simp; omega
    have hl : b0.length ≤ 1000000 := by omega
    clear hbig
    obtain ⟨QV, hQV⟩ : ∃ x, x = qV b0 := ⟨_, rfl⟩
    obtain ⟨QE, hQE⟩ : ∃ x, x = qE b0 := ⟨_, rfl⟩
    obtain ⟨PQ, hPQ⟩ : ∃ x : Pq, x = ⟨poP b0, poN b0 true, poN b0 false⟩ := ⟨_, rfl⟩
    have hpo : poV b0 = .agg (pqa PQ) := by rw [hPQ]; rfl
    obtain ⟨FE, hFE⟩ : ∃ x, x = frE b0 a1 a2 := ⟨_, rfl⟩
    obtain ⟨FV, hFV⟩ : ∃ x, x = frV b0 true a1 a2 := ⟨_, rfl⟩
    obtain ⟨TV, hTV⟩ : ∃ x, x = frV b0 false a1 a2 := ⟨_, rfl⟩
    have HP : Hid (∀ U, Below w.heap.size w U → Calls Try.prog 24 #[.slice A0 b0.length c0] U fun e w' => ∃ P p P' p', e = .returned (.tuple #[v4v QV P p P' p', .agg (pqa PQ), .int .i64 QE]) ∧ Made U w' (.slice P (QV).opt.length p) (QV).opt ∧ Made U w' (.slice P' (QV).dat.length p') (QV).dat) := Lib.hid (fun U hU => by
      have := cqports b0 A0 c0 w.heap.size U (h0.below hU) hU.size hl
      rw [← hQV, ← hQE, hpo] at this
      exact this)
    have HR : Hid (∀ U, Below w.heap.size w U → Calls Try.prog 25 #[.slice A0 b0.length c0] U fun e w' => ∃ P p P' p', e = .returned (.tuple #[v4v QV P p P' p', .agg (pqa PQ), .int .i64 QE]) ∧ Made U w' (.slice P (QV).opt.length p) (QV).opt ∧ Made U w' (.slice P' (QV).dat.length p') (QV).dat) := Lib.hid (fun U hU => by
      have := rqports b0 A0 c0 w.heap.size U (h0.below hU) hU.size hl
      rw [← hQV, ← hQE, hpo] at this
      exact this)
    have HF1 : Hid (∀ U, Below w.heap.size w U → Calls Try.prog 26 #[.slice A0 b0.length c0, .int .i64 a1, .int .i64 a2] U fun e w' => ∃ P p, e = .returned (.tuple #[.slice P FV.length p, .int .i64 FE]) ∧ Made U w' (.slice P FV.length p) FV) := Lib.hid (fun U hU => by
      have := cqfrom b0 A0 c0 w.heap.size a1 a2 U (h0.below hU) hU.size hl
      rw [← hFE, ← hFV] at this
      exact this)
    have HF2 : Hid (∀ U, Below w.heap.size w U → Calls Try.prog 27 #[.slice A0 b0.length c0, .int .i64 a1, .int .i64 a2] U fun e w' => ∃ P p, e = .returned (.tuple #[.slice P FV.length p, .int .i64 FE]) ∧ Made U w' (.slice P FV.length p) FV) := Lib.hid (fun U hU => by
      have := rqfrom b0 A0 c0 w.heap.size a1 a2 U (h0.below hU) hU.size hl
      rw [← hFE, ← hFV] at this
      exact this)
    have HT1 : Hid (∀ U, Below w.heap.size w U → Calls Try.prog 28 #[.slice A0 b0.length c0, .int .i64 a1, .int .i64 a2] U fun e w' => ∃ P p, e = .returned (.tuple #[.slice P TV.length p, .int .i64 FE]) ∧ Made U w' (.slice P TV.length p) TV) := Lib.hid (fun U hU => by
      have := cqto b0 A0 c0 w.heap.size a1 a2 U (h0.below hU) hU.size hl
      rw [← hFE, ← hTV] at this
      exact this)
    have HT2 : Hid (∀ U, Below w.heap.size w U → Calls Try.prog 29 #[.slice A0 b0.length c0, .int .i64 a1, .int .i64 a2] U fun e w' => ∃ P p, e = .returned (.tuple #[.slice P TV.length p, .int .i64 FE]) ∧ Made U w' (.slice P TV.length p) TV) := Lib.hid (fun U hU => by
      have := rqto b0 A0 c0 w.heap.size a1 a2 U (h0.below hU) hU.size hl
      rw [← hFE, ← hTV] at this
      exact this)
    clear hQV hQE hPQ hpo hFE hFV hTV
    go_enter Try.func7, Try.ntmps7
    go_upto_region 4 with (go_at_call 23; refine (clone_any A0 b0 c0 w.heap.size w h0 (Nat.le_refl _) (by omega)).mono ?_; rintro e w1 ⟨v1, rfl, m1⟩; obtain ⟨Po, po, rfl, go, _, hb1⟩ := made_shape m1; clear m1)
    go_upto_region 5 with (first
      | (go_at_call 24; refine (HP.out w1 hb1).mono ?_; rintro e w2 ⟨P, p, P', p', rfl, m2o, m2d⟩)
      | ((with_reducible show wpList _ _ _ (Oper.mk _ (Op.store 48 _ _) _ _ _ _ :: _) _ _); refine v4_store (g := w2.heap.size) (cs := v4a QV P p P' p') rfl rfl (two_firstQ w2 _ _) rfl rfl (v4a_one _ _ _ _ _) ?_)
      | ((with_reducible show wpList _ _ _ (Oper.mk _ (Op.store 50 _ _) _ _ _ _ :: _) _ _); refine pq_store (g := w2.heap.size + 1) (cs := pqa PQ) rfl rfl ((setRow_other _ _ _ _ (by omega)).trans (two_heap w2 _ _)) rfl rfl (pq_one _) ?_))
    obtain ⟨x2, g2a, g2b⟩ := two_boxes2 w2 #[.int .i64 0, .int .i64 0, .int .i64 0, .int .i64 0, .int .i64 0, .int .i64 0, .int .i64 0, .bool false, .bool false, .slice none 0 0, .slice none 0 0] #[.int .i64 0, .int .i64 0, .int .i64 0] (v4a QV P p P' p') (pqa PQ) 48 50
    generalize (((w2.alloc (.cells #[.int .i64 0, .int .i64 0, .int .i64 0, .int .i64 0, .int .i64 0, .int .i64 0, .int .i64 0, .bool false, .bool false, .slice none 0 0, .slice none 0 0] 48)).alloc (.cells #[.int .i64 0, .int .i64 0, .int .i64 0] 50)).setRow w2.heap.size (v4a QV P p P' p')).setRow (w2.heap.size + 1) (pqa PQ) = V2 at *
    have hb2 := hb1.trans ((m2o.below.trans (x2.mono m2o.below.size)).mono hb1.size)
    obtain ⟨_, _, e2a, ro2, _, _⟩ := made_shape m2o
    cases e2a
    obtain ⟨_, _, e2b, rd2, _, _⟩ := made_shape m2d
    cases e2b
    have ro2 := (ro2.below x2).more x2.size
    have rd2 := (rd2.below x2).more x2.size
    have go := (go.below (m2o.below.trans (x2.mono m2o.below.size))).more (Nat.le_trans m2o.below.size x2.size)
    clear m2d
    go_upto_region 6 with (first
      | (go_at_call 25; refine (HR.out V2 hb2).mono ?_; rintro e w3 ⟨R, r, R', r', rfl, m3o, m3d⟩)
      | ((with_reducible show wpList _ _ _ (Oper.mk _ (Op.store 48 _ _) _ _ _ _ :: _) _ _); refine v4_store (g := w3.heap.size) (cs := v4a QV R r R' r') rfl rfl (two_firstQ w3 _ _) rfl rfl (v4a_one _ _ _ _ _) ?_)
      | ((with_reducible show wpList _ _ _ (Oper.mk _ (Op.store 50 _ _) _ _ _ _ :: _) _ _); refine pq_store (g := w3.heap.size + 1) (cs := pqa PQ) rfl rfl ((setRow_other _ _ _ _ (by omega)).trans (two_heap w3 _ _)) rfl rfl (pq_one _) ?_))
    obtain ⟨x3, g3a, g3b⟩ := two_boxes2 w3 #[.int .i64 0, .int .i64 0, .int .i64 0, .int .i64 0, .int .i64 0, .int .i64 0, .int .i64 0, .bool false, .bool false, .slice none 0 0, .slice none 0 0] #[.int .i64 0, .int .i64 0, .int .i64 0] (v4a QV R r R' r') (pqa PQ) 48 50
    generalize (((w3.alloc (.cells #[.int .i64 0, .int .i64 0, .int .i64 0, .int .i64 0, .int .i64 0, .int .i64 0, .int .i64 0, .bool false, .bool false, .slice none 0 0, .slice none 0 0] 48)).alloc (.cells #[.int .i64 0, .int .i64 0, .int .i64 0] 50)).setRow w3.heap.size (v4a QV R r R' r')).setRow (w3.heap.size + 1) (pqa PQ) = V3 at *
    have y3 : Below V2.heap.size V2 V3 := m3o.below.trans (x3.mono m3o.below.size)
    have hb3 := hb2.trans (y3.mono hb2.size)
    obtain ⟨_, _, e3a, ro3, _, _⟩ := made_shape m3o
    cases e3a
    obtain ⟨_, _, e3b, rd3, _, _⟩ := made_shape m3d
    cases e3b
    have ro3 := (ro3.below x3).more x3.size
    have rd3 := (rd3.below x3).more x3.size
    have ro2 := (ro2.below y3).more y3.size
    have rd2 := (rd2.below y3).more y3.size
    have go := (go.below y3).more y3.size
    have at2 := (At4.ofh g2a).below y3 (heap_lt g2a)
    have ap2 := (Atpq.of_heap g2b).below y3 (heap_lt g2b)
    have at3 := At4.ofh g3a
    have ap3 := Atpq.of_heap g3b
    have l2a := Nat.lt_of_lt_of_le (heap_lt g2a) y3.size
    have l2b := Nat.lt_of_lt_of_le (heap_lt g2b) y3.size
    have l3a := heap_lt g3a
    have l3b := heap_lt g3b
    clear m3d m2o m3o x2 x3 g2a g2b g3a g3b
    go_upto_region 10 with (first
      | (go_at_call 26; refine (HF1.out V3 hb3).mono ?_; rintro e w4 ⟨P4, p4, rfl, m4⟩; obtain ⟨_, _, e4, g4, _, x4⟩ := made_shape m4; cases e4; clear m4; have hb4 := hb3.trans (x4.mono hb3.size))
      | (go_at_call 27; refine (HF2.out w4 hb4).mono ?_; rintro e w5 ⟨P5, p5, rfl, m5⟩; obtain ⟨_, _, e5, g5, _, x5⟩ := made_shape m5; cases e5; clear m5; have hb5 := hb4.trans (x5.mono hb4.size))
      | (go_at_call 28; refine (HT1.out w5 hb5).mono ?_; rintro e w6 ⟨P6, p6, rfl, m6⟩; obtain ⟨_, _, e6, g6, _, x6⟩ := made_shape m6; cases e6; clear m6; have hb6 := hb5.trans (x6.mono hb5.size))
      | (go_at_call 29; refine (HT2.out w6 hb6).mono ?_; rintro e w7 ⟨P7, p7, rfl, m7⟩; obtain ⟨_, _, e7, g7, _, x7⟩ := made_shape m7; cases e7; clear m7; have hb7 := hb6.trans (x7.mono hb6.size)))
    have z4 := x4.size
    have z5 := x5.size
    have z6 := x6.size
    have z7 := x7.size
    have y7 : Below V3.heap.size V3 w7 := x4.trans ((x5.trans ((x6.trans (x7.mono z6)).mono z5)).mono z4)
    have y47 : Below w4.heap.size w4 w7 := x5.trans ((x6.trans (x7.mono z6)).mono z5)
    have y57 : Below w5.heap.size w5 w7 := x6.trans (x7.mono z6)
    have z37 := y7.size
    have at2 := at2.below y7 l2a
    have ap2 := ap2.below y7 l2b
    have at3 := at3.below y7 l3a
    have ap3 := ap3.below y7 l3b
    have HSAM := Lib.hid (r5same_arr QV QV P p P' p' R r R' r' V3.heap.size w7 z37 (ro2.rd.below y7) (rd2.rd.below y7) (ro3.rd.below y7) (rd3.rd.below y7))
    have HS4 := Lib.hid (same4_iff.2 (rfl : QV = QV))
    go_wp2_with (first
      | ((with_reducible show wpList _ _ _ (Oper.mk (some 72) (Op.load 50 _) _ _ _ _ :: _) _ _); refine wpList_valw (by rfl) (run_load_pq rfl rfl ap2 rfl) ?_)
      | ((with_reducible show wpList _ _ _ (Oper.mk (some 73) (Op.load 50 _) _ _ _ _ :: _) _ _); refine wpList_valw (by rfl) (run_load_pq rfl rfl ap3 rfl) ?_)
      | ((with_reducible show wpList _ _ _ (Oper.mk (some 74) _ _ _ _ _ :: _) _ _); refine wpList_valw (by rfl) (run_eqlP PQ PQ _ rfl rfl rfl) ?_; rw [sameP_self])
      | ((with_reducible show wpList _ _ _ (Oper.mk (some 77) (Op.load 48 _) _ _ _ _ :: _) _ _); refine wpList_valw (by rfl) (run_load_v4 rfl rfl at2 rfl) ?_)
      | ((with_reducible show wpList _ _ _ (Oper.mk (some 78) (Op.load 48 _) _ _ _ _ :: _) _ _); refine wpList_valw (by rfl) (run_load_v4 rfl rfl at3 rfl) ?_)
      | (go_at_call 30; refine HSAM.out.mono ?_; rintro e w8 ⟨rfl, x8⟩; rw [HS4.out]; have EQ1 := Lib.hid (equal_same P4 P5 FV p4 p5 w4.heap.size w5.heap.size w8 ((g4.rd.below y47).below (x8.mono (by omega))) ((g5.rd.below y57).below (x8.mono (by omega)))); have EQ2 := Lib.hid (equal_same P6 P7 TV p6 p7 w6.heap.size w7.heap.size w8 ((g6.rd.below x7).below (x8.mono (by omega))) (g7.rd.below x8)); have EQ3 := Lib.hid (equal_same A0 Po b0 c0 po w.heap.size V3.heap.size w8 (h0.rd.below (hb7.trans (x8.mono (by have := hb7.size; omega)))) ((go.rd.below y7).below (x8.mono (by omega)))))
      | (go_at_call 31; with_reducible refine EQ1.out.mono ?_; rintro e U ⟨rfl, rfl⟩)
      | (go_at_call 31; with_reducible refine EQ2.out.mono ?_; rintro e U ⟨rfl, rfl⟩)
      | (go_at_call 31; with_reducible refine EQ3.out.mono ?_; rintro e U ⟨rfl, rfl⟩)
      | (go_at_call 22; refine (awake26 _).mono ?_; rintro e w9 ⟨rfl, x9⟩))
    go_ret
    exact ⟨rfl, (hb7.trans (x8.mono hb7.size)).trans (x9.mono (Nat.le_trans hb7.size x8.size))⟩

/-! ### The row's step -/
set_option maxRecDepth 100000 in
theorem lifted (os : Os) (started : os.Started) (H : Type) (enc : TypeId × Value → H) :
    ReturnsInHanded {} Try.checked os 7 .any (Rows.quoteTellsSpec.pre6 enc Try.prog Try.f7 Rows.quoteTellsRow.domain false) (Rows.quoteTellsSpec.post enc Try.prog Try.f7 false true false false) := by
  refine returnsInHanded_of_change (C := Try.checked) own started (by kernel_rfl) Try.func7
    (ChangeSpec.witness6 (enc := enc) (C := Try.checked) false ⟨#[], #[.slice none 0 0, .int .i64 0, .int .i64 0], []⟩ 8 (by kernel_rfl) (by kernel_rfl) (by kernel_rfl) (by kernel_rfl)) ?_
  intro W base args ds gs before hval0 hW hcnd _
  have hval : ∀ (j : Nat) t v, Try.f7.params[j]? = some t → args[j]? = some v → Value.okWide Try.prog W .any base t v := hval0
  have hW' := hW
  obtain ⟨p, q, hA0, hV, rfl, hfz, hnd⟩ := hW
  have hA : DataW.TrodAll enc Try.prog W 0 (fun _ => true) true Try.f7.params.toList args.toList ds p := hA0
  rw [Try.params7] at hA hval
  obtain ⟨v0, vs0, d0, ds0, p0, q0, hargs, rfl, rfl, t0, r0⟩ := trodAll_cons hA
  obtain ⟨v1, vs1, d1, ds1, p1, q1, rfl, rfl, rfl, t1, r1⟩ := trodAll_cons r0
  obtain ⟨v2, vs2, d2, ds2, p2, q2, rfl, rfl, rfl, t2, r2⟩ := trodAll_cons r1
  obtain ⟨rfl, rfl, rfl⟩ := trodAll_nil r2
  obtain rfl : args = #[v0, v1, v2] := by cases args; simp_all
  obtain ⟨rfl, rfl⟩ := trodVars_none hV
  have k0 := t0
  have lt0 := Trod_lt t0
  have k1 := t1
  have lt1 := Trod_lt t1
  have k2 := t2
  have lt2 := Trod_lt t2
  obtain ⟨A0, c0, b0, rfl, h0, m0⟩ := get_bytes Try.underlying45 Try.underlying5 (by kernel_rfl) (hval 0 45 v0 rfl rfl) t0
  obtain ⟨a1, rfl, w1⟩ := get_int Try.underlying3 (hval 1 3 v1 rfl rfl) t1
  obtain ⟨a2, rfl, w2⟩ := get_int Try.underlying3 (hval 2 3 v2 rfl rfl) t2
  clear hA0 hval0
  refine (walk A0 c0 b0 a1 a2 W h0 m0 w1 w2).mono fun e W' ⟨he, bel⟩ => ?_
  subst he
  exact ⟨_, rfl, _, _, _, [], _, [], hW', trodAll_mk1 (shut_bool Try.underlying4 _), (trodAll_cons_mk (Below.trod laidOut (by kernel_rfl) (of_decide_eq_true (by kernel_rfl)) k0 bel lt0) (trodAll_cons_mk (Below.trod laidOut (by kernel_rfl) (of_decide_eq_true (by kernel_rfl)) k1 bel lt1) (trodAll_cons_mk (Below.trod laidOut (by kernel_rfl) (of_decide_eq_true (by kernel_rfl)) k2 bel lt2) trodAll_mk0))), rfl, bel.frame _, fun h => by cases h⟩

theorem over : Rows.quoteTellsRow.holds Try.pinned (OpenSpec.ofChange Rows.quoteTellsSpec) :=
  OpenClaim.holds_of_wide 7 Try.f7 rfl rfl rfl rfl rfl rfl rfl ⟨rfl, rfl, rfl, rfl, rfl⟩ rfl rfl rfl rfl rfl (by kernel_rfl) Try.func7 (by kernel_rfl)
    (of_decide_eq_true (by kernel_rfl)) (by unfold Func.isWrapper; first | (rw [if_pos (by decide +kernel)]; kernel_rfl) | (rw [if_neg (by decide +kernel)]; exact ⟨rfl, rfl⟩))
    (fun os started H enc _ => lifted os started H enc)

theorem proved : Rows.QuoteTellsSaid := over
end Go.Proofs.Ytkgbjohadkbjaaa.quoteTells
