/-
  For all numbers and bytes goosepondlaw28.ErrsOnce answers true: in answer to what tells of a fault nothing is told. Conditions: none but the statement's own.
-/
import Derived.Test.YtjgcpaepaocigaaRows
import Derived.WalkKit
import Derived.ProofKit
import Derived.OpenShut
import Derived.ChangeOld
import Derived.Below
import Derived.Test.YtjgcpaepaocigaaEa2
import Derived.Test.YtjgcpaepaocigaaEa10
import Derived.Test.YtjgcpaepaocigaaEa6
namespace Go.Proofs.Ytjgcpaepaocigaa.errsOnce
open Go.ChangeShapes Go.WideShapes Go.ChangeAt Go.RowKit
set_option linter.unusedVariables false
attribute [local go_sem] Oper.semAt_some

theorem own : ownKnob Try.prog.godebug = none := by kernel_rfl
theorem laidOut : laidOutB Try.prog = true := by kernel_rfl

/-! ### The walk -/
set_option maxRecDepth 100000 in
set_option maxHeartbeats 4000000 in
theorem walk (a0 : Int) (a1 : Int) (a2 : Int) (a3 : Int) (A4 : Option Addr) (c4 : Nat) (b4 : List UInt8) (w : World) (w0 : (Lit.int .i64 a0).wf = true) (w1 : (Lit.int .i64 a1).wf = true) (w2 : (Lit.int .i64 a2).wf = true) (w3 : (Lit.int .i64 a3).wf = true) (h4 : Arg w w.heap.size A4 c4 b4) (m4 : c4 ≤ maxLen) :
    Calls Try.prog 5 #[.int .i64 a0, .int .i64 a1, .int .i64 a2, .int .i64 a3, .slice A4 b4.length c4] w fun e w' => e = .returned (.bool true) ∧ Below w.heap.size w w' := by
  by_cases hbig : 3000 < b4.length
  · have d0 : decide (3000 < (b4.length : Int)) = true := by simp; omega
    go_enter Try.func5, Try.ntmps5
    go_wp2_with (go_at_call 12; refine (awake28 _).mono ?_; rintro e w10 ⟨rfl, b10⟩)
    go_ret
    exact ⟨rfl, b10⟩
  · have d0 : decide (3000 < (b4.length : Int)) = false := by simp; omega
    have hl : b4.length ≤ 900000 := by omega
    clear hbig
    obtain ⟨F, hF⟩ : ∃ x, fltI a1 = x := ⟨_, rfl⟩
    obtain ⟨q, hq⟩ : ∃ x, x = mkV a0 a1 a2 a3 b4 := ⟨_, rfl⟩
    obtain ⟨E, hE⟩ : ∃ x, x = mkE a0 a1 a2 a3 b4 := ⟨_, rfl⟩
    have hqo : q.opt = [] := by rw [hq, mkV]; split <;> rfl
    have HF := Lib.hid hF
    have hON : E = 0 → F = true → chk4 q = 0 ∧ mayE (bld4 q) = false := fun h1 h2 => by
      rw [hq]; exact once_may (by rw [← hE]; exact h1) (by rw [hF]; exact h2)
    have hql : q.dat.length ≤ 1000 := by
      by_cases h0 : mkE a0 a1 a2 a3 b4 = 0
      · rw [hq]; exact (quote_facts h0).2.2.2.2.2.2.2.2.2.2.1
      · rw [hq, mkV, if_neg h0]; exact Nat.zero_le _
    have HC : Hid (∀ U, Below w.heap.size w U → Calls Try.prog 13 #[.int .i64 a0, .int .i64 a1, .int .i64 a2, .int .i64 a3, .slice A4 b4.length c4] U fun e w' => ∃ P' p', e = .returned (.tuple #[v4v q none 0 P' p', .int .i64 E]) ∧ Made U w' (.slice P' q.dat.length p') q.dat) := Lib.hid (fun U hU => by
      have := cEmake a0 a1 a2 a3 b4 A4 c4 w.heap.size U (h4.below hU) hU.size hl
      rw [← hq, ← hE] at this
      exact this)
    clear hq hE hF
    by_cases h0 : E = 0
    · have e0 : (E == 0) = true := by simp [h0]
      have n0 : (E != 0) = false := by simp [h0]
      cases F
      · clear hON h0
        go_enter Try.func5, Try.ntmps5
        go_upto_region 4 with (first
          | (go_at_call 13; refine (HC.out _ (Below.refl _ _)).mono ?_; rintro e w1 ⟨P1, p1, rfl, m1⟩)
          | ((with_reducible show wpList _ _ _ (Oper.mk _ (Op.store 36 _ _) _ _ _ _ :: _) _ _); refine v4_store_new (cs := v4a q none 0 P1 p1) rfl rfl rfl rfl (v4a_one _ _ _ _ _) ?_))
        have y1 : Below w.heap.size w (w1.alloc (.cells (v4a q none 0 P1 p1) 36)) := m1.below.alloc m1.below.size _
        generalize w1.alloc (.cells (v4a q none 0 P1 p1) 36) = W1 at *
        go_wp2_with (first
          | (go_at_call 18; refine (cIfault a1 _).mono ?_; rintro e w2 ⟨rfl, x2⟩; rw [HF.out]; have y2 := y1.trans (x2.mono y1.size))
          | (go_at_call 12; refine (awake28 _).mono ?_; rintro e w10 ⟨rfl, b10⟩))
        go_ret
        exact ⟨rfl, y2.trans (b10.mono y2.size)⟩
      · obtain ⟨hk, hm⟩ := hON h0 rfl
        have hb4l : (bld4 q).length ≤ 900000 := by rw [bld4_len, hqo]; show 20 + 0 + _ ≤ _; omega
        have hn11 := mk_not (a := a0) (k := 3) (c := 1) (r := 0) hm
        have hv11 : mkV a0 3 1 0 (bld4 q) = p4z := by rw [mkV, hn11]; rfl
        have HK := Lib.hid hk
        obtain ⟨BS, hBS⟩ : ∃ l, l = bld4 q := ⟨_, rfl⟩
        rw [← hBS] at hb4l hn11 hm hv11
        have HBS := Lib.hid hBS
        have HN := Lib.hid hn11
        have HV := Lib.hid hv11
        have HM := Lib.hid hm
        clear hON h0 hk hm hn11 hBS hv11
        go_enter Try.func5, Try.ntmps5
        go_upto_region 4 with (first
          | (go_at_call 13; refine (HC.out _ (Below.refl _ _)).mono ?_; rintro e w1 ⟨P1, p1, rfl, m1⟩)
          | ((with_reducible show wpList _ _ _ (Oper.mk _ (Op.store 36 _ _) _ _ _ _ :: _) _ _); refine v4_store_new (cs := v4a q none 0 P1 p1) rfl rfl rfl rfl (v4a_one _ _ _ _ _) ?_))
        have y1 : Below w.heap.size w (w1.alloc (.cells (v4a q none 0 P1 p1) 36)) := m1.below.alloc m1.below.size _
        obtain ⟨_, _, e1, g1, _, _⟩ := made_shape m1
        cases e1
        have hbox1 := World.alloc_heap_new w1 (.cells (v4a q none 0 P1 p1) 36)
        have g1 := g1.alloc (Nat.le_refl _) (.cells (v4a q none 0 P1 p1) 36)
        have z1 := heap_lt hbox1
        generalize w1.alloc (.cells (v4a q none 0 P1 p1) 36) = W1 at *
        clear m1
        go_upto_region 6 with (first
          | (go_at_call 18; refine (cIfault a1 _).mono ?_; rintro e w2 ⟨rfl, x2⟩; rw [HF.out]))
        have y2 := y1.trans (x2.mono y1.size)
        have at2 := ofhE ((x2.block _ z1).trans hbox1)
        have g2 := g1.below (x2.mono (Nat.le_of_lt z1))
        have s2 := x2.size
        go_upto_region 7 with (first
          | ((with_reducible show wpList _ _ _ (Oper.mk _ (Op.load 36 _) _ _ _ _ :: _) _ _); refine wpList_val rfl (run_load_v4 rfl rfl at2 rfl) ?_)
          | (go_at_call 19; refine (c4build q none 0 P1 p1 _ w1.heap.size (by rw [hqo]; exact Arg.nil _ _) g2 (by omega) (by rw [hqo]; exact Nat.zero_le _) (by omega)).mono ?_; rintro e w3 ⟨v3, rfl, _, m3⟩; have m3 := m3 HK.out; rw [HK.out]; rw [← HBS.out] at m3; obtain ⟨P3, p3, rfl, g3, o3, x3⟩ := made_shape m3))
        have y3 := y2.trans (x3.mono y2.size)
        go_upto_region 8 with (first
          | (go_at_call 13; refine (cEmake a0 3 1 0 BS P3 p3 w3.heap.size w3 g3 (Nat.le_refl _) (by omega)).mono ?_; rintro e w4 ⟨P4, p4, rfl, m4⟩; rw [HN.out])
          | ((with_reducible show wpList _ _ _ (Oper.mk _ (Op.store 36 _ _) _ _ _ _ :: _) _ _); refine v4_store_new (cs := v4a (mkV a0 3 1 0 BS) none 0 P4 p4) rfl (by rw [HV.out]; rfl) rfl rfl (v4a_one _ _ _ _ _) ?_))
        have x4 : Below w3.heap.size w3 (w4.alloc (.cells (v4a (mkV a0 3 1 0 BS) none 0 P4 p4) 36)) := m4.below.alloc m4.below.size _
        generalize w4.alloc (.cells (v4a (mkV a0 3 1 0 BS) none 0 P4 p4) 36) = W4 at *
        have y4 := y3.trans (x4.mono y3.size)
        have g4 := g3.below x4
        have s4 := x4.size
        go_wp2_with (first
          | (go_at_call 15; refine (cEmay BS P3 p3 w3.heap.size _ g4 s4 (by omega)).mono ?_; rintro e w5 ⟨rfl, x5⟩; rw [HM.out]; have y5 := y4.trans (x5.mono y4.size))
          | (go_at_call 12; refine (awake28 _).mono ?_; rintro e w10 ⟨rfl, b10⟩))
        go_ret
        exact ⟨rfl, y5.trans (b10.mono y5.size)⟩
    · have n0 : (E != 0) = true := by simp [h0]
      clear hON h0
      go_enter Try.func5, Try.ntmps5
      go_upto_region 4 with (first
        | (go_at_call 13; refine (HC.out _ (Below.refl _ _)).mono ?_; rintro e w1 ⟨P1, p1, rfl, m1⟩)
        | ((with_reducible show wpList _ _ _ (Oper.mk _ (Op.store 36 _ _) _ _ _ _ :: _) _ _); refine v4_store_new (cs := v4a q none 0 P1 p1) rfl rfl rfl rfl (v4a_one _ _ _ _ _) ?_))
      have y1 : Below w.heap.size w (w1.alloc (.cells (v4a q none 0 P1 p1) 36)) := m1.below.alloc m1.below.size _
      generalize w1.alloc (.cells (v4a q none 0 P1 p1) 36) = W1 at *
      go_wp2_with (first
        | (go_at_call 12; refine (awake28 _).mono ?_; rintro e w10 ⟨rfl, b10⟩))
      go_ret
      exact ⟨rfl, y1.trans (b10.mono y1.size)⟩

/-! ### The row's step -/
set_option maxRecDepth 100000 in
theorem lifted (os : Os) (started : os.Started) (H : Type) (enc : TypeId × Value → H) :
    ReturnsInHanded {} Try.checked os 5 .any (Rows.errsOnceSpec.pre6 enc Try.prog Try.f5 Rows.errsOnceRow.domain false) (Rows.errsOnceSpec.post enc Try.prog Try.f5 false true false false) := by
  refine returnsInHanded_of_change (C := Try.checked) own started (by kernel_rfl) Try.func5
    (ChangeSpec.witness6 (enc := enc) (C := Try.checked) false ⟨#[], #[.int .i64 0, .int .i64 0, .int .i64 0, .int .i64 0, .slice none 0 0], []⟩ 8 (by kernel_rfl) (by kernel_rfl) (by kernel_rfl) (by kernel_rfl)) ?_
  intro W base args ds gs before hval0 hW hcnd _
  have hval : ∀ (j : Nat) t v, Try.f5.params[j]? = some t → args[j]? = some v → Value.okWide Try.prog W .any base t v := hval0
  have hW' := hW
  obtain ⟨p, q, hA0, hV, rfl, hfz, hnd⟩ := hW
  have hA : DataW.TrodAll enc Try.prog W 0 (fun _ => true) true Try.f5.params.toList args.toList ds p := hA0
  rw [Try.params5] at hA hval
  obtain ⟨v0, vs0, d0, ds0, p0, q0, hargs, rfl, rfl, t0, r0⟩ := trodAll_cons hA
  obtain ⟨v1, vs1, d1, ds1, p1, q1, rfl, rfl, rfl, t1, r1⟩ := trodAll_cons r0
  obtain ⟨v2, vs2, d2, ds2, p2, q2, rfl, rfl, rfl, t2, r2⟩ := trodAll_cons r1
  obtain ⟨v3, vs3, d3, ds3, p3, q3, rfl, rfl, rfl, t3, r3⟩ := trodAll_cons r2
  obtain ⟨v4, vs4, d4, ds4, p4, q4, rfl, rfl, rfl, t4, r4⟩ := trodAll_cons r3
  obtain ⟨rfl, rfl, rfl⟩ := trodAll_nil r4
  obtain rfl : args = #[v0, v1, v2, v3, v4] := by cases args; simp_all
  obtain ⟨rfl, rfl⟩ := trodVars_none hV
  have k0 := t0
  have lt0 := Trod_lt t0
  have k1 := t1
  have lt1 := Trod_lt t1
  have k2 := t2
  have lt2 := Trod_lt t2
  have k3 := t3
  have lt3 := Trod_lt t3
  have k4 := t4
  have lt4 := Trod_lt t4
  obtain ⟨a0, rfl, w0⟩ := get_int Try.underlying3 (hval 0 3 v0 rfl rfl) t0
  obtain ⟨a1, rfl, w1⟩ := get_int Try.underlying3 (hval 1 3 v1 rfl rfl) t1
  obtain ⟨a2, rfl, w2⟩ := get_int Try.underlying3 (hval 2 3 v2 rfl rfl) t2
  obtain ⟨a3, rfl, w3⟩ := get_int Try.underlying3 (hval 3 3 v3 rfl rfl) t3
  obtain ⟨A4, c4, b4, rfl, h4, m4⟩ := get_bytes Try.underlying34 Try.underlying5 (by kernel_rfl) (hval 4 34 v4 rfl rfl) t4
  clear hA0 hval0
  refine (walk a0 a1 a2 a3 A4 c4 b4 W w0 w1 w2 w3 h4 m4).mono fun e W' ⟨he, bel⟩ => ?_
  subst he
  exact ⟨_, rfl, _, _, _, [], _, [], hW', trodAll_mk1 (shut_bool Try.underlying4 _), (trodAll_cons_mk (Below.trod laidOut (by kernel_rfl) (of_decide_eq_true (by kernel_rfl)) k0 bel lt0) (trodAll_cons_mk (Below.trod laidOut (by kernel_rfl) (of_decide_eq_true (by kernel_rfl)) k1 bel lt1) (trodAll_cons_mk (Below.trod laidOut (by kernel_rfl) (of_decide_eq_true (by kernel_rfl)) k2 bel lt2) (trodAll_cons_mk (Below.trod laidOut (by kernel_rfl) (of_decide_eq_true (by kernel_rfl)) k3 bel lt3) (trodAll_cons_mk (Below.trod laidOut (by kernel_rfl) (of_decide_eq_true (by kernel_rfl)) k4 bel lt4) trodAll_mk0))))), rfl, bel.frame _, fun h => by cases h⟩

theorem over : Rows.errsOnceRow.holds Try.pinned (OpenSpec.ofChange Rows.errsOnceSpec) :=
  OpenClaim.holds_of_wide 5 Try.f5 rfl rfl rfl rfl rfl rfl rfl ⟨rfl, rfl, rfl, rfl, rfl⟩ rfl rfl rfl rfl rfl (by kernel_rfl) Try.func5 (by kernel_rfl)
    (of_decide_eq_true (by kernel_rfl)) (by unfold Func.isWrapper; first | (rw [if_pos (by decide +kernel)]; kernel_rfl) | (rw [if_neg (by decide +kernel)]; exact ⟨rfl, rfl⟩))
    (fun os started H enc _ => lifted os started H enc)

theorem proved : Rows.ErrsOnceSaid := over
end Go.Proofs.Ytjgcpaepaocigaa.errsOnce
