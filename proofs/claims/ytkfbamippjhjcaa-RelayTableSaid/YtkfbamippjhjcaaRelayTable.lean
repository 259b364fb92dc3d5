/-
  For all numbers goosepondlaw30.RelayTable answers true: what becomes of any kind of message is what the document says, and no size is below 68. Conditions: none but the statement's own.
-/
import Derived.Test.YtkfbamippjhjcaaRows
import Derived.WalkKit
import Derived.ProofKit
import Derived.OpenShut
import Derived.ChangeOld
import Derived.Below
import Derived.Test.YtkfbamippjhjcaaRa2
import Derived.Test.YtkfbamippjhjcaaRa15
namespace Go.Proofs.Ytkfbamippjhjcaa.relayTable
open Go.ChangeShapes Go.WideShapes Go.ChangeAt Go.RowKit
set_option linter.unusedVariables false
attribute [local go_sem] Oper.semAt_some

theorem own : ownKnob Try.prog.godebug = none := by kernel_rfl
theorem laidOut : laidOutB Try.prog = true := by kernel_rfl

/-! ### The walk -/
set_option maxRecDepth 100000 in
set_option maxHeartbeats 4000000 in
theorem walk (a0 : Int) (a1 : Int) (a2 : Int) (w : World) (w0 : (Lit.int .i64 a0).wf = true) (w1 : (Lit.int .i64 a1).wf = true) (w2 : (Lit.int .i64 a2).wf = true) :
    Calls Try.prog 6 #[.int .i64 a0, .int .i64 a1, .int .i64 a2] w fun e w' => e = .returned (.bool true) ∧ Below w.heap.size w w' := by
  have dK : (tbK a0 == tbK a0) = true := beq_self_eq_true _
  have dC : (tbC a0 == tbC a0) = true := beq_self_eq_true _
  have dR : (tbR a0 a2 == tbR a0 a2) = true := beq_self_eq_true _
  have dB : (knB a0 == knB a0) = true := beq_self_eq_true _
  have hR : a0 = 2 → 68 ≤ tbR a0 a2 ∧ tbR a0 a2 ≤ 65535 := fun h => by rw [tbR, if_pos h]; unfold roomR; omega
  obtain ⟨K, hK⟩ : ∃ x, x = tbK a0 := ⟨_, rfl⟩
  obtain ⟨C, hC⟩ : ∃ x, x = tbC a0 := ⟨_, rfl⟩
  obtain ⟨R, hR2⟩ : ∃ x, x = tbR a0 a2 := ⟨_, rfl⟩
  obtain ⟨B, hB⟩ : ∃ x, x = knB a0 := ⟨_, rfl⟩
  rw [← hK] at dK; rw [← hC] at dC; rw [← hR2] at dR hR; rw [← hB] at dB
  have HK := Lib.hid hK
  have HC := Lib.hid hC
  have HR := Lib.hid hR2
  have HB := Lib.hid hB
  clear hK hC hR2 hB
  by_cases h2 : a0 = 2
  · obtain ⟨l1, l2⟩ := hR h2
    have n2 : (a0 != 2) = false := by simp [h2]
    have g1 : decide (R ≥ 68) = true := by simpa using l1
    have g1' : decide (68 ≤ R) = true := by simpa using l1
    have g2 : decide (R ≤ 65535) = true := by simpa using l2
    clear h2 l1 l2 hR
    go_enter Try.func6, Try.ntmps6
    go_wp2_with (first
      | (go_at_call 26; refine (cRtable a0 a1 a2 _ w2).mono ?_; rintro e w3 ⟨rfl, rfl⟩; rw [← HK.out, ← HC.out, ← HR.out, ← HB.out])
      | (go_at_call 27; refine (rRtable a0 a1 a2 _ w2).mono ?_; rintro e w4 ⟨rfl, rfl⟩; rw [← HK.out, ← HC.out, ← HR.out, ← HB.out])
      | (go_at_call 21; refine (awake30 _).mono ?_; rintro e w10 ⟨rfl, b10⟩))
    go_ret
    exact ⟨rfl, b10⟩
  · have n2 : (a0 != 2) = true := by simpa using h2
    clear h2 hR
    go_enter Try.func6, Try.ntmps6
    go_wp2_with (first
      | (go_at_call 26; refine (cRtable a0 a1 a2 _ w2).mono ?_; rintro e w3 ⟨rfl, rfl⟩; rw [← HK.out, ← HC.out, ← HR.out, ← HB.out])
      | (go_at_call 27; refine (rRtable a0 a1 a2 _ w2).mono ?_; rintro e w4 ⟨rfl, rfl⟩; rw [← HK.out, ← HC.out, ← HR.out, ← HB.out])
      | (go_at_call 21; refine (awake30 _).mono ?_; rintro e w10 ⟨rfl, b10⟩))
    go_ret
    exact ⟨rfl, b10⟩

/-! ### The row's step -/
set_option maxRecDepth 100000 in
theorem lifted (os : Os) (started : os.Started) (H : Type) (enc : TypeId × Value → H) :
    ReturnsInHanded {} Try.checked os 6 .any (Rows.relayTableSpec.pre6 enc Try.prog Try.f6 Rows.relayTableRow.domain false) (Rows.relayTableSpec.post enc Try.prog Try.f6 false true false false) := by
  refine returnsInHanded_of_change (C := Try.checked) own started (by kernel_rfl) Try.func6
    (ChangeSpec.witness6 (enc := enc) (C := Try.checked) false ⟨#[], #[.int .i64 0, .int .i64 0, .int .i64 0], []⟩ 8 (by kernel_rfl) (by kernel_rfl) (by kernel_rfl) (by kernel_rfl)) ?_
  intro W base args ds gs before hval0 hW hcnd _
  have hval : ∀ (j : Nat) t v, Try.f6.params[j]? = some t → args[j]? = some v → Value.okWide Try.prog W .any base t v := hval0
  have hW' := hW
  obtain ⟨p, q, hA0, hV, rfl, hfz, hnd⟩ := hW
  have hA : DataW.TrodAll enc Try.prog W 0 (fun _ => true) true Try.f6.params.toList args.toList ds p := hA0
  rw [Try.params6] at hA hval
  obtain ⟨v0, vs0, d0, ds0, p0, q0, hargs, rfl, rfl, t0, r0⟩ := trodAll_cons hA
  obtain ⟨v1, vs1, d1, ds1, p1, q1, rfl, rfl, rfl, t1, r1⟩ := trodAll_cons r0
  obtain ⟨v2, vs2, d2, ds2, p2, q2, rfl, rfl, rfl, t2, r2⟩ := trodAll_cons r1
  obtain ⟨rfl, rfl, rfl⟩ := trodAll_nil r2
  obtain rfl : args = #[v0, v1, v2] := by cases args; simp_all
  obtain ⟨rfl, rfl⟩ := trodVars_none hV
  have k0 := t0
  have lt0 := Trod_lt t0
  have k1 := t1
  have lt1 := Trod_lt t1
  have k2 := t2
  have lt2 := Trod_lt t2
  obtain ⟨a0, rfl, w0⟩ := get_int Try.underlying3 (hval 0 3 v0 rfl rfl) t0
  obtain ⟨a1, rfl, w1⟩ := get_int Try.underlying3 (hval 1 3 v1 rfl rfl) t1
  obtain ⟨a2, rfl, w2⟩ := get_int Try.underlying3 (hval 2 3 v2 rfl rfl) t2
  clear hA0 hval0
  refine (walk a0 a1 a2 W w0 w1 w2).mono fun e W' ⟨he, bel⟩ => ?_
  subst he
  exact ⟨_, rfl, _, _, _, [], _, [], hW', trodAll_mk1 (shut_bool Try.underlying4 _), (trodAll_cons_mk (Below.trod laidOut (by kernel_rfl) (of_decide_eq_true (by kernel_rfl)) k0 bel lt0) (trodAll_cons_mk (Below.trod laidOut (by kernel_rfl) (of_decide_eq_true (by kernel_rfl)) k1 bel lt1) (trodAll_cons_mk (Below.trod laidOut (by kernel_rfl) (of_decide_eq_true (by kernel_rfl)) k2 bel lt2) trodAll_mk0))), rfl, bel.frame _, fun h => by cases h⟩

theorem over : Rows.relayTableRow.holds Try.pinned (OpenSpec.ofChange Rows.relayTableSpec) :=
  OpenClaim.holds_of_wide 6 Try.f6 rfl rfl rfl rfl rfl rfl rfl ⟨rfl, rfl, rfl, rfl, rfl⟩ rfl rfl rfl rfl rfl (by kernel_rfl) Try.func6 (by kernel_rfl)
    (of_decide_eq_true (by kernel_rfl)) (by unfold Func.isWrapper; first | (rw [if_pos (by decide +kernel)]; kernel_rfl) | (rw [if_neg (by decide +kernel)]; exact ⟨rfl, rfl⟩))
    (fun os started H enc _ => lifted os started H enc)

theorem proved : Rows.RelayTableSaid := over
end Go.Proofs.Ytkfbamippjhjcaa.relayTable
