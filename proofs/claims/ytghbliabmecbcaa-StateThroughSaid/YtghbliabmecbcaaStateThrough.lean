/-
  For every state and every slice of flags goosepondlaw23.StateThrough answers true: the state behind any segments, from both sides in turn, is what the document says. No condition.
-/
import Derived.Test.YtghbliabmecbcaaRows
import Derived.WalkKit
import Derived.ProofKit
import Derived.OpenShut
import Derived.ChangeOld
import Derived.Below
import Derived.Test.YtghbliabmecbcaaOpen
import Derived.Test.YtghbliabmecbcaaSnD
namespace Go.Proofs.Ytghbliabmecbcaa.stateThrough
open Go.ChangeShapes Go.WideShapes Go.ChangeAt Go.RowKit
set_option linter.unusedVariables false
attribute [local go_sem] Oper.semAt_some

theorem own : ownKnob Try.prog.godebug = none := by kernel_rfl
theorem laidOut : laidOutB Try.prog = true := by kernel_rfl

/-! ### The walk -/
set_option maxRecDepth 100000 in
set_option maxHeartbeats 4000000 in
theorem walk (a0 : Int) (A1 : Option Addr) (c1 : Nat) (z1 : List Int) (w : World) (w0 : (Lit.int .i64 a0).wf = true) (h1 : RdI w w.heap.size A1 z1) (l1 : z1.length ≤ c1) (m1 : c1 ≤ maxLen) (w1 : ∀ n ∈ z1, (Lit.int .i64 n).wf = true) :
    Calls Try.prog 7 #[.int .i64 a0, .slice A1 z1.length c1] w fun e w' => e = .returned (.bool true) ∧ Below w.heap.size w w' := by
  obtain ⟨n, hn⟩ : ∃ n, n = z1.length := ⟨_, rfl⟩
  have HN := Lib.hid hn
  have HR1 := Lib.hid h1
  have hc1 : n ≤ c1 := by rw [hn]; exact l1
  rw [← hn]
  clear hn h1 l1 w1
  by_cases h300 : 300 < n
  · have d300 : decide (300 < (n : Int)) = true := by simp; omega
    go_enter Try.func7, Try.ntmps7
    go_wp2_with (go_at_call 32; refine (awake23 _).mono ?_; rintro e u1 ⟨rfl, x1⟩)
    go_ret
    exact ⟨rfl, x1⟩
  · have d300 : decide (300 < (n : Int)) = false := by simp; omega
    obtain ⟨r, hr⟩ : ∃ r, thS a0 true z1 = r := ⟨_, rfl⟩
    obtain ⟨r1, r2⟩ := r
    have HC : Hid (Calls Try.prog 33 #[.int .i64 a0, .slice A1 n c1] w fun e w' => e = .returned (.tuple #[.int .i64 r1, .bool r2]) ∧ w = w') := Lib.hid (by
      have := cthrough a0 A1 c1 n z1 w.heap.size w HR1.out HN.out (by omega)
      rw [hr] at this
      exact this)
    have HD : Hid (Calls Try.prog 34 #[.int .i64 a0, .slice A1 n c1] w fun e w' => e = .returned (.tuple #[.int .i64 r1, .bool r2]) ∧ w = w') := Lib.hid (by
      have := rthrough a0 A1 c1 n z1 w.heap.size w HR1.out HN.out (by omega)
      rw [hr] at this
      exact this)
    clear hr
    cases r2
    all_goals
      go_enter Try.func7, Try.ntmps7
      go_wp2_with (first
        | (go_at_call 33; refine (HC.out).mono ?_; rintro e u1 ⟨rfl, rfl⟩)
        | (go_at_call 34; refine (HD.out).mono ?_; rintro e u1 ⟨rfl, rfl⟩)
        | (go_at_call 32; refine (awake23 _).mono ?_; rintro e u1 ⟨rfl, x1⟩))
      go_ret
      exact ⟨rfl, x1⟩

/-! ### The row's step -/
set_option maxRecDepth 100000 in
theorem lifted (os : Os) (started : os.Started) (H : Type) (enc : TypeId × Value → H) :
    ReturnsInHanded {} Try.checked os 7 .any (Rows.stateThroughSpec.pre6 enc Try.prog Try.f7 Rows.stateThroughRow.domain false) (Rows.stateThroughSpec.post enc Try.prog Try.f7 false true false false) := by
  refine returnsInHanded_of_change (C := Try.checked) own started (by kernel_rfl) Try.func7
    (ChangeSpec.witness6 (enc := enc) (C := Try.checked) false ⟨#[], #[.int .i64 0, .slice none 0 0], []⟩ 8 (by kernel_rfl) (by kernel_rfl) (by kernel_rfl) (by kernel_rfl)) ?_
  intro W base args ds gs before hval0 hW hcnd _
  have hval : ∀ (j : Nat) t v, Try.f7.params[j]? = some t → args[j]? = some v → Value.okWide Try.prog W .any base t v := hval0
  have hW' := hW
  obtain ⟨p, q, hA0, hV, rfl, hfz, hnd⟩ := hW
  have hA : DataW.TrodAll enc Try.prog W 0 (fun _ => true) true Try.f7.params.toList args.toList ds p := hA0
  rw [Try.params7] at hA hval
  obtain ⟨v0, vs0, d0, ds0, p0, q0, hargs, rfl, rfl, t0, r0⟩ := trodAll_cons hA
  obtain ⟨v1, vs1, d1, ds1, p1, q1, rfl, rfl, rfl, t1, r1⟩ := trodAll_cons r0
  obtain ⟨rfl, rfl, rfl⟩ := trodAll_nil r1
  obtain rfl : args = #[v0, v1] := by cases args; simp_all
  obtain ⟨rfl, rfl⟩ := trodVars_none hV
  have k0 := t0
  have lt0 := Trod_lt t0
  have k1 := t1
  have lt1 := Trod_lt t1
  obtain ⟨a0, rfl, w0⟩ := get_int Try.underlying3 (hval 0 3 v0 rfl rfl) t0
  obtain ⟨A1, c1, z1, rfl, h1, l1, m1, w1⟩ := get_ints Try.underlying53 Try.underlying3 (by kernel_rfl) (hval 1 53 v1 rfl rfl) t1
  clear hA0 hval0
  refine (walk a0 A1 c1 z1 W w0 h1 l1 m1 w1).mono fun e W' ⟨he, bel⟩ => ?_
  subst he
  exact ⟨_, rfl, _, _, _, [], _, [], hW', trodAll_mk1 (shut_bool Try.underlying4 _), (trodAll_cons_mk (Below.trod laidOut (by kernel_rfl) (of_decide_eq_true (by kernel_rfl)) k0 bel lt0) (trodAll_cons_mk (Below.trod laidOut (by kernel_rfl) (of_decide_eq_true (by kernel_rfl)) k1 bel lt1) trodAll_mk0)), rfl, bel.frame _, fun h => by cases h⟩

theorem over : Rows.stateThroughRow.holds Try.pinned (OpenSpec.ofChange Rows.stateThroughSpec) :=
  OpenClaim.holds_of_wide 7 Try.f7 rfl rfl rfl rfl rfl rfl rfl ⟨rfl, rfl, rfl, rfl, rfl⟩ rfl rfl rfl rfl rfl (by kernel_rfl) Try.func7 (by kernel_rfl)
    (of_decide_eq_true (by kernel_rfl)) (by unfold Func.isWrapper; first | (rw [if_pos (by decide +kernel)]; kernel_rfl) | (rw [if_neg (by decide +kernel)]; exact ⟨rfl, rfl⟩))
    (fun os started H enc _ => lifted os started H enc)

theorem proved : Rows.StateThroughSaid := over
end Go.Proofs.Ytghbliabmecbcaa.stateThrough
