/-
  For every number, side and flags goosepondlaw23.StateBegins answers true: only a beginning leads out of no state; what resets leads from each other one to the end; no state is open unless a beginning went both ways. No condition.
-/
import Derived.Test.YtghbliabmecbcaaRows
import Derived.WalkKit
import Derived.ProofKit
import Derived.OpenShut
import Derived.ChangeOld
import Derived.Below
import Derived.Test.YtghbliabmecbcaaOpen
import Derived.Test.YtghbliabmecbcaaSnD
namespace Go.Proofs.Ytghbliabmecbcaa.stateBegins
open Go.ChangeShapes Go.WideShapes Go.ChangeAt Go.RowKit
set_option linter.unusedVariables false
attribute [local go_sem] Oper.semAt_some

theorem own : ownKnob Try.prog.godebug = none := by kernel_rfl
theorem laidOut : laidOutB Try.prog = true := by kernel_rfl

/-! ### The walk -/
set_option maxRecDepth 100000 in
set_option maxHeartbeats 4000000 in
theorem walk (a0 : Int) (a1 : Bool) (a2 : Int) (w : World) (w0 : (Lit.int .u8 a0).wf = true) (w2 : (Lit.int .i64 a2).wf = true) :
    Calls Try.prog 8 #[.int .u8 a0, .bool a1, .int .i64 a2] w fun e w' => e = .returned (.bool true) ∧ Below w.heap.size w w' := by
  have hw : 0 ≤ a0 ∧ a0 ≤ 255 := by
    have := w0
    simp [Lit.wf, IntKind.min, IntKind.max, IntKind.bits, IntKind.signed] at this; omega
  obtain ⟨h0, h255⟩ := hw
  obtain ⟨S, hS⟩ : ∃ x, bits .and .i64 a2 2 = x := ⟨_, rfl⟩
  obtain ⟨R, hR⟩ : ∃ x, bits .and .i64 a2 4 = x := ⟨_, rfl⟩
  obtain ⟨b, hb⟩ : ∃ b, (bt a2 2 && !bt a2 4) = b := ⟨_, rfl⟩
  have hb2 : ((S != 0) && (R == 0)) = b := by
    rw [← hb, bt, bt, hS, hR]
    show _ = ((S != 0) && !(!(R == 0)))
    rw [Bool.not_not]
  have HN := nx_none a1 a2
  rw [hb] at HN
  obtain ⟨n, hn⟩ : ∃ n, nxF 0 a1 a2 = n := ⟨_, rfl⟩
  rw [hn] at HN
  obtain ⟨n1, n2⟩ := n
  obtain ⟨rfl, hn1⟩ := HN
  have hn1' : (n1 != 0) = n2 := hn1
  have HC : Hid (∀ W, Calls Try.prog 29 #[.int .i64 0, .bool a1, .int .i64 a2] W fun e w' => e = .returned (.tuple #[.int .i64 n1, .bool n2]) ∧ W = w') := Lib.hid fun W => by
    have := cnext 0 a1 a2 W
    rw [hn] at this
    exact this
  obtain ⟨m, hm⟩ : ∃ m, a0 % 6 = m := ⟨_, rfl⟩
  have hm0 : 0 ≤ m ∧ m ≤ 5 := by omega
  have HT : ∀ k : Int, 1 ≤ k → k ≤ 6 → Hid (∀ W, Calls Try.prog 29 #[.int .i64 k, .bool a1, .int .i64 (bits .or .i64 a2 4)] W fun e w' => e = .returned (.tuple #[.int .i64 6, .bool true]) ∧ W = w') := fun k k1 k6 => Lib.hid fun W => by
    have := cnext k a1 (bits .or .i64 a2 4) W
    rw [nx_rst a1 a2 k1 k6] at this
    exact this
  obtain ⟨F, hF⟩ : ∃ F, bits .or .i64 a2 4 = F := ⟨_, rfl⟩
  rw [hF] at HT
  obtain ⟨r, hr⟩ : ∃ r, nxF (1 + m) a1 a2 = r := ⟨_, rfl⟩
  have hopen := nx_open (k := 1 + m) a1 a2 (by omega) (by omega)
  have HQ : Hid (∀ W, Calls Try.prog 29 #[.int .i64 (1 + m), .bool a1, .int .i64 a2] W fun e w' => e = .returned (.tuple #[.int .i64 r.1, .bool r.2]) ∧ W = w') := Lib.hid fun W => by
    have := cnext (1 + m) a1 a2 W
    rw [hr] at this
    exact this
  rw [hr, hb] at hopen
  obtain ⟨r1, r2⟩ := r
  obtain ⟨rfl, hopen⟩ := hopen
  have HM := HT (1 + m) (by omega) (by omega)
  clear hb hn hn1 hr HT w0
  have HMe := Lib.hid hm0
  clear hm0
  obtain ⟨K, hK0⟩ : ∃ K, K = 1 + m := ⟨_, rfl⟩
  have t1 : ((1 + m) == 1) = ((1 + m) == 1) := rfl
  clear hK0 t1
  have hx : (r1 != 3) = true ∨ ((r1 != 3) = false ∧ ((1 + m) == 3) = true) ∨ ((r1 != 3) = false ∧ ((1 + m) == 3) = false ∧ n2 = true ∧ ((1 + m) == 1) = true ∧ a1 = false) ∨ ((r1 != 3) = false ∧ ((1 + m) == 3) = false ∧ n2 = true ∧ ((1 + m) == 1) = false ∧ ((1 + m) == 2) = true ∧ a1 = true) := by
    have key : ∀ p q b t1 t2 o : Bool, (p || (q || b && ((t1 && !o) || (t2 && o)))) = true → ¬ (t1 = true ∧ t2 = true) → p = true ∨ (p = false ∧ q = true) ∨ (p = false ∧ q = false ∧ b = true ∧ t1 = true ∧ o = false) ∨ (p = false ∧ q = false ∧ b = true ∧ t1 = false ∧ t2 = true ∧ o = true) := by
      intro p q b t1 t2 o
      cases p <;> cases q <;> cases b <;> cases t1 <;> cases t2 <;> cases o <;> simp
    exact key _ _ _ _ _ _ hopen (fun h => by
      obtain ⟨h, h'⟩ := h
      simp at h h'
      omega)
  clear hopen
  cases e1 : (S != 0) <;> cases e2 : (R == 0) <;> (rw [e1, e2] at hb2) <;> (subst hb2) <;> (rcases hx with q1 | ⟨q1, q2⟩ | ⟨q1, q2, q3, q4, q5⟩ | ⟨q1, q2, q3, q4, q5, q6⟩) <;> first
    | (exact absurd q3 (by decide))
    | ((try subst q5); (try subst q6); (try clear q3)
       go_enter Try.func8, Try.ntmps8
       go_wp2_with (first
         | (go_at_call 29; (with_reducible refine (HC.out _).mono ?_); rintro e u1 ⟨rfl, rfl⟩)
         | (go_at_call 29; (with_reducible refine (HM.out _).mono ?_); rintro e u1 ⟨rfl, rfl⟩)
         | (go_at_call 29; (with_reducible refine (HQ.out _).mono ?_); rintro e u1 ⟨rfl, rfl⟩)
         | (go_at_call 32; refine (awake23 _).mono ?_; rintro e u1 ⟨rfl, x1⟩))
       go_ret
       exact ⟨rfl, x1⟩)

/-! ### The row's step -/
set_option maxRecDepth 100000 in
theorem lifted (os : Os) (started : os.Started) (H : Type) (enc : TypeId × Value → H) :
    ReturnsInHanded {} Try.checked os 8 .any (Rows.stateBeginsSpec.pre6 enc Try.prog Try.f8 Rows.stateBeginsRow.domain false) (Rows.stateBeginsSpec.post enc Try.prog Try.f8 false true false false) := by
  refine returnsInHanded_of_change (C := Try.checked) own started (by kernel_rfl) Try.func8
    (ChangeSpec.witness6 (enc := enc) (C := Try.checked) false ⟨#[], #[.int .u8 0, .bool false, .int .i64 0], []⟩ 8 (by kernel_rfl) (by kernel_rfl) (by kernel_rfl) (by kernel_rfl)) ?_
  intro W base args ds gs before hval0 hW hcnd _
  have hval : ∀ (j : Nat) t v, Try.f8.params[j]? = some t → args[j]? = some v → Value.okWide Try.prog W .any base t v := hval0
  have hW' := hW
  obtain ⟨p, q, hA0, hV, rfl, hfz, hnd⟩ := hW
  have hA : DataW.TrodAll enc Try.prog W 0 (fun _ => true) true Try.f8.params.toList args.toList ds p := hA0
  rw [Try.params8] at hA hval
  obtain ⟨v0, vs0, d0, ds0, p0, q0, hargs, rfl, rfl, t0, r0⟩ := trodAll_cons hA
  obtain ⟨v1, vs1, d1, ds1, p1, q1, rfl, rfl, rfl, t1, r1⟩ := trodAll_cons r0
  obtain ⟨v2, vs2, d2, ds2, p2, q2, rfl, rfl, rfl, t2, r2⟩ := trodAll_cons r1
  obtain ⟨rfl, rfl, rfl⟩ := trodAll_nil r2
  obtain rfl : args = #[v0, v1, v2] := by cases args; simp_all
  obtain ⟨rfl, rfl⟩ := trodVars_none hV
  have k0 := t0
  have lt0 := Trod_lt t0
  have k1 := t1
  have lt1 := Trod_lt t1
  have k2 := t2
  have lt2 := Trod_lt t2
  obtain ⟨a0, rfl, w0⟩ := get_int Try.underlying5 (hval 0 5 v0 rfl rfl) t0
  obtain ⟨a1, rfl⟩ := get_bool Try.underlying4 (hval 1 4 v1 rfl rfl) t1
  obtain ⟨a2, rfl, w2⟩ := get_int Try.underlying3 (hval 2 3 v2 rfl rfl) t2
  clear hA0 hval0
  refine (walk a0 a1 a2 W w0 w2).mono fun e W' ⟨he, bel⟩ => ?_
  subst he
  exact ⟨_, rfl, _, _, _, [], _, [], hW', trodAll_mk1 (shut_bool Try.underlying4 _), (trodAll_cons_mk (Below.trod laidOut (by kernel_rfl) (of_decide_eq_true (by kernel_rfl)) k0 bel lt0) (trodAll_cons_mk (Below.trod laidOut (by kernel_rfl) (of_decide_eq_true (by kernel_rfl)) k1 bel lt1) (trodAll_cons_mk (Below.trod laidOut (by kernel_rfl) (of_decide_eq_true (by kernel_rfl)) k2 bel lt2) trodAll_mk0))), rfl, bel.frame _, fun h => by cases h⟩

theorem over : Rows.stateBeginsRow.holds Try.pinned (OpenSpec.ofChange Rows.stateBeginsSpec) :=
  OpenClaim.holds_of_wide 8 Try.f8 rfl rfl rfl rfl rfl rfl rfl ⟨rfl, rfl, rfl, rfl, rfl⟩ rfl rfl rfl rfl rfl (by kernel_rfl) Try.func8 (by kernel_rfl)
    (of_decide_eq_true (by kernel_rfl)) (by unfold Func.isWrapper; first | (rw [if_pos (by decide +kernel)]; kernel_rfl) | (rw [if_neg (by decide +kernel)]; exact ⟨rfl, rfl⟩))
    (fun os started H enc _ => lifted os started H enc)

theorem proved : Rows.StateBeginsSaid := over
end Go.Proofs.Ytghbliabmecbcaa.stateBegins
