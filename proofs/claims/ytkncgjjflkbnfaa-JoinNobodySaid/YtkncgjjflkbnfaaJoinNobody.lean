/-
  Whatever the input, JoinNobody answers true and its arguments read as they did: what no call made takes nothing, as the document says. No condition.
-/
import Derived.Test.YtkncgjjflkbnfaaRows
import Derived.WalkKit
import Derived.ProofKit
import Derived.OpenShut
import Derived.ChangeOld
import Derived.Below
import Derived.Test.YtkncgjjflkbnfaaMa2
import Derived.Test.YtkncgjjflkbnfaaMd1
namespace Go.Proofs.Ytkncgjjflkbnfaa.joinNobody
open Go.ChangeShapes Go.WideShapes Go.ChangeAt Go.RowKit
set_option linter.unusedVariables false
attribute [local go_sem] Oper.semAt_some

theorem own : ownKnob Try.prog.godebug = none := by kernel_rfl
theorem laidOut : laidOutB Try.prog = true := by kernel_rfl

/-! ### The walk -/
set_option maxRecDepth 100000 in
set_option maxHeartbeats 4000000 in
theorem walk (a0 : ByteArray) (a1 : Int) (A2 : Option Addr) (c2 : Nat) (b2 : List UInt8) (a3 : Int) (w : World) (w0 : a0.size ≤ maxLen) (w1 : (Lit.int .i64 a1).wf = true) (h2 : Arg w w.heap.size A2 c2 b2) (m2 : c2 ≤ maxLen) (w3 : (Lit.int .i64 a3).wf = true) :
    Calls Try.prog 10 #[.string a0, .int .i64 a1, .slice A2 b2.length c2, .int .i64 a3] w fun e w' => e = .returned (.bool true) ∧ Below w.heap.size w w' := by
  go_enter Try.func10, Try.ntmps10
  go_wp2_with (first
    | (go_at_call 32; (with_reducible show Calls _ _ #[.pointer none, _, _, _, _, _, _] _ _); refine (jadd_nil _ _ _ _ _ _ _).mono ?_; rintro e y1 ⟨rfl, rfl⟩)
    | (go_at_call 32; (with_reducible show Calls _ _ #[.pointer (some _), _, _, _, _, _, _] _ _); refine (jadd_zero w.heap.size _ _ _ _ _ _ _ (cells_at (World.alloc_heap_new w _) rfl)).mono ?_; rintro e y1 ⟨rfl, rfl⟩)
    | (go_at_call 34; refine (jbytes_nil _).mono ?_; rintro e y1 ⟨rfl, rfl⟩)
    | (go_at_call 36; refine (jbufs_zero w.heap.size _ (cells_at (World.alloc_heap_new w _) rfl)).mono ?_; rintro e y1 ⟨rfl, rfl⟩)
    | (go_at_call 30; refine (jexp_nil _ _).mono ?_; rintro e y1 ⟨rfl, rfl⟩)
    | (go_at_call 37; refine (jkeys_zero w.heap.size _ (cells_at (World.alloc_heap_new w _) rfl)).mono ?_; rintro e y1 ⟨rfl, rfl⟩)
    | (go_at_call 28; refine (awake16 _).mono ?_; rintro e y2 ⟨rfl, x4⟩))
  go_ret
  exact ⟨rfl, ((Below.refl _ w).alloc (Nat.le_refl _) _).trans (x4.mono (by simp))⟩

/-! ### The row's step -/
set_option maxRecDepth 100000 in
theorem lifted (os : Os) (started : os.Started) (H : Type) (enc : TypeId × Value → H) :
    ReturnsInHanded {} Try.checked os 10 .any (Rows.joinNobodySpec.pre6 enc Try.prog Try.f10 Rows.joinNobodyRow.domain false) (Rows.joinNobodySpec.post enc Try.prog Try.f10 false true false false) := by
  refine returnsInHanded_of_change (C := Try.checked) own started (by kernel_rfl) Try.func10
    (ChangeSpec.witness6 (enc := enc) (C := Try.checked) false ⟨#[], #[.string ByteArray.empty, .int .i64 0, .slice none 0 0, .int .i64 0], []⟩ 8 (by kernel_rfl) (by kernel_rfl) (by kernel_rfl) (by kernel_rfl)) ?_
  intro W base args ds gs before hval0 hW hcnd _
  have hval : ∀ (j : Nat) t v, Try.f10.params[j]? = some t → args[j]? = some v → Value.okWide Try.prog W .any base t v := hval0
  have hW' := hW
  obtain ⟨p, q, hA0, hV, rfl, hfz, hnd⟩ := hW
  have hA : DataW.TrodAll enc Try.prog W 0 (fun _ => true) true Try.f10.params.toList args.toList ds p := hA0
  rw [Try.params10] at hA hval
  obtain ⟨v0, vs0, d0, ds0, p0, q0, hargs, rfl, rfl, t0, r0⟩ := trodAll_cons hA
  obtain ⟨v1, vs1, d1, ds1, p1, q1, rfl, rfl, rfl, t1, r1⟩ := trodAll_cons r0
  obtain ⟨v2, vs2, d2, ds2, p2, q2, rfl, rfl, rfl, t2, r2⟩ := trodAll_cons r1
  obtain ⟨v3, vs3, d3, ds3, p3, q3, rfl, rfl, rfl, t3, r3⟩ := trodAll_cons r2
  obtain ⟨rfl, rfl, rfl⟩ := trodAll_nil r3
  obtain rfl : args = #[v0, v1, v2, v3] := by cases args; simp_all
  obtain ⟨rfl, rfl⟩ := trodVars_none hV
  have k0 := t0
  have lt0 := Trod_lt t0
  have k1 := t1
  have lt1 := Trod_lt t1
  have k2 := t2
  have lt2 := Trod_lt t2
  have k3 := t3
  have lt3 := Trod_lt t3
  obtain ⟨a0, rfl, w0⟩ := get_str Try.underlying9 (hval 0 9 v0 rfl rfl) t0
  obtain ⟨a1, rfl, w1⟩ := get_int Try.underlying3 (hval 1 3 v1 rfl rfl) t1
  obtain ⟨A2, c2, b2, rfl, h2, m2⟩ := get_bytes Try.underlying30 Try.underlying5 (by kernel_rfl) (hval 2 30 v2 rfl rfl) t2
  obtain ⟨a3, rfl, w3⟩ := get_int Try.underlying3 (hval 3 3 v3 rfl rfl) t3
  clear hA0 hval0
  refine (walk a0 a1 A2 c2 b2 a3 W w0 w1 h2 m2 w3).mono fun e W' ⟨he, bel⟩ => ?_
  subst he
  exact ⟨_, rfl, _, _, _, [], _, [], hW', trodAll_mk1 (shut_bool Try.underlying4 _), (trodAll_cons_mk (Below.trod laidOut (by kernel_rfl) (of_decide_eq_true (by kernel_rfl)) k0 bel lt0) (trodAll_cons_mk (Below.trod laidOut (by kernel_rfl) (of_decide_eq_true (by kernel_rfl)) k1 bel lt1) (trodAll_cons_mk (Below.trod laidOut (by kernel_rfl) (of_decide_eq_true (by kernel_rfl)) k2 bel lt2) (trodAll_cons_mk (Below.trod laidOut (by kernel_rfl) (of_decide_eq_true (by kernel_rfl)) k3 bel lt3) trodAll_mk0)))), rfl, bel.frame _, fun h => by cases h⟩

theorem over : Rows.joinNobodyRow.holds Try.pinned (OpenSpec.ofChange Rows.joinNobodySpec) :=
  OpenClaim.holds_of_wide 10 Try.f10 rfl rfl rfl rfl rfl rfl rfl ⟨rfl, rfl, rfl, rfl, rfl⟩ rfl rfl rfl rfl rfl (by kernel_rfl) Try.func10 (by kernel_rfl)
    (of_decide_eq_true (by kernel_rfl)) (by unfold Func.isWrapper; first | (rw [if_pos (by decide +kernel)]; kernel_rfl) | (rw [if_neg (by decide +kernel)]; exact ⟨rfl, rfl⟩))
    (fun os started H enc _ => lifted os started H enc)

theorem proved : Rows.JoinNobodySaid := over
end Go.Proofs.Ytkncgjjflkbnfaa.joinNobody
