/-
  For all messages, sides, addresses and ports goosepondlaw26.QuoteMessages answers true: a message whose quoted packet comes from, or goes to, another endpoint is what the document says, or refused. Conditions: none but the statement's own.
-/
import Derived.Test.YtkgbjohadkbjaaaRows
import Derived.WalkKit
import Derived.ProofKit
import Derived.OpenShut
import Derived.ChangeOld
import Derived.Below
import Derived.Test.YtkgbjohadkbjaaaQa2
import Derived.Test.YtkgbjohadkbjaaaQb1
namespace Go.Proofs.Ytkgbjohadkbjaaa.quoteMessages
open Go.ChangeShapes Go.WideShapes Go.ChangeAt Go.RowKit
set_option linter.unusedVariables false
attribute [local go_sem] Oper.semAt_some

theorem own : ownKnob Try.prog.godebug = none := by kernel_rfl
theorem laidOut : laidOutB Try.prog = true := by kernel_rfl

/-! ### The walk -/
set_option maxRecDepth 100000 in
set_option maxHeartbeats 4000000 in
theorem walk (x0 : PI) (A0 : Option Addr) (c0 : Nat) (a1 : Bool) (a2 : Int) (a3 : Int) (w : World) (h0 : Arg w w.heap.size A0 c0 x0.dat) (m0 : c0 ≤ maxLen) (w0 : x0.fits) (w2 : (Lit.int .i64 a2).wf = true) (w3 : (Lit.int .i64 a3).wf = true) :
    Calls Try.prog 8 #[isv x0 A0 c0, .bool a1, .int .i64 a2, .int .i64 a3] w fun e w' => e = .returned (.bool true) ∧ Below w.heap.size w w' := by
  have hB0 : Below w.heap.size w (w.alloc (.cells (isa x0 A0 c0) 59)) := (Below.refl _ w).alloc (Nat.le_refl _) _
  have hAt := Atis.new (q := x0) (A := A0) (c := c0) w
  have hz0 : w.heap.size < (w.alloc (.cells (isa x0 A0 c0) 59)).heap.size := by simp
  rw [isv_eq]
  go_enter Try.func8, Try.ntmps8
  go_upto_region 1 with fail
  generalize w.alloc (.cells (isa x0 A0 c0) 59) = W at *
  have k0 := hAt.dat
  by_cases hbig : 2000 < x0.dat.length
  · have d0 : decide (2000 < (x0.dat.length : Int)) = true := by simp; omega
    go_wp2_with (go_at_call 22; refine (awake26 _).mono ?_; rintro e w10 ⟨rfl, b10⟩)
    go_ret
    exact ⟨rfl, hB0.trans (b10.mono hB0.size)⟩
  · have d0 : decide (2000 < (x0.dat.length : Int)) = false := by simp; omega
    have hl : x0.dat.length ≤ 1000000 := by omega
    clear hbig
    obtain ⟨MV, hMV⟩ : ∃ x, x = msV x0 a1 a2 a3 := ⟨_, rfl⟩
    obtain ⟨FE, hFE⟩ : ∃ x, x = frE x0.dat a2 a3 := ⟨_, rfl⟩
    have HC : Hid (∀ U, Below w.heap.size w U → Calls Try.prog 32 #[isv x0 A0 c0, .bool a1, .int .i64 a2, .int .i64 a3] U fun e w' => ∃ P p, e = .returned (.tuple #[isv MV P p, .int .i64 FE]) ∧ Made U w' (.slice P MV.dat.length p) MV.dat) := Lib.hid (fun U hU => by
      have := cqmsg x0 A0 c0 a1 a2 a3 U w.heap.size (h0.below hU) hU.size hl
      rw [← hMV, ← hFE] at this
      exact this)
    have HR : Hid (∀ U, Below w.heap.size w U → Calls Try.prog 33 #[isv x0 A0 c0, .bool a1, .int .i64 a2, .int .i64 a3] U fun e w' => ∃ P p, e = .returned (.tuple #[isv MV P p, .int .i64 FE]) ∧ Made U w' (.slice P MV.dat.length p) MV.dat) := Lib.hid (fun U hU => by
      have := rqmsg x0 A0 c0 a1 a2 a3 U w.heap.size (h0.below hU) hU.size hl
      rw [← hMV, ← hFE] at this
      exact this)
    have KS := Lib.hid (sameI_iff.2 (rfl : MV = MV))
    clear hMV hFE
    go_upto_region 3 with fail
    clear k0
    go_upto_region 4 with (first
      | ((with_reducible show wpList _ _ _ (Oper.mk _ (Op.load 59 _) _ _ _ _ :: _) _ _); refine wpList_valw (by rfl) (run_load_is rfl rfl hAt rfl) ?_)
      | (go_at_call 32; refine (HC.out W hB0).mono ?_; rintro e w1 ⟨P1, p1, rfl, m1⟩; obtain ⟨_, _, e1, g1, _, x1⟩ := made_shape m1; cases e1)
      | ((with_reducible show wpList _ _ _ (Oper.mk _ (Op.store _ _ _) _ _ _ _ :: _) _ _); refine is_store_new (cs := isa MV P1 p1) rfl rfl rfl rfl (is_one _ _ _) ?_))
    have at1 := Atis.new (q := MV) (A := P1) (c := p1) w1
    have j1 : Below w1.heap.size w1 (w1.alloc (.cells (isa MV P1 p1) 59)) := (Below.refl _ w1).alloc (Nat.le_refl _) _
    have z1 : w1.heap.size < (w1.alloc (.cells (isa MV P1 p1) 59)).heap.size := by simp
    generalize w1.alloc (.cells (isa MV P1 p1) 59) = X1 at *
    have g1 := (g1.below j1).more j1.size
    have x1 := x1.trans (j1.mono x1.size)
    have hB1 := hB0.trans (x1.mono hB0.size)
    have hAt := hAt.below x1 hz0
    clear m1 j1
    go_upto_region 5 with (first
      | ((with_reducible show wpList _ _ _ (Oper.mk _ (Op.load 59 _) _ _ _ _ :: _) _ _); refine wpList_valw (by rfl) (run_load_is rfl rfl hAt rfl) ?_)
      | (go_at_call 33; refine (HR.out X1 hB1).mono ?_; rintro e w2 ⟨P2, p2, rfl, m2⟩; obtain ⟨_, _, e2, g2, _, x2⟩ := made_shape m2; cases e2)
      | ((with_reducible show wpList _ _ _ (Oper.mk _ (Op.store _ _ _) _ _ _ _ :: _) _ _); refine is_store_new (cs := isa MV P2 p2) rfl rfl rfl rfl (is_one _ _ _) ?_))
    have at2 := Atis.new (q := MV) (A := P2) (c := p2) w2
    have j2 : Below w2.heap.size w2 (w2.alloc (.cells (isa MV P2 p2) 59)) := (Below.refl _ w2).alloc (Nat.le_refl _) _
    have z2 : w2.heap.size < (w2.alloc (.cells (isa MV P2 p2) 59)).heap.size := by simp
    generalize w2.alloc (.cells (isa MV P2 p2) 59) = X2 at *
    have g2 := (g2.below j2).more j2.size
    have x2 := x2.trans (j2.mono x2.size)
    have hB2 := hB1.trans (x2.mono hB1.size)
    have g1 := (g1.below x2).more x2.size
    have at1 := at1.below x2 z1
    clear m2 j2 hAt
    go_wp2_with (first
      | ((with_reducible show wpList _ _ _ (Oper.mk (some 38) (Op.load 59 _) _ _ _ _ :: _) _ _); refine wpList_valw (by rfl) (run_load_is rfl rfl at1 rfl) ?_)
      | ((with_reducible show wpList _ _ _ (Oper.mk (some 39) (Op.load 59 _) _ _ _ _ :: _) _ _); refine wpList_valw (by rfl) (run_load_is rfl rfl at2 rfl) ?_)
      | (go_at_call 34; refine (rIsame MV MV P1 p1 P2 p2 X2.heap.size _ (Nat.le_refl _) g1.rd g2.rd).mono ?_; rintro e w5 ⟨rfl, y5⟩; rw [KS.out])
      | (go_at_call 22; refine (awake26 _).mono ?_; rintro e w10 ⟨rfl, b10⟩))
    go_ret
    have q5 := hB2.trans (y5.mono hB2.size)
    exact ⟨rfl, q5.trans (b10.mono q5.size)⟩

/-! ### The row's step -/
set_option maxRecDepth 100000 in
theorem lifted (os : Os) (started : os.Started) (H : Type) (enc : TypeId × Value → H) :
    ReturnsInHanded {} Try.checked os 8 .any (Rows.quoteMessagesSpec.pre6 enc Try.prog Try.f8 Rows.quoteMessagesRow.domain false) (Rows.quoteMessagesSpec.post enc Try.prog Try.f8 false true false false) := by
  refine returnsInHanded_of_change (C := Try.checked) own started (by kernel_rfl) Try.func8
    (ChangeSpec.witness6 (enc := enc) (C := Try.checked) false ⟨#[], #[.agg #[.int .i64 0, .int .i64 0, .int .i64 0, .slice none 0 0], .bool false, .int .i64 0, .int .i64 0], []⟩ 8 (by kernel_rfl) (by kernel_rfl) (by kernel_rfl) (by kernel_rfl)) ?_
  intro W base args ds gs before hval0 hW hcnd _
  have hval : ∀ (j : Nat) t v, Try.f8.params[j]? = some t → args[j]? = some v → Value.okWide Try.prog W .any base t v := hval0
  have hW' := hW
  obtain ⟨p, q, hA0, hV, rfl, hfz, hnd⟩ := hW
  have hA : DataW.TrodAll enc Try.prog W 0 (fun _ => true) true Try.f8.params.toList args.toList ds p := hA0
  rw [Try.params8] at hA hval
  obtain ⟨v0, vs0, d0, ds0, p0, q0, hargs, rfl, rfl, t0, r0⟩ := trodAll_cons hA
  obtain ⟨v1, vs1, d1, ds1, p1, q1, rfl, rfl, rfl, t1, r1⟩ := trodAll_cons r0
  obtain ⟨v2, vs2, d2, ds2, p2, q2, rfl, rfl, rfl, t2, r2⟩ := trodAll_cons r1
  obtain ⟨v3, vs3, d3, ds3, p3, q3, rfl, rfl, rfl, t3, r3⟩ := trodAll_cons r2
  obtain ⟨rfl, rfl, rfl⟩ := trodAll_nil r3
  obtain rfl : args = #[v0, v1, v2, v3] := by cases args; simp_all
  obtain ⟨rfl, rfl⟩ := trodVars_none hV
  have k0 := t0
  have lt0 := Trod_lt t0
  have k1 := t1
  have lt1 := Trod_lt t1
  have k2 := t2
  have lt2 := Trod_lt t2
  have k3 := t3
  have lt3 := Trod_lt t3
  obtain ⟨x0, A0, c0, rfl, h0, m0, w0⟩ := get_is (hval 0 59 v0 rfl rfl) t0
  obtain ⟨a1, rfl⟩ := get_bool Try.underlying4 (hval 1 4 v1 rfl rfl) t1
  obtain ⟨a2, rfl, w2⟩ := get_int Try.underlying3 (hval 2 3 v2 rfl rfl) t2
  obtain ⟨a3, rfl, w3⟩ := get_int Try.underlying3 (hval 3 3 v3 rfl rfl) t3
  clear hA0 hval0
  refine (walk x0 A0 c0 a1 a2 a3 W h0 m0 w0 w2 w3).mono fun e W' ⟨he, bel⟩ => ?_
  subst he
  exact ⟨_, rfl, _, _, _, [], _, [], hW', trodAll_mk1 (shut_bool Try.underlying4 _), (trodAll_cons_mk (Below.trod laidOut (by kernel_rfl) (of_decide_eq_true (by kernel_rfl)) k0 bel lt0) (trodAll_cons_mk (Below.trod laidOut (by kernel_rfl) (of_decide_eq_true (by kernel_rfl)) k1 bel lt1) (trodAll_cons_mk (Below.trod laidOut (by kernel_rfl) (of_decide_eq_true (by kernel_rfl)) k2 bel lt2) (trodAll_cons_mk (Below.trod laidOut (by kernel_rfl) (of_decide_eq_true (by kernel_rfl)) k3 bel lt3) trodAll_mk0)))), rfl, bel.frame _, fun h => by cases h⟩

theorem over : Rows.quoteMessagesRow.holds Try.pinned (OpenSpec.ofChange Rows.quoteMessagesSpec) :=
  OpenClaim.holds_of_wide 8 Try.f8 rfl rfl rfl rfl rfl rfl rfl ⟨rfl, rfl, rfl, rfl, rfl⟩ rfl rfl rfl rfl rfl (by kernel_rfl) Try.func8 (by kernel_rfl)
    (of_decide_eq_true (by kernel_rfl)) (by unfold Func.isWrapper; first | (rw [if_pos (by decide +kernel)]; kernel_rfl) | (rw [if_neg (by decide +kernel)]; exact ⟨rfl, rfl⟩))
    (fun os started H enc _ => lifted os started H enc)

theorem proved : Rows.QuoteMessagesSaid := over
end Go.Proofs.Ytkgbjohadkbjaaa.quoteMessages
