/-
  For every fragment header and all bytes, goosepondlaw06.V6Frags answers true: a fragment header's bytes, and any bytes' fragment header, are what the document says, or refused.
  Conditions: none but the statement's own.
-/
import Derived.Test.YtcfcmnhnijjehaaRows
import Derived.WalkKit
import Derived.ProofKit
import Derived.OpenShut
import Derived.ChangeOld
import Derived.Below
import Derived.Test.YtcfcmnhnijjehaaOpen
import Derived.Test.YtcfcmnhnijjehaaV6W
namespace Go.Proofs.Ytcfcmnhnijjehaa.v6Frags
open Go.ChangeShapes Go.WideShapes Go.ChangeAt Go.RowKit
set_option linter.unusedVariables false
attribute [local go_sem] Oper.semAt_some

theorem own : ownKnob Try.prog.godebug = none := by kernel_rfl
theorem laidOut : laidOutB Try.prog = true := by kernel_rfl

/-! ### The walk -/
set_option maxHeartbeats 4000000 in
theorem walk (f0 : F6) (A1 : Option Addr) (c1 : Nat) (b1 : List UInt8) (w : World) (w0 : f0.fits) (h1 : Arg w w.heap.size A1 c1 b1) (m1 : c1 ≤ maxLen) :
    Calls Try.prog 9 #[frv f0, .slice A1 b1.length c1] w fun e w' => e = .returned (.bool true) ∧ Below w.heap.size w w' := by
  have hB0 : Below w.heap.size w (w.alloc (.cells (fra f0) 52)) := (Below.refl w.heap.size w).alloc (Nat.le_refl _) _
  have hAt := AtF.new (f := f0) w
  have hz : w.heap.size < (w.alloc (.cells (fra f0) 52)).heap.size := by simp
  unfold frv
  rw [show #[Value.int .i64 f0.next, .int .i64 f0.off, .int .i64 f0.id, .bool f0.more] = fra f0 from rfl]
  by_cases h : 2000 < b1.length
  · go_enter Try.func9, Try.ntmps9
    go_wp2_with (go_at_call 32; refine (awake6_any _).mono ?_; rintro e w5 ⟨rfl, b5⟩)
    go_ret
    exact ⟨rfl, hB0.trans (b5.mono (by simp))⟩
  · have hd : decide (2000 < (b1.length : Int)) = false := by simp; omega
    obtain ⟨⟨u1, u2, u3, u4⟩, hu⟩ : ∃ u, u = prsF b1 := ⟨_, rfl⟩
    have HF := Lib.hid (show frv (prsF b1) = .agg #[.int .i64 u1, .int .i64 u2, .int .i64 u3, .bool u4] by rw [← hu]; rfl)
    clear hu
    go_enter Try.func9, Try.ntmps9
    go_upto_region 3 with fail
    generalize w.alloc (.cells (fra f0) 52) = W at *
    go_upto_region 4 with (first
      | ((with_reducible show wpList _ _ _ (Oper.mk _ (Op.load _ _) _ _ _ _ :: _) _ _); refine wpList_val rfl (run_load_fr rfl rfl hAt) ?_)
      | (go_at_call 45; refine (c6bfrag f0 _).mono ?_; rintro e w1 ⟨v1, rfl, n1⟩; obtain ⟨P1, k1, rfl, g1, o1, y1⟩ := made_shape n1))
    have hAt1 := hAt.below y1 hz
    go_upto_region 5 with (first
      | ((with_reducible show wpList _ _ _ (Oper.mk _ (Op.load _ _) _ _ _ _ :: _) _ _); refine wpList_val rfl (run_load_fr rfl rfl hAt1) ?_)
      | (go_at_call 46; refine (r6bfrag f0 _).mono ?_; rintro e w2 ⟨v2, rfl, n2⟩; obtain ⟨P2, k2, rfl, g2, o2, y2⟩ := made_shape n2))
    have q2 : Below w.heap.size w w2 := hB0.trans ((y1.trans (y2.mono y1.size)).mono (by omega))
    go_upto_region 6 with (go_at_call 47; refine (c6pfrag A1 b1 c1 w.heap.size _ (h1.below q2) q2.size (by omega)).mono ?_; rintro e w3 ⟨v3, rfl, n3⟩; rw [HF.out]; obtain ⟨P3, k3, rfl, g3, o3, y3⟩ := made_shape n3)
    have g1a := (g1.rd.below y2).below (y3.mono y2.size)
    have g2a := g2.rd.below y3
    have q3 : Below w.heap.size w w3 := q2.trans (y3.mono q2.size)
    have j1 : Below w3.heap.size w3 (w3.alloc (.cells #[.int .i64 u1, .int .i64 u2, .int .i64 u3, .bool u4] 52)) := (Below.refl _ w3).alloc (Nat.le_refl _) _
    go_upto_region 7 with (go_at_call 48; refine (r6pfrag A1 b1 c1 w.heap.size _ (h1.below (q3.trans (j1.mono q3.size))) (q3.trans (j1.mono q3.size)).size (by omega)).mono ?_; rintro e w4 ⟨v4, rfl, n4⟩; rw [HF.out]; obtain ⟨P4, k4, rfl, g4, o4, y4⟩ := made_shape n4)
    have z3 := y3.size
    have z2 := y2.size
    have z4 : w3.heap.size + 1 ≤ w4.heap.size := by have := y4.size; simpa using this
    have b34 : Below w3.heap.size w3 w4 := j1.trans (y4.mono (by simp))
    have j4 : Below w4.heap.size w4 (w4.alloc (.cells #[.int .i64 u1, .int .i64 u2, .int .i64 u3, .bool u4] 52)) := (Below.refl _ w4).alloc (Nat.le_refl _) _
    have b3x := b34.trans (j4.mono b34.size)
    have e1 := g1a.below (b3x.mono (by omega))
    have e2 := g2a.below (b3x.mono (by omega))
    have e3 := g3.rd.below b3x
    have e4 := g4.rd.below j4
    have at9 : AtF (w4.alloc (.cells #[.int .i64 u1, .int .i64 u2, .int .i64 u3, .bool u4] 52)) w3.heap.size ⟨u1, u2, u3, u4⟩ := ((AtF.new (f := ⟨u1, u2, u3, u4⟩) w3).below y4 (by simp)).below j4 (by omega)
    have at12 : AtF (w4.alloc (.cells #[.int .i64 u1, .int .i64 u2, .int .i64 u3, .bool u4] 52)) w4.heap.size ⟨u1, u2, u3, u4⟩ := AtF.new (f := ⟨u1, u2, u3, u4⟩) w4
    have c0 := at9.next; have c1' := at9.off; have c2 := at9.id; have c3 := at9.more
    have d0 := at12.next; have d1 := at12.off; have d2 := at12.id; have d3 := at12.more
    have qx := q3.trans (b3x.mono q3.size)
    clear g1 g2 g3 g4 o1 o2 o3 o4 n1 n2 n3 n4 g1a g2a y1 y2 y3 y4 at9 at12 j1 hAt hAt1 hB0
    generalize w4.alloc (.cells #[.int .i64 u1, .int .i64 u2, .int .i64 u3, .bool u4] 52) = X at *
    have zx := qx.size
    clear z2 z3 z4 q2 q3 b34 b3x j4
    go_wp2_with (first
      | (go_at_call 21; ((with_reducible refine (equal_same P1 P2 (bldF f0) _ _ _ _ _ e1 e2).mono ?_); rintro e w' ⟨rfl, rfl⟩))
      | (go_at_call 21; ((with_reducible refine (equal_same P3 P4 (rstF b1) _ _ _ _ _ e3 e4).mono ?_); rintro e w' ⟨rfl, rfl⟩))
      | (go_at_call 32; refine (awake6_any _).mono ?_; rintro e w5 ⟨rfl, b5⟩))
    go_ret
    exact ⟨rfl, qx.trans (b5.mono zx)⟩

/-! ### The row's step -/
set_option maxRecDepth 100000 in
theorem lifted (os : Os) (started : os.Started) (H : Type) (enc : TypeId × Value → H) :
    ReturnsInHanded {} Try.checked os 9 .any (Rows.v6FragsSpec.pre6 enc Try.prog Try.f9 Rows.v6FragsRow.domain false) (Rows.v6FragsSpec.post enc Try.prog Try.f9 false true false false) := by
  refine returnsInHanded_of_change (C := Try.checked) own started (by kernel_rfl) Try.func9
    (ChangeSpec.witness6 (enc := enc) (C := Try.checked) false ⟨#[], #[.agg #[.int .i64 0, .int .i64 0, .int .i64 0, .bool false], .slice none 0 0], []⟩ 8 (by kernel_rfl) (by kernel_rfl) (by kernel_rfl) (by kernel_rfl)) ?_
  intro W base args ds gs before hval0 hW hcnd _
  have hval : ∀ (j : Nat) t v, Try.f9.params[j]? = some t → args[j]? = some v → Value.okWide Try.prog W .any base t v := hval0
  have hW' := hW
  obtain ⟨p, q, hA0, hV, rfl, hfz, hnd⟩ := hW
  have hA : DataW.TrodAll enc Try.prog W 0 (fun _ => true) true Try.f9.params.toList args.toList ds p := hA0
  rw [Try.params9] at hA hval
  obtain ⟨v0, vs0, d0, ds0, p0, q0, hargs, rfl, rfl, t0, r0⟩ := trodAll_cons hA
  obtain ⟨v1, vs1, d1, ds1, p1, q1, rfl, rfl, rfl, t1, r1⟩ := trodAll_cons r0
  obtain ⟨rfl, rfl, rfl⟩ := trodAll_nil r1
  obtain rfl : args = #[v0, v1] := by cases args; simp_all
  obtain ⟨rfl, rfl⟩ := trodVars_none hV
  have k0 := t0
  have lt0 := Trod_lt t0
  have k1 := t1
  have lt1 := Trod_lt t1
  obtain ⟨f0, rfl, w0⟩ := get_frag (hval 0 52 v0 rfl rfl) t0
  obtain ⟨A1, c1, b1, rfl, h1, m1⟩ := get_bytes Try.underlying22 Try.underlying5 (by kernel_rfl) (hval 1 22 v1 rfl rfl) t1
  clear hA0 hval0
  refine (walk f0 A1 c1 b1 W w0 h1 m1).mono fun e W' ⟨he, bel⟩ => ?_
  subst he
  exact ⟨_, rfl, _, _, _, [], _, [], hW', trodAll_mk1 (shut_bool Try.underlying4 _), (trodAll_cons_mk (Below.trod laidOut (by kernel_rfl) (of_decide_eq_true (by kernel_rfl)) k0 bel lt0) (trodAll_cons_mk (Below.trod laidOut (by kernel_rfl) (of_decide_eq_true (by kernel_rfl)) k1 bel lt1) trodAll_mk0)), rfl, bel.frame _, fun h => by cases h⟩

theorem over : Rows.v6FragsRow.holds Try.pinned (OpenSpec.ofChange Rows.v6FragsSpec) :=
  OpenClaim.holds_of_wide 9 Try.f9 rfl rfl rfl rfl rfl rfl rfl ⟨rfl, rfl, rfl, rfl, rfl⟩ rfl rfl rfl rfl rfl (by kernel_rfl) Try.func9 (by kernel_rfl)
    (of_decide_eq_true (by kernel_rfl)) (by unfold Func.isWrapper; first | (rw [if_pos (by decide +kernel)]; kernel_rfl) | (rw [if_neg (by decide +kernel)]; exact ⟨rfl, rfl⟩))
    (fun os started H enc _ => lifted os started H enc)

theorem proved : Rows.V6FragsSaid := over
end Go.Proofs.Ytcfcmnhnijjehaa.v6Frags
