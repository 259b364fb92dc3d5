/-
  For all packets, sizes and bytes, goosepondlaw13.Cut4Cuts answers true: any packet's fragments, for any size, and the options that go with each, are what the document says, or refused.
  Conditions: none but the statement's own.
-/
import Derived.Test.YtcebobcakiljhaaRows
import Derived.WalkKit
import Derived.ProofKit
import Derived.OpenShut
import Derived.ChangeOld
import Derived.Below
import Derived.Test.YtcebobcakiljhaaMa2
import Derived.Test.YtcebobcakiljhaaMa10
import Derived.Test.YtcebobcakiljhaaMa11
namespace Go.Proofs.Ytcebobcakiljhaa.cut4Cuts
open Go.ChangeShapes Go.WideShapes Go.ChangeAt Go.RowKit
set_option linter.unusedVariables false
attribute [local go_sem] Oper.semAt_some

theorem own : ownKnob Try.prog.godebug = none := by kernel_rfl
theorem laidOut : laidOutB Try.prog = true := by kernel_rfl

/-! ### The walk -/
set_option maxRecDepth 100000 in
set_option maxHeartbeats 4000000 in
theorem walk (x0 : P4) (A0 : Option Addr) (c0 : Nat) (A0' : Option Addr) (c0' : Nat) (a1 : Int) (A2 : Option Addr) (c2 : Nat) (b2 : List UInt8) (w : World) (h0 : Arg w w.heap.size A0 c0 x0.opt) (h0' : Arg w w.heap.size A0' c0' x0.dat) (m0 : c0 ≤ maxLen) (m0' : c0' ≤ maxLen) (w0 : x0.fits) (w1 : (Lit.int .i64 a1).wf = true) (h2 : Arg w w.heap.size A2 c2 b2) (m2 : c2 ≤ maxLen) :
    Calls Try.prog 3 #[v4v x0 A0 c0 A0' c0', .int .i64 a1, .slice A2 b2.length c2] w fun e w' => e = .returned (.bool true) ∧ Below w.heap.size w w' := by
  have hB : Below w.heap.size w (w.alloc (.cells (v4a x0 A0 c0 A0' c0') 24)) := (Below.refl w.heap.size w).alloc (Nat.le_refl _) _
  have hAt := At4.new (q := x0) (A := A0) (c := c0) (A' := A0') (c' := c0') w
  have hz : w.heap.size < (w.alloc (.cells (v4a x0 A0 c0 A0' c0') 24)).heap.size := by simp
  rw [v4v_eq4]
  go_enter Try.func3, Try.ntmps3
  go_upto_region 1 with fail
  generalize w.alloc (.cells (v4a x0 A0 c0 A0' c0') 24) = W at *
  have kd := hAt.dat
  have ko := hAt.opt
  have HL0 := Lib.hid (cutL_len x0 a1)
  by_cases h1 : 3000 < x0.dat.length
  · have d1 : decide (3000 < (x0.dat.length : Int)) = true := by simp; omega
    go_wp2_with (go_at_call 8; refine (awake13_any _).mono ?_; rintro e w10 ⟨rfl, b10⟩)
    go_ret
    exact ⟨rfl, hB.trans (b10.mono hB.size)⟩
  · have d1 : decide (3000 < (x0.dat.length : Int)) = false := by simp; omega
    by_cases h3 : 200 < x0.opt.length
    · have d2 : decide (200 < (x0.opt.length : Int)) = true := by simp; omega
      go_wp2_with (go_at_call 8; refine (awake13_any _).mono ?_; rintro e w10 ⟨rfl, b10⟩)
      go_ret
      exact ⟨rfl, hB.trans (b10.mono hB.size)⟩
    · have d2 : decide (200 < (x0.opt.length : Int)) = false := by simp; omega
      by_cases h4 : 1000 < b2.length
      · have d3 : decide (1000 < (b2.length : Int)) = true := by simp; omega
        go_wp2_with (go_at_call 8; refine (awake13_any _).mono ?_; rintro e w10 ⟨rfl, b10⟩)
        go_ret
        exact ⟨rfl, hB.trans (b10.mono hB.size)⟩
      · have d3 : decide (1000 < (b2.length : Int)) = false := by simp; omega
        have ho : x0.opt.length ≤ 1000000 := by omega
        have hd : x0.dat.length ≤ 1000000 := by omega
        have hb : b2.length ≤ 1000000 := by omega
        go_upto_region 5 with (first
          | ((with_reducible show wpList _ _ _ (Oper.mk _ (Op.load 24 _) _ _ _ _ :: _) _ _); refine wpList_val rfl (run_load_v4 rfl rfl hAt1 rfl) ?_)
          | ((with_reducible show wpList _ _ _ (Oper.mk _ (Op.load 24 _) _ _ _ _ :: _) _ _); refine wpList_val rfl (run_load_v4 rfl rfl hAt rfl) ?_)
          | (go_at_call 9; refine (c13cut x0 A0 c0 A0' c0' a1 w.heap.size W (h0.below hB) (h0'.below hB) hB.size ho hd).mono ?_; rintro e w1 ⟨v1, l1, rfl, r1, e1, y1⟩; obtain ⟨P1, p1, rfl, q1, z1⟩ := r1.l4; have hAt1 := hAt.below y1 hz; have hB1 := hB.trans (y1.mono hB.size))
          | (go_at_call 10; refine (r13cut x0 A0 c0 A0' c0' a1 w.heap.size w1 (h0.below hB1) (h0'.below hB1) hB1.size ho hd).mono ?_; rintro e w2 ⟨v2, l2, rfl, r2, e2, y2⟩; obtain ⟨P2, p2, rfl, q2, z2⟩ := r2.l4))
        have hB2 := hB1.trans (y2.mono hB1.size)
        have q12 := (q1.below y2).more y2.size
        have HEQ := Lib.hid (decide_eq_true (e1.trans e2.symm))
        have hl1 : l1.length ≤ 1000000 := by
          have := HL0.out
          rw [← e1, List.length_map] at this
          omega
        have hC2 := h2.below hB2
        clear hAt hAt1 kd ko q1 y1 y2 hB hB1 d1 d2 d3 r1 r2 e1 e2
        go_wp2_with (first
          | (go_at_call 11; refine (s13same P1 P2 p1 p2 l1 l2 w2.heap.size w2 q12 q2 (Nat.le_refl _) z1 z2 hl1).mono ?_; rintro e w3 ⟨rfl, y3⟩; rw [HEQ.out]; have hB3 := hB2.trans (y3.mono hB2.size))
          | (go_at_call 13; refine (c13copied A2 b2 c2 w.heap.size w3 (h2.below hB3) hB3.size hb).mono ?_; rintro e w4 ⟨v4, rfl, m4⟩; obtain ⟨P4, p4, rfl, g4, o4, y4⟩ := made_shape m4; have hB4 := hB3.trans (y4.mono hB3.size))
          | (go_at_call 14; refine (r13copied A2 b2 c2 w.heap.size w4 (h2.below hB4) hB4.size hb).mono ?_; rintro e w5 ⟨v5, rfl, m5⟩; obtain ⟨P5, p5, rfl, g5, o5, y5⟩ := made_shape m5; have hB5 := hB4.trans (y5.mono hB4.size); have g45 := (g4.below y5).more y5.size)
          | (go_at_call 12; refine (equal_any P4 P5 (copied b2) (copied b2) p4 p5 w5.heap.size w5.heap.size w5 g45.rd g5.rd).mono ?_; rintro e w6 ⟨rfl, rfl⟩; rw [decide_eq_true (rfl : copied b2 = copied b2)])
          | (go_at_call 8; refine (awake13_any _).mono ?_; rintro e w10 ⟨rfl, b10⟩))
        go_ret
        exact ⟨rfl, hB5.trans (b10.mono hB5.size)⟩

/-! ### The row's step -/
set_option maxRecDepth 100000 in
theorem lifted (os : Os) (started : os.Started) (H : Type) (enc : TypeId × Value → H) :
    ReturnsInHanded {} Try.checked os 3 .any (Rows.cut4CutsSpec.pre6 enc Try.prog Try.f3 Rows.cut4CutsRow.domain false) (Rows.cut4CutsSpec.post enc Try.prog Try.f3 false true false false) := by
  refine returnsInHanded_of_change (C := Try.checked) own started (by kernel_rfl) Try.func3
    (ChangeSpec.witness6 (enc := enc) (C := Try.checked) false ⟨#[], #[.agg #[.int .i64 0, .int .i64 0, .int .i64 0, .int .i64 0, .int .i64 0, .int .i64 0, .int .i64 0, .bool false, .bool false, .slice none 0 0, .slice none 0 0], .int .i64 0, .slice none 0 0], []⟩ 8 (by kernel_rfl) (by kernel_rfl) (by kernel_rfl) (by kernel_rfl)) ?_
  intro W base args ds gs before hval0 hW hcnd _
  have hval : ∀ (j : Nat) t v, Try.f3.params[j]? = some t → args[j]? = some v → Value.okWide Try.prog W .any base t v := hval0
  have hW' := hW
  obtain ⟨p, q, hA0, hV, rfl, hfz, hnd⟩ := hW
  have hA : DataW.TrodAll enc Try.prog W 0 (fun _ => true) true Try.f3.params.toList args.toList ds p := hA0
  rw [Try.params3] at hA hval
  obtain ⟨v0, vs0, d0, ds0, p0, q0, hargs, rfl, rfl, t0, r0⟩ := trodAll_cons hA
  obtain ⟨v1, vs1, d1, ds1, p1, q1, rfl, rfl, rfl, t1, r1⟩ := trodAll_cons r0
  obtain ⟨v2, vs2, d2, ds2, p2, q2, rfl, rfl, rfl, t2, r2⟩ := trodAll_cons r1
  obtain ⟨rfl, rfl, rfl⟩ := trodAll_nil r2
  obtain rfl : args = #[v0, v1, v2] := by cases args; simp_all
  obtain ⟨rfl, rfl⟩ := trodVars_none hV
  have k0 := t0
  have lt0 := Trod_lt t0
  have k1 := t1
  have lt1 := Trod_lt t1
  have k2 := t2
  have lt2 := Trod_lt t2
  obtain ⟨x0, A0, c0, A0', c0', rfl, h0, h0', m0, m0', w0⟩ := get_v4 (hval 0 24 v0 rfl rfl) t0
  obtain ⟨a1, rfl, w1⟩ := get_int Try.underlying3 (hval 1 3 v1 rfl rfl) t1
  obtain ⟨A2, c2, b2, rfl, h2, m2⟩ := get_bytes Try.underlying22 Try.underlying5 (by kernel_rfl) (hval 2 22 v2 rfl rfl) t2
  clear hA0 hval0
  refine (walk x0 A0 c0 A0' c0' a1 A2 c2 b2 W h0 h0' m0 m0' w0 w1 h2 m2).mono fun e W' ⟨he, bel⟩ => ?_
  subst he
  exact ⟨_, rfl, _, _, _, [], _, [], hW', trodAll_mk1 (shut_bool Try.underlying4 _), (trodAll_cons_mk (Below.trod laidOut (by kernel_rfl) (of_decide_eq_true (by kernel_rfl)) k0 bel lt0) (trodAll_cons_mk (Below.trod laidOut (by kernel_rfl) (of_decide_eq_true (by kernel_rfl)) k1 bel lt1) (trodAll_cons_mk (Below.trod laidOut (by kernel_rfl) (of_decide_eq_true (by kernel_rfl)) k2 bel lt2) trodAll_mk0))), rfl, bel.frame _, fun h => by cases h⟩

theorem over : Rows.cut4CutsRow.holds Try.pinned (OpenSpec.ofChange Rows.cut4CutsSpec) :=
  OpenClaim.holds_of_wide 3 Try.f3 rfl rfl rfl rfl rfl rfl rfl ⟨rfl, rfl, rfl, rfl, rfl⟩ rfl rfl rfl rfl rfl (by kernel_rfl) Try.func3 (by kernel_rfl)
    (of_decide_eq_true (by kernel_rfl)) (by unfold Func.isWrapper; first | (rw [if_pos (by decide +kernel)]; kernel_rfl) | (rw [if_neg (by decide +kernel)]; exact ⟨rfl, rfl⟩))
    (fun os started H enc _ => lifted os started H enc)

theorem proved : Rows.Cut4CutsSaid := over
end Go.Proofs.Ytcebobcakiljhaa.cut4Cuts
