/-
  For all numbers and bytes goosepondlaw28.ErrsMake answers true: whether a fault may be told in answer to any bytes, and what is told, is what the document says, or refused. Conditions: none but the statement's own.
-/
import Derived.Test.YtjgcpaepaocigaaRows
import Derived.WalkKit
import Derived.ProofKit
import Derived.OpenShut
import Derived.ChangeOld
import Derived.Below
import Derived.Test.YtjgcpaepaocigaaEa2
import Derived.Test.YtjgcpaepaocigaaEa10
import Derived.Test.YtjgcpaepaocigaaEa3
namespace Go.Proofs.Ytjgcpaepaocigaa.errsMake
open Go.ChangeShapes Go.WideShapes Go.ChangeAt Go.RowKit
set_option linter.unusedVariables false
attribute [local go_sem] Oper.semAt_some

theorem own : ownKnob Try.prog.godebug = none := by kernel_rfl
theorem laidOut : laidOutB Try.prog = true := by kernel_rfl

/-! ### The walk -/
set_option maxRecDepth 100000 in
set_option maxHeartbeats 4000000 in
theorem walk (a0 : Int) (a1 : Int) (a2 : Int) (a3 : Int) (A4 : Option Addr) (c4 : Nat) (b4 : List UInt8) (w : World) (w0 : (Lit.int .i64 a0).wf = true) (w1 : (Lit.int .i64 a1).wf = true) (w2 : (Lit.int .i64 a2).wf = true) (w3 : (Lit.int .i64 a3).wf = true) (h4 : Arg w w.heap.size A4 c4 b4) (m4 : c4 ≤ maxLen) :
    Calls Try.prog 4 #[.int .i64 a0, .int .i64 a1, .int .i64 a2, .int .i64 a3, .slice A4 b4.length c4] w fun e w' => e = .returned (.bool true) ∧ Below w.heap.size w w' := by
  by_cases hbig : 3000 < b4.length
  · have d0 : decide (3000 < (b4.length : Int)) = true := by simp; omega
    go_enter Try.func4, Try.ntmps4
    go_wp2_with (go_at_call 12; refine (awake28 _).mono ?_; rintro e w10 ⟨rfl, b10⟩)
    go_ret
    exact ⟨rfl, b10⟩
  · have d0 : decide (3000 < (b4.length : Int)) = false := by simp; omega
    have hl : b4.length ≤ 900000 := by omega
    clear hbig
    have hS : same4 (mkV a0 a1 a2 a3 b4) (mkV a0 a1 a2 a3 b4) = true := by simp [same4]
    obtain ⟨q, hq⟩ : ∃ x, x = mkV a0 a1 a2 a3 b4 := ⟨_, rfl⟩
    obtain ⟨E, hE⟩ : ∃ x, x = mkE a0 a1 a2 a3 b4 := ⟨_, rfl⟩
    have hqo : q.opt = [] := by rw [hq, mkV]; split <;> rfl
    rw [← hq] at hS
    have HS := Lib.hid hS
    have HC : Hid (∀ U, Below w.heap.size w U → Calls Try.prog 13 #[.int .i64 a0, .int .i64 a1, .int .i64 a2, .int .i64 a3, .slice A4 b4.length c4] U fun e w' => ∃ P' p', e = .returned (.tuple #[v4v q none 0 P' p', .int .i64 E]) ∧ Made U w' (.slice P' q.dat.length p') q.dat) := Lib.hid (fun U hU => by
      have := cEmake a0 a1 a2 a3 b4 A4 c4 w.heap.size U (h4.below hU) hU.size hl
      rw [← hq, ← hE] at this
      exact this)
    have HR : Hid (∀ U, Below w.heap.size w U → Calls Try.prog 14 #[.int .i64 a0, .int .i64 a1, .int .i64 a2, .int .i64 a3, .slice A4 b4.length c4] U fun e w' => ∃ P' p', e = .returned (.tuple #[v4v q none 0 P' p', .int .i64 E]) ∧ Made U w' (.slice P' q.dat.length p') q.dat) := Lib.hid (fun U hU => by
      have := rEmake a0 a1 a2 a3 b4 A4 c4 w.heap.size U (h4.below hU) hU.size hl
      rw [← hq, ← hE] at this
      exact this)
    obtain ⟨M, hM⟩ : ∃ x, mayE b4 = x := ⟨_, rfl⟩
    have HM := Lib.hid hM
    have dE : (E == E) = true := beq_self_eq_true E
    have dM : (M == M) = true := beq_self_eq_true M
    clear hq hE hM hS
    go_enter Try.func4, Try.ntmps4
    go_upto_region 4 with (first
      | (go_at_call 13; refine (HC.out _ (Below.refl _ _)).mono ?_; rintro e w1 ⟨P1, p1, rfl, m1⟩)
      | ((with_reducible show wpList _ _ _ (Oper.mk _ (Op.store 36 _ _) _ _ _ _ :: _) _ _); refine v4_store_new (cs := v4a q none 0 P1 p1) rfl rfl rfl rfl (v4a_one _ _ _ _ _) ?_))
    have x1 := m1.below
    obtain ⟨_, _, e1, g1, _, _⟩ := made_shape m1
    cases e1
    have hbox1 := World.alloc_heap_new w1 (.cells (v4a q none 0 P1 p1) 36)
    have y1 : Below w.heap.size w (w1.alloc (.cells (v4a q none 0 P1 p1) 36)) := x1.alloc x1.size _
    have g1 := g1.alloc (Nat.le_refl _) (.cells (v4a q none 0 P1 p1) 36)
    have z1 := heap_lt hbox1
    generalize w1.alloc (.cells (v4a q none 0 P1 p1) 36) = W1 at *
    clear m1
    go_upto_region 5 with (first
      | (go_at_call 14; refine (HR.out _ y1).mono ?_; rintro e w2 ⟨P2, p2, rfl, m2⟩)
      | ((with_reducible show wpList _ _ _ (Oper.mk _ (Op.store 36 _ _) _ _ _ _ :: _) _ _); refine v4_store_new (cs := v4a q none 0 P2 p2) rfl rfl rfl rfl (v4a_one _ _ _ _ _) ?_))
    have x2 := m2.below
    obtain ⟨_, _, e2, g2, _, _⟩ := made_shape m2
    cases e2
    have hbox2 := World.alloc_heap_new w2 (.cells (v4a q none 0 P2 p2) 36)
    have y2 : Below W1.heap.size W1 (w2.alloc (.cells (v4a q none 0 P2 p2) 36)) := x2.alloc x2.size _
    have g2 := g2.alloc (Nat.le_refl _) (.cells (v4a q none 0 P2 p2) 36)
    have z2 := heap_lt hbox2
    generalize w2.alloc (.cells (v4a q none 0 P2 p2) 36) = W2 at *
    have hbox1 := (y2.block _ z1).trans hbox1
    have g1 := g1.below (y2.mono (Nat.le_of_lt z1))
    have hb := y1.trans (y2.mono y1.size)
    have hw2 : w1.heap.size ≤ w2.heap.size := Nat.le_trans (Nat.le_of_lt z1) x2.size
    clear m2 x1 y1
    go_wp2_with (first
      | (go_at_call 15; refine (cEmay b4 A4 c4 w.heap.size _ (h4.below hb) hb.size (by omega)).mono ?_; rintro e w3 ⟨rfl, x3⟩; rw [HM.out]; have hb3 := hb.trans (x3.mono hb.size))
      | (go_at_call 16; refine (rEmay b4 A4 c4 w.heap.size _ (h4.below hb3) hb3.size (by omega)).mono ?_; rintro e w4 ⟨rfl, x4⟩; rw [HM.out]; have x5 := x3.trans (x4.mono x3.size); have hb5 := hb.trans (x5.mono hb.size); have at1 := ofhE ((x5.block _ (Nat.lt_of_le_of_lt hw2 z2)).trans hbox1); have at2 := ofhE ((x5.block _ z2).trans hbox2); have g1 := g1.below (x5.mono (Nat.le_of_lt (Nat.lt_of_le_of_lt hw2 z2))); have g2 := g2.below (x5.mono (Nat.le_of_lt z2)))
      | ((with_reducible show wpList _ _ _ (Oper.mk (some 48) (Op.load 36 _) _ _ _ _ :: _) _ _); refine wpList_valw (by rfl) (run_load_v4 rfl rfl at1 rfl) ?_)
      | ((with_reducible show wpList _ _ _ (Oper.mk (some 49) (Op.load 36 _) _ _ _ _ :: _) _ _); refine wpList_valw (by rfl) (run_load_v4 rfl rfl at2 rfl) ?_)
      | (go_at_call 17; refine (r5same q q none 0 P1 p1 none 0 P2 p2 w2.heap.size _ (Nat.le_trans (Nat.le_of_lt z2) x5.size) (by rw [hqo]; exact Rd.nil) (g1.rd.more hw2) (by rw [hqo]; exact Rd.nil) g2.rd).mono ?_; rintro e w6 ⟨rfl, x6⟩; rw [HS.out]; have hb6 := hb5.trans (x6.mono hb5.size))
      | (go_at_call 12; refine (awake28 _).mono ?_; rintro e w10 ⟨rfl, b10⟩))
    go_ret
    exact ⟨rfl, hb6.trans (b10.mono hb6.size)⟩

/-! ### The row's step -/
set_option maxRecDepth 100000 in
theorem lifted (os : Os) (started : os.Started) (H : Type) (enc : TypeId × Value → H) :
    ReturnsInHanded {} Try.checked os 4 .any (Rows.errsMakeSpec.pre6 enc Try.prog Try.f4 Rows.errsMakeRow.domain false) (Rows.errsMakeSpec.post enc Try.prog Try.f4 false true false false) := by
  refine returnsInHanded_of_change (C := Try.checked) own started (by kernel_rfl) Try.func4
    (ChangeSpec.witness6 (enc := enc) (C := Try.checked) false ⟨#[], #[.int .i64 0, .int .i64 0, .int .i64 0, .int .i64 0, .slice none 0 0], []⟩ 8 (by kernel_rfl) (by kernel_rfl) (by kernel_rfl) (by kernel_rfl)) ?_
  intro W base args ds gs before hval0 hW hcnd _
  have hval : ∀ (j : Nat) t v, Try.f4.params[j]? = some t → args[j]? = some v → Value.okWide Try.prog W .any base t v := hval0
  have hW' := hW
  obtain ⟨p, q, hA0, hV, rfl, hfz, hnd⟩ := hW
  have hA : DataW.TrodAll enc Try.prog W 0 (fun _ => true) true Try.f4.params.toList args.toList ds p := hA0
  rw [Try.params4] at hA hval
  obtain ⟨v0, vs0, d0, ds0, p0, q0, hargs, rfl, rfl, t0, r0⟩ := trodAll_cons hA
  obtain ⟨v1, vs1, d1, ds1, p1, q1, rfl, rfl, rfl, t1, r1⟩ := trodAll_cons r0
  obtain ⟨v2, vs2, d2, ds2, p2, q2, rfl, rfl, rfl, t2, r2⟩ := trodAll_cons r1
  obtain ⟨v3, vs3, d3, ds3, p3, q3, rfl, rfl, rfl, t3, r3⟩ := trodAll_cons r2
  obtain ⟨v4, vs4, d4, ds4, p4, q4, rfl, rfl, rfl, t4, r4⟩ := trodAll_cons r3
  obtain ⟨rfl, rfl, rfl⟩ := trodAll_nil r4
  obtain rfl : args = #[v0, v1, v2, v3, v4] := by cases args; simp_all
  obtain ⟨rfl, rfl⟩ := trodVars_none hV
  have k0 := t0
  have lt0 := Trod_lt t0
  have k1 := t1
  have lt1 := Trod_lt t1
  have k2 := t2
  have lt2 := Trod_lt t2
  have k3 := t3
  have lt3 := Trod_lt t3
  have k4 := t4
  have lt4 := Trod_lt t4
  obtain ⟨a0, rfl, w0⟩ := get_int Try.underlying3 (hval 0 3 v0 rfl rfl) t0
  obtain ⟨a1, rfl, w1⟩ := get_int Try.underlying3 (hval 1 3 v1 rfl rfl) t1
  obtain ⟨a2, rfl, w2⟩ := get_int Try.underlying3 (hval 2 3 v2 rfl rfl) t2
  obtain ⟨a3, rfl, w3⟩ := get_int Try.underlying3 (hval 3 3 v3 rfl rfl) t3
  obtain ⟨A4, c4, b4, rfl, h4, m4⟩ := get_bytes Try.underlying34 Try.underlying5 (by kernel_rfl) (hval 4 34 v4 rfl rfl) t4
  clear hA0 hval0
  refine (walk a0 a1 a2 a3 A4 c4 b4 W w0 w1 w2 w3 h4 m4).mono fun e W' ⟨he, bel⟩ => ?_
  subst he
  exact ⟨_, rfl, _, _, _, [], _, [], hW', trodAll_mk1 (shut_bool Try.underlying4 _), (trodAll_cons_mk (Below.trod laidOut (by kernel_rfl) (of_decide_eq_true (by kernel_rfl)) k0 bel lt0) (trodAll_cons_mk (Below.trod laidOut (by kernel_rfl) (of_decide_eq_true (by kernel_rfl)) k1 bel lt1) (trodAll_cons_mk (Below.trod laidOut (by kernel_rfl) (of_decide_eq_true (by kernel_rfl)) k2 bel lt2) (trodAll_cons_mk (Below.trod laidOut (by kernel_rfl) (of_decide_eq_true (by kernel_rfl)) k3 bel lt3) (trodAll_cons_mk (Below.trod laidOut (by kernel_rfl) (of_decide_eq_true (by kernel_rfl)) k4 bel lt4) trodAll_mk0))))), rfl, bel.frame _, fun h => by cases h⟩

theorem over : Rows.errsMakeRow.holds Try.pinned (OpenSpec.ofChange Rows.errsMakeSpec) :=
  OpenClaim.holds_of_wide 4 Try.f4 rfl rfl rfl rfl rfl rfl rfl ⟨rfl, rfl, rfl, rfl, rfl⟩ rfl rfl rfl rfl rfl (by kernel_rfl) Try.func4 (by kernel_rfl)
    (of_decide_eq_true (by kernel_rfl)) (by unfold Func.isWrapper; first | (rw [if_pos (by decide +kernel)]; kernel_rfl) | (rw [if_neg (by decide +kernel)]; exact ⟨rfl, rfl⟩))
    (fun os started H enc _ => lifted os started H enc)

theorem proved : Rows.ErrsMakeSaid := over
end Go.Proofs.Ytjgcpaepaocigaa.errsMake
