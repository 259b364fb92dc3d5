/-
  For all bytes, goosepondlaw05.V4Parses answers true: any bytes are the packet, whole or quoted, that the document says, or refused.
  Conditions: none but the statement's own.
-/
import Derived.Test.YtcfcmnhnijjehaaRows
import Derived.WalkKit
import Derived.ProofKit
import Derived.OpenShut
import Derived.ChangeOld
import Derived.Below
import Derived.Test.YtcfcmnhnijjehaaOpen
import Derived.Test.YtcfcmnhnijjehaaV4Q
import Derived.Test.YtcfcmnhnijjehaaV4L
namespace Go.Proofs.Ytcfcmnhnijjehaa.v4Parses
open Go.ChangeShapes Go.WideShapes Go.ChangeAt Go.RowKit
set_option linter.unusedVariables false
attribute [local go_sem] Oper.semAt_some

theorem own : ownKnob Try.prog.godebug = none := by kernel_rfl
theorem laidOut : laidOutB Try.prog = true := by kernel_rfl

/-! ### The walk -/
set_option maxRecDepth 100000 in
set_option maxHeartbeats 4000000 in
theorem walk (A0 : Option Addr) (c0 : Nat) (b0 : List UInt8) (w : World) (h0 : Arg w w.heap.size A0 c0 b0) (m0 : c0 ≤ maxLen) :
    Calls Try.prog 4 #[.slice A0 b0.length c0] w fun e w' => e = .returned (.bool true) ∧ Below w.heap.size w w' := by
  by_cases h : 3000 < b0.length
  · have hd : decide (3000 < (b0.length : Int)) = true := by simp; omega
    go_enter Try.func4, Try.ntmps4
    go_wp2_with (go_at_call 12; refine (awake5_any _).mono ?_; rintro e w10 ⟨rfl, b10⟩)
    go_ret
    exact ⟨rfl, b10⟩
  · have hd : decide (3000 < (b0.length : Int)) = false := by simp; omega
    obtain ⟨u, hu⟩ : ∃ q, q = prsV b0 false := ⟨_, rfl⟩
    obtain ⟨v, hv⟩ : ∃ q, q = prsV b0 true := ⟨_, rfl⟩
    obtain ⟨E, hE⟩ : ∃ q, q = prsE b0 false := ⟨_, rfl⟩
    obtain ⟨F, hF⟩ : ∃ q, q = prsE b0 true := ⟨_, rfl⟩
    have HU := Lib.hid hu; have HV := Lib.hid hv; have HE := Lib.hid hE; have HF := Lib.hid hF
    have KU := Lib.hid (same4_iff.2 (rfl : u = u)); have KV := Lib.hid (same4_iff.2 (rfl : v = v))
    clear hu hv hE hF
    have q0 : Below w.heap.size w w := Below.refl _ _
    go_enter Try.func4, Try.ntmps4
    go_upto_region 3 with fail
    clear hd
    go_upto_region 4 with (first
      | (go_at_call 26; refine (c4parse b0 A0 c0 _ w.heap.size (h0.below q0) q0.size (by omega)).mono ?_; rintro e w1 ⟨P1, p1, P1', p1', rfl, mo, md⟩; rw [← HU.out] at mo md; rw [← HU.out, ← HE.out])
      | ((with_reducible show wpList _ _ _ (Oper.mk _ (Op.store _ _ _) _ _ _ _ :: _) _ _); refine v4_store_new (cs := v4a u P1 p1 P1' p1') rfl rfl rfl rfl (v4a_one _ _ _ _ _) ?_))
    obtain ⟨_, _, _, _, _, ow, y1⟩ := id mo
    obtain ⟨_, _, _, _, _, ow', _⟩ := id md
    have at1 := At4.new (q := u) (A := P1) (c := p1) (A' := P1') (c' := p1') w1
    have ja : Below w1.heap.size w1 (w1.alloc (.cells (v4a u P1 p1 P1' p1') 24)) := (Below.refl _ w1).alloc (Nat.le_refl _) _
    have ra1 := ((arg_own ow).below ja).rd
    have rd1 := ((arg_own ow').below ja).rd
    have z1 : w1.heap.size < (w1.alloc (.cells (v4a u P1 p1 P1' p1') 24)).heap.size := by simp
    have x1 := y1.trans (ja.mono y1.size)
    have q1 := q0.trans (x1.mono q0.size)
    have s1 := y1.size
    clear mo md ow ow' ja y1
    generalize w1.alloc (.cells (v4a u P1 p1 P1' p1') 24) = X1 at *
    go_upto_region 5 with (first
      | (go_at_call 27; refine (r5parse b0 A0 c0 _ w.heap.size (h0.below q1) q1.size (by omega)).mono ?_; rintro e w2 ⟨P2, p2, P2', p2', rfl, mo, md⟩; rw [← HU.out] at mo md; rw [← HU.out, ← HE.out])
      | ((with_reducible show wpList _ _ _ (Oper.mk _ (Op.store _ _ _) _ _ _ _ :: _) _ _); refine v4_store_new (cs := v4a u P2 p2 P2' p2') rfl rfl rfl rfl (v4a_one _ _ _ _ _) ?_))
    obtain ⟨_, _, _, _, _, ow, y2⟩ := id mo
    obtain ⟨_, _, _, _, _, ow', _⟩ := id md
    have at2 := At4.new (q := u) (A := P2) (c := p2) (A' := P2') (c' := p2') w2
    have ja : Below w2.heap.size w2 (w2.alloc (.cells (v4a u P2 p2 P2' p2') 24)) := (Below.refl _ w2).alloc (Nat.le_refl _) _
    have ra2 := ((arg_own ow).below ja).rd
    have rd2 := ((arg_own ow').below ja).rd
    have z2 : w2.heap.size < (w2.alloc (.cells (v4a u P2 p2 P2' p2') 24)).heap.size := by simp
    have x2 := y2.trans (ja.mono y2.size)
    have q2 := q1.trans (x2.mono q1.size)
    have s2 := y2.size
    clear mo md ow ow' ja y2
    generalize w2.alloc (.cells (v4a u P2 p2 P2' p2') 24) = X2 at *
    go_upto_region 6 with (first
      | (go_at_call 28; refine (c4quoted b0 A0 c0 _ w.heap.size (h0.below q2) q2.size (by omega)).mono ?_; rintro e w3 ⟨P3, p3, P3', p3', rfl, mo, md⟩; rw [← HV.out] at mo md; rw [← HV.out, ← HF.out])
      | ((with_reducible show wpList _ _ _ (Oper.mk _ (Op.store _ _ _) _ _ _ _ :: _) _ _); refine v4_store_new (cs := v4a v P3 p3 P3' p3') rfl rfl rfl rfl (v4a_one _ _ _ _ _) ?_))
    obtain ⟨_, _, _, _, _, ow, y3⟩ := id mo
    obtain ⟨_, _, _, _, _, ow', _⟩ := id md
    have at3 := At4.new (q := v) (A := P3) (c := p3) (A' := P3') (c' := p3') w3
    have ja : Below w3.heap.size w3 (w3.alloc (.cells (v4a v P3 p3 P3' p3') 24)) := (Below.refl _ w3).alloc (Nat.le_refl _) _
    have ra3 := ((arg_own ow).below ja).rd
    have rd3 := ((arg_own ow').below ja).rd
    have z3 : w3.heap.size < (w3.alloc (.cells (v4a v P3 p3 P3' p3') 24)).heap.size := by simp
    have x3 := y3.trans (ja.mono y3.size)
    have q3 := q2.trans (x3.mono q2.size)
    have s3 := y3.size
    clear mo md ow ow' ja y3
    generalize w3.alloc (.cells (v4a v P3 p3 P3' p3') 24) = X3 at *
    go_upto_region 7 with (first
      | (go_at_call 29; refine (r5quoted b0 A0 c0 _ w.heap.size (h0.below q3) q3.size (by omega)).mono ?_; rintro e w4 ⟨P4, p4, P4', p4', rfl, mo, md⟩; rw [← HV.out] at mo md; rw [← HV.out, ← HF.out])
      | ((with_reducible show wpList _ _ _ (Oper.mk _ (Op.store _ _ _) _ _ _ _ :: _) _ _); refine v4_store_new (cs := v4a v P4 p4 P4' p4') rfl rfl rfl rfl (v4a_one _ _ _ _ _) ?_))
    obtain ⟨_, _, _, _, _, ow, y4⟩ := id mo
    obtain ⟨_, _, _, _, _, ow', _⟩ := id md
    have at4 := At4.new (q := v) (A := P4) (c := p4) (A' := P4') (c' := p4') w4
    have ja : Below w4.heap.size w4 (w4.alloc (.cells (v4a v P4 p4 P4' p4') 24)) := (Below.refl _ w4).alloc (Nat.le_refl _) _
    have ra4 := ((arg_own ow).below ja).rd
    have rd4 := ((arg_own ow').below ja).rd
    have z4 : w4.heap.size < (w4.alloc (.cells (v4a v P4 p4 P4' p4') 24)).heap.size := by simp
    have x4 := y4.trans (ja.mono y4.size)
    have q4 := q3.trans (x4.mono q3.size)
    have s4 := y4.size
    clear mo md ow ow' ja y4
    generalize w4.alloc (.cells (v4a v P4 p4 P4' p4') 24) = X4 at *
    have x24 := x3.trans (x4.mono x3.size)
    have x14 := x2.trans (x24.mono x2.size)
    have k1 := at1.below x14 z1
    have k2 := at2.below x24 z2
    have k3 := at3.below x4 z3
    have e2 := x2.size; have e3 := x3.size; have e4 := x4.size
    have ra1 := ra1.below (x14.mono (by omega)); have rd1 := rd1.below (x14.mono (by omega))
    have ra2 := ra2.below (x24.mono (by omega)); have rd2 := rd2.below (x24.mono (by omega))
    have ra3 := ra3.below (x4.mono (by omega)); have rd3 := rd3.below (x4.mono (by omega))
    clear at1 at2 at3 x1 x2 x3 x4 x14 x24 q1 q2 q3
    go_wp2_with (first
      | ((with_reducible show wpList _ _ _ (Oper.mk (some 39) (Op.load 24 _) _ _ _ _ :: _) _ _); refine wpList_valw (by rfl) (run_load_v4 rfl rfl k1 rfl) ?_)
      | ((with_reducible show wpList _ _ _ (Oper.mk (some 40) (Op.load 24 _) _ _ _ _ :: _) _ _); refine wpList_valw (by rfl) (run_load_v4 rfl rfl k2 rfl) ?_)
      | (go_at_call 25; with_reducible refine (r5same_arr u u P1 p1 P1' p1' P2 p2 P2' p2' X4.heap.size _ (Nat.le_refl _) (ra1.more (by omega)) (rd1.more (by omega)) (ra2.more (by omega)) (rd2.more (by omega))).mono ?_; rintro e w5 ⟨rfl, y5⟩; rw [KU.out]; have l3 := k3.below y5 (by omega); have l4 := at4.below y5 (by omega))
      | ((with_reducible show wpList _ _ _ (Oper.mk (some 49) (Op.load 24 _) _ _ _ _ :: _) _ _); refine wpList_valw (by rfl) (run_load_v4 rfl rfl l3 rfl) ?_)
      | ((with_reducible show wpList _ _ _ (Oper.mk (some 50) (Op.load 24 _) _ _ _ _ :: _) _ _); refine wpList_valw (by rfl) (run_load_v4 rfl rfl l4 rfl) ?_)
      | (go_at_call 25; with_reducible refine (r5same_arr v v P3 p3 P3' p3' P4 p4 P4' p4' X4.heap.size _ y5.size ((ra3.more (by omega)).below y5) ((rd3.more (by omega)).below y5) ((ra4.more (by omega)).below y5) ((rd4.more (by omega)).below y5)).mono ?_; rintro e w6 ⟨rfl, y6⟩; rw [KV.out])
      | (go_at_call 12; refine (awake5_any _).mono ?_; rintro e w10 ⟨rfl, b10⟩))
    go_ret
    have x46 := y5.trans (y6.mono y5.size)
    have q6 := q4.trans (x46.mono q4.size)
    exact ⟨rfl, q6.trans (b10.mono q6.size)⟩

/-! ### The row's step -/
set_option maxRecDepth 100000 in
theorem lifted (os : Os) (started : os.Started) (H : Type) (enc : TypeId × Value → H) :
    ReturnsInHanded {} Try.checked os 4 .any (Rows.v4ParsesSpec.pre6 enc Try.prog Try.f4 Rows.v4ParsesRow.domain false) (Rows.v4ParsesSpec.post enc Try.prog Try.f4 false true false false) := by
  refine returnsInHanded_of_change (C := Try.checked) own started (by kernel_rfl) Try.func4
    (ChangeSpec.witness6 (enc := enc) (C := Try.checked) false ⟨#[], #[.slice none 0 0], []⟩ 8 (by kernel_rfl) (by kernel_rfl) (by kernel_rfl) (by kernel_rfl)) ?_
  intro W base args ds gs before hval0 hW hcnd _
  have hval : ∀ (j : Nat) t v, Try.f4.params[j]? = some t → args[j]? = some v → Value.okWide Try.prog W .any base t v := hval0
  have hW' := hW
  obtain ⟨p, q, hA0, hV, rfl, hfz, hnd⟩ := hW
  have hA : DataW.TrodAll enc Try.prog W 0 (fun _ => true) true Try.f4.params.toList args.toList ds p := hA0
  rw [Try.params4] at hA hval
  obtain ⟨v0, vs0, d0, ds0, p0, q0, hargs, rfl, rfl, t0, r0⟩ := trodAll_cons hA
  obtain ⟨rfl, rfl, rfl⟩ := trodAll_nil r0
  obtain rfl : args = #[v0] := by cases args; simp_all
  obtain ⟨rfl, rfl⟩ := trodVars_none hV
  have k0 := t0
  have lt0 := Trod_lt t0
  obtain ⟨A0, c0, b0, rfl, h0, m0⟩ := get_bytes Try.underlying22 Try.underlying5 (by kernel_rfl) (hval 0 22 v0 rfl rfl) t0
  clear hA0 hval0
  refine (walk A0 c0 b0 W h0 m0).mono fun e W' ⟨he, bel⟩ => ?_
  subst he
  exact ⟨_, rfl, _, _, _, [], _, [], hW', trodAll_mk1 (shut_bool Try.underlying4 _), (trodAll_cons_mk (Below.trod laidOut (by kernel_rfl) (of_decide_eq_true (by kernel_rfl)) k0 bel lt0) trodAll_mk0), rfl, bel.frame _, fun h => by cases h⟩

theorem over : Rows.v4ParsesRow.holds Try.pinned (OpenSpec.ofChange Rows.v4ParsesSpec) :=
  OpenClaim.holds_of_wide 4 Try.f4 rfl rfl rfl rfl rfl rfl rfl ⟨rfl, rfl, rfl, rfl, rfl⟩ rfl rfl rfl rfl rfl (by kernel_rfl) Try.func4 (by kernel_rfl)
    (of_decide_eq_true (by kernel_rfl)) (by unfold Func.isWrapper; first | (rw [if_pos (by decide +kernel)]; kernel_rfl) | (rw [if_neg (by decide +kernel)]; exact ⟨rfl, rfl⟩))
    (fun os started H enc _ => lifted os started H enc)

theorem proved : Rows.V4ParsesSaid := over
end Go.Proofs.Ytcfcmnhnijjehaa.v4Parses
