/-
  For all bytes, goosepondlaw09.IcmpParses answers true: any bytes are the message that the document says, or refused.
  Conditions: none but the statement's own.
-/
import Derived.Test.YtobkiffiapjhgaaRows
import Derived.WalkKit
import Derived.ProofKit
import Derived.OpenShut
import Derived.ChangeOld
import Derived.Below
import Derived.Test.YtobkiffiapjhgaaMa1
import Derived.Test.YtobkiffiapjhgaaMa8
namespace Go.Proofs.Ytobkiffiapjhgaa.icmpParses
open Go.ChangeShapes Go.WideShapes Go.ChangeAt Go.RowKit
set_option linter.unusedVariables false
attribute [local go_sem] Oper.semAt_some

theorem own : ownKnob Try.prog.godebug = none := by kernel_rfl
theorem laidOut : laidOutB Try.prog = true := by kernel_rfl

/-! ### The walk -/
set_option maxRecDepth 100000 in
set_option maxHeartbeats 4000000 in
theorem walk (A0 : Option Addr) (c0 : Nat) (b0 : List UInt8) (w : World) (h0 : Arg w w.heap.size A0 c0 b0) (m0 : c0 ≤ maxLen) :
    Calls Try.prog 4 #[.slice A0 b0.length c0] w fun e w' => e = .returned (.bool true) ∧ Below w.heap.size w w' := by
  by_cases h : 3000 < b0.length
  · have hd : decide (3000 < (b0.length : Int)) = true := by simp; omega
    go_enter Try.func4, Try.ntmps4
    go_wp2_with (go_at_call 10; refine (awakeI_any _).mono ?_; rintro e w10 ⟨rfl, b10⟩)
    go_ret
    exact ⟨rfl, b10⟩
  · have hd : decide (3000 < (b0.length : Int)) = false := by simp; omega
    obtain ⟨u, hu⟩ : ∃ q, q = prsI [] b0 := ⟨_, rfl⟩
    obtain ⟨E, hE⟩ : ∃ q, q = badI [] b0 := ⟨_, rfl⟩
    have HU := Lib.hid hu; have HE := Lib.hid hE
    have KU := Lib.hid (sameI_iff.2 (rfl : u = u))
    clear hu hE
    have q0 : Below w.heap.size w w := Below.refl _ _
    go_enter Try.func4, Try.ntmps4
    go_upto_region 3 with fail
    clear hd
    go_upto_region 4 with (first
      | (go_at_call 18; refine (cIparse b0 A0 c0 _ w.heap.size (h0.below q0) q0.size (by omega)).mono ?_; rintro e w1 ⟨P1, p1, rfl, mdat⟩; rw [← HU.out] at mdat; rw [← HU.out, ← HE.out])
      | ((with_reducible show wpList _ _ _ (Oper.mk _ (Op.store _ _ _) _ _ _ _ :: _) _ _); refine is_store_new (cs := isa u P1 p1) rfl rfl rfl rfl (is_one _ _ _) ?_))
    have y1 := mdat.below
    have at1 := Atis.new (q := u) (A := P1) (c := p1) w1
    have ja : Below w1.heap.size w1 (w1.alloc (.cells (isa u P1 p1) 24)) := (Below.refl _ w1).alloc (Nat.le_refl _) _
    have r1 : Rd (w1.alloc (.cells (isa u P1 p1) 24)) (w1.alloc (.cells (isa u P1 p1) 24)).heap.size P1 u.dat := by { obtain ⟨_, _, e1, _, e3, _, _⟩ := id mdat; cases e1; exact (e3.below ja).more ja.size }
    have z1 : w1.heap.size < (w1.alloc (.cells (isa u P1 p1) 24)).heap.size := by simp
    have x1 := y1.trans (ja.mono y1.size)
    have q1 := q0.trans (x1.mono q0.size)
    clear mdat ja y1
    generalize w1.alloc (.cells (isa u P1 p1) 24) = X1 at *
    go_upto_region 5 with (first
      | (go_at_call 19; refine (rIparse b0 A0 c0 _ w.heap.size (h0.below q1) q1.size (by omega)).mono ?_; rintro e w2 ⟨P2, p2, rfl, mdat⟩; rw [← HU.out] at mdat; rw [← HU.out, ← HE.out])
      | ((with_reducible show wpList _ _ _ (Oper.mk _ (Op.store _ _ _) _ _ _ _ :: _) _ _); refine is_store_new (cs := isa u P2 p2) rfl rfl rfl rfl (is_one _ _ _) ?_))
    have y2 := mdat.below
    have at2 := Atis.new (q := u) (A := P2) (c := p2) w2
    have ja : Below w2.heap.size w2 (w2.alloc (.cells (isa u P2 p2) 24)) := (Below.refl _ w2).alloc (Nat.le_refl _) _
    have r2 : Rd (w2.alloc (.cells (isa u P2 p2) 24)) (w2.alloc (.cells (isa u P2 p2) 24)).heap.size P2 u.dat := by { obtain ⟨_, _, e1, _, e3, _, _⟩ := id mdat; cases e1; exact (e3.below ja).more ja.size }
    have z2 : w2.heap.size < (w2.alloc (.cells (isa u P2 p2) 24)).heap.size := by simp
    have x2 := y2.trans (ja.mono y2.size)
    have q2 := q1.trans (x2.mono q1.size)
    clear mdat ja y2
    generalize w2.alloc (.cells (isa u P2 p2) 24) = X2 at *
    have k1 := at1.below x2 z1
    have e2 := x2.size
    have r1 := (r1.below x2).more e2
    clear at1 x1 x2 q1
    go_wp2_with (first
      | ((with_reducible show wpList _ _ _ (Oper.mk (some 25) (Op.load 24 _) _ _ _ _ :: _) _ _); refine wpList_valw (by rfl) (run_load_is rfl rfl k1 rfl) ?_)
      | ((with_reducible show wpList _ _ _ (Oper.mk (some 26) (Op.load 24 _) _ _ _ _ :: _) _ _); refine wpList_valw (by rfl) (run_load_is rfl rfl at2 rfl) ?_)
      | (go_at_call 17; refine (rIsame u u P1 p1 P2 p2 X2.heap.size _ (Nat.le_refl _) r1 r2).mono ?_; rintro e w5 ⟨rfl, y5⟩; rw [KU.out])
      | (go_at_call 10; refine (awakeI_any _).mono ?_; rintro e w10 ⟨rfl, b10⟩))
    go_ret
    have q5 := q2.trans (y5.mono q2.size)
    exact ⟨rfl, q5.trans (b10.mono q5.size)⟩

/-! ### The row's step -/
set_option maxRecDepth 100000 in
theorem lifted (os : Os) (started : os.Started) (H : Type) (enc : TypeId × Value → H) :
    ReturnsInHanded {} Try.checked os 4 .any (Rows.icmpParsesSpec.pre6 enc Try.prog Try.f4 Rows.icmpParsesRow.domain false) (Rows.icmpParsesSpec.post enc Try.prog Try.f4 false true false false) := by
  refine returnsInHanded_of_change (C := Try.checked) own started (by kernel_rfl) Try.func4
    (ChangeSpec.witness6 (enc := enc) (C := Try.checked) false ⟨#[], #[.slice none 0 0], []⟩ 8 (by kernel_rfl) (by kernel_rfl) (by kernel_rfl) (by kernel_rfl)) ?_
  intro W base args ds gs before hval0 hW hcnd _
  have hval : ∀ (j : Nat) t v, Try.f4.params[j]? = some t → args[j]? = some v → Value.okWide Try.prog W .any base t v := hval0
  have hW' := hW
  obtain ⟨p, q, hA0, hV, rfl, hfz, hnd⟩ := hW
  have hA : DataW.TrodAll enc Try.prog W 0 (fun _ => true) true Try.f4.params.toList args.toList ds p := hA0
  rw [Try.params4] at hA hval
  obtain ⟨v0, vs0, d0, ds0, p0, q0, hargs, rfl, rfl, t0, r0⟩ := trodAll_cons hA
  obtain ⟨rfl, rfl, rfl⟩ := trodAll_nil r0
  obtain rfl : args = #[v0] := by cases args; simp_all
  obtain ⟨rfl, rfl⟩ := trodVars_none hV
  have k0 := t0
  have lt0 := Trod_lt t0
  obtain ⟨A0, c0, b0, rfl, h0, m0⟩ := get_bytes Try.underlying22 Try.underlying5 (by kernel_rfl) (hval 0 22 v0 rfl rfl) t0
  clear hA0 hval0
  refine (walk A0 c0 b0 W h0 m0).mono fun e W' ⟨he, bel⟩ => ?_
  subst he
  exact ⟨_, rfl, _, _, _, [], _, [], hW', trodAll_mk1 (shut_bool Try.underlying4 _), (trodAll_cons_mk (Below.trod laidOut (by kernel_rfl) (of_decide_eq_true (by kernel_rfl)) k0 bel lt0) trodAll_mk0), rfl, bel.frame _, fun h => by cases h⟩

theorem over : Rows.icmpParsesRow.holds Try.pinned (OpenSpec.ofChange Rows.icmpParsesSpec) :=
  OpenClaim.holds_of_wide 4 Try.f4 rfl rfl rfl rfl rfl rfl rfl ⟨rfl, rfl, rfl, rfl, rfl⟩ rfl rfl rfl rfl rfl (by kernel_rfl) Try.func4 (by kernel_rfl)
    (of_decide_eq_true (by kernel_rfl)) (by unfold Func.isWrapper; first | (rw [if_pos (by decide +kernel)]; kernel_rfl) | (rw [if_neg (by decide +kernel)]; exact ⟨rfl, rfl⟩))
    (fun os started H enc _ => lifted os started H enc)

theorem proved : Rows.IcmpParsesSaid := over
end Go.Proofs.Ytobkiffiapjhgaa.icmpParses
