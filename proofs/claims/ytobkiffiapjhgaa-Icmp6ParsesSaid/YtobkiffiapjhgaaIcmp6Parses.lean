/-
  For all addresses and bytes, goosepondlaw10.Icmp6Parses answers true: any bytes are the message that the document says, or refused.
  Conditions: none but the statement's own.
-/
import Derived.Test.YtobkiffiapjhgaaRows
import Derived.WalkKit
import Derived.ProofKit
import Derived.OpenShut
import Derived.ChangeOld
import Derived.Below
import Derived.Test.YtobkiffiapjhgaaMa1
import Derived.Test.YtobkiffiapjhgaaMb2
namespace Go.Proofs.Ytobkiffiapjhgaa.icmp6Parses
open Go.ChangeShapes Go.WideShapes Go.ChangeAt Go.RowKit
set_option linter.unusedVariables false
attribute [local go_sem] Oper.semAt_some

theorem own : ownKnob Try.prog.godebug = none := by kernel_rfl
theorem laidOut : laidOutB Try.prog = true := by kernel_rfl

/-! ### The walk -/
set_option maxRecDepth 100000 in
set_option maxHeartbeats 4000000 in
theorem walk (b0 : List UInt8) (b1 : List UInt8) (A2 : Option Addr) (c2 : Nat) (b2 : List UInt8) (w : World) (h0 : b0.length = 16) (h1 : b1.length = 16) (h2 : Arg w w.heap.size A2 c2 b2) (m2 : c2 ≤ maxLen) :
    Calls Try.prog 8 #[.agg (cel b0), .agg (cel b1), .slice A2 b2.length c2] w fun e w' => e = .returned (.bool true) ∧ Below w.heap.size w w' := by
  have hB0 : Below w.heap.size w ((w.alloc (.cells (cel b0) 41)).alloc (.cells (cel b1) 41)) := below_two w _ _
  have at0 := six_first w (cel b0) (cel b1) 41 b0 rfl
  have at1 := six_second w (cel b0) (cel b1) 41 b1 rfl
  have hz0 : w.heap.size + 1 < ((w.alloc (.cells (cel b0) 41)).alloc (.cells (cel b1) 41)).heap.size := by simp
  go_enter Try.func8, Try.ntmps8
  go_upto_region 1 with fail
  generalize (w.alloc (.cells (cel b0) 41)).alloc (.cells (cel b1) 41) = W at *
  by_cases h3 : 3000 < b2.length
  · have d3 : decide (3000 < (b2.length : Int)) = true := by simp; omega
    go_wp2_with (go_at_call 28; refine (awakeJ_any _).mono ?_; rintro e w10 ⟨rfl, b10⟩)
    go_ret
    exact ⟨rfl, hB0.trans (b10.mono hB0.size)⟩
  · have d3 : decide (3000 < (b2.length : Int)) = false := by simp; omega
    have l3 : b2.length ≤ 3000 := by omega
    clear h3
    obtain ⟨u, hu⟩ : ∃ q, q = prsI (preJ b0 b1 b2) b2 := ⟨_, rfl⟩
    obtain ⟨E, hE⟩ : ∃ q, q = badI (preJ b0 b1 b2) b2 := ⟨_, rfl⟩
    have HU := Lib.hid hu; have HE := Lib.hid hE
    have KU := Lib.hid (sameI_iff.2 (rfl : u = u))
    clear hu hE
    go_upto_region 3 with fail
    go_upto_region 4 with (first
      | ((with_reducible show wpList _ _ _ (Oper.mk (some 16) (Op.load 41 _) _ _ _ _ :: _) _ _); refine wpList_valw (by rfl) (run_load_six rfl rfl at0 h0) ?_)
      | ((with_reducible show wpList _ _ _ (Oper.mk (some 17) (Op.load 41 _) _ _ _ _ :: _) _ _); refine wpList_valw (by rfl) (run_load_six rfl rfl at1 h1) ?_)
      | (go_at_call 35; refine (cJparse b0 b1 b2 A2 c2 _ w.heap.size (h2.below hB0) hB0.size (by omega) h0 h1).mono ?_; rintro e w1 ⟨P1, p1, rfl, m1⟩; rw [← HU.out] at m1; rw [← HU.out, ← HE.out])
      | ((with_reducible show wpList _ _ _ (Oper.mk _ (Op.store _ _ _) _ _ _ _ :: _) _ _); refine is_store_new (cs := isa u P1 p1) rfl rfl rfl rfl (is_one _ _ _) ?_))
    have y1 := m1.below
    have at1m := Atis.new (q := u) (A := P1) (c := p1) w1
    have ja : Below w1.heap.size w1 (w1.alloc (.cells (isa u P1 p1) 24)) := (Below.refl _ w1).alloc (Nat.le_refl _) _
    have r1 := (((made_arg m1).below ja).more ja.size).rd
    have z1 : w1.heap.size < (w1.alloc (.cells (isa u P1 p1) 24)).heap.size := by simp
    have x1 := y1.trans (ja.mono y1.size)
    have q1 := hB0.trans (x1.mono hB0.size)
    clear m1 ja y1
    generalize w1.alloc (.cells (isa u P1 p1) 24) = X1 at *
    have at0 := range_below at0 (B := W.heap.size) (by omega) x1
    have at1 := range_below at1 (B := W.heap.size) (by omega) x1
    go_upto_region 5 with (first
      | ((with_reducible show wpList _ _ _ (Oper.mk (some 23) (Op.load 41 _) _ _ _ _ :: _) _ _); refine wpList_valw (by rfl) (run_load_six rfl rfl at0 h0) ?_)
      | ((with_reducible show wpList _ _ _ (Oper.mk (some 24) (Op.load 41 _) _ _ _ _ :: _) _ _); refine wpList_valw (by rfl) (run_load_six rfl rfl at1 h1) ?_)
      | (go_at_call 36; refine (rJparse b0 b1 b2 A2 c2 _ w.heap.size (h2.below q1) q1.size (by omega) h0 h1).mono ?_; rintro e w2 ⟨P2, p2, rfl, m2⟩; rw [← HU.out] at m2; rw [← HU.out, ← HE.out])
      | ((with_reducible show wpList _ _ _ (Oper.mk _ (Op.store _ _ _) _ _ _ _ :: _) _ _); refine is_store_new (cs := isa u P2 p2) rfl rfl rfl rfl (is_one _ _ _) ?_))
    have y2 := m2.below
    have at2m := Atis.new (q := u) (A := P2) (c := p2) w2
    have ja : Below w2.heap.size w2 (w2.alloc (.cells (isa u P2 p2) 24)) := (Below.refl _ w2).alloc (Nat.le_refl _) _
    have r2 := (((made_arg m2).below ja).more ja.size).rd
    have z2 : w2.heap.size < (w2.alloc (.cells (isa u P2 p2) 24)).heap.size := by simp
    have x2 := y2.trans (ja.mono y2.size)
    have q2 := q1.trans (x2.mono q1.size)
    clear m2 ja y2
    generalize w2.alloc (.cells (isa u P2 p2) 24) = X2 at *
    have k1 := at1m.below x2 z1
    have r1 := (r1.below x2).more x2.size
    clear at1m x1 x2 q1 at0 at1
    go_wp2_with (first
      | ((with_reducible show wpList _ _ _ (Oper.mk (some 33) (Op.load 24 _) _ _ _ _ :: _) _ _); refine wpList_valw (by rfl) (run_load_is rfl rfl k1 rfl) ?_)
      | ((with_reducible show wpList _ _ _ (Oper.mk (some 34) (Op.load 24 _) _ _ _ _ :: _) _ _); refine wpList_valw (by rfl) (run_load_is rfl rfl at2m rfl) ?_)
      | (go_at_call 17; refine (rIsame u u P1 p1 P2 p2 X2.heap.size _ (Nat.le_refl _) r1 r2).mono ?_; rintro e w5 ⟨rfl, y5⟩; rw [KU.out])
      | (go_at_call 28; refine (awakeJ_any _).mono ?_; rintro e w10 ⟨rfl, b10⟩))
    go_ret
    have q5 := q2.trans (y5.mono q2.size)
    exact ⟨rfl, q5.trans (b10.mono q5.size)⟩

/-! ### The row's step -/
set_option maxRecDepth 100000 in
theorem lifted (os : Os) (started : os.Started) (H : Type) (enc : TypeId × Value → H) :
    ReturnsInHanded {} Try.checked os 8 .any (Rows.icmp6ParsesSpec.pre6 enc Try.prog Try.f8 Rows.icmp6ParsesRow.domain false) (Rows.icmp6ParsesSpec.post enc Try.prog Try.f8 false true false false) := by
  refine returnsInHanded_of_change (C := Try.checked) own started (by kernel_rfl) Try.func8
    (ChangeSpec.witness6 (enc := enc) (C := Try.checked) false ⟨#[], #[.agg #[.int .u8 0, .int .u8 0, .int .u8 0, .int .u8 0, .int .u8 0, .int .u8 0, .int .u8 0, .int .u8 0, .int .u8 0, .int .u8 0, .int .u8 0, .int .u8 0, .int .u8 0, .int .u8 0, .int .u8 0, .int .u8 0], .agg #[.int .u8 0, .int .u8 0, .int .u8 0, .int .u8 0, .int .u8 0, .int .u8 0, .int .u8 0, .int .u8 0, .int .u8 0, .int .u8 0, .int .u8 0, .int .u8 0, .int .u8 0, .int .u8 0, .int .u8 0, .int .u8 0], .slice none 0 0], []⟩ 8 (by kernel_rfl) (by kernel_rfl) (by kernel_rfl) (by kernel_rfl)) ?_
  intro W base args ds gs before hval0 hW hcnd _
  have hval : ∀ (j : Nat) t v, Try.f8.params[j]? = some t → args[j]? = some v → Value.okWide Try.prog W .any base t v := hval0
  have hW' := hW
  obtain ⟨p, q, hA0, hV, rfl, hfz, hnd⟩ := hW
  have hA : DataW.TrodAll enc Try.prog W 0 (fun _ => true) true Try.f8.params.toList args.toList ds p := hA0
  rw [Try.params8] at hA hval
  obtain ⟨v0, vs0, d0, ds0, p0, q0, hargs, rfl, rfl, t0, r0⟩ := trodAll_cons hA
  obtain ⟨v1, vs1, d1, ds1, p1, q1, rfl, rfl, rfl, t1, r1⟩ := trodAll_cons r0
  obtain ⟨v2, vs2, d2, ds2, p2, q2, rfl, rfl, rfl, t2, r2⟩ := trodAll_cons r1
  obtain ⟨rfl, rfl, rfl⟩ := trodAll_nil r2
  obtain rfl : args = #[v0, v1, v2] := by cases args; simp_all
  obtain ⟨rfl, rfl⟩ := trodVars_none hV
  have k0 := t0
  have lt0 := Trod_lt t0
  have k1 := t1
  have lt1 := Trod_lt t1
  have k2 := t2
  have lt2 := Trod_lt t2
  obtain ⟨b0, rfl, h0⟩ := get_six Try.underlying41 Try.underlying5 (by kernel_rfl) (by kernel_rfl) (hval 0 41 v0 rfl rfl) t0
  obtain ⟨b1, rfl, h1⟩ := get_six Try.underlying41 Try.underlying5 (by kernel_rfl) (by kernel_rfl) (hval 1 41 v1 rfl rfl) t1
  obtain ⟨A2, c2, b2, rfl, h2, m2⟩ := get_bytes Try.underlying22 Try.underlying5 (by kernel_rfl) (hval 2 22 v2 rfl rfl) t2
  clear hA0 hval0
  refine (walk b0 b1 A2 c2 b2 W h0 h1 h2 m2).mono fun e W' ⟨he, bel⟩ => ?_
  subst he
  exact ⟨_, rfl, _, _, _, [], _, [], hW', trodAll_mk1 (shut_bool Try.underlying4 _), (trodAll_cons_mk (Below.trod laidOut (by kernel_rfl) (of_decide_eq_true (by kernel_rfl)) k0 bel lt0) (trodAll_cons_mk (Below.trod laidOut (by kernel_rfl) (of_decide_eq_true (by kernel_rfl)) k1 bel lt1) (trodAll_cons_mk (Below.trod laidOut (by kernel_rfl) (of_decide_eq_true (by kernel_rfl)) k2 bel lt2) trodAll_mk0))), rfl, bel.frame _, fun h => by cases h⟩

theorem over : Rows.icmp6ParsesRow.holds Try.pinned (OpenSpec.ofChange Rows.icmp6ParsesSpec) :=
  OpenClaim.holds_of_wide 8 Try.f8 rfl rfl rfl rfl rfl rfl rfl ⟨rfl, rfl, rfl, rfl, rfl⟩ rfl rfl rfl rfl rfl (by kernel_rfl) Try.func8 (by kernel_rfl)
    (of_decide_eq_true (by kernel_rfl)) (by unfold Func.isWrapper; first | (rw [if_pos (by decide +kernel)]; kernel_rfl) | (rw [if_neg (by decide +kernel)]; exact ⟨rfl, rfl⟩))
    (fun os started H enc _ => lifted os started H enc)

theorem proved : Rows.Icmp6ParsesSaid := over
end Go.Proofs.Ytobkiffiapjhgaa.icmp6Parses
