/-
  For all messages, goosepondlaw09.IcmpBack answers true: a message that may be is parsed from its bytes.
  Conditions: none but the statement's own.
-/
import Derived.Test.YtobkiffiapjhgaaRows
import Derived.WalkKit
import Derived.ProofKit
import Derived.OpenShut
import Derived.ChangeOld
import Derived.Below
import Derived.Test.YtobkiffiapjhgaaMa1
import Derived.Test.YtobkiffiapjhgaaMa8
namespace Go.Proofs.Ytobkiffiapjhgaa.icmpBack
open Go.ChangeShapes Go.WideShapes Go.ChangeAt Go.RowKit
set_option linter.unusedVariables false
attribute [local go_sem] Oper.semAt_some

theorem own : ownKnob Try.prog.godebug = none := by kernel_rfl
theorem laidOut : laidOutB Try.prog = true := by kernel_rfl

/-! ### The walk -/
set_option maxRecDepth 100000 in
set_option maxHeartbeats 4000000 in
theorem walk (x0 : PI) (A0 : Option Addr) (c0 : Nat) (w : World) (h0 : Arg w w.heap.size A0 c0 x0.dat) (m0 : c0 ≤ maxLen) (w0 : x0.fits) :
    Calls Try.prog 6 #[isv x0 A0 c0] w fun e w' => e = .returned (.bool true) ∧ Below w.heap.size w w' := by
  have hB0 : Below w.heap.size w (w.alloc (.cells (isa x0 A0 c0) 24)) := (Below.refl _ w).alloc (Nat.le_refl _) _
  have hAt := Atis.new (q := x0) (A := A0) (c := c0) w
  have hz0 : w.heap.size < (w.alloc (.cells (isa x0 A0 c0) 24)).heap.size := by simp
  rw [isv_eq]
  go_enter Try.func6, Try.ntmps6
  go_upto_region 1 with fail
  generalize w.alloc (.cells (isa x0 A0 c0) 24) = W at *
  have k0dat := hAt.dat
  by_cases h0dat : 3000 < x0.dat.length
  · have d0dat : decide (3000 < (x0.dat.length : Int)) = true := by simp; omega
    go_wp2_with (first | (go_at_call 10; refine (awakeI_any _).mono ?_; rintro e w10 ⟨rfl, b10⟩))
    go_ret
    exact ⟨rfl, hB0.trans (b10.mono hB0.size)⟩
  · have d0dat : decide (3000 < (x0.dat.length : Int)) = false := by simp; omega
    have l0dat : x0.dat.length ≤ 3000 := by omega
    clear h0dat
    by_cases hc : chkI x0 = 0
    · have HC := Lib.hid hc
      obtain ⟨kp1, kp2⟩ := backI (p := []) (q := x0) hc
      obtain ⟨R, hR⟩ : ∃ l, l = bldI [] x0 := ⟨_, rfl⟩
      rw [← hR] at kp1 kp2
      have HR := Lib.hid hR
      have KV := Lib.hid kp2
      have KE := Lib.hid kp1
      have KS := Lib.hid (sameI_iff.2 (rfl : x0 = x0))
      have hRl : R.length ≤ 4000 := by rw [hR, bldI_len]; omega
      clear hc kp1 kp2 hR
      go_upto_region 7 with (first
        | ((with_reducible show wpList _ _ _ (Oper.mk _ (Op.load 24 _) _ _ _ _ :: _) _ _); refine wpList_valw (by rfl) (run_load_is rfl rfl hAt rfl) ?_)
        | (go_at_call 11; refine (cIbuild x0 A0 c0 _ w.heap.size (h0.below hB0) hB0.size (by omega)).mono ?_; rintro e w2 ⟨v2, rfl, _, n2⟩; have n2 := n2 HC.out; rw [← HR.out] at n2; rw [HC.out]; obtain ⟨P2, k2, rfl, g2, o2, y2⟩ := made_shape n2)
        | (go_at_call 18; refine (cIparse R P2 k2 _ _ g2 (Nat.le_refl _) (by omega)).mono ?_; rintro e w5 ⟨P5, p5, rfl, mdat⟩; rw [KV.out, KE.out]; rw [KV.out] at mdat)
        | ((with_reducible show wpList _ _ _ (Oper.mk _ (Op.store _ _ _) _ _ _ _ :: _) _ _); refine is_store_new (cs := isa x0 P5 p5) rfl rfl rfl rfl (is_one _ _ _) ?_))
      have y5 := mdat.below
      have ja : Below w5.heap.size w5 (w5.alloc (.cells (isa x0 P5 p5) 24)) := (Below.refl _ w5).alloc (Nat.le_refl _) _
      have at9 := Atis.new (q := x0) (A := P5) (c := p5) w5
      have r5 : Rd (w5.alloc (.cells (isa x0 P5 p5) 24)) (w5.alloc (.cells (isa x0 P5 p5) 24)).heap.size P5 x0.dat := by { obtain ⟨_, _, e1, _, e3, _, _⟩ := id mdat; cases e1; exact (e3.below ja).more ja.size }
      have hz5 : w5.heap.size < (w5.alloc (.cells (isa x0 P5 p5) 24)).heap.size := by simp
      have x0X : Below W.heap.size W (w5.alloc (.cells (isa x0 P5 p5) 24)) := (y2.trans (y5.mono y2.size)).trans (ja.mono (by have := y2.size; have := y5.size; omega))
      have qX := hB0.trans (x0X.mono hB0.size)
      have at0 := hAt.below x0X hz0
      have r0 := ((h0.below qX).rd).more qX.size
      clear mdat ja y2 y5 x0X g2 o2 n2 hAt
      generalize w5.alloc (.cells (isa x0 P5 p5) 24) = X at *
      go_wp2_with (first
        | ((with_reducible show wpList _ _ _ (Oper.mk (some 33) (Op.load 24 _) _ _ _ _ :: _) _ _); refine wpList_valw (by rfl) (run_load_is rfl rfl at0 rfl) ?_)
        | ((with_reducible show wpList _ _ _ (Oper.mk (some 34) (Op.load 24 _) _ _ _ _ :: _) _ _); refine wpList_valw (by rfl) (run_load_is rfl rfl at9 rfl) ?_)
        | (go_at_call 16; refine (cIsame x0 x0 A0 c0 P5 p5 X.heap.size _ (Nat.le_refl _) r0 r5).mono ?_; rintro e w6 ⟨rfl, y6⟩; rw [KS.out])
        | (go_at_call 10; refine (awakeI_any _).mono ?_; rintro e w10 ⟨rfl, b10⟩))
      go_ret
      have q6 := qX.trans (y6.mono qX.size)
      exact ⟨rfl, q6.trans (b10.mono q6.size)⟩
    · have HN := Lib.hid hc
      have dC : (chkI x0 != 0) = true := by simpa using hc
      clear hc
      go_wp2_with (first
        | ((with_reducible show wpList _ _ _ (Oper.mk _ (Op.load 24 _) _ _ _ _ :: _) _ _); refine wpList_valw (by rfl) (run_load_is rfl rfl hAt rfl) ?_)
        | (go_at_call 11; refine (cIbuild x0 A0 c0 _ w.heap.size (h0.below hB0) hB0.size (by omega)).mono ?_; rintro e w2 ⟨v2, rfl, n2, _⟩; obtain ⟨rfl, y2⟩ := n2 HN.out)
        | (go_at_call 10; refine (awakeI_any _).mono ?_; rintro e w10 ⟨rfl, b10⟩))
      go_ret
      have q2 := hB0.trans (y2.mono hB0.size)
      exact ⟨rfl, q2.trans (b10.mono q2.size)⟩

/-! ### The row's step -/
set_option maxRecDepth 100000 in
theorem lifted (os : Os) (started : os.Started) (H : Type) (enc : TypeId × Value → H) :
    ReturnsInHanded {} Try.checked os 6 .any (Rows.icmpBackSpec.pre6 enc Try.prog Try.f6 Rows.icmpBackRow.domain false) (Rows.icmpBackSpec.post enc Try.prog Try.f6 false true false false) := by
  refine returnsInHanded_of_change (C := Try.checked) own started (by kernel_rfl) Try.func6
    (ChangeSpec.witness6 (enc := enc) (C := Try.checked) false ⟨#[], #[.agg #[.int .i64 0, .int .i64 0, .int .i64 0, .slice none 0 0]], []⟩ 8 (by kernel_rfl) (by kernel_rfl) (by kernel_rfl) (by kernel_rfl)) ?_
  intro W base args ds gs before hval0 hW hcnd _
  have hval : ∀ (j : Nat) t v, Try.f6.params[j]? = some t → args[j]? = some v → Value.okWide Try.prog W .any base t v := hval0
  have hW' := hW
  obtain ⟨p, q, hA0, hV, rfl, hfz, hnd⟩ := hW
  have hA : DataW.TrodAll enc Try.prog W 0 (fun _ => true) true Try.f6.params.toList args.toList ds p := hA0
  rw [Try.params6] at hA hval
  obtain ⟨v0, vs0, d0, ds0, p0, q0, hargs, rfl, rfl, t0, r0⟩ := trodAll_cons hA
  obtain ⟨rfl, rfl, rfl⟩ := trodAll_nil r0
  obtain rfl : args = #[v0] := by cases args; simp_all
  obtain ⟨rfl, rfl⟩ := trodVars_none hV
  have k0 := t0
  have lt0 := Trod_lt t0
  obtain ⟨x0, A0, c0, rfl, h0, m0, w0⟩ := get_is (hval 0 24 v0 rfl rfl) t0
  clear hA0 hval0
  refine (walk x0 A0 c0 W h0 m0 w0).mono fun e W' ⟨he, bel⟩ => ?_
  subst he
  exact ⟨_, rfl, _, _, _, [], _, [], hW', trodAll_mk1 (shut_bool Try.underlying4 _), (trodAll_cons_mk (Below.trod laidOut (by kernel_rfl) (of_decide_eq_true (by kernel_rfl)) k0 bel lt0) trodAll_mk0), rfl, bel.frame _, fun h => by cases h⟩

theorem over : Rows.icmpBackRow.holds Try.pinned (OpenSpec.ofChange Rows.icmpBackSpec) :=
  OpenClaim.holds_of_wide 6 Try.f6 rfl rfl rfl rfl rfl rfl rfl ⟨rfl, rfl, rfl, rfl, rfl⟩ rfl rfl rfl rfl rfl (by kernel_rfl) Try.func6 (by kernel_rfl)
    (of_decide_eq_true (by kernel_rfl)) (by unfold Func.isWrapper; first | (rw [if_pos (by decide +kernel)]; kernel_rfl) | (rw [if_neg (by decide +kernel)]; exact ⟨rfl, rfl⟩))
    (fun os started H enc _ => lifted os started H enc)

theorem proved : Rows.IcmpBackSaid := over
end Go.Proofs.Ytobkiffiapjhgaa.icmpBack
