/-
  For every integer a and every string s, goosepondlaw03.FourBack answers true: the text of an address is that address, and a text that is one is its text.
  Conditions: none but the statement's own.
-/
import Derived.Test.YtokcelbpiglieaaDoorRows
import Derived.WalkKit
import Derived.ProofKit
import Derived.OpenShut
import Derived.ChangeOld
import Derived.Below
import Derived.Test.YtokcelbpiglieaaDoorOpen
import Derived.Test.YtokcelbpiglieaaDoorFourE
import Derived.Test.YtokcelbpiglieaaDoorLaid
import Derived.Test.YtokcelbpiglieaaDoorCards
import Derived.LaidMore
import Derived.SevenTiedAt
import Derived.Stop.Joined
namespace Go.Proofs.YtokcelbpiglieaaDoor.fourBack
open Go.ChangeShapes Go.WideShapes Go.ChangeAt Go.RowKit
set_option linter.unusedVariables false
attribute [local go_sem] Oper.semAt_some

theorem own : ownKnob Tryd.prog.godebug = none := by kernel_rfl
theorem laidOut : laidOutB Tryd.prog = true := by kernel_rfl

/-! ### The walk -/
set_option maxHeartbeats 4000000 in
theorem walk (a0 : Int) (a1 : ByteArray) (w : World) (w0 : (Lit.int .i64 a0).wf = true) (w1 : a1.size ≤ maxLen) (hT : Tabs w) :
    Calls Tryd.prog 5 #[.int .i64 a0, .string a1] w fun e w' => e = .returned (.bool true) ∧ Below w.heap.size w w' := by
  have hm : a1.size ≤ 9223372036854775807 := by simpa [maxLen] using w1
  have hTs : (strB (txtI a0)).size ≤ 9223372036854775807 := by
    rw [strB_size]; unfold txtI
    split
    · have := @txt_len a0.toNat; omega
    · simp
  have hA : (strB (txtI a0)).data.toList = txtI a0 := rfl
  clear w1
  have first : okB a0 = false ∨ (okB a0 = true ∧ parV (txtI a0) = a0 ∧ parE (txtI a0) = 0) := by
    by_cases h : 0 ≤ a0 ∧ a0 < 4294967296
    · right
      obtain ⟨n, rfl⟩ := Int.eq_ofNat_of_zero_le h.1
      have ht : txtI (n : Int) = txt n := by rw [txtI, if_pos h]; simp
      refine ⟨by simp only [okB, decide_eq_true_eq]; exact h, ?_⟩
      rw [ht]
      exact par_yes (by omega) rfl
    · left; simp only [okB, decide_eq_false_iff_not]; exact h
  obtain ⟨l, hl⟩ : ∃ l, l = a1.data.toList := ⟨_, rfl⟩
  have second : (∃ b : Int, parV l = b ∧ parE l = 0 ∧ ((strB (txtI b)).toList == a1.toList) = true) ∨ (parV l = 0 ∧ parE l = 4) := by
    rcases par_cases l with ⟨n, hn, ht, h1, h2⟩ | h
    · refine .inl ⟨n, h1, h2, ?_⟩
      have e : txtI (n : Int) = txt n := by rw [txtI, if_pos (by omega)]; simp
      have e2 : strB l = a1 := by subst hl; rfl
      rw [e, ht, e2]; simp
    · exact .inr h
  have Hl := Lib.hid hl.symm
  clear hl
  by_cases h : 2000 < a1.size
  · rcases first with h1 | ⟨h1, h2, h3⟩
    · go_enter Tryd.func5, Tryd.ntmps5
      go_wp2_with (first
        | (go_at_call 11; refine (c3text _ _ hT).mono ?_; rintro e w1 ⟨rfl, b1⟩)
        | (go_at_call 18; refine (c3parse _ _ hTs).mono ?_; rintro e w2 ⟨rfl, b2⟩)
        | (go_at_call 9; refine (c3right _ _).mono ?_; rintro e w3 ⟨rfl, b3⟩)
        | (go_at_call 17; refine (awake3_any _ (((hT.step b1).step b2).step b3)).mono ?_; rintro e w5 ⟨rfl, b5⟩))
      go_ret
      exact ⟨rfl, b1.trans ((b2.trans ((b3.trans (b5.mono b3.size)).mono b2.size)).mono b1.size)⟩
    · go_enter Tryd.func5, Tryd.ntmps5
      go_wp2_with (first
        | (go_at_call 11; refine (c3text _ _ hT).mono ?_; rintro e w1 ⟨rfl, b1⟩)
        | (go_at_call 18; refine (c3parse _ _ hTs).mono ?_; rintro e w2 ⟨rfl, b2⟩; rw [hA, h2, h3])
        | (go_at_call 9; refine (c3right _ _).mono ?_; rintro e w3 ⟨rfl, b3⟩)
        | (go_at_call 17; refine (awake3_any _ (((hT.step b1).step b2).step b3)).mono ?_; rintro e w5 ⟨rfl, b5⟩))
      go_ret
      exact ⟨rfl, b1.trans ((b2.trans ((b3.trans (b5.mono b3.size)).mono b2.size)).mono b1.size)⟩
  · have hd : decide (2000 < (a1.size : Int)) = false := by simp; omega
    rcases first with h1 | ⟨h1, h2, h3⟩
    · rcases second with ⟨b, k1, k2, k3⟩ | ⟨k1, k2⟩
      · go_enter Tryd.func5, Tryd.ntmps5
        go_wp2_with (first
          | (go_at_call 18; have g3 := b3; refine (c3parse a1 _ hm).mono ?_; clear g3; rintro e w5 ⟨rfl, b5⟩; rw [Hl.out, k1, k2])
          | (go_at_call 18; refine (c3parse _ _ hTs).mono ?_; rintro e w2 ⟨rfl, b2⟩)
          | (go_at_call 11; refine (c3text b _ ((((hT.step b1).step b2).step b3).step b5)).mono ?_; rintro e w6 ⟨rfl, b6⟩)
          | (go_at_call 11; refine (c3text a0 _ hT).mono ?_; rintro e w1 ⟨rfl, b1⟩)
          | (go_at_call 9; refine (c3right _ _).mono ?_; rintro e w3 ⟨rfl, b3⟩)
          | (go_at_call 17; refine (awake3_any _ (((((hT.step b1).step b2).step b3).step b5).step b6)).mono ?_; rintro e w7 ⟨rfl, b7⟩))
        go_ret
        exact ⟨rfl, b1.trans ((b2.trans ((b3.trans ((b5.trans ((b6.trans (b7.mono b6.size)).mono b5.size)).mono b3.size)).mono b2.size)).mono b1.size)⟩
      · go_enter Tryd.func5, Tryd.ntmps5
        go_wp2_with (first
          | (go_at_call 18; have g3 := b3; refine (c3parse a1 _ hm).mono ?_; clear g3; rintro e w5 ⟨rfl, b5⟩; rw [Hl.out, k1, k2])
          | (go_at_call 18; refine (c3parse _ _ hTs).mono ?_; rintro e w2 ⟨rfl, b2⟩)
          | (go_at_call 11; refine (c3text a0 _ hT).mono ?_; rintro e w1 ⟨rfl, b1⟩)
          | (go_at_call 9; refine (c3right _ _).mono ?_; rintro e w3 ⟨rfl, b3⟩)
          | (go_at_call 17; refine (awake3_any _ ((((hT.step b1).step b2).step b3).step b5)).mono ?_; rintro e w7 ⟨rfl, b7⟩))
        go_ret
        exact ⟨rfl, b1.trans ((b2.trans ((b3.trans ((b5.trans (b7.mono b5.size)).mono b3.size)).mono b2.size)).mono b1.size)⟩
    · rcases second with ⟨b, k1, k2, k3⟩ | ⟨k1, k2⟩
      · go_enter Tryd.func5, Tryd.ntmps5
        go_wp2_with (first
          | (go_at_call 18; have g3 := b3; refine (c3parse a1 _ hm).mono ?_; clear g3; rintro e w5 ⟨rfl, b5⟩; rw [Hl.out, k1, k2])
          | (go_at_call 18; refine (c3parse _ _ hTs).mono ?_; rintro e w2 ⟨rfl, b2⟩; rw [hA, h2, h3])
          | (go_at_call 11; refine (c3text b _ ((((hT.step b1).step b2).step b3).step b5)).mono ?_; rintro e w6 ⟨rfl, b6⟩)
          | (go_at_call 11; refine (c3text a0 _ hT).mono ?_; rintro e w1 ⟨rfl, b1⟩)
          | (go_at_call 9; refine (c3right _ _).mono ?_; rintro e w3 ⟨rfl, b3⟩)
          | (go_at_call 17; refine (awake3_any _ (((((hT.step b1).step b2).step b3).step b5).step b6)).mono ?_; rintro e w7 ⟨rfl, b7⟩))
        go_ret
        exact ⟨rfl, b1.trans ((b2.trans ((b3.trans ((b5.trans ((b6.trans (b7.mono b6.size)).mono b5.size)).mono b3.size)).mono b2.size)).mono b1.size)⟩
      · go_enter Tryd.func5, Tryd.ntmps5
        go_wp2_with (first
          | (go_at_call 18; have g3 := b3; refine (c3parse a1 _ hm).mono ?_; clear g3; rintro e w5 ⟨rfl, b5⟩; rw [Hl.out, k1, k2])
          | (go_at_call 18; refine (c3parse _ _ hTs).mono ?_; rintro e w2 ⟨rfl, b2⟩; rw [hA, h2, h3])
          | (go_at_call 11; refine (c3text a0 _ hT).mono ?_; rintro e w1 ⟨rfl, b1⟩)
          | (go_at_call 9; refine (c3right _ _).mono ?_; rintro e w3 ⟨rfl, b3⟩)
          | (go_at_call 17; refine (awake3_any _ ((((hT.step b1).step b2).step b3).step b5)).mono ?_; rintro e w7 ⟨rfl, b7⟩))
        go_ret
        exact ⟨rfl, b1.trans ((b2.trans ((b3.trans ((b5.trans (b7.mono b5.size)).mono b3.size)).mono b2.size)).mono b1.size)⟩

/-! ### The row's step -/
set_option maxRecDepth 100000 in
theorem lifted (os : Os) (started : os.Started) (H : Type) (enc : TypeId × Value → H) :
    ReturnsInHanded {} Tryd.checked os 5 .any (fun w args => (Rows.fourBackSpec.pre enc Tryd.prog Tryd.f5 [] false w args ∧ laidMetH Tryd.prog laidAll w) ∧ sizedMet enc Tryd.prog Tryd.f5 (OpenSpec.ofChange Rows.fourBackSpec) false w args) (Rows.fourBackSpec.post enc Tryd.prog Tryd.f5 false true false false) := by
  refine returnsInHanded_of_change_and (C := Tryd.checked) (X := fun w _ => laidMetH Tryd.prog laidAll w) (fun _ _ _ hh h => h.of_heap hh) own started (by kernel_rfl) Tryd.func5
    (ChangeSpec.witness_shaped (enc := enc) (C := Tryd.checked) (os := os) (X := fun w _ => laidMetH Tryd.prog laidAll w) false (World.doorLaid Tryd.prog 24 os) #[.int .i64 0, .string ByteArray.empty] 8 rfl (door_shaped os _) (by kernel_rfl) (by kernel_rfl) (by kernel_rfl) (door_met os _)) ?_
  intro W base args ds gs before hval0 hW _ _ hL _
  have hval : ∀ (j : Nat) t v, Tryd.f5.params[j]? = some t → args[j]? = some v → Value.okWide Tryd.prog W .any base t v := hval0
  have hW' := hW
  obtain ⟨p, q, hA0, hV, rfl, hfz, hnd⟩ := hW
  have hA : DataW.TrodAll enc Tryd.prog W 0 (fun _ => true) true Tryd.f5.params.toList args.toList ds p := hA0
  rw [Tryd.params5] at hA hval
  obtain ⟨v0, vs0, d0, ds0, p0, q0, hargs, rfl, rfl, t0, r0⟩ := trodAll_cons hA
  obtain ⟨v1, vs1, d1, ds1, p1, q1, rfl, rfl, rfl, t1, r1⟩ := trodAll_cons r0
  obtain ⟨rfl, rfl, rfl⟩ := trodAll_nil r1
  obtain rfl : args = #[v0, v1] := by cases args; simp_all
  obtain ⟨rfl, rfl⟩ := trodVars_none hV
  have k0 := t0
  have lt0 := Trod_lt t0
  have k1 := t1
  have lt1 := Trod_lt t1
  obtain ⟨a0, rfl, w0⟩ := get_int Tryd.underlying3 (hval 0 3 v0 rfl rfl) t0
  obtain ⟨a1, rfl, w1⟩ := get_str Tryd.underlying9 (hval 1 9 v1 rfl rfl) t1
  clear hA0 hval0
  refine (walk a0 a1 W w0 w1 (tabs_of_laid hL)).mono fun e W' ⟨he, bel⟩ => ?_
  subst he
  exact ⟨_, rfl, _, _, _, [], _, [], hW', trodAll_mk1 (shut_bool Tryd.underlying4 _), (trodAll_cons_mk (Below.trod laidOut (by kernel_rfl) (of_decide_eq_true (by kernel_rfl)) k0 bel lt0) (trodAll_cons_mk (Below.trod laidOut (by kernel_rfl) (of_decide_eq_true (by kernel_rfl)) k1 bel lt1) trodAll_mk0)), rfl, bel.frame _, fun h => by cases h⟩

theorem over : Rows.fourBackRow.holds Tryd.pinned (OpenSpec.ofChange Rows.fourBackSpec) :=
  OpenClaim.holds_of_wide 5 Tryd.f5 rfl rfl rfl rfl rfl rfl rfl ⟨rfl, rfl, rfl, rfl, rfl⟩ rfl rfl rfl rfl rfl (by kernel_rfl) Tryd.func5 (by kernel_rfl)
    (of_decide_eq_true (by kernel_rfl)) (by unfold Func.isWrapper; first | (rw [if_pos (by decide +kernel)]; kernel_rfl) | (rw [if_neg (by decide +kernel)]; exact ⟨rfl, rfl⟩))
    (fun os started H enc _ => lifted os started H enc)

theorem proved : Rows.FourBackCardSaid :=
  Claim7.holds_tied_plain_at .later [] Rows.fourBackCard.laidKinds true Rows.fourBackCard.stood.harness false
    over (fun _ h => by cases h) (by kernel_rfl) (fun _ h => by cases h) fourBack_row_tie rfl ⟨rfl, rfl⟩ (by kernel_rfl) rfl
    (fun f fn hf hfn => by
      obtain rfl : f = 5 := Option.some.inj ((show Tryd.prog.funcNamed "goosepond/goosepondlaw03.FourBack" = some 5 by kernel_rfl).symm.trans hf) |>.symm
      obtain rfl : fn = Tryd.f5 := (Option.some.inj (Tryd.func5.symm.trans hfn)).symm
      exact ⟨by kernel_rfl, fun j t ht => by
        have hall : (Tryd.f5.params.toList.all fun u => !Tryd.prog.wantsStandIn u) = true := by kernel_rfl
        have hm : t ∈ Tryd.f5.params.toList := by simpa using Array.mem_of_getElem? ht
        exact (show Tryd.prog.wantsStandIn t = false by simpa using List.all_eq_true.1 hall t hm)⟩)
    (by kernel_rfl)
end Go.Proofs.YtokcelbpiglieaaDoor.fourBack
