/-
  For every string s, goosepondlaw04.SixParses answers true: a text is the address that the document says, or none.
  Conditions: none but the statement's own.
-/
import Derived.Test.YtokcelbpiglieaaDoorRows
import Derived.WalkKit
import Derived.ProofKit
import Derived.OpenShut
import Derived.ChangeOld
import Derived.Below
import Derived.Test.YtokcelbpiglieaaDoorOpen
import Derived.Test.YtokcelbpiglieaaDoorSixE
import Derived.Test.YtokcelbpiglieaaDoorLaid
import Derived.Test.YtokcelbpiglieaaDoorCards
import Derived.LaidMore
import Derived.SevenTiedAt
import Derived.Stop.Joined
namespace Go.Proofs.YtokcelbpiglieaaDoor.sixParses
open Go.ChangeShapes Go.WideShapes Go.ChangeAt Go.RowKit
set_option linter.unusedVariables false
attribute [local go_sem] Oper.semAt_some

theorem own : ownKnob Tryd.prog.godebug = none := by kernel_rfl
theorem laidOut : laidOutB Tryd.prog = true := by kernel_rfl

/-! ### The walk -/
set_option maxHeartbeats 4000000 in
theorem walk (a0 : ByteArray) (w : World) (w0 : a0.size ≤ maxLen) (hT : Tabs w) :
    Calls Tryd.prog 7 #[.string a0] w fun e w' => e = .returned (.bool true) ∧ Below w.heap.size w w' := by
  have hm : a0.size ≤ 9223372036854775807 := by simpa [maxLen] using w0
  clear w0
  have hlen := parV6_len a0.data.toList
  have hE : ∀ w, (Op.equalIn 10000 31 (.agg (cel (parV6 a0.data.toList))) (.agg (cel (parV6 a0.data.toList)))).run Tryd.prog w = .ok true w := fun w => by
    have := six_eq (parV6 a0.data.toList) (parV6 a0.data.toList) hlen hlen w
    rw [show decide (parV6 a0.data.toList = parV6 a0.data.toList) = true from by simp] at this
    exact this
  by_cases h : 2000 < a0.size
  · go_enter Tryd.func7, Tryd.ntmps7
    go_wp2_with (go_at_call 20; refine (awake4_any _ hT).mono ?_; rintro e w5 ⟨rfl, b5⟩)
    go_ret
    exact ⟨rfl, b5⟩
  · have hd : decide (2000 < (a0.size : Int)) = false := by simp; omega
    generalize hP : parV6 a0.data.toList = P at *
    have HP := Lib.hid hP
    clear hP
    go_enter Tryd.func7, Tryd.ntmps7
    go_wp2_with (first
      | (go_at_call 29; refine (c4parse _ _ hm).mono ?_; rintro e w1 ⟨rfl, b1⟩; rw [HP.out])
      | (go_at_call 30; refine (r4parse _ _ hm).mono ?_; rintro e w2 ⟨rfl, b2⟩; rw [HP.out];
         have hz : (w1.alloc (.cells (cel P) 31)).heap.size = w1.heap.size + 1 := by simp;
         have hg1 := (b2.block w1.heap.size (by rw [hz]; omega)).trans (World.alloc_heap_new w1 (.cells (cel P) 31));
         have hs2 : w1.heap.size < w2.heap.size := by (have := b2.size; omega);
         have hg2 : ∀ o, (w2.alloc o).heap[w1.heap.size]? = some (.cells (cel P) 31) := fun o => (Below.heap_alloc w2 o _ hs2).trans hg1;
         have q2 : Below w.heap.size w w2 := (b1.alloc b1.size _).trans (b2.mono (by (rw [hz]; have := b1.size; omega)));
         clear hz)
      | ((with_reducible show wpList _ _ _ (Oper.mk _ (Op.store _ _ _) _ _ _ _ :: _) _ _); refine six_store_new (cs := P) rfl rfl rfl hlen ?_)
      | ((with_reducible show wpList _ _ _ (Oper.mk _ (Op.load _ _) _ _ _ _ :: _) _ _); refine six_load (g := w1.heap.size) rfl (hg2 _) hlen ?_)
      | ((with_reducible show wpList _ _ _ (Oper.mk _ (Op.load _ _) _ _ _ _ :: _) _ _); refine six_load (g := w2.heap.size) rfl (World.alloc_heap_new w2 _) hlen ?_)
      | (go_at_call 20; refine (awake4_any _ (tabs_step (q2.alloc q2.size _) hT)).mono ?_; rintro e w5 ⟨rfl, b5⟩))
    go_ret
    exact ⟨rfl, (q2.alloc q2.size _).trans (b5.mono (by (have := q2.size; simp; omega)))⟩

/-! ### The row's step -/
set_option maxRecDepth 100000 in
theorem lifted (os : Os) (started : os.Started) (H : Type) (enc : TypeId × Value → H) :
    ReturnsInHanded {} Tryd.checked os 7 .any (fun w args => (Rows.sixParsesSpec.pre enc Tryd.prog Tryd.f7 [] false w args ∧ laidMetH Tryd.prog laidAll w) ∧ sizedMet enc Tryd.prog Tryd.f7 (OpenSpec.ofChange Rows.sixParsesSpec) false w args) (Rows.sixParsesSpec.post enc Tryd.prog Tryd.f7 false true false false) := by
  refine returnsInHanded_of_change_and (C := Tryd.checked) (X := fun w _ => laidMetH Tryd.prog laidAll w) (fun _ _ _ hh h => h.of_heap hh) own started (by kernel_rfl) Tryd.func7
    (ChangeSpec.witness_shaped (enc := enc) (C := Tryd.checked) (os := os) (X := fun w _ => laidMetH Tryd.prog laidAll w) false (World.doorLaid Tryd.prog 24 os) #[.string ByteArray.empty] 8 rfl (door_shaped os _) (by kernel_rfl) (by kernel_rfl) (by kernel_rfl) (door_met os _)) ?_
  intro W base args ds gs before hval0 hW _ _ hL _
  have hval : ∀ (j : Nat) t v, Tryd.f7.params[j]? = some t → args[j]? = some v → Value.okWide Tryd.prog W .any base t v := hval0
  have hW' := hW
  obtain ⟨p, q, hA0, hV, rfl, hfz, hnd⟩ := hW
  have hA : DataW.TrodAll enc Tryd.prog W 0 (fun _ => true) true Tryd.f7.params.toList args.toList ds p := hA0
  rw [Tryd.params7] at hA hval
  obtain ⟨v0, vs0, d0, ds0, p0, q0, hargs, rfl, rfl, t0, r0⟩ := trodAll_cons hA
  obtain ⟨rfl, rfl, rfl⟩ := trodAll_nil r0
  obtain rfl : args = #[v0] := by cases args; simp_all
  obtain ⟨rfl, rfl⟩ := trodVars_none hV
  have k0 := t0
  have lt0 := Trod_lt t0
  obtain ⟨a0, rfl, w0⟩ := get_str Tryd.underlying9 (hval 0 9 v0 rfl rfl) t0
  clear hA0 hval0
  refine (walk a0 W w0 (tabs_of_laid hL)).mono fun e W' ⟨he, bel⟩ => ?_
  subst he
  exact ⟨_, rfl, _, _, _, [], _, [], hW', trodAll_mk1 (shut_bool Tryd.underlying4 _), (trodAll_cons_mk (Below.trod laidOut (by kernel_rfl) (of_decide_eq_true (by kernel_rfl)) k0 bel lt0) trodAll_mk0), rfl, bel.frame _, fun h => by cases h⟩

theorem over : Rows.sixParsesRow.holds Tryd.pinned (OpenSpec.ofChange Rows.sixParsesSpec) :=
  OpenClaim.holds_of_wide 7 Tryd.f7 rfl rfl rfl rfl rfl rfl rfl ⟨rfl, rfl, rfl, rfl, rfl⟩ rfl rfl rfl rfl rfl (by kernel_rfl) Tryd.func7 (by kernel_rfl)
    (of_decide_eq_true (by kernel_rfl)) (by unfold Func.isWrapper; first | (rw [if_pos (by decide +kernel)]; kernel_rfl) | (rw [if_neg (by decide +kernel)]; exact ⟨rfl, rfl⟩))
    (fun os started H enc _ => lifted os started H enc)

theorem proved : Rows.SixParsesCardSaid :=
  Claim7.holds_tied_plain_at .later [] Rows.sixParsesCard.laidKinds true Rows.sixParsesCard.stood.harness false
    over (fun _ h => by cases h) (by kernel_rfl) (fun _ h => by cases h) sixParses_row_tie rfl ⟨rfl, rfl⟩ (by kernel_rfl) rfl
    (fun f fn hf hfn => by
      obtain rfl : f = 7 := Option.some.inj ((show Tryd.prog.funcNamed "goosepond/goosepondlaw04.SixParses" = some 7 by kernel_rfl).symm.trans hf) |>.symm
      obtain rfl : fn = Tryd.f7 := (Option.some.inj (Tryd.func7.symm.trans hfn)).symm
      exact ⟨by kernel_rfl, fun j t ht => by
        have hall : (Tryd.f7.params.toList.all fun u => !Tryd.prog.wantsStandIn u) = true := by kernel_rfl
        have hm : t ∈ Tryd.f7.params.toList := by simpa using Array.mem_of_getElem? ht
        exact (show Tryd.prog.wantsStandIn t = false by simpa using List.all_eq_true.1 hall t hm)⟩)
    (by kernel_rfl)
end Go.Proofs.YtokcelbpiglieaaDoor.sixParses
