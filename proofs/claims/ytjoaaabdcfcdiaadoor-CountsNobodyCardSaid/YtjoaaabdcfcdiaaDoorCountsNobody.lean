/-
  Whatever the number, goosepondlaw31.CountsNobody answers true: counts that no call made count nothing. Conditions: none but the statement's own.
-/
import Derived.Test.YtjoaaabdcfcdiaaDoorRows
import Derived.WalkKit
import Derived.ProofKit
import Derived.OpenShut
import Derived.ChangeOld
import Derived.Below
import Derived.Test.YtjoaaabdcfcdiaaDoorCb1
import Derived.Test.YtjoaaabdcfcdiaaDoorCb3
import Derived.Test.YtjoaaabdcfcdiaaDoorCards
import Derived.LaidMore
import Derived.SevenTiedAt
import Derived.Stop.Joined
namespace Go.Proofs.YtjoaaabdcfcdiaaDoor.countsNobody
open Go.ChangeShapes Go.WideShapes Go.ChangeAt Go.RowKit
set_option linter.unusedVariables false
attribute [local go_sem] Oper.semAt_some

theorem own : ownKnob Tryd.prog.godebug = none := by kernel_rfl
theorem laidOut : laidOutB Tryd.prog = true := by kernel_rfl

/-! ### The walk -/
set_option maxRecDepth 100000 in
set_option maxHeartbeats 4000000 in
theorem walk (a0 : Int) (w : World) (w0 : (Lit.int .i64 a0).wf = true) (hT : Tabs w) :
    Calls Tryd.prog 5 #[.int .i64 a0] w fun e w' => e = .returned (.bool true) ∧ Below w.heap.size w w' := by
  have HT := Lib.hid hT
  clear hT
  obtain ⟨V0, hV0⟩ : ∃ V0, V0 = w.alloc (.cells #[.bool false] 4) := ⟨_, rfl⟩
  have hb0 : Below w.heap.size w V0 := by rw [hV0]; exact (Below.refl _ w).alloc (Nat.le_refl _) _
  have hr0 : Boxed V0 w.heap.size 4 (.bool false) := by rw [hV0]; exact Boxed.new w _ _
  have HV0 := Lib.hid hV0
  have HT0 := Lib.hid (HT.out.step hb0)
  clear hV0
  refine (callsIn_wide (n := 4)).1 ?_
  refine callsIn_of_wp_marks Tryd.func5 rfl trivial ?_ rfl
  simp only [Tryd.ntmps5, List.size_toArray, List.length_cons, List.length_nil, Nat.reduceAdd, Nat.reduceSub, Array.replicate_succ, Array.replicate_zero, List.push_toArray, List.append_toArray, List.nil_append, List.cons_append]
  gi_upto_region 1 with fail
  rw [← HV0.out]
  gi_upto_region 3 with (refine ⟨trivial, ?_⟩; gi_at_call 6; refine (callsIn_wide.2 (awake31 _ HT0.out)).mono ?_; rintro e w1 ⟨rfl, x1⟩)
  gi_upto_region 4 with fail
  have n1 : Nbw w.heap.size w1.heap.size w (w1.alloc (.cells #[.bool false, .int .i64 0, .int .i64 0, .int .i64 0, .int .i64 0, .int .i64 0, .int .i64 0, .int .i64 0, .int .i64 0, .int .i64 0, .int .i64 0, .int .i64 0, .int .i64 0, .int .i64 0, .int .i64 0] 40)) := by
    have ba := (Below.refl w1.heap.size w1).alloc (Nat.le_refl _) (.cells #[.bool false, .int .i64 0, .int .i64 0, .int .i64 0, .int .i64 0, .int .i64 0, .int .i64 0, .int .i64 0, .int .i64 0, .int .i64 0, .int .i64 0, .int .i64 0, .int .i64 0, .int .i64 0, .int .i64 0] 40)
    have bx := x1.trans (ba.mono x1.size)
    exact ⟨Boxed.below hr0 bx (Boxed.lt hr0), cellC (World.alloc_heap_new w1 _) rfl, HT0.out.step bx, hb0.trans (bx.mono hb0.size)⟩
  have hg1 : w.heap.size < w1.heap.size := Nat.lt_of_lt_of_le (Boxed.lt hr0) x1.size
  gi_upto_region 5 with fail
  generalize hW1 : w1.alloc (.cells #[.bool false, .int .i64 0, .int .i64 0, .int .i64 0, .int .i64 0, .int .i64 0, .int .i64 0, .int .i64 0, .int .i64 0, .int .i64 0, .int .i64 0, .int .i64 0, .int .i64 0, .int .i64 0, .int .i64 0] 40) = W1 at *
  generalize hgz : w1.heap.size = g at *
  have HN1 := Lib.hid n1
  clear n1 hW1 hr0 x1 hb0
  gi_wp2_with (refine ⟨trivial, ?_⟩; gi_at_call 16; refine (callsIn_wide.2 (cneach_nil _)).mono ?_; rintro e w3 ⟨bm, be, rfl, hbe, hbm, _, hbz, x3⟩)
  have HN3 := Lib.hid (HN1.out.below x3)
  have ht3 := HN3.out.tab.lt
  have hz3 := cell_block HN3.out.z
  have hw3 := Boxed.lt HN3.out.res
  refine wpIn_actC (fun ac hac => ?_)
  refine range_own (by omega) (gf := 20) (lb := #[.pointer (some ⟨be, 0, none⟩)]) (by subst hac; rfl) (enters_of Tryd.func20 (by kernel_rfl) rfl)
    (cneach1_seq (w3.heap.size + 1) be bm 0 none [] (fun b => b = w3.heap.size + 1) w3 hbe hbm (.inl rfl) (by decide) HN3.out.tab (fun b e => by omega) (by omega) (fun g e => by cases e) (fun g e => by cases e) 3 (by decide))
    (fun h k => h.trans k) (fun X r r' h => KZ.put _ rfl) (Below.refl _ _) (fun _ => rfl) (fun _ _ _ _ _ _ h _ _ => h)
    (fun _ X => Nbw w.heap.size g w X)
    (fun pre X Y r hs hg hr => hs.kept hg hr (by omega) (Nat.le_refl _) ht3)
    HN3.out
    (fun x => { tmps := (#[9, 10].zip (encN x)).foldl (fun t (p, v) => t.setIfInBounds p v) ac.tmps, defers := [] }) ?assign ?body ?done
  case assign =>
    intro l x X K hK
    clear hac
    gi_wp2
    first | exact hK | simpa using hK
  case body =>
    rintro l pre x X _ ⟨more, hm⟩
    simp [metF] at hm
  case done =>
    rintro D xs X hD _ hNX hK
    subst hac
    have hm1 : Marks w3.heap.size X.heap.size [{ target := .collected D, args := #[] }] X := (Marks.push (hi := D) (ds := []) trivial (Nat.le_refl _) hD hK).more (heap_lt hK)
    have HNX := Lib.hid hNX
    have hc := hNX.z
    clear hNX hbe hbm
    gi_upto_region 7 with fail
    refine wpIn_wide.2 ?_
    go_wp2_with (first
      | (go_at_call 9; (with_reducible refine (cnadd_nil a0).mono ?_); rintro e y1 ⟨rfl, rfl⟩)
      | (go_at_call 9; (with_reducible refine (cnadd_zero HNX.out.z a0).mono ?_); rintro e y2 ⟨rfl, rfl⟩)
      | (go_at_call 11; (with_reducible refine (cnget_nil a0).mono ?_); rintro e y3 ⟨rfl, rfl⟩)
      | (go_at_call 11; (with_reducible refine (cnget_zero HNX.out.z a0).mono ?_); rintro e y4 ⟨rfl, rfl⟩)
      | (go_at_call 15; refine (cnlist_nil _).mono ?_; rintro e y5 ⟨rfl, rfl⟩)
      | (go_at_call 6; refine (awake31 _ HNX.out.tab).mono ?_; rintro e y6 ⟨rfl, x6⟩; have X6 := Lib.hid x6; have hx6 := (HNX.out.below X6.out).res; have k6 := Boxed.cell hx6; have f6 := Boxed.frozen hx6; clear x6))
    have b6 := HNX.out.bel.trans (X6.out.mono (Nat.le_of_lt (Boxed.lt HNX.out.res)))
    have hmr : Marks w3.heap.size y5.heap.size [{ target := .collected D, args := #[] }] (y6.setCell ⟨w.heap.size, 0, none⟩ (.bool true)) :=
      hm1.keep (fun k h1 h2 => (Below.heap_setCell _ _ _ _ (by simp; omega)).trans (X6.out.block k h2))
    gi_wp2
    refine leaves_marks w3.heap.size (fun Y => Boxed Y w.heap.size 4 (.bool true) ∧ Below w.heap.size w Y)
      (fun Y D hY h1 h2 => ⟨box_keep (n := w3.heap.size) hY.1 (grownBy_putObj' Y D _) (fun k e => by cases e; exact ⟨h1, _, h2, rfl⟩), hY.2.trans (belowK_b (w := w) (Nat.le_refl _) Y D _ _ (by omega) h2 rfl rfl)⟩)
      (fun Y hY => ⟨_, cell1c rfl rfl hY.1, rfl, hY.2⟩) _ _ _ hmr ⟨Boxed.set _ hx6, b6.setCell (p := ⟨w.heap.size, 0, none⟩) (by simp) _⟩

/-! ### The row's step -/
set_option maxRecDepth 100000 in
theorem lifted (os : Os) (started : os.Started) (H : Type) (enc : TypeId × Value → H) :
    ReturnsInHanded {} Tryd.checked os 5 .any (fun w args => (Rows.countsNobodySpec.pre enc Tryd.prog Tryd.f5 [] false w args ∧ laidMetH Tryd.prog laidAll w) ∧ sizedMet enc Tryd.prog Tryd.f5 (OpenSpec.ofChange Rows.countsNobodySpec) false w args) (Rows.countsNobodySpec.post enc Tryd.prog Tryd.f5 false true false false) := by
  refine returnsInHanded_of_change_and (C := Tryd.checked) (X := fun w _ => laidMetH Tryd.prog laidAll w) (fun _ _ _ hh h => h.of_heap hh) own started (by kernel_rfl) Tryd.func5
    (ChangeSpec.witness_shaped (enc := enc) (C := Tryd.checked) (os := os) (X := fun w _ => laidMetH Tryd.prog laidAll w) false (World.doorLaid Tryd.prog 24 os) #[.int .i64 0] 8 rfl (door_shaped os _) (by kernel_rfl) (by kernel_rfl) (by kernel_rfl) (door_met os _)) ?_
  intro W base args ds gs before hval0 hW _ _ hL _
  have hval : ∀ (j : Nat) t v, Tryd.f5.params[j]? = some t → args[j]? = some v → Value.okWide Tryd.prog W .any base t v := hval0
  have hW' := hW
  obtain ⟨p, q, hA0, hV, rfl, hfz, hnd⟩ := hW
  have hA : DataW.TrodAll enc Tryd.prog W 0 (fun _ => true) true Tryd.f5.params.toList args.toList ds p := hA0
  rw [Tryd.params5] at hA hval
  obtain ⟨v0, vs0, d0, ds0, p0, q0, hargs, rfl, rfl, t0, r0⟩ := trodAll_cons hA
  obtain ⟨rfl, rfl, rfl⟩ := trodAll_nil r0
  obtain rfl : args = #[v0] := by cases args; simp_all
  obtain ⟨rfl, rfl⟩ := trodVars_none hV
  have k0 := t0
  have lt0 := Trod_lt t0
  obtain ⟨a0, rfl, w0⟩ := get_int Tryd.underlying3 (hval 0 3 v0 rfl rfl) t0
  clear hA0 hval0
  refine (walk a0 W w0 (tabs_of_laid hL)).mono fun e W' ⟨he, bel⟩ => ?_
  subst he
  exact ⟨_, rfl, _, _, _, [], _, [], hW', trodAll_mk1 (shut_bool Tryd.underlying4 _), (trodAll_cons_mk (Below.trod laidOut (by kernel_rfl) (of_decide_eq_true (by kernel_rfl)) k0 bel lt0) trodAll_mk0), rfl, bel.frame _, fun h => by cases h⟩

theorem over : Rows.countsNobodyRow.holds Tryd.pinned (OpenSpec.ofChange Rows.countsNobodySpec) :=
  OpenClaim.holds_of_wide 5 Tryd.f5 rfl rfl rfl rfl rfl rfl rfl ⟨rfl, rfl, rfl, rfl, rfl⟩ rfl rfl rfl rfl rfl (by kernel_rfl) Tryd.func5 (by kernel_rfl)
    (of_decide_eq_true (by kernel_rfl)) (by unfold Func.isWrapper; first | (rw [if_pos (by decide +kernel)]; kernel_rfl) | (rw [if_neg (by decide +kernel)]; exact ⟨rfl, rfl⟩))
    (fun os started H enc _ => lifted os started H enc)

theorem proved : Rows.CountsNobodyCardSaid :=
  Claim7.holds_tied_plain_at .later [] Rows.countsNobodyCard.laidKinds true Rows.countsNobodyCard.stood.harness false
    over (fun _ h => by cases h) (by kernel_rfl) (fun _ h => by cases h) countsNobody_row_tie rfl ⟨rfl, rfl⟩ (by kernel_rfl) rfl
    (fun f fn hf hfn => by
      obtain rfl : f = 5 := Option.some.inj ((show Tryd.prog.funcNamed "goosepond/goosepondlaw31.CountsNobody" = some 5 by kernel_rfl).symm.trans hf) |>.symm
      obtain rfl : fn = Tryd.f5 := (Option.some.inj (Tryd.func5.symm.trans hfn)).symm
      exact ⟨by kernel_rfl, fun j t ht => by
        have hall : (Tryd.f5.params.toList.all fun u => !Tryd.prog.wantsStandIn u) = true := by kernel_rfl
        have hm : t ∈ Tryd.f5.params.toList := by simpa using Array.mem_of_getElem? ht
        exact (show Tryd.prog.wantsStandIn t = false by simpa using List.all_eq_true.1 hall t hm)⟩)
    (by kernel_rfl)
end Go.Proofs.YtjoaaabdcfcdiaaDoor.countsNobody
