/-
  Whatever the session and the number, SessionNobody answers true and its arguments read as they did: sessions that no call made have nothing. No condition.
-/
import Derived.Test.YtghbliabmecbcaaDoorRows
import Derived.WalkKit
import Derived.ProofKit
import Derived.OpenShut
import Derived.ChangeOld
import Derived.Below
import Derived.Test.YtghbliabmecbcaaDoorMc2
import Derived.Test.YtghbliabmecbcaaDoorMc12
import Derived.Test.YtghbliabmecbcaaDoorMc13
import Derived.Test.YtghbliabmecbcaaDoorCards
import Derived.LaidMore
import Derived.SevenTiedAt
import Derived.Stop.Joined
namespace Go.Proofs.YtghbliabmecbcaaDoor.sessionNobody
open Go.ChangeShapes Go.WideShapes Go.ChangeAt Go.RowKit
set_option linter.unusedVariables false
attribute [local go_sem] Oper.semAt_some

theorem own : ownKnob Tryd.prog.godebug = none := by kernel_rfl
theorem laidOut : laidOutB Tryd.prog = true := by kernel_rfl

/-! ### The walk -/
set_option maxRecDepth 100000 in
set_option maxHeartbeats 4000000 in
theorem walk (x0 : Sd) (a1 : Int) (w : World) (h0 : x0.fits) (w1 : (Lit.int .i64 a1).wf = true) (hT : Tabs w) :
    Calls Tryd.prog 5 #[seV x0, .int .i64 a1] w fun e w' => e = .returned (.bool true) ∧ Below w.heap.size w w' := by
  have hb0 : Below w.heap.size w ((w.alloc (.cells (clSe x0).toArray 34)).alloc (.cells #[.bool false] 4)) := ((Below.refl _ w).alloc (Nat.le_refl _) _).alloc (by simp) _
  have hx0 : ((w.alloc (.cells (clSe x0).toArray 34)).alloc (.cells #[.bool false] 4)).heap[w.heap.size]? = some (.cells (clSe x0).toArray 34 (0, 0)) := (Below.heap_alloc _ _ _ (by simp)).trans (World.alloc_heap_new w _)
  have hr0 : Boxed ((w.alloc (.cells (clSe x0).toArray 34)).alloc (.cells #[.bool false] 4)) (w.heap.size + 1) 4 (.bool false) := by
    have := Boxed.new (w.alloc (.cells (clSe x0).toArray 34)) 4 (.bool false)
    rwa [World.size_alloc] at this
  have hT0 := hT.step hb0
  obtain ⟨V0, hV0⟩ : ∃ V0, V0 = (w.alloc (.cells (clSe x0).toArray 34)).alloc (.cells #[.bool false] 4) := ⟨_, rfl⟩
  have HV0 := Lib.hid (show (w.alloc (.cells #[.int .i64 x0.b, .int .i64 x0.t, .int .i64 x0.u, .int .i64 x0.a, .int .i64 x0.p] 34)).alloc (.cells #[.bool false] 4) = V0 from hV0.symm)
  rw [← hV0] at hb0 hx0 hr0 hT0
  have hTB := TB0.of hT (Nat.le_refl _) hb0
  clear hV0
  unfold seV clSe
  refine (callsIn_wide (n := 4)).1 ?_
  refine callsIn_of_wp_marks Tryd.func5 rfl trivial ?_ rfl
  simp only [Tryd.ntmps5, List.size_toArray, List.length_cons, List.length_nil, Nat.reduceAdd, Nat.reduceSub, Array.replicate_succ, Array.replicate_zero, List.push_toArray, List.append_toArray, List.nil_append, List.cons_append]
  gi_upto_region 1 with fail
  rw [HV0.out]
  gi_upto_region 3 with (refine ⟨trivial, ?_⟩; gi_at_call 6; refine (callsIn_wide.2 (awake24 _ hT0)).mono ?_; rintro e w1 ⟨rfl, x1⟩)
  have n1 : NSw w.heap.size w1.heap.size x0 w (w1.alloc (.cells #[.slice none 0 0, .pointer none, .map none, .int .i64 0, .int .i64 0] 56)) := by
    have ba := (Below.refl w1.heap.size w1).alloc (Nat.le_refl _) (.cells #[.slice none 0 0, .pointer none, .map none, .int .i64 0, .int .i64 0] 56)
    have bx := x1.trans (ba.mono x1.size)
    exact ⟨(bx.block _ (heap_lt hx0)).trans hx0, Boxed.below hr0 bx (Boxed.lt hr0), World.alloc_heap_new w1 _, hb0.trans (bx.mono hb0.size)⟩
  have hg1 : w.heap.size + 1 < w1.heap.size := Nat.lt_of_lt_of_le (Boxed.lt hr0) x1.size
  gi_upto_region 5 with fail
  generalize hW1 : w1.alloc (.cells #[.slice none 0 0, .pointer none, .map none, .int .i64 0, .int .i64 0] 56) = W1 at *
  generalize hgz : w1.heap.size = g at *
  have HN1 := Lib.hid n1
  have hl1 := box_se n1.box
  clear n1 hW1 hx0 hr0 x1 hb0
  refine wpIn_wide.2 ?_
  go_wp2_with (first
    | ((with_reducible show wpList _ _ _ (Oper.mk _ (Op.load 34 _) _ _ _ _ :: _) _ _); refine wpList_val rfl (run_load_se rfl rfl hl1) ?_)
    | (go_at_call 9; refine (seadd_nil x0 _).mono ?_; rintro e W2 ⟨rfl, x2⟩))
  have HN2 := Lib.hid (HN1.out.below x2)
  have hl2 := box_se HN2.out.box
  clear x2 hl1
  gi_upto_region 6 with fail
  refine wpIn_wide.2 ?_
  go_wp2_with (first
    | ((with_reducible show wpList _ _ _ (Oper.mk _ (Op.load 34 _) _ _ _ _ :: _) _ _); refine wpList_val rfl (run_load_se rfl rfl hl2) ?_)
    | (go_at_call 9; refine (seadd_zero x0 HN2.out.z1).mono ?_; rintro e W3 ⟨rfl, x3⟩))
  have HN3 := Lib.hid (HN2.out.below x3)
  clear x3 hl2
  gi_upto_region 7 with fail
  refine wpIn_wide.2 ?_
  go_wp2_with (first
    | ((with_reducible show wpList _ _ _ (Oper.mk _ (Op.store 34 _ _) _ _ _ _ :: _) _ _); refine se_store_new (cs := (clSe sd0).toArray) rfl rfl rfl rfl (clSe_one _) ?_)
    | (go_at_call 15; refine (seget_nil a1 _).mono ?_; rintro e W4 ⟨rfl, x4⟩; have HN4 := Lib.hid ((HN3.out.below x4).below ((Below.refl W4.heap.size W4).alloc (Nat.le_refl _) (.cells (clSe sd0).toArray 34)))))
  have hl4 := box_re HN4.out.box
  have kb4 : (W4.alloc (.cells (clSe sd0).toArray 34)).cell? ⟨w.heap.size, 0, none⟩ = some (.int .i64 x0.b) := cells_at (i := 0) HN4.out.box rfl
  clear x4
  generalize W4.alloc (.cells (clSe sd0).toArray 34) = W5 at *
  gi_upto_region 8 with fail
  refine wpIn_wide.2 ?_
  go_wp2_with (first
    | ((with_reducible show wpList _ _ _ (Oper.mk _ (Op.load 32 _) _ _ _ _ :: _) _ _); refine wpList_val rfl (run_load_re rfl rfl hl4) ?_)
    | (go_at_call 17; refine (sefind_zero x0 HN4.out.z1).mono ?_; rintro e W6 ⟨rfl, x6⟩))
  have HN6 := Lib.hid (HN4.out.below x6)
  have kb6 : W6.cell? ⟨w.heap.size, 0, none⟩ = some (.int .i64 x0.b) := cells_at (i := 0) HN6.out.box rfl
  clear x6 hl4 kb4
  gi_wp2_with (refine ⟨trivial, ?_⟩; gi_at_call 22; refine (callsIn_wide.2 (seof_nil x0.b _)).mono ?_; rintro e w3 ⟨bx, A3, c3, rfl, hbx3, hb3, hr3, hg3, x3⟩)
  have HN8 := Lib.hid (HN6.out.below x3)
  have hseq := setell1_seq bx c3 _ A3 [] w3 hb3.cell hr3 (Nat.le_refl _) (by decide) (4 - 1) (by decide)
  have hz3 := heap_lt HN8.out.z
  have hzb := Boxed.lt HN8.out.res
  have h11 : (w.heap.size + 1 : Nat) < g := hg1
  clear hb3 hr3 hg3 x3 kb6
  refine wpIn_actS (fun a0 ha0 => ?_)
  refine range_told (by omega) (gf := 51) (lb := #[.pointer (some ⟨bx, 0, none⟩)]) (by subst ha0; rfl) (enters_of Tryd.func51 (by kernel_rfl) rfl)
    hseq KeepN.trans (fun V l r r' hl hr => KeepN.loop hr) (Below.refl _ _) (fun _ => rfl)
    (fun pre x V l r r' h _ hl => h)
    (fun _ X => NSw w.heap.size g x0 w X)
    (fun _ _ _ => False)
    (fun pre X Y r hs hg hr => hs.kept hg hr (by omega) (Nat.le_refl _))
    (fun cd pre X Y r hs hg hr => hs)
    HN8.out
    (fun x => { tmps := (#[46, 47].zip (encNs x)).foldl (fun t (p, v) => t.setIfInBounds p v) a0.tmps, defers := [] }) ?assign ?body ?done ?stop
  case assign =>
    intro l x X K hK
    clear ha0
    gi_wp2
    first | exact hK | simpa using hK
  case body =>
    rintro l pre x X _ ⟨more, hm⟩
    simp at hm
  case stop =>
    rintro D cd pre X hD _ hf hK
    exact hf.elim
  case done =>
    rintro D xs X hD _ hNX hK
    subst ha0
    have hm1 : Marks w3.heap.size X.heap.size [{ target := .collected D, args := #[] }] X := (Marks.push (hi := D) (ds := []) trivial (Nat.le_refl _) hD hK).more (heap_lt hK)
    have HNX := Lib.hid hNX
    have HTX := Lib.hid (hT.below hNX.bel (Nat.le_refl _))
    have HZX := Lib.hid hNX.z1
    clear hseq hNX
    gi_upto_region 11 with fail
    refine wpIn_wide.2 ?_
    go_wp2_with (first
      | (go_at_call 11; refine (seset_nil a1 1 2 _).mono ?_; rintro e y1 ⟨rfl, rfl⟩)
      | (go_at_call 13; (with_reducible refine (seremove_nil a1 _).mono ?_); rintro e y2 ⟨rfl, rfl⟩)
      | (go_at_call 13; (with_reducible refine (seremove_zero a1 HZX.out).mono ?_); rintro e y3 ⟨rfl, rfl⟩)
      | (go_at_call 21; refine (selen_nil _).mono ?_; rintro e y4 ⟨rfl, rfl⟩)
      | (go_at_call 6; refine (awake24 _ HTX.out).mono ?_; rintro e y4 ⟨rfl, x4⟩; have X4 := Lib.hid x4; have hx4 := (HNX.out.below X4.out).res; have k4 := Boxed.cell hx4; have f4 := Boxed.frozen hx4; clear x4))
    have b4 := HNX.out.bel.trans (X4.out.mono (by have := heap_lt HNX.out.box; omega))
    have hmr : Marks w3.heap.size X.heap.size [{ target := .collected D, args := #[] }] (y4.setCell ⟨w.heap.size + 1, 0, none⟩ (.bool true)) :=
      hm1.keep (fun k h1 h2 => (Below.heap_setCell _ _ _ _ (by simp; omega)).trans (X4.out.block k h2))
    gi_wp2
    refine leaves_marks w3.heap.size (fun Y => Boxed Y (w.heap.size + 1) 4 (.bool true) ∧ Below w.heap.size w Y)
      (fun Y D hY h1 h2 => ⟨box_keep (n := w3.heap.size) hY.1 (grownBy_putObj' Y D _) (fun k e => by cases e; exact ⟨h1, _, h2, rfl⟩), hY.2.trans (belowK_b (w := w) (Nat.le_refl _) Y D _ _ (by omega) h2 rfl rfl)⟩)
      (fun Y hY => ⟨_, cell1s rfl rfl hY.1, rfl, hY.2⟩) _ _ _ hmr ⟨Boxed.set _ hx4, b4.setCell (p := ⟨w.heap.size + 1, 0, none⟩) (by simp) _⟩

/-! ### The row's step -/
set_option maxRecDepth 100000 in
theorem lifted (os : Os) (started : os.Started) (H : Type) (enc : TypeId × Value → H) :
    ReturnsInHanded {} Tryd.checked os 5 .any (fun w args => (Rows.sessionNobodySpec.pre enc Tryd.prog Tryd.f5 [] false w args ∧ laidMetH Tryd.prog laidAll w) ∧ sizedMet enc Tryd.prog Tryd.f5 (OpenSpec.ofChange Rows.sessionNobodySpec) false w args) (Rows.sessionNobodySpec.post enc Tryd.prog Tryd.f5 false true false false) := by
  refine returnsInHanded_of_change_and (C := Tryd.checked) (X := fun w _ => laidMetH Tryd.prog laidAll w) (fun _ _ _ hh h => h.of_heap hh) own started (by kernel_rfl) Tryd.func5
    (ChangeSpec.witness_shaped (enc := enc) (C := Tryd.checked) (os := os) (X := fun w _ => laidMetH Tryd.prog laidAll w) false (World.doorLaid Tryd.prog 24 os) #[.agg #[.int .i64 0, .int .i64 0, .int .i64 0, .int .i64 0, .int .i64 0], .int .i64 0] 8 rfl (door_shaped os _) (by kernel_rfl) (by kernel_rfl) (by kernel_rfl) (door_met os _)) ?_
  intro W base args ds gs before hval0 hW _ _ hL _
  have hval : ∀ (j : Nat) t v, Tryd.f5.params[j]? = some t → args[j]? = some v → Value.okWide Tryd.prog W .any base t v := hval0
  have hW' := hW
  obtain ⟨p, q, hA0, hV, rfl, hfz, hnd⟩ := hW
  have hA : DataW.TrodAll enc Tryd.prog W 0 (fun _ => true) true Tryd.f5.params.toList args.toList ds p := hA0
  rw [Tryd.params5] at hA hval
  obtain ⟨v0, vs0, d0, ds0, p0, q0, hargs, rfl, rfl, t0, r0⟩ := trodAll_cons hA
  obtain ⟨v1, vs1, d1, ds1, p1, q1, rfl, rfl, rfl, t1, r1⟩ := trodAll_cons r0
  obtain ⟨rfl, rfl, rfl⟩ := trodAll_nil r1
  obtain rfl : args = #[v0, v1] := by cases args; simp_all
  obtain ⟨rfl, rfl⟩ := trodVars_none hV
  have k0 := t0
  have lt0 := Trod_lt t0
  have k1 := t1
  have lt1 := Trod_lt t1
  obtain ⟨x0, rfl, h0⟩ := get_ses (hval 0 34 v0 rfl rfl) t0
  obtain ⟨a1, rfl, w1⟩ := get_int Tryd.underlying3 (hval 1 3 v1 rfl rfl) t1
  clear hA0 hval0
  refine (walk x0 a1 W h0 w1 (tabs_of_laid hL)).mono fun e W' ⟨he, bel⟩ => ?_
  subst he
  exact ⟨_, rfl, _, _, _, [], _, [], hW', trodAll_mk1 (shut_bool Tryd.underlying4 _), (trodAll_cons_mk (Below.trod laidOut (by kernel_rfl) (of_decide_eq_true (by kernel_rfl)) k0 bel lt0) (trodAll_cons_mk (Below.trod laidOut (by kernel_rfl) (of_decide_eq_true (by kernel_rfl)) k1 bel lt1) trodAll_mk0)), rfl, bel.frame _, fun h => by cases h⟩

theorem over : Rows.sessionNobodyRow.holds Tryd.pinned (OpenSpec.ofChange Rows.sessionNobodySpec) :=
  OpenClaim.holds_of_wide 5 Tryd.f5 rfl rfl rfl rfl rfl rfl rfl ⟨rfl, rfl, rfl, rfl, rfl⟩ rfl rfl rfl rfl rfl (by kernel_rfl) Tryd.func5 (by kernel_rfl)
    (of_decide_eq_true (by kernel_rfl)) (by unfold Func.isWrapper; first | (rw [if_pos (by decide +kernel)]; kernel_rfl) | (rw [if_neg (by decide +kernel)]; exact ⟨rfl, rfl⟩))
    (fun os started H enc _ => lifted os started H enc)

theorem proved : Rows.SessionNobodyCardSaid :=
  Claim7.holds_tied_plain_at .later [] Rows.sessionNobodyCard.laidKinds true Rows.sessionNobodyCard.stood.harness false
    over (fun _ h => by cases h) (by kernel_rfl) (fun _ h => by cases h) sessionNobody_row_tie rfl ⟨rfl, rfl⟩ (by kernel_rfl) rfl
    (fun f fn hf hfn => by
      obtain rfl : f = 5 := Option.some.inj ((show Tryd.prog.funcNamed "goosepond/goosepondlaw24.SessionNobody" = some 5 by kernel_rfl).symm.trans hf) |>.symm
      obtain rfl : fn = Tryd.f5 := (Option.some.inj (Tryd.func5.symm.trans hfn)).symm
      exact ⟨by kernel_rfl, fun j t ht => by
        have hall : (Tryd.f5.params.toList.all fun u => !Tryd.prog.wantsStandIn u) = true := by kernel_rfl
        have hm : t ∈ Tryd.f5.params.toList := by simpa using Array.mem_of_getElem? ht
        exact (show Tryd.prog.wantsStandIn t = false by simpa using List.all_eq_true.1 hall t hm)⟩)
    (by kernel_rfl)
end Go.Proofs.YtghbliabmecbcaaDoor.sessionNobody
