/-
  Whatever the calls, SessionOnce answers true and its argument reads as it did: no two sessions have one binding and one remote endpoint; each is found by both. No condition.
-/
import Derived.Test.YtghbliabmecbcaaDoorRows
import Derived.WalkKit
import Derived.ProofKit
import Derived.OpenShut
import Derived.ChangeOld
import Derived.Below
import Derived.Test.YtghbliabmecbcaaDoorMc2
import Derived.Test.YtghbliabmecbcaaDoorMc13
import Derived.Test.YtghbliabmecbcaaDoorCards
import Derived.LaidMore
import Derived.SevenTiedAt
import Derived.Stop.Joined
namespace Go.Proofs.YtghbliabmecbcaaDoor.sessionOnce
open Go.ChangeShapes Go.WideShapes Go.ChangeAt Go.RowKit
set_option linter.unusedVariables false
attribute [local go_sem] Oper.semAt_some

theorem own : ownKnob Tryd.prog.godebug = none := by kernel_rfl
theorem laidOut : laidOutB Tryd.prog = true := by kernel_rfl

/-! ### The walk -/
set_option maxRecDepth 100000 in
set_option maxHeartbeats 4000000 in
theorem walk (A0 : Option Addr) (c0 : Nat) (l0 : List Dos) (w : World) (h0 : RdS clDos 7 w w.heap.size A0 l0) (e0 : ∀ y ∈ l0, dosFit y) (n0 : l0.length ≤ c0) (m0 : c0 ≤ maxLen) (hT : Tabs w) :
    Calls Tryd.prog 4 #[.slice A0 l0.length c0] w fun e w' => e = .returned (.bool true) ∧ Below w.heap.size w w' := by
  obtain ⟨n, hn⟩ : ∃ n, n = l0.length := ⟨_, rfl⟩
  have HN := Lib.hid hn
  have HE0 := Lib.hid e0
  have HR0 := Lib.hid h0
  have hcap : n ≤ c0 := by rw [hn]; exact n0
  rw [← hn]
  clear hn e0 h0 n0
  have hb0 : Below w.heap.size w (w.alloc (.cells #[.bool false] 4)) := (Below.refl _ w).alloc (Nat.le_refl _) _
  have hr0 : Boxed (w.alloc (.cells #[.bool false] 4)) w.heap.size 4 (.bool false) := Boxed.new w 4 (.bool false)
  have hT0 := hT.step hb0
  obtain ⟨V0, hV0⟩ : ∃ V0, V0 = w.alloc (.cells #[.bool false] 4) := ⟨_, rfl⟩
  have HV0 := Lib.hid (show w.alloc (.cells #[.bool false] 4) = V0 from hV0.symm)
  rw [← hV0] at hb0 hr0 hT0
  clear hV0
  refine (callsIn_wide (n := 4)).1 ?_
  refine callsIn_of_wp_marks Tryd.func4 rfl trivial ?_ rfl
  simp only [Tryd.ntmps4, List.size_toArray, List.length_cons, List.length_nil, Nat.reduceAdd, Nat.reduceSub, Array.replicate_succ, Array.replicate_zero, List.push_toArray, List.append_toArray, List.nil_append, List.cons_append]
  gi_upto_region 1 with fail
  rw [HV0.out]
  gi_upto_region 3 with (refine ⟨trivial, ?_⟩; gi_at_call 6; refine (callsIn_wide.2 (awake24 _ hT0)).mono ?_; rintro e w1 ⟨rfl, x1⟩)
  gi_upto_region 4 with (refine ⟨trivial, ?_⟩; gi_at_call 7; refine (callsIn_wide.2 (senew_ok 50 w1 (by decide) (by decide) w1.heap.size (Nat.le_refl _))).mono ?_; rintro e w2 ⟨d, t1, bm, rfl, hd2, x2, _, _⟩)
  have hb2 := hb0.trans ((x1.trans (x2.mono x1.size)).mono hb0.size)
  have hT2 := TB0.of (hT0.step x1) (Nat.le_refl _) x2
  have hz1 : w.heap.size ≤ w1.heap.size := Nat.le_trans hb0.size x1.size
  have b3 := (Below.refl w2.heap.size w2).alloc (Nat.le_refl _) (.cells #[.pointer (some ⟨d, 0, none⟩)] 24)
  have hI : SIw w.heap.size w2.heap.size w1.heap.size d t1 bm [] 0 w (w2.alloc (.cells #[.pointer (some ⟨d, 0, none⟩)] 24)) :=
    ⟨Boxed.below (Boxed.below hr0 (x1.trans (x2.mono x1.size)) (Boxed.lt hr0)) b3 (by have := Boxed.lt hr0; have := x1.size; have := x2.size; omega), Boxed.new w2 _ _, hd2.below b3, hb2.trans (b3.mono hb2.size)⟩
  have hT3 := hT2.step (b3.mono x2.size)
  generalize hB0 : w1.heap.size = B0 at *
  generalize hg : w2.heap.size = g at *
  generalize w2.alloc (.cells #[.pointer (some ⟨d, 0, none⟩)] 24) = W0 at *
  have kg := hI.box.cell
  have HT3 := Lib.hid hT3
  have HI := Lib.hid hI
  clear hb0 hr0 hT0 HV0 x1 x2 hd2 hb2 hT2 b3 hB0 hg hI hT3
  gi_wp2
  refine wpIn_wide.2 ?_
  go_loopw [26] (fun i wr => ∃ (k : Nat) (S : List (Option Sd)), k ≤ n ∧ i = .int .i64 (k : Int) ∧ Hid (SIw w.heap.size g B0 d t1 bm S k w wr) ∧ Hid (TB0 B0 wr))
    (fun i _ => n - (intOf i).toNat)
  case atStart => exact ⟨0, [], Nat.zero_le _, rfl, HI, HT3⟩
  case round =>
    obtain ⟨k, S, hk, rfl, HIk, HTk⟩ := hrel
    clear HI HT3 kg
    by_cases hlt : k < n
    · obtain ⟨x, hx⟩ : ∃ x, l0[k]? = some x := ⟨_, List.getElem?_eq_getElem (by rw [← HN.out]; exact hlt)⟩
      have HXF := Lib.hid (HE0.out x (List.mem_of_getElem? hx))
      obtain ⟨b9, o9, rfl, hb9, hrow9⟩ := row_ofDos HR0.out hx
      have hrow := range_below hrow9 hb9 HIk.out.bel
      obtain ⟨V, hV⟩ : ∃ V, V = wr.alloc (.cells (clDos x).toArray 36) := ⟨_, rfl⟩
      have HV := Lib.hid hV
      have bV : Below wr.heap.size wr V := by rw [hV]; exact (Below.refl _ wr).alloc (Nat.le_refl _) _
      have hbV : V.heap[wr.heap.size]? = some (.cells (clDos x).toArray 36 (0, 0)) := by rw [hV]; exact World.alloc_heap_new wr _
      have HIV := Lib.hid (HIk.out.below bV)
      have HTV := Lib.hid (HTk.out.step (bV.mono HIk.out.ts.z))
      have kx0 : V.cell? ⟨wr.heap.size, 0, none⟩ = some (.int .i64 x.op) := cells_at (i := 0) hbV rfl
      have kx1 : V.cell? ⟨wr.heap.size, 1, none⟩ = some (.int .i64 x.id) := cells_at (i := 1) hbV rfl
      have hrx : V.rangeAt wr.heap.size 2 (clSe x.x) := fun j v hj => cells_at hbV (by
        have h9 : (clDos x).toArray[2 + j]? = (clSe x.x)[j]? := by rw [List.getElem?_toArray, show 2 + j = j + 1 + 1 from by omega]; rfl
        rw [h9]; exact hj)
      have kgV := HIV.out.box.cell
      clear hx hrow9 hV hbV
      by_cases h60 : k ≥ 60
      · have d60 : decide ((k : Int) ≥ 60) = true := decide_eq_true (by omega)
        have d61 : decide (60 ≤ (k : Int)) = true := d60
        go_wp2_with (first
          | ((with_reducible show wpList _ _ _ (Oper.mk _ (Op.load 36 _) _ _ _ _ :: _) _ _); refine wpList_val rfl (run_load_dos rfl rfl hrow) ?_)
          | ((with_reducible show wpList _ _ _ (Oper.mk _ (Op.store 36 _ _) _ _ _ _ :: _) _ _); refine dos_store_new (cs := (clDos x).toArray) rfl rfl rfl rfl (clDos_one x) ?_; rw [← HV.out]))
        have HIR := HIV
        clear HIV HTV HIk HTk hrow kx0 kx1 hrx kgV bV
        generalize V = R at *
        refine wpIn_wide.2 ?_
        go_upto_region 15 with fail
        have hgn : R.heap.size = R.heap.size := rfl
        have bR : Below R.heap.size R (R.alloc (.cells #[.int .i64 0] 3)) := (Below.refl _ R).alloc (Nat.le_refl _) _
        have hn0 : Boxed (R.alloc (.cells #[.int .i64 0] 3)) R.heap.size 3 (.int .i64 0) := Boxed.new R _ _
        have hts0 := HIR.out.ts
        obtain ⟨b1, A, c, f, hts⟩ := hts0
        have HTS := Lib.hid hts
        have kg2 := (HIR.out.below bR).box.cell
        have HALL := Lib.hid (seall (hts.below bR))
        have HPW : Hid ((docB 0 S).Pairwise (fun a b => a.2.inn ≠ b.2.inn) ∧ (∀ e ∈ docB 0 S, e.2.fits) ∧ (docB 0 S).length ≤ 4096) := Lib.hid ⟨hts.ni, hts.fit, by have h1 := hts.n; have h2 := hts.mst; have h3 := docB_len 0 S; omega⟩
        generalize R.alloc (.cells #[.int .i64 0] 3) = R2 at *
        have HGN := Lib.hid hgn
        have hwg : w.heap.size ≤ R.heap.size := by exact HIR.out.bel.size
        have hgg : g < R.heap.size := by exact Boxed.lt HIR.out.box
        have hrw : w.heap.size < R.heap.size := by exact Boxed.lt HIR.out.res
        clear hts
        refine (wpIn_wide (n := 4)).1 ?_
        gi_wp2_with (refine ⟨trivial, ?_⟩; gi_at_call 20; refine (callsIn_wide.2 HALL.out).mono ?_; rintro e w3 ⟨bx, A3, c3, rfl, hbx3, hb3, hr3, hg3, x3⟩)
        have hn3 := Boxed.below hn0 x3 (Boxed.lt hn0)
        have B3 : Below R.heap.size R w3 := bR.trans (x3.mono bR.size)
        have hlt2 := Boxed.lt hn0
        have hgn3 : R.heap.size < w3.heap.size := Boxed.lt hn3
        have hseq := setell1_seq bx c3 _ A3 (docB 0 S) w3 hb3.cell hr3 (Nat.le_refl _) (by have := HPW.out.2.2; omega) (4 - 1) (by decide)
        have HAL : Hid (∀ ga, A3 = some ga → R.heap.size < ga.block ∧ ga.block < w3.heap.size) := Lib.hid (fun ga hga => ⟨by have := (hg3 ga hga).1; omega, (hg3 ga hga).2⟩)
        clear hb3 hr3 hg3 x3 HALL kg2 hn0
        refine (wpIn_wide (n := 4)).1 ?_
        gi_wp2
        refine wpIn_actS (fun a0 ha0 => ?_)
        refine range_toldWS (by omega) (gf := 51) (lb := #[.pointer (some ⟨bx, 0, none⟩)]) (by subst ha0; rfl) (enters_of Tryd.func51 (by kernel_rfl) rfl)
          hseq KeepN.trans (fun V l r r' hl hr => KeepN.loop hr) (Below.refl _ _) (fun _ => rfl)
          (fun pre x V l r r' h _ hl => h)
          (fun pre X => (Boxed X R.heap.size 3 (.int .i64 (pre.length : Int)) ∧ Below R.heap.size R X) ∧ w3.heap.size ≤ X.heap.size)
          (fun _ _ _ => False)
          (fun pre X Y r hs hg hr => ⟨⟨box_keep hs.1.1 hg hr, below_keep hs.1.2 hg hr (Nat.le_of_lt hgn3) (Nat.le_refl _)⟩, Nat.le_trans hs.2 hg.size⟩)
          (fun cd pre X Y r hs hg hr => hs)
          ⟨⟨hn3, B3⟩, Nat.le_refl _⟩
          (fun x W => { tmps := (((a0.tmps.setIfInBounds 47 (.int .i64 (x.1 : Int))).setIfInBounds 48 (seV x.2)).setIfInBounds 8 (.int .i64 (x.1 : Int))).setIfInBounds 9 (.pointer (some ⟨W.heap.size, 0, none⟩)), defers := [] })
          (fun x W => W.alloc (.cells (clSe x.2).toArray 34))
          (fun x W => World.grownBy_alloc W _ none) (fun pre x W h => h)
          (fun x W hz => KeepN.of_heap (fun ga hga => Below.heap_alloc _ _ _ (by have := (HAL.out ga hga).2; omega))) ?assign ?body ?done ?stop
        case assign =>
          intro l x W K hK
          subst ha0
          dsimp only [encNs]
          simp only [List.setIfInBounds_toArray, List.set_cons_succ, List.set_cons_zero] at hK
          gi_wp2_with ((with_reducible show wpListIn _ _ _ _ _ (Oper.mk _ (Op.store 34 _ _) _ _ _ _ :: _) _ _); refine listR_skip rfl (fun c h => by cases h) (run_store_seN (cs := (clSe x.2).toArray) rfl rfl rfl (World.alloc_heap_new W _) rfl rfl (clSe_one _)) ?_; rw [World.setRow_alloc_new])
          exact hK
        case body =>
          rintro l pre x V Y ⟨⟨hcY, hBY⟩, hzY⟩ ⟨more, hmore⟩ ⟨r, hr⟩ hl
          subst ha0
          simp only [List.setIfInBounds_toArray, List.set_cons_succ, List.set_cons_zero]
          have hbx : Y.heap[V.heap.size]? = some (.cells (clSe x.2).toArray 34 (0, 0)) := by
            rw [hr, World.putObj_heap_other (by omega)]
            exact World.alloc_heap_new V _
          obtain ⟨vb, hvb⟩ : ∃ vb, vb = V.heap.size := ⟨_, rfl⟩
          rw [← hvb] at hbx ⊢
          have HMEM : Hid (x ∈ docB 0 S) := Lib.hid (by rw [hmore]; simp)
          have HXF := Lib.hid (HPW.out.2.1 x HMEM.out)
          have hBR : Below R.heap.size R Y := hBY
          have HIY := Lib.hid (HIR.out.below hBR)
          have HTW := Lib.hid (hT.below HIY.out.bel (Nat.le_refl _))
          have HSY := Lib.hid (HTS.out.below hBR)
          have kgY := HIY.out.box.cell
          have kb0 : Y.cell? ⟨vb, 0, none⟩ = some (.int .i64 x.2.b) := cells_at (i := 0) hbx rfl
          have hre := box_re hbx
          have HBY := Lib.hid hBY
          have HCY := Lib.hid hcY
          have dk : ((x.1 : Int) == (x.1 : Int)) = true := by simp
          have hpl : pre.length < 4096 := by
            have h1 := HPW.out.2.2
            rw [hmore] at h1
            simp at h1
            omega
          obtain ⟨m, hm⟩ : ∃ m, m = pre.length := ⟨_, rfl⟩
          rw [← hm] at hpl
          have HM := Lib.hid hm
          clear hmore hr hl hbx hvb hseq hBR hcY hBY hm
          gi_upto_region 19 with (first
            | ((with_reducible show wpListIn _ _ _ _ _ (Oper.mk _ (Op.load 32 _) _ _ _ _ :: _) _ _); refine listR_val rfl (fun c h => by cases h) (run_load_re rfl rfl hre) ?_)
            | (refine ⟨trivial, ?_⟩; gi_at_call 17; refine (callsIn_wide.2 (sefind_yes HSY.out.m HTW.out x.2 HXF.out (k := x.1) (y := x.2) HMEM.out rfl)).mono ?_; rintro e Y4 ⟨rfl, x4⟩))
          have hc4 : Boxed Y4 R.heap.size 3 (.int .i64 (m : Int)) := by rw [HM.out]; exact Boxed.below HCY.out x4 (Boxed.lt HCY.out)
          have kn := hc4.cell
          have fn_ := hc4.frozen
          have X4 := Lib.hid x4
          have HC4 := Lib.hid hc4
          clear x4 hre kb0 kgY hc4
          gi_wp2
          have hne : ∀ B : Nat, B ≠ R.heap.size → (Y4.setCell ⟨R.heap.size, 0, none⟩ (.int .i64 ((m : Int) + 1))).heap[B]? = Y4.heap[B]? := fun B hB => heap_setCell_other Y4 ⟨R.heap.size, 0, none⟩ B _ hB
          have hsz : Y.heap.size ≤ (Y4.setCell ⟨R.heap.size, 0, none⟩ (.int .i64 ((m : Int) + 1))).heap.size := by rw [show (Y4.setCell ⟨R.heap.size, 0, none⟩ (.int .i64 ((m : Int) + 1))).heap.size = Y4.heap.size from by simp]; exact X4.out.size
          refine ⟨⟨hsz, fun i o hB hi ho => (hne i (by omega)).trans ((X4.out.block i (heap_ltOS hi)).trans hi)⟩, KeepN.of_heap (fun ga hga => (hne _ (by have := (HAL.out ga hga).1; omega)).trans (X4.out.block _ (Nat.lt_of_lt_of_le (HAL.out ga hga).2 hzY))), ⟨?_, (HBY.out.trans (X4.out.mono HBY.out.size)).setCell (p := ⟨R.heap.size, 0, none⟩) (Nat.le_refl _) _⟩, Nat.le_trans hzY hsz⟩
          rw [show ((pre ++ [x]).length : Int) = (m : Int) + 1 from by rw [HM.out]; simp]
          exact Boxed.set _ HC4.out
        case stop =>
          rintro D cd pre X hD _ hf hK
          exact hf.elim
        case done =>
          rintro D xs X hD hxs ⟨⟨hcX, hBX⟩, hzX⟩ hK
          subst ha0
          subst hxs
          have hm1 : Marks w3.heap.size X.heap.size [{ target := .collected D, args := #[] }] X := (Marks.push (hi := D) (ds := []) trivial (Nat.le_refl _) hD hK).more (heap_lt hK)
          have hBR : Below R.heap.size R X := hBX
          have HIX := Lib.hid (HIR.out.below hBR)
          have HTX := hT.below HIX.out.bel (Nat.le_refl _)
          have HTD := Lib.hid (HTX.step (Below.refl X.heap.size X).drew)
          have HSX := HTS.out.below hBR
          have HRX : Hid (Boxed X.drew w.heap.size 4 (.bool false)) := Lib.hid HIX.out.res
          obtain ⟨N9, hN9⟩ : ∃ N9, N9 = (docB 0 S).length := ⟨_, rfl⟩
          rw [← hN9] at hcX
          have hwgn : R.heap.size ≠ w.heap.size := by omega
          have hggw : g ≠ w.heap.size := fun e => by
            have h1 := HIX.out.res
            have h2 := HIX.out.box
            rw [e] at h2
            exact heap_ty h1 h2 (nat_ne (by kernel_rfl)) rfl
          have KN : Hid (∀ V, Kept (fun k => k = w.heap.size) X V → V.cell? ⟨R.heap.size, 0, none⟩ = some (.int .i64 (N9 : Int))) := Lib.hid fun V hV => (Boxed.keptH hcX hV hwgn).cell
          have KX : Hid (∀ V, Kept (fun k => k = w.heap.size) X V → V.cell? ⟨g, 0, none⟩ = some (.pointer (some ⟨d, 0, none⟩))) := Lib.hid fun V hV => (Boxed.keptH HIX.out.box hV hggw).cell
          have HLEN : Hid (∀ V, Kept (fun k => k = w.heap.size) X V → Calls Tryd.prog 21 #[.pointer (some ⟨d, 0, none⟩)] V fun e w' => e = .returned (.int .i64 (N9 : Int)) ∧ V = w') := Lib.hid fun V hV => by
            have := selen (HSX.m.only hV (T := fun u => u = 4) (Only.one HIX.out.res) (nat_ne (by kernel_rfl)) (nat_ne (by kernel_rfl)) (nat_ne (by kernel_rfl)) (nat_ne (by kernel_rfl)) (nat_ne (by kernel_rfl)))
            rw [show (inE (docB 0 S)).length = (docB 0 S).length from by simp [inE], ← hN9] at this
            exact this
          clear hseq hcX hN9 HSX hBR HTX
          go_upto_region 22 with fail
          refine (wpIn_wide (n := 4)).1 ?_
          gi_upto_region 22 with fail
          refine wpIn_mono (Q := noPanic _) ?_ noPanic_to
          refine wpIn_wide.2 ?_
          refine wp_region_held_drew (S := Kept (fun k => k = w.heap.size) X) (by kernel_rfl) (Kept.drew X) (fun hS => ?_)
          refine held_pure (i := 0) (oi := ⟨some 67, _, _, _, _, _⟩) rfl (by kernel_rfl) (by kernel_rfl) (by kernel_rfl) (fun _ _ _ h => h) (by rfl) (fun w hSw => run_load_int rfl rfl (KN.out _ hSw)) hS (fun hS => ?_)
          try go_frame
          refine held_pure (i := 1) (oi := ⟨some 68, _, _, _, _, _⟩) rfl (by kernel_rfl) (by kernel_rfl) (by kernel_rfl) (fun _ _ _ h => h) (by rfl) (fun w hSw => run_load_ptT rfl rfl (KX.out _ hSw)) hS (fun hS => ?_)
          try go_frame
          refine wpAnyH_ready (rs := [2]) (by kernel_rfl) (by simp) (AllReadyH.cons (o := ⟨some 69, _, _, _, _, _⟩) rfl (fun K hK => ?_) AllReadyH.nil)
          rw [if_pos (by rfl)]
          go_simp
          refine (HLEN.out _ hS).mono ?_
          rintro e u2 ⟨rfl, rfl⟩
          show K _ _
          refine hK.out _ _ hS (fun hS => ?_)
          clear hK K
          try go_frame
          refine held_pure (i := 3) (oi := ⟨some 70, _, _, _, _, _⟩) rfl (by kernel_rfl) (by kernel_rfl) (by kernel_rfl) (fun _ _ _ h => h) (by rfl) (v := .bool true) (fun w hSw => by go_simp) hS (fun hS => ?_)
          try go_frame
          refine held_pure (i := 4) (oi := ⟨some 71, _, _, _, _, _⟩) rfl (by kernel_rfl) (by kernel_rfl) (by kernel_rfl) (fun _ _ _ h => h) (by rfl) (v := ?_) (fun w hSw => ?_) hS (fun hS => ?_)
          rotate_left
          · go_simp; try with_reducible rfl
          try go_frame
          refine wpAnyH_ready (rs := [5]) (by kernel_rfl) (by simp) (AllReadyH.cons (o := ⟨some 72, _, _, _, _, _⟩) rfl (fun K hK => ?_) AllReadyH.nil)
          rw [if_pos (by rfl)]
          go_simp
          refine (awake24 _ HTD.out).mono ?_
          rintro e y4 ⟨rfl, x4⟩
          have X4 := Lib.hid x4
          have hS4 := hS.trans (T := fun k => k = w.heap.size) (Kept.of_below x4) (fun _ _ h => h)
          show K _ _
          refine hK.out _ _ hS4 (fun hS => ?_)
          clear hK K
          try go_frame
          refine held_pure (i := 6) (oi := ⟨some 73, _, _, _, _, _⟩) rfl (by kernel_rfl) (by kernel_rfl) (by kernel_rfl) (fun _ _ _ h => h) (by rfl) (v := ?_) (fun w hSw => ?_) hS (fun hS => ?_)
          rotate_left
          · go_simp; try with_reducible rfl
          try go_frame
          refine wpAnyH_ready (rs := [7]) (by kernel_rfl) (by simp) (AllReadyH.cons (o := ⟨none, _, _, _, _, _⟩) rfl (fun K hK => ?_) AllReadyH.nil)
          rw [if_pos (by rfl)]
          have kr := Boxed.below HRX.out X4.out (Boxed.lt HRX.out)
          have KR := Lib.hid kr
          have fr := kr.frozen
          have kc := kr.cell
          refine store_boolS_wp rfl rfl rfl kc fr ?_
          refine hK.out _ _ (hS4.trans (T := fun k => k = w.heap.size) (Kept.setCell _ _ 0 _) (fun _ _ h => h)) (fun hS => ?_)
          clear hK K
          try go_frame
          refine wpAnyH_done (by kernel_rfl) ?_ _
          refine noPanic_normal ?_
          go_wp2_with fail
          have b4 := HIX.out.bel.drew.trans (X4.out.mono HIX.out.bel.size)
          have hmr : Marks w3.heap.size X.heap.size [{ target := .collected D, args := #[] }] (y4.setCell ⟨w.heap.size, 0, none⟩ (.bool true)) :=
            hm1.keep (fun k h1 h2 => (Below.heap_setCell _ _ _ _ (by simp; omega)).trans (X4.out.block k h2))
          refine leaves_marks w3.heap.size (fun Y => Boxed Y w.heap.size 4 (.bool true) ∧ Below w.heap.size w Y)
            (fun Y D hY h1 h2 => ⟨box_keep (n := w3.heap.size) hY.1 (grownBy_putObj' Y D _) (fun k e => by cases e; exact ⟨h1, _, h2, rfl⟩), hY.2.trans (belowK_b (w := w) (Nat.le_refl _) Y D _ _ (by omega) h2 rfl rfl)⟩)
            (fun Y hY => ⟨_, cell1s rfl rfl hY.1, rfl, hY.2⟩) _ _ _ hmr ⟨Boxed.set _ KR.out, b4.setCell (p := ⟨w.heap.size, 0, none⟩) (by simp) _⟩
      · have d60 : decide ((k : Int) ≥ 60) = false := decide_eq_false (by omega)
        have d61 : decide (60 ≤ (k : Int)) = false := d60
        by_cases h3 : x.op < 3
        · have d3 : decide (x.op < 3) = true := decide_eq_true h3
          go_wp2_with (first
            | ((with_reducible show wpList _ _ _ (Oper.mk _ (Op.load 36 _) _ _ _ _ :: _) _ _); refine wpList_val rfl (run_load_dos rfl rfl hrow) ?_)
            | ((with_reducible show wpList _ _ _ (Oper.mk _ (Op.store 36 _ _) _ _ _ _ :: _) _ _); refine dos_store_new (cs := (clDos x).toArray) rfl rfl rfl rfl (clDos_one x) ?_; rw [← HV.out])
            | ((with_reducible show wpList _ _ _ (Oper.mk _ (Op.load 34 _) _ _ _ _ :: _) _ _); refine wpList_val rfl (run_load_se rfl rfl hrx) ?_)
            | (go_at_call 9; refine (seadd_any HIV.out.ts HTV.out x.x HXF.out.2.2 (by unfold maxLen; omega)).mono ?_; rintro e U ⟨r, S', rfl, hd', hf'⟩))
          go_roundw
          case rel => exact ⟨k + 1, S', by omega, by simp, Lib.hid (HIV.out.fb hz1 hf' hd'), Lib.hid (HTV.out.step hf'.b)⟩
          case measure => simp [intOf]; omega
        · have d3 : decide (x.op < 3) = false := decide_eq_false h3
          go_wp2_with (first
            | ((with_reducible show wpList _ _ _ (Oper.mk _ (Op.load 36 _) _ _ _ _ :: _) _ _); refine wpList_val rfl (run_load_dos rfl rfl hrow) ?_)
            | ((with_reducible show wpList _ _ _ (Oper.mk _ (Op.store 36 _ _) _ _ _ _ :: _) _ _); refine dos_store_new (cs := (clDos x).toArray) rfl rfl rfl rfl (clDos_one x) ?_; rw [← HV.out])
            | (go_at_call 13; refine (seremove_any HIV.out.ts HTV.out x.id (by unfold maxLen; omega)).mono ?_; rintro e U ⟨r, S', rfl, hd', hf'⟩))
          go_roundw
          case rel => exact ⟨k + 1, S', by omega, by simp, Lib.hid (HIV.out.fb hz1 hf' hd'), Lib.hid (HTV.out.step hf'.b)⟩
          case measure => simp [intOf]; omega
    · obtain rfl : n = k := by omega
      go_wp2_with fail
      have HIR := HIk
      clear HIk HTk
      generalize wr = R at *
      refine wpIn_wide.2 ?_
      go_upto_region 15 with fail
      have hgn : R.heap.size = R.heap.size := rfl
      have bR : Below R.heap.size R (R.alloc (.cells #[.int .i64 0] 3)) := (Below.refl _ R).alloc (Nat.le_refl _) _
      have hn0 : Boxed (R.alloc (.cells #[.int .i64 0] 3)) R.heap.size 3 (.int .i64 0) := Boxed.new R _ _
      have hts0 := HIR.out.ts
      obtain ⟨b1, A, c, f, hts⟩ := hts0
      have HTS := Lib.hid hts
      have kg2 := (HIR.out.below bR).box.cell
      have HALL := Lib.hid (seall (hts.below bR))
      have HPW : Hid ((docB 0 S).Pairwise (fun a b => a.2.inn ≠ b.2.inn) ∧ (∀ e ∈ docB 0 S, e.2.fits) ∧ (docB 0 S).length ≤ 4096) := Lib.hid ⟨hts.ni, hts.fit, by have h1 := hts.n; have h2 := hts.mst; have h3 := docB_len 0 S; omega⟩
      generalize R.alloc (.cells #[.int .i64 0] 3) = R2 at *
      have HGN := Lib.hid hgn
      have hwg : w.heap.size ≤ R.heap.size := by exact HIR.out.bel.size
      have hgg : g < R.heap.size := by exact Boxed.lt HIR.out.box
      have hrw : w.heap.size < R.heap.size := by exact Boxed.lt HIR.out.res
      clear hts
      refine (wpIn_wide (n := 4)).1 ?_
      gi_wp2_with (refine ⟨trivial, ?_⟩; gi_at_call 20; refine (callsIn_wide.2 HALL.out).mono ?_; rintro e w3 ⟨bx, A3, c3, rfl, hbx3, hb3, hr3, hg3, x3⟩)
      have hn3 := Boxed.below hn0 x3 (Boxed.lt hn0)
      have B3 : Below R.heap.size R w3 := bR.trans (x3.mono bR.size)
      have hlt2 := Boxed.lt hn0
      have hgn3 : R.heap.size < w3.heap.size := Boxed.lt hn3
      have hseq := setell1_seq bx c3 _ A3 (docB 0 S) w3 hb3.cell hr3 (Nat.le_refl _) (by have := HPW.out.2.2; omega) (4 - 1) (by decide)
      have HAL : Hid (∀ ga, A3 = some ga → R.heap.size < ga.block ∧ ga.block < w3.heap.size) := Lib.hid (fun ga hga => ⟨by have := (hg3 ga hga).1; omega, (hg3 ga hga).2⟩)
      clear hb3 hr3 hg3 x3 HALL kg2 hn0
      refine (wpIn_wide (n := 4)).1 ?_
      gi_wp2
      refine wpIn_actS (fun a0 ha0 => ?_)
      refine range_toldWS (by omega) (gf := 51) (lb := #[.pointer (some ⟨bx, 0, none⟩)]) (by subst ha0; rfl) (enters_of Tryd.func51 (by kernel_rfl) rfl)
        hseq KeepN.trans (fun V l r r' hl hr => KeepN.loop hr) (Below.refl _ _) (fun _ => rfl)
        (fun pre x V l r r' h _ hl => h)
        (fun pre X => (Boxed X R.heap.size 3 (.int .i64 (pre.length : Int)) ∧ Below R.heap.size R X) ∧ w3.heap.size ≤ X.heap.size)
        (fun _ _ _ => False)
        (fun pre X Y r hs hg hr => ⟨⟨box_keep hs.1.1 hg hr, below_keep hs.1.2 hg hr (Nat.le_of_lt hgn3) (Nat.le_refl _)⟩, Nat.le_trans hs.2 hg.size⟩)
        (fun cd pre X Y r hs hg hr => hs)
        ⟨⟨hn3, B3⟩, Nat.le_refl _⟩
        (fun x W => { tmps := (((a0.tmps.setIfInBounds 47 (.int .i64 (x.1 : Int))).setIfInBounds 48 (seV x.2)).setIfInBounds 8 (.int .i64 (x.1 : Int))).setIfInBounds 9 (.pointer (some ⟨W.heap.size, 0, none⟩)), defers := [] })
        (fun x W => W.alloc (.cells (clSe x.2).toArray 34))
        (fun x W => World.grownBy_alloc W _ none) (fun pre x W h => h)
        (fun x W hz => KeepN.of_heap (fun ga hga => Below.heap_alloc _ _ _ (by have := (HAL.out ga hga).2; omega))) ?assign ?body ?done ?stop
      case assign =>
        intro l x W K hK
        subst ha0
        dsimp only [encNs]
        simp only [List.setIfInBounds_toArray, List.set_cons_succ, List.set_cons_zero] at hK
        gi_wp2_with ((with_reducible show wpListIn _ _ _ _ _ (Oper.mk _ (Op.store 34 _ _) _ _ _ _ :: _) _ _); refine listR_skip rfl (fun c h => by cases h) (run_store_seN (cs := (clSe x.2).toArray) rfl rfl rfl (World.alloc_heap_new W _) rfl rfl (clSe_one _)) ?_; rw [World.setRow_alloc_new])
        exact hK
      case body =>
        rintro l pre x V Y ⟨⟨hcY, hBY⟩, hzY⟩ ⟨more, hmore⟩ ⟨r, hr⟩ hl
        subst ha0
        simp only [List.setIfInBounds_toArray, List.set_cons_succ, List.set_cons_zero]
        have hbx : Y.heap[V.heap.size]? = some (.cells (clSe x.2).toArray 34 (0, 0)) := by
          rw [hr, World.putObj_heap_other (by omega)]
          exact World.alloc_heap_new V _
        obtain ⟨vb, hvb⟩ : ∃ vb, vb = V.heap.size := ⟨_, rfl⟩
        rw [← hvb] at hbx ⊢
        have HMEM : Hid (x ∈ docB 0 S) := Lib.hid (by rw [hmore]; simp)
        have HXF := Lib.hid (HPW.out.2.1 x HMEM.out)
        have hBR : Below R.heap.size R Y := hBY
        have HIY := Lib.hid (HIR.out.below hBR)
        have HTW := Lib.hid (hT.below HIY.out.bel (Nat.le_refl _))
        have HSY := Lib.hid (HTS.out.below hBR)
        have kgY := HIY.out.box.cell
        have kb0 : Y.cell? ⟨vb, 0, none⟩ = some (.int .i64 x.2.b) := cells_at (i := 0) hbx rfl
        have hre := box_re hbx
        have HBY := Lib.hid hBY
        have HCY := Lib.hid hcY
        have dk : ((x.1 : Int) == (x.1 : Int)) = true := by simp
        have hpl : pre.length < 4096 := by
          have h1 := HPW.out.2.2
          rw [hmore] at h1
          simp at h1
          omega
        obtain ⟨m, hm⟩ : ∃ m, m = pre.length := ⟨_, rfl⟩
        rw [← hm] at hpl
        have HM := Lib.hid hm
        clear hmore hr hl hbx hvb hseq hBR hcY hBY hm
        gi_upto_region 19 with (first
          | ((with_reducible show wpListIn _ _ _ _ _ (Oper.mk _ (Op.load 32 _) _ _ _ _ :: _) _ _); refine listR_val rfl (fun c h => by cases h) (run_load_re rfl rfl hre) ?_)
          | (refine ⟨trivial, ?_⟩; gi_at_call 17; refine (callsIn_wide.2 (sefind_yes HSY.out.m HTW.out x.2 HXF.out (k := x.1) (y := x.2) HMEM.out rfl)).mono ?_; rintro e Y4 ⟨rfl, x4⟩))
        have hc4 : Boxed Y4 R.heap.size 3 (.int .i64 (m : Int)) := by rw [HM.out]; exact Boxed.below HCY.out x4 (Boxed.lt HCY.out)
        have kn := hc4.cell
        have fn_ := hc4.frozen
        have X4 := Lib.hid x4
        have HC4 := Lib.hid hc4
        clear x4 hre kb0 kgY hc4
        gi_wp2
        have hne : ∀ B : Nat, B ≠ R.heap.size → (Y4.setCell ⟨R.heap.size, 0, none⟩ (.int .i64 ((m : Int) + 1))).heap[B]? = Y4.heap[B]? := fun B hB => heap_setCell_other Y4 ⟨R.heap.size, 0, none⟩ B _ hB
        have hsz : Y.heap.size ≤ (Y4.setCell ⟨R.heap.size, 0, none⟩ (.int .i64 ((m : Int) + 1))).heap.size := by rw [show (Y4.setCell ⟨R.heap.size, 0, none⟩ (.int .i64 ((m : Int) + 1))).heap.size = Y4.heap.size from by simp]; exact X4.out.size
        refine ⟨⟨hsz, fun i o hB hi ho => (hne i (by omega)).trans ((X4.out.block i (heap_ltOS hi)).trans hi)⟩, KeepN.of_heap (fun ga hga => (hne _ (by have := (HAL.out ga hga).1; omega)).trans (X4.out.block _ (Nat.lt_of_lt_of_le (HAL.out ga hga).2 hzY))), ⟨?_, (HBY.out.trans (X4.out.mono HBY.out.size)).setCell (p := ⟨R.heap.size, 0, none⟩) (Nat.le_refl _) _⟩, Nat.le_trans hzY hsz⟩
        rw [show ((pre ++ [x]).length : Int) = (m : Int) + 1 from by rw [HM.out]; simp]
        exact Boxed.set _ HC4.out
      case stop =>
        rintro D cd pre X hD _ hf hK
        exact hf.elim
      case done =>
        rintro D xs X hD hxs ⟨⟨hcX, hBX⟩, hzX⟩ hK
        subst ha0
        subst hxs
        have hm1 : Marks w3.heap.size X.heap.size [{ target := .collected D, args := #[] }] X := (Marks.push (hi := D) (ds := []) trivial (Nat.le_refl _) hD hK).more (heap_lt hK)
        have hBR : Below R.heap.size R X := hBX
        have HIX := Lib.hid (HIR.out.below hBR)
        have HTX := hT.below HIX.out.bel (Nat.le_refl _)
        have HTD := Lib.hid (HTX.step (Below.refl X.heap.size X).drew)
        have HSX := HTS.out.below hBR
        have HRX : Hid (Boxed X.drew w.heap.size 4 (.bool false)) := Lib.hid HIX.out.res
        obtain ⟨N9, hN9⟩ : ∃ N9, N9 = (docB 0 S).length := ⟨_, rfl⟩
        rw [← hN9] at hcX
        have hwgn : R.heap.size ≠ w.heap.size := by omega
        have hggw : g ≠ w.heap.size := fun e => by
          have h1 := HIX.out.res
          have h2 := HIX.out.box
          rw [e] at h2
          exact heap_ty h1 h2 (nat_ne (by kernel_rfl)) rfl
        have KN : Hid (∀ V, Kept (fun k => k = w.heap.size) X V → V.cell? ⟨R.heap.size, 0, none⟩ = some (.int .i64 (N9 : Int))) := Lib.hid fun V hV => (Boxed.keptH hcX hV hwgn).cell
        have KX : Hid (∀ V, Kept (fun k => k = w.heap.size) X V → V.cell? ⟨g, 0, none⟩ = some (.pointer (some ⟨d, 0, none⟩))) := Lib.hid fun V hV => (Boxed.keptH HIX.out.box hV hggw).cell
        have HLEN : Hid (∀ V, Kept (fun k => k = w.heap.size) X V → Calls Tryd.prog 21 #[.pointer (some ⟨d, 0, none⟩)] V fun e w' => e = .returned (.int .i64 (N9 : Int)) ∧ V = w') := Lib.hid fun V hV => by
          have := selen (HSX.m.only hV (T := fun u => u = 4) (Only.one HIX.out.res) (nat_ne (by kernel_rfl)) (nat_ne (by kernel_rfl)) (nat_ne (by kernel_rfl)) (nat_ne (by kernel_rfl)) (nat_ne (by kernel_rfl)))
          rw [show (inE (docB 0 S)).length = (docB 0 S).length from by simp [inE], ← hN9] at this
          exact this
        clear hseq hcX hN9 HSX hBR HTX
        go_upto_region 22 with fail
        refine (wpIn_wide (n := 4)).1 ?_
        gi_upto_region 22 with fail
        refine wpIn_mono (Q := noPanic _) ?_ noPanic_to
        refine wpIn_wide.2 ?_
        refine wp_region_held_drew (S := Kept (fun k => k = w.heap.size) X) (by kernel_rfl) (Kept.drew X) (fun hS => ?_)
        refine held_pure (i := 0) (oi := ⟨some 67, _, _, _, _, _⟩) rfl (by kernel_rfl) (by kernel_rfl) (by kernel_rfl) (fun _ _ _ h => h) (by rfl) (fun w hSw => run_load_int rfl rfl (KN.out _ hSw)) hS (fun hS => ?_)
        try go_frame
        refine held_pure (i := 1) (oi := ⟨some 68, _, _, _, _, _⟩) rfl (by kernel_rfl) (by kernel_rfl) (by kernel_rfl) (fun _ _ _ h => h) (by rfl) (fun w hSw => run_load_ptT rfl rfl (KX.out _ hSw)) hS (fun hS => ?_)
        try go_frame
        refine wpAnyH_ready (rs := [2]) (by kernel_rfl) (by simp) (AllReadyH.cons (o := ⟨some 69, _, _, _, _, _⟩) rfl (fun K hK => ?_) AllReadyH.nil)
        rw [if_pos (by rfl)]
        go_simp
        refine (HLEN.out _ hS).mono ?_
        rintro e u2 ⟨rfl, rfl⟩
        show K _ _
        refine hK.out _ _ hS (fun hS => ?_)
        clear hK K
        try go_frame
        refine held_pure (i := 3) (oi := ⟨some 70, _, _, _, _, _⟩) rfl (by kernel_rfl) (by kernel_rfl) (by kernel_rfl) (fun _ _ _ h => h) (by rfl) (v := .bool true) (fun w hSw => by go_simp) hS (fun hS => ?_)
        try go_frame
        refine held_pure (i := 4) (oi := ⟨some 71, _, _, _, _, _⟩) rfl (by kernel_rfl) (by kernel_rfl) (by kernel_rfl) (fun _ _ _ h => h) (by rfl) (v := ?_) (fun w hSw => ?_) hS (fun hS => ?_)
        rotate_left
        · go_simp; try with_reducible rfl
        try go_frame
        refine wpAnyH_ready (rs := [5]) (by kernel_rfl) (by simp) (AllReadyH.cons (o := ⟨some 72, _, _, _, _, _⟩) rfl (fun K hK => ?_) AllReadyH.nil)
        rw [if_pos (by rfl)]
        go_simp
        refine (awake24 _ HTD.out).mono ?_
        rintro e y4 ⟨rfl, x4⟩
        have X4 := Lib.hid x4
        have hS4 := hS.trans (T := fun k => k = w.heap.size) (Kept.of_below x4) (fun _ _ h => h)
        show K _ _
        refine hK.out _ _ hS4 (fun hS => ?_)
        clear hK K
        try go_frame
        refine held_pure (i := 6) (oi := ⟨some 73, _, _, _, _, _⟩) rfl (by kernel_rfl) (by kernel_rfl) (by kernel_rfl) (fun _ _ _ h => h) (by rfl) (v := ?_) (fun w hSw => ?_) hS (fun hS => ?_)
        rotate_left
        · go_simp; try with_reducible rfl
        try go_frame
        refine wpAnyH_ready (rs := [7]) (by kernel_rfl) (by simp) (AllReadyH.cons (o := ⟨none, _, _, _, _, _⟩) rfl (fun K hK => ?_) AllReadyH.nil)
        rw [if_pos (by rfl)]
        have kr := Boxed.below HRX.out X4.out (Boxed.lt HRX.out)
        have KR := Lib.hid kr
        have fr := kr.frozen
        have kc := kr.cell
        refine store_boolS_wp rfl rfl rfl kc fr ?_
        refine hK.out _ _ (hS4.trans (T := fun k => k = w.heap.size) (Kept.setCell _ _ 0 _) (fun _ _ h => h)) (fun hS => ?_)
        clear hK K
        try go_frame
        refine wpAnyH_done (by kernel_rfl) ?_ _
        refine noPanic_normal ?_
        go_wp2_with fail
        have b4 := HIX.out.bel.drew.trans (X4.out.mono HIX.out.bel.size)
        have hmr : Marks w3.heap.size X.heap.size [{ target := .collected D, args := #[] }] (y4.setCell ⟨w.heap.size, 0, none⟩ (.bool true)) :=
          hm1.keep (fun k h1 h2 => (Below.heap_setCell _ _ _ _ (by simp; omega)).trans (X4.out.block k h2))
        refine leaves_marks w3.heap.size (fun Y => Boxed Y w.heap.size 4 (.bool true) ∧ Below w.heap.size w Y)
          (fun Y D hY h1 h2 => ⟨box_keep (n := w3.heap.size) hY.1 (grownBy_putObj' Y D _) (fun k e => by cases e; exact ⟨h1, _, h2, rfl⟩), hY.2.trans (belowK_b (w := w) (Nat.le_refl _) Y D _ _ (by omega) h2 rfl rfl)⟩)
          (fun Y hY => ⟨_, cell1s rfl rfl hY.1, rfl, hY.2⟩) _ _ _ hmr ⟨Boxed.set _ KR.out, b4.setCell (p := ⟨w.heap.size, 0, none⟩) (by simp) _⟩

/-! ### The row's step -/
set_option maxRecDepth 100000 in
theorem lifted (os : Os) (started : os.Started) (H : Type) (enc : TypeId × Value → H) :
    ReturnsInHanded {} Tryd.checked os 4 .any (fun w args => (Rows.sessionOnceSpec.pre enc Tryd.prog Tryd.f4 [] false w args ∧ laidMetH Tryd.prog laidAll w) ∧ sizedMet enc Tryd.prog Tryd.f4 (OpenSpec.ofChange Rows.sessionOnceSpec) false w args) (Rows.sessionOnceSpec.post enc Tryd.prog Tryd.f4 false true false false) := by
  refine returnsInHanded_of_change_and (C := Tryd.checked) (X := fun w _ => laidMetH Tryd.prog laidAll w) (fun _ _ _ hh h => h.of_heap hh) own started (by kernel_rfl) Tryd.func4
    (ChangeSpec.witness_shaped (enc := enc) (C := Tryd.checked) (os := os) (X := fun w _ => laidMetH Tryd.prog laidAll w) false (World.doorLaid Tryd.prog 24 os) #[.slice none 0 0] 8 rfl (door_shaped os _) (by kernel_rfl) (by kernel_rfl) (by kernel_rfl) (door_met os _)) ?_
  intro W base args ds gs before hval0 hW _ _ hL _
  have hval : ∀ (j : Nat) t v, Tryd.f4.params[j]? = some t → args[j]? = some v → Value.okWide Tryd.prog W .any base t v := hval0
  have hW' := hW
  obtain ⟨p, q, hA0, hV, rfl, hfz, hnd⟩ := hW
  have hA : DataW.TrodAll enc Tryd.prog W 0 (fun _ => true) true Tryd.f4.params.toList args.toList ds p := hA0
  rw [Tryd.params4] at hA hval
  obtain ⟨v0, vs0, d0, ds0, p0, q0, hargs, rfl, rfl, t0, r0⟩ := trodAll_cons hA
  obtain ⟨rfl, rfl, rfl⟩ := trodAll_nil r0
  obtain rfl : args = #[v0] := by cases args; simp_all
  obtain ⟨rfl, rfl⟩ := trodVars_none hV
  have k0 := t0
  have lt0 := Trod_lt t0
  obtain ⟨A0, c0, l0, rfl, h0, e0, n0, m0⟩ := get_doss (hval 0 22 v0 rfl rfl) t0
  clear hA0 hval0
  refine (walk A0 c0 l0 W h0 e0 n0 m0 (tabs_of_laid hL)).mono fun e W' ⟨he, bel⟩ => ?_
  subst he
  exact ⟨_, rfl, _, _, _, [], _, [], hW', trodAll_mk1 (shut_bool Tryd.underlying4 _), (trodAll_cons_mk (Below.trod laidOut (by kernel_rfl) (of_decide_eq_true (by kernel_rfl)) k0 bel lt0) trodAll_mk0), rfl, bel.frame _, fun h => by cases h⟩

theorem over : Rows.sessionOnceRow.holds Tryd.pinned (OpenSpec.ofChange Rows.sessionOnceSpec) :=
  OpenClaim.holds_of_wide 4 Tryd.f4 rfl rfl rfl rfl rfl rfl rfl ⟨rfl, rfl, rfl, rfl, rfl⟩ rfl rfl rfl rfl rfl (by kernel_rfl) Tryd.func4 (by kernel_rfl)
    (of_decide_eq_true (by kernel_rfl)) (by unfold Func.isWrapper; first | (rw [if_pos (by decide +kernel)]; kernel_rfl) | (rw [if_neg (by decide +kernel)]; exact ⟨rfl, rfl⟩))
    (fun os started H enc _ => lifted os started H enc)

theorem proved : Rows.SessionOnceCardSaid :=
  Claim7.holds_tied_plain_at .later [] Rows.sessionOnceCard.laidKinds true Rows.sessionOnceCard.stood.harness false
    over (fun _ h => by cases h) (by kernel_rfl) (fun _ h => by cases h) sessionOnce_row_tie rfl ⟨rfl, rfl⟩ (by kernel_rfl) rfl
    (fun f fn hf hfn => by
      obtain rfl : f = 4 := Option.some.inj ((show Tryd.prog.funcNamed "goosepond/goosepondlaw24.SessionOnce" = some 4 by kernel_rfl).symm.trans hf) |>.symm
      obtain rfl : fn = Tryd.f4 := (Option.some.inj (Tryd.func4.symm.trans hfn)).symm
      exact ⟨by kernel_rfl, fun j t ht => by
        have hall : (Tryd.f4.params.toList.all fun u => !Tryd.prog.wantsStandIn u) = true := by kernel_rfl
        have hm : t ∈ Tryd.f4.params.toList := by simpa using Array.mem_of_getElem? ht
        exact (show Tryd.prog.wantsStandIn t = false by simpa using List.all_eq_true.1 hall t hm)⟩)
    (by kernel_rfl)
end Go.Proofs.YtghbliabmecbcaaDoor.sessionOnce
