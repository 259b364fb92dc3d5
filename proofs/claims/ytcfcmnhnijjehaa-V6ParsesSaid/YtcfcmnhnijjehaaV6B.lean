/-
  Contracts of BuildFrag, the program's and the document's. Conditions are each theorem's own.
-/
import Derived.Test.YtcfcmnhnijjehaaV6A
import Derived.Deep.Cut
import Derived.Deep.CutRange
namespace Go.Proofs.Ytcfcmnhnijjehaa
open Go.RowKit

section
variable (f : F6) (w : World)
set_option maxRecDepth 100000 in
set_option maxHeartbeats 400000 in
theorem c6bfrag : Calls Try.prog 45 #[frv f] w fun e w' => ∃ v, e = .returned (.tuple #[v, .int .i64 (errF f)]) ∧ Made w w' v (bldF f) := by
  have hB : Below w.heap.size w (w.alloc (.cells (fra f) 52)) := (Below.refl w.heap.size w).alloc (Nat.le_refl _) _
  have hAt := AtF.new (f := f) w
  have hz : w.heap.size < (w.alloc (.cells (fra f) 52)).heap.size := by simp
  unfold frv
  rw [show #[Value.int .i64 f.next, .int .i64 f.off, .int .i64 f.id, .bool f.more] = fra f from rfl]
  have HO := Lib.hid (okF_iff f)
  go_enter Try.func45, Try.ntmps45
  go_wp2_with fail
  generalize w.alloc (.cells (fra f) 52) = W at *
  by_cases p0 : 0 ≤ f.off
  · have ptm : Int.tmod f.off 8 = f.off % 8 := Int.tmod_eq_emod_of_nonneg p0
    obtain ⟨P, hP⟩ : ∃ P, decide (f.off ≤ 65528) = P := ⟨_, rfl⟩
    obtain ⟨M, hM⟩ : ∃ M, (f.off % 8 == 0) = M := ⟨_, rfl⟩
    have HA : Hid (allB [fitsB f.next 1, P, M, fitsB f.id 4] = decide (okF f)) := Lib.hid (by
      rw [Bool.eq_iff_iff, decide_eq_true_iff, HO.out, ← hP, ← hM]; simp [allB, offB, mulB, p0])
    refine wp_region_held_drew (S := fun w' => Below W.heap.size W w') (by kernel_rfl) (Below.refl _ W).drew (fun hS => ?_)
    refine held_pure (i := 0) (oi := ⟨some 5, _, _, _, _, _⟩) rfl (by kernel_rfl) (by kernel_rfl) (by kernel_rfl) (fun _ _ _ h => h) (by rfl) (v := ?_) (fun w hSw => ?_) hS (fun hS => ?_)
    rotate_left
    · go_simp; try with_reducible rfl
    try go_frame
    refine held_pure (i := 1) (oi := ⟨some 6, _, _, _, _, _⟩) rfl (by kernel_rfl) (by kernel_rfl) (by kernel_rfl) (fun _ _ _ h => h) (by rfl) (fun w hSw => run_load_int rfl rfl (hAt.below hSw (by omega)).next) hS (fun hS => ?_)
    try go_frame
    refine held_pure (i := 3) (oi := ⟨some 8, _, _, _, _, _⟩) rfl (by kernel_rfl) (by kernel_rfl) (by kernel_rfl) (fun _ _ _ h => h) (by rfl) (v := ?_) (fun w hSw => ?_) hS (fun hS => ?_)
    rotate_left
    · go_simp; try with_reducible rfl
    try go_frame
    refine held_pure (i := 4) (oi := ⟨some 9, _, _, _, _, _⟩) rfl (by kernel_rfl) (by kernel_rfl) (by kernel_rfl) (fun _ _ _ h => h) (by rfl) (fun w hSw => run_load_int rfl rfl (hAt.below hSw (by omega)).off) hS (fun hS => ?_)
    try go_frame
    refine held_pure (i := 5) (oi := ⟨some 10, _, _, _, _, _⟩) rfl (by kernel_rfl) (by kernel_rfl) (by kernel_rfl) (fun _ _ _ h => h) (by rfl) (v := ?_) (fun w hSw => ?_) hS (fun hS => ?_)
    rotate_left
    · go_simp; try with_reducible rfl
    try go_frame
    refine held_pure (i := 11) (oi := ⟨some 16, _, _, _, _, _⟩) rfl (by kernel_rfl) (by kernel_rfl) (by kernel_rfl) (fun _ _ _ h => h) (by rfl) (v := ?_) (fun w hSw => ?_) hS (fun hS => ?_)
    rotate_left
    · go_simp; try with_reducible rfl
    try go_frame
    refine held_pure (i := 12) (oi := ⟨some 17, _, _, _, _, _⟩) rfl (by kernel_rfl) (by kernel_rfl) (by kernel_rfl) (fun _ _ _ h => h) (by rfl) (fun w hSw => run_load_int rfl rfl (hAt.below hSw (by omega)).off) hS (fun hS => ?_)
    try go_frame
    refine held_pure (i := 13) (oi := ⟨some 18, _, _, _, _, _⟩) rfl (by kernel_rfl) (by kernel_rfl) (by kernel_rfl) (fun _ _ _ h => h) (by rfl) (v := ?_) (fun w hSw => ?_) hS (fun hS => ?_)
    rotate_left
    · go_simp; try with_reducible rfl
    try go_frame
    refine held_pure (i := 14) (oi := ⟨some 19, _, _, _, _, _⟩) rfl (by kernel_rfl) (by kernel_rfl) (by kernel_rfl) (fun _ _ _ h => h) (by rfl) (v := ?_) (fun w hSw => ?_) hS (fun hS => ?_)
    rotate_left
    · go_simp; try with_reducible rfl
    try go_frame
    refine held_pure (i := 15) (oi := ⟨some 20, _, _, _, _, _⟩) rfl (by kernel_rfl) (by kernel_rfl) (by kernel_rfl) (fun _ _ _ h => h) (by rfl) (v := ?_) (fun w hSw => ?_) hS (fun hS => ?_)
    rotate_left
    · go_simp; try with_reducible rfl
    try go_frame
    refine held_pure (i := 16) (oi := ⟨some 21, _, _, _, _, _⟩) rfl (by kernel_rfl) (by kernel_rfl) (by kernel_rfl) (fun _ _ _ h => h) (by rfl) (fun w hSw => run_load_int rfl rfl (hAt.below hSw (by omega)).id) hS (fun hS => ?_)
    try go_frame
    refine wpAnyH_ready (rs := [2]) (by kernel_rfl) (by simp) (AllReadyH.cons (o := ⟨some 7, _, _, _, _, _⟩) rfl (fun K hK => ?_) AllReadyH.nil)
    rw [if_pos (by rfl)]
    go_simp
    refine (fits_any _ _ _).mono ?_
    rintro e w2 ⟨rfl, rfl⟩
    show K _ _
    refine hK.out _ _ hS (fun hS => ?_)
    clear hK K
    try go_frame
    refine held_pure (i := 6) (oi := ⟨some 11, _, _, _, _, _⟩) rfl (by kernel_rfl) (by kernel_rfl) (by kernel_rfl) (fun _ _ _ h => h) (by rfl) (v := ?_) (fun w hSw => ?_) hS (fun hS => ?_)
    rotate_left
    · go_simp; try with_reducible rfl
    try go_frame
    refine held_pure (i := 7) (oi := ⟨some 12, _, _, _, _, _⟩) rfl (by kernel_rfl) (by kernel_rfl) (by kernel_rfl) (fun _ _ _ h => h) (by rfl) (v := ?_) (fun w hSw => ?_) hS (fun hS => ?_)
    rotate_left
    · go_simp; try with_reducible rfl
    try go_frame
    refine held_pure (i := 8) (oi := ⟨some 13, _, _, _, _, _⟩) rfl (by kernel_rfl) (by kernel_rfl) (by kernel_rfl) (fun _ _ _ h => h) (by rfl) (fun w hSw => run_load_int rfl rfl (hAt.below hSw (by omega)).off) hS (fun hS => ?_)
    try go_frame
    refine held_pure (i := 9) (oi := ⟨some 14, _, _, _, _, _⟩) rfl (by kernel_rfl) (by kernel_rfl) (by kernel_rfl) (fun _ _ _ h => h) (by rfl) (v := ?_) (fun w hSw => ?_) hS (fun hS => ?_)
    rotate_left
    · go_simp; try with_reducible rfl
    try go_frame
    refine held_pure (i := 10) (oi := ⟨some 15, _, _, _, _, _⟩) rfl (by kernel_rfl) (by kernel_rfl) (by kernel_rfl) (fun _ _ _ h => h) (by rfl) (v := ?_) (fun w hSw => ?_) hS (fun hS => ?_)
    rotate_left
    · go_simp; try with_reducible rfl
    try go_frame
    refine wpAnyH_ready (rs := [17]) (by kernel_rfl) (by simp) (AllReadyH.cons (o := ⟨some 22, _, _, _, _, _⟩) rfl (fun K hK => ?_) AllReadyH.nil)
    rw [if_pos (by rfl)]
    go_simp
    refine (fits_any _ _ _).mono ?_
    rintro e w17 ⟨rfl, rfl⟩
    show K _ _
    refine hK.out _ _ hS (fun hS => ?_)
    clear hK K
    try go_frame
    refine wpAnyH_ready (rs := [18]) (by kernel_rfl) (by simp) (AllReadyH.cons (o := ⟨some 23, _, _, _, _, _⟩) rfl (fun K hK => ?_) AllReadyH.nil)
    rw [if_pos (by rfl)]
    go_simp
    refine hK.out _ _ (hS.alloc hS.size _) (fun hS => ?_)
    clear hK K
    try go_frame
    refine wpAnyH_ready (rs := [19]) (by kernel_rfl) (by simp) (AllReadyH.cons (o := ⟨some 24, _, _, _, _, _⟩) rfl (fun K hK => ?_) AllReadyH.nil)
    rw [if_pos (by rfl)]
    go_simp
    refine (all6_new [fitsB f.next 1, P, M, fitsB f.id 4] _ 4 _ W (by rfl) (by rfl) (by simp)).mono ?_
    rintro e w19 ⟨rfl, rfl⟩
    show K _ _
    refine hK.out _ _ hS (fun hS => ?_)
    clear hK K
    try go_frame
    refine held_pure (i := 20) (oi := ⟨some 25, _, _, _, _, _⟩) rfl (by kernel_rfl) (by kernel_rfl) (by kernel_rfl) (fun _ _ _ h => h) (by rfl) (v := ?_) (fun w hSw => ?_) hS (fun hS => ?_)
    rotate_left
    · go_simp; try with_reducible rfl
    try go_frame
    refine wpAnyH_done (by kernel_rfl) ?_ _
    have hz2 := hS.size
    by_cases ho : okF f
    · have E := HA.out
      rw [show decide (okF f) = true from decide_eq_true ho] at E
      rw [E]
      have HE := Lib.hid (show errF f = 0 by rw [errF, if_pos ho])
      have ha := hAt.below hS (by omega)
      have k0 := ha.next; have k1 := ha.off; have k2 := ha.id; have k3 := ha.more
      have hob : f.off ≤ 65528 := ho.2.2.2.1
      clear ha hAt E HA hP hM
      generalize (W.alloc (.cells _ 4)).drew = W2 at *
      cases hm : f.more
      · have e1 : f.off + bit f.more 1 = f.off := by rw [hm]; simp [bit]
        have HL := Lib.hid (putL_F f (f.off) ho e1.symm)
        rw [hm] at k3
        clear hm e1
        go_wp2_with (go_at_call 63; refine (put6_new [(f.next, 1), (0, 1), (f.off, 2), (f.id, 4)] _ 4 _ W2 (by rfl) (by rfl) (by simp) (by simp)).mono ?_; rintro e w3 ⟨v3, rfl, m3⟩)
        go_ret2
        rw [HL.out] at m3
        exact ⟨v3, by rw [HE.out]; rfl, m3.after (hB.trans (hS.mono (by omega)))⟩
      · have e1 : f.off + bit f.more 1 = f.off + 1 := by rw [hm]; simp [bit]
        have HL := Lib.hid (putL_F f (f.off + 1) ho e1.symm)
        rw [hm] at k3
        clear hm e1
        go_wp2_with (go_at_call 63; refine (put6_new [(f.next, 1), (0, 1), (f.off + 1, 2), (f.id, 4)] _ 4 _ W2 (by rfl) (by rfl) (by simp) (by simp)).mono ?_; rintro e w3 ⟨v3, rfl, m3⟩)
        go_ret2
        rw [HL.out] at m3
        exact ⟨v3, by rw [HE.out]; rfl, m3.after (hB.trans (hS.mono (by omega)))⟩
    · have E := HA.out
      rw [show decide (okF f) = false from decide_eq_false ho] at E
      rw [E]
      have HE := Lib.hid (show errF f = 1 by rw [errF, if_neg ho])
      have HN := Lib.hid (show bldF f = [] by rw [bldF, if_neg ho])
      clear ho E HA
      go_wp2_with fail
      go_ret2
      exact ⟨.slice none 0 0, by rw [HE.out]; rfl, by rw [HN.out]; exact Made.nil _ _ (hB.trans (hS.mono (by omega)))⟩
  · have p0' : decide (0 ≤ f.off) = false := by simpa using p0
    obtain ⟨M, hM⟩ : ∃ M, (Int.tmod f.off 8 == 0) = M := ⟨_, rfl⟩
    refine wp_region_held_drew (S := fun w' => Below W.heap.size W w') (by kernel_rfl) (Below.refl _ W).drew (fun hS => ?_)
    refine held_pure (i := 0) (oi := ⟨some 5, _, _, _, _, _⟩) rfl (by kernel_rfl) (by kernel_rfl) (by kernel_rfl) (fun _ _ _ h => h) (by rfl) (v := ?_) (fun w hSw => ?_) hS (fun hS => ?_)
    rotate_left
    · go_simp; try with_reducible rfl
    try go_frame
    refine held_pure (i := 1) (oi := ⟨some 6, _, _, _, _, _⟩) rfl (by kernel_rfl) (by kernel_rfl) (by kernel_rfl) (fun _ _ _ h => h) (by rfl) (fun w hSw => run_load_int rfl rfl (hAt.below hSw (by omega)).next) hS (fun hS => ?_)
    try go_frame
    refine held_pure (i := 3) (oi := ⟨some 8, _, _, _, _, _⟩) rfl (by kernel_rfl) (by kernel_rfl) (by kernel_rfl) (fun _ _ _ h => h) (by rfl) (v := ?_) (fun w hSw => ?_) hS (fun hS => ?_)
    rotate_left
    · go_simp; try with_reducible rfl
    try go_frame
    refine held_pure (i := 4) (oi := ⟨some 9, _, _, _, _, _⟩) rfl (by kernel_rfl) (by kernel_rfl) (by kernel_rfl) (fun _ _ _ h => h) (by rfl) (fun w hSw => run_load_int rfl rfl (hAt.below hSw (by omega)).off) hS (fun hS => ?_)
    try go_frame
    refine held_pure (i := 5) (oi := ⟨some 10, _, _, _, _, _⟩) rfl (by kernel_rfl) (by kernel_rfl) (by kernel_rfl) (fun _ _ _ h => h) (by rfl) (v := ?_) (fun w hSw => ?_) hS (fun hS => ?_)
    rotate_left
    · go_simp; try with_reducible rfl
    try go_frame
    refine held_pure (i := 11) (oi := ⟨some 16, _, _, _, _, _⟩) rfl (by kernel_rfl) (by kernel_rfl) (by kernel_rfl) (fun _ _ _ h => h) (by rfl) (v := ?_) (fun w hSw => ?_) hS (fun hS => ?_)
    rotate_left
    · go_simp; try with_reducible rfl
    try go_frame
    refine held_pure (i := 12) (oi := ⟨some 17, _, _, _, _, _⟩) rfl (by kernel_rfl) (by kernel_rfl) (by kernel_rfl) (fun _ _ _ h => h) (by rfl) (fun w hSw => run_load_int rfl rfl (hAt.below hSw (by omega)).off) hS (fun hS => ?_)
    try go_frame
    refine held_pure (i := 13) (oi := ⟨some 18, _, _, _, _, _⟩) rfl (by kernel_rfl) (by kernel_rfl) (by kernel_rfl) (fun _ _ _ h => h) (by rfl) (v := ?_) (fun w hSw => ?_) hS (fun hS => ?_)
    rotate_left
    · go_simp; try with_reducible rfl
    try go_frame
    refine held_pure (i := 14) (oi := ⟨some 19, _, _, _, _, _⟩) rfl (by kernel_rfl) (by kernel_rfl) (by kernel_rfl) (fun _ _ _ h => h) (by rfl) (v := ?_) (fun w hSw => ?_) hS (fun hS => ?_)
    rotate_left
    · go_simp; try with_reducible rfl
    try go_frame
    refine held_pure (i := 15) (oi := ⟨some 20, _, _, _, _, _⟩) rfl (by kernel_rfl) (by kernel_rfl) (by kernel_rfl) (fun _ _ _ h => h) (by rfl) (v := ?_) (fun w hSw => ?_) hS (fun hS => ?_)
    rotate_left
    · go_simp; try with_reducible rfl
    try go_frame
    refine held_pure (i := 16) (oi := ⟨some 21, _, _, _, _, _⟩) rfl (by kernel_rfl) (by kernel_rfl) (by kernel_rfl) (fun _ _ _ h => h) (by rfl) (fun w hSw => run_load_int rfl rfl (hAt.below hSw (by omega)).id) hS (fun hS => ?_)
    try go_frame
    refine wpAnyH_ready (rs := [2]) (by kernel_rfl) (by simp) (AllReadyH.cons (o := ⟨some 7, _, _, _, _, _⟩) rfl (fun K hK => ?_) AllReadyH.nil)
    rw [if_pos (by rfl)]
    go_simp
    refine (fits_any _ _ _).mono ?_
    rintro e w2 ⟨rfl, rfl⟩
    show K _ _
    refine hK.out _ _ hS (fun hS => ?_)
    clear hK K
    try go_frame
    refine held_pure (i := 6) (oi := ⟨some 11, _, _, _, _, _⟩) rfl (by kernel_rfl) (by kernel_rfl) (by kernel_rfl) (fun _ _ _ h => h) (by rfl) (v := ?_) (fun w hSw => ?_) hS (fun hS => ?_)
    rotate_left
    · go_simp; try with_reducible rfl
    try go_frame
    refine held_skip (i := 7) (oi := ⟨some 12, _, _, _, _, _⟩) rfl (by kernel_rfl) (by kernel_rfl) (by kernel_rfl) (fun _ _ _ h => h) (by rfl) hS (fun hS => ?_)
    try go_frame
    refine held_skip (i := 8) (oi := ⟨some 13, _, _, _, _, _⟩) rfl (by kernel_rfl) (by kernel_rfl) (by kernel_rfl) (fun _ _ _ h => h) (by rfl) hS (fun hS => ?_)
    try go_frame
    refine held_skip (i := 9) (oi := ⟨some 14, _, _, _, _, _⟩) rfl (by kernel_rfl) (by kernel_rfl) (by kernel_rfl) (fun _ _ _ h => h) (by rfl) hS (fun hS => ?_)
    try go_frame
    refine held_pure (i := 10) (oi := ⟨some 15, _, _, _, _, _⟩) rfl (by kernel_rfl) (by kernel_rfl) (by kernel_rfl) (fun _ _ _ h => h) (by rfl) (v := ?_) (fun w hSw => ?_) hS (fun hS => ?_)
    rotate_left
    · go_simp; try with_reducible rfl
    try go_frame
    refine wpAnyH_ready (rs := [17]) (by kernel_rfl) (by simp) (AllReadyH.cons (o := ⟨some 22, _, _, _, _, _⟩) rfl (fun K hK => ?_) AllReadyH.nil)
    rw [if_pos (by rfl)]
    go_simp
    refine (fits_any _ _ _).mono ?_
    rintro e w17 ⟨rfl, rfl⟩
    show K _ _
    refine hK.out _ _ hS (fun hS => ?_)
    clear hK K
    try go_frame
    refine wpAnyH_ready (rs := [18]) (by kernel_rfl) (by simp) (AllReadyH.cons (o := ⟨some 23, _, _, _, _, _⟩) rfl (fun K hK => ?_) AllReadyH.nil)
    rw [if_pos (by rfl)]
    go_simp
    refine hK.out _ _ (hS.alloc hS.size _) (fun hS => ?_)
    clear hK K
    try go_frame
    refine wpAnyH_ready (rs := [19]) (by kernel_rfl) (by simp) (AllReadyH.cons (o := ⟨some 24, _, _, _, _, _⟩) rfl (fun K hK => ?_) AllReadyH.nil)
    rw [if_pos (by rfl)]
    go_simp
    refine (all6_new [fitsB f.next 1, false, M, fitsB f.id 4] _ 4 _ W (by rfl) (by rfl) (by simp)).mono ?_
    rintro e w19 ⟨rfl, rfl⟩
    show K _ _
    refine hK.out _ _ hS (fun hS => ?_)
    clear hK K
    try go_frame
    refine held_pure (i := 20) (oi := ⟨some 25, _, _, _, _, _⟩) rfl (by kernel_rfl) (by kernel_rfl) (by kernel_rfl) (fun _ _ _ h => h) (by rfl) (v := ?_) (fun w hSw => ?_) hS (fun hS => ?_)
    rotate_left
    · go_simp; try with_reducible rfl
    try go_frame
    refine wpAnyH_done (by kernel_rfl) ?_ _
    have hz2 := hS.size
    have ho : ¬ okF f := fun h => p0 h.2.2.1
    have E : allB [fitsB f.next 1, false, M, fitsB f.id 4] = false := by simp [allB]
    rw [E]
    have HE := Lib.hid (show errF f = 1 by rw [errF, if_neg ho])
    have HN := Lib.hid (show bldF f = [] by rw [bldF, if_neg ho])
    clear ho E
    go_wp2_with fail
    go_ret2
    exact ⟨.slice none 0 0, by rw [HE.out]; rfl, by rw [HN.out]; exact Made.nil _ _ (hB.trans (hS.mono (by omega)))⟩

set_option maxRecDepth 100000 in
set_option maxHeartbeats 400000 in
theorem r6bfrag : Calls Try.prog 46 #[frv f] w fun e w' => ∃ v, e = .returned (.tuple #[v, .int .i64 (errF f)]) ∧ Made w w' v (bldF f) := by
  have hB : Below w.heap.size w (w.alloc (.cells (fra f) 52)) := (Below.refl w.heap.size w).alloc (Nat.le_refl _) _
  have hAt := AtF.new (f := f) w
  have hz : w.heap.size < (w.alloc (.cells (fra f) 52)).heap.size := by simp
  unfold frv
  rw [show #[Value.int .i64 f.next, .int .i64 f.off, .int .i64 f.id, .bool f.more] = fra f from rfl]
  have HO := Lib.hid (okF_iff f)
  have k0 := hAt.next; have k1 := hAt.off; have k2 := hAt.id; have k3 := hAt.more
  go_enter Try.func46, Try.ntmps46
  go_upto_region 1 with fail
  generalize w.alloc (.cells (fra f) 52) = W at *
  by_cases ho : okF f
  · obtain ⟨hn0, hn1, p0, p1, p2, hi0, hi1⟩ := id ho
    have ptm : Int.tmod f.off 8 = f.off % 8 := Int.tmod_eq_emod_of_nonneg p0
    have p2' : ((f.off % 8) != 0) = false := by simp; omega
    have HE := Lib.hid (show errF f = 0 by rw [errF, if_pos ho])
    have H0 := Lib.hid (HO.out.1 ho).1
    have H4 := Lib.hid (HO.out.1 ho).2.2.2
    clear p2
    cases hm : f.more
    · have e1 : f.off + bit f.more 1 = f.off := by rw [hm]; simp [bit]
      have HL := Lib.hid (putR_F f (f.off) ho e1.symm)
      rw [hm] at k3
      clear hm e1
      go_wp2_with (go_at_call 55; refine (rfits_any _ _ _).mono ?_; rintro e w' ⟨rfl, rfl⟩; (first | rw [H0.out] | rw [H4.out]))
      refine wp_region_held_drew (S := fun w' => Below W.heap.size W w') (by kernel_rfl) (Below.refl _ W).drew (fun hS => ?_)
      refine held_pure (i := 0) (oi := ⟨some 37, _, _, _, _, _⟩) rfl (by kernel_rfl) (by kernel_rfl) (by kernel_rfl) (fun _ _ _ h => h) (by rfl) (v := ?_) (fun w hSw => ?_) hS (fun hS => ?_)
      rotate_left
      · go_simp; try with_reducible rfl
      try go_frame
      refine held_pure (i := 1) (oi := ⟨some 38, _, _, _, _, _⟩) rfl (by kernel_rfl) (by kernel_rfl) (by kernel_rfl) (fun _ _ _ h => h) (by rfl) (fun w hSw => run_load_int rfl rfl (hAt.below hSw (by omega)).next) hS (fun hS => ?_)
      try go_frame
      refine held_pure (i := 2) (oi := ⟨some 39, _, _, _, _, _⟩) rfl (by kernel_rfl) (by kernel_rfl) (by kernel_rfl) (fun _ _ _ h => h) (by rfl) (v := ?_) (fun w hSw => ?_) hS (fun hS => ?_)
      rotate_left
      · go_simp; try with_reducible rfl
      try go_frame
      refine held_pure (i := 4) (oi := ⟨some 41, _, _, _, _, _⟩) rfl (by kernel_rfl) (by kernel_rfl) (by kernel_rfl) (fun _ _ _ h => h) (by rfl) (v := ?_) (fun w hSw => ?_) hS (fun hS => ?_)
      rotate_left
      · go_simp; try with_reducible rfl
      try go_frame
      refine held_pure (i := 6) (oi := ⟨some 43, _, _, _, _, _⟩) rfl (by kernel_rfl) (by kernel_rfl) (by kernel_rfl) (fun _ _ _ h => h) (by rfl) (v := ?_) (fun w hSw => ?_) hS (fun hS => ?_)
      rotate_left
      · go_simp; try with_reducible rfl
      try go_frame
      refine held_pure (i := 7) (oi := ⟨some 44, _, _, _, _, _⟩) rfl (by kernel_rfl) (by kernel_rfl) (by kernel_rfl) (fun _ _ _ h => h) (by rfl) (fun w hSw => run_load_int rfl rfl (hAt.below hSw (by omega)).id) hS (fun hS => ?_)
      try go_frame
      refine wpAnyH_ready (rs := [3]) (by kernel_rfl) (by simp) (AllReadyH.cons (o := ⟨some 40, _, _, _, _, _⟩) rfl (fun K hK => ?_) AllReadyH.nil)
      rw [if_pos (by rfl)]
      go_simp
      refine hK.out _ _ (hS.alloc hS.size _) (fun hS => ?_)
      clear hK K
      try go_frame
      refine wpAnyH_ready (rs := [5]) (by kernel_rfl) (by simp) (AllReadyH.cons (o := ⟨some 42, _, _, _, _, _⟩) rfl (fun K hK => ?_) AllReadyH.nil)
      rw [if_pos (by rfl)]
      go_simp
      refine (rput_any (some ⟨W.heap.size, 0, none⟩) [u8 f.next, 0] 2 _ (f.off) 2 _ ((arg_pair W f.next (by first | rw [IntKind.wrap_u8] | omega)).drewN 1) (by simp)).mono ?_
      have y5 := hS
      rintro e w5 ⟨v5, rfl, m5⟩
      obtain ⟨A5, c5, rfl, arg5, ow5, x5⟩ := made_shape m5
      show K _ _
      refine hK.out _ _ (below_step hS x5) (fun hS => ?_)
      clear hK K
      try go_frame
      refine wpAnyH_ready (rs := [8]) (by kernel_rfl) (by simp) (AllReadyH.cons (o := ⟨some 45, _, _, _, _, _⟩) rfl (fun K hK => ?_) AllReadyH.nil)
      rw [if_pos (by rfl)]
      go_simp
      refine (rput_any A5 _ c5 _ f.id 4 _ arg5 (by exact Nat.le_trans (putB_le (K := 2) (by simp) (by decide)) (by decide))).mono ?_
      rintro e w8 ⟨v8, rfl, m8⟩
      have x8 : Below _ _ _ := m8.below
      show K _ _
      refine hK.out _ _ (below_step hS x8) (fun hS => ?_)
      clear hK K
      try go_frame
      refine held_pure (i := 9) (oi := ⟨some 2, _, _, _, _, _⟩) rfl (by kernel_rfl) (by kernel_rfl) (by kernel_rfl) (fun _ _ _ h => h) (by rfl) (v := ?_) (fun w hSw => ?_) hS (fun hS => ?_)
      rotate_left
      · go_simp; try with_reducible rfl
      try go_frame
      refine held_pure (i := 10) (oi := ⟨some 3, _, _, _, _, _⟩) rfl (by kernel_rfl) (by kernel_rfl) (by kernel_rfl) (fun _ _ _ h => h) (by rfl) (v := ?_) (fun w hSw => ?_) hS (fun hS => ?_)
      rotate_left
      · go_simp; try with_reducible rfl
      try go_frame
      refine wpAnyH_done (by kernel_rfl) ?_ _
      go_wp2_with fail
      go_ret2
      rw [HL.out] at m8
      exact ⟨v8, by rw [HE.out]; rfl, m8.after (hB.trans ((below_step y5 x5).mono (by omega)))⟩
    · have e1 : f.off + bit f.more 1 = f.off + 1 := by rw [hm]; simp [bit]
      have HL := Lib.hid (putR_F f (f.off + 1) ho e1.symm)
      rw [hm] at k3
      clear hm e1
      go_wp2_with (go_at_call 55; refine (rfits_any _ _ _).mono ?_; rintro e w' ⟨rfl, rfl⟩; (first | rw [H0.out] | rw [H4.out]))
      refine wp_region_held_drew (S := fun w' => Below W.heap.size W w') (by kernel_rfl) (Below.refl _ W).drew (fun hS => ?_)
      refine held_pure (i := 0) (oi := ⟨some 37, _, _, _, _, _⟩) rfl (by kernel_rfl) (by kernel_rfl) (by kernel_rfl) (fun _ _ _ h => h) (by rfl) (v := ?_) (fun w hSw => ?_) hS (fun hS => ?_)
      rotate_left
      · go_simp; try with_reducible rfl
      try go_frame
      refine held_pure (i := 1) (oi := ⟨some 38, _, _, _, _, _⟩) rfl (by kernel_rfl) (by kernel_rfl) (by kernel_rfl) (fun _ _ _ h => h) (by rfl) (fun w hSw => run_load_int rfl rfl (hAt.below hSw (by omega)).next) hS (fun hS => ?_)
      try go_frame
      refine held_pure (i := 2) (oi := ⟨some 39, _, _, _, _, _⟩) rfl (by kernel_rfl) (by kernel_rfl) (by kernel_rfl) (fun _ _ _ h => h) (by rfl) (v := ?_) (fun w hSw => ?_) hS (fun hS => ?_)
      rotate_left
      · go_simp; try with_reducible rfl
      try go_frame
      refine held_pure (i := 4) (oi := ⟨some 41, _, _, _, _, _⟩) rfl (by kernel_rfl) (by kernel_rfl) (by kernel_rfl) (fun _ _ _ h => h) (by rfl) (v := ?_) (fun w hSw => ?_) hS (fun hS => ?_)
      rotate_left
      · go_simp; try with_reducible rfl
      try go_frame
      refine held_pure (i := 6) (oi := ⟨some 43, _, _, _, _, _⟩) rfl (by kernel_rfl) (by kernel_rfl) (by kernel_rfl) (fun _ _ _ h => h) (by rfl) (v := ?_) (fun w hSw => ?_) hS (fun hS => ?_)
      rotate_left
      · go_simp; try with_reducible rfl
      try go_frame
      refine held_pure (i := 7) (oi := ⟨some 44, _, _, _, _, _⟩) rfl (by kernel_rfl) (by kernel_rfl) (by kernel_rfl) (fun _ _ _ h => h) (by rfl) (fun w hSw => run_load_int rfl rfl (hAt.below hSw (by omega)).id) hS (fun hS => ?_)
      try go_frame
      refine wpAnyH_ready (rs := [3]) (by kernel_rfl) (by simp) (AllReadyH.cons (o := ⟨some 40, _, _, _, _, _⟩) rfl (fun K hK => ?_) AllReadyH.nil)
      rw [if_pos (by rfl)]
      go_simp
      refine hK.out _ _ (hS.alloc hS.size _) (fun hS => ?_)
      clear hK K
      try go_frame
      refine wpAnyH_ready (rs := [5]) (by kernel_rfl) (by simp) (AllReadyH.cons (o := ⟨some 42, _, _, _, _, _⟩) rfl (fun K hK => ?_) AllReadyH.nil)
      rw [if_pos (by rfl)]
      go_simp
      refine (rput_any (some ⟨W.heap.size, 0, none⟩) [u8 f.next, 0] 2 _ (f.off + 1) 2 _ ((arg_pair W f.next (by first | rw [IntKind.wrap_u8] | omega)).drewN 1) (by simp)).mono ?_
      have y5 := hS
      rintro e w5 ⟨v5, rfl, m5⟩
      obtain ⟨A5, c5, rfl, arg5, ow5, x5⟩ := made_shape m5
      show K _ _
      refine hK.out _ _ (below_step hS x5) (fun hS => ?_)
      clear hK K
      try go_frame
      refine wpAnyH_ready (rs := [8]) (by kernel_rfl) (by simp) (AllReadyH.cons (o := ⟨some 45, _, _, _, _, _⟩) rfl (fun K hK => ?_) AllReadyH.nil)
      rw [if_pos (by rfl)]
      go_simp
      refine (rput_any A5 _ c5 _ f.id 4 _ arg5 (by exact Nat.le_trans (putB_le (K := 2) (by simp) (by decide)) (by decide))).mono ?_
      rintro e w8 ⟨v8, rfl, m8⟩
      have x8 : Below _ _ _ := m8.below
      show K _ _
      refine hK.out _ _ (below_step hS x8) (fun hS => ?_)
      clear hK K
      try go_frame
      refine held_pure (i := 9) (oi := ⟨some 2, _, _, _, _, _⟩) rfl (by kernel_rfl) (by kernel_rfl) (by kernel_rfl) (fun _ _ _ h => h) (by rfl) (v := ?_) (fun w hSw => ?_) hS (fun hS => ?_)
      rotate_left
      · go_simp; try with_reducible rfl
      try go_frame
      refine held_pure (i := 10) (oi := ⟨some 3, _, _, _, _, _⟩) rfl (by kernel_rfl) (by kernel_rfl) (by kernel_rfl) (fun _ _ _ h => h) (by rfl) (v := ?_) (fun w hSw => ?_) hS (fun hS => ?_)
      rotate_left
      · go_simp; try with_reducible rfl
      try go_frame
      refine wpAnyH_done (by kernel_rfl) ?_ _
      go_wp2_with fail
      go_ret2
      rw [HL.out] at m8
      exact ⟨v8, by rw [HE.out]; rfl, m8.after (hB.trans ((below_step y5 x5).mono (by omega)))⟩
  · have HE := Lib.hid (show errF f = 1 by rw [errF, if_neg ho])
    have HN := Lib.hid (show bldF f = [] by rw [bldF, if_neg ho])
    have hno : ¬ (fitsB f.next 1 = true ∧ offB f = true ∧ mulB f = true ∧ fitsB f.id 4 = true) := fun h => ho (HO.out.2 h)
    clear ho HO
    cases H0' : fitsB f.next 1
    · have H0 := Lib.hid H0'
      have H4 := Lib.hid H0'
      clear H0' hno
      go_wp2_with (go_at_call 55; refine (rfits_any _ _ _).mono ?_; rintro e w' ⟨rfl, rfl⟩; (first | rw [H0.out] | rw [H4.out]))
      go_ret2
      exact ⟨.slice none 0 0, by rw [HE.out]; rfl, by rw [HN.out]; exact Made.nil _ _ hB⟩
    · have H0 := Lib.hid H0'
      rw [H0'] at hno
      clear H0'
      by_cases p0 : 0 ≤ f.off
      · have p0' : decide (f.off < 0) = false := by simp; omega
        have ptm : Int.tmod f.off 8 = f.off % 8 := Int.tmod_eq_emod_of_nonneg p0
        by_cases p1 : f.off ≤ 65528
        · have p1' : decide (65528 < f.off) = false := by simp; omega
          by_cases p2 : f.off % 8 = 0
          · have p2' : ((f.off % 8) != 0) = false := by simp; omega
            have H4 := Lib.hid (show fitsB f.id 4 = false by
              cases h4 : fitsB f.id 4
              · rfl
              · exact absurd ⟨rfl, by simp [offB, p0, p1], by simp [mulB, p2], h4⟩ hno)
            clear hno p2
            go_wp2_with (go_at_call 55; refine (rfits_any _ _ _).mono ?_; rintro e w' ⟨rfl, rfl⟩; (first | rw [H0.out] | rw [H4.out]))
            go_ret2
            exact ⟨.slice none 0 0, by rw [HE.out]; rfl, by rw [HN.out]; exact Made.nil _ _ hB⟩
          · have p2' : ((f.off % 8) != 0) = true := by simp; omega
            have H4 := Lib.hid (rfl : true = true)
            clear hno p2
            go_wp2_with (go_at_call 55; refine (rfits_any _ _ _).mono ?_; rintro e w' ⟨rfl, rfl⟩; (first | rw [H0.out] | rw [H4.out]))
            go_ret2
            exact ⟨.slice none 0 0, by rw [HE.out]; rfl, by rw [HN.out]; exact Made.nil _ _ hB⟩
        · have p1' : decide (65528 < f.off) = true := by simp; omega
          have H4 := Lib.hid (rfl : true = true)
          clear hno
          go_wp2_with (go_at_call 55; refine (rfits_any _ _ _).mono ?_; rintro e w' ⟨rfl, rfl⟩; (first | rw [H0.out] | rw [H4.out]))
          go_ret2
          exact ⟨.slice none 0 0, by rw [HE.out]; rfl, by rw [HN.out]; exact Made.nil _ _ hB⟩
      · have p0' : decide (f.off < 0) = true := by simp; omega
        have H4 := Lib.hid (rfl : true = true)
        clear hno
        go_wp2_with (go_at_call 55; refine (rfits_any _ _ _).mono ?_; rintro e w' ⟨rfl, rfl⟩; (first | rw [H0.out] | rw [H4.out]))
        go_ret2
        exact ⟨.slice none 0 0, by rw [HE.out]; rfl, by rw [HN.out]; exact Made.nil _ _ hB⟩
end
end Go.Proofs.Ytcfcmnhnijjehaa
