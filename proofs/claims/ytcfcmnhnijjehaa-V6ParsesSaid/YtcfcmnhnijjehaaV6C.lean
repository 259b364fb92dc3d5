/-
  Contracts of ParseFrag, the program's and the document's. Conditions are each theorem's own.
-/
import Derived.Test.YtcfcmnhnijjehaaOwnR
namespace Go.Proofs.Ytcfcmnhnijjehaa
open Go.RowKit

set_option maxRecDepth 100000 in
set_option maxHeartbeats 1000000 in
theorem c6pfrag (A : Option Addr) (b : List UInt8) (c B : Nat) (w : World) (hR : Arg w B A c b) (hB : B ≤ w.heap.size) (hl : b.length ≤ 1000000) :
    Calls Try.prog 47 #[.slice A b.length c] w fun e w' => ∃ v, e = .returned (.tuple #[frv (prsF b), v, .int .i64 (prsG b)]) ∧ Made w w' v (rstF b) := by
  have hOR := OwnR.new w (fra frz) 52
  have hg0 := World.alloc_heap_new w (.cells (fra frz) 52)
  have hcap := hR.cap
  go_enter Try.func47, Try.ntmps47
  by_cases h8 : b.length < 8
  · have HE1 := Lib.hid (show prsF b = frz by rw [prsF, if_pos h8])
    have HE2 := Lib.hid (show rstF b = [] by rw [rstF, if_pos h8])
    have HE3 := Lib.hid (show prsG b = 3 by rw [prsG, if_pos h8])
    go_wp2_with fail
    exact bodyPost_ret (res3 rfl rfl (run_loadVar_row _ _ _ 52 (fra frz) _ _ hg0 Try.underlying52 rfl (by kernel_rfl))) rfl ⟨.slice none 0 0, by rw [HE1.out, HE3.out]; rfl, by rw [HE2.out]; exact Made.nil _ _ hOR.b⟩
  · have h8' : ¬ (b.length : Int) < 8 := by omega
    have HE1 := Lib.hid (show prsF b = rawF b by rw [prsF, if_neg h8])
    have HE2 := Lib.hid (show rstF b = b.drop 8 by rw [rstF, if_neg h8])
    have HE3 := Lib.hid (show prsG b = 0 by rw [prsG, if_neg h8])
    obtain ⟨D, hD⟩ : ∃ D, D = b.drop 8 := ⟨_, rfl⟩
    have HDl := Lib.hid (show D.length = b.length - 8 by rw [hD]; simp)
    have G0 := Lib.hid (get_one (b := b) (i := 0) (by omega))
    have G2 := Lib.hid (get_two (b := b) (i := 2) (by omega))
    have G4 := Lib.hid (get_four (b := b) (i := 4) (by omega))
    obtain ⟨F, hF⟩ : ∃ F, F = n2 b 2 := ⟨_, rfl⟩
    have hFb := n2_bd b 2
    rw [← hF] at hFb G2
    have HA := Lib.hid (show #[Value.int .i64 (byt b 0), .int .i64 (F / 8 * 8), .int .i64 (n4 b 4), .bool (decide (F % 2 = 1))] = fra (rawF b) by rw [hF]; rfl)
    have HM := Lib.hid (show bits .and .i64 F 1 = F % 2 from by have := and_mask 1 F (by omega) (by omega) (by omega); simpa using this)
    have HN := Lib.hid (show ((F % 2) != 0) = decide (F % 2 = 1) from by rw [Bool.eq_iff_iff]; simp; omega)
    have HD := Lib.hid hD
    clear hD hF h8
    have hOR' : OwnR w 52 4 (w.alloc (.cells #[.int .i64 0, .int .i64 0, .int .i64 0, .bool false] 52)) := hOR
    go_upto_region 4 with (go_at_call 67; refine (get6_any A b c B 2 2 _ (hR.below (hOR'.b.mono hB)).rd (by omega) hR.cap).mono ?_; rintro e w' ⟨rfl, rfl⟩; rw [show getV b 2 2 = F from G2.out])
    generalize w.alloc (.cells #[.int .i64 0, .int .i64 0, .int .i64 0, .bool false] 52) = W at *
    have HX := Lib.hid (show Int.tmod F 8 = F % 8 from Int.tmod_eq_emod_of_nonneg hFb.1)
    have HY := Lib.hid (show IntKind.i64.wrap (F - F % 8) = F / 8 * 8 from by rw [IntWalk.i64_in _ (by omega)]; omega)
    refine wp_region_held_drew (S := OwnR w 52 4) (by kernel_rfl) hOR'.drew (fun hS => ?_)
    refine held_pure (i := 0) (oi := ⟨some 12, _, _, _, _, _⟩) rfl (by kernel_rfl) (by kernel_rfl) (by kernel_rfl) (fun _ _ _ h => h) (by rfl) (v := ?_) (fun w hSw => ?_) hS (fun hS => ?_)
    rotate_left
    · go_simp; try with_reducible rfl
    try go_frame
    refine held_pure (i := 2) (oi := ⟨some 14, _, _, _, _, _⟩) rfl (by kernel_rfl) (by kernel_rfl) (by kernel_rfl) (fun _ _ _ h => h) (by rfl) (v := ?_) (fun w hSw => ?_) hS (fun hS => ?_)
    rotate_left
    · go_simp; try with_reducible rfl
    try go_frame
    refine held_pure (i := 3) (oi := ⟨some 15, _, _, _, _, _⟩) rfl (by kernel_rfl) (by kernel_rfl) (by kernel_rfl) (fun _ _ _ h => h) (by rfl) (v := ?_) (fun w hSw => ?_) hS (fun hS => ?_)
    rotate_left
    · go_simp; try with_reducible rfl
    try go_frame
    refine held_pure (i := 4) (oi := ⟨some 16, _, _, _, _, _⟩) rfl (by kernel_rfl) (by kernel_rfl) (by kernel_rfl) (fun _ _ _ h => h) (by rfl) (v := ?_) (fun w hSw => ?_) hS (fun hS => ?_)
    rotate_left
    · go_simp; try with_reducible rfl
    try go_frame
    refine held_pure (i := 5) (oi := ⟨some 17, _, _, _, _, _⟩) rfl (by kernel_rfl) (by kernel_rfl) (by kernel_rfl) (fun _ _ _ h => h) (by rfl) (v := .int .i64 (F / 8 * 8)) (fun w hSw => by go_simp; rw [HX.out]; exact HY.out) hS (fun hS => ?_)
    try go_frame
    refine held_pure (i := 6) (oi := ⟨some 18, _, _, _, _, _⟩) rfl (by kernel_rfl) (by kernel_rfl) (by kernel_rfl) (fun _ _ _ h => h) (by rfl) (v := ?_) (fun w hSw => ?_) hS (fun hS => ?_)
    rotate_left
    · go_simp; try with_reducible rfl
    try go_frame
    refine held_pure (i := 8) (oi := ⟨some 20, _, _, _, _, _⟩) rfl (by kernel_rfl) (by kernel_rfl) (by kernel_rfl) (fun _ _ _ h => h) (by rfl) (v := ?_) (fun w hSw => ?_) hS (fun hS => ?_)
    rotate_left
    · go_simp; try with_reducible rfl
    try go_frame
    refine held_pure (i := 9) (oi := ⟨some 21, _, _, _, _, _⟩) rfl (by kernel_rfl) (by kernel_rfl) (by kernel_rfl) (fun _ _ _ h => h) (by rfl) (v := .int .i64 (F % 2)) (fun w hSw => by go_simp; exact HM.out) hS (fun hS => ?_)
    try go_frame
    refine held_pure (i := 10) (oi := ⟨some 22, _, _, _, _, _⟩) rfl (by kernel_rfl) (by kernel_rfl) (by kernel_rfl) (fun _ _ _ h => h) (by rfl) (v := .bool (decide (F % 2 = 1))) (fun w hSw => by go_simp; exact HN.out) hS (fun hS => ?_)
    try go_frame
    refine held_pure (i := 12) (oi := ⟨some 24, _, _, _, _, _⟩) rfl (by kernel_rfl) (by kernel_rfl) (by kernel_rfl) (fun _ _ _ h => h) (by rfl) (v := ?_) (fun w hSw => ?_) hS (fun hS => ?_)
    rotate_left
    · go_simp; try with_reducible rfl
    try go_frame
    refine held_pure (i := 13) (oi := ⟨some 25, _, _, _, _, _⟩) rfl (by kernel_rfl) (by kernel_rfl) (by kernel_rfl) (fun _ _ _ h => h) (by rfl) (fun w hSw => run_cut_l rfl rfl (l := 8) rfl (by omega) HDl.out) hS (fun hS => ?_)
    try go_frame
    refine wpAnyH_ready (rs := [1]) (by kernel_rfl) (by simp) (AllReadyH.cons (o := ⟨some 13, _, _, _, _, _⟩) rfl (fun K hK => ?_) AllReadyH.nil)
    rw [if_pos (by rfl)]
    go_simp
    refine (get6_any A b c B 0 1 _ (hR.below (hS.b.mono hB)).rd (by omega) hR.cap).mono ?_
    rintro e w1 ⟨rfl, rfl⟩
    rw [show getV b 0 1 = byt b 0 from G0.out]
    show K _ _
    refine hK.out _ _ hS (fun hS => ?_)
    clear hK K
    try go_frame
    refine wpAnyH_ready (rs := [7]) (by kernel_rfl) (by simp) (AllReadyH.cons (o := ⟨some 19, _, _, _, _, _⟩) rfl (fun K hK => ?_) AllReadyH.nil)
    rw [if_pos (by rfl)]
    go_simp
    refine (get6_any A b c B 4 4 _ (hR.below (hS.b.mono hB)).rd (by omega) hR.cap).mono ?_
    rintro e w7 ⟨rfl, rfl⟩
    rw [show getV b 4 4 = n4 b 4 from G4.out]
    show K _ _
    refine hK.out _ _ hS (fun hS => ?_)
    clear hK K
    try go_frame
    refine held_pure (i := 11) (oi := ⟨some 23, _, _, _, _, _⟩) rfl (by kernel_rfl) (by kernel_rfl) (by kernel_rfl) (fun _ _ _ h => h) (by rfl) (v := .agg (fra (rawF b))) (fun w hSw => by go_simp; exact HA.out) hS (fun hS => ?_)
    try go_frame
    refine wpAnyH_ready (rs := [14]) (by kernel_rfl) (by simp) (AllReadyH.cons (o := ⟨some 26, _, _, _, _, _⟩) rfl (fun K hK => ?_) AllReadyH.nil)
    rw [if_pos (by rfl)]
    go_simp
    have y14 := hS
    refine (fresh_any _ D _ B _ (by rw [HD.out]; exact (hR.below (hS.b.mono hB)).cut_lo 8) (by rw [HDl.out]; omega)).mono ?_
    rintro e w14 ⟨v14, rfl, m14⟩
    show K _ _
    refine hK.out _ _ (hS.step m14.below) (fun hS => ?_)
    clear hK K
    try go_frame
    refine wpAnyH_ready (rs := [15]) (by kernel_rfl) (by simp) (AllReadyH.cons (o := ⟨none, _, _, _, _, _⟩) rfl (fun K hK => ?_) AllReadyH.nil)
    rw [if_pos (by rfl)]
    obtain ⟨old, ho4, hgo⟩ := hS.2
    refine wp_store_row 52 _ _ rfl w.heap.size (fra (rawF b)) rfl rfl 52 old hgo (by kernel_rfl) ho4 (by simp [fra, Value.oneCell']) ?_
    have hgz := setRow_heap _ _ _ (fra (rawF b)) _ _ hgo
    refine hK.out _ _ (hS.row _ rfl) (fun hS => ?_)
    clear hK K
    try go_frame
    refine held_pure (i := 16) (oi := ⟨some 3, _, _, _, _, _⟩) rfl (by kernel_rfl) (by kernel_rfl) (by kernel_rfl) (fun _ _ _ h => h) (by rfl) (v := ?_) (fun w hSw => ?_) hS (fun hS => ?_)
    rotate_left
    · go_simp; try with_reducible rfl
    try go_frame
    refine held_pure (i := 17) (oi := ⟨some 4, _, _, _, _, _⟩) rfl (by kernel_rfl) (by kernel_rfl) (by kernel_rfl) (fun _ _ _ h => h) (by rfl) (v := ?_) (fun w hSw => ?_) hS (fun hS => ?_)
    rotate_left
    · go_simp; try with_reducible rfl
    try go_frame
    refine wpAnyH_done (by kernel_rfl) ?_ _
    go_wp2_with fail
    exact bodyPost_ret (res3 rfl rfl (run_loadVar_row _ _ _ 52 _ _ _ hgz Try.underlying52 rfl (by kernel_rfl))) rfl ⟨v14, by rw [HE1.out, HE3.out]; rfl, by rw [HE2.out]; exact (show Made w _ v14 (b.drop 8) from HD.out ▸ m14.row y14.b y14.lt)⟩
set_option maxRecDepth 100000 in
set_option maxHeartbeats 1000000 in
theorem r6pfrag (A : Option Addr) (b : List UInt8) (c B : Nat) (w : World) (hR : Arg w B A c b) (hB : B ≤ w.heap.size) (hl : b.length ≤ 1000000) :
    Calls Try.prog 48 #[.slice A b.length c] w fun e w' => ∃ v, e = .returned (.tuple #[frv (prsF b), v, .int .i64 (prsG b)]) ∧ Made w w' v (rstF b) := by
  have hOR := OwnR.new w (fra frz) 52
  have hg0 := World.alloc_heap_new w (.cells (fra frz) 52)
  have hcap := hR.cap
  go_enter Try.func48, Try.ntmps48
  by_cases h8 : b.length < 8
  · have HE1 := Lib.hid (show prsF b = frz by rw [prsF, if_pos h8])
    have HE2 := Lib.hid (show rstF b = [] by rw [rstF, if_pos h8])
    have HE3 := Lib.hid (show prsG b = 3 by rw [prsG, if_pos h8])
    go_wp2_with fail
    exact bodyPost_ret (res3 rfl rfl (run_loadVar_row _ _ _ 52 (fra frz) _ _ hg0 Try.underlying52 rfl (by kernel_rfl))) rfl ⟨.slice none 0 0, by rw [HE1.out, HE3.out]; rfl, by rw [HE2.out]; exact Made.nil _ _ hOR.b⟩
  · have h8' : ¬ (b.length : Int) < 8 := by omega
    have HE1 := Lib.hid (show prsF b = rawF b by rw [prsF, if_neg h8])
    have HE2 := Lib.hid (show rstF b = b.drop 8 by rw [rstF, if_neg h8])
    have HE3 := Lib.hid (show prsG b = 0 by rw [prsG, if_neg h8])
    obtain ⟨D, hD⟩ : ∃ D, D = b.drop 8 := ⟨_, rfl⟩
    have HDl := Lib.hid (show D.length = b.length - 8 by rw [hD]; simp)
    have G0 := Lib.hid (get_one (b := b) (i := 0) (by omega))
    have G2 := Lib.hid (get_two (b := b) (i := 2) (by omega))
    have G4 := Lib.hid (get_four (b := b) (i := 4) (by omega))
    obtain ⟨F, hF⟩ : ∃ F, F = n2 b 2 := ⟨_, rfl⟩
    have hFb := n2_bd b 2
    rw [← hF] at hFb G2
    have HA := Lib.hid (show #[Value.int .i64 (byt b 0), .int .i64 (F / 8 * 8), .int .i64 (n4 b 4), .bool (decide (F % 2 = 1))] = fra (rawF b) by rw [hF]; rfl)
    have HN := Lib.hid (show (Int.tmod F 2 == 1) = decide (F % 2 = 1) from by rw [Int.tmod_eq_emod_of_nonneg hFb.1, Bool.eq_iff_iff]; simp)
    have EQ := Lib.hid (show IntKind.i64.wrap (IntKind.i64.wrap (Int.tdiv F 8) * 8) = F / 8 * 8 from by rw [Int.tdiv_eq_ediv_of_nonneg hFb.1, IntWalk.i64_in (F / 8) (by omega)]; exact IntWalk.i64_in _ (by omega))
    have E0 := Lib.hid (IntWalk.i64_in (byt b 0) (by have := byt_lo b 0; have := byt_hi b 0; omega))
    have HD := Lib.hid hD
    have hRD : Arg w B (cutA A c 8) (c - 8) D := by rw [hD]; exact hR.cut_lo 8
    obtain ⟨b0, off, rfl, hbB, hcell⟩ := hR.rd (by omega)
    have kc := hcell 0 (by omega)
    have hb0 : b0 < w.heap.size := by omega
    clear hD hF h8 hcell
    have hOR' : OwnR w 52 4 (w.alloc (.cells #[.int .i64 0, .int .i64 0, .int .i64 0, .bool false] 52)) := hOR
    go_upto_region 4 with (go_at_call 70; refine (rget_any _ b c B 2 2 _ (hR.below (hOR'.b.mono hB)).rd (by omega)).mono ?_; rintro e w' ⟨rfl, rfl⟩; rw [show getV b 2 2 = F from G2.out])
    go_upto_region 5 with (go_at_call 70; refine (rget_any _ b c B 4 4 _ (hR.below (hOR'.b.mono hB)).rd (by omega)).mono ?_; rintro e w' ⟨rfl, rfl⟩; rw [show getV b 4 4 = n4 b 4 from G4.out])
    generalize w.alloc (.cells #[.int .i64 0, .int .i64 0, .int .i64 0, .bool false] 52) = W at *
    refine wp_region_held_drew (S := OwnR w 52 4) (by kernel_rfl) hOR'.drew (fun hS => ?_)
    refine held_pure (i := 0) (oi := ⟨some 23, _, _, _, _, _⟩) rfl (by kernel_rfl) (by kernel_rfl) (by kernel_rfl) (fun _ _ _ h => h) (by rfl) (v := ?_) (fun w hSw => ?_) hS (fun hS => ?_)
    rotate_left
    · go_simp; try with_reducible rfl
    try go_frame
    refine held_pure (i := 1) (oi := ⟨some 24, _, _, _, _, _⟩) rfl (by kernel_rfl) (by kernel_rfl) (by kernel_rfl) (fun _ _ _ h => h) (by rfl) (v := .pointer (some ⟨b0, off, none⟩)) (fun w hSw => by go_simp; exact fun hx => absurd (congrArg List.length hx) (by rw [List.length_nil]; omega)) hS (fun hS => ?_)
    try go_frame
    refine held_pure (i := 2) (oi := ⟨some 25, _, _, _, _, _⟩) rfl (by kernel_rfl) (by kernel_rfl) (by kernel_rfl) (fun _ _ _ h => h) (by rfl) (fun w hSw => run_load_byte rfl rfl ((hSw.b.cell hb0).trans kc)) hS (fun hS => ?_)
    try go_frame
    refine held_pure (i := 3) (oi := ⟨some 26, _, _, _, _, _⟩) rfl (by kernel_rfl) (by kernel_rfl) (by kernel_rfl) (fun _ _ _ h => h) (by rfl) (v := .int .i64 (byt b 0)) (fun w hSw => by go_simp; exact E0.out) hS (fun hS => ?_)
    try go_frame
    refine held_pure (i := 4) (oi := ⟨some 27, _, _, _, _, _⟩) rfl (by kernel_rfl) (by kernel_rfl) (by kernel_rfl) (fun _ _ _ h => h) (by rfl) (v := ?_) (fun w hSw => ?_) hS (fun hS => ?_)
    rotate_left
    · go_simp; try with_reducible rfl
    try go_frame
    refine held_pure (i := 5) (oi := ⟨some 28, _, _, _, _, _⟩) rfl (by kernel_rfl) (by kernel_rfl) (by kernel_rfl) (fun _ _ _ h => h) (by rfl) (v := ?_) (fun w hSw => ?_) hS (fun hS => ?_)
    rotate_left
    · go_simp; try with_reducible rfl
    try go_frame
    refine held_pure (i := 6) (oi := ⟨some 29, _, _, _, _, _⟩) rfl (by kernel_rfl) (by kernel_rfl) (by kernel_rfl) (fun _ _ _ h => h) (by rfl) (v := .int .i64 (F / 8 * 8)) (fun w hSw => by go_simp; exact EQ.out) hS (fun hS => ?_)
    try go_frame
    refine held_pure (i := 7) (oi := ⟨some 30, _, _, _, _, _⟩) rfl (by kernel_rfl) (by kernel_rfl) (by kernel_rfl) (fun _ _ _ h => h) (by rfl) (v := ?_) (fun w hSw => ?_) hS (fun hS => ?_)
    rotate_left
    · go_simp; try with_reducible rfl
    try go_frame
    refine held_pure (i := 8) (oi := ⟨some 31, _, _, _, _, _⟩) rfl (by kernel_rfl) (by kernel_rfl) (by kernel_rfl) (fun _ _ _ h => h) (by rfl) (v := ?_) (fun w hSw => ?_) hS (fun hS => ?_)
    rotate_left
    · go_simp; try with_reducible rfl
    try go_frame
    refine held_pure (i := 9) (oi := ⟨some 32, _, _, _, _, _⟩) rfl (by kernel_rfl) (by kernel_rfl) (by kernel_rfl) (fun _ _ _ h => h) (by rfl) (v := ?_) (fun w hSw => ?_) hS (fun hS => ?_)
    rotate_left
    · go_simp; try with_reducible rfl
    try go_frame
    refine held_pure (i := 10) (oi := ⟨some 33, _, _, _, _, _⟩) rfl (by kernel_rfl) (by kernel_rfl) (by kernel_rfl) (fun _ _ _ h => h) (by rfl) (v := .bool (decide (F % 2 = 1))) (fun w hSw => by go_simp; exact HN.out) hS (fun hS => ?_)
    try go_frame
    refine held_pure (i := 11) (oi := ⟨some 34, _, _, _, _, _⟩) rfl (by kernel_rfl) (by kernel_rfl) (by kernel_rfl) (fun _ _ _ h => h) (by rfl) (v := .agg (fra (rawF b))) (fun w hSw => by go_simp; exact HA.out) hS (fun hS => ?_)
    try go_frame
    refine held_pure (i := 12) (oi := ⟨some 35, _, _, _, _, _⟩) rfl (by kernel_rfl) (by kernel_rfl) (by kernel_rfl) (fun _ _ _ h => h) (by rfl) (v := ?_) (fun w hSw => ?_) hS (fun hS => ?_)
    rotate_left
    · go_simp; try with_reducible rfl
    try go_frame
    refine held_pure (i := 13) (oi := ⟨some 36, _, _, _, _, _⟩) rfl (by kernel_rfl) (by kernel_rfl) (by kernel_rfl) (fun _ _ _ h => h) (by rfl) (fun w hSw => run_cut_l rfl rfl (l := 8) rfl (by omega) HDl.out) hS (fun hS => ?_)
    try go_frame
    refine wpAnyH_ready (rs := [14]) (by kernel_rfl) (by simp) (AllReadyH.cons (o := ⟨some 37, _, _, _, _, _⟩) rfl (fun K hK => ?_) AllReadyH.nil)
    rw [if_pos (by rfl)]
    have y14 := hS
    refine append_wp _ _ rfl (w.heap.size + 1) (.slice none 0 0) 0 [] rfl (World.ownsRow_nil _ _ _ _) B _ (c - 8) D rfl (hRD.below (hS.b.mono hB)).none_ (hRD.below (hS.b.mono hB)).rd (by have := HDl.out; omega) hS.lt ?_
    intro v14 w14 own14 grow14
    obtain ⟨A14, c14, rfl, owm14⟩ := own_made (bs := D) own14 (by simp) (by simp)
    refine hK.out _ _ (hS.step ((Below.refl _ _).grown grow14 (Nat.le_refl _) (fun k hk => by cases hk))) (fun hS => ?_)
    clear hK K
    try go_frame
    refine wpAnyH_ready (rs := [15]) (by kernel_rfl) (by simp) (AllReadyH.cons (o := ⟨none, _, _, _, _, _⟩) rfl (fun K hK => ?_) AllReadyH.nil)
    rw [if_pos (by rfl)]
    obtain ⟨old, ho4, hgo⟩ := hS.2
    refine wp_store_row 52 _ _ rfl w.heap.size (fra (rawF b)) rfl rfl 52 old hgo (by kernel_rfl) ho4 (by simp [fra, Value.oneCell']) ?_
    have hgz := setRow_heap _ _ _ (fra (rawF b)) _ _ hgo
    refine hK.out _ _ (hS.row _ rfl) (fun hS => ?_)
    clear hK K
    try go_frame
    refine held_pure (i := 16) (oi := ⟨some 3, _, _, _, _, _⟩) rfl (by kernel_rfl) (by kernel_rfl) (by kernel_rfl) (fun _ _ _ h => h) (by rfl) (v := ?_) (fun w hSw => ?_) hS (fun hS => ?_)
    rotate_left
    · go_simp; try with_reducible rfl
    try go_frame
    refine held_pure (i := 17) (oi := ⟨some 4, _, _, _, _, _⟩) rfl (by kernel_rfl) (by kernel_rfl) (by kernel_rfl) (fun _ _ _ h => h) (by rfl) (v := ?_) (fun w hSw => ?_) hS (fun hS => ?_)
    rotate_left
    · go_simp; try with_reducible rfl
    try go_frame
    refine wpAnyH_done (by kernel_rfl) ?_ _
    go_wp2_with fail
    have mm : Made w _ (.slice A14 D.length c14) D := Made.of_own (own_base (own_setRow (g := w.heap.size) (cs := fra (rawF b)) owm14 (Nat.lt_succ_self _)) (Nat.le_succ _)) hS.b
    exact bodyPost_ret (res3 rfl rfl (run_loadVar_row _ _ _ 52 _ _ _ hgz Try.underlying52 rfl (by kernel_rfl))) rfl ⟨.slice A14 D.length c14, by rw [HE1.out, HE3.out]; rfl, by rw [HE2.out]; exact (show Made w _ _ (b.drop 8) from HD.out ▸ mm)⟩
end Go.Proofs.Ytcfcmnhnijjehaa
