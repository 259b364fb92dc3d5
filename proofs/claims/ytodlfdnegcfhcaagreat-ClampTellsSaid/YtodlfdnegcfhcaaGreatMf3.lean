/-
  Contracts and lemmas on which the proofs of this seat stand (several texts in one). Conditions are each theorem's own.
-/
import Derived.Test.YtodlfdnegcfhcaaGreatMf1
import Derived.Test.YtodlfdnegcfhcaaGreatMb4

/-
  A segment whose greatest size is held, as the document has it. Conditions are each theorem's own.
-/
namespace Go.Proofs.YtodlfdnegcfhcaaGreat
open Go.RowKit

section
variable (q : PT) (A : Option Addr) (c : Nat) (A' : Option Addr) (c' : Nat) (w : World)
set_option maxRecDepth 100000 in
set_option maxHeartbeats 4000000 in
theorem r12seg (ho : q.opt.length ≤ 1000000) (hl : q.dat.length ≤ 1000000) (B : Nat) (hO : Arg w B A c q.opt) (hD : Arg w B A' c' q.dat) (hB0 : B ≤ w.heap.size) (n : Int) : Calls Tryz.prog 24 #[tsv q A c A' c', .int .i64 n] w fun e w' => ∃ P p P' p', e = .returned (tsv (sgT q n) P p P' p') ∧ Made w w' (.slice P (sgT q n).opt.length p) (sgT q n).opt ∧ Made w w' (.slice P' (sgT q n).dat.length p') (sgT q n).dat := by
  rw [tsv_eq]
  have hB : Below w.heap.size w ((w.alloc (.cells (tsa q A c A' c') 41)).alloc (.cells (tsa tsz none 0 none 0) 41)) := below_two w _ _
  have hP0 : ((w.alloc (.cells (tsa q A c A' c') 41)).alloc (.cells (tsa tsz none 0 none 0) 41)).heap[w.heap.size]? = some (.cells (tsa q A c A' c') 41 (0, 0)) := (Below.heap_alloc (w.alloc (.cells (tsa q A c A' c') 41)) _ w.heap.size (by simp)).trans (World.alloc_heap_new w _)
  have hR0 : ((w.alloc (.cells (tsa q A c A' c') 41)).alloc (.cells (tsa tsz none 0 none 0) 41)).heap[w.heap.size + 1]? = some (.cells (tsa tsz none 0 none 0) 41 (0, 0)) := by
    have := World.alloc_heap_new (w.alloc (.cells (tsa q A c A' c') 41)) (.cells (tsa tsz none 0 none 0) 41)
    rwa [World.size_alloc] at this
  go_enter Tryz.func24, Tryz.ntmps24
  go_upto_region 1 with fail
  rw [show #[.int .i64 0, .int .i64 0, .int .i64 0, .int .i64 0, .int .i64 0, .int .i64 0, .int .i64 0, .int .i64 0, .slice none 0 0, .slice none 0 0] = tsa tsz none 0 none 0 from rfl]
  generalize (w.alloc (.cells (tsa q A c A' c') 41)).alloc (.cells (tsa tsz none 0 none 0) 41) = W at *
  have hO1 := hO.below (hB.mono hB0)
  have hD1 := hD.below (hB.mono hB0)
  have zW := Nat.le_trans hB0 hB.size
  have zP := heap_lt hP0
  have zR := heap_lt hR0
  have kO0 := (Atts.of_heap hP0).opt
  have kD0 := (Atts.of_heap hP0).dat
  refine wp_region_held_drew (S := fun _ => True) (by kernel_rfl) trivial (fun hS => ?_)
  refine held_pure (i := 0) (oi := ⟨some 8, _, _, _, _, _⟩) rfl (by kernel_rfl) (by kernel_rfl) (by kernel_rfl) (fun _ _ _ h => h) (by rfl) (v := ?_) (fun w hSw => ?_) hS (fun hS => ?_)
  rotate_left
  · go_simp; try with_reducible rfl
  try go_frame
  refine held_pure (i := 3) (oi := ⟨some 11, _, _, _, _, _⟩) rfl (by kernel_rfl) (by kernel_rfl) (by kernel_rfl) (fun _ _ _ h => h) (by rfl) (v := ?_) (fun w hSw => ?_) hS (fun hS => ?_)
  rotate_left
  · go_simp; try with_reducible rfl
  try go_frame
  refine wpAnyH_ready (rs := [1, 4]) (by kernel_rfl) (by simp) (AllReadyH.cons (o := ⟨some 9, _, _, _, _, _⟩) rfl (fun K hK => ?_) (AllReadyH.cons (o := ⟨some 12, _, _, _, _, _⟩) rfl (fun K hK => ?_) AllReadyH.nil))
  · rw [if_pos (by rfl)]
    refine wp_val (v := .slice A q.opt.length c) (by first | exact run_load_sl rfl rfl kO0) ?_
    refine hK.out _ _ trivial (fun hS => ?_)
    clear hK K
    try go_frame
    refine wpAnyH_ready (rs := [2, 4]) (by kernel_rfl) (by simp) (AllReadyH.cons (o := ⟨some 10, _, _, _, _, _⟩) rfl (fun K hK => ?_) (AllReadyH.cons (o := ⟨some 12, _, _, _, _, _⟩) rfl (fun K hK => ?_) AllReadyH.nil))
    · rw [if_pos (by rfl)]
      refine append_wp _ _ rfl W.heap.size (.slice none 0 0) 0 [] rfl (World.ownsRow_nil _ _ _ _) B A c q.opt rfl hO1.none_ (hO1.below (Below.refl _ W).drew).rd (by omega) (Nat.le_refl _) ?_
      intro v2 w2 own2 grow2
      obtain ⟨O, o, rfl, o2⟩ := own_made (bs := q.opt) own2 (Nat.zero_add _) (List.nil_append _)
      have y2 := (Below.refl W.drew.heap.size W.drew).grown grow2 (Nat.le_refl _) (fun k hk => by cases hk)
      clear own2 grow2
      have o2 : w2.ownsRow W.heap.size 5 1 (.slice O q.opt.length o) q.opt.length (row q.opt) := o2
      have x2 : Below W.heap.size W w2 := (Below.refl _ W).drew.trans y2
      have hP2 := (x2.block w.heap.size zP).trans hP0
      have hR2 := (x2.block (w.heap.size + 1) zR).trans hR0
      have kD2 := (Atts.of_heap hP2).dat
      have hD2 := hD1.below (x2.mono zW)
      have hgO : ∀ g, O = some ⟨g, 0, none⟩ → 0 < q.opt.length → g < w2.heap.size := fun g e hl => by { subst e; exact (own_cell o2 (i := 0) hl).2.2.2.1 }
      refine hK.out _ _ trivial (fun hS => ?_)
      clear hK K
      try go_frame
      refine wpAnyH_ready (rs := [4]) (by kernel_rfl) (by simp) (AllReadyH.cons (o := ⟨some 12, _, _, _, _, _⟩) rfl (fun K hK => ?_) AllReadyH.nil)
      rw [if_pos (by rfl)]
      refine wp_val (v := .slice A' q.dat.length c') (by first | exact run_load_sl rfl rfl kD0 | exact run_load_sl rfl rfl kD2) ?_
      refine hK.out _ _ trivial (fun hS => ?_)
      clear hK K
      try go_frame
      refine held_pure (i := 6) (oi := ⟨some 14, _, _, _, _, _⟩) rfl (by kernel_rfl) (by kernel_rfl) (by kernel_rfl) (fun _ _ _ h => h) (by rfl) (v := ?_) (fun w hSw => ?_) hS (fun hS => ?_)
      rotate_left
      · go_simp; try with_reducible rfl
      try go_frame
      refine wpAnyH_ready (rs := [5]) (by kernel_rfl) (by simp) (AllReadyH.cons (o := ⟨some 13, _, _, _, _, _⟩) rfl (fun K hK => ?_) AllReadyH.nil)
      rw [if_pos (by rfl)]
      refine append_wp _ _ rfl w2.heap.size (.slice none 0 0) 0 [] rfl (World.ownsRow_nil _ _ _ _) B A' c' q.dat rfl hD2.none_ hD2.rd (by omega) (Nat.le_refl _) ?_
      intro v3 w3 own3 grow3
      obtain ⟨D, d, rfl, o3⟩ := own_made (bs := q.dat) own3 (Nat.zero_add _) (List.nil_append _)
      have y3 := (Below.refl w2.heap.size w2).grown grow3 (Nat.le_refl _) (fun k hk => by cases hk)
      clear own3 grow3
      have hP3 := (y3.block w.heap.size (heap_lt hP2)).trans hP2
      have hR3 := (y3.block (w.heap.size + 1) (heap_lt hR2)).trans hR2
      have oO3 := own_below o2 y3
      have kO3 := (Atts.of_heap hP3).opt
      have fO3 := heap_frozen hP3 8
      have x3 := x2.trans (y3.mono x2.size)
      have zx2 := x2.size
      refine hK.out _ _ trivial (fun hS => ?_)
      clear hK K
      try go_frame
      refine wpAnyH_ready (rs := [7]) (by kernel_rfl) (by simp) (AllReadyH.cons (o := ⟨none, _, _, _, _, _⟩) rfl (fun K hK => ?_) AllReadyH.nil)
      rw [if_pos (by rfl)]
      refine store_sl_wp rfl rfl rfl kO3 fO3 ?_
      have hP4 : (w3.setCell ⟨w.heap.size, 8, none⟩ (.slice O q.opt.length o)).heap[w.heap.size]? = some (.cells (tsa q O o A' c') 41 (0, 0)) := heap_setCell_same w3 w.heap.size 8 _ _ (.slice O q.opt.length o) hP3
      have hR4 := (heap_setCell_other w3 ⟨w.heap.size, 8, none⟩ (w.heap.size + 1) (.slice O q.opt.length o) (by show w.heap.size + 1 ≠ w.heap.size; omega)).trans hR3
      have kD4 := (Atts.of_heap hP4).dat
      have fD4 := heap_frozen hP4 9
      have oO4 := own_setCell oO3 (p := ⟨w.heap.size, 8, none⟩) (u := .slice O q.opt.length o) zP
      have oD4 := own_setCell o3 (p := ⟨w.heap.size, 8, none⟩) (u := .slice O q.opt.length o) (Nat.lt_of_lt_of_le zP zx2)
      have b4 := (hB.trans (x3.mono hB.size)).setCell (p := ⟨w.heap.size, 8, none⟩) (Nat.le_refl _) (.slice O q.opt.length o)
      clear hP2 hR2 kD2 hD2 hP3 hR3 oO3 kO3 fO3 o2 o3 y2 y3
      generalize w3.setCell ⟨w.heap.size, 8, none⟩ (.slice O q.opt.length o) = V4 at *
      refine hK.out _ _ trivial (fun hS => ?_)
      clear hK K
      try go_frame
      refine held_pure (i := 8) (oi := ⟨some 15, _, _, _, _, _⟩) rfl (by kernel_rfl) (by kernel_rfl) (by kernel_rfl) (fun _ _ _ h => h) (by rfl) (v := ?_) (fun w hSw => ?_) hS (fun hS => ?_)
      rotate_left
      · go_simp; try with_reducible rfl
      try go_frame
      refine wpAnyH_ready (rs := [9]) (by kernel_rfl) (by simp) (AllReadyH.cons (o := ⟨none, _, _, _, _, _⟩) rfl (fun K hK => ?_) AllReadyH.nil)
      rw [if_pos (by rfl)]
      refine store_sl_wp rfl rfl rfl kD4 fD4 ?_
      have hP : (V4.setCell ⟨w.heap.size, 9, none⟩ (.slice D q.dat.length d)).heap[w.heap.size]? = some (.cells (tsa q O o D d) 41 (0, 0)) := heap_setCell_same V4 w.heap.size 9 _ _ (.slice D q.dat.length d) hP4
      have hR := (heap_setCell_other V4 ⟨w.heap.size, 9, none⟩ (w.heap.size + 1) (.slice D q.dat.length d) (by show w.heap.size + 1 ≠ w.heap.size; omega)).trans hR4
      have oO := own_setCell oO4 (p := ⟨w.heap.size, 9, none⟩) (u := .slice D q.dat.length d) zP
      have oD := own_setCell oD4 (p := ⟨w.heap.size, 9, none⟩) (u := .slice D q.dat.length d) (Nat.lt_of_lt_of_le zP zx2)
      have bV := b4.setCell (p := ⟨w.heap.size, 9, none⟩) (Nat.le_refl _) (.slice D q.dat.length d)
      clear hP4 hR4 kD4 fD4 oO4 oD4 b4 hP0 hR0 hO1 hD1 kO0 kD0 x2 x3
      generalize V4.setCell ⟨w.heap.size, 9, none⟩ (.slice D q.dat.length d) = V at *
      have hat := Atts.of_heap hP
      have gO := arg_own oO
      have gD := arg_own oD
      refine hK.out _ _ trivial (fun hS => ?_)
      clear hK K
      try go_frame
      refine wpAnyH_done (by kernel_rfl) ?_ _
      rcases hK : mssK q.opt with _ | _
      · have HKf := Lib.hid hK
        have HS := Lib.hid (sgT_no (q := q) (n := n) (by rintro ⟨_, _, _, h, _⟩; rw [hK] at h; cases h))
        clear hK
        go_upto_region 3 with (first
          | ((with_reducible show wpList _ _ _ (Oper.mk (some 17) (Op.load 41 _) _ _ _ _ :: _) _ _); refine wpList_val rfl (run_load_ts rfl rfl hat rfl) ?_)
          | (go_at_call 46; refine (rTmss q _ _ _ _ V V.heap.size gO (Nat.le_refl _) ho).mono ?_; rintro e w6 ⟨rfl, x6⟩; rw [HKf.out]))
        have hP6 := (x6.block w.heap.size (heap_lt hP)).trans hP
        have hR6 := (x6.block (w.heap.size + 1) (heap_lt hR)).trans hR
        have hat6 := Atts.of_heap hP6
        have oO6 := own_below oO x6
        have oD6 := own_below oD x6
        have b6 := bV.trans (x6.mono bV.size)
        have kf := hat6.flags
        have kO6 := hat6.opt
        by_cases c1 : bits .and .i64 q.flags 2 = 0
        · have d1 : (bits .and .i64 q.flags 2 == 0) = true := by simpa using c1
          clear c1
          go_wp2_with (first
            | ((with_reducible show wpList _ _ _ (Oper.mk (some 43) (Op.load 41 _) _ _ _ _ :: _) _ _); refine wpList_val rfl (run_load_ts rfl rfl hat6 rfl) ?_)
            | ((with_reducible show wpList _ _ _ (Oper.mk _ (Op.store 41 _ _) _ _ _ _ :: _) _ _); refine ts_store (g := w.heap.size + 1) (cs := tsa q O o D d) rfl rfl hR6 rfl rfl (ts_one _ _ _ _ _) ?_))
          have oO7 := own_setRow oO6 (g := w.heap.size + 1) (cs := tsa q O o D d) zR
          have oD7 := own_setRow oD6 (g := w.heap.size + 1) (cs := tsa q O o D d) (by omega)
          have b7 := below_row b6 (g := w.heap.size + 1) (cs := tsa q O o D d) (by omega)
          exact bodyPost_ret (results_cell_row rfl _ _ (w.heap.size + 1) 41 (tsa q O o D d) (0, 0) _ rfl (setRow_heap _ _ _ _ _ _ hR6) Tryz.underlying41 rfl (by kernel_rfl)) rfl ⟨O, o, D, d, by rw [HS.out]; rfl, by rw [HS.out]; exact Made.of_own (own_base oO7 (by omega)) b7, by rw [HS.out]; exact Made.of_own (own_base oD7 (by omega)) b7⟩
        have d1 : (bits .and .i64 q.flags 2 == 0) = false := by simpa using c1
        clear c1
        go_wp2_with (first
          | ((with_reducible show wpList _ _ _ (Oper.mk (some 43) (Op.load 41 _) _ _ _ _ :: _) _ _); refine wpList_val rfl (run_load_ts rfl rfl hat6 rfl) ?_)
          | ((with_reducible show wpList _ _ _ (Oper.mk _ (Op.store 41 _ _) _ _ _ _ :: _) _ _); refine ts_store (g := w.heap.size + 1) (cs := tsa q O o D d) rfl rfl hR6 rfl rfl (ts_one _ _ _ _ _) ?_))
        have oO7 := own_setRow oO6 (g := w.heap.size + 1) (cs := tsa q O o D d) zR
        have oD7 := own_setRow oD6 (g := w.heap.size + 1) (cs := tsa q O o D d) (by omega)
        have b7 := below_row b6 (g := w.heap.size + 1) (cs := tsa q O o D d) (by omega)
        exact bodyPost_ret (results_cell_row rfl _ _ (w.heap.size + 1) 41 (tsa q O o D d) (0, 0) _ rfl (setRow_heap _ _ _ _ _ _ hR6) Tryz.underlying41 rfl (by kernel_rfl)) rfl ⟨O, o, D, d, by rw [HS.out]; rfl, by rw [HS.out]; exact Made.of_own (own_base oO7 (by omega)) b7, by rw [HS.out]; exact Made.of_own (own_base oD7 (by omega)) b7⟩
      obtain ⟨a, hat_, hN, hA⟩ := mss_some hK
      have hroom := mssT_room hat_
      obtain ⟨N, hNN⟩ : ∃ y, y = mssN q.opt := ⟨_, rfl⟩
      have HN := Lib.hid hNN
      have HA := Lib.hid hA
      have HKt := Lib.hid hK
      clear hK hN hA hNN hat_
      go_upto_region 3 with (first
        | ((with_reducible show wpList _ _ _ (Oper.mk (some 17) (Op.load 41 _) _ _ _ _ :: _) _ _); refine wpList_val rfl (run_load_ts rfl rfl hat rfl) ?_)
        | (go_at_call 46; refine (rTmss q _ _ _ _ V V.heap.size gO (Nat.le_refl _) ho).mono ?_; rintro e w6 ⟨rfl, x6⟩; rw [HKt.out, ← HN.out, HA.out]))
      have hP6 := (x6.block w.heap.size (heap_lt hP)).trans hP
      have hR6 := (x6.block (w.heap.size + 1) (heap_lt hR)).trans hR
      have hat6 := Atts.of_heap hP6
      have oO6 := own_below oO x6
      have oD6 := own_below oD x6
      have b6 := bV.trans (x6.mono bV.size)
      have kf := hat6.flags
      have kO6 := hat6.opt
      by_cases c1 : bits .and .i64 q.flags 2 = 0
      · have d1 : (bits .and .i64 q.flags 2 == 0) = true := by simpa using c1
        have HS := Lib.hid (sgT_no (q := q) (n := n) (by rintro ⟨h, _⟩; exact h c1))
        clear c1
        go_wp2_with (first
          | ((with_reducible show wpList _ _ _ (Oper.mk (some 43) (Op.load 41 _) _ _ _ _ :: _) _ _); refine wpList_val rfl (run_load_ts rfl rfl hat6 rfl) ?_)
          | ((with_reducible show wpList _ _ _ (Oper.mk _ (Op.store 41 _ _) _ _ _ _ :: _) _ _); refine ts_store (g := w.heap.size + 1) (cs := tsa q O o D d) rfl rfl hR6 rfl rfl (ts_one _ _ _ _ _) ?_))
        have oO7 := own_setRow oO6 (g := w.heap.size + 1) (cs := tsa q O o D d) zR
        have oD7 := own_setRow oD6 (g := w.heap.size + 1) (cs := tsa q O o D d) (by omega)
        have b7 := below_row b6 (g := w.heap.size + 1) (cs := tsa q O o D d) (by omega)
        exact bodyPost_ret (results_cell_row rfl _ _ (w.heap.size + 1) 41 (tsa q O o D d) (0, 0) _ rfl (setRow_heap _ _ _ _ _ _ hR6) Tryz.underlying41 rfl (by kernel_rfl)) rfl ⟨O, o, D, d, by rw [HS.out]; rfl, by rw [HS.out]; exact Made.of_own (own_base oO7 (by omega)) b7, by rw [HS.out]; exact Made.of_own (own_base oD7 (by omega)) b7⟩
      have d1 : (bits .and .i64 q.flags 2 == 0) = false := by simpa using c1
      by_cases c4 : N ≤ n
      · have d4 : decide (N ≤ n) = true := by simpa using c4
        have HS := Lib.hid (sgT_no (q := q) (n := n) (by rintro ⟨_, _, _, _, h⟩; rw [← HN.out] at h; omega))
        clear c1
        go_wp2_with (first
          | ((with_reducible show wpList _ _ _ (Oper.mk (some 43) (Op.load 41 _) _ _ _ _ :: _) _ _); refine wpList_val rfl (run_load_ts rfl rfl hat6 rfl) ?_)
          | ((with_reducible show wpList _ _ _ (Oper.mk _ (Op.store 41 _ _) _ _ _ _ :: _) _ _); refine ts_store (g := w.heap.size + 1) (cs := tsa q O o D d) rfl rfl hR6 rfl rfl (ts_one _ _ _ _ _) ?_))
        have oO7 := own_setRow oO6 (g := w.heap.size + 1) (cs := tsa q O o D d) zR
        have oD7 := own_setRow oD6 (g := w.heap.size + 1) (cs := tsa q O o D d) (by omega)
        have b7 := below_row b6 (g := w.heap.size + 1) (cs := tsa q O o D d) (by omega)
        exact bodyPost_ret (results_cell_row rfl _ _ (w.heap.size + 1) 41 (tsa q O o D d) (0, 0) _ rfl (setRow_heap _ _ _ _ _ _ hR6) Tryz.underlying41 rfl (by kernel_rfl)) rfl ⟨O, o, D, d, by rw [HS.out]; rfl, by rw [HS.out]; exact Made.of_own (own_base oO7 (by omega)) b7, by rw [HS.out]; exact Made.of_own (own_base oD7 (by omega)) b7⟩
      have d4 : decide (N ≤ n) = false := by simpa using c4
      by_cases c2 : n < 0
      · have d2 : decide (n < 0) = true := by simpa using c2
        have HS := Lib.hid (sgT_no (q := q) (n := n) (by rintro ⟨_, h, _⟩; omega))
        clear c1
        go_wp2_with (first
          | ((with_reducible show wpList _ _ _ (Oper.mk (some 43) (Op.load 41 _) _ _ _ _ :: _) _ _); refine wpList_val rfl (run_load_ts rfl rfl hat6 rfl) ?_)
          | ((with_reducible show wpList _ _ _ (Oper.mk _ (Op.store 41 _ _) _ _ _ _ :: _) _ _); refine ts_store (g := w.heap.size + 1) (cs := tsa q O o D d) rfl rfl hR6 rfl rfl (ts_one _ _ _ _ _) ?_))
        have oO7 := own_setRow oO6 (g := w.heap.size + 1) (cs := tsa q O o D d) zR
        have oD7 := own_setRow oD6 (g := w.heap.size + 1) (cs := tsa q O o D d) (by omega)
        have b7 := below_row b6 (g := w.heap.size + 1) (cs := tsa q O o D d) (by omega)
        exact bodyPost_ret (results_cell_row rfl _ _ (w.heap.size + 1) 41 (tsa q O o D d) (0, 0) _ rfl (setRow_heap _ _ _ _ _ _ hR6) Tryz.underlying41 rfl (by kernel_rfl)) rfl ⟨O, o, D, d, by rw [HS.out]; rfl, by rw [HS.out]; exact Made.of_own (own_base oO7 (by omega)) b7, by rw [HS.out]; exact Made.of_own (own_base oD7 (by omega)) b7⟩
      have d2 : decide (n < 0) = false := by simpa using c2
      by_cases c3 : 65535 < n
      · have d3 : decide (65535 < n) = true := by simpa using c3
        have HS := Lib.hid (sgT_no (q := q) (n := n) (by rintro ⟨_, _, h, _⟩; omega))
        clear c1
        go_wp2_with (first
          | ((with_reducible show wpList _ _ _ (Oper.mk (some 43) (Op.load 41 _) _ _ _ _ :: _) _ _); refine wpList_val rfl (run_load_ts rfl rfl hat6 rfl) ?_)
          | ((with_reducible show wpList _ _ _ (Oper.mk _ (Op.store 41 _ _) _ _ _ _ :: _) _ _); refine ts_store (g := w.heap.size + 1) (cs := tsa q O o D d) rfl rfl hR6 rfl rfl (ts_one _ _ _ _ _) ?_))
        have oO7 := own_setRow oO6 (g := w.heap.size + 1) (cs := tsa q O o D d) zR
        have oD7 := own_setRow oD6 (g := w.heap.size + 1) (cs := tsa q O o D d) (by omega)
        have b7 := below_row b6 (g := w.heap.size + 1) (cs := tsa q O o D d) (by omega)
        exact bodyPost_ret (results_cell_row rfl _ _ (w.heap.size + 1) 41 (tsa q O o D d) (0, 0) _ rfl (setRow_heap _ _ _ _ _ _ hR6) Tryz.underlying41 rfl (by kernel_rfl)) rfl ⟨O, o, D, d, by rw [HS.out]; rfl, by rw [HS.out]; exact Made.of_own (own_base oO7 (by omega)) b7, by rw [HS.out]; exact Made.of_own (own_base oD7 (by omega)) b7⟩
      have d3 : decide (65535 < n) = false := by simpa using c3
      have HS := Lib.hid (show sgT q n = ⟨q.src, q.dst, q.seq, q.ack, q.res, q.flags, q.win, q.urg, setO q.opt a n, q.dat⟩ by
        rw [sgT_yes ⟨c1, by omega, by omega, HKt.out, by rw [← HN.out]; omega⟩, HA.out]; rfl)
      obtain ⟨g, rfl⟩ := own_some oO (by omega)
      clear c1
      go_upto_region 5 with fail
      obtain ⟨p0, f0, hgW, hgw6, -⟩ := own_cell oO6 (i := a + 2) (by omega)
      obtain ⟨p1, f1, -, -, -⟩ := own_cell oO6 (i := a + 3) (by omega)
      have eD : Int.tdiv n 256 = n / 256 := Int.tdiv_eq_ediv_of_nonneg (by omega)
      have eM : Int.tmod n 256 = n % 256 := Int.tmod_eq_emod_of_nonneg (by omega)
      have hg2 := hgO g rfl (by omega)
      have oO7a := own_put (i := a + 2) (n := n / 256) oO6
      have e7 : (q.opt.set (a + 2) (u8 (n / 256))).length = q.opt.length := by simp
      rw [← e7] at oO7a
      have oO7b := own_put (i := a + 3) (n := n) oO7a
      rw [e7] at oO7b
      have oO8 : ((w6.setCell ⟨g, a + 2, none⟩ (.int .u8 (n / 256 % 256))).setCell ⟨g, a + 3, none⟩ (.int .u8 (n % 256))).ownsRow W.heap.size 5 1 (.slice (some ⟨g, 0, none⟩) (setO q.opt a n).length o) (setO q.opt a n).length (row (setO q.opt a n)) := by rw [setO_len]; exact oO7b
      have oD8 := own_setCell (own_setCell oD6 (p := ⟨g, a + 2, none⟩) (u := .int .u8 (n / 256 % 256)) hg2) (p := ⟨g, a + 3, none⟩) (u := .int .u8 (n % 256)) hg2
      have hP8 := (heap_setCell_other (w6.setCell ⟨g, a + 2, none⟩ (.int .u8 (n / 256 % 256))) ⟨g, a + 3, none⟩ w.heap.size (.int .u8 (n % 256)) (by show w.heap.size ≠ g; omega)).trans ((heap_setCell_other w6 ⟨g, a + 2, none⟩ w.heap.size (.int .u8 (n / 256 % 256)) (by show w.heap.size ≠ g; omega)).trans hP6)
      have hR8 := (heap_setCell_other (w6.setCell ⟨g, a + 2, none⟩ (.int .u8 (n / 256 % 256))) ⟨g, a + 3, none⟩ (w.heap.size + 1) (.int .u8 (n % 256)) (by show w.heap.size + 1 ≠ g; omega)).trans ((heap_setCell_other w6 ⟨g, a + 2, none⟩ (w.heap.size + 1) (.int .u8 (n / 256 % 256)) (by show w.heap.size + 1 ≠ g; omega)).trans hR6)
      have b8 := (b6.setCell (p := ⟨g, a + 2, none⟩) (by show w.heap.size ≤ g; omega) (.int .u8 (n / 256 % 256))).setCell (p := ⟨g, a + 3, none⟩) (by show w.heap.size ≤ g; omega) (.int .u8 (n % 256))
      have p1' : (w6.setCell ⟨g, a + 2, none⟩ (.int .u8 (n / 256 % 256))).cell? ⟨g, a + 3, none⟩ = some (.int .u8 (byt (q.opt.set (a + 2) (u8 (n / 256))) (a + 3))) := (own_cell oO7a (i := a + 3) (by omega)).1
      have f1' : (w6.setCell ⟨g, a + 2, none⟩ (.int .u8 (n / 256 % 256))).frozen? ⟨g, a + 3, none⟩ = false := (own_cell oO7a (i := a + 3) (by omega)).2.1
      have kC : (w6.setCell ⟨g, a + 2, none⟩ (.int .u8 (n / 256 % 256))).cell? ⟨w.heap.size, 8, none⟩ = some (.slice (some ⟨g, 0, none⟩) q.opt.length o) := by
        rw [cell_of_row _ _ _ _ _ _ ((heap_setCell_other w6 ⟨g, a + 2, none⟩ w.heap.size (.int .u8 (n / 256 % 256)) (by show w.heap.size ≠ g; omega)).trans hP6)]; rfl
      have kE : ((w6.setCell ⟨g, a + 2, none⟩ (.int .u8 (n / 256 % 256))).setCell ⟨g, a + 3, none⟩ (.int .u8 (n % 256))).cell? ⟨w.heap.size, 8, none⟩ = some (.slice (some ⟨g, 0, none⟩) q.opt.length o) := by
        rw [cell_of_row _ _ _ _ _ _ hP8]; rfl
      have eL : ((setO q.opt a n).length) = q.opt.length := setO_len _ _ _
      clear eL oO7a oO7b e7
      refine wp_region_held_drew (S := fun w' => w'.cell? ⟨w.heap.size, 8, none⟩ = some (.slice (some ⟨g, 0, none⟩) q.opt.length o)) (by kernel_rfl) kO6 (fun hS => ?_)
      refine held_pure (i := 0) (oi := ⟨some 44, _, _, _, _, _⟩) rfl (by kernel_rfl) (by kernel_rfl) (by kernel_rfl) (fun _ _ _ h => h) (by rfl) (v := ?_) (fun w hSw => ?_) hS (fun hS => ?_)
      rotate_left
      · go_simp; try with_reducible rfl
      try go_frame
      refine held_pure (i := 1) (oi := ⟨some 45, _, _, _, _, _⟩) rfl (by kernel_rfl) (by kernel_rfl) (by kernel_rfl) (fun _ _ _ h => h) (by rfl) (fun w hSw => run_load_sl rfl rfl hSw) hS (fun hS => ?_)
      try go_frame
      refine held_pure (i := 2) (oi := ⟨some 46, _, _, _, _, _⟩) rfl (by kernel_rfl) (by kernel_rfl) (by kernel_rfl) (fun _ _ _ h => h) (by rfl) (v := ?_) (fun w hSw => ?_) hS (fun hS => ?_)
      rotate_left
      · go_simp; try with_reducible rfl
      try go_frame
      refine held_pure (i := 3) (oi := ⟨some 47, _, _, _, _, _⟩) rfl (by kernel_rfl) (by kernel_rfl) (by kernel_rfl) (fun _ _ _ h => h) (by rfl) (v := .int .i64 ((a : Int) + 2)) (fun w hSw => by go_simp; first | done | (rw [IntKind.wrap_i64]; omega)) hS (fun hS => ?_)
      try go_frame
      refine held_pure (i := 4) (oi := ⟨some 48, _, _, _, _, _⟩) rfl (by kernel_rfl) (by kernel_rfl) (by kernel_rfl) (fun _ _ _ h => h) (by rfl) (v := ?_) (fun w hSw => ?_) hS (fun hS => ?_)
      rotate_left
      · go_simp; try with_reducible rfl
      try go_frame
      refine held_pure (i := 5) (oi := ⟨some 49, _, _, _, _, _⟩) rfl (by kernel_rfl) (by kernel_rfl) (by kernel_rfl) (fun _ _ _ h => h) (by rfl) (fun w hSw => run_load_sl rfl rfl hSw) hS (fun hS => ?_)
      try go_frame
      refine held_pure (i := 6) (oi := ⟨some 50, _, _, _, _, _⟩) rfl (by kernel_rfl) (by kernel_rfl) (by kernel_rfl) (fun _ _ _ h => h) (by rfl) (v := ?_) (fun w hSw => ?_) hS (fun hS => ?_)
      rotate_left
      · go_simp; try with_reducible rfl
      try go_frame
      refine held_pure (i := 7) (oi := ⟨some 51, _, _, _, _, _⟩) rfl (by kernel_rfl) (by kernel_rfl) (by kernel_rfl) (fun _ _ _ h => h) (by rfl) (v := .int .i64 ((a : Int) + 3)) (fun w hSw => by go_simp; first | done | (rw [IntKind.wrap_i64]; omega)) hS (fun hS => ?_)
      try go_frame
      refine held_pure (i := 8) (oi := ⟨some 52, _, _, _, _, _⟩) rfl (by kernel_rfl) (by kernel_rfl) (by kernel_rfl) (fun _ _ _ h => h) (by rfl) (v := ?_) (fun w hSw => ?_) hS (fun hS => ?_)
      rotate_left
      · go_simp; try with_reducible rfl
      try go_frame
      refine held_pure (i := 9) (oi := ⟨some 53, _, _, _, _, _⟩) rfl (by kernel_rfl) (by kernel_rfl) (by kernel_rfl) (fun _ _ _ h => h) (by rfl) (v := ?_) (fun w hSw => ?_) hS (fun hS => ?_)
      rotate_left
      · go_simp; try with_reducible rfl
      try go_frame
      refine held_pure (i := 10) (oi := ⟨some 54, _, _, _, _, _⟩) rfl (by kernel_rfl) (by kernel_rfl) (by kernel_rfl) (fun _ _ _ h => h) (by rfl) (v := .int .u8 (n / 256 % 256)) (fun w hSw => by go_simp; first | done | (simp only [IntKind.wrap_u8, IntKind.wrap_i64]; omega)) hS (fun hS => ?_)
      try go_frame
      refine held_pure (i := 11) (oi := ⟨some 55, _, _, _, _, _⟩) rfl (by kernel_rfl) (by kernel_rfl) (by kernel_rfl) (fun _ _ _ h => h) (by rfl) (v := ?_) (fun w hSw => ?_) hS (fun hS => ?_)
      rotate_left
      · go_simp; try with_reducible rfl
      try go_frame
      refine held_pure (i := 12) (oi := ⟨some 56, _, _, _, _, _⟩) rfl (by kernel_rfl) (by kernel_rfl) (by kernel_rfl) (fun _ _ _ h => h) (by rfl) (v := ?_) (fun w hSw => ?_) hS (fun hS => ?_)
      rotate_left
      · go_simp; try with_reducible rfl
      try go_frame
      refine held_pure (i := 13) (oi := ⟨some 57, _, _, _, _, _⟩) rfl (by kernel_rfl) (by kernel_rfl) (by kernel_rfl) (fun _ _ _ h => h) (by rfl) (v := .int .u8 (n % 256)) (fun w hSw => by go_simp; first | done | (simp only [IntKind.wrap_u8]; omega)) hS (fun hS => ?_)
      try go_frame
      refine held_pure (i := 14) (oi := ⟨some 58, _, _, _, _, _⟩) rfl (by kernel_rfl) (by kernel_rfl) (by kernel_rfl) (fun _ _ _ h => h) (by rfl) (v := Value.pointer (some ⟨g, a + 2, none⟩)) (fun w hSw => by go_simp; rw [if_pos ⟨by omega, by omega⟩, show ((a : Int) + 2).toNat = a + 2 from by omega]) hS (fun hS => ?_)
      try go_frame
      refine wpAnyH_ready (rs := [15]) (by kernel_rfl) (by simp) (AllReadyH.cons (o := ⟨none, _, _, _, _, _⟩) rfl (fun K hK => ?_) AllReadyH.nil)
      rw [if_pos (by rfl)]
      refine store_u8_wp rfl rfl rfl (show w6.drew.cell? ⟨g, a + 2, none⟩ = _ from p0) f0 ?_
      refine hK.out _ _ kC (fun hS => ?_)
      clear hK K
      try go_frame
      refine held_pure (i := 16) (oi := ⟨some 59, _, _, _, _, _⟩) rfl (by kernel_rfl) (by kernel_rfl) (by kernel_rfl) (fun _ _ _ h => h) (by rfl) (v := Value.pointer (some ⟨g, a + 3, none⟩)) (fun w hSw => by go_simp; rw [if_pos ⟨by omega, by omega⟩, show ((a : Int) + 3).toNat = a + 3 from by omega]) hS (fun hS => ?_)
      try go_frame
      refine wpAnyH_ready (rs := [17]) (by kernel_rfl) (by simp) (AllReadyH.cons (o := ⟨none, _, _, _, _, _⟩) rfl (fun K hK => ?_) AllReadyH.nil)
      rw [if_pos (by rfl)]
      refine store_u8_wp rfl rfl rfl p1' f1' ?_
      refine hK.out _ _ kE (fun hS => ?_)
      clear hK K
      try go_frame
      refine wpAnyH_done (by kernel_rfl) ?_ _
      have hP9 : ((w6.drew.setCell ⟨g, a + 2, none⟩ (.int .u8 (n / 256 % 256))).setCell ⟨g, a + 3, none⟩ (.int .u8 (n % 256))).heap[w.heap.size]? = some (.cells (tsa q (some ⟨g, 0, none⟩) o D d) 41 (0, 0)) := hP8
      have hR9 : ((w6.drew.setCell ⟨g, a + 2, none⟩ (.int .u8 (n / 256 % 256))).setCell ⟨g, a + 3, none⟩ (.int .u8 (n % 256))).heap[w.heap.size + 1]? = some (.cells (tsa tsz none 0 none 0) 41 (0, 0)) := hR8
      have oO9 : ((w6.drew.setCell ⟨g, a + 2, none⟩ (.int .u8 (n / 256 % 256))).setCell ⟨g, a + 3, none⟩ (.int .u8 (n % 256))).ownsRow W.heap.size 5 1 (.slice (some ⟨g, 0, none⟩) (setO q.opt a n).length o) (setO q.opt a n).length (row (setO q.opt a n)) := oO8
      have oD9 : ((w6.drew.setCell ⟨g, a + 2, none⟩ (.int .u8 (n / 256 % 256))).setCell ⟨g, a + 3, none⟩ (.int .u8 (n % 256))).ownsRow w2.heap.size 5 1 (.slice D q.dat.length d) q.dat.length (row q.dat) := oD8
      have b9 : Below w.heap.size w ((w6.drew.setCell ⟨g, a + 2, none⟩ (.int .u8 (n / 256 % 256))).setCell ⟨g, a + 3, none⟩ (.int .u8 (n % 256))) := ((b6.drew).setCell (p := ⟨g, a + 2, none⟩) (by show w.heap.size ≤ g; omega) (.int .u8 (n / 256 % 256))).setCell (p := ⟨g, a + 3, none⟩) (by show w.heap.size ≤ g; omega) (.int .u8 (n % 256))
      clear hP8 hR8 oO8 oD8 b8 hS kC kE p0 p1 f0 f1 p1' f1'
      generalize ((w6.drew.setCell ⟨g, a + 2, none⟩ (.int .u8 (n / 256 % 256))).setCell ⟨g, a + 3, none⟩ (.int .u8 (n % 256))) = w8 at *
      have hat8 := Atts.of_heap hP9
      go_wp2_with (first
        | ((with_reducible show wpList _ _ _ (Oper.mk (some 60) (Op.load 41 _) _ _ _ _ :: _) _ _); refine wpList_val rfl (run_load_ts rfl rfl hat8 rfl) ?_)
        | ((with_reducible show wpList _ _ _ (Oper.mk _ (Op.store 41 _ _) _ _ _ _ :: _) _ _); refine ts_store (g := w.heap.size + 1) (cs := tsa q (some ⟨g, 0, none⟩) o D d) rfl rfl hR9 rfl rfl (ts_one _ _ _ _ _) ?_))
      have oO7 := own_setRow oO9 (g := w.heap.size + 1) (cs := tsa q (some ⟨g, 0, none⟩) o D d) zR
      have oD7 := own_setRow oD9 (g := w.heap.size + 1) (cs := tsa q (some ⟨g, 0, none⟩) o D d) (by omega)
      have b7 := below_row b9 (g := w.heap.size + 1) (cs := tsa q (some ⟨g, 0, none⟩) o D d) (by omega)
      exact bodyPost_ret (results_cell_row rfl _ _ (w.heap.size + 1) 41 (tsa q (some ⟨g, 0, none⟩) o D d) (0, 0) _ rfl (setRow_heap _ _ _ _ _ _ hR9) Tryz.underlying41 rfl (by kernel_rfl)) rfl ⟨some ⟨g, 0, none⟩, o, D, d, by rw [HS.out]; exact congrArg (fun x => Ending.returned (Value.agg x)) (tsa_opt q _ _ _ _ _ (setO_len _ _ _)).symm, by rw [HS.out]; exact Made.of_own (own_base oO7 (by omega)) b7, by rw [HS.out]; exact Made.of_own (own_base oD7 (by omega)) b7⟩
    · rw [if_pos (by rfl)]
      refine wp_val (v := .slice A' q.dat.length c') (by first | exact run_load_sl rfl rfl kD0 | exact run_load_sl rfl rfl kD2) ?_
      refine hK.out _ _ trivial (fun hS => ?_)
      clear hK K
      try go_frame
      refine wpAnyH_ready (rs := [2]) (by kernel_rfl) (by simp) (AllReadyH.cons (o := ⟨some 10, _, _, _, _, _⟩) rfl (fun K hK => ?_) AllReadyH.nil)
      rw [if_pos (by rfl)]
      refine append_wp _ _ rfl W.heap.size (.slice none 0 0) 0 [] rfl (World.ownsRow_nil _ _ _ _) B A c q.opt rfl hO1.none_ (hO1.below (Below.refl _ W).drew).rd (by omega) (Nat.le_refl _) ?_
      intro v2 w2 own2 grow2
      obtain ⟨O, o, rfl, o2⟩ := own_made (bs := q.opt) own2 (Nat.zero_add _) (List.nil_append _)
      have y2 := (Below.refl W.drew.heap.size W.drew).grown grow2 (Nat.le_refl _) (fun k hk => by cases hk)
      clear own2 grow2
      have o2 : w2.ownsRow W.heap.size 5 1 (.slice O q.opt.length o) q.opt.length (row q.opt) := o2
      have x2 : Below W.heap.size W w2 := (Below.refl _ W).drew.trans y2
      have hP2 := (x2.block w.heap.size zP).trans hP0
      have hR2 := (x2.block (w.heap.size + 1) zR).trans hR0
      have kD2 := (Atts.of_heap hP2).dat
      have hD2 := hD1.below (x2.mono zW)
      have hgO : ∀ g, O = some ⟨g, 0, none⟩ → 0 < q.opt.length → g < w2.heap.size := fun g e hl => by { subst e; exact (own_cell o2 (i := 0) hl).2.2.2.1 }
      refine hK.out _ _ trivial (fun hS => ?_)
      clear hK K
      try go_frame
      refine held_pure (i := 6) (oi := ⟨some 14, _, _, _, _, _⟩) rfl (by kernel_rfl) (by kernel_rfl) (by kernel_rfl) (fun _ _ _ h => h) (by rfl) (v := ?_) (fun w hSw => ?_) hS (fun hS => ?_)
      rotate_left
      · go_simp; try with_reducible rfl
      try go_frame
      refine wpAnyH_ready (rs := [5]) (by kernel_rfl) (by simp) (AllReadyH.cons (o := ⟨some 13, _, _, _, _, _⟩) rfl (fun K hK => ?_) AllReadyH.nil)
      rw [if_pos (by rfl)]
      refine append_wp _ _ rfl w2.heap.size (.slice none 0 0) 0 [] rfl (World.ownsRow_nil _ _ _ _) B A' c' q.dat rfl hD2.none_ hD2.rd (by omega) (Nat.le_refl _) ?_
      intro v3 w3 own3 grow3
      obtain ⟨D, d, rfl, o3⟩ := own_made (bs := q.dat) own3 (Nat.zero_add _) (List.nil_append _)
      have y3 := (Below.refl w2.heap.size w2).grown grow3 (Nat.le_refl _) (fun k hk => by cases hk)
      clear own3 grow3
      have hP3 := (y3.block w.heap.size (heap_lt hP2)).trans hP2
      have hR3 := (y3.block (w.heap.size + 1) (heap_lt hR2)).trans hR2
      have oO3 := own_below o2 y3
      have kO3 := (Atts.of_heap hP3).opt
      have fO3 := heap_frozen hP3 8
      have x3 := x2.trans (y3.mono x2.size)
      have zx2 := x2.size
      refine hK.out _ _ trivial (fun hS => ?_)
      clear hK K
      try go_frame
      refine wpAnyH_ready (rs := [7]) (by kernel_rfl) (by simp) (AllReadyH.cons (o := ⟨none, _, _, _, _, _⟩) rfl (fun K hK => ?_) AllReadyH.nil)
      rw [if_pos (by rfl)]
      refine store_sl_wp rfl rfl rfl kO3 fO3 ?_
      have hP4 : (w3.setCell ⟨w.heap.size, 8, none⟩ (.slice O q.opt.length o)).heap[w.heap.size]? = some (.cells (tsa q O o A' c') 41 (0, 0)) := heap_setCell_same w3 w.heap.size 8 _ _ (.slice O q.opt.length o) hP3
      have hR4 := (heap_setCell_other w3 ⟨w.heap.size, 8, none⟩ (w.heap.size + 1) (.slice O q.opt.length o) (by show w.heap.size + 1 ≠ w.heap.size; omega)).trans hR3
      have kD4 := (Atts.of_heap hP4).dat
      have fD4 := heap_frozen hP4 9
      have oO4 := own_setCell oO3 (p := ⟨w.heap.size, 8, none⟩) (u := .slice O q.opt.length o) zP
      have oD4 := own_setCell o3 (p := ⟨w.heap.size, 8, none⟩) (u := .slice O q.opt.length o) (Nat.lt_of_lt_of_le zP zx2)
      have b4 := (hB.trans (x3.mono hB.size)).setCell (p := ⟨w.heap.size, 8, none⟩) (Nat.le_refl _) (.slice O q.opt.length o)
      clear hP2 hR2 kD2 hD2 hP3 hR3 oO3 kO3 fO3 o2 o3 y2 y3
      generalize w3.setCell ⟨w.heap.size, 8, none⟩ (.slice O q.opt.length o) = V4 at *
      refine hK.out _ _ trivial (fun hS => ?_)
      clear hK K
      try go_frame
      refine held_pure (i := 8) (oi := ⟨some 15, _, _, _, _, _⟩) rfl (by kernel_rfl) (by kernel_rfl) (by kernel_rfl) (fun _ _ _ h => h) (by rfl) (v := ?_) (fun w hSw => ?_) hS (fun hS => ?_)
      rotate_left
      · go_simp; try with_reducible rfl
      try go_frame
      refine wpAnyH_ready (rs := [9]) (by kernel_rfl) (by simp) (AllReadyH.cons (o := ⟨none, _, _, _, _, _⟩) rfl (fun K hK => ?_) AllReadyH.nil)
      rw [if_pos (by rfl)]
      refine store_sl_wp rfl rfl rfl kD4 fD4 ?_
      have hP : (V4.setCell ⟨w.heap.size, 9, none⟩ (.slice D q.dat.length d)).heap[w.heap.size]? = some (.cells (tsa q O o D d) 41 (0, 0)) := heap_setCell_same V4 w.heap.size 9 _ _ (.slice D q.dat.length d) hP4
      have hR := (heap_setCell_other V4 ⟨w.heap.size, 9, none⟩ (w.heap.size + 1) (.slice D q.dat.length d) (by show w.heap.size + 1 ≠ w.heap.size; omega)).trans hR4
      have oO := own_setCell oO4 (p := ⟨w.heap.size, 9, none⟩) (u := .slice D q.dat.length d) zP
      have oD := own_setCell oD4 (p := ⟨w.heap.size, 9, none⟩) (u := .slice D q.dat.length d) (Nat.lt_of_lt_of_le zP zx2)
      have bV := b4.setCell (p := ⟨w.heap.size, 9, none⟩) (Nat.le_refl _) (.slice D q.dat.length d)
      clear hP4 hR4 kD4 fD4 oO4 oD4 b4 hP0 hR0 hO1 hD1 kO0 kD0 x2 x3
      generalize V4.setCell ⟨w.heap.size, 9, none⟩ (.slice D q.dat.length d) = V at *
      have hat := Atts.of_heap hP
      have gO := arg_own oO
      have gD := arg_own oD
      refine hK.out _ _ trivial (fun hS => ?_)
      clear hK K
      try go_frame
      refine wpAnyH_done (by kernel_rfl) ?_ _
      rcases hK : mssK q.opt with _ | _
      · have HKf := Lib.hid hK
        have HS := Lib.hid (sgT_no (q := q) (n := n) (by rintro ⟨_, _, _, h, _⟩; rw [hK] at h; cases h))
        clear hK
        go_upto_region 3 with (first
          | ((with_reducible show wpList _ _ _ (Oper.mk (some 17) (Op.load 41 _) _ _ _ _ :: _) _ _); refine wpList_val rfl (run_load_ts rfl rfl hat rfl) ?_)
          | (go_at_call 46; refine (rTmss q _ _ _ _ V V.heap.size gO (Nat.le_refl _) ho).mono ?_; rintro e w6 ⟨rfl, x6⟩; rw [HKf.out]))
        have hP6 := (x6.block w.heap.size (heap_lt hP)).trans hP
        have hR6 := (x6.block (w.heap.size + 1) (heap_lt hR)).trans hR
        have hat6 := Atts.of_heap hP6
        have oO6 := own_below oO x6
        have oD6 := own_below oD x6
        have b6 := bV.trans (x6.mono bV.size)
        have kf := hat6.flags
        have kO6 := hat6.opt
        by_cases c1 : bits .and .i64 q.flags 2 = 0
        · have d1 : (bits .and .i64 q.flags 2 == 0) = true := by simpa using c1
          clear c1
          go_wp2_with (first
            | ((with_reducible show wpList _ _ _ (Oper.mk (some 43) (Op.load 41 _) _ _ _ _ :: _) _ _); refine wpList_val rfl (run_load_ts rfl rfl hat6 rfl) ?_)
            | ((with_reducible show wpList _ _ _ (Oper.mk _ (Op.store 41 _ _) _ _ _ _ :: _) _ _); refine ts_store (g := w.heap.size + 1) (cs := tsa q O o D d) rfl rfl hR6 rfl rfl (ts_one _ _ _ _ _) ?_))
          have oO7 := own_setRow oO6 (g := w.heap.size + 1) (cs := tsa q O o D d) zR
          have oD7 := own_setRow oD6 (g := w.heap.size + 1) (cs := tsa q O o D d) (by omega)
          have b7 := below_row b6 (g := w.heap.size + 1) (cs := tsa q O o D d) (by omega)
          exact bodyPost_ret (results_cell_row rfl _ _ (w.heap.size + 1) 41 (tsa q O o D d) (0, 0) _ rfl (setRow_heap _ _ _ _ _ _ hR6) Tryz.underlying41 rfl (by kernel_rfl)) rfl ⟨O, o, D, d, by rw [HS.out]; rfl, by rw [HS.out]; exact Made.of_own (own_base oO7 (by omega)) b7, by rw [HS.out]; exact Made.of_own (own_base oD7 (by omega)) b7⟩
        have d1 : (bits .and .i64 q.flags 2 == 0) = false := by simpa using c1
        clear c1
        go_wp2_with (first
          | ((with_reducible show wpList _ _ _ (Oper.mk (some 43) (Op.load 41 _) _ _ _ _ :: _) _ _); refine wpList_val rfl (run_load_ts rfl rfl hat6 rfl) ?_)
          | ((with_reducible show wpList _ _ _ (Oper.mk _ (Op.store 41 _ _) _ _ _ _ :: _) _ _); refine ts_store (g := w.heap.size + 1) (cs := tsa q O o D d) rfl rfl hR6 rfl rfl (ts_one _ _ _ _ _) ?_))
        have oO7 := own_setRow oO6 (g := w.heap.size + 1) (cs := tsa q O o D d) zR
        have oD7 := own_setRow oD6 (g := w.heap.size + 1) (cs := tsa q O o D d) (by omega)
        have b7 := below_row b6 (g := w.heap.size + 1) (cs := tsa q O o D d) (by omega)
        exact bodyPost_ret (results_cell_row rfl _ _ (w.heap.size + 1) 41 (tsa q O o D d) (0, 0) _ rfl (setRow_heap _ _ _ _ _ _ hR6) Tryz.underlying41 rfl (by kernel_rfl)) rfl ⟨O, o, D, d, by rw [HS.out]; rfl, by rw [HS.out]; exact Made.of_own (own_base oO7 (by omega)) b7, by rw [HS.out]; exact Made.of_own (own_base oD7 (by omega)) b7⟩
      obtain ⟨a, hat_, hN, hA⟩ := mss_some hK
      have hroom := mssT_room hat_
      obtain ⟨N, hNN⟩ : ∃ y, y = mssN q.opt := ⟨_, rfl⟩
      have HN := Lib.hid hNN
      have HA := Lib.hid hA
      have HKt := Lib.hid hK
      clear hK hN hA hNN hat_
      go_upto_region 3 with (first
        | ((with_reducible show wpList _ _ _ (Oper.mk (some 17) (Op.load 41 _) _ _ _ _ :: _) _ _); refine wpList_val rfl (run_load_ts rfl rfl hat rfl) ?_)
        | (go_at_call 46; refine (rTmss q _ _ _ _ V V.heap.size gO (Nat.le_refl _) ho).mono ?_; rintro e w6 ⟨rfl, x6⟩; rw [HKt.out, ← HN.out, HA.out]))
      have hP6 := (x6.block w.heap.size (heap_lt hP)).trans hP
      have hR6 := (x6.block (w.heap.size + 1) (heap_lt hR)).trans hR
      have hat6 := Atts.of_heap hP6
      have oO6 := own_below oO x6
      have oD6 := own_below oD x6
      have b6 := bV.trans (x6.mono bV.size)
      have kf := hat6.flags
      have kO6 := hat6.opt
      by_cases c1 : bits .and .i64 q.flags 2 = 0
      · have d1 : (bits .and .i64 q.flags 2 == 0) = true := by simpa using c1
        have HS := Lib.hid (sgT_no (q := q) (n := n) (by rintro ⟨h, _⟩; exact h c1))
        clear c1
        go_wp2_with (first
          | ((with_reducible show wpList _ _ _ (Oper.mk (some 43) (Op.load 41 _) _ _ _ _ :: _) _ _); refine wpList_val rfl (run_load_ts rfl rfl hat6 rfl) ?_)
          | ((with_reducible show wpList _ _ _ (Oper.mk _ (Op.store 41 _ _) _ _ _ _ :: _) _ _); refine ts_store (g := w.heap.size + 1) (cs := tsa q O o D d) rfl rfl hR6 rfl rfl (ts_one _ _ _ _ _) ?_))
        have oO7 := own_setRow oO6 (g := w.heap.size + 1) (cs := tsa q O o D d) zR
        have oD7 := own_setRow oD6 (g := w.heap.size + 1) (cs := tsa q O o D d) (by omega)
        have b7 := below_row b6 (g := w.heap.size + 1) (cs := tsa q O o D d) (by omega)
        exact bodyPost_ret (results_cell_row rfl _ _ (w.heap.size + 1) 41 (tsa q O o D d) (0, 0) _ rfl (setRow_heap _ _ _ _ _ _ hR6) Tryz.underlying41 rfl (by kernel_rfl)) rfl ⟨O, o, D, d, by rw [HS.out]; rfl, by rw [HS.out]; exact Made.of_own (own_base oO7 (by omega)) b7, by rw [HS.out]; exact Made.of_own (own_base oD7 (by omega)) b7⟩
      have d1 : (bits .and .i64 q.flags 2 == 0) = false := by simpa using c1
      by_cases c4 : N ≤ n
      · have d4 : decide (N ≤ n) = true := by simpa using c4
        have HS := Lib.hid (sgT_no (q := q) (n := n) (by rintro ⟨_, _, _, _, h⟩; rw [← HN.out] at h; omega))
        clear c1
        go_wp2_with (first
          | ((with_reducible show wpList _ _ _ (Oper.mk (some 43) (Op.load 41 _) _ _ _ _ :: _) _ _); refine wpList_val rfl (run_load_ts rfl rfl hat6 rfl) ?_)
          | ((with_reducible show wpList _ _ _ (Oper.mk _ (Op.store 41 _ _) _ _ _ _ :: _) _ _); refine ts_store (g := w.heap.size + 1) (cs := tsa q O o D d) rfl rfl hR6 rfl rfl (ts_one _ _ _ _ _) ?_))
        have oO7 := own_setRow oO6 (g := w.heap.size + 1) (cs := tsa q O o D d) zR
        have oD7 := own_setRow oD6 (g := w.heap.size + 1) (cs := tsa q O o D d) (by omega)
        have b7 := below_row b6 (g := w.heap.size + 1) (cs := tsa q O o D d) (by omega)
        exact bodyPost_ret (results_cell_row rfl _ _ (w.heap.size + 1) 41 (tsa q O o D d) (0, 0) _ rfl (setRow_heap _ _ _ _ _ _ hR6) Tryz.underlying41 rfl (by kernel_rfl)) rfl ⟨O, o, D, d, by rw [HS.out]; rfl, by rw [HS.out]; exact Made.of_own (own_base oO7 (by omega)) b7, by rw [HS.out]; exact Made.of_own (own_base oD7 (by omega)) b7⟩
      have d4 : decide (N ≤ n) = false := by simpa using c4
      by_cases c2 : n < 0
      · have d2 : decide (n < 0) = true := by simpa using c2
        have HS := Lib.hid (sgT_no (q := q) (n := n) (by rintro ⟨_, h, _⟩; omega))
        clear c1
        go_wp2_with (first
          | ((with_reducible show wpList _ _ _ (Oper.mk (some 43) (Op.load 41 _) _ _ _ _ :: _) _ _); refine wpList_val rfl (run_load_ts rfl rfl hat6 rfl) ?_)
          | ((with_reducible show wpList _ _ _ (Oper.mk _ (Op.store 41 _ _) _ _ _ _ :: _) _ _); refine ts_store (g := w.heap.size + 1) (cs := tsa q O o D d) rfl rfl hR6 rfl rfl (ts_one _ _ _ _ _) ?_))
        have oO7 := own_setRow oO6 (g := w.heap.size + 1) (cs := tsa q O o D d) zR
        have oD7 := own_setRow oD6 (g := w.heap.size + 1) (cs := tsa q O o D d) (by omega)
        have b7 := below_row b6 (g := w.heap.size + 1) (cs := tsa q O o D d) (by omega)
        exact bodyPost_ret (results_cell_row rfl _ _ (w.heap.size + 1) 41 (tsa q O o D d) (0, 0) _ rfl (setRow_heap _ _ _ _ _ _ hR6) Tryz.underlying41 rfl (by kernel_rfl)) rfl ⟨O, o, D, d, by rw [HS.out]; rfl, by rw [HS.out]; exact Made.of_own (own_base oO7 (by omega)) b7, by rw [HS.out]; exact Made.of_own (own_base oD7 (by omega)) b7⟩
      have d2 : decide (n < 0) = false := by simpa using c2
      by_cases c3 : 65535 < n
      · have d3 : decide (65535 < n) = true := by simpa using c3
        have HS := Lib.hid (sgT_no (q := q) (n := n) (by rintro ⟨_, _, h, _⟩; omega))
        clear c1
        go_wp2_with (first
          | ((with_reducible show wpList _ _ _ (Oper.mk (some 43) (Op.load 41 _) _ _ _ _ :: _) _ _); refine wpList_val rfl (run_load_ts rfl rfl hat6 rfl) ?_)
          | ((with_reducible show wpList _ _ _ (Oper.mk _ (Op.store 41 _ _) _ _ _ _ :: _) _ _); refine ts_store (g := w.heap.size + 1) (cs := tsa q O o D d) rfl rfl hR6 rfl rfl (ts_one _ _ _ _ _) ?_))
        have oO7 := own_setRow oO6 (g := w.heap.size + 1) (cs := tsa q O o D d) zR
        have oD7 := own_setRow oD6 (g := w.heap.size + 1) (cs := tsa q O o D d) (by omega)
        have b7 := below_row b6 (g := w.heap.size + 1) (cs := tsa q O o D d) (by omega)
        exact bodyPost_ret (results_cell_row rfl _ _ (w.heap.size + 1) 41 (tsa q O o D d) (0, 0) _ rfl (setRow_heap _ _ _ _ _ _ hR6) Tryz.underlying41 rfl (by kernel_rfl)) rfl ⟨O, o, D, d, by rw [HS.out]; rfl, by rw [HS.out]; exact Made.of_own (own_base oO7 (by omega)) b7, by rw [HS.out]; exact Made.of_own (own_base oD7 (by omega)) b7⟩
      have d3 : decide (65535 < n) = false := by simpa using c3
      have HS := Lib.hid (show sgT q n = ⟨q.src, q.dst, q.seq, q.ack, q.res, q.flags, q.win, q.urg, setO q.opt a n, q.dat⟩ by
        rw [sgT_yes ⟨c1, by omega, by omega, HKt.out, by rw [← HN.out]; omega⟩, HA.out]; rfl)
      obtain ⟨g, rfl⟩ := own_some oO (by omega)
      clear c1
      go_upto_region 5 with fail
      obtain ⟨p0, f0, hgW, hgw6, -⟩ := own_cell oO6 (i := a + 2) (by omega)
      obtain ⟨p1, f1, -, -, -⟩ := own_cell oO6 (i := a + 3) (by omega)
      have eD : Int.tdiv n 256 = n / 256 := Int.tdiv_eq_ediv_of_nonneg (by omega)
      have eM : Int.tmod n 256 = n % 256 := Int.tmod_eq_emod_of_nonneg (by omega)
      have hg2 := hgO g rfl (by omega)
      have oO7a := own_put (i := a + 2) (n := n / 256) oO6
      have e7 : (q.opt.set (a + 2) (u8 (n / 256))).length = q.opt.length := by simp
      rw [← e7] at oO7a
      have oO7b := own_put (i := a + 3) (n := n) oO7a
      rw [e7] at oO7b
      have oO8 : ((w6.setCell ⟨g, a + 2, none⟩ (.int .u8 (n / 256 % 256))).setCell ⟨g, a + 3, none⟩ (.int .u8 (n % 256))).ownsRow W.heap.size 5 1 (.slice (some ⟨g, 0, none⟩) (setO q.opt a n).length o) (setO q.opt a n).length (row (setO q.opt a n)) := by rw [setO_len]; exact oO7b
      have oD8 := own_setCell (own_setCell oD6 (p := ⟨g, a + 2, none⟩) (u := .int .u8 (n / 256 % 256)) hg2) (p := ⟨g, a + 3, none⟩) (u := .int .u8 (n % 256)) hg2
      have hP8 := (heap_setCell_other (w6.setCell ⟨g, a + 2, none⟩ (.int .u8 (n / 256 % 256))) ⟨g, a + 3, none⟩ w.heap.size (.int .u8 (n % 256)) (by show w.heap.size ≠ g; omega)).trans ((heap_setCell_other w6 ⟨g, a + 2, none⟩ w.heap.size (.int .u8 (n / 256 % 256)) (by show w.heap.size ≠ g; omega)).trans hP6)
      have hR8 := (heap_setCell_other (w6.setCell ⟨g, a + 2, none⟩ (.int .u8 (n / 256 % 256))) ⟨g, a + 3, none⟩ (w.heap.size + 1) (.int .u8 (n % 256)) (by show w.heap.size + 1 ≠ g; omega)).trans ((heap_setCell_other w6 ⟨g, a + 2, none⟩ (w.heap.size + 1) (.int .u8 (n / 256 % 256)) (by show w.heap.size + 1 ≠ g; omega)).trans hR6)
      have b8 := (b6.setCell (p := ⟨g, a + 2, none⟩) (by show w.heap.size ≤ g; omega) (.int .u8 (n / 256 % 256))).setCell (p := ⟨g, a + 3, none⟩) (by show w.heap.size ≤ g; omega) (.int .u8 (n % 256))
      have p1' : (w6.setCell ⟨g, a + 2, none⟩ (.int .u8 (n / 256 % 256))).cell? ⟨g, a + 3, none⟩ = some (.int .u8 (byt (q.opt.set (a + 2) (u8 (n / 256))) (a + 3))) := (own_cell oO7a (i := a + 3) (by omega)).1
      have f1' : (w6.setCell ⟨g, a + 2, none⟩ (.int .u8 (n / 256 % 256))).frozen? ⟨g, a + 3, none⟩ = false := (own_cell oO7a (i := a + 3) (by omega)).2.1
      have kC : (w6.setCell ⟨g, a + 2, none⟩ (.int .u8 (n / 256 % 256))).cell? ⟨w.heap.size, 8, none⟩ = some (.slice (some ⟨g, 0, none⟩) q.opt.length o) := by
        rw [cell_of_row _ _ _ _ _ _ ((heap_setCell_other w6 ⟨g, a + 2, none⟩ w.heap.size (.int .u8 (n / 256 % 256)) (by show w.heap.size ≠ g; omega)).trans hP6)]; rfl
      have kE : ((w6.setCell ⟨g, a + 2, none⟩ (.int .u8 (n / 256 % 256))).setCell ⟨g, a + 3, none⟩ (.int .u8 (n % 256))).cell? ⟨w.heap.size, 8, none⟩ = some (.slice (some ⟨g, 0, none⟩) q.opt.length o) := by
        rw [cell_of_row _ _ _ _ _ _ hP8]; rfl
      have eL : ((setO q.opt a n).length) = q.opt.length := setO_len _ _ _
      clear eL oO7a oO7b e7
      refine wp_region_held_drew (S := fun w' => w'.cell? ⟨w.heap.size, 8, none⟩ = some (.slice (some ⟨g, 0, none⟩) q.opt.length o)) (by kernel_rfl) kO6 (fun hS => ?_)
      refine held_pure (i := 0) (oi := ⟨some 44, _, _, _, _, _⟩) rfl (by kernel_rfl) (by kernel_rfl) (by kernel_rfl) (fun _ _ _ h => h) (by rfl) (v := ?_) (fun w hSw => ?_) hS (fun hS => ?_)
      rotate_left
      · go_simp; try with_reducible rfl
      try go_frame
      refine held_pure (i := 1) (oi := ⟨some 45, _, _, _, _, _⟩) rfl (by kernel_rfl) (by kernel_rfl) (by kernel_rfl) (fun _ _ _ h => h) (by rfl) (fun w hSw => run_load_sl rfl rfl hSw) hS (fun hS => ?_)
      try go_frame
      refine held_pure (i := 2) (oi := ⟨some 46, _, _, _, _, _⟩) rfl (by kernel_rfl) (by kernel_rfl) (by kernel_rfl) (fun _ _ _ h => h) (by rfl) (v := ?_) (fun w hSw => ?_) hS (fun hS => ?_)
      rotate_left
      · go_simp; try with_reducible rfl
      try go_frame
      refine held_pure (i := 3) (oi := ⟨some 47, _, _, _, _, _⟩) rfl (by kernel_rfl) (by kernel_rfl) (by kernel_rfl) (fun _ _ _ h => h) (by rfl) (v := .int .i64 ((a : Int) + 2)) (fun w hSw => by go_simp; first | done | (rw [IntKind.wrap_i64]; omega)) hS (fun hS => ?_)
      try go_frame
      refine held_pure (i := 4) (oi := ⟨some 48, _, _, _, _, _⟩) rfl (by kernel_rfl) (by kernel_rfl) (by kernel_rfl) (fun _ _ _ h => h) (by rfl) (v := ?_) (fun w hSw => ?_) hS (fun hS => ?_)
      rotate_left
      · go_simp; try with_reducible rfl
      try go_frame
      refine held_pure (i := 5) (oi := ⟨some 49, _, _, _, _, _⟩) rfl (by kernel_rfl) (by kernel_rfl) (by kernel_rfl) (fun _ _ _ h => h) (by rfl) (fun w hSw => run_load_sl rfl rfl hSw) hS (fun hS => ?_)
      try go_frame
      refine held_pure (i := 6) (oi := ⟨some 50, _, _, _, _, _⟩) rfl (by kernel_rfl) (by kernel_rfl) (by kernel_rfl) (fun _ _ _ h => h) (by rfl) (v := ?_) (fun w hSw => ?_) hS (fun hS => ?_)
      rotate_left
      · go_simp; try with_reducible rfl
      try go_frame
      refine held_pure (i := 7) (oi := ⟨some 51, _, _, _, _, _⟩) rfl (by kernel_rfl) (by kernel_rfl) (by kernel_rfl) (fun _ _ _ h => h) (by rfl) (v := .int .i64 ((a : Int) + 3)) (fun w hSw => by go_simp; first | done | (rw [IntKind.wrap_i64]; omega)) hS (fun hS => ?_)
      try go_frame
      refine held_pure (i := 8) (oi := ⟨some 52, _, _, _, _, _⟩) rfl (by kernel_rfl) (by kernel_rfl) (by kernel_rfl) (fun _ _ _ h => h) (by rfl) (v := ?_) (fun w hSw => ?_) hS (fun hS => ?_)
      rotate_left
      · go_simp; try with_reducible rfl
      try go_frame
      refine held_pure (i := 9) (oi := ⟨some 53, _, _, _, _, _⟩) rfl (by kernel_rfl) (by kernel_rfl) (by kernel_rfl) (fun _ _ _ h => h) (by rfl) (v := ?_) (fun w hSw => ?_) hS (fun hS => ?_)
      rotate_left
      · go_simp; try with_reducible rfl
      try go_frame
      refine held_pure (i := 10) (oi := ⟨some 54, _, _, _, _, _⟩) rfl (by kernel_rfl) (by kernel_rfl) (by kernel_rfl) (fun _ _ _ h => h) (by rfl) (v := .int .u8 (n / 256 % 256)) (fun w hSw => by go_simp; first | done | (simp only [IntKind.wrap_u8, IntKind.wrap_i64]; omega)) hS (fun hS => ?_)
      try go_frame
      refine held_pure (i := 11) (oi := ⟨some 55, _, _, _, _, _⟩) rfl (by kernel_rfl) (by kernel_rfl) (by kernel_rfl) (fun _ _ _ h => h) (by rfl) (v := ?_) (fun w hSw => ?_) hS (fun hS => ?_)
      rotate_left
      · go_simp; try with_reducible rfl
      try go_frame
      refine held_pure (i := 12) (oi := ⟨some 56, _, _, _, _, _⟩) rfl (by kernel_rfl) (by kernel_rfl) (by kernel_rfl) (fun _ _ _ h => h) (by rfl) (v := ?_) (fun w hSw => ?_) hS (fun hS => ?_)
      rotate_left
      · go_simp; try with_reducible rfl
      try go_frame
      refine held_pure (i := 13) (oi := ⟨some 57, _, _, _, _, _⟩) rfl (by kernel_rfl) (by kernel_rfl) (by kernel_rfl) (fun _ _ _ h => h) (by rfl) (v := .int .u8 (n % 256)) (fun w hSw => by go_simp; first | done | (simp only [IntKind.wrap_u8]; omega)) hS (fun hS => ?_)
      try go_frame
      refine held_pure (i := 14) (oi := ⟨some 58, _, _, _, _, _⟩) rfl (by kernel_rfl) (by kernel_rfl) (by kernel_rfl) (fun _ _ _ h => h) (by rfl) (v := Value.pointer (some ⟨g, a + 2, none⟩)) (fun w hSw => by go_simp; rw [if_pos ⟨by omega, by omega⟩, show ((a : Int) + 2).toNat = a + 2 from by omega]) hS (fun hS => ?_)
      try go_frame
      refine wpAnyH_ready (rs := [15]) (by kernel_rfl) (by simp) (AllReadyH.cons (o := ⟨none, _, _, _, _, _⟩) rfl (fun K hK => ?_) AllReadyH.nil)
      rw [if_pos (by rfl)]
      refine store_u8_wp rfl rfl rfl (show w6.drew.cell? ⟨g, a + 2, none⟩ = _ from p0) f0 ?_
      refine hK.out _ _ kC (fun hS => ?_)
      clear hK K
      try go_frame
      refine held_pure (i := 16) (oi := ⟨some 59, _, _, _, _, _⟩) rfl (by kernel_rfl) (by kernel_rfl) (by kernel_rfl) (fun _ _ _ h => h) (by rfl) (v := Value.pointer (some ⟨g, a + 3, none⟩)) (fun w hSw => by go_simp; rw [if_pos ⟨by omega, by omega⟩, show ((a : Int) + 3).toNat = a + 3 from by omega]) hS (fun hS => ?_)
      try go_frame
      refine wpAnyH_ready (rs := [17]) (by kernel_rfl) (by simp) (AllReadyH.cons (o := ⟨none, _, _, _, _, _⟩) rfl (fun K hK => ?_) AllReadyH.nil)
      rw [if_pos (by rfl)]
      refine store_u8_wp rfl rfl rfl p1' f1' ?_
      refine hK.out _ _ kE (fun hS => ?_)
      clear hK K
      try go_frame
      refine wpAnyH_done (by kernel_rfl) ?_ _
      have hP9 : ((w6.drew.setCell ⟨g, a + 2, none⟩ (.int .u8 (n / 256 % 256))).setCell ⟨g, a + 3, none⟩ (.int .u8 (n % 256))).heap[w.heap.size]? = some (.cells (tsa q (some ⟨g, 0, none⟩) o D d) 41 (0, 0)) := hP8
      have hR9 : ((w6.drew.setCell ⟨g, a + 2, none⟩ (.int .u8 (n / 256 % 256))).setCell ⟨g, a + 3, none⟩ (.int .u8 (n % 256))).heap[w.heap.size + 1]? = some (.cells (tsa tsz none 0 none 0) 41 (0, 0)) := hR8
      have oO9 : ((w6.drew.setCell ⟨g, a + 2, none⟩ (.int .u8 (n / 256 % 256))).setCell ⟨g, a + 3, none⟩ (.int .u8 (n % 256))).ownsRow W.heap.size 5 1 (.slice (some ⟨g, 0, none⟩) (setO q.opt a n).length o) (setO q.opt a n).length (row (setO q.opt a n)) := oO8
      have oD9 : ((w6.drew.setCell ⟨g, a + 2, none⟩ (.int .u8 (n / 256 % 256))).setCell ⟨g, a + 3, none⟩ (.int .u8 (n % 256))).ownsRow w2.heap.size 5 1 (.slice D q.dat.length d) q.dat.length (row q.dat) := oD8
      have b9 : Below w.heap.size w ((w6.drew.setCell ⟨g, a + 2, none⟩ (.int .u8 (n / 256 % 256))).setCell ⟨g, a + 3, none⟩ (.int .u8 (n % 256))) := ((b6.drew).setCell (p := ⟨g, a + 2, none⟩) (by show w.heap.size ≤ g; omega) (.int .u8 (n / 256 % 256))).setCell (p := ⟨g, a + 3, none⟩) (by show w.heap.size ≤ g; omega) (.int .u8 (n % 256))
      clear hP8 hR8 oO8 oD8 b8 hS kC kE p0 p1 f0 f1 p1' f1'
      generalize ((w6.drew.setCell ⟨g, a + 2, none⟩ (.int .u8 (n / 256 % 256))).setCell ⟨g, a + 3, none⟩ (.int .u8 (n % 256))) = w8 at *
      have hat8 := Atts.of_heap hP9
      go_wp2_with (first
        | ((with_reducible show wpList _ _ _ (Oper.mk (some 60) (Op.load 41 _) _ _ _ _ :: _) _ _); refine wpList_val rfl (run_load_ts rfl rfl hat8 rfl) ?_)
        | ((with_reducible show wpList _ _ _ (Oper.mk _ (Op.store 41 _ _) _ _ _ _ :: _) _ _); refine ts_store (g := w.heap.size + 1) (cs := tsa q (some ⟨g, 0, none⟩) o D d) rfl rfl hR9 rfl rfl (ts_one _ _ _ _ _) ?_))
      have oO7 := own_setRow oO9 (g := w.heap.size + 1) (cs := tsa q (some ⟨g, 0, none⟩) o D d) zR
      have oD7 := own_setRow oD9 (g := w.heap.size + 1) (cs := tsa q (some ⟨g, 0, none⟩) o D d) (by omega)
      have b7 := below_row b9 (g := w.heap.size + 1) (cs := tsa q (some ⟨g, 0, none⟩) o D d) (by omega)
      exact bodyPost_ret (results_cell_row rfl _ _ (w.heap.size + 1) 41 (tsa q (some ⟨g, 0, none⟩) o D d) (0, 0) _ rfl (setRow_heap _ _ _ _ _ _ hR9) Tryz.underlying41 rfl (by kernel_rfl)) rfl ⟨some ⟨g, 0, none⟩, o, D, d, by rw [HS.out]; exact congrArg (fun x => Ending.returned (Value.agg x)) (tsa_opt q _ _ _ _ _ (setO_len _ _ _)).symm, by rw [HS.out]; exact Made.of_own (own_base oO7 (by omega)) b7, by rw [HS.out]; exact Made.of_own (own_base oD7 (by omega)) b7⟩
  · rw [if_pos (by rfl)]
    refine wp_val (v := .slice A' q.dat.length c') (by first | exact run_load_sl rfl rfl kD0 | exact run_load_sl rfl rfl kD2) ?_
    refine hK.out _ _ trivial (fun hS => ?_)
    clear hK K
    try go_frame
    refine wpAnyH_ready (rs := [1]) (by kernel_rfl) (by simp) (AllReadyH.cons (o := ⟨some 9, _, _, _, _, _⟩) rfl (fun K hK => ?_) AllReadyH.nil)
    rw [if_pos (by rfl)]
    refine wp_val (v := .slice A q.opt.length c) (by first | exact run_load_sl rfl rfl kO0) ?_
    refine hK.out _ _ trivial (fun hS => ?_)
    clear hK K
    try go_frame
    refine wpAnyH_ready (rs := [2]) (by kernel_rfl) (by simp) (AllReadyH.cons (o := ⟨some 10, _, _, _, _, _⟩) rfl (fun K hK => ?_) AllReadyH.nil)
    rw [if_pos (by rfl)]
    refine append_wp _ _ rfl W.heap.size (.slice none 0 0) 0 [] rfl (World.ownsRow_nil _ _ _ _) B A c q.opt rfl hO1.none_ (hO1.below (Below.refl _ W).drew).rd (by omega) (Nat.le_refl _) ?_
    intro v2 w2 own2 grow2
    obtain ⟨O, o, rfl, o2⟩ := own_made (bs := q.opt) own2 (Nat.zero_add _) (List.nil_append _)
    have y2 := (Below.refl W.drew.heap.size W.drew).grown grow2 (Nat.le_refl _) (fun k hk => by cases hk)
    clear own2 grow2
    have o2 : w2.ownsRow W.heap.size 5 1 (.slice O q.opt.length o) q.opt.length (row q.opt) := o2
    have x2 : Below W.heap.size W w2 := (Below.refl _ W).drew.trans y2
    have hP2 := (x2.block w.heap.size zP).trans hP0
    have hR2 := (x2.block (w.heap.size + 1) zR).trans hR0
    have kD2 := (Atts.of_heap hP2).dat
    have hD2 := hD1.below (x2.mono zW)
    have hgO : ∀ g, O = some ⟨g, 0, none⟩ → 0 < q.opt.length → g < w2.heap.size := fun g e hl => by { subst e; exact (own_cell o2 (i := 0) hl).2.2.2.1 }
    refine hK.out _ _ trivial (fun hS => ?_)
    clear hK K
    try go_frame
    refine held_pure (i := 6) (oi := ⟨some 14, _, _, _, _, _⟩) rfl (by kernel_rfl) (by kernel_rfl) (by kernel_rfl) (fun _ _ _ h => h) (by rfl) (v := ?_) (fun w hSw => ?_) hS (fun hS => ?_)
    rotate_left
    · go_simp; try with_reducible rfl
    try go_frame
    refine wpAnyH_ready (rs := [5]) (by kernel_rfl) (by simp) (AllReadyH.cons (o := ⟨some 13, _, _, _, _, _⟩) rfl (fun K hK => ?_) AllReadyH.nil)
    rw [if_pos (by rfl)]
    refine append_wp _ _ rfl w2.heap.size (.slice none 0 0) 0 [] rfl (World.ownsRow_nil _ _ _ _) B A' c' q.dat rfl hD2.none_ hD2.rd (by omega) (Nat.le_refl _) ?_
    intro v3 w3 own3 grow3
    obtain ⟨D, d, rfl, o3⟩ := own_made (bs := q.dat) own3 (Nat.zero_add _) (List.nil_append _)
    have y3 := (Below.refl w2.heap.size w2).grown grow3 (Nat.le_refl _) (fun k hk => by cases hk)
    clear own3 grow3
    have hP3 := (y3.block w.heap.size (heap_lt hP2)).trans hP2
    have hR3 := (y3.block (w.heap.size + 1) (heap_lt hR2)).trans hR2
    have oO3 := own_below o2 y3
    have kO3 := (Atts.of_heap hP3).opt
    have fO3 := heap_frozen hP3 8
    have x3 := x2.trans (y3.mono x2.size)
    have zx2 := x2.size
    refine hK.out _ _ trivial (fun hS => ?_)
    clear hK K
    try go_frame
    refine wpAnyH_ready (rs := [7]) (by kernel_rfl) (by simp) (AllReadyH.cons (o := ⟨none, _, _, _, _, _⟩) rfl (fun K hK => ?_) AllReadyH.nil)
    rw [if_pos (by rfl)]
    refine store_sl_wp rfl rfl rfl kO3 fO3 ?_
    have hP4 : (w3.setCell ⟨w.heap.size, 8, none⟩ (.slice O q.opt.length o)).heap[w.heap.size]? = some (.cells (tsa q O o A' c') 41 (0, 0)) := heap_setCell_same w3 w.heap.size 8 _ _ (.slice O q.opt.length o) hP3
    have hR4 := (heap_setCell_other w3 ⟨w.heap.size, 8, none⟩ (w.heap.size + 1) (.slice O q.opt.length o) (by show w.heap.size + 1 ≠ w.heap.size; omega)).trans hR3
    have kD4 := (Atts.of_heap hP4).dat
    have fD4 := heap_frozen hP4 9
    have oO4 := own_setCell oO3 (p := ⟨w.heap.size, 8, none⟩) (u := .slice O q.opt.length o) zP
    have oD4 := own_setCell o3 (p := ⟨w.heap.size, 8, none⟩) (u := .slice O q.opt.length o) (Nat.lt_of_lt_of_le zP zx2)
    have b4 := (hB.trans (x3.mono hB.size)).setCell (p := ⟨w.heap.size, 8, none⟩) (Nat.le_refl _) (.slice O q.opt.length o)
    clear hP2 hR2 kD2 hD2 hP3 hR3 oO3 kO3 fO3 o2 o3 y2 y3
    generalize w3.setCell ⟨w.heap.size, 8, none⟩ (.slice O q.opt.length o) = V4 at *
    refine hK.out _ _ trivial (fun hS => ?_)
    clear hK K
    try go_frame
    refine held_pure (i := 8) (oi := ⟨some 15, _, _, _, _, _⟩) rfl (by kernel_rfl) (by kernel_rfl) (by kernel_rfl) (fun _ _ _ h => h) (by rfl) (v := ?_) (fun w hSw => ?_) hS (fun hS => ?_)
    rotate_left
    · go_simp; try with_reducible rfl
    try go_frame
    refine wpAnyH_ready (rs := [9]) (by kernel_rfl) (by simp) (AllReadyH.cons (o := ⟨none, _, _, _, _, _⟩) rfl (fun K hK => ?_) AllReadyH.nil)
    rw [if_pos (by rfl)]
    refine store_sl_wp rfl rfl rfl kD4 fD4 ?_
    have hP : (V4.setCell ⟨w.heap.size, 9, none⟩ (.slice D q.dat.length d)).heap[w.heap.size]? = some (.cells (tsa q O o D d) 41 (0, 0)) := heap_setCell_same V4 w.heap.size 9 _ _ (.slice D q.dat.length d) hP4
    have hR := (heap_setCell_other V4 ⟨w.heap.size, 9, none⟩ (w.heap.size + 1) (.slice D q.dat.length d) (by show w.heap.size + 1 ≠ w.heap.size; omega)).trans hR4
    have oO := own_setCell oO4 (p := ⟨w.heap.size, 9, none⟩) (u := .slice D q.dat.length d) zP
    have oD := own_setCell oD4 (p := ⟨w.heap.size, 9, none⟩) (u := .slice D q.dat.length d) (Nat.lt_of_lt_of_le zP zx2)
    have bV := b4.setCell (p := ⟨w.heap.size, 9, none⟩) (Nat.le_refl _) (.slice D q.dat.length d)
    clear hP4 hR4 kD4 fD4 oO4 oD4 b4 hP0 hR0 hO1 hD1 kO0 kD0 x2 x3
    generalize V4.setCell ⟨w.heap.size, 9, none⟩ (.slice D q.dat.length d) = V at *
    have hat := Atts.of_heap hP
    have gO := arg_own oO
    have gD := arg_own oD
    refine hK.out _ _ trivial (fun hS => ?_)
    clear hK K
    try go_frame
    refine wpAnyH_done (by kernel_rfl) ?_ _
    rcases hK : mssK q.opt with _ | _
    · have HKf := Lib.hid hK
      have HS := Lib.hid (sgT_no (q := q) (n := n) (by rintro ⟨_, _, _, h, _⟩; rw [hK] at h; cases h))
      clear hK
      go_upto_region 3 with (first
        | ((with_reducible show wpList _ _ _ (Oper.mk (some 17) (Op.load 41 _) _ _ _ _ :: _) _ _); refine wpList_val rfl (run_load_ts rfl rfl hat rfl) ?_)
        | (go_at_call 46; refine (rTmss q _ _ _ _ V V.heap.size gO (Nat.le_refl _) ho).mono ?_; rintro e w6 ⟨rfl, x6⟩; rw [HKf.out]))
      have hP6 := (x6.block w.heap.size (heap_lt hP)).trans hP
      have hR6 := (x6.block (w.heap.size + 1) (heap_lt hR)).trans hR
      have hat6 := Atts.of_heap hP6
      have oO6 := own_below oO x6
      have oD6 := own_below oD x6
      have b6 := bV.trans (x6.mono bV.size)
      have kf := hat6.flags
      have kO6 := hat6.opt
      by_cases c1 : bits .and .i64 q.flags 2 = 0
      · have d1 : (bits .and .i64 q.flags 2 == 0) = true := by simpa using c1
        clear c1
        go_wp2_with (first
          | ((with_reducible show wpList _ _ _ (Oper.mk (some 43) (Op.load 41 _) _ _ _ _ :: _) _ _); refine wpList_val rfl (run_load_ts rfl rfl hat6 rfl) ?_)
          | ((with_reducible show wpList _ _ _ (Oper.mk _ (Op.store 41 _ _) _ _ _ _ :: _) _ _); refine ts_store (g := w.heap.size + 1) (cs := tsa q O o D d) rfl rfl hR6 rfl rfl (ts_one _ _ _ _ _) ?_))
        have oO7 := own_setRow oO6 (g := w.heap.size + 1) (cs := tsa q O o D d) zR
        have oD7 := own_setRow oD6 (g := w.heap.size + 1) (cs := tsa q O o D d) (by omega)
        have b7 := below_row b6 (g := w.heap.size + 1) (cs := tsa q O o D d) (by omega)
        exact bodyPost_ret (results_cell_row rfl _ _ (w.heap.size + 1) 41 (tsa q O o D d) (0, 0) _ rfl (setRow_heap _ _ _ _ _ _ hR6) Tryz.underlying41 rfl (by kernel_rfl)) rfl ⟨O, o, D, d, by rw [HS.out]; rfl, by rw [HS.out]; exact Made.of_own (own_base oO7 (by omega)) b7, by rw [HS.out]; exact Made.of_own (own_base oD7 (by omega)) b7⟩
      have d1 : (bits .and .i64 q.flags 2 == 0) = false := by simpa using c1
      clear c1
      go_wp2_with (first
        | ((with_reducible show wpList _ _ _ (Oper.mk (some 43) (Op.load 41 _) _ _ _ _ :: _) _ _); refine wpList_val rfl (run_load_ts rfl rfl hat6 rfl) ?_)
        | ((with_reducible show wpList _ _ _ (Oper.mk _ (Op.store 41 _ _) _ _ _ _ :: _) _ _); refine ts_store (g := w.heap.size + 1) (cs := tsa q O o D d) rfl rfl hR6 rfl rfl (ts_one _ _ _ _ _) ?_))
      have oO7 := own_setRow oO6 (g := w.heap.size + 1) (cs := tsa q O o D d) zR
      have oD7 := own_setRow oD6 (g := w.heap.size + 1) (cs := tsa q O o D d) (by omega)
      have b7 := below_row b6 (g := w.heap.size + 1) (cs := tsa q O o D d) (by omega)
      exact bodyPost_ret (results_cell_row rfl _ _ (w.heap.size + 1) 41 (tsa q O o D d) (0, 0) _ rfl (setRow_heap _ _ _ _ _ _ hR6) Tryz.underlying41 rfl (by kernel_rfl)) rfl ⟨O, o, D, d, by rw [HS.out]; rfl, by rw [HS.out]; exact Made.of_own (own_base oO7 (by omega)) b7, by rw [HS.out]; exact Made.of_own (own_base oD7 (by omega)) b7⟩
    obtain ⟨a, hat_, hN, hA⟩ := mss_some hK
    have hroom := mssT_room hat_
    obtain ⟨N, hNN⟩ : ∃ y, y = mssN q.opt := ⟨_, rfl⟩
    have HN := Lib.hid hNN
    have HA := Lib.hid hA
    have HKt := Lib.hid hK
    clear hK hN hA hNN hat_
    go_upto_region 3 with (first
      | ((with_reducible show wpList _ _ _ (Oper.mk (some 17) (Op.load 41 _) _ _ _ _ :: _) _ _); refine wpList_val rfl (run_load_ts rfl rfl hat rfl) ?_)
      | (go_at_call 46; refine (rTmss q _ _ _ _ V V.heap.size gO (Nat.le_refl _) ho).mono ?_; rintro e w6 ⟨rfl, x6⟩; rw [HKt.out, ← HN.out, HA.out]))
    have hP6 := (x6.block w.heap.size (heap_lt hP)).trans hP
    have hR6 := (x6.block (w.heap.size + 1) (heap_lt hR)).trans hR
    have hat6 := Atts.of_heap hP6
    have oO6 := own_below oO x6
    have oD6 := own_below oD x6
    have b6 := bV.trans (x6.mono bV.size)
    have kf := hat6.flags
    have kO6 := hat6.opt
    by_cases c1 : bits .and .i64 q.flags 2 = 0
    · have d1 : (bits .and .i64 q.flags 2 == 0) = true := by simpa using c1
      have HS := Lib.hid (sgT_no (q := q) (n := n) (by rintro ⟨h, _⟩; exact h c1))
      clear c1
      go_wp2_with (first
        | ((with_reducible show wpList _ _ _ (Oper.mk (some 43) (Op.load 41 _) _ _ _ _ :: _) _ _); refine wpList_val rfl (run_load_ts rfl rfl hat6 rfl) ?_)
        | ((with_reducible show wpList _ _ _ (Oper.mk _ (Op.store 41 _ _) _ _ _ _ :: _) _ _); refine ts_store (g := w.heap.size + 1) (cs := tsa q O o D d) rfl rfl hR6 rfl rfl (ts_one _ _ _ _ _) ?_))
      have oO7 := own_setRow oO6 (g := w.heap.size + 1) (cs := tsa q O o D d) zR
      have oD7 := own_setRow oD6 (g := w.heap.size + 1) (cs := tsa q O o D d) (by omega)
      have b7 := below_row b6 (g := w.heap.size + 1) (cs := tsa q O o D d) (by omega)
      exact bodyPost_ret (results_cell_row rfl _ _ (w.heap.size + 1) 41 (tsa q O o D d) (0, 0) _ rfl (setRow_heap _ _ _ _ _ _ hR6) Tryz.underlying41 rfl (by kernel_rfl)) rfl ⟨O, o, D, d, by rw [HS.out]; rfl, by rw [HS.out]; exact Made.of_own (own_base oO7 (by omega)) b7, by rw [HS.out]; exact Made.of_own (own_base oD7 (by omega)) b7⟩
    have d1 : (bits .and .i64 q.flags 2 == 0) = false := by simpa using c1
    by_cases c4 : N ≤ n
    · have d4 : decide (N ≤ n) = true := by simpa using c4
      have HS := Lib.hid (sgT_no (q := q) (n := n) (by rintro ⟨_, _, _, _, h⟩; rw [← HN.out] at h; omega))
      clear c1
      go_wp2_with (first
        | ((with_reducible show wpList _ _ _ (Oper.mk (some 43) (Op.load 41 _) _ _ _ _ :: _) _ _); refine wpList_val rfl (run_load_ts rfl rfl hat6 rfl) ?_)
        | ((with_reducible show wpList _ _ _ (Oper.mk _ (Op.store 41 _ _) _ _ _ _ :: _) _ _); refine ts_store (g := w.heap.size + 1) (cs := tsa q O o D d) rfl rfl hR6 rfl rfl (ts_one _ _ _ _ _) ?_))
      have oO7 := own_setRow oO6 (g := w.heap.size + 1) (cs := tsa q O o D d) zR
      have oD7 := own_setRow oD6 (g := w.heap.size + 1) (cs := tsa q O o D d) (by omega)
      have b7 := below_row b6 (g := w.heap.size + 1) (cs := tsa q O o D d) (by omega)
      exact bodyPost_ret (results_cell_row rfl _ _ (w.heap.size + 1) 41 (tsa q O o D d) (0, 0) _ rfl (setRow_heap _ _ _ _ _ _ hR6) Tryz.underlying41 rfl (by kernel_rfl)) rfl ⟨O, o, D, d, by rw [HS.out]; rfl, by rw [HS.out]; exact Made.of_own (own_base oO7 (by omega)) b7, by rw [HS.out]; exact Made.of_own (own_base oD7 (by omega)) b7⟩
    have d4 : decide (N ≤ n) = false := by simpa using c4
    by_cases c2 : n < 0
    · have d2 : decide (n < 0) = true := by simpa using c2
      have HS := Lib.hid (sgT_no (q := q) (n := n) (by rintro ⟨_, h, _⟩; omega))
      clear c1
      go_wp2_with (first
        | ((with_reducible show wpList _ _ _ (Oper.mk (some 43) (Op.load 41 _) _ _ _ _ :: _) _ _); refine wpList_val rfl (run_load_ts rfl rfl hat6 rfl) ?_)
        | ((with_reducible show wpList _ _ _ (Oper.mk _ (Op.store 41 _ _) _ _ _ _ :: _) _ _); refine ts_store (g := w.heap.size + 1) (cs := tsa q O o D d) rfl rfl hR6 rfl rfl (ts_one _ _ _ _ _) ?_))
      have oO7 := own_setRow oO6 (g := w.heap.size + 1) (cs := tsa q O o D d) zR
      have oD7 := own_setRow oD6 (g := w.heap.size + 1) (cs := tsa q O o D d) (by omega)
      have b7 := below_row b6 (g := w.heap.size + 1) (cs := tsa q O o D d) (by omega)
      exact bodyPost_ret (results_cell_row rfl _ _ (w.heap.size + 1) 41 (tsa q O o D d) (0, 0) _ rfl (setRow_heap _ _ _ _ _ _ hR6) Tryz.underlying41 rfl (by kernel_rfl)) rfl ⟨O, o, D, d, by rw [HS.out]; rfl, by rw [HS.out]; exact Made.of_own (own_base oO7 (by omega)) b7, by rw [HS.out]; exact Made.of_own (own_base oD7 (by omega)) b7⟩
    have d2 : decide (n < 0) = false := by simpa using c2
    by_cases c3 : 65535 < n
    · have d3 : decide (65535 < n) = true := by simpa using c3
      have HS := Lib.hid (sgT_no (q := q) (n := n) (by rintro ⟨_, _, h, _⟩; omega))
      clear c1
      go_wp2_with (first
        | ((with_reducible show wpList _ _ _ (Oper.mk (some 43) (Op.load 41 _) _ _ _ _ :: _) _ _); refine wpList_val rfl (run_load_ts rfl rfl hat6 rfl) ?_)
        | ((with_reducible show wpList _ _ _ (Oper.mk _ (Op.store 41 _ _) _ _ _ _ :: _) _ _); refine ts_store (g := w.heap.size + 1) (cs := tsa q O o D d) rfl rfl hR6 rfl rfl (ts_one _ _ _ _ _) ?_))
      have oO7 := own_setRow oO6 (g := w.heap.size + 1) (cs := tsa q O o D d) zR
      have oD7 := own_setRow oD6 (g := w.heap.size + 1) (cs := tsa q O o D d) (by omega)
      have b7 := below_row b6 (g := w.heap.size + 1) (cs := tsa q O o D d) (by omega)
      exact bodyPost_ret (results_cell_row rfl _ _ (w.heap.size + 1) 41 (tsa q O o D d) (0, 0) _ rfl (setRow_heap _ _ _ _ _ _ hR6) Tryz.underlying41 rfl (by kernel_rfl)) rfl ⟨O, o, D, d, by rw [HS.out]; rfl, by rw [HS.out]; exact Made.of_own (own_base oO7 (by omega)) b7, by rw [HS.out]; exact Made.of_own (own_base oD7 (by omega)) b7⟩
    have d3 : decide (65535 < n) = false := by simpa using c3
    have HS := Lib.hid (show sgT q n = ⟨q.src, q.dst, q.seq, q.ack, q.res, q.flags, q.win, q.urg, setO q.opt a n, q.dat⟩ by
      rw [sgT_yes ⟨c1, by omega, by omega, HKt.out, by rw [← HN.out]; omega⟩, HA.out]; rfl)
    obtain ⟨g, rfl⟩ := own_some oO (by omega)
    clear c1
    go_upto_region 5 with fail
    obtain ⟨p0, f0, hgW, hgw6, -⟩ := own_cell oO6 (i := a + 2) (by omega)
    obtain ⟨p1, f1, -, -, -⟩ := own_cell oO6 (i := a + 3) (by omega)
    have eD : Int.tdiv n 256 = n / 256 := Int.tdiv_eq_ediv_of_nonneg (by omega)
    have eM : Int.tmod n 256 = n % 256 := Int.tmod_eq_emod_of_nonneg (by omega)
    have hg2 := hgO g rfl (by omega)
    have oO7a := own_put (i := a + 2) (n := n / 256) oO6
    have e7 : (q.opt.set (a + 2) (u8 (n / 256))).length = q.opt.length := by simp
    rw [← e7] at oO7a
    have oO7b := own_put (i := a + 3) (n := n) oO7a
    rw [e7] at oO7b
    have oO8 : ((w6.setCell ⟨g, a + 2, none⟩ (.int .u8 (n / 256 % 256))).setCell ⟨g, a + 3, none⟩ (.int .u8 (n % 256))).ownsRow W.heap.size 5 1 (.slice (some ⟨g, 0, none⟩) (setO q.opt a n).length o) (setO q.opt a n).length (row (setO q.opt a n)) := by rw [setO_len]; exact oO7b
    have oD8 := own_setCell (own_setCell oD6 (p := ⟨g, a + 2, none⟩) (u := .int .u8 (n / 256 % 256)) hg2) (p := ⟨g, a + 3, none⟩) (u := .int .u8 (n % 256)) hg2
    have hP8 := (heap_setCell_other (w6.setCell ⟨g, a + 2, none⟩ (.int .u8 (n / 256 % 256))) ⟨g, a + 3, none⟩ w.heap.size (.int .u8 (n % 256)) (by show w.heap.size ≠ g; omega)).trans ((heap_setCell_other w6 ⟨g, a + 2, none⟩ w.heap.size (.int .u8 (n / 256 % 256)) (by show w.heap.size ≠ g; omega)).trans hP6)
    have hR8 := (heap_setCell_other (w6.setCell ⟨g, a + 2, none⟩ (.int .u8 (n / 256 % 256))) ⟨g, a + 3, none⟩ (w.heap.size + 1) (.int .u8 (n % 256)) (by show w.heap.size + 1 ≠ g; omega)).trans ((heap_setCell_other w6 ⟨g, a + 2, none⟩ (w.heap.size + 1) (.int .u8 (n / 256 % 256)) (by show w.heap.size + 1 ≠ g; omega)).trans hR6)
    have b8 := (b6.setCell (p := ⟨g, a + 2, none⟩) (by show w.heap.size ≤ g; omega) (.int .u8 (n / 256 % 256))).setCell (p := ⟨g, a + 3, none⟩) (by show w.heap.size ≤ g; omega) (.int .u8 (n % 256))
    have p1' : (w6.setCell ⟨g, a + 2, none⟩ (.int .u8 (n / 256 % 256))).cell? ⟨g, a + 3, none⟩ = some (.int .u8 (byt (q.opt.set (a + 2) (u8 (n / 256))) (a + 3))) := (own_cell oO7a (i := a + 3) (by omega)).1
    have f1' : (w6.setCell ⟨g, a + 2, none⟩ (.int .u8 (n / 256 % 256))).frozen? ⟨g, a + 3, none⟩ = false := (own_cell oO7a (i := a + 3) (by omega)).2.1
    have kC : (w6.setCell ⟨g, a + 2, none⟩ (.int .u8 (n / 256 % 256))).cell? ⟨w.heap.size, 8, none⟩ = some (.slice (some ⟨g, 0, none⟩) q.opt.length o) := by
      rw [cell_of_row _ _ _ _ _ _ ((heap_setCell_other w6 ⟨g, a + 2, none⟩ w.heap.size (.int .u8 (n / 256 % 256)) (by show w.heap.size ≠ g; omega)).trans hP6)]; rfl
    have kE : ((w6.setCell ⟨g, a + 2, none⟩ (.int .u8 (n / 256 % 256))).setCell ⟨g, a + 3, none⟩ (.int .u8 (n % 256))).cell? ⟨w.heap.size, 8, none⟩ = some (.slice (some ⟨g, 0, none⟩) q.opt.length o) := by
      rw [cell_of_row _ _ _ _ _ _ hP8]; rfl
    have eL : ((setO q.opt a n).length) = q.opt.length := setO_len _ _ _
    clear eL oO7a oO7b e7
    refine wp_region_held_drew (S := fun w' => w'.cell? ⟨w.heap.size, 8, none⟩ = some (.slice (some ⟨g, 0, none⟩) q.opt.length o)) (by kernel_rfl) kO6 (fun hS => ?_)
    refine held_pure (i := 0) (oi := ⟨some 44, _, _, _, _, _⟩) rfl (by kernel_rfl) (by kernel_rfl) (by kernel_rfl) (fun _ _ _ h => h) (by rfl) (v := ?_) (fun w hSw => ?_) hS (fun hS => ?_)
    rotate_left
    · go_simp; try with_reducible rfl
    try go_frame
    refine held_pure (i := 1) (oi := ⟨some 45, _, _, _, _, _⟩) rfl (by kernel_rfl) (by kernel_rfl) (by kernel_rfl) (fun _ _ _ h => h) (by rfl) (fun w hSw => run_load_sl rfl rfl hSw) hS (fun hS => ?_)
    try go_frame
    refine held_pure (i := 2) (oi := ⟨some 46, _, _, _, _, _⟩) rfl (by kernel_rfl) (by kernel_rfl) (by kernel_rfl) (fun _ _ _ h => h) (by rfl) (v := ?_) (fun w hSw => ?_) hS (fun hS => ?_)
    rotate_left
    · go_simp; try with_reducible rfl
    try go_frame
    refine held_pure (i := 3) (oi := ⟨some 47, _, _, _, _, _⟩) rfl (by kernel_rfl) (by kernel_rfl) (by kernel_rfl) (fun _ _ _ h => h) (by rfl) (v := .int .i64 ((a : Int) + 2)) (fun w hSw => by go_simp; first | done | (rw [IntKind.wrap_i64]; omega)) hS (fun hS => ?_)
    try go_frame
    refine held_pure (i := 4) (oi := ⟨some 48, _, _, _, _, _⟩) rfl (by kernel_rfl) (by kernel_rfl) (by kernel_rfl) (fun _ _ _ h => h) (by rfl) (v := ?_) (fun w hSw => ?_) hS (fun hS => ?_)
    rotate_left
    · go_simp; try with_reducible rfl
    try go_frame
    refine held_pure (i := 5) (oi := ⟨some 49, _, _, _, _, _⟩) rfl (by kernel_rfl) (by kernel_rfl) (by kernel_rfl) (fun _ _ _ h => h) (by rfl) (fun w hSw => run_load_sl rfl rfl hSw) hS (fun hS => ?_)
    try go_frame
    refine held_pure (i := 6) (oi := ⟨some 50, _, _, _, _, _⟩) rfl (by kernel_rfl) (by kernel_rfl) (by kernel_rfl) (fun _ _ _ h => h) (by rfl) (v := ?_) (fun w hSw => ?_) hS (fun hS => ?_)
    rotate_left
    · go_simp; try with_reducible rfl
    try go_frame
    refine held_pure (i := 7) (oi := ⟨some 51, _, _, _, _, _⟩) rfl (by kernel_rfl) (by kernel_rfl) (by kernel_rfl) (fun _ _ _ h => h) (by rfl) (v := .int .i64 ((a : Int) + 3)) (fun w hSw => by go_simp; first | done | (rw [IntKind.wrap_i64]; omega)) hS (fun hS => ?_)
    try go_frame
    refine held_pure (i := 8) (oi := ⟨some 52, _, _, _, _, _⟩) rfl (by kernel_rfl) (by kernel_rfl) (by kernel_rfl) (fun _ _ _ h => h) (by rfl) (v := ?_) (fun w hSw => ?_) hS (fun hS => ?_)
    rotate_left
    · go_simp; try with_reducible rfl
    try go_frame
    refine held_pure (i := 9) (oi := ⟨some 53, _, _, _, _, _⟩) rfl (by kernel_rfl) (by kernel_rfl) (by kernel_rfl) (fun _ _ _ h => h) (by rfl) (v := ?_) (fun w hSw => ?_) hS (fun hS => ?_)
    rotate_left
    · go_simp; try with_reducible rfl
    try go_frame
    refine held_pure (i := 10) (oi := ⟨some 54, _, _, _, _, _⟩) rfl (by kernel_rfl) (by kernel_rfl) (by kernel_rfl) (fun _ _ _ h => h) (by rfl) (v := .int .u8 (n / 256 % 256)) (fun w hSw => by go_simp; first | done | (simp only [IntKind.wrap_u8, IntKind.wrap_i64]; omega)) hS (fun hS => ?_)
    try go_frame
    refine held_pure (i := 11) (oi := ⟨some 55, _, _, _, _, _⟩) rfl (by kernel_rfl) (by kernel_rfl) (by kernel_rfl) (fun _ _ _ h => h) (by rfl) (v := ?_) (fun w hSw => ?_) hS (fun hS => ?_)
    rotate_left
    · go_simp; try with_reducible rfl
    try go_frame
    refine held_pure (i := 12) (oi := ⟨some 56, _, _, _, _, _⟩) rfl (by kernel_rfl) (by kernel_rfl) (by kernel_rfl) (fun _ _ _ h => h) (by rfl) (v := ?_) (fun w hSw => ?_) hS (fun hS => ?_)
    rotate_left
    · go_simp; try with_reducible rfl
    try go_frame
    refine held_pure (i := 13) (oi := ⟨some 57, _, _, _, _, _⟩) rfl (by kernel_rfl) (by kernel_rfl) (by kernel_rfl) (fun _ _ _ h => h) (by rfl) (v := .int .u8 (n % 256)) (fun w hSw => by go_simp; first | done | (simp only [IntKind.wrap_u8]; omega)) hS (fun hS => ?_)
    try go_frame
    refine held_pure (i := 14) (oi := ⟨some 58, _, _, _, _, _⟩) rfl (by kernel_rfl) (by kernel_rfl) (by kernel_rfl) (fun _ _ _ h => h) (by rfl) (v := Value.pointer (some ⟨g, a + 2, none⟩)) (fun w hSw => by go_simp; rw [if_pos ⟨by omega, by omega⟩, show ((a : Int) + 2).toNat = a + 2 from by omega]) hS (fun hS => ?_)
    try go_frame
    refine wpAnyH_ready (rs := [15]) (by kernel_rfl) (by simp) (AllReadyH.cons (o := ⟨none, _, _, _, _, _⟩) rfl (fun K hK => ?_) AllReadyH.nil)
    rw [if_pos (by rfl)]
    refine store_u8_wp rfl rfl rfl (show w6.drew.cell? ⟨g, a + 2, none⟩ = _ from p0) f0 ?_
    refine hK.out _ _ kC (fun hS => ?_)
    clear hK K
    try go_frame
    refine held_pure (i := 16) (oi := ⟨some 59, _, _, _, _, _⟩) rfl (by kernel_rfl) (by kernel_rfl) (by kernel_rfl) (fun _ _ _ h => h) (by rfl) (v := Value.pointer (some ⟨g, a + 3, none⟩)) (fun w hSw => by go_simp; rw [if_pos ⟨by omega, by omega⟩, show ((a : Int) + 3).toNat = a + 3 from by omega]) hS (fun hS => ?_)
    try go_frame
    refine wpAnyH_ready (rs := [17]) (by kernel_rfl) (by simp) (AllReadyH.cons (o := ⟨none, _, _, _, _, _⟩) rfl (fun K hK => ?_) AllReadyH.nil)
    rw [if_pos (by rfl)]
    refine store_u8_wp rfl rfl rfl p1' f1' ?_
    refine hK.out _ _ kE (fun hS => ?_)
    clear hK K
    try go_frame
    refine wpAnyH_done (by kernel_rfl) ?_ _
    have hP9 : ((w6.drew.setCell ⟨g, a + 2, none⟩ (.int .u8 (n / 256 % 256))).setCell ⟨g, a + 3, none⟩ (.int .u8 (n % 256))).heap[w.heap.size]? = some (.cells (tsa q (some ⟨g, 0, none⟩) o D d) 41 (0, 0)) := hP8
    have hR9 : ((w6.drew.setCell ⟨g, a + 2, none⟩ (.int .u8 (n / 256 % 256))).setCell ⟨g, a + 3, none⟩ (.int .u8 (n % 256))).heap[w.heap.size + 1]? = some (.cells (tsa tsz none 0 none 0) 41 (0, 0)) := hR8
    have oO9 : ((w6.drew.setCell ⟨g, a + 2, none⟩ (.int .u8 (n / 256 % 256))).setCell ⟨g, a + 3, none⟩ (.int .u8 (n % 256))).ownsRow W.heap.size 5 1 (.slice (some ⟨g, 0, none⟩) (setO q.opt a n).length o) (setO q.opt a n).length (row (setO q.opt a n)) := oO8
    have oD9 : ((w6.drew.setCell ⟨g, a + 2, none⟩ (.int .u8 (n / 256 % 256))).setCell ⟨g, a + 3, none⟩ (.int .u8 (n % 256))).ownsRow w2.heap.size 5 1 (.slice D q.dat.length d) q.dat.length (row q.dat) := oD8
    have b9 : Below w.heap.size w ((w6.drew.setCell ⟨g, a + 2, none⟩ (.int .u8 (n / 256 % 256))).setCell ⟨g, a + 3, none⟩ (.int .u8 (n % 256))) := ((b6.drew).setCell (p := ⟨g, a + 2, none⟩) (by show w.heap.size ≤ g; omega) (.int .u8 (n / 256 % 256))).setCell (p := ⟨g, a + 3, none⟩) (by show w.heap.size ≤ g; omega) (.int .u8 (n % 256))
    clear hP8 hR8 oO8 oD8 b8 hS kC kE p0 p1 f0 f1 p1' f1'
    generalize ((w6.drew.setCell ⟨g, a + 2, none⟩ (.int .u8 (n / 256 % 256))).setCell ⟨g, a + 3, none⟩ (.int .u8 (n % 256))) = w8 at *
    have hat8 := Atts.of_heap hP9
    go_wp2_with (first
      | ((with_reducible show wpList _ _ _ (Oper.mk (some 60) (Op.load 41 _) _ _ _ _ :: _) _ _); refine wpList_val rfl (run_load_ts rfl rfl hat8 rfl) ?_)
      | ((with_reducible show wpList _ _ _ (Oper.mk _ (Op.store 41 _ _) _ _ _ _ :: _) _ _); refine ts_store (g := w.heap.size + 1) (cs := tsa q (some ⟨g, 0, none⟩) o D d) rfl rfl hR9 rfl rfl (ts_one _ _ _ _ _) ?_))
    have oO7 := own_setRow oO9 (g := w.heap.size + 1) (cs := tsa q (some ⟨g, 0, none⟩) o D d) zR
    have oD7 := own_setRow oD9 (g := w.heap.size + 1) (cs := tsa q (some ⟨g, 0, none⟩) o D d) (by omega)
    have b7 := below_row b9 (g := w.heap.size + 1) (cs := tsa q (some ⟨g, 0, none⟩) o D d) (by omega)
    exact bodyPost_ret (results_cell_row rfl _ _ (w.heap.size + 1) 41 (tsa q (some ⟨g, 0, none⟩) o D d) (0, 0) _ rfl (setRow_heap _ _ _ _ _ _ hR9) Tryz.underlying41 rfl (by kernel_rfl)) rfl ⟨some ⟨g, 0, none⟩, o, D, d, by rw [HS.out]; exact congrArg (fun x => Ending.returned (Value.agg x)) (tsa_opt q _ _ _ _ _ (setO_len _ _ _)).symm, by rw [HS.out]; exact Made.of_own (own_base oO7 (by omega)) b7, by rw [HS.out]; exact Made.of_own (own_base oD7 (by omega)) b7⟩
end
end Go.Proofs.YtodlfdnegcfhcaaGreat
