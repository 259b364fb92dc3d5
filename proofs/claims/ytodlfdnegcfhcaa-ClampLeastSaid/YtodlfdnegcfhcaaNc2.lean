/-
  Contracts and lemmas on which the proofs of this seat stand (several texts in one). Conditions are each theorem's own.
-/
import Derived.Test.YtodlfdnegcfhcaaNc1
import Derived.Test.YtodlfdnegcfhcaaNa2

/-
  A packet whose segment's greatest size is held. Conditions are each theorem's own.
-/
namespace Go.Proofs.Ytodlfdnegcfhcaa
open Go.RowKit

theorem pk_dat {q : P4} {n : Int} (h : ofE q = 0) (hk : q.proto = 6) : pkP q n = datP q (bldT q.src q.dst (sgT (inT q) n)) := by
  rw [pkP, if_pos ⟨h, hk⟩]; simp [nwP, nwD, datP, hk]
theorem pk_no {q : P4} {n : Int} (h : ¬ (ofE q = 0 ∧ q.proto = 6)) : pkP q n = q := if_neg h
section
variable (q : P4) (A : Option Addr) (c : Nat) (A' : Option Addr) (c' : Nat) (w : World)
set_option maxRecDepth 100000 in
set_option maxHeartbeats 4000000 in
theorem c12pkE (ho : q.opt.length ≤ 1000000) (hl : q.dat.length ≤ 900000) (B : Nat) (hO : Arg w B A c q.opt) (hD : Arg w B A' c' q.dat) (hB0 : B ≤ w.heap.size) (n : Int) (he : ofE q ≠ 0) : Calls Try.prog 7 #[v4v q A c A' c', .int .i64 n] w fun e w' => ∃ P p P' p', e = .returned (v4v (q) P p P' p') ∧ Made w w' (.slice P (q).opt.length p) (q).opt ∧ Made w w' (.slice P' (q).dat.length p') (q).dat := by
  obtain ⟨E, hE⟩ : ∃ y, y = ofE q := ⟨_, rfl⟩
  have HE := Lib.hid hE
  have HV := Lib.hid (show ofV q = prA 0 0 0 by rw [ofV, if_neg he])
  have dE : (E != 0) = true := by simpa [hE] using he
  clear he hE
  rw [v4q_eq]
  have hB : Below w.heap.size w ((w.alloc (.cells (v4a q A c A' c') 25)).alloc (.cells (v4a p4z none 0 none 0) 25)) := below_two w _ _
  have hP0 : ((w.alloc (.cells (v4a q A c A' c') 25)).alloc (.cells (v4a p4z none 0 none 0) 25)).heap[w.heap.size]? = some (.cells (v4a q A c A' c') 25 (0, 0)) := (Below.heap_alloc (w.alloc (.cells (v4a q A c A' c') 25)) _ w.heap.size (by simp)).trans (World.alloc_heap_new w _)
  have hR0 : ((w.alloc (.cells (v4a q A c A' c') 25)).alloc (.cells (v4a p4z none 0 none 0) 25)).heap[w.heap.size + 1]? = some (.cells (v4a p4z none 0 none 0) 25 (0, 0)) := by
    have := World.alloc_heap_new (w.alloc (.cells (v4a q A c A' c') 25)) (.cells (v4a p4z none 0 none 0) 25)
    rwa [World.size_alloc] at this
  go_enter Try.func7, Try.ntmps7
  go_upto_region 1 with fail
  rw [show #[.int .i64 0, .int .i64 0, .int .i64 0, .int .i64 0, .int .i64 0, .int .i64 0, .int .i64 0, .bool false, .bool false, .slice none 0 0, .slice none 0 0] = v4a p4z none 0 none 0 from rfl]
  generalize (w.alloc (.cells (v4a q A c A' c') 25)).alloc (.cells (v4a p4z none 0 none 0) 25) = W at *
  have hO1 := hO.below (hB.mono hB0)
  have hD1 := hD.below (hB.mono hB0)
  have zW := Nat.le_trans hB0 hB.size
  have zP := heap_lt hP0
  have zR := heap_lt hR0
  have kO0 := (At4.of_heap hP0).opt
  have kD0 := (At4.of_heap hP0).dat
  refine wp_region_held_drew (S := fun _ => True) (by kernel_rfl) trivial (fun hS => ?_)
  refine held_pure (i := 0) (oi := ⟨some 9, _, _, _, _, _⟩) rfl (by kernel_rfl) (by kernel_rfl) (by kernel_rfl) (fun _ _ _ h => h) (by rfl) (v := ?_) (fun w hSw => ?_) hS (fun hS => ?_)
  rotate_left
  · go_simp; try with_reducible rfl
  try go_frame
  refine held_pure (i := 3) (oi := ⟨some 12, _, _, _, _, _⟩) rfl (by kernel_rfl) (by kernel_rfl) (by kernel_rfl) (fun _ _ _ h => h) (by rfl) (v := ?_) (fun w hSw => ?_) hS (fun hS => ?_)
  rotate_left
  · go_simp; try with_reducible rfl
  try go_frame
  refine wpAnyH_ready (rs := [1, 4]) (by kernel_rfl) (by simp) (AllReadyH.cons (o := ⟨some 10, _, _, _, _, _⟩) rfl (fun K hK => ?_) (AllReadyH.cons (o := ⟨some 13, _, _, _, _, _⟩) rfl (fun K hK => ?_) AllReadyH.nil))
  · rw [if_pos (by rfl)]
    refine wp_val (v := .slice A q.opt.length c) (by first | exact run_load_sl rfl rfl kO0) ?_
    refine hK.out _ _ trivial (fun hS => ?_)
    clear hK K
    try go_frame
    refine wpAnyH_ready (rs := [2, 4]) (by kernel_rfl) (by simp) (AllReadyH.cons (o := ⟨some 11, _, _, _, _, _⟩) rfl (fun K hK => ?_) (AllReadyH.cons (o := ⟨some 13, _, _, _, _, _⟩) rfl (fun K hK => ?_) AllReadyH.nil))
    · rw [if_pos (by rfl)]
      go_simp
      refine (clone_any A q.opt c B _ (hO1.below (Below.refl _ W).drew) zW (by omega)).mono ?_
      rintro e w2 ⟨v2, rfl, m2⟩
      obtain ⟨O, o, rfl, g2, o2, y2⟩ := made_shape m2
      clear m2 g2
      have o2 : w2.ownsRow W.heap.size 5 1 (.slice O q.opt.length o) q.opt.length (row q.opt) := o2
      have x2 : Below W.heap.size W w2 := (Below.refl _ W).drew.trans y2
      have hP2 := (x2.block w.heap.size zP).trans hP0
      have hR2 := (x2.block (w.heap.size + 1) zR).trans hR0
      have kD2 := (At4.of_heap hP2).dat
      have hD2 := hD1.below (x2.mono zW)
      have hgO : ∀ g, O = some ⟨g, 0, none⟩ → 0 < q.opt.length → g < w2.heap.size := fun g e hl => by { subst e; exact (own_cell o2 (i := 0) hl).2.2.2.1 }
      show K _ _
      refine hK.out _ _ trivial (fun hS => ?_)
      clear hK K
      try go_frame
      refine wpAnyH_ready (rs := [4]) (by kernel_rfl) (by simp) (AllReadyH.cons (o := ⟨some 13, _, _, _, _, _⟩) rfl (fun K hK => ?_) AllReadyH.nil)
      rw [if_pos (by rfl)]
      refine wp_val (v := .slice A' q.dat.length c') (by first | exact run_load_sl rfl rfl kD0 | exact run_load_sl rfl rfl kD2) ?_
      refine hK.out _ _ trivial (fun hS => ?_)
      clear hK K
      try go_frame
      refine held_pure (i := 6) (oi := ⟨some 15, _, _, _, _, _⟩) rfl (by kernel_rfl) (by kernel_rfl) (by kernel_rfl) (fun _ _ _ h => h) (by rfl) (v := ?_) (fun w hSw => ?_) hS (fun hS => ?_)
      rotate_left
      · go_simp; try with_reducible rfl
      try go_frame
      refine wpAnyH_ready (rs := [5]) (by kernel_rfl) (by simp) (AllReadyH.cons (o := ⟨some 14, _, _, _, _, _⟩) rfl (fun K hK => ?_) AllReadyH.nil)
      rw [if_pos (by rfl)]
      go_simp
      refine (clone_any A' q.dat c' B _ hD2 (Nat.le_trans zW x2.size) (by omega)).mono ?_
      rintro e w3 ⟨v3, rfl, m3⟩
      obtain ⟨D, d, rfl, g3, o3, y3⟩ := made_shape m3
      clear m3 g3
      have hP3 := (y3.block w.heap.size (heap_lt hP2)).trans hP2
      have hR3 := (y3.block (w.heap.size + 1) (heap_lt hR2)).trans hR2
      have oO3 := own_below o2 y3
      have kO3 := (At4.of_heap hP3).opt
      have fO3 := heap_frozen hP3 9
      have x3 := x2.trans (y3.mono x2.size)
      have zx2 := x2.size
      show K _ _
      refine hK.out _ _ trivial (fun hS => ?_)
      clear hK K
      try go_frame
      refine wpAnyH_ready (rs := [7]) (by kernel_rfl) (by simp) (AllReadyH.cons (o := ⟨none, _, _, _, _, _⟩) rfl (fun K hK => ?_) AllReadyH.nil)
      rw [if_pos (by rfl)]
      refine store_sl_wp rfl rfl rfl kO3 fO3 ?_
      have hP4 : (w3.setCell ⟨w.heap.size, 9, none⟩ (.slice O q.opt.length o)).heap[w.heap.size]? = some (.cells (v4a q O o A' c') 25 (0, 0)) := heap_setCell_same w3 w.heap.size 9 _ _ (.slice O q.opt.length o) hP3
      have hR4 := (heap_setCell_other w3 ⟨w.heap.size, 9, none⟩ (w.heap.size + 1) (.slice O q.opt.length o) (by show w.heap.size + 1 ≠ w.heap.size; omega)).trans hR3
      have kD4 := (At4.of_heap hP4).dat
      have fD4 := heap_frozen hP4 10
      have oO4 := own_setCell oO3 (p := ⟨w.heap.size, 9, none⟩) (u := .slice O q.opt.length o) zP
      have oD4 := own_setCell o3 (p := ⟨w.heap.size, 9, none⟩) (u := .slice O q.opt.length o) (Nat.lt_of_lt_of_le zP zx2)
      have b4 := (hB.trans (x3.mono hB.size)).setCell (p := ⟨w.heap.size, 9, none⟩) (Nat.le_refl _) (.slice O q.opt.length o)
      clear hP2 hR2 kD2 hD2 hP3 hR3 oO3 kO3 fO3 o2 o3 y2 y3
      generalize w3.setCell ⟨w.heap.size, 9, none⟩ (.slice O q.opt.length o) = V4 at *
      refine hK.out _ _ trivial (fun hS => ?_)
      clear hK K
      try go_frame
      refine held_pure (i := 8) (oi := ⟨some 16, _, _, _, _, _⟩) rfl (by kernel_rfl) (by kernel_rfl) (by kernel_rfl) (fun _ _ _ h => h) (by rfl) (v := ?_) (fun w hSw => ?_) hS (fun hS => ?_)
      rotate_left
      · go_simp; try with_reducible rfl
      try go_frame
      refine wpAnyH_ready (rs := [9]) (by kernel_rfl) (by simp) (AllReadyH.cons (o := ⟨none, _, _, _, _, _⟩) rfl (fun K hK => ?_) AllReadyH.nil)
      rw [if_pos (by rfl)]
      refine store_sl_wp rfl rfl rfl kD4 fD4 ?_
      have hP : (V4.setCell ⟨w.heap.size, 10, none⟩ (.slice D q.dat.length d)).heap[w.heap.size]? = some (.cells (v4a q O o D d) 25 (0, 0)) := heap_setCell_same V4 w.heap.size 10 _ _ (.slice D q.dat.length d) hP4
      have hR := (heap_setCell_other V4 ⟨w.heap.size, 10, none⟩ (w.heap.size + 1) (.slice D q.dat.length d) (by show w.heap.size + 1 ≠ w.heap.size; omega)).trans hR4
      have oO := own_setCell oO4 (p := ⟨w.heap.size, 10, none⟩) (u := .slice D q.dat.length d) zP
      have oD := own_setCell oD4 (p := ⟨w.heap.size, 10, none⟩) (u := .slice D q.dat.length d) (Nat.lt_of_lt_of_le zP zx2)
      have bV := b4.setCell (p := ⟨w.heap.size, 10, none⟩) (Nat.le_refl _) (.slice D q.dat.length d)
      clear hP4 hR4 kD4 fD4 oO4 oD4 b4 hP0 hR0 hO1 hD1 kO0 kD0 x2 x3
      generalize V4.setCell ⟨w.heap.size, 10, none⟩ (.slice D q.dat.length d) = V at *
      have hat := At4.of_heap hP
      have gO := arg_own oO
      have gD := arg_own oD
      refine hK.out _ _ trivial (fun hS => ?_)
      clear hK K
      try go_frame
      refine wpAnyH_done (by kernel_rfl) ?_ _
      go_upto_region 3 with (first
        | ((with_reducible show wpList _ _ _ (Oper.mk (some 18) (Op.load 25 _) _ _ _ _ :: _) _ _); refine wpList_val rfl (run_load_v4 rfl rfl hat rfl) ?_)
        | (go_at_call 8; refine (cOf q O o D d V ho hl V.heap.size gD (Nat.le_refl _)).mono ?_; rintro e w5 ⟨rfl, x5⟩; rw [HV.out, ← HE.out])
        | ((with_reducible show wpList _ _ _ (Oper.mk _ (Op.store 31 _ _) _ _ _ _ :: _) _ _); refine pr_store_new (cs := prA 0 0 0) rfl rfl rfl rfl (prA_one _ _ _) ?_))
      have j5 : Below w5.heap.size w5 (w5.alloc (.cells (prA 0 0 0) 31)) := (Below.refl _ w5).alloc (Nat.le_refl _) _
      have kp : (w5.alloc (.cells (prA 0 0 0) 31)).cell? ⟨w5.heap.size, 0, none⟩ = some (.int .i64 0) := range_new w5 (prA 0 0 0) _ 0 _ rfl
      have x5j := x5.trans (j5.mono x5.size)
      have hP5 := (x5j.block w.heap.size (heap_lt hP)).trans hP
      have hR5 := (x5j.block (w.heap.size + 1) (heap_lt hR)).trans hR
      have hat5 := At4.of_heap hP5
      have kq4 := hat5.proto
      have oO5 := own_below oO x5j
      have oD5 := own_below oD x5j
      have b5 := bV.trans (x5j.mono bV.size)
      generalize w5.alloc (.cells (prA 0 0 0) 31) = X5 at *
      clear hat gO gD x5 j5 x5j oO oD bV hP hR
      go_wp2_with (first
        | ((with_reducible show wpList _ _ _ (Oper.mk (some 29) (Op.load 25 _) _ _ _ _ :: _) _ _); refine wpList_val rfl (run_load_v4 rfl rfl hat5 rfl) ?_)
        | ((with_reducible show wpList _ _ _ (Oper.mk _ (Op.store 25 _ _) _ _ _ _ :: _) _ _); refine v4_store (g := w.heap.size + 1) (cs := v4a q O o D d) rfl rfl hR5 rfl rfl (v4a_one _ _ _ _ _) ?_))
      have oO7 := own_setRow oO5 (g := w.heap.size + 1) (cs := v4a q O o D d) (by omega)
      have oD7 := own_setRow oD5 (g := w.heap.size + 1) (cs := v4a q O o D d) (by omega)
      have b7 := below_row b5 (g := w.heap.size + 1) (cs := v4a q O o D d) (by omega)
      exact bodyPost_ret (results_cell_row rfl _ _ (w.heap.size + 1) 25 (v4a q O o D d) (0, 0) _ rfl (setRow_heap _ _ _ _ _ _ hR5) Try.underlying25 rfl (by kernel_rfl)) rfl ⟨O, o, D, d, rfl, Made.of_own (own_base oO7 (by omega)) b7, Made.of_own (own_base oD7 (by omega)) b7⟩
    · rw [if_pos (by rfl)]
      refine wp_val (v := .slice A' q.dat.length c') (by first | exact run_load_sl rfl rfl kD0 | exact run_load_sl rfl rfl kD2) ?_
      refine hK.out _ _ trivial (fun hS => ?_)
      clear hK K
      try go_frame
      refine wpAnyH_ready (rs := [2]) (by kernel_rfl) (by simp) (AllReadyH.cons (o := ⟨some 11, _, _, _, _, _⟩) rfl (fun K hK => ?_) AllReadyH.nil)
      rw [if_pos (by rfl)]
      go_simp
      refine (clone_any A q.opt c B _ (hO1.below (Below.refl _ W).drew) zW (by omega)).mono ?_
      rintro e w2 ⟨v2, rfl, m2⟩
      obtain ⟨O, o, rfl, g2, o2, y2⟩ := made_shape m2
      clear m2 g2
      have o2 : w2.ownsRow W.heap.size 5 1 (.slice O q.opt.length o) q.opt.length (row q.opt) := o2
      have x2 : Below W.heap.size W w2 := (Below.refl _ W).drew.trans y2
      have hP2 := (x2.block w.heap.size zP).trans hP0
      have hR2 := (x2.block (w.heap.size + 1) zR).trans hR0
      have kD2 := (At4.of_heap hP2).dat
      have hD2 := hD1.below (x2.mono zW)
      have hgO : ∀ g, O = some ⟨g, 0, none⟩ → 0 < q.opt.length → g < w2.heap.size := fun g e hl => by { subst e; exact (own_cell o2 (i := 0) hl).2.2.2.1 }
      show K _ _
      refine hK.out _ _ trivial (fun hS => ?_)
      clear hK K
      try go_frame
      refine held_pure (i := 6) (oi := ⟨some 15, _, _, _, _, _⟩) rfl (by kernel_rfl) (by kernel_rfl) (by kernel_rfl) (fun _ _ _ h => h) (by rfl) (v := ?_) (fun w hSw => ?_) hS (fun hS => ?_)
      rotate_left
      · go_simp; try with_reducible rfl
      try go_frame
      refine wpAnyH_ready (rs := [5]) (by kernel_rfl) (by simp) (AllReadyH.cons (o := ⟨some 14, _, _, _, _, _⟩) rfl (fun K hK => ?_) AllReadyH.nil)
      rw [if_pos (by rfl)]
      go_simp
      refine (clone_any A' q.dat c' B _ hD2 (Nat.le_trans zW x2.size) (by omega)).mono ?_
      rintro e w3 ⟨v3, rfl, m3⟩
      obtain ⟨D, d, rfl, g3, o3, y3⟩ := made_shape m3
      clear m3 g3
      have hP3 := (y3.block w.heap.size (heap_lt hP2)).trans hP2
      have hR3 := (y3.block (w.heap.size + 1) (heap_lt hR2)).trans hR2
      have oO3 := own_below o2 y3
      have kO3 := (At4.of_heap hP3).opt
      have fO3 := heap_frozen hP3 9
      have x3 := x2.trans (y3.mono x2.size)
      have zx2 := x2.size
      show K _ _
      refine hK.out _ _ trivial (fun hS => ?_)
      clear hK K
      try go_frame
      refine wpAnyH_ready (rs := [7]) (by kernel_rfl) (by simp) (AllReadyH.cons (o := ⟨none, _, _, _, _, _⟩) rfl (fun K hK => ?_) AllReadyH.nil)
      rw [if_pos (by rfl)]
      refine store_sl_wp rfl rfl rfl kO3 fO3 ?_
      have hP4 : (w3.setCell ⟨w.heap.size, 9, none⟩ (.slice O q.opt.length o)).heap[w.heap.size]? = some (.cells (v4a q O o A' c') 25 (0, 0)) := heap_setCell_same w3 w.heap.size 9 _ _ (.slice O q.opt.length o) hP3
      have hR4 := (heap_setCell_other w3 ⟨w.heap.size, 9, none⟩ (w.heap.size + 1) (.slice O q.opt.length o) (by show w.heap.size + 1 ≠ w.heap.size; omega)).trans hR3
      have kD4 := (At4.of_heap hP4).dat
      have fD4 := heap_frozen hP4 10
      have oO4 := own_setCell oO3 (p := ⟨w.heap.size, 9, none⟩) (u := .slice O q.opt.length o) zP
      have oD4 := own_setCell o3 (p := ⟨w.heap.size, 9, none⟩) (u := .slice O q.opt.length o) (Nat.lt_of_lt_of_le zP zx2)
      have b4 := (hB.trans (x3.mono hB.size)).setCell (p := ⟨w.heap.size, 9, none⟩) (Nat.le_refl _) (.slice O q.opt.length o)
      clear hP2 hR2 kD2 hD2 hP3 hR3 oO3 kO3 fO3 o2 o3 y2 y3
      generalize w3.setCell ⟨w.heap.size, 9, none⟩ (.slice O q.opt.length o) = V4 at *
      refine hK.out _ _ trivial (fun hS => ?_)
      clear hK K
      try go_frame
      refine held_pure (i := 8) (oi := ⟨some 16, _, _, _, _, _⟩) rfl (by kernel_rfl) (by kernel_rfl) (by kernel_rfl) (fun _ _ _ h => h) (by rfl) (v := ?_) (fun w hSw => ?_) hS (fun hS => ?_)
      rotate_left
      · go_simp; try with_reducible rfl
      try go_frame
      refine wpAnyH_ready (rs := [9]) (by kernel_rfl) (by simp) (AllReadyH.cons (o := ⟨none, _, _, _, _, _⟩) rfl (fun K hK => ?_) AllReadyH.nil)
      rw [if_pos (by rfl)]
      refine store_sl_wp rfl rfl rfl kD4 fD4 ?_
      have hP : (V4.setCell ⟨w.heap.size, 10, none⟩ (.slice D q.dat.length d)).heap[w.heap.size]? = some (.cells (v4a q O o D d) 25 (0, 0)) := heap_setCell_same V4 w.heap.size 10 _ _ (.slice D q.dat.length d) hP4
      have hR := (heap_setCell_other V4 ⟨w.heap.size, 10, none⟩ (w.heap.size + 1) (.slice D q.dat.length d) (by show w.heap.size + 1 ≠ w.heap.size; omega)).trans hR4
      have oO := own_setCell oO4 (p := ⟨w.heap.size, 10, none⟩) (u := .slice D q.dat.length d) zP
      have oD := own_setCell oD4 (p := ⟨w.heap.size, 10, none⟩) (u := .slice D q.dat.length d) (Nat.lt_of_lt_of_le zP zx2)
      have bV := b4.setCell (p := ⟨w.heap.size, 10, none⟩) (Nat.le_refl _) (.slice D q.dat.length d)
      clear hP4 hR4 kD4 fD4 oO4 oD4 b4 hP0 hR0 hO1 hD1 kO0 kD0 x2 x3
      generalize V4.setCell ⟨w.heap.size, 10, none⟩ (.slice D q.dat.length d) = V at *
      have hat := At4.of_heap hP
      have gO := arg_own oO
      have gD := arg_own oD
      refine hK.out _ _ trivial (fun hS => ?_)
      clear hK K
      try go_frame
      refine wpAnyH_done (by kernel_rfl) ?_ _
      go_upto_region 3 with (first
        | ((with_reducible show wpList _ _ _ (Oper.mk (some 18) (Op.load 25 _) _ _ _ _ :: _) _ _); refine wpList_val rfl (run_load_v4 rfl rfl hat rfl) ?_)
        | (go_at_call 8; refine (cOf q O o D d V ho hl V.heap.size gD (Nat.le_refl _)).mono ?_; rintro e w5 ⟨rfl, x5⟩; rw [HV.out, ← HE.out])
        | ((with_reducible show wpList _ _ _ (Oper.mk _ (Op.store 31 _ _) _ _ _ _ :: _) _ _); refine pr_store_new (cs := prA 0 0 0) rfl rfl rfl rfl (prA_one _ _ _) ?_))
      have j5 : Below w5.heap.size w5 (w5.alloc (.cells (prA 0 0 0) 31)) := (Below.refl _ w5).alloc (Nat.le_refl _) _
      have kp : (w5.alloc (.cells (prA 0 0 0) 31)).cell? ⟨w5.heap.size, 0, none⟩ = some (.int .i64 0) := range_new w5 (prA 0 0 0) _ 0 _ rfl
      have x5j := x5.trans (j5.mono x5.size)
      have hP5 := (x5j.block w.heap.size (heap_lt hP)).trans hP
      have hR5 := (x5j.block (w.heap.size + 1) (heap_lt hR)).trans hR
      have hat5 := At4.of_heap hP5
      have kq4 := hat5.proto
      have oO5 := own_below oO x5j
      have oD5 := own_below oD x5j
      have b5 := bV.trans (x5j.mono bV.size)
      generalize w5.alloc (.cells (prA 0 0 0) 31) = X5 at *
      clear hat gO gD x5 j5 x5j oO oD bV hP hR
      go_wp2_with (first
        | ((with_reducible show wpList _ _ _ (Oper.mk (some 29) (Op.load 25 _) _ _ _ _ :: _) _ _); refine wpList_val rfl (run_load_v4 rfl rfl hat5 rfl) ?_)
        | ((with_reducible show wpList _ _ _ (Oper.mk _ (Op.store 25 _ _) _ _ _ _ :: _) _ _); refine v4_store (g := w.heap.size + 1) (cs := v4a q O o D d) rfl rfl hR5 rfl rfl (v4a_one _ _ _ _ _) ?_))
      have oO7 := own_setRow oO5 (g := w.heap.size + 1) (cs := v4a q O o D d) (by omega)
      have oD7 := own_setRow oD5 (g := w.heap.size + 1) (cs := v4a q O o D d) (by omega)
      have b7 := below_row b5 (g := w.heap.size + 1) (cs := v4a q O o D d) (by omega)
      exact bodyPost_ret (results_cell_row rfl _ _ (w.heap.size + 1) 25 (v4a q O o D d) (0, 0) _ rfl (setRow_heap _ _ _ _ _ _ hR5) Try.underlying25 rfl (by kernel_rfl)) rfl ⟨O, o, D, d, rfl, Made.of_own (own_base oO7 (by omega)) b7, Made.of_own (own_base oD7 (by omega)) b7⟩
  · rw [if_pos (by rfl)]
    refine wp_val (v := .slice A' q.dat.length c') (by first | exact run_load_sl rfl rfl kD0 | exact run_load_sl rfl rfl kD2) ?_
    refine hK.out _ _ trivial (fun hS => ?_)
    clear hK K
    try go_frame
    refine wpAnyH_ready (rs := [1]) (by kernel_rfl) (by simp) (AllReadyH.cons (o := ⟨some 10, _, _, _, _, _⟩) rfl (fun K hK => ?_) AllReadyH.nil)
    rw [if_pos (by rfl)]
    refine wp_val (v := .slice A q.opt.length c) (by first | exact run_load_sl rfl rfl kO0) ?_
    refine hK.out _ _ trivial (fun hS => ?_)
    clear hK K
    try go_frame
    refine wpAnyH_ready (rs := [2]) (by kernel_rfl) (by simp) (AllReadyH.cons (o := ⟨some 11, _, _, _, _, _⟩) rfl (fun K hK => ?_) AllReadyH.nil)
    rw [if_pos (by rfl)]
    go_simp
    refine (clone_any A q.opt c B _ (hO1.below (Below.refl _ W).drew) zW (by omega)).mono ?_
    rintro e w2 ⟨v2, rfl, m2⟩
    obtain ⟨O, o, rfl, g2, o2, y2⟩ := made_shape m2
    clear m2 g2
    have o2 : w2.ownsRow W.heap.size 5 1 (.slice O q.opt.length o) q.opt.length (row q.opt) := o2
    have x2 : Below W.heap.size W w2 := (Below.refl _ W).drew.trans y2
    have hP2 := (x2.block w.heap.size zP).trans hP0
    have hR2 := (x2.block (w.heap.size + 1) zR).trans hR0
    have kD2 := (At4.of_heap hP2).dat
    have hD2 := hD1.below (x2.mono zW)
    have hgO : ∀ g, O = some ⟨g, 0, none⟩ → 0 < q.opt.length → g < w2.heap.size := fun g e hl => by { subst e; exact (own_cell o2 (i := 0) hl).2.2.2.1 }
    show K _ _
    refine hK.out _ _ trivial (fun hS => ?_)
    clear hK K
    try go_frame
    refine held_pure (i := 6) (oi := ⟨some 15, _, _, _, _, _⟩) rfl (by kernel_rfl) (by kernel_rfl) (by kernel_rfl) (fun _ _ _ h => h) (by rfl) (v := ?_) (fun w hSw => ?_) hS (fun hS => ?_)
    rotate_left
    · go_simp; try with_reducible rfl
    try go_frame
    refine wpAnyH_ready (rs := [5]) (by kernel_rfl) (by simp) (AllReadyH.cons (o := ⟨some 14, _, _, _, _, _⟩) rfl (fun K hK => ?_) AllReadyH.nil)
    rw [if_pos (by rfl)]
    go_simp
    refine (clone_any A' q.dat c' B _ hD2 (Nat.le_trans zW x2.size) (by omega)).mono ?_
    rintro e w3 ⟨v3, rfl, m3⟩
    obtain ⟨D, d, rfl, g3, o3, y3⟩ := made_shape m3
    clear m3 g3
    have hP3 := (y3.block w.heap.size (heap_lt hP2)).trans hP2
    have hR3 := (y3.block (w.heap.size + 1) (heap_lt hR2)).trans hR2
    have oO3 := own_below o2 y3
    have kO3 := (At4.of_heap hP3).opt
    have fO3 := heap_frozen hP3 9
    have x3 := x2.trans (y3.mono x2.size)
    have zx2 := x2.size
    show K _ _
    refine hK.out _ _ trivial (fun hS => ?_)
    clear hK K
    try go_frame
    refine wpAnyH_ready (rs := [7]) (by kernel_rfl) (by simp) (AllReadyH.cons (o := ⟨none, _, _, _, _, _⟩) rfl (fun K hK => ?_) AllReadyH.nil)
    rw [if_pos (by rfl)]
    refine store_sl_wp rfl rfl rfl kO3 fO3 ?_
    have hP4 : (w3.setCell ⟨w.heap.size, 9, none⟩ (.slice O q.opt.length o)).heap[w.heap.size]? = some (.cells (v4a q O o A' c') 25 (0, 0)) := heap_setCell_same w3 w.heap.size 9 _ _ (.slice O q.opt.length o) hP3
    have hR4 := (heap_setCell_other w3 ⟨w.heap.size, 9, none⟩ (w.heap.size + 1) (.slice O q.opt.length o) (by show w.heap.size + 1 ≠ w.heap.size; omega)).trans hR3
    have kD4 := (At4.of_heap hP4).dat
    have fD4 := heap_frozen hP4 10
    have oO4 := own_setCell oO3 (p := ⟨w.heap.size, 9, none⟩) (u := .slice O q.opt.length o) zP
    have oD4 := own_setCell o3 (p := ⟨w.heap.size, 9, none⟩) (u := .slice O q.opt.length o) (Nat.lt_of_lt_of_le zP zx2)
    have b4 := (hB.trans (x3.mono hB.size)).setCell (p := ⟨w.heap.size, 9, none⟩) (Nat.le_refl _) (.slice O q.opt.length o)
    clear hP2 hR2 kD2 hD2 hP3 hR3 oO3 kO3 fO3 o2 o3 y2 y3
    generalize w3.setCell ⟨w.heap.size, 9, none⟩ (.slice O q.opt.length o) = V4 at *
    refine hK.out _ _ trivial (fun hS => ?_)
    clear hK K
    try go_frame
    refine held_pure (i := 8) (oi := ⟨some 16, _, _, _, _, _⟩) rfl (by kernel_rfl) (by kernel_rfl) (by kernel_rfl) (fun _ _ _ h => h) (by rfl) (v := ?_) (fun w hSw => ?_) hS (fun hS => ?_)
    rotate_left
    · go_simp; try with_reducible rfl
    try go_frame
    refine wpAnyH_ready (rs := [9]) (by kernel_rfl) (by simp) (AllReadyH.cons (o := ⟨none, _, _, _, _, _⟩) rfl (fun K hK => ?_) AllReadyH.nil)
    rw [if_pos (by rfl)]
    refine store_sl_wp rfl rfl rfl kD4 fD4 ?_
    have hP : (V4.setCell ⟨w.heap.size, 10, none⟩ (.slice D q.dat.length d)).heap[w.heap.size]? = some (.cells (v4a q O o D d) 25 (0, 0)) := heap_setCell_same V4 w.heap.size 10 _ _ (.slice D q.dat.length d) hP4
    have hR := (heap_setCell_other V4 ⟨w.heap.size, 10, none⟩ (w.heap.size + 1) (.slice D q.dat.length d) (by show w.heap.size + 1 ≠ w.heap.size; omega)).trans hR4
    have oO := own_setCell oO4 (p := ⟨w.heap.size, 10, none⟩) (u := .slice D q.dat.length d) zP
    have oD := own_setCell oD4 (p := ⟨w.heap.size, 10, none⟩) (u := .slice D q.dat.length d) (Nat.lt_of_lt_of_le zP zx2)
    have bV := b4.setCell (p := ⟨w.heap.size, 10, none⟩) (Nat.le_refl _) (.slice D q.dat.length d)
    clear hP4 hR4 kD4 fD4 oO4 oD4 b4 hP0 hR0 hO1 hD1 kO0 kD0 x2 x3
    generalize V4.setCell ⟨w.heap.size, 10, none⟩ (.slice D q.dat.length d) = V at *
    have hat := At4.of_heap hP
    have gO := arg_own oO
    have gD := arg_own oD
    refine hK.out _ _ trivial (fun hS => ?_)
    clear hK K
    try go_frame
    refine wpAnyH_done (by kernel_rfl) ?_ _
    go_upto_region 3 with (first
      | ((with_reducible show wpList _ _ _ (Oper.mk (some 18) (Op.load 25 _) _ _ _ _ :: _) _ _); refine wpList_val rfl (run_load_v4 rfl rfl hat rfl) ?_)
      | (go_at_call 8; refine (cOf q O o D d V ho hl V.heap.size gD (Nat.le_refl _)).mono ?_; rintro e w5 ⟨rfl, x5⟩; rw [HV.out, ← HE.out])
      | ((with_reducible show wpList _ _ _ (Oper.mk _ (Op.store 31 _ _) _ _ _ _ :: _) _ _); refine pr_store_new (cs := prA 0 0 0) rfl rfl rfl rfl (prA_one _ _ _) ?_))
    have j5 : Below w5.heap.size w5 (w5.alloc (.cells (prA 0 0 0) 31)) := (Below.refl _ w5).alloc (Nat.le_refl _) _
    have kp : (w5.alloc (.cells (prA 0 0 0) 31)).cell? ⟨w5.heap.size, 0, none⟩ = some (.int .i64 0) := range_new w5 (prA 0 0 0) _ 0 _ rfl
    have x5j := x5.trans (j5.mono x5.size)
    have hP5 := (x5j.block w.heap.size (heap_lt hP)).trans hP
    have hR5 := (x5j.block (w.heap.size + 1) (heap_lt hR)).trans hR
    have hat5 := At4.of_heap hP5
    have kq4 := hat5.proto
    have oO5 := own_below oO x5j
    have oD5 := own_below oD x5j
    have b5 := bV.trans (x5j.mono bV.size)
    generalize w5.alloc (.cells (prA 0 0 0) 31) = X5 at *
    clear hat gO gD x5 j5 x5j oO oD bV hP hR
    go_wp2_with (first
      | ((with_reducible show wpList _ _ _ (Oper.mk (some 29) (Op.load 25 _) _ _ _ _ :: _) _ _); refine wpList_val rfl (run_load_v4 rfl rfl hat5 rfl) ?_)
      | ((with_reducible show wpList _ _ _ (Oper.mk _ (Op.store 25 _ _) _ _ _ _ :: _) _ _); refine v4_store (g := w.heap.size + 1) (cs := v4a q O o D d) rfl rfl hR5 rfl rfl (v4a_one _ _ _ _ _) ?_))
    have oO7 := own_setRow oO5 (g := w.heap.size + 1) (cs := v4a q O o D d) (by omega)
    have oD7 := own_setRow oD5 (g := w.heap.size + 1) (cs := v4a q O o D d) (by omega)
    have b7 := below_row b5 (g := w.heap.size + 1) (cs := v4a q O o D d) (by omega)
    exact bodyPost_ret (results_cell_row rfl _ _ (w.heap.size + 1) 25 (v4a q O o D d) (0, 0) _ rfl (setRow_heap _ _ _ _ _ _ hR5) Try.underlying25 rfl (by kernel_rfl)) rfl ⟨O, o, D, d, rfl, Made.of_own (own_base oO7 (by omega)) b7, Made.of_own (own_base oD7 (by omega)) b7⟩
set_option maxRecDepth 100000 in
set_option maxHeartbeats 4000000 in
theorem c12pkN (ho : q.opt.length ≤ 1000000) (hl : q.dat.length ≤ 900000) (B : Nat) (hO : Arg w B A c q.opt) (hD : Arg w B A' c' q.dat) (hB0 : B ≤ w.heap.size) (n : Int) (he : ofE q = 0) (hk : q.proto ≠ 6) : Calls Try.prog 7 #[v4v q A c A' c', .int .i64 n] w fun e w' => ∃ P p P' p', e = .returned (v4v (q) P p P' p') ∧ Made w w' (.slice P (q).opt.length p) (q).opt ∧ Made w w' (.slice P' (q).dat.length p') (q).dat := by
  have HE := Lib.hid he
  have HV := Lib.hid (show ofV q = prA q.proto (ptS q) (ptD q) by rw [ofV, if_pos he])
  have dk : (q.proto != 6) = true := by simpa using hk
  clear he hk
  rw [v4q_eq]
  have hB : Below w.heap.size w ((w.alloc (.cells (v4a q A c A' c') 25)).alloc (.cells (v4a p4z none 0 none 0) 25)) := below_two w _ _
  have hP0 : ((w.alloc (.cells (v4a q A c A' c') 25)).alloc (.cells (v4a p4z none 0 none 0) 25)).heap[w.heap.size]? = some (.cells (v4a q A c A' c') 25 (0, 0)) := (Below.heap_alloc (w.alloc (.cells (v4a q A c A' c') 25)) _ w.heap.size (by simp)).trans (World.alloc_heap_new w _)
  have hR0 : ((w.alloc (.cells (v4a q A c A' c') 25)).alloc (.cells (v4a p4z none 0 none 0) 25)).heap[w.heap.size + 1]? = some (.cells (v4a p4z none 0 none 0) 25 (0, 0)) := by
    have := World.alloc_heap_new (w.alloc (.cells (v4a q A c A' c') 25)) (.cells (v4a p4z none 0 none 0) 25)
    rwa [World.size_alloc] at this
  go_enter Try.func7, Try.ntmps7
  go_upto_region 1 with fail
  rw [show #[.int .i64 0, .int .i64 0, .int .i64 0, .int .i64 0, .int .i64 0, .int .i64 0, .int .i64 0, .bool false, .bool false, .slice none 0 0, .slice none 0 0] = v4a p4z none 0 none 0 from rfl]
  generalize (w.alloc (.cells (v4a q A c A' c') 25)).alloc (.cells (v4a p4z none 0 none 0) 25) = W at *
  have hO1 := hO.below (hB.mono hB0)
  have hD1 := hD.below (hB.mono hB0)
  have zW := Nat.le_trans hB0 hB.size
  have zP := heap_lt hP0
  have zR := heap_lt hR0
  have kO0 := (At4.of_heap hP0).opt
  have kD0 := (At4.of_heap hP0).dat
  refine wp_region_held_drew (S := fun _ => True) (by kernel_rfl) trivial (fun hS => ?_)
  refine held_pure (i := 0) (oi := ⟨some 9, _, _, _, _, _⟩) rfl (by kernel_rfl) (by kernel_rfl) (by kernel_rfl) (fun _ _ _ h => h) (by rfl) (v := ?_) (fun w hSw => ?_) hS (fun hS => ?_)
  rotate_left
  · go_simp; try with_reducible rfl
  try go_frame
  refine held_pure (i := 3) (oi := ⟨some 12, _, _, _, _, _⟩) rfl (by kernel_rfl) (by kernel_rfl) (by kernel_rfl) (fun _ _ _ h => h) (by rfl) (v := ?_) (fun w hSw => ?_) hS (fun hS => ?_)
  rotate_left
  · go_simp; try with_reducible rfl
  try go_frame
  refine wpAnyH_ready (rs := [1, 4]) (by kernel_rfl) (by simp) (AllReadyH.cons (o := ⟨some 10, _, _, _, _, _⟩) rfl (fun K hK => ?_) (AllReadyH.cons (o := ⟨some 13, _, _, _, _, _⟩) rfl (fun K hK => ?_) AllReadyH.nil))
  · rw [if_pos (by rfl)]
    refine wp_val (v := .slice A q.opt.length c) (by first | exact run_load_sl rfl rfl kO0) ?_
    refine hK.out _ _ trivial (fun hS => ?_)
    clear hK K
    try go_frame
    refine wpAnyH_ready (rs := [2, 4]) (by kernel_rfl) (by simp) (AllReadyH.cons (o := ⟨some 11, _, _, _, _, _⟩) rfl (fun K hK => ?_) (AllReadyH.cons (o := ⟨some 13, _, _, _, _, _⟩) rfl (fun K hK => ?_) AllReadyH.nil))
    · rw [if_pos (by rfl)]
      go_simp
      refine (clone_any A q.opt c B _ (hO1.below (Below.refl _ W).drew) zW (by omega)).mono ?_
      rintro e w2 ⟨v2, rfl, m2⟩
      obtain ⟨O, o, rfl, g2, o2, y2⟩ := made_shape m2
      clear m2 g2
      have o2 : w2.ownsRow W.heap.size 5 1 (.slice O q.opt.length o) q.opt.length (row q.opt) := o2
      have x2 : Below W.heap.size W w2 := (Below.refl _ W).drew.trans y2
      have hP2 := (x2.block w.heap.size zP).trans hP0
      have hR2 := (x2.block (w.heap.size + 1) zR).trans hR0
      have kD2 := (At4.of_heap hP2).dat
      have hD2 := hD1.below (x2.mono zW)
      have hgO : ∀ g, O = some ⟨g, 0, none⟩ → 0 < q.opt.length → g < w2.heap.size := fun g e hl => by { subst e; exact (own_cell o2 (i := 0) hl).2.2.2.1 }
      show K _ _
      refine hK.out _ _ trivial (fun hS => ?_)
      clear hK K
      try go_frame
      refine wpAnyH_ready (rs := [4]) (by kernel_rfl) (by simp) (AllReadyH.cons (o := ⟨some 13, _, _, _, _, _⟩) rfl (fun K hK => ?_) AllReadyH.nil)
      rw [if_pos (by rfl)]
      refine wp_val (v := .slice A' q.dat.length c') (by first | exact run_load_sl rfl rfl kD0 | exact run_load_sl rfl rfl kD2) ?_
      refine hK.out _ _ trivial (fun hS => ?_)
      clear hK K
      try go_frame
      refine held_pure (i := 6) (oi := ⟨some 15, _, _, _, _, _⟩) rfl (by kernel_rfl) (by kernel_rfl) (by kernel_rfl) (fun _ _ _ h => h) (by rfl) (v := ?_) (fun w hSw => ?_) hS (fun hS => ?_)
      rotate_left
      · go_simp; try with_reducible rfl
      try go_frame
      refine wpAnyH_ready (rs := [5]) (by kernel_rfl) (by simp) (AllReadyH.cons (o := ⟨some 14, _, _, _, _, _⟩) rfl (fun K hK => ?_) AllReadyH.nil)
      rw [if_pos (by rfl)]
      go_simp
      refine (clone_any A' q.dat c' B _ hD2 (Nat.le_trans zW x2.size) (by omega)).mono ?_
      rintro e w3 ⟨v3, rfl, m3⟩
      obtain ⟨D, d, rfl, g3, o3, y3⟩ := made_shape m3
      clear m3 g3
      have hP3 := (y3.block w.heap.size (heap_lt hP2)).trans hP2
      have hR3 := (y3.block (w.heap.size + 1) (heap_lt hR2)).trans hR2
      have oO3 := own_below o2 y3
      have kO3 := (At4.of_heap hP3).opt
      have fO3 := heap_frozen hP3 9
      have x3 := x2.trans (y3.mono x2.size)
      have zx2 := x2.size
      show K _ _
      refine hK.out _ _ trivial (fun hS => ?_)
      clear hK K
      try go_frame
      refine wpAnyH_ready (rs := [7]) (by kernel_rfl) (by simp) (AllReadyH.cons (o := ⟨none, _, _, _, _, _⟩) rfl (fun K hK => ?_) AllReadyH.nil)
      rw [if_pos (by rfl)]
      refine store_sl_wp rfl rfl rfl kO3 fO3 ?_
      have hP4 : (w3.setCell ⟨w.heap.size, 9, none⟩ (.slice O q.opt.length o)).heap[w.heap.size]? = some (.cells (v4a q O o A' c') 25 (0, 0)) := heap_setCell_same w3 w.heap.size 9 _ _ (.slice O q.opt.length o) hP3
      have hR4 := (heap_setCell_other w3 ⟨w.heap.size, 9, none⟩ (w.heap.size + 1) (.slice O q.opt.length o) (by show w.heap.size + 1 ≠ w.heap.size; omega)).trans hR3
      have kD4 := (At4.of_heap hP4).dat
      have fD4 := heap_frozen hP4 10
      have oO4 := own_setCell oO3 (p := ⟨w.heap.size, 9, none⟩) (u := .slice O q.opt.length o) zP
      have oD4 := own_setCell o3 (p := ⟨w.heap.size, 9, none⟩) (u := .slice O q.opt.length o) (Nat.lt_of_lt_of_le zP zx2)
      have b4 := (hB.trans (x3.mono hB.size)).setCell (p := ⟨w.heap.size, 9, none⟩) (Nat.le_refl _) (.slice O q.opt.length o)
      clear hP2 hR2 kD2 hD2 hP3 hR3 oO3 kO3 fO3 o2 o3 y2 y3
      generalize w3.setCell ⟨w.heap.size, 9, none⟩ (.slice O q.opt.length o) = V4 at *
      refine hK.out _ _ trivial (fun hS => ?_)
      clear hK K
      try go_frame
      refine held_pure (i := 8) (oi := ⟨some 16, _, _, _, _, _⟩) rfl (by kernel_rfl) (by kernel_rfl) (by kernel_rfl) (fun _ _ _ h => h) (by rfl) (v := ?_) (fun w hSw => ?_) hS (fun hS => ?_)
      rotate_left
      · go_simp; try with_reducible rfl
      try go_frame
      refine wpAnyH_ready (rs := [9]) (by kernel_rfl) (by simp) (AllReadyH.cons (o := ⟨none, _, _, _, _, _⟩) rfl (fun K hK => ?_) AllReadyH.nil)
      rw [if_pos (by rfl)]
      refine store_sl_wp rfl rfl rfl kD4 fD4 ?_
      have hP : (V4.setCell ⟨w.heap.size, 10, none⟩ (.slice D q.dat.length d)).heap[w.heap.size]? = some (.cells (v4a q O o D d) 25 (0, 0)) := heap_setCell_same V4 w.heap.size 10 _ _ (.slice D q.dat.length d) hP4
      have hR := (heap_setCell_other V4 ⟨w.heap.size, 10, none⟩ (w.heap.size + 1) (.slice D q.dat.length d) (by show w.heap.size + 1 ≠ w.heap.size; omega)).trans hR4
      have oO := own_setCell oO4 (p := ⟨w.heap.size, 10, none⟩) (u := .slice D q.dat.length d) zP
      have oD := own_setCell oD4 (p := ⟨w.heap.size, 10, none⟩) (u := .slice D q.dat.length d) (Nat.lt_of_lt_of_le zP zx2)
      have bV := b4.setCell (p := ⟨w.heap.size, 10, none⟩) (Nat.le_refl _) (.slice D q.dat.length d)
      clear hP4 hR4 kD4 fD4 oO4 oD4 b4 hP0 hR0 hO1 hD1 kO0 kD0 x2 x3
      generalize V4.setCell ⟨w.heap.size, 10, none⟩ (.slice D q.dat.length d) = V at *
      have hat := At4.of_heap hP
      have gO := arg_own oO
      have gD := arg_own oD
      refine hK.out _ _ trivial (fun hS => ?_)
      clear hK K
      try go_frame
      refine wpAnyH_done (by kernel_rfl) ?_ _
      go_upto_region 3 with (first
        | ((with_reducible show wpList _ _ _ (Oper.mk (some 18) (Op.load 25 _) _ _ _ _ :: _) _ _); refine wpList_val rfl (run_load_v4 rfl rfl hat rfl) ?_)
        | (go_at_call 8; refine (cOf q O o D d V ho hl V.heap.size gD (Nat.le_refl _)).mono ?_; rintro e w5 ⟨rfl, x5⟩; rw [HV.out, HE.out])
        | ((with_reducible show wpList _ _ _ (Oper.mk _ (Op.store 31 _ _) _ _ _ _ :: _) _ _); refine pr_store_new (cs := prA q.proto (ptS q) (ptD q)) rfl rfl rfl rfl (prA_one _ _ _) ?_))
      have j5 : Below w5.heap.size w5 (w5.alloc (.cells (prA q.proto (ptS q) (ptD q)) 31)) := (Below.refl _ w5).alloc (Nat.le_refl _) _
      have kp : (w5.alloc (.cells (prA q.proto (ptS q) (ptD q)) 31)).cell? ⟨w5.heap.size, 0, none⟩ = some (.int .i64 q.proto) := range_new w5 (prA q.proto (ptS q) (ptD q)) _ 0 _ rfl
      have x5j := x5.trans (j5.mono x5.size)
      have hP5 := (x5j.block w.heap.size (heap_lt hP)).trans hP
      have hR5 := (x5j.block (w.heap.size + 1) (heap_lt hR)).trans hR
      have hat5 := At4.of_heap hP5
      have kq4 := hat5.proto
      have oO5 := own_below oO x5j
      have oD5 := own_below oD x5j
      have b5 := bV.trans (x5j.mono bV.size)
      generalize w5.alloc (.cells (prA q.proto (ptS q) (ptD q)) 31) = X5 at *
      clear hat gO gD x5 j5 x5j oO oD bV hP hR
      go_wp2_with (first
        | ((with_reducible show wpList _ _ _ (Oper.mk (some 29) (Op.load 25 _) _ _ _ _ :: _) _ _); refine wpList_val rfl (run_load_v4 rfl rfl hat5 rfl) ?_)
        | ((with_reducible show wpList _ _ _ (Oper.mk _ (Op.store 25 _ _) _ _ _ _ :: _) _ _); refine v4_store (g := w.heap.size + 1) (cs := v4a q O o D d) rfl rfl hR5 rfl rfl (v4a_one _ _ _ _ _) ?_))
      have oO7 := own_setRow oO5 (g := w.heap.size + 1) (cs := v4a q O o D d) (by omega)
      have oD7 := own_setRow oD5 (g := w.heap.size + 1) (cs := v4a q O o D d) (by omega)
      have b7 := below_row b5 (g := w.heap.size + 1) (cs := v4a q O o D d) (by omega)
      exact bodyPost_ret (results_cell_row rfl _ _ (w.heap.size + 1) 25 (v4a q O o D d) (0, 0) _ rfl (setRow_heap _ _ _ _ _ _ hR5) Try.underlying25 rfl (by kernel_rfl)) rfl ⟨O, o, D, d, rfl, Made.of_own (own_base oO7 (by omega)) b7, Made.of_own (own_base oD7 (by omega)) b7⟩
    · rw [if_pos (by rfl)]
      refine wp_val (v := .slice A' q.dat.length c') (by first | exact run_load_sl rfl rfl kD0 | exact run_load_sl rfl rfl kD2) ?_
      refine hK.out _ _ trivial (fun hS => ?_)
      clear hK K
      try go_frame
      refine wpAnyH_ready (rs := [2]) (by kernel_rfl) (by simp) (AllReadyH.cons (o := ⟨some 11, _, _, _, _, _⟩) rfl (fun K hK => ?_) AllReadyH.nil)
      rw [if_pos (by rfl)]
      go_simp
      refine (clone_any A q.opt c B _ (hO1.below (Below.refl _ W).drew) zW (by omega)).mono ?_
      rintro e w2 ⟨v2, rfl, m2⟩
      obtain ⟨O, o, rfl, g2, o2, y2⟩ := made_shape m2
      clear m2 g2
      have o2 : w2.ownsRow W.heap.size 5 1 (.slice O q.opt.length o) q.opt.length (row q.opt) := o2
      have x2 : Below W.heap.size W w2 := (Below.refl _ W).drew.trans y2
      have hP2 := (x2.block w.heap.size zP).trans hP0
      have hR2 := (x2.block (w.heap.size + 1) zR).trans hR0
      have kD2 := (At4.of_heap hP2).dat
      have hD2 := hD1.below (x2.mono zW)
      have hgO : ∀ g, O = some ⟨g, 0, none⟩ → 0 < q.opt.length → g < w2.heap.size := fun g e hl => by { subst e; exact (own_cell o2 (i := 0) hl).2.2.2.1 }
      show K _ _
      refine hK.out _ _ trivial (fun hS => ?_)
      clear hK K
      try go_frame
      refine held_pure (i := 6) (oi := ⟨some 15, _, _, _, _, _⟩) rfl (by kernel_rfl) (by kernel_rfl) (by kernel_rfl) (fun _ _ _ h => h) (by rfl) (v := ?_) (fun w hSw => ?_) hS (fun hS => ?_)
      rotate_left
      · go_simp; try with_reducible rfl
      try go_frame
      refine wpAnyH_ready (rs := [5]) (by kernel_rfl) (by simp) (AllReadyH.cons (o := ⟨some 14, _, _, _, _, _⟩) rfl (fun K hK => ?_) AllReadyH.nil)
      rw [if_pos (by rfl)]
      go_simp
      refine (clone_any A' q.dat c' B _ hD2 (Nat.le_trans zW x2.size) (by omega)).mono ?_
      rintro e w3 ⟨v3, rfl, m3⟩
      obtain ⟨D, d, rfl, g3, o3, y3⟩ := made_shape m3
      clear m3 g3
      have hP3 := (y3.block w.heap.size (heap_lt hP2)).trans hP2
      have hR3 := (y3.block (w.heap.size + 1) (heap_lt hR2)).trans hR2
      have oO3 := own_below o2 y3
      have kO3 := (At4.of_heap hP3).opt
      have fO3 := heap_frozen hP3 9
      have x3 := x2.trans (y3.mono x2.size)
      have zx2 := x2.size
      show K _ _
      refine hK.out _ _ trivial (fun hS => ?_)
      clear hK K
      try go_frame
      refine wpAnyH_ready (rs := [7]) (by kernel_rfl) (by simp) (AllReadyH.cons (o := ⟨none, _, _, _, _, _⟩) rfl (fun K hK => ?_) AllReadyH.nil)
      rw [if_pos (by rfl)]
      refine store_sl_wp rfl rfl rfl kO3 fO3 ?_
      have hP4 : (w3.setCell ⟨w.heap.size, 9, none⟩ (.slice O q.opt.length o)).heap[w.heap.size]? = some (.cells (v4a q O o A' c') 25 (0, 0)) := heap_setCell_same w3 w.heap.size 9 _ _ (.slice O q.opt.length o) hP3
      have hR4 := (heap_setCell_other w3 ⟨w.heap.size, 9, none⟩ (w.heap.size + 1) (.slice O q.opt.length o) (by show w.heap.size + 1 ≠ w.heap.size; omega)).trans hR3
      have kD4 := (At4.of_heap hP4).dat
      have fD4 := heap_frozen hP4 10
      have oO4 := own_setCell oO3 (p := ⟨w.heap.size, 9, none⟩) (u := .slice O q.opt.length o) zP
      have oD4 := own_setCell o3 (p := ⟨w.heap.size, 9, none⟩) (u := .slice O q.opt.length o) (Nat.lt_of_lt_of_le zP zx2)
      have b4 := (hB.trans (x3.mono hB.size)).setCell (p := ⟨w.heap.size, 9, none⟩) (Nat.le_refl _) (.slice O q.opt.length o)
      clear hP2 hR2 kD2 hD2 hP3 hR3 oO3 kO3 fO3 o2 o3 y2 y3
      generalize w3.setCell ⟨w.heap.size, 9, none⟩ (.slice O q.opt.length o) = V4 at *
      refine hK.out _ _ trivial (fun hS => ?_)
      clear hK K
      try go_frame
      refine held_pure (i := 8) (oi := ⟨some 16, _, _, _, _, _⟩) rfl (by kernel_rfl) (by kernel_rfl) (by kernel_rfl) (fun _ _ _ h => h) (by rfl) (v := ?_) (fun w hSw => ?_) hS (fun hS => ?_)
      rotate_left
      · go_simp; try with_reducible rfl
      try go_frame
      refine wpAnyH_ready (rs := [9]) (by kernel_rfl) (by simp) (AllReadyH.cons (o := ⟨none, _, _, _, _, _⟩) rfl (fun K hK => ?_) AllReadyH.nil)
      rw [if_pos (by rfl)]
      refine store_sl_wp rfl rfl rfl kD4 fD4 ?_
      have hP : (V4.setCell ⟨w.heap.size, 10, none⟩ (.slice D q.dat.length d)).heap[w.heap.size]? = some (.cells (v4a q O o D d) 25 (0, 0)) := heap_setCell_same V4 w.heap.size 10 _ _ (.slice D q.dat.length d) hP4
      have hR := (heap_setCell_other V4 ⟨w.heap.size, 10, none⟩ (w.heap.size + 1) (.slice D q.dat.length d) (by show w.heap.size + 1 ≠ w.heap.size; omega)).trans hR4
      have oO := own_setCell oO4 (p := ⟨w.heap.size, 10, none⟩) (u := .slice D q.dat.length d) zP
      have oD := own_setCell oD4 (p := ⟨w.heap.size, 10, none⟩) (u := .slice D q.dat.length d) (Nat.lt_of_lt_of_le zP zx2)
      have bV := b4.setCell (p := ⟨w.heap.size, 10, none⟩) (Nat.le_refl _) (.slice D q.dat.length d)
      clear hP4 hR4 kD4 fD4 oO4 oD4 b4 hP0 hR0 hO1 hD1 kO0 kD0 x2 x3
      generalize V4.setCell ⟨w.heap.size, 10, none⟩ (.slice D q.dat.length d) = V at *
      have hat := At4.of_heap hP
      have gO := arg_own oO
      have gD := arg_own oD
      refine hK.out _ _ trivial (fun hS => ?_)
      clear hK K
      try go_frame
      refine wpAnyH_done (by kernel_rfl) ?_ _
      go_upto_region 3 with (first
        | ((with_reducible show wpList _ _ _ (Oper.mk (some 18) (Op.load 25 _) _ _ _ _ :: _) _ _); refine wpList_val rfl (run_load_v4 rfl rfl hat rfl) ?_)
        | (go_at_call 8; refine (cOf q O o D d V ho hl V.heap.size gD (Nat.le_refl _)).mono ?_; rintro e w5 ⟨rfl, x5⟩; rw [HV.out, HE.out])
        | ((with_reducible show wpList _ _ _ (Oper.mk _ (Op.store 31 _ _) _ _ _ _ :: _) _ _); refine pr_store_new (cs := prA q.proto (ptS q) (ptD q)) rfl rfl rfl rfl (prA_one _ _ _) ?_))
      have j5 : Below w5.heap.size w5 (w5.alloc (.cells (prA q.proto (ptS q) (ptD q)) 31)) := (Below.refl _ w5).alloc (Nat.le_refl _) _
      have kp : (w5.alloc (.cells (prA q.proto (ptS q) (ptD q)) 31)).cell? ⟨w5.heap.size, 0, none⟩ = some (.int .i64 q.proto) := range_new w5 (prA q.proto (ptS q) (ptD q)) _ 0 _ rfl
      have x5j := x5.trans (j5.mono x5.size)
      have hP5 := (x5j.block w.heap.size (heap_lt hP)).trans hP
      have hR5 := (x5j.block (w.heap.size + 1) (heap_lt hR)).trans hR
      have hat5 := At4.of_heap hP5
      have kq4 := hat5.proto
      have oO5 := own_below oO x5j
      have oD5 := own_below oD x5j
      have b5 := bV.trans (x5j.mono bV.size)
      generalize w5.alloc (.cells (prA q.proto (ptS q) (ptD q)) 31) = X5 at *
      clear hat gO gD x5 j5 x5j oO oD bV hP hR
      go_wp2_with (first
        | ((with_reducible show wpList _ _ _ (Oper.mk (some 29) (Op.load 25 _) _ _ _ _ :: _) _ _); refine wpList_val rfl (run_load_v4 rfl rfl hat5 rfl) ?_)
        | ((with_reducible show wpList _ _ _ (Oper.mk _ (Op.store 25 _ _) _ _ _ _ :: _) _ _); refine v4_store (g := w.heap.size + 1) (cs := v4a q O o D d) rfl rfl hR5 rfl rfl (v4a_one _ _ _ _ _) ?_))
      have oO7 := own_setRow oO5 (g := w.heap.size + 1) (cs := v4a q O o D d) (by omega)
      have oD7 := own_setRow oD5 (g := w.heap.size + 1) (cs := v4a q O o D d) (by omega)
      have b7 := below_row b5 (g := w.heap.size + 1) (cs := v4a q O o D d) (by omega)
      exact bodyPost_ret (results_cell_row rfl _ _ (w.heap.size + 1) 25 (v4a q O o D d) (0, 0) _ rfl (setRow_heap _ _ _ _ _ _ hR5) Try.underlying25 rfl (by kernel_rfl)) rfl ⟨O, o, D, d, rfl, Made.of_own (own_base oO7 (by omega)) b7, Made.of_own (own_base oD7 (by omega)) b7⟩
  · rw [if_pos (by rfl)]
    refine wp_val (v := .slice A' q.dat.length c') (by first | exact run_load_sl rfl rfl kD0 | exact run_load_sl rfl rfl kD2) ?_
    refine hK.out _ _ trivial (fun hS => ?_)
    clear hK K
    try go_frame
    refine wpAnyH_ready (rs := [1]) (by kernel_rfl) (by simp) (AllReadyH.cons (o := ⟨some 10, _, _, _, _, _⟩) rfl (fun K hK => ?_) AllReadyH.nil)
    rw [if_pos (by rfl)]
    refine wp_val (v := .slice A q.opt.length c) (by first | exact run_load_sl rfl rfl kO0) ?_
    refine hK.out _ _ trivial (fun hS => ?_)
    clear hK K
    try go_frame
    refine wpAnyH_ready (rs := [2]) (by kernel_rfl) (by simp) (AllReadyH.cons (o := ⟨some 11, _, _, _, _, _⟩) rfl (fun K hK => ?_) AllReadyH.nil)
    rw [if_pos (by rfl)]
    go_simp
    refine (clone_any A q.opt c B _ (hO1.below (Below.refl _ W).drew) zW (by omega)).mono ?_
    rintro e w2 ⟨v2, rfl, m2⟩
    obtain ⟨O, o, rfl, g2, o2, y2⟩ := made_shape m2
    clear m2 g2
    have o2 : w2.ownsRow W.heap.size 5 1 (.slice O q.opt.length o) q.opt.length (row q.opt) := o2
    have x2 : Below W.heap.size W w2 := (Below.refl _ W).drew.trans y2
    have hP2 := (x2.block w.heap.size zP).trans hP0
    have hR2 := (x2.block (w.heap.size + 1) zR).trans hR0
    have kD2 := (At4.of_heap hP2).dat
    have hD2 := hD1.below (x2.mono zW)
    have hgO : ∀ g, O = some ⟨g, 0, none⟩ → 0 < q.opt.length → g < w2.heap.size := fun g e hl => by { subst e; exact (own_cell o2 (i := 0) hl).2.2.2.1 }
    show K _ _
    refine hK.out _ _ trivial (fun hS => ?_)
    clear hK K
    try go_frame
    refine held_pure (i := 6) (oi := ⟨some 15, _, _, _, _, _⟩) rfl (by kernel_rfl) (by kernel_rfl) (by kernel_rfl) (fun _ _ _ h => h) (by rfl) (v := ?_) (fun w hSw => ?_) hS (fun hS => ?_)
    rotate_left
    · go_simp; try with_reducible rfl
    try go_frame
    refine wpAnyH_ready (rs := [5]) (by kernel_rfl) (by simp) (AllReadyH.cons (o := ⟨some 14, _, _, _, _, _⟩) rfl (fun K hK => ?_) AllReadyH.nil)
    rw [if_pos (by rfl)]
    go_simp
    refine (clone_any A' q.dat c' B _ hD2 (Nat.le_trans zW x2.size) (by omega)).mono ?_
    rintro e w3 ⟨v3, rfl, m3⟩
    obtain ⟨D, d, rfl, g3, o3, y3⟩ := made_shape m3
    clear m3 g3
    have hP3 := (y3.block w.heap.size (heap_lt hP2)).trans hP2
    have hR3 := (y3.block (w.heap.size + 1) (heap_lt hR2)).trans hR2
    have oO3 := own_below o2 y3
    have kO3 := (At4.of_heap hP3).opt
    have fO3 := heap_frozen hP3 9
    have x3 := x2.trans (y3.mono x2.size)
    have zx2 := x2.size
    show K _ _
    refine hK.out _ _ trivial (fun hS => ?_)
    clear hK K
    try go_frame
    refine wpAnyH_ready (rs := [7]) (by kernel_rfl) (by simp) (AllReadyH.cons (o := ⟨none, _, _, _, _, _⟩) rfl (fun K hK => ?_) AllReadyH.nil)
    rw [if_pos (by rfl)]
    refine store_sl_wp rfl rfl rfl kO3 fO3 ?_
    have hP4 : (w3.setCell ⟨w.heap.size, 9, none⟩ (.slice O q.opt.length o)).heap[w.heap.size]? = some (.cells (v4a q O o A' c') 25 (0, 0)) := heap_setCell_same w3 w.heap.size 9 _ _ (.slice O q.opt.length o) hP3
    have hR4 := (heap_setCell_other w3 ⟨w.heap.size, 9, none⟩ (w.heap.size + 1) (.slice O q.opt.length o) (by show w.heap.size + 1 ≠ w.heap.size; omega)).trans hR3
    have kD4 := (At4.of_heap hP4).dat
    have fD4 := heap_frozen hP4 10
    have oO4 := own_setCell oO3 (p := ⟨w.heap.size, 9, none⟩) (u := .slice O q.opt.length o) zP
    have oD4 := own_setCell o3 (p := ⟨w.heap.size, 9, none⟩) (u := .slice O q.opt.length o) (Nat.lt_of_lt_of_le zP zx2)
    have b4 := (hB.trans (x3.mono hB.size)).setCell (p := ⟨w.heap.size, 9, none⟩) (Nat.le_refl _) (.slice O q.opt.length o)
    clear hP2 hR2 kD2 hD2 hP3 hR3 oO3 kO3 fO3 o2 o3 y2 y3
    generalize w3.setCell ⟨w.heap.size, 9, none⟩ (.slice O q.opt.length o) = V4 at *
    refine hK.out _ _ trivial (fun hS => ?_)
    clear hK K
    try go_frame
    refine held_pure (i := 8) (oi := ⟨some 16, _, _, _, _, _⟩) rfl (by kernel_rfl) (by kernel_rfl) (by kernel_rfl) (fun _ _ _ h => h) (by rfl) (v := ?_) (fun w hSw => ?_) hS (fun hS => ?_)
    rotate_left
    · go_simp; try with_reducible rfl
    try go_frame
    refine wpAnyH_ready (rs := [9]) (by kernel_rfl) (by simp) (AllReadyH.cons (o := ⟨none, _, _, _, _, _⟩) rfl (fun K hK => ?_) AllReadyH.nil)
    rw [if_pos (by rfl)]
    refine store_sl_wp rfl rfl rfl kD4 fD4 ?_
    have hP : (V4.setCell ⟨w.heap.size, 10, none⟩ (.slice D q.dat.length d)).heap[w.heap.size]? = some (.cells (v4a q O o D d) 25 (0, 0)) := heap_setCell_same V4 w.heap.size 10 _ _ (.slice D q.dat.length d) hP4
    have hR := (heap_setCell_other V4 ⟨w.heap.size, 10, none⟩ (w.heap.size + 1) (.slice D q.dat.length d) (by show w.heap.size + 1 ≠ w.heap.size; omega)).trans hR4
    have oO := own_setCell oO4 (p := ⟨w.heap.size, 10, none⟩) (u := .slice D q.dat.length d) zP
    have oD := own_setCell oD4 (p := ⟨w.heap.size, 10, none⟩) (u := .slice D q.dat.length d) (Nat.lt_of_lt_of_le zP zx2)
    have bV := b4.setCell (p := ⟨w.heap.size, 10, none⟩) (Nat.le_refl _) (.slice D q.dat.length d)
    clear hP4 hR4 kD4 fD4 oO4 oD4 b4 hP0 hR0 hO1 hD1 kO0 kD0 x2 x3
    generalize V4.setCell ⟨w.heap.size, 10, none⟩ (.slice D q.dat.length d) = V at *
    have hat := At4.of_heap hP
    have gO := arg_own oO
    have gD := arg_own oD
    refine hK.out _ _ trivial (fun hS => ?_)
    clear hK K
    try go_frame
    refine wpAnyH_done (by kernel_rfl) ?_ _
    go_upto_region 3 with (first
      | ((with_reducible show wpList _ _ _ (Oper.mk (some 18) (Op.load 25 _) _ _ _ _ :: _) _ _); refine wpList_val rfl (run_load_v4 rfl rfl hat rfl) ?_)
      | (go_at_call 8; refine (cOf q O o D d V ho hl V.heap.size gD (Nat.le_refl _)).mono ?_; rintro e w5 ⟨rfl, x5⟩; rw [HV.out, HE.out])
      | ((with_reducible show wpList _ _ _ (Oper.mk _ (Op.store 31 _ _) _ _ _ _ :: _) _ _); refine pr_store_new (cs := prA q.proto (ptS q) (ptD q)) rfl rfl rfl rfl (prA_one _ _ _) ?_))
    have j5 : Below w5.heap.size w5 (w5.alloc (.cells (prA q.proto (ptS q) (ptD q)) 31)) := (Below.refl _ w5).alloc (Nat.le_refl _) _
    have kp : (w5.alloc (.cells (prA q.proto (ptS q) (ptD q)) 31)).cell? ⟨w5.heap.size, 0, none⟩ = some (.int .i64 q.proto) := range_new w5 (prA q.proto (ptS q) (ptD q)) _ 0 _ rfl
    have x5j := x5.trans (j5.mono x5.size)
    have hP5 := (x5j.block w.heap.size (heap_lt hP)).trans hP
    have hR5 := (x5j.block (w.heap.size + 1) (heap_lt hR)).trans hR
    have hat5 := At4.of_heap hP5
    have kq4 := hat5.proto
    have oO5 := own_below oO x5j
    have oD5 := own_below oD x5j
    have b5 := bV.trans (x5j.mono bV.size)
    generalize w5.alloc (.cells (prA q.proto (ptS q) (ptD q)) 31) = X5 at *
    clear hat gO gD x5 j5 x5j oO oD bV hP hR
    go_wp2_with (first
      | ((with_reducible show wpList _ _ _ (Oper.mk (some 29) (Op.load 25 _) _ _ _ _ :: _) _ _); refine wpList_val rfl (run_load_v4 rfl rfl hat5 rfl) ?_)
      | ((with_reducible show wpList _ _ _ (Oper.mk _ (Op.store 25 _ _) _ _ _ _ :: _) _ _); refine v4_store (g := w.heap.size + 1) (cs := v4a q O o D d) rfl rfl hR5 rfl rfl (v4a_one _ _ _ _ _) ?_))
    have oO7 := own_setRow oO5 (g := w.heap.size + 1) (cs := v4a q O o D d) (by omega)
    have oD7 := own_setRow oD5 (g := w.heap.size + 1) (cs := v4a q O o D d) (by omega)
    have b7 := below_row b5 (g := w.heap.size + 1) (cs := v4a q O o D d) (by omega)
    exact bodyPost_ret (results_cell_row rfl _ _ (w.heap.size + 1) 25 (v4a q O o D d) (0, 0) _ rfl (setRow_heap _ _ _ _ _ _ hR5) Try.underlying25 rfl (by kernel_rfl)) rfl ⟨O, o, D, d, rfl, Made.of_own (own_base oO7 (by omega)) b7, Made.of_own (own_base oD7 (by omega)) b7⟩
set_option maxRecDepth 100000 in
set_option maxHeartbeats 4000000 in
theorem c12pkO (ho : q.opt.length ≤ 1000000) (hl : q.dat.length ≤ 900000) (B : Nat) (hO : Arg w B A c q.opt) (hD : Arg w B A' c' q.dat) (hB0 : B ≤ w.heap.size) (n : Int) (he : ofE q = 0) (hk : q.proto = 6) : Calls Try.prog 7 #[v4v q A c A' c', .int .i64 n] w fun e w' => ∃ P p P' p', e = .returned (v4v (datP q (bldT q.src q.dst (sgT (inT q) n))) P p P' p') ∧ Made w w' (.slice P q.opt.length p) q.opt ∧ Made w w' (.slice P' (bldT q.src q.dst (sgT (inT q) n)).length p') (bldT q.src q.dst (sgT (inT q) n)) := by
  have HE := Lib.hid he
  have HV := Lib.hid (show ofV q = prA q.proto (ptS q) (ptD q) by rw [ofV, if_pos he])
  have dk : (q.proto != 6) = false := by simpa using hk
  obtain ⟨-, hlo, hlt, -⟩ := in_len he
  have hsg := chkT_sg (most := n) (inT_chk he hk)
  obtain ⟨u, hu⟩ : ∃ y, y = inT q := ⟨_, rfl⟩
  rw [← hu] at hlo hlt hsg ⊢
  have HU := Lib.hid (show u = prsT q.src q.dst q.dat from hu)
  have HC := Lib.hid hsg
  obtain ⟨R, hR0'⟩ : ∃ l, l = bldT q.src q.dst (sgT u n) := ⟨_, rfl⟩
  have HR := Lib.hid hR0'
  rw [← hR0']
  have hso : (sgT u n).opt.length = u.opt.length := sgO_len _ _ _
  have HSO := Lib.hid hso
  clear he hk hu hsg hR0' hso
  rw [v4q_eq]
  have hB : Below w.heap.size w ((w.alloc (.cells (v4a q A c A' c') 25)).alloc (.cells (v4a p4z none 0 none 0) 25)) := below_two w _ _
  have hP0 : ((w.alloc (.cells (v4a q A c A' c') 25)).alloc (.cells (v4a p4z none 0 none 0) 25)).heap[w.heap.size]? = some (.cells (v4a q A c A' c') 25 (0, 0)) := (Below.heap_alloc (w.alloc (.cells (v4a q A c A' c') 25)) _ w.heap.size (by simp)).trans (World.alloc_heap_new w _)
  have hR0 : ((w.alloc (.cells (v4a q A c A' c') 25)).alloc (.cells (v4a p4z none 0 none 0) 25)).heap[w.heap.size + 1]? = some (.cells (v4a p4z none 0 none 0) 25 (0, 0)) := by
    have := World.alloc_heap_new (w.alloc (.cells (v4a q A c A' c') 25)) (.cells (v4a p4z none 0 none 0) 25)
    rwa [World.size_alloc] at this
  go_enter Try.func7, Try.ntmps7
  go_upto_region 1 with fail
  rw [show #[.int .i64 0, .int .i64 0, .int .i64 0, .int .i64 0, .int .i64 0, .int .i64 0, .int .i64 0, .bool false, .bool false, .slice none 0 0, .slice none 0 0] = v4a p4z none 0 none 0 from rfl]
  generalize (w.alloc (.cells (v4a q A c A' c') 25)).alloc (.cells (v4a p4z none 0 none 0) 25) = W at *
  have hO1 := hO.below (hB.mono hB0)
  have hD1 := hD.below (hB.mono hB0)
  have zW := Nat.le_trans hB0 hB.size
  have zP := heap_lt hP0
  have zR := heap_lt hR0
  have kO0 := (At4.of_heap hP0).opt
  have kD0 := (At4.of_heap hP0).dat
  refine wp_region_held_drew (S := fun _ => True) (by kernel_rfl) trivial (fun hS => ?_)
  refine held_pure (i := 0) (oi := ⟨some 9, _, _, _, _, _⟩) rfl (by kernel_rfl) (by kernel_rfl) (by kernel_rfl) (fun _ _ _ h => h) (by rfl) (v := ?_) (fun w hSw => ?_) hS (fun hS => ?_)
  rotate_left
  · go_simp; try with_reducible rfl
  try go_frame
  refine held_pure (i := 3) (oi := ⟨some 12, _, _, _, _, _⟩) rfl (by kernel_rfl) (by kernel_rfl) (by kernel_rfl) (fun _ _ _ h => h) (by rfl) (v := ?_) (fun w hSw => ?_) hS (fun hS => ?_)
  rotate_left
  · go_simp; try with_reducible rfl
  try go_frame
  refine wpAnyH_ready (rs := [1, 4]) (by kernel_rfl) (by simp) (AllReadyH.cons (o := ⟨some 10, _, _, _, _, _⟩) rfl (fun K hK => ?_) (AllReadyH.cons (o := ⟨some 13, _, _, _, _, _⟩) rfl (fun K hK => ?_) AllReadyH.nil))
  · rw [if_pos (by rfl)]
    refine wp_val (v := .slice A q.opt.length c) (by first | exact run_load_sl rfl rfl kO0) ?_
    refine hK.out _ _ trivial (fun hS => ?_)
    clear hK K
    try go_frame
    refine wpAnyH_ready (rs := [2, 4]) (by kernel_rfl) (by simp) (AllReadyH.cons (o := ⟨some 11, _, _, _, _, _⟩) rfl (fun K hK => ?_) (AllReadyH.cons (o := ⟨some 13, _, _, _, _, _⟩) rfl (fun K hK => ?_) AllReadyH.nil))
    · rw [if_pos (by rfl)]
      go_simp
      refine (clone_any A q.opt c B _ (hO1.below (Below.refl _ W).drew) zW (by omega)).mono ?_
      rintro e w2 ⟨v2, rfl, m2⟩
      obtain ⟨O, o, rfl, g2, o2, y2⟩ := made_shape m2
      clear m2 g2
      have o2 : w2.ownsRow W.heap.size 5 1 (.slice O q.opt.length o) q.opt.length (row q.opt) := o2
      have x2 : Below W.heap.size W w2 := (Below.refl _ W).drew.trans y2
      have hP2 := (x2.block w.heap.size zP).trans hP0
      have hR2 := (x2.block (w.heap.size + 1) zR).trans hR0
      have kD2 := (At4.of_heap hP2).dat
      have hD2 := hD1.below (x2.mono zW)
      have hgO : ∀ g, O = some ⟨g, 0, none⟩ → 0 < q.opt.length → g < w2.heap.size := fun g e hl => by { subst e; exact (own_cell o2 (i := 0) hl).2.2.2.1 }
      show K _ _
      refine hK.out _ _ trivial (fun hS => ?_)
      clear hK K
      try go_frame
      refine wpAnyH_ready (rs := [4]) (by kernel_rfl) (by simp) (AllReadyH.cons (o := ⟨some 13, _, _, _, _, _⟩) rfl (fun K hK => ?_) AllReadyH.nil)
      rw [if_pos (by rfl)]
      refine wp_val (v := .slice A' q.dat.length c') (by first | exact run_load_sl rfl rfl kD0 | exact run_load_sl rfl rfl kD2) ?_
      refine hK.out _ _ trivial (fun hS => ?_)
      clear hK K
      try go_frame
      refine held_pure (i := 6) (oi := ⟨some 15, _, _, _, _, _⟩) rfl (by kernel_rfl) (by kernel_rfl) (by kernel_rfl) (fun _ _ _ h => h) (by rfl) (v := ?_) (fun w hSw => ?_) hS (fun hS => ?_)
      rotate_left
      · go_simp; try with_reducible rfl
      try go_frame
      refine wpAnyH_ready (rs := [5]) (by kernel_rfl) (by simp) (AllReadyH.cons (o := ⟨some 14, _, _, _, _, _⟩) rfl (fun K hK => ?_) AllReadyH.nil)
      rw [if_pos (by rfl)]
      go_simp
      refine (clone_any A' q.dat c' B _ hD2 (Nat.le_trans zW x2.size) (by omega)).mono ?_
      rintro e w3 ⟨v3, rfl, m3⟩
      obtain ⟨D, d, rfl, g3, o3, y3⟩ := made_shape m3
      clear m3 g3
      have hP3 := (y3.block w.heap.size (heap_lt hP2)).trans hP2
      have hR3 := (y3.block (w.heap.size + 1) (heap_lt hR2)).trans hR2
      have oO3 := own_below o2 y3
      have kO3 := (At4.of_heap hP3).opt
      have fO3 := heap_frozen hP3 9
      have x3 := x2.trans (y3.mono x2.size)
      have zx2 := x2.size
      show K _ _
      refine hK.out _ _ trivial (fun hS => ?_)
      clear hK K
      try go_frame
      refine wpAnyH_ready (rs := [7]) (by kernel_rfl) (by simp) (AllReadyH.cons (o := ⟨none, _, _, _, _, _⟩) rfl (fun K hK => ?_) AllReadyH.nil)
      rw [if_pos (by rfl)]
      refine store_sl_wp rfl rfl rfl kO3 fO3 ?_
      have hP4 : (w3.setCell ⟨w.heap.size, 9, none⟩ (.slice O q.opt.length o)).heap[w.heap.size]? = some (.cells (v4a q O o A' c') 25 (0, 0)) := heap_setCell_same w3 w.heap.size 9 _ _ (.slice O q.opt.length o) hP3
      have hR4 := (heap_setCell_other w3 ⟨w.heap.size, 9, none⟩ (w.heap.size + 1) (.slice O q.opt.length o) (by show w.heap.size + 1 ≠ w.heap.size; omega)).trans hR3
      have kD4 := (At4.of_heap hP4).dat
      have fD4 := heap_frozen hP4 10
      have oO4 := own_setCell oO3 (p := ⟨w.heap.size, 9, none⟩) (u := .slice O q.opt.length o) zP
      have oD4 := own_setCell o3 (p := ⟨w.heap.size, 9, none⟩) (u := .slice O q.opt.length o) (Nat.lt_of_lt_of_le zP zx2)
      have b4 := (hB.trans (x3.mono hB.size)).setCell (p := ⟨w.heap.size, 9, none⟩) (Nat.le_refl _) (.slice O q.opt.length o)
      clear hP2 hR2 kD2 hD2 hP3 hR3 oO3 kO3 fO3 o2 o3 y2 y3
      generalize w3.setCell ⟨w.heap.size, 9, none⟩ (.slice O q.opt.length o) = V4 at *
      refine hK.out _ _ trivial (fun hS => ?_)
      clear hK K
      try go_frame
      refine held_pure (i := 8) (oi := ⟨some 16, _, _, _, _, _⟩) rfl (by kernel_rfl) (by kernel_rfl) (by kernel_rfl) (fun _ _ _ h => h) (by rfl) (v := ?_) (fun w hSw => ?_) hS (fun hS => ?_)
      rotate_left
      · go_simp; try with_reducible rfl
      try go_frame
      refine wpAnyH_ready (rs := [9]) (by kernel_rfl) (by simp) (AllReadyH.cons (o := ⟨none, _, _, _, _, _⟩) rfl (fun K hK => ?_) AllReadyH.nil)
      rw [if_pos (by rfl)]
      refine store_sl_wp rfl rfl rfl kD4 fD4 ?_
      have hP : (V4.setCell ⟨w.heap.size, 10, none⟩ (.slice D q.dat.length d)).heap[w.heap.size]? = some (.cells (v4a q O o D d) 25 (0, 0)) := heap_setCell_same V4 w.heap.size 10 _ _ (.slice D q.dat.length d) hP4
      have hR := (heap_setCell_other V4 ⟨w.heap.size, 10, none⟩ (w.heap.size + 1) (.slice D q.dat.length d) (by show w.heap.size + 1 ≠ w.heap.size; omega)).trans hR4
      have oO := own_setCell oO4 (p := ⟨w.heap.size, 10, none⟩) (u := .slice D q.dat.length d) zP
      have oD := own_setCell oD4 (p := ⟨w.heap.size, 10, none⟩) (u := .slice D q.dat.length d) (Nat.lt_of_lt_of_le zP zx2)
      have bV := b4.setCell (p := ⟨w.heap.size, 10, none⟩) (Nat.le_refl _) (.slice D q.dat.length d)
      clear hP4 hR4 kD4 fD4 oO4 oD4 b4 hP0 hR0 hO1 hD1 kO0 kD0 x2 x3
      generalize V4.setCell ⟨w.heap.size, 10, none⟩ (.slice D q.dat.length d) = V at *
      have hat := At4.of_heap hP
      have gO := arg_own oO
      have gD := arg_own oD
      refine hK.out _ _ trivial (fun hS => ?_)
      clear hK K
      try go_frame
      refine wpAnyH_done (by kernel_rfl) ?_ _
      go_upto_region 3 with (first
        | ((with_reducible show wpList _ _ _ (Oper.mk (some 18) (Op.load 25 _) _ _ _ _ :: _) _ _); refine wpList_val rfl (run_load_v4 rfl rfl hat rfl) ?_)
        | (go_at_call 8; refine (cOf q O o D d V ho hl V.heap.size gD (Nat.le_refl _)).mono ?_; rintro e w5 ⟨rfl, x5⟩; rw [HV.out, HE.out])
        | ((with_reducible show wpList _ _ _ (Oper.mk _ (Op.store 31 _ _) _ _ _ _ :: _) _ _); refine pr_store_new (cs := prA q.proto (ptS q) (ptD q)) rfl rfl rfl rfl (prA_one _ _ _) ?_))
      have j5 : Below w5.heap.size w5 (w5.alloc (.cells (prA q.proto (ptS q) (ptD q)) 31)) := (Below.refl _ w5).alloc (Nat.le_refl _) _
      have kp : (w5.alloc (.cells (prA q.proto (ptS q) (ptD q)) 31)).cell? ⟨w5.heap.size, 0, none⟩ = some (.int .i64 q.proto) := range_new w5 (prA q.proto (ptS q) (ptD q)) _ 0 _ rfl
      have x5j := x5.trans (j5.mono x5.size)
      have hP5 := (x5j.block w.heap.size (heap_lt hP)).trans hP
      have hR5 := (x5j.block (w.heap.size + 1) (heap_lt hR)).trans hR
      have hat5 := At4.of_heap hP5
      have kq4 := hat5.proto
      have oO5 := own_below oO x5j
      have oD5 := own_below oD x5j
      have b5 := bV.trans (x5j.mono bV.size)
      generalize w5.alloc (.cells (prA q.proto (ptS q) (ptD q)) 31) = X5 at *
      clear hat gO gD x5 j5 x5j oO oD bV hP hR
      have kq5 := hat5.src
      have kq6 := hat5.dst
      have kq10 := hat5.dat
      have gD5 := arg_own oD5
      go_upto_region 6 with (first
        | (go_at_call 15; refine (cTparse q.dat D d q.src q.dst X5 X5.heap.size gD5 (Nat.le_refl _) (by omega)).mono ?_; rintro e w6 ⟨P, p, P', p', rfl, m1, m2⟩; rw [← HU.out] at m1 m2; rw [← HU.out])
        | ((with_reducible show wpList _ _ _ (Oper.mk _ (Op.store 37 _ _) _ _ _ _ :: _) _ _); refine ts_store_new (cs := tsa u P p P' p') rfl rfl rfl rfl (ts_one _ _ _ _ _) ?_))
      have x6 := m1.below
      have j6 : Below w6.heap.size w6 (w6.alloc (.cells (tsa u P p P' p') 37)) := (Below.refl _ w6).alloc (Nat.le_refl _) _
      have x6j := x6.trans (j6.mono x6.size)
      have hP6 := (x6j.block w.heap.size (heap_lt hP5)).trans hP5
      have hR6 := (x6j.block (w.heap.size + 1) (heap_lt hR5)).trans hR5
      have hI6 := World.alloc_heap_new w6 (.cells (tsa u P p P' p') 37)
      have zr5 := Nat.lt_of_lt_of_le (heap_lt hR5) x6.size
      have z6 : w6.heap.size < (w6.alloc (.cells (tsa u P p P' p') 37)).heap.size := by simp
      have oO6 := own_below oO5 x6j
      have b6 := b5.trans (x6j.mono b5.size)
      have am1 := (made_arg m1).below j6
      have am2 := (made_arg m2).below j6
      generalize w6.alloc (.cells (tsa u P p P' p') 37) = X6 at *
      have at6 := Atts.of_heap hI6
      clear kq4 kq5 kq6 kq10 gD5 hP5 hR5 hat5 oO5 oD5 b5 x6 j6 x6j m1 m2 kp
      have zb6 := heap_lt hR6
      have zbw := heap_lt hP6
      refine wp_region_held_drew (S := fun w' => Below X6.heap.size X6 w' ∨ (w'.cell? ⟨w.heap.size, 5, none⟩ = some (.int .i64 q.src) ∧ w'.cell? ⟨w.heap.size, 6, none⟩ = some (.int .i64 q.dst) ∧ Atts w' w6.heap.size u P p P' p')) (by kernel_rfl) (.inl (Below.refl _ X6).drew) (fun hS => ?_)
      refine held_pure (i := 0) (oi := ⟨some 41, _, _, _, _, _⟩) rfl (by kernel_rfl) (by kernel_rfl) (by kernel_rfl) (fun _ _ _ h => h) (by rfl) (v := ?_) (fun w hSw => ?_) hS (fun hS => ?_)
      rotate_left
      · go_simp; try with_reducible rfl
      try go_frame
      refine held_pure (i := 1) (oi := ⟨some 42, _, _, _, _, _⟩) rfl (by kernel_rfl) (by kernel_rfl) (by kernel_rfl) (fun _ _ _ h => h) (by rfl) (fun w hSw => run_load_int rfl rfl (by rcases hSw with h | h; exact ((At4.of_heap ((h.block _ zbw).trans hP6)).src); exact h.1)) hS (fun hS => ?_)
      try go_frame
      refine held_pure (i := 2) (oi := ⟨some 43, _, _, _, _, _⟩) rfl (by kernel_rfl) (by kernel_rfl) (by kernel_rfl) (fun _ _ _ h => h) (by rfl) (v := ?_) (fun w hSw => ?_) hS (fun hS => ?_)
      rotate_left
      · go_simp; try with_reducible rfl
      try go_frame
      refine held_pure (i := 3) (oi := ⟨some 44, _, _, _, _, _⟩) rfl (by kernel_rfl) (by kernel_rfl) (by kernel_rfl) (fun _ _ _ h => h) (by rfl) (fun w hSw => run_load_int rfl rfl (by rcases hSw with h | h; exact ((At4.of_heap ((h.block _ zbw).trans hP6)).dst); exact h.2.1)) hS (fun hS => ?_)
      try go_frame
      refine held_pure (i := 4) (oi := ⟨some 45, _, _, _, _, _⟩) rfl (by kernel_rfl) (by kernel_rfl) (by kernel_rfl) (fun _ _ _ h => h) (by rfl) (fun w hSw => run_load_ts rfl rfl (by rcases hSw with h | h; exact at6.below h z6; exact h.2.2) rfl) hS (fun hS => ?_)
      try go_frame
      refine held_pure (i := 5) (oi := ⟨some 46, _, _, _, _, _⟩) rfl (by kernel_rfl) (by kernel_rfl) (by kernel_rfl) (fun _ _ _ h => h) (by rfl) (v := ?_) (fun w hSw => ?_) hS (fun hS => ?_)
      rotate_left
      · go_simp; try with_reducible rfl
      try go_frame
      refine wpAnyH_ready (rs := [6]) (by kernel_rfl) (by simp) (AllReadyH.cons (o := ⟨some 47, _, _, _, _, _⟩) rfl (fun K hK => ?_) AllReadyH.nil)
      rw [if_pos (by rfl)]
      go_simp
      refine (c12seg u P p P' p' _ (by omega) (by omega) w6.heap.size (am1.below ((Below.refl X6.heap.size X6).drew.mono (Nat.le_of_lt z6))) (am2.below ((Below.refl X6.heap.size X6).drew.mono (Nat.le_of_lt z6))) (Nat.le_of_lt z6) n).mono ?_
      rintro e w7 ⟨Q1, r1, Q2, r2, rfl, m3, m4⟩
      have y7 : Below X6.heap.size X6 w7 := (Below.refl _ X6).drew.trans m3.below
      have a3 := made_arg m3
      have a4 := made_arg m4
      show K _ _
      refine hK.out _ _ (.inl y7) (fun hS => ?_)
      clear hK K
      try go_frame
      refine wpAnyH_ready (rs := [7]) (by kernel_rfl) (by simp) (AllReadyH.cons (o := ⟨some 48, _, _, _, _, _⟩) rfl (fun K hK => ?_) AllReadyH.nil)
      rw [if_pos (by rfl)]
      go_simp
      refine (cTbuild (sgT u n) Q1 r1 Q2 r2 q.src q.dst _ w7.heap.size a3 a4 (Nat.le_refl _) (by have := HSO.out; omega) (by show u.dat.length ≤ _; omega)).mono ?_
      rintro e w8 ⟨v8, rfl, -, m5⟩
      have m5 := m5 HC.out
      rw [← HR.out] at m5
      obtain ⟨D8, d8, rfl, g8, o8, y8⟩ := made_shape m5
      have x8 := y7.trans (y8.mono y7.size)
      have hP8 := (x8.block w.heap.size (by omega)).trans hP6
      have hR8 := (x8.block (w.heap.size + 1) (by omega)).trans hR6
      have oO8 := own_below oO6 x8
      have b8 := b6.trans (x8.mono b6.size)
      have k10 := (At4.of_heap hP8).dat
      have f10 := heap_frozen hP8 10
      have zy7 := y7.size
      show K _ _
      refine hK.out _ _ (.inl x8) (fun hS => ?_)
      clear hK K
      try go_frame
      refine held_pure (i := 8) (oi := ⟨some 40, _, _, _, _, _⟩) rfl (by kernel_rfl) (by kernel_rfl) (by kernel_rfl) (fun _ _ _ h => h) (by rfl) (v := ?_) (fun w hSw => ?_) hS (fun hS => ?_)
      rotate_left
      · go_simp; try with_reducible rfl
      try go_frame
      refine held_pure (i := 9) (oi := ⟨some 49, _, _, _, _, _⟩) rfl (by kernel_rfl) (by kernel_rfl) (by kernel_rfl) (fun _ _ _ h => h) (by rfl) (v := ?_) (fun w hSw => ?_) hS (fun hS => ?_)
      rotate_left
      · go_simp; try with_reducible rfl
      try go_frame
      refine held_pure (i := 10) (oi := ⟨some 50, _, _, _, _, _⟩) rfl (by kernel_rfl) (by kernel_rfl) (by kernel_rfl) (fun _ _ _ h => h) (by rfl) (v := ?_) (fun w hSw => ?_) hS (fun hS => ?_)
      rotate_left
      · go_simp; try with_reducible rfl
      try go_frame
      refine held_pure (i := 11) (oi := ⟨some 51, _, _, _, _, _⟩) rfl (by kernel_rfl) (by kernel_rfl) (by kernel_rfl) (fun _ _ _ h => h) (by rfl) (v := ?_) (fun w hSw => ?_) hS (fun hS => ?_)
      rotate_left
      · go_simp; try with_reducible rfl
      try go_frame
      refine wpAnyH_ready (rs := [12]) (by kernel_rfl) (by simp) (AllReadyH.cons (o := ⟨none, _, _, _, _, _⟩) rfl (fun K hK => ?_) AllReadyH.nil)
      rw [if_pos (by rfl)]
      refine store_sl_wp rfl rfl rfl k10 f10 ?_
      have hP9 : (w8.setCell ⟨w.heap.size, 10, none⟩ (.slice D8 R.length d8)).heap[w.heap.size]? = some (.cells (v4a (datP q R) O o D8 d8) 25 (0, 0)) := heap_setCell_same w8 w.heap.size 10 _ _ (.slice D8 R.length d8) hP8
      have hR9 := (heap_setCell_other w8 ⟨w.heap.size, 10, none⟩ (w.heap.size + 1) (.slice D8 R.length d8) (by show w.heap.size + 1 ≠ w.heap.size; omega)).trans hR8
      have oO9 := own_setCell oO8 (p := ⟨w.heap.size, 10, none⟩) (u := .slice D8 R.length d8) zP
      have oD9 := own_setCell o8 (p := ⟨w.heap.size, 10, none⟩) (u := .slice D8 R.length d8) (by show w.heap.size < w7.heap.size; omega)
      have b9 := b8.setCell (p := ⟨w.heap.size, 10, none⟩) (Nat.le_refl _) (.slice D8 R.length d8)
      have hI9 := (heap_setCell_other w8 ⟨w.heap.size, 10, none⟩ w6.heap.size (.slice D8 R.length d8) (by show w6.heap.size ≠ w.heap.size; omega)).trans ((x8.block w6.heap.size z6).trans hI6)
      have t9 := Atts.of_heap hI9
      generalize w8.setCell ⟨w.heap.size, 10, none⟩ (.slice D8 R.length d8) = w9 at *
      refine hK.out _ _ (.inr ⟨(At4.of_heap hP9).src, (At4.of_heap hP9).dst, t9⟩) (fun hS => ?_)
      clear hK K
      try go_frame
      refine wpAnyH_done (by kernel_rfl) ?_ _
      have at9 := At4.of_heap hP9
      go_wp2_with (first
        | ((with_reducible show wpList _ _ _ (Oper.mk (some 52) (Op.load 25 _) _ _ _ _ :: _) _ _); refine wpList_val rfl (run_load_v4 rfl rfl at9 rfl) ?_)
        | ((with_reducible show wpList _ _ _ (Oper.mk _ (Op.store 25 _ _) _ _ _ _ :: _) _ _); refine v4_store (g := w.heap.size + 1) (cs := v4a (datP q R) O o D8 d8) rfl rfl hR9 rfl rfl (v4a_one _ _ _ _ _) ?_))
      have oO7 := own_setRow oO9 (g := w.heap.size + 1) (cs := v4a (datP q R) O o D8 d8) (by omega)
      have oD7 := own_setRow oD9 (g := w.heap.size + 1) (cs := v4a (datP q R) O o D8 d8) (by omega)
      have b7 := below_row b9 (g := w.heap.size + 1) (cs := v4a (datP q R) O o D8 d8) (by omega)
      exact bodyPost_ret (results_cell_row rfl _ _ (w.heap.size + 1) 25 (v4a (datP q R) O o D8 d8) (0, 0) _ rfl (setRow_heap _ _ _ _ _ _ hR9) Try.underlying25 rfl (by kernel_rfl)) rfl ⟨O, o, D8, d8, rfl, Made.of_own (own_base oO7 (by omega)) b7, Made.of_own (own_base oD7 (by omega)) b7⟩
    · rw [if_pos (by rfl)]
      refine wp_val (v := .slice A' q.dat.length c') (by first | exact run_load_sl rfl rfl kD0 | exact run_load_sl rfl rfl kD2) ?_
      refine hK.out _ _ trivial (fun hS => ?_)
      clear hK K
      try go_frame
      refine wpAnyH_ready (rs := [2]) (by kernel_rfl) (by simp) (AllReadyH.cons (o := ⟨some 11, _, _, _, _, _⟩) rfl (fun K hK => ?_) AllReadyH.nil)
      rw [if_pos (by rfl)]
      go_simp
      refine (clone_any A q.opt c B _ (hO1.below (Below.refl _ W).drew) zW (by omega)).mono ?_
      rintro e w2 ⟨v2, rfl, m2⟩
      obtain ⟨O, o, rfl, g2, o2, y2⟩ := made_shape m2
      clear m2 g2
      have o2 : w2.ownsRow W.heap.size 5 1 (.slice O q.opt.length o) q.opt.length (row q.opt) := o2
      have x2 : Below W.heap.size W w2 := (Below.refl _ W).drew.trans y2
      have hP2 := (x2.block w.heap.size zP).trans hP0
      have hR2 := (x2.block (w.heap.size + 1) zR).trans hR0
      have kD2 := (At4.of_heap hP2).dat
      have hD2 := hD1.below (x2.mono zW)
      have hgO : ∀ g, O = some ⟨g, 0, none⟩ → 0 < q.opt.length → g < w2.heap.size := fun g e hl => by { subst e; exact (own_cell o2 (i := 0) hl).2.2.2.1 }
      show K _ _
      refine hK.out _ _ trivial (fun hS => ?_)
      clear hK K
      try go_frame
      refine held_pure (i := 6) (oi := ⟨some 15, _, _, _, _, _⟩) rfl (by kernel_rfl) (by kernel_rfl) (by kernel_rfl) (fun _ _ _ h => h) (by rfl) (v := ?_) (fun w hSw => ?_) hS (fun hS => ?_)
      rotate_left
      · go_simp; try with_reducible rfl
      try go_frame
      refine wpAnyH_ready (rs := [5]) (by kernel_rfl) (by simp) (AllReadyH.cons (o := ⟨some 14, _, _, _, _, _⟩) rfl (fun K hK => ?_) AllReadyH.nil)
      rw [if_pos (by rfl)]
      go_simp
      refine (clone_any A' q.dat c' B _ hD2 (Nat.le_trans zW x2.size) (by omega)).mono ?_
      rintro e w3 ⟨v3, rfl, m3⟩
      obtain ⟨D, d, rfl, g3, o3, y3⟩ := made_shape m3
      clear m3 g3
      have hP3 := (y3.block w.heap.size (heap_lt hP2)).trans hP2
      have hR3 := (y3.block (w.heap.size + 1) (heap_lt hR2)).trans hR2
      have oO3 := own_below o2 y3
      have kO3 := (At4.of_heap hP3).opt
      have fO3 := heap_frozen hP3 9
      have x3 := x2.trans (y3.mono x2.size)
      have zx2 := x2.size
      show K _ _
      refine hK.out _ _ trivial (fun hS => ?_)
      clear hK K
      try go_frame
      refine wpAnyH_ready (rs := [7]) (by kernel_rfl) (by simp) (AllReadyH.cons (o := ⟨none, _, _, _, _, _⟩) rfl (fun K hK => ?_) AllReadyH.nil)
      rw [if_pos (by rfl)]
      refine store_sl_wp rfl rfl rfl kO3 fO3 ?_
      have hP4 : (w3.setCell ⟨w.heap.size, 9, none⟩ (.slice O q.opt.length o)).heap[w.heap.size]? = some (.cells (v4a q O o A' c') 25 (0, 0)) := heap_setCell_same w3 w.heap.size 9 _ _ (.slice O q.opt.length o) hP3
      have hR4 := (heap_setCell_other w3 ⟨w.heap.size, 9, none⟩ (w.heap.size + 1) (.slice O q.opt.length o) (by show w.heap.size + 1 ≠ w.heap.size; omega)).trans hR3
      have kD4 := (At4.of_heap hP4).dat
      have fD4 := heap_frozen hP4 10
      have oO4 := own_setCell oO3 (p := ⟨w.heap.size, 9, none⟩) (u := .slice O q.opt.length o) zP
      have oD4 := own_setCell o3 (p := ⟨w.heap.size, 9, none⟩) (u := .slice O q.opt.length o) (Nat.lt_of_lt_of_le zP zx2)
      have b4 := (hB.trans (x3.mono hB.size)).setCell (p := ⟨w.heap.size, 9, none⟩) (Nat.le_refl _) (.slice O q.opt.length o)
      clear hP2 hR2 kD2 hD2 hP3 hR3 oO3 kO3 fO3 o2 o3 y2 y3
      generalize w3.setCell ⟨w.heap.size, 9, none⟩ (.slice O q.opt.length o) = V4 at *
      refine hK.out _ _ trivial (fun hS => ?_)
      clear hK K
      try go_frame
      refine held_pure (i := 8) (oi := ⟨some 16, _, _, _, _, _⟩) rfl (by kernel_rfl) (by kernel_rfl) (by kernel_rfl) (fun _ _ _ h => h) (by rfl) (v := ?_) (fun w hSw => ?_) hS (fun hS => ?_)
      rotate_left
      · go_simp; try with_reducible rfl
      try go_frame
      refine wpAnyH_ready (rs := [9]) (by kernel_rfl) (by simp) (AllReadyH.cons (o := ⟨none, _, _, _, _, _⟩) rfl (fun K hK => ?_) AllReadyH.nil)
      rw [if_pos (by rfl)]
      refine store_sl_wp rfl rfl rfl kD4 fD4 ?_
      have hP : (V4.setCell ⟨w.heap.size, 10, none⟩ (.slice D q.dat.length d)).heap[w.heap.size]? = some (.cells (v4a q O o D d) 25 (0, 0)) := heap_setCell_same V4 w.heap.size 10 _ _ (.slice D q.dat.length d) hP4
      have hR := (heap_setCell_other V4 ⟨w.heap.size, 10, none⟩ (w.heap.size + 1) (.slice D q.dat.length d) (by show w.heap.size + 1 ≠ w.heap.size; omega)).trans hR4
      have oO := own_setCell oO4 (p := ⟨w.heap.size, 10, none⟩) (u := .slice D q.dat.length d) zP
      have oD := own_setCell oD4 (p := ⟨w.heap.size, 10, none⟩) (u := .slice D q.dat.length d) (Nat.lt_of_lt_of_le zP zx2)
      have bV := b4.setCell (p := ⟨w.heap.size, 10, none⟩) (Nat.le_refl _) (.slice D q.dat.length d)
      clear hP4 hR4 kD4 fD4 oO4 oD4 b4 hP0 hR0 hO1 hD1 kO0 kD0 x2 x3
      generalize V4.setCell ⟨w.heap.size, 10, none⟩ (.slice D q.dat.length d) = V at *
      have hat := At4.of_heap hP
      have gO := arg_own oO
      have gD := arg_own oD
      refine hK.out _ _ trivial (fun hS => ?_)
      clear hK K
      try go_frame
      refine wpAnyH_done (by kernel_rfl) ?_ _
      go_upto_region 3 with (first
        | ((with_reducible show wpList _ _ _ (Oper.mk (some 18) (Op.load 25 _) _ _ _ _ :: _) _ _); refine wpList_val rfl (run_load_v4 rfl rfl hat rfl) ?_)
        | (go_at_call 8; refine (cOf q O o D d V ho hl V.heap.size gD (Nat.le_refl _)).mono ?_; rintro e w5 ⟨rfl, x5⟩; rw [HV.out, HE.out])
        | ((with_reducible show wpList _ _ _ (Oper.mk _ (Op.store 31 _ _) _ _ _ _ :: _) _ _); refine pr_store_new (cs := prA q.proto (ptS q) (ptD q)) rfl rfl rfl rfl (prA_one _ _ _) ?_))
      have j5 : Below w5.heap.size w5 (w5.alloc (.cells (prA q.proto (ptS q) (ptD q)) 31)) := (Below.refl _ w5).alloc (Nat.le_refl _) _
      have kp : (w5.alloc (.cells (prA q.proto (ptS q) (ptD q)) 31)).cell? ⟨w5.heap.size, 0, none⟩ = some (.int .i64 q.proto) := range_new w5 (prA q.proto (ptS q) (ptD q)) _ 0 _ rfl
      have x5j := x5.trans (j5.mono x5.size)
      have hP5 := (x5j.block w.heap.size (heap_lt hP)).trans hP
      have hR5 := (x5j.block (w.heap.size + 1) (heap_lt hR)).trans hR
      have hat5 := At4.of_heap hP5
      have kq4 := hat5.proto
      have oO5 := own_below oO x5j
      have oD5 := own_below oD x5j
      have b5 := bV.trans (x5j.mono bV.size)
      generalize w5.alloc (.cells (prA q.proto (ptS q) (ptD q)) 31) = X5 at *
      clear hat gO gD x5 j5 x5j oO oD bV hP hR
      have kq5 := hat5.src
      have kq6 := hat5.dst
      have kq10 := hat5.dat
      have gD5 := arg_own oD5
      go_upto_region 6 with (first
        | (go_at_call 15; refine (cTparse q.dat D d q.src q.dst X5 X5.heap.size gD5 (Nat.le_refl _) (by omega)).mono ?_; rintro e w6 ⟨P, p, P', p', rfl, m1, m2⟩; rw [← HU.out] at m1 m2; rw [← HU.out])
        | ((with_reducible show wpList _ _ _ (Oper.mk _ (Op.store 37 _ _) _ _ _ _ :: _) _ _); refine ts_store_new (cs := tsa u P p P' p') rfl rfl rfl rfl (ts_one _ _ _ _ _) ?_))
      have x6 := m1.below
      have j6 : Below w6.heap.size w6 (w6.alloc (.cells (tsa u P p P' p') 37)) := (Below.refl _ w6).alloc (Nat.le_refl _) _
      have x6j := x6.trans (j6.mono x6.size)
      have hP6 := (x6j.block w.heap.size (heap_lt hP5)).trans hP5
      have hR6 := (x6j.block (w.heap.size + 1) (heap_lt hR5)).trans hR5
      have hI6 := World.alloc_heap_new w6 (.cells (tsa u P p P' p') 37)
      have zr5 := Nat.lt_of_lt_of_le (heap_lt hR5) x6.size
      have z6 : w6.heap.size < (w6.alloc (.cells (tsa u P p P' p') 37)).heap.size := by simp
      have oO6 := own_below oO5 x6j
      have b6 := b5.trans (x6j.mono b5.size)
      have am1 := (made_arg m1).below j6
      have am2 := (made_arg m2).below j6
      generalize w6.alloc (.cells (tsa u P p P' p') 37) = X6 at *
      have at6 := Atts.of_heap hI6
      clear kq4 kq5 kq6 kq10 gD5 hP5 hR5 hat5 oO5 oD5 b5 x6 j6 x6j m1 m2 kp
      have zb6 := heap_lt hR6
      have zbw := heap_lt hP6
      refine wp_region_held_drew (S := fun w' => Below X6.heap.size X6 w' ∨ (w'.cell? ⟨w.heap.size, 5, none⟩ = some (.int .i64 q.src) ∧ w'.cell? ⟨w.heap.size, 6, none⟩ = some (.int .i64 q.dst) ∧ Atts w' w6.heap.size u P p P' p')) (by kernel_rfl) (.inl (Below.refl _ X6).drew) (fun hS => ?_)
      refine held_pure (i := 0) (oi := ⟨some 41, _, _, _, _, _⟩) rfl (by kernel_rfl) (by kernel_rfl) (by kernel_rfl) (fun _ _ _ h => h) (by rfl) (v := ?_) (fun w hSw => ?_) hS (fun hS => ?_)
      rotate_left
      · go_simp; try with_reducible rfl
      try go_frame
      refine held_pure (i := 1) (oi := ⟨some 42, _, _, _, _, _⟩) rfl (by kernel_rfl) (by kernel_rfl) (by kernel_rfl) (fun _ _ _ h => h) (by rfl) (fun w hSw => run_load_int rfl rfl (by rcases hSw with h | h; exact ((At4.of_heap ((h.block _ zbw).trans hP6)).src); exact h.1)) hS (fun hS => ?_)
      try go_frame
      refine held_pure (i := 2) (oi := ⟨some 43, _, _, _, _, _⟩) rfl (by kernel_rfl) (by kernel_rfl) (by kernel_rfl) (fun _ _ _ h => h) (by rfl) (v := ?_) (fun w hSw => ?_) hS (fun hS => ?_)
      rotate_left
      · go_simp; try with_reducible rfl
      try go_frame
      refine held_pure (i := 3) (oi := ⟨some 44, _, _, _, _, _⟩) rfl (by kernel_rfl) (by kernel_rfl) (by kernel_rfl) (fun _ _ _ h => h) (by rfl) (fun w hSw => run_load_int rfl rfl (by rcases hSw with h | h; exact ((At4.of_heap ((h.block _ zbw).trans hP6)).dst); exact h.2.1)) hS (fun hS => ?_)
      try go_frame
      refine held_pure (i := 4) (oi := ⟨some 45, _, _, _, _, _⟩) rfl (by kernel_rfl) (by kernel_rfl) (by kernel_rfl) (fun _ _ _ h => h) (by rfl) (fun w hSw => run_load_ts rfl rfl (by rcases hSw with h | h; exact at6.below h z6; exact h.2.2) rfl) hS (fun hS => ?_)
      try go_frame
      refine held_pure (i := 5) (oi := ⟨some 46, _, _, _, _, _⟩) rfl (by kernel_rfl) (by kernel_rfl) (by kernel_rfl) (fun _ _ _ h => h) (by rfl) (v := ?_) (fun w hSw => ?_) hS (fun hS => ?_)
      rotate_left
      · go_simp; try with_reducible rfl
      try go_frame
      refine wpAnyH_ready (rs := [6]) (by kernel_rfl) (by simp) (AllReadyH.cons (o := ⟨some 47, _, _, _, _, _⟩) rfl (fun K hK => ?_) AllReadyH.nil)
      rw [if_pos (by rfl)]
      go_simp
      refine (c12seg u P p P' p' _ (by omega) (by omega) w6.heap.size (am1.below ((Below.refl X6.heap.size X6).drew.mono (Nat.le_of_lt z6))) (am2.below ((Below.refl X6.heap.size X6).drew.mono (Nat.le_of_lt z6))) (Nat.le_of_lt z6) n).mono ?_
      rintro e w7 ⟨Q1, r1, Q2, r2, rfl, m3, m4⟩
      have y7 : Below X6.heap.size X6 w7 := (Below.refl _ X6).drew.trans m3.below
      have a3 := made_arg m3
      have a4 := made_arg m4
      show K _ _
      refine hK.out _ _ (.inl y7) (fun hS => ?_)
      clear hK K
      try go_frame
      refine wpAnyH_ready (rs := [7]) (by kernel_rfl) (by simp) (AllReadyH.cons (o := ⟨some 48, _, _, _, _, _⟩) rfl (fun K hK => ?_) AllReadyH.nil)
      rw [if_pos (by rfl)]
      go_simp
      refine (cTbuild (sgT u n) Q1 r1 Q2 r2 q.src q.dst _ w7.heap.size a3 a4 (Nat.le_refl _) (by have := HSO.out; omega) (by show u.dat.length ≤ _; omega)).mono ?_
      rintro e w8 ⟨v8, rfl, -, m5⟩
      have m5 := m5 HC.out
      rw [← HR.out] at m5
      obtain ⟨D8, d8, rfl, g8, o8, y8⟩ := made_shape m5
      have x8 := y7.trans (y8.mono y7.size)
      have hP8 := (x8.block w.heap.size (by omega)).trans hP6
      have hR8 := (x8.block (w.heap.size + 1) (by omega)).trans hR6
      have oO8 := own_below oO6 x8
      have b8 := b6.trans (x8.mono b6.size)
      have k10 := (At4.of_heap hP8).dat
      have f10 := heap_frozen hP8 10
      have zy7 := y7.size
      show K _ _
      refine hK.out _ _ (.inl x8) (fun hS => ?_)
      clear hK K
      try go_frame
      refine held_pure (i := 8) (oi := ⟨some 40, _, _, _, _, _⟩) rfl (by kernel_rfl) (by kernel_rfl) (by kernel_rfl) (fun _ _ _ h => h) (by rfl) (v := ?_) (fun w hSw => ?_) hS (fun hS => ?_)
      rotate_left
      · go_simp; try with_reducible rfl
      try go_frame
      refine held_pure (i := 9) (oi := ⟨some 49, _, _, _, _, _⟩) rfl (by kernel_rfl) (by kernel_rfl) (by kernel_rfl) (fun _ _ _ h => h) (by rfl) (v := ?_) (fun w hSw => ?_) hS (fun hS => ?_)
      rotate_left
      · go_simp; try with_reducible rfl
      try go_frame
      refine held_pure (i := 10) (oi := ⟨some 50, _, _, _, _, _⟩) rfl (by kernel_rfl) (by kernel_rfl) (by kernel_rfl) (fun _ _ _ h => h) (by rfl) (v := ?_) (fun w hSw => ?_) hS (fun hS => ?_)
      rotate_left
      · go_simp; try with_reducible rfl
      try go_frame
      refine held_pure (i := 11) (oi := ⟨some 51, _, _, _, _, _⟩) rfl (by kernel_rfl) (by kernel_rfl) (by kernel_rfl) (fun _ _ _ h => h) (by rfl) (v := ?_) (fun w hSw => ?_) hS (fun hS => ?_)
      rotate_left
      · go_simp; try with_reducible rfl
      try go_frame
      refine wpAnyH_ready (rs := [12]) (by kernel_rfl) (by simp) (AllReadyH.cons (o := ⟨none, _, _, _, _, _⟩) rfl (fun K hK => ?_) AllReadyH.nil)
      rw [if_pos (by rfl)]
      refine store_sl_wp rfl rfl rfl k10 f10 ?_
      have hP9 : (w8.setCell ⟨w.heap.size, 10, none⟩ (.slice D8 R.length d8)).heap[w.heap.size]? = some (.cells (v4a (datP q R) O o D8 d8) 25 (0, 0)) := heap_setCell_same w8 w.heap.size 10 _ _ (.slice D8 R.length d8) hP8
      have hR9 := (heap_setCell_other w8 ⟨w.heap.size, 10, none⟩ (w.heap.size + 1) (.slice D8 R.length d8) (by show w.heap.size + 1 ≠ w.heap.size; omega)).trans hR8
      have oO9 := own_setCell oO8 (p := ⟨w.heap.size, 10, none⟩) (u := .slice D8 R.length d8) zP
      have oD9 := own_setCell o8 (p := ⟨w.heap.size, 10, none⟩) (u := .slice D8 R.length d8) (by show w.heap.size < w7.heap.size; omega)
      have b9 := b8.setCell (p := ⟨w.heap.size, 10, none⟩) (Nat.le_refl _) (.slice D8 R.length d8)
      have hI9 := (heap_setCell_other w8 ⟨w.heap.size, 10, none⟩ w6.heap.size (.slice D8 R.length d8) (by show w6.heap.size ≠ w.heap.size; omega)).trans ((x8.block w6.heap.size z6).trans hI6)
      have t9 := Atts.of_heap hI9
      generalize w8.setCell ⟨w.heap.size, 10, none⟩ (.slice D8 R.length d8) = w9 at *
      refine hK.out _ _ (.inr ⟨(At4.of_heap hP9).src, (At4.of_heap hP9).dst, t9⟩) (fun hS => ?_)
      clear hK K
      try go_frame
      refine wpAnyH_done (by kernel_rfl) ?_ _
      have at9 := At4.of_heap hP9
      go_wp2_with (first
        | ((with_reducible show wpList _ _ _ (Oper.mk (some 52) (Op.load 25 _) _ _ _ _ :: _) _ _); refine wpList_val rfl (run_load_v4 rfl rfl at9 rfl) ?_)
        | ((with_reducible show wpList _ _ _ (Oper.mk _ (Op.store 25 _ _) _ _ _ _ :: _) _ _); refine v4_store (g := w.heap.size + 1) (cs := v4a (datP q R) O o D8 d8) rfl rfl hR9 rfl rfl (v4a_one _ _ _ _ _) ?_))
      have oO7 := own_setRow oO9 (g := w.heap.size + 1) (cs := v4a (datP q R) O o D8 d8) (by omega)
      have oD7 := own_setRow oD9 (g := w.heap.size + 1) (cs := v4a (datP q R) O o D8 d8) (by omega)
      have b7 := below_row b9 (g := w.heap.size + 1) (cs := v4a (datP q R) O o D8 d8) (by omega)
      exact bodyPost_ret (results_cell_row rfl _ _ (w.heap.size + 1) 25 (v4a (datP q R) O o D8 d8) (0, 0) _ rfl (setRow_heap _ _ _ _ _ _ hR9) Try.underlying25 rfl (by kernel_rfl)) rfl ⟨O, o, D8, d8, rfl, Made.of_own (own_base oO7 (by omega)) b7, Made.of_own (own_base oD7 (by omega)) b7⟩
  · rw [if_pos (by rfl)]
    refine wp_val (v := .slice A' q.dat.length c') (by first | exact run_load_sl rfl rfl kD0 | exact run_load_sl rfl rfl kD2) ?_
    refine hK.out _ _ trivial (fun hS => ?_)
    clear hK K
    try go_frame
    refine wpAnyH_ready (rs := [1]) (by kernel_rfl) (by simp) (AllReadyH.cons (o := ⟨some 10, _, _, _, _, _⟩) rfl (fun K hK => ?_) AllReadyH.nil)
    rw [if_pos (by rfl)]
    refine wp_val (v := .slice A q.opt.length c) (by first | exact run_load_sl rfl rfl kO0) ?_
    refine hK.out _ _ trivial (fun hS => ?_)
    clear hK K
    try go_frame
    refine wpAnyH_ready (rs := [2]) (by kernel_rfl) (by simp) (AllReadyH.cons (o := ⟨some 11, _, _, _, _, _⟩) rfl (fun K hK => ?_) AllReadyH.nil)
    rw [if_pos (by rfl)]
    go_simp
    refine (clone_any A q.opt c B _ (hO1.below (Below.refl _ W).drew) zW (by omega)).mono ?_
    rintro e w2 ⟨v2, rfl, m2⟩
    obtain ⟨O, o, rfl, g2, o2, y2⟩ := made_shape m2
    clear m2 g2
    have o2 : w2.ownsRow W.heap.size 5 1 (.slice O q.opt.length o) q.opt.length (row q.opt) := o2
    have x2 : Below W.heap.size W w2 := (Below.refl _ W).drew.trans y2
    have hP2 := (x2.block w.heap.size zP).trans hP0
    have hR2 := (x2.block (w.heap.size + 1) zR).trans hR0
    have kD2 := (At4.of_heap hP2).dat
    have hD2 := hD1.below (x2.mono zW)
    have hgO : ∀ g, O = some ⟨g, 0, none⟩ → 0 < q.opt.length → g < w2.heap.size := fun g e hl => by { subst e; exact (own_cell o2 (i := 0) hl).2.2.2.1 }
    show K _ _
    refine hK.out _ _ trivial (fun hS => ?_)
    clear hK K
    try go_frame
    refine held_pure (i := 6) (oi := ⟨some 15, _, _, _, _, _⟩) rfl (by kernel_rfl) (by kernel_rfl) (by kernel_rfl) (fun _ _ _ h => h) (by rfl) (v := ?_) (fun w hSw => ?_) hS (fun hS => ?_)
    rotate_left
    · go_simp; try with_reducible rfl
    try go_frame
    refine wpAnyH_ready (rs := [5]) (by kernel_rfl) (by simp) (AllReadyH.cons (o := ⟨some 14, _, _, _, _, _⟩) rfl (fun K hK => ?_) AllReadyH.nil)
    rw [if_pos (by rfl)]
    go_simp
    refine (clone_any A' q.dat c' B _ hD2 (Nat.le_trans zW x2.size) (by omega)).mono ?_
    rintro e w3 ⟨v3, rfl, m3⟩
    obtain ⟨D, d, rfl, g3, o3, y3⟩ := made_shape m3
    clear m3 g3
    have hP3 := (y3.block w.heap.size (heap_lt hP2)).trans hP2
    have hR3 := (y3.block (w.heap.size + 1) (heap_lt hR2)).trans hR2
    have oO3 := own_below o2 y3
    have kO3 := (At4.of_heap hP3).opt
    have fO3 := heap_frozen hP3 9
    have x3 := x2.trans (y3.mono x2.size)
    have zx2 := x2.size
    show K _ _
    refine hK.out _ _ trivial (fun hS => ?_)
    clear hK K
    try go_frame
    refine wpAnyH_ready (rs := [7]) (by kernel_rfl) (by simp) (AllReadyH.cons (o := ⟨none, _, _, _, _, _⟩) rfl (fun K hK => ?_) AllReadyH.nil)
    rw [if_pos (by rfl)]
    refine store_sl_wp rfl rfl rfl kO3 fO3 ?_
    have hP4 : (w3.setCell ⟨w.heap.size, 9, none⟩ (.slice O q.opt.length o)).heap[w.heap.size]? = some (.cells (v4a q O o A' c') 25 (0, 0)) := heap_setCell_same w3 w.heap.size 9 _ _ (.slice O q.opt.length o) hP3
    have hR4 := (heap_setCell_other w3 ⟨w.heap.size, 9, none⟩ (w.heap.size + 1) (.slice O q.opt.length o) (by show w.heap.size + 1 ≠ w.heap.size; omega)).trans hR3
    have kD4 := (At4.of_heap hP4).dat
    have fD4 := heap_frozen hP4 10
    have oO4 := own_setCell oO3 (p := ⟨w.heap.size, 9, none⟩) (u := .slice O q.opt.length o) zP
    have oD4 := own_setCell o3 (p := ⟨w.heap.size, 9, none⟩) (u := .slice O q.opt.length o) (Nat.lt_of_lt_of_le zP zx2)
    have b4 := (hB.trans (x3.mono hB.size)).setCell (p := ⟨w.heap.size, 9, none⟩) (Nat.le_refl _) (.slice O q.opt.length o)
    clear hP2 hR2 kD2 hD2 hP3 hR3 oO3 kO3 fO3 o2 o3 y2 y3
    generalize w3.setCell ⟨w.heap.size, 9, none⟩ (.slice O q.opt.length o) = V4 at *
    refine hK.out _ _ trivial (fun hS => ?_)
    clear hK K
    try go_frame
    refine held_pure (i := 8) (oi := ⟨some 16, _, _, _, _, _⟩) rfl (by kernel_rfl) (by kernel_rfl) (by kernel_rfl) (fun _ _ _ h => h) (by rfl) (v := ?_) (fun w hSw => ?_) hS (fun hS => ?_)
    rotate_left
    · go_simp; try with_reducible rfl
    try go_frame
    refine wpAnyH_ready (rs := [9]) (by kernel_rfl) (by simp) (AllReadyH.cons (o := ⟨none, _, _, _, _, _⟩) rfl (fun K hK => ?_) AllReadyH.nil)
    rw [if_pos (by rfl)]
    refine store_sl_wp rfl rfl rfl kD4 fD4 ?_
    have hP : (V4.setCell ⟨w.heap.size, 10, none⟩ (.slice D q.dat.length d)).heap[w.heap.size]? = some (.cells (v4a q O o D d) 25 (0, 0)) := heap_setCell_same V4 w.heap.size 10 _ _ (.slice D q.dat.length d) hP4
    have hR := (heap_setCell_other V4 ⟨w.heap.size, 10, none⟩ (w.heap.size + 1) (.slice D q.dat.length d) (by show w.heap.size + 1 ≠ w.heap.size; omega)).trans hR4
    have oO := own_setCell oO4 (p := ⟨w.heap.size, 10, none⟩) (u := .slice D q.dat.length d) zP
    have oD := own_setCell oD4 (p := ⟨w.heap.size, 10, none⟩) (u := .slice D q.dat.length d) (Nat.lt_of_lt_of_le zP zx2)
    have bV := b4.setCell (p := ⟨w.heap.size, 10, none⟩) (Nat.le_refl _) (.slice D q.dat.length d)
    clear hP4 hR4 kD4 fD4 oO4 oD4 b4 hP0 hR0 hO1 hD1 kO0 kD0 x2 x3
    generalize V4.setCell ⟨w.heap.size, 10, none⟩ (.slice D q.dat.length d) = V at *
    have hat := At4.of_heap hP
    have gO := arg_own oO
    have gD := arg_own oD
    refine hK.out _ _ trivial (fun hS => ?_)
    clear hK K
    try go_frame
    refine wpAnyH_done (by kernel_rfl) ?_ _
    go_upto_region 3 with (first
      | ((with_reducible show wpList _ _ _ (Oper.mk (some 18) (Op.load 25 _) _ _ _ _ :: _) _ _); refine wpList_val rfl (run_load_v4 rfl rfl hat rfl) ?_)
      | (go_at_call 8; refine (cOf q O o D d V ho hl V.heap.size gD (Nat.le_refl _)).mono ?_; rintro e w5 ⟨rfl, x5⟩; rw [HV.out, HE.out])
      | ((with_reducible show wpList _ _ _ (Oper.mk _ (Op.store 31 _ _) _ _ _ _ :: _) _ _); refine pr_store_new (cs := prA q.proto (ptS q) (ptD q)) rfl rfl rfl rfl (prA_one _ _ _) ?_))
    have j5 : Below w5.heap.size w5 (w5.alloc (.cells (prA q.proto (ptS q) (ptD q)) 31)) := (Below.refl _ w5).alloc (Nat.le_refl _) _
    have kp : (w5.alloc (.cells (prA q.proto (ptS q) (ptD q)) 31)).cell? ⟨w5.heap.size, 0, none⟩ = some (.int .i64 q.proto) := range_new w5 (prA q.proto (ptS q) (ptD q)) _ 0 _ rfl
    have x5j := x5.trans (j5.mono x5.size)
    have hP5 := (x5j.block w.heap.size (heap_lt hP)).trans hP
    have hR5 := (x5j.block (w.heap.size + 1) (heap_lt hR)).trans hR
    have hat5 := At4.of_heap hP5
    have kq4 := hat5.proto
    have oO5 := own_below oO x5j
    have oD5 := own_below oD x5j
    have b5 := bV.trans (x5j.mono bV.size)
    generalize w5.alloc (.cells (prA q.proto (ptS q) (ptD q)) 31) = X5 at *
    clear hat gO gD x5 j5 x5j oO oD bV hP hR
    have kq5 := hat5.src
    have kq6 := hat5.dst
    have kq10 := hat5.dat
    have gD5 := arg_own oD5
    go_upto_region 6 with (first
      | (go_at_call 15; refine (cTparse q.dat D d q.src q.dst X5 X5.heap.size gD5 (Nat.le_refl _) (by omega)).mono ?_; rintro e w6 ⟨P, p, P', p', rfl, m1, m2⟩; rw [← HU.out] at m1 m2; rw [← HU.out])
      | ((with_reducible show wpList _ _ _ (Oper.mk _ (Op.store 37 _ _) _ _ _ _ :: _) _ _); refine ts_store_new (cs := tsa u P p P' p') rfl rfl rfl rfl (ts_one _ _ _ _ _) ?_))
    have x6 := m1.below
    have j6 : Below w6.heap.size w6 (w6.alloc (.cells (tsa u P p P' p') 37)) := (Below.refl _ w6).alloc (Nat.le_refl _) _
    have x6j := x6.trans (j6.mono x6.size)
    have hP6 := (x6j.block w.heap.size (heap_lt hP5)).trans hP5
    have hR6 := (x6j.block (w.heap.size + 1) (heap_lt hR5)).trans hR5
    have hI6 := World.alloc_heap_new w6 (.cells (tsa u P p P' p') 37)
    have zr5 := Nat.lt_of_lt_of_le (heap_lt hR5) x6.size
    have z6 : w6.heap.size < (w6.alloc (.cells (tsa u P p P' p') 37)).heap.size := by simp
    have oO6 := own_below oO5 x6j
    have b6 := b5.trans (x6j.mono b5.size)
    have am1 := (made_arg m1).below j6
    have am2 := (made_arg m2).below j6
    generalize w6.alloc (.cells (tsa u P p P' p') 37) = X6 at *
    have at6 := Atts.of_heap hI6
    clear kq4 kq5 kq6 kq10 gD5 hP5 hR5 hat5 oO5 oD5 b5 x6 j6 x6j m1 m2 kp
    have zb6 := heap_lt hR6
    have zbw := heap_lt hP6
    refine wp_region_held_drew (S := fun w' => Below X6.heap.size X6 w' ∨ (w'.cell? ⟨w.heap.size, 5, none⟩ = some (.int .i64 q.src) ∧ w'.cell? ⟨w.heap.size, 6, none⟩ = some (.int .i64 q.dst) ∧ Atts w' w6.heap.size u P p P' p')) (by kernel_rfl) (.inl (Below.refl _ X6).drew) (fun hS => ?_)
    refine held_pure (i := 0) (oi := ⟨some 41, _, _, _, _, _⟩) rfl (by kernel_rfl) (by kernel_rfl) (by kernel_rfl) (fun _ _ _ h => h) (by rfl) (v := ?_) (fun w hSw => ?_) hS (fun hS => ?_)
    rotate_left
    · go_simp; try with_reducible rfl
    try go_frame
    refine held_pure (i := 1) (oi := ⟨some 42, _, _, _, _, _⟩) rfl (by kernel_rfl) (by kernel_rfl) (by kernel_rfl) (fun _ _ _ h => h) (by rfl) (fun w hSw => run_load_int rfl rfl (by rcases hSw with h | h; exact ((At4.of_heap ((h.block _ zbw).trans hP6)).src); exact h.1)) hS (fun hS => ?_)
    try go_frame
    refine held_pure (i := 2) (oi := ⟨some 43, _, _, _, _, _⟩) rfl (by kernel_rfl) (by kernel_rfl) (by kernel_rfl) (fun _ _ _ h => h) (by rfl) (v := ?_) (fun w hSw => ?_) hS (fun hS => ?_)
    rotate_left
    · go_simp; try with_reducible rfl
    try go_frame
    refine held_pure (i := 3) (oi := ⟨some 44, _, _, _, _, _⟩) rfl (by kernel_rfl) (by kernel_rfl) (by kernel_rfl) (fun _ _ _ h => h) (by rfl) (fun w hSw => run_load_int rfl rfl (by rcases hSw with h | h; exact ((At4.of_heap ((h.block _ zbw).trans hP6)).dst); exact h.2.1)) hS (fun hS => ?_)
    try go_frame
    refine held_pure (i := 4) (oi := ⟨some 45, _, _, _, _, _⟩) rfl (by kernel_rfl) (by kernel_rfl) (by kernel_rfl) (fun _ _ _ h => h) (by rfl) (fun w hSw => run_load_ts rfl rfl (by rcases hSw with h | h; exact at6.below h z6; exact h.2.2) rfl) hS (fun hS => ?_)
    try go_frame
    refine held_pure (i := 5) (oi := ⟨some 46, _, _, _, _, _⟩) rfl (by kernel_rfl) (by kernel_rfl) (by kernel_rfl) (fun _ _ _ h => h) (by rfl) (v := ?_) (fun w hSw => ?_) hS (fun hS => ?_)
    rotate_left
    · go_simp; try with_reducible rfl
    try go_frame
    refine wpAnyH_ready (rs := [6]) (by kernel_rfl) (by simp) (AllReadyH.cons (o := ⟨some 47, _, _, _, _, _⟩) rfl (fun K hK => ?_) AllReadyH.nil)
    rw [if_pos (by rfl)]
    go_simp
    refine (c12seg u P p P' p' _ (by omega) (by omega) w6.heap.size (am1.below ((Below.refl X6.heap.size X6).drew.mono (Nat.le_of_lt z6))) (am2.below ((Below.refl X6.heap.size X6).drew.mono (Nat.le_of_lt z6))) (Nat.le_of_lt z6) n).mono ?_
    rintro e w7 ⟨Q1, r1, Q2, r2, rfl, m3, m4⟩
    have y7 : Below X6.heap.size X6 w7 := (Below.refl _ X6).drew.trans m3.below
    have a3 := made_arg m3
    have a4 := made_arg m4
    show K _ _
    refine hK.out _ _ (.inl y7) (fun hS => ?_)
    clear hK K
    try go_frame
    refine wpAnyH_ready (rs := [7]) (by kernel_rfl) (by simp) (AllReadyH.cons (o := ⟨some 48, _, _, _, _, _⟩) rfl (fun K hK => ?_) AllReadyH.nil)
    rw [if_pos (by rfl)]
    go_simp
    refine (cTbuild (sgT u n) Q1 r1 Q2 r2 q.src q.dst _ w7.heap.size a3 a4 (Nat.le_refl _) (by have := HSO.out; omega) (by show u.dat.length ≤ _; omega)).mono ?_
    rintro e w8 ⟨v8, rfl, -, m5⟩
    have m5 := m5 HC.out
    rw [← HR.out] at m5
    obtain ⟨D8, d8, rfl, g8, o8, y8⟩ := made_shape m5
    have x8 := y7.trans (y8.mono y7.size)
    have hP8 := (x8.block w.heap.size (by omega)).trans hP6
    have hR8 := (x8.block (w.heap.size + 1) (by omega)).trans hR6
    have oO8 := own_below oO6 x8
    have b8 := b6.trans (x8.mono b6.size)
    have k10 := (At4.of_heap hP8).dat
    have f10 := heap_frozen hP8 10
    have zy7 := y7.size
    show K _ _
    refine hK.out _ _ (.inl x8) (fun hS => ?_)
    clear hK K
    try go_frame
    refine held_pure (i := 8) (oi := ⟨some 40, _, _, _, _, _⟩) rfl (by kernel_rfl) (by kernel_rfl) (by kernel_rfl) (fun _ _ _ h => h) (by rfl) (v := ?_) (fun w hSw => ?_) hS (fun hS => ?_)
    rotate_left
    · go_simp; try with_reducible rfl
    try go_frame
    refine held_pure (i := 9) (oi := ⟨some 49, _, _, _, _, _⟩) rfl (by kernel_rfl) (by kernel_rfl) (by kernel_rfl) (fun _ _ _ h => h) (by rfl) (v := ?_) (fun w hSw => ?_) hS (fun hS => ?_)
    rotate_left
    · go_simp; try with_reducible rfl
    try go_frame
    refine held_pure (i := 10) (oi := ⟨some 50, _, _, _, _, _⟩) rfl (by kernel_rfl) (by kernel_rfl) (by kernel_rfl) (fun _ _ _ h => h) (by rfl) (v := ?_) (fun w hSw => ?_) hS (fun hS => ?_)
    rotate_left
    · go_simp; try with_reducible rfl
    try go_frame
    refine held_pure (i := 11) (oi := ⟨some 51, _, _, _, _, _⟩) rfl (by kernel_rfl) (by kernel_rfl) (by kernel_rfl) (fun _ _ _ h => h) (by rfl) (v := ?_) (fun w hSw => ?_) hS (fun hS => ?_)
    rotate_left
    · go_simp; try with_reducible rfl
    try go_frame
    refine wpAnyH_ready (rs := [12]) (by kernel_rfl) (by simp) (AllReadyH.cons (o := ⟨none, _, _, _, _, _⟩) rfl (fun K hK => ?_) AllReadyH.nil)
    rw [if_pos (by rfl)]
    refine store_sl_wp rfl rfl rfl k10 f10 ?_
    have hP9 : (w8.setCell ⟨w.heap.size, 10, none⟩ (.slice D8 R.length d8)).heap[w.heap.size]? = some (.cells (v4a (datP q R) O o D8 d8) 25 (0, 0)) := heap_setCell_same w8 w.heap.size 10 _ _ (.slice D8 R.length d8) hP8
    have hR9 := (heap_setCell_other w8 ⟨w.heap.size, 10, none⟩ (w.heap.size + 1) (.slice D8 R.length d8) (by show w.heap.size + 1 ≠ w.heap.size; omega)).trans hR8
    have oO9 := own_setCell oO8 (p := ⟨w.heap.size, 10, none⟩) (u := .slice D8 R.length d8) zP
    have oD9 := own_setCell o8 (p := ⟨w.heap.size, 10, none⟩) (u := .slice D8 R.length d8) (by show w.heap.size < w7.heap.size; omega)
    have b9 := b8.setCell (p := ⟨w.heap.size, 10, none⟩) (Nat.le_refl _) (.slice D8 R.length d8)
    have hI9 := (heap_setCell_other w8 ⟨w.heap.size, 10, none⟩ w6.heap.size (.slice D8 R.length d8) (by show w6.heap.size ≠ w.heap.size; omega)).trans ((x8.block w6.heap.size z6).trans hI6)
    have t9 := Atts.of_heap hI9
    generalize w8.setCell ⟨w.heap.size, 10, none⟩ (.slice D8 R.length d8) = w9 at *
    refine hK.out _ _ (.inr ⟨(At4.of_heap hP9).src, (At4.of_heap hP9).dst, t9⟩) (fun hS => ?_)
    clear hK K
    try go_frame
    refine wpAnyH_done (by kernel_rfl) ?_ _
    have at9 := At4.of_heap hP9
    go_wp2_with (first
      | ((with_reducible show wpList _ _ _ (Oper.mk (some 52) (Op.load 25 _) _ _ _ _ :: _) _ _); refine wpList_val rfl (run_load_v4 rfl rfl at9 rfl) ?_)
      | ((with_reducible show wpList _ _ _ (Oper.mk _ (Op.store 25 _ _) _ _ _ _ :: _) _ _); refine v4_store (g := w.heap.size + 1) (cs := v4a (datP q R) O o D8 d8) rfl rfl hR9 rfl rfl (v4a_one _ _ _ _ _) ?_))
    have oO7 := own_setRow oO9 (g := w.heap.size + 1) (cs := v4a (datP q R) O o D8 d8) (by omega)
    have oD7 := own_setRow oD9 (g := w.heap.size + 1) (cs := v4a (datP q R) O o D8 d8) (by omega)
    have b7 := below_row b9 (g := w.heap.size + 1) (cs := v4a (datP q R) O o D8 d8) (by omega)
    exact bodyPost_ret (results_cell_row rfl _ _ (w.heap.size + 1) 25 (v4a (datP q R) O o D8 d8) (0, 0) _ rfl (setRow_heap _ _ _ _ _ _ hR9) Try.underlying25 rfl (by kernel_rfl)) rfl ⟨O, o, D8, d8, rfl, Made.of_own (own_base oO7 (by omega)) b7, Made.of_own (own_base oD7 (by omega)) b7⟩
theorem c12pk (ho : q.opt.length ≤ 1000000) (hl : q.dat.length ≤ 900000) (B : Nat) (hO : Arg w B A c q.opt) (hD : Arg w B A' c' q.dat) (hB0 : B ≤ w.heap.size) (n : Int) : Calls Try.prog 7 #[v4v q A c A' c', .int .i64 n] w fun e w' => ∃ P p P' p', e = .returned (v4v (pkP q n) P p P' p') ∧ Made w w' (.slice P (pkP q n).opt.length p) (pkP q n).opt ∧ Made w w' (.slice P' (pkP q n).dat.length p') (pkP q n).dat := by
  by_cases h : ofE q = 0 ∧ q.proto = 6
  · rw [pk_dat h.1 h.2]; exact c12pkO q A c A' c' w ho hl B hO hD hB0 n h.1 h.2
  · rw [pk_no h]
    by_cases he : ofE q = 0
    · exact c12pkN q A c A' c' w ho hl B hO hD hB0 n he (fun hk => h ⟨he, hk⟩)
    · exact c12pkE q A c A' c' w ho hl B hO hD hB0 n he
end
end Go.Proofs.Ytodlfdnegcfhcaa

/-
  What layer 12's laws call first. Conditions are each theorem's own.
-/
namespace Go.Proofs.Ytodlfdnegcfhcaa
open Go.RowKit

theorem At4.setCell {W : World} {g : Nat} {q : P4} {A : Option Addr} {c : Nat} {A' : Option Addr} {c' : Nat} (h : At4 W g q A c A' c') {p : Addr} (hp : p.block ≠ g) (v : Value) : At4 (W.setCell p v) g q A c A' c' := fun j u hj =>
  (World.cell?_setCell_other W p ⟨g, 0 + j, none⟩ v (fun e => hp (by rw [e]))).trans (h j u hj)
def tC : PT := ⟨0, 0, 0, 0, 0, 2, 0, 0, [2, 4, 5, 180], []⟩
theorem tC_mss : mssK (sgT tC 1400).opt = true ∧ mssN (sgT tC 1400).opt = 1400 := by decide +kernel
theorem tC_len : (sgT tC 1400).opt.length = 4 := by decide +kernel
theorem argC {B g : Nat} {w : World} (hg : w.heap[g]? = some (.cells #[.int .u8 2, .int .u8 4, .int .u8 5, .int .u8 180] 5 (0, 0))) (hB : g < B) : Arg w B (some ⟨g, 0, none⟩) 4 tC.opt :=
  ⟨Rd.of_block hg hB 0 (fun j hj => by
    have : j < 4 := by simpa [tC] using hj
    match j, this with
    | 0, _ => rfl
    | 1, _ => rfl
    | 2, _ => rfl
    | 3, _ => rfl), by decide, fun e => by cases e⟩
set_option maxRecDepth 100000 in
set_option maxHeartbeats 2000000 in
theorem awakeC_any (w : World) : Calls Try.prog 5 #[] w fun e w' => e = .returned (.bool true) ∧ Below w.heap.size w w' := by
  have HK := Lib.hid tC_mss
  have HL := Lib.hid tC_len
  go_enter Try.func5, Try.ntmps5
  go_upto_region 2 with fail
  rw [show #[.int .i64 0, .int .i64 0, .int .i64 0, .int .i64 0, .int .i64 0, .int .i64 2, .int .i64 0, .int .i64 0, .slice (some ⟨w.heap.size, 0, none⟩) 4 4, .slice none 0 0] = tsa tC (some ⟨w.heap.size, 0, none⟩) 4 none 0 from rfl]
  have hg := World.alloc_heap_new w (.cells #[.int .u8 2, .int .u8 4, .int .u8 5, .int .u8 180] 5)
  have b1 : Below w.heap.size w (w.alloc (.cells #[.int .u8 2, .int .u8 4, .int .u8 5, .int .u8 180] 5)) := (Below.refl _ w).alloc (Nat.le_refl _) _
  have z1 : (w.alloc (.cells #[.int .u8 2, .int .u8 4, .int .u8 5, .int .u8 180] 5)).heap.size = w.heap.size + 1 := by simp
  have ha := argC (B := w.heap.size + 1) hg (Nat.lt_succ_self _)
  generalize w.alloc (.cells #[.int .u8 2, .int .u8 4, .int .u8 5, .int .u8 180] 5) = W1 at *
  have j2 : Below W1.heap.size W1 (W1.alloc (.cells (tsa tC (some ⟨w.heap.size, 0, none⟩) 4 none 0) 37)) := (Below.refl _ W1).alloc (Nat.le_refl _) _
  have at2 := Atts.of_heap (World.alloc_heap_new W1 (.cells (tsa tC (some ⟨w.heap.size, 0, none⟩) 4 none 0) 37))
  have b2 := b1.trans (j2.mono b1.size)
  rw [z1] at at2
  have z1 := Nat.le_of_eq z1.symm
  have ha := ha.below (j2.mono (by omega))
  have z2 := j2.size
  generalize W1.alloc (.cells (tsa tC (some ⟨w.heap.size, 0, none⟩) 4 none 0) 37) = W2 at *
  go_wp2_with (first
    | ((with_reducible show wpList _ _ _ (Oper.mk _ (Op.load 37 _) _ _ _ _ :: _) _ _); refine wpList_valw (by rfl) (run_load_ts rfl rfl at2 rfl) ?_)
    | (go_at_call 11; refine (c12seg tC (some ⟨w.heap.size, 0, none⟩) 4 none 0 W2 (by decide) (by decide) (w.heap.size + 1) ha (Arg.nil _ _) (by omega) 1400).mono ?_; rintro e w3 ⟨P, p, P', p', rfl, m1, -⟩; have x3 := m1.below; have a3 := made_arg m1)
    | (go_at_call 10; refine (cTmss (sgT tC 1400) _ _ _ _ w3 w3.heap.size a3 (Nat.le_refl _) (by rw [HL.out]; decide)).mono ?_; rintro e w4 ⟨rfl, x4⟩; rw [HK.out.1, HK.out.2])
    | (go_at_call 12; refine (c12most _ _).mono ?_; rintro e w5 ⟨rfl, rfl⟩; rw [show mostV 1500 = 1460 from by decide]))
  go_ret
  have x34 := x3.trans (x4.mono x3.size)
  exact ⟨rfl, b2.trans (x34.mono b2.size)⟩
end Go.Proofs.Ytodlfdnegcfhcaa

/-
  What layer 11's laws on bytes stand on besides: how long a packet's parts are. Conditions are each theorem's own.
-/
namespace Go.Proofs.Ytodlfdnegcfhcaa
open Go.RowKit

theorem prs_len (b : List UInt8) : (prsV b false).opt.length ≤ b.length ∧ (prsV b false).dat.length ≤ b.length := by
  unfold prsV
  split
  · refine ⟨?_, ?_⟩
    · show ((b.take (hlen b).toNat).drop 20).length ≤ b.length
      rw [List.length_drop, List.length_take]; omega
    · show ((b.take (min (n2 b 2) (b.length : Int)).toNat).drop (hlen b).toNat).length ≤ b.length
      rw [List.length_drop, List.length_take]; omega
  · exact ⟨Nat.zero_le _, Nat.zero_le _⟩
end Go.Proofs.Ytodlfdnegcfhcaa
