/-
  Contracts and lemmas on which the proofs of this seat stand (several texts in one). Conditions are each theorem's own.
-/
import Derived.Test.YtodlfdnegcfhcaaGreatMe1
import Derived.Test.YtodlfdnegcfhcaaGreatMe2
import Derived.Test.YtodlfdnegcfhcaaGreatMa4
import Derived.Test.YtodlfdnegcfhcaaGreatMa2

/-
  A packet from another endpoint, to another endpoint, as the document has them. Conditions are each theorem's own.
-/
namespace Go.Proofs.YtodlfdnegcfhcaaGreat
open Go.RowKit

section
variable (q : P4) (A : Option Addr) (c : Nat) (A' : Option Addr) (c' : Nat) (w : World)
set_option maxRecDepth 100000 in
set_option maxHeartbeats 2000000 in
theorem r11FromE (ho : q.opt.length ≤ 1000000) (hl : q.dat.length ≤ 900000) (B : Nat) (hD : Arg w B A' c' q.dat) (hB0 : B ≤ w.heap.size) (ad n : Int) (he : mayE q ad n ≠ 0) : Calls Tryz.prog 12 #[v4v q A c A' c', .int .i64 ad, .int .i64 n] w fun e w' => ∃ P p P' p', e = .returned (.tuple #[v4v p4z P p P' p', .int .i64 (mayE q ad n)]) ∧ Made w w' (.slice P p4z.opt.length p) p4z.opt ∧ Made w w' (.slice P' p4z.dat.length p') p4z.dat := by
  obtain ⟨E, hE⟩ : ∃ y, y = mayE q ad n := ⟨_, rfl⟩
  have HM := Lib.hid hE.symm
  have dE : (E != 0) = true := by simpa [hE] using he
  rw [← hE]
  clear he hE
  have hB : Below w.heap.size w ((w.alloc (.cells (v4a q A c A' c') 24)).alloc (.cells (v4a p4z none 0 none 0) 24)) := below_two w _ _
  have hU0 : ((w.alloc (.cells (v4a q A c A' c') 24)).alloc (.cells (v4a p4z none 0 none 0) 24)).heap[w.heap.size]? = some (.cells (v4a q A c A' c') 24 (0, 0)) := (Below.heap_alloc (w.alloc (.cells (v4a q A c A' c') 24)) _ w.heap.size (by simp)).trans (World.alloc_heap_new w _)
  have hR0 : ((w.alloc (.cells (v4a q A c A' c') 24)).alloc (.cells (v4a p4z none 0 none 0) 24)).heap[w.heap.size + 1]? = some (.cells (v4a p4z none 0 none 0) 24 (0, 0)) := by
    have := World.alloc_heap_new (w.alloc (.cells (v4a q A c A' c') 24)) (.cells (v4a p4z none 0 none 0) 24)
    rwa [World.size_alloc] at this
  rw [v4q_eq]
  go_enter Tryz.func12, Tryz.ntmps12
  go_upto_region 1 with fail
  rw [show #[.int .i64 0, .int .i64 0, .int .i64 0, .int .i64 0, .int .i64 0, .int .i64 0, .int .i64 0, .bool false, .bool false, .slice none 0 0, .slice none 0 0] = v4a p4z none 0 none 0 from rfl]
  generalize (w.alloc (.cells (v4a q A c A' c') 24)).alloc (.cells (v4a p4z none 0 none 0) 24) = W at *
  have at0 := At4.of_heap hU0
  have hD0 := hD.below (hB.mono hB0)
  go_wp2_with (first
    | ((with_reducible show wpList _ _ _ (Oper.mk (some 10) (Op.load 24 _) _ _ _ _ :: _) _ _); refine wpList_val rfl (run_load_v4 rfl rfl at0 rfl) ?_)
    | (go_at_call 38; refine (r11may q A c A' c' W ho hl B hD0 (Nat.le_trans hB0 hB.size) ad n).mono ?_; rintro e w1 ⟨rfl, x1⟩; rw [HM.out]; have hR1 := (x1.block (w.heap.size + 1) (heap_lt hR0)).trans hR0; have hU1 := (x1.block w.heap.size (heap_lt hU0)).trans hU0; have at1 := At4.of_heap hU1; have b1 := hB.trans (x1.mono hB.size))
    | ((with_reducible show wpList _ _ _ (Oper.mk _ (Op.store 24 _ _) _ _ _ _ :: _) _ _); refine v4_store (g := w.heap.size + 1) (cs := v4a p4z none 0 none 0) rfl rfl hR1 rfl rfl (v4a_one _ _ _ _ _) ?_))
  exact bodyPost_ret (res2 rfl rfl (run_loadVar_row _ _ _ 24 (v4a p4z none 0 none 0) _ _ (setRow_heap _ _ _ _ _ _ hR1) Tryz.underlying24 rfl (by kernel_rfl))) rfl ⟨none, 0, none, 0, rfl, Made.nil _ _ (below_row b1 (by omega)), Made.nil _ _ (below_row b1 (by omega))⟩
set_option maxRecDepth 100000 in
set_option maxHeartbeats 2000000 in
theorem r11From17 (ho : q.opt.length ≤ 1000000) (hl : q.dat.length ≤ 900000) (B : Nat) (hO : Arg w B A c q.opt) (hD : Arg w B A' c' q.dat) (hB0 : B ≤ w.heap.size) (ad n : Int) (he : mayE q ad n = 0) (hk : q.proto = 17) : Calls Tryz.prog 12 #[v4v q A c A' c', .int .i64 ad, .int .i64 n] w fun e w' =>
    ∃ P p P' p', e = .returned (.tuple #[v4v (datP (srcP q ad) (bldU ad q.dst (srcU (inU q) n))) P p P' p', .int .i64 0]) ∧ Made w w' (.slice P q.opt.length p) q.opt ∧ Made w w' (.slice P' (bldU ad q.dst (srcU (inU q) n)).length p') (bldU ad q.dst (srcU (inU q) n)) := by
  have HM := Lib.hid he
  obtain ⟨h0, ha, hn⟩ := may_ok he
  have HX := Lib.hid ((fr_chk h0 hn).1 hk)
  obtain ⟨hlu, hlo, hlt, hli⟩ := in_len h0
  have HN := Lib.hid hn.1
  have HK := Lib.hid hk
  clear he hk ha hn h0
  have hB : Below w.heap.size w ((w.alloc (.cells (v4a q A c A' c') 24)).alloc (.cells (v4a p4z none 0 none 0) 24)) := below_two w _ _
  have hU0 : ((w.alloc (.cells (v4a q A c A' c') 24)).alloc (.cells (v4a p4z none 0 none 0) 24)).heap[w.heap.size]? = some (.cells (v4a q A c A' c') 24 (0, 0)) := (Below.heap_alloc (w.alloc (.cells (v4a q A c A' c') 24)) _ w.heap.size (by simp)).trans (World.alloc_heap_new w _)
  have hR0 : ((w.alloc (.cells (v4a q A c A' c') 24)).alloc (.cells (v4a p4z none 0 none 0) 24)).heap[w.heap.size + 1]? = some (.cells (v4a p4z none 0 none 0) 24 (0, 0)) := by
    have := World.alloc_heap_new (w.alloc (.cells (v4a q A c A' c') 24)) (.cells (v4a p4z none 0 none 0) 24)
    rwa [World.size_alloc] at this
  rw [v4q_eq]
  go_enter Tryz.func12, Tryz.ntmps12
  go_upto_region 1 with fail
  rw [show #[.int .i64 0, .int .i64 0, .int .i64 0, .int .i64 0, .int .i64 0, .int .i64 0, .int .i64 0, .bool false, .bool false, .slice none 0 0, .slice none 0 0] = v4a p4z none 0 none 0 from rfl]
  generalize (w.alloc (.cells (v4a q A c A' c') 24)).alloc (.cells (v4a p4z none 0 none 0) 24) = W at *
  have at0 := At4.of_heap hU0
  have hD0 := hD.below (hB.mono hB0)
  go_upto_region 5 with (first
    | ((with_reducible show wpList _ _ _ (Oper.mk (some 10) (Op.load 24 _) _ _ _ _ :: _) _ _); refine wpList_val rfl (run_load_v4 rfl rfl at0 rfl) ?_)
    | ((with_reducible show wpList _ _ _ (Oper.mk (some 18) (Op.load 24 _) _ _ _ _ :: _) _ _); refine wpList_val rfl (run_load_v4 rfl rfl at1 rfl) ?_)
    | (go_at_call 38; refine (r11may q A c A' c' W ho hl B hD0 (Nat.le_trans hB0 hB.size) ad n).mono ?_; rintro e w1 ⟨rfl, x1⟩; rw [HM.out]; have hR1 := (x1.block (w.heap.size + 1) (heap_lt hR0)).trans hR0; have hU1 := (x1.block w.heap.size (heap_lt hU0)).trans hU0; have at1 := At4.of_heap hU1; have b1 := hB.trans (x1.mono hB.size))
    | ((with_reducible show wpList _ _ _ (Oper.mk _ (Op.store 24 _ _) _ _ _ _ :: _) _ _); refine v4_store_new (cs := v4a q A c A' c') rfl rfl rfl rfl (v4a_one _ _ _ _ _) ?_))
  have j1 : Below w1.heap.size w1 (w1.alloc (.cells (v4a q A c A' c') 24)) := (Below.refl _ w1).alloc (Nat.le_refl _) _
  have hI2 := World.alloc_heap_new w1 (.cells (v4a q A c A' c') 24)
  have hU2 := (j1.block w.heap.size (heap_lt hU1)).trans hU1
  have hR2 := (j1.block (w.heap.size + 1) (heap_lt hR1)).trans hR1
  have z1 := heap_lt hR1
  have b2 := b1.trans (j1.mono b1.size)
  generalize w1.alloc (.cells (v4a q A c A' c') 24) = Y at *
  have kp := (At4.of_heap hI2).src
  have fp := heap_frozen hI2 5
  go_upto_region 6 with fail
  have hI3 : (Y.setCell ⟨w1.heap.size, 5, none⟩ (.int .i64 ad)).heap[w1.heap.size]? = some (.cells (v4a (srcP q ad) A c A' c') 24 (0, 0)) := heap_setCell_same Y w1.heap.size 5 _ _ (.int .i64 ad) hI2
  have hU3 := (heap_setCell_other Y ⟨w1.heap.size, 5, none⟩ w.heap.size (.int .i64 ad) (by show w.heap.size ≠ w1.heap.size; omega)).trans hU2
  have hR3 := (heap_setCell_other Y ⟨w1.heap.size, 5, none⟩ (w.heap.size + 1) (.int .i64 ad) (by show w.heap.size + 1 ≠ w1.heap.size; omega)).trans hR2
  have b3 := b2.setCell (p := ⟨w1.heap.size, 5, none⟩) (by show w.heap.size ≤ w1.heap.size; omega) (.int .i64 ad)
  have s3 : (Y.setCell ⟨w1.heap.size, 5, none⟩ (.int .i64 ad)).heap.size = Y.heap.size := by simp
  have at9 := At4.of_heap hI3
  have at3 := At4.of_heap hU3
  have hO3 := hO.below (b3.mono hB0)
  have hD3 := hD.below (b3.mono hB0)
  have z3 := Nat.le_trans hB0 b3.size
  clear hU0 hR0 at0 hU1 hR1 at1 hI2 hU2 hR2 kp fp hD0
  generalize Y.setCell ⟨w1.heap.size, 5, none⟩ (.int .i64 ad) = Z at *
  go_wp2_with (first
    | ((with_reducible show wpList _ _ _ (Oper.mk (some 21) (Op.load 24 _) _ _ _ _ :: _) _ _); refine wpList_val rfl (run_load_v4 rfl rfl at9 rfl) ?_)
    | ((with_reducible show wpList _ _ _ (Oper.mk (some 22) (Op.load 24 _) _ _ _ _ :: _) _ _); refine wpList_val rfl (run_load_v4 rfl rfl at3 rfl) ?_)
    | (go_at_call 39; refine (r11built17S (srcP q ad) q A c A' c' A c A' c' Z ho hl B hO3 hD3 z3 n HN.out HK.out (by omega) HX.out).mono ?_; rintro e w5 ⟨O, o, D, d, rfl, mO, mD⟩; have x5 := mO.below; have hR5 := (x5.block (w.heap.size + 1) (heap_lt hR3)).trans hR3)
    | ((with_reducible show wpList _ _ _ (Oper.mk _ (Op.store 24 _ _) _ _ _ _ :: _) _ _); refine v4_store (g := w.heap.size + 1) (cs := v4a (datP (srcP q ad) (bldU ad q.dst (srcU (inU q) n))) O o D d) rfl rfl hR5 rfl rfl (v4a_one _ _ _ _ _) ?_))
  have zR3 := heap_lt hR3
  have oO6 := own_setRow (made_own mO) (g := w.heap.size + 1) (cs := v4a (datP (srcP q ad) (bldU ad q.dst (srcU (inU q) n))) O o D d) zR3
  have oD6 := own_setRow (made_own mD) (g := w.heap.size + 1) (cs := v4a (datP (srcP q ad) (bldU ad q.dst (srcU (inU q) n))) O o D d) zR3
  have b6 := below_row (b3.trans (x5.mono b3.size)) (g := w.heap.size + 1) (cs := v4a (datP (srcP q ad) (bldU ad q.dst (srcU (inU q) n))) O o D d) (by omega)
  exact bodyPost_ret (res2 rfl rfl (run_loadVar_row _ _ _ 24 (v4a (datP (srcP q ad) (bldU ad q.dst (srcU (inU q) n))) O o D d) _ _ (setRow_heap _ _ _ _ _ _ hR5) Tryz.underlying24 rfl (by kernel_rfl))) rfl ⟨O, o, D, d, rfl, Made.of_own (own_base oO6 (by omega)) b6, Made.of_own (own_base oD6 (by omega)) b6⟩
set_option maxRecDepth 100000 in
set_option maxHeartbeats 2000000 in
theorem r11From6 (ho : q.opt.length ≤ 1000000) (hl : q.dat.length ≤ 900000) (B : Nat) (hO : Arg w B A c q.opt) (hD : Arg w B A' c' q.dat) (hB0 : B ≤ w.heap.size) (ad n : Int) (he : mayE q ad n = 0) (hk : q.proto = 6) : Calls Tryz.prog 12 #[v4v q A c A' c', .int .i64 ad, .int .i64 n] w fun e w' =>
    ∃ P p P' p', e = .returned (.tuple #[v4v (datP (srcP q ad) (bldT ad q.dst (srcT (inT q) n))) P p P' p', .int .i64 0]) ∧ Made w w' (.slice P q.opt.length p) q.opt ∧ Made w w' (.slice P' (bldT ad q.dst (srcT (inT q) n)).length p') (bldT ad q.dst (srcT (inT q) n)) := by
  have HM := Lib.hid he
  obtain ⟨h0, ha, hn⟩ := may_ok he
  have HX := Lib.hid ((fr_chk h0 hn).2.1 hk)
  obtain ⟨hlu, hlo, hlt, hli⟩ := in_len h0
  have HN := Lib.hid hn.1
  have HK := Lib.hid hk
  clear he hk ha hn h0
  have hB : Below w.heap.size w ((w.alloc (.cells (v4a q A c A' c') 24)).alloc (.cells (v4a p4z none 0 none 0) 24)) := below_two w _ _
  have hU0 : ((w.alloc (.cells (v4a q A c A' c') 24)).alloc (.cells (v4a p4z none 0 none 0) 24)).heap[w.heap.size]? = some (.cells (v4a q A c A' c') 24 (0, 0)) := (Below.heap_alloc (w.alloc (.cells (v4a q A c A' c') 24)) _ w.heap.size (by simp)).trans (World.alloc_heap_new w _)
  have hR0 : ((w.alloc (.cells (v4a q A c A' c') 24)).alloc (.cells (v4a p4z none 0 none 0) 24)).heap[w.heap.size + 1]? = some (.cells (v4a p4z none 0 none 0) 24 (0, 0)) := by
    have := World.alloc_heap_new (w.alloc (.cells (v4a q A c A' c') 24)) (.cells (v4a p4z none 0 none 0) 24)
    rwa [World.size_alloc] at this
  rw [v4q_eq]
  go_enter Tryz.func12, Tryz.ntmps12
  go_upto_region 1 with fail
  rw [show #[.int .i64 0, .int .i64 0, .int .i64 0, .int .i64 0, .int .i64 0, .int .i64 0, .int .i64 0, .bool false, .bool false, .slice none 0 0, .slice none 0 0] = v4a p4z none 0 none 0 from rfl]
  generalize (w.alloc (.cells (v4a q A c A' c') 24)).alloc (.cells (v4a p4z none 0 none 0) 24) = W at *
  have at0 := At4.of_heap hU0
  have hD0 := hD.below (hB.mono hB0)
  go_upto_region 5 with (first
    | ((with_reducible show wpList _ _ _ (Oper.mk (some 10) (Op.load 24 _) _ _ _ _ :: _) _ _); refine wpList_val rfl (run_load_v4 rfl rfl at0 rfl) ?_)
    | ((with_reducible show wpList _ _ _ (Oper.mk (some 18) (Op.load 24 _) _ _ _ _ :: _) _ _); refine wpList_val rfl (run_load_v4 rfl rfl at1 rfl) ?_)
    | (go_at_call 38; refine (r11may q A c A' c' W ho hl B hD0 (Nat.le_trans hB0 hB.size) ad n).mono ?_; rintro e w1 ⟨rfl, x1⟩; rw [HM.out]; have hR1 := (x1.block (w.heap.size + 1) (heap_lt hR0)).trans hR0; have hU1 := (x1.block w.heap.size (heap_lt hU0)).trans hU0; have at1 := At4.of_heap hU1; have b1 := hB.trans (x1.mono hB.size))
    | ((with_reducible show wpList _ _ _ (Oper.mk _ (Op.store 24 _ _) _ _ _ _ :: _) _ _); refine v4_store_new (cs := v4a q A c A' c') rfl rfl rfl rfl (v4a_one _ _ _ _ _) ?_))
  have j1 : Below w1.heap.size w1 (w1.alloc (.cells (v4a q A c A' c') 24)) := (Below.refl _ w1).alloc (Nat.le_refl _) _
  have hI2 := World.alloc_heap_new w1 (.cells (v4a q A c A' c') 24)
  have hU2 := (j1.block w.heap.size (heap_lt hU1)).trans hU1
  have hR2 := (j1.block (w.heap.size + 1) (heap_lt hR1)).trans hR1
  have z1 := heap_lt hR1
  have b2 := b1.trans (j1.mono b1.size)
  generalize w1.alloc (.cells (v4a q A c A' c') 24) = Y at *
  have kp := (At4.of_heap hI2).src
  have fp := heap_frozen hI2 5
  go_upto_region 6 with fail
  have hI3 : (Y.setCell ⟨w1.heap.size, 5, none⟩ (.int .i64 ad)).heap[w1.heap.size]? = some (.cells (v4a (srcP q ad) A c A' c') 24 (0, 0)) := heap_setCell_same Y w1.heap.size 5 _ _ (.int .i64 ad) hI2
  have hU3 := (heap_setCell_other Y ⟨w1.heap.size, 5, none⟩ w.heap.size (.int .i64 ad) (by show w.heap.size ≠ w1.heap.size; omega)).trans hU2
  have hR3 := (heap_setCell_other Y ⟨w1.heap.size, 5, none⟩ (w.heap.size + 1) (.int .i64 ad) (by show w.heap.size + 1 ≠ w1.heap.size; omega)).trans hR2
  have b3 := b2.setCell (p := ⟨w1.heap.size, 5, none⟩) (by show w.heap.size ≤ w1.heap.size; omega) (.int .i64 ad)
  have s3 : (Y.setCell ⟨w1.heap.size, 5, none⟩ (.int .i64 ad)).heap.size = Y.heap.size := by simp
  have at9 := At4.of_heap hI3
  have at3 := At4.of_heap hU3
  have hO3 := hO.below (b3.mono hB0)
  have hD3 := hD.below (b3.mono hB0)
  have z3 := Nat.le_trans hB0 b3.size
  clear hU0 hR0 at0 hU1 hR1 at1 hI2 hU2 hR2 kp fp hD0
  generalize Y.setCell ⟨w1.heap.size, 5, none⟩ (.int .i64 ad) = Z at *
  go_wp2_with (first
    | ((with_reducible show wpList _ _ _ (Oper.mk (some 21) (Op.load 24 _) _ _ _ _ :: _) _ _); refine wpList_val rfl (run_load_v4 rfl rfl at9 rfl) ?_)
    | ((with_reducible show wpList _ _ _ (Oper.mk (some 22) (Op.load 24 _) _ _ _ _ :: _) _ _); refine wpList_val rfl (run_load_v4 rfl rfl at3 rfl) ?_)
    | (go_at_call 39; refine (r11built6S (srcP q ad) q A c A' c' A c A' c' Z ho hl B hO3 hD3 z3 n HN.out HK.out (by omega) (by omega) HX.out).mono ?_; rintro e w5 ⟨O, o, D, d, rfl, mO, mD⟩; have x5 := mO.below; have hR5 := (x5.block (w.heap.size + 1) (heap_lt hR3)).trans hR3)
    | ((with_reducible show wpList _ _ _ (Oper.mk _ (Op.store 24 _ _) _ _ _ _ :: _) _ _); refine v4_store (g := w.heap.size + 1) (cs := v4a (datP (srcP q ad) (bldT ad q.dst (srcT (inT q) n))) O o D d) rfl rfl hR5 rfl rfl (v4a_one _ _ _ _ _) ?_))
  have zR3 := heap_lt hR3
  have oO6 := own_setRow (made_own mO) (g := w.heap.size + 1) (cs := v4a (datP (srcP q ad) (bldT ad q.dst (srcT (inT q) n))) O o D d) zR3
  have oD6 := own_setRow (made_own mD) (g := w.heap.size + 1) (cs := v4a (datP (srcP q ad) (bldT ad q.dst (srcT (inT q) n))) O o D d) zR3
  have b6 := below_row (b3.trans (x5.mono b3.size)) (g := w.heap.size + 1) (cs := v4a (datP (srcP q ad) (bldT ad q.dst (srcT (inT q) n))) O o D d) (by omega)
  exact bodyPost_ret (res2 rfl rfl (run_loadVar_row _ _ _ 24 (v4a (datP (srcP q ad) (bldT ad q.dst (srcT (inT q) n))) O o D d) _ _ (setRow_heap _ _ _ _ _ _ hR5) Tryz.underlying24 rfl (by kernel_rfl))) rfl ⟨O, o, D, d, rfl, Made.of_own (own_base oO6 (by omega)) b6, Made.of_own (own_base oD6 (by omega)) b6⟩
set_option maxRecDepth 100000 in
set_option maxHeartbeats 2000000 in
theorem r11From1 (ho : q.opt.length ≤ 1000000) (hl : q.dat.length ≤ 900000) (B : Nat) (hO : Arg w B A c q.opt) (hD : Arg w B A' c' q.dat) (hB0 : B ≤ w.heap.size) (ad n : Int) (he : mayE q ad n = 0) (hk : q.proto = 1) : Calls Tryz.prog 12 #[v4v q A c A' c', .int .i64 ad, .int .i64 n] w fun e w' =>
    ∃ P p P' p', e = .returned (.tuple #[v4v (datP (srcP q ad) (bldI [] (wdI (inI q) n))) P p P' p', .int .i64 0]) ∧ Made w w' (.slice P q.opt.length p) q.opt ∧ Made w w' (.slice P' (bldI [] (wdI (inI q) n)).length p') (bldI [] (wdI (inI q) n)) := by
  have HM := Lib.hid he
  obtain ⟨h0, ha, hn⟩ := may_ok he
  have HX := Lib.hid ((fr_chk h0 hn).2.2 hk)
  obtain ⟨hlu, hlo, hlt, hli⟩ := in_len h0
  have HN := Lib.hid hn.1
  have HK := Lib.hid hk
  clear he hk ha hn h0
  have hB : Below w.heap.size w ((w.alloc (.cells (v4a q A c A' c') 24)).alloc (.cells (v4a p4z none 0 none 0) 24)) := below_two w _ _
  have hU0 : ((w.alloc (.cells (v4a q A c A' c') 24)).alloc (.cells (v4a p4z none 0 none 0) 24)).heap[w.heap.size]? = some (.cells (v4a q A c A' c') 24 (0, 0)) := (Below.heap_alloc (w.alloc (.cells (v4a q A c A' c') 24)) _ w.heap.size (by simp)).trans (World.alloc_heap_new w _)
  have hR0 : ((w.alloc (.cells (v4a q A c A' c') 24)).alloc (.cells (v4a p4z none 0 none 0) 24)).heap[w.heap.size + 1]? = some (.cells (v4a p4z none 0 none 0) 24 (0, 0)) := by
    have := World.alloc_heap_new (w.alloc (.cells (v4a q A c A' c') 24)) (.cells (v4a p4z none 0 none 0) 24)
    rwa [World.size_alloc] at this
  rw [v4q_eq]
  go_enter Tryz.func12, Tryz.ntmps12
  go_upto_region 1 with fail
  rw [show #[.int .i64 0, .int .i64 0, .int .i64 0, .int .i64 0, .int .i64 0, .int .i64 0, .int .i64 0, .bool false, .bool false, .slice none 0 0, .slice none 0 0] = v4a p4z none 0 none 0 from rfl]
  generalize (w.alloc (.cells (v4a q A c A' c') 24)).alloc (.cells (v4a p4z none 0 none 0) 24) = W at *
  have at0 := At4.of_heap hU0
  have hD0 := hD.below (hB.mono hB0)
  go_upto_region 5 with (first
    | ((with_reducible show wpList _ _ _ (Oper.mk (some 10) (Op.load 24 _) _ _ _ _ :: _) _ _); refine wpList_val rfl (run_load_v4 rfl rfl at0 rfl) ?_)
    | ((with_reducible show wpList _ _ _ (Oper.mk (some 18) (Op.load 24 _) _ _ _ _ :: _) _ _); refine wpList_val rfl (run_load_v4 rfl rfl at1 rfl) ?_)
    | (go_at_call 38; refine (r11may q A c A' c' W ho hl B hD0 (Nat.le_trans hB0 hB.size) ad n).mono ?_; rintro e w1 ⟨rfl, x1⟩; rw [HM.out]; have hR1 := (x1.block (w.heap.size + 1) (heap_lt hR0)).trans hR0; have hU1 := (x1.block w.heap.size (heap_lt hU0)).trans hU0; have at1 := At4.of_heap hU1; have b1 := hB.trans (x1.mono hB.size))
    | ((with_reducible show wpList _ _ _ (Oper.mk _ (Op.store 24 _ _) _ _ _ _ :: _) _ _); refine v4_store_new (cs := v4a q A c A' c') rfl rfl rfl rfl (v4a_one _ _ _ _ _) ?_))
  have j1 : Below w1.heap.size w1 (w1.alloc (.cells (v4a q A c A' c') 24)) := (Below.refl _ w1).alloc (Nat.le_refl _) _
  have hI2 := World.alloc_heap_new w1 (.cells (v4a q A c A' c') 24)
  have hU2 := (j1.block w.heap.size (heap_lt hU1)).trans hU1
  have hR2 := (j1.block (w.heap.size + 1) (heap_lt hR1)).trans hR1
  have z1 := heap_lt hR1
  have b2 := b1.trans (j1.mono b1.size)
  generalize w1.alloc (.cells (v4a q A c A' c') 24) = Y at *
  have kp := (At4.of_heap hI2).src
  have fp := heap_frozen hI2 5
  go_upto_region 6 with fail
  have hI3 : (Y.setCell ⟨w1.heap.size, 5, none⟩ (.int .i64 ad)).heap[w1.heap.size]? = some (.cells (v4a (srcP q ad) A c A' c') 24 (0, 0)) := heap_setCell_same Y w1.heap.size 5 _ _ (.int .i64 ad) hI2
  have hU3 := (heap_setCell_other Y ⟨w1.heap.size, 5, none⟩ w.heap.size (.int .i64 ad) (by show w.heap.size ≠ w1.heap.size; omega)).trans hU2
  have hR3 := (heap_setCell_other Y ⟨w1.heap.size, 5, none⟩ (w.heap.size + 1) (.int .i64 ad) (by show w.heap.size + 1 ≠ w1.heap.size; omega)).trans hR2
  have b3 := b2.setCell (p := ⟨w1.heap.size, 5, none⟩) (by show w.heap.size ≤ w1.heap.size; omega) (.int .i64 ad)
  have s3 : (Y.setCell ⟨w1.heap.size, 5, none⟩ (.int .i64 ad)).heap.size = Y.heap.size := by simp
  have at9 := At4.of_heap hI3
  have at3 := At4.of_heap hU3
  have hO3 := hO.below (b3.mono hB0)
  have hD3 := hD.below (b3.mono hB0)
  have z3 := Nat.le_trans hB0 b3.size
  clear hU0 hR0 at0 hU1 hR1 at1 hI2 hU2 hR2 kp fp hD0
  generalize Y.setCell ⟨w1.heap.size, 5, none⟩ (.int .i64 ad) = Z at *
  go_wp2_with (first
    | ((with_reducible show wpList _ _ _ (Oper.mk (some 21) (Op.load 24 _) _ _ _ _ :: _) _ _); refine wpList_val rfl (run_load_v4 rfl rfl at9 rfl) ?_)
    | ((with_reducible show wpList _ _ _ (Oper.mk (some 22) (Op.load 24 _) _ _ _ _ :: _) _ _); refine wpList_val rfl (run_load_v4 rfl rfl at3 rfl) ?_)
    | (go_at_call 39; refine (r11built1S (srcP q ad) q A c A' c' A c A' c' Z ho hl B hO3 hD3 z3 n HN.out HK.out (by omega) HX.out).mono ?_; rintro e w5 ⟨O, o, D, d, rfl, mO, mD⟩; have x5 := mO.below; have hR5 := (x5.block (w.heap.size + 1) (heap_lt hR3)).trans hR3)
    | ((with_reducible show wpList _ _ _ (Oper.mk _ (Op.store 24 _ _) _ _ _ _ :: _) _ _); refine v4_store (g := w.heap.size + 1) (cs := v4a (datP (srcP q ad) (bldI [] (wdI (inI q) n))) O o D d) rfl rfl hR5 rfl rfl (v4a_one _ _ _ _ _) ?_))
  have zR3 := heap_lt hR3
  have oO6 := own_setRow (made_own mO) (g := w.heap.size + 1) (cs := v4a (datP (srcP q ad) (bldI [] (wdI (inI q) n))) O o D d) zR3
  have oD6 := own_setRow (made_own mD) (g := w.heap.size + 1) (cs := v4a (datP (srcP q ad) (bldI [] (wdI (inI q) n))) O o D d) zR3
  have b6 := below_row (b3.trans (x5.mono b3.size)) (g := w.heap.size + 1) (cs := v4a (datP (srcP q ad) (bldI [] (wdI (inI q) n))) O o D d) (by omega)
  exact bodyPost_ret (res2 rfl rfl (run_loadVar_row _ _ _ 24 (v4a (datP (srcP q ad) (bldI [] (wdI (inI q) n))) O o D d) _ _ (setRow_heap _ _ _ _ _ _ hR5) Tryz.underlying24 rfl (by kernel_rfl))) rfl ⟨O, o, D, d, rfl, Made.of_own (own_base oO6 (by omega)) b6, Made.of_own (own_base oD6 (by omega)) b6⟩
theorem r11From (ho : q.opt.length ≤ 1000000) (hl : q.dat.length ≤ 900000) (B : Nat) (hO : Arg w B A c q.opt) (hD : Arg w B A' c' q.dat) (hB0 : B ≤ w.heap.size) (ad n : Int) : Calls Tryz.prog 12 #[v4v q A c A' c', .int .i64 ad, .int .i64 n] w fun e w' => ∃ P p P' p', e = .returned (.tuple #[v4v (frV q ad n) P p P' p', .int .i64 (mayE q ad n)]) ∧ Made w w' (.slice P (frV q ad n).opt.length p) (frV q ad n).opt ∧ Made w w' (.slice P' (frV q ad n).dat.length p') (frV q ad n).dat := by
  by_cases hm : mayE q ad n = 0
  · rw [frV, if_pos hm, hm]
    obtain ⟨_, _, h⟩ := of_ok (may_ok hm).1
    rcases h with ⟨hk, _⟩ | ⟨hk, _⟩ | ⟨hk, _⟩
    · have e : frP q ad n = datP (srcP q ad) (bldU ad q.dst (srcU (inU q) n)) := by simp [frP, nwP, nwD, datP, srcP, hk]
      rw [e]; exact r11From17 q A c A' c' w ho hl B hO hD hB0 ad n hm hk
    · have e : frP q ad n = datP (srcP q ad) (bldT ad q.dst (srcT (inT q) n)) := by simp [frP, nwP, nwD, datP, srcP, hk]
      rw [e]; exact r11From6 q A c A' c' w ho hl B hO hD hB0 ad n hm hk
    · have e : frP q ad n = datP (srcP q ad) (bldI [] (wdI (inI q) n)) := by simp [frP, nwP, nwD, datP, srcP, hk]
      rw [e]; exact r11From1 q A c A' c' w ho hl B hO hD hB0 ad n hm hk
  · rw [frV, if_neg hm]
    exact r11FromE q A c A' c' w ho hl B hD hB0 ad n hm
set_option maxRecDepth 100000 in
set_option maxHeartbeats 2000000 in
theorem r11ToE (ho : q.opt.length ≤ 1000000) (hl : q.dat.length ≤ 900000) (B : Nat) (hD : Arg w B A' c' q.dat) (hB0 : B ≤ w.heap.size) (ad n : Int) (he : mayE q ad n ≠ 0) : Calls Tryz.prog 14 #[v4v q A c A' c', .int .i64 ad, .int .i64 n] w fun e w' => ∃ P p P' p', e = .returned (.tuple #[v4v p4z P p P' p', .int .i64 (mayE q ad n)]) ∧ Made w w' (.slice P p4z.opt.length p) p4z.opt ∧ Made w w' (.slice P' p4z.dat.length p') p4z.dat := by
  obtain ⟨E, hE⟩ : ∃ y, y = mayE q ad n := ⟨_, rfl⟩
  have HM := Lib.hid hE.symm
  have dE : (E != 0) = true := by simpa [hE] using he
  rw [← hE]
  clear he hE
  have hB : Below w.heap.size w ((w.alloc (.cells (v4a q A c A' c') 24)).alloc (.cells (v4a p4z none 0 none 0) 24)) := below_two w _ _
  have hU0 : ((w.alloc (.cells (v4a q A c A' c') 24)).alloc (.cells (v4a p4z none 0 none 0) 24)).heap[w.heap.size]? = some (.cells (v4a q A c A' c') 24 (0, 0)) := (Below.heap_alloc (w.alloc (.cells (v4a q A c A' c') 24)) _ w.heap.size (by simp)).trans (World.alloc_heap_new w _)
  have hR0 : ((w.alloc (.cells (v4a q A c A' c') 24)).alloc (.cells (v4a p4z none 0 none 0) 24)).heap[w.heap.size + 1]? = some (.cells (v4a p4z none 0 none 0) 24 (0, 0)) := by
    have := World.alloc_heap_new (w.alloc (.cells (v4a q A c A' c') 24)) (.cells (v4a p4z none 0 none 0) 24)
    rwa [World.size_alloc] at this
  rw [v4q_eq]
  go_enter Tryz.func14, Tryz.ntmps14
  go_upto_region 1 with fail
  rw [show #[.int .i64 0, .int .i64 0, .int .i64 0, .int .i64 0, .int .i64 0, .int .i64 0, .int .i64 0, .bool false, .bool false, .slice none 0 0, .slice none 0 0] = v4a p4z none 0 none 0 from rfl]
  generalize (w.alloc (.cells (v4a q A c A' c') 24)).alloc (.cells (v4a p4z none 0 none 0) 24) = W at *
  have at0 := At4.of_heap hU0
  have hD0 := hD.below (hB.mono hB0)
  go_wp2_with (first
    | ((with_reducible show wpList _ _ _ (Oper.mk (some 10) (Op.load 24 _) _ _ _ _ :: _) _ _); refine wpList_val rfl (run_load_v4 rfl rfl at0 rfl) ?_)
    | (go_at_call 38; refine (r11may q A c A' c' W ho hl B hD0 (Nat.le_trans hB0 hB.size) ad n).mono ?_; rintro e w1 ⟨rfl, x1⟩; rw [HM.out]; have hR1 := (x1.block (w.heap.size + 1) (heap_lt hR0)).trans hR0; have hU1 := (x1.block w.heap.size (heap_lt hU0)).trans hU0; have at1 := At4.of_heap hU1; have b1 := hB.trans (x1.mono hB.size))
    | ((with_reducible show wpList _ _ _ (Oper.mk _ (Op.store 24 _ _) _ _ _ _ :: _) _ _); refine v4_store (g := w.heap.size + 1) (cs := v4a p4z none 0 none 0) rfl rfl hR1 rfl rfl (v4a_one _ _ _ _ _) ?_))
  exact bodyPost_ret (res2 rfl rfl (run_loadVar_row _ _ _ 24 (v4a p4z none 0 none 0) _ _ (setRow_heap _ _ _ _ _ _ hR1) Tryz.underlying24 rfl (by kernel_rfl))) rfl ⟨none, 0, none, 0, rfl, Made.nil _ _ (below_row b1 (by omega)), Made.nil _ _ (below_row b1 (by omega))⟩
set_option maxRecDepth 100000 in
set_option maxHeartbeats 2000000 in
theorem r11To17 (ho : q.opt.length ≤ 1000000) (hl : q.dat.length ≤ 900000) (B : Nat) (hO : Arg w B A c q.opt) (hD : Arg w B A' c' q.dat) (hB0 : B ≤ w.heap.size) (ad n : Int) (he : mayE q ad n = 0) (hk : q.proto = 17) : Calls Tryz.prog 14 #[v4v q A c A' c', .int .i64 ad, .int .i64 n] w fun e w' =>
    ∃ P p P' p', e = .returned (.tuple #[v4v (datP (dstP q ad) (bldU q.src ad (dstU (inU q) n))) P p P' p', .int .i64 0]) ∧ Made w w' (.slice P q.opt.length p) q.opt ∧ Made w w' (.slice P' (bldU q.src ad (dstU (inU q) n)).length p') (bldU q.src ad (dstU (inU q) n)) := by
  have HM := Lib.hid he
  obtain ⟨h0, ha, hn⟩ := may_ok he
  have HX := Lib.hid ((to_chk h0 hn).1 hk)
  obtain ⟨hlu, hlo, hlt, hli⟩ := in_len h0
  have HN := Lib.hid hn.1
  have HK := Lib.hid hk
  clear he hk ha hn h0
  have hB : Below w.heap.size w ((w.alloc (.cells (v4a q A c A' c') 24)).alloc (.cells (v4a p4z none 0 none 0) 24)) := below_two w _ _
  have hU0 : ((w.alloc (.cells (v4a q A c A' c') 24)).alloc (.cells (v4a p4z none 0 none 0) 24)).heap[w.heap.size]? = some (.cells (v4a q A c A' c') 24 (0, 0)) := (Below.heap_alloc (w.alloc (.cells (v4a q A c A' c') 24)) _ w.heap.size (by simp)).trans (World.alloc_heap_new w _)
  have hR0 : ((w.alloc (.cells (v4a q A c A' c') 24)).alloc (.cells (v4a p4z none 0 none 0) 24)).heap[w.heap.size + 1]? = some (.cells (v4a p4z none 0 none 0) 24 (0, 0)) := by
    have := World.alloc_heap_new (w.alloc (.cells (v4a q A c A' c') 24)) (.cells (v4a p4z none 0 none 0) 24)
    rwa [World.size_alloc] at this
  rw [v4q_eq]
  go_enter Tryz.func14, Tryz.ntmps14
  go_upto_region 1 with fail
  rw [show #[.int .i64 0, .int .i64 0, .int .i64 0, .int .i64 0, .int .i64 0, .int .i64 0, .int .i64 0, .bool false, .bool false, .slice none 0 0, .slice none 0 0] = v4a p4z none 0 none 0 from rfl]
  generalize (w.alloc (.cells (v4a q A c A' c') 24)).alloc (.cells (v4a p4z none 0 none 0) 24) = W at *
  have at0 := At4.of_heap hU0
  have hD0 := hD.below (hB.mono hB0)
  go_upto_region 5 with (first
    | ((with_reducible show wpList _ _ _ (Oper.mk (some 10) (Op.load 24 _) _ _ _ _ :: _) _ _); refine wpList_val rfl (run_load_v4 rfl rfl at0 rfl) ?_)
    | ((with_reducible show wpList _ _ _ (Oper.mk (some 18) (Op.load 24 _) _ _ _ _ :: _) _ _); refine wpList_val rfl (run_load_v4 rfl rfl at1 rfl) ?_)
    | (go_at_call 38; refine (r11may q A c A' c' W ho hl B hD0 (Nat.le_trans hB0 hB.size) ad n).mono ?_; rintro e w1 ⟨rfl, x1⟩; rw [HM.out]; have hR1 := (x1.block (w.heap.size + 1) (heap_lt hR0)).trans hR0; have hU1 := (x1.block w.heap.size (heap_lt hU0)).trans hU0; have at1 := At4.of_heap hU1; have b1 := hB.trans (x1.mono hB.size))
    | ((with_reducible show wpList _ _ _ (Oper.mk _ (Op.store 24 _ _) _ _ _ _ :: _) _ _); refine v4_store_new (cs := v4a q A c A' c') rfl rfl rfl rfl (v4a_one _ _ _ _ _) ?_))
  have j1 : Below w1.heap.size w1 (w1.alloc (.cells (v4a q A c A' c') 24)) := (Below.refl _ w1).alloc (Nat.le_refl _) _
  have hI2 := World.alloc_heap_new w1 (.cells (v4a q A c A' c') 24)
  have hU2 := (j1.block w.heap.size (heap_lt hU1)).trans hU1
  have hR2 := (j1.block (w.heap.size + 1) (heap_lt hR1)).trans hR1
  have z1 := heap_lt hR1
  have b2 := b1.trans (j1.mono b1.size)
  generalize w1.alloc (.cells (v4a q A c A' c') 24) = Y at *
  have kp := (At4.of_heap hI2).dst
  have fp := heap_frozen hI2 6
  go_upto_region 6 with fail
  have hI3 : (Y.setCell ⟨w1.heap.size, 6, none⟩ (.int .i64 ad)).heap[w1.heap.size]? = some (.cells (v4a (dstP q ad) A c A' c') 24 (0, 0)) := heap_setCell_same Y w1.heap.size 6 _ _ (.int .i64 ad) hI2
  have hU3 := (heap_setCell_other Y ⟨w1.heap.size, 6, none⟩ w.heap.size (.int .i64 ad) (by show w.heap.size ≠ w1.heap.size; omega)).trans hU2
  have hR3 := (heap_setCell_other Y ⟨w1.heap.size, 6, none⟩ (w.heap.size + 1) (.int .i64 ad) (by show w.heap.size + 1 ≠ w1.heap.size; omega)).trans hR2
  have b3 := b2.setCell (p := ⟨w1.heap.size, 6, none⟩) (by show w.heap.size ≤ w1.heap.size; omega) (.int .i64 ad)
  have s3 : (Y.setCell ⟨w1.heap.size, 6, none⟩ (.int .i64 ad)).heap.size = Y.heap.size := by simp
  have at9 := At4.of_heap hI3
  have at3 := At4.of_heap hU3
  have hO3 := hO.below (b3.mono hB0)
  have hD3 := hD.below (b3.mono hB0)
  have z3 := Nat.le_trans hB0 b3.size
  clear hU0 hR0 at0 hU1 hR1 at1 hI2 hU2 hR2 kp fp hD0
  generalize Y.setCell ⟨w1.heap.size, 6, none⟩ (.int .i64 ad) = Z at *
  go_wp2_with (first
    | ((with_reducible show wpList _ _ _ (Oper.mk (some 21) (Op.load 24 _) _ _ _ _ :: _) _ _); refine wpList_val rfl (run_load_v4 rfl rfl at9 rfl) ?_)
    | ((with_reducible show wpList _ _ _ (Oper.mk (some 22) (Op.load 24 _) _ _ _ _ :: _) _ _); refine wpList_val rfl (run_load_v4 rfl rfl at3 rfl) ?_)
    | (go_at_call 39; refine (r11built17D (dstP q ad) q A c A' c' A c A' c' Z ho hl B hO3 hD3 z3 n HN.out HK.out (by omega) HX.out).mono ?_; rintro e w5 ⟨O, o, D, d, rfl, mO, mD⟩; have x5 := mO.below; have hR5 := (x5.block (w.heap.size + 1) (heap_lt hR3)).trans hR3)
    | ((with_reducible show wpList _ _ _ (Oper.mk _ (Op.store 24 _ _) _ _ _ _ :: _) _ _); refine v4_store (g := w.heap.size + 1) (cs := v4a (datP (dstP q ad) (bldU q.src ad (dstU (inU q) n))) O o D d) rfl rfl hR5 rfl rfl (v4a_one _ _ _ _ _) ?_))
  have zR3 := heap_lt hR3
  have oO6 := own_setRow (made_own mO) (g := w.heap.size + 1) (cs := v4a (datP (dstP q ad) (bldU q.src ad (dstU (inU q) n))) O o D d) zR3
  have oD6 := own_setRow (made_own mD) (g := w.heap.size + 1) (cs := v4a (datP (dstP q ad) (bldU q.src ad (dstU (inU q) n))) O o D d) zR3
  have b6 := below_row (b3.trans (x5.mono b3.size)) (g := w.heap.size + 1) (cs := v4a (datP (dstP q ad) (bldU q.src ad (dstU (inU q) n))) O o D d) (by omega)
  exact bodyPost_ret (res2 rfl rfl (run_loadVar_row _ _ _ 24 (v4a (datP (dstP q ad) (bldU q.src ad (dstU (inU q) n))) O o D d) _ _ (setRow_heap _ _ _ _ _ _ hR5) Tryz.underlying24 rfl (by kernel_rfl))) rfl ⟨O, o, D, d, rfl, Made.of_own (own_base oO6 (by omega)) b6, Made.of_own (own_base oD6 (by omega)) b6⟩
set_option maxRecDepth 100000 in
set_option maxHeartbeats 2000000 in
theorem r11To6 (ho : q.opt.length ≤ 1000000) (hl : q.dat.length ≤ 900000) (B : Nat) (hO : Arg w B A c q.opt) (hD : Arg w B A' c' q.dat) (hB0 : B ≤ w.heap.size) (ad n : Int) (he : mayE q ad n = 0) (hk : q.proto = 6) : Calls Tryz.prog 14 #[v4v q A c A' c', .int .i64 ad, .int .i64 n] w fun e w' =>
    ∃ P p P' p', e = .returned (.tuple #[v4v (datP (dstP q ad) (bldT q.src ad (dstT (inT q) n))) P p P' p', .int .i64 0]) ∧ Made w w' (.slice P q.opt.length p) q.opt ∧ Made w w' (.slice P' (bldT q.src ad (dstT (inT q) n)).length p') (bldT q.src ad (dstT (inT q) n)) := by
  have HM := Lib.hid he
  obtain ⟨h0, ha, hn⟩ := may_ok he
  have HX := Lib.hid ((to_chk h0 hn).2.1 hk)
  obtain ⟨hlu, hlo, hlt, hli⟩ := in_len h0
  have HN := Lib.hid hn.1
  have HK := Lib.hid hk
  clear he hk ha hn h0
  have hB : Below w.heap.size w ((w.alloc (.cells (v4a q A c A' c') 24)).alloc (.cells (v4a p4z none 0 none 0) 24)) := below_two w _ _
  have hU0 : ((w.alloc (.cells (v4a q A c A' c') 24)).alloc (.cells (v4a p4z none 0 none 0) 24)).heap[w.heap.size]? = some (.cells (v4a q A c A' c') 24 (0, 0)) := (Below.heap_alloc (w.alloc (.cells (v4a q A c A' c') 24)) _ w.heap.size (by simp)).trans (World.alloc_heap_new w _)
  have hR0 : ((w.alloc (.cells (v4a q A c A' c') 24)).alloc (.cells (v4a p4z none 0 none 0) 24)).heap[w.heap.size + 1]? = some (.cells (v4a p4z none 0 none 0) 24 (0, 0)) := by
    have := World.alloc_heap_new (w.alloc (.cells (v4a q A c A' c') 24)) (.cells (v4a p4z none 0 none 0) 24)
    rwa [World.size_alloc] at this
  rw [v4q_eq]
  go_enter Tryz.func14, Tryz.ntmps14
  go_upto_region 1 with fail
  rw [show #[.int .i64 0, .int .i64 0, .int .i64 0, .int .i64 0, .int .i64 0, .int .i64 0, .int .i64 0, .bool false, .bool false, .slice none 0 0, .slice none 0 0] = v4a p4z none 0 none 0 from rfl]
  generalize (w.alloc (.cells (v4a q A c A' c') 24)).alloc (.cells (v4a p4z none 0 none 0) 24) = W at *
  have at0 := At4.of_heap hU0
  have hD0 := hD.below (hB.mono hB0)
  go_upto_region 5 with (first
    | ((with_reducible show wpList _ _ _ (Oper.mk (some 10) (Op.load 24 _) _ _ _ _ :: _) _ _); refine wpList_val rfl (run_load_v4 rfl rfl at0 rfl) ?_)
    | ((with_reducible show wpList _ _ _ (Oper.mk (some 18) (Op.load 24 _) _ _ _ _ :: _) _ _); refine wpList_val rfl (run_load_v4 rfl rfl at1 rfl) ?_)
    | (go_at_call 38; refine (r11may q A c A' c' W ho hl B hD0 (Nat.le_trans hB0 hB.size) ad n).mono ?_; rintro e w1 ⟨rfl, x1⟩; rw [HM.out]; have hR1 := (x1.block (w.heap.size + 1) (heap_lt hR0)).trans hR0; have hU1 := (x1.block w.heap.size (heap_lt hU0)).trans hU0; have at1 := At4.of_heap hU1; have b1 := hB.trans (x1.mono hB.size))
    | ((with_reducible show wpList _ _ _ (Oper.mk _ (Op.store 24 _ _) _ _ _ _ :: _) _ _); refine v4_store_new (cs := v4a q A c A' c') rfl rfl rfl rfl (v4a_one _ _ _ _ _) ?_))
  have j1 : Below w1.heap.size w1 (w1.alloc (.cells (v4a q A c A' c') 24)) := (Below.refl _ w1).alloc (Nat.le_refl _) _
  have hI2 := World.alloc_heap_new w1 (.cells (v4a q A c A' c') 24)
  have hU2 := (j1.block w.heap.size (heap_lt hU1)).trans hU1
  have hR2 := (j1.block (w.heap.size + 1) (heap_lt hR1)).trans hR1
  have z1 := heap_lt hR1
  have b2 := b1.trans (j1.mono b1.size)
  generalize w1.alloc (.cells (v4a q A c A' c') 24) = Y at *
  have kp := (At4.of_heap hI2).dst
  have fp := heap_frozen hI2 6
  go_upto_region 6 with fail
  have hI3 : (Y.setCell ⟨w1.heap.size, 6, none⟩ (.int .i64 ad)).heap[w1.heap.size]? = some (.cells (v4a (dstP q ad) A c A' c') 24 (0, 0)) := heap_setCell_same Y w1.heap.size 6 _ _ (.int .i64 ad) hI2
  have hU3 := (heap_setCell_other Y ⟨w1.heap.size, 6, none⟩ w.heap.size (.int .i64 ad) (by show w.heap.size ≠ w1.heap.size; omega)).trans hU2
  have hR3 := (heap_setCell_other Y ⟨w1.heap.size, 6, none⟩ (w.heap.size + 1) (.int .i64 ad) (by show w.heap.size + 1 ≠ w1.heap.size; omega)).trans hR2
  have b3 := b2.setCell (p := ⟨w1.heap.size, 6, none⟩) (by show w.heap.size ≤ w1.heap.size; omega) (.int .i64 ad)
  have s3 : (Y.setCell ⟨w1.heap.size, 6, none⟩ (.int .i64 ad)).heap.size = Y.heap.size := by simp
  have at9 := At4.of_heap hI3
  have at3 := At4.of_heap hU3
  have hO3 := hO.below (b3.mono hB0)
  have hD3 := hD.below (b3.mono hB0)
  have z3 := Nat.le_trans hB0 b3.size
  clear hU0 hR0 at0 hU1 hR1 at1 hI2 hU2 hR2 kp fp hD0
  generalize Y.setCell ⟨w1.heap.size, 6, none⟩ (.int .i64 ad) = Z at *
  go_wp2_with (first
    | ((with_reducible show wpList _ _ _ (Oper.mk (some 21) (Op.load 24 _) _ _ _ _ :: _) _ _); refine wpList_val rfl (run_load_v4 rfl rfl at9 rfl) ?_)
    | ((with_reducible show wpList _ _ _ (Oper.mk (some 22) (Op.load 24 _) _ _ _ _ :: _) _ _); refine wpList_val rfl (run_load_v4 rfl rfl at3 rfl) ?_)
    | (go_at_call 39; refine (r11built6D (dstP q ad) q A c A' c' A c A' c' Z ho hl B hO3 hD3 z3 n HN.out HK.out (by omega) (by omega) HX.out).mono ?_; rintro e w5 ⟨O, o, D, d, rfl, mO, mD⟩; have x5 := mO.below; have hR5 := (x5.block (w.heap.size + 1) (heap_lt hR3)).trans hR3)
    | ((with_reducible show wpList _ _ _ (Oper.mk _ (Op.store 24 _ _) _ _ _ _ :: _) _ _); refine v4_store (g := w.heap.size + 1) (cs := v4a (datP (dstP q ad) (bldT q.src ad (dstT (inT q) n))) O o D d) rfl rfl hR5 rfl rfl (v4a_one _ _ _ _ _) ?_))
  have zR3 := heap_lt hR3
  have oO6 := own_setRow (made_own mO) (g := w.heap.size + 1) (cs := v4a (datP (dstP q ad) (bldT q.src ad (dstT (inT q) n))) O o D d) zR3
  have oD6 := own_setRow (made_own mD) (g := w.heap.size + 1) (cs := v4a (datP (dstP q ad) (bldT q.src ad (dstT (inT q) n))) O o D d) zR3
  have b6 := below_row (b3.trans (x5.mono b3.size)) (g := w.heap.size + 1) (cs := v4a (datP (dstP q ad) (bldT q.src ad (dstT (inT q) n))) O o D d) (by omega)
  exact bodyPost_ret (res2 rfl rfl (run_loadVar_row _ _ _ 24 (v4a (datP (dstP q ad) (bldT q.src ad (dstT (inT q) n))) O o D d) _ _ (setRow_heap _ _ _ _ _ _ hR5) Tryz.underlying24 rfl (by kernel_rfl))) rfl ⟨O, o, D, d, rfl, Made.of_own (own_base oO6 (by omega)) b6, Made.of_own (own_base oD6 (by omega)) b6⟩
set_option maxRecDepth 100000 in
set_option maxHeartbeats 2000000 in
theorem r11To1 (ho : q.opt.length ≤ 1000000) (hl : q.dat.length ≤ 900000) (B : Nat) (hO : Arg w B A c q.opt) (hD : Arg w B A' c' q.dat) (hB0 : B ≤ w.heap.size) (ad n : Int) (he : mayE q ad n = 0) (hk : q.proto = 1) : Calls Tryz.prog 14 #[v4v q A c A' c', .int .i64 ad, .int .i64 n] w fun e w' =>
    ∃ P p P' p', e = .returned (.tuple #[v4v (datP (dstP q ad) (bldI [] (wdI (inI q) n))) P p P' p', .int .i64 0]) ∧ Made w w' (.slice P q.opt.length p) q.opt ∧ Made w w' (.slice P' (bldI [] (wdI (inI q) n)).length p') (bldI [] (wdI (inI q) n)) := by
  have HM := Lib.hid he
  obtain ⟨h0, ha, hn⟩ := may_ok he
  have HX := Lib.hid ((to_chk h0 hn).2.2 hk)
  obtain ⟨hlu, hlo, hlt, hli⟩ := in_len h0
  have HN := Lib.hid hn.1
  have HK := Lib.hid hk
  clear he hk ha hn h0
  have hB : Below w.heap.size w ((w.alloc (.cells (v4a q A c A' c') 24)).alloc (.cells (v4a p4z none 0 none 0) 24)) := below_two w _ _
  have hU0 : ((w.alloc (.cells (v4a q A c A' c') 24)).alloc (.cells (v4a p4z none 0 none 0) 24)).heap[w.heap.size]? = some (.cells (v4a q A c A' c') 24 (0, 0)) := (Below.heap_alloc (w.alloc (.cells (v4a q A c A' c') 24)) _ w.heap.size (by simp)).trans (World.alloc_heap_new w _)
  have hR0 : ((w.alloc (.cells (v4a q A c A' c') 24)).alloc (.cells (v4a p4z none 0 none 0) 24)).heap[w.heap.size + 1]? = some (.cells (v4a p4z none 0 none 0) 24 (0, 0)) := by
    have := World.alloc_heap_new (w.alloc (.cells (v4a q A c A' c') 24)) (.cells (v4a p4z none 0 none 0) 24)
    rwa [World.size_alloc] at this
  rw [v4q_eq]
  go_enter Tryz.func14, Tryz.ntmps14
  go_upto_region 1 with fail
  rw [show #[.int .i64 0, .int .i64 0, .int .i64 0, .int .i64 0, .int .i64 0, .int .i64 0, .int .i64 0, .bool false, .bool false, .slice none 0 0, .slice none 0 0] = v4a p4z none 0 none 0 from rfl]
  generalize (w.alloc (.cells (v4a q A c A' c') 24)).alloc (.cells (v4a p4z none 0 none 0) 24) = W at *
  have at0 := At4.of_heap hU0
  have hD0 := hD.below (hB.mono hB0)
  go_upto_region 5 with (first
    | ((with_reducible show wpList _ _ _ (Oper.mk (some 10) (Op.load 24 _) _ _ _ _ :: _) _ _); refine wpList_val rfl (run_load_v4 rfl rfl at0 rfl) ?_)
    | ((with_reducible show wpList _ _ _ (Oper.mk (some 18) (Op.load 24 _) _ _ _ _ :: _) _ _); refine wpList_val rfl (run_load_v4 rfl rfl at1 rfl) ?_)
    | (go_at_call 38; refine (r11may q A c A' c' W ho hl B hD0 (Nat.le_trans hB0 hB.size) ad n).mono ?_; rintro e w1 ⟨rfl, x1⟩; rw [HM.out]; have hR1 := (x1.block (w.heap.size + 1) (heap_lt hR0)).trans hR0; have hU1 := (x1.block w.heap.size (heap_lt hU0)).trans hU0; have at1 := At4.of_heap hU1; have b1 := hB.trans (x1.mono hB.size))
    | ((with_reducible show wpList _ _ _ (Oper.mk _ (Op.store 24 _ _) _ _ _ _ :: _) _ _); refine v4_store_new (cs := v4a q A c A' c') rfl rfl rfl rfl (v4a_one _ _ _ _ _) ?_))
  have j1 : Below w1.heap.size w1 (w1.alloc (.cells (v4a q A c A' c') 24)) := (Below.refl _ w1).alloc (Nat.le_refl _) _
  have hI2 := World.alloc_heap_new w1 (.cells (v4a q A c A' c') 24)
  have hU2 := (j1.block w.heap.size (heap_lt hU1)).trans hU1
  have hR2 := (j1.block (w.heap.size + 1) (heap_lt hR1)).trans hR1
  have z1 := heap_lt hR1
  have b2 := b1.trans (j1.mono b1.size)
  generalize w1.alloc (.cells (v4a q A c A' c') 24) = Y at *
  have kp := (At4.of_heap hI2).dst
  have fp := heap_frozen hI2 6
  go_upto_region 6 with fail
  have hI3 : (Y.setCell ⟨w1.heap.size, 6, none⟩ (.int .i64 ad)).heap[w1.heap.size]? = some (.cells (v4a (dstP q ad) A c A' c') 24 (0, 0)) := heap_setCell_same Y w1.heap.size 6 _ _ (.int .i64 ad) hI2
  have hU3 := (heap_setCell_other Y ⟨w1.heap.size, 6, none⟩ w.heap.size (.int .i64 ad) (by show w.heap.size ≠ w1.heap.size; omega)).trans hU2
  have hR3 := (heap_setCell_other Y ⟨w1.heap.size, 6, none⟩ (w.heap.size + 1) (.int .i64 ad) (by show w.heap.size + 1 ≠ w1.heap.size; omega)).trans hR2
  have b3 := b2.setCell (p := ⟨w1.heap.size, 6, none⟩) (by show w.heap.size ≤ w1.heap.size; omega) (.int .i64 ad)
  have s3 : (Y.setCell ⟨w1.heap.size, 6, none⟩ (.int .i64 ad)).heap.size = Y.heap.size := by simp
  have at9 := At4.of_heap hI3
  have at3 := At4.of_heap hU3
  have hO3 := hO.below (b3.mono hB0)
  have hD3 := hD.below (b3.mono hB0)
  have z3 := Nat.le_trans hB0 b3.size
  clear hU0 hR0 at0 hU1 hR1 at1 hI2 hU2 hR2 kp fp hD0
  generalize Y.setCell ⟨w1.heap.size, 6, none⟩ (.int .i64 ad) = Z at *
  go_wp2_with (first
    | ((with_reducible show wpList _ _ _ (Oper.mk (some 21) (Op.load 24 _) _ _ _ _ :: _) _ _); refine wpList_val rfl (run_load_v4 rfl rfl at9 rfl) ?_)
    | ((with_reducible show wpList _ _ _ (Oper.mk (some 22) (Op.load 24 _) _ _ _ _ :: _) _ _); refine wpList_val rfl (run_load_v4 rfl rfl at3 rfl) ?_)
    | (go_at_call 39; refine (r11built1D (dstP q ad) q A c A' c' A c A' c' Z ho hl B hO3 hD3 z3 n HN.out HK.out (by omega) HX.out).mono ?_; rintro e w5 ⟨O, o, D, d, rfl, mO, mD⟩; have x5 := mO.below; have hR5 := (x5.block (w.heap.size + 1) (heap_lt hR3)).trans hR3)
    | ((with_reducible show wpList _ _ _ (Oper.mk _ (Op.store 24 _ _) _ _ _ _ :: _) _ _); refine v4_store (g := w.heap.size + 1) (cs := v4a (datP (dstP q ad) (bldI [] (wdI (inI q) n))) O o D d) rfl rfl hR5 rfl rfl (v4a_one _ _ _ _ _) ?_))
  have zR3 := heap_lt hR3
  have oO6 := own_setRow (made_own mO) (g := w.heap.size + 1) (cs := v4a (datP (dstP q ad) (bldI [] (wdI (inI q) n))) O o D d) zR3
  have oD6 := own_setRow (made_own mD) (g := w.heap.size + 1) (cs := v4a (datP (dstP q ad) (bldI [] (wdI (inI q) n))) O o D d) zR3
  have b6 := below_row (b3.trans (x5.mono b3.size)) (g := w.heap.size + 1) (cs := v4a (datP (dstP q ad) (bldI [] (wdI (inI q) n))) O o D d) (by omega)
  exact bodyPost_ret (res2 rfl rfl (run_loadVar_row _ _ _ 24 (v4a (datP (dstP q ad) (bldI [] (wdI (inI q) n))) O o D d) _ _ (setRow_heap _ _ _ _ _ _ hR5) Tryz.underlying24 rfl (by kernel_rfl))) rfl ⟨O, o, D, d, rfl, Made.of_own (own_base oO6 (by omega)) b6, Made.of_own (own_base oD6 (by omega)) b6⟩
theorem r11To (ho : q.opt.length ≤ 1000000) (hl : q.dat.length ≤ 900000) (B : Nat) (hO : Arg w B A c q.opt) (hD : Arg w B A' c' q.dat) (hB0 : B ≤ w.heap.size) (ad n : Int) : Calls Tryz.prog 14 #[v4v q A c A' c', .int .i64 ad, .int .i64 n] w fun e w' => ∃ P p P' p', e = .returned (.tuple #[v4v (toV q ad n) P p P' p', .int .i64 (mayE q ad n)]) ∧ Made w w' (.slice P (toV q ad n).opt.length p) (toV q ad n).opt ∧ Made w w' (.slice P' (toV q ad n).dat.length p') (toV q ad n).dat := by
  by_cases hm : mayE q ad n = 0
  · rw [toV, if_pos hm, hm]
    obtain ⟨_, _, h⟩ := of_ok (may_ok hm).1
    rcases h with ⟨hk, _⟩ | ⟨hk, _⟩ | ⟨hk, _⟩
    · have e : toP q ad n = datP (dstP q ad) (bldU q.src ad (dstU (inU q) n)) := by simp [toP, nwP, nwD, datP, dstP, hk]
      rw [e]; exact r11To17 q A c A' c' w ho hl B hO hD hB0 ad n hm hk
    · have e : toP q ad n = datP (dstP q ad) (bldT q.src ad (dstT (inT q) n)) := by simp [toP, nwP, nwD, datP, dstP, hk]
      rw [e]; exact r11To6 q A c A' c' w ho hl B hO hD hB0 ad n hm hk
    · have e : toP q ad n = datP (dstP q ad) (bldI [] (wdI (inI q) n)) := by simp [toP, nwP, nwD, datP, dstP, hk]
      rw [e]; exact r11To1 q A c A' c' w ho hl B hO hD hB0 ad n hm hk
  · rw [toV, if_neg hm]
    exact r11ToE q A c A' c' w ho hl B hD hB0 ad n hm
end
end Go.Proofs.YtodlfdnegcfhcaaGreat

/-
  A packet of a datagram, and what layer 11's laws call first. Conditions are each theorem's own.
-/
namespace Go.Proofs.YtodlfdnegcfhcaaGreat
open Go.RowKit

def dgP (s d f t ttl : Int) (b : List UInt8) : P4 := ⟨0, 0, 0, ttl, 17, s, d, false, false, [], bldU s d ⟨f, t, false, b⟩⟩
theorem of_dg {s d f t ttl : Int} {b : List UInt8} (hu : chkU ⟨f, t, false, b⟩ = 0) (h4 : chk4 (dgP s d f t ttl b) = 0) : ofE (dgP s d f t ttl b) = 0 ∧ inU (dgP s d f t ttl b) = ⟨f, t, false, b⟩ := by
  have k := backU (src := s) (dst := d) hu
  refine ⟨?_, k.2⟩
  rw [ofE, if_neg (by omega), if_neg (by simp [whole4, dgP]), if_pos (show (dgP s d f t ttl b).proto = 17 from rfl)]
  exact k.1
set_option maxRecDepth 100000 in
set_option maxHeartbeats 2000000 in
theorem plain_dg (s d f t ttl : Int) (b : List UInt8) (A : Option Addr) (c : Nat) (w : World) (B : Nat) (hD : Arg w B A c b) (hB0 : B ≤ w.heap.size) (hl : b.length ≤ 900000) (hu : chkU ⟨f, t, false, b⟩ = 0) (h4 : chk4 (dgP s d f t ttl b) = 0) :
    Calls Tryz.prog 29 #[.int .i64 s, .int .i64 d, .int .i64 f, .int .i64 t, .int .i64 ttl, .slice A b.length c] w fun e w' => ∃ P p, e = .returned (.slice P (bld4 (dgP s d f t ttl b)).length p) ∧ Made w w' (.slice P (bld4 (dgP s d f t ttl b)).length p) (bld4 (dgP s d f t ttl b)) := by
  have HU := Lib.hid hu
  have H4 := Lib.hid h4
  obtain ⟨D, hDD⟩ : ∃ l, l = bldU s d ⟨f, t, false, b⟩ := ⟨_, rfl⟩
  have hDl : D.length = 8 + b.length := by rw [hDD, bldU_len]
  have HP := Lib.hid (show dgP s d f t ttl b = ⟨0, 0, 0, ttl, 17, s, d, false, false, [], D⟩ by rw [dgP, hDD])
  have HD := Lib.hid hDD
  obtain ⟨R, hR⟩ : ∃ l, l = bld4 (dgP s d f t ttl b) := ⟨_, rfl⟩
  have HR := Lib.hid hR
  rw [← hR]
  have hDL := Lib.hid hDl
  clear hu h4 hDD hR hDl
  go_enter Tryz.func29, Tryz.ntmps29
  go_wp2_with (first
    | (go_at_call 50; refine (rUbuild ⟨f, t, false, b⟩ A c s d w B hD hB0 (by show b.length ≤ _; omega)).mono ?_; rintro e w1 ⟨v1, rfl, _, m1⟩; have m1 := m1 HU.out; rw [← HD.out] at m1; obtain ⟨P, p, rfl, g1, o1, y1⟩ := made_shape m1; have x1 := m1.below)
    | (go_at_call 51; refine (r5build ⟨0, 0, 0, ttl, 17, s, d, false, false, [], D⟩ none 0 P p w1 w1.heap.size (Arg.nil _ _) g1 (Nat.le_refl _) (by simp) (by have := hDL.out; show D.length ≤ _; omega)).mono ?_; rintro e w2 ⟨v2, rfl, _, m2⟩; have m2 := m2 (by have h := H4.out; rwa [HP.out] at h); rw [← HP.out, ← HR.out] at m2; obtain ⟨P2, p2, rfl, g2, o2, y2⟩ := made_shape m2))
  go_ret
  exact ⟨P2, p2, rfl, m2.after x1⟩
def pa11 : P4 := dgP 167772161 3221225985 5 6 9 []
theorem pa11_chk : chk4 pa11 = 0 := chk4_same (p := ⟨0, 0, 0, 9, 17, 167772161, 3221225985, false, false, [], [0, 0, 0, 0, 0, 0, 0, 0]⟩) (by decide) rfl rfl rfl rfl rfl rfl rfl (bldU_len _ _ _) ⟨by decide, by decide⟩ ⟨by decide, by decide⟩
theorem pa11_of : ofE pa11 = 0 ∧ inU pa11 = ⟨5, 6, false, []⟩ := of_dg (by decide) pa11_chk
theorem pa11_may : mayE pa11 3325256705 7 = 0 := by rw [mayE, if_neg (by rw [pa11_of.1]; simp), if_pos ⟨⟨by decide, by decide⟩, by decide, by decide⟩]
theorem pa11_fr : frV pa11 3325256705 7 = frP pa11 3325256705 7 ∧ ofE (frP pa11 3325256705 7) = 0 ∧ ofV (frP pa11 3325256705 7) = prA 17 7 6 ∧ (frP pa11 3325256705 7).src = 3325256705 := by
  obtain ⟨h0, h1, h2, _⟩ := fr_take pa11_may
  refine ⟨by rw [frV, if_pos pa11_may], h0, ?_, rfl⟩
  rw [ofV, if_pos h0, h1, h2 (by decide), ptD, if_pos (show pa11.proto = 17 from rfl), pa11_of.2]; rfl
theorem pa11_len : (bld4 pa11).length = 28 ∧ pa11.opt.length = 0 ∧ pa11.dat.length = 8 ∧ (frP pa11 3325256705 7).dat.length = 8 := by
  have h := bldU_len 167772161 3221225985 ⟨5, 6, false, []⟩
  refine ⟨by rw [bld4_len]; show 20 + 0 + (bldU ..).length = 28; rw [h]; rfl, rfl, h, ?_⟩
  rw [(fr_take pa11_may).2.2.2]; exact h
set_option maxRecDepth 100000 in
set_option maxHeartbeats 2000000 in
theorem awakeP_any (w : World) : Calls Tryz.prog 8 #[] w fun e w' => e = .returned (.bool true) ∧ Below w.heap.size w w' := by
  have hk := back_ok (q := pa11) (more := []) pa11_chk
  rw [List.append_nil] at hk
  obtain ⟨l1, l2, l3, l4⟩ := pa11_len
  obtain ⟨v1, v2, v3, v4⟩ := pa11_fr
  have HK := Lib.hid hk
  have HM := Lib.hid pa11_may
  have HV1 := Lib.hid v1
  have HV2 := Lib.hid v2
  have HV3 := Lib.hid v3
  have L1 := Lib.hid l1
  have L3 := Lib.hid l3
  have L4 := Lib.hid l4
  have L2 := Lib.hid l2
  obtain ⟨q, hq⟩ : ∃ q, q = frP pa11 3325256705 7 := ⟨_, rfl⟩
  rw [← hq] at v4
  have HQ := Lib.hid hq
  have H5 := Lib.hid v4
  clear hk l1 l2 l3 l4 v1 v2 v3 v4 hq
  go_enter Tryz.func8, Tryz.ntmps8
  go_upto_region 2 with (first
    | (go_at_call 29; refine (plain_dg 167772161 3221225985 5 6 9 [] none 0 w 0 (Arg.nil _ _) (Nat.zero_le _) (by simp) (by decide) pa11_chk).mono ?_; rintro e w1 ⟨P, p, rfl, m1⟩; have x1 := m1.below; have a1 := made_arg m1)
    | (go_at_call 18; refine (c4parse (bld4 pa11) P p w1 w1.heap.size a1 (Nat.le_refl _) (by rw [L1.out]; decide)).mono ?_; rintro e w2 ⟨O, o, D, d, rfl, mo, md⟩; rw [HK.out.2] at mo md; rw [HK.out.1, HK.out.2]; have x2 := mo.below; have ao := made_arg mo; have ad := made_arg md)
    | ((with_reducible show wpList _ _ _ (Oper.mk _ (Op.store _ _ _) _ _ _ _ :: _) _ _); refine v4_store_new (cs := v4a pa11 O o D d) rfl rfl rfl rfl (v4a_one _ _ _ _ _) ?_))
  have at2 := At4.new (q := pa11) (A := O) (c := o) (A' := D) (c' := d) w2
  have j2 : Below w2.heap.size w2 (w2.alloc (.cells (v4a pa11 O o D d) 24)) := (Below.refl _ w2).alloc (Nat.le_refl _) _
  have z2 : w2.heap.size < (w2.alloc (.cells (v4a pa11 O o D d) 24)).heap.size := by simp
  have b2 := x1.trans ((x2.trans (j2.mono x2.size)).mono x1.size)
  have ao := ao.below j2
  have ad := ad.below j2
  generalize w2.alloc (.cells (v4a pa11 O o D d) 24) = X at *
  clear x1 x2 mo md j2 m1 a1
  go_upto_region 3 with (first
    | ((with_reducible show wpList _ _ _ (Oper.mk _ (Op.load 24 _) _ _ _ _ :: _) _ _); refine wpList_valw (by rfl) (run_load_v4 rfl rfl at2 rfl) ?_)
    | (go_at_call 11; refine (cFrom pa11 O o D d X (by rw [L2.out]; decide) (by rw [L3.out]; decide) w2.heap.size ao ad (by omega) 3325256705 7).mono ?_; rintro e w3 ⟨R, r, S, s, rfl, mr, ms⟩; rw [HV1.out, ← HQ.out] at mr ms; rw [HV1.out, HM.out, ← HQ.out]; have x3 := mr.below; have as3 := made_arg ms)
    | ((with_reducible show wpList _ _ _ (Oper.mk _ (Op.store _ _ _) _ _ _ _ :: _) _ _); refine v4_store_new (cs := v4a q R r S s) rfl rfl rfl rfl (v4a_one _ _ _ _ _) ?_))
  have at3 := At4.new (q := q) (A := R) (c := r) (A' := S) (c' := s) w3
  have j3 : Below w3.heap.size w3 (w3.alloc (.cells (v4a q R r S s) 24)) := (Below.refl _ w3).alloc (Nat.le_refl _) _
  have z3 : w3.heap.size < (w3.alloc (.cells (v4a q R r S s) 24)).heap.size := by simp
  have b3 := b2.trans ((x3.trans (j3.mono x3.size)).mono b2.size)
  have as3 := as3.below j3
  generalize w3.alloc (.cells (v4a q R r S s) 24) = Y at *
  clear at2 x3 mr ms j3 ao ad
  go_upto_region 4 with (first
    | ((with_reducible show wpList _ _ _ (Oper.mk _ (Op.load 24 _) _ _ _ _ :: _) _ _); refine wpList_valw (by rfl) (run_load_v4 rfl rfl at3 rfl) ?_)
    | (go_at_call 9; refine (cOf q R r S s Y (by rw [HQ.out]; show pa11.opt.length ≤ _; rw [L2.out]; decide) (by rw [HQ.out, L4.out]; decide) w3.heap.size as3 (by omega)).mono ?_; rintro e w4 ⟨rfl, x4⟩; rw [show ofE q = 0 by rw [HQ.out]; exact HV2.out, show ofV q = prA 17 7 6 by rw [HQ.out]; exact HV3.out])
    | ((with_reducible show wpList _ _ _ (Oper.mk _ (Op.store _ _ _) _ _ _ _ :: _) _ _); refine pr_store_new (cs := prA 17 7 6) rfl rfl rfl rfl (prA_one _ _ _) ?_))
  have j4 : Below w4.heap.size w4 (w4.alloc (.cells (prA 17 7 6) 28)) := (Below.refl _ w4).alloc (Nat.le_refl _) _
  have x4j := x4.trans (j4.mono x4.size)
  have at4 := at3.below x4j z3
  have b4 := b3.trans (x4j.mono b3.size)
  have hk4 : (w4.alloc (.cells (prA 17 7 6) 28)).rangeAt w4.heap.size 0 [.int .i64 17, .int .i64 7, .int .i64 6] := range_new w4 (prA 17 7 6) _
  have k5 := at4.src
  rw [H5.out] at k5
  generalize w4.alloc (.cells (prA 17 7 6) 28) = Z at *
  clear at3 x4 j4 x4j
  go_wp2_with (first
    | ((with_reducible show wpList _ _ _ (Oper.mk _ (Op.load 28 _) _ _ _ _ :: _) _ _); refine wpList_valw (by rfl) (run_load_pr rfl rfl hk4 rfl) ?_))
  go_ret
  exact ⟨rfl, b4⟩
theorem farP_any (q : P4) (A : Option Addr) (c : Nat) (A' : Option Addr) (c' : Nat) (w : World) :
    Calls Tryz.prog 7 #[v4v q A c A' c'] w fun e w' => e = .returned (.bool (decide (3000 < q.dat.length) || decide (200 < q.opt.length))) ∧ Below w.heap.size w w' := by
  have hB : ∀ o, Below w.heap.size w (w.alloc o) := fun o => (Below.refl w.heap.size w).alloc (Nat.le_refl _) o
  unfold v4v
  by_cases h : 3000 < q.dat.length
  · have d : decide (3000 < (q.dat.length : Int)) = true := by simp; omega
    go_enter Tryz.func7, Tryz.ntmps7
    go_wp2_with fail
    go_ret
    exact ⟨ret_bool (by simp [h]), hB _⟩
  · have d : decide (3000 < (q.dat.length : Int)) = false := by simp; omega
    by_cases h' : 200 < q.opt.length
    · have d' : decide (200 < (q.opt.length : Int)) = true := by simp; omega
      go_enter Tryz.func7, Tryz.ntmps7
      go_wp2_with fail
      go_ret
      exact ⟨ret_bool (by simp [h']), hB _⟩
    · have d' : decide (200 < (q.opt.length : Int)) = false := by simp; omega
      go_enter Tryz.func7, Tryz.ntmps7
      go_wp2_with fail
      go_ret
      exact ⟨ret_bool (by simp [h, h']), hB _⟩
end Go.Proofs.YtodlfdnegcfhcaaGreat

/-
  What layer 11's laws on bytes stand on besides: how long a packet's parts are. Conditions are each theorem's own.
-/
namespace Go.Proofs.YtodlfdnegcfhcaaGreat
open Go.RowKit

theorem prs_len (b : List UInt8) : (prsV b false).opt.length ≤ b.length ∧ (prsV b false).dat.length ≤ b.length := by
  unfold prsV
  split
  · refine ⟨?_, ?_⟩
    · show ((b.take (hlen b).toNat).drop 20).length ≤ b.length
      rw [List.length_drop, List.length_take]; omega
    · show ((b.take (min (n2 b 2) (b.length : Int)).toNat).drop (hlen b).toNat).length ≤ b.length
      rw [List.length_drop, List.length_take]; omega
  · exact ⟨Nat.zero_le _, Nat.zero_le _⟩
end Go.Proofs.YtodlfdnegcfhcaaGreat
