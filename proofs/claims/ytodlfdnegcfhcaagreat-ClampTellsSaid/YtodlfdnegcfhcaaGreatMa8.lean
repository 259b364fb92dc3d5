/-
  Contracts and lemmas on which the proofs of this seat stand (several texts in one). Conditions are each theorem's own.
-/
import Derived.Test.YtodlfdnegcfhcaaGreatMa7

/-
  Contract of udp.Parse. Conditions are each theorem's own.
-/
namespace Go.Proofs.YtodlfdnegcfhcaaGreat
open Go.RowKit

theorem RdrS.alloc {w : World} {g n c : Nat} {A : Option Addr} {k : Int} (h : RdrS w g A n c k) (o : Obj) : RdrS (w.alloc o) g A n c k :=
  ⟨(Below.heap_alloc w o g (heap_lt h.1)).trans h.1, (Below.heap_alloc w o (g + 1) (heap_lt h.2)).trans h.2⟩
section
variable (b : List UInt8) (A : Option Addr) (c : Nat) (src dst : Int) (w : World)
set_option maxRecDepth 100000 in
set_option maxHeartbeats 2000000 in
theorem cUparse (B : Nat) (hR : Arg w B A c b) (hB : B ≤ w.heap.size) (hl : b.length ≤ 1000000) :
    Calls Tryz.prog 53 #[.int .i64 src, .int .i64 dst, .slice A b.length c] w fun e w' => ∃ P p, e = .returned (.tuple #[usv (prsU src dst b) P p, .int .i64 (badU src dst b)]) ∧ Made w w' (.slice P (prsU src dst b).dat.length p) (prsU src dst b).dat := by
  have hBW : Below w.heap.size w (w.alloc (.cells (usa usz none 0) 57)) := (Below.refl w.heap.size w).alloc (Nat.le_refl _) _
  have hg := World.alloc_heap_new w (.cells (usa usz none 0) 57)
  have hz : w.heap.size < (w.alloc (.cells (usa usz none 0) 57)).heap.size := by simp
  have hcap := hR.cap
  go_enter Tryz.func53, Tryz.ntmps53
  go_upto_region 1 with fail
  rw [show #[.int .i64 0, .int .i64 0, .bool false, .slice none 0 0] = usa usz none 0 from rfl]
  generalize w.alloc (.cells (usa usz none 0) 57) = W at *
  have hR1 := hR.below (hBW.mono hB)
  by_cases h8 : b.length < 8
  · have d8 : decide ((b.length : Int) < 8) = true := by simp; omega
    have HE := Lib.hid (show badU src dst b = 3 by rw [badU, if_pos h8])
    have HV := Lib.hid (show prsU src dst b = usz by rw [prsU, HE.out]; rfl)
    go_wp2_with (first | ((with_reducible show wpList _ _ _ (Oper.mk _ (Op.store 57 _ _) _ _ _ _ :: _) _ _); refine us_store (g := w.heap.size) (cs := usa usz none 0) rfl rfl hg rfl rfl (us_one _ _ _) ?_))
    exact bodyPost_ret (res2 rfl rfl (us_load_run (setRow_heap _ _ _ _ _ _ hg) rfl)) rfl ⟨none, 0, by rw [HV.out, HE.out]; rfl, by rw [HV.out]; exact Made.nil _ _ (below_row hBW (Nat.le_refl _))⟩
  · have d8 : decide ((b.length : Int) < 8) = false := by simp; omega
    have HX0 := Lib.hid (show n2 b 0 = n2 b 0 from rfl)
    have G0 := Lib.hid (show getV b 0 2 = n2 b 0 from get_two (b := b) (i := 0) (by omega))
    have G2 := Lib.hid (show getV b 2 2 = n2 b 2 from get_two (b := b) (i := 2) (by omega))
    have G4 := Lib.hid (show getV b 4 2 = n2 b 4 from get_two (b := b) (i := 4) (by omega))
    have G6 := Lib.hid (show getV b 6 2 = n2 b 6 from get_two (b := b) (i := 6) (by omega))
    obtain ⟨X0, hX0⟩ : ∃ n, n = n2 b 0 := ⟨_, rfl⟩
    obtain ⟨X2, hX2⟩ : ∃ n, n = n2 b 2 := ⟨_, rfl⟩
    obtain ⟨Z4, hZ4⟩ : ∃ n, n = n2 b 4 := ⟨_, rfl⟩
    obtain ⟨Z, hZ⟩ : ∃ n, n = n2 b 6 := ⟨_, rfl⟩
    obtain ⟨D, hD⟩ : ∃ l, l = b.drop 8 := ⟨_, rfl⟩
    clear HX0
    rw [← hX0] at G0
    rw [← hX2] at G2
    rw [← hZ4] at G4
    rw [← hZ] at G6
    have HX0 := Lib.hid hX0.symm; have HX2 := Lib.hid hX2.symm; have HX4 := Lib.hid hZ4.symm; have HX6 := Lib.hid hZ.symm
    have HDd := Lib.hid hD
    have HDl := Lib.hid (show D.length = b.length - 8 by rw [hD, List.length_drop])
    clear hX0 hX2 hZ4 hZ hD
    go_upto_region 4 with (go_at_call 91; refine (cUreader A b.length c _).mono ?_; rintro e w1 ⟨rfl, st1, x1, z1'⟩; have z1 := Nat.le_of_eq z1'.symm; clear z1')
    have hR2 := (hR1.below (x1.mono (by omega))).rd
    go_upto_region 5 with (first
      | (go_at_call 115; ((with_reducible refine (cUnext W.heap.size A b c B 0 2 _ st1 hR2 hl hcap (by omega) (by omega)).mono ?_); rintro e w2 ⟨rfl, st2, y2⟩; rw [show getV b 0 2 = X0 from G0.out]; have hR3 := hR2.grown y2 (by omega) (fun k e => by cases e; omega); have st2 : RdrS w2 W.heap.size A b.length c 2 := st2; have z2 := y2.size))
      | (go_at_call 115; ((with_reducible refine (cUnext W.heap.size A b c B 2 2 _ st2 hR3 hl hcap (by omega) (by omega)).mono ?_); rintro e w3 ⟨rfl, st3, y3⟩; rw [show getV b 2 2 = X2 from G2.out]; have hR4 := hR3.grown y3 (by omega) (fun k e => by cases e; omega); have st3 : RdrS w3 W.heap.size A b.length c 4 := st3; have z3 := y3.size))
      | ((with_reducible show wpList _ _ _ (Oper.mk _ (Op.store _ _ _) _ _ _ _ :: _) _ _); refine us_store_new (cs := usa ⟨X0, X2, false, []⟩ none 0) rfl rfl rfl rfl (us_one _ _ _) ?_))
    have stV := st3.alloc (.cells (usa ⟨X0, X2, false, []⟩ none 0) 57)
    have hVu := World.alloc_heap_new w3 (.cells (usa ⟨X0, X2, false, []⟩ none 0) 57)
    have hRV := hR4.alloc (by omega) (.cells (usa ⟨X0, X2, false, []⟩ none 0) 57)
    have hVr := (Below.heap_alloc w3 (.cells (usa ⟨X0, X2, false, []⟩ none 0) 57) w.heap.size (by omega)).trans ((y3.block w.heap.size (by omega) (by simp; omega)).trans ((y2.block w.heap.size (by omega) (by simp; omega)).trans ((x1.block w.heap.size (by omega)).trans hg)))
    have hbV : Below w.heap.size w (w3.alloc (.cells (usa ⟨X0, X2, false, []⟩ none 0) 57)) := ((((hBW.trans (x1.mono (by omega))).grown y2 (by omega) (fun k e => by cases e; omega)).grown y3 (by omega) (fun k e => by cases e; omega)).alloc (by omega) _)
    have zV := heap_lt hVu
    generalize w3.alloc (.cells (usa ⟨X0, X2, false, []⟩ none 0) 57) = V at *
    obtain ⟨U, hUU⟩ : ∃ U, U = w3.heap.size := ⟨_, rfl⟩
    rw [← hUU] at hVu zV ⊢
    have hUW : W.heap.size + 2 ≤ U := by omega
    clear hUU y2 y3 st1 st2 st3 hR1 hR2 hR3 hR4 x1 hg z2 z3 z1
    by_cases hz0 : Z = 0
    · skip
      have HNS : decide (Z = 0) = true := by simpa using hz0
      have e0 : (Z == 0) = true := HNS
      have HZ0 := Lib.hid hz0
      clear hz0
      go_upto_region 7 with (first
        | (go_at_call 115; ((with_reducible refine (cUnext W.heap.size A b c B 4 2 _ stV hRV hl hcap (by omega) (by omega)).mono ?_); rintro e w4 ⟨rfl, st4, y4⟩; rw [show getV b 4 2 = Z4 from G4.out]; have hR4 := hRV.grown y4 (by omega) (fun k e => by cases e; omega); have st4 : RdrS w4 W.heap.size A b.length c 6 := st4; have z4 := y4.size))
        | (go_at_call 115; ((with_reducible refine (cUnext W.heap.size A b c B 6 2 _ st4 hR4 hl hcap (by omega) (by omega)).mono ?_); rintro e w5 ⟨rfl, st5, y5⟩; rw [show getV b 6 2 = Z from G6.out]; have hU5 := (y5.block U (by omega) (by simp; omega)).trans ((y4.block U (by omega) (by simp; omega)).trans hVu); have k5 : w5.cell? ⟨U, 2, none⟩ = some (.bool false) := by { rw [cell_of_row _ _ _ _ _ _ hU5]; rfl }; have f5 := frozen_of_row w5 U 2 _ _ hU5)))
      have hU6 := heap_setCell_same w5 U 2 _ _ (.bool true) hU5
      have hU : (w5.setCell ⟨U, 2, none⟩ (.bool true)).heap[U]? = some (.cells (usa ⟨X0, X2, true, []⟩ none 0) 57 (0, 0)) := hU6
      have hR5 := (hR4.grown y5 (by omega) (fun k e => by cases e; omega))
      have z5 := y5.size
      have hbel5 : Below w.heap.size w w5 := ((hbV.grown y4 (by omega) (fun k e => by cases e; omega)).grown y5 (by omega) (fun k e => by cases e; omega))
      have hbel : Below w.heap.size w (w5.setCell ⟨U, 2, none⟩ (.bool true)) := hbel5.setCell (p := ⟨U, 2, none⟩) (by show w.heap.size ≤ U; omega) _
      have hRes := (heap_setCell_other w5 ⟨U, 2, none⟩ w.heap.size (.bool true) (by show w.heap.size ≠ U; omega)).trans ((y5.block w.heap.size (by omega) (by simp; omega)).trans ((y4.block w.heap.size (by omega) (by simp; omega)).trans hVr))
      have hUlt : U < (w5.setCell ⟨U, 2, none⟩ (.bool true)).heap.size := heap_lt hU
      generalize w5.setCell ⟨U, 2, none⟩ (.bool true) = V7 at *
      have hR7 := hR.below (hbel.mono hB)
      have k2 := (Atus.of_heap hU).nosum
      clear y4 y5 k5 f5 hU5 hU6 st4 st5 hR4 hR5 stV hRV hVu hVr hbV hbel5
      rcases Int.lt_trichotomy (b.length : Int) Z4 with s1 | s1 | s1
      · have d1 : decide ((b.length : Int) < Z4) = true := by simpa using s1
        have HE := Lib.hid (show badU src dst b = 3 by rw [badU, if_neg h8, if_pos (by rw [HX4.out]; exact s1)])
        have HV := Lib.hid (show prsU src dst b = usz by rw [prsU, HE.out]; rfl)
        go_wp2_with (first | ((with_reducible show wpList _ _ _ (Oper.mk _ (Op.store 57 _ _) _ _ _ _ :: _) _ _); refine us_store (g := w.heap.size) (cs := usa usz none 0) rfl rfl hRes rfl rfl (us_one _ _ _) ?_))
        exact bodyPost_ret (res2 rfl rfl (us_load_run (setRow_heap _ _ _ _ _ _ hRes) rfl)) rfl ⟨none, 0, by rw [HV.out, HE.out]; rfl, by rw [HV.out]; exact Made.nil _ _ (below_row hbel (Nat.le_refl _))⟩
      · have d1 : decide ((b.length : Int) < Z4) = false := by simp; omega
        have d2 : decide (Z4 < (b.length : Int)) = false := by simp; omega
        have HE := Lib.hid (show badU src dst b = 0 by rw [badU, if_neg h8, if_neg (by rw [HX4.out]; omega), if_neg (by rw [HX4.out]; omega), if_neg (by rw [HX6.out]; intro h; exact h.1 HZ0.out)])
        have hDD := hR7.cut_lo 8
        rw [← HDd.out] at hDD
        have HV := Lib.hid (show prsU src dst b = ⟨X0, X2, true, D⟩ by rw [prsU, if_pos HE.out, rawU, HX0.out, HX2.out, HX6.out, HNS, HDd.out])
        go_upto_region 14 with (first
          | ((with_reducible show wpList _ _ _ (Oper.mk _ (Op.slice _ _ _ _ _) _ _ _ _ :: _) _ _); (refine wpList_val rfl (run_cut_l rfl rfl (l := 8) rfl (by omega) (m := D.length) (by have := HDl.out; omega)) ?_))
          | (at_builtin; refine append_rd rfl _ _ rfl V7.heap.size (.slice none 0 0) 0 [] rfl (World.ownsRow_nil _ _ _ _) B (cutA A c 8) (c - 8) D rfl hDD.none_ hDD.rd (by have := HDl.out; omega) (Nat.le_refl _) ?_; intro v8 w8 own8 grow8; obtain ⟨P, p, rfl, owm8⟩ := own_made (bs := D) own8 (by simp) (by simp); have x8 : Below V7.heap.size V7 w8 := (Below.refl V7.heap.size V7).grown grow8 (Nat.le_refl _) (fun k hk => by cases hk); have hU8 := (x8.block U hUlt).trans hU; have k8 : w8.cell? ⟨U, 3, none⟩ = some (.slice none 0 0) := by { rw [cell_of_row _ _ _ _ _ _ hU8]; rfl }; have f8 := frozen_of_row w8 U 3 _ _ hU8))
        have hU9 := heap_setCell_same w8 U 3 _ _ (.slice P D.length p) hU8
        have hU9 : (w8.setCell ⟨U, 3, none⟩ (.slice P D.length p)).heap[U]? = some (.cells (usa ⟨X0, X2, true, D⟩ P p) 57 (0, 0)) := hU9
        have hr8 := (heap_setCell_other w8 ⟨U, 3, none⟩ w.heap.size (.slice P D.length p) (by show w.heap.size ≠ U; omega)).trans ((x8.block w.heap.size (by omega)).trans hRes)
        have x9 : Below w.heap.size w (w8.setCell ⟨U, 3, none⟩ (.slice P D.length p)) := (hbel.trans (x8.mono (by omega))).setCell (p := ⟨U, 3, none⟩) (by show w.heap.size ≤ U; omega) _
        have o9 := own_setRow (own_setCell owm8 (p := ⟨U, 3, none⟩) (u := .slice P D.length p) hUlt) (g := w.heap.size) (cs := usa ⟨X0, X2, true, D⟩ P p) (by omega)
        have at9 := Atus.of_heap hU9
        clear k8 f8 hU8 hU9
        go_wp2_with (first
          | ((with_reducible show wpList _ _ _ (Oper.mk _ (Op.load 57 _) _ _ _ _ :: _) _ _); refine wpList_val rfl (run_load_us rfl rfl at9 rfl) ?_)
          | ((with_reducible show wpList _ _ _ (Oper.mk _ (Op.store 57 _ _) _ _ _ _ :: _) _ _); refine us_store (g := w.heap.size) (cs := usa ⟨X0, X2, true, D⟩ P p) rfl rfl hr8 rfl rfl (us_one _ _ _) ?_))
        exact bodyPost_ret (res2 rfl rfl (us_load_run (setRow_heap _ _ _ _ _ _ hr8) rfl)) rfl ⟨P, p, by rw [HV.out, HE.out]; rfl, by rw [HV.out]; exact Made.of_own (own_base o9 (by omega)) (below_row x9 (Nat.le_refl _))⟩
      · have d1 : decide ((b.length : Int) < Z4) = false := by simp; omega
        have d2 : decide (Z4 < (b.length : Int)) = true := by simpa using s1
        have HE := Lib.hid (show badU src dst b = 4 by rw [badU, if_neg h8, if_neg (by rw [HX4.out]; omega), if_pos (by rw [HX4.out]; exact s1)])
        have HV := Lib.hid (show prsU src dst b = usz by rw [prsU, HE.out]; rfl)
        go_wp2_with (first | ((with_reducible show wpList _ _ _ (Oper.mk _ (Op.store 57 _ _) _ _ _ _ :: _) _ _); refine us_store (g := w.heap.size) (cs := usa usz none 0) rfl rfl hRes rfl rfl (us_one _ _ _) ?_))
        exact bodyPost_ret (res2 rfl rfl (us_load_run (setRow_heap _ _ _ _ _ _ hRes) rfl)) rfl ⟨none, 0, by rw [HV.out, HE.out]; rfl, by rw [HV.out]; exact Made.nil _ _ (below_row hbel (Nat.le_refl _))⟩
    · skip
      have HNS : decide (Z = 0) = false := by simpa using hz0
      have e0 : (Z == 0) = false := HNS
      have HZ0 := Lib.hid hz0
      clear hz0
      go_upto_region 7 with (first
        | (go_at_call 115; ((with_reducible refine (cUnext W.heap.size A b c B 4 2 _ stV hRV hl hcap (by omega) (by omega)).mono ?_); rintro e w4 ⟨rfl, st4, y4⟩; rw [show getV b 4 2 = Z4 from G4.out]; have hR4 := hRV.grown y4 (by omega) (fun k e => by cases e; omega); have st4 : RdrS w4 W.heap.size A b.length c 6 := st4; have z4 := y4.size))
        | (go_at_call 115; ((with_reducible refine (cUnext W.heap.size A b c B 6 2 _ st4 hR4 hl hcap (by omega) (by omega)).mono ?_); rintro e w5 ⟨rfl, st5, y5⟩; rw [show getV b 6 2 = Z from G6.out]; have hU5 := (y5.block U (by omega) (by simp; omega)).trans ((y4.block U (by omega) (by simp; omega)).trans hVu); have k5 : w5.cell? ⟨U, 2, none⟩ = some (.bool false) := by { rw [cell_of_row _ _ _ _ _ _ hU5]; rfl }; have f5 := frozen_of_row w5 U 2 _ _ hU5)))
      have hU6 := heap_setCell_same w5 U 2 _ _ (.bool false) hU5
      have hU : (w5.setCell ⟨U, 2, none⟩ (.bool false)).heap[U]? = some (.cells (usa ⟨X0, X2, false, []⟩ none 0) 57 (0, 0)) := hU6
      have hR5 := (hR4.grown y5 (by omega) (fun k e => by cases e; omega))
      have z5 := y5.size
      have hbel5 : Below w.heap.size w w5 := ((hbV.grown y4 (by omega) (fun k e => by cases e; omega)).grown y5 (by omega) (fun k e => by cases e; omega))
      have hbel : Below w.heap.size w (w5.setCell ⟨U, 2, none⟩ (.bool false)) := hbel5.setCell (p := ⟨U, 2, none⟩) (by show w.heap.size ≤ U; omega) _
      have hRes := (heap_setCell_other w5 ⟨U, 2, none⟩ w.heap.size (.bool false) (by show w.heap.size ≠ U; omega)).trans ((y5.block w.heap.size (by omega) (by simp; omega)).trans ((y4.block w.heap.size (by omega) (by simp; omega)).trans hVr))
      have hUlt : U < (w5.setCell ⟨U, 2, none⟩ (.bool false)).heap.size := heap_lt hU
      generalize w5.setCell ⟨U, 2, none⟩ (.bool false) = V7 at *
      have hR7 := hR.below (hbel.mono hB)
      have k2 := (Atus.of_heap hU).nosum
      clear y4 y5 k5 f5 hU5 hU6 st4 st5 hR4 hR5 stV hRV hVu hVr hbV hbel5
      rcases Int.lt_trichotomy (b.length : Int) Z4 with s1 | s1 | s1
      · have d1 : decide ((b.length : Int) < Z4) = true := by simpa using s1
        have HE := Lib.hid (show badU src dst b = 3 by rw [badU, if_neg h8, if_pos (by rw [HX4.out]; exact s1)])
        have HV := Lib.hid (show prsU src dst b = usz by rw [prsU, HE.out]; rfl)
        go_wp2_with (first | ((with_reducible show wpList _ _ _ (Oper.mk _ (Op.store 57 _ _) _ _ _ _ :: _) _ _); refine us_store (g := w.heap.size) (cs := usa usz none 0) rfl rfl hRes rfl rfl (us_one _ _ _) ?_))
        exact bodyPost_ret (res2 rfl rfl (us_load_run (setRow_heap _ _ _ _ _ _ hRes) rfl)) rfl ⟨none, 0, by rw [HV.out, HE.out]; rfl, by rw [HV.out]; exact Made.nil _ _ (below_row hbel (Nat.le_refl _))⟩
      · have d1 : decide ((b.length : Int) < Z4) = false := by simp; omega
        have d2 : decide (Z4 < (b.length : Int)) = false := by simp; omega
        have hDD := hR7.cut_lo 8
        rw [← HDd.out] at hDD
        have HRT := Lib.hid (show rightB [psd src dst 17 Z4, b] = rightB [psd src dst 17 Z4, b] from rfl)
        obtain ⟨N, hN⟩ : ∃ n, n = rightB [psd src dst 17 Z4, b] := ⟨_, rfl⟩
        have HN := Lib.hid hN
        have HBD := Lib.hid (show badU src dst b = if N = false then 5 else 0 by rw [badU, if_neg h8, if_neg (by rw [HX4.out]; omega), if_neg (by rw [HX4.out]; omega), HX6.out, HX4.out, ← hN]; simp [HZ0.out])
        clear hN HRT
        cases N
        · have HE := Lib.hid (show badU src dst b = 5 by rw [HBD.out]; rfl)
          have HV := Lib.hid (show prsU src dst b = usz by rw [prsU, HE.out]; rfl)
          go_wp2_with (first | ((with_reducible show wpList _ _ _ (Oper.mk _ (Op.store 57 _ _) _ _ _ _ :: _) _ _); refine us_store (g := w.heap.size) (cs := usa usz none 0) rfl rfl hRes' rfl rfl (us_one _ _ _) ?_) | (go_at_call 78; refine (psd_any src dst 17 Z4 _).mono ?_; rintro e wp ⟨vp, rfl, mp⟩; obtain ⟨Ap, cp, rfl, gp, op, xp⟩ := made_shape mp) | (go_at_call 41; refine (right_two (some ⟨wp.heap.size, 0, none⟩) (psd src dst 17 Z4) b 2 (wp.heap.size + 1) _ HN _ (Rd2.two rfl rfl (World.alloc_heap_new wp _) (Nat.lt_succ_self _) ((gp.alloc (Nat.le_refl _) _).more (Nat.le_succ _)) (((hR7.below (xp.mono (by omega))).alloc (by have := xp.size; omega) _).more (by have := xp.size; omega))) (by simp) (by rw [psd_len]; omega)).mono ?_; rintro e wq ⟨rfl, xq⟩; have xpq : Below V7.heap.size V7 wq := (xp.alloc xp.size _).trans (xq.mono (by have := xp.size; simp; omega)); have hRes' := (xpq.block w.heap.size (by omega)).trans hRes))
          exact bodyPost_ret (res2 rfl rfl (us_load_run (setRow_heap _ _ _ _ _ _ hRes') rfl)) rfl ⟨none, 0, by rw [HV.out, HE.out]; rfl, by rw [HV.out]; exact Made.nil _ _ (below_row (hbel.trans (xpq.mono (by omega))) (Nat.le_refl _))⟩
        · have HE := Lib.hid (show badU src dst b = 0 by rw [HBD.out]; rfl)
          go_upto_region 13 with (first | (go_at_call 78; refine (psd_any src dst 17 Z4 _).mono ?_; rintro e wp ⟨vp, rfl, mp⟩; obtain ⟨Ap, cp, rfl, gp, op, xp⟩ := made_shape mp) | (go_at_call 41; refine (right_two (some ⟨wp.heap.size, 0, none⟩) (psd src dst 17 Z4) b 2 (wp.heap.size + 1) _ HN _ (Rd2.two rfl rfl (World.alloc_heap_new wp _) (Nat.lt_succ_self _) ((gp.alloc (Nat.le_refl _) _).more (Nat.le_succ _)) (((hR7.below (xp.mono (by omega))).alloc (by have := xp.size; omega) _).more (by have := xp.size; omega))) (by simp) (by rw [psd_len]; omega)).mono ?_; rintro e wq ⟨rfl, xq⟩; have xpq : Below V7.heap.size V7 wq := (xp.alloc xp.size _).trans (xq.mono (by have := xp.size; simp; omega)); have hRes' := (xpq.block w.heap.size (by omega)).trans hRes))
          have hDq := hDD.below (xpq.mono (by omega))
          have hUq := (xpq.block U hUlt).trans hU
          have hbq := hbel.trans (xpq.mono (by omega))
          have hlq := heap_lt hUq
          clear hDD hU hbel hUlt hRes hR7 k2
          clear xp xq xpq mp gp op
          have HV := Lib.hid (show prsU src dst b = ⟨X0, X2, false, D⟩ by rw [prsU, if_pos HE.out, rawU, HX0.out, HX2.out, HX6.out, HNS, HDd.out])
          go_upto_region 14 with (first
            | ((with_reducible show wpList _ _ _ (Oper.mk _ (Op.slice _ _ _ _ _) _ _ _ _ :: _) _ _); (refine wpList_val rfl (run_cut_l rfl rfl (l := 8) rfl (by omega) (m := D.length) (by have := HDl.out; omega)) ?_))
            | (at_builtin; refine append_rd rfl _ _ rfl wq.heap.size (.slice none 0 0) 0 [] rfl (World.ownsRow_nil _ _ _ _) B (cutA A c 8) (c - 8) D rfl hDq.none_ hDq.rd (by have := HDl.out; omega) (Nat.le_refl _) ?_; intro v8 w8 own8 grow8; obtain ⟨P, p, rfl, owm8⟩ := own_made (bs := D) own8 (by simp) (by simp); have x8 : Below wq.heap.size wq w8 := (Below.refl wq.heap.size wq).grown grow8 (Nat.le_refl _) (fun k hk => by cases hk); have hU8 := (x8.block U hlq).trans hUq; have k8 : w8.cell? ⟨U, 3, none⟩ = some (.slice none 0 0) := by { rw [cell_of_row _ _ _ _ _ _ hU8]; rfl }; have f8 := frozen_of_row w8 U 3 _ _ hU8))
          have hU9 := heap_setCell_same w8 U 3 _ _ (.slice P D.length p) hU8
          have hU9 : (w8.setCell ⟨U, 3, none⟩ (.slice P D.length p)).heap[U]? = some (.cells (usa ⟨X0, X2, false, D⟩ P p) 57 (0, 0)) := hU9
          have hr8 := (heap_setCell_other w8 ⟨U, 3, none⟩ w.heap.size (.slice P D.length p) (by show w.heap.size ≠ U; omega)).trans ((x8.block w.heap.size (by omega)).trans hRes')
          have x9 : Below w.heap.size w (w8.setCell ⟨U, 3, none⟩ (.slice P D.length p)) := (hbq.trans (x8.mono (by omega))).setCell (p := ⟨U, 3, none⟩) (by show w.heap.size ≤ U; omega) _
          have o9 := own_setRow (own_setCell owm8 (p := ⟨U, 3, none⟩) (u := .slice P D.length p) hlq) (g := w.heap.size) (cs := usa ⟨X0, X2, false, D⟩ P p) (by omega)
          have at9 := Atus.of_heap hU9
          clear k8 f8 hU8 hU9
          go_wp2_with (first
            | ((with_reducible show wpList _ _ _ (Oper.mk _ (Op.load 57 _) _ _ _ _ :: _) _ _); refine wpList_val rfl (run_load_us rfl rfl at9 rfl) ?_)
            | ((with_reducible show wpList _ _ _ (Oper.mk _ (Op.store 57 _ _) _ _ _ _ :: _) _ _); refine us_store (g := w.heap.size) (cs := usa ⟨X0, X2, false, D⟩ P p) rfl rfl hr8 rfl rfl (us_one _ _ _) ?_))
          exact bodyPost_ret (res2 rfl rfl (us_load_run (setRow_heap _ _ _ _ _ _ hr8) rfl)) rfl ⟨P, p, by rw [HV.out, HE.out]; rfl, by rw [HV.out]; exact Made.of_own (own_base o9 (by omega)) (below_row x9 (Nat.le_refl _))⟩
      · have d1 : decide ((b.length : Int) < Z4) = false := by simp; omega
        have d2 : decide (Z4 < (b.length : Int)) = true := by simpa using s1
        have HE := Lib.hid (show badU src dst b = 4 by rw [badU, if_neg h8, if_neg (by rw [HX4.out]; omega), if_pos (by rw [HX4.out]; exact s1)])
        have HV := Lib.hid (show prsU src dst b = usz by rw [prsU, HE.out]; rfl)
        go_wp2_with (first | ((with_reducible show wpList _ _ _ (Oper.mk _ (Op.store 57 _ _) _ _ _ _ :: _) _ _); refine us_store (g := w.heap.size) (cs := usa usz none 0) rfl rfl hRes rfl rfl (us_one _ _ _) ?_))
        exact bodyPost_ret (res2 rfl rfl (us_load_run (setRow_heap _ _ _ _ _ _ hRes) rfl)) rfl ⟨none, 0, by rw [HV.out, HE.out]; rfl, by rw [HV.out]; exact Made.nil _ _ (below_row hbel (Nat.le_refl _))⟩
end
end Go.Proofs.YtodlfdnegcfhcaaGreat

/-
  Contract of the document's Parse of layer 7. Conditions are each theorem's own.
-/
namespace Go.Proofs.YtodlfdnegcfhcaaGreat
open Go.RowKit

section
variable (b : List UInt8) (A : Option Addr) (c : Nat) (src dst : Int) (w : World)
set_option maxRecDepth 100000 in
set_option maxHeartbeats 2000000 in
theorem rUparse (B : Nat) (hR : Arg w B A c b) (hB : B ≤ w.heap.size) (hl : b.length ≤ 1000000) :
    Calls Tryz.prog 33 #[.int .i64 src, .int .i64 dst, .slice A b.length c] w fun e w' => ∃ P p, e = .returned (.tuple #[usv (prsU src dst b) P p, .int .i64 (badU src dst b)]) ∧ Made w w' (.slice P (prsU src dst b).dat.length p) (prsU src dst b).dat := by
  have hBW : Below w.heap.size w (w.alloc (.cells (usa usz none 0) 57)) := (Below.refl w.heap.size w).alloc (Nat.le_refl _) _
  have hg := World.alloc_heap_new w (.cells (usa usz none 0) 57)
  have hz : w.heap.size < (w.alloc (.cells (usa usz none 0) 57)).heap.size := by simp
  have hcap := hR.cap
  go_enter Tryz.func33, Tryz.ntmps33
  go_upto_region 1 with fail
  rw [show #[.int .i64 0, .int .i64 0, .bool false, .slice none 0 0] = usa usz none 0 from rfl]
  generalize w.alloc (.cells (usa usz none 0) 57) = W at *
  have hR1 := hR.below (hBW.mono hB)
  by_cases h8 : b.length < 8
  · have d8 : decide ((b.length : Int) < 8) = true := by simp; omega
    have HE := Lib.hid (show badU src dst b = 3 by rw [badU, if_pos h8])
    have HV := Lib.hid (show prsU src dst b = usz by rw [prsU, HE.out]; rfl)
    go_wp2_with (first | ((with_reducible show wpList _ _ _ (Oper.mk _ (Op.store 57 _ _) _ _ _ _ :: _) _ _); refine us_store (g := w.heap.size) (cs := usa usz none 0) rfl rfl hg rfl rfl (us_one _ _ _) ?_))
    exact bodyPost_ret (res2 rfl rfl (us_load_run (setRow_heap _ _ _ _ _ _ hg) rfl)) rfl ⟨none, 0, by rw [HV.out, HE.out]; rfl, by rw [HV.out]; exact Made.nil _ _ (below_row hBW (Nat.le_refl _))⟩
  · have d8 : decide ((b.length : Int) < 8) = false := by simp; omega
    have G0 := Lib.hid (show getV b 0 2 = n2 b 0 from get_two (b := b) (i := 0) (by omega))
    have G2 := Lib.hid (show getV b 2 2 = n2 b 2 from get_two (b := b) (i := 2) (by omega))
    have G4 := Lib.hid (show getV b 4 2 = n2 b 4 from get_two (b := b) (i := 4) (by omega))
    have G6 := Lib.hid (show getV b 6 2 = n2 b 6 from get_two (b := b) (i := 6) (by omega))
    obtain ⟨X0, hX0⟩ : ∃ n, n = n2 b 0 := ⟨_, rfl⟩
    obtain ⟨X2, hX2⟩ : ∃ n, n = n2 b 2 := ⟨_, rfl⟩
    obtain ⟨Z4, hZ4⟩ : ∃ n, n = n2 b 4 := ⟨_, rfl⟩
    obtain ⟨Z, hZ⟩ : ∃ n, n = n2 b 6 := ⟨_, rfl⟩
    obtain ⟨D, hD⟩ : ∃ l, l = b.drop 8 := ⟨_, rfl⟩
    rw [← hX0] at G0
    rw [← hX2] at G2
    rw [← hZ4] at G4
    rw [← hZ] at G6
    have HX0 := Lib.hid hX0.symm; have HX2 := Lib.hid hX2.symm; have HX4 := Lib.hid hZ4.symm; have HX6 := Lib.hid hZ.symm
    have HDd := Lib.hid hD
    have HDl := Lib.hid (show D.length = b.length - 8 by rw [hD, List.length_drop])
    clear hX0 hX2 hZ4 hZ hD
    go_upto_region 4 with (go_at_call 58; ((with_reducible refine (rget_any A b c B 4 2 _ hR1.rd (by omega)).mono ?_); rintro e w' ⟨rfl, rfl⟩; rw [show getV b 4 2 = Z4 from G4.out]))
    by_cases h7 : Z4 < 8
    · have d1 : decide (Z4 < 8) = true := by simpa using h7
      have HE := Lib.hid (show badU src dst b = 4 by rw [badU, if_neg h8, if_neg (by rw [HX4.out]; omega), if_pos (by rw [HX4.out]; omega)])
      have HV := Lib.hid (show prsU src dst b = usz by rw [prsU, HE.out]; rfl)
      go_wp2_with (first | ((with_reducible show wpList _ _ _ (Oper.mk _ (Op.store 57 _ _) _ _ _ _ :: _) _ _); refine us_store (g := w.heap.size) (cs := usa usz none 0) rfl rfl hg rfl rfl (us_one _ _ _) ?_))
      exact bodyPost_ret (res2 rfl rfl (us_load_run (setRow_heap _ _ _ _ _ _ hg) rfl)) rfl ⟨none, 0, by rw [HV.out, HE.out]; rfl, by rw [HV.out]; exact Made.nil _ _ (below_row hBW (Nat.le_refl _))⟩
    · have d1 : decide (Z4 < 8) = false := by simpa using h7
      rcases Int.lt_trichotomy (b.length : Int) Z4 with s1 | s1 | s1
      · have d2 : decide ((b.length : Int) < Z4) = true := by simpa using s1
        have HE := Lib.hid (show badU src dst b = 3 by rw [badU, if_neg h8, if_pos (by rw [HX4.out]; exact s1)])
        have HV := Lib.hid (show prsU src dst b = usz by rw [prsU, HE.out]; rfl)
        go_wp2_with (first | ((with_reducible show wpList _ _ _ (Oper.mk _ (Op.store 57 _ _) _ _ _ _ :: _) _ _); refine us_store (g := w.heap.size) (cs := usa usz none 0) rfl rfl hg rfl rfl (us_one _ _ _) ?_))
        exact bodyPost_ret (res2 rfl rfl (us_load_run (setRow_heap _ _ _ _ _ _ hg) rfl)) rfl ⟨none, 0, by rw [HV.out, HE.out]; rfl, by rw [HV.out]; exact Made.nil _ _ (below_row hBW (Nat.le_refl _))⟩
      · subst s1
        have d2 : decide ((b.length : Int) < (b.length : Int)) = false := by simp
        go_upto_region 11 with (first | (go_at_call 58; ((with_reducible refine (rget_any A b c B 4 2 _ hR1.rd (by omega)).mono ?_); rintro e w' ⟨rfl, rfl⟩; rw [show getV b 4 2 = (b.length : Int) from G4.out])) | (go_at_call 58; ((with_reducible refine (rget_any A b c B 6 2 _ hR1.rd (by omega)).mono ?_); rintro e w' ⟨rfl, rfl⟩; rw [show getV b 6 2 = Z from G6.out])))
        refine wp_region_held_drew (S := fun w' => Below W.heap.size W w') (by kernel_rfl) (Below.refl _ W).drew (fun hS => ?_)
        by_cases hz0 : Z = 0
        · have e0 : (Z != 0) = false := by simpa using hz0
          have e1 : (Z == 0) = true := by simpa using hz0
          have HNS : decide (Z = 0) = true := by simpa using hz0
          have HE := Lib.hid (show badU src dst b = 0 by rw [badU, if_neg h8, if_neg (by rw [HX4.out]; omega), if_neg (by rw [HX4.out]; omega), if_neg (by rw [HX6.out]; intro h; exact h.1 hz0)])
          clear hz0
          refine held_pure (i := 0) (oi := ⟨some 43, _, _, _, _, _⟩) rfl (by kernel_rfl) (by kernel_rfl) (by kernel_rfl) (fun _ _ _ h => h) (by rfl) (v := ?_) (fun w hSw => ?_) hS (fun hS => ?_)
          rotate_left
          · go_simp; try with_reducible rfl
          try go_frame
          refine held_pure (i := 1) (oi := ⟨some 44, _, _, _, _, _⟩) rfl (by kernel_rfl) (by kernel_rfl) (by kernel_rfl) (fun _ _ _ h => h) (by rfl) (v := ?_) (fun w hSw => ?_) hS (fun hS => ?_)
          rotate_left
          · go_simp; try with_reducible rfl
          try go_frame
          refine held_pure (i := 2) (oi := ⟨some 45, _, _, _, _, _⟩) rfl (by kernel_rfl) (by kernel_rfl) (by kernel_rfl) (fun _ _ _ h => h) (by rfl) (v := ?_) (fun w hSw => ?_) hS (fun hS => ?_)
          rotate_left
          · go_simp; try with_reducible rfl
          try go_frame
          refine held_skip (i := 3) (oi := ⟨some 46, _, _, _, _, _⟩) rfl (by kernel_rfl) (by kernel_rfl) (by kernel_rfl) (fun _ _ _ h => h) (by rfl) hS (fun hS => ?_)
          try go_frame
          refine held_skip (i := 4) (oi := ⟨some 47, _, _, _, _, _⟩) rfl (by kernel_rfl) (by kernel_rfl) (by kernel_rfl) (fun _ _ _ h => h) (by rfl) hS (fun hS => ?_)
          try go_frame
          refine held_skip (i := 5) (oi := ⟨some 48, _, _, _, _, _⟩) rfl (by kernel_rfl) (by kernel_rfl) (by kernel_rfl) (fun _ _ _ h => h) (by rfl) hS (fun hS => ?_)
          try go_frame
          refine held_skip (i := 6) (oi := ⟨some 49, _, _, _, _, _⟩) rfl (by kernel_rfl) (by kernel_rfl) (by kernel_rfl) (fun _ _ _ h => h) (by rfl) hS (fun hS => ?_)
          try go_frame
          refine held_skip (i := 7) (oi := ⟨some 50, _, _, _, _, _⟩) rfl (by kernel_rfl) (by kernel_rfl) (by kernel_rfl) (fun _ _ _ h => h) (by rfl) hS (fun hS => ?_)
          try go_frame
          refine held_skip (i := 8) (oi := ⟨some 51, _, _, _, _, _⟩) rfl (by kernel_rfl) (by kernel_rfl) (by kernel_rfl) (fun _ _ _ h => h) (by rfl) hS (fun hS => ?_)
          try go_frame
          refine held_skip (i := 9) (oi := ⟨some 52, _, _, _, _, _⟩) rfl (by kernel_rfl) (by kernel_rfl) (by kernel_rfl) (fun _ _ _ h => h) (by rfl) hS (fun hS => ?_)
          try go_frame
          refine held_skip (i := 10) (oi := ⟨some 53, _, _, _, _, _⟩) rfl (by kernel_rfl) (by kernel_rfl) (by kernel_rfl) (fun _ _ _ h => h) (by rfl) hS (fun hS => ?_)
          try go_frame
          refine held_skip (i := 11) (oi := ⟨some 54, _, _, _, _, _⟩) rfl (by kernel_rfl) (by kernel_rfl) (by kernel_rfl) (fun _ _ _ h => h) (by rfl) hS (fun hS => ?_)
          try go_frame
          refine held_skip (i := 12) (oi := ⟨some 55, _, _, _, _, _⟩) rfl (by kernel_rfl) (by kernel_rfl) (by kernel_rfl) (fun _ _ _ h => h) (by rfl) hS (fun hS => ?_)
          try go_frame
          refine held_pure (i := 13) (oi := ⟨some 56, _, _, _, _, _⟩) rfl (by kernel_rfl) (by kernel_rfl) (by kernel_rfl) (fun _ _ _ h => h) (by rfl) (v := ?_) (fun w hSw => ?_) hS (fun hS => ?_)
          rotate_left
          · go_simp; try with_reducible rfl
          try go_frame
          refine wpAnyH_done (by kernel_rfl) ?_ _
          have HV := Lib.hid (show prsU src dst b = ⟨X0, X2, true, D⟩ by rw [prsU, if_pos HE.out, rawU, HX0.out, HX2.out, HX6.out, HNS, HDd.out])
          have xq := hS
          obtain ⟨Wq, hWq⟩ : ∃ X : World, X = W.drew := ⟨_, rfl⟩
          rw [← hWq] at xq ⊢
          clear hWq hS
          have hRq := hR1.below (xq.mono (by omega))
          have hbq := hBW.trans (xq.mono (by omega))
          have hgq := (xq.block w.heap.size (by omega)).trans hg
          have hDq := (hR.cut_lo 8).below (hbq.mono hB)
          rw [← HDd.out] at hDq
          have hzq := xq.size
          go_wp2_with (first
            | (go_at_call 58; ((with_reducible refine (rget_any A b c B 0 2 _ hRq.rd (by omega)).mono ?_); rintro e w' ⟨rfl, rfl⟩; rw [show getV b 0 2 = X0 from G0.out]))
            | (go_at_call 58; ((with_reducible refine (rget_any A b c B 2 2 _ hRq.rd (by omega)).mono ?_); rintro e w' ⟨rfl, rfl⟩; rw [show getV b 2 2 = X2 from G2.out]))
            | ((with_reducible show wpList _ _ _ (Oper.mk _ (Op.slice _ _ _ _ _) _ _ _ _ :: _) _ _); (refine wpList_val rfl (run_cut_lh rfl rfl rfl rfl (l := 8) (h := (b.length : Int)) (by omega) (by omega) (by omega) (m := D.length) (by have := HDl.out; omega)) ?_))
            | (at_builtin; refine append_rd rfl _ _ rfl Wq.heap.size (.slice none 0 0) 0 [] rfl (World.ownsRow_nil _ _ _ _) B (cutA A c 8) (c - 8) D rfl hDq.none_ hDq.rd (by have := HDl.out; omega) (Nat.le_refl _) ?_; intro v8 w8 own8 grow8; obtain ⟨P, p, rfl, owm8⟩ := own_made (bs := D) own8 (by simp) (by simp); have x8 : Below Wq.heap.size Wq w8 := (Below.refl Wq.heap.size Wq).grown grow8 (Nat.le_refl _) (fun k hk => by cases hk); have hr8 := (x8.block w.heap.size (by omega)).trans hgq)
            | ((with_reducible show wpList _ _ _ (Oper.mk _ (Op.store 57 _ _) _ _ _ _ :: _) _ _); refine us_store (g := w.heap.size) (cs := usa ⟨X0, X2, true, D⟩ P p) rfl rfl hr8 rfl rfl (us_one _ _ _) ?_))
          have o9 := own_setRow owm8 (g := w.heap.size) (cs := usa ⟨X0, X2, true, D⟩ P p) (by omega)
          exact bodyPost_ret (res2 rfl rfl (us_load_run (setRow_heap _ _ _ _ _ _ hr8) rfl)) rfl ⟨P, p, by rw [HV.out, HE.out]; rfl, by rw [HV.out]; exact Made.of_own (own_base o9 (by omega)) (below_row (hbq.trans (x8.mono (by omega))) (Nat.le_refl _))⟩
        · have e0 : (Z != 0) = true := by simpa using hz0
          have e1 : (Z == 0) = false := by simpa using hz0
          have HNS : decide (Z = 0) = false := by simpa using hz0
          obtain ⟨N, hN⟩ : ∃ n, n = rightB [psd src dst 17 (b.length : Int), b] := ⟨_, rfl⟩
          have HN := Lib.hid hN
          have HBD := Lib.hid (show badU src dst b = if N = false then 5 else 0 by rw [badU, if_neg h8, if_neg (by rw [HX4.out]; omega), if_neg (by rw [HX4.out]; omega), HX6.out, HX4.out, ← hN]; simp [hz0])
          clear hN hz0
          cases N
          · have HE := Lib.hid (show badU src dst b = 5 by rw [HBD.out]; rfl)
            have HV := Lib.hid (show prsU src dst b = usz by rw [prsU, HE.out]; rfl)
            refine held_pure (i := 0) (oi := ⟨some 43, _, _, _, _, _⟩) rfl (by kernel_rfl) (by kernel_rfl) (by kernel_rfl) (fun _ _ _ h => h) (by rfl) (v := ?_) (fun w hSw => ?_) hS (fun hS => ?_)
            rotate_left
            · go_simp; try with_reducible rfl
            try go_frame
            refine held_pure (i := 1) (oi := ⟨some 44, _, _, _, _, _⟩) rfl (by kernel_rfl) (by kernel_rfl) (by kernel_rfl) (fun _ _ _ h => h) (by rfl) (v := ?_) (fun w hSw => ?_) hS (fun hS => ?_)
            rotate_left
            · go_simp; try with_reducible rfl
            try go_frame
            refine held_pure (i := 2) (oi := ⟨some 45, _, _, _, _, _⟩) rfl (by kernel_rfl) (by kernel_rfl) (by kernel_rfl) (fun _ _ _ h => h) (by rfl) (v := ?_) (fun w hSw => ?_) hS (fun hS => ?_)
            rotate_left
            · go_simp; try with_reducible rfl
            try go_frame
            refine held_pure (i := 3) (oi := ⟨some 46, _, _, _, _, _⟩) rfl (by kernel_rfl) (by kernel_rfl) (by kernel_rfl) (fun _ _ _ h => h) (by rfl) (v := ?_) (fun w hSw => ?_) hS (fun hS => ?_)
            rotate_left
            · go_simp; try with_reducible rfl
            try go_frame
            refine held_pure (i := 4) (oi := ⟨some 47, _, _, _, _, _⟩) rfl (by kernel_rfl) (by kernel_rfl) (by kernel_rfl) (fun _ _ _ h => h) (by rfl) (v := ?_) (fun w hSw => ?_) hS (fun hS => ?_)
            rotate_left
            · go_simp; try with_reducible rfl
            try go_frame
            refine held_pure (i := 5) (oi := ⟨some 48, _, _, _, _, _⟩) rfl (by kernel_rfl) (by kernel_rfl) (by kernel_rfl) (fun _ _ _ h => h) (by rfl) (v := ?_) (fun w hSw => ?_) hS (fun hS => ?_)
            rotate_left
            · go_simp; try with_reducible rfl
            try go_frame
            refine held_pure (i := 7) (oi := ⟨some 50, _, _, _, _, _⟩) rfl (by kernel_rfl) (by kernel_rfl) (by kernel_rfl) (fun _ _ _ h => h) (by rfl) (v := ?_) (fun w hSw => ?_) hS (fun hS => ?_)
            rotate_left
            · go_simp; try with_reducible rfl
            try go_frame
            refine held_pure (i := 8) (oi := ⟨some 51, _, _, _, _, _⟩) rfl (by kernel_rfl) (by kernel_rfl) (by kernel_rfl) (fun _ _ _ h => h) (by rfl) (v := ?_) (fun w hSw => ?_) hS (fun hS => ?_)
            rotate_left
            · go_simp; try with_reducible rfl
            try go_frame
            refine held_pure (i := 9) (oi := ⟨some 52, _, _, _, _, _⟩) rfl (by kernel_rfl) (by kernel_rfl) (by kernel_rfl) (fun _ _ _ h => h) (by rfl) (fun w hSw => run_cut_h rfl rfl rfl (h := (b.length : Int)) (by omega) (by omega) (m := b.length) (by omega)) hS (fun hS => ?_)
            try go_frame
            refine wpAnyH_ready (rs := [6]) (by kernel_rfl) (by simp) (AllReadyH.cons (o := ⟨some 49, _, _, _, _, _⟩) rfl (fun K hK => ?_) AllReadyH.nil)
            rw [if_pos (by rfl)]
            go_simp
            refine (rpsd_any src dst 17 (b.length : Int) _).mono ?_
            rintro e wp ⟨vp, rfl, mp⟩
            obtain ⟨Ap, cp, rfl, gp, op, xp⟩ := made_shape mp
            have hSp := below_step hS xp
            show K _ _
            refine hK.out _ _ (below_step hS xp) (fun hS => ?_)
            clear hK K
            try go_frame
            refine wpAnyH_ready (rs := [10]) (by kernel_rfl) (by simp) (AllReadyH.cons (o := ⟨some 53, _, _, _, _, _⟩) rfl (fun K hK => ?_) AllReadyH.nil)
            rw [if_pos (by rfl)]
            go_simp
            refine hK.out _ _ (hS.alloc hS.size _) (fun hS => ?_)
            clear hK K
            try go_frame
            refine wpAnyH_ready (rs := [11]) (by kernel_rfl) (by simp) (AllReadyH.cons (o := ⟨some 54, _, _, _, _, _⟩) rfl (fun K hK => ?_) AllReadyH.nil)
            rw [if_pos (by rfl)]
            go_simp
            refine (rright_two (some ⟨wp.heap.size, 0, none⟩) (psd src dst 17 (b.length : Int)) b 2 (wp.heap.size + 1) _ HN _ (Rd2.two rfl rfl (World.alloc_heap_new wp _) (Nat.lt_succ_self _) ((gp.alloc (Nat.le_refl _) _).more (Nat.le_succ _)) (((hR1.below (hSp.mono (by omega))).alloc (by have := hSp.size; omega) _).more (by have := hSp.size; omega))) (by rw [psd_len]; omega)).mono ?_
            rintro e wq ⟨rfl, nq, rfl⟩
            show K _ _
            refine hK.out _ _ (below_drewN hS _) (fun hS => ?_)
            clear hK K
            try go_frame
            refine held_pure (i := 12) (oi := ⟨some 55, _, _, _, _, _⟩) rfl (by kernel_rfl) (by kernel_rfl) (by kernel_rfl) (fun _ _ _ h => h) (by rfl) (v := ?_) (fun w hSw => ?_) hS (fun hS => ?_)
            rotate_left
            · go_simp; try with_reducible rfl
            try go_frame
            refine held_pure (i := 13) (oi := ⟨some 56, _, _, _, _, _⟩) rfl (by kernel_rfl) (by kernel_rfl) (by kernel_rfl) (fun _ _ _ h => h) (by rfl) (v := ?_) (fun w hSw => ?_) hS (fun hS => ?_)
            rotate_left
            · go_simp; try with_reducible rfl
            try go_frame
            refine wpAnyH_done (by kernel_rfl) ?_ _
            have hgq := (hS.block w.heap.size (by omega)).trans hg
            have hbq := hBW.trans (hS.mono (by omega))
            go_wp2_with (first | ((with_reducible show wpList _ _ _ (Oper.mk _ (Op.store 57 _ _) _ _ _ _ :: _) _ _); refine us_store (g := w.heap.size) (cs := usa usz none 0) rfl rfl hgq rfl rfl (us_one _ _ _) ?_))
            exact bodyPost_ret (res2 rfl rfl (us_load_run (setRow_heap _ _ _ _ _ _ hgq) rfl)) rfl ⟨none, 0, by rw [HV.out, HE.out]; rfl, by rw [HV.out]; exact Made.nil _ _ (below_row hbq (Nat.le_refl _))⟩
          · have HE := Lib.hid (show badU src dst b = 0 by rw [HBD.out]; rfl)
            refine held_pure (i := 0) (oi := ⟨some 43, _, _, _, _, _⟩) rfl (by kernel_rfl) (by kernel_rfl) (by kernel_rfl) (fun _ _ _ h => h) (by rfl) (v := ?_) (fun w hSw => ?_) hS (fun hS => ?_)
            rotate_left
            · go_simp; try with_reducible rfl
            try go_frame
            refine held_pure (i := 1) (oi := ⟨some 44, _, _, _, _, _⟩) rfl (by kernel_rfl) (by kernel_rfl) (by kernel_rfl) (fun _ _ _ h => h) (by rfl) (v := ?_) (fun w hSw => ?_) hS (fun hS => ?_)
            rotate_left
            · go_simp; try with_reducible rfl
            try go_frame
            refine held_pure (i := 2) (oi := ⟨some 45, _, _, _, _, _⟩) rfl (by kernel_rfl) (by kernel_rfl) (by kernel_rfl) (fun _ _ _ h => h) (by rfl) (v := ?_) (fun w hSw => ?_) hS (fun hS => ?_)
            rotate_left
            · go_simp; try with_reducible rfl
            try go_frame
            refine held_pure (i := 3) (oi := ⟨some 46, _, _, _, _, _⟩) rfl (by kernel_rfl) (by kernel_rfl) (by kernel_rfl) (fun _ _ _ h => h) (by rfl) (v := ?_) (fun w hSw => ?_) hS (fun hS => ?_)
            rotate_left
            · go_simp; try with_reducible rfl
            try go_frame
            refine held_pure (i := 4) (oi := ⟨some 47, _, _, _, _, _⟩) rfl (by kernel_rfl) (by kernel_rfl) (by kernel_rfl) (fun _ _ _ h => h) (by rfl) (v := ?_) (fun w hSw => ?_) hS (fun hS => ?_)
            rotate_left
            · go_simp; try with_reducible rfl
            try go_frame
            refine held_pure (i := 5) (oi := ⟨some 48, _, _, _, _, _⟩) rfl (by kernel_rfl) (by kernel_rfl) (by kernel_rfl) (fun _ _ _ h => h) (by rfl) (v := ?_) (fun w hSw => ?_) hS (fun hS => ?_)
            rotate_left
            · go_simp; try with_reducible rfl
            try go_frame
            refine held_pure (i := 7) (oi := ⟨some 50, _, _, _, _, _⟩) rfl (by kernel_rfl) (by kernel_rfl) (by kernel_rfl) (fun _ _ _ h => h) (by rfl) (v := ?_) (fun w hSw => ?_) hS (fun hS => ?_)
            rotate_left
            · go_simp; try with_reducible rfl
            try go_frame
            refine held_pure (i := 8) (oi := ⟨some 51, _, _, _, _, _⟩) rfl (by kernel_rfl) (by kernel_rfl) (by kernel_rfl) (fun _ _ _ h => h) (by rfl) (v := ?_) (fun w hSw => ?_) hS (fun hS => ?_)
            rotate_left
            · go_simp; try with_reducible rfl
            try go_frame
            refine held_pure (i := 9) (oi := ⟨some 52, _, _, _, _, _⟩) rfl (by kernel_rfl) (by kernel_rfl) (by kernel_rfl) (fun _ _ _ h => h) (by rfl) (fun w hSw => run_cut_h rfl rfl rfl (h := (b.length : Int)) (by omega) (by omega) (m := b.length) (by omega)) hS (fun hS => ?_)
            try go_frame
            refine wpAnyH_ready (rs := [6]) (by kernel_rfl) (by simp) (AllReadyH.cons (o := ⟨some 49, _, _, _, _, _⟩) rfl (fun K hK => ?_) AllReadyH.nil)
            rw [if_pos (by rfl)]
            go_simp
            refine (rpsd_any src dst 17 (b.length : Int) _).mono ?_
            rintro e wp ⟨vp, rfl, mp⟩
            obtain ⟨Ap, cp, rfl, gp, op, xp⟩ := made_shape mp
            have hSp := below_step hS xp
            show K _ _
            refine hK.out _ _ (below_step hS xp) (fun hS => ?_)
            clear hK K
            try go_frame
            refine wpAnyH_ready (rs := [10]) (by kernel_rfl) (by simp) (AllReadyH.cons (o := ⟨some 53, _, _, _, _, _⟩) rfl (fun K hK => ?_) AllReadyH.nil)
            rw [if_pos (by rfl)]
            go_simp
            refine hK.out _ _ (hS.alloc hS.size _) (fun hS => ?_)
            clear hK K
            try go_frame
            refine wpAnyH_ready (rs := [11]) (by kernel_rfl) (by simp) (AllReadyH.cons (o := ⟨some 54, _, _, _, _, _⟩) rfl (fun K hK => ?_) AllReadyH.nil)
            rw [if_pos (by rfl)]
            go_simp
            refine (rright_two (some ⟨wp.heap.size, 0, none⟩) (psd src dst 17 (b.length : Int)) b 2 (wp.heap.size + 1) _ HN _ (Rd2.two rfl rfl (World.alloc_heap_new wp _) (Nat.lt_succ_self _) ((gp.alloc (Nat.le_refl _) _).more (Nat.le_succ _)) (((hR1.below (hSp.mono (by omega))).alloc (by have := hSp.size; omega) _).more (by have := hSp.size; omega))) (by rw [psd_len]; omega)).mono ?_
            rintro e wq ⟨rfl, nq, rfl⟩
            show K _ _
            refine hK.out _ _ (below_drewN hS _) (fun hS => ?_)
            clear hK K
            try go_frame
            refine held_pure (i := 12) (oi := ⟨some 55, _, _, _, _, _⟩) rfl (by kernel_rfl) (by kernel_rfl) (by kernel_rfl) (fun _ _ _ h => h) (by rfl) (v := ?_) (fun w hSw => ?_) hS (fun hS => ?_)
            rotate_left
            · go_simp; try with_reducible rfl
            try go_frame
            refine held_pure (i := 13) (oi := ⟨some 56, _, _, _, _, _⟩) rfl (by kernel_rfl) (by kernel_rfl) (by kernel_rfl) (fun _ _ _ h => h) (by rfl) (v := ?_) (fun w hSw => ?_) hS (fun hS => ?_)
            rotate_left
            · go_simp; try with_reducible rfl
            try go_frame
            refine wpAnyH_done (by kernel_rfl) ?_ _
            have HV := Lib.hid (show prsU src dst b = ⟨X0, X2, false, D⟩ by rw [prsU, if_pos HE.out, rawU, HX0.out, HX2.out, HX6.out, HNS, HDd.out])
            have xq := hS
            obtain ⟨Wq, hWq⟩ : ∃ X : World, X = (wp.alloc (.cells #[.slice Ap (psd src dst 17 (b.length : Int)).length cp, .slice A b.length c] 22)).drewN nq := ⟨_, rfl⟩
            rw [← hWq] at xq ⊢
            clear hWq hS
            have hRq := hR1.below (xq.mono (by omega))
            have hbq := hBW.trans (xq.mono (by omega))
            have hgq := (xq.block w.heap.size (by omega)).trans hg
            have hDq := (hR.cut_lo 8).below (hbq.mono hB)
            rw [← HDd.out] at hDq
            have hzq := xq.size
            go_wp2_with (first
              | (go_at_call 58; ((with_reducible refine (rget_any A b c B 0 2 _ hRq.rd (by omega)).mono ?_); rintro e w' ⟨rfl, rfl⟩; rw [show getV b 0 2 = X0 from G0.out]))
              | (go_at_call 58; ((with_reducible refine (rget_any A b c B 2 2 _ hRq.rd (by omega)).mono ?_); rintro e w' ⟨rfl, rfl⟩; rw [show getV b 2 2 = X2 from G2.out]))
              | ((with_reducible show wpList _ _ _ (Oper.mk _ (Op.slice _ _ _ _ _) _ _ _ _ :: _) _ _); (refine wpList_val rfl (run_cut_lh rfl rfl rfl rfl (l := 8) (h := (b.length : Int)) (by omega) (by omega) (by omega) (m := D.length) (by have := HDl.out; omega)) ?_))
              | (at_builtin; refine append_rd rfl _ _ rfl Wq.heap.size (.slice none 0 0) 0 [] rfl (World.ownsRow_nil _ _ _ _) B (cutA A c 8) (c - 8) D rfl hDq.none_ hDq.rd (by have := HDl.out; omega) (Nat.le_refl _) ?_; intro v8 w8 own8 grow8; obtain ⟨P, p, rfl, owm8⟩ := own_made (bs := D) own8 (by simp) (by simp); have x8 : Below Wq.heap.size Wq w8 := (Below.refl Wq.heap.size Wq).grown grow8 (Nat.le_refl _) (fun k hk => by cases hk); have hr8 := (x8.block w.heap.size (by omega)).trans hgq)
              | ((with_reducible show wpList _ _ _ (Oper.mk _ (Op.store 57 _ _) _ _ _ _ :: _) _ _); refine us_store (g := w.heap.size) (cs := usa ⟨X0, X2, false, D⟩ P p) rfl rfl hr8 rfl rfl (us_one _ _ _) ?_))
            have o9 := own_setRow owm8 (g := w.heap.size) (cs := usa ⟨X0, X2, false, D⟩ P p) (by omega)
            exact bodyPost_ret (res2 rfl rfl (us_load_run (setRow_heap _ _ _ _ _ _ hr8) rfl)) rfl ⟨P, p, by rw [HV.out, HE.out]; rfl, by rw [HV.out]; exact Made.of_own (own_base o9 (by omega)) (below_row (hbq.trans (x8.mono (by omega))) (Nat.le_refl _))⟩
      · have d2 : decide ((b.length : Int) < Z4) = false := by simp; omega
        have d3 : decide (Z4 < (b.length : Int)) = true := by simpa using s1
        have HE := Lib.hid (show badU src dst b = 4 by rw [badU, if_neg h8, if_neg (by rw [HX4.out]; omega), if_pos (by rw [HX4.out]; exact s1)])
        have HV := Lib.hid (show prsU src dst b = usz by rw [prsU, HE.out]; rfl)
        go_wp2_with (first | ((with_reducible show wpList _ _ _ (Oper.mk _ (Op.store 57 _ _) _ _ _ _ :: _) _ _); refine us_store (g := w.heap.size) (cs := usa usz none 0) rfl rfl hg rfl rfl (us_one _ _ _) ?_))
        exact bodyPost_ret (res2 rfl rfl (us_load_run (setRow_heap _ _ _ _ _ _ hg) rfl)) rfl ⟨none, 0, by rw [HV.out, HE.out]; rfl, by rw [HV.out]; exact Made.nil _ _ (below_row hBW (Nat.le_refl _))⟩
end
end Go.Proofs.YtodlfdnegcfhcaaGreat

/-
  Layer 7's awake, and what Build answers, in one shape. Conditions are each theorem's own.
-/
namespace Go.Proofs.YtodlfdnegcfhcaaGreat
open Go.RowKit

def resU (src dst : Int) (q : PU) : List UInt8 := if chkU q = 0 then bldU src dst q else []
theorem resU_shape {src dst : Int} {q : PU} {w w' : World} {v : Value} (h : (chkU q ≠ 0 → v = .slice none 0 0 ∧ Below w.heap.size w w') ∧ (chkU q = 0 → Made w w' v (bldU src dst q))) :
    ∃ P k, v = .slice P (resU src dst q).length k ∧ Rd w' w'.heap.size P (resU src dst q) ∧ Below w.heap.size w w' := by
  by_cases hc : chkU q = 0
  · obtain ⟨A, c, rfl, hl, hr, ho, hb⟩ := h.2 hc
    exact ⟨A, c, by rw [resU, if_pos hc], by rw [resU, if_pos hc]; exact hr, hb⟩
  · obtain ⟨rfl, hb⟩ := h.1 hc
    exact ⟨none, 0, by rw [resU, if_neg hc]; rfl, by rw [resU, if_neg hc]; exact Rd.nil, hb⟩
def qaU : PU := ⟨3, 4, false, [5]⟩
theorem buildU_awake (g : Nat) (w : World) (hg : w.heap[g]? = some (.cells #[.int .u8 5] 5 (0, 0))) :
    Calls Tryz.prog 152 #[.int .i64 1, .int .i64 2, usv qaU (some ⟨g, 0, none⟩) 1] w fun e w' => ∃ A c, e = .returned (.tuple #[.slice A 9 c, .int .i64 0]) ∧ Arg w' w'.heap.size A c (bldU 1 2 qaU) ∧ Below w.heap.size w w' := by
  have hc : chkU qaU = 0 := by decide
  have hlen : (bldU 1 2 qaU).length = 9 := bldU_len 1 2 qaU
  refine (cUbuild qaU (some ⟨g, 0, none⟩) 1 1 2 w w.heap.size ⟨Rd.of_block hg (heap_lt hg) 0 (fun j hj => by
    have : j = 0 := by simpa [qaU] using hj
    subst this; rfl), by decide, fun e => by cases e⟩ (Nat.le_refl _) (by decide)).mono ?_
  rintro e w' ⟨v, rfl, _, hm⟩
  obtain ⟨A, c, rfl, ha, ho, hb⟩ := made_shape (hm hc)
  exact ⟨A, c, by rw [hc, hlen], ha, hb⟩
theorem parseU_awake (A : Option Addr) (c B : Nat) (w : World) (h : Arg w B A c (bldU 1 2 qaU)) (hB : B ≤ w.heap.size) :
    Calls Tryz.prog 53 #[.int .i64 1, .int .i64 2, .slice A 9 c] w fun e w' => ∃ P p, e = .returned (.tuple #[usv qaU P p, .int .i64 0]) ∧ Below w.heap.size w w' := by
  have hlen : (bldU 1 2 qaU).length = 9 := bldU_len 1 2 qaU
  have hk := backU (src := 1) (dst := 2) (q := qaU) (by decide)
  have := cUparse (bldU 1 2 qaU) A c 1 2 w B h hB (by rw [hlen]; decide)
  rw [hk.1, hk.2, hlen] at this
  refine this.mono ?_
  rintro e w' ⟨P, p, rfl, hm⟩
  exact ⟨P, p, rfl, hm.below⟩
theorem psd_twelve (w : World) :
    Calls Tryz.prog 78 #[.int .i64 1, .int .i64 2, .int .i64 17, .int .i64 9] w fun e w' => ∃ A c, e = .returned (.slice A 12 c) ∧ Below w.heap.size w w' := by
  refine (psd_any 1 2 17 9 w).mono ?_
  rintro e w' ⟨v, rfl, hm⟩
  obtain ⟨A, c, rfl, ha, ho, hb⟩ := made_shape hm
  exact ⟨A, c, by rw [psd_len], hb⟩
end Go.Proofs.YtodlfdnegcfhcaaGreat
