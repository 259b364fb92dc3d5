/-
  Contracts and lemmas on which the proofs of this seat stand (several texts in one). Conditions are each theorem's own.
-/
import Derived.Test.YtodlfdnegcfhcaaGreatMd2

/-
  Packets built anew as the document has them. Conditions are each theorem's own.
-/
namespace Go.Proofs.YtodlfdnegcfhcaaGreat
open Go.RowKit

section
variable (q : P4) (A : Option Addr) (c : Nat) (A' : Option Addr) (c' : Nat) (w : World)
set_option maxRecDepth 100000 in
set_option maxHeartbeats 4000000 in
theorem r11may (ho : q.opt.length ≤ 1000000) (hl : q.dat.length ≤ 900000) (B : Nat) (hD : Arg w B A' c' q.dat) (hB0 : B ≤ w.heap.size) (ad n : Int) : Calls Tryz.prog 38 #[v4v q A c A' c', .int .i64 ad, .int .i64 n] w fun e w' => e = .returned (.int .i64 (mayE q ad n)) ∧ Below w.heap.size w w' := by
  have hB : Below w.heap.size w (w.alloc (.cells (v4a q A c A' c') 24)) := (Below.refl _ w).alloc (Nat.le_refl _) _
  have at0 := At4.new (q := q) (A := A) (c := c) (A' := A') (c' := c') w
  have hz : w.heap.size < (w.alloc (.cells (v4a q A c A' c') 24)).heap.size := by simp
  have hD0 := hD.below (((Below.refl _ w).alloc (Nat.le_refl _) (.cells (v4a q A c A' c') 24)).mono hB0)
  obtain ⟨k, a, b, hV⟩ := ofV_is q
  have HV := Lib.hid hV
  clear hV
  rw [v4q_eq]
  by_cases he : ofE q = 0
  · have HE := Lib.hid he
    have HM := Lib.hid (show mayE q ad n = if okB ad = true ∧ fitsB n 2 = true then 0 else 1 by
      rw [mayE, if_neg (by omega)]
      have e1 : okB ad = true ↔ isAd ad := by unfold okB; rw [decide_eq_true_iff]; rfl
      have e2 : fitsB n 2 = true ↔ isPt n := by rw [fitsB_iff, show pw (2 : Int).toNat = 65536 from rfl]; unfold isPt; omega
      simp only [e1, e2])
    clear he
    cases e1 : okB ad <;> cases e2 : fitsB n 2
    all_goals
      go_enter Tryz.func38, Tryz.ntmps38
      go_upto_region 1 with fail
      generalize w.alloc (.cells (v4a q A c A' c') 24) = X at *
      go_wp2_with (first
        | ((with_reducible show wpList _ _ _ (Oper.mk _ (Op.load 24 _) _ _ _ _ :: _) _ _); refine wpList_val rfl (run_load_v4 rfl rfl at0 rfl) ?_)
        | (go_at_call 10; refine (r11of q A c A' c' _ ho hl B hD0 (Nat.le_trans hB0 hB.size)).mono ?_; rintro e w1 ⟨rfl, x1⟩; rw [HE.out, HV.out])
        | ((with_reducible show wpList _ _ _ (Oper.mk _ (Op.store 28 _ _) _ _ _ _ :: _) _ _); refine pr_store_new (cs := prA k a b) rfl rfl rfl rfl (prA_one _ _ _) ?_)
        | (go_at_call 56; refine (r3right_any _ _).mono ?_; rintro e w2 ⟨rfl, rfl⟩; rw [e1])
        | (go_at_call 55; refine (rfits_any _ _ _).mono ?_; rintro e w3 ⟨rfl, rfl⟩; rw [e2]))
      go_ret
      exact ⟨by rw [HM.out, e1, e2]; rfl, hB.trans ((x1.trans (((Below.refl _ w1).alloc (Nat.le_refl _) _).mono x1.size)).mono hB.size)⟩
  · obtain ⟨E, hE⟩ : ∃ n, n = ofE q := ⟨_, rfl⟩
    have HE := Lib.hid hE.symm
    have HM := Lib.hid (show mayE q ad n = E by rw [mayE, if_pos he, hE])
    have dE : (E != 0) = true := by simpa [hE] using he
    clear he hE
    go_enter Tryz.func38, Tryz.ntmps38
    go_upto_region 1 with fail
    generalize w.alloc (.cells (v4a q A c A' c') 24) = X at *
    go_wp2_with (first
      | ((with_reducible show wpList _ _ _ (Oper.mk _ (Op.load 24 _) _ _ _ _ :: _) _ _); refine wpList_val rfl (run_load_v4 rfl rfl at0 rfl) ?_)
      | (go_at_call 10; refine (r11of q A c A' c' _ ho hl B hD0 (Nat.le_trans hB0 hB.size)).mono ?_; rintro e w1 ⟨rfl, x1⟩; rw [HE.out, HV.out])
      | ((with_reducible show wpList _ _ _ (Oper.mk _ (Op.store 28 _ _) _ _ _ _ :: _) _ _); refine pr_store_new (cs := prA k a b) rfl rfl rfl rfl (prA_one _ _ _) ?_))
    go_ret
    exact ⟨by rw [HM.out]; rfl, hB.trans ((x1.trans (((Below.refl _ w1).alloc (Nat.le_refl _) _).mono x1.size)).mono hB.size)⟩
set_option maxRecDepth 100000 in
set_option maxHeartbeats 4000000 in
theorem r11flagE (ho : q.opt.length ≤ 1000000) (hl : q.dat.length ≤ 900000) (B : Nat) (hD : Arg w B A' c' q.dat) (hB0 : B ≤ w.heap.size) (he : ofE q ≠ 0) : Calls Tryz.prog 17 #[v4v q A c A' c'] w fun e w' => e = .returned (.int .i64 0) ∧ Below w.heap.size w w' := by
  have hB : Below w.heap.size w (w.alloc (.cells (v4a q A c A' c') 24)) := (Below.refl _ w).alloc (Nat.le_refl _) _
  have at0 := At4.new (q := q) (A := A) (c := c) (A' := A') (c' := c') w
  have hz : w.heap.size < (w.alloc (.cells (v4a q A c A' c') 24)).heap.size := by simp
  have hD0 := hD.below (((Below.refl _ w).alloc (Nat.le_refl _) (.cells (v4a q A c A' c') 24)).mono hB0)
  obtain ⟨k, a, b, hV⟩ := ofV_is q
  have HV := Lib.hid hV
  clear hV
  rw [v4q_eq]
  obtain ⟨E, hE⟩ : ∃ n, n = ofE q := ⟨_, rfl⟩
  have HE := Lib.hid hE.symm
  have dE : (E != 0) = true := by simpa [hE] using he
  clear he hE
  go_enter Tryz.func17, Tryz.ntmps17
  go_upto_region 1 with fail
  generalize w.alloc (.cells (v4a q A c A' c') 24) = X at *
  go_upto_region 2 with (first
    | ((with_reducible show wpList _ _ _ (Oper.mk (some 8) (Op.load 24 _) _ _ _ _ :: _) _ _); refine wpList_val rfl (run_load_v4 rfl rfl at0 rfl) ?_)
    | (go_at_call 10; refine (r11of q A c A' c' _ ho hl B hD0 (Nat.le_trans hB0 hB.size)).mono ?_; rintro e w1 ⟨rfl, x1⟩; rw [HE.out, HV.out])
    | ((with_reducible show wpList _ _ _ (Oper.mk _ (Op.store 28 _ _) _ _ _ _ :: _) _ _); refine pr_store_new (cs := prA k a b) rfl rfl rfl rfl (prA_one _ _ _) ?_))
  have j1 : Below w1.heap.size w1 (w1.alloc (.cells (prA k a b) 28)) := (Below.refl _ w1).alloc (Nat.le_refl _) _
  have x1j := x1.trans (j1.mono x1.size)
  have at1 := at0.below x1j hz
  have b1 := hB.trans (x1j.mono hB.size)
  have k4 := at1.proto
  have k5 := at1.src
  have k6 := at1.dst
  have k10 := at1.dat
  have hD1 := hD0.below (x1j.mono (Nat.le_trans hB0 hB.size))
  generalize w1.alloc (.cells (prA k a b) 28) = Y at *
  go_wp2_with fail
  go_ret
  exact ⟨rfl, b1⟩
set_option maxRecDepth 100000 in
set_option maxHeartbeats 4000000 in
theorem r11flagN (ho : q.opt.length ≤ 1000000) (hl : q.dat.length ≤ 900000) (B : Nat) (hD : Arg w B A' c' q.dat) (hB0 : B ≤ w.heap.size) (he : ofE q = 0) (hk : q.proto ≠ 6) : Calls Tryz.prog 17 #[v4v q A c A' c'] w fun e w' => e = .returned (.int .i64 0) ∧ Below w.heap.size w w' := by
  have hB : Below w.heap.size w (w.alloc (.cells (v4a q A c A' c') 24)) := (Below.refl _ w).alloc (Nat.le_refl _) _
  have at0 := At4.new (q := q) (A := A) (c := c) (A' := A') (c' := c') w
  have hz : w.heap.size < (w.alloc (.cells (v4a q A c A' c') 24)).heap.size := by simp
  have hD0 := hD.below (((Below.refl _ w).alloc (Nat.le_refl _) (.cells (v4a q A c A' c') 24)).mono hB0)
  obtain ⟨k, a, b, hV⟩ := ofV_is q
  have HV := Lib.hid hV
  clear hV
  rw [v4q_eq]
  have HE := Lib.hid he
  have d6 : (q.proto != 6) = true := by simpa using hk
  clear he hk
  go_enter Tryz.func17, Tryz.ntmps17
  go_upto_region 1 with fail
  generalize w.alloc (.cells (v4a q A c A' c') 24) = X at *
  go_upto_region 2 with (first
    | ((with_reducible show wpList _ _ _ (Oper.mk (some 8) (Op.load 24 _) _ _ _ _ :: _) _ _); refine wpList_val rfl (run_load_v4 rfl rfl at0 rfl) ?_)
    | (go_at_call 10; refine (r11of q A c A' c' _ ho hl B hD0 (Nat.le_trans hB0 hB.size)).mono ?_; rintro e w1 ⟨rfl, x1⟩; rw [HE.out, HV.out])
    | ((with_reducible show wpList _ _ _ (Oper.mk _ (Op.store 28 _ _) _ _ _ _ :: _) _ _); refine pr_store_new (cs := prA k a b) rfl rfl rfl rfl (prA_one _ _ _) ?_))
  have j1 : Below w1.heap.size w1 (w1.alloc (.cells (prA k a b) 28)) := (Below.refl _ w1).alloc (Nat.le_refl _) _
  have x1j := x1.trans (j1.mono x1.size)
  have at1 := at0.below x1j hz
  have b1 := hB.trans (x1j.mono hB.size)
  have k4 := at1.proto
  have k5 := at1.src
  have k6 := at1.dst
  have k10 := at1.dat
  have hD1 := hD0.below (x1j.mono (Nat.le_trans hB0 hB.size))
  generalize w1.alloc (.cells (prA k a b) 28) = Y at *
  go_wp2_with fail
  go_ret
  exact ⟨rfl, b1⟩
set_option maxRecDepth 100000 in
set_option maxHeartbeats 4000000 in
theorem r11flagO (ho : q.opt.length ≤ 1000000) (hl : q.dat.length ≤ 900000) (B : Nat) (hD : Arg w B A' c' q.dat) (hB0 : B ≤ w.heap.size) (he : ofE q = 0) (hk : q.proto = 6) : Calls Tryz.prog 17 #[v4v q A c A' c'] w fun e w' => e = .returned (.int .i64 (inT q).flags) ∧ Below w.heap.size w w' := by
  have hB : Below w.heap.size w (w.alloc (.cells (v4a q A c A' c') 24)) := (Below.refl _ w).alloc (Nat.le_refl _) _
  have at0 := At4.new (q := q) (A := A) (c := c) (A' := A') (c' := c') w
  have hz : w.heap.size < (w.alloc (.cells (v4a q A c A' c') 24)).heap.size := by simp
  have hD0 := hD.below (((Below.refl _ w).alloc (Nat.le_refl _) (.cells (v4a q A c A' c') 24)).mono hB0)
  obtain ⟨k, a, b, hV⟩ := ofV_is q
  have HV := Lib.hid hV
  clear hV
  rw [v4q_eq]
  have HE := Lib.hid he
  have d6 : (q.proto != 6) = false := by simpa using hk
  obtain ⟨u, hu⟩ : ∃ x, x = inT q := ⟨_, rfl⟩
  have HU := Lib.hid (show u = prsT q.src q.dst q.dat from hu)
  rw [← hu]
  clear hu
  clear he hk
  go_enter Tryz.func17, Tryz.ntmps17
  go_upto_region 1 with fail
  generalize w.alloc (.cells (v4a q A c A' c') 24) = X at *
  go_upto_region 2 with (first
    | ((with_reducible show wpList _ _ _ (Oper.mk (some 8) (Op.load 24 _) _ _ _ _ :: _) _ _); refine wpList_val rfl (run_load_v4 rfl rfl at0 rfl) ?_)
    | (go_at_call 10; refine (r11of q A c A' c' _ ho hl B hD0 (Nat.le_trans hB0 hB.size)).mono ?_; rintro e w1 ⟨rfl, x1⟩; rw [HE.out, HV.out])
    | ((with_reducible show wpList _ _ _ (Oper.mk _ (Op.store 28 _ _) _ _ _ _ :: _) _ _); refine pr_store_new (cs := prA k a b) rfl rfl rfl rfl (prA_one _ _ _) ?_))
  have j1 : Below w1.heap.size w1 (w1.alloc (.cells (prA k a b) 28)) := (Below.refl _ w1).alloc (Nat.le_refl _) _
  have x1j := x1.trans (j1.mono x1.size)
  have at1 := at0.below x1j hz
  have b1 := hB.trans (x1j.mono hB.size)
  have k4 := at1.proto
  have k5 := at1.src
  have k6 := at1.dst
  have k10 := at1.dat
  have hD1 := hD0.below (x1j.mono (Nat.le_trans hB0 hB.size))
  generalize w1.alloc (.cells (prA k a b) 28) = Y at *
  go_wp2_with (first
    | (go_at_call 34; refine (rTparse q.dat A' c' q.src q.dst Y B hD1 (Nat.le_trans hB0 b1.size) (by omega)).mono ?_; rintro e w3 ⟨P, p, P', p', rfl, m1, m2⟩; rw [← HU.out] at m1; rw [← HU.out]; have f5 := (Atts.of_heap (World.alloc_heap_new w3 (.cells (tsa u P p P' p') 41))).flags)
    | ((with_reducible show wpList _ _ _ (Oper.mk _ (Op.store 41 _ _) _ _ _ _ :: _) _ _); refine ts_store_new (cs := tsa u P p P' p') rfl rfl rfl rfl (ts_one _ _ _ _ _) ?_))
  go_ret
  have x3 := m1.below
  have j3 : Below w3.heap.size w3 (w3.alloc (.cells (tsa u P p P' p') 41)) := (Below.refl _ w3).alloc (Nat.le_refl _) _
  exact ⟨rfl, b1.trans ((x3.trans (j3.mono x3.size)).mono b1.size)⟩
theorem r11flags (ho : q.opt.length ≤ 1000000) (hl : q.dat.length ≤ 900000) (B : Nat) (hD : Arg w B A' c' q.dat) (hB0 : B ≤ w.heap.size) : Calls Tryz.prog 17 #[v4v q A c A' c'] w fun e w' => e = .returned (.int .i64 (flg q)) ∧ Below w.heap.size w w' := by
  by_cases he : ofE q = 0
  · by_cases hk : q.proto = 6
    · rw [flg, if_pos ⟨he, hk⟩]; exact r11flagO q A c A' c' w ho hl B hD hB0 he hk
    · rw [flg, if_neg (fun h => hk h.2)]; exact r11flagN q A c A' c' w ho hl B hD hB0 he hk
  · rw [flg, if_neg (fun h => he h.1)]; exact r11flagE q A c A' c' w ho hl B hD hB0 he
end
end Go.Proofs.YtodlfdnegcfhcaaGreat

/-
  Packets built anew as the document has them: its function built. Conditions are each theorem's own.
-/
namespace Go.Proofs.YtodlfdnegcfhcaaGreat
open Go.RowKit

section
variable (x q : P4) (X : Option Addr) (d : Nat) (X' : Option Addr) (d' : Nat) (A : Option Addr) (c : Nat) (A' : Option Addr) (c' : Nat) (w : World)
set_option maxRecDepth 100000 in
set_option maxHeartbeats 1000000 in
theorem r11built1S (ho : x.opt.length ≤ 1000000) (hl : q.dat.length ≤ 900000) (B : Nat) (hO : Arg w B X d x.opt) (hD : Arg w B A' c' q.dat) (hB0 : B ≤ w.heap.size) (n : Int) (hn : 0 ≤ n) (hk : x.proto = 1) (hu0 : (inI q).dat.length ≤ 900000) (hc : chkI (wdI (inI q) n) = 0) : Calls Tryz.prog 39 #[v4v x X d X' d', v4v q A c A' c', .int .i64 n, .int .i64 (-1)] w fun e w' =>
    ∃ P p P' p', e = .returned (v4v (datP x (bldI [] (wdI (inI q) n))) P p P' p') ∧ Made w w' (.slice P x.opt.length p) x.opt ∧ Made w w' (.slice P' (bldI [] (wdI (inI q) n)).length p') (bldI [] (wdI (inI q) n)) := by
  have hB : Below w.heap.size w (((w.alloc (.cells (v4a x X d X' d') 24)).alloc (.cells (v4a q A c A' c') 24)).alloc (.cells (v4a p4z none 0 none 0) 24)) := (below_two w _ _).alloc (by simp; omega) _
  have hP0 : (((w.alloc (.cells (v4a x X d X' d') 24)).alloc (.cells (v4a q A c A' c') 24)).alloc (.cells (v4a p4z none 0 none 0) 24)).heap[w.heap.size]? = some (.cells (v4a x X d X' d') 24 (0, 0)) := (Below.heap_alloc ((w.alloc (.cells (v4a x X d X' d') 24)).alloc (.cells (v4a q A c A' c') 24)) _ w.heap.size (by simp; omega)).trans ((Below.heap_alloc (w.alloc (.cells (v4a x X d X' d') 24)) _ w.heap.size (by simp)).trans (World.alloc_heap_new w _))
  have hQ0 : (((w.alloc (.cells (v4a x X d X' d') 24)).alloc (.cells (v4a q A c A' c') 24)).alloc (.cells (v4a p4z none 0 none 0) 24)).heap[w.heap.size + 1]? = some (.cells (v4a q A c A' c') 24 (0, 0)) := by
    refine (Below.heap_alloc ((w.alloc (.cells (v4a x X d X' d') 24)).alloc (.cells (v4a q A c A' c') 24)) _ (w.heap.size + 1) (by simp)).trans ?_
    have := World.alloc_heap_new (w.alloc (.cells (v4a x X d X' d') 24)) (.cells (v4a q A c A' c') 24)
    rwa [World.size_alloc] at this
  have hR0 : (((w.alloc (.cells (v4a x X d X' d') 24)).alloc (.cells (v4a q A c A' c') 24)).alloc (.cells (v4a p4z none 0 none 0) 24)).heap[w.heap.size + 2]? = some (.cells (v4a p4z none 0 none 0) 24 (0, 0)) := by
    have := World.alloc_heap_new ((w.alloc (.cells (v4a x X d X' d') 24)).alloc (.cells (v4a q A c A' c') 24)) (.cells (v4a p4z none 0 none 0) 24)
    rwa [World.size_alloc, World.size_alloc] at this
  have hs3 : (((w.alloc (.cells (v4a x X d X' d') 24)).alloc (.cells (v4a q A c A' c') 24)).alloc (.cells (v4a p4z none 0 none 0) 24)).heap.size = w.heap.size + 3 := by simp
  rw [v4q_eq, v4q_eq]
  obtain ⟨u, hu⟩ : ∃ y, y = inI q := ⟨_, rfl⟩
  rw [← hu] at hc hu0 ⊢
  have HU := Lib.hid (show u = prsI [] q.dat from hu)
  have HC := Lib.hid hc
  obtain ⟨R, hR⟩ : ∃ l, l = bldI [] (wdI u n) := ⟨_, rfl⟩
  have HR := Lib.hid hR
  rw [← hR]
  have d17 : (x.proto == 17) = false := by simp; omega
  have d6 : (x.proto == 6) = false := by simp; omega
  have dn : decide (0 ≤ n) = true := by simpa using hn
  clear hk hc hu hR
  go_enter Tryz.func39, Tryz.ntmps39
  go_upto_region 1 with fail
  rw [show #[.int .i64 0, .int .i64 0, .int .i64 0, .int .i64 0, .int .i64 0, .int .i64 0, .int .i64 0, .bool false, .bool false, .slice none 0 0, .slice none 0 0] = v4a p4z none 0 none 0 from rfl]
  generalize ((w.alloc (.cells (v4a x X d X' d') 24)).alloc (.cells (v4a q A c A' c') 24)).alloc (.cells (v4a p4z none 0 none 0) 24) = W at *
  have hO1 := hO.below (hB.mono hB0)
  have hD1 := hD.below (hB.mono hB0)
  have zW := Nat.le_trans hB0 hB.size
  have k9 := (At4.of_heap hP0).opt
  go_upto_region 2 with ((at_builtin; refine append_rd rfl _ _ rfl W.heap.size (.slice none 0 0) 0 [] rfl (World.ownsRow_nil _ _ _ _) B X d x.opt rfl hO1.none_ hO1.rd (by omega) (Nat.le_refl _) ?_; intro v1 w1 own1 grow1; obtain ⟨O, o, rfl, owm1⟩ := own_made (bs := x.opt) own1 (by simp) (by simp); have m1 := Made.of_own owm1 ((Below.refl W.heap.size W).grown grow1 (Nat.le_refl _) (fun k hk => by cases hk))); have x1 := m1.below; have hP1 := (x1.block w.heap.size (heap_lt hP0)).trans hP0; have hQ1 := (x1.block (w.heap.size + 1) (heap_lt hQ0)).trans hQ0; have hR1 := (x1.block (w.heap.size + 2) (heap_lt hR0)).trans hR0; have k91 := (At4.of_heap hP1).opt; have f9 := heap_frozen hP1 9)
  have oO := own_setCell (made_own m1) (p := ⟨w.heap.size, 9, none⟩) (u := .slice O x.opt.length o) (by show w.heap.size < _; omega)
  have zx1 := x1.size
  have hP2 : (w1.setCell ⟨w.heap.size, 9, none⟩ (.slice O x.opt.length o)).heap[w.heap.size]? = some (.cells (v4a x O o X' d') 24 (0, 0)) := heap_setCell_same w1 w.heap.size 9 _ _ (.slice O x.opt.length o) hP1
  have hQ2 := (heap_setCell_other w1 ⟨w.heap.size, 9, none⟩ (w.heap.size + 1) (.slice O x.opt.length o) (by show w.heap.size + 1 ≠ w.heap.size; omega)).trans hQ1
  have hR2 := (heap_setCell_other w1 ⟨w.heap.size, 9, none⟩ (w.heap.size + 2) (.slice O x.opt.length o) (by show w.heap.size + 2 ≠ w.heap.size; omega)).trans hR1
  have b2 := (hB.trans (x1.mono hB.size)).setCell (p := ⟨w.heap.size, 9, none⟩) (Nat.le_refl _) (.slice O x.opt.length o)
  have s2 : (w1.setCell ⟨w.heap.size, 9, none⟩ (.slice O x.opt.length o)).heap.size = w1.heap.size := by simp
  clear hP0 hQ0 hR0 hP1 hQ1 hR1 k9 k91 f9 own1 grow1 owm1 hO1 m1
  generalize w1.setCell ⟨w.heap.size, 9, none⟩ (.slice O x.opt.length o) = V at *
  have k4 := (At4.of_heap hP2).proto
  have kq5 := (At4.of_heap hQ2).src
  have kq6 := (At4.of_heap hQ2).dst
  have kq10 := (At4.of_heap hQ2).dat
  have hD2 := hD.below (b2.mono hB0)
  go_upto_region 4 with (first
    | (go_at_call 62; refine (rIparse q.dat A' c' V B hD2 (Nat.le_trans hB0 b2.size) (by omega)).mono ?_; rintro e w2 ⟨P, p, rfl, m2⟩; rw [← HU.out] at m2; rw [← HU.out])
    | ((with_reducible show wpList _ _ _ (Oper.mk _ (Op.store 93 _ _) _ _ _ _ :: _) _ _); refine is_store_new (cs := isa u P p) rfl rfl rfl rfl (is_one _ _ _ ) ?_))
  have x2 := m2.below
  have j2 : Below w2.heap.size w2 (w2.alloc (.cells (isa u P p) 93)) := (Below.refl _ w2).alloc (Nat.le_refl _) _
  have x2j := x2.trans (j2.mono x2.size)
  have hP3 := (x2j.block w.heap.size (heap_lt hP2)).trans hP2
  have hR3 := (x2j.block (w.heap.size + 2) (heap_lt hR2)).trans hR2
  have b3 := b2.trans (x2j.mono b2.size)
  have oO3 := own_below oO x2j
  have hI3 := World.alloc_heap_new w2 (.cells (isa u P p) 93)
  have z2 := x2.size
  have zV := heap_lt hR2
  have zI : w2.heap.size < (w2.alloc (.cells (isa u P p) 93)).heap.size := by simp
  have am2 := (made_arg m2).below j2
  generalize w2.alloc (.cells (isa u P p) 93) = Y at *
  clear hP2 hQ2 hR2 k4 kq5 kq6 kq10
  have hI4 := hI3
  have hP4 := hP3
  have hR4 := hR3
  have b4 := b3
  have oO4 := oO3
  have s4 : Y.heap.size = Y.heap.size := rfl
  have k5 := (At4.of_heap hP4).src
  have k6 := (At4.of_heap hP4).dst
  have at4 := Atis.of_heap hI4
  have HX := Lib.hid (show max n (-1) = n by omega)
  go_upto_region 19 with (first
    | ((with_reducible show wpList _ _ _ (Oper.mk _ (Op.load 93 _) _ _ _ _ :: _) _ _); refine wpList_val rfl (run_load_is rfl rfl at4 rfl) ?_)
    | (go_at_call 66; rw [HX.out]; refine (rIwith u P p n Y w2.heap.size am2 (by omega) (by omega)).mono ?_; rintro e w4 ⟨P4, p4, rfl, m4⟩; have x4 := m4.below; have a4 := made_arg m4; have hP4' := (x4.block w.heap.size (heap_lt hP4)).trans hP4; have hR4' := (x4.block (w.heap.size + 2) (heap_lt hR4)).trans hR4; have b4' := b4.trans (x4.mono b4.size); have oO4' := own_below oO4 x4; have zx4 := x4.size)
    | (go_at_call 65; refine (rIbuild (wdI u n) P4 p4 w4 w4.heap.size a4 (Nat.le_refl _) (by show u.dat.length ≤ _; omega)).mono ?_; rintro e w5 ⟨v5, rfl, _, m5⟩; have m5 := m5 HC.out; rw [← HR.out] at m5; obtain ⟨D, e5, rfl, g5, o5, y5⟩ := made_shape m5; have x5 := m5.below; have hP5 := (x5.block w.heap.size (heap_lt hP4')).trans hP4'; have hR5 := (x5.block (w.heap.size + 2) (heap_lt hR4')).trans hR4'; have k105 := (At4.of_heap hP5).dat; have f10 := heap_frozen hP5 10))
  have zx5 := x5.size
  have oO5 := own_below oO4' x5
  have b5 := b4'.trans (x5.mono b4'.size)
  have hP6 : (w5.setCell ⟨w.heap.size, 10, none⟩ (.slice D R.length e5)).heap[w.heap.size]? = some (.cells (v4a (datP x R) O o D e5) 24 (0, 0)) := heap_setCell_same w5 w.heap.size 10 _ _ (.slice D R.length e5) hP5
  have hR6 := (heap_setCell_other w5 ⟨w.heap.size, 10, none⟩ (w.heap.size + 2) (.slice D R.length e5) (by show w.heap.size + 2 ≠ w.heap.size; omega)).trans hR5
  have b6 := b5.setCell (p := ⟨w.heap.size, 10, none⟩) (Nat.le_refl _) (.slice D R.length e5)
  have oD6 := own_setCell (made_own m5) (p := ⟨w.heap.size, 10, none⟩) (u := .slice D R.length e5) (by show w.heap.size < _; omega)
  have oO6 := own_setCell oO5 (p := ⟨w.heap.size, 10, none⟩) (u := .slice D R.length e5) (by show w.heap.size < _; omega)
  have at6 := At4.of_heap hP6
  clear hP4 hR4 hP5 hR5 k105 f10 k5 k6 at4 oO4 oO5 g5 o5 y5
  generalize w5.setCell ⟨w.heap.size, 10, none⟩ (.slice D R.length e5) = T at *
  go_wp2_with (first
    | ((with_reducible show wpList _ _ _ (Oper.mk _ (Op.load 24 _) _ _ _ _ :: _) _ _); refine wpList_val rfl (run_load_v4 rfl rfl at6 rfl) ?_)
    | ((with_reducible show wpList _ _ _ (Oper.mk _ (Op.store 24 _ _) _ _ _ _ :: _) _ _); refine v4_store (g := w.heap.size + 2) (cs := v4a (datP x R) O o D e5) rfl rfl hR6 rfl rfl (v4a_one _ _ _ _ _) ?_))
  have oO7 := own_setRow oO6 (g := w.heap.size + 2) (cs := v4a (datP x R) O o D e5) (by omega)
  have oD7 := own_setRow oD6 (g := w.heap.size + 2) (cs := v4a (datP x R) O o D e5) (by omega)
  have b7 := below_row b6 (g := w.heap.size + 2) (cs := v4a (datP x R) O o D e5) (by omega)
  exact bodyPost_ret (results_cell_row rfl _ _ (w.heap.size + 2) 24 (v4a (datP x R) O o D e5) (0, 0) _ rfl (setRow_heap _ _ _ _ _ _ hR6) Tryz.underlying24 rfl (by kernel_rfl)) rfl ⟨O, o, D, e5, rfl, Made.of_own (own_base oO7 (by omega)) b7, Made.of_own (own_base oD7 (by omega)) b7⟩
set_option maxRecDepth 100000 in
set_option maxHeartbeats 1000000 in
theorem r11built1D (ho : x.opt.length ≤ 1000000) (hl : q.dat.length ≤ 900000) (B : Nat) (hO : Arg w B X d x.opt) (hD : Arg w B A' c' q.dat) (hB0 : B ≤ w.heap.size) (n : Int) (hn : 0 ≤ n) (hk : x.proto = 1) (hu0 : (inI q).dat.length ≤ 900000) (hc : chkI (wdI (inI q) n) = 0) : Calls Tryz.prog 39 #[v4v x X d X' d', v4v q A c A' c', .int .i64 (-1), .int .i64 n] w fun e w' =>
    ∃ P p P' p', e = .returned (v4v (datP x (bldI [] (wdI (inI q) n))) P p P' p') ∧ Made w w' (.slice P x.opt.length p) x.opt ∧ Made w w' (.slice P' (bldI [] (wdI (inI q) n)).length p') (bldI [] (wdI (inI q) n)) := by
  have hB : Below w.heap.size w (((w.alloc (.cells (v4a x X d X' d') 24)).alloc (.cells (v4a q A c A' c') 24)).alloc (.cells (v4a p4z none 0 none 0) 24)) := (below_two w _ _).alloc (by simp; omega) _
  have hP0 : (((w.alloc (.cells (v4a x X d X' d') 24)).alloc (.cells (v4a q A c A' c') 24)).alloc (.cells (v4a p4z none 0 none 0) 24)).heap[w.heap.size]? = some (.cells (v4a x X d X' d') 24 (0, 0)) := (Below.heap_alloc ((w.alloc (.cells (v4a x X d X' d') 24)).alloc (.cells (v4a q A c A' c') 24)) _ w.heap.size (by simp; omega)).trans ((Below.heap_alloc (w.alloc (.cells (v4a x X d X' d') 24)) _ w.heap.size (by simp)).trans (World.alloc_heap_new w _))
  have hQ0 : (((w.alloc (.cells (v4a x X d X' d') 24)).alloc (.cells (v4a q A c A' c') 24)).alloc (.cells (v4a p4z none 0 none 0) 24)).heap[w.heap.size + 1]? = some (.cells (v4a q A c A' c') 24 (0, 0)) := by
    refine (Below.heap_alloc ((w.alloc (.cells (v4a x X d X' d') 24)).alloc (.cells (v4a q A c A' c') 24)) _ (w.heap.size + 1) (by simp)).trans ?_
    have := World.alloc_heap_new (w.alloc (.cells (v4a x X d X' d') 24)) (.cells (v4a q A c A' c') 24)
    rwa [World.size_alloc] at this
  have hR0 : (((w.alloc (.cells (v4a x X d X' d') 24)).alloc (.cells (v4a q A c A' c') 24)).alloc (.cells (v4a p4z none 0 none 0) 24)).heap[w.heap.size + 2]? = some (.cells (v4a p4z none 0 none 0) 24 (0, 0)) := by
    have := World.alloc_heap_new ((w.alloc (.cells (v4a x X d X' d') 24)).alloc (.cells (v4a q A c A' c') 24)) (.cells (v4a p4z none 0 none 0) 24)
    rwa [World.size_alloc, World.size_alloc] at this
  have hs3 : (((w.alloc (.cells (v4a x X d X' d') 24)).alloc (.cells (v4a q A c A' c') 24)).alloc (.cells (v4a p4z none 0 none 0) 24)).heap.size = w.heap.size + 3 := by simp
  rw [v4q_eq, v4q_eq]
  obtain ⟨u, hu⟩ : ∃ y, y = inI q := ⟨_, rfl⟩
  rw [← hu] at hc hu0 ⊢
  have HU := Lib.hid (show u = prsI [] q.dat from hu)
  have HC := Lib.hid hc
  obtain ⟨R, hR⟩ : ∃ l, l = bldI [] (wdI u n) := ⟨_, rfl⟩
  have HR := Lib.hid hR
  rw [← hR]
  have d17 : (x.proto == 17) = false := by simp; omega
  have d6 : (x.proto == 6) = false := by simp; omega
  have dn : decide (0 ≤ n) = true := by simpa using hn
  clear hk hc hu hR
  go_enter Tryz.func39, Tryz.ntmps39
  go_upto_region 1 with fail
  rw [show #[.int .i64 0, .int .i64 0, .int .i64 0, .int .i64 0, .int .i64 0, .int .i64 0, .int .i64 0, .bool false, .bool false, .slice none 0 0, .slice none 0 0] = v4a p4z none 0 none 0 from rfl]
  generalize ((w.alloc (.cells (v4a x X d X' d') 24)).alloc (.cells (v4a q A c A' c') 24)).alloc (.cells (v4a p4z none 0 none 0) 24) = W at *
  have hO1 := hO.below (hB.mono hB0)
  have hD1 := hD.below (hB.mono hB0)
  have zW := Nat.le_trans hB0 hB.size
  have k9 := (At4.of_heap hP0).opt
  go_upto_region 2 with ((at_builtin; refine append_rd rfl _ _ rfl W.heap.size (.slice none 0 0) 0 [] rfl (World.ownsRow_nil _ _ _ _) B X d x.opt rfl hO1.none_ hO1.rd (by omega) (Nat.le_refl _) ?_; intro v1 w1 own1 grow1; obtain ⟨O, o, rfl, owm1⟩ := own_made (bs := x.opt) own1 (by simp) (by simp); have m1 := Made.of_own owm1 ((Below.refl W.heap.size W).grown grow1 (Nat.le_refl _) (fun k hk => by cases hk))); have x1 := m1.below; have hP1 := (x1.block w.heap.size (heap_lt hP0)).trans hP0; have hQ1 := (x1.block (w.heap.size + 1) (heap_lt hQ0)).trans hQ0; have hR1 := (x1.block (w.heap.size + 2) (heap_lt hR0)).trans hR0; have k91 := (At4.of_heap hP1).opt; have f9 := heap_frozen hP1 9)
  have oO := own_setCell (made_own m1) (p := ⟨w.heap.size, 9, none⟩) (u := .slice O x.opt.length o) (by show w.heap.size < _; omega)
  have zx1 := x1.size
  have hP2 : (w1.setCell ⟨w.heap.size, 9, none⟩ (.slice O x.opt.length o)).heap[w.heap.size]? = some (.cells (v4a x O o X' d') 24 (0, 0)) := heap_setCell_same w1 w.heap.size 9 _ _ (.slice O x.opt.length o) hP1
  have hQ2 := (heap_setCell_other w1 ⟨w.heap.size, 9, none⟩ (w.heap.size + 1) (.slice O x.opt.length o) (by show w.heap.size + 1 ≠ w.heap.size; omega)).trans hQ1
  have hR2 := (heap_setCell_other w1 ⟨w.heap.size, 9, none⟩ (w.heap.size + 2) (.slice O x.opt.length o) (by show w.heap.size + 2 ≠ w.heap.size; omega)).trans hR1
  have b2 := (hB.trans (x1.mono hB.size)).setCell (p := ⟨w.heap.size, 9, none⟩) (Nat.le_refl _) (.slice O x.opt.length o)
  have s2 : (w1.setCell ⟨w.heap.size, 9, none⟩ (.slice O x.opt.length o)).heap.size = w1.heap.size := by simp
  clear hP0 hQ0 hR0 hP1 hQ1 hR1 k9 k91 f9 own1 grow1 owm1 hO1 m1
  generalize w1.setCell ⟨w.heap.size, 9, none⟩ (.slice O x.opt.length o) = V at *
  have k4 := (At4.of_heap hP2).proto
  have kq5 := (At4.of_heap hQ2).src
  have kq6 := (At4.of_heap hQ2).dst
  have kq10 := (At4.of_heap hQ2).dat
  have hD2 := hD.below (b2.mono hB0)
  go_upto_region 4 with (first
    | (go_at_call 62; refine (rIparse q.dat A' c' V B hD2 (Nat.le_trans hB0 b2.size) (by omega)).mono ?_; rintro e w2 ⟨P, p, rfl, m2⟩; rw [← HU.out] at m2; rw [← HU.out])
    | ((with_reducible show wpList _ _ _ (Oper.mk _ (Op.store 93 _ _) _ _ _ _ :: _) _ _); refine is_store_new (cs := isa u P p) rfl rfl rfl rfl (is_one _ _ _ ) ?_))
  have x2 := m2.below
  have j2 : Below w2.heap.size w2 (w2.alloc (.cells (isa u P p) 93)) := (Below.refl _ w2).alloc (Nat.le_refl _) _
  have x2j := x2.trans (j2.mono x2.size)
  have hP3 := (x2j.block w.heap.size (heap_lt hP2)).trans hP2
  have hR3 := (x2j.block (w.heap.size + 2) (heap_lt hR2)).trans hR2
  have b3 := b2.trans (x2j.mono b2.size)
  have oO3 := own_below oO x2j
  have hI3 := World.alloc_heap_new w2 (.cells (isa u P p) 93)
  have z2 := x2.size
  have zV := heap_lt hR2
  have zI : w2.heap.size < (w2.alloc (.cells (isa u P p) 93)).heap.size := by simp
  have am2 := (made_arg m2).below j2
  generalize w2.alloc (.cells (isa u P p) 93) = Y at *
  clear hP2 hQ2 hR2 k4 kq5 kq6 kq10
  have hI4 := hI3
  have hP4 := hP3
  have hR4 := hR3
  have b4 := b3
  have oO4 := oO3
  have s4 : Y.heap.size = Y.heap.size := rfl
  have k5 := (At4.of_heap hP4).src
  have k6 := (At4.of_heap hP4).dst
  have at4 := Atis.of_heap hI4
  have HX := Lib.hid (show max (-1) n = n by omega)
  go_upto_region 19 with (first
    | ((with_reducible show wpList _ _ _ (Oper.mk _ (Op.load 93 _) _ _ _ _ :: _) _ _); refine wpList_val rfl (run_load_is rfl rfl at4 rfl) ?_)
    | (go_at_call 66; rw [HX.out]; refine (rIwith u P p n Y w2.heap.size am2 (by omega) (by omega)).mono ?_; rintro e w4 ⟨P4, p4, rfl, m4⟩; have x4 := m4.below; have a4 := made_arg m4; have hP4' := (x4.block w.heap.size (heap_lt hP4)).trans hP4; have hR4' := (x4.block (w.heap.size + 2) (heap_lt hR4)).trans hR4; have b4' := b4.trans (x4.mono b4.size); have oO4' := own_below oO4 x4; have zx4 := x4.size)
    | (go_at_call 65; refine (rIbuild (wdI u n) P4 p4 w4 w4.heap.size a4 (Nat.le_refl _) (by show u.dat.length ≤ _; omega)).mono ?_; rintro e w5 ⟨v5, rfl, _, m5⟩; have m5 := m5 HC.out; rw [← HR.out] at m5; obtain ⟨D, e5, rfl, g5, o5, y5⟩ := made_shape m5; have x5 := m5.below; have hP5 := (x5.block w.heap.size (heap_lt hP4')).trans hP4'; have hR5 := (x5.block (w.heap.size + 2) (heap_lt hR4')).trans hR4'; have k105 := (At4.of_heap hP5).dat; have f10 := heap_frozen hP5 10))
  have zx5 := x5.size
  have oO5 := own_below oO4' x5
  have b5 := b4'.trans (x5.mono b4'.size)
  have hP6 : (w5.setCell ⟨w.heap.size, 10, none⟩ (.slice D R.length e5)).heap[w.heap.size]? = some (.cells (v4a (datP x R) O o D e5) 24 (0, 0)) := heap_setCell_same w5 w.heap.size 10 _ _ (.slice D R.length e5) hP5
  have hR6 := (heap_setCell_other w5 ⟨w.heap.size, 10, none⟩ (w.heap.size + 2) (.slice D R.length e5) (by show w.heap.size + 2 ≠ w.heap.size; omega)).trans hR5
  have b6 := b5.setCell (p := ⟨w.heap.size, 10, none⟩) (Nat.le_refl _) (.slice D R.length e5)
  have oD6 := own_setCell (made_own m5) (p := ⟨w.heap.size, 10, none⟩) (u := .slice D R.length e5) (by show w.heap.size < _; omega)
  have oO6 := own_setCell oO5 (p := ⟨w.heap.size, 10, none⟩) (u := .slice D R.length e5) (by show w.heap.size < _; omega)
  have at6 := At4.of_heap hP6
  clear hP4 hR4 hP5 hR5 k105 f10 k5 k6 at4 oO4 oO5 g5 o5 y5
  generalize w5.setCell ⟨w.heap.size, 10, none⟩ (.slice D R.length e5) = T at *
  go_wp2_with (first
    | ((with_reducible show wpList _ _ _ (Oper.mk _ (Op.load 24 _) _ _ _ _ :: _) _ _); refine wpList_val rfl (run_load_v4 rfl rfl at6 rfl) ?_)
    | ((with_reducible show wpList _ _ _ (Oper.mk _ (Op.store 24 _ _) _ _ _ _ :: _) _ _); refine v4_store (g := w.heap.size + 2) (cs := v4a (datP x R) O o D e5) rfl rfl hR6 rfl rfl (v4a_one _ _ _ _ _) ?_))
  have oO7 := own_setRow oO6 (g := w.heap.size + 2) (cs := v4a (datP x R) O o D e5) (by omega)
  have oD7 := own_setRow oD6 (g := w.heap.size + 2) (cs := v4a (datP x R) O o D e5) (by omega)
  have b7 := below_row b6 (g := w.heap.size + 2) (cs := v4a (datP x R) O o D e5) (by omega)
  exact bodyPost_ret (results_cell_row rfl _ _ (w.heap.size + 2) 24 (v4a (datP x R) O o D e5) (0, 0) _ rfl (setRow_heap _ _ _ _ _ _ hR6) Tryz.underlying24 rfl (by kernel_rfl)) rfl ⟨O, o, D, e5, rfl, Made.of_own (own_base oO7 (by omega)) b7, Made.of_own (own_base oD7 (by omega)) b7⟩
end
end Go.Proofs.YtodlfdnegcfhcaaGreat

/-
  Packets built anew as the document has them: its function built. Conditions are each theorem's own.
-/
namespace Go.Proofs.YtodlfdnegcfhcaaGreat
open Go.RowKit

section
variable (x q : P4) (X : Option Addr) (d : Nat) (X' : Option Addr) (d' : Nat) (A : Option Addr) (c : Nat) (A' : Option Addr) (c' : Nat) (w : World)
set_option maxRecDepth 100000 in
set_option maxHeartbeats 4000000 in
theorem r11built17S (ho : x.opt.length ≤ 1000000) (hl : q.dat.length ≤ 900000) (B : Nat) (hO : Arg w B X d x.opt) (hD : Arg w B A' c' q.dat) (hB0 : B ≤ w.heap.size) (n : Int) (hn : 0 ≤ n) (hk : x.proto = 17) (hu0 : (inU q).dat.length ≤ 900000) (hc : chkU (srcU (inU q) n) = 0) : Calls Tryz.prog 39 #[v4v x X d X' d', v4v q A c A' c', .int .i64 n, .int .i64 (-1)] w fun e w' =>
    ∃ P p P' p', e = .returned (v4v (datP x (bldU x.src x.dst (srcU (inU q) n))) P p P' p') ∧ Made w w' (.slice P x.opt.length p) x.opt ∧ Made w w' (.slice P' (bldU x.src x.dst (srcU (inU q) n)).length p') (bldU x.src x.dst (srcU (inU q) n)) := by
  have hB : Below w.heap.size w (((w.alloc (.cells (v4a x X d X' d') 24)).alloc (.cells (v4a q A c A' c') 24)).alloc (.cells (v4a p4z none 0 none 0) 24)) := (below_two w _ _).alloc (by simp; omega) _
  have hP0 : (((w.alloc (.cells (v4a x X d X' d') 24)).alloc (.cells (v4a q A c A' c') 24)).alloc (.cells (v4a p4z none 0 none 0) 24)).heap[w.heap.size]? = some (.cells (v4a x X d X' d') 24 (0, 0)) := (Below.heap_alloc ((w.alloc (.cells (v4a x X d X' d') 24)).alloc (.cells (v4a q A c A' c') 24)) _ w.heap.size (by simp; omega)).trans ((Below.heap_alloc (w.alloc (.cells (v4a x X d X' d') 24)) _ w.heap.size (by simp)).trans (World.alloc_heap_new w _))
  have hQ0 : (((w.alloc (.cells (v4a x X d X' d') 24)).alloc (.cells (v4a q A c A' c') 24)).alloc (.cells (v4a p4z none 0 none 0) 24)).heap[w.heap.size + 1]? = some (.cells (v4a q A c A' c') 24 (0, 0)) := by
    refine (Below.heap_alloc ((w.alloc (.cells (v4a x X d X' d') 24)).alloc (.cells (v4a q A c A' c') 24)) _ (w.heap.size + 1) (by simp)).trans ?_
    have := World.alloc_heap_new (w.alloc (.cells (v4a x X d X' d') 24)) (.cells (v4a q A c A' c') 24)
    rwa [World.size_alloc] at this
  have hR0 : (((w.alloc (.cells (v4a x X d X' d') 24)).alloc (.cells (v4a q A c A' c') 24)).alloc (.cells (v4a p4z none 0 none 0) 24)).heap[w.heap.size + 2]? = some (.cells (v4a p4z none 0 none 0) 24 (0, 0)) := by
    have := World.alloc_heap_new ((w.alloc (.cells (v4a x X d X' d') 24)).alloc (.cells (v4a q A c A' c') 24)) (.cells (v4a p4z none 0 none 0) 24)
    rwa [World.size_alloc, World.size_alloc] at this
  have hs3 : (((w.alloc (.cells (v4a x X d X' d') 24)).alloc (.cells (v4a q A c A' c') 24)).alloc (.cells (v4a p4z none 0 none 0) 24)).heap.size = w.heap.size + 3 := by simp
  rw [v4q_eq, v4q_eq]
  obtain ⟨u, hu⟩ : ∃ y, y = inU q := ⟨_, rfl⟩
  rw [← hu] at hc hu0 ⊢
  have HU := Lib.hid (show u = prsU q.src q.dst q.dat from hu)
  have HC := Lib.hid hc
  obtain ⟨R, hR⟩ : ∃ l, l = bldU x.src x.dst (srcU u n) := ⟨_, rfl⟩
  have HR := Lib.hid hR
  rw [← hR]
  have d17 : (x.proto == 17) = true := by simpa using hk
  have dn : decide (0 ≤ n) = true := by simpa using hn
  clear hk hc hu hR
  go_enter Tryz.func39, Tryz.ntmps39
  go_upto_region 1 with fail
  rw [show #[.int .i64 0, .int .i64 0, .int .i64 0, .int .i64 0, .int .i64 0, .int .i64 0, .int .i64 0, .bool false, .bool false, .slice none 0 0, .slice none 0 0] = v4a p4z none 0 none 0 from rfl]
  generalize ((w.alloc (.cells (v4a x X d X' d') 24)).alloc (.cells (v4a q A c A' c') 24)).alloc (.cells (v4a p4z none 0 none 0) 24) = W at *
  have hO1 := hO.below (hB.mono hB0)
  have hD1 := hD.below (hB.mono hB0)
  have zW := Nat.le_trans hB0 hB.size
  have k9 := (At4.of_heap hP0).opt
  go_upto_region 2 with ((at_builtin; refine append_rd rfl _ _ rfl W.heap.size (.slice none 0 0) 0 [] rfl (World.ownsRow_nil _ _ _ _) B X d x.opt rfl hO1.none_ hO1.rd (by omega) (Nat.le_refl _) ?_; intro v1 w1 own1 grow1; obtain ⟨O, o, rfl, owm1⟩ := own_made (bs := x.opt) own1 (by simp) (by simp); have m1 := Made.of_own owm1 ((Below.refl W.heap.size W).grown grow1 (Nat.le_refl _) (fun k hk => by cases hk))); have x1 := m1.below; have hP1 := (x1.block w.heap.size (heap_lt hP0)).trans hP0; have hQ1 := (x1.block (w.heap.size + 1) (heap_lt hQ0)).trans hQ0; have hR1 := (x1.block (w.heap.size + 2) (heap_lt hR0)).trans hR0; have k91 := (At4.of_heap hP1).opt; have f9 := heap_frozen hP1 9)
  have oO := own_setCell (made_own m1) (p := ⟨w.heap.size, 9, none⟩) (u := .slice O x.opt.length o) (by show w.heap.size < _; omega)
  have zx1 := x1.size
  have hP2 : (w1.setCell ⟨w.heap.size, 9, none⟩ (.slice O x.opt.length o)).heap[w.heap.size]? = some (.cells (v4a x O o X' d') 24 (0, 0)) := heap_setCell_same w1 w.heap.size 9 _ _ (.slice O x.opt.length o) hP1
  have hQ2 := (heap_setCell_other w1 ⟨w.heap.size, 9, none⟩ (w.heap.size + 1) (.slice O x.opt.length o) (by show w.heap.size + 1 ≠ w.heap.size; omega)).trans hQ1
  have hR2 := (heap_setCell_other w1 ⟨w.heap.size, 9, none⟩ (w.heap.size + 2) (.slice O x.opt.length o) (by show w.heap.size + 2 ≠ w.heap.size; omega)).trans hR1
  have b2 := (hB.trans (x1.mono hB.size)).setCell (p := ⟨w.heap.size, 9, none⟩) (Nat.le_refl _) (.slice O x.opt.length o)
  have s2 : (w1.setCell ⟨w.heap.size, 9, none⟩ (.slice O x.opt.length o)).heap.size = w1.heap.size := by simp
  clear hP0 hQ0 hR0 hP1 hQ1 hR1 k9 k91 f9 own1 grow1 owm1 hO1 m1
  generalize w1.setCell ⟨w.heap.size, 9, none⟩ (.slice O x.opt.length o) = V at *
  have k4 := (At4.of_heap hP2).proto
  have kq5 := (At4.of_heap hQ2).src
  have kq6 := (At4.of_heap hQ2).dst
  have kq10 := (At4.of_heap hQ2).dat
  have hD2 := hD.below (b2.mono hB0)
  go_upto_region 7 with (first
    | (go_at_call 33; refine (rUparse q.dat A' c' q.src q.dst V B hD2 (Nat.le_trans hB0 b2.size) (by omega)).mono ?_; rintro e w2 ⟨P, p, rfl, m2⟩; rw [← HU.out] at m2; rw [← HU.out])
    | ((with_reducible show wpList _ _ _ (Oper.mk _ (Op.store 57 _ _) _ _ _ _ :: _) _ _); refine us_store_new (cs := usa u P p) rfl rfl rfl rfl (us_one _ _ _ ) ?_))
  have x2 := m2.below
  have j2 : Below w2.heap.size w2 (w2.alloc (.cells (usa u P p) 57)) := (Below.refl _ w2).alloc (Nat.le_refl _) _
  have x2j := x2.trans (j2.mono x2.size)
  have hP3 := (x2j.block w.heap.size (heap_lt hP2)).trans hP2
  have hR3 := (x2j.block (w.heap.size + 2) (heap_lt hR2)).trans hR2
  have b3 := b2.trans (x2j.mono b2.size)
  have oO3 := own_below oO x2j
  have hI3 := World.alloc_heap_new w2 (.cells (usa u P p) 57)
  have z2 := x2.size
  have zV := heap_lt hR2
  have zI : w2.heap.size < (w2.alloc (.cells (usa u P p) 57)).heap.size := by simp
  have am2 := (made_arg m2).below j2
  generalize w2.alloc (.cells (usa u P p) 57) = Y at *
  clear hP2 hQ2 hR2 k4 kq5 kq6 kq10
  have kp := (Atus.of_heap hI3).src
  have fp := heap_frozen hI3 0
  go_upto_region 9 with fail
  have hI4 : (Y.setCell ⟨w2.heap.size, 0, none⟩ (.int .i64 n)).heap[w2.heap.size]? = some (.cells (usa (srcU u n) P p) 57 (0, 0)) := heap_setCell_same Y w2.heap.size 0 _ _ (.int .i64 n) hI3
  have hP4 := (heap_setCell_other Y ⟨w2.heap.size, 0, none⟩ w.heap.size (.int .i64 n) (by show w.heap.size ≠ w2.heap.size; omega)).trans hP3
  have hR4 := (heap_setCell_other Y ⟨w2.heap.size, 0, none⟩ (w.heap.size + 2) (.int .i64 n) (by show w.heap.size + 2 ≠ w2.heap.size; omega)).trans hR3
  have b4 := b3.setCell (p := ⟨w2.heap.size, 0, none⟩) (by show w.heap.size ≤ w2.heap.size; omega) (.int .i64 n)
  have s4 : (Y.setCell ⟨w2.heap.size, 0, none⟩ (.int .i64 n)).heap.size = Y.heap.size := by simp
  have xV : Below w2.heap.size Y (Y.setCell ⟨w2.heap.size, 0, none⟩ (.int .i64 n)) := (Below.refl w2.heap.size Y).setCell (p := ⟨w2.heap.size, 0, none⟩) (Nat.le_refl _) (.int .i64 n)
  have oO4 := own_below oO (x2j.setCell (p := ⟨w2.heap.size, 0, none⟩) z2 (.int .i64 n))
  have cm2 := am2.below xV
  clear hI3 hP3 hR3 kp fp oO3 oO x2j xV
  generalize Y.setCell ⟨w2.heap.size, 0, none⟩ (.int .i64 n) = Z at *
  have k5 := (At4.of_heap hP4).src
  have k6 := (At4.of_heap hP4).dst
  have at4 := Atus.of_heap hI4
  go_upto_region 19 with (first
    | ((with_reducible show wpList _ _ _ (Oper.mk _ (Op.load 57 _) _ _ _ _ :: _) _ _); refine wpList_val rfl (run_load_us rfl rfl at4 rfl) ?_)
    | (go_at_call 50; refine (rUbuild (srcU u n) P p x.src x.dst Z w2.heap.size cm2 (by omega) (by show u.dat.length ≤ _; omega)).mono ?_; rintro e w5 ⟨v5, rfl, _, m5⟩; have m5 := m5 HC.out; rw [← HR.out] at m5; obtain ⟨D, e5, rfl, g5, o5, y5⟩ := made_shape m5; have x5 := m5.below; have hP5 := (x5.block w.heap.size (heap_lt hP4)).trans hP4; have hR5 := (x5.block (w.heap.size + 2) (heap_lt hR4)).trans hR4; have k105 := (At4.of_heap hP5).dat; have f10 := heap_frozen hP5 10))
  have zx5 := x5.size
  have oO5 := own_below oO4 x5
  have b5 := b4.trans (x5.mono b4.size)
  have hP6 : (w5.setCell ⟨w.heap.size, 10, none⟩ (.slice D R.length e5)).heap[w.heap.size]? = some (.cells (v4a (datP x R) O o D e5) 24 (0, 0)) := heap_setCell_same w5 w.heap.size 10 _ _ (.slice D R.length e5) hP5
  have hR6 := (heap_setCell_other w5 ⟨w.heap.size, 10, none⟩ (w.heap.size + 2) (.slice D R.length e5) (by show w.heap.size + 2 ≠ w.heap.size; omega)).trans hR5
  have b6 := b5.setCell (p := ⟨w.heap.size, 10, none⟩) (Nat.le_refl _) (.slice D R.length e5)
  have oD6 := own_setCell (made_own m5) (p := ⟨w.heap.size, 10, none⟩) (u := .slice D R.length e5) (by show w.heap.size < _; omega)
  have oO6 := own_setCell oO5 (p := ⟨w.heap.size, 10, none⟩) (u := .slice D R.length e5) (by show w.heap.size < _; omega)
  have at6 := At4.of_heap hP6
  clear hP4 hR4 hP5 hR5 k105 f10 k5 k6 at4 oO4 oO5 g5 o5 y5
  generalize w5.setCell ⟨w.heap.size, 10, none⟩ (.slice D R.length e5) = T at *
  go_wp2_with (first
    | ((with_reducible show wpList _ _ _ (Oper.mk _ (Op.load 24 _) _ _ _ _ :: _) _ _); refine wpList_val rfl (run_load_v4 rfl rfl at6 rfl) ?_)
    | ((with_reducible show wpList _ _ _ (Oper.mk _ (Op.store 24 _ _) _ _ _ _ :: _) _ _); refine v4_store (g := w.heap.size + 2) (cs := v4a (datP x R) O o D e5) rfl rfl hR6 rfl rfl (v4a_one _ _ _ _ _) ?_))
  have oO7 := own_setRow oO6 (g := w.heap.size + 2) (cs := v4a (datP x R) O o D e5) (by omega)
  have oD7 := own_setRow oD6 (g := w.heap.size + 2) (cs := v4a (datP x R) O o D e5) (by omega)
  have b7 := below_row b6 (g := w.heap.size + 2) (cs := v4a (datP x R) O o D e5) (by omega)
  exact bodyPost_ret (results_cell_row rfl _ _ (w.heap.size + 2) 24 (v4a (datP x R) O o D e5) (0, 0) _ rfl (setRow_heap _ _ _ _ _ _ hR6) Tryz.underlying24 rfl (by kernel_rfl)) rfl ⟨O, o, D, e5, rfl, Made.of_own (own_base oO7 (by omega)) b7, Made.of_own (own_base oD7 (by omega)) b7⟩
set_option maxRecDepth 100000 in
set_option maxHeartbeats 4000000 in
theorem r11built17D (ho : x.opt.length ≤ 1000000) (hl : q.dat.length ≤ 900000) (B : Nat) (hO : Arg w B X d x.opt) (hD : Arg w B A' c' q.dat) (hB0 : B ≤ w.heap.size) (n : Int) (hn : 0 ≤ n) (hk : x.proto = 17) (hu0 : (inU q).dat.length ≤ 900000) (hc : chkU (dstU (inU q) n) = 0) : Calls Tryz.prog 39 #[v4v x X d X' d', v4v q A c A' c', .int .i64 (-1), .int .i64 n] w fun e w' =>
    ∃ P p P' p', e = .returned (v4v (datP x (bldU x.src x.dst (dstU (inU q) n))) P p P' p') ∧ Made w w' (.slice P x.opt.length p) x.opt ∧ Made w w' (.slice P' (bldU x.src x.dst (dstU (inU q) n)).length p') (bldU x.src x.dst (dstU (inU q) n)) := by
  have hB : Below w.heap.size w (((w.alloc (.cells (v4a x X d X' d') 24)).alloc (.cells (v4a q A c A' c') 24)).alloc (.cells (v4a p4z none 0 none 0) 24)) := (below_two w _ _).alloc (by simp; omega) _
  have hP0 : (((w.alloc (.cells (v4a x X d X' d') 24)).alloc (.cells (v4a q A c A' c') 24)).alloc (.cells (v4a p4z none 0 none 0) 24)).heap[w.heap.size]? = some (.cells (v4a x X d X' d') 24 (0, 0)) := (Below.heap_alloc ((w.alloc (.cells (v4a x X d X' d') 24)).alloc (.cells (v4a q A c A' c') 24)) _ w.heap.size (by simp; omega)).trans ((Below.heap_alloc (w.alloc (.cells (v4a x X d X' d') 24)) _ w.heap.size (by simp)).trans (World.alloc_heap_new w _))
  have hQ0 : (((w.alloc (.cells (v4a x X d X' d') 24)).alloc (.cells (v4a q A c A' c') 24)).alloc (.cells (v4a p4z none 0 none 0) 24)).heap[w.heap.size + 1]? = some (.cells (v4a q A c A' c') 24 (0, 0)) := by
    refine (Below.heap_alloc ((w.alloc (.cells (v4a x X d X' d') 24)).alloc (.cells (v4a q A c A' c') 24)) _ (w.heap.size + 1) (by simp)).trans ?_
    have := World.alloc_heap_new (w.alloc (.cells (v4a x X d X' d') 24)) (.cells (v4a q A c A' c') 24)
    rwa [World.size_alloc] at this
  have hR0 : (((w.alloc (.cells (v4a x X d X' d') 24)).alloc (.cells (v4a q A c A' c') 24)).alloc (.cells (v4a p4z none 0 none 0) 24)).heap[w.heap.size + 2]? = some (.cells (v4a p4z none 0 none 0) 24 (0, 0)) := by
    have := World.alloc_heap_new ((w.alloc (.cells (v4a x X d X' d') 24)).alloc (.cells (v4a q A c A' c') 24)) (.cells (v4a p4z none 0 none 0) 24)
    rwa [World.size_alloc, World.size_alloc] at this
  have hs3 : (((w.alloc (.cells (v4a x X d X' d') 24)).alloc (.cells (v4a q A c A' c') 24)).alloc (.cells (v4a p4z none 0 none 0) 24)).heap.size = w.heap.size + 3 := by simp
  rw [v4q_eq, v4q_eq]
  obtain ⟨u, hu⟩ : ∃ y, y = inU q := ⟨_, rfl⟩
  rw [← hu] at hc hu0 ⊢
  have HU := Lib.hid (show u = prsU q.src q.dst q.dat from hu)
  have HC := Lib.hid hc
  obtain ⟨R, hR⟩ : ∃ l, l = bldU x.src x.dst (dstU u n) := ⟨_, rfl⟩
  have HR := Lib.hid hR
  rw [← hR]
  have d17 : (x.proto == 17) = true := by simpa using hk
  have dn : decide (0 ≤ n) = true := by simpa using hn
  clear hk hc hu hR
  go_enter Tryz.func39, Tryz.ntmps39
  go_upto_region 1 with fail
  rw [show #[.int .i64 0, .int .i64 0, .int .i64 0, .int .i64 0, .int .i64 0, .int .i64 0, .int .i64 0, .bool false, .bool false, .slice none 0 0, .slice none 0 0] = v4a p4z none 0 none 0 from rfl]
  generalize ((w.alloc (.cells (v4a x X d X' d') 24)).alloc (.cells (v4a q A c A' c') 24)).alloc (.cells (v4a p4z none 0 none 0) 24) = W at *
  have hO1 := hO.below (hB.mono hB0)
  have hD1 := hD.below (hB.mono hB0)
  have zW := Nat.le_trans hB0 hB.size
  have k9 := (At4.of_heap hP0).opt
  go_upto_region 2 with ((at_builtin; refine append_rd rfl _ _ rfl W.heap.size (.slice none 0 0) 0 [] rfl (World.ownsRow_nil _ _ _ _) B X d x.opt rfl hO1.none_ hO1.rd (by omega) (Nat.le_refl _) ?_; intro v1 w1 own1 grow1; obtain ⟨O, o, rfl, owm1⟩ := own_made (bs := x.opt) own1 (by simp) (by simp); have m1 := Made.of_own owm1 ((Below.refl W.heap.size W).grown grow1 (Nat.le_refl _) (fun k hk => by cases hk))); have x1 := m1.below; have hP1 := (x1.block w.heap.size (heap_lt hP0)).trans hP0; have hQ1 := (x1.block (w.heap.size + 1) (heap_lt hQ0)).trans hQ0; have hR1 := (x1.block (w.heap.size + 2) (heap_lt hR0)).trans hR0; have k91 := (At4.of_heap hP1).opt; have f9 := heap_frozen hP1 9)
  have oO := own_setCell (made_own m1) (p := ⟨w.heap.size, 9, none⟩) (u := .slice O x.opt.length o) (by show w.heap.size < _; omega)
  have zx1 := x1.size
  have hP2 : (w1.setCell ⟨w.heap.size, 9, none⟩ (.slice O x.opt.length o)).heap[w.heap.size]? = some (.cells (v4a x O o X' d') 24 (0, 0)) := heap_setCell_same w1 w.heap.size 9 _ _ (.slice O x.opt.length o) hP1
  have hQ2 := (heap_setCell_other w1 ⟨w.heap.size, 9, none⟩ (w.heap.size + 1) (.slice O x.opt.length o) (by show w.heap.size + 1 ≠ w.heap.size; omega)).trans hQ1
  have hR2 := (heap_setCell_other w1 ⟨w.heap.size, 9, none⟩ (w.heap.size + 2) (.slice O x.opt.length o) (by show w.heap.size + 2 ≠ w.heap.size; omega)).trans hR1
  have b2 := (hB.trans (x1.mono hB.size)).setCell (p := ⟨w.heap.size, 9, none⟩) (Nat.le_refl _) (.slice O x.opt.length o)
  have s2 : (w1.setCell ⟨w.heap.size, 9, none⟩ (.slice O x.opt.length o)).heap.size = w1.heap.size := by simp
  clear hP0 hQ0 hR0 hP1 hQ1 hR1 k9 k91 f9 own1 grow1 owm1 hO1 m1
  generalize w1.setCell ⟨w.heap.size, 9, none⟩ (.slice O x.opt.length o) = V at *
  have k4 := (At4.of_heap hP2).proto
  have kq5 := (At4.of_heap hQ2).src
  have kq6 := (At4.of_heap hQ2).dst
  have kq10 := (At4.of_heap hQ2).dat
  have hD2 := hD.below (b2.mono hB0)
  go_upto_region 7 with (first
    | (go_at_call 33; refine (rUparse q.dat A' c' q.src q.dst V B hD2 (Nat.le_trans hB0 b2.size) (by omega)).mono ?_; rintro e w2 ⟨P, p, rfl, m2⟩; rw [← HU.out] at m2; rw [← HU.out])
    | ((with_reducible show wpList _ _ _ (Oper.mk _ (Op.store 57 _ _) _ _ _ _ :: _) _ _); refine us_store_new (cs := usa u P p) rfl rfl rfl rfl (us_one _ _ _ ) ?_))
  have x2 := m2.below
  have j2 : Below w2.heap.size w2 (w2.alloc (.cells (usa u P p) 57)) := (Below.refl _ w2).alloc (Nat.le_refl _) _
  have x2j := x2.trans (j2.mono x2.size)
  have hP3 := (x2j.block w.heap.size (heap_lt hP2)).trans hP2
  have hR3 := (x2j.block (w.heap.size + 2) (heap_lt hR2)).trans hR2
  have b3 := b2.trans (x2j.mono b2.size)
  have oO3 := own_below oO x2j
  have hI3 := World.alloc_heap_new w2 (.cells (usa u P p) 57)
  have z2 := x2.size
  have zV := heap_lt hR2
  have zI : w2.heap.size < (w2.alloc (.cells (usa u P p) 57)).heap.size := by simp
  have am2 := (made_arg m2).below j2
  generalize w2.alloc (.cells (usa u P p) 57) = Y at *
  clear hP2 hQ2 hR2 k4 kq5 kq6 kq10
  have kp := (Atus.of_heap hI3).dst
  have fp := heap_frozen hI3 1
  go_upto_region 11 with fail
  have hI4 : (Y.setCell ⟨w2.heap.size, 1, none⟩ (.int .i64 n)).heap[w2.heap.size]? = some (.cells (usa (dstU u n) P p) 57 (0, 0)) := heap_setCell_same Y w2.heap.size 1 _ _ (.int .i64 n) hI3
  have hP4 := (heap_setCell_other Y ⟨w2.heap.size, 1, none⟩ w.heap.size (.int .i64 n) (by show w.heap.size ≠ w2.heap.size; omega)).trans hP3
  have hR4 := (heap_setCell_other Y ⟨w2.heap.size, 1, none⟩ (w.heap.size + 2) (.int .i64 n) (by show w.heap.size + 2 ≠ w2.heap.size; omega)).trans hR3
  have b4 := b3.setCell (p := ⟨w2.heap.size, 1, none⟩) (by show w.heap.size ≤ w2.heap.size; omega) (.int .i64 n)
  have s4 : (Y.setCell ⟨w2.heap.size, 1, none⟩ (.int .i64 n)).heap.size = Y.heap.size := by simp
  have xV : Below w2.heap.size Y (Y.setCell ⟨w2.heap.size, 1, none⟩ (.int .i64 n)) := (Below.refl w2.heap.size Y).setCell (p := ⟨w2.heap.size, 1, none⟩) (Nat.le_refl _) (.int .i64 n)
  have oO4 := own_below oO (x2j.setCell (p := ⟨w2.heap.size, 1, none⟩) z2 (.int .i64 n))
  have cm2 := am2.below xV
  clear hI3 hP3 hR3 kp fp oO3 oO x2j xV
  generalize Y.setCell ⟨w2.heap.size, 1, none⟩ (.int .i64 n) = Z at *
  have k5 := (At4.of_heap hP4).src
  have k6 := (At4.of_heap hP4).dst
  have at4 := Atus.of_heap hI4
  go_upto_region 19 with (first
    | ((with_reducible show wpList _ _ _ (Oper.mk _ (Op.load 57 _) _ _ _ _ :: _) _ _); refine wpList_val rfl (run_load_us rfl rfl at4 rfl) ?_)
    | (go_at_call 50; refine (rUbuild (dstU u n) P p x.src x.dst Z w2.heap.size cm2 (by omega) (by show u.dat.length ≤ _; omega)).mono ?_; rintro e w5 ⟨v5, rfl, _, m5⟩; have m5 := m5 HC.out; rw [← HR.out] at m5; obtain ⟨D, e5, rfl, g5, o5, y5⟩ := made_shape m5; have x5 := m5.below; have hP5 := (x5.block w.heap.size (heap_lt hP4)).trans hP4; have hR5 := (x5.block (w.heap.size + 2) (heap_lt hR4)).trans hR4; have k105 := (At4.of_heap hP5).dat; have f10 := heap_frozen hP5 10))
  have zx5 := x5.size
  have oO5 := own_below oO4 x5
  have b5 := b4.trans (x5.mono b4.size)
  have hP6 : (w5.setCell ⟨w.heap.size, 10, none⟩ (.slice D R.length e5)).heap[w.heap.size]? = some (.cells (v4a (datP x R) O o D e5) 24 (0, 0)) := heap_setCell_same w5 w.heap.size 10 _ _ (.slice D R.length e5) hP5
  have hR6 := (heap_setCell_other w5 ⟨w.heap.size, 10, none⟩ (w.heap.size + 2) (.slice D R.length e5) (by show w.heap.size + 2 ≠ w.heap.size; omega)).trans hR5
  have b6 := b5.setCell (p := ⟨w.heap.size, 10, none⟩) (Nat.le_refl _) (.slice D R.length e5)
  have oD6 := own_setCell (made_own m5) (p := ⟨w.heap.size, 10, none⟩) (u := .slice D R.length e5) (by show w.heap.size < _; omega)
  have oO6 := own_setCell oO5 (p := ⟨w.heap.size, 10, none⟩) (u := .slice D R.length e5) (by show w.heap.size < _; omega)
  have at6 := At4.of_heap hP6
  clear hP4 hR4 hP5 hR5 k105 f10 k5 k6 at4 oO4 oO5 g5 o5 y5
  generalize w5.setCell ⟨w.heap.size, 10, none⟩ (.slice D R.length e5) = T at *
  go_wp2_with (first
    | ((with_reducible show wpList _ _ _ (Oper.mk _ (Op.load 24 _) _ _ _ _ :: _) _ _); refine wpList_val rfl (run_load_v4 rfl rfl at6 rfl) ?_)
    | ((with_reducible show wpList _ _ _ (Oper.mk _ (Op.store 24 _ _) _ _ _ _ :: _) _ _); refine v4_store (g := w.heap.size + 2) (cs := v4a (datP x R) O o D e5) rfl rfl hR6 rfl rfl (v4a_one _ _ _ _ _) ?_))
  have oO7 := own_setRow oO6 (g := w.heap.size + 2) (cs := v4a (datP x R) O o D e5) (by omega)
  have oD7 := own_setRow oD6 (g := w.heap.size + 2) (cs := v4a (datP x R) O o D e5) (by omega)
  have b7 := below_row b6 (g := w.heap.size + 2) (cs := v4a (datP x R) O o D e5) (by omega)
  exact bodyPost_ret (results_cell_row rfl _ _ (w.heap.size + 2) 24 (v4a (datP x R) O o D e5) (0, 0) _ rfl (setRow_heap _ _ _ _ _ _ hR6) Tryz.underlying24 rfl (by kernel_rfl)) rfl ⟨O, o, D, e5, rfl, Made.of_own (own_base oO7 (by omega)) b7, Made.of_own (own_base oD7 (by omega)) b7⟩
set_option maxRecDepth 100000 in
set_option maxHeartbeats 4000000 in
theorem r11built6S (ho : x.opt.length ≤ 1000000) (hl : q.dat.length ≤ 900000) (B : Nat) (hO : Arg w B X d x.opt) (hD : Arg w B A' c' q.dat) (hB0 : B ≤ w.heap.size) (n : Int) (hn : 0 ≤ n) (hk : x.proto = 6) (hu0 : (inT q).dat.length ≤ 900000) (hv0 : (inT q).opt.length ≤ 900000) (hc : chkT (srcT (inT q) n) = 0) : Calls Tryz.prog 39 #[v4v x X d X' d', v4v q A c A' c', .int .i64 n, .int .i64 (-1)] w fun e w' =>
    ∃ P p P' p', e = .returned (v4v (datP x (bldT x.src x.dst (srcT (inT q) n))) P p P' p') ∧ Made w w' (.slice P x.opt.length p) x.opt ∧ Made w w' (.slice P' (bldT x.src x.dst (srcT (inT q) n)).length p') (bldT x.src x.dst (srcT (inT q) n)) := by
  have hB : Below w.heap.size w (((w.alloc (.cells (v4a x X d X' d') 24)).alloc (.cells (v4a q A c A' c') 24)).alloc (.cells (v4a p4z none 0 none 0) 24)) := (below_two w _ _).alloc (by simp; omega) _
  have hP0 : (((w.alloc (.cells (v4a x X d X' d') 24)).alloc (.cells (v4a q A c A' c') 24)).alloc (.cells (v4a p4z none 0 none 0) 24)).heap[w.heap.size]? = some (.cells (v4a x X d X' d') 24 (0, 0)) := (Below.heap_alloc ((w.alloc (.cells (v4a x X d X' d') 24)).alloc (.cells (v4a q A c A' c') 24)) _ w.heap.size (by simp; omega)).trans ((Below.heap_alloc (w.alloc (.cells (v4a x X d X' d') 24)) _ w.heap.size (by simp)).trans (World.alloc_heap_new w _))
  have hQ0 : (((w.alloc (.cells (v4a x X d X' d') 24)).alloc (.cells (v4a q A c A' c') 24)).alloc (.cells (v4a p4z none 0 none 0) 24)).heap[w.heap.size + 1]? = some (.cells (v4a q A c A' c') 24 (0, 0)) := by
    refine (Below.heap_alloc ((w.alloc (.cells (v4a x X d X' d') 24)).alloc (.cells (v4a q A c A' c') 24)) _ (w.heap.size + 1) (by simp)).trans ?_
    have := World.alloc_heap_new (w.alloc (.cells (v4a x X d X' d') 24)) (.cells (v4a q A c A' c') 24)
    rwa [World.size_alloc] at this
  have hR0 : (((w.alloc (.cells (v4a x X d X' d') 24)).alloc (.cells (v4a q A c A' c') 24)).alloc (.cells (v4a p4z none 0 none 0) 24)).heap[w.heap.size + 2]? = some (.cells (v4a p4z none 0 none 0) 24 (0, 0)) := by
    have := World.alloc_heap_new ((w.alloc (.cells (v4a x X d X' d') 24)).alloc (.cells (v4a q A c A' c') 24)) (.cells (v4a p4z none 0 none 0) 24)
    rwa [World.size_alloc, World.size_alloc] at this
  have hs3 : (((w.alloc (.cells (v4a x X d X' d') 24)).alloc (.cells (v4a q A c A' c') 24)).alloc (.cells (v4a p4z none 0 none 0) 24)).heap.size = w.heap.size + 3 := by simp
  rw [v4q_eq, v4q_eq]
  obtain ⟨u, hu⟩ : ∃ y, y = inT q := ⟨_, rfl⟩
  rw [← hu] at hc hu0 hv0 ⊢
  have HU := Lib.hid (show u = prsT q.src q.dst q.dat from hu)
  have HC := Lib.hid hc
  obtain ⟨R, hR⟩ : ∃ l, l = bldT x.src x.dst (srcT u n) := ⟨_, rfl⟩
  have HR := Lib.hid hR
  rw [← hR]
  have d17 : (x.proto == 17) = false := by simp; omega
  have d6 : (x.proto == 6) = true := by simpa using hk
  have dn : decide (0 ≤ n) = true := by simpa using hn
  clear hk hc hu hR
  go_enter Tryz.func39, Tryz.ntmps39
  go_upto_region 1 with fail
  rw [show #[.int .i64 0, .int .i64 0, .int .i64 0, .int .i64 0, .int .i64 0, .int .i64 0, .int .i64 0, .bool false, .bool false, .slice none 0 0, .slice none 0 0] = v4a p4z none 0 none 0 from rfl]
  generalize ((w.alloc (.cells (v4a x X d X' d') 24)).alloc (.cells (v4a q A c A' c') 24)).alloc (.cells (v4a p4z none 0 none 0) 24) = W at *
  have hO1 := hO.below (hB.mono hB0)
  have hD1 := hD.below (hB.mono hB0)
  have zW := Nat.le_trans hB0 hB.size
  have k9 := (At4.of_heap hP0).opt
  go_upto_region 2 with ((at_builtin; refine append_rd rfl _ _ rfl W.heap.size (.slice none 0 0) 0 [] rfl (World.ownsRow_nil _ _ _ _) B X d x.opt rfl hO1.none_ hO1.rd (by omega) (Nat.le_refl _) ?_; intro v1 w1 own1 grow1; obtain ⟨O, o, rfl, owm1⟩ := own_made (bs := x.opt) own1 (by simp) (by simp); have m1 := Made.of_own owm1 ((Below.refl W.heap.size W).grown grow1 (Nat.le_refl _) (fun k hk => by cases hk))); have x1 := m1.below; have hP1 := (x1.block w.heap.size (heap_lt hP0)).trans hP0; have hQ1 := (x1.block (w.heap.size + 1) (heap_lt hQ0)).trans hQ0; have hR1 := (x1.block (w.heap.size + 2) (heap_lt hR0)).trans hR0; have k91 := (At4.of_heap hP1).opt; have f9 := heap_frozen hP1 9)
  have oO := own_setCell (made_own m1) (p := ⟨w.heap.size, 9, none⟩) (u := .slice O x.opt.length o) (by show w.heap.size < _; omega)
  have zx1 := x1.size
  have hP2 : (w1.setCell ⟨w.heap.size, 9, none⟩ (.slice O x.opt.length o)).heap[w.heap.size]? = some (.cells (v4a x O o X' d') 24 (0, 0)) := heap_setCell_same w1 w.heap.size 9 _ _ (.slice O x.opt.length o) hP1
  have hQ2 := (heap_setCell_other w1 ⟨w.heap.size, 9, none⟩ (w.heap.size + 1) (.slice O x.opt.length o) (by show w.heap.size + 1 ≠ w.heap.size; omega)).trans hQ1
  have hR2 := (heap_setCell_other w1 ⟨w.heap.size, 9, none⟩ (w.heap.size + 2) (.slice O x.opt.length o) (by show w.heap.size + 2 ≠ w.heap.size; omega)).trans hR1
  have b2 := (hB.trans (x1.mono hB.size)).setCell (p := ⟨w.heap.size, 9, none⟩) (Nat.le_refl _) (.slice O x.opt.length o)
  have s2 : (w1.setCell ⟨w.heap.size, 9, none⟩ (.slice O x.opt.length o)).heap.size = w1.heap.size := by simp
  clear hP0 hQ0 hR0 hP1 hQ1 hR1 k9 k91 f9 own1 grow1 owm1 hO1 m1
  generalize w1.setCell ⟨w.heap.size, 9, none⟩ (.slice O x.opt.length o) = V at *
  have k4 := (At4.of_heap hP2).proto
  have kq5 := (At4.of_heap hQ2).src
  have kq6 := (At4.of_heap hQ2).dst
  have kq10 := (At4.of_heap hQ2).dat
  have hD2 := hD.below (b2.mono hB0)
  go_upto_region 14 with (first
    | (go_at_call 34; refine (rTparse q.dat A' c' q.src q.dst V B hD2 (Nat.le_trans hB0 b2.size) (by omega)).mono ?_; rintro e w2 ⟨P, p, P', p', rfl, m2, m2b⟩; rw [← HU.out] at m2 m2b; rw [← HU.out])
    | ((with_reducible show wpList _ _ _ (Oper.mk _ (Op.store 41 _ _) _ _ _ _ :: _) _ _); refine ts_store_new (cs := tsa u P p P' p') rfl rfl rfl rfl (ts_one _ _ _ _ _ ) ?_))
  have x2 := m2.below
  have j2 : Below w2.heap.size w2 (w2.alloc (.cells (tsa u P p P' p') 41)) := (Below.refl _ w2).alloc (Nat.le_refl _) _
  have x2j := x2.trans (j2.mono x2.size)
  have hP3 := (x2j.block w.heap.size (heap_lt hP2)).trans hP2
  have hR3 := (x2j.block (w.heap.size + 2) (heap_lt hR2)).trans hR2
  have b3 := b2.trans (x2j.mono b2.size)
  have oO3 := own_below oO x2j
  have hI3 := World.alloc_heap_new w2 (.cells (tsa u P p P' p') 41)
  have z2 := x2.size
  have zV := heap_lt hR2
  have zI : w2.heap.size < (w2.alloc (.cells (tsa u P p P' p') 41)).heap.size := by simp
  have am2 := (made_arg m2).below j2
  have am2b := (made_arg m2b).below j2
  generalize w2.alloc (.cells (tsa u P p P' p') 41) = Y at *
  clear hP2 hQ2 hR2 k4 kq5 kq6 kq10
  have kp := (Atts.of_heap hI3).src
  have fp := heap_frozen hI3 0
  go_upto_region 16 with fail
  have hI4 : (Y.setCell ⟨w2.heap.size, 0, none⟩ (.int .i64 n)).heap[w2.heap.size]? = some (.cells (tsa (srcT u n) P p P' p') 41 (0, 0)) := heap_setCell_same Y w2.heap.size 0 _ _ (.int .i64 n) hI3
  have hP4 := (heap_setCell_other Y ⟨w2.heap.size, 0, none⟩ w.heap.size (.int .i64 n) (by show w.heap.size ≠ w2.heap.size; omega)).trans hP3
  have hR4 := (heap_setCell_other Y ⟨w2.heap.size, 0, none⟩ (w.heap.size + 2) (.int .i64 n) (by show w.heap.size + 2 ≠ w2.heap.size; omega)).trans hR3
  have b4 := b3.setCell (p := ⟨w2.heap.size, 0, none⟩) (by show w.heap.size ≤ w2.heap.size; omega) (.int .i64 n)
  have s4 : (Y.setCell ⟨w2.heap.size, 0, none⟩ (.int .i64 n)).heap.size = Y.heap.size := by simp
  have xV : Below w2.heap.size Y (Y.setCell ⟨w2.heap.size, 0, none⟩ (.int .i64 n)) := (Below.refl w2.heap.size Y).setCell (p := ⟨w2.heap.size, 0, none⟩) (Nat.le_refl _) (.int .i64 n)
  have oO4 := own_below oO (x2j.setCell (p := ⟨w2.heap.size, 0, none⟩) z2 (.int .i64 n))
  have cm2 := am2.below xV
  have cm2b := am2b.below xV
  clear hI3 hP3 hR3 kp fp oO3 oO x2j xV
  generalize Y.setCell ⟨w2.heap.size, 0, none⟩ (.int .i64 n) = Z at *
  have k5 := (At4.of_heap hP4).src
  have k6 := (At4.of_heap hP4).dst
  have at4 := Atts.of_heap hI4
  go_upto_region 19 with (first
    | ((with_reducible show wpList _ _ _ (Oper.mk _ (Op.load 41 _) _ _ _ _ :: _) _ _); refine wpList_val rfl (run_load_ts rfl rfl at4 rfl) ?_)
    | (go_at_call 49; refine (rTbuild (srcT u n) P p P' p' x.src x.dst Z w2.heap.size cm2 cm2b (by omega) (by show u.opt.length ≤ _; omega) (by show u.dat.length ≤ _; omega)).mono ?_; rintro e w5 ⟨v5, rfl, _, m5⟩; have m5 := m5 HC.out; rw [← HR.out] at m5; obtain ⟨D, e5, rfl, g5, o5, y5⟩ := made_shape m5; have x5 := m5.below; have hP5 := (x5.block w.heap.size (heap_lt hP4)).trans hP4; have hR5 := (x5.block (w.heap.size + 2) (heap_lt hR4)).trans hR4; have k105 := (At4.of_heap hP5).dat; have f10 := heap_frozen hP5 10))
  have zx5 := x5.size
  have oO5 := own_below oO4 x5
  have b5 := b4.trans (x5.mono b4.size)
  have hP6 : (w5.setCell ⟨w.heap.size, 10, none⟩ (.slice D R.length e5)).heap[w.heap.size]? = some (.cells (v4a (datP x R) O o D e5) 24 (0, 0)) := heap_setCell_same w5 w.heap.size 10 _ _ (.slice D R.length e5) hP5
  have hR6 := (heap_setCell_other w5 ⟨w.heap.size, 10, none⟩ (w.heap.size + 2) (.slice D R.length e5) (by show w.heap.size + 2 ≠ w.heap.size; omega)).trans hR5
  have b6 := b5.setCell (p := ⟨w.heap.size, 10, none⟩) (Nat.le_refl _) (.slice D R.length e5)
  have oD6 := own_setCell (made_own m5) (p := ⟨w.heap.size, 10, none⟩) (u := .slice D R.length e5) (by show w.heap.size < _; omega)
  have oO6 := own_setCell oO5 (p := ⟨w.heap.size, 10, none⟩) (u := .slice D R.length e5) (by show w.heap.size < _; omega)
  have at6 := At4.of_heap hP6
  clear hP4 hR4 hP5 hR5 k105 f10 k5 k6 at4 oO4 oO5 g5 o5 y5
  generalize w5.setCell ⟨w.heap.size, 10, none⟩ (.slice D R.length e5) = T at *
  go_wp2_with (first
    | ((with_reducible show wpList _ _ _ (Oper.mk _ (Op.load 24 _) _ _ _ _ :: _) _ _); refine wpList_val rfl (run_load_v4 rfl rfl at6 rfl) ?_)
    | ((with_reducible show wpList _ _ _ (Oper.mk _ (Op.store 24 _ _) _ _ _ _ :: _) _ _); refine v4_store (g := w.heap.size + 2) (cs := v4a (datP x R) O o D e5) rfl rfl hR6 rfl rfl (v4a_one _ _ _ _ _) ?_))
  have oO7 := own_setRow oO6 (g := w.heap.size + 2) (cs := v4a (datP x R) O o D e5) (by omega)
  have oD7 := own_setRow oD6 (g := w.heap.size + 2) (cs := v4a (datP x R) O o D e5) (by omega)
  have b7 := below_row b6 (g := w.heap.size + 2) (cs := v4a (datP x R) O o D e5) (by omega)
  exact bodyPost_ret (results_cell_row rfl _ _ (w.heap.size + 2) 24 (v4a (datP x R) O o D e5) (0, 0) _ rfl (setRow_heap _ _ _ _ _ _ hR6) Tryz.underlying24 rfl (by kernel_rfl)) rfl ⟨O, o, D, e5, rfl, Made.of_own (own_base oO7 (by omega)) b7, Made.of_own (own_base oD7 (by omega)) b7⟩
set_option maxRecDepth 100000 in
set_option maxHeartbeats 4000000 in
theorem r11built6D (ho : x.opt.length ≤ 1000000) (hl : q.dat.length ≤ 900000) (B : Nat) (hO : Arg w B X d x.opt) (hD : Arg w B A' c' q.dat) (hB0 : B ≤ w.heap.size) (n : Int) (hn : 0 ≤ n) (hk : x.proto = 6) (hu0 : (inT q).dat.length ≤ 900000) (hv0 : (inT q).opt.length ≤ 900000) (hc : chkT (dstT (inT q) n) = 0) : Calls Tryz.prog 39 #[v4v x X d X' d', v4v q A c A' c', .int .i64 (-1), .int .i64 n] w fun e w' =>
    ∃ P p P' p', e = .returned (v4v (datP x (bldT x.src x.dst (dstT (inT q) n))) P p P' p') ∧ Made w w' (.slice P x.opt.length p) x.opt ∧ Made w w' (.slice P' (bldT x.src x.dst (dstT (inT q) n)).length p') (bldT x.src x.dst (dstT (inT q) n)) := by
  have hB : Below w.heap.size w (((w.alloc (.cells (v4a x X d X' d') 24)).alloc (.cells (v4a q A c A' c') 24)).alloc (.cells (v4a p4z none 0 none 0) 24)) := (below_two w _ _).alloc (by simp; omega) _
  have hP0 : (((w.alloc (.cells (v4a x X d X' d') 24)).alloc (.cells (v4a q A c A' c') 24)).alloc (.cells (v4a p4z none 0 none 0) 24)).heap[w.heap.size]? = some (.cells (v4a x X d X' d') 24 (0, 0)) := (Below.heap_alloc ((w.alloc (.cells (v4a x X d X' d') 24)).alloc (.cells (v4a q A c A' c') 24)) _ w.heap.size (by simp; omega)).trans ((Below.heap_alloc (w.alloc (.cells (v4a x X d X' d') 24)) _ w.heap.size (by simp)).trans (World.alloc_heap_new w _))
  have hQ0 : (((w.alloc (.cells (v4a x X d X' d') 24)).alloc (.cells (v4a q A c A' c') 24)).alloc (.cells (v4a p4z none 0 none 0) 24)).heap[w.heap.size + 1]? = some (.cells (v4a q A c A' c') 24 (0, 0)) := by
    refine (Below.heap_alloc ((w.alloc (.cells (v4a x X d X' d') 24)).alloc (.cells (v4a q A c A' c') 24)) _ (w.heap.size + 1) (by simp)).trans ?_
    have := World.alloc_heap_new (w.alloc (.cells (v4a x X d X' d') 24)) (.cells (v4a q A c A' c') 24)
    rwa [World.size_alloc] at this
  have hR0 : (((w.alloc (.cells (v4a x X d X' d') 24)).alloc (.cells (v4a q A c A' c') 24)).alloc (.cells (v4a p4z none 0 none 0) 24)).heap[w.heap.size + 2]? = some (.cells (v4a p4z none 0 none 0) 24 (0, 0)) := by
    have := World.alloc_heap_new ((w.alloc (.cells (v4a x X d X' d') 24)).alloc (.cells (v4a q A c A' c') 24)) (.cells (v4a p4z none 0 none 0) 24)
    rwa [World.size_alloc, World.size_alloc] at this
  have hs3 : (((w.alloc (.cells (v4a x X d X' d') 24)).alloc (.cells (v4a q A c A' c') 24)).alloc (.cells (v4a p4z none 0 none 0) 24)).heap.size = w.heap.size + 3 := by simp
  rw [v4q_eq, v4q_eq]
  obtain ⟨u, hu⟩ : ∃ y, y = inT q := ⟨_, rfl⟩
  rw [← hu] at hc hu0 hv0 ⊢
  have HU := Lib.hid (show u = prsT q.src q.dst q.dat from hu)
  have HC := Lib.hid hc
  obtain ⟨R, hR⟩ : ∃ l, l = bldT x.src x.dst (dstT u n) := ⟨_, rfl⟩
  have HR := Lib.hid hR
  rw [← hR]
  have d17 : (x.proto == 17) = false := by simp; omega
  have d6 : (x.proto == 6) = true := by simpa using hk
  have dn : decide (0 ≤ n) = true := by simpa using hn
  clear hk hc hu hR
  go_enter Tryz.func39, Tryz.ntmps39
  go_upto_region 1 with fail
  rw [show #[.int .i64 0, .int .i64 0, .int .i64 0, .int .i64 0, .int .i64 0, .int .i64 0, .int .i64 0, .bool false, .bool false, .slice none 0 0, .slice none 0 0] = v4a p4z none 0 none 0 from rfl]
  generalize ((w.alloc (.cells (v4a x X d X' d') 24)).alloc (.cells (v4a q A c A' c') 24)).alloc (.cells (v4a p4z none 0 none 0) 24) = W at *
  have hO1 := hO.below (hB.mono hB0)
  have hD1 := hD.below (hB.mono hB0)
  have zW := Nat.le_trans hB0 hB.size
  have k9 := (At4.of_heap hP0).opt
  go_upto_region 2 with ((at_builtin; refine append_rd rfl _ _ rfl W.heap.size (.slice none 0 0) 0 [] rfl (World.ownsRow_nil _ _ _ _) B X d x.opt rfl hO1.none_ hO1.rd (by omega) (Nat.le_refl _) ?_; intro v1 w1 own1 grow1; obtain ⟨O, o, rfl, owm1⟩ := own_made (bs := x.opt) own1 (by simp) (by simp); have m1 := Made.of_own owm1 ((Below.refl W.heap.size W).grown grow1 (Nat.le_refl _) (fun k hk => by cases hk))); have x1 := m1.below; have hP1 := (x1.block w.heap.size (heap_lt hP0)).trans hP0; have hQ1 := (x1.block (w.heap.size + 1) (heap_lt hQ0)).trans hQ0; have hR1 := (x1.block (w.heap.size + 2) (heap_lt hR0)).trans hR0; have k91 := (At4.of_heap hP1).opt; have f9 := heap_frozen hP1 9)
  have oO := own_setCell (made_own m1) (p := ⟨w.heap.size, 9, none⟩) (u := .slice O x.opt.length o) (by show w.heap.size < _; omega)
  have zx1 := x1.size
  have hP2 : (w1.setCell ⟨w.heap.size, 9, none⟩ (.slice O x.opt.length o)).heap[w.heap.size]? = some (.cells (v4a x O o X' d') 24 (0, 0)) := heap_setCell_same w1 w.heap.size 9 _ _ (.slice O x.opt.length o) hP1
  have hQ2 := (heap_setCell_other w1 ⟨w.heap.size, 9, none⟩ (w.heap.size + 1) (.slice O x.opt.length o) (by show w.heap.size + 1 ≠ w.heap.size; omega)).trans hQ1
  have hR2 := (heap_setCell_other w1 ⟨w.heap.size, 9, none⟩ (w.heap.size + 2) (.slice O x.opt.length o) (by show w.heap.size + 2 ≠ w.heap.size; omega)).trans hR1
  have b2 := (hB.trans (x1.mono hB.size)).setCell (p := ⟨w.heap.size, 9, none⟩) (Nat.le_refl _) (.slice O x.opt.length o)
  have s2 : (w1.setCell ⟨w.heap.size, 9, none⟩ (.slice O x.opt.length o)).heap.size = w1.heap.size := by simp
  clear hP0 hQ0 hR0 hP1 hQ1 hR1 k9 k91 f9 own1 grow1 owm1 hO1 m1
  generalize w1.setCell ⟨w.heap.size, 9, none⟩ (.slice O x.opt.length o) = V at *
  have k4 := (At4.of_heap hP2).proto
  have kq5 := (At4.of_heap hQ2).src
  have kq6 := (At4.of_heap hQ2).dst
  have kq10 := (At4.of_heap hQ2).dat
  have hD2 := hD.below (b2.mono hB0)
  go_upto_region 14 with (first
    | (go_at_call 34; refine (rTparse q.dat A' c' q.src q.dst V B hD2 (Nat.le_trans hB0 b2.size) (by omega)).mono ?_; rintro e w2 ⟨P, p, P', p', rfl, m2, m2b⟩; rw [← HU.out] at m2 m2b; rw [← HU.out])
    | ((with_reducible show wpList _ _ _ (Oper.mk _ (Op.store 41 _ _) _ _ _ _ :: _) _ _); refine ts_store_new (cs := tsa u P p P' p') rfl rfl rfl rfl (ts_one _ _ _ _ _ ) ?_))
  have x2 := m2.below
  have j2 : Below w2.heap.size w2 (w2.alloc (.cells (tsa u P p P' p') 41)) := (Below.refl _ w2).alloc (Nat.le_refl _) _
  have x2j := x2.trans (j2.mono x2.size)
  have hP3 := (x2j.block w.heap.size (heap_lt hP2)).trans hP2
  have hR3 := (x2j.block (w.heap.size + 2) (heap_lt hR2)).trans hR2
  have b3 := b2.trans (x2j.mono b2.size)
  have oO3 := own_below oO x2j
  have hI3 := World.alloc_heap_new w2 (.cells (tsa u P p P' p') 41)
  have z2 := x2.size
  have zV := heap_lt hR2
  have zI : w2.heap.size < (w2.alloc (.cells (tsa u P p P' p') 41)).heap.size := by simp
  have am2 := (made_arg m2).below j2
  have am2b := (made_arg m2b).below j2
  generalize w2.alloc (.cells (tsa u P p P' p') 41) = Y at *
  clear hP2 hQ2 hR2 k4 kq5 kq6 kq10
  have kp := (Atts.of_heap hI3).dst
  have fp := heap_frozen hI3 1
  go_upto_region 18 with fail
  have hI4 : (Y.setCell ⟨w2.heap.size, 1, none⟩ (.int .i64 n)).heap[w2.heap.size]? = some (.cells (tsa (dstT u n) P p P' p') 41 (0, 0)) := heap_setCell_same Y w2.heap.size 1 _ _ (.int .i64 n) hI3
  have hP4 := (heap_setCell_other Y ⟨w2.heap.size, 1, none⟩ w.heap.size (.int .i64 n) (by show w.heap.size ≠ w2.heap.size; omega)).trans hP3
  have hR4 := (heap_setCell_other Y ⟨w2.heap.size, 1, none⟩ (w.heap.size + 2) (.int .i64 n) (by show w.heap.size + 2 ≠ w2.heap.size; omega)).trans hR3
  have b4 := b3.setCell (p := ⟨w2.heap.size, 1, none⟩) (by show w.heap.size ≤ w2.heap.size; omega) (.int .i64 n)
  have s4 : (Y.setCell ⟨w2.heap.size, 1, none⟩ (.int .i64 n)).heap.size = Y.heap.size := by simp
  have xV : Below w2.heap.size Y (Y.setCell ⟨w2.heap.size, 1, none⟩ (.int .i64 n)) := (Below.refl w2.heap.size Y).setCell (p := ⟨w2.heap.size, 1, none⟩) (Nat.le_refl _) (.int .i64 n)
  have oO4 := own_below oO (x2j.setCell (p := ⟨w2.heap.size, 1, none⟩) z2 (.int .i64 n))
  have cm2 := am2.below xV
  have cm2b := am2b.below xV
  clear hI3 hP3 hR3 kp fp oO3 oO x2j xV
  generalize Y.setCell ⟨w2.heap.size, 1, none⟩ (.int .i64 n) = Z at *
  have k5 := (At4.of_heap hP4).src
  have k6 := (At4.of_heap hP4).dst
  have at4 := Atts.of_heap hI4
  go_upto_region 19 with (first
    | ((with_reducible show wpList _ _ _ (Oper.mk _ (Op.load 41 _) _ _ _ _ :: _) _ _); refine wpList_val rfl (run_load_ts rfl rfl at4 rfl) ?_)
    | (go_at_call 49; refine (rTbuild (dstT u n) P p P' p' x.src x.dst Z w2.heap.size cm2 cm2b (by omega) (by show u.opt.length ≤ _; omega) (by show u.dat.length ≤ _; omega)).mono ?_; rintro e w5 ⟨v5, rfl, _, m5⟩; have m5 := m5 HC.out; rw [← HR.out] at m5; obtain ⟨D, e5, rfl, g5, o5, y5⟩ := made_shape m5; have x5 := m5.below; have hP5 := (x5.block w.heap.size (heap_lt hP4)).trans hP4; have hR5 := (x5.block (w.heap.size + 2) (heap_lt hR4)).trans hR4; have k105 := (At4.of_heap hP5).dat; have f10 := heap_frozen hP5 10))
  have zx5 := x5.size
  have oO5 := own_below oO4 x5
  have b5 := b4.trans (x5.mono b4.size)
  have hP6 : (w5.setCell ⟨w.heap.size, 10, none⟩ (.slice D R.length e5)).heap[w.heap.size]? = some (.cells (v4a (datP x R) O o D e5) 24 (0, 0)) := heap_setCell_same w5 w.heap.size 10 _ _ (.slice D R.length e5) hP5
  have hR6 := (heap_setCell_other w5 ⟨w.heap.size, 10, none⟩ (w.heap.size + 2) (.slice D R.length e5) (by show w.heap.size + 2 ≠ w.heap.size; omega)).trans hR5
  have b6 := b5.setCell (p := ⟨w.heap.size, 10, none⟩) (Nat.le_refl _) (.slice D R.length e5)
  have oD6 := own_setCell (made_own m5) (p := ⟨w.heap.size, 10, none⟩) (u := .slice D R.length e5) (by show w.heap.size < _; omega)
  have oO6 := own_setCell oO5 (p := ⟨w.heap.size, 10, none⟩) (u := .slice D R.length e5) (by show w.heap.size < _; omega)
  have at6 := At4.of_heap hP6
  clear hP4 hR4 hP5 hR5 k105 f10 k5 k6 at4 oO4 oO5 g5 o5 y5
  generalize w5.setCell ⟨w.heap.size, 10, none⟩ (.slice D R.length e5) = T at *
  go_wp2_with (first
    | ((with_reducible show wpList _ _ _ (Oper.mk _ (Op.load 24 _) _ _ _ _ :: _) _ _); refine wpList_val rfl (run_load_v4 rfl rfl at6 rfl) ?_)
    | ((with_reducible show wpList _ _ _ (Oper.mk _ (Op.store 24 _ _) _ _ _ _ :: _) _ _); refine v4_store (g := w.heap.size + 2) (cs := v4a (datP x R) O o D e5) rfl rfl hR6 rfl rfl (v4a_one _ _ _ _ _) ?_))
  have oO7 := own_setRow oO6 (g := w.heap.size + 2) (cs := v4a (datP x R) O o D e5) (by omega)
  have oD7 := own_setRow oD6 (g := w.heap.size + 2) (cs := v4a (datP x R) O o D e5) (by omega)
  have b7 := below_row b6 (g := w.heap.size + 2) (cs := v4a (datP x R) O o D e5) (by omega)
  exact bodyPost_ret (results_cell_row rfl _ _ (w.heap.size + 2) 24 (v4a (datP x R) O o D e5) (0, 0) _ rfl (setRow_heap _ _ _ _ _ _ hR6) Tryz.underlying24 rfl (by kernel_rfl)) rfl ⟨O, o, D, e5, rfl, Made.of_own (own_base oO7 (by omega)) b7, Made.of_own (own_base oD7 (by omega)) b7⟩
end
end Go.Proofs.YtodlfdnegcfhcaaGreat
