/-
  Contracts and lemmas on which the proofs of this seat stand (several texts in one). Conditions are each theorem's own.
-/
import Derived.Test.YtggcjjcgiphjeaaMb3

/-
  Contract of tcp.Parse. Conditions are each theorem's own.
-/
namespace Go.Proofs.Ytggcjjcgiphjeaa
open Go.RowKit

section
variable {o : Oper} {a : Act} {w : World} {K : Act → World → Prop} {Q : Exit → Act → World → Prop} {x y : Operand} {p : Addr} {v0 : Value}
theorem store_sl_wp {A : Option Addr} {n c : Nat} (ho : o.op = .store 22 x y) (hx : a.eval x = .pointer (some p)) (hy : a.eval y = .slice A n c) (hc : w.cell? p = some v0) (hf : w.frozen? p = false) (h : K (a.put o.dst undef) (w.setCell p (.slice A n c))) : o.wp Try.prog a w K Q := by
  unfold Oper.wp execOp
  simp only [ho, hx, hy]
  go_simp
  exact h
end
section
variable (b : List UInt8) (A : Option Addr) (c : Nat) (src dst : Int) (w : World)
set_option maxRecDepth 100000 in
set_option maxHeartbeats 4000000 in
theorem cTparse (B : Nat) (hR : Arg w B A c b) (hB : B ≤ w.heap.size) (hl : b.length ≤ 1000000) :
    Calls Try.prog 29 #[.int .i64 src, .int .i64 dst, .slice A b.length c] w fun e w' => ∃ P p P' p', e = .returned (.tuple #[tsv (prsT src dst b) P p P' p', .int .i64 (badT src dst b)]) ∧ Made w w' (.slice P (prsT src dst b).opt.length p) (prsT src dst b).opt ∧ Made w w' (.slice P' (prsT src dst b).dat.length p') (prsT src dst b).dat := by
  have hBW : Below w.heap.size w (w.alloc (.cells (tsa tsz none 0 none 0) 39)) := (Below.refl w.heap.size w).alloc (Nat.le_refl _) _
  have hg := World.alloc_heap_new w (.cells (tsa tsz none 0 none 0) 39)
  have hz : w.heap.size < (w.alloc (.cells (tsa tsz none 0 none 0) 39)).heap.size := by simp
  have hcap := hR.cap
  go_enter Try.func29, Try.ntmps29
  go_upto_region 1 with fail
  rw [show #[.int .i64 0, .int .i64 0, .int .i64 0, .int .i64 0, .int .i64 0, .int .i64 0, .int .i64 0, .int .i64 0, .slice none 0 0, .slice none 0 0] = tsa tsz none 0 none 0 from rfl]
  generalize w.alloc (.cells (tsa tsz none 0 none 0) 39) = W at *
  have hR1 := hR.below (hBW.mono hB)
  by_cases h20 : b.length < 20
  · have d20 : decide ((b.length : Int) < 20) = true := by simp; omega
    have HE := Lib.hid (show badT src dst b = 3 by rw [badT, if_pos h20])
    have HV := Lib.hid (show prsT src dst b = tsz by rw [prsT, HE.out]; rfl)
    go_wp2_with (first | ((with_reducible show wpList _ _ _ (Oper.mk _ (Op.store 39 _ _) _ _ _ _ :: _) _ _); refine ts_store (g := w.heap.size) (cs := tsa tsz none 0 none 0) rfl rfl hg rfl rfl (ts_one _ _ _ _ _) ?_))
    exact bodyPost_ret (res2 rfl rfl (ts_load_run (setRow_heap _ _ _ _ _ _ hg) rfl)) rfl ⟨none, 0, none, 0, by rw [HV.out, HE.out]; rfl, by rw [HV.out]; exact Made.nil _ _ (below_row hBW (Nat.le_refl _)), by rw [HV.out]; exact Made.nil _ _ (below_row hBW (Nat.le_refl _))⟩
  · have d20 : decide ((b.length : Int) < 20) = false := by simp; omega
    obtain ⟨X0, e0⟩ : ∃ n, n = n2 b 0 := ⟨_, rfl⟩
    obtain ⟨X2, e2⟩ : ∃ n, n = n2 b 2 := ⟨_, rfl⟩
    obtain ⟨X4, e4⟩ : ∃ n, n = n4 b 4 := ⟨_, rfl⟩
    obtain ⟨X8, e8⟩ : ∃ n, n = n4 b 8 := ⟨_, rfl⟩
    obtain ⟨X12, e12⟩ : ∃ n, n = byt b 12 := ⟨_, rfl⟩
    obtain ⟨X13, e13⟩ : ∃ n, n = byt b 13 := ⟨_, rfl⟩
    obtain ⟨X14, e14⟩ : ∃ n, n = n2 b 14 := ⟨_, rfl⟩
    obtain ⟨X18, e18⟩ : ∃ n, n = n2 b 18 := ⟨_, rfl⟩
    have l0 : 0 ≤ X12 ∧ X12 ≤ 255 := by rw [e12]; exact ⟨byt_lo b 12, byt_hi b 12⟩
    have l13 : 0 ≤ X13 ∧ X13 ≤ 255 := by rw [e13]; exact ⟨byt_lo b 13, byt_hi b 13⟩
    have hlx : hlT b = X12 / 16 * 4 := by rw [e12]; rfl
    obtain ⟨H, hH⟩ : ∃ n : Nat, (n : Int) = hlT b := ⟨(hlT b).toNat, by omega⟩
    clear hlx
    have HH12 := Lib.hid (show (H : Int) = X12 / 16 * 4 by rw [hH, e12]; rfl)
    obtain ⟨O, hOd⟩ : ∃ l, l = (b.take H).drop 20 := ⟨_, rfl⟩
    obtain ⟨D, hDd⟩ : ∃ l, l = b.drop H := ⟨_, rfl⟩
    have HRW := Lib.hid (show rawT b = ⟨X0, X2, X4, X8, X12 % 16, X13, X14, X18, O, D⟩ by rw [rawT, ← hH, Int.toNat_natCast, ← hOd, ← hDd, e0, e2, e4, e8, e12, e13, e14, e18])
    have HH := Lib.hid hH.symm
    have hHb : H ≤ 60 := by have := HH12.out; omega
    have HHD := Lib.hid (show headT b = ⟨X0, X2, X4, X8, X12 % 16, X13, X14, X18, [], []⟩ by rw [e0, e2, e4, e8, e12, e13, e14, e18]; rfl)
    clear e0 e2 e4 e8 e12 e13 e14 e18 hH
    go_upto_region 4 with (first
      | (go_at_call 56; refine (cTread b A c B _ hR1 (by omega) (by omega) hl).mono ?_; rintro e w1 ⟨rfl, x1⟩; rw [HHD.out, HH.out])
      | ((with_reducible show wpList _ _ _ (Oper.mk _ (Op.store _ _ _) _ _ _ _ :: _) _ _); refine ts_store_new (cs := tsa ⟨X0, X2, X4, X8, X12 % 16, X13, X14, X18, [], []⟩ none 0 none 0) rfl rfl rfl rfl (ts_one _ _ _ _ _) ?_))
    have hU0 := World.alloc_heap_new w1 (.cells (tsa ⟨X0, X2, X4, X8, X12 % 16, X13, X14, X18, [], []⟩ none 0 none 0) 39)
    have ja : Below w1.heap.size w1 (w1.alloc (.cells (tsa ⟨X0, X2, X4, X8, X12 % 16, X13, X14, X18, [], []⟩ none 0 none 0) 39)) := (Below.refl _ w1).alloc (Nat.le_refl _) _
    have hbV := (hBW.trans (x1.mono (by omega))).trans (ja.mono (by have := x1.size; omega))
    have hrV := (ja.block w.heap.size (by have := x1.size; omega)).trans ((x1.block w.heap.size hz).trans hg)
    have hRV := hR.below (hbV.mono hB)
    have hUw : w.heap.size < w1.heap.size := by have := x1.size; omega
    generalize w1.alloc (.cells (tsa ⟨X0, X2, X4, X8, X12 % 16, X13, X14, X18, [], []⟩ none 0 none 0) 39) = V at *
    obtain ⟨U, hUU⟩ : ∃ U, U = w1.heap.size := ⟨_, rfl⟩
    rw [← hUU] at hU0 hUw ⊢
    have hUlt0 := heap_lt hU0
    clear x1 ja hUU hg hR1 hBW hz
    by_cases s1 : H < 20
    · have d1 : decide ((H : Int) < 20) = true := by simp; omega
      have HE := Lib.hid (show badT src dst b = 4 by rw [badT, if_neg h20, if_pos (by rw [HH.out]; omega)])
      have HV := Lib.hid (show prsT src dst b = tsz by rw [prsT, HE.out]; rfl)
      go_wp2_with (first | ((with_reducible show wpList _ _ _ (Oper.mk _ (Op.store 39 _ _) _ _ _ _ :: _) _ _); refine ts_store (g := w.heap.size) (cs := tsa tsz none 0 none 0) rfl rfl hrV rfl rfl (ts_one _ _ _ _ _) ?_))
      exact bodyPost_ret (res2 rfl rfl (ts_load_run (setRow_heap _ _ _ _ _ _ hrV) rfl)) rfl ⟨none, 0, none, 0, by rw [HV.out, HE.out]; rfl, by rw [HV.out]; exact Made.nil _ _ (below_row hbV (Nat.le_refl _)), by rw [HV.out]; exact Made.nil _ _ (below_row hbV (Nat.le_refl _))⟩
    · have d1 : decide ((H : Int) < 20) = false := by simp; omega
      by_cases s2 : b.length < H
      · have d2 : decide ((b.length : Int) < (H : Int)) = true := by simp; omega
        have HE := Lib.hid (show badT src dst b = 3 by rw [badT, if_neg h20, if_neg (by rw [HH.out]; omega), if_pos (by rw [HH.out]; omega)])
        have HV := Lib.hid (show prsT src dst b = tsz by rw [prsT, HE.out]; rfl)
        go_wp2_with (first | ((with_reducible show wpList _ _ _ (Oper.mk _ (Op.store 39 _ _) _ _ _ _ :: _) _ _); refine ts_store (g := w.heap.size) (cs := tsa tsz none 0 none 0) rfl rfl hrV rfl rfl (ts_one _ _ _ _ _) ?_))
        exact bodyPost_ret (res2 rfl rfl (ts_load_run (setRow_heap _ _ _ _ _ _ hrV) rfl)) rfl ⟨none, 0, none, 0, by rw [HV.out, HE.out]; rfl, by rw [HV.out]; exact Made.nil _ _ (below_row hbV (Nat.le_refl _)), by rw [HV.out]; exact Made.nil _ _ (below_row hbV (Nat.le_refl _))⟩
      · have d2 : decide ((b.length : Int) < (H : Int)) = false := by simp; omega
        by_cases s3 : 65535 < b.length
        · have d3 : decide (65535 < (b.length : Int)) = true := by simp; omega
          have HE := Lib.hid (show badT src dst b = 6 by rw [badT, if_neg h20, if_neg (by rw [HH.out]; omega), if_neg (by rw [HH.out]; omega), if_pos (by omega)])
          have HV := Lib.hid (show prsT src dst b = tsz by rw [prsT, HE.out]; rfl)
          go_wp2_with (first | ((with_reducible show wpList _ _ _ (Oper.mk _ (Op.store 39 _ _) _ _ _ _ :: _) _ _); refine ts_store (g := w.heap.size) (cs := tsa tsz none 0 none 0) rfl rfl hrV rfl rfl (ts_one _ _ _ _ _) ?_))
          exact bodyPost_ret (res2 rfl rfl (ts_load_run (setRow_heap _ _ _ _ _ _ hrV) rfl)) rfl ⟨none, 0, none, 0, by rw [HV.out, HE.out]; rfl, by rw [HV.out]; exact Made.nil _ _ (below_row hbV (Nat.le_refl _)), by rw [HV.out]; exact Made.nil _ _ (below_row hbV (Nat.le_refl _))⟩
        · have d3 : decide (65535 < (b.length : Int)) = false := by simp; omega
          have HOl := Lib.hid (show O.length = H - 20 by rw [hOd]; simp; omega)
          have HDl := Lib.hid (show D.length = b.length - H by rw [hDd]; simp)
          have hO : Arg w B (cutA A c 20) (c - 20) O := by rw [hOd]; exact hR.cut 20 H (by omega)
          have hD : Arg w B (cutA A c H) (c - H) D := by rw [hDd]; exact hR.cut_lo H
          obtain ⟨N, hN⟩ : ∃ n, n = rightB [psd src dst 6 (b.length : Int), b] := ⟨_, rfl⟩
          have HN := Lib.hid hN
          have HBD := Lib.hid (show badT src dst b = if N = false then 5 else 0 by rw [badT, if_neg h20, if_neg (by rw [HH.out]; omega), if_neg (by rw [HH.out]; omega), if_neg (by omega), ← hN])
          clear hN hOd hDd
          cases N
          · have HE := Lib.hid (show badT src dst b = 5 by rw [HBD.out]; rfl)
            have HV := Lib.hid (show prsT src dst b = tsz by rw [prsT, HE.out]; rfl)
            go_wp2_with (first | ((with_reducible show wpList _ _ _ (Oper.mk _ (Op.store 39 _ _) _ _ _ _ :: _) _ _); refine ts_store (g := w.heap.size) (cs := tsa tsz none 0 none 0) rfl rfl hrq rfl rfl (ts_one _ _ _ _ _) ?_) | (go_at_call 18; refine (psd_any src dst 6 (b.length : Int) _).mono ?_; rintro e wp ⟨vp, rfl, mp⟩; obtain ⟨Ap, cp, rfl, gp, op, xp⟩ := made_shape mp) | (go_at_call 47; refine (right_two (some ⟨wp.heap.size, 0, none⟩) (psd src dst 6 (b.length : Int)) b 2 (wp.heap.size + 1) _ HN _ (Rd2.two rfl rfl (World.alloc_heap_new wp _) (Nat.lt_succ_self _) ((gp.alloc (Nat.le_refl _) _).more (Nat.le_succ _)) (((hRV.below (xp.mono (by omega))).alloc (by have := xp.size; omega) _).more (by have := xp.size; omega))) (by simp) (by rw [psd_len]; omega)).mono ?_; rintro e wq ⟨rfl, xq⟩; have xpq : Below V.heap.size V wq := (xp.alloc xp.size _).trans (xq.mono (by have := xp.size; simp; omega)); have hrq := (xpq.block w.heap.size (by omega)).trans hrV))
            exact bodyPost_ret (res2 rfl rfl (ts_load_run (setRow_heap _ _ _ _ _ _ hrq) rfl)) rfl ⟨none, 0, none, 0, by rw [HV.out, HE.out]; rfl, by rw [HV.out]; exact Made.nil _ _ (below_row (hbV.trans (xpq.mono (by omega))) (Nat.le_refl _)), by rw [HV.out]; exact Made.nil _ _ (below_row (hbV.trans (xpq.mono (by omega))) (Nat.le_refl _))⟩
          · have HE := Lib.hid (show badT src dst b = 0 by rw [HBD.out]; rfl)
            have HV := Lib.hid (show prsT src dst b = ⟨X0, X2, X4, X8, X12 % 16, X13, X14, X18, O, D⟩ by rw [prsT, if_pos HE.out, HRW.out])
            go_upto_region 12 with (first | (go_at_call 18; refine (psd_any src dst 6 (b.length : Int) _).mono ?_; rintro e wp ⟨vp, rfl, mp⟩; obtain ⟨Ap, cp, rfl, gp, op, xp⟩ := made_shape mp) | (go_at_call 47; refine (right_two (some ⟨wp.heap.size, 0, none⟩) (psd src dst 6 (b.length : Int)) b 2 (wp.heap.size + 1) _ HN _ (Rd2.two rfl rfl (World.alloc_heap_new wp _) (Nat.lt_succ_self _) ((gp.alloc (Nat.le_refl _) _).more (Nat.le_succ _)) (((hRV.below (xp.mono (by omega))).alloc (by have := xp.size; omega) _).more (by have := xp.size; omega))) (by simp) (by rw [psd_len]; omega)).mono ?_; rintro e wq ⟨rfl, xq⟩; have xpq : Below V.heap.size V wq := (xp.alloc xp.size _).trans (xq.mono (by have := xp.size; simp; omega)); have hrq := (xpq.block w.heap.size (by omega)).trans hrV))
            have hUq0 := (xpq.block U hUlt0).trans hU0
            have hb1 := hbV.trans (xpq.mono (by omega))
            have hUlt := heap_lt hUq0
            have zq := xpq.size
            clear xp xq xpq gp op mp hRV hU0
            obtain ⟨WQ, hWQ⟩ : ∃ X : World, X = wq.drew := ⟨_, rfl⟩
            have hUq : WQ.heap[U]? = some (.cells (tsa ⟨X0, X2, X4, X8, X12 % 16, X13, X14, X18, [], []⟩ none 0 none 0) 39 (0, 0)) := by rw [hWQ]; exact hUq0
            have hr1 : WQ.heap[w.heap.size]? = some (.cells (tsa tsz none 0 none 0) 39 (0, 0)) := by rw [hWQ]; exact hrq
            have hb1 : Below w.heap.size w WQ := by rw [hWQ]; exact hb1.drew
            have hUS : U ≤ U := Nat.le_refl U
            have hUlt : U < WQ.heap.size := by rw [hWQ]; exact hUlt
            clear hUq0 hrq hrV hbV
            refine wp_region_held_drew (S := fun w' => Below U WQ w') (by kernel_rfl) (by rw [← hWQ]; exact Below.refl _ _) (fun hS => ?_)
            rw [← hWQ] at hS ⊢
            clear hWQ
            refine held_pure (i := 0) (oi := ⟨some 45, _, _, _, _, _⟩) rfl (by kernel_rfl) (by kernel_rfl) (by kernel_rfl) (fun _ _ _ h => h) (by rfl) (v := ?_) (fun w hSw => ?_) hS (fun hS => ?_)
            rotate_left
            · go_simp; try with_reducible rfl
            try go_frame
            refine held_pure (i := 1) (oi := ⟨some 46, _, _, _, _, _⟩) rfl (by kernel_rfl) (by kernel_rfl) (by kernel_rfl) (fun _ _ _ h => h) (by rfl) (v := ?_) (fun w hSw => ?_) hS (fun hS => ?_)
            rotate_left
            · go_simp; try with_reducible rfl
            try go_frame
            refine held_pure (i := 2) (oi := ⟨some 47, _, _, _, _, _⟩) rfl (by kernel_rfl) (by kernel_rfl) (by kernel_rfl) (fun _ _ _ h => h) (by rfl) (fun w hSw => run_cut_lh rfl rfl rfl rfl (l := 20) (h := (H : Int)) (by omega) (by omega) (by omega) (m := O.length) (by have := HOl.out; omega)) hS (fun hS => ?_)
            try go_frame
            refine held_pure (i := 4) (oi := ⟨some 49, _, _, _, _, _⟩) rfl (by kernel_rfl) (by kernel_rfl) (by kernel_rfl) (fun _ _ _ h => h) (by rfl) (v := ?_) (fun w hSw => ?_) hS (fun hS => ?_)
            rotate_left
            · go_simp; try with_reducible rfl
            try go_frame
            refine held_pure (i := 5) (oi := ⟨some 50, _, _, _, _, _⟩) rfl (by kernel_rfl) (by kernel_rfl) (by kernel_rfl) (fun _ _ _ h => h) (by rfl) (v := ?_) (fun w hSw => ?_) hS (fun hS => ?_)
            rotate_left
            · go_simp; try with_reducible rfl
            try go_frame
            refine held_pure (i := 6) (oi := ⟨some 51, _, _, _, _, _⟩) rfl (by kernel_rfl) (by kernel_rfl) (by kernel_rfl) (fun _ _ _ h => h) (by rfl) (fun w hSw => run_cut_l rfl rfl (l := H) rfl (by omega) (m := D.length) (by have := HDl.out; omega)) hS (fun hS => ?_)
            try go_frame
            refine wpAnyH_ready (rs := [3]) (by kernel_rfl) (by simp) (AllReadyH.cons (o := ⟨some 48, _, _, _, _, _⟩) rfl (fun K hK => ?_) AllReadyH.nil)
            rw [if_pos (by rfl)]
            go_simp
            refine (freshT_any (cutA A c 20) O (c - 20) B _ (hO.below ((hb1.trans (hS.mono (by omega))).mono hB)) (by have := HOl.out; omega)).mono ?_
            rintro e wx ⟨vx, rfl, mx⟩
            obtain ⟨P3, p3, rfl, g3, o3, x3⟩ := made_shape mx
            show K _ _
            refine hK.out _ _ (hS.trans (x3.mono (by omega))) (fun hS => ?_)
            clear hK K
            try go_frame
            refine held_pure (i := 8) (oi := ⟨some 53, _, _, _, _, _⟩) rfl (by kernel_rfl) (by kernel_rfl) (by kernel_rfl) (fun _ _ _ h => h) (by rfl) (v := ?_) (fun w hSw => ?_) hS (fun hS => ?_)
            rotate_left
            · go_simp; try with_reducible rfl
            try go_frame
            refine wpAnyH_ready (rs := [7]) (by kernel_rfl) (by simp) (AllReadyH.cons (o := ⟨some 52, _, _, _, _, _⟩) rfl (fun K hK => ?_) AllReadyH.nil)
            rw [if_pos (by rfl)]
            go_simp
            refine (freshT_any (cutA A c H) D (c - H) B _ (hD.below ((hb1.trans (hS.mono (by omega))).mono hB)) (by have := HDl.out; omega)).mono ?_
            rintro e wy ⟨vy, rfl, my⟩
            obtain ⟨P7, p7, rfl, g7, o7, x7⟩ := made_shape my
            have z3 : WQ.heap.size ≤ wx.heap.size := x3.size
            have hUy := (x7.block U (by omega)).trans ((x3.block U hUlt).trans hUq)
            show K _ _
            refine hK.out _ _ (hS.trans (x7.mono (by omega))) (fun hS => ?_)
            clear hK K
            try go_frame
            refine wpAnyH_ready (rs := [9]) (by kernel_rfl) (by simp) (AllReadyH.cons (o := ⟨none, _, _, _, _, _⟩) rfl (fun K hK => ?_) AllReadyH.nil)
            rw [if_pos (by rfl)]
            have k8 : wy.cell? ⟨U, 8, none⟩ = some (.slice none 0 0) := by { rw [cell_of_row _ _ _ _ _ _ hUy]; rfl }
            refine store_sl_wp rfl rfl rfl k8 (heap_frozen hUy 8) ?_
            have hU8 : (wy.setCell ⟨U, 8, none⟩ (.slice P3 O.length p3)).heap[U]? = some (.cells (tsa ⟨X0, X2, X4, X8, X12 % 16, X13, X14, X18, O, []⟩ P3 p3 none 0) 39 (0, 0)) := heap_setCell_same wy U 8 _ _ _ hUy
            refine hK.out _ _ (hS.setCell (p := ⟨U, 8, none⟩) hUS _) (fun hS => ?_)
            clear hK K k8
            try go_frame
            refine held_pure (i := 10) (oi := ⟨some 54, _, _, _, _, _⟩) rfl (by kernel_rfl) (by kernel_rfl) (by kernel_rfl) (fun _ _ _ h => h) (by rfl) (v := ?_) (fun w hSw => ?_) hS (fun hS => ?_)
            rotate_left
            · go_simp; try with_reducible rfl
            try go_frame
            refine wpAnyH_ready (rs := [11]) (by kernel_rfl) (by simp) (AllReadyH.cons (o := ⟨none, _, _, _, _, _⟩) rfl (fun K hK => ?_) AllReadyH.nil)
            rw [if_pos (by rfl)]
            have k9 : (wy.setCell ⟨U, 8, none⟩ (.slice P3 O.length p3)).cell? ⟨U, 9, none⟩ = some (.slice none 0 0) := by { rw [cell_of_row _ _ _ _ _ _ hU8]; rfl }
            refine store_sl_wp rfl rfl rfl k9 (heap_frozen hU8 9) ?_
            have hU9 : ((wy.setCell ⟨U, 8, none⟩ (.slice P3 O.length p3)).setCell ⟨U, 9, none⟩ (.slice P7 D.length p7)).heap[U]? = some (.cells (tsa ⟨X0, X2, X4, X8, X12 % 16, X13, X14, X18, O, D⟩ P3 p3 P7 p7) 39 (0, 0)) := heap_setCell_same _ U 9 _ _ _ hU8
            refine hK.out _ _ (hS.setCell (p := ⟨U, 9, none⟩) hUS _) (fun hS => ?_)
            clear hK K k9
            try go_frame
            refine wpAnyH_done (by kernel_rfl) ?_ _
            have hr9 := (hS.block w.heap.size (by omega)).trans hr1
            have o3' := own_setCell (own_setCell (own_below o3 x7) (p := ⟨U, 8, none⟩) (u := .slice P3 O.length p3) (by show U < WQ.heap.size; omega)) (p := ⟨U, 9, none⟩) (u := .slice P7 D.length p7) (by show U < WQ.heap.size; omega)
            have o7' := own_setCell (own_setCell o7 (p := ⟨U, 8, none⟩) (u := .slice P3 O.length p3) (by show U < wx.heap.size; omega)) (p := ⟨U, 9, none⟩) (u := .slice P7 D.length p7) (by show U < wx.heap.size; omega)
            have o3r := own_setRow o3' (g := w.heap.size) (cs := tsa ⟨X0, X2, X4, X8, X12 % 16, X13, X14, X18, O, D⟩ P3 p3 P7 p7) (by show w.heap.size < WQ.heap.size; omega)
            have o7r := own_setRow o7' (g := w.heap.size) (cs := tsa ⟨X0, X2, X4, X8, X12 % 16, X13, X14, X18, O, D⟩ P3 p3 P7 p7) (by show w.heap.size < wx.heap.size; omega)
            have b9 := hb1.trans (hS.mono (by omega))
            have at9 := Atts.of_heap hU9
            clear o3' o7' o3 o7 hU9 hU8
            go_wp2_with (first
              | ((with_reducible show wpList _ _ _ (Oper.mk _ (Op.load 39 _) _ _ _ _ :: _) _ _); refine wpList_val rfl (run_load_ts rfl rfl at9 rfl) ?_)
              | ((with_reducible show wpList _ _ _ (Oper.mk _ (Op.store 39 _ _) _ _ _ _ :: _) _ _); refine ts_store (g := w.heap.size) (cs := tsa ⟨X0, X2, X4, X8, X12 % 16, X13, X14, X18, O, D⟩ P3 p3 P7 p7) rfl rfl hr9 rfl rfl (ts_one _ _ _ _ _) ?_))
            exact bodyPost_ret (res2 rfl rfl (ts_load_run (setRow_heap _ _ _ _ _ _ hr9) rfl)) rfl ⟨P3, p3, P7, p7, by rw [HV.out, HE.out]; rfl, by rw [HV.out]; exact Made.of_own (own_base o3r (by show w.heap.size ≤ WQ.heap.size; omega)) (below_row b9 (Nat.le_refl _)), by rw [HV.out]; exact Made.of_own (own_base o7r (by omega)) (below_row b9 (Nat.le_refl _))⟩
end
end Go.Proofs.Ytggcjjcgiphjeaa
