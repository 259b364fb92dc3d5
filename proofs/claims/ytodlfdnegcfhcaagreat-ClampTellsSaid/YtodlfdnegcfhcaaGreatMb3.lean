/-
  Contracts and lemmas on which the proofs of this seat stand (several texts in one). Conditions are each theorem's own.
-/
import Derived.Test.YtodlfdnegcfhcaaGreatMb2
import Derived.Test.YtodlfdnegcfhcaaGreatMb1
import Derived.WalkMore

/-
  Contract of the document's Parse of layer 8. Conditions are each theorem's own.
-/
namespace Go.Proofs.YtodlfdnegcfhcaaGreat
open Go.RowKit

theorem r8num (A : Option Addr) (bs : List UInt8) (c B : Nat) (at_ s : Int) (w : World) (h : Rd w B A bs) (hl : bs.length ≤ 1099511627776) :
    Calls Tryz.prog 61 #[.slice A bs.length c, .int .i64 at_, .int .i64 s] w fun e w' => e = .returned (.int .i64 (getV bs at_ s)) ∧ w = w' := by
  go_enter Tryz.func61, Tryz.ntmps61
  go_wp2_with (go_at_call 58; refine (rget_any A bs c B at_ s _ h hl).mono ?_; rintro e w' ⟨rfl, rfl⟩)
  go_ret
  exact ⟨rfl, rfl⟩
section
variable (b : List UInt8) (A : Option Addr) (c : Nat) (src dst : Int) (w : World)
set_option maxRecDepth 100000 in
set_option maxHeartbeats 8000000 in
theorem rTparse (B : Nat) (hR : Arg w B A c b) (hB : B ≤ w.heap.size) (hl : b.length ≤ 1000000) :
    Calls Tryz.prog 34 #[.int .i64 src, .int .i64 dst, .slice A b.length c] w fun e w' => ∃ P p P' p', e = .returned (.tuple #[tsv (prsT src dst b) P p P' p', .int .i64 (badT src dst b)]) ∧ Made w w' (.slice P (prsT src dst b).opt.length p) (prsT src dst b).opt ∧ Made w w' (.slice P' (prsT src dst b).dat.length p') (prsT src dst b).dat := by
  have hBW : Below w.heap.size w (w.alloc (.cells (tsa tsz none 0 none 0) 41)) := (Below.refl w.heap.size w).alloc (Nat.le_refl _) _
  have hg := World.alloc_heap_new w (.cells (tsa tsz none 0 none 0) 41)
  have hz : w.heap.size < (w.alloc (.cells (tsa tsz none 0 none 0) 41)).heap.size := by simp
  have hcap := hR.cap
  go_enter Tryz.func34, Tryz.ntmps34
  go_upto_region 1 with fail
  rw [show #[.int .i64 0, .int .i64 0, .int .i64 0, .int .i64 0, .int .i64 0, .int .i64 0, .int .i64 0, .int .i64 0, .slice none 0 0, .slice none 0 0] = tsa tsz none 0 none 0 from rfl]
  generalize w.alloc (.cells (tsa tsz none 0 none 0) 41) = W at *
  have hR1 := hR.below (hBW.mono hB)
  by_cases h20 : b.length < 20
  · have d20 : decide ((b.length : Int) < 20) = true := by simp; omega
    have HE := Lib.hid (show badT src dst b = 3 by rw [badT, if_pos h20])
    have HV := Lib.hid (show prsT src dst b = tsz by rw [prsT, HE.out]; rfl)
    go_wp2_with (first | ((with_reducible show wpList _ _ _ (Oper.mk _ (Op.store 41 _ _) _ _ _ _ :: _) _ _); refine ts_store (g := w.heap.size) (cs := tsa tsz none 0 none 0) rfl rfl hg rfl rfl (ts_one _ _ _ _ _) ?_))
    exact bodyPost_ret (res2 rfl rfl (ts_load_run (setRow_heap _ _ _ _ _ _ hg) rfl)) rfl ⟨none, 0, none, 0, by rw [HV.out, HE.out]; rfl, by rw [HV.out]; exact Made.nil _ _ (below_row hBW (Nat.le_refl _)), by rw [HV.out]; exact Made.nil _ _ (below_row hBW (Nat.le_refl _))⟩
  · have d20 : decide ((b.length : Int) < 20) = false := by simp; omega
    obtain ⟨b0, off, rfl, hbB, hcell⟩ := hR1.rd (by omega)
    have kw12 := hcell 12 (by omega)
    have kw13 := hcell 13 (by omega)
    clear hcell
    have G0 := Lib.hid (show getV b 0 2 = n2 b 0 from get_two (b := b) (i := 0) (by omega))
    have G2 := Lib.hid (show getV b 2 2 = n2 b 2 from get_two (b := b) (i := 2) (by omega))
    have G4 := Lib.hid (show getV b 4 4 = n4 b 4 from get_four (b := b) (i := 4) (by omega))
    have G8 := Lib.hid (show getV b 8 4 = n4 b 8 from get_four (b := b) (i := 8) (by omega))
    have G14 := Lib.hid (show getV b 14 2 = n2 b 14 from get_two (b := b) (i := 14) (by omega))
    have G18 := Lib.hid (show getV b 18 2 = n2 b 18 from get_two (b := b) (i := 18) (by omega))
    obtain ⟨X0, e0⟩ : ∃ n, n = n2 b 0 := ⟨_, rfl⟩
    obtain ⟨X2, e2⟩ : ∃ n, n = n2 b 2 := ⟨_, rfl⟩
    obtain ⟨X4, e4⟩ : ∃ n, n = n4 b 4 := ⟨_, rfl⟩
    obtain ⟨X8, e8⟩ : ∃ n, n = n4 b 8 := ⟨_, rfl⟩
    obtain ⟨X12, e12⟩ : ∃ n, n = byt b 12 := ⟨_, rfl⟩
    obtain ⟨X13, e13⟩ : ∃ n, n = byt b 13 := ⟨_, rfl⟩
    obtain ⟨X14, e14⟩ : ∃ n, n = n2 b 14 := ⟨_, rfl⟩
    obtain ⟨X18, e18⟩ : ∃ n, n = n2 b 18 := ⟨_, rfl⟩
    have l0 : 0 ≤ X12 ∧ X12 ≤ 255 := by rw [e12]; exact ⟨byt_lo b 12, byt_hi b 12⟩
    have l13 : 0 ≤ X13 ∧ X13 ≤ 255 := by rw [e13]; exact ⟨byt_lo b 13, byt_hi b 13⟩
    have hlx : hlT b = X12 / 16 * 4 := by rw [e12]; rfl
    obtain ⟨H, hH⟩ : ∃ n : Nat, (n : Int) = hlT b := ⟨(hlT b).toNat, by omega⟩
    clear hlx
    have HH12 := Lib.hid (show (H : Int) = X12 / 16 * 4 by rw [hH, e12]; rfl)
    obtain ⟨O, hOd⟩ : ∃ l, l = (b.take H).drop 20 := ⟨_, rfl⟩
    obtain ⟨D, hDd⟩ : ∃ l, l = b.drop H := ⟨_, rfl⟩
    have HRW := Lib.hid (show rawT b = ⟨X0, X2, X4, X8, X12 % 16, X13, X14, X18, O, D⟩ by rw [rawT, ← hH, Int.toNat_natCast, ← hOd, ← hDd, e0, e2, e4, e8, e12, e13, e14, e18])
    have HH := Lib.hid hH.symm
    have hHb : H ≤ 60 := by have := HH12.out; omega
    rw [← e0] at G0; rw [← e2] at G2; rw [← e4] at G4; rw [← e8] at G8; rw [← e12] at kw12; rw [← e13] at kw13; rw [← e14] at G14; rw [← e18] at G18
    clear e0 e2 e4 e8 e12 e13 e14 e18 hH
    go_upto_region 4 with fail
    rw [← HH12.out]
    have HTM := Lib.hid (show X12.tmod 16 = X12 % 16 from Int.tmod_eq_emod_of_nonneg l0.1)
    have HW1 := Lib.hid (IntWalk.i64_in (X12 % 16) (by omega))
    have HW2 := Lib.hid (IntWalk.i64_in X13 (by omega))
    by_cases s1 : H < 20
    · have d1 : decide ((H : Int) < 20) = true := by simp; omega
      have HE := Lib.hid (show badT src dst b = 4 by rw [badT, if_neg h20, if_pos (by rw [HH.out]; omega)])
      have HV := Lib.hid (show prsT src dst b = tsz by rw [prsT, HE.out]; rfl)
      go_wp2_with (first | ((with_reducible show wpList _ _ _ (Oper.mk _ (Op.store 41 _ _) _ _ _ _ :: _) _ _); refine ts_store (g := w.heap.size) (cs := tsa tsz none 0 none 0) rfl rfl hg rfl rfl (ts_one _ _ _ _ _) ?_))
      exact bodyPost_ret (res2 rfl rfl (ts_load_run (setRow_heap _ _ _ _ _ _ hg) rfl)) rfl ⟨none, 0, none, 0, by rw [HV.out, HE.out]; rfl, by rw [HV.out]; exact Made.nil _ _ (below_row hBW (Nat.le_refl _)), by rw [HV.out]; exact Made.nil _ _ (below_row hBW (Nat.le_refl _))⟩
    · have d1 : decide ((H : Int) < 20) = false := by simp; omega
      by_cases s2 : b.length < H
      · have d2 : decide ((b.length : Int) < (H : Int)) = true := by simp; omega
        have HE := Lib.hid (show badT src dst b = 3 by rw [badT, if_neg h20, if_neg (by rw [HH.out]; omega), if_pos (by rw [HH.out]; omega)])
        have HV := Lib.hid (show prsT src dst b = tsz by rw [prsT, HE.out]; rfl)
        go_wp2_with (first | ((with_reducible show wpList _ _ _ (Oper.mk _ (Op.store 41 _ _) _ _ _ _ :: _) _ _); refine ts_store (g := w.heap.size) (cs := tsa tsz none 0 none 0) rfl rfl hg rfl rfl (ts_one _ _ _ _ _) ?_))
        exact bodyPost_ret (res2 rfl rfl (ts_load_run (setRow_heap _ _ _ _ _ _ hg) rfl)) rfl ⟨none, 0, none, 0, by rw [HV.out, HE.out]; rfl, by rw [HV.out]; exact Made.nil _ _ (below_row hBW (Nat.le_refl _)), by rw [HV.out]; exact Made.nil _ _ (below_row hBW (Nat.le_refl _))⟩
      · have d2 : decide ((b.length : Int) < (H : Int)) = false := by simp; omega
        by_cases s3 : 65535 < b.length
        · have d3 : decide (65535 < (b.length : Int)) = true := by simp; omega
          have HE := Lib.hid (show badT src dst b = 6 by rw [badT, if_neg h20, if_neg (by rw [HH.out]; omega), if_neg (by rw [HH.out]; omega), if_pos (by omega)])
          have HV := Lib.hid (show prsT src dst b = tsz by rw [prsT, HE.out]; rfl)
          go_wp2_with (first | ((with_reducible show wpList _ _ _ (Oper.mk _ (Op.store 41 _ _) _ _ _ _ :: _) _ _); refine ts_store (g := w.heap.size) (cs := tsa tsz none 0 none 0) rfl rfl hg rfl rfl (ts_one _ _ _ _ _) ?_))
          exact bodyPost_ret (res2 rfl rfl (ts_load_run (setRow_heap _ _ _ _ _ _ hg) rfl)) rfl ⟨none, 0, none, 0, by rw [HV.out, HE.out]; rfl, by rw [HV.out]; exact Made.nil _ _ (below_row hBW (Nat.le_refl _)), by rw [HV.out]; exact Made.nil _ _ (below_row hBW (Nat.le_refl _))⟩
        · have d3 : decide (65535 < (b.length : Int)) = false := by simp; omega
          have HOl := Lib.hid (show O.length = H - 20 by rw [hOd]; simp; omega)
          have HDl := Lib.hid (show D.length = b.length - H by rw [hDd]; simp)
          have hO : Arg w B (cutA (some ⟨b0, off, none⟩) c 20) (c - 20) O := by rw [hOd]; exact hR.cut 20 H (by omega)
          have hD : Arg w B (cutA (some ⟨b0, off, none⟩) c H) (c - H) D := by rw [hDd]; exact hR.cut_lo H
          obtain ⟨N, hN⟩ : ∃ n, n = rightB [psd src dst 6 (b.length : Int), b] := ⟨_, rfl⟩
          have HN := Lib.hid hN
          have HBD := Lib.hid (show badT src dst b = if N = false then 5 else 0 by rw [badT, if_neg h20, if_neg (by rw [HH.out]; omega), if_neg (by rw [HH.out]; omega), if_neg (by omega), ← hN])
          clear hN hOd hDd
          cases N
          · have HE := Lib.hid (show badT src dst b = 5 by rw [HBD.out]; rfl)
            have HV := Lib.hid (show prsT src dst b = tsz by rw [prsT, HE.out]; rfl)
            go_wp2_with (first | ((with_reducible show wpList _ _ _ (Oper.mk _ (Op.store 41 _ _) _ _ _ _ :: _) _ _); refine ts_store (g := w.heap.size) (cs := tsa tsz none 0 none 0) rfl rfl hrq rfl rfl (ts_one _ _ _ _ _) ?_) | (go_at_call 60; refine (rpsd_any src dst 6 (b.length : Int) _).mono ?_; rintro e wp ⟨vp, rfl, mp⟩; obtain ⟨Ap, cp, rfl, gp, op, xp⟩ := made_shape mp) | (go_at_call 59; refine (rright_two (some ⟨wp.heap.size, 0, none⟩) (psd src dst 6 (b.length : Int)) b 2 (wp.heap.size + 1) _ HN _ (Rd2.two rfl rfl (World.alloc_heap_new wp _) (Nat.lt_succ_self _) ((gp.alloc (Nat.le_refl _) _).more (Nat.le_succ _)) (((hR1.below (xp.mono (by omega))).alloc (by have := xp.size; omega) _).more (by have := xp.size; omega))) (by rw [psd_len]; omega)).mono ?_; rintro e wq ⟨rfl, nq, rfl⟩; have xpq : Below W.heap.size W ((wp.alloc (.cells #[.slice Ap (psd src dst 6 (b.length : Int)).length cp, .slice (some ⟨b0, off, none⟩) b.length c] 22)).drewN nq) := below_drewN (xp.alloc xp.size _) nq; have hrq := (xpq.block w.heap.size (by omega)).trans hg))
            exact bodyPost_ret (res2 rfl rfl (ts_load_run (setRow_heap _ _ _ _ _ _ hrq) rfl)) rfl ⟨none, 0, none, 0, by rw [HV.out, HE.out]; rfl, by rw [HV.out]; exact Made.nil _ _ (below_row (hBW.trans (xpq.mono (by omega))) (Nat.le_refl _)), by rw [HV.out]; exact Made.nil _ _ (below_row (hBW.trans (xpq.mono (by omega))) (Nat.le_refl _))⟩
          · have HE := Lib.hid (show badT src dst b = 0 by rw [HBD.out]; rfl)
            have HV := Lib.hid (show prsT src dst b = ⟨X0, X2, X4, X8, X12 % 16, X13, X14, X18, O, D⟩ by rw [prsT, if_pos HE.out, HRW.out])
            go_upto_region 12 with (first | (go_at_call 60; refine (rpsd_any src dst 6 (b.length : Int) _).mono ?_; rintro e wp ⟨vp, rfl, mp⟩; obtain ⟨Ap, cp, rfl, gp, op, xp⟩ := made_shape mp) | (go_at_call 59; refine (rright_two (some ⟨wp.heap.size, 0, none⟩) (psd src dst 6 (b.length : Int)) b 2 (wp.heap.size + 1) _ HN _ (Rd2.two rfl rfl (World.alloc_heap_new wp _) (Nat.lt_succ_self _) ((gp.alloc (Nat.le_refl _) _).more (Nat.le_succ _)) (((hR1.below (xp.mono (by omega))).alloc (by have := xp.size; omega) _).more (by have := xp.size; omega))) (by rw [psd_len]; omega)).mono ?_; rintro e wq ⟨rfl, nq, rfl⟩; have xpq : Below W.heap.size W ((wp.alloc (.cells #[.slice Ap (psd src dst 6 (b.length : Int)).length cp, .slice (some ⟨b0, off, none⟩) b.length c] 22)).drewN nq) := below_drewN (xp.alloc xp.size _) nq; have hrq := (xpq.block w.heap.size (by omega)).trans hg))
            have hbV := hBW.trans (xpq.mono (by omega))
            have hRV := hR1.below (xpq.mono (by omega))
            have kc12 := (xpq.cell (p := ⟨b0, off + 12, none⟩) (by show b0 < _; omega)).trans kw12
            have kc13 := (xpq.cell (p := ⟨b0, off + 13, none⟩) (by show b0 < _; omega)).trans kw13
            have zV := xpq.size
            clear xp xpq gp op mp kw12 kw13
            generalize (wp.alloc (.cells #[.slice Ap (psd src dst 6 (b.length : Int)).length cp, .slice (some ⟨b0, off, none⟩) b.length c] 22)).drewN nq = V at *
            go_cut [9] from 46 (fun s w' => s = .pointer (some ⟨V.heap.size, 0, none⟩) ∧ ∃ m, w' = (V.alloc (.cells (tsa ⟨X0, X2, X4, X8, X12 % 16, X13, 0, 0, [], []⟩ none 0 none 0) 41)).drewN m)
            case first =>
              refine wp_region_held_drew (S := fun w' => Below V.heap.size V w') (by kernel_rfl) (Below.refl _ V).drew (fun hS => ?_)
              refine held_pure (i := 0) (oi := ⟨some 46, _, _, _, _, _⟩) rfl (by kernel_rfl) (by kernel_rfl) (by kernel_rfl) (fun _ _ _ h => h) (by rfl) (v := ?_) (fun w hSw => ?_) hS (fun hS => ?_)
              rotate_left
              · go_simp; try with_reducible rfl
              try go_frame
              refine held_pure (i := 2) (oi := ⟨some 48, _, _, _, _, _⟩) rfl (by kernel_rfl) (by kernel_rfl) (by kernel_rfl) (fun _ _ _ h => h) (by rfl) (v := ?_) (fun w hSw => ?_) hS (fun hS => ?_)
              rotate_left
              · go_simp; try with_reducible rfl
              try go_frame
              refine held_pure (i := 4) (oi := ⟨some 50, _, _, _, _, _⟩) rfl (by kernel_rfl) (by kernel_rfl) (by kernel_rfl) (fun _ _ _ h => h) (by rfl) (v := ?_) (fun w hSw => ?_) hS (fun hS => ?_)
              rotate_left
              · go_simp; try with_reducible rfl
              try go_frame
              refine held_pure (i := 6) (oi := ⟨some 52, _, _, _, _, _⟩) rfl (by kernel_rfl) (by kernel_rfl) (by kernel_rfl) (fun _ _ _ h => h) (by rfl) (v := ?_) (fun w hSw => ?_) hS (fun hS => ?_)
              rotate_left
              · go_simp; try with_reducible rfl
              try go_frame
              refine held_pure (i := 8) (oi := ⟨some 54, _, _, _, _, _⟩) rfl (by kernel_rfl) (by kernel_rfl) (by kernel_rfl) (fun _ _ _ h => h) (by rfl) (v := ?_) (fun w hSw => ?_) hS (fun hS => ?_)
              rotate_left
              · go_simp; try with_reducible rfl
              try go_frame
              refine held_pure (i := 9) (oi := ⟨some 55, _, _, _, _, _⟩) rfl (by kernel_rfl) (by kernel_rfl) (by kernel_rfl) (fun _ _ _ h => h) (by rfl) (v := Value.pointer (some ⟨b0, off + 12, none⟩)) (fun w hSw => by go_simp; exact fun hx => absurd hx (by omega)) hS (fun hS => ?_)
              try go_frame
              refine held_pure (i := 10) (oi := ⟨some 56, _, _, _, _, _⟩) rfl (by kernel_rfl) (by kernel_rfl) (by kernel_rfl) (fun _ _ _ h => h) (by rfl) (fun w hSw => run_load_byte rfl rfl ((hSw.cell (show b0 < V.heap.size by omega)).trans kc12)) hS (fun hS => ?_)
              try go_frame
              refine held_pure (i := 11) (oi := ⟨some 57, _, _, _, _, _⟩) rfl (by kernel_rfl) (by kernel_rfl) (by kernel_rfl) (fun _ _ _ h => h) (by rfl) (v := .int .u8 (X12 % 16)) (fun w hSw => by go_simp; exact HTM.out) hS (fun hS => ?_)
              try go_frame
              refine held_pure (i := 12) (oi := ⟨some 58, _, _, _, _, _⟩) rfl (by kernel_rfl) (by kernel_rfl) (by kernel_rfl) (fun _ _ _ h => h) (by rfl) (v := .int .i64 (X12 % 16)) (fun w hSw => by go_simp; exact HW1.out) hS (fun hS => ?_)
              try go_frame
              refine held_pure (i := 13) (oi := ⟨some 59, _, _, _, _, _⟩) rfl (by kernel_rfl) (by kernel_rfl) (by kernel_rfl) (fun _ _ _ h => h) (by rfl) (v := ?_) (fun w hSw => ?_) hS (fun hS => ?_)
              rotate_left
              · go_simp; try with_reducible rfl
              try go_frame
              refine held_pure (i := 14) (oi := ⟨some 60, _, _, _, _, _⟩) rfl (by kernel_rfl) (by kernel_rfl) (by kernel_rfl) (fun _ _ _ h => h) (by rfl) (v := Value.pointer (some ⟨b0, off + 13, none⟩)) (fun w hSw => by go_simp; exact fun hx => absurd hx (by omega)) hS (fun hS => ?_)
              try go_frame
              refine held_pure (i := 15) (oi := ⟨some 61, _, _, _, _, _⟩) rfl (by kernel_rfl) (by kernel_rfl) (by kernel_rfl) (fun _ _ _ h => h) (by rfl) (fun w hSw => run_load_byte rfl rfl ((hSw.cell (show b0 < V.heap.size by omega)).trans kc13)) hS (fun hS => ?_)
              try go_frame
              refine held_pure (i := 16) (oi := ⟨some 62, _, _, _, _, _⟩) rfl (by kernel_rfl) (by kernel_rfl) (by kernel_rfl) (fun _ _ _ h => h) (by rfl) (v := .int .i64 X13) (fun w hSw => by go_simp; exact HW2.out) hS (fun hS => ?_)
              try go_frame
              refine wpAnyH_ready (rs := [1, 18]) (by kernel_rfl) (by simp) (AllReadyH.cons (o := ⟨some 47, _, _, _, _, _⟩) rfl (fun K hK => ?_) (AllReadyH.cons (o := ⟨some 9, _, _, _, _, _⟩) rfl (fun K hK => ?_) AllReadyH.nil))
              · rw [if_pos (by rfl)]
                go_simp
                refine (r8num (some ⟨b0, off, none⟩) b c B 0 2 _ (hRV.rd.below (hS.mono (by omega))) (by omega)).mono ?_
                rintro e w1 ⟨rfl, rfl⟩
                rw [show getV b 0 2 = X0 from G0.out]
                show K _ _
                refine hK.out _ _ hS (fun hS => ?_)
                clear hK K
                try go_frame
                refine wpAnyH_ready (rs := [3, 18]) (by kernel_rfl) (by simp) (AllReadyH.cons (o := ⟨some 49, _, _, _, _, _⟩) rfl (fun K hK => ?_) (AllReadyH.cons (o := ⟨some 9, _, _, _, _, _⟩) rfl (fun K hK => ?_) AllReadyH.nil))
                · rw [if_pos (by rfl)]
                  go_simp
                  refine (r8num (some ⟨b0, off, none⟩) b c B 2 2 _ (hRV.rd.below (hS.mono (by omega))) (by omega)).mono ?_
                  rintro e w3 ⟨rfl, rfl⟩
                  rw [show getV b 2 2 = X2 from G2.out]
                  show K _ _
                  refine hK.out _ _ hS (fun hS => ?_)
                  clear hK K
                  try go_frame
                  refine wpAnyH_ready (rs := [5, 18]) (by kernel_rfl) (by simp) (AllReadyH.cons (o := ⟨some 51, _, _, _, _, _⟩) rfl (fun K hK => ?_) (AllReadyH.cons (o := ⟨some 9, _, _, _, _, _⟩) rfl (fun K hK => ?_) AllReadyH.nil))
                  · rw [if_pos (by rfl)]
                    go_simp
                    refine (r8num (some ⟨b0, off, none⟩) b c B 4 4 _ (hRV.rd.below (hS.mono (by omega))) (by omega)).mono ?_
                    rintro e w5 ⟨rfl, rfl⟩
                    rw [show getV b 4 4 = X4 from G4.out]
                    show K _ _
                    refine hK.out _ _ hS (fun hS => ?_)
                    clear hK K
                    try go_frame
                    refine wpAnyH_ready (rs := [7, 18]) (by kernel_rfl) (by simp) (AllReadyH.cons (o := ⟨some 53, _, _, _, _, _⟩) rfl (fun K hK => ?_) (AllReadyH.cons (o := ⟨some 9, _, _, _, _, _⟩) rfl (fun K hK => ?_) AllReadyH.nil))
                    · rw [if_pos (by rfl)]
                      go_simp
                      refine (r8num (some ⟨b0, off, none⟩) b c B 8 4 _ (hRV.rd.below (hS.mono (by omega))) (by omega)).mono ?_
                      rintro e w7 ⟨rfl, rfl⟩
                      rw [show getV b 8 4 = X8 from G8.out]
                      show K _ _
                      refine hK.out _ _ hS (fun hS => ?_)
                      clear hK K
                      try go_frame
                      refine held_pure (i := 17) (oi := ⟨some 63, _, _, _, _, _⟩) rfl (by kernel_rfl) (by kernel_rfl) (by kernel_rfl) (fun _ _ _ h => h) (by rfl) (v := ?_) (fun w hSw => ?_) hS (fun hS => ?_)
                      rotate_left
                      · go_simp; try with_reducible rfl
                      try go_frame
                      refine wpAnyH_ready (rs := [18]) (by kernel_rfl) (by simp) (AllReadyH.cons (o := ⟨some 9, _, _, _, _, _⟩) rfl (fun K hK => ?_) AllReadyH.nil)
                      rw [if_pos (by rfl)]
                      go_simp
                      refine hK.out _ _ (hS.alloc hS.size _) (fun hS => ?_)
                      clear hK K
                      try go_frame
                      refine wpAnyH_ready (rs := [19]) (by kernel_rfl) (by simp) (AllReadyH.cons (o := ⟨none, _, _, _, _, _⟩) rfl (fun K hK => ?_) AllReadyH.nil)
                      rw [if_pos (by rfl)]
                      refine wp_store_row 41 _ _ rfl V.heap.size (tsa ⟨X0, X2, X4, X8, X12 % 16, X13, 0, 0, [], []⟩ none 0 none 0) rfl rfl 41 _ (heap_new (by first | rfl | simp)) (by kernel_rfl) rfl (ts_one _ _ _ _ _) ?_
                      repeat rw [setRow_drew]
                      rw [setRow_new (by first | rfl | simp)]
                      refine hK.out _ _ (by first | exact (Below.refl V.heap.size V).drew.alloc (Nat.le_refl _) _ | exact ((Below.refl V.heap.size V).drew.alloc (Nat.le_refl _) _).drew | exact ((Below.refl V.heap.size V).alloc (Nat.le_refl _) _).drew | exact (((Below.refl V.heap.size V).alloc (Nat.le_refl _) _).drew).drew) (fun hS => ?_)
                      clear hK K
                      try go_frame
                      refine wpAnyH_done (by kernel_rfl) ?_ _
                      go_wp2_with fail
                      go_meet
                      refine ⟨rfl, ?_⟩
                      first | exact ⟨1, rfl⟩ | exact ⟨2, rfl⟩ | exact ⟨0, rfl⟩
                    · rw [if_pos (by rfl)]
                      go_simp
                      refine hK.out _ _ (hS.alloc hS.size _) (fun hS => ?_)
                      clear hK K
                      try go_frame
                      refine wpAnyH_ready (rs := [7]) (by kernel_rfl) (by simp) (AllReadyH.cons (o := ⟨some 53, _, _, _, _, _⟩) rfl (fun K hK => ?_) AllReadyH.nil)
                      rw [if_pos (by rfl)]
                      go_simp
                      refine (r8num (some ⟨b0, off, none⟩) b c B 8 4 _ (hRV.rd.below (hS.mono (by omega))) (by omega)).mono ?_
                      rintro e w7 ⟨rfl, rfl⟩
                      rw [show getV b 8 4 = X8 from G8.out]
                      show K _ _
                      refine hK.out _ _ hS (fun hS => ?_)
                      clear hK K
                      try go_frame
                      refine held_pure (i := 17) (oi := ⟨some 63, _, _, _, _, _⟩) rfl (by kernel_rfl) (by kernel_rfl) (by kernel_rfl) (fun _ _ _ h => h) (by rfl) (v := ?_) (fun w hSw => ?_) hS (fun hS => ?_)
                      rotate_left
                      · go_simp; try with_reducible rfl
                      try go_frame
                      refine wpAnyH_ready (rs := [19]) (by kernel_rfl) (by simp) (AllReadyH.cons (o := ⟨none, _, _, _, _, _⟩) rfl (fun K hK => ?_) AllReadyH.nil)
                      rw [if_pos (by rfl)]
                      refine wp_store_row 41 _ _ rfl V.heap.size (tsa ⟨X0, X2, X4, X8, X12 % 16, X13, 0, 0, [], []⟩ none 0 none 0) rfl rfl 41 _ (heap_new (by first | rfl | simp)) (by kernel_rfl) rfl (ts_one _ _ _ _ _) ?_
                      repeat rw [setRow_drew]
                      rw [setRow_new (by first | rfl | simp)]
                      refine hK.out _ _ (by first | exact (Below.refl V.heap.size V).drew.alloc (Nat.le_refl _) _ | exact ((Below.refl V.heap.size V).drew.alloc (Nat.le_refl _) _).drew | exact ((Below.refl V.heap.size V).alloc (Nat.le_refl _) _).drew | exact (((Below.refl V.heap.size V).alloc (Nat.le_refl _) _).drew).drew) (fun hS => ?_)
                      clear hK K
                      try go_frame
                      refine wpAnyH_done (by kernel_rfl) ?_ _
                      go_wp2_with fail
                      go_meet
                      refine ⟨rfl, ?_⟩
                      first | exact ⟨1, rfl⟩ | exact ⟨2, rfl⟩ | exact ⟨0, rfl⟩
                  · rw [if_pos (by rfl)]
                    go_simp
                    refine hK.out _ _ (hS.alloc hS.size _) (fun hS => ?_)
                    clear hK K
                    try go_frame
                    refine wpAnyH_ready (rs := [5]) (by kernel_rfl) (by simp) (AllReadyH.cons (o := ⟨some 51, _, _, _, _, _⟩) rfl (fun K hK => ?_) AllReadyH.nil)
                    rw [if_pos (by rfl)]
                    go_simp
                    refine (r8num (some ⟨b0, off, none⟩) b c B 4 4 _ (hRV.rd.below (hS.mono (by omega))) (by omega)).mono ?_
                    rintro e w5 ⟨rfl, rfl⟩
                    rw [show getV b 4 4 = X4 from G4.out]
                    show K _ _
                    refine hK.out _ _ hS (fun hS => ?_)
                    clear hK K
                    try go_frame
                    refine wpAnyH_ready (rs := [7]) (by kernel_rfl) (by simp) (AllReadyH.cons (o := ⟨some 53, _, _, _, _, _⟩) rfl (fun K hK => ?_) AllReadyH.nil)
                    rw [if_pos (by rfl)]
                    go_simp
                    refine (r8num (some ⟨b0, off, none⟩) b c B 8 4 _ (hRV.rd.below (hS.mono (by omega))) (by omega)).mono ?_
                    rintro e w7 ⟨rfl, rfl⟩
                    rw [show getV b 8 4 = X8 from G8.out]
                    show K _ _
                    refine hK.out _ _ hS (fun hS => ?_)
                    clear hK K
                    try go_frame
                    refine held_pure (i := 17) (oi := ⟨some 63, _, _, _, _, _⟩) rfl (by kernel_rfl) (by kernel_rfl) (by kernel_rfl) (fun _ _ _ h => h) (by rfl) (v := ?_) (fun w hSw => ?_) hS (fun hS => ?_)
                    rotate_left
                    · go_simp; try with_reducible rfl
                    try go_frame
                    refine wpAnyH_ready (rs := [19]) (by kernel_rfl) (by simp) (AllReadyH.cons (o := ⟨none, _, _, _, _, _⟩) rfl (fun K hK => ?_) AllReadyH.nil)
                    rw [if_pos (by rfl)]
                    refine wp_store_row 41 _ _ rfl V.heap.size (tsa ⟨X0, X2, X4, X8, X12 % 16, X13, 0, 0, [], []⟩ none 0 none 0) rfl rfl 41 _ (heap_new (by first | rfl | simp)) (by kernel_rfl) rfl (ts_one _ _ _ _ _) ?_
                    repeat rw [setRow_drew]
                    rw [setRow_new (by first | rfl | simp)]
                    refine hK.out _ _ (by first | exact (Below.refl V.heap.size V).drew.alloc (Nat.le_refl _) _ | exact ((Below.refl V.heap.size V).drew.alloc (Nat.le_refl _) _).drew | exact ((Below.refl V.heap.size V).alloc (Nat.le_refl _) _).drew | exact (((Below.refl V.heap.size V).alloc (Nat.le_refl _) _).drew).drew) (fun hS => ?_)
                    clear hK K
                    try go_frame
                    refine wpAnyH_done (by kernel_rfl) ?_ _
                    go_wp2_with fail
                    go_meet
                    refine ⟨rfl, ?_⟩
                    first | exact ⟨1, rfl⟩ | exact ⟨2, rfl⟩ | exact ⟨0, rfl⟩
                · rw [if_pos (by rfl)]
                  go_simp
                  refine hK.out _ _ (hS.alloc hS.size _) (fun hS => ?_)
                  clear hK K
                  try go_frame
                  refine wpAnyH_ready (rs := [3]) (by kernel_rfl) (by simp) (AllReadyH.cons (o := ⟨some 49, _, _, _, _, _⟩) rfl (fun K hK => ?_) AllReadyH.nil)
                  rw [if_pos (by rfl)]
                  go_simp
                  refine (r8num (some ⟨b0, off, none⟩) b c B 2 2 _ (hRV.rd.below (hS.mono (by omega))) (by omega)).mono ?_
                  rintro e w3 ⟨rfl, rfl⟩
                  rw [show getV b 2 2 = X2 from G2.out]
                  show K _ _
                  refine hK.out _ _ hS (fun hS => ?_)
                  clear hK K
                  try go_frame
                  refine wpAnyH_ready (rs := [5]) (by kernel_rfl) (by simp) (AllReadyH.cons (o := ⟨some 51, _, _, _, _, _⟩) rfl (fun K hK => ?_) AllReadyH.nil)
                  rw [if_pos (by rfl)]
                  go_simp
                  refine (r8num (some ⟨b0, off, none⟩) b c B 4 4 _ (hRV.rd.below (hS.mono (by omega))) (by omega)).mono ?_
                  rintro e w5 ⟨rfl, rfl⟩
                  rw [show getV b 4 4 = X4 from G4.out]
                  show K _ _
                  refine hK.out _ _ hS (fun hS => ?_)
                  clear hK K
                  try go_frame
                  refine wpAnyH_ready (rs := [7]) (by kernel_rfl) (by simp) (AllReadyH.cons (o := ⟨some 53, _, _, _, _, _⟩) rfl (fun K hK => ?_) AllReadyH.nil)
                  rw [if_pos (by rfl)]
                  go_simp
                  refine (r8num (some ⟨b0, off, none⟩) b c B 8 4 _ (hRV.rd.below (hS.mono (by omega))) (by omega)).mono ?_
                  rintro e w7 ⟨rfl, rfl⟩
                  rw [show getV b 8 4 = X8 from G8.out]
                  show K _ _
                  refine hK.out _ _ hS (fun hS => ?_)
                  clear hK K
                  try go_frame
                  refine held_pure (i := 17) (oi := ⟨some 63, _, _, _, _, _⟩) rfl (by kernel_rfl) (by kernel_rfl) (by kernel_rfl) (fun _ _ _ h => h) (by rfl) (v := ?_) (fun w hSw => ?_) hS (fun hS => ?_)
                  rotate_left
                  · go_simp; try with_reducible rfl
                  try go_frame
                  refine wpAnyH_ready (rs := [19]) (by kernel_rfl) (by simp) (AllReadyH.cons (o := ⟨none, _, _, _, _, _⟩) rfl (fun K hK => ?_) AllReadyH.nil)
                  rw [if_pos (by rfl)]
                  refine wp_store_row 41 _ _ rfl V.heap.size (tsa ⟨X0, X2, X4, X8, X12 % 16, X13, 0, 0, [], []⟩ none 0 none 0) rfl rfl 41 _ (heap_new (by first | rfl | simp)) (by kernel_rfl) rfl (ts_one _ _ _ _ _) ?_
                  repeat rw [setRow_drew]
                  rw [setRow_new (by first | rfl | simp)]
                  refine hK.out _ _ (by first | exact (Below.refl V.heap.size V).drew.alloc (Nat.le_refl _) _ | exact ((Below.refl V.heap.size V).drew.alloc (Nat.le_refl _) _).drew | exact ((Below.refl V.heap.size V).alloc (Nat.le_refl _) _).drew | exact (((Below.refl V.heap.size V).alloc (Nat.le_refl _) _).drew).drew) (fun hS => ?_)
                  clear hK K
                  try go_frame
                  refine wpAnyH_done (by kernel_rfl) ?_ _
                  go_wp2_with fail
                  go_meet
                  refine ⟨rfl, ?_⟩
                  first | exact ⟨1, rfl⟩ | exact ⟨2, rfl⟩ | exact ⟨0, rfl⟩
              · rw [if_pos (by rfl)]
                go_simp
                refine hK.out _ _ (hS.alloc hS.size _) (fun hS => ?_)
                clear hK K
                try go_frame
                refine wpAnyH_ready (rs := [1]) (by kernel_rfl) (by simp) (AllReadyH.cons (o := ⟨some 47, _, _, _, _, _⟩) rfl (fun K hK => ?_) AllReadyH.nil)
                rw [if_pos (by rfl)]
                go_simp
                refine (r8num (some ⟨b0, off, none⟩) b c B 0 2 _ (hRV.rd.below (hS.mono (by omega))) (by omega)).mono ?_
                rintro e w1 ⟨rfl, rfl⟩
                rw [show getV b 0 2 = X0 from G0.out]
                show K _ _
                refine hK.out _ _ hS (fun hS => ?_)
                clear hK K
                try go_frame
                refine wpAnyH_ready (rs := [3]) (by kernel_rfl) (by simp) (AllReadyH.cons (o := ⟨some 49, _, _, _, _, _⟩) rfl (fun K hK => ?_) AllReadyH.nil)
                rw [if_pos (by rfl)]
                go_simp
                refine (r8num (some ⟨b0, off, none⟩) b c B 2 2 _ (hRV.rd.below (hS.mono (by omega))) (by omega)).mono ?_
                rintro e w3 ⟨rfl, rfl⟩
                rw [show getV b 2 2 = X2 from G2.out]
                show K _ _
                refine hK.out _ _ hS (fun hS => ?_)
                clear hK K
                try go_frame
                refine wpAnyH_ready (rs := [5]) (by kernel_rfl) (by simp) (AllReadyH.cons (o := ⟨some 51, _, _, _, _, _⟩) rfl (fun K hK => ?_) AllReadyH.nil)
                rw [if_pos (by rfl)]
                go_simp
                refine (r8num (some ⟨b0, off, none⟩) b c B 4 4 _ (hRV.rd.below (hS.mono (by omega))) (by omega)).mono ?_
                rintro e w5 ⟨rfl, rfl⟩
                rw [show getV b 4 4 = X4 from G4.out]
                show K _ _
                refine hK.out _ _ hS (fun hS => ?_)
                clear hK K
                try go_frame
                refine wpAnyH_ready (rs := [7]) (by kernel_rfl) (by simp) (AllReadyH.cons (o := ⟨some 53, _, _, _, _, _⟩) rfl (fun K hK => ?_) AllReadyH.nil)
                rw [if_pos (by rfl)]
                go_simp
                refine (r8num (some ⟨b0, off, none⟩) b c B 8 4 _ (hRV.rd.below (hS.mono (by omega))) (by omega)).mono ?_
                rintro e w7 ⟨rfl, rfl⟩
                rw [show getV b 8 4 = X8 from G8.out]
                show K _ _
                refine hK.out _ _ hS (fun hS => ?_)
                clear hK K
                try go_frame
                refine held_pure (i := 17) (oi := ⟨some 63, _, _, _, _, _⟩) rfl (by kernel_rfl) (by kernel_rfl) (by kernel_rfl) (fun _ _ _ h => h) (by rfl) (v := ?_) (fun w hSw => ?_) hS (fun hS => ?_)
                rotate_left
                · go_simp; try with_reducible rfl
                try go_frame
                refine wpAnyH_ready (rs := [19]) (by kernel_rfl) (by simp) (AllReadyH.cons (o := ⟨none, _, _, _, _, _⟩) rfl (fun K hK => ?_) AllReadyH.nil)
                rw [if_pos (by rfl)]
                refine wp_store_row 41 _ _ rfl V.heap.size (tsa ⟨X0, X2, X4, X8, X12 % 16, X13, 0, 0, [], []⟩ none 0 none 0) rfl rfl 41 _ (heap_new (by first | rfl | simp)) (by kernel_rfl) rfl (ts_one _ _ _ _ _) ?_
                repeat rw [setRow_drew]
                rw [setRow_new (by first | rfl | simp)]
                refine hK.out _ _ (by first | exact (Below.refl V.heap.size V).drew.alloc (Nat.le_refl _) _ | exact ((Below.refl V.heap.size V).drew.alloc (Nat.le_refl _) _).drew | exact ((Below.refl V.heap.size V).alloc (Nat.le_refl _) _).drew | exact (((Below.refl V.heap.size V).alloc (Nat.le_refl _) _).drew).drew) (fun hS => ?_)
                clear hK K
                try go_frame
                refine wpAnyH_done (by kernel_rfl) ?_ _
                go_wp2_with fail
                go_meet
                refine ⟨rfl, ?_⟩
                first | exact ⟨1, rfl⟩ | exact ⟨2, rfl⟩ | exact ⟨0, rfl⟩
            case rest =>
              obtain ⟨hs9, mc, hwc⟩ := hcut
              subst hs9
              obtain ⟨U, hUU⟩ : ∃ U, U = V.heap.size := ⟨_, rfl⟩
              have ja : Below V.heap.size V wc := by rw [hwc]; exact below_drewN ((Below.refl _ V).alloc (Nat.le_refl _) _) mc
              have hU0 : wc.heap[U]? = some (.cells (tsa ⟨X0, X2, X4, X8, X12 % 16, X13, 0, 0, [], []⟩ none 0 none 0) 41 (0, 0)) := by rw [hwc, hUU]; exact heap_newN V _ mc
              rw [← hUU]
              have hUw : w.heap.size < U := by omega
              have hbc := hbV.trans (ja.mono (by omega))
              have hrc := (ja.block w.heap.size (by omega)).trans hrq
              have hRc := hRV.below (ja.mono (by omega))
              have zc : U ≤ wc.heap.size := by have := ja.size; omega
              clear hwc ja hUU kc12 kc13
              have k6 : wc.cell? ⟨U, 6, none⟩ = some (.int .i64 0) := by { rw [cell_of_row _ _ _ _ _ _ hU0]; rfl }
              have k7 : wc.cell? ⟨U, 7, none⟩ = some (.int .i64 0) := by { rw [cell_of_row _ _ _ _ _ _ hU0]; rfl }
              have f6 := heap_frozen hU0 6
              have f7 := heap_frozen hU0 7
              go_upto_region 14 with (first
                | (go_at_call 61; ((with_reducible refine (r8num (some ⟨b0, off, none⟩) b c B 14 2 _ hRc.rd (by omega)).mono ?_); rintro e w' ⟨rfl, rfl⟩; rw [show getV b 14 2 = X14 from G14.out]))
                | (go_at_call 61; ((with_reducible refine (r8num (some ⟨b0, off, none⟩) b c B 18 2 _ hRc.rd (by omega)).mono ?_); rintro e w' ⟨rfl, rfl⟩; rw [show getV b 18 2 = X18 from G18.out])))
              have hU1 := heap_setCell_same wc U 6 _ _ (.int .i64 X14) hU0
              have hU2 := heap_setCell_same _ U 7 _ _ (.int .i64 X18) hU1
              have hUq0 : ((wc.setCell ⟨U, 6, none⟩ (.int .i64 X14)).setCell ⟨U, 7, none⟩ (.int .i64 X18)).heap[U]? = some (.cells (tsa ⟨X0, X2, X4, X8, X12 % 16, X13, X14, X18, [], []⟩ none 0 none 0) 41 (0, 0)) := hU2
              have hrq2 := (heap_setCell_other (wc.setCell ⟨U, 6, none⟩ (.int .i64 X14)) ⟨U, 7, none⟩ w.heap.size (.int .i64 X18) (by show w.heap.size ≠ U; omega)).trans ((heap_setCell_other wc ⟨U, 6, none⟩ w.heap.size (.int .i64 X14) (by show w.heap.size ≠ U; omega)).trans hrc)
              have hbq2 := (hbc.setCell (p := ⟨U, 6, none⟩) (by show w.heap.size ≤ U; omega) (.int .i64 X14)).setCell (p := ⟨U, 7, none⟩) (by show w.heap.size ≤ U; omega) (.int .i64 X18)
              obtain ⟨WQ, hWQ⟩ : ∃ X : World, X = ((wc.setCell ⟨U, 6, none⟩ (.int .i64 X14)).setCell ⟨U, 7, none⟩ (.int .i64 X18)).drew := ⟨_, rfl⟩
              have hUq : WQ.heap[U]? = some (.cells (tsa ⟨X0, X2, X4, X8, X12 % 16, X13, X14, X18, [], []⟩ none 0 none 0) 41 (0, 0)) := by rw [hWQ]; exact hUq0
              have hr1 : WQ.heap[w.heap.size]? = some (.cells (tsa tsz none 0 none 0) 41 (0, 0)) := by rw [hWQ]; exact hrq2
              have hb1 : Below w.heap.size w WQ := by rw [hWQ]; exact hbq2.drew
              have hUS : U ≤ U := Nat.le_refl U
              have hUlt : U < WQ.heap.size := heap_lt hUq
              clear hUq0 hrq2 hbq2 hU1 hU2 k6 k7 f6 f7 hU0 hrc hbc hRc
              refine wp_region_held_drew (S := fun w' => Below U WQ w') (by kernel_rfl) (by rw [← hWQ]; exact Below.refl _ _) (fun hS => ?_)
              rw [← hWQ] at hS ⊢
              clear hWQ
              refine held_pure (i := 0) (oi := ⟨some 70, _, _, _, _, _⟩) rfl (by kernel_rfl) (by kernel_rfl) (by kernel_rfl) (fun _ _ _ h => h) (by rfl) (v := ?_) (fun w hSw => ?_) hS (fun hS => ?_)
              rotate_left
              · go_simp; try with_reducible rfl
              try go_frame
              refine held_pure (i := 1) (oi := ⟨some 71, _, _, _, _, _⟩) rfl (by kernel_rfl) (by kernel_rfl) (by kernel_rfl) (fun _ _ _ h => h) (by rfl) (v := ?_) (fun w hSw => ?_) hS (fun hS => ?_)
              rotate_left
              · go_simp; try with_reducible rfl
              try go_frame
              refine held_pure (i := 2) (oi := ⟨some 72, _, _, _, _, _⟩) rfl (by kernel_rfl) (by kernel_rfl) (by kernel_rfl) (fun _ _ _ h => h) (by rfl) (fun w hSw => run_cut_lh rfl rfl rfl rfl (l := 20) (h := (H : Int)) (by omega) (by omega) (by omega) (m := O.length) (by have := HOl.out; omega)) hS (fun hS => ?_)
              try go_frame
              refine held_pure (i := 4) (oi := ⟨some 74, _, _, _, _, _⟩) rfl (by kernel_rfl) (by kernel_rfl) (by kernel_rfl) (fun _ _ _ h => h) (by rfl) (v := ?_) (fun w hSw => ?_) hS (fun hS => ?_)
              rotate_left
              · go_simp; try with_reducible rfl
              try go_frame
              refine held_pure (i := 5) (oi := ⟨some 75, _, _, _, _, _⟩) rfl (by kernel_rfl) (by kernel_rfl) (by kernel_rfl) (fun _ _ _ h => h) (by rfl) (v := ?_) (fun w hSw => ?_) hS (fun hS => ?_)
              rotate_left
              · go_simp; try with_reducible rfl
              try go_frame
              refine held_pure (i := 6) (oi := ⟨some 76, _, _, _, _, _⟩) rfl (by kernel_rfl) (by kernel_rfl) (by kernel_rfl) (fun _ _ _ h => h) (by rfl) (fun w hSw => run_cut_l rfl rfl (l := H) rfl (by omega) (m := D.length) (by have := HDl.out; omega)) hS (fun hS => ?_)
              try go_frame
              refine wpAnyH_ready (rs := [3]) (by kernel_rfl) (by simp) (AllReadyH.cons (o := ⟨some 73, _, _, _, _, _⟩) rfl (fun K hK => ?_) AllReadyH.nil)
              rw [if_pos (by rfl)]
              refine append_wp _ _ rfl WQ.heap.size (.slice none 0 0) 0 [] rfl (World.ownsRow_nil _ _ _ _) B (cutA (some ⟨b0, off, none⟩) c 20) (c - 20) O rfl hO.none_ ((hO.below ((hb1.trans (hS.mono (by omega))).mono hB)).rd) (by have := HOl.out; omega) (Nat.le_refl _) ?_
              intro v3 wx own3 grow3
              obtain ⟨P3, p3, rfl, o3⟩ := own_made (bs := O) own3 (by simp) (by simp)
              have x3 : Below WQ.heap.size WQ wx := (Below.refl _ _).grown grow3 (Nat.le_refl _) (fun k hk => by cases hk)
              refine hK.out _ _ (hS.trans (x3.mono (by omega))) (fun hS => ?_)
              clear hK K
              try go_frame
              refine held_pure (i := 8) (oi := ⟨some 78, _, _, _, _, _⟩) rfl (by kernel_rfl) (by kernel_rfl) (by kernel_rfl) (fun _ _ _ h => h) (by rfl) (v := ?_) (fun w hSw => ?_) hS (fun hS => ?_)
              rotate_left
              · go_simp; try with_reducible rfl
              try go_frame
              refine wpAnyH_ready (rs := [7]) (by kernel_rfl) (by simp) (AllReadyH.cons (o := ⟨some 77, _, _, _, _, _⟩) rfl (fun K hK => ?_) AllReadyH.nil)
              rw [if_pos (by rfl)]
              refine append_wp _ _ rfl wx.heap.size (.slice none 0 0) 0 [] rfl (World.ownsRow_nil _ _ _ _) B (cutA (some ⟨b0, off, none⟩) c H) (c - H) D rfl hD.none_ ((hD.below ((hb1.trans (hS.mono (by omega))).mono hB)).rd) (by have := HDl.out; omega) (Nat.le_refl _) ?_
              intro v7 wy own7 grow7
              obtain ⟨P7, p7, rfl, o7⟩ := own_made (bs := D) own7 (by simp) (by simp)
              have x7 : Below wx.heap.size wx wy := (Below.refl _ _).grown grow7 (Nat.le_refl _) (fun k hk => by cases hk)
              have z3 : WQ.heap.size ≤ wx.heap.size := x3.size
              have hUy := (x7.block U (by omega)).trans ((x3.block U hUlt).trans hUq)
              refine hK.out _ _ (hS.trans (x7.mono (by omega))) (fun hS => ?_)
              clear hK K
              try go_frame
              refine wpAnyH_ready (rs := [9]) (by kernel_rfl) (by simp) (AllReadyH.cons (o := ⟨none, _, _, _, _, _⟩) rfl (fun K hK => ?_) AllReadyH.nil)
              rw [if_pos (by rfl)]
              have k8 : wy.cell? ⟨U, 8, none⟩ = some (.slice none 0 0) := by { rw [cell_of_row _ _ _ _ _ _ hUy]; rfl }
              refine store_sl_wp rfl rfl rfl k8 (heap_frozen hUy 8) ?_
              have hU8 : (wy.setCell ⟨U, 8, none⟩ (.slice P3 O.length p3)).heap[U]? = some (.cells (tsa ⟨X0, X2, X4, X8, X12 % 16, X13, X14, X18, O, []⟩ P3 p3 none 0) 41 (0, 0)) := heap_setCell_same wy U 8 _ _ _ hUy
              refine hK.out _ _ (hS.setCell (p := ⟨U, 8, none⟩) hUS _) (fun hS => ?_)
              clear hK K k8
              try go_frame
              refine held_pure (i := 10) (oi := ⟨some 79, _, _, _, _, _⟩) rfl (by kernel_rfl) (by kernel_rfl) (by kernel_rfl) (fun _ _ _ h => h) (by rfl) (v := ?_) (fun w hSw => ?_) hS (fun hS => ?_)
              rotate_left
              · go_simp; try with_reducible rfl
              try go_frame
              refine wpAnyH_ready (rs := [11]) (by kernel_rfl) (by simp) (AllReadyH.cons (o := ⟨none, _, _, _, _, _⟩) rfl (fun K hK => ?_) AllReadyH.nil)
              rw [if_pos (by rfl)]
              have k9 : (wy.setCell ⟨U, 8, none⟩ (.slice P3 O.length p3)).cell? ⟨U, 9, none⟩ = some (.slice none 0 0) := by { rw [cell_of_row _ _ _ _ _ _ hU8]; rfl }
              refine store_sl_wp rfl rfl rfl k9 (heap_frozen hU8 9) ?_
              have hU9 : ((wy.setCell ⟨U, 8, none⟩ (.slice P3 O.length p3)).setCell ⟨U, 9, none⟩ (.slice P7 D.length p7)).heap[U]? = some (.cells (tsa ⟨X0, X2, X4, X8, X12 % 16, X13, X14, X18, O, D⟩ P3 p3 P7 p7) 41 (0, 0)) := heap_setCell_same _ U 9 _ _ _ hU8
              refine hK.out _ _ (hS.setCell (p := ⟨U, 9, none⟩) hUS _) (fun hS => ?_)
              clear hK K k9
              try go_frame
              refine wpAnyH_done (by kernel_rfl) ?_ _
              have hr9 := (hS.block w.heap.size (by omega)).trans hr1
              have o3' := own_setCell (own_setCell (own_below o3 x7) (p := ⟨U, 8, none⟩) (u := .slice P3 O.length p3) (by show U < WQ.heap.size; omega)) (p := ⟨U, 9, none⟩) (u := .slice P7 D.length p7) (by show U < WQ.heap.size; omega)
              have o7' := own_setCell (own_setCell o7 (p := ⟨U, 8, none⟩) (u := .slice P3 O.length p3) (by show U < wx.heap.size; omega)) (p := ⟨U, 9, none⟩) (u := .slice P7 D.length p7) (by show U < wx.heap.size; omega)
              have o3r := own_setRow o3' (g := w.heap.size) (cs := tsa ⟨X0, X2, X4, X8, X12 % 16, X13, X14, X18, O, D⟩ P3 p3 P7 p7) (by show w.heap.size < WQ.heap.size; omega)
              have o7r := own_setRow o7' (g := w.heap.size) (cs := tsa ⟨X0, X2, X4, X8, X12 % 16, X13, X14, X18, O, D⟩ P3 p3 P7 p7) (by show w.heap.size < wx.heap.size; omega)
              have b9 := hb1.trans (hS.mono (by omega))
              have at9 := Atts.of_heap hU9
              clear o3' o7' o3 o7 hU9 hU8
              go_wp2_with (first
                | ((with_reducible show wpList _ _ _ (Oper.mk _ (Op.load 41 _) _ _ _ _ :: _) _ _); refine wpList_val rfl (run_load_ts rfl rfl at9 rfl) ?_)
                | ((with_reducible show wpList _ _ _ (Oper.mk _ (Op.store 41 _ _) _ _ _ _ :: _) _ _); refine ts_store (g := w.heap.size) (cs := tsa ⟨X0, X2, X4, X8, X12 % 16, X13, X14, X18, O, D⟩ P3 p3 P7 p7) rfl rfl hr9 rfl rfl (ts_one _ _ _ _ _) ?_))
              exact bodyPost_ret (res2 rfl rfl (ts_load_run (setRow_heap _ _ _ _ _ _ hr9) rfl)) rfl ⟨P3, p3, P7, p7, by rw [HV.out, HE.out]; rfl, by rw [HV.out]; exact Made.of_own (own_base o3r (by show w.heap.size ≤ WQ.heap.size; omega)) (below_row b9 (Nat.le_refl _)), by rw [HV.out]; exact Made.of_own (own_base o7r (by omega)) (below_row b9 (Nat.le_refl _))⟩
end
end Go.Proofs.YtodlfdnegcfhcaaGreat

/-
  Contract of tcp.Options and of the iterator that it hands back. Conditions are each theorem's own.
-/
namespace Go.Proofs.YtodlfdnegcfhcaaGreat
open Go.RowKit Go.Shelf
attribute [local go_sem] Oper.semAt_some

/-- An option as it comes: where it begins, and where its bytes lie. -/
structure OI where
  at_ : Nat
  A : Option Addr
  c : Nat
  n : Nat
def encO (x : OI) : Array Value := #[.int .i64 (x.at_ : Int), .slice x.A x.n x.c]
/-- What is known of it when it comes. -/
def GO (b : List UInt8) (pre : List OI) (x : OI) (W : World) : Prop :=
  (∃ more, places b = pre.map (·.at_) ++ x.at_ :: more) ∧ x.n = optL b x.at_ ∧ Arg W W.heap.size x.A x.c ((b.drop x.at_).take x.n)
theorem cell_putLoop {W : World} {p : Addr} {v : Value} {l : Nat} {r r' : Loop} (h : W.cell? p = some v) (hl : W.heap[l]? = some (.loop r)) : (W.putObj l (.loop r')).cell? p = some v := by
  obtain ⟨o, ho, hc⟩ := cells_of_cell h
  have hne : p.block ≠ l := fun e => by rw [e, hl] at ho; cases ho; cases hc
  exact (World.cell?_of_block (World.putObj_heap_other hne)).trans h
theorem GO.turn {b : List UInt8} {pre : List OI} {x : OI} {W : World} {l : Nat} {r r' : Loop} (h : GO b pre x W) (hl : W.heap[l]? = some (.loop r)) : GO b pre x (W.putObj l (.loop r')) := by
  refine ⟨h.1, h.2.1, ⟨fun hn => ?_, h.2.2.cap, h.2.2.none_⟩⟩
  obtain ⟨b0, off, e, hb, hc⟩ := h.2.2.rd hn
  exact ⟨b0, off, e, by simpa using hb, fun j hj => cell_putLoop (hc j hj) hl⟩
theorem grown_none {w w' : World} (h : Below w.heap.size w w') : w.grownBy w' none := ⟨h.os, h.tape, h.output, h.size, fun k hk _ => h.block k hk⟩
theorem freshT_n (A : Option Addr) (bs : List UInt8) (n c B : Nat) (w : World) (hn : Hid (bs.length = n)) (h : Arg w B A c bs) (hl : n ≤ 1099511627776) :
    Calls Tryz.prog 79 #[.slice A n c] w fun e w' => ∃ P p, e = .returned (.slice P n p) ∧ Arg w' w'.heap.size P p bs ∧ Below w.heap.size w w' := by
  have := freshT_any A bs c B w h (by rw [hn.out]; exact hl)
  rw [hn.out] at this
  refine this.mono ?_
  rintro e w' ⟨v, rfl, hm⟩
  obtain ⟨P, p, rfl, g, o, x⟩ := made_shape hm
  exact ⟨P, p, by rw [hn.out], g, x⟩
set_option maxRecDepth 100000 in
set_option maxHeartbeats 4000000 in
theorem opts1_in (m : Nat) (hm : 1 ≤ m) (l lo hi Bs b1 o1 c1 n : Nat) (b : List UInt8) (hn : Hid (b.length = n)) (hl : n ≤ 1000000) (hc1 : n ≤ c1) (hBs : lo ≤ Bs ∧ Bs < hi) (hb1 : lo ≤ b1 ∧ b1 < hi) (J Jx : List OI → World → Prop) (W : World) (hhi : hi ≤ W.heap.size) (hJA0 : AbidesFrom W.heap.size J)
    (hY : ∀ pre x X, J pre X → GO b pre x X → YieldAt Fence.wide (m - 1) Tryz.prog l (encO x) X fun e Y =>
      (e = .returned (.bool true) ∧ J (pre ++ [x]) Y ∧ Holds lo hi X Y) ∨ (e = .returned (.bool false) ∧ Jx (pre ++ [x]) Y))
    (hb : W.cell? ⟨Bs, 0, none⟩ = some (.slice (some ⟨b1, o1, none⟩) n c1)) (hcell : ∀ j, j < n → W.cell? ⟨b1, o1 + j, none⟩ = some (.int .u8 (byt b j))) (hJ : J [] W) :
    CallsIn Fence.wide m Tryz.prog 107 #[.func (.yield l) #[] #[], .pointer (some ⟨Bs, 0, none⟩)] W fun e W' => (∃ v, e = .returned v) ∧
      ((∃ xs : List OI, xs.map (·.at_) = places b ∧ J xs W') ∨ (∃ pre : List OI, (∃ more, places b = pre.map (·.at_) ++ more) ∧ Jx pre W')) := by
  have hArg : ∀ V : World, Holds lo hi W V → Arg V V.heap.size (some ⟨b1, o1, none⟩) c1 b := fun V hV =>
    ⟨fun hp => ⟨b1, o1, rfl, cell_block ((hV.cell (p := ⟨b1, o1 + 0, none⟩) hb1.1 hb1.2).trans (hcell 0 (by have := hn.out; omega))), fun j hj => (hV.cell (p := ⟨b1, o1 + j, none⟩) hb1.1 hb1.2).trans (hcell j (by have := hn.out; omega))⟩, by have := hn.out; omega, fun e => by cases e⟩
  have HC := Lib.hid hcell
  have hJA := hJA0
  clear hcell hJA0
  refine callsIn_of_wp Tryz.func107 rfl trivial ?_ rfl
  simp only [Tryz.ntmps107, List.size_toArray, List.length_cons, List.length_nil, Nat.reduceAdd, Nat.reduceSub, Array.replicate_succ, Array.replicate_zero, List.push_toArray, List.append_toArray, List.nil_append, List.cons_append]
  refine wpIn_wide.2 (wp_scope_straight ((wpIn_wide (n := m)).1 ?_))
  gi_wp2
  refine wpIn_wide.2 (wp_label ?_)
  gi_wp2
  gi_loopw [3] (fun i wr => ∃ (k : Nat) (pre : List OI), k ≤ n ∧ i = .int .i64 (k : Int) ∧ Hid (places b = pre.map (·.at_) ++ rest b k) ∧ J pre wr ∧ Holds lo hi W wr)
    (fun i _ => n - (intOf i).toNat)
  case atStart => exact ⟨0, [], Nat.zero_le _, rfl, Lib.hid rfl, hJ, Holds.refl _ _ _⟩
  case round =>
    obtain ⟨k, pre, hk, rfl, HP, hJs, hH⟩ := hrel
    have hb' := (hH.cell (p := ⟨Bs, 0, none⟩) hBs.1 hBs.2).trans hb
    by_cases hlt : k < n
    · have kx0 := (hH.cell (p := ⟨b1, o1 + k, none⟩) hb1.1 hb1.2).trans (HC.out k hlt)
      have l0 := byt_lo b k; have l1 := byt_hi b k
      obtain ⟨X, hX⟩ : ∃ x, x = byt b k := ⟨_, rfl⟩
      rw [← hX] at kx0 l0 l1
      have HX := Lib.hid hX
      clear hX
      have hne : ¬ c1 = k := by omega
      have hsub : ((n - k : Nat) : Int) = (n : Int) - (k : Int) := by omega
      have HSB := Lib.hid hsub
      clear hsub
      by_cases x0 : X = 0
      · have e0 : (X == 0) = true := by simpa using x0
        have HS := Lib.hid (show optL b k = 1 by rw [optL, if_neg (by have := hn.out; omega), if_pos (by rw [← HX.out]; omega)])
        have HL := Lib.hid (show places b = pre.map (·.at_) ++ [k] by rw [HP.out, rest_last (by rw [HS.out]; omega) (by rw [← HX.out]; exact x0)])
        have NXT : Hid (∃ more, places b = pre.map (·.at_) ++ k :: more) := Lib.hid ⟨[], HL.out⟩
        obtain ⟨D, hDd⟩ : ∃ l, l = (b.drop k).take 1 := ⟨_, rfl⟩
        have HDl := Lib.hid (show D.length = 1 by rw [hDd, List.length_take, List.length_drop]; have := hn.out; omega)
        have hAD : Arg wr wr.heap.size (some ⟨b1, o1 + k, none⟩) (c1 - k) D := by
          rw [hDd]
          have hh := (hArg wr hH).cut k (k + 1) (by have := hn.out; omega)
          rw [cutA, if_neg (by have := hn.out; omega)] at hh
          have e : (b.take (k + 1)).drop k = (b.drop k).take 1 := by rw [List.drop_take]; congr 1; omega
          rw [e] at hh
          simpa [add_off] using hh
        have HDD := Lib.hid hDd
        clear hDd
        gi_wp2_with (refine ⟨trivial, ?_⟩; gi_at_call 79; refine (callsIn_wide.2 (freshT_n (some ⟨b1, o1 + k, none⟩) D 1 (c1 - k) wr.heap.size _ HDl hAD (by omega))).mono ?_; rintro e w2 ⟨P2, p2, rfl, hA2, x2⟩; have hY2 := hY pre ⟨k, P2, p2, 1⟩ w2 (hJA pre wr w2 none hJs (grown_none x2) (fun r e => by cases e)) ⟨NXT.out, HS.out.symm, HDD.out ▸ hA2⟩; obtain ⟨fn, tmps, assign, body, hy, hR⟩ := hY2; dsimp only [encO] at hy)
        refine hR.mono ?_
        rintro e W3 (⟨rfl, hJ3, hk3⟩ | ⟨rfl, hJx3⟩)
        · have hH3 := hH.trans ((Holds.of_below x2 (by have := hH.1; omega)).trans hk3)
          have hb3 := (hH3.cell (p := ⟨Bs, 0, none⟩) hBs.1 hBs.2).trans hb
          have kx3 := (hH3.cell (p := ⟨b1, o1 + k, none⟩) hb1.1 hb1.2).trans (HC.out k hlt)
          rw [← HX.out] at kx3
          clear hb' kx0 hy hR
          gi_wp2
          try rw [Exit.noGoto_normal]
          go_end0
          exact ⟨⟨_, rfl⟩, .inl ⟨_, by rw [List.map_append, HL.out]; rfl, hJ3⟩⟩
        · clear hb' kx0 hy hR
          gi_wp2
          try rw [Exit.noGoto_normal]
          go_end0
          exact ⟨⟨_, rfl⟩, .inr ⟨_, by obtain ⟨more, hm_⟩ := NXT.out; exact ⟨more, by rw [List.map_append, hm_, List.append_assoc]; rfl⟩, hJx3⟩⟩
      · by_cases x1 : X = 1
        · have e0 : (X == 0) = false := by simpa using x0
          have e1 : (X == 1) = true := by simpa using x1
          have HS := Lib.hid (show optL b k = 1 by rw [optL, if_neg (by have := hn.out; omega), if_pos (by rw [← HX.out]; omega)])
          have HL := Lib.hid (show places b = pre.map (·.at_) ++ k :: rest b (k + 1) by rw [HP.out, rest_more (by rw [HS.out]; omega) (by rw [← HX.out]; omega), HS.out])
          have NXT : Hid (∃ more, places b = pre.map (·.at_) ++ k :: more) := Lib.hid ⟨_, HL.out⟩
          obtain ⟨D, hDd⟩ : ∃ l, l = (b.drop k).take 1 := ⟨_, rfl⟩
          have HDl := Lib.hid (show D.length = 1 by rw [hDd, List.length_take, List.length_drop]; have := hn.out; omega)
          have hAD : Arg wr wr.heap.size (some ⟨b1, o1 + k, none⟩) (c1 - k) D := by
            rw [hDd]
            have hh := (hArg wr hH).cut k (k + 1) (by have := hn.out; omega)
            rw [cutA, if_neg (by have := hn.out; omega)] at hh
            have e : (b.take (k + 1)).drop k = (b.drop k).take 1 := by rw [List.drop_take]; congr 1; omega
            rw [e] at hh
            simpa [add_off] using hh
          have HDD := Lib.hid hDd
          clear hDd
          gi_wp2_with (refine ⟨trivial, ?_⟩; gi_at_call 79; refine (callsIn_wide.2 (freshT_n (some ⟨b1, o1 + k, none⟩) D 1 (c1 - k) wr.heap.size _ HDl hAD (by omega))).mono ?_; rintro e w2 ⟨P2, p2, rfl, hA2, x2⟩; have hY2 := hY pre ⟨k, P2, p2, 1⟩ w2 (hJA pre wr w2 none hJs (grown_none x2) (fun r e => by cases e)) ⟨NXT.out, HS.out.symm, HDD.out ▸ hA2⟩; obtain ⟨fn, tmps, assign, body, hy, hR⟩ := hY2; dsimp only [encO] at hy)
          refine hR.mono ?_
          rintro e W3 (⟨rfl, hJ3, hk3⟩ | ⟨rfl, hJx3⟩)
          · have hH3 := hH.trans ((Holds.of_below x2 (by have := hH.1; omega)).trans hk3)
            have hb3 := (hH3.cell (p := ⟨Bs, 0, none⟩) hBs.1 hBs.2).trans hb
            have kx3 := (hH3.cell (p := ⟨b1, o1 + k, none⟩) hb1.1 hb1.2).trans (HC.out k hlt)
            rw [← HX.out] at kx3
            clear hb' kx0 hy hR
            gi_wp2
            go_roundw
            case rel => exact ⟨k + 1, _, by omega, by simp, Lib.hid (by rw [List.map_append, HL.out, List.append_assoc]; rfl), hJ3, hH3⟩
            case measure => simp [intOf]; omega
          · clear hb' kx0 hy hR
            gi_wp2
            try rw [Exit.noGoto_normal]
            go_end0
            exact ⟨⟨_, rfl⟩, .inr ⟨_, by obtain ⟨more, hm_⟩ := NXT.out; exact ⟨more, by rw [List.map_append, hm_, List.append_assoc]; rfl⟩, hJx3⟩⟩
        · have e0 : (X == 0) = false := by simpa using x0
          have e1 : (X == 1) = false := by simpa using x1
          by_cases h2 : n - k < 2
          · have HZ := Lib.hid (show optL b k = 0 by rw [optL, if_neg (by have := hn.out; omega), if_neg (by rw [← HX.out]; omega), if_pos (.inl (by have := hn.out; omega))])
            have d2 : decide (((n - k : Nat) : Int) < 2) = true := by simp; omega
            gi_wp2
            try rw [Exit.noGoto_normal]
            go_end0
            exact ⟨⟨_, rfl⟩, .inl ⟨pre, by rw [HP.out, rest_none HZ.out, List.append_nil], hJs⟩⟩
          · have d2 : decide (((n - k : Nat) : Int) < 2) = false := by simp; omega
            have kx1 := (hH.cell (p := ⟨b1, o1 + (k + 1), none⟩) hb1.1 hb1.2).trans (HC.out (k + 1) (by omega))
            have m0 := byt_lo b (k + 1); have m1 := byt_hi b (k + 1)
            obtain ⟨Y, hYY⟩ : ∃ y, y = byt b (k + 1) := ⟨_, rfl⟩
            rw [← hYY] at kx1 m0 m1
            rw [← Nat.add_assoc] at kx1
            have HY := Lib.hid hYY
            clear hYY
            by_cases y2 : Y < 2
            · have dy : decide (Y < 2) = true := by simpa using y2
              have HZ := Lib.hid (show optL b k = 0 by rw [optL, if_neg (by have := hn.out; omega), if_neg (by rw [← HX.out]; omega), if_pos (by rw [← HY.out]; have := hn.out; omega)])
              gi_wp2
              try rw [Exit.noGoto_normal]
              go_end0
              exact ⟨⟨_, rfl⟩, .inl ⟨pre, by rw [HP.out, rest_none HZ.out, List.append_nil], hJs⟩⟩
            · have dy : decide (Y < 2) = false := by simpa using y2
              by_cases yn : Y > (n : Int) - k
              · have dn : decide (Y > ((n - k : Nat) : Int)) = true := by simp; omega
                have HZ := Lib.hid (show optL b k = 0 by rw [optL, if_neg (by have := hn.out; omega), if_neg (by rw [← HX.out]; omega), if_pos (by rw [← HY.out]; have := hn.out; omega)])
                gi_wp2
                try rw [Exit.noGoto_normal]
                go_end0
                exact ⟨⟨_, rfl⟩, .inl ⟨pre, by rw [HP.out, rest_none HZ.out, List.append_nil], hJs⟩⟩
              · have dn : decide (Y > ((n - k : Nat) : Int)) = false := by simp; omega
                obtain ⟨z, hz⟩ : ∃ z : Nat, Y = (z : Int) := ⟨Y.toNat, by omega⟩
                subst hz
                have HS := Lib.hid (show optL b k = z by rw [optL, if_neg (by have := hn.out; omega), if_neg (by rw [← HX.out]; omega), if_neg (by rw [← HY.out]; have := hn.out; omega), ← HY.out]; rfl)
                have HL := Lib.hid (show places b = pre.map (·.at_) ++ k :: rest b (k + z) by rw [HP.out, rest_more (by rw [HS.out]; omega) (by rw [← HX.out]; omega), HS.out])
                have NXT : Hid (∃ more, places b = pre.map (·.at_) ++ k :: more) := Lib.hid ⟨_, HL.out⟩
                obtain ⟨D, hDd⟩ : ∃ l, l = (b.drop k).take z := ⟨_, rfl⟩
                have HDl := Lib.hid (show D.length = z by rw [hDd, List.length_take, List.length_drop]; have := hn.out; omega)
                have hAD : Arg wr wr.heap.size (some ⟨b1, o1 + k, none⟩) (c1 - k) D := by
                  rw [hDd]
                  have hh := (hArg wr hH).cut k (k + z) (by have := hn.out; omega)
                  rw [cutA, if_neg (by have := hn.out; omega)] at hh
                  have e : (b.take (k + z)).drop k = (b.drop k).take z := by rw [List.drop_take]; congr 1; omega
                  rw [e] at hh
                  simpa [add_off] using hh
                have HDD := Lib.hid hDd
                clear hDd
                gi_wp2_with (refine ⟨trivial, ?_⟩; gi_at_call 79; refine (callsIn_wide.2 (freshT_n (some ⟨b1, o1 + k, none⟩) D z (c1 - k) wr.heap.size _ HDl hAD (by omega))).mono ?_; rintro e w2 ⟨P2, p2, rfl, hA2, x2⟩; have hY2 := hY pre ⟨k, P2, p2, z⟩ w2 (hJA pre wr w2 none hJs (grown_none x2) (fun r e => by cases e)) ⟨NXT.out, HS.out.symm, HDD.out ▸ hA2⟩; obtain ⟨fn, tmps, assign, body, hy, hR⟩ := hY2; dsimp only [encO] at hy)
                refine hR.mono ?_
                rintro e W3 (⟨rfl, hJ3, hk3⟩ | ⟨rfl, hJx3⟩)
                · have hH3 := hH.trans ((Holds.of_below x2 (by have := hH.1; omega)).trans hk3)
                  have hb3 := (hH3.cell (p := ⟨Bs, 0, none⟩) hBs.1 hBs.2).trans hb
                  have kx3 := (hH3.cell (p := ⟨b1, o1 + k, none⟩) hb1.1 hb1.2).trans (HC.out k hlt)
                  rw [← HX.out] at kx3
                  clear hb' kx0 hy hR
                  gi_wp2
                  go_roundw
                  case rel => exact ⟨k + z, _, by omega, by simp, Lib.hid (by rw [List.map_append, HL.out, List.append_assoc]; rfl), hJ3, hH3⟩
                  case measure => simp [intOf]; omega
                · clear hb' kx0 hy hR
                  gi_wp2
                  try rw [Exit.noGoto_normal]
                  go_end0
                  exact ⟨⟨_, rfl⟩, .inr ⟨_, by obtain ⟨more, hm_⟩ := NXT.out; exact ⟨more, by rw [List.map_append, hm_, List.append_assoc]; rfl⟩, hJx3⟩⟩
    · have HZ := Lib.hid (show optL b k = 0 by rw [optL, if_pos (by have := hn.out; omega)])
      have dk : decide (k < n) = false := by simpa using hlt
      gi_wp2
      try rw [Exit.noGoto_normal]
      go_end0
      exact ⟨⟨_, rfl⟩, .inl ⟨pre, by rw [HP.out, rest_none HZ.out, List.append_nil], hJs⟩⟩
set_option maxRecDepth 100000 in
set_option maxHeartbeats 4000000 in
theorem opts0_in (m : Nat) (l Bs c1 : Nat) (A1 : Option Addr) (b : List UInt8) (hn : b.length = 0) (J Jx : List OI → World → Prop) (W : World)
    (hb : W.cell? ⟨Bs, 0, none⟩ = some (.slice A1 0 c1)) (hJ : J [] W) :
    CallsIn Fence.wide m Tryz.prog 107 #[.func (.yield l) #[] #[], .pointer (some ⟨Bs, 0, none⟩)] W fun e W' => (∃ v, e = .returned v) ∧
      ((∃ xs : List OI, xs.map (·.at_) = places b ∧ J xs W') ∨ (∃ pre : List OI, (∃ more, places b = pre.map (·.at_) ++ more) ∧ Jx pre W')) := by
  have HZ := Lib.hid (show places b = [] from rest_none (a := 0) (by unfold optL; rw [if_pos (by omega)]))
  clear hn
  refine callsIn_of_wp Tryz.func107 rfl trivial ?_ rfl
  simp only [Tryz.ntmps107, List.size_toArray, List.length_cons, List.length_nil, Nat.reduceAdd, Nat.reduceSub, Array.replicate_succ, Array.replicate_zero, List.push_toArray, List.append_toArray, List.nil_append, List.cons_append]
  refine wpIn_wide.2 (wp_scope_straight ((wpIn_wide (n := m)).1 ?_))
  gi_wp2
  refine wpIn_wide.2 (wp_label ?_)
  gi_wp2
  gi_loopw [3] (fun i wr => i = .int .i64 0 ∧ wr = W) (fun _ _ => 0)
  case atStart => exact ⟨rfl, rfl⟩
  case round =>
    obtain ⟨rfl, rfl⟩ := hrel
    gi_wp2
    try rw [Exit.noGoto_normal]
    go_end0
    exact ⟨⟨_, rfl⟩, .inl ⟨[], by rw [HZ.out]; rfl, hJ⟩⟩
/-- Options: new memory; an iterator that tells the options in order, each in memory of its own. -/
theorem opts_any (A : Option Addr) (bs : List UInt8) (c B : Nat) (w : World) (h : Arg w B A c bs) (hl : bs.length ≤ 1000000) :
    Calls Tryz.prog 73 #[.slice A bs.length c] w fun e w' => ∃ Bs, e = .returned (.func (.func 107) #[] #[.pointer (some ⟨Bs, 0, none⟩)]) ∧ Below w.heap.size w w' ∧
      (∀ m, 1 ≤ m → SeqTold m Tryz.prog 107 #[.pointer (some ⟨Bs, 0, none⟩)] encO (GO bs) (Holds w.heap.size w'.heap.size)
        (fun xs => xs.map (·.at_) = places bs) (fun pre => ∃ more, places bs = pre.map (·.at_) ++ more) w') := by
  obtain ⟨n, hn'⟩ : ∃ n, n = bs.length := ⟨_, rfl⟩
  have hn := Lib.hid hn'.symm
  have hfr := freshT_any A bs c B w h (by omega)
  rw [← hn'] at hfr hl ⊢
  clear hn'
  go_enter Tryz.func73, Tryz.ntmps73
  go_wp2_with (go_at_call 79; refine hfr.mono ?_; rintro e w1 ⟨v, rfl, hm⟩; obtain ⟨A2, c2, rfl, hle, _, ho, hb1⟩ := hm; rw [hn.out])
  go_ret
  have hbx := Boxed.new w1 22 (.slice A2 n c2)
  have hb2 : Below w.heap.size w (w1.alloc (.cells #[.slice A2 n c2] 22)) := hb1.alloc hb1.size _
  have hs : (w1.alloc (.cells #[.slice A2 n c2] 22)).heap.size = w1.heap.size + 1 := by simp
  have hA2 := Made.arg ho
  refine ⟨w1.heap.size, rfl, hb2, fun m hm l J Jx W hW hJa _ hY hJ => ?_⟩
  have hbW := (hW.cell (p := ⟨w1.heap.size, 0, none⟩) (by rw [hs]; simp)).trans hbx.cell
  by_cases h0 : n = 0
  · subst h0
    exact opts0_in m l w1.heap.size c2 A2 bs hn.out J Jx W hbW hJ
  · obtain ⟨b1, o1, e1, hlt1, hc1⟩ := hA2.rd (by rw [hn.out]; omega)
    subst e1
    have hge : w.heap.size ≤ b1 := by
      rcases ho.2 with ⟨e, _⟩ | ⟨g, cap, cur, e, hg, _⟩
      · cases e
      · cases e; exact hg
    refine opts1_in m hm l w.heap.size _ w1.heap.size b1 o1 c2 n bs hn hl (by rw [← hn.out]; exact hle) ⟨hb1.size, by rw [hs]; omega⟩ ⟨hge, by rw [hs]; omega⟩ J Jx W hW.size hJa hY hbW ?_ hJ
    intro j hj
    exact (hW.cell (p := ⟨b1, o1 + j, none⟩) (by rw [hs]; exact Nat.lt_succ_of_lt hlt1)).trans ((Below.cell ((Below.refl w1.heap.size w1).alloc (Nat.le_refl _) _) hlt1).trans (hc1 j (by rw [hn.out]; exact hj)))
end Go.Proofs.YtodlfdnegcfhcaaGreat

/-
  Contract of tcp.MSS. Conditions are each theorem's own.
-/
namespace Go.Proofs.YtodlfdnegcfhcaaGreat
open Go.RowKit Go.Shelf
attribute [local go_sem] Oper.semAt_some
theorem byt_take (b : List UInt8) {n j : Nat} (h : j < n) : byt (b.take n) j = byt b j := by simp [byt, h]
theorem loadv_int {w : World} {g : Nat} {v : Value} (h : Boxed w g 3 v) : (loadVar 3 ⟨g, 0, none⟩).run Tryz.prog w = .ok v w := by
  have hagg : (isAgg 3).run Tryz.prog w = .ok false w := by
    unfold isAgg
    rw [Sem.run_bind, run_underlying Tryz.underlying3 w]; rfl
  have hc := h.cell
  simp [loadVar, Sem.run_bind, hagg, hc]
theorem loadv_bool {w : World} {g : Nat} {v : Value} (h : Boxed w g 4 v) : (loadVar 4 ⟨g, 0, none⟩).run Tryz.prog w = .ok v w := by
  have hagg : (isAgg 4).run Tryz.prog w = .ok false w := by
    unfold isAgg
    rw [Sem.run_bind, run_underlying Tryz.underlying4 w]; rfl
  have hc := h.cell
  simp [loadVar, Sem.run_bind, hagg, hc]
theorem cells3 {fn : Func} {p q r : Tmp} {tmps : Array Value} {w : World} {g : Nat} {x y z : Value} (h : fn.results = #[.cell p 3, .cell q 3, .cell r 4])
    (hp : tmps.getD p undef = .pointer (some ⟨g, 0, none⟩)) (hq : tmps.getD q undef = .pointer (some ⟨g + 1, 0, none⟩)) (hr : tmps.getD r undef = .pointer (some ⟨g + 1 + 1, 0, none⟩))
    (h0 : Boxed w g 3 x) (h1 : Boxed w (g + 1) 3 y) (h2 : Boxed w (g + 1 + 1) 4 z) :
    (results fn tmps).run Tryz.prog w = .ok (.tuple #[x, y, z]) w := by
  have hp' : tmps[p]?.getD undef = .pointer (some ⟨g, 0, none⟩) := by simpa using hp
  have hq' : tmps[q]?.getD undef = .pointer (some ⟨g + 1, 0, none⟩) := by simpa using hq
  have hr' : tmps[r]?.getD undef = .pointer (some ⟨g + 1 + 1, 0, none⟩) := by simpa using hr
  simp [results, h, hp', hq', hr', asAddr, loadv_int h0, loadv_int h1, loadv_bool h2]
/-- Three results in blocks of their own, in a row. -/
structure Three (W : World) (g : Nat) (x y : Int) (z : Bool) : Prop where
  one : Boxed W g 3 (.int .i64 x)
  two : Boxed W (g + 1) 3 (.int .i64 y)
  three : Boxed W (g + 1 + 1) 4 (.bool z)
theorem Three.below {W V : World} {g n : Nat} {x y : Int} {z : Bool} (h : Three W g x y z) (hb : Below n W V) (hn : g + 1 + 1 < n) : Three V g x y z :=
  ⟨Boxed.below h.one hb (by omega), Boxed.below h.two hb (by omega), Boxed.below h.three hb hn⟩
theorem Three.kept {W V : World} {g n : Nat} {x y : Int} {z : Bool} {r : Option Nat} (h : Three W g x y z) (hg : W.grownBy V r) (hr : ∀ k, r = some k → n ≤ k ∧ ∃ o : Obj, W.heap[k]? = some o ∧ o.isCells = false) : Three V g x y z :=
  ⟨box_keep h.one hg hr, box_keep h.two hg hr, box_keep h.three hg hr⟩
theorem Three.set {W : World} {g : Nat} {x y : Int} {z : Bool} (h : Three W g x y z) (x' y' : Int) (z' : Bool) :
    Three (((W.setCell ⟨g, 0, none⟩ (.int .i64 x')).setCell ⟨g + 1, 0, none⟩ (.int .i64 y')).setCell ⟨g + 1 + 1, 0, none⟩ (.bool z')) g x' y' z' :=
  ⟨(((Boxed.set _ h.one).other (by omega) _).other (by omega) _), ((Boxed.set _ (h.two.other (by omega) _)).other (by omega) _), Boxed.set _ ((h.three.other (by omega) _).other (by omega) _)⟩
theorem find_split {α : Type} {p : α → Bool} {l pre more : List α} (h : l = pre ++ more) (hn : ∀ x ∈ pre, p x = false) : l.find? p = more.find? p := by
  subst h
  rw [List.find?_append, List.find?_eq_none.2 (fun x hx => by simp [hn x hx]), Option.none_or]
section
variable (q : PT) (A A' : Option Addr) (c c' : Nat) (w : World)
set_option maxRecDepth 100000 in
set_option maxHeartbeats 4000000 in
theorem cTmss (B : Nat) (hO : Arg w B A c q.opt) (hB0 : B ≤ w.heap.size) (ho0 : q.opt.length ≤ 1000000) :
    Calls Tryz.prog 44 #[tsv q A c A' c'] w fun e w' => e = .returned (.tuple #[.int .i64 (mssN q.opt), .int .i64 (mssA q.opt), .bool (mssK q.opt)]) ∧ Below w.heap.size w w' := by
  obtain ⟨W, hW⟩ : ∃ W, W = (((w.alloc (.cells (tsa q A c A' c') 41)).alloc (.cells #[.int .i64 0] 3)).alloc (.cells #[.int .i64 0] 3)).alloc (.cells #[.bool false] 4) := ⟨_, rfl⟩
  have hB : Below w.heap.size w W := by rw [hW]; exact ((((Below.refl w.heap.size w).alloc (Nat.le_refl _) _).alloc (by simp) _).alloc (by simp; omega) _).alloc (by simp; omega) _
  have hs : W.heap.size = w.heap.size + 4 := by rw [hW]; simp
  have k8 : W.cell? ⟨w.heap.size, 8, none⟩ = some (.slice A q.opt.length c) := by
    have h0 := (Atts.new (q := q) (A := A) (c := c) (A' := A') (c' := c') w).opt
    have hb : Below (w.heap.size + 1) (w.alloc (.cells (tsa q A c A' c') 41)) W := by rw [hW]; exact (((Below.refl _ _).alloc (by simp) _).alloc (by simp) _).alloc (by simp) _
    exact (hb.cell (p := ⟨w.heap.size, 8, none⟩) (Nat.lt_succ_self _)).trans h0
  have h3 : Three W (w.heap.size + 1) 0 0 false := by
    have e : ∀ (V : World) (o : Obj), (V.alloc o).heap[V.heap.size]? = some o := World.alloc_heap_new
    have s1 : (w.alloc (.cells (tsa q A c A' c') 41)).heap.size = w.heap.size + 1 := by simp
    have s2 : ((w.alloc (.cells (tsa q A c A' c') 41)).alloc (.cells #[.int .i64 0] 3)).heap.size = w.heap.size + 1 + 1 := by simp
    have s3 : (((w.alloc (.cells (tsa q A c A' c') 41)).alloc (.cells #[.int .i64 0] 3)).alloc (.cells #[.int .i64 0] 3)).heap.size = w.heap.size + 1 + 1 + 1 := by simp
    subst hW
    refine ⟨?_, ?_, ?_⟩
    · have := Boxed.new (w.alloc (.cells (tsa q A c A' c') 41)) 3 (.int .i64 0)
      rw [s1] at this
      exact (this.alloc _).alloc _
    · have := Boxed.new ((w.alloc (.cells (tsa q A c A' c') 41)).alloc (.cells #[.int .i64 0] 3)) 3 (.int .i64 0)
      rw [s2] at this
      exact this.alloc _
    · have := Boxed.new (((w.alloc (.cells (tsa q A c A' c') 41)).alloc (.cells #[.int .i64 0] 3)).alloc (.cells #[.int .i64 0] 3)) 4 (.bool false)
      rw [s3] at this
      exact this
  have hOW := hO.below (hB.mono hB0)
  have HS := Lib.hid hs
  clear hs
  rw [tsv_eq]
  refine (callsIn_wide (n := 4)).1 ?_
  refine callsIn_of_wp_marks Tryz.func44 rfl trivial ?_ rfl
  simp only [Tryz.ntmps44, List.size_toArray, List.length_cons, List.length_nil, Nat.reduceAdd, Nat.reduceSub, Array.replicate_succ, Array.replicate_zero, List.push_toArray, List.append_toArray, List.nil_append, List.cons_append]
  subst hW
  gi_wp2_with (refine ⟨trivial, ?_⟩; gi_at_call 73; refine (callsIn_wide.2 (opts_any A q.opt c B _ hOW ho0)).mono ?_; rintro e w1 ⟨Bs, rfl, x1, hseq⟩)
  clear k8
  generalize (((w.alloc (.cells (tsa q A c A' c') 41)).alloc (.cells #[.int .i64 0] 3)).alloc (.cells #[.int .i64 0] 3)).alloc (.cells #[.bool false] 4) = W at *
  have hz1 := x1.size
  have h31 := h3.below x1 (by have := HS.out; omega)
  have hB1 : Below w.heap.size w w1 := hB.trans (x1.mono (by have := HS.out; omega))
  have hz2 : w.heap.size + 4 ≤ w1.heap.size := by have := HS.out; omega
  clear h3 hB HS
  refine range_told (by omega) (gf := 107) (lb := #[.pointer (some ⟨Bs, 0, none⟩)]) rfl (enters_of Tryz.func107 (by kernel_rfl) rfl)
    (hseq (4 - 1) (by omega)) Holds.trans (fun V l r r' hl hr => Holds.b (Nat.le_refl _) V l _ _ hl hr rfl rfl) (Below.refl _ _) (fun _ => rfl)
    (fun pre x V l r r' h _ hl => GO.turn h hl)
    (fun pre X => (∀ x ∈ pre, mssB q.opt x.at_ = false) ∧ Three X (w.heap.size + 1) 0 0 false ∧ Below w.heap.size w X)
    (fun cd _ X => cd = .ret ∧ ∃ a, mssT q.opt = some a ∧ Three X (w.heap.size + 1) (n2 q.opt (a + 2)) (a : Int) true ∧ Below w.heap.size w X)
    (fun pre X Y r hs hg hr => ⟨hs.1, hs.2.1.kept hg hr, below_keep hs.2.2 hg hr (by omega) (Nat.le_refl _)⟩)
    (fun cd pre X Y r hs hg hr => by obtain ⟨h1, a, h2, h3, h4⟩ := hs; exact ⟨h1, a, h2, h3.kept hg hr, below_keep h4 hg hr (by omega) (Nat.le_refl _)⟩)
    ⟨by simp, h31, hB1⟩
    (fun x => { tmps := #[.agg (tsa q A c A' c'), .pointer (some ⟨w.heap.size, 0, none⟩), .pointer (some ⟨w.heap.size + 1, 0, none⟩), .pointer (some ⟨w.heap.size + 1 + 1, 0, none⟩), .pointer (some ⟨w.heap.size + 1 + 1 + 1, 0, none⟩), .int .i64 (x.at_ : Int), .slice x.A x.n x.c, undef, undef, .pointer (some ⟨w.heap.size, 8, none⟩), .slice A q.opt.length c, .func (.func 107) #[] #[.pointer (some ⟨Bs, 0, none⟩)], .int .i64 (x.at_ : Int), .slice x.A x.n x.c, undef, undef, undef, undef, undef, undef, undef, undef, undef, undef, undef, undef, undef, undef, undef, undef], defers := [] }) ?assign ?body ?done ?stop
  case assign =>
    intro l x X K hK
    dsimp only [encO]
    gi_wp2
    exact hK
  case body =>
    rintro l pre ⟨k, XA, xc, n⟩ X ⟨hpre, h3X, hBX⟩ ⟨hpl, hn, hAX⟩
    dsimp only at hpl hn hAX ⊢
    have hpl' := hpl
    obtain ⟨more, hmore⟩ := hpl
    have hn0 : 0 < optL q.opt k := places_mem (by rw [hmore]; simp)
    have hle := optL_le hn0
    rw [← hn] at hn0 hle
    obtain ⟨D, hD⟩ : ∃ D, D = (q.opt.drop k).take n := ⟨_, rfl⟩
    rw [← hD] at hAX
    have hDl : D.length = n := by rw [hD, List.length_take, List.length_drop]; omega
    have hDb : ∀ j, j < n → byt D j = byt q.opt (k + j) := fun j hj => by rw [hD, byt_take _ hj, byt_drop]
    have hcapX := hAX.cap
    obtain ⟨b0, off, e, hb0, hc0⟩ := hAX.rd (by omega)
    obtain rfl := e
    have kx0 := hc0 0 (by omega)
    rw [hDb 0 hn0, Nat.add_zero, Nat.add_zero] at kx0
    have HN := Lib.hid hn
    have HM := Lib.hid hmore
    have HP := Lib.hid hpre
    have no : mssB q.opt k = false → ∀ x ∈ pre ++ [⟨k, some ⟨b0, off, none⟩, xc, n⟩], mssB q.opt x.at_ = false := fun hk x hx => by
      rcases List.mem_append.1 hx with hx | hx
      · exact HP.out x hx
      · rw [List.mem_singleton.1 hx]; exact hk
    have HNO := Lib.hid no
    have Hle := Lib.hid hle
    clear hmore hn hpre hpl' no hle
    obtain ⟨Z, hZ⟩ : ∃ z, z = byt q.opt k := ⟨_, rfl⟩
    rw [← hZ] at kx0
    have HZ := Lib.hid hZ
    clear hZ
    by_cases z2 : Z = 2
    · subst z2
      by_cases n4 : n = 4
      · subst n4
        have hg := get_any (some ⟨b0, off, none⟩) D xc X.heap.size 2 2 X hAX.rd (by omega) hAX.cap
        rw [hDl, show getV D 2 2 = n2 q.opt (k + 2) from (get_two (b := D) (i := 2) (by omega)).trans (by unfold n2; rw [hDb 2 (by omega), hDb (2 + 1) (by omega)])] at hg
        have HG := Lib.hid hg
        obtain ⟨v, hv⟩ : ∃ v, v = n2 q.opt (k + 2) := ⟨_, rfl⟩
        have HV := Lib.hid hv
        rw [← hv] at hg
        clear hc0 hDb hD hDl HG hv
        have c1 := Boxed.cell h3X.one; have f1 := Boxed.frozen h3X.one
        have t2 := Boxed.other h3X.two (B' := w.heap.size + 1) (by omega) (.int .i64 v)
        have t3 := Boxed.other (Boxed.other h3X.three (B' := w.heap.size + 1) (by omega) (.int .i64 v)) (B' := w.heap.size + 1 + 1) (by omega) (.int .i64 (k : Int))
        have c2 := Boxed.cell t2; have f2 := Boxed.frozen t2
        have c3 := Boxed.cell t3; have f3 := Boxed.frozen t3
        gi_wp2_with (refine ⟨trivial, ?_⟩; gi_at_call 74; refine (callsIn_wide.2 hg).mono ?_; rintro e w' ⟨rfl, rfl⟩)
        have hT : mssT q.opt = some k := by
          unfold mssT
          rw [find_split HM.out (fun x hx => by obtain ⟨y, hy, rfl⟩ := List.mem_map.1 hx; exact HP.out y hy), List.find?_cons_of_pos (by unfold mssB; rw [← HZ.out, ← HN.out]; rfl)]
        exact ⟨(((KeepsOthers.setCell _ _ _).from _).trans ((KeepsOthers.setCell _ _ _).from _)).trans ((KeepsOthers.setCell _ _ _).from _), rfl, k, hT, by rw [← HV.out]; exact Three.set h3X _ _ _,
          ((hBX.setCell (p := ⟨w.heap.size + 1, 0, none⟩) (by simp) _).setCell (p := ⟨w.heap.size + 1 + 1, 0, none⟩) (by simp; omega) _).setCell (p := ⟨w.heap.size + 1 + 1 + 1, 0, none⟩) (by simp; omega) _⟩
      · have e4 : ((n : Int) == 4) = false := by simp; omega
        have hno := HNO.out (by unfold mssB; rw [← HN.out, decide_eq_false n4, Bool.and_false])
        have HNN := Lib.hid hno
        clear hno hc0 hDb hD hDl
        gi_wp2
        exact ⟨KeepsFrom.refl _ _, Holds.refl _ _ _, HNN.out, h3X, hBX⟩
    · have e2 : (Z == 2) = false := by simpa using z2
      have hno := HNO.out (by unfold mssB; rw [← HZ.out, decide_eq_false z2, Bool.false_and])
      have HNN := Lib.hid hno
      clear hno hc0 hDb hD hDl
      gi_wp2
      exact ⟨KeepsFrom.refl _ _, Holds.refl _ _ _, HNN.out, h3X, hBX⟩
  case done =>
    rintro D xs X hD hS ⟨hno, h3X, hBX⟩ hK
    have hT : mssT q.opt = none := by
      unfold mssT
      rw [← hS]
      exact List.find?_eq_none.2 (fun x hx => by obtain ⟨y, hy, rfl⟩ := List.mem_map.1 hx; rw [hno y hy]; simp)
    have HT := Lib.hid hT
    clear hT hno hS hseq hO hOW
    have hm1 : Marks w1.heap.size X.heap.size [{ target := .collected D, args := #[] }] X := (Marks.push (hi := D) (ds := []) trivial (Nat.le_refl _) hD hK).more (heap_lt hK)
    have c1 := Boxed.cell h3X.one; have f1 := Boxed.frozen h3X.one
    have t2 := Boxed.other h3X.two (B' := w.heap.size + 1) (by omega) (.int .i64 0)
    have t3 := Boxed.other (Boxed.other h3X.three (B' := w.heap.size + 1) (by omega) (.int .i64 0)) (B' := w.heap.size + 1 + 1) (by omega) (.int .i64 0)
    have c2 := Boxed.cell t2; have f2 := Boxed.frozen t2
    have c3 := Boxed.cell t3; have f3 := Boxed.frozen t3
    gi_wp2
    refine leaves_marks w1.heap.size (fun Y => Three Y (w.heap.size + 1) 0 0 false ∧ Below w.heap.size w Y) (fun Y D hY h1 h2 => ⟨hY.1.kept (n := w1.heap.size) (grownBy_putObj' Y D _) (fun k e => by cases e; exact ⟨h1, _, h2, rfl⟩), hY.2.trans (belowK_b (w := w) (Nat.le_refl _) Y D _ _ (by omega) h2 rfl rfl)⟩)
      (fun Y hY => ⟨_, cells3 rfl rfl rfl rfl hY.1.one hY.1.two hY.1.three, ?_, hY.2⟩) _ _ _ (hm1.keep (fun k h1 _ => (Below.heap_setCell _ _ _ _ (by simp; omega)).trans ((Below.heap_setCell _ _ _ _ (by simp; omega)).trans (Below.heap_setCell _ _ _ _ (by simp; omega)))))
      ⟨Three.set h3X _ _ _, ((hBX.setCell (p := ⟨w.heap.size + 1, 0, none⟩) (by simp) _).setCell (p := ⟨w.heap.size + 1 + 1, 0, none⟩) (by simp; omega) _).setCell (p := ⟨w.heap.size + 1 + 1 + 1, 0, none⟩) (by simp; omega) _⟩
    unfold mssN mssA mssK
    rw [HT.out]
    rfl
  case stop =>
    rintro D cd pre X hD _ ⟨rfl, a, ha, h3X, hBX⟩ hK
    gi_wp2
    have hm1 : Marks w1.heap.size X.heap.size [{ target := .collected D, args := #[] }] X := (Marks.push (hi := D) (ds := []) trivial (Nat.le_refl _) hD hK).more (heap_lt hK)
    refine leaves_marks w1.heap.size (fun Y => Three Y (w.heap.size + 1) (n2 q.opt (a + 2)) (a : Int) true ∧ Below w.heap.size w Y) (fun Y D hY h1 h2 => ⟨hY.1.kept (n := w1.heap.size) (grownBy_putObj' Y D _) (fun k e => by cases e; exact ⟨h1, _, h2, rfl⟩), hY.2.trans (belowK_b (w := w) (Nat.le_refl _) Y D _ _ (by omega) h2 rfl rfl)⟩)
      (fun Y hY => ⟨_, cells3 rfl rfl rfl rfl hY.1.one hY.1.two hY.1.three, ?_, hY.2⟩) _ _ X hm1 ⟨h3X, hBX⟩
    unfold mssN mssA mssK
    rw [ha]
    rfl
end
end Go.Proofs.YtodlfdnegcfhcaaGreat
