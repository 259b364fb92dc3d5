/-
  Contracts and lemmas on which the proofs of this seat stand (several texts in one). Conditions are each theorem's own.
-/
import Derived.Test.YtggcjjcgiphjeaaMb4

/-
  Contract of the document's Parse of layer 8. Conditions are each theorem's own.
-/
namespace Go.Proofs.Ytggcjjcgiphjeaa
open Go.RowKit

theorem r8num (A : Option Addr) (bs : List UInt8) (c B : Nat) (at_ s : Int) (w : World) (h : Rd w B A bs) (hl : bs.length ≤ 1099511627776) :
    Calls Try.prog 58 #[.slice A bs.length c, .int .i64 at_, .int .i64 s] w fun e w' => e = .returned (.int .i64 (getV bs at_ s)) ∧ w = w' := by
  go_enter Try.func58, Try.ntmps58
  go_wp2_with (go_at_call 48; refine (rget_any A bs c B at_ s _ h hl).mono ?_; rintro e w' ⟨rfl, rfl⟩)
  go_ret
  exact ⟨rfl, rfl⟩
section
variable (b : List UInt8) (A : Option Addr) (c : Nat) (src dst : Int) (w : World)
set_option maxRecDepth 100000 in
set_option maxHeartbeats 8000000 in
theorem rTparse (B : Nat) (hR : Arg w B A c b) (hB : B ≤ w.heap.size) (hl : b.length ≤ 1000000) :
    Calls Try.prog 30 #[.int .i64 src, .int .i64 dst, .slice A b.length c] w fun e w' => ∃ P p P' p', e = .returned (.tuple #[tsv (prsT src dst b) P p P' p', .int .i64 (badT src dst b)]) ∧ Made w w' (.slice P (prsT src dst b).opt.length p) (prsT src dst b).opt ∧ Made w w' (.slice P' (prsT src dst b).dat.length p') (prsT src dst b).dat := by
  have hBW : Below w.heap.size w (w.alloc (.cells (tsa tsz none 0 none 0) 39)) := (Below.refl w.heap.size w).alloc (Nat.le_refl _) _
  have hg := World.alloc_heap_new w (.cells (tsa tsz none 0 none 0) 39)
  have hz : w.heap.size < (w.alloc (.cells (tsa tsz none 0 none 0) 39)).heap.size := by simp
  have hcap := hR.cap
  go_enter Try.func30, Try.ntmps30
  go_upto_region 1 with fail
  rw [show #[.int .i64 0, .int .i64 0, .int .i64 0, .int .i64 0, .int .i64 0, .int .i64 0, .int .i64 0, .int .i64 0, .slice none 0 0, .slice none 0 0] = tsa tsz none 0 none 0 from rfl]
  generalize w.alloc (.cells (tsa tsz none 0 none 0) 39) = W at *
  have hR1 := hR.below (hBW.mono hB)
  by_cases h20 : b.length < 20
  · have d20 : decide ((b.length : Int) < 20) = true := by simp; omega
    have HE := Lib.hid (show badT src dst b = 3 by rw [badT, if_pos h20])
    have HV := Lib.hid (show prsT src dst b = tsz by rw [prsT, HE.out]; rfl)
    go_wp2_with (first | ((with_reducible show wpList _ _ _ (Oper.mk _ (Op.store 39 _ _) _ _ _ _ :: _) _ _); refine ts_store (g := w.heap.size) (cs := tsa tsz none 0 none 0) rfl rfl hg rfl rfl (ts_one _ _ _ _ _) ?_))
    exact bodyPost_ret (res2 rfl rfl (ts_load_run (setRow_heap _ _ _ _ _ _ hg) rfl)) rfl ⟨none, 0, none, 0, by rw [HV.out, HE.out]; rfl, by rw [HV.out]; exact Made.nil _ _ (below_row hBW (Nat.le_refl _)), by rw [HV.out]; exact Made.nil _ _ (below_row hBW (Nat.le_refl _))⟩
  · have d20 : decide ((b.length : Int) < 20) = false := by simp; omega
    obtain ⟨b0, off, rfl, hbB, hcell⟩ := hR1.rd (by omega)
    have kw12 := hcell 12 (by omega)
    have kw13 := hcell 13 (by omega)
    clear hcell
    have G0 := Lib.hid (show getV b 0 2 = n2 b 0 from get_two (b := b) (i := 0) (by omega))
    have G2 := Lib.hid (show getV b 2 2 = n2 b 2 from get_two (b := b) (i := 2) (by omega))
    have G4 := Lib.hid (show getV b 4 4 = n4 b 4 from get_four (b := b) (i := 4) (by omega))
    have G8 := Lib.hid (show getV b 8 4 = n4 b 8 from get_four (b := b) (i := 8) (by omega))
    have G14 := Lib.hid (show getV b 14 2 = n2 b 14 from get_two (b := b) (i := 14) (by omega))
    have G18 := Lib.hid (show getV b 18 2 = n2 b 18 from get_two (b := b) (i := 18) (by omega))
    obtain ⟨X0, e0⟩ : ∃ n, n = n2 b 0 := ⟨_, rfl⟩
    obtain ⟨X2, e2⟩ : ∃ n, n = n2 b 2 := ⟨_, rfl⟩
    obtain ⟨X4, e4⟩ : ∃ n, n = n4 b 4 := ⟨_, rfl⟩
    obtain ⟨X8, e8⟩ : ∃ n, n = n4 b 8 := ⟨_, rfl⟩
    obtain ⟨X12, e12⟩ : ∃ n, n = byt b 12 := ⟨_, rfl⟩
    obtain ⟨X13, e13⟩ : ∃ n, n = byt b 13 := ⟨_, rfl⟩
    obtain ⟨X14, e14⟩ : ∃ n, n = n2 b 14 := ⟨_, rfl⟩
    obtain ⟨X18, e18⟩ : ∃ n, n = n2 b 18 := ⟨_, rfl⟩
    have l0 : 0 ≤ X12 ∧ X12 ≤ 255 := by rw [e12]; exact ⟨byt_lo b 12, byt_hi b 12⟩
    have l13 : 0 ≤ X13 ∧ X13 ≤ 255 := by rw [e13]; exact ⟨byt_lo b 13, byt_hi b 13⟩
    have hlx : hlT b = X12 / 16 * 4 := by rw [e12]; rfl
    obtain ⟨H, hH⟩ : ∃ n : Nat, (n : Int) = hlT b := ⟨(hlT b).toNat, by omega⟩
    clear hlx
    have HH12 := Lib.hid (show (H : Int) = X12 / 16 * 4 by rw [hH, e12]; rfl)
    obtain ⟨O, hOd⟩ : ∃ l, l = (b.take H).drop 20 := ⟨_, rfl⟩
    obtain ⟨D, hDd⟩ : ∃ l, l = b.drop H := ⟨_, rfl⟩
    have HRW := Lib.hid (show rawT b = ⟨X0, X2, X4, X8, X12 % 16, X13, X14, X18, O, D⟩ by rw [rawT, ← hH, Int.toNat_natCast, ← hOd, ← hDd, e0, e2, e4, e8, e12, e13, e14, e18])
    have HH := Lib.hid hH.symm
    have hHb : H ≤ 60 := by have := HH12.out; omega
    rw [← e0] at G0; rw [← e2] at G2; rw [← e4] at G4; rw [← e8] at G8; rw [← e12] at kw12; rw [← e13] at kw13; rw [← e14] at G14; rw [← e18] at G18
    clear e0 e2 e4 e8 e12 e13 e14 e18 hH
    go_upto_region 4 with fail
    rw [← HH12.out]
    have HTM := Lib.hid (show X12.tmod 16 = X12 % 16 from Int.tmod_eq_emod_of_nonneg l0.1)
    have HW1 := Lib.hid (IntWalk.i64_in (X12 % 16) (by omega))
    have HW2 := Lib.hid (IntWalk.i64_in X13 (by omega))
    by_cases s1 : H < 20
    · have d1 : decide ((H : Int) < 20) = true := by simp; omega
      have HE := Lib.hid (show badT src dst b = 4 by rw [badT, if_neg h20, if_pos (by rw [HH.out]; omega)])
      have HV := Lib.hid (show prsT src dst b = tsz by rw [prsT, HE.out]; rfl)
      go_wp2_with (first | ((with_reducible show wpList _ _ _ (Oper.mk _ (Op.store 39 _ _) _ _ _ _ :: _) _ _); refine ts_store (g := w.heap.size) (cs := tsa tsz none 0 none 0) rfl rfl hg rfl rfl (ts_one _ _ _ _ _) ?_))
      exact bodyPost_ret (res2 rfl rfl (ts_load_run (setRow_heap _ _ _ _ _ _ hg) rfl)) rfl ⟨none, 0, none, 0, by rw [HV.out, HE.out]; rfl, by rw [HV.out]; exact Made.nil _ _ (below_row hBW (Nat.le_refl _)), by rw [HV.out]; exact Made.nil _ _ (below_row hBW (Nat.le_refl _))⟩
    · have d1 : decide ((H : Int) < 20) = false := by simp; omega
      by_cases s2 : b.length < H
      · have d2 : decide ((b.length : Int) < (H : Int)) = true := by simp; omega
        have HE := Lib.hid (show badT src dst b = 3 by rw [badT, if_neg h20, if_neg (by rw [HH.out]; omega), if_pos (by rw [HH.out]; omega)])
        have HV := Lib.hid (show prsT src dst b = tsz by rw [prsT, HE.out]; rfl)
        go_wp2_with (first | ((with_reducible show wpList _ _ _ (Oper.mk _ (Op.store 39 _ _) _ _ _ _ :: _) _ _); refine ts_store (g := w.heap.size) (cs := tsa tsz none 0 none 0) rfl rfl hg rfl rfl (ts_one _ _ _ _ _) ?_))
        exact bodyPost_ret (res2 rfl rfl (ts_load_run (setRow_heap _ _ _ _ _ _ hg) rfl)) rfl ⟨none, 0, none, 0, by rw [HV.out, HE.out]; rfl, by rw [HV.out]; exact Made.nil _ _ (below_row hBW (Nat.le_refl _)), by rw [HV.out]; exact Made.nil _ _ (below_row hBW (Nat.le_refl _))⟩
      · have d2 : decide ((b.length : Int) < (H : Int)) = false := by simp; omega
        by_cases s3 : 65535 < b.length
        · have d3 : decide (65535 < (b.length : Int)) = true := by simp; omega
          have HE := Lib.hid (show badT src dst b = 6 by rw [badT, if_neg h20, if_neg (by rw [HH.out]; omega), if_neg (by rw [HH.out]; omega), if_pos (by omega)])
          have HV := Lib.hid (show prsT src dst b = tsz by rw [prsT, HE.out]; rfl)
          go_wp2_with (first | ((with_reducible show wpList _ _ _ (Oper.mk _ (Op.store 39 _ _) _ _ _ _ :: _) _ _); refine ts_store (g := w.heap.size) (cs := tsa tsz none 0 none 0) rfl rfl hg rfl rfl (ts_one _ _ _ _ _) ?_))
          exact bodyPost_ret (res2 rfl rfl (ts_load_run (setRow_heap _ _ _ _ _ _ hg) rfl)) rfl ⟨none, 0, none, 0, by rw [HV.out, HE.out]; rfl, by rw [HV.out]; exact Made.nil _ _ (below_row hBW (Nat.le_refl _)), by rw [HV.out]; exact Made.nil _ _ (below_row hBW (Nat.le_refl _))⟩
        · have d3 : decide (65535 < (b.length : Int)) = false := by simp; omega
          have HOl := Lib.hid (show O.length = H - 20 by rw [hOd]; simp; omega)
          have HDl := Lib.hid (show D.length = b.length - H by rw [hDd]; simp)
          have hO : Arg w B (cutA (some ⟨b0, off, none⟩) c 20) (c - 20) O := by rw [hOd]; exact hR.cut 20 H (by omega)
          have hD : Arg w B (cutA (some ⟨b0, off, none⟩) c H) (c - H) D := by rw [hDd]; exact hR.cut_lo H
          obtain ⟨N, hN⟩ : ∃ n, n = rightB [psd src dst 6 (b.length : Int), b] := ⟨_, rfl⟩
          have HN := Lib.hid hN
          have HBD := Lib.hid (show badT src dst b = if N = false then 5 else 0 by rw [badT, if_neg h20, if_neg (by rw [HH.out]; omega), if_neg (by rw [HH.out]; omega), if_neg (by omega), ← hN])
          clear hN hOd hDd
          cases N
          · have HE := Lib.hid (show badT src dst b = 5 by rw [HBD.out]; rfl)
            have HV := Lib.hid (show prsT src dst b = tsz by rw [prsT, HE.out]; rfl)
            go_wp2_with (first | ((with_reducible show wpList _ _ _ (Oper.mk _ (Op.store 39 _ _) _ _ _ _ :: _) _ _); refine ts_store (g := w.heap.size) (cs := tsa tsz none 0 none 0) rfl rfl hrq rfl rfl (ts_one _ _ _ _ _) ?_) | (go_at_call 19; refine (rpsd_any src dst 6 (b.length : Int) _).mono ?_; rintro e wp ⟨vp, rfl, mp⟩; obtain ⟨Ap, cp, rfl, gp, op, xp⟩ := made_shape mp) | (go_at_call 49; refine (rright_two (some ⟨wp.heap.size, 0, none⟩) (psd src dst 6 (b.length : Int)) b 2 (wp.heap.size + 1) _ HN _ (Rd2.two rfl rfl (World.alloc_heap_new wp _) (Nat.lt_succ_self _) ((gp.alloc (Nat.le_refl _) _).more (Nat.le_succ _)) (((hR1.below (xp.mono (by omega))).alloc (by have := xp.size; omega) _).more (by have := xp.size; omega))) (by rw [psd_len]; omega)).mono ?_; rintro e wq ⟨rfl, nq, rfl⟩; have xpq : Below W.heap.size W ((wp.alloc (.cells #[.slice Ap (psd src dst 6 (b.length : Int)).length cp, .slice (some ⟨b0, off, none⟩) b.length c] 22)).drewN nq) := below_drewN (xp.alloc xp.size _) nq; have hrq := (xpq.block w.heap.size (by omega)).trans hg))
            exact bodyPost_ret (res2 rfl rfl (ts_load_run (setRow_heap _ _ _ _ _ _ hrq) rfl)) rfl ⟨none, 0, none, 0, by rw [HV.out, HE.out]; rfl, by rw [HV.out]; exact Made.nil _ _ (below_row (hBW.trans (xpq.mono (by omega))) (Nat.le_refl _)), by rw [HV.out]; exact Made.nil _ _ (below_row (hBW.trans (xpq.mono (by omega))) (Nat.le_refl _))⟩
          · have HE := Lib.hid (show badT src dst b = 0 by rw [HBD.out]; rfl)
            have HV := Lib.hid (show prsT src dst b = ⟨X0, X2, X4, X8, X12 % 16, X13, X14, X18, O, D⟩ by rw [prsT, if_pos HE.out, HRW.out])
            go_upto_region 12 with (first | (go_at_call 19; refine (rpsd_any src dst 6 (b.length : Int) _).mono ?_; rintro e wp ⟨vp, rfl, mp⟩; obtain ⟨Ap, cp, rfl, gp, op, xp⟩ := made_shape mp) | (go_at_call 49; refine (rright_two (some ⟨wp.heap.size, 0, none⟩) (psd src dst 6 (b.length : Int)) b 2 (wp.heap.size + 1) _ HN _ (Rd2.two rfl rfl (World.alloc_heap_new wp _) (Nat.lt_succ_self _) ((gp.alloc (Nat.le_refl _) _).more (Nat.le_succ _)) (((hR1.below (xp.mono (by omega))).alloc (by have := xp.size; omega) _).more (by have := xp.size; omega))) (by rw [psd_len]; omega)).mono ?_; rintro e wq ⟨rfl, nq, rfl⟩; have xpq : Below W.heap.size W ((wp.alloc (.cells #[.slice Ap (psd src dst 6 (b.length : Int)).length cp, .slice (some ⟨b0, off, none⟩) b.length c] 22)).drewN nq) := below_drewN (xp.alloc xp.size _) nq; have hrq := (xpq.block w.heap.size (by omega)).trans hg))
            have hbV := hBW.trans (xpq.mono (by omega))
            have hRV := hR1.below (xpq.mono (by omega))
            have kc12 := (xpq.cell (p := ⟨b0, off + 12, none⟩) (by show b0 < _; omega)).trans kw12
            have kc13 := (xpq.cell (p := ⟨b0, off + 13, none⟩) (by show b0 < _; omega)).trans kw13
            have zV := xpq.size
            clear xp xpq gp op mp kw12 kw13
            generalize (wp.alloc (.cells #[.slice Ap (psd src dst 6 (b.length : Int)).length cp, .slice (some ⟨b0, off, none⟩) b.length c] 22)).drewN nq = V at *
            go_cut [9] from 46 (fun s w' => s = .pointer (some ⟨V.heap.size, 0, none⟩) ∧ ∃ m, w' = (V.alloc (.cells (tsa ⟨X0, X2, X4, X8, X12 % 16, X13, 0, 0, [], []⟩ none 0 none 0) 39)).drewN m)
            case first =>
              refine wp_region_held_drew (S := fun w' => Below V.heap.size V w') (by kernel_rfl) (Below.refl _ V).drew (fun hS => ?_)
              refine held_pure (i := 0) (oi := ⟨some 46, _, _, _, _, _⟩) rfl (by kernel_rfl) (by kernel_rfl) (by kernel_rfl) (fun _ _ _ h => h) (by rfl) (v := ?_) (fun w hSw => ?_) hS (fun hS => ?_)
              rotate_left
              · go_simp; try with_reducible rfl
              try go_frame
              refine held_pure (i := 2) (oi := ⟨some 48, _, _, _, _, _⟩) rfl (by kernel_rfl) (by kernel_rfl) (by kernel_rfl) (fun _ _ _ h => h) (by rfl) (v := ?_) (fun w hSw => ?_) hS (fun hS => ?_)
              rotate_left
              · go_simp; try with_reducible rfl
              try go_frame
              refine held_pure (i := 4) (oi := ⟨some 50, _, _, _, _, _⟩) rfl (by kernel_rfl) (by kernel_rfl) (by kernel_rfl) (fun _ _ _ h => h) (by rfl) (v := ?_) (fun w hSw => ?_) hS (fun hS => ?_)
              rotate_left
              · go_simp; try with_reducible rfl
              try go_frame
              refine held_pure (i := 6) (oi := ⟨some 52, _, _, _, _, _⟩) rfl (by kernel_rfl) (by kernel_rfl) (by kernel_rfl) (fun _ _ _ h => h) (by rfl) (v := ?_) (fun w hSw => ?_) hS (fun hS => ?_)
              rotate_left
              · go_simp; try with_reducible rfl
              try go_frame
              refine held_pure (i := 8) (oi := ⟨some 54, _, _, _, _, _⟩) rfl (by kernel_rfl) (by kernel_rfl) (by kernel_rfl) (fun _ _ _ h => h) (by rfl) (v := ?_) (fun w hSw => ?_) hS (fun hS => ?_)
              rotate_left
              · go_simp; try with_reducible rfl
              try go_frame
              refine held_pure (i := 9) (oi := ⟨some 55, _, _, _, _, _⟩) rfl (by kernel_rfl) (by kernel_rfl) (by kernel_rfl) (fun _ _ _ h => h) (by rfl) (v := Value.pointer (some ⟨b0, off + 12, none⟩)) (fun w hSw => by go_simp; exact fun hx => absurd hx (by omega)) hS (fun hS => ?_)
              try go_frame
              refine held_pure (i := 10) (oi := ⟨some 56, _, _, _, _, _⟩) rfl (by kernel_rfl) (by kernel_rfl) (by kernel_rfl) (fun _ _ _ h => h) (by rfl) (fun w hSw => run_load_byte rfl rfl ((hSw.cell (show b0 < V.heap.size by omega)).trans kc12)) hS (fun hS => ?_)
              try go_frame
              refine held_pure (i := 11) (oi := ⟨some 57, _, _, _, _, _⟩) rfl (by kernel_rfl) (by kernel_rfl) (by kernel_rfl) (fun _ _ _ h => h) (by rfl) (v := .int .u8 (X12 % 16)) (fun w hSw => by go_simp; exact HTM.out) hS (fun hS => ?_)
              try go_frame
              refine held_pure (i := 12) (oi := ⟨some 58, _, _, _, _, _⟩) rfl (by kernel_rfl) (by kernel_rfl) (by kernel_rfl) (fun _ _ _ h => h) (by rfl) (v := .int .i64 (X12 % 16)) (fun w hSw => by go_simp; exact HW1.out) hS (fun hS => ?_)
              try go_frame
              refine held_pure (i := 13) (oi := ⟨some 59, _, _, _, _, _⟩) rfl (by kernel_rfl) (by kernel_rfl) (by kernel_rfl) (fun _ _ _ h => h) (by rfl) (v := ?_) (fun w hSw => ?_) hS (fun hS => ?_)
              rotate_left
              · go_simp; try with_reducible rfl
              try go_frame
              refine held_pure (i := 14) (oi := ⟨some 60, _, _, _, _, _⟩) rfl (by kernel_rfl) (by kernel_rfl) (by kernel_rfl) (fun _ _ _ h => h) (by rfl) (v := Value.pointer (some ⟨b0, off + 13, none⟩)) (fun w hSw => by go_simp; exact fun hx => absurd hx (by omega)) hS (fun hS => ?_)
              try go_frame
              refine held_pure (i := 15) (oi := ⟨some 61, _, _, _, _, _⟩) rfl (by kernel_rfl) (by kernel_rfl) (by kernel_rfl) (fun _ _ _ h => h) (by rfl) (fun w hSw => run_load_byte rfl rfl ((hSw.cell (show b0 < V.heap.size by omega)).trans kc13)) hS (fun hS => ?_)
              try go_frame
              refine held_pure (i := 16) (oi := ⟨some 62, _, _, _, _, _⟩) rfl (by kernel_rfl) (by kernel_rfl) (by kernel_rfl) (fun _ _ _ h => h) (by rfl) (v := .int .i64 X13) (fun w hSw => by go_simp; exact HW2.out) hS (fun hS => ?_)
              try go_frame
              refine wpAnyH_ready (rs := [1, 18]) (by kernel_rfl) (by simp) (AllReadyH.cons (o := ⟨some 47, _, _, _, _, _⟩) rfl (fun K hK => ?_) (AllReadyH.cons (o := ⟨some 9, _, _, _, _, _⟩) rfl (fun K hK => ?_) AllReadyH.nil))
              · rw [if_pos (by rfl)]
                go_simp
                refine (r8num (some ⟨b0, off, none⟩) b c B 0 2 _ (hRV.rd.below (hS.mono (by omega))) (by omega)).mono ?_
                rintro e w1 ⟨rfl, rfl⟩
                rw [show getV b 0 2 = X0 from G0.out]
                show K _ _
                refine hK.out _ _ hS (fun hS => ?_)
                clear hK K
                try go_frame
                refine wpAnyH_ready (rs := [3, 18]) (by kernel_rfl) (by simp) (AllReadyH.cons (o := ⟨some 49, _, _, _, _, _⟩) rfl (fun K hK => ?_) (AllReadyH.cons (o := ⟨some 9, _, _, _, _, _⟩) rfl (fun K hK => ?_) AllReadyH.nil))
                · rw [if_pos (by rfl)]
                  go_simp
                  refine (r8num (some ⟨b0, off, none⟩) b c B 2 2 _ (hRV.rd.below (hS.mono (by omega))) (by omega)).mono ?_
                  rintro e w3 ⟨rfl, rfl⟩
                  rw [show getV b 2 2 = X2 from G2.out]
                  show K _ _
                  refine hK.out _ _ hS (fun hS => ?_)
                  clear hK K
                  try go_frame
                  refine wpAnyH_ready (rs := [5, 18]) (by kernel_rfl) (by simp) (AllReadyH.cons (o := ⟨some 51, _, _, _, _, _⟩) rfl (fun K hK => ?_) (AllReadyH.cons (o := ⟨some 9, _, _, _, _, _⟩) rfl (fun K hK => ?_) AllReadyH.nil))
                  · rw [if_pos (by rfl)]
                    go_simp
                    refine (r8num (some ⟨b0, off, none⟩) b c B 4 4 _ (hRV.rd.below (hS.mono (by omega))) (by omega)).mono ?_
                    rintro e w5 ⟨rfl, rfl⟩
                    rw [show getV b 4 4 = X4 from G4.out]
                    show K _ _
                    refine hK.out _ _ hS (fun hS => ?_)
                    clear hK K
                    try go_frame
                    refine wpAnyH_ready (rs := [7, 18]) (by kernel_rfl) (by simp) (AllReadyH.cons (o := ⟨some 53, _, _, _, _, _⟩) rfl (fun K hK => ?_) (AllReadyH.cons (o := ⟨some 9, _, _, _, _, _⟩) rfl (fun K hK => ?_) AllReadyH.nil))
                    · rw [if_pos (by rfl)]
                      go_simp
                      refine (r8num (some ⟨b0, off, none⟩) b c B 8 4 _ (hRV.rd.below (hS.mono (by omega))) (by omega)).mono ?_
                      rintro e w7 ⟨rfl, rfl⟩
                      rw [show getV b 8 4 = X8 from G8.out]
                      show K _ _
                      refine hK.out _ _ hS (fun hS => ?_)
                      clear hK K
                      try go_frame
                      refine held_pure (i := 17) (oi := ⟨some 63, _, _, _, _, _⟩) rfl (by kernel_rfl) (by kernel_rfl) (by kernel_rfl) (fun _ _ _ h => h) (by rfl) (v := ?_) (fun w hSw => ?_) hS (fun hS => ?_)
                      rotate_left
                      · go_simp; try with_reducible rfl
                      try go_frame
                      refine wpAnyH_ready (rs := [18]) (by kernel_rfl) (by simp) (AllReadyH.cons (o := ⟨some 9, _, _, _, _, _⟩) rfl (fun K hK => ?_) AllReadyH.nil)
                      rw [if_pos (by rfl)]
                      go_simp
                      refine hK.out _ _ (hS.alloc hS.size _) (fun hS => ?_)
                      clear hK K
                      try go_frame
                      refine wpAnyH_ready (rs := [19]) (by kernel_rfl) (by simp) (AllReadyH.cons (o := ⟨none, _, _, _, _, _⟩) rfl (fun K hK => ?_) AllReadyH.nil)
                      rw [if_pos (by rfl)]
                      refine wp_store_row 39 _ _ rfl V.heap.size (tsa ⟨X0, X2, X4, X8, X12 % 16, X13, 0, 0, [], []⟩ none 0 none 0) rfl rfl 39 _ (heap_new (by first | rfl | simp)) (by kernel_rfl) rfl (ts_one _ _ _ _ _) ?_
                      repeat rw [setRow_drew]
                      rw [setRow_new (by first | rfl | simp)]
                      refine hK.out _ _ (by first | exact (Below.refl V.heap.size V).drew.alloc (Nat.le_refl _) _ | exact ((Below.refl V.heap.size V).drew.alloc (Nat.le_refl _) _).drew | exact ((Below.refl V.heap.size V).alloc (Nat.le_refl _) _).drew | exact (((Below.refl V.heap.size V).alloc (Nat.le_refl _) _).drew).drew) (fun hS => ?_)
                      clear hK K
                      try go_frame
                      refine wpAnyH_done (by kernel_rfl) ?_ _
                      go_wp2_with fail
                      go_meet
                      refine ⟨rfl, ?_⟩
                      first | exact ⟨1, rfl⟩ | exact ⟨2, rfl⟩ | exact ⟨0, rfl⟩
                    · rw [if_pos (by rfl)]
                      go_simp
                      refine hK.out _ _ (hS.alloc hS.size _) (fun hS => ?_)
                      clear hK K
                      try go_frame
                      refine wpAnyH_ready (rs := [7]) (by kernel_rfl) (by simp) (AllReadyH.cons (o := ⟨some 53, _, _, _, _, _⟩) rfl (fun K hK => ?_) AllReadyH.nil)
                      rw [if_pos (by rfl)]
                      go_simp
                      refine (r8num (some ⟨b0, off, none⟩) b c B 8 4 _ (hRV.rd.below (hS.mono (by omega))) (by omega)).mono ?_
                      rintro e w7 ⟨rfl, rfl⟩
                      rw [show getV b 8 4 = X8 from G8.out]
                      show K _ _
                      refine hK.out _ _ hS (fun hS => ?_)
                      clear hK K
                      try go_frame
                      refine held_pure (i := 17) (oi := ⟨some 63, _, _, _, _, _⟩) rfl (by kernel_rfl) (by kernel_rfl) (by kernel_rfl) (fun _ _ _ h => h) (by rfl) (v := ?_) (fun w hSw => ?_) hS (fun hS => ?_)
                      rotate_left
                      · go_simp; try with_reducible rfl
                      try go_frame
                      refine wpAnyH_ready (rs := [19]) (by kernel_rfl) (by simp) (AllReadyH.cons (o := ⟨none, _, _, _, _, _⟩) rfl (fun K hK => ?_) AllReadyH.nil)
                      rw [if_pos (by rfl)]
                      refine wp_store_row 39 _ _ rfl V.heap.size (tsa ⟨X0, X2, X4, X8, X12 % 16, X13, 0, 0, [], []⟩ none 0 none 0) rfl rfl 39 _ (heap_new (by first | rfl | simp)) (by kernel_rfl) rfl (ts_one _ _ _ _ _) ?_
                      repeat rw [setRow_drew]
                      rw [setRow_new (by first | rfl | simp)]
                      refine hK.out _ _ (by first | exact (Below.refl V.heap.size V).drew.alloc (Nat.le_refl _) _ | exact ((Below.refl V.heap.size V).drew.alloc (Nat.le_refl _) _).drew | exact ((Below.refl V.heap.size V).alloc (Nat.le_refl _) _).drew | exact (((Below.refl V.heap.size V).alloc (Nat.le_refl _) _).drew).drew) (fun hS => ?_)
                      clear hK K
                      try go_frame
                      refine wpAnyH_done (by kernel_rfl) ?_ _
                      go_wp2_with fail
                      go_meet
                      refine ⟨rfl, ?_⟩
                      first | exact ⟨1, rfl⟩ | exact ⟨2, rfl⟩ | exact ⟨0, rfl⟩
                  · rw [if_pos (by rfl)]
                    go_simp
                    refine hK.out _ _ (hS.alloc hS.size _) (fun hS => ?_)
                    clear hK K
                    try go_frame
                    refine wpAnyH_ready (rs := [5]) (by kernel_rfl) (by simp) (AllReadyH.cons (o := ⟨some 51, _, _, _, _, _⟩) rfl (fun K hK => ?_) AllReadyH.nil)
                    rw [if_pos (by rfl)]
                    go_simp
                    refine (r8num (some ⟨b0, off, none⟩) b c B 4 4 _ (hRV.rd.below (hS.mono (by omega))) (by omega)).mono ?_
                    rintro e w5 ⟨rfl, rfl⟩
                    rw [show getV b 4 4 = X4 from G4.out]
                    show K _ _
                    refine hK.out _ _ hS (fun hS => ?_)
                    clear hK K
                    try go_frame
                    refine wpAnyH_ready (rs := [7]) (by kernel_rfl) (by simp) (AllReadyH.cons (o := ⟨some 53, _, _, _, _, _⟩) rfl (fun K hK => ?_) AllReadyH.nil)
                    rw [if_pos (by rfl)]
                    go_simp
                    refine (r8num (some ⟨b0, off, none⟩) b c B 8 4 _ (hRV.rd.below (hS.mono (by omega))) (by omega)).mono ?_
                    rintro e w7 ⟨rfl, rfl⟩
                    rw [show getV b 8 4 = X8 from G8.out]
                    show K _ _
                    refine hK.out _ _ hS (fun hS => ?_)
                    clear hK K
                    try go_frame
                    refine held_pure (i := 17) (oi := ⟨some 63, _, _, _, _, _⟩) rfl (by kernel_rfl) (by kernel_rfl) (by kernel_rfl) (fun _ _ _ h => h) (by rfl) (v := ?_) (fun w hSw => ?_) hS (fun hS => ?_)
                    rotate_left
                    · go_simp; try with_reducible rfl
                    try go_frame
                    refine wpAnyH_ready (rs := [19]) (by kernel_rfl) (by simp) (AllReadyH.cons (o := ⟨none, _, _, _, _, _⟩) rfl (fun K hK => ?_) AllReadyH.nil)
                    rw [if_pos (by rfl)]
                    refine wp_store_row 39 _ _ rfl V.heap.size (tsa ⟨X0, X2, X4, X8, X12 % 16, X13, 0, 0, [], []⟩ none 0 none 0) rfl rfl 39 _ (heap_new (by first | rfl | simp)) (by kernel_rfl) rfl (ts_one _ _ _ _ _) ?_
                    repeat rw [setRow_drew]
                    rw [setRow_new (by first | rfl | simp)]
                    refine hK.out _ _ (by first | exact (Below.refl V.heap.size V).drew.alloc (Nat.le_refl _) _ | exact ((Below.refl V.heap.size V).drew.alloc (Nat.le_refl _) _).drew | exact ((Below.refl V.heap.size V).alloc (Nat.le_refl _) _).drew | exact (((Below.refl V.heap.size V).alloc (Nat.le_refl _) _).drew).drew) (fun hS => ?_)
                    clear hK K
                    try go_frame
                    refine wpAnyH_done (by kernel_rfl) ?_ _
                    go_wp2_with fail
                    go_meet
                    refine ⟨rfl, ?_⟩
                    first | exact ⟨1, rfl⟩ | exact ⟨2, rfl⟩ | exact ⟨0, rfl⟩
                · rw [if_pos (by rfl)]
                  go_simp
                  refine hK.out _ _ (hS.alloc hS.size _) (fun hS => ?_)
                  clear hK K
                  try go_frame
                  refine wpAnyH_ready (rs := [3]) (by kernel_rfl) (by simp) (AllReadyH.cons (o := ⟨some 49, _, _, _, _, _⟩) rfl (fun K hK => ?_) AllReadyH.nil)
                  rw [if_pos (by rfl)]
                  go_simp
                  refine (r8num (some ⟨b0, off, none⟩) b c B 2 2 _ (hRV.rd.below (hS.mono (by omega))) (by omega)).mono ?_
                  rintro e w3 ⟨rfl, rfl⟩
                  rw [show getV b 2 2 = X2 from G2.out]
                  show K _ _
                  refine hK.out _ _ hS (fun hS => ?_)
                  clear hK K
                  try go_frame
                  refine wpAnyH_ready (rs := [5]) (by kernel_rfl) (by simp) (AllReadyH.cons (o := ⟨some 51, _, _, _, _, _⟩) rfl (fun K hK => ?_) AllReadyH.nil)
                  rw [if_pos (by rfl)]
                  go_simp
                  refine (r8num (some ⟨b0, off, none⟩) b c B 4 4 _ (hRV.rd.below (hS.mono (by omega))) (by omega)).mono ?_
                  rintro e w5 ⟨rfl, rfl⟩
                  rw [show getV b 4 4 = X4 from G4.out]
                  show K _ _
                  refine hK.out _ _ hS (fun hS => ?_)
                  clear hK K
                  try go_frame
                  refine wpAnyH_ready (rs := [7]) (by kernel_rfl) (by simp) (AllReadyH.cons (o := ⟨some 53, _, _, _, _, _⟩) rfl (fun K hK => ?_) AllReadyH.nil)
                  rw [if_pos (by rfl)]
                  go_simp
                  refine (r8num (some ⟨b0, off, none⟩) b c B 8 4 _ (hRV.rd.below (hS.mono (by omega))) (by omega)).mono ?_
                  rintro e w7 ⟨rfl, rfl⟩
                  rw [show getV b 8 4 = X8 from G8.out]
                  show K _ _
                  refine hK.out _ _ hS (fun hS => ?_)
                  clear hK K
                  try go_frame
                  refine held_pure (i := 17) (oi := ⟨some 63, _, _, _, _, _⟩) rfl (by kernel_rfl) (by kernel_rfl) (by kernel_rfl) (fun _ _ _ h => h) (by rfl) (v := ?_) (fun w hSw => ?_) hS (fun hS => ?_)
                  rotate_left
                  · go_simp; try with_reducible rfl
                  try go_frame
                  refine wpAnyH_ready (rs := [19]) (by kernel_rfl) (by simp) (AllReadyH.cons (o := ⟨none, _, _, _, _, _⟩) rfl (fun K hK => ?_) AllReadyH.nil)
                  rw [if_pos (by rfl)]
                  refine wp_store_row 39 _ _ rfl V.heap.size (tsa ⟨X0, X2, X4, X8, X12 % 16, X13, 0, 0, [], []⟩ none 0 none 0) rfl rfl 39 _ (heap_new (by first | rfl | simp)) (by kernel_rfl) rfl (ts_one _ _ _ _ _) ?_
                  repeat rw [setRow_drew]
                  rw [setRow_new (by first | rfl | simp)]
                  refine hK.out _ _ (by first | exact (Below.refl V.heap.size V).drew.alloc (Nat.le_refl _) _ | exact ((Below.refl V.heap.size V).drew.alloc (Nat.le_refl _) _).drew | exact ((Below.refl V.heap.size V).alloc (Nat.le_refl _) _).drew | exact (((Below.refl V.heap.size V).alloc (Nat.le_refl _) _).drew).drew) (fun hS => ?_)
                  clear hK K
                  try go_frame
                  refine wpAnyH_done (by kernel_rfl) ?_ _
                  go_wp2_with fail
                  go_meet
                  refine ⟨rfl, ?_⟩
                  first | exact ⟨1, rfl⟩ | exact ⟨2, rfl⟩ | exact ⟨0, rfl⟩
              · rw [if_pos (by rfl)]
                go_simp
                refine hK.out _ _ (hS.alloc hS.size _) (fun hS => ?_)
                clear hK K
                try go_frame
                refine wpAnyH_ready (rs := [1]) (by kernel_rfl) (by simp) (AllReadyH.cons (o := ⟨some 47, _, _, _, _, _⟩) rfl (fun K hK => ?_) AllReadyH.nil)
                rw [if_pos (by rfl)]
                go_simp
                refine (r8num (some ⟨b0, off, none⟩) b c B 0 2 _ (hRV.rd.below (hS.mono (by omega))) (by omega)).mono ?_
                rintro e w1 ⟨rfl, rfl⟩
                rw [show getV b 0 2 = X0 from G0.out]
                show K _ _
                refine hK.out _ _ hS (fun hS => ?_)
                clear hK K
                try go_frame
                refine wpAnyH_ready (rs := [3]) (by kernel_rfl) (by simp) (AllReadyH.cons (o := ⟨some 49, _, _, _, _, _⟩) rfl (fun K hK => ?_) AllReadyH.nil)
                rw [if_pos (by rfl)]
                go_simp
                refine (r8num (some ⟨b0, off, none⟩) b c B 2 2 _ (hRV.rd.below (hS.mono (by omega))) (by omega)).mono ?_
                rintro e w3 ⟨rfl, rfl⟩
                rw [show getV b 2 2 = X2 from G2.out]
                show K _ _
                refine hK.out _ _ hS (fun hS => ?_)
                clear hK K
                try go_frame
                refine wpAnyH_ready (rs := [5]) (by kernel_rfl) (by simp) (AllReadyH.cons (o := ⟨some 51, _, _, _, _, _⟩) rfl (fun K hK => ?_) AllReadyH.nil)
                rw [if_pos (by rfl)]
                go_simp
                refine (r8num (some ⟨b0, off, none⟩) b c B 4 4 _ (hRV.rd.below (hS.mono (by omega))) (by omega)).mono ?_
                rintro e w5 ⟨rfl, rfl⟩
                rw [show getV b 4 4 = X4 from G4.out]
                show K _ _
                refine hK.out _ _ hS (fun hS => ?_)
                clear hK K
                try go_frame
                refine wpAnyH_ready (rs := [7]) (by kernel_rfl) (by simp) (AllReadyH.cons (o := ⟨some 53, _, _, _, _, _⟩) rfl (fun K hK => ?_) AllReadyH.nil)
                rw [if_pos (by rfl)]
                go_simp
                refine (r8num (some ⟨b0, off, none⟩) b c B 8 4 _ (hRV.rd.below (hS.mono (by omega))) (by omega)).mono ?_
                rintro e w7 ⟨rfl, rfl⟩
                rw [show getV b 8 4 = X8 from G8.out]
                show K _ _
                refine hK.out _ _ hS (fun hS => ?_)
                clear hK K
                try go_frame
                refine held_pure (i := 17) (oi := ⟨some 63, _, _, _, _, _⟩) rfl (by kernel_rfl) (by kernel_rfl) (by kernel_rfl) (fun _ _ _ h => h) (by rfl) (v := ?_) (fun w hSw => ?_) hS (fun hS => ?_)
                rotate_left
                · go_simp; try with_reducible rfl
                try go_frame
                refine wpAnyH_ready (rs := [19]) (by kernel_rfl) (by simp) (AllReadyH.cons (o := ⟨none, _, _, _, _, _⟩) rfl (fun K hK => ?_) AllReadyH.nil)
                rw [if_pos (by rfl)]
                refine wp_store_row 39 _ _ rfl V.heap.size (tsa ⟨X0, X2, X4, X8, X12 % 16, X13, 0, 0, [], []⟩ none 0 none 0) rfl rfl 39 _ (heap_new (by first | rfl | simp)) (by kernel_rfl) rfl (ts_one _ _ _ _ _) ?_
                repeat rw [setRow_drew]
                rw [setRow_new (by first | rfl | simp)]
                refine hK.out _ _ (by first | exact (Below.refl V.heap.size V).drew.alloc (Nat.le_refl _) _ | exact ((Below.refl V.heap.size V).drew.alloc (Nat.le_refl _) _).drew | exact ((Below.refl V.heap.size V).alloc (Nat.le_refl _) _).drew | exact (((Below.refl V.heap.size V).alloc (Nat.le_refl _) _).drew).drew) (fun hS => ?_)
                clear hK K
                try go_frame
                refine wpAnyH_done (by kernel_rfl) ?_ _
                go_wp2_with fail
                go_meet
                refine ⟨rfl, ?_⟩
                first | exact ⟨1, rfl⟩ | exact ⟨2, rfl⟩ | exact ⟨0, rfl⟩
            case rest =>
              obtain ⟨hs9, mc, hwc⟩ := hcut
              subst hs9
              obtain ⟨U, hUU⟩ : ∃ U, U = V.heap.size := ⟨_, rfl⟩
              have ja : Below V.heap.size V wc := by rw [hwc]; exact below_drewN ((Below.refl _ V).alloc (Nat.le_refl _) _) mc
              have hU0 : wc.heap[U]? = some (.cells (tsa ⟨X0, X2, X4, X8, X12 % 16, X13, 0, 0, [], []⟩ none 0 none 0) 39 (0, 0)) := by rw [hwc, hUU]; exact heap_newN V _ mc
              rw [← hUU]
              have hUw : w.heap.size < U := by omega
              have hbc := hbV.trans (ja.mono (by omega))
              have hrc := (ja.block w.heap.size (by omega)).trans hrq
              have hRc := hRV.below (ja.mono (by omega))
              have zc : U ≤ wc.heap.size := by have := ja.size; omega
              clear hwc ja hUU kc12 kc13
              have k6 : wc.cell? ⟨U, 6, none⟩ = some (.int .i64 0) := by { rw [cell_of_row _ _ _ _ _ _ hU0]; rfl }
              have k7 : wc.cell? ⟨U, 7, none⟩ = some (.int .i64 0) := by { rw [cell_of_row _ _ _ _ _ _ hU0]; rfl }
              have f6 := heap_frozen hU0 6
              have f7 := heap_frozen hU0 7
              go_upto_region 14 with (first
                | (go_at_call 58; ((with_reducible refine (r8num (some ⟨b0, off, none⟩) b c B 14 2 _ hRc.rd (by omega)).mono ?_); rintro e w' ⟨rfl, rfl⟩; rw [show getV b 14 2 = X14 from G14.out]))
                | (go_at_call 58; ((with_reducible refine (r8num (some ⟨b0, off, none⟩) b c B 18 2 _ hRc.rd (by omega)).mono ?_); rintro e w' ⟨rfl, rfl⟩; rw [show getV b 18 2 = X18 from G18.out])))
              have hU1 := heap_setCell_same wc U 6 _ _ (.int .i64 X14) hU0
              have hU2 := heap_setCell_same _ U 7 _ _ (.int .i64 X18) hU1
              have hUq0 : ((wc.setCell ⟨U, 6, none⟩ (.int .i64 X14)).setCell ⟨U, 7, none⟩ (.int .i64 X18)).heap[U]? = some (.cells (tsa ⟨X0, X2, X4, X8, X12 % 16, X13, X14, X18, [], []⟩ none 0 none 0) 39 (0, 0)) := hU2
              have hrq2 := (heap_setCell_other (wc.setCell ⟨U, 6, none⟩ (.int .i64 X14)) ⟨U, 7, none⟩ w.heap.size (.int .i64 X18) (by show w.heap.size ≠ U; omega)).trans ((heap_setCell_other wc ⟨U, 6, none⟩ w.heap.size (.int .i64 X14) (by show w.heap.size ≠ U; omega)).trans hrc)
              have hbq2 := (hbc.setCell (p := ⟨U, 6, none⟩) (by show w.heap.size ≤ U; omega) (.int .i64 X14)).setCell (p := ⟨U, 7, none⟩) (by show w.heap.size ≤ U; omega) (.int .i64 X18)
              obtain ⟨WQ, hWQ⟩ : ∃ X : World, X = ((wc.setCell ⟨U, 6, none⟩ (.int .i64 X14)).setCell ⟨U, 7, none⟩ (.int .i64 X18)).drew := ⟨_, rfl⟩
              have hUq : WQ.heap[U]? = some (.cells (tsa ⟨X0, X2, X4, X8, X12 % 16, X13, X14, X18, [], []⟩ none 0 none 0) 39 (0, 0)) := by rw [hWQ]; exact hUq0
              have hr1 : WQ.heap[w.heap.size]? = some (.cells (tsa tsz none 0 none 0) 39 (0, 0)) := by rw [hWQ]; exact hrq2
              have hb1 : Below w.heap.size w WQ := by rw [hWQ]; exact hbq2.drew
              have hUS : U ≤ U := Nat.le_refl U
              have hUlt : U < WQ.heap.size := heap_lt hUq
              clear hUq0 hrq2 hbq2 hU1 hU2 k6 k7 f6 f7 hU0 hrc hbc hRc
              refine wp_region_held_drew (S := fun w' => Below U WQ w') (by kernel_rfl) (by rw [← hWQ]; exact Below.refl _ _) (fun hS => ?_)
              rw [← hWQ] at hS ⊢
              clear hWQ
              refine held_pure (i := 0) (oi := ⟨some 70, _, _, _, _, _⟩) rfl (by kernel_rfl) (by kernel_rfl) (by kernel_rfl) (fun _ _ _ h => h) (by rfl) (v := ?_) (fun w hSw => ?_) hS (fun hS => ?_)
              rotate_left
              · go_simp; try with_reducible rfl
              try go_frame
              refine held_pure (i := 1) (oi := ⟨some 71, _, _, _, _, _⟩) rfl (by kernel_rfl) (by kernel_rfl) (by kernel_rfl) (fun _ _ _ h => h) (by rfl) (v := ?_) (fun w hSw => ?_) hS (fun hS => ?_)
              rotate_left
              · go_simp; try with_reducible rfl
              try go_frame
              refine held_pure (i := 2) (oi := ⟨some 72, _, _, _, _, _⟩) rfl (by kernel_rfl) (by kernel_rfl) (by kernel_rfl) (fun _ _ _ h => h) (by rfl) (fun w hSw => run_cut_lh rfl rfl rfl rfl (l := 20) (h := (H : Int)) (by omega) (by omega) (by omega) (m := O.length) (by have := HOl.out; omega)) hS (fun hS => ?_)
              try go_frame
              refine held_pure (i := 4) (oi := ⟨some 74, _, _, _, _, _⟩) rfl (by kernel_rfl) (by kernel_rfl) (by kernel_rfl) (fun _ _ _ h => h) (by rfl) (v := ?_) (fun w hSw => ?_) hS (fun hS => ?_)
              rotate_left
              · go_simp; try with_reducible rfl
              try go_frame
              refine held_pure (i := 5) (oi := ⟨some 75, _, _, _, _, _⟩) rfl (by kernel_rfl) (by kernel_rfl) (by kernel_rfl) (fun _ _ _ h => h) (by rfl) (v := ?_) (fun w hSw => ?_) hS (fun hS => ?_)
              rotate_left
              · go_simp; try with_reducible rfl
              try go_frame
              refine held_pure (i := 6) (oi := ⟨some 76, _, _, _, _, _⟩) rfl (by kernel_rfl) (by kernel_rfl) (by kernel_rfl) (fun _ _ _ h => h) (by rfl) (fun w hSw => run_cut_l rfl rfl (l := H) rfl (by omega) (m := D.length) (by have := HDl.out; omega)) hS (fun hS => ?_)
              try go_frame
              refine wpAnyH_ready (rs := [3]) (by kernel_rfl) (by simp) (AllReadyH.cons (o := ⟨some 73, _, _, _, _, _⟩) rfl (fun K hK => ?_) AllReadyH.nil)
              rw [if_pos (by rfl)]
              refine append_wp _ _ rfl WQ.heap.size (.slice none 0 0) 0 [] rfl (World.ownsRow_nil _ _ _ _) B (cutA (some ⟨b0, off, none⟩) c 20) (c - 20) O rfl hO.none_ ((hO.below ((hb1.trans (hS.mono (by omega))).mono hB)).rd) (by have := HOl.out; omega) (Nat.le_refl _) ?_
              intro v3 wx own3 grow3
              obtain ⟨P3, p3, rfl, o3⟩ := own_made (bs := O) own3 (by simp) (by simp)
              have x3 : Below WQ.heap.size WQ wx := (Below.refl _ _).grown grow3 (Nat.le_refl _) (fun k hk => by cases hk)
              refine hK.out _ _ (hS.trans (x3.mono (by omega))) (fun hS => ?_)
              clear hK K
              try go_frame
              refine held_pure (i := 8) (oi := ⟨some 78, _, _, _, _, _⟩) rfl (by kernel_rfl) (by kernel_rfl) (by kernel_rfl) (fun _ _ _ h => h) (by rfl) (v := ?_) (fun w hSw => ?_) hS (fun hS => ?_)
              rotate_left
              · go_simp; try with_reducible rfl
              try go_frame
              refine wpAnyH_ready (rs := [7]) (by kernel_rfl) (by simp) (AllReadyH.cons (o := ⟨some 77, _, _, _, _, _⟩) rfl (fun K hK => ?_) AllReadyH.nil)
              rw [if_pos (by rfl)]
              refine append_wp _ _ rfl wx.heap.size (.slice none 0 0) 0 [] rfl (World.ownsRow_nil _ _ _ _) B (cutA (some ⟨b0, off, none⟩) c H) (c - H) D rfl hD.none_ ((hD.below ((hb1.trans (hS.mono (by omega))).mono hB)).rd) (by have := HDl.out; omega) (Nat.le_refl _) ?_
              intro v7 wy own7 grow7
              obtain ⟨P7, p7, rfl, o7⟩ := own_made (bs := D) own7 (by simp) (by simp)
              have x7 : Below wx.heap.size wx wy := (Below.refl _ _).grown grow7 (Nat.le_refl _) (fun k hk => by cases hk)
              have z3 : WQ.heap.size ≤ wx.heap.size := x3.size
              have hUy := (x7.block U (by omega)).trans ((x3.block U hUlt).trans hUq)
              refine hK.out _ _ (hS.trans (x7.mono (by omega))) (fun hS => ?_)
              clear hK K
              try go_frame
              refine wpAnyH_ready (rs := [9]) (by kernel_rfl) (by simp) (AllReadyH.cons (o := ⟨none, _, _, _, _, _⟩) rfl (fun K hK => ?_) AllReadyH.nil)
              rw [if_pos (by rfl)]
              have k8 : wy.cell? ⟨U, 8, none⟩ = some (.slice none 0 0) := by { rw [cell_of_row _ _ _ _ _ _ hUy]; rfl }
              refine store_sl_wp rfl rfl rfl k8 (heap_frozen hUy 8) ?_
              have hU8 : (wy.setCell ⟨U, 8, none⟩ (.slice P3 O.length p3)).heap[U]? = some (.cells (tsa ⟨X0, X2, X4, X8, X12 % 16, X13, X14, X18, O, []⟩ P3 p3 none 0) 39 (0, 0)) := heap_setCell_same wy U 8 _ _ _ hUy
              refine hK.out _ _ (hS.setCell (p := ⟨U, 8, none⟩) hUS _) (fun hS => ?_)
              clear hK K k8
              try go_frame
              refine held_pure (i := 10) (oi := ⟨some 79, _, _, _, _, _⟩) rfl (by kernel_rfl) (by kernel_rfl) (by kernel_rfl) (fun _ _ _ h => h) (by rfl) (v := ?_) (fun w hSw => ?_) hS (fun hS => ?_)
              rotate_left
              · go_simp; try with_reducible rfl
              try go_frame
              refine wpAnyH_ready (rs := [11]) (by kernel_rfl) (by simp) (AllReadyH.cons (o := ⟨none, _, _, _, _, _⟩) rfl (fun K hK => ?_) AllReadyH.nil)
              rw [if_pos (by rfl)]
              have k9 : (wy.setCell ⟨U, 8, none⟩ (.slice P3 O.length p3)).cell? ⟨U, 9, none⟩ = some (.slice none 0 0) := by { rw [cell_of_row _ _ _ _ _ _ hU8]; rfl }
              refine store_sl_wp rfl rfl rfl k9 (heap_frozen hU8 9) ?_
              have hU9 : ((wy.setCell ⟨U, 8, none⟩ (.slice P3 O.length p3)).setCell ⟨U, 9, none⟩ (.slice P7 D.length p7)).heap[U]? = some (.cells (tsa ⟨X0, X2, X4, X8, X12 % 16, X13, X14, X18, O, D⟩ P3 p3 P7 p7) 39 (0, 0)) := heap_setCell_same _ U 9 _ _ _ hU8
              refine hK.out _ _ (hS.setCell (p := ⟨U, 9, none⟩) hUS _) (fun hS => ?_)
              clear hK K k9
              try go_frame
              refine wpAnyH_done (by kernel_rfl) ?_ _
              have hr9 := (hS.block w.heap.size (by omega)).trans hr1
              have o3' := own_setCell (own_setCell (own_below o3 x7) (p := ⟨U, 8, none⟩) (u := .slice P3 O.length p3) (by show U < WQ.heap.size; omega)) (p := ⟨U, 9, none⟩) (u := .slice P7 D.length p7) (by show U < WQ.heap.size; omega)
              have o7' := own_setCell (own_setCell o7 (p := ⟨U, 8, none⟩) (u := .slice P3 O.length p3) (by show U < wx.heap.size; omega)) (p := ⟨U, 9, none⟩) (u := .slice P7 D.length p7) (by show U < wx.heap.size; omega)
              have o3r := own_setRow o3' (g := w.heap.size) (cs := tsa ⟨X0, X2, X4, X8, X12 % 16, X13, X14, X18, O, D⟩ P3 p3 P7 p7) (by show w.heap.size < WQ.heap.size; omega)
              have o7r := own_setRow o7' (g := w.heap.size) (cs := tsa ⟨X0, X2, X4, X8, X12 % 16, X13, X14, X18, O, D⟩ P3 p3 P7 p7) (by show w.heap.size < wx.heap.size; omega)
              have b9 := hb1.trans (hS.mono (by omega))
              have at9 := Atts.of_heap hU9
              clear o3' o7' o3 o7 hU9 hU8
              go_wp2_with (first
                | ((with_reducible show wpList _ _ _ (Oper.mk _ (Op.load 39 _) _ _ _ _ :: _) _ _); refine wpList_val rfl (run_load_ts rfl rfl at9 rfl) ?_)
                | ((with_reducible show wpList _ _ _ (Oper.mk _ (Op.store 39 _ _) _ _ _ _ :: _) _ _); refine ts_store (g := w.heap.size) (cs := tsa ⟨X0, X2, X4, X8, X12 % 16, X13, X14, X18, O, D⟩ P3 p3 P7 p7) rfl rfl hr9 rfl rfl (ts_one _ _ _ _ _) ?_))
              exact bodyPost_ret (res2 rfl rfl (ts_load_run (setRow_heap _ _ _ _ _ _ hr9) rfl)) rfl ⟨P3, p3, P7, p7, by rw [HV.out, HE.out]; rfl, by rw [HV.out]; exact Made.of_own (own_base o3r (by show w.heap.size ≤ WQ.heap.size; omega)) (below_row b9 (Nat.le_refl _)), by rw [HV.out]; exact Made.of_own (own_base o7r (by omega)) (below_row b9 (Nat.le_refl _))⟩
end
end Go.Proofs.Ytggcjjcgiphjeaa
