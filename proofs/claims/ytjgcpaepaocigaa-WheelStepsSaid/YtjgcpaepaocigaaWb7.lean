/-
  Contracts and lemmas on which the proofs of this seat stand (several texts in one). Conditions are each theorem's own.
-/
import Derived.Test.YtjgcpaepaocigaaWb6

/-
  Two halves of a row of pointers to timers that are merged, stably, whatever their sizes. Conditions are each theorem's own.
-/
namespace Go.Proofs.Ytjgcpaepaocigaa
open Go.RowKit
/-- What merging two halves does. -/
def SymOK (R : Nat → Int) (sz : Nat) : Prop := ∀ {w : World} {g off c N a m b : Nat} {P X Y Q : List Nat}, b - a ≤ sz → P.length = a → a + X.length = m → m + Y.length = b → (P ++ (X ++ (Y ++ Q))).length = N → N ≤ 4000000 → Asc R X → Asc R Y → 0 < X.length → 0 < Y.length → PRow w g off (P ++ (X ++ (Y ++ Q))) → KeyR w g R (X ++ Y) →
  Calls Try.prog 87 #[.slice (some ⟨g, off, none⟩) N c, .int .i64 (a : Int), .int .i64 (m : Int), .int .i64 (b : Int), .func (.func 33) #[] #[]] w fun e w' => e = .returned (.tuple #[]) ∧ ∃ Z, PRow w' g off (P ++ (Z ++ Q)) ∧ Stb R Z (X ++ Y) ∧ Kept (fun k => k = g) w w'
set_option maxRecDepth 100000 in
set_option maxHeartbeats 16000000 in
theorem wssym_step {R : Nat → Int} {sz : Nat} (ih : Hid (SymOK R sz)) {w : World} {g off c N a m b : Nat} {P X Y Q : List Nat} (hba : b - a ≤ sz + 1) (ha : P.length = a) (hm : a + X.length = m) (hb : m + Y.length = b) (hN : (P ++ (X ++ (Y ++ Q))).length = N) (hsz : N ≤ 4000000) (hX : Asc R X) (hY : Asc R Y) (hx : 2 ≤ X.length) (hy : 2 ≤ Y.length) (h : PRow w g off (P ++ (X ++ (Y ++ Q)))) (hk : KeyR w g R (X ++ Y)) :
    Calls Try.prog 87 #[.slice (some ⟨g, off, none⟩) N c, .int .i64 (a : Int), .int .i64 (m : Int), .int .i64 (b : Int), .func (.func 33) #[] #[]] w fun e w' => e = .returned (.tuple #[]) ∧ ∃ Z, PRow w' g off (P ++ (Z ++ Q)) ∧ Stb R Z (X ++ Y) ∧ Kept (fun k => k = g) w w' := by
  have hbN : b ≤ N := by simp only [List.length_append] at hN; omega
  have hWX : ∀ h, a ≤ h → h < m → ∃ z, z ∈ X ∧ (P ++ (X ++ (Y ++ Q)))[h]? = some z ∧ (P ++ (X ++ (Y ++ Q))).getD h 0 = z ∧ ∃ k : h - a < X.length, X[h - a] = z := fun h h0 h1 => at_winS ha h0 (by omega)
  have hWY : ∀ h, m ≤ h → h < b → ∃ z, z ∈ Y ∧ (P ++ (X ++ (Y ++ Q)))[h]? = some z ∧ (P ++ (X ++ (Y ++ Q))).getD h 0 = z ∧ ∃ k : h - m < Y.length, Y[h - m] = z := fun h h0 h1 => by
    have := at_winS (P := P ++ X) (X := Y) (T := Q) (a := m) (by rw [List.length_append]; omega) h0 (by omega)
    rwa [List.append_assoc] at this
  have hIX : AscI R (P ++ (X ++ (Y ++ Q))) a m := by
    have := hX.idx (T := Y ++ Q) ha hm
    rwa [List.append_assoc] at this
  have hIY : AscI R (P ++ (X ++ (Y ++ Q))) m b := by
    have := hY.idx (P := P ++ X) (T := Q) (a := m) (m := b) (by rw [List.length_append]; omega) hb
    rwa [List.append_assoc, List.append_assoc] at this
  obtain ⟨mid, hmid⟩ : ∃ n, n = (a + b) / 2 := ⟨_, rfl⟩
  obtain ⟨n, hn⟩ : ∃ n, n = mid + m := ⟨_, rfl⟩
  obtain ⟨p, hp⟩ : ∃ p, p = n - 1 := ⟨_, rfl⟩
  have HSPL0 : Hid (∀ s0 r0 s, (if mid < m then s0 = mid + m - b ∧ r0 = mid else s0 = a ∧ r0 = m) → s0 ≤ s → s ≤ r0 → (s0 < s → R ((P ++ (X ++ (Y ++ Q))).getD (s - 1) 0) ≤ R ((P ++ (X ++ (Y ++ Q))).getD (mid + m - s) 0)) → (s < r0 → R ((P ++ (X ++ (Y ++ Q))).getD (mid + m - 1 - s) 0) < R ((P ++ (X ++ (Y ++ Q))).getD s 0)) →
      (∀ y ∈ Y.take (mid - s), ∀ x ∈ X.drop (s - a), R y < R x) ∧ (∀ x ∈ X.take (s - a), ∀ y ∈ Y.drop (mid - s), R x ≤ R y)) := Lib.hid (fun s0 r0 s h1 h2 h3 h4 h5 => sym_split (P := P) (Q := Q) ha hm hb hX hY hmid h1 h2 h3 (by simpa using h4) (by simpa using h5))
  obtain ⟨L, hL⟩ : ∃ L, L = P ++ (X ++ (Y ++ Q)) := ⟨_, rfl⟩
  have HNN := Lib.hid hN
  rw [← hL] at hWX hWY hIX hIY h HSPL0
  have HWX := Lib.hid hWX
  have HWY := Lib.hid hWY
  have HIX := Lib.hid hIX
  have HIY := Lib.hid hIY
  have HK := Lib.hid hk
  have HP := Lib.hid h
  have HLE := Lib.hid hL
  have HA := Lib.hid ha
  have HM := Lib.hid hm
  have HB := Lib.hid hb
  have HNP : Hid (n = mid + m ∧ p + 1 = n) := Lib.hid ⟨hn, by omega⟩
  obtain ⟨xl, hxl⟩ : ∃ n, n = X.length := ⟨_, rfl⟩
  obtain ⟨yl, hyl⟩ : ∃ n, n = Y.length := ⟨_, rfl⟩
  have hma : IntKind.i64.wrap ((m : Int) - (a : Int)) = ((xl : Nat) : Int) := by rw [IntWalk.i64_in _ (by omega)]; omega
  have hbm : IntKind.i64.wrap ((b : Int) - (m : Int)) = ((yl : Nat) : Int) := by rw [IntWalk.i64_in _ (by omega)]; omega
  have hx1 : (((xl : Nat) : Int) == 1) = false := by simp; omega
  have hx2 : ¬ xl = 1 := by omega
  have hy1 : (((yl : Nat) : Int) == 1) = false := by simp; omega
  have hy2 : ¬ yl = 1 := by omega
  have s4 : Hid (((a : Int) + (b : Int)) / 2 = ((mid : Nat) : Int)) := Lib.hid (by omega)
  have s5 : Hid ((mid : Int) + (m : Int) = ((n : Nat) : Int)) := Lib.hid (by omega)
  have s7 : Hid ((mid : Int) + (m : Int) - 1 = ((p : Nat) : Int)) := Lib.hid (by omega)
  have bnd : a + 2 ≤ m ∧ m + 2 ≤ b ∧ a ≤ mid ∧ mid < b ∧ 2 * mid ≤ a + b ∧ a + b ≤ 2 * mid + 1 := by omega
  obtain ⟨b1, b2, b3, b4, b5, b6⟩ := bnd
  have HE0 : Hid (∀ s0 r0 s e9, (if mid < m then s0 = mid + m - b ∧ r0 = mid else s0 = a ∧ r0 = m) → s0 ≤ s → s ≤ r0 → e9 = n - s → a ≤ s ∧ s ≤ m ∧ s ≤ mid ∧ e9 + s = n ∧ e9 ≤ b ∧ m ≤ e9) := Lib.hid (fun s0 r0 s e9 h1 h2 h3 h4 => by split at h1 <;> omega)
  have HR0 : Hid (∀ s0 r0 k, (if mid < m then s0 = mid + m - b ∧ r0 = mid else s0 = a ∧ r0 = m) → s0 ≤ k → k < r0 → a ≤ k ∧ k < m ∧ m + k ≤ p ∧ p < b + k) := Lib.hid (fun s0 r0 k h1 h2 h3 => by split at h1 <;> omega)
  clear hWX hWY hIX hIY hk h hL ha hm hb hN hxl hyl hx hy hmid hn hp
  go_enter Try.func87, Try.ntmps87
  go_upto_region 25 with fail
  rw [s4.out]
  clear hma hbm hx1 hx2 hy1 hy2
  by_cases hmm : mid < m
  · obtain ⟨s0, hs0⟩ : ∃ s, s = mid + m - b := ⟨_, rfl⟩
    have s8 : Hid ((mid : Int) + (m : Int) - (b : Int) = ((s0 : Nat) : Int)) := Lib.hid (by omega)
    obtain ⟨r0, hr00⟩ : ∃ r, mid = r := ⟨_, rfl⟩
    have hif : (if mid < m then s0 = mid + m - b ∧ r0 = mid else s0 = a ∧ r0 = m) := by rw [if_pos hmm]; exact ⟨hs0, hr00.symm⟩
    have HSPL : Hid (∀ s, s0 ≤ s → s ≤ r0 → _ → _ → _) := Lib.hid (fun s => HSPL0.out s0 r0 s hif)
    have HE9 : Hid (∀ s e9, s0 ≤ s → s ≤ r0 → _ → _) := Lib.hid (fun s e9 => HE0.out s0 r0 s e9 hif)
    have HRng : Hid (∀ k, s0 ≤ k → k < r0 → _) := Lib.hid (fun k => HR0.out s0 r0 k hif)
    have hsr : s0 ≤ r0 := by omega
    have hr0N : r0 ≤ N := by omega
    clear hs0 hif
    have d8 : Hid (decide (mid < m) = true) := Lib.hid (decide_eq_true hmm)
    go_upto_region 33 with fail
    subst hr00
    rw [s8.out, s7.out, s5.out]
    try rw [d8.out]
    clear s5 s7 s8
    go_loopw [20, 21] (fun y9 z9 wr => ∃ s r : Nat, s0 ≤ s ∧ s ≤ r ∧ r ≤ mid ∧ y9 = .int .i64 (s : Int) ∧ z9 = .int .i64 (r : Int) ∧ Below w.heap.size w wr ∧ Hid ((∀ k, s0 ≤ k → k < s → R (L.getD k 0) ≤ R (L.getD (p - k) 0)) ∧ (∀ k, r ≤ k → k < mid → R (L.getD (p - k) 0) < R (L.getD k 0)))) (fun y9 z9 _ => (intOf z9).toNat - (intOf y9).toNat)
    case atStart => exact ⟨s0, mid, Nat.le_refl _, hsr, Nat.le_refl _, rfl, rfl, Below.refl _ _, Lib.hid ⟨fun h h0 h1 => absurd h0 (by omega), fun h h0 h1 => absurd h0 (by omega)⟩⟩
    case round =>
      obtain ⟨s, r, hs0, hsr9, hr0, rfl, rfl, hbl, hs⟩ := hrel
      by_cases hlt : s < r
      · have d1 : decide ((s : Int) < (r : Int)) = true := decide_eq_true (by omega)
        obtain ⟨h, hh⟩ : ∃ n, n = (s + r) / 2 := ⟨_, rfl⟩
        have s4 : Hid (((s : Int) + (r : Int)) / 2 = ((h : Nat) : Int)) := Lib.hid (by omega)
        have hsh : s ≤ h := by omega
        have hhr : h < r := by omega
        obtain ⟨r1, r2, r3, r4⟩ := HRng.out h (by omega) (by omega)
        obtain ⟨ph, hph⟩ : ∃ n, n = p - h := ⟨_, rfl⟩
        have hpeq : p = ph + h := by omega
        have HPH := Lib.hid hpeq
        have hphN : ph < N := by omega
        have hhN : h < N := by omega
        obtain ⟨z, hzX, hzc, hzd, _⟩ := HWX.out h r1 r2
        obtain ⟨y, hyY, hyc, hyd, _⟩ := HWY.out ph (by omega) (by omega)
        have KX : Hid (∀ V, Below w.heap.size w V → V.cell? ⟨y, 1, none⟩ = some (.int .i64 (R y))) := Lib.hid (fun V hV => HK.out.below hV (List.mem_append_right _ hyY))
        have KY : Hid (∀ V, Below w.heap.size w V → V.cell? ⟨z, 1, none⟩ = some (.int .i64 (R z))) := Lib.hid (fun V hV => HK.out.below hV (List.mem_append_left _ hzX))
        have CX : Hid (∀ V, Below w.heap.size w V → V.cell? ⟨g, off + ph, none⟩ = some (.pointer (some ⟨y, 0, none⟩))) := Lib.hid (fun V hV => HP.out.below hV hyc)
        have CY : Hid (∀ V, Below w.heap.size w V → V.cell? ⟨g, off + h, none⟩ = some (.pointer (some ⟨z, 0, none⟩))) := Lib.hid (fun V hV => HP.out.below hV hzc)
        obtain ⟨B, hB⟩ : ∃ B, B = decide (R y < R z) := ⟨_, rfl⟩
        have HBB : Hid (decide (cmpI (R y) (R z) < 0) = B) := Lib.hid (by rw [cmpI_lt, hB])
        have HB2 := Lib.hid hB
        have HYD := Lib.hid (And.intro hyd hzd)
        clear hh hzX hzc hzd hyY hyc hyd hB hph hpeq
        go_upto_region 35 with fail
        rw [s4.out]
        refine wp_region_held_drew (S := fun w' => Below w.heap.size w w') (by kernel_rfl) hbl.drew (fun hS => ?_)
        refine held_pure (i := 0) (oi := ⟨some 158, _, _, _, _, _⟩) rfl (by kernel_rfl) (by kernel_rfl) (by kernel_rfl) (fun _ _ _ h => h) (by rfl) (v := ?_) (fun w hSw => ?_) hS (fun hS => ?_)
        rotate_left
        · go_simp; try with_reducible rfl
        try go_frame
        refine held_pure (i := 1) (oi := ⟨some 159, _, _, _, _, _⟩) rfl (by kernel_rfl) (by kernel_rfl) (by kernel_rfl) (fun _ _ _ h => h) (by rfl) (v := ?_) (fun w hSw => ?_) hS (fun hS => ?_)
        rotate_left
        · go_simp; try with_reducible rfl
        try go_frame
        refine held_pure (i := 2) (oi := ⟨some 160, _, _, _, _, _⟩) rfl (by kernel_rfl) (by kernel_rfl) (by kernel_rfl) (fun _ _ _ h => h) (by rfl) (v := ?_) (fun w hSw => ?_) hS (fun hS => ?_)
        rotate_left
        · go_simp; try with_reducible rfl
        try go_frame
        refine held_pure (i := 3) (oi := ⟨some 161, _, _, _, _, _⟩) rfl (by kernel_rfl) (by kernel_rfl) (by kernel_rfl) (fun _ _ _ h => h) (by rfl) (v := ?_) (fun w hSw => ?_) hS (fun hS => ?_)
        rotate_left
        · go_simp; try with_reducible rfl
        try go_frame
        refine held_pure (i := 4) (oi := ⟨some 162, _, _, _, _, _⟩) rfl (by kernel_rfl) (by kernel_rfl) (by kernel_rfl) (fun _ _ _ h => h) (by rfl) (fun w hSw => run_sub_nat rfl rfl rfl (k := ph) HPH.out (by omega)) hS (fun hS => ?_)
        try go_frame
        refine held_pure (i := 5) (oi := ⟨some 163, _, _, _, _, _⟩) rfl (by kernel_rfl) (by kernel_rfl) (by kernel_rfl) (fun _ _ _ h => h) (by rfl) (fun w hSw => run_idx_pt (i := ph) rfl rfl rfl hphN) hS (fun hS => ?_)
        try go_frame
        refine held_pure (i := 6) (oi := ⟨some 164, _, _, _, _, _⟩) rfl (by kernel_rfl) (by kernel_rfl) (by kernel_rfl) (fun _ _ _ h => h) (by rfl) (fun w hSw => run_load_ptW rfl rfl (CX.out _ hSw)) hS (fun hS => ?_)
        try go_frame
        refine held_pure (i := 7) (oi := ⟨some 165, _, _, _, _, _⟩) rfl (by kernel_rfl) (by kernel_rfl) (by kernel_rfl) (fun _ _ _ h => h) (by rfl) (v := ?_) (fun w hSw => ?_) hS (fun hS => ?_)
        rotate_left
        · go_simp; try with_reducible rfl
        try go_frame
        refine held_pure (i := 8) (oi := ⟨some 166, _, _, _, _, _⟩) rfl (by kernel_rfl) (by kernel_rfl) (by kernel_rfl) (fun _ _ _ h => h) (by rfl) (v := ?_) (fun w hSw => ?_) hS (fun hS => ?_)
        rotate_left
        · go_simp; try with_reducible rfl
        try go_frame
        refine held_pure (i := 9) (oi := ⟨some 167, _, _, _, _, _⟩) rfl (by kernel_rfl) (by kernel_rfl) (by kernel_rfl) (fun _ _ _ h => h) (by rfl) (fun w hSw => run_idx_pt (i := h) rfl rfl rfl hhN) hS (fun hS => ?_)
        try go_frame
        refine held_pure (i := 10) (oi := ⟨some 168, _, _, _, _, _⟩) rfl (by kernel_rfl) (by kernel_rfl) (by kernel_rfl) (fun _ _ _ h => h) (by rfl) (fun w hSw => run_load_ptW rfl rfl (CY.out _ hSw)) hS (fun hS => ?_)
        try go_frame
        refine wpAnyH_ready (rs := [11]) (by kernel_rfl) (by simp) (AllReadyH.cons (o := ⟨some 169, _, _, _, _, _⟩) rfl (fun K hK => ?_) AllReadyH.nil)
        rw [if_pos (by rfl)]
        go_simp
        refine (wadv1 (KX.out _ hS) (KY.out _ hS)).mono ?_
        rintro e y11 ⟨rfl, rfl⟩
        show K _ _
        refine hK.out _ _ hS.drew (fun hS => ?_)
        clear hK K
        try go_frame
        refine held_pure (i := 12) (oi := ⟨some 170, _, _, _, _, _⟩) rfl (by kernel_rfl) (by kernel_rfl) (by kernel_rfl) (fun _ _ _ h => h) (by rfl) (v := .bool B) (fun w hSw => by go_simp; first | done | exact congrArg some (congrArg Value.bool HBB.out) | simp [HBB.out]) hS (fun hS => ?_)
        try go_frame
        refine held_pure (i := 13) (oi := ⟨some 171, _, _, _, _, _⟩) rfl (by kernel_rfl) (by kernel_rfl) (by kernel_rfl) (fun _ _ _ h => h) (by rfl) (v := ?_) (fun w hSw => ?_) hS (fun hS => ?_)
        rotate_left
        · go_simp; try with_reducible rfl
        try go_frame
        refine wpAnyH_done (by kernel_rfl) ?_ _
        cases B with
        | true =>
          go_wp2_with fail
          go_roundw
          case rel => exact ⟨s, h, hs0, hsh, by omega, rfl, rfl, hS, Lib.hid ⟨hs.out.1, fun k k0 k1 => by
            have e1 := of_decide_eq_true HB2.out.symm
            rw [← HYD.out.1, ← HYD.out.2] at e1
            obtain ⟨r1, r2, r3, r4⟩ := HRng.out k (by omega) k1
            have hp := HPH.out
            have e2 := HIY.out (p - k) ph (by omega) (by omega) (by omega)
            have e3 := HIX.out h k (by omega) k0 r2
            omega⟩⟩
          case measure => simp [intOf]; omega
        | false =>
          go_wp2_with fail
          go_roundw
          case rel => exact ⟨h + 1, r, by omega, by omega, hr0, congrArg (Value.int .i64) (by omega), rfl, hS, Lib.hid ⟨fun k k0 k1 => by
            have e1 := of_decide_eq_false HB2.out.symm
            rw [← HYD.out.1, ← HYD.out.2] at e1
            obtain ⟨r1, r2, r3, r4⟩ := HRng.out k k0 (by omega)
            have hp := HPH.out
            have e2 := HIY.out ph (p - k) (by omega) (by omega) (by omega)
            have e3 := HIX.out k h (by omega) (by omega) (by omega)
            omega, hs.out.2⟩⟩
          case measure => simp [intOf]; omega
      · have hsr2 : s = r := by omega
        obtain ⟨q1, q2⟩ := hs.out
        obtain ⟨e9, he9⟩ : ∃ e, e = n - s := ⟨_, rfl⟩
        have hsz9 : a ≤ s ∧ s ≤ m ∧ s ≤ mid ∧ e9 + s = n ∧ e9 ≤ b ∧ m ≤ e9 := HE9.out s e9 hs0 (by omega) he9
        obtain ⟨k1, k2, k3, k4, k5, k6⟩ := hsz9
        have hnb : n ≤ 8000000 := by omega
        have hsn : s ≤ n := by omega
        have s6 : Hid ((n : Int) - (s : Int) = ((e9 : Nat) : Int)) := Lib.hid (by omega)
        have hspl := HSPL.out s hs0 (by omega) (fun h => by
          have := q1 (s - 1) (by omega) (by omega)
          rwa [show p - (s - 1) = mid + m - s by have := HNP.out; omega] at this) (fun h => by
          have := q2 s (by omega) h
          rwa [show p - s = mid + m - 1 - s by have := HNP.out; omega] at this)
        obtain ⟨X1, hX1⟩ : ∃ l, l = X.take (s - a) := ⟨_, rfl⟩
        obtain ⟨X2, hX2⟩ : ∃ l, l = X.drop (s - a) := ⟨_, rfl⟩
        obtain ⟨Y1, hY1⟩ : ∃ l, l = Y.take (mid - s) := ⟨_, rfl⟩
        obtain ⟨Y2, hY2⟩ : ∃ l, l = Y.drop (mid - s) := ⟨_, rfl⟩
        rw [← hX1, ← hX2, ← hY1, ← hY2] at hspl
        obtain ⟨F1, F2⟩ := hspl
        have eX : X = X1 ++ X2 := by rw [hX1, hX2, List.take_append_drop]
        have eY : Y = Y1 ++ Y2 := by rw [hY1, hY2, List.take_append_drop]
        have hnm := HNP.out
        have hlm := HM.out
        have hlb := HB.out
        have lX1 : a + X1.length = s := by rw [hX1, List.length_take]; omega
        have lX2 : s + X2.length = m := by rw [hX2, List.length_drop]; omega
        have lY1 : m + Y1.length = e9 := by rw [hY1, List.length_take]; omega
        have lY2 : e9 + Y2.length = b := by rw [hY2, List.length_drop]; omega
        have g1 : s + Y1.length = mid := by omega
        have g2 : mid + X2.length = e9 := by omega
        have hr : PRow wr g off (P ++ (X1 ++ (X2 ++ (Y1 ++ (Y2 ++ Q))))) := by
          have := HP.out.of_block (hbl.block g HP.out.lt)
          rw [HLE.out, eX, eY] at this
          simpa using this
        have kp : Kept (fun k => k = g) w wr := Kept.of_below hbl
        have HX := Lib.hid (show Asc R (X1 ++ X2) by rw [← eX]; exact hX)
        have HY := Lib.hid (show Asc R (Y1 ++ Y2) by rw [← eY]; exact hY)
        have hNN : (P ++ (X1 ++ (X2 ++ (Y1 ++ (Y2 ++ Q))))).length = N := by have := HNN.out; rw [eX, eY] at this; simpa using this
        have hKK : KeyR w g R ((X1 ++ X2) ++ (Y1 ++ Y2)) := by rw [← eX, ← eY]; exact HK.out
        have HR : s < m → m < e9 → Hid (∀ V, PRow V g off (P ++ (X1 ++ (X2 ++ (Y1 ++ (Y2 ++ Q))))) → Calls Try.prog 105 #[.slice (some ⟨g, off, none⟩) N c, .int .i64 (s : Int), .int .i64 (m : Int), .int .i64 (e9 : Int), .func (.func 33) #[] #[]] V fun e w' => e = .returned (.tuple #[]) ∧ PRow w' g off (P ++ (X1 ++ (Y1 ++ (X2 ++ (Y2 ++ Q))))) ∧ Kept (fun k => k = g) V w') := fun h1 h2 => Lib.hid (fun V hV => by
          have := wsrotate (w := V) (c := c) (N := N) (P := P ++ X1) (X := X2) (Y := Y1) (Q := Y2 ++ Q) (.func (.func 33) #[] #[]) (a := s) (m := m) (b := e9) (by rw [List.length_append, HA.out]; exact lX1) lX2 lY1 (by rw [List.append_assoc]; exact hNN) hsz (by rw [List.append_assoc]; exact hV) (by omega) (by omega)
          refine this.mono fun e w' ⟨t1, t2, t3⟩ => ⟨t1, by rw [List.append_assoc] at t2; exact t2, t3⟩)
        have HNR : Hid (∀ V, PRow V g off (P ++ (X1 ++ (X2 ++ (Y1 ++ (Y2 ++ Q))))) → (s = m ∨ m = e9) → PRow V g off (P ++ (X1 ++ (Y1 ++ (X2 ++ (Y2 ++ Q)))))) := Lib.hid (fun V hV hc => by
          rcases hc with hc | hc
          · have e1 : X2 = [] := List.eq_nil_of_length_eq_zero (by omega)
            rw [e1] at hV ⊢; simpa using hV
          · have e1 : Y1 = [] := List.eq_nil_of_length_eq_zero (by omega)
            rw [e1] at hV ⊢; simpa using hV)
        have HS1 : a < s → s < mid → Hid (∀ V, PRow V g off (P ++ (X1 ++ (Y1 ++ (X2 ++ (Y2 ++ Q))))) → Kept (fun k => k = g) w V → Calls Try.prog 87 #[.slice (some ⟨g, off, none⟩) N c, .int .i64 (a : Int), .int .i64 (s : Int), .int .i64 (mid : Int), .func (.func 33) #[] #[]] V fun e w' => e = .returned (.tuple #[]) ∧ ∃ Z, PRow w' g off (P ++ (Z ++ (X2 ++ (Y2 ++ Q)))) ∧ Stb R Z (X1 ++ Y1) ∧ Kept (fun k => k = g) V w') := fun h1 h2 => Lib.hid (fun V hV kV =>
          ih.out (w := V) (c := c) (P := P) (X := X1) (Y := Y1) (Q := X2 ++ (Y2 ++ Q)) (a := a) (m := s) (b := mid) (by omega) HA.out lX1 g1 (by rw [← hNN]; simp only [List.length_append]; omega) hsz (List.pairwise_append.1 HX.out).1 (List.pairwise_append.1 HY.out).1 (by omega) (by omega) hV ((hKK.kept kV).sub (fun y hy => by
            rcases List.mem_append.1 hy with hy | hy
            · exact List.mem_append_left _ (List.mem_append_left _ hy)
            · exact List.mem_append_right _ (List.mem_append_left _ hy))))
        have HN1 : Hid (∀ V, PRow V g off (P ++ (X1 ++ (Y1 ++ (X2 ++ (Y2 ++ Q))))) → (a = s ∨ m = e9) → ∃ Z, PRow V g off (P ++ (Z ++ (X2 ++ (Y2 ++ Q)))) ∧ Stb R Z (X1 ++ Y1)) := Lib.hid (fun V hV hc => by
          rcases hc with hc | hc
          · have e1 : X1 = [] := List.eq_nil_of_length_eq_zero (by omega)
            rw [e1] at hV ⊢
            exact ⟨Y1, by simpa using hV, Stb.self (List.pairwise_append.1 HY.out).1⟩
          · have e1 : Y1 = [] := List.eq_nil_of_length_eq_zero (by omega)
            rw [e1] at hV ⊢
            rw [List.append_nil]
            exact ⟨X1, by simpa using hV, Stb.self (List.pairwise_append.1 HX.out).1⟩)
        have HS2 : mid < e9 → e9 < b → Hid (∀ V Z1, Stb R Z1 (X1 ++ Y1) → PRow V g off (P ++ (Z1 ++ (X2 ++ (Y2 ++ Q)))) → Kept (fun k => k = g) w V → Calls Try.prog 87 #[.slice (some ⟨g, off, none⟩) N c, .int .i64 (mid : Int), .int .i64 (e9 : Int), .int .i64 (b : Int), .func (.func 33) #[] #[]] V fun e w' => e = .returned (.tuple #[]) ∧ ∃ Z, PRow w' g off (P ++ (Z1 ++ (Z ++ Q))) ∧ Stb R Z (X2 ++ Y2) ∧ Kept (fun k => k = g) V w') := fun h1 h2 => Lib.hid (fun V Z1 hz hV kV => by
          have hzl := hz.len
          rw [List.length_append] at hzl
          have := ih.out (w := V) (c := c) (P := P ++ Z1) (X := X2) (Y := Y2) (Q := Q) (a := mid) (m := e9) (b := b) (by omega) (by rw [List.length_append, HA.out]; omega) g2 lY2 (by rw [← hNN]; simp only [List.length_append]; omega) hsz (List.pairwise_append.1 HX.out).2.1 (List.pairwise_append.1 HY.out).2.1 (by omega) (by omega) (by rw [List.append_assoc]; exact hV) ((hKK.kept kV).sub (fun y hy => by
            rcases List.mem_append.1 hy with hy | hy
            · exact List.mem_append_left _ (List.mem_append_right _ hy)
            · exact List.mem_append_right _ (List.mem_append_right _ hy)))
          exact this.mono fun e w' ⟨t1, Z, t2, t3, t4⟩ => ⟨t1, Z, by rw [List.append_assoc] at t2; exact t2, t3, t4⟩)
        have HN2 : Hid (∀ V (Z1 : List Nat), PRow V g off (P ++ (Z1 ++ (X2 ++ (Y2 ++ Q)))) → (s = m ∨ e9 = b) → ∃ Z, PRow V g off (P ++ (Z1 ++ (Z ++ Q))) ∧ Stb R Z (X2 ++ Y2)) := Lib.hid (fun V Z1 hV hc => by
          rcases hc with hc | hc
          · have e1 : X2 = [] := List.eq_nil_of_length_eq_zero (by omega)
            rw [e1] at hV ⊢
            exact ⟨Y2, by simpa using hV, Stb.self (List.pairwise_append.1 HY.out).2.1⟩
          · have e1 : Y2 = [] := List.eq_nil_of_length_eq_zero (by omega)
            rw [e1] at hV ⊢
            rw [List.append_nil]
            exact ⟨X2, by simpa using hV, Stb.self (List.pairwise_append.1 HX.out).2.1⟩)
        have HZ : Hid (∀ Z1 Z2, Stb R Z1 (X1 ++ Y1) → Stb R Z2 (X2 ++ Y2) → Stb R (Z1 ++ Z2) (X ++ Y)) := Lib.hid (fun Z1 Z2 h1 h2 => by
          rw [eX, eY]
          exact Stb.merge HX.out HY.out F1 F2 h1 h2)
        have j1 : s < m ↔ mid < e9 := by omega
        have j2 : m < e9 ↔ s < mid := by omega
        have t1 : a ≤ s := k1
        have J := Lib.hid (And.intro j1 j2)
        clear q1 q2 hs F1 F2 eX eY hX1 hX2 hY1 hY2 lX1 lX2 lY1 lY2 g1 g2 hNN hKK he9 hsr2 hbl hnm hlm hlb j1 j2 k4 hsr9 hr0 t1
        by_cases hx1 : a < s
        · by_cases hx2 : s < m
          · by_cases hy1 : m < e9
            · by_cases hy2 : e9 < b
              · have HR := HR hx2 hy1
                have HS1 := HS1 hx1 (J.out.2.1 hy1)
                have HS2 := HS2 (J.out.1.1 hx2) hy2
                have hx2b : mid < e9 := J.out.1.1 hx2
                have hy1b : s < mid := J.out.2.1 hy1
                go_upto_region 39 with fail
                rw [s6.out]
                go_upto_region 41 with ((with_reducible show Calls _ 105 #[_, .int .i64 (s : Int), .int .i64 (m : Int), .int .i64 (e9 : Int), _] _ _); go_loud (refine (HR.out _ hr).mono ?_; rintro e w2 ⟨rfl, hr2, kp2⟩))
                have kp2 := kp.trans kp2 (fun _ _ e => e)
                go_upto_region 43 with ((with_reducible show Calls _ 87 #[_, .int .i64 (a : Int), .int .i64 (s : Int), .int .i64 (mid : Int), _] _ _); refine (HS1.out _ hr2 kp2).mono ?_; rintro e w3 ⟨rfl, Z1, hr3, hz1, kp3⟩)
                have kp3 := kp2.trans kp3 (fun _ _ e => e)
                go_wp2_with ((with_reducible show Calls _ 87 #[_, .int .i64 (mid : Int), .int .i64 (e9 : Int), .int .i64 (b : Int), _] _ _); refine (HS2.out _ Z1 hz1 hr3 kp3).mono ?_; rintro e w4 ⟨rfl, Z2, hr4, hz2, kp4⟩)
                have kp4 := kp3.trans kp4 (fun _ _ e => e)
                exact bodyPost_end (results_none rfl _ _ _) rfl ⟨rfl, Z1 ++ Z2, by rw [List.append_assoc]; exact hr4, HZ.out _ _ hz1 hz2, kp4⟩
              · have HR := HR hx2 hy1
                have HS1 := HS1 hx1 (J.out.2.1 hy1)
                clear HS2
                have hx2b : mid < e9 := J.out.1.1 hx2
                have hy1b : s < mid := J.out.2.1 hy1
                go_upto_region 39 with fail
                rw [s6.out]
                go_upto_region 41 with ((with_reducible show Calls _ 105 #[_, .int .i64 (s : Int), .int .i64 (m : Int), .int .i64 (e9 : Int), _] _ _); go_loud (refine (HR.out _ hr).mono ?_; rintro e w2 ⟨rfl, hr2, kp2⟩))
                have kp2 := kp.trans kp2 (fun _ _ e => e)
                go_upto_region 43 with ((with_reducible show Calls _ 87 #[_, .int .i64 (a : Int), .int .i64 (s : Int), .int .i64 (mid : Int), _] _ _); refine (HS1.out _ hr2 kp2).mono ?_; rintro e w3 ⟨rfl, Z1, hr3, hz1, kp3⟩)
                have kp3 := kp2.trans kp3 (fun _ _ e => e)
                go_wp2_with fail
                obtain ⟨Z2, hr4, hz2⟩ := HN2.out _ _ hr3 (.inr (by omega))
                have kp4 := kp3
                exact bodyPost_end (results_none rfl _ _ _) rfl ⟨rfl, Z1 ++ Z2, by rw [List.append_assoc]; exact hr4, HZ.out _ _ hz1 hz2, kp4⟩
            · by_cases hy2 : e9 < b
              · clear HR
                clear HS1
                have HS2 := HS2 (J.out.1.1 hx2) hy2
                have hx2b : mid < e9 := J.out.1.1 hx2
                have hy1b : ¬ s < mid := fun h => hy1 (J.out.2.2 h)
                go_upto_region 39 with fail
                rw [s6.out]
                go_upto_region 41 with fail
                have hr2 := HNR.out _ hr (.inr (by omega))
                have kp2 := kp
                go_upto_region 43 with fail
                obtain ⟨Z1, hr3, hz1⟩ := HN1.out _ hr2 (.inr (by omega))
                have kp3 := kp2
                go_wp2_with ((with_reducible show Calls _ 87 #[_, .int .i64 (mid : Int), .int .i64 (e9 : Int), .int .i64 (b : Int), _] _ _); refine (HS2.out _ Z1 hz1 hr3 kp3).mono ?_; rintro e w4 ⟨rfl, Z2, hr4, hz2, kp4⟩)
                have kp4 := kp3.trans kp4 (fun _ _ e => e)
                exact bodyPost_end (results_none rfl _ _ _) rfl ⟨rfl, Z1 ++ Z2, by rw [List.append_assoc]; exact hr4, HZ.out _ _ hz1 hz2, kp4⟩
              · clear HR
                clear HS1
                clear HS2
                have hx2b : mid < e9 := J.out.1.1 hx2
                have hy1b : ¬ s < mid := fun h => hy1 (J.out.2.2 h)
                go_upto_region 39 with fail
                rw [s6.out]
                go_upto_region 41 with fail
                have hr2 := HNR.out _ hr (.inr (by omega))
                have kp2 := kp
                go_upto_region 43 with fail
                obtain ⟨Z1, hr3, hz1⟩ := HN1.out _ hr2 (.inr (by omega))
                have kp3 := kp2
                go_wp2_with fail
                obtain ⟨Z2, hr4, hz2⟩ := HN2.out _ _ hr3 (.inr (by omega))
                have kp4 := kp3
                exact bodyPost_end (results_none rfl _ _ _) rfl ⟨rfl, Z1 ++ Z2, by rw [List.append_assoc]; exact hr4, HZ.out _ _ hz1 hz2, kp4⟩
          · by_cases hy1 : m < e9
            · by_cases hy2 : e9 < b
              · clear HR
                have HS1 := HS1 hx1 (J.out.2.1 hy1)
                clear HS2
                have hx2b : ¬ mid < e9 := fun h => hx2 (J.out.1.2 h)
                have hy1b : s < mid := J.out.2.1 hy1
                go_upto_region 39 with fail
                rw [s6.out]
                go_upto_region 41 with fail
                have hr2 := HNR.out _ hr (.inl (by omega))
                have kp2 := kp
                go_upto_region 43 with ((with_reducible show Calls _ 87 #[_, .int .i64 (a : Int), .int .i64 (s : Int), .int .i64 (mid : Int), _] _ _); refine (HS1.out _ hr2 kp2).mono ?_; rintro e w3 ⟨rfl, Z1, hr3, hz1, kp3⟩)
                have kp3 := kp2.trans kp3 (fun _ _ e => e)
                go_wp2_with fail
                obtain ⟨Z2, hr4, hz2⟩ := HN2.out _ _ hr3 (.inl (by omega))
                have kp4 := kp3
                exact bodyPost_end (results_none rfl _ _ _) rfl ⟨rfl, Z1 ++ Z2, by rw [List.append_assoc]; exact hr4, HZ.out _ _ hz1 hz2, kp4⟩
              · clear HR
                have HS1 := HS1 hx1 (J.out.2.1 hy1)
                clear HS2
                have hx2b : ¬ mid < e9 := fun h => hx2 (J.out.1.2 h)
                have hy1b : s < mid := J.out.2.1 hy1
                go_upto_region 39 with fail
                rw [s6.out]
                go_upto_region 41 with fail
                have hr2 := HNR.out _ hr (.inl (by omega))
                have kp2 := kp
                go_upto_region 43 with ((with_reducible show Calls _ 87 #[_, .int .i64 (a : Int), .int .i64 (s : Int), .int .i64 (mid : Int), _] _ _); refine (HS1.out _ hr2 kp2).mono ?_; rintro e w3 ⟨rfl, Z1, hr3, hz1, kp3⟩)
                have kp3 := kp2.trans kp3 (fun _ _ e => e)
                go_wp2_with fail
                obtain ⟨Z2, hr4, hz2⟩ := HN2.out _ _ hr3 (.inl (by omega))
                have kp4 := kp3
                exact bodyPost_end (results_none rfl _ _ _) rfl ⟨rfl, Z1 ++ Z2, by rw [List.append_assoc]; exact hr4, HZ.out _ _ hz1 hz2, kp4⟩
            · by_cases hy2 : e9 < b
              · clear HR
                clear HS1
                clear HS2
                have hx2b : ¬ mid < e9 := fun h => hx2 (J.out.1.2 h)
                have hy1b : ¬ s < mid := fun h => hy1 (J.out.2.2 h)
                go_upto_region 39 with fail
                rw [s6.out]
                go_upto_region 41 with fail
                have hr2 := HNR.out _ hr (.inl (by omega))
                have kp2 := kp
                go_upto_region 43 with fail
                obtain ⟨Z1, hr3, hz1⟩ := HN1.out _ hr2 (.inr (by omega))
                have kp3 := kp2
                go_wp2_with fail
                obtain ⟨Z2, hr4, hz2⟩ := HN2.out _ _ hr3 (.inl (by omega))
                have kp4 := kp3
                exact bodyPost_end (results_none rfl _ _ _) rfl ⟨rfl, Z1 ++ Z2, by rw [List.append_assoc]; exact hr4, HZ.out _ _ hz1 hz2, kp4⟩
              · clear HR
                clear HS1
                clear HS2
                have hx2b : ¬ mid < e9 := fun h => hx2 (J.out.1.2 h)
                have hy1b : ¬ s < mid := fun h => hy1 (J.out.2.2 h)
                go_upto_region 39 with fail
                rw [s6.out]
                go_upto_region 41 with fail
                have hr2 := HNR.out _ hr (.inl (by omega))
                have kp2 := kp
                go_upto_region 43 with fail
                obtain ⟨Z1, hr3, hz1⟩ := HN1.out _ hr2 (.inr (by omega))
                have kp3 := kp2
                go_wp2_with fail
                obtain ⟨Z2, hr4, hz2⟩ := HN2.out _ _ hr3 (.inl (by omega))
                have kp4 := kp3
                exact bodyPost_end (results_none rfl _ _ _) rfl ⟨rfl, Z1 ++ Z2, by rw [List.append_assoc]; exact hr4, HZ.out _ _ hz1 hz2, kp4⟩
        · by_cases hx2 : s < m
          · by_cases hy1 : m < e9
            · by_cases hy2 : e9 < b
              · have HR := HR hx2 hy1
                clear HS1
                have HS2 := HS2 (J.out.1.1 hx2) hy2
                have hx2b : mid < e9 := J.out.1.1 hx2
                have hy1b : s < mid := J.out.2.1 hy1
                go_upto_region 39 with fail
                rw [s6.out]
                go_upto_region 41 with ((with_reducible show Calls _ 105 #[_, .int .i64 (s : Int), .int .i64 (m : Int), .int .i64 (e9 : Int), _] _ _); go_loud (refine (HR.out _ hr).mono ?_; rintro e w2 ⟨rfl, hr2, kp2⟩))
                have kp2 := kp.trans kp2 (fun _ _ e => e)
                go_upto_region 43 with fail
                obtain ⟨Z1, hr3, hz1⟩ := HN1.out _ hr2 (.inl (by omega))
                have kp3 := kp2
                go_wp2_with ((with_reducible show Calls _ 87 #[_, .int .i64 (mid : Int), .int .i64 (e9 : Int), .int .i64 (b : Int), _] _ _); refine (HS2.out _ Z1 hz1 hr3 kp3).mono ?_; rintro e w4 ⟨rfl, Z2, hr4, hz2, kp4⟩)
                have kp4 := kp3.trans kp4 (fun _ _ e => e)
                exact bodyPost_end (results_none rfl _ _ _) rfl ⟨rfl, Z1 ++ Z2, by rw [List.append_assoc]; exact hr4, HZ.out _ _ hz1 hz2, kp4⟩
              · have HR := HR hx2 hy1
                clear HS1
                clear HS2
                have hx2b : mid < e9 := J.out.1.1 hx2
                have hy1b : s < mid := J.out.2.1 hy1
                go_upto_region 39 with fail
                rw [s6.out]
                go_upto_region 41 with ((with_reducible show Calls _ 105 #[_, .int .i64 (s : Int), .int .i64 (m : Int), .int .i64 (e9 : Int), _] _ _); go_loud (refine (HR.out _ hr).mono ?_; rintro e w2 ⟨rfl, hr2, kp2⟩))
                have kp2 := kp.trans kp2 (fun _ _ e => e)
                go_upto_region 43 with fail
                obtain ⟨Z1, hr3, hz1⟩ := HN1.out _ hr2 (.inl (by omega))
                have kp3 := kp2
                go_wp2_with fail
                obtain ⟨Z2, hr4, hz2⟩ := HN2.out _ _ hr3 (.inr (by omega))
                have kp4 := kp3
                exact bodyPost_end (results_none rfl _ _ _) rfl ⟨rfl, Z1 ++ Z2, by rw [List.append_assoc]; exact hr4, HZ.out _ _ hz1 hz2, kp4⟩
            · by_cases hy2 : e9 < b
              · clear HR
                clear HS1
                have HS2 := HS2 (J.out.1.1 hx2) hy2
                have hx2b : mid < e9 := J.out.1.1 hx2
                have hy1b : ¬ s < mid := fun h => hy1 (J.out.2.2 h)
                go_upto_region 39 with fail
                rw [s6.out]
                go_upto_region 41 with fail
                have hr2 := HNR.out _ hr (.inr (by omega))
                have kp2 := kp
                go_upto_region 43 with fail
                obtain ⟨Z1, hr3, hz1⟩ := HN1.out _ hr2 (.inl (by omega))
                have kp3 := kp2
                go_wp2_with ((with_reducible show Calls _ 87 #[_, .int .i64 (mid : Int), .int .i64 (e9 : Int), .int .i64 (b : Int), _] _ _); refine (HS2.out _ Z1 hz1 hr3 kp3).mono ?_; rintro e w4 ⟨rfl, Z2, hr4, hz2, kp4⟩)
                have kp4 := kp3.trans kp4 (fun _ _ e => e)
                exact bodyPost_end (results_none rfl _ _ _) rfl ⟨rfl, Z1 ++ Z2, by rw [List.append_assoc]; exact hr4, HZ.out _ _ hz1 hz2, kp4⟩
              · clear HR
                clear HS1
                clear HS2
                have hx2b : mid < e9 := J.out.1.1 hx2
                have hy1b : ¬ s < mid := fun h => hy1 (J.out.2.2 h)
                go_upto_region 39 with fail
                rw [s6.out]
                go_upto_region 41 with fail
                have hr2 := HNR.out _ hr (.inr (by omega))
                have kp2 := kp
                go_upto_region 43 with fail
                obtain ⟨Z1, hr3, hz1⟩ := HN1.out _ hr2 (.inl (by omega))
                have kp3 := kp2
                go_wp2_with fail
                obtain ⟨Z2, hr4, hz2⟩ := HN2.out _ _ hr3 (.inr (by omega))
                have kp4 := kp3
                exact bodyPost_end (results_none rfl _ _ _) rfl ⟨rfl, Z1 ++ Z2, by rw [List.append_assoc]; exact hr4, HZ.out _ _ hz1 hz2, kp4⟩
          · by_cases hy1 : m < e9
            · by_cases hy2 : e9 < b
              · clear HR
                clear HS1
                clear HS2
                have hx2b : ¬ mid < e9 := fun h => hx2 (J.out.1.2 h)
                have hy1b : s < mid := J.out.2.1 hy1
                go_upto_region 39 with fail
                rw [s6.out]
                go_upto_region 41 with fail
                have hr2 := HNR.out _ hr (.inl (by omega))
                have kp2 := kp
                go_upto_region 43 with fail
                obtain ⟨Z1, hr3, hz1⟩ := HN1.out _ hr2 (.inl (by omega))
                have kp3 := kp2
                go_wp2_with fail
                obtain ⟨Z2, hr4, hz2⟩ := HN2.out _ _ hr3 (.inl (by omega))
                have kp4 := kp3
                exact bodyPost_end (results_none rfl _ _ _) rfl ⟨rfl, Z1 ++ Z2, by rw [List.append_assoc]; exact hr4, HZ.out _ _ hz1 hz2, kp4⟩
              · clear HR
                clear HS1
                clear HS2
                have hx2b : ¬ mid < e9 := fun h => hx2 (J.out.1.2 h)
                have hy1b : s < mid := J.out.2.1 hy1
                go_upto_region 39 with fail
                rw [s6.out]
                go_upto_region 41 with fail
                have hr2 := HNR.out _ hr (.inl (by omega))
                have kp2 := kp
                go_upto_region 43 with fail
                obtain ⟨Z1, hr3, hz1⟩ := HN1.out _ hr2 (.inl (by omega))
                have kp3 := kp2
                go_wp2_with fail
                obtain ⟨Z2, hr4, hz2⟩ := HN2.out _ _ hr3 (.inl (by omega))
                have kp4 := kp3
                exact bodyPost_end (results_none rfl _ _ _) rfl ⟨rfl, Z1 ++ Z2, by rw [List.append_assoc]; exact hr4, HZ.out _ _ hz1 hz2, kp4⟩
            · by_cases hy2 : e9 < b
              · clear HR
                clear HS1
                clear HS2
                have hx2b : ¬ mid < e9 := fun h => hx2 (J.out.1.2 h)
                have hy1b : ¬ s < mid := fun h => hy1 (J.out.2.2 h)
                go_upto_region 39 with fail
                rw [s6.out]
                go_upto_region 41 with fail
                have hr2 := HNR.out _ hr (.inl (by omega))
                have kp2 := kp
                go_upto_region 43 with fail
                obtain ⟨Z1, hr3, hz1⟩ := HN1.out _ hr2 (.inl (by omega))
                have kp3 := kp2
                go_wp2_with fail
                obtain ⟨Z2, hr4, hz2⟩ := HN2.out _ _ hr3 (.inl (by omega))
                have kp4 := kp3
                exact bodyPost_end (results_none rfl _ _ _) rfl ⟨rfl, Z1 ++ Z2, by rw [List.append_assoc]; exact hr4, HZ.out _ _ hz1 hz2, kp4⟩
              · clear HR
                clear HS1
                clear HS2
                have hx2b : ¬ mid < e9 := fun h => hx2 (J.out.1.2 h)
                have hy1b : ¬ s < mid := fun h => hy1 (J.out.2.2 h)
                go_upto_region 39 with fail
                rw [s6.out]
                go_upto_region 41 with fail
                have hr2 := HNR.out _ hr (.inl (by omega))
                have kp2 := kp
                go_upto_region 43 with fail
                obtain ⟨Z1, hr3, hz1⟩ := HN1.out _ hr2 (.inl (by omega))
                have kp3 := kp2
                go_wp2_with fail
                obtain ⟨Z2, hr4, hz2⟩ := HN2.out _ _ hr3 (.inl (by omega))
                have kp4 := kp3
                exact bodyPost_end (results_none rfl _ _ _) rfl ⟨rfl, Z1 ++ Z2, by rw [List.append_assoc]; exact hr4, HZ.out _ _ hz1 hz2, kp4⟩
  · have hmm2 : m ≤ mid := by omega
    obtain ⟨s0, hs0⟩ : ∃ s, a = s := ⟨_, rfl⟩
    obtain ⟨r0, hr00⟩ : ∃ r, m = r := ⟨_, rfl⟩
    have hif : (if mid < m then s0 = mid + m - b ∧ r0 = mid else s0 = a ∧ r0 = m) := by rw [if_neg hmm]; exact ⟨hs0.symm, hr00.symm⟩
    have HSPL : Hid (∀ s, s0 ≤ s → s ≤ r0 → _ → _ → _) := Lib.hid (fun s => HSPL0.out s0 r0 s hif)
    have HE9 : Hid (∀ s e9, s0 ≤ s → s ≤ r0 → _ → _) := Lib.hid (fun s e9 => HE0.out s0 r0 s e9 hif)
    have HRng : Hid (∀ k, s0 ≤ k → k < r0 → _) := Lib.hid (fun k => HR0.out s0 r0 k hif)
    have hsr : s0 ≤ r0 := by omega
    clear hif
    have d8 : Hid (decide (mid < m) = false) := Lib.hid (decide_eq_false hmm)
    go_upto_region 33 with fail
    subst hr00
    subst hs0
    rw [s7.out, s5.out]
    try rw [d8.out]
    clear s5 s7
    go_loopw [20, 21] (fun y9 z9 wr => ∃ s r : Nat, a ≤ s ∧ s ≤ r ∧ r ≤ m ∧ y9 = .int .i64 (s : Int) ∧ z9 = .int .i64 (r : Int) ∧ Below w.heap.size w wr ∧ Hid ((∀ k, a ≤ k → k < s → R (L.getD k 0) ≤ R (L.getD (p - k) 0)) ∧ (∀ k, r ≤ k → k < m → R (L.getD (p - k) 0) < R (L.getD k 0)))) (fun y9 z9 _ => (intOf z9).toNat - (intOf y9).toNat)
    case atStart => exact ⟨a, m, Nat.le_refl _, hsr, Nat.le_refl _, rfl, rfl, Below.refl _ _, Lib.hid ⟨fun h h0 h1 => absurd h0 (by omega), fun h h0 h1 => absurd h0 (by omega)⟩⟩
    case round =>
      obtain ⟨s, r, hs0, hsr9, hr0, rfl, rfl, hbl, hs⟩ := hrel
      by_cases hlt : s < r
      · have d1 : decide ((s : Int) < (r : Int)) = true := decide_eq_true (by omega)
        obtain ⟨h, hh⟩ : ∃ n, n = (s + r) / 2 := ⟨_, rfl⟩
        have s4 : Hid (((s : Int) + (r : Int)) / 2 = ((h : Nat) : Int)) := Lib.hid (by omega)
        have hsh : s ≤ h := by omega
        have hhr : h < r := by omega
        obtain ⟨r1, r2, r3, r4⟩ := HRng.out h (by omega) (by omega)
        obtain ⟨ph, hph⟩ : ∃ n, n = p - h := ⟨_, rfl⟩
        have hpeq : p = ph + h := by omega
        have HPH := Lib.hid hpeq
        have hphN : ph < N := by omega
        have hhN : h < N := by omega
        obtain ⟨z, hzX, hzc, hzd, _⟩ := HWX.out h r1 r2
        obtain ⟨y, hyY, hyc, hyd, _⟩ := HWY.out ph (by omega) (by omega)
        have KX : Hid (∀ V, Below w.heap.size w V → V.cell? ⟨y, 1, none⟩ = some (.int .i64 (R y))) := Lib.hid (fun V hV => HK.out.below hV (List.mem_append_right _ hyY))
        have KY : Hid (∀ V, Below w.heap.size w V → V.cell? ⟨z, 1, none⟩ = some (.int .i64 (R z))) := Lib.hid (fun V hV => HK.out.below hV (List.mem_append_left _ hzX))
        have CX : Hid (∀ V, Below w.heap.size w V → V.cell? ⟨g, off + ph, none⟩ = some (.pointer (some ⟨y, 0, none⟩))) := Lib.hid (fun V hV => HP.out.below hV hyc)
        have CY : Hid (∀ V, Below w.heap.size w V → V.cell? ⟨g, off + h, none⟩ = some (.pointer (some ⟨z, 0, none⟩))) := Lib.hid (fun V hV => HP.out.below hV hzc)
        obtain ⟨B, hB⟩ : ∃ B, B = decide (R y < R z) := ⟨_, rfl⟩
        have HBB : Hid (decide (cmpI (R y) (R z) < 0) = B) := Lib.hid (by rw [cmpI_lt, hB])
        have HB2 := Lib.hid hB
        have HYD := Lib.hid (And.intro hyd hzd)
        clear hh hzX hzc hzd hyY hyc hyd hB hph hpeq
        go_upto_region 35 with fail
        rw [s4.out]
        refine wp_region_held_drew (S := fun w' => Below w.heap.size w w') (by kernel_rfl) hbl.drew (fun hS => ?_)
        refine held_pure (i := 0) (oi := ⟨some 158, _, _, _, _, _⟩) rfl (by kernel_rfl) (by kernel_rfl) (by kernel_rfl) (fun _ _ _ h => h) (by rfl) (v := ?_) (fun w hSw => ?_) hS (fun hS => ?_)
        rotate_left
        · go_simp; try with_reducible rfl
        try go_frame
        refine held_pure (i := 1) (oi := ⟨some 159, _, _, _, _, _⟩) rfl (by kernel_rfl) (by kernel_rfl) (by kernel_rfl) (fun _ _ _ h => h) (by rfl) (v := ?_) (fun w hSw => ?_) hS (fun hS => ?_)
        rotate_left
        · go_simp; try with_reducible rfl
        try go_frame
        refine held_pure (i := 2) (oi := ⟨some 160, _, _, _, _, _⟩) rfl (by kernel_rfl) (by kernel_rfl) (by kernel_rfl) (fun _ _ _ h => h) (by rfl) (v := ?_) (fun w hSw => ?_) hS (fun hS => ?_)
        rotate_left
        · go_simp; try with_reducible rfl
        try go_frame
        refine held_pure (i := 3) (oi := ⟨some 161, _, _, _, _, _⟩) rfl (by kernel_rfl) (by kernel_rfl) (by kernel_rfl) (fun _ _ _ h => h) (by rfl) (v := ?_) (fun w hSw => ?_) hS (fun hS => ?_)
        rotate_left
        · go_simp; try with_reducible rfl
        try go_frame
        refine held_pure (i := 4) (oi := ⟨some 162, _, _, _, _, _⟩) rfl (by kernel_rfl) (by kernel_rfl) (by kernel_rfl) (fun _ _ _ h => h) (by rfl) (fun w hSw => run_sub_nat rfl rfl rfl (k := ph) HPH.out (by omega)) hS (fun hS => ?_)
        try go_frame
        refine held_pure (i := 5) (oi := ⟨some 163, _, _, _, _, _⟩) rfl (by kernel_rfl) (by kernel_rfl) (by kernel_rfl) (fun _ _ _ h => h) (by rfl) (fun w hSw => run_idx_pt (i := ph) rfl rfl rfl hphN) hS (fun hS => ?_)
        try go_frame
        refine held_pure (i := 6) (oi := ⟨some 164, _, _, _, _, _⟩) rfl (by kernel_rfl) (by kernel_rfl) (by kernel_rfl) (fun _ _ _ h => h) (by rfl) (fun w hSw => run_load_ptW rfl rfl (CX.out _ hSw)) hS (fun hS => ?_)
        try go_frame
        refine held_pure (i := 7) (oi := ⟨some 165, _, _, _, _, _⟩) rfl (by kernel_rfl) (by kernel_rfl) (by kernel_rfl) (fun _ _ _ h => h) (by rfl) (v := ?_) (fun w hSw => ?_) hS (fun hS => ?_)
        rotate_left
        · go_simp; try with_reducible rfl
        try go_frame
        refine held_pure (i := 8) (oi := ⟨some 166, _, _, _, _, _⟩) rfl (by kernel_rfl) (by kernel_rfl) (by kernel_rfl) (fun _ _ _ h => h) (by rfl) (v := ?_) (fun w hSw => ?_) hS (fun hS => ?_)
        rotate_left
        · go_simp; try with_reducible rfl
        try go_frame
        refine held_pure (i := 9) (oi := ⟨some 167, _, _, _, _, _⟩) rfl (by kernel_rfl) (by kernel_rfl) (by kernel_rfl) (fun _ _ _ h => h) (by rfl) (fun w hSw => run_idx_pt (i := h) rfl rfl rfl hhN) hS (fun hS => ?_)
        try go_frame
        refine held_pure (i := 10) (oi := ⟨some 168, _, _, _, _, _⟩) rfl (by kernel_rfl) (by kernel_rfl) (by kernel_rfl) (fun _ _ _ h => h) (by rfl) (fun w hSw => run_load_ptW rfl rfl (CY.out _ hSw)) hS (fun hS => ?_)
        try go_frame
        refine wpAnyH_ready (rs := [11]) (by kernel_rfl) (by simp) (AllReadyH.cons (o := ⟨some 169, _, _, _, _, _⟩) rfl (fun K hK => ?_) AllReadyH.nil)
        rw [if_pos (by rfl)]
        go_simp
        refine (wadv1 (KX.out _ hS) (KY.out _ hS)).mono ?_
        rintro e y11 ⟨rfl, rfl⟩
        show K _ _
        refine hK.out _ _ hS.drew (fun hS => ?_)
        clear hK K
        try go_frame
        refine held_pure (i := 12) (oi := ⟨some 170, _, _, _, _, _⟩) rfl (by kernel_rfl) (by kernel_rfl) (by kernel_rfl) (fun _ _ _ h => h) (by rfl) (v := .bool B) (fun w hSw => by go_simp; first | done | exact congrArg some (congrArg Value.bool HBB.out) | simp [HBB.out]) hS (fun hS => ?_)
        try go_frame
        refine held_pure (i := 13) (oi := ⟨some 171, _, _, _, _, _⟩) rfl (by kernel_rfl) (by kernel_rfl) (by kernel_rfl) (fun _ _ _ h => h) (by rfl) (v := ?_) (fun w hSw => ?_) hS (fun hS => ?_)
        rotate_left
        · go_simp; try with_reducible rfl
        try go_frame
        refine wpAnyH_done (by kernel_rfl) ?_ _
        cases B with
        | true =>
          go_wp2_with fail
          go_roundw
          case rel => exact ⟨s, h, hs0, hsh, by omega, rfl, rfl, hS, Lib.hid ⟨hs.out.1, fun k k0 k1 => by
            have e1 := of_decide_eq_true HB2.out.symm
            rw [← HYD.out.1, ← HYD.out.2] at e1
            obtain ⟨r1, r2, r3, r4⟩ := HRng.out k (by omega) k1
            have hp := HPH.out
            have e2 := HIY.out (p - k) ph (by omega) (by omega) (by omega)
            have e3 := HIX.out h k (by omega) k0 r2
            omega⟩⟩
          case measure => simp [intOf]; omega
        | false =>
          go_wp2_with fail
          go_roundw
          case rel => exact ⟨h + 1, r, by omega, by omega, hr0, congrArg (Value.int .i64) (by omega), rfl, hS, Lib.hid ⟨fun k k0 k1 => by
            have e1 := of_decide_eq_false HB2.out.symm
            rw [← HYD.out.1, ← HYD.out.2] at e1
            obtain ⟨r1, r2, r3, r4⟩ := HRng.out k k0 (by omega)
            have hp := HPH.out
            have e2 := HIY.out ph (p - k) (by omega) (by omega) (by omega)
            have e3 := HIX.out k h (by omega) (by omega) (by omega)
            omega, hs.out.2⟩⟩
          case measure => simp [intOf]; omega
      · have hsr2 : s = r := by omega
        obtain ⟨q1, q2⟩ := hs.out
        obtain ⟨e9, he9⟩ : ∃ e, e = n - s := ⟨_, rfl⟩
        have hsz9 : a ≤ s ∧ s ≤ m ∧ s ≤ mid ∧ e9 + s = n ∧ e9 ≤ b ∧ m ≤ e9 := HE9.out s e9 hs0 (by omega) he9
        obtain ⟨k1, k2, k3, k4, k5, k6⟩ := hsz9
        have hnb : n ≤ 8000000 := by omega
        have hsn : s ≤ n := by omega
        have s6 : Hid ((n : Int) - (s : Int) = ((e9 : Nat) : Int)) := Lib.hid (by omega)
        have hspl := HSPL.out s hs0 (by omega) (fun h => by
          have := q1 (s - 1) (by omega) (by omega)
          rwa [show p - (s - 1) = mid + m - s by have := HNP.out; omega] at this) (fun h => by
          have := q2 s (by omega) h
          rwa [show p - s = mid + m - 1 - s by have := HNP.out; omega] at this)
        obtain ⟨X1, hX1⟩ : ∃ l, l = X.take (s - a) := ⟨_, rfl⟩
        obtain ⟨X2, hX2⟩ : ∃ l, l = X.drop (s - a) := ⟨_, rfl⟩
        obtain ⟨Y1, hY1⟩ : ∃ l, l = Y.take (mid - s) := ⟨_, rfl⟩
        obtain ⟨Y2, hY2⟩ : ∃ l, l = Y.drop (mid - s) := ⟨_, rfl⟩
        rw [← hX1, ← hX2, ← hY1, ← hY2] at hspl
        obtain ⟨F1, F2⟩ := hspl
        have eX : X = X1 ++ X2 := by rw [hX1, hX2, List.take_append_drop]
        have eY : Y = Y1 ++ Y2 := by rw [hY1, hY2, List.take_append_drop]
        have hnm := HNP.out
        have hlm := HM.out
        have hlb := HB.out
        have lX1 : a + X1.length = s := by rw [hX1, List.length_take]; omega
        have lX2 : s + X2.length = m := by rw [hX2, List.length_drop]; omega
        have lY1 : m + Y1.length = e9 := by rw [hY1, List.length_take]; omega
        have lY2 : e9 + Y2.length = b := by rw [hY2, List.length_drop]; omega
        have g1 : s + Y1.length = mid := by omega
        have g2 : mid + X2.length = e9 := by omega
        have hr : PRow wr g off (P ++ (X1 ++ (X2 ++ (Y1 ++ (Y2 ++ Q))))) := by
          have := HP.out.of_block (hbl.block g HP.out.lt)
          rw [HLE.out, eX, eY] at this
          simpa using this
        have kp : Kept (fun k => k = g) w wr := Kept.of_below hbl
        have HX := Lib.hid (show Asc R (X1 ++ X2) by rw [← eX]; exact hX)
        have HY := Lib.hid (show Asc R (Y1 ++ Y2) by rw [← eY]; exact hY)
        have hNN : (P ++ (X1 ++ (X2 ++ (Y1 ++ (Y2 ++ Q))))).length = N := by have := HNN.out; rw [eX, eY] at this; simpa using this
        have hKK : KeyR w g R ((X1 ++ X2) ++ (Y1 ++ Y2)) := by rw [← eX, ← eY]; exact HK.out
        have HR : s < m → m < e9 → Hid (∀ V, PRow V g off (P ++ (X1 ++ (X2 ++ (Y1 ++ (Y2 ++ Q))))) → Calls Try.prog 105 #[.slice (some ⟨g, off, none⟩) N c, .int .i64 (s : Int), .int .i64 (m : Int), .int .i64 (e9 : Int), .func (.func 33) #[] #[]] V fun e w' => e = .returned (.tuple #[]) ∧ PRow w' g off (P ++ (X1 ++ (Y1 ++ (X2 ++ (Y2 ++ Q))))) ∧ Kept (fun k => k = g) V w') := fun h1 h2 => Lib.hid (fun V hV => by
          have := wsrotate (w := V) (c := c) (N := N) (P := P ++ X1) (X := X2) (Y := Y1) (Q := Y2 ++ Q) (.func (.func 33) #[] #[]) (a := s) (m := m) (b := e9) (by rw [List.length_append, HA.out]; exact lX1) lX2 lY1 (by rw [List.append_assoc]; exact hNN) hsz (by rw [List.append_assoc]; exact hV) (by omega) (by omega)
          refine this.mono fun e w' ⟨t1, t2, t3⟩ => ⟨t1, by rw [List.append_assoc] at t2; exact t2, t3⟩)
        have HNR : Hid (∀ V, PRow V g off (P ++ (X1 ++ (X2 ++ (Y1 ++ (Y2 ++ Q))))) → (s = m ∨ m = e9) → PRow V g off (P ++ (X1 ++ (Y1 ++ (X2 ++ (Y2 ++ Q)))))) := Lib.hid (fun V hV hc => by
          rcases hc with hc | hc
          · have e1 : X2 = [] := List.eq_nil_of_length_eq_zero (by omega)
            rw [e1] at hV ⊢; simpa using hV
          · have e1 : Y1 = [] := List.eq_nil_of_length_eq_zero (by omega)
            rw [e1] at hV ⊢; simpa using hV)
        have HS1 : a < s → s < mid → Hid (∀ V, PRow V g off (P ++ (X1 ++ (Y1 ++ (X2 ++ (Y2 ++ Q))))) → Kept (fun k => k = g) w V → Calls Try.prog 87 #[.slice (some ⟨g, off, none⟩) N c, .int .i64 (a : Int), .int .i64 (s : Int), .int .i64 (mid : Int), .func (.func 33) #[] #[]] V fun e w' => e = .returned (.tuple #[]) ∧ ∃ Z, PRow w' g off (P ++ (Z ++ (X2 ++ (Y2 ++ Q)))) ∧ Stb R Z (X1 ++ Y1) ∧ Kept (fun k => k = g) V w') := fun h1 h2 => Lib.hid (fun V hV kV =>
          ih.out (w := V) (c := c) (P := P) (X := X1) (Y := Y1) (Q := X2 ++ (Y2 ++ Q)) (a := a) (m := s) (b := mid) (by omega) HA.out lX1 g1 (by rw [← hNN]; simp only [List.length_append]; omega) hsz (List.pairwise_append.1 HX.out).1 (List.pairwise_append.1 HY.out).1 (by omega) (by omega) hV ((hKK.kept kV).sub (fun y hy => by
            rcases List.mem_append.1 hy with hy | hy
            · exact List.mem_append_left _ (List.mem_append_left _ hy)
            · exact List.mem_append_right _ (List.mem_append_left _ hy))))
        have HN1 : Hid (∀ V, PRow V g off (P ++ (X1 ++ (Y1 ++ (X2 ++ (Y2 ++ Q))))) → (a = s ∨ m = e9) → ∃ Z, PRow V g off (P ++ (Z ++ (X2 ++ (Y2 ++ Q)))) ∧ Stb R Z (X1 ++ Y1)) := Lib.hid (fun V hV hc => by
          rcases hc with hc | hc
          · have e1 : X1 = [] := List.eq_nil_of_length_eq_zero (by omega)
            rw [e1] at hV ⊢
            exact ⟨Y1, by simpa using hV, Stb.self (List.pairwise_append.1 HY.out).1⟩
          · have e1 : Y1 = [] := List.eq_nil_of_length_eq_zero (by omega)
            rw [e1] at hV ⊢
            rw [List.append_nil]
            exact ⟨X1, by simpa using hV, Stb.self (List.pairwise_append.1 HX.out).1⟩)
        have HS2 : mid < e9 → e9 < b → Hid (∀ V Z1, Stb R Z1 (X1 ++ Y1) → PRow V g off (P ++ (Z1 ++ (X2 ++ (Y2 ++ Q)))) → Kept (fun k => k = g) w V → Calls Try.prog 87 #[.slice (some ⟨g, off, none⟩) N c, .int .i64 (mid : Int), .int .i64 (e9 : Int), .int .i64 (b : Int), .func (.func 33) #[] #[]] V fun e w' => e = .returned (.tuple #[]) ∧ ∃ Z, PRow w' g off (P ++ (Z1 ++ (Z ++ Q))) ∧ Stb R Z (X2 ++ Y2) ∧ Kept (fun k => k = g) V w') := fun h1 h2 => Lib.hid (fun V Z1 hz hV kV => by
          have hzl := hz.len
          rw [List.length_append] at hzl
          have := ih.out (w := V) (c := c) (P := P ++ Z1) (X := X2) (Y := Y2) (Q := Q) (a := mid) (m := e9) (b := b) (by omega) (by rw [List.length_append, HA.out]; omega) g2 lY2 (by rw [← hNN]; simp only [List.length_append]; omega) hsz (List.pairwise_append.1 HX.out).2.1 (List.pairwise_append.1 HY.out).2.1 (by omega) (by omega) (by rw [List.append_assoc]; exact hV) ((hKK.kept kV).sub (fun y hy => by
            rcases List.mem_append.1 hy with hy | hy
            · exact List.mem_append_left _ (List.mem_append_right _ hy)
            · exact List.mem_append_right _ (List.mem_append_right _ hy)))
          exact this.mono fun e w' ⟨t1, Z, t2, t3, t4⟩ => ⟨t1, Z, by rw [List.append_assoc] at t2; exact t2, t3, t4⟩)
        have HN2 : Hid (∀ V (Z1 : List Nat), PRow V g off (P ++ (Z1 ++ (X2 ++ (Y2 ++ Q)))) → (s = m ∨ e9 = b) → ∃ Z, PRow V g off (P ++ (Z1 ++ (Z ++ Q))) ∧ Stb R Z (X2 ++ Y2)) := Lib.hid (fun V Z1 hV hc => by
          rcases hc with hc | hc
          · have e1 : X2 = [] := List.eq_nil_of_length_eq_zero (by omega)
            rw [e1] at hV ⊢
            exact ⟨Y2, by simpa using hV, Stb.self (List.pairwise_append.1 HY.out).2.1⟩
          · have e1 : Y2 = [] := List.eq_nil_of_length_eq_zero (by omega)
            rw [e1] at hV ⊢
            rw [List.append_nil]
            exact ⟨X2, by simpa using hV, Stb.self (List.pairwise_append.1 HX.out).2.1⟩)
        have HZ : Hid (∀ Z1 Z2, Stb R Z1 (X1 ++ Y1) → Stb R Z2 (X2 ++ Y2) → Stb R (Z1 ++ Z2) (X ++ Y)) := Lib.hid (fun Z1 Z2 h1 h2 => by
          rw [eX, eY]
          exact Stb.merge HX.out HY.out F1 F2 h1 h2)
        have j1 : s < m ↔ mid < e9 := by omega
        have j2 : m < e9 ↔ s < mid := by omega
        have t1 : a ≤ s := k1
        have J := Lib.hid (And.intro j1 j2)
        clear q1 q2 hs F1 F2 eX eY hX1 hX2 hY1 hY2 lX1 lX2 lY1 lY2 g1 g2 hNN hKK he9 hsr2 hbl hnm hlm hlb j1 j2 k4 hsr9 hr0 t1
        by_cases hx1 : a < s
        · by_cases hx2 : s < m
          · by_cases hy1 : m < e9
            · by_cases hy2 : e9 < b
              · have HR := HR hx2 hy1
                have HS1 := HS1 hx1 (J.out.2.1 hy1)
                have HS2 := HS2 (J.out.1.1 hx2) hy2
                have hx2b : mid < e9 := J.out.1.1 hx2
                have hy1b : s < mid := J.out.2.1 hy1
                go_upto_region 39 with fail
                rw [s6.out]
                go_upto_region 41 with ((with_reducible show Calls _ 105 #[_, .int .i64 (s : Int), .int .i64 (m : Int), .int .i64 (e9 : Int), _] _ _); go_loud (refine (HR.out _ hr).mono ?_; rintro e w2 ⟨rfl, hr2, kp2⟩))
                have kp2 := kp.trans kp2 (fun _ _ e => e)
                go_upto_region 43 with ((with_reducible show Calls _ 87 #[_, .int .i64 (a : Int), .int .i64 (s : Int), .int .i64 (mid : Int), _] _ _); refine (HS1.out _ hr2 kp2).mono ?_; rintro e w3 ⟨rfl, Z1, hr3, hz1, kp3⟩)
                have kp3 := kp2.trans kp3 (fun _ _ e => e)
                go_wp2_with ((with_reducible show Calls _ 87 #[_, .int .i64 (mid : Int), .int .i64 (e9 : Int), .int .i64 (b : Int), _] _ _); refine (HS2.out _ Z1 hz1 hr3 kp3).mono ?_; rintro e w4 ⟨rfl, Z2, hr4, hz2, kp4⟩)
                have kp4 := kp3.trans kp4 (fun _ _ e => e)
                exact bodyPost_end (results_none rfl _ _ _) rfl ⟨rfl, Z1 ++ Z2, by rw [List.append_assoc]; exact hr4, HZ.out _ _ hz1 hz2, kp4⟩
              · have HR := HR hx2 hy1
                have HS1 := HS1 hx1 (J.out.2.1 hy1)
                clear HS2
                have hx2b : mid < e9 := J.out.1.1 hx2
                have hy1b : s < mid := J.out.2.1 hy1
                go_upto_region 39 with fail
                rw [s6.out]
                go_upto_region 41 with ((with_reducible show Calls _ 105 #[_, .int .i64 (s : Int), .int .i64 (m : Int), .int .i64 (e9 : Int), _] _ _); go_loud (refine (HR.out _ hr).mono ?_; rintro e w2 ⟨rfl, hr2, kp2⟩))
                have kp2 := kp.trans kp2 (fun _ _ e => e)
                go_upto_region 43 with ((with_reducible show Calls _ 87 #[_, .int .i64 (a : Int), .int .i64 (s : Int), .int .i64 (mid : Int), _] _ _); refine (HS1.out _ hr2 kp2).mono ?_; rintro e w3 ⟨rfl, Z1, hr3, hz1, kp3⟩)
                have kp3 := kp2.trans kp3 (fun _ _ e => e)
                go_wp2_with fail
                obtain ⟨Z2, hr4, hz2⟩ := HN2.out _ _ hr3 (.inr (by omega))
                have kp4 := kp3
                exact bodyPost_end (results_none rfl _ _ _) rfl ⟨rfl, Z1 ++ Z2, by rw [List.append_assoc]; exact hr4, HZ.out _ _ hz1 hz2, kp4⟩
            · by_cases hy2 : e9 < b
              · clear HR
                clear HS1
                have HS2 := HS2 (J.out.1.1 hx2) hy2
                have hx2b : mid < e9 := J.out.1.1 hx2
                have hy1b : ¬ s < mid := fun h => hy1 (J.out.2.2 h)
                go_upto_region 39 with fail
                rw [s6.out]
                go_upto_region 41 with fail
                have hr2 := HNR.out _ hr (.inr (by omega))
                have kp2 := kp
                go_upto_region 43 with fail
                obtain ⟨Z1, hr3, hz1⟩ := HN1.out _ hr2 (.inr (by omega))
                have kp3 := kp2
                go_wp2_with ((with_reducible show Calls _ 87 #[_, .int .i64 (mid : Int), .int .i64 (e9 : Int), .int .i64 (b : Int), _] _ _); refine (HS2.out _ Z1 hz1 hr3 kp3).mono ?_; rintro e w4 ⟨rfl, Z2, hr4, hz2, kp4⟩)
                have kp4 := kp3.trans kp4 (fun _ _ e => e)
                exact bodyPost_end (results_none rfl _ _ _) rfl ⟨rfl, Z1 ++ Z2, by rw [List.append_assoc]; exact hr4, HZ.out _ _ hz1 hz2, kp4⟩
              · clear HR
                clear HS1
                clear HS2
                have hx2b : mid < e9 := J.out.1.1 hx2
                have hy1b : ¬ s < mid := fun h => hy1 (J.out.2.2 h)
                go_upto_region 39 with fail
                rw [s6.out]
                go_upto_region 41 with fail
                have hr2 := HNR.out _ hr (.inr (by omega))
                have kp2 := kp
                go_upto_region 43 with fail
                obtain ⟨Z1, hr3, hz1⟩ := HN1.out _ hr2 (.inr (by omega))
                have kp3 := kp2
                go_wp2_with fail
                obtain ⟨Z2, hr4, hz2⟩ := HN2.out _ _ hr3 (.inr (by omega))
                have kp4 := kp3
                exact bodyPost_end (results_none rfl _ _ _) rfl ⟨rfl, Z1 ++ Z2, by rw [List.append_assoc]; exact hr4, HZ.out _ _ hz1 hz2, kp4⟩
          · by_cases hy1 : m < e9
            · by_cases hy2 : e9 < b
              · clear HR
                have HS1 := HS1 hx1 (J.out.2.1 hy1)
                clear HS2
                have hx2b : ¬ mid < e9 := fun h => hx2 (J.out.1.2 h)
                have hy1b : s < mid := J.out.2.1 hy1
                go_upto_region 39 with fail
                rw [s6.out]
                go_upto_region 41 with fail
                have hr2 := HNR.out _ hr (.inl (by omega))
                have kp2 := kp
                go_upto_region 43 with ((with_reducible show Calls _ 87 #[_, .int .i64 (a : Int), .int .i64 (s : Int), .int .i64 (mid : Int), _] _ _); refine (HS1.out _ hr2 kp2).mono ?_; rintro e w3 ⟨rfl, Z1, hr3, hz1, kp3⟩)
                have kp3 := kp2.trans kp3 (fun _ _ e => e)
                go_wp2_with fail
                obtain ⟨Z2, hr4, hz2⟩ := HN2.out _ _ hr3 (.inl (by omega))
                have kp4 := kp3
                exact bodyPost_end (results_none rfl _ _ _) rfl ⟨rfl, Z1 ++ Z2, by rw [List.append_assoc]; exact hr4, HZ.out _ _ hz1 hz2, kp4⟩
              · clear HR
                have HS1 := HS1 hx1 (J.out.2.1 hy1)
                clear HS2
                have hx2b : ¬ mid < e9 := fun h => hx2 (J.out.1.2 h)
                have hy1b : s < mid := J.out.2.1 hy1
                go_upto_region 39 with fail
                rw [s6.out]
                go_upto_region 41 with fail
                have hr2 := HNR.out _ hr (.inl (by omega))
                have kp2 := kp
                go_upto_region 43 with ((with_reducible show Calls _ 87 #[_, .int .i64 (a : Int), .int .i64 (s : Int), .int .i64 (mid : Int), _] _ _); refine (HS1.out _ hr2 kp2).mono ?_; rintro e w3 ⟨rfl, Z1, hr3, hz1, kp3⟩)
                have kp3 := kp2.trans kp3 (fun _ _ e => e)
                go_wp2_with fail
                obtain ⟨Z2, hr4, hz2⟩ := HN2.out _ _ hr3 (.inl (by omega))
                have kp4 := kp3
                exact bodyPost_end (results_none rfl _ _ _) rfl ⟨rfl, Z1 ++ Z2, by rw [List.append_assoc]; exact hr4, HZ.out _ _ hz1 hz2, kp4⟩
            · by_cases hy2 : e9 < b
              · clear HR
                clear HS1
                clear HS2
                have hx2b : ¬ mid < e9 := fun h => hx2 (J.out.1.2 h)
                have hy1b : ¬ s < mid := fun h => hy1 (J.out.2.2 h)
                go_upto_region 39 with fail
                rw [s6.out]
                go_upto_region 41 with fail
                have hr2 := HNR.out _ hr (.inl (by omega))
                have kp2 := kp
                go_upto_region 43 with fail
                obtain ⟨Z1, hr3, hz1⟩ := HN1.out _ hr2 (.inr (by omega))
                have kp3 := kp2
                go_wp2_with fail
                obtain ⟨Z2, hr4, hz2⟩ := HN2.out _ _ hr3 (.inl (by omega))
                have kp4 := kp3
                exact bodyPost_end (results_none rfl _ _ _) rfl ⟨rfl, Z1 ++ Z2, by rw [List.append_assoc]; exact hr4, HZ.out _ _ hz1 hz2, kp4⟩
              · clear HR
                clear HS1
                clear HS2
                have hx2b : ¬ mid < e9 := fun h => hx2 (J.out.1.2 h)
                have hy1b : ¬ s < mid := fun h => hy1 (J.out.2.2 h)
                go_upto_region 39 with fail
                rw [s6.out]
                go_upto_region 41 with fail
                have hr2 := HNR.out _ hr (.inl (by omega))
                have kp2 := kp
                go_upto_region 43 with fail
                obtain ⟨Z1, hr3, hz1⟩ := HN1.out _ hr2 (.inr (by omega))
                have kp3 := kp2
                go_wp2_with fail
                obtain ⟨Z2, hr4, hz2⟩ := HN2.out _ _ hr3 (.inl (by omega))
                have kp4 := kp3
                exact bodyPost_end (results_none rfl _ _ _) rfl ⟨rfl, Z1 ++ Z2, by rw [List.append_assoc]; exact hr4, HZ.out _ _ hz1 hz2, kp4⟩
        · by_cases hx2 : s < m
          · by_cases hy1 : m < e9
            · by_cases hy2 : e9 < b
              · have HR := HR hx2 hy1
                clear HS1
                have HS2 := HS2 (J.out.1.1 hx2) hy2
                have hx2b : mid < e9 := J.out.1.1 hx2
                have hy1b : s < mid := J.out.2.1 hy1
                go_upto_region 39 with fail
                rw [s6.out]
                go_upto_region 41 with ((with_reducible show Calls _ 105 #[_, .int .i64 (s : Int), .int .i64 (m : Int), .int .i64 (e9 : Int), _] _ _); go_loud (refine (HR.out _ hr).mono ?_; rintro e w2 ⟨rfl, hr2, kp2⟩))
                have kp2 := kp.trans kp2 (fun _ _ e => e)
                go_upto_region 43 with fail
                obtain ⟨Z1, hr3, hz1⟩ := HN1.out _ hr2 (.inl (by omega))
                have kp3 := kp2
                go_wp2_with ((with_reducible show Calls _ 87 #[_, .int .i64 (mid : Int), .int .i64 (e9 : Int), .int .i64 (b : Int), _] _ _); refine (HS2.out _ Z1 hz1 hr3 kp3).mono ?_; rintro e w4 ⟨rfl, Z2, hr4, hz2, kp4⟩)
                have kp4 := kp3.trans kp4 (fun _ _ e => e)
                exact bodyPost_end (results_none rfl _ _ _) rfl ⟨rfl, Z1 ++ Z2, by rw [List.append_assoc]; exact hr4, HZ.out _ _ hz1 hz2, kp4⟩
              · have HR := HR hx2 hy1
                clear HS1
                clear HS2
                have hx2b : mid < e9 := J.out.1.1 hx2
                have hy1b : s < mid := J.out.2.1 hy1
                go_upto_region 39 with fail
                rw [s6.out]
                go_upto_region 41 with ((with_reducible show Calls _ 105 #[_, .int .i64 (s : Int), .int .i64 (m : Int), .int .i64 (e9 : Int), _] _ _); go_loud (refine (HR.out _ hr).mono ?_; rintro e w2 ⟨rfl, hr2, kp2⟩))
                have kp2 := kp.trans kp2 (fun _ _ e => e)
                go_upto_region 43 with fail
                obtain ⟨Z1, hr3, hz1⟩ := HN1.out _ hr2 (.inl (by omega))
                have kp3 := kp2
                go_wp2_with fail
                obtain ⟨Z2, hr4, hz2⟩ := HN2.out _ _ hr3 (.inr (by omega))
                have kp4 := kp3
                exact bodyPost_end (results_none rfl _ _ _) rfl ⟨rfl, Z1 ++ Z2, by rw [List.append_assoc]; exact hr4, HZ.out _ _ hz1 hz2, kp4⟩
            · by_cases hy2 : e9 < b
              · clear HR
                clear HS1
                have HS2 := HS2 (J.out.1.1 hx2) hy2
                have hx2b : mid < e9 := J.out.1.1 hx2
                have hy1b : ¬ s < mid := fun h => hy1 (J.out.2.2 h)
                go_upto_region 39 with fail
                rw [s6.out]
                go_upto_region 41 with fail
                have hr2 := HNR.out _ hr (.inr (by omega))
                have kp2 := kp
                go_upto_region 43 with fail
                obtain ⟨Z1, hr3, hz1⟩ := HN1.out _ hr2 (.inl (by omega))
                have kp3 := kp2
                go_wp2_with ((with_reducible show Calls _ 87 #[_, .int .i64 (mid : Int), .int .i64 (e9 : Int), .int .i64 (b : Int), _] _ _); refine (HS2.out _ Z1 hz1 hr3 kp3).mono ?_; rintro e w4 ⟨rfl, Z2, hr4, hz2, kp4⟩)
                have kp4 := kp3.trans kp4 (fun _ _ e => e)
                exact bodyPost_end (results_none rfl _ _ _) rfl ⟨rfl, Z1 ++ Z2, by rw [List.append_assoc]; exact hr4, HZ.out _ _ hz1 hz2, kp4⟩
              · clear HR
                clear HS1
                clear HS2
                have hx2b : mid < e9 := J.out.1.1 hx2
                have hy1b : ¬ s < mid := fun h => hy1 (J.out.2.2 h)
                go_upto_region 39 with fail
                rw [s6.out]
                go_upto_region 41 with fail
                have hr2 := HNR.out _ hr (.inr (by omega))
                have kp2 := kp
                go_upto_region 43 with fail
                obtain ⟨Z1, hr3, hz1⟩ := HN1.out _ hr2 (.inl (by omega))
                have kp3 := kp2
                go_wp2_with fail
                obtain ⟨Z2, hr4, hz2⟩ := HN2.out _ _ hr3 (.inr (by omega))
                have kp4 := kp3
                exact bodyPost_end (results_none rfl _ _ _) rfl ⟨rfl, Z1 ++ Z2, by rw [List.append_assoc]; exact hr4, HZ.out _ _ hz1 hz2, kp4⟩
          · by_cases hy1 : m < e9
            · by_cases hy2 : e9 < b
              · clear HR
                clear HS1
                clear HS2
                have hx2b : ¬ mid < e9 := fun h => hx2 (J.out.1.2 h)
                have hy1b : s < mid := J.out.2.1 hy1
                go_upto_region 39 with fail
                rw [s6.out]
                go_upto_region 41 with fail
                have hr2 := HNR.out _ hr (.inl (by omega))
                have kp2 := kp
                go_upto_region 43 with fail
                obtain ⟨Z1, hr3, hz1⟩ := HN1.out _ hr2 (.inl (by omega))
                have kp3 := kp2
                go_wp2_with fail
                obtain ⟨Z2, hr4, hz2⟩ := HN2.out _ _ hr3 (.inl (by omega))
                have kp4 := kp3
                exact bodyPost_end (results_none rfl _ _ _) rfl ⟨rfl, Z1 ++ Z2, by rw [List.append_assoc]; exact hr4, HZ.out _ _ hz1 hz2, kp4⟩
              · clear HR
                clear HS1
                clear HS2
                have hx2b : ¬ mid < e9 := fun h => hx2 (J.out.1.2 h)
                have hy1b : s < mid := J.out.2.1 hy1
                go_upto_region 39 with fail
                rw [s6.out]
                go_upto_region 41 with fail
                have hr2 := HNR.out _ hr (.inl (by omega))
                have kp2 := kp
                go_upto_region 43 with fail
                obtain ⟨Z1, hr3, hz1⟩ := HN1.out _ hr2 (.inl (by omega))
                have kp3 := kp2
                go_wp2_with fail
                obtain ⟨Z2, hr4, hz2⟩ := HN2.out _ _ hr3 (.inl (by omega))
                have kp4 := kp3
                exact bodyPost_end (results_none rfl _ _ _) rfl ⟨rfl, Z1 ++ Z2, by rw [List.append_assoc]; exact hr4, HZ.out _ _ hz1 hz2, kp4⟩
            · by_cases hy2 : e9 < b
              · clear HR
                clear HS1
                clear HS2
                have hx2b : ¬ mid < e9 := fun h => hx2 (J.out.1.2 h)
                have hy1b : ¬ s < mid := fun h => hy1 (J.out.2.2 h)
                go_upto_region 39 with fail
                rw [s6.out]
                go_upto_region 41 with fail
                have hr2 := HNR.out _ hr (.inl (by omega))
                have kp2 := kp
                go_upto_region 43 with fail
                obtain ⟨Z1, hr3, hz1⟩ := HN1.out _ hr2 (.inl (by omega))
                have kp3 := kp2
                go_wp2_with fail
                obtain ⟨Z2, hr4, hz2⟩ := HN2.out _ _ hr3 (.inl (by omega))
                have kp4 := kp3
                exact bodyPost_end (results_none rfl _ _ _) rfl ⟨rfl, Z1 ++ Z2, by rw [List.append_assoc]; exact hr4, HZ.out _ _ hz1 hz2, kp4⟩
              · clear HR
                clear HS1
                clear HS2
                have hx2b : ¬ mid < e9 := fun h => hx2 (J.out.1.2 h)
                have hy1b : ¬ s < mid := fun h => hy1 (J.out.2.2 h)
                go_upto_region 39 with fail
                rw [s6.out]
                go_upto_region 41 with fail
                have hr2 := HNR.out _ hr (.inl (by omega))
                have kp2 := kp
                go_upto_region 43 with fail
                obtain ⟨Z1, hr3, hz1⟩ := HN1.out _ hr2 (.inl (by omega))
                have kp3 := kp2
                go_wp2_with fail
                obtain ⟨Z2, hr4, hz2⟩ := HN2.out _ _ hr3 (.inl (by omega))
                have kp4 := kp3
                exact bodyPost_end (results_none rfl _ _ _) rfl ⟨rfl, Z1 ++ Z2, by rw [List.append_assoc]; exact hr4, HZ.out _ _ hz1 hz2, kp4⟩
theorem wssym {R : Nat → Int} : ∀ sz, SymOK R sz := by
  intro sz
  induction sz with
  | zero => exact fun h1 h2 h3 h4 _ _ _ _ h5 h6 _ _ => absurd h1 (by omega)
  | succ sz ih =>
    intro w g off c N a m b P X Y Q h1 h2 h3 h4 h5 h6 h7 h8 h9 h10 h11 h12
    by_cases hx : X.length = 1
    · obtain ⟨x, rfl⟩ := List.length_eq_one_iff.1 hx
      exact wssym_one h2 h3 h4 h5 h6 h8 h11 h12
    · by_cases hy : Y.length = 1
      · obtain ⟨y, rfl⟩ := List.length_eq_one_iff.1 hy
        exact wssym_last h2 h3 h4 (by omega) h5 h6 h7 h11 h12
      · exact wssym_step (Lib.hid ih) h1 h2 h3 h4 h5 h6 h7 h8 (by omega) (by omega) h11 h12
end Go.Proofs.Ytjgcpaepaocigaa

/-
  The stable sort of a row of pointers to timers, by their times. Conditions are each theorem's own.
-/
namespace Go.Proofs.Ytjgcpaepaocigaa
open Go.RowKit
theorem KeyR.stb {w : World} {g : Nat} {R : Nat → Int} {L L0 : List Nat} (h : KeyR w g R L0) (hs : ∀ b, b ∈ L → b ∈ L0) : KeyR w g R L := fun x hx => h x (hs x hx)
theorem Fulls.len {R : Nat → Int} {n : Nat} {D D0 : List Nat} (h : Fulls R n D D0) : D.length = D0.length := by
  induction h with
  | nil => rfl
  | snoc _ h1 h2 ih => rw [List.length_append, List.length_append, ih, h2.len]
set_option maxRecDepth 100000 in
set_option maxHeartbeats 8000000 in
theorem wsstableG {w : World} {g off c N : Nat} {L0 : List Nat} {R : Nat → Int} (hN : L0.length = N) (hsz : N ≤ 4000000) (h : PRow w g off L0) (hk : KeyR w g R L0) :
    Calls Try.prog 56 #[.slice (some ⟨g, off, none⟩) N c, .int .i64 (N : Int), .func (.func 33) #[] #[]] w fun e w' => e = .returned (.tuple #[]) ∧ ∃ Z, PRow w' g off Z ∧ Stb R Z L0 ∧ Kept (fun k => k = g) w w' := by
  have HP := Lib.hid h
  have HK := Lib.hid hk
  have HN := Lib.hid hN
  clear h hk hN
  go_enter Try.func56, Try.ntmps56
  go_wp2
  go_loopw [7, 8] (fun y z wr => ∃ a b : Nat, a ≤ N ∧ a + 20 = b ∧ y = .int .i64 (a : Int) ∧ z = .int .i64 (b : Int) ∧ Kept (fun k => k = g) w wr ∧ ∃ D T D0, Hid (L0 = D0 ++ T ∧ Fulls R 20 D D0 ∧ D.length = a) ∧ PRow wr g off (D ++ T)) (fun y _ _ => N + 1 - (intOf y).toNat)
  case atStart => exact ⟨0, 20, Nat.zero_le _, rfl, rfl, rfl, Kept.refl _, [], L0, [], Lib.hid ⟨rfl, .nil, rfl⟩, HP.out⟩
  case round =>
    obtain ⟨a, b, haN, hab, rfl, rfl, kp, D, T, D0, hp, hr⟩ := hrel
    by_cases hlt : b ≤ N
    · have d1 : decide ((b : Int) ≤ (N : Int)) = true := decide_eq_true (by omega)
      obtain ⟨e0, hF, lD⟩ := hp.out
      have lT : a + T.length = N := by have := HN.out; have := hF.len; rw [e0, List.length_append] at *; omega
      have hr2 : PRow wr g off (D ++ (T.take 20 ++ T.drop 20)) := by rw [List.take_append_drop]; exact hr
      have HC := Lib.hid (wsinsert (w := wr) (c := c) (N := N) (R := R) (b := b) lD (by rw [List.length_take]; omega) (by rw [List.take_append_drop, List.length_append]; omega) hsz hr2 ((HK.out.kept kp).stb (fun b hb => by rw [e0]; exact List.mem_append_right _ (List.mem_of_mem_take hb))))
      have E2 : Hid (∀ Z, Stb R Z (T.take 20) → L0 = (D0 ++ T.take 20) ++ T.drop 20 ∧ Fulls R 20 (D ++ Z) (D0 ++ T.take 20) ∧ (D ++ Z).length = b) := Lib.hid (fun Z hz => ⟨by rw [List.append_assoc, List.take_append_drop]; exact e0, hF.snoc (by rw [hz.len, List.length_take]; omega) hz, by rw [List.length_append, hz.len, List.length_take]; omega⟩)
      have hbn : b ≤ 5000000 := by omega
      have HAB := Lib.hid hab
      clear hp e0 hF lD lT hr hr2 hab haN
      go_wp2_with (go_at_call 86; refine HC.out.mono ?_; rintro e w2 ⟨rfl, Z, hr2, hz, kp2⟩)
      go_roundw
      case rel => exact ⟨b, b + 20, hlt, rfl, rfl, congrArg (Value.int .i64) (by omega), kp.trans kp2 (fun _ _ e => e), D ++ Z, T.drop 20, D0 ++ T.take 20, Lib.hid (E2.out Z hz), by rw [List.append_assoc]; exact hr2⟩
      case measure => have := HAB.out; simp [intOf]; omega
    · have d1 : decide ((b : Int) ≤ (N : Int)) = false := decide_eq_false (by omega)
      obtain ⟨e0, hF, lD⟩ := hp.out
      have lT : a + T.length = N := by have := HN.out; have := hF.len; rw [e0, List.length_append] at *; omega
      have hr2 : PRow wr g off (D ++ (T ++ [])) := by rw [List.append_nil]; exact hr
      have HC := Lib.hid (wsinsert (w := wr) (c := c) (N := N) (R := R) (b := N) lD lT (by rw [List.append_nil, List.length_append]; omega) hsz hr2 ((HK.out.kept kp).stb (fun b hb => by rw [e0]; exact List.mem_append_right _ hb)))
      have E2 : Hid (∀ Z, Stb R Z T → Chunk R 20 (D ++ Z) L0) := Lib.hid (fun Z hz => by rw [e0]; exact hF.then (.last (by rw [hz.len]; omega) hz))
      clear hp e0 hF lD lT hr hr2 hab haN
      go_wp2_with (go_at_call 86; refine HC.out.mono ?_; rintro e w2 ⟨rfl, Z, hr2, hz, kp2⟩)
      have kp3 := kp.trans kp2 (fun _ _ e => e)
      rw [List.append_nil] at hr2
      have hC0 := Lib.hid (E2.out Z hz)
      obtain ⟨L1, hL1⟩ : ∃ L1, L1 = D ++ Z := ⟨_, rfl⟩
      rw [← hL1] at hr2 hC0
      clear E2 HC kp kp2 hz hL1 hlt d1
      go_loopw [6] (fun y w3 => ∃ bs : Nat, 20 ≤ bs ∧ bs ≤ 8000000 ∧ y = .int .i64 (bs : Int) ∧ Kept (fun k => k = g) w w3 ∧ ∃ L, Hid (Chunk R bs L L0) ∧ PRow w3 g off L) (fun y _ => N - (intOf y).toNat)
      case atStart => exact ⟨20, Nat.le_refl _, by omega, rfl, kp3, L1, hC0, hr2⟩
      case round =>
        clear hr2 hC0 kp3
        obtain ⟨bs, hb20, hb8, rfl, kp, L, hC, hr⟩ := hrel
        by_cases hlt : bs < N
        · have d1 : decide ((bs : Int) < (N : Int)) = true := decide_eq_true (by omega)
          go_wp2
          go_loopw [7, 8] (fun y z w4 => ∃ a b : Nat, a ≤ N ∧ a + 2 * bs = b ∧ y = .int .i64 (a : Int) ∧ z = .int .i64 (b : Int) ∧ Kept (fun k => k = g) w w4 ∧ ∃ D T D0 T0, Hid (L0 = D0 ++ T0 ∧ Fulls R (2 * bs) D D0 ∧ Chunk R bs T T0 ∧ D.length = a) ∧ PRow w4 g off (D ++ T)) (fun y _ _ => N + 1 - (intOf y).toNat)
          case atStart => exact ⟨0, 2 * bs, Nat.zero_le _, by omega, rfl, congrArg (Value.int .i64) (by omega), kp, [], L, [], L0, Lib.hid ⟨rfl, .nil, hC.out, rfl⟩, hr⟩
          case round =>
            clear kp hC hr
            obtain ⟨a, b, haN, hab, rfl, rfl, kp, D, T, D0, T0, hp, hr⟩ := hrel
            by_cases hlt2 : b ≤ N
            · have d2 : decide ((b : Int) ≤ (N : Int)) = true := decide_eq_true (by omega)
              obtain ⟨e0, hF, hC, lD⟩ := hp.out
              have lT : a + T.length = N := by have := HN.out; have := hF.len; have := hC.len; rw [e0, List.length_append] at *; omega
              obtain ⟨Z1, Z2, T', X1, X2, T0', e1, e2, l1, l2, s1, s2, hC'⟩ := hC.two (by omega) (by omega)
              obtain ⟨m9, hm9⟩ : ∃ m, m = a + bs := ⟨_, rfl⟩
              have HM9 : Hid ((a : Int) + (bs : Int) = ((m9 : Nat) : Int)) := Lib.hid (by omega)
              rw [e1] at hr
              have HC := Lib.hid (wssym (R := R) (b - a) (w := wr) (c := c) (N := N) (P := D) (X := Z1) (Y := Z2) (Q := T') (a := a) (m := m9) (b := b) (Nat.le_refl _) lD (by omega) (by omega) (by rw [← e1, List.length_append]; omega) hsz s1.1 s2.1 (by omega) (by omega) hr ((HK.out.kept kp).stb (fun b hb => by
                rw [e0, e2]
                refine List.mem_append_right _ ?_
                rcases List.mem_append.1 hb with hb | hb
                · exact List.mem_append_left _ ((s1.mem b).1 hb)
                · exact List.mem_append_right _ (List.mem_append_left _ ((s2.mem b).1 hb)))))
              have E2 : Hid (∀ Z, Stb R Z (Z1 ++ Z2) → L0 = (D0 ++ (X1 ++ X2)) ++ T0' ∧ Fulls R (2 * bs) (D ++ Z) (D0 ++ (X1 ++ X2)) ∧ Chunk R bs T' T0' ∧ (D ++ Z).length = b) := Lib.hid (fun Z hz => ⟨by rw [e0, e2]; simp, hF.snoc (by rw [hz.len, List.length_append]; omega) (hz.glue s1 s2), hC', by rw [List.length_append, hz.len, List.length_append]; omega⟩)
              have HAB := Lib.hid hab
              have hbn : b ≤ 5000000 := by omega
              have hab2 : a < b := by omega
              clear hp e0 hF lD lT hr hab e1 e2 l1 l2 s1 s2 hC' hC hm9
              go_wp2_with (go_at_call 87; rw [HM9.out]; refine HC.out.mono ?_; rintro e w2 ⟨rfl, Z, hr2, hz, kp2⟩)
              go_roundw
              case rel => exact ⟨b, b + 2 * bs, hlt2, rfl, rfl, congrArg (Value.int .i64) (by omega), kp.trans kp2 (fun _ _ e => e), D ++ Z, T', D0 ++ (X1 ++ X2), T0', Lib.hid (E2.out Z hz), by rw [List.append_assoc]; exact hr2⟩
              case measure => simp [intOf]; omega
            · have d2 : decide ((b : Int) ≤ (N : Int)) = false := decide_eq_false (by omega)
              obtain ⟨e0, hF, hC, lD⟩ := hp.out
              have lT : a + T.length = N := by have := HN.out; have := hF.len; have := hC.len; rw [e0, List.length_append] at *; omega
              obtain ⟨m9, hm9⟩ : ∃ m, m = a + bs := ⟨_, rfl⟩
              have HM9 : Hid ((a : Int) + (bs : Int) = ((m9 : Nat) : Int)) := Lib.hid (by omega)
              by_cases hm : m9 < N
              · have hm2 : a + bs < N := by omega
                obtain ⟨Z1, Z2, X1, X2, e1, e2, l1, s1, s2⟩ := hC.tail (by omega) (by omega)
                have lZ : Z1.length + Z2.length = T.length := by rw [e1, List.length_append]
                rw [e1] at hr
                have hr2 : PRow wr g off (D ++ (Z1 ++ (Z2 ++ []))) := by rw [List.append_nil]; exact hr
                have HC := Lib.hid (wssym (R := R) (N - a) (w := wr) (c := c) (N := N) (P := D) (X := Z1) (Y := Z2) (Q := []) (a := a) (m := m9) (b := N) (Nat.le_refl _) lD (by omega) (by omega) (by rw [List.append_nil, ← e1, List.length_append]; omega) hsz s1.1 s2.1 (by omega) (by omega) hr2 ((HK.out.kept kp).stb (fun b hb => by
                  rw [e0, e2]
                  refine List.mem_append_right _ ?_
                  rcases List.mem_append.1 hb with hb | hb
                  · exact List.mem_append_left _ ((s1.mem b).1 hb)
                  · exact List.mem_append_right _ ((s2.mem b).1 hb))))
                have E2 : Hid (∀ Z, Stb R Z (Z1 ++ Z2) → Chunk R (2 * bs) (D ++ Z) L0) := Lib.hid (fun Z hz => by
                  rw [e0, e2]
                  exact hF.then (.last (by rw [hz.len, List.length_append]; omega) (hz.glue s1 s2)))
                have d3 : decide ((a : Int) + (bs : Int) < (N : Int)) = true := decide_eq_true (by omega)
                have hbs2 : 2 * bs ≤ 8000000 := by omega
                clear hp e0 hF lD lT hr hr2 hab e1 e2 l1 s1 s2 hC hm9 lZ
                go_wp2_with (go_at_call 87; rw [HM9.out]; refine HC.out.mono ?_; rintro e w2 ⟨rfl, Z, hr2, hz, kp2⟩)
                go_roundw
                case rel => exact ⟨2 * bs, by omega, hbs2, congrArg (Value.int .i64) (by omega), kp.trans kp2 (fun _ _ e => e), D ++ Z, Lib.hid (E2.out Z hz), by rw [List.append_nil] at hr2; exact hr2⟩
                case measure => simp [intOf]; omega
              · have hm2 : ¬ a + bs < N := by omega
                have E2 : Hid (Chunk R (2 * bs) (D ++ T) L0) := Lib.hid (by
                  rw [e0]
                  exact hF.then (.last (by omega) (hC.small (by omega))))
                have d3 : decide ((a : Int) + (bs : Int) < (N : Int)) = false := decide_eq_false (by omega)
                have hbs2 : 2 * bs ≤ 8000000 := by omega
                have HR := Lib.hid hr
                clear hp e0 hF lD lT hr hab hC hm9
                go_wp2_with fail
                go_roundw
                case rel => exact ⟨2 * bs, by omega, hbs2, congrArg (Value.int .i64) (by omega), kp, D ++ T, E2, HR.out⟩
                case measure => simp [intOf]; omega
        · have d1 : decide ((bs : Int) < (N : Int)) = false := decide_eq_false (by omega)
          have hS : Hid (Stb R L L0) := Lib.hid (hC.out.small (by have := hC.out.len; have := HN.out; omega))
          have HR := Lib.hid hr
          clear hC hr
          go_wp2
          exact bodyPost_end (results_none rfl _ _ _) rfl ⟨rfl, L, HR.out, hS.out, kp⟩
theorem wssortG {w : World} {g off c N : Nat} {L0 : List Nat} {R : Nat → Int} (hN : L0.length = N) (hsz : N ≤ 4000000) (h : PRow w g off L0) (hk : KeyR w g R L0) :
    Calls Try.prog 32 #[.slice (some ⟨g, off, none⟩) N c, .func (.func 33) #[] #[]] w fun e w' => e = .returned (.tuple #[]) ∧ ∃ Z, PRow w' g off Z ∧ Stb R Z L0 ∧ Kept (fun k => k = g) w w' := by
  have H := Lib.hid (wsstableG (c := c) hN hsz h hk)
  clear h hk hN
  go_enter Try.func32, Try.ntmps32
  go_wp2_with (go_at_call 56; refine H.out.mono ?_; rintro e w1 ⟨rfl, Z, h1, h2, h3⟩)
  exact bodyPost_end (results_none rfl _ _ _) rfl ⟨rfl, Z, h1, h2, h3⟩
end Go.Proofs.Ytjgcpaepaocigaa
