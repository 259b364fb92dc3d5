/-
  Contracts and lemmas on which the proofs of this seat stand (several texts in one). Conditions are each theorem's own.
-/
import Derived.Test.YtjgcpaepaocigaaWb5

/-
  Two halves of a row of pointers to timers that are merged, stably. Conditions are each theorem's own.
-/
namespace Go.Proofs.Ytjgcpaepaocigaa
open Go.RowKit
theorem at_winS {P X T : List Nat} {a h : Nat} (ha : P.length = a) (h0 : a ≤ h) (h1 : h < a + X.length) : ∃ y, y ∈ X ∧ (P ++ (X ++ T))[h]? = some y ∧ (P ++ (X ++ T)).getD h 0 = y ∧ ∃ k : h - a < X.length, X[h - a] = y := by
  subst ha
  have hl : h - P.length < X.length := by omega
  have e : (P ++ (X ++ T))[h]? = some X[h - P.length] := by
    rw [List.getElem?_append_right h0, List.getElem?_append_left hl, List.getElem?_eq_getElem hl]
  exact ⟨X[h - P.length], List.getElem_mem hl, e, by rw [List.getD_eq_getElem?_getD, e]; rfl, hl, rfl⟩
set_option maxRecDepth 100000 in
set_option maxHeartbeats 4000000 in
theorem wssym_one {w : World} {g off c N a m b x : Nat} {P Y Q : List Nat} {R : Nat → Int} (ha : P.length = a) (hm : a + 1 = m) (hb : m + Y.length = b) (hN : (P ++ ([x] ++ (Y ++ Q))).length = N) (hsz : N ≤ 4000000) (hY : Asc R Y) (h : PRow w g off (P ++ ([x] ++ (Y ++ Q)))) (hk : KeyR w g R ([x] ++ Y)) :
    Calls Try.prog 87 #[.slice (some ⟨g, off, none⟩) N c, .int .i64 (a : Int), .int .i64 (m : Int), .int .i64 (b : Int), .func (.func 33) #[] #[]] w fun e w' => e = .returned (.tuple #[]) ∧ ∃ Z, PRow w' g off (P ++ (Z ++ Q)) ∧ Stb R Z ([x] ++ Y) ∧ Kept (fun k => k = g) w w' := by
  have hbN : b ≤ N := by simp only [List.length_append, List.length_singleton] at hN; omega
  have hW : ∀ h, m ≤ h → h < b → ∃ y, y ∈ Y ∧ (P ++ ([x] ++ (Y ++ Q)))[h]? = some y ∧ (P ++ ([x] ++ (Y ++ Q))).getD h 0 = y ∧ ∃ k : h - m < Y.length, Y[h - m] = y := fun h h0 h1 => by
    have := at_winS (P := P ++ [x]) (X := Y) (T := Q) (a := m) (by rw [List.length_append, List.length_singleton]; omega) h0 (by omega)
    rwa [List.append_assoc] at this
  have hI : AscI R (P ++ ([x] ++ (Y ++ Q))) m b := by
    have := hY.idx (P := P ++ [x]) (T := Q) (a := m) (m := b) (by rw [List.length_append, List.length_singleton]; omega) hb
    rwa [List.append_assoc, List.append_assoc] at this
  obtain ⟨L, hL⟩ : ∃ L, L = P ++ ([x] ++ (Y ++ Q)) := ⟨_, rfl⟩
  rw [← hL] at hW hI h
  have hxa : L[a]? = some x := by rw [hL]; exact get_midS ha
  have HW := Lib.hid hW
  have HI := Lib.hid hI
  have HK := Lib.hid hk
  have HP := Lib.hid h
  have HLE := Lib.hid hL
  have HA := Lib.hid ha
  have HM := Lib.hid hm
  have HB := Lib.hid hb
  have HXA := Lib.hid hxa
  have hma : IntKind.i64.wrap ((m : Int) - (a : Int)) = 1 := by rw [IntWalk.i64_in _ (by omega)]; omega
  have hmb : m ≤ b := by omega
  have ham : a < m := by omega
  have haN : a < N := by omega
  clear hW hI hk h hL ha hm hb hN hxa
  go_enter Try.func87, Try.ntmps87
  go_wp2
  go_loopw [10, 11] (fun y z wr => ∃ i j : Nat, m ≤ i ∧ i ≤ j ∧ j ≤ b ∧ y = .int .i64 (i : Int) ∧ z = .int .i64 (j : Int) ∧ Below w.heap.size w wr ∧ Hid ((∀ h, m ≤ h → h < i → R (L.getD h 0) < R x) ∧ (∀ h, j ≤ h → h < b → R x ≤ R (L.getD h 0)))) (fun y z _ => (intOf z).toNat - (intOf y).toNat)
  case atStart => exact ⟨m, b, Nat.le_refl _, hmb, Nat.le_refl _, rfl, rfl, Below.refl _ _, Lib.hid ⟨fun h h0 h1 => absurd h0 (by omega), fun h h0 h1 => absurd h0 (by omega)⟩⟩
  case round =>
    obtain ⟨i, j, hmi, hij, hjb, rfl, rfl, hbl, hs⟩ := hrel
    by_cases hlt : i < j
    · have d1 : decide ((i : Int) < (j : Int)) = true := decide_eq_true (by omega)
      obtain ⟨h, hh⟩ : ∃ n, n = (i + j) / 2 := ⟨_, rfl⟩
      have s4 : Hid (((i : Int) + (j : Int)) / 2 = ((h : Nat) : Int)) := Lib.hid (by omega)
      have hih : i ≤ h := by omega
      have hhj : h < j := by omega
      have hmh : m ≤ h := by omega
      have hhN : h < N := by omega
      have hhb : h < b := by omega
      obtain ⟨y, hyY, hyc, hyd, _⟩ := HW.out h hmh hhb
      have KX : Hid (∀ V, Below w.heap.size w V → V.cell? ⟨y, 1, none⟩ = some (.int .i64 (R y))) := Lib.hid (fun V hV => HK.out.below hV (List.mem_append_right _ hyY))
      have KY : Hid (∀ V, Below w.heap.size w V → V.cell? ⟨x, 1, none⟩ = some (.int .i64 (R x))) := Lib.hid (fun V hV => HK.out.below hV (by simp))
      have CX : Hid (∀ V, Below w.heap.size w V → V.cell? ⟨g, off + h, none⟩ = some (.pointer (some ⟨y, 0, none⟩))) := Lib.hid (fun V hV => HP.out.below hV hyc)
      have CY : Hid (∀ V, Below w.heap.size w V → V.cell? ⟨g, off + a, none⟩ = some (.pointer (some ⟨x, 0, none⟩))) := Lib.hid (fun V hV => HP.out.below hV HXA.out)
      obtain ⟨B, hB⟩ : ∃ B, B = decide (R y < R x) := ⟨_, rfl⟩
      have HBB : Hid (decide (cmpI (R y) (R x) < 0) = B) := Lib.hid (by rw [cmpI_lt, hB])
      have HB2 := Lib.hid hB
      have HYD := Lib.hid hyd
      clear hh hyY hyc hyd hB
      go_upto_region 5 with fail
      rw [s4.out]
      refine wp_region_held_drew (S := fun w' => Below w.heap.size w w') (by kernel_rfl) hbl.drew (fun hS => ?_)
      refine held_pure (i := 0) (oi := ⟨some 40, _, _, _, _, _⟩) rfl (by kernel_rfl) (by kernel_rfl) (by kernel_rfl) (fun _ _ _ h => h) (by rfl) (v := ?_) (fun w hSw => ?_) hS (fun hS => ?_)
      rotate_left
      · go_simp; try with_reducible rfl
      try go_frame
      refine held_pure (i := 1) (oi := ⟨some 41, _, _, _, _, _⟩) rfl (by kernel_rfl) (by kernel_rfl) (by kernel_rfl) (fun _ _ _ h => h) (by rfl) (v := ?_) (fun w hSw => ?_) hS (fun hS => ?_)
      rotate_left
      · go_simp; try with_reducible rfl
      try go_frame
      refine held_pure (i := 2) (oi := ⟨some 42, _, _, _, _, _⟩) rfl (by kernel_rfl) (by kernel_rfl) (by kernel_rfl) (fun _ _ _ h => h) (by rfl) (v := ?_) (fun w hSw => ?_) hS (fun hS => ?_)
      rotate_left
      · go_simp; try with_reducible rfl
      try go_frame
      refine held_pure (i := 3) (oi := ⟨some 43, _, _, _, _, _⟩) rfl (by kernel_rfl) (by kernel_rfl) (by kernel_rfl) (fun _ _ _ h => h) (by rfl) (fun w hSw => run_idx_pt (i := h) rfl rfl rfl hhN) hS (fun hS => ?_)
      try go_frame
      refine held_pure (i := 4) (oi := ⟨some 44, _, _, _, _, _⟩) rfl (by kernel_rfl) (by kernel_rfl) (by kernel_rfl) (fun _ _ _ h => h) (by rfl) (fun w hSw => run_load_ptW rfl rfl (CX.out _ hSw)) hS (fun hS => ?_)
      try go_frame
      refine held_pure (i := 5) (oi := ⟨some 45, _, _, _, _, _⟩) rfl (by kernel_rfl) (by kernel_rfl) (by kernel_rfl) (fun _ _ _ h => h) (by rfl) (v := ?_) (fun w hSw => ?_) hS (fun hS => ?_)
      rotate_left
      · go_simp; try with_reducible rfl
      try go_frame
      refine held_pure (i := 6) (oi := ⟨some 46, _, _, _, _, _⟩) rfl (by kernel_rfl) (by kernel_rfl) (by kernel_rfl) (fun _ _ _ h => h) (by rfl) (v := ?_) (fun w hSw => ?_) hS (fun hS => ?_)
      rotate_left
      · go_simp; try with_reducible rfl
      try go_frame
      refine held_pure (i := 7) (oi := ⟨some 47, _, _, _, _, _⟩) rfl (by kernel_rfl) (by kernel_rfl) (by kernel_rfl) (fun _ _ _ h => h) (by rfl) (fun w hSw => run_idx_pt (i := a) rfl rfl rfl haN) hS (fun hS => ?_)
      try go_frame
      refine held_pure (i := 8) (oi := ⟨some 48, _, _, _, _, _⟩) rfl (by kernel_rfl) (by kernel_rfl) (by kernel_rfl) (fun _ _ _ h => h) (by rfl) (fun w hSw => run_load_ptW rfl rfl (CY.out _ hSw)) hS (fun hS => ?_)
      try go_frame
      refine wpAnyH_ready (rs := [9]) (by kernel_rfl) (by simp) (AllReadyH.cons (o := ⟨some 49, _, _, _, _, _⟩) rfl (fun K hK => ?_) AllReadyH.nil)
      rw [if_pos (by rfl)]
      go_simp
      refine (wadv1 (KX.out _ hS) (KY.out _ hS)).mono ?_
      rintro e y9 ⟨rfl, rfl⟩
      show K _ _
      refine hK.out _ _ hS.drew (fun hS => ?_)
      clear hK K
      try go_frame
      refine held_pure (i := 10) (oi := ⟨some 50, _, _, _, _, _⟩) rfl (by kernel_rfl) (by kernel_rfl) (by kernel_rfl) (fun _ _ _ h => h) (by rfl) (v := .bool B) (fun w hSw => by go_simp; first | done | exact congrArg some (congrArg Value.bool HBB.out) | simp [HBB.out]) hS (fun hS => ?_)
      try go_frame
      refine wpAnyH_done (by kernel_rfl) ?_ _
      cases B with
      | true =>
        go_wp2_with fail
        go_roundw
        case rel => exact ⟨h + 1, j, by omega, by omega, hjb, congrArg (Value.int .i64) (by omega), rfl, hS, Lib.hid ⟨fun k k0 k1 => by
          have := of_decide_eq_true HB2.out.symm
          rw [← HYD.out] at this
          exact Int.lt_of_le_of_lt (HI.out k h k0 (by omega) hhb) this, hs.out.2⟩⟩
        case measure => simp [intOf]; omega
      | false =>
        go_wp2_with fail
        go_roundw
        case rel => exact ⟨i, h, hmi, hih, by omega, rfl, rfl, hS, Lib.hid ⟨hs.out.1, fun k k0 k1 => by
          have := of_decide_eq_false HB2.out.symm
          rw [← HYD.out] at this
          exact Int.le_trans (Int.not_lt.1 this) (HI.out h k hmh k0 k1)⟩⟩
        case measure => simp [intOf]; omega
    · have hij2 : i = j := by omega
      obtain ⟨q1, q2⟩ := hs.out
      have hlY : i - m ≤ Y.length := by have := HB.out; omega
      have F1 : ∀ y ∈ Y.take (i - m), R y < R x := fun y hy => by
        obtain ⟨k, hk, rfl⟩ := List.mem_iff_getElem.1 hy
        rw [List.length_take] at hk
        obtain ⟨y, _, _, e1, _, e2⟩ := HW.out (m + k) (by omega) (by omega)
        have := q1 (m + k) (by omega) (by omega)
        rw [e1, ← e2] at this
        rw [List.getElem_take]
        have e3 : m + k - m = k := by omega
        simp only [e3] at this
        exact this
      have F2 : ∀ y ∈ Y.drop (i - m), R x ≤ R y := fun y hy => by
        obtain ⟨k, hk, rfl⟩ := List.mem_iff_getElem.1 hy
        rw [List.length_drop] at hk
        have hbb := HB.out
        obtain ⟨y, _, _, e1, _, e2⟩ := HW.out (i + k) (by omega) (by omega)
        have := q2 (i + k) (by omega) (by omega)
        rw [e1, ← e2] at this
        rw [List.getElem_drop]
        have e3 : i + k - m = i - m + k := by omega
        simp only [e3] at this
        exact this
      obtain ⟨Y1, hY1⟩ : ∃ l, l = Y.take (i - m) := ⟨_, rfl⟩
      obtain ⟨Y2, hY2⟩ : ∃ l, l = Y.drop (i - m) := ⟨_, rfl⟩
      have lY1 : Y1.length = i - m := by rw [hY1, List.length_take]; omega
      have eY : Y = Y1 ++ Y2 := by rw [hY1, hY2, List.take_append_drop]
      rw [← hY1] at F1
      rw [← hY2] at F2
      have PZ : Hid (Stb R (Y1 ++ x :: Y2) ([x] ++ Y)) := Lib.hid (by
        have hYY := hY
        rw [eY] at hYY
        have pp := List.pairwise_append.1 hYY
        have := Stb.merge (R := R) (X1 := []) (X2 := [x]) (Y1 := Y1) (Y2 := Y2) (Z1 := Y1) (Z2 := x :: Y2) (List.pairwise_singleton _ _) hYY (fun y hy z hz => by rw [List.mem_singleton.1 hz]; exact F1 y hy) (fun z hz => by cases hz) (Stb.self pp.1) (Stb.self (List.pairwise_cons.2 ⟨F2, pp.2.1⟩))
        rw [eY]; exact this)
      have LY1 := Lib.hid lY1
      have hr0 : PRow wr g off (P ++ ([] ++ x :: (Y1 ++ (Y2 ++ Q)))) := by
        have := HP.out.of_block (hbl.block g HP.out.lt)
        rw [HLE.out, eY] at this
        simpa using this
      have kp0 : Kept (fun k => k = g) w wr := Kept.of_below hbl
      have hiN : i ≤ N := by omega
      clear q1 q2 hs hlY F1 F2 hY1 hY2 lY1 eY hij2 hbl hij hjb
      go_wp2
      clear hlt
      go_loopw [13] (fun z w2 => ∃ k : Nat, z = .int .i64 (k : Int) ∧ a ≤ k ∧ k < i ∧ Kept (fun k => k = g) w w2 ∧ ∃ Ya Yb, Hid (Y1 = Ya ++ Yb ∧ a + Ya.length = k) ∧ PRow w2 g off (P ++ (Ya ++ x :: (Yb ++ (Y2 ++ Q))))) (fun z _ => i - (intOf z).toNat)
      case atStart => exact ⟨a, rfl, Nat.le_refl _, by omega, kp0, [], Y1, Lib.hid ⟨rfl, rfl⟩, hr0⟩
      case round =>
        clear hr0 kp0
        obtain ⟨k, rfl, hak, hki, kp, Ya, Yb, hp, hr⟩ := hrel
        by_cases hlt : k + 1 < i
        · have d1 : decide ((k : Int) < (i : Int) - 1) = true := decide_eq_true (by omega)
          obtain ⟨e1, l1⟩ := hp.out
          obtain ⟨y, Yc, e2⟩ : ∃ y Yc, Yb = y :: Yc := by
            cases Yb with
            | nil =>
              have h1 := LY1.out
              have h2 := HM.out
              rw [e1, List.append_nil] at h1
              exfalso; omega
            | cons y Yc => exact ⟨y, Yc, rfl⟩
          subst e2
          have eL : P ++ (Ya ++ x :: (y :: Yc ++ (Y2 ++ Q))) = (P ++ Ya) ++ x :: y :: (Yc ++ (Y2 ++ Q)) := by simp
          rw [eL] at hr
          have lC : (P ++ Ya).length = k := by rw [List.length_append, HA.out]; omega
          obtain ⟨j, hj⟩ : ∃ j, j = k + 1 := ⟨_, rfl⟩
          have SW := Lib.hid (hr.swp lC hj)
          have E2 : Hid (Y1 = (Ya ++ [y]) ++ Yc ∧ a + (Ya ++ [y]).length = j) := Lib.hid ⟨by rw [e1]; simp, by rw [List.length_append, List.length_singleton]; omega⟩
          have KP := Lib.hid kp
          have hkN : k < N := by omega
          have hjN : j < N := by omega
          have haj : a ≤ j := by omega
          have hji : j < i := by omega
          have HJ := Lib.hid hj
          have hkj : k < j := by omega
          clear hp e1 l1 eL lC hr hj kp
          go_upto_region 11 with fail
          refine wp_region_held_drew (S := fun _ => True) (by kernel_rfl) trivial (fun hS => ?_)
          refine held_pure (i := 0) (oi := ⟨some 61, _, _, _, _, _⟩) rfl (by kernel_rfl) (by kernel_rfl) (by kernel_rfl) (fun _ _ _ h => h) (by rfl) (v := ?_) (fun w hSw => ?_) hS (fun hS => ?_)
          rotate_left
          · go_simp; try with_reducible rfl
          try go_frame
          refine held_pure (i := 1) (oi := ⟨some 62, _, _, _, _, _⟩) rfl (by kernel_rfl) (by kernel_rfl) (by kernel_rfl) (fun _ _ _ h => h) (by rfl) (v := ?_) (fun w hSw => ?_) hS (fun hS => ?_)
          rotate_left
          · go_simp; try with_reducible rfl
          try go_frame
          refine held_pure (i := 2) (oi := ⟨some 63, _, _, _, _, _⟩) rfl (by kernel_rfl) (by kernel_rfl) (by kernel_rfl) (fun _ _ _ h => h) (by rfl) (v := ?_) (fun w hSw => ?_) hS (fun hS => ?_)
          rotate_left
          · go_simp; try with_reducible rfl
          try go_frame
          refine held_pure (i := 3) (oi := ⟨some 64, _, _, _, _, _⟩) rfl (by kernel_rfl) (by kernel_rfl) (by kernel_rfl) (fun _ _ _ h => h) (by rfl) (v := ?_) (fun w hSw => ?_) hS (fun hS => ?_)
          rotate_left
          · go_simp; try with_reducible rfl
          try go_frame
          refine held_pure (i := 4) (oi := ⟨some 65, _, _, _, _, _⟩) rfl (by kernel_rfl) (by kernel_rfl) (by kernel_rfl) (fun _ _ _ h => h) (by rfl) (fun w hSw => run_add_nat (n := 1) rfl rfl rfl (k := j) HJ.out (by omega)) hS (fun hS => ?_)
          try go_frame
          refine held_pure (i := 5) (oi := ⟨some 66, _, _, _, _, _⟩) rfl (by kernel_rfl) (by kernel_rfl) (by kernel_rfl) (fun _ _ _ h => h) (by rfl) (v := ?_) (fun w hSw => ?_) hS (fun hS => ?_)
          rotate_left
          · go_simp; try with_reducible rfl
          try go_frame
          refine held_pure (i := 6) (oi := ⟨some 67, _, _, _, _, _⟩) rfl (by kernel_rfl) (by kernel_rfl) (by kernel_rfl) (fun _ _ _ h => h) (by rfl) (v := ?_) (fun w hSw => ?_) hS (fun hS => ?_)
          rotate_left
          · go_simp; try with_reducible rfl
          try go_frame
          refine held_pure (i := 7) (oi := ⟨some 68, _, _, _, _, _⟩) rfl (by kernel_rfl) (by kernel_rfl) (by kernel_rfl) (fun _ _ _ h => h) (by rfl) (fun w hSw => run_add_nat (n := 1) rfl rfl rfl (k := j) HJ.out (by omega)) hS (fun hS => ?_)
          try go_frame
          refine held_pure (i := 8) (oi := ⟨some 69, _, _, _, _, _⟩) rfl (by kernel_rfl) (by kernel_rfl) (by kernel_rfl) (fun _ _ _ h => h) (by rfl) (fun w hSw => run_idx_pt (i := j) rfl rfl rfl hjN) hS (fun hS => ?_)
          try go_frame
          refine held_pure (i := 10) (oi := ⟨some 71, _, _, _, _, _⟩) rfl (by kernel_rfl) (by kernel_rfl) (by kernel_rfl) (fun _ _ _ h => h) (by rfl) (v := ?_) (fun w hSw => ?_) hS (fun hS => ?_)
          rotate_left
          · go_simp; try with_reducible rfl
          try go_frame
          refine held_pure (i := 11) (oi := ⟨some 72, _, _, _, _, _⟩) rfl (by kernel_rfl) (by kernel_rfl) (by kernel_rfl) (fun _ _ _ h => h) (by rfl) (v := ?_) (fun w hSw => ?_) hS (fun hS => ?_)
          rotate_left
          · go_simp; try with_reducible rfl
          try go_frame
          refine held_pure (i := 12) (oi := ⟨some 73, _, _, _, _, _⟩) rfl (by kernel_rfl) (by kernel_rfl) (by kernel_rfl) (fun _ _ _ h => h) (by rfl) (fun w hSw => run_idx_pt (i := k) rfl rfl rfl hkN) hS (fun hS => ?_)
          try go_frame
          refine wpAnyH_ready (rs := [9, 13]) (by kernel_rfl) (by simp) (AllReadyH.cons (o := ⟨some 70, _, _, _, _, _⟩) rfl (fun K hK => ?_) (AllReadyH.cons (o := ⟨some 74, _, _, _, _, _⟩) rfl (fun K hK => ?_) AllReadyH.nil))
          · rw [if_pos (by rfl)]
            refine load_ptW_wp rfl rfl SW.out.1.2.1 ?_
            refine hK.out _ _ trivial (fun hS => ?_)
            clear hK K
            try go_frame
            refine wpAnyH_ready (rs := [13]) (by kernel_rfl) (by simp) (AllReadyH.cons (o := ⟨some 74, _, _, _, _, _⟩) rfl (fun K hK => ?_) AllReadyH.nil)
            rw [if_pos (by rfl)]
            refine load_ptW_wp rfl rfl SW.out.1.1 ?_
            refine hK.out _ _ trivial (fun hS => ?_)
            clear hK K
            try go_frame
            refine held_pure (i := 14) (oi := ⟨some 75, _, _, _, _, _⟩) rfl (by kernel_rfl) (by kernel_rfl) (by kernel_rfl) (fun _ _ _ h => h) (by rfl) (fun w hSw => run_idx_pt (i := k) rfl rfl rfl hkN) hS (fun hS => ?_)
            try go_frame
            refine wpAnyH_ready (rs := [15]) (by kernel_rfl) (by simp) (AllReadyH.cons (o := ⟨none, _, _, _, _, _⟩) rfl (fun K hK => ?_) AllReadyH.nil)
            rw [if_pos (by rfl)]
            refine store_ptW_wp rfl rfl rfl SW.out.1.1 SW.out.1.2.2.1 ?_
            refine hK.out _ _ trivial (fun hS => ?_)
            clear hK K
            try go_frame
            refine held_pure (i := 16) (oi := ⟨some 76, _, _, _, _, _⟩) rfl (by kernel_rfl) (by kernel_rfl) (by kernel_rfl) (fun _ _ _ h => h) (by rfl) (fun w hSw => run_idx_pt (i := j) rfl rfl rfl hjN) hS (fun hS => ?_)
            try go_frame
            refine wpAnyH_ready (rs := [17]) (by kernel_rfl) (by simp) (AllReadyH.cons (o := ⟨none, _, _, _, _, _⟩) rfl (fun K hK => ?_) AllReadyH.nil)
            rw [if_pos (by rfl)]
            refine store_ptW_wp rfl rfl rfl SW.out.2.2.1 SW.out.2.2.2.1 ?_
            refine hK.out _ _ trivial (fun hS => ?_)
            clear hK K
            try go_frame
            refine wpAnyH_done (by kernel_rfl) ?_ _
            go_wp2_with fail
            go_roundw
            case rel => exact ⟨j, congrArg (Value.int .i64) (by have := HJ.out; omega), haj, hji, (KP.out.trans SW.out.2.2.2.2.2 (fun _ _ e => e)), Ya ++ [y], Yc, E2, by rw [show P ++ ((Ya ++ [y]) ++ x :: (Yc ++ (Y2 ++ Q))) = (P ++ Ya) ++ y :: x :: (Yc ++ (Y2 ++ Q)) by simp]; exact SW.out.2.2.2.2.1⟩
            case measure => simp [intOf]; omega
          · rw [if_pos (by rfl)]
            refine load_ptW_wp rfl rfl SW.out.1.1 ?_
            refine hK.out _ _ trivial (fun hS => ?_)
            clear hK K
            try go_frame
            refine wpAnyH_ready (rs := [9]) (by kernel_rfl) (by simp) (AllReadyH.cons (o := ⟨some 70, _, _, _, _, _⟩) rfl (fun K hK => ?_) AllReadyH.nil)
            rw [if_pos (by rfl)]
            refine load_ptW_wp rfl rfl SW.out.1.2.1 ?_
            refine hK.out _ _ trivial (fun hS => ?_)
            clear hK K
            try go_frame
            refine held_pure (i := 14) (oi := ⟨some 75, _, _, _, _, _⟩) rfl (by kernel_rfl) (by kernel_rfl) (by kernel_rfl) (fun _ _ _ h => h) (by rfl) (fun w hSw => run_idx_pt (i := k) rfl rfl rfl hkN) hS (fun hS => ?_)
            try go_frame
            refine wpAnyH_ready (rs := [15]) (by kernel_rfl) (by simp) (AllReadyH.cons (o := ⟨none, _, _, _, _, _⟩) rfl (fun K hK => ?_) AllReadyH.nil)
            rw [if_pos (by rfl)]
            refine store_ptW_wp rfl rfl rfl SW.out.1.1 SW.out.1.2.2.1 ?_
            refine hK.out _ _ trivial (fun hS => ?_)
            clear hK K
            try go_frame
            refine held_pure (i := 16) (oi := ⟨some 76, _, _, _, _, _⟩) rfl (by kernel_rfl) (by kernel_rfl) (by kernel_rfl) (fun _ _ _ h => h) (by rfl) (fun w hSw => run_idx_pt (i := j) rfl rfl rfl hjN) hS (fun hS => ?_)
            try go_frame
            refine wpAnyH_ready (rs := [17]) (by kernel_rfl) (by simp) (AllReadyH.cons (o := ⟨none, _, _, _, _, _⟩) rfl (fun K hK => ?_) AllReadyH.nil)
            rw [if_pos (by rfl)]
            refine store_ptW_wp rfl rfl rfl SW.out.2.2.1 SW.out.2.2.2.1 ?_
            refine hK.out _ _ trivial (fun hS => ?_)
            clear hK K
            try go_frame
            refine wpAnyH_done (by kernel_rfl) ?_ _
            go_wp2_with fail
            go_roundw
            case rel => exact ⟨j, congrArg (Value.int .i64) (by have := HJ.out; omega), haj, hji, (KP.out.trans SW.out.2.2.2.2.2 (fun _ _ e => e)), Ya ++ [y], Yc, E2, by rw [show P ++ ((Ya ++ [y]) ++ x :: (Yc ++ (Y2 ++ Q))) = (P ++ Ya) ++ y :: x :: (Yc ++ (Y2 ++ Q)) by simp]; exact SW.out.2.2.2.2.1⟩
            case measure => simp [intOf]; omega
        · have d1 : decide ((k : Int) < (i : Int) - 1) = false := decide_eq_false (by omega)
          have PF : Hid (PRow wr g off (P ++ (Y1 ++ x :: Y2 ++ Q))) := Lib.hid (by
            obtain ⟨e1, l1⟩ := hp.out
            have e2 : Yb = [] := List.eq_nil_of_length_eq_zero (by have h1 := LY1.out; have h2 := HM.out; rw [e1, List.length_append] at h1; omega)
            rw [e1, e2]
            rw [e2] at hr
            simpa using hr)
          have KP := Lib.hid kp
          clear hp hr kp
          go_wp2
          exact bodyPost_ret (results_none rfl _ _ _) rfl ⟨rfl, Y1 ++ x :: Y2, PF.out, PZ.out, KP.out⟩
set_option maxRecDepth 100000 in
set_option maxHeartbeats 4000000 in
theorem wssym_last {w : World} {g off c N a m b y : Nat} {P X Q : List Nat} {R : Nat → Int} (ha : P.length = a) (hm : a + X.length = m) (hb : m + 1 = b) (hx : 2 ≤ X.length) (hN : (P ++ (X ++ ([y] ++ Q))).length = N) (hsz : N ≤ 4000000) (hX : Asc R X) (h : PRow w g off (P ++ (X ++ ([y] ++ Q)))) (hk : KeyR w g R (X ++ [y])) :
    Calls Try.prog 87 #[.slice (some ⟨g, off, none⟩) N c, .int .i64 (a : Int), .int .i64 (m : Int), .int .i64 (b : Int), .func (.func 33) #[] #[]] w fun e w' => e = .returned (.tuple #[]) ∧ ∃ Z, PRow w' g off (P ++ (Z ++ Q)) ∧ Stb R Z (X ++ [y]) ∧ Kept (fun k => k = g) w w' := by
  have hmN : m < N := by simp only [List.length_append, List.length_singleton] at hN; omega
  have hW : ∀ h, a ≤ h → h < m → ∃ z, z ∈ X ∧ (P ++ (X ++ ([y] ++ Q)))[h]? = some z ∧ (P ++ (X ++ ([y] ++ Q))).getD h 0 = z ∧ ∃ k : h - a < X.length, X[h - a] = z := fun h h0 h1 => at_winS ha h0 (by omega)
  have hI : AscI R (P ++ (X ++ ([y] ++ Q))) a m := by
    have := hX.idx (T := [y] ++ Q) ha hm
    rwa [List.append_assoc] at this
  obtain ⟨L, hL⟩ : ∃ L, L = P ++ (X ++ ([y] ++ Q)) := ⟨_, rfl⟩
  rw [← hL] at hW hI h
  have hym : L[m]? = some y := by
    rw [hL, ← List.append_assoc]
    exact get_midS (by rw [List.length_append]; omega)
  have HW := Lib.hid hW
  have HI := Lib.hid hI
  have HK := Lib.hid hk
  have HP := Lib.hid h
  have HLE := Lib.hid hL
  have HA := Lib.hid ha
  have HM := Lib.hid hm
  have HYM := Lib.hid hym
  obtain ⟨xl, hxl⟩ : ∃ n, n = X.length := ⟨_, rfl⟩
  have hma : IntKind.i64.wrap ((m : Int) - (a : Int)) = ((xl : Nat) : Int) := by rw [IntWalk.i64_in _ (by omega)]; omega
  have hx1 : (((xl : Nat) : Int) == 1) = false := by simp; omega
  have hx2 : ¬ xl = 1 := by omega
  have hbm : IntKind.i64.wrap ((b : Int) - (m : Int)) = 1 := by rw [IntWalk.i64_in _ (by omega)]; omega
  have ham : a ≤ m := by omega
  have hbN : b ≤ N := by omega
  clear hW hI hk h hL ha hm hb hN hym hxl hx
  go_enter Try.func87, Try.ntmps87
  go_wp2
  go_loopw [14, 15] (fun y9 z9 wr => ∃ i j : Nat, a ≤ i ∧ i ≤ j ∧ j ≤ m ∧ y9 = .int .i64 (i : Int) ∧ z9 = .int .i64 (j : Int) ∧ Below w.heap.size w wr ∧ Hid ((∀ h, a ≤ h → h < i → R (L.getD h 0) ≤ R y) ∧ (∀ h, j ≤ h → h < m → R y < R (L.getD h 0)))) (fun y9 z9 _ => (intOf z9).toNat - (intOf y9).toNat)
  case atStart => exact ⟨a, m, Nat.le_refl _, ham, Nat.le_refl _, rfl, rfl, Below.refl _ _, Lib.hid ⟨fun h h0 h1 => absurd h0 (by omega), fun h h0 h1 => absurd h0 (by omega)⟩⟩
  case round =>
    clear hma hbm hx1 hx2
    obtain ⟨i, j, hai, hij, hjm, rfl, rfl, hbl, hs⟩ := hrel
    by_cases hlt : i < j
    · have d1 : decide ((i : Int) < (j : Int)) = true := decide_eq_true (by omega)
      obtain ⟨h, hh⟩ : ∃ n, n = (i + j) / 2 := ⟨_, rfl⟩
      have s4 : Hid (((i : Int) + (j : Int)) / 2 = ((h : Nat) : Int)) := Lib.hid (by omega)
      have hih : i ≤ h := by omega
      have hhj : h < j := by omega
      have hah : a ≤ h := by omega
      have hhm : h < m := by omega
      have hhN : h < N := by omega
      obtain ⟨z, hzX, hzc, hzd, _⟩ := HW.out h hah hhm
      have KX : Hid (∀ V, Below w.heap.size w V → V.cell? ⟨y, 1, none⟩ = some (.int .i64 (R y))) := Lib.hid (fun V hV => HK.out.below hV (by simp))
      have KY : Hid (∀ V, Below w.heap.size w V → V.cell? ⟨z, 1, none⟩ = some (.int .i64 (R z))) := Lib.hid (fun V hV => HK.out.below hV (List.mem_append_left _ hzX))
      have CX : Hid (∀ V, Below w.heap.size w V → V.cell? ⟨g, off + m, none⟩ = some (.pointer (some ⟨y, 0, none⟩))) := Lib.hid (fun V hV => HP.out.below hV HYM.out)
      have CY : Hid (∀ V, Below w.heap.size w V → V.cell? ⟨g, off + h, none⟩ = some (.pointer (some ⟨z, 0, none⟩))) := Lib.hid (fun V hV => HP.out.below hV hzc)
      obtain ⟨B, hB⟩ : ∃ B, B = decide (R y < R z) := ⟨_, rfl⟩
      have HBB : Hid (decide (cmpI (R y) (R z) < 0) = B) := Lib.hid (by rw [cmpI_lt, hB])
      have HB2 := Lib.hid hB
      have HYD := Lib.hid hzd
      clear hh hzX hzc hzd hB
      go_upto_region 17 with fail
      rw [s4.out]
      refine wp_region_held_drew (S := fun w' => Below w.heap.size w w') (by kernel_rfl) hbl.drew (fun hS => ?_)
      refine held_pure (i := 0) (oi := ⟨some 92, _, _, _, _, _⟩) rfl (by kernel_rfl) (by kernel_rfl) (by kernel_rfl) (fun _ _ _ h => h) (by rfl) (v := ?_) (fun w hSw => ?_) hS (fun hS => ?_)
      rotate_left
      · go_simp; try with_reducible rfl
      try go_frame
      refine held_pure (i := 1) (oi := ⟨some 93, _, _, _, _, _⟩) rfl (by kernel_rfl) (by kernel_rfl) (by kernel_rfl) (fun _ _ _ h => h) (by rfl) (v := ?_) (fun w hSw => ?_) hS (fun hS => ?_)
      rotate_left
      · go_simp; try with_reducible rfl
      try go_frame
      refine held_pure (i := 2) (oi := ⟨some 94, _, _, _, _, _⟩) rfl (by kernel_rfl) (by kernel_rfl) (by kernel_rfl) (fun _ _ _ h => h) (by rfl) (v := ?_) (fun w hSw => ?_) hS (fun hS => ?_)
      rotate_left
      · go_simp; try with_reducible rfl
      try go_frame
      refine held_pure (i := 3) (oi := ⟨some 95, _, _, _, _, _⟩) rfl (by kernel_rfl) (by kernel_rfl) (by kernel_rfl) (fun _ _ _ h => h) (by rfl) (fun w hSw => run_idx_pt (i := m) rfl rfl rfl hmN) hS (fun hS => ?_)
      try go_frame
      refine held_pure (i := 4) (oi := ⟨some 96, _, _, _, _, _⟩) rfl (by kernel_rfl) (by kernel_rfl) (by kernel_rfl) (fun _ _ _ h => h) (by rfl) (fun w hSw => run_load_ptW rfl rfl (CX.out _ hSw)) hS (fun hS => ?_)
      try go_frame
      refine held_pure (i := 5) (oi := ⟨some 97, _, _, _, _, _⟩) rfl (by kernel_rfl) (by kernel_rfl) (by kernel_rfl) (fun _ _ _ h => h) (by rfl) (v := ?_) (fun w hSw => ?_) hS (fun hS => ?_)
      rotate_left
      · go_simp; try with_reducible rfl
      try go_frame
      refine held_pure (i := 6) (oi := ⟨some 98, _, _, _, _, _⟩) rfl (by kernel_rfl) (by kernel_rfl) (by kernel_rfl) (fun _ _ _ h => h) (by rfl) (v := ?_) (fun w hSw => ?_) hS (fun hS => ?_)
      rotate_left
      · go_simp; try with_reducible rfl
      try go_frame
      refine held_pure (i := 7) (oi := ⟨some 99, _, _, _, _, _⟩) rfl (by kernel_rfl) (by kernel_rfl) (by kernel_rfl) (fun _ _ _ h => h) (by rfl) (fun w hSw => run_idx_pt (i := h) rfl rfl rfl hhN) hS (fun hS => ?_)
      try go_frame
      refine held_pure (i := 8) (oi := ⟨some 100, _, _, _, _, _⟩) rfl (by kernel_rfl) (by kernel_rfl) (by kernel_rfl) (fun _ _ _ h => h) (by rfl) (fun w hSw => run_load_ptW rfl rfl (CY.out _ hSw)) hS (fun hS => ?_)
      try go_frame
      refine wpAnyH_ready (rs := [9]) (by kernel_rfl) (by simp) (AllReadyH.cons (o := ⟨some 101, _, _, _, _, _⟩) rfl (fun K hK => ?_) AllReadyH.nil)
      rw [if_pos (by rfl)]
      go_simp
      refine (wadv1 (KX.out _ hS) (KY.out _ hS)).mono ?_
      rintro e y9 ⟨rfl, rfl⟩
      show K _ _
      refine hK.out _ _ hS.drew (fun hS => ?_)
      clear hK K
      try go_frame
      refine held_pure (i := 10) (oi := ⟨some 102, _, _, _, _, _⟩) rfl (by kernel_rfl) (by kernel_rfl) (by kernel_rfl) (fun _ _ _ h => h) (by rfl) (v := .bool B) (fun w hSw => by go_simp; first | done | exact congrArg some (congrArg Value.bool HBB.out) | simp [HBB.out]) hS (fun hS => ?_)
      try go_frame
      refine held_pure (i := 11) (oi := ⟨some 103, _, _, _, _, _⟩) rfl (by kernel_rfl) (by kernel_rfl) (by kernel_rfl) (fun _ _ _ h => h) (by rfl) (v := ?_) (fun w hSw => ?_) hS (fun hS => ?_)
      rotate_left
      · go_simp; try with_reducible rfl
      try go_frame
      refine wpAnyH_done (by kernel_rfl) ?_ _
      cases B with
      | true =>
        go_wp2_with fail
        go_roundw
        case rel => exact ⟨i, h, hai, hih, by omega, rfl, rfl, hS, Lib.hid ⟨hs.out.1, fun k k0 k1 => by
          have := of_decide_eq_true HB2.out.symm
          rw [← HYD.out] at this
          exact Int.lt_of_lt_of_le this (HI.out h k hah k0 k1)⟩⟩
        case measure => simp [intOf]; omega
      | false =>
        go_wp2_with fail
        go_roundw
        case rel => exact ⟨h + 1, j, by omega, by omega, hjm, congrArg (Value.int .i64) (by omega), rfl, hS, Lib.hid ⟨fun k k0 k1 => by
          have := of_decide_eq_false HB2.out.symm
          rw [← HYD.out] at this
          exact Int.le_trans (HI.out k h k0 (by omega) hhm) (Int.not_lt.1 this), hs.out.2⟩⟩
        case measure => simp [intOf]; omega
    · have hij2 : i = j := by omega
      obtain ⟨q1, q2⟩ := hs.out
      have hmm := HM.out
      have F1 : ∀ z ∈ X.take (i - a), R z ≤ R y := fun z hz => by
        obtain ⟨k, hk, rfl⟩ := List.mem_iff_getElem.1 hz
        rw [List.length_take] at hk
        obtain ⟨z, _, _, e1, _, e2⟩ := HW.out (a + k) (by omega) (by omega)
        have := q1 (a + k) (by omega) (by omega)
        rw [e1, ← e2] at this
        rw [List.getElem_take]
        have e3 : a + k - a = k := by omega
        simp only [e3] at this
        exact this
      have F2 : ∀ z ∈ X.drop (i - a), R y < R z := fun z hz => by
        obtain ⟨k, hk, rfl⟩ := List.mem_iff_getElem.1 hz
        rw [List.length_drop] at hk
        obtain ⟨z, _, _, e1, _, e2⟩ := HW.out (i + k) (by omega) (by omega)
        have := q2 (i + k) (by omega) (by omega)
        rw [e1, ← e2] at this
        rw [List.getElem_drop]
        have e3 : i + k - a = i - a + k := by omega
        simp only [e3] at this
        exact this
      obtain ⟨X1, hX1⟩ : ∃ l, l = X.take (i - a) := ⟨_, rfl⟩
      obtain ⟨X2, hX2⟩ : ∃ l, l = X.drop (i - a) := ⟨_, rfl⟩
      have lX1 : a + X1.length = i := by rw [hX1, List.length_take]; omega
      have lX2 : i + X2.length = m := by rw [hX2, List.length_drop]; omega
      have eX : X = X1 ++ X2 := by rw [hX1, hX2, List.take_append_drop]
      rw [← hX1] at F1
      rw [← hX2] at F2
      have PZ : Hid (Stb R (X1 ++ y :: X2) (X ++ [y])) := Lib.hid (by
        have hXX := hX
        rw [eX] at hXX
        rw [eX]
        exact (Stb.self hXX).put F1 F2)
      have LX1 := Lib.hid lX1
      have LX2 := Lib.hid lX2
      have hr0 : PRow wr g off (P ++ (X1 ++ (X2 ++ y :: ([] ++ Q)))) := by
        have := HP.out.of_block (hbl.block g HP.out.lt)
        rw [HLE.out, eX] at this
        simpa using this
      have kp0 : Kept (fun k => k = g) w wr := Kept.of_below hbl
      have him : i ≤ m := by omega
      clear q1 q2 hs F1 F2 hX1 hX2 lX1 lX2 eX hij2 hbl hij hjm hmm
      go_wp2
      clear hlt
      go_loopw [17] (fun z w2 => ∃ k : Nat, z = .int .i64 (k : Int) ∧ i ≤ k ∧ k ≤ m ∧ Kept (fun k => k = g) w w2 ∧ ∃ Xa Xb, Hid (X2 = Xa ++ Xb ∧ i + Xa.length = k) ∧ PRow w2 g off (P ++ (X1 ++ (Xa ++ y :: (Xb ++ Q))))) (fun z _ => (intOf z).toNat)
      case atStart => exact ⟨m, rfl, him, Nat.le_refl _, kp0, X2, [], Lib.hid ⟨by simp, LX2.out⟩, hr0⟩
      case round =>
        clear hr0 kp0
        obtain ⟨k, rfl, hik, hkm, kp, Xa, Xb, hp, hr⟩ := hrel
        by_cases hlt : i < k
        · have d1 : decide ((i : Int) < (k : Int)) = true := decide_eq_true (by omega)
          obtain ⟨e1, l1⟩ := hp.out
          obtain ⟨Xc, z, e2⟩ : ∃ Xc z, Xa = Xc ++ [z] := by
            cases hh : Xa.reverse with
            | nil =>
              have : Xa = [] := by simpa using hh
              rw [this] at l1
              simp at l1
              omega
            | cons z Xd => exact ⟨Xd.reverse, z, by have := congrArg List.reverse hh; simpa using this⟩
          subst e2
          obtain ⟨q, hq⟩ : ∃ q, q = i + Xc.length := ⟨_, rfl⟩
          have hj : k = q + 1 := by rw [List.length_append, List.length_singleton] at l1; omega
          have eL : P ++ (X1 ++ (Xc ++ [z] ++ y :: (Xb ++ Q))) = (P ++ X1 ++ Xc) ++ z :: y :: (Xb ++ Q) := by simp
          rw [eL] at hr
          have lC : (P ++ X1 ++ Xc).length = q := by rw [List.length_append, List.length_append, HA.out, LX1.out, hq]
          have SW := Lib.hid (hr.swp lC hj)
          have E2 : Hid (X2 = Xc ++ (z :: Xb) ∧ i + Xc.length = q) := Lib.hid ⟨by rw [e1]; simp, hq.symm⟩
          have KP := Lib.hid kp
          have hkN : k < N := by omega
          have hqN : q < N := by omega
          have hiq : i ≤ q := by omega
          have HJ := Lib.hid hj
          have hqk : q < k := by omega
          clear hp e1 l1 eL lC hr hj kp hq
          go_upto_region 23 with fail
          refine wp_region_held_drew (S := fun _ => True) (by kernel_rfl) trivial (fun hS => ?_)
          refine held_pure (i := 0) (oi := ⟨some 113, _, _, _, _, _⟩) rfl (by kernel_rfl) (by kernel_rfl) (by kernel_rfl) (fun _ _ _ h => h) (by rfl) (v := ?_) (fun w hSw => ?_) hS (fun hS => ?_)
          rotate_left
          · go_simp; try with_reducible rfl
          try go_frame
          refine held_pure (i := 1) (oi := ⟨some 114, _, _, _, _, _⟩) rfl (by kernel_rfl) (by kernel_rfl) (by kernel_rfl) (fun _ _ _ h => h) (by rfl) (v := ?_) (fun w hSw => ?_) hS (fun hS => ?_)
          rotate_left
          · go_simp; try with_reducible rfl
          try go_frame
          refine held_pure (i := 2) (oi := ⟨some 115, _, _, _, _, _⟩) rfl (by kernel_rfl) (by kernel_rfl) (by kernel_rfl) (fun _ _ _ h => h) (by rfl) (v := ?_) (fun w hSw => ?_) hS (fun hS => ?_)
          rotate_left
          · go_simp; try with_reducible rfl
          try go_frame
          refine held_pure (i := 3) (oi := ⟨some 116, _, _, _, _, _⟩) rfl (by kernel_rfl) (by kernel_rfl) (by kernel_rfl) (fun _ _ _ h => h) (by rfl) (v := ?_) (fun w hSw => ?_) hS (fun hS => ?_)
          rotate_left
          · go_simp; try with_reducible rfl
          try go_frame
          refine held_pure (i := 4) (oi := ⟨some 117, _, _, _, _, _⟩) rfl (by kernel_rfl) (by kernel_rfl) (by kernel_rfl) (fun _ _ _ h => h) (by rfl) (fun w hSw => run_sub_nat (n := 1) rfl rfl rfl (k := q) HJ.out (by omega)) hS (fun hS => ?_)
          try go_frame
          refine held_pure (i := 5) (oi := ⟨some 118, _, _, _, _, _⟩) rfl (by kernel_rfl) (by kernel_rfl) (by kernel_rfl) (fun _ _ _ h => h) (by rfl) (v := ?_) (fun w hSw => ?_) hS (fun hS => ?_)
          rotate_left
          · go_simp; try with_reducible rfl
          try go_frame
          refine held_pure (i := 6) (oi := ⟨some 119, _, _, _, _, _⟩) rfl (by kernel_rfl) (by kernel_rfl) (by kernel_rfl) (fun _ _ _ h => h) (by rfl) (v := ?_) (fun w hSw => ?_) hS (fun hS => ?_)
          rotate_left
          · go_simp; try with_reducible rfl
          try go_frame
          refine held_pure (i := 7) (oi := ⟨some 120, _, _, _, _, _⟩) rfl (by kernel_rfl) (by kernel_rfl) (by kernel_rfl) (fun _ _ _ h => h) (by rfl) (fun w hSw => run_sub_nat (n := 1) rfl rfl rfl (k := q) HJ.out (by omega)) hS (fun hS => ?_)
          try go_frame
          refine held_pure (i := 8) (oi := ⟨some 121, _, _, _, _, _⟩) rfl (by kernel_rfl) (by kernel_rfl) (by kernel_rfl) (fun _ _ _ h => h) (by rfl) (fun w hSw => run_idx_pt (i := q) rfl rfl rfl hqN) hS (fun hS => ?_)
          try go_frame
          refine held_pure (i := 10) (oi := ⟨some 123, _, _, _, _, _⟩) rfl (by kernel_rfl) (by kernel_rfl) (by kernel_rfl) (fun _ _ _ h => h) (by rfl) (v := ?_) (fun w hSw => ?_) hS (fun hS => ?_)
          rotate_left
          · go_simp; try with_reducible rfl
          try go_frame
          refine held_pure (i := 11) (oi := ⟨some 124, _, _, _, _, _⟩) rfl (by kernel_rfl) (by kernel_rfl) (by kernel_rfl) (fun _ _ _ h => h) (by rfl) (v := ?_) (fun w hSw => ?_) hS (fun hS => ?_)
          rotate_left
          · go_simp; try with_reducible rfl
          try go_frame
          refine held_pure (i := 12) (oi := ⟨some 125, _, _, _, _, _⟩) rfl (by kernel_rfl) (by kernel_rfl) (by kernel_rfl) (fun _ _ _ h => h) (by rfl) (fun w hSw => run_idx_pt (i := k) rfl rfl rfl hkN) hS (fun hS => ?_)
          try go_frame
          refine wpAnyH_ready (rs := [9, 13]) (by kernel_rfl) (by simp) (AllReadyH.cons (o := ⟨some 122, _, _, _, _, _⟩) rfl (fun K hK => ?_) (AllReadyH.cons (o := ⟨some 126, _, _, _, _, _⟩) rfl (fun K hK => ?_) AllReadyH.nil))
          · rw [if_pos (by rfl)]
            refine load_ptW_wp rfl rfl SW.out.1.1 ?_
            refine hK.out _ _ trivial (fun hS => ?_)
            clear hK K
            try go_frame
            refine wpAnyH_ready (rs := [13]) (by kernel_rfl) (by simp) (AllReadyH.cons (o := ⟨some 126, _, _, _, _, _⟩) rfl (fun K hK => ?_) AllReadyH.nil)
            rw [if_pos (by rfl)]
            refine load_ptW_wp rfl rfl SW.out.1.2.1 ?_
            refine hK.out _ _ trivial (fun hS => ?_)
            clear hK K
            try go_frame
            refine held_pure (i := 14) (oi := ⟨some 127, _, _, _, _, _⟩) rfl (by kernel_rfl) (by kernel_rfl) (by kernel_rfl) (fun _ _ _ h => h) (by rfl) (fun w hSw => run_idx_pt (i := k) rfl rfl rfl hkN) hS (fun hS => ?_)
            try go_frame
            refine wpAnyH_ready (rs := [15]) (by kernel_rfl) (by simp) (AllReadyH.cons (o := ⟨none, _, _, _, _, _⟩) rfl (fun K hK => ?_) AllReadyH.nil)
            rw [if_pos (by rfl)]
            refine store_ptW_wp rfl rfl rfl SW.out.1.2.1 SW.out.1.2.2.2 ?_
            refine hK.out _ _ trivial (fun hS => ?_)
            clear hK K
            try go_frame
            refine held_pure (i := 16) (oi := ⟨some 128, _, _, _, _, _⟩) rfl (by kernel_rfl) (by kernel_rfl) (by kernel_rfl) (fun _ _ _ h => h) (by rfl) (fun w hSw => run_idx_pt (i := q) rfl rfl rfl hqN) hS (fun hS => ?_)
            try go_frame
            refine wpAnyH_ready (rs := [17]) (by kernel_rfl) (by simp) (AllReadyH.cons (o := ⟨none, _, _, _, _, _⟩) rfl (fun K hK => ?_) AllReadyH.nil)
            rw [if_pos (by rfl)]
            refine store_ptW_wp rfl rfl rfl SW.out.2.1.1 SW.out.2.1.2.1 ?_
            refine hK.out _ _ trivial (fun hS => ?_)
            clear hK K
            try go_frame
            refine wpAnyH_done (by kernel_rfl) ?_ _
            go_wp2_with fail
            go_roundw
            case rel => exact ⟨q, congrArg (Value.int .i64) (by have := HJ.out; omega), hiq, by omega, (KP.out.trans SW.out.2.1.2.2.2 (fun _ _ e => e)), Xc, z :: Xb, E2, by rw [show P ++ (X1 ++ (Xc ++ y :: (z :: Xb ++ Q))) = (P ++ X1 ++ Xc) ++ y :: z :: (Xb ++ Q) by simp]; exact SW.out.2.1.2.2.1⟩
            case measure => simp [intOf]; omega
          · rw [if_pos (by rfl)]
            refine load_ptW_wp rfl rfl SW.out.1.2.1 ?_
            refine hK.out _ _ trivial (fun hS => ?_)
            clear hK K
            try go_frame
            refine wpAnyH_ready (rs := [9]) (by kernel_rfl) (by simp) (AllReadyH.cons (o := ⟨some 122, _, _, _, _, _⟩) rfl (fun K hK => ?_) AllReadyH.nil)
            rw [if_pos (by rfl)]
            refine load_ptW_wp rfl rfl SW.out.1.1 ?_
            refine hK.out _ _ trivial (fun hS => ?_)
            clear hK K
            try go_frame
            refine held_pure (i := 14) (oi := ⟨some 127, _, _, _, _, _⟩) rfl (by kernel_rfl) (by kernel_rfl) (by kernel_rfl) (fun _ _ _ h => h) (by rfl) (fun w hSw => run_idx_pt (i := k) rfl rfl rfl hkN) hS (fun hS => ?_)
            try go_frame
            refine wpAnyH_ready (rs := [15]) (by kernel_rfl) (by simp) (AllReadyH.cons (o := ⟨none, _, _, _, _, _⟩) rfl (fun K hK => ?_) AllReadyH.nil)
            rw [if_pos (by rfl)]
            refine store_ptW_wp rfl rfl rfl SW.out.1.2.1 SW.out.1.2.2.2 ?_
            refine hK.out _ _ trivial (fun hS => ?_)
            clear hK K
            try go_frame
            refine held_pure (i := 16) (oi := ⟨some 128, _, _, _, _, _⟩) rfl (by kernel_rfl) (by kernel_rfl) (by kernel_rfl) (fun _ _ _ h => h) (by rfl) (fun w hSw => run_idx_pt (i := q) rfl rfl rfl hqN) hS (fun hS => ?_)
            try go_frame
            refine wpAnyH_ready (rs := [17]) (by kernel_rfl) (by simp) (AllReadyH.cons (o := ⟨none, _, _, _, _, _⟩) rfl (fun K hK => ?_) AllReadyH.nil)
            rw [if_pos (by rfl)]
            refine store_ptW_wp rfl rfl rfl SW.out.2.1.1 SW.out.2.1.2.1 ?_
            refine hK.out _ _ trivial (fun hS => ?_)
            clear hK K
            try go_frame
            refine wpAnyH_done (by kernel_rfl) ?_ _
            go_wp2_with fail
            go_roundw
            case rel => exact ⟨q, congrArg (Value.int .i64) (by have := HJ.out; omega), hiq, by omega, (KP.out.trans SW.out.2.1.2.2.2 (fun _ _ e => e)), Xc, z :: Xb, E2, by rw [show P ++ (X1 ++ (Xc ++ y :: (z :: Xb ++ Q))) = (P ++ X1 ++ Xc) ++ y :: z :: (Xb ++ Q) by simp]; exact SW.out.2.1.2.2.1⟩
            case measure => simp [intOf]; omega
        · have d1 : decide ((i : Int) < (k : Int)) = false := decide_eq_false (by omega)
          have PF : Hid (PRow wr g off (P ++ (X1 ++ y :: X2 ++ Q))) := Lib.hid (by
            obtain ⟨e1, l1⟩ := hp.out
            have e2 : Xa = [] := List.eq_nil_of_length_eq_zero (by omega)
            rw [e1, e2]
            rw [e2] at hr
            simpa using hr)
          have KP := Lib.hid kp
          clear hp hr kp
          go_wp2
          exact bodyPost_ret (results_none rfl _ _ _) rfl ⟨rfl, X1 ++ y :: X2, PF.out, PZ.out, KP.out⟩
end Go.Proofs.Ytjgcpaepaocigaa
