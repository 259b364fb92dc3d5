/-
  Contracts and lemmas on which the proofs of this seat stand (several texts in one). Conditions are each theorem's own.
-/
import Derived.Test.YtobkiffiapjhgaaMa7

/-
  Contracts of layer 9's Parse, the program's and the document's, and of its Read. Conditions are each theorem's own.
-/
namespace Go.Proofs.Ytobkiffiapjhgaa
open Go.RowKit

section
variable (b : List UInt8) (A : Option Addr) (c : Nat) (w : World)
set_option maxRecDepth 100000 in
set_option maxHeartbeats 2000000 in
theorem cIparse (B : Nat) (hR : Arg w B A c b) (hB : B ≤ w.heap.size) (hl : b.length ≤ 1000000) :
    Calls Try.prog 18 #[.slice A b.length c] w fun e w' => ∃ P p, e = .returned (.tuple #[isv (prsI [] b) P p, .int .i64 (badI [] b)]) ∧ Made w w' (.slice P (prsI [] b).dat.length p) (prsI [] b).dat := by
  have hcap := hR.cap
  have hOR0 := OwnR.new w (isa isz none 0) 24
  by_cases h8 : b.length < 8
  · have d8 : decide ((b.length : Int) < 8) = true := by simp; omega
    have HE := Lib.hid (show badI [] b = 3 by rw [badI, if_pos h8])
    have HV := Lib.hid (show prsI [] b = isz by rw [prsI, HE.out]; rfl)
    go_enter Try.func18, Try.ntmps18
    go_upto_region 1 with fail
    have hOR : OwnR w 24 4 (w.alloc (.cells #[.int .i64 0, .int .i64 0, .int .i64 0, .slice none 0 0] 24)) := hOR0
    clear hOR0
    generalize w.alloc (.cells #[.int .i64 0, .int .i64 0, .int .i64 0, .slice none 0 0] 24) = W at *
    obtain ⟨old, hold, hgo⟩ := id hOR.2
    go_wp2_with (first | ((with_reducible show wpList _ _ _ (Oper.mk _ (Op.store 24 _ _) _ _ _ _ :: _) _ _); refine is_store (g := w.heap.size) (cs := isa isz none 0) rfl rfl hgo hold rfl (is_one _ _ _) ?_))
    exact bodyPost_ret (res2 rfl rfl (is_load_run (setRow_heap _ _ _ _ _ _ hgo) rfl)) rfl ⟨none, 0, by rw [HV.out, HE.out]; rfl, by rw [HV.out]; exact Made.nil _ _ (below_row hOR.b (by omega))⟩
  · have d8 : decide ((b.length : Int) < 8) = false := by simp; omega
    obtain ⟨b0, off, rfl, hbB, hcell⟩ := hR.rd (by omega)
    have kc0 := hcell 0 (by omega)
    have kc1 := hcell 1 (by omega)
    clear hcell
    have G4 := Lib.hid (show getV b 4 4 = n4 b 4 from get_four (b := b) (i := 4) (by omega))
    obtain ⟨X0, e0⟩ : ∃ x, x = byt b 0 := ⟨_, rfl⟩
    obtain ⟨X1, e1⟩ : ∃ x, x = byt b 1 := ⟨_, rfl⟩
    obtain ⟨X4, e4⟩ : ∃ x, x = n4 b 4 := ⟨_, rfl⟩
    obtain ⟨D, eD⟩ : ∃ l, l = b.drop 8 := ⟨_, rfl⟩
    have HDl := Lib.hid (show D.length = b.length - 8 by rw [eD]; simp)
    have hDD : Arg w B (cutA (some ⟨b0, off, none⟩) c 8) (c - 8) D := by rw [eD]; exact hR.cut_lo 8
    have HR := Lib.hid (show rawI b = ⟨X0, X1, X4, D⟩ by rw [rawI, e0, e1, e4, eD])
    have HW0 := Lib.hid (IntWalk.i64_in X0 (by have := byt_lo b 0; have := byt_hi b 0; omega))
    have HW1 := Lib.hid (IntWalk.i64_in X1 (by have := byt_lo b 1; have := byt_hi b 1; omega))
    rw [← e0] at kc0; rw [← e1] at kc1; rw [← e4] at G4
    clear e0 e1 e4 eD
    go_enter Try.func18, Try.ntmps18
    go_upto_region 1 with fail
    have hOR : OwnR w 24 4 (w.alloc (.cells #[.int .i64 0, .int .i64 0, .int .i64 0, .slice none 0 0] 24)) := hOR0
    clear hOR0
    generalize w.alloc (.cells #[.int .i64 0, .int .i64 0, .int .i64 0, .slice none 0 0] 24) = W at *
    obtain ⟨old, hold, hgo⟩ := id hOR.2
    have hzW := hOR.lt
    have hR1 := hR.below (hOR.b.mono hB)
    by_cases hM : 65535 < b.length
    · have dM : decide (65535 < (b.length : Int)) = true := by simp; omega
      have HE := Lib.hid (show badI [] b = 6 by rw [badI, if_neg h8, if_pos hM])
      have HV := Lib.hid (show prsI [] b = isz by rw [prsI, HE.out]; rfl)
      go_wp2_with (first | ((with_reducible show wpList _ _ _ (Oper.mk _ (Op.store 24 _ _) _ _ _ _ :: _) _ _); refine is_store (g := w.heap.size) (cs := isa isz none 0) rfl rfl hgo hold rfl (is_one _ _ _) ?_))
      exact bodyPost_ret (res2 rfl rfl (is_load_run (setRow_heap _ _ _ _ _ _ hgo) rfl)) rfl ⟨none, 0, by rw [HV.out, HE.out]; rfl, by rw [HV.out]; exact Made.nil _ _ (below_row hOR.b (by omega))⟩
    · have dM : decide (65535 < (b.length : Int)) = false := by simp; omega
      obtain ⟨RB, hRB⟩ : ∃ r, rightB [b] = r := ⟨_, rfl⟩
      have HN := Lib.hid hRB
      clear hRB
      cases RB
      · skip
        have HE := Lib.hid (show badI [] b = 5 by rw [badI, if_neg h8, if_neg hM, rightB_nil, HN.out]; rfl)
        have HV := Lib.hid (show prsI [] b = isz by rw [prsI, HE.out]; rfl)
        go_wp2_with (first | ((with_reducible show wpList _ _ _ (Oper.mk _ (Op.store 24 _ _) _ _ _ _ :: _) _ _); refine is_store (g := w.heap.size) (cs := isa isz none 0) rfl rfl hgo2 hold2 rfl (is_one _ _ _) ?_) | (go_at_call 44; refine (right_one (some ⟨W.heap.size, 0, none⟩) b 1 (W.heap.size + 1) _ (Rd2.one (World.alloc_heap_new W _) (Nat.lt_succ_self _) ((hR1.alloc (by omega) _).more (by omega))) (by simp) (by omega)).mono ?_; rintro e wq ⟨rfl, xq⟩; rw [HN.out]; have hOq := (hOR.alloc (.cells #[.slice (some ⟨b0, off, none⟩) b.length c] 22)).step xq; obtain ⟨old2, hold2, hgo2⟩ := id hOq.2))
        exact bodyPost_ret (res2 rfl rfl (is_load_run (setRow_heap _ _ _ _ _ _ hgo2) rfl)) rfl ⟨none, 0, by rw [HV.out, HE.out]; rfl, by rw [HV.out]; exact Made.nil _ _ (below_row hOq.b (by omega))⟩
      · have HE := Lib.hid (show badI [] b = 0 by rw [badI, if_neg h8, if_neg hM, rightB_nil, HN.out]; rfl)
        have HV := Lib.hid (show prsI [] b = ⟨X0, X1, X4, D⟩ by rw [prsI, if_pos HE.out, HR.out])
        go_upto_region 8 with (first
          | (go_at_call 44; refine (right_one (some ⟨W.heap.size, 0, none⟩) b 1 (W.heap.size + 1) _ (Rd2.one (World.alloc_heap_new W _) (Nat.lt_succ_self _) ((hR1.alloc (by omega) _).more (by omega))) (by simp) (by omega)).mono ?_; rintro e wq ⟨rfl, xq⟩; rw [HN.out]; have hOq := (hOR.alloc (.cells #[.slice (some ⟨b0, off, none⟩) b.length c] 22)).step xq; obtain ⟨old2, hold2, hgo2⟩ := id hOq.2)
          | (go_at_call 45; refine (get_any (some ⟨b0, off, none⟩) b c B 4 4 _ (hR.below (hOq.b.mono hB)).rd (by omega) hcap).mono ?_; rintro e w' ⟨rfl, rfl⟩; rw [show getV b 4 4 = X4 from G4.out]))
        have kc0 := kc0; have kc1 := kc1
        refine wp_region_held_drew (S := OwnR w 24 4) (by kernel_rfl) hOq.drew (fun hS => ?_)
        refine held_pure (i := 0) (oi := ⟨some 27, _, _, _, _, _⟩) rfl (by kernel_rfl) (by kernel_rfl) (by kernel_rfl) (fun _ _ _ h => h) (by rfl) (v := ?_) (fun w hSw => ?_) hS (fun hS => ?_)
        rotate_left
        · go_simp; try with_reducible rfl
        try go_frame
        refine held_pure (i := 1) (oi := ⟨some 28, _, _, _, _, _⟩) rfl (by kernel_rfl) (by kernel_rfl) (by kernel_rfl) (fun _ _ _ h => h) (by rfl) (v := Value.pointer (some ⟨b0, off, none⟩)) (fun w hSw => by go_simp; (intro hx; exfalso; first | omega | (subst hx; simp at *))) hS (fun hS => ?_)
        try go_frame
        refine held_pure (i := 2) (oi := ⟨some 29, _, _, _, _, _⟩) rfl (by kernel_rfl) (by kernel_rfl) (by kernel_rfl) (fun _ _ _ h => h) (by rfl) (fun w hSw => run_load_byte rfl rfl ((hSw.b.cell (Nat.lt_of_lt_of_le hbB hB)).trans kc0)) hS (fun hS => ?_)
        try go_frame
        refine held_pure (i := 3) (oi := ⟨some 30, _, _, _, _, _⟩) rfl (by kernel_rfl) (by kernel_rfl) (by kernel_rfl) (fun _ _ _ h => h) (by rfl) (v := .int .i64 X0) (fun w hSw => by go_simp; exact HW0.out) hS (fun hS => ?_)
        try go_frame
        refine held_pure (i := 4) (oi := ⟨some 31, _, _, _, _, _⟩) rfl (by kernel_rfl) (by kernel_rfl) (by kernel_rfl) (fun _ _ _ h => h) (by rfl) (v := ?_) (fun w hSw => ?_) hS (fun hS => ?_)
        rotate_left
        · go_simp; try with_reducible rfl
        try go_frame
        refine held_pure (i := 5) (oi := ⟨some 32, _, _, _, _, _⟩) rfl (by kernel_rfl) (by kernel_rfl) (by kernel_rfl) (fun _ _ _ h => h) (by rfl) (v := Value.pointer (some ⟨b0, off + 1, none⟩)) (fun w hSw => by go_simp; exact fun hx => absurd hx (by omega)) hS (fun hS => ?_)
        try go_frame
        refine held_pure (i := 6) (oi := ⟨some 33, _, _, _, _, _⟩) rfl (by kernel_rfl) (by kernel_rfl) (by kernel_rfl) (fun _ _ _ h => h) (by rfl) (fun w hSw => run_load_byte rfl rfl ((hSw.b.cell (Nat.lt_of_lt_of_le hbB hB)).trans kc1)) hS (fun hS => ?_)
        try go_frame
        refine held_pure (i := 7) (oi := ⟨some 34, _, _, _, _, _⟩) rfl (by kernel_rfl) (by kernel_rfl) (by kernel_rfl) (fun _ _ _ h => h) (by rfl) (v := .int .i64 X1) (fun w hSw => by go_simp; exact HW1.out) hS (fun hS => ?_)
        try go_frame
        refine held_pure (i := 8) (oi := ⟨some 35, _, _, _, _, _⟩) rfl (by kernel_rfl) (by kernel_rfl) (by kernel_rfl) (fun _ _ _ h => h) (by rfl) (v := ?_) (fun w hSw => ?_) hS (fun hS => ?_)
        rotate_left
        · go_simp; try with_reducible rfl
        try go_frame
        refine held_pure (i := 9) (oi := ⟨some 36, _, _, _, _, _⟩) rfl (by kernel_rfl) (by kernel_rfl) (by kernel_rfl) (fun _ _ _ h => h) (by rfl) (v := ?_) (fun w hSw => ?_) hS (fun hS => ?_)
        rotate_left
        · go_simp; try with_reducible rfl
        try go_frame
        refine held_pure (i := 10) (oi := ⟨some 37, _, _, _, _, _⟩) rfl (by kernel_rfl) (by kernel_rfl) (by kernel_rfl) (fun _ _ _ h => h) (by rfl) (fun w hSw => run_cut_l rfl rfl (l := 8) rfl (by omega) (m := D.length) (by have := HDl.out; omega)) hS (fun hS => ?_)
        try go_frame
        refine wpAnyH_ready (rs := [11]) (by kernel_rfl) (by simp) (AllReadyH.cons (o := ⟨some 38, _, _, _, _, _⟩) rfl (fun K hK => ?_) AllReadyH.nil)
        rw [if_pos (by rfl)]
        go_simp
        refine (freshI_any (cutA (some ⟨b0, off, none⟩) c 8) D (c - 8) B _ (hDD.below (hS.b.mono hB)) (by have := HDl.out; omega)).mono ?_
        rintro e y5 ⟨v5, rfl, m5⟩
        obtain ⟨P5, p5, rfl, g5, owm5, x5⟩ := made_shape m5
        have owm5 := own_base owm5 hS.lt
        show K _ _
        refine hK.out _ _ (hS.step x5) (fun hS => ?_)
        clear hK K
        try go_frame
        refine held_pure (i := 12) (oi := ⟨some 39, _, _, _, _, _⟩) rfl (by kernel_rfl) (by kernel_rfl) (by kernel_rfl) (fun _ _ _ h => h) (by rfl) (v := ?_) (fun w hSw => ?_) hS (fun hS => ?_)
        rotate_left
        · go_simp; try with_reducible rfl
        try go_frame
        refine wpAnyH_ready (rs := [13]) (by kernel_rfl) (by simp) (AllReadyH.cons (o := ⟨none, _, _, _, _, _⟩) rfl (fun K hK => ?_) AllReadyH.nil)
        rw [if_pos (by rfl)]
        obtain ⟨old, hold, hgo⟩ := hS.2
        have hrow := hS.row (isa ⟨X0, X1, X4, D⟩ P5 p5) rfl
        refine wp_store_row 24 _ _ rfl w.heap.size (isa ⟨X0, X1, X4, D⟩ P5 p5) rfl rfl 24 old hgo (by kernel_rfl) hold (is_one _ _ _) ?_
        have hgz := setRow_heap _ _ _ (isa ⟨X0, X1, X4, D⟩ P5 p5) _ _ hgo
        refine hK.out _ _ hrow (fun hS => ?_)
        clear hK K
        try go_frame
        refine held_pure (i := 14) (oi := ⟨some 3, _, _, _, _, _⟩) rfl (by kernel_rfl) (by kernel_rfl) (by kernel_rfl) (fun _ _ _ h => h) (by rfl) (v := ?_) (fun w hSw => ?_) hS (fun hS => ?_)
        rotate_left
        · go_simp; try with_reducible rfl
        try go_frame
        refine wpAnyH_done (by kernel_rfl) ?_ _
        go_wp2_with fail
        have oz5 := own_setRow owm5 (g := w.heap.size) (cs := isa ⟨X0, X1, X4, D⟩ P5 p5) (by omega)
        exact bodyPost_ret (res2 rfl rfl (is_load_run hgz rfl)) rfl ⟨P5, p5, by rw [HV.out, HE.out]; rfl, by rw [HV.out]; exact Made.of_own (own_base oz5 (by omega)) hS.b⟩
set_option maxRecDepth 100000 in
set_option maxHeartbeats 2000000 in
theorem rIread (B : Nat) (hR : Arg w B A c b) (hB : B ≤ w.heap.size) (hl : b.length ≤ 1000000) (h8 : 8 ≤ b.length) :
    Calls Try.prog 48 #[.slice A b.length c] w fun e w' => ∃ P p, e = .returned (isv (rawI b) P p) ∧ Made w w' (.slice P (rawI b).dat.length p) (rawI b).dat := by
  have hcap := hR.cap
  have hOR0 := OwnR.new w (isa isz none 0) 24
  obtain ⟨b0, off, rfl, hbB, hcell⟩ := hR.rd (by omega)
  have kc0 := hcell 0 (by omega)
  have kc1 := hcell 1 (by omega)
  clear hcell
  have G4 := Lib.hid (show getV b 4 4 = n4 b 4 from get_four (b := b) (i := 4) (by omega))
  obtain ⟨X0, e0⟩ : ∃ x, x = byt b 0 := ⟨_, rfl⟩
  obtain ⟨X1, e1⟩ : ∃ x, x = byt b 1 := ⟨_, rfl⟩
  obtain ⟨X4, e4⟩ : ∃ x, x = n4 b 4 := ⟨_, rfl⟩
  obtain ⟨D, eD⟩ : ∃ l, l = b.drop 8 := ⟨_, rfl⟩
  have HDl := Lib.hid (show D.length = b.length - 8 by rw [eD]; simp)
  have hDD : Arg w B (cutA (some ⟨b0, off, none⟩) c 8) (c - 8) D := by rw [eD]; exact hR.cut_lo 8
  have HR := Lib.hid (show rawI b = ⟨X0, X1, X4, D⟩ by rw [rawI, e0, e1, e4, eD])
  have HW0 := Lib.hid (IntWalk.i64_in X0 (by have := byt_lo b 0; have := byt_hi b 0; omega))
  have HW1 := Lib.hid (IntWalk.i64_in X1 (by have := byt_lo b 1; have := byt_hi b 1; omega))
  rw [← e0] at kc0; rw [← e1] at kc1; rw [← e4] at G4
  clear e0 e1 e4 eD
  rw [HR.out]
  go_enter Try.func48, Try.ntmps48
  go_upto_region 1 with fail
  have hOR : OwnR w 24 4 (w.alloc (.cells #[.int .i64 0, .int .i64 0, .int .i64 0, .slice none 0 0] 24)) := hOR0
  clear hOR0
  generalize w.alloc (.cells #[.int .i64 0, .int .i64 0, .int .i64 0, .slice none 0 0] 24) = W at *
  go_upto_region 2 with (go_at_call 63; refine (rget_any (some ⟨b0, off, none⟩) b c B 4 4 _ (hR.below (hOR.b.mono hB)).rd (by omega)).mono ?_; rintro e w' ⟨rfl, rfl⟩; rw [show getV b 4 4 = X4 from G4.out])
  refine wp_region_held_drew (S := OwnR w 24 4) (by kernel_rfl) hOR.drew (fun hS => ?_)
  refine held_pure (i := 0) (oi := ⟨some 10, _, _, _, _, _⟩) rfl (by kernel_rfl) (by kernel_rfl) (by kernel_rfl) (fun _ _ _ h => h) (by rfl) (v := ?_) (fun w hSw => ?_) hS (fun hS => ?_)
  rotate_left
  · go_simp; try with_reducible rfl
  try go_frame
  refine held_pure (i := 1) (oi := ⟨some 11, _, _, _, _, _⟩) rfl (by kernel_rfl) (by kernel_rfl) (by kernel_rfl) (fun _ _ _ h => h) (by rfl) (v := Value.pointer (some ⟨b0, off, none⟩)) (fun w hSw => by go_simp; (intro hx; exfalso; first | omega | (subst hx; simp at *))) hS (fun hS => ?_)
  try go_frame
  refine held_pure (i := 2) (oi := ⟨some 12, _, _, _, _, _⟩) rfl (by kernel_rfl) (by kernel_rfl) (by kernel_rfl) (fun _ _ _ h => h) (by rfl) (fun w hSw => run_load_byte rfl rfl ((hSw.b.cell (Nat.lt_of_lt_of_le hbB hB)).trans kc0)) hS (fun hS => ?_)
  try go_frame
  refine held_pure (i := 3) (oi := ⟨some 13, _, _, _, _, _⟩) rfl (by kernel_rfl) (by kernel_rfl) (by kernel_rfl) (fun _ _ _ h => h) (by rfl) (v := .int .i64 X0) (fun w hSw => by go_simp; exact HW0.out) hS (fun hS => ?_)
  try go_frame
  refine held_pure (i := 4) (oi := ⟨some 14, _, _, _, _, _⟩) rfl (by kernel_rfl) (by kernel_rfl) (by kernel_rfl) (fun _ _ _ h => h) (by rfl) (v := ?_) (fun w hSw => ?_) hS (fun hS => ?_)
  rotate_left
  · go_simp; try with_reducible rfl
  try go_frame
  refine held_pure (i := 5) (oi := ⟨some 15, _, _, _, _, _⟩) rfl (by kernel_rfl) (by kernel_rfl) (by kernel_rfl) (fun _ _ _ h => h) (by rfl) (v := Value.pointer (some ⟨b0, off + 1, none⟩)) (fun w hSw => by go_simp; exact fun hx => absurd hx (by omega)) hS (fun hS => ?_)
  try go_frame
  refine held_pure (i := 6) (oi := ⟨some 16, _, _, _, _, _⟩) rfl (by kernel_rfl) (by kernel_rfl) (by kernel_rfl) (fun _ _ _ h => h) (by rfl) (fun w hSw => run_load_byte rfl rfl ((hSw.b.cell (Nat.lt_of_lt_of_le hbB hB)).trans kc1)) hS (fun hS => ?_)
  try go_frame
  refine held_pure (i := 7) (oi := ⟨some 17, _, _, _, _, _⟩) rfl (by kernel_rfl) (by kernel_rfl) (by kernel_rfl) (fun _ _ _ h => h) (by rfl) (v := .int .i64 X1) (fun w hSw => by go_simp; exact HW1.out) hS (fun hS => ?_)
  try go_frame
  refine held_pure (i := 8) (oi := ⟨some 18, _, _, _, _, _⟩) rfl (by kernel_rfl) (by kernel_rfl) (by kernel_rfl) (fun _ _ _ h => h) (by rfl) (v := ?_) (fun w hSw => ?_) hS (fun hS => ?_)
  rotate_left
  · go_simp; try with_reducible rfl
  try go_frame
  refine held_pure (i := 9) (oi := ⟨some 19, _, _, _, _, _⟩) rfl (by kernel_rfl) (by kernel_rfl) (by kernel_rfl) (fun _ _ _ h => h) (by rfl) (v := ?_) (fun w hSw => ?_) hS (fun hS => ?_)
  rotate_left
  · go_simp; try with_reducible rfl
  try go_frame
  refine held_pure (i := 10) (oi := ⟨some 20, _, _, _, _, _⟩) rfl (by kernel_rfl) (by kernel_rfl) (by kernel_rfl) (fun _ _ _ h => h) (by rfl) (fun w hSw => run_cut_l rfl rfl (l := 8) rfl (by omega) (m := D.length) (by have := HDl.out; omega)) hS (fun hS => ?_)
  try go_frame
  refine wpAnyH_ready (rs := [11]) (by kernel_rfl) (by simp) (AllReadyH.cons (o := ⟨some 21, _, _, _, _, _⟩) rfl (fun K hK => ?_) AllReadyH.nil)
  rw [if_pos (by rfl)]
  refine append_wp _ _ rfl (w.heap.size + 1) (.slice none 0 0) 0 [] rfl (World.ownsRow_nil _ _ _ _) B (cutA (some ⟨b0, off, none⟩) c 8) (c - 8) D rfl hDD.none_ ((hDD.below (hS.b.mono hB)).rd) (by have := HDl.out; omega) hS.lt ?_
  intro v5 y5 own5 grow5
  obtain ⟨P5, p5, rfl, owm5⟩ := own_made (bs := D) own5 (Nat.zero_add _) (List.nil_append _)
  clear own5
  have x5 := (Below.refl _ _).grown grow5 (Nat.le_refl _) (fun k hk => by cases hk)
  clear grow5
  refine hK.out _ _ (hS.step x5) (fun hS => ?_)
  clear hK K
  try go_frame
  refine held_pure (i := 12) (oi := ⟨some 22, _, _, _, _, _⟩) rfl (by kernel_rfl) (by kernel_rfl) (by kernel_rfl) (fun _ _ _ h => h) (by rfl) (v := ?_) (fun w hSw => ?_) hS (fun hS => ?_)
  rotate_left
  · go_simp; try with_reducible rfl
  try go_frame
  refine wpAnyH_ready (rs := [13]) (by kernel_rfl) (by simp) (AllReadyH.cons (o := ⟨none, _, _, _, _, _⟩) rfl (fun K hK => ?_) AllReadyH.nil)
  rw [if_pos (by rfl)]
  obtain ⟨old, hold, hgo⟩ := hS.2
  have hrow := hS.row (isa ⟨X0, X1, X4, D⟩ P5 p5) rfl
  refine wp_store_row 24 _ _ rfl w.heap.size (isa ⟨X0, X1, X4, D⟩ P5 p5) rfl rfl 24 old hgo (by kernel_rfl) hold (is_one _ _ _) ?_
  have hgz := setRow_heap _ _ _ (isa ⟨X0, X1, X4, D⟩ P5 p5) _ _ hgo
  refine hK.out _ _ hrow (fun hS => ?_)
  clear hK K
  try go_frame
  refine wpAnyH_done (by kernel_rfl) ?_ _
  go_wp2_with fail
  have oz5 := own_setRow owm5 (g := w.heap.size) (cs := isa ⟨X0, X1, X4, D⟩ P5 p5) (Nat.lt_succ_self _)
  exact bodyPost_ret (is_result rfl rfl hgz rfl) rfl ⟨P5, p5, rfl, Made.of_own (own_base oz5 (Nat.le_succ _)) hS.b⟩
set_option maxRecDepth 100000 in
set_option maxHeartbeats 2000000 in
theorem rIparse (B : Nat) (hR : Arg w B A c b) (hB : B ≤ w.heap.size) (hl : b.length ≤ 1000000) :
    Calls Try.prog 19 #[.slice A b.length c] w fun e w' => ∃ P p, e = .returned (.tuple #[isv (prsI [] b) P p, .int .i64 (badI [] b)]) ∧ Made w w' (.slice P (prsI [] b).dat.length p) (prsI [] b).dat := by
  have hcap := hR.cap
  have hOR0 := OwnR.new w (isa isz none 0) 24
  by_cases h8 : b.length < 8
  · have d8 : decide ((b.length : Int) < 8) = true := by simp; omega
    have HE := Lib.hid (show badI [] b = 3 by rw [badI, if_pos h8])
    have HV := Lib.hid (show prsI [] b = isz by rw [prsI, HE.out]; rfl)
    go_enter Try.func19, Try.ntmps19
    go_upto_region 1 with fail
    have hOR : OwnR w 24 4 (w.alloc (.cells #[.int .i64 0, .int .i64 0, .int .i64 0, .slice none 0 0] 24)) := hOR0
    clear hOR0
    generalize w.alloc (.cells #[.int .i64 0, .int .i64 0, .int .i64 0, .slice none 0 0] 24) = W at *
    obtain ⟨old, hold, hgo⟩ := id hOR.2
    go_wp2_with (first | ((with_reducible show wpList _ _ _ (Oper.mk _ (Op.store 24 _ _) _ _ _ _ :: _) _ _); refine is_store (g := w.heap.size) (cs := isa isz none 0) rfl rfl hgo hold rfl (is_one _ _ _) ?_))
    exact bodyPost_ret (res2 rfl rfl (is_load_run (setRow_heap _ _ _ _ _ _ hgo) rfl)) rfl ⟨none, 0, by rw [HV.out, HE.out]; rfl, by rw [HV.out]; exact Made.nil _ _ (below_row hOR.b (by omega))⟩
  · have d8 : decide ((b.length : Int) < 8) = false := by simp; omega
    obtain ⟨b0, off, rfl, hbB, hcell⟩ := hR.rd (by omega)
    have kc0 := hcell 0 (by omega)
    have kc1 := hcell 1 (by omega)
    clear hcell
    have G4 := Lib.hid (show getV b 4 4 = n4 b 4 from get_four (b := b) (i := 4) (by omega))
    obtain ⟨X0, e0⟩ : ∃ x, x = byt b 0 := ⟨_, rfl⟩
    obtain ⟨X1, e1⟩ : ∃ x, x = byt b 1 := ⟨_, rfl⟩
    obtain ⟨X4, e4⟩ : ∃ x, x = n4 b 4 := ⟨_, rfl⟩
    obtain ⟨D, eD⟩ : ∃ l, l = b.drop 8 := ⟨_, rfl⟩
    have HDl := Lib.hid (show D.length = b.length - 8 by rw [eD]; simp)
    have hDD : Arg w B (cutA (some ⟨b0, off, none⟩) c 8) (c - 8) D := by rw [eD]; exact hR.cut_lo 8
    have HR := Lib.hid (show rawI b = ⟨X0, X1, X4, D⟩ by rw [rawI, e0, e1, e4, eD])
    have HW0 := Lib.hid (IntWalk.i64_in X0 (by have := byt_lo b 0; have := byt_hi b 0; omega))
    have HW1 := Lib.hid (IntWalk.i64_in X1 (by have := byt_lo b 1; have := byt_hi b 1; omega))
    rw [← e0] at kc0; rw [← e1] at kc1; rw [← e4] at G4
    clear e0 e1 e4 eD
    go_enter Try.func19, Try.ntmps19
    go_upto_region 1 with fail
    have hOR : OwnR w 24 4 (w.alloc (.cells #[.int .i64 0, .int .i64 0, .int .i64 0, .slice none 0 0] 24)) := hOR0
    clear hOR0
    generalize w.alloc (.cells #[.int .i64 0, .int .i64 0, .int .i64 0, .slice none 0 0] 24) = W at *
    obtain ⟨old, hold, hgo⟩ := id hOR.2
    have hzW := hOR.lt
    have hR1 := hR.below (hOR.b.mono hB)
    by_cases hM : 65535 < b.length
    · have dM : decide (65535 < (b.length : Int)) = true := by simp; omega
      have HE := Lib.hid (show badI [] b = 6 by rw [badI, if_neg h8, if_pos hM])
      have HV := Lib.hid (show prsI [] b = isz by rw [prsI, HE.out]; rfl)
      go_wp2_with (first | ((with_reducible show wpList _ _ _ (Oper.mk _ (Op.store 24 _ _) _ _ _ _ :: _) _ _); refine is_store (g := w.heap.size) (cs := isa isz none 0) rfl rfl hgo hold rfl (is_one _ _ _) ?_))
      exact bodyPost_ret (res2 rfl rfl (is_load_run (setRow_heap _ _ _ _ _ _ hgo) rfl)) rfl ⟨none, 0, by rw [HV.out, HE.out]; rfl, by rw [HV.out]; exact Made.nil _ _ (below_row hOR.b (by omega))⟩
    · have dM : decide (65535 < (b.length : Int)) = false := by simp; omega
      obtain ⟨RB, hRB⟩ : ∃ r, rightB [b] = r := ⟨_, rfl⟩
      have HN := Lib.hid hRB
      clear hRB
      cases RB
      · skip
        have HE := Lib.hid (show badI [] b = 5 by rw [badI, if_neg h8, if_neg hM, rightB_nil, HN.out]; rfl)
        have HV := Lib.hid (show prsI [] b = isz by rw [prsI, HE.out]; rfl)
        go_wp2_with (first | ((with_reducible show wpList _ _ _ (Oper.mk _ (Op.store 24 _ _) _ _ _ _ :: _) _ _); refine is_store (g := w.heap.size) (cs := isa isz none 0) rfl rfl hgo2 hold2 rfl (is_one _ _ _) ?_) | (go_at_call 47; refine (rright_one (some ⟨W.heap.size, 0, none⟩) b 1 (W.heap.size + 1) _ (Rd2.one (World.alloc_heap_new W _) (Nat.lt_succ_self _) ((hR1.alloc (by omega) _).more (by omega))) (by omega)).mono ?_; rintro e wq ⟨rfl, nq, rfl⟩; rw [HN.out]; have hOq := (hOR.alloc (.cells #[.slice (some ⟨b0, off, none⟩) b.length c] 22)).drewN nq; obtain ⟨old2, hold2, hgo2⟩ := id hOq.2))
        exact bodyPost_ret (res2 rfl rfl (is_load_run (setRow_heap _ _ _ _ _ _ hgo2) rfl)) rfl ⟨none, 0, by rw [HV.out, HE.out]; rfl, by rw [HV.out]; exact Made.nil _ _ (below_row hOq.b (by omega))⟩
      · have HE := Lib.hid (show badI [] b = 0 by rw [badI, if_neg h8, if_neg hM, rightB_nil, HN.out]; rfl)
        have HV := Lib.hid (show prsI [] b = ⟨X0, X1, X4, D⟩ by rw [prsI, if_pos HE.out, HR.out])
        go_wp2_with (first
          | (go_at_call 47; refine (rright_one (some ⟨W.heap.size, 0, none⟩) b 1 (W.heap.size + 1) _ (Rd2.one (World.alloc_heap_new W _) (Nat.lt_succ_self _) ((hR1.alloc (by omega) _).more (by omega))) (by omega)).mono ?_; rintro e wq ⟨rfl, nq, rfl⟩; rw [HN.out]; have hOq := (hOR.alloc (.cells #[.slice (some ⟨b0, off, none⟩) b.length c] 22)).drewN nq; obtain ⟨old2, hold2, hgo2⟩ := id hOq.2)
          | (go_at_call 48; refine (rIread b (some ⟨b0, off, none⟩) c _ B (hR.below (hOq.b.mono hB)) (by have := hOq.lt; omega) hl (by omega)).mono ?_; rintro e w5 ⟨P5, p5, rfl, m5⟩; rw [HR.out] at m5; rw [HR.out]; have hO5 := hOq.step m5.below; obtain ⟨old3, hold3, hgo3⟩ := id hO5.2; have hlq := hOq.lt; have hq0 := hOq.b)
          | ((with_reducible show wpList _ _ _ (Oper.mk _ (Op.store 24 _ _) _ _ _ _ :: _) _ _); refine is_store (g := w.heap.size) (cs := isa ⟨X0, X1, X4, D⟩ P5 p5) rfl rfl hgo3 hold3 rfl (is_one _ _ _) ?_))
        exact bodyPost_ret (res2 rfl rfl (is_load_run (setRow_heap _ _ _ _ _ _ hgo3) rfl)) rfl ⟨P5, p5, by rw [HV.out, HE.out]; rfl, by rw [HV.out]; exact m5.row hq0 hlq⟩
end
end Go.Proofs.Ytobkiffiapjhgaa

/-
  Contracts of layer 9's WithID, the program's and the document's. Conditions are each theorem's own.
-/
namespace Go.Proofs.Ytobkiffiapjhgaa
open Go.RowKit

theorem made_own {w w' : World} {P : Option Addr} {p n : Nat} {bs : List UInt8} (h : Made w w' (.slice P n p) bs) : w'.ownsRow w.heap.size 5 1 (.slice P bs.length p) bs.length (row bs) := by
  obtain ⟨A, c, e, hl, hr, ho, hb⟩ := h
  cases e
  exact ho
set_option maxRecDepth 100000 in
set_option maxHeartbeats 1000000 in
theorem cIwith (q : PI) (A : Option Addr) (c : Nat) (id : Int) (w : World) (B : Nat) (hD : Arg w B A c q.dat) (hB0 : B ≤ w.heap.size) (hl : q.dat.length ≤ 1000000) :
    Calls Try.prog 26 #[isv q A c, .int .i64 id] w fun e w' => ∃ P p, e = .returned (isv (wdI q id) P p) ∧ Made w w' (.slice P q.dat.length p) q.dat := by
  have hB : Below w.heap.size w ((w.alloc (.cells (isa q A c) 24)).alloc (.cells #[.int .i64 0, .int .i64 0, .int .i64 0, .slice none 0 0] 24)) := ((Below.refl w.heap.size w).alloc (Nat.le_refl _) _).alloc (by simp) _
  have hU0 : ((w.alloc (.cells (isa q A c) 24)).alloc (.cells #[.int .i64 0, .int .i64 0, .int .i64 0, .slice none 0 0] 24)).heap[w.heap.size]? = some (.cells (isa q A c) 24 (0, 0)) := (Below.heap_alloc (w.alloc (.cells (isa q A c) 24)) _ w.heap.size (by simp)).trans (World.alloc_heap_new w _)
  have hR0 : ((w.alloc (.cells (isa q A c) 24)).alloc (.cells #[.int .i64 0, .int .i64 0, .int .i64 0, .slice none 0 0] 24)).heap[w.heap.size + 1]? = some (.cells (isa isz none 0) 24 (0, 0)) := by
    have := World.alloc_heap_new (w.alloc (.cells (isa q A c) 24)) (.cells #[.int .i64 0, .int .i64 0, .int .i64 0, .slice none 0 0] 24)
    rwa [World.size_alloc] at this
  rw [isv_eq]
  obtain ⟨M, hM⟩ : ∃ n, n = id % 65536 := ⟨_, rfl⟩
  obtain ⟨R, hR⟩ : ∃ n, n = q.rest % 65536 := ⟨_, rfl⟩
  have HW := Lib.hid (show wdI q id = ⟨q.typ, q.code, M * 65536 + R, q.dat⟩ by rw [wdI, ← hM, ← hR])
  have hm : 0 ≤ M ∧ M ≤ 65535 := by omega
  have hr : 0 ≤ R ∧ R ≤ 65535 := by omega
  have e1 : bits .and .i64 id 65535 = M := by rw [hM]; exact and_any 16 id (by decide)
  have e2 : bits .and .i64 q.rest 65535 = R := by rw [hR]; exact and_any 16 q.rest (by decide)
  have e3 : wrap64 (M * 65536) = M * 65536 := by unfold wrap64; omega
  have e4 : bits .or .i64 (M * 65536) R = M * 65536 + R := bits_join .i64 62 (by decide) wraps_i64 16 (M * 65536) R (by omega) (by omega) (by omega) hr.1 (by omega) (by omega)
  clear hM hR
  rw [HW.out]
  go_enter Try.func26, Try.ntmps26
  go_upto_region 1 with fail
  generalize (w.alloc (.cells (isa q A c) 24)).alloc (.cells #[.int .i64 0, .int .i64 0, .int .i64 0, .slice none 0 0] 24) = W at *
  have k2 : W.cell? ⟨w.heap.size, 2, none⟩ = some (.int .i64 q.rest) := by { rw [cell_of_row _ _ _ _ _ _ hU0]; rfl }
  have f2 := heap_frozen hU0 2
  go_upto_region 2 with fail
  have hU1 := heap_setCell_same W w.heap.size 2 _ _ (.int .i64 (M * 65536 + R)) hU0
  have hU1 : (W.setCell ⟨w.heap.size, 2, none⟩ (.int .i64 (M * 65536 + R))).heap[w.heap.size]? = some (.cells (isa ⟨q.typ, q.code, M * 65536 + R, q.dat⟩ A c) 24 (0, 0)) := hU1
  have hR1 := (heap_setCell_other W ⟨w.heap.size, 2, none⟩ (w.heap.size + 1) (.int .i64 (M * 65536 + R)) (by show w.heap.size + 1 ≠ w.heap.size; omega)).trans hR0
  have hB1 := hB.setCell (p := ⟨w.heap.size, 2, none⟩) (Nat.le_refl _) (.int .i64 (M * 65536 + R))
  clear k2 f2 hU0 hR0
  generalize W.setCell ⟨w.heap.size, 2, none⟩ (.int .i64 (M * 65536 + R)) = V at *
  have k3 : V.cell? ⟨w.heap.size, 3, none⟩ = some (.slice A q.dat.length c) := by { rw [cell_of_row _ _ _ _ _ _ hU1]; rfl }
  have hz := heap_lt hR1
  have hD1 := hD.below (hB1.mono hB0)
  go_upto_region 3 with ((go_at_call 46; refine (freshI_any A q.dat c B _ hD1 (by omega)).mono ?_; rintro e w3 ⟨v3, rfl, m3⟩; obtain ⟨P, p, rfl, g3, o3, y3⟩ := made_shape m3); have x3 := m3.below; have hU3 := (x3.block w.heap.size (by omega)).trans hU1; have hR3 := (x3.block (w.heap.size + 1) hz).trans hR1; have k4 : w3.cell? ⟨w.heap.size, 3, none⟩ = some (.slice A q.dat.length c) := by { rw [cell_of_row _ _ _ _ _ _ hU3]; rfl }; have f4 := heap_frozen hU3 3)
  have hU4 := heap_setCell_same w3 w.heap.size 3 _ _ (.slice P q.dat.length p) hU3
  have hU4 : (w3.setCell ⟨w.heap.size, 3, none⟩ (.slice P q.dat.length p)).heap[w.heap.size]? = some (.cells (isa ⟨q.typ, q.code, M * 65536 + R, q.dat⟩ P p) 24 (0, 0)) := hU4
  have hR4 := (heap_setCell_other w3 ⟨w.heap.size, 3, none⟩ (w.heap.size + 1) (.slice P q.dat.length p) (by show w.heap.size + 1 ≠ w.heap.size; omega)).trans hR3
  have hB4 := (hB1.trans (x3.mono (by omega))).setCell (p := ⟨w.heap.size, 3, none⟩) (Nat.le_refl _) (.slice P q.dat.length p)
  have o4 := own_setRow (own_setCell (made_own m3) (p := ⟨w.heap.size, 3, none⟩) (u := .slice P q.dat.length p) (by show w.heap.size < _; omega)) (g := w.heap.size + 1) (cs := isa ⟨q.typ, q.code, M * 65536 + R, q.dat⟩ P p) hz
  have at4 := Atis.of_heap hU4
  clear k3 k4 f4
  go_wp2_with (first
    | ((with_reducible show wpList _ _ _ (Oper.mk _ (Op.load 24 _) _ _ _ _ :: _) _ _); refine wpList_val rfl (run_load_is rfl rfl at4 rfl) ?_)
    | ((with_reducible show wpList _ _ _ (Oper.mk _ (Op.store 24 _ _) _ _ _ _ :: _) _ _); refine is_store (g := w.heap.size + 1) (cs := isa ⟨q.typ, q.code, M * 65536 + R, q.dat⟩ P p) rfl rfl hR4 rfl rfl (is_one _ _ _) ?_))
  exact bodyPost_ret (is_result rfl rfl (setRow_heap _ _ _ _ _ _ hR4) rfl) rfl ⟨P, p, rfl, Made.of_own (own_base o4 (by omega)) (below_row hB4 (by omega))⟩
set_option maxRecDepth 100000 in
set_option maxHeartbeats 1000000 in
theorem rIwith (q : PI) (A : Option Addr) (c : Nat) (id : Int) (w : World) (B : Nat) (hD : Arg w B A c q.dat) (hB0 : B ≤ w.heap.size) (hl : q.dat.length ≤ 1000000) :
    Calls Try.prog 27 #[isv q A c, .int .i64 id] w fun e w' => ∃ P p, e = .returned (isv (wdI q id) P p) ∧ Made w w' (.slice P q.dat.length p) q.dat := by
  have hB : Below w.heap.size w ((w.alloc (.cells (isa q A c) 24)).alloc (.cells #[.int .i64 0, .int .i64 0, .int .i64 0, .slice none 0 0] 24)) := ((Below.refl w.heap.size w).alloc (Nat.le_refl _) _).alloc (by simp) _
  have hU0 : ((w.alloc (.cells (isa q A c) 24)).alloc (.cells #[.int .i64 0, .int .i64 0, .int .i64 0, .slice none 0 0] 24)).heap[w.heap.size]? = some (.cells (isa q A c) 24 (0, 0)) := (Below.heap_alloc (w.alloc (.cells (isa q A c) 24)) _ w.heap.size (by simp)).trans (World.alloc_heap_new w _)
  have hR0 : ((w.alloc (.cells (isa q A c) 24)).alloc (.cells #[.int .i64 0, .int .i64 0, .int .i64 0, .slice none 0 0] 24)).heap[w.heap.size + 1]? = some (.cells (isa isz none 0) 24 (0, 0)) := by
    have := World.alloc_heap_new (w.alloc (.cells (isa q A c) 24)) (.cells #[.int .i64 0, .int .i64 0, .int .i64 0, .slice none 0 0] 24)
    rwa [World.size_alloc] at this
  rw [isv_eq]
  obtain ⟨M, hM⟩ : ∃ n, n = id % 65536 := ⟨_, rfl⟩
  obtain ⟨R, hR⟩ : ∃ n, n = q.rest % 65536 := ⟨_, rfl⟩
  have HW := Lib.hid (show wdI q id = ⟨q.typ, q.code, R + M * 65536, q.dat⟩ by rw [wdI, ← hM, ← hR, Int.add_comm])
  have hm : 0 ≤ M ∧ M ≤ 65535 := by omega
  have hr : 0 ≤ R ∧ R ≤ 65535 := by omega
  have e1 : (wrap64 (id.tmod 65536 + 65536)).tmod 65536 = M := by rw [hM]; exact mod_val id 65536 (by decide) (by decide)
  have e2 : bits .and .i64 q.rest 65535 = R := by rw [hR]; exact and_any 16 q.rest (by decide)
  have e3 : wrap64 (M * 65536) = M * 65536 := by unfold wrap64; omega
  have e4 : wrap64 (R + M * 65536) = R + M * 65536 := by unfold wrap64; omega
  clear hM hR
  rw [HW.out]
  go_enter Try.func27, Try.ntmps27
  go_upto_region 1 with fail
  generalize (w.alloc (.cells (isa q A c) 24)).alloc (.cells #[.int .i64 0, .int .i64 0, .int .i64 0, .slice none 0 0] 24) = W at *
  have k2 : W.cell? ⟨w.heap.size, 2, none⟩ = some (.int .i64 q.rest) := by { rw [cell_of_row _ _ _ _ _ _ hU0]; rfl }
  have f2 := heap_frozen hU0 2
  go_upto_region 2 with fail
  have hU1 := heap_setCell_same W w.heap.size 2 _ _ (.int .i64 (R + M * 65536)) hU0
  have hU1 : (W.setCell ⟨w.heap.size, 2, none⟩ (.int .i64 (R + M * 65536))).heap[w.heap.size]? = some (.cells (isa ⟨q.typ, q.code, R + M * 65536, q.dat⟩ A c) 24 (0, 0)) := hU1
  have hR1 := (heap_setCell_other W ⟨w.heap.size, 2, none⟩ (w.heap.size + 1) (.int .i64 (R + M * 65536)) (by show w.heap.size + 1 ≠ w.heap.size; omega)).trans hR0
  have hB1 := hB.setCell (p := ⟨w.heap.size, 2, none⟩) (Nat.le_refl _) (.int .i64 (R + M * 65536))
  clear k2 f2 hU0 hR0
  generalize W.setCell ⟨w.heap.size, 2, none⟩ (.int .i64 (R + M * 65536)) = V at *
  have k3 : V.cell? ⟨w.heap.size, 3, none⟩ = some (.slice A q.dat.length c) := by { rw [cell_of_row _ _ _ _ _ _ hU1]; rfl }
  have hz := heap_lt hR1
  have hD1 := hD.below (hB1.mono hB0)
  go_upto_region 3 with ((at_builtin; refine append_rd rfl _ _ rfl V.heap.size (.slice none 0 0) 0 [] rfl (World.ownsRow_nil _ _ _ _) B A c q.dat rfl hD.none_ hD1.rd (by omega) (Nat.le_refl _) ?_; intro v3 w3 own3 grow3; obtain ⟨P, p, rfl, owm3⟩ := own_made (bs := q.dat) own3 (by simp) (by simp); have m3 := Made.of_own owm3 ((Below.refl V.heap.size V).grown grow3 (Nat.le_refl _) (fun k hk => by cases hk))); have x3 := m3.below; have hU3 := (x3.block w.heap.size (by omega)).trans hU1; have hR3 := (x3.block (w.heap.size + 1) hz).trans hR1; have k4 : w3.cell? ⟨w.heap.size, 3, none⟩ = some (.slice A q.dat.length c) := by { rw [cell_of_row _ _ _ _ _ _ hU3]; rfl }; have f4 := heap_frozen hU3 3)
  have hU4 := heap_setCell_same w3 w.heap.size 3 _ _ (.slice P q.dat.length p) hU3
  have hU4 : (w3.setCell ⟨w.heap.size, 3, none⟩ (.slice P q.dat.length p)).heap[w.heap.size]? = some (.cells (isa ⟨q.typ, q.code, R + M * 65536, q.dat⟩ P p) 24 (0, 0)) := hU4
  have hR4 := (heap_setCell_other w3 ⟨w.heap.size, 3, none⟩ (w.heap.size + 1) (.slice P q.dat.length p) (by show w.heap.size + 1 ≠ w.heap.size; omega)).trans hR3
  have hB4 := (hB1.trans (x3.mono (by omega))).setCell (p := ⟨w.heap.size, 3, none⟩) (Nat.le_refl _) (.slice P q.dat.length p)
  have o4 := own_setRow (own_setCell (made_own m3) (p := ⟨w.heap.size, 3, none⟩) (u := .slice P q.dat.length p) (by show w.heap.size < _; omega)) (g := w.heap.size + 1) (cs := isa ⟨q.typ, q.code, R + M * 65536, q.dat⟩ P p) hz
  have at4 := Atis.of_heap hU4
  clear k3 k4 f4
  go_wp2_with (first
    | ((with_reducible show wpList _ _ _ (Oper.mk _ (Op.load 24 _) _ _ _ _ :: _) _ _); refine wpList_val rfl (run_load_is rfl rfl at4 rfl) ?_)
    | ((with_reducible show wpList _ _ _ (Oper.mk _ (Op.store 24 _ _) _ _ _ _ :: _) _ _); refine is_store (g := w.heap.size + 1) (cs := isa ⟨q.typ, q.code, R + M * 65536, q.dat⟩ P p) rfl rfl hR4 rfl rfl (is_one _ _ _) ?_))
  exact bodyPost_ret (is_result rfl rfl (setRow_heap _ _ _ _ _ _ hR4) rfl) rfl ⟨P, p, rfl, Made.of_own (own_base o4 (by omega)) (below_row hB4 (by omega))⟩
end Go.Proofs.Ytobkiffiapjhgaa

/-
  What layer 9's laws call first: that an identifier is told. And what a built message is, or an error beside nothing. Conditions are each theorem's own.
-/
namespace Go.Proofs.Ytobkiffiapjhgaa
open Go.RowKit

theorem resI_shape {p : List UInt8} {q : PI} {w w' : World} {v : Value} (h : (chkI q ≠ 0 → v = .slice none 0 0 ∧ Below w.heap.size w w') ∧ (chkI q = 0 → Made w w' v (bldI p q))) :
    ∃ A c, v = .slice A (resI p q).length c ∧ Rd w' w'.heap.size A (resI p q) ∧ Below w.heap.size w w' := by
  by_cases hc : chkI q = 0
  · obtain ⟨A, c, rfl, hl, hr, ho, hb⟩ := h.2 hc
    exact ⟨A, c, by rw [resI, if_pos hc], by rw [resI, if_pos hc]; exact hr, hb⟩
  · obtain ⟨rfl, hb⟩ := h.1 hc
    exact ⟨none, 0, by rw [resI, if_neg hc]; rfl, by rw [resI, if_neg hc]; exact Rd.nil, hb⟩
theorem made_arg {w w' : World} {P : Option Addr} {p n : Nat} {bs : List UInt8} (h : Made w w' (.slice P n p) bs) : Arg w' w'.heap.size P p bs := by
  obtain ⟨A, c, e, ha, _, _⟩ := made_shape h
  cases e
  exact ha
def qaI : PI := ⟨8, 0, 65538, []⟩
theorem buildI_awake (w : World) : Calls Try.prog 11 #[isv qaI none 0] w fun e w' => ∃ A c, e = .returned (.tuple #[.slice A 8 c, .int .i64 0]) ∧ Arg w' w'.heap.size A c (bldI [] qaI) ∧ Below w.heap.size w w' := by
  have hc : chkI qaI = 0 := by decide
  have hlen : (bldI [] qaI).length = 8 := bldI_len [] qaI
  refine (cIbuild qaI none 0 w 0 (Arg.nil _ 0) (Nat.zero_le _) (by decide)).mono ?_
  rintro e w' ⟨v, rfl, _, hm⟩
  obtain ⟨A, c, rfl, ha, ho, hb⟩ := made_shape (hm hc)
  exact ⟨A, c, by rw [hc, hlen], ha, hb⟩
theorem parseI_awake (A : Option Addr) (c B : Nat) (w : World) (h : Arg w B A c (bldI [] qaI)) (hB : B ≤ w.heap.size) :
    Calls Try.prog 18 #[.slice A 8 c] w fun e w' => ∃ P p, e = .returned (.tuple #[isv qaI P p, .int .i64 0]) ∧ Arg w' w'.heap.size P p [] ∧ Below w.heap.size w w' := by
  have hlen : (bldI [] qaI).length = 8 := bldI_len [] qaI
  have hk := backI (p := []) (q := qaI) (by decide)
  have := cIparse (bldI [] qaI) A c w B h hB (by rw [hlen]; decide)
  rw [hk.1, hk.2, hlen] at this
  refine this.mono ?_
  rintro e w' ⟨P, p, rfl, hm⟩
  have hb := hm.below
  obtain ⟨A, c, e, ha, ho, _⟩ := made_shape hm
  cases e
  exact ⟨P, p, rfl, ha, hb⟩
theorem idI_awake (P : Option Addr) (p : Nat) (w : World) : Calls Try.prog 24 #[isv qaI P p] w fun e w' => e = .returned (.int .i64 1) ∧ Below w.heap.size w w' := cIid qaI P p w
theorem withI_awake (P : Option Addr) (p B : Nat) (w : World) (h : Arg w B P p []) (hB : B ≤ w.heap.size) : Calls Try.prog 26 #[isv qaI P p, .int .i64 5] w fun e w' => ∃ R r, e = .returned (.agg #[.int .i64 8, .int .i64 0, .int .i64 327682, .slice R 0 r]) ∧ Below w.heap.size w w' := by
  refine (cIwith qaI P p 5 w B h hB (by decide)).mono ?_
  rintro e w' ⟨R, r, rfl, hm⟩
  exact ⟨R, r, rfl, hm.below⟩
set_option maxRecDepth 100000 in
set_option maxHeartbeats 1000000 in
theorem awakeI_any (w : World) : Calls Try.prog 10 #[] w fun e w' => e = .returned (.bool true) ∧ Below w.heap.size w w' := by
  have hf : ∀ (R : Option Addr) (r : Nat) (w : World), (Instr.field 24 (.agg #[.int .i64 8, .int .i64 0, .int .i64 327682, .slice R 0 r]) 2).run Try.prog w = .ok (.int .i64 327682) w := fun _ _ _ => by kernel_rfl
  go_enter Try.func10, Try.ntmps10
  go_upto_region 3 with (first
    | (go_at_call 11; refine (buildI_awake _).mono ?_; rintro e w1 ⟨A, c, rfl, ha, x1⟩)
    | (go_at_call 18; refine (parseI_awake _ _ _ _ ha (Nat.le_refl _)).mono ?_; rintro e w2 ⟨P, p, rfl, hp, x2⟩)
    | ((with_reducible show wpList _ _ _ (Oper.mk _ (Op.store _ _ _) _ _ _ _ :: _) _ _); refine is_store_new (cs := isa qaI P p) rfl rfl rfl rfl (is_one _ _ _) ?_))
  have hAt := Atis.new (q := qaI) (A := P) (c := p) w2
  have x23 : Below w2.heap.size w2 (w2.alloc (.cells (isa qaI P p) 24)) := (Below.refl _ w2).alloc (Nat.le_refl _) _
  have hz : w2.heap.size < (w2.alloc (.cells (isa qaI P p) 24)).heap.size := by simp
  have hp3 := hp.below x23
  generalize w2.alloc (.cells (isa qaI P p) 24) = W3 at *
  have q3 : Below w.heap.size w W3 := x1.trans ((x2.trans (x23.mono x2.size)).mono x1.size)
  clear x1 x2 x23 ha hp
  go_wp2_with (first
    | ((with_reducible show wpList _ _ _ (Oper.mk (some 22) (Op.load 24 _) _ _ _ _ :: _) _ _); refine wpList_valw (by rfl) (run_load_is rfl rfl hAt rfl) ?_)
    | ((with_reducible show wpList _ _ _ (Oper.mk (some 33) (Op.load 24 _) _ _ _ _ :: _) _ _); refine wpList_valw (by rfl) (run_load_is rfl rfl hAt6 rfl) ?_)
    | (go_at_call 24; refine (idI_awake _ _ _).mono ?_; rintro e w4 ⟨rfl, x4⟩)
    | (go_at_call 22; refine (cIquery _ _).mono ?_; rintro e w5 ⟨rfl, x5⟩; rw [show qryI 8 = true from rfl])
    | (go_at_call 20; refine (cIfault _ _).mono ?_; rintro e w6 ⟨rfl, x6⟩; rw [show fltI 11 = true from rfl]; have x36 := x4.trans ((x5.trans (x6.mono x5.size)).mono x4.size); have hAt6 := hAt.below x36 hz)
    | (go_at_call 26; refine (withI_awake _ _ W3.heap.size _ ((hp3.more (by omega)).below x36) x36.size).mono ?_; rintro e w7 ⟨R, r, rfl, x7⟩))
  go_ret
  exact ⟨rfl, q3.trans ((x36.trans (x7.mono x36.size)).mono q3.size)⟩
end Go.Proofs.Ytobkiffiapjhgaa
