/-
  Contract of v4's read. Conditions are each theorem's own.
-/
import Derived.Test.YtcfcmnhnijjehaaV4E
namespace Go.Proofs.Ytcfcmnhnijjehaa
open Go.RowKit

theorem flag_one (n m : Int) (hm : 0 < m) : ((n % 2 * m) != 0) = decide (n % 2 = 1) := by
  rcases (show n % 2 = 0 ∨ n % 2 = 1 by omega) with h | h
  · simp [h]
  · simp [h]; omega
section
variable (b : List UInt8) (A : Option Addr) (c : Nat) (w : World)
set_option maxRecDepth 100000 in
set_option maxHeartbeats 2000000 in
theorem c4read (B H Z : Nat) (D : List UInt8) (hR : Arg w B A c b) (hB : B ≤ w.heap.size) (hl2 : b.length ≤ 1000000) (hH : (H : Int) = hlen b) (h20 : 20 ≤ H) (hHZ : H ≤ Z) (hZl : Z ≤ b.length) (hDd : D = (b.take Z).drop H) :
    Calls Try.prog 60 #[.slice A b.length c, .int .i64 (H : Int), .int .i64 (Z : Int)] w fun e w' => ∃ P p P' p', e = .returned (v4v (fl4 b D) P p P' p') ∧ Made w w' (.slice P (fl4 b D).opt.length p) (fl4 b D).opt ∧ Made w w' (.slice P' (fl4 b D).dat.length p') (fl4 b D).dat := by
  have hcap := hR.cap
  have hOR0 := OwnR.new w (v4a p4z none 0 none 0) 24
  obtain ⟨O, hOd⟩ : ∃ l, l = (b.take H).drop 20 := ⟨_, rfl⟩
  have hO : Arg w B (cutA A c 20) (c - 20) O := by rw [hOd]; exact hR.cut 20 H (by omega)
  have hD : Arg w B (cutA A c H) (c - H) D := by rw [hDd]; exact hR.cut H Z hZl
  have HOl := Lib.hid (show O.length = H - 20 by rw [hOd]; simp; omega)
  have HDl := Lib.hid (show D.length = Z - H by rw [hDd]; simp; omega)
  have G6 := Lib.hid (show getV b 6 2 = n2 b 6 from get_two (b := b) (i := 6) (by omega))
  have G1 := Lib.hid (show getV b 1 1 = byt b 1 from get_one (b := b) (i := 1) (by omega))
  have G4 := Lib.hid (show getV b 4 2 = n2 b 4 from get_two (b := b) (i := 4) (by omega))
  have G8 := Lib.hid (show getV b 8 1 = byt b 8 from get_one (b := b) (i := 8) (by omega))
  have G9 := Lib.hid (show getV b 9 1 = byt b 9 from get_one (b := b) (i := 9) (by omega))
  have G12 := Lib.hid (show getV b 12 4 = n4 b 12 from get_four (b := b) (i := 12) (by omega))
  have G16 := Lib.hid (show getV b 16 4 = n4 b 16 from get_four (b := b) (i := 16) (by omega))
  have hx := n2_bd b 6
  obtain ⟨X, hX⟩ : ∃ n, n = n2 b 6 := ⟨_, rfl⟩
  have HQ := Lib.hid (show fl4 b D = ⟨byt b 1, n2 b 4, X % 8192 * 8, byt b 8, byt b 9, n4 b 12, n4 b 16, decide (X / 16384 % 2 = 1), decide (X / 8192 % 2 = 1), O, D⟩ by rw [fl4, ← hH, ← hX, hOd]; rfl)
  rw [← hX] at G6 hx
  clear hX hOd hDd hH
  have HA := Lib.hid (show bits .and .i64 X 8191 = X % 8192 from and_mask 13 X hx.1 (by omega) (by decide))
  have HW := Lib.hid (IntWalk.i64_in (X % 8192 * 8) (by omega))
  have HB1 := Lib.hid (show bits .and .i64 X 16384 = X / 16384 % 2 * 16384 from and_bit 14 X hx.1 (by omega) (by decide))
  have HB2 := Lib.hid (show bits .and .i64 X 8192 = X / 8192 % 2 * 8192 from and_bit 13 X hx.1 (by omega) (by decide))
  have HC1 := Lib.hid (flag_one (X / 16384) 16384 (by decide))
  have HC2 := Lib.hid (flag_one (X / 8192) 8192 (by decide))
  rw [HQ.out]
  go_enter Try.func60, Try.ntmps60
  go_upto_region 1 with fail
  have hOR : OwnR w 24 11 (w.alloc (.cells #[.int .i64 0, .int .i64 0, .int .i64 0, .int .i64 0, .int .i64 0, .int .i64 0, .int .i64 0, .bool false, .bool false, .slice none 0 0, .slice none 0 0] 24)) := hOR0
  clear hOR0
  generalize w.alloc (.cells #[.int .i64 0, .int .i64 0, .int .i64 0, .int .i64 0, .int .i64 0, .int .i64 0, .int .i64 0, .bool false, .bool false, .slice none 0 0, .slice none 0 0] 24) = W at *
  go_upto_region 2 with (go_at_call 78; ((with_reducible refine (get4_any A b c B 6 2 _ (hR.below (hOR.b.mono hB)).rd (by omega) hR.cap).mono ?_); rintro e w' ⟨rfl, rfl⟩; rw [show getV b 6 2 = X from G6.out]))
  refine wp_region_held_drew (S := OwnR w 24 11) (by kernel_rfl) hOR.drew (fun hS => ?_)
  refine held_pure (i := 0) (oi := ⟨some 10, _, _, _, _, _⟩) rfl (by kernel_rfl) (by kernel_rfl) (by kernel_rfl) (fun _ _ _ h => h) (by rfl) (v := ?_) (fun w hSw => ?_) hS (fun hS => ?_)
  rotate_left
  · go_simp; try with_reducible rfl
  try go_frame
  refine held_pure (i := 2) (oi := ⟨some 12, _, _, _, _, _⟩) rfl (by kernel_rfl) (by kernel_rfl) (by kernel_rfl) (fun _ _ _ h => h) (by rfl) (v := ?_) (fun w hSw => ?_) hS (fun hS => ?_)
  rotate_left
  · go_simp; try with_reducible rfl
  try go_frame
  refine held_pure (i := 4) (oi := ⟨some 14, _, _, _, _, _⟩) rfl (by kernel_rfl) (by kernel_rfl) (by kernel_rfl) (fun _ _ _ h => h) (by rfl) (v := ?_) (fun w hSw => ?_) hS (fun hS => ?_)
  rotate_left
  · go_simp; try with_reducible rfl
  try go_frame
  refine held_pure (i := 5) (oi := ⟨some 15, _, _, _, _, _⟩) rfl (by kernel_rfl) (by kernel_rfl) (by kernel_rfl) (fun _ _ _ h => h) (by rfl) (v := .int .i64 (X % 8192)) (fun w hSw => by go_simp; exact HA.out) hS (fun hS => ?_)
  try go_frame
  refine held_pure (i := 6) (oi := ⟨some 16, _, _, _, _, _⟩) rfl (by kernel_rfl) (by kernel_rfl) (by kernel_rfl) (fun _ _ _ h => h) (by rfl) (v := .int .i64 (X % 8192 * 8)) (fun w hSw => by go_simp; try exact HW.out) hS (fun hS => ?_)
  try go_frame
  refine held_pure (i := 7) (oi := ⟨some 17, _, _, _, _, _⟩) rfl (by kernel_rfl) (by kernel_rfl) (by kernel_rfl) (fun _ _ _ h => h) (by rfl) (v := ?_) (fun w hSw => ?_) hS (fun hS => ?_)
  rotate_left
  · go_simp; try with_reducible rfl
  try go_frame
  refine held_pure (i := 9) (oi := ⟨some 19, _, _, _, _, _⟩) rfl (by kernel_rfl) (by kernel_rfl) (by kernel_rfl) (fun _ _ _ h => h) (by rfl) (v := ?_) (fun w hSw => ?_) hS (fun hS => ?_)
  rotate_left
  · go_simp; try with_reducible rfl
  try go_frame
  refine held_pure (i := 11) (oi := ⟨some 21, _, _, _, _, _⟩) rfl (by kernel_rfl) (by kernel_rfl) (by kernel_rfl) (fun _ _ _ h => h) (by rfl) (v := ?_) (fun w hSw => ?_) hS (fun hS => ?_)
  rotate_left
  · go_simp; try with_reducible rfl
  try go_frame
  refine held_pure (i := 13) (oi := ⟨some 23, _, _, _, _, _⟩) rfl (by kernel_rfl) (by kernel_rfl) (by kernel_rfl) (fun _ _ _ h => h) (by rfl) (v := ?_) (fun w hSw => ?_) hS (fun hS => ?_)
  rotate_left
  · go_simp; try with_reducible rfl
  try go_frame
  refine held_pure (i := 15) (oi := ⟨some 25, _, _, _, _, _⟩) rfl (by kernel_rfl) (by kernel_rfl) (by kernel_rfl) (fun _ _ _ h => h) (by rfl) (v := ?_) (fun w hSw => ?_) hS (fun hS => ?_)
  rotate_left
  · go_simp; try with_reducible rfl
  try go_frame
  refine held_pure (i := 16) (oi := ⟨some 26, _, _, _, _, _⟩) rfl (by kernel_rfl) (by kernel_rfl) (by kernel_rfl) (fun _ _ _ h => h) (by rfl) (v := .int .i64 (X / 16384 % 2 * 16384)) (fun w hSw => by go_simp; exact HB1.out) hS (fun hS => ?_)
  try go_frame
  refine held_pure (i := 17) (oi := ⟨some 27, _, _, _, _, _⟩) rfl (by kernel_rfl) (by kernel_rfl) (by kernel_rfl) (fun _ _ _ h => h) (by rfl) (v := .bool (decide (X / 16384 % 2 = 1))) (fun w hSw => by go_simp; exact HC1.out) hS (fun hS => ?_)
  try go_frame
  refine held_pure (i := 18) (oi := ⟨some 28, _, _, _, _, _⟩) rfl (by kernel_rfl) (by kernel_rfl) (by kernel_rfl) (fun _ _ _ h => h) (by rfl) (v := ?_) (fun w hSw => ?_) hS (fun hS => ?_)
  rotate_left
  · go_simp; try with_reducible rfl
  try go_frame
  refine held_pure (i := 19) (oi := ⟨some 29, _, _, _, _, _⟩) rfl (by kernel_rfl) (by kernel_rfl) (by kernel_rfl) (fun _ _ _ h => h) (by rfl) (v := .int .i64 (X / 8192 % 2 * 8192)) (fun w hSw => by go_simp; exact HB2.out) hS (fun hS => ?_)
  try go_frame
  refine held_pure (i := 20) (oi := ⟨some 30, _, _, _, _, _⟩) rfl (by kernel_rfl) (by kernel_rfl) (by kernel_rfl) (fun _ _ _ h => h) (by rfl) (v := .bool (decide (X / 8192 % 2 = 1))) (fun w hSw => by go_simp; exact HC2.out) hS (fun hS => ?_)
  try go_frame
  refine held_pure (i := 21) (oi := ⟨some 31, _, _, _, _, _⟩) rfl (by kernel_rfl) (by kernel_rfl) (by kernel_rfl) (fun _ _ _ h => h) (by rfl) (v := ?_) (fun w hSw => ?_) hS (fun hS => ?_)
  rotate_left
  · go_simp; try with_reducible rfl
  try go_frame
  refine held_pure (i := 22) (oi := ⟨some 32, _, _, _, _, _⟩) rfl (by kernel_rfl) (by kernel_rfl) (by kernel_rfl) (fun _ _ _ h => h) (by rfl) (v := ?_) (fun w hSw => ?_) hS (fun hS => ?_)
  rotate_left
  · go_simp; try with_reducible rfl
  try go_frame
  refine held_pure (i := 23) (oi := ⟨some 33, _, _, _, _, _⟩) rfl (by kernel_rfl) (by kernel_rfl) (by kernel_rfl) (fun _ _ _ h => h) (by rfl) (fun w hSw => run_cut_lh rfl rfl rfl rfl (l := 20) (h := (H : Int)) (by omega) (by omega) (by omega) (m := O.length) (by have := HOl.out; omega)) hS (fun hS => ?_)
  try go_frame
  refine held_pure (i := 25) (oi := ⟨some 35, _, _, _, _, _⟩) rfl (by kernel_rfl) (by kernel_rfl) (by kernel_rfl) (fun _ _ _ h => h) (by rfl) (v := ?_) (fun w hSw => ?_) hS (fun hS => ?_)
  rotate_left
  · go_simp; try with_reducible rfl
  try go_frame
  refine held_pure (i := 26) (oi := ⟨some 36, _, _, _, _, _⟩) rfl (by kernel_rfl) (by kernel_rfl) (by kernel_rfl) (fun _ _ _ h => h) (by rfl) (v := ?_) (fun w hSw => ?_) hS (fun hS => ?_)
  rotate_left
  · go_simp; try with_reducible rfl
  try go_frame
  refine held_pure (i := 27) (oi := ⟨some 37, _, _, _, _, _⟩) rfl (by kernel_rfl) (by kernel_rfl) (by kernel_rfl) (fun _ _ _ h => h) (by rfl) (v := ?_) (fun w hSw => ?_) hS (fun hS => ?_)
  rotate_left
  · go_simp; try with_reducible rfl
  try go_frame
  refine held_pure (i := 28) (oi := ⟨some 38, _, _, _, _, _⟩) rfl (by kernel_rfl) (by kernel_rfl) (by kernel_rfl) (fun _ _ _ h => h) (by rfl) (fun w hSw => run_cut_lh rfl rfl rfl rfl (l := (H : Int)) (h := (Z : Int)) (by omega) (by omega) (by omega) (m := D.length) (by have := HDl.out; omega)) hS (fun hS => ?_)
  try go_frame
  refine wpAnyH_ready (rs := [1]) (by kernel_rfl) (by simp) (AllReadyH.cons (o := ⟨some 11, _, _, _, _, _⟩) rfl (fun K hK => ?_) AllReadyH.nil)
  rw [if_pos (by rfl)]
  go_simp
  refine (get4_any A b c B 1 1 _ (hR.below (hS.b.mono hB)).rd (by omega) hR.cap).mono ?_
  rintro e w1 ⟨rfl, rfl⟩
  rw [show getV b 1 1 = byt b 1 from G1.out]
  show K _ _
  refine hK.out _ _ hS (fun hS => ?_)
  clear hK K
  try go_frame
  refine wpAnyH_ready (rs := [3]) (by kernel_rfl) (by simp) (AllReadyH.cons (o := ⟨some 13, _, _, _, _, _⟩) rfl (fun K hK => ?_) AllReadyH.nil)
  rw [if_pos (by rfl)]
  go_simp
  refine (get4_any A b c B 4 2 _ (hR.below (hS.b.mono hB)).rd (by omega) hR.cap).mono ?_
  rintro e w3 ⟨rfl, rfl⟩
  rw [show getV b 4 2 = n2 b 4 from G4.out]
  show K _ _
  refine hK.out _ _ hS (fun hS => ?_)
  clear hK K
  try go_frame
  refine wpAnyH_ready (rs := [8]) (by kernel_rfl) (by simp) (AllReadyH.cons (o := ⟨some 18, _, _, _, _, _⟩) rfl (fun K hK => ?_) AllReadyH.nil)
  rw [if_pos (by rfl)]
  go_simp
  refine (get4_any A b c B 8 1 _ (hR.below (hS.b.mono hB)).rd (by omega) hR.cap).mono ?_
  rintro e w8 ⟨rfl, rfl⟩
  rw [show getV b 8 1 = byt b 8 from G8.out]
  show K _ _
  refine hK.out _ _ hS (fun hS => ?_)
  clear hK K
  try go_frame
  refine wpAnyH_ready (rs := [10]) (by kernel_rfl) (by simp) (AllReadyH.cons (o := ⟨some 20, _, _, _, _, _⟩) rfl (fun K hK => ?_) AllReadyH.nil)
  rw [if_pos (by rfl)]
  go_simp
  refine (get4_any A b c B 9 1 _ (hR.below (hS.b.mono hB)).rd (by omega) hR.cap).mono ?_
  rintro e w10 ⟨rfl, rfl⟩
  rw [show getV b 9 1 = byt b 9 from G9.out]
  show K _ _
  refine hK.out _ _ hS (fun hS => ?_)
  clear hK K
  try go_frame
  refine wpAnyH_ready (rs := [12]) (by kernel_rfl) (by simp) (AllReadyH.cons (o := ⟨some 22, _, _, _, _, _⟩) rfl (fun K hK => ?_) AllReadyH.nil)
  rw [if_pos (by rfl)]
  go_simp
  refine (get4_any A b c B 12 4 _ (hR.below (hS.b.mono hB)).rd (by omega) hR.cap).mono ?_
  rintro e w12 ⟨rfl, rfl⟩
  rw [show getV b 12 4 = n4 b 12 from G12.out]
  show K _ _
  refine hK.out _ _ hS (fun hS => ?_)
  clear hK K
  try go_frame
  refine wpAnyH_ready (rs := [14]) (by kernel_rfl) (by simp) (AllReadyH.cons (o := ⟨some 24, _, _, _, _, _⟩) rfl (fun K hK => ?_) AllReadyH.nil)
  rw [if_pos (by rfl)]
  go_simp
  refine (get4_any A b c B 16 4 _ (hR.below (hS.b.mono hB)).rd (by omega) hR.cap).mono ?_
  rintro e w14 ⟨rfl, rfl⟩
  rw [show getV b 16 4 = n4 b 16 from G16.out]
  show K _ _
  refine hK.out _ _ hS (fun hS => ?_)
  clear hK K
  try go_frame
  refine wpAnyH_ready (rs := [24]) (by kernel_rfl) (by simp) (AllReadyH.cons (o := ⟨some 34, _, _, _, _, _⟩) rfl (fun K hK => ?_) AllReadyH.nil)
  rw [if_pos (by rfl)]
  refine append_wp _ _ rfl (w.heap.size + 1) (.slice none 0 0) 0 [] rfl (World.ownsRow_nil _ _ _ _) B (cutA A c 20) _ O rfl (hO.none_) ((hO.below (hS.b.mono hB)).rd) (by have := HOl.out; have := HDl.out; omega) hS.lt ?_
  intro v5 y5 own5 grow5
  obtain ⟨P5, p5, rfl, owm5⟩ := own_made (bs := O) own5 (Nat.zero_add _) (List.nil_append _)
  clear own5
  have x5 := (Below.refl _ _).grown grow5 (Nat.le_refl _) (fun k hk => by cases hk)
  clear grow5
  refine hK.out _ _ (hS.step x5) (fun hS => ?_)
  clear hK K
  try go_frame
  refine wpAnyH_ready (rs := [29]) (by kernel_rfl) (by simp) (AllReadyH.cons (o := ⟨some 39, _, _, _, _, _⟩) rfl (fun K hK => ?_) AllReadyH.nil)
  rw [if_pos (by rfl)]
  refine append_wp _ _ rfl (w.heap.size + 1) (.slice none 0 0) 0 [] rfl (World.ownsRow_nil _ _ _ _) B (cutA A c H) _ D rfl (hD.none_) ((hD.below (hS.b.mono hB)).rd) (by have := HOl.out; have := HDl.out; omega) hS.lt ?_
  intro v6 y6 own6 grow6
  obtain ⟨P6, p6, rfl, owm6⟩ := own_made (bs := D) own6 (Nat.zero_add _) (List.nil_append _)
  clear own6
  have x6 := (Below.refl _ _).grown grow6 (Nat.le_refl _) (fun k hk => by cases hk)
  clear grow6
  refine hK.out _ _ (hS.step x6) (fun hS => ?_)
  clear hK K
  try go_frame
  refine held_pure (i := 30) (oi := ⟨some 40, _, _, _, _, _⟩) rfl (by kernel_rfl) (by kernel_rfl) (by kernel_rfl) (fun _ _ _ h => h) (by rfl) (v := ?_) (fun w hSw => ?_) hS (fun hS => ?_)
  rotate_left
  · go_simp; try with_reducible rfl
  try go_frame
  refine wpAnyH_ready (rs := [31]) (by kernel_rfl) (by simp) (AllReadyH.cons (o := ⟨none, _, _, _, _, _⟩) rfl (fun K hK => ?_) AllReadyH.nil)
  rw [if_pos (by rfl)]
  obtain ⟨old, hold, hgo⟩ := hS.2
  have hrow := hS.row (v4a ⟨byt b 1, n2 b 4, X % 8192 * 8, byt b 8, byt b 9, n4 b 12, n4 b 16, decide (X / 16384 % 2 = 1), decide (X / 8192 % 2 = 1), O, D⟩ P5 p5 P6 p6) rfl
  refine wp_store_row 24 _ _ rfl w.heap.size (v4a ⟨byt b 1, n2 b 4, X % 8192 * 8, byt b 8, byt b 9, n4 b 12, n4 b 16, decide (X / 16384 % 2 = 1), decide (X / 8192 % 2 = 1), O, D⟩ P5 p5 P6 p6) rfl rfl 24 old hgo (by kernel_rfl) hold (by simp [v4a, Value.oneCell']) ?_
  have hgz := setRow_heap _ _ _ (v4a ⟨byt b 1, n2 b 4, X % 8192 * 8, byt b 8, byt b 9, n4 b 12, n4 b 16, decide (X / 16384 % 2 = 1), decide (X / 8192 % 2 = 1), O, D⟩ P5 p5 P6 p6) _ _ hgo
  refine hK.out _ _ hrow (fun hS => ?_)
  clear hK K
  try go_frame
  refine wpAnyH_done (by kernel_rfl) ?_ _
  go_wp2_with fail
  have oz5 := own_setRow (own_below owm5 x6) (g := w.heap.size) (cs := v4a ⟨byt b 1, n2 b 4, X % 8192 * 8, byt b 8, byt b 9, n4 b 12, n4 b 16, decide (X / 16384 % 2 = 1), decide (X / 8192 % 2 = 1), O, D⟩ P5 p5 P6 p6) (Nat.lt_succ_self _)
  have oz6 := own_setRow owm6 (g := w.heap.size) (cs := v4a ⟨byt b 1, n2 b 4, X % 8192 * 8, byt b 8, byt b 9, n4 b 12, n4 b 16, decide (X / 16384 % 2 = 1), decide (X / 8192 % 2 = 1), O, D⟩ P5 p5 P6 p6) (Nat.lt_succ_self _)
  exact bodyPost_ret (v4_result rfl rfl hgz rfl) rfl ⟨P5, p5, P6, p6, rfl, Made.of_own (own_base oz5 (Nat.le_succ _)) hS.b, Made.of_own (own_base oz6 (Nat.le_succ _)) hS.b⟩
end
end Go.Proofs.Ytcfcmnhnijjehaa
