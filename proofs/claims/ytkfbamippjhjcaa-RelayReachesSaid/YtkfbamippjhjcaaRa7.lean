/-
  Contracts and lemmas on which the proofs of this seat stand (several texts in one). Conditions are each theorem's own.
-/
import Derived.Test.YtkfbamippjhjcaaRa6
import Derived.Test.YtkfbamippjhjcaaRa4
import Derived.Test.YtkfbamippjhjcaaRa2

/-
  Contract of v4's layout. Conditions are each theorem's own.
-/
namespace Go.Proofs.Ytkfbamippjhjcaa
open Go.RowKit

/-- What is wrong with the numbers of a head; nothing: 0. -/
def lay4 (b : List UInt8) (quoted : Bool) : Int :=
  if b.length < 20 then 3
  else if byt b 0 / 16 ≠ 4 ∨ hlen b < 20 then 4
  else if hlen b > (b.length : Int) ∨ (quoted = false ∧ n2 b 2 > (b.length : Int)) then 3
  else if n2 b 2 < hlen b ∨ n2 b 6 ≥ 32768 then 4
  else 0
theorem and_two (a k : Nat) : a &&& 2 ^ k = (if a.testBit k then 2 ^ k else 0) := by
  refine Nat.eq_of_testBit_eq fun i => ?_
  rw [Nat.testBit_and, Nat.testBit_two_pow]
  rcases Nat.decEq k i with h | h
  · cases hb : a.testBit k <;> simp [h]
  · subst h; cases hb : a.testBit k <;> simp
theorem and_bit (k : Nat) (n : Int) (h0 : 0 ≤ n) (h1 : n ≤ 9223372036854775807) (hk : k ≤ 62) : bits .and .i64 n (2 ^ k) = n / 2 ^ k % 2 * 2 ^ k := by
  obtain ⟨a, rfl⟩ := Int.eq_ofNat_of_zero_le h0
  have hc : ((2 : Int) ^ k) = ((2 ^ k : Nat) : Int) := by simp
  have hp : 2 ^ k < 2 ^ 63 := Nat.pow_lt_pow_right (by decide) (by omega)
  rw [hc, (bits_nat .i64 63 (by decide) wraps63 a (2 ^ k) (by omega) hp).1]
  have e : ((a : Int) / ((2 ^ k : Nat) : Int)) % 2 = ((a / 2 ^ k % 2 : Nat) : Int) := rfl
  rw [e, and_two a k, Nat.testBit_eq_decide_div_mod_eq]
  rcases Nat.mod_two_eq_zero_or_one (a / 2 ^ k) with h | h <;> simp [h]
def layV (n s k : Int) : Value := .tuple #[.int .i64 (if k = 0 then n else 0), .int .i64 (if k = 0 then s else 0), .int .i64 k]
set_option maxRecDepth 100000 in
set_option maxHeartbeats 1000000 in
theorem c4layout (b : List UInt8) (A : Option Addr) (c B : Nat) (quoted : Bool) (w : World) (hR : Arg w B A c b) (hl : b.length ≤ 1000000) :
    Calls Try.prog 56 #[.slice A b.length c, .bool quoted] w fun e w' => e = .returned (layV (hlen b) (min (n2 b 2) (b.length : Int)) (lay4 b quoted)) ∧ w = w' := by
  have hcap := hR.cap
  go_enter Try.func56, Try.ntmps56
  by_cases h20 : b.length < 20
  · have d20 : decide ((b.length : Int) < 20) = true := by simp; omega
    have HL := Lib.hid (show lay4 b quoted = 3 by rw [lay4, if_pos h20])
    go_wp2_with fail
    go_ret3
    exact ⟨by rw [HL.out]; rfl, rfl⟩
  · have d20 : decide ((b.length : Int) < 20) = false := by simp; omega
    have G0 := Lib.hid (show getV b 0 1 = byt b 0 from get_one (b := b) (i := 0) (by omega))
    have b0 := byt_lo b 0; have b1 := byt_hi b 0
    obtain ⟨F, hF⟩ : ∃ n, n = byt b 0 := ⟨_, rfl⟩
    have HH := Lib.hid (show hlen b = F % 16 * 4 by rw [hF]; rfl)
    rw [← hF] at G0 b0 b1
    have HF := Lib.hid hF
    clear hF
    have hA : bits .and .i64 F 15 = F % 16 := and_mask 4 F b0 (by omega) (by decide)
    by_cases h4 : F / 16 = 4
    · by_cases h5 : F % 16 < 5
      · have HL := Lib.hid (show lay4 b quoted = 4 by rw [lay4, if_neg h20, if_pos (.inr (by rw [HH.out]; omega))])
        have d4 : (F / 16 != 4) = false := by simp [h4]
        have d5 : decide (F % 16 < 5) = true := by simpa using h5
        go_wp2_with (first
      | (go_at_call 80; go_loud ((with_reducible refine (get4_any A b c B 0 1 _ hR.rd (by omega) hR.cap).mono ?_); rintro e w' ⟨rfl, rfl⟩; rw [show getV b 0 1 = F from G0.out])))
        go_ret3
        exact ⟨by rw [HL.out]; rfl, rfl⟩
      · have d4 : (F / 16 != 4) = false := by simp [h4]
        have d5 : decide (F % 16 < 5) = false := by simpa using h5
        go_upto_region 6 with (first
      | (go_at_call 80; go_loud ((with_reducible refine (get4_any A b c B 0 1 _ hR.rd (by omega) hR.cap).mono ?_); rintro e w' ⟨rfl, rfl⟩; rw [show getV b 0 1 = F from G0.out])))
        have z0 := n2_bd b 2
        have G2 := Lib.hid (show getV b 2 2 = n2 b 2 from get_two (b := b) (i := 2) (by omega))
        obtain ⟨Z, hZ⟩ : ∃ n, n = n2 b 2 := ⟨_, rfl⟩
        rw [← hZ] at G2 z0
        have x0 := n2_bd b 6
        have G6 := Lib.hid (show getV b 6 2 = n2 b 6 from get_two (b := b) (i := 6) (by omega))
        obtain ⟨X, hX⟩ : ∃ n, n = n2 b 6 := ⟨_, rfl⟩
        rw [← hX] at G6 x0
        have HZ := Lib.hid hZ
        have HX := Lib.hid hX
        clear hZ hX
        have HW := Lib.hid (IntWalk.i64_in (F % 16 * 4) (by omega))
        go_upto_region 7 with (first
      | (go_at_call 80; go_loud ((with_reducible refine (get4_any A b c B 2 2 _ hR.rd (by omega) hR.cap).mono ?_); rintro e w' ⟨rfl, rfl⟩; rw [show getV b 2 2 = Z from G2.out])))
        have HB := Lib.hid (show bits .and .i64 X 32768 = X / 32768 % 2 * 32768 from and_bit 15 X x0.1 (by omega) (by decide))
        rcases quoted with _ | _
        · skip
          rcases Int.lt_or_le (b.length : Int) (F % 16 * 4) with k1 | k1
          · have d1 : decide ((b.length : Int) < F % 16 * 4) = true := by simpa using k1
            have HL := Lib.hid (show lay4 b false = 3 by rw [lay4, if_neg h20, if_neg (by rw [← HF.out, HH.out]; omega), if_pos (.inl (by rw [HH.out]; omega))])
            go_wp2_with fail
            go_ret3
            exact ⟨by rw [HL.out]; rfl, rfl⟩
          · have d1 : decide ((b.length : Int) < F % 16 * 4) = false := by simpa using k1
            rcases Int.lt_or_le (b.length : Int) Z with k2 | k2
            · have d2 : decide ((b.length : Int) < Z) = true := by simpa using k2
              have HL := Lib.hid (show lay4 b false = 3 by rw [lay4, if_neg h20, if_neg (by rw [← HF.out, HH.out]; omega), if_pos (.inr ⟨rfl, by rw [← HZ.out]; omega⟩)])
              go_wp2_with fail
              go_ret3
              exact ⟨by rw [HL.out]; rfl, rfl⟩
            · have d2 : decide ((b.length : Int) < Z) = false := by simpa using k2
              rcases Int.lt_or_le Z (F % 16 * 4) with k3 | k3
              · have d3 : decide (Z < F % 16 * 4) = true := by simpa using k3
                have HL := Lib.hid (show lay4 b false = 4 by rw [lay4, if_neg h20, if_neg (by rw [← HF.out, HH.out]; omega), if_neg (by rw [HH.out, ← HZ.out]; simp; omega), if_pos (by rw [HH.out, ← HZ.out, ← HX.out]; omega)])
                go_wp2_with fail
                go_ret3
                exact ⟨by rw [HL.out]; rfl, rfl⟩
              · have d3 : decide (Z < F % 16 * 4) = false := by simpa using k3
                rcases Int.lt_or_le X 32768 with k4 | k4
                · have hX : bits .and .i64 X 32768 = 0 := by rw [HB.out]; omega
                  have HL := Lib.hid (show lay4 b false = 0 by rw [lay4, if_neg h20, if_neg (by rw [← HF.out, HH.out]; omega), if_neg (by rw [HH.out, ← HZ.out]; simp; omega), if_neg (by rw [HH.out, ← HZ.out, ← HX.out]; omega)])
                  go_wp2_with (first
                        | (go_at_call 80; go_loud ((with_reducible refine (get4_any A b c B 6 2 _ hR.rd (by omega) hR.cap).mono ?_); rintro e w' ⟨rfl, rfl⟩; rw [show getV b 6 2 = X from G6.out])))
                  go_ret3
                  exact ⟨by rw [HL.out]; rw [HH.out, ← HZ.out, show min Z (b.length : Int) = Z by omega]; rfl, rfl⟩
                · have hX : bits .and .i64 X 32768 = 32768 := by rw [HB.out]; omega
                  have HL := Lib.hid (show lay4 b false = 4 by rw [lay4, if_neg h20, if_neg (by rw [← HF.out, HH.out]; omega), if_neg (by rw [HH.out, ← HZ.out]; simp; omega), if_pos (by rw [HH.out, ← HZ.out, ← HX.out]; omega)])
                  go_wp2_with (first
                        | (go_at_call 80; go_loud ((with_reducible refine (get4_any A b c B 6 2 _ hR.rd (by omega) hR.cap).mono ?_); rintro e w' ⟨rfl, rfl⟩; rw [show getV b 6 2 = X from G6.out])))
                  go_ret3
                  exact ⟨by rw [HL.out]; rfl, rfl⟩
        · rcases Int.lt_or_le (b.length : Int) Z with k0 | k0
          · skip
            rcases Int.lt_or_le (b.length : Int) (F % 16 * 4) with k1 | k1
            · have d1 : decide ((b.length : Int) < F % 16 * 4) = true := by simpa using k1
              have HL := Lib.hid (show lay4 b true = 3 by rw [lay4, if_neg h20, if_neg (by rw [← HF.out, HH.out]; omega), if_pos (.inl (by rw [HH.out]; omega))])
              go_wp2_with fail
              go_ret3
              exact ⟨by rw [HL.out]; rfl, rfl⟩
            · have d1 : decide ((b.length : Int) < F % 16 * 4) = false := by simpa using k1
              have d2 : decide ((b.length : Int) < (b.length : Int)) = false := by simp; try omega
              rcases Int.lt_or_le (b.length : Int) (F % 16 * 4) with k3 | k3
              · have d3 : decide ((b.length : Int) < F % 16 * 4) = true := by simpa using k3
                exfalso; omega
              · have d3 : decide ((b.length : Int) < F % 16 * 4) = false := by simpa using k3
                rcases Int.lt_or_le X 32768 with k4 | k4
                · have hX : bits .and .i64 X 32768 = 0 := by rw [HB.out]; omega
                  have HL := Lib.hid (show lay4 b true = 0 by rw [lay4, if_neg h20, if_neg (by rw [← HF.out, HH.out]; omega), if_neg (by rw [HH.out, ← HZ.out]; simp; omega), if_neg (by rw [HH.out, ← HZ.out, ← HX.out]; omega)])
                  go_wp2_with (first
                        | (go_at_call 80; go_loud ((with_reducible refine (get4_any A b c B 6 2 _ hR.rd (by omega) hR.cap).mono ?_); rintro e w' ⟨rfl, rfl⟩; rw [show getV b 6 2 = X from G6.out])))
                  go_ret3
                  exact ⟨by rw [HL.out]; rw [HH.out, ← HZ.out, show min Z (b.length : Int) = (b.length : Int) by omega]; rfl, rfl⟩
                · have hX : bits .and .i64 X 32768 = 32768 := by rw [HB.out]; omega
                  have HL := Lib.hid (show lay4 b true = 4 by rw [lay4, if_neg h20, if_neg (by rw [← HF.out, HH.out]; omega), if_neg (by rw [HH.out, ← HZ.out]; simp; omega), if_pos (by rw [HH.out, ← HZ.out, ← HX.out]; omega)])
                  go_wp2_with (first
                        | (go_at_call 80; go_loud ((with_reducible refine (get4_any A b c B 6 2 _ hR.rd (by omega) hR.cap).mono ?_); rintro e w' ⟨rfl, rfl⟩; rw [show getV b 6 2 = X from G6.out])))
                  go_ret3
                  exact ⟨by rw [HL.out]; rfl, rfl⟩
          · skip
            rcases Int.lt_or_le (b.length : Int) (F % 16 * 4) with k1 | k1
            · have d1 : decide ((b.length : Int) < F % 16 * 4) = true := by simpa using k1
              have HL := Lib.hid (show lay4 b true = 3 by rw [lay4, if_neg h20, if_neg (by rw [← HF.out, HH.out]; omega), if_pos (.inl (by rw [HH.out]; omega))])
              go_wp2_with fail
              go_ret3
              exact ⟨by rw [HL.out]; rfl, rfl⟩
            · have d1 : decide ((b.length : Int) < F % 16 * 4) = false := by simpa using k1
              have d2 : decide ((b.length : Int) < Z) = false := by simp; try omega
              rcases Int.lt_or_le Z (F % 16 * 4) with k3 | k3
              · have d3 : decide (Z < F % 16 * 4) = true := by simpa using k3
                have HL := Lib.hid (show lay4 b true = 4 by rw [lay4, if_neg h20, if_neg (by rw [← HF.out, HH.out]; omega), if_neg (by rw [HH.out, ← HZ.out]; simp; omega), if_pos (by rw [HH.out, ← HZ.out, ← HX.out]; omega)])
                go_wp2_with fail
                go_ret3
                exact ⟨by rw [HL.out]; rfl, rfl⟩
              · have d3 : decide (Z < F % 16 * 4) = false := by simpa using k3
                rcases Int.lt_or_le X 32768 with k4 | k4
                · have hX : bits .and .i64 X 32768 = 0 := by rw [HB.out]; omega
                  have HL := Lib.hid (show lay4 b true = 0 by rw [lay4, if_neg h20, if_neg (by rw [← HF.out, HH.out]; omega), if_neg (by rw [HH.out, ← HZ.out]; simp; omega), if_neg (by rw [HH.out, ← HZ.out, ← HX.out]; omega)])
                  go_wp2_with (first
                        | (go_at_call 80; go_loud ((with_reducible refine (get4_any A b c B 6 2 _ hR.rd (by omega) hR.cap).mono ?_); rintro e w' ⟨rfl, rfl⟩; rw [show getV b 6 2 = X from G6.out])))
                  go_ret3
                  exact ⟨by rw [HL.out]; rw [HH.out, ← HZ.out, show min Z (b.length : Int) = Z by omega]; rfl, rfl⟩
                · have hX : bits .and .i64 X 32768 = 32768 := by rw [HB.out]; omega
                  have HL := Lib.hid (show lay4 b true = 4 by rw [lay4, if_neg h20, if_neg (by rw [← HF.out, HH.out]; omega), if_neg (by rw [HH.out, ← HZ.out]; simp; omega), if_pos (by rw [HH.out, ← HZ.out, ← HX.out]; omega)])
                  go_wp2_with (first
                        | (go_at_call 80; go_loud ((with_reducible refine (get4_any A b c B 6 2 _ hR.rd (by omega) hR.cap).mono ?_); rintro e w' ⟨rfl, rfl⟩; rw [show getV b 6 2 = X from G6.out])))
                  go_ret3
                  exact ⟨by rw [HL.out]; rfl, rfl⟩

    · have HL := Lib.hid (show lay4 b quoted = 4 by rw [lay4, if_neg h20, if_pos (.inl (by rw [← HF.out]; exact h4))])
      have d4 : (F / 16 != 4) = true := by simpa using h4
      go_wp2_with (first
      | (go_at_call 80; go_loud ((with_reducible refine (get4_any A b c B 0 1 _ hR.rd (by omega) hR.cap).mono ?_); rintro e w' ⟨rfl, rfl⟩; rw [show getV b 0 1 = F from G0.out])))
      go_ret3
      exact ⟨by rw [HL.out]; rfl, rfl⟩
end Go.Proofs.Ytkfbamippjhjcaa

/-
  Contract of v4's read. Conditions are each theorem's own.
-/
namespace Go.Proofs.Ytkfbamippjhjcaa
open Go.RowKit

theorem flag_one (n m : Int) (hm : 0 < m) : ((n % 2 * m) != 0) = decide (n % 2 = 1) := by
  rcases (show n % 2 = 0 ∨ n % 2 = 1 by omega) with h | h
  · simp [h]
  · simp [h]; omega
section
variable (b : List UInt8) (A : Option Addr) (c : Nat) (w : World)
set_option maxRecDepth 100000 in
set_option maxHeartbeats 2000000 in
theorem c4read (B H Z : Nat) (D : List UInt8) (hR : Arg w B A c b) (hB : B ≤ w.heap.size) (hl2 : b.length ≤ 1000000) (hH : (H : Int) = hlen b) (h20 : 20 ≤ H) (hHZ : H ≤ Z) (hZl : Z ≤ b.length) (hDd : D = (b.take Z).drop H) :
    Calls Try.prog 57 #[.slice A b.length c, .int .i64 (H : Int), .int .i64 (Z : Int)] w fun e w' => ∃ P p P' p', e = .returned (v4v (fl4 b D) P p P' p') ∧ Made w w' (.slice P (fl4 b D).opt.length p) (fl4 b D).opt ∧ Made w w' (.slice P' (fl4 b D).dat.length p') (fl4 b D).dat := by
  have hcap := hR.cap
  have hOR0 := OwnR.new w (v4a p4z none 0 none 0) 28
  obtain ⟨O, hOd⟩ : ∃ l, l = (b.take H).drop 20 := ⟨_, rfl⟩
  have hO : Arg w B (cutA A c 20) (c - 20) O := by rw [hOd]; exact hR.cut 20 H (by omega)
  have hD : Arg w B (cutA A c H) (c - H) D := by rw [hDd]; exact hR.cut H Z hZl
  have HOl := Lib.hid (show O.length = H - 20 by rw [hOd]; simp; omega)
  have HDl := Lib.hid (show D.length = Z - H by rw [hDd]; simp; omega)
  have G6 := Lib.hid (show getV b 6 2 = n2 b 6 from get_two (b := b) (i := 6) (by omega))
  have G1 := Lib.hid (show getV b 1 1 = byt b 1 from get_one (b := b) (i := 1) (by omega))
  have G4 := Lib.hid (show getV b 4 2 = n2 b 4 from get_two (b := b) (i := 4) (by omega))
  have G8 := Lib.hid (show getV b 8 1 = byt b 8 from get_one (b := b) (i := 8) (by omega))
  have G9 := Lib.hid (show getV b 9 1 = byt b 9 from get_one (b := b) (i := 9) (by omega))
  have G12 := Lib.hid (show getV b 12 4 = n4 b 12 from get_four (b := b) (i := 12) (by omega))
  have G16 := Lib.hid (show getV b 16 4 = n4 b 16 from get_four (b := b) (i := 16) (by omega))
  have hx := n2_bd b 6
  obtain ⟨X, hX⟩ : ∃ n, n = n2 b 6 := ⟨_, rfl⟩
  have HQ := Lib.hid (show fl4 b D = ⟨byt b 1, n2 b 4, X % 8192 * 8, byt b 8, byt b 9, n4 b 12, n4 b 16, decide (X / 16384 % 2 = 1), decide (X / 8192 % 2 = 1), O, D⟩ by rw [fl4, ← hH, ← hX, hOd]; rfl)
  rw [← hX] at G6 hx
  clear hX hOd hDd hH
  have HA := Lib.hid (show bits .and .i64 X 8191 = X % 8192 from and_mask 13 X hx.1 (by omega) (by decide))
  have HW := Lib.hid (IntWalk.i64_in (X % 8192 * 8) (by omega))
  have HB1 := Lib.hid (show bits .and .i64 X 16384 = X / 16384 % 2 * 16384 from and_bit 14 X hx.1 (by omega) (by decide))
  have HB2 := Lib.hid (show bits .and .i64 X 8192 = X / 8192 % 2 * 8192 from and_bit 13 X hx.1 (by omega) (by decide))
  have HC1 := Lib.hid (flag_one (X / 16384) 16384 (by decide))
  have HC2 := Lib.hid (flag_one (X / 8192) 8192 (by decide))
  rw [HQ.out]
  go_enter Try.func57, Try.ntmps57
  go_upto_region 1 with fail
  have hOR : OwnR w 28 11 (w.alloc (.cells #[.int .i64 0, .int .i64 0, .int .i64 0, .int .i64 0, .int .i64 0, .int .i64 0, .int .i64 0, .bool false, .bool false, .slice none 0 0, .slice none 0 0] 28)) := hOR0
  clear hOR0
  generalize w.alloc (.cells #[.int .i64 0, .int .i64 0, .int .i64 0, .int .i64 0, .int .i64 0, .int .i64 0, .int .i64 0, .bool false, .bool false, .slice none 0 0, .slice none 0 0] 28) = W at *
  go_upto_region 2 with (go_at_call 80; ((with_reducible refine (get4_any A b c B 6 2 _ (hR.below (hOR.b.mono hB)).rd (by omega) hR.cap).mono ?_); rintro e w' ⟨rfl, rfl⟩; rw [show getV b 6 2 = X from G6.out]))
  refine wp_region_held_drew (S := OwnR w 28 11) (by kernel_rfl) hOR.drew (fun hS => ?_)
  refine held_pure (i := 0) (oi := ⟨some 10, _, _, _, _, _⟩) rfl (by kernel_rfl) (by kernel_rfl) (by kernel_rfl) (fun _ _ _ h => h) (by rfl) (v := ?_) (fun w hSw => ?_) hS (fun hS => ?_)
  rotate_left
  · go_simp; try with_reducible rfl
  try go_frame
  refine held_pure (i := 2) (oi := ⟨some 12, _, _, _, _, _⟩) rfl (by kernel_rfl) (by kernel_rfl) (by kernel_rfl) (fun _ _ _ h => h) (by rfl) (v := ?_) (fun w hSw => ?_) hS (fun hS => ?_)
  rotate_left
  · go_simp; try with_reducible rfl
  try go_frame
  refine held_pure (i := 4) (oi := ⟨some 14, _, _, _, _, _⟩) rfl (by kernel_rfl) (by kernel_rfl) (by kernel_rfl) (fun _ _ _ h => h) (by rfl) (v := ?_) (fun w hSw => ?_) hS (fun hS => ?_)
  rotate_left
  · go_simp; try with_reducible rfl
  try go_frame
  refine held_pure (i := 5) (oi := ⟨some 15, _, _, _, _, _⟩) rfl (by kernel_rfl) (by kernel_rfl) (by kernel_rfl) (fun _ _ _ h => h) (by rfl) (v := .int .i64 (X % 8192)) (fun w hSw => by go_simp; exact HA.out) hS (fun hS => ?_)
  try go_frame
  refine held_pure (i := 6) (oi := ⟨some 16, _, _, _, _, _⟩) rfl (by kernel_rfl) (by kernel_rfl) (by kernel_rfl) (fun _ _ _ h => h) (by rfl) (v := .int .i64 (X % 8192 * 8)) (fun w hSw => by go_simp; try exact HW.out) hS (fun hS => ?_)
  try go_frame
  refine held_pure (i := 7) (oi := ⟨some 17, _, _, _, _, _⟩) rfl (by kernel_rfl) (by kernel_rfl) (by kernel_rfl) (fun _ _ _ h => h) (by rfl) (v := ?_) (fun w hSw => ?_) hS (fun hS => ?_)
  rotate_left
  · go_simp; try with_reducible rfl
  try go_frame
  refine held_pure (i := 9) (oi := ⟨some 19, _, _, _, _, _⟩) rfl (by kernel_rfl) (by kernel_rfl) (by kernel_rfl) (fun _ _ _ h => h) (by rfl) (v := ?_) (fun w hSw => ?_) hS (fun hS => ?_)
  rotate_left
  · go_simp; try with_reducible rfl
  try go_frame
  refine held_pure (i := 11) (oi := ⟨some 21, _, _, _, _, _⟩) rfl (by kernel_rfl) (by kernel_rfl) (by kernel_rfl) (fun _ _ _ h => h) (by rfl) (v := ?_) (fun w hSw => ?_) hS (fun hS => ?_)
  rotate_left
  · go_simp; try with_reducible rfl
  try go_frame
  refine held_pure (i := 13) (oi := ⟨some 23, _, _, _, _, _⟩) rfl (by kernel_rfl) (by kernel_rfl) (by kernel_rfl) (fun _ _ _ h => h) (by rfl) (v := ?_) (fun w hSw => ?_) hS (fun hS => ?_)
  rotate_left
  · go_simp; try with_reducible rfl
  try go_frame
  refine held_pure (i := 15) (oi := ⟨some 25, _, _, _, _, _⟩) rfl (by kernel_rfl) (by kernel_rfl) (by kernel_rfl) (fun _ _ _ h => h) (by rfl) (v := ?_) (fun w hSw => ?_) hS (fun hS => ?_)
  rotate_left
  · go_simp; try with_reducible rfl
  try go_frame
  refine held_pure (i := 16) (oi := ⟨some 26, _, _, _, _, _⟩) rfl (by kernel_rfl) (by kernel_rfl) (by kernel_rfl) (fun _ _ _ h => h) (by rfl) (v := .int .i64 (X / 16384 % 2 * 16384)) (fun w hSw => by go_simp; exact HB1.out) hS (fun hS => ?_)
  try go_frame
  refine held_pure (i := 17) (oi := ⟨some 27, _, _, _, _, _⟩) rfl (by kernel_rfl) (by kernel_rfl) (by kernel_rfl) (fun _ _ _ h => h) (by rfl) (v := .bool (decide (X / 16384 % 2 = 1))) (fun w hSw => by go_simp; exact HC1.out) hS (fun hS => ?_)
  try go_frame
  refine held_pure (i := 18) (oi := ⟨some 28, _, _, _, _, _⟩) rfl (by kernel_rfl) (by kernel_rfl) (by kernel_rfl) (fun _ _ _ h => h) (by rfl) (v := ?_) (fun w hSw => ?_) hS (fun hS => ?_)
  rotate_left
  · go_simp; try with_reducible rfl
  try go_frame
  refine held_pure (i := 19) (oi := ⟨some 29, _, _, _, _, _⟩) rfl (by kernel_rfl) (by kernel_rfl) (by kernel_rfl) (fun _ _ _ h => h) (by rfl) (v := .int .i64 (X / 8192 % 2 * 8192)) (fun w hSw => by go_simp; exact HB2.out) hS (fun hS => ?_)
  try go_frame
  refine held_pure (i := 20) (oi := ⟨some 30, _, _, _, _, _⟩) rfl (by kernel_rfl) (by kernel_rfl) (by kernel_rfl) (fun _ _ _ h => h) (by rfl) (v := .bool (decide (X / 8192 % 2 = 1))) (fun w hSw => by go_simp; exact HC2.out) hS (fun hS => ?_)
  try go_frame
  refine held_pure (i := 21) (oi := ⟨some 31, _, _, _, _, _⟩) rfl (by kernel_rfl) (by kernel_rfl) (by kernel_rfl) (fun _ _ _ h => h) (by rfl) (v := ?_) (fun w hSw => ?_) hS (fun hS => ?_)
  rotate_left
  · go_simp; try with_reducible rfl
  try go_frame
  refine held_pure (i := 22) (oi := ⟨some 32, _, _, _, _, _⟩) rfl (by kernel_rfl) (by kernel_rfl) (by kernel_rfl) (fun _ _ _ h => h) (by rfl) (v := ?_) (fun w hSw => ?_) hS (fun hS => ?_)
  rotate_left
  · go_simp; try with_reducible rfl
  try go_frame
  refine held_pure (i := 23) (oi := ⟨some 33, _, _, _, _, _⟩) rfl (by kernel_rfl) (by kernel_rfl) (by kernel_rfl) (fun _ _ _ h => h) (by rfl) (fun w hSw => run_cut_lh rfl rfl rfl rfl (l := 20) (h := (H : Int)) (by omega) (by omega) (by omega) (m := O.length) (by have := HOl.out; omega)) hS (fun hS => ?_)
  try go_frame
  refine held_pure (i := 25) (oi := ⟨some 35, _, _, _, _, _⟩) rfl (by kernel_rfl) (by kernel_rfl) (by kernel_rfl) (fun _ _ _ h => h) (by rfl) (v := ?_) (fun w hSw => ?_) hS (fun hS => ?_)
  rotate_left
  · go_simp; try with_reducible rfl
  try go_frame
  refine held_pure (i := 26) (oi := ⟨some 36, _, _, _, _, _⟩) rfl (by kernel_rfl) (by kernel_rfl) (by kernel_rfl) (fun _ _ _ h => h) (by rfl) (v := ?_) (fun w hSw => ?_) hS (fun hS => ?_)
  rotate_left
  · go_simp; try with_reducible rfl
  try go_frame
  refine held_pure (i := 27) (oi := ⟨some 37, _, _, _, _, _⟩) rfl (by kernel_rfl) (by kernel_rfl) (by kernel_rfl) (fun _ _ _ h => h) (by rfl) (v := ?_) (fun w hSw => ?_) hS (fun hS => ?_)
  rotate_left
  · go_simp; try with_reducible rfl
  try go_frame
  refine held_pure (i := 28) (oi := ⟨some 38, _, _, _, _, _⟩) rfl (by kernel_rfl) (by kernel_rfl) (by kernel_rfl) (fun _ _ _ h => h) (by rfl) (fun w hSw => run_cut_lh rfl rfl rfl rfl (l := (H : Int)) (h := (Z : Int)) (by omega) (by omega) (by omega) (m := D.length) (by have := HDl.out; omega)) hS (fun hS => ?_)
  try go_frame
  refine wpAnyH_ready (rs := [1]) (by kernel_rfl) (by simp) (AllReadyH.cons (o := ⟨some 11, _, _, _, _, _⟩) rfl (fun K hK => ?_) AllReadyH.nil)
  rw [if_pos (by rfl)]
  go_simp
  refine (get4_any A b c B 1 1 _ (hR.below (hS.b.mono hB)).rd (by omega) hR.cap).mono ?_
  rintro e w1 ⟨rfl, rfl⟩
  rw [show getV b 1 1 = byt b 1 from G1.out]
  show K _ _
  refine hK.out _ _ hS (fun hS => ?_)
  clear hK K
  try go_frame
  refine wpAnyH_ready (rs := [3]) (by kernel_rfl) (by simp) (AllReadyH.cons (o := ⟨some 13, _, _, _, _, _⟩) rfl (fun K hK => ?_) AllReadyH.nil)
  rw [if_pos (by rfl)]
  go_simp
  refine (get4_any A b c B 4 2 _ (hR.below (hS.b.mono hB)).rd (by omega) hR.cap).mono ?_
  rintro e w3 ⟨rfl, rfl⟩
  rw [show getV b 4 2 = n2 b 4 from G4.out]
  show K _ _
  refine hK.out _ _ hS (fun hS => ?_)
  clear hK K
  try go_frame
  refine wpAnyH_ready (rs := [8]) (by kernel_rfl) (by simp) (AllReadyH.cons (o := ⟨some 18, _, _, _, _, _⟩) rfl (fun K hK => ?_) AllReadyH.nil)
  rw [if_pos (by rfl)]
  go_simp
  refine (get4_any A b c B 8 1 _ (hR.below (hS.b.mono hB)).rd (by omega) hR.cap).mono ?_
  rintro e w8 ⟨rfl, rfl⟩
  rw [show getV b 8 1 = byt b 8 from G8.out]
  show K _ _
  refine hK.out _ _ hS (fun hS => ?_)
  clear hK K
  try go_frame
  refine wpAnyH_ready (rs := [10]) (by kernel_rfl) (by simp) (AllReadyH.cons (o := ⟨some 20, _, _, _, _, _⟩) rfl (fun K hK => ?_) AllReadyH.nil)
  rw [if_pos (by rfl)]
  go_simp
  refine (get4_any A b c B 9 1 _ (hR.below (hS.b.mono hB)).rd (by omega) hR.cap).mono ?_
  rintro e w10 ⟨rfl, rfl⟩
  rw [show getV b 9 1 = byt b 9 from G9.out]
  show K _ _
  refine hK.out _ _ hS (fun hS => ?_)
  clear hK K
  try go_frame
  refine wpAnyH_ready (rs := [12]) (by kernel_rfl) (by simp) (AllReadyH.cons (o := ⟨some 22, _, _, _, _, _⟩) rfl (fun K hK => ?_) AllReadyH.nil)
  rw [if_pos (by rfl)]
  go_simp
  refine (get4_any A b c B 12 4 _ (hR.below (hS.b.mono hB)).rd (by omega) hR.cap).mono ?_
  rintro e w12 ⟨rfl, rfl⟩
  rw [show getV b 12 4 = n4 b 12 from G12.out]
  show K _ _
  refine hK.out _ _ hS (fun hS => ?_)
  clear hK K
  try go_frame
  refine wpAnyH_ready (rs := [14]) (by kernel_rfl) (by simp) (AllReadyH.cons (o := ⟨some 24, _, _, _, _, _⟩) rfl (fun K hK => ?_) AllReadyH.nil)
  rw [if_pos (by rfl)]
  go_simp
  refine (get4_any A b c B 16 4 _ (hR.below (hS.b.mono hB)).rd (by omega) hR.cap).mono ?_
  rintro e w14 ⟨rfl, rfl⟩
  rw [show getV b 16 4 = n4 b 16 from G16.out]
  show K _ _
  refine hK.out _ _ hS (fun hS => ?_)
  clear hK K
  try go_frame
  refine wpAnyH_ready (rs := [24]) (by kernel_rfl) (by simp) (AllReadyH.cons (o := ⟨some 34, _, _, _, _, _⟩) rfl (fun K hK => ?_) AllReadyH.nil)
  rw [if_pos (by rfl)]
  refine append_wp _ _ rfl (w.heap.size + 1) (.slice none 0 0) 0 [] rfl (World.ownsRow_nil _ _ _ _) B (cutA A c 20) _ O rfl (hO.none_) ((hO.below (hS.b.mono hB)).rd) (by have := HOl.out; have := HDl.out; omega) hS.lt ?_
  intro v5 y5 own5 grow5
  obtain ⟨P5, p5, rfl, owm5⟩ := own_made (bs := O) own5 (Nat.zero_add _) (List.nil_append _)
  clear own5
  have x5 := (Below.refl _ _).grown grow5 (Nat.le_refl _) (fun k hk => by cases hk)
  clear grow5
  refine hK.out _ _ (hS.step x5) (fun hS => ?_)
  clear hK K
  try go_frame
  refine wpAnyH_ready (rs := [29]) (by kernel_rfl) (by simp) (AllReadyH.cons (o := ⟨some 39, _, _, _, _, _⟩) rfl (fun K hK => ?_) AllReadyH.nil)
  rw [if_pos (by rfl)]
  refine append_wp _ _ rfl (w.heap.size + 1) (.slice none 0 0) 0 [] rfl (World.ownsRow_nil _ _ _ _) B (cutA A c H) _ D rfl (hD.none_) ((hD.below (hS.b.mono hB)).rd) (by have := HOl.out; have := HDl.out; omega) hS.lt ?_
  intro v6 y6 own6 grow6
  obtain ⟨P6, p6, rfl, owm6⟩ := own_made (bs := D) own6 (Nat.zero_add _) (List.nil_append _)
  clear own6
  have x6 := (Below.refl _ _).grown grow6 (Nat.le_refl _) (fun k hk => by cases hk)
  clear grow6
  refine hK.out _ _ (hS.step x6) (fun hS => ?_)
  clear hK K
  try go_frame
  refine held_pure (i := 30) (oi := ⟨some 40, _, _, _, _, _⟩) rfl (by kernel_rfl) (by kernel_rfl) (by kernel_rfl) (fun _ _ _ h => h) (by rfl) (v := ?_) (fun w hSw => ?_) hS (fun hS => ?_)
  rotate_left
  · go_simp; try with_reducible rfl
  try go_frame
  refine wpAnyH_ready (rs := [31]) (by kernel_rfl) (by simp) (AllReadyH.cons (o := ⟨none, _, _, _, _, _⟩) rfl (fun K hK => ?_) AllReadyH.nil)
  rw [if_pos (by rfl)]
  obtain ⟨old, hold, hgo⟩ := hS.2
  have hrow := hS.row (v4a ⟨byt b 1, n2 b 4, X % 8192 * 8, byt b 8, byt b 9, n4 b 12, n4 b 16, decide (X / 16384 % 2 = 1), decide (X / 8192 % 2 = 1), O, D⟩ P5 p5 P6 p6) rfl
  refine wp_store_row 28 _ _ rfl w.heap.size (v4a ⟨byt b 1, n2 b 4, X % 8192 * 8, byt b 8, byt b 9, n4 b 12, n4 b 16, decide (X / 16384 % 2 = 1), decide (X / 8192 % 2 = 1), O, D⟩ P5 p5 P6 p6) rfl rfl 28 old hgo (by kernel_rfl) hold (by simp [v4a, Value.oneCell']) ?_
  have hgz := setRow_heap _ _ _ (v4a ⟨byt b 1, n2 b 4, X % 8192 * 8, byt b 8, byt b 9, n4 b 12, n4 b 16, decide (X / 16384 % 2 = 1), decide (X / 8192 % 2 = 1), O, D⟩ P5 p5 P6 p6) _ _ hgo
  refine hK.out _ _ hrow (fun hS => ?_)
  clear hK K
  try go_frame
  refine wpAnyH_done (by kernel_rfl) ?_ _
  go_wp2_with fail
  have oz5 := own_setRow (own_below owm5 x6) (g := w.heap.size) (cs := v4a ⟨byt b 1, n2 b 4, X % 8192 * 8, byt b 8, byt b 9, n4 b 12, n4 b 16, decide (X / 16384 % 2 = 1), decide (X / 8192 % 2 = 1), O, D⟩ P5 p5 P6 p6) (Nat.lt_succ_self _)
  have oz6 := own_setRow owm6 (g := w.heap.size) (cs := v4a ⟨byt b 1, n2 b 4, X % 8192 * 8, byt b 8, byt b 9, n4 b 12, n4 b 16, decide (X / 16384 % 2 = 1), decide (X / 8192 % 2 = 1), O, D⟩ P5 p5 P6 p6) (Nat.lt_succ_self _)
  exact bodyPost_ret (v4_result rfl rfl hgz rfl) rfl ⟨P5, p5, P6, p6, rfl, Made.of_own (own_base oz5 (Nat.le_succ _)) hS.b, Made.of_own (own_base oz6 (Nat.le_succ _)) hS.b⟩
end
end Go.Proofs.Ytkfbamippjhjcaa

/-
  Contract of v6.Build. Conditions are each theorem's own.
-/
namespace Go.Proofs.Ytkfbamippjhjcaa
open Go.RowKit

theorem chk6_zero {q : P6} (h : chk6 q = 0) : arg6 q ∧ (q.dat.length : Int) ≤ 65535 := by
  have ha : arg6 q := by
    rcases Decidable.em (arg6 q) with h' | h'
    · exact h'
    · rw [chk6, if_neg h'] at h; omega
  refine ⟨ha, ?_⟩
  rcases Int.lt_or_le 65535 (q.dat.length : Int) with h' | h'
  · rw [chk6, if_pos ha, if_pos h'] at h; omega
  · exact h'
section
variable (q : P6) (A : Option Addr) (c : Nat) (w : World)
set_option maxRecDepth 100000 in
set_option maxHeartbeats 1000000 in
theorem c6build (B : Nat) (hs : q.src.length = 16) (hd : q.dst.length = 16) (hl : q.dat.length ≤ 1000000) (hD : Arg w B A c q.dat) (hB0 : B ≤ w.heap.size) :
    Calls Try.prog 29 #[v6v q A c] w fun e w' => ∃ v, e = .returned (.tuple #[v, .int .i64 (chk6 q)]) ∧ (chk6 q ≠ 0 → v = .slice none 0 0 ∧ Below w.heap.size w w') ∧ (chk6 q = 0 → Made w w' v (bld6 q)) := by
  have hB : Below w.heap.size w (w.alloc (.cells (v6a q A c) 26)) := (Below.refl w.heap.size w).alloc (Nat.le_refl _) _
  have hAt := At6.new (q := q) (A := A) (c := c) w
  have hz : w.heap.size < (w.alloc (.cells (v6a q A c) 26)).heap.size := by simp
  unfold v6v
  rw [show (v6l q A c).toArray = v6a q A c from rfl]
  go_enter Try.func29, Try.ntmps29
  go_upto_region 1 with fail
  generalize w.alloc (.cells (v6a q A c) 26) = W at *
  by_cases hc : chk6 q = 0
  · obtain ⟨⟨a1, a2, a3, a4, a5, a6, a7, a8⟩, a9⟩ := chk6_zero hc
    have HC := Lib.hid hc
    clear hc
    have B1 := Lib.hid (or_byte 6 q.traffic (by omega) (by omega) a1 a2)
    go_upto_region 4 with (first
      | ((with_reducible show wpList _ _ _ (Oper.mk _ (Op.load 26 _) _ _ _ _ :: _) _ _); refine wpList_val rfl (run_load_v6 rfl rfl hAt (v6l_len hs hd)) ?_)
      | (go_at_call 31; refine (c6check q A c _ hs hd hl).mono ?_; rintro e w1 ⟨rfl, x1⟩; rw [HC.out]))
    have hAt1 := hAt.below x1 hz
    have k0 := hAt1.traffic; have k1 := hAt1.flow; have k2 := hAt1.next; have k3 := hAt1.hop; have k6 := hAt1.dat hs hd
    go_upto_region 5 with fail
    rw [fst6_bits q ⟨a1, a2, a3, a4, a5, a6, a7, a8⟩]
    obtain ⟨N, hN⟩ : ∃ N, N = fst6 q := ⟨_, rfl⟩
    rw [← hN]
    obtain ⟨n, hn⟩ : ∃ n, n = 40 + q.dat.length := ⟨_, rfl⟩
    have HP := Lib.hid (putL_6 q N ⟨a1, a2, a3, a4, a5, a6, a7, a8⟩ a9 hN)
    obtain ⟨C5, C7, C8, hC5, hC7, hC8, hC9, hL5, hL7, hL8⟩ := out6 q hs hd n hn
    have HC5 := Lib.hid hC5; have HC7 := Lib.hid hC7; have HC8 := Lib.hid hC8; have HC9 := Lib.hid hC9
    have HL5 := Lib.hid hL5; have HL7 := Lib.hid hL7; have HL8 := Lib.hid hL8
    have HN := Lib.hid hn
    have hn40 : 40 ≤ n := by omega
    have hz6 : size6 q = (n : Int) := by rw [size6, hn]; omega
    have HL9 := Lib.hid (show (bld6 q).length = n by rw [bld6_len q hs hd, hn])
    clear hC5 hC7 hC8 hC9 hL5 hL7 hL8 hN
    have hmk : ∀ W : World, (Instr.makeSlice 24 (.int .i64 (n : Int)) (.int .i64 (n : Int))).run Try.prog W = .ok (.slice (some ⟨W.heap.size, 0, none⟩) n n) (W.alloc (.cells (List.replicate n (.int .u8 0)).toArray 5)) := fun W => by
      rw [← made_rep]; exact run_make_row' 24 5 (.int .u8 0) 1 Try.underlying24 info_u8 rfl .i64 .i64 n (by omega) (by omega) W
    have HZ6 := Lib.hid hz6
    clear hn hz6
    go_upto_region 6 with (first
      | ((with_reducible show wpList _ _ _ (Oper.mk _ (Op.load 26 _) _ _ _ _ :: _) _ _); refine wpList_val rfl (run_load_v6 rfl rfl hAt1 (v6l_len hs hd)) ?_)
      | (go_at_call 34; refine (c6size q A c _ hs hd hl).mono ?_; rintro e w2 ⟨rfl, x2⟩; rw [HZ6.out]))
    have x12 : Below W.heap.size W w2 := x1.trans (x2.mono x1.size)
    have hG : W.heap.size ≤ w2.heap.size := x12.size
    have hAt2 := hAt.below x12 hz
    have x13 : Below W.heap.size W (w2.alloc (.cells (Array.replicate n (.int .u8 0)) 5)) := x12.alloc hG _
    have hAt3 := hAt.below x13 hz
    have hg3 : (w2.alloc (.cells (Array.replicate n (.int .u8 0)) 5)).heap[w2.heap.size]? = some (.cells (row (List.replicate n 0)).toArray 5 (0, 0)) := by
      rw [World.alloc_heap_new]; simp [row]
    have hz3 : w2.heap.size < (w2.alloc (.cells (Array.replicate n (.int .u8 0)) 5)).heap.size := by simp
    clear k0 k1 k2 k3 k6 hAt1 hmk
    have k2 := hAt3.next; have k3 := hAt3.hop; have k6 := hAt3.dat hs hd
    clear hAt2 hAt3
    have HG3 := Lib.hid hg3
    clear hg3
    generalize w2.alloc (.cells (Array.replicate n (.int .u8 0)) 5) = W3 at *
    go_upto_region 7 with (first
      | (go_at_call 45; refine (put6_new [(N, 4), ((q.dat.length : Int), 2), (q.next, 1), (q.hop, 1)] _ 4 _ W3 (by rfl) (by rfl) (by simp) (by simp)).mono ?_; rintro e w4 ⟨v4, rfl, m4⟩; rw [HP.out] at m4; obtain ⟨A4, c4, rfl, arg4, ow4, x4⟩ := made_shape m4)
      | (refine copy_wl rfl (.tmp 22) (.tmp 36) rfl w2.heap.size 0 n _ _ _ (hd6 q) _ _ rfl (fun _ => rfl) rfl (List.replicate n 0) ((x4.block _ hz3).trans HG3.out) (by rw [hd6_len]; omega) arg4.rd (by rw [hd6_len]; simp; omega) W W.heap.size (x13.trans (x4.mono x13.size)) hG C5 HC5.out ?_; intro w5 HG5 hB5 hz5))
    have HS := Lib.hid hs; have HT := Lib.hid hd
    clear k2 k3 k6
    refine wp_region_held_drew (S := fun w' => Below W.heap.size W w') (by kernel_rfl) hB5.drew (fun hS => ?_)
    refine held_pure (i := 0) (oi := ⟨some 38, _, _, _, _, _⟩) rfl (by kernel_rfl) (by kernel_rfl) (by kernel_rfl) (fun _ _ _ h => h) (by rfl) (v := ?_) (fun w hSw => ?_) hS (fun hS => ?_)
    rotate_left
    · go_simp; try with_reducible rfl
    try go_frame
    refine held_pure (i := 1) (oi := ⟨some 39, _, _, _, _, _⟩) rfl (by kernel_rfl) (by kernel_rfl) (by kernel_rfl) (fun _ _ _ h => h) (by rfl) (fun w hSw => run_cut_lh rfl rfl rfl rfl (l := 8) (h := 24) (by omega) (by omega) (by omega) (m := 16) rfl) hS (fun hS => ?_)
    try go_frame
    refine held_pure (i := 2) (oi := ⟨some 40, _, _, _, _, _⟩) rfl (by kernel_rfl) (by kernel_rfl) (by kernel_rfl) (fun _ _ _ h => h) (by rfl) (v := ?_) (fun w hSw => ?_) hS (fun hS => ?_)
    rotate_left
    · go_simp; try with_reducible rfl
    try go_frame
    refine held_pure (i := 3) (oi := ⟨some 41, _, _, _, _, _⟩) rfl (by kernel_rfl) (by kernel_rfl) (by kernel_rfl) (fun _ _ _ h => h) (by rfl) (fun w hSw => run_slice_six rfl rfl) hS (fun hS => ?_)
    try go_frame
    refine wpAnyH_ready (rs := [4]) (by kernel_rfl) (by simp) (AllReadyH.cons (o := ⟨some 42, _, _, _, _, _⟩) rfl (fun K hK => ?_) AllReadyH.nil)
    rw [if_pos (by rfl)]
    refine copy_wp _ _ rfl w2.heap.size 8 16 _ _ _ q.src _ W.heap.size rfl (fun h => by have := HN.out; simp [cutA, add_off]; omega) (by rw [HS.out]; rfl) C5 HG5.out (by rw [HS.out]; decide) (Rd.of_range ((hAt.below hS hz).src) hz) (by rw [HL5.out]; have := HS.out; omega) W W.heap.size hS hG C7 HC7.out ?_
    intro w7 HG7 hB7 hz7
    refine hK.out _ _ hB7 (fun hS => ?_)
    clear hK K
    try go_frame
    refine wpAnyH_done (by kernel_rfl) ?_ _
    go_wp2_with fail
    refine wp_region_held_drew (S := fun w' => Below W.heap.size W w') (by kernel_rfl) hB7.drew (fun hS => ?_)
    refine held_pure (i := 0) (oi := ⟨some 43, _, _, _, _, _⟩) rfl (by kernel_rfl) (by kernel_rfl) (by kernel_rfl) (fun _ _ _ h => h) (by rfl) (v := ?_) (fun w hSw => ?_) hS (fun hS => ?_)
    rotate_left
    · go_simp; try with_reducible rfl
    try go_frame
    refine held_pure (i := 1) (oi := ⟨some 44, _, _, _, _, _⟩) rfl (by kernel_rfl) (by kernel_rfl) (by kernel_rfl) (fun _ _ _ h => h) (by rfl) (fun w hSw => run_cut_lh rfl rfl rfl rfl (l := 24) (h := 40) (by omega) (by omega) (by omega) (m := 16) rfl) hS (fun hS => ?_)
    try go_frame
    refine held_pure (i := 2) (oi := ⟨some 45, _, _, _, _, _⟩) rfl (by kernel_rfl) (by kernel_rfl) (by kernel_rfl) (fun _ _ _ h => h) (by rfl) (v := ?_) (fun w hSw => ?_) hS (fun hS => ?_)
    rotate_left
    · go_simp; try with_reducible rfl
    try go_frame
    refine held_pure (i := 3) (oi := ⟨some 46, _, _, _, _, _⟩) rfl (by kernel_rfl) (by kernel_rfl) (by kernel_rfl) (fun _ _ _ h => h) (by rfl) (fun w hSw => run_slice_six rfl rfl) hS (fun hS => ?_)
    try go_frame
    refine wpAnyH_ready (rs := [4]) (by kernel_rfl) (by simp) (AllReadyH.cons (o := ⟨some 47, _, _, _, _, _⟩) rfl (fun K hK => ?_) AllReadyH.nil)
    rw [if_pos (by rfl)]
    refine copy_wp _ _ rfl w2.heap.size 24 16 _ _ _ q.dst _ W.heap.size rfl (fun h => by have := HN.out; simp [cutA, add_off]; omega) (by rw [HT.out]; rfl) C7 HG7.out (by rw [HT.out]; decide) (Rd.of_range ((hAt.below hS hz).dst hs) hz) (by rw [HL7.out]; have := HS.out; omega) W W.heap.size hS hG C8 HC8.out ?_
    intro w8 HG8 hB8 hz8
    refine hK.out _ _ hB8 (fun hS => ?_)
    clear hK K
    try go_frame
    refine wpAnyH_done (by kernel_rfl) ?_ _
    go_wp2_with fail
    refine wp_region_held_drew (S := fun w' => Below W.heap.size W w') (by kernel_rfl) hB8.drew (fun hS => ?_)
    refine held_pure (i := 0) (oi := ⟨some 48, _, _, _, _, _⟩) rfl (by kernel_rfl) (by kernel_rfl) (by kernel_rfl) (fun _ _ _ h => h) (by rfl) (v := ?_) (fun w hSw => ?_) hS (fun hS => ?_)
    rotate_left
    · go_simp; try with_reducible rfl
    try go_frame
    refine held_pure (i := 1) (oi := ⟨some 49, _, _, _, _, _⟩) rfl (by kernel_rfl) (by kernel_rfl) (by kernel_rfl) (fun _ _ _ h => h) (by rfl) (fun w hSw => run_cut_l rfl rfl (l := 40) rfl (by omega) (m := q.dat.length) (by have := HN.out; omega)) hS (fun hS => ?_)
    try go_frame
    refine held_pure (i := 2) (oi := ⟨some 50, _, _, _, _, _⟩) rfl (by kernel_rfl) (by kernel_rfl) (by kernel_rfl) (fun _ _ _ h => h) (by rfl) (v := ?_) (fun w hSw => ?_) hS (fun hS => ?_)
    rotate_left
    · go_simp; try with_reducible rfl
    try go_frame
    refine held_pure (i := 3) (oi := ⟨some 51, _, _, _, _, _⟩) rfl (by kernel_rfl) (by kernel_rfl) (by kernel_rfl) (fun _ _ _ h => h) (by rfl) (fun w hSw => run_load_sl rfl rfl ((hAt.below hSw hz).dat hs hd)) hS (fun hS => ?_)
    try go_frame
    refine wpAnyH_ready (rs := [4]) (by kernel_rfl) (by simp) (AllReadyH.cons (o := ⟨some 52, _, _, _, _, _⟩) rfl (fun K hK => ?_) AllReadyH.nil)
    rw [if_pos (by rfl)]
    refine copy_wp _ _ rfl w2.heap.size 40 _ _ _ _ q.dat _ B rfl (fun h => by have := HN.out; simp [cutA, add_off]; omega) (by rfl) C8 HG8.out (Nat.le_refl _) (hD.rd.below ((hB.mono hB0).trans (hS.mono (by omega)))) (by rw [HL8.out]; have := HN.out; omega) W W.heap.size hS hG (bld6 q) HC9.out ?_
    intro w9 HG9 hB9 hz9
    refine hK.out _ _ hB9 (fun hS => ?_)
    clear hK K
    try go_frame
    refine wpAnyH_done (by kernel_rfl) ?_ _
    go_wp2_with fail
    go_ret2
    exact ⟨.slice (some ⟨w2.heap.size, 0, none⟩) n n, by rw [HC.out]; rfl, fun h => absurd HC.out h, fun _ => by
      have ho := own_of_block (base := w.heap.size) (g := w2.heap.size) (by omega) HG9.out (by rw [HL9.out]; have := HN.out; omega)
      rw [HL9.out] at ho
      exact Made.of_own (by rw [HL9.out]; exact ho) (hB.trans (hS.mono (by omega)))⟩
  · have hne : (chk6 q != 0) = true := by simpa using hc
    have HN := Lib.hid hc
    clear hc
    go_wp2_with (first
      | ((with_reducible show wpList _ _ _ (Oper.mk _ (Op.load 26 _) _ _ _ _ :: _) _ _); refine wpList_val rfl (run_load_v6 rfl rfl hAt (v6l_len hs hd)) ?_)
      | (go_at_call 31; refine (c6check q A c _ hs hd hl).mono ?_; rintro e w1 ⟨rfl, x1⟩; skip))
    go_ret2
    exact ⟨.slice none 0 0, rfl, fun _ => ⟨rfl, hB.trans (x1.mono (by omega))⟩, fun h => absurd h HN.out⟩
end
end Go.Proofs.Ytkfbamippjhjcaa

/-
  Contract of v6.Quoted. Conditions are each theorem's own.
-/
namespace Go.Proofs.Ytkfbamippjhjcaa
open Go.RowKit

theorem Made.later {W w1 w2 : World} {v : Value} {bs : List UInt8} (h : Made W w1 v bs) (hb : Below w1.heap.size w1 w2) : Made W w2 v bs := by
  obtain ⟨A, c, rfl, hl, hr, ho, hB⟩ := h
  exact Made.of_own (own_below ho hb) (hB.trans (hb.mono hB.size))
/-- copy of bytes into a part of a block of any cells. -/
theorem copy_cells {ops : Array Oper} {o : Oper} {a : Act} {w : World} {K : Act → World → Prop} {Q : Exit → Act → World → Prop} {E : Prop} (hgd : o.guard = none) (d s : Operand)
    (ho : o.op = .call { callee := .builtin .copy, args := #[d, s], argTypes := #[24, 24] }) (g off dLen dCap : Nat) (bs : List UInt8) (c B : Nat) (A : Option Addr) (hd : a.eval d = .slice (some ⟨g, off, none⟩) dLen dCap) (hs : a.eval s = .slice A bs.length c)
    (cur : List Value) (hg : w.heap[g]? = some (.cells cur.toArray 26 (0, 0))) (hn : bs.length ≤ dLen) (hr : Rd w B A bs) (hfit : off + bs.length ≤ cur.length)
    (w0 : World) (B0 : Nat) (hb : Below B0 w0 w) (hBg : B0 ≤ g)
    (h : ∀ w', Hid (w'.heap[g]? = some (.cells (splice cur off (row bs)).toArray 26 (0, 0))) → Below B0 w0 w' → K (a.put o.dst (goInt (row bs).length)) w') : if Region.wanted o (yielded ops a.tmps) = true then Oper.wp Try.prog o a w K Q else E :=
  step_copy_splice hgd d s 24 24 ho 5 Try.underlying24 size_u8 (some ⟨g, off, none⟩) A dLen dCap bs.length c hd hs g off cur 26 hg (row bs) (by rw [row_length]; exact (Nat.min_eq_left hn).symm)
    (fun hp => ⟨rfl, by
      rw [row_length] at hp
      obtain ⟨b, of, rfl, hbB, hc⟩ := hr hp
      exact ⟨_, rfl, fun j v hj => by
        have hj' : j < bs.length := by have := (List.getElem?_eq_some_iff.1 hj).1; rwa [row_length] at this
        rw [row_getD bs hj' hj, add_off]; exact hc j hj'⟩⟩) (by rw [row_length]; exact hfit) (row_one bs) B0 w0 hb hBg h
theorem v6a_one (q : P6) (A : Option Addr) (c : Nat) : (v6a q A c).all (·.oneCell') = true := by
  refine Array.all_eq_true_iff_forall_mem.2 fun v hv => ?_
  have hv' : v ∈ v6l q A c := by simpa [v6a] using hv
  simp only [v6l, List.mem_append, List.mem_cons, List.not_mem_nil, or_false] at hv'
  rcases hv' with (((h | h | h | h) | h) | h) | h
  · subst h; rfl
  · subst h; rfl
  · subst h; rfl
  · subst h; rfl
  · exact row_one _ v h
  · exact row_one _ v h
  · subst h; rfl
theorem v6_store {ops : Array Oper} {rest : List Oper} {x y : Operand} {ty : TypeId} {pos : String} {af : Array Edge} {a : Act} {w : World} {Q : Exit → Act → World → Prop}
    {g : Nat} {t : TypeId} {cs old : Array Value} (hx : a.eval x = .pointer (some ⟨g, 0, none⟩)) (hy : a.eval y = .agg cs) (hg : w.heap[g]? = some (.cells old t (0, 0))) (ho : old.size = 37) (hl : cs.size = 37) (h1 : cs.all (·.oneCell') = true)
    (h : wpList Try.prog ops Q rest (a.put none undef) (w.setRow g cs)) : wpList Try.prog ops Q (⟨none, .store 26 x y, ty, pos, af, none⟩ :: rest) a w :=
  wpList_plain rfl fun _ hK => wp_store_row 26 x y rfl g cs hx hy t old hg (by rw [hl]; kernel_rfl) (by rw [ho, hl]) h1 (hK _ _ h)
theorem v6_store_new {ops : Array Oper} {rest : List Oper} {x y : Operand} {ty : TypeId} {pos : String} {af : Array Edge} {a : Act} {w : World} {Q : Exit → Act → World → Prop}
    {t : TypeId} {cs old : Array Value} (hx : a.eval x = .pointer (some ⟨w.heap.size, 0, none⟩)) (hy : a.eval y = .agg cs) (ho : old.size = 37) (hl : cs.size = 37) (h1 : cs.all (·.oneCell') = true)
    (h : wpList Try.prog ops Q rest (a.put none undef) (w.alloc (.cells cs t))) : wpList Try.prog ops Q (⟨none, .store 26 x y, ty, pos, af, none⟩ :: rest) a (w.alloc (.cells old t)) :=
  v6_store hx hy (World.alloc_heap_new w _) ho hl h1 (by rw [World.setRow_alloc_new]; exact h)
theorem At6.of_heap {w : World} {g : Nat} {q : P6} {A : Option Addr} {c : Nat} {cs : List Value} (h : w.heap[g]? = some (.cells cs.toArray 26 (0, 0))) (hc : cs = v6l q A c) : At6 w g q A c := fun j v hj => by
  subst hc
  rw [cell_of_row w g (0 + j) _ _ (0, 0) h, Nat.zero_add, List.getElem?_toArray]; exact hj
theorem six_cells (q : P6) (A : Option Addr) (c : Nat) (ss dd : List UInt8) (hs : ss.length = 16) (hd : dd.length = 16) :
    splice (splice (v6l ⟨q.traffic, q.flow, q.next, q.hop, nul, nul, q.dat⟩ A c) 4 (row ss)) 20 (row dd) = v6l ⟨q.traffic, q.flow, q.next, q.hop, ss, dd, q.dat⟩ A c := by
  have e0 : (row nul).length = 16 := by rw [row_length]; rfl
  have es : (row ss).length = 16 := by rw [row_length, hs]
  have ed : (row dd).length = 16 := by rw [row_length, hd]
  simp only [v6l]
  rw [List.append_assoc, List.append_assoc, splice_mid4 _ _ _ 4 rfl, es, List.drop_append_of_le_length (by omega), List.drop_of_length_le (by omega), List.nil_append,
    splice_mid4 _ _ _ 20 (by simp [es]), ed, List.drop_append_of_le_length (by omega), List.drop_of_length_le (by omega), List.nil_append]
section
variable (b : List UInt8) (A : Option Addr) (c : Nat) (w : World)
set_option maxRecDepth 100000 in
set_option maxHeartbeats 1000000 in
theorem c6quoted (B : Nat) (hR : Arg w B A c b) (hB : B ≤ w.heap.size) (hl : b.length ≤ 1000000) :
    Calls Try.prog 35 #[.slice A b.length c] w fun e w' => ∃ P p, e = .returned (.tuple #[v6v (prs6 b true) P p, .int .i64 (bad6 b true)]) ∧ Made w w' (.slice P (prs6 b true).dat.length p) (prs6 b true).dat := by
  have hOR0 := OwnR.new w (v6a p6z none 0) 26
  have hg0 := World.alloc_heap_new w (.cells (v6a p6z none 0) 26)
  have hcap := hR.cap
  go_enter Try.func35, Try.ntmps35
  go_upto_region 1 with fail
  have hOR : OwnR w 26 37 (w.alloc (.cells #[.int .i64 0, .int .i64 0, .int .i64 0, .int .i64 0, .int .u8 0, .int .u8 0, .int .u8 0, .int .u8 0, .int .u8 0, .int .u8 0, .int .u8 0, .int .u8 0, .int .u8 0, .int .u8 0, .int .u8 0, .int .u8 0, .int .u8 0, .int .u8 0, .int .u8 0, .int .u8 0, .int .u8 0, .int .u8 0, .int .u8 0, .int .u8 0, .int .u8 0, .int .u8 0, .int .u8 0, .int .u8 0, .int .u8 0, .int .u8 0, .int .u8 0, .int .u8 0, .int .u8 0, .int .u8 0, .int .u8 0, .int .u8 0, .slice none 0 0] 26)) := hOR0
  have hg : (w.alloc (.cells #[.int .i64 0, .int .i64 0, .int .i64 0, .int .i64 0, .int .u8 0, .int .u8 0, .int .u8 0, .int .u8 0, .int .u8 0, .int .u8 0, .int .u8 0, .int .u8 0, .int .u8 0, .int .u8 0, .int .u8 0, .int .u8 0, .int .u8 0, .int .u8 0, .int .u8 0, .int .u8 0, .int .u8 0, .int .u8 0, .int .u8 0, .int .u8 0, .int .u8 0, .int .u8 0, .int .u8 0, .int .u8 0, .int .u8 0, .int .u8 0, .int .u8 0, .int .u8 0, .int .u8 0, .int .u8 0, .int .u8 0, .int .u8 0, .slice none 0 0] 26)).heap[w.heap.size]? = some (.cells (v6a p6z none 0) 26 (0, 0)) := hg0
  clear hOR0 hg0
  generalize w.alloc (.cells #[.int .i64 0, .int .i64 0, .int .i64 0, .int .i64 0, .int .u8 0, .int .u8 0, .int .u8 0, .int .u8 0, .int .u8 0, .int .u8 0, .int .u8 0, .int .u8 0, .int .u8 0, .int .u8 0, .int .u8 0, .int .u8 0, .int .u8 0, .int .u8 0, .int .u8 0, .int .u8 0, .int .u8 0, .int .u8 0, .int .u8 0, .int .u8 0, .int .u8 0, .int .u8 0, .int .u8 0, .int .u8 0, .int .u8 0, .int .u8 0, .int .u8 0, .int .u8 0, .int .u8 0, .int .u8 0, .int .u8 0, .int .u8 0, .slice none 0 0] 26) = W at *
  by_cases h40 : b.length < 40
  · have hd40 : decide ((b.length : Int) < 40) = true := by simp; omega
    have HB := Lib.hid (show bad6 b true = 3 by rw [bad6, if_pos h40])
    have HE2 := HB
    have HE1 := Lib.hid (show prs6 b true = p6z by rw [prs6, if_neg (by rw [HB.out]; decide)])
    go_wp2_with (first | ((with_reducible show wpList _ _ _ (Oper.mk _ (Op.store _ _ _) _ _ _ _ :: _) _ _); refine v6_store (g := w.heap.size) (cs := v6a p6z none 0) rfl rfl hg rfl rfl (v6a_one _ _ _) ?_))
    exact bodyPost_ret (res2 rfl rfl (run_loadVar_row _ _ _ 26 (v6a p6z none 0) _ _ (setRow_heap _ _ _ _ _ _ hg) Try.underlying26 rfl (by kernel_rfl))) rfl ⟨none, 0, by rw [HE1.out, HE2.out]; rfl, by rw [HE1.out]; exact Made.nil _ _ (below_row hOR.b (Nat.le_refl _))⟩
    
  · have hd40 : decide ((b.length : Int) < 40) = false := by simp; omega
    have G0 := Lib.hid (get_four (b := b) (i := 0) (by omega))
    obtain ⟨N, hN⟩ : ∃ N, N = n4 b 0 := ⟨_, rfl⟩
    have hNb := n4_bd b 0
    rw [← hN] at G0 hNb
    have b0 := byt_lo b 0; have b0' := byt_hi b 0; have b1 := byt_lo b 1; have b1' := byt_hi b 1; have b2 := byt_lo b 2; have b2' := byt_hi b 2; have b3 := byt_lo b 3; have b3' := byt_hi b 3
    have HN := Lib.hid (show N = ((byt b 0 * 256 + byt b 1) * 256 + byt b 2) * 256 + byt b 3 from hN)
    clear hN
    go_upto_region 4 with (go_at_call 53; refine (get6_any A b c B _ _ _ (hR.below (hOR.b.mono hB)).rd (by omega) hR.cap).mono ?_; rintro e w' ⟨rfl, rfl⟩; rw [show getV b 0 4 = N from G0.out])
    have G6 := Lib.hid (get_one (b := b) (i := 6) (by omega))
    have G7 := Lib.hid (get_one (b := b) (i := 7) (by omega))
    have G4 := Lib.hid (get_two (b := b) (i := 4) (by omega))
    by_cases h6 : byt b 0 / 16 = 6
    · have e28 : N / 268435456 = 6 := by have := HN.out; omega
      have d28 : (N / 268435456 != 6) = false := by simp [e28]
      have n4b := n2_bd b 4
      obtain ⟨D, hD⟩ : ∃ D, D = (b.take (end6 b)).drop 40 := ⟨_, rfl⟩
      obtain ⟨SS, hSS⟩ : ∃ D, D = (b.take 24).drop 8 := ⟨_, rfl⟩
      obtain ⟨DD, hDD⟩ : ∃ D, D = (b.take 40).drop 24 := ⟨_, rfl⟩
      have HSl := Lib.hid (show SS.length = 16 by rw [hSS]; simp; omega)
      have HDl := Lib.hid (show DD.length = 16 by rw [hDD]; simp; omega)
      have he6 : end6 b ≤ b.length := by unfold end6; omega
      have HLl := Lib.hid (show D.length = end6 b - 40 by rw [hD]; simp; omega)
      have hS8 : Arg w B (cutA A c 8) (c - 8) SS := by rw [hSS]; exact hR.cut 8 24 (by omega)
      have hD8 : Arg w B (cutA A c 24) (c - 24) DD := by rw [hDD]; exact hR.cut 24 40 (by omega)
      have hA8 : Arg w B (cutA A c 40) (c - 40) D := by rw [hD]; exact hR.cut 40 (end6 b) he6
      have HQ := Lib.hid (show raw6 b = ⟨N / 1048576 % 256, N % 1048576, byt b 6, byt b 7, SS, DD, D⟩ by
        rw [raw6, ← hD, hSS, hDD, List.drop_take, List.drop_take]
        have e := HN.out
        congr 1 <;> omega)
      have HB := Lib.hid (show bad6 b true = 0 by rw [bad6, if_neg h40, if_neg (by omega), if_neg (by simp)])
      have HE1 := Lib.hid (show prs6 b true = raw6 b by rw [prs6, if_pos HB.out])
      have HE6 := Lib.hid (show end6 b = 40 + min (n2 b 4).toNat (b.length - 40) from rfl)
      clear hD hSS hDD he6
      have hlt := hOR.lt
      have hM0 : ∀ h : Int, 0 ≤ h → Hid (h = (end6 b : Int)) → D.length = h.toNat - (40 : Int).toNat := fun h h0 hh => by
        have := hh.out; have := HLl.out; rw [this]; omega
      have HMx := Lib.hid hM0
      clear hM0
      rcases Int.lt_or_le (40 + n2 b 4) (b.length : Int) with hmn | hmn
      · have HM := Lib.hid (show (40 + n2 b 4) = (end6 b : Int) by have := HE6.out; omega)
        have HML := Lib.hid (HMx.out _ (by omega) HM)
        go_upto_region 7 with (first
          | (go_at_call 53; ((with_reducible refine (get6_any A b c B 6 1 _ (hR.below (hOR.b.mono hB)).rd (by omega) hR.cap).mono ?_); rintro e w' ⟨rfl, rfl⟩; rw [show getV b 6 1 = byt b 6 from G6.out]))
          | (go_at_call 53; ((with_reducible refine (get6_any A b c B 7 1 _ (hR.below (hOR.b.mono hB)).rd (by omega) hR.cap).mono ?_); rintro e w' ⟨rfl, rfl⟩; rw [show getV b 7 1 = byt b 7 from G7.out]))
          | (go_at_call 53; ((with_reducible refine (get6_any A b c B 4 2 _ (hR.below (hOR.b.mono hB)).rd (by omega) hR.cap).mono ?_); rintro e w' ⟨rfl, rfl⟩; rw [show getV b 4 2 = n2 b 4 from G4.out]))
          | ((with_reducible show wpList _ _ _ (Oper.mk _ (Op.slice _ _ _ _ _) _ _ _ _ :: _) _ _); (refine wpList_val rfl (run_cut_lh rfl rfl rfl rfl (l := 40) (h := (40 + n2 b 4)) (by omega) (by omega) (by omega) HML.out) ?_))
          | (go_at_call 54; (refine (fresh_any (cutA A c 40) D (c - 40) B _ (hA8.below (hOR.b.mono hB)) (by have := HLl.out; have := HM.out; omega)).mono ?_); rintro e w1 ⟨v1, rfl, m1⟩; obtain ⟨P, p, rfl, ga, oa, xa⟩ := made_shape m1)
          | ((with_reducible show wpList _ _ _ (Oper.mk _ (Op.store _ _ _) _ _ _ _ :: _) _ _); refine v6_store_new (cs := v6a ⟨N / 1048576 % 256, N % 1048576, byt b 6, byt b 7, nul, nul, D⟩ P p) rfl rfl rfl rfl (v6a_one _ _ _) ?_))
        have hz5 := World.alloc_heap_new w1 (.cells (v6a ⟨N / 1048576 % 256, N % 1048576, byt b 6, byt b 7, nul, nul, D⟩ P p) 26)
        have hOR5 : OwnR w 26 37 (w1.alloc (.cells (v6a ⟨N / 1048576 % 256, N % 1048576, byt b 6, byt b 7, nul, nul, D⟩ P p) 26)) := (hOR.step xa).alloc _
        have x15 : Below w1.heap.size w1 (w1.alloc (.cells (v6a ⟨N / 1048576 % 256, N % 1048576, byt b 6, byt b 7, nul, nul, D⟩ P p) 26)) := (Below.refl _ w1).alloc (Nat.le_refl _) _
        obtain ⟨Z0, hZ0⟩ : ∃ Z, Z = v6l ⟨N / 1048576 % 256, N % 1048576, byt b 6, byt b 7, nul, nul, D⟩ P p := ⟨_, rfl⟩
        have HZ0 := Lib.hid (show Z0.length = 37 by rw [hZ0]; exact v6l_len rfl rfl)
        have HG0 := Lib.hid (show (w1.alloc (.cells (v6a ⟨N / 1048576 % 256, N % 1048576, byt b 6, byt b 7, nul, nul, D⟩ P p) 26)).heap[w1.heap.size]? = some (.cells Z0.toArray 26 (0, 0)) by rw [hZ0]; exact hz5)
        have HZC := Lib.hid (show splice (splice Z0 4 (row SS)) 20 (row DD) = v6l ⟨N / 1048576 % 256, N % 1048576, byt b 6, byt b 7, SS, DD, D⟩ P p by rw [hZ0]; exact six_cells ⟨N / 1048576 % 256, N % 1048576, byt b 6, byt b 7, nul, nul, D⟩ P p SS DD HSl.out HDl.out)
        have qz := hOR5.b
        have qz1 : w.heap.size ≤ w1.heap.size := (hOR.step xa).b.size
        have qz2 : w.heap.size < w1.heap.size := (hOR.step xa).lt
        clear hz5 hZ0
        generalize w1.alloc (.cells (v6a ⟨N / 1048576 % 256, N % 1048576, byt b 6, byt b 7, nul, nul, D⟩ P p) 26) = W5 at *
        refine wp_region_held_drew (S := fun w' => Below w1.heap.size W5 w') (by kernel_rfl) (show Below w1.heap.size W5 W5.drew from ⟨rfl, rfl, rfl, Nat.le_refl _, fun _ _ => rfl⟩) (fun hS => ?_)
        refine held_pure (i := 0) (oi := ⟨some 35, _, _, _, _, _⟩) rfl (by kernel_rfl) (by kernel_rfl) (by kernel_rfl) (fun _ _ _ h => h) (by rfl) (v := ?_) (fun w hSw => ?_) hS (fun hS => ?_)
        rotate_left
        · go_simp; try with_reducible rfl
        try go_frame
        refine held_pure (i := 1) (oi := ⟨some 36, _, _, _, _, _⟩) rfl (by kernel_rfl) (by kernel_rfl) (by kernel_rfl) (fun _ _ _ h => h) (by rfl) (fun w hSw => run_slice_six rfl rfl) hS (fun hS => ?_)
        try go_frame
        refine held_pure (i := 2) (oi := ⟨some 37, _, _, _, _, _⟩) rfl (by kernel_rfl) (by kernel_rfl) (by kernel_rfl) (fun _ _ _ h => h) (by rfl) (v := ?_) (fun w hSw => ?_) hS (fun hS => ?_)
        rotate_left
        · go_simp; try with_reducible rfl
        try go_frame
        refine held_pure (i := 3) (oi := ⟨some 38, _, _, _, _, _⟩) rfl (by kernel_rfl) (by kernel_rfl) (by kernel_rfl) (fun _ _ _ h => h) (by rfl) (fun w hSw => run_cut_lh rfl rfl rfl rfl (l := 8) (h := 24) (by omega) (by omega) (by omega) (m := 16) rfl) hS (fun hS => ?_)
        try go_frame
        refine wpAnyH_ready (rs := [4]) (by kernel_rfl) (by simp) (AllReadyH.cons (o := ⟨some 39, _, _, _, _, _⟩) rfl (fun K hK => ?_) AllReadyH.nil)
        refine copy_cells rfl _ _ rfl w1.heap.size 4 16 _ SS _ B _ rfl (by rw [HSl.out]; rfl) Z0 HG0.out (by rw [HSl.out]; decide) (hS8.rd.below ((qz.trans (hS.mono qz1)).mono hB)) (by rw [HSl.out, HZ0.out]; decide) W5 w1.heap.size hS (Nat.le_refl _) ?_
        intro w7 HG7 hB7
        refine hK.out _ _ hB7 (fun hS => ?_)
        clear hK K
        try go_frame
        refine wpAnyH_done (by kernel_rfl) ?_ _
        go_wp2_with fail
        obtain ⟨Z7, hZ7⟩ : ∃ Z, Z = splice Z0 4 (row SS) := ⟨_, rfl⟩
        have HZ7 := Lib.hid (show Z7.length = 37 by rw [hZ7, length_splice _ _ _ (by rw [row_length, HSl.out, HZ0.out]; decide), HZ0.out])
        rw [← hZ7] at HG7 HZC
        clear hZ7
        refine wp_region_held_drew (S := fun w' => Below w1.heap.size W5 w') (by kernel_rfl) hB7.drew (fun hS => ?_)
        refine held_pure (i := 0) (oi := ⟨some 40, _, _, _, _, _⟩) rfl (by kernel_rfl) (by kernel_rfl) (by kernel_rfl) (fun _ _ _ h => h) (by rfl) (v := ?_) (fun w hSw => ?_) hS (fun hS => ?_)
        rotate_left
        · go_simp; try with_reducible rfl
        try go_frame
        refine held_pure (i := 1) (oi := ⟨some 41, _, _, _, _, _⟩) rfl (by kernel_rfl) (by kernel_rfl) (by kernel_rfl) (fun _ _ _ h => h) (by rfl) (fun w hSw => run_slice_six rfl rfl) hS (fun hS => ?_)
        try go_frame
        refine held_pure (i := 2) (oi := ⟨some 42, _, _, _, _, _⟩) rfl (by kernel_rfl) (by kernel_rfl) (by kernel_rfl) (fun _ _ _ h => h) (by rfl) (v := ?_) (fun w hSw => ?_) hS (fun hS => ?_)
        rotate_left
        · go_simp; try with_reducible rfl
        try go_frame
        refine held_pure (i := 3) (oi := ⟨some 43, _, _, _, _, _⟩) rfl (by kernel_rfl) (by kernel_rfl) (by kernel_rfl) (fun _ _ _ h => h) (by rfl) (fun w hSw => run_cut_lh rfl rfl rfl rfl (l := 24) (h := 40) (by omega) (by omega) (by omega) (m := 16) rfl) hS (fun hS => ?_)
        try go_frame
        refine wpAnyH_ready (rs := [4]) (by kernel_rfl) (by simp) (AllReadyH.cons (o := ⟨some 44, _, _, _, _, _⟩) rfl (fun K hK => ?_) AllReadyH.nil)
        refine copy_cells rfl _ _ rfl w1.heap.size 20 16 _ DD _ B _ rfl (by rw [HDl.out]; rfl) Z7 HG7.out (by rw [HDl.out]; decide) (hD8.rd.below ((qz.trans (hS.mono qz1)).mono hB)) (by rw [HDl.out, HZ7.out]; decide) W5 w1.heap.size hS (Nat.le_refl _) ?_
        intro w8 HG8 hB8
        refine hK.out _ _ hB8 (fun hS => ?_)
        clear hK K
        try go_frame
        refine wpAnyH_done (by kernel_rfl) ?_ _
        have hAt8 := At6.of_heap HG8.out HZC.out
        obtain ⟨old, hold, hgo⟩ := hOR5.2
        have hgo8 := (hB8.block w.heap.size qz2).trans hgo
        go_wp2_with (first
          | ((with_reducible show wpList _ _ _ (Oper.mk _ (Op.load _ _) _ _ _ _ :: _) _ _); refine wpList_val rfl (run_load_v6 rfl rfl hAt8 (v6l_len HSl.out HDl.out)) ?_)
          | ((with_reducible show wpList _ _ _ (Oper.mk _ (Op.store _ _ _) _ _ _ _ :: _) _ _); refine v6_store (g := w.heap.size) (cs := v6a ⟨N / 1048576 % 256, N % 1048576, byt b 6, byt b 7, SS, DD, D⟩ P p) rfl rfl hgo8 hold (by rw [v6a, List.size_toArray]; exact v6l_len HSl.out HDl.out) (v6a_one _ _ _) ?_))
        exact bodyPost_ret (res2 rfl rfl (run_loadVar_row _ _ _ 26 (v6a ⟨N / 1048576 % 256, N % 1048576, byt b 6, byt b 7, SS, DD, D⟩ P p) _ _ (setRow_heap _ _ _ _ _ _ hgo8) Try.underlying26 rfl (by rw [v6a, List.size_toArray, v6l_len HSl.out HDl.out]; kernel_rfl))) rfl ⟨P, p, by rw [HE1.out, HB.out, HQ.out]; rfl, by rw [HE1.out, HQ.out]; exact (m1.later (x15.trans hB8)).row hOR.b hlt⟩
      · have HM := Lib.hid (show (b.length : Int) = (end6 b : Int) by have := HE6.out; omega)
        have HML := Lib.hid (HMx.out _ (by omega) HM)
        go_upto_region 7 with (first
          | (go_at_call 53; ((with_reducible refine (get6_any A b c B 6 1 _ (hR.below (hOR.b.mono hB)).rd (by omega) hR.cap).mono ?_); rintro e w' ⟨rfl, rfl⟩; rw [show getV b 6 1 = byt b 6 from G6.out]))
          | (go_at_call 53; ((with_reducible refine (get6_any A b c B 7 1 _ (hR.below (hOR.b.mono hB)).rd (by omega) hR.cap).mono ?_); rintro e w' ⟨rfl, rfl⟩; rw [show getV b 7 1 = byt b 7 from G7.out]))
          | (go_at_call 53; ((with_reducible refine (get6_any A b c B 4 2 _ (hR.below (hOR.b.mono hB)).rd (by omega) hR.cap).mono ?_); rintro e w' ⟨rfl, rfl⟩; rw [show getV b 4 2 = n2 b 4 from G4.out]))
          | ((with_reducible show wpList _ _ _ (Oper.mk _ (Op.slice _ _ _ _ _) _ _ _ _ :: _) _ _); (refine wpList_val rfl (run_cut_lh rfl rfl rfl rfl (l := 40) (h := (b.length : Int)) (by omega) (by omega) (by omega) HML.out) ?_))
          | (go_at_call 54; (refine (fresh_any (cutA A c 40) D (c - 40) B _ (hA8.below (hOR.b.mono hB)) (by have := HLl.out; have := HM.out; omega)).mono ?_); rintro e w1 ⟨v1, rfl, m1⟩; obtain ⟨P, p, rfl, ga, oa, xa⟩ := made_shape m1)
          | ((with_reducible show wpList _ _ _ (Oper.mk _ (Op.store _ _ _) _ _ _ _ :: _) _ _); refine v6_store_new (cs := v6a ⟨N / 1048576 % 256, N % 1048576, byt b 6, byt b 7, nul, nul, D⟩ P p) rfl rfl rfl rfl (v6a_one _ _ _) ?_))
        have hz5 := World.alloc_heap_new w1 (.cells (v6a ⟨N / 1048576 % 256, N % 1048576, byt b 6, byt b 7, nul, nul, D⟩ P p) 26)
        have hOR5 : OwnR w 26 37 (w1.alloc (.cells (v6a ⟨N / 1048576 % 256, N % 1048576, byt b 6, byt b 7, nul, nul, D⟩ P p) 26)) := (hOR.step xa).alloc _
        have x15 : Below w1.heap.size w1 (w1.alloc (.cells (v6a ⟨N / 1048576 % 256, N % 1048576, byt b 6, byt b 7, nul, nul, D⟩ P p) 26)) := (Below.refl _ w1).alloc (Nat.le_refl _) _
        obtain ⟨Z0, hZ0⟩ : ∃ Z, Z = v6l ⟨N / 1048576 % 256, N % 1048576, byt b 6, byt b 7, nul, nul, D⟩ P p := ⟨_, rfl⟩
        have HZ0 := Lib.hid (show Z0.length = 37 by rw [hZ0]; exact v6l_len rfl rfl)
        have HG0 := Lib.hid (show (w1.alloc (.cells (v6a ⟨N / 1048576 % 256, N % 1048576, byt b 6, byt b 7, nul, nul, D⟩ P p) 26)).heap[w1.heap.size]? = some (.cells Z0.toArray 26 (0, 0)) by rw [hZ0]; exact hz5)
        have HZC := Lib.hid (show splice (splice Z0 4 (row SS)) 20 (row DD) = v6l ⟨N / 1048576 % 256, N % 1048576, byt b 6, byt b 7, SS, DD, D⟩ P p by rw [hZ0]; exact six_cells ⟨N / 1048576 % 256, N % 1048576, byt b 6, byt b 7, nul, nul, D⟩ P p SS DD HSl.out HDl.out)
        have qz := hOR5.b
        have qz1 : w.heap.size ≤ w1.heap.size := (hOR.step xa).b.size
        have qz2 : w.heap.size < w1.heap.size := (hOR.step xa).lt
        clear hz5 hZ0
        generalize w1.alloc (.cells (v6a ⟨N / 1048576 % 256, N % 1048576, byt b 6, byt b 7, nul, nul, D⟩ P p) 26) = W5 at *
        refine wp_region_held_drew (S := fun w' => Below w1.heap.size W5 w') (by kernel_rfl) (show Below w1.heap.size W5 W5.drew from ⟨rfl, rfl, rfl, Nat.le_refl _, fun _ _ => rfl⟩) (fun hS => ?_)
        refine held_pure (i := 0) (oi := ⟨some 35, _, _, _, _, _⟩) rfl (by kernel_rfl) (by kernel_rfl) (by kernel_rfl) (fun _ _ _ h => h) (by rfl) (v := ?_) (fun w hSw => ?_) hS (fun hS => ?_)
        rotate_left
        · go_simp; try with_reducible rfl
        try go_frame
        refine held_pure (i := 1) (oi := ⟨some 36, _, _, _, _, _⟩) rfl (by kernel_rfl) (by kernel_rfl) (by kernel_rfl) (fun _ _ _ h => h) (by rfl) (fun w hSw => run_slice_six rfl rfl) hS (fun hS => ?_)
        try go_frame
        refine held_pure (i := 2) (oi := ⟨some 37, _, _, _, _, _⟩) rfl (by kernel_rfl) (by kernel_rfl) (by kernel_rfl) (fun _ _ _ h => h) (by rfl) (v := ?_) (fun w hSw => ?_) hS (fun hS => ?_)
        rotate_left
        · go_simp; try with_reducible rfl
        try go_frame
        refine held_pure (i := 3) (oi := ⟨some 38, _, _, _, _, _⟩) rfl (by kernel_rfl) (by kernel_rfl) (by kernel_rfl) (fun _ _ _ h => h) (by rfl) (fun w hSw => run_cut_lh rfl rfl rfl rfl (l := 8) (h := 24) (by omega) (by omega) (by omega) (m := 16) rfl) hS (fun hS => ?_)
        try go_frame
        refine wpAnyH_ready (rs := [4]) (by kernel_rfl) (by simp) (AllReadyH.cons (o := ⟨some 39, _, _, _, _, _⟩) rfl (fun K hK => ?_) AllReadyH.nil)
        refine copy_cells rfl _ _ rfl w1.heap.size 4 16 _ SS _ B _ rfl (by rw [HSl.out]; rfl) Z0 HG0.out (by rw [HSl.out]; decide) (hS8.rd.below ((qz.trans (hS.mono qz1)).mono hB)) (by rw [HSl.out, HZ0.out]; decide) W5 w1.heap.size hS (Nat.le_refl _) ?_
        intro w7 HG7 hB7
        refine hK.out _ _ hB7 (fun hS => ?_)
        clear hK K
        try go_frame
        refine wpAnyH_done (by kernel_rfl) ?_ _
        go_wp2_with fail
        obtain ⟨Z7, hZ7⟩ : ∃ Z, Z = splice Z0 4 (row SS) := ⟨_, rfl⟩
        have HZ7 := Lib.hid (show Z7.length = 37 by rw [hZ7, length_splice _ _ _ (by rw [row_length, HSl.out, HZ0.out]; decide), HZ0.out])
        rw [← hZ7] at HG7 HZC
        clear hZ7
        refine wp_region_held_drew (S := fun w' => Below w1.heap.size W5 w') (by kernel_rfl) hB7.drew (fun hS => ?_)
        refine held_pure (i := 0) (oi := ⟨some 40, _, _, _, _, _⟩) rfl (by kernel_rfl) (by kernel_rfl) (by kernel_rfl) (fun _ _ _ h => h) (by rfl) (v := ?_) (fun w hSw => ?_) hS (fun hS => ?_)
        rotate_left
        · go_simp; try with_reducible rfl
        try go_frame
        refine held_pure (i := 1) (oi := ⟨some 41, _, _, _, _, _⟩) rfl (by kernel_rfl) (by kernel_rfl) (by kernel_rfl) (fun _ _ _ h => h) (by rfl) (fun w hSw => run_slice_six rfl rfl) hS (fun hS => ?_)
        try go_frame
        refine held_pure (i := 2) (oi := ⟨some 42, _, _, _, _, _⟩) rfl (by kernel_rfl) (by kernel_rfl) (by kernel_rfl) (fun _ _ _ h => h) (by rfl) (v := ?_) (fun w hSw => ?_) hS (fun hS => ?_)
        rotate_left
        · go_simp; try with_reducible rfl
        try go_frame
        refine held_pure (i := 3) (oi := ⟨some 43, _, _, _, _, _⟩) rfl (by kernel_rfl) (by kernel_rfl) (by kernel_rfl) (fun _ _ _ h => h) (by rfl) (fun w hSw => run_cut_lh rfl rfl rfl rfl (l := 24) (h := 40) (by omega) (by omega) (by omega) (m := 16) rfl) hS (fun hS => ?_)
        try go_frame
        refine wpAnyH_ready (rs := [4]) (by kernel_rfl) (by simp) (AllReadyH.cons (o := ⟨some 44, _, _, _, _, _⟩) rfl (fun K hK => ?_) AllReadyH.nil)
        refine copy_cells rfl _ _ rfl w1.heap.size 20 16 _ DD _ B _ rfl (by rw [HDl.out]; rfl) Z7 HG7.out (by rw [HDl.out]; decide) (hD8.rd.below ((qz.trans (hS.mono qz1)).mono hB)) (by rw [HDl.out, HZ7.out]; decide) W5 w1.heap.size hS (Nat.le_refl _) ?_
        intro w8 HG8 hB8
        refine hK.out _ _ hB8 (fun hS => ?_)
        clear hK K
        try go_frame
        refine wpAnyH_done (by kernel_rfl) ?_ _
        have hAt8 := At6.of_heap HG8.out HZC.out
        obtain ⟨old, hold, hgo⟩ := hOR5.2
        have hgo8 := (hB8.block w.heap.size qz2).trans hgo
        go_wp2_with (first
          | ((with_reducible show wpList _ _ _ (Oper.mk _ (Op.load _ _) _ _ _ _ :: _) _ _); refine wpList_val rfl (run_load_v6 rfl rfl hAt8 (v6l_len HSl.out HDl.out)) ?_)
          | ((with_reducible show wpList _ _ _ (Oper.mk _ (Op.store _ _ _) _ _ _ _ :: _) _ _); refine v6_store (g := w.heap.size) (cs := v6a ⟨N / 1048576 % 256, N % 1048576, byt b 6, byt b 7, SS, DD, D⟩ P p) rfl rfl hgo8 hold (by rw [v6a, List.size_toArray]; exact v6l_len HSl.out HDl.out) (v6a_one _ _ _) ?_))
        exact bodyPost_ret (res2 rfl rfl (run_loadVar_row _ _ _ 26 (v6a ⟨N / 1048576 % 256, N % 1048576, byt b 6, byt b 7, SS, DD, D⟩ P p) _ _ (setRow_heap _ _ _ _ _ _ hgo8) Try.underlying26 rfl (by rw [v6a, List.size_toArray, v6l_len HSl.out HDl.out]; kernel_rfl))) rfl ⟨P, p, by rw [HE1.out, HB.out, HQ.out]; rfl, by rw [HE1.out, HQ.out]; exact (m1.later (x15.trans hB8)).row hOR.b hlt⟩
    · have e28 : ¬ N / 268435456 = 6 := by have := HN.out; omega
      have d28 : (N / 268435456 != 6) = true := by simpa using e28
      have HB := Lib.hid (show bad6 b true = 4 by rw [bad6, if_neg h40, if_pos h6])
      have HE2 := HB
      have HE1 := Lib.hid (show prs6 b true = p6z by rw [prs6, if_neg (by rw [HB.out]; decide)])
      clear e28 h6
      go_wp2_with (first | ((with_reducible show wpList _ _ _ (Oper.mk _ (Op.store _ _ _) _ _ _ _ :: _) _ _); refine v6_store (g := w.heap.size) (cs := v6a p6z none 0) rfl rfl hg rfl rfl (v6a_one _ _ _) ?_))
      exact bodyPost_ret (res2 rfl rfl (run_loadVar_row _ _ _ 26 (v6a p6z none 0) _ _ (setRow_heap _ _ _ _ _ _ hg) Try.underlying26 rfl (by kernel_rfl))) rfl ⟨none, 0, by rw [HE1.out, HE2.out]; rfl, by rw [HE1.out]; exact Made.nil _ _ (below_row hOR.b (Nat.le_refl _))⟩
      
end
end Go.Proofs.Ytkfbamippjhjcaa

/-
  Contract of v4.Parse. Conditions are each theorem's own.
-/
namespace Go.Proofs.Ytkfbamippjhjcaa
open Go.RowKit

theorem v4a_one (q : P4) (A : Option Addr) (c : Nat) (A' : Option Addr) (c' : Nat) : (v4a q A c A' c').all (·.oneCell') = true := by simp [v4a, Value.oneCell']
theorem v4_store {ops : Array Oper} {rest : List Oper} {x y : Operand} {ty : TypeId} {pos : String} {af : Array Edge} {a : Act} {w : World} {Q : Exit → Act → World → Prop}
    {g : Nat} {t : TypeId} {cs old : Array Value} (hx : a.eval x = .pointer (some ⟨g, 0, none⟩)) (hy : a.eval y = .agg cs) (hg : w.heap[g]? = some (.cells old t (0, 0))) (ho : old.size = 11) (hl : cs.size = 11) (h1 : cs.all (·.oneCell') = true)
    (h : wpList Try.prog ops Q rest (a.put none undef) (w.setRow g cs)) : wpList Try.prog ops Q (⟨none, .store 28 x y, ty, pos, af, none⟩ :: rest) a w :=
  wpList_plain rfl fun _ hK => wp_store_row 28 x y rfl g cs hx hy t old hg (by rw [hl]; kernel_rfl) (by rw [ho, hl]) h1 (hK _ _ h)
theorem v4_store_new {ops : Array Oper} {rest : List Oper} {x y : Operand} {ty : TypeId} {pos : String} {af : Array Edge} {a : Act} {w : World} {Q : Exit → Act → World → Prop}
    {t : TypeId} {cs old : Array Value} (hx : a.eval x = .pointer (some ⟨w.heap.size, 0, none⟩)) (hy : a.eval y = .agg cs) (ho : old.size = 11) (hl : cs.size = 11) (h1 : cs.all (·.oneCell') = true)
    (h : wpList Try.prog ops Q rest (a.put none undef) (w.alloc (.cells cs t))) : wpList Try.prog ops Q (⟨none, .store 28 x y, ty, pos, af, none⟩ :: rest) a (w.alloc (.cells old t)) :=
  v4_store hx hy (World.alloc_heap_new w _) ho hl h1 (by rw [World.setRow_alloc_new]; exact h)
theorem bad4_lay (b : List UInt8) (quoted : Bool) : bad4 b quoted = if lay4 b quoted = 0 then (if quoted = false ∧ rightB [b.take (hlen b).toNat] = false then 5 else 0) else lay4 b quoted := by
  unfold bad4 lay4
  by_cases h1 : b.length < 20
  · rw [if_pos h1, if_pos h1, if_neg (by decide)]
  · rw [if_neg h1, if_neg h1]
    by_cases h2 : byt b 0 / 16 ≠ 4 ∨ hlen b < 20
    · rw [if_pos h2, if_pos h2, if_neg (by decide)]
    · rw [if_neg h2, if_neg h2]
      by_cases h3 : hlen b > (b.length : Int) ∨ (quoted = false ∧ n2 b 2 > (b.length : Int))
      · rw [if_pos h3, if_pos h3, if_neg (by decide)]
      · rw [if_neg h3, if_neg h3]
        by_cases h4 : n2 b 2 < hlen b ∨ n2 b 6 ≥ 32768
        · rw [if_pos h4, if_pos h4, if_neg (by decide)]
        · rw [if_neg h4, if_neg h4, if_pos rfl]
theorem lay4_zero {b : List UInt8} {quoted : Bool} (h : lay4 b quoted = 0) : 20 ≤ hlen b ∧ hlen b ≤ (b.length : Int) ∧ hlen b ≤ n2 b 2 ∧ (quoted = false → n2 b 2 ≤ (b.length : Int)) := by
  unfold lay4 at h
  by_cases h1 : b.length < 20
  · rw [if_pos h1] at h; omega
  · rw [if_neg h1] at h
    by_cases h2 : byt b 0 / 16 ≠ 4 ∨ hlen b < 20
    · rw [if_pos h2] at h; omega
    · rw [if_neg h2] at h
      by_cases h3 : hlen b > (b.length : Int) ∨ (quoted = false ∧ n2 b 2 > (b.length : Int))
      · rw [if_pos h3] at h; omega
      · rw [if_neg h3] at h
        by_cases h4 : n2 b 2 < hlen b ∨ n2 b 6 ≥ 32768
        · rw [if_pos h4] at h; omega
        · refine ⟨by omega, by omega, by omega, fun e => ?_⟩
          rcases Int.lt_or_le (b.length : Int) (n2 b 2) with h5 | h5
          · exact absurd (.inr ⟨e, h5⟩) h3
          · exact h5
theorem layV_no {n s k : Int} (h : k ≠ 0) : layV n s k = .tuple #[.int .i64 0, .int .i64 0, .int .i64 k] := by rw [layV, if_neg h, if_neg h]
section
variable (b : List UInt8) (A : Option Addr) (c : Nat) (w : World)
end
end Go.Proofs.Ytkfbamippjhjcaa

/-
  Contracts of layer 5's helpers of the statements: far, awake. Conditions are each theorem's own.
-/
namespace Go.Proofs.Ytkfbamippjhjcaa
open Go.RowKit

/-- An operation that is wanted and yields a value, in a list that goes in the order of the text. -/
theorem wpList_valw {P : Program} {ops : Array Oper} {rest : List Oper} {o : Oper} {a : Act} {w : World} {Q : Exit → Act → World → Prop} {v : Value} (hg : Region.wanted o (yielded ops a.tmps) = true) (hrun : (execOp a.eval o).run P w = .ok (.value v) w)
    (h : wpList P ops Q rest (a.put o.dst v) w) : wpList P ops Q (o :: rest) a w :=
  wpList_step fun K hK => by rw [if_pos hg]; unfold Oper.wp; rw [hrun]; exact hK _ _ h
def qa4 : P4 := ⟨0, 0, 0, 9, 17, 167772161, 3221225985, false, false, [], [7]⟩
def res4 (q : P4) : List UInt8 := if chk4 q = 0 then bld4 q else []
theorem res4_shape {q : P4} {w w' : World} {v : Value} (h : (chk4 q ≠ 0 → v = .slice none 0 0 ∧ Below w.heap.size w w') ∧ (chk4 q = 0 → Made w w' v (bld4 q))) :
    ∃ P k, v = .slice P (res4 q).length k ∧ Rd w' w'.heap.size P (res4 q) ∧ Below w.heap.size w w' := by
  by_cases hc : chk4 q = 0
  · obtain ⟨A, c, rfl, hl, hr, ho, hb⟩ := h.2 hc
    exact ⟨A, c, by rw [res4, if_pos hc], by rw [res4, if_pos hc]; exact hr, hb⟩
  · obtain ⟨rfl, hb⟩ := h.1 hc
    exact ⟨none, 0, by rw [res4, if_neg hc]; rfl, by rw [res4, if_neg hc]; exact Rd.nil, hb⟩
end Go.Proofs.Ytkfbamippjhjcaa

/-
  What layer 5's statement V4Back stands on besides: Right of the document's plain answers, of one. Conditions are each theorem's own.
-/
namespace Go.Proofs.Ytkfbamippjhjcaa
open Go.RowKit

theorem rright_one (A : Option Addr) (bs : List UInt8) (c B : Nat) (w : World) (h : Rd2 w B A [bs]) (hl : bs.length ≤ 1099511627000) :
    Calls Try.prog 83 #[.slice A 1 c] w fun e w' => e = .returned (.bool (rightB [bs])) ∧ ∃ n, w' = w.drewN n :=
  rright_any A [bs] c B w h (by simpa [bulk] using hl) (by simp)
theorem back_head {q : P4} {H : Nat} (hH : H = 20 + q.opt.length) : (bld4 q).take H = hd4 q (size4 q) (sum4 q) := by
  have := back_take (q := q) (more := []) H hH
  rwa [List.append_nil] at this
end Go.Proofs.Ytkfbamippjhjcaa

/-
  Contract of v6.Parse. Conditions are each theorem's own.
-/
namespace Go.Proofs.Ytkfbamippjhjcaa
open Go.RowKit

theorem end6_len (b : List UInt8) (h : ¬ b.length < 40) : ((b.take (end6 b)).drop 40).length = end6 b - 40 := by
  have : end6 b ≤ b.length := by unfold end6; omega
  simp; omega
theorem prs6_len (b : List UInt8) (u : Bool) : (prs6 b u).src.length = 16 ∧ (prs6 b u).dst.length = 16 := by
  unfold prs6
  by_cases h : bad6 b u = 0
  · rw [if_pos h]
    have h40 : ¬ b.length < 40 := fun h' => by rw [bad6, if_pos h'] at h; omega
    simp only [raw6, List.length_take, List.length_drop]
    omega
  · rw [if_neg h]; exact ⟨rfl, rfl⟩
section
variable (b : List UInt8) (A : Option Addr) (c : Nat) (w : World)
end
end Go.Proofs.Ytkfbamippjhjcaa

/-
  Single cells stored into a block of the call's own, as operations; a packet of IPv6 that is filled cell by cell. Conditions are each theorem's own.
-/
namespace Go.Proofs.Ytkfbamippjhjcaa
open Go.RowKit

section
variable {o : Oper} {a : Act} {w : World} {K : Act → World → Prop} {Q : Exit → Act → World → Prop} {x y : Operand} {p : Addr} {v0 : Value}
theorem store_int_wp {n : Int} (ho : o.op = .store 3 x y) (hx : a.eval x = .pointer (some p)) (hy : a.eval y = .int .i64 n) (hc : w.cell? p = some v0) (hf : w.frozen? p = false) (h : K (a.put o.dst undef) (w.setCell p (.int .i64 n))) : o.wp Try.prog a w K Q := by
  unfold Oper.wp execOp
  simp only [ho, hx, hy]
  go_simp
  exact h
theorem store_u8_wp {n : Int} (ho : o.op = .store 5 x y) (hx : a.eval x = .pointer (some p)) (hy : a.eval y = .int .u8 n) (hc : w.cell? p = some v0) (hf : w.frozen? p = false) (h : K (a.put o.dst undef) (w.setCell p (.int .u8 n))) : o.wp Try.prog a w K Q := by
  unfold Oper.wp execOp
  simp only [ho, hx, hy]
  go_simp
  exact h
end
theorem OwnR.row_other {w0 w : World} {t n g : Nat} {cs : Array Value} (h : OwnR w0 t n w) (hg : w0.heap.size < g) : OwnR w0 t n (w.setRow g cs) := by
  obtain ⟨hB, c0, hn, h0⟩ := h
  exact ⟨below_row hB (by omega), c0, hn, (setRow_other w g _ cs (by omega)).trans h0⟩
theorem OwnR.set {w0 w : World} {t n g i : Nat} {v : Value} (h : OwnR w0 t n w) (hg : w0.heap.size < g) : OwnR w0 t n (w.setCell ⟨g, i, none⟩ v) := by
  obtain ⟨hB, c0, hn, h0⟩ := h
  exact ⟨hB.setCell (p := ⟨g, i, none⟩) (by show _ ≤ g; omega) v, c0, hn, (heap_setCell_other w ⟨g, i, none⟩ _ v (by show _ ≠ g; omega)).trans h0⟩
/-- The result's block is there; block g holds packet q. -/
def St (w : World) (g : Nat) (q : P6) (A : Option Addr) (c : Nat) (w' : World) : Prop := OwnR w 26 37 w' ∧ w'.heap[g]? = some (.cells (v6a q A c) 26 (0, 0))
section
variable {w w' : World} {g i : Nat} {q q' : P6} {A A' : Option Addr} {c c' : Nat} {v : Value}
theorem St.set (h : St w g q A c w') (hg : w.heap.size < g) (hv : (v6a q A c).setIfInBounds i v = v6a q' A' c') : St w g q' A' c' (w'.setCell ⟨g, i, none⟩ v) :=
  ⟨h.1.set hg, by rw [heap_set h.2, hv]⟩
theorem St.step {w'' : World} (h : St w g q A c w') (hb : Below w'.heap.size w' w'') : St w g q A c w'' := ⟨h.1.step hb, (hb.block g (heap_lt h.2)).trans h.2⟩
theorem St.cell (h : St w g q A c w') {j : Nat} {u : Value} (hj : (v6l q A c)[j]? = some u) : w'.cell? ⟨g, j, none⟩ = some u := by
  rw [cell_of_row w' g j _ _ (0, 0) h.2, v6a, List.getElem?_toArray]; exact hj
theorem St.frozen (h : St w g q A c w') (j : Nat) : w'.frozen? ⟨g, j, none⟩ = false := heap_frozen h.2 j
end
/-- The first k bytes, and noughts up to 16. -/
def fil (l : List UInt8) (k : Nat) : List UInt8 := l.take k ++ List.replicate (16 - k) 0
theorem fil_len (l : List UInt8) {k : Nat} (hk : k ≤ 16) (hl : 16 ≤ l.length) : (fil l k).length = 16 := by simp [fil]; omega
theorem fil_zero (l : List UInt8) : fil l 0 = nul := rfl
theorem fil_all (l : List UInt8) : fil l 16 = l.take 16 := by simp [fil]
theorem fil_set (l : List UInt8) {k : Nat} (hk : k < 16) (hl : 16 ≤ l.length) : (fil l k).set k l[k] = fil l (k + 1) := by
  unfold fil
  have e : (l.take k).length = k := by simp; omega
  rw [List.set_append_right _ _ (by omega), e, Nat.sub_self, show 16 - k = (16 - (k + 1)) + 1 from by omega, List.replicate_succ, List.set_cons_zero, List.take_succ_eq_append_getElem (by omega), List.append_assoc]
  rfl
theorem row_setb (l : List UInt8) (k : Nat) (x : UInt8) : (row l).set k (.int .u8 (x.toNat : Int)) = row (l.set k x) := by simp [row, List.map_set]
theorem set_src (q : P6) (A : Option Addr) (c k : Nat) (x : UInt8) (hk : k < 16) (hs : q.src.length = 16) : (v6a q A c).setIfInBounds (4 + k) (.int .u8 (x.toNat : Int)) = v6a ⟨q.traffic, q.flow, q.next, q.hop, q.src.set k x, q.dst, q.dat⟩ A c := by
  have h4 : ([Value.int .i64 q.traffic, .int .i64 q.flow, .int .i64 q.next, .int .i64 q.hop]).length = 4 := rfl
  rw [v6a, v6a, List.setIfInBounds_toArray, v6l, v6l]
  congr 1
  simp only [List.append_assoc]
  rw [List.set_append_right _ _ (by rw [h4]; omega), h4, show 4 + k - 4 = k from by omega, List.set_append_left _ _ (by rw [row_length]; omega), row_setb]
theorem set_dst (q : P6) (A : Option Addr) (c k : Nat) (x : UInt8) (hk : k < 16) (hs : q.src.length = 16) (hd : q.dst.length = 16) : (v6a q A c).setIfInBounds (20 + k) (.int .u8 (x.toNat : Int)) = v6a ⟨q.traffic, q.flow, q.next, q.hop, q.src, q.dst.set k x, q.dat⟩ A c := by
  have h4 : ([Value.int .i64 q.traffic, .int .i64 q.flow, .int .i64 q.next, .int .i64 q.hop] ++ row q.src).length = 20 := by simp [row_length, hs]
  rw [v6a, v6a, List.setIfInBounds_toArray, v6l, v6l]
  congr 1
  rw [List.append_assoc, List.append_assoc (_ ++ row q.src), List.set_append_right _ _ (by rw [h4]; omega), h4, show 20 + k - 20 = k from by omega, List.set_append_left _ _ (by rw [row_length]; omega), row_setb]
theorem set_dat (q : P6) (A P : Option Addr) (c p : Nat) (D : List UInt8) (hs : q.src.length = 16) (hd : q.dst.length = 16) : (v6a q A c).setIfInBounds 36 (.slice P D.length p) = v6a ⟨q.traffic, q.flow, q.next, q.hop, q.src, q.dst, D⟩ P p := by
  have h4 : ([Value.int .i64 q.traffic, .int .i64 q.flow, .int .i64 q.next, .int .i64 q.hop] ++ row q.src ++ row q.dst).length = 36 := by simp [row_length, hs, hd]
  rw [v6a, v6a, List.setIfInBounds_toArray, v6l, v6l]
  congr 1
  rw [List.set_append_right _ _ (by rw [h4]; omega), h4]; rfl
end Go.Proofs.Ytkfbamippjhjcaa

/-
  The struct api.UDP as data: its cells, its value, a block that holds one. Conditions are each theorem's own.
-/
namespace Go.Proofs.Ytkfbamippjhjcaa
open Go.RowKit Go.ChangeShapes Go.WideShapes

structure PU where
  src : Int
  dst : Int
  nosum : Bool
  dat : List UInt8
def usz : PU := ⟨0, 0, false, []⟩
/-- Its cells. -/
def usa (q : PU) (A : Option Addr) (c : Nat) : Array Value := #[.int .i64 q.src, .int .i64 q.dst, .bool q.nosum, .slice A q.dat.length c]
def usv (q : PU) (A : Option Addr) (c : Nat) : Value := .agg #[.int .i64 q.src, .int .i64 q.dst, .bool q.nosum, .slice A q.dat.length c]
theorem usv_eq (q : PU) (A : Option Addr) (c : Nat) : usv q A c = .agg (usa q A c) := rfl
def PU.fits (q : PU) : Prop := ∀ n ∈ [q.src, q.dst], (Lit.int .i64 n).wf = true
theorem usa_size (q : PU) (A : Option Addr) (c : Nat) : (usa q A c).size = 4 := rfl
theorem us_one (q : PU) (A : Option Addr) (c : Nat) : (usa q A c).all (·.oneCell') = true := by simp [usa, Value.oneCell']
section
variable {H : Type} {enc : TypeId × Value → H} {w : World} {base : Nat} {v : Value} {d : DataW H} {p : List MemPlace}
set_option maxRecDepth 100000 in
theorem get_us (hv : Value.okWide Try.prog w .any base 73 v) (h : DataW.Trod enc Try.prog w 0 (fun _ => true) true 73 v d p) :
    ∃ q A c, v = usv q A c ∧ Arg w w.heap.size A c q.dat ∧ c ≤ maxLen ∧ q.fits := by
  obtain ⟨cs, rfl, hcs⟩ : ∃ cs, v = .agg cs ∧ cs.size = Try.prog.cellsOf 73 := by
    have := hv
    simp only [Value.okWide, Try.underlying73] at this
    obtain ⟨cs, h1, h2, _⟩ := this
    exact ⟨cs, h1, h2⟩
  obtain ⟨fuel, hf⟩ := h
  obtain ⟨xs, n, _, _, hl, hxs, hall⟩ := DataW.trod_struct Try.underlying73 hf
  have hci : Try.prog.cellsOf 3 = 1 := by kernel_rfl
  have hcb : Try.prog.cellsOf 4 = 1 := by kernel_rfl
  have hcy : Try.prog.cellsOf 24 = 1 := by kernel_rfl
  have hcu : Try.prog.cellsOf 5 = 1 := by kernel_rfl
  have hcn : Try.prog.cellsOf 73 = 4 := by kernel_rfl
  obtain ⟨l⟩ := cs
  have hl' : l.length = 4 := by rw [← hcn]; exact hl
  have hall' : ∀ (i : Nat) (f : Field), _ → DataW.trod enc Try.prog w 0 (fun _ => true) true n f.type ((l.drop f.offset).take (Try.prog.cellsOf f.type)) = xs[i]? := hall
  match xs, hxs with
  | [y0, y1, y2, y3], _ =>
    have h0 : DataW.trod enc Try.prog w 0 (fun _ => true) true n 3 ((l.drop 0).take (Try.prog.cellsOf 3)) = some y0 := hall' 0 _ rfl
    rw [hci] at h0
    obtain ⟨a0, e0, f0⟩ := cell_int Try.underlying3 h0
    have h1 : DataW.trod enc Try.prog w 0 (fun _ => true) true n 3 ((l.drop 1).take (Try.prog.cellsOf 3)) = some y1 := hall' 1 _ rfl
    rw [hci] at h1
    obtain ⟨a1, e1, f1⟩ := cell_int Try.underlying3 h1
    have h2 : DataW.trod enc Try.prog w 0 (fun _ => true) true n 4 ((l.drop 2).take (Try.prog.cellsOf 4)) = some y2 := hall' 2 _ rfl
    rw [hcb] at h2
    obtain ⟨a2, e2⟩ := cell_bool Try.underlying4 h2
    have h3 : DataW.trod enc Try.prog w 0 (fun _ => true) true n 24 ((l.drop 3).take (Try.prog.cellsOf 24)) = some y3 := hall' 3 _ rfl
    rw [hcy] at h3
    obtain ⟨A3, c3, a3, e3, f3, g3⟩ := cell_bytes Try.underlying24 Try.underlying5 hcu h3
    have k0 := piece_get e0
    have k1 := piece_get e1
    have k2 := piece_get e2
    have k3 := piece_get e3
    have el : l = [.int .i64 a0, .int .i64 a1, .bool a2, .slice A3 a3.length c3] := by
      match l, hl' with
      | [x0, x1, x2, x3], _ => simp at k0 k1 k2 k3; simp [k0, k1, k2, k3]
    refine ⟨⟨a0, a1, a2, a3⟩, A3, c3, by rw [el]; rfl, f3, g3, ?_⟩
    intro m hm
    simp only [List.mem_cons, List.not_mem_nil, or_false] at hm
    rcases hm with rfl | rfl <;> assumption
end
/-- It lies in a block of its own. -/
def Atus (W : World) (g : Nat) (q : PU) (A : Option Addr) (c : Nat) : Prop := W.rangeAt g 0 (usa q A c).toList
section
variable {W : World} {g : Nat} {q : PU} {A : Option Addr} {c : Nat}
theorem Atus.new (w : World) : Atus (w.alloc (.cells (usa q A c) 73)) w.heap.size q A c := fun j v hj => by
  rw [Nat.zero_add, World.cell?_alloc_new, ← hj, Array.getElem?_toList]
theorem Atus.of_heap {t : TypeId} {fr : Nat × Nat} (h : W.heap[g]? = some (.cells (usa q A c) t fr)) : Atus W g q A c := fun j v hj => by
  rw [cell_of_row W g (0 + j) _ _ _ h, Nat.zero_add, ← Array.getElem?_toList]; exact hj
theorem Atus.below {w : World} {B : Nat} (h : Atus W g q A c) (hb : Below B W w) (hg : g < B) : Atus w g q A c := range_below h hg hb
theorem Atus.src (h : Atus W g q A c) : W.cell? ⟨g, 0, none⟩ = some (.int .i64 q.src) := h 0 _ rfl
theorem Atus.dst (h : Atus W g q A c) : W.cell? ⟨g, 1, none⟩ = some (.int .i64 q.dst) := h 1 _ rfl
theorem Atus.nosum (h : Atus W g q A c) : W.cell? ⟨g, 2, none⟩ = some (.bool q.nosum) := h 2 _ rfl
theorem Atus.dat (h : Atus W g q A c) : W.cell? ⟨g, 3, none⟩ = some (.slice A q.dat.length c) := h 3 _ rfl
end
theorem run_load_us {o : Oper} {a : Act} {w : World} {x : Operand} {g : Nat} {cs : List Value} (ho : o.op = .load 73 x) (hx : a.eval x = .pointer (some ⟨g, 0, none⟩)) (hr : w.rangeAt g 0 cs) (hl : cs.length = 4) :
    (execOp a.eval o).run Try.prog w = .ok (.value (.agg cs.toArray)) w := by
  have h := run_loadVar_mid (P := Try.prog) w g 0 73 cs _ hr Try.underlying73 rfl (by rw [hl]; kernel_rfl)
  unfold execOp
  simp only [ho, hx, Instr.loadAt, Instr.sureAddr, Sem.run_bind, Sem.run_pure, Result.andThen_ok, h]
theorem us_store {ops : Array Oper} {rest : List Oper} {x y : Operand} {ty : TypeId} {pos : String} {af : Array Edge} {a : Act} {w : World} {Q : Exit → Act → World → Prop}
    {g : Nat} {t : TypeId} {cs old : Array Value} (hx : a.eval x = .pointer (some ⟨g, 0, none⟩)) (hy : a.eval y = .agg cs) (hg : w.heap[g]? = some (.cells old t (0, 0))) (ho : old.size = 4) (hl : cs.size = 4) (h1 : cs.all (·.oneCell') = true)
    (h : wpList Try.prog ops Q rest (a.put none undef) (w.setRow g cs)) : wpList Try.prog ops Q (⟨none, .store 73 x y, ty, pos, af, none⟩ :: rest) a w :=
  wpList_plain rfl fun _ hK => wp_store_row 73 x y rfl g cs hx hy t old hg (by rw [hl]; kernel_rfl) (by rw [ho, hl]) h1 (hK _ _ h)
theorem us_store_new {ops : Array Oper} {rest : List Oper} {x y : Operand} {ty : TypeId} {pos : String} {af : Array Edge} {a : Act} {w : World} {Q : Exit → Act → World → Prop}
    {t : TypeId} {cs old : Array Value} (hx : a.eval x = .pointer (some ⟨w.heap.size, 0, none⟩)) (hy : a.eval y = .agg cs) (ho : old.size = 4) (hl : cs.size = 4) (h1 : cs.all (·.oneCell') = true)
    (h : wpList Try.prog ops Q rest (a.put none undef) (w.alloc (.cells cs t))) : wpList Try.prog ops Q (⟨none, .store 73 x y, ty, pos, af, none⟩ :: rest) a (w.alloc (.cells old t)) :=
  us_store hx hy (World.alloc_heap_new w _) ho hl h1 (by rw [World.setRow_alloc_new]; exact h)
theorem us_result {fn : Func} {p : Tmp} {tmps : Array Value} {w : World} {g : Nat} {t : TypeId} {cs : Array Value} {fr : Nat × Nat} (h : fn.results = #[.cell p 73])
    (hp : tmps.getD p undef = .pointer (some ⟨g, 0, none⟩)) (hg : w.heap[g]? = some (.cells cs t fr)) (hl : cs.size = 4) : (results fn tmps).run Try.prog w = .ok (.agg cs) w :=
  results_cell_row h tmps w g t cs fr _ hp hg Try.underlying73 rfl (by rw [hl]; kernel_rfl)
theorem us_load_run {w : World} {g : Nat} {t : TypeId} {cs : Array Value} {fr : Nat × Nat} (hg : w.heap[g]? = some (.cells cs t fr)) (hl : cs.size = 4) : (loadVar 73 ⟨g, 0, none⟩).run Try.prog w = .ok (.agg cs) w :=
  run_loadVar_row w g t 73 cs fr _ hg Try.underlying73 rfl (by rw [hl]; kernel_rfl)
end Go.Proofs.Ytkfbamippjhjcaa
