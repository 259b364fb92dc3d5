/-
  Contract of v4's layout. Conditions are each theorem's own.
-/
import Derived.Test.YtcfcmnhnijjehaaV4D
import Derived.Test.YtcfcmnhnijjehaaV4X
namespace Go.Proofs.Ytcfcmnhnijjehaa
open Go.RowKit

/-- What is wrong with the numbers of a head; nothing: 0. -/
def lay4 (b : List UInt8) (quoted : Bool) : Int :=
  if b.length < 20 then 3
  else if byt b 0 / 16 ≠ 4 ∨ hlen b < 20 then 4
  else if hlen b > (b.length : Int) ∨ (quoted = false ∧ n2 b 2 > (b.length : Int)) then 3
  else if n2 b 2 < hlen b ∨ n2 b 6 ≥ 32768 then 4
  else 0
theorem and_two (a k : Nat) : a &&& 2 ^ k = (if a.testBit k then 2 ^ k else 0) := by
  refine Nat.eq_of_testBit_eq fun i => ?_
  rw [Nat.testBit_and, Nat.testBit_two_pow]
  rcases Nat.decEq k i with h | h
  · cases hb : a.testBit k <;> simp [h]
  · subst h; cases hb : a.testBit k <;> simp
theorem and_bit (k : Nat) (n : Int) (h0 : 0 ≤ n) (h1 : n ≤ 9223372036854775807) (hk : k ≤ 62) : bits .and .i64 n (2 ^ k) = n / 2 ^ k % 2 * 2 ^ k := by
  obtain ⟨a, rfl⟩ := Int.eq_ofNat_of_zero_le h0
  have hc : ((2 : Int) ^ k) = ((2 ^ k : Nat) : Int) := by simp
  have hp : 2 ^ k < 2 ^ 63 := Nat.pow_lt_pow_right (by decide) (by omega)
  rw [hc, (bits_nat .i64 63 (by decide) wraps63 a (2 ^ k) (by omega) hp).1]
  have e : ((a : Int) / ((2 ^ k : Nat) : Int)) % 2 = ((a / 2 ^ k % 2 : Nat) : Int) := rfl
  rw [e, and_two a k, Nat.testBit_eq_decide_div_mod_eq]
  rcases Nat.mod_two_eq_zero_or_one (a / 2 ^ k) with h | h <;> simp [h]
def layV (n s k : Int) : Value := .tuple #[.int .i64 (if k = 0 then n else 0), .int .i64 (if k = 0 then s else 0), .int .i64 k]
set_option maxRecDepth 100000 in
set_option maxHeartbeats 1000000 in
theorem c4layout (b : List UInt8) (A : Option Addr) (c B : Nat) (quoted : Bool) (w : World) (hR : Arg w B A c b) (hl : b.length ≤ 1000000) :
    Calls Try.prog 58 #[.slice A b.length c, .bool quoted] w fun e w' => e = .returned (layV (hlen b) (min (n2 b 2) (b.length : Int)) (lay4 b quoted)) ∧ w = w' := by
  have hcap := hR.cap
  go_enter Try.func58, Try.ntmps58
  by_cases h20 : b.length < 20
  · have d20 : decide ((b.length : Int) < 20) = true := by simp; omega
    have HL := Lib.hid (show lay4 b quoted = 3 by rw [lay4, if_pos h20])
    go_wp2_with fail
    go_ret3
    exact ⟨by rw [HL.out]; rfl, rfl⟩
  · have d20 : decide ((b.length : Int) < 20) = false := by simp; omega
    have G0 := Lib.hid (show getV b 0 1 = byt b 0 from get_one (b := b) (i := 0) (by omega))
    have b0 := byt_lo b 0; have b1 := byt_hi b 0
    obtain ⟨F, hF⟩ : ∃ n, n = byt b 0 := ⟨_, rfl⟩
    have HH := Lib.hid (show hlen b = F % 16 * 4 by rw [hF]; rfl)
    rw [← hF] at G0 b0 b1
    have HF := Lib.hid hF
    clear hF
    have hA : bits .and .i64 F 15 = F % 16 := and_mask 4 F b0 (by omega) (by decide)
    by_cases h4 : F / 16 = 4
    · by_cases h5 : F % 16 < 5
      · have HL := Lib.hid (show lay4 b quoted = 4 by rw [lay4, if_neg h20, if_pos (.inr (by rw [HH.out]; omega))])
        have d4 : (F / 16 != 4) = false := by simp [h4]
        have d5 : decide (F % 16 < 5) = true := by simpa using h5
        go_wp2_with (first
      | (go_at_call 78; go_loud ((with_reducible refine (get4_any A b c B 0 1 _ hR.rd (by omega) hR.cap).mono ?_); rintro e w' ⟨rfl, rfl⟩; rw [show getV b 0 1 = F from G0.out])))
        go_ret3
        exact ⟨by rw [HL.out]; rfl, rfl⟩
      · have d4 : (F / 16 != 4) = false := by simp [h4]
        have d5 : decide (F % 16 < 5) = false := by simpa using h5
        go_upto_region 6 with (first
      | (go_at_call 78; go_loud ((with_reducible refine (get4_any A b c B 0 1 _ hR.rd (by omega) hR.cap).mono ?_); rintro e w' ⟨rfl, rfl⟩; rw [show getV b 0 1 = F from G0.out])))
        have z0 := n2_bd b 2
        have G2 := Lib.hid (show getV b 2 2 = n2 b 2 from get_two (b := b) (i := 2) (by omega))
        obtain ⟨Z, hZ⟩ : ∃ n, n = n2 b 2 := ⟨_, rfl⟩
        rw [← hZ] at G2 z0
        have x0 := n2_bd b 6
        have G6 := Lib.hid (show getV b 6 2 = n2 b 6 from get_two (b := b) (i := 6) (by omega))
        obtain ⟨X, hX⟩ : ∃ n, n = n2 b 6 := ⟨_, rfl⟩
        rw [← hX] at G6 x0
        have HZ := Lib.hid hZ
        have HX := Lib.hid hX
        clear hZ hX
        have HW := Lib.hid (IntWalk.i64_in (F % 16 * 4) (by omega))
        go_upto_region 7 with (first
      | (go_at_call 78; go_loud ((with_reducible refine (get4_any A b c B 2 2 _ hR.rd (by omega) hR.cap).mono ?_); rintro e w' ⟨rfl, rfl⟩; rw [show getV b 2 2 = Z from G2.out])))
        have HB := Lib.hid (show bits .and .i64 X 32768 = X / 32768 % 2 * 32768 from and_bit 15 X x0.1 (by omega) (by decide))
        rcases quoted with _ | _
        · skip
          rcases Int.lt_or_le (b.length : Int) (F % 16 * 4) with k1 | k1
          · have d1 : decide ((b.length : Int) < F % 16 * 4) = true := by simpa using k1
            have HL := Lib.hid (show lay4 b false = 3 by rw [lay4, if_neg h20, if_neg (by rw [← HF.out, HH.out]; omega), if_pos (.inl (by rw [HH.out]; omega))])
            go_wp2_with fail
            go_ret3
            exact ⟨by rw [HL.out]; rfl, rfl⟩
          · have d1 : decide ((b.length : Int) < F % 16 * 4) = false := by simpa using k1
            rcases Int.lt_or_le (b.length : Int) Z with k2 | k2
            · have d2 : decide ((b.length : Int) < Z) = true := by simpa using k2
              have HL := Lib.hid (show lay4 b false = 3 by rw [lay4, if_neg h20, if_neg (by rw [← HF.out, HH.out]; omega), if_pos (.inr ⟨rfl, by rw [← HZ.out]; omega⟩)])
              go_wp2_with fail
              go_ret3
              exact ⟨by rw [HL.out]; rfl, rfl⟩
            · have d2 : decide ((b.length : Int) < Z) = false := by simpa using k2
              rcases Int.lt_or_le Z (F % 16 * 4) with k3 | k3
              · have d3 : decide (Z < F % 16 * 4) = true := by simpa using k3
                have HL := Lib.hid (show lay4 b false = 4 by rw [lay4, if_neg h20, if_neg (by rw [← HF.out, HH.out]; omega), if_neg (by rw [HH.out, ← HZ.out]; simp; omega), if_pos (by rw [HH.out, ← HZ.out, ← HX.out]; omega)])
                go_wp2_with fail
                go_ret3
                exact ⟨by rw [HL.out]; rfl, rfl⟩
              · have d3 : decide (Z < F % 16 * 4) = false := by simpa using k3
                rcases Int.lt_or_le X 32768 with k4 | k4
                · have hX : bits .and .i64 X 32768 = 0 := by rw [HB.out]; omega
                  have HL := Lib.hid (show lay4 b false = 0 by rw [lay4, if_neg h20, if_neg (by rw [← HF.out, HH.out]; omega), if_neg (by rw [HH.out, ← HZ.out]; simp; omega), if_neg (by rw [HH.out, ← HZ.out, ← HX.out]; omega)])
                  go_wp2_with (first
                        | (go_at_call 78; go_loud ((with_reducible refine (get4_any A b c B 6 2 _ hR.rd (by omega) hR.cap).mono ?_); rintro e w' ⟨rfl, rfl⟩; rw [show getV b 6 2 = X from G6.out])))
                  go_ret3
                  exact ⟨by rw [HL.out]; rw [HH.out, ← HZ.out, show min Z (b.length : Int) = Z by omega]; rfl, rfl⟩
                · have hX : bits .and .i64 X 32768 = 32768 := by rw [HB.out]; omega
                  have HL := Lib.hid (show lay4 b false = 4 by rw [lay4, if_neg h20, if_neg (by rw [← HF.out, HH.out]; omega), if_neg (by rw [HH.out, ← HZ.out]; simp; omega), if_pos (by rw [HH.out, ← HZ.out, ← HX.out]; omega)])
                  go_wp2_with (first
                        | (go_at_call 78; go_loud ((with_reducible refine (get4_any A b c B 6 2 _ hR.rd (by omega) hR.cap).mono ?_); rintro e w' ⟨rfl, rfl⟩; rw [show getV b 6 2 = X from G6.out])))
                  go_ret3
                  exact ⟨by rw [HL.out]; rfl, rfl⟩
        · rcases Int.lt_or_le (b.length : Int) Z with k0 | k0
          · skip
            rcases Int.lt_or_le (b.length : Int) (F % 16 * 4) with k1 | k1
            · have d1 : decide ((b.length : Int) < F % 16 * 4) = true := by simpa using k1
              have HL := Lib.hid (show lay4 b true = 3 by rw [lay4, if_neg h20, if_neg (by rw [← HF.out, HH.out]; omega), if_pos (.inl (by rw [HH.out]; omega))])
              go_wp2_with fail
              go_ret3
              exact ⟨by rw [HL.out]; rfl, rfl⟩
            · have d1 : decide ((b.length : Int) < F % 16 * 4) = false := by simpa using k1
              have d2 : decide ((b.length : Int) < (b.length : Int)) = false := by simp; try omega
              rcases Int.lt_or_le (b.length : Int) (F % 16 * 4) with k3 | k3
              · have d3 : decide ((b.length : Int) < F % 16 * 4) = true := by simpa using k3
                exfalso; omega
              · have d3 : decide ((b.length : Int) < F % 16 * 4) = false := by simpa using k3
                rcases Int.lt_or_le X 32768 with k4 | k4
                · have hX : bits .and .i64 X 32768 = 0 := by rw [HB.out]; omega
                  have HL := Lib.hid (show lay4 b true = 0 by rw [lay4, if_neg h20, if_neg (by rw [← HF.out, HH.out]; omega), if_neg (by rw [HH.out, ← HZ.out]; simp; omega), if_neg (by rw [HH.out, ← HZ.out, ← HX.out]; omega)])
                  go_wp2_with (first
                        | (go_at_call 78; go_loud ((with_reducible refine (get4_any A b c B 6 2 _ hR.rd (by omega) hR.cap).mono ?_); rintro e w' ⟨rfl, rfl⟩; rw [show getV b 6 2 = X from G6.out])))
                  go_ret3
                  exact ⟨by rw [HL.out]; rw [HH.out, ← HZ.out, show min Z (b.length : Int) = (b.length : Int) by omega]; rfl, rfl⟩
                · have hX : bits .and .i64 X 32768 = 32768 := by rw [HB.out]; omega
                  have HL := Lib.hid (show lay4 b true = 4 by rw [lay4, if_neg h20, if_neg (by rw [← HF.out, HH.out]; omega), if_neg (by rw [HH.out, ← HZ.out]; simp; omega), if_pos (by rw [HH.out, ← HZ.out, ← HX.out]; omega)])
                  go_wp2_with (first
                        | (go_at_call 78; go_loud ((with_reducible refine (get4_any A b c B 6 2 _ hR.rd (by omega) hR.cap).mono ?_); rintro e w' ⟨rfl, rfl⟩; rw [show getV b 6 2 = X from G6.out])))
                  go_ret3
                  exact ⟨by rw [HL.out]; rfl, rfl⟩
          · skip
            rcases Int.lt_or_le (b.length : Int) (F % 16 * 4) with k1 | k1
            · have d1 : decide ((b.length : Int) < F % 16 * 4) = true := by simpa using k1
              have HL := Lib.hid (show lay4 b true = 3 by rw [lay4, if_neg h20, if_neg (by rw [← HF.out, HH.out]; omega), if_pos (.inl (by rw [HH.out]; omega))])
              go_wp2_with fail
              go_ret3
              exact ⟨by rw [HL.out]; rfl, rfl⟩
            · have d1 : decide ((b.length : Int) < F % 16 * 4) = false := by simpa using k1
              have d2 : decide ((b.length : Int) < Z) = false := by simp; try omega
              rcases Int.lt_or_le Z (F % 16 * 4) with k3 | k3
              · have d3 : decide (Z < F % 16 * 4) = true := by simpa using k3
                have HL := Lib.hid (show lay4 b true = 4 by rw [lay4, if_neg h20, if_neg (by rw [← HF.out, HH.out]; omega), if_neg (by rw [HH.out, ← HZ.out]; simp; omega), if_pos (by rw [HH.out, ← HZ.out, ← HX.out]; omega)])
                go_wp2_with fail
                go_ret3
                exact ⟨by rw [HL.out]; rfl, rfl⟩
              · have d3 : decide (Z < F % 16 * 4) = false := by simpa using k3
                rcases Int.lt_or_le X 32768 with k4 | k4
                · have hX : bits .and .i64 X 32768 = 0 := by rw [HB.out]; omega
                  have HL := Lib.hid (show lay4 b true = 0 by rw [lay4, if_neg h20, if_neg (by rw [← HF.out, HH.out]; omega), if_neg (by rw [HH.out, ← HZ.out]; simp; omega), if_neg (by rw [HH.out, ← HZ.out, ← HX.out]; omega)])
                  go_wp2_with (first
                        | (go_at_call 78; go_loud ((with_reducible refine (get4_any A b c B 6 2 _ hR.rd (by omega) hR.cap).mono ?_); rintro e w' ⟨rfl, rfl⟩; rw [show getV b 6 2 = X from G6.out])))
                  go_ret3
                  exact ⟨by rw [HL.out]; rw [HH.out, ← HZ.out, show min Z (b.length : Int) = Z by omega]; rfl, rfl⟩
                · have hX : bits .and .i64 X 32768 = 32768 := by rw [HB.out]; omega
                  have HL := Lib.hid (show lay4 b true = 4 by rw [lay4, if_neg h20, if_neg (by rw [← HF.out, HH.out]; omega), if_neg (by rw [HH.out, ← HZ.out]; simp; omega), if_pos (by rw [HH.out, ← HZ.out, ← HX.out]; omega)])
                  go_wp2_with (first
                        | (go_at_call 78; go_loud ((with_reducible refine (get4_any A b c B 6 2 _ hR.rd (by omega) hR.cap).mono ?_); rintro e w' ⟨rfl, rfl⟩; rw [show getV b 6 2 = X from G6.out])))
                  go_ret3
                  exact ⟨by rw [HL.out]; rfl, rfl⟩

    · have HL := Lib.hid (show lay4 b quoted = 4 by rw [lay4, if_neg h20, if_pos (.inl (by rw [← HF.out]; exact h4))])
      have d4 : (F / 16 != 4) = true := by simpa using h4
      go_wp2_with (first
      | (go_at_call 78; go_loud ((with_reducible refine (get4_any A b c B 0 1 _ hR.rd (by omega) hR.cap).mono ?_); rintro e w' ⟨rfl, rfl⟩; rw [show getV b 0 1 = F from G0.out])))
      go_ret3
      exact ⟨by rw [HL.out]; rfl, rfl⟩
end Go.Proofs.Ytcfcmnhnijjehaa
