/-
  Contracts of the document's plain answers of layer 4: digits, value, Text. Conditions are each theorem's own.
-/
import Derived.Test.YtokcelbpiglieaaDoorSixR
import Derived.Test.YtokcelbpiglieaaDoorSixN
namespace Go.Proofs.YtokcelbpiglieaaDoor
open Go.RowKit

theorem hex_cut {m : Nat} (h : m < 16) : ({ data := #[48, 49, 50, 51, 52, 53, 54, 55, 56, 57, 97, 98, 99, 100, 101, 102] } : ByteArray).extract m (m + 1) = strB [hex1 m] := by
  have : m = 0 ∨ m = 1 ∨ m = 2 ∨ m = 3 ∨ m = 4 ∨ m = 5 ∨ m = 6 ∨ m = 7 ∨ m = 8 ∨ m = 9 ∨ m = 10 ∨ m = 11 ∨ m = 12 ∨ m = 13 ∨ m = 14 ∨ m = 15 := by omega
  rcases this with rfl | rfl | rfl | rfl | rfl | rfl | rfl | rfl | rfl | rfl | rfl | rfl | rfl | rfl | rfl | rfl <;> decide
theorem r4digits_one (v : Int) (n : Nat) (hv : v = (n : Int)) (w : World) (h : n < 16) :
    Calls Tryd.prog 41 #[.int .i64 v] w fun e w' => e = .returned (.string (strB (hexs n))) ∧ w = w' := by
  subst hv
  go_enter Tryd.func41, Tryd.ntmps41
  go_wp2_with fail
  go_ret
  refine ⟨ret_str ?_, rfl⟩
  rw [Nat.mod_eq_of_lt h, hex_cut h, hexs_one h]
theorem r4digits_up (v : Int) (n : Nat) (hv : v = (n : Int)) (w : World) (h : n < 65536) (h16 : 16 ≤ n)
    (ih : ∀ (v : Int), v = ((n / 16 : Nat) : Int) → Calls Tryd.prog 41 #[.int .i64 v] w fun e w' => e = .returned (.string (strB (hexs (n / 16)))) ∧ w = w') :
    Calls Tryd.prog 41 #[.int .i64 v] w fun e w' => e = .returned (.string (strB (hexs n))) ∧ w = w' := by
  subst hv
  have hk : ∀ w, (Op.stringOp .add (strB (hexs (n / 16))) (({ data := #[48, 49, 50, 51, 52, 53, 54, 55, 56, 57, 97, 98, 99, 100, 101, 102] } : ByteArray).extract (n % 16) (n % 16 + 1))).run Tryd.prog w = .ok (.string (strB (hexs n))) w := fun w => by
    have hl := @hexs_len (n / 16)
    rw [hex_cut (by omega), sadd _ _ (by simp; omega), hexs_up h16 h]
  go_enter Tryd.func41, Tryd.ntmps41
  go_wp2_with (go_at_call 41; refine (ih _ (by omega)).mono ?_; rintro e w' ⟨rfl, rfl⟩)
  go_ret
  exact ⟨rfl, rfl⟩
theorem r4digits_two (v : Int) (n : Nat) (hv : v = (n : Int)) (w : World) (h : n < 256) :
    Calls Tryd.prog 41 #[.int .i64 v] w fun e w' => e = .returned (.string (strB (hexs n))) ∧ w = w' := by
  by_cases h1 : n < 16
  · exact r4digits_one v n hv w h1
  · exact r4digits_up v n hv w (by omega) (by omega) (fun v hv => r4digits_one v (n / 16) hv w (by omega))
theorem r4digits_three (v : Int) (n : Nat) (hv : v = (n : Int)) (w : World) (h : n < 4096) :
    Calls Tryd.prog 41 #[.int .i64 v] w fun e w' => e = .returned (.string (strB (hexs n))) ∧ w = w' := by
  by_cases h1 : n < 16
  · exact r4digits_one v n hv w h1
  · exact r4digits_up v n hv w (by omega) (by omega) (fun v hv => r4digits_two v (n / 16) hv w (by omega))
theorem r4digits (v : Int) (n : Nat) (hv : v = (n : Int)) (w : World) (h : n < 65536) :
    Calls Tryd.prog 41 #[.int .i64 v] w fun e w' => e = .returned (.string (strB (hexs n))) ∧ w = w' := by
  by_cases h1 : n < 16
  · exact r4digits_one v n hv w h1
  · exact r4digits_up v n hv w (by omega) (by omega) (fun v hv => r4digits_three v (n / 16) hv w (by omega))

/-- A digit's value as the document's 'value' tells it. -/
def valI (c : UInt8) : Int := match val1 c with | some d => d | none => -1
theorem r4value (v : Int) (c : UInt8) (hv : v = (c.toNat : Int)) (w : World) :
    Calls Tryd.prog 43 #[.int .u8 v] w fun e w' => e = .returned (.int .i64 (valI c)) ∧ w = w' := by
  subst hv
  have hc := c.toNat_lt
  obtain ⟨x, hx⟩ : ∃ x, x = c.toNat := ⟨_, rfl⟩
  have hV : valI c = if 48 ≤ x ∧ x ≤ 57 then (x : Int) - 48 else if 97 ≤ x ∧ x ≤ 102 then (x : Int) - 87 else -1 := by
    rw [hx]; unfold valI val1
    by_cases h1 : 48 ≤ c.toNat ∧ c.toNat ≤ 57
    · rw [if_pos h1, if_pos h1]; simp; omega
    · rw [if_neg h1, if_neg h1]
      by_cases h2 : 97 ≤ c.toNat ∧ c.toNat ≤ 102
      · rw [if_pos h2, if_pos h2]; simp; omega
      · rw [if_neg h2, if_neg h2]
  rw [← hx] at hc ⊢
  have HV := Lib.hid hV
  clear hV hx
  have hcases : x < 48 ∨ (48 ≤ x ∧ x ≤ 57) ∨ (57 < x ∧ x < 97) ∨ (97 ≤ x ∧ x ≤ 102) ∨ 102 < x := by omega
  rcases hcases with h | h | h | h | h
  · have d1 : decide (48 ≤ (x : Int)) = false := by simp; omega
    have d2 : decide (97 ≤ (x : Int)) = false := by simp; omega
    go_enter Tryd.func43, Tryd.ntmps43
    go_wp2_with fail
    go_ret
    exact ⟨ret_int (by rw [HV.out, if_neg (by omega), if_neg (by omega)]), rfl⟩
  · have d1 : decide (48 ≤ (x : Int)) = true := by simp; omega
    have d2 : decide ((x : Int) ≤ 57) = true := by simp; omega
    go_enter Tryd.func43, Tryd.ntmps43
    go_wp2_with fail
    go_ret
    exact ⟨ret_int (by rw [HV.out, if_pos (by omega)]), rfl⟩
  · have d1 : decide (48 ≤ (x : Int)) = true := by simp; omega
    have d2 : decide ((x : Int) ≤ 57) = false := by simp; omega
    have d3 : decide (97 ≤ (x : Int)) = false := by simp; omega
    go_enter Tryd.func43, Tryd.ntmps43
    go_wp2_with fail
    go_ret
    exact ⟨ret_int (by rw [HV.out, if_neg (by omega), if_neg (by omega)]), rfl⟩
  · have d1 : decide (48 ≤ (x : Int)) = true := by simp; omega
    have d2 : decide ((x : Int) ≤ 57) = false := by simp; omega
    have d3 : decide (97 ≤ (x : Int)) = true := by simp; omega
    have d4 : decide ((x : Int) ≤ 102) = true := by simp; omega
    go_enter Tryd.func43, Tryd.ntmps43
    go_wp2_with fail
    go_ret
    exact ⟨ret_int (by rw [HV.out, if_neg (by omega), if_pos (by omega)]; omega), rfl⟩
  · have d1 : decide (48 ≤ (x : Int)) = true := by simp; omega
    have d2 : decide ((x : Int) ≤ 57) = false := by simp; omega
    have d3 : decide (97 ≤ (x : Int)) = true := by simp; omega
    have d4 : decide ((x : Int) ≤ 102) = false := by simp; omega
    go_enter Tryd.func43, Tryd.ntmps43
    go_wp2_with fail
    go_ret
    exact ⟨ret_int (by rw [HV.out, if_neg (by omega), if_neg (by omega)]), rfl⟩
end Go.Proofs.YtokcelbpiglieaaDoor
