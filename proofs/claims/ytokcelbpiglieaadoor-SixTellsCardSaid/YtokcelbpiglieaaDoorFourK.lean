/-
  Contracts of the document's plain answers of layer 3, the kinds of addresses: Host, Private. Conditions are each theorem's own.
-/
import Derived.Test.YtokcelbpiglieaaDoorFourR
namespace Go.Proofs.YtokcelbpiglieaaDoor
open Go.RowKit

/-- Is it an address of a host? A plain definition. -/
def hostB (a : Int) : Bool := decide (16777216 ≤ a ∧ a < 3758096384 ∧ ¬ (2130706432 ≤ a ∧ a < 2147483648))
/-- Is it a private one? A plain definition. -/
def privB (a : Int) : Bool := decide ((167772160 ≤ a ∧ a ≤ 184549375) ∨ (2886729728 ≤ a ∧ a ≤ 2887778303) ∨ (3232235520 ≤ a ∧ a ≤ 3232301055))

theorem r3host (a : Int) (w : World) : Calls Tryd.prog 14 #[.int .i64 a] w fun e w' => e = .returned (.bool (hostB a)) ∧ w = w' := by
  by_cases h : 16777216 ≤ a
  · obtain ⟨n, rfl⟩ := Int.eq_ofNat_of_zero_le (show 0 ≤ a by omega)
    by_cases h2 : (n : Int) < 3758096384
    · by_cases h3 : n / 16777216 = 127
      · have t3 : (((n / 16777216 : Nat) : Int) != 127) = false := by simp [h3]
        go_enter Tryd.func14, Tryd.ntmps14
        go_wp2
        go_ret
        exact ⟨ret_bool (by rw [Bool.eq_iff_iff]; simp [hostB]; omega), rfl⟩
      · have t3 : (((n / 16777216 : Nat) : Int) != 127) = true := by simp; omega
        go_enter Tryd.func14, Tryd.ntmps14
        go_wp2
        go_ret
        exact ⟨ret_bool (by rw [Bool.eq_iff_iff]; simp [hostB]; omega), rfl⟩
    · have hd : decide ((n : Int) < 3758096384) = false := by simp; omega
      go_enter Tryd.func14, Tryd.ntmps14
      go_wp2
      go_ret
      exact ⟨ret_bool (by rw [Bool.eq_iff_iff]; simp [hostB]; omega), rfl⟩
  · have hd : decide (16777216 ≤ a) = false := by simp; omega
    go_enter Tryd.func14, Tryd.ntmps14
    go_wp2
    go_ret
    exact ⟨ret_bool (by rw [Bool.eq_iff_iff]; simp [hostB]; omega), rfl⟩

theorem r3private (a : Int) (w : World) : Calls Tryd.prog 16 #[.int .i64 a] w fun e w' => e = .returned (.bool (privB a)) ∧ w = w' := by
  have hc : (a < 167772160) ∨ (167772160 ≤ a ∧ a ≤ 184549375) ∨ (184549375 < a ∧ a < 2886729728) ∨ (2886729728 ≤ a ∧ a ≤ 2887778303) ∨ (2887778303 < a ∧ a < 3232235520) ∨ (3232235520 ≤ a) := by omega
  rcases hc with h | h | h | h | h | h
  · have d1 : decide (167772160 ≤ a) = false := by simp; omega
    have d3 : decide (2886729728 ≤ a) = false := by simp; omega
    have d5 : decide (3232235520 ≤ a) = false := by simp; omega
    go_enter Tryd.func16, Tryd.ntmps16
    go_wp2
    go_ret
    exact ⟨ret_bool (by rw [Bool.eq_iff_iff]; simp [privB]; omega), rfl⟩
  · have d1 : decide (167772160 ≤ a) = true := by simp; omega
    have d2 : decide (a ≤ 184549375) = true := by simp; omega
    go_enter Tryd.func16, Tryd.ntmps16
    go_wp2
    go_ret
    exact ⟨ret_bool (by rw [Bool.eq_iff_iff]; simp [privB]; omega), rfl⟩
  · have d1 : decide (167772160 ≤ a) = true := by simp; omega
    have d2 : decide (a ≤ 184549375) = false := by simp; omega
    have d3 : decide (2886729728 ≤ a) = false := by simp; omega
    have d5 : decide (3232235520 ≤ a) = false := by simp; omega
    go_enter Tryd.func16, Tryd.ntmps16
    go_wp2
    go_ret
    exact ⟨ret_bool (by rw [Bool.eq_iff_iff]; simp [privB]; omega), rfl⟩
  · have d1 : decide (167772160 ≤ a) = true := by simp; omega
    have d2 : decide (a ≤ 184549375) = false := by simp; omega
    have d3 : decide (2886729728 ≤ a) = true := by simp; omega
    have d4 : decide (a ≤ 2887778303) = true := by simp; omega
    go_enter Tryd.func16, Tryd.ntmps16
    go_wp2
    go_ret
    exact ⟨ret_bool (by rw [Bool.eq_iff_iff]; simp [privB]; omega), rfl⟩
  · have d1 : decide (167772160 ≤ a) = true := by simp; omega
    have d2 : decide (a ≤ 184549375) = false := by simp; omega
    have d3 : decide (2886729728 ≤ a) = true := by simp; omega
    have d4 : decide (a ≤ 2887778303) = false := by simp; omega
    have d5 : decide (3232235520 ≤ a) = false := by simp; omega
    go_enter Tryd.func16, Tryd.ntmps16
    go_wp2
    go_ret
    exact ⟨ret_bool (by rw [Bool.eq_iff_iff]; simp [privB]; omega), rfl⟩
  · have d1 : decide (167772160 ≤ a) = true := by simp; omega
    have d2 : decide (a ≤ 184549375) = false := by simp; omega
    have d3 : decide (2886729728 ≤ a) = true := by simp; omega
    have d4 : decide (a ≤ 2887778303) = false := by simp; omega
    have d5 : decide (3232235520 ≤ a) = true := by simp; omega
    go_enter Tryd.func16, Tryd.ntmps16
    go_wp2
    go_ret
    exact ⟨ret_bool (by rw [Bool.eq_iff_iff]; simp [privB]; omega), rfl⟩

end Go.Proofs.YtokcelbpiglieaaDoor
