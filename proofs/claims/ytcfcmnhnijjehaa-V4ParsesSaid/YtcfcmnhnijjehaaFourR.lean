/-
  Contracts of the document's plain answers of layer 3: Right, Text, Parse, Host, Private. Conditions are each theorem's own.
-/
import Derived.Test.YtcfcmnhnijjehaaBase
import Derived.Test.YtcfcmnhnijjehaaFourM
namespace Go.Proofs.Ytcfcmnhnijjehaa
open Go.RowKit

theorem ten_cut {m : Nat} (h : m < 10) : ({ data := #[48, 49, 50, 51, 52, 53, 54, 55, 56, 57] } : ByteArray).extract m (m + 1) = strB [UInt8.ofNat (48 + m)] := by
  have : m = 0 ∨ m = 1 ∨ m = 2 ∨ m = 3 ∨ m = 4 ∨ m = 5 ∨ m = 6 ∨ m = 7 ∨ m = 8 ∨ m = 9 := by omega
  rcases this with rfl | rfl | rfl | rfl | rfl | rfl | rfl | rfl | rfl | rfl <;> decide

theorem dec_ten {n : Nat} (h : 10 ≤ n) (h2 : n < 256) : dec (n / 10) ++ [UInt8.ofNat (48 + n % 10)] = dec n := by
  by_cases h3 : n < 100
  · rw [dec, if_pos (by omega), dec, if_neg (by omega), if_pos h3]; rfl
  · rw [dec, if_neg (by omega), if_pos (by omega), dec, if_neg (by omega), if_neg h3]
    rw [show n / 10 / 10 = n / 100 from by omega]; rfl
/-- Is a number an address? A plain definition. -/
def okB (a : Int) : Bool := decide (0 ≤ a ∧ a < 4294967296)
theorem r3right_any (a : Int) (w : World) : Calls Try.prog 56 #[.int .i64 a] w fun e w' => e = .returned (.bool (okB a)) ∧ w = w' := by
  by_cases h : 0 ≤ a
  · go_enter Try.func56, Try.ntmps56
    go_wp2
    go_ret
    exact ⟨ret_bool (by rw [Bool.eq_iff_iff]; simp [okB, h]), rfl⟩
  · have hd : decide (0 ≤ a) = false := by simp; omega
    go_enter Try.func56, Try.ntmps56
    go_wp2
    go_ret
    exact ⟨ret_bool (by rw [Bool.eq_iff_iff]; simp [okB]; omega), rfl⟩

/-- The text of any number. -/
def txtI (a : Int) : List UInt8 := if 0 ≤ a ∧ a < 4294967296 then txt a.toNat else []
end Go.Proofs.Ytcfcmnhnijjehaa
