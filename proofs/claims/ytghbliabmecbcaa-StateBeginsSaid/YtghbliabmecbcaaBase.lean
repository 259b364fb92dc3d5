/-
  Small words that every text of this seat uses: endings that agree, the string of bytes. Conditions: none; plain lemmas.
-/
import Derived.Test.YtghbliabmecbcaaRows
import Derived.WalkKit
import Derived.WalkSpells
import Derived.Lib.Hide
import Derived.Outline
import Derived.IntWalk
import Derived.Laws.CopyOwn
import Derived.OwnWalk
namespace Go.Proofs.Ytghbliabmecbcaa
open Go.RowKit

theorem ret_bool {a b : Bool} (h : a = b) : Ending.returned (.bool a) = .returned (.bool b) := by rw [h]
theorem ret_int {k : IntKind} {a b : Int} (h : a = b) : Ending.returned (.int k a) = .returned (.int k b) := by rw [h]
theorem ret_two {k : IntKind} {a b e : Int} (h : a = b) : Ending.returned (.tuple #[.int k a, .int .i64 e]) = .returned (.tuple #[.int k b, .int .i64 e]) := by rw [h]
theorem ret_str {a b : ByteArray} (h : a = b) : Ending.returned (.string a) = .returned (.string b) := by rw [h]

/-- The string of bytes. A plain definition. -/
def strB (bs : List UInt8) : ByteArray := ⟨bs.toArray⟩
theorem strB_eq (xs bs : List UInt8) : ((strB xs).toList == (strB bs).toList) = decide (xs = bs) := by
  rw [strB, strB, ByteArray.toList_mk, ByteArray.toList_mk, Bool.eq_iff_iff]; simp
theorem strB_append (xs bs : List UInt8) : strB xs ++ strB bs = strB (xs ++ bs) := by
  simp [strB, ByteArray.ext_iff]
theorem strB_size (bs : List UInt8) : (strB bs).size = bs.length := by simp [strB, ByteArray.size]
/-- '+' of two strings of bytes, within bounds. -/
theorem sadd (x y : List UInt8) (h : x.length + y.length ≤ 1000000) (w : World) : (Op.stringOp .add (strB x) (strB y)).run Try.prog w = .ok (.string (strB (x ++ y))) w := by
  have h1 := run_string_add_sum (P := Try.prog) (w := w) (strB x) (strB y) (by rw [strB_size, strB_size]; omega)
  rw [strB_append] at h1
  exact h1
end Go.Proofs.Ytghbliabmecbcaa
