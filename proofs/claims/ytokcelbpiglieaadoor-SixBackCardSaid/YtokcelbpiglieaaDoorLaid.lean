/-
  The library's tables that the statements list: what the rows' condition gives the walks, and a start at which it holds. Conditions are each theorem's own.
-/
import Derived.Test.YtokcelbpiglieaaDoorStrC
import Derived.Test.YtokcelbpiglieaaDoorTie
import Derived.LaidMore
import Derived.Stop.LaidErr
namespace Go.Proofs.YtokcelbpiglieaaDoor
open Go.RowKit

/-- The list that every row of this seat bears. -/
def laidAll : List (String × DataW Unit) := [("math/bits.deBruijn32tab", Rows.laid_math_bits_deBruijn32tab), ("math/bits.deBruijn64tab", Rows.laid_math_bits_deBruijn64tab), ("internal/strconv.uint64pow10", Rows.laid_internal_strconv_uint64pow10)]
def z32 : List Int := [0, 1, 28, 2, 29, 14, 24, 3, 30, 22, 20, 15, 25, 17, 4, 8, 31, 27, 13, 23, 21, 19, 16, 7, 26, 12, 18, 6, 11, 5, 10, 9]
theorem laid_tabs : laidAll = [("math/bits.deBruijn32tab", Lib.tabData .u8 z32), ("math/bits.deBruijn64tab", Lib.tabData .u8 (Lib.deBruijn64tab.map fun n : Nat => (n : Int))), ("internal/strconv.uint64pow10", Lib.tabData .u64 Lib.pow10Tab)] := by
  kernel_rfl
theorem tabs_of_laid {W : World} (h : laidMetH Tryd.prog laidAll W) : Tabs W := by
  rw [MakeChecks.laidMetH_plain _ _ _ (by kernel_rfl), laid_tabs] at h
  have h2 := laidMet.tail h
  have h3 := laidMet.tail h2
  exact ⟨Lib.tabIs_of_head glob_pow (by kernel_rfl) Tryd.underlying88 Tryd.underlying77 (by kernel_rfl) (by kernel_rfl) h3,
    Lib.tabIs_of_head glob_bruijn (by kernel_rfl) Tryd.underlying96 Tryd.underlying5 (by kernel_rfl) (by kernel_rfl) h2⟩
/-- The door's own heap meets the condition: three closed facts. -/
theorem door_met (os : Os) (args : Array Value) : laidMetH Tryd.prog laidAll ((World.doorLaid Tryd.prog 24 os).forCall (fun _ _ => 0) ⟨#[], args, []⟩).memory :=
  laidMetH_of_parts3 (fuel := 8) (laidMet_of_run' 8 (by kernel_rfl) (by kernel_rfl)) (by kernel_rfl) (by kernel_rfl)
theorem door_shaped (os : Os) (args : Array Value) : ((World.doorLaid Tryd.prog 24 os).forCall (fun _ _ => 0) ⟨#[], args, []⟩).Shaped Tryd.prog := World.shaped_of_RefB (by kernel_rfl) (by kernel_rfl)
end Go.Proofs.YtokcelbpiglieaaDoor
