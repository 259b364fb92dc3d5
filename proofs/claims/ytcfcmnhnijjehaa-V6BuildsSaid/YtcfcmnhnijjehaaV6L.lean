/-
  What layer 6's statement on Build shares: what either Build answers, said at once. Conditions are each theorem's own.
-/
import Derived.Test.YtcfcmnhnijjehaaV6J
import Derived.Test.YtcfcmnhnijjehaaV6K
import Derived.Test.YtcfcmnhnijjehaaV6W
namespace Go.Proofs.Ytcfcmnhnijjehaa
open Go.RowKit

def res6 (q : P6) : List UInt8 := if chk6 q = 0 then bld6 q else []
theorem res6_shape {q : P6} {w w' : World} {v : Value} (h : (chk6 q ≠ 0 → v = .slice none 0 0 ∧ Below w.heap.size w w') ∧ (chk6 q = 0 → Made w w' v (bld6 q))) :
    ∃ P k, v = .slice P (res6 q).length k ∧ Rd w' w'.heap.size P (res6 q) ∧ Below w.heap.size w w' := by
  by_cases hc : chk6 q = 0
  · obtain ⟨A, c, rfl, hl, hr, ho, hb⟩ := h.2 hc
    exact ⟨A, c, by rw [res6, if_pos hc], by rw [res6, if_pos hc]; exact hr, hb⟩
  · obtain ⟨rfl, hb⟩ := h.1 hc
    exact ⟨none, 0, by rw [res6, if_neg hc]; rfl, by rw [res6, if_neg hc]; exact Rd.nil, hb⟩
end Go.Proofs.Ytcfcmnhnijjehaa
