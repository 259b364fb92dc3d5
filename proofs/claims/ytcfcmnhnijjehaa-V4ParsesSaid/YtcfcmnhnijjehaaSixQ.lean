/-
  An address of IPv6 that came in, opened. Conditions are each theorem's own.
-/
import Derived.Test.YtcfcmnhnijjehaaOpen
import Derived.Test.YtcfcmnhnijjehaaSixM
namespace Go.Proofs.Ytcfcmnhnijjehaa
open Go.RowKit Go.ChangeShapes Go.WideShapes

/-- A cell's byte. -/
def celB : Value → UInt8
  | .int _ n => UInt8.ofNat n.toNat
  | _ => 0
section
variable {H : Type} {enc : TypeId × Value → H} {P : Program} {w : World} {base : Nat} {t e : TypeId} {v : Value} {d : DataW H} {p : List MemPlace}
theorem cells_six {m fuel : Nat} {cs : List Value} {x : DataW H × List MemPlace} (ht : P.underlying t = some (.array m e)) (he : P.underlying e = some (.int .u8)) (hc : P.cellsOf e = 1) (hm : P.cellsOf t = m)
    (h : DataW.trod enc P w 0 (fun _ => true) true fuel t cs = some x) : ∃ a : List UInt8, a.length = m ∧ cs = row a := by
  obtain ⟨xs, k, _, _, hl, hxs, hall⟩ := DataW.trod_array ht h
  rw [hm] at hl
  have each : ∀ i, i < m → ∃ n : Int, cs[i]? = some (.int .u8 n) ∧ 0 ≤ n ∧ n ≤ 255 := by
    intro i hi
    have h1 := hall i hi
    rw [hc, Nat.mul_one, List.getElem?_eq_getElem (by omega)] at h1
    obtain ⟨n, hn, _, hw⟩ := DataW.trod_int he h1
    have h0 := congrArg (·[0]?) hn
    simp only [List.getElem?_take, List.getElem?_drop, List.getElem?_cons_zero, Nat.zero_lt_one, if_true, Nat.add_zero] at h0
    exact ⟨n, h0, bounds_u8 hw⟩
  refine ⟨cs.map celB, by simp [hl], ?_⟩
  refine List.ext_getElem? fun i => ?_
  by_cases hi : i < m
  · obtain ⟨n, hn, h0, h1⟩ := each i hi
    rw [hn]
    simp [row, hn, celB, UInt8.toNat_ofNat']
    omega
  · rw [List.getElem?_eq_none (by omega), List.getElem?_eq_none (by simp [row]; omega)]
theorem get_six (ht : P.underlying t = some (.array 16 e)) (he : P.underlying e = some (.int .u8)) (hc : P.cellsOf e = 1) (hm : P.cellsOf t = 16) (hv : Value.okWide P w .any base t v) (h : DataW.Trod enc P w 0 (fun _ => true) true t v d p) :
    ∃ a : List UInt8, v = .agg (cel a) ∧ a.length = 16 := by
  obtain ⟨cs, rfl, _⟩ : ∃ cs, v = .agg cs ∧ True := by
    have := hv
    simp only [Value.okWide, ht] at this
    cases v <;> simp_all
  obtain ⟨fuel, hf⟩ := h
  obtain ⟨a, ha, hcs⟩ := cells_six ht he hc hm hf
  refine ⟨a, ?_, ha⟩
  simp only [Value.cells] at hcs
  rw [cel, ← hcs]
end
end Go.Proofs.Ytcfcmnhnijjehaa
