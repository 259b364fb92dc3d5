/-
  Contracts of slices.Index, slices.Contains over Bools, and of v4.all, v6.all: do all conditions hold? Conditions are each theorem's own.
-/
import Derived.Test.YtcfcmnhnijjehaaMem
import Derived.Test.YtcfcmnhnijjehaaBeA
import Derived.Deep.MidRow
namespace Go.Proofs.Ytcfcmnhnijjehaa
open Go.RowKit

/-- Do all hold? A plain definition. -/
def allB (bs : List Bool) : Bool := bs.all id
theorem index_all (g n : Nat) (w : World) (hn : n ≤ 1000) (h : ∀ j, j < n → w.cell? ⟨g, j, none⟩ = some (.bool true)) :
    Calls Try.prog 90 #[.slice (some ⟨g, 0, none⟩) n n, .bool false] w fun e w' => e = .returned (.int .i64 (-1)) ∧ w = w' := by
  have H := Lib.hid h
  clear h
  go_enter Try.func90, Try.ntmps90
  go_wp2
  go_loop [8] (fun i => ∃ k : Nat, k ≤ n ∧ i = .int .i64 k) (fun i => n - (intOf i).toNat)
  case atStart => exact ⟨0, Nat.zero_le _, rfl⟩
  case round =>
    obtain ⟨k, hk, rfl⟩ := hrel
    by_cases hlt : k < n
    · have hc := H.out k hlt
      go_wp2
      go_round
      case rel => exact ⟨k + 1, by omega, by simp⟩
      case measure => simp [intOf]; omega
    · obtain rfl : k = n := by omega
      go_wp2
      go_ret
      exact ⟨rfl, rfl⟩
theorem index_some (g n k0 : Nat) (w : World) (hn : n ≤ 1000) (hk0 : k0 < n) (h : ∀ j, j < k0 → w.cell? ⟨g, j, none⟩ = some (.bool true)) (h0 : w.cell? ⟨g, k0, none⟩ = some (.bool false)) :
    Calls Try.prog 90 #[.slice (some ⟨g, 0, none⟩) n n, .bool false] w fun e w' => e = .returned (.int .i64 (k0 : Int)) ∧ w = w' := by
  have H := Lib.hid h
  have H0 := Lib.hid h0
  clear h h0
  go_enter Try.func90, Try.ntmps90
  go_wp2
  go_loop [8] (fun i => ∃ k : Nat, k ≤ k0 ∧ i = .int .i64 k) (fun i => n - (intOf i).toNat)
  case atStart => exact ⟨0, Nat.zero_le _, rfl⟩
  case round =>
    obtain ⟨k, hk, rfl⟩ := hrel
    have hlt : k < n := by omega
    by_cases hlt2 : k < k0
    · have hc := H.out k hlt2
      go_wp2
      go_round
      case rel => exact ⟨k + 1, by omega, by simp⟩
      case measure => simp [intOf]; omega
    · obtain rfl : k = k0 := by omega
      have hc := H0.out
      go_wp2
      go_ret
      exact ⟨rfl, rfl⟩
theorem first_false : ∀ (bs : List Bool), allB bs = false → ∃ k, k < bs.length ∧ (∀ j, j < k → bs[j]? = some true) ∧ bs[k]? = some false
  | [], h => by cases h
  | false :: l, _ => ⟨0, by simp, fun j hj => absurd hj (Nat.not_lt_zero j), rfl⟩
  | true :: l, h => by
    obtain ⟨k, h1, h2, h3⟩ := first_false l (by simpa [allB] using h)
    refine ⟨k + 1, by simp; omega, fun j hj => ?_, by simpa using h3⟩
    cases j with
    | zero => rfl
    | succ j => simpa using h2 j (by omega)
theorem contains_any (g : Nat) (bs : List Bool) (w : World) (hn : bs.length ≤ 1000) (h : w.rangeAt g 0 (bs.map Value.bool)) :
    Calls Try.prog 75 #[.slice (some ⟨g, 0, none⟩) bs.length bs.length, .bool false] w fun e w' => e = .returned (.bool (!allB bs)) ∧ w = w' := by
  have hc : ∀ j b, bs[j]? = some b → w.cell? ⟨g, j, none⟩ = some (.bool b) := fun j b hj => by
    have := h j (.bool b) (by rw [List.getElem?_map, hj]; rfl)
    rwa [Nat.zero_add] at this
  cases ha : allB bs
  · obtain ⟨k, h1, h2, h3⟩ := first_false bs ha
    have c := index_some g bs.length k w hn h1 (fun j hj => hc j true (h2 j hj)) (hc k false h3)
    clear h hc h2 h3
    go_enter Try.func75, Try.ntmps75
    go_wp2_with (go_at_call 90; refine c.mono ?_; rintro e w' ⟨rfl, rfl⟩)
    go_ret
    exact ⟨rfl, rfl⟩
  · have hall : ∀ j, j < bs.length → bs[j]? = some true := fun j hj => by
      have := (List.all_eq_true.1 ha) bs[j] (List.getElem_mem hj)
      rw [List.getElem?_eq_getElem hj]; simpa using this
    have c := index_all g bs.length w hn (fun j hj => hc j true (hall j hj))
    clear h hc hall
    go_enter Try.func75, Try.ntmps75
    go_wp2_with (go_at_call 90; refine c.mono ?_; rintro e w' ⟨rfl, rfl⟩)
    go_ret
    exact ⟨rfl, rfl⟩
theorem all6_any (g : Nat) (bs : List Bool) (w : World) (hn : bs.length ≤ 1000) (h : w.rangeAt g 0 (bs.map Value.bool)) :
    Calls Try.prog 65 #[.slice (some ⟨g, 0, none⟩) bs.length bs.length] w fun e w' => e = .returned (.bool (allB bs)) ∧ w = w' := by
  have c := contains_any g bs w hn h
  clear h
  go_enter Try.func65, Try.ntmps65
  go_wp2_with (go_at_call 75; refine c.mono ?_; rintro e w' ⟨rfl, rfl⟩)
  go_ret
  exact ⟨ret_bool (by simp), rfl⟩
theorem all4_any (g : Nat) (bs : List Bool) (w : World) (hn : bs.length ≤ 1000) (h : w.rangeAt g 0 (bs.map Value.bool)) :
    Calls Try.prog 52 #[.slice (some ⟨g, 0, none⟩) bs.length bs.length] w fun e w' => e = .returned (.bool (allB bs)) ∧ w = w' := by
  have c := contains_any g bs w hn h
  clear h
  go_enter Try.func52, Try.ntmps52
  go_wp2_with (go_at_call 75; refine c.mono ?_; rintro e w' ⟨rfl, rfl⟩)
  go_ret
  exact ⟨ret_bool (by simp), rfl⟩
end Go.Proofs.Ytcfcmnhnijjehaa
