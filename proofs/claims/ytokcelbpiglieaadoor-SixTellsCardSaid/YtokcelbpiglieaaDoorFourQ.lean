/-
  Contracts of the project's functions of layer 3: Right, Host, Private and what they stand on. Conditions are each theorem's own.
-/
import Derived.Test.YtokcelbpiglieaaDoorFourP
import Derived.Test.YtokcelbpiglieaaDoorMem
namespace Go.Proofs.YtokcelbpiglieaaDoor
open Go.RowKit

theorem c3right (a : Int) (w : World) : Calls Tryd.prog 9 #[.int .i64 a] w fun e w' => e = .returned (.bool (okB a)) ∧ Below w.heap.size w w' := by
  by_cases h : 0 ≤ a
  · go_enter Tryd.func9, Tryd.ntmps9
    go_wp2
    go_ret
    exact ⟨ret_bool (by rw [Bool.eq_iff_iff]; simp [okB, h]), Below.refl _ _⟩
  · have hd : decide (0 ≤ a) = false := by simp; omega
    go_enter Tryd.func9, Tryd.ntmps9
    go_wp2
    go_ret
    exact ⟨ret_bool (by rw [Bool.eq_iff_iff]; simp [okB]; omega), Below.refl _ _⟩

def inB (a : Int) (b : Int × Int) : Bool := decide (b.1 ≤ a ∧ a ≤ b.2)
/-- The blocks lie at g, one behind the other. -/
def Blk (w : World) (g : Nat) (bs : List (Int × Int)) : Prop :=
  ∀ j, j < bs.length → w.cell? ⟨g, j * 2, none⟩ = some (.int .i64 (bs.getD j (0, 0)).1) ∧ w.cell? ⟨g, j * 2 + 1, none⟩ = some (.int .i64 (bs.getD j (0, 0)).2)
theorem Blk.below {w w' : World} {g B : Nat} {bs : List (Int × Int)} (h : Blk w g bs) (hb : Below B w w') (hg : g < B) : Blk w' g bs := fun j hj => by
  obtain ⟨h1, h2⟩ := h j hj
  exact ⟨(hb.cell (p := ⟨g, j * 2, none⟩) hg).trans h1, (hb.cell (p := ⟨g, j * 2 + 1, none⟩) hg).trans h2⟩

set_option maxHeartbeats 1000000 in
theorem cwithin (a : Int) (g : Nat) (bs : List (Int × Int)) (w : World) (hg : g < w.heap.size) (hb : Blk w g bs) (hl : bs.length ≤ 1000) :
    Calls Tryd.prog 35 #[.int .i64 a, .slice (some ⟨g, 0, none⟩) bs.length bs.length] w fun e w' => e = .returned (.bool (bs.any (inB a))) ∧ Below w.heap.size w w' := by
  go_enter Tryd.func35, Tryd.ntmps35
  go_wp2_with fail
  go_loopw [9] (fun i W => ∃ k : Nat, k ≤ bs.length ∧ Hid ((bs.take k).any (inB a) = false) ∧ i = .int .i64 (k : Int) ∧ Below w.heap.size w W) (fun i _ => bs.length - (intOf i).toNat)
  case atStart => exact ⟨0, Nat.zero_le _, Lib.hid (by simp), rfl, Below.refl _ _⟩
  case round =>
    obtain ⟨k, hk, HA, rfl, hbel⟩ := hrel
    by_cases hlt : k < bs.length
    · obtain ⟨h1, h2⟩ := (hb.below hbel hg) k hlt
      have HS : Hid ((bs.take (k + 1)).any (inB a) = inB a (bs.getD k (0, 0))) := Lib.hid (by
        rw [List.take_succ_eq_append_getElem hlt, List.any_append, HA.out]; simp [List.getD, hlt])
      have HM : Hid (bs.getD k (0, 0) ∈ bs) := Lib.hid (by simp [List.getD, hlt])
      have hwe : wr.heap.size ≥ w.heap.size := hbel.size
      have hbel2 := fun o => hbel.alloc hwe o
      obtain ⟨xy, hxy⟩ : ∃ xy, xy = bs.getD k (0, 0) := ⟨_, rfl⟩
      rw [← hxy] at h1 h2 HS HM
      clear hxy
      obtain ⟨x, y⟩ := xy
      by_cases hx : x ≤ a
      · by_cases hy : a ≤ y
        · have HR := Lib.hid (show bs.any (inB a) = true from List.any_eq_true.2 ⟨_, HM.out, by simp [inB, hx, hy]⟩)
          go_wp2_with fail
          go_ret
          exact ⟨ret_bool HR.out.symm, hbel2 _⟩
        · have hd : decide (a ≤ y) = false := by simpa using hy
          go_wp2_with fail
          go_roundw
          case rel => exact ⟨k + 1, by omega, Lib.hid (by rw [HS.out]; simp [inB, hy]), by simp, hbel2 _⟩
          case measure => simp [intOf]; omega
      · have hd : decide (x ≤ a) = false := by simpa using hx
        go_wp2_with fail
        go_roundw
        case rel => exact ⟨k + 1, by omega, Lib.hid (by rw [HS.out]; simp [inB, hx]), by simp, hbel2 _⟩
        case measure => simp [intOf]; omega
    · obtain rfl : k = bs.length := by omega
      have HR := Lib.hid (show bs.any (inB a) = false by have := HA.out; rwa [List.take_length] at this)
      go_wp2_with fail
      go_ret
      exact ⟨ret_bool HR.out.symm, hbel⟩

theorem cw1 (a lo hi : Int) (g : Nat) (w : World) (hg : g = w.heap.size) :
    Calls Tryd.prog 35 #[.int .i64 a, .slice (some ⟨g, 0, none⟩) 1 1] (w.alloc (.cells #[.int .i64 lo, .int .i64 hi] 48)) fun e w' => e = .returned (.bool (inB a (lo, hi))) ∧ Below w.heap.size w w' := by
  subst hg
  have hg := World.alloc_heap_new w (.cells #[.int .i64 lo, .int .i64 hi] 48)
  have hB := (Below.refl w.heap.size w).alloc (Nat.le_refl _) (.cells #[.int .i64 lo, .int .i64 hi] 48)
  refine (cwithin a w.heap.size [(lo, hi)] _ (by simp) (fun j hj => ?_) (by simp)).mono ?_
  · obtain rfl : j = 0 := by simp at hj; omega
    exact ⟨by rw [cell_of_row _ _ _ _ _ _ hg]; rfl, by rw [cell_of_row _ _ _ _ _ _ hg]; rfl⟩
  · rintro e w' ⟨rfl, hb⟩
    exact ⟨ret_bool (by simp), hB.trans (hb.mono (by simp))⟩
theorem cw3 (a l1 h1 l2 h2 l3 h3 : Int) (g : Nat) (w : World) (hg : g = w.heap.size) :
    Calls Tryd.prog 35 #[.int .i64 a, .slice (some ⟨g, 0, none⟩) 3 3] (w.alloc (.cells #[.int .i64 l1, .int .i64 h1, .int .i64 l2, .int .i64 h2, .int .i64 l3, .int .i64 h3] 48)) fun e w' => e = .returned (.bool (inB a (l1, h1) || inB a (l2, h2) || inB a (l3, h3))) ∧ Below w.heap.size w w' := by
  subst hg
  have hg := World.alloc_heap_new w (.cells #[.int .i64 l1, .int .i64 h1, .int .i64 l2, .int .i64 h2, .int .i64 l3, .int .i64 h3] 48)
  have hB := (Below.refl w.heap.size w).alloc (Nat.le_refl _) (.cells #[.int .i64 l1, .int .i64 h1, .int .i64 l2, .int .i64 h2, .int .i64 l3, .int .i64 h3] 48)
  refine (cwithin a w.heap.size [(l1, h1), (l2, h2), (l3, h3)] _ (by simp) (fun j hj => ?_) (by simp)).mono ?_
  · have hj' : j = 0 ∨ j = 1 ∨ j = 2 := by simp at hj; omega
    rcases hj' with rfl | rfl | rfl <;> exact ⟨by rw [cell_of_row _ _ _ _ _ _ hg]; rfl, by rw [cell_of_row _ _ _ _ _ _ hg]; rfl⟩
  · rintro e w' ⟨rfl, hb⟩
    exact ⟨ret_bool (by simp [Bool.or_assoc]), hB.trans (hb.mono (by simp))⟩
theorem host_in {a : Int} (h : inB a (16777216, 3758096383) = true) : hostB a = !(inB a (2130706432, 2147483647)) := by
  have h1 : 16777216 ≤ a ∧ a ≤ 3758096383 := of_decide_eq_true h
  by_cases h2 : 2130706432 ≤ a ∧ a ≤ 2147483647
  · rw [show inB a (2130706432, 2147483647) = true from decide_eq_true h2]
    exact decide_eq_false (by omega)
  · rw [show inB a (2130706432, 2147483647) = false from decide_eq_false h2]
    exact decide_eq_true (by omega)
theorem host_out {a : Int} (h : inB a (16777216, 3758096383) = false) : hostB a = false := by
  have h1 : ¬ (16777216 ≤ a ∧ a ≤ 3758096383) := of_decide_eq_false h
  exact decide_eq_false (by omega)
theorem priv_in (a : Int) : privB a = (inB a (167772160, 184549375) || inB a (2886729728, 2887778303) || inB a (3232235520, 3232301055)) := by
  simp only [privB, inB, Bool.decide_or, Bool.or_assoc]
theorem c3host (a : Int) (w : World) : Calls Tryd.prog 13 #[.int .i64 a] w fun e w' => e = .returned (.bool (hostB a)) ∧ Below w.heap.size w w' := by
  by_cases h : inB a (16777216, 3758096383) = true
  · have HR := Lib.hid (host_in h)
    go_enter Tryd.func13, Tryd.ntmps13
    go_wp2_with (first
      | (go_at_call 35; refine (cw1 a 2130706432 2147483647 _ w1 rfl).mono ?_; rintro e w2 ⟨rfl, b2⟩)
      | (go_at_call 35; refine (cw1 a 16777216 3758096383 _ w rfl).mono ?_; rintro e w1 ⟨rfl, b1⟩))
    go_ret
    exact ⟨ret_bool HR.out.symm, b1.trans (b2.mono b1.size)⟩
  · have h' : inB a (16777216, 3758096383) = false := by simpa using h
    have HR := Lib.hid (host_out h')
    go_enter Tryd.func13, Tryd.ntmps13
    go_wp2_with (first
      | (go_at_call 35; refine (cw1 a 16777216 3758096383 _ w rfl).mono ?_; rintro e w1 ⟨rfl, b1⟩))
    go_ret
    exact ⟨ret_bool HR.out.symm, b1⟩
theorem c3private (a : Int) (w : World) : Calls Tryd.prog 15 #[.int .i64 a] w fun e w' => e = .returned (.bool (privB a)) ∧ Below w.heap.size w w' := by
  have HR := Lib.hid (priv_in a)
  go_enter Tryd.func15, Tryd.ntmps15
  go_wp2_with (first
    | (go_at_call 35; refine (cw3 a 167772160 184549375 2886729728 2887778303 3232235520 3232301055 _ w rfl).mono ?_; rintro e w1 ⟨rfl, b1⟩))
  go_ret
  exact ⟨ret_bool HR.out.symm, b1⟩
end Go.Proofs.YtokcelbpiglieaaDoor
