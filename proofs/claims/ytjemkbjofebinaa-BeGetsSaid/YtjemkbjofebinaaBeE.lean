/-
  Contract of layer 1's awake: it answers true, and turns nothing that was there. Conditions: none.
-/
import Derived.Test.YtjemkbjofebinaaBeD
namespace Go.Proofs.Ytjemkbjofebinaa
open Go.RowKit

theorem get_awake (g : Nat) (w : World) (hg : w.heap[g]? = some (.cells #[.int .u8 1, .int .u8 2, .int .u8 3] 5 (0, 0))) :
    Calls Try.prog 12 #[.slice (some ⟨g, 0, none⟩) 3 3, .int .i64 1, .int .i64 2] w fun e w' => e = .returned (.tuple #[.int .i64 515, .int .i64 0]) ∧ w = w' := by
  have h := get_any (some ⟨g, 0, none⟩) [1, 2, 3] 3 (g + 1) 1 2 w (Rd.of_block hg (Nat.lt_succ_self g) 0 (fun j hj => by
    have : j = 0 ∨ j = 1 ∨ j = 2 := by simp at hj; omega
    rcases this with rfl | rfl | rfl <;> rfl)) (by decide) (by decide)
  have e1 : getV [1, 2, 3] 1 2 = 515 := by decide
  have e2 : getE [(1 : UInt8), 2, 3].length 1 2 = 0 := by decide
  rw [e1, e2] at h
  exact h

theorem put_awake (w : World) :
    Calls Try.prog 18 #[.slice none 0 0, .int .i64 258, .int .i64 2] w fun e w' => ∃ A c, e = .returned (.slice A 2 c) ∧ Rd w' w'.heap.size A [1, 2] ∧ Below w.heap.size w w' := by
  have h := put_any none [] 0 0 258 2 w Rd.nil (Nat.zero_le _) (by decide)
  have e1 : putB [] 258 2 = [1, 2] := by decide
  rw [e1] at h
  exact h.mono fun e w' ⟨v, he, A, c, hv, _, hr, _, hb⟩ => ⟨A, c, by rw [he, hv]; rfl, hr, hb⟩

theorem equal_awake (A A' : Option Addr) (c c' B B' : Nat) (w : World) (h : Rd w B A [1, 2]) (h' : Rd w B' A' [1, 2]) :
    Calls Try.prog 17 #[.slice A 2 c, .slice A' 2 c'] w fun e w' => e = .returned (.bool true) ∧ w = w' := by
  have := equal_any A A' [1, 2] [1, 2] c c' B B' w h h'
  rw [show decide ([(1 : UInt8), 2] = [1, 2]) = true from by decide] at this
  exact this

theorem Rd.two {W : World} (t : TypeId) : Rd (W.alloc (.cells #[.int .u8 1, .int .u8 2] t)) (W.heap.size + 1) (some ⟨W.heap.size, 0, none⟩) [1, 2] :=
  Rd.of_block (g := W.heap.size) (World.alloc_heap_new W _) (Nat.lt_succ_self _) 0 (fun j hj => by
    have : j = 0 ∨ j = 1 := by simp at hj; omega
    rcases this with rfl | rfl <;> rfl)

set_option maxHeartbeats 1000000 in
theorem awake_any (w : World) : Calls Try.prog 11 #[] w fun e w' => e = .returned (.bool true) ∧ Below w.heap.size w w' := by
  go_enter Try.func11, Try.ntmps11
  go_wp2_with (first
    | (go_at_call 12; refine (get_awake w.heap.size _ (World.alloc_heap_new _ _)).mono ?_; rintro e w' ⟨rfl, rfl⟩)
    | (go_at_call 18; refine (put_awake _).mono ?_; rintro e w1 ⟨A, c, rfl, hr, hb⟩)
    | (go_at_call 17; refine (equal_awake _ _ _ _ _ _ _ (hr.alloc (Nat.le_refl _) _) (Rd.two _)).mono ?_; rintro e w' ⟨rfl, rfl⟩))
  go_ret
  exact ⟨rfl, ((((Below.refl _ w).alloc (Nat.le_refl _) _).trans (hb.mono (by simp))).alloc (by have := hb.size; simp at this; omega) _)⟩
end Go.Proofs.Ytjemkbjofebinaa
