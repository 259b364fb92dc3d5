/-
  Contracts of the project's functions of layer 3 over an address's four bytes: split, number. Conditions are each theorem's own.
-/
import Derived.Test.YtokcelbpiglieaaDoorFourQ
namespace Go.Proofs.YtokcelbpiglieaaDoor
open Go.RowKit

/-- Four bytes as values. -/
def u8v (n : Nat) : Value := .int .u8 (n : Int)
theorem heap_first (w : World) (o1 o2 : Obj) : ((w.alloc o1).alloc o2).heap[w.heap.size]? = some o1 := by
  rw [Below.heap_alloc _ _ _ (by simp)]; exact World.alloc_heap_new w _
/-- The bytes that are laid behind k rounds. -/
def qcur (b3 b2 b1 b0 : Nat) : Nat → Array Value
  | 0 => #[u8v 0, u8v 0, u8v 0, u8v 0]
  | 1 => #[u8v 0, u8v 0, u8v 0, u8v b0]
  | 2 => #[u8v 0, u8v 0, u8v b1, u8v b0]
  | 3 => #[u8v 0, u8v b2, u8v b1, u8v b0]
  | _ => #[u8v b3, u8v b2, u8v b1, u8v b0]

set_option maxHeartbeats 1000000 in
theorem csplit (a : Nat) (w : World) (h : a < 4294967296) :
    Calls Tryd.prog 31 #[.int .i64 (a : Int)] w fun e w' => e = .returned (.agg #[u8v (a / 16777216), u8v (a / 65536 % 256), u8v (a / 256 % 256), u8v (a % 256)]) ∧ Below w.heap.size w w' := by
  have hB : ∀ o1 o2, Below w.heap.size w ((w.alloc o1).alloc o2) := fun o1 o2 => ((Below.refl w.heap.size w).alloc (Nat.le_refl _) _).alloc (by simp) _
  go_enter Tryd.func31, Tryd.ntmps31
  go_wp2_with fail
  go_loopw [5] (fun i W => ∃ k : Nat, k ≤ 4 ∧ i = .int .i64 (k : Int) ∧ W = (w.alloc (.cells #[.int .u8 0, .int .u8 0, .int .u8 0, .int .u8 0] 43)).alloc (.cells (qcur (a / 16777216) (a / 65536 % 256) (a / 256 % 256) (a % 256) k) 43)) (fun i _ => 4 - (intOf i).toNat)
  case atStart => exact ⟨0, by omega, rfl, rfl⟩
  case round =>
    obtain ⟨k, hk, rfl, rfl⟩ := hrel
    have hk5 : k = 0 ∨ k = 1 ∨ k = 2 ∨ k = 3 ∨ k = 4 := by omega
    rcases hk5 with rfl | rfl | rfl | rfl | rfl
    · simp only [qcur, u8v]
      go_wp2_with fail
      go_roundw
      case rel => exact ⟨1, by omega, rfl, by simp⟩
      case measure => simp [intOf]
    · simp only [qcur, u8v]
      go_wp2_with fail
      go_roundw
      case rel => exact ⟨2, by omega, rfl, by simp⟩
      case measure => simp [intOf]
    · simp only [qcur, u8v]
      go_wp2_with fail
      go_roundw
      case rel => exact ⟨3, by omega, rfl, by simp⟩
      case measure => simp [intOf]
    · simp only [qcur, u8v]
      go_wp2_with fail
      go_roundw
      case rel => exact ⟨4, by omega, rfl, by simp⟩
      case measure => simp [intOf]
    · simp only [qcur, u8v]
      go_wp2_with fail
      refine bodyPost_ret (results_cell_row rfl _ _ w.heap.size 43 _ (0, 0) _ rfl (heap_first _ _ _) Tryd.underlying43 rfl (by kernel_rfl)) rfl ⟨?_, hB _ _⟩
      simp [u8v]

/-- The number of four bytes. -/
def qnum (b3 b2 b1 b0 : Nat) : Nat := ((b3 * 256 + b2) * 256 + b1) * 256 + b0
def qpart (b3 b2 b1 b0 : Nat) : Nat → Nat
  | 0 => 0
  | 1 => b3
  | 2 => b3 * 256 + b2
  | 3 => (b3 * 256 + b2) * 256 + b1
  | _ => ((b3 * 256 + b2) * 256 + b1) * 256 + b0
def qat (b3 b2 b1 b0 : Nat) : Nat → Nat
  | 0 => b3
  | 1 => b2
  | 2 => b1
  | _ => b0
set_option maxHeartbeats 1000000 in
theorem cnumber (b3 b2 b1 b0 : Nat) (w : World) (h3 : b3 < 256) (h2 : b2 < 256) (h1 : b1 < 256) (h0 : b0 < 256) :
    Calls Tryd.prog 38 #[.agg #[u8v b3, u8v b2, u8v b1, u8v b0]] w fun e w' => e = .returned (.int .i64 (qnum b3 b2 b1 b0 : Nat)) ∧ Below w.heap.size w w' := by
  have hB : ∀ o1, Below w.heap.size w (w.alloc o1) := fun o1 => (Below.refl w.heap.size w).alloc (Nat.le_refl _) _
  simp only [u8v]
  go_enter Tryd.func38, Tryd.ntmps38
  go_wp2_with fail
  go_loop [3, 7] (fun n i => ∃ k : Nat, k ≤ 4 ∧ n = .int .i64 (qpart b3 b2 b1 b0 k : Nat) ∧ i = .int .i64 (k : Int)) (fun _ i => 4 - (intOf i).toNat)
  case atStart => exact ⟨0, by omega, rfl, rfl⟩
  case round =>
    obtain ⟨k, hk, rfl, rfl⟩ := hrel
    by_cases h4 : k = 4
    · subst h4
      go_wp2_with fail
      go_ret
      exact ⟨rfl, hB _⟩
    · have HP : Hid (qpart b3 b2 b1 b0 (k + 1) = qpart b3 b2 b1 b0 k * 256 + qat b3 b2 b1 b0 k ∧ qat b3 b2 b1 b0 k < 256 ∧ qpart b3 b2 b1 b0 k < 16777216) := Lib.hid (by
        have hk5 : k = 0 ∨ k = 1 ∨ k = 2 ∨ k = 3 := by omega
        rcases hk5 with rfl | rfl | rfl | rfl <;> simp [qpart, qat] <;> omega)
      have hi : ∀ w, (Instr.index 43 (.agg #[.int .u8 (b3 : Int), .int .u8 (b2 : Int), .int .u8 (b1 : Int), .int .u8 (b0 : Int)]) (.int .i64 (k : Int))).run Tryd.prog w = .ok (.int .u8 (qat b3 b2 b1 b0 k : Int)) w := by
        have hk5 : k = 0 ∨ k = 1 ∨ k = 2 ∨ k = 3 := by omega
        intro w
        rcases hk5 with rfl | rfl | rfl | rfl <;> kernel_rfl
      obtain ⟨p, hp⟩ : ∃ p, p = qpart b3 b2 b1 b0 k := ⟨_, rfl⟩
      obtain ⟨q, hq⟩ : ∃ q, q = qat b3 b2 b1 b0 k := ⟨_, rfl⟩
      rw [← hp] at HP ⊢
      rw [← hq] at HP hi
      have hq1 := HP.out.2.1
      have hp1 := HP.out.2.2
      clear hp hq
      have HO := Lib.hid (or_byte (p : Int) (q : Int) (by omega) (by omega) (by omega) (by omega))
      go_wp2_with fail
      go_roundw
      case rel => exact ⟨k + 1, by omega, by rw [HO.out, HP.out.1]; simp, by simp⟩
      case measure => simp [intOf]; omega
end Go.Proofs.YtokcelbpiglieaaDoor
