/-
  Contract of the document's plain answer of layer 4 for Of, and slices of integers that came in. Conditions are each theorem's own.
-/
import Derived.Test.YtokcelbpiglieaaDoorSixU
namespace Go.Proofs.YtokcelbpiglieaaDoor
open Go.RowKit

/-- The word of an integer. -/
def wz (z : Int) : Nat := (z % 65536).toNat
theorem wz_lt (z : Int) : wz z < 65536 := by unfold wz; omega
theorem wz_val (z : Int) : Int.tmod (Int.tmod z 65536 + 65536) 65536 = (wz z : Int) := by
  unfold wz
  have h1 : Int.tmod z 65536 = z % 65536 ∨ Int.tmod z 65536 = z % 65536 - 65536 := by
    rcases Int.lt_or_le z 0 with h | h
    · rw [Int.tmod_eq_emod]; split <;> simp <;> omega
    · rw [Int.tmod_eq_emod_of_nonneg h]; exact .inl rfl
  have h2 : 0 ≤ Int.tmod z 65536 + 65536 := by rcases h1 with h | h <;> rw [h] <;> omega
  rw [Int.tmod_eq_emod_of_nonneg h2]
  rcases h1 with h | h <;> rw [h] <;> omega
/-- The address of the first k words of a list. -/
def ofw (zs : List Int) : Nat → List UInt8
  | 0 => nul
  | k + 1 => setw (ofw zs k) k (wz (zs.getD k 0))
theorem ofw_length (zs : List Int) : ∀ k, (ofw zs k).length = 16
  | 0 => rfl
  | k + 1 => by rw [ofw, setw_length]; exact ofw_length zs k
/-- The address of words. -/
def of6 (zs : List Int) : List UInt8 := ofw zs (min zs.length 8)
theorem of6_length (zs : List Int) : (of6 zs).length = 16 := ofw_length zs _

set_option maxRecDepth 100000 in
set_option maxHeartbeats 1000000 in
theorem r4of (A : Option Addr) (zs : List Int) (c B : Nat) (w : World) (hr : RdI w B A zs) (hB : B ≤ w.heap.size) (hl : zs.length ≤ 1099511627776) :
    Calls Tryd.prog 28 #[.slice A zs.length c] w fun e w' => e = .returned (.agg (cel (of6 zs))) ∧ Below w.heap.size w w' := by
  go_enter Tryd.func28, Tryd.ntmps28
  go_wp2
  go_loopw [4] (fun i wr => ∃ k : Nat, k ≤ zs.length ∧ k ≤ 8 ∧ i = .int .i64 (k : Int) ∧ wr = (w.alloc (.cells (cel nul) 31)).alloc (.cells (cel (ofw zs k)) 31)) (fun i _ => 8 - (intOf i).toNat)
  case atStart => exact ⟨0, Nat.zero_le _, by omega, rfl, rfl⟩
  case round =>
    obtain ⟨k, hk, hk8, rfl, rfl⟩ := hrel
    have hlen := ofw_length zs k
    have hgA := World.alloc_heap_new (w.alloc (.cells (cel nul) 31)) (.cells (cel (ofw zs k)) 31)
    have hgR : ((w.alloc (.cells (cel nul) 31)).alloc (.cells (cel (ofw zs k)) 31)).heap[w.heap.size]? = some (.cells (cel nul) 31) := by
      rw [Below.heap_alloc _ _ _ (by simp)]; exact World.alloc_heap_new w _
    rw [show (w.alloc (.cells (cel nul) 31)).heap.size = w.heap.size + 1 from by simp] at hgA
    by_cases hlt : k < zs.length
    · by_cases h8 : k < 8
      · obtain ⟨b, off, rfl, hb, hc⟩ := hr (by omega)
        have hz := hc k hlt
        clear hgA hgR
        have HA : Hid (ofw zs (k + 1) = setw (ofw zs k) k (wz (zs.getD k 0))) := Lib.hid rfl
        clear hc hr
        have hb0 : b < w.heap.size := by omega
        have hb1 : b < w.heap.size + 1 := by omega
        generalize ofw zs k = F at *
        generalize zs.getD k 0 = z at *
        have g1 := cel_get F (show 2 * k < F.length by omega)
        have g2 := cel_get F (show 2 * k + 1 < F.length by omega)
        have HC := Lib.hid (cel_setw_int F k (wz_lt z))
        have hv := wz_val z
        have hwl := wz_lt z
        have e1 : IntKind.i64.wrap (Int.tmod z 65536 + 65536) = Int.tmod z 65536 + 65536 := IntWalk.i64_in _ (by have := Int.tmod_lt_of_pos z (show (0:Int) < 65536 by omega); have := Int.lt_tmod_of_pos z (show (0:Int) < 65536 by omega); omega)
        go_wp2
        go_roundw
        case rel => exact ⟨k + 1, by omega, by omega, by simp, by rw [HA.out, HC.out]⟩
        case measure => simp [intOf]; omega
      · have d8 : decide ((k : Int) < 8) = false := by simp; omega
        have HO : Hid (of6 zs = ofw zs k) := Lib.hid (by unfold of6; congr 1; omega)
        go_wp2_with (first
          | ((with_reducible show wpList _ _ _ (Oper.mk _ (Op.load _ _) _ _ _ _ :: _) _ _); refine six_load (g := w.heap.size + 1) rfl hgA hlen ?_)
          | ((with_reducible show wpList _ _ _ (Oper.mk _ (Op.store _ _ _) _ _ _ _ :: _) _ _); refine six_store (g := w.heap.size) rfl rfl hgR rfl hlen ?_))
        exact bodyPost_ret (six_result rfl rfl (setRow_heap _ _ _ _ _ _ hgR) hlen) rfl ⟨by rw [HO.out], below_setRow (below_two _ _ _) (Nat.le_refl _) _⟩
    · have HO : Hid (of6 zs = ofw zs k) := Lib.hid (by unfold of6; congr 1; omega)
      go_wp2_with (first
        | ((with_reducible show wpList _ _ _ (Oper.mk _ (Op.load _ _) _ _ _ _ :: _) _ _); refine six_load (g := w.heap.size + 1) rfl hgA hlen ?_)
        | ((with_reducible show wpList _ _ _ (Oper.mk _ (Op.store _ _ _) _ _ _ _ :: _) _ _); refine six_store (g := w.heap.size) rfl rfl hgR rfl hlen ?_))
      exact bodyPost_ret (six_result rfl rfl (setRow_heap _ _ _ _ _ _ hgR) hlen) rfl ⟨by rw [HO.out], below_setRow (below_two _ _ _) (Nat.le_refl _) _⟩
end Go.Proofs.YtokcelbpiglieaaDoor
