/-
  Contracts of the project's functions of layer 4: Less, Host, Of. Conditions are each theorem's own.
-/
import Derived.Test.YtokcelbpiglieaaDoorSixO
import Derived.Test.YtokcelbpiglieaaDoorSixP
namespace Go.Proofs.YtokcelbpiglieaaDoor
open Go.RowKit

theorem c4less (a b : List UInt8) (ha : a.length = 16) (hb : b.length = 16) (w : World) :
    Calls Tryd.prog 25 #[.agg (cel a), .agg (cel b)] w fun e w' => e = .returned (.bool (lexL a b)) ∧ Below w.heap.size w w' := by
  have hX : ∀ j, j < 16 → ((w.alloc (.cells (cel a) 31)).alloc (.cells (cel b) 31)).cell? ⟨w.heap.size, j, none⟩ = some (.int .u8 (byt a j)) := fun j h => two_first w a b 31 31 (by omega)
  have hY : ∀ j, j < 16 → ((w.alloc (.cells (cel a) 31)).alloc (.cells (cel b) 31)).cell? ⟨w.heap.size + 1, j, none⟩ = some (.int .u8 (byt b j)) := fun j h => two_second w a b 31 31 (by omega)
  have hB := below_two w (.cells (cel a) 31) (.cells (cel b) 31)
  go_enter Tryd.func25, Tryd.ntmps25
  go_wp2
  generalize (w.alloc (.cells (cel a) 31)).alloc (.cells (cel b) 31) = W at *
  go_loopw [6] (fun i wr => ∃ k q : Nat, k ≤ 16 ∧ Hid (lexL a b = lexL (a.drop k) (b.drop k)) ∧ i = .int .i64 (k : Int) ∧ wr = W.drewN q) (fun i _ => 16 - (intOf i).toNat)
  case atStart => exact ⟨0, 0, Nat.zero_le _, Lib.hid rfl, rfl, rfl⟩
  case round =>
    obtain ⟨k, q, hk, HL, rfl, rfl⟩ := hrel
    by_cases hlt : k < 16
    · have hx := cel_get a (show k < a.length by omega)
      have hy := cel_get b (show k < b.length by omega)
      by_cases he : byt a k = byt b k
      · have HS := Lib.hid (lex_same (show k < a.length by omega) (show k < b.length by omega) HL.out he)
        clear HL
        go_wp2
        go_region
        go_wp2
        go_roundw
        case rel => exact ⟨k + 1, _, by omega, HS, by simp, rfl⟩
        case measure => simp [intOf]; omega
      · have HS := Lib.hid (lex_here (show k < a.length by omega) (show k < b.length by omega) HL.out he)
        go_wp2
        go_region
        go_wp2
        go_region
        go_wp2
        go_ret
        exact ⟨ret_bool HS.out.symm, below_n hB _⟩
    · obtain rfl : k = 16 := by omega
      have HS := Lib.hid (lex_end (show a.length ≤ 16 by omega) HL.out)
      go_wp2
      go_ret
      exact ⟨ret_bool HS.out.symm, below_n hB _⟩

theorem c4host (a : List UInt8) (ha : a.length = 16) (w : World) :
    Calls Tryd.prog 23 #[.agg (cel a)] w fun e w' => e = .returned (.bool (host6 a)) ∧ Below w.heap.size w w' := by
  have h0 : (w.alloc (.cells (cel a) 31)).cell? ⟨w.heap.size, 0, none⟩ = some (.int .u8 (byt a 0)) := by rw [World.cell?_alloc_new]; exact cel_get a (by omega)
  have hB := (Below.refl w.heap.size w).alloc (Nat.le_refl _) (.cells (cel a) 31)
  have hg := World.alloc_heap_new w (.cells (cel a) 31)
  have hZ := six_nul a ha
  by_cases hn : a = nul
  · have hz : decide (a = nul) = true := by simpa using hn
    clear hn
    go_enter Tryd.func23, Tryd.ntmps23
    go_wp2_with ((with_reducible show wpList _ _ _ (Oper.mk _ (Op.load _ _) _ _ _ _ :: _) _ _); refine six_load (g := w.heap.size) rfl hg ha ?_)
    go_ret
    exact ⟨ret_bool (by rw [host6, hz]; rfl), hB⟩
  · have hz : decide (a = nul) = false := by simpa using hn
    clear hn
    go_enter Tryd.func23, Tryd.ntmps23
    go_wp2_with ((with_reducible show wpList _ _ _ (Oper.mk _ (Op.load _ _) _ _ _ _ :: _) _ _); refine six_load (g := w.heap.size) rfl hg ha ?_)
    go_ret
    exact ⟨ret_bool (by rw [host6, hz]; rfl), hB⟩
theorem cel_setw_of (a : List UInt8) (k : Nat) (z : Int) : cel (setw a k (wz z)) = ((cel a).setIfInBounds (2 * k) (.int .u8 (z / 256 % 256))).setIfInBounds (2 * k + 1) (.int .u8 (z % 256)) := by
  rw [cel_setw_int a k (wz_lt z)]
  have h1 : (wz z : Int) / 256 = z / 256 % 256 := by unfold wz; omega
  have h2 : (wz z : Int) % 256 = z % 256 := by unfold wz; omega
  rw [h1, h2]
set_option maxRecDepth 100000 in
set_option maxHeartbeats 2000000 in
theorem c4of (A : Option Addr) (zs : List Int) (c B : Nat) (w : World) (hr : RdI w B A zs) (hB : B ≤ w.heap.size) (hcap : zs.length ≤ c) (hl : zs.length ≤ 1099511627776) :
    Calls Tryd.prog 27 #[.slice A zs.length c] w fun e w' => e = .returned (.agg (cel (of6 zs))) ∧ Below w.heap.size w w' := by
  by_cases h0 : zs.length = 0
  · have hgA := World.alloc_heap_new (w.alloc (.cells (cel nul) 31)) (.cells (cel nul) 31)
    have hgR : ((w.alloc (.cells (cel nul) 31)).alloc (.cells (cel nul) 31)).heap[w.heap.size]? = some (.cells (cel nul) 31) := by
      rw [Below.heap_alloc _ _ _ (by simp)]; exact World.alloc_heap_new w _
    rw [show (w.alloc (.cells (cel nul) 31)).heap.size = w.heap.size + 1 from by simp] at hgA
    obtain rfl : zs = [] := List.eq_nil_of_length_eq_zero h0
    have HO : Hid (of6 [] = nul) := Lib.hid rfl
    have hln : nul.length = 16 := rfl
    have hm0 : min ((([] : List Int).length : Nat) : Int) 8 = 0 := rfl
    simp only [List.length_nil] at hcap hm0 ⊢
    rcases A with _ | ad
    · go_enter Tryd.func27, Tryd.ntmps27
      go_wp2
      go_loopw [12] (fun i wr => i = .int .i64 0 ∧ wr = (w.alloc (.cells (cel nul) 31)).alloc (.cells (cel nul) 31)) (fun _ _ => 0)
      case atStart => exact ⟨rfl, rfl⟩
      case round =>
        obtain ⟨rfl, rfl⟩ := hrel
        go_wp2_with (first
          | ((with_reducible show wpList _ _ _ (Oper.mk _ (Op.load _ _) _ _ _ _ :: _) _ _); refine six_load (g := w.heap.size + 1) rfl hgA hln ?_)
          | ((with_reducible show wpList _ _ _ (Oper.mk _ (Op.store _ _ _) _ _ _ _ :: _) _ _); refine six_store (g := w.heap.size) rfl rfl hgR rfl hln ?_))
        exact bodyPost_ret (six_result rfl rfl (setRow_heap _ _ _ _ _ _ hgR) hln) rfl ⟨by rw [HO.out], below_setRow (below_two _ _ _) (Nat.le_refl _) _⟩
    · go_enter Tryd.func27, Tryd.ntmps27
      go_wp2
      go_loopw [12] (fun i wr => i = .int .i64 0 ∧ wr = (w.alloc (.cells (cel nul) 31)).alloc (.cells (cel nul) 31)) (fun _ _ => 0)
      case atStart => exact ⟨rfl, rfl⟩
      case round =>
        obtain ⟨rfl, rfl⟩ := hrel
        go_wp2_with (first
          | ((with_reducible show wpList _ _ _ (Oper.mk _ (Op.load _ _) _ _ _ _ :: _) _ _); refine six_load (g := w.heap.size + 1) rfl hgA hln ?_)
          | ((with_reducible show wpList _ _ _ (Oper.mk _ (Op.store _ _ _) _ _ _ _ :: _) _ _); refine six_store (g := w.heap.size) rfl rfl hgR rfl hln ?_))
        exact bodyPost_ret (six_result rfl rfl (setRow_heap _ _ _ _ _ _ hgR) hln) rfl ⟨by rw [HO.out], below_setRow (below_two _ _ _) (Nat.le_refl _) _⟩

  obtain ⟨b, off, rfl, hb, hc⟩ := hr (by omega)
  by_cases h8 : zs.length ≤ 8
  · have hmin : min (zs.length : Int) 8 = (zs.length : Int) := by omega
    go_enter Tryd.func27, Tryd.ntmps27
    go_wp2
    go_loopw [12] (fun i wr => ∃ k : Nat, k ≤ zs.length ∧ i = .int .i64 (k : Int) ∧ wr = (w.alloc (.cells (cel nul) 31)).alloc (.cells (cel (ofw zs k)) 31)) (fun i _ => zs.length - (intOf i).toNat)
    case atStart => exact ⟨0, Nat.zero_le _, rfl, rfl⟩
    case round =>
      obtain ⟨k, hk, rfl, rfl⟩ := hrel
      have hlen := ofw_length zs k
      have hgA := World.alloc_heap_new (w.alloc (.cells (cel nul) 31)) (.cells (cel (ofw zs k)) 31)
      have hgR : ((w.alloc (.cells (cel nul) 31)).alloc (.cells (cel (ofw zs k)) 31)).heap[w.heap.size]? = some (.cells (cel nul) 31) := by
        rw [Below.heap_alloc _ _ _ (by simp)]; exact World.alloc_heap_new w _
      rw [show (w.alloc (.cells (cel nul) 31)).heap.size = w.heap.size + 1 from by simp] at hgA
      by_cases hlt : k < zs.length
      · have hz := hc k (by omega)
        clear hgA hgR
        have HA : Hid (ofw zs (k + 1) = setw (ofw zs k) k (wz (zs.getD k 0))) := Lib.hid rfl
        clear hc hr
        have hb0 : b < w.heap.size := by omega
        have hb1 : b < w.heap.size + 1 := by omega
        generalize ofw zs k = F at *
        generalize zs.getD k 0 = z at *
        have g1 := cel_get F (show 2 * k < F.length by omega)
        have g2 := cel_get F (show 2 * k + 1 < F.length by omega)
        have HC := Lib.hid (cel_setw_of F k z)
        go_wp2
        go_roundw
        case rel => exact ⟨k + 1, by omega, by simp, by rw [HA.out, HC.out]⟩
        case measure => simp [intOf]; omega
      · have HO : Hid (of6 zs = ofw zs k) := Lib.hid (by unfold of6; congr 1; omega)
        go_wp2_with (first
          | ((with_reducible show wpList _ _ _ (Oper.mk _ (Op.load _ _) _ _ _ _ :: _) _ _); refine six_load (g := w.heap.size + 1) rfl hgA hlen ?_)
          | ((with_reducible show wpList _ _ _ (Oper.mk _ (Op.store _ _ _) _ _ _ _ :: _) _ _); refine six_store (g := w.heap.size) rfl rfl hgR rfl hlen ?_))
        exact bodyPost_ret (six_result rfl rfl (setRow_heap _ _ _ _ _ _ hgR) hlen) rfl ⟨by rw [HO.out], below_setRow (below_two _ _ _) (Nat.le_refl _) _⟩
  · have hmin : min (zs.length : Int) 8 = 8 := by omega
    go_enter Tryd.func27, Tryd.ntmps27
    go_wp2
    go_loopw [12] (fun i wr => ∃ k : Nat, k ≤ 8 ∧ i = .int .i64 (k : Int) ∧ wr = (w.alloc (.cells (cel nul) 31)).alloc (.cells (cel (ofw zs k)) 31)) (fun i _ => 8 - (intOf i).toNat)
    case atStart => exact ⟨0, Nat.zero_le _, rfl, rfl⟩
    case round =>
      obtain ⟨k, hk, rfl, rfl⟩ := hrel
      have hlen := ofw_length zs k
      have hgA := World.alloc_heap_new (w.alloc (.cells (cel nul) 31)) (.cells (cel (ofw zs k)) 31)
      have hgR : ((w.alloc (.cells (cel nul) 31)).alloc (.cells (cel (ofw zs k)) 31)).heap[w.heap.size]? = some (.cells (cel nul) 31) := by
        rw [Below.heap_alloc _ _ _ (by simp)]; exact World.alloc_heap_new w _
      rw [show (w.alloc (.cells (cel nul) 31)).heap.size = w.heap.size + 1 from by simp] at hgA
      by_cases hlt : k < 8
      · have hz := hc k (by omega)
        clear hgA hgR
        have HA : Hid (ofw zs (k + 1) = setw (ofw zs k) k (wz (zs.getD k 0))) := Lib.hid rfl
        clear hc hr
        have hb0 : b < w.heap.size := by omega
        have hb1 : b < w.heap.size + 1 := by omega
        generalize ofw zs k = F at *
        generalize zs.getD k 0 = z at *
        have g1 := cel_get F (show 2 * k < F.length by omega)
        have g2 := cel_get F (show 2 * k + 1 < F.length by omega)
        have HC := Lib.hid (cel_setw_of F k z)
        go_wp2
        go_roundw
        case rel => exact ⟨k + 1, by omega, by simp, by rw [HA.out, HC.out]⟩
        case measure => simp [intOf]; omega
      · have HO : Hid (of6 zs = ofw zs k) := Lib.hid (by unfold of6; congr 1; omega)
        go_wp2_with (first
          | ((with_reducible show wpList _ _ _ (Oper.mk _ (Op.load _ _) _ _ _ _ :: _) _ _); refine six_load (g := w.heap.size + 1) rfl hgA hlen ?_)
          | ((with_reducible show wpList _ _ _ (Oper.mk _ (Op.store _ _ _) _ _ _ _ :: _) _ _); refine six_store (g := w.heap.size) rfl rfl hgR rfl hlen ?_))
        exact bodyPost_ret (six_result rfl rfl (setRow_heap _ _ _ _ _ _ hgR) hlen) rfl ⟨by rw [HO.out], below_setRow (below_two _ _ _) (Nat.le_refl _) _⟩
end Go.Proofs.YtokcelbpiglieaaDoor
