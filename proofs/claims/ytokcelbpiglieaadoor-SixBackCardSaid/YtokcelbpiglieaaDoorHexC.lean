/-
  Contract of strconv.FormatInt to the base 16 below 65536, as read off the library's text. Conditions are each theorem's own.
-/
import Derived.Test.YtokcelbpiglieaaDoorSixB
import Derived.Test.YtokcelbpiglieaaDoorStrC
import Derived.Laws.IdiomStrings
import Derived.Laws.BitsLemmas
namespace Go.Proofs.YtokcelbpiglieaaDoor
open Go.RowKit

theorem cpow (w : World) : Calls Tryd.prog 67 #[.int .i64 16] w fun e w' => e = .returned (.bool true) ∧ w = w' := by
  have h : bits .and .i64 16 15 = 0 := by decide
  go_enter Tryd.func67, Tryd.ntmps67
  go_wp2_with fail
  go_ret
  exact ⟨rfl, rfl⟩
theorem ctz64 (w : World) (hT : Tabs w) : Calls Tryd.prog 72 #[.int .u64 16] w fun e w' => e = .returned (.int .i64 4) ∧ w = w' := by
  have h1 : IntKind.u64.wrap (-16) = 18446744073709551600 := by decide
  have h2 : bits .and .u64 16 18446744073709551600 = 16 := by decide
  have h3 : IntKind.u64.wrap 4573923408821661840 = 4573923408821661840 := by decide
  have hc : w.cell? ⟨3, 15, none⟩ = some (.int .u8 4) := hT.2.cell glob_bruijn 15 (by decide)
  go_enter Tryd.func72, Tryd.ntmps72
  go_wp2_with fail
  go_ret
  exact ⟨rfl, rfl⟩
theorem ctz (w : World) (hT : Tabs w) : Calls Tryd.prog 68 #[.int .u64 16] w fun e w' => e = .returned (.int .i64 4) ∧ w = w' := by
  go_enter Tryd.func68, Tryd.ntmps68
  go_wp2_with (go_at_call 72; refine (ctz64 _ hT).mono ?_; rintro e w' ⟨rfl, rfl⟩)
  go_ret
  exact ⟨rfl, rfl⟩

def digs36 : ByteArray := ⟨#[48, 49, 50, 51, 52, 53, 54, 55, 56, 57, 97, 98, 99, 100, 101, 102, 103, 104, 105, 106, 107, 108, 109, 110, 111, 112, 113, 114, 115, 116, 117, 118, 119, 120, 121, 122]⟩
theorem dig_get (d : Nat) (h : d < 16) (h' : d < (⟨#[48, 49, 50, 51, 52, 53, 54, 55, 56, 57, 97, 98, 99, 100, 101, 102, 103, 104, 105, 106, 107, 108, 109, 110, 111, 112, 113, 114, 115, 116, 117, 118, 119, 120, 121, 122]⟩ : ByteArray).size) : (⟨#[48, 49, 50, 51, 52, 53, 54, 55, 56, 57, 97, 98, 99, 100, 101, 102, 103, 104, 105, 106, 107, 108, 109, 110, 111, 112, 113, 114, 115, 116, 117, 118, 119, 120, 121, 122]⟩ : ByteArray)[d] = hex1 d := by
  have : d = 0 ∨ d = 1 ∨ d = 2 ∨ d = 3 ∨ d = 4 ∨ d = 5 ∨ d = 6 ∨ d = 7 ∨ d = 8 ∨ d = 9 ∨ d = 10 ∨ d = 11 ∨ d = 12 ∨ d = 13 ∨ d = 14 ∨ d = 15 := by omega
  rcases this with rfl | rfl | rfl | rfl | rfl | rfl | rfl | rfl | rfl | rfl | rfl | rfl | rfl | rfl | rfl | rfl <;> rfl
theorem and15 (u : Nat) (h : u < 65536) : bits .and .u64 (u : Int) 15 = ((u % 16 : Nat) : Int) := by
  have := bits_mask .u64 62 (by decide) (fun n h0 h1 => by simp [IntKind.wrap, IntKind.bits, IntKind.signed]; omega) 4 (by decide) (u : Int) (by omega) (by omega)
  rw [show (15 : Int) = 2 ^ 4 - 1 from rfl, this]; simp
/-- The array's bytes behind j digits. -/
def hcell (n : Nat) : Nat → List UInt8
  | 0 => List.replicate 65 0
  | j + 1 => (hcell n j).set (64 - j) (hex1 (n / 16 ^ j % 16))
theorem hcell_len (n : Nat) : ∀ j, (hcell n j).length = 65
  | 0 => by simp [hcell]
  | j + 1 => by rw [hcell, List.length_set]; exact hcell_len n j
theorem cel_hcell (n j : Nat) : cel (hcell n (j + 1)) = (cel (hcell n j)).setIfInBounds (64 - j) (.int .u8 ((hex1 (n / 16 ^ j % 16)).toNat : Int)) := by
  simp [cel, row, hcell, List.map_set]
/-- The last j digits. -/
def hlast (n : Nat) : Nat → List UInt8
  | 0 => [hex1 (n % 16)]
  | 1 => [hex1 (n / 16 % 16), hex1 (n % 16)]
  | 2 => [hex1 (n / 256 % 16), hex1 (n / 16 % 16), hex1 (n % 16)]
  | _ => [hex1 (n / 4096 % 16), hex1 (n / 256 % 16), hex1 (n / 16 % 16), hex1 (n % 16)]
theorem hcell_last (n : Nat) : ∀ j, j ≤ 3 → (hcell n (j + 1)).drop (64 - j) = hlast n j := by
  intro j hj
  have hh : j = 0 ∨ j = 1 ∨ j = 2 ∨ j = 3 := by omega
  rcases hh with rfl | rfl | rfl | rfl
  · show _ = [hex1 (n % 16)]
    simp [hcell]
  · show _ = [hex1 (n / 16 % 16), hex1 (n % 16)]
    simp [hcell]
  · simp [hcell, hlast]
  · simp [hcell, hlast]
theorem hlast_hexs {n j : Nat} (hj : j ≤ 3) (h1 : j = 0 ∨ 16 ^ j ≤ n) (h2 : n / 16 ^ j < 16) : hlast n j = hexs n := by
  have hh : j = 0 ∨ j = 1 ∨ j = 2 ∨ j = 3 := by omega
  rcases hh with rfl | rfl | rfl | rfl
  · simp at h2
    rw [hexs, if_pos h2, hlast, Nat.mod_eq_of_lt h2]
  · simp at h1 h2
    rw [hexs, if_neg (by omega), if_pos (by omega), hlast, Nat.mod_eq_of_lt h2]
  · simp at h1 h2
    rw [hexs, if_neg (by omega), if_neg (by omega), if_pos (by omega), hlast, Nat.mod_eq_of_lt h2]
  · simp at h1 h2
    rw [hexs, if_neg (by omega), if_neg (by omega), if_neg (by omega)]
    show [hex1 (n / 4096 % 16), hex1 (n / 256 % 16), hex1 (n / 16 % 16), hex1 (n % 16)] = _
    rw [Nat.mod_eq_of_lt h2]
theorem conv_hex (n j : Nat) (w : World) (hj : j ≤ 3) (h : hlast n j = hexs n) :
    (convert 63 9 (.slice (some ⟨w.heap.size, 64 - j, none⟩) (j + 1) (j + 1))).run Tryd.prog (w.alloc (.cells (cel (hcell n (j + 1))) 90)) = .ok (.string (strB (hexs n))) (w.alloc (.cells (cel (hcell n (j + 1))) 90)) := by
  have hl : (hexs n).length = j + 1 := by rw [← h, ← hcell_last n j hj, List.length_drop, hcell_len]; omega
  have hc := run_convert_bytes_back (P := Tryd.prog) (w.alloc (.cells (cel (hcell n (j + 1))) 90)) 63 9 5 ⟨w.heap.size, 64 - j, none⟩ (j + 1) (hexs n) Tryd.underlying63 Tryd.underlying5 Tryd.underlying9 (fun i hi => by
    rw [add_off, World.cell?_alloc_new, cel_get _ (by rw [hcell_len]; omega)]
    congr 2
    rw [byt_at (by rw [hcell_len]; omega)]
    have e1 : (hexs n)[i]? = (hcell n (j + 1))[64 - j + i]? := by rw [← h, ← hcell_last n j hj, List.getElem?_drop]
    rw [List.getElem?_eq_getElem hi, List.getElem?_eq_getElem (by rw [hcell_len]; omega)] at e1
    rw [Option.some.inj e1])
  rw [hl] at hc
  exact hc

set_option maxHeartbeats 4000000 in
theorem cformat (n : Nat) (h : n < 65536) (w : World) (hT : Tabs w) :
    Calls Tryd.prog 57 #[.slice none 0 0, .int .u64 (n : Int), .int .i64 16, .bool false, .bool false] w fun e w' => e = .returned (.tuple #[.slice none 0 0, .string (strB (hexs n))]) ∧ Below w.heap.size w w' := by
  have hB : ∀ o, Below w.heap.size w (w.alloc o) := fun o => (Below.refl w.heap.size w).alloc (Nat.le_refl _) o
  go_enter Tryd.func57, Tryd.ntmps57
  go_wp2_with (first
    | (go_at_call 67; refine (cpow _).mono ?_; rintro e w' ⟨rfl, rfl⟩)
    | (go_at_call 68; refine (ctz _ (hT.alloc _)).mono ?_; rintro e w' ⟨rfl, rfl⟩))
  clear hT
  go_loopw [1, 13] (fun u i W => ∃ j m : Nat, j ≤ 3 ∧ Hid (m = n / 16 ^ j ∧ (j = 0 ∨ 16 ^ j ≤ n)) ∧ u = .int .u64 (m : Int) ∧ i = .int .i64 (65 - (j : Int)) ∧ W = w.alloc (.cells (cel (hcell n j)) 90)) (fun _ i _ => (intOf i).toNat)
  case atStart => exact ⟨0, n, by omega, Lib.hid ⟨by simp, .inl rfl⟩, rfl, rfl, by rw [hcell]; kernel_rfl⟩
  case round =>
    obtain ⟨j, u, hj, HJ, rfl, rfl, rfl⟩ := hrel
    have hu2 : u < 65536 := by rw [HJ.out.1]; exact Nat.lt_of_le_of_lt (Nat.div_le_self _ _) h
    have HS : Hid (cel (hcell n (j + 1)) = (cel (hcell n j)).setIfInBounds (64 - j) (.int .u8 ((hex1 (u % 16)).toNat : Int))) := Lib.hid (by rw [HJ.out.1]; exact cel_hcell n j)
    have ha15 := and15 u hu2
    have hlen := hcell_len n j
    have g1 := cel_get (hcell n j) (show 64 - j < (hcell n j).length by omega)
    have hjj : j = 0 ∨ j = 1 ∨ j = 2 ∨ j = 3 := by omega
    have HX : Hid (16 ≤ u → j ≤ 2 ∧ u / 16 = n / 16 ^ (j + 1) ∧ 16 ^ (j + 1) ≤ n) := Lib.hid (fun h16 => by
      have := HJ.out.1
      rcases hjj with rfl | rfl | rfl | rfl <;> simp at this ⊢ <;> omega)
    by_cases h16 : 16 ≤ u
    · have hj2 := (HX.out h16).1
      have hjj : j = 0 ∨ j = 1 ∨ j = 2 := by omega
      obtain ⟨F, hF⟩ : ∃ F, F = hcell n j := ⟨_, rfl⟩
      rw [← hF] at HS g1 hlen ⊢
      clear hF
      rcases hjj with rfl | rfl | rfl
      · go_wp2_with fail
        go_roundw
        case rel => exact ⟨1, u / 16, by omega, Lib.hid ⟨(HX.out h16).2.1, .inr (HX.out h16).2.2⟩, by simp, by simp, by rw [HS.out, dig_get _ (by omega)]⟩
        case measure => simp [intOf]
      · go_wp2_with fail
        go_roundw
        case rel => exact ⟨2, u / 16, by omega, Lib.hid ⟨(HX.out h16).2.1, .inr (HX.out h16).2.2⟩, by simp, by simp, by rw [HS.out, dig_get _ (by omega)]⟩
        case measure => simp [intOf]
      · go_wp2_with fail
        go_roundw
        case rel => exact ⟨3, u / 16, by omega, Lib.hid ⟨(HX.out h16).2.1, .inr (HX.out h16).2.2⟩, by simp, by simp, by rw [HS.out, dig_get _ (by omega)]⟩
        case measure => simp [intOf]
    · have h16' : ¬ 16 ≤ u := h16
      have hm : u % 16 = u := Nat.mod_eq_of_lt (by omega)
      have HC := fun hh => Lib.hid (conv_hex n j w hj hh)
      have HC := HC (hlast_hexs hj HJ.out.2 (by rw [← HJ.out.1]; omega))
      rw [hm] at HS
      clear ha15 HX
      rcases hjj with rfl | rfl | rfl | rfl
      · have hE : (cel (hcell n 0)).setIfInBounds 64 (.int .u8 ((hex1 u).toNat : Int)) = cel (hcell n 1) := HS.out.symm
        have hE := Lib.hid hE
        go_wp2_with fail
        rw [dig_get u (by omega), hE.out, show (convert 63 9 (.slice (some ⟨w.heap.size, 64, none⟩) 1 1)).run Tryd.prog (w.alloc (.cells (cel (hcell n 1)) 90)) = .ok (.string (strB (hexs n))) (w.alloc (.cells (cel (hcell n 1)) 90)) from HC.out]
        go_wp2_with fail
        go_ret2
        exact ⟨rfl, hB _⟩
      · have hE : (cel (hcell n 1)).setIfInBounds 63 (.int .u8 ((hex1 u).toNat : Int)) = cel (hcell n 2) := HS.out.symm
        have hE := Lib.hid hE
        go_wp2_with fail
        rw [dig_get u (by omega), hE.out, show (convert 63 9 (.slice (some ⟨w.heap.size, 63, none⟩) 2 2)).run Tryd.prog (w.alloc (.cells (cel (hcell n 2)) 90)) = .ok (.string (strB (hexs n))) (w.alloc (.cells (cel (hcell n 2)) 90)) from HC.out]
        go_wp2_with fail
        go_ret2
        exact ⟨rfl, hB _⟩
      · have hE : (cel (hcell n 2)).setIfInBounds 62 (.int .u8 ((hex1 u).toNat : Int)) = cel (hcell n 3) := HS.out.symm
        have hE := Lib.hid hE
        go_wp2_with fail
        rw [dig_get u (by omega), hE.out, show (convert 63 9 (.slice (some ⟨w.heap.size, 62, none⟩) 3 3)).run Tryd.prog (w.alloc (.cells (cel (hcell n 3)) 90)) = .ok (.string (strB (hexs n))) (w.alloc (.cells (cel (hcell n 3)) 90)) from HC.out]
        go_wp2_with fail
        go_ret2
        exact ⟨rfl, hB _⟩
      · have hE : (cel (hcell n 3)).setIfInBounds 61 (.int .u8 ((hex1 u).toNat : Int)) = cel (hcell n 4) := HS.out.symm
        have hE := Lib.hid hE
        go_wp2_with fail
        rw [dig_get u (by omega), hE.out, show (convert 63 9 (.slice (some ⟨w.heap.size, 61, none⟩) 4 4)).run Tryd.prog (w.alloc (.cells (cel (hcell n 4)) 90)) = .ok (.string (strB (hexs n))) (w.alloc (.cells (cel (hcell n 4)) 90)) from HC.out]
        go_wp2_with fail
        go_ret2
        exact ⟨rfl, hB _⟩

theorem ihex (v : Int) (n : Nat) (hv : v = (n : Int)) (h : n < 65536) (w : World) (hT : Tabs w) :
    Calls Tryd.prog 49 #[.int .i64 v, .int .i64 16] w fun e w' => e = .returned (.string (strB (hexs n))) ∧ Below w.heap.size w w' := by
  subst hv
  have hw : IntKind.u64.wrap (n : Int) = (n : Int) := by simp [IntKind.wrap, IntKind.bits, IntKind.signed]; omega
  have hneg : decide ((n : Int) < 0) = false := by simp
  go_enter Tryd.func49, Tryd.ntmps49
  go_wp2_with (go_at_call 57; refine (cformat n h _ hT).mono ?_; rintro e w1 ⟨rfl, b1⟩)
  go_ret
  exact ⟨rfl, b1⟩
theorem chex (v : Int) (n : Nat) (hv : v = (n : Int)) (h : n < 65536) (w : World) (hT : Tabs w) :
    Calls Tryd.prog 40 #[.int .i64 v, .int .i64 16] w fun e w' => e = .returned (.string (strB (hexs n))) ∧ Below w.heap.size w w' := by
  subst hv
  go_enter Tryd.func40, Tryd.ntmps40
  go_wp2_with (go_at_call 49; refine (ihex _ n rfl h _ hT).mono ?_; rintro e w1 ⟨rfl, b1⟩)
  go_ret
  exact ⟨rfl, b1⟩
end Go.Proofs.YtokcelbpiglieaaDoor
