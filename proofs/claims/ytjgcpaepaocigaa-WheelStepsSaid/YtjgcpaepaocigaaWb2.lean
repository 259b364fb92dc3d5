/-
  Contracts and lemmas on which the proofs of this seat stand (several texts in one). Conditions are each theorem's own.
-/
import Derived.Shelf.Small.Bits
import Derived.Shelf.Small.Wraps
import Derived.Shelf.Strconv.Itoa0
import Derived.Shelf.Slices.Equal
import Derived.Shelf.Slices.Empties2
import Derived.Test.YtjgcpaepaocigaaProg
import Derived.Test.YtjgcpaepaocigaaWb1
import Derived.Lib.BitFns

/-
  Contracts of Go's library at this program, out of the library's own theorems (laid by program). Conditions are each theorem's own.
-/
namespace Go.Proofs
open Go.Shelf
def Try.lays125_ren : Go.Shelf.Ren := ⟨fun | 125 => 55 | 128 => 84 | 129 => 85 | n => n, fun | 46 => 90 | 3 => 3 | 51 => 45 | 53 => 116 | 4 => 4 | 5 => 5 | 9 => 9 | n => n, fun | n => n⟩
theorem Try.lays125 : Go.Proofs.Lays.n125 Try.prog Try.lays125_ren := {
  mixed := by kernel_rfl
  f125 := Try.func55.trans (congrArg some (by kernel_rfl))
  f128 := Try.func84.trans (congrArg some (by kernel_rfl))
  f129 := Try.func85.trans (congrArg some (by kernel_rfl))
  t3 := Try.underlying3
  a3 := Try.isAgg3
  z3 := Try.sizeOf3
  v3 := Try.zeroValue3
  t4 := Try.underlying4
  a4 := Try.isAgg4
  z4 := Try.sizeOf4
  v4 := Try.zeroValue4
  t5 := Try.underlying5
  a5 := Try.isAgg5
  z5 := Try.sizeOf5
  v5 := Try.zeroValue5
  t9 := Try.underlying9
  a9 := Try.isAgg9
  z9 := Try.sizeOf9
  v9 := Try.zeroValue9
  t46 := Try.underlying90
  a46 := Try.isAgg90
  z46 := Try.sizeOf90
  v46 := Try.zeroValue90
  t51 := Try.underlying45
  a51 := Try.isAgg45
  z51 := Try.sizeOf45
  v51 := Try.zeroValue45
  t53 := Try.underlying116
  a53 := Try.isAgg116
  z53 := Try.sizeOf116
  v53 := Try.zeroValue116 }
theorem Try.bits_Len (x : Int) (w : World) (h0 : 0 ≤ x) (h1 : x ≤ 18446744073709551615) :
    Calls Try.prog 55 #[.int .u64 x] w fun e w' => e = .returned (.int .i64 (Lib.bitLen x.toNat)) ∧ w' = w := Any.bits_Len Try.lays125 x w h0 h1
def Try.lays111_ren : Go.Shelf.Ren := ⟨fun | 111 => 11 | n => n, fun | 28 => 30 | 3 => 3 | 4 => 4 | 0 => 0 | n => n, fun | n => n⟩
theorem Try.lays111 : Go.Proofs.Lays.n111 Try.prog Try.lays111_ren := {
  mixed := by kernel_rfl
  f111 := Try.func11.trans (congrArg some (by kernel_rfl))
  t0 := Try.underlying0
  a0 := Try.isAgg0
  z0 := Try.sizeOf0
  v0 := Try.zeroValue0
  t3 := Try.underlying3
  a3 := Try.isAgg3
  z3 := Try.sizeOf3
  v3 := Try.zeroValue3
  t4 := Try.underlying4
  a4 := Try.isAgg4
  z4 := Try.sizeOf4
  v4 := Try.zeroValue4
  t28 := Try.underlying30
  a28 := Try.isAgg30
  z28 := Try.sizeOf30
  v28 := Try.zeroValue30 }
open Go.RowKit Go.Lib in
theorem Try.slices_Equal_int (b1 o1 n c b2 o2 m d : Nat) (xs ys : List Int) (w : World) (hx : n ≤ xs.length) (hy : m ≤ ys.length) (hbig : n ≤ 9223372036854775807) (hbig2 : m ≤ 9223372036854775807) (hc1 : ∀ j, j < xs.length → w.cell? ⟨b1, o1 + j, none⟩ = some (.int .i64 (xs.getD j 0))) (hc2 : ∀ j, j < ys.length → w.cell? ⟨b2, o2 + j, none⟩ = some (.int .i64 (ys.getD j 0))) :
    Calls Try.prog 11 #[.slice (some ⟨b1, o1, none⟩) n c, .slice (some ⟨b2, o2, none⟩) m d] w fun e w' => e = .returned (.bool (xs.take n == ys.take m)) ∧ ∃ q, w' = w.drewN q := Any.slices_Equal_int Try.lays111 b1 o1 n c b2 o2 m d xs ys w hx hy hbig hbig2 hc1 hc2
open Go.RowKit Go.Lib in
theorem Try.slices_Equal_int_empty (a1 a2 : Option Addr) (c m d : Nat) (w : World) (hbig2 : m ≤ 9223372036854775807) :
    Calls Try.prog 11 #[.slice a1 0 c, .slice a2 m d] w fun e w' => e = .returned (.bool (decide (m = 0))) ∧ w' = w := Any.slices_Equal_int_empty Try.lays111 a1 a2 c m d w hbig2
end Go.Proofs

/-
  Which slot a time is in (layer 17). Conditions are each theorem's own.
-/
namespace Go.Proofs.Ytjgcpaepaocigaa
open Go.RowKit Go.Shelf Go.Maps Go.WideMaps
/-- The ring that a time is in. -/
def ringN (a n : Nat) : Nat := (Lib.bitLen (a ^^^ n) - 1) / 6
def slotN (a n : Nat) : Nat := 64 * ringN a n + a / 2 ^ (6 * ringN a n) % 64
theorem ring_le {a n k : Nat} (ha : a < 2 ^ (6 * k + 6)) (hn : n < 2 ^ (6 * k + 6)) (hk : k ≤ 9) : ringN a n ≤ k := by
  have h := Lib.bitLen_le (a ^^^ n) (6 * k + 6) (by omega) (Nat.xor_lt_two_pow ha hn)
  unfold ringN
  omega
theorem slot_lt {a n : Nat} (ha : a ≤ 2 ^ 40) (hn : n ≤ 2 ^ 40) : ringN a n < 7 ∧ slotN a n < 448 := by
  have h := ring_le (a := a) (n := n) (k := 6) (by omega) (by omega) (by omega)
  refine ⟨by omega, ?_⟩
  unfold slotN
  have := Nat.mod_lt (a / 2 ^ (6 * ringN a n)) (show 0 < 64 by decide)
  omega
theorem xor_natW (m n : Nat) (hm : m < 2 ^ 63) (hn : n < 2 ^ 63) : bits .xor .i64 (m : Int) (n : Int) = ((m ^^^ n : Nat) : Int) := by
  have hp : 2 ^ 63 ≤ 2 ^ IntKind.i64.bits := by decide
  have ha' : m % 2 ^ IntKind.i64.bits = m := Nat.mod_eq_of_lt (by omega)
  have hb' : n % 2 ^ IntKind.i64.bits = n := Nat.mod_eq_of_lt (by omega)
  have hx : m ^^^ n < 2 ^ 63 := Nat.xor_lt_two_pow hm hn
  simp only [bits, BitVec.ofInt_natCast, BitVec.toNat_xor, BitVec.toNat_ofNat, ha', hb']
  exact wraps63 _ (Int.natCast_nonneg _) (by omega)
set_option maxRecDepth 100000 in
theorem wslot (d a n : Nat) (w : World) (ha : a ≤ 2 ^ 40) (hn : n ≤ 2 ^ 40) : Calls Try.prog 30 #[.pointer (some ⟨d, 0, none⟩), .int .i64 (a : Int), .int .i64 (n : Int)] w fun e w' => e = .returned (.pointer (some ⟨d, 2 * slotN a n, none⟩)) ∧ w' = w.drew := by
  have hx : a ^^^ n < 2 ^ 63 := Nat.xor_lt_two_pow (by omega) (by omega)
  have hxo := xor_natW a n (by omega) (by omega)
  obtain ⟨hr, hs⟩ := slot_lt ha hn
  obtain ⟨B, hB⟩ : ∃ B, B = Lib.bitLen (a ^^^ n) := ⟨_, rfl⟩
  have hB64 : B ≤ 41 := by rw [hB]; exact Lib.bitLen_le _ 41 (by omega) (Nat.xor_lt_two_pow (by omega) (by omega))
  go_enter Try.func30, Try.ntmps30
  go_upto_region 2 with (go_at_call 55; refine (Try.bits_Len _ w (by omega) (by omega)).mono ?_; rintro e w1 ⟨rfl, rfl⟩; rw [Int.toNat_natCast, ← hB])
  have hmx : max ((Lib.bitLen (a ^^^ n) : Int) - 1) 0 / 6 = (ringN a n : Int) := by unfold ringN; omega
  rw [hmx]
  generalize max ((Lib.bitLen (a ^^^ n) : Int) - 1) 0 = mx at *
  obtain ⟨r, hre⟩ : ∃ r, r = ringN a n := ⟨_, rfl⟩
  have HS : Hid (64 * r + a / 2 ^ (6 * r) % 64 = slotN a n) := Lib.hid (by rw [hre]; rfl)
  rw [← hre] at hr ⊢
  have h7 : r = 0 ∨ r = 1 ∨ r = 2 ∨ r = 3 ∨ r = 4 ∨ r = 5 ∨ r = 6 := by omega
  clear hmx hre hs hx hxo hB
  have HA := Lib.hid ha
  clear ha hn
  rcases h7 with rfl | rfl | rfl | rfl | rfl | rfl | rfl
  · refine wp_region_held_drew (S := fun w' => w' = w1.drew) (by kernel_rfl) rfl (fun hS => ?_)
    refine held_pure (i := 0) (oi := ⟨some 16, _, _, _, _, _⟩) rfl (by kernel_rfl) (by kernel_rfl) (by kernel_rfl) (fun _ _ _ h => h) (by rfl) (v := ?_) (fun w hSw => ?_) hS (fun hS => ?_)
    rotate_left
    · go_simp; try with_reducible rfl
    try go_frame
    refine held_pure (i := 1) (oi := ⟨some 17, _, _, _, _, _⟩) rfl (by kernel_rfl) (by kernel_rfl) (by kernel_rfl) (fun _ _ _ h => h) (by rfl) (v := ?_) (fun w hSw => ?_) hS (fun hS => ?_)
    rotate_left
    · go_simp; try with_reducible rfl
    try go_frame
    refine held_pure (i := 2) (oi := ⟨some 18, _, _, _, _, _⟩) rfl (by kernel_rfl) (by kernel_rfl) (by kernel_rfl) (fun _ _ _ h => h) (by rfl) (v := ?_) (fun w hSw => ?_) hS (fun hS => ?_)
    rotate_left
    · go_simp; try with_reducible rfl
    try go_frame
    refine held_pure (i := 3) (oi := ⟨some 19, _, _, _, _, _⟩) rfl (by kernel_rfl) (by kernel_rfl) (by kernel_rfl) (fun _ _ _ h => h) (by rfl) (v := ?_) (fun w hSw => ?_) hS (fun hS => ?_)
    rotate_left
    · go_simp; try with_reducible rfl
    try go_frame
    refine held_pure (i := 4) (oi := ⟨some 20, _, _, _, _, _⟩) rfl (by kernel_rfl) (by kernel_rfl) (by kernel_rfl) (fun _ _ _ h => h) (by rfl) (v := .int .i64 0) (fun w hSw => by go_simp; try decide) hS (fun hS => ?_)
    try go_frame
    refine held_pure (i := 5) (oi := ⟨some 21, _, _, _, _, _⟩) rfl (by kernel_rfl) (by kernel_rfl) (by kernel_rfl) (fun _ _ _ h => h) (by rfl) (v := .int .i64 ((a / 1 : Nat) : Int)) (fun w hSw => by go_simp; try (have := HA.out; omega)) hS (fun hS => ?_)
    try go_frame
    refine held_pure (i := 6) (oi := ⟨some 22, _, _, _, _, _⟩) rfl (by kernel_rfl) (by kernel_rfl) (by kernel_rfl) (fun _ _ _ h => h) (by rfl) (v := .int .i64 ((a / 1 % 64 : Nat) : Int)) (fun w hSw => by go_simp; try (rw [Int.tmod_eq_emod_of_nonneg (by omega)]); try omega) hS (fun hS => ?_)
    try go_frame
    refine held_pure (i := 7) (oi := ⟨some 23, _, _, _, _, _⟩) rfl (by kernel_rfl) (by kernel_rfl) (by kernel_rfl) (fun _ _ _ h => h) (by rfl) (v := ?_) (fun w hSw => ?_) hS (fun hS => ?_)
    rotate_left
    · go_simp; try with_reducible rfl
    try go_frame
    refine held_pure (i := 8) (oi := ⟨some 24, _, _, _, _, _⟩) rfl (by kernel_rfl) (by kernel_rfl) (by kernel_rfl) (fun _ _ _ h => h) (by rfl) (v := .pointer (some ⟨d, 0, none⟩)) (fun w hSw => by go_simp) hS (fun hS => ?_)
    try go_frame
    refine held_pure (i := 9) (oi := ⟨some 25, _, _, _, _, _⟩) rfl (by kernel_rfl) (by kernel_rfl) (by kernel_rfl) (fun _ _ _ h => h) (by rfl) (v := .pointer (some ⟨d, 0 + 2 * (a / 1 % 64), none⟩)) (fun w hSw => by go_simp; rw [if_pos ⟨by omega, by omega⟩, show ((a : Int) % 64).toNat * 2 = 2 * (a / 1 % 64) from by omega, Nat.div_one]) hS (fun hS => ?_)
    try go_frame
    refine held_pure (i := 10) (oi := ⟨some 6, _, _, _, _, _⟩) rfl (by kernel_rfl) (by kernel_rfl) (by kernel_rfl) (fun _ _ _ h => h) (by rfl) (v := ?_) (fun w hSw => ?_) hS (fun hS => ?_)
    rotate_left
    · go_simp; try with_reducible rfl
    try go_frame
    refine wpAnyH_done (by kernel_rfl) ?_ _
    go_wp2
    go_ret
    exact ⟨by have h9 := HS.out; simp only [Nat.reduceMul, Nat.reducePow] at h9; rw [show 2 * (a % 64) = 2 * slotN a n from by omega]; rfl, rfl⟩
  · refine wp_region_held_drew (S := fun w' => w' = w1.drew) (by kernel_rfl) rfl (fun hS => ?_)
    refine held_pure (i := 0) (oi := ⟨some 16, _, _, _, _, _⟩) rfl (by kernel_rfl) (by kernel_rfl) (by kernel_rfl) (fun _ _ _ h => h) (by rfl) (v := ?_) (fun w hSw => ?_) hS (fun hS => ?_)
    rotate_left
    · go_simp; try with_reducible rfl
    try go_frame
    refine held_pure (i := 1) (oi := ⟨some 17, _, _, _, _, _⟩) rfl (by kernel_rfl) (by kernel_rfl) (by kernel_rfl) (fun _ _ _ h => h) (by rfl) (v := ?_) (fun w hSw => ?_) hS (fun hS => ?_)
    rotate_left
    · go_simp; try with_reducible rfl
    try go_frame
    refine held_pure (i := 2) (oi := ⟨some 18, _, _, _, _, _⟩) rfl (by kernel_rfl) (by kernel_rfl) (by kernel_rfl) (fun _ _ _ h => h) (by rfl) (v := ?_) (fun w hSw => ?_) hS (fun hS => ?_)
    rotate_left
    · go_simp; try with_reducible rfl
    try go_frame
    refine held_pure (i := 3) (oi := ⟨some 19, _, _, _, _, _⟩) rfl (by kernel_rfl) (by kernel_rfl) (by kernel_rfl) (fun _ _ _ h => h) (by rfl) (v := ?_) (fun w hSw => ?_) hS (fun hS => ?_)
    rotate_left
    · go_simp; try with_reducible rfl
    try go_frame
    refine held_pure (i := 4) (oi := ⟨some 20, _, _, _, _, _⟩) rfl (by kernel_rfl) (by kernel_rfl) (by kernel_rfl) (fun _ _ _ h => h) (by rfl) (v := .int .i64 6) (fun w hSw => by go_simp; try decide) hS (fun hS => ?_)
    try go_frame
    refine held_pure (i := 5) (oi := ⟨some 21, _, _, _, _, _⟩) rfl (by kernel_rfl) (by kernel_rfl) (by kernel_rfl) (fun _ _ _ h => h) (by rfl) (v := .int .i64 ((a / 64 : Nat) : Int)) (fun w hSw => by go_simp; try (have := HA.out; omega)) hS (fun hS => ?_)
    try go_frame
    refine held_pure (i := 6) (oi := ⟨some 22, _, _, _, _, _⟩) rfl (by kernel_rfl) (by kernel_rfl) (by kernel_rfl) (fun _ _ _ h => h) (by rfl) (v := .int .i64 ((a / 64 % 64 : Nat) : Int)) (fun w hSw => by go_simp; try (rw [Int.tmod_eq_emod_of_nonneg (by omega)]); try omega) hS (fun hS => ?_)
    try go_frame
    refine held_pure (i := 7) (oi := ⟨some 23, _, _, _, _, _⟩) rfl (by kernel_rfl) (by kernel_rfl) (by kernel_rfl) (fun _ _ _ h => h) (by rfl) (v := ?_) (fun w hSw => ?_) hS (fun hS => ?_)
    rotate_left
    · go_simp; try with_reducible rfl
    try go_frame
    refine held_pure (i := 8) (oi := ⟨some 24, _, _, _, _, _⟩) rfl (by kernel_rfl) (by kernel_rfl) (by kernel_rfl) (fun _ _ _ h => h) (by rfl) (v := .pointer (some ⟨d, 128, none⟩)) (fun w hSw => by go_simp) hS (fun hS => ?_)
    try go_frame
    refine held_pure (i := 9) (oi := ⟨some 25, _, _, _, _, _⟩) rfl (by kernel_rfl) (by kernel_rfl) (by kernel_rfl) (fun _ _ _ h => h) (by rfl) (v := .pointer (some ⟨d, 128 + 2 * (a / 64 % 64), none⟩)) (fun w hSw => by go_simp; rw [if_pos ⟨by omega, by omega⟩, show ((a : Int) / 64 % 64).toNat * 2 = 2 * (a / 64 % 64) from by omega]) hS (fun hS => ?_)
    try go_frame
    refine held_pure (i := 10) (oi := ⟨some 6, _, _, _, _, _⟩) rfl (by kernel_rfl) (by kernel_rfl) (by kernel_rfl) (fun _ _ _ h => h) (by rfl) (v := ?_) (fun w hSw => ?_) hS (fun hS => ?_)
    rotate_left
    · go_simp; try with_reducible rfl
    try go_frame
    refine wpAnyH_done (by kernel_rfl) ?_ _
    go_wp2
    go_ret
    exact ⟨by have h9 := HS.out; simp only [Nat.reduceMul, Nat.reducePow] at h9; rw [show 128 + 2 * (a / 64 % 64) = 2 * slotN a n from by omega]; rfl, rfl⟩
  · refine wp_region_held_drew (S := fun w' => w' = w1.drew) (by kernel_rfl) rfl (fun hS => ?_)
    refine held_pure (i := 0) (oi := ⟨some 16, _, _, _, _, _⟩) rfl (by kernel_rfl) (by kernel_rfl) (by kernel_rfl) (fun _ _ _ h => h) (by rfl) (v := ?_) (fun w hSw => ?_) hS (fun hS => ?_)
    rotate_left
    · go_simp; try with_reducible rfl
    try go_frame
    refine held_pure (i := 1) (oi := ⟨some 17, _, _, _, _, _⟩) rfl (by kernel_rfl) (by kernel_rfl) (by kernel_rfl) (fun _ _ _ h => h) (by rfl) (v := ?_) (fun w hSw => ?_) hS (fun hS => ?_)
    rotate_left
    · go_simp; try with_reducible rfl
    try go_frame
    refine held_pure (i := 2) (oi := ⟨some 18, _, _, _, _, _⟩) rfl (by kernel_rfl) (by kernel_rfl) (by kernel_rfl) (fun _ _ _ h => h) (by rfl) (v := ?_) (fun w hSw => ?_) hS (fun hS => ?_)
    rotate_left
    · go_simp; try with_reducible rfl
    try go_frame
    refine held_pure (i := 3) (oi := ⟨some 19, _, _, _, _, _⟩) rfl (by kernel_rfl) (by kernel_rfl) (by kernel_rfl) (fun _ _ _ h => h) (by rfl) (v := ?_) (fun w hSw => ?_) hS (fun hS => ?_)
    rotate_left
    · go_simp; try with_reducible rfl
    try go_frame
    refine held_pure (i := 4) (oi := ⟨some 20, _, _, _, _, _⟩) rfl (by kernel_rfl) (by kernel_rfl) (by kernel_rfl) (fun _ _ _ h => h) (by rfl) (v := .int .i64 12) (fun w hSw => by go_simp; try decide) hS (fun hS => ?_)
    try go_frame
    refine held_pure (i := 5) (oi := ⟨some 21, _, _, _, _, _⟩) rfl (by kernel_rfl) (by kernel_rfl) (by kernel_rfl) (fun _ _ _ h => h) (by rfl) (v := .int .i64 ((a / 4096 : Nat) : Int)) (fun w hSw => by go_simp; try (have := HA.out; omega)) hS (fun hS => ?_)
    try go_frame
    refine held_pure (i := 6) (oi := ⟨some 22, _, _, _, _, _⟩) rfl (by kernel_rfl) (by kernel_rfl) (by kernel_rfl) (fun _ _ _ h => h) (by rfl) (v := .int .i64 ((a / 4096 % 64 : Nat) : Int)) (fun w hSw => by go_simp; try (rw [Int.tmod_eq_emod_of_nonneg (by omega)]); try omega) hS (fun hS => ?_)
    try go_frame
    refine held_pure (i := 7) (oi := ⟨some 23, _, _, _, _, _⟩) rfl (by kernel_rfl) (by kernel_rfl) (by kernel_rfl) (fun _ _ _ h => h) (by rfl) (v := ?_) (fun w hSw => ?_) hS (fun hS => ?_)
    rotate_left
    · go_simp; try with_reducible rfl
    try go_frame
    refine held_pure (i := 8) (oi := ⟨some 24, _, _, _, _, _⟩) rfl (by kernel_rfl) (by kernel_rfl) (by kernel_rfl) (fun _ _ _ h => h) (by rfl) (v := .pointer (some ⟨d, 256, none⟩)) (fun w hSw => by go_simp) hS (fun hS => ?_)
    try go_frame
    refine held_pure (i := 9) (oi := ⟨some 25, _, _, _, _, _⟩) rfl (by kernel_rfl) (by kernel_rfl) (by kernel_rfl) (fun _ _ _ h => h) (by rfl) (v := .pointer (some ⟨d, 256 + 2 * (a / 4096 % 64), none⟩)) (fun w hSw => by go_simp; rw [if_pos ⟨by omega, by omega⟩, show ((a : Int) / 4096 % 64).toNat * 2 = 2 * (a / 4096 % 64) from by omega]) hS (fun hS => ?_)
    try go_frame
    refine held_pure (i := 10) (oi := ⟨some 6, _, _, _, _, _⟩) rfl (by kernel_rfl) (by kernel_rfl) (by kernel_rfl) (fun _ _ _ h => h) (by rfl) (v := ?_) (fun w hSw => ?_) hS (fun hS => ?_)
    rotate_left
    · go_simp; try with_reducible rfl
    try go_frame
    refine wpAnyH_done (by kernel_rfl) ?_ _
    go_wp2
    go_ret
    exact ⟨by have h9 := HS.out; simp only [Nat.reduceMul, Nat.reducePow] at h9; rw [show 256 + 2 * (a / 4096 % 64) = 2 * slotN a n from by omega]; rfl, rfl⟩
  · refine wp_region_held_drew (S := fun w' => w' = w1.drew) (by kernel_rfl) rfl (fun hS => ?_)
    refine held_pure (i := 0) (oi := ⟨some 16, _, _, _, _, _⟩) rfl (by kernel_rfl) (by kernel_rfl) (by kernel_rfl) (fun _ _ _ h => h) (by rfl) (v := ?_) (fun w hSw => ?_) hS (fun hS => ?_)
    rotate_left
    · go_simp; try with_reducible rfl
    try go_frame
    refine held_pure (i := 1) (oi := ⟨some 17, _, _, _, _, _⟩) rfl (by kernel_rfl) (by kernel_rfl) (by kernel_rfl) (fun _ _ _ h => h) (by rfl) (v := ?_) (fun w hSw => ?_) hS (fun hS => ?_)
    rotate_left
    · go_simp; try with_reducible rfl
    try go_frame
    refine held_pure (i := 2) (oi := ⟨some 18, _, _, _, _, _⟩) rfl (by kernel_rfl) (by kernel_rfl) (by kernel_rfl) (fun _ _ _ h => h) (by rfl) (v := ?_) (fun w hSw => ?_) hS (fun hS => ?_)
    rotate_left
    · go_simp; try with_reducible rfl
    try go_frame
    refine held_pure (i := 3) (oi := ⟨some 19, _, _, _, _, _⟩) rfl (by kernel_rfl) (by kernel_rfl) (by kernel_rfl) (fun _ _ _ h => h) (by rfl) (v := ?_) (fun w hSw => ?_) hS (fun hS => ?_)
    rotate_left
    · go_simp; try with_reducible rfl
    try go_frame
    refine held_pure (i := 4) (oi := ⟨some 20, _, _, _, _, _⟩) rfl (by kernel_rfl) (by kernel_rfl) (by kernel_rfl) (fun _ _ _ h => h) (by rfl) (v := .int .i64 18) (fun w hSw => by go_simp; try decide) hS (fun hS => ?_)
    try go_frame
    refine held_pure (i := 5) (oi := ⟨some 21, _, _, _, _, _⟩) rfl (by kernel_rfl) (by kernel_rfl) (by kernel_rfl) (fun _ _ _ h => h) (by rfl) (v := .int .i64 ((a / 262144 : Nat) : Int)) (fun w hSw => by go_simp; try (have := HA.out; omega)) hS (fun hS => ?_)
    try go_frame
    refine held_pure (i := 6) (oi := ⟨some 22, _, _, _, _, _⟩) rfl (by kernel_rfl) (by kernel_rfl) (by kernel_rfl) (fun _ _ _ h => h) (by rfl) (v := .int .i64 ((a / 262144 % 64 : Nat) : Int)) (fun w hSw => by go_simp; try (rw [Int.tmod_eq_emod_of_nonneg (by omega)]); try omega) hS (fun hS => ?_)
    try go_frame
    refine held_pure (i := 7) (oi := ⟨some 23, _, _, _, _, _⟩) rfl (by kernel_rfl) (by kernel_rfl) (by kernel_rfl) (fun _ _ _ h => h) (by rfl) (v := ?_) (fun w hSw => ?_) hS (fun hS => ?_)
    rotate_left
    · go_simp; try with_reducible rfl
    try go_frame
    refine held_pure (i := 8) (oi := ⟨some 24, _, _, _, _, _⟩) rfl (by kernel_rfl) (by kernel_rfl) (by kernel_rfl) (fun _ _ _ h => h) (by rfl) (v := .pointer (some ⟨d, 384, none⟩)) (fun w hSw => by go_simp) hS (fun hS => ?_)
    try go_frame
    refine held_pure (i := 9) (oi := ⟨some 25, _, _, _, _, _⟩) rfl (by kernel_rfl) (by kernel_rfl) (by kernel_rfl) (fun _ _ _ h => h) (by rfl) (v := .pointer (some ⟨d, 384 + 2 * (a / 262144 % 64), none⟩)) (fun w hSw => by go_simp; rw [if_pos ⟨by omega, by omega⟩, show ((a : Int) / 262144 % 64).toNat * 2 = 2 * (a / 262144 % 64) from by omega]) hS (fun hS => ?_)
    try go_frame
    refine held_pure (i := 10) (oi := ⟨some 6, _, _, _, _, _⟩) rfl (by kernel_rfl) (by kernel_rfl) (by kernel_rfl) (fun _ _ _ h => h) (by rfl) (v := ?_) (fun w hSw => ?_) hS (fun hS => ?_)
    rotate_left
    · go_simp; try with_reducible rfl
    try go_frame
    refine wpAnyH_done (by kernel_rfl) ?_ _
    go_wp2
    go_ret
    exact ⟨by have h9 := HS.out; simp only [Nat.reduceMul, Nat.reducePow] at h9; rw [show 384 + 2 * (a / 262144 % 64) = 2 * slotN a n from by omega]; rfl, rfl⟩
  · refine wp_region_held_drew (S := fun w' => w' = w1.drew) (by kernel_rfl) rfl (fun hS => ?_)
    refine held_pure (i := 0) (oi := ⟨some 16, _, _, _, _, _⟩) rfl (by kernel_rfl) (by kernel_rfl) (by kernel_rfl) (fun _ _ _ h => h) (by rfl) (v := ?_) (fun w hSw => ?_) hS (fun hS => ?_)
    rotate_left
    · go_simp; try with_reducible rfl
    try go_frame
    refine held_pure (i := 1) (oi := ⟨some 17, _, _, _, _, _⟩) rfl (by kernel_rfl) (by kernel_rfl) (by kernel_rfl) (fun _ _ _ h => h) (by rfl) (v := ?_) (fun w hSw => ?_) hS (fun hS => ?_)
    rotate_left
    · go_simp; try with_reducible rfl
    try go_frame
    refine held_pure (i := 2) (oi := ⟨some 18, _, _, _, _, _⟩) rfl (by kernel_rfl) (by kernel_rfl) (by kernel_rfl) (fun _ _ _ h => h) (by rfl) (v := ?_) (fun w hSw => ?_) hS (fun hS => ?_)
    rotate_left
    · go_simp; try with_reducible rfl
    try go_frame
    refine held_pure (i := 3) (oi := ⟨some 19, _, _, _, _, _⟩) rfl (by kernel_rfl) (by kernel_rfl) (by kernel_rfl) (fun _ _ _ h => h) (by rfl) (v := ?_) (fun w hSw => ?_) hS (fun hS => ?_)
    rotate_left
    · go_simp; try with_reducible rfl
    try go_frame
    refine held_pure (i := 4) (oi := ⟨some 20, _, _, _, _, _⟩) rfl (by kernel_rfl) (by kernel_rfl) (by kernel_rfl) (fun _ _ _ h => h) (by rfl) (v := .int .i64 24) (fun w hSw => by go_simp; try decide) hS (fun hS => ?_)
    try go_frame
    refine held_pure (i := 5) (oi := ⟨some 21, _, _, _, _, _⟩) rfl (by kernel_rfl) (by kernel_rfl) (by kernel_rfl) (fun _ _ _ h => h) (by rfl) (v := .int .i64 ((a / 16777216 : Nat) : Int)) (fun w hSw => by go_simp; try (have := HA.out; omega)) hS (fun hS => ?_)
    try go_frame
    refine held_pure (i := 6) (oi := ⟨some 22, _, _, _, _, _⟩) rfl (by kernel_rfl) (by kernel_rfl) (by kernel_rfl) (fun _ _ _ h => h) (by rfl) (v := .int .i64 ((a / 16777216 % 64 : Nat) : Int)) (fun w hSw => by go_simp; try (rw [Int.tmod_eq_emod_of_nonneg (by omega)]); try omega) hS (fun hS => ?_)
    try go_frame
    refine held_pure (i := 7) (oi := ⟨some 23, _, _, _, _, _⟩) rfl (by kernel_rfl) (by kernel_rfl) (by kernel_rfl) (fun _ _ _ h => h) (by rfl) (v := ?_) (fun w hSw => ?_) hS (fun hS => ?_)
    rotate_left
    · go_simp; try with_reducible rfl
    try go_frame
    refine held_pure (i := 8) (oi := ⟨some 24, _, _, _, _, _⟩) rfl (by kernel_rfl) (by kernel_rfl) (by kernel_rfl) (fun _ _ _ h => h) (by rfl) (v := .pointer (some ⟨d, 512, none⟩)) (fun w hSw => by go_simp) hS (fun hS => ?_)
    try go_frame
    refine held_pure (i := 9) (oi := ⟨some 25, _, _, _, _, _⟩) rfl (by kernel_rfl) (by kernel_rfl) (by kernel_rfl) (fun _ _ _ h => h) (by rfl) (v := .pointer (some ⟨d, 512 + 2 * (a / 16777216 % 64), none⟩)) (fun w hSw => by go_simp; rw [if_pos ⟨by omega, by omega⟩, show ((a : Int) / 16777216 % 64).toNat * 2 = 2 * (a / 16777216 % 64) from by omega]) hS (fun hS => ?_)
    try go_frame
    refine held_pure (i := 10) (oi := ⟨some 6, _, _, _, _, _⟩) rfl (by kernel_rfl) (by kernel_rfl) (by kernel_rfl) (fun _ _ _ h => h) (by rfl) (v := ?_) (fun w hSw => ?_) hS (fun hS => ?_)
    rotate_left
    · go_simp; try with_reducible rfl
    try go_frame
    refine wpAnyH_done (by kernel_rfl) ?_ _
    go_wp2
    go_ret
    exact ⟨by have h9 := HS.out; simp only [Nat.reduceMul, Nat.reducePow] at h9; rw [show 512 + 2 * (a / 16777216 % 64) = 2 * slotN a n from by omega]; rfl, rfl⟩
  · refine wp_region_held_drew (S := fun w' => w' = w1.drew) (by kernel_rfl) rfl (fun hS => ?_)
    refine held_pure (i := 0) (oi := ⟨some 16, _, _, _, _, _⟩) rfl (by kernel_rfl) (by kernel_rfl) (by kernel_rfl) (fun _ _ _ h => h) (by rfl) (v := ?_) (fun w hSw => ?_) hS (fun hS => ?_)
    rotate_left
    · go_simp; try with_reducible rfl
    try go_frame
    refine held_pure (i := 1) (oi := ⟨some 17, _, _, _, _, _⟩) rfl (by kernel_rfl) (by kernel_rfl) (by kernel_rfl) (fun _ _ _ h => h) (by rfl) (v := ?_) (fun w hSw => ?_) hS (fun hS => ?_)
    rotate_left
    · go_simp; try with_reducible rfl
    try go_frame
    refine held_pure (i := 2) (oi := ⟨some 18, _, _, _, _, _⟩) rfl (by kernel_rfl) (by kernel_rfl) (by kernel_rfl) (fun _ _ _ h => h) (by rfl) (v := ?_) (fun w hSw => ?_) hS (fun hS => ?_)
    rotate_left
    · go_simp; try with_reducible rfl
    try go_frame
    refine held_pure (i := 3) (oi := ⟨some 19, _, _, _, _, _⟩) rfl (by kernel_rfl) (by kernel_rfl) (by kernel_rfl) (fun _ _ _ h => h) (by rfl) (v := ?_) (fun w hSw => ?_) hS (fun hS => ?_)
    rotate_left
    · go_simp; try with_reducible rfl
    try go_frame
    refine held_pure (i := 4) (oi := ⟨some 20, _, _, _, _, _⟩) rfl (by kernel_rfl) (by kernel_rfl) (by kernel_rfl) (fun _ _ _ h => h) (by rfl) (v := .int .i64 30) (fun w hSw => by go_simp; try decide) hS (fun hS => ?_)
    try go_frame
    refine held_pure (i := 5) (oi := ⟨some 21, _, _, _, _, _⟩) rfl (by kernel_rfl) (by kernel_rfl) (by kernel_rfl) (fun _ _ _ h => h) (by rfl) (v := .int .i64 ((a / 1073741824 : Nat) : Int)) (fun w hSw => by go_simp; try (have := HA.out; omega)) hS (fun hS => ?_)
    try go_frame
    refine held_pure (i := 6) (oi := ⟨some 22, _, _, _, _, _⟩) rfl (by kernel_rfl) (by kernel_rfl) (by kernel_rfl) (fun _ _ _ h => h) (by rfl) (v := .int .i64 ((a / 1073741824 % 64 : Nat) : Int)) (fun w hSw => by go_simp; try (rw [Int.tmod_eq_emod_of_nonneg (by omega)]); try omega) hS (fun hS => ?_)
    try go_frame
    refine held_pure (i := 7) (oi := ⟨some 23, _, _, _, _, _⟩) rfl (by kernel_rfl) (by kernel_rfl) (by kernel_rfl) (fun _ _ _ h => h) (by rfl) (v := ?_) (fun w hSw => ?_) hS (fun hS => ?_)
    rotate_left
    · go_simp; try with_reducible rfl
    try go_frame
    refine held_pure (i := 8) (oi := ⟨some 24, _, _, _, _, _⟩) rfl (by kernel_rfl) (by kernel_rfl) (by kernel_rfl) (fun _ _ _ h => h) (by rfl) (v := .pointer (some ⟨d, 640, none⟩)) (fun w hSw => by go_simp) hS (fun hS => ?_)
    try go_frame
    refine held_pure (i := 9) (oi := ⟨some 25, _, _, _, _, _⟩) rfl (by kernel_rfl) (by kernel_rfl) (by kernel_rfl) (fun _ _ _ h => h) (by rfl) (v := .pointer (some ⟨d, 640 + 2 * (a / 1073741824 % 64), none⟩)) (fun w hSw => by go_simp; rw [if_pos ⟨by omega, by omega⟩, show ((a : Int) / 1073741824 % 64).toNat * 2 = 2 * (a / 1073741824 % 64) from by omega]) hS (fun hS => ?_)
    try go_frame
    refine held_pure (i := 10) (oi := ⟨some 6, _, _, _, _, _⟩) rfl (by kernel_rfl) (by kernel_rfl) (by kernel_rfl) (fun _ _ _ h => h) (by rfl) (v := ?_) (fun w hSw => ?_) hS (fun hS => ?_)
    rotate_left
    · go_simp; try with_reducible rfl
    try go_frame
    refine wpAnyH_done (by kernel_rfl) ?_ _
    go_wp2
    go_ret
    exact ⟨by have h9 := HS.out; simp only [Nat.reduceMul, Nat.reducePow] at h9; rw [show 640 + 2 * (a / 1073741824 % 64) = 2 * slotN a n from by omega]; rfl, rfl⟩
  · refine wp_region_held_drew (S := fun w' => w' = w1.drew) (by kernel_rfl) rfl (fun hS => ?_)
    refine held_pure (i := 0) (oi := ⟨some 16, _, _, _, _, _⟩) rfl (by kernel_rfl) (by kernel_rfl) (by kernel_rfl) (fun _ _ _ h => h) (by rfl) (v := ?_) (fun w hSw => ?_) hS (fun hS => ?_)
    rotate_left
    · go_simp; try with_reducible rfl
    try go_frame
    refine held_pure (i := 1) (oi := ⟨some 17, _, _, _, _, _⟩) rfl (by kernel_rfl) (by kernel_rfl) (by kernel_rfl) (fun _ _ _ h => h) (by rfl) (v := ?_) (fun w hSw => ?_) hS (fun hS => ?_)
    rotate_left
    · go_simp; try with_reducible rfl
    try go_frame
    refine held_pure (i := 2) (oi := ⟨some 18, _, _, _, _, _⟩) rfl (by kernel_rfl) (by kernel_rfl) (by kernel_rfl) (fun _ _ _ h => h) (by rfl) (v := ?_) (fun w hSw => ?_) hS (fun hS => ?_)
    rotate_left
    · go_simp; try with_reducible rfl
    try go_frame
    refine held_pure (i := 3) (oi := ⟨some 19, _, _, _, _, _⟩) rfl (by kernel_rfl) (by kernel_rfl) (by kernel_rfl) (fun _ _ _ h => h) (by rfl) (v := ?_) (fun w hSw => ?_) hS (fun hS => ?_)
    rotate_left
    · go_simp; try with_reducible rfl
    try go_frame
    refine held_pure (i := 4) (oi := ⟨some 20, _, _, _, _, _⟩) rfl (by kernel_rfl) (by kernel_rfl) (by kernel_rfl) (fun _ _ _ h => h) (by rfl) (v := .int .i64 36) (fun w hSw => by go_simp; try decide) hS (fun hS => ?_)
    try go_frame
    refine held_pure (i := 5) (oi := ⟨some 21, _, _, _, _, _⟩) rfl (by kernel_rfl) (by kernel_rfl) (by kernel_rfl) (fun _ _ _ h => h) (by rfl) (v := .int .i64 ((a / 68719476736 : Nat) : Int)) (fun w hSw => by go_simp; try (have := HA.out; omega)) hS (fun hS => ?_)
    try go_frame
    refine held_pure (i := 6) (oi := ⟨some 22, _, _, _, _, _⟩) rfl (by kernel_rfl) (by kernel_rfl) (by kernel_rfl) (fun _ _ _ h => h) (by rfl) (v := .int .i64 ((a / 68719476736 % 64 : Nat) : Int)) (fun w hSw => by go_simp; try (rw [Int.tmod_eq_emod_of_nonneg (by omega)]); try omega) hS (fun hS => ?_)
    try go_frame
    refine held_pure (i := 7) (oi := ⟨some 23, _, _, _, _, _⟩) rfl (by kernel_rfl) (by kernel_rfl) (by kernel_rfl) (fun _ _ _ h => h) (by rfl) (v := ?_) (fun w hSw => ?_) hS (fun hS => ?_)
    rotate_left
    · go_simp; try with_reducible rfl
    try go_frame
    refine held_pure (i := 8) (oi := ⟨some 24, _, _, _, _, _⟩) rfl (by kernel_rfl) (by kernel_rfl) (by kernel_rfl) (fun _ _ _ h => h) (by rfl) (v := .pointer (some ⟨d, 768, none⟩)) (fun w hSw => by go_simp) hS (fun hS => ?_)
    try go_frame
    refine held_pure (i := 9) (oi := ⟨some 25, _, _, _, _, _⟩) rfl (by kernel_rfl) (by kernel_rfl) (by kernel_rfl) (fun _ _ _ h => h) (by rfl) (v := .pointer (some ⟨d, 768 + 2 * (a / 68719476736 % 64), none⟩)) (fun w hSw => by go_simp; rw [if_pos ⟨by omega, by omega⟩, show ((a : Int) / 68719476736 % 64).toNat * 2 = 2 * (a / 68719476736 % 64) from by omega]) hS (fun hS => ?_)
    try go_frame
    refine held_pure (i := 10) (oi := ⟨some 6, _, _, _, _, _⟩) rfl (by kernel_rfl) (by kernel_rfl) (by kernel_rfl) (fun _ _ _ h => h) (by rfl) (v := ?_) (fun w hSw => ?_) hS (fun hS => ?_)
    rotate_left
    · go_simp; try with_reducible rfl
    try go_frame
    refine wpAnyH_done (by kernel_rfl) ?_ _
    go_wp2
    go_ret
    exact ⟨by have h9 := HS.out; simp only [Nat.reduceMul, Nat.reducePow] at h9; rw [show 768 + 2 * (a / 68719476736 % 64) = 2 * slotN a n from by omega]; rfl, rfl⟩
end Go.Proofs.Ytjgcpaepaocigaa

/-
  What is armed (layer 17); Arm, of an id that is not armed, into a slot that is empty. Conditions are each theorem's own.
-/
namespace Go.Proofs.Ytjgcpaepaocigaa
open Go.RowKit Go.Shelf Go.Maps Go.WideMaps
/-- A timer: its slot, its block, its id, its time. -/
structure Te where
  q : Nat
  b : Nat
  id : Int
  a : Nat
/-- A wheel with the timers E, at most one in a slot. -/
structure Ws (w : World) (B0 d M : Nat) (most : Int) (now : Nat) (E : List Te) (N : Nat) : Prop where
  T : ∃ T, Wb w d M most (now : Int) T ∧ (∀ e ∈ E, T e.q = some e.b) ∧ (∀ q, (∀ e ∈ E, e.q ≠ q) → T q = none)
  im : Iw w M N (E.map (·.id))
  tm : ∀ e ∈ E, w.heap[e.b]? = some (.cells (tmC e.id (e.a : Int) (some ⟨d, 2 * e.q, none⟩)) 68 (0, 0)) ∧ e.q < 448 ∧ B0 ≤ e.b
  pw : E.Pairwise (fun x y => x.q ≠ y.q ∧ x.b ≠ y.b)
  z : B0 ≤ d ∧ B0 ≤ M
section
variable {w w' : World} {B0 d M N : Nat} {most : Int} {now : Nat} {E : List Te}
theorem Ws.below (h : Ws w B0 d M most now E N) (hb : Below w.heap.size w w') : Ws w' B0 d M most now E N := by
  obtain ⟨T, h1, h2, h3⟩ := h.T
  exact ⟨⟨T, h1.of_block (hb.block d h1.lt), h2, h3⟩, h.im.of_block (hb.block M h.im.lt), fun e he => ⟨(hb.block e.b (heap_lt (h.tm e he).1)).trans (h.tm e he).1, (h.tm e he).2⟩, h.pw, h.z⟩
theorem Ws.bz (h : Ws w B0 d M most now E N) : B0 ≤ w.heap.size := by
  obtain ⟨T, h1, _⟩ := h.T
  exact Nat.le_trans h.z.1 (Nat.le_of_lt h1.lt)
theorem Ws.ne (h : Ws w B0 d M most now E N) : d ≠ M := by
  obtain ⟨T, h1, _⟩ := h.T
  obtain ⟨cs, h2⟩ := h1.is
  obtain ⟨es, clock, h3⟩ := h.im.is
  exact fun e => by rw [e, h3] at h2; cases h2
theorem Ws.neT (h : Ws w B0 d M most now E N) {e : Te} (he : e ∈ E) : e.b ≠ d ∧ e.b ≠ M := by
  obtain ⟨T, h1, _⟩ := h.T
  obtain ⟨cs, h2⟩ := h1.is
  obtain ⟨es, clock, h3⟩ := h.im.is
  have h4 := (h.tm e he).1
  refine ⟨fun e2 => ?_, fun e2 => ?_⟩
  · rw [e2, h2] at h4
    injection h4 with h4
    injection h4 with _ e3 _
    exact absurd e3 (nat_ne (by kernel_rfl))
  · rw [e2, h3] at h4; cases h4
theorem updW_wp {o : Oper} {a : Act} {w w' : World} {K : Act → World → Prop} {Q : Exit → Act → World → Prop} {T : TypeId} {m x v : Operand} {b : Nat} {key c : Value} (ho : o.op = .mapUpdate T m x v) (hm : a.eval m = .map (some b)) (hx : a.eval x = key) (hv : a.eval v = c)
    (h : (Instr.mapUpdate T (.map (some b)) key c).run Try.prog w = .ok () w') (hk : K (a.put o.dst undef) w') : o.wp Try.prog a w K Q := by
  unfold Oper.wp execOp
  simp only [ho, hm, hx, hv, Sem.run_bind, Sem.run_pure, h, Result.andThen_ok]
  exact hk
set_option maxRecDepth 100000 in
set_option maxHeartbeats 4000000 in
theorem warm (h : Ws w B0 d M most now E N) (id : Int) (hid : 0 ≤ id ∧ id ≤ 2147483648) (a : Nat) (ha : a ≤ 2 ^ 40) (hnow : now ≤ 2 ^ 40) (hnew : ∀ e ∈ E, e.id ≠ id) (hroom : (E.length : Int) < most) (hN : N < maxLen) (hq : ∀ e ∈ E, e.q ≠ slotN (max a now) now) :
    Calls Try.prog 9 #[.pointer (some ⟨d, 0, none⟩), .int .i64 id, .int .i64 (a : Int)] w fun e w' => e = .returned (.int .i64 0) ∧ ∃ b, w.heap.size ≤ b ∧ Ws w' B0 d M most now (⟨slotN (max a now) now, b, id, max a now⟩ :: E) (N + 1) ∧ Below B0 w w' := by
  have hne := h.ne
  have hbz := h.bz
  have H := Lib.hid h
  obtain ⟨T, hwb, hT1, hT2⟩ := h.T
  have HWB := Lib.hid hwb
  have HT1 := Lib.hid hT1
  have HT2 := Lib.hid hT2
  have him := h.im
  have hidw : wfW id := ⟨by omega, by omega⟩
  have hno : (E.map (·.id)).contains id = false := by
    rw [Bool.eq_false_iff]; intro hc
    rw [List.contains_iff_mem] at hc
    obtain ⟨e, he, e2⟩ := List.mem_map.1 hc
    exact hnew e he e2
  obtain ⟨pa, hlk⟩ := him.look hidw
  rw [hno] at hlk
  have HLK := Lib.hid hlk
  have km := hwb.cm
  have KM : Hid (w.drew.cell? ⟨d, 896, none⟩ = some (.map (some M))) := Lib.hid hwb.cm
  have KO : Hid (w.drew.cell? ⟨d, 897, none⟩ = some (.int .i64 most)) := Lib.hid hwb.cmo
  have hl := (him.of_block (w' := w.drew) rfl).len
  rw [List.length_map] at hl
  have dF : decide (most ≤ (E.length : Int)) = false := decide_eq_false (by omega)
  have HW1 : Hid ((decide ((0 : Int) ≤ id) && decide (id ≤ 2147483648)) = true) := Lib.hid (by simp [hid.1, hid.2])
  have HW2' : Hid ((decide ((0 : Int) ≤ (a : Int)) && decide ((a : Int) ≤ 1099511627776)) = true) := Lib.hid (by simp; omega)
  obtain ⟨m, hm⟩ : ∃ m, m = max a now := ⟨_, rfl⟩
  have hmi : max (a : Int) (now : Int) = (m : Int) := by omega
  have HAN : Hid (m ≤ 2 ^ 40 ∧ now ≤ 2 ^ 40) := Lib.hid ⟨by omega, hnow⟩
  have HAN2 : Hid (slotN m now < 448) := Lib.hid (slot_lt HAN.out.1 HAN.out.2).2
  rw [← hm] at hq ⊢
  have HTN : Hid (T (slotN m now) = none) := Lib.hid (hT2 _ hq)
  have HQ := Lib.hid hq
  have HND := Lib.hid hno
  obtain ⟨X1, hX1⟩ : ∃ X1, X1 = (w.alloc (.cells (tmC id 0 none) 68)).drew := ⟨_, rfl⟩
  have HX1 := Lib.hid (show (w.alloc (.cells #[.int .i64 id, .int .i64 0, .pointer none, .pointer none, .pointer none] 68)).drew = X1 from hX1.symm)
  have b1 : Below w.heap.size w X1 := by rw [hX1]; exact ((Below.refl _ w).alloc (Nat.le_refl _) _).drew
  have hbX1 : X1.heap[w.heap.size]? = some (.cells (tmC id 0 none) 68 (0, 0)) := by rw [hX1]; exact World.alloc_heap_new w _
  obtain ⟨X2, hu2, hi2, hg2⟩ := (him.of_block (b1.block M him.lt)).put hN hidw hno (some ⟨w.heap.size, 0, none⟩)
  have k2 := (Kept.of_grown hg2).mono (T := fun k => k = M) (fun _ _ e => by injection e)
  have hMw := him.lt
  have hdw := hwb.lt
  have hbX2 := (k2.block w.heap.size (heap_lt hbX1) (by omega)).trans hbX1
  have hwb2 := (hwb.of_block (b1.block d hdw)).of_block (k2.block d (Nat.lt_of_lt_of_le hdw b1.size) hne)
  have HU2 := Lib.hid hu2
  have HI2 := Lib.hid hi2
  have HK2' := Lib.hid k2
  have HB1 := Lib.hid b1
  have km1 : X1.cell? ⟨d, 896, none⟩ = some (.map (some M)) := (hwb.of_block (b1.block d hdw)).cm
  have HBX2 := Lib.hid hbX2
  have HWB2 := Lib.hid hwb2
  clear h hwb hT1 hT2 hlk hno hnew hid ha hnow hq hX1 b1 hbX1 hu2 hi2 hg2 k2 hbX2 hwb2 hm hroom him
  go_enter Try.func9, Try.ntmps9
  go_upto_region 10 with (first
    | ((with_reducible show wpList _ _ _ (Oper.mk _ (Op.lookup _ _ _ _) _ _ _ _ :: _) _ _); refine wpList_val rfl (run_lookW rfl rfl rfl HLK.out) ?_)
    | (go_at_call 27; refine (wmade HWB.out).mono ?_; rintro e w1 ⟨rfl, rfl⟩)
    | (go_at_call 26; (with_reducible refine (wwithin id _ _ _).mono ?_); rintro e w1 ⟨rfl, rfl⟩; rw [HW1.out])
    | (go_at_call 26; (with_reducible refine (wwithin (a : Int) _ _ _).mono ?_); rintro e w1 ⟨rfl, rfl⟩; rw [HW2'.out]))
  refine wp_region_held_drew (S := fun w' => w' = w.drew) (by kernel_rfl) rfl (fun hS => ?_)
  refine held_pure (i := 0) (oi := ⟨some 43, _, _, _, _, _⟩) rfl (by kernel_rfl) (by kernel_rfl) (by kernel_rfl) (fun _ _ _ h => h) (by rfl) (v := ?_) (fun w hSw => ?_) hS (fun hS => ?_)
  rotate_left
  · go_simp; try with_reducible rfl
  try go_frame
  refine held_pure (i := 1) (oi := ⟨some 44, _, _, _, _, _⟩) rfl (by kernel_rfl) (by kernel_rfl) (by kernel_rfl) (fun _ _ _ h => h) (by rfl) (v := ?_) (fun w hSw => ?_) hS (fun hS => ?_)
  rotate_left
  · go_simp; try with_reducible rfl
  try go_frame
  refine held_pure (i := 2) (oi := ⟨some 45, _, _, _, _, _⟩) rfl (by kernel_rfl) (by kernel_rfl) (by kernel_rfl) (fun _ _ _ h => h) (by rfl) (v := ?_) (fun w hSw => ?_) hS (fun hS => ?_)
  rotate_left
  · go_simp; try with_reducible rfl
  try go_frame
  refine held_pure (i := 3) (oi := ⟨some 46, _, _, _, _, _⟩) rfl (by kernel_rfl) (by kernel_rfl) (by kernel_rfl) (fun _ _ _ h => h) (by rfl) (fun w hSw => run_load_mpW rfl rfl (by rw [hSw]; exact KM.out)) hS (fun hS => ?_)
  try go_frame
  refine held_pure (i := 4) (oi := ⟨some 47, _, _, _, _, _⟩) rfl (by kernel_rfl) (by kernel_rfl) (by kernel_rfl) (fun _ _ _ h => h) (by rfl) (v := ?_) (fun w hSw => ?_) hS (fun hS => ?_)
  rotate_left
  · go_simp; try with_reducible rfl
  try go_frame
  refine held_pure (i := 5) (oi := ⟨some 48, _, _, _, _, _⟩) rfl (by kernel_rfl) (by kernel_rfl) (by kernel_rfl) (fun _ _ _ h => h) (by rfl) (v := ?_) (fun w hSw => ?_) hS (fun hS => ?_)
  rotate_left
  · go_simp; try with_reducible rfl
  try go_frame
  refine held_pure (i := 6) (oi := ⟨some 49, _, _, _, _, _⟩) rfl (by kernel_rfl) (by kernel_rfl) (by kernel_rfl) (fun _ _ _ h => h) (by rfl) (v := ?_) (fun w hSw => ?_) hS (fun hS => ?_)
  rotate_left
  · go_simp; try with_reducible rfl
  try go_frame
  refine held_pure (i := 7) (oi := ⟨some 50, _, _, _, _, _⟩) rfl (by kernel_rfl) (by kernel_rfl) (by kernel_rfl) (fun _ _ _ h => h) (by rfl) (v := ?_) (fun w hSw => ?_) hS (fun hS => ?_)
  rotate_left
  · go_simp; try with_reducible rfl
  try go_frame
  refine held_pure (i := 8) (oi := ⟨some 51, _, _, _, _, _⟩) rfl (by kernel_rfl) (by kernel_rfl) (by kernel_rfl) (fun _ _ _ h => h) (by rfl) (fun w hSw => run_load_int rfl rfl (by rw [hSw]; exact KO.out)) hS (fun hS => ?_)
  try go_frame
  refine held_pure (i := 9) (oi := ⟨some 52, _, _, _, _, _⟩) rfl (by kernel_rfl) (by kernel_rfl) (by kernel_rfl) (fun _ _ _ h => h) (by rfl) (v := .bool false) (fun w hSw => by go_simp; try exact dF) hS (fun hS => ?_)
  try go_frame
  refine held_pure (i := 10) (oi := ⟨some 42, _, _, _, _, _⟩) rfl (by kernel_rfl) (by kernel_rfl) (by kernel_rfl) (fun _ _ _ h => h) (by rfl) (v := ?_) (fun w hSw => ?_) hS (fun hS => ?_)
  rotate_left
  · go_simp; try with_reducible rfl
  try go_frame
  refine wpAnyH_done (by kernel_rfl) ?_ _
  go_upto_region 7 with fail
  rw [HX1.out]
  go_upto_region 12 with ((with_reducible show wpList _ _ _ (Oper.mk _ (Op.mapUpdate _ _ _ _) _ _ _ _ :: _) _ _); refine wpList_plain rfl fun K' hK' => ?_; refine updW_wp rfl rfl rfl rfl HU2.out ?_; refine hK' _ _ ?_)
  have kn2 := HWB2.out.cn
  have t1 : X2.cell? ⟨w.heap.size, 1, none⟩ = some (.int .i64 0) := cells_at HBX2.out rfl
  have f1 := heap_frozen HBX2.out 1
  go_upto_region 13 with fail

  have g1 := heap_setCell_same X2 w.heap.size 1 _ _ (.int .i64 (m : Int)) HBX2.out
  have HKX : Hid (Kept (fun k => k = w.heap.size) X2 (X2.setCell ⟨w.heap.size, 1, none⟩ (.int .i64 (m : Int)))) := Lib.hid (Kept.setCell X2 w.heap.size 1 _)
  have HBX : Hid ((X2.setCell ⟨w.heap.size, 1, none⟩ (.int .i64 (m : Int))).heap[w.heap.size]? = some (.cells (tmC id (m : Int) none) 68 (0, 0))) := Lib.hid g1
  have HX3 := Lib.hid (HWB2.out.of_block (HKX.out.block d HWB2.out.lt (by omega)))
  generalize X2.setCell ⟨w.heap.size, 1, none⟩ (.int .i64 (m : Int)) = X3 at *
  clear g1 kn2 t1 f1 km1
  refine wp_region_held_drew (S := fun V => V.cell? ⟨w.heap.size, 1, none⟩ = some (.int .i64 (m : Int)) ∧ V.cell? ⟨d, 898, none⟩ = some (.int .i64 (now : Int))) (by kernel_rfl) ⟨cells_at HBX.out rfl, HX3.out.cn⟩ (fun hS => ?_)
  refine held_pure (i := 0) (oi := ⟨some 62, _, _, _, _, _⟩) rfl (by kernel_rfl) (by kernel_rfl) (by kernel_rfl) (fun _ _ _ h => h) (by rfl) (v := ?_) (fun w hSw => ?_) hS (fun hS => ?_)
  rotate_left
  · go_simp; try with_reducible rfl
  try go_frame
  refine held_pure (i := 1) (oi := ⟨some 63, _, _, _, _, _⟩) rfl (by kernel_rfl) (by kernel_rfl) (by kernel_rfl) (fun _ _ _ h => h) (by rfl) (v := ?_) (fun w hSw => ?_) hS (fun hS => ?_)
  rotate_left
  · go_simp; try with_reducible rfl
  try go_frame
  refine held_pure (i := 2) (oi := ⟨some 64, _, _, _, _, _⟩) rfl (by kernel_rfl) (by kernel_rfl) (by kernel_rfl) (fun _ _ _ h => h) (by rfl) (v := ?_) (fun w hSw => ?_) hS (fun hS => ?_)
  rotate_left
  · go_simp; try with_reducible rfl
  try go_frame
  refine held_pure (i := 3) (oi := ⟨some 65, _, _, _, _, _⟩) rfl (by kernel_rfl) (by kernel_rfl) (by kernel_rfl) (fun _ _ _ h => h) (by rfl) (v := ?_) (fun w hSw => ?_) hS (fun hS => ?_)
  rotate_left
  · go_simp; try with_reducible rfl
  try go_frame
  refine held_pure (i := 4) (oi := ⟨some 66, _, _, _, _, _⟩) rfl (by kernel_rfl) (by kernel_rfl) (by kernel_rfl) (fun _ _ _ h => h) (by rfl) (v := ?_) (fun w hSw => ?_) hS (fun hS => ?_)
  rotate_left
  · go_simp; try with_reducible rfl
  try go_frame
  refine held_pure (i := 5) (oi := ⟨some 67, _, _, _, _, _⟩) rfl (by kernel_rfl) (by kernel_rfl) (by kernel_rfl) (fun _ _ _ h => h) (by rfl) (v := ?_) (fun w hSw => ?_) hS (fun hS => ?_)
  rotate_left
  · go_simp; try with_reducible rfl
  try go_frame
  refine held_pure (i := 6) (oi := ⟨some 68, _, _, _, _, _⟩) rfl (by kernel_rfl) (by kernel_rfl) (by kernel_rfl) (fun _ _ _ h => h) (by rfl) (v := ?_) (fun w hSw => ?_) hS (fun hS => ?_)
  rotate_left
  · go_simp; try with_reducible rfl
  try go_frame
  refine held_pure (i := 7) (oi := ⟨some 69, _, _, _, _, _⟩) rfl (by kernel_rfl) (by kernel_rfl) (by kernel_rfl) (fun _ _ _ h => h) (by rfl) (fun w hSw => run_load_int rfl rfl hSw.1) hS (fun hS => ?_)
  try go_frame
  refine held_pure (i := 8) (oi := ⟨some 70, _, _, _, _, _⟩) rfl (by kernel_rfl) (by kernel_rfl) (by kernel_rfl) (fun _ _ _ h => h) (by rfl) (v := ?_) (fun w hSw => ?_) hS (fun hS => ?_)
  rotate_left
  · go_simp; try with_reducible rfl
  try go_frame
  refine held_pure (i := 9) (oi := ⟨some 71, _, _, _, _, _⟩) rfl (by kernel_rfl) (by kernel_rfl) (by kernel_rfl) (fun _ _ _ h => h) (by rfl) (v := ?_) (fun w hSw => ?_) hS (fun hS => ?_)
  rotate_left
  · go_simp; try with_reducible rfl
  try go_frame
  refine held_pure (i := 10) (oi := ⟨some 72, _, _, _, _, _⟩) rfl (by kernel_rfl) (by kernel_rfl) (by kernel_rfl) (fun _ _ _ h => h) (by rfl) (v := ?_) (fun w hSw => ?_) hS (fun hS => ?_)
  rotate_left
  · go_simp; try with_reducible rfl
  try go_frame
  refine held_pure (i := 11) (oi := ⟨some 73, _, _, _, _, _⟩) rfl (by kernel_rfl) (by kernel_rfl) (by kernel_rfl) (fun _ _ _ h => h) (by rfl) (fun w hSw => run_load_int rfl rfl hSw.2) hS (fun hS => ?_)
  try go_frame
  refine wpAnyH_ready (rs := [12]) (by kernel_rfl) (by simp) (AllReadyH.cons (o := ⟨some 74, _, _, _, _, _⟩) rfl (fun K hK => ?_) AllReadyH.nil)
  rw [if_pos (by rfl)]
  go_simp
  refine (wslot d m now X3.drew HAN.out.1 HAN.out.2).mono ?_
  rintro e y1 ⟨rfl, rfl⟩
  show K _ _
  refine hK.out _ _ (show _ ∧ _ from ⟨hS.1, hS.2⟩) (fun hS => ?_)
  clear hK K
  try go_frame
  refine wpAnyH_ready (rs := [13]) (by kernel_rfl) (by simp) (AllReadyH.cons (o := ⟨some 75, _, _, _, _, _⟩) rfl (fun K hK => ?_) AllReadyH.nil)
  rw [if_pos (by rfl)]
  go_simp
  refine (wstand (w := X3.drew.drew) (q := slotN m now) (b := w.heap.size) (id := id) (at_ := (m : Int)) (HX3.out.of_block rfl) HAN2.out HTN.out (HBX.out)).mono ?_
  rintro e y2 ⟨rfl, hw2, hb2, hk2⟩
  have hS2 : y2.cell? ⟨w.heap.size, 1, none⟩ = some (.int .i64 (m : Int)) ∧ y2.cell? ⟨d, 898, none⟩ = some (.int .i64 (now : Int)) := ⟨cells_at hb2 rfl, hw2.cn⟩
  have HW2 := Lib.hid hw2
  have HB2 := Lib.hid hb2
  have HK2 := Lib.hid hk2
  clear hw2 hb2 hk2
  show K _ _
  refine hK.out _ _ hS2 (fun hS => ?_)
  clear hK K
  try go_frame
  refine wpAnyH_done (by kernel_rfl) ?_ _
  go_wp2
  refine bodyPost_ret (results_tmp rfl _ _ _) rfl ?_
  have kA : Kept (fun k => k = w.heap.size ∨ k = d ∨ k = M) X1 y2 := ((HK2'.out.mono (T := fun k => k = w.heap.size ∨ k = d ∨ k = M) (fun _ _ e => .inr (.inr e))).trans HKX.out (fun _ _ e => .inl e)).trans ((Kept.drew X3).trans ((Kept.drew X3.drew).trans HK2.out (fun _ _ e => e)) (fun _ _ e => e)) (fun _ _ e => by rcases e with e | e; exact .inl e; exact .inr (.inl e))
  refine ⟨rfl, w.heap.size, Nat.le_refl _, ⟨⟨_, HW2.out, fun e he => ?_, fun q hq2 => ?_⟩, ?_, fun e he => ?_, ?_, H.out.z⟩, ?_⟩
  · rcases List.mem_cons.1 he with rfl | he
    · unfold setT; simp
    · unfold setT
      rw [if_neg (HQ.out e he)]; exact HT1.out e he
  · have h1 := hq2 _ (List.mem_cons_self ..)
    unfold setT
    rw [if_neg (fun e => h1 e.symm)]
    exact HT2.out q (fun e he => hq2 e (List.mem_cons_of_mem _ he))
  · refine HI2.out.of_block ?_
    have hMX2 := HI2.out.lt
    have q1 := HKX.out.block M hMX2 (by omega)
    have q2 := HK2.out.block M (Nat.lt_of_lt_of_le hMX2 HKX.out.size) (by rintro (e | e) <;> omega)
    exact q2.trans q1
  · rcases List.mem_cons.1 he with rfl | he
    · exact ⟨HB2.out, HAN2.out, hbz⟩
    · obtain ⟨h1, h2, h3⟩ := H.out.tm e he
      obtain ⟨n1, n2⟩ := H.out.neT he
      have hlt := heap_lt h1
      refine ⟨?_, h2, h3⟩
      exact (kA.block e.b (Nat.lt_of_lt_of_le hlt HB1.out.size) (by rintro (e | e | e) <;> omega)).trans ((HB1.out.block e.b hlt).trans h1)
  · refine List.pairwise_cons.2 ⟨fun e he => ⟨fun e2 => HQ.out e he e2.symm, fun e2 => ?_⟩, H.out.pw⟩
    have := heap_lt (H.out.tm e he).1
    have e3 : w.heap.size = e.b := e2
    omega
  · exact (HB1.out.mono hbz).trans (kA.below (Nat.le_trans hbz HB1.out.size) (fun i e => by rcases e with e | e | e; rw [e]; exact hbz; rw [e]; exact H.out.z.1; rw [e]; exact H.out.z.2))
end
end Go.Proofs.Ytjgcpaepaocigaa

/-
  A wheel of layer 17 in memory, with any timers in its slots, one behind the other; what standing and leaving change. Conditions are each theorem's own.
-/
namespace Go.Proofs.Ytjgcpaepaocigaa
open Go.RowKit Go.Shelf Go.Maps Go.WideMaps
/-- A timer's cells: where it stands, and who stands ahead of it and behind it. -/
def tmG (id at_ : Int) (l p n : Option Addr) : Array Value := #[.int .i64 id, .int .i64 at_, .pointer l, .pointer p, .pointer n]
def pE (o : Option Te) : Option Addr := o.map (fun e => ⟨e.b, 0, none⟩)
/-- Who stands in a slot. -/
def sl (E : List Te) (q : Nat) : List Te := E.filter (fun e => e.q == q)
/-- All but a block. -/
def dr (E : List Te) (b : Nat) : List Te := E.filter (fun e => e.b != b)
/-- A wheel's block and its timers'. -/
structure Wg (w : World) (d M : Nat) (most now : Int) (E : List Te) : Prop where
  ob : ∃ cs : Array Value, w.heap[d]? = some (.cells cs 64 (0, 0)) ∧ cs.size = 899 ∧ (∀ q, q < 448 → cs[2 * q]? = some (.pointer (pE (sl E q).head?)) ∧ cs[2 * q + 1]? = some (.pointer (pE (sl E q).getLast?))) ∧ cs[896]? = some (.map (some M)) ∧ cs[897]? = some (.int .i64 most) ∧ cs[898]? = some (.int .i64 now)
  tm : ∀ q A e C, sl E q = A ++ e :: C → w.heap[e.b]? = some (.cells (tmG e.id (e.a : Int) (some ⟨d, 2 * q, none⟩) (pE A.getLast?) (pE C.head?)) 68 (0, 0))
  nd : (E.map (·.b)).Nodup
  qs : ∀ e ∈ E, e.q < 448
section
variable {w w' : World} {d M : Nat} {most now : Int} {E A C S : List Te} {e z : Te} {q b : Nat}
theorem sl_mem {x : Te} : x ∈ sl E q ↔ x ∈ E ∧ x.q = q := by simp [sl]
theorem sl_app (E : List Te) (e : Te) (q : Nat) : sl (E ++ [e]) q = sl E q ++ (if e.q = q then [e] else []) := by
  unfold sl
  rw [List.filter_append]
  congr 1
  by_cases h : e.q = q <;> simp [h]
theorem nd_inj (h : (E.map (·.b)).Nodup) {x y : Te} (hx : x ∈ E) (hy : y ∈ E) (e : x.b = y.b) : x = y := by
  induction E with
  | nil => cases hx
  | cons a E ih =>
    rw [List.map_cons, List.nodup_cons] at h
    rcases List.mem_cons.1 hx with e1 | hx2 <;> rcases List.mem_cons.1 hy with e2 | hy2
    · exact e1.trans e2.symm
    · exact (h.1 (List.mem_map.2 ⟨y, hy2, by rw [← e, e1]⟩)).elim
    · exact (h.1 (List.mem_map.2 ⟨x, hx2, by rw [e, e2]⟩)).elim
    · exact ih h.2 hx2 hy2
theorem nd_sl (h : (E.map (·.b)).Nodup) (q : Nat) : ((sl E q).map (·.b)).Nodup := by
  refine List.Nodup.sublist ?_ h
  exact List.Sublist.map _ List.filter_sublist
theorem dr_sl (E : List Te) (b q : Nat) : sl (dr E b) q = dr (sl E q) b := by
  unfold sl dr
  rw [List.filter_filter, List.filter_filter]
  congr 1
  funext x
  exact Bool.and_comm _ _
theorem dr_none (h : ∀ x ∈ E, x.b ≠ b) : dr E b = E := by
  unfold dr
  rw [List.filter_eq_self]
  intro x hx
  simpa using h x hx
theorem sl_dr (h : (E.map (·.b)).Nodup) (hs : sl E q = A ++ e :: C) (q' : Nat) : sl (dr E e.b) q' = if q' = q then A ++ C else sl E q' := by
  have he : e ∈ E ∧ e.q = q := sl_mem.1 (by rw [hs]; simp)
  rw [dr_sl]
  split
  · rename_i hq
    subst hq
    have hn := nd_sl h q'
    rw [hs, List.map_append, List.map_cons] at hn
    have h1 := List.nodup_append.1 hn
    rw [hs]
    unfold dr
    rw [List.filter_append, List.filter_cons, if_neg (by simp)]
    congr 1
    · rw [List.filter_eq_self]
      intro x hx
      have := h1.2.2 x.b (List.mem_map.2 ⟨x, hx, rfl⟩) e.b (by simp)
      simpa using this
    · rw [List.filter_eq_self]
      intro x hx
      have := (List.nodup_cons.1 h1.2.1).1
      have h2 : x.b ≠ e.b := fun e2 => this (List.mem_map.2 ⟨x, hx, e2⟩)
      simpa using h2
  · rename_i hq
    refine dr_none (fun x hx e2 => ?_)
    have hx2 := sl_mem.1 hx
    have := nd_inj h hx2.1 he.1 e2
    rw [this] at hx2
    exact hq (hx2.2.symm.trans he.2)
theorem dr_nd (h : (E.map (·.b)).Nodup) (b : Nat) : ((dr E b).map (·.b)).Nodup := List.Nodup.sublist (List.Sublist.map _ List.filter_sublist) h
theorem dr_mem {x : Te} : x ∈ dr E b ↔ x ∈ E ∧ x.b ≠ b := by simp [dr]
theorem sl_split (he : e ∈ E) : ∃ A C, sl E e.q = A ++ e :: C := List.append_of_mem (sl_mem.2 ⟨he, rfl⟩)
/-! ### In memory -/
theorem Wg.is (h : Wg w d M most now E) : ∃ cs, w.heap[d]? = some (.cells cs 64 (0, 0)) := by
  obtain ⟨cs, h1, _⟩ := h.ob
  exact ⟨cs, h1⟩
theorem Wg.lt (h : Wg w d M most now E) : d < w.heap.size := by obtain ⟨cs, h1⟩ := h.is; exact heap_lt h1
theorem Wg.blk (h : Wg w d M most now E) (he : e ∈ E) : ∃ l p n, w.heap[e.b]? = some (.cells (tmG e.id (e.a : Int) (some l) p n) 68 (0, 0)) := by
  obtain ⟨A, C, hs⟩ := sl_split he
  exact ⟨_, _, _, h.tm _ A e C hs⟩
theorem Wg.bne (h : Wg w d M most now E) (he : e ∈ E) : e.b ≠ d := fun e2 => by
  obtain ⟨l, p, n, h1⟩ := h.blk he
  obtain ⟨cs, h2⟩ := h.is
  rw [e2, h2] at h1
  injection h1 with h1
  injection h1 with _ e3 _
  exact absurd e3 (nat_ne (by kernel_rfl))
theorem Wg.free (h : Wg w d M most now E) {id a : Int} (hb : w.heap[b]? = some (.cells (tmG id a none none none) 68 (0, 0))) : b ≠ d ∧ ∀ e ∈ E, e.b ≠ b := by
  refine ⟨fun e2 => ?_, fun e he e2 => ?_⟩
  · obtain ⟨cs, h2⟩ := h.is
    rw [e2, h2] at hb
    injection hb with h1
    injection h1 with _ e3 _
    exact absurd e3 (nat_ne (by kernel_rfl))
  · obtain ⟨l, p, n, h1⟩ := h.blk he
    rw [e2, hb] at h1
    injection h1 with h1
    injection h1 with h1 _ _
    have := congrArg (fun c : Array Value => c[2]?) h1
    simp [tmG] at this
theorem Wg.of_blocks (h : Wg w d M most now E) (hd : w'.heap[d]? = w.heap[d]?) (ht : ∀ e ∈ E, w'.heap[e.b]? = w.heap[e.b]?) : Wg w' d M most now E := by
  obtain ⟨cs, h1, h2⟩ := h.ob
  refine ⟨⟨cs, hd.trans h1, h2⟩, fun q A e C hs => ?_, h.nd, h.qs⟩
  exact (ht e (sl_mem.1 (by rw [hs]; simp : e ∈ sl E q)).1).trans (h.tm q A e C hs)
theorem Wg.drew (h : Wg w d M most now E) : Wg w.drew d M most now E := h.of_blocks rfl (fun _ _ => rfl)
theorem Wg.c0 (h : Wg w d M most now E) (hq : q < 448) : w.cell? ⟨d, 2 * q, none⟩ = some (.pointer (pE (sl E q).head?)) := by
  obtain ⟨cs, h1, _, h3, _⟩ := h.ob
  exact cells_at h1 (h3 q hq).1
theorem Wg.c1 (h : Wg w d M most now E) (hq : q < 448) : w.cell? ⟨d, 2 * q + 1, none⟩ = some (.pointer (pE (sl E q).getLast?)) := by
  obtain ⟨cs, h1, _, h3, _⟩ := h.ob
  exact cells_at h1 (h3 q hq).2
theorem Wg.cm (h : Wg w d M most now E) : w.cell? ⟨d, 896, none⟩ = some (.map (some M)) := by
  obtain ⟨cs, h1, _, _, h4, _⟩ := h.ob
  exact cells_at h1 h4
theorem Wg.cmo (h : Wg w d M most now E) : w.cell? ⟨d, 897, none⟩ = some (.int .i64 most) := by
  obtain ⟨cs, h1, _, _, _, h4, _⟩ := h.ob
  exact cells_at h1 h4
theorem Wg.cn (h : Wg w d M most now E) : w.cell? ⟨d, 898, none⟩ = some (.int .i64 now) := by
  obtain ⟨cs, h1, _, _, _, _, h4⟩ := h.ob
  exact cells_at h1 h4
theorem Wg.fr (h : Wg w d M most now E) (i : Nat) : w.frozen? ⟨d, i, none⟩ = false := by
  obtain ⟨cs, h1⟩ := h.is
  exact heap_frozen h1 i
theorem Wg.time (h : Wg w d M most now E) (n : Int) : Wg (w.setCell ⟨d, 898, none⟩ (.int .i64 n)) d M most n E := by
  obtain ⟨cs, h1, h2, h3, h4, h5, h6⟩ := h.ob
  refine ⟨⟨_, heap_setCell_same w d 898 cs _ (.int .i64 n) h1, by simpa using h2, fun k hk => ⟨?_, ?_⟩, ?_, ?_, ?_⟩, fun q A e C hs => ?_, h.nd, h.qs⟩
  · rw [Array.getElem?_setIfInBounds_ne (by omega)]; exact (h3 k hk).1
  · rw [Array.getElem?_setIfInBounds_ne (by omega)]; exact (h3 k hk).2
  · rw [Array.getElem?_setIfInBounds_ne (by omega)]; exact h4
  · rw [Array.getElem?_setIfInBounds_ne (by omega)]; exact h5
  · rw [Array.getElem?_setIfInBounds_self_of_lt (by omega)]
  · exact (heap_setCell_other w ⟨d, 898, none⟩ e.b _ (h.bne (sl_mem.1 (by rw [hs]; simp : e ∈ sl E q)).1)).trans (h.tm q A e C hs)
/-- The wheel's block with a slot's ends set. -/
theorem Wg.ends (h : Wg w d M most now E) {E' : List Te} (hq : q < 448) (hsl : ∀ k, k ≠ q → sl E' k = sl E k) (hd0 : w'.heap[d]? = w.heap[d]?) :
    (((pE (sl E' q).head? = pE (sl E q).head?) → ∃ cs : Array Value, (w'.setCell ⟨d, 2 * q + 1, none⟩ (.pointer (pE (sl E' q).getLast?))).heap[d]? = some (.cells cs 64 (0, 0)) ∧ cs.size = 899 ∧ (∀ q, q < 448 → cs[2 * q]? = some (.pointer (pE (sl E' q).head?)) ∧ cs[2 * q + 1]? = some (.pointer (pE (sl E' q).getLast?))) ∧ cs[896]? = some (.map (some M)) ∧ cs[897]? = some (.int .i64 most) ∧ cs[898]? = some (.int .i64 now)) ∧
    ((pE (sl E' q).getLast? = pE (sl E q).getLast?) → ∃ cs : Array Value, (w'.setCell ⟨d, 2 * q, none⟩ (.pointer (pE (sl E' q).head?))).heap[d]? = some (.cells cs 64 (0, 0)) ∧ cs.size = 899 ∧ (∀ q, q < 448 → cs[2 * q]? = some (.pointer (pE (sl E' q).head?)) ∧ cs[2 * q + 1]? = some (.pointer (pE (sl E' q).getLast?))) ∧ cs[896]? = some (.map (some M)) ∧ cs[897]? = some (.int .i64 most) ∧ cs[898]? = some (.int .i64 now)) ∧
    (∃ cs : Array Value, ((w'.setCell ⟨d, 2 * q, none⟩ (.pointer (pE (sl E' q).head?))).setCell ⟨d, 2 * q + 1, none⟩ (.pointer (pE (sl E' q).getLast?))).heap[d]? = some (.cells cs 64 (0, 0)) ∧ cs.size = 899 ∧ (∀ q, q < 448 → cs[2 * q]? = some (.pointer (pE (sl E' q).head?)) ∧ cs[2 * q + 1]? = some (.pointer (pE (sl E' q).getLast?))) ∧ cs[896]? = some (.map (some M)) ∧ cs[897]? = some (.int .i64 most) ∧ cs[898]? = some (.int .i64 now))) := by
  obtain ⟨cs, h1, h2, h3, h4, h5, h6⟩ := h.ob
  have h1 := hd0.trans h1
  refine ⟨fun hh => ⟨_, heap_setCell_same w' d (2 * q + 1) cs _ _ h1, by simpa using h2, fun k hk => ?_, ?_, ?_, ?_⟩, fun hh => ⟨_, heap_setCell_same w' d (2 * q) cs _ _ h1, by simpa using h2, fun k hk => ?_, ?_, ?_, ?_⟩, ⟨_, heap_setCell_same _ d (2 * q + 1) _ _ _ (heap_setCell_same w' d (2 * q) cs _ _ h1), by simpa using h2, fun k hk => ?_, ?_, ?_, ?_⟩⟩
  · by_cases e : k = q
    · subst e
      exact ⟨by rw [Array.getElem?_setIfInBounds_ne (by omega), hh]; exact (h3 k hk).1, by rw [Array.getElem?_setIfInBounds_self_of_lt (by omega)]⟩
    · rw [hsl k e]
      exact ⟨by rw [Array.getElem?_setIfInBounds_ne (by omega)]; exact (h3 k hk).1, by rw [Array.getElem?_setIfInBounds_ne (by omega)]; exact (h3 k hk).2⟩
  · rw [Array.getElem?_setIfInBounds_ne (by omega)]; exact h4
  · rw [Array.getElem?_setIfInBounds_ne (by omega)]; exact h5
  · rw [Array.getElem?_setIfInBounds_ne (by omega)]; exact h6
  · by_cases e : k = q
    · subst e
      exact ⟨by rw [Array.getElem?_setIfInBounds_self_of_lt (by omega)], by rw [Array.getElem?_setIfInBounds_ne (by omega), hh]; exact (h3 k hk).2⟩
    · rw [hsl k e]
      exact ⟨by rw [Array.getElem?_setIfInBounds_ne (by omega)]; exact (h3 k hk).1, by rw [Array.getElem?_setIfInBounds_ne (by omega)]; exact (h3 k hk).2⟩
  · rw [Array.getElem?_setIfInBounds_ne (by omega)]; exact h4
  · rw [Array.getElem?_setIfInBounds_ne (by omega)]; exact h5
  · rw [Array.getElem?_setIfInBounds_ne (by omega)]; exact h6
  · by_cases e : k = q
    · subst e
      exact ⟨by rw [Array.getElem?_setIfInBounds_ne (by omega), Array.getElem?_setIfInBounds_self_of_lt (by omega)], by rw [Array.getElem?_setIfInBounds_self_of_lt (by simp; omega)]⟩
    · rw [hsl k e]
      exact ⟨by rw [Array.getElem?_setIfInBounds_ne (by omega), Array.getElem?_setIfInBounds_ne (by omega)]; exact (h3 k hk).1, by rw [Array.getElem?_setIfInBounds_ne (by omega), Array.getElem?_setIfInBounds_ne (by omega)]; exact (h3 k hk).2⟩
  · rw [Array.getElem?_setIfInBounds_ne (by omega), Array.getElem?_setIfInBounds_ne (by omega)]; exact h4
  · rw [Array.getElem?_setIfInBounds_ne (by omega), Array.getElem?_setIfInBounds_ne (by omega)]; exact h5
  · rw [Array.getElem?_setIfInBounds_ne (by omega), Array.getElem?_setIfInBounds_ne (by omega)]; exact h6
end
end Go.Proofs.Ytjgcpaepaocigaa

/-
  stand of layer 17: a timer that stands nowhere stands behind all others of a slot. Conditions are each theorem's own.
-/
namespace Go.Proofs.Ytjgcpaepaocigaa
open Go.RowKit Go.Shelf Go.Maps Go.WideMaps
theorem snoc_eq {S A C : List Te} {n e : Te} (h : S ++ [n] = A ++ e :: C) : (C = [] ∧ e = n ∧ A = S) ∨ ∃ C', C = C' ++ [n] ∧ S = A ++ e :: C' := by
  rcases List.eq_nil_or_concat C with rfl | ⟨C', x, rfl⟩
  · have := List.append_inj' h rfl
    exact .inl ⟨rfl, by have h2 := this.2; injection h2 with h2; exact h2.symm, this.1.symm⟩
  · have h2 : S ++ [n] = (A ++ e :: C') ++ [x] := by rw [h]; simp
    have := List.append_inj' h2 rfl
    refine .inr ⟨C', ?_, this.1⟩
    have h3 := this.2
    injection h3 with h3
    rw [h3]; simp
section
variable {w w' : World} {d M : Nat} {most now id a : Int} {E A C S : List Te} {e z : Te} {q b m : Nat}
/-- Where it stands now. -/
theorem Wg.stood (h : Wg w d M most now E) (hq : q < 448) (hb : ∀ e ∈ E, e.b ≠ b) (hob : ∃ cs : Array Value, w'.heap[d]? = some (.cells cs 64 (0, 0)) ∧ cs.size = 899 ∧ (∀ k, k < 448 → cs[2 * k]? = some (.pointer (pE (sl (E ++ [⟨q, b, id, m⟩]) k).head?)) ∧ cs[2 * k + 1]? = some (.pointer (pE (sl (E ++ [⟨q, b, id, m⟩]) k).getLast?))) ∧ cs[896]? = some (.map (some M)) ∧ cs[897]? = some (.int .i64 most) ∧ cs[898]? = some (.int .i64 now))
    (hn : w'.heap[b]? = some (.cells (tmG id (m : Int) (some ⟨d, 2 * q, none⟩) (pE (sl E q).getLast?) none) 68 (0, 0)))
    (hz : ∀ A z, sl E q = A ++ [z] → w'.heap[z.b]? = some (.cells (tmG z.id (z.a : Int) (some ⟨d, 2 * q, none⟩) (pE A.getLast?) (some ⟨b, 0, none⟩)) 68 (0, 0)))
    (ho : ∀ e ∈ E, (∀ A z, sl E q = A ++ [z] → e.b ≠ z.b) → w'.heap[e.b]? = w.heap[e.b]?) : Wg w' d M most now (E ++ [⟨q, b, id, m⟩]) := by
  refine ⟨hob, fun k A e C hs => ?_, ?_, fun e he => ?_⟩
  · rw [sl_app] at hs
    by_cases hk : q = k
    · subst hk
      rw [if_pos rfl] at hs
      rcases snoc_eq hs with ⟨rfl, rfl, rfl⟩ | ⟨C', rfl, hS⟩
      · exact hn
      · rcases List.eq_nil_or_concat C' with rfl | ⟨C2, x, hC2⟩
        · exact hz A e hS
        rw [List.concat_eq_append] at hC2
        subst hC2
        · have heE : e ∈ E := (sl_mem.1 (by rw [hS]; simp : e ∈ sl E q)).1
          rw [ho e heE (fun A2 z h2 => ?_), h.tm q A e _ hS]
          · simp [List.head?_append]
          · intro e2
            have hzE : z ∈ E := (sl_mem.1 (by rw [h2]; simp : z ∈ sl E q)).1
            have e3 := nd_inj h.nd heE hzE e2
            have hnd := nd_sl h.nd q
            rw [hS, e3] at hnd
            rw [hS, show A ++ e :: (C2 ++ [x]) = (A ++ e :: C2) ++ [x] by simp] at h2
            have h4 := (List.append_inj' h2 rfl).2
            injection h4 with h4
            rw [h4] at hnd
            simp [List.nodup_append, List.nodup_cons] at hnd
    · rw [if_neg hk, List.append_nil] at hs
      have hm := sl_mem.1 (by rw [hs]; simp : e ∈ sl E k)
      rw [ho e hm.1 (fun A2 z h2 => ?_)]
      · exact h.tm k A e C hs
      · intro e2
        have hz2 := sl_mem.1 (by rw [h2]; simp : z ∈ sl E q)
        have e3 := nd_inj h.nd hm.1 hz2.1 e2
        rw [← e3] at hz2
        exact hk (hz2.2.symm.trans hm.2)
  · rw [List.map_append, List.nodup_append]
    refine ⟨h.nd, by simp, fun x hx y hy => ?_⟩
    obtain ⟨e, he, rfl⟩ := List.mem_map.1 hx
    simp at hy
    subst hy
    exact hb e he
  · rcases List.mem_append.1 he with he | he
    · exact h.qs e he
    · rw [List.mem_singleton.1 he]; exact hq
set_option maxRecDepth 100000 in
set_option maxHeartbeats 2000000 in
theorem wstandG (h : Wg w d M most now E) (hq : q < 448) (hb : w.heap[b]? = some (.cells (tmG id (m : Int) none none none) 68 (0, 0))) :
    Calls Try.prog 29 #[.pointer (some ⟨b, 0, none⟩), .pointer (some ⟨d, 2 * q, none⟩)] w fun e w' => e = .returned (.tuple #[]) ∧
      Wg w' d M most now (E ++ [⟨q, b, id, m⟩]) ∧ Kept (fun k => k = b ∨ k = d ∨ ∃ e ∈ E, k = e.b) w w' := by
  obtain ⟨hbd, hbE⟩ := h.free hb
  have HQ := Lib.hid hq
  have hsl : ∀ k, k ≠ q → sl (E ++ [⟨q, b, id, m⟩]) k = sl E k := fun k hk => by rw [sl_app, if_neg (fun e => hk e.symm), List.append_nil]
  have hslq : sl (E ++ [⟨q, b, id, m⟩]) q = sl E q ++ [⟨q, b, id, m⟩] := by rw [sl_app, if_pos rfl]
  have t2 : w.cell? ⟨b, 2, none⟩ = some (.pointer none) := cells_at hb rfl
  have t3 : w.cell? ⟨b, 3, none⟩ = some (.pointer none) := cells_at hb rfl
  have f2 := heap_frozen hb 2
  have f3 := heap_frozen hb 3
  have k1 := h.c1 hq
  have H := Lib.hid h
  have HB := Lib.hid hb
  have HSL := Lib.hid (And.intro hsl hslq)
  have HBE := Lib.hid hbE
  rcases hS : sl E q with _ | ⟨y, S'⟩
  · have HS := Lib.hid hS
    rw [hS] at k1
    replace k1 : w.cell? ⟨d, 2 * q + 1, none⟩ = some (.pointer none) := k1
    clear h hb hsl hslq hbE hS
    go_enter Try.func29, Try.ntmps29
    go_upto_region 1 with fail
    have g1 := heap_setCell_same w b 2 _ _ (.pointer (some ⟨d, 2 * q, none⟩)) HB.out
    have g2 := heap_setCell_same _ b 3 _ _ (.pointer none) g1
    have kp : Kept (fun k => k = b) w ((w.setCell ⟨b, 2, none⟩ (.pointer (some ⟨d, 2 * q, none⟩))).setCell ⟨b, 3, none⟩ (.pointer none)) := (Kept.setCell w b 2 _).trans (Kept.setCell _ b 3 _) (fun _ _ e => e)
    have g3 : ((w.setCell ⟨b, 2, none⟩ (.pointer (some ⟨d, 2 * q, none⟩))).setCell ⟨b, 3, none⟩ (.pointer none)).heap[b]? = some (.cells (tmG id (m : Int) (some ⟨d, 2 * q, none⟩) none none) 68 (0, 0)) := g2
    generalize (w.setCell ⟨b, 2, none⟩ (.pointer (some ⟨d, 2 * q, none⟩))).setCell ⟨b, 3, none⟩ (.pointer none) = V at *
    have hdV := kp.block d H.out.lt (fun e => hbd e.symm)
    have HV := H.out.of_blocks hdV (fun e he => kp.block e.b (heap_lt (H.out.blk he).choose_spec.choose_spec.choose_spec) (HBE.out e he))
    clear k1
    have k1 : V.cell? ⟨d, 2 * q + 1, none⟩ = some (.pointer none) := by have := HV.c1 HQ.out; rw [HS.out] at this; exact this
    have k0 : V.cell? ⟨d, 2 * q, none⟩ = some (.pointer none) := by have := HV.c0 HQ.out; rw [HS.out] at this; exact this
    have fd0 := HV.fr (2 * q)
    have fd1 := HV.fr (2 * q + 1)
    have HVH := Lib.hid HV
    have HG := Lib.hid g3
    have HK := Lib.hid kp
    have HDV := Lib.hid hdV
    clear g1 g2 g3 kp HV t2 t3 f2 f3 hdV
    go_wp2
    refine bodyPost_end (results_none rfl _ _ _) rfl ?_
    have hen := (HVH.out.ends (w' := V) (E' := E ++ [⟨q, b, id, m⟩]) HQ.out HSL.out.1 rfl).2.2
    rw [HSL.out.2, HS.out] at hen
    have kd : Kept (fun k => k = d) V ((V.setCell ⟨d, 2 * q, none⟩ (.pointer (some ⟨b, 0, none⟩))).setCell ⟨d, 2 * q + 1, none⟩ (.pointer (some ⟨b, 0, none⟩))) := (Kept.setCell V d (2 * q) _).trans (Kept.setCell _ d (2 * q + 1) _) (fun _ _ e => e)
    refine ⟨rfl, HVH.out.stood HQ.out HBE.out hen ?_ ?_ ?_, (HK.out.mono (fun _ _ e => .inl e)).trans kd (fun _ _ e => .inr (.inl e))⟩
    · rw [HS.out]
      exact (kd.block b (heap_lt HG.out) hbd).trans HG.out
    · intro A z hz
      rw [HS.out] at hz
      simp at hz
    · intro e he _
      exact kd.block e.b (heap_lt (HVH.out.blk he).choose_spec.choose_spec.choose_spec) (HVH.out.bne he)
  · obtain ⟨S2, z, hz⟩ : ∃ S2 z, sl E q = S2 ++ [z] := by
      rcases List.eq_nil_or_concat (sl E q) with h0 | ⟨S2, z, h0⟩
      · rw [h0] at hS; cases hS
      · exact ⟨S2, z, by simpa using h0⟩
    have hzE : z ∈ E := (sl_mem.1 (by rw [hz]; simp : z ∈ sl E q)).1
    have HZE := Lib.hid hzE
    have hzb := hbE z hzE
    have hzd := h.bne hzE
    have HZ := Lib.hid hz
    have hzt := h.tm q S2 z [] (by rw [hz])
    have HZT := Lib.hid hzt
    rw [hz] at k1
    replace k1 : w.cell? ⟨d, 2 * q + 1, none⟩ = some (.pointer (some ⟨z.b, 0, none⟩)) := by simpa [pE] using k1
    have HSZ : Hid ((sl E q).getLast? = some z ∧ (sl E q).head? = some y) := Lib.hid ⟨by rw [hz]; simp, by rw [hS]; rfl⟩
    clear h hb hsl hslq hbE hS hz hzE hzt
    go_enter Try.func29, Try.ntmps29
    go_upto_region 1 with fail
    have g1 := heap_setCell_same w b 2 _ _ (.pointer (some ⟨d, 2 * q, none⟩)) HB.out
    have g2 := heap_setCell_same _ b 3 _ _ (.pointer (some ⟨z.b, 0, none⟩)) g1
    have kp : Kept (fun k => k = b) w ((w.setCell ⟨b, 2, none⟩ (.pointer (some ⟨d, 2 * q, none⟩))).setCell ⟨b, 3, none⟩ (.pointer (some ⟨z.b, 0, none⟩))) := (Kept.setCell w b 2 _).trans (Kept.setCell _ b 3 _) (fun _ _ e => e)
    have g3 : ((w.setCell ⟨b, 2, none⟩ (.pointer (some ⟨d, 2 * q, none⟩))).setCell ⟨b, 3, none⟩ (.pointer (some ⟨z.b, 0, none⟩))).heap[b]? = some (.cells (tmG id (m : Int) (some ⟨d, 2 * q, none⟩) (some ⟨z.b, 0, none⟩) none) 68 (0, 0)) := g2
    generalize (w.setCell ⟨b, 2, none⟩ (.pointer (some ⟨d, 2 * q, none⟩))).setCell ⟨b, 3, none⟩ (.pointer (some ⟨z.b, 0, none⟩)) = V at *
    have hdV := kp.block d H.out.lt (fun e => hbd e.symm)
    have HV := H.out.of_blocks hdV (fun e he => kp.block e.b (heap_lt (H.out.blk he).choose_spec.choose_spec.choose_spec) (HBE.out e he))
    clear k1
    have k1 : V.cell? ⟨d, 2 * q + 1, none⟩ = some (.pointer (some ⟨z.b, 0, none⟩)) := by have := HV.c1 HQ.out; rw [HSZ.out.1] at this; exact this
    have hzV := (kp.block z.b (heap_lt HZT.out) hzb).trans HZT.out
    have k4 : V.cell? ⟨z.b, 4, none⟩ = some (.pointer none) := cells_at hzV rfl
    have f4 := heap_frozen hzV 4
    have HZV := Lib.hid hzV
    have HVH := Lib.hid HV
    have HG := Lib.hid g3
    have HK := Lib.hid kp
    clear g1 g2 g3 kp HV t2 t3 f2 f3 hdV hzV
    go_upto_region 4 with fail
    have kz := Kept.setCell V z.b 4 (.pointer (some ⟨b, 0, none⟩))
    have gz : (V.setCell ⟨z.b, 4, none⟩ (.pointer (some ⟨b, 0, none⟩))).heap[z.b]? = some (.cells (tmG z.id (z.a : Int) (some ⟨d, 2 * q, none⟩) (pE S2.getLast?) (some ⟨b, 0, none⟩)) 68 (0, 0)) := heap_setCell_same V z.b 4 _ _ (.pointer (some ⟨b, 0, none⟩)) HZV.out
    have hd2 := kz.block d HVH.out.lt (fun e => hzd e.symm)
    have hob2 := HVH.out.is
    obtain ⟨cs0, hcs0⟩ := hob2
    have kk1 : (V.setCell ⟨z.b, 4, none⟩ (.pointer (some ⟨b, 0, none⟩))).cell? ⟨d, 2 * q + 1, none⟩ = some (.pointer (some ⟨z.b, 0, none⟩)) := (World.cell?_of_block (a := ⟨d, 2 * q + 1, none⟩) hd2).trans k1
    have fd1 : (V.setCell ⟨z.b, 4, none⟩ (.pointer (some ⟨b, 0, none⟩))).frozen? ⟨d, 2 * q + 1, none⟩ = false := heap_frozen (hd2.trans hcs0) _
    have HKZ := Lib.hid kz
    have HGZ := Lib.hid gz
    have HD2 := Lib.hid hd2
    generalize V.setCell ⟨z.b, 4, none⟩ (.pointer (some ⟨b, 0, none⟩)) = V2 at *
    clear kz gz hd2 k1 k4 f4 hcs0
    go_wp2
    refine bodyPost_end (results_none rfl _ _ _) rfl ?_
    have hen := (HVH.out.ends (w' := V2) (E' := E ++ [⟨q, b, id, m⟩]) HQ.out HSL.out.1 HD2.out).1 (by rw [HSL.out.2, HZ.out]; simp [List.head?_append])
    rw [HSL.out.2] at hen
    have hgl : pE (sl E q ++ [(⟨q, b, id, m⟩ : Te)]).getLast? = some ⟨b, 0, none⟩ := by simp [pE]
    rw [hgl] at hen
    have kd : Kept (fun k => k = d) V2 (V2.setCell ⟨d, 2 * q + 1, none⟩ (.pointer (some ⟨b, 0, none⟩))) := Kept.setCell V2 d (2 * q + 1) _
    have kA : Kept (fun k => k = z.b ∨ k = d) V (V2.setCell ⟨d, 2 * q + 1, none⟩ (.pointer (some ⟨b, 0, none⟩))) := (HKZ.out.mono (fun _ _ e => .inl e)).trans kd (fun _ _ e => .inr e)
    refine ⟨rfl, HVH.out.stood HQ.out HBE.out hen ?_ ?_ ?_, (HK.out.mono (fun _ _ e => .inl e)).trans kA (fun _ _ e => by rcases e with e | e; exact .inr (.inr ⟨z, HZE.out, e⟩); exact .inr (.inl e))⟩
    · rw [HSZ.out.1]
      exact (kA.block b (heap_lt HG.out) (by rintro (e | e); exact hzb e.symm; exact hbd e)).trans HG.out
    · intro A z2 hz2
      rw [HZ.out] at hz2
      obtain ⟨e1, e2⟩ := List.append_inj' hz2 rfl
      injection e2 with e2
      subst e1
      subst e2
      exact (kd.block z.b (heap_lt HGZ.out) hzd).trans HGZ.out
    · intro e he hne
      exact kA.block e.b (heap_lt (HVH.out.blk he).choose_spec.choose_spec.choose_spec) (by rintro (e2 | e2); exact hne S2 z HZ.out e2; exact HVH.out.bne he e2)
end
end Go.Proofs.Ytjgcpaepaocigaa
