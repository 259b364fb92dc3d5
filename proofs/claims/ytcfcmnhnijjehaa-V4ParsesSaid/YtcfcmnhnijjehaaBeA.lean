/-
  Contracts of be's small functions (isSize, holds, Fits, number, cut), as read off the program's text: what each answers, and that no memory turns. Conditions are each theorem's own.
-/
import Derived.Test.YtcfcmnhnijjehaaBase
import Derived.Test.YtcfcmnhnijjehaaMem
namespace Go.Proofs.Ytcfcmnhnijjehaa
open Go.RowKit

/-- A size is 1 to 4. -/
def sizeB (size : Int) : Bool := decide (1 ≤ size ∧ size ≤ 4)
theorem sizeB_yes {s : Int} (h1 : 1 ≤ s) (h2 : s ≤ 4) : sizeB s = true := by simp [sizeB, h1, h2]
theorem sizeB_no {s : Int} (h : s < 1 ∨ 4 < s) : sizeB s = false := by simp [sizeB]; omega

theorem isSize_yes (s : Int) (w : World) (h1 : 1 ≤ s) (h2 : s ≤ 4) :
    Calls Try.prog 76 #[.int .i64 s] w fun e w' => e = .returned (.bool true) ∧ w = w' := by
  go_enter Try.func76, Try.ntmps76
  go_wp2
  go_ret
  exact ⟨rfl, rfl⟩

theorem isSize_no (s : Int) (w : World) (h : s < 1 ∨ 4 < s) :
    Calls Try.prog 76 #[.int .i64 s] w fun e w' => e = .returned (.bool false) ∧ w = w' := by
  rcases h with h | h
  · go_enter Try.func76, Try.ntmps76
    go_wp2
    go_ret
    exact ⟨rfl, rfl⟩
  · have hd : decide (s ≤ 4) = false := by simp; omega
    go_enter Try.func76, Try.ntmps76
    go_wp2
    go_ret
    exact ⟨rfl, rfl⟩

/-- holds: is there room for size bytes from at on? -/
theorem holds_any (A : Option Addr) (n c : Nat) (at_ s : Int) (w : World) (hn : n ≤ 1099511627776) (h0 : 1 ≤ s) (h4 : s ≤ 4) :
    Calls Try.prog 89 #[.slice A n c, .int .i64 at_, .int .i64 s] w fun e w' => e = .returned (.bool (decide (at_ ≤ (n : Int) - s))) ∧ w = w' := by
  go_enter Try.func89, Try.ntmps89
  go_wp2
  go_ret
  exact ⟨rfl, rfl⟩

/-- The number that bytes are, the highest first. -/
def num : List UInt8 → Int := List.foldl (fun n x => n * 256 + (x.toNat : Int)) 0
theorem num_snoc (bs : List UInt8) (x : UInt8) : num (bs ++ [x]) = num bs * 256 + (x.toNat : Int) := by simp [num]
theorem num_take (bs : List UInt8) {k : Nat} (hk : k < bs.length) : num (bs.take (k + 1)) = num (bs.take k) * 256 + byt bs k := by
  rw [List.take_succ_eq_append_getElem hk, num_snoc]; simp [byt, hk]
theorem num_bd (bs : List UInt8) : 0 ≤ num bs ∧ num bs < 256 ^ bs.length := by
  suffices h : ∀ (bs : List UInt8) (n : Int) (k : Nat), 0 ≤ n → n < 256 ^ k → 0 ≤ List.foldl (fun n x => n * 256 + ((x : UInt8).toNat : Int)) n bs ∧ List.foldl (fun n x => n * 256 + ((x : UInt8).toNat : Int)) n bs < 256 ^ (k + bs.length) by
    simpa [num] using h bs 0 0 (by omega) (by simp)
  intro bs
  induction bs with
  | nil => intro n k h0 h1; simpa using ⟨h0, h1⟩
  | cons x l ih =>
    intro n k h0 h1
    have hx := x.toNat_lt
    have hp : (256 : Int) ^ (k + 1) = 256 ^ k * 256 := by rw [Int.pow_succ]
    have := ih (n * 256 + (x.toNat : Int)) (k + 1) (by omega) (by omega)
    simp only [List.foldl_cons, List.length_cons]
    rw [show k + (l.length + 1) = k + 1 + l.length from by omega]
    exact this
theorem num_small (bs : List UInt8) {k : Nat} (hk : k ≤ 3) : 0 ≤ num (bs.take k) ∧ num (bs.take k) < 16777216 := by
  have h := num_bd (bs.take k)
  refine ⟨h.1, Int.lt_of_lt_of_le h.2 ?_⟩
  have hl : (bs.take k).length ≤ 3 := by rw [List.length_take]; omega
  have h3 : (bs.take k).length = 0 ∨ (bs.take k).length = 1 ∨ (bs.take k).length = 2 ∨ (bs.take k).length = 3 := by omega
  rcases h3 with e | e | e | e <;> rw [e] <;> decide

set_option maxHeartbeats 400000 in
theorem number_any (A : Option Addr) (bs : List UInt8) (c B : Nat) (w : World) (h : Rd w B A bs) (hl : bs.length ≤ 4) :
    Calls Try.prog 93 #[.slice A bs.length c] w fun e w' => e = .returned (.int .i64 (num bs)) ∧ w = w' := by
  go_enter Try.func93, Try.ntmps93
  go_wp2
  go_loop [3, 8] (fun n i => ∃ k : Nat, k ≤ bs.length ∧ i = .int .i64 k ∧ n = .int .i64 (num (bs.take k))) (fun _ i => bs.length - (intOf i).toNat)
  case atStart => exact ⟨0, Nat.zero_le _, rfl, rfl⟩
  case round =>
    obtain ⟨k, hk, rfl, rfl⟩ := hrel
    by_cases hlt : k < bs.length
    · obtain ⟨b, off, rfl, hb, hc⟩ := h (by omega)
      have hck := hc k hlt
      have h1 := num_small bs (k := k) (by omega)
      have h2 := byt_lo bs k
      have h3 := byt_hi bs k
      have H := Lib.hid (num_take bs hlt)
      clear hc
      generalize num (bs.take k) = q at *
      go_wp2
      go_roundw
      case rel => exact ⟨k + 1, by omega, by simp, by rw [H.out, or_byte q _ h1.1 h1.2 h2 h3]⟩
      case measure => simp [intOf]; omega
    · obtain rfl : k = bs.length := by omega
      go_wp2
      go_ret
      exact ⟨by simp, rfl⟩

/-- cut: size bytes from at on, and no room behind. -/
theorem cut_any (b off n c : Nat) (at_ s : Nat) (w : World) (h1 : 1 ≤ s) (h : at_ + s ≤ n) (hc : n ≤ c) (hb : n ≤ 1099511627776) :
    Calls Try.prog 88 #[.slice (some ⟨b, off, none⟩) n c, .int .i64 (at_ : Int), .int .i64 (s : Int)] w
      fun e w' => e = .returned (.slice (some ⟨b, off + at_, none⟩) s s) ∧ w = w' := by
  go_enter Try.func88, Try.ntmps88
  have e : at_ + s - at_ = s := by omega
  go_wp2
  go_ret
  rw [e]
  exact ⟨rfl, rfl⟩

/-- 256 to the power of k. A plain definition. -/
def pw (k : Nat) : Int := 256 ^ k
theorem pw_succ (k : Nat) : pw (k + 1) = pw k * 256 := by simp [pw, Int.pow_succ]
theorem pw_pos (k : Nat) : 1 ≤ pw k := by induction k with | zero => simp [pw] | succ k ih => rw [pw_succ]; omega
theorem pw_le {k : Nat} (h : k ≤ 4) : pw k ≤ 4294967296 := by
  have : k = 0 ∨ k = 1 ∨ k = 2 ∨ k = 3 ∨ k = 4 := by omega
  rcases this with rfl | rfl | rfl | rfl | rfl <;> decide

theorem pow_any (s : Nat) (w : World) (h4 : s ≤ 4) :
    Calls Try.prog 77 #[.int .i64 (s : Int)] w fun e w' => e = .returned (.int .i64 (pw s)) ∧ w = w' := by
  go_enter Try.func77, Try.ntmps77
  go_wp2
  go_loop [3, 4] (fun n i => ∃ k : Nat, k ≤ s ∧ i = .int .i64 k ∧ n = .int .i64 (pw k)) (fun _ i => s - (intOf i).toNat)
  case atStart => exact ⟨0, Nat.zero_le _, rfl, rfl⟩
  case round =>
    obtain ⟨k, hk, rfl, rfl⟩ := hrel
    have h1 := pw_pos k
    have h2 := pw_le (k := k) (by omega)
    by_cases hlt : k < s
    · have H := Lib.hid (pw_succ k)
      generalize pw k = q at *
      go_wp2
      go_roundw
      case rel => exact ⟨k + 1, by omega, by simp, by rw [H.out]⟩
      case measure => simp [intOf]; omega
    · obtain rfl : k = s := by omega
      go_wp2
      go_ret
      exact ⟨rfl, rfl⟩

/-- Fits: n is a number of so many bytes. -/
def fitsB (n s : Int) : Bool := decide (1 ≤ s ∧ s ≤ 4 ∧ 0 ≤ n ∧ n < pw s.toNat)

theorem fits_any (n s : Int) (w : World) :
    Calls Try.prog 53 #[.int .i64 n, .int .i64 s] w fun e w' => e = .returned (.bool (fitsB n s)) ∧ w = w' := by
  by_cases hs : 1 ≤ s ∧ s ≤ 4
  · obtain ⟨hs1, hs4⟩ := hs
    by_cases h0 : 0 ≤ n
    · have h : s = 1 ∨ s = 2 ∨ s = 3 ∨ s = 4 := by omega
      rcases h with rfl | rfl | rfl | rfl
      all_goals
        go_enter Try.func53, Try.ntmps53
        go_wp2_with (go_at_call 76; refine (isSize_yes _ _ (by omega) (by omega)).mono ?_; rintro e w' ⟨rfl, rfl⟩)
        go_ret
        exact ⟨ret_bool (by rw [Bool.eq_iff_iff]; simp [fitsB, pw]; omega), rfl⟩
    · have hf : fitsB n s = false := by simp [fitsB]; omega
      rw [hf]
      have hd : decide (0 ≤ n) = false := by simp; omega
      go_enter Try.func53, Try.ntmps53
      go_wp2_with (go_at_call 76; refine (isSize_yes _ _ (by omega) (by omega)).mono ?_; rintro e w' ⟨rfl, rfl⟩)
      go_ret
      exact ⟨rfl, rfl⟩
  · have hf : fitsB n s = false := by simp [fitsB]; omega
    rw [hf]
    go_enter Try.func53, Try.ntmps53
    go_wp2_with (go_at_call 76; refine (isSize_no _ _ (by omega)).mono ?_; rintro e w' ⟨rfl, rfl⟩)
    go_ret
    exact ⟨rfl, rfl⟩

theorem fitsB_iff {n s : Int} : fitsB n s = true ↔ 1 ≤ s ∧ s ≤ 4 ∧ 0 ≤ n ∧ n < pw s.toNat := by simp [fitsB]

theorem rfits_any (n s : Int) (w : World) :
    Calls Try.prog 55 #[.int .i64 n, .int .i64 s] w fun e w' => e = .returned (.bool (fitsB n s)) ∧ w = w' := by
  by_cases hs : 1 ≤ s
  · by_cases h4 : s ≤ 4
    · by_cases h0 : 0 ≤ n
      · obtain ⟨k, rfl⟩ := Int.eq_ofNat_of_zero_le (show 0 ≤ s by omega)
        go_enter Try.func55, Try.ntmps55
        go_wp2_with (go_at_call 77; refine (pow_any _ _ (by omega)).mono ?_; rintro e w' ⟨rfl, rfl⟩)
        go_ret
        exact ⟨ret_bool (by rw [Bool.eq_iff_iff]; simp [fitsB]; omega), rfl⟩
      · have hf : fitsB n s = false := by simp [fitsB]; omega
        rw [hf]
        have hd : decide (0 ≤ n) = false := by simp; omega
        go_enter Try.func55, Try.ntmps55
        go_wp2_with (go_at_call 77; refine (pow_any _ _ (by omega)).mono ?_; rintro e w' ⟨rfl, rfl⟩)
        go_ret
        exact ⟨rfl, rfl⟩
    · have hf : fitsB n s = false := by simp [fitsB]; omega
      rw [hf]
      have hd : decide (s ≤ 4) = false := by simp; omega
      go_enter Try.func55, Try.ntmps55
      go_wp2_with (go_at_call 77; refine (pow_any _ _ (by omega)).mono ?_; rintro e w' ⟨rfl, rfl⟩)
      go_ret
      exact ⟨rfl, rfl⟩
  · have hf : fitsB n s = false := by simp [fitsB]; omega
    rw [hf]
    have hd : decide (1 ≤ s) = false := by simp; omega
    go_enter Try.func55, Try.ntmps55
    go_wp2_with (go_at_call 77; refine (pow_any _ _ (by omega)).mono ?_; rintro e w' ⟨rfl, rfl⟩)
    go_ret
    exact ⟨rfl, rfl⟩

/-! ### Get -/

/-- The number of size bytes from at on, and the error's number. -/
def getV (bs : List UInt8) (at_ s : Int) : Int := if 1 ≤ s ∧ s ≤ 4 ∧ 0 ≤ at_ ∧ at_ ≤ (bs.length : Int) - s then num ((bs.drop at_.toNat).take s.toNat) else 0
def getE (n : Nat) (at_ s : Int) : Int := if 1 ≤ s ∧ s ≤ 4 ∧ 0 ≤ at_ then (if at_ ≤ (n : Int) - s then 0 else 3) else 1
theorem getV_no {bs : List UInt8} {at_ s : Int} (h : ¬ (1 ≤ s ∧ s ≤ 4 ∧ 0 ≤ at_ ∧ at_ ≤ (bs.length : Int) - s)) : getV bs at_ s = 0 := by rw [getV, if_neg h]
theorem getE_arg {n : Nat} {at_ s : Int} (h : ¬ (1 ≤ s ∧ s ≤ 4 ∧ 0 ≤ at_)) : getE n at_ s = 1 := by rw [getE, if_neg h]
theorem getE_short {n : Nat} {at_ s : Int} (h : 1 ≤ s ∧ s ≤ 4 ∧ 0 ≤ at_) (h2 : ¬ at_ ≤ (n : Int) - s) : getE n at_ s = 3 := by rw [getE, if_pos h, if_neg h2]
theorem getE_ok {n : Nat} {at_ s : Int} (h : 1 ≤ s ∧ s ≤ 4 ∧ 0 ≤ at_) (h2 : at_ ≤ (n : Int) - s) : getE n at_ s = 0 := by rw [getE, if_pos h, if_pos h2]
theorem getV_ok {bs : List UInt8} {a s : Nat} (h1 : 1 ≤ s) (h4 : s ≤ 4) (h : a + s ≤ bs.length) : getV bs a s = num ((bs.drop a).take s) := by
  rw [getV, if_pos (by omega)]; simp

theorem byt_cut (bs : List UInt8) (a s : Nat) {j : Nat} (hj : j < s) : byt ((bs.drop a).take s) j = byt bs (a + j) := by
  unfold byt; rw [List.getElem?_take, if_pos hj, List.getElem?_drop]
theorem len_cut {bs : List UInt8} {a s : Nat} (h : a + s ≤ bs.length) : ((bs.drop a).take s).length = s := by simp; omega

theorem Rd.cut {w : World} {B b off : Nat} {bs : List UInt8} (a s : Nat) (hs : a + s ≤ bs.length) (hb : b < B)
    (hc : ∀ j, j < bs.length → w.cell? ⟨b, off + j, none⟩ = some (.int .u8 (byt bs j))) : Rd w B (some ⟨b, off + a, none⟩) ((bs.drop a).take s) := fun _ =>
  ⟨b, off + a, rfl, hb, fun j hj => by
    rw [len_cut hs] at hj
    rw [byt_cut bs a s hj, Nat.add_assoc]
    exact hc _ (by omega)⟩

theorem number_cut (b off a s c B : Nat) (bs : List UInt8) (w : World) (hs : a + s ≤ bs.length) (h4 : s ≤ 4) (hb : b < B)
    (hc : ∀ j, j < bs.length → w.cell? ⟨b, off + j, none⟩ = some (.int .u8 (byt bs j))) :
    Calls Try.prog 93 #[.slice (some ⟨b, off + a, none⟩) s c] w fun e w' => e = .returned (.int .i64 (num ((bs.drop a).take s))) ∧ w = w' := by
  have h := number_any (some ⟨b, off + a, none⟩) ((bs.drop a).take s) c B w (Rd.cut a s hs hb hc) (by rw [len_cut hs]; exact h4)
  rw [len_cut hs] at h
  exact h

theorem get_any (A : Option Addr) (bs : List UInt8) (c B : Nat) (at_ s : Int) (w : World) (h : Rd w B A bs) (hl : bs.length ≤ 1099511627776) (hc : bs.length ≤ c) :
    Calls Try.prog 84 #[.slice A bs.length c, .int .i64 at_, .int .i64 s] w
      fun e w' => e = .returned (.tuple #[.int .i64 (getV bs at_ s), .int .i64 (getE bs.length at_ s)]) ∧ w = w' := by
  by_cases hs : 1 ≤ s ∧ s ≤ 4
  · obtain ⟨hs1, hs4⟩ := hs
    by_cases h0 : 0 ≤ at_
    · by_cases hr : at_ ≤ (bs.length : Int) - s
      · obtain ⟨k, rfl⟩ := Int.eq_ofNat_of_zero_le (show 0 ≤ s by omega)
        obtain ⟨a, rfl⟩ := Int.eq_ofNat_of_zero_le h0
        rw [getV_ok (by omega) (by omega) (by omega), getE_ok (by omega) (by omega)]
        obtain ⟨b, off, rfl, hb, hcell⟩ := h (by omega)
        have Hc := Lib.hid hcell
        clear hcell h
        have hd : decide ((a : Int) ≤ (bs.length : Int) - (k : Int)) = true := by simpa using hr
        go_enter Try.func84, Try.ntmps84
        go_wp2_with (first
          | (go_at_call 76; refine (isSize_yes _ _ (by omega) (by omega)).mono ?_; rintro e w' ⟨rfl, rfl⟩)
          | (go_at_call 89; refine (holds_any _ _ _ _ _ _ (by omega) (by omega) (by omega)).mono ?_; rintro e w' ⟨rfl, rfl⟩)
          | (go_at_call 88; refine (cut_any _ _ _ _ _ _ _ (by omega) (by omega) (by omega) (by omega)).mono ?_; rintro e w' ⟨rfl, rfl⟩)
          | (go_at_call 93; refine (number_cut b off a k _ B bs _ (by omega) (by omega) hb Hc.out).mono ?_; rintro e w' ⟨rfl, rfl⟩))
        go_ret2
        exact ⟨rfl, rfl⟩
      · rw [getV_no (by omega), getE_short (by omega) (by omega)]
        have hd : decide (at_ ≤ (bs.length : Int) - s) = false := by simpa using hr
        go_enter Try.func84, Try.ntmps84
        go_wp2_with (first
          | (go_at_call 76; refine (isSize_yes _ _ (by omega) (by omega)).mono ?_; rintro e w' ⟨rfl, rfl⟩)
          | (go_at_call 89; refine (holds_any _ _ _ _ _ _ (by omega) (by omega) (by omega)).mono ?_; rintro e w' ⟨rfl, rfl⟩))
        go_ret2
        exact ⟨rfl, rfl⟩
    · rw [getV_no (by omega), getE_arg (by omega)]
      have hd : decide (at_ < 0) = true := by simp; omega
      go_enter Try.func84, Try.ntmps84
      go_wp2_with (go_at_call 76; refine (isSize_yes _ _ (by omega) (by omega)).mono ?_; rintro e w' ⟨rfl, rfl⟩)
      go_ret2
      exact ⟨rfl, rfl⟩
  · rw [getV_no (by omega), getE_arg (by omega)]
    go_enter Try.func84, Try.ntmps84
    go_wp2_with (go_at_call 76; refine (isSize_no _ _ (by omega)).mono ?_; rintro e w' ⟨rfl, rfl⟩)
    go_ret2
    exact ⟨rfl, rfl⟩

theorem rget_any (A : Option Addr) (bs : List UInt8) (c B : Nat) (at_ s : Int) (w : World) (h : Rd w B A bs) (hl : bs.length ≤ 1099511627776) :
    Calls Try.prog 70 #[.slice A bs.length c, .int .i64 at_, .int .i64 s] w
      fun e w' => e = .returned (.tuple #[.int .i64 (getV bs at_ s), .int .i64 (getE bs.length at_ s)]) ∧ w = w' := by
  by_cases hs : 1 ≤ s
  · by_cases hs4 : s ≤ 4
    · by_cases h0 : 0 ≤ at_
      · by_cases hr : at_ ≤ (bs.length : Int) - s
        · obtain ⟨k, rfl⟩ := Int.eq_ofNat_of_zero_le (show 0 ≤ s by omega)
          obtain ⟨a, rfl⟩ := Int.eq_ofNat_of_zero_le h0
          rw [getV_ok (by omega) (by omega) (by omega), getE_ok (by omega) (by omega)]
          obtain ⟨b, off, rfl, hb, hcell⟩ := h (by omega)
          have hL := len_cut (bs := bs) (a := a) (s := k) (by omega)
          have hX : ∀ j, j < k → w.cell? ⟨b, off + (a + j), none⟩ = some (.int .u8 (byt ((bs.drop a).take k) j)) := fun j hj => by
            rw [byt_cut bs a k hj]; exact hcell _ (by omega)
          generalize (bs.drop a).take k = cs at *
          have Hc := Lib.hid hX
          have HL := Lib.hid hL
          clear hcell h hX hL
          go_enter Try.func70, Try.ntmps70
          go_wp2
          go_loop [8, 9] (fun n i => ∃ j : Nat, j ≤ k ∧ i = .int .i64 j ∧ n = .int .i64 (num (cs.take j))) (fun _ i => k - (intOf i).toNat)
          case atStart => exact ⟨0, Nat.zero_le _, rfl, rfl⟩
          case round =>
            obtain ⟨j, hj, rfl, rfl⟩ := hrel
            by_cases hlt : j < k
            · have hck := Hc.out j hlt
              have h1 := num_small cs (k := j) (by omega)
              have h2 := byt_lo cs j
              have h3 := byt_hi cs j
              have H := Lib.hid (num_take cs (k := j) (by rw [HL.out]; exact hlt))
              generalize num (cs.take j) = q at *
              go_wp2
              go_roundw
              case rel => exact ⟨j + 1, by omega, by simp, by rw [H.out]⟩
              case measure => simp [intOf]; omega
            · obtain rfl : j = k := by omega
              go_wp2
              go_ret2
              exact ⟨by rw [List.take_of_length_le (by rw [HL.out]; omega)]; rfl, rfl⟩
        · rw [getV_no (by omega), getE_short (by omega) (by omega)]
          go_enter Try.func70, Try.ntmps70
          go_wp2
          go_ret2
          exact ⟨rfl, rfl⟩
      · rw [getV_no (by omega), getE_arg (by omega)]
        have hd : decide (at_ < 0) = true := by simp; omega
        go_enter Try.func70, Try.ntmps70
        go_wp2
        go_ret2
        exact ⟨rfl, rfl⟩
    · rw [getV_no (by omega), getE_arg (by omega)]
      have hd : decide (4 < s) = true := by simp; omega
      go_enter Try.func70, Try.ntmps70
      go_wp2
      go_ret2
      exact ⟨rfl, rfl⟩
  · rw [getV_no (by omega), getE_arg (by omega)]
    have hd : decide (s < 1) = true := by simp; omega
    go_enter Try.func70, Try.ntmps70
    go_wp2
    go_ret2
    exact ⟨rfl, rfl⟩
end Go.Proofs.Ytcfcmnhnijjehaa
