/-
  Layer 23: Through, the code's and the document's; the example. Conditions are each theorem's own.
-/
import Derived.Test.YtghbliabmecbcaaSnB
import Derived.Test.YtghbliabmecbcaaSnC
namespace Go.Proofs.Ytghbliabmecbcaa
open Go.RowKit
theorem thS_no {s : Int} {p : Bool} {x : Int} {l : List Int} (h : (nxF s p x).2 = false) : thS s p (x :: l) = (s, false) := by rw [thS, h]; rfl
theorem thS_yes {s : Int} {p : Bool} {x : Int} {l : List Int} (h : (nxF s p x).2 = true) : thS s p (x :: l) = thS (nxF s p x).1 (!p) l := by rw [thS, h]; rfl
theorem drop_at {zs : List Int} {k : Nat} {x : Int} (h : zs[k]? = some x) : zs.drop k = x :: zs.drop (k + 1) := by
  obtain ⟨hk, e⟩ := List.getElem?_eq_some_iff.1 h
  rw [List.drop_eq_getElem_cons hk, e]
theorem par_next (k : Nat) : (!decide (k % 2 = 0)) = decide ((k + 1) % 2 = 0) := by
  rcases Nat.mod_two_eq_zero_or_one k with h | h
  · rw [h, show (k + 1) % 2 = 1 by omega]; rfl
  · rw [h, show (k + 1) % 2 = 0 by omega]; rfl
set_option maxRecDepth 100000 in
set_option maxHeartbeats 4000000 in
theorem cthrough (s : Int) (A : Option Addr) (c n : Nat) (zs : List Int) (B : Nat) (w : World) (hR : RdI w B A zs) (hn : n = zs.length) (hn8 : n ≤ 1000000) :
    Calls Try.prog 33 #[.int .i64 s, .slice A n c] w fun e w' => e = .returned (two (thS s true zs)) ∧ w = w' := by
  have HN := Lib.hid hn
  have HRR := Lib.hid hR
  clear hn hR
  go_enter Try.func33, Try.ntmps33
  go_wp2
  go_loopw [0, 12] (fun v i wr => ∃ (q : Int) (k : Nat), v = .int .i64 q ∧ k ≤ n ∧ i = .int .i64 (k : Int) ∧ Hid (thS s true zs = thS q (decide (k % 2 = 0)) (zs.drop k)) ∧ wr = w)
    (fun _ i _ => n - (intOf i).toNat)
  case atStart => exact ⟨s, 0, rfl, Nat.zero_le _, rfl, Lib.hid rfl, rfl⟩
  case round =>
    obtain ⟨q, k, rfl, hk, rfl, HE, rfl⟩ := hrel
    by_cases hlt : k < n
    · obtain ⟨x, hx⟩ : ∃ x, zs[k]? = some x := ⟨_, List.getElem?_eq_getElem (by rw [← HN.out]; exact hlt)⟩
      obtain ⟨b9, o9, rfl, hb9, hall9⟩ := HRR.out (by rw [← HN.out]; omega)
      have kx : wr.cell? ⟨b9, o9 + k, none⟩ = some (.int .i64 x) := by
        have h9 := hall9 k (by rw [← HN.out]; exact hlt)
        rw [List.getD_eq_getElem?_getD, hx, Option.getD_some] at h9
        exact h9
      have HD := Lib.hid (drop_at hx)
      have HP := Lib.hid (par_next k)
      obtain ⟨p, hp⟩ : ∃ p, decide (k % 2 = 0) = p := ⟨_, rfl⟩
      rw [hp] at HE HP
      obtain ⟨r, hr⟩ : ∃ r, nxF q p x = r := ⟨_, rfl⟩
      have HRN := Lib.hid hr
      have p1 : (((k : Int) % 2) == 0) = p := by rw [← hp, Bool.eq_iff_iff]; simp; omega
      have p2 : decide ((k : Int) % 2 = 0) = p := by rw [← hp, Bool.eq_iff_iff]; simp; omega
      obtain ⟨r1, r2⟩ := r
      have HC : Hid (∀ W, Calls Try.prog 29 #[.int .i64 q, .bool p, .int .i64 x] W fun e w' => e = .returned (.tuple #[.int .i64 r1, .bool r2]) ∧ W = w') := Lib.hid fun W => by
        have := cnext q p x W
        rw [hr] at this
        exact this
      clear hx hp hr hall9
      cases r2 with
      | true =>
        have HE2 := Lib.hid (HE.out.trans ((congrArg (thS q p) HD.out).trans (thS_yes (by rw [HRN.out]))))
        rw [HRN.out] at HE2
        go_wp2_with (go_at_call 29; refine (HC.out _).mono ?_; rintro e w1 ⟨rfl, rfl⟩)
        go_roundw
        case rel => exact ⟨r1, k + 1, rfl, by omega, by simp, Lib.hid (HE2.out.trans (by rw [HP.out])), trivial⟩
        case measure => simp [intOf]; omega
      | false =>
        have HE2 := Lib.hid (HE.out.trans ((congrArg (thS q p) HD.out).trans (thS_no (by rw [HRN.out]))))
        go_wp2_with (go_at_call 29; refine (HC.out _).mono ?_; rintro e w1 ⟨rfl, rfl⟩)
        exact bodyPost_ret (results_tmp2 rfl _ _ _) rfl ⟨by rw [HE2.out]; rfl, rfl⟩
    · obtain rfl : n = k := by omega
      have HE2 := Lib.hid (HE.out.trans (by rw [List.drop_of_length_le (by rw [← HN.out]; exact Nat.le_refl _)]; rfl : _ = (q, true)))
      go_wp2_with fail
      exact bodyPost_ret (results_tmp2 rfl _ _ _) rfl ⟨by rw [HE2.out]; rfl, rfl⟩
set_option maxRecDepth 100000 in
set_option maxHeartbeats 4000000 in
theorem rthrough (s : Int) (A : Option Addr) (c n : Nat) (zs : List Int) (B : Nat) (w : World) (hR : RdI w B A zs) (hn : n = zs.length) (hn8 : n ≤ 1000000) :
    Calls Try.prog 34 #[.int .i64 s, .slice A n c] w fun e w' => e = .returned (two (thS s true zs)) ∧ w = w' := by
  have HN := Lib.hid hn
  have HRR := Lib.hid hR
  clear hn hR
  go_enter Try.func34, Try.ntmps34
  go_wp2
  go_loopw [0, 6] (fun v i wr => ∃ (q : Int) (k : Nat), v = .int .i64 q ∧ k ≤ n ∧ i = .int .i64 (k : Int) ∧ Hid (thS s true zs = thS q (decide (k % 2 = 0)) (zs.drop k)) ∧ wr = w)
    (fun _ i _ => n - (intOf i).toNat)
  case atStart => exact ⟨s, 0, rfl, Nat.zero_le _, rfl, Lib.hid rfl, rfl⟩
  case round =>
    obtain ⟨q, k, rfl, hk, rfl, HE, rfl⟩ := hrel
    by_cases hlt : k < n
    · obtain ⟨x, hx⟩ : ∃ x, zs[k]? = some x := ⟨_, List.getElem?_eq_getElem (by rw [← HN.out]; exact hlt)⟩
      obtain ⟨b9, o9, rfl, hb9, hall9⟩ := HRR.out (by rw [← HN.out]; omega)
      have kx : wr.cell? ⟨b9, o9 + k, none⟩ = some (.int .i64 x) := by
        have h9 := hall9 k (by rw [← HN.out]; exact hlt)
        rw [List.getD_eq_getElem?_getD, hx, Option.getD_some] at h9
        exact h9
      have HD := Lib.hid (drop_at hx)
      have HP := Lib.hid (par_next k)
      obtain ⟨p, hp⟩ : ∃ p, decide (k % 2 = 0) = p := ⟨_, rfl⟩
      rw [hp] at HE HP
      obtain ⟨r, hr⟩ : ∃ r, nxF q p x = r := ⟨_, rfl⟩
      have HRN := Lib.hid hr
      have p1 : (((k : Int) % 2) == 0) = p := by rw [← hp, Bool.eq_iff_iff]; simp; omega
      have p2 : decide ((k : Int) % 2 = 0) = p := by rw [← hp, Bool.eq_iff_iff]; simp; omega
      obtain ⟨r1, r2⟩ := r
      have HC : Hid (∀ W, Calls Try.prog 30 #[.int .i64 q, .bool p, .int .i64 x] W fun e w' => e = .returned (.tuple #[.int .i64 r1, .bool r2]) ∧ W = w') := Lib.hid fun W => by
        have := rnext q p x W
        rw [hr] at this
        exact this
      clear hx hp hr hall9
      cases r2 with
      | true =>
        have HE2 := Lib.hid (HE.out.trans ((congrArg (thS q p) HD.out).trans (thS_yes (by rw [HRN.out]))))
        rw [HRN.out] at HE2
        go_wp2_with (go_at_call 30; refine (HC.out _).mono ?_; rintro e w1 ⟨rfl, rfl⟩)
        go_roundw
        case rel => exact ⟨r1, k + 1, rfl, by omega, by simp, Lib.hid (HE2.out.trans (by rw [HP.out])), trivial⟩
        case measure => simp [intOf]; omega
      | false =>
        have HE2 := Lib.hid (HE.out.trans ((congrArg (thS q p) HD.out).trans (thS_no (by rw [HRN.out]))))
        go_wp2_with (go_at_call 30; refine (HC.out _).mono ?_; rintro e w1 ⟨rfl, rfl⟩)
        exact bodyPost_ret (results_tmp2 rfl _ _ _) rfl ⟨by rw [HE2.out]; rfl, rfl⟩
    · obtain rfl : n = k := by omega
      have HE2 := Lib.hid (HE.out.trans (by rw [List.drop_of_length_le (by rw [← HN.out]; exact Nat.le_refl _)]; rfl : _ = (q, true)))
      go_wp2_with fail
      exact bodyPost_ret (results_tmp2 rfl _ _ _) rfl ⟨by rw [HE2.out]; rfl, rfl⟩
theorem awake23 (w : World) : Calls Try.prog 32 #[] w fun e w' => e = .returned (.bool true) ∧ Below w.heap.size w w' := by
  have HT : Hid (∀ (W : World) (g : Nat), RdI W (g + 1) (some ⟨g, 0, none⟩) [2, 18] → Calls Try.prog 33 #[.int .i64 0, .slice (some ⟨g, 0, none⟩) 2 2] W fun e w' => e = .returned (.tuple #[.int .i64 3, .bool true]) ∧ W = w') := Lib.hid fun W g hr => by
    have h := cthrough 0 (some ⟨g, 0, none⟩) 2 2 [2, 18] (g + 1) W hr rfl (by omega)
    rw [show thS 0 true [2, 18] = (3, true) by decide +kernel] at h
    exact h
  have HR : Hid (RdI (w.alloc (.cells #[.int .i64 2, .int .i64 18] 3)) (w.heap.size + 1) (some ⟨w.heap.size, 0, none⟩) [2, 18]) := Lib.hid fun _ => ⟨_, _, rfl, by omega, fun j hj => by
    match j, hj with
    | 0, _ => exact World.cell?_alloc_new w _ _ 0
    | 1, _ => exact World.cell?_alloc_new w _ _ 1⟩
  go_enter Try.func32, Try.ntmps32
  go_wp2_with (first
    | (go_at_call 33; refine (HT.out _ _ HR.out).mono ?_; rintro e w1 ⟨rfl, rfl⟩)
    | (go_at_call 31; refine (copen _ _).mono ?_; rintro e w1 ⟨rfl, rfl⟩))
  go_ret
  exact ⟨rfl, (Below.refl _ w).alloc (Nat.le_refl _) _⟩
theorem ofInt_wrap (v : BitVec 64) : BitVec.ofInt 64 (IntKind.i64.wrap (v.toNat : Int)) = v := by
  apply BitVec.eq_of_toNat_eq
  have h := v.isLt
  rw [BitVec.toNat_ofInt, IntKind.wrap_i64]
  omega
theorem and_abs (a b : BitVec 64) : (a ||| b) &&& b = b := by
  ext i hi
  rw [BitVec.getElem_and, BitVec.getElem_or]
  cases a[i] <;> cases b[i] <;> rfl
theorem bt_or (f : Int) : bt (bits .or .i64 f 4) 4 = true := by
  have h : bits .and .i64 (bits .or .i64 f 4) 4 = 4 := by
    have h1 : bits .or .i64 f 4 = IntKind.i64.wrap (((BitVec.ofInt 64 f) ||| (BitVec.ofInt 64 4)).toNat : Int) := rfl
    have h2 : ∀ x, bits .and .i64 x 4 = IntKind.i64.wrap (((BitVec.ofInt 64 x) &&& (BitVec.ofInt 64 4)).toNat : Int) := fun _ => rfl
    rw [h2, h1, ofInt_wrap, and_abs]; rfl
  rw [bt, h]; rfl
theorem nx_rst {k : Int} (o : Bool) (f : Int) (h1 : 1 ≤ k) (h6 : k ≤ 6) : nxF k o (bits .or .i64 f 4) = (6, true) := by
  rw [nxF, nxS, bt_or]
  rw [show decide (k < 0) = false by simp; omega, show decide (6 < k) = false by simp; omega, show (k == 0) = false by simp; omega]
  rfl
theorem nx_none (o : Bool) (f : Int) : (nxF 0 o f).2 = (bt f 2 && !bt f 4) ∧ ((nxF 0 o f).1 != 0) = (bt f 2 && !bt f 4) := by
  rw [nxF]
  cases bt f 1 <;> cases bt f 2 <;> cases bt f 4 <;> cases o <;> exact ⟨rfl, rfl⟩
/-- What StateBegins asks of the third call. -/
theorem nx_open {k : Int} (o : Bool) (f : Int) (h1 : 1 ≤ k) (h6 : k ≤ 6) : (nxF k o f).2 = true ∧ ((nxF k o f).1 != 3 || (k == 3 || (bt f 2 && !bt f 4) && ((k == 1 && !o) || (k == 2 && o)))) = true := by
  rw [nxF]
  have : k = 1 ∨ k = 2 ∨ k = 3 ∨ k = 4 ∨ k = 5 ∨ k = 6 := by omega
  rcases this with rfl | rfl | rfl | rfl | rfl | rfl <;> cases bt f 1 <;> cases bt f 2 <;> cases bt f 4 <;> cases o <;> exact ⟨rfl, rfl⟩
end Go.Proofs.Ytghbliabmecbcaa
