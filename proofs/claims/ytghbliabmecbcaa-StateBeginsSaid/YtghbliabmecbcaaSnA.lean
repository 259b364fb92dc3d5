/-
  Layer 23: what a state is behind a segment; contracts of the code's and the document's functions. Conditions are each theorem's own.
-/
import Derived.Test.YtghbliabmecbcaaOpen
import Derived.Test.YtghbliabmecbcaaMem
import Derived.Lib.Hide
import Derived.Test.YtghbliabmecbcaaChecked
import Derived.Test.YtghbliabmecbcaaBase
namespace Go.Proofs.Ytghbliabmecbcaa
open Go.RowKit
/-- Is the bit (or one of the bits) g of f set? A plain definition: the walk leaves it standing. -/
def bt (f g : Int) : Bool := bits .and .i64 f g != 0
def bhS (s : Int) (out fin syn rst : Bool) : Int :=
  if rst then 6
  else if syn && (s == 0 || s == 6) then (if out then 1 else 2)
  else if syn && (s == (if out then 2 else 1)) then 3
  else if fin && s == 3 then (if out then 4 else 5)
  else if fin && s == (if out then 5 else 4) then 6
  else s
def nxS (s : Int) (out fin syn rst : Bool) : Int × Bool :=
  if decide (s < 0) || decide (6 < s) then (0, false)
  else if s == 0 && !(syn && !rst) then (0, false)
  else (bhS s out fin syn rst, true)
def nxF (s : Int) (out : Bool) (f : Int) : Int × Bool := nxS s out (bt f 1) (bt f 2) (bt f 4)
def thS : Int → Bool → List Int → Int × Bool
  | s, _, [] => (s, true)
  | s, p, f :: l => if (nxF s p f).2 then thS (nxF s p f).1 (!p) l else (s, false)
def two (x : Int × Bool) : Value := .tuple #[.int .i64 x.1, .bool x.2]
theorem ret_pair {a b : Int} {c d : Bool} (h : a = b) (h' : c = d) : Ending.returned (.tuple #[.int .i64 a, .bool c]) = .returned (.tuple #[.int .i64 b, .bool d]) := by rw [h, h']

theorem chas (f g : Int) (w : World) : Calls Try.prog 89 #[.int .i64 f, .int .i64 g] w fun e w' => e = .returned (.bool (bt f g)) ∧ w = w' := by
  obtain ⟨S, hS⟩ : ∃ S, bits .and .i64 f g = S := ⟨_, rfl⟩
  have H := Lib.hid (show bt f g = (S != 0) by rw [bt, hS])
  cases h : (S != 0)
  all_goals
    rw [h] at H
    go_enter Try.func89, Try.ntmps89
    go_wp2_with fail
    go_ret
    exact ⟨ret_bool (by rw [H.out]), rfl⟩
theorem cbegins (f : Int) (w : World) : Calls Try.prog 63 #[.int .i64 f] w fun e w' => e = .returned (.bool (bt f 2 && !bt f 4)) ∧ w = w' := by
  cases h2 : bt f 2 <;> cases h4 : bt f 4
  all_goals
    have H2 := Lib.hid h2; have H4 := Lib.hid h4
    clear h2 h4
    go_enter Try.func63, Try.ntmps63
    go_wp2_with (go_at_call 89; refine (chas _ _ _).mono ?_; rintro e w1 ⟨rfl, rfl⟩; first | rw [H2.out] | rw [H4.out])
    go_ret
    exact ⟨rfl, rfl⟩
theorem ceither (o : Bool) (x y : Int) (w : World) : Calls Try.prog 90 #[.bool o, .int .i64 x, .int .i64 y] w fun e w' => e = .returned (.int .i64 (if o then x else y)) ∧ w = w' := by
  cases o
  all_goals
    go_enter Try.func90, Try.ntmps90
    go_wp2_with fail
    go_ret
    exact ⟨rfl, rfl⟩
theorem rside (o : Bool) (x y : Int) (w : World) : Calls Try.prog 66 #[.bool o, .int .i64 x, .int .i64 y] w fun e w' => e = .returned (.int .i64 (if o then x else y)) ∧ w = w' := by
  cases o
  all_goals
    go_enter Try.func66, Try.ntmps66
    go_wp2_with fail
    go_ret
    exact ⟨rfl, rfl⟩
theorem rbegins (f : Int) (w : World) : Calls Try.prog 65 #[.int .i64 f] w fun e w' => e = .returned (.bool (bt f 2 && !bt f 4)) ∧ w = w' := by
  obtain ⟨S, hS⟩ : ∃ S, bits .and .i64 f 2 = S := ⟨_, rfl⟩
  obtain ⟨R, hR⟩ : ∃ R, bits .and .i64 f 4 = R := ⟨_, rfl⟩
  have H2 := Lib.hid (show bt f 2 = (S != 0) by rw [bt, hS])
  have H4 := Lib.hid (show bt f 4 = (R != 0) by rw [bt, hR])
  cases h : (S != 0) <;> cases g : (R == 0)
  all_goals
    have g' : (R != 0) = !(R == 0) := rfl
    rw [g] at g'
    rw [h] at H2
    rw [g'] at H4
    go_enter Try.func65, Try.ntmps65
    go_wp2_with fail
    go_ret
    exact ⟨ret_bool (by rw [H2.out, H4.out]; rfl), rfl⟩
theorem copen (s : Int) (w : World) : Calls Try.prog 31 #[.int .i64 s] w fun e w' => e = .returned (.bool (s == 3)) ∧ w = w' := by
  cases h : (s == 3)
  all_goals
    go_enter Try.func31, Try.ntmps31
    go_wp2_with fail
    go_ret
    exact ⟨rfl, rfl⟩
theorem seven {s : Int} (h0 : 0 ≤ s) (h6 : s ≤ 6) : s = 0 ∨ s = 1 ∨ s = 2 ∨ s = 3 ∨ s = 4 ∨ s = 5 ∨ s = 6 := by omega
set_option maxRecDepth 100000 in
set_option maxHeartbeats 4000000 in
theorem cbehind (s : Int) (o : Bool) (f : Int) (w : World) (h0 : 0 ≤ s) (h6 : s ≤ 6) : Calls Try.prog 64 #[.int .i64 s, .bool o, .int .i64 f] w fun e w' => e = .returned (.int .i64 (bhS s o (bt f 1) (bt f 2) (bt f 4))) ∧ w = w' := by
  obtain ⟨x1, h1⟩ : ∃ x, bt f 1 = x := ⟨_, rfl⟩
  obtain ⟨x2, h2⟩ : ∃ x, bt f 2 = x := ⟨_, rfl⟩
  obtain ⟨x4, h4⟩ : ∃ x, bt f 4 = x := ⟨_, rfl⟩
  have H1 := Lib.hid h1; have H2 := Lib.hid h2; have H4 := Lib.hid h4
  rw [h1, h2, h4]
  clear h1 h2 h4
  rcases seven h0 h6 with rfl | rfl | rfl | rfl | rfl | rfl | rfl <;> clear h0 h6 <;> cases o <;> cases x1 <;> cases x2 <;> cases x4
  all_goals
    go_enter Try.func64, Try.ntmps64
    go_wp2_with (first
      | (go_at_call 89; refine (chas _ _ _).mono ?_; rintro e w1 ⟨rfl, rfl⟩; first | rw [H1.out] | rw [H4.out])
      | (go_at_call 63; refine (cbegins _ _).mono ?_; rintro e w1 ⟨rfl, rfl⟩; rw [H2.out, H4.out])
      | (go_at_call 90; refine (ceither _ _ _ _).mono ?_; rintro e w1 ⟨rfl, rfl⟩))
    go_ret
    exact ⟨rfl, rfl⟩
end Go.Proofs.Ytghbliabmecbcaa
