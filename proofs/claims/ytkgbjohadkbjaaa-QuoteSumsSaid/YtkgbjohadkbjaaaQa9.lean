/-
  Contracts and lemmas on which the proofs of this seat stand (several texts in one). Conditions are each theorem's own.
-/
import Derived.Test.YtkgbjohadkbjaaaQa7

/-
  Contracts of layer 9's Check, numbers, Same, Fault, Query and ID, the program's and the document's; of layer 10's Fault. Conditions are each theorem's own.
-/
namespace Go.Proofs.Ytkgbjohadkbjaaa
open Go.RowKit

theorem rIquery (k : Int) (w : World) : Calls Try.prog 57 #[.int .i64 k] w fun e w' => e = .returned (.bool (qryI k)) ∧ w = w' := by
  have H := Lib.hid (show qryI k = ((k == 0) || (k == 8)) by
    rw [qryI, Bool.eq_iff_iff]; simp; omega)
  cases e0 : (k == 0) <;> cases e1 : (k == 8)
  all_goals
    go_enter Try.func57, Try.ntmps57
    go_wp2_with fail
    go_ret
    exact ⟨ret_bool (by rw [H.out, e0, e1]; rfl), rfl⟩
section
variable (q : PI) (A : Option Addr) (c : Nat) (w : World)
def numsI (q : PI) : List Int := [q.typ, q.code, q.rest]
theorem idI_eq (n : Int) : bits .and .i64 (n / 65536) 65535 = n / 65536 % 65536 := and_any 16 (n / 65536) (by decide)
end
theorem sameI_nums (q r : PI) : sameI q r = (decide (numsI q = numsI r) && decide (q.dat = r.dat)) := by
  rw [sameI, Bool.eq_iff_iff]; simp [numsI, and_assoc]
section
variable (q r : PI) (A : Option Addr) (c : Nat) (X : Option Addr) (d B : Nat) (w : World)
set_option maxRecDepth 100000 in
set_option maxHeartbeats 1000000 in
theorem rIsame (hB : B ≤ w.heap.size) (hA : Rd w B A q.dat) (hX : Rd w B X r.dat) :
    Calls Try.prog 34 #[isv q A c, isv r X d] w fun e w' => e = .returned (.bool (sameI q r)) ∧ Below w.heap.size w w' := by
  have hBW : Below w.heap.size w ((w.alloc (.cells (isa q A c) 59)).alloc (.cells (isa r X d) 59)) := ((Below.refl w.heap.size w).alloc (Nat.le_refl _) _).alloc (by simp) _
  have at1 : Atis ((w.alloc (.cells (isa q A c) 59)).alloc (.cells (isa r X d) 59)) w.heap.size q A c := (Atis.new w).below ((Below.refl (w.heap.size + 1) _).alloc (by simp) _) (by omega)
  have at2 : Atis ((w.alloc (.cells (isa q A c) 59)).alloc (.cells (isa r X d) 59)) (w.heap.size + 1) r X d := by
    have := Atis.new (q := r) (A := X) (c := d) (w.alloc (.cells (isa q A c) 59))
    rwa [show (w.alloc (.cells (isa q A c) 59)).heap.size = w.heap.size + 1 from by simp] at this
  have hz : w.heap.size + 1 < ((w.alloc (.cells (isa q A c) 59)).alloc (.cells (isa r X d) 59)).heap.size := by simp
  rw [isv_eq, isv_eq]
  have q0 := hA.below (hBW.mono hB); have q1 := hX.below (hBW.mono hB)
  have HS := Lib.hid (show sameI q r = ((q.typ == r.typ) && (q.code == r.code) && (q.rest == r.rest) && decide (q.dat = r.dat)) from rfl)
  go_enter Try.func34, Try.ntmps34
  go_upto_region 1 with fail
  generalize (w.alloc (.cells (isa q A c) 59)).alloc (.cells (isa r X d) 59) = W at *
  have c1 := conv_any A q.dat c B W q0
  have c3 := conv_any X r.dat d B W q1
  have x0 := at1.typ; have x1 := at1.code; have x2 := at1.rest; have x3 := at1.dat
  have y0 := at2.typ; have y1 := at2.code; have y2 := at2.rest; have y3 := at2.dat
  clear at1 at2 hA hX q0 q1
  have qd := strB_eq q.dat r.dat
  cases e0 : (q.typ == r.typ)
  · clear qd
    go_wp2_with fail
    go_ret
    exact ⟨ret_bool (by rw [HS.out, e0]; rfl), hBW⟩
  · cases e1 : (q.code == r.code)
    · clear qd
      go_wp2_with fail
      go_ret
      exact ⟨ret_bool (by rw [HS.out, e0, e1]; rfl), hBW⟩
    · cases e2 : (q.rest == r.rest)
      · clear qd
        go_wp2_with fail
        go_ret
        exact ⟨ret_bool (by rw [HS.out, e0, e1, e2]; rfl), hBW⟩
      · cases e3 : decide (q.dat = r.dat)
        · rw [e3] at qd
          go_wp2_with fail
          go_ret
          exact ⟨ret_bool (by rw [HS.out, e0, e1, e2, e3]; rfl), hBW⟩
        · rw [e3] at qd
          go_wp2_with fail
          go_ret
          exact ⟨ret_bool (by rw [HS.out, e0, e1, e2, e3]; rfl), hBW⟩
end
end Go.Proofs.Ytkgbjohadkbjaaa

/-
  Contracts of layer 9's buildHead, Build, Bytes, the program's and the document's. Conditions are each theorem's own.
-/
namespace Go.Proofs.Ytkgbjohadkbjaaa
open Go.RowKit

theorem arg_two (W : World) (t : TypeId) (x y : UInt8) {m n : Int} (h : m = (x.toNat : Int)) (h' : n = (y.toNat : Int)) : Arg (W.alloc (.cells #[.int .u8 m, .int .u8 n] t)) (W.heap.size + 1) (some ⟨W.heap.size, 0, none⟩) 2 [x, y] :=
  ⟨Rd.of_block (World.alloc_heap_new W _) (Nat.lt_succ_self _) 0 (fun j hj => by
    have : j = 0 ∨ j = 1 := by have := hj; simp at this; omega
    rcases this with rfl | rfl
    · subst h; rfl
    · subst h'; rfl), by simp, fun e => by cases e⟩
section
variable (q : PI) (A : Option Addr) (c : Nat) (w : World)
end
end Go.Proofs.Ytkgbjohadkbjaaa

/-
  Contracts of layer 9's Build, the program's and the document's. Conditions are each theorem's own.
-/
namespace Go.Proofs.Ytkgbjohadkbjaaa
open Go.RowKit

theorem rof_oneN (A : Option Addr) (a : List UInt8) (c B : Nat) (N : Int) (hN : Hid (N = 65535 - fold (psum [a]))) (w : World) (h : Rd2 w B A [a]) (hl : a.length ≤ 1099511627000) :
    Calls Try.prog 90 #[.slice A 1 c] w fun e w' => e = .returned (.int .i64 N) ∧ ∃ n, w' = w.drewN n := by
  have h1 := rof_one A a c B w h hl
  rw [← hN.out] at h1
  exact h1
section
variable (q : PI) (A : Option Addr) (c : Nat) (w : World)
end
end Go.Proofs.Ytkgbjohadkbjaaa

/-
  Contracts of layer 9's Parse, the program's and the document's, and of its Read. Conditions are each theorem's own.
-/
namespace Go.Proofs.Ytkgbjohadkbjaaa
open Go.RowKit

section
variable (b : List UInt8) (A : Option Addr) (c : Nat) (w : World)
end
end Go.Proofs.Ytkgbjohadkbjaaa

/-
  Contracts of layer 9's WithID, the program's and the document's. Conditions are each theorem's own.
-/
namespace Go.Proofs.Ytkgbjohadkbjaaa
open Go.RowKit

theorem made_own {w w' : World} {P : Option Addr} {p n : Nat} {bs : List UInt8} (h : Made w w' (.slice P n p) bs) : w'.ownsRow w.heap.size 5 1 (.slice P bs.length p) bs.length (row bs) := by
  obtain ⟨A, c, e, hl, hr, ho, hb⟩ := h
  cases e
  exact ho
end Go.Proofs.Ytkgbjohadkbjaaa
