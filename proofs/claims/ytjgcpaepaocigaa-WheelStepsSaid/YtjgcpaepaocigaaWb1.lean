/-
  Contracts and lemmas on which the proofs of this seat stand (several texts in one). Conditions are each theorem's own.
-/
import Derived.Below
import Derived.Laws.OwnMore
import Derived.Laws.Rows
import Derived.Deep.Draws
import Derived.Deep.OwnRows
import Derived.RangeFuncBox
import Derived.Test.YtjgcpaepaocigaaRows
import Derived.WalkKit
import Derived.WalkSpells
import Derived.Lib.Hide
import Derived.Outline
import Derived.IntWalk
import Derived.Laws.CopyOwn
import Derived.OwnWalk
import Derived.RangeFuncNested
import Derived.RangeFuncBound
import Derived.RangeFuncCalls
import Derived.RangeFuncLeaves
import Derived.Shelf.Abstract
import Derived.Shelf.RegionOpen
import Derived.OwnWalkIn
import Derived.TacticsInMore
import Derived.LoopNIn
import Derived.LoopIn
import Derived.Laws.AppendOwnNone
import Derived.Laws.BytesArg
import Derived.Lib.SliceRun
import Derived.Deep.QuietTactic
import Derived.BigQuiet
import Derived.ProofKit
import Derived.OpenShut
import Derived.ChangeMaps5
import Derived.Deep.RegionHeld3
import Derived.Deep.MidRow
import Derived.Maps.RangeWalk
import Derived.Deep.Cut
import Derived.Deep.CutRange
import Derived.Deep.WholeRow
import Derived.ChangeKeysEq
import Derived.Lib.AppendZerosOnto
import Derived.Lib.Walk
import Derived.WalkMore
import Derived.Great.BuildSlice
import Derived.OrdersHeld
import Derived.OrdersIn
import Derived.TacticsIn
import Derived.RangeFuncSeq
import Derived.Sort.CutIn
import Derived.Lib.Overlaps
import Derived.Laws.Externs
import Derived.Laws.NewBlocks
import Derived.Lib.SlBytesConst
import Derived.Maps.OwnSet
import Derived.Maps.OwnOps
import Derived.Maps.Ext

/-
  Words on memory that every later text of this seat uses: a slice that reads as a list of bytes. Conditions: none; plain definitions and lemmas.
-/
namespace Go.Proofs.Ytjgcpaepaocigaa
open Go.RowKit

/-- The number of byte j. A plain definition: the walk leaves it standing. -/
def byt (bs : List UInt8) (j : Nat) : Int := ((bs[j]?.getD 0).toNat : Int)
theorem byt_lo (bs : List UInt8) (j : Nat) : 0 ≤ byt bs j := by unfold byt; omega
theorem byt_hi (bs : List UInt8) (j : Nat) : byt bs j ≤ 255 := by
  unfold byt; have := (bs[j]?.getD 0).toNat_lt; omega

/-- The cells of a list of bytes. -/
def row (bs : List UInt8) : List Value := bs.map fun x => .int .u8 (x.toNat : Int)

theorem add_off (b off j : Nat) : (⟨b, off, none⟩ : Addr).add j = ⟨b, off + j, none⟩ := by unfold Addr.add; split <;> simp_all
theorem cell_block {w : World} {a : Addr} {v : Value} (h : w.cell? a = some v) : a.block < w.heap.size := by
  rcases Nat.lt_or_ge a.block w.heap.size with hlt | hge
  · exact hlt
  · unfold World.cell? at h; rw [Array.getElem?_eq_none hge] at h; cases h
end Go.Proofs.Ytjgcpaepaocigaa

/-
  Parts that come in any order, in plain lists: what is answered, what is put together, what is missing. No program. Conditions are each theorem's own.
-/
namespace Go.Proofs.Ytjgcpaepaocigaa
open Go.RowKit

/-- A part. -/
structure Pc where
  off : Int
  more : Bool
  b : List UInt8
  deriving DecidableEq
def Pc.len (p : Pc) : Int := (p.b.length : Int)
def Pc.stop (p : Pc) : Int := p.off + p.len
/-- Where the last part ends; none: -1. -/
def endP : List Pc → Int
  | [] => -1
  | x :: l => if x.more then endP l else x.stop
def farP : List Pc → Int
  | [] => 0
  | x :: l => max x.stop (farP l)
def badP (p : Pc) : Prop := p.off < 0 ∨ (p.more = true ∧ (p.len = 0 ∨ p.len % 8 ≠ 0))
instance (p : Pc) : Decidable (badP p) := by unfold badP; exact inferInstance
def lateP (l : List Pc) (p : Pc) : Prop := (p.more = false ∧ (0 ≤ endP l ∨ farP l > p.stop)) ∨ (0 ≤ endP l ∧ p.stop > endP l)
instance (l : List Pc) (p : Pc) : Decidable (lateP l p) := by unfold lateP; exact inferInstance
/-! ### A text, cut -/
end Go.Proofs.Ytjgcpaepaocigaa

/-
  Parts in rising order, in plain lists: what is asked of those beside a place is what the document asks of all; where one more is put in; what they are together. No program. Conditions are each theorem's own.
-/
namespace Go.Proofs.Ytjgcpaepaocigaa
open Go.RowKit

/-- Rising parts that share no place; but the last one each is more, and has bytes. -/
structure Ris (L : List Pc) : Prop where
  ok : ∀ x ∈ L, 0 ≤ x.off ∧ x.stop ≤ 65535
  full : ∀ x ∈ L, x.more = true → 0 < x.len
  pw : L.Pairwise fun x y => x.stop ≤ y.off ∧ x.more = true
/-! ### In whatever order they came -/
/-- The parts as the code keeps them, and as they came. -/
structure Same (L l : List Pc) : Prop where
  ris : Ris L
  perm : List.Perm L l
end Go.Proofs.Ytjgcpaepaocigaa

/-
  Parts in rising order, in plain lists: the spans between them, and their bytes one behind the other, are what the document says of the parts in whatever order. No program. Conditions are each theorem's own.
-/
namespace Go.Proofs.Ytjgcpaepaocigaa
open Go.RowKit

/-! ### Where nothing came yet -/
end Go.Proofs.Ytjgcpaepaocigaa

/-
  Small words that every text of this seat uses: endings that agree, the string of bytes. Conditions: none; plain lemmas.
-/
namespace Go.Proofs.Ytjgcpaepaocigaa
open Go.RowKit

end Go.Proofs.Ytjgcpaepaocigaa

/-
  Contracts of be's small functions (isSize, holds, Fits, number, cut), as read off the program's text: what each answers, and that no memory turns. Conditions are each theorem's own.
-/
namespace Go.Proofs.Ytjgcpaepaocigaa
open Go.RowKit

/-- 256 to the power of k. A plain definition. -/
def pw (k : Nat) : Int := 256 ^ k
/-! ### Get -/

end Go.Proofs.Ytjgcpaepaocigaa

/-
  Contracts of be's functions that make memory: roomy, digits and its iterator, write, Put, Set, Words and its iterator. Conditions are each theorem's own.
-/
namespace Go.Proofs.Ytjgcpaepaocigaa
open Go.RowKit Go.Shelf
attribute [local go_sem] Oper.semAt_some

/-! ### What a round keeps -/

/-! ### digits -/

/-! ### write -/

theorem heap_frozen {W : World} {g t : Nat} {cs : Array Value} (h : W.heap[g]? = some (.cells cs t (0, 0))) (i : Nat) : W.frozen? ⟨g, i, none⟩ = false := by
  simp [World.frozen?, h]
theorem heap_lt {W : World} {g : Nat} {o : Obj} (h : W.heap[g]? = some o) : g < W.heap.size := (Array.getElem?_eq_some_iff.1 h).1
/-! ### New slices of bytes -/

/-! ### Set -/
end Go.Proofs.Ytjgcpaepaocigaa

/-
  Contracts of bytes.Clone and bytes.Equal, as read off the library's text, and a law for append whose source reads as bytes. Conditions are each theorem's own.
-/
namespace Go.Proofs.Ytjgcpaepaocigaa
open Go.RowKit

theorem own_block_ge {w : World} {base e size n : Nat} {v : Value} {xs : List Value} (h : w.ownsRow base e size v n xs) : ∀ k, v.ownBlock = some k → base ≤ k := by
  intro k hk
  rcases h.2 with ⟨rfl, _⟩ | ⟨g, cap, cur, rfl, hb, _⟩
  · simp [Value.ownBlock] at hk
  · simp [Value.ownBlock] at hk; omega

end Go.Proofs.Ytjgcpaepaocigaa

/-
  Contract of be.Words and of the iterator that it hands back: it tells the pairs of bytes in order, each with its number. Conditions are each theorem's own.
-/
namespace Go.Proofs.Ytjgcpaepaocigaa
open Go.RowKit Go.Shelf
attribute [local go_sem] Oper.semAt_some

/-- The number of pair i (a byte that is not there is 0), and where it begins. Plain definitions. -/
def wrd (bs : List UInt8) (i : Nat) : Int := byt bs (2 * i) * 256 + byt bs (2 * i + 1)
theorem wrd_bd (bs : List UInt8) (i : Nat) : 0 ≤ wrd bs i ∧ wrd bs i ≤ 65535 := by
  have := byt_lo bs (2 * i); have := byt_lo bs (2 * i + 1); have := byt_hi bs (2 * i); have := byt_hi bs (2 * i + 1)
  unfold wrd; omega
/-- How many pairs. -/
def prs (n : Nat) : Nat := (n + 1) / 2

end Go.Proofs.Ytjgcpaepaocigaa

/-
  Contracts of the document's plain answers of layer 1: Word, Put, Set. Conditions are each theorem's own.
-/
namespace Go.Proofs.Ytjgcpaepaocigaa
open Go.RowKit

end Go.Proofs.Ytjgcpaepaocigaa

/-
  Contract of layer 1's awake: it answers true, and turns nothing that was there. Conditions: none.
-/
namespace Go.Proofs.Ytjgcpaepaocigaa
open Go.RowKit

/-! ### For ranges over Words -/
theorem below_drewN {B : Nat} {a w : World} (h : Below B a w) (n : Nat) : Below B a (w.drewN n) := ⟨h.os, h.tape, h.output, h.size, h.block⟩
end Go.Proofs.Ytjgcpaepaocigaa

/-
  The sum of the Internet in plain numbers, and the contracts of Fold, the program's and the document's. Conditions are each theorem's own.
-/
namespace Go.Proofs.Ytjgcpaepaocigaa
open Go.RowKit

/-- Fold, said at once: a number above 0 is told by its rest modulo 65535, from 1 on. A plain definition. -/
def fold (n : Int) : Int := if n ≤ 0 then 0 else (n - 1) % 65535 + 1
theorem fold_bd (n : Int) : 0 ≤ fold n ∧ fold n ≤ 65535 := by unfold fold; split <;> omega
theorem wraps63 (n : Int) (h₀ : 0 ≤ n) (h₁ : n < 2 ^ 63) : IntKind.i64.wrap n = n := by rw [IntKind.wrap_i64]; omega
/-! ### Sums of words -/

/-- The sum of the first k pairs. -/
def wsum (bs : List UInt8) : Nat → Int
  | 0 => 0
  | k + 1 => wsum bs k + wrd bs k
def wall (bs : List UInt8) : Int := wsum bs (prs bs.length)
def psum (ps : List (List UInt8)) : Int := (ps.map wall).sum
theorem wsum_succ (bs : List UInt8) (k : Nat) : wsum bs (k + 1) = wsum bs k + wrd bs k := rfl
theorem wsum_bd (bs : List UInt8) (k : Nat) : 0 ≤ wsum bs k ∧ wsum bs k ≤ 65535 * (k : Int) := by
  induction k with
  | zero => simp [wsum]
  | succ k ih => have := wrd_bd bs k; rw [wsum_succ]; omega
theorem wall_bd (bs : List UInt8) : 0 ≤ wall bs ∧ wall bs ≤ 65535 * (bs.length : Int) := by
  have := wsum_bd bs (prs bs.length); unfold wall; unfold prs at *; omega
/-- How many bytes there are in all. -/
def bulk (ps : List (List UInt8)) : Nat := (ps.map List.length).sum
theorem psum_bd (ps : List (List UInt8)) : 0 ≤ psum ps ∧ psum ps ≤ 65535 * (bulk ps : Int) := by
  induction ps with
  | nil => simp [psum, bulk]
  | cons b l ih =>
    have := wall_bd b
    have e1 : psum (b :: l) = wall b + psum l := by simp [psum]
    have e2 : bulk (b :: l) = b.length + bulk l := by simp [bulk]
    rw [e1, e2]; omega
/-! ### A slice of slices of bytes -/

end Go.Proofs.Ytjgcpaepaocigaa

/-
  Contracts of the program's sum: Add, Of, Right, Change. Conditions are each theorem's own.
-/
namespace Go.Proofs.Ytjgcpaepaocigaa
open Go.RowKit Go.Shelf
attribute [local go_sem] Oper.semAt_some

/-! ### Many ranges over a function in one call: the marks that they leave -/

/-- Is a sum right? A plain definition. -/
def rightB (ps : List (List UInt8)) : Bool := fold (psum ps) == 65535
/-- Change, said at once. -/
def chg (s : Int) (old now : List UInt8) : Int := if 0 ≤ s ∧ s ≤ 65535 then 65535 - fold (65535 - s + (65535 * (prs old.length : Int) - wall old) + wall now) else 0
end Go.Proofs.Ytjgcpaepaocigaa

/-
  A range over an iterator that hands over memory which it made in the round: what is known of an element comes with it. Conditions are each theorem's own.
-/
namespace Go.Proofs.Ytjgcpaepaocigaa
open Go.RowKit Go.Shelf

/-- The statement's two blocks: the rounds' deferred calls at D, the record behind it. -/
structure Two (W : World) (D : Nat) (r : Loop) : Prop where
  calls : W.heap[D]? = some (.deferred (some []))
  rec_ : W.heap[D + 1]? = some (.loop r)
end Go.Proofs.Ytjgcpaepaocigaa

/-
  Arguments that came in, opened by their types: what a walk is told of each. Conditions are each theorem's own.
-/
namespace Go.Proofs.Ytjgcpaepaocigaa
open Go.RowKit Go.ChangeShapes Go.WideShapes

/-- A slice of integers that came in: nil, or a row of 'cap' cells that hold the numbers 'zs', each fitting its kind. -/
def IsRow (k : IntKind) (w : World) (a : Option Addr) (len cap : Nat) (zs : List Int) : Prop :=
  (a = none ∧ len = 0 ∧ cap = 0 ∧ zs = []) ∨
  ∃ x, a = some x ∧ len ≤ cap ∧ cap ≤ maxLen ∧ zs.length = cap ∧ (∀ i, i < zs.length → w.cell? (x.add i) = some (.int k (zs.getD i 0))) ∧ ∀ n ∈ zs, (Lit.int k n).wf = true

section
variable {H : Type} {enc : TypeId × Value → H} {P : Program} {w : World} {base : Nat} {t e : TypeId} {v : Value} {d : DataW H} {p : List MemPlace}
theorem Trod_lt (h : DataW.Trod enc P w 0 (fun _ => true) true t v d p) : ∀ x ∈ p, x.block < w.heap.size := by
  obtain ⟨m, hm⟩ := h; exact DataW.trod_lt m _ _ _ hm
theorem get_int {k : IntKind} (ht : P.underlying t = some (.int k)) (hv : Value.okWide P w .any base t v) (h : DataW.Trod enc P w 0 (fun _ => true) true t v d p) :
    ∃ n, v = .int k n ∧ (Lit.int k n).wf = true := by
  obtain ⟨n, e, _, _, hw⟩ := open_int ht hv h
  exact ⟨n, e, hw⟩
theorem get_row {k : IntKind} (ht : P.underlying t = some (.slice e)) (he : P.underlying e = some (.int k)) (hc : P.cellsOf e = 1) (hv : Value.okWide P w .any base t v) (h : DataW.Trod enc P w 0 (fun _ => true) true t v d p) :
    ∃ A len cap zs, v = .slice A len cap ∧ IsRow k w A len cap zs := by
  obtain ⟨A, len, cap, rfl⟩ := okWide_slice ht hv
  obtain ⟨fuel, hf⟩ := h
  rcases open_ints ht he hc hf with ⟨hcs, _⟩ | ⟨x, l, c, zs, hcs, _, hl, hm, hz, _, hcell, hwz⟩
  · simp [Value.cells] at hcs
    obtain ⟨rfl, rfl, rfl⟩ := hcs
    exact ⟨_, _, _, [], rfl, .inl ⟨rfl, rfl, rfl, rfl⟩⟩
  · simp [Value.cells] at hcs
    obtain ⟨rfl, rfl, rfl⟩ := hcs
    exact ⟨_, _, _, zs, rfl, .inr ⟨_, rfl, hl, hm, by simpa using hz, hcell, hwz⟩⟩
end
end Go.Proofs.Ytjgcpaepaocigaa

/-
  Addresses of IPv6 as lists of sixteen bytes: which stands ahead, which is of a host. No program. Conditions are each theorem's own.
-/
namespace Go.Proofs.Ytjgcpaepaocigaa
open Go.RowKit

end Go.Proofs.Ytjgcpaepaocigaa

/-
  An address of IPv6 that came in, opened. Conditions are each theorem's own.
-/
namespace Go.Proofs.Ytjgcpaepaocigaa
open Go.RowKit Go.ChangeShapes Go.WideShapes

end Go.Proofs.Ytjgcpaepaocigaa

/-
  Contracts of the document's plain answers of layer 2: Add, Of, Right, Change. Conditions are each theorem's own.
-/
namespace Go.Proofs.Ytjgcpaepaocigaa
open Go.RowKit

end Go.Proofs.Ytjgcpaepaocigaa

/-
  What the statements of layers 1 and 2 share on arguments that came in. Conditions: none.
-/

/-
  Contracts of layer 2's helpers: few, zero, awake. Conditions are each theorem's own.
-/
namespace Go.Proofs.Ytjgcpaepaocigaa
open Go.RowKit

/-! ### few -/
/-! ### zero -/
def zeroB (ps : List (List UInt8)) : Bool := ps.all fun b => b.all fun x => x == 0
theorem byt_zero {bs : List UInt8} (h : ∀ j, j < bs.length → byt bs j = 0) : ∀ x ∈ bs, x = 0 := by
  intro x hx
  obtain ⟨j, hj, rfl⟩ := List.getElem_of_mem hx
  have := h j hj
  simp [byt, hj] at this
  exact UInt8.toNat_inj.1 (by simpa using this)

/-! ### Sums behind bytes -/
theorem byt_left {a b : List UInt8} {j : Nat} (h : j < a.length) : byt (a ++ b) j = byt a j := by unfold byt; rw [List.getElem?_append_left h]
theorem byt_right {a b : List UInt8} {j : Nat} : byt (a ++ b) (a.length + j) = byt b j := by
  unfold byt; rw [List.getElem?_append_right (by omega), Nat.add_sub_cancel_left]
theorem wsum_left {a b : List UInt8} : ∀ {k : Nat}, 2 * k ≤ a.length → wsum (a ++ b) k = wsum a k
  | 0, _ => rfl
  | k + 1, h => by
    rw [wsum_succ, wsum_succ, wsum_left (by omega), wrd, wrd, byt_left (by omega), byt_left (by omega)]
theorem wall_two {a : List UInt8} {m : Nat} (h : a.length = 2 * m) (x y : UInt8) : wall (a ++ [x, y]) = wall a + ((x.toNat : Int) * 256 + (y.toNat : Int)) := by
  have e1 : prs (a ++ [x, y]).length = m + 1 := by rw [List.length_append, h]; unfold prs; simp; omega
  have e2 : prs a.length = m := by rw [h]; unfold prs; omega
  rw [wall, wall, e1, e2, wsum_succ, wsum_left (by omega)]
  have e3 : wrd (a ++ [x, y]) m = (x.toNat : Int) * 256 + (y.toNat : Int) := by
    have h0 : byt (a ++ [x, y]) (2 * m) = (x.toNat : Int) := by have := byt_right (a := a) (b := [x, y]) (j := 0); rw [h, Nat.add_zero] at this; rw [this]; rfl
    have h1 : byt (a ++ [x, y]) (2 * m + 1) = (y.toNat : Int) := by have := byt_right (a := a) (b := [x, y]) (j := 1); rw [h] at this; rw [this]; rfl
    rw [wrd, h0, h1]
  rw [e3]
theorem wall_pair (x y : UInt8) : wall [x, y] = (x.toNat : Int) * 256 + (y.toNat : Int) := by
  have := wall_two (a := []) (m := 0) rfl x y
  simpa [wall, prs, wsum] using this
/-- The two bytes of a sum. -/
def hi (n : Int) : UInt8 := UInt8.ofNat (n / 256).toNat
def lo (n : Int) : UInt8 := UInt8.ofNat (n % 256).toNat
theorem hi_val {n : Int} (h0 : 0 ≤ n) (h1 : n ≤ 65535) : ((hi n).toNat : Int) = n / 256 := by simp only [hi, UInt8.toNat_ofNat']; omega
theorem lo_val (n : Int) : ((lo n).toNat : Int) = n % 256 := by simp only [lo, UInt8.toNat_ofNat']; omega
theorem hi_lo {n : Int} (h0 : 0 ≤ n) (h1 : n ≤ 65535) : ((hi n).toNat : Int) * 256 + ((lo n).toNat : Int) = n := by rw [hi_val h0 h1, lo_val n]; omega
theorem own_below {w w' : World} {base e size n : Nat} {v : Value} {xs : List Value} (h : w.ownsRow base e size v n xs) (hb : Below w.heap.size w w') : w'.ownsRow base e size v n xs := by
  obtain ⟨h1, h2⟩ := h
  refine ⟨h1, ?_⟩
  rcases h2 with h2 | ⟨g, cap, cur, hv, hg, hh, r⟩
  · exact .inl h2
  · exact .inr ⟨g, cap, cur, hv, hg, (hb.block g (heap_lt hh)).trans hh, r⟩
/-! ### A sum stays right -/
theorem wsum_zero {bs : List UInt8} : ∀ {k : Nat}, wsum bs k = 0 → ∀ j, j < 2 * k → byt bs j = 0
  | 0, _, j, hj => absurd hj (by omega)
  | k + 1, h, j, hj => by
    have h1 := wsum_bd bs k
    have h2 := wrd_bd bs k
    rw [wsum_succ] at h
    have e1 : wsum bs k = 0 := by omega
    have e2 : wrd bs k = 0 := by omega
    by_cases hlt : j < 2 * k
    · exact wsum_zero e1 j hlt
    · have a1 := byt_lo bs (2 * k)
      have a2 := byt_lo bs (2 * k + 1)
      unfold wrd at e2
      have : j = 2 * k ∨ j = 2 * k + 1 := by omega
      rcases this with rfl | rfl <;> omega
theorem wall_zero {bs : List UInt8} (h : wall bs = 0) : ∀ x ∈ bs, x = 0 :=
  byt_zero fun j hj => wsum_zero (k := prs bs.length) h j (by unfold prs; omega)
theorem psum_cons (b : List UInt8) (l : List (List UInt8)) : psum (b :: l) = wall b + psum l := by simp [psum]
theorem psum_zero : ∀ {ps : List (List UInt8)}, psum ps = 0 → zeroB ps = true
  | [], _ => rfl
  | b :: l, h => by
    have h1 := wall_bd b
    have h2 := psum_bd l
    rw [psum_cons] at h
    have e1 : wall b = 0 := by omega
    have e2 : psum l = 0 := by omega
    have := psum_zero e2
    simp only [zeroB, List.all_cons, Bool.and_eq_true] at this ⊢
    exact ⟨by rw [List.all_eq_true]; intro x hx; simpa using wall_zero e1 x hx, this⟩
theorem fold_spec {n : Int} (h : 0 ≤ n) : ∃ q : Int, n = fold n + 65535 * q ∧ (0 < n → 1 ≤ fold n) ∧ fold n ≤ 65535 := by
  unfold fold
  split
  · exact ⟨0, by omega, by omega, by omega⟩
  · exact ⟨(n - 1) / 65535, by omega, by omega, by omega⟩
theorem stays {a b old now : List UInt8} {N M : Int} (hz : zeroB [a, now, b] = false) (hN : N = 65535 - fold (psum [a, old, b])) (hM : M = chg N old now) :
    rightB [a, now, b, [hi M, lo M]] = true ∧ 0 ≤ N ∧ N ≤ 65535 ∧ 0 ≤ M ∧ M ≤ 65535 := by
  have f1 := fold_bd (psum [a, old, b])
  have hN0 : 0 ≤ N := by omega
  have hN1 : N ≤ 65535 := by omega
  rw [chg, if_pos ⟨hN0, hN1⟩] at hM
  have f2 := fold_bd (65535 - N + (65535 * (prs old.length : Int) - wall old) + wall now)
  have hM0 : 0 ≤ M := by omega
  have hM1 : M ≤ 65535 := by omega
  refine ⟨?_, hN0, hN1, hM0, hM1⟩
  have wa := wall_bd a; have wb := wall_bd b; have wn := wall_bd now
  have wo : 0 ≤ wall old ∧ wall old ≤ 65535 * (prs old.length : Int) := wsum_bd old _
  have p1 : psum [a, old, b] = wall a + wall old + wall b := by simp [psum]; omega
  have p2 : psum [a, now, b] = wall a + wall now + wall b := by simp [psum]; omega
  have p3 : psum [a, now, b, [hi M, lo M]] = wall a + wall now + wall b + M := by
    simp only [psum_cons]; rw [wall_pair, hi_lo hM0 hM1]; simp [psum]; omega
  have hpos : 0 < wall a + wall now + wall b := by
    rcases Int.lt_or_le 0 (wall a + wall now + wall b) with h | h
    · exact h
    · have e : psum [a, now, b] = 0 := by omega
      rw [psum_zero e] at hz
      cases hz
  obtain ⟨q1, e1, _, _⟩ := fold_spec (n := psum [a, old, b]) (by omega)
  obtain ⟨q2, e2, _, _⟩ := fold_spec (n := 65535 - N + (65535 * (prs old.length : Int) - wall old) + wall now) (by omega)
  obtain ⟨q3, e3, g3, u3⟩ := fold_spec (n := wall a + wall now + wall b + M) (by omega)
  have g3' := g3 (by omega)
  rw [rightB, p3, beq_iff_eq]
  generalize fold (wall a + wall now + wall b + M) = Y at *
  generalize fold (65535 - N + (65535 * (prs old.length : Int) - wall old) + wall now) = X at *
  generalize fold (psum [a, old, b]) = Z at *
  omega

end Go.Proofs.Ytjgcpaepaocigaa

/-
  Packets of IPv4, in plain lists of bytes: what may be, its bytes, what bytes are. No program. Conditions are each theorem's own.
-/
namespace Go.Proofs.Ytjgcpaepaocigaa
open Go.RowKit

/-- A packet of IPv4 as the document has it. -/
structure P4 where
  tos : Int
  id : Int
  off : Int
  ttl : Int
  proto : Int
  src : Int
  dst : Int
  df : Bool
  mf : Bool
  opt : List UInt8
  dat : List UInt8
/-- The packet of nothing. -/
def p4z : P4 := ⟨0, 0, 0, 0, 0, 0, 0, false, false, [], []⟩
def head4 (q : P4) : Int := 20 + (q.opt.length : Int)
/-- What is wrong with a packet's fields. -/
def arg4 (q : P4) : Prop := 0 ≤ q.tos ∧ q.tos ≤ 255 ∧ 0 ≤ q.ttl ∧ q.ttl ≤ 255 ∧ 0 ≤ q.proto ∧ q.proto ≤ 255 ∧ 0 ≤ q.id ∧ q.id ≤ 65535 ∧ 0 ≤ q.src ∧ q.src < 4294967296 ∧ 0 ≤ q.dst ∧ q.dst < 4294967296 ∧
  0 ≤ q.off ∧ q.off ≤ 65528 ∧ q.off % 8 = 0 ∧ q.opt.length ≤ 40 ∧ q.opt.length % 4 = 0 ∧ (q.mf = true → q.dat.length % 8 = 0)
instance (q : P4) : Decidable (arg4 q) := by unfold arg4; infer_instance
/-- A byte of a number. -/
def u8 (n : Int) : UInt8 := UInt8.ofNat (n % 256).toNat
def bit (b : Bool) (n : Int) : Int := if b then n else 0
def hdb (q : P4) : List UInt8 := [u8 (q.src / 16777216), u8 (q.src / 65536), u8 (q.src / 256), u8 q.src, u8 (q.dst / 16777216), u8 (q.dst / 65536), u8 (q.dst / 256), u8 q.dst] ++ q.opt
/-- The number of two, of four bytes at a place. -/
def n2 (b : List UInt8) (i : Nat) : Int := byt b i * 256 + byt b (i + 1)
def n4 (b : List UInt8) (i : Nat) : Int := ((byt b i * 256 + byt b (i + 1)) * 256 + byt b (i + 2)) * 256 + byt b (i + 3)
def hlen (b : List UInt8) : Int := byt b 0 % 16 * 4
end Go.Proofs.Ytjgcpaepaocigaa

/-
  Packets that came in, opened: what a walk is told of each field. Conditions are each theorem's own.
-/
namespace Go.Proofs.Ytjgcpaepaocigaa
open Go.RowKit Go.ChangeShapes Go.WideShapes


/-- A packet of IPv6, and its value. -/
structure P6 where
  traffic : Int
  flow : Int
  next : Int
  hop : Int
  src : List UInt8
  dst : List UInt8
  dat : List UInt8
/-- A fragment header, and its value. -/
structure F6 where
  next : Int
  off : Int
  id : Int
  more : Bool
end Go.Proofs.Ytjgcpaepaocigaa

/-
  Texts of numbers and of addresses of IPv4, in plain lists of bytes: no program. Conditions are each theorem's own.
-/
namespace Go.Proofs.Ytjgcpaepaocigaa

end Go.Proofs.Ytjgcpaepaocigaa

/-
  Contracts of the document's plain answers of layer 3: Right, Text, Parse, Host, Private. Conditions are each theorem's own.
-/
namespace Go.Proofs.Ytjgcpaepaocigaa
open Go.RowKit

end Go.Proofs.Ytjgcpaepaocigaa

/-
  Contracts of the document's plain answers of layer 5: Head, Size, Whole, Check, Same. Conditions are each theorem's own.
-/
namespace Go.Proofs.Ytjgcpaepaocigaa
open Go.RowKit

end Go.Proofs.Ytjgcpaepaocigaa

/-
  A region that draws its order, whose operations leave what was there as it was: its walk step by step. Conditions are each theorem's own.
-/
namespace Go.Proofs.Ytjgcpaepaocigaa
open Go.RowKit

theorem held_pure {P : Program} {ops : Array Oper} {Q : Exit → Act → World → Prop} {md : Region.Mode} {S : World → Prop} {i : Nat} {oi : Oper} {v : Value} {fuel : Nat} {listed : Array Bool} {a : Act} {w : World} (hi : ops[i]? = some oi)
    (hs : Region.noSelect ops = true) (hf : Region.free md ops listed i = true) (hr : (Region.ready md ops listed).contains i = true)
    (hQ : ∀ c a w, Q (.panic c) (a.put oi.dst v) w → Q (.panic c) a w) (hw : Region.wanted oi (yielded ops a.tmps) = true)
    (hrun : ∀ w, S w → (execOp a.eval oi).run P w = .ok (.value v) w) (hS : S w)
    (h : S w → wpAnyH P md ops Q S fuel (listed.setIfInBounds i true) (a.put oi.dst v) w) : wpAnyH P md ops Q S (fuel + 1) listed a w :=
  wpAnyH_take hi hs hf hr hQ (.inl ⟨hw, hrun⟩) hS (h hS)
theorem held_skip {P : Program} {ops : Array Oper} {Q : Exit → Act → World → Prop} {md : Region.Mode} {S : World → Prop} {i : Nat} {oi : Oper} {fuel : Nat} {listed : Array Bool} {a : Act} {w : World} (hi : ops[i]? = some oi)
    (hs : Region.noSelect ops = true) (hf : Region.free md ops listed i = true) (hr : (Region.ready md ops listed).contains i = true)
    (hQ : ∀ c a w, Q (.panic c) (a.put oi.dst undef) w → Q (.panic c) a w) (hw : Region.wanted oi (yielded ops a.tmps) = false) (hS : S w)
    (h : S w → wpAnyH P md ops Q S fuel (listed.setIfInBounds i true) (a.put oi.dst undef) w) : wpAnyH P md ops Q S (fuel + 1) listed a w :=
  wpAnyH_take hi hs hf hr hQ (.inr ⟨hw, rfl⟩) hS (h hS)
end Go.Proofs.Ytjgcpaepaocigaa

/-
  Reads out of a packet's block, for walks of regions that draw their order. Conditions are each theorem's own.
-/
namespace Go.Proofs.Ytjgcpaepaocigaa
open Go.RowKit

theorem run_load_int {o : Oper} {a : Act} {w : World} {x : Operand} {p : Addr} {n : Int} (ho : o.op = .load 3 x) (hx : a.eval x = .pointer (some p)) (hc : w.cell? p = some (.int .i64 n)) :
    (execOp a.eval o).run Try.prog w = .ok (.value (.int .i64 n)) w := by
  unfold execOp
  simp only [ho, hx, Instr.loadAt, Instr.sureAddr, Sem.run_bind, Sem.run_pure, Result.andThen_ok]
  go_simp
end Go.Proofs.Ytjgcpaepaocigaa

/-
  Contracts of the document's plain answers of layer 5: Size, Check. Conditions are each theorem's own.
-/
namespace Go.Proofs.Ytjgcpaepaocigaa
open Go.RowKit

end Go.Proofs.Ytjgcpaepaocigaa

/-
  Contracts of the document's plain answers of layer 5: Same, num. Conditions are each theorem's own.
-/
namespace Go.Proofs.Ytjgcpaepaocigaa
open Go.RowKit

/-- Are two packets the same? A plain definition. -/
def same4 (q r : P4) : Bool := (q.tos == r.tos && q.id == r.id && q.off == r.off && q.ttl == r.ttl && q.proto == r.proto && q.src == r.src && q.dst == r.dst) && (q.df == r.df) && (q.mf == r.mf) && decide (q.opt = r.opt) && decide (q.dat = r.dat)
theorem same4_iff {q r : P4} : same4 q r = true ↔ q = r := by
  obtain ⟨a0, a1, a2, a3, a4, a5, a6, a7, a8, a9, a10⟩ := q
  obtain ⟨b0, b1, b2, b3, b4, b5, b6, b7, b8, b9, b10⟩ := r
  simp only [same4, Bool.and_eq_true, beq_iff_eq, decide_eq_true_eq, P4.mk.injEq]
  constructor
  · rintro ⟨⟨⟨⟨⟨⟨⟨⟨⟨⟨h0, h1⟩, h2⟩, h3⟩, h4⟩, h5⟩, h6⟩, h7⟩, h8⟩, h9⟩, h10⟩; exact ⟨h0, h1, h2, h3, h4, h5, h6, h7, h8, h9, h10⟩
  · rintro ⟨h0, h1, h2, h3, h4, h5, h6, h7, h8, h9, h10⟩; exact ⟨⟨⟨⟨⟨⟨⟨⟨⟨⟨h0, h1⟩, h2⟩, h3⟩, h4⟩, h5⟩, h6⟩, h7⟩, h8⟩, h9⟩, h10⟩
end Go.Proofs.Ytjgcpaepaocigaa

/-
  Packets of IPv4, there and back: what is built is parsed, what is parsed is built. Plain lists of bytes, no program. Conditions are each theorem's own.
-/
namespace Go.Proofs.Ytjgcpaepaocigaa
open Go.RowKit


end Go.Proofs.Ytjgcpaepaocigaa

/-
  Contract of the document's plain answers of layer 5: head. Conditions are each theorem's own.
-/
namespace Go.Proofs.Ytjgcpaepaocigaa
open Go.RowKit

theorem own_base {w : World} {base base' e s n : Nat} {v : Value} {xs : List Value} (h : w.ownsRow base' e s v n xs) (hb : base ≤ base') : w.ownsRow base e s v n xs := by
  obtain ⟨hl, h0 | ⟨g, cap, cur, hv, hg, r⟩⟩ := h
  · exact ⟨hl, .inl h0⟩
  · exact ⟨hl, .inr ⟨g, cap, cur, hv, by omega, r⟩⟩
end Go.Proofs.Ytjgcpaepaocigaa

/-
  Contract of the document's plain answers of layer 5: Build. Conditions are each theorem's own.
-/
namespace Go.Proofs.Ytjgcpaepaocigaa
open Go.RowKit

end Go.Proofs.Ytjgcpaepaocigaa

/-
  Contract of the document's plain answers of layer 5: fields. Conditions are each theorem's own.
-/
namespace Go.Proofs.Ytjgcpaepaocigaa
open Go.RowKit

end Go.Proofs.Ytjgcpaepaocigaa

/-
  Contracts of slices.Index, slices.Contains over Bools, and of v4.all, v6.all: do all conditions hold? Conditions are each theorem's own.
-/
namespace Go.Proofs.Ytjgcpaepaocigaa
open Go.RowKit

end Go.Proofs.Ytjgcpaepaocigaa

/-
  Packets of IPv6 and fragment headers, in plain lists of bytes: what may be, its bytes, what bytes are. No program. Conditions are each theorem's own.
-/
namespace Go.Proofs.Ytjgcpaepaocigaa
open Go.RowKit

/-- What is right with a fragment header. -/
def okF (f : F6) : Prop := 0 ≤ f.next ∧ f.next ≤ 255 ∧ 0 ≤ f.off ∧ f.off ≤ 65528 ∧ f.off % 8 = 0 ∧ 0 ≤ f.id ∧ f.id < 4294967296
instance (f : F6) : Decidable (okF f) := by unfold okF; infer_instance
/-- What is right with a packet's fields. -/
def arg6 (q : P6) : Prop := 0 ≤ q.traffic ∧ q.traffic ≤ 255 ∧ 0 ≤ q.next ∧ q.next ≤ 255 ∧ 0 ≤ q.hop ∧ q.hop ≤ 255 ∧ 0 ≤ q.flow ∧ q.flow < 1048576
instance (q : P6) : Decidable (arg6 q) := by unfold arg6; infer_instance
end Go.Proofs.Ytjgcpaepaocigaa

/-
  Layer 6's small functions: get, fresh, put; packets and fragment headers that lie in a block of their own. Conditions are each theorem's own.
-/
namespace Go.Proofs.Ytjgcpaepaocigaa
open Go.RowKit

end Go.Proofs.Ytjgcpaepaocigaa

/-
  Laws: a slice of a slice of bytes, whatever its capacity; a function's own block for its result, kept through a region and stored into. Conditions are each theorem's own.
-/
namespace Go.Proofs.Ytjgcpaepaocigaa
open Go.RowKit

/-- An operation that yields a value, in a list that goes in the order of the text. -/
theorem wpList_val {P : Program} {ops : Array Oper} {rest : List Oper} {o : Oper} {a : Act} {w : World} {Q : Exit → Act → World → Prop} {v : Value} (hg : o.guard = none) (hrun : (execOp a.eval o).run P w = .ok (.value v) w)
    (h : wpList P ops Q rest (a.put o.dst v) w) : wpList P ops Q (o :: rest) a w :=
  wpList_plain hg fun K hK => by unfold Oper.wp; rw [hrun]; exact hK _ _ h

end Go.Proofs.Ytjgcpaepaocigaa

/-
  Contracts of the document's plain answers of layer 4: Less, Host, Of. Conditions are each theorem's own.
-/
namespace Go.Proofs.Ytjgcpaepaocigaa
open Go.RowKit

end Go.Proofs.Ytjgcpaepaocigaa

/-
  Packets of IPv6 in a block of their own; laws for loads out of it. Conditions are each theorem's own.
-/
namespace Go.Proofs.Ytjgcpaepaocigaa
open Go.RowKit

end Go.Proofs.Ytjgcpaepaocigaa

/-
  Contracts of Check, numbers and Same of layer 6, the program's and the document's. Conditions are each theorem's own.
-/
namespace Go.Proofs.Ytjgcpaepaocigaa
open Go.RowKit

end Go.Proofs.Ytjgcpaepaocigaa

/-
  Contracts of v4's Head, Whole, Size, bit, flags, numbers. Conditions are each theorem's own.
-/
namespace Go.Proofs.Ytjgcpaepaocigaa
open Go.RowKit

end Go.Proofs.Ytjgcpaepaocigaa

/-
  Contracts of v4's Same, Check. Conditions are each theorem's own.
-/
namespace Go.Proofs.Ytjgcpaepaocigaa
open Go.RowKit

end Go.Proofs.Ytjgcpaepaocigaa

/-
  Contracts of numbers and Same of layer 6, the program's and the document's. Conditions are each theorem's own.
-/
namespace Go.Proofs.Ytjgcpaepaocigaa
open Go.RowKit

end Go.Proofs.Ytjgcpaepaocigaa

/-
  Laws for copy into a row of bytes of the call's own, and for slices of arrays. Conditions are each theorem's own.
-/
namespace Go.Proofs.Ytjgcpaepaocigaa
open Go.RowKit

end Go.Proofs.Ytjgcpaepaocigaa

/-
  Contract of v4's buildHead. Conditions are each theorem's own.
-/
namespace Go.Proofs.Ytjgcpaepaocigaa
open Go.RowKit

end Go.Proofs.Ytjgcpaepaocigaa

/-
  Contract of v4.Build. Conditions are each theorem's own.
-/
namespace Go.Proofs.Ytjgcpaepaocigaa
open Go.RowKit

end Go.Proofs.Ytjgcpaepaocigaa

/-
  Contract of v4's layout. Conditions are each theorem's own.
-/
namespace Go.Proofs.Ytjgcpaepaocigaa
open Go.RowKit

end Go.Proofs.Ytjgcpaepaocigaa

/-
  Contract of v4's read. Conditions are each theorem's own.
-/
namespace Go.Proofs.Ytjgcpaepaocigaa
open Go.RowKit

end Go.Proofs.Ytjgcpaepaocigaa

/-
  Contract of v6.Build. Conditions are each theorem's own.
-/
namespace Go.Proofs.Ytjgcpaepaocigaa
open Go.RowKit

end Go.Proofs.Ytjgcpaepaocigaa

/-
  Contract of v6.Quoted. Conditions are each theorem's own.
-/
namespace Go.Proofs.Ytjgcpaepaocigaa
open Go.RowKit

end Go.Proofs.Ytjgcpaepaocigaa

/-
  Contract of v4.Parse. Conditions are each theorem's own.
-/
namespace Go.Proofs.Ytjgcpaepaocigaa
open Go.RowKit

end Go.Proofs.Ytjgcpaepaocigaa

/-
  Contracts of layer 5's helpers of the statements: far, awake. Conditions are each theorem's own.
-/
namespace Go.Proofs.Ytjgcpaepaocigaa
open Go.RowKit

end Go.Proofs.Ytjgcpaepaocigaa

/-
  What layer 5's statement V4Back stands on besides: Right of the document's plain answers, of one. Conditions are each theorem's own.
-/
namespace Go.Proofs.Ytjgcpaepaocigaa
open Go.RowKit

end Go.Proofs.Ytjgcpaepaocigaa

/-
  Contract of v6.Parse. Conditions are each theorem's own.
-/
namespace Go.Proofs.Ytjgcpaepaocigaa
open Go.RowKit

end Go.Proofs.Ytjgcpaepaocigaa

/-
  Single cells stored into a block of the call's own, as operations; a packet of IPv6 that is filled cell by cell. Conditions are each theorem's own.
-/
namespace Go.Proofs.Ytjgcpaepaocigaa
open Go.RowKit

end Go.Proofs.Ytjgcpaepaocigaa

/-
  The struct api.UDP as data: its cells, its value, a block that holds one. Conditions are each theorem's own.
-/
namespace Go.Proofs.Ytjgcpaepaocigaa
open Go.RowKit Go.ChangeShapes Go.WideShapes

structure PU where
  src : Int
  dst : Int
  nosum : Bool
  dat : List UInt8
end Go.Proofs.Ytjgcpaepaocigaa

/-
  Datagrams of UDP in plain lists of bytes: what may be, its bytes, what bytes are. No program. Conditions are each theorem's own.
-/
namespace Go.Proofs.Ytjgcpaepaocigaa
open Go.RowKit

def argU (q : PU) : Prop := 0 ≤ q.src ∧ q.src ≤ 65535 ∧ 0 ≤ q.dst ∧ q.dst ≤ 65535
instance (q : PU) : Decidable (argU q) := by unfold argU; infer_instance
end Go.Proofs.Ytjgcpaepaocigaa

/-
  The struct api.TCP as data: its cells, its value, a block that holds one. Conditions are each theorem's own.
-/
namespace Go.Proofs.Ytjgcpaepaocigaa
open Go.RowKit Go.ChangeShapes Go.WideShapes

structure PT where
  src : Int
  dst : Int
  seq : Int
  ack : Int
  res : Int
  flags : Int
  win : Int
  urg : Int
  opt : List UInt8
  dat : List UInt8
end Go.Proofs.Ytjgcpaepaocigaa

/-
  Segments of TCP in plain lists of bytes: what may be, its bytes, what bytes are. No program. Conditions are each theorem's own.
-/
namespace Go.Proofs.Ytjgcpaepaocigaa
open Go.RowKit

def argT (q : PT) : Prop := 0 ≤ q.src ∧ q.src ≤ 65535 ∧ 0 ≤ q.dst ∧ q.dst ≤ 65535 ∧ 0 ≤ q.win ∧ q.win ≤ 65535 ∧ 0 ≤ q.urg ∧ q.urg ≤ 65535 ∧ 0 ≤ q.seq ∧ q.seq < 4294967296 ∧ 0 ≤ q.ack ∧ q.ack < 4294967296 ∧
  0 ≤ q.res ∧ q.res ≤ 15 ∧ 0 ≤ q.flags ∧ q.flags ≤ 255 ∧ q.opt.length ≤ 40 ∧ q.opt.length % 4 = 0
instance (q : PT) : Decidable (argT q) := by unfold argT; infer_instance
/-- How many bytes the option at a place has; 0: there is none. -/
def optL (b : List UInt8) (at_ : Nat) : Nat :=
  if b.length ≤ at_ then 0
  else if byt b at_ ≤ 1 then 1
  else if b.length ≤ at_ + 1 ∨ byt b (at_ + 1) < 2 ∨ byt b (at_ + 1) > (b.length : Int) - at_ then 0
  else (byt b (at_ + 1)).toNat
/-- Where options begin, from a place on. -/
def plc (b : List UInt8) : Nat → Nat → List Nat
  | 0, _ => []
  | f + 1, a => if optL b a = 0 then [] else a :: (if byt b a = 0 then [] else plc b f (a + optL b a))
/-- From a place on, with as much as is wanted. -/
def rest (b : List UInt8) (a : Nat) : List Nat := plc b (b.length + 1) a
end Go.Proofs.Ytjgcpaepaocigaa

/-
  Contracts of udp's put, Pseudo, buildHead. Conditions are each theorem's own.
-/
namespace Go.Proofs.Ytjgcpaepaocigaa
open Go.RowKit

end Go.Proofs.Ytjgcpaepaocigaa

/-
  Contracts of layer 7's Check, numbers and Same, the program's and the document's; of the document's mod and Pseudo. Conditions are each theorem's own.
-/
namespace Go.Proofs.Ytjgcpaepaocigaa
open Go.RowKit

end Go.Proofs.Ytjgcpaepaocigaa

/-
  Contracts of layer 7's check and Build, the program's and the document's. Conditions are each theorem's own.
-/
namespace Go.Proofs.Ytjgcpaepaocigaa
open Go.RowKit

end Go.Proofs.Ytjgcpaepaocigaa

/-
  Contracts of the document's Build of layer 7, and of udp's reader. Conditions are each theorem's own.
-/
namespace Go.Proofs.Ytjgcpaepaocigaa
open Go.RowKit

end Go.Proofs.Ytjgcpaepaocigaa

/-
  Contract of udp.Parse. Conditions are each theorem's own.
-/
namespace Go.Proofs.Ytjgcpaepaocigaa
open Go.RowKit

end Go.Proofs.Ytjgcpaepaocigaa

/-
  Contract of the document's Parse of layer 7. Conditions are each theorem's own.
-/
namespace Go.Proofs.Ytjgcpaepaocigaa
open Go.RowKit

end Go.Proofs.Ytjgcpaepaocigaa

/-
  Layer 7's awake, and what Build answers, in one shape. Conditions are each theorem's own.
-/
namespace Go.Proofs.Ytjgcpaepaocigaa
open Go.RowKit

end Go.Proofs.Ytjgcpaepaocigaa

/-
  Contracts of tcp's size, Check, numbers, buildHead, fresh. Conditions are each theorem's own.
-/
namespace Go.Proofs.Ytjgcpaepaocigaa
open Go.RowKit

end Go.Proofs.Ytjgcpaepaocigaa

/-
  Contracts of layer 8's Same, the program's and the document's; of the document's Check. Conditions are each theorem's own.
-/
namespace Go.Proofs.Ytjgcpaepaocigaa
open Go.RowKit

end Go.Proofs.Ytjgcpaepaocigaa

/-
  Contracts of slices.Grow at nil, and of slices.Concat, over bytes. Conditions are each theorem's own.
-/
namespace Go.Proofs.Ytjgcpaepaocigaa
open Go.RowKit

end Go.Proofs.Ytjgcpaepaocigaa

/-
  Contracts of layer 8's Build, the program's and the document's. Conditions are each theorem's own.
-/
namespace Go.Proofs.Ytjgcpaepaocigaa
open Go.RowKit

end Go.Proofs.Ytjgcpaepaocigaa

/-
  Contracts of tcp's reader and readHead. Conditions are each theorem's own.
-/
namespace Go.Proofs.Ytjgcpaepaocigaa
open Go.RowKit

end Go.Proofs.Ytjgcpaepaocigaa

/-
  Contract of tcp.Parse. Conditions are each theorem's own.
-/
namespace Go.Proofs.Ytjgcpaepaocigaa
open Go.RowKit

end Go.Proofs.Ytjgcpaepaocigaa

/-
  Contract of the document's Parse of layer 8. Conditions are each theorem's own.
-/
namespace Go.Proofs.Ytjgcpaepaocigaa
open Go.RowKit

end Go.Proofs.Ytjgcpaepaocigaa

/-
  Contract of tcp.Options and of the iterator that it hands back. Conditions are each theorem's own.
-/
namespace Go.Proofs.Ytjgcpaepaocigaa
open Go.RowKit Go.Shelf
attribute [local go_sem] Oper.semAt_some

end Go.Proofs.Ytjgcpaepaocigaa

/-
  Packets of IPv4 in fragments, in plain lists: options that go with each, the fragments, what fragments are. No program. Conditions are each theorem's own.
-/
namespace Go.Proofs.Ytjgcpaepaocigaa
open Go.RowKit

/-! ### Options -/
/-! ### Fragments -/
/-- As many bytes as fit. -/
def room (mtu : Int) (q : P4) : Int := (mtu - head4 q) - (mtu - head4 q) % 8
/-! ### What fragments are -/
def fol (a b : P4) : Bool := a.mf && a.src == b.src && a.dst == b.dst && a.proto == b.proto && a.id == b.id && (a.off + (a.dat.length : Int) == b.off)
/-- Up to a place each follows the one ahead. -/
def chn (l : List P4) (k : Nat) : Prop := ∀ i, i + 1 < k → fol (l.getD i p4z) (l.getD (i + 1) p4z) = true
instance (l : List P4) (k : Nat) : Decidable (chn l k) := decidable_of_iff (∀ i, i < k - 1 → fol (l.getD i p4z) (l.getD (i + 1) p4z) = true) ⟨fun h i hi => h i (by omega), fun h i hi => h i (by omega)⟩
/-! ### Fragments are the packet -/
end Go.Proofs.Ytjgcpaepaocigaa

/-
  Rows of structs: a slice whose elements fill so many cells each, read at an index, grown by one; what a round that grows one keeps. Conditions are each theorem's own.
-/
namespace Go.Proofs.Ytjgcpaepaocigaa
open Go.RowKit Go.Shelf

section
variable {α : Type} {cl : α → List Value} {sz : Nat}
theorem flat_len (l : List α) (h : ∀ x ∈ l, (cl x).length = sz) : (l.flatMap cl).length = l.length * sz := by
  induction l with
  | nil => simp
  | cons x l ih =>
    rw [List.flatMap_cons, List.length_append, h x (by simp), ih (fun y hy => h y (by simp [hy])), List.length_cons, Nat.add_mul]; omega
theorem flat_at : ∀ (l : List α), (∀ x ∈ l, (cl x).length = sz) → ∀ (j : Nat) (x : α), l[j]? = some x → ∀ (i : Nat) (v : Value), (cl x)[i]? = some v → (l.flatMap cl)[j * sz + i]? = some v
  | [], _, j, x, hx, _, _, _ => by simp at hx
  | y :: l, h, 0, x, hx, i, v, hv => by
    simp only [List.getElem?_cons_zero, Option.some.injEq] at hx
    subst hx
    have hi := (List.getElem?_eq_some_iff.1 hv).1
    rw [List.flatMap_cons, Nat.zero_mul, Nat.zero_add, List.getElem?_append_left hi]; exact hv
  | y :: l, h, j + 1, x, hx, i, v, hv => by
    have hy := h y (by simp)
    rw [List.flatMap_cons, List.getElem?_append_right (by rw [hy, Nat.add_mul]; omega), hy, show (j + 1) * sz + i - sz = j * sz + i from by rw [Nat.add_mul]; omega]
    exact flat_at l (fun z hz => h z (by simp [hz])) j x (by simpa using hx) i v hv
/-- The slice at A reads as these elements; its cells lie below block B. -/
def RdS (cl : α → List Value) (sz : Nat) (w : World) (B : Nat) (A : Option Addr) (l : List α) : Prop :=
  0 < l.length → ∃ b off, A = some ⟨b, off, none⟩ ∧ b < B ∧ ∀ j x, l[j]? = some x → w.rangeAt b (off + j * sz) (cl x)
theorem own_rds {w : World} {base e n : Nat} {v : Value} {xs : List Value} {l : List α} (h : w.ownsRow base e sz v n xs) (hn : n = l.length) (hx : xs = l.flatMap cl) (hl : ∀ x ∈ l, (cl x).length = sz) :
    ∃ A c, v = .slice A l.length c ∧ RdS cl sz w w.heap.size A l ∧ l.length ≤ c := by
  subst hn; subst hx
  rcases h.2 with ⟨rfl, h0⟩ | ⟨g, cap, cur, rfl, hb, hh, hle, _, hs, ht⟩
  · exact ⟨none, 0, by rw [h0], fun hn => by omega, by omega⟩
  · refine ⟨_, cap, rfl, fun _ => ⟨g, 0, rfl, heap_lt hh, fun j x hx i v hv => ?_⟩, hle⟩
    have hf := flat_at l hl j x hx i v hv
    have hcl : j * sz + i < l.length * sz := by
      have := (List.getElem?_eq_some_iff.1 hf).1
      rwa [flat_len l hl] at this
    have := World.ownsRow.cellAt h (j * sz + i) hcl
    rw [hf] at this
    rw [Nat.zero_add]; exact this
end

/-! ### What a round keeps -/

/-! ### One element more -/
end Go.Proofs.Ytjgcpaepaocigaa

/-
  Contracts of cut4's optionSize, each and its iterator. Conditions are each theorem's own.
-/
namespace Go.Proofs.Ytjgcpaepaocigaa
open Go.RowKit Go.Shelf
attribute [local go_sem] Oper.semAt_some

end Go.Proofs.Ytjgcpaepaocigaa

/-
  Contract of tcp.MSS. Conditions are each theorem's own.
-/
namespace Go.Proofs.Ytjgcpaepaocigaa
open Go.RowKit Go.Shelf
attribute [local go_sem] Oper.semAt_some
end Go.Proofs.Ytjgcpaepaocigaa

/-
  Layer 8's awake, and what Build answers, in one shape. Conditions are each theorem's own.
-/
namespace Go.Proofs.Ytjgcpaepaocigaa
open Go.RowKit

end Go.Proofs.Ytjgcpaepaocigaa

/-
  Contracts of the document's Option, Places and MSS of layer 8. Conditions are each theorem's own.
-/
namespace Go.Proofs.Ytjgcpaepaocigaa
open Go.RowKit
end Go.Proofs.Ytjgcpaepaocigaa

/-
  Contract of the document's Places of layer 8. Conditions are each theorem's own.
-/
namespace Go.Proofs.Ytjgcpaepaocigaa
open Go.RowKit
end Go.Proofs.Ytjgcpaepaocigaa

/-
  Contract of the document's MSS of layer 8. Conditions are each theorem's own.
-/
namespace Go.Proofs.Ytjgcpaepaocigaa
open Go.RowKit
end Go.Proofs.Ytjgcpaepaocigaa

/-
  Contracts of Copied: cut4's, and the document's of layer 13. Conditions are each theorem's own.
-/
namespace Go.Proofs.Ytjgcpaepaocigaa
open Go.RowKit Go.Shelf
attribute [local go_sem] Oper.semAt_some

end Go.Proofs.Ytjgcpaepaocigaa

/-
  Contract of cut4's Copied; append onto what a variable's box holds. Conditions are each theorem's own.
-/
namespace Go.Proofs.Ytjgcpaepaocigaa
open Go.RowKit Go.Shelf
attribute [local go_sem] Oper.semAt_some

theorem nat_ne {a b : Nat} (h : (a == b) = false) : a ≠ b := by simpa using h
end Go.Proofs.Ytjgcpaepaocigaa

/-
  Packets of IPv4 as elements of a slice: their cells, what their lists own; contract of cut4's part. Conditions are each theorem's own.
-/
namespace Go.Proofs.Ytjgcpaepaocigaa
open Go.RowKit Go.Shelf

/-- A packet, and where its lists lie. -/
structure X4 where
  q : P4
  A : Option Addr
  c : Nat
  A' : Option Addr
  c' : Nat
end Go.Proofs.Ytjgcpaepaocigaa

/-
  A region that draws its order and calls an iterator's yield: a load is taken ahead where each world of a class gives it the same value; the walk's moves, inside the widest fence. Conditions are each theorem's own.
-/
namespace Go.Proofs.Ytjgcpaepaocigaa
open Go.RowKit

/-! ### A range that never leaves its iterator early -/
end Go.Proofs.Ytjgcpaepaocigaa

/-
  The iterator of cut4's fragments. Conditions are each theorem's own.
-/
namespace Go.Proofs.Ytjgcpaepaocigaa
open Go.RowKit Go.Shelf
attribute [local go_sem] Oper.semAt_some

end Go.Proofs.Ytjgcpaepaocigaa

/-
  Contracts of cut4's fragments and Cut. Conditions are each theorem's own.
-/
namespace Go.Proofs.Ytjgcpaepaocigaa
open Go.RowKit Go.Shelf
attribute [local go_sem] Oper.semAt_some

end Go.Proofs.Ytjgcpaepaocigaa

/-
  Contract of layer 13's helper of the statements: same. Conditions are each theorem's own.
-/
namespace Go.Proofs.Ytjgcpaepaocigaa
open Go.RowKit Go.Shelf

instance : DecidableEq P4 := fun q r => decidable_of_iff (same4 q r = true) same4_iff
end Go.Proofs.Ytjgcpaepaocigaa

/-
  Contracts of cut4's follows, and of the document's fits of layer 13. Conditions are each theorem's own.
-/
namespace Go.Proofs.Ytjgcpaepaocigaa
open Go.RowKit Go.Shelf

end Go.Proofs.Ytjgcpaepaocigaa

/-
  A region that draws its order, loads, and then stores into what it loaded: a load is taken ahead as long as a certain store has not come up; the walk's moves. Conditions are each theorem's own.
-/
namespace Go.Proofs.Ytjgcpaepaocigaa
open Go.RowKit

end Go.Proofs.Ytjgcpaepaocigaa

/-
  Contract of the document's Cut of layer 13. Conditions are each theorem's own.
-/
namespace Go.Proofs.Ytjgcpaepaocigaa
open Go.RowKit Go.Shelf

end Go.Proofs.Ytjgcpaepaocigaa

/-
  Two facts of packets of IPv4 in fragments. No program. Conditions are each theorem's own.
-/
namespace Go.Proofs.Ytjgcpaepaocigaa
open Go.RowKit

end Go.Proofs.Ytjgcpaepaocigaa

/-
  Contract of the document's Glue of layer 13. Conditions are each theorem's own.
-/
namespace Go.Proofs.Ytjgcpaepaocigaa
open Go.RowKit Go.Shelf

end Go.Proofs.Ytjgcpaepaocigaa

/-
  Parts as they lie in memory; contracts of the document's answers of layer 15 that read them. Conditions are each theorem's own.
-/
namespace Go.Proofs.Ytjgcpaepaocigaa
open Go.RowKit Go.Shelf

end Go.Proofs.Ytjgcpaepaocigaa

/-
  Contracts of the document's same, shares and Room of layer 15. Conditions are each theorem's own.
-/
namespace Go.Proofs.Ytjgcpaepaocigaa
open Go.RowKit Go.Shelf

end Go.Proofs.Ytjgcpaepaocigaa

/-
  Contracts of what the code of layer 15 asks of single parts. Conditions are each theorem's own.
-/
namespace Go.Proofs.Ytjgcpaepaocigaa
open Go.RowKit Go.Shelf

theorem cells_at {w : World} {g i : Nat} {cs : Array Value} {ty : TypeId} {fr : Nat × Nat} {v : Value} (h : w.heap[g]? = some (.cells cs ty fr)) (hi : cs[i]? = some v) : w.cell? ⟨g, i, none⟩ = some v := by
  simp [World.cell?, h, hi]
end Go.Proofs.Ytjgcpaepaocigaa

/-
  Contracts of meets, of the library's ContainsFunc at parts, of place and near of layer 15. Conditions are each theorem's own.
-/
namespace Go.Proofs.Ytjgcpaepaocigaa
open Go.RowKit Go.Shelf
/-! ### ContainsFunc -/
/-! ### Search -/
end Go.Proofs.Ytjgcpaepaocigaa

/-
  Parts that the code keeps, as they lie in memory; contracts of isMade, place and near of layer 15. Conditions are each theorem's own.
-/
namespace Go.Proofs.Ytjgcpaepaocigaa
open Go.RowKit Go.Shelf
end Go.Proofs.Ytjgcpaepaocigaa

/-
  Contracts of the document's Room and Add of layer 15. Conditions are each theorem's own.
-/
namespace Go.Proofs.Ytjgcpaepaocigaa
open Go.RowKit Go.Shelf

end Go.Proofs.Ytjgcpaepaocigaa

/-
  A part put into a row of parts: the library's Insert, read off its text. What is kept where some blocks are written. Conditions are each theorem's own.
-/
namespace Go.Proofs.Ytjgcpaepaocigaa
open Go.RowKit Go.Shelf

/-- All blocks but some lie as they lay. -/
structure Kept (S : Nat → Prop) (w w' : World) : Prop where
  os : w'.os = w.os
  tape : w'.tape = w.tape
  output : w'.output = w.output
  size : w.heap.size ≤ w'.heap.size
  block : ∀ k, k < w.heap.size → ¬ S k → w'.heap[k]? = w.heap[k]?
section
variable {S T : Nat → Prop} {a b c : World}
theorem Kept.of_below (h : Below a.heap.size a b) : Kept S a b := ⟨h.os, h.tape, h.output, h.size, fun k hk _ => h.block k hk⟩
theorem Kept.refl (a : World) : Kept S a a := Kept.of_below (Below.refl _ a)
theorem Kept.trans (h : Kept S a b) (k : Kept T b c) (hT : ∀ i, i < a.heap.size → T i → S i) : Kept S a c :=
  ⟨k.os.trans h.os, k.tape.trans h.tape, k.output.trans h.output, Nat.le_trans h.size k.size,
   fun i hi hs => (k.block i (Nat.lt_of_lt_of_le hi h.size) (fun t => hs (hT i hi t))).trans (h.block i hi hs)⟩
theorem Kept.then_below (h : Kept S a b) (k : Below b.heap.size b c) : Kept S a c := h.trans (T := fun _ => False) (Kept.of_below k) (fun _ _ f => f.elim)
theorem Kept.mono (h : Kept S a b) (hS : ∀ i, i < a.heap.size → S i → T i) : Kept T a b := ⟨h.os, h.tape, h.output, h.size, fun k hk hn => h.block k hk (fun s => hn (hS k hk s))⟩
theorem Kept.below {B : Nat} (h : Kept S a b) (hB : B ≤ a.heap.size) (hS : ∀ i, S i → B ≤ i) : Below B a b := ⟨h.os, h.tape, h.output, h.size, fun k hk => h.block k (by omega) (fun s => by have := hS k s; omega)⟩
theorem Kept.of_grown {r : Option Nat} (h : a.grownBy b r) : Kept (fun k => some k = r) a b := ⟨h.os, h.tape, h.output, h.size, fun k hk hn => h.block k hk hn⟩
theorem Kept.drew (w : World) : Kept S w w.drew := Kept.of_below (Below.refl _ w).drew
end
end Go.Proofs.Ytjgcpaepaocigaa

/-
  A part put into a row of parts: the library's Insert where there is no room, and at the end. Conditions are each theorem's own.
-/
namespace Go.Proofs.Ytjgcpaepaocigaa
open Go.RowKit Go.Shelf
end Go.Proofs.Ytjgcpaepaocigaa

/-
  A region that draws its order and stores last: two operations may come up; the walk's moves. Conditions are each theorem's own.
-/
namespace Go.Proofs.Ytjgcpaepaocigaa
open Go.RowKit
end Go.Proofs.Ytjgcpaepaocigaa

/-
  One part more is kept: what keep of layer 15 leaves. Conditions are each theorem's own.
-/
namespace Go.Proofs.Ytjgcpaepaocigaa
open Go.RowKit Go.Shelf
theorem Kept.setCell (w : World) (g i : Nat) (v : Value) : Kept (fun k => k = g) w (w.setCell ⟨g, i, none⟩ v) := ⟨rfl, rfl, rfl, by simp, fun k _ hn => heap_setCell_other w ⟨g, i, none⟩ k v hn⟩
theorem own_keptT {S : Nat → Prop} {w w' : World} {b e s n : Nat} {v : Value} {xs : List Value} (h : w.ownsRow b e s v n xs) (k : Kept S w w') (hS : ∀ g, S g → ∀ cs fr, w.heap[g]? ≠ some (.cells cs e fr)) : w'.ownsRow b e s v n xs := by
  refine ⟨h.1, ?_⟩
  rcases h.2 with hn | ⟨g, cap, cur, hv, hb, hg, rest⟩
  · exact .inl hn
  · exact .inr ⟨g, cap, cur, hv, hb, (k.block g (heap_lt hg) (fun s => hS g s _ _ hg)).trans hg, rest⟩
end Go.Proofs.Ytjgcpaepaocigaa

/-
  Contracts of New, Bytes, Room and Add of layer 15's code. Conditions are each theorem's own.
-/
namespace Go.Proofs.Ytjgcpaepaocigaa
open Go.RowKit Go.Shelf
end Go.Proofs.Ytjgcpaepaocigaa

/-
  Contract of Add of layer 15's code. Conditions are each theorem's own.
-/
namespace Go.Proofs.Ytjgcpaepaocigaa
open Go.RowKit Go.Shelf
end Go.Proofs.Ytjgcpaepaocigaa

/-
  The spans between parts, as the iterator of layer 15's code hands them over. Conditions are each theorem's own.
-/
namespace Go.Proofs.Ytjgcpaepaocigaa
open Go.RowKit Go.Shelf
attribute [local go_sem] Oper.semAt_some
end Go.Proofs.Ytjgcpaepaocigaa

/-
  Contracts of gaps, Gaps and Done of layer 15's code. Conditions are each theorem's own.
-/
namespace Go.Proofs.Ytjgcpaepaocigaa
open Go.RowKit Go.Shelf
attribute [local go_sem] Oper.semAt_some
end Go.Proofs.Ytjgcpaepaocigaa

/-
  awake of layer 15. Conditions are each theorem's own.
-/
namespace Go.Proofs.Ytjgcpaepaocigaa
open Go.RowKit Go.Shelf
end Go.Proofs.Ytjgcpaepaocigaa

/-
  What no call made, of layer 15; Clone of parts, Gaps. Conditions are each theorem's own.
-/
namespace Go.Proofs.Ytjgcpaepaocigaa
open Go.RowKit Go.Shelf
end Go.Proofs.Ytjgcpaepaocigaa

/-
  A wheel of layer 17 in memory: its block, the map of what is armed; New, isMade, Len, within. Conditions are each theorem's own.
-/
namespace Go.Proofs.Ytjgcpaepaocigaa
open Go.RowKit Go.Shelf Go.Maps Go.WideMaps
/-! ### The ids that are armed -/
/-- How a pointer in a map reads: it doesn't matter where it points. -/
def ptE : Value → Option (DataW Unit × List MemPlace)
  | .pointer _ => some (.agg [], [])
  | _ => none
theorem ptE_inv {v : Value} {z : DataW Unit × List MemPlace} (h : ptE v = some z) : ∃ a, v = .pointer a := by
  unfold ptE at h
  split at h
  · exact ⟨_, rfl⟩
  · cases h
theorem zeroPt (w : World) : (zeroValue 57).run Try.prog w = .ok (.pointer none) w := by kernel_rfl
def wfW (a : Int) : Prop := -9223372036854775808 ≤ a ∧ a ≤ 9223372036854775807
theorem wfW_lit {a : Int} (h : wfW a) : (Lit.int .i64 a).wf = true := by
  unfold wfW at h
  simp [Lit.wf, IntKind.min, IntKind.max, IntKind.bits, IntKind.signed]; omega
theorem kintW : Keyed Try.prog 3 := int_keyed Try.underlying3
theorem kintKW {a : Int} (h : wfW a) : keyOf Try.prog 3 (.int .i64 a) = some (.int .i64 a) := keyOf_int_mk Try.underlying3 (wfW_lit h)
/-- Block b holds the ids L. -/
def Iw (w : World) (b n : Nat) (L : List Int) : Prop :=
  ∃ D : DataW Unit, w.ownsMap Try.prog 3 ptE b n D ∧ (∀ x, wfW x → Maps.has D (.int .i64 x) = L.contains x) ∧ Maps.size D = L.length ∧ L.Nodup ∧ ∀ x ∈ L, wfW x
section
variable {w w' : World} {b n : Nat} {L : List Int}
theorem Iw.made (w : World) : Iw (w.alloc (.map #[] 0)) w.heap.size 0 [] := ⟨_, World.ownsMap_made w _ _ _, fun _ _ => rfl, rfl, List.nodup_nil, fun _ h => by cases h⟩
theorem Iw.of_block (h : Iw w b n L) (e : w'.heap[b]? = w.heap[b]?) : Iw w' b n L := by
  obtain ⟨D, ⟨es, clock, hb, F, hs, hD⟩, hc⟩ := h
  exact ⟨D, ⟨es, clock, e.trans hb, F, hs, hD⟩, hc⟩
theorem Iw.lt (h : Iw w b n L) : b < w.heap.size := by
  obtain ⟨D, ho, _⟩ := h
  exact ho.lt
theorem Iw.is (h : Iw w b n L) : ∃ es clock, w.heap[b]? = some (.map es clock) := by
  obtain ⟨D, ⟨es, clock, hb, _⟩, _⟩ := h
  exact ⟨es, clock, hb⟩
theorem Iw.look (h : Iw w b n L) {x : Int} (hx : wfW x) :
    ∃ a, (Instr.lookup 56 (.map (some b)) (.int .i64 x) true).run Try.prog w = .ok (.tuple #[.pointer a, .bool (L.contains x)]) w := by
  obtain ⟨D, ho, hc, _⟩ := h
  obtain ⟨v, ps, hrun, hv⟩ := ho.look_ok kintW Try.underlying56 (zeroPt w) (zd := .agg []) (zp := []) rfl (kintKW hx)
  obtain ⟨a, rfl⟩ := ptE_inv hv
  exact ⟨a, by rw [hrun, hc x hx]⟩
theorem Iw.put (h : Iw w b n L) (hn : n < maxLen) {x : Int} (hx : wfW x) (hno : L.contains x = false) (a : Option Addr) :
    ∃ w', (Instr.mapUpdate 56 (.map (some b)) (.int .i64 x) (.pointer a)).run Try.prog w = .ok () w' ∧ Iw w' b (n + 1) (x :: L) ∧ w.grownBy w' (some b) := by
  obtain ⟨D, ho, hc, hz, hnd, hw⟩ := h
  obtain ⟨w', hrun, ho', hg⟩ := ho.update kintW Try.underlying56 hn (kintKW hx) (val := .pointer a) (show ptE (.pointer a) = some (.agg [], []) from rfl)
  refine ⟨w', hrun, ⟨_, ho', fun y hy => ?_, ?_, ?_, ?_⟩, hg⟩
  · have hM := ho.isMap
    by_cases e : y = x
    · subst e
      rw [has_put_same hM (kintW.key (kintKW hx))]
      simp
    · have hne : Lit.int .i64 y ≠ .int .i64 x := fun e2 => e (by injection e2)
      rw [has_put_other hne, hc y hy]
      simp [e]
  · rw [size_put (ho.tidy kintW), hc x hx, hno, hz]; simp
  · exact List.nodup_cons.2 ⟨(fun hm => by rw [List.contains_iff_mem.2 hm] at hno; cases hno), hnd⟩
  · intro y hy
    rcases List.mem_cons.1 hy with rfl | hy
    · exact hx
    · exact hw y hy
theorem Iw.drop (h : Iw w b n L) {x : Int} (hx : x ∈ L) (ty : TypeId) : ∃ w', (Builtin.delete_ #[56, 3] ty #[.map (some b), .int .i64 x]).run Try.prog w = .ok (.tuple #[]) w' ∧ Iw w' b n (L.erase x) ∧ w.grownBy w' (some b) := by
  obtain ⟨D, ho, hc, hz, hnd, hw⟩ := h
  have hxw := hw x hx
  obtain ⟨w', hrun, ho', hg⟩ := ho.drop kintW Try.underlying56 (kintKW hxw) ty
  refine ⟨w', hrun, ⟨_, ho', fun y hy => ?_, ?_, hnd.erase x, fun y hy => hw y (List.mem_of_mem_erase hy)⟩, hg.grown⟩
  · by_cases e : y = x
    · subst e
      rw [has_del_same]
      symm
      rw [Bool.eq_false_iff]
      intro h2
      rw [List.contains_iff_mem] at h2
      exact (hnd.not_mem_erase) h2
    · have hne : Lit.int .i64 y ≠ .int .i64 x := fun e2 => e (by injection e2)
      rw [has_del_other hne, hc y hy, Bool.eq_iff_iff, List.contains_iff_mem, List.contains_iff_mem, List.mem_erase_of_ne e]
  · have h1 := size_del (k := .int .i64 x) (ho.tidy kintW)
    rw [hc x hxw, List.contains_iff_mem.2 hx, if_pos rfl, hz] at h1
    rw [List.length_erase_of_mem hx]
    omega
theorem Iw.len (h : Iw w b n L) (ty : TypeId) : (Builtin.len_ #[56] ty #[.map (some b)]).run Try.prog w = .ok (.int .i64 (L.length : Nat)) w := by
  obtain ⟨D, ho, hc, hz, _⟩ := h
  rw [ho.len Try.underlying56 ty, hz]
end
/-! ### The wheel's block -/
def pT (o : Option Nat) : Value := .pointer (o.map fun b => ⟨b, 0, none⟩)
def wz (M : Nat) (n : Int) : Array Value := Array.replicate 896 (.pointer none) ++ #[.map (some M), .int .i64 n, .int .i64 0]
/-- A wheel's block: which timer each slot holds, if any. -/
structure Wb (w : World) (d M : Nat) (most now : Int) (T : Nat → Option Nat) : Prop where
  obj : ∃ cs : Array Value, w.heap[d]? = some (.cells cs 64 (0, 0)) ∧ cs.size = 899 ∧ (∀ q, q < 448 → cs[2 * q]? = some (pT (T q)) ∧ cs[2 * q + 1]? = some (pT (T q))) ∧ cs[896]? = some (.map (some M)) ∧ cs[897]? = some (.int .i64 most) ∧ cs[898]? = some (.int .i64 now)
section
variable {w w' : World} {d M : Nat} {most now : Int} {T : Nat → Option Nat}
theorem Wb.of_block (h : Wb w d M most now T) (e : w'.heap[d]? = w.heap[d]?) : Wb w' d M most now T := by
  obtain ⟨cs, h1, h2⟩ := h.obj
  exact ⟨cs, e.trans h1, h2⟩
theorem Wb.is (h : Wb w d M most now T) : ∃ cs, w.heap[d]? = some (.cells cs 64 (0, 0)) := by
  obtain ⟨cs, h1, _⟩ := h.obj
  exact ⟨cs, h1⟩
theorem Wb.lt (h : Wb w d M most now T) : d < w.heap.size := by obtain ⟨cs, h1⟩ := h.is; exact heap_lt h1
theorem Wb.l0 (h : Wb w d M most now T) {q : Nat} (hq : q < 448) : w.cell? ⟨d, 2 * q, none⟩ = some (pT (T q)) := by
  obtain ⟨cs, h1, _, h3, _⟩ := h.obj
  exact cells_at h1 (h3 q hq).1
theorem Wb.l1 (h : Wb w d M most now T) {q : Nat} (hq : q < 448) : w.cell? ⟨d, 2 * q + 1, none⟩ = some (pT (T q)) := by
  obtain ⟨cs, h1, _, h3, _⟩ := h.obj
  exact cells_at h1 (h3 q hq).2
theorem Wb.cm (h : Wb w d M most now T) : w.cell? ⟨d, 896, none⟩ = some (.map (some M)) := by
  obtain ⟨cs, h1, _, _, h4, _⟩ := h.obj
  exact cells_at h1 h4
theorem Wb.cmo (h : Wb w d M most now T) : w.cell? ⟨d, 897, none⟩ = some (.int .i64 most) := by
  obtain ⟨cs, h1, _, _, _, h4, _⟩ := h.obj
  exact cells_at h1 h4
theorem Wb.cn (h : Wb w d M most now T) : w.cell? ⟨d, 898, none⟩ = some (.int .i64 now) := by
  obtain ⟨cs, h1, _, _, _, _, h4⟩ := h.obj
  exact cells_at h1 h4
theorem Wb.fr (h : Wb w d M most now T) (i : Nat) : w.frozen? ⟨d, i, none⟩ = false := by
  obtain ⟨cs, h1⟩ := h.is
  exact heap_frozen h1 i
def setT (T : Nat → Option Nat) (q : Nat) (o : Option Nat) : Nat → Option Nat := fun k => if k = q then o else T k
theorem Wb.line (h : Wb w d M most now T) {q : Nat} (hq : q < 448) (o : Option Nat) : Wb ((w.setCell ⟨d, 2 * q, none⟩ (pT o)).setCell ⟨d, 2 * q + 1, none⟩ (pT o)) d M most now (setT T q o) := by
  obtain ⟨cs, h1, h2, h3, h4, h5, h6⟩ := h.obj
  have g1 := heap_setCell_same w d (2 * q) cs _ (pT o) h1
  have g2 := heap_setCell_same _ d (2 * q + 1) _ _ (pT o) g1
  refine ⟨_, g2, by simpa using h2, fun k hk => ?_, ?_, ?_, ?_⟩
  · unfold setT
    by_cases e : k = q
    · subst e
      simp only [if_true]
      constructor
      · rw [Array.getElem?_setIfInBounds_ne (by omega), Array.getElem?_setIfInBounds_self_of_lt (by omega)]
      · rw [Array.getElem?_setIfInBounds_self_of_lt (by simp; omega)]
    · rw [if_neg e]
      constructor
      · rw [Array.getElem?_setIfInBounds_ne (by omega), Array.getElem?_setIfInBounds_ne (by omega)]; exact (h3 k hk).1
      · rw [Array.getElem?_setIfInBounds_ne (by omega), Array.getElem?_setIfInBounds_ne (by omega)]; exact (h3 k hk).2
  all_goals (rw [Array.getElem?_setIfInBounds_ne (by omega), Array.getElem?_setIfInBounds_ne (by omega)]; assumption)
theorem Wb.time (h : Wb w d M most now T) (n : Int) : Wb (w.setCell ⟨d, 898, none⟩ (.int .i64 n)) d M most n T := by
  obtain ⟨cs, h1, h2, h3, h4, h5, h6⟩ := h.obj
  have g1 := heap_setCell_same w d 898 cs _ (.int .i64 n) h1
  refine ⟨_, g1, by simpa using h2, fun k hk => ⟨?_, ?_⟩, ?_, ?_, ?_⟩
  · rw [Array.getElem?_setIfInBounds_ne (by omega)]; exact (h3 k hk).1
  · rw [Array.getElem?_setIfInBounds_ne (by omega)]; exact (h3 k hk).2
  · rw [Array.getElem?_setIfInBounds_ne (by omega)]; exact h4
  · rw [Array.getElem?_setIfInBounds_ne (by omega)]; exact h5
  · rw [Array.getElem?_setIfInBounds_self_of_lt (by omega)]
theorem wz_size (M : Nat) (n : Int) : (wz M n).size = 899 := by simp [wz]
theorem Wb.new (w : World) (M : Nat) (n : Int) : Wb (w.alloc (.cells (wz M n) 64)) w.heap.size M n 0 (fun _ => none) := by
  refine ⟨_, World.alloc_heap_new w _, wz_size M n, fun q hq => ⟨?_, ?_⟩, ?_, ?_, ?_⟩
  · unfold wz
    rw [Array.getElem?_append_left (by simp; omega), Array.getElem?_replicate, if_pos (by omega)]; rfl
  · unfold wz
    rw [Array.getElem?_append_left (by simp; omega), Array.getElem?_replicate, if_pos (by omega)]; rfl
  · unfold wz
    rw [Array.getElem?_append_right (by simp)]; simp
  · unfold wz
    rw [Array.getElem?_append_right (by simp)]; simp
  · unfold wz
    rw [Array.getElem?_append_right (by simp)]; simp
end
end Go.Proofs.Ytjgcpaepaocigaa

/-
  The small functions of layer 17: within, isMade, Len, New, stand, leave. Conditions are each theorem's own.
-/
namespace Go.Proofs.Ytjgcpaepaocigaa
open Go.RowKit Go.Shelf Go.Maps Go.WideMaps
theorem wwithin (n lo hi : Int) (w : World) : Calls Try.prog 26 #[.int .i64 n, .int .i64 lo, .int .i64 hi] w fun e w' => e = .returned (.bool (decide (lo ≤ n) && decide (n ≤ hi))) ∧ w = w' := by
  cases d1 : decide (lo ≤ n) with
  | true =>
    go_enter Try.func26, Try.ntmps26
    go_wp2
    go_ret
    exact ⟨by simp, rfl⟩
  | false =>
    go_enter Try.func26, Try.ntmps26
    go_wp2
    go_ret
    exact ⟨by simp, rfl⟩
theorem eqin_mapW {P : Program} (w : World) (d : Nat) (t k e : TypeId) (r : Option Nat) (h : P.underlying t = some (.map k e)) : (Op.equalIn (d + 1) t (.map r) (.map none)).run P w = .ok r.isNone w := by
  cases r <;> simp [Op.equalIn, run_underlying h]
theorem neq_mapW {P : Program} (w : World) (t k e : TypeId) (r : Option Nat) (h : P.underlying t = some (.map k e)) : (binOp .neq t (.map r) (.map none)).run P w = .ok (.bool (!r.isNone)) w := by
  simp only [binOp]
  simp [Op.equal, Op.maxDepth, eqin_mapW w 9999 t k e r h]
theorem nmW (W : World) (r : Option Nat) : (binOp .neq 56 (.map r) (.map none)).run Try.prog W = .ok (.bool (!r.isNone)) W := neq_mapW W _ _ _ r Try.underlying56
theorem run_lookW {o : Oper} {a : Act} {w : World} {T : TypeId} {m x : Operand} {b : Nat} {key c : Value} (ho : o.op = .lookup T m x true) (hm : a.eval m = .map (some b)) (hx : a.eval x = key)
    (h : (Instr.lookup T (.map (some b)) key true).run Try.prog w = .ok c w) : (execOp a.eval o).run Try.prog w = .ok (.value c) w := by
  unfold execOp
  simp only [ho, hm, hx, Sem.run_bind, Sem.run_pure, h, Result.andThen_ok]
section
variable {w w' : World} {d M : Nat} {most now : Int} {T : Nat → Option Nat} {n : Nat} {L : List Int}
set_option maxRecDepth 100000 in
theorem wmade (h : Wb w d M most now T) : Calls Try.prog 27 #[.pointer (some ⟨d, 0, none⟩)] w fun e w' => e = .returned (.bool true) ∧ w = w' := by
  have k3 := h.cm
  have qT := nmW w
  clear h
  go_enter Try.func27, Try.ntmps27
  go_wp2
  go_ret
  exact ⟨rfl, rfl⟩
set_option maxRecDepth 100000 in
theorem wlen (h : Wb w d M most now T) (hI : Iw w M n L) : Calls Try.prog 25 #[.pointer (some ⟨d, 0, none⟩)] w fun e w' => e = .returned (.int .i64 (L.length : Nat)) ∧ w = w' := by
  have k3 := h.cm
  have hl := hI.len
  have HM := Lib.hid (wmade h)
  clear hI h
  go_enter Try.func25, Try.ntmps25
  go_wp2_with (go_at_call 27; refine HM.out.mono ?_; rintro e w1 ⟨rfl, rfl⟩)
  go_ret
  exact ⟨rfl, rfl⟩
end
set_option maxRecDepth 100000 in
theorem run_buildW {o : Oper} {a : Act} {w : World} {x y : Operand} {M : Nat} {n : Int} (ho : o.op = .build 64 #[(1, x), (2, y)]) (hx : a.eval x = .map (some M)) (hy : a.eval y = .int .i64 n) :
    (execOp a.eval o).run Try.prog w = .ok (.value (.agg (wz M n))) w := by
  have e : (Array.map (fun y : Nat × Operand => (y.1, a.eval y.2)) #[(1, x), (2, y)]) = #[(1, .map (some M)), (2, .int .i64 n)] := by simp [hx, hy]
  have hb : (Instr.build 64 #[(1, .map (some M)), (2, .int .i64 n)]).run Try.prog w = .ok (.agg (wz M n)) w := by kernel_rfl
  unfold execOp
  simp only [ho, e, Sem.run_bind, hb]
  rfl
end Go.Proofs.Ytjgcpaepaocigaa

/-
  New, stand, leave of layer 17. Conditions are each theorem's own.
-/
namespace Go.Proofs.Ytjgcpaepaocigaa
open Go.RowKit Go.Shelf Go.Maps Go.WideMaps
/-- A timer's cells. -/
def tmC (id at_ : Int) (l : Option Addr) : Array Value := #[.int .i64 id, .int .i64 at_, .pointer l, .pointer none, .pointer none]
set_option maxRecDepth 100000 in
theorem wnew (most : Int) (w : World) (h0 : 0 ≤ most) (h1 : most ≤ 1048576) : Calls Try.prog 8 #[.int .i64 most] w fun e w' =>
    ∃ d M, e = .returned (.tuple #[.pointer (some ⟨d, 0, none⟩), .int .i64 0]) ∧ Wb w' d M most 0 (fun _ => none) ∧ Iw w' M 0 [] ∧ Below w.heap.size w w' ∧ w.heap.size ≤ d ∧ w.heap.size ≤ M ∧ d ≠ M := by
  have d1 : (decide ((0 : Int) ≤ most) && decide (most ≤ 1048576)) = true := by simp [h0, h1]
  have HD := Lib.hid d1
  have hmm := @run_makeMap Try.prog
  have hW := Wb.new (w.alloc (.map #[] 0)) w.heap.size most
  have hI := (Iw.made w).of_block (w' := (w.alloc (.map #[] 0)).alloc (.cells (wz w.heap.size most) 64)) (Below.heap_alloc _ _ _ (by simp))
  have hB := ((Below.refl w.heap.size w).alloc (Nat.le_refl _) (.map #[] 0)).alloc (by simp) (.cells (wz w.heap.size most) 64)
  have HR := Lib.hid (And.intro hW (And.intro hI hB))
  have hsz := wz_size w.heap.size most
  clear h0 h1 d1 hW hI hB
  go_enter Try.func8, Try.ntmps8
  go_upto_region 3 with (go_at_call 26; refine (wwithin _ _ _ _).mono ?_; rintro e w1 ⟨rfl, rfl⟩; rw [HD.out])

  go_wp2_with ((with_reducible show wpList _ _ _ (Oper.mk _ (Op.build 64 _) _ _ _ _ :: _) _ _); refine wpList_val rfl (run_buildW rfl rfl rfl) ?_)
  obtain ⟨hW, hI, hB⟩ := HR.out
  rw [World.size_alloc] at hW
  exact bodyPost_ret (results_tmp2 rfl _ _ _) rfl ⟨w.heap.size + 1, w.heap.size, rfl, hW, hI, hB, by omega, Nat.le_refl _, by omega⟩
section
variable {w w' : World} {d M b q : Nat} {most now id at_ : Int} {T : Nat → Option Nat}
set_option maxRecDepth 100000 in
theorem wstand (h : Wb w d M most now T) (hq : q < 448) (hT : T q = none) (ht : w.heap[b]? = some (.cells (tmC id at_ none) 68 (0, 0))) :
    Calls Try.prog 29 #[.pointer (some ⟨b, 0, none⟩), .pointer (some ⟨d, 2 * q, none⟩)] w fun e w' => e = .returned (.tuple #[]) ∧
      Wb w' d M most now (setT T q (some b)) ∧ w'.heap[b]? = some (.cells (tmC id at_ (some ⟨d, 2 * q, none⟩)) 68 (0, 0)) ∧ Kept (fun k => k = b ∨ k = d) w w' := by
  have hdb : d ≠ b := by
    obtain ⟨cs, h1⟩ := h.is
    exact fun e => by
      subst e
      rw [h1] at ht
      injection ht with ht
      injection ht with _ e2 _
      exact absurd e2 (nat_ne (by kernel_rfl))
  have k1 : w.cell? ⟨d, 2 * q + 1, none⟩ = some (.pointer none) := by have := h.l1 hq; rwa [hT] at this
  have k0 : w.cell? ⟨d, 2 * q, none⟩ = some (.pointer none) := by have := h.l0 hq; rwa [hT] at this
  have t2 : w.cell? ⟨b, 2, none⟩ = some (.pointer none) := cells_at ht rfl
  have t3 : w.cell? ⟨b, 3, none⟩ = some (.pointer none) := cells_at ht rfl
  have f2 := heap_frozen ht 2
  have f3 := heap_frozen ht 3
  have fd0 := h.fr (2 * q)
  have fd1 := h.fr (2 * q + 1)
  have H := Lib.hid h
  clear h
  go_enter Try.func29, Try.ntmps29
  go_upto_region 1 with fail
  have g1 := heap_setCell_same w b 2 _ _ (.pointer (some ⟨d, 2 * q, none⟩)) ht
  have g2 := heap_setCell_same _ b 3 _ _ (.pointer none) g1
  have kp : Kept (fun k => k = b) w ((w.setCell ⟨b, 2, none⟩ (.pointer (some ⟨d, 2 * q, none⟩))).setCell ⟨b, 3, none⟩ (.pointer none)) := (Kept.setCell w b 2 _).trans (Kept.setCell _ b 3 _) (fun _ _ e => e)
  have g3 : ((w.setCell ⟨b, 2, none⟩ (.pointer (some ⟨d, 2 * q, none⟩))).setCell ⟨b, 3, none⟩ (.pointer none)).heap[b]? = some (.cells (tmC id at_ (some ⟨d, 2 * q, none⟩)) 68 (0, 0)) := g2
  generalize (w.setCell ⟨b, 2, none⟩ (.pointer (some ⟨d, 2 * q, none⟩))).setCell ⟨b, 3, none⟩ (.pointer none) = V at *
  have HV := H.out.of_block (kp.block d H.out.lt hdb)
  have k1 : V.cell? ⟨d, 2 * q + 1, none⟩ = some (.pointer none) := by have := HV.l1 hq; rwa [hT] at this
  have k0 : V.cell? ⟨d, 2 * q, none⟩ = some (.pointer none) := by have := HV.l0 hq; rwa [hT] at this
  have fd0 := HV.fr (2 * q)
  have fd1 := HV.fr (2 * q + 1)
  have HVH := Lib.hid HV
  have HG := Lib.hid g3
  have HK := Lib.hid kp
  clear g1 g2 g3 kp HV t2 t3 f2 f3
  go_wp2
  refine bodyPost_end (results_none rfl _ _ _) rfl ?_
  have kd : Kept (fun k => k = d) V ((V.setCell ⟨d, 2 * q, none⟩ (pT (some b))).setCell ⟨d, 2 * q + 1, none⟩ (pT (some b))) := (Kept.setCell V d (2 * q) _).trans (Kept.setCell _ d (2 * q + 1) _) (fun _ _ e => e)
  exact ⟨rfl, HVH.out.line hq (some b), (kd.block b (heap_lt HG.out) (fun e => hdb e.symm)).trans HG.out, (HK.out.mono (fun _ _ e => .inl e)).trans kd (fun _ _ e => .inr e)⟩
end
section
variable {o : Oper} {a : Act} {w : World} {x y : Operand} {p : Addr} {A : Option Addr}
theorem run_load_plW (ho : o.op = .load 66 x) (hx : a.eval x = .pointer (some p)) (hc : w.cell? p = some (.pointer A)) :
    (execOp a.eval o).run Try.prog w = .ok (.value (.pointer A)) w := by
  unfold execOp
  simp only [ho, hx, Instr.loadAt, Instr.sureAddr, Sem.run_bind, Sem.run_pure, Result.andThen_ok]
  go_simp
theorem run_load_ptW (ho : o.op = .load 57 x) (hx : a.eval x = .pointer (some p)) (hc : w.cell? p = some (.pointer A)) :
    (execOp a.eval o).run Try.prog w = .ok (.value (.pointer A)) w := by
  unfold execOp
  simp only [ho, hx, Instr.loadAt, Instr.sureAddr, Sem.run_bind, Sem.run_pure, Result.andThen_ok]
  go_simp
theorem run_load_mpW {m : Option Nat} (ho : o.op = .load 56 x) (hx : a.eval x = .pointer (some p)) (hc : w.cell? p = some (.map m)) :
    (execOp a.eval o).run Try.prog w = .ok (.value (.map m)) w := by
  unfold execOp
  simp only [ho, hx, Instr.loadAt, Instr.sureAddr, Sem.run_bind, Sem.run_pure, Result.andThen_ok]
  go_simp
theorem store_ptW_wp {K : Act → World → Prop} {Q : Exit → Act → World → Prop} {v0 : Value} (ho : o.op = .store 57 x y) (hx : a.eval x = .pointer (some p)) (hy : a.eval y = .pointer A) (hc : w.cell? p = some v0) (hf : w.frozen? p = false) (h : K (a.put o.dst undef) (w.setCell p (.pointer A))) : o.wp Try.prog a w K Q := by
  unfold Oper.wp execOp
  simp only [ho, hx, hy]
  go_simp
  exact h
end
section
variable {w w' : World} {d M b q : Nat} {most now id at_ : Int} {T : Nat → Option Nat}
set_option maxRecDepth 100000 in
theorem wleave (h : Wb w d M most now T) (hq : q < 448) (hT : T q = some b) (ht : w.heap[b]? = some (.cells (tmC id at_ (some ⟨d, 2 * q, none⟩)) 68 (0, 0))) :
    Calls Try.prog 28 #[.pointer (some ⟨b, 0, none⟩)] w fun e w' => e = .returned (.tuple #[]) ∧
      Wb w' d M most now (setT T q none) ∧ w'.heap[b]? = some (.cells (tmC id at_ none) 68 (0, 0)) ∧ Kept (fun k => k = b ∨ k = d) w w' := by
  have hdb : d ≠ b := by
    obtain ⟨cs, h1⟩ := h.is
    exact fun e => by
      subst e
      rw [h1] at ht
      injection ht with ht
      injection ht with _ e2 _
      exact absurd e2 (nat_ne (by kernel_rfl))
  have t3 : w.cell? ⟨b, 3, none⟩ = some (.pointer none) := cells_at ht rfl
  have H := Lib.hid h
  have HB := Lib.hid ht
  have HL : Hid (∀ V, Kept (fun k => k = d) w V → V.cell? ⟨b, 2, none⟩ = some (.pointer (some ⟨d, 2 * q, none⟩)) ∧ V.cell? ⟨b, 3, none⟩ = some (.pointer none) ∧ V.cell? ⟨b, 4, none⟩ = some (.pointer none)) := Lib.hid (fun V hV => by
    have h9 := (hV.block b (heap_lt ht) (fun e => hdb e.symm)).trans ht
    exact ⟨cells_at h9 rfl, cells_at h9 rfl, cells_at h9 rfl⟩)
  have HC1 : Hid (w.drew.cell? ⟨d, 2 * q, none⟩ = some (.pointer (some ⟨b, 0, none⟩))) := Lib.hid (by have := h.l0 hq; rwa [hT] at this)
  have HF1 : Hid (w.drew.frozen? ⟨d, 2 * q, none⟩ = false) := Lib.hid (h.fr (2 * q))
  clear h ht
  go_enter Try.func28, Try.ntmps28
  go_upto_region 1 with fail
  obtain ⟨X1, hX1⟩ : ∃ X1, X1 = w := ⟨_, rfl⟩
  subst hX1
  refine wp_region_held_drew (S := fun w' => Kept (fun k => k = d) X1 w') (by kernel_rfl) (Kept.drew X1) (fun hS => ?_)
  refine held_pure (i := 0) (oi := ⟨some 7, _, _, _, _, _⟩) rfl (by kernel_rfl) (by kernel_rfl) (by kernel_rfl) (fun _ _ _ h => h) (by rfl) (v := ?_) (fun w hSw => ?_) hS (fun hS => ?_)
  rotate_left
  · go_simp; try with_reducible rfl
  try go_frame
  refine held_pure (i := 1) (oi := ⟨some 8, _, _, _, _, _⟩) rfl (by kernel_rfl) (by kernel_rfl) (by kernel_rfl) (fun _ _ _ h => h) (by rfl) (v := ?_) (fun w hSw => ?_) hS (fun hS => ?_)
  rotate_left
  · go_simp; try with_reducible rfl
  try go_frame
  refine held_pure (i := 2) (oi := ⟨some 9, _, _, _, _, _⟩) rfl (by kernel_rfl) (by kernel_rfl) (by kernel_rfl) (fun _ _ _ h => h) (by rfl) (v := ?_) (fun w hSw => ?_) hS (fun hS => ?_)
  rotate_left
  · go_simp; try with_reducible rfl
  try go_frame
  refine held_pure (i := 3) (oi := ⟨some 10, _, _, _, _, _⟩) rfl (by kernel_rfl) (by kernel_rfl) (by kernel_rfl) (fun _ _ _ h => h) (by rfl) (fun w hSw => run_load_plW rfl rfl (HL.out _ hSw).1) hS (fun hS => ?_)
  try go_frame
  refine held_pure (i := 4) (oi := ⟨some 11, _, _, _, _, _⟩) rfl (by kernel_rfl) (by kernel_rfl) (by kernel_rfl) (fun _ _ _ h => h) (by rfl) (v := ?_) (fun w hSw => ?_) hS (fun hS => ?_)
  rotate_left
  · go_simp; try with_reducible rfl
  try go_frame
  refine held_pure (i := 5) (oi := ⟨some 12, _, _, _, _, _⟩) rfl (by kernel_rfl) (by kernel_rfl) (by kernel_rfl) (fun _ _ _ h => h) (by rfl) (v := ?_) (fun w hSw => ?_) hS (fun hS => ?_)
  rotate_left
  · go_simp; try with_reducible rfl
  try go_frame
  refine held_pure (i := 6) (oi := ⟨some 13, _, _, _, _, _⟩) rfl (by kernel_rfl) (by kernel_rfl) (by kernel_rfl) (fun _ _ _ h => h) (by rfl) (v := ?_) (fun w hSw => ?_) hS (fun hS => ?_)
  rotate_left
  · go_simp; try with_reducible rfl
  try go_frame
  refine held_pure (i := 7) (oi := ⟨some 14, _, _, _, _, _⟩) rfl (by kernel_rfl) (by kernel_rfl) (by kernel_rfl) (fun _ _ _ h => h) (by rfl) (fun w hSw => run_load_ptW rfl rfl (HL.out _ hSw).2.2) hS (fun hS => ?_)
  try go_frame
  refine held_pure (i := 8) (oi := ⟨some 15, _, _, _, _, _⟩) rfl (by kernel_rfl) (by kernel_rfl) (by kernel_rfl) (fun _ _ _ h => h) (by rfl) (v := ?_) (fun w hSw => ?_) hS (fun hS => ?_)
  rotate_left
  · go_simp; try with_reducible rfl
  try go_frame
  refine held_pure (i := 9) (oi := ⟨some 16, _, _, _, _, _⟩) rfl (by kernel_rfl) (by kernel_rfl) (by kernel_rfl) (fun _ _ _ h => h) (by rfl) (v := ?_) (fun w hSw => ?_) hS (fun hS => ?_)
  rotate_left
  · go_simp; try with_reducible rfl
  try go_frame
  refine wpAnyH_ready (rs := [10]) (by kernel_rfl) (by simp) (AllReadyH.cons (o := ⟨none, _, _, _, _, _⟩) rfl (fun K hK => ?_) AllReadyH.nil)
  rw [if_pos (by rfl)]
  refine store_ptW_wp rfl rfl rfl HC1.out HF1.out ?_
  refine hK.out _ _ ((Kept.drew X1).trans (Kept.setCell X1.drew d (2 * q) _) (fun _ _ e => e)) (fun hS => ?_)
  clear hK K
  try go_frame
  refine wpAnyH_done (by kernel_rfl) ?_ _
  have hX2 := hS
  have t4 := (HL.out _ hS).2.2
  have HC2 : Hid (((X1.drew.setCell ⟨d, 2 * q, none⟩ (.pointer none)).drew).cell? ⟨d, 2 * q + 1, none⟩ = some (.pointer (some ⟨b, 0, none⟩))) := Lib.hid (by
    obtain ⟨cs, h1, h2, h3, _⟩ := H.out.obj
    have g1 := heap_setCell_same X1.drew d (2 * q) cs _ (.pointer none) h1
    have := cells_at (i := 2 * q + 1) (v := pT (T q)) g1 (by rw [Array.getElem?_setIfInBounds_ne (by omega)]; exact (h3 q hq).2)
    rw [hT] at this
    exact this)
  have HF2 : Hid (((X1.drew.setCell ⟨d, 2 * q, none⟩ (.pointer none)).drew).frozen? ⟨d, 2 * q + 1, none⟩ = false) := Lib.hid (by
    obtain ⟨cs, h1, _⟩ := H.out.obj
    exact heap_frozen (heap_setCell_same X1.drew d (2 * q) cs _ (.pointer none) h1) _)
  obtain ⟨X2, hX2e⟩ : ∃ X2, X2 = X1.drew.setCell ⟨d, 2 * q, none⟩ (.pointer none) := ⟨_, rfl⟩
  have HX2 := Lib.hid hX2e
  rw [← hX2e] at HC2 HF2 hX2 t4 ⊢
  have HLO := HL
  have HL : Hid (∀ V, Kept (fun k => k = d) X2 V → V.cell? ⟨b, 2, none⟩ = some (.pointer (some ⟨d, 2 * q, none⟩)) ∧ V.cell? ⟨b, 3, none⟩ = some (.pointer none) ∧ V.cell? ⟨b, 4, none⟩ = some (.pointer none)) := Lib.hid (fun V hV => HLO.out V (hX2.trans hV (fun _ _ e => e)))
  clear hX2e hS t3
  go_upto_region 4 with fail
  refine wp_region_held_drew (S := fun w' => Kept (fun k => k = d) X2 w') (by kernel_rfl) (Kept.drew X2) (fun hS => ?_)
  refine held_pure (i := 0) (oi := ⟨some 32, _, _, _, _, _⟩) rfl (by kernel_rfl) (by kernel_rfl) (by kernel_rfl) (fun _ _ _ h => h) (by rfl) (v := ?_) (fun w hSw => ?_) hS (fun hS => ?_)
  rotate_left
  · go_simp; try with_reducible rfl
  try go_frame
  refine held_pure (i := 1) (oi := ⟨some 33, _, _, _, _, _⟩) rfl (by kernel_rfl) (by kernel_rfl) (by kernel_rfl) (fun _ _ _ h => h) (by rfl) (v := ?_) (fun w hSw => ?_) hS (fun hS => ?_)
  rotate_left
  · go_simp; try with_reducible rfl
  try go_frame
  refine held_pure (i := 2) (oi := ⟨some 34, _, _, _, _, _⟩) rfl (by kernel_rfl) (by kernel_rfl) (by kernel_rfl) (fun _ _ _ h => h) (by rfl) (v := ?_) (fun w hSw => ?_) hS (fun hS => ?_)
  rotate_left
  · go_simp; try with_reducible rfl
  try go_frame
  refine held_pure (i := 3) (oi := ⟨some 35, _, _, _, _, _⟩) rfl (by kernel_rfl) (by kernel_rfl) (by kernel_rfl) (fun _ _ _ h => h) (by rfl) (fun w hSw => run_load_plW rfl rfl (HL.out _ hSw).1) hS (fun hS => ?_)
  try go_frame
  refine held_pure (i := 4) (oi := ⟨some 36, _, _, _, _, _⟩) rfl (by kernel_rfl) (by kernel_rfl) (by kernel_rfl) (fun _ _ _ h => h) (by rfl) (v := ?_) (fun w hSw => ?_) hS (fun hS => ?_)
  rotate_left
  · go_simp; try with_reducible rfl
  try go_frame
  refine held_pure (i := 5) (oi := ⟨some 37, _, _, _, _, _⟩) rfl (by kernel_rfl) (by kernel_rfl) (by kernel_rfl) (fun _ _ _ h => h) (by rfl) (v := ?_) (fun w hSw => ?_) hS (fun hS => ?_)
  rotate_left
  · go_simp; try with_reducible rfl
  try go_frame
  refine held_pure (i := 6) (oi := ⟨some 38, _, _, _, _, _⟩) rfl (by kernel_rfl) (by kernel_rfl) (by kernel_rfl) (fun _ _ _ h => h) (by rfl) (v := ?_) (fun w hSw => ?_) hS (fun hS => ?_)
  rotate_left
  · go_simp; try with_reducible rfl
  try go_frame
  refine held_pure (i := 7) (oi := ⟨some 39, _, _, _, _, _⟩) rfl (by kernel_rfl) (by kernel_rfl) (by kernel_rfl) (fun _ _ _ h => h) (by rfl) (fun w hSw => run_load_ptW rfl rfl (HL.out _ hSw).2.1) hS (fun hS => ?_)
  try go_frame
  refine held_pure (i := 8) (oi := ⟨some 40, _, _, _, _, _⟩) rfl (by kernel_rfl) (by kernel_rfl) (by kernel_rfl) (fun _ _ _ h => h) (by rfl) (v := ?_) (fun w hSw => ?_) hS (fun hS => ?_)
  rotate_left
  · go_simp; try with_reducible rfl
  try go_frame
  refine held_pure (i := 9) (oi := ⟨some 41, _, _, _, _, _⟩) rfl (by kernel_rfl) (by kernel_rfl) (by kernel_rfl) (fun _ _ _ h => h) (by rfl) (v := ?_) (fun w hSw => ?_) hS (fun hS => ?_)
  rotate_left
  · go_simp; try with_reducible rfl
  try go_frame
  refine wpAnyH_ready (rs := [10]) (by kernel_rfl) (by simp) (AllReadyH.cons (o := ⟨none, _, _, _, _, _⟩) rfl (fun K hK => ?_) AllReadyH.nil)
  rw [if_pos (by rfl)]
  refine store_ptW_wp rfl rfl rfl HC2.out HF2.out ?_
  refine hK.out _ _ ((Kept.drew X2).trans (Kept.setCell X2.drew d (2 * q + 1) _) (fun _ _ e => e)) (fun hS => ?_)
  clear hK K
  try go_frame
  refine wpAnyH_done (by kernel_rfl) ?_ _
  have kA : Kept (fun k => k = d) X1 (X2.drew.setCell ⟨d, 2 * q + 1, none⟩ (.pointer none)) := hX2.trans hS (fun _ _ e => e)
  have hbA := (kA.block b (heap_lt HB.out) (fun e => hdb e.symm)).trans HB.out
  have HWA : Hid (Wb (X2.drew.setCell ⟨d, 2 * q + 1, none⟩ (.pointer none)) d M most now (setT T q none)) := Lib.hid (by
    have := H.out.line hq none
    obtain ⟨cs, h1, h2⟩ := this.obj
    refine ⟨cs, ?_, h2⟩
    rw [HX2.out]
    exact h1)
  generalize X2.drew.setCell ⟨d, 2 * q + 1, none⟩ (.pointer none) = X3 at *
  have t2 : X3.cell? ⟨b, 2, none⟩ = some (.pointer (some ⟨d, 2 * q, none⟩)) := cells_at hbA rfl
  have t3 : X3.cell? ⟨b, 3, none⟩ = some (.pointer none) := cells_at hbA rfl
  have t5 : X3.cell? ⟨b, 4, none⟩ = some (.pointer none) := cells_at hbA rfl
  have f2 := heap_frozen hbA 2
  have f3 := heap_frozen hbA 3
  have f4 := heap_frozen hbA 4
  have HBA := Lib.hid hbA
  have KA := Lib.hid kA
  clear hbA kA hS HL hX2
  go_wp2
  refine bodyPost_end (results_none rfl _ _ _) rfl ?_
  have g1 := heap_setCell_same X3 b 2 _ _ (.pointer none) HBA.out
  have g2 := heap_setCell_same _ b 3 _ _ (.pointer none) g1
  have g3 := heap_setCell_same _ b 4 _ _ (.pointer none) g2
  have kb : Kept (fun k => k = b) X3 (((X3.setCell ⟨b, 2, none⟩ (.pointer none)).setCell ⟨b, 3, none⟩ (.pointer none)).setCell ⟨b, 4, none⟩ (.pointer none)) := ((Kept.setCell X3 b 2 _).trans (Kept.setCell _ b 3 _) (fun _ _ e => e)).trans (Kept.setCell _ b 4 _) (fun _ _ e => e)
  exact ⟨rfl, HWA.out.of_block (kb.block d HWA.out.lt hdb), g3, (KA.out.mono (fun _ _ e => .inr e)).trans kb (fun _ _ e => .inl e)⟩
end
end Go.Proofs.Ytjgcpaepaocigaa
