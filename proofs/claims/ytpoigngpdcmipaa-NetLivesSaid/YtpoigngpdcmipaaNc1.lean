/-
  Contracts and lemmas on which the proofs of this seat stand (several texts in one). Conditions are each theorem's own.
-/
import Derived.Below
import Derived.Laws.OwnMore
import Derived.Laws.Rows
import Derived.Deep.Draws
import Derived.Deep.OwnRows
import Derived.RangeFuncBox
import Derived.Test.YtpoigngpdcmipaaRows
import Derived.WalkKit
import Derived.WalkSpells
import Derived.Lib.Hide
import Derived.Outline
import Derived.IntWalk
import Derived.Laws.CopyOwn
import Derived.OwnWalk
import Derived.RangeFuncNested
import Derived.RangeFuncBound
import Derived.RangeFuncCalls
import Derived.RangeFuncLeaves
import Derived.Shelf.Abstract
import Derived.Shelf.RegionOpen
import Derived.OwnWalkIn
import Derived.TacticsInMore
import Derived.LoopNIn
import Derived.LoopIn
import Derived.Laws.AppendOwnNone
import Derived.Laws.BytesArg
import Derived.Lib.SliceRun
import Derived.Deep.QuietTactic
import Derived.BigQuiet

/-
  Words on memory that every later text of this seat uses: a slice that reads as a list of bytes. Conditions: none; plain definitions and lemmas.
-/
namespace Go.Proofs.Ytpoigngpdcmipaa
open Go.RowKit

/-- The number of byte j. A plain definition: the walk leaves it standing. -/
def byt (bs : List UInt8) (j : Nat) : Int := ((bs[j]?.getD 0).toNat : Int)
theorem byt_lo (bs : List UInt8) (j : Nat) : 0 ≤ byt bs j := by unfold byt; omega
theorem byt_hi (bs : List UInt8) (j : Nat) : byt bs j ≤ 255 := by
  unfold byt; have := (bs[j]?.getD 0).toNat_lt; omega

/-- The cells of a list of bytes. -/
def row (bs : List UInt8) : List Value := bs.map fun x => .int .u8 (x.toNat : Int)
theorem row_length (bs : List UInt8) : (row bs).length = bs.length := by simp [row]
theorem row_get (bs : List UInt8) {j : Nat} (h : j < bs.length) : (row bs)[j]? = some (.int .u8 (byt bs j)) := by
  simp [row, byt, h]
theorem row_append (a b : List UInt8) : row (a ++ b) = row a ++ row b := by simp [row]
theorem row_one (bs : List UInt8) : ∀ u ∈ row bs, u.oneCell' = true := by
  intro u hu; simp only [row, List.mem_map] at hu; obtain ⟨x, _, rfl⟩ := hu; rfl
theorem row_getD (bs : List UInt8) {j : Nat} (h : j < bs.length) {u : Value} (hu : (row bs)[j]? = some u) : u = .int .u8 (byt bs j) := by
  rw [row_get bs h] at hu; exact (Option.some.inj hu).symm

/-- The slice at A, of bs.length elements, reads as bs; its cells lie below block B. -/
def Rd (w : World) (B : Nat) (A : Option Addr) (bs : List UInt8) : Prop :=
  0 < bs.length → ∃ b off, A = some ⟨b, off, none⟩ ∧ b < B ∧ ∀ j, j < bs.length → w.cell? ⟨b, off + j, none⟩ = some (.int .u8 (byt bs j))

section
variable {w w' : World} {B B' : Nat} {A : Option Addr} {bs : List UInt8}
theorem Rd.nil : Rd w B A [] := fun h => absurd h (by simp)
theorem Rd.keep (h : Rd w B A bs) (hk : ∀ p : Addr, p.block < B → w'.cell? p = w.cell? p) : Rd w' B A bs := fun hn => by
  obtain ⟨b, off, e, hb, hc⟩ := h hn
  exact ⟨b, off, e, hb, fun j hj => (hk ⟨b, off + j, none⟩ hb).trans (hc j hj)⟩
theorem Rd.more (h : Rd w B A bs) (hB : B ≤ B') : Rd w B' A bs := fun hn => by
  obtain ⟨b, off, e, hb, hc⟩ := h hn
  exact ⟨b, off, e, by omega, hc⟩
theorem Rd.below (h : Rd w B A bs) (hb : Below B w w') : Rd w' B A bs := h.keep fun _ hp => hb.cell hp
theorem Rd.alloc (h : Rd w B A bs) (hB : B ≤ w.heap.size) (o : Obj) : Rd (w.alloc o) B A bs := h.keep fun p hp => World.cell?_alloc_lt w o p (by omega)
theorem Rd.drewN (h : Rd w B A bs) (k : Nat) : Rd (w.drewN k) B A bs := h
theorem Rd.grown (h : Rd w B A bs) {r : Option Nat} (hg : w.grownBy w' r) (hB : B ≤ w.heap.size) (hr : ∀ g, r = some g → B ≤ g) : Rd w' B A bs :=
  h.keep fun p hp => World.cell?_of_block (hg.block p.block (by omega) (fun e => by have := hr _ e.symm; omega))
theorem Rd.of_block {g t : Nat} {cur : Array Value} (hg : w.heap[g]? = some (.cells cur t (0, 0))) (hB : g < B) (off : Nat)
    (hc : ∀ j, j < bs.length → cur[off + j]? = some (.int .u8 (byt bs j))) : Rd w B (some ⟨g, off, none⟩) bs := fun _ =>
  ⟨g, off, rfl, hB, fun j hj => by rw [cell_of_row w g (off + j) cur t (0, 0) hg]; exact hc j hj⟩
theorem Rd.of_own {base e n c : Nat} (hn' : n = bs.length) (h : w.ownsRow base e 1 (.slice A n c) n (row bs)) : Rd w w.heap.size A bs := fun hn => by
  subst hn'
  rcases h.2 with ⟨_, h0⟩ | ⟨g, cap, cur, hv, _, hh, hle, _, hs, ht⟩
  · omega
  · have hA : A = some ⟨g, 0, none⟩ := by injection hv
    subst hA
    refine ⟨g, 0, rfl, (Array.getElem?_eq_some_iff.1 hh).1, fun j hj => ?_⟩
    rw [cell_of_row w g (0 + j) cur e (0, 0) hh, Nat.zero_add]
    have h1 : (List.take (bs.length * 1) cur.toList)[j]? = some (.int .u8 (byt bs j)) := by rw [ht]; exact row_get bs hj
    rw [List.getElem?_take, if_pos (by omega)] at h1
    simpa using h1
end

theorem add_off (b off j : Nat) : (⟨b, off, none⟩ : Addr).add j = ⟨b, off + j, none⟩ := by unfold Addr.add; split <;> simp_all
theorem cell_block {w : World} {a : Addr} {v : Value} (h : w.cell? a = some v) : a.block < w.heap.size := by
  rcases Nat.lt_or_ge a.block w.heap.size with hlt | hge
  · exact hlt
  · unfold World.cell? at h; rw [Array.getElem?_eq_none hge] at h; cases h
/-- A slice of bytes as it is handed over: it reads as bs; nil has no capacity. -/
structure Arg (w : World) (B : Nat) (A : Option Addr) (c : Nat) (bs : List UInt8) : Prop where
  rd : Rd w B A bs
  cap : bs.length ≤ c
  none_ : A = none → c = 0
theorem Arg.below {w w' : World} {B : Nat} {A : Option Addr} {c : Nat} {bs : List UInt8} (h : Arg w B A c bs) (hb : Below B w w') : Arg w' B A c bs := ⟨h.rd.below hb, h.cap, h.none_⟩
theorem Arg.nil (w : World) (B : Nat) : Arg w B none 0 [] := ⟨Rd.nil, Nat.le_refl _, fun _ => rfl⟩
theorem Arg.more {w : World} {B B' : Nat} {A : Option Addr} {c : Nat} {bs : List UInt8} (h : Arg w B A c bs) (hB : B ≤ B') : Arg w B' A c bs := ⟨h.rd.more hB, h.cap, h.none_⟩
theorem Arg.alloc {w : World} {B : Nat} {A : Option Addr} {c : Nat} {bs : List UInt8} (h : Arg w B A c bs) (hB : B ≤ w.heap.size) (o : Obj) : Arg (w.alloc o) B A c bs := ⟨h.rd.alloc hB o, h.cap, h.none_⟩
theorem Arg.drewN {w : World} {B : Nat} {A : Option Addr} {c : Nat} {bs : List UInt8} (h : Arg w B A c bs) (n : Nat) : Arg (w.drewN n) B A c bs := ⟨h.rd.drewN n, h.cap, h.none_⟩
/-- The slice of integers at A reads as zs; its cells lie below block B. -/
def RdI (w : World) (B : Nat) (A : Option Addr) (zs : List Int) : Prop :=
  0 < zs.length → ∃ b off, A = some ⟨b, off, none⟩ ∧ b < B ∧ ∀ j, j < zs.length → w.cell? ⟨b, off + j, none⟩ = some (.int .i64 (zs.getD j 0))
theorem RdI.keep {w w' : World} {B : Nat} {A : Option Addr} {zs : List Int} (h : RdI w B A zs) (hk : ∀ p : Addr, p.block < B → w'.cell? p = w.cell? p) : RdI w' B A zs := fun hn => by
  obtain ⟨b, off, e, hb, hc⟩ := h hn
  exact ⟨b, off, e, hb, fun j hj => (hk ⟨b, off + j, none⟩ hb).trans (hc j hj)⟩
theorem RdI.below {w w' : World} {B : Nat} {A : Option Addr} {zs : List Int} (h : RdI w B A zs) (hb : Below B w w') : RdI w' B A zs := h.keep fun _ hp => hb.cell hp
theorem RdI.alloc {w : World} {B : Nat} {A : Option Addr} {zs : List Int} (h : RdI w B A zs) (hB : B ≤ w.heap.size) (o : Obj) : RdI (w.alloc o) B A zs := h.keep fun p hp => World.cell?_alloc_lt w o p (by omega)
theorem wraps_i64 (n : Int) (h₀ : 0 ≤ n) (h₁ : n < 2 ^ 62) : IntKind.i64.wrap n = n := by rw [IntKind.wrap_i64]; omega
theorem or_byte (q x : Int) (h0 : 0 ≤ q) (h1 : q < 16777216) (h2 : 0 ≤ x) (h3 : x ≤ 255) : bits .or .i64 (q * 256) x = q * 256 + x :=
  bits_join .i64 62 (by decide) wraps_i64 8 _ _ (by omega) (by omega) (by omega) h2 (by omega) (by omega)
end Go.Proofs.Ytpoigngpdcmipaa

/-
  Parts that come in any order, in plain lists: what is answered, what is put together, what is missing. No program. Conditions are each theorem's own.
-/
namespace Go.Proofs.Ytpoigngpdcmipaa
open Go.RowKit

/-- A part. -/
structure Pc where
  off : Int
  more : Bool
  b : List UInt8
  deriving DecidableEq
def Pc.len (p : Pc) : Int := (p.b.length : Int)
def Pc.stop (p : Pc) : Int := p.off + p.len
def sharing (x p : Pc) : Bool := (decide (0 < x.len) && decide (0 < p.len) && decide (x.off < p.stop) && decide (p.off < x.stop)) || (x.off == p.off && x.len == 0 && p.len == 0)
def sameP (l : List Pc) (p : Pc) : Bool := l.any fun x => decide (x = p)
def sharesP (l : List Pc) (p : Pc) : Bool := l.any fun x => sharing x p
/-- Where the last part ends; none: -1. -/
def endP : List Pc → Int
  | [] => -1
  | x :: l => if x.more then endP l else x.stop
def farP : List Pc → Int
  | [] => 0
  | x :: l => max x.stop (farP l)
def bytesP : List Pc → Int
  | [] => 0
  | x :: l => x.len + bytesP l
def badP (p : Pc) : Prop := p.off < 0 ∨ (p.more = true ∧ (p.len = 0 ∨ p.len % 8 ≠ 0))
instance (p : Pc) : Decidable (badP p) := by unfold badP; exact inferInstance
def lateP (l : List Pc) (p : Pc) : Prop := (p.more = false ∧ (0 ≤ endP l ∨ farP l > p.stop)) ∨ (0 ≤ endP l ∧ p.stop > endP l)
instance (l : List Pc) (p : Pc) : Decidable (lateP l p) := by unfold lateP; exact inferInstance
def addE (l : List Pc) (p : Pc) : Int :=
  if badP p then 4 else if p.off > 65535 - p.len then 6 else if sameP l p then 0 else if sharesP l p then 9 else if lateP l p then 4 else 0
def addL (l : List Pc) (p : Pc) : List Pc := if addE l p = 0 then (if sameP l p then l else l ++ [p]) else l
def roomP (l : List Pc) (off : Int) (b : List UInt8) : Int := if sameP l ⟨off, true, b⟩ || sameP l ⟨off, false, b⟩ then 0 else (b.length : Int)
/-- Bytes laid over others from a place on. -/
def layB (out : List UInt8) (k : Nat) (b : List UInt8) : List UInt8 := out.take k ++ b ++ out.drop (k + b.length)
def fillP : List Pc → List UInt8 → List UInt8
  | [], out => out
  | x :: l, out => fillP l (layB out x.off.toNat x.b)
def doneB (l : List Pc) : Bool := decide (0 ≤ endP l) && decide (bytesP l = endP l)
def doneP (l : List Pc) : List UInt8 := if doneB l then fillP l (List.replicate (endP l).toNat 0) else []
def coverP (l : List Pc) (k : Int) : Bool := l.any fun x => decide (x.off ≤ k) && decide (k < x.stop)
def upP (l : List Pc) : Int := if endP l < 0 then farP l else endP l
/-- The spans that no part has, up to a place; two numbers each. -/
def gapStep (out : List Nat) (k : Nat) : List Nat := if out.getLast? = some k then out.dropLast ++ [k + 1] else out ++ [k, k + 1]
def gapsN (l : List Pc) : Nat → List Nat
  | 0 => []
  | k + 1 => if coverP l k then gapsN l k else gapStep (gapsN l k) k
def gapsP (l : List Pc) : List Nat := gapsN l (upP l).toNat
theorem gapStep_length (out : List Nat) (k : Nat) : (gapStep out k).length ≤ out.length + 2 := by
  unfold gapStep; split <;> simp <;> omega
theorem gapsN_length (l : List Pc) : ∀ k, (gapsN l k).length ≤ 2 * k
  | 0 => Nat.le_refl _
  | k + 1 => by
    have h := gapsN_length l k
    have h2 := gapStep_length (gapsN l k) k
    rw [gapsN]; split <;> omega

theorem layB_length {out : List UInt8} {k : Nat} {b : List UInt8} (h : k + b.length ≤ out.length) : (layB out k b).length = out.length := by
  simp only [layB, List.length_append, List.length_take, List.length_drop]; omega
theorem layB_get {out : List UInt8} {k : Nat} {b : List UInt8} (h : k + b.length ≤ out.length) (j : Nat) :
    (layB out k b)[j]? = if k ≤ j ∧ j < k + b.length then b[j - k]? else out[j]? := by
  unfold layB
  by_cases h1 : j < k
  · rw [if_neg (by omega), List.append_assoc, List.getElem?_append_left (by simp; omega), List.getElem?_take, if_pos h1]
  · by_cases h2 : j < k + b.length
    · rw [if_pos ⟨by omega, h2⟩, List.append_assoc, List.getElem?_append_right (by simp; omega), List.length_take, Nat.min_eq_left (by omega), List.getElem?_append_left (by omega)]
    · rw [if_neg (by omega), List.getElem?_append_right (by simp; omega), List.getElem?_drop]
      congr 1
      simp only [List.length_append, List.length_take]; omega
/-! ### A text, cut -/
/-- Each part is a piece of the text, where it stands. -/
def PieceOf (b : List UInt8) (x : Pc) : Prop := 0 ≤ x.off ∧ x.stop ≤ (b.length : Int) ∧ x.b = (b.drop x.off.toNat).take x.b.length
theorem fill_get (b : List UInt8) (j : Nat) : ∀ (l : List Pc) (out : List UInt8), out.length = b.length → (∀ x ∈ l, PieceOf b x) → (out[j]? = b[j]? ∨ ∃ x ∈ l, x.off ≤ (j : Int) ∧ (j : Int) < x.stop) →
    (fillP l out)[j]? = b[j]? ∧ (fillP l out).length = b.length
  | [], out, hl, _, h => by
    rcases h with h | ⟨x, hx, _⟩
    · exact ⟨h, hl⟩
    · cases hx
  | x :: l, out, hl, hp, h => by
    obtain ⟨p1, p2, p3⟩ := hp x (List.mem_cons_self ..)
    have hs : x.stop = x.off + (x.b.length : Int) := rfl
    have hfit : x.off.toNat + x.b.length ≤ out.length := by omega
    refine fill_get b j l (layB out x.off.toNat x.b) (by rw [layB_length hfit]; exact hl) (fun y hy => hp y (List.mem_cons_of_mem _ hy)) ?_
    have hcov : x.off ≤ (j : Int) ∧ (j : Int) < x.stop → (layB out x.off.toNat x.b)[j]? = b[j]? := fun ⟨h1, h2⟩ => by
      rw [layB_get hfit, if_pos ⟨by omega, by omega⟩, p3, List.getElem?_take, List.getElem?_drop]
      rw [if_pos (by omega)]
      congr 1; omega
    rcases h with h | ⟨y, hy, hc⟩
    · left
      by_cases hc : x.off ≤ (j : Int) ∧ (j : Int) < x.stop
      · exact hcov hc
      · rw [layB_get hfit, if_neg (by omega)]; exact h
    · rcases List.mem_cons.1 hy with rfl | hy
      · exact .inl (hcov hc)
      · exact .inr ⟨y, hy, hc⟩
/-- Parts that stand one behind the other from a place on, and are the text; the last one alone is no more. -/
inductive Chain (b : List UInt8) : Nat → List Pc → Prop
  | last {k : Nat} (h : k ≤ b.length) (he : k = b.length → k = 0) : Chain b k [⟨(k : Int), false, b.drop k⟩]
  | more {k n : Nat} {l : List Pc} (hn : 0 < n) (h8 : n % 8 = 0) (hk : k + n < b.length) (h : Chain b (k + n) l) : Chain b k (⟨(k : Int), true, (b.drop k).take n⟩ :: l)
theorem Chain.facts {b : List UInt8} : ∀ {k : Nat} {l : List Pc}, Chain b k l →
    (∀ x ∈ l, PieceOf b x ∧ (k : Int) ≤ x.off ∧ ¬ badP x ∧ (x.more = true → x.stop < (b.length : Int)) ∧ (x.more = false → x.stop = (b.length : Int)) ∧ (0 < b.length → 0 < x.len)) ∧
    bytesP l = (b.length : Int) - (k : Int) ∧ endP l = (b.length : Int) ∧ (∀ j : Nat, k ≤ j → j < b.length → ∃ x ∈ l, x.off ≤ (j : Int) ∧ (j : Int) < x.stop) ∧
    l.Pairwise (fun x y => x.stop ≤ y.off ∧ x.more = true ∧ x.off < y.off) := by
  intro k l h
  induction h with
  | @last k h he =>
    have hl : (b.drop k).length = b.length - k := List.length_drop
    have hs : (Pc.mk (k : Int) false (b.drop k)).stop = (b.length : Int) := by simp only [Pc.stop, Pc.len, hl]; omega
    have hle : (Pc.mk (k : Int) false (b.drop k)).len = (b.length : Int) - (k : Int) := by simp only [Pc.len, hl]; omega
    refine ⟨fun x hx => ?_, ?_, ?_, fun j h1 h2 => ⟨_, List.mem_cons_self .., ?_, ?_⟩, List.pairwise_singleton _ _⟩
    · rw [List.mem_singleton.1 hx]
      refine ⟨⟨Int.natCast_nonneg k, by rw [hs]; exact Int.le_refl _, ?_⟩, Int.le_refl _, ?_, fun e => (by cases e), fun _ => hs, fun h0 => by rw [hle]; omega⟩
      · show b.drop k = (b.drop k).take (b.drop k).length
        rw [List.take_length]
      · rintro (h1 | ⟨h1, _⟩)
        · have : (k : Int) < 0 := h1
          omega
        · cases h1
    · show _ + 0 = _
      rw [hle]; omega
    · show (if false = true then _ else _) = _
      rw [if_neg (by decide)]; exact hs
    · show (k : Int) ≤ j; omega
    · rw [hs]; omega
  | @more k n l hn h8 hk _ ih =>
    obtain ⟨i1, i2, i3, i4, i5⟩ := ih
    have hl : ((b.drop k).take n).length = n := by rw [List.length_take, List.length_drop]; omega
    have hs : (Pc.mk (k : Int) true ((b.drop k).take n)).stop = ((k + n : Nat) : Int) := by simp only [Pc.stop, Pc.len, hl]; omega
    have hle : (Pc.mk (k : Int) true ((b.drop k).take n)).len = (n : Int) := by simp only [Pc.len, hl]
    refine ⟨fun x hx => ?_, ?_, ?_, fun j h1 h2 => ?_, ?_⟩
    · rcases List.mem_cons.1 hx with rfl | hx
      · refine ⟨⟨Int.natCast_nonneg k, by rw [hs]; omega, ?_⟩, Int.le_refl _, ?_, fun _ => by rw [hs]; omega, fun e => (by cases e), fun _ => by rw [hle]; omega⟩
        · show (b.drop k).take n = (b.drop k).take ((b.drop k).take n).length
          rw [hl]
        · rintro (h1 | ⟨_, h1⟩)
          · have : (k : Int) < 0 := h1
            omega
          · rw [hle] at h1; omega
      · obtain ⟨a1, a2, a3, a4, a5, a6⟩ := i1 x hx
        exact ⟨a1, by omega, a3, a4, a5, a6⟩
    · show _ + bytesP l = _
      rw [hle, i2]; omega
    · show (if true = true then _ else _) = _
      rw [if_pos rfl]; exact i3
    · by_cases hj : j < k + n
      · exact ⟨_, List.mem_cons_self .., by show (k : Int) ≤ j; omega, by rw [hs]; omega⟩
      · obtain ⟨x, hx, hc⟩ := i4 j (by omega) h2
        exact ⟨x, List.mem_cons_of_mem _ hx, hc⟩
    · refine List.pairwise_cons.2 ⟨fun y hy => ?_, i5⟩
      obtain ⟨_, a2, _⟩ := i1 y hy
      exact ⟨by rw [hs]; exact a2, rfl, by show (k : Int) < y.off; omega⟩
theorem endP_cases : ∀ s : List Pc, endP s = -1 ∨ ∃ y ∈ s, y.more = false ∧ endP s = y.stop
  | [] => .inl rfl
  | x :: s => by
    cases hm : x.more with
    | false => exact .inr ⟨x, List.mem_cons_self .., hm, by rw [endP, hm]; rfl⟩
    | true =>
      have e : endP (x :: s) = endP s := by rw [endP, hm]; rfl
      rcases endP_cases s with h | ⟨y, hy, h1, h2⟩
      · exact .inl (e.trans h)
      · exact .inr ⟨y, List.mem_cons_of_mem _ hy, h1, e.trans h2⟩
theorem farP_le {n : Int} : ∀ s : List Pc, 0 ≤ n → (∀ x ∈ s, x.stop ≤ n) → farP s ≤ n
  | [], h, _ => h
  | x :: s, h, hs => by
    have h1 := farP_le s h (fun y hy => hs y (List.mem_cons_of_mem _ hy))
    have h2 := hs x (List.mem_cons_self ..)
    rw [farP]; omega
theorem sameP_iff {s : List Pc} {p : Pc} : sameP s p = true ↔ p ∈ s := by simp [sameP]
theorem bytesP_perm {s l : List Pc} (h : List.Perm s l) : bytesP s = bytesP l := by
  induction h with
  | nil => rfl
  | cons x _ ih => rw [bytesP, bytesP, ih]
  | swap x y l => simp only [bytesP]; omega
  | trans _ _ h1 h2 => exact h1.trans h2
theorem pair_of {R : Pc → Pc → Prop} : ∀ {l : List Pc}, l.Pairwise R → ∀ {x y : Pc}, x ∈ l → y ∈ l → x ≠ y → R x y ∨ R y x
  | [], _, _, _, h, _, _ => by cases h
  | a :: l, h, x, y, hx, hy, hne => by
    obtain ⟨h1, h2⟩ := List.pairwise_cons.1 h
    rcases List.mem_cons.1 hx with e1 | hx1
    · rcases List.mem_cons.1 hy with e2 | hy1
      · exact absurd (e1.trans e2.symm) hne
      · rw [e1]; exact .inl (h1 y hy1)
    · rcases List.mem_cons.1 hy with e2 | hy1
      · rw [e2]; exact .inr (h1 x hx1)
      · exact pair_of h2 hx1 hy1 hne
/-- A part of a text that is cut is taken, in whatever order; a second time nothing changes. -/
theorem order_add {b : List UInt8} {l s : List Pc} {p : Pc} (h : Chain b 0 l) (hb : b.length ≤ 65535) (hs : ∀ x ∈ s, x ∈ l) (hp : p ∈ l) :
    addE s p = 0 ∧ addL s p = if p ∈ s then s else s ++ [p] := by
  obtain ⟨f1, _, _, _, f5⟩ := h.facts
  obtain ⟨⟨p1, p2, _⟩, p3, p4, p5, p6, p7⟩ := f1 p hp
  have hst : p.stop = p.off + p.len := rfl
  by_cases hm : p ∈ s
  · have he : addE s p = 0 := by rw [addE, if_neg p4, if_neg (by omega), if_pos (sameP_iff.2 hm)]
    exact ⟨he, by rw [addL, if_pos he, if_pos (sameP_iff.2 hm), if_pos hm]⟩
  · have hns : ¬ sameP s p = true := fun e => hm (sameP_iff.1 e)
    have hsh : ¬ sharesP s p = true := fun e => by
      obtain ⟨x, hx, hxp⟩ := List.any_eq_true.1 e
      have hxs : x.stop = x.off + x.len := rfl
      have hne : x ≠ p := fun e => hm (e ▸ hx)
      simp only [sharing, Bool.or_eq_true, Bool.and_eq_true, decide_eq_true_eq, beq_iff_eq] at hxp
      rcases pair_of f5 (hs x hx) hp hne with ⟨r1, _, r3⟩ | ⟨r1, _, r3⟩ <;> omega
    have hlt : ¬ lateP s p := by
      have hle : ∀ y ∈ s, y.stop ≤ (b.length : Int) := fun y hy => (f1 y (hs y hy)).1.2.1
      have hend : endP s = -1 ∨ endP s = (b.length : Int) := by
        rcases endP_cases s with h0 | ⟨y, hy, h1, h2⟩
        · exact .inl h0
        · exact .inr (h2.trans ((f1 y (hs y hy)).2.2.2.2.1 h1))
      rintro (⟨h1, h2 | h2⟩ | ⟨h1, h2⟩)
      · rcases endP_cases s with h0 | ⟨y, hy, g1, g2⟩
        · omega
        · have hne : y ≠ p := fun e => hm (e ▸ hy)
          rcases pair_of f5 (hs y hy) hp hne with ⟨_, r2, _⟩ | ⟨_, r2, _⟩
          · rw [g1] at r2; cases r2
          · rw [h1] at r2; cases r2
      · have := farP_le s (by omega) hle
        have := p6 h1
        omega
      · rcases hend with e | e <;> omega
    have he : addE s p = 0 := by rw [addE, if_neg p4, if_neg (by omega), if_neg hns, if_neg hsh, if_neg hlt]
    exact ⟨he, by rw [addL, if_pos he, if_neg hns, if_neg hm]⟩
/-- All parts together are the text. -/
theorem order_done {b : List UInt8} {l s : List Pc} (h : Chain b 0 l) (hs : List.Perm s l) : doneB s = true ∧ doneP s = b := by
  obtain ⟨f1, f2, f3, f4, f5⟩ := h.facts
  have hmem : ∀ x, x ∈ s ↔ x ∈ l := fun x => hs.mem_iff
  have hend : endP s = (b.length : Int) := by
    rcases endP_cases s with h0 | ⟨y, hy, h1, h2⟩
    · exfalso
      rcases endP_cases l with g0 | ⟨z, hz, g1, g2⟩
      · omega
      · have key : ∀ (q : List Pc), (∀ x ∈ q, x ∈ l) → z ∈ q → endP q ≠ -1 := fun q => by
          induction q with
          | nil => intro _ h; cases h
          | cons a q ih =>
            intro ha hq
            rw [endP]
            split
            · rcases List.mem_cons.1 hq with e | hq
              · rename_i hb; rw [← e, g1] at hb; cases hb
              · exact ih (fun x hx => ha x (List.mem_cons_of_mem _ hx)) hq
            · rename_i hb
              have h9 := (f1 a (ha a (List.mem_cons_self ..))).2.2.2.2.1 (by simpa using hb)
              rw [h9]; omega
        exact key s (fun x hx => (hmem x).1 hx) ((hmem z).2 hz) h0
    · exact h2.trans ((f1 y ((hmem y).1 hy)).2.2.2.2.1 h1)
  have hby : bytesP s = (b.length : Int) := by rw [bytesP_perm hs, f2]; simp
  have hd : doneB s = true := by simp only [doneB, Bool.and_eq_true, decide_eq_true_eq]; omega
  refine ⟨hd, ?_⟩
  rw [doneP, if_pos hd, hend]
  refine List.ext_getElem? fun j => ?_
  have hfill := fun (j : Nat) (hj : j < b.length) => fill_get b j s (List.replicate (b.length : Int).toNat 0) (by simp) (fun x hx => (f1 x ((hmem x).1 hx)).1) (.inr (by
    obtain ⟨x, hx, hc⟩ := f4 j (Nat.zero_le _) hj
    exact ⟨x, (hmem x).2 hx, hc⟩))
  by_cases hj : j < b.length
  · exact (hfill j hj).1
  · rcases Nat.eq_zero_or_pos b.length with h0 | h0
    · obtain rfl : b = [] := List.eq_nil_of_length_eq_zero h0
      have := fill_get [] j s (List.replicate (([] : List UInt8).length : Int).toNat 0) (by simp) (fun x hx => (f1 x ((hmem x).1 hx)).1) (.inl (by simp))
      exact this.1
    · have := (hfill 0 h0).2
      rw [List.getElem?_eq_none (by omega), List.getElem?_eq_none (by omega)]
/-- Parts of which none ends behind the last one. -/
def wfP (L : List Pc) : Prop := 0 ≤ endP L → ∀ x ∈ L, x.stop ≤ endP L
theorem le_farP : ∀ {l : List Pc} {x : Pc}, x ∈ l → x.stop ≤ farP l
  | a :: l, x, h => by
    rw [farP]
    rcases List.mem_cons.1 h with rfl | h
    · omega
    · have := le_farP h; omega
theorem endP_app_more {m : List Pc} : ∀ {l : List Pc}, (∀ x ∈ l, x.more = true) → endP (l ++ m) = endP m
  | [], _ => rfl
  | a :: l, h => by
    rw [List.cons_append, endP, if_pos (h a (List.mem_cons_self ..))]
    exact endP_app_more fun x hx => h x (List.mem_cons_of_mem _ hx)
theorem endP_app_last {m : List Pc} : ∀ {l : List Pc}, (∃ x ∈ l, x.more = false) → endP (l ++ m) = endP l
  | [], ⟨_, h, _⟩ => by cases h
  | a :: l, ⟨x, hx, hm⟩ => by
    rw [List.cons_append, endP, endP]
    cases ha : a.more with
    | false => rfl
    | true =>
      rw [if_pos rfl, if_pos rfl]
      rcases List.mem_cons.1 hx with rfl | hx
      · rw [hm] at ha; cases ha
      · exact endP_app_last ⟨x, hx, hm⟩
theorem endP_last : ∀ {l : List Pc}, (∃ x ∈ l, x.more = false) → ∃ y ∈ l, y.more = false ∧ endP l = y.stop
  | [], ⟨_, h, _⟩ => by cases h
  | a :: l, ⟨x, hx, hm⟩ => by
    cases ha : a.more with
    | false => exact ⟨a, List.mem_cons_self .., ha, by rw [endP, ha]; rfl⟩
    | true =>
      have h1 : ∃ x ∈ l, x.more = false := by
        rcases List.mem_cons.1 hx with rfl | hx
        · rw [hm] at ha; cases ha
        · exact ⟨x, hx, hm⟩
      obtain ⟨y, hy, h2, h3⟩ := endP_last h1
      exact ⟨y, List.mem_cons_of_mem _ hy, h2, by rw [endP, ha, if_pos rfl, h3]⟩
theorem addL_cases (l : List Pc) (p : Pc) : addL l p = l ∨ (addL l p = l ++ [p] ∧ addE l p = 0 ∧ ¬ badP p ∧ ¬ p.off > 65535 - p.len ∧ ¬ sharesP l p = true ∧ ¬ lateP l p) := by
  by_cases he : addE l p = 0
  · by_cases hs : sameP l p = true
    · exact .inl (by rw [addL, if_pos he, if_pos hs])
    · right
      refine ⟨by rw [addL, if_pos he, if_neg hs], he, ?_⟩
      unfold addE at he
      by_cases h1 : badP p
      · rw [if_pos h1] at he; omega
      · rw [if_neg h1] at he
        by_cases h2 : p.off > 65535 - p.len
        · rw [if_pos h2] at he; omega
        · rw [if_neg h2, if_neg hs] at he
          by_cases h3 : sharesP l p = true
          · rw [if_pos h3] at he; omega
          · rw [if_neg h3] at he
            by_cases h4 : lateP l p
            · rw [if_pos h4] at he; omega
            · exact ⟨h1, h2, h3, h4⟩
  · exact .inl (by rw [addL, if_neg he])
/-- What Add keeps ends where the last part ends, still. -/
theorem addL_wf {l : List Pc} {p : Pc} (h : wfP l) : wfP (addL l p) := by
  rcases addL_cases l p with e | ⟨e, _, hb, _, _, hl⟩
  · rw [e]; exact h
  · rw [e]
    by_cases hm : ∃ x ∈ l, x.more = false
    · intro hend x hx
      rw [endP_app_last hm] at hend ⊢
      rcases List.mem_append.1 hx with hx | hx
      · exact h hend x hx
      · rw [List.mem_singleton.1 hx]
        have : ¬ (p.stop > endP l) := fun h1 => hl (.inr ⟨hend, h1⟩)
        omega
    · have hall : ∀ x ∈ l, x.more = true := fun x hx => by
        cases hc : x.more with
        | true => rfl
        | false => exact absurd ⟨x, hx, hc⟩ hm
      intro hend x hx
      rw [endP_app_more hall] at hend ⊢
      cases hp : p.more with
      | true =>
        have : endP [p] = -1 := by rw [endP, hp]; rfl
        omega
      | false =>
        have h1 : endP [p] = p.stop := by rw [endP, hp]; rfl
        rw [h1]
        rcases List.mem_append.1 hx with hx | hx
        · have h2 := le_farP hx
          have : ¬ (farP l > p.stop) := fun h3 => hl (.inl ⟨hp, .inr h3⟩)
          omega
        · rw [List.mem_singleton.1 hx]; omega
/-- What Add keeps lies within a packet, still. -/
theorem addL_in {l : List Pc} {p : Pc} (h0 : ∀ x ∈ l, 0 ≤ x.off ∧ x.stop ≤ 65535) : ∀ x ∈ addL l p, 0 ≤ x.off ∧ x.stop ≤ 65535 := by
  rcases addL_cases l p with e | ⟨e, _, hb, hf, _, _⟩
  · rw [e]; exact h0
  · rw [e]
    intro x hx
    rcases List.mem_append.1 hx with hx | hx
    · exact h0 x hx
    · rw [List.mem_singleton.1 hx]
      have h1 : ¬ p.off < 0 := fun h => hb (.inl h)
      have h2 : p.stop = p.off + p.len := rfl
      omega
theorem wfP_nil : wfP [] := fun _ x hx => by cases hx
end Go.Proofs.Ytpoigngpdcmipaa

/-
  Parts in rising order, in plain lists: what is asked of those beside a place is what the document asks of all; where one more is put in; what they are together. No program. Conditions are each theorem's own.
-/
namespace Go.Proofs.Ytpoigngpdcmipaa
open Go.RowKit

theorem Pc.len_nn (x : Pc) : 0 ≤ x.len := Int.natCast_nonneg _
theorem Pc.stop_eq (x : Pc) : x.stop = x.off + x.len := rfl
/-- Rising parts that share no place; but the last one each is more, and has bytes. -/
structure Ris (L : List Pc) : Prop where
  ok : ∀ x ∈ L, 0 ≤ x.off ∧ x.stop ≤ 65535
  full : ∀ x ∈ L, x.more = true → 0 < x.len
  pw : L.Pairwise fun x y => x.stop ≤ y.off ∧ x.more = true
theorem Ris.nil : Ris [] := ⟨fun _ h => (by cases h), fun _ h => (by cases h), List.Pairwise.nil⟩
theorem Ris.tail {a : Pc} {L : List Pc} (h : Ris (a :: L)) : Ris L := ⟨fun x hx => h.ok x (List.mem_cons_of_mem _ hx), fun x hx => h.full x (List.mem_cons_of_mem _ hx), (List.pairwise_cons.1 h.pw).2⟩
theorem Ris.head {a : Pc} {L : List Pc} (h : Ris (a :: L)) : ∀ y ∈ L, a.stop ≤ y.off ∧ a.off < y.off ∧ a.more = true := fun y hy => by
  obtain ⟨h1, h2⟩ := (List.pairwise_cons.1 h.pw).1 y hy
  have h3 := h.full a (List.mem_cons_self ..) h2
  have h4 := a.stop_eq
  exact ⟨h1, by omega, h2⟩
/-- How many parts begin ahead of a place. -/
def atP (L : List Pc) (off : Int) : Nat := L.countP fun x => decide (x.off < off)
theorem atP_le (L : List Pc) (off : Int) : atP L off ≤ L.length := List.countP_le_length
theorem at_split : ∀ {L : List Pc} (off : Int), Ris L → (∀ x ∈ L.take (atP L off), x.off < off) ∧ (∀ x ∈ L.drop (atP L off), off ≤ x.off)
  | [], _, _ => ⟨fun x h => by simp at h, fun x h => by simp at h⟩
  | a :: L, off, h => by
    obtain ⟨i1, i2⟩ := at_split off h.tail
    by_cases ha : a.off < off
    · have e : atP (a :: L) off = atP L off + 1 := by simp [atP, ha]
      rw [e, List.take_succ_cons, List.drop_succ_cons]
      exact ⟨fun x hx => by
        rcases List.mem_cons.1 hx with rfl | hx
        · exact ha
        · exact i1 x hx, i2⟩
    · have e : atP (a :: L) off = 0 := by
        rw [atP, List.countP_eq_zero]
        intro x hx
        rcases List.mem_cons.1 hx with rfl | hx
        · simpa using ha
        · have := (h.head x hx).2.1
          simp; omega
      rw [e]
      refine ⟨fun x hx => by simp at hx, fun x hx => ?_⟩
      rcases List.mem_cons.1 (by simpa using hx) with rfl | hx
      · omega
      · have := (h.head x hx).2.1
        omega
/-- The parts on both sides of a place. -/
def nearP (L : List Pc) (off : Int) : List Pc := (L.drop (atP L off - 1)).take (min (atP L off + 1) L.length - (atP L off - 1))
theorem near_sub {L : List Pc} {off : Int} : ∀ x ∈ nearP L off, x ∈ L := fun _ hx => List.mem_of_mem_drop (List.mem_of_mem_take hx)
theorem near_at {L : List Pc} {off : Int} {k : Nat} (h1 : atP L off - 1 ≤ k) (h2 : k < atP L off + 1) {x : Pc} (hx : L[k]? = some x) : x ∈ nearP L off := by
  have hk := (List.getElem?_eq_some_iff.1 hx).1
  refine List.mem_of_getElem? (i := k - (atP L off - 1)) ?_
  rw [nearP, List.getElem?_take, if_pos (by omega), List.getElem?_drop, show atP L off - 1 + (k - (atP L off - 1)) = k by omega, hx]
theorem idx_rel {L : List Pc} (h : Ris L) {i j : Nat} {x y : Pc} (hij : i < j) (hx : L[i]? = some x) (hy : L[j]? = some y) : x.stop ≤ y.off ∧ x.off < y.off ∧ x.more = true := by
  obtain ⟨hi, ex⟩ := List.getElem?_eq_some_iff.1 hx
  obtain ⟨hj, ey⟩ := List.getElem?_eq_some_iff.1 hy
  have h1 := List.pairwise_iff_getElem.1 h.pw i j hi hj hij
  rw [ex, ey] at h1
  have h3 := h.full x (List.mem_of_getElem? hx) h1.2
  have h4 := x.stop_eq
  exact ⟨h1.1, by omega, h1.2⟩
theorem at_lt {L : List Pc} (h : Ris L) (off : Int) {k : Nat} {x : Pc} (hx : L[k]? = some x) : (k < atP L off → x.off < off) ∧ (atP L off ≤ k → off ≤ x.off) := by
  obtain ⟨h1, h2⟩ := at_split off h
  refine ⟨fun hk => h1 x (List.mem_of_getElem? (i := k) ?_), fun hk => h2 x (List.mem_of_getElem? (i := k - atP L off) ?_)⟩
  · rw [List.getElem?_take, if_pos hk]; exact hx
  · rw [List.getElem?_drop, show atP L off + (k - atP L off) = k by omega]; exact hx
def alikeP (p x : Pc) : Bool := p.off == x.off && decide (p.b = x.b)
def meetsP (p x : Pc) : Bool := decide (max p.off x.off < min p.stop x.stop)
theorem near_same {L : List Pc} (h : Ris L) (p : Pc) (f : Pc → Bool) (hf : ∀ x ∈ L, f x = true → x.off = p.off) : (nearP L p.off).any f = L.any f := by
  rw [Bool.eq_iff_iff, List.any_eq_true, List.any_eq_true]
  refine ⟨fun ⟨x, hx, h1⟩ => ⟨x, near_sub x hx, h1⟩, fun ⟨x, hx, h1⟩ => ⟨x, ?_, h1⟩⟩
  obtain ⟨k, hk⟩ := List.getElem?_of_mem hx
  have ho := hf x hx h1
  have hat := at_lt h p.off hk
  have h2 : atP L p.off ≤ k := by
    rcases Nat.lt_or_ge k (atP L p.off) with g | g
    · have := hat.1 g; omega
    · exact g
  refine near_at (by omega) ?_ hk
  rcases Nat.lt_or_ge k (atP L p.off + 1) with g | g
  · exact g
  · exfalso
    have hkl := (List.getElem?_eq_some_iff.1 hk).1
    obtain ⟨y, hy⟩ : ∃ y, L[atP L p.off]? = some y := ⟨_, List.getElem?_eq_getElem (by omega)⟩
    have r := (idx_rel h (by omega) hy hk).2.1
    have := (at_lt h p.off hy).2 (Nat.le_refl _)
    omega
theorem meets_iff (p x : Pc) : meetsP p x = true ↔ 0 < x.len ∧ 0 < p.len ∧ x.off < p.stop ∧ p.off < x.stop := by
  have h1 := p.stop_eq
  have h2 := x.stop_eq
  simp only [meetsP, decide_eq_true_eq]
  omega
theorem near_meets {L : List Pc} (h : Ris L) (p : Pc) : (nearP L p.off).any (meetsP p) = L.any (meetsP p) := by
  rw [Bool.eq_iff_iff, List.any_eq_true, List.any_eq_true]
  refine ⟨fun ⟨x, hx, h1⟩ => ⟨x, near_sub x hx, h1⟩, fun ⟨x, hx, h1⟩ => ?_⟩
  obtain ⟨k, hk⟩ := List.getElem?_of_mem hx
  have hkl := (List.getElem?_eq_some_iff.1 hk).1
  have hat := at_lt h p.off hk
  obtain ⟨m1, m2, m3, m4⟩ := (meets_iff p x).1 h1
  by_cases g1 : k < atP L p.off - 1
  · exfalso
    obtain ⟨y, hy⟩ : ∃ y, L[atP L p.off - 1]? = some y := ⟨_, List.getElem?_eq_getElem (by have := atP_le L p.off; omega)⟩
    have r := (idx_rel h g1 hk hy).1
    have := (at_lt h p.off hy).1 (by omega)
    omega
  · by_cases g2 : k < atP L p.off + 1
    · exact ⟨x, near_at (by omega) g2 hk, h1⟩
    · obtain ⟨y, hy⟩ : ∃ y, L[atP L p.off]? = some y := ⟨_, List.getElem?_eq_getElem (by omega)⟩
      obtain ⟨r1, r2, r3⟩ := idx_rel h (by omega) hy hk
      have h5 := (at_lt h p.off hy).2 (Nat.le_refl _)
      have h6 := h.full y (List.mem_of_getElem? hy) r3
      have h7 := y.stop_eq
      exact ⟨y, near_at (by omega) (by omega) hy, (meets_iff p y).2 ⟨h6, m2, by omega, by omega⟩⟩
theorem shares_meets {L : List Pc} (h : Ris L) {p : Pc} (hb : ¬ badP p) (hp : ¬ p ∈ L) : sharesP L p = L.any (meetsP p) := by
  rw [Bool.eq_iff_iff, sharesP, List.any_eq_true, List.any_eq_true]
  refine ⟨fun ⟨x, hx, h1⟩ => ⟨x, hx, ?_⟩, fun ⟨x, hx, h1⟩ => ⟨x, hx, ?_⟩⟩
  · simp only [sharing, Bool.or_eq_true, Bool.and_eq_true, decide_eq_true_eq, beq_iff_eq] at h1
    rcases h1 with ⟨⟨⟨a, b⟩, c⟩, d⟩ | ⟨⟨a, b⟩, c⟩
    · exact (meets_iff p x).2 ⟨a, b, c, d⟩
    · exfalso
      have hpm : p.more = false := by
        cases hm : p.more with
        | false => rfl
        | true => exact absurd (.inr ⟨hm, .inl c⟩) hb
      have hxm : x.more = false := by
        cases hm : x.more with
        | false => rfl
        | true => have := h.full x hx hm; omega
      have e1 : x.b = [] := List.eq_nil_of_length_eq_zero (by have : (x.b.length : Int) = 0 := b; omega)
      have e2 : p.b = [] := List.eq_nil_of_length_eq_zero (by have : (p.b.length : Int) = 0 := c; omega)
      refine hp ((show p = x from ?_) ▸ hx)
      cases p; cases x
      simp_all
  · obtain ⟨a, b, c, d⟩ := (meets_iff p x).1 h1
    simp only [sharing, Bool.or_eq_true, Bool.and_eq_true, decide_eq_true_eq, beq_iff_eq]
    exact .inl ⟨⟨⟨a, b⟩, c⟩, d⟩
def endedP (L : List Pc) : Bool := L.any fun x => !x.more
theorem ended_iff {L : List Pc} : endedP L = true ↔ ∃ x ∈ L, x.more = false := by simp [endedP]
theorem ris_last {L : List Pc} (h : Ris L) {y : Pc} (hy : y ∈ L) (hm : y.more = false) : ∀ x ∈ L, x.stop ≤ y.stop := fun x hx => by
  by_cases e : x = y
  · rw [e]; exact Int.le_refl _
  · have h1 := y.stop_eq
    have h2 := y.len_nn
    rcases pair_of h.pw hx hy e with ⟨r, _⟩ | ⟨_, r⟩
    · omega
    · rw [hm] at r; cases r
theorem ris_end {L : List Pc} (h : Ris L) : endP L = if endedP L then farP L else -1 := by
  by_cases he : endedP L = true
  · rw [if_pos he]
    obtain ⟨y, hy, h1, h2⟩ := endP_last (ended_iff.1 he)
    have h3 := farP_le L (n := y.stop) (by have := (h.ok y hy).1; have := y.stop_eq; have := y.len_nn; omega) (ris_last h hy h1)
    have h4 := le_farP hy
    omega
  · rw [if_neg he]
    rcases endP_cases L with h0 | ⟨y, hy, h1, _⟩
    · exact h0
    · exact absurd (ended_iff.2 ⟨y, hy, h1⟩) he
theorem far_nn : ∀ L : List Pc, 0 ≤ farP L
  | [] => Int.le_refl _
  | x :: l => by have := far_nn l; rw [farP]; omega
theorem ris_late {L : List Pc} (h : Ris L) (p : Pc) : lateP L p ↔ (endedP L = true ∧ (p.more = false ∨ p.stop > farP L)) ∨ (p.more = false ∧ p.stop < farP L) := by
  have hf := far_nn L
  unfold lateP
  rw [ris_end h]
  by_cases he : endedP L = true
  · rw [if_pos he]
    simp only [he, true_and]
    constructor
    · rintro (⟨a, _⟩ | ⟨_, b⟩)
      · exact .inl (.inl a)
      · exact .inl (.inr b)
    · rintro ((a | b) | ⟨a, b⟩)
      · exact .inl ⟨a, .inl hf⟩
      · exact .inr ⟨hf, b⟩
      · exact .inl ⟨a, .inr b⟩
  · rw [if_neg he]
    constructor
    · rintro (⟨a, b | b⟩ | ⟨b, _⟩)
      · omega
      · exact .inr ⟨a, b⟩
      · omega
    · rintro (⟨a, _⟩ | ⟨a, b⟩)
      · exact absurd a he
      · exact .inl ⟨a, .inr b⟩
/-- One part more, in its place. -/
def putP (L : List Pc) (p : Pc) : List Pc := L.take (atP L p.off) ++ p :: L.drop (atP L p.off)
theorem putP_perm (L : List Pc) (p : Pc) : List.Perm (putP L p) (L ++ [p]) := by
  have h1 : List.Perm (putP L p) (p :: (L.take (atP L p.off) ++ L.drop (atP L p.off))) := List.perm_middle
  rw [List.take_append_drop] at h1
  exact h1.trans (List.perm_append_singleton p L).symm
theorem ris_put {L : List Pc} (h : Ris L) {p : Pc} (hb : ¬ badP p) (hf : ¬ p.off > 65535 - p.len) (hs : ¬ sharesP L p = true) (hl : ¬ lateP L p) : Ris (putP L p) := by
  have e1 := p.stop_eq
  have e2 := p.len_nn
  have e3 : ¬ p.off < 0 := fun g => hb (.inl g)
  have e4 : p.more = true → 0 < p.len := fun g => by
    have : p.len ≠ 0 := fun g2 => hb (.inr ⟨g, .inl g2⟩)
    omega
  obtain ⟨s1, s2⟩ := at_split p.off h
  have hmem : ∀ x ∈ putP L p, x = p ∨ x ∈ L := fun x hx => by
    have := (putP_perm L p).mem_iff.1 hx
    simp at this
    exact this.symm
  have hns : ∀ x ∈ L, ¬ (0 < x.len ∧ 0 < p.len ∧ x.off < p.stop ∧ p.off < x.stop) := fun x hx ⟨a, b, c, d⟩ => hs (List.any_eq_true.2 ⟨x, hx, by
    simp only [sharing, Bool.or_eq_true, Bool.and_eq_true, decide_eq_true_eq, beq_iff_eq]
    exact .inl ⟨⟨⟨a, b⟩, c⟩, d⟩⟩)
  have hend := ris_end h
  have hlate := fun g => hl ((ris_late h p).2 g)
  have hlast : ∀ x ∈ L, x.more = false → endedP L = true ∧ p.more = true ∧ p.stop ≤ farP L ∧ farP L = x.stop := fun x hx hm => by
    have he : endedP L = true := ended_iff.2 ⟨x, hx, hm⟩
    have g1 := farP_le L (n := x.stop) (by have := (h.ok x hx).1; have := x.stop_eq; have := x.len_nn; omega) (ris_last h hx hm)
    have g2 := le_farP hx
    refine ⟨he, ?_, ?_, by omega⟩
    · cases hp : p.more with
      | true => rfl
      | false => exact absurd (.inl ⟨he, .inl hp⟩) hlate
    · have : ¬ p.stop > farP L := fun g => hlate (.inl ⟨he, .inr g⟩)
      omega
  refine ⟨fun x hx => ?_, fun x hx hm => ?_, ?_⟩
  · rcases hmem x hx with rfl | hx
    · omega
    · exact h.ok x hx
  · rcases hmem x hx with rfl | hx
    · exact e4 hm
    · exact h.full x hx hm
  · unfold putP
    have hpw : (L.take (atP L p.off) ++ L.drop (atP L p.off)).Pairwise (fun x y => x.stop ≤ y.off ∧ x.more = true) := by rw [List.take_append_drop]; exact h.pw
    obtain ⟨w1, w2, w3⟩ := List.pairwise_append.1 hpw
    refine List.pairwise_append.2 ⟨w1, List.pairwise_cons.2 ⟨fun y hy => ?_, w2⟩, fun x hx y hy => ?_⟩
    · have hyL := List.mem_of_mem_drop hy
      have g1 := s2 y hy
      have g2 := hns y hyL
      have g3 := y.stop_eq
      have g4 := y.len_nn
      have hst : p.stop ≤ y.off := by
        by_cases c1 : 0 < p.len
        · by_cases c2 : 0 < y.len
          · have : ¬ (y.off < p.stop ∧ p.off < y.stop) := fun ⟨a, b⟩ => g2 ⟨c2, c1, a, b⟩
            omega
          · have hm : y.more = false := by
              cases hm : y.more with
              | false => rfl
              | true => exact absurd (h.full y hyL hm) c2
            obtain ⟨_, _, k3, k4⟩ := hlast y hyL hm
            omega
        · omega
      refine ⟨hst, ?_⟩
      cases hp : p.more with
      | true => rfl
      | false =>
        exfalso
        have hy1 : y.more = true := by
          cases hm : y.more with
          | true => rfl
          | false => have := (hlast y hyL hm).2.1; rw [hp] at this; cases this
        have k1 := h.full y hyL hy1
        have k2 := le_farP hyL
        have k3 : ¬ p.stop < farP L := fun g => hlate (.inr ⟨hp, g⟩)
        omega
    · rcases List.mem_cons.1 hy with rfl | hy
      · have hxL := List.mem_of_mem_take hx
        have g1 := s1 x hx
        have g2 := hns x hxL
        have g3 := x.stop_eq
        have g4 := x.len_nn
        constructor
        · by_cases c1 : 0 < y.len
          · by_cases c2 : 0 < x.len
            · have : ¬ (x.off < y.stop ∧ y.off < x.stop) := fun ⟨a, b⟩ => g2 ⟨c2, c1, a, b⟩
              omega
            · omega
          · have hm : y.more = false := by
              cases hm : y.more with
              | false => rfl
              | true => exact absurd (e4 hm) c1
            have k2 := le_farP hxL
            have k3 : ¬ y.stop < farP L := fun g => hlate (.inr ⟨hm, g⟩)
            omega
        · cases hm : x.more with
          | true => rfl
          | false =>
            exfalso
            obtain ⟨k1, k2, k3, k4⟩ := hlast x hxL hm
            have k5 := e4 k2
            exact g2 ⟨by omega, k5, by omega, by omega⟩
      · exact w3 x hx y hy
/-! ### In whatever order they came -/
theorem farP_perm {s l : List Pc} (h : List.Perm s l) : farP s = farP l := by
  induction h with
  | nil => rfl
  | cons x _ ih => rw [farP, farP, ih]
  | swap x y l => simp only [farP]; omega
  | trans _ _ h1 h2 => exact h1.trans h2
theorem any_perm {s l : List Pc} (h : List.Perm s l) (f : Pc → Bool) : s.any f = l.any f := by
  rw [Bool.eq_iff_iff, List.any_eq_true, List.any_eq_true]
  exact ⟨fun ⟨x, hx, g⟩ => ⟨x, h.mem_iff.1 hx, g⟩, fun ⟨x, hx, g⟩ => ⟨x, h.mem_iff.2 hx, g⟩⟩
theorem endP_perm {s l : List Pc} (hs : Ris s) (h : List.Perm s l) : endP s = endP l := by
  rcases endP_cases l with h0 | ⟨y, hy, h1, h2⟩
  · rw [h0, ris_end hs]
    refine if_neg fun he => ?_
    obtain ⟨x, hx, hm⟩ := ended_iff.1 he
    obtain ⟨y, hy, h1, h2⟩ := endP_last ⟨x, h.mem_iff.1 hx, hm⟩
    have := hs.ok y (h.mem_iff.2 hy)
    have := y.stop_eq
    have := y.len_nn
    omega
  · have hys := h.mem_iff.2 hy
    obtain ⟨x, hx, g1, g2⟩ := endP_last ⟨y, hys, h1⟩
    have k1 := ris_last hs hx g1 y hys
    have k2 := ris_last hs hys h1 x hx
    omega
/-- The parts as the code keeps them, and as they came. -/
structure Same (L l : List Pc) : Prop where
  ris : Ris L
  perm : List.Perm L l
theorem Same.nil : Same [] [] := ⟨Ris.nil, List.Perm.refl _⟩
def addC (L : List Pc) (p : Pc) : Int :=
  if badP p then 4 else if p.off > 65535 - p.len then 6 else if (nearP L p.off).any (fun x => decide (x = p)) then 0 else if (nearP L p.off).any (meetsP p) then 9
  else if (endedP L = true ∧ (p.more = false ∨ p.stop > farP L)) ∨ (p.more = false ∧ p.stop < farP L) then 4 else 0
def addCL (L : List Pc) (p : Pc) : List Pc := if addC L p = 0 then (if (nearP L p.off).any (fun x => decide (x = p)) then L else putP L p) else L
theorem Same.same {L l : List Pc} (h : Same L l) (p : Pc) : (nearP L p.off).any (fun x => decide (x = p)) = sameP l p := by
  rw [near_same h.ris p _ (fun x _ g => by rw [of_decide_eq_true g])]
  exact any_perm h.perm _
theorem Same.late {L l : List Pc} (h : Same L l) (p : Pc) : lateP l p ↔ (endedP L = true ∧ (p.more = false ∨ p.stop > farP L)) ∨ (p.more = false ∧ p.stop < farP L) := by
  rw [← ris_late h.ris]
  unfold lateP
  rw [endP_perm h.ris h.perm, farP_perm h.perm]
theorem Same.addE {L l : List Pc} (h : Same L l) (p : Pc) : addC L p = addE l p := by
  unfold addC Go.Proofs.Ytpoigngpdcmipaa.addE
  rw [h.same]
  by_cases h1 : badP p
  · rw [if_pos h1, if_pos h1]
  · rw [if_neg h1, if_neg h1]
    by_cases h2 : p.off > 65535 - p.len
    · rw [if_pos h2, if_pos h2]
    · rw [if_neg h2, if_neg h2]
      by_cases h3 : sameP l p = true
      · rw [if_pos h3, if_pos h3]
      · rw [if_neg h3, if_neg h3, near_meets h.ris p, ← shares_meets h.ris h1 (fun g => h3 (sameP_iff.2 (h.perm.mem_iff.1 g))), show sharesP L p = sharesP l p from any_perm h.perm _]
        by_cases h4 : sharesP l p = true
        · rw [if_pos h4, if_pos h4]
        · rw [if_neg h4, if_neg h4]
          by_cases h5 : lateP l p
          · rw [if_pos h5, if_pos ((h.late p).1 h5)]
          · rw [if_neg h5, if_neg (fun g => h5 ((h.late p).2 g))]
theorem Same.addL {L l : List Pc} (h : Same L l) (p : Pc) : Same (addCL L p) (addL l p) := by
  unfold addCL Go.Proofs.Ytpoigngpdcmipaa.addL
  rw [h.same, h.addE]
  by_cases h0 : Go.Proofs.Ytpoigngpdcmipaa.addE l p = 0
  · rw [if_pos h0, if_pos h0]
    by_cases h1 : sameP l p = true
    · rw [if_pos h1, if_pos h1]; exact h
    · rw [if_neg h1, if_neg h1]
      rcases addL_cases l p with e | ⟨_, _, hb, hf, hs, hl⟩
      · exfalso
        have e2 : Go.Proofs.Ytpoigngpdcmipaa.addL l p = l ++ [p] := by rw [Go.Proofs.Ytpoigngpdcmipaa.addL, if_pos h0, if_neg h1]
        rw [e2] at e
        have := congrArg List.length e
        simp at this
      · refine ⟨ris_put h.ris hb hf (fun g => hs ?_) (fun g => hl ?_), (putP_perm L p).trans (h.perm.append_right [p])⟩
        · rw [← show sharesP L p = sharesP l p from any_perm h.perm _]; exact g
        · rw [h.late, ← ris_late h.ris]; exact g
  · rw [if_neg h0, if_neg h0]; exact h
theorem Same.bytes {L l : List Pc} (h : Same L l) : bytesP L = bytesP l := bytesP_perm h.perm
theorem Same.room {L l : List Pc} (h : Same L l) (a : Int) (b : List UInt8) (m : Bool) : (if (nearP L a).any (alikeP ⟨a, m, b⟩) then 0 else (b.length : Int)) = roomP l a b := by
  have h1 : (nearP L a).any (alikeP ⟨a, m, b⟩) = L.any (alikeP ⟨a, m, b⟩) := near_same h.ris ⟨a, m, b⟩ _ (fun x _ g => by
    simp only [alikeP, Bool.and_eq_true, beq_iff_eq] at g
    exact g.1.symm)
  have h2 : l.any (alikeP ⟨a, m, b⟩) = (sameP l ⟨a, true, b⟩ || sameP l ⟨a, false, b⟩) := by
    rw [Bool.eq_iff_iff, Bool.or_eq_true, sameP_iff, sameP_iff, List.any_eq_true]
    constructor
    · rintro ⟨x, hx, g⟩
      simp only [alikeP, Bool.and_eq_true, beq_iff_eq, decide_eq_true_eq] at g
      obtain ⟨g1, g2⟩ := g
      cases hm : x.more with
      | true => left; rw [g1, g2, ← hm]; exact hx
      | false => right; rw [g1, g2, ← hm]; exact hx
    · rintro (hx | hx) <;> exact ⟨_, hx, by simp [alikeP]⟩
  rw [h1, any_perm h.perm, h2, roomP]
end Go.Proofs.Ytpoigngpdcmipaa

/-
  Parts in rising order, in plain lists: the spans between them, and their bytes one behind the other, are what the document says of the parts in whatever order. No program. Conditions are each theorem's own.
-/
namespace Go.Proofs.Ytpoigngpdcmipaa
open Go.RowKit

def gapsS : Int → List Pc → List (Int × Int)
  | _, [] => []
  | k, x :: L => (if k < x.off then [(k, x.off)] else []) ++ gapsS x.stop L
def lastS : Int → List Pc → Int
  | k, [] => k
  | _, x :: L => lastS x.stop L
def catP (L : List Pc) : List UInt8 := L.flatMap fun x => x.b
theorem ris_up {x : Pc} {L : List Pc} (h : Ris (x :: L)) : ∀ y ∈ L, x.stop ≤ y.off := fun y hy => (h.head y hy).1
theorem lastS_max : ∀ {k : Int} {L : List Pc}, Ris L → 0 ≤ k → (∀ x ∈ L, k ≤ x.off) → lastS k L = max k (farP L)
  | k, [], _, h0, _ => by rw [lastS, farP]; omega
  | k, x :: L, h, h0, hk => by
    have h1 := hk x (List.mem_cons_self ..)
    have h2 := x.stop_eq
    have h3 := x.len_nn
    rw [lastS, lastS_max h.tail (by omega) (ris_up h), farP]; omega
theorem catP_length : ∀ L : List Pc, ((catP L).length : Int) = bytesP L
  | [] => rfl
  | x :: L => by
    have := catP_length L
    rw [catP, List.flatMap_cons, List.length_append, bytesP]
    rw [catP] at this
    have h2 : x.len = (x.b.length : Int) := rfl
    omega
theorem bytes_gaps : ∀ {k : Int} {L : List Pc}, Ris L → (∀ x ∈ L, k ≤ x.off) → bytesP L ≤ lastS k L - k ∧ (bytesP L = lastS k L - k ↔ gapsS k L = [])
  | k, [], _, _ => by simp [bytesP, lastS, gapsS]
  | k, x :: L, h, hk => by
    have h1 := hk x (List.mem_cons_self ..)
    have h2 := x.stop_eq
    obtain ⟨i1, i2⟩ := bytes_gaps h.tail (ris_up h)
    rw [bytesP, lastS, gapsS]
    refine ⟨by omega, ?_⟩
    by_cases hx : k < x.off
    · rw [if_pos hx]
      exact ⟨fun e => by omega, fun e => by simp at e⟩
    · rw [if_neg hx, List.nil_append, ← i2]
      exact ⟨fun e => by omega, fun e => by omega⟩
theorem cat_facts : ∀ {L : List Pc} (pre : List UInt8), Ris L → (∀ x ∈ L, (pre.length : Int) ≤ x.off) → gapsS (pre.length : Int) L = [] →
    (∀ x ∈ L, PieceOf (pre ++ catP L) x) ∧ (∀ j : Nat, pre.length ≤ j → j < (pre ++ catP L).length → ∃ x ∈ L, x.off ≤ (j : Int) ∧ (j : Int) < x.stop)
  | [], pre, _, _, _ => ⟨fun x h => (by cases h), fun j h1 h2 => by simp [catP] at h2; omega⟩
  | x :: L, pre, h, hk, hg => by
    have h1 := hk x (List.mem_cons_self ..)
    have h2 := x.stop_eq
    have h3 : x.len = (x.b.length : Int) := rfl
    have hx : ¬ (pre.length : Int) < x.off := fun c => by rw [gapsS, if_pos c] at hg; simp at hg
    have e : x.off = (pre.length : Int) := by omega
    rw [gapsS, if_neg hx, List.nil_append] at hg
    have es : x.stop = ((pre ++ x.b).length : Int) := by rw [List.length_append]; omega
    obtain ⟨i1, i2⟩ := cat_facts (pre ++ x.b) h.tail (fun y hy => by rw [← es]; exact ris_up h y hy) (by rw [← es]; exact hg)
    have ec : pre ++ catP (x :: L) = pre ++ x.b ++ catP L := by rw [catP, List.flatMap_cons, List.append_assoc]; rfl
    rw [ec]
    refine ⟨fun y hy => ?_, fun j hj hj2 => ?_⟩
    · rcases List.mem_cons.1 hy with rfl | hy
      · refine ⟨by omega, by rw [List.length_append, es]; omega, ?_⟩
        rw [e, Int.toNat_natCast, List.append_assoc, List.drop_left, List.take_left]
      · exact i1 y hy
    · by_cases hc : j < (pre ++ x.b).length
      · exact ⟨x, List.mem_cons_self .., by omega, by omega⟩
      · obtain ⟨y, hy, hc⟩ := i2 j (by omega) hj2
        exact ⟨y, List.mem_cons_of_mem _ hy, hc⟩
theorem Same.end_ {L l : List Pc} (h : Same L l) : endP l = if endedP L then farP L else -1 := by rw [← endP_perm h.ris h.perm]; exact ris_end h.ris
theorem up0 {L : List Pc} (h : Ris L) : ∀ x ∈ L, (0 : Int) ≤ x.off := fun x hx => (h.ok x hx).1
theorem last0 {L : List Pc} (h : Ris L) : lastS 0 L = farP L := by
  rw [lastS_max h (Int.le_refl _) (up0 h)]
  have := far_nn L
  omega
theorem Same.done {L l : List Pc} (h : Same L l) : doneB l = (endedP L && decide (gapsS 0 L = [])) ∧ (doneB l = true → doneP l = catP L) := by
  obtain ⟨b1, b2⟩ := bytes_gaps h.ris (up0 h.ris)
  rw [last0 h.ris] at b1 b2
  have hf := far_nn L
  have e1 : doneB l = (endedP L && decide (gapsS 0 L = [])) := by
    rw [doneB, h.end_, ← h.bytes, Bool.eq_iff_iff]
    by_cases he : endedP L = true
    · simp only [he, if_true, Bool.and_eq_true, decide_eq_true_eq, true_and]
      rw [← b2]
      exact ⟨fun ⟨_, g⟩ => by omega, fun g => ⟨hf, by omega⟩⟩
    · simp [he]
  refine ⟨e1, fun hd => ?_⟩
  have hd2 := hd
  rw [e1, Bool.and_eq_true, decide_eq_true_eq] at hd2
  obtain ⟨he, hg⟩ := hd2
  have hl : (farP L).toNat = (catP L).length := by have := catP_length L; have := b2.2 hg; omega
  rw [doneP, if_pos hd, h.end_, if_pos he, hl]
  obtain ⟨c1, c2⟩ := cat_facts (L := L) [] h.ris (fun x hx => (up0 h.ris x hx)) hg
  rw [List.nil_append] at c1 c2
  have hfill := fun (j : Nat) (hj : (List.replicate (catP L).length (0 : UInt8))[j]? = (catP L)[j]? ∨ ∃ x ∈ l, x.off ≤ (j : Int) ∧ (j : Int) < x.stop) =>
    fill_get (catP L) j l (List.replicate (catP L).length 0) (by simp) (fun x hx => c1 x (h.perm.mem_iff.2 hx)) hj
  refine List.ext_getElem? fun j => ?_
  by_cases hj : j < (catP L).length
  · refine (hfill j (.inr ?_)).1
    obtain ⟨x, hx, hc⟩ := c2 j (Nat.zero_le _) hj
    exact ⟨x, h.perm.mem_iff.1 hx, hc⟩
  · exact (hfill j (.inl (by rw [List.getElem?_eq_none (by simp; omega), List.getElem?_eq_none (by omega)]))).1
/-! ### Where nothing came yet -/
def flatG (l : List (Int × Int)) : List Nat := l.flatMap fun x => [x.1.toNat, x.2.toNat]
theorem gaps_unc (l : List Pc) (k : Nat) (out : List Nat) (h0 : gapsN l k = out) (hl : out.getLast? ≠ some k) : ∀ n : Nat, (∀ j : Nat, j < n → coverP l ((k + j : Nat) : Int) = false) → gapsN l (k + n) = if n = 0 then out else out ++ [k, k + n]
  | 0, _ => by rw [if_pos rfl]; exact h0
  | n + 1, hc => by
    have ih := gaps_unc l k out h0 hl n (fun j hj => hc j (by omega))
    rw [if_neg (by omega), ← Nat.add_assoc, gapsN, hc n (by omega), ih]
    rw [if_neg (by decide)]
    by_cases hn : n = 0
    · subst hn
      rw [if_pos rfl, gapStep, Nat.add_zero, if_neg hl]
    · rw [if_neg hn, gapStep, if_pos (by simp)]
      simp
theorem gaps_cov (l : List Pc) (k : Nat) : ∀ n : Nat, (∀ j : Nat, j < n → coverP l ((k + j : Nat) : Int) = true) → gapsN l (k + n) = gapsN l k
  | 0, _ => rfl
  | n + 1, hc => by
    rw [← Nat.add_assoc, gapsN, hc n (by omega), if_pos rfl]
    exact gaps_cov l k n (fun j hj => hc j (by omega))
theorem cover_up {k : Int} : ∀ {L : List Pc}, (∀ x ∈ L, k < x.off) → coverP L k = false := fun {L} h => by
  rw [coverP, List.any_eq_false]
  intro x hx
  have := h x hx
  simp; omega
theorem gaps_run (l : List Pc) : ∀ (L : List Pc) (k : Nat) (out : List Nat), Ris L → (∀ x ∈ L, (k : Int) ≤ x.off) → (∀ j : Int, (k : Int) ≤ j → coverP l j = coverP L j) → gapsN l k = out → ((∀ e, out.getLast? = some e → e < k) ∨ L = []) →
    gapsN l (lastS k L).toNat = out ++ flatG (gapsS k L)
  | [], k, out, _, _, _, h0, _ => by simp [lastS, gapsS, flatG, h0]
  | x :: L, k, out, h, hk, hc, h0, ho => by
    have ho1 : ∀ e, out.getLast? = some e → e < k := ho.resolve_right (by simp)
    have h1 := hk x (List.mem_cons_self ..)
    have h2 := x.stop_eq
    have h3 := x.len_nn
    have h4 := (h.ok x (List.mem_cons_self ..)).1
    have hun : ∀ j : Nat, j < x.off.toNat - k → coverP l ((k + j : Nat) : Int) = false := fun j hj => by
      rw [hc _ (by omega)]
      refine cover_up fun y hy => ?_
      rcases List.mem_cons.1 hy with rfl | hy
      · omega
      · have := (h.head y hy).2.1; omega
    have r1 := gaps_unc l k out h0 (fun e => by have := ho1 k e; omega) _ hun
    rw [show k + (x.off.toNat - k) = x.off.toNat by omega] at r1
    have hcv : ∀ j : Nat, j < x.b.length → coverP l ((x.off.toNat + j : Nat) : Int) = true := fun j hj => by
      rw [hc _ (by omega), coverP, List.any_eq_true]
      have : x.len = (x.b.length : Int) := rfl
      exact ⟨x, List.mem_cons_self .., by simp; omega⟩
    have r2 := gaps_cov l x.off.toNat x.b.length hcv
    have e3 : x.off.toNat + x.b.length = x.stop.toNat := by have : x.len = (x.b.length : Int) := rfl; omega
    rw [e3, r1] at r2
    have e4 : ((x.stop.toNat : Nat) : Int) = x.stop := by omega
    have ih := gaps_run l L x.stop.toNat _ h.tail (fun y hy => by rw [e4]; exact ris_up h y hy) (fun j hj => by
      rw [hc j (by omega), coverP, coverP, List.any_cons, show (decide (x.off ≤ j) && decide (j < x.stop)) = false by simp; omega, Bool.false_or]) r2 (by
      by_cases hL : L = []
      · exact .inr hL
      · left
        obtain ⟨y, hy⟩ := List.exists_mem_of_ne_nil L hL
        have g1 := h.full x (List.mem_cons_self ..) (h.head y hy).2.2
        intro e he
        split at he
        · have := ho1 e he; omega
        · simp at he; omega)
    rw [lastS, gapsS]
    rw [e4] at ih
    rw [ih]
    by_cases hx : (k : Int) < x.off
    · rw [if_pos hx, if_neg (by omega)]
      simp [flatG]
    · rw [if_neg hx, if_pos (by omega)]
      simp
theorem Same.gaps {L l : List Pc} (h : Same L l) : gapsP l = flatG (gapsS 0 L) := by
  have hf := far_nn L
  have e : (upP l).toNat = (lastS ((0 : Nat) : Int) L).toNat := by
    rw [show lastS ((0 : Nat) : Int) L = farP L from last0 h.ris, upP, h.end_, ← farP_perm h.perm]
    by_cases he : endedP L = true
    · rw [if_pos he, if_neg (by omega)]
    · rw [if_neg he, if_pos (by decide)]
  rw [gapsP, e, gaps_run l L 0 [] h.ris (fun x hx => up0 h.ris x hx) (fun j _ => (any_perm h.perm _).symm) rfl (.inl fun e h => by simp at h)]
  rfl
theorem gapsS_bounds : ∀ {k : Int} {L : List Pc}, Ris L → 0 ≤ k → (∀ x ∈ L, k ≤ x.off) → ∀ y ∈ gapsS k L, 0 ≤ y.1 ∧ y.1 < y.2 ∧ y.2 ≤ 65535
  | _, [], _, _, _, y, hy => by cases hy
  | k, x :: L, h, h0, hk, y, hy => by
    have h1 := h.ok x (List.mem_cons_self ..)
    have h2 := x.stop_eq
    have h3 := x.len_nn
    rw [gapsS] at hy
    rcases List.mem_append.1 hy with hy | hy
    · split at hy
      · rw [List.mem_singleton.1 hy]; exact ⟨h0, by assumption, by show x.off ≤ 65535; omega⟩
      · cases hy
    · exact gapsS_bounds h.tail (by omega) (ris_up h) y hy
end Go.Proofs.Ytpoigngpdcmipaa

/-
  Small words that every text of this seat uses: endings that agree, the string of bytes. Conditions: none; plain lemmas.
-/
namespace Go.Proofs.Ytpoigngpdcmipaa
open Go.RowKit

theorem ret_bool {a b : Bool} (h : a = b) : Ending.returned (.bool a) = .returned (.bool b) := by rw [h]
theorem ret_int {k : IntKind} {a b : Int} (h : a = b) : Ending.returned (.int k a) = .returned (.int k b) := by rw [h]
theorem ret_two {k : IntKind} {a b e : Int} (h : a = b) : Ending.returned (.tuple #[.int k a, .int .i64 e]) = .returned (.tuple #[.int k b, .int .i64 e]) := by rw [h]
theorem ret_str {a b : ByteArray} (h : a = b) : Ending.returned (.string a) = .returned (.string b) := by rw [h]

/-- The string of bytes. A plain definition. -/
def strB (bs : List UInt8) : ByteArray := ⟨bs.toArray⟩
theorem strB_eq (xs bs : List UInt8) : ((strB xs).toList == (strB bs).toList) = decide (xs = bs) := by
  rw [strB, strB, ByteArray.toList_mk, ByteArray.toList_mk, Bool.eq_iff_iff]; simp
theorem strB_append (xs bs : List UInt8) : strB xs ++ strB bs = strB (xs ++ bs) := by
  simp [strB, ByteArray.ext_iff]
theorem strB_size (bs : List UInt8) : (strB bs).size = bs.length := by simp [strB, ByteArray.size]
/-- '+' of two strings of bytes, within bounds. -/
theorem sadd (x y : List UInt8) (h : x.length + y.length ≤ 1000000) (w : World) : (Op.stringOp .add (strB x) (strB y)).run Try.prog w = .ok (.string (strB (x ++ y))) w := by
  have h1 := run_string_add_sum (P := Try.prog) (w := w) (strB x) (strB y) (by rw [strB_size, strB_size]; omega)
  rw [strB_append] at h1
  exact h1
end Go.Proofs.Ytpoigngpdcmipaa

/-
  Contracts of be's small functions (isSize, holds, Fits, number, cut), as read off the program's text: what each answers, and that no memory turns. Conditions are each theorem's own.
-/
namespace Go.Proofs.Ytpoigngpdcmipaa
open Go.RowKit

/-- A size is 1 to 4. -/
def sizeB (size : Int) : Bool := decide (1 ≤ size ∧ size ≤ 4)
theorem sizeB_yes {s : Int} (h1 : 1 ≤ s) (h2 : s ≤ 4) : sizeB s = true := by simp [sizeB, h1, h2]
theorem sizeB_no {s : Int} (h : s < 1 ∨ 4 < s) : sizeB s = false := by simp [sizeB]; omega

/-- The number that bytes are, the highest first. -/
def num : List UInt8 → Int := List.foldl (fun n x => n * 256 + (x.toNat : Int)) 0
theorem num_snoc (bs : List UInt8) (x : UInt8) : num (bs ++ [x]) = num bs * 256 + (x.toNat : Int) := by simp [num]
theorem num_take (bs : List UInt8) {k : Nat} (hk : k < bs.length) : num (bs.take (k + 1)) = num (bs.take k) * 256 + byt bs k := by
  rw [List.take_succ_eq_append_getElem hk, num_snoc]; simp [byt, hk]
theorem num_bd (bs : List UInt8) : 0 ≤ num bs ∧ num bs < 256 ^ bs.length := by
  suffices h : ∀ (bs : List UInt8) (n : Int) (k : Nat), 0 ≤ n → n < 256 ^ k → 0 ≤ List.foldl (fun n x => n * 256 + ((x : UInt8).toNat : Int)) n bs ∧ List.foldl (fun n x => n * 256 + ((x : UInt8).toNat : Int)) n bs < 256 ^ (k + bs.length) by
    simpa [num] using h bs 0 0 (by omega) (by simp)
  intro bs
  induction bs with
  | nil => intro n k h0 h1; simpa using ⟨h0, h1⟩
  | cons x l ih =>
    intro n k h0 h1
    have hx := x.toNat_lt
    have hp : (256 : Int) ^ (k + 1) = 256 ^ k * 256 := by rw [Int.pow_succ]
    have := ih (n * 256 + (x.toNat : Int)) (k + 1) (by omega) (by omega)
    simp only [List.foldl_cons, List.length_cons]
    rw [show k + (l.length + 1) = k + 1 + l.length from by omega]
    exact this
theorem num_small (bs : List UInt8) {k : Nat} (hk : k ≤ 3) : 0 ≤ num (bs.take k) ∧ num (bs.take k) < 16777216 := by
  have h := num_bd (bs.take k)
  refine ⟨h.1, Int.lt_of_lt_of_le h.2 ?_⟩
  have hl : (bs.take k).length ≤ 3 := by rw [List.length_take]; omega
  have h3 : (bs.take k).length = 0 ∨ (bs.take k).length = 1 ∨ (bs.take k).length = 2 ∨ (bs.take k).length = 3 := by omega
  rcases h3 with e | e | e | e <;> rw [e] <;> decide

/-- 256 to the power of k. A plain definition. -/
def pw (k : Nat) : Int := 256 ^ k
theorem pw_succ (k : Nat) : pw (k + 1) = pw k * 256 := by simp [pw, Int.pow_succ]
theorem pw_pos (k : Nat) : 1 ≤ pw k := by induction k with | zero => simp [pw] | succ k ih => rw [pw_succ]; omega
theorem pw_le {k : Nat} (h : k ≤ 4) : pw k ≤ 4294967296 := by
  have : k = 0 ∨ k = 1 ∨ k = 2 ∨ k = 3 ∨ k = 4 := by omega
  rcases this with rfl | rfl | rfl | rfl | rfl <;> decide

/-- Fits: n is a number of so many bytes. -/
def fitsB (n s : Int) : Bool := decide (1 ≤ s ∧ s ≤ 4 ∧ 0 ≤ n ∧ n < pw s.toNat)

theorem fitsB_iff {n s : Int} : fitsB n s = true ↔ 1 ≤ s ∧ s ≤ 4 ∧ 0 ≤ n ∧ n < pw s.toNat := by simp [fitsB]

/-! ### Get -/

/-- The number of size bytes from at on, and the error's number. -/
def getV (bs : List UInt8) (at_ s : Int) : Int := if 1 ≤ s ∧ s ≤ 4 ∧ 0 ≤ at_ ∧ at_ ≤ (bs.length : Int) - s then num ((bs.drop at_.toNat).take s.toNat) else 0
def getE (n : Nat) (at_ s : Int) : Int := if 1 ≤ s ∧ s ≤ 4 ∧ 0 ≤ at_ then (if at_ ≤ (n : Int) - s then 0 else 3) else 1
theorem getV_no {bs : List UInt8} {at_ s : Int} (h : ¬ (1 ≤ s ∧ s ≤ 4 ∧ 0 ≤ at_ ∧ at_ ≤ (bs.length : Int) - s)) : getV bs at_ s = 0 := by rw [getV, if_neg h]
theorem getE_arg {n : Nat} {at_ s : Int} (h : ¬ (1 ≤ s ∧ s ≤ 4 ∧ 0 ≤ at_)) : getE n at_ s = 1 := by rw [getE, if_neg h]
theorem getE_short {n : Nat} {at_ s : Int} (h : 1 ≤ s ∧ s ≤ 4 ∧ 0 ≤ at_) (h2 : ¬ at_ ≤ (n : Int) - s) : getE n at_ s = 3 := by rw [getE, if_pos h, if_neg h2]
theorem getE_ok {n : Nat} {at_ s : Int} (h : 1 ≤ s ∧ s ≤ 4 ∧ 0 ≤ at_) (h2 : at_ ≤ (n : Int) - s) : getE n at_ s = 0 := by rw [getE, if_pos h, if_pos h2]
theorem getV_ok {bs : List UInt8} {a s : Nat} (h1 : 1 ≤ s) (h4 : s ≤ 4) (h : a + s ≤ bs.length) : getV bs a s = num ((bs.drop a).take s) := by
  rw [getV, if_pos (by omega)]; simp

theorem byt_cut (bs : List UInt8) (a s : Nat) {j : Nat} (hj : j < s) : byt ((bs.drop a).take s) j = byt bs (a + j) := by
  unfold byt; rw [List.getElem?_take, if_pos hj, List.getElem?_drop]
theorem len_cut {bs : List UInt8} {a s : Nat} (h : a + s ≤ bs.length) : ((bs.drop a).take s).length = s := by simp; omega

theorem Rd.cut {w : World} {B b off : Nat} {bs : List UInt8} (a s : Nat) (hs : a + s ≤ bs.length) (hb : b < B)
    (hc : ∀ j, j < bs.length → w.cell? ⟨b, off + j, none⟩ = some (.int .u8 (byt bs j))) : Rd w B (some ⟨b, off + a, none⟩) ((bs.drop a).take s) := fun _ =>
  ⟨b, off + a, rfl, hb, fun j hj => by
    rw [len_cut hs] at hj
    rw [byt_cut bs a s hj, Nat.add_assoc]
    exact hc _ (by omega)⟩

end Go.Proofs.Ytpoigngpdcmipaa

/-
  Contracts of be's functions that make memory: roomy, digits and its iterator, write, Put, Set, Words and its iterator. Conditions are each theorem's own.
-/
namespace Go.Proofs.Ytpoigngpdcmipaa
open Go.RowKit Go.Shelf
attribute [local go_sem] Oper.semAt_some

theorem info_u8 : (Try.prog.info? 5).map (fun i => (i.zero, i.size, i.bytes)) = some (some (.int .u8 0), 1, 1) := by kernel_rfl
theorem size_u8 : (Try.prog.info? 5).map (·.size) = some 1 := by kernel_rfl
theorem made_rep (z : Value) (n : Nat) : madeCells #[z] n = (List.replicate n z).toArray := by
  apply Array.ext'; rw [toList_madeCells_one]

/-- bytes, and noughts behind them up to n. -/
def pad (bs : List UInt8) (n : Nat) : List UInt8 := bs ++ List.replicate (n - bs.length) 0
theorem pad_length {bs : List UInt8} {n : Nat} (h : bs.length ≤ n) : (pad bs n).length = n := by simp [pad]; omega
theorem row_pad (bs : List UInt8) (n : Nat) : splice (List.replicate n (.int .u8 0)) 0 (row bs) = row (pad bs n) := by
  simp [splice, row, pad]


theorem roomy_src {w : World} {B : Nat} {A : Option Addr} {bs : List UInt8} (h : Rd w B A bs) (hB : B ≤ w.heap.size) (o : Obj) (hp : 0 < (row bs).length) :
    some (⟨w.heap.size, 0, none⟩ : Addr) = some ⟨w.heap.size, 0, none⟩ ∧ ∃ ad, A = some ad ∧ ∀ j v, (row bs)[j]? = some v → (w.alloc o).cell? (ad.add j) = some v := by
  rw [row_length] at hp
  obtain ⟨b, off, rfl, hb, hc⟩ := (h.alloc hB o) hp
  refine ⟨rfl, _, rfl, fun j v hv => ?_⟩
  have hj : j < bs.length := by have := (List.getElem?_eq_some_iff.1 hv).1; rwa [row_length] at this
  rw [row_getD bs hj hv]
  rw [add_off]; exact hc j hj

/-! ### What a round keeps -/

/-- The blocks from lo on and below hi lie as they lay. -/
def Holds (lo hi : Nat) (W W' : World) : Prop := W.heap.size ≤ W'.heap.size ∧ ∀ k, lo ≤ k → k < hi → W'.heap[k]? = W.heap[k]?
theorem Holds.refl (lo hi : Nat) (W : World) : Holds lo hi W W := ⟨Nat.le_refl _, fun _ _ _ => rfl⟩
theorem Holds.trans {lo hi : Nat} {A B C : World} (h : Holds lo hi A B) (k : Holds lo hi B C) : Holds lo hi A C :=
  ⟨Nat.le_trans h.1 k.1, fun i h1 h2 => (k.2 i h1 h2).trans (h.2 i h1 h2)⟩
theorem Holds.b {lo hi : Nat} {w : World} (hh : hi ≤ w.heap.size) (W : World) (l : Nat) (o o' : Obj) (hl : w.heap.size ≤ l) (_ : W.heap[l]? = some o) (_ : o.isCells = false) (_ : o.isWalk = false) : Holds lo hi W (W.putObj l o') :=
  ⟨by simp, fun k _ h2 => World.putObj_heap_other (by omega)⟩
theorem Holds.setCell {lo hi : Nat} {W : World} {p : Addr} (hp : p.block < lo ∨ hi ≤ p.block) (v : Value) : Holds lo hi W (W.setCell p v) :=
  ⟨by simp [World.setCell], fun k h1 h2 => Below.heap_setCell W p v k (by omega)⟩
theorem Holds.of_below {lo hi B : Nat} {W W' : World} (h : Below B W W') (hB : hi ≤ B) : Holds lo hi W W' := ⟨h.size, fun k _ h2 => h.block k (by omega)⟩
theorem Holds.cell {lo hi : Nat} {W W' : World} (h : Holds lo hi W W') {p : Addr} (h1 : lo ≤ p.block) (h2 : p.block < hi) : W'.cell? p = W.cell? p := World.cell?_of_block (w := W) (h.2 p.block h1 h2)
theorem Holds.rd {lo hi : Nat} {W W' : World} (h : Holds lo hi W W') {b off n : Nat} {bs : List UInt8} (h1 : lo ≤ b) (h2 : b < hi)
    (hc : ∀ j, j < n → W.cell? ⟨b, off + j, none⟩ = some (.int .u8 (byt bs j))) : ∀ j, j < n → W'.cell? ⟨b, off + j, none⟩ = some (.int .u8 (byt bs j)) :=
  fun j hj => (h.cell (p := ⟨b, off + j, none⟩) h1 h2).trans (hc j hj)

/-! ### digits -/

/-- The byte at place i of n in s bytes. -/
def dig (n : Int) (s i : Nat) : UInt8 := UInt8.ofNat (n / pw (s - 1 - i)).toNat
theorem dig_val {n : Int} (h : 0 ≤ n) (s i : Nat) : ((dig n s i).toNat : Int) = n / pw (s - 1 - i) % 256 := by
  have h1 : 0 ≤ n / pw (s - 1 - i) := Int.ediv_nonneg h (by have := pw_pos (s - 1 - i); omega)
  simp only [dig, UInt8.toNat_ofNat']
  omega
def digs (n : Int) (s : Nat) : List UInt8 := (List.range s).map (dig n s)
theorem digs_length (n : Int) (s : Nat) : (digs n s).length = s := by simp [digs]

/-- The places of s, the first k. -/
def ups (s k : Nat) : List { i : Nat // i < s } := (List.range k).filterMap fun i => if h : i < s then some ⟨i, h⟩ else none
theorem ups_succ {s k : Nat} (h : k < s) : ups s (k + 1) = ups s k ++ [⟨k, h⟩] := by
  simp [ups, List.range_succ, List.filterMap_append, h]
theorem ups_length {s k : Nat} (h : k ≤ s) : (ups s k).length = k := by
  induction k with
  | zero => simp [ups]
  | succ k ih => rw [ups_succ (by omega)]; simp [ih (by omega)]

/-- What yield is handed. -/
def encD (n : Int) (s : Nat) (x : { i : Nat // i < s }) : Array Value := #[.int .i64 (x.1 : Int), .int .u8 ((dig n s x.1).toNat : Int)]

theorem shift_dig {n : Int} (h : 0 ≤ n) {s i : Nat} (hi : i < s) (h4 : s ≤ 4) :
    ((dig n s i).toNat : Int) = n / 2 ^ (8 * (s - 1 - i)) % 256 := by
  rw [dig_val h]
  obtain ⟨m, hm⟩ : ∃ m, m = s - 1 - i := ⟨_, rfl⟩
  rw [← hm]
  have h4 : m = 0 ∨ m = 1 ∨ m = 2 ∨ m = 3 := by omega
  rcases h4 with rfl | rfl | rfl | rfl <;> simp [pw]

/-! ### write -/

/-- What the cells are when the places of pre are written. -/
def setD (bs : List UInt8) (off : Nat) (n : Int) (s : Nat) (pre : List { i : Nat // i < s }) : List UInt8 := pre.foldl (fun l x => l.set (off + x.1) (dig n s x.1)) bs
theorem setD_snoc (bs : List UInt8) (off : Nat) (n : Int) (s : Nat) (pre : List { i : Nat // i < s }) (x : { i : Nat // i < s }) :
    setD bs off n s (pre ++ [x]) = (setD bs off n s pre).set (off + x.1) (dig n s x.1) := by simp [setD]
theorem setD_length (bs : List UInt8) (off : Nat) (n : Int) (s : Nat) (pre : List { i : Nat // i < s }) : (setD bs off n s pre).length = bs.length := by
  unfold setD
  induction pre generalizing bs with
  | nil => rfl
  | cons x l ih => rw [List.foldl_cons, ih, List.length_set]
theorem splice_set {α : Type} (bs ds : List α) (off : Nat) (x : α) (h : off + ds.length < bs.length) : (splice bs off ds).set (off + ds.length) x = splice bs off (ds ++ [x]) := by
  apply List.ext_getElem?
  intro i
  simp only [splice, List.getElem?_set, List.getElem?_append, List.length_take, List.length_append, List.length_drop, List.getElem?_drop, List.getElem?_take, List.length_cons, List.length_nil]
  by_cases h1 : i < off
  · have e : ¬ off + ds.length = i := by omega
    have e1 : i < min off bs.length := by omega
    simp [e, e1]
  · by_cases h2 : i < off + ds.length
    · have e : ¬ off + ds.length = i := by omega
      have e1 : ¬ i < min off bs.length := by omega
      have e2 : i - min off bs.length < ds.length := by omega
      have e3 : i - min off bs.length < ds.length + 1 := by omega
      simp [e, e1, e2, e3]
    · by_cases h3 : i = off + ds.length
      · subst h3
        have e1 : ¬ off + ds.length < min off bs.length := by omega
        have e2 : ¬ off + ds.length - min off bs.length < ds.length := by omega
        have e3 : off + ds.length - min off bs.length < ds.length + 1 := by omega
        have e4 : off + ds.length - min off bs.length - ds.length = 0 := by omega
        simp [e1, e2, e3, e4]
        omega
      · have e : ¬ off + ds.length = i := by omega
        have e1 : ¬ i < min off bs.length := by omega
        have e2 : ¬ i - min off bs.length < ds.length := by omega
        have e3 : ¬ i - min off bs.length < ds.length + 1 := by omega
        simp [e, e1, e2, e3]
        congr 1
        omega
theorem setD_ups (bs : List UInt8) (off : Nat) (n : Int) (s k : Nat) (hk : k ≤ s) (h : off + s ≤ bs.length) : setD bs off n s (ups s k) = splice bs off ((List.range k).map (dig n s)) := by
  induction k with
  | zero => simp [ups, setD, splice]
  | succ k ih =>
    rw [ups_succ (by omega), setD_snoc, ih (by omega), List.range_succ, List.map_append, List.map_singleton]
    have hl : ((List.range k).map (dig n s)).length = k := by simp
    have := splice_set bs ((List.range k).map (dig n s)) off (dig n s k) (by rw [hl]; omega)
    rw [hl] at this
    exact this
theorem setD_all (bs : List UInt8) (off : Nat) (n : Int) (s : Nat) (h : off + s ≤ bs.length) : setD bs off n s (ups s s) = splice bs off (digs n s) := setD_ups bs off n s s (Nat.le_refl _) h
theorem row_set (bs : List UInt8) (i : Nat) (x : UInt8) : (row bs).toArray.setIfInBounds i (.int .u8 (x.toNat : Int)) = (row (bs.set i x)).toArray := by
  simp [row, List.map_set]

theorem heap_set {W : World} {g t : Nat} {cs : Array Value} (h : W.heap[g]? = some (.cells cs t (0, 0))) (i : Nat) (v : Value) :
    (W.setCell ⟨g, i, none⟩ v).heap[g]? = some (.cells (cs.setIfInBounds i v) t (0, 0)) := by
  simp [World.setCell, Array.getElem?_modify, h]
theorem heap_frozen {W : World} {g t : Nat} {cs : Array Value} (h : W.heap[g]? = some (.cells cs t (0, 0))) (i : Nat) : W.frozen? ⟨g, i, none⟩ = false := by
  simp [World.frozen?, h]
theorem heap_lt {W : World} {g : Nat} {o : Obj} (h : W.heap[g]? = some o) : g < W.heap.size := (Array.getElem?_eq_some_iff.1 h).1
theorem row_cell {W : World} {g t : Nat} {bs : List UInt8} (h : W.heap[g]? = some (.cells (row bs).toArray t (0, 0))) {i : Nat} (hi : i < bs.length) :
    W.cell? ⟨g, i, none⟩ = some (.int .u8 (byt bs i)) := by
  rw [cell_of_row W g i _ t (0, 0) h]
  simpa using row_get bs hi
/-- Only block g, and what is new, has turned. -/
theorem grown_then {a w w' : World} {g B : Nat} {r : Option Nat} (h : a.grownBy w (some g)) (hg : w.grownBy w' r) (hB : a.heap.size ≤ B) (hr : ∀ k, r = some k → B ≤ k) : a.grownBy w' (some g) :=
  ⟨hg.os.trans h.os, hg.tape.trans h.tape, hg.output.trans h.output, Nat.le_trans h.size hg.size, fun i hi hne => (hg.block i (Nat.lt_of_lt_of_le hi h.size) (fun e => by have := hr i e.symm; omega)).trans (h.block i hi hne)⟩
theorem grown_set {a w : World} {g : Nat} (h : a.grownBy w (some g)) (i : Nat) (v : Value) : a.grownBy (w.setCell ⟨g, i, none⟩ v) (some g) :=
  ⟨h.os, h.tape, h.output, by simpa [World.setCell] using h.size, fun k hk hne => (Below.heap_setCell w ⟨g, i, none⟩ v k (fun e => hne (by rw [e]))).trans (h.block k hk hne)⟩
theorem grown_below {a w : World} {g : Nat} (h : Below a.heap.size a w) : a.grownBy w (some g) := ⟨h.os, h.tape, h.output, h.size, fun i hi _ => h.block i hi⟩

/-! ### New slices of bytes -/

/-- v is a slice of the bytes bs in memory that came after w; nothing of w has turned. -/
def Made (w w' : World) (v : Value) (bs : List UInt8) : Prop :=
  ∃ A c, v = .slice A bs.length c ∧ bs.length ≤ c ∧ Rd w' w'.heap.size A bs ∧ w'.ownsRow w.heap.size 5 1 v bs.length (row bs) ∧ Below w.heap.size w w'
theorem Made.of_own {w w' : World} {v : Value} {bs : List UInt8} (h : w'.ownsRow w.heap.size 5 1 v bs.length (row bs)) (hb : Below w.heap.size w w') : Made w w' v bs := by
  have h' := h
  rcases h'.2 with ⟨rfl, h0⟩ | ⟨g, cap, cur, rfl, _, _, hle, _⟩
  · obtain rfl : bs = [] := List.eq_nil_of_length_eq_zero h0
    exact ⟨none, 0, rfl, Nat.le_refl _, Rd.nil, h, hb⟩
  · exact ⟨_, cap, rfl, hle, Rd.of_own rfl h, h, hb⟩
theorem Made.nil (w w' : World) (hb : Below w.heap.size w w') : Made w w' (.slice none 0 0) [] := Made.of_own (World.ownsRow_nil _ _ _ _) hb
theorem own_of_block {w : World} {base g t : Nat} {bs : List UInt8} (hb : base ≤ g) (h : w.heap[g]? = some (.cells (row bs).toArray t (0, 0))) (hm : bs.length ≤ 1099511627780) :
    w.ownsRow base t 1 (.slice (some ⟨g, 0, none⟩) bs.length bs.length) bs.length (row bs) :=
  ⟨by simp [row_length], .inr ⟨g, bs.length, (row bs).toArray, rfl, hb, h, Nat.le_refl _, by unfold maxLen; omega, by simp [row_length], by rw [Nat.mul_one, List.take_of_length_le (by simp [row_length])]⟩⟩

/-- Put: bs, and n's bytes behind, if it fits. -/
def putB (bs : List UInt8) (n s : Int) : List UInt8 := if fitsB n s then bs ++ digs n s.toNat else bs
theorem splice_end (bs : List UInt8) (k : Nat) (ds : List UInt8) (h : ds.length = k) : splice (pad bs (bs.length + k)) bs.length ds = bs ++ ds := by
  simp [splice, pad, ← h]

/-! ### Set -/
def setE (len : Nat) (at_ n s : Int) : Int := if fitsB n s then getE len at_ s else 1
def setB (bs : List UInt8) (at_ n s : Int) : List UInt8 := if fitsB n s ∧ 0 ≤ at_ ∧ at_ ≤ (bs.length : Int) - s then splice bs at_.toNat (digs n s.toNat) else []

end Go.Proofs.Ytpoigngpdcmipaa

/-
  Contracts of bytes.Clone and bytes.Equal, as read off the library's text, and a law for append whose source reads as bytes. Conditions are each theorem's own.
-/
namespace Go.Proofs.Ytpoigngpdcmipaa
open Go.RowKit

theorem Rd.src {w : World} {B : Nat} {ad : Addr} {bs : List UInt8} (h : Rd w B (some ad) bs) : ∀ j v, (row bs)[j]? = some v → w.cell? (ad.add j) = some v := fun j v hv => by
  have hj : j < bs.length := by have := (List.getElem?_eq_some_iff.1 hv).1; rwa [row_length] at this
  obtain ⟨b, off, e, _, hc⟩ := h (by omega)
  injection e with e
  subst e
  rw [row_getD bs hj hv, add_off]; exact hc j hj

/-- append onto a row of the call's own, of a source that reads as bytes. -/
theorem append_rd {w : World} {ops : Array Oper} {rest : List Oper} {o : Oper} {a : Act} {Q : Exit → Act → World → Prop} (hgd : o.guard = none) (s x : Operand)
    (ho : o.op = .call { callee := .builtin .append, args := #[s, x], argTypes := #[31, 31] })
    (base : Nat) (v : Value) (n : Nat) (xs : List Value) (hs : a.eval s = v) (hown : w.ownsRow base 5 1 v n xs)
    (B : Nat) (A : Option Addr) (c : Nat) (bs : List UInt8) (hx : a.eval x = .slice A bs.length c) (hA : A = none → c = 0) (hr : Rd w B A bs)
    (hlen : n + bs.length ≤ 2199023255552) (hbase : base ≤ w.heap.size)
    (h : ∀ v' w', w'.ownsRow base 5 1 v' (n + bs.length) (xs ++ row bs) → w.grownBy w' v.ownBlock → wpList Try.prog ops Q rest (a.put o.dst v') w') : wpList Try.prog ops Q (o :: rest) a w := by
  obtain ⟨i0, hi, hz0, hz1, hz2⟩ := info_parts info_u8
  rcases A with _ | ad
  · have h0 : bs = [] := by
      rcases Nat.eq_zero_or_pos bs.length with e | e
      · exact List.eq_nil_of_length_eq_zero e
      · obtain ⟨_, _, e', _⟩ := hr e; cases e'
    subst h0
    obtain rfl := hA rfl
    exact wpList_append_own_none hgd s x 31 ho base 5 i0 1 Try.underlying31 hi v n xs hs hown hx (h v w (by simpa [row] using hown) (World.grownBy.refl w _))
  · exact wpList_append_own w hgd s x 31 ho base 5 i0 (.int .u8 0) 1 1 Try.underlying31 hi hz0 hz1 hz2 rfl (by decide) v n xs hs hown ad bs.length c (row bs) hx
      (by rw [row_length, Nat.mul_one]) hr.src (row_one bs) (by unfold maxLen; omega) (by omega) hbase (fun v' w' h1 h2 _ => h v' w' h1 h2)

theorem own_block_ge {w : World} {base e size n : Nat} {v : Value} {xs : List Value} (h : w.ownsRow base e size v n xs) : ∀ k, v.ownBlock = some k → base ≤ k := by
  intro k hk
  rcases h.2 with ⟨rfl, _⟩ | ⟨g, cap, cur, rfl, hb, _⟩
  · simp [Value.ownBlock] at hk
  · simp [Value.ownBlock] at hk; omega

set_option maxHeartbeats 1000000 in
theorem clone_any (A : Option Addr) (bs : List UInt8) (c B : Nat) (w : World) (h : Arg w B A c bs) (hB : B ≤ w.heap.size) (hl : bs.length ≤ 1099511627776) :
    Calls Try.prog 25 #[.slice A bs.length c] w fun e w' => ∃ v, e = .returned v ∧ Made w w' v bs := by
  have q22 : ∀ (w : World) (a : Option Addr) (n c n' c' : Nat), (binOp .eql 31 (.slice a n c) (.slice none n' c')).run Try.prog w = .ok (.bool a.isNone) w := fun w a n c n' c' => Lib.run_eql_slice_nil w _ _ a n c n' c' Try.underlying31
  rcases A with _ | ad
  · have h0 : bs = [] := by
      rcases Nat.eq_zero_or_pos bs.length with e | e
      · exact List.eq_nil_of_length_eq_zero e
      · obtain ⟨_, _, e', _⟩ := h.rd e; cases e'
    subst h0
    go_enter Try.func25, Try.ntmps25
    go_wp2
    go_ret
    exact ⟨_, rfl, Made.nil _ _ (Below.refl _ _)⟩
  · have hr := h.rd
    have hn := h.none_
    go_enter Try.func25, Try.ntmps25
    go_wp2_with (at_builtin; refine append_rd rfl _ _ rfl w.heap.size _ _ _ rfl (World.ownsRow_made w #[] 0 (Nat.le_refl _) (Nat.zero_le _) rfl) B (some ad) c bs rfl hn (hr.alloc hB _) (by omega) (by simp) ?_; intro v' w1 hown hgrow)
    go_ret
    refine ⟨_, rfl, Made.of_own (by simpa using hown) (((Below.refl _ w).alloc (Nat.le_refl _) _).grown hgrow (by simp) (fun k hk => own_block_ge (World.ownsRow_made (base := w.heap.size) (e := 5) (size := 1) w #[] 0 (Nat.le_refl _) (Nat.zero_le _) rfl) k hk))⟩

theorem conv_any (A : Option Addr) (bs : List UInt8) (c B : Nat) (w : World) (h : Rd w B A bs) :
    (convert 31 9 (.slice A bs.length c)).run Try.prog w = .ok (.string (strB bs)) w := by
  rcases Nat.eq_zero_or_pos bs.length with h0 | h0
  · obtain rfl : bs = [] := List.eq_nil_of_length_eq_zero h0
    rw [List.length_nil, run_convert_bytes_string w 31 9 5 _ 0 c Try.underlying31 Try.underlying5 Try.underlying9]
    cases A <;> simp [Conv.bytesToString, loadCells] <;> rfl
  · obtain ⟨b, off, rfl, _, hc⟩ := h h0
    have := run_convert_bytes_arg (P := Try.prog) w 31 5 Try.underlying31 Try.underlying5 b off bs.length c (bs.map fun x => (x.toNat : Int)) (by simp)
      (fun i hi => by rw [hc i hi]; simp [byt, hi]) 9 Try.underlying9
    rw [this]
    simp [strOfNums, strB, Function.comp_def]

theorem equal_any (A A' : Option Addr) (xs bs : List UInt8) (c c' B B' : Nat) (w : World) (h : Rd w B A xs) (h' : Rd w B' A' bs) :
    Calls Try.prog 20 #[.slice A xs.length c, .slice A' bs.length c'] w fun e w' => e = .returned (.bool (decide (xs = bs))) ∧ w = w' := by
  have h1 := conv_any A xs c B w h
  have h2 := conv_any A' bs c' B' w h'
  rw [← strB_eq]
  clear h h'
  go_enter Try.func20, Try.ntmps20
  go_wp2
  go_ret
  exact ⟨rfl, rfl⟩
end Go.Proofs.Ytpoigngpdcmipaa

/-
  Contract of be.Words and of the iterator that it hands back: it tells the pairs of bytes in order, each with its number. Conditions are each theorem's own.
-/
namespace Go.Proofs.Ytpoigngpdcmipaa
open Go.RowKit Go.Shelf
attribute [local go_sem] Oper.semAt_some

/-- The number of pair i (a byte that is not there is 0), and where it begins. Plain definitions. -/
def wrd (bs : List UInt8) (i : Nat) : Int := byt bs (2 * i) * 256 + byt bs (2 * i + 1)
def dbl (i : Nat) : Int := ((2 * i : Nat) : Int)
theorem byt_beyond {bs : List UInt8} {j : Nat} (h : bs.length ≤ j) : byt bs j = 0 := by simp [byt, List.getElem?_eq_none h]
theorem wrd_bd (bs : List UInt8) (i : Nat) : 0 ≤ wrd bs i ∧ wrd bs i ≤ 65535 := by
  have := byt_lo bs (2 * i); have := byt_lo bs (2 * i + 1); have := byt_hi bs (2 * i); have := byt_hi bs (2 * i + 1)
  unfold wrd; omega
def encW (bs : List UInt8) (i : Nat) : Array Value := #[.int .i64 (dbl i), .int .i64 (wrd bs i)]
/-- How many pairs. -/
def prs (n : Nat) : Nat := (n + 1) / 2

theorem byt_pad (bs : List UInt8) (n j : Nat) : byt (pad bs n) j = byt bs j := by
  unfold byt pad
  by_cases h : j < bs.length
  · rw [List.getElem?_append_left h]
  · rw [List.getElem?_append_right (by omega), List.getElem?_eq_none (l := bs) (by omega)]
    by_cases h2 : j - bs.length < n - bs.length
    · rw [List.getElem?_replicate, if_pos h2]; rfl
    · rw [List.getElem?_replicate, if_neg h2]
theorem num_two (bs : List UInt8) (h : bs.length = 2) : num bs = byt bs 0 * 256 + byt bs 1 := by
  match bs, h with
  | [x, y], _ => simp [num, byt]

end Go.Proofs.Ytpoigngpdcmipaa

/-
  Contracts of the document's plain answers of layer 1: Word, Put, Set. Conditions are each theorem's own.
-/
namespace Go.Proofs.Ytpoigngpdcmipaa
open Go.RowKit

theorem Rd.one {W : World} {v : Int} {x : UInt8} (t : TypeId) (h : v = (x.toNat : Int)) : Rd (W.alloc (.cells #[.int .u8 v] t)) (W.heap.size + 1) (some ⟨W.heap.size, 0, none⟩) [x] :=
  Rd.of_block (g := W.heap.size) (World.alloc_heap_new W _) (Nat.lt_succ_self _) 0 (fun j hj => by
    have : j = 0 := by simpa using hj
    subst this; simp [h, byt])

theorem dig_wrap {n : Int} (h : 0 ≤ n) (s i : Nat) : n / pw (s - 1 - i) % 256 = ((dig n s i).toNat : Int) := (dig_val h s i).symm

end Go.Proofs.Ytpoigngpdcmipaa

/-
  Contract of layer 1's awake: it answers true, and turns nothing that was there. Conditions: none.
-/
namespace Go.Proofs.Ytpoigngpdcmipaa
open Go.RowKit

theorem equal_awake (A A' : Option Addr) (c c' B B' : Nat) (w : World) (h : Rd w B A [1, 2]) (h' : Rd w B' A' [1, 2]) :
    Calls Try.prog 20 #[.slice A 2 c, .slice A' 2 c'] w fun e w' => e = .returned (.bool true) ∧ w = w' := by
  have := equal_any A A' [1, 2] [1, 2] c c' B B' w h h'
  rw [show decide ([(1 : UInt8), 2] = [1, 2]) = true from by decide] at this
  exact this

theorem Rd.two {W : World} (t : TypeId) : Rd (W.alloc (.cells #[.int .u8 1, .int .u8 2] t)) (W.heap.size + 1) (some ⟨W.heap.size, 0, none⟩) [1, 2] :=
  Rd.of_block (g := W.heap.size) (World.alloc_heap_new W _) (Nat.lt_succ_self _) 0 (fun j hj => by
    have : j = 0 ∨ j = 1 := by simp at hj; omega
    rcases this with rfl | rfl <;> rfl)

theorem num_digs {n : Int} {k : Nat} (h1 : 1 ≤ k) (h4 : k ≤ 4) (h0 : 0 ≤ n) (hn : n < pw k) : num (digs n k) = n := by
  have hv := fun i => dig_val h0 k i
  have hk : k = 1 ∨ k = 2 ∨ k = 3 ∨ k = 4 := by omega
  rcases hk with rfl | rfl | rfl | rfl
  · have v0 := hv 0
    simp [pw] at v0 hn
    simp only [digs, num, List.range_succ, List.range_zero, List.nil_append, List.map_cons, List.map_nil, List.foldl_cons, List.foldl_nil, v0]
    omega
  · have v0 := hv 0; have v1 := hv 1
    simp [pw] at v0 v1 hn
    simp only [digs, num, List.range_succ, List.range_zero, List.nil_append, List.cons_append, List.map_cons, List.map_nil, List.foldl_cons, List.foldl_nil, v0, v1]
    omega
  · have v0 := hv 0; have v1 := hv 1; have v2 := hv 2
    simp [pw] at v0 v1 v2 hn
    simp only [digs, num, List.range_succ, List.range_zero, List.nil_append, List.cons_append, List.map_cons, List.map_nil, List.foldl_cons, List.foldl_nil, v0, v1, v2]
    omega
  · have v0 := hv 0; have v1 := hv 1; have v2 := hv 2; have v3 := hv 3
    simp [pw] at v0 v1 v2 v3 hn
    simp only [digs, num, List.range_succ, List.range_zero, List.nil_append, List.cons_append, List.map_cons, List.map_nil, List.foldl_cons, List.foldl_nil, v0, v1, v2, v3]
    omega

/-- Get of what Put put behind is the number. -/
theorem get_put (bs : List UInt8) {n s : Int} (h : fitsB n s = true) :
    getV (putB bs n s) bs.length s = n ∧ getE (putB bs n s).length bs.length s = 0 ∧ (putB bs n s).length ≤ bs.length + 4 := by
  have hf := fitsB_iff.1 h
  obtain ⟨k, rfl⟩ := Int.eq_ofNat_of_zero_le (show 0 ≤ s by omega)
  have hp : putB bs n k = bs ++ digs n k := by simp [putB, h]
  have hl : (bs ++ digs n k).length = bs.length + k := by rw [List.length_append, digs_length]
  rw [hp]
  refine ⟨?_, getE_ok ⟨hf.1, hf.2.1, by omega⟩ (by rw [hl]; omega), by rw [hl]; omega⟩
  rw [getV_ok (by omega) (by omega) (by omega), List.drop_left, List.take_of_length_le (by rw [digs_length]; exact Nat.le_refl _)]
  exact num_digs (by omega) (by omega) hf.2.2.1 (by simpa using hf.2.2.2)

theorem equal_same (A A' : Option Addr) (bs : List UInt8) (c c' B B' : Nat) (w : World) (h : Rd w B A bs) (h' : Rd w B' A' bs) :
    Calls Try.prog 20 #[.slice A bs.length c, .slice A' bs.length c'] w fun e w' => e = .returned (.bool true) ∧ w = w' := by
  have := equal_any A A' bs bs c c' B B' w h h'
  rw [show decide (bs = bs) = true from by simp] at this
  exact this

/-! ### For ranges over Words -/
theorem dbl_lt {n i : Nat} (h : i < prs n) : dbl i < (n : Int) := by unfold prs at h; unfold dbl; omega
theorem dbl_ne {i j : Nat} (h : i ≠ j) : (dbl i != dbl j) = true := by rw [bne_iff_ne]; unfold dbl; omega
theorem dbl_succ (i : Nat) : dbl (i + 1) = dbl i + 2 := by unfold dbl; omega
theorem dbl_bd {n i : Nat} (h : i ≤ prs n) : 0 ≤ dbl i ∧ dbl i ≤ (n : Int) + 1 := by unfold prs at h; unfold dbl; omega
theorem dbl_all (n : Nat) : (n : Int) ≤ dbl (prs n) ∧ dbl (prs n) ≤ (n : Int) + 1 := by unfold prs dbl; omega
theorem Boxed.below {W W' : World} {B t : Nat} {v : Value} {B' : Nat} (h : Boxed W B t v) (hb : Below B' W W') (hB : B < B') : Boxed W' B t v := (hb.block B hB).trans h
theorem below_drewN {B : Nat} {a w : World} (h : Below B a w) (n : Nat) : Below B a (w.drewN n) := ⟨h.os, h.tape, h.output, h.size, h.block⟩
theorem Holds.drewN {lo hi : Nat} {W W' : World} (h : Holds lo hi W W') (n : Nat) : Holds lo hi W (W'.drewN n) := h
theorem KeepsFrom.drewN {B : Nat} {W W' : World} (h : KeepsFrom B W W') (n : Nat) : KeepsFrom B W (W'.drewN n) := ⟨h.size, h.same⟩

theorem box_keep {X Y : World} {B t n : Nat} {v : Value} {r : Option Nat} (h : Boxed X B t v) (hg : X.grownBy Y r) (hr : ∀ k, r = some k → n ≤ k ∧ ∃ o : Obj, X.heap[k]? = some o ∧ o.isCells = false) : Boxed Y B t v :=
  Own.from (boxed_own (β := Unit) B t (fun _ => v)) n () X Y r h hg hr
theorem below_keep {w X Y : World} {n n0 : Nat} {r : Option Nat} (h : Below n0 w X) (hg : X.grownBy Y r) (hr : ∀ k, r = some k → n ≤ k ∧ ∃ o : Obj, X.heap[k]? = some o ∧ o.isCells = false) (hn : n0 ≤ n) (hw : n0 ≤ w.heap.size) : Below n0 w Y :=
  h.grown hg (Nat.le_trans hw h.size) (fun k e => Nat.le_trans hn (hr k e).1)
end Go.Proofs.Ytpoigngpdcmipaa
