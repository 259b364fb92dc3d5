/-
  Contracts and lemmas on which the proofs of this seat stand (several texts in one). Conditions are each theorem's own.
-/
import Derived.Test.YtafidbjaeopciaaDoorBb1
import Derived.ProofKit
import Derived.OpenShut
import Derived.ChangeMaps5
import Derived.Test.YtafidbjaeopciaaDoorBb2

/-
  Parts that come in any order, in plain lists: what is answered, what is put together, what is missing. No program. Conditions are each theorem's own.
-/
namespace Go.Proofs.YtafidbjaeopciaaDoor
open Go.RowKit

/-- A part. -/
structure Pc where
  off : Int
  more : Bool
  b : List UInt8
  deriving DecidableEq
def Pc.len (p : Pc) : Int := (p.b.length : Int)
def Pc.stop (p : Pc) : Int := p.off + p.len
def sharing (x p : Pc) : Bool := (decide (0 < x.len) && decide (0 < p.len) && decide (x.off < p.stop) && decide (p.off < x.stop)) || (x.off == p.off && x.len == 0 && p.len == 0)
def sameP (l : List Pc) (p : Pc) : Bool := l.any fun x => decide (x = p)
def sharesP (l : List Pc) (p : Pc) : Bool := l.any fun x => sharing x p
/-- Where the last part ends; none: -1. -/
def endP : List Pc → Int
  | [] => -1
  | x :: l => if x.more then endP l else x.stop
def farP : List Pc → Int
  | [] => 0
  | x :: l => max x.stop (farP l)
def bytesP : List Pc → Int
  | [] => 0
  | x :: l => x.len + bytesP l
def badP (p : Pc) : Prop := p.off < 0 ∨ (p.more = true ∧ (p.len = 0 ∨ p.len % 8 ≠ 0))
instance (p : Pc) : Decidable (badP p) := by unfold badP; exact inferInstance
def lateP (l : List Pc) (p : Pc) : Prop := (p.more = false ∧ (0 ≤ endP l ∨ farP l > p.stop)) ∨ (0 ≤ endP l ∧ p.stop > endP l)
instance (l : List Pc) (p : Pc) : Decidable (lateP l p) := by unfold lateP; exact inferInstance
def addE (l : List Pc) (p : Pc) : Int :=
  if badP p then 4 else if p.off > 65535 - p.len then 6 else if sameP l p then 0 else if sharesP l p then 9 else if lateP l p then 4 else 0
def addL (l : List Pc) (p : Pc) : List Pc := if addE l p = 0 then (if sameP l p then l else l ++ [p]) else l
def roomP (l : List Pc) (off : Int) (b : List UInt8) : Int := if sameP l ⟨off, true, b⟩ || sameP l ⟨off, false, b⟩ then 0 else (b.length : Int)
/-- Bytes laid over others from a place on. -/
def layB (out : List UInt8) (k : Nat) (b : List UInt8) : List UInt8 := out.take k ++ b ++ out.drop (k + b.length)
def fillP : List Pc → List UInt8 → List UInt8
  | [], out => out
  | x :: l, out => fillP l (layB out x.off.toNat x.b)
def doneB (l : List Pc) : Bool := decide (0 ≤ endP l) && decide (bytesP l = endP l)
def doneP (l : List Pc) : List UInt8 := if doneB l then fillP l (List.replicate (endP l).toNat 0) else []
def coverP (l : List Pc) (k : Int) : Bool := l.any fun x => decide (x.off ≤ k) && decide (k < x.stop)
def upP (l : List Pc) : Int := if endP l < 0 then farP l else endP l
/-- The spans that no part has, up to a place; two numbers each. -/
def gapStep (out : List Nat) (k : Nat) : List Nat := if out.getLast? = some k then out.dropLast ++ [k + 1] else out ++ [k, k + 1]
def gapsN (l : List Pc) : Nat → List Nat
  | 0 => []
  | k + 1 => if coverP l k then gapsN l k else gapStep (gapsN l k) k
def gapsP (l : List Pc) : List Nat := gapsN l (upP l).toNat
theorem gapStep_length (out : List Nat) (k : Nat) : (gapStep out k).length ≤ out.length + 2 := by
  unfold gapStep; split <;> simp <;> omega
theorem gapsN_length (l : List Pc) : ∀ k, (gapsN l k).length ≤ 2 * k
  | 0 => Nat.le_refl _
  | k + 1 => by
    have h := gapsN_length l k
    have h2 := gapStep_length (gapsN l k) k
    rw [gapsN]; split <;> omega

theorem layB_length {out : List UInt8} {k : Nat} {b : List UInt8} (h : k + b.length ≤ out.length) : (layB out k b).length = out.length := by
  simp only [layB, List.length_append, List.length_take, List.length_drop]; omega
theorem layB_get {out : List UInt8} {k : Nat} {b : List UInt8} (h : k + b.length ≤ out.length) (j : Nat) :
    (layB out k b)[j]? = if k ≤ j ∧ j < k + b.length then b[j - k]? else out[j]? := by
  unfold layB
  by_cases h1 : j < k
  · rw [if_neg (by omega), List.append_assoc, List.getElem?_append_left (by simp; omega), List.getElem?_take, if_pos h1]
  · by_cases h2 : j < k + b.length
    · rw [if_pos ⟨by omega, h2⟩, List.append_assoc, List.getElem?_append_right (by simp; omega), List.length_take, Nat.min_eq_left (by omega), List.getElem?_append_left (by omega)]
    · rw [if_neg (by omega), List.getElem?_append_right (by simp; omega), List.getElem?_drop]
      congr 1
      simp only [List.length_append, List.length_take]; omega
/-! ### A text, cut -/
/-- Each part is a piece of the text, where it stands. -/
def PieceOf (b : List UInt8) (x : Pc) : Prop := 0 ≤ x.off ∧ x.stop ≤ (b.length : Int) ∧ x.b = (b.drop x.off.toNat).take x.b.length
theorem fill_get (b : List UInt8) (j : Nat) : ∀ (l : List Pc) (out : List UInt8), out.length = b.length → (∀ x ∈ l, PieceOf b x) → (out[j]? = b[j]? ∨ ∃ x ∈ l, x.off ≤ (j : Int) ∧ (j : Int) < x.stop) →
    (fillP l out)[j]? = b[j]? ∧ (fillP l out).length = b.length
  | [], out, hl, _, h => by
    rcases h with h | ⟨x, hx, _⟩
    · exact ⟨h, hl⟩
    · cases hx
  | x :: l, out, hl, hp, h => by
    obtain ⟨p1, p2, p3⟩ := hp x (List.mem_cons_self ..)
    have hs : x.stop = x.off + (x.b.length : Int) := rfl
    have hfit : x.off.toNat + x.b.length ≤ out.length := by omega
    refine fill_get b j l (layB out x.off.toNat x.b) (by rw [layB_length hfit]; exact hl) (fun y hy => hp y (List.mem_cons_of_mem _ hy)) ?_
    have hcov : x.off ≤ (j : Int) ∧ (j : Int) < x.stop → (layB out x.off.toNat x.b)[j]? = b[j]? := fun ⟨h1, h2⟩ => by
      rw [layB_get hfit, if_pos ⟨by omega, by omega⟩, p3, List.getElem?_take, List.getElem?_drop]
      rw [if_pos (by omega)]
      congr 1; omega
    rcases h with h | ⟨y, hy, hc⟩
    · left
      by_cases hc : x.off ≤ (j : Int) ∧ (j : Int) < x.stop
      · exact hcov hc
      · rw [layB_get hfit, if_neg (by omega)]; exact h
    · rcases List.mem_cons.1 hy with rfl | hy
      · exact .inl (hcov hc)
      · exact .inr ⟨y, hy, hc⟩
/-- Parts that stand one behind the other from a place on, and are the text; the last one alone is no more. -/
inductive Chain (b : List UInt8) : Nat → List Pc → Prop
  | last {k : Nat} (h : k ≤ b.length) (he : k = b.length → k = 0) : Chain b k [⟨(k : Int), false, b.drop k⟩]
  | more {k n : Nat} {l : List Pc} (hn : 0 < n) (h8 : n % 8 = 0) (hk : k + n < b.length) (h : Chain b (k + n) l) : Chain b k (⟨(k : Int), true, (b.drop k).take n⟩ :: l)
theorem Chain.facts {b : List UInt8} : ∀ {k : Nat} {l : List Pc}, Chain b k l →
    (∀ x ∈ l, PieceOf b x ∧ (k : Int) ≤ x.off ∧ ¬ badP x ∧ (x.more = true → x.stop < (b.length : Int)) ∧ (x.more = false → x.stop = (b.length : Int)) ∧ (0 < b.length → 0 < x.len)) ∧
    bytesP l = (b.length : Int) - (k : Int) ∧ endP l = (b.length : Int) ∧ (∀ j : Nat, k ≤ j → j < b.length → ∃ x ∈ l, x.off ≤ (j : Int) ∧ (j : Int) < x.stop) ∧
    l.Pairwise (fun x y => x.stop ≤ y.off ∧ x.more = true ∧ x.off < y.off) := by
  intro k l h
  induction h with
  | @last k h he =>
    have hl : (b.drop k).length = b.length - k := List.length_drop
    have hs : (Pc.mk (k : Int) false (b.drop k)).stop = (b.length : Int) := by simp only [Pc.stop, Pc.len, hl]; omega
    have hle : (Pc.mk (k : Int) false (b.drop k)).len = (b.length : Int) - (k : Int) := by simp only [Pc.len, hl]; omega
    refine ⟨fun x hx => ?_, ?_, ?_, fun j h1 h2 => ⟨_, List.mem_cons_self .., ?_, ?_⟩, List.pairwise_singleton _ _⟩
    · rw [List.mem_singleton.1 hx]
      refine ⟨⟨Int.natCast_nonneg k, by rw [hs]; exact Int.le_refl _, ?_⟩, Int.le_refl _, ?_, fun e => (by cases e), fun _ => hs, fun h0 => by rw [hle]; omega⟩
      · show b.drop k = (b.drop k).take (b.drop k).length
        rw [List.take_length]
      · rintro (h1 | ⟨h1, _⟩)
        · have : (k : Int) < 0 := h1
          omega
        · cases h1
    · show _ + 0 = _
      rw [hle]; omega
    · show (if false = true then _ else _) = _
      rw [if_neg (by decide)]; exact hs
    · show (k : Int) ≤ j; omega
    · rw [hs]; omega
  | @more k n l hn h8 hk _ ih =>
    obtain ⟨i1, i2, i3, i4, i5⟩ := ih
    have hl : ((b.drop k).take n).length = n := by rw [List.length_take, List.length_drop]; omega
    have hs : (Pc.mk (k : Int) true ((b.drop k).take n)).stop = ((k + n : Nat) : Int) := by simp only [Pc.stop, Pc.len, hl]; omega
    have hle : (Pc.mk (k : Int) true ((b.drop k).take n)).len = (n : Int) := by simp only [Pc.len, hl]
    refine ⟨fun x hx => ?_, ?_, ?_, fun j h1 h2 => ?_, ?_⟩
    · rcases List.mem_cons.1 hx with rfl | hx
      · refine ⟨⟨Int.natCast_nonneg k, by rw [hs]; omega, ?_⟩, Int.le_refl _, ?_, fun _ => by rw [hs]; omega, fun e => (by cases e), fun _ => by rw [hle]; omega⟩
        · show (b.drop k).take n = (b.drop k).take ((b.drop k).take n).length
          rw [hl]
        · rintro (h1 | ⟨_, h1⟩)
          · have : (k : Int) < 0 := h1
            omega
          · rw [hle] at h1; omega
      · obtain ⟨a1, a2, a3, a4, a5, a6⟩ := i1 x hx
        exact ⟨a1, by omega, a3, a4, a5, a6⟩
    · show _ + bytesP l = _
      rw [hle, i2]; omega
    · show (if true = true then _ else _) = _
      rw [if_pos rfl]; exact i3
    · by_cases hj : j < k + n
      · exact ⟨_, List.mem_cons_self .., by show (k : Int) ≤ j; omega, by rw [hs]; omega⟩
      · obtain ⟨x, hx, hc⟩ := i4 j (by omega) h2
        exact ⟨x, List.mem_cons_of_mem _ hx, hc⟩
    · refine List.pairwise_cons.2 ⟨fun y hy => ?_, i5⟩
      obtain ⟨_, a2, _⟩ := i1 y hy
      exact ⟨by rw [hs]; exact a2, rfl, by show (k : Int) < y.off; omega⟩
theorem endP_cases : ∀ s : List Pc, endP s = -1 ∨ ∃ y ∈ s, y.more = false ∧ endP s = y.stop
  | [] => .inl rfl
  | x :: s => by
    cases hm : x.more with
    | false => exact .inr ⟨x, List.mem_cons_self .., hm, by rw [endP, hm]; rfl⟩
    | true =>
      have e : endP (x :: s) = endP s := by rw [endP, hm]; rfl
      rcases endP_cases s with h | ⟨y, hy, h1, h2⟩
      · exact .inl (e.trans h)
      · exact .inr ⟨y, List.mem_cons_of_mem _ hy, h1, e.trans h2⟩
theorem farP_le {n : Int} : ∀ s : List Pc, 0 ≤ n → (∀ x ∈ s, x.stop ≤ n) → farP s ≤ n
  | [], h, _ => h
  | x :: s, h, hs => by
    have h1 := farP_le s h (fun y hy => hs y (List.mem_cons_of_mem _ hy))
    have h2 := hs x (List.mem_cons_self ..)
    rw [farP]; omega
theorem sameP_iff {s : List Pc} {p : Pc} : sameP s p = true ↔ p ∈ s := by simp [sameP]
theorem bytesP_perm {s l : List Pc} (h : List.Perm s l) : bytesP s = bytesP l := by
  induction h with
  | nil => rfl
  | cons x _ ih => rw [bytesP, bytesP, ih]
  | swap x y l => simp only [bytesP]; omega
  | trans _ _ h1 h2 => exact h1.trans h2
theorem pair_of {R : Pc → Pc → Prop} : ∀ {l : List Pc}, l.Pairwise R → ∀ {x y : Pc}, x ∈ l → y ∈ l → x ≠ y → R x y ∨ R y x
  | [], _, _, _, h, _, _ => by cases h
  | a :: l, h, x, y, hx, hy, hne => by
    obtain ⟨h1, h2⟩ := List.pairwise_cons.1 h
    rcases List.mem_cons.1 hx with e1 | hx1
    · rcases List.mem_cons.1 hy with e2 | hy1
      · exact absurd (e1.trans e2.symm) hne
      · rw [e1]; exact .inl (h1 y hy1)
    · rcases List.mem_cons.1 hy with e2 | hy1
      · rw [e2]; exact .inr (h1 x hx1)
      · exact pair_of h2 hx1 hy1 hne
/-- A part of a text that is cut is taken, in whatever order; a second time nothing changes. -/
theorem order_add {b : List UInt8} {l s : List Pc} {p : Pc} (h : Chain b 0 l) (hb : b.length ≤ 65535) (hs : ∀ x ∈ s, x ∈ l) (hp : p ∈ l) :
    addE s p = 0 ∧ addL s p = if p ∈ s then s else s ++ [p] := by
  obtain ⟨f1, _, _, _, f5⟩ := h.facts
  obtain ⟨⟨p1, p2, _⟩, p3, p4, p5, p6, p7⟩ := f1 p hp
  have hst : p.stop = p.off + p.len := rfl
  by_cases hm : p ∈ s
  · have he : addE s p = 0 := by rw [addE, if_neg p4, if_neg (by omega), if_pos (sameP_iff.2 hm)]
    exact ⟨he, by rw [addL, if_pos he, if_pos (sameP_iff.2 hm), if_pos hm]⟩
  · have hns : ¬ sameP s p = true := fun e => hm (sameP_iff.1 e)
    have hsh : ¬ sharesP s p = true := fun e => by
      obtain ⟨x, hx, hxp⟩ := List.any_eq_true.1 e
      have hxs : x.stop = x.off + x.len := rfl
      have hne : x ≠ p := fun e => hm (e ▸ hx)
      simp only [sharing, Bool.or_eq_true, Bool.and_eq_true, decide_eq_true_eq, beq_iff_eq] at hxp
      rcases pair_of f5 (hs x hx) hp hne with ⟨r1, _, r3⟩ | ⟨r1, _, r3⟩ <;> omega
    have hlt : ¬ lateP s p := by
      have hle : ∀ y ∈ s, y.stop ≤ (b.length : Int) := fun y hy => (f1 y (hs y hy)).1.2.1
      have hend : endP s = -1 ∨ endP s = (b.length : Int) := by
        rcases endP_cases s with h0 | ⟨y, hy, h1, h2⟩
        · exact .inl h0
        · exact .inr (h2.trans ((f1 y (hs y hy)).2.2.2.2.1 h1))
      rintro (⟨h1, h2 | h2⟩ | ⟨h1, h2⟩)
      · rcases endP_cases s with h0 | ⟨y, hy, g1, g2⟩
        · omega
        · have hne : y ≠ p := fun e => hm (e ▸ hy)
          rcases pair_of f5 (hs y hy) hp hne with ⟨_, r2, _⟩ | ⟨_, r2, _⟩
          · rw [g1] at r2; cases r2
          · rw [h1] at r2; cases r2
      · have := farP_le s (by omega) hle
        have := p6 h1
        omega
      · rcases hend with e | e <;> omega
    have he : addE s p = 0 := by rw [addE, if_neg p4, if_neg (by omega), if_neg hns, if_neg hsh, if_neg hlt]
    exact ⟨he, by rw [addL, if_pos he, if_neg hns, if_neg hm]⟩
/-- All parts together are the text. -/
theorem order_done {b : List UInt8} {l s : List Pc} (h : Chain b 0 l) (hs : List.Perm s l) : doneB s = true ∧ doneP s = b := by
  obtain ⟨f1, f2, f3, f4, f5⟩ := h.facts
  have hmem : ∀ x, x ∈ s ↔ x ∈ l := fun x => hs.mem_iff
  have hend : endP s = (b.length : Int) := by
    rcases endP_cases s with h0 | ⟨y, hy, h1, h2⟩
    · exfalso
      rcases endP_cases l with g0 | ⟨z, hz, g1, g2⟩
      · omega
      · have key : ∀ (q : List Pc), (∀ x ∈ q, x ∈ l) → z ∈ q → endP q ≠ -1 := fun q => by
          induction q with
          | nil => intro _ h; cases h
          | cons a q ih =>
            intro ha hq
            rw [endP]
            split
            · rcases List.mem_cons.1 hq with e | hq
              · rename_i hb; rw [← e, g1] at hb; cases hb
              · exact ih (fun x hx => ha x (List.mem_cons_of_mem _ hx)) hq
            · rename_i hb
              have h9 := (f1 a (ha a (List.mem_cons_self ..))).2.2.2.2.1 (by simpa using hb)
              rw [h9]; omega
        exact key s (fun x hx => (hmem x).1 hx) ((hmem z).2 hz) h0
    · exact h2.trans ((f1 y ((hmem y).1 hy)).2.2.2.2.1 h1)
  have hby : bytesP s = (b.length : Int) := by rw [bytesP_perm hs, f2]; simp
  have hd : doneB s = true := by simp only [doneB, Bool.and_eq_true, decide_eq_true_eq]; omega
  refine ⟨hd, ?_⟩
  rw [doneP, if_pos hd, hend]
  refine List.ext_getElem? fun j => ?_
  have hfill := fun (j : Nat) (hj : j < b.length) => fill_get b j s (List.replicate (b.length : Int).toNat 0) (by simp) (fun x hx => (f1 x ((hmem x).1 hx)).1) (.inr (by
    obtain ⟨x, hx, hc⟩ := f4 j (Nat.zero_le _) hj
    exact ⟨x, (hmem x).2 hx, hc⟩))
  by_cases hj : j < b.length
  · exact (hfill j hj).1
  · rcases Nat.eq_zero_or_pos b.length with h0 | h0
    · obtain rfl : b = [] := List.eq_nil_of_length_eq_zero h0
      have := fill_get [] j s (List.replicate (([] : List UInt8).length : Int).toNat 0) (by simp) (fun x hx => (f1 x ((hmem x).1 hx)).1) (.inl (by simp))
      exact this.1
    · have := (hfill 0 h0).2
      rw [List.getElem?_eq_none (by omega), List.getElem?_eq_none (by omega)]
/-- Parts of which none ends behind the last one. -/
def wfP (L : List Pc) : Prop := 0 ≤ endP L → ∀ x ∈ L, x.stop ≤ endP L
theorem le_farP : ∀ {l : List Pc} {x : Pc}, x ∈ l → x.stop ≤ farP l
  | a :: l, x, h => by
    rw [farP]
    rcases List.mem_cons.1 h with rfl | h
    · omega
    · have := le_farP h; omega
theorem endP_app_more {m : List Pc} : ∀ {l : List Pc}, (∀ x ∈ l, x.more = true) → endP (l ++ m) = endP m
  | [], _ => rfl
  | a :: l, h => by
    rw [List.cons_append, endP, if_pos (h a (List.mem_cons_self ..))]
    exact endP_app_more fun x hx => h x (List.mem_cons_of_mem _ hx)
theorem endP_app_last {m : List Pc} : ∀ {l : List Pc}, (∃ x ∈ l, x.more = false) → endP (l ++ m) = endP l
  | [], ⟨_, h, _⟩ => by cases h
  | a :: l, ⟨x, hx, hm⟩ => by
    rw [List.cons_append, endP, endP]
    cases ha : a.more with
    | false => rfl
    | true =>
      rw [if_pos rfl, if_pos rfl]
      rcases List.mem_cons.1 hx with rfl | hx
      · rw [hm] at ha; cases ha
      · exact endP_app_last ⟨x, hx, hm⟩
theorem endP_last : ∀ {l : List Pc}, (∃ x ∈ l, x.more = false) → ∃ y ∈ l, y.more = false ∧ endP l = y.stop
  | [], ⟨_, h, _⟩ => by cases h
  | a :: l, ⟨x, hx, hm⟩ => by
    cases ha : a.more with
    | false => exact ⟨a, List.mem_cons_self .., ha, by rw [endP, ha]; rfl⟩
    | true =>
      have h1 : ∃ x ∈ l, x.more = false := by
        rcases List.mem_cons.1 hx with rfl | hx
        · rw [hm] at ha; cases ha
        · exact ⟨x, hx, hm⟩
      obtain ⟨y, hy, h2, h3⟩ := endP_last h1
      exact ⟨y, List.mem_cons_of_mem _ hy, h2, by rw [endP, ha, if_pos rfl, h3]⟩
theorem addL_cases (l : List Pc) (p : Pc) : addL l p = l ∨ (addL l p = l ++ [p] ∧ addE l p = 0 ∧ ¬ badP p ∧ ¬ p.off > 65535 - p.len ∧ ¬ sharesP l p = true ∧ ¬ lateP l p) := by
  by_cases he : addE l p = 0
  · by_cases hs : sameP l p = true
    · exact .inl (by rw [addL, if_pos he, if_pos hs])
    · right
      refine ⟨by rw [addL, if_pos he, if_neg hs], he, ?_⟩
      unfold addE at he
      by_cases h1 : badP p
      · rw [if_pos h1] at he; omega
      · rw [if_neg h1] at he
        by_cases h2 : p.off > 65535 - p.len
        · rw [if_pos h2] at he; omega
        · rw [if_neg h2, if_neg hs] at he
          by_cases h3 : sharesP l p = true
          · rw [if_pos h3] at he; omega
          · rw [if_neg h3] at he
            by_cases h4 : lateP l p
            · rw [if_pos h4] at he; omega
            · exact ⟨h1, h2, h3, h4⟩
  · exact .inl (by rw [addL, if_neg he])
/-- What Add keeps ends where the last part ends, still. -/
theorem addL_wf {l : List Pc} {p : Pc} (h : wfP l) : wfP (addL l p) := by
  rcases addL_cases l p with e | ⟨e, _, hb, _, _, hl⟩
  · rw [e]; exact h
  · rw [e]
    by_cases hm : ∃ x ∈ l, x.more = false
    · intro hend x hx
      rw [endP_app_last hm] at hend ⊢
      rcases List.mem_append.1 hx with hx | hx
      · exact h hend x hx
      · rw [List.mem_singleton.1 hx]
        have : ¬ (p.stop > endP l) := fun h1 => hl (.inr ⟨hend, h1⟩)
        omega
    · have hall : ∀ x ∈ l, x.more = true := fun x hx => by
        cases hc : x.more with
        | true => rfl
        | false => exact absurd ⟨x, hx, hc⟩ hm
      intro hend x hx
      rw [endP_app_more hall] at hend ⊢
      cases hp : p.more with
      | true =>
        have : endP [p] = -1 := by rw [endP, hp]; rfl
        omega
      | false =>
        have h1 : endP [p] = p.stop := by rw [endP, hp]; rfl
        rw [h1]
        rcases List.mem_append.1 hx with hx | hx
        · have h2 := le_farP hx
          have : ¬ (farP l > p.stop) := fun h3 => hl (.inl ⟨hp, .inr h3⟩)
          omega
        · rw [List.mem_singleton.1 hx]; omega
/-- What Add keeps lies within a packet, still. -/
theorem addL_in {l : List Pc} {p : Pc} (h0 : ∀ x ∈ l, 0 ≤ x.off ∧ x.stop ≤ 65535) : ∀ x ∈ addL l p, 0 ≤ x.off ∧ x.stop ≤ 65535 := by
  rcases addL_cases l p with e | ⟨e, _, hb, hf, _, _⟩
  · rw [e]; exact h0
  · rw [e]
    intro x hx
    rcases List.mem_append.1 hx with hx | hx
    · exact h0 x hx
    · rw [List.mem_singleton.1 hx]
      have h1 : ¬ p.off < 0 := fun h => hb (.inl h)
      have h2 : p.stop = p.off + p.len := rfl
      omega
theorem wfP_nil : wfP [] := fun _ x hx => by cases hx
end Go.Proofs.YtafidbjaeopciaaDoor

/-
  Parts in rising order, in plain lists: what is asked of those beside a place is what the document asks of all; where one more is put in; what they are together. No program. Conditions are each theorem's own.
-/
namespace Go.Proofs.YtafidbjaeopciaaDoor
open Go.RowKit

theorem Pc.len_nn (x : Pc) : 0 ≤ x.len := Int.natCast_nonneg _
theorem Pc.stop_eq (x : Pc) : x.stop = x.off + x.len := rfl
/-- Rising parts that share no place; but the last one each is more, and has bytes. -/
structure Ris (L : List Pc) : Prop where
  ok : ∀ x ∈ L, 0 ≤ x.off ∧ x.stop ≤ 65535
  full : ∀ x ∈ L, x.more = true → 0 < x.len
  pw : L.Pairwise fun x y => x.stop ≤ y.off ∧ x.more = true
theorem Ris.nil : Ris [] := ⟨fun _ h => (by cases h), fun _ h => (by cases h), List.Pairwise.nil⟩
theorem Ris.tail {a : Pc} {L : List Pc} (h : Ris (a :: L)) : Ris L := ⟨fun x hx => h.ok x (List.mem_cons_of_mem _ hx), fun x hx => h.full x (List.mem_cons_of_mem _ hx), (List.pairwise_cons.1 h.pw).2⟩
theorem Ris.head {a : Pc} {L : List Pc} (h : Ris (a :: L)) : ∀ y ∈ L, a.stop ≤ y.off ∧ a.off < y.off ∧ a.more = true := fun y hy => by
  obtain ⟨h1, h2⟩ := (List.pairwise_cons.1 h.pw).1 y hy
  have h3 := h.full a (List.mem_cons_self ..) h2
  have h4 := a.stop_eq
  exact ⟨h1, by omega, h2⟩
/-- How many parts begin ahead of a place. -/
def atP (L : List Pc) (off : Int) : Nat := L.countP fun x => decide (x.off < off)
theorem atP_le (L : List Pc) (off : Int) : atP L off ≤ L.length := List.countP_le_length
theorem at_split : ∀ {L : List Pc} (off : Int), Ris L → (∀ x ∈ L.take (atP L off), x.off < off) ∧ (∀ x ∈ L.drop (atP L off), off ≤ x.off)
  | [], _, _ => ⟨fun x h => by simp at h, fun x h => by simp at h⟩
  | a :: L, off, h => by
    obtain ⟨i1, i2⟩ := at_split off h.tail
    by_cases ha : a.off < off
    · have e : atP (a :: L) off = atP L off + 1 := by simp [atP, ha]
      rw [e, List.take_succ_cons, List.drop_succ_cons]
      exact ⟨fun x hx => by
        rcases List.mem_cons.1 hx with rfl | hx
        · exact ha
        · exact i1 x hx, i2⟩
    · have e : atP (a :: L) off = 0 := by
        rw [atP, List.countP_eq_zero]
        intro x hx
        rcases List.mem_cons.1 hx with rfl | hx
        · simpa using ha
        · have := (h.head x hx).2.1
          simp; omega
      rw [e]
      refine ⟨fun x hx => by simp at hx, fun x hx => ?_⟩
      rcases List.mem_cons.1 (by simpa using hx) with rfl | hx
      · omega
      · have := (h.head x hx).2.1
        omega
/-- The parts on both sides of a place. -/
def nearP (L : List Pc) (off : Int) : List Pc := (L.drop (atP L off - 1)).take (min (atP L off + 1) L.length - (atP L off - 1))
theorem near_sub {L : List Pc} {off : Int} : ∀ x ∈ nearP L off, x ∈ L := fun _ hx => List.mem_of_mem_drop (List.mem_of_mem_take hx)
theorem near_at {L : List Pc} {off : Int} {k : Nat} (h1 : atP L off - 1 ≤ k) (h2 : k < atP L off + 1) {x : Pc} (hx : L[k]? = some x) : x ∈ nearP L off := by
  have hk := (List.getElem?_eq_some_iff.1 hx).1
  refine List.mem_of_getElem? (i := k - (atP L off - 1)) ?_
  rw [nearP, List.getElem?_take, if_pos (by omega), List.getElem?_drop, show atP L off - 1 + (k - (atP L off - 1)) = k by omega, hx]
theorem idx_rel {L : List Pc} (h : Ris L) {i j : Nat} {x y : Pc} (hij : i < j) (hx : L[i]? = some x) (hy : L[j]? = some y) : x.stop ≤ y.off ∧ x.off < y.off ∧ x.more = true := by
  obtain ⟨hi, ex⟩ := List.getElem?_eq_some_iff.1 hx
  obtain ⟨hj, ey⟩ := List.getElem?_eq_some_iff.1 hy
  have h1 := List.pairwise_iff_getElem.1 h.pw i j hi hj hij
  rw [ex, ey] at h1
  have h3 := h.full x (List.mem_of_getElem? hx) h1.2
  have h4 := x.stop_eq
  exact ⟨h1.1, by omega, h1.2⟩
theorem at_lt {L : List Pc} (h : Ris L) (off : Int) {k : Nat} {x : Pc} (hx : L[k]? = some x) : (k < atP L off → x.off < off) ∧ (atP L off ≤ k → off ≤ x.off) := by
  obtain ⟨h1, h2⟩ := at_split off h
  refine ⟨fun hk => h1 x (List.mem_of_getElem? (i := k) ?_), fun hk => h2 x (List.mem_of_getElem? (i := k - atP L off) ?_)⟩
  · rw [List.getElem?_take, if_pos hk]; exact hx
  · rw [List.getElem?_drop, show atP L off + (k - atP L off) = k by omega]; exact hx
def alikeP (p x : Pc) : Bool := p.off == x.off && decide (p.b = x.b)
def meetsP (p x : Pc) : Bool := decide (max p.off x.off < min p.stop x.stop)
theorem near_same {L : List Pc} (h : Ris L) (p : Pc) (f : Pc → Bool) (hf : ∀ x ∈ L, f x = true → x.off = p.off) : (nearP L p.off).any f = L.any f := by
  rw [Bool.eq_iff_iff, List.any_eq_true, List.any_eq_true]
  refine ⟨fun ⟨x, hx, h1⟩ => ⟨x, near_sub x hx, h1⟩, fun ⟨x, hx, h1⟩ => ⟨x, ?_, h1⟩⟩
  obtain ⟨k, hk⟩ := List.getElem?_of_mem hx
  have ho := hf x hx h1
  have hat := at_lt h p.off hk
  have h2 : atP L p.off ≤ k := by
    rcases Nat.lt_or_ge k (atP L p.off) with g | g
    · have := hat.1 g; omega
    · exact g
  refine near_at (by omega) ?_ hk
  rcases Nat.lt_or_ge k (atP L p.off + 1) with g | g
  · exact g
  · exfalso
    have hkl := (List.getElem?_eq_some_iff.1 hk).1
    obtain ⟨y, hy⟩ : ∃ y, L[atP L p.off]? = some y := ⟨_, List.getElem?_eq_getElem (by omega)⟩
    have r := (idx_rel h (by omega) hy hk).2.1
    have := (at_lt h p.off hy).2 (Nat.le_refl _)
    omega
theorem meets_iff (p x : Pc) : meetsP p x = true ↔ 0 < x.len ∧ 0 < p.len ∧ x.off < p.stop ∧ p.off < x.stop := by
  have h1 := p.stop_eq
  have h2 := x.stop_eq
  simp only [meetsP, decide_eq_true_eq]
  omega
theorem near_meets {L : List Pc} (h : Ris L) (p : Pc) : (nearP L p.off).any (meetsP p) = L.any (meetsP p) := by
  rw [Bool.eq_iff_iff, List.any_eq_true, List.any_eq_true]
  refine ⟨fun ⟨x, hx, h1⟩ => ⟨x, near_sub x hx, h1⟩, fun ⟨x, hx, h1⟩ => ?_⟩
  obtain ⟨k, hk⟩ := List.getElem?_of_mem hx
  have hkl := (List.getElem?_eq_some_iff.1 hk).1
  have hat := at_lt h p.off hk
  obtain ⟨m1, m2, m3, m4⟩ := (meets_iff p x).1 h1
  by_cases g1 : k < atP L p.off - 1
  · exfalso
    obtain ⟨y, hy⟩ : ∃ y, L[atP L p.off - 1]? = some y := ⟨_, List.getElem?_eq_getElem (by have := atP_le L p.off; omega)⟩
    have r := (idx_rel h g1 hk hy).1
    have := (at_lt h p.off hy).1 (by omega)
    omega
  · by_cases g2 : k < atP L p.off + 1
    · exact ⟨x, near_at (by omega) g2 hk, h1⟩
    · obtain ⟨y, hy⟩ : ∃ y, L[atP L p.off]? = some y := ⟨_, List.getElem?_eq_getElem (by omega)⟩
      obtain ⟨r1, r2, r3⟩ := idx_rel h (by omega) hy hk
      have h5 := (at_lt h p.off hy).2 (Nat.le_refl _)
      have h6 := h.full y (List.mem_of_getElem? hy) r3
      have h7 := y.stop_eq
      exact ⟨y, near_at (by omega) (by omega) hy, (meets_iff p y).2 ⟨h6, m2, by omega, by omega⟩⟩
theorem shares_meets {L : List Pc} (h : Ris L) {p : Pc} (hb : ¬ badP p) (hp : ¬ p ∈ L) : sharesP L p = L.any (meetsP p) := by
  rw [Bool.eq_iff_iff, sharesP, List.any_eq_true, List.any_eq_true]
  refine ⟨fun ⟨x, hx, h1⟩ => ⟨x, hx, ?_⟩, fun ⟨x, hx, h1⟩ => ⟨x, hx, ?_⟩⟩
  · simp only [sharing, Bool.or_eq_true, Bool.and_eq_true, decide_eq_true_eq, beq_iff_eq] at h1
    rcases h1 with ⟨⟨⟨a, b⟩, c⟩, d⟩ | ⟨⟨a, b⟩, c⟩
    · exact (meets_iff p x).2 ⟨a, b, c, d⟩
    · exfalso
      have hpm : p.more = false := by
        cases hm : p.more with
        | false => rfl
        | true => exact absurd (.inr ⟨hm, .inl c⟩) hb
      have hxm : x.more = false := by
        cases hm : x.more with
        | false => rfl
        | true => have := h.full x hx hm; omega
      have e1 : x.b = [] := List.eq_nil_of_length_eq_zero (by have : (x.b.length : Int) = 0 := b; omega)
      have e2 : p.b = [] := List.eq_nil_of_length_eq_zero (by have : (p.b.length : Int) = 0 := c; omega)
      refine hp ((show p = x from ?_) ▸ hx)
      cases p; cases x
      simp_all
  · obtain ⟨a, b, c, d⟩ := (meets_iff p x).1 h1
    simp only [sharing, Bool.or_eq_true, Bool.and_eq_true, decide_eq_true_eq, beq_iff_eq]
    exact .inl ⟨⟨⟨a, b⟩, c⟩, d⟩
def endedP (L : List Pc) : Bool := L.any fun x => !x.more
theorem ended_iff {L : List Pc} : endedP L = true ↔ ∃ x ∈ L, x.more = false := by simp [endedP]
theorem ris_last {L : List Pc} (h : Ris L) {y : Pc} (hy : y ∈ L) (hm : y.more = false) : ∀ x ∈ L, x.stop ≤ y.stop := fun x hx => by
  by_cases e : x = y
  · rw [e]; exact Int.le_refl _
  · have h1 := y.stop_eq
    have h2 := y.len_nn
    rcases pair_of h.pw hx hy e with ⟨r, _⟩ | ⟨_, r⟩
    · omega
    · rw [hm] at r; cases r
theorem ris_end {L : List Pc} (h : Ris L) : endP L = if endedP L then farP L else -1 := by
  by_cases he : endedP L = true
  · rw [if_pos he]
    obtain ⟨y, hy, h1, h2⟩ := endP_last (ended_iff.1 he)
    have h3 := farP_le L (n := y.stop) (by have := (h.ok y hy).1; have := y.stop_eq; have := y.len_nn; omega) (ris_last h hy h1)
    have h4 := le_farP hy
    omega
  · rw [if_neg he]
    rcases endP_cases L with h0 | ⟨y, hy, h1, _⟩
    · exact h0
    · exact absurd (ended_iff.2 ⟨y, hy, h1⟩) he
theorem far_nn : ∀ L : List Pc, 0 ≤ farP L
  | [] => Int.le_refl _
  | x :: l => by have := far_nn l; rw [farP]; omega
theorem ris_late {L : List Pc} (h : Ris L) (p : Pc) : lateP L p ↔ (endedP L = true ∧ (p.more = false ∨ p.stop > farP L)) ∨ (p.more = false ∧ p.stop < farP L) := by
  have hf := far_nn L
  unfold lateP
  rw [ris_end h]
  by_cases he : endedP L = true
  · rw [if_pos he]
    simp only [he, true_and]
    constructor
    · rintro (⟨a, _⟩ | ⟨_, b⟩)
      · exact .inl (.inl a)
      · exact .inl (.inr b)
    · rintro ((a | b) | ⟨a, b⟩)
      · exact .inl ⟨a, .inl hf⟩
      · exact .inr ⟨hf, b⟩
      · exact .inl ⟨a, .inr b⟩
  · rw [if_neg he]
    constructor
    · rintro (⟨a, b | b⟩ | ⟨b, _⟩)
      · omega
      · exact .inr ⟨a, b⟩
      · omega
    · rintro (⟨a, _⟩ | ⟨a, b⟩)
      · exact absurd a he
      · exact .inl ⟨a, .inr b⟩
/-- One part more, in its place. -/
def putP (L : List Pc) (p : Pc) : List Pc := L.take (atP L p.off) ++ p :: L.drop (atP L p.off)
theorem putP_perm (L : List Pc) (p : Pc) : List.Perm (putP L p) (L ++ [p]) := by
  have h1 : List.Perm (putP L p) (p :: (L.take (atP L p.off) ++ L.drop (atP L p.off))) := List.perm_middle
  rw [List.take_append_drop] at h1
  exact h1.trans (List.perm_append_singleton p L).symm
theorem ris_put {L : List Pc} (h : Ris L) {p : Pc} (hb : ¬ badP p) (hf : ¬ p.off > 65535 - p.len) (hs : ¬ sharesP L p = true) (hl : ¬ lateP L p) : Ris (putP L p) := by
  have e1 := p.stop_eq
  have e2 := p.len_nn
  have e3 : ¬ p.off < 0 := fun g => hb (.inl g)
  have e4 : p.more = true → 0 < p.len := fun g => by
    have : p.len ≠ 0 := fun g2 => hb (.inr ⟨g, .inl g2⟩)
    omega
  obtain ⟨s1, s2⟩ := at_split p.off h
  have hmem : ∀ x ∈ putP L p, x = p ∨ x ∈ L := fun x hx => by
    have := (putP_perm L p).mem_iff.1 hx
    simp at this
    exact this.symm
  have hns : ∀ x ∈ L, ¬ (0 < x.len ∧ 0 < p.len ∧ x.off < p.stop ∧ p.off < x.stop) := fun x hx ⟨a, b, c, d⟩ => hs (List.any_eq_true.2 ⟨x, hx, by
    simp only [sharing, Bool.or_eq_true, Bool.and_eq_true, decide_eq_true_eq, beq_iff_eq]
    exact .inl ⟨⟨⟨a, b⟩, c⟩, d⟩⟩)
  have hend := ris_end h
  have hlate := fun g => hl ((ris_late h p).2 g)
  have hlast : ∀ x ∈ L, x.more = false → endedP L = true ∧ p.more = true ∧ p.stop ≤ farP L ∧ farP L = x.stop := fun x hx hm => by
    have he : endedP L = true := ended_iff.2 ⟨x, hx, hm⟩
    have g1 := farP_le L (n := x.stop) (by have := (h.ok x hx).1; have := x.stop_eq; have := x.len_nn; omega) (ris_last h hx hm)
    have g2 := le_farP hx
    refine ⟨he, ?_, ?_, by omega⟩
    · cases hp : p.more with
      | true => rfl
      | false => exact absurd (.inl ⟨he, .inl hp⟩) hlate
    · have : ¬ p.stop > farP L := fun g => hlate (.inl ⟨he, .inr g⟩)
      omega
  refine ⟨fun x hx => ?_, fun x hx hm => ?_, ?_⟩
  · rcases hmem x hx with rfl | hx
    · omega
    · exact h.ok x hx
  · rcases hmem x hx with rfl | hx
    · exact e4 hm
    · exact h.full x hx hm
  · unfold putP
    have hpw : (L.take (atP L p.off) ++ L.drop (atP L p.off)).Pairwise (fun x y => x.stop ≤ y.off ∧ x.more = true) := by rw [List.take_append_drop]; exact h.pw
    obtain ⟨w1, w2, w3⟩ := List.pairwise_append.1 hpw
    refine List.pairwise_append.2 ⟨w1, List.pairwise_cons.2 ⟨fun y hy => ?_, w2⟩, fun x hx y hy => ?_⟩
    · have hyL := List.mem_of_mem_drop hy
      have g1 := s2 y hy
      have g2 := hns y hyL
      have g3 := y.stop_eq
      have g4 := y.len_nn
      have hst : p.stop ≤ y.off := by
        by_cases c1 : 0 < p.len
        · by_cases c2 : 0 < y.len
          · have : ¬ (y.off < p.stop ∧ p.off < y.stop) := fun ⟨a, b⟩ => g2 ⟨c2, c1, a, b⟩
            omega
          · have hm : y.more = false := by
              cases hm : y.more with
              | false => rfl
              | true => exact absurd (h.full y hyL hm) c2
            obtain ⟨_, _, k3, k4⟩ := hlast y hyL hm
            omega
        · omega
      refine ⟨hst, ?_⟩
      cases hp : p.more with
      | true => rfl
      | false =>
        exfalso
        have hy1 : y.more = true := by
          cases hm : y.more with
          | true => rfl
          | false => have := (hlast y hyL hm).2.1; rw [hp] at this; cases this
        have k1 := h.full y hyL hy1
        have k2 := le_farP hyL
        have k3 : ¬ p.stop < farP L := fun g => hlate (.inr ⟨hp, g⟩)
        omega
    · rcases List.mem_cons.1 hy with rfl | hy
      · have hxL := List.mem_of_mem_take hx
        have g1 := s1 x hx
        have g2 := hns x hxL
        have g3 := x.stop_eq
        have g4 := x.len_nn
        constructor
        · by_cases c1 : 0 < y.len
          · by_cases c2 : 0 < x.len
            · have : ¬ (x.off < y.stop ∧ y.off < x.stop) := fun ⟨a, b⟩ => g2 ⟨c2, c1, a, b⟩
              omega
            · omega
          · have hm : y.more = false := by
              cases hm : y.more with
              | false => rfl
              | true => exact absurd (e4 hm) c1
            have k2 := le_farP hxL
            have k3 : ¬ y.stop < farP L := fun g => hlate (.inr ⟨hm, g⟩)
            omega
        · cases hm : x.more with
          | true => rfl
          | false =>
            exfalso
            obtain ⟨k1, k2, k3, k4⟩ := hlast x hxL hm
            have k5 := e4 k2
            exact g2 ⟨by omega, k5, by omega, by omega⟩
      · exact w3 x hx y hy
/-! ### In whatever order they came -/
theorem farP_perm {s l : List Pc} (h : List.Perm s l) : farP s = farP l := by
  induction h with
  | nil => rfl
  | cons x _ ih => rw [farP, farP, ih]
  | swap x y l => simp only [farP]; omega
  | trans _ _ h1 h2 => exact h1.trans h2
theorem any_perm {s l : List Pc} (h : List.Perm s l) (f : Pc → Bool) : s.any f = l.any f := by
  rw [Bool.eq_iff_iff, List.any_eq_true, List.any_eq_true]
  exact ⟨fun ⟨x, hx, g⟩ => ⟨x, h.mem_iff.1 hx, g⟩, fun ⟨x, hx, g⟩ => ⟨x, h.mem_iff.2 hx, g⟩⟩
theorem endP_perm {s l : List Pc} (hs : Ris s) (h : List.Perm s l) : endP s = endP l := by
  rcases endP_cases l with h0 | ⟨y, hy, h1, h2⟩
  · rw [h0, ris_end hs]
    refine if_neg fun he => ?_
    obtain ⟨x, hx, hm⟩ := ended_iff.1 he
    obtain ⟨y, hy, h1, h2⟩ := endP_last ⟨x, h.mem_iff.1 hx, hm⟩
    have := hs.ok y (h.mem_iff.2 hy)
    have := y.stop_eq
    have := y.len_nn
    omega
  · have hys := h.mem_iff.2 hy
    obtain ⟨x, hx, g1, g2⟩ := endP_last ⟨y, hys, h1⟩
    have k1 := ris_last hs hx g1 y hys
    have k2 := ris_last hs hys h1 x hx
    omega
/-- The parts as the code keeps them, and as they came. -/
structure Same (L l : List Pc) : Prop where
  ris : Ris L
  perm : List.Perm L l
theorem Same.nil : Same [] [] := ⟨Ris.nil, List.Perm.refl _⟩
def addC (L : List Pc) (p : Pc) : Int :=
  if badP p then 4 else if p.off > 65535 - p.len then 6 else if (nearP L p.off).any (fun x => decide (x = p)) then 0 else if (nearP L p.off).any (meetsP p) then 9
  else if (endedP L = true ∧ (p.more = false ∨ p.stop > farP L)) ∨ (p.more = false ∧ p.stop < farP L) then 4 else 0
def addCL (L : List Pc) (p : Pc) : List Pc := if addC L p = 0 then (if (nearP L p.off).any (fun x => decide (x = p)) then L else putP L p) else L
theorem Same.same {L l : List Pc} (h : Same L l) (p : Pc) : (nearP L p.off).any (fun x => decide (x = p)) = sameP l p := by
  rw [near_same h.ris p _ (fun x _ g => by rw [of_decide_eq_true g])]
  exact any_perm h.perm _
theorem Same.late {L l : List Pc} (h : Same L l) (p : Pc) : lateP l p ↔ (endedP L = true ∧ (p.more = false ∨ p.stop > farP L)) ∨ (p.more = false ∧ p.stop < farP L) := by
  rw [← ris_late h.ris]
  unfold lateP
  rw [endP_perm h.ris h.perm, farP_perm h.perm]
theorem Same.addE {L l : List Pc} (h : Same L l) (p : Pc) : addC L p = addE l p := by
  unfold addC Go.Proofs.YtafidbjaeopciaaDoor.addE
  rw [h.same]
  by_cases h1 : badP p
  · rw [if_pos h1, if_pos h1]
  · rw [if_neg h1, if_neg h1]
    by_cases h2 : p.off > 65535 - p.len
    · rw [if_pos h2, if_pos h2]
    · rw [if_neg h2, if_neg h2]
      by_cases h3 : sameP l p = true
      · rw [if_pos h3, if_pos h3]
      · rw [if_neg h3, if_neg h3, near_meets h.ris p, ← shares_meets h.ris h1 (fun g => h3 (sameP_iff.2 (h.perm.mem_iff.1 g))), show sharesP L p = sharesP l p from any_perm h.perm _]
        by_cases h4 : sharesP l p = true
        · rw [if_pos h4, if_pos h4]
        · rw [if_neg h4, if_neg h4]
          by_cases h5 : lateP l p
          · rw [if_pos h5, if_pos ((h.late p).1 h5)]
          · rw [if_neg h5, if_neg (fun g => h5 ((h.late p).2 g))]
theorem Same.addL {L l : List Pc} (h : Same L l) (p : Pc) : Same (addCL L p) (addL l p) := by
  unfold addCL Go.Proofs.YtafidbjaeopciaaDoor.addL
  rw [h.same, h.addE]
  by_cases h0 : Go.Proofs.YtafidbjaeopciaaDoor.addE l p = 0
  · rw [if_pos h0, if_pos h0]
    by_cases h1 : sameP l p = true
    · rw [if_pos h1, if_pos h1]; exact h
    · rw [if_neg h1, if_neg h1]
      rcases addL_cases l p with e | ⟨_, _, hb, hf, hs, hl⟩
      · exfalso
        have e2 : Go.Proofs.YtafidbjaeopciaaDoor.addL l p = l ++ [p] := by rw [Go.Proofs.YtafidbjaeopciaaDoor.addL, if_pos h0, if_neg h1]
        rw [e2] at e
        have := congrArg List.length e
        simp at this
      · refine ⟨ris_put h.ris hb hf (fun g => hs ?_) (fun g => hl ?_), (putP_perm L p).trans (h.perm.append_right [p])⟩
        · rw [← show sharesP L p = sharesP l p from any_perm h.perm _]; exact g
        · rw [h.late, ← ris_late h.ris]; exact g
  · rw [if_neg h0, if_neg h0]; exact h
theorem Same.bytes {L l : List Pc} (h : Same L l) : bytesP L = bytesP l := bytesP_perm h.perm
theorem Same.room {L l : List Pc} (h : Same L l) (a : Int) (b : List UInt8) (m : Bool) : (if (nearP L a).any (alikeP ⟨a, m, b⟩) then 0 else (b.length : Int)) = roomP l a b := by
  have h1 : (nearP L a).any (alikeP ⟨a, m, b⟩) = L.any (alikeP ⟨a, m, b⟩) := near_same h.ris ⟨a, m, b⟩ _ (fun x _ g => by
    simp only [alikeP, Bool.and_eq_true, beq_iff_eq] at g
    exact g.1.symm)
  have h2 : l.any (alikeP ⟨a, m, b⟩) = (sameP l ⟨a, true, b⟩ || sameP l ⟨a, false, b⟩) := by
    rw [Bool.eq_iff_iff, Bool.or_eq_true, sameP_iff, sameP_iff, List.any_eq_true]
    constructor
    · rintro ⟨x, hx, g⟩
      simp only [alikeP, Bool.and_eq_true, beq_iff_eq, decide_eq_true_eq] at g
      obtain ⟨g1, g2⟩ := g
      cases hm : x.more with
      | true => left; rw [g1, g2, ← hm]; exact hx
      | false => right; rw [g1, g2, ← hm]; exact hx
    · rintro (hx | hx) <;> exact ⟨_, hx, by simp [alikeP]⟩
  rw [h1, any_perm h.perm, h2, roomP]
end Go.Proofs.YtafidbjaeopciaaDoor

/-
  Parts in rising order, in plain lists: the spans between them, and their bytes one behind the other, are what the document says of the parts in whatever order. No program. Conditions are each theorem's own.
-/
namespace Go.Proofs.YtafidbjaeopciaaDoor
open Go.RowKit

def gapsS : Int → List Pc → List (Int × Int)
  | _, [] => []
  | k, x :: L => (if k < x.off then [(k, x.off)] else []) ++ gapsS x.stop L
def lastS : Int → List Pc → Int
  | k, [] => k
  | _, x :: L => lastS x.stop L
def catP (L : List Pc) : List UInt8 := L.flatMap fun x => x.b
theorem ris_up {x : Pc} {L : List Pc} (h : Ris (x :: L)) : ∀ y ∈ L, x.stop ≤ y.off := fun y hy => (h.head y hy).1
theorem lastS_max : ∀ {k : Int} {L : List Pc}, Ris L → 0 ≤ k → (∀ x ∈ L, k ≤ x.off) → lastS k L = max k (farP L)
  | k, [], _, h0, _ => by rw [lastS, farP]; omega
  | k, x :: L, h, h0, hk => by
    have h1 := hk x (List.mem_cons_self ..)
    have h2 := x.stop_eq
    have h3 := x.len_nn
    rw [lastS, lastS_max h.tail (by omega) (ris_up h), farP]; omega
theorem catP_length : ∀ L : List Pc, ((catP L).length : Int) = bytesP L
  | [] => rfl
  | x :: L => by
    have := catP_length L
    rw [catP, List.flatMap_cons, List.length_append, bytesP]
    rw [catP] at this
    have h2 : x.len = (x.b.length : Int) := rfl
    omega
theorem bytes_gaps : ∀ {k : Int} {L : List Pc}, Ris L → (∀ x ∈ L, k ≤ x.off) → bytesP L ≤ lastS k L - k ∧ (bytesP L = lastS k L - k ↔ gapsS k L = [])
  | k, [], _, _ => by simp [bytesP, lastS, gapsS]
  | k, x :: L, h, hk => by
    have h1 := hk x (List.mem_cons_self ..)
    have h2 := x.stop_eq
    obtain ⟨i1, i2⟩ := bytes_gaps h.tail (ris_up h)
    rw [bytesP, lastS, gapsS]
    refine ⟨by omega, ?_⟩
    by_cases hx : k < x.off
    · rw [if_pos hx]
      exact ⟨fun e => by omega, fun e => by simp at e⟩
    · rw [if_neg hx, List.nil_append, ← i2]
      exact ⟨fun e => by omega, fun e => by omega⟩
theorem cat_facts : ∀ {L : List Pc} (pre : List UInt8), Ris L → (∀ x ∈ L, (pre.length : Int) ≤ x.off) → gapsS (pre.length : Int) L = [] →
    (∀ x ∈ L, PieceOf (pre ++ catP L) x) ∧ (∀ j : Nat, pre.length ≤ j → j < (pre ++ catP L).length → ∃ x ∈ L, x.off ≤ (j : Int) ∧ (j : Int) < x.stop)
  | [], pre, _, _, _ => ⟨fun x h => (by cases h), fun j h1 h2 => by simp [catP] at h2; omega⟩
  | x :: L, pre, h, hk, hg => by
    have h1 := hk x (List.mem_cons_self ..)
    have h2 := x.stop_eq
    have h3 : x.len = (x.b.length : Int) := rfl
    have hx : ¬ (pre.length : Int) < x.off := fun c => by rw [gapsS, if_pos c] at hg; simp at hg
    have e : x.off = (pre.length : Int) := by omega
    rw [gapsS, if_neg hx, List.nil_append] at hg
    have es : x.stop = ((pre ++ x.b).length : Int) := by rw [List.length_append]; omega
    obtain ⟨i1, i2⟩ := cat_facts (pre ++ x.b) h.tail (fun y hy => by rw [← es]; exact ris_up h y hy) (by rw [← es]; exact hg)
    have ec : pre ++ catP (x :: L) = pre ++ x.b ++ catP L := by rw [catP, List.flatMap_cons, List.append_assoc]; rfl
    rw [ec]
    refine ⟨fun y hy => ?_, fun j hj hj2 => ?_⟩
    · rcases List.mem_cons.1 hy with rfl | hy
      · refine ⟨by omega, by rw [List.length_append, es]; omega, ?_⟩
        rw [e, Int.toNat_natCast, List.append_assoc, List.drop_left, List.take_left]
      · exact i1 y hy
    · by_cases hc : j < (pre ++ x.b).length
      · exact ⟨x, List.mem_cons_self .., by omega, by omega⟩
      · obtain ⟨y, hy, hc⟩ := i2 j (by omega) hj2
        exact ⟨y, List.mem_cons_of_mem _ hy, hc⟩
theorem Same.end_ {L l : List Pc} (h : Same L l) : endP l = if endedP L then farP L else -1 := by rw [← endP_perm h.ris h.perm]; exact ris_end h.ris
theorem up0 {L : List Pc} (h : Ris L) : ∀ x ∈ L, (0 : Int) ≤ x.off := fun x hx => (h.ok x hx).1
theorem last0 {L : List Pc} (h : Ris L) : lastS 0 L = farP L := by
  rw [lastS_max h (Int.le_refl _) (up0 h)]
  have := far_nn L
  omega
theorem Same.done {L l : List Pc} (h : Same L l) : doneB l = (endedP L && decide (gapsS 0 L = [])) ∧ (doneB l = true → doneP l = catP L) := by
  obtain ⟨b1, b2⟩ := bytes_gaps h.ris (up0 h.ris)
  rw [last0 h.ris] at b1 b2
  have hf := far_nn L
  have e1 : doneB l = (endedP L && decide (gapsS 0 L = [])) := by
    rw [doneB, h.end_, ← h.bytes, Bool.eq_iff_iff]
    by_cases he : endedP L = true
    · simp only [he, if_true, Bool.and_eq_true, decide_eq_true_eq, true_and]
      rw [← b2]
      exact ⟨fun ⟨_, g⟩ => by omega, fun g => ⟨hf, by omega⟩⟩
    · simp [he]
  refine ⟨e1, fun hd => ?_⟩
  have hd2 := hd
  rw [e1, Bool.and_eq_true, decide_eq_true_eq] at hd2
  obtain ⟨he, hg⟩ := hd2
  have hl : (farP L).toNat = (catP L).length := by have := catP_length L; have := b2.2 hg; omega
  rw [doneP, if_pos hd, h.end_, if_pos he, hl]
  obtain ⟨c1, c2⟩ := cat_facts (L := L) [] h.ris (fun x hx => (up0 h.ris x hx)) hg
  rw [List.nil_append] at c1 c2
  have hfill := fun (j : Nat) (hj : (List.replicate (catP L).length (0 : UInt8))[j]? = (catP L)[j]? ∨ ∃ x ∈ l, x.off ≤ (j : Int) ∧ (j : Int) < x.stop) =>
    fill_get (catP L) j l (List.replicate (catP L).length 0) (by simp) (fun x hx => c1 x (h.perm.mem_iff.2 hx)) hj
  refine List.ext_getElem? fun j => ?_
  by_cases hj : j < (catP L).length
  · refine (hfill j (.inr ?_)).1
    obtain ⟨x, hx, hc⟩ := c2 j (Nat.zero_le _) hj
    exact ⟨x, h.perm.mem_iff.1 hx, hc⟩
  · exact (hfill j (.inl (by rw [List.getElem?_eq_none (by simp; omega), List.getElem?_eq_none (by omega)]))).1
/-! ### Where nothing came yet -/
def flatG (l : List (Int × Int)) : List Nat := l.flatMap fun x => [x.1.toNat, x.2.toNat]
theorem gaps_unc (l : List Pc) (k : Nat) (out : List Nat) (h0 : gapsN l k = out) (hl : out.getLast? ≠ some k) : ∀ n : Nat, (∀ j : Nat, j < n → coverP l ((k + j : Nat) : Int) = false) → gapsN l (k + n) = if n = 0 then out else out ++ [k, k + n]
  | 0, _ => by rw [if_pos rfl]; exact h0
  | n + 1, hc => by
    have ih := gaps_unc l k out h0 hl n (fun j hj => hc j (by omega))
    rw [if_neg (by omega), ← Nat.add_assoc, gapsN, hc n (by omega), ih]
    rw [if_neg (by decide)]
    by_cases hn : n = 0
    · subst hn
      rw [if_pos rfl, gapStep, Nat.add_zero, if_neg hl]
    · rw [if_neg hn, gapStep, if_pos (by simp)]
      simp
theorem gaps_cov (l : List Pc) (k : Nat) : ∀ n : Nat, (∀ j : Nat, j < n → coverP l ((k + j : Nat) : Int) = true) → gapsN l (k + n) = gapsN l k
  | 0, _ => rfl
  | n + 1, hc => by
    rw [← Nat.add_assoc, gapsN, hc n (by omega), if_pos rfl]
    exact gaps_cov l k n (fun j hj => hc j (by omega))
theorem cover_up {k : Int} : ∀ {L : List Pc}, (∀ x ∈ L, k < x.off) → coverP L k = false := fun {L} h => by
  rw [coverP, List.any_eq_false]
  intro x hx
  have := h x hx
  simp; omega
theorem gaps_run (l : List Pc) : ∀ (L : List Pc) (k : Nat) (out : List Nat), Ris L → (∀ x ∈ L, (k : Int) ≤ x.off) → (∀ j : Int, (k : Int) ≤ j → coverP l j = coverP L j) → gapsN l k = out → ((∀ e, out.getLast? = some e → e < k) ∨ L = []) →
    gapsN l (lastS k L).toNat = out ++ flatG (gapsS k L)
  | [], k, out, _, _, _, h0, _ => by simp [lastS, gapsS, flatG, h0]
  | x :: L, k, out, h, hk, hc, h0, ho => by
    have ho1 : ∀ e, out.getLast? = some e → e < k := ho.resolve_right (by simp)
    have h1 := hk x (List.mem_cons_self ..)
    have h2 := x.stop_eq
    have h3 := x.len_nn
    have h4 := (h.ok x (List.mem_cons_self ..)).1
    have hun : ∀ j : Nat, j < x.off.toNat - k → coverP l ((k + j : Nat) : Int) = false := fun j hj => by
      rw [hc _ (by omega)]
      refine cover_up fun y hy => ?_
      rcases List.mem_cons.1 hy with rfl | hy
      · omega
      · have := (h.head y hy).2.1; omega
    have r1 := gaps_unc l k out h0 (fun e => by have := ho1 k e; omega) _ hun
    rw [show k + (x.off.toNat - k) = x.off.toNat by omega] at r1
    have hcv : ∀ j : Nat, j < x.b.length → coverP l ((x.off.toNat + j : Nat) : Int) = true := fun j hj => by
      rw [hc _ (by omega), coverP, List.any_eq_true]
      have : x.len = (x.b.length : Int) := rfl
      exact ⟨x, List.mem_cons_self .., by simp; omega⟩
    have r2 := gaps_cov l x.off.toNat x.b.length hcv
    have e3 : x.off.toNat + x.b.length = x.stop.toNat := by have : x.len = (x.b.length : Int) := rfl; omega
    rw [e3, r1] at r2
    have e4 : ((x.stop.toNat : Nat) : Int) = x.stop := by omega
    have ih := gaps_run l L x.stop.toNat _ h.tail (fun y hy => by rw [e4]; exact ris_up h y hy) (fun j hj => by
      rw [hc j (by omega), coverP, coverP, List.any_cons, show (decide (x.off ≤ j) && decide (j < x.stop)) = false by simp; omega, Bool.false_or]) r2 (by
      by_cases hL : L = []
      · exact .inr hL
      · left
        obtain ⟨y, hy⟩ := List.exists_mem_of_ne_nil L hL
        have g1 := h.full x (List.mem_cons_self ..) (h.head y hy).2.2
        intro e he
        split at he
        · have := ho1 e he; omega
        · simp at he; omega)
    rw [lastS, gapsS]
    rw [e4] at ih
    rw [ih]
    by_cases hx : (k : Int) < x.off
    · rw [if_pos hx, if_neg (by omega)]
      simp [flatG]
    · rw [if_neg hx, if_pos (by omega)]
      simp
theorem Same.gaps {L l : List Pc} (h : Same L l) : gapsP l = flatG (gapsS 0 L) := by
  have hf := far_nn L
  have e : (upP l).toNat = (lastS ((0 : Nat) : Int) L).toNat := by
    rw [show lastS ((0 : Nat) : Int) L = farP L from last0 h.ris, upP, h.end_, ← farP_perm h.perm]
    by_cases he : endedP L = true
    · rw [if_pos he, if_neg (by omega)]
    · rw [if_neg he, if_pos (by decide)]
  rw [gapsP, e, gaps_run l L 0 [] h.ris (fun x hx => up0 h.ris x hx) (fun j _ => (any_perm h.perm _).symm) rfl (.inl fun e h => by simp at h)]
  rfl
theorem gapsS_bounds : ∀ {k : Int} {L : List Pc}, Ris L → 0 ≤ k → (∀ x ∈ L, k ≤ x.off) → ∀ y ∈ gapsS k L, 0 ≤ y.1 ∧ y.1 < y.2 ∧ y.2 ≤ 65535
  | _, [], _, _, _, y, hy => by cases hy
  | k, x :: L, h, h0, hk, y, hy => by
    have h1 := h.ok x (List.mem_cons_self ..)
    have h2 := x.stop_eq
    have h3 := x.len_nn
    rw [gapsS] at hy
    rcases List.mem_append.1 hy with hy | hy
    · split at hy
      · rw [List.mem_singleton.1 hy]; exact ⟨h0, by assumption, by show x.off ≤ 65535; omega⟩
      · cases hy
    · exact gapsS_bounds h.tail (by omega) (ris_up h) y hy
end Go.Proofs.YtafidbjaeopciaaDoor

/-
  Arguments that came in, opened by their types: what a walk is told of each. Conditions are each theorem's own.
-/
namespace Go.Proofs.YtafidbjaeopciaaDoor
open Go.RowKit Go.ChangeShapes Go.WideShapes

/-- A slice of integers that came in: nil, or a row of 'cap' cells that hold the numbers 'zs', each fitting its kind. -/
def IsRow (k : IntKind) (w : World) (a : Option Addr) (len cap : Nat) (zs : List Int) : Prop :=
  (a = none ∧ len = 0 ∧ cap = 0 ∧ zs = []) ∨
  ∃ x, a = some x ∧ len ≤ cap ∧ cap ≤ maxLen ∧ zs.length = cap ∧ (∀ i, i < zs.length → w.cell? (x.add i) = some (.int k (zs.getD i 0))) ∧ ∀ n ∈ zs, (Lit.int k n).wf = true

theorem arg_of_row {w : World} {a : Option Addr} {len cap : Nat} {zs : List Int} (h : IsRow .u8 w a len cap zs) : ∃ bs : List UInt8, len = bs.length ∧ Arg w w.heap.size a cap bs := by
  rcases h with ⟨rfl, rfl, rfl, rfl⟩ | ⟨x, rfl, hl, hm, hz, hcell, hwz⟩
  · exact ⟨[], rfl, Arg.nil _ _⟩
  · refine ⟨(zs.take len).map fun z => UInt8.ofNat z.toNat, by simp; omega, fun hn => ?_, by simp; omega, fun e => by cases e⟩
    have hn' : 0 < len := by simp at hn; omega
    have hc0 := hcell 0 (by omega)
    have hlt := cell_block hc0
    obtain ⟨b, off, spot⟩ := x
    have hspot : spot = none := by simpa [Addr.add] using World.cell?_spot hc0
    subst hspot
    refine ⟨b, off, rfl, by simpa [Addr.add] using hlt, fun j hj => ?_⟩
    have hj' : j < zs.length := by simp at hj; omega
    have hjl : j < len := by simp at hj; omega
    have hc := hcell j hj'
    rw [add_off] at hc
    rw [hc]
    have hb := range_u8 hwz j
    simp only [byt, List.getElem?_map, List.getElem?_take, if_pos hjl, List.getElem?_eq_getElem hj', Option.map_some, Option.getD_some, List.getD_eq_getElem?_getD] at hb ⊢
    simp [UInt8.toNat_ofNat']
    omega

section
variable {H : Type} {enc : TypeId × Value → H} {P : Program} {w : World} {base : Nat} {t e : TypeId} {v : Value} {d : DataW H} {p : List MemPlace}
theorem Trod_lt (h : DataW.Trod enc P w 0 (fun _ => true) true t v d p) : ∀ x ∈ p, x.block < w.heap.size := by
  obtain ⟨m, hm⟩ := h; exact DataW.trod_lt m _ _ _ hm
theorem get_int {k : IntKind} (ht : P.underlying t = some (.int k)) (hv : Value.okWide P w .any base t v) (h : DataW.Trod enc P w 0 (fun _ => true) true t v d p) :
    ∃ n, v = .int k n ∧ (Lit.int k n).wf = true := by
  obtain ⟨n, e, _, _, hw⟩ := open_int ht hv h
  exact ⟨n, e, hw⟩
theorem get_bool (ht : P.underlying t = some .bool) (hv : Value.okWide P w .any base t v) (h : DataW.Trod enc P w 0 (fun _ => true) true t v d p) :
    ∃ b, v = .bool b := by
  obtain ⟨b, e, _⟩ := open_bool ht hv h
  exact ⟨b, e⟩
theorem get_str (ht : P.underlying t = some .string) (hv : Value.okWide P w .any base t v) (h : DataW.Trod enc P w 0 (fun _ => true) true t v d p) :
    ∃ s : ByteArray, v = .string s ∧ s.size ≤ maxLen := by
  obtain ⟨s, e, _, _, hw⟩ := Go.ChangeMaps.open_string ht hv h
  exact ⟨s, e, hw⟩
theorem get_row {k : IntKind} (ht : P.underlying t = some (.slice e)) (he : P.underlying e = some (.int k)) (hc : P.cellsOf e = 1) (hv : Value.okWide P w .any base t v) (h : DataW.Trod enc P w 0 (fun _ => true) true t v d p) :
    ∃ A len cap zs, v = .slice A len cap ∧ IsRow k w A len cap zs := by
  obtain ⟨A, len, cap, rfl⟩ := okWide_slice ht hv
  obtain ⟨fuel, hf⟩ := h
  rcases open_ints ht he hc hf with ⟨hcs, _⟩ | ⟨x, l, c, zs, hcs, _, hl, hm, hz, _, hcell, hwz⟩
  · simp [Value.cells] at hcs
    obtain ⟨rfl, rfl, rfl⟩ := hcs
    exact ⟨_, _, _, [], rfl, .inl ⟨rfl, rfl, rfl, rfl⟩⟩
  · simp [Value.cells] at hcs
    obtain ⟨rfl, rfl, rfl⟩ := hcs
    exact ⟨_, _, _, zs, rfl, .inr ⟨_, rfl, hl, hm, by simpa using hz, hcell, hwz⟩⟩
theorem get_bytes (ht : P.underlying t = some (.slice e)) (he : P.underlying e = some (.int .u8)) (hc : P.cellsOf e = 1) (hv : Value.okWide P w .any base t v) (h : DataW.Trod enc P w 0 (fun _ => true) true t v d p) :
    ∃ A c bs, v = .slice A bs.length c ∧ Arg w w.heap.size A c bs ∧ c ≤ maxLen := by
  obtain ⟨A, len, cap, zs, rfl, hr⟩ := get_row ht he hc hv h
  obtain ⟨bs, rfl, ha⟩ := arg_of_row hr
  refine ⟨A, cap, bs, rfl, ha, ?_⟩
  rcases hr with ⟨_, _, rfl, _⟩ | ⟨_, _, _, hm, _⟩
  · exact Nat.zero_le _
  · exact hm
theorem get_ints (ht : P.underlying t = some (.slice e)) (he : P.underlying e = some (.int .i64)) (hc : P.cellsOf e = 1) (hv : Value.okWide P w .any base t v) (h : DataW.Trod enc P w 0 (fun _ => true) true t v d p) :
    ∃ A c zs, v = .slice A zs.length c ∧ RdI w w.heap.size A zs ∧ zs.length ≤ c ∧ c ≤ maxLen ∧ ∀ n ∈ zs, (Lit.int .i64 n).wf = true := by
  obtain ⟨A, len, cap, zs, rfl, hr⟩ := get_row ht he hc hv h
  rcases hr with ⟨rfl, rfl, rfl, rfl⟩ | ⟨x, rfl, hl, hm, hz, hcell, hwz⟩
  · exact ⟨none, 0, [], rfl, fun hn => absurd hn (by simp), Nat.le_refl _, Nat.zero_le _, by simp⟩
  · have e1 : (zs.take len).length = len := by simp; omega
    refine ⟨some x, cap, zs.take len, by rw [e1], fun hn => ?_, by omega, hm, fun n hn => hwz n (List.mem_of_mem_take hn)⟩
    have hc0 := hcell 0 (by omega)
    have hlt := cell_block hc0
    obtain ⟨b, off, spot⟩ := x
    have hspot : spot = none := by simpa [Addr.add] using World.cell?_spot hc0
    subst hspot
    refine ⟨b, off, rfl, by simpa [Addr.add] using hlt, fun j hj => ?_⟩
    have hc := hcell j (by omega)
    rw [add_off] at hc
    rw [hc]
    congr 2
    simp only [List.getD_eq_getElem?_getD, List.getElem?_take]
    rw [if_pos (by omega)]
end
end Go.Proofs.YtafidbjaeopciaaDoor

/-
  Addresses of IPv6 as lists of sixteen bytes: which stands ahead, which is of a host. No program. Conditions are each theorem's own.
-/
namespace Go.Proofs.YtafidbjaeopciaaDoor
open Go.RowKit

/-- The cells of an address. -/
def cel (a : List UInt8) : Array Value := (row a).toArray
theorem cel_size (a : List UInt8) : (cel a).size = a.length := by simp [cel, row_length]
theorem cel_get (a : List UInt8) {j : Nat} (h : j < a.length) : (cel a)[j]? = some (.int .u8 (byt a j)) := by
  rw [cel, List.getElem?_toArray, row_get a h]
theorem cel_at (a : List UInt8) {j : Nat} (h : j < a.length) (h' : j < (cel a).size) : (cel a)[j] = .int .u8 (byt a j) := by
  have h1 := cel_get a h
  rw [Array.getElem?_eq_getElem h'] at h1
  exact Option.some.inj h1
theorem below_n {w w' : World} {B : Nat} (h : Below B w w') (q : Nat) : Below B w (w'.drewN q) := ⟨h.os, h.tape, h.output, h.size, h.block⟩
theorem below_two (w : World) (x y : Obj) : Below w.heap.size w ((w.alloc x).alloc y) := ((Below.refl _ w).alloc (Nat.le_refl _) x).alloc (by simp) y
theorem two_first (w : World) (a b : List UInt8) (t u : TypeId) {j : Nat} (h : j < a.length) : ((w.alloc (.cells (cel a) t)).alloc (.cells (cel b) u)).cell? ⟨w.heap.size, j, none⟩ = some (.int .u8 (byt a j)) := by
  rw [World.cell?_alloc_lt _ _ _ (by simp), World.cell?_alloc_new]; exact cel_get a h
theorem two_second (w : World) (a b : List UInt8) (t u : TypeId) {j : Nat} (h : j < b.length) : ((w.alloc (.cells (cel a) t)).alloc (.cells (cel b) u)).cell? ⟨w.heap.size + 1, j, none⟩ = some (.int .u8 (byt b j)) := by
  have := World.cell?_alloc_new (w.alloc (.cells (cel a) t)) (cel b) u j
  rw [show (w.alloc (.cells (cel a) t)).heap.size = w.heap.size + 1 from by simp] at this
  rw [this]; exact cel_get b h
/-- Does a stand ahead of b? A plain definition. -/
def lexL : List UInt8 → List UInt8 → Bool
  | x :: xs, y :: ys => if x = y then lexL xs ys else decide (x.toNat < y.toNat)
  | _, _ => false
theorem byt_eq {a b : List UInt8} {k : Nat} (ha : k < a.length) (hb : k < b.length) : byt a k = byt b k ↔ a[k] = b[k] := by
  simp only [byt, List.getElem?_eq_getElem ha, List.getElem?_eq_getElem hb, Option.getD_some]
  constructor
  · intro h; exact UInt8.toNat_inj.1 (by omega)
  · intro h; rw [h]
theorem byt_at {a : List UInt8} {k : Nat} (ha : k < a.length) : byt a k = (a[k].toNat : Int) := by
  simp only [byt, List.getElem?_eq_getElem ha, Option.getD_some]
theorem lex_same {a b : List UInt8} {k : Nat} (ha : k < a.length) (hb : k < b.length) (h : lexL a b = lexL (a.drop k) (b.drop k)) (he : byt a k = byt b k) :
    lexL a b = lexL (a.drop (k + 1)) (b.drop (k + 1)) := by
  rw [h, List.drop_eq_getElem_cons ha, List.drop_eq_getElem_cons hb, lexL, if_pos ((byt_eq ha hb).1 he)]
theorem lex_here {a b : List UInt8} {k : Nat} (ha : k < a.length) (hb : k < b.length) (h : lexL a b = lexL (a.drop k) (b.drop k)) (he : ¬ byt a k = byt b k) :
    lexL a b = decide (byt a k < byt b k) := by
  rw [h, List.drop_eq_getElem_cons ha, List.drop_eq_getElem_cons hb, lexL, if_neg (fun e => he ((byt_eq ha hb).2 e)), byt_at ha, byt_at hb]
  simp
theorem lex_end {a b : List UInt8} {k : Nat} (ha : a.length ≤ k) (h : lexL a b = lexL (a.drop k) (b.drop k)) : lexL a b = false := by
  rw [h, List.drop_of_length_le ha, lexL]; simp
/-- The address of sixteen bytes 0. -/
def nul : List UInt8 := List.replicate 16 0
/-- Is it an address of a host? A plain definition. -/
def host6 (a : List UInt8) : Bool := !(decide (a = nul)) && (byt a 0 != 255)
theorem lex_self (a : List UInt8) : lexL a a = false := by
  induction a with
  | nil => rfl
  | cons x xs ih => rw [lexL, if_pos rfl]; exact ih
/-- Of two that differ one stands ahead. -/
theorem lex_tri : ∀ {a b : List UInt8}, a.length = b.length → a = b ∨ (a ≠ b ∧ lexL a b = true ∧ lexL b a = false) ∨ (a ≠ b ∧ lexL a b = false ∧ lexL b a = true)
  | [], [], _ => .inl rfl
  | [], _ :: _, h => by simp at h
  | _ :: _, [], h => by simp at h
  | x :: xs, y :: ys, h => by
    by_cases e : x = y
    · subst e
      rcases lex_tri (a := xs) (b := ys) (by simpa using h) with r | ⟨r, r1, r2⟩ | ⟨r, r1, r2⟩
      · exact .inl (by rw [r])
      · exact .inr (.inl ⟨by simpa using r, by rw [lexL, if_pos rfl, r1], by rw [lexL, if_pos rfl, r2]⟩)
      · exact .inr (.inr ⟨by simpa using r, by rw [lexL, if_pos rfl, r1], by rw [lexL, if_pos rfl, r2]⟩)
    · have hne : x.toNat ≠ y.toNat := fun h => e (UInt8.toNat_inj.1 h)
      have e' : ¬ y = x := fun h => e h.symm
      have hc : (x :: xs : List UInt8) ≠ y :: ys := fun h => e (by injection h)
      rcases Nat.lt_or_gt_of_ne hne with hl | hl
      · exact .inr (.inl ⟨hc, by rw [lexL, if_neg e]; simpa using hl, by rw [lexL, if_neg e']; simp; exact UInt8.le_of_lt hl⟩)
      · exact .inr (.inr ⟨hc, by rw [lexL, if_neg e]; simp; exact UInt8.le_of_lt hl, by rw [lexL, if_neg e']; simpa using hl⟩)
end Go.Proofs.YtafidbjaeopciaaDoor

/-
  An address of IPv6 that came in, opened. Conditions are each theorem's own.
-/
namespace Go.Proofs.YtafidbjaeopciaaDoor
open Go.RowKit Go.ChangeShapes Go.WideShapes

/-- A cell's byte. -/
def celB : Value → UInt8
  | .int _ n => UInt8.ofNat n.toNat
  | _ => 0
section
variable {H : Type} {enc : TypeId × Value → H} {P : Program} {w : World} {base : Nat} {t e : TypeId} {v : Value} {d : DataW H} {p : List MemPlace}
theorem cells_six {m fuel : Nat} {cs : List Value} {x : DataW H × List MemPlace} (ht : P.underlying t = some (.array m e)) (he : P.underlying e = some (.int .u8)) (hc : P.cellsOf e = 1) (hm : P.cellsOf t = m)
    (h : DataW.trod enc P w 0 (fun _ => true) true fuel t cs = some x) : ∃ a : List UInt8, a.length = m ∧ cs = row a := by
  obtain ⟨xs, k, _, _, hl, hxs, hall⟩ := DataW.trod_array ht h
  rw [hm] at hl
  have each : ∀ i, i < m → ∃ n : Int, cs[i]? = some (.int .u8 n) ∧ 0 ≤ n ∧ n ≤ 255 := by
    intro i hi
    have h1 := hall i hi
    rw [hc, Nat.mul_one, List.getElem?_eq_getElem (by omega)] at h1
    obtain ⟨n, hn, _, hw⟩ := DataW.trod_int he h1
    have h0 := congrArg (·[0]?) hn
    simp only [List.getElem?_take, List.getElem?_drop, List.getElem?_cons_zero, Nat.zero_lt_one, if_true, Nat.add_zero] at h0
    exact ⟨n, h0, bounds_u8 hw⟩
  refine ⟨cs.map celB, by simp [hl], ?_⟩
  refine List.ext_getElem? fun i => ?_
  by_cases hi : i < m
  · obtain ⟨n, hn, h0, h1⟩ := each i hi
    rw [hn]
    simp [row, hn, celB, UInt8.toNat_ofNat']
    omega
  · rw [List.getElem?_eq_none (by omega), List.getElem?_eq_none (by simp [row]; omega)]
theorem get_six (ht : P.underlying t = some (.array 16 e)) (he : P.underlying e = some (.int .u8)) (hc : P.cellsOf e = 1) (hm : P.cellsOf t = 16) (hv : Value.okWide P w .any base t v) (h : DataW.Trod enc P w 0 (fun _ => true) true t v d p) :
    ∃ a : List UInt8, v = .agg (cel a) ∧ a.length = 16 := by
  obtain ⟨cs, rfl, _⟩ : ∃ cs, v = .agg cs ∧ True := by
    have := hv
    simp only [Value.okWide, ht] at this
    cases v <;> simp_all
  obtain ⟨fuel, hf⟩ := h
  obtain ⟨a, ha, hcs⟩ := cells_six ht he hc hm hf
  refine ⟨a, ?_, ha⟩
  simp only [Value.cells] at hcs
  rw [cel, ← hcs]
end
end Go.Proofs.YtafidbjaeopciaaDoor

/-
  Contracts of the document's plain answers of layer 2: Add, Of, Right, Change. Conditions are each theorem's own.
-/
namespace Go.Proofs.YtafidbjaeopciaaDoor
open Go.RowKit

end Go.Proofs.YtafidbjaeopciaaDoor

/-
  What the statements of layers 1 and 2 share on arguments that came in. Conditions: none.
-/

/-
  Contracts of layer 2's helpers: few, zero, awake. Conditions are each theorem's own.
-/
namespace Go.Proofs.YtafidbjaeopciaaDoor
open Go.RowKit

theorem Rd2.of_cells {w : World} {B g t : Nat} {cs : Array Value} {ps : List (List UInt8)} (hg : w.heap[g]? = some (.cells cs t (0, 0))) (hB : g < B)
    (hc : ∀ (j : Nat) (bs : List UInt8), ps[j]? = some bs → ∃ Aj cj, cs[j]? = some (.slice Aj bs.length cj) ∧ Arg w B Aj cj bs) : Rd2 w B (some ⟨g, 0, none⟩) ps := fun _ =>
  ⟨g, 0, rfl, hB, fun j bs hj => by
    obtain ⟨Aj, cj, h1, h2⟩ := hc j bs hj
    exact ⟨Aj, cj, by rw [cell_of_row w g (0 + j) cs t (0, 0) hg, Nat.zero_add]; exact h1, h2⟩⟩
theorem Rd2.one {w : World} {B g t : Nat} {A : Option Addr} {c : Nat} {bs : List UInt8} (hg : w.heap[g]? = some (.cells #[.slice A bs.length c] t (0, 0))) (hB : g < B) (h : Arg w B A c bs) : Rd2 w B (some ⟨g, 0, none⟩) [bs] :=
  Rd2.of_cells hg hB fun j b hj => by
    cases j with
    | zero => simp at hj; subst hj; exact ⟨A, c, rfl, h⟩
    | succ j => simp at hj
/-- A new block of bytes as it is handed over. -/
theorem Arg.new {w : World} {g t : Nat} {cs : Array Value} {bs : List UInt8} (hg : w.heap[g]? = some (.cells cs t (0, 0))) (hc : ∀ j, j < bs.length → cs[j]? = some (.int .u8 (byt bs j))) (c : Nat) (hl : bs.length ≤ c) :
    Arg w w.heap.size (some ⟨g, 0, none⟩) c bs := ⟨Rd.of_block hg (heap_lt hg) 0 (fun j hj => by rw [Nat.zero_add]; exact hc j hj), hl, fun e => by cases e⟩

def eight : List UInt8 := [0, 1, 242, 3, 244, 245, 246, 247]
/-! ### few -/
def fewB (ps : List (List UInt8)) : Bool := decide (ps.length ≤ 40) && ps.all (fun b => decide (b.length ≤ 2000)) && decide (bulk ps ≤ 8000)
theorem few_yes {ps : List (List UInt8)} (h : fewB ps = true) : ps.length ≤ 40 ∧ bulk ps ≤ 8000 := by
  simp [fewB] at h; exact ⟨h.1.1, h.2⟩

theorem few_long {ps : List (List UInt8)} (h : 40 < ps.length) : fewB ps = false := by
  have : decide (ps.length ≤ 40) = false := by simp; omega
  simp [fewB, this]
theorem few_big {ps : List (List UInt8)} {k : Nat} {bs : List UInt8} (hb : ps[k]? = some bs) (h : 2000 < bs.length) : fewB ps = false := by
  have : ps.all (fun b => decide (b.length ≤ 2000)) = false := by
    rw [List.all_eq_false]; exact ⟨bs, List.mem_of_getElem? hb, by simp; omega⟩
  simp [fewB, this]
theorem few_end {ps : List (List UInt8)} (h : ps.length ≤ 40) (ha : ∀ b ∈ ps, b.length ≤ 2000) : fewB ps = decide ((bulk ps : Int) ≤ 8000) := by
  have h1 : ps.all (fun b => decide (b.length ≤ 2000)) = true := by rw [List.all_eq_true]; intro b hb; simpa using ha b hb
  rw [Bool.eq_iff_iff]; simp [fewB, h, h1]; omega

/-! ### zero -/
def zeroB (ps : List (List UInt8)) : Bool := ps.all fun b => b.all fun x => x == 0
theorem zero_no {ps : List (List UInt8)} {k j : Nat} {bs : List UInt8} (hb : ps[k]? = some bs) (hj : j < bs.length) (h : byt bs j ≠ 0) : zeroB ps = false := by
  unfold zeroB
  rw [List.all_eq_false]
  refine ⟨bs, List.mem_of_getElem? hb, ?_⟩
  simp only [Bool.not_eq_true, List.all_eq_false]
  refine ⟨bs[j], List.getElem_mem hj, ?_⟩
  have : bs[j] ≠ 0 := fun e => h (by simp [byt, hj, e])
  simpa using this
theorem byt_zero {bs : List UInt8} (h : ∀ j, j < bs.length → byt bs j = 0) : ∀ x ∈ bs, x = 0 := by
  intro x hx
  obtain ⟨j, hj, rfl⟩ := List.getElem_of_mem hx
  have := h j hj
  simp [byt, hj] at this
  exact UInt8.toNat_inj.1 (by simpa using this)

/-! ### Sums behind bytes -/
theorem byt_left {a b : List UInt8} {j : Nat} (h : j < a.length) : byt (a ++ b) j = byt a j := by unfold byt; rw [List.getElem?_append_left h]
theorem byt_right {a b : List UInt8} {j : Nat} : byt (a ++ b) (a.length + j) = byt b j := by
  unfold byt; rw [List.getElem?_append_right (by omega), Nat.add_sub_cancel_left]
theorem wsum_left {a b : List UInt8} : ∀ {k : Nat}, 2 * k ≤ a.length → wsum (a ++ b) k = wsum a k
  | 0, _ => rfl
  | k + 1, h => by
    rw [wsum_succ, wsum_succ, wsum_left (by omega), wrd, wrd, byt_left (by omega), byt_left (by omega)]
theorem wall_two {a : List UInt8} {m : Nat} (h : a.length = 2 * m) (x y : UInt8) : wall (a ++ [x, y]) = wall a + ((x.toNat : Int) * 256 + (y.toNat : Int)) := by
  have e1 : prs (a ++ [x, y]).length = m + 1 := by rw [List.length_append, h]; unfold prs; simp; omega
  have e2 : prs a.length = m := by rw [h]; unfold prs; omega
  rw [wall, wall, e1, e2, wsum_succ, wsum_left (by omega)]
  have e3 : wrd (a ++ [x, y]) m = (x.toNat : Int) * 256 + (y.toNat : Int) := by
    have h0 : byt (a ++ [x, y]) (2 * m) = (x.toNat : Int) := by have := byt_right (a := a) (b := [x, y]) (j := 0); rw [h, Nat.add_zero] at this; rw [this]; rfl
    have h1 : byt (a ++ [x, y]) (2 * m + 1) = (y.toNat : Int) := by have := byt_right (a := a) (b := [x, y]) (j := 1); rw [h] at this; rw [this]; rfl
    rw [wrd, h0, h1]
  rw [e3]
theorem wall_pair (x y : UInt8) : wall [x, y] = (x.toNat : Int) * 256 + (y.toNat : Int) := by
  have := wall_two (a := []) (m := 0) rfl x y
  simpa [wall, prs, wsum] using this
theorem fold_right {S : Int} (h : 0 ≤ S) : fold (S + (65535 - fold S)) = 65535 := by
  unfold fold; split <;> (split <;> omega)
/-- The two bytes of a sum. -/
def hi (n : Int) : UInt8 := UInt8.ofNat (n / 256).toNat
def lo (n : Int) : UInt8 := UInt8.ofNat (n % 256).toNat
theorem hi_val {n : Int} (h0 : 0 ≤ n) (h1 : n ≤ 65535) : ((hi n).toNat : Int) = n / 256 := by simp only [hi, UInt8.toNat_ofNat']; omega
theorem lo_val (n : Int) : ((lo n).toNat : Int) = n % 256 := by simp only [lo, UInt8.toNat_ofNat']; omega
theorem hi_lo {n : Int} (h0 : 0 ≤ n) (h1 : n ≤ 65535) : ((hi n).toNat : Int) * 256 + ((lo n).toNat : Int) = n := by rw [hi_val h0 h1, lo_val n]; omega
theorem right_sum {a : List UInt8} {m : Nat} (h : a.length = 2 * m) : rightB [a ++ [hi (65535 - fold (psum [a])), lo (65535 - fold (psum [a]))]] = true := by
  have hb := fold_bd (psum [a])
  have hp : psum [a] = wall a := by simp [psum]
  have hw := wall_bd a
  have e : psum [a ++ [hi (65535 - fold (psum [a])), lo (65535 - fold (psum [a]))]] = wall a + (65535 - fold (psum [a])) := by
    rw [show psum [a ++ [hi (65535 - fold (psum [a])), lo (65535 - fold (psum [a]))]] = wall (a ++ [hi (65535 - fold (psum [a])), lo (65535 - fold (psum [a]))]) from by simp [psum], wall_two h, hi_lo (by omega) (by omega)]
  rw [rightB, e, hp, fold_right hw.1]; rfl

theorem Rd.pair {W : World} {u v : Int} {x y : UInt8} (t : TypeId) (h : u = (x.toNat : Int)) (h' : v = (y.toNat : Int)) : Rd (W.alloc (.cells #[.int .u8 u, .int .u8 v] t)) (W.heap.size + 1) (some ⟨W.heap.size, 0, none⟩) [x, y] :=
  Rd.of_block (g := W.heap.size) (World.alloc_heap_new W _) (Nat.lt_succ_self _) 0 (fun j hj => by
    have : j = 0 ∨ j = 1 := by simp at hj; omega
    rcases this with rfl | rfl
    · simp [h, byt]
    · simp [h', byt])
theorem Made.arg {w w' : World} {A : Option Addr} {c : Nat} {bs : List UInt8} (h : w'.ownsRow w.heap.size 5 1 (.slice A bs.length c) bs.length (row bs)) : Arg w' w'.heap.size A c bs := by
  refine ⟨Rd.of_own rfl h, ?_, ?_⟩
  · rcases h.2 with ⟨e, h0⟩ | ⟨g, cap, cur, e, _, _, hle, _⟩
    · omega
    · injection e with _ _ e3; omega
  · rcases h.2 with ⟨e, h0⟩ | ⟨g, cap, cur, e, _, _, hle, _⟩
    · intro _; injection e with _ _ e3
    · intro e'; injection e with e1 _ _; rw [e'] at e1; cases e1
/-- The even part of a slice that came in. -/
theorem Arg.even {w : World} {B : Nat} {A : Option Addr} {c : Nat} {bs : List UInt8} (h : Arg w B A c bs) : Arg w B A c (bs.take (bs.length / 2 * 2)) := by
  have hl : (bs.take (bs.length / 2 * 2)).length = bs.length / 2 * 2 := by rw [List.length_take]; omega
  refine ⟨fun hn => ?_, by have := h.cap; omega, h.none_⟩
  obtain ⟨b, off, e, hb, hc⟩ := h.rd (by omega)
  refine ⟨b, off, e, hb, fun j hj => ?_⟩
  have hbt : byt (bs.take (bs.length / 2 * 2)) j = byt bs j := by unfold byt; rw [List.getElem?_take, if_pos (by omega)]
  rw [hbt]
  exact hc j (by omega)
theorem even_len (bs : List UInt8) : (bs.take (bs.length / 2 * 2)).length = bs.length / 2 * 2 := by rw [List.length_take]; omega

theorem own_below {w w' : World} {base e size n : Nat} {v : Value} {xs : List Value} (h : w.ownsRow base e size v n xs) (hb : Below w.heap.size w w') : w'.ownsRow base e size v n xs := by
  obtain ⟨h1, h2⟩ := h
  refine ⟨h1, ?_⟩
  rcases h2 with h2 | ⟨g, cap, cur, hv, hg, hh, r⟩
  · exact .inl h2
  · exact .inr ⟨g, cap, cur, hv, hg, (hb.block g (heap_lt hh)).trans hh, r⟩
theorem Rd2.one_n {w : World} {B g t n : Nat} {A : Option Addr} {c : Nat} {bs : List UInt8} (hn : n = bs.length) (hg : w.heap[g]? = some (.cells #[.slice A n c] t (0, 0))) (hB : g < B) (h : Arg w B A c bs) : Rd2 w B (some ⟨g, 0, none⟩) [bs] := by
  subst hn; exact Rd2.one hg hB h
theorem Made.arg_n {w w' : World} {A : Option Addr} {c n : Nat} {bs : List UInt8} {xs : List Value} (hn : n = bs.length) (hx : xs = row bs) (h : w'.ownsRow w.heap.size 5 1 (.slice A n c) n xs) : Arg w' w'.heap.size A c bs := by
  subst hn; subst hx; exact Made.arg h

/-! ### A sum stays right -/
theorem wsum_zero {bs : List UInt8} : ∀ {k : Nat}, wsum bs k = 0 → ∀ j, j < 2 * k → byt bs j = 0
  | 0, _, j, hj => absurd hj (by omega)
  | k + 1, h, j, hj => by
    have h1 := wsum_bd bs k
    have h2 := wrd_bd bs k
    rw [wsum_succ] at h
    have e1 : wsum bs k = 0 := by omega
    have e2 : wrd bs k = 0 := by omega
    by_cases hlt : j < 2 * k
    · exact wsum_zero e1 j hlt
    · have a1 := byt_lo bs (2 * k)
      have a2 := byt_lo bs (2 * k + 1)
      unfold wrd at e2
      have : j = 2 * k ∨ j = 2 * k + 1 := by omega
      rcases this with rfl | rfl <;> omega
theorem wall_zero {bs : List UInt8} (h : wall bs = 0) : ∀ x ∈ bs, x = 0 :=
  byt_zero fun j hj => wsum_zero (k := prs bs.length) h j (by unfold prs; omega)
theorem psum_cons (b : List UInt8) (l : List (List UInt8)) : psum (b :: l) = wall b + psum l := by simp [psum]
theorem psum_zero : ∀ {ps : List (List UInt8)}, psum ps = 0 → zeroB ps = true
  | [], _ => rfl
  | b :: l, h => by
    have h1 := wall_bd b
    have h2 := psum_bd l
    rw [psum_cons] at h
    have e1 : wall b = 0 := by omega
    have e2 : psum l = 0 := by omega
    have := psum_zero e2
    simp only [zeroB, List.all_cons, Bool.and_eq_true] at this ⊢
    exact ⟨by rw [List.all_eq_true]; intro x hx; simpa using wall_zero e1 x hx, this⟩
theorem fold_spec {n : Int} (h : 0 ≤ n) : ∃ q : Int, n = fold n + 65535 * q ∧ (0 < n → 1 ≤ fold n) ∧ fold n ≤ 65535 := by
  unfold fold
  split
  · exact ⟨0, by omega, by omega, by omega⟩
  · exact ⟨(n - 1) / 65535, by omega, by omega, by omega⟩
theorem stays {a b old now : List UInt8} {N M : Int} (hz : zeroB [a, now, b] = false) (hN : N = 65535 - fold (psum [a, old, b])) (hM : M = chg N old now) :
    rightB [a, now, b, [hi M, lo M]] = true ∧ 0 ≤ N ∧ N ≤ 65535 ∧ 0 ≤ M ∧ M ≤ 65535 := by
  have f1 := fold_bd (psum [a, old, b])
  have hN0 : 0 ≤ N := by omega
  have hN1 : N ≤ 65535 := by omega
  rw [chg, if_pos ⟨hN0, hN1⟩] at hM
  have f2 := fold_bd (65535 - N + (65535 * (prs old.length : Int) - wall old) + wall now)
  have hM0 : 0 ≤ M := by omega
  have hM1 : M ≤ 65535 := by omega
  refine ⟨?_, hN0, hN1, hM0, hM1⟩
  have wa := wall_bd a; have wb := wall_bd b; have wn := wall_bd now
  have wo : 0 ≤ wall old ∧ wall old ≤ 65535 * (prs old.length : Int) := wsum_bd old _
  have p1 : psum [a, old, b] = wall a + wall old + wall b := by simp [psum]; omega
  have p2 : psum [a, now, b] = wall a + wall now + wall b := by simp [psum]; omega
  have p3 : psum [a, now, b, [hi M, lo M]] = wall a + wall now + wall b + M := by
    simp only [psum_cons]; rw [wall_pair, hi_lo hM0 hM1]; simp [psum]; omega
  have hpos : 0 < wall a + wall now + wall b := by
    rcases Int.lt_or_le 0 (wall a + wall now + wall b) with h | h
    · exact h
    · have e : psum [a, now, b] = 0 := by omega
      rw [psum_zero e] at hz
      cases hz
  obtain ⟨q1, e1, _, _⟩ := fold_spec (n := psum [a, old, b]) (by omega)
  obtain ⟨q2, e2, _, _⟩ := fold_spec (n := 65535 - N + (65535 * (prs old.length : Int) - wall old) + wall now) (by omega)
  obtain ⟨q3, e3, g3, u3⟩ := fold_spec (n := wall a + wall now + wall b + M) (by omega)
  have g3' := g3 (by omega)
  rw [rightB, p3, beq_iff_eq]
  generalize fold (wall a + wall now + wall b + M) = Y at *
  generalize fold (65535 - N + (65535 * (prs old.length : Int) - wall old) + wall now) = X at *
  generalize fold (psum [a, old, b]) = Z at *
  omega

/-- Three, or four, slices side by side. -/
theorem Rd2.three {w : World} {B g t n0 n1 n2 : Nat} {A0 A1 A2 : Option Addr} {c0 c1 c2 : Nat} {b0 b1 b2 : List UInt8} (h0 : n0 = b0.length) (h1 : n1 = b1.length) (h2 : n2 = b2.length)
    (hg : w.heap[g]? = some (.cells #[.slice A0 n0 c0, .slice A1 n1 c1, .slice A2 n2 c2] t (0, 0))) (hB : g < B) (a0 : Arg w B A0 c0 b0) (a1 : Arg w B A1 c1 b1) (a2 : Arg w B A2 c2 b2) : Rd2 w B (some ⟨g, 0, none⟩) [b0, b1, b2] := by
  subst h0; subst h1; subst h2
  refine Rd2.of_cells hg hB fun j b hj => ?_
  match j, hj with
  | 0, hj => simp at hj; subst hj; exact ⟨_, _, rfl, a0⟩
  | 1, hj => simp at hj; subst hj; exact ⟨_, _, rfl, a1⟩
  | 2, hj => simp at hj; subst hj; exact ⟨_, _, rfl, a2⟩
  | j + 3, hj => simp at hj
theorem Rd2.four {w : World} {B g t n0 n1 n2 n3 : Nat} {A0 A1 A2 A3 : Option Addr} {c0 c1 c2 c3 : Nat} {b0 b1 b2 b3 : List UInt8} (h0 : n0 = b0.length) (h1 : n1 = b1.length) (h2 : n2 = b2.length) (h3 : n3 = b3.length)
    (hg : w.heap[g]? = some (.cells #[.slice A0 n0 c0, .slice A1 n1 c1, .slice A2 n2 c2, .slice A3 n3 c3] t (0, 0))) (hB : g < B) (a0 : Arg w B A0 c0 b0) (a1 : Arg w B A1 c1 b1) (a2 : Arg w B A2 c2 b2) (a3 : Arg w B A3 c3 b3) : Rd2 w B (some ⟨g, 0, none⟩) [b0, b1, b2, b3] := by
  subst h0; subst h1; subst h2; subst h3
  refine Rd2.of_cells hg hB fun j b hj => ?_
  match j, hj with
  | 0, hj => simp at hj; subst hj; exact ⟨_, _, rfl, a0⟩
  | 1, hj => simp at hj; subst hj; exact ⟨_, _, rfl, a1⟩
  | 2, hj => simp at hj; subst hj; exact ⟨_, _, rfl, a2⟩
  | 3, hj => simp at hj; subst hj; exact ⟨_, _, rfl, a3⟩
  | j + 4, hj => simp at hj
theorem bulk3 (a b c : List UInt8) : bulk [a, b, c] = a.length + b.length + c.length := by simp [bulk]; omega
theorem bulk4 (a b c d : List UInt8) : bulk [a, b, c, d] = a.length + b.length + c.length + d.length := by simp [bulk]; omega
theorem two_heap (X : World) (o1 o2 : Obj) : ((X.alloc o1).alloc o2).heap[X.heap.size + 1]? = some o2 := by
  have := World.alloc_heap_new (X.alloc o1) o2
  rwa [World.size_alloc] at this
theorem Arg.of_pair {X : World} {u v : Int} {x y : UInt8} (t : TypeId) (h : u = (x.toNat : Int)) (h' : v = (y.toNat : Int)) (o : Obj) : Arg ((X.alloc (.cells #[.int .u8 u, .int .u8 v] t)).alloc o) (X.heap.size + 2) (some ⟨X.heap.size, 0, none⟩) 2 [x, y] :=
  ⟨((Rd.pair t h h').alloc (by simp) o).more (by omega), by simp, fun e => by cases e⟩
theorem Arg.two {X : World} {B : Nat} {A : Option Addr} {c : Nat} {bs : List UInt8} (h : Arg X B A c bs) (hB : B ≤ X.heap.size) (o1 o2 : Obj) : Arg ((X.alloc o1).alloc o2) (X.heap.size + 2) A c bs :=
  ((h.alloc hB o1).alloc (by simp; omega) o2).more (by omega)
end Go.Proofs.YtafidbjaeopciaaDoor

/-
  Packets of IPv4, in plain lists of bytes: what may be, its bytes, what bytes are. No program. Conditions are each theorem's own.
-/
namespace Go.Proofs.YtafidbjaeopciaaDoor
open Go.RowKit

/-- A packet of IPv4 as the document has it. -/
structure P4 where
  tos : Int
  id : Int
  off : Int
  ttl : Int
  proto : Int
  src : Int
  dst : Int
  df : Bool
  mf : Bool
  opt : List UInt8
  dat : List UInt8
/-- The packet of nothing. -/
def p4z : P4 := ⟨0, 0, 0, 0, 0, 0, 0, false, false, [], []⟩
def head4 (q : P4) : Int := 20 + (q.opt.length : Int)
def size4 (q : P4) : Int := head4 q + (q.dat.length : Int)
def whole4 (q : P4) : Bool := !q.mf && decide (q.off ≤ 0)
/-- What is wrong with a packet's fields. -/
def arg4 (q : P4) : Prop := 0 ≤ q.tos ∧ q.tos ≤ 255 ∧ 0 ≤ q.ttl ∧ q.ttl ≤ 255 ∧ 0 ≤ q.proto ∧ q.proto ≤ 255 ∧ 0 ≤ q.id ∧ q.id ≤ 65535 ∧ 0 ≤ q.src ∧ q.src < 4294967296 ∧ 0 ≤ q.dst ∧ q.dst < 4294967296 ∧
  0 ≤ q.off ∧ q.off ≤ 65528 ∧ q.off % 8 = 0 ∧ q.opt.length ≤ 40 ∧ q.opt.length % 4 = 0 ∧ (q.mf = true → q.dat.length % 8 = 0)
instance (q : P4) : Decidable (arg4 q) := by unfold arg4; infer_instance
def chk4 (q : P4) : Int := if arg4 q then (if size4 q > 65535 ∨ q.off > 65535 - (q.dat.length : Int) then 6 else 0) else 1
/-- A byte of a number. -/
def u8 (n : Int) : UInt8 := UInt8.ofNat (n % 256).toNat
theorem u8_val (n : Int) : ((u8 n).toNat : Int) = n % 256 := by simp only [u8, UInt8.toNat_ofNat']; omega
def bit (b : Bool) (n : Int) : Int := if b then n else 0
def flags4 (q : P4) : Int := q.off / 8 + bit q.df 16384 + bit q.mf 8192
/-- Two bytes, four bytes of a number. -/
def be2 (n : Int) : List UInt8 := [u8 (n / 256), u8 n]
def be4 (n : Int) : List UInt8 := [u8 (n / 16777216), u8 (n / 65536), u8 (n / 256), u8 n]
theorem u8_dig {n : Int} (h : 0 ≤ n) (s i : Nat) : dig n s i = u8 (n / pw (s - 1 - i)) := by
  apply UInt8.toNat_inj.1
  have h1 := dig_val h s i
  have h2 := u8_val (n / pw (s - 1 - i))
  omega
theorem digs_two {n : Int} (h : 0 ≤ n) : digs n 2 = be2 n := by
  simp [digs, be2, List.range_succ, u8_dig h, pw]
theorem digs_four {n : Int} (h : 0 ≤ n) : digs n 4 = be4 n := by
  simp [digs, be4, List.range_succ, u8_dig h, pw]
/-- The head's first ten bytes, and what stands behind the sum. -/
def hda (q : P4) (size : Int) : List UInt8 := [u8 (64 + head4 q / 4), u8 q.tos, u8 (size / 256), u8 size, u8 (q.id / 256), u8 q.id, u8 (flags4 q / 256), u8 (flags4 q), u8 q.ttl, u8 q.proto]
def hdb (q : P4) : List UInt8 := [u8 (q.src / 16777216), u8 (q.src / 65536), u8 (q.src / 256), u8 q.src, u8 (q.dst / 16777216), u8 (q.dst / 65536), u8 (q.dst / 256), u8 q.dst] ++ q.opt
def hd4 (q : P4) (size sum : Int) : List UInt8 := hda q size ++ be2 sum ++ hdb q
def sum4 (q : P4) : Int := 65535 - fold (psum [hd4 q (size4 q) 0])
def bld4 (q : P4) : List UInt8 := hd4 q (size4 q) (sum4 q) ++ q.dat
theorem hd4_len (q : P4) (size sum : Int) : (hd4 q size sum).length = 20 + q.opt.length := by simp [hd4, hda, hdb, be2]; omega
theorem bld4_len (q : P4) : (bld4 q).length = 20 + q.opt.length + q.dat.length := by rw [bld4, List.length_append, hd4_len]

/-- The sum of bytes whose first part is of even length. -/
theorem wall_append {a b : List UInt8} {m : Nat} (h : a.length = 2 * m) : wall (a ++ b) = wall a + wall b := by
  have e1 : prs (a ++ b).length = m + prs b.length := by rw [List.length_append, h]; unfold prs; omega
  have e2 : prs a.length = m := by rw [h]; unfold prs; omega
  have key : ∀ k, wsum (a ++ b) (m + k) = wsum a m + wsum b k := by
    intro k
    induction k with
    | zero => rw [Nat.add_zero, wsum_left (by omega)]; simp [wsum]
    | succ k ih =>
      rw [← Nat.add_assoc, wsum_succ, wsum_succ, ih]
      have e3 : wrd (a ++ b) (m + k) = wrd b k := by
        have h0 := byt_right (a := a) (b := b) (j := 2 * k)
        have h1 := byt_right (a := a) (b := b) (j := 2 * k + 1)
        rw [h] at h0 h1
        rw [wrd, wrd, show 2 * (m + k) = 2 * m + 2 * k from by omega, h0, show 2 * m + 2 * k + 1 = 2 * m + (2 * k + 1) from by omega, h1]
      rw [e3]; omega
  rw [wall, wall, wall, e1, e2, key]
theorem be2_wall {n : Int} (h0 : 0 ≤ n) (h1 : n ≤ 65535) : wall (be2 n) = n := by
  rw [be2, wall_pair, u8_val, u8_val]; omega
theorem sum4_bd (q : P4) : 0 ≤ sum4 q ∧ sum4 q ≤ 65535 := by have := fold_bd (psum [hd4 q (size4 q) 0]); unfold sum4; omega
theorem head_right (q : P4) : rightB [hd4 q (size4 q) (sum4 q)] = true := by
  have hb := sum4_bd q
  have w : ∀ s, 0 ≤ s → s ≤ 65535 → psum [hd4 q (size4 q) s] = wall (hda q (size4 q)) + s + wall (hdb q) := fun s h0 h1 => by
    have : psum [hd4 q (size4 q) s] = wall (hd4 q (size4 q) s) := by simp [psum]
    rw [this, hd4, wall_append (m := 6) (by simp [hda, be2]), wall_append (m := 5) (by simp [hda]), be2_wall h0 h1]
  have w0 := w 0 (by omega) (by omega)
  have w1 := w (sum4 q) hb.1 hb.2
  have hs : sum4 q = 65535 - fold (psum [hd4 q (size4 q) 0]) := rfl
  have ha := (wall_bd (hda q (size4 q))).1
  have hc := (wall_bd (hdb q)).1
  rw [rightB, w1, show wall (hda q (size4 q)) + sum4 q + wall (hdb q) = (wall (hda q (size4 q)) + wall (hdb q)) + (65535 - fold (wall (hda q (size4 q)) + wall (hdb q))) from by rw [hs, w0]; simp only [Int.add_zero]; omega,
    fold_right (by omega)]
  rfl

/-- The number of two, of four bytes at a place. -/
def n2 (b : List UInt8) (i : Nat) : Int := byt b i * 256 + byt b (i + 1)
def n4 (b : List UInt8) (i : Nat) : Int := ((byt b i * 256 + byt b (i + 1)) * 256 + byt b (i + 2)) * 256 + byt b (i + 3)
def hlen (b : List UInt8) : Int := byt b 0 % 16 * 4
/-- The packet whose head bytes are, with data. -/
def fl4 (b dat : List UInt8) : P4 := ⟨byt b 1, n2 b 4, n2 b 6 % 8192 * 8, byt b 8, byt b 9, n4 b 12, n4 b 16, decide (n2 b 6 / 16384 % 2 = 1), decide (n2 b 6 / 8192 % 2 = 1), (b.take (hlen b).toNat).drop 20, dat⟩
/-- What is wrong with bytes; nothing: 0. -/
def bad4 (b : List UInt8) (quoted : Bool) : Int :=
  if b.length < 20 then 3
  else if byt b 0 / 16 ≠ 4 ∨ hlen b < 20 then 4
  else if hlen b > (b.length : Int) ∨ (quoted = false ∧ n2 b 2 > (b.length : Int)) then 3
  else if n2 b 2 < hlen b ∨ n2 b 6 ≥ 32768 then 4
  else if quoted = false ∧ rightB [b.take (hlen b).toNat] = false then 5
  else 0
def raw4 (b : List UInt8) : P4 := fl4 b ((b.take (min (n2 b 2) (b.length : Int)).toNat).drop (hlen b).toNat)
def prsE (b : List UInt8) (quoted : Bool) : Int := if bad4 b quoted = 0 then (if quoted = false ∧ chk4 (raw4 b) ≠ 0 then 4 else 0) else bad4 b quoted
def prsV (b : List UInt8) (quoted : Bool) : P4 := if prsE b quoted = 0 then raw4 b else p4z
end Go.Proofs.YtafidbjaeopciaaDoor

/-
  Packets that came in, opened: what a walk is told of each field. Conditions are each theorem's own.
-/
namespace Go.Proofs.YtafidbjaeopciaaDoor
open Go.RowKit Go.ChangeShapes Go.WideShapes

theorem piece_get {l : List Value} {i : Nat} {x : Value} (h : (l.drop i).take 1 = [x]) : l[i]? = some x := by
  have h0 := congrArg (·[0]?) h
  simpa [List.getElem?_take, List.getElem?_drop] using h0
section
variable {H : Type} {enc : TypeId × Value → H} {P : Program} {w : World} {base : Nat} {t e : TypeId} {v : Value} {d : DataW H} {p : List MemPlace} {x : DataW H × List MemPlace} {n : Nat} {l : List Value}
theorem cell_int {k : IntKind} (ht : P.underlying t = some (.int k)) (h : DataW.trod enc P w 0 (fun _ => true) true n t l = some x) : ∃ m, l = [.int k m] ∧ (Lit.int k m).wf = true := by
  obtain ⟨m, hm, _, hw⟩ := DataW.trod_int ht h
  exact ⟨m, hm, hw⟩
theorem cell_bool (ht : P.underlying t = some .bool) (h : DataW.trod enc P w 0 (fun _ => true) true n t l = some x) : ∃ b, l = [.bool b] := by
  obtain ⟨b, hb, _⟩ := DataW.trod_bool ht h
  exact ⟨b, hb⟩
theorem cell_bytes (ht : P.underlying t = some (.slice e)) (he : P.underlying e = some (.int .u8)) (hc : P.cellsOf e = 1) (h : DataW.trod enc P w 0 (fun _ => true) true n t l = some x) :
    ∃ A c bs, l = [.slice A bs.length c] ∧ Arg w w.heap.size A c bs ∧ c ≤ maxLen := by
  rcases open_ints ht he hc h with ⟨hcs, _⟩ | ⟨y, m, c, zs, hcs, _, hl, hm, hz, _, hcell, hwz⟩
  · exact ⟨none, 0, [], hcs, Arg.nil _ _, Nat.zero_le _⟩
  · obtain ⟨bs, rfl, ha⟩ := arg_of_row (w := w) (a := some y) (len := m) (cap := c) (zs := zs) (.inr ⟨y, rfl, hl, hm, by simpa using hz, hcell, hwz⟩)
    exact ⟨some y, c, bs, hcs, ha, hm⟩
end

/-- A packet's value: where its two slices lie. -/
def v4v (q : P4) (A : Option Addr) (c : Nat) (A' : Option Addr) (c' : Nat) : Value :=
  .agg #[.int .i64 q.tos, .int .i64 q.id, .int .i64 q.off, .int .i64 q.ttl, .int .i64 q.proto, .int .i64 q.src, .int .i64 q.dst, .bool q.df, .bool q.mf, .slice A q.opt.length c, .slice A' q.dat.length c']
/-- Its numbers fit. -/
def P4.fits (q : P4) : Prop := ∀ n ∈ [q.tos, q.id, q.off, q.ttl, q.proto, q.src, q.dst], (Lit.int .i64 n).wf = true
/-- A packet of IPv6, and its value. -/
structure P6 where
  traffic : Int
  flow : Int
  next : Int
  hop : Int
  src : List UInt8
  dst : List UInt8
  dat : List UInt8
def v6l (q : P6) (A : Option Addr) (c : Nat) : List Value := [Value.int .i64 q.traffic, Value.int .i64 q.flow, Value.int .i64 q.next, Value.int .i64 q.hop] ++ row q.src ++ row q.dst ++ [Value.slice A q.dat.length c]
def v6v (q : P6) (A : Option Addr) (c : Nat) : Value := .agg (v6l q A c).toArray
def P6.fits (q : P6) : Prop := ∀ n ∈ [q.traffic, q.flow, q.next, q.hop], (Lit.int .i64 n).wf = true
/-- A fragment header, and its value. -/
structure F6 where
  next : Int
  off : Int
  id : Int
  more : Bool
def frv (q : F6) : Value := .agg #[.int .i64 q.next, .int .i64 q.off, .int .i64 q.id, .bool q.more]
def F6.fits (q : F6) : Prop := ∀ n ∈ [q.next, q.off, q.id], (Lit.int .i64 n).wf = true
section
variable {H : Type} {enc : TypeId × Value → H} {w : World} {base : Nat} {v : Value} {d : DataW H} {p : List MemPlace}
end
end Go.Proofs.YtafidbjaeopciaaDoor
