/-
  Addresses of IPv6 as lists of sixteen bytes: which stands ahead, which is of a host. No program. Conditions are each theorem's own.
-/
import Derived.Test.YtcfcmnhnijjehaaMem
namespace Go.Proofs.Ytcfcmnhnijjehaa
open Go.RowKit

/-- The cells of an address. -/
def cel (a : List UInt8) : Array Value := (row a).toArray
theorem cel_size (a : List UInt8) : (cel a).size = a.length := by simp [cel, row_length]
theorem cel_get (a : List UInt8) {j : Nat} (h : j < a.length) : (cel a)[j]? = some (.int .u8 (byt a j)) := by
  rw [cel, List.getElem?_toArray, row_get a h]
theorem cel_at (a : List UInt8) {j : Nat} (h : j < a.length) (h' : j < (cel a).size) : (cel a)[j] = .int .u8 (byt a j) := by
  have h1 := cel_get a h
  rw [Array.getElem?_eq_getElem h'] at h1
  exact Option.some.inj h1
theorem below_n {w w' : World} {B : Nat} (h : Below B w w') (q : Nat) : Below B w (w'.drewN q) := ⟨h.os, h.tape, h.output, h.size, h.block⟩
theorem below_two (w : World) (x y : Obj) : Below w.heap.size w ((w.alloc x).alloc y) := ((Below.refl _ w).alloc (Nat.le_refl _) x).alloc (by simp) y
theorem two_first (w : World) (a b : List UInt8) (t u : TypeId) {j : Nat} (h : j < a.length) : ((w.alloc (.cells (cel a) t)).alloc (.cells (cel b) u)).cell? ⟨w.heap.size, j, none⟩ = some (.int .u8 (byt a j)) := by
  rw [World.cell?_alloc_lt _ _ _ (by simp), World.cell?_alloc_new]; exact cel_get a h
theorem two_second (w : World) (a b : List UInt8) (t u : TypeId) {j : Nat} (h : j < b.length) : ((w.alloc (.cells (cel a) t)).alloc (.cells (cel b) u)).cell? ⟨w.heap.size + 1, j, none⟩ = some (.int .u8 (byt b j)) := by
  have := World.cell?_alloc_new (w.alloc (.cells (cel a) t)) (cel b) u j
  rw [show (w.alloc (.cells (cel a) t)).heap.size = w.heap.size + 1 from by simp] at this
  rw [this]; exact cel_get b h
/-- Does a stand ahead of b? A plain definition. -/
def lexL : List UInt8 → List UInt8 → Bool
  | x :: xs, y :: ys => if x = y then lexL xs ys else decide (x.toNat < y.toNat)
  | _, _ => false
theorem byt_eq {a b : List UInt8} {k : Nat} (ha : k < a.length) (hb : k < b.length) : byt a k = byt b k ↔ a[k] = b[k] := by
  simp only [byt, List.getElem?_eq_getElem ha, List.getElem?_eq_getElem hb, Option.getD_some]
  constructor
  · intro h; exact UInt8.toNat_inj.1 (by omega)
  · intro h; rw [h]
theorem byt_at {a : List UInt8} {k : Nat} (ha : k < a.length) : byt a k = (a[k].toNat : Int) := by
  simp only [byt, List.getElem?_eq_getElem ha, Option.getD_some]
theorem lex_same {a b : List UInt8} {k : Nat} (ha : k < a.length) (hb : k < b.length) (h : lexL a b = lexL (a.drop k) (b.drop k)) (he : byt a k = byt b k) :
    lexL a b = lexL (a.drop (k + 1)) (b.drop (k + 1)) := by
  rw [h, List.drop_eq_getElem_cons ha, List.drop_eq_getElem_cons hb, lexL, if_pos ((byt_eq ha hb).1 he)]
theorem lex_here {a b : List UInt8} {k : Nat} (ha : k < a.length) (hb : k < b.length) (h : lexL a b = lexL (a.drop k) (b.drop k)) (he : ¬ byt a k = byt b k) :
    lexL a b = decide (byt a k < byt b k) := by
  rw [h, List.drop_eq_getElem_cons ha, List.drop_eq_getElem_cons hb, lexL, if_neg (fun e => he ((byt_eq ha hb).2 e)), byt_at ha, byt_at hb]
  simp
theorem lex_end {a b : List UInt8} {k : Nat} (ha : a.length ≤ k) (h : lexL a b = lexL (a.drop k) (b.drop k)) : lexL a b = false := by
  rw [h, List.drop_of_length_le ha, lexL]; simp
/-- The address of sixteen bytes 0. -/
def nul : List UInt8 := List.replicate 16 0
/-- Is it an address of a host? A plain definition. -/
def host6 (a : List UInt8) : Bool := !(decide (a = nul)) && (byt a 0 != 255)
theorem lex_self (a : List UInt8) : lexL a a = false := by
  induction a with
  | nil => rfl
  | cons x xs ih => rw [lexL, if_pos rfl]; exact ih
/-- Of two that differ one stands ahead. -/
theorem lex_tri : ∀ {a b : List UInt8}, a.length = b.length → a = b ∨ (a ≠ b ∧ lexL a b = true ∧ lexL b a = false) ∨ (a ≠ b ∧ lexL a b = false ∧ lexL b a = true)
  | [], [], _ => .inl rfl
  | [], _ :: _, h => by simp at h
  | _ :: _, [], h => by simp at h
  | x :: xs, y :: ys, h => by
    by_cases e : x = y
    · subst e
      rcases lex_tri (a := xs) (b := ys) (by simpa using h) with r | ⟨r, r1, r2⟩ | ⟨r, r1, r2⟩
      · exact .inl (by rw [r])
      · exact .inr (.inl ⟨by simpa using r, by rw [lexL, if_pos rfl, r1], by rw [lexL, if_pos rfl, r2]⟩)
      · exact .inr (.inr ⟨by simpa using r, by rw [lexL, if_pos rfl, r1], by rw [lexL, if_pos rfl, r2]⟩)
    · have hne : x.toNat ≠ y.toNat := fun h => e (UInt8.toNat_inj.1 h)
      have e' : ¬ y = x := fun h => e h.symm
      have hc : (x :: xs : List UInt8) ≠ y :: ys := fun h => e (by injection h)
      rcases Nat.lt_or_gt_of_ne hne with hl | hl
      · exact .inr (.inl ⟨hc, by rw [lexL, if_neg e]; simpa using hl, by rw [lexL, if_neg e']; simp; exact UInt8.le_of_lt hl⟩)
      · exact .inr (.inr ⟨hc, by rw [lexL, if_neg e]; simp; exact UInt8.le_of_lt hl, by rw [lexL, if_neg e']; simpa using hl⟩)
end Go.Proofs.Ytcfcmnhnijjehaa
