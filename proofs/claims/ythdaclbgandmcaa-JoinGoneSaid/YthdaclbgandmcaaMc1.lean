/-
  Contracts and lemmas on which the proofs of this seat stand (several texts in one). Conditions are each theorem's own.
-/
import Derived.Test.YthdaclbgandmcaaMb1

/-
  Bytes that are cut, and come in two orders: the parts of the statement's own row; two Holes side by side. Conditions are each theorem's own.
-/
namespace Go.Proofs.Ythdaclbgandmcaa
open Go.RowKit Go.Shelf
theorem th_u8 : ¬ TH 5 := by rintro (h | h) <;> exact absurd h (nat_ne (by kernel_rfl))
theorem Hx.beside {w w' : World} {g1 g2 c1 c2 : Nat} {A1 A2 : Option Addr} {L1 L2 : List XP} (h1 : Hx w g1 A1 c1 L1) (h2 : Hx w g2 A2 c2 L2) (k : Kept (fun k => k = g1 ∨ (Value.slice A1 L1.length c1).ownBlock = some k) w w') (hg : g1 ≠ g2)
    (hr : ∀ k, (Value.slice A1 L1.length c1).ownBlock = some k → (Value.slice A2 L2.length c2).ownBlock ≠ some k) : Hx w' g2 A2 c2 L2 := by
  have hp : ∀ k, (Value.slice A1 L1.length c1).ownBlock = some k → ∃ cur, w.heap[k]? = some (.cells cur 158 (0, 0)) := fun k hk => by
    rcases h1.own.2 with ⟨e, _⟩ | ⟨g', cap, cur, e, _, hg, _⟩
    · rw [e] at hk; cases hk
    · rw [e] at hk
      have : g' = k := by simpa [Value.ownBlock] using hk
      exact ⟨cur, this ▸ hg⟩
  refine ⟨(k.block g2 (heap_lt h2.obj) ?_).trans h2.obj, ?_, h2.nil_, fun y hy => own_keptO (h2.byt y hy) k h1.ofT th_u8, h2.ris, h2.n⟩
  · rintro (e | e)
    · exact hg e.symm
    · obtain ⟨cur, h3⟩ := hp g2 e
      have h4 := h3.symm.trans h2.obj
      simp only [Option.some.injEq, Obj.cells.injEq] at h4
      exact absurd h4.2.1 (nat_ne (by kernel_rfl))
  · refine ⟨h2.own.1, ?_⟩
    rcases h2.own.2 with hn | ⟨g', cap, cur, hv, hb, hg', rest⟩
    · exact .inl hn
    · refine .inr ⟨g', cap, cur, hv, hb, (k.block g' (heap_lt hg') ?_).trans hg', rest⟩
      rintro (e | e)
      · have h4 := h1.obj.symm.trans (e ▸ hg')
        simp only [Option.some.injEq, Obj.cells.injEq] at h4
        exact absurd h4.2.1 (nat_ne (by kernel_rfl))
      · exact hr g' e (by rw [hv]; rfl)
theorem own_lt {w : World} {g c : Nat} {A : Option Addr} {L : List XP} (h : Hx w g A c L) : ∀ k, (Value.slice A L.length c).ownBlock = some k → k < w.heap.size := fun k hk => (h.own.lt k hk).2
/-- Two that own different rows. -/
def Apart2 (v1 v2 : Value) : Prop := ∀ k, v1.ownBlock = some k → v2.ownBlock ≠ some k
theorem Apart2.symm {v1 v2 : Value} (h : Apart2 v1 v2) : Apart2 v2 v1 := fun k h2 h1 => h k h1 h2
theorem Apart2.next {v1 v2 v : Value} {B : Nat} (h : Apart2 v1 v2) (hl : ∀ k, v2.ownBlock = some k → k < B) (hn : ∀ k, v.ownBlock = some k → v1.ownBlock = some k ∨ B ≤ k) : Apart2 v v2 := fun k hk h2 => by
  rcases hn k hk with h1 | h1
  · exact h k h1 h2
  · have := hl k h2; omega
theorem range_blk {w V : World} {g o : Nat} {cs : List Value} (h : V.rangeAt g o cs) (hb : w.heap[g]? = V.heap[g]?) : w.rangeAt g o cs := fun j v hj => (World.cell?_of_block (a := ⟨g, o + j, none⟩) hb).trans (h j v hj)
theorem chain_nodup {b : List UInt8} {k : Nat} {l : List Pc} (h : Chain b k l) : l.Nodup := h.facts.2.2.2.2.imp fun h e => by have := h.2.2; rw [e] at this; omega
theorem chain_take {b : List UInt8} {P : List Pc} (h : Chain b 0 P) (hb : b.length ≤ 65535) {j : Nat} {p : Pc} (hp : P[j]? = some p) : addE (P.take j) p = 0 ∧ addL (P.take j) p = P.take (j + 1) := by
  have hj := (List.getElem?_eq_some_iff.1 hp).1
  obtain ⟨h1, h2⟩ := order_add h hb (s := P.take j) (fun x hx => List.mem_of_mem_take hx) (List.mem_of_getElem? hp)
  refine ⟨h1, ?_⟩
  have hn : ¬ p ∈ P.take j := fun hm => by
    obtain ⟨i, hi⟩ := List.getElem?_of_mem hm
    rw [List.getElem?_take] at hi
    split at hi
    · rename_i hij
      have hi2 := (List.getElem?_eq_some_iff.1 hi).1
      have := (List.getElem_inj (chain_nodup h) (h₀ := hi2) (h₁ := hj)).1 ((List.getElem?_eq_some_iff.1 hi).2.trans (List.getElem?_eq_some_iff.1 hp).2.symm)
      omega
    · cases hi
  rw [h2, if_neg hn, List.take_succ_eq_append_getElem hj, (List.getElem?_eq_some_iff.1 hp).2]
theorem chain_rev {b : List UInt8} {P : List Pc} (h : Chain b 0 P) (hb : b.length ≤ 65535) {j : Nat} {p : Pc} (hp : P.reverse[j]? = some p) :
    addE (P.reverse.take j) p = 0 ∧ addL (P.reverse.take j) p = P.reverse.take (j + 1) ∧ addE (P.reverse.take (j + 1)) p = 0 ∧ addL (P.reverse.take (j + 1)) p = P.reverse.take (j + 1) := by
  have hj := (List.getElem?_eq_some_iff.1 hp).1
  have hm : p ∈ P := List.mem_reverse.1 (List.mem_of_getElem? hp)
  have hnd : P.reverse.Nodup := List.pairwise_reverse.2 ((chain_nodup h).imp fun h => Ne.symm h)
  obtain ⟨h1, h2⟩ := order_add h hb (s := P.reverse.take j) (fun x hx => List.mem_reverse.1 (List.mem_of_mem_take hx)) hm
  obtain ⟨h3, h4⟩ := order_add h hb (s := P.reverse.take (j + 1)) (fun x hx => List.mem_reverse.1 (List.mem_of_mem_take hx)) hm
  have hn : ¬ p ∈ P.reverse.take j := fun hm => by
    obtain ⟨i, hi⟩ := List.getElem?_of_mem hm
    rw [List.getElem?_take] at hi
    split at hi
    · rename_i hij
      have hi2 := (List.getElem?_eq_some_iff.1 hi).1
      have := (List.getElem_inj hnd (h₀ := hi2) (h₁ := hj)).1 ((List.getElem?_eq_some_iff.1 hi).2.trans (List.getElem?_eq_some_iff.1 hp).2.symm)
      omega
    · cases hi
  have hin : p ∈ P.reverse.take (j + 1) := List.mem_of_getElem? (i := j) (by rw [List.getElem?_take, if_pos (Nat.lt_succ_self j)]; exact hp)
  refine ⟨h1, ?_, h3, by rw [h4, if_pos hin]⟩
  rw [h2, if_neg hn, List.take_succ_eq_append_getElem hj, (List.getElem?_eq_some_iff.1 hp).2]

/-- bytes.Equal of two slices that read the same bytes. -/
theorem equal_n (A A' : Option Addr) (xs : List UInt8) (n m c c' B B' : Nat) (w : World) (hn : n = xs.length) (hm : m = xs.length) (h : Rd w B A xs) (h' : Rd w B' A' xs) :
    Calls Try.prog 20 #[.slice A n c, .slice A' m c'] w fun e w' => e = .returned (.bool true) ∧ w = w' := by
  subst hn
  subst hm
  refine (equal_any A A' xs xs c c' B B' w h h').mono ?_
  rintro e w' ⟨rfl, rfl⟩
  rw [decide_eq_true (rfl : xs = xs)]
  exact ⟨rfl, rfl⟩

end Go.Proofs.Ythdaclbgandmcaa
