/-
  Contracts and lemmas on which the proofs of this seat stand (several texts in one). Conditions are each theorem's own.
-/
import Derived.Test.YtkncgjjflkbnfaaMb1

/-
  Bytes that are cut, and come in two orders: the parts of the statement's own row; two Holes side by side. Conditions are each theorem's own.
-/
namespace Go.Proofs.Ytkncgjjflkbnfaa
open Go.RowKit Go.Shelf
theorem info_lp : (Try.prog.info? 32).map (fun i => (i.zero, i.size, i.bytes)) = some (some (.agg #[.int .i64 0, .bool false, .slice none 0 0]), 3, 40) := by kernel_rfl
theorem run_bslp {o : Oper} {a : Act} {w : World} {x : Operand} {cs : Array Value} (ho : o.op = .buildSlice 22 1 #[(0, x)]) (hx : a.eval x = .agg cs) (hl : cs.size = 3) :
    (execOp a.eval o).run Try.prog w = .ok (.value (.slice (some ⟨w.heap.size, 0, none⟩) 1 1)) (w.alloc (.cells cs 32)) := by
  obtain ⟨i0, hi, hz0, hz1, hz2⟩ := info_parts info_lp
  have h := run_lit1 (P := Try.prog) w 22 32 i0 (.agg #[.int .i64 0, .bool false, .slice none 0 0]) cs 3 Try.underlying22 hi hz0 hz1 hl (by decide) (by decide)
  unfold execOp
  simp only [ho, List.map_toArray, List.map_cons, List.map_nil, hx, Sem.run_bind, h, Result.andThen_ok]
  rfl
set_option maxRecDepth 100000 in
/-- append onto a row of parts of the call's own, of a source that reads as parts. -/
theorem append_lps {w : World} {ops : Array Oper} {rest : List Oper} {o : Oper} {a : Act} {Q : Exit → Act → World → Prop} (hgd : o.guard = none) (s x : Operand)
    (ho : o.op = .call { callee := .builtin .append, args := #[s, x], argTypes := #[22, 22] })
    (base : Nat) (v : Value) (n : Nat) (xs : List Value) (hs : a.eval s = v) (hown : w.ownsRow base 32 3 v n xs)
    (B : Nat) (ad : Addr) (m c : Nat) (l : List XP) (hx : a.eval x = .slice (some ad) m c) (hm : m = l.length) (hr : RdS clP 3 w B (some ad) l)
    (hlen : n + m ≤ 1000000) (hbase : base ≤ w.heap.size)
    (h : ∀ v' w', w'.ownsRow base 32 3 v' (n + m) (xs ++ l.flatMap clP) → w.grownBy w' v.ownBlock → wpList Try.prog ops Q rest (a.put o.dst v') w') : wpList Try.prog ops Q (o :: rest) a w := by
  obtain ⟨i0, hi, hz0, hz1, hz2⟩ := info_parts info_lp
  subst hm
  refine wpList_append_own w hgd s x 22 ho base 32 i0 (.agg #[.int .i64 0, .bool false, .slice none 0 0]) 3 40 Try.underlying22 hi hz0 hz1 hz2 rfl (by decide) v n xs hs hown ad l.length c (l.flatMap clP) hx
    (flat3 l) (fun j u hj => ?_) (fun u hu => ?_) (by unfold maxLen; omega) (by omega) hbase (fun v' w' h1 h2 _ => h v' w' h1 h2)
  · have hj3 : j < l.length * 3 := by have := (List.getElem?_eq_some_iff.1 hj).1; rwa [flat3] at this
    obtain ⟨b, off, e, _, hc⟩ := hr (by omega)
    injection e with e
    subst e
    have hk : j / 3 < l.length := by omega
    obtain ⟨y, hy⟩ : ∃ y, l[j / 3]? = some y := ⟨_, List.getElem?_eq_getElem hk⟩
    have hlt : j % 3 < (clP y).length := by show j % 3 < 3; omega
    have hv : (clP y)[j % 3]? = some (clP y)[j % 3] := List.getElem?_eq_getElem hlt
    have h1 := flat_at l (fun _ _ => rfl) (sz := 3) (j / 3) y hy (j % 3) _ hv
    rw [show j / 3 * 3 + j % 3 = j by omega, hj] at h1
    have h2 := hc (j / 3) y hy (j % 3) _ hv
    rw [add_off, show off + j = off + j / 3 * 3 + j % 3 by omega, h2]
    exact h1.symm
  · obtain ⟨y, _, hy⟩ := List.mem_flatMap.1 hu
    exact clP_ones y u hy
theorem lps_new (w : World) (x : XP) : RdS clP 3 (w.alloc (.cells (clP x).toArray 32)) (w.heap.size + 1) (some ⟨w.heap.size, 0, none⟩) [x] := by
  intro _
  refine ⟨w.heap.size, 0, rfl, Nat.lt_succ_self _, fun j y hy => ?_⟩
  have hj : j = 0 := by have := (List.getElem?_eq_some_iff.1 hy).1; simpa using this
  subst hj
  have e : y = x := by simpa using hy.symm
  subst e
  intro i v hv
  rw [Nat.zero_mul, Nat.add_zero, Nat.zero_add, World.cell?_alloc_new, List.getElem?_toArray]
  exact hv
theorem Hx.beside {w w' : World} {g1 g2 c1 c2 : Nat} {A1 A2 : Option Addr} {L1 L2 : List XP} (h1 : Hx w g1 A1 c1 L1) (h2 : Hx w g2 A2 c2 L2) (k : Kept (fun k => k = g1 ∨ (Value.slice A1 L1.length c1).ownBlock = some k) w w') (hg : g1 ≠ g2)
    (hr : ∀ k, (Value.slice A1 L1.length c1).ownBlock = some k → (Value.slice A2 L2.length c2).ownBlock ≠ some k) : Hx w' g2 A2 c2 L2 := by
  have hp : ∀ k, (Value.slice A1 L1.length c1).ownBlock = some k → ∃ cur, w.heap[k]? = some (.cells cur 76 (0, 0)) := fun k hk => by
    rcases h1.own.2 with ⟨e, _⟩ | ⟨g', cap, cur, e, _, hg, _⟩
    · rw [e] at hk; cases hk
    · rw [e] at hk
      have : g' = k := by simpa [Value.ownBlock] using hk
      exact ⟨cur, this ▸ hg⟩
  refine ⟨(k.block g2 (heap_lt h2.obj) ?_).trans h2.obj, ?_, h2.nil_, fun y hy => own_keptO (h2.byt y hy) k h1.ofT th_no.2.2.1, h2.ris, h2.n⟩
  · rintro (e | e)
    · exact hg e.symm
    · obtain ⟨cur, h3⟩ := hp g2 e
      have h4 := h3.symm.trans h2.obj
      simp only [Option.some.injEq, Obj.cells.injEq] at h4
      exact absurd h4.2.1 (nat_ne (by kernel_rfl))
  · refine ⟨h2.own.1, ?_⟩
    rcases h2.own.2 with hn | ⟨g', cap, cur, hv, hb, hg', rest⟩
    · exact .inl hn
    · refine .inr ⟨g', cap, cur, hv, hb, (k.block g' (heap_lt hg') ?_).trans hg', rest⟩
      rintro (e | e)
      · have h4 := h1.obj.symm.trans (e ▸ hg')
        simp only [Option.some.injEq, Obj.cells.injEq] at h4
        exact absurd h4.2.1 (nat_ne (by kernel_rfl))
      · exact hr g' e (by rw [hv]; rfl)
theorem own_lt {w : World} {g c : Nat} {A : Option Addr} {L : List XP} (h : Hx w g A c L) : ∀ k, (Value.slice A L.length c).ownBlock = some k → k < w.heap.size := fun k hk => (h.own.lt k hk).2
/-- Two that own different rows. -/
def Apart2 (v1 v2 : Value) : Prop := ∀ k, v1.ownBlock = some k → v2.ownBlock ≠ some k
theorem Apart2.symm {v1 v2 : Value} (h : Apart2 v1 v2) : Apart2 v2 v1 := fun k h2 h1 => h k h1 h2
theorem Apart2.next {v1 v2 v : Value} {B : Nat} (h : Apart2 v1 v2) (hl : ∀ k, v2.ownBlock = some k → k < B) (hn : ∀ k, v.ownBlock = some k → v1.ownBlock = some k ∨ B ≤ k) : Apart2 v v2 := fun k hk h2 => by
  rcases hn k hk with h1 | h1
  · exact h k h1 h2
  · have := hl k h2; omega
theorem range_blk {w V : World} {g o : Nat} {cs : List Value} (h : V.rangeAt g o cs) (hb : w.heap[g]? = V.heap[g]?) : w.rangeAt g o cs := fun j v hj => (World.cell?_of_block (a := ⟨g, o + j, none⟩) hb).trans (h j v hj)
theorem own_row32 {w : World} {b : Nat} {v : Value} {l : List XP} (h : w.ownsRow b 32 3 v l.length (l.flatMap clP)) (hl : 0 < l.length) : ∃ g c cur, v = .slice (some ⟨g, 0, none⟩) l.length c ∧ l.length ≤ c ∧ w.heap[g]? = some (.cells cur 32 (0, 0)) ∧ ∀ (j : Nat) (x : XP), l[j]? = some x → w.rangeAt g (j * 3) (clP x) := by
  obtain ⟨A, c, e, hr, hc⟩ := own_rds h rfl rfl (fun _ _ => rfl)
  rcases h.2 with ⟨_, h0⟩ | ⟨g, cap, cur, e2, _, hg, _⟩
  · omega
  · rw [e2] at e
    injection e with e3 _ e4
    subst e4
    refine ⟨g, cap, cur, e2, hc, hg, fun j x hx => ?_⟩
    obtain ⟨b', o', e5, _, hrow⟩ := hr hl
    rw [← e3] at e5
    injection e5 with e5
    injection e5 with e6 e7
    subst e6; subst e7
    have := hrow j x hx
    rwa [Nat.zero_add] at this
theorem own_row32n {w : World} {b n : Nat} {v : Value} {l : List XP} (h : w.ownsRow b 32 3 v n (l.flatMap clP)) (hn : n = l.length) (hl : 0 < n) : ∃ g c cur, v = .slice (some ⟨g, 0, none⟩) n c ∧ n ≤ c ∧ w.heap[g]? = some (.cells cur 32 (0, 0)) ∧ ∀ (j : Nat) (x : XP), l[j]? = some x → w.rangeAt g (j * 3) (clP x) := by
  subst hn; exact own_row32 h hl
theorem chain_nodup {b : List UInt8} {k : Nat} {l : List Pc} (h : Chain b k l) : l.Nodup := h.facts.2.2.2.2.imp fun h e => by have := h.2.2; rw [e] at this; omega
theorem chain_take {b : List UInt8} {P : List Pc} (h : Chain b 0 P) (hb : b.length ≤ 65535) {j : Nat} {p : Pc} (hp : P[j]? = some p) : addE (P.take j) p = 0 ∧ addL (P.take j) p = P.take (j + 1) := by
  have hj := (List.getElem?_eq_some_iff.1 hp).1
  obtain ⟨h1, h2⟩ := order_add h hb (s := P.take j) (fun x hx => List.mem_of_mem_take hx) (List.mem_of_getElem? hp)
  refine ⟨h1, ?_⟩
  have hn : ¬ p ∈ P.take j := fun hm => by
    obtain ⟨i, hi⟩ := List.getElem?_of_mem hm
    rw [List.getElem?_take] at hi
    split at hi
    · rename_i hij
      have hi2 := (List.getElem?_eq_some_iff.1 hi).1
      have := (List.getElem_inj (chain_nodup h) (h₀ := hi2) (h₁ := hj)).1 ((List.getElem?_eq_some_iff.1 hi).2.trans (List.getElem?_eq_some_iff.1 hp).2.symm)
      omega
    · cases hi
  rw [h2, if_neg hn, List.take_succ_eq_append_getElem hj, (List.getElem?_eq_some_iff.1 hp).2]
theorem chain_rev {b : List UInt8} {P : List Pc} (h : Chain b 0 P) (hb : b.length ≤ 65535) {j : Nat} {p : Pc} (hp : P.reverse[j]? = some p) :
    addE (P.reverse.take j) p = 0 ∧ addL (P.reverse.take j) p = P.reverse.take (j + 1) ∧ addE (P.reverse.take (j + 1)) p = 0 ∧ addL (P.reverse.take (j + 1)) p = P.reverse.take (j + 1) := by
  have hj := (List.getElem?_eq_some_iff.1 hp).1
  have hm : p ∈ P := List.mem_reverse.1 (List.mem_of_getElem? hp)
  have hnd : P.reverse.Nodup := List.pairwise_reverse.2 ((chain_nodup h).imp fun h => Ne.symm h)
  obtain ⟨h1, h2⟩ := order_add h hb (s := P.reverse.take j) (fun x hx => List.mem_reverse.1 (List.mem_of_mem_take hx)) hm
  obtain ⟨h3, h4⟩ := order_add h hb (s := P.reverse.take (j + 1)) (fun x hx => List.mem_reverse.1 (List.mem_of_mem_take hx)) hm
  have hn : ¬ p ∈ P.reverse.take j := fun hm => by
    obtain ⟨i, hi⟩ := List.getElem?_of_mem hm
    rw [List.getElem?_take] at hi
    split at hi
    · rename_i hij
      have hi2 := (List.getElem?_eq_some_iff.1 hi).1
      have := (List.getElem_inj hnd (h₀ := hi2) (h₁ := hj)).1 ((List.getElem?_eq_some_iff.1 hi).2.trans (List.getElem?_eq_some_iff.1 hp).2.symm)
      omega
    · cases hi
  have hin : p ∈ P.reverse.take (j + 1) := List.mem_of_getElem? (i := j) (by rw [List.getElem?_take, if_pos (Nat.lt_succ_self j)]; exact hp)
  refine ⟨h1, ?_, h3, by rw [h4, if_pos hin]⟩
  rw [h2, if_neg hn, List.take_succ_eq_append_getElem hj, (List.getElem?_eq_some_iff.1 hp).2]

/-- bytes.Equal of two slices that read the same bytes. -/
theorem equal_n (A A' : Option Addr) (xs : List UInt8) (n m c c' B B' : Nat) (w : World) (hn : n = xs.length) (hm : m = xs.length) (h : Rd w B A xs) (h' : Rd w B' A' xs) :
    Calls Try.prog 22 #[.slice A n c, .slice A' m c'] w fun e w' => e = .returned (.bool true) ∧ w = w' := by
  subst hn
  subst hm
  refine (equal_any A A' xs xs c c' B B' w h h').mono ?_
  rintro e w' ⟨rfl, rfl⟩
  rw [decide_eq_true (rfl : xs = xs)]
  exact ⟨rfl, rfl⟩

end Go.Proofs.Ytkncgjjflkbnfaa
