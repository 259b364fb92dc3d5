/-
  Contracts and lemmas on which the proofs of this seat stand (several texts in one). Conditions are each theorem's own.
-/
import Derived.Test.YtkgbjohadkbjaaaQa6
import Derived.Test.YtkgbjohadkbjaaaQa3
import Derived.Great.BuildSlice
import Derived.OwnWalkIn
import Derived.Maps.OwnSet
import Derived.Maps.OwnOps
import Derived.Maps.Views
import Derived.Maps.Ext
import Derived.Test.YtkgbjohadkbjaaaQa5

/-
  Rows of structs: a slice whose elements fill so many cells each, read at an index, grown by one; what a round that grows one keeps. Conditions are each theorem's own.
-/
namespace Go.Proofs.Ytkgbjohadkbjaaa
open Go.RowKit Go.Shelf

section
variable {α : Type} {cl : α → List Value} {sz : Nat}
theorem flat_len (l : List α) (h : ∀ x ∈ l, (cl x).length = sz) : (l.flatMap cl).length = l.length * sz := by
  induction l with
  | nil => simp
  | cons x l ih =>
    rw [List.flatMap_cons, List.length_append, h x (by simp), ih (fun y hy => h y (by simp [hy])), List.length_cons, Nat.add_mul]; omega
theorem flat_at : ∀ (l : List α), (∀ x ∈ l, (cl x).length = sz) → ∀ (j : Nat) (x : α), l[j]? = some x → ∀ (i : Nat) (v : Value), (cl x)[i]? = some v → (l.flatMap cl)[j * sz + i]? = some v
  | [], _, j, x, hx, _, _, _ => by simp at hx
  | y :: l, h, 0, x, hx, i, v, hv => by
    simp only [List.getElem?_cons_zero, Option.some.injEq] at hx
    subst hx
    have hi := (List.getElem?_eq_some_iff.1 hv).1
    rw [List.flatMap_cons, Nat.zero_mul, Nat.zero_add, List.getElem?_append_left hi]; exact hv
  | y :: l, h, j + 1, x, hx, i, v, hv => by
    have hy := h y (by simp)
    rw [List.flatMap_cons, List.getElem?_append_right (by rw [hy, Nat.add_mul]; omega), hy, show (j + 1) * sz + i - sz = j * sz + i from by rw [Nat.add_mul]; omega]
    exact flat_at l (fun z hz => h z (by simp [hz])) j x (by simpa using hx) i v hv
/-- The slice at A reads as these elements; its cells lie below block B. -/
def RdS (cl : α → List Value) (sz : Nat) (w : World) (B : Nat) (A : Option Addr) (l : List α) : Prop :=
  0 < l.length → ∃ b off, A = some ⟨b, off, none⟩ ∧ b < B ∧ ∀ j x, l[j]? = some x → w.rangeAt b (off + j * sz) (cl x)
theorem RdS.keep {w w' : World} {B : Nat} {A : Option Addr} {l : List α} (h : RdS cl sz w B A l) (hk : ∀ p : Addr, p.block < B → w'.cell? p = w.cell? p) : RdS cl sz w' B A l := fun hn => by
  obtain ⟨b, off, e, hb, hc⟩ := h hn
  exact ⟨b, off, e, hb, fun j x hx i v hv => (hk ⟨b, _, none⟩ hb).trans (hc j x hx i v hv)⟩
theorem RdS.below {w w' : World} {B : Nat} {A : Option Addr} {l : List α} (h : RdS cl sz w B A l) (hb : Below B w w') : RdS cl sz w' B A l := h.keep fun _ hp => hb.cell hp
theorem RdS.more {w : World} {B B' : Nat} {A : Option Addr} {l : List α} (h : RdS cl sz w B A l) (hB : B ≤ B') : RdS cl sz w B' A l := fun hn => by
  obtain ⟨b, off, e, hb, hc⟩ := h hn
  exact ⟨b, off, e, by omega, hc⟩
theorem own_rds {w : World} {base e n : Nat} {v : Value} {xs : List Value} {l : List α} (h : w.ownsRow base e sz v n xs) (hn : n = l.length) (hx : xs = l.flatMap cl) (hl : ∀ x ∈ l, (cl x).length = sz) :
    ∃ A c, v = .slice A l.length c ∧ RdS cl sz w w.heap.size A l ∧ l.length ≤ c := by
  subst hn; subst hx
  rcases h.2 with ⟨rfl, h0⟩ | ⟨g, cap, cur, rfl, hb, hh, hle, _, hs, ht⟩
  · exact ⟨none, 0, by rw [h0], fun hn => by omega, by omega⟩
  · refine ⟨_, cap, rfl, fun _ => ⟨g, 0, rfl, heap_lt hh, fun j x hx i v hv => ?_⟩, hle⟩
    have hf := flat_at l hl j x hx i v hv
    have hcl : j * sz + i < l.length * sz := by
      have := (List.getElem?_eq_some_iff.1 hf).1
      rwa [flat_len l hl] at this
    have := World.ownsRow.cellAt h (j * sz + i) hcl
    rw [hf] at this
    rw [Nat.zero_add]; exact this
end

/-! ### What a round keeps -/
/-- Each block of cells lies as it lay, but for variables of type t, and rows of type e of more than one element. -/
structure KeepS (e t sz : Nat) (X Y : World) : Prop where
  size : X.heap.size ≤ Y.heap.size
  block : ∀ (k : Nat) (cs : Array Value) (ty : TypeId) (fr : Nat × Nat), X.heap[k]? = some (.cells cs ty fr) → ty ≠ t → (ty = e → cs.size ≤ sz) → Y.heap[k]? = X.heap[k]?
section
variable {e t sz : Nat} {X Y Z : World}
theorem KeepS.refl (X : World) : KeepS e t sz X X := ⟨Nat.le_refl _, fun _ _ _ _ _ _ _ => rfl⟩
theorem KeepS.trans (h : KeepS e t sz X Y) (k : KeepS e t sz Y Z) : KeepS e t sz X Z :=
  ⟨Nat.le_trans h.size k.size, fun i cs ty fr hi h1 h2 => (k.block i cs ty fr ((h.block i cs ty fr hi h1 h2).trans hi) h1 h2).trans (h.block i cs ty fr hi h1 h2)⟩
theorem KeepS.of_below (h : Below X.heap.size X Y) : KeepS e t sz X Y := ⟨h.size, fun _ _ _ _ hi _ _ => h.block _ (heap_lt hi)⟩
theorem KeepS.loop {l : Nat} {r r' : Loop} (hl : X.heap[l]? = some (.loop r)) : KeepS e t sz X (X.putObj l (.loop r')) :=
  ⟨by simp, fun k cs ty fr hk _ _ => World.putObj_heap_other (fun e => by rw [e, hl] at hk; cases hk)⟩
theorem KeepS.set {b : Nat} {u v : Value} {ty : TypeId} (h : Boxed X b ty u) (ht : ty = t) : KeepS e t sz X (X.setCell ⟨b, 0, none⟩ v) :=
  ⟨by simp, fun k cs ty' fr hk h1 _ => Below.heap_setCell X _ _ k (fun e => by rw [e] at hk; have := (show X.heap[b]? = _ from h).symm.trans hk; simp at this; exact h1 (this.2.1.symm.trans ht))⟩
theorem KeepS.own {base e' s' n : Nat} {v : Value} {xs : List Value} (h : X.ownsRow base e' s' v n xs) (k : KeepS e t sz X Y) (h1 : e' ≠ t) (h2 : e' ≠ e) : Y.ownsRow base e' s' v n xs := by
  refine ⟨h.1, ?_⟩
  rcases h.2 with hn | ⟨g, cap, cur, hv, hb, hg, rest⟩
  · exact .inl hn
  · exact .inr ⟨g, cap, cur, hv, hb, (k.block g cur e' _ hg h1 (fun e => absurd e h2)).trans hg, rest⟩
theorem KeepS.box {b : Nat} {ty : TypeId} {v : Value} (k : KeepS e t sz X Y) (h : Boxed X b ty v) (h1 : ty ≠ t) (h2 : ty = e → 1 ≤ sz) : Boxed Y b ty v := (k.block b _ _ _ h h1 (fun e => by simpa using h2 e)).trans h
theorem KeepS.heap {b : Nat} {cs : Array Value} {ty : TypeId} {fr : Nat × Nat} (k : KeepS e t sz X Y) (h : X.heap[b]? = some (.cells cs ty fr)) (h1 : ty ≠ t) (h2 : cs.size ≤ sz) : Y.heap[b]? = some (.cells cs ty fr) := (k.block b _ _ _ h h1 (fun _ => h2)).trans h
end

/-! ### One element more -/
section
variable {P : Program}
theorem fill_one (cs z : Array Value) (sz : Nat) (hc : cs.size = sz) (hs : 0 < sz) :
    Instr.fill (fun i => some (i * sz, sz)) ((Array.range (1 * sz)).map (z[· % z.size]!)) [(0, .agg cs)] = some cs := by
  have h := Great.fill_whole hs [.agg cs] ((Array.range (1 * sz)).map (z[· % z.size]!)) (by simp [Value.cells, hc]) (by simp)
  simpa [Value.cells] using h
/-- A slice literal of one struct. -/
theorem run_lit1 (w : World) (t e : TypeId) (ie : TypeInfo) (z : Value) (cs : Array Value) (sz : Nat) (hu : P.underlying t = some (.slice e)) (hie : P.info? e = some ie) (hz : ie.zero = some z)
    (hs : ie.size = sz) (hc : cs.size = sz) (h0 : 0 < sz) (h1 : sz ≤ 1000) :
    (Instr.buildSlice t 1 #[(0, .agg cs)]).run P w = .ok (.slice (some ⟨w.heap.size, 0, none⟩) 1 1) (w.alloc (.cells cs e)) :=
  run_buildSlice w t e 1 _ cs ie z hu hie hz (by rw [hs]; omega) (by rw [hs]; omega) (by rw [hs]; exact fill_one cs z.cells sz hc h0)
/-- What an append of one element keeps. -/
theorem append_keeps (w : World) (base t ty e : Nat) (i : TypeInfo) (z : Value) (size bytes : Nat) (ht : P.underlying t = some (.slice e)) (hi : P.info? e = some i) (hz : i.zero = some z)
    (hsize : i.size = size) (hby : i.bytes = bytes) (hsz : 0 < size)
    (v : Value) (n : Nat) (xs : List Value) (hown : w.ownsRow base e size v n xs) (hv : v = .slice none 0 0 ∨ 0 < n)
    (a : Addr) (c : Nat) (news : List Value) (hl : news.length = size) (hnews : ∀ j u, news[j]? = some u → w.cell? (a.add j) = some u) (h1 : ∀ u ∈ news, u.oneCell' = true)
    (h63 : n + 1 ≤ maxLen) (hbytes : (n + 1) * bytes ≤ 140737488355328) {v' : Value} {w' : World}
    (hr : (Builtin.append_ #[t, t] ty #[v, .slice (some a) 1 c]).run P w = .ok v' w') :
    (∀ (k : Nat) (cs : Array Value) (y : TypeId) (fr : Nat × Nat), w.heap[k]? = some (.cells cs y fr) → (y = e → cs.size ≤ size) → w'.heap[k]? = w.heap[k]?) ∧ (v'.ownBlock = v.ownBlock ∨ v'.ownBlock = some w.heap.size) := by
  subst hsize
  subst hby
  have hl1 : news.length = 1 * i.size := by omega
  rcases hown.2 with ⟨rfl, rfl⟩ | ⟨g, cap, cur, rfl, hbg, hg, hnc, hcm, hcs, htake⟩
  · have h := run_append_nil (P := P) w t ty e i z ht hi hz a 1 c news hl1 hnews (by omega) (by omega) (by simp only [Nat.zero_add] at hbytes; omega)
    rw [h] at hr
    cases hr
    exact ⟨fun k cs y fr hk _ => Below.heap_alloc w.drew _ k (heap_lt hk), .inr rfl⟩
  · have hn : 0 < n := by
      rcases hv with e | e
      · cases e
      · exact e
    by_cases hroom : n + 1 ≤ cap
    · have hfit : n * i.size + news.length ≤ cur.size := by rw [hl1, hcs, ← Nat.add_mul]; exact Nat.mul_le_mul_right _ hroom
      have h := run_append_room (P := P) w t ty e i ht hi g n cap cur hg a 1 c news hl1 hnews h1 hroom hfit
      rw [h] at hr
      cases hr
      refine ⟨fun k cs y fr hk hy => setRow_other w g k _ (fun e' => ?_), .inl rfl⟩
      subst e'
      rw [hg] at hk
      cases hk
      have h2 := hy rfl
      have h3 : 2 * i.size ≤ cap * i.size := Nat.mul_le_mul_right _ (by omega)
      omega
    · have holds : ∀ j u, xs[j]? = some u → w.cell? ((⟨g, 0, none⟩ : Addr).add j) = some u := hown.cells (g := g) rfl
      have h := run_append_grow (P := P) w t ty e i z ht hi hz ⟨g, 0, none⟩ n cap xs hown.1 holds a 1 c news hl1 hnews (by omega) (by simp only [maxLen] at h63; omega) (growslice_fits (by omega) hbytes)
      rw [h] at hr
      cases hr
      exact ⟨fun k cs y fr hk _ => Below.heap_alloc w.drew _ k (heap_lt hk), .inr rfl⟩
theorem wpListIn_append_one {F : Fence} {n : Nat} (w : World) {ops : Array Oper} {rest : List Oper} {o : Oper} {a : Act} {Q : Exit → Act → World → Prop}
    (hg : o.guard = none) (s x : Operand) (t : TypeId) (hop : o.op = Op.call { callee := Callee.builtin Builtin.append, args := #[s, x], argTypes := #[t, t] })
    (base : Nat) (e : TypeId) (i : TypeInfo) (z : Value) (size bytes : Nat) (h1 : P.underlying t = some (.slice e)) (h2 : P.info? e = some i) (h3 : i.zero = some z) (h4 : i.size = size) (h5 : i.bytes = bytes) (h6 : z.cells.size = size) (h7 : 0 < size)
    (v : Value) (k : Nat) (xs : List Value) (hs : a.eval s = v) (hown : w.ownsRow base e size v k xs) (hv : v = .slice none 0 0 ∨ 0 < k) (ad : Addr) (c : Nat) (news : List Value) (hx : a.eval x = .slice (some ad) 1 c) (hn : news.length = size)
    (hc : ∀ j u, news[j]? = some u → w.cell? (ad.add j) = some u) (h1c : ∀ u ∈ news, u.oneCell' = true) (b1 : k + 1 ≤ maxLen) (b2 : (k + 1) * bytes ≤ 140737488355328) (b3 : base ≤ w.heap.size)
    (hK : ∀ v' w', w'.ownsRow base e size v' (k + 1) (xs ++ news) → w.grownBy w' v.ownBlock →
      (∀ (j : Nat) (cs : Array Value) (y : TypeId) (fr : Nat × Nat), w.heap[j]? = some (.cells cs y fr) → (y = e → cs.size ≤ size) → w'.heap[j]? = w.heap[j]?) → (v'.ownBlock = v.ownBlock ∨ v'.ownBlock = some w.heap.size) → wpListIn F n P ops Q rest (a.put o.dst v') w') :
    wpListIn F n P ops Q (o :: rest) a w := by
  refine wpListIn_plain hg fun K hK' => ?_
  have hn1 : news.length = 1 * size := by omega
  obtain ⟨v', w', hrun, r1, r2, r3⟩ := run_append_own (P := P) w base t o.type e i z size bytes h1 h2 h3 h4 h5 h6 h7 v k xs hown ad 1 c news hn1 hc h1c b1 b2 b3
  have r4 := append_keeps w base t o.type e i z size bytes h1 h2 h3 h4 h5 h7 v k xs hown hv ad c news hn hc h1c b1 b2 hrun
  unfold Oper.wpIn
  refine ⟨?_, ?_⟩
  · simp [Oper.about, hop, resolve, Target.leads, Sem.run_pure]
  · rw [Oper.semAt_plain F _ _ (by rw [hop]; intro c hc'; cases hc')]
    simp [execOp, hop, resolve, invoke, builtin, hs, hx, hrun, Result.andThen]
    exact hK' _ _ (hK v' w' r1 r2 r4.1 r4.2)
end
end Go.Proofs.Ytkgbjohadkbjaaa

/-
  Two rows of bytes of a call's own beside each other: append to either; bytes copied into a row of a call's own; a slice of changes. Conditions are each theorem's own.
-/
namespace Go.Proofs.Ytkgbjohadkbjaaa
open Go.RowKit

/-- append of bytes onto a row of the call's own, and where the row lies then. -/
theorem append_where (w : World) {base ty n : Nat} {v : Value} {xs : List Value} (hown : w.ownsRow base 5 1 v n xs) (B : Nat) (A : Option Addr) (c : Nat) (bs : List UInt8) (hA : A = none → c = 0) (hr : Rd w B A bs) (hlen : n + bs.length ≤ 2199023255552) (hbase : base ≤ w.heap.size) :
    ∃ v' w', (Builtin.append_ #[45, 45] ty #[v, .slice A bs.length c]).run Try.prog w = .ok v' w' ∧ w'.ownsRow base 5 1 v' (n + bs.length) (xs ++ row bs) ∧ w.grownBy w' v.ownBlock ∧ (v'.ownBlock = v.ownBlock ∨ v'.ownBlock = some w.heap.size) := by
  obtain ⟨i0, hi, hz0, hz1, hz2⟩ := info_parts info_u8
  rcases Nat.eq_zero_or_pos bs.length with e0 | e0
  · obtain rfl := List.eq_nil_of_length_eq_zero e0
    rcases A with _ | ad
    · obtain rfl := hA rfl
      have hrun := run_append_owned_none (P := Try.prog) (w := w) base 45 ty 5 i0 1 Try.underlying45 hi v n xs hown
      exact ⟨v, w, hrun, by simpa [row] using hown, World.grownBy.refl w _, .inl rfl⟩
    · obtain ⟨v', w', hrun, r1, r2, r3⟩ := run_append_own (P := Try.prog) w base 45 ty 5 i0 (.int .u8 0) 1 1 Try.underlying45 hi hz0 hz1 hz2 rfl (by decide) v n xs hown ad 0 c [] rfl (fun j u hu => by simp at hu) (fun u hu => by cases hu) (by unfold maxLen; simp at hlen; omega) (by simp at hlen; omega) hbase
      refine ⟨v', w', hrun, by simpa [row] using r1, r2, ?_⟩
      rcases hown.2 with ⟨rfl, rfl⟩ | ⟨g, cap, cur, rfl, _, hg, hnc, _, hcs, _⟩
      · obtain rfl := r3.2 ⟨rfl, rfl⟩
        exact .inl rfl
      · have h := run_append_room (P := Try.prog) w 45 ty 5 i0 Try.underlying45 hi g n cap cur hg ad 0 c [] (by simp) (fun j u hu => by simp at hu) (fun u hu => by cases hu) (by omega) (by rw [hz1, hcs]; simp; omega)
        rw [h] at hrun
        cases hrun
        exact .inl rfl
  · obtain ⟨b0, off, rfl, hb0, hc0⟩ := hr e0
    have hsrc : ∀ j u, (row bs)[j]? = some u → w.cell? ((⟨b0, off, none⟩ : Addr).add j) = some u := fun j u hu => by
      have hj : j < bs.length := by have := (List.getElem?_eq_some_iff.1 hu).1; rwa [row_length] at this
      rw [row_getD bs hj hu, add_off]; exact hc0 j hj
    obtain ⟨v', w', hrun, r1, r2, r3⟩ := run_append_own (P := Try.prog) w base 45 ty 5 i0 (.int .u8 0) 1 1 Try.underlying45 hi hz0 hz1 hz2 rfl (by decide) v n xs hown ⟨b0, off, none⟩ bs.length c (row bs) (by rw [row_length, Nat.mul_one]) hsrc (row_one bs) (by unfold maxLen; omega) (by omega) hbase
    refine ⟨v', w', hrun, r1, r2, ?_⟩
    rcases hown.2 with ⟨rfl, rfl⟩ | ⟨g, cap, cur, rfl, _, hg, hnc, hcm, hcs, htake⟩
    · have h := run_append_nil (P := Try.prog) w 45 ty 5 i0 _ Try.underlying45 hi hz0 ⟨b0, off, none⟩ bs.length c (row bs) (by rw [row_length, hz1, Nat.mul_one]) hsrc e0 (by omega) (by rw [hz2]; omega)
      rw [h] at hrun
      cases hrun
      exact .inr rfl
    · by_cases hroom : n + bs.length ≤ cap
      · have h := run_append_room (P := Try.prog) w 45 ty 5 i0 Try.underlying45 hi g n cap cur hg ⟨b0, off, none⟩ bs.length c (row bs) (by rw [row_length, hz1, Nat.mul_one]) hsrc (row_one bs) hroom (by rw [hz1, hcs, row_length]; omega)
        rw [h] at hrun
        cases hrun
        exact .inl rfl
      · have hbk : xs.length = n * i0.size := by rw [hz1]; exact hown.1
        have h := run_append_grow (P := Try.prog) w 45 ty 5 i0 _ Try.underlying45 hi hz0 ⟨g, 0, none⟩ n cap xs hbk (hown.cells (g := g) rfl) ⟨b0, off, none⟩ bs.length c (row bs) (by rw [row_length, hz1, Nat.mul_one]) hsrc (by omega) (by omega) (growslice_fits (by omega) (by rw [hz2]; omega))
        rw [h] at hrun
        cases hrun
        exact .inr rfl
theorem append_wpO {w : World} {o : Oper} {a : Act} {K : Act → World → Prop} {Q : Exit → Act → World → Prop} (s x : Operand)
    (ho : o.op = .call { callee := .builtin .append, args := #[s, x], argTypes := #[45, 45] })
    (base : Nat) (v : Value) (n : Nat) (xs : List Value) (hs : a.eval s = v) (hown : w.ownsRow base 5 1 v n xs)
    (B : Nat) (A : Option Addr) (c : Nat) (bs : List UInt8) (hx : a.eval x = .slice A bs.length c) (hA : A = none → c = 0) (hr : Rd w B A bs)
    (hlen : n + bs.length ≤ 2199023255552) (hbase : base ≤ w.heap.size)
    (h : ∀ v' w', w'.ownsRow base 5 1 v' (n + bs.length) (xs ++ row bs) → w.grownBy w' v.ownBlock → (v'.ownBlock = v.ownBlock ∨ v'.ownBlock = some w.heap.size) → K (a.put o.dst v') w') : o.wp Try.prog a w K Q := by
  obtain ⟨v', w', hrun, r1, r2, r3⟩ := append_where w (ty := o.type) hown B A c bs hA hr hlen hbase
  unfold Oper.wp
  simp [execOp, ho, resolve, invoke, builtin, hs, hx, hrun, Result.andThen]
  exact h v' w' r1 r2 r3
/-- Two rows of bytes of the call's own. -/
structure TR (W : World) (base : Nat) (vo vn : Value) (o n : List UInt8) : Prop where
  o : W.ownsRow base 5 1 vo o.length (row o)
  n : W.ownsRow base 5 1 vn n.length (row n)
  ap : ∀ k, vo.ownBlock = some k → vn.ownBlock = some k → False
  le : base ≤ W.heap.size
section
variable {W W' : World} {base : Nat} {vo vn v' : Value} {o n x : List UInt8}
theorem TR.nil (W : World) (h : base ≤ W.heap.size) : TR W base (.slice none 0 0) (.slice none 0 0) [] [] := ⟨World.ownsRow_nil _ _ _ _, World.ownsRow_nil _ _ _ _, fun k h => by simp [Value.ownBlock] at h, h⟩
theorem TR.old (h : TR W base vo vn o n) (r1 : W'.ownsRow base 5 1 v' (o.length + x.length) (row o ++ row x)) (r2 : W.grownBy W' vo.ownBlock) (r3 : v'.ownBlock = vo.ownBlock ∨ v'.ownBlock = some W.heap.size) : TR W' base v' vn (o ++ x) n := by
  refine ⟨by rw [List.length_append, row_append]; exact r1, h.n.kept r2 ?_, fun k h1 h2 => ?_, Nat.le_trans h.le r2.size⟩
  · rcases e : vn.ownBlock with _ | k
    · exact .inl rfl
    · exact .inr fun e2 => h.ap k e2.symm e
  · rcases r3 with e | e
    · exact h.ap k (e.symm.trans h1) h2
    · rw [e] at h1
      have := (h.n.lt k h2).2
      have : W.heap.size = k := by injection h1
      omega
theorem TR.now (h : TR W base vo vn o n) (r1 : W'.ownsRow base 5 1 v' (n.length + x.length) (row n ++ row x)) (r2 : W.grownBy W' vn.ownBlock) (r3 : v'.ownBlock = vn.ownBlock ∨ v'.ownBlock = some W.heap.size) : TR W' base vo v' o (n ++ x) := by
  refine ⟨h.o.kept r2 ?_, by rw [List.length_append, row_append]; exact r1, fun k h1 h2 => ?_, Nat.le_trans h.le r2.size⟩
  · rcases e : vo.ownBlock with _ | k
    · exact .inl rfl
    · exact .inr fun e2 => h.ap k e e2.symm
  · rcases r3 with e | e
    · exact h.ap k h1 (e.symm.trans h2)
    · rw [e] at h2
      have := (h.o.lt k h1).2
      have : W.heap.size = k := by injection h2
      omega
theorem TR.below (h : TR W base vo vn o n) (hb : Below W.heap.size W W') : TR W' base vo vn o n :=
  ⟨own_below h.o hb, own_below h.n hb, h.ap, Nat.le_trans h.le hb.size⟩
theorem grown_keeps {b ty m : Nat} {cs : Array Value} {xs : List Value} {fr : Nat × Nat} (hb : W.heap[b]? = some (.cells cs ty fr)) (ht : ty ≠ 5) (ho : W.ownsRow base 5 1 vo m xs) (hg : W.grownBy W' vo.ownBlock) : W'.heap[b]? = some (.cells cs ty fr) := by
  refine (hg.block b (heap_lt hb) fun e => ?_).trans hb
  rcases ho.2 with ⟨rfl, _⟩ | ⟨g, cap, cur, rfl, _, hgb, _⟩
  · simp [Value.ownBlock] at e
  · have e2 : b = g := by simpa [Value.ownBlock] using e
    subst e2
    rw [hgb] at hb
    cases hb
    exact ht rfl
theorem splice_take {α : Type} {L cs : List α} {n off : Nat} (h : off + cs.length ≤ n) (hn : n ≤ L.length) : (L.take off ++ cs ++ L.drop (off + cs.length)).take n = splice (L.take n) off cs := by
  have h1 : (L.take off).length = off := by rw [List.length_take]; omega
  have t1 : (L.take off).take n = L.take off := List.take_of_length_le (by omega)
  have t2 : cs.take (n - off) = cs := List.take_of_length_le (by omega)
  rw [splice, List.take_take, List.drop_take, Nat.min_eq_left (by omega), List.append_assoc, List.take_append, List.take_append, h1, t1, t2, Nat.sub_sub]
theorem OwnR.grown {w0 : World} {t k m : Nat} {xs : List Value} (h : OwnR w0 t k W) (ht : t ≠ 5) (ho : W.ownsRow base 5 1 vo m xs) (hb : w0.heap.size ≤ base) (hg : W.grownBy W' vo.ownBlock) : OwnR w0 t k W' := by
  have hl := h.lt
  obtain ⟨hB, cs, hn, hh⟩ := h
  exact ⟨hB.grown hg (by omega) (fun j hj => Nat.le_trans hb (ho.lt j hj).1), cs, hn, grown_keeps hh ht ho hg⟩
/-- copy into a row of the call's own. -/
theorem copy_own {o : Oper} {a : Act} {K : Act → World → Prop} {Q : Exit → Act → World → Prop} (d s : Operand) (ho : o.op = .call { callee := .builtin .copy, args := #[d, s], argTypes := #[45, 45] })
    (off dLen dCap : Nat) (dp A G : Option Addr) (bs cur : List UInt8) (c cg B : Nat) (hd : a.eval d = .slice dp dLen dCap) (hs : a.eval s = .slice A bs.length c)
    (hown : W.ownsRow base 5 1 (.slice G cur.length cg) cur.length (row cur)) (hdp : 0 < bs.length → ∀ g, G = some ⟨g, 0, none⟩ → dp = some ⟨g, off, none⟩) (hr : Rd W B A bs) (hn : bs.length ≤ dLen) (hfit : off + bs.length ≤ cur.length)
    (h : ∀ w', w'.ownsRow base 5 1 (.slice G cur.length cg) (splice cur off bs).length (row (splice cur off bs)) → W.grownBy w' (Value.slice G cur.length cg).ownBlock → K (a.put o.dst (goInt bs.length)) w') : Oper.wp Try.prog o a W K Q := by
  by_cases h0 : bs.length = 0
  · obtain rfl : bs = [] := List.eq_nil_of_length_eq_zero h0
    have hrun := run_copy_none (P := Try.prog) W 45 45 o.type 5 dp A dLen dCap 0 c Try.underlying45 size_u8 (Nat.zero_min _)
    unfold Oper.wp
    simp [execOp, ho, resolve, invoke, builtin, hd, hs, hrun, Result.andThen]
    exact h W (by rw [splice_nil]; exact hown) (World.grownBy.refl W _)
  · obtain ⟨b, of, rfl, hbB, hc⟩ := hr (by omega)
    rcases hown.2 with ⟨e, h1⟩ | ⟨g, cap, cells, e, hbg, hg, hnc, hcm, hcs, htake⟩
    · omega
    · injection e with e1 _ e3
      subst e1; subst e3
      obtain rfl := hdp (by omega) g rfl
      have hrun := run_copy_row (P := Try.prog) W 45 45 o.type 5 g off dLen dCap ⟨b, of, none⟩ bs.length c cells 5 (row bs) Try.underlying45 size_u8 hg (by rw [row_length]; exact (Nat.min_eq_left hn).symm)
        (fun j v hj => by
          have hj' : j < bs.length := by have := (List.getElem?_eq_some_iff.1 hj).1; rwa [row_length] at this
          rw [row_getD bs hj' hj, add_off]; exact hc j hj') (by simp [row_length]; omega) (row_one bs)
      rw [row_length] at hrun
      unfold Oper.wp
      simp [execOp, ho, resolve, invoke, builtin, hd, hs, hrun, Result.andThen]
      change K (a.put o.dst (goInt (bs.length : Int))) _
      refine h _ ⟨by rw [row_length, Nat.mul_one], .inr ⟨g, cg, _, by rw [splice_len hfit], hbg, setRow_heap _ _ _ _ _ _ hg, by rw [splice_len hfit]; exact hnc, hcm, by simp [row_length]; omega, ?_⟩⟩ ⟨rfl, rfl, rfl, by simp, fun k _ hk => setRow_other W g k _ (fun e => hk (by simp [Value.ownBlock, e]))⟩
      rw [Nat.mul_one] at htake ⊢
      have ht := splice_take (L := cells.toList) (cs := row bs) (n := cur.length) (off := off) (by rw [row_length]; exact hfit) (by have e9 : cells.toList.length = cells.size := Array.length_toList; omega)
      rw [htake, row_splice, row_length] at ht
      rw [splice_len hfit, ← ht]
      simp
end
/-- A change, and where its bytes lie. -/
structure Xc where
  q : Ch
  A : Option Addr
  c : Nat
  A' : Option Addr
  c' : Nat
def clX (x : Xc) : List Value := [.int .i64 x.q.pl, .slice x.A x.q.old.length x.c, .slice x.A' x.q.now.length x.c']
structure XcOk (w : World) (B : Nat) (x : Xc) : Prop where
  o : Arg w B x.A x.c x.q.old
  n : Arg w B x.A' x.c' x.q.now
theorem XcOk.below {w w' : World} {B : Nat} {x : Xc} (h : XcOk w B x) (hb : Below B w w') : XcOk w' B x := ⟨h.o.below hb, h.n.below hb⟩
theorem XcOk.more {w : World} {B B' : Nat} {x : Xc} (h : XcOk w B x) (hb : B ≤ B') : XcOk w B' x := ⟨h.o.more hb, h.n.more hb⟩
theorem row_ofX {w : World} {B : Nat} {A : Option Addr} {l : List Xc} (h : RdS clX 3 w B A l) {k : Nat} {x : Xc} (hx : l[k]? = some x) : ∃ b o, A = some ⟨b, o, none⟩ ∧ b < B ∧ w.rangeAt b (o + k * 3) (clX x) := by
  obtain ⟨b, o, e, hb, hr⟩ := h (by have := (List.getElem?_eq_some_iff.1 hx).1; omega)
  exact ⟨b, o, e, hb, hr k x hx⟩
set_option maxRecDepth 100000 in
theorem run_load_cx {o : Oper} {a : Act} {w : World} {x : Operand} {g i : Nat} {y : Xc} (ho : o.op = .load 126 x) (hx : a.eval x = .pointer (some ⟨g, i, none⟩)) (hr : w.rangeAt g i (clX y)) :
    (execOp a.eval o).run Try.prog w = .ok (.value (.agg (cha y.q y.A y.c y.A' y.c'))) w := by
  have h := run_loadVar_mid (P := Try.prog) w g i 126 (clX y) _ hr Try.underlying126 rfl (by rw [show (clX y).length = 3 from rfl]; kernel_rfl)
  unfold execOp
  simp only [ho, hx, Instr.loadAt, Instr.sureAddr, Sem.run_bind, Sem.run_pure, Result.andThen_ok, h]
  rfl
def oldsX (l : List Xc) : List UInt8 := l.flatMap (·.q.old)
def nowsX (l : List Xc) : List UInt8 := l.flatMap (·.q.now)
theorem olds_take {l : List Xc} {k : Nat} {x : Xc} (hx : l[k]? = some x) : oldsX (l.take (k + 1)) = oldsX (l.take k) ++ x.q.old ∧ nowsX (l.take (k + 1)) = nowsX (l.take k) ++ x.q.now := by
  have hk := (List.getElem?_eq_some_iff.1 hx).1
  have e : l.take (k + 1) = l.take k ++ [x] := by rw [List.take_succ_eq_append_getElem hk, (List.getElem?_eq_some_iff.1 hx).2]
  rw [e]
  simp [oldsX, nowsX]
end Go.Proofs.Ytkgbjohadkbjaaa

/-
  Contracts of the inner functions of layer 26: a number of two bytes, a change, a sum's change, changes put. Conditions are each theorem's own.
-/
namespace Go.Proofs.Ytkgbjohadkbjaaa
open Go.RowKit
theorem Arg.mid {w : World} {B : Nat} {A : Option Addr} {c : Nat} {b : List UInt8} (h : Arg w B A c b) (i k : Nat) (hk : i + k ≤ b.length) : Arg w B (cutA A c i) (c - i) ((b.drop i).take k) := by
  have := h.cut i (i + k) hk
  rwa [List.drop_take, show i + k - i = k from by omega] at this
set_option maxRecDepth 100000 in
set_option maxHeartbeats 2000000 in
theorem cqget (b : List UInt8) (A : Option Addr) (c B i : Nat) (w : World) (hA : Arg w B A c b) (hl : b.length ≤ 1000000) (hi : i + 2 ≤ b.length) :
    Calls Try.prog 54 #[.slice A b.length c, .int .i64 (i : Int)] w fun e w' => e = .returned (.int .i64 (n2 b i)) ∧ w = w' := by
  have G := Lib.hid (get_two (b := b) (i := i) hi)
  have hR := hA.rd
  have hcap := hA.cap
  obtain ⟨N, hN⟩ : ∃ N, N = n2 b i := ⟨_, rfl⟩
  rw [← hN] at G ⊢
  clear hN hA
  go_enter Try.func54, Try.ntmps54
  go_wp2_with (go_at_call 74; refine (get_any A b c B i 2 w hR (by omega) hcap).mono ?_; rintro e w1 ⟨rfl, rfl⟩; rw [G.out])
  go_ret
  exact ⟨rfl, rfl⟩
set_option maxRecDepth 100000 in
set_option maxHeartbeats 2000000 in
theorem rqnum (b : List UInt8) (A : Option Addr) (c B i : Nat) (w : World) (hA : Arg w B A c b) (hl : b.length ≤ 1000000) (hi : i + 2 ≤ b.length) :
    Calls Try.prog 56 #[.slice A b.length c, .int .i64 (i : Int), .int .i64 2] w fun e w' => e = .returned (.int .i64 (n2 b i)) ∧ w = w' := by
  have G := Lib.hid (get_two (b := b) (i := i) hi)
  have hR := hA.rd
  obtain ⟨N, hN⟩ : ∃ N, N = n2 b i := ⟨_, rfl⟩
  rw [← hN] at G ⊢
  clear hN hA
  go_enter Try.func56, Try.ntmps56
  go_wp2_with (go_at_call 64; refine (rget_any A b c B i 2 w hR (by omega)).mono ?_; rintro e w1 ⟨rfl, rfl⟩; rw [G.out])
  go_ret
  exact ⟨rfl, rfl⟩
set_option maxRecDepth 100000 in
set_option maxHeartbeats 2000000 in
theorem cqchanged (b : List UInt8) (A : Option Addr) (c at_ k : Nat) (n s : Int) (X O : List UInt8) (w : World) (hcap : b.length ≤ c) (hl : b.length ≤ 1000000) (hs : s = (k : Int)) (hX : putB [] n s = X) (hO : O = (b.drop at_).take k) (hk : 0 < k) (h : at_ + k ≤ b.length) :
    Calls Try.prog 76 #[.slice A b.length c, .int .i64 (at_ : Int), .int .i64 n, .int .i64 s] w fun e w' => ∃ P p, e = .returned (chv ⟨at_, O, X⟩ (cutA A c at_) (c - at_) P p) ∧ Made w w' (.slice P X.length p) X := by
  subst hs
  have HX := Lib.hid hX
  have HOl := Lib.hid (show O.length = k by rw [hO]; simp; omega)
  have HW := Lib.hid (IntWalk.i64_in ((at_ : Int) + (k : Int)) (by omega))
  have hOR0 := OwnR.new w (cha chz none 0 none 0) 126
  clear hX hO
  go_enter Try.func76, Try.ntmps76
  go_upto_region 1 with fail
  have hOR : OwnR w 126 3 (w.alloc (.cells #[.int .i64 0, .slice none 0 0, .slice none 0 0] 126)) := hOR0
  clear hOR0
  generalize w.alloc (.cells #[.int .i64 0, .slice none 0 0, .slice none 0 0] 126) = W at *
  refine wp_region_held_drew (S := OwnR w 126 3) (by kernel_rfl) hOR.drew (fun hS => ?_)
  refine held_pure (i := 0) (oi := ⟨some 9, _, _, _, _, _⟩) rfl (by kernel_rfl) (by kernel_rfl) (by kernel_rfl) (fun _ _ _ h => h) (by rfl) (v := ?_) (fun w hSw => ?_) hS (fun hS => ?_)
  rotate_left
  · go_simp; try with_reducible rfl
  try go_frame
  refine held_pure (i := 1) (oi := ⟨some 10, _, _, _, _, _⟩) rfl (by kernel_rfl) (by kernel_rfl) (by kernel_rfl) (fun _ _ _ h => h) (by rfl) (v := ?_) (fun w hSw => ?_) hS (fun hS => ?_)
  rotate_left
  · go_simp; try with_reducible rfl
  try go_frame
  refine held_pure (i := 2) (oi := ⟨some 11, _, _, _, _, _⟩) rfl (by kernel_rfl) (by kernel_rfl) (by kernel_rfl) (fun _ _ _ h => h) (by rfl) (v := ?_) (fun w hSw => ?_) hS (fun hS => ?_)
  rotate_left
  · go_simp; try with_reducible rfl
  try go_frame
  refine held_pure (i := 3) (oi := ⟨some 12, _, _, _, _, _⟩) rfl (by kernel_rfl) (by kernel_rfl) (by kernel_rfl) (fun _ _ _ h => h) (by rfl) (v := ?_) (fun w hSw => ?_) hS (fun hS => ?_)
  rotate_left
  · go_simp; try with_reducible rfl
  try go_frame
  refine held_pure (i := 4) (oi := ⟨some 13, _, _, _, _, _⟩) rfl (by kernel_rfl) (by kernel_rfl) (by kernel_rfl) (fun _ _ _ h => h) (by rfl) (v := ?_) (fun w hSw => ?_) hS (fun hS => ?_)
  rotate_left
  · go_simp; try with_reducible rfl
  try go_frame
  refine held_pure (i := 5) (oi := ⟨some 14, _, _, _, _, _⟩) rfl (by kernel_rfl) (by kernel_rfl) (by kernel_rfl) (fun _ _ _ h => h) (by rfl) (v := .int .i64 ((at_ : Int) + (k : Int))) (fun w hSw => by go_simp; exact HW.out) hS (fun hS => ?_)
  try go_frame
  refine held_pure (i := 6) (oi := ⟨some 15, _, _, _, _, _⟩) rfl (by kernel_rfl) (by kernel_rfl) (by kernel_rfl) (fun _ _ _ h => h) (by rfl) (fun w hSw => run_cut_lh rfl rfl rfl rfl (by omega) (by omega) (by omega) (m := k) (by omega)) hS (fun hS => ?_)
  try go_frame
  refine held_pure (i := 7) (oi := ⟨some 16, _, _, _, _, _⟩) rfl (by kernel_rfl) (by kernel_rfl) (by kernel_rfl) (fun _ _ _ h => h) (by rfl) (v := ?_) (fun w hSw => ?_) hS (fun hS => ?_)
  rotate_left
  · go_simp; try with_reducible rfl
  try go_frame
  refine held_pure (i := 8) (oi := ⟨some 17, _, _, _, _, _⟩) rfl (by kernel_rfl) (by kernel_rfl) (by kernel_rfl) (fun _ _ _ h => h) (by rfl) (v := ?_) (fun w hSw => ?_) hS (fun hS => ?_)
  rotate_left
  · go_simp; try with_reducible rfl
  try go_frame
  refine wpAnyH_ready (rs := [9]) (by kernel_rfl) (by simp) (AllReadyH.cons (o := ⟨some 18, _, _, _, _, _⟩) rfl (fun K hK => ?_) AllReadyH.nil)
  rw [if_pos (by rfl)]
  go_simp
  have lt9 := hS.lt
  refine (put_any none [] 0 0 n (k : Int) _ Rd.nil (Nat.zero_le _) (by simp)).mono ?_
  rintro e w9 ⟨v9, rfl, m9⟩
  rw [HX.out] at m9
  obtain ⟨P9, p9, rfl, g9, o9, x9⟩ := made_shape m9
  clear m9
  show K _ _
  refine hK.out _ _ (hS.step x9) (fun hS => ?_)
  clear hK K
  try go_frame
  refine held_pure (i := 10) (oi := ⟨some 19, _, _, _, _, _⟩) rfl (by kernel_rfl) (by kernel_rfl) (by kernel_rfl) (fun _ _ _ h => h) (by rfl) (v := ?_) (fun w hSw => ?_) hS (fun hS => ?_)
  rotate_left
  · go_simp; try with_reducible rfl
  try go_frame
  refine wpAnyH_ready (rs := [11]) (by kernel_rfl) (by simp) (AllReadyH.cons (o := ⟨none, _, _, _, _, _⟩) rfl (fun K hK => ?_) AllReadyH.nil)
  rw [if_pos (by rfl)]
  obtain ⟨old, hold, hgo⟩ := hS.2
  have hrow := hS.row (cha ⟨at_, O, X⟩ (cutA A c at_) (c - at_) P9 p9) rfl
  refine wp_store_row 126 _ _ rfl w.heap.size (cha ⟨at_, O, X⟩ (cutA A c at_) (c - at_) P9 p9) rfl ?_ 126 old hgo (by kernel_rfl) hold (ch_one _ _ _ _ _) ?_
  · show Value.agg _ = _; rw [cha, HOl.out]
  have hgz := setRow_heap _ _ _ (cha ⟨at_, O, X⟩ (cutA A c at_) (c - at_) P9 p9) _ _ hgo
  refine hK.out _ _ hrow (fun hS => ?_)
  clear hK K
  try go_frame
  refine wpAnyH_done (by kernel_rfl) ?_ _
  go_wp2_with fail
  have oz := own_setRow o9 (g := w.heap.size) (cs := cha ⟨at_, O, X⟩ (cutA A c at_) (c - at_) P9 p9) lt9
  exact bodyPost_ret (ch_result rfl rfl hgz rfl) rfl ⟨P9, p9, rfl, Made.of_own (own_base oz (Nat.le_of_lt lt9)) hS.b⟩
theorem ch_ne : 126 ≠ 5 := by decide
set_option maxRecDepth 100000 in
set_option maxHeartbeats 2000000 in
theorem cqsummed (b : List UInt8) (A : Option Addr) (c B i : Nat) (LA : Option Addr) (lc : Nat) (l : List Xc) (w : World) (hA : Arg w B A c b) (hB : B ≤ w.heap.size) (hl : b.length ≤ 1000000) (hi : i + 2 ≤ b.length) (hL : RdS clX 3 w w.heap.size LA l) (hx : ∀ x ∈ l, XcOk w w.heap.size x ∧ x.q.old.length ≤ 10 ∧ x.q.now.length ≤ 10) (hll : l.length ≤ 10) (M : Int) (hM : chg (n2 b i) (oldsX l) (nowsX l) = M) (O : List UInt8) (hO : O = (b.drop i).take 2) :
    Calls Try.prog 79 #[.slice A b.length c, .int .i64 (i : Int), .slice LA l.length lc] w fun e w' => ∃ P p, e = .returned (chv ⟨i, O, be2 M⟩ (cutA A c i) (c - i) P p) ∧ Made w w' (.slice P (be2 M).length p) (be2 M) := by
  obtain ⟨n, hn⟩ : ∃ n, n = l.length := ⟨_, rfl⟩
  have HN := Lib.hid hn
  have HL := Lib.hid hL
  have HX := Lib.hid hx
  have HA := Lib.hid hA
  have HO := Lib.hid hO
  have TNE := ch_ne
  have hbd := chg_bd (n2 b i) (oldsX l) (nowsX l)
  rw [hM] at hbd
  have HB := Lib.hid hbd
  have HM := Lib.hid hM
  have hcap := hA.cap
  have hlens : ∀ k, (oldsX (l.take k)).length ≤ 10 * k ∧ (nowsX (l.take k)).length ≤ 10 * k := fun k => by
    induction k with
    | zero => simp [oldsX, nowsX]
    | succ k ih =>
      rcases Nat.lt_or_ge k l.length with h | h
      · obtain ⟨x, hx1⟩ : ∃ x, l[k]? = some x := ⟨_, List.getElem?_eq_getElem h⟩
        obtain ⟨e1, e2⟩ := olds_take hx1
        have := (hx x (List.mem_of_getElem? hx1)).2
        rw [e1, e2, List.length_append, List.length_append]; omega
      · rw [List.take_of_length_le (by omega)]
        rw [List.take_of_length_le (by omega)] at ih
        omega
  have HLEN := Lib.hid hlens
  rw [← hn] at hll ⊢
  have hOR0 := OwnR.new w (cha chz none 0 none 0) 126
  clear hn hL hx hA hO hM hlens hbd
  go_enter Try.func79, Try.ntmps79
  go_upto_region 2 with fail
  have hOR : OwnR w 126 3 (w.alloc (.cells #[.int .i64 0, .slice none 0 0, .slice none 0 0] 126)) := hOR0
  clear hOR0
  generalize w.alloc (.cells #[.int .i64 0, .slice none 0 0, .slice none 0 0] 126) = W at *
  go_wp2
  go_loopw [7, 8, 13] (fun s7 s8 s13 wr => ∃ (k : Nat), k ≤ n ∧ s13 = .int .i64 (k : Int) ∧ TR wr (w.heap.size + 1) s7 s8 (oldsX (l.take k)) (nowsX (l.take k)) ∧ OwnR w 126 3 wr)
    (fun _ _ s13 _ => n - (intOf s13).toNat)
  case atStart => exact ⟨0, Nat.zero_le _, rfl, TR.nil _ hOR.lt, hOR⟩
  case round =>
    obtain ⟨k, hk, rfl, tr, hor⟩ := hrel
    by_cases hlt : k < n
    · obtain ⟨x, hx⟩ : ∃ x, l[k]? = some x := ⟨_, List.getElem?_eq_getElem (by rw [← HN.out]; exact hlt)⟩
      obtain ⟨hxk, hx10, hx11⟩ := HX.out x (List.mem_of_getElem? hx)
      obtain ⟨b1, o1, rfl, hb1, hr1⟩ := row_ofX HL.out hx
      have hrow := range_below hr1 hb1 hor.b
      have hln := HLEN.out k
      obtain ⟨e1, e2⟩ := olds_take hx
      have E1 := Lib.hid e1
      have E2 := Lib.hid e2
      obtain ⟨lo, hlo⟩ : ∃ y, y = oldsX (l.take k) := ⟨_, rfl⟩
      obtain ⟨ln, hln2⟩ : ∃ y, y = nowsX (l.take k) := ⟨_, rfl⟩
      rw [← hlo] at tr hln E1
      rw [← hln2] at tr hln E2
      clear hx hr1 e1 e2 hlo hln2
      go_upto_region 5 with (first
        | ((with_reducible show wpList _ _ _ (Oper.mk _ (Op.load 126 _) _ _ _ _ :: _) _ _); refine wpList_val rfl (run_load_cx rfl rfl hrow) ?_)
        | ((with_reducible show wpList _ _ _ (Oper.mk _ (Op.store _ _ _) _ _ _ _ :: _) _ _); refine ch_store_new (cs := cha x.q x.A x.c x.A' x.c') rfl rfl rfl rfl (ch_one _ _ _ _ _) ?_))
      have hV : OwnR w 126 3 (wr.alloc (.cells (cha x.q x.A x.c x.A' x.c') 126)) := hor.alloc _
      have tr := tr.below ((Below.refl wr.heap.size wr).alloc (Nat.le_refl _) (.cells (cha x.q x.A x.c x.A' x.c') 126))
      have hgV := World.alloc_heap_new wr (.cells (cha x.q x.A x.c x.A' x.c') 126)
      generalize wr.alloc (.cells (cha x.q x.A x.c x.A' x.c') 126) = V at *
      refine wp_region_held_drew (S := fun w' => OwnR w 126 3 w' ∧ w'.heap[wr.heap.size]? = some (.cells (cha x.q x.A x.c x.A' x.c') 126 (0, 0))) (by kernel_rfl) ⟨hV.drew, hgV⟩ (fun hS => ?_)
      have tr : TR V.drew (w.heap.size + 1) u7 u8 lo ln := ⟨tr.o, tr.n, tr.ap, tr.le⟩
      refine held_pure (i := 0) (oi := ⟨some 17, _, _, _, _, _⟩) rfl (by kernel_rfl) (by kernel_rfl) (by kernel_rfl) (fun _ _ _ h => h) (by rfl) (v := ?_) (fun w hSw => ?_) hS (fun hS => ?_)
      rotate_left
      · go_simp; try with_reducible rfl
      try go_frame
      refine held_pure (i := 1) (oi := ⟨some 18, _, _, _, _, _⟩) rfl (by kernel_rfl) (by kernel_rfl) (by kernel_rfl) (fun _ _ _ h => h) (by rfl) (v := ?_) (fun w hSw => ?_) hS (fun hS => ?_)
      rotate_left
      · go_simp; try with_reducible rfl
      try go_frame
      refine held_pure (i := 2) (oi := ⟨some 19, _, _, _, _, _⟩) rfl (by kernel_rfl) (by kernel_rfl) (by kernel_rfl) (fun _ _ _ h => h) (by rfl) (fun w hSw => run_load_sl rfl rfl (Atch.old (Atch.of_heap hSw.2))) hS (fun hS => ?_)
      try go_frame
      refine held_pure (i := 4) (oi := ⟨some 21, _, _, _, _, _⟩) rfl (by kernel_rfl) (by kernel_rfl) (by kernel_rfl) (fun _ _ _ h => h) (by rfl) (v := ?_) (fun w hSw => ?_) hS (fun hS => ?_)
      rotate_left
      · go_simp; try with_reducible rfl
      try go_frame
      refine held_pure (i := 5) (oi := ⟨some 22, _, _, _, _, _⟩) rfl (by kernel_rfl) (by kernel_rfl) (by kernel_rfl) (fun _ _ _ h => h) (by rfl) (v := ?_) (fun w hSw => ?_) hS (fun hS => ?_)
      rotate_left
      · go_simp; try with_reducible rfl
      try go_frame
      refine held_pure (i := 6) (oi := ⟨some 23, _, _, _, _, _⟩) rfl (by kernel_rfl) (by kernel_rfl) (by kernel_rfl) (fun _ _ _ h => h) (by rfl) (fun w hSw => run_load_sl rfl rfl (Atch.now (Atch.of_heap hSw.2))) hS (fun hS => ?_)
      try go_frame
      refine wpAnyH_ready (rs := [3]) (by kernel_rfl) (by simp) (AllReadyH.cons (o := ⟨some 20, _, _, _, _, _⟩) rfl (fun K hK => ?_) AllReadyH.nil)
      rw [if_pos (by rfl)]
      refine append_wpO _ _ rfl (w.heap.size + 1) u7 lo.length (row lo) rfl tr.o w.heap.size x.A x.c x.q.old rfl hxk.o.none_ (hxk.below hS.1.b).o.rd (by omega) tr.le ?_
      intro v3 y3 r1 r2 r3
      have hS2 : OwnR w 126 3 y3 ∧ y3.heap[wr.heap.size]? = some (.cells (cha x.q x.A x.c x.A' x.c') 126 (0, 0)) := ⟨hS.1.grown TNE tr.o (Nat.le_succ _) r2, grown_keeps hS.2 TNE tr.o r2⟩
      have tr := tr.old r1 r2 r3
      clear r1 r2 r3
      refine hK.out _ _ hS2 (fun hS => ?_)
      clear hK K hS2
      try go_frame
      refine wpAnyH_ready (rs := [7]) (by kernel_rfl) (by simp) (AllReadyH.cons (o := ⟨some 24, _, _, _, _, _⟩) rfl (fun K hK => ?_) AllReadyH.nil)
      rw [if_pos (by rfl)]
      refine append_wpO _ _ rfl (w.heap.size + 1) u8 ln.length (row ln) rfl tr.n w.heap.size x.A' x.c' x.q.now rfl hxk.n.none_ (hxk.below hS.1.b).n.rd (by omega) tr.le ?_
      intro v7 y7 r1 r2 r3
      have hS2 : OwnR w 126 3 y7 ∧ y7.heap[wr.heap.size]? = some (.cells (cha x.q x.A x.c x.A' x.c') 126 (0, 0)) := ⟨hS.1.grown TNE tr.n (Nat.le_succ _) r2, grown_keeps hS.2 TNE tr.n r2⟩
      have tr := tr.now r1 r2 r3
      clear r1 r2 r3
      refine hK.out _ _ hS2 (fun hS => ?_)
      clear hK K hS2
      try go_frame
      refine held_pure (i := 8) (oi := ⟨some 7, _, _, _, _, _⟩) rfl (by kernel_rfl) (by kernel_rfl) (by kernel_rfl) (fun _ _ _ h => h) (by rfl) (v := ?_) (fun w hSw => ?_) hS (fun hS => ?_)
      rotate_left
      · go_simp; try with_reducible rfl
      try go_frame
      refine held_pure (i := 9) (oi := ⟨some 8, _, _, _, _, _⟩) rfl (by kernel_rfl) (by kernel_rfl) (by kernel_rfl) (fun _ _ _ h => h) (by rfl) (v := ?_) (fun w hSw => ?_) hS (fun hS => ?_)
      rotate_left
      · go_simp; try with_reducible rfl
      try go_frame
      refine wpAnyH_done (by kernel_rfl) ?_ _
      go_wp2
      go_roundw
      case rel => exact ⟨k + 1, by omega, by simp, by rw [E1.out, E2.out]; exact tr, hS.1⟩
      case measure => simp [intOf]; omega
    · obtain rfl : n = k := by omega
      rw [List.take_of_length_le (by rw [← HN.out]; exact Nat.le_refl _)] at tr
      have hln := HLEN.out n
      rw [List.take_of_length_le (by rw [← HN.out]; exact Nat.le_refl _)] at hln
      have hbd := HB.out
      obtain ⟨lo, hlo⟩ : ∃ y, y = oldsX l := ⟨_, rfl⟩
      obtain ⟨ln, hln2⟩ : ∃ y, y = nowsX l := ⟨_, rfl⟩
      rw [← hlo] at tr hln HM
      rw [← hln2] at tr hln HM
      obtain ⟨Ao, co, rfl, owo⟩ := own_made tr.o rfl rfl
      obtain ⟨An, cn, rfl, own⟩ := own_made tr.n rfl rfl
      have ro := (Rd.of_own rfl owo)
      have rn := (Rd.of_own rfl own)
      have hb2 := HA.out.below (hor.b.mono hB)
      clear hlo hln2 tr owo own
      go_wp2_with (first
        | (go_at_call 54; refine (cqget b A c B i _ hb2 hl hi).mono ?_; rintro e w1 ⟨rfl, rfl⟩)
        | (go_at_call 109; refine (change_any Ao An lo ln co cn wr.heap.size (n2 b i) wr ro rn (Nat.le_refl _) (by omega) (by omega)).mono ?_; rintro e w2 ⟨rfl, x2⟩; rw [HM.out])
        | (go_at_call 76; refine (cqchanged b A c i 2 M 2 (be2 M) O w2 hcap hl rfl (put_two (bs := []) hbd.1 hbd.2) HO.out (by omega) hi).mono ?_; rintro e w3 ⟨P, p, rfl, m3⟩; obtain ⟨_, _, e3, g3, o3, x3⟩ := made_shape m3; cases e3; have hO2 := (hor.step x2).lt; have hO3 := (hor.step x2).step x3; obtain ⟨old3, hold3, hgo3⟩ := id hO3.2)
        | ((with_reducible show wpList _ _ _ (Oper.mk _ (Op.store _ _ _) _ _ _ _ :: _) _ _); refine ch_store (g := w.heap.size) (cs := cha ⟨i, O, be2 M⟩ (cutA A c i) (c - i) P p) rfl rfl hgo3 hold3 rfl (ch_one _ _ _ _ _) ?_))
      exact bodyPost_ret (ch_result rfl rfl (setRow_heap _ _ _ _ _ _ hgo3) rfl) rfl ⟨P, p, rfl, Made.of_own (own_base (own_setRow o3 hO2) (Nat.le_of_lt hO2)) (hO3.row _ rfl).b⟩
/-- Changes put, one behind the other. -/
def putsX (l : List Xc) (b : List UInt8) : List UInt8 := l.foldl (fun o x => splice o x.q.pl.toNat x.q.now) b
theorem puts_take {l : List Xc} {k : Nat} {x : Xc} {b : List UInt8} (hx : l[k]? = some x) : putsX (l.take (k + 1)) b = splice (putsX (l.take k) b) x.q.pl.toNat x.q.now := by
  have hk := (List.getElem?_eq_some_iff.1 hx).1
  have e : l.take (k + 1) = l.take k ++ [x] := by rw [List.take_succ_eq_append_getElem hk, (List.getElem?_eq_some_iff.1 hx).2]
  rw [e]
  simp [putsX]
set_option maxRecDepth 100000 in
set_option maxHeartbeats 2000000 in
theorem cqput (b : List UInt8) (A : Option Addr) (c B : Nat) (LA : Option Addr) (lc : Nat) (l : List Xc) (w : World) (hA : Arg w B A c b) (hB : B ≤ w.heap.size) (hl : b.length ≤ 1000000) (hL : RdS clX 3 w w.heap.size LA l) (hx : ∀ x ∈ l, XcOk w w.heap.size x ∧ ∃ p : Nat, x.q.pl = (p : Int) ∧ p + x.q.now.length ≤ b.length) (hll : l.length ≤ 10) :
    Calls Try.prog 78 #[.slice A b.length c, .slice LA l.length lc] w fun e w' => ∃ P p, e = .returned (.slice P (putsX l b).length p) ∧ Made w w' (.slice P (putsX l b).length p) (putsX l b) := by
  obtain ⟨n, hn⟩ : ∃ n, n = l.length := ⟨_, rfl⟩
  obtain ⟨nb, hnb⟩ : ∃ n, n = b.length := ⟨_, rfl⟩
  have HN := Lib.hid hn
  have HL := Lib.hid hL
  have HX := Lib.hid hx
  have HA := Lib.hid hA
  have HNB := Lib.hid hnb
  have hlens : ∀ k, (putsX (l.take k) b).length = nb := fun k => by
    induction k with
    | zero => simp [putsX, hnb]
    | succ k ih =>
      rcases Nat.lt_or_ge k l.length with h | h
      · obtain ⟨x, hx1⟩ : ∃ x, l[k]? = some x := ⟨_, List.getElem?_eq_getElem h⟩
        obtain ⟨_, p, hp, hp2⟩ := hx x (List.mem_of_getElem? hx1)
        rw [puts_take hx1, splice_len (by rw [ih, hp]; show p + _ ≤ _; omega), ih]
      · rw [List.take_of_length_le (by omega)]
        rw [List.take_of_length_le (by omega)] at ih
        exact ih
  have HLEN := Lib.hid hlens
  rw [← hn] at hll ⊢
  rw [← hnb] at hl ⊢
  clear hn hL hx hA hnb hlens
  go_enter Try.func78, Try.ntmps78
  go_upto_region 3 with (go_at_call 23; refine (clone_n A b c B nb (Lib.hid HNB.out.symm) w HA.out hB (by rw [← HNB.out]; omega)).mono ?_; rintro e w1 ⟨v1, rfl, m1⟩; obtain ⟨G, cg, rfl, g1, own, x1⟩ := made_shape m1; clear m1; rw [← HNB.out] at own ⊢; have hcg := g1.cap; rw [← HNB.out] at hcg)
  go_wp2
  go_loopw [12] (fun s12 wr => ∃ (k : Nat), k ≤ n ∧ s12 = .int .i64 (k : Int) ∧ wr.ownsRow w.heap.size 5 1 (.slice G nb cg) nb (row (putsX (l.take k) b)) ∧ Below w.heap.size w wr) (fun s12 _ => n - (intOf s12).toNat)
  case atStart => exact ⟨0, Nat.zero_le _, rfl, own, x1⟩
  case round =>
    clear own x1 g1
    obtain ⟨k, hk, rfl, own, hbel⟩ := hrel
    by_cases hlt : k < n
    · obtain ⟨x, hx⟩ : ∃ x, l[k]? = some x := ⟨_, List.getElem?_eq_getElem (by rw [← HN.out]; exact hlt)⟩
      obtain ⟨hxk, pl, hp, hple⟩ := HX.out x (List.mem_of_getElem? hx)
      obtain ⟨b1, o1, rfl, hb1, hr1⟩ := row_ofX HL.out hx
      have hrow := range_below hr1 hb1 hbel
      have hcl := HLEN.out k
      have e1 := puts_take (b := b) hx
      rw [hp, Int.toNat_natCast] at e1
      have E1 := Lib.hid e1
      have HP := Lib.hid hp
      rw [← HNB.out] at hple
      obtain ⟨cur, hcur⟩ : ∃ y, y = putsX (l.take k) b := ⟨_, rfl⟩
      rw [← hcur] at own hcl E1
      clear hx hr1 e1 hcur hp
      go_upto_region 5 with (first
        | ((with_reducible show wpList _ _ _ (Oper.mk _ (Op.load 126 _) _ _ _ _ :: _) _ _); refine wpList_val rfl (run_load_cx rfl rfl hrow) ?_)
        | ((with_reducible show wpList _ _ _ (Oper.mk _ (Op.store _ _ _) _ _ _ _ :: _) _ _); refine ch_store_new (cs := cha x.q x.A x.c x.A' x.c') rfl rfl rfl rfl (ch_one _ _ _ _ _) ?_))
      have hV : Below w.heap.size w (wr.alloc (.cells (cha x.q x.A x.c x.A' x.c') 126)) := hbel.alloc hbel.size _
      have own := own_below own ((Below.refl wr.heap.size wr).alloc (Nat.le_refl _) (.cells (cha x.q x.A x.c x.A' x.c') 126))
      have hgV := World.alloc_heap_new wr (.cells (cha x.q x.A x.c x.A' x.c') 126)
      generalize wr.alloc (.cells (cha x.q x.A x.c x.A' x.c') 126) = V at *
      refine wp_region_held_drew (S := fun w' => Below w.heap.size w w' ∧ w'.heap[wr.heap.size]? = some (.cells (cha x.q x.A x.c x.A' x.c') 126 (0, 0))) (by kernel_rfl) ⟨hV.drew, hgV⟩ (fun hS => ?_)
      refine held_pure (i := 0) (oi := ⟨some 16, _, _, _, _, _⟩) rfl (by kernel_rfl) (by kernel_rfl) (by kernel_rfl) (fun _ _ _ h => h) (by rfl) (v := ?_) (fun w hSw => ?_) hS (fun hS => ?_)
      rotate_left
      · go_simp; try with_reducible rfl
      try go_frame
      refine held_pure (i := 1) (oi := ⟨some 17, _, _, _, _, _⟩) rfl (by kernel_rfl) (by kernel_rfl) (by kernel_rfl) (fun _ _ _ h => h) (by rfl) (v := ?_) (fun w hSw => ?_) hS (fun hS => ?_)
      rotate_left
      · go_simp; try with_reducible rfl
      try go_frame
      refine held_pure (i := 2) (oi := ⟨some 18, _, _, _, _, _⟩) rfl (by kernel_rfl) (by kernel_rfl) (by kernel_rfl) (fun _ _ _ h => h) (by rfl) (fun w hSw => run_load_int rfl rfl ((Atch.pl (Atch.of_heap hSw.2)).trans (by rw [HP.out]))) hS (fun hS => ?_)
      try go_frame
      refine held_pure (i := 3) (oi := ⟨some 19, _, _, _, _, _⟩) rfl (by kernel_rfl) (by kernel_rfl) (by kernel_rfl) (fun _ _ _ h => h) (by rfl) (fun w hSw => run_cut_l rfl rfl (l := pl) rfl (by omega) (m := nb - pl) rfl) hS (fun hS => ?_)
      try go_frame
      refine held_pure (i := 4) (oi := ⟨some 20, _, _, _, _, _⟩) rfl (by kernel_rfl) (by kernel_rfl) (by kernel_rfl) (fun _ _ _ h => h) (by rfl) (v := ?_) (fun w hSw => ?_) hS (fun hS => ?_)
      rotate_left
      · go_simp; try with_reducible rfl
      try go_frame
      refine held_pure (i := 5) (oi := ⟨some 21, _, _, _, _, _⟩) rfl (by kernel_rfl) (by kernel_rfl) (by kernel_rfl) (fun _ _ _ h => h) (by rfl) (fun w hSw => run_load_sl rfl rfl (Atch.now (Atch.of_heap hSw.2))) hS (fun hS => ?_)
      try go_frame
      refine wpAnyH_ready (rs := [6]) (by kernel_rfl) (by simp) (AllReadyH.cons (o := ⟨some 22, _, _, _, _, _⟩) rfl (fun K hK => ?_) AllReadyH.nil)
      rw [if_pos (by rfl)]
      refine copy_own _ _ rfl pl (nb - pl) (cg - pl) (cutA G cg pl) x.A' G x.q.now cur x.c' cg w.heap.size rfl rfl (by rw [hcl]; exact own) (fun h0 g hg => by rw [hg, cutA, if_neg (by omega), Option.map_some, add_off, Nat.zero_add]) (hxk.below hS.1).n.rd (by omega) (by omega) ?_
      intro y6 r1 r2
      rw [hcl] at r1 r2
      rw [splice_len (by omega), hcl] at r1
      have hS2 : Below w.heap.size w y6 ∧ y6.heap[wr.heap.size]? = some (.cells (cha x.q x.A x.c x.A' x.c') 126 (0, 0)) := ⟨hS.1.grown r2 hS.1.size (fun k hk => (own.lt k hk).1), grown_keeps hS.2 ch_ne own r2⟩
      have own := r1
      clear r1 r2
      refine hK.out _ _ hS2 (fun hS => ?_)
      clear hK K hS2
      try go_frame
      refine wpAnyH_done (by kernel_rfl) ?_ _
      go_wp2
      go_roundw
      case rel => exact ⟨k + 1, by omega, by simp, by rw [E1.out]; exact own, hS.1⟩
      case measure => simp [intOf]; omega
    · obtain rfl : n = k := by omega
      rw [List.take_of_length_le (by rw [← HN.out]; exact Nat.le_refl _)] at own
      have hcl := HLEN.out n
      rw [List.take_of_length_le (by rw [← HN.out]; exact Nat.le_refl _)] at hcl
      go_wp2
      go_ret
      exact ⟨G, cg, by rw [hcl]; rfl, by rw [hcl]; exact Made.of_own (by rw [hcl]; exact own) hbel⟩
end Go.Proofs.Ytkgbjohadkbjaaa

/-
  Contract of layer 26's map of where sums stand. Conditions are each theorem's own.
-/
namespace Go.Proofs.Ytkgbjohadkbjaaa
open Go.RowKit Go.Maps Go.WideMaps Go.WideElems Go.MapKept Go.ChangeMaps
def ziQ (c : Int) : DataW Unit := .lit (.int .i64 c)
theorem zeroIntQ (w : World) : (zeroValue 3).run Try.prog w = .ok (.int .i64 0) w := by kernel_rfl
theorem kintQ : Keyed Try.prog 3 := int_keyed Try.underlying3
/-- Where a protocol's sum stands. -/
def satI (p : Int) : Int := if p = 17 then 6 else if p = 6 then 16 else if p = 1 then 2 else 0
/-- Block b holds these values of these keys, the last ones first. -/
def MapQ (w : World) (b n : Nat) (ps : List (Int × Int)) : Prop :=
  ∃ D : DataW Unit, w.ownsMap Try.prog 3 (plainElem Try.prog 3) b n D ∧ ∀ x, (Lit.int .i64 x).wf = true → D.atKey (.int .i64 x) (ziQ 0) = ziQ ((ps.lookup x).getD 0)
section
variable {w w' : World} {b n : Nat} {ps : List (Int × Int)}
theorem MapQ.made (w : World) : MapQ (w.alloc (.map #[] 0)) w.heap.size 0 [] := ⟨_, World.ownsMap_made w _ _ _, fun _ _ => rfl⟩
theorem MapQ.of_block (h : MapQ w b n ps) (e : w'.heap[b]? = w.heap[b]?) : MapQ w' b n ps := by
  obtain ⟨D, ⟨es, clock, hb, F, hs, hD⟩, hc⟩ := h
  exact ⟨D, ⟨es, clock, e.trans hb, F, hs, hD⟩, hc⟩
theorem MapQ.look (h : MapQ w b n ps) {x : Int} (hx : (Lit.int .i64 x).wf = true) : (Instr.lookup 149 (.map (some b)) (.int .i64 x) false).run Try.prog w = .ok (.int .i64 ((ps.lookup x).getD 0)) w := by
  obtain ⟨D, ho, hc⟩ := h
  obtain ⟨c, hrun, hat, _⟩ := ho.lookup_int kintQ Try.underlying149 Try.underlying3 (zeroIntQ w) (keyOf_int_mk Try.underlying3 hx)
  have h2 : ziQ c = ziQ ((ps.lookup x).getD 0) := hat.symm.trans (hc x hx)
  have h3 : c = (ps.lookup x).getD 0 := by simpa [ziQ] using h2
  rw [hrun, h3]
theorem MapQ.put (h : MapQ w b n ps) (hn : n < maxLen) {x v : Int} (hx : (Lit.int .i64 x).wf = true) (hv : (Lit.int .i64 v).wf = true) :
    ∃ w', (Instr.mapUpdate 149 (.map (some b)) (.int .i64 x) (.int .i64 v)).run Try.prog w = .ok () w' ∧ MapQ w' b (n + 1) ((x, v) :: ps) ∧ w.grownBy w' (some b) := by
  obtain ⟨D, ho, hc⟩ := h
  have hl := keyOf_int_mk Try.underlying3 hx
  obtain ⟨w', hrun, ho', hg⟩ := ho.update kintQ Try.underlying149 hn hl (plainElem_int Try.underlying3 hv)
  refine ⟨w', hrun, ⟨_, ho', fun y hy => ?_⟩, hg⟩
  have hM : IsMap D := by obtain ⟨es, clock, _, _, _, e⟩ := ho; exact ⟨_, e⟩
  by_cases e : y = x
  · subst e
    rw [atKey_put_same hM (kintQ.key hl)]
    simp [ziQ]
  · have hne : Lit.int .i64 y ≠ .int .i64 x := fun e2 => e (by injection e2)
    rw [atKey_put_other hne, hc y hy]
    rw [List.lookup_cons, show (y == x) = false by simpa using e]
end
theorem sat_lookup (p : Int) : ((([(1, 2), (6, 16), (17, 6)] : List (Int × Int)).lookup p).getD 0) = satI p := by
  unfold satI
  by_cases h1 : p = 17
  · subst h1; rfl
  · by_cases h2 : p = 6
    · subst h2; rfl
    · by_cases h3 : p = 1
      · subst h3; rfl
      · rw [List.lookup_cons, show (p == 1) = false by simpa using h3, List.lookup_cons, show (p == 6) = false by simpa using h2, List.lookup_cons, show (p == 17) = false by simpa using h1, if_neg h1, if_neg h2, if_neg h3]; rfl
set_option maxRecDepth 100000 in
set_option maxHeartbeats 2000000 in
theorem csumsAt (w : World) : Calls Try.prog 110 #[] w fun e w' => ∃ m, e = .returned (.map (some m)) ∧ Below w.heap.size w w' ∧ ∀ p : Int, (Lit.int .i64 p).wf = true → (Instr.lookup 149 (.map (some m)) (.int .i64 p) false).run Try.prog w' = .ok (.int .i64 (satI p)) w' := by
  have hmm := @run_makeMap Try.prog
  obtain ⟨w1, u1, m1, g1⟩ := (MapQ.made w).put (by decide) (x := 17) (v := 6) (by decide) (by decide)
  obtain ⟨w2, u2, m2, g2⟩ := m1.put (by decide) (x := 6) (v := 16) (by decide) (by decide)
  obtain ⟨w3, u3, m3, g3⟩ := m2.put (by decide) (x := 1) (v := 2) (by decide) (by decide)
  have b0 : Below w.heap.size w (w.alloc (.map #[] 0)) := (Below.refl _ w).alloc (Nat.le_refl _) _
  have ge : ∀ k, some w.heap.size = some k → w.heap.size ≤ k := fun k hk => by injection hk with h; omega
  have b1 := b0.grown g1 b0.size ge
  have b2 := b1.grown g2 b1.size ge
  have b3 := b2.grown g3 b2.size ge
  have L := Lib.hid (fun p hp => (m3.look (x := p) hp).trans (by rw [sat_lookup]))
  clear m1 m2 m3 g1 g2 g3 b0 b1 b2 ge
  go_enter Try.func110, Try.ntmps110
  go_wp2
  go_ret
  exact ⟨_, rfl, b3, L.out⟩
end Go.Proofs.Ytkgbjohadkbjaaa

/-
  The struct quote.side as data: its cells, its value, a block that holds one. Conditions are each theorem's own.
-/
namespace Go.Proofs.Ytkgbjohadkbjaaa
open Go.RowKit Go.ChangeShapes Go.WideShapes

structure Sid where
  ad : Int
  po : Int
def sdz : Sid := ⟨0, 0⟩
/-- Its cells. -/
def sda (q : Sid)  : Array Value := #[.int .i64 q.ad, .int .i64 q.po]
def sdv (q : Sid)  : Value := .agg #[.int .i64 q.ad, .int .i64 q.po]
theorem sdv_eq (q : Sid)  : sdv q  = .agg (sda q ) := rfl
def Sid.fits (q : Sid) : Prop := ∀ n ∈ [q.ad, q.po], (Lit.int .i64 n).wf = true
theorem sda_size (q : Sid)  : (sda q ).size = 2 := rfl
theorem sd_one (q : Sid)  : (sda q ).all (·.oneCell') = true := by simp [sda, Value.oneCell']
section
variable {H : Type} {enc : TypeId × Value → H} {w : World} {base : Nat} {v : Value} {d : DataW H} {p : List MemPlace}
set_option maxRecDepth 100000 in
theorem get_sd (hv : Value.okWide Try.prog w .any base 99 v) (h : DataW.Trod enc Try.prog w 0 (fun _ => true) true 99 v d p) :
    ∃ q , v = sdv q  ∧ q.fits := by
  obtain ⟨cs, rfl, hcs⟩ : ∃ cs, v = .agg cs ∧ cs.size = Try.prog.cellsOf 99 := by
    have := hv
    simp only [Value.okWide, Try.underlying99] at this
    obtain ⟨cs, h1, h2, _⟩ := this
    exact ⟨cs, h1, h2⟩
  obtain ⟨fuel, hf⟩ := h
  obtain ⟨xs, n, _, _, hl, hxs, hall⟩ := DataW.trod_struct Try.underlying99 hf
  have hci : Try.prog.cellsOf 3 = 1 := by kernel_rfl
  have hcn : Try.prog.cellsOf 99 = 2 := by kernel_rfl
  obtain ⟨l⟩ := cs
  have hl' : l.length = 2 := by rw [← hcn]; exact hl
  have hall' : ∀ (i : Nat) (f : Field), _ → DataW.trod enc Try.prog w 0 (fun _ => true) true n f.type ((l.drop f.offset).take (Try.prog.cellsOf f.type)) = xs[i]? := hall
  match xs, hxs with
  | [y0, y1], _ =>
    have h0 : DataW.trod enc Try.prog w 0 (fun _ => true) true n 3 ((l.drop 0).take (Try.prog.cellsOf 3)) = some y0 := hall' 0 _ rfl
    rw [hci] at h0
    obtain ⟨a0, e0, f0⟩ := cell_int Try.underlying3 h0
    have h1 : DataW.trod enc Try.prog w 0 (fun _ => true) true n 3 ((l.drop 1).take (Try.prog.cellsOf 3)) = some y1 := hall' 1 _ rfl
    rw [hci] at h1
    obtain ⟨a1, e1, f1⟩ := cell_int Try.underlying3 h1
    have k0 := piece_get e0
    have k1 := piece_get e1
    have el : l = [.int .i64 a0, .int .i64 a1] := by
      match l, hl' with
      | [x0, x1], _ => simp at k0 k1; simp [k0, k1]
    refine ⟨⟨a0, a1⟩, by rw [el]; rfl, ?_⟩
    intro m hm
    simp only [List.mem_cons, List.not_mem_nil, or_false] at hm
    rcases hm with rfl | rfl <;> assumption
end
/-- It lies in a block of its own. -/
def Atsd (W : World) (g : Nat) (q : Sid)  : Prop := W.rangeAt g 0 (sda q ).toList
section
variable {W : World} {g : Nat} {q : Sid} 
theorem Atsd.new (w : World) : Atsd (w.alloc (.cells (sda q ) 99)) w.heap.size q  := fun j v hj => by
  rw [Nat.zero_add, World.cell?_alloc_new, ← hj, Array.getElem?_toList]
theorem Atsd.of_heap {t : TypeId} {fr : Nat × Nat} (h : W.heap[g]? = some (.cells (sda q ) t fr)) : Atsd W g q  := fun j v hj => by
  rw [cell_of_row W g (0 + j) _ _ _ h, Nat.zero_add, ← Array.getElem?_toList]; exact hj
theorem Atsd.below {w : World} {B : Nat} (h : Atsd W g q ) (hb : Below B W w) (hg : g < B) : Atsd w g q  := range_below h hg hb
theorem Atsd.ad (h : Atsd W g q ) : W.cell? ⟨g, 0, none⟩ = some (.int .i64 q.ad) := h 0 _ rfl
theorem Atsd.po (h : Atsd W g q ) : W.cell? ⟨g, 1, none⟩ = some (.int .i64 q.po) := h 1 _ rfl
end
theorem run_load_sd {o : Oper} {a : Act} {w : World} {x : Operand} {g : Nat} {cs : List Value} (ho : o.op = .load 99 x) (hx : a.eval x = .pointer (some ⟨g, 0, none⟩)) (hr : w.rangeAt g 0 cs) (hl : cs.length = 2) :
    (execOp a.eval o).run Try.prog w = .ok (.value (.agg cs.toArray)) w := by
  have h := run_loadVar_mid (P := Try.prog) w g 0 99 cs _ hr Try.underlying99 rfl (by rw [hl]; kernel_rfl)
  unfold execOp
  simp only [ho, hx, Instr.loadAt, Instr.sureAddr, Sem.run_bind, Sem.run_pure, Result.andThen_ok, h]
theorem sd_store {ops : Array Oper} {rest : List Oper} {x y : Operand} {ty : TypeId} {pos : String} {af : Array Edge} {a : Act} {w : World} {Q : Exit → Act → World → Prop}
    {g : Nat} {t : TypeId} {cs old : Array Value} (hx : a.eval x = .pointer (some ⟨g, 0, none⟩)) (hy : a.eval y = .agg cs) (hg : w.heap[g]? = some (.cells old t (0, 0))) (ho : old.size = 2) (hl : cs.size = 2) (h1 : cs.all (·.oneCell') = true)
    (h : wpList Try.prog ops Q rest (a.put none undef) (w.setRow g cs)) : wpList Try.prog ops Q (⟨none, .store 99 x y, ty, pos, af, none⟩ :: rest) a w :=
  wpList_plain rfl fun _ hK => wp_store_row 99 x y rfl g cs hx hy t old hg (by rw [hl]; kernel_rfl) (by rw [ho, hl]) h1 (hK _ _ h)
theorem sd_store_new {ops : Array Oper} {rest : List Oper} {x y : Operand} {ty : TypeId} {pos : String} {af : Array Edge} {a : Act} {w : World} {Q : Exit → Act → World → Prop}
    {t : TypeId} {cs old : Array Value} (hx : a.eval x = .pointer (some ⟨w.heap.size, 0, none⟩)) (hy : a.eval y = .agg cs) (ho : old.size = 2) (hl : cs.size = 2) (h1 : cs.all (·.oneCell') = true)
    (h : wpList Try.prog ops Q rest (a.put none undef) (w.alloc (.cells cs t))) : wpList Try.prog ops Q (⟨none, .store 99 x y, ty, pos, af, none⟩ :: rest) a (w.alloc (.cells old t)) :=
  sd_store hx hy (World.alloc_heap_new w _) ho hl h1 (by rw [World.setRow_alloc_new]; exact h)
theorem sd_result {fn : Func} {p : Tmp} {tmps : Array Value} {w : World} {g : Nat} {t : TypeId} {cs : Array Value} {fr : Nat × Nat} (h : fn.results = #[.cell p 99])
    (hp : tmps.getD p undef = .pointer (some ⟨g, 0, none⟩)) (hg : w.heap[g]? = some (.cells cs t fr)) (hl : cs.size = 2) : (results fn tmps).run Try.prog w = .ok (.agg cs) w :=
  results_cell_row h tmps w g t cs fr _ hp hg Try.underlying99 rfl (by rw [hl]; kernel_rfl)
theorem sd_load_run {w : World} {g : Nat} {t : TypeId} {cs : Array Value} {fr : Nat × Nat} (hg : w.heap[g]? = some (.cells cs t fr)) (hl : cs.size = 2) : (loadVar 99 ⟨g, 0, none⟩).run Try.prog w = .ok (.agg cs) w :=
  run_loadVar_row w g t 99 cs fr _ hg Try.underlying99 rfl (by rw [hl]; kernel_rfl)
end Go.Proofs.Ytkgbjohadkbjaaa

/-
  The struct api.Ports as data: its cells, its value, a block that holds one. Conditions are each theorem's own.
-/
namespace Go.Proofs.Ytkgbjohadkbjaaa
open Go.RowKit Go.ChangeShapes Go.WideShapes

structure Pq where
  proto : Int
  src : Int
  dst : Int
def pqz : Pq := ⟨0, 0, 0⟩
/-- Its cells. -/
def pqa (q : Pq)  : Array Value := #[.int .i64 q.proto, .int .i64 q.src, .int .i64 q.dst]
def pqv (q : Pq)  : Value := .agg #[.int .i64 q.proto, .int .i64 q.src, .int .i64 q.dst]
theorem pqv_eq (q : Pq)  : pqv q  = .agg (pqa q ) := rfl
def Pq.fits (q : Pq) : Prop := ∀ n ∈ [q.proto, q.src, q.dst], (Lit.int .i64 n).wf = true
theorem pqa_size (q : Pq)  : (pqa q ).size = 3 := rfl
theorem pq_one (q : Pq)  : (pqa q ).all (·.oneCell') = true := by simp [pqa, Value.oneCell']
section
variable {H : Type} {enc : TypeId × Value → H} {w : World} {base : Nat} {v : Value} {d : DataW H} {p : List MemPlace}
set_option maxRecDepth 100000 in
theorem get_pq (hv : Value.okWide Try.prog w .any base 50 v) (h : DataW.Trod enc Try.prog w 0 (fun _ => true) true 50 v d p) :
    ∃ q , v = pqv q  ∧ q.fits := by
  obtain ⟨cs, rfl, hcs⟩ : ∃ cs, v = .agg cs ∧ cs.size = Try.prog.cellsOf 50 := by
    have := hv
    simp only [Value.okWide, Try.underlying50] at this
    obtain ⟨cs, h1, h2, _⟩ := this
    exact ⟨cs, h1, h2⟩
  obtain ⟨fuel, hf⟩ := h
  obtain ⟨xs, n, _, _, hl, hxs, hall⟩ := DataW.trod_struct Try.underlying50 hf
  have hci : Try.prog.cellsOf 3 = 1 := by kernel_rfl
  have hcn : Try.prog.cellsOf 50 = 3 := by kernel_rfl
  obtain ⟨l⟩ := cs
  have hl' : l.length = 3 := by rw [← hcn]; exact hl
  have hall' : ∀ (i : Nat) (f : Field), _ → DataW.trod enc Try.prog w 0 (fun _ => true) true n f.type ((l.drop f.offset).take (Try.prog.cellsOf f.type)) = xs[i]? := hall
  match xs, hxs with
  | [y0, y1, y2], _ =>
    have h0 : DataW.trod enc Try.prog w 0 (fun _ => true) true n 3 ((l.drop 0).take (Try.prog.cellsOf 3)) = some y0 := hall' 0 _ rfl
    rw [hci] at h0
    obtain ⟨a0, e0, f0⟩ := cell_int Try.underlying3 h0
    have h1 : DataW.trod enc Try.prog w 0 (fun _ => true) true n 3 ((l.drop 1).take (Try.prog.cellsOf 3)) = some y1 := hall' 1 _ rfl
    rw [hci] at h1
    obtain ⟨a1, e1, f1⟩ := cell_int Try.underlying3 h1
    have h2 : DataW.trod enc Try.prog w 0 (fun _ => true) true n 3 ((l.drop 2).take (Try.prog.cellsOf 3)) = some y2 := hall' 2 _ rfl
    rw [hci] at h2
    obtain ⟨a2, e2, f2⟩ := cell_int Try.underlying3 h2
    have k0 := piece_get e0
    have k1 := piece_get e1
    have k2 := piece_get e2
    have el : l = [.int .i64 a0, .int .i64 a1, .int .i64 a2] := by
      match l, hl' with
      | [x0, x1, x2], _ => simp at k0 k1 k2; simp [k0, k1, k2]
    refine ⟨⟨a0, a1, a2⟩, by rw [el]; rfl, ?_⟩
    intro m hm
    simp only [List.mem_cons, List.not_mem_nil, or_false] at hm
    rcases hm with rfl | rfl | rfl <;> assumption
end
/-- It lies in a block of its own. -/
def Atpq (W : World) (g : Nat) (q : Pq)  : Prop := W.rangeAt g 0 (pqa q ).toList
section
variable {W : World} {g : Nat} {q : Pq} 
theorem Atpq.new (w : World) : Atpq (w.alloc (.cells (pqa q ) 50)) w.heap.size q  := fun j v hj => by
  rw [Nat.zero_add, World.cell?_alloc_new, ← hj, Array.getElem?_toList]
theorem Atpq.of_heap {t : TypeId} {fr : Nat × Nat} (h : W.heap[g]? = some (.cells (pqa q ) t fr)) : Atpq W g q  := fun j v hj => by
  rw [cell_of_row W g (0 + j) _ _ _ h, Nat.zero_add, ← Array.getElem?_toList]; exact hj
theorem Atpq.below {w : World} {B : Nat} (h : Atpq W g q ) (hb : Below B W w) (hg : g < B) : Atpq w g q  := range_below h hg hb
theorem Atpq.proto (h : Atpq W g q ) : W.cell? ⟨g, 0, none⟩ = some (.int .i64 q.proto) := h 0 _ rfl
theorem Atpq.src (h : Atpq W g q ) : W.cell? ⟨g, 1, none⟩ = some (.int .i64 q.src) := h 1 _ rfl
theorem Atpq.dst (h : Atpq W g q ) : W.cell? ⟨g, 2, none⟩ = some (.int .i64 q.dst) := h 2 _ rfl
end
theorem run_load_pq {o : Oper} {a : Act} {w : World} {x : Operand} {g : Nat} {cs : List Value} (ho : o.op = .load 50 x) (hx : a.eval x = .pointer (some ⟨g, 0, none⟩)) (hr : w.rangeAt g 0 cs) (hl : cs.length = 3) :
    (execOp a.eval o).run Try.prog w = .ok (.value (.agg cs.toArray)) w := by
  have h := run_loadVar_mid (P := Try.prog) w g 0 50 cs _ hr Try.underlying50 rfl (by rw [hl]; kernel_rfl)
  unfold execOp
  simp only [ho, hx, Instr.loadAt, Instr.sureAddr, Sem.run_bind, Sem.run_pure, Result.andThen_ok, h]
theorem pq_store {ops : Array Oper} {rest : List Oper} {x y : Operand} {ty : TypeId} {pos : String} {af : Array Edge} {a : Act} {w : World} {Q : Exit → Act → World → Prop}
    {g : Nat} {t : TypeId} {cs old : Array Value} (hx : a.eval x = .pointer (some ⟨g, 0, none⟩)) (hy : a.eval y = .agg cs) (hg : w.heap[g]? = some (.cells old t (0, 0))) (ho : old.size = 3) (hl : cs.size = 3) (h1 : cs.all (·.oneCell') = true)
    (h : wpList Try.prog ops Q rest (a.put none undef) (w.setRow g cs)) : wpList Try.prog ops Q (⟨none, .store 50 x y, ty, pos, af, none⟩ :: rest) a w :=
  wpList_plain rfl fun _ hK => wp_store_row 50 x y rfl g cs hx hy t old hg (by rw [hl]; kernel_rfl) (by rw [ho, hl]) h1 (hK _ _ h)
theorem pq_store_new {ops : Array Oper} {rest : List Oper} {x y : Operand} {ty : TypeId} {pos : String} {af : Array Edge} {a : Act} {w : World} {Q : Exit → Act → World → Prop}
    {t : TypeId} {cs old : Array Value} (hx : a.eval x = .pointer (some ⟨w.heap.size, 0, none⟩)) (hy : a.eval y = .agg cs) (ho : old.size = 3) (hl : cs.size = 3) (h1 : cs.all (·.oneCell') = true)
    (h : wpList Try.prog ops Q rest (a.put none undef) (w.alloc (.cells cs t))) : wpList Try.prog ops Q (⟨none, .store 50 x y, ty, pos, af, none⟩ :: rest) a (w.alloc (.cells old t)) :=
  pq_store hx hy (World.alloc_heap_new w _) ho hl h1 (by rw [World.setRow_alloc_new]; exact h)
theorem pq_result {fn : Func} {p : Tmp} {tmps : Array Value} {w : World} {g : Nat} {t : TypeId} {cs : Array Value} {fr : Nat × Nat} (h : fn.results = #[.cell p 50])
    (hp : tmps.getD p undef = .pointer (some ⟨g, 0, none⟩)) (hg : w.heap[g]? = some (.cells cs t fr)) (hl : cs.size = 3) : (results fn tmps).run Try.prog w = .ok (.agg cs) w :=
  results_cell_row h tmps w g t cs fr _ hp hg Try.underlying50 rfl (by rw [hl]; kernel_rfl)
theorem pq_load_run {w : World} {g : Nat} {t : TypeId} {cs : Array Value} {fr : Nat × Nat} (hg : w.heap[g]? = some (.cells cs t fr)) (hl : cs.size = 3) : (loadVar 50 ⟨g, 0, none⟩).run Try.prog w = .ok (.agg cs) w :=
  run_loadVar_row w g t 50 cs fr _ hg Try.underlying50 rfl (by rw [hl]; kernel_rfl)
end Go.Proofs.Ytkgbjohadkbjaaa

/-
  Contracts of slices.Index, slices.Contains over integers; of icmp's among, Fault, Query, and the document's. Conditions are each theorem's own.
-/
namespace Go.Proofs.Ytkgbjohadkbjaaa
open Go.RowKit

theorem iindex_none (g n : Nat) (zs : List Int) (x : Int) (w : World) (hn : n ≤ 1000) (h : ∀ j, j < n → w.cell? ⟨g, j, none⟩ = some (.int .i64 (zs.getD j 0))) (hx : ∀ j, j < n → (x == zs.getD j 0) = false) :
    Calls Try.prog 121 #[.slice (some ⟨g, 0, none⟩) n n, .int .i64 x] w fun e w' => e = .returned (.int .i64 (-1)) ∧ w = w' := by
  have H := Lib.hid h
  have HX := Lib.hid hx
  clear h hx
  go_enter Try.func121, Try.ntmps121
  go_wp2
  go_loop [8] (fun i => ∃ k : Nat, k ≤ n ∧ i = .int .i64 k) (fun i => n - (intOf i).toNat)
  case atStart => exact ⟨0, Nat.zero_le _, rfl⟩
  case round =>
    obtain ⟨k, hk, rfl⟩ := hrel
    by_cases hlt : k < n
    · have hc := H.out k hlt
      have hd := HX.out k hlt
      generalize zs.getD k 0 = y at hc hd
      go_wp2
      go_round
      case rel => exact ⟨k + 1, by omega, by simp⟩
      case measure => simp [intOf]; omega
    · obtain rfl : k = n := by omega
      go_wp2
      go_ret
      exact ⟨rfl, rfl⟩
theorem iindex_some (g n k0 : Nat) (zs : List Int) (x : Int) (w : World) (hn : n ≤ 1000) (hk0 : k0 < n) (h : ∀ j, j < n → w.cell? ⟨g, j, none⟩ = some (.int .i64 (zs.getD j 0))) (hx : ∀ j, j < k0 → (x == zs.getD j 0) = false) (h0 : (x == zs.getD k0 0) = true) :
    Calls Try.prog 121 #[.slice (some ⟨g, 0, none⟩) n n, .int .i64 x] w fun e w' => e = .returned (.int .i64 (k0 : Int)) ∧ w = w' := by
  have H := Lib.hid h
  have HX := Lib.hid hx
  have H0 := Lib.hid h0
  clear h hx h0
  go_enter Try.func121, Try.ntmps121
  go_wp2
  go_loop [8] (fun i => ∃ k : Nat, k ≤ k0 ∧ i = .int .i64 k) (fun i => n - (intOf i).toNat)
  case atStart => exact ⟨0, Nat.zero_le _, rfl⟩
  case round =>
    obtain ⟨k, hk, rfl⟩ := hrel
    have hlt : k < n := by omega
    have hc := H.out k hlt
    by_cases hlt2 : k < k0
    · have hd := HX.out k hlt2
      generalize zs.getD k 0 = y at hc hd
      go_wp2
      go_round
      case rel => exact ⟨k + 1, by omega, by simp⟩
      case measure => simp [intOf]; omega
    · obtain rfl : k = k0 := by omega
      have hd := H0.out
      generalize zs.getD k 0 = y at hc hd
      go_wp2
      go_ret
      exact ⟨rfl, rfl⟩
theorem first_in (x : Int) : ∀ (zs : List Int), x ∈ zs → ∃ k, k < zs.length ∧ (∀ j, j < k → (x == zs.getD j 0) = false) ∧ (x == zs.getD k 0) = true
  | [], h => by cases h
  | z :: l, h => by
    by_cases e : x = z
    · exact ⟨0, by simp, fun j hj => absurd hj (Nat.not_lt_zero j), by simp [e]⟩
    · obtain ⟨k, h1, h2, h3⟩ := first_in x l (by rcases List.mem_cons.1 h with h | h; exact absurd h e; exact h)
      refine ⟨k + 1, by simp; omega, fun j hj => ?_, by simpa using h3⟩
      cases j with
      | zero => simpa using e
      | succ j => simpa using h2 j (by omega)
theorem icontains_any (g : Nat) (zs : List Int) (x : Int) (w : World) (hn : zs.length ≤ 1000) (h : w.rangeAt g 0 (zs.map (Value.int .i64))) :
    Calls Try.prog 115 #[.slice (some ⟨g, 0, none⟩) zs.length zs.length, .int .i64 x] w fun e w' => e = .returned (.bool (decide (x ∈ zs))) ∧ w = w' := by
  have hc : ∀ j, j < zs.length → w.cell? ⟨g, j, none⟩ = some (.int .i64 (zs.getD j 0)) := fun j hj => by
    have := h j (.int .i64 (zs.getD j 0)) (by simp [List.getD_eq_getElem?_getD, hj])
    rwa [Nat.zero_add] at this
  by_cases hm : x ∈ zs
  · obtain ⟨k, h1, h2, h3⟩ := first_in x zs hm
    have c := iindex_some g zs.length k zs x w hn h1 hc h2 h3
    have hD := Lib.hid (show decide (x ∈ zs) = true by simpa using hm)
    clear h hc h2 h3 hm
    go_enter Try.func115, Try.ntmps115
    go_wp2_with (go_at_call 121; refine c.mono ?_; rintro e w' ⟨rfl, rfl⟩)
    go_ret
    exact ⟨ret_bool (by rw [hD.out]), rfl⟩
  · have c := iindex_none g zs.length zs x w hn hc (fun j hj => by
      rw [List.getD_eq_getElem?_getD, List.getElem?_eq_getElem hj]
      simp only [Option.getD_some, beq_eq_false_iff_ne]
      intro e; exact hm (e ▸ List.getElem_mem hj))
    have hD := Lib.hid (show decide (x ∈ zs) = false by simpa using hm)
    clear h hc hm
    go_enter Try.func115, Try.ntmps115
    go_wp2_with (go_at_call 121; refine c.mono ?_; rintro e w' ⟨rfl, rfl⟩)
    go_ret
    exact ⟨ret_bool (by rw [hD.out]), rfl⟩
theorem range_ints (w : World) (zs : List Int) (t : TypeId) : (w.alloc (.cells (zs.map (Value.int .i64)).toArray t)).rangeAt w.heap.size 0 (zs.map (Value.int .i64)) := fun j v hj => by
  rw [Nat.zero_add, World.cell?_alloc_new, ← hj, List.getElem?_toArray]
theorem among_new (zs : List Int) (x : Int) (cs : Array Value) (n : Nat) (t : TypeId) (w : World) (hc : cs = (zs.map (Value.int .i64)).toArray) (hn : n = zs.length) (hl : zs.length ≤ 1000) :
    Calls Try.prog 103 #[.int .i64 x, .slice (some ⟨w.heap.size, 0, none⟩) n n] (w.alloc (.cells cs t)) fun e w' => e = .returned (.bool (decide (x ∈ zs))) ∧ Below w.heap.size w w' := by
  subst hc; subst hn
  have c := icontains_any w.heap.size zs x _ hl (range_ints w zs t)
  have hb : Below w.heap.size w (w.alloc (.cells (zs.map (Value.int .i64)).toArray t)) := (Below.refl _ w).alloc (Nat.le_refl _) _
  generalize decide (x ∈ zs) = D at c ⊢
  generalize w.alloc (.cells (zs.map (Value.int .i64)).toArray t) = W at *
  go_enter Try.func103, Try.ntmps103
  go_wp2_with (go_at_call 115; refine c.mono ?_; rintro e w' ⟨rfl, rfl⟩)
  go_ret
  exact ⟨rfl, hb⟩
theorem cIquery (k : Int) (w : World) : Calls Try.prog 73 #[.int .i64 k] w fun e w' => e = .returned (.bool (qryI k)) ∧ Below w.heap.size w w' := by
  obtain ⟨D, hD⟩ : ∃ D, D = qryI k := ⟨_, rfl⟩
  have HD := Lib.hid (show decide (k ∈ [8, 0]) = D by rw [hD]; rfl)
  rw [← hD]; clear hD
  go_enter Try.func73, Try.ntmps73
  go_wp2_with (go_at_call 103; refine (among_new [8, 0] k _ 2 _ w (by rfl) rfl (by simp)).mono ?_; rintro e w' ⟨rfl, x1⟩; rw [HD.out])
  go_ret
  exact ⟨rfl, x1⟩
end Go.Proofs.Ytkgbjohadkbjaaa

/-
  Contract of v4.Quoted. Conditions are each theorem's own.
-/
namespace Go.Proofs.Ytkgbjohadkbjaaa
open Go.RowKit

section
variable (b : List UInt8) (A : Option Addr) (c : Nat) (w : World)
set_option maxRecDepth 100000 in
set_option maxHeartbeats 2000000 in
theorem c4quoted (B : Nat) (hR : Arg w B A c b) (hB : B ≤ w.heap.size) (hl : b.length ≤ 1000000) :
    Calls Try.prog 52 #[.slice A b.length c] w fun e w' => ∃ P p P' p', e = .returned (.tuple #[v4v (prsV b true) P p P' p', .int .i64 (prsE b true)]) ∧ Made w w' (.slice P (prsV b true).opt.length p) (prsV b true).opt ∧ Made w w' (.slice P' (prsV b true).dat.length p') (prsV b true).dat := by
  have hBW : Below w.heap.size w (w.alloc (.cells (v4a p4z none 0 none 0) 48)) := (Below.refl w.heap.size w).alloc (Nat.le_refl _) _
  have hg := World.alloc_heap_new w (.cells (v4a p4z none 0 none 0) 48)
  have hz : w.heap.size < (w.alloc (.cells (v4a p4z none 0 none 0) 48)).heap.size := by simp
  have hcap := hR.cap
  go_enter Try.func52, Try.ntmps52
  go_upto_region 1 with fail
  rw [show #[.int .i64 0, .int .i64 0, .int .i64 0, .int .i64 0, .int .i64 0, .int .i64 0, .int .i64 0, .bool false, .bool false, .slice none 0 0, .slice none 0 0] = v4a p4z none 0 none 0 from rfl]
  generalize w.alloc (.cells (v4a p4z none 0 none 0) 48) = W at *
  have hEE : bad4 b true = lay4 b true := by
    rw [bad4_lay]
    by_cases h : lay4 b true = 0
    · rw [if_pos h, if_neg (by simp), h]
    · rw [if_neg h]
  have hPE : prsE b true = lay4 b true := by
    rw [prsE, hEE]
    by_cases h : lay4 b true = 0
    · rw [if_pos h, if_neg (by simp), h]
    · rw [if_neg h]
  by_cases h0 : lay4 b true = 0
  · obtain ⟨l20, ll, ln, -⟩ := lay4_zero h0
    obtain ⟨H, hH⟩ : ∃ n : Nat, (n : Int) = hlen b := ⟨(hlen b).toNat, by omega⟩
    obtain ⟨Z, hZ⟩ : ∃ n : Nat, (n : Int) = min (n2 b 2) (b.length : Int) := ⟨(min (n2 b 2) (b.length : Int)).toNat, by omega⟩
    have hLV : layV (hlen b) (min (n2 b 2) (b.length : Int)) (lay4 b true) = .tuple #[.int .i64 (H : Int), .int .i64 (Z : Int), .int .i64 0] := by
      rw [h0, layV, if_pos rfl, if_pos rfl, hH, hZ]
    obtain ⟨D, hD⟩ : ∃ l, l = (b.take Z).drop H := ⟨_, rfl⟩
    obtain ⟨q, hq⟩ : ∃ q, q = fl4 b D := ⟨_, rfl⟩
    have HR := Lib.hid (show raw4 b = q by rw [raw4, hq, hD, ← hZ, ← hH, Int.toNat_natCast, Int.toNat_natCast])
    have HE := Lib.hid (show prsE b true = 0 by rw [hPE, h0])
    have HV := Lib.hid (show prsV b true = q by rw [prsV, if_pos HE.out, HR.out])
    have HLV := Lib.hid hLV
    have HQ := Lib.hid hq
    have h20 : 20 ≤ H := by omega
    have hHZ : H ≤ Z := by omega
    have hZb : Z ≤ b.length := by omega
    have HH := Lib.hid hH
    have HD := Lib.hid hD
    clear hEE hPE h0 l20 ll ln hZ hLV hD hq hH
    have hx1 := hBW.size
    go_upto_region 4 with (go_at_call 71; refine (c4layout b A c B true _ (hR.below (hBW.mono hB)) hl).mono ?_; rintro e w1 ⟨rfl, rfl⟩; rw [HLV.out])
    have hg3 : ∀ w3 : World, Below W.heap.size W w3 → w3.heap[w.heap.size]? = some (.cells (v4a p4z none 0 none 0) 48 (0, 0)) := fun w3 h => (h.block _ hz).trans hg
    go_wp2_with (first
      | (go_at_call 72; refine (c4read b A c _ B H Z D (hR.below (hBW.mono hB)) (Nat.le_trans hB hBW.size) hl HH.out h20 hHZ hZb HD.out).mono ?_; rintro e w3 ⟨P, p, P', p', rfl, mo, md⟩; rw [← HQ.out] at mo md; rw [← HQ.out]; have x3 := mo.below; have hg4 := hg3 _ x3)
      | ((with_reducible show wpList _ _ _ (Oper.mk _ (Op.store _ _ _) _ _ _ _ :: _) _ _); refine v4_store (g := w.heap.size) (cs := v4a q P p P' p') rfl rfl hg4 rfl rfl (v4a_one _ _ _ _ _) ?_))
    exact bodyPost_ret (res2 rfl rfl (run_loadVar_row _ _ _ 48 (v4a q P p P' p') _ _ (setRow_heap _ _ _ _ _ _ hg4) Try.underlying48 rfl (by kernel_rfl))) rfl ⟨P, p, P', p', by rw [HV.out, HE.out]; rfl, by rw [HV.out]; exact mo.row hBW hz, by rw [HV.out]; exact md.row hBW hz⟩
  · have HE := Lib.hid hPE
    have HV := Lib.hid (show prsV b true = p4z by rw [prsV, HE.out, if_neg h0])
    have hLV := Lib.hid (layV_no (n := hlen b) (s := min (n2 b 2) (b.length : Int)) h0)
    obtain ⟨E, hE⟩ : ∃ n, n = lay4 b true := ⟨_, rfl⟩
    rw [← hE] at HE h0
    have dE : (E != 0) = true := by simpa using h0
    have HEE := Lib.hid hE
    clear hE hEE hPE
    go_wp2_with (first | ((with_reducible show wpList _ _ _ (Oper.mk _ (Op.store _ _ _) _ _ _ _ :: _) _ _); refine v4_store (g := w.heap.size) (cs := v4a p4z none 0 none 0) rfl rfl hg rfl rfl (v4a_one _ _ _ _ _) ?_) | ((go_at_call 71; refine (c4layout b A c B true _ (hR.below (hBW.mono hB)) hl).mono ?_; rintro e w1 ⟨rfl, rfl⟩; rw [hLV.out, ← HEE.out])))
    exact bodyPost_ret (res2 rfl rfl (run_loadVar_row _ _ _ 48 (v4a p4z none 0 none 0) _ _ (setRow_heap _ _ _ _ _ _ hg) Try.underlying48 rfl (by kernel_rfl))) rfl ⟨none, 0, none, 0, by rw [HV.out, HE.out]; rfl, by rw [HV.out]; exact Made.nil _ _ (below_row hBW (Nat.le_refl _)), by rw [HV.out]; exact Made.nil _ _ (below_row hBW (Nat.le_refl _))⟩

end
end Go.Proofs.Ytkgbjohadkbjaaa
