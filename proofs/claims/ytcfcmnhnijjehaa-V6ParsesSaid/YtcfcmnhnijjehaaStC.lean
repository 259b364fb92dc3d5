/-
  Single cells stored into a block of the call's own, as operations; a packet of IPv6 that is filled cell by cell. Conditions are each theorem's own.
-/
import Derived.Test.YtcfcmnhnijjehaaV6I
namespace Go.Proofs.Ytcfcmnhnijjehaa
open Go.RowKit

section
variable {o : Oper} {a : Act} {w : World} {K : Act → World → Prop} {Q : Exit → Act → World → Prop} {x y : Operand} {p : Addr} {v0 : Value}
theorem store_int_wp {n : Int} (ho : o.op = .store 3 x y) (hx : a.eval x = .pointer (some p)) (hy : a.eval y = .int .i64 n) (hc : w.cell? p = some v0) (hf : w.frozen? p = false) (h : K (a.put o.dst undef) (w.setCell p (.int .i64 n))) : o.wp Try.prog a w K Q := by
  unfold Oper.wp execOp
  simp only [ho, hx, hy]
  go_simp
  exact h
theorem store_u8_wp {n : Int} (ho : o.op = .store 5 x y) (hx : a.eval x = .pointer (some p)) (hy : a.eval y = .int .u8 n) (hc : w.cell? p = some v0) (hf : w.frozen? p = false) (h : K (a.put o.dst undef) (w.setCell p (.int .u8 n))) : o.wp Try.prog a w K Q := by
  unfold Oper.wp execOp
  simp only [ho, hx, hy]
  go_simp
  exact h
end
theorem OwnR.row_other {w0 w : World} {t n g : Nat} {cs : Array Value} (h : OwnR w0 t n w) (hg : w0.heap.size < g) : OwnR w0 t n (w.setRow g cs) := by
  obtain ⟨hB, c0, hn, h0⟩ := h
  exact ⟨below_row hB (by omega), c0, hn, (setRow_other w g _ cs (by omega)).trans h0⟩
theorem OwnR.set {w0 w : World} {t n g i : Nat} {v : Value} (h : OwnR w0 t n w) (hg : w0.heap.size < g) : OwnR w0 t n (w.setCell ⟨g, i, none⟩ v) := by
  obtain ⟨hB, c0, hn, h0⟩ := h
  exact ⟨hB.setCell (p := ⟨g, i, none⟩) (by show _ ≤ g; omega) v, c0, hn, (heap_setCell_other w ⟨g, i, none⟩ _ v (by show _ ≠ g; omega)).trans h0⟩
/-- The result's block is there; block g holds packet q. -/
def St (w : World) (g : Nat) (q : P6) (A : Option Addr) (c : Nat) (w' : World) : Prop := OwnR w 44 37 w' ∧ w'.heap[g]? = some (.cells (v6a q A c) 44 (0, 0))
section
variable {w w' : World} {g i : Nat} {q q' : P6} {A A' : Option Addr} {c c' : Nat} {v : Value}
theorem St.set (h : St w g q A c w') (hg : w.heap.size < g) (hv : (v6a q A c).setIfInBounds i v = v6a q' A' c') : St w g q' A' c' (w'.setCell ⟨g, i, none⟩ v) :=
  ⟨h.1.set hg, by rw [heap_set h.2, hv]⟩
theorem St.step {w'' : World} (h : St w g q A c w') (hb : Below w'.heap.size w' w'') : St w g q A c w'' := ⟨h.1.step hb, (hb.block g (heap_lt h.2)).trans h.2⟩
theorem St.cell (h : St w g q A c w') {j : Nat} {u : Value} (hj : (v6l q A c)[j]? = some u) : w'.cell? ⟨g, j, none⟩ = some u := by
  rw [cell_of_row w' g j _ _ (0, 0) h.2, v6a, List.getElem?_toArray]; exact hj
theorem St.frozen (h : St w g q A c w') (j : Nat) : w'.frozen? ⟨g, j, none⟩ = false := heap_frozen h.2 j
end
/-- The first k bytes, and noughts up to 16. -/
def fil (l : List UInt8) (k : Nat) : List UInt8 := l.take k ++ List.replicate (16 - k) 0
theorem fil_len (l : List UInt8) {k : Nat} (hk : k ≤ 16) (hl : 16 ≤ l.length) : (fil l k).length = 16 := by simp [fil]; omega
theorem fil_zero (l : List UInt8) : fil l 0 = nul := rfl
theorem fil_all (l : List UInt8) : fil l 16 = l.take 16 := by simp [fil]
theorem fil_set (l : List UInt8) {k : Nat} (hk : k < 16) (hl : 16 ≤ l.length) : (fil l k).set k l[k] = fil l (k + 1) := by
  unfold fil
  have e : (l.take k).length = k := by simp; omega
  rw [List.set_append_right _ _ (by omega), e, Nat.sub_self, show 16 - k = (16 - (k + 1)) + 1 from by omega, List.replicate_succ, List.set_cons_zero, List.take_succ_eq_append_getElem (by omega), List.append_assoc]
  rfl
theorem row_setb (l : List UInt8) (k : Nat) (x : UInt8) : (row l).set k (.int .u8 (x.toNat : Int)) = row (l.set k x) := by simp [row, List.map_set]
theorem set_src (q : P6) (A : Option Addr) (c k : Nat) (x : UInt8) (hk : k < 16) (hs : q.src.length = 16) : (v6a q A c).setIfInBounds (4 + k) (.int .u8 (x.toNat : Int)) = v6a ⟨q.traffic, q.flow, q.next, q.hop, q.src.set k x, q.dst, q.dat⟩ A c := by
  have h4 : ([Value.int .i64 q.traffic, .int .i64 q.flow, .int .i64 q.next, .int .i64 q.hop]).length = 4 := rfl
  rw [v6a, v6a, List.setIfInBounds_toArray, v6l, v6l]
  congr 1
  simp only [List.append_assoc]
  rw [List.set_append_right _ _ (by rw [h4]; omega), h4, show 4 + k - 4 = k from by omega, List.set_append_left _ _ (by rw [row_length]; omega), row_setb]
theorem set_dst (q : P6) (A : Option Addr) (c k : Nat) (x : UInt8) (hk : k < 16) (hs : q.src.length = 16) (hd : q.dst.length = 16) : (v6a q A c).setIfInBounds (20 + k) (.int .u8 (x.toNat : Int)) = v6a ⟨q.traffic, q.flow, q.next, q.hop, q.src, q.dst.set k x, q.dat⟩ A c := by
  have h4 : ([Value.int .i64 q.traffic, .int .i64 q.flow, .int .i64 q.next, .int .i64 q.hop] ++ row q.src).length = 20 := by simp [row_length, hs]
  rw [v6a, v6a, List.setIfInBounds_toArray, v6l, v6l]
  congr 1
  rw [List.append_assoc, List.append_assoc (_ ++ row q.src), List.set_append_right _ _ (by rw [h4]; omega), h4, show 20 + k - 20 = k from by omega, List.set_append_left _ _ (by rw [row_length]; omega), row_setb]
theorem set_dat (q : P6) (A P : Option Addr) (c p : Nat) (D : List UInt8) (hs : q.src.length = 16) (hd : q.dst.length = 16) : (v6a q A c).setIfInBounds 36 (.slice P D.length p) = v6a ⟨q.traffic, q.flow, q.next, q.hop, q.src, q.dst, D⟩ P p := by
  have h4 : ([Value.int .i64 q.traffic, .int .i64 q.flow, .int .i64 q.next, .int .i64 q.hop] ++ row q.src ++ row q.dst).length = 36 := by simp [row_length, hs, hd]
  rw [v6a, v6a, List.setIfInBounds_toArray, v6l, v6l]
  congr 1
  rw [List.set_append_right _ _ (by rw [h4]; omega), h4]; rfl
end Go.Proofs.Ytcfcmnhnijjehaa
