/-
  Laws: a slice of a slice of bytes, whatever its capacity; a function's own block for its result, kept through a region and stored into. Conditions are each theorem's own.
-/
import Derived.Test.YtcfcmnhnijjehaaV4X
import Derived.Test.YtcfcmnhnijjehaaV6A
namespace Go.Proofs.Ytcfcmnhnijjehaa
open Go.RowKit

/-- Where a slice of a slice begins. A plain definition. -/
def cutA (A : Option Addr) (c lo : Nat) : Option Addr := if c = lo then A else A.map (·.add lo)
theorem sliced_cut (A : Option Addr) (l h c : Nat) : sliced A l h c 1 = .slice (cutA A c l) (h - l) (c - l) := by simp [sliced, cutA]
theorem Arg.cut {w : World} {B : Nat} {A : Option Addr} {c : Nat} {bs : List UInt8} (h : Arg w B A c bs) (lo hi : Nat) (hh : hi ≤ bs.length) : Arg w B (cutA A c lo) (c - lo) ((bs.take hi).drop lo) := by
  have hcap := h.cap
  refine ⟨fun hn => ?_, by simp; omega, fun e => ?_⟩
  · have hl : lo < hi := by simp at hn; omega
    obtain ⟨b, off, rfl, hb, hc⟩ := h.rd (by omega)
    refine ⟨b, off + lo, by simp [cutA, show ¬ c = lo from by omega, add_off], hb, fun j hj => ?_⟩
    have hj' : j < hi - lo := by simp at hj; omega
    rw [Nat.add_assoc, hc (lo + j) (by omega)]
    simp only [byt, List.getElem?_drop, List.getElem?_take]
    rw [if_pos (by omega)]
  · unfold cutA at e
    split at e
    · have := h.none_ e; omega
    · have : A = none := by cases A <;> simp at e ⊢
      have := h.none_ this; omega
theorem Arg.cut_lo {w : World} {B : Nat} {A : Option Addr} {c : Nat} {bs : List UInt8} (h : Arg w B A c bs) (lo : Nat) : Arg w B (cutA A c lo) (c - lo) (bs.drop lo) := by
  have := h.cut lo bs.length (Nat.le_refl _)
  rwa [List.take_length] at this
theorem Arg.cut_hi {w : World} {B : Nat} {A : Option Addr} {c : Nat} {bs : List UInt8} (h : Arg w B A c bs) (hi : Nat) (hh : hi ≤ bs.length) : Arg w B A c (bs.take hi) := by
  have hcap := h.cap
  refine ⟨fun hn => ?_, by simp; omega, h.none_⟩
  obtain ⟨b, off, rfl, hb, hc⟩ := h.rd (by simp at hn; omega)
  refine ⟨b, off, rfl, hb, fun j hj => ?_⟩
  have hj' : j < hi := by simp at hj; omega
  rw [hc j (by omega)]
  simp only [byt, List.getElem?_take]
  rw [if_pos hj']
theorem slice_bytes : Try.prog.underlying 22 = some (.slice (Try.prog.elem 22)) := by kernel_rfl
theorem run_cut_l {o : Oper} {a : Act} {w : World} {x lo : Operand} {A : Option Addr} {n c l m : Nat} (ho : o.op = .slice 22 x (some lo) none none) (hx : a.eval x = .slice A n c) (hl : a.eval lo = .int .i64 (l : Int)) (hn : l ≤ n) (hm : m = n - l) :
    (execOp a.eval o).run Try.prog w = .ok (.value (.slice (cutA A c l) m (c - l))) w := by
  subst hm
  have h1 := run_slice_l (P := Try.prog) (w := w) 22 A n c slice_bytes .i64 (l : Int) (by omega) (by omega)
  unfold execOp
  simp only [ho, hx, hl, Option.map, Sem.run_bind, run_sliceAt_slice _ _ _ _ _ _ slice_bytes, h1]
  go_simp
  rfl
theorem run_cut_lh {o : Oper} {a : Act} {w : World} {x lo hi : Operand} {A : Option Addr} {n c m : Nat} {l h : Int} (ho : o.op = .slice 22 x (some lo) (some hi) none) (hx : a.eval x = .slice A n c) (hl : a.eval lo = .int .i64 l) (hh : a.eval hi = .int .i64 h)
    (h0 : 0 ≤ l) (h1 : l ≤ h) (h2 : h ≤ (c : Int)) (hm : m = h.toNat - l.toNat) :
    (execOp a.eval o).run Try.prog w = .ok (.value (.slice (cutA A c l.toNat) m (c - l.toNat))) w := by
  subst hm
  have h1 := run_slice_lh (P := Try.prog) (w := w) 22 A n c slice_bytes .i64 .i64 l h h0 h1 h2
  unfold execOp
  simp only [ho, hx, hl, hh, Option.map, Sem.run_bind, run_sliceAt_slice _ _ _ _ _ _ slice_bytes, h1]
  go_simp
  rfl
theorem run_cut_h {o : Oper} {a : Act} {w : World} {x hi : Operand} {A : Option Addr} {n c m : Nat} {h : Int} (ho : o.op = .slice 22 x none (some hi) none) (hx : a.eval x = .slice A n c) (hh : a.eval hi = .int .i64 h)
    (h0 : 0 ≤ h) (h2 : h ≤ (c : Int)) (hm : m = h.toNat) :
    (execOp a.eval o).run Try.prog w = .ok (.value (.slice A m c)) w := by
  subst hm
  have h1 := run_slice_h (P := Try.prog) (w := w) 22 A n c slice_bytes .i64 h h0 h2
  unfold execOp
  simp only [ho, hx, hh, Option.map, Sem.run_bind, run_sliceAt_slice _ _ _ _ _ _ slice_bytes, h1]
  go_simp
/-- An operation that yields a value, in a list that goes in the order of the text. -/
theorem wpList_val {P : Program} {ops : Array Oper} {rest : List Oper} {o : Oper} {a : Act} {w : World} {Q : Exit → Act → World → Prop} {v : Value} (hg : o.guard = none) (hrun : (execOp a.eval o).run P w = .ok (.value v) w)
    (h : wpList P ops Q rest (a.put o.dst v) w) : wpList P ops Q (o :: rest) a w :=
  wpList_plain hg fun K hK => by unfold Oper.wp; rw [hrun]; exact hK _ _ h

/-- What was there below is as it was; the block that came first lies there, n cells of type t. -/
def OwnR (w0 : World) (t n : Nat) (w' : World) : Prop := Below w0.heap.size w0 w' ∧ ∃ cs : Array Value, cs.size = n ∧ w'.heap[w0.heap.size]? = some (.cells cs t (0, 0))
section
variable {w0 w w' : World} {t n : Nat}
theorem OwnR.new (w : World) (cs : Array Value) (t : TypeId) : OwnR w t cs.size (w.alloc (.cells cs t)) := ⟨(Below.refl _ w).alloc (Nat.le_refl _) _, cs, rfl, World.alloc_heap_new w _⟩
theorem OwnR.b (h : OwnR w0 t n w) : Below w0.heap.size w0 w := h.1
theorem OwnR.lt (h : OwnR w0 t n w) : w0.heap.size < w.heap.size := by obtain ⟨_, cs, _, hg⟩ := h; exact heap_lt hg
theorem OwnR.drew (h : OwnR w0 t n w) : OwnR w0 t n w.drew := ⟨h.1.drew, h.2⟩
theorem OwnR.drewN (h : OwnR w0 t n w) (k : Nat) : OwnR w0 t n (w.drewN k) := ⟨below_drewN h.1 k, h.2⟩
theorem OwnR.step (h : OwnR w0 t n w) (hb : Below w.heap.size w w') : OwnR w0 t n w' := by
  have hl := h.lt
  obtain ⟨hB, cs, hn, hg⟩ := h
  exact ⟨hB.trans (hb.mono hB.size), cs, hn, (hb.block _ hl).trans hg⟩
theorem OwnR.alloc (h : OwnR w0 t n w) (o : Obj) : OwnR w0 t n (w.alloc o) := h.step ((Below.refl _ w).alloc (Nat.le_refl _) _)
theorem OwnR.row (h : OwnR w0 t n w) (cs : Array Value) (hc : cs.size = n) : OwnR w0 t n (w.setRow w0.heap.size cs) := by
  obtain ⟨hB, cs', hn, hg⟩ := h
  exact ⟨below_row hB (Nat.le_refl _), cs, hc, setRow_heap _ _ _ _ _ _ hg⟩
end
theorem Made.row {w W w' : World} {v : Value} {bs : List UInt8} {cs : Array Value} (h : Made W w' v bs) (hb : Below w.heap.size w W) (hg : w.heap.size < W.heap.size) : Made w (w'.setRow w.heap.size cs) v bs := by
  obtain ⟨A, c, rfl, hl, hr, ho, hB⟩ := h
  exact Made.of_own (own_base (own_setRow ho hg) hb.size) (below_row (hb.trans (hB.mono hb.size)) (Nat.le_refl _))
/-- Results: a struct in a block, and slots. -/
theorem res2 {fn : Func} {p q : Tmp} {T : TypeId} {tmps : Array Value} {w : World} {g : Nat} {cs : Array Value} (h : fn.results = #[.cell p T, .tmp q])
    (hp : tmps.getD p undef = .pointer (some ⟨g, 0, none⟩)) (hr : (loadVar T ⟨g, 0, none⟩).run Try.prog w = .ok (.agg cs) w) :
    (results fn tmps).run Try.prog w = .ok (.tuple #[.agg cs, tmps.getD q undef]) w := by
  have hp' : tmps[p]?.getD undef = .pointer (some ⟨g, 0, none⟩) := by simpa using hp
  simp [results, h, hp', asAddr, hr]
theorem res3 {fn : Func} {p q r : Tmp} {T : TypeId} {tmps : Array Value} {w : World} {g : Nat} {cs : Array Value} (h : fn.results = #[.cell p T, .tmp q, .tmp r])
    (hp : tmps.getD p undef = .pointer (some ⟨g, 0, none⟩)) (hr : (loadVar T ⟨g, 0, none⟩).run Try.prog w = .ok (.agg cs) w) :
    (results fn tmps).run Try.prog w = .ok (.tuple #[.agg cs, tmps.getD q undef, tmps.getD r undef]) w := by
  have hp' : tmps[p]?.getD undef = .pointer (some ⟨g, 0, none⟩) := by simpa using hp
  simp [results, h, hp', asAddr, hr]
theorem get_one {b : List UInt8} {i : Nat} (h : i + 1 ≤ b.length) : getV b (i : Int) 1 = byt b i := by
  have e := getV_ok (bs := b) (a := i) (s := 1) (by omega) (by omega) h
  have hl : (b.drop i).length = b.length - i := by simp
  rw [show (1 : Int) = ((1 : Nat) : Int) from rfl, e, num_take _ (k := 0) (by omega), List.take_zero]
  simp only [byt_drop, num, List.foldl_nil, Nat.add_zero]; omega
theorem n4_bd (b : List UInt8) (i : Nat) : 0 ≤ n4 b i ∧ n4 b i < 4294967296 := by
  have h1 := byt_lo b i; have h2 := byt_hi b i; have h3 := byt_lo b (i + 1); have h4 := byt_hi b (i + 1)
  have h5 := byt_lo b (i + 2); have h6 := byt_hi b (i + 2); have h7 := byt_lo b (i + 3); have h8 := byt_hi b (i + 3)
  unfold n4; omega
theorem and_mask (k : Nat) (n : Int) (h0 : 0 ≤ n) (h1 : n ≤ 9223372036854775807) (hk : k ≤ 62) : bits .and .i64 n (2 ^ k - 1) = n % 2 ^ k :=
  bits_mask .i64 63 (by decide) wraps63 k (by omega) n h0 (by omega)
end Go.Proofs.Ytcfcmnhnijjehaa
