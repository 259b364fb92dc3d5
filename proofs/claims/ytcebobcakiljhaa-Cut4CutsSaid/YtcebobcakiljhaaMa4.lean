/-
  Contracts and lemmas on which the proofs of this seat stand (several texts in one). Conditions are each theorem's own.
-/
import Derived.Test.YtcebobcakiljhaaMa3
import Derived.Test.YtcebobcakiljhaaMa1
import Derived.Test.YtcebobcakiljhaaMa2
import Derived.ChangeKeysEq
import Derived.Deep.WholeRow
import Derived.Deep.Cut
import Derived.Deep.CutRange

/-
  Laws: a slice of a slice of bytes, whatever its capacity; a function's own block for its result, kept through a region and stored into. Conditions are each theorem's own.
-/
namespace Go.Proofs.Ytcebobcakiljhaa
open Go.RowKit

/-- Where a slice of a slice begins. A plain definition. -/
def cutA (A : Option Addr) (c lo : Nat) : Option Addr := if c = lo then A else A.map (·.add lo)
theorem sliced_cut (A : Option Addr) (l h c : Nat) : sliced A l h c 1 = .slice (cutA A c l) (h - l) (c - l) := by simp [sliced, cutA]
theorem Arg.cut {w : World} {B : Nat} {A : Option Addr} {c : Nat} {bs : List UInt8} (h : Arg w B A c bs) (lo hi : Nat) (hh : hi ≤ bs.length) : Arg w B (cutA A c lo) (c - lo) ((bs.take hi).drop lo) := by
  have hcap := h.cap
  refine ⟨fun hn => ?_, by simp; omega, fun e => ?_⟩
  · have hl : lo < hi := by simp at hn; omega
    obtain ⟨b, off, rfl, hb, hc⟩ := h.rd (by omega)
    refine ⟨b, off + lo, by simp [cutA, show ¬ c = lo from by omega, add_off], hb, fun j hj => ?_⟩
    have hj' : j < hi - lo := by simp at hj; omega
    rw [Nat.add_assoc, hc (lo + j) (by omega)]
    simp only [byt, List.getElem?_drop, List.getElem?_take]
    rw [if_pos (by omega)]
  · unfold cutA at e
    split at e
    · have := h.none_ e; omega
    · have : A = none := by cases A <;> simp at e ⊢
      have := h.none_ this; omega
theorem Arg.cut_lo {w : World} {B : Nat} {A : Option Addr} {c : Nat} {bs : List UInt8} (h : Arg w B A c bs) (lo : Nat) : Arg w B (cutA A c lo) (c - lo) (bs.drop lo) := by
  have := h.cut lo bs.length (Nat.le_refl _)
  rwa [List.take_length] at this
theorem Arg.cut_hi {w : World} {B : Nat} {A : Option Addr} {c : Nat} {bs : List UInt8} (h : Arg w B A c bs) (hi : Nat) (hh : hi ≤ bs.length) : Arg w B A c (bs.take hi) := by
  have hcap := h.cap
  refine ⟨fun hn => ?_, by simp; omega, h.none_⟩
  obtain ⟨b, off, rfl, hb, hc⟩ := h.rd (by simp at hn; omega)
  refine ⟨b, off, rfl, hb, fun j hj => ?_⟩
  have hj' : j < hi := by simp at hj; omega
  rw [hc j (by omega)]
  simp only [byt, List.getElem?_take]
  rw [if_pos hj']
theorem slice_bytes : Try.prog.underlying 22 = some (.slice (Try.prog.elem 22)) := by kernel_rfl
theorem run_cut_l {o : Oper} {a : Act} {w : World} {x lo : Operand} {A : Option Addr} {n c l m : Nat} (ho : o.op = .slice 22 x (some lo) none none) (hx : a.eval x = .slice A n c) (hl : a.eval lo = .int .i64 (l : Int)) (hn : l ≤ n) (hm : m = n - l) :
    (execOp a.eval o).run Try.prog w = .ok (.value (.slice (cutA A c l) m (c - l))) w := by
  subst hm
  have h1 := run_slice_l (P := Try.prog) (w := w) 22 A n c slice_bytes .i64 (l : Int) (by omega) (by omega)
  unfold execOp
  simp only [ho, hx, hl, Option.map, Sem.run_bind, run_sliceAt_slice _ _ _ _ _ _ slice_bytes, h1]
  go_simp
  rfl
theorem run_cut_lh {o : Oper} {a : Act} {w : World} {x lo hi : Operand} {A : Option Addr} {n c m : Nat} {l h : Int} (ho : o.op = .slice 22 x (some lo) (some hi) none) (hx : a.eval x = .slice A n c) (hl : a.eval lo = .int .i64 l) (hh : a.eval hi = .int .i64 h)
    (h0 : 0 ≤ l) (h1 : l ≤ h) (h2 : h ≤ (c : Int)) (hm : m = h.toNat - l.toNat) :
    (execOp a.eval o).run Try.prog w = .ok (.value (.slice (cutA A c l.toNat) m (c - l.toNat))) w := by
  subst hm
  have h1 := run_slice_lh (P := Try.prog) (w := w) 22 A n c slice_bytes .i64 .i64 l h h0 h1 h2
  unfold execOp
  simp only [ho, hx, hl, hh, Option.map, Sem.run_bind, run_sliceAt_slice _ _ _ _ _ _ slice_bytes, h1]
  go_simp
  rfl
theorem run_cut_h {o : Oper} {a : Act} {w : World} {x hi : Operand} {A : Option Addr} {n c m : Nat} {h : Int} (ho : o.op = .slice 22 x none (some hi) none) (hx : a.eval x = .slice A n c) (hh : a.eval hi = .int .i64 h)
    (h0 : 0 ≤ h) (h2 : h ≤ (c : Int)) (hm : m = h.toNat) :
    (execOp a.eval o).run Try.prog w = .ok (.value (.slice A m c)) w := by
  subst hm
  have h1 := run_slice_h (P := Try.prog) (w := w) 22 A n c slice_bytes .i64 h h0 h2
  unfold execOp
  simp only [ho, hx, hh, Option.map, Sem.run_bind, run_sliceAt_slice _ _ _ _ _ _ slice_bytes, h1]
  go_simp
/-- An operation that yields a value, in a list that goes in the order of the text. -/
theorem wpList_val {P : Program} {ops : Array Oper} {rest : List Oper} {o : Oper} {a : Act} {w : World} {Q : Exit → Act → World → Prop} {v : Value} (hg : o.guard = none) (hrun : (execOp a.eval o).run P w = .ok (.value v) w)
    (h : wpList P ops Q rest (a.put o.dst v) w) : wpList P ops Q (o :: rest) a w :=
  wpList_plain hg fun K hK => by unfold Oper.wp; rw [hrun]; exact hK _ _ h

/-- What was there below is as it was; the block that came first lies there, n cells of type t. -/
def OwnR (w0 : World) (t n : Nat) (w' : World) : Prop := Below w0.heap.size w0 w' ∧ ∃ cs : Array Value, cs.size = n ∧ w'.heap[w0.heap.size]? = some (.cells cs t (0, 0))
section
variable {w0 w w' : World} {t n : Nat}
theorem OwnR.new (w : World) (cs : Array Value) (t : TypeId) : OwnR w t cs.size (w.alloc (.cells cs t)) := ⟨(Below.refl _ w).alloc (Nat.le_refl _) _, cs, rfl, World.alloc_heap_new w _⟩
theorem OwnR.b (h : OwnR w0 t n w) : Below w0.heap.size w0 w := h.1
theorem OwnR.lt (h : OwnR w0 t n w) : w0.heap.size < w.heap.size := by obtain ⟨_, cs, _, hg⟩ := h; exact heap_lt hg
theorem OwnR.drew (h : OwnR w0 t n w) : OwnR w0 t n w.drew := ⟨h.1.drew, h.2⟩
theorem OwnR.drewN (h : OwnR w0 t n w) (k : Nat) : OwnR w0 t n (w.drewN k) := ⟨below_drewN h.1 k, h.2⟩
theorem OwnR.step (h : OwnR w0 t n w) (hb : Below w.heap.size w w') : OwnR w0 t n w' := by
  have hl := h.lt
  obtain ⟨hB, cs, hn, hg⟩ := h
  exact ⟨hB.trans (hb.mono hB.size), cs, hn, (hb.block _ hl).trans hg⟩
theorem OwnR.alloc (h : OwnR w0 t n w) (o : Obj) : OwnR w0 t n (w.alloc o) := h.step ((Below.refl _ w).alloc (Nat.le_refl _) _)
theorem OwnR.row (h : OwnR w0 t n w) (cs : Array Value) (hc : cs.size = n) : OwnR w0 t n (w.setRow w0.heap.size cs) := by
  obtain ⟨hB, cs', hn, hg⟩ := h
  exact ⟨below_row hB (Nat.le_refl _), cs, hc, setRow_heap _ _ _ _ _ _ hg⟩
end
theorem Made.row {w W w' : World} {v : Value} {bs : List UInt8} {cs : Array Value} (h : Made W w' v bs) (hb : Below w.heap.size w W) (hg : w.heap.size < W.heap.size) : Made w (w'.setRow w.heap.size cs) v bs := by
  obtain ⟨A, c, rfl, hl, hr, ho, hB⟩ := h
  exact Made.of_own (own_base (own_setRow ho hg) hb.size) (below_row (hb.trans (hB.mono hb.size)) (Nat.le_refl _))
/-- Results: a struct in a block, and slots. -/
theorem res2 {fn : Func} {p q : Tmp} {T : TypeId} {tmps : Array Value} {w : World} {g : Nat} {cs : Array Value} (h : fn.results = #[.cell p T, .tmp q])
    (hp : tmps.getD p undef = .pointer (some ⟨g, 0, none⟩)) (hr : (loadVar T ⟨g, 0, none⟩).run Try.prog w = .ok (.agg cs) w) :
    (results fn tmps).run Try.prog w = .ok (.tuple #[.agg cs, tmps.getD q undef]) w := by
  have hp' : tmps[p]?.getD undef = .pointer (some ⟨g, 0, none⟩) := by simpa using hp
  simp [results, h, hp', asAddr, hr]
theorem res3 {fn : Func} {p q r : Tmp} {T : TypeId} {tmps : Array Value} {w : World} {g : Nat} {cs : Array Value} (h : fn.results = #[.cell p T, .tmp q, .tmp r])
    (hp : tmps.getD p undef = .pointer (some ⟨g, 0, none⟩)) (hr : (loadVar T ⟨g, 0, none⟩).run Try.prog w = .ok (.agg cs) w) :
    (results fn tmps).run Try.prog w = .ok (.tuple #[.agg cs, tmps.getD q undef, tmps.getD r undef]) w := by
  have hp' : tmps[p]?.getD undef = .pointer (some ⟨g, 0, none⟩) := by simpa using hp
  simp [results, h, hp', asAddr, hr]
theorem get_one {b : List UInt8} {i : Nat} (h : i + 1 ≤ b.length) : getV b (i : Int) 1 = byt b i := by
  have e := getV_ok (bs := b) (a := i) (s := 1) (by omega) (by omega) h
  have hl : (b.drop i).length = b.length - i := by simp
  rw [show (1 : Int) = ((1 : Nat) : Int) from rfl, e, num_take _ (k := 0) (by omega), List.take_zero]
  simp only [byt_drop, num, List.foldl_nil, Nat.add_zero]; omega
theorem n4_bd (b : List UInt8) (i : Nat) : 0 ≤ n4 b i ∧ n4 b i < 4294967296 := by
  have h1 := byt_lo b i; have h2 := byt_hi b i; have h3 := byt_lo b (i + 1); have h4 := byt_hi b (i + 1)
  have h5 := byt_lo b (i + 2); have h6 := byt_hi b (i + 2); have h7 := byt_lo b (i + 3); have h8 := byt_hi b (i + 3)
  unfold n4; omega
theorem and_mask (k : Nat) (n : Int) (h0 : 0 ≤ n) (h1 : n ≤ 9223372036854775807) (hk : k ≤ 62) : bits .and .i64 n (2 ^ k - 1) = n % 2 ^ k :=
  bits_mask .i64 63 (by decide) wraps63 k (by omega) n h0 (by omega)
end Go.Proofs.Ytcebobcakiljhaa

/-
  Contracts of the document's plain answers of layer 4: Less, Host, Of. Conditions are each theorem's own.
-/
namespace Go.Proofs.Ytcebobcakiljhaa
open Go.RowKit

theorem items_eq (a b : List UInt8) (d : Nat) (w : World) : ∀ is : List Nat, (∀ i ∈ is, i < a.length ∧ i < b.length) →
    (Op.eqItems (d + 1) 5 1 (cel a) (cel b) is).run Try.prog w = .ok (decide (∀ i ∈ is, byt a i = byt b i)) w
  | [], _ => by simp [Op.eqItems]
  | i :: is, h => by
    have hp : Try.prog.plainKey 5 = true := by kernel_rfl
    obtain ⟨h1, h2⟩ := h i (by simp)
    have p1 := run_part_plain (P := Try.prog) w hp (off := i * 1) (by rw [Nat.mul_one]; exact cel_get a h1)
    have p2 := run_part_plain (P := Try.prog) w hp (off := i * 1) (by rw [Nat.mul_one]; exact cel_get b h2)
    have p3 := run_equalIn_int w d 5 .u8 .u8 (byt a i) (byt b i) Try.underlying5
    have ih := items_eq a b d w is (fun j hj => h j (by simp [hj]))
    simp only [Op.eqItems, Sem.run_bind, p1, p2, p3, Result.andThen_ok]
    by_cases he : byt a i = byt b i
    · simp [he, ih]
    · simp [he]
theorem same_bytes {a b : List UInt8} (ha : a.length = 16) (hb : b.length = 16) : (∀ i ∈ List.range 16, byt a i = byt b i) ↔ a = b := by
  constructor
  · intro h
    refine List.ext_getElem (by omega) fun i h1 h2 => ?_
    exact (byt_eq h1 h2).1 (h i (by simp; omega))
  · rintro rfl i _; rfl
set_option maxRecDepth 100000 in
theorem six_eq (a b : List UInt8) (ha : a.length = 16) (hb : b.length = 16) (w : World) :
    (Op.equalIn 10000 43 (.agg (cel a)) (.agg (cel b))).run Try.prog w = .ok (decide (a = b)) w := by
  have hi : ∃ i, Try.prog.info? 5 = some i := Option.isSome_iff_exists.1 (by kernel_rfl)
  obtain ⟨i, hi⟩ := hi
  have hc : Try.prog.cellsOf 5 = 1 := by kernel_rfl
  rw [show (10000 : Nat) = 9998 + 1 + 1 from rfl, run_equalIn_array w 9999 (cel a) (cel b) Try.underlying43 hi, hc, items_eq a b 9998 w _ (by simp; omega)]
  congr 1
  rw [decide_eq_decide]
  exact same_bytes ha hb

theorem six_nul (a : List UInt8) (ha : a.length = 16) (w : World) :
    (Op.equalIn 10000 43 (.agg (cel a)) (.agg #[.int .u8 0, .int .u8 0, .int .u8 0, .int .u8 0, .int .u8 0, .int .u8 0, .int .u8 0, .int .u8 0, .int .u8 0, .int .u8 0, .int .u8 0, .int .u8 0, .int .u8 0, .int .u8 0, .int .u8 0, .int .u8 0])).run Try.prog w = .ok (decide (a = nul)) w := six_eq a nul ha rfl w
/-- A whole address is read out of a block of its own. -/
theorem six_load {ops : Array Oper} {rest : List Oper} {d : Tmp} {x : Operand} {ty : TypeId} {pos : String} {af : Array Edge} {a : Act} {w : World} {Q : Exit → Act → World → Prop}
    {g : Nat} {t : TypeId} {cs : List UInt8} {fr : Nat × Nat} (hx : a.eval x = .pointer (some ⟨g, 0, none⟩)) (hg : w.heap[g]? = some (.cells (cel cs) t fr)) (hl : cs.length = 16)
    (h : wpList Try.prog ops Q rest (a.put (some d) (.agg (cel cs))) w) : wpList Try.prog ops Q (⟨some d, .load 43 x, ty, pos, af, none⟩ :: rest) a w :=
  wpList_load_row rfl 43 x rfl g hx t (cel cs) fr _ hg Try.underlying43 rfl (by rw [cel_size, hl]; kernel_rfl) h
/-- A whole address is stored into a block of its own. -/
theorem six_store {ops : Array Oper} {rest : List Oper} {x y : Operand} {ty : TypeId} {pos : String} {af : Array Edge} {a : Act} {w : World} {Q : Exit → Act → World → Prop}
    {g : Nat} {t : TypeId} {cs : List UInt8} {old : Array Value} (hx : a.eval x = .pointer (some ⟨g, 0, none⟩)) (hy : a.eval y = .agg (cel cs)) (hg : w.heap[g]? = some (.cells old t (0, 0))) (ho : old.size = 16) (hl : cs.length = 16)
    (h : wpList Try.prog ops Q rest (a.put none undef) (w.setRow g (cel cs))) : wpList Try.prog ops Q (⟨none, .store 43 x y, ty, pos, af, none⟩ :: rest) a w :=
  wpList_plain rfl fun _ hK => wp_store_row 43 x y rfl g (cel cs) hx hy t old hg (by rw [cel_size, hl]; kernel_rfl) (by rw [ho, cel_size, hl])
    (Array.all_eq_true_iff_forall_mem.2 fun v hv => row_one cs v (by simpa [cel] using hv)) (hK _ _ h)
/-- A whole address is stored into the block that was made last. -/
theorem six_store_new {ops : Array Oper} {rest : List Oper} {x y : Operand} {ty : TypeId} {pos : String} {af : Array Edge} {a : Act} {w : World} {Q : Exit → Act → World → Prop}
    {t : TypeId} {cs : List UInt8} {old : Array Value} (hx : a.eval x = .pointer (some ⟨w.heap.size, 0, none⟩)) (hy : a.eval y = .agg (cel cs)) (ho : old.size = 16) (hl : cs.length = 16)
    (h : wpList Try.prog ops Q rest (a.put none undef) (w.alloc (.cells (cel cs) t))) : wpList Try.prog ops Q (⟨none, .store 43 x y, ty, pos, af, none⟩ :: rest) a (w.alloc (.cells old t)) :=
  six_store hx hy (World.alloc_heap_new w _) ho hl (by rw [World.setRow_alloc_new]; exact h)
/-- One result, an address in a block of its own. -/
theorem six_result {fn : Func} {p : Tmp} {tmps : Array Value} {w : World} {g : Nat} {t : TypeId} {cs : List UInt8} {fr : Nat × Nat} (h : fn.results = #[.cell p 43])
    (hp : tmps.getD p undef = .pointer (some ⟨g, 0, none⟩)) (hg : w.heap[g]? = some (.cells (cel cs) t fr)) (hl : cs.length = 16) : (results fn tmps).run Try.prog w = .ok (.agg (cel cs)) w :=
  results_cell_row h tmps w g t (cel cs) fr _ hp hg Try.underlying43 rfl (by rw [cel_size, hl]; kernel_rfl)
/-- Two results: an address in a block of its own, and a slot. -/
theorem six_result2 {fn : Func} {p q : Tmp} {tmps : Array Value} {w : World} {g : Nat} {t : TypeId} {cs : List UInt8} {fr : Nat × Nat} (h : fn.results = #[.cell p 43, .tmp q])
    (hp : tmps.getD p undef = .pointer (some ⟨g, 0, none⟩)) (hg : w.heap[g]? = some (.cells (cel cs) t fr)) (hl : cs.length = 16) :
    (results fn tmps).run Try.prog w = .ok (.tuple #[.agg (cel cs), tmps.getD q undef]) w := by
  have hp' : tmps[p]?.getD undef = .pointer (some ⟨g, 0, none⟩) := by simpa using hp
  have hr := run_loadVar_row (P := Try.prog) w g t 43 (cel cs) fr _ hg Try.underlying43 rfl (by rw [cel_size, hl]; kernel_rfl)
  simp [results, h, hp', asAddr, hr]
end Go.Proofs.Ytcebobcakiljhaa

/-
  Packets of IPv6 in a block of their own; laws for loads out of it. Conditions are each theorem's own.
-/
namespace Go.Proofs.Ytcebobcakiljhaa
open Go.RowKit

def v6a (q : P6) (A : Option Addr) (c : Nat) : Array Value := (v6l q A c).toArray
def At6 (W : World) (g : Nat) (q : P6) (A : Option Addr) (c : Nat) : Prop := W.rangeAt g 0 (v6l q A c)
section
variable {W : World} {g : Nat} {q : P6} {A : Option Addr} {c : Nat}
theorem At6.new (w : World) : At6 (w.alloc (.cells (v6a q A c) 45)) w.heap.size q A c := fun j v hj => by
  rw [Nat.zero_add, World.cell?_alloc_new, v6a, List.getElem?_toArray, ← hj]
theorem At6.below {w : World} {B : Nat} (h : At6 W g q A c) (hb : Below B W w) (hg : g < B) : At6 w g q A c := range_below h hg hb
theorem At6.traffic (h : At6 W g q A c) : W.cell? ⟨g, 0, none⟩ = some (.int .i64 q.traffic) := h 0 _ rfl
theorem At6.flow (h : At6 W g q A c) : W.cell? ⟨g, 1, none⟩ = some (.int .i64 q.flow) := h 1 _ rfl
theorem At6.next (h : At6 W g q A c) : W.cell? ⟨g, 2, none⟩ = some (.int .i64 q.next) := h 2 _ rfl
theorem At6.hop (h : At6 W g q A c) : W.cell? ⟨g, 3, none⟩ = some (.int .i64 q.hop) := h 3 _ rfl
theorem v6l_src (j : Nat) (v : Value) (hj : (row q.src)[j]? = some v) : (v6l q A c)[4 + j]? = some v := by
  have hl : j < (row q.src).length := (List.getElem?_eq_some_iff.1 hj).1
  rw [v6l, List.append_assoc, List.append_assoc, List.getElem?_append_right (by simp)]
  rw [show 4 + j - [Value.int .i64 q.traffic, .int .i64 q.flow, .int .i64 q.next, .int .i64 q.hop].length = j from by simp]
  rw [List.getElem?_append_left hl]; exact hj
theorem v6l_dst (hs : q.src.length = 16) (j : Nat) (v : Value) (hj : (row q.dst)[j]? = some v) : (v6l q A c)[20 + j]? = some v := by
  have hl : j < (row q.dst).length := (List.getElem?_eq_some_iff.1 hj).1
  have e : ([Value.int .i64 q.traffic, .int .i64 q.flow, .int .i64 q.next, .int .i64 q.hop] ++ row q.src).length = 20 := by simp [row_length, hs]
  rw [v6l, List.append_assoc, List.getElem?_append_right (by rw [e]; omega), e, show 20 + j - 20 = j from by omega, List.getElem?_append_left hl]; exact hj
theorem v6l_dat (hs : q.src.length = 16) (hd : q.dst.length = 16) : (v6l q A c)[36]? = some (.slice A q.dat.length c) := by
  have e : ([Value.int .i64 q.traffic, .int .i64 q.flow, .int .i64 q.next, .int .i64 q.hop] ++ row q.src ++ row q.dst).length = 36 := by simp [row_length, hs, hd]
  rw [v6l, List.getElem?_append_right (by rw [e]; omega), e]; rfl
theorem v6l_len (hs : q.src.length = 16) (hd : q.dst.length = 16) : (v6l q A c).length = 37 := by simp [v6l, row_length, hs, hd]
theorem At6.src (h : At6 W g q A c) : W.rangeAt g 4 (row q.src) := fun j v hj => by
  have := h (4 + j) v (v6l_src j v hj); rwa [Nat.zero_add] at this
theorem At6.dst (h : At6 W g q A c) (hs : q.src.length = 16) : W.rangeAt g 20 (row q.dst) := fun j v hj => by
  have := h (20 + j) v (v6l_dst hs j v hj); rwa [Nat.zero_add] at this
theorem At6.dat (h : At6 W g q A c) (hs : q.src.length = 16) (hd : q.dst.length = 16) : W.cell? ⟨g, 36, none⟩ = some (.slice A q.dat.length c) := h 36 _ (v6l_dat hs hd)
end
theorem run_load_v6 {o : Oper} {a : Act} {w : World} {x : Operand} {g : Nat} {cs : List Value} (ho : o.op = .load 45 x) (hx : a.eval x = .pointer (some ⟨g, 0, none⟩)) (hr : w.rangeAt g 0 cs) (hl : cs.length = 37) :
    (execOp a.eval o).run Try.prog w = .ok (.value (.agg cs.toArray)) w := by
  have h := run_loadVar_mid (P := Try.prog) w g 0 45 cs _ hr Try.underlying45 rfl (by rw [hl]; kernel_rfl)
  unfold execOp
  simp only [ho, hx, Instr.loadAt, Instr.sureAddr, Sem.run_bind, Sem.run_pure, Result.andThen_ok, h]
theorem run_load_six {o : Oper} {a : Act} {w : World} {x : Operand} {g i : Nat} {cs : List UInt8} (ho : o.op = .load 43 x) (hx : a.eval x = .pointer (some ⟨g, i, none⟩)) (hr : w.rangeAt g i (row cs)) (hl : cs.length = 16) :
    (execOp a.eval o).run Try.prog w = .ok (.value (.agg (cel cs))) w := by
  have h := run_loadVar_mid (P := Try.prog) w g i 43 (row cs) _ hr Try.underlying43 rfl (by rw [row_length, hl]; kernel_rfl)
  unfold execOp
  simp only [ho, hx, Instr.loadAt, Instr.sureAddr, Sem.run_bind, Sem.run_pure, Result.andThen_ok, h, cel]
/-- An operation that yields a value and is wanted. -/
theorem wpList_valg {P : Program} {ops : Array Oper} {rest : List Oper} {o : Oper} {a : Act} {w : World} {Q : Exit → Act → World → Prop} {v : Value} (hw : Region.wanted o (yielded ops a.tmps) = true) (hrun : (execOp a.eval o).run P w = .ok (.value v) w)
    (h : wpList P ops Q rest (a.put o.dst v) w) : wpList P ops Q (o :: rest) a w :=
  wpList_step fun K hK => by rw [if_pos hw]; unfold Oper.wp; rw [hrun]; exact hK _ _ h
def flowB (q : P6) : Bool := decide (0 ≤ q.flow) && decide (q.flow < 1048576)
theorem arg6_iff (q : P6) : arg6 q ↔ (fitsB q.traffic 1 = true ∧ fitsB q.next 1 = true ∧ fitsB q.hop 1 = true ∧ flowB q = true) := by
  unfold arg6 flowB
  simp only [Bool.and_eq_true, fitsB_iff, decide_eq_true_eq, pw]
  constructor
  · rintro ⟨a1, a2, a3, a4, a5, a6, a7, a8⟩
    refine ⟨⟨?_, ?_, ?_, ?_⟩, ⟨?_, ?_, ?_, ?_⟩, ⟨?_, ?_, ?_, ?_⟩, ?_, ?_⟩ <;> (try simp) <;> omega
  · rintro ⟨⟨_, _, f1, f2⟩, ⟨_, _, g1, g2⟩, ⟨_, _, h1, h2⟩, m1, m2⟩
    simp at f2 g2 h2
    refine ⟨?_, ?_, ?_, ?_, ?_, ?_, ?_, ?_⟩ <;> omega
section
variable (q : P6) (A : Option Addr) (c : Nat) (w : World)
theorem c6size (hs : q.src.length = 16) (hd : q.dst.length = 16) (hl : q.dat.length ≤ 1000000) : Calls Try.prog 28 #[v6v q A c] w fun e w' => e = .returned (.int .i64 (size6 q)) ∧ Below w.heap.size w w' := by
  have hB : Below w.heap.size w (w.alloc (.cells (v6a q A c) 45)) := (Below.refl w.heap.size w).alloc (Nat.le_refl _) _
  have k := (At6.new (q := q) (A := A) (c := c) w).dat hs hd
  unfold v6v size6
  rw [show (v6l q A c).toArray = v6a q A c from rfl]
  go_enter Try.func28, Try.ntmps28
  go_wp2_with fail
  go_ret
  exact ⟨rfl, hB⟩
theorem r6size (hs : q.src.length = 16) (hd : q.dst.length = 16) (hl : q.dat.length ≤ 1000000) : Calls Try.prog 48 #[v6v q A c] w fun e w' => e = .returned (.int .i64 (size6 q)) ∧ Below w.heap.size w w' := by
  have hB : Below w.heap.size w (w.alloc (.cells (v6a q A c) 45)) := (Below.refl w.heap.size w).alloc (Nat.le_refl _) _
  have k := (At6.new (q := q) (A := A) (c := c) w).dat hs hd
  unfold v6v size6
  rw [show (v6l q A c).toArray = v6a q A c from rfl]
  go_enter Try.func48, Try.ntmps48
  go_wp2_with fail
  go_ret
  exact ⟨rfl, hB⟩
end
end Go.Proofs.Ytcebobcakiljhaa

/-
  Contracts of Check, numbers and Same of layer 6, the program's and the document's. Conditions are each theorem's own.
-/
namespace Go.Proofs.Ytcebobcakiljhaa
open Go.RowKit

/-- Integers in an array. -/
def zat (zs : List Int) (i : Nat) : Int := zs.getD i 0
def ivs (zs : List Int) : Array Value := (zs.map (Value.int .i64)).toArray
theorem ivs_get (zs : List Int) {j : Nat} (h : j < zs.length) : (ivs zs)[j]? = some (.int .i64 (zat zs j)) := by
  simp [ivs, zat, h]
theorem ints_items (a b : List Int) (d : Nat) (w : World) : ∀ is : List Nat, (∀ i ∈ is, i < a.length ∧ i < b.length) →
    (Op.eqItems (d + 1) 3 1 (ivs a) (ivs b) is).run Try.prog w = .ok (decide (∀ i ∈ is, zat a i = zat b i)) w
  | [], _ => by simp [Op.eqItems]
  | i :: is, h => by
    have hp : Try.prog.plainKey 3 = true := by kernel_rfl
    obtain ⟨h1, h2⟩ := h i (by simp)
    have p1 := run_part_plain (P := Try.prog) w hp (off := i * 1) (by rw [Nat.mul_one]; exact ivs_get a h1)
    have p2 := run_part_plain (P := Try.prog) w hp (off := i * 1) (by rw [Nat.mul_one]; exact ivs_get b h2)
    have p3 := run_equalIn_int w d 3 .i64 .i64 (zat a i) (zat b i) Try.underlying3
    have ih := ints_items a b d w is (fun j hj => h j (by simp [hj]))
    simp only [Op.eqItems, Sem.run_bind, p1, p2, p3, Result.andThen_ok]
    by_cases he : zat a i = zat b i
    · simp [he, ih]
    · simp [he]
set_option maxRecDepth 100000 in
theorem ints_eq (T : TypeId) (n : Nat) (hT : Try.prog.underlying T = some (.array n 3)) (a b : List Int) (ha : a.length = n) (hb : b.length = n) (w : World) :
    (Op.equalIn 10000 T (.agg (ivs a)) (.agg (ivs b))).run Try.prog w = .ok (decide (a = b)) w := by
  have hi : ∃ i, Try.prog.info? 3 = some i := Option.isSome_iff_exists.1 (by kernel_rfl)
  obtain ⟨i, hi⟩ := hi
  have hc : Try.prog.cellsOf 3 = 1 := by kernel_rfl
  rw [show (10000 : Nat) = 9998 + 1 + 1 from rfl, run_equalIn_array w 9999 (ivs a) (ivs b) hT hi, hc, ints_items a b 9998 w _ (by simp; omega)]
  congr 1
  rw [decide_eq_decide]
  constructor
  · intro h
    refine List.ext_getElem (by omega) fun i h1 h2 => ?_
    have := h i (by simp; omega)
    simpa [zat, List.getD_eq_getElem?_getD, h1, h2] using this
  · rintro rfl i _; rfl
section
variable (q : P6) (A : Option Addr) (c : Nat) (w : World)
set_option maxRecDepth 100000 in
set_option maxHeartbeats 1000000 in
theorem c6check (hs : q.src.length = 16) (hd : q.dst.length = 16) (hl : q.dat.length ≤ 1000000) : Calls Try.prog 44 #[v6v q A c] w fun e w' => e = .returned (.int .i64 (chk6 q)) ∧ Below w.heap.size w w' := by
  have hB : Below w.heap.size w (w.alloc (.cells (v6a q A c) 45)) := (Below.refl w.heap.size w).alloc (Nat.le_refl _) _
  have hAt := At6.new (q := q) (A := A) (c := c) w
  have hz : w.heap.size < (w.alloc (.cells (v6a q A c) 45)).heap.size := by simp
  unfold v6v
  rw [show (v6l q A c).toArray = v6a q A c from rfl]
  have HO := Lib.hid (arg6_iff q)
  go_enter Try.func44, Try.ntmps44
  go_wp2_with fail
  generalize w.alloc (.cells (v6a q A c) 45) = W at *
  by_cases p0 : 0 ≤ q.flow
  · obtain ⟨P, hP⟩ : ∃ P, decide (q.flow < 1048576) = P := ⟨_, rfl⟩
    have HA : Hid (allB [fitsB q.traffic 1, fitsB q.next 1, fitsB q.hop 1, P] = decide (arg6 q)) := Lib.hid (by
      rw [Bool.eq_iff_iff, decide_eq_true_iff, HO.out, ← hP]; simp [allB, flowB, p0])
    refine wp_region_held_drew (S := fun w' => Below W.heap.size W w') (by kernel_rfl) (Below.refl _ W).drew (fun hS => ?_)
    refine held_pure (i := 0) (oi := ⟨some 3, _, _, _, _, _⟩) rfl (by kernel_rfl) (by kernel_rfl) (by kernel_rfl) (fun _ _ _ h => h) (by rfl) (v := ?_) (fun w hSw => ?_) hS (fun hS => ?_)
    rotate_left
    · go_simp; try with_reducible rfl
    try go_frame
    refine held_pure (i := 1) (oi := ⟨some 4, _, _, _, _, _⟩) rfl (by kernel_rfl) (by kernel_rfl) (by kernel_rfl) (fun _ _ _ h => h) (by rfl) (fun w hSw => run_load_int rfl rfl (hAt.below hSw (by omega)).traffic) hS (fun hS => ?_)
    try go_frame
    refine held_pure (i := 3) (oi := ⟨some 6, _, _, _, _, _⟩) rfl (by kernel_rfl) (by kernel_rfl) (by kernel_rfl) (fun _ _ _ h => h) (by rfl) (v := ?_) (fun w hSw => ?_) hS (fun hS => ?_)
    rotate_left
    · go_simp; try with_reducible rfl
    try go_frame
    refine held_pure (i := 4) (oi := ⟨some 7, _, _, _, _, _⟩) rfl (by kernel_rfl) (by kernel_rfl) (by kernel_rfl) (fun _ _ _ h => h) (by rfl) (fun w hSw => run_load_int rfl rfl (hAt.below hSw (by omega)).next) hS (fun hS => ?_)
    try go_frame
    refine held_pure (i := 6) (oi := ⟨some 9, _, _, _, _, _⟩) rfl (by kernel_rfl) (by kernel_rfl) (by kernel_rfl) (fun _ _ _ h => h) (by rfl) (v := ?_) (fun w hSw => ?_) hS (fun hS => ?_)
    rotate_left
    · go_simp; try with_reducible rfl
    try go_frame
    refine held_pure (i := 7) (oi := ⟨some 10, _, _, _, _, _⟩) rfl (by kernel_rfl) (by kernel_rfl) (by kernel_rfl) (fun _ _ _ h => h) (by rfl) (fun w hSw => run_load_int rfl rfl (hAt.below hSw (by omega)).hop) hS (fun hS => ?_)
    try go_frame
    refine held_pure (i := 9) (oi := ⟨some 12, _, _, _, _, _⟩) rfl (by kernel_rfl) (by kernel_rfl) (by kernel_rfl) (fun _ _ _ h => h) (by rfl) (v := ?_) (fun w hSw => ?_) hS (fun hS => ?_)
    rotate_left
    · go_simp; try with_reducible rfl
    try go_frame
    refine held_pure (i := 10) (oi := ⟨some 13, _, _, _, _, _⟩) rfl (by kernel_rfl) (by kernel_rfl) (by kernel_rfl) (fun _ _ _ h => h) (by rfl) (fun w hSw => run_load_int rfl rfl (hAt.below hSw (by omega)).flow) hS (fun hS => ?_)
    try go_frame
    refine held_pure (i := 11) (oi := ⟨some 14, _, _, _, _, _⟩) rfl (by kernel_rfl) (by kernel_rfl) (by kernel_rfl) (fun _ _ _ h => h) (by rfl) (v := ?_) (fun w hSw => ?_) hS (fun hS => ?_)
    rotate_left
    · go_simp; try with_reducible rfl
    try go_frame
    refine wpAnyH_ready (rs := [2]) (by kernel_rfl) (by simp) (AllReadyH.cons (o := ⟨some 5, _, _, _, _, _⟩) rfl (fun K hK => ?_) AllReadyH.nil)
    rw [if_pos (by rfl)]
    go_simp
    refine (fits_any _ _ _).mono ?_
    rintro e w2 ⟨rfl, rfl⟩
    show K _ _
    refine hK.out _ _ hS (fun hS => ?_)
    clear hK K
    try go_frame
    refine wpAnyH_ready (rs := [5]) (by kernel_rfl) (by simp) (AllReadyH.cons (o := ⟨some 8, _, _, _, _, _⟩) rfl (fun K hK => ?_) AllReadyH.nil)
    rw [if_pos (by rfl)]
    go_simp
    refine (fits_any _ _ _).mono ?_
    rintro e w5 ⟨rfl, rfl⟩
    show K _ _
    refine hK.out _ _ hS (fun hS => ?_)
    clear hK K
    try go_frame
    refine wpAnyH_ready (rs := [8]) (by kernel_rfl) (by simp) (AllReadyH.cons (o := ⟨some 11, _, _, _, _, _⟩) rfl (fun K hK => ?_) AllReadyH.nil)
    rw [if_pos (by rfl)]
    go_simp
    refine (fits_any _ _ _).mono ?_
    rintro e w8 ⟨rfl, rfl⟩
    show K _ _
    refine hK.out _ _ hS (fun hS => ?_)
    clear hK K
    try go_frame
    refine held_pure (i := 12) (oi := ⟨some 15, _, _, _, _, _⟩) rfl (by kernel_rfl) (by kernel_rfl) (by kernel_rfl) (fun _ _ _ h => h) (by rfl) (v := ?_) (fun w hSw => ?_) hS (fun hS => ?_)
    rotate_left
    · go_simp; try with_reducible rfl
    try go_frame
    refine held_pure (i := 13) (oi := ⟨some 16, _, _, _, _, _⟩) rfl (by kernel_rfl) (by kernel_rfl) (by kernel_rfl) (fun _ _ _ h => h) (by rfl) (v := ?_) (fun w hSw => ?_) hS (fun hS => ?_)
    rotate_left
    · go_simp; try with_reducible rfl
    try go_frame
    refine held_pure (i := 14) (oi := ⟨some 17, _, _, _, _, _⟩) rfl (by kernel_rfl) (by kernel_rfl) (by kernel_rfl) (fun _ _ _ h => h) (by rfl) (fun w hSw => run_load_int rfl rfl (hAt.below hSw (by omega)).flow) hS (fun hS => ?_)
    try go_frame
    refine held_pure (i := 15) (oi := ⟨some 18, _, _, _, _, _⟩) rfl (by kernel_rfl) (by kernel_rfl) (by kernel_rfl) (fun _ _ _ h => h) (by rfl) (v := ?_) (fun w hSw => ?_) hS (fun hS => ?_)
    rotate_left
    · go_simp; try with_reducible rfl
    try go_frame
    refine held_pure (i := 16) (oi := ⟨some 19, _, _, _, _, _⟩) rfl (by kernel_rfl) (by kernel_rfl) (by kernel_rfl) (fun _ _ _ h => h) (by rfl) (v := ?_) (fun w hSw => ?_) hS (fun hS => ?_)
    rotate_left
    · go_simp; try with_reducible rfl
    try go_frame
    refine wpAnyH_ready (rs := [17]) (by kernel_rfl) (by simp) (AllReadyH.cons (o := ⟨some 20, _, _, _, _, _⟩) rfl (fun K hK => ?_) AllReadyH.nil)
    rw [if_pos (by rfl)]
    go_simp
    refine hK.out _ _ (hS.alloc hS.size _) (fun hS => ?_)
    clear hK K
    try go_frame
    refine wpAnyH_ready (rs := [18]) (by kernel_rfl) (by simp) (AllReadyH.cons (o := ⟨some 21, _, _, _, _, _⟩) rfl (fun K hK => ?_) AllReadyH.nil)
    rw [if_pos (by rfl)]
    go_simp
    refine (all6_new [fitsB q.traffic 1, fitsB q.next 1, fitsB q.hop 1, P] _ 4 _ W (by rfl) (by rfl) (by simp)).mono ?_
    rintro e w18 ⟨rfl, rfl⟩
    show K _ _
    refine hK.out _ _ hS (fun hS => ?_)
    clear hK K
    try go_frame
    refine held_pure (i := 19) (oi := ⟨some 22, _, _, _, _, _⟩) rfl (by kernel_rfl) (by kernel_rfl) (by kernel_rfl) (fun _ _ _ h => h) (by rfl) (v := ?_) (fun w hSw => ?_) hS (fun hS => ?_)
    rotate_left
    · go_simp; try with_reducible rfl
    try go_frame
    refine wpAnyH_done (by kernel_rfl) ?_ _
    clear hP
    by_cases ho : arg6 q
    · have hz2 := hS.size
      have E := HA.out
      rw [show decide (arg6 q) = true from decide_eq_true ho] at E
      rw [E]
      clear E HA
      by_cases s : 65535 < q.dat.length
      · have HE := Lib.hid (show chk6 q = 6 by rw [chk6, if_pos ho, if_pos (by omega)])
        have k10 := (hAt.below hS (by omega)).dat hs hd
        clear ho hAt
        go_wp2_with fail
        go_ret
        exact ⟨ret_int (by rw [HE.out]), hB.trans (hS.mono (by omega))⟩
        
      · have HE := Lib.hid (show chk6 q = 0 by rw [chk6, if_pos ho, if_neg (by omega)])
        have k10 := (hAt.below hS (by omega)).dat hs hd
        clear ho hAt
        go_wp2_with fail
        go_ret
        exact ⟨ret_int (by rw [HE.out]), hB.trans (hS.mono (by omega))⟩
        
    · have E := HA.out
      rw [show decide (arg6 q) = false from decide_eq_false ho] at E
      clear HA
      have hz2 := hS.size
      have HE := Lib.hid (show chk6 q = 1 by rw [chk6, if_neg ho])
      rw [E]
      clear ho E
      go_wp2_with fail
      go_ret
      exact ⟨ret_int (by rw [HE.out]), hB.trans (hS.mono (by omega))⟩
  · have p0' : decide (0 ≤ q.flow) = false := by simpa using p0
    have ho : ¬ arg6 q := fun h => p0 h.2.2.2.2.2.2.1
    have E : allB [fitsB q.traffic 1, fitsB q.next 1, fitsB q.hop 1, false] = false := by simp [allB]
    refine wp_region_held_drew (S := fun w' => Below W.heap.size W w') (by kernel_rfl) (Below.refl _ W).drew (fun hS => ?_)
    refine held_pure (i := 0) (oi := ⟨some 3, _, _, _, _, _⟩) rfl (by kernel_rfl) (by kernel_rfl) (by kernel_rfl) (fun _ _ _ h => h) (by rfl) (v := ?_) (fun w hSw => ?_) hS (fun hS => ?_)
    rotate_left
    · go_simp; try with_reducible rfl
    try go_frame
    refine held_pure (i := 1) (oi := ⟨some 4, _, _, _, _, _⟩) rfl (by kernel_rfl) (by kernel_rfl) (by kernel_rfl) (fun _ _ _ h => h) (by rfl) (fun w hSw => run_load_int rfl rfl (hAt.below hSw (by omega)).traffic) hS (fun hS => ?_)
    try go_frame
    refine held_pure (i := 3) (oi := ⟨some 6, _, _, _, _, _⟩) rfl (by kernel_rfl) (by kernel_rfl) (by kernel_rfl) (fun _ _ _ h => h) (by rfl) (v := ?_) (fun w hSw => ?_) hS (fun hS => ?_)
    rotate_left
    · go_simp; try with_reducible rfl
    try go_frame
    refine held_pure (i := 4) (oi := ⟨some 7, _, _, _, _, _⟩) rfl (by kernel_rfl) (by kernel_rfl) (by kernel_rfl) (fun _ _ _ h => h) (by rfl) (fun w hSw => run_load_int rfl rfl (hAt.below hSw (by omega)).next) hS (fun hS => ?_)
    try go_frame
    refine held_pure (i := 6) (oi := ⟨some 9, _, _, _, _, _⟩) rfl (by kernel_rfl) (by kernel_rfl) (by kernel_rfl) (fun _ _ _ h => h) (by rfl) (v := ?_) (fun w hSw => ?_) hS (fun hS => ?_)
    rotate_left
    · go_simp; try with_reducible rfl
    try go_frame
    refine held_pure (i := 7) (oi := ⟨some 10, _, _, _, _, _⟩) rfl (by kernel_rfl) (by kernel_rfl) (by kernel_rfl) (fun _ _ _ h => h) (by rfl) (fun w hSw => run_load_int rfl rfl (hAt.below hSw (by omega)).hop) hS (fun hS => ?_)
    try go_frame
    refine held_pure (i := 9) (oi := ⟨some 12, _, _, _, _, _⟩) rfl (by kernel_rfl) (by kernel_rfl) (by kernel_rfl) (fun _ _ _ h => h) (by rfl) (v := ?_) (fun w hSw => ?_) hS (fun hS => ?_)
    rotate_left
    · go_simp; try with_reducible rfl
    try go_frame
    refine held_pure (i := 10) (oi := ⟨some 13, _, _, _, _, _⟩) rfl (by kernel_rfl) (by kernel_rfl) (by kernel_rfl) (fun _ _ _ h => h) (by rfl) (fun w hSw => run_load_int rfl rfl (hAt.below hSw (by omega)).flow) hS (fun hS => ?_)
    try go_frame
    refine held_pure (i := 11) (oi := ⟨some 14, _, _, _, _, _⟩) rfl (by kernel_rfl) (by kernel_rfl) (by kernel_rfl) (fun _ _ _ h => h) (by rfl) (v := ?_) (fun w hSw => ?_) hS (fun hS => ?_)
    rotate_left
    · go_simp; try with_reducible rfl
    try go_frame
    refine wpAnyH_ready (rs := [2]) (by kernel_rfl) (by simp) (AllReadyH.cons (o := ⟨some 5, _, _, _, _, _⟩) rfl (fun K hK => ?_) AllReadyH.nil)
    rw [if_pos (by rfl)]
    go_simp
    refine (fits_any _ _ _).mono ?_
    rintro e w2 ⟨rfl, rfl⟩
    show K _ _
    refine hK.out _ _ hS (fun hS => ?_)
    clear hK K
    try go_frame
    refine wpAnyH_ready (rs := [5]) (by kernel_rfl) (by simp) (AllReadyH.cons (o := ⟨some 8, _, _, _, _, _⟩) rfl (fun K hK => ?_) AllReadyH.nil)
    rw [if_pos (by rfl)]
    go_simp
    refine (fits_any _ _ _).mono ?_
    rintro e w5 ⟨rfl, rfl⟩
    show K _ _
    refine hK.out _ _ hS (fun hS => ?_)
    clear hK K
    try go_frame
    refine wpAnyH_ready (rs := [8]) (by kernel_rfl) (by simp) (AllReadyH.cons (o := ⟨some 11, _, _, _, _, _⟩) rfl (fun K hK => ?_) AllReadyH.nil)
    rw [if_pos (by rfl)]
    go_simp
    refine (fits_any _ _ _).mono ?_
    rintro e w8 ⟨rfl, rfl⟩
    show K _ _
    refine hK.out _ _ hS (fun hS => ?_)
    clear hK K
    try go_frame
    refine held_pure (i := 12) (oi := ⟨some 15, _, _, _, _, _⟩) rfl (by kernel_rfl) (by kernel_rfl) (by kernel_rfl) (fun _ _ _ h => h) (by rfl) (v := ?_) (fun w hSw => ?_) hS (fun hS => ?_)
    rotate_left
    · go_simp; try with_reducible rfl
    try go_frame
    refine held_skip (i := 13) (oi := ⟨some 16, _, _, _, _, _⟩) rfl (by kernel_rfl) (by kernel_rfl) (by kernel_rfl) (fun _ _ _ h => h) (by rfl) hS (fun hS => ?_)
    try go_frame
    refine held_skip (i := 14) (oi := ⟨some 17, _, _, _, _, _⟩) rfl (by kernel_rfl) (by kernel_rfl) (by kernel_rfl) (fun _ _ _ h => h) (by rfl) hS (fun hS => ?_)
    try go_frame
    refine held_skip (i := 15) (oi := ⟨some 18, _, _, _, _, _⟩) rfl (by kernel_rfl) (by kernel_rfl) (by kernel_rfl) (fun _ _ _ h => h) (by rfl) hS (fun hS => ?_)
    try go_frame
    refine held_pure (i := 16) (oi := ⟨some 19, _, _, _, _, _⟩) rfl (by kernel_rfl) (by kernel_rfl) (by kernel_rfl) (fun _ _ _ h => h) (by rfl) (v := ?_) (fun w hSw => ?_) hS (fun hS => ?_)
    rotate_left
    · go_simp; try with_reducible rfl
    try go_frame
    refine wpAnyH_ready (rs := [17]) (by kernel_rfl) (by simp) (AllReadyH.cons (o := ⟨some 20, _, _, _, _, _⟩) rfl (fun K hK => ?_) AllReadyH.nil)
    rw [if_pos (by rfl)]
    go_simp
    refine hK.out _ _ (hS.alloc hS.size _) (fun hS => ?_)
    clear hK K
    try go_frame
    refine wpAnyH_ready (rs := [18]) (by kernel_rfl) (by simp) (AllReadyH.cons (o := ⟨some 21, _, _, _, _, _⟩) rfl (fun K hK => ?_) AllReadyH.nil)
    rw [if_pos (by rfl)]
    go_simp
    refine (all6_new [fitsB q.traffic 1, fitsB q.next 1, fitsB q.hop 1, false] _ 4 _ W (by rfl) (by rfl) (by simp)).mono ?_
    rintro e w18 ⟨rfl, rfl⟩
    show K _ _
    refine hK.out _ _ hS (fun hS => ?_)
    clear hK K
    try go_frame
    refine held_pure (i := 19) (oi := ⟨some 22, _, _, _, _, _⟩) rfl (by kernel_rfl) (by kernel_rfl) (by kernel_rfl) (fun _ _ _ h => h) (by rfl) (v := ?_) (fun w hSw => ?_) hS (fun hS => ?_)
    rotate_left
    · go_simp; try with_reducible rfl
    try go_frame
    refine wpAnyH_done (by kernel_rfl) ?_ _
    have hz2 := hS.size
    have HE := Lib.hid (show chk6 q = 1 by rw [chk6, if_neg ho])
    rw [E]
    clear ho E
    go_wp2_with fail
    go_ret
    exact ⟨ret_int (by rw [HE.out]), hB.trans (hS.mono (by omega))⟩
set_option maxRecDepth 100000 in
set_option maxHeartbeats 1000000 in
theorem r6check (hs : q.src.length = 16) (hd : q.dst.length = 16) (hl : q.dat.length ≤ 1000000) : Calls Try.prog 47 #[v6v q A c] w fun e w' => e = .returned (.int .i64 (chk6 q)) ∧ Below w.heap.size w w' := by
  have hB : Below w.heap.size w (w.alloc (.cells (v6a q A c) 45)) := (Below.refl w.heap.size w).alloc (Nat.le_refl _) _
  have hAt := At6.new (q := q) (A := A) (c := c) w
  have hz : w.heap.size < (w.alloc (.cells (v6a q A c) 45)).heap.size := by simp
  unfold v6v
  rw [show (v6l q A c).toArray = v6a q A c from rfl]
  have HO := Lib.hid (arg6_iff q)
  have k0 := hAt.traffic; have k1 := hAt.flow; have k2 := hAt.next; have k3 := hAt.hop; have k6 := hAt.dat hs hd
  go_enter Try.func47, Try.ntmps47
  go_upto_region 1 with fail
  generalize w.alloc (.cells (v6a q A c) 45) = W at *
  by_cases ho : arg6 q
  · have H0 := Lib.hid (HO.out.1 ho).1
    have H1 := Lib.hid (HO.out.1 ho).2.1
    have H2 := Lib.hid (HO.out.1 ho).2.2.1
    have p0 : 0 ≤ q.flow := ho.2.2.2.2.2.2.1
    have p1 : q.flow < 1048576 := ho.2.2.2.2.2.2.2
    by_cases s : 65535 < q.dat.length
    · have HE := Lib.hid (show chk6 q = 6 by rw [chk6, if_pos ho, if_pos (by omega)])
      clear ho HO hAt
      go_wp2_with (go_at_call 46; refine (rfits_any _ _ _).mono ?_; rintro e w' ⟨rfl, rfl⟩; (first | rw [H0.out] | rw [H1.out] | rw [H2.out] | skip))
      go_ret
      exact ⟨ret_int (by rw [HE.out]), hB⟩
      
    · have HE := Lib.hid (show chk6 q = 0 by rw [chk6, if_pos ho, if_neg (by omega)])
      clear ho HO hAt
      go_wp2_with (go_at_call 46; refine (rfits_any _ _ _).mono ?_; rintro e w' ⟨rfl, rfl⟩; (first | rw [H0.out] | rw [H1.out] | rw [H2.out] | skip))
      go_ret
      exact ⟨ret_int (by rw [HE.out]), hB⟩
      
  · have HE := Lib.hid (show chk6 q = 1 by rw [chk6, if_neg ho])
    have hno : ¬ (fitsB q.traffic 1 = true ∧ fitsB q.next 1 = true ∧ fitsB q.hop 1 = true ∧ flowB q = true) := fun h => ho (HO.out.2 h)
    clear ho HO hAt
    cases h0 : fitsB q.traffic 1
    · have H0 := Lib.hid h0; have H1 := H0; have H2 := H0
      clear hno h0
      go_wp2_with (go_at_call 46; refine (rfits_any _ _ _).mono ?_; rintro e w' ⟨rfl, rfl⟩; (first | rw [H0.out] | rw [H1.out] | rw [H2.out] | skip))
      go_ret
      exact ⟨ret_int (by rw [HE.out]), hB⟩
      
    · have H0 := Lib.hid h0
      rw [h0] at hno; clear h0
      cases h1 : fitsB q.next 1
      · have H1 := Lib.hid h1; have H2 := H1
        clear hno h1
        go_wp2_with (go_at_call 46; refine (rfits_any _ _ _).mono ?_; rintro e w' ⟨rfl, rfl⟩; (first | rw [H0.out] | rw [H1.out] | rw [H2.out] | skip))
        go_ret
        exact ⟨ret_int (by rw [HE.out]), hB⟩
        
      · have H1 := Lib.hid h1
        rw [h1] at hno; clear h1
        cases h2 : fitsB q.hop 1
        · have H2 := Lib.hid h2
          clear hno h2
          go_wp2_with (go_at_call 46; refine (rfits_any _ _ _).mono ?_; rintro e w' ⟨rfl, rfl⟩; (first | rw [H0.out] | rw [H1.out] | rw [H2.out] | skip))
          go_ret
          exact ⟨ret_int (by rw [HE.out]), hB⟩
          
        · have H2 := Lib.hid h2
          rw [h2] at hno; clear h2
          by_cases p0 : 0 ≤ q.flow
          · have p0' : decide (q.flow < 0) = false := by simp; omega
            have p1 : 1048576 ≤ q.flow := by
              rcases Int.lt_or_le q.flow 1048576 with h | h
              · exact absurd ⟨rfl, rfl, rfl, by simp [flowB, p0, h]⟩ hno
              · exact h
            have p1' : decide (1048576 ≤ q.flow) = true := by simpa using p1
            clear hno
            go_wp2_with (go_at_call 46; refine (rfits_any _ _ _).mono ?_; rintro e w' ⟨rfl, rfl⟩; (first | rw [H0.out] | rw [H1.out] | rw [H2.out] | skip))
            go_ret
            exact ⟨ret_int (by rw [HE.out]), hB⟩
            
          · have p0' : decide (q.flow < 0) = true := by simp; omega
            clear hno
            go_wp2_with (go_at_call 46; refine (rfits_any _ _ _).mono ?_; rintro e w' ⟨rfl, rfl⟩; (first | rw [H0.out] | rw [H1.out] | rw [H2.out] | skip))
            go_ret
            exact ⟨ret_int (by rw [HE.out]), hB⟩
            
end
end Go.Proofs.Ytcebobcakiljhaa

/-
  Contracts of v4's Head, Whole, Size, bit, flags, numbers. Conditions are each theorem's own.
-/
namespace Go.Proofs.Ytcebobcakiljhaa
open Go.RowKit

/-- The two flags, as numbers. -/
def flg4 (q : P4) : Int := bit q.df 16384 + bit q.mf 8192
def nums4 (q : P4) : List Int := [q.tos, q.id, q.off, q.ttl, q.proto, q.src, q.dst, flg4 q]
theorem c4bit (b : Bool) (n : Int) (w : World) : Calls Try.prog 70 #[.bool b, .int .i64 n] w fun e w' => e = .returned (.int .i64 (bit b n)) ∧ w = w' := by
  cases b
  · go_enter Try.func70, Try.ntmps70
    go_wp2
    go_ret
    exact ⟨rfl, rfl⟩
  · go_enter Try.func70, Try.ntmps70
    go_wp2
    go_ret
    exact ⟨rfl, rfl⟩
section
variable (q : P4) (A : Option Addr) (c : Nat) (A' : Option Addr) (c' : Nat) (w : World)
theorem c4head (ho : q.opt.length ≤ 1000000) : Calls Try.prog 39 #[v4v q A c A' c'] w fun e w' => e = .returned (.int .i64 (head4 q)) ∧ Below w.heap.size w w' := by
  have hB : ∀ o, Below w.heap.size w (w.alloc o) := fun o => (Below.refl w.heap.size w).alloc (Nat.le_refl _) o
  unfold v4v head4
  go_enter Try.func39, Try.ntmps39
  go_wp2_with fail
  go_ret
  exact ⟨rfl, hB _⟩
set_option maxHeartbeats 1000000 in
theorem c4size (ho : q.opt.length ≤ 1000000) (hd : q.dat.length ≤ 1000000) : Calls Try.prog 18 #[v4v q A c A' c'] w fun e w' => e = .returned (.int .i64 (size4 q)) ∧ Below w.heap.size w w' := by
  have hB : Below w.heap.size w (w.alloc (.cells (v4a q A c A' c') 24)) := (Below.refl w.heap.size w).alloc (Nat.le_refl _) _
  have hAt := At4.new (q := q) (A := A) (c := c) (A' := A') (c' := c') w
  have hz : w.heap.size < (w.alloc (.cells (v4a q A c A' c') 24)).heap.size := by simp
  unfold v4v
  rw [show #[Value.int .i64 q.tos, .int .i64 q.id, .int .i64 q.off, .int .i64 q.ttl, .int .i64 q.proto, .int .i64 q.src, .int .i64 q.dst, .bool q.df, .bool q.mf, .slice A q.opt.length c, .slice A' q.dat.length c'] = v4a q A c A' c' from rfl]
  have HZ := Lib.hid (show size4 q = head4 q + (q.dat.length : Int) from rfl)
  have hh : head4 q = 20 + (q.opt.length : Int) := rfl
  have hhb : 0 ≤ head4 q ∧ head4 q ≤ 1000020 := by omega
  clear hh
  have HW := Lib.hid (IntWalk.i64_in (head4 q + (q.dat.length : Int)) (by omega))
  go_enter Try.func18, Try.ntmps18
  go_wp2_with fail
  generalize w.alloc (.cells (v4a q A c A' c') 24) = W at *
  refine wp_region_held_drew (S := fun w' => Below W.heap.size W w') (by kernel_rfl) (Below.refl _ W).drew (fun hS => ?_)
  refine held_pure (i := 0) (oi := ⟨some 3, _, _, _, _, _⟩) rfl (by kernel_rfl) (by kernel_rfl) (by kernel_rfl) (fun _ _ _ h => h) (by rfl) (fun w hSw => run_load_v4 rfl rfl (hAt.below hSw (by omega)) rfl) hS (fun hS => ?_)
  try go_frame
  refine held_pure (i := 2) (oi := ⟨some 5, _, _, _, _, _⟩) rfl (by kernel_rfl) (by kernel_rfl) (by kernel_rfl) (fun _ _ _ h => h) (by rfl) (v := ?_) (fun w hSw => ?_) hS (fun hS => ?_)
  rotate_left
  · go_simp; try with_reducible rfl
  try go_frame
  refine held_pure (i := 3) (oi := ⟨some 6, _, _, _, _, _⟩) rfl (by kernel_rfl) (by kernel_rfl) (by kernel_rfl) (fun _ _ _ h => h) (by rfl) (fun w hSw => run_load_sl rfl rfl ((hAt.below hSw (by omega)).dat)) hS (fun hS => ?_)
  try go_frame
  refine held_pure (i := 4) (oi := ⟨some 7, _, _, _, _, _⟩) rfl (by kernel_rfl) (by kernel_rfl) (by kernel_rfl) (fun _ _ _ h => h) (by rfl) (v := ?_) (fun w hSw => ?_) hS (fun hS => ?_)
  rotate_left
  · go_simp; try with_reducible rfl
  try go_frame
  refine wpAnyH_ready (rs := [1]) (by kernel_rfl) (by simp) (AllReadyH.cons (o := ⟨some 4, _, _, _, _, _⟩) rfl (fun K hK => ?_) AllReadyH.nil)
  rw [if_pos (by rfl)]
  go_simp
  refine (c4head q A c A' c' _ ho).mono ?_
  rintro e w1 ⟨rfl, x1⟩
  show K _ _
  refine hK.out _ _ (below_step hS x1) (fun hS => ?_)
  clear hK K
  try go_frame
  refine held_pure (i := 5) (oi := ⟨some 8, _, _, _, _, _⟩) rfl (by kernel_rfl) (by kernel_rfl) (by kernel_rfl) (fun _ _ _ h => h) (by rfl) (v := ?_) (fun w hSw => ?_) hS (fun hS => ?_)
  rotate_left
  · go_simp; try with_reducible rfl
  try go_frame
  refine held_pure (i := 6) (oi := ⟨some 2, _, _, _, _, _⟩) rfl (by kernel_rfl) (by kernel_rfl) (by kernel_rfl) (fun _ _ _ h => h) (by rfl) (v := ?_) (fun w hSw => ?_) hS (fun hS => ?_)
  rotate_left
  · go_simp; try with_reducible rfl
  try go_frame
  refine wpAnyH_done (by kernel_rfl) ?_ _
  go_wp2_with fail
  go_ret
  exact ⟨ret_int (by rw [HZ.out]; exact HW.out), hB.trans (hS.mono (by omega))⟩
set_option maxHeartbeats 1000000 in
theorem c4flags : Calls Try.prog 60 #[v4v q A c A' c'] w fun e w' => e = .returned (.int .i64 (flg4 q)) ∧ Below w.heap.size w w' := by
  have hB : Below w.heap.size w (w.alloc (.cells (v4a q A c A' c') 24)) := (Below.refl w.heap.size w).alloc (Nat.le_refl _) _
  have hAt := At4.new (q := q) (A := A) (c := c) (A' := A') (c' := c') w
  have hz : w.heap.size < (w.alloc (.cells (v4a q A c A' c') 24)).heap.size := by simp
  unfold v4v
  rw [show #[Value.int .i64 q.tos, .int .i64 q.id, .int .i64 q.off, .int .i64 q.ttl, .int .i64 q.proto, .int .i64 q.src, .int .i64 q.dst, .bool q.df, .bool q.mf, .slice A q.opt.length c, .slice A' q.dat.length c'] = v4a q A c A' c' from rfl]
  have HF := Lib.hid (show bits .or .i64 (bit q.df 16384) (bit q.mf 8192) = flg4 q by unfold flg4; cases q.df <;> cases q.mf <;> decide)
  go_enter Try.func60, Try.ntmps60
  go_wp2_with fail
  generalize w.alloc (.cells (v4a q A c A' c') 24) = W at *
  refine wp_region_held_drew (S := fun w' => Below W.heap.size W w') (by kernel_rfl) (Below.refl _ W).drew (fun hS => ?_)
  refine held_pure (i := 0) (oi := ⟨some 3, _, _, _, _, _⟩) rfl (by kernel_rfl) (by kernel_rfl) (by kernel_rfl) (fun _ _ _ h => h) (by rfl) (v := ?_) (fun w hSw => ?_) hS (fun hS => ?_)
  rotate_left
  · go_simp; try with_reducible rfl
  try go_frame
  refine held_pure (i := 1) (oi := ⟨some 4, _, _, _, _, _⟩) rfl (by kernel_rfl) (by kernel_rfl) (by kernel_rfl) (fun _ _ _ h => h) (by rfl) (fun w hSw => run_load_bool rfl rfl ((hAt.below hSw (by omega)).df)) hS (fun hS => ?_)
  try go_frame
  refine held_pure (i := 3) (oi := ⟨some 6, _, _, _, _, _⟩) rfl (by kernel_rfl) (by kernel_rfl) (by kernel_rfl) (fun _ _ _ h => h) (by rfl) (v := ?_) (fun w hSw => ?_) hS (fun hS => ?_)
  rotate_left
  · go_simp; try with_reducible rfl
  try go_frame
  refine held_pure (i := 4) (oi := ⟨some 7, _, _, _, _, _⟩) rfl (by kernel_rfl) (by kernel_rfl) (by kernel_rfl) (fun _ _ _ h => h) (by rfl) (fun w hSw => run_load_bool rfl rfl ((hAt.below hSw (by omega)).mf)) hS (fun hS => ?_)
  try go_frame
  refine wpAnyH_ready (rs := [2]) (by kernel_rfl) (by simp) (AllReadyH.cons (o := ⟨some 5, _, _, _, _, _⟩) rfl (fun K hK => ?_) AllReadyH.nil)
  rw [if_pos (by rfl)]
  go_simp
  refine (c4bit _ _ _).mono ?_
  rintro e w2 ⟨rfl, rfl⟩
  show K _ _
  refine hK.out _ _ hS (fun hS => ?_)
  clear hK K
  try go_frame
  refine wpAnyH_ready (rs := [5]) (by kernel_rfl) (by simp) (AllReadyH.cons (o := ⟨some 8, _, _, _, _, _⟩) rfl (fun K hK => ?_) AllReadyH.nil)
  rw [if_pos (by rfl)]
  go_simp
  refine (c4bit _ _ _).mono ?_
  rintro e w5 ⟨rfl, rfl⟩
  show K _ _
  refine hK.out _ _ hS (fun hS => ?_)
  clear hK K
  try go_frame
  refine held_pure (i := 6) (oi := ⟨some 9, _, _, _, _, _⟩) rfl (by kernel_rfl) (by kernel_rfl) (by kernel_rfl) (fun _ _ _ h => h) (by rfl) (v := .int .i64 (flg4 q)) (fun w hSw => by go_simp; exact HF.out) hS (fun hS => ?_)
  try go_frame
  refine held_pure (i := 7) (oi := ⟨some 2, _, _, _, _, _⟩) rfl (by kernel_rfl) (by kernel_rfl) (by kernel_rfl) (fun _ _ _ h => h) (by rfl) (v := ?_) (fun w hSw => ?_) hS (fun hS => ?_)
  rotate_left
  · go_simp; try with_reducible rfl
  try go_frame
  refine wpAnyH_done (by kernel_rfl) ?_ _
  go_wp2_with fail
  go_ret
  exact ⟨rfl, hB.trans (hS.mono (by omega))⟩
set_option maxRecDepth 100000 in
set_option maxHeartbeats 1000000 in
theorem c4numbers : Calls Try.prog 43 #[v4v q A c A' c'] w fun e w' => e = .returned (.agg (ivs (nums4 q))) ∧ Below w.heap.size w w' := by
  have hB : Below w.heap.size w (w.alloc (.cells (v4a q A c A' c') 24)) := (Below.refl w.heap.size w).alloc (Nat.le_refl _) _
  have hAt := At4.new (q := q) (A := A) (c := c) (A' := A') (c' := c') w
  have hz : w.heap.size < (w.alloc (.cells (v4a q A c A' c') 24)).heap.size := by simp
  unfold v4v
  rw [show #[Value.int .i64 q.tos, .int .i64 q.id, .int .i64 q.off, .int .i64 q.ttl, .int .i64 q.proto, .int .i64 q.src, .int .i64 q.dst, .bool q.df, .bool q.mf, .slice A q.opt.length c, .slice A' q.dat.length c'] = v4a q A c A' c' from rfl]
  have hOR0 := OwnR.new (w.alloc (.cells (v4a q A c A' c') 24)) (ivs [0, 0, 0, 0, 0, 0, 0, 0]) 69
  go_enter Try.func43, Try.ntmps43
  go_upto_region 1 with fail
  have hOR : OwnR (w.alloc (.cells (v4a q A c A' c') 24)) 69 8 ((w.alloc (.cells (v4a q A c A' c') 24)).alloc (.cells #[.int .i64 0, .int .i64 0, .int .i64 0, .int .i64 0, .int .i64 0, .int .i64 0, .int .i64 0, .int .i64 0] 69)) := hOR0
  clear hOR0
  refine wp_region_held_drew (S := OwnR (w.alloc (.cells (v4a q A c A' c') 24)) 69 8) (by kernel_rfl) hOR.drew (fun hS => ?_)
  refine held_pure (i := 0) (oi := ⟨some 3, _, _, _, _, _⟩) rfl (by kernel_rfl) (by kernel_rfl) (by kernel_rfl) (fun _ _ _ h => h) (by rfl) (v := ?_) (fun w hSw => ?_) hS (fun hS => ?_)
  rotate_left
  · go_simp; try with_reducible rfl
  try go_frame
  refine held_pure (i := 1) (oi := ⟨some 4, _, _, _, _, _⟩) rfl (by kernel_rfl) (by kernel_rfl) (by kernel_rfl) (fun _ _ _ h => h) (by rfl) (fun w hSw => run_load_int rfl rfl ((hAt.below hSw.b (by simp)).tos)) hS (fun hS => ?_)
  try go_frame
  refine held_pure (i := 2) (oi := ⟨some 5, _, _, _, _, _⟩) rfl (by kernel_rfl) (by kernel_rfl) (by kernel_rfl) (fun _ _ _ h => h) (by rfl) (v := ?_) (fun w hSw => ?_) hS (fun hS => ?_)
  rotate_left
  · go_simp; try with_reducible rfl
  try go_frame
  refine held_pure (i := 3) (oi := ⟨some 6, _, _, _, _, _⟩) rfl (by kernel_rfl) (by kernel_rfl) (by kernel_rfl) (fun _ _ _ h => h) (by rfl) (fun w hSw => run_load_int rfl rfl ((hAt.below hSw.b (by simp)).id)) hS (fun hS => ?_)
  try go_frame
  refine held_pure (i := 4) (oi := ⟨some 7, _, _, _, _, _⟩) rfl (by kernel_rfl) (by kernel_rfl) (by kernel_rfl) (fun _ _ _ h => h) (by rfl) (v := ?_) (fun w hSw => ?_) hS (fun hS => ?_)
  rotate_left
  · go_simp; try with_reducible rfl
  try go_frame
  refine held_pure (i := 5) (oi := ⟨some 8, _, _, _, _, _⟩) rfl (by kernel_rfl) (by kernel_rfl) (by kernel_rfl) (fun _ _ _ h => h) (by rfl) (fun w hSw => run_load_int rfl rfl ((hAt.below hSw.b (by simp)).off)) hS (fun hS => ?_)
  try go_frame
  refine held_pure (i := 6) (oi := ⟨some 9, _, _, _, _, _⟩) rfl (by kernel_rfl) (by kernel_rfl) (by kernel_rfl) (fun _ _ _ h => h) (by rfl) (v := ?_) (fun w hSw => ?_) hS (fun hS => ?_)
  rotate_left
  · go_simp; try with_reducible rfl
  try go_frame
  refine held_pure (i := 7) (oi := ⟨some 10, _, _, _, _, _⟩) rfl (by kernel_rfl) (by kernel_rfl) (by kernel_rfl) (fun _ _ _ h => h) (by rfl) (fun w hSw => run_load_int rfl rfl ((hAt.below hSw.b (by simp)).ttl)) hS (fun hS => ?_)
  try go_frame
  refine held_pure (i := 8) (oi := ⟨some 11, _, _, _, _, _⟩) rfl (by kernel_rfl) (by kernel_rfl) (by kernel_rfl) (fun _ _ _ h => h) (by rfl) (v := ?_) (fun w hSw => ?_) hS (fun hS => ?_)
  rotate_left
  · go_simp; try with_reducible rfl
  try go_frame
  refine held_pure (i := 9) (oi := ⟨some 12, _, _, _, _, _⟩) rfl (by kernel_rfl) (by kernel_rfl) (by kernel_rfl) (fun _ _ _ h => h) (by rfl) (fun w hSw => run_load_int rfl rfl ((hAt.below hSw.b (by simp)).proto)) hS (fun hS => ?_)
  try go_frame
  refine held_pure (i := 10) (oi := ⟨some 13, _, _, _, _, _⟩) rfl (by kernel_rfl) (by kernel_rfl) (by kernel_rfl) (fun _ _ _ h => h) (by rfl) (v := ?_) (fun w hSw => ?_) hS (fun hS => ?_)
  rotate_left
  · go_simp; try with_reducible rfl
  try go_frame
  refine held_pure (i := 11) (oi := ⟨some 14, _, _, _, _, _⟩) rfl (by kernel_rfl) (by kernel_rfl) (by kernel_rfl) (fun _ _ _ h => h) (by rfl) (fun w hSw => run_load_int rfl rfl ((hAt.below hSw.b (by simp)).src)) hS (fun hS => ?_)
  try go_frame
  refine held_pure (i := 12) (oi := ⟨some 15, _, _, _, _, _⟩) rfl (by kernel_rfl) (by kernel_rfl) (by kernel_rfl) (fun _ _ _ h => h) (by rfl) (v := ?_) (fun w hSw => ?_) hS (fun hS => ?_)
  rotate_left
  · go_simp; try with_reducible rfl
  try go_frame
  refine held_pure (i := 13) (oi := ⟨some 16, _, _, _, _, _⟩) rfl (by kernel_rfl) (by kernel_rfl) (by kernel_rfl) (fun _ _ _ h => h) (by rfl) (fun w hSw => run_load_int rfl rfl ((hAt.below hSw.b (by simp)).dst)) hS (fun hS => ?_)
  try go_frame
  refine held_pure (i := 14) (oi := ⟨some 17, _, _, _, _, _⟩) rfl (by kernel_rfl) (by kernel_rfl) (by kernel_rfl) (fun _ _ _ h => h) (by rfl) (fun w hSw => run_load_v4 rfl rfl (hAt.below hSw.b (by simp)) rfl) hS (fun hS => ?_)
  try go_frame
  refine wpAnyH_ready (rs := [15]) (by kernel_rfl) (by simp) (AllReadyH.cons (o := ⟨some 18, _, _, _, _, _⟩) rfl (fun K hK => ?_) AllReadyH.nil)
  rw [if_pos (by rfl)]
  go_simp
  refine (c4flags q A c A' c' _).mono ?_
  rintro e w15 ⟨rfl, x15⟩
  show K _ _
  refine hK.out _ _ (hS.step x15) (fun hS => ?_)
  clear hK K
  try go_frame
  refine held_pure (i := 16) (oi := ⟨some 19, _, _, _, _, _⟩) rfl (by kernel_rfl) (by kernel_rfl) (by kernel_rfl) (fun _ _ _ h => h) (by rfl) (v := ?_) (fun w hSw => ?_) hS (fun hS => ?_)
  rotate_left
  · go_simp; try with_reducible rfl
  try go_frame
  refine wpAnyH_ready (rs := [17]) (by kernel_rfl) (by simp) (AllReadyH.cons (o := ⟨none, _, _, _, _, _⟩) rfl (fun K hK => ?_) AllReadyH.nil)
  rw [if_pos (by rfl)]
  obtain ⟨old, ho8, hgo⟩ := hS.2
  have hz1 : (w.alloc (.cells (v4a q A c A' c') 24)).heap.size = w.heap.size + 1 := by simp
  have hrow := hS.row (ivs (nums4 q)) rfl
  rw [hz1] at hgo hrow
  clear hz1
  refine wp_store_row 69 _ _ rfl _ (ivs (nums4 q)) rfl rfl 69 old hgo (by kernel_rfl) ho8 (by simp [ivs, nums4, Value.oneCell']) ?_
  have hgz := setRow_heap _ _ _ (ivs (nums4 q)) _ _ hgo
  refine hK.out _ _ hrow (fun hS => ?_)
  clear hK K
  try go_frame
  refine wpAnyH_done (by kernel_rfl) ?_ _
  go_wp2_with fail
  exact bodyPost_ret (results_cell_row rfl _ _ _ 69 (ivs (nums4 q)) (0, 0) _ (by simp) hgz Try.underlying69 rfl (by kernel_rfl)) rfl ⟨rfl, hB.trans (hS.b.mono (by simp))⟩
end
end Go.Proofs.Ytcebobcakiljhaa
