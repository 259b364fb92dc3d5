/-
  Contracts and lemmas on which the proofs of this seat stand (several texts in one). Conditions are each theorem's own.
-/
import Derived.Test.YtobkiffiapjhgaaMa1
import Derived.ChangeKeysEq
import Derived.Deep.WholeRow
import Derived.Test.YtobkiffiapjhgaaMa4
import Derived.Deep.Cut
import Derived.Deep.CutRange
import Derived.Laws.CopyOwn
import Derived.Test.YtobkiffiapjhgaaMa3

/-
  Contracts of the document's plain answers of layer 4: Less, Host, Of. Conditions are each theorem's own.
-/
namespace Go.Proofs.Ytobkiffiapjhgaa
open Go.RowKit

theorem items_eq (a b : List UInt8) (d : Nat) (w : World) : ∀ is : List Nat, (∀ i ∈ is, i < a.length ∧ i < b.length) →
    (Op.eqItems (d + 1) 5 1 (cel a) (cel b) is).run Try.prog w = .ok (decide (∀ i ∈ is, byt a i = byt b i)) w
  | [], _ => by simp [Op.eqItems]
  | i :: is, h => by
    have hp : Try.prog.plainKey 5 = true := by kernel_rfl
    obtain ⟨h1, h2⟩ := h i (by simp)
    have p1 := run_part_plain (P := Try.prog) w hp (off := i * 1) (by rw [Nat.mul_one]; exact cel_get a h1)
    have p2 := run_part_plain (P := Try.prog) w hp (off := i * 1) (by rw [Nat.mul_one]; exact cel_get b h2)
    have p3 := run_equalIn_int w d 5 .u8 .u8 (byt a i) (byt b i) Try.underlying5
    have ih := items_eq a b d w is (fun j hj => h j (by simp [hj]))
    simp only [Op.eqItems, Sem.run_bind, p1, p2, p3, Result.andThen_ok]
    by_cases he : byt a i = byt b i
    · simp [he, ih]
    · simp [he]
theorem same_bytes {a b : List UInt8} (ha : a.length = 16) (hb : b.length = 16) : (∀ i ∈ List.range 16, byt a i = byt b i) ↔ a = b := by
  constructor
  · intro h
    refine List.ext_getElem (by omega) fun i h1 h2 => ?_
    exact (byt_eq h1 h2).1 (h i (by simp; omega))
  · rintro rfl i _; rfl
set_option maxRecDepth 100000 in
theorem six_eq (a b : List UInt8) (ha : a.length = 16) (hb : b.length = 16) (w : World) :
    (Op.equalIn 10000 41 (.agg (cel a)) (.agg (cel b))).run Try.prog w = .ok (decide (a = b)) w := by
  have hi : ∃ i, Try.prog.info? 5 = some i := Option.isSome_iff_exists.1 (by kernel_rfl)
  obtain ⟨i, hi⟩ := hi
  have hc : Try.prog.cellsOf 5 = 1 := by kernel_rfl
  rw [show (10000 : Nat) = 9998 + 1 + 1 from rfl, run_equalIn_array w 9999 (cel a) (cel b) Try.underlying41 hi, hc, items_eq a b 9998 w _ (by simp; omega)]
  congr 1
  rw [decide_eq_decide]
  exact same_bytes ha hb

theorem six_nul (a : List UInt8) (ha : a.length = 16) (w : World) :
    (Op.equalIn 10000 41 (.agg (cel a)) (.agg #[.int .u8 0, .int .u8 0, .int .u8 0, .int .u8 0, .int .u8 0, .int .u8 0, .int .u8 0, .int .u8 0, .int .u8 0, .int .u8 0, .int .u8 0, .int .u8 0, .int .u8 0, .int .u8 0, .int .u8 0, .int .u8 0])).run Try.prog w = .ok (decide (a = nul)) w := six_eq a nul ha rfl w
/-- A whole address is read out of a block of its own. -/
theorem six_load {ops : Array Oper} {rest : List Oper} {d : Tmp} {x : Operand} {ty : TypeId} {pos : String} {af : Array Edge} {a : Act} {w : World} {Q : Exit → Act → World → Prop}
    {g : Nat} {t : TypeId} {cs : List UInt8} {fr : Nat × Nat} (hx : a.eval x = .pointer (some ⟨g, 0, none⟩)) (hg : w.heap[g]? = some (.cells (cel cs) t fr)) (hl : cs.length = 16)
    (h : wpList Try.prog ops Q rest (a.put (some d) (.agg (cel cs))) w) : wpList Try.prog ops Q (⟨some d, .load 41 x, ty, pos, af, none⟩ :: rest) a w :=
  wpList_load_row rfl 41 x rfl g hx t (cel cs) fr _ hg Try.underlying41 rfl (by rw [cel_size, hl]; kernel_rfl) h
/-- A whole address is stored into a block of its own. -/
theorem six_store {ops : Array Oper} {rest : List Oper} {x y : Operand} {ty : TypeId} {pos : String} {af : Array Edge} {a : Act} {w : World} {Q : Exit → Act → World → Prop}
    {g : Nat} {t : TypeId} {cs : List UInt8} {old : Array Value} (hx : a.eval x = .pointer (some ⟨g, 0, none⟩)) (hy : a.eval y = .agg (cel cs)) (hg : w.heap[g]? = some (.cells old t (0, 0))) (ho : old.size = 16) (hl : cs.length = 16)
    (h : wpList Try.prog ops Q rest (a.put none undef) (w.setRow g (cel cs))) : wpList Try.prog ops Q (⟨none, .store 41 x y, ty, pos, af, none⟩ :: rest) a w :=
  wpList_plain rfl fun _ hK => wp_store_row 41 x y rfl g (cel cs) hx hy t old hg (by rw [cel_size, hl]; kernel_rfl) (by rw [ho, cel_size, hl])
    (Array.all_eq_true_iff_forall_mem.2 fun v hv => row_one cs v (by simpa [cel] using hv)) (hK _ _ h)
/-- A whole address is stored into the block that was made last. -/
theorem six_store_new {ops : Array Oper} {rest : List Oper} {x y : Operand} {ty : TypeId} {pos : String} {af : Array Edge} {a : Act} {w : World} {Q : Exit → Act → World → Prop}
    {t : TypeId} {cs : List UInt8} {old : Array Value} (hx : a.eval x = .pointer (some ⟨w.heap.size, 0, none⟩)) (hy : a.eval y = .agg (cel cs)) (ho : old.size = 16) (hl : cs.length = 16)
    (h : wpList Try.prog ops Q rest (a.put none undef) (w.alloc (.cells (cel cs) t))) : wpList Try.prog ops Q (⟨none, .store 41 x y, ty, pos, af, none⟩ :: rest) a (w.alloc (.cells old t)) :=
  six_store hx hy (World.alloc_heap_new w _) ho hl (by rw [World.setRow_alloc_new]; exact h)
/-- One result, an address in a block of its own. -/
theorem six_result {fn : Func} {p : Tmp} {tmps : Array Value} {w : World} {g : Nat} {t : TypeId} {cs : List UInt8} {fr : Nat × Nat} (h : fn.results = #[.cell p 41])
    (hp : tmps.getD p undef = .pointer (some ⟨g, 0, none⟩)) (hg : w.heap[g]? = some (.cells (cel cs) t fr)) (hl : cs.length = 16) : (results fn tmps).run Try.prog w = .ok (.agg (cel cs)) w :=
  results_cell_row h tmps w g t (cel cs) fr _ hp hg Try.underlying41 rfl (by rw [cel_size, hl]; kernel_rfl)
/-- Two results: an address in a block of its own, and a slot. -/
theorem six_result2 {fn : Func} {p q : Tmp} {tmps : Array Value} {w : World} {g : Nat} {t : TypeId} {cs : List UInt8} {fr : Nat × Nat} (h : fn.results = #[.cell p 41, .tmp q])
    (hp : tmps.getD p undef = .pointer (some ⟨g, 0, none⟩)) (hg : w.heap[g]? = some (.cells (cel cs) t fr)) (hl : cs.length = 16) :
    (results fn tmps).run Try.prog w = .ok (.tuple #[.agg (cel cs), tmps.getD q undef]) w := by
  have hp' : tmps[p]?.getD undef = .pointer (some ⟨g, 0, none⟩) := by simpa using hp
  have hr := run_loadVar_row (P := Try.prog) w g t 41 (cel cs) fr _ hg Try.underlying41 rfl (by rw [cel_size, hl]; kernel_rfl)
  simp [results, h, hp', asAddr, hr]
end Go.Proofs.Ytobkiffiapjhgaa

/-
  Packets of IPv6 in a block of their own; laws for loads out of it. Conditions are each theorem's own.
-/
namespace Go.Proofs.Ytobkiffiapjhgaa
open Go.RowKit

def v6a (q : P6) (A : Option Addr) (c : Nat) : Array Value := (v6l q A c).toArray
def At6 (W : World) (g : Nat) (q : P6) (A : Option Addr) (c : Nat) : Prop := W.rangeAt g 0 (v6l q A c)
section
variable {W : World} {g : Nat} {q : P6} {A : Option Addr} {c : Nat}
theorem At6.below {w : World} {B : Nat} (h : At6 W g q A c) (hb : Below B W w) (hg : g < B) : At6 w g q A c := range_below h hg hb
theorem At6.traffic (h : At6 W g q A c) : W.cell? ⟨g, 0, none⟩ = some (.int .i64 q.traffic) := h 0 _ rfl
theorem At6.flow (h : At6 W g q A c) : W.cell? ⟨g, 1, none⟩ = some (.int .i64 q.flow) := h 1 _ rfl
theorem At6.next (h : At6 W g q A c) : W.cell? ⟨g, 2, none⟩ = some (.int .i64 q.next) := h 2 _ rfl
theorem At6.hop (h : At6 W g q A c) : W.cell? ⟨g, 3, none⟩ = some (.int .i64 q.hop) := h 3 _ rfl
theorem v6l_src (j : Nat) (v : Value) (hj : (row q.src)[j]? = some v) : (v6l q A c)[4 + j]? = some v := by
  have hl : j < (row q.src).length := (List.getElem?_eq_some_iff.1 hj).1
  rw [v6l, List.append_assoc, List.append_assoc, List.getElem?_append_right (by simp)]
  rw [show 4 + j - [Value.int .i64 q.traffic, .int .i64 q.flow, .int .i64 q.next, .int .i64 q.hop].length = j from by simp]
  rw [List.getElem?_append_left hl]; exact hj
theorem v6l_dst (hs : q.src.length = 16) (j : Nat) (v : Value) (hj : (row q.dst)[j]? = some v) : (v6l q A c)[20 + j]? = some v := by
  have hl : j < (row q.dst).length := (List.getElem?_eq_some_iff.1 hj).1
  have e : ([Value.int .i64 q.traffic, .int .i64 q.flow, .int .i64 q.next, .int .i64 q.hop] ++ row q.src).length = 20 := by simp [row_length, hs]
  rw [v6l, List.append_assoc, List.getElem?_append_right (by rw [e]; omega), e, show 20 + j - 20 = j from by omega, List.getElem?_append_left hl]; exact hj
theorem v6l_dat (hs : q.src.length = 16) (hd : q.dst.length = 16) : (v6l q A c)[36]? = some (.slice A q.dat.length c) := by
  have e : ([Value.int .i64 q.traffic, .int .i64 q.flow, .int .i64 q.next, .int .i64 q.hop] ++ row q.src ++ row q.dst).length = 36 := by simp [row_length, hs, hd]
  rw [v6l, List.getElem?_append_right (by rw [e]; omega), e]; rfl
theorem v6l_len (hs : q.src.length = 16) (hd : q.dst.length = 16) : (v6l q A c).length = 37 := by simp [v6l, row_length, hs, hd]
theorem At6.src (h : At6 W g q A c) : W.rangeAt g 4 (row q.src) := fun j v hj => by
  have := h (4 + j) v (v6l_src j v hj); rwa [Nat.zero_add] at this
theorem At6.dst (h : At6 W g q A c) (hs : q.src.length = 16) : W.rangeAt g 20 (row q.dst) := fun j v hj => by
  have := h (20 + j) v (v6l_dst hs j v hj); rwa [Nat.zero_add] at this
theorem At6.dat (h : At6 W g q A c) (hs : q.src.length = 16) (hd : q.dst.length = 16) : W.cell? ⟨g, 36, none⟩ = some (.slice A q.dat.length c) := h 36 _ (v6l_dat hs hd)
end
theorem run_load_six {o : Oper} {a : Act} {w : World} {x : Operand} {g i : Nat} {cs : List UInt8} (ho : o.op = .load 41 x) (hx : a.eval x = .pointer (some ⟨g, i, none⟩)) (hr : w.rangeAt g i (row cs)) (hl : cs.length = 16) :
    (execOp a.eval o).run Try.prog w = .ok (.value (.agg (cel cs))) w := by
  have h := run_loadVar_mid (P := Try.prog) w g i 41 (row cs) _ hr Try.underlying41 rfl (by rw [row_length, hl]; kernel_rfl)
  unfold execOp
  simp only [ho, hx, Instr.loadAt, Instr.sureAddr, Sem.run_bind, Sem.run_pure, Result.andThen_ok, h, cel]
/-- An operation that yields a value and is wanted. -/
theorem wpList_valg {P : Program} {ops : Array Oper} {rest : List Oper} {o : Oper} {a : Act} {w : World} {Q : Exit → Act → World → Prop} {v : Value} (hw : Region.wanted o (yielded ops a.tmps) = true) (hrun : (execOp a.eval o).run P w = .ok (.value v) w)
    (h : wpList P ops Q rest (a.put o.dst v) w) : wpList P ops Q (o :: rest) a w :=
  wpList_step fun K hK => by rw [if_pos hw]; unfold Oper.wp; rw [hrun]; exact hK _ _ h
def flowB (q : P6) : Bool := decide (0 ≤ q.flow) && decide (q.flow < 1048576)
theorem arg6_iff (q : P6) : arg6 q ↔ (fitsB q.traffic 1 = true ∧ fitsB q.next 1 = true ∧ fitsB q.hop 1 = true ∧ flowB q = true) := by
  unfold arg6 flowB
  simp only [Bool.and_eq_true, fitsB_iff, decide_eq_true_eq, pw]
  constructor
  · rintro ⟨a1, a2, a3, a4, a5, a6, a7, a8⟩
    refine ⟨⟨?_, ?_, ?_, ?_⟩, ⟨?_, ?_, ?_, ?_⟩, ⟨?_, ?_, ?_, ?_⟩, ?_, ?_⟩ <;> (try simp) <;> omega
  · rintro ⟨⟨_, _, f1, f2⟩, ⟨_, _, g1, g2⟩, ⟨_, _, h1, h2⟩, m1, m2⟩
    simp at f2 g2 h2
    refine ⟨?_, ?_, ?_, ?_, ?_, ?_, ?_, ?_⟩ <;> omega
section
variable (q : P6) (A : Option Addr) (c : Nat) (w : World)
end
end Go.Proofs.Ytobkiffiapjhgaa

/-
  Contracts of Check, numbers and Same of layer 6, the program's and the document's. Conditions are each theorem's own.
-/
namespace Go.Proofs.Ytobkiffiapjhgaa
open Go.RowKit

/-- Integers in an array. -/
def zat (zs : List Int) (i : Nat) : Int := zs.getD i 0
def ivs (zs : List Int) : Array Value := (zs.map (Value.int .i64)).toArray
theorem ivs_get (zs : List Int) {j : Nat} (h : j < zs.length) : (ivs zs)[j]? = some (.int .i64 (zat zs j)) := by
  simp [ivs, zat, h]
theorem ints_items (a b : List Int) (d : Nat) (w : World) : ∀ is : List Nat, (∀ i ∈ is, i < a.length ∧ i < b.length) →
    (Op.eqItems (d + 1) 3 1 (ivs a) (ivs b) is).run Try.prog w = .ok (decide (∀ i ∈ is, zat a i = zat b i)) w
  | [], _ => by simp [Op.eqItems]
  | i :: is, h => by
    have hp : Try.prog.plainKey 3 = true := by kernel_rfl
    obtain ⟨h1, h2⟩ := h i (by simp)
    have p1 := run_part_plain (P := Try.prog) w hp (off := i * 1) (by rw [Nat.mul_one]; exact ivs_get a h1)
    have p2 := run_part_plain (P := Try.prog) w hp (off := i * 1) (by rw [Nat.mul_one]; exact ivs_get b h2)
    have p3 := run_equalIn_int w d 3 .i64 .i64 (zat a i) (zat b i) Try.underlying3
    have ih := ints_items a b d w is (fun j hj => h j (by simp [hj]))
    simp only [Op.eqItems, Sem.run_bind, p1, p2, p3, Result.andThen_ok]
    by_cases he : zat a i = zat b i
    · simp [he, ih]
    · simp [he]
set_option maxRecDepth 100000 in
theorem ints_eq (T : TypeId) (n : Nat) (hT : Try.prog.underlying T = some (.array n 3)) (a b : List Int) (ha : a.length = n) (hb : b.length = n) (w : World) :
    (Op.equalIn 10000 T (.agg (ivs a)) (.agg (ivs b))).run Try.prog w = .ok (decide (a = b)) w := by
  have hi : ∃ i, Try.prog.info? 3 = some i := Option.isSome_iff_exists.1 (by kernel_rfl)
  obtain ⟨i, hi⟩ := hi
  have hc : Try.prog.cellsOf 3 = 1 := by kernel_rfl
  rw [show (10000 : Nat) = 9998 + 1 + 1 from rfl, run_equalIn_array w 9999 (ivs a) (ivs b) hT hi, hc, ints_items a b 9998 w _ (by simp; omega)]
  congr 1
  rw [decide_eq_decide]
  constructor
  · intro h
    refine List.ext_getElem (by omega) fun i h1 h2 => ?_
    have := h i (by simp; omega)
    simpa [zat, List.getD_eq_getElem?_getD, h1, h2] using this
  · rintro rfl i _; rfl
section
variable (q : P6) (A : Option Addr) (c : Nat) (w : World)
end
end Go.Proofs.Ytobkiffiapjhgaa

/-
  Contracts of v4's Head, Whole, Size, bit, flags, numbers. Conditions are each theorem's own.
-/
namespace Go.Proofs.Ytobkiffiapjhgaa
open Go.RowKit

/-- The two flags, as numbers. -/
def flg4 (q : P4) : Int := bit q.df 16384 + bit q.mf 8192
def nums4 (q : P4) : List Int := [q.tos, q.id, q.off, q.ttl, q.proto, q.src, q.dst, flg4 q]
section
variable (q : P4) (A : Option Addr) (c : Nat) (A' : Option Addr) (c' : Nat) (w : World)
end
end Go.Proofs.Ytobkiffiapjhgaa

/-
  Contracts of v4's Same, Check. Conditions are each theorem's own.
-/
namespace Go.Proofs.Ytobkiffiapjhgaa
open Go.RowKit

theorem same4_nums (q r : P4) : same4 q r = (decide (nums4 q = nums4 r) && decide (q.opt = r.opt) && decide (q.dat = r.dat)) := by
  have h : ∀ a b c d : Bool, (bit a 16384 + bit b 8192 = bit c 16384 + bit d 8192) ↔ (a = c ∧ b = d) := by decide
  rw [same4, Bool.eq_iff_iff]
  simp [nums4, flg4, h, and_assoc]
section
variable (q r : P4) (A : Option Addr) (c : Nat) (A' : Option Addr) (c' : Nat) (X : Option Addr) (d : Nat) (X' : Option Addr) (d' B : Nat) (w : World)
end
section
variable (q : P4) (A : Option Addr) (c : Nat) (A' : Option Addr) (c' : Nat) (w : World)
end
end Go.Proofs.Ytobkiffiapjhgaa

/-
  Contracts of numbers and Same of layer 6, the program's and the document's. Conditions are each theorem's own.
-/
namespace Go.Proofs.Ytobkiffiapjhgaa
open Go.RowKit

section
variable (q r : P6) (A : Option Addr) (c : Nat) (X : Option Addr) (d B : Nat) (w : World)
end
end Go.Proofs.Ytobkiffiapjhgaa

/-
  Laws for copy into a row of bytes of the call's own, and for slices of arrays. Conditions are each theorem's own.
-/
namespace Go.Proofs.Ytobkiffiapjhgaa
open Go.RowKit

theorem row_splice (cur bs : List UInt8) (off : Nat) : splice (row cur) off (row bs) = row (splice cur off bs) := by
  simp [splice, row, List.map_take, List.map_drop]
theorem Rd.of_range {w : World} {g i B : Nat} {bs : List UInt8} (h : w.rangeAt g i (row bs)) (hg : g < B) : Rd w B (some ⟨g, i, none⟩) bs := fun _ =>
  ⟨g, i, rfl, hg, fun j hj => h j _ (row_get bs hj)⟩
section
variable {ops : Array Oper} {o : Oper} {a : Act} {w : World} {Q : Exit → Act → World → Prop}
theorem copy_wp {K : Act → World → Prop} (d s : Operand) (ho : o.op = .call { callee := .builtin .copy, args := #[d, s], argTypes := #[22, 22] })
    (g off dLen dCap : Nat) (dp A : Option Addr) (bs : List UInt8) (c B : Nat) (hd : a.eval d = .slice dp dLen dCap) (hdp : 0 < bs.length → dp = some ⟨g, off, none⟩) (hs : a.eval s = .slice A bs.length c)
    (cur : List UInt8) (hg : w.heap[g]? = some (.cells (row cur).toArray 5 (0, 0))) (hn : bs.length ≤ dLen) (hr : Rd w B A bs) (hfit : off + bs.length ≤ cur.length)
    (w0 : World) (B0 : Nat) (hb : Below B0 w0 w) (hBg : B0 ≤ g) (cur' : List UInt8) (hc' : cur' = splice cur off bs)
    (h : ∀ w', Hid (w'.heap[g]? = some (.cells (row cur').toArray 5 (0, 0))) → Below B0 w0 w' → w'.heap.size = w.heap.size → K (a.put o.dst (goInt bs.length)) w') : Oper.wp Try.prog o a w K Q := by
  subst hc'
  by_cases h0 : bs.length = 0
  · obtain rfl : bs = [] := List.eq_nil_of_length_eq_zero h0
    have hrun := run_copy_none (P := Try.prog) w 22 22 o.type 5 dp A dLen dCap 0 c Try.underlying22 size_u8 (Nat.zero_min _)
    unfold Oper.wp
    simp [execOp, ho, resolve, invoke, builtin, hd, hs, hrun, Result.andThen]
    exact h w (Lib.hid (by rw [hg]; simp [splice])) hb rfl
  · obtain ⟨b, of, rfl, hbB, hc⟩ := hr (by omega)
    have hrun := run_copy_row (P := Try.prog) w 22 22 o.type 5 g off dLen dCap ⟨b, of, none⟩ bs.length c (row cur).toArray 5 (row bs) Try.underlying22 size_u8 hg (by rw [row_length]; exact (Nat.min_eq_left hn).symm)
      (fun j v hj => by
        have hj' : j < bs.length := by have := (List.getElem?_eq_some_iff.1 hj).1; rwa [row_length] at this
        rw [row_getD bs hj' hj, add_off]; exact hc j hj') (by simp [row_length]; omega) (row_one bs)
    have hdp' := hdp (by omega)
    subst hdp'
    rw [row_length] at hrun
    unfold Oper.wp
    simp [execOp, ho, resolve, invoke, builtin, hd, hs, hrun, Result.andThen]
    change K (a.put o.dst (goInt (bs.length : Int))) _
    refine h _ (Lib.hid ?_) (below_setRow hb hBg _) (by simp)
    rw [setRow_heap _ _ _ _ _ _ hg, ← row_splice, splice, row_length]
theorem copy_wl {rest : List Oper} (hgd : o.guard = none) (d s : Operand) (ho : o.op = .call { callee := .builtin .copy, args := #[d, s], argTypes := #[22, 22] })
    (g off dLen dCap : Nat) (dp A : Option Addr) (bs : List UInt8) (c B : Nat) (hd : a.eval d = .slice dp dLen dCap) (hdp : 0 < bs.length → dp = some ⟨g, off, none⟩) (hs : a.eval s = .slice A bs.length c)
    (cur : List UInt8) (hg : w.heap[g]? = some (.cells (row cur).toArray 5 (0, 0))) (hn : bs.length ≤ dLen) (hr : Rd w B A bs) (hfit : off + bs.length ≤ cur.length)
    (w0 : World) (B0 : Nat) (hb : Below B0 w0 w) (hBg : B0 ≤ g) (cur' : List UInt8) (hc' : cur' = splice cur off bs)
    (h : ∀ w', Hid (w'.heap[g]? = some (.cells (row cur').toArray 5 (0, 0))) → Below B0 w0 w' → w'.heap.size = w.heap.size → wpList Try.prog ops Q rest (a.put o.dst (goInt bs.length)) w') : wpList Try.prog ops Q (o :: rest) a w :=
  wpList_plain hgd fun _ hK => copy_wp d s ho g off dLen dCap dp A bs c B hd hdp hs cur hg hn hr hfit w0 B0 hb hBg cur' hc' (fun w' h1 h2 h3 => hK _ _ (h w' h1 h2 h3))
theorem splice_mid4 {α : Type} (a z bs : List α) (k : Nat) (hk : a.length = k) : splice (a ++ z) k bs = (a ++ bs) ++ z.drop bs.length := by
  subst hk
  simp [splice]
theorem splice_mid (a z bs : List UInt8) (k : Nat) (hk : a.length = k) : splice (a ++ z) k bs = (a ++ bs) ++ z.drop bs.length := by
  subst hk
  simp [splice]
theorem out6 (q : P6) (hs : q.src.length = 16) (hd : q.dst.length = 16) (n : Nat) (hn : n = 40 + q.dat.length) : ∃ C5 C7 C8 : List UInt8, C5 = splice (List.replicate n 0) 0 (hd6 q) ∧ C7 = splice C5 8 q.src ∧ C8 = splice C7 24 q.dst ∧ bld6 q = splice C8 40 q.dat ∧ C5.length = n ∧ C7.length = n ∧ C8.length = n := by
  have h8 := hd6_len q
  have e5 := splice_mid [] (List.replicate n 0) (hd6 q) 0 rfl
  have e7 := splice_mid (hd6 q) ((List.replicate n 0).drop 8) q.src 8 h8
  have e8 := splice_mid (hd6 q ++ q.src) (((List.replicate n 0).drop 8).drop 16) q.dst 24 (by simp [h8, hs])
  have e9 := splice_mid (hd6 q ++ q.src ++ q.dst) ((((List.replicate n 0).drop 8).drop 16).drop 16) q.dat 40 (by simp [h8, hs, hd])
  rw [h8] at e5; rw [hs] at e7; rw [hd] at e8
  simp only [List.nil_append] at e5
  refine ⟨_, _, _, rfl, rfl, rfl, ?_, ?_, ?_, ?_⟩
  · rw [e5, e7, e8, e9, bld6]
    simp [hn]; omega
  · rw [e5]; simp [h8]; omega
  · rw [e5, e7]; simp [h8, hs]; omega
  · rw [e5, e7, e8]; simp [h8, hs, hd]; omega
theorem putL_6 (q : P6) (n : Int) (h : arg6 q) (hl : (q.dat.length : Int) ≤ 65535) (hn : n = fst6 q) : putL [(n, 4), ((q.dat.length : Int), 2), (q.next, 1), (q.hop, 1)] = hd6 q := by
  obtain ⟨a1, a2, a3, a4, a5, a6, a7, a8⟩ := h
  have hf : fst6 q = 1610612736 + q.traffic * 1048576 + q.flow := rfl
  subst hn
  simp only [putL, List.foldl_cons, List.foldl_nil]
  rw [put_four (by omega) (by omega), put_two (by omega) hl, put_one a3 a4, put_one a5 a6, hd6]
  simp
theorem fst6_bits (q : P6) (h : arg6 q) : bits .or .i64 (wrap64 (bits .or .i64 1536 q.traffic * 1048576)) q.flow = fst6 q := by
  obtain ⟨a1, a2, a3, a4, a5, a6, a7, a8⟩ := h
  have e1 := or_byte 6 q.traffic (by omega) (by omega) a1 a2
  have e1' : bits .or .i64 1536 q.traffic = 1536 + q.traffic := by simpa using e1
  have e2 : wrap64 ((1536 + q.traffic) * 1048576) = (1536 + q.traffic) * 1048576 := by
    have := IntWalk.i64_in ((1536 + q.traffic) * 1048576) (by omega)
    simpa [wrap64, IntKind.wrap_i64] using this
  have e3 := bits_join .i64 62 (by decide) wraps_i64 20 ((1536 + q.traffic) * 1048576) q.flow (by omega) (by omega) (by omega) a7 (by omega) (by omega)
  have hf : fst6 q = 1610612736 + q.traffic * 1048576 + q.flow := rfl
  rw [e1', e2, e3, hf]; omega
theorem run_slice_six {x : Operand} {g i : Nat} (ho : o.op = .slice 41 x none none none) (hx : a.eval x = .pointer (some ⟨g, i, none⟩)) :
    (execOp a.eval o).run Try.prog w = .ok (.value (.slice (some ⟨g, i, none⟩) 16 16)) w := by
  unfold execOp
  simp only [ho, hx, Option.map]
  go_simp
end
end Go.Proofs.Ytobkiffiapjhgaa

/-
  Contract of v4's buildHead. Conditions are each theorem's own.
-/
namespace Go.Proofs.Ytobkiffiapjhgaa
open Go.RowKit

/-- The ten numbers of a head. -/
def ten4 (q : P4) : List (Int × Int) := [(64 + head4 q / 4, 1), (q.tos, 1), (size4 q, 2), (q.id, 2), (flags4 q, 2), (q.ttl, 1), (q.proto, 1), (0, 2), (q.src, 4), (q.dst, 4)]
theorem ten_put (q : P4) (h : arg4 q) (hz : 0 ≤ size4 q ∧ size4 q ≤ 65535) : putL (ten4 q) ++ q.opt = hd4 q (size4 q) 0 := by
  obtain ⟨a1, a2, a3, a4, a5, a6, a7, a8, a9, a10, a11, a12, a13, a14, a15, a16, a17, a18⟩ := h
  have hh : head4 q = 20 + (q.opt.length : Int) := rfl
  have hf : 0 ≤ flags4 q ∧ flags4 q ≤ 65535 := by
    have b1 : 0 ≤ bit q.df 16384 ∧ bit q.df 16384 ≤ 16384 := by unfold bit; cases q.df <;> simp
    have b2 : 0 ≤ bit q.mf 8192 ∧ bit q.mf 8192 ≤ 8192 := by unfold bit; cases q.mf <;> simp
    unfold flags4; omega
  simp only [ten4, putL, List.foldl_cons, List.foldl_nil]
  rw [put_one (n := 64 + head4 q / 4) (by omega) (by omega), put_one a1 a2, put_two hz.1 hz.2, put_two a7 a8, put_two hf.1 hf.2, put_one a3 a4, put_one a5 a6, put_two (n := 0) (by omega) (by omega), put_four a9 a10, put_four a11 a12]
  simp [hd4, hda, hdb, be2, be4]
theorem set_sum (q : P4) : setB (hd4 q (size4 q) 0) 10 (sum4 q) 2 = hd4 q (size4 q) (sum4 q) := by
  obtain ⟨h0, h1⟩ := sum4_bd q
  have hl := hd4_len q (size4 q) 0
  rw [setB, if_pos ⟨fitsB_iff.2 ⟨by omega, by omega, h0, by simp [pw]; omega⟩, by omega, by rw [hl]; omega⟩]
  have e : digs (sum4 q) (2 : Int).toNat = be2 (sum4 q) := digs_two h0
  have ha : (hda q (size4 q)).length = 10 := rfl
  rw [e, show (10 : Int).toNat = 10 from rfl, hd4, List.append_assoc, splice_mid _ _ _ 10 ha, hd4]
  simp [be2]
section
variable (q : P4) (A : Option Addr) (c : Nat) (A' : Option Addr) (c' : Nat) (w : World)
end
end Go.Proofs.Ytobkiffiapjhgaa

/-
  Contract of v4.Build. Conditions are each theorem's own.
-/
namespace Go.Proofs.Ytobkiffiapjhgaa
open Go.RowKit

theorem chk4_zero {q : P4} (h : chk4 q = 0) : arg4 q ∧ 0 ≤ size4 q ∧ size4 q ≤ 65535 := by
  have ha : arg4 q := by
    rcases Decidable.em (arg4 q) with h' | h'
    · exact h'
    · exfalso; rw [chk4, if_neg h'] at h; omega
  refine ⟨ha, by unfold size4 head4; omega, ?_⟩
  rcases Int.lt_or_le 65535 (size4 q) with h' | h'
  · exfalso; rw [chk4, if_pos ha, if_pos (.inl h')] at h; omega
  · exact h'
theorem out4 (q : P4) (n hn : Nat) (hh : hn = 20 + q.opt.length) (hnn : n = hn + q.dat.length) : ∃ C5 : List UInt8, C5 = splice (List.replicate n 0) 0 (hd4 q (size4 q) (sum4 q)) ∧ bld4 q = splice C5 hn q.dat ∧ C5.length = n := by
  have hl := hd4_len q (size4 q) (sum4 q)
  have e5 := splice_mid [] (List.replicate n 0) (hd4 q (size4 q) (sum4 q)) 0 rfl
  simp only [List.nil_append] at e5
  have e9 := splice_mid (hd4 q (size4 q) (sum4 q)) ((List.replicate n 0).drop (hd4 q (size4 q) (sum4 q)).length) q.dat hn (by omega)
  refine ⟨_, rfl, ?_, ?_⟩
  · rw [e5, e9, bld4]; simp [hl]; omega
  · rw [e5]; simp [hl]; omega
section
variable (q : P4) (A : Option Addr) (c : Nat) (A' : Option Addr) (c' : Nat) (w : World)
end
end Go.Proofs.Ytobkiffiapjhgaa

/-
  Contract of v4's layout. Conditions are each theorem's own.
-/
namespace Go.Proofs.Ytobkiffiapjhgaa
open Go.RowKit

/-- What is wrong with the numbers of a head; nothing: 0. -/
def lay4 (b : List UInt8) (quoted : Bool) : Int :=
  if b.length < 20 then 3
  else if byt b 0 / 16 ≠ 4 ∨ hlen b < 20 then 4
  else if hlen b > (b.length : Int) ∨ (quoted = false ∧ n2 b 2 > (b.length : Int)) then 3
  else if n2 b 2 < hlen b ∨ n2 b 6 ≥ 32768 then 4
  else 0
theorem and_two (a k : Nat) : a &&& 2 ^ k = (if a.testBit k then 2 ^ k else 0) := by
  refine Nat.eq_of_testBit_eq fun i => ?_
  rw [Nat.testBit_and, Nat.testBit_two_pow]
  rcases Nat.decEq k i with h | h
  · cases hb : a.testBit k <;> simp [h]
  · subst h; cases hb : a.testBit k <;> simp
theorem and_bit (k : Nat) (n : Int) (h0 : 0 ≤ n) (h1 : n ≤ 9223372036854775807) (hk : k ≤ 62) : bits .and .i64 n (2 ^ k) = n / 2 ^ k % 2 * 2 ^ k := by
  obtain ⟨a, rfl⟩ := Int.eq_ofNat_of_zero_le h0
  have hc : ((2 : Int) ^ k) = ((2 ^ k : Nat) : Int) := by simp
  have hp : 2 ^ k < 2 ^ 63 := Nat.pow_lt_pow_right (by decide) (by omega)
  rw [hc, (bits_nat .i64 63 (by decide) wraps63 a (2 ^ k) (by omega) hp).1]
  have e : ((a : Int) / ((2 ^ k : Nat) : Int)) % 2 = ((a / 2 ^ k % 2 : Nat) : Int) := rfl
  rw [e, and_two a k, Nat.testBit_eq_decide_div_mod_eq]
  rcases Nat.mod_two_eq_zero_or_one (a / 2 ^ k) with h | h <;> simp [h]
def layV (n s k : Int) : Value := .tuple #[.int .i64 (if k = 0 then n else 0), .int .i64 (if k = 0 then s else 0), .int .i64 k]
end Go.Proofs.Ytobkiffiapjhgaa

/-
  Contract of v4's read. Conditions are each theorem's own.
-/
namespace Go.Proofs.Ytobkiffiapjhgaa
open Go.RowKit

theorem flag_one (n m : Int) (hm : 0 < m) : ((n % 2 * m) != 0) = decide (n % 2 = 1) := by
  rcases (show n % 2 = 0 ∨ n % 2 = 1 by omega) with h | h
  · simp [h]
  · simp [h]; omega
section
variable (b : List UInt8) (A : Option Addr) (c : Nat) (w : World)
end
end Go.Proofs.Ytobkiffiapjhgaa

/-
  Contract of v6.Build. Conditions are each theorem's own.
-/
namespace Go.Proofs.Ytobkiffiapjhgaa
open Go.RowKit

theorem chk6_zero {q : P6} (h : chk6 q = 0) : arg6 q ∧ (q.dat.length : Int) ≤ 65535 := by
  have ha : arg6 q := by
    rcases Decidable.em (arg6 q) with h' | h'
    · exact h'
    · rw [chk6, if_neg h'] at h; omega
  refine ⟨ha, ?_⟩
  rcases Int.lt_or_le 65535 (q.dat.length : Int) with h' | h'
  · rw [chk6, if_pos ha, if_pos h'] at h; omega
  · exact h'
section
variable (q : P6) (A : Option Addr) (c : Nat) (w : World)
end
end Go.Proofs.Ytobkiffiapjhgaa

/-
  Contract of v6.Quoted. Conditions are each theorem's own.
-/
namespace Go.Proofs.Ytobkiffiapjhgaa
open Go.RowKit

theorem Made.later {W w1 w2 : World} {v : Value} {bs : List UInt8} (h : Made W w1 v bs) (hb : Below w1.heap.size w1 w2) : Made W w2 v bs := by
  obtain ⟨A, c, rfl, hl, hr, ho, hB⟩ := h
  exact Made.of_own (own_below ho hb) (hB.trans (hb.mono hB.size))
theorem v6a_one (q : P6) (A : Option Addr) (c : Nat) : (v6a q A c).all (·.oneCell') = true := by
  refine Array.all_eq_true_iff_forall_mem.2 fun v hv => ?_
  have hv' : v ∈ v6l q A c := by simpa [v6a] using hv
  simp only [v6l, List.mem_append, List.mem_cons, List.not_mem_nil, or_false] at hv'
  rcases hv' with (((h | h | h | h) | h) | h) | h
  · subst h; rfl
  · subst h; rfl
  · subst h; rfl
  · subst h; rfl
  · exact row_one _ v h
  · exact row_one _ v h
  · subst h; rfl
theorem six_cells (q : P6) (A : Option Addr) (c : Nat) (ss dd : List UInt8) (hs : ss.length = 16) (hd : dd.length = 16) :
    splice (splice (v6l ⟨q.traffic, q.flow, q.next, q.hop, nul, nul, q.dat⟩ A c) 4 (row ss)) 20 (row dd) = v6l ⟨q.traffic, q.flow, q.next, q.hop, ss, dd, q.dat⟩ A c := by
  have e0 : (row nul).length = 16 := by rw [row_length]; rfl
  have es : (row ss).length = 16 := by rw [row_length, hs]
  have ed : (row dd).length = 16 := by rw [row_length, hd]
  simp only [v6l]
  rw [List.append_assoc, List.append_assoc, splice_mid4 _ _ _ 4 rfl, es, List.drop_append_of_le_length (by omega), List.drop_of_length_le (by omega), List.nil_append,
    splice_mid4 _ _ _ 20 (by simp [es]), ed, List.drop_append_of_le_length (by omega), List.drop_of_length_le (by omega), List.nil_append]
section
variable (b : List UInt8) (A : Option Addr) (c : Nat) (w : World)
end
end Go.Proofs.Ytobkiffiapjhgaa

/-
  Contract of v4.Parse. Conditions are each theorem's own.
-/
namespace Go.Proofs.Ytobkiffiapjhgaa
open Go.RowKit

theorem v4a_one (q : P4) (A : Option Addr) (c : Nat) (A' : Option Addr) (c' : Nat) : (v4a q A c A' c').all (·.oneCell') = true := by simp [v4a, Value.oneCell']
theorem bad4_lay (b : List UInt8) (quoted : Bool) : bad4 b quoted = if lay4 b quoted = 0 then (if quoted = false ∧ rightB [b.take (hlen b).toNat] = false then 5 else 0) else lay4 b quoted := by
  unfold bad4 lay4
  by_cases h1 : b.length < 20
  · rw [if_pos h1, if_pos h1, if_neg (by decide)]
  · rw [if_neg h1, if_neg h1]
    by_cases h2 : byt b 0 / 16 ≠ 4 ∨ hlen b < 20
    · rw [if_pos h2, if_pos h2, if_neg (by decide)]
    · rw [if_neg h2, if_neg h2]
      by_cases h3 : hlen b > (b.length : Int) ∨ (quoted = false ∧ n2 b 2 > (b.length : Int))
      · rw [if_pos h3, if_pos h3, if_neg (by decide)]
      · rw [if_neg h3, if_neg h3]
        by_cases h4 : n2 b 2 < hlen b ∨ n2 b 6 ≥ 32768
        · rw [if_pos h4, if_pos h4, if_neg (by decide)]
        · rw [if_neg h4, if_neg h4, if_pos rfl]
theorem lay4_zero {b : List UInt8} {quoted : Bool} (h : lay4 b quoted = 0) : 20 ≤ hlen b ∧ hlen b ≤ (b.length : Int) ∧ hlen b ≤ n2 b 2 ∧ (quoted = false → n2 b 2 ≤ (b.length : Int)) := by
  unfold lay4 at h
  by_cases h1 : b.length < 20
  · rw [if_pos h1] at h; omega
  · rw [if_neg h1] at h
    by_cases h2 : byt b 0 / 16 ≠ 4 ∨ hlen b < 20
    · rw [if_pos h2] at h; omega
    · rw [if_neg h2] at h
      by_cases h3 : hlen b > (b.length : Int) ∨ (quoted = false ∧ n2 b 2 > (b.length : Int))
      · rw [if_pos h3] at h; omega
      · rw [if_neg h3] at h
        by_cases h4 : n2 b 2 < hlen b ∨ n2 b 6 ≥ 32768
        · rw [if_pos h4] at h; omega
        · refine ⟨by omega, by omega, by omega, fun e => ?_⟩
          rcases Int.lt_or_le (b.length : Int) (n2 b 2) with h5 | h5
          · exact absurd (.inr ⟨e, h5⟩) h3
          · exact h5
theorem layV_no {n s k : Int} (h : k ≠ 0) : layV n s k = .tuple #[.int .i64 0, .int .i64 0, .int .i64 k] := by rw [layV, if_neg h, if_neg h]
section
variable (b : List UInt8) (A : Option Addr) (c : Nat) (w : World)
end
end Go.Proofs.Ytobkiffiapjhgaa

/-
  Contracts of layer 5's helpers of the statements: far, awake. Conditions are each theorem's own.
-/
namespace Go.Proofs.Ytobkiffiapjhgaa
open Go.RowKit

/-- An operation that is wanted and yields a value, in a list that goes in the order of the text. -/
theorem wpList_valw {P : Program} {ops : Array Oper} {rest : List Oper} {o : Oper} {a : Act} {w : World} {Q : Exit → Act → World → Prop} {v : Value} (hg : Region.wanted o (yielded ops a.tmps) = true) (hrun : (execOp a.eval o).run P w = .ok (.value v) w)
    (h : wpList P ops Q rest (a.put o.dst v) w) : wpList P ops Q (o :: rest) a w :=
  wpList_step fun K hK => by rw [if_pos hg]; unfold Oper.wp; rw [hrun]; exact hK _ _ h
def qa4 : P4 := ⟨0, 0, 0, 9, 17, 167772161, 3221225985, false, false, [], [7]⟩
def res4 (q : P4) : List UInt8 := if chk4 q = 0 then bld4 q else []
theorem res4_shape {q : P4} {w w' : World} {v : Value} (h : (chk4 q ≠ 0 → v = .slice none 0 0 ∧ Below w.heap.size w w') ∧ (chk4 q = 0 → Made w w' v (bld4 q))) :
    ∃ P k, v = .slice P (res4 q).length k ∧ Rd w' w'.heap.size P (res4 q) ∧ Below w.heap.size w w' := by
  by_cases hc : chk4 q = 0
  · obtain ⟨A, c, rfl, hl, hr, ho, hb⟩ := h.2 hc
    exact ⟨A, c, by rw [res4, if_pos hc], by rw [res4, if_pos hc]; exact hr, hb⟩
  · obtain ⟨rfl, hb⟩ := h.1 hc
    exact ⟨none, 0, by rw [res4, if_neg hc]; rfl, by rw [res4, if_neg hc]; exact Rd.nil, hb⟩
end Go.Proofs.Ytobkiffiapjhgaa

/-
  What layer 5's statement V4Back stands on besides: Right of the document's plain answers, of one. Conditions are each theorem's own.
-/
namespace Go.Proofs.Ytobkiffiapjhgaa
open Go.RowKit

theorem rright_one (A : Option Addr) (bs : List UInt8) (c B : Nat) (w : World) (h : Rd2 w B A [bs]) (hl : bs.length ≤ 1099511627000) :
    Calls Try.prog 47 #[.slice A 1 c] w fun e w' => e = .returned (.bool (rightB [bs])) ∧ ∃ n, w' = w.drewN n :=
  rright_any A [bs] c B w h (by simpa [bulk] using hl) (by simp)
theorem back_head {q : P4} {H : Nat} (hH : H = 20 + q.opt.length) : (bld4 q).take H = hd4 q (size4 q) (sum4 q) := by
  have := back_take (q := q) (more := []) H hH
  rwa [List.append_nil] at this
end Go.Proofs.Ytobkiffiapjhgaa

/-
  Contract of v6.Parse. Conditions are each theorem's own.
-/
namespace Go.Proofs.Ytobkiffiapjhgaa
open Go.RowKit

theorem end6_len (b : List UInt8) (h : ¬ b.length < 40) : ((b.take (end6 b)).drop 40).length = end6 b - 40 := by
  have : end6 b ≤ b.length := by unfold end6; omega
  simp; omega
theorem prs6_len (b : List UInt8) (u : Bool) : (prs6 b u).src.length = 16 ∧ (prs6 b u).dst.length = 16 := by
  unfold prs6
  by_cases h : bad6 b u = 0
  · rw [if_pos h]
    have h40 : ¬ b.length < 40 := fun h' => by rw [bad6, if_pos h'] at h; omega
    simp only [raw6, List.length_take, List.length_drop]
    omega
  · rw [if_neg h]; exact ⟨rfl, rfl⟩
section
variable (b : List UInt8) (A : Option Addr) (c : Nat) (w : World)
end
end Go.Proofs.Ytobkiffiapjhgaa

/-
  Single cells stored into a block of the call's own, as operations; a packet of IPv6 that is filled cell by cell. Conditions are each theorem's own.
-/
namespace Go.Proofs.Ytobkiffiapjhgaa
open Go.RowKit

section
variable {o : Oper} {a : Act} {w : World} {K : Act → World → Prop} {Q : Exit → Act → World → Prop} {x y : Operand} {p : Addr} {v0 : Value}
theorem store_int_wp {n : Int} (ho : o.op = .store 3 x y) (hx : a.eval x = .pointer (some p)) (hy : a.eval y = .int .i64 n) (hc : w.cell? p = some v0) (hf : w.frozen? p = false) (h : K (a.put o.dst undef) (w.setCell p (.int .i64 n))) : o.wp Try.prog a w K Q := by
  unfold Oper.wp execOp
  simp only [ho, hx, hy]
  go_simp
  exact h
theorem store_u8_wp {n : Int} (ho : o.op = .store 5 x y) (hx : a.eval x = .pointer (some p)) (hy : a.eval y = .int .u8 n) (hc : w.cell? p = some v0) (hf : w.frozen? p = false) (h : K (a.put o.dst undef) (w.setCell p (.int .u8 n))) : o.wp Try.prog a w K Q := by
  unfold Oper.wp execOp
  simp only [ho, hx, hy]
  go_simp
  exact h
end
theorem OwnR.row_other {w0 w : World} {t n g : Nat} {cs : Array Value} (h : OwnR w0 t n w) (hg : w0.heap.size < g) : OwnR w0 t n (w.setRow g cs) := by
  obtain ⟨hB, c0, hn, h0⟩ := h
  exact ⟨below_row hB (by omega), c0, hn, (setRow_other w g _ cs (by omega)).trans h0⟩
theorem OwnR.set {w0 w : World} {t n g i : Nat} {v : Value} (h : OwnR w0 t n w) (hg : w0.heap.size < g) : OwnR w0 t n (w.setCell ⟨g, i, none⟩ v) := by
  obtain ⟨hB, c0, hn, h0⟩ := h
  exact ⟨hB.setCell (p := ⟨g, i, none⟩) (by show _ ≤ g; omega) v, c0, hn, (heap_setCell_other w ⟨g, i, none⟩ _ v (by show _ ≠ g; omega)).trans h0⟩
section
variable {w w' : World} {g i : Nat} {q q' : P6} {A A' : Option Addr} {c c' : Nat} {v : Value}
end
/-- The first k bytes, and noughts up to 16. -/
def fil (l : List UInt8) (k : Nat) : List UInt8 := l.take k ++ List.replicate (16 - k) 0
theorem fil_len (l : List UInt8) {k : Nat} (hk : k ≤ 16) (hl : 16 ≤ l.length) : (fil l k).length = 16 := by simp [fil]; omega
theorem fil_zero (l : List UInt8) : fil l 0 = nul := rfl
theorem fil_all (l : List UInt8) : fil l 16 = l.take 16 := by simp [fil]
theorem fil_set (l : List UInt8) {k : Nat} (hk : k < 16) (hl : 16 ≤ l.length) : (fil l k).set k l[k] = fil l (k + 1) := by
  unfold fil
  have e : (l.take k).length = k := by simp; omega
  rw [List.set_append_right _ _ (by omega), e, Nat.sub_self, show 16 - k = (16 - (k + 1)) + 1 from by omega, List.replicate_succ, List.set_cons_zero, List.take_succ_eq_append_getElem (by omega), List.append_assoc]
  rfl
theorem row_setb (l : List UInt8) (k : Nat) (x : UInt8) : (row l).set k (.int .u8 (x.toNat : Int)) = row (l.set k x) := by simp [row, List.map_set]
theorem set_src (q : P6) (A : Option Addr) (c k : Nat) (x : UInt8) (hk : k < 16) (hs : q.src.length = 16) : (v6a q A c).setIfInBounds (4 + k) (.int .u8 (x.toNat : Int)) = v6a ⟨q.traffic, q.flow, q.next, q.hop, q.src.set k x, q.dst, q.dat⟩ A c := by
  have h4 : ([Value.int .i64 q.traffic, .int .i64 q.flow, .int .i64 q.next, .int .i64 q.hop]).length = 4 := rfl
  rw [v6a, v6a, List.setIfInBounds_toArray, v6l, v6l]
  congr 1
  simp only [List.append_assoc]
  rw [List.set_append_right _ _ (by rw [h4]; omega), h4, show 4 + k - 4 = k from by omega, List.set_append_left _ _ (by rw [row_length]; omega), row_setb]
theorem set_dst (q : P6) (A : Option Addr) (c k : Nat) (x : UInt8) (hk : k < 16) (hs : q.src.length = 16) (hd : q.dst.length = 16) : (v6a q A c).setIfInBounds (20 + k) (.int .u8 (x.toNat : Int)) = v6a ⟨q.traffic, q.flow, q.next, q.hop, q.src, q.dst.set k x, q.dat⟩ A c := by
  have h4 : ([Value.int .i64 q.traffic, .int .i64 q.flow, .int .i64 q.next, .int .i64 q.hop] ++ row q.src).length = 20 := by simp [row_length, hs]
  rw [v6a, v6a, List.setIfInBounds_toArray, v6l, v6l]
  congr 1
  rw [List.append_assoc, List.append_assoc (_ ++ row q.src), List.set_append_right _ _ (by rw [h4]; omega), h4, show 20 + k - 20 = k from by omega, List.set_append_left _ _ (by rw [row_length]; omega), row_setb]
theorem set_dat (q : P6) (A P : Option Addr) (c p : Nat) (D : List UInt8) (hs : q.src.length = 16) (hd : q.dst.length = 16) : (v6a q A c).setIfInBounds 36 (.slice P D.length p) = v6a ⟨q.traffic, q.flow, q.next, q.hop, q.src, q.dst, D⟩ P p := by
  have h4 : ([Value.int .i64 q.traffic, .int .i64 q.flow, .int .i64 q.next, .int .i64 q.hop] ++ row q.src ++ row q.dst).length = 36 := by simp [row_length, hs, hd]
  rw [v6a, v6a, List.setIfInBounds_toArray, v6l, v6l]
  congr 1
  rw [List.set_append_right _ _ (by rw [h4]; omega), h4]; rfl
end Go.Proofs.Ytobkiffiapjhgaa

/-
  The struct api.UDP as data: its cells, its value, a block that holds one. Conditions are each theorem's own.
-/
namespace Go.Proofs.Ytobkiffiapjhgaa
open Go.RowKit Go.ChangeShapes Go.WideShapes

structure PU where
  src : Int
  dst : Int
  nosum : Bool
  dat : List UInt8
def usz : PU := ⟨0, 0, false, []⟩
/-- Its cells. -/
def usa (q : PU) (A : Option Addr) (c : Nat) : Array Value := #[.int .i64 q.src, .int .i64 q.dst, .bool q.nosum, .slice A q.dat.length c]
def usv (q : PU) (A : Option Addr) (c : Nat) : Value := .agg #[.int .i64 q.src, .int .i64 q.dst, .bool q.nosum, .slice A q.dat.length c]
theorem usv_eq (q : PU) (A : Option Addr) (c : Nat) : usv q A c = .agg (usa q A c) := rfl
def PU.fits (q : PU) : Prop := ∀ n ∈ [q.src, q.dst], (Lit.int .i64 n).wf = true
theorem usa_size (q : PU) (A : Option Addr) (c : Nat) : (usa q A c).size = 4 := rfl
theorem us_one (q : PU) (A : Option Addr) (c : Nat) : (usa q A c).all (·.oneCell') = true := by simp [usa, Value.oneCell']
section
variable {H : Type} {enc : TypeId × Value → H} {w : World} {base : Nat} {v : Value} {d : DataW H} {p : List MemPlace}
end
/-- It lies in a block of its own. -/
def Atus (W : World) (g : Nat) (q : PU) (A : Option Addr) (c : Nat) : Prop := W.rangeAt g 0 (usa q A c).toList
section
variable {W : World} {g : Nat} {q : PU} {A : Option Addr} {c : Nat}
theorem Atus.of_heap {t : TypeId} {fr : Nat × Nat} (h : W.heap[g]? = some (.cells (usa q A c) t fr)) : Atus W g q A c := fun j v hj => by
  rw [cell_of_row W g (0 + j) _ _ _ h, Nat.zero_add, ← Array.getElem?_toList]; exact hj
theorem Atus.below {w : World} {B : Nat} (h : Atus W g q A c) (hb : Below B W w) (hg : g < B) : Atus w g q A c := range_below h hg hb
theorem Atus.src (h : Atus W g q A c) : W.cell? ⟨g, 0, none⟩ = some (.int .i64 q.src) := h 0 _ rfl
theorem Atus.dst (h : Atus W g q A c) : W.cell? ⟨g, 1, none⟩ = some (.int .i64 q.dst) := h 1 _ rfl
theorem Atus.nosum (h : Atus W g q A c) : W.cell? ⟨g, 2, none⟩ = some (.bool q.nosum) := h 2 _ rfl
theorem Atus.dat (h : Atus W g q A c) : W.cell? ⟨g, 3, none⟩ = some (.slice A q.dat.length c) := h 3 _ rfl
end
end Go.Proofs.Ytobkiffiapjhgaa

/-
  Datagrams of UDP in plain lists of bytes: what may be, its bytes, what bytes are. No program. Conditions are each theorem's own.
-/
namespace Go.Proofs.Ytobkiffiapjhgaa
open Go.RowKit

/-- What is told of a number in so many bytes. -/
def msk (ps : List (Int × Int)) : List (Int × Int) := ps.map fun x => (x.1 % pw x.2.toNat, x.2)
theorem msk_len (ps : List (Int × Int)) : (msk ps).length = ps.length := by simp [msk]
theorem msk_get {ps : List (Int × Int)} {k : Nat} {x : Int × Int} (h : ps[k]? = some x) : (msk ps)[k]? = some (x.1 % pw x.2.toNat, x.2) := by simp [msk, h]
theorem be2_mod (n : Int) : be2 (n % 65536) = be2 n := by
  have e : ∀ a b : Int, a % 256 = b % 256 → u8 a = u8 b := fun a b h => by apply UInt8.toNat_inj.1; have h1 := u8_val a; have h2 := u8_val b; omega
  unfold be2
  rw [e (n % 65536 / 256) (n / 256) (by omega), e (n % 65536) n (by omega)]
theorem be4_mod (n : Int) : be4 (n % 4294967296) = be4 n := by
  have e : ∀ a b : Int, a % 256 = b % 256 → u8 a = u8 b := fun a b h => by apply UInt8.toNat_inj.1; have h1 := u8_val a; have h2 := u8_val b; omega
  unfold be4
  rw [e (n % 4294967296 / 16777216) (n / 16777216) (by omega), e (n % 4294967296 / 65536) (n / 65536) (by omega), e (n % 4294967296 / 256) (n / 256) (by omega), e (n % 4294967296) n (by omega)]
theorem u8_mod (n : Int) : u8 (n % 256) = u8 n := by apply UInt8.toNat_inj.1; have h1 := u8_val (n % 256); have h2 := u8_val n; omega
theorem pw1 : pw (1 : Int).toNat = 256 := rfl
theorem pw2 : pw (2 : Int).toNat = 65536 := rfl
theorem pw4 : pw (4 : Int).toNat = 4294967296 := rfl
theorem putm_one (bs : List UInt8) (n : Int) : putB bs (n % 256) 1 = bs ++ [u8 n] := by rw [put_one (by omega) (by omega), u8_mod]
theorem putm_two (bs : List UInt8) (n : Int) : putB bs (n % 65536) 2 = bs ++ be2 n := by rw [put_two (by omega) (by omega), be2_mod]
theorem putm_four (bs : List UInt8) (n : Int) : putB bs (n % 4294967296) 4 = bs ++ be4 n := by rw [put_four (by omega) (by omega), be4_mod]
/-- What a sum is of, too. -/
def psd (src dst proto size : Int) : List UInt8 := be4 src ++ be4 dst ++ [u8 0] ++ [u8 proto] ++ be2 size
theorem psd_len (src dst proto size : Int) : (psd src dst proto size).length = 12 := by simp [psd, be4, be2]
theorem putL_psd (src dst proto size : Int) : putL (msk [(src, 4), (dst, 4), (0, 1), (proto, 1), (size, 2)]) = psd src dst proto size := by
  simp only [msk, List.map, putL, List.foldl_cons, List.foldl_nil, pw1, pw2, pw4]
  rw [putm_four, putm_four, putm_one, putm_one, putm_two]; rfl
/-- A head. -/
def hdU (q : PU) (s : Int) : List UInt8 := be2 q.src ++ be2 q.dst ++ be2 (8 + (q.dat.length : Int)) ++ be2 s
theorem hdU_len (q : PU) (s : Int) : (hdU q s).length = 8 := by simp [hdU, be2]
theorem putL_hdU (q : PU) (s : Int) : putL (msk [(q.src, 2), (q.dst, 2), (8 + (q.dat.length : Int), 2), (s, 2)]) = hdU q s := by
  simp only [msk, List.map, putL, List.foldl_cons, List.foldl_nil, pw2]
  rw [putm_two, putm_two, putm_two, putm_two]; rfl
/-- The sum, and what stands in its place. -/
def smU (src dst : Int) (q : PU) : Int := 65535 - fold (psum [psd src dst 17 (8 + (q.dat.length : Int)), hdU q 0, q.dat])
theorem smU_bd (src dst : Int) (q : PU) : 0 ≤ smU src dst q ∧ smU src dst q ≤ 65535 := by
  have := fold_bd (psum [psd src dst 17 (8 + (q.dat.length : Int)), hdU q 0, q.dat]); unfold smU; omega
def ckU (src dst : Int) (q : PU) : Int := if q.nosum then 0 else if smU src dst q = 0 then 65535 else smU src dst q
theorem ckU_bd (src dst : Int) (q : PU) : 0 ≤ ckU src dst q ∧ ckU src dst q ≤ 65535 := by
  have := smU_bd src dst q; unfold ckU; split
  · omega
  · split <;> omega
def bldU (src dst : Int) (q : PU) : List UInt8 := hdU q (ckU src dst q) ++ q.dat
theorem bldU_len (src dst : Int) (q : PU) : (bldU src dst q).length = 8 + q.dat.length := by rw [bldU, List.length_append, hdU_len]
def argU (q : PU) : Prop := 0 ≤ q.src ∧ q.src ≤ 65535 ∧ 0 ≤ q.dst ∧ q.dst ≤ 65535
instance (q : PU) : Decidable (argU q) := by unfold argU; infer_instance
def chkU (q : PU) : Int := if argU q then (if q.dat.length > 65527 then 6 else 0) else 1
theorem chkU_ok {q : PU} (h : chkU q = 0) : argU q ∧ q.dat.length ≤ 65527 := by
  unfold chkU at h
  split at h
  · rename_i ha
    split at h
    · cases h
    · exact ⟨ha, by omega⟩
  · cases h
/-- What is wrong with bytes; nothing: 0. -/
def badU (src dst : Int) (b : List UInt8) : Int :=
  if b.length < 8 then 3
  else if n2 b 4 > (b.length : Int) then 3
  else if n2 b 4 < (b.length : Int) then 4
  else if n2 b 6 ≠ 0 ∧ rightB [psd src dst 17 (n2 b 4), b] = false then 5
  else 0
def rawU (b : List UInt8) : PU := ⟨n2 b 0, n2 b 2, decide (n2 b 6 = 0), b.drop 8⟩
def prsU (src dst : Int) (b : List UInt8) : PU := if badU src dst b = 0 then rawU b else usz
/-- Are two the same? -/
def sameU (q r : PU) : Bool := (q.src == r.src && q.dst == r.dst) && (q.nosum == r.nosum) && decide (q.dat = r.dat)
theorem sameU_iff {q r : PU} : sameU q r = true ↔ q = r := by
  obtain ⟨a0, a1, a2, a3⟩ := q
  obtain ⟨b0, b1, b2, b3⟩ := r
  simp only [sameU, Bool.and_eq_true, beq_iff_eq, decide_eq_true_eq, PU.mk.injEq]
  constructor
  · rintro ⟨⟨⟨h0, h1⟩, h2⟩, h3⟩; exact ⟨h0, h1, h2, h3⟩
  · rintro ⟨h0, h1, h2, h3⟩; exact ⟨⟨⟨h0, h1⟩, h2⟩, h3⟩
/-- Bytes after bytes of even length. -/
theorem psum_glue (a b c : List UInt8) {m : Nat} (h : b.length = 2 * m) : psum [a, b, c] = psum [a, b ++ c] := by
  simp only [psum_cons]
  rw [wall_append h]; omega
theorem psum_glue2 (a b : List UInt8) {m : Nat} (h : a.length = 2 * m) : psum [a, b] = psum [a ++ b] := by
  simp only [psum_cons]
  rw [wall_append h]; omega
theorem smU_two (src dst : Int) (q : PU) : 65535 - fold (psum [psd src dst 17 (8 + (q.dat.length : Int)), hdU q 0 ++ q.dat]) = smU src dst q := by
  rw [smU, psum_glue _ _ _ (m := 4) (hdU_len q 0)]
/-- What is built is right. -/
theorem hdU_wall (q : PU) {s : Int} (h0 : 0 ≤ s) (h1 : s ≤ 65535) : wall (hdU q s) = wall (hdU q 0) + s := by
  have z : ∀ n : Int, 0 ≤ n → n ≤ 65535 → wall (hdU q n) = wall (be2 q.src ++ be2 q.dst ++ be2 (8 + (q.dat.length : Int))) + n := fun n a b => by
    rw [hdU, wall_append (m := 3) (by simp [be2]), be2_wall a b]
  rw [z s h0 h1, z 0 (by omega) (by omega)]; omega
theorem psum_nn (ps : List (List UInt8)) : 0 ≤ psum ps := (psum_bd ps).1
theorem right_of {S s : Int} (h : 0 ≤ S) (hs : s = 65535 - fold S) : fold (S + s) = 65535 := by subst hs; exact fold_right h
theorem right_full {S : Int} (hs : 65535 - fold S = 0) : fold (S + 65535) = 65535 := by
  unfold fold at *; split at hs
  · omega
  · split <;> omega
theorem bldU_right (src dst : Int) (q : PU) (hn : q.nosum = false) : rightB [psd src dst 17 (8 + (q.dat.length : Int)), bldU src dst q] = true := by
  have e : psum [psd src dst 17 (8 + (q.dat.length : Int)), bldU src dst q] = psum [psd src dst 17 (8 + (q.dat.length : Int)), hdU q 0, q.dat] + ckU src dst q := by
    rw [bldU, ← psum_glue _ _ _ (m := 4) (hdU_len q _)]
    simp only [psum_cons]
    rw [hdU_wall q (ckU_bd src dst q).1 (ckU_bd src dst q).2]; omega
  rw [rightB, e]
  have hp := psum_nn [psd src dst 17 (8 + (q.dat.length : Int)), hdU q 0, q.dat]
  have hs : smU src dst q = 65535 - fold (psum [psd src dst 17 (8 + (q.dat.length : Int)), hdU q 0, q.dat]) := rfl
  unfold ckU
  rw [hn]
  simp only [Bool.false_eq_true, if_false]
  by_cases h : smU src dst q = 0
  · rw [if_pos h, right_full (by omega)]; rfl
  · rw [if_neg h, right_of hp hs]; rfl
theorem n2_be2 {a b : List UInt8} {n : Int} (h0 : 0 ≤ n) (h1 : n ≤ 65535) {k : Nat} (hk : a.length = k) : n2 (a ++ (be2 n ++ b)) k = n := by
  have e0 : byt (a ++ (be2 n ++ b)) (a.length + 0) = byt (be2 n ++ b) 0 := byt_right
  have e1 : byt (a ++ (be2 n ++ b)) (a.length + 1) = byt (be2 n ++ b) 1 := byt_right
  subst hk
  unfold n2
  rw [show a.length = a.length + 0 from rfl, e0, Nat.add_zero, e1]
  have c0 : byt (be2 n ++ b) 0 = n / 256 % 256 := u8_val _
  have c1 : byt (be2 n ++ b) 1 = n % 256 := u8_val _
  rw [c0, c1]; omega
theorem backU {src dst : Int} {q : PU} (h : chkU q = 0) : badU src dst (bldU src dst q) = 0 ∧ prsU src dst (bldU src dst q) = q := by
  obtain ⟨⟨a1, a2, a3, a4⟩, hl⟩ := chkU_ok h
  have hc := ckU_bd src dst q
  have hlen := bldU_len src dst q
  have f0 : n2 (bldU src dst q) 0 = q.src := by
    rw [bldU, hdU, List.append_assoc, List.append_assoc, List.append_assoc]; exact n2_be2 (a := []) a1 a2 rfl
  have f2 : n2 (bldU src dst q) 2 = q.dst := by
    rw [bldU, hdU, List.append_assoc, List.append_assoc, List.append_assoc]; exact n2_be2 (a := be2 q.src) a3 a4 rfl
  have f4 : n2 (bldU src dst q) 4 = 8 + (q.dat.length : Int) := by
    rw [bldU, hdU, List.append_assoc, List.append_assoc]; exact n2_be2 (a := be2 q.src ++ be2 q.dst) (by omega) (by omega) rfl
  have f6 : n2 (bldU src dst q) 6 = ckU src dst q := by
    rw [bldU, hdU, List.append_assoc]; exact n2_be2 (a := be2 q.src ++ be2 q.dst ++ be2 (8 + (q.dat.length : Int))) hc.1 hc.2 rfl
  have hz : (ckU src dst q = 0) ↔ q.nosum = true := by
    have := smU_bd src dst q
    unfold ckU
    cases hn : q.nosum
    · simp only [Bool.false_eq_true, if_false, iff_false]
      split <;> omega
    · simp
  have hb : badU src dst (bldU src dst q) = 0 := by
    unfold badU
    rw [if_neg (by omega), f4, f6, if_neg (by omega), if_neg (by omega), if_neg ?_]
    rintro ⟨g1, g2⟩
    have hn : q.nosum = false := by cases hn : q.nosum; rfl; exact absurd (hz.2 hn) g1
    rw [bldU_right src dst q hn] at g2; cases g2
  refine ⟨hb, ?_⟩
  rw [prsU, if_pos hb, rawU, f0, f2, f6]
  have hd : (bldU src dst q).drop 8 = q.dat := by rw [bldU, List.drop_left' (hdU_len q _)]
  rw [hd]
  have : decide (ckU src dst q = 0) = q.nosum := by
    rw [Bool.eq_iff_iff, decide_eq_true_iff]; exact hz
  rw [this]
end Go.Proofs.Ytobkiffiapjhgaa

/-
  The struct api.TCP as data: its cells, its value, a block that holds one. Conditions are each theorem's own.
-/
namespace Go.Proofs.Ytobkiffiapjhgaa
open Go.RowKit Go.ChangeShapes Go.WideShapes

structure PT where
  src : Int
  dst : Int
  seq : Int
  ack : Int
  res : Int
  flags : Int
  win : Int
  urg : Int
  opt : List UInt8
  dat : List UInt8
def tsz : PT := ⟨0, 0, 0, 0, 0, 0, 0, 0, [], []⟩
/-- Its cells. -/
def tsa (q : PT) (A : Option Addr) (c : Nat) (A' : Option Addr) (c' : Nat) : Array Value := #[.int .i64 q.src, .int .i64 q.dst, .int .i64 q.seq, .int .i64 q.ack, .int .i64 q.res, .int .i64 q.flags, .int .i64 q.win, .int .i64 q.urg, .slice A q.opt.length c, .slice A' q.dat.length c']
def tsv (q : PT) (A : Option Addr) (c : Nat) (A' : Option Addr) (c' : Nat) : Value := .agg #[.int .i64 q.src, .int .i64 q.dst, .int .i64 q.seq, .int .i64 q.ack, .int .i64 q.res, .int .i64 q.flags, .int .i64 q.win, .int .i64 q.urg, .slice A q.opt.length c, .slice A' q.dat.length c']
theorem tsv_eq (q : PT) (A : Option Addr) (c : Nat) (A' : Option Addr) (c' : Nat) : tsv q A c A' c' = .agg (tsa q A c A' c') := rfl
def PT.fits (q : PT) : Prop := ∀ n ∈ [q.src, q.dst, q.seq, q.ack, q.res, q.flags, q.win, q.urg], (Lit.int .i64 n).wf = true
theorem tsa_size (q : PT) (A : Option Addr) (c : Nat) (A' : Option Addr) (c' : Nat) : (tsa q A c A' c').size = 10 := rfl
theorem ts_one (q : PT) (A : Option Addr) (c : Nat) (A' : Option Addr) (c' : Nat) : (tsa q A c A' c').all (·.oneCell') = true := by simp [tsa, Value.oneCell']
section
variable {H : Type} {enc : TypeId × Value → H} {w : World} {base : Nat} {v : Value} {d : DataW H} {p : List MemPlace}
end
/-- It lies in a block of its own. -/
def Atts (W : World) (g : Nat) (q : PT) (A : Option Addr) (c : Nat) (A' : Option Addr) (c' : Nat) : Prop := W.rangeAt g 0 (tsa q A c A' c').toList
section
variable {W : World} {g : Nat} {q : PT} {A : Option Addr} {c : Nat} {A' : Option Addr} {c' : Nat}
theorem Atts.of_heap {t : TypeId} {fr : Nat × Nat} (h : W.heap[g]? = some (.cells (tsa q A c A' c') t fr)) : Atts W g q A c A' c' := fun j v hj => by
  rw [cell_of_row W g (0 + j) _ _ _ h, Nat.zero_add, ← Array.getElem?_toList]; exact hj
theorem Atts.below {w : World} {B : Nat} (h : Atts W g q A c A' c') (hb : Below B W w) (hg : g < B) : Atts w g q A c A' c' := range_below h hg hb
theorem Atts.src (h : Atts W g q A c A' c') : W.cell? ⟨g, 0, none⟩ = some (.int .i64 q.src) := h 0 _ rfl
theorem Atts.dst (h : Atts W g q A c A' c') : W.cell? ⟨g, 1, none⟩ = some (.int .i64 q.dst) := h 1 _ rfl
theorem Atts.seq (h : Atts W g q A c A' c') : W.cell? ⟨g, 2, none⟩ = some (.int .i64 q.seq) := h 2 _ rfl
theorem Atts.ack (h : Atts W g q A c A' c') : W.cell? ⟨g, 3, none⟩ = some (.int .i64 q.ack) := h 3 _ rfl
theorem Atts.res (h : Atts W g q A c A' c') : W.cell? ⟨g, 4, none⟩ = some (.int .i64 q.res) := h 4 _ rfl
theorem Atts.flags (h : Atts W g q A c A' c') : W.cell? ⟨g, 5, none⟩ = some (.int .i64 q.flags) := h 5 _ rfl
theorem Atts.win (h : Atts W g q A c A' c') : W.cell? ⟨g, 6, none⟩ = some (.int .i64 q.win) := h 6 _ rfl
theorem Atts.urg (h : Atts W g q A c A' c') : W.cell? ⟨g, 7, none⟩ = some (.int .i64 q.urg) := h 7 _ rfl
theorem Atts.opt (h : Atts W g q A c A' c') : W.cell? ⟨g, 8, none⟩ = some (.slice A q.opt.length c) := h 8 _ rfl
theorem Atts.dat (h : Atts W g q A c A' c') : W.cell? ⟨g, 9, none⟩ = some (.slice A' q.dat.length c') := h 9 _ rfl
end
end Go.Proofs.Ytobkiffiapjhgaa
