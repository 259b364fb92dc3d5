/-
  Contracts of the document's plain answers of layer 4: Less, Host, Of. Conditions are each theorem's own.
-/
import Derived.Test.YtcfcmnhnijjehaaBase
import Derived.Test.YtcfcmnhnijjehaaSixM
import Derived.ChangeKeysEq
import Derived.Deep.WholeRow
namespace Go.Proofs.Ytcfcmnhnijjehaa
open Go.RowKit

theorem items_eq (a b : List UInt8) (d : Nat) (w : World) : ∀ is : List Nat, (∀ i ∈ is, i < a.length ∧ i < b.length) →
    (Op.eqItems (d + 1) 5 1 (cel a) (cel b) is).run Try.prog w = .ok (decide (∀ i ∈ is, byt a i = byt b i)) w
  | [], _ => by simp [Op.eqItems]
  | i :: is, h => by
    have hp : Try.prog.plainKey 5 = true := by kernel_rfl
    obtain ⟨h1, h2⟩ := h i (by simp)
    have p1 := run_part_plain (P := Try.prog) w hp (off := i * 1) (by rw [Nat.mul_one]; exact cel_get a h1)
    have p2 := run_part_plain (P := Try.prog) w hp (off := i * 1) (by rw [Nat.mul_one]; exact cel_get b h2)
    have p3 := run_equalIn_int w d 5 .u8 .u8 (byt a i) (byt b i) Try.underlying5
    have ih := items_eq a b d w is (fun j hj => h j (by simp [hj]))
    simp only [Op.eqItems, Sem.run_bind, p1, p2, p3, Result.andThen_ok]
    by_cases he : byt a i = byt b i
    · simp [he, ih]
    · simp [he]
theorem same_bytes {a b : List UInt8} (ha : a.length = 16) (hb : b.length = 16) : (∀ i ∈ List.range 16, byt a i = byt b i) ↔ a = b := by
  constructor
  · intro h
    refine List.ext_getElem (by omega) fun i h1 h2 => ?_
    exact (byt_eq h1 h2).1 (h i (by simp; omega))
  · rintro rfl i _; rfl
set_option maxRecDepth 100000 in
theorem six_eq (a b : List UInt8) (ha : a.length = 16) (hb : b.length = 16) (w : World) :
    (Op.equalIn 10000 42 (.agg (cel a)) (.agg (cel b))).run Try.prog w = .ok (decide (a = b)) w := by
  have hi : ∃ i, Try.prog.info? 5 = some i := Option.isSome_iff_exists.1 (by kernel_rfl)
  obtain ⟨i, hi⟩ := hi
  have hc : Try.prog.cellsOf 5 = 1 := by kernel_rfl
  rw [show (10000 : Nat) = 9998 + 1 + 1 from rfl, run_equalIn_array w 9999 (cel a) (cel b) Try.underlying42 hi, hc, items_eq a b 9998 w _ (by simp; omega)]
  congr 1
  rw [decide_eq_decide]
  exact same_bytes ha hb

theorem six_nul (a : List UInt8) (ha : a.length = 16) (w : World) :
    (Op.equalIn 10000 42 (.agg (cel a)) (.agg #[.int .u8 0, .int .u8 0, .int .u8 0, .int .u8 0, .int .u8 0, .int .u8 0, .int .u8 0, .int .u8 0, .int .u8 0, .int .u8 0, .int .u8 0, .int .u8 0, .int .u8 0, .int .u8 0, .int .u8 0, .int .u8 0])).run Try.prog w = .ok (decide (a = nul)) w := six_eq a nul ha rfl w
/-- A whole address is read out of a block of its own. -/
theorem six_load {ops : Array Oper} {rest : List Oper} {d : Tmp} {x : Operand} {ty : TypeId} {pos : String} {af : Array Edge} {a : Act} {w : World} {Q : Exit → Act → World → Prop}
    {g : Nat} {t : TypeId} {cs : List UInt8} {fr : Nat × Nat} (hx : a.eval x = .pointer (some ⟨g, 0, none⟩)) (hg : w.heap[g]? = some (.cells (cel cs) t fr)) (hl : cs.length = 16)
    (h : wpList Try.prog ops Q rest (a.put (some d) (.agg (cel cs))) w) : wpList Try.prog ops Q (⟨some d, .load 42 x, ty, pos, af, none⟩ :: rest) a w :=
  wpList_load_row rfl 42 x rfl g hx t (cel cs) fr _ hg Try.underlying42 rfl (by rw [cel_size, hl]; kernel_rfl) h
/-- A whole address is stored into a block of its own. -/
theorem six_store {ops : Array Oper} {rest : List Oper} {x y : Operand} {ty : TypeId} {pos : String} {af : Array Edge} {a : Act} {w : World} {Q : Exit → Act → World → Prop}
    {g : Nat} {t : TypeId} {cs : List UInt8} {old : Array Value} (hx : a.eval x = .pointer (some ⟨g, 0, none⟩)) (hy : a.eval y = .agg (cel cs)) (hg : w.heap[g]? = some (.cells old t (0, 0))) (ho : old.size = 16) (hl : cs.length = 16)
    (h : wpList Try.prog ops Q rest (a.put none undef) (w.setRow g (cel cs))) : wpList Try.prog ops Q (⟨none, .store 42 x y, ty, pos, af, none⟩ :: rest) a w :=
  wpList_plain rfl fun _ hK => wp_store_row 42 x y rfl g (cel cs) hx hy t old hg (by rw [cel_size, hl]; kernel_rfl) (by rw [ho, cel_size, hl])
    (Array.all_eq_true_iff_forall_mem.2 fun v hv => row_one cs v (by simpa [cel] using hv)) (hK _ _ h)
/-- A whole address is stored into the block that was made last. -/
theorem six_store_new {ops : Array Oper} {rest : List Oper} {x y : Operand} {ty : TypeId} {pos : String} {af : Array Edge} {a : Act} {w : World} {Q : Exit → Act → World → Prop}
    {t : TypeId} {cs : List UInt8} {old : Array Value} (hx : a.eval x = .pointer (some ⟨w.heap.size, 0, none⟩)) (hy : a.eval y = .agg (cel cs)) (ho : old.size = 16) (hl : cs.length = 16)
    (h : wpList Try.prog ops Q rest (a.put none undef) (w.alloc (.cells (cel cs) t))) : wpList Try.prog ops Q (⟨none, .store 42 x y, ty, pos, af, none⟩ :: rest) a (w.alloc (.cells old t)) :=
  six_store hx hy (World.alloc_heap_new w _) ho hl (by rw [World.setRow_alloc_new]; exact h)
/-- One result, an address in a block of its own. -/
theorem six_result {fn : Func} {p : Tmp} {tmps : Array Value} {w : World} {g : Nat} {t : TypeId} {cs : List UInt8} {fr : Nat × Nat} (h : fn.results = #[.cell p 42])
    (hp : tmps.getD p undef = .pointer (some ⟨g, 0, none⟩)) (hg : w.heap[g]? = some (.cells (cel cs) t fr)) (hl : cs.length = 16) : (results fn tmps).run Try.prog w = .ok (.agg (cel cs)) w :=
  results_cell_row h tmps w g t (cel cs) fr _ hp hg Try.underlying42 rfl (by rw [cel_size, hl]; kernel_rfl)
/-- Two results: an address in a block of its own, and a slot. -/
theorem six_result2 {fn : Func} {p q : Tmp} {tmps : Array Value} {w : World} {g : Nat} {t : TypeId} {cs : List UInt8} {fr : Nat × Nat} (h : fn.results = #[.cell p 42, .tmp q])
    (hp : tmps.getD p undef = .pointer (some ⟨g, 0, none⟩)) (hg : w.heap[g]? = some (.cells (cel cs) t fr)) (hl : cs.length = 16) :
    (results fn tmps).run Try.prog w = .ok (.tuple #[.agg (cel cs), tmps.getD q undef]) w := by
  have hp' : tmps[p]?.getD undef = .pointer (some ⟨g, 0, none⟩) := by simpa using hp
  have hr := run_loadVar_row (P := Try.prog) w g t 42 (cel cs) fr _ hg Try.underlying42 rfl (by rw [cel_size, hl]; kernel_rfl)
  simp [results, h, hp', asAddr, hr]
end Go.Proofs.Ytcfcmnhnijjehaa
