/-
  Contracts of the document's plain answers of layer 4: Less, Host, Of. Conditions are each theorem's own.
-/
import Derived.Test.YtokcelbpiglieaaDoorBase
import Derived.Test.YtokcelbpiglieaaDoorSixM
import Derived.ChangeKeysEq
import Derived.Deep.WholeRow
namespace Go.Proofs.YtokcelbpiglieaaDoor
open Go.RowKit

theorem items_eq (a b : List UInt8) (d : Nat) (w : World) : ∀ is : List Nat, (∀ i ∈ is, i < a.length ∧ i < b.length) →
    (Op.eqItems (d + 1) 5 1 (cel a) (cel b) is).run Tryd.prog w = .ok (decide (∀ i ∈ is, byt a i = byt b i)) w
  | [], _ => by simp [Op.eqItems]
  | i :: is, h => by
    have hp : Tryd.prog.plainKey 5 = true := by kernel_rfl
    obtain ⟨h1, h2⟩ := h i (by simp)
    have p1 := run_part_plain (P := Tryd.prog) w hp (off := i * 1) (by rw [Nat.mul_one]; exact cel_get a h1)
    have p2 := run_part_plain (P := Tryd.prog) w hp (off := i * 1) (by rw [Nat.mul_one]; exact cel_get b h2)
    have p3 := run_equalIn_int w d 5 .u8 .u8 (byt a i) (byt b i) Tryd.underlying5
    have ih := items_eq a b d w is (fun j hj => h j (by simp [hj]))
    simp only [Op.eqItems, Sem.run_bind, p1, p2, p3, Result.andThen_ok]
    by_cases he : byt a i = byt b i
    · simp [he, ih]
    · simp [he]
theorem same_bytes {a b : List UInt8} (ha : a.length = 16) (hb : b.length = 16) : (∀ i ∈ List.range 16, byt a i = byt b i) ↔ a = b := by
  constructor
  · intro h
    refine List.ext_getElem (by omega) fun i h1 h2 => ?_
    exact (byt_eq h1 h2).1 (h i (by simp; omega))
  · rintro rfl i _; rfl
theorem six_eq (a b : List UInt8) (ha : a.length = 16) (hb : b.length = 16) (w : World) :
    (Op.equalIn 10000 31 (.agg (cel a)) (.agg (cel b))).run Tryd.prog w = .ok (decide (a = b)) w := by
  have hi : ∃ i, Tryd.prog.info? 5 = some i := Option.isSome_iff_exists.1 (by kernel_rfl)
  obtain ⟨i, hi⟩ := hi
  have hc : Tryd.prog.cellsOf 5 = 1 := by kernel_rfl
  rw [show (10000 : Nat) = 9998 + 1 + 1 from rfl, run_equalIn_array w 9999 (cel a) (cel b) Tryd.underlying31 hi, hc, items_eq a b 9998 w _ (by simp; omega)]
  congr 1
  rw [decide_eq_decide]
  exact same_bytes ha hb

theorem r4less (a b : List UInt8) (ha : a.length = 16) (hb : b.length = 16) (w : World) :
    Calls Tryd.prog 26 #[.agg (cel a), .agg (cel b)] w fun e w' => e = .returned (.bool (lexL a b)) ∧ Below w.heap.size w w' := by
  have hX : ∀ j, j < 16 → ((w.alloc (.cells (cel a) 31)).alloc (.cells (cel b) 31)).cell? ⟨w.heap.size, j, none⟩ = some (.int .u8 (byt a j)) := fun j h => two_first w a b 31 31 (by omega)
  have hY : ∀ j, j < 16 → ((w.alloc (.cells (cel a) 31)).alloc (.cells (cel b) 31)).cell? ⟨w.heap.size + 1, j, none⟩ = some (.int .u8 (byt b j)) := fun j h => two_second w a b 31 31 (by omega)
  have hB := below_two w (.cells (cel a) 31) (.cells (cel b) 31)
  go_enter Tryd.func26, Tryd.ntmps26
  go_wp2
  generalize (w.alloc (.cells (cel a) 31)).alloc (.cells (cel b) 31) = W at *
  go_loopw [5] (fun i wr => ∃ k q : Nat, k ≤ 16 ∧ Hid (lexL a b = lexL (a.drop k) (b.drop k)) ∧ i = .int .i64 (k : Int) ∧ wr = W.drewN q) (fun i _ => 16 - (intOf i).toNat)
  case atStart => exact ⟨0, 0, Nat.zero_le _, Lib.hid rfl, rfl, rfl⟩
  case round =>
    obtain ⟨k, q, hk, HL, rfl, rfl⟩ := hrel
    by_cases hlt : k < 16
    · have hx := cel_get a (show k < a.length by omega)
      have hy := cel_get b (show k < b.length by omega)
      by_cases he : byt a k = byt b k
      · have HS := Lib.hid (lex_same (show k < a.length by omega) (show k < b.length by omega) HL.out he)
        clear HL
        go_wp2
        go_region
        go_wp2
        go_roundw
        case rel => exact ⟨k + 1, _, by omega, HS, by simp, rfl⟩
        case measure => simp [intOf]; omega
      · have HS := Lib.hid (lex_here (show k < a.length by omega) (show k < b.length by omega) HL.out he)
        go_wp2
        go_region
        go_wp2
        go_region
        go_wp2
        go_ret
        exact ⟨ret_bool HS.out.symm, below_n hB _⟩
    · obtain rfl : k = 16 := by omega
      have HS := Lib.hid (lex_end (show a.length ≤ 16 by omega) HL.out)
      go_wp2
      go_ret
      exact ⟨ret_bool HS.out.symm, below_n hB _⟩

theorem six_nul (a : List UInt8) (ha : a.length = 16) (w : World) :
    (Op.equalIn 10000 31 (.agg (cel a)) (.agg #[.int .u8 0, .int .u8 0, .int .u8 0, .int .u8 0, .int .u8 0, .int .u8 0, .int .u8 0, .int .u8 0, .int .u8 0, .int .u8 0, .int .u8 0, .int .u8 0, .int .u8 0, .int .u8 0, .int .u8 0, .int .u8 0])).run Tryd.prog w = .ok (decide (a = nul)) w := six_eq a nul ha rfl w
/-- A whole address is read out of a block of its own. -/
theorem six_load {ops : Array Oper} {rest : List Oper} {d : Tmp} {x : Operand} {ty : TypeId} {pos : String} {af : Array Edge} {a : Act} {w : World} {Q : Exit → Act → World → Prop}
    {g : Nat} {t : TypeId} {cs : List UInt8} {fr : Nat × Nat} (hx : a.eval x = .pointer (some ⟨g, 0, none⟩)) (hg : w.heap[g]? = some (.cells (cel cs) t fr)) (hl : cs.length = 16)
    (h : wpList Tryd.prog ops Q rest (a.put (some d) (.agg (cel cs))) w) : wpList Tryd.prog ops Q (⟨some d, .load 31 x, ty, pos, af, none⟩ :: rest) a w :=
  wpList_load_row rfl 31 x rfl g hx t (cel cs) fr _ hg Tryd.underlying31 rfl (by rw [cel_size, hl]; kernel_rfl) h
/-- A whole address is stored into a block of its own. -/
theorem six_store {ops : Array Oper} {rest : List Oper} {x y : Operand} {ty : TypeId} {pos : String} {af : Array Edge} {a : Act} {w : World} {Q : Exit → Act → World → Prop}
    {g : Nat} {t : TypeId} {cs : List UInt8} {old : Array Value} (hx : a.eval x = .pointer (some ⟨g, 0, none⟩)) (hy : a.eval y = .agg (cel cs)) (hg : w.heap[g]? = some (.cells old t (0, 0))) (ho : old.size = 16) (hl : cs.length = 16)
    (h : wpList Tryd.prog ops Q rest (a.put none undef) (w.setRow g (cel cs))) : wpList Tryd.prog ops Q (⟨none, .store 31 x y, ty, pos, af, none⟩ :: rest) a w :=
  wpList_plain rfl fun _ hK => wp_store_row 31 x y rfl g (cel cs) hx hy t old hg (by rw [cel_size, hl]; kernel_rfl) (by rw [ho, cel_size, hl])
    (Array.all_eq_true_iff_forall_mem.2 fun v hv => row_one cs v (by simpa [cel] using hv)) (hK _ _ h)
/-- A whole address is stored into the block that was made last. -/
theorem six_store_new {ops : Array Oper} {rest : List Oper} {x y : Operand} {ty : TypeId} {pos : String} {af : Array Edge} {a : Act} {w : World} {Q : Exit → Act → World → Prop}
    {t : TypeId} {cs : List UInt8} {old : Array Value} (hx : a.eval x = .pointer (some ⟨w.heap.size, 0, none⟩)) (hy : a.eval y = .agg (cel cs)) (ho : old.size = 16) (hl : cs.length = 16)
    (h : wpList Tryd.prog ops Q rest (a.put none undef) (w.alloc (.cells (cel cs) t))) : wpList Tryd.prog ops Q (⟨none, .store 31 x y, ty, pos, af, none⟩ :: rest) a (w.alloc (.cells old t)) :=
  six_store hx hy (World.alloc_heap_new w _) ho hl (by rw [World.setRow_alloc_new]; exact h)
/-- One result, an address in a block of its own. -/
theorem six_result {fn : Func} {p : Tmp} {tmps : Array Value} {w : World} {g : Nat} {t : TypeId} {cs : List UInt8} {fr : Nat × Nat} (h : fn.results = #[.cell p 31])
    (hp : tmps.getD p undef = .pointer (some ⟨g, 0, none⟩)) (hg : w.heap[g]? = some (.cells (cel cs) t fr)) (hl : cs.length = 16) : (results fn tmps).run Tryd.prog w = .ok (.agg (cel cs)) w :=
  results_cell_row h tmps w g t (cel cs) fr _ hp hg Tryd.underlying31 rfl (by rw [cel_size, hl]; kernel_rfl)
/-- Two results: an address in a block of its own, and a slot. -/
theorem six_result2 {fn : Func} {p q : Tmp} {tmps : Array Value} {w : World} {g : Nat} {t : TypeId} {cs : List UInt8} {fr : Nat × Nat} (h : fn.results = #[.cell p 31, .tmp q])
    (hp : tmps.getD p undef = .pointer (some ⟨g, 0, none⟩)) (hg : w.heap[g]? = some (.cells (cel cs) t fr)) (hl : cs.length = 16) :
    (results fn tmps).run Tryd.prog w = .ok (.tuple #[.agg (cel cs), tmps.getD q undef]) w := by
  have hp' : tmps[p]?.getD undef = .pointer (some ⟨g, 0, none⟩) := by simpa using hp
  have hr := run_loadVar_row (P := Tryd.prog) w g t 31 (cel cs) fr _ hg Tryd.underlying31 rfl (by rw [cel_size, hl]; kernel_rfl)
  simp [results, h, hp', asAddr, hr]
theorem r4host (a : List UInt8) (ha : a.length = 16) (w : World) :
    Calls Tryd.prog 24 #[.agg (cel a)] w fun e w' => e = .returned (.bool (host6 a)) ∧ Below w.heap.size w w' := by
  have h0 : (w.alloc (.cells (cel a) 31)).cell? ⟨w.heap.size, 0, none⟩ = some (.int .u8 (byt a 0)) := by rw [World.cell?_alloc_new]; exact cel_get a (by omega)
  have hB := (Below.refl w.heap.size w).alloc (Nat.le_refl _) (.cells (cel a) 31)
  have hg := World.alloc_heap_new w (.cells (cel a) 31)
  have hZ := six_nul a ha
  by_cases hn : a = nul
  · have hz : decide (a = nul) = true := by simpa using hn
    clear hn
    go_enter Tryd.func24, Tryd.ntmps24
    go_wp2_with ((with_reducible show wpList _ _ _ (Oper.mk _ (Op.load _ _) _ _ _ _ :: _) _ _); refine six_load (g := w.heap.size) rfl hg ha ?_)
    go_ret
    exact ⟨ret_bool (by rw [host6, hz]; rfl), hB⟩
  · have hz : decide (a = nul) = false := by simpa using hn
    clear hn
    go_enter Tryd.func24, Tryd.ntmps24
    go_wp2_with ((with_reducible show wpList _ _ _ (Oper.mk _ (Op.load _ _) _ _ _ _ :: _) _ _); refine six_load (g := w.heap.size) rfl hg ha ?_)
    go_ret
    exact ⟨ret_bool (by rw [host6, hz]; rfl), hB⟩
end Go.Proofs.YtokcelbpiglieaaDoor
