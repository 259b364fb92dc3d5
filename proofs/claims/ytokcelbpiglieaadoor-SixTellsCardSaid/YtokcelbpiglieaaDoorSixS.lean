/-
  Contract of the project's function of layer 4 that tells an address's words: split. Conditions are each theorem's own.
-/
import Derived.Test.YtokcelbpiglieaaDoorSixB
namespace Go.Proofs.YtokcelbpiglieaaDoor
open Go.RowKit

/-- The words behind k rounds. -/
def w6v (a : List UInt8) (k : Nat) : List Value := (List.range 8).map fun i => if i < k then .int .i64 ((wrd6 a i : Nat) : Int) else .int .i64 0
def w6a (a : List UInt8) (k : Nat) : Array Value := (w6v a k).toArray
theorem w6a_size (a : List UInt8) (k : Nat) : (w6a a k).size = 8 := by simp [w6a, w6v]
theorem w6a_get (a : List UInt8) {k i : Nat} (h : i < 8) (hk : i < k) : (w6a a k)[i]? = some (.int .i64 ((wrd6 a i : Nat) : Int)) := by
  simp [w6a, w6v, h, hk]
theorem w6a_get0 (a : List UInt8) {k i : Nat} (h : i < 8) (hk : ¬ i < k) : (w6a a k)[i]? = some (.int .i64 0) := by
  simp [w6a, w6v, h, hk]
theorem w6a_set (a : List UInt8) {k : Nat} (hk : k < 8) : w6a a (k + 1) = (w6a a k).setIfInBounds k (.int .i64 ((wrd6 a k : Nat) : Int)) := by
  apply Array.ext_getElem?
  intro i
  rw [Array.getElem?_setIfInBounds]
  by_cases h8 : i < 8
  · by_cases he : k = i
    · subst he
      rw [if_pos rfl, if_pos (by rw [w6a_size]; omega), w6a_get a h8 (by omega)]
    · rw [if_neg he]
      by_cases hik : i < k
      · rw [w6a_get a h8 hik, w6a_get a h8 (by omega)]
      · rw [w6a_get0 a h8 hik, w6a_get0 a h8 (by omega)]
  · rw [Array.getElem?_eq_none (by rw [w6a_size]; omega), if_neg (by omega), Array.getElem?_eq_none (by rw [w6a_size]; omega)]
theorem w6a_one (a : List UInt8) (k : Nat) : (w6a a k).all Value.oneCell' = true := by
  refine Array.all_eq_true_iff_forall_mem.2 fun v hv => ?_
  simp only [w6a, w6v, List.mem_toArray, List.mem_map] at hv
  obtain ⟨i, _, rfl⟩ := hv
  split <;> rfl
/-- Eight words are read out of a block of their own, and stored into one. -/
theorem eight_load {ops : Array Oper} {rest : List Oper} {d : Tmp} {x : Operand} {ty : TypeId} {pos : String} {af : Array Edge} {a : Act} {w : World} {Q : Exit → Act → World → Prop}
    {g : Nat} {t : TypeId} {cs : Array Value} {fr : Nat × Nat} (hx : a.eval x = .pointer (some ⟨g, 0, none⟩)) (hg : w.heap[g]? = some (.cells cs t fr)) (hl : cs.size = 8)
    (h : wpList Tryd.prog ops Q rest (a.put (some d) (.agg cs)) w) : wpList Tryd.prog ops Q (⟨some d, .load 55 x, ty, pos, af, none⟩ :: rest) a w :=
  wpList_load_row rfl 55 x rfl g hx t cs fr _ hg Tryd.underlying55 rfl (by rw [hl]; kernel_rfl) h
theorem eight_store {ops : Array Oper} {rest : List Oper} {x y : Operand} {ty : TypeId} {pos : String} {af : Array Edge} {a : Act} {w : World} {Q : Exit → Act → World → Prop}
    {g : Nat} {t : TypeId} {cs : Array Value} {old : Array Value} (hx : a.eval x = .pointer (some ⟨g, 0, none⟩)) (hy : a.eval y = .agg cs) (hg : w.heap[g]? = some (.cells old t (0, 0))) (ho : old.size = 8) (hl : cs.size = 8)
    (h1 : cs.all Value.oneCell' = true) (h : wpList Tryd.prog ops Q rest (a.put none undef) (w.setRow g cs)) : wpList Tryd.prog ops Q (⟨none, .store 55 x y, ty, pos, af, none⟩ :: rest) a w :=
  wpList_plain rfl fun _ hK => wp_store_row 55 x y rfl g cs hx hy t old hg (by rw [hl]; kernel_rfl) (by rw [ho, hl]) h1 (hK _ _ h)
theorem eight_result {fn : Func} {p : Tmp} {tmps : Array Value} {w : World} {g : Nat} {t : TypeId} {cs : Array Value} {fr : Nat × Nat} (h : fn.results = #[.cell p 55])
    (hp : tmps.getD p undef = .pointer (some ⟨g, 0, none⟩)) (hg : w.heap[g]? = some (.cells cs t fr)) (hl : cs.size = 8) : (results fn tmps).run Tryd.prog w = .ok (.agg cs) w :=
  results_cell_row h tmps w g t cs fr _ hp hg Tryd.underlying55 rfl (by rw [hl]; kernel_rfl)
theorem set_fresh (w : World) (cur cur' : Array Value) (t j m m' : Nat) (x : Value) (hm : m = m') (hc : cur.setIfInBounds j x = cur') :
    ((w.alloc (.cells cur t (0, 0))).drewN m).setCell ⟨w.heap.size, j, none⟩ x = (w.alloc (.cells cur' t (0, 0))).drewN m' := by
  subst hm; subst hc
  show ((w.alloc (.cells cur t (0, 0))).setCell ⟨w.heap.size, j, none⟩ x).drewN m = _
  rw [World.setCell_alloc_at _ _ _ _ _ rfl]
theorem or_word (x y : Int) (h0 : 0 ≤ x) (h1 : x ≤ 255) (h2 : 0 ≤ y) (h3 : y ≤ 255) : bits .or .i64 (x * 256) y = x * 256 + y := or_byte x y h0 (by omega) h2 h3

set_option maxHeartbeats 4000000 in
theorem csplit6 (a : List UInt8) (ha : a.length = 16) (w : World) :
    Calls Tryd.prog 39 #[.agg (cel a)] w fun e w' => e = .returned (.agg (w6a a 8)) ∧ Below w.heap.size w w' := by
  go_enter Tryd.func39, Tryd.ntmps39
  go_wp2_with fail
  go_loopw [5] (fun i W => ∃ k q : Nat, k ≤ 8 ∧ i = .int .i64 (k : Int) ∧ W = (((w.alloc (.cells (cel a) 31)).alloc (.cells (w6a a 0) 55)).alloc (.cells (w6a a k) 55)).drewN q) (fun i _ => 8 - (intOf i).toNat)
  case atStart => 
    exact ⟨0, 0, by omega, rfl, rfl⟩
  case round =>
    obtain ⟨k, q, hk, rfl, rfl⟩ := hrel
    by_cases hlt : k < 8
    · have HW := Lib.hid (w6a_set a hlt)
      have HV := Lib.hid (wrd6_byt a k)
      have g1 := cel_get a (show 2 * k < a.length by omega)
      have g2 := cel_get a (show 2 * k + 1 < a.length by omega)
      have g3 := w6a_get0 a hlt (Nat.lt_irrefl k)
      have b1 := byt_lo a (2 * k)
      have b2 := byt_hi a (2 * k)
      have b3 := byt_lo a (2 * k + 1)
      have b4 := byt_hi a (2 * k + 1)
      have HO := or_word (byt a (2 * k)) (byt a (2 * k + 1)) b1 b2 b3 b4
      go_wp2_with fail
      go_region
      go_wp2_with fail
      go_roundw
      case rel =>
        refine ⟨k + 1, q + 1, by omega, by simp, ?_⟩
        rw [← HV.out]
        have hn := set_fresh ((w.alloc (.cells (cel a) 31)).alloc (.cells (w6a a 0) 55)) (w6a a k) (w6a a (k + 1)) 55 k (q + 1) (q + 1) (.int .i64 ((wrd6 a k : Nat) : Int)) rfl HW.out.symm
        rw [show ((w.alloc (.cells (cel a) 31)).alloc (.cells (w6a a 0) 55)).heap.size = w.heap.size + 1 + 1 from by simp] at hn
        exact hn
      case measure => simp [intOf]; omega
    · obtain rfl : k = 8 := by omega
      have hgR : ((((w.alloc (.cells (cel a) 31)).alloc (.cells (w6a a 0) 55)).alloc (.cells (w6a a 8) 55)).drewN q).heap[w.heap.size + 1]? = some (.cells (w6a a 0) 55 (0, 0)) := by
        show (((w.alloc (.cells (cel a) 31)).alloc (.cells (w6a a 0) 55)).alloc (.cells (w6a a 8) 55)).heap[w.heap.size + 1]? = _
        rw [Below.heap_alloc _ _ _ (by simp)]
        have := World.alloc_heap_new (w.alloc (.cells (cel a) 31)) (.cells (w6a a 0) 55)
        rwa [show (w.alloc (.cells (cel a) 31)).heap.size = w.heap.size + 1 from by simp] at this
      have hgA : ((((w.alloc (.cells (cel a) 31)).alloc (.cells (w6a a 0) 55)).alloc (.cells (w6a a 8) 55)).drewN q).heap[w.heap.size + 1 + 1]? = some (.cells (w6a a 8) 55 (0, 0)) := by
        show (((w.alloc (.cells (cel a) 31)).alloc (.cells (w6a a 0) 55)).alloc (.cells (w6a a 8) 55)).heap[w.heap.size + 1 + 1]? = _
        have := World.alloc_heap_new ((w.alloc (.cells (cel a) 31)).alloc (.cells (w6a a 0) 55)) (.cells (w6a a 8) 55)
        rwa [show ((w.alloc (.cells (cel a) 31)).alloc (.cells (w6a a 0) 55)).heap.size = w.heap.size + 1 + 1 from by simp] at this
      have hbel : Below w.heap.size w ((((w.alloc (.cells (cel a) 31)).alloc (.cells (w6a a 0) 55)).alloc (.cells (w6a a 8) 55)).drewN q) :=
        below_n ((below_two w _ _).alloc (by simp; omega) _) q
      have hs8 := w6a_size a 8
      have hs0 := w6a_size a 0
      have h1 := w6a_one a 8
      generalize hE : w6a a 8 = E at *
      have HE := Lib.hid hE
      clear hE
      generalize w6a a 0 = Z at *
      go_wp2_with (first
        | ((with_reducible show wpList _ _ _ (Oper.mk _ (Op.load _ _) _ _ _ _ :: _) _ _); refine eight_load (g := w.heap.size + 1 + 1) rfl hgA hs8 ?_)
        | ((with_reducible show wpList _ _ _ (Oper.mk _ (Op.store _ _ _) _ _ _ _ :: _) _ _); refine eight_store (g := w.heap.size + 1) rfl rfl hgR hs0 hs8 h1 ?_))
      exact bodyPost_ret (eight_result rfl rfl (setRow_heap _ _ _ _ _ _ hgR) hs8) rfl ⟨by rw [HE.out], below_setRow hbel (by omega) _⟩
end Go.Proofs.YtokcelbpiglieaaDoor
