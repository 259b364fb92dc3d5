/-
  Contracts and lemmas on which the proofs of this seat stand (several texts in one). Conditions are each theorem's own.
-/
import Derived.Test.YtkgbjohadkbjaaaWa8
import Derived.Test.YtkgbjohadkbjaaaWa6
import Derived.Test.YtkgbjohadkbjaaaWa2
import Derived.Maps.OwnSet
import Derived.Maps.OwnOps
import Derived.Maps.Ext
import Derived.Shelf.Small.Bits
import Derived.Shelf.Small.Wraps
import Derived.Shelf.Strconv.Itoa0
import Derived.Shelf.Slices.Equal
import Derived.Shelf.Slices.Empties2
import Derived.Test.YtkgbjohadkbjaaaProg
import Derived.Lib.BitFns

/-
  A wheel of layer 17 in memory: its block, the map of what is armed; New, isMade, Len, within. Conditions are each theorem's own.
-/
namespace Go.Proofs.Ytkgbjohadkbjaaa
open Go.RowKit Go.Shelf Go.Maps Go.WideMaps
/-! ### The ids that are armed -/
/-- How a pointer in a map reads: it doesn't matter where it points. -/
def ptE : Value → Option (DataW Unit × List MemPlace)
  | .pointer _ => some (.agg [], [])
  | _ => none
theorem ptE_inv {v : Value} {z : DataW Unit × List MemPlace} (h : ptE v = some z) : ∃ a, v = .pointer a := by
  unfold ptE at h
  split at h
  · exact ⟨_, rfl⟩
  · cases h
theorem zeroPt (w : World) : (zeroValue 76).run Try.prog w = .ok (.pointer none) w := by kernel_rfl
def wfW (a : Int) : Prop := -9223372036854775808 ≤ a ∧ a ≤ 9223372036854775807
theorem wfW_lit {a : Int} (h : wfW a) : (Lit.int .i64 a).wf = true := by
  unfold wfW at h
  simp [Lit.wf, IntKind.min, IntKind.max, IntKind.bits, IntKind.signed]; omega
theorem kintW : Keyed Try.prog 3 := int_keyed Try.underlying3
theorem kintKW {a : Int} (h : wfW a) : keyOf Try.prog 3 (.int .i64 a) = some (.int .i64 a) := keyOf_int_mk Try.underlying3 (wfW_lit h)
/-- Block b holds the ids L. -/
def Iw (w : World) (b n : Nat) (L : List Int) : Prop :=
  ∃ D : DataW Unit, w.ownsMap Try.prog 3 ptE b n D ∧ (∀ x, wfW x → Maps.has D (.int .i64 x) = L.contains x) ∧ Maps.size D = L.length ∧ L.Nodup ∧ ∀ x ∈ L, wfW x
section
variable {w w' : World} {b n : Nat} {L : List Int}
theorem Iw.made (w : World) : Iw (w.alloc (.map #[] 0)) w.heap.size 0 [] := ⟨_, World.ownsMap_made w _ _ _, fun _ _ => rfl, rfl, List.nodup_nil, fun _ h => by cases h⟩
theorem Iw.of_block (h : Iw w b n L) (e : w'.heap[b]? = w.heap[b]?) : Iw w' b n L := by
  obtain ⟨D, ⟨es, clock, hb, F, hs, hD⟩, hc⟩ := h
  exact ⟨D, ⟨es, clock, e.trans hb, F, hs, hD⟩, hc⟩
theorem Iw.lt (h : Iw w b n L) : b < w.heap.size := by
  obtain ⟨D, ho, _⟩ := h
  exact ho.lt
theorem Iw.is (h : Iw w b n L) : ∃ es clock, w.heap[b]? = some (.map es clock) := by
  obtain ⟨D, ⟨es, clock, hb, _⟩, _⟩ := h
  exact ⟨es, clock, hb⟩
theorem Iw.mono {m : Nat} (h : Iw w b n L) (hm : n ≤ m) : Iw w b m L := by
  obtain ⟨D, ⟨es, clock, hb, F, hs, hD⟩, hc⟩ := h
  exact ⟨D, ⟨es, clock, hb, F, Nat.le_trans hs hm, hD⟩, hc⟩
theorem Iw.look (h : Iw w b n L) {x : Int} (hx : wfW x) :
    ∃ a, (Instr.lookup 75 (.map (some b)) (.int .i64 x) true).run Try.prog w = .ok (.tuple #[.pointer a, .bool (L.contains x)]) w := by
  obtain ⟨D, ho, hc, _⟩ := h
  obtain ⟨v, ps, hrun, hv⟩ := ho.look_ok kintW Try.underlying75 (zeroPt w) (zd := .agg []) (zp := []) rfl (kintKW hx)
  obtain ⟨a, rfl⟩ := ptE_inv hv
  exact ⟨a, by rw [hrun, hc x hx]⟩
theorem Iw.put (h : Iw w b n L) (hn : n < maxLen) {x : Int} (hx : wfW x) (hno : L.contains x = false) (a : Option Addr) :
    ∃ w', (Instr.mapUpdate 75 (.map (some b)) (.int .i64 x) (.pointer a)).run Try.prog w = .ok () w' ∧ Iw w' b (n + 1) (x :: L) ∧ w.grownBy w' (some b) := by
  obtain ⟨D, ho, hc, hz, hnd, hw⟩ := h
  obtain ⟨w', hrun, ho', hg⟩ := ho.update kintW Try.underlying75 hn (kintKW hx) (val := .pointer a) (show ptE (.pointer a) = some (.agg [], []) from rfl)
  refine ⟨w', hrun, ⟨_, ho', fun y hy => ?_, ?_, ?_, ?_⟩, hg⟩
  · have hM := ho.isMap
    by_cases e : y = x
    · subst e
      rw [has_put_same hM (kintW.key (kintKW hx))]
      simp
    · have hne : Lit.int .i64 y ≠ .int .i64 x := fun e2 => e (by injection e2)
      rw [has_put_other hne, hc y hy]
      simp [e]
  · rw [size_put (ho.tidy kintW), hc x hx, hno, hz]; simp
  · exact List.nodup_cons.2 ⟨(fun hm => by rw [List.contains_iff_mem.2 hm] at hno; cases hno), hnd⟩
  · intro y hy
    rcases List.mem_cons.1 hy with rfl | hy
    · exact hx
    · exact hw y hy
theorem Iw.drop (h : Iw w b n L) {x : Int} (hx : x ∈ L) (ty : TypeId) : ∃ w', (Builtin.delete_ #[75, 3] ty #[.map (some b), .int .i64 x]).run Try.prog w = .ok (.tuple #[]) w' ∧ Iw w' b n (L.erase x) ∧ w.grownBy w' (some b) := by
  obtain ⟨D, ho, hc, hz, hnd, hw⟩ := h
  have hxw := hw x hx
  obtain ⟨w', hrun, ho', hg⟩ := ho.drop kintW Try.underlying75 (kintKW hxw) ty
  refine ⟨w', hrun, ⟨_, ho', fun y hy => ?_, ?_, hnd.erase x, fun y hy => hw y (List.mem_of_mem_erase hy)⟩, hg.grown⟩
  · by_cases e : y = x
    · subst e
      rw [has_del_same]
      symm
      rw [Bool.eq_false_iff]
      intro h2
      rw [List.contains_iff_mem] at h2
      exact (hnd.not_mem_erase) h2
    · have hne : Lit.int .i64 y ≠ .int .i64 x := fun e2 => e (by injection e2)
      rw [has_del_other hne, hc y hy, Bool.eq_iff_iff, List.contains_iff_mem, List.contains_iff_mem, List.mem_erase_of_ne e]
  · have h1 := size_del (k := .int .i64 x) (ho.tidy kintW)
    rw [hc x hxw, List.contains_iff_mem.2 hx, if_pos rfl, hz] at h1
    rw [List.length_erase_of_mem hx]
    omega
theorem Iw.len (h : Iw w b n L) (ty : TypeId) : (Builtin.len_ #[75] ty #[.map (some b)]).run Try.prog w = .ok (.int .i64 (L.length : Nat)) w := by
  obtain ⟨D, ho, hc, hz, _⟩ := h
  rw [ho.len Try.underlying75 ty, hz]
end
/-! ### The wheel's block -/
def pT (o : Option Nat) : Value := .pointer (o.map fun b => ⟨b, 0, none⟩)
def wz (M : Nat) (n : Int) : Array Value := Array.replicate 896 (.pointer none) ++ #[.map (some M), .int .i64 n, .int .i64 0]
/-- A wheel's block: which timer each slot holds, if any. -/
structure Wb (w : World) (d M : Nat) (most now : Int) (T : Nat → Option Nat) : Prop where
  obj : ∃ cs : Array Value, w.heap[d]? = some (.cells cs 83 (0, 0)) ∧ cs.size = 899 ∧ (∀ q, q < 448 → cs[2 * q]? = some (pT (T q)) ∧ cs[2 * q + 1]? = some (pT (T q))) ∧ cs[896]? = some (.map (some M)) ∧ cs[897]? = some (.int .i64 most) ∧ cs[898]? = some (.int .i64 now)
section
variable {w w' : World} {d M : Nat} {most now : Int} {T : Nat → Option Nat}
theorem Wb.of_block (h : Wb w d M most now T) (e : w'.heap[d]? = w.heap[d]?) : Wb w' d M most now T := by
  obtain ⟨cs, h1, h2⟩ := h.obj
  exact ⟨cs, e.trans h1, h2⟩
theorem Wb.is (h : Wb w d M most now T) : ∃ cs, w.heap[d]? = some (.cells cs 83 (0, 0)) := by
  obtain ⟨cs, h1, _⟩ := h.obj
  exact ⟨cs, h1⟩
theorem Wb.lt (h : Wb w d M most now T) : d < w.heap.size := by obtain ⟨cs, h1⟩ := h.is; exact heap_lt h1
theorem Wb.l0 (h : Wb w d M most now T) {q : Nat} (hq : q < 448) : w.cell? ⟨d, 2 * q, none⟩ = some (pT (T q)) := by
  obtain ⟨cs, h1, _, h3, _⟩ := h.obj
  exact cells_at h1 (h3 q hq).1
theorem Wb.l1 (h : Wb w d M most now T) {q : Nat} (hq : q < 448) : w.cell? ⟨d, 2 * q + 1, none⟩ = some (pT (T q)) := by
  obtain ⟨cs, h1, _, h3, _⟩ := h.obj
  exact cells_at h1 (h3 q hq).2
theorem Wb.cm (h : Wb w d M most now T) : w.cell? ⟨d, 896, none⟩ = some (.map (some M)) := by
  obtain ⟨cs, h1, _, _, h4, _⟩ := h.obj
  exact cells_at h1 h4
theorem Wb.cmo (h : Wb w d M most now T) : w.cell? ⟨d, 897, none⟩ = some (.int .i64 most) := by
  obtain ⟨cs, h1, _, _, _, h4, _⟩ := h.obj
  exact cells_at h1 h4
theorem Wb.cn (h : Wb w d M most now T) : w.cell? ⟨d, 898, none⟩ = some (.int .i64 now) := by
  obtain ⟨cs, h1, _, _, _, _, h4⟩ := h.obj
  exact cells_at h1 h4
theorem Wb.fr (h : Wb w d M most now T) (i : Nat) : w.frozen? ⟨d, i, none⟩ = false := by
  obtain ⟨cs, h1⟩ := h.is
  exact heap_frozen h1 i
def setT (T : Nat → Option Nat) (q : Nat) (o : Option Nat) : Nat → Option Nat := fun k => if k = q then o else T k
theorem Wb.line (h : Wb w d M most now T) {q : Nat} (hq : q < 448) (o : Option Nat) : Wb ((w.setCell ⟨d, 2 * q, none⟩ (pT o)).setCell ⟨d, 2 * q + 1, none⟩ (pT o)) d M most now (setT T q o) := by
  obtain ⟨cs, h1, h2, h3, h4, h5, h6⟩ := h.obj
  have g1 := heap_setCell_same w d (2 * q) cs _ (pT o) h1
  have g2 := heap_setCell_same _ d (2 * q + 1) _ _ (pT o) g1
  refine ⟨_, g2, by simpa using h2, fun k hk => ?_, ?_, ?_, ?_⟩
  · unfold setT
    by_cases e : k = q
    · subst e
      simp only [if_true]
      constructor
      · rw [Array.getElem?_setIfInBounds_ne (by omega), Array.getElem?_setIfInBounds_self_of_lt (by omega)]
      · rw [Array.getElem?_setIfInBounds_self_of_lt (by simp; omega)]
    · rw [if_neg e]
      constructor
      · rw [Array.getElem?_setIfInBounds_ne (by omega), Array.getElem?_setIfInBounds_ne (by omega)]; exact (h3 k hk).1
      · rw [Array.getElem?_setIfInBounds_ne (by omega), Array.getElem?_setIfInBounds_ne (by omega)]; exact (h3 k hk).2
  all_goals (rw [Array.getElem?_setIfInBounds_ne (by omega), Array.getElem?_setIfInBounds_ne (by omega)]; assumption)
theorem Wb.time (h : Wb w d M most now T) (n : Int) : Wb (w.setCell ⟨d, 898, none⟩ (.int .i64 n)) d M most n T := by
  obtain ⟨cs, h1, h2, h3, h4, h5, h6⟩ := h.obj
  have g1 := heap_setCell_same w d 898 cs _ (.int .i64 n) h1
  refine ⟨_, g1, by simpa using h2, fun k hk => ⟨?_, ?_⟩, ?_, ?_, ?_⟩
  · rw [Array.getElem?_setIfInBounds_ne (by omega)]; exact (h3 k hk).1
  · rw [Array.getElem?_setIfInBounds_ne (by omega)]; exact (h3 k hk).2
  · rw [Array.getElem?_setIfInBounds_ne (by omega)]; exact h4
  · rw [Array.getElem?_setIfInBounds_ne (by omega)]; exact h5
  · rw [Array.getElem?_setIfInBounds_self_of_lt (by omega)]
theorem wz_size (M : Nat) (n : Int) : (wz M n).size = 899 := by simp [wz]
theorem Wb.new (w : World) (M : Nat) (n : Int) : Wb (w.alloc (.cells (wz M n) 83)) w.heap.size M n 0 (fun _ => none) := by
  refine ⟨_, World.alloc_heap_new w _, wz_size M n, fun q hq => ⟨?_, ?_⟩, ?_, ?_, ?_⟩
  · unfold wz
    rw [Array.getElem?_append_left (by simp; omega), Array.getElem?_replicate, if_pos (by omega)]; rfl
  · unfold wz
    rw [Array.getElem?_append_left (by simp; omega), Array.getElem?_replicate, if_pos (by omega)]; rfl
  · unfold wz
    rw [Array.getElem?_append_right (by simp)]; simp
  · unfold wz
    rw [Array.getElem?_append_right (by simp)]; simp
  · unfold wz
    rw [Array.getElem?_append_right (by simp)]; simp
end
end Go.Proofs.Ytkgbjohadkbjaaa

/-
  The small functions of layer 17: within, isMade, Len, New, stand, leave. Conditions are each theorem's own.
-/
namespace Go.Proofs.Ytkgbjohadkbjaaa
open Go.RowKit Go.Shelf Go.Maps Go.WideMaps
theorem wwithin (n lo hi : Int) (w : World) : Calls Try.prog 39 #[.int .i64 n, .int .i64 lo, .int .i64 hi] w fun e w' => e = .returned (.bool (decide (lo ≤ n) && decide (n ≤ hi))) ∧ w = w' := by
  cases d1 : decide (lo ≤ n) with
  | true =>
    go_enter Try.func39, Try.ntmps39
    go_wp2
    go_ret
    exact ⟨by simp, rfl⟩
  | false =>
    go_enter Try.func39, Try.ntmps39
    go_wp2
    go_ret
    exact ⟨by simp, rfl⟩
theorem eqin_mapW {P : Program} (w : World) (d : Nat) (t k e : TypeId) (r : Option Nat) (h : P.underlying t = some (.map k e)) : (Op.equalIn (d + 1) t (.map r) (.map none)).run P w = .ok r.isNone w := by
  cases r <;> simp [Op.equalIn, run_underlying h]
theorem neq_mapW {P : Program} (w : World) (t k e : TypeId) (r : Option Nat) (h : P.underlying t = some (.map k e)) : (binOp .neq t (.map r) (.map none)).run P w = .ok (.bool (!r.isNone)) w := by
  simp only [binOp]
  simp [Op.equal, Op.maxDepth, eqin_mapW w 9999 t k e r h]
theorem nmW (W : World) (r : Option Nat) : (binOp .neq 75 (.map r) (.map none)).run Try.prog W = .ok (.bool (!r.isNone)) W := neq_mapW W _ _ _ r Try.underlying75
theorem run_lookW {o : Oper} {a : Act} {w : World} {T : TypeId} {m x : Operand} {b : Nat} {key c : Value} (ho : o.op = .lookup T m x true) (hm : a.eval m = .map (some b)) (hx : a.eval x = key)
    (h : (Instr.lookup T (.map (some b)) key true).run Try.prog w = .ok c w) : (execOp a.eval o).run Try.prog w = .ok (.value c) w := by
  unfold execOp
  simp only [ho, hm, hx, Sem.run_bind, Sem.run_pure, h, Result.andThen_ok]
section
variable {w w' : World} {d M : Nat} {most now : Int} {T : Nat → Option Nat} {n : Nat} {L : List Int}
set_option maxRecDepth 100000 in
theorem wmade (h : Wb w d M most now T) : Calls Try.prog 40 #[.pointer (some ⟨d, 0, none⟩)] w fun e w' => e = .returned (.bool true) ∧ w = w' := by
  have k3 := h.cm
  have qT := nmW w
  clear h
  go_enter Try.func40, Try.ntmps40
  go_wp2
  go_ret
  exact ⟨rfl, rfl⟩
set_option maxRecDepth 100000 in
theorem wlen (h : Wb w d M most now T) (hI : Iw w M n L) : Calls Try.prog 38 #[.pointer (some ⟨d, 0, none⟩)] w fun e w' => e = .returned (.int .i64 (L.length : Nat)) ∧ w = w' := by
  have k3 := h.cm
  have hl := hI.len
  have HM := Lib.hid (wmade h)
  clear hI h
  go_enter Try.func38, Try.ntmps38
  go_wp2_with (go_at_call 40; refine HM.out.mono ?_; rintro e w1 ⟨rfl, rfl⟩)
  go_ret
  exact ⟨rfl, rfl⟩
end
set_option maxRecDepth 100000 in
theorem run_buildW {o : Oper} {a : Act} {w : World} {x y : Operand} {M : Nat} {n : Int} (ho : o.op = .build 83 #[(1, x), (2, y)]) (hx : a.eval x = .map (some M)) (hy : a.eval y = .int .i64 n) :
    (execOp a.eval o).run Try.prog w = .ok (.value (.agg (wz M n))) w := by
  have e : (Array.map (fun y : Nat × Operand => (y.1, a.eval y.2)) #[(1, x), (2, y)]) = #[(1, .map (some M)), (2, .int .i64 n)] := by simp [hx, hy]
  have hb : (Instr.build 83 #[(1, .map (some M)), (2, .int .i64 n)]).run Try.prog w = .ok (.agg (wz M n)) w := by kernel_rfl
  unfold execOp
  simp only [ho, e, Sem.run_bind, hb]
  rfl
end Go.Proofs.Ytkgbjohadkbjaaa

/-
  New, stand, leave of layer 17. Conditions are each theorem's own.
-/
namespace Go.Proofs.Ytkgbjohadkbjaaa
open Go.RowKit Go.Shelf Go.Maps Go.WideMaps
/-- A timer's cells. -/
def tmC (id at_ : Int) (l : Option Addr) : Array Value := #[.int .i64 id, .int .i64 at_, .pointer l, .pointer none, .pointer none]
set_option maxRecDepth 100000 in
theorem wnew (most : Int) (w : World) (h0 : 0 ≤ most) (h1 : most ≤ 1048576) : Calls Try.prog 12 #[.int .i64 most] w fun e w' =>
    ∃ d M, e = .returned (.tuple #[.pointer (some ⟨d, 0, none⟩), .int .i64 0]) ∧ Wb w' d M most 0 (fun _ => none) ∧ Iw w' M 0 [] ∧ Below w.heap.size w w' ∧ w.heap.size ≤ d ∧ w.heap.size ≤ M ∧ d ≠ M := by
  have d1 : (decide ((0 : Int) ≤ most) && decide (most ≤ 1048576)) = true := by simp [h0, h1]
  have HD := Lib.hid d1
  have hmm := @run_makeMap Try.prog
  have hW := Wb.new (w.alloc (.map #[] 0)) w.heap.size most
  have hI := (Iw.made w).of_block (w' := (w.alloc (.map #[] 0)).alloc (.cells (wz w.heap.size most) 83)) (Below.heap_alloc _ _ _ (by simp))
  have hB := ((Below.refl w.heap.size w).alloc (Nat.le_refl _) (.map #[] 0)).alloc (by simp) (.cells (wz w.heap.size most) 83)
  have HR := Lib.hid (And.intro hW (And.intro hI hB))
  have hsz := wz_size w.heap.size most
  clear h0 h1 d1 hW hI hB
  go_enter Try.func12, Try.ntmps12
  go_upto_region 3 with (go_at_call 39; refine (wwithin _ _ _ _).mono ?_; rintro e w1 ⟨rfl, rfl⟩; rw [HD.out])

  go_wp2_with ((with_reducible show wpList _ _ _ (Oper.mk _ (Op.build 83 _) _ _ _ _ :: _) _ _); refine wpList_val rfl (run_buildW rfl rfl rfl) ?_)
  obtain ⟨hW, hI, hB⟩ := HR.out
  rw [World.size_alloc] at hW
  exact bodyPost_ret (results_tmp2 rfl _ _ _) rfl ⟨w.heap.size + 1, w.heap.size, rfl, hW, hI, hB, by omega, Nat.le_refl _, by omega⟩
section
variable {w w' : World} {d M b q : Nat} {most now id at_ : Int} {T : Nat → Option Nat}
set_option maxRecDepth 100000 in
theorem wstand (h : Wb w d M most now T) (hq : q < 448) (hT : T q = none) (ht : w.heap[b]? = some (.cells (tmC id at_ none) 87 (0, 0))) :
    Calls Try.prog 42 #[.pointer (some ⟨b, 0, none⟩), .pointer (some ⟨d, 2 * q, none⟩)] w fun e w' => e = .returned (.tuple #[]) ∧
      Wb w' d M most now (setT T q (some b)) ∧ w'.heap[b]? = some (.cells (tmC id at_ (some ⟨d, 2 * q, none⟩)) 87 (0, 0)) ∧ Kept (fun k => k = b ∨ k = d) w w' := by
  have hdb : d ≠ b := by
    obtain ⟨cs, h1⟩ := h.is
    exact fun e => by
      subst e
      rw [h1] at ht
      injection ht with ht
      injection ht with _ e2 _
      exact absurd e2 (nat_ne (by kernel_rfl))
  have k1 : w.cell? ⟨d, 2 * q + 1, none⟩ = some (.pointer none) := by have := h.l1 hq; rwa [hT] at this
  have k0 : w.cell? ⟨d, 2 * q, none⟩ = some (.pointer none) := by have := h.l0 hq; rwa [hT] at this
  have t2 : w.cell? ⟨b, 2, none⟩ = some (.pointer none) := cells_at ht rfl
  have t3 : w.cell? ⟨b, 3, none⟩ = some (.pointer none) := cells_at ht rfl
  have f2 := heap_frozen ht 2
  have f3 := heap_frozen ht 3
  have fd0 := h.fr (2 * q)
  have fd1 := h.fr (2 * q + 1)
  have H := Lib.hid h
  clear h
  go_enter Try.func42, Try.ntmps42
  go_upto_region 1 with fail
  have g1 := heap_setCell_same w b 2 _ _ (.pointer (some ⟨d, 2 * q, none⟩)) ht
  have g2 := heap_setCell_same _ b 3 _ _ (.pointer none) g1
  have kp : Kept (fun k => k = b) w ((w.setCell ⟨b, 2, none⟩ (.pointer (some ⟨d, 2 * q, none⟩))).setCell ⟨b, 3, none⟩ (.pointer none)) := (Kept.setCell w b 2 _).trans (Kept.setCell _ b 3 _) (fun _ _ e => e)
  have g3 : ((w.setCell ⟨b, 2, none⟩ (.pointer (some ⟨d, 2 * q, none⟩))).setCell ⟨b, 3, none⟩ (.pointer none)).heap[b]? = some (.cells (tmC id at_ (some ⟨d, 2 * q, none⟩)) 87 (0, 0)) := g2
  generalize (w.setCell ⟨b, 2, none⟩ (.pointer (some ⟨d, 2 * q, none⟩))).setCell ⟨b, 3, none⟩ (.pointer none) = V at *
  have HV := H.out.of_block (kp.block d H.out.lt hdb)
  have k1 : V.cell? ⟨d, 2 * q + 1, none⟩ = some (.pointer none) := by have := HV.l1 hq; rwa [hT] at this
  have k0 : V.cell? ⟨d, 2 * q, none⟩ = some (.pointer none) := by have := HV.l0 hq; rwa [hT] at this
  have fd0 := HV.fr (2 * q)
  have fd1 := HV.fr (2 * q + 1)
  have HVH := Lib.hid HV
  have HG := Lib.hid g3
  have HK := Lib.hid kp
  clear g1 g2 g3 kp HV t2 t3 f2 f3
  go_wp2
  refine bodyPost_end (results_none rfl _ _ _) rfl ?_
  have kd : Kept (fun k => k = d) V ((V.setCell ⟨d, 2 * q, none⟩ (pT (some b))).setCell ⟨d, 2 * q + 1, none⟩ (pT (some b))) := (Kept.setCell V d (2 * q) _).trans (Kept.setCell _ d (2 * q + 1) _) (fun _ _ e => e)
  exact ⟨rfl, HVH.out.line hq (some b), (kd.block b (heap_lt HG.out) (fun e => hdb e.symm)).trans HG.out, (HK.out.mono (fun _ _ e => .inl e)).trans kd (fun _ _ e => .inr e)⟩
end
section
variable {o : Oper} {a : Act} {w : World} {x y : Operand} {p : Addr} {A : Option Addr}
theorem run_load_plW (ho : o.op = .load 85 x) (hx : a.eval x = .pointer (some p)) (hc : w.cell? p = some (.pointer A)) :
    (execOp a.eval o).run Try.prog w = .ok (.value (.pointer A)) w := by
  unfold execOp
  simp only [ho, hx, Instr.loadAt, Instr.sureAddr, Sem.run_bind, Sem.run_pure, Result.andThen_ok]
  go_simp
theorem run_load_ptW (ho : o.op = .load 76 x) (hx : a.eval x = .pointer (some p)) (hc : w.cell? p = some (.pointer A)) :
    (execOp a.eval o).run Try.prog w = .ok (.value (.pointer A)) w := by
  unfold execOp
  simp only [ho, hx, Instr.loadAt, Instr.sureAddr, Sem.run_bind, Sem.run_pure, Result.andThen_ok]
  go_simp
theorem run_load_mpW {m : Option Nat} (ho : o.op = .load 75 x) (hx : a.eval x = .pointer (some p)) (hc : w.cell? p = some (.map m)) :
    (execOp a.eval o).run Try.prog w = .ok (.value (.map m)) w := by
  unfold execOp
  simp only [ho, hx, Instr.loadAt, Instr.sureAddr, Sem.run_bind, Sem.run_pure, Result.andThen_ok]
  go_simp
theorem store_ptW_wp {K : Act → World → Prop} {Q : Exit → Act → World → Prop} {v0 : Value} (ho : o.op = .store 76 x y) (hx : a.eval x = .pointer (some p)) (hy : a.eval y = .pointer A) (hc : w.cell? p = some v0) (hf : w.frozen? p = false) (h : K (a.put o.dst undef) (w.setCell p (.pointer A))) : o.wp Try.prog a w K Q := by
  unfold Oper.wp execOp
  simp only [ho, hx, hy]
  go_simp
  exact h
end
section
variable {w w' : World} {d M b q : Nat} {most now id at_ : Int} {T : Nat → Option Nat}
set_option maxRecDepth 100000 in
theorem wleave (h : Wb w d M most now T) (hq : q < 448) (hT : T q = some b) (ht : w.heap[b]? = some (.cells (tmC id at_ (some ⟨d, 2 * q, none⟩)) 87 (0, 0))) :
    Calls Try.prog 41 #[.pointer (some ⟨b, 0, none⟩)] w fun e w' => e = .returned (.tuple #[]) ∧
      Wb w' d M most now (setT T q none) ∧ w'.heap[b]? = some (.cells (tmC id at_ none) 87 (0, 0)) ∧ Kept (fun k => k = b ∨ k = d) w w' := by
  have hdb : d ≠ b := by
    obtain ⟨cs, h1⟩ := h.is
    exact fun e => by
      subst e
      rw [h1] at ht
      injection ht with ht
      injection ht with _ e2 _
      exact absurd e2 (nat_ne (by kernel_rfl))
  have t3 : w.cell? ⟨b, 3, none⟩ = some (.pointer none) := cells_at ht rfl
  have H := Lib.hid h
  have HB := Lib.hid ht
  have HL : Hid (∀ V, Kept (fun k => k = d) w V → V.cell? ⟨b, 2, none⟩ = some (.pointer (some ⟨d, 2 * q, none⟩)) ∧ V.cell? ⟨b, 3, none⟩ = some (.pointer none) ∧ V.cell? ⟨b, 4, none⟩ = some (.pointer none)) := Lib.hid (fun V hV => by
    have h9 := (hV.block b (heap_lt ht) (fun e => hdb e.symm)).trans ht
    exact ⟨cells_at h9 rfl, cells_at h9 rfl, cells_at h9 rfl⟩)
  have HC1 : Hid (w.drew.cell? ⟨d, 2 * q, none⟩ = some (.pointer (some ⟨b, 0, none⟩))) := Lib.hid (by have := h.l0 hq; rwa [hT] at this)
  have HF1 : Hid (w.drew.frozen? ⟨d, 2 * q, none⟩ = false) := Lib.hid (h.fr (2 * q))
  clear h ht
  go_enter Try.func41, Try.ntmps41
  go_upto_region 1 with fail
  obtain ⟨X1, hX1⟩ : ∃ X1, X1 = w := ⟨_, rfl⟩
  subst hX1
  refine wp_region_held_drew (S := fun w' => Kept (fun k => k = d) X1 w') (by kernel_rfl) (Kept.drew X1) (fun hS => ?_)
  refine held_pure (i := 0) (oi := ⟨some 7, _, _, _, _, _⟩) rfl (by kernel_rfl) (by kernel_rfl) (by kernel_rfl) (fun _ _ _ h => h) (by rfl) (v := ?_) (fun w hSw => ?_) hS (fun hS => ?_)
  rotate_left
  · go_simp; try with_reducible rfl
  try go_frame
  refine held_pure (i := 1) (oi := ⟨some 8, _, _, _, _, _⟩) rfl (by kernel_rfl) (by kernel_rfl) (by kernel_rfl) (fun _ _ _ h => h) (by rfl) (v := ?_) (fun w hSw => ?_) hS (fun hS => ?_)
  rotate_left
  · go_simp; try with_reducible rfl
  try go_frame
  refine held_pure (i := 2) (oi := ⟨some 9, _, _, _, _, _⟩) rfl (by kernel_rfl) (by kernel_rfl) (by kernel_rfl) (fun _ _ _ h => h) (by rfl) (v := ?_) (fun w hSw => ?_) hS (fun hS => ?_)
  rotate_left
  · go_simp; try with_reducible rfl
  try go_frame
  refine held_pure (i := 3) (oi := ⟨some 10, _, _, _, _, _⟩) rfl (by kernel_rfl) (by kernel_rfl) (by kernel_rfl) (fun _ _ _ h => h) (by rfl) (fun w hSw => run_load_plW rfl rfl (HL.out _ hSw).1) hS (fun hS => ?_)
  try go_frame
  refine held_pure (i := 4) (oi := ⟨some 11, _, _, _, _, _⟩) rfl (by kernel_rfl) (by kernel_rfl) (by kernel_rfl) (fun _ _ _ h => h) (by rfl) (v := ?_) (fun w hSw => ?_) hS (fun hS => ?_)
  rotate_left
  · go_simp; try with_reducible rfl
  try go_frame
  refine held_pure (i := 5) (oi := ⟨some 12, _, _, _, _, _⟩) rfl (by kernel_rfl) (by kernel_rfl) (by kernel_rfl) (fun _ _ _ h => h) (by rfl) (v := ?_) (fun w hSw => ?_) hS (fun hS => ?_)
  rotate_left
  · go_simp; try with_reducible rfl
  try go_frame
  refine held_pure (i := 6) (oi := ⟨some 13, _, _, _, _, _⟩) rfl (by kernel_rfl) (by kernel_rfl) (by kernel_rfl) (fun _ _ _ h => h) (by rfl) (v := ?_) (fun w hSw => ?_) hS (fun hS => ?_)
  rotate_left
  · go_simp; try with_reducible rfl
  try go_frame
  refine held_pure (i := 7) (oi := ⟨some 14, _, _, _, _, _⟩) rfl (by kernel_rfl) (by kernel_rfl) (by kernel_rfl) (fun _ _ _ h => h) (by rfl) (fun w hSw => run_load_ptW rfl rfl (HL.out _ hSw).2.2) hS (fun hS => ?_)
  try go_frame
  refine held_pure (i := 8) (oi := ⟨some 15, _, _, _, _, _⟩) rfl (by kernel_rfl) (by kernel_rfl) (by kernel_rfl) (fun _ _ _ h => h) (by rfl) (v := ?_) (fun w hSw => ?_) hS (fun hS => ?_)
  rotate_left
  · go_simp; try with_reducible rfl
  try go_frame
  refine held_pure (i := 9) (oi := ⟨some 16, _, _, _, _, _⟩) rfl (by kernel_rfl) (by kernel_rfl) (by kernel_rfl) (fun _ _ _ h => h) (by rfl) (v := ?_) (fun w hSw => ?_) hS (fun hS => ?_)
  rotate_left
  · go_simp; try with_reducible rfl
  try go_frame
  refine wpAnyH_ready (rs := [10]) (by kernel_rfl) (by simp) (AllReadyH.cons (o := ⟨none, _, _, _, _, _⟩) rfl (fun K hK => ?_) AllReadyH.nil)
  rw [if_pos (by rfl)]
  refine store_ptW_wp rfl rfl rfl HC1.out HF1.out ?_
  refine hK.out _ _ ((Kept.drew X1).trans (Kept.setCell X1.drew d (2 * q) _) (fun _ _ e => e)) (fun hS => ?_)
  clear hK K
  try go_frame
  refine wpAnyH_done (by kernel_rfl) ?_ _
  have hX2 := hS
  have t4 := (HL.out _ hS).2.2
  have HC2 : Hid (((X1.drew.setCell ⟨d, 2 * q, none⟩ (.pointer none)).drew).cell? ⟨d, 2 * q + 1, none⟩ = some (.pointer (some ⟨b, 0, none⟩))) := Lib.hid (by
    obtain ⟨cs, h1, h2, h3, _⟩ := H.out.obj
    have g1 := heap_setCell_same X1.drew d (2 * q) cs _ (.pointer none) h1
    have := cells_at (i := 2 * q + 1) (v := pT (T q)) g1 (by rw [Array.getElem?_setIfInBounds_ne (by omega)]; exact (h3 q hq).2)
    rw [hT] at this
    exact this)
  have HF2 : Hid (((X1.drew.setCell ⟨d, 2 * q, none⟩ (.pointer none)).drew).frozen? ⟨d, 2 * q + 1, none⟩ = false) := Lib.hid (by
    obtain ⟨cs, h1, _⟩ := H.out.obj
    exact heap_frozen (heap_setCell_same X1.drew d (2 * q) cs _ (.pointer none) h1) _)
  obtain ⟨X2, hX2e⟩ : ∃ X2, X2 = X1.drew.setCell ⟨d, 2 * q, none⟩ (.pointer none) := ⟨_, rfl⟩
  have HX2 := Lib.hid hX2e
  rw [← hX2e] at HC2 HF2 hX2 t4 ⊢
  have HLO := HL
  have HL : Hid (∀ V, Kept (fun k => k = d) X2 V → V.cell? ⟨b, 2, none⟩ = some (.pointer (some ⟨d, 2 * q, none⟩)) ∧ V.cell? ⟨b, 3, none⟩ = some (.pointer none) ∧ V.cell? ⟨b, 4, none⟩ = some (.pointer none)) := Lib.hid (fun V hV => HLO.out V (hX2.trans hV (fun _ _ e => e)))
  clear hX2e hS t3
  go_upto_region 4 with fail
  refine wp_region_held_drew (S := fun w' => Kept (fun k => k = d) X2 w') (by kernel_rfl) (Kept.drew X2) (fun hS => ?_)
  refine held_pure (i := 0) (oi := ⟨some 32, _, _, _, _, _⟩) rfl (by kernel_rfl) (by kernel_rfl) (by kernel_rfl) (fun _ _ _ h => h) (by rfl) (v := ?_) (fun w hSw => ?_) hS (fun hS => ?_)
  rotate_left
  · go_simp; try with_reducible rfl
  try go_frame
  refine held_pure (i := 1) (oi := ⟨some 33, _, _, _, _, _⟩) rfl (by kernel_rfl) (by kernel_rfl) (by kernel_rfl) (fun _ _ _ h => h) (by rfl) (v := ?_) (fun w hSw => ?_) hS (fun hS => ?_)
  rotate_left
  · go_simp; try with_reducible rfl
  try go_frame
  refine held_pure (i := 2) (oi := ⟨some 34, _, _, _, _, _⟩) rfl (by kernel_rfl) (by kernel_rfl) (by kernel_rfl) (fun _ _ _ h => h) (by rfl) (v := ?_) (fun w hSw => ?_) hS (fun hS => ?_)
  rotate_left
  · go_simp; try with_reducible rfl
  try go_frame
  refine held_pure (i := 3) (oi := ⟨some 35, _, _, _, _, _⟩) rfl (by kernel_rfl) (by kernel_rfl) (by kernel_rfl) (fun _ _ _ h => h) (by rfl) (fun w hSw => run_load_plW rfl rfl (HL.out _ hSw).1) hS (fun hS => ?_)
  try go_frame
  refine held_pure (i := 4) (oi := ⟨some 36, _, _, _, _, _⟩) rfl (by kernel_rfl) (by kernel_rfl) (by kernel_rfl) (fun _ _ _ h => h) (by rfl) (v := ?_) (fun w hSw => ?_) hS (fun hS => ?_)
  rotate_left
  · go_simp; try with_reducible rfl
  try go_frame
  refine held_pure (i := 5) (oi := ⟨some 37, _, _, _, _, _⟩) rfl (by kernel_rfl) (by kernel_rfl) (by kernel_rfl) (fun _ _ _ h => h) (by rfl) (v := ?_) (fun w hSw => ?_) hS (fun hS => ?_)
  rotate_left
  · go_simp; try with_reducible rfl
  try go_frame
  refine held_pure (i := 6) (oi := ⟨some 38, _, _, _, _, _⟩) rfl (by kernel_rfl) (by kernel_rfl) (by kernel_rfl) (fun _ _ _ h => h) (by rfl) (v := ?_) (fun w hSw => ?_) hS (fun hS => ?_)
  rotate_left
  · go_simp; try with_reducible rfl
  try go_frame
  refine held_pure (i := 7) (oi := ⟨some 39, _, _, _, _, _⟩) rfl (by kernel_rfl) (by kernel_rfl) (by kernel_rfl) (fun _ _ _ h => h) (by rfl) (fun w hSw => run_load_ptW rfl rfl (HL.out _ hSw).2.1) hS (fun hS => ?_)
  try go_frame
  refine held_pure (i := 8) (oi := ⟨some 40, _, _, _, _, _⟩) rfl (by kernel_rfl) (by kernel_rfl) (by kernel_rfl) (fun _ _ _ h => h) (by rfl) (v := ?_) (fun w hSw => ?_) hS (fun hS => ?_)
  rotate_left
  · go_simp; try with_reducible rfl
  try go_frame
  refine held_pure (i := 9) (oi := ⟨some 41, _, _, _, _, _⟩) rfl (by kernel_rfl) (by kernel_rfl) (by kernel_rfl) (fun _ _ _ h => h) (by rfl) (v := ?_) (fun w hSw => ?_) hS (fun hS => ?_)
  rotate_left
  · go_simp; try with_reducible rfl
  try go_frame
  refine wpAnyH_ready (rs := [10]) (by kernel_rfl) (by simp) (AllReadyH.cons (o := ⟨none, _, _, _, _, _⟩) rfl (fun K hK => ?_) AllReadyH.nil)
  rw [if_pos (by rfl)]
  refine store_ptW_wp rfl rfl rfl HC2.out HF2.out ?_
  refine hK.out _ _ ((Kept.drew X2).trans (Kept.setCell X2.drew d (2 * q + 1) _) (fun _ _ e => e)) (fun hS => ?_)
  clear hK K
  try go_frame
  refine wpAnyH_done (by kernel_rfl) ?_ _
  have kA : Kept (fun k => k = d) X1 (X2.drew.setCell ⟨d, 2 * q + 1, none⟩ (.pointer none)) := hX2.trans hS (fun _ _ e => e)
  have hbA := (kA.block b (heap_lt HB.out) (fun e => hdb e.symm)).trans HB.out
  have HWA : Hid (Wb (X2.drew.setCell ⟨d, 2 * q + 1, none⟩ (.pointer none)) d M most now (setT T q none)) := Lib.hid (by
    have := H.out.line hq none
    obtain ⟨cs, h1, h2⟩ := this.obj
    refine ⟨cs, ?_, h2⟩
    rw [HX2.out]
    exact h1)
  generalize X2.drew.setCell ⟨d, 2 * q + 1, none⟩ (.pointer none) = X3 at *
  have t2 : X3.cell? ⟨b, 2, none⟩ = some (.pointer (some ⟨d, 2 * q, none⟩)) := cells_at hbA rfl
  have t3 : X3.cell? ⟨b, 3, none⟩ = some (.pointer none) := cells_at hbA rfl
  have t5 : X3.cell? ⟨b, 4, none⟩ = some (.pointer none) := cells_at hbA rfl
  have f2 := heap_frozen hbA 2
  have f3 := heap_frozen hbA 3
  have f4 := heap_frozen hbA 4
  have HBA := Lib.hid hbA
  have KA := Lib.hid kA
  clear hbA kA hS HL hX2
  go_wp2
  refine bodyPost_end (results_none rfl _ _ _) rfl ?_
  have g1 := heap_setCell_same X3 b 2 _ _ (.pointer none) HBA.out
  have g2 := heap_setCell_same _ b 3 _ _ (.pointer none) g1
  have g3 := heap_setCell_same _ b 4 _ _ (.pointer none) g2
  have kb : Kept (fun k => k = b) X3 (((X3.setCell ⟨b, 2, none⟩ (.pointer none)).setCell ⟨b, 3, none⟩ (.pointer none)).setCell ⟨b, 4, none⟩ (.pointer none)) := ((Kept.setCell X3 b 2 _).trans (Kept.setCell _ b 3 _) (fun _ _ e => e)).trans (Kept.setCell _ b 4 _) (fun _ _ e => e)
  exact ⟨rfl, HWA.out.of_block (kb.block d HWA.out.lt hdb), g3, (KA.out.mono (fun _ _ e => .inr e)).trans kb (fun _ _ e => .inl e)⟩
end
end Go.Proofs.Ytkgbjohadkbjaaa

/-
  Contracts of Go's library at this program, out of the library's own theorems (laid by program). Conditions are each theorem's own.
-/
namespace Go.Proofs
open Go.Shelf
def Try.lays125_ren : Go.Shelf.Ren := ⟨fun | 125 => 67 | 128 => 98 | 129 => 99 | n => n, fun | 46 => 118 | 3 => 3 | 51 => 22 | 53 => 143 | 4 => 4 | 5 => 5 | 9 => 9 | n => n, fun | n => n⟩
theorem Try.lays125 : Go.Proofs.Lays.n125 Try.prog Try.lays125_ren := {
  mixed := by kernel_rfl
  f125 := Try.func67.trans (congrArg some (by kernel_rfl))
  f128 := Try.func98.trans (congrArg some (by kernel_rfl))
  f129 := Try.func99.trans (congrArg some (by kernel_rfl))
  t3 := Try.underlying3
  a3 := Try.isAgg3
  z3 := Try.sizeOf3
  v3 := Try.zeroValue3
  t4 := Try.underlying4
  a4 := Try.isAgg4
  z4 := Try.sizeOf4
  v4 := Try.zeroValue4
  t5 := Try.underlying5
  a5 := Try.isAgg5
  z5 := Try.sizeOf5
  v5 := Try.zeroValue5
  t9 := Try.underlying9
  a9 := Try.isAgg9
  z9 := Try.sizeOf9
  v9 := Try.zeroValue9
  t46 := Try.underlying118
  a46 := Try.isAgg118
  z46 := Try.sizeOf118
  v46 := Try.zeroValue118
  t51 := Try.underlying22
  a51 := Try.isAgg22
  z51 := Try.sizeOf22
  v51 := Try.zeroValue22
  t53 := Try.underlying143
  a53 := Try.isAgg143
  z53 := Try.sizeOf143
  v53 := Try.zeroValue143 }
theorem Try.bits_Len (x : Int) (w : World) (h0 : 0 ≤ x) (h1 : x ≤ 18446744073709551615) :
    Calls Try.prog 67 #[.int .u64 x] w fun e w' => e = .returned (.int .i64 (Lib.bitLen x.toNat)) ∧ w' = w := Any.bits_Len Try.lays125 x w h0 h1
def Try.lays111_ren : Go.Shelf.Ren := ⟨fun | 111 => 15 | n => n, fun | 28 => 30 | 3 => 3 | 4 => 4 | 0 => 0 | n => n, fun | n => n⟩
theorem Try.lays111 : Go.Proofs.Lays.n111 Try.prog Try.lays111_ren := {
  mixed := by kernel_rfl
  f111 := Try.func15.trans (congrArg some (by kernel_rfl))
  t0 := Try.underlying0
  a0 := Try.isAgg0
  z0 := Try.sizeOf0
  v0 := Try.zeroValue0
  t3 := Try.underlying3
  a3 := Try.isAgg3
  z3 := Try.sizeOf3
  v3 := Try.zeroValue3
  t4 := Try.underlying4
  a4 := Try.isAgg4
  z4 := Try.sizeOf4
  v4 := Try.zeroValue4
  t28 := Try.underlying30
  a28 := Try.isAgg30
  z28 := Try.sizeOf30
  v28 := Try.zeroValue30 }
open Go.RowKit Go.Lib in
theorem Try.slices_Equal_int (b1 o1 n c b2 o2 m d : Nat) (xs ys : List Int) (w : World) (hx : n ≤ xs.length) (hy : m ≤ ys.length) (hbig : n ≤ 9223372036854775807) (hbig2 : m ≤ 9223372036854775807) (hc1 : ∀ j, j < xs.length → w.cell? ⟨b1, o1 + j, none⟩ = some (.int .i64 (xs.getD j 0))) (hc2 : ∀ j, j < ys.length → w.cell? ⟨b2, o2 + j, none⟩ = some (.int .i64 (ys.getD j 0))) :
    Calls Try.prog 15 #[.slice (some ⟨b1, o1, none⟩) n c, .slice (some ⟨b2, o2, none⟩) m d] w fun e w' => e = .returned (.bool (xs.take n == ys.take m)) ∧ ∃ q, w' = w.drewN q := Any.slices_Equal_int Try.lays111 b1 o1 n c b2 o2 m d xs ys w hx hy hbig hbig2 hc1 hc2
open Go.RowKit Go.Lib in
theorem Try.slices_Equal_int_empty (a1 a2 : Option Addr) (c m d : Nat) (w : World) (hbig2 : m ≤ 9223372036854775807) :
    Calls Try.prog 15 #[.slice a1 0 c, .slice a2 m d] w fun e w' => e = .returned (.bool (decide (m = 0))) ∧ w' = w := Any.slices_Equal_int_empty Try.lays111 a1 a2 c m d w hbig2
end Go.Proofs

/-
  Which slot a time is in (layer 17). Conditions are each theorem's own.
-/
namespace Go.Proofs.Ytkgbjohadkbjaaa
open Go.RowKit Go.Shelf Go.Maps Go.WideMaps
/-- The ring that a time is in. -/
def ringN (a n : Nat) : Nat := (Lib.bitLen (a ^^^ n) - 1) / 6
def slotN (a n : Nat) : Nat := 64 * ringN a n + a / 2 ^ (6 * ringN a n) % 64
theorem ring_le {a n k : Nat} (ha : a < 2 ^ (6 * k + 6)) (hn : n < 2 ^ (6 * k + 6)) (hk : k ≤ 9) : ringN a n ≤ k := by
  have h := Lib.bitLen_le (a ^^^ n) (6 * k + 6) (by omega) (Nat.xor_lt_two_pow ha hn)
  unfold ringN
  omega
theorem slot_lt {a n : Nat} (ha : a ≤ 2 ^ 40) (hn : n ≤ 2 ^ 40) : ringN a n < 7 ∧ slotN a n < 448 := by
  have h := ring_le (a := a) (n := n) (k := 6) (by omega) (by omega) (by omega)
  refine ⟨by omega, ?_⟩
  unfold slotN
  have := Nat.mod_lt (a / 2 ^ (6 * ringN a n)) (show 0 < 64 by decide)
  omega
theorem xor_natW (m n : Nat) (hm : m < 2 ^ 63) (hn : n < 2 ^ 63) : bits .xor .i64 (m : Int) (n : Int) = ((m ^^^ n : Nat) : Int) := by
  have hp : 2 ^ 63 ≤ 2 ^ IntKind.i64.bits := by decide
  have ha' : m % 2 ^ IntKind.i64.bits = m := Nat.mod_eq_of_lt (by omega)
  have hb' : n % 2 ^ IntKind.i64.bits = n := Nat.mod_eq_of_lt (by omega)
  have hx : m ^^^ n < 2 ^ 63 := Nat.xor_lt_two_pow hm hn
  simp only [bits, BitVec.ofInt_natCast, BitVec.toNat_xor, BitVec.toNat_ofNat, ha', hb']
  exact wraps63 _ (Int.natCast_nonneg _) (by omega)
set_option maxRecDepth 100000 in
theorem wslot (d a n : Nat) (w : World) (ha : a ≤ 2 ^ 40) (hn : n ≤ 2 ^ 40) : Calls Try.prog 43 #[.pointer (some ⟨d, 0, none⟩), .int .i64 (a : Int), .int .i64 (n : Int)] w fun e w' => e = .returned (.pointer (some ⟨d, 2 * slotN a n, none⟩)) ∧ w' = w.drew := by
  have hx : a ^^^ n < 2 ^ 63 := Nat.xor_lt_two_pow (by omega) (by omega)
  have hxo := xor_natW a n (by omega) (by omega)
  obtain ⟨hr, hs⟩ := slot_lt ha hn
  obtain ⟨B, hB⟩ : ∃ B, B = Lib.bitLen (a ^^^ n) := ⟨_, rfl⟩
  have hB64 : B ≤ 41 := by rw [hB]; exact Lib.bitLen_le _ 41 (by omega) (Nat.xor_lt_two_pow (by omega) (by omega))
  go_enter Try.func43, Try.ntmps43
  go_upto_region 2 with (go_at_call 67; refine (Try.bits_Len _ w (by omega) (by omega)).mono ?_; rintro e w1 ⟨rfl, rfl⟩; rw [Int.toNat_natCast, ← hB])
  have hmx : max ((Lib.bitLen (a ^^^ n) : Int) - 1) 0 / 6 = (ringN a n : Int) := by unfold ringN; omega
  rw [hmx]
  generalize max ((Lib.bitLen (a ^^^ n) : Int) - 1) 0 = mx at *
  obtain ⟨r, hre⟩ : ∃ r, r = ringN a n := ⟨_, rfl⟩
  have HS : Hid (64 * r + a / 2 ^ (6 * r) % 64 = slotN a n) := Lib.hid (by rw [hre]; rfl)
  rw [← hre] at hr ⊢
  have h7 : r = 0 ∨ r = 1 ∨ r = 2 ∨ r = 3 ∨ r = 4 ∨ r = 5 ∨ r = 6 := by omega
  clear hmx hre hs hx hxo hB
  have HA := Lib.hid ha
  clear ha hn
  rcases h7 with rfl | rfl | rfl | rfl | rfl | rfl | rfl
  · refine wp_region_held_drew (S := fun w' => w' = w1.drew) (by kernel_rfl) rfl (fun hS => ?_)
    refine held_pure (i := 0) (oi := ⟨some 16, _, _, _, _, _⟩) rfl (by kernel_rfl) (by kernel_rfl) (by kernel_rfl) (fun _ _ _ h => h) (by rfl) (v := ?_) (fun w hSw => ?_) hS (fun hS => ?_)
    rotate_left
    · go_simp; try with_reducible rfl
    try go_frame
    refine held_pure (i := 1) (oi := ⟨some 17, _, _, _, _, _⟩) rfl (by kernel_rfl) (by kernel_rfl) (by kernel_rfl) (fun _ _ _ h => h) (by rfl) (v := ?_) (fun w hSw => ?_) hS (fun hS => ?_)
    rotate_left
    · go_simp; try with_reducible rfl
    try go_frame
    refine held_pure (i := 2) (oi := ⟨some 18, _, _, _, _, _⟩) rfl (by kernel_rfl) (by kernel_rfl) (by kernel_rfl) (fun _ _ _ h => h) (by rfl) (v := ?_) (fun w hSw => ?_) hS (fun hS => ?_)
    rotate_left
    · go_simp; try with_reducible rfl
    try go_frame
    refine held_pure (i := 3) (oi := ⟨some 19, _, _, _, _, _⟩) rfl (by kernel_rfl) (by kernel_rfl) (by kernel_rfl) (fun _ _ _ h => h) (by rfl) (v := ?_) (fun w hSw => ?_) hS (fun hS => ?_)
    rotate_left
    · go_simp; try with_reducible rfl
    try go_frame
    refine held_pure (i := 4) (oi := ⟨some 20, _, _, _, _, _⟩) rfl (by kernel_rfl) (by kernel_rfl) (by kernel_rfl) (fun _ _ _ h => h) (by rfl) (v := .int .i64 0) (fun w hSw => by go_simp; try decide) hS (fun hS => ?_)
    try go_frame
    refine held_pure (i := 5) (oi := ⟨some 21, _, _, _, _, _⟩) rfl (by kernel_rfl) (by kernel_rfl) (by kernel_rfl) (fun _ _ _ h => h) (by rfl) (v := .int .i64 ((a / 1 : Nat) : Int)) (fun w hSw => by go_simp; try (have := HA.out; omega)) hS (fun hS => ?_)
    try go_frame
    refine held_pure (i := 6) (oi := ⟨some 22, _, _, _, _, _⟩) rfl (by kernel_rfl) (by kernel_rfl) (by kernel_rfl) (fun _ _ _ h => h) (by rfl) (v := .int .i64 ((a / 1 % 64 : Nat) : Int)) (fun w hSw => by go_simp; try (rw [Int.tmod_eq_emod_of_nonneg (by omega)]); try omega) hS (fun hS => ?_)
    try go_frame
    refine held_pure (i := 7) (oi := ⟨some 23, _, _, _, _, _⟩) rfl (by kernel_rfl) (by kernel_rfl) (by kernel_rfl) (fun _ _ _ h => h) (by rfl) (v := ?_) (fun w hSw => ?_) hS (fun hS => ?_)
    rotate_left
    · go_simp; try with_reducible rfl
    try go_frame
    refine held_pure (i := 8) (oi := ⟨some 24, _, _, _, _, _⟩) rfl (by kernel_rfl) (by kernel_rfl) (by kernel_rfl) (fun _ _ _ h => h) (by rfl) (v := .pointer (some ⟨d, 0, none⟩)) (fun w hSw => by go_simp) hS (fun hS => ?_)
    try go_frame
    refine held_pure (i := 9) (oi := ⟨some 25, _, _, _, _, _⟩) rfl (by kernel_rfl) (by kernel_rfl) (by kernel_rfl) (fun _ _ _ h => h) (by rfl) (v := .pointer (some ⟨d, 0 + 2 * (a / 1 % 64), none⟩)) (fun w hSw => by go_simp; rw [if_pos ⟨by omega, by omega⟩, show ((a : Int) % 64).toNat * 2 = 2 * (a / 1 % 64) from by omega, Nat.div_one]) hS (fun hS => ?_)
    try go_frame
    refine held_pure (i := 10) (oi := ⟨some 6, _, _, _, _, _⟩) rfl (by kernel_rfl) (by kernel_rfl) (by kernel_rfl) (fun _ _ _ h => h) (by rfl) (v := ?_) (fun w hSw => ?_) hS (fun hS => ?_)
    rotate_left
    · go_simp; try with_reducible rfl
    try go_frame
    refine wpAnyH_done (by kernel_rfl) ?_ _
    go_wp2
    go_ret
    exact ⟨by have h9 := HS.out; simp only [Nat.reduceMul, Nat.reducePow] at h9; rw [show 2 * (a % 64) = 2 * slotN a n from by omega]; rfl, rfl⟩
  · refine wp_region_held_drew (S := fun w' => w' = w1.drew) (by kernel_rfl) rfl (fun hS => ?_)
    refine held_pure (i := 0) (oi := ⟨some 16, _, _, _, _, _⟩) rfl (by kernel_rfl) (by kernel_rfl) (by kernel_rfl) (fun _ _ _ h => h) (by rfl) (v := ?_) (fun w hSw => ?_) hS (fun hS => ?_)
    rotate_left
    · go_simp; try with_reducible rfl
    try go_frame
    refine held_pure (i := 1) (oi := ⟨some 17, _, _, _, _, _⟩) rfl (by kernel_rfl) (by kernel_rfl) (by kernel_rfl) (fun _ _ _ h => h) (by rfl) (v := ?_) (fun w hSw => ?_) hS (fun hS => ?_)
    rotate_left
    · go_simp; try with_reducible rfl
    try go_frame
    refine held_pure (i := 2) (oi := ⟨some 18, _, _, _, _, _⟩) rfl (by kernel_rfl) (by kernel_rfl) (by kernel_rfl) (fun _ _ _ h => h) (by rfl) (v := ?_) (fun w hSw => ?_) hS (fun hS => ?_)
    rotate_left
    · go_simp; try with_reducible rfl
    try go_frame
    refine held_pure (i := 3) (oi := ⟨some 19, _, _, _, _, _⟩) rfl (by kernel_rfl) (by kernel_rfl) (by kernel_rfl) (fun _ _ _ h => h) (by rfl) (v := ?_) (fun w hSw => ?_) hS (fun hS => ?_)
    rotate_left
    · go_simp; try with_reducible rfl
    try go_frame
    refine held_pure (i := 4) (oi := ⟨some 20, _, _, _, _, _⟩) rfl (by kernel_rfl) (by kernel_rfl) (by kernel_rfl) (fun _ _ _ h => h) (by rfl) (v := .int .i64 6) (fun w hSw => by go_simp; try decide) hS (fun hS => ?_)
    try go_frame
    refine held_pure (i := 5) (oi := ⟨some 21, _, _, _, _, _⟩) rfl (by kernel_rfl) (by kernel_rfl) (by kernel_rfl) (fun _ _ _ h => h) (by rfl) (v := .int .i64 ((a / 64 : Nat) : Int)) (fun w hSw => by go_simp; try (have := HA.out; omega)) hS (fun hS => ?_)
    try go_frame
    refine held_pure (i := 6) (oi := ⟨some 22, _, _, _, _, _⟩) rfl (by kernel_rfl) (by kernel_rfl) (by kernel_rfl) (fun _ _ _ h => h) (by rfl) (v := .int .i64 ((a / 64 % 64 : Nat) : Int)) (fun w hSw => by go_simp; try (rw [Int.tmod_eq_emod_of_nonneg (by omega)]); try omega) hS (fun hS => ?_)
    try go_frame
    refine held_pure (i := 7) (oi := ⟨some 23, _, _, _, _, _⟩) rfl (by kernel_rfl) (by kernel_rfl) (by kernel_rfl) (fun _ _ _ h => h) (by rfl) (v := ?_) (fun w hSw => ?_) hS (fun hS => ?_)
    rotate_left
    · go_simp; try with_reducible rfl
    try go_frame
    refine held_pure (i := 8) (oi := ⟨some 24, _, _, _, _, _⟩) rfl (by kernel_rfl) (by kernel_rfl) (by kernel_rfl) (fun _ _ _ h => h) (by rfl) (v := .pointer (some ⟨d, 128, none⟩)) (fun w hSw => by go_simp) hS (fun hS => ?_)
    try go_frame
    refine held_pure (i := 9) (oi := ⟨some 25, _, _, _, _, _⟩) rfl (by kernel_rfl) (by kernel_rfl) (by kernel_rfl) (fun _ _ _ h => h) (by rfl) (v := .pointer (some ⟨d, 128 + 2 * (a / 64 % 64), none⟩)) (fun w hSw => by go_simp; rw [if_pos ⟨by omega, by omega⟩, show ((a : Int) / 64 % 64).toNat * 2 = 2 * (a / 64 % 64) from by omega]) hS (fun hS => ?_)
    try go_frame
    refine held_pure (i := 10) (oi := ⟨some 6, _, _, _, _, _⟩) rfl (by kernel_rfl) (by kernel_rfl) (by kernel_rfl) (fun _ _ _ h => h) (by rfl) (v := ?_) (fun w hSw => ?_) hS (fun hS => ?_)
    rotate_left
    · go_simp; try with_reducible rfl
    try go_frame
    refine wpAnyH_done (by kernel_rfl) ?_ _
    go_wp2
    go_ret
    exact ⟨by have h9 := HS.out; simp only [Nat.reduceMul, Nat.reducePow] at h9; rw [show 128 + 2 * (a / 64 % 64) = 2 * slotN a n from by omega]; rfl, rfl⟩
  · refine wp_region_held_drew (S := fun w' => w' = w1.drew) (by kernel_rfl) rfl (fun hS => ?_)
    refine held_pure (i := 0) (oi := ⟨some 16, _, _, _, _, _⟩) rfl (by kernel_rfl) (by kernel_rfl) (by kernel_rfl) (fun _ _ _ h => h) (by rfl) (v := ?_) (fun w hSw => ?_) hS (fun hS => ?_)
    rotate_left
    · go_simp; try with_reducible rfl
    try go_frame
    refine held_pure (i := 1) (oi := ⟨some 17, _, _, _, _, _⟩) rfl (by kernel_rfl) (by kernel_rfl) (by kernel_rfl) (fun _ _ _ h => h) (by rfl) (v := ?_) (fun w hSw => ?_) hS (fun hS => ?_)
    rotate_left
    · go_simp; try with_reducible rfl
    try go_frame
    refine held_pure (i := 2) (oi := ⟨some 18, _, _, _, _, _⟩) rfl (by kernel_rfl) (by kernel_rfl) (by kernel_rfl) (fun _ _ _ h => h) (by rfl) (v := ?_) (fun w hSw => ?_) hS (fun hS => ?_)
    rotate_left
    · go_simp; try with_reducible rfl
    try go_frame
    refine held_pure (i := 3) (oi := ⟨some 19, _, _, _, _, _⟩) rfl (by kernel_rfl) (by kernel_rfl) (by kernel_rfl) (fun _ _ _ h => h) (by rfl) (v := ?_) (fun w hSw => ?_) hS (fun hS => ?_)
    rotate_left
    · go_simp; try with_reducible rfl
    try go_frame
    refine held_pure (i := 4) (oi := ⟨some 20, _, _, _, _, _⟩) rfl (by kernel_rfl) (by kernel_rfl) (by kernel_rfl) (fun _ _ _ h => h) (by rfl) (v := .int .i64 12) (fun w hSw => by go_simp; try decide) hS (fun hS => ?_)
    try go_frame
    refine held_pure (i := 5) (oi := ⟨some 21, _, _, _, _, _⟩) rfl (by kernel_rfl) (by kernel_rfl) (by kernel_rfl) (fun _ _ _ h => h) (by rfl) (v := .int .i64 ((a / 4096 : Nat) : Int)) (fun w hSw => by go_simp; try (have := HA.out; omega)) hS (fun hS => ?_)
    try go_frame
    refine held_pure (i := 6) (oi := ⟨some 22, _, _, _, _, _⟩) rfl (by kernel_rfl) (by kernel_rfl) (by kernel_rfl) (fun _ _ _ h => h) (by rfl) (v := .int .i64 ((a / 4096 % 64 : Nat) : Int)) (fun w hSw => by go_simp; try (rw [Int.tmod_eq_emod_of_nonneg (by omega)]); try omega) hS (fun hS => ?_)
    try go_frame
    refine held_pure (i := 7) (oi := ⟨some 23, _, _, _, _, _⟩) rfl (by kernel_rfl) (by kernel_rfl) (by kernel_rfl) (fun _ _ _ h => h) (by rfl) (v := ?_) (fun w hSw => ?_) hS (fun hS => ?_)
    rotate_left
    · go_simp; try with_reducible rfl
    try go_frame
    refine held_pure (i := 8) (oi := ⟨some 24, _, _, _, _, _⟩) rfl (by kernel_rfl) (by kernel_rfl) (by kernel_rfl) (fun _ _ _ h => h) (by rfl) (v := .pointer (some ⟨d, 256, none⟩)) (fun w hSw => by go_simp) hS (fun hS => ?_)
    try go_frame
    refine held_pure (i := 9) (oi := ⟨some 25, _, _, _, _, _⟩) rfl (by kernel_rfl) (by kernel_rfl) (by kernel_rfl) (fun _ _ _ h => h) (by rfl) (v := .pointer (some ⟨d, 256 + 2 * (a / 4096 % 64), none⟩)) (fun w hSw => by go_simp; rw [if_pos ⟨by omega, by omega⟩, show ((a : Int) / 4096 % 64).toNat * 2 = 2 * (a / 4096 % 64) from by omega]) hS (fun hS => ?_)
    try go_frame
    refine held_pure (i := 10) (oi := ⟨some 6, _, _, _, _, _⟩) rfl (by kernel_rfl) (by kernel_rfl) (by kernel_rfl) (fun _ _ _ h => h) (by rfl) (v := ?_) (fun w hSw => ?_) hS (fun hS => ?_)
    rotate_left
    · go_simp; try with_reducible rfl
    try go_frame
    refine wpAnyH_done (by kernel_rfl) ?_ _
    go_wp2
    go_ret
    exact ⟨by have h9 := HS.out; simp only [Nat.reduceMul, Nat.reducePow] at h9; rw [show 256 + 2 * (a / 4096 % 64) = 2 * slotN a n from by omega]; rfl, rfl⟩
  · refine wp_region_held_drew (S := fun w' => w' = w1.drew) (by kernel_rfl) rfl (fun hS => ?_)
    refine held_pure (i := 0) (oi := ⟨some 16, _, _, _, _, _⟩) rfl (by kernel_rfl) (by kernel_rfl) (by kernel_rfl) (fun _ _ _ h => h) (by rfl) (v := ?_) (fun w hSw => ?_) hS (fun hS => ?_)
    rotate_left
    · go_simp; try with_reducible rfl
    try go_frame
    refine held_pure (i := 1) (oi := ⟨some 17, _, _, _, _, _⟩) rfl (by kernel_rfl) (by kernel_rfl) (by kernel_rfl) (fun _ _ _ h => h) (by rfl) (v := ?_) (fun w hSw => ?_) hS (fun hS => ?_)
    rotate_left
    · go_simp; try with_reducible rfl
    try go_frame
    refine held_pure (i := 2) (oi := ⟨some 18, _, _, _, _, _⟩) rfl (by kernel_rfl) (by kernel_rfl) (by kernel_rfl) (fun _ _ _ h => h) (by rfl) (v := ?_) (fun w hSw => ?_) hS (fun hS => ?_)
    rotate_left
    · go_simp; try with_reducible rfl
    try go_frame
    refine held_pure (i := 3) (oi := ⟨some 19, _, _, _, _, _⟩) rfl (by kernel_rfl) (by kernel_rfl) (by kernel_rfl) (fun _ _ _ h => h) (by rfl) (v := ?_) (fun w hSw => ?_) hS (fun hS => ?_)
    rotate_left
    · go_simp; try with_reducible rfl
    try go_frame
    refine held_pure (i := 4) (oi := ⟨some 20, _, _, _, _, _⟩) rfl (by kernel_rfl) (by kernel_rfl) (by kernel_rfl) (fun _ _ _ h => h) (by rfl) (v := .int .i64 18) (fun w hSw => by go_simp; try decide) hS (fun hS => ?_)
    try go_frame
    refine held_pure (i := 5) (oi := ⟨some 21, _, _, _, _, _⟩) rfl (by kernel_rfl) (by kernel_rfl) (by kernel_rfl) (fun _ _ _ h => h) (by rfl) (v := .int .i64 ((a / 262144 : Nat) : Int)) (fun w hSw => by go_simp; try (have := HA.out; omega)) hS (fun hS => ?_)
    try go_frame
    refine held_pure (i := 6) (oi := ⟨some 22, _, _, _, _, _⟩) rfl (by kernel_rfl) (by kernel_rfl) (by kernel_rfl) (fun _ _ _ h => h) (by rfl) (v := .int .i64 ((a / 262144 % 64 : Nat) : Int)) (fun w hSw => by go_simp; try (rw [Int.tmod_eq_emod_of_nonneg (by omega)]); try omega) hS (fun hS => ?_)
    try go_frame
    refine held_pure (i := 7) (oi := ⟨some 23, _, _, _, _, _⟩) rfl (by kernel_rfl) (by kernel_rfl) (by kernel_rfl) (fun _ _ _ h => h) (by rfl) (v := ?_) (fun w hSw => ?_) hS (fun hS => ?_)
    rotate_left
    · go_simp; try with_reducible rfl
    try go_frame
    refine held_pure (i := 8) (oi := ⟨some 24, _, _, _, _, _⟩) rfl (by kernel_rfl) (by kernel_rfl) (by kernel_rfl) (fun _ _ _ h => h) (by rfl) (v := .pointer (some ⟨d, 384, none⟩)) (fun w hSw => by go_simp) hS (fun hS => ?_)
    try go_frame
    refine held_pure (i := 9) (oi := ⟨some 25, _, _, _, _, _⟩) rfl (by kernel_rfl) (by kernel_rfl) (by kernel_rfl) (fun _ _ _ h => h) (by rfl) (v := .pointer (some ⟨d, 384 + 2 * (a / 262144 % 64), none⟩)) (fun w hSw => by go_simp; rw [if_pos ⟨by omega, by omega⟩, show ((a : Int) / 262144 % 64).toNat * 2 = 2 * (a / 262144 % 64) from by omega]) hS (fun hS => ?_)
    try go_frame
    refine held_pure (i := 10) (oi := ⟨some 6, _, _, _, _, _⟩) rfl (by kernel_rfl) (by kernel_rfl) (by kernel_rfl) (fun _ _ _ h => h) (by rfl) (v := ?_) (fun w hSw => ?_) hS (fun hS => ?_)
    rotate_left
    · go_simp; try with_reducible rfl
    try go_frame
    refine wpAnyH_done (by kernel_rfl) ?_ _
    go_wp2
    go_ret
    exact ⟨by have h9 := HS.out; simp only [Nat.reduceMul, Nat.reducePow] at h9; rw [show 384 + 2 * (a / 262144 % 64) = 2 * slotN a n from by omega]; rfl, rfl⟩
  · refine wp_region_held_drew (S := fun w' => w' = w1.drew) (by kernel_rfl) rfl (fun hS => ?_)
    refine held_pure (i := 0) (oi := ⟨some 16, _, _, _, _, _⟩) rfl (by kernel_rfl) (by kernel_rfl) (by kernel_rfl) (fun _ _ _ h => h) (by rfl) (v := ?_) (fun w hSw => ?_) hS (fun hS => ?_)
    rotate_left
    · go_simp; try with_reducible rfl
    try go_frame
    refine held_pure (i := 1) (oi := ⟨some 17, _, _, _, _, _⟩) rfl (by kernel_rfl) (by kernel_rfl) (by kernel_rfl) (fun _ _ _ h => h) (by rfl) (v := ?_) (fun w hSw => ?_) hS (fun hS => ?_)
    rotate_left
    · go_simp; try with_reducible rfl
    try go_frame
    refine held_pure (i := 2) (oi := ⟨some 18, _, _, _, _, _⟩) rfl (by kernel_rfl) (by kernel_rfl) (by kernel_rfl) (fun _ _ _ h => h) (by rfl) (v := ?_) (fun w hSw => ?_) hS (fun hS => ?_)
    rotate_left
    · go_simp; try with_reducible rfl
    try go_frame
    refine held_pure (i := 3) (oi := ⟨some 19, _, _, _, _, _⟩) rfl (by kernel_rfl) (by kernel_rfl) (by kernel_rfl) (fun _ _ _ h => h) (by rfl) (v := ?_) (fun w hSw => ?_) hS (fun hS => ?_)
    rotate_left
    · go_simp; try with_reducible rfl
    try go_frame
    refine held_pure (i := 4) (oi := ⟨some 20, _, _, _, _, _⟩) rfl (by kernel_rfl) (by kernel_rfl) (by kernel_rfl) (fun _ _ _ h => h) (by rfl) (v := .int .i64 24) (fun w hSw => by go_simp; try decide) hS (fun hS => ?_)
    try go_frame
    refine held_pure (i := 5) (oi := ⟨some 21, _, _, _, _, _⟩) rfl (by kernel_rfl) (by kernel_rfl) (by kernel_rfl) (fun _ _ _ h => h) (by rfl) (v := .int .i64 ((a / 16777216 : Nat) : Int)) (fun w hSw => by go_simp; try (have := HA.out; omega)) hS (fun hS => ?_)
    try go_frame
    refine held_pure (i := 6) (oi := ⟨some 22, _, _, _, _, _⟩) rfl (by kernel_rfl) (by kernel_rfl) (by kernel_rfl) (fun _ _ _ h => h) (by rfl) (v := .int .i64 ((a / 16777216 % 64 : Nat) : Int)) (fun w hSw => by go_simp; try (rw [Int.tmod_eq_emod_of_nonneg (by omega)]); try omega) hS (fun hS => ?_)
    try go_frame
    refine held_pure (i := 7) (oi := ⟨some 23, _, _, _, _, _⟩) rfl (by kernel_rfl) (by kernel_rfl) (by kernel_rfl) (fun _ _ _ h => h) (by rfl) (v := ?_) (fun w hSw => ?_) hS (fun hS => ?_)
    rotate_left
    · go_simp; try with_reducible rfl
    try go_frame
    refine held_pure (i := 8) (oi := ⟨some 24, _, _, _, _, _⟩) rfl (by kernel_rfl) (by kernel_rfl) (by kernel_rfl) (fun _ _ _ h => h) (by rfl) (v := .pointer (some ⟨d, 512, none⟩)) (fun w hSw => by go_simp) hS (fun hS => ?_)
    try go_frame
    refine held_pure (i := 9) (oi := ⟨some 25, _, _, _, _, _⟩) rfl (by kernel_rfl) (by kernel_rfl) (by kernel_rfl) (fun _ _ _ h => h) (by rfl) (v := .pointer (some ⟨d, 512 + 2 * (a / 16777216 % 64), none⟩)) (fun w hSw => by go_simp; rw [if_pos ⟨by omega, by omega⟩, show ((a : Int) / 16777216 % 64).toNat * 2 = 2 * (a / 16777216 % 64) from by omega]) hS (fun hS => ?_)
    try go_frame
    refine held_pure (i := 10) (oi := ⟨some 6, _, _, _, _, _⟩) rfl (by kernel_rfl) (by kernel_rfl) (by kernel_rfl) (fun _ _ _ h => h) (by rfl) (v := ?_) (fun w hSw => ?_) hS (fun hS => ?_)
    rotate_left
    · go_simp; try with_reducible rfl
    try go_frame
    refine wpAnyH_done (by kernel_rfl) ?_ _
    go_wp2
    go_ret
    exact ⟨by have h9 := HS.out; simp only [Nat.reduceMul, Nat.reducePow] at h9; rw [show 512 + 2 * (a / 16777216 % 64) = 2 * slotN a n from by omega]; rfl, rfl⟩
  · refine wp_region_held_drew (S := fun w' => w' = w1.drew) (by kernel_rfl) rfl (fun hS => ?_)
    refine held_pure (i := 0) (oi := ⟨some 16, _, _, _, _, _⟩) rfl (by kernel_rfl) (by kernel_rfl) (by kernel_rfl) (fun _ _ _ h => h) (by rfl) (v := ?_) (fun w hSw => ?_) hS (fun hS => ?_)
    rotate_left
    · go_simp; try with_reducible rfl
    try go_frame
    refine held_pure (i := 1) (oi := ⟨some 17, _, _, _, _, _⟩) rfl (by kernel_rfl) (by kernel_rfl) (by kernel_rfl) (fun _ _ _ h => h) (by rfl) (v := ?_) (fun w hSw => ?_) hS (fun hS => ?_)
    rotate_left
    · go_simp; try with_reducible rfl
    try go_frame
    refine held_pure (i := 2) (oi := ⟨some 18, _, _, _, _, _⟩) rfl (by kernel_rfl) (by kernel_rfl) (by kernel_rfl) (fun _ _ _ h => h) (by rfl) (v := ?_) (fun w hSw => ?_) hS (fun hS => ?_)
    rotate_left
    · go_simp; try with_reducible rfl
    try go_frame
    refine held_pure (i := 3) (oi := ⟨some 19, _, _, _, _, _⟩) rfl (by kernel_rfl) (by kernel_rfl) (by kernel_rfl) (fun _ _ _ h => h) (by rfl) (v := ?_) (fun w hSw => ?_) hS (fun hS => ?_)
    rotate_left
    · go_simp; try with_reducible rfl
    try go_frame
    refine held_pure (i := 4) (oi := ⟨some 20, _, _, _, _, _⟩) rfl (by kernel_rfl) (by kernel_rfl) (by kernel_rfl) (fun _ _ _ h => h) (by rfl) (v := .int .i64 30) (fun w hSw => by go_simp; try decide) hS (fun hS => ?_)
    try go_frame
    refine held_pure (i := 5) (oi := ⟨some 21, _, _, _, _, _⟩) rfl (by kernel_rfl) (by kernel_rfl) (by kernel_rfl) (fun _ _ _ h => h) (by rfl) (v := .int .i64 ((a / 1073741824 : Nat) : Int)) (fun w hSw => by go_simp; try (have := HA.out; omega)) hS (fun hS => ?_)
    try go_frame
    refine held_pure (i := 6) (oi := ⟨some 22, _, _, _, _, _⟩) rfl (by kernel_rfl) (by kernel_rfl) (by kernel_rfl) (fun _ _ _ h => h) (by rfl) (v := .int .i64 ((a / 1073741824 % 64 : Nat) : Int)) (fun w hSw => by go_simp; try (rw [Int.tmod_eq_emod_of_nonneg (by omega)]); try omega) hS (fun hS => ?_)
    try go_frame
    refine held_pure (i := 7) (oi := ⟨some 23, _, _, _, _, _⟩) rfl (by kernel_rfl) (by kernel_rfl) (by kernel_rfl) (fun _ _ _ h => h) (by rfl) (v := ?_) (fun w hSw => ?_) hS (fun hS => ?_)
    rotate_left
    · go_simp; try with_reducible rfl
    try go_frame
    refine held_pure (i := 8) (oi := ⟨some 24, _, _, _, _, _⟩) rfl (by kernel_rfl) (by kernel_rfl) (by kernel_rfl) (fun _ _ _ h => h) (by rfl) (v := .pointer (some ⟨d, 640, none⟩)) (fun w hSw => by go_simp) hS (fun hS => ?_)
    try go_frame
    refine held_pure (i := 9) (oi := ⟨some 25, _, _, _, _, _⟩) rfl (by kernel_rfl) (by kernel_rfl) (by kernel_rfl) (fun _ _ _ h => h) (by rfl) (v := .pointer (some ⟨d, 640 + 2 * (a / 1073741824 % 64), none⟩)) (fun w hSw => by go_simp; rw [if_pos ⟨by omega, by omega⟩, show ((a : Int) / 1073741824 % 64).toNat * 2 = 2 * (a / 1073741824 % 64) from by omega]) hS (fun hS => ?_)
    try go_frame
    refine held_pure (i := 10) (oi := ⟨some 6, _, _, _, _, _⟩) rfl (by kernel_rfl) (by kernel_rfl) (by kernel_rfl) (fun _ _ _ h => h) (by rfl) (v := ?_) (fun w hSw => ?_) hS (fun hS => ?_)
    rotate_left
    · go_simp; try with_reducible rfl
    try go_frame
    refine wpAnyH_done (by kernel_rfl) ?_ _
    go_wp2
    go_ret
    exact ⟨by have h9 := HS.out; simp only [Nat.reduceMul, Nat.reducePow] at h9; rw [show 640 + 2 * (a / 1073741824 % 64) = 2 * slotN a n from by omega]; rfl, rfl⟩
  · refine wp_region_held_drew (S := fun w' => w' = w1.drew) (by kernel_rfl) rfl (fun hS => ?_)
    refine held_pure (i := 0) (oi := ⟨some 16, _, _, _, _, _⟩) rfl (by kernel_rfl) (by kernel_rfl) (by kernel_rfl) (fun _ _ _ h => h) (by rfl) (v := ?_) (fun w hSw => ?_) hS (fun hS => ?_)
    rotate_left
    · go_simp; try with_reducible rfl
    try go_frame
    refine held_pure (i := 1) (oi := ⟨some 17, _, _, _, _, _⟩) rfl (by kernel_rfl) (by kernel_rfl) (by kernel_rfl) (fun _ _ _ h => h) (by rfl) (v := ?_) (fun w hSw => ?_) hS (fun hS => ?_)
    rotate_left
    · go_simp; try with_reducible rfl
    try go_frame
    refine held_pure (i := 2) (oi := ⟨some 18, _, _, _, _, _⟩) rfl (by kernel_rfl) (by kernel_rfl) (by kernel_rfl) (fun _ _ _ h => h) (by rfl) (v := ?_) (fun w hSw => ?_) hS (fun hS => ?_)
    rotate_left
    · go_simp; try with_reducible rfl
    try go_frame
    refine held_pure (i := 3) (oi := ⟨some 19, _, _, _, _, _⟩) rfl (by kernel_rfl) (by kernel_rfl) (by kernel_rfl) (fun _ _ _ h => h) (by rfl) (v := ?_) (fun w hSw => ?_) hS (fun hS => ?_)
    rotate_left
    · go_simp; try with_reducible rfl
    try go_frame
    refine held_pure (i := 4) (oi := ⟨some 20, _, _, _, _, _⟩) rfl (by kernel_rfl) (by kernel_rfl) (by kernel_rfl) (fun _ _ _ h => h) (by rfl) (v := .int .i64 36) (fun w hSw => by go_simp; try decide) hS (fun hS => ?_)
    try go_frame
    refine held_pure (i := 5) (oi := ⟨some 21, _, _, _, _, _⟩) rfl (by kernel_rfl) (by kernel_rfl) (by kernel_rfl) (fun _ _ _ h => h) (by rfl) (v := .int .i64 ((a / 68719476736 : Nat) : Int)) (fun w hSw => by go_simp; try (have := HA.out; omega)) hS (fun hS => ?_)
    try go_frame
    refine held_pure (i := 6) (oi := ⟨some 22, _, _, _, _, _⟩) rfl (by kernel_rfl) (by kernel_rfl) (by kernel_rfl) (fun _ _ _ h => h) (by rfl) (v := .int .i64 ((a / 68719476736 % 64 : Nat) : Int)) (fun w hSw => by go_simp; try (rw [Int.tmod_eq_emod_of_nonneg (by omega)]); try omega) hS (fun hS => ?_)
    try go_frame
    refine held_pure (i := 7) (oi := ⟨some 23, _, _, _, _, _⟩) rfl (by kernel_rfl) (by kernel_rfl) (by kernel_rfl) (fun _ _ _ h => h) (by rfl) (v := ?_) (fun w hSw => ?_) hS (fun hS => ?_)
    rotate_left
    · go_simp; try with_reducible rfl
    try go_frame
    refine held_pure (i := 8) (oi := ⟨some 24, _, _, _, _, _⟩) rfl (by kernel_rfl) (by kernel_rfl) (by kernel_rfl) (fun _ _ _ h => h) (by rfl) (v := .pointer (some ⟨d, 768, none⟩)) (fun w hSw => by go_simp) hS (fun hS => ?_)
    try go_frame
    refine held_pure (i := 9) (oi := ⟨some 25, _, _, _, _, _⟩) rfl (by kernel_rfl) (by kernel_rfl) (by kernel_rfl) (fun _ _ _ h => h) (by rfl) (v := .pointer (some ⟨d, 768 + 2 * (a / 68719476736 % 64), none⟩)) (fun w hSw => by go_simp; rw [if_pos ⟨by omega, by omega⟩, show ((a : Int) / 68719476736 % 64).toNat * 2 = 2 * (a / 68719476736 % 64) from by omega]) hS (fun hS => ?_)
    try go_frame
    refine held_pure (i := 10) (oi := ⟨some 6, _, _, _, _, _⟩) rfl (by kernel_rfl) (by kernel_rfl) (by kernel_rfl) (fun _ _ _ h => h) (by rfl) (v := ?_) (fun w hSw => ?_) hS (fun hS => ?_)
    rotate_left
    · go_simp; try with_reducible rfl
    try go_frame
    refine wpAnyH_done (by kernel_rfl) ?_ _
    go_wp2
    go_ret
    exact ⟨by have h9 := HS.out; simp only [Nat.reduceMul, Nat.reducePow] at h9; rw [show 768 + 2 * (a / 68719476736 % 64) = 2 * slotN a n from by omega]; rfl, rfl⟩
end Go.Proofs.Ytkgbjohadkbjaaa

/-
  What is armed (layer 17); Arm, of an id that is not armed, into a slot that is empty. Conditions are each theorem's own.
-/
namespace Go.Proofs.Ytkgbjohadkbjaaa
open Go.RowKit Go.Shelf Go.Maps Go.WideMaps
/-- A timer: its slot, its block, its id, its time. -/
structure Te where
  q : Nat
  b : Nat
  id : Int
  a : Nat
/-- A wheel with the timers E, at most one in a slot. -/
structure Ws (w : World) (B0 d M : Nat) (most : Int) (now : Nat) (E : List Te) (N : Nat) : Prop where
  T : ∃ T, Wb w d M most (now : Int) T ∧ (∀ e ∈ E, T e.q = some e.b) ∧ (∀ q, (∀ e ∈ E, e.q ≠ q) → T q = none)
  im : Iw w M N (E.map (·.id))
  tm : ∀ e ∈ E, w.heap[e.b]? = some (.cells (tmC e.id (e.a : Int) (some ⟨d, 2 * e.q, none⟩)) 87 (0, 0)) ∧ e.q < 448 ∧ B0 ≤ e.b
  pw : E.Pairwise (fun x y => x.q ≠ y.q ∧ x.b ≠ y.b)
  z : B0 ≤ d ∧ B0 ≤ M
section
variable {w w' : World} {B0 d M N : Nat} {most : Int} {now : Nat} {E : List Te}
theorem Ws.below (h : Ws w B0 d M most now E N) (hb : Below w.heap.size w w') : Ws w' B0 d M most now E N := by
  obtain ⟨T, h1, h2, h3⟩ := h.T
  exact ⟨⟨T, h1.of_block (hb.block d h1.lt), h2, h3⟩, h.im.of_block (hb.block M h.im.lt), fun e he => ⟨(hb.block e.b (heap_lt (h.tm e he).1)).trans (h.tm e he).1, (h.tm e he).2⟩, h.pw, h.z⟩
theorem Ws.mono {N' : Nat} (h : Ws w B0 d M most now E N) (hN : N ≤ N') : Ws w B0 d M most now E N' := ⟨h.T, h.im.mono hN, h.tm, h.pw, h.z⟩
theorem Ws.bz (h : Ws w B0 d M most now E N) : B0 ≤ w.heap.size := by
  obtain ⟨T, h1, _⟩ := h.T
  exact Nat.le_trans h.z.1 (Nat.le_of_lt h1.lt)
theorem Ws.ne (h : Ws w B0 d M most now E N) : d ≠ M := by
  obtain ⟨T, h1, _⟩ := h.T
  obtain ⟨cs, h2⟩ := h1.is
  obtain ⟨es, clock, h3⟩ := h.im.is
  exact fun e => by rw [e, h3] at h2; cases h2
theorem Ws.neT (h : Ws w B0 d M most now E N) {e : Te} (he : e ∈ E) : e.b ≠ d ∧ e.b ≠ M := by
  obtain ⟨T, h1, _⟩ := h.T
  obtain ⟨cs, h2⟩ := h1.is
  obtain ⟨es, clock, h3⟩ := h.im.is
  have h4 := (h.tm e he).1
  refine ⟨fun e2 => ?_, fun e2 => ?_⟩
  · rw [e2, h2] at h4
    injection h4 with h4
    injection h4 with _ e3 _
    exact absurd e3 (nat_ne (by kernel_rfl))
  · rw [e2, h3] at h4; cases h4
theorem updW_wp {o : Oper} {a : Act} {w w' : World} {K : Act → World → Prop} {Q : Exit → Act → World → Prop} {T : TypeId} {m x v : Operand} {b : Nat} {key c : Value} (ho : o.op = .mapUpdate T m x v) (hm : a.eval m = .map (some b)) (hx : a.eval x = key) (hv : a.eval v = c)
    (h : (Instr.mapUpdate T (.map (some b)) key c).run Try.prog w = .ok () w') (hk : K (a.put o.dst undef) w') : o.wp Try.prog a w K Q := by
  unfold Oper.wp execOp
  simp only [ho, hm, hx, hv, Sem.run_bind, Sem.run_pure, h, Result.andThen_ok]
  exact hk
set_option maxRecDepth 100000 in
set_option maxHeartbeats 4000000 in
theorem warm (h : Ws w B0 d M most now E N) (id : Int) (hid : 0 ≤ id ∧ id ≤ 2147483648) (a : Nat) (ha : a ≤ 2 ^ 40) (hnow : now ≤ 2 ^ 40) (hnew : ∀ e ∈ E, e.id ≠ id) (hroom : (E.length : Int) < most) (hN : N < maxLen) (hq : ∀ e ∈ E, e.q ≠ slotN (max a now) now) :
    Calls Try.prog 13 #[.pointer (some ⟨d, 0, none⟩), .int .i64 id, .int .i64 (a : Int)] w fun e w' => e = .returned (.int .i64 0) ∧ ∃ b, w.heap.size ≤ b ∧ Ws w' B0 d M most now (⟨slotN (max a now) now, b, id, max a now⟩ :: E) (N + 1) ∧ Below B0 w w' := by
  have hne := h.ne
  have hbz := h.bz
  have H := Lib.hid h
  obtain ⟨T, hwb, hT1, hT2⟩ := h.T
  have HWB := Lib.hid hwb
  have HT1 := Lib.hid hT1
  have HT2 := Lib.hid hT2
  have him := h.im
  have hidw : wfW id := ⟨by omega, by omega⟩
  have hno : (E.map (·.id)).contains id = false := by
    rw [Bool.eq_false_iff]; intro hc
    rw [List.contains_iff_mem] at hc
    obtain ⟨e, he, e2⟩ := List.mem_map.1 hc
    exact hnew e he e2
  obtain ⟨pa, hlk⟩ := him.look hidw
  rw [hno] at hlk
  have HLK := Lib.hid hlk
  have km := hwb.cm
  have KM : Hid (w.drew.cell? ⟨d, 896, none⟩ = some (.map (some M))) := Lib.hid hwb.cm
  have KO : Hid (w.drew.cell? ⟨d, 897, none⟩ = some (.int .i64 most)) := Lib.hid hwb.cmo
  have hl := (him.of_block (w' := w.drew) rfl).len
  rw [List.length_map] at hl
  have dF : decide (most ≤ (E.length : Int)) = false := decide_eq_false (by omega)
  have HW1 : Hid ((decide ((0 : Int) ≤ id) && decide (id ≤ 2147483648)) = true) := Lib.hid (by simp [hid.1, hid.2])
  have HW2' : Hid ((decide ((0 : Int) ≤ (a : Int)) && decide ((a : Int) ≤ 1099511627776)) = true) := Lib.hid (by simp; omega)
  obtain ⟨m, hm⟩ : ∃ m, m = max a now := ⟨_, rfl⟩
  have hmi : max (a : Int) (now : Int) = (m : Int) := by omega
  have HAN : Hid (m ≤ 2 ^ 40 ∧ now ≤ 2 ^ 40) := Lib.hid ⟨by omega, hnow⟩
  have HAN2 : Hid (slotN m now < 448) := Lib.hid (slot_lt HAN.out.1 HAN.out.2).2
  rw [← hm] at hq ⊢
  have HTN : Hid (T (slotN m now) = none) := Lib.hid (hT2 _ hq)
  have HQ := Lib.hid hq
  have HND := Lib.hid hno
  obtain ⟨X1, hX1⟩ : ∃ X1, X1 = (w.alloc (.cells (tmC id 0 none) 87)).drew := ⟨_, rfl⟩
  have HX1 := Lib.hid (show (w.alloc (.cells #[.int .i64 id, .int .i64 0, .pointer none, .pointer none, .pointer none] 87)).drew = X1 from hX1.symm)
  have b1 : Below w.heap.size w X1 := by rw [hX1]; exact ((Below.refl _ w).alloc (Nat.le_refl _) _).drew
  have hbX1 : X1.heap[w.heap.size]? = some (.cells (tmC id 0 none) 87 (0, 0)) := by rw [hX1]; exact World.alloc_heap_new w _
  obtain ⟨X2, hu2, hi2, hg2⟩ := (him.of_block (b1.block M him.lt)).put hN hidw hno (some ⟨w.heap.size, 0, none⟩)
  have k2 := (Kept.of_grown hg2).mono (T := fun k => k = M) (fun _ _ e => by injection e)
  have hMw := him.lt
  have hdw := hwb.lt
  have hbX2 := (k2.block w.heap.size (heap_lt hbX1) (by omega)).trans hbX1
  have hwb2 := (hwb.of_block (b1.block d hdw)).of_block (k2.block d (Nat.lt_of_lt_of_le hdw b1.size) hne)
  have HU2 := Lib.hid hu2
  have HI2 := Lib.hid hi2
  have HK2' := Lib.hid k2
  have HB1 := Lib.hid b1
  have km1 : X1.cell? ⟨d, 896, none⟩ = some (.map (some M)) := (hwb.of_block (b1.block d hdw)).cm
  have HBX2 := Lib.hid hbX2
  have HWB2 := Lib.hid hwb2
  clear h hwb hT1 hT2 hlk hno hnew hid ha hnow hq hX1 b1 hbX1 hu2 hi2 hg2 k2 hbX2 hwb2 hm hroom him
  go_enter Try.func13, Try.ntmps13
  go_upto_region 10 with (first
    | ((with_reducible show wpList _ _ _ (Oper.mk _ (Op.lookup _ _ _ _) _ _ _ _ :: _) _ _); refine wpList_val rfl (run_lookW rfl rfl rfl HLK.out) ?_)
    | (go_at_call 40; refine (wmade HWB.out).mono ?_; rintro e w1 ⟨rfl, rfl⟩)
    | (go_at_call 39; (with_reducible refine (wwithin id _ _ _).mono ?_); rintro e w1 ⟨rfl, rfl⟩; rw [HW1.out])
    | (go_at_call 39; (with_reducible refine (wwithin (a : Int) _ _ _).mono ?_); rintro e w1 ⟨rfl, rfl⟩; rw [HW2'.out]))
  refine wp_region_held_drew (S := fun w' => w' = w.drew) (by kernel_rfl) rfl (fun hS => ?_)
  refine held_pure (i := 0) (oi := ⟨some 43, _, _, _, _, _⟩) rfl (by kernel_rfl) (by kernel_rfl) (by kernel_rfl) (fun _ _ _ h => h) (by rfl) (v := ?_) (fun w hSw => ?_) hS (fun hS => ?_)
  rotate_left
  · go_simp; try with_reducible rfl
  try go_frame
  refine held_pure (i := 1) (oi := ⟨some 44, _, _, _, _, _⟩) rfl (by kernel_rfl) (by kernel_rfl) (by kernel_rfl) (fun _ _ _ h => h) (by rfl) (v := ?_) (fun w hSw => ?_) hS (fun hS => ?_)
  rotate_left
  · go_simp; try with_reducible rfl
  try go_frame
  refine held_pure (i := 2) (oi := ⟨some 45, _, _, _, _, _⟩) rfl (by kernel_rfl) (by kernel_rfl) (by kernel_rfl) (fun _ _ _ h => h) (by rfl) (v := ?_) (fun w hSw => ?_) hS (fun hS => ?_)
  rotate_left
  · go_simp; try with_reducible rfl
  try go_frame
  refine held_pure (i := 3) (oi := ⟨some 46, _, _, _, _, _⟩) rfl (by kernel_rfl) (by kernel_rfl) (by kernel_rfl) (fun _ _ _ h => h) (by rfl) (fun w hSw => run_load_mpW rfl rfl (by rw [hSw]; exact KM.out)) hS (fun hS => ?_)
  try go_frame
  refine held_pure (i := 4) (oi := ⟨some 47, _, _, _, _, _⟩) rfl (by kernel_rfl) (by kernel_rfl) (by kernel_rfl) (fun _ _ _ h => h) (by rfl) (v := ?_) (fun w hSw => ?_) hS (fun hS => ?_)
  rotate_left
  · go_simp; try with_reducible rfl
  try go_frame
  refine held_pure (i := 5) (oi := ⟨some 48, _, _, _, _, _⟩) rfl (by kernel_rfl) (by kernel_rfl) (by kernel_rfl) (fun _ _ _ h => h) (by rfl) (v := ?_) (fun w hSw => ?_) hS (fun hS => ?_)
  rotate_left
  · go_simp; try with_reducible rfl
  try go_frame
  refine held_pure (i := 6) (oi := ⟨some 49, _, _, _, _, _⟩) rfl (by kernel_rfl) (by kernel_rfl) (by kernel_rfl) (fun _ _ _ h => h) (by rfl) (v := ?_) (fun w hSw => ?_) hS (fun hS => ?_)
  rotate_left
  · go_simp; try with_reducible rfl
  try go_frame
  refine held_pure (i := 7) (oi := ⟨some 50, _, _, _, _, _⟩) rfl (by kernel_rfl) (by kernel_rfl) (by kernel_rfl) (fun _ _ _ h => h) (by rfl) (v := ?_) (fun w hSw => ?_) hS (fun hS => ?_)
  rotate_left
  · go_simp; try with_reducible rfl
  try go_frame
  refine held_pure (i := 8) (oi := ⟨some 51, _, _, _, _, _⟩) rfl (by kernel_rfl) (by kernel_rfl) (by kernel_rfl) (fun _ _ _ h => h) (by rfl) (fun w hSw => run_load_int rfl rfl (by rw [hSw]; exact KO.out)) hS (fun hS => ?_)
  try go_frame
  refine held_pure (i := 9) (oi := ⟨some 52, _, _, _, _, _⟩) rfl (by kernel_rfl) (by kernel_rfl) (by kernel_rfl) (fun _ _ _ h => h) (by rfl) (v := .bool false) (fun w hSw => by go_simp; try exact dF) hS (fun hS => ?_)
  try go_frame
  refine held_pure (i := 10) (oi := ⟨some 42, _, _, _, _, _⟩) rfl (by kernel_rfl) (by kernel_rfl) (by kernel_rfl) (fun _ _ _ h => h) (by rfl) (v := ?_) (fun w hSw => ?_) hS (fun hS => ?_)
  rotate_left
  · go_simp; try with_reducible rfl
  try go_frame
  refine wpAnyH_done (by kernel_rfl) ?_ _
  go_upto_region 7 with fail
  rw [HX1.out]
  go_upto_region 12 with ((with_reducible show wpList _ _ _ (Oper.mk _ (Op.mapUpdate _ _ _ _) _ _ _ _ :: _) _ _); refine wpList_plain rfl fun K' hK' => ?_; refine updW_wp rfl rfl rfl rfl HU2.out ?_; refine hK' _ _ ?_)
  have kn2 := HWB2.out.cn
  have t1 : X2.cell? ⟨w.heap.size, 1, none⟩ = some (.int .i64 0) := cells_at HBX2.out rfl
  have f1 := heap_frozen HBX2.out 1
  go_upto_region 13 with fail

  have g1 := heap_setCell_same X2 w.heap.size 1 _ _ (.int .i64 (m : Int)) HBX2.out
  have HKX : Hid (Kept (fun k => k = w.heap.size) X2 (X2.setCell ⟨w.heap.size, 1, none⟩ (.int .i64 (m : Int)))) := Lib.hid (Kept.setCell X2 w.heap.size 1 _)
  have HBX : Hid ((X2.setCell ⟨w.heap.size, 1, none⟩ (.int .i64 (m : Int))).heap[w.heap.size]? = some (.cells (tmC id (m : Int) none) 87 (0, 0))) := Lib.hid g1
  have HX3 := Lib.hid (HWB2.out.of_block (HKX.out.block d HWB2.out.lt (by omega)))
  generalize X2.setCell ⟨w.heap.size, 1, none⟩ (.int .i64 (m : Int)) = X3 at *
  clear g1 kn2 t1 f1 km1
  refine wp_region_held_drew (S := fun V => V.cell? ⟨w.heap.size, 1, none⟩ = some (.int .i64 (m : Int)) ∧ V.cell? ⟨d, 898, none⟩ = some (.int .i64 (now : Int))) (by kernel_rfl) ⟨cells_at HBX.out rfl, HX3.out.cn⟩ (fun hS => ?_)
  refine held_pure (i := 0) (oi := ⟨some 62, _, _, _, _, _⟩) rfl (by kernel_rfl) (by kernel_rfl) (by kernel_rfl) (fun _ _ _ h => h) (by rfl) (v := ?_) (fun w hSw => ?_) hS (fun hS => ?_)
  rotate_left
  · go_simp; try with_reducible rfl
  try go_frame
  refine held_pure (i := 1) (oi := ⟨some 63, _, _, _, _, _⟩) rfl (by kernel_rfl) (by kernel_rfl) (by kernel_rfl) (fun _ _ _ h => h) (by rfl) (v := ?_) (fun w hSw => ?_) hS (fun hS => ?_)
  rotate_left
  · go_simp; try with_reducible rfl
  try go_frame
  refine held_pure (i := 2) (oi := ⟨some 64, _, _, _, _, _⟩) rfl (by kernel_rfl) (by kernel_rfl) (by kernel_rfl) (fun _ _ _ h => h) (by rfl) (v := ?_) (fun w hSw => ?_) hS (fun hS => ?_)
  rotate_left
  · go_simp; try with_reducible rfl
  try go_frame
  refine held_pure (i := 3) (oi := ⟨some 65, _, _, _, _, _⟩) rfl (by kernel_rfl) (by kernel_rfl) (by kernel_rfl) (fun _ _ _ h => h) (by rfl) (v := ?_) (fun w hSw => ?_) hS (fun hS => ?_)
  rotate_left
  · go_simp; try with_reducible rfl
  try go_frame
  refine held_pure (i := 4) (oi := ⟨some 66, _, _, _, _, _⟩) rfl (by kernel_rfl) (by kernel_rfl) (by kernel_rfl) (fun _ _ _ h => h) (by rfl) (v := ?_) (fun w hSw => ?_) hS (fun hS => ?_)
  rotate_left
  · go_simp; try with_reducible rfl
  try go_frame
  refine held_pure (i := 5) (oi := ⟨some 67, _, _, _, _, _⟩) rfl (by kernel_rfl) (by kernel_rfl) (by kernel_rfl) (fun _ _ _ h => h) (by rfl) (v := ?_) (fun w hSw => ?_) hS (fun hS => ?_)
  rotate_left
  · go_simp; try with_reducible rfl
  try go_frame
  refine held_pure (i := 6) (oi := ⟨some 68, _, _, _, _, _⟩) rfl (by kernel_rfl) (by kernel_rfl) (by kernel_rfl) (fun _ _ _ h => h) (by rfl) (v := ?_) (fun w hSw => ?_) hS (fun hS => ?_)
  rotate_left
  · go_simp; try with_reducible rfl
  try go_frame
  refine held_pure (i := 7) (oi := ⟨some 69, _, _, _, _, _⟩) rfl (by kernel_rfl) (by kernel_rfl) (by kernel_rfl) (fun _ _ _ h => h) (by rfl) (fun w hSw => run_load_int rfl rfl hSw.1) hS (fun hS => ?_)
  try go_frame
  refine held_pure (i := 8) (oi := ⟨some 70, _, _, _, _, _⟩) rfl (by kernel_rfl) (by kernel_rfl) (by kernel_rfl) (fun _ _ _ h => h) (by rfl) (v := ?_) (fun w hSw => ?_) hS (fun hS => ?_)
  rotate_left
  · go_simp; try with_reducible rfl
  try go_frame
  refine held_pure (i := 9) (oi := ⟨some 71, _, _, _, _, _⟩) rfl (by kernel_rfl) (by kernel_rfl) (by kernel_rfl) (fun _ _ _ h => h) (by rfl) (v := ?_) (fun w hSw => ?_) hS (fun hS => ?_)
  rotate_left
  · go_simp; try with_reducible rfl
  try go_frame
  refine held_pure (i := 10) (oi := ⟨some 72, _, _, _, _, _⟩) rfl (by kernel_rfl) (by kernel_rfl) (by kernel_rfl) (fun _ _ _ h => h) (by rfl) (v := ?_) (fun w hSw => ?_) hS (fun hS => ?_)
  rotate_left
  · go_simp; try with_reducible rfl
  try go_frame
  refine held_pure (i := 11) (oi := ⟨some 73, _, _, _, _, _⟩) rfl (by kernel_rfl) (by kernel_rfl) (by kernel_rfl) (fun _ _ _ h => h) (by rfl) (fun w hSw => run_load_int rfl rfl hSw.2) hS (fun hS => ?_)
  try go_frame
  refine wpAnyH_ready (rs := [12]) (by kernel_rfl) (by simp) (AllReadyH.cons (o := ⟨some 74, _, _, _, _, _⟩) rfl (fun K hK => ?_) AllReadyH.nil)
  rw [if_pos (by rfl)]
  go_simp
  refine (wslot d m now X3.drew HAN.out.1 HAN.out.2).mono ?_
  rintro e y1 ⟨rfl, rfl⟩
  show K _ _
  refine hK.out _ _ (show _ ∧ _ from ⟨hS.1, hS.2⟩) (fun hS => ?_)
  clear hK K
  try go_frame
  refine wpAnyH_ready (rs := [13]) (by kernel_rfl) (by simp) (AllReadyH.cons (o := ⟨some 75, _, _, _, _, _⟩) rfl (fun K hK => ?_) AllReadyH.nil)
  rw [if_pos (by rfl)]
  go_simp
  refine (wstand (w := X3.drew.drew) (q := slotN m now) (b := w.heap.size) (id := id) (at_ := (m : Int)) (HX3.out.of_block rfl) HAN2.out HTN.out (HBX.out)).mono ?_
  rintro e y2 ⟨rfl, hw2, hb2, hk2⟩
  have hS2 : y2.cell? ⟨w.heap.size, 1, none⟩ = some (.int .i64 (m : Int)) ∧ y2.cell? ⟨d, 898, none⟩ = some (.int .i64 (now : Int)) := ⟨cells_at hb2 rfl, hw2.cn⟩
  have HW2 := Lib.hid hw2
  have HB2 := Lib.hid hb2
  have HK2 := Lib.hid hk2
  clear hw2 hb2 hk2
  show K _ _
  refine hK.out _ _ hS2 (fun hS => ?_)
  clear hK K
  try go_frame
  refine wpAnyH_done (by kernel_rfl) ?_ _
  go_wp2
  refine bodyPost_ret (results_tmp rfl _ _ _) rfl ?_
  have kA : Kept (fun k => k = w.heap.size ∨ k = d ∨ k = M) X1 y2 := ((HK2'.out.mono (T := fun k => k = w.heap.size ∨ k = d ∨ k = M) (fun _ _ e => .inr (.inr e))).trans HKX.out (fun _ _ e => .inl e)).trans ((Kept.drew X3).trans ((Kept.drew X3.drew).trans HK2.out (fun _ _ e => e)) (fun _ _ e => e)) (fun _ _ e => by rcases e with e | e; exact .inl e; exact .inr (.inl e))
  refine ⟨rfl, w.heap.size, Nat.le_refl _, ⟨⟨_, HW2.out, fun e he => ?_, fun q hq2 => ?_⟩, ?_, fun e he => ?_, ?_, H.out.z⟩, ?_⟩
  · rcases List.mem_cons.1 he with rfl | he
    · unfold setT; simp
    · unfold setT
      rw [if_neg (HQ.out e he)]; exact HT1.out e he
  · have h1 := hq2 _ (List.mem_cons_self ..)
    unfold setT
    rw [if_neg (fun e => h1 e.symm)]
    exact HT2.out q (fun e he => hq2 e (List.mem_cons_of_mem _ he))
  · refine HI2.out.of_block ?_
    have hMX2 := HI2.out.lt
    have q1 := HKX.out.block M hMX2 (by omega)
    have q2 := HK2.out.block M (Nat.lt_of_lt_of_le hMX2 HKX.out.size) (by rintro (e | e) <;> omega)
    exact q2.trans q1
  · rcases List.mem_cons.1 he with rfl | he
    · exact ⟨HB2.out, HAN2.out, hbz⟩
    · obtain ⟨h1, h2, h3⟩ := H.out.tm e he
      obtain ⟨n1, n2⟩ := H.out.neT he
      have hlt := heap_lt h1
      refine ⟨?_, h2, h3⟩
      exact (kA.block e.b (Nat.lt_of_lt_of_le hlt HB1.out.size) (by rintro (e | e | e) <;> omega)).trans ((HB1.out.block e.b hlt).trans h1)
  · refine List.pairwise_cons.2 ⟨fun e he => ⟨fun e2 => HQ.out e he e2.symm, fun e2 => ?_⟩, H.out.pw⟩
    have := heap_lt (H.out.tm e he).1
    have e3 : w.heap.size = e.b := e2
    omega
  · exact (HB1.out.mono hbz).trans (kA.below (Nat.le_trans hbz HB1.out.size) (fun i e => by rcases e with e | e | e; rw [e]; exact hbz; rw [e]; exact H.out.z.1; rw [e]; exact H.out.z.2))
end
end Go.Proofs.Ytkgbjohadkbjaaa
