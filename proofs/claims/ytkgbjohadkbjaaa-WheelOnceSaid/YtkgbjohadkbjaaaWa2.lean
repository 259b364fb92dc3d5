/-
  Contracts and lemmas on which the proofs of this seat stand (several texts in one). Conditions are each theorem's own.
-/
import Derived.Test.YtkgbjohadkbjaaaWa1
import Derived.RangeFuncNested
import Derived.RangeFuncBound
import Derived.RangeFuncCalls
import Derived.RangeFuncLeaves
import Derived.Shelf.Abstract
import Derived.Shelf.RegionOpen
import Derived.OwnWalkIn
import Derived.TacticsInMore
import Derived.LoopNIn
import Derived.LoopIn
import Derived.Laws.AppendOwnNone
import Derived.Laws.BytesArg
import Derived.Lib.SliceRun
import Derived.Deep.QuietTactic
import Derived.BigQuiet

/-
  Contracts of be's functions that make memory: roomy, digits and its iterator, write, Put, Set, Words and its iterator. Conditions are each theorem's own.
-/
namespace Go.Proofs.Ytkgbjohadkbjaaa
open Go.RowKit Go.Shelf
attribute [local go_sem] Oper.semAt_some

theorem info_u8 : (Try.prog.info? 5).map (fun i => (i.zero, i.size, i.bytes)) = some (some (.int .u8 0), 1, 1) := by kernel_rfl
theorem size_u8 : (Try.prog.info? 5).map (·.size) = some 1 := by kernel_rfl
theorem made_rep (z : Value) (n : Nat) : madeCells #[z] n = (List.replicate n z).toArray := by
  apply Array.ext'; rw [toList_madeCells_one]

/-- bytes, and noughts behind them up to n. -/
def pad (bs : List UInt8) (n : Nat) : List UInt8 := bs ++ List.replicate (n - bs.length) 0
theorem pad_length {bs : List UInt8} {n : Nat} (h : bs.length ≤ n) : (pad bs n).length = n := by simp [pad]; omega
theorem row_pad (bs : List UInt8) (n : Nat) : splice (List.replicate n (.int .u8 0)) 0 (row bs) = row (pad bs n) := by
  simp [splice, row, pad]


theorem roomy_src {w : World} {B : Nat} {A : Option Addr} {bs : List UInt8} (h : Rd w B A bs) (hB : B ≤ w.heap.size) (o : Obj) (hp : 0 < (row bs).length) :
    some (⟨w.heap.size, 0, none⟩ : Addr) = some ⟨w.heap.size, 0, none⟩ ∧ ∃ ad, A = some ad ∧ ∀ j v, (row bs)[j]? = some v → (w.alloc o).cell? (ad.add j) = some v := by
  rw [row_length] at hp
  obtain ⟨b, off, rfl, hb, hc⟩ := (h.alloc hB o) hp
  refine ⟨rfl, _, rfl, fun j v hv => ?_⟩
  have hj : j < bs.length := by have := (List.getElem?_eq_some_iff.1 hv).1; rwa [row_length] at this
  rw [row_getD bs hj hv]
  rw [add_off]; exact hc j hj

set_option maxHeartbeats 400000 in
/-- roomy: new memory of n bytes, bs ahead, 0 behind. -/
theorem roomy_any (A : Option Addr) (bs : List UInt8) (c B n : Nat) (w : World) (h : Rd w B A bs) (hB : B ≤ w.heap.size) (hl : bs.length ≤ n) (hn : n ≤ 1099511627776) :
    Calls Try.prog 116 #[.slice A bs.length c, .int .i64 (n : Int)] w
      fun e w' => e = .returned (.slice (some ⟨w.heap.size, 0, none⟩) n n) ∧ w'.heap[w.heap.size]? = some (.cells (row (pad bs n)).toArray 5 (0, 0)) ∧ Below w.heap.size w w' := by
  have hmk : ∀ W : World, (Instr.makeSlice 45 (.int .i64 (n : Int)) (.int .i64 (n : Int))).run Try.prog W = .ok (.slice (some ⟨W.heap.size, 0, none⟩) n n) (W.alloc (.cells (List.replicate n (.int .u8 0)).toArray 5)) := fun W => by
    rw [← made_rep]; exact run_make_row' 45 5 (.int .u8 0) 1 Try.underlying45 info_u8 rfl .i64 .i64 n (by omega) (by omega) W
  have HR := Lib.hid (row_pad bs n)
  have Hrow := Lib.hid (row_length bs)
  go_enter Try.func116, Try.ntmps116
  go_wp2_with (refine wpList_copy_splice rfl (.tmp 8) (.tmp 9) 45 45 rfl 5 Try.underlying45 size_u8 _ _ _ _ _ _ rfl rfl w.heap.size 0 (List.replicate n (.int .u8 0)) 5 (World.alloc_heap_new _ _) (row bs) (by rw [Hrow.out]; exact (Nat.min_eq_left hl).symm) (roomy_src h hB _) (by rw [Hrow.out]; simp; omega) (row_one bs) w.heap.size w ((Below.refl _ w).alloc (Nat.le_refl _) _) (Nat.le_refl _) ?_; intro w2 HG2 hB2)
  go_ret
  exact ⟨rfl, by rw [← HR.out]; exact HG2.out, hB2⟩

/-! ### What a round keeps -/

/-- The blocks from lo on and below hi lie as they lay. -/
def Holds (lo hi : Nat) (W W' : World) : Prop := W.heap.size ≤ W'.heap.size ∧ ∀ k, lo ≤ k → k < hi → W'.heap[k]? = W.heap[k]?
theorem Holds.refl (lo hi : Nat) (W : World) : Holds lo hi W W := ⟨Nat.le_refl _, fun _ _ _ => rfl⟩
theorem Holds.trans {lo hi : Nat} {A B C : World} (h : Holds lo hi A B) (k : Holds lo hi B C) : Holds lo hi A C :=
  ⟨Nat.le_trans h.1 k.1, fun i h1 h2 => (k.2 i h1 h2).trans (h.2 i h1 h2)⟩
theorem Holds.b {lo hi : Nat} {w : World} (hh : hi ≤ w.heap.size) (W : World) (l : Nat) (o o' : Obj) (hl : w.heap.size ≤ l) (_ : W.heap[l]? = some o) (_ : o.isCells = false) (_ : o.isWalk = false) : Holds lo hi W (W.putObj l o') :=
  ⟨by simp, fun k _ h2 => World.putObj_heap_other (by omega)⟩
theorem Holds.setCell {lo hi : Nat} {W : World} {p : Addr} (hp : p.block < lo ∨ hi ≤ p.block) (v : Value) : Holds lo hi W (W.setCell p v) :=
  ⟨by simp [World.setCell], fun k h1 h2 => Below.heap_setCell W p v k (by omega)⟩
theorem Holds.of_below {lo hi B : Nat} {W W' : World} (h : Below B W W') (hB : hi ≤ B) : Holds lo hi W W' := ⟨h.size, fun k _ h2 => h.block k (by omega)⟩
theorem Holds.cell {lo hi : Nat} {W W' : World} (h : Holds lo hi W W') {p : Addr} (h1 : lo ≤ p.block) (h2 : p.block < hi) : W'.cell? p = W.cell? p := World.cell?_of_block (w := W) (h.2 p.block h1 h2)
theorem Holds.rd {lo hi : Nat} {W W' : World} (h : Holds lo hi W W') {b off n : Nat} {bs : List UInt8} (h1 : lo ≤ b) (h2 : b < hi)
    (hc : ∀ j, j < n → W.cell? ⟨b, off + j, none⟩ = some (.int .u8 (byt bs j))) : ∀ j, j < n → W'.cell? ⟨b, off + j, none⟩ = some (.int .u8 (byt bs j)) :=
  fun j hj => (h.cell (p := ⟨b, off + j, none⟩) h1 h2).trans (hc j hj)

/-! ### digits -/

/-- The byte at place i of n in s bytes. -/
def dig (n : Int) (s i : Nat) : UInt8 := UInt8.ofNat (n / pw (s - 1 - i)).toNat
theorem dig_val {n : Int} (h : 0 ≤ n) (s i : Nat) : ((dig n s i).toNat : Int) = n / pw (s - 1 - i) % 256 := by
  have h1 : 0 ≤ n / pw (s - 1 - i) := Int.ediv_nonneg h (by have := pw_pos (s - 1 - i); omega)
  simp only [dig, UInt8.toNat_ofNat']
  omega
def digs (n : Int) (s : Nat) : List UInt8 := (List.range s).map (dig n s)
theorem digs_length (n : Int) (s : Nat) : (digs n s).length = s := by simp [digs]

/-- The places of s, the first k. -/
def ups (s k : Nat) : List { i : Nat // i < s } := (List.range k).filterMap fun i => if h : i < s then some ⟨i, h⟩ else none
theorem ups_succ {s k : Nat} (h : k < s) : ups s (k + 1) = ups s k ++ [⟨k, h⟩] := by
  simp [ups, List.range_succ, List.filterMap_append, h]
theorem ups_length {s k : Nat} (h : k ≤ s) : (ups s k).length = k := by
  induction k with
  | zero => simp [ups]
  | succ k ih => rw [ups_succ (by omega)]; simp [ih (by omega)]

/-- What yield is handed. -/
def encD (n : Int) (s : Nat) (x : { i : Nat // i < s }) : Array Value := #[.int .i64 (x.1 : Int), .int .u8 ((dig n s x.1).toNat : Int)]

theorem digits_any (n : Int) (s : Nat) (w : World) :
    Calls Try.prog 122 #[.int .i64 n, .int .i64 (s : Int)] w
      fun e w' => e = .returned (.func (.func 124) #[] #[.pointer (some ⟨w.heap.size + 1, 0, none⟩), .pointer (some ⟨w.heap.size, 0, none⟩)]) ∧
        w' = (w.alloc (.cells #[.int .i64 n] 3)).alloc (.cells #[.int .i64 (s : Int)] 3) := by
  go_enter Try.func122, Try.ntmps122
  go_wp2
  go_ret
  exact ⟨rfl, rfl⟩

theorem shift_dig {n : Int} (h : 0 ≤ n) {s i : Nat} (hi : i < s) (h4 : s ≤ 4) :
    ((dig n s i).toNat : Int) = n / 2 ^ (8 * (s - 1 - i)) % 256 := by
  rw [dig_val h]
  obtain ⟨m, hm⟩ : ∃ m, m = s - 1 - i := ⟨_, rfl⟩
  rw [← hm]
  have h4 : m = 0 ∨ m = 1 ∨ m = 2 ∨ m = 3 := by omega
  rcases h4 with rfl | rfl | rfl | rfl <;> simp [pw]

set_option maxRecDepth 100000 in
set_option maxHeartbeats 2000000 in
theorem digits1_in (m : Nat) (hm : 1 ≤ m) (l lo : Nat) (n : Int) (s : Nat) (h0 : 0 ≤ n) (h4 : s ≤ 4) (J Jx : List { i : Nat // i < s } → World → Prop)
    (hY : ∀ pre x W, J pre W → pre.length < s → YieldAt Fence.wide (m - 1) Try.prog l (encD n s x) W fun e W' =>
      (e = .returned (.bool true) ∧ J (pre ++ [x]) W' ∧ Holds lo (lo + 2) W W') ∨ (e = .returned (.bool false) ∧ Jx (pre ++ [x]) W'))
    (W : World) (hn : W.cell? ⟨lo, 0, none⟩ = some (.int .i64 n)) (hs : W.cell? ⟨lo + 1, 0, none⟩ = some (.int .i64 (s : Int))) (hJ : J [] W) :
    CallsIn Fence.wide m Try.prog 124 #[.func (.yield l) #[] #[], .pointer (some ⟨lo + 1, 0, none⟩), .pointer (some ⟨lo, 0, none⟩)] W fun e W' => (∃ v, e = .returned v) ∧
      ((∃ ys, ys = ups s s ∧ J ys W') ∨ (∃ pre, (∃ k, k ≤ s ∧ pre = ups s k) ∧ Jx pre W')) := by
  refine callsIn_of_wp Try.func124 rfl trivial ?_ rfl
  simp only [Try.ntmps124, List.size_toArray, List.length_cons, List.length_nil, Nat.reduceAdd, Nat.reduceSub, Array.replicate_succ, Array.replicate_zero, List.push_toArray, List.append_toArray, List.nil_append, List.cons_append]
  gi_wp2
  gi_loopw [6] (fun i wr => ∃ k : Nat, k ≤ s ∧ i = .int .i64 k ∧ J (ups s k) wr ∧ Holds lo (lo + 2) W wr)
    (fun i _ => s - (intOf i).toNat)
  case atStart => exact ⟨0, Nat.zero_le _, rfl, hJ, Holds.refl _ _ _⟩
  case round =>
    obtain ⟨k, hk, rfl, hJs, hH⟩ := hrel
    by_cases hlt : k < s
    · have hn' := (hH.cell (p := ⟨lo, 0, none⟩) (by simp) (by simp)).trans hn
      have hs' := (hH.cell (p := ⟨lo + 1, 0, none⟩) (by simp) (by simp)).trans hs
      obtain ⟨fn, tmps, assign, body, hy, hR⟩ := hY _ ⟨k, hlt⟩ wr hJs (by rw [ups_length (by omega)]; exact hlt)
      dsimp only [encD] at hy
      rw [shift_dig h0 hlt h4] at hy
      gi_wp2
      refine hR.mono ?_
      rintro e W3 (⟨rfl, hJ3, hk3⟩ | ⟨rfl, hJx3⟩)
      · gi_wp2
        go_roundw
        case rel => exact ⟨k + 1, by omega, by simp, by rw [ups_succ hlt]; exact hJ3, hH.trans hk3⟩
        case measure => simp [intOf]; omega
      · gi_wp2
        refine bodyPost_ret (results_none rfl _ _ _) rfl ?_
        exact ⟨⟨_, rfl⟩, .inr ⟨_, ⟨k + 1, by omega, (ups_succ hlt).symm⟩, hJx3⟩⟩
    · obtain rfl : k = s := by omega
      gi_wp2
      go_end0
      exact ⟨⟨_, rfl⟩, .inl ⟨_, rfl, hJs⟩⟩

/-- digits hands back an iterator that tells the places of s, and the bytes; a round must keep the two captured cells. -/
theorem digits_stops (m : Nat) (hm : 1 ≤ m) (lo : Nat) (n : Int) (s : Nat) (h0 : 0 ≤ n) (h4 : s ≤ 4) (w : World) (hlo : lo + 2 ≤ w.heap.size)
    (hn : w.cell? ⟨lo, 0, none⟩ = some (.int .i64 n)) (hs : w.cell? ⟨lo + 1, 0, none⟩ = some (.int .i64 (s : Int))) :
    SeqStopsK Fence.wide m Try.prog 124 #[.pointer (some ⟨lo + 1, 0, none⟩), .pointer (some ⟨lo, 0, none⟩)] (encD n s) (Holds lo (lo + 2))
      (fun ys => ys = ups s s) (fun pre => ∃ k, k ≤ s ∧ pre = ups s k) s w := fun l J Jx W hW _ _ hY hJ =>
  digits1_in m hm l lo n s h0 h4 J Jx hY W ((hW.cell (p := ⟨lo, 0, none⟩) (by simp; omega)).trans hn) ((hW.cell (p := ⟨lo + 1, 0, none⟩) (by simp; omega)).trans hs) hJ

/-! ### write -/

/-- What the cells are when the places of pre are written. -/
def setD (bs : List UInt8) (off : Nat) (n : Int) (s : Nat) (pre : List { i : Nat // i < s }) : List UInt8 := pre.foldl (fun l x => l.set (off + x.1) (dig n s x.1)) bs
theorem setD_snoc (bs : List UInt8) (off : Nat) (n : Int) (s : Nat) (pre : List { i : Nat // i < s }) (x : { i : Nat // i < s }) :
    setD bs off n s (pre ++ [x]) = (setD bs off n s pre).set (off + x.1) (dig n s x.1) := by simp [setD]
theorem setD_length (bs : List UInt8) (off : Nat) (n : Int) (s : Nat) (pre : List { i : Nat // i < s }) : (setD bs off n s pre).length = bs.length := by
  unfold setD
  induction pre generalizing bs with
  | nil => rfl
  | cons x l ih => rw [List.foldl_cons, ih, List.length_set]
theorem splice_set {α : Type} (bs ds : List α) (off : Nat) (x : α) (h : off + ds.length < bs.length) : (splice bs off ds).set (off + ds.length) x = splice bs off (ds ++ [x]) := by
  apply List.ext_getElem?
  intro i
  simp only [splice, List.getElem?_set, List.getElem?_append, List.length_take, List.length_append, List.length_drop, List.getElem?_drop, List.getElem?_take, List.length_cons, List.length_nil]
  by_cases h1 : i < off
  · have e : ¬ off + ds.length = i := by omega
    have e1 : i < min off bs.length := by omega
    simp [e, e1]
  · by_cases h2 : i < off + ds.length
    · have e : ¬ off + ds.length = i := by omega
      have e1 : ¬ i < min off bs.length := by omega
      have e2 : i - min off bs.length < ds.length := by omega
      have e3 : i - min off bs.length < ds.length + 1 := by omega
      simp [e, e1, e2, e3]
    · by_cases h3 : i = off + ds.length
      · subst h3
        have e1 : ¬ off + ds.length < min off bs.length := by omega
        have e2 : ¬ off + ds.length - min off bs.length < ds.length := by omega
        have e3 : off + ds.length - min off bs.length < ds.length + 1 := by omega
        have e4 : off + ds.length - min off bs.length - ds.length = 0 := by omega
        simp [e1, e2, e3, e4]
        omega
      · have e : ¬ off + ds.length = i := by omega
        have e1 : ¬ i < min off bs.length := by omega
        have e2 : ¬ i - min off bs.length < ds.length := by omega
        have e3 : ¬ i - min off bs.length < ds.length + 1 := by omega
        simp [e, e1, e2, e3]
        congr 1
        omega
theorem setD_ups (bs : List UInt8) (off : Nat) (n : Int) (s k : Nat) (hk : k ≤ s) (h : off + s ≤ bs.length) : setD bs off n s (ups s k) = splice bs off ((List.range k).map (dig n s)) := by
  induction k with
  | zero => simp [ups, setD, splice]
  | succ k ih =>
    rw [ups_succ (by omega), setD_snoc, ih (by omega), List.range_succ, List.map_append, List.map_singleton]
    have hl : ((List.range k).map (dig n s)).length = k := by simp
    have := splice_set bs ((List.range k).map (dig n s)) off (dig n s k) (by rw [hl]; omega)
    rw [hl] at this
    exact this
theorem setD_all (bs : List UInt8) (off : Nat) (n : Int) (s : Nat) (h : off + s ≤ bs.length) : setD bs off n s (ups s s) = splice bs off (digs n s) := setD_ups bs off n s s (Nat.le_refl _) h
theorem row_set (bs : List UInt8) (i : Nat) (x : UInt8) : (row bs).toArray.setIfInBounds i (.int .u8 (x.toNat : Int)) = (row (bs.set i x)).toArray := by
  simp [row, List.map_set]

theorem heap_set {W : World} {g t : Nat} {cs : Array Value} (h : W.heap[g]? = some (.cells cs t (0, 0))) (i : Nat) (v : Value) :
    (W.setCell ⟨g, i, none⟩ v).heap[g]? = some (.cells (cs.setIfInBounds i v) t (0, 0)) := by
  simp [World.setCell, Array.getElem?_modify, h]
theorem heap_frozen {W : World} {g t : Nat} {cs : Array Value} (h : W.heap[g]? = some (.cells cs t (0, 0))) (i : Nat) : W.frozen? ⟨g, i, none⟩ = false := by
  simp [World.frozen?, h]
theorem heap_lt {W : World} {g : Nat} {o : Obj} (h : W.heap[g]? = some o) : g < W.heap.size := (Array.getElem?_eq_some_iff.1 h).1
theorem row_cell {W : World} {g t : Nat} {bs : List UInt8} (h : W.heap[g]? = some (.cells (row bs).toArray t (0, 0))) {i : Nat} (hi : i < bs.length) :
    W.cell? ⟨g, i, none⟩ = some (.int .u8 (byt bs i)) := by
  rw [cell_of_row W g i _ t (0, 0) h]
  simpa using row_get bs hi
/-- Only block g, and what is new, has turned. -/
theorem grown_then {a w w' : World} {g B : Nat} {r : Option Nat} (h : a.grownBy w (some g)) (hg : w.grownBy w' r) (hB : a.heap.size ≤ B) (hr : ∀ k, r = some k → B ≤ k) : a.grownBy w' (some g) :=
  ⟨hg.os.trans h.os, hg.tape.trans h.tape, hg.output.trans h.output, Nat.le_trans h.size hg.size, fun i hi hne => (hg.block i (Nat.lt_of_lt_of_le hi h.size) (fun e => by have := hr i e.symm; omega)).trans (h.block i hi hne)⟩
theorem grown_set {a w : World} {g : Nat} (h : a.grownBy w (some g)) (i : Nat) (v : Value) : a.grownBy (w.setCell ⟨g, i, none⟩ v) (some g) :=
  ⟨h.os, h.tape, h.output, by simpa [World.setCell] using h.size, fun k hk hne => (Below.heap_setCell w ⟨g, i, none⟩ v k (fun e => hne (by rw [e]))).trans (h.block k hk hne)⟩
theorem grown_below {a w : World} {g : Nat} (h : Below a.heap.size a w) : a.grownBy w (some g) := ⟨h.os, h.tape, h.output, h.size, fun i hi _ => h.block i hi⟩

set_option maxRecDepth 100000 in
set_option maxHeartbeats 2000000 in
/-- write: the bytes of n come into the field's place; nothing else turns. -/
theorem write_any (g off s c : Nat) (cur : List UInt8) (n : Int) (w : World) (hg : w.heap[g]? = some (.cells (row cur).toArray 5 (0, 0))) (h4 : s ≤ 4) (hoff : off + s ≤ cur.length) (h0 : 0 ≤ n) :
    Calls Try.prog 117 #[.slice (some ⟨g, off, none⟩) s c, .int .i64 n] w
      fun e w' => (∃ v, e = .returned v) ∧ w'.heap[g]? = some (.cells (row (splice cur off (digs n s))).toArray 5 (0, 0)) ∧ w.grownBy w' (some g) := by
  have hgl := heap_lt hg
  refine (callsIn_wide (n := 4)).1 ?_
  refine callsIn_of_wp_marks Try.func117 rfl trivial ?_ rfl
  simp only [Try.ntmps117, List.size_toArray, List.length_cons, List.length_nil, Nat.reduceAdd, Nat.reduceSub, Array.replicate_succ, Array.replicate_zero, List.push_toArray, List.append_toArray, List.nil_append, List.cons_append]
  gi_wp2_with (refine ⟨trivial, ?_⟩; gi_at_call 122; refine (callsIn_wide.2 (digits_any _ _ _)).mono ?_; rintro e w' ⟨rfl, rfl⟩)
  obtain ⟨W0, hW0⟩ : ∃ W0, ((w.alloc (.cells #[.slice (some ⟨g, off, none⟩) s c] 45)).alloc (.cells #[.int .i64 n] 3)).alloc (.cells #[.int .i64 (s : Int)] 3) = W0 := ⟨_, rfl⟩
  have b0 := ((Boxed.new w 45 (.slice (some ⟨g, off, none⟩) s c)).alloc (.cells #[.int .i64 n] 3)).alloc (.cells #[.int .i64 (s : Int)] 3)
  have b1 := (Boxed.new (w.alloc (.cells #[.slice (some ⟨g, off, none⟩) s c] 45)) 3 (.int .i64 n)).alloc (.cells #[.int .i64 (s : Int)] 3)
  have b2 := Boxed.new ((w.alloc (.cells #[.slice (some ⟨g, off, none⟩) s c] 45)).alloc (.cells #[.int .i64 n] 3)) 3 (.int .i64 (s : Int))
  have hB : Below w.heap.size w W0 := by rw [← hW0]; exact ((((Below.refl _ w).alloc (Nat.le_refl _) _).alloc (by simp) _).alloc (by simp; omega) _)
  have hsz : W0.heap.size = w.heap.size + 3 := by rw [← hW0]; simp
  simp only [World.size_alloc] at b1 b2 ⊢
  rw [hW0] at b0 b1 b2 ⊢
  have hg0 : W0.heap[g]? = some (.cells (row cur).toArray 5 (0, 0)) := (hB.block g hgl).trans hg
  refine wpIn_rangeFunc_ownG rfl (by omega) (gf := 124) (lb := #[.pointer (some ⟨w.heap.size + 1 + 1, 0, none⟩), .pointer (some ⟨w.heap.size + 1, 0, none⟩)]) rfl trivial (enters_of Try.func124 (by kernel_rfl) rfl)
    (digits_stops (4 - 1) (by omega) (w.heap.size + 1) n s h0 h4 W0 (by omega) b1.cell b2.cell) Holds.trans (Holds.b (by omega)) (Below.refl _ _) (fun _ => rfl)
    (fun pre W => Boxed W w.heap.size 45 (.slice (some ⟨g, off, none⟩) s c) ∧ W.heap[g]? = some (.cells (row (setD cur off n s pre)).toArray 5 (0, 0)) ∧ w.grownBy W (some g))
    (fun _ _ _ => False)
    (fun pre X Y r hs hgr hr => ⟨Own.from (boxed_own (β := Unit) w.heap.size 45 (fun _ => .slice (some ⟨g, off, none⟩) s c)) W0.heap.size () X Y r hs.1 hgr hr,
      (grownBy_keeps_cells hgr (fun r' e => (hr r' e).2) hs.2.1 rfl).trans hs.2.1, grown_then hs.2.2 hgr (by omega) (fun k e => (hr k e).1)⟩)
    (fun _ _ _ _ _ hs _ _ => hs)
    ⟨b0, hg0, grown_below hB⟩
    (fun x => { tmps := #[.slice (some ⟨g, off, none⟩) s c, .int .i64 n, .pointer (some ⟨w.heap.size, 0, none⟩), undef, .int .i64 (x.1 : Int), .int .u8 ((dig n s x.1).toNat : Int), .int .i64 n, .slice (some ⟨g, off, none⟩) s c, .int .i64 (s : Int), .func (.func 124) #[] #[.pointer (some ⟨w.heap.size + 1 + 1, 0, none⟩), .pointer (some ⟨w.heap.size + 1, 0, none⟩)], .int .i64 (x.1 : Int), .int .u8 ((dig n s x.1).toNat : Int), undef, undef, undef, undef], defers := [] }) ?assign ?body ?done ?stop
  case assign =>
    intro l x W K hK
    dsimp only [encD]
    gi_wp2
    exact hK
  case body =>
    rintro l pre ⟨i, hi⟩ W ⟨hb, hgw, hgr⟩ hlt
    have hL := setD_length cur off n s pre
    have hcell := row_cell hgw (i := off + i) (by omega)
    have hfz := heap_frozen hgw (off + i)
    have hbc := hb.cell
    gi_wp2
    refine ⟨(KeepsOthers.setCell _ _ _).from _, Holds.setCell (.inl (by simp; omega)) _, hb.kept (grown_set (World.grownBy.refl W (some g)) (off + i) _) (by simp; omega), ?_, grown_set hgr _ _⟩
    rw [heap_set hgw, row_set, setD_snoc]
  case done =>
    rintro D ys W hD rfl ⟨hb, hgw, hgr⟩ hK
    gi_wp2
    refine ⟨by simp, .inl ⟨_, _, rfl, run_takeDeferred hK, ?_⟩⟩
    refine ⟨_, results_none rfl _ _ _, ⟨_, rfl⟩, ?_, ?_⟩
    · rw [← setD_all cur off n s hoff]
      exact (World.putObj_heap_other (by omega)).trans hgw
    · exact grown_then hgr (grownBy_putObj' W D _) (B := W0.heap.size) (by omega) (fun k e => by cases e; exact hD)
  case stop =>
    rintro D c pre W _ _ h _
    exact h.elim

/-! ### New slices of bytes -/

/-- v is a slice of the bytes bs in memory that came after w; nothing of w has turned. -/
def Made (w w' : World) (v : Value) (bs : List UInt8) : Prop :=
  ∃ A c, v = .slice A bs.length c ∧ bs.length ≤ c ∧ Rd w' w'.heap.size A bs ∧ w'.ownsRow w.heap.size 5 1 v bs.length (row bs) ∧ Below w.heap.size w w'
theorem Made.of_own {w w' : World} {v : Value} {bs : List UInt8} (h : w'.ownsRow w.heap.size 5 1 v bs.length (row bs)) (hb : Below w.heap.size w w') : Made w w' v bs := by
  have h' := h
  rcases h'.2 with ⟨rfl, h0⟩ | ⟨g, cap, cur, rfl, _, _, hle, _⟩
  · obtain rfl : bs = [] := List.eq_nil_of_length_eq_zero h0
    exact ⟨none, 0, rfl, Nat.le_refl _, Rd.nil, h, hb⟩
  · exact ⟨_, cap, rfl, hle, Rd.of_own rfl h, h, hb⟩
theorem Made.nil (w w' : World) (hb : Below w.heap.size w w') : Made w w' (.slice none 0 0) [] := Made.of_own (World.ownsRow_nil _ _ _ _) hb
theorem own_of_block {w : World} {base g t : Nat} {bs : List UInt8} (hb : base ≤ g) (h : w.heap[g]? = some (.cells (row bs).toArray t (0, 0))) (hm : bs.length ≤ 1099511627780) :
    w.ownsRow base t 1 (.slice (some ⟨g, 0, none⟩) bs.length bs.length) bs.length (row bs) :=
  ⟨by simp [row_length], .inr ⟨g, bs.length, (row bs).toArray, rfl, hb, h, Nat.le_refl _, by unfold maxLen; omega, by simp [row_length], by rw [Nat.mul_one, List.take_of_length_le (by simp [row_length])]⟩⟩

/-- Put: bs, and n's bytes behind, if it fits. -/
def putB (bs : List UInt8) (n s : Int) : List UInt8 := if fitsB n s then bs ++ digs n s.toNat else bs
theorem splice_end (bs : List UInt8) (k : Nat) (ds : List UInt8) (h : ds.length = k) : splice (pad bs (bs.length + k)) bs.length ds = bs ++ ds := by
  simp [splice, pad, ← h]

set_option maxHeartbeats 1000000 in
theorem put_any (A : Option Addr) (bs : List UInt8) (c B : Nat) (n s : Int) (w : World) (h : Rd w B A bs) (hB : B ≤ w.heap.size) (hl : bs.length ≤ 1099511627000) :
    Calls Try.prog 108 #[.slice A bs.length c, .int .i64 n, .int .i64 s] w fun e w' => ∃ v, e = .returned v ∧ Made w w' v (putB bs n s) := by
  by_cases hf : fitsB n s = true
  · have hf' := fitsB_iff.1 hf
    obtain ⟨k, rfl⟩ := Int.eq_ofNat_of_zero_le (show 0 ≤ s by omega)
    rw [show putB bs n k = bs ++ digs n k from by simp [putB, hf]]
    have hpl := pad_length (bs := bs) (n := bs.length + k) (by omega)
    have Hpl := Lib.hid hpl
    have Hdl := Lib.hid (digs_length n k)
    clear hpl
    go_enter Try.func108, Try.ntmps108
    go_wp2_with (first
      | (go_at_call 75; refine (fits_any _ _ _).mono ?_; rintro e w' ⟨rfl, rfl⟩)
      | (go_at_call 116; refine (roomy_any A bs c B (bs.length + k) _ h hB (by omega) (by omega)).mono ?_; rintro e w1 ⟨rfl, hg1, hb1⟩)
      | (go_at_call 107; refine (cut_any w.heap.size 0 (bs.length + k) (bs.length + k) bs.length k _ (by omega) (by omega) (by omega) (by omega)).mono ?_; rintro e w' ⟨rfl, rfl⟩)
      | (go_at_call 117; refine (write_any w.heap.size _ k k (pad bs (bs.length + k)) n _ hg1 (by omega) (by rw [Hpl.out]; omega) (by omega)).mono ?_; rintro e w2 ⟨⟨v, rfl⟩, hg2, hgr2⟩))
    go_ret
    refine ⟨_, rfl, Made.of_own ?_ ?_⟩
    · have e : (bs ++ digs n k).length = bs.length + k := by rw [List.length_append, Hdl.out]
      rw [splice_end bs k _ Hdl.out] at hg2
      have := own_of_block (Nat.le_refl _) hg2 (by rw [e]; omega)
      rw [e] at this ⊢
      exact this
    · exact hb1.grown hgr2 (by have := hb1.size; omega) (fun k e => by cases e; exact Nat.le_refl _)
  · have hf0 : fitsB n s = false := by simpa using hf
    rw [show putB bs n s = bs from by simp [putB, hf0]]
    have e := Lib.hid (show pad bs bs.length = bs from by simp [pad])
    go_enter Try.func108, Try.ntmps108
    go_wp2_with (first
      | (go_at_call 75; refine (fits_any _ _ _).mono ?_; rintro e w' ⟨rfl, rfl⟩)
      | (go_at_call 116; refine (roomy_any A bs c B bs.length _ h hB (by omega) (by omega)).mono ?_; rintro e w1 ⟨rfl, hg1, hb1⟩))
    go_ret
    rw [e.out] at hg1
    exact ⟨_, rfl, Made.of_own (own_of_block (Nat.le_refl _) hg1 (by omega)) hb1⟩

/-! ### Set -/
def setE (len : Nat) (at_ n s : Int) : Int := if fitsB n s then getE len at_ s else 1
def setB (bs : List UInt8) (at_ n s : Int) : List UInt8 := if fitsB n s ∧ 0 ≤ at_ ∧ at_ ≤ (bs.length : Int) - s then splice bs at_.toNat (digs n s.toNat) else []

end Go.Proofs.Ytkgbjohadkbjaaa

/-
  Contracts of bytes.Clone and bytes.Equal, as read off the library's text, and a law for append whose source reads as bytes. Conditions are each theorem's own.
-/
namespace Go.Proofs.Ytkgbjohadkbjaaa
open Go.RowKit

theorem Rd.src {w : World} {B : Nat} {ad : Addr} {bs : List UInt8} (h : Rd w B (some ad) bs) : ∀ j v, (row bs)[j]? = some v → w.cell? (ad.add j) = some v := fun j v hv => by
  have hj : j < bs.length := by have := (List.getElem?_eq_some_iff.1 hv).1; rwa [row_length] at this
  obtain ⟨b, off, e, _, hc⟩ := h (by omega)
  injection e with e
  subst e
  rw [row_getD bs hj hv, add_off]; exact hc j hj

/-- append onto a row of the call's own, of a source that reads as bytes. -/
theorem append_rd {w : World} {ops : Array Oper} {rest : List Oper} {o : Oper} {a : Act} {Q : Exit → Act → World → Prop} (hgd : o.guard = none) (s x : Operand)
    (ho : o.op = .call { callee := .builtin .append, args := #[s, x], argTypes := #[45, 45] })
    (base : Nat) (v : Value) (n : Nat) (xs : List Value) (hs : a.eval s = v) (hown : w.ownsRow base 5 1 v n xs)
    (B : Nat) (A : Option Addr) (c : Nat) (bs : List UInt8) (hx : a.eval x = .slice A bs.length c) (hA : A = none → c = 0) (hr : Rd w B A bs)
    (hlen : n + bs.length ≤ 2199023255552) (hbase : base ≤ w.heap.size)
    (h : ∀ v' w', w'.ownsRow base 5 1 v' (n + bs.length) (xs ++ row bs) → w.grownBy w' v.ownBlock → wpList Try.prog ops Q rest (a.put o.dst v') w') : wpList Try.prog ops Q (o :: rest) a w := by
  obtain ⟨i0, hi, hz0, hz1, hz2⟩ := info_parts info_u8
  rcases A with _ | ad
  · have h0 : bs = [] := by
      rcases Nat.eq_zero_or_pos bs.length with e | e
      · exact List.eq_nil_of_length_eq_zero e
      · obtain ⟨_, _, e', _⟩ := hr e; cases e'
    subst h0
    obtain rfl := hA rfl
    exact wpList_append_own_none hgd s x 45 ho base 5 i0 1 Try.underlying45 hi v n xs hs hown hx (h v w (by simpa [row] using hown) (World.grownBy.refl w _))
  · exact wpList_append_own w hgd s x 45 ho base 5 i0 (.int .u8 0) 1 1 Try.underlying45 hi hz0 hz1 hz2 rfl (by decide) v n xs hs hown ad bs.length c (row bs) hx
      (by rw [row_length, Nat.mul_one]) hr.src (row_one bs) (by unfold maxLen; omega) (by omega) hbase (fun v' w' h1 h2 _ => h v' w' h1 h2)

theorem own_block_ge {w : World} {base e size n : Nat} {v : Value} {xs : List Value} (h : w.ownsRow base e size v n xs) : ∀ k, v.ownBlock = some k → base ≤ k := by
  intro k hk
  rcases h.2 with ⟨rfl, _⟩ | ⟨g, cap, cur, rfl, hb, _⟩
  · simp [Value.ownBlock] at hk
  · simp [Value.ownBlock] at hk; omega

set_option maxHeartbeats 1000000 in
theorem clone_any (A : Option Addr) (bs : List UInt8) (c B : Nat) (w : World) (h : Arg w B A c bs) (hB : B ≤ w.heap.size) (hl : bs.length ≤ 1099511627776) :
    Calls Try.prog 23 #[.slice A bs.length c] w fun e w' => ∃ v, e = .returned v ∧ Made w w' v bs := by
  have q22 : ∀ (w : World) (a : Option Addr) (n c n' c' : Nat), (binOp .eql 45 (.slice a n c) (.slice none n' c')).run Try.prog w = .ok (.bool a.isNone) w := fun w a n c n' c' => Lib.run_eql_slice_nil w _ _ a n c n' c' Try.underlying45
  rcases A with _ | ad
  · have h0 : bs = [] := by
      rcases Nat.eq_zero_or_pos bs.length with e | e
      · exact List.eq_nil_of_length_eq_zero e
      · obtain ⟨_, _, e', _⟩ := h.rd e; cases e'
    subst h0
    go_enter Try.func23, Try.ntmps23
    go_wp2
    go_ret
    exact ⟨_, rfl, Made.nil _ _ (Below.refl _ _)⟩
  · have hr := h.rd
    have hn := h.none_
    go_enter Try.func23, Try.ntmps23
    go_wp2_with (at_builtin; refine append_rd rfl _ _ rfl w.heap.size _ _ _ rfl (World.ownsRow_made w #[] 0 (Nat.le_refl _) (Nat.zero_le _) rfl) B (some ad) c bs rfl hn (hr.alloc hB _) (by omega) (by simp) ?_; intro v' w1 hown hgrow)
    go_ret
    refine ⟨_, rfl, Made.of_own (by simpa using hown) (((Below.refl _ w).alloc (Nat.le_refl _) _).grown hgrow (by simp) (fun k hk => own_block_ge (World.ownsRow_made (base := w.heap.size) (e := 5) (size := 1) w #[] 0 (Nat.le_refl _) (Nat.zero_le _) rfl) k hk))⟩

theorem conv_any (A : Option Addr) (bs : List UInt8) (c B : Nat) (w : World) (h : Rd w B A bs) :
    (convert 45 9 (.slice A bs.length c)).run Try.prog w = .ok (.string (strB bs)) w := by
  rcases Nat.eq_zero_or_pos bs.length with h0 | h0
  · obtain rfl : bs = [] := List.eq_nil_of_length_eq_zero h0
    rw [List.length_nil, run_convert_bytes_string w 45 9 5 _ 0 c Try.underlying45 Try.underlying5 Try.underlying9]
    cases A <;> simp [Conv.bytesToString, loadCells] <;> rfl
  · obtain ⟨b, off, rfl, _, hc⟩ := h h0
    have := run_convert_bytes_arg (P := Try.prog) w 45 5 Try.underlying45 Try.underlying5 b off bs.length c (bs.map fun x => (x.toNat : Int)) (by simp)
      (fun i hi => by rw [hc i hi]; simp [byt, hi]) 9 Try.underlying9
    rw [this]
    simp [strOfNums, strB, Function.comp_def]

theorem equal_any (A A' : Option Addr) (xs bs : List UInt8) (c c' B B' : Nat) (w : World) (h : Rd w B A xs) (h' : Rd w B' A' bs) :
    Calls Try.prog 31 #[.slice A xs.length c, .slice A' bs.length c'] w fun e w' => e = .returned (.bool (decide (xs = bs))) ∧ w = w' := by
  have h1 := conv_any A xs c B w h
  have h2 := conv_any A' bs c' B' w h'
  rw [← strB_eq]
  clear h h'
  go_enter Try.func31, Try.ntmps31
  go_wp2
  go_ret
  exact ⟨rfl, rfl⟩
end Go.Proofs.Ytkgbjohadkbjaaa

/-
  Contract of be.Words and of the iterator that it hands back: it tells the pairs of bytes in order, each with its number. Conditions are each theorem's own.
-/
namespace Go.Proofs.Ytkgbjohadkbjaaa
open Go.RowKit Go.Shelf
attribute [local go_sem] Oper.semAt_some

/-- The number of pair i (a byte that is not there is 0), and where it begins. Plain definitions. -/
def wrd (bs : List UInt8) (i : Nat) : Int := byt bs (2 * i) * 256 + byt bs (2 * i + 1)
def dbl (i : Nat) : Int := ((2 * i : Nat) : Int)
theorem byt_beyond {bs : List UInt8} {j : Nat} (h : bs.length ≤ j) : byt bs j = 0 := by simp [byt, List.getElem?_eq_none h]
theorem wrd_bd (bs : List UInt8) (i : Nat) : 0 ≤ wrd bs i ∧ wrd bs i ≤ 65535 := by
  have := byt_lo bs (2 * i); have := byt_lo bs (2 * i + 1); have := byt_hi bs (2 * i); have := byt_hi bs (2 * i + 1)
  unfold wrd; omega
def encW (bs : List UInt8) (i : Nat) : Array Value := #[.int .i64 (dbl i), .int .i64 (wrd bs i)]
/-- How many pairs. -/
def prs (n : Nat) : Nat := (n + 1) / 2

theorem byt_pad (bs : List UInt8) (n j : Nat) : byt (pad bs n) j = byt bs j := by
  unfold byt pad
  by_cases h : j < bs.length
  · rw [List.getElem?_append_left h]
  · rw [List.getElem?_append_right (by omega), List.getElem?_eq_none (l := bs) (by omega)]
    by_cases h2 : j - bs.length < n - bs.length
    · rw [List.getElem?_replicate, if_pos h2]; rfl
    · rw [List.getElem?_replicate, if_neg h2]
theorem num_two (bs : List UInt8) (h : bs.length = 2) : num bs = byt bs 0 * 256 + byt bs 1 := by
  match bs, h with
  | [x, y], _ => simp [num, byt]

theorem word_any (b j i c : Nat) (bs : List UInt8) (n : Nat) (w : World) (hj : j = 2 * i) (hs : j + 2 ≤ (pad bs n).length)
    (hc : ∀ j, j < (pad bs n).length → w.cell? ⟨b, j, none⟩ = some (.int .u8 (byt (pad bs n) j))) :
    Calls Try.prog 106 #[.slice (some ⟨b, j, none⟩) 2 c] w fun e w' => e = .returned (.int .i64 (wrd bs i)) ∧ w = w' := by
  have h := number_cut b 0 j 2 c (b + 1) (pad bs n) w hs (by omega) (Nat.lt_succ_self b) (by simpa using hc)
  have e : num (((pad bs n).drop j).take 2) = wrd bs i := by
    rw [num_two _ (len_cut hs), byt_cut _ _ _ (by omega), byt_cut _ _ _ (by omega), byt_pad, byt_pad, Nat.add_zero, wrd, hj]
  rw [Nat.zero_add, e] at h
  exact h

set_option maxRecDepth 100000 in
set_option maxHeartbeats 2000000 in
theorem words1_in (m : Nat) (hm : 1 ≤ m) (l lo hi Bs g n : Nat) (bs : List UInt8) (hn : n = 2 * prs bs.length) (hl : bs.length ≤ 1099511627000) (hBs : lo ≤ Bs ∧ Bs < hi) (hg : lo ≤ g ∧ g < hi) (J Jx : List Nat → World → Prop)
    (hY : ∀ pre x W, J pre W → pre.length < prs bs.length → YieldAt Fence.wide (m - 1) Try.prog l (encW bs x) W fun e W' =>
      (e = .returned (.bool true) ∧ J (pre ++ [x]) W' ∧ Holds lo hi W W') ∨ (e = .returned (.bool false) ∧ Jx (pre ++ [x]) W'))
    (W : World) (hb : W.cell? ⟨Bs, 0, none⟩ = some (.slice (some ⟨g, 0, none⟩) n n)) (hc : W.heap[g]? = some (.cells (row (pad bs n)).toArray 5 (0, 0))) (hJ : J [] W) :
    CallsIn Fence.wide m Try.prog 123 #[.func (.yield l) #[] #[], .pointer (some ⟨Bs, 0, none⟩)] W fun e W' => (∃ v, e = .returned v) ∧
      ((∃ ys, ys = List.range (prs bs.length) ∧ J ys W') ∨ (∃ pre, (∃ k, k ≤ prs bs.length ∧ pre = List.range k) ∧ Jx pre W')) := by
  have hpl : (pad bs n).length = n := pad_length (by unfold prs at hn; omega)
  have Hpl := Lib.hid hpl
  clear hpl
  have hn2 : n ≤ 1099511627776 := by unfold prs at hn; omega
  have Hn := Lib.hid hn
  clear hn
  refine callsIn_of_wp Try.func123 rfl trivial ?_ rfl
  simp only [Try.ntmps123, List.size_toArray, List.length_cons, List.length_nil, Nat.reduceAdd, Nat.reduceSub, Array.replicate_succ, Array.replicate_zero, List.push_toArray, List.append_toArray, List.nil_append, List.cons_append]
  gi_wp2
  gi_loopw [3] (fun i wr => ∃ j k : Nat, Hid (j = 2 * k) ∧ j ≤ n ∧ i = .int .i64 (j : Int) ∧ J (List.range k) wr ∧ Holds lo hi W wr)
    (fun i _ => n - (intOf i).toNat)
  case atStart => exact ⟨0, 0, Lib.hid rfl, Nat.zero_le _, rfl, hJ, Holds.refl _ _ _⟩
  case round =>
    obtain ⟨j, k, Hj, hk, rfl, hJs, hH⟩ := hrel
    have hb' := (hH.cell (p := ⟨Bs, 0, none⟩) hBs.1 hBs.2).trans hb
    have hc' := (hH.2 g hg.1 hg.2).trans hc
    by_cases hlt : j < n
    · have hj2 : j + 2 ≤ n := by have := Hj.out; have := Hn.out; omega
      have hkl : k < prs bs.length := by have := Hj.out; have := Hn.out; omega
      have Hcell := Lib.hid (fun (i : Nat) (hi : i < (pad bs n).length) => row_cell hc' hi)
      clear hc'
      obtain ⟨fn, tmps, assign, body, hy, hR⟩ := hY _ k wr hJs (by simpa using hkl)
      dsimp only [encW] at hy
      rw [show dbl k = (j : Int) from by rw [dbl, ← Hj.out]] at hy
      gi_wp2_with (first
        | (refine ⟨trivial, ?_⟩; gi_at_call 107; refine (callsIn_wide.2 (cut_any g 0 n n j 2 _ (by omega) (by omega) (by omega) (by omega))).mono ?_; rintro e w' ⟨rfl, rfl⟩)
        | (refine ⟨trivial, ?_⟩; gi_at_call 106; refine (callsIn_wide.2 (word_any g j k _ bs n _ Hj.out (by rw [Hpl.out]; omega) Hcell.out)).mono ?_; rintro e w' ⟨rfl, rfl⟩))
      refine hR.mono ?_
      rintro e W3 (⟨rfl, hJ3, hk3⟩ | ⟨rfl, hJx3⟩)
      · gi_wp2
        go_roundw
        case rel => exact ⟨j + 2, k + 1, Lib.hid (by have := Hj.out; omega), by omega, by simp, by rw [List.range_succ]; exact hJ3, hH.trans hk3⟩
        case measure => simp [intOf]; omega
      · gi_wp2
        refine bodyPost_ret (results_none rfl _ _ _) rfl ?_
        exact ⟨⟨_, rfl⟩, .inr ⟨_, ⟨k + 1, by omega, List.range_succ.symm⟩, hJx3⟩⟩
    · obtain rfl : j = n := by omega
      gi_wp2
      go_end0
      exact ⟨⟨_, rfl⟩, .inl ⟨_, rfl, by have := Hj.out; have := Hn.out; rwa [show prs bs.length = k from by omega]⟩⟩

theorem roomy_v (A : Option Addr) (bs : List UInt8) (c B n : Nat) (v : Int) (hv : v = (n : Int)) (w : World) (h : Rd w B A bs) (hB : B ≤ w.heap.size) (hl : bs.length ≤ n) (hn : n ≤ 1099511627776) :
    Calls Try.prog 116 #[.slice A bs.length c, .int .i64 v] w
      fun e w' => e = .returned (.slice (some ⟨w.heap.size, 0, none⟩) n n) ∧ w'.heap[w.heap.size]? = some (.cells (row (pad bs n)).toArray 5 (0, 0)) ∧ Below w.heap.size w w' := by
  subst hv; exact roomy_any A bs c B n w h hB hl hn

/-- Words: new memory; an iterator that tells the pairs in order, as long as a round keeps the blocks that Words made. -/
theorem words_any (A : Option Addr) (bs : List UInt8) (c B : Nat) (w : World) (h : Rd w B A bs) (hB : B ≤ w.heap.size) (hl : bs.length ≤ 1099511627000) :
    Calls Try.prog 118 #[.slice A bs.length c] w fun e w' => ∃ Bs, e = .returned (.func (.func 123) #[] #[.pointer (some ⟨Bs, 0, none⟩)]) ∧ Below w.heap.size w w' ∧
      (∀ m, 1 ≤ m → SeqStopsK Fence.wide m Try.prog 123 #[.pointer (some ⟨Bs, 0, none⟩)] (encW bs) (Holds w.heap.size w'.heap.size)
        (fun ys => ys = List.range (prs bs.length)) (fun pre => ∃ k, k ≤ prs bs.length ∧ pre = List.range k) (prs bs.length) w') := by
  obtain ⟨n, hn⟩ : ∃ n, n = 2 * prs bs.length := ⟨_, rfl⟩
  have hn' : bs.length + bs.length % 2 = n := by unfold prs at hn; omega
  have Hn := Lib.hid hn
  have Hn' := Lib.hid hn'
  have hle : bs.length ≤ n := by omega
  have hle2 : n ≤ 1099511627776 := by omega
  clear hn hn'
  go_enter Try.func118, Try.ntmps118
  go_wp2_with (go_at_call 116; refine (roomy_v A bs c B n _ (by have := Hn'.out; omega) _ h hB hle hle2).mono ?_; rintro e w1 ⟨rfl, hg1, hb1⟩)
  go_ret
  have hbx := Boxed.new w1 45 (.slice (some ⟨w.heap.size, 0, none⟩) n n)
  have hb2 : Below w.heap.size w (w1.alloc (.cells #[.slice (some ⟨w.heap.size, 0, none⟩) n n] 45)) := hb1.alloc hb1.size _
  have hlt := heap_lt hg1
  refine ⟨w1.heap.size, rfl, hb2, fun m hm l J Jx W hW _ _ hY hJ => ?_⟩
  have hs : (w1.alloc (.cells #[.slice (some ⟨w.heap.size, 0, none⟩) n n] 45)).heap.size = w1.heap.size + 1 := by simp
  refine words1_in m hm l w.heap.size _ w1.heap.size w.heap.size n bs Hn.out hl ⟨hb1.size, by rw [hs]; omega⟩ ⟨Nat.le_refl _, by rw [hs]; omega⟩ J Jx hY W ?_ ?_ hJ
  · exact (hW.cell (p := ⟨w1.heap.size, 0, none⟩) (by rw [hs]; simp)).trans hbx.cell
  · exact (hW.block _ (by rw [hs]; omega)).trans ((Below.heap_alloc _ _ _ hlt).trans hg1)
end Go.Proofs.Ytkgbjohadkbjaaa

/-
  Contracts of the document's plain answers of layer 1: Word, Put, Set. Conditions are each theorem's own.
-/
namespace Go.Proofs.Ytkgbjohadkbjaaa
open Go.RowKit

theorem rword_any (A : Option Addr) (bs : List UInt8) (c B i : Nat) (w : World) (h : Rd w B A bs) (hi : i < bs.length) (hl : bs.length ≤ 1099511627776) :
    Calls Try.prog 112 #[.slice A bs.length c, .int .i64 (i : Int)] w
      fun e w' => e = .returned (.int .i64 (byt bs i * 256 + byt bs (i + 1))) ∧ ∃ n, w' = w.drewN n := by
  obtain ⟨b, off, rfl, _, hc⟩ := h (by omega)
  have h0 := hc i hi
  have l0 := byt_lo bs i
  have u0 := byt_hi bs i
  by_cases h2 : i + 1 < bs.length
  · have h1 := hc (i + 1) h2
    have l1 := byt_lo bs (i + 1)
    have u1 := byt_hi bs (i + 1)
    rw [← Nat.add_assoc] at h1
    clear hc h
    generalize byt bs i = x at *
    generalize byt bs (i + 1) = y at *
    go_enter Try.func112, Try.ntmps112
    go_wp2
    have s1 : IntKind.i64.wrap ((i : Int) + 1) = (i : Int) + 1 := IntWalk.i64_in _ (by omega)
    have s2 : (0 : Int) ≤ (i : Int) + 1 := by omega
    have s3 : ((i : Int) + 1).toNat = i + 1 := by omega
    have s4 : IntKind.i64.wrap (x * 256) = x * 256 := IntWalk.i64_in _ (by omega)
    have s5 : IntKind.i64.wrap (x * 256 + y) = x * 256 + y := IntWalk.i64_in _ (by omega)
    have h1' : w.cell? ⟨b, off + (i + 1), none⟩ = some (.int .u8 y) := by rw [← Nat.add_assoc]; exact h1
    go_quiet (fail)
    clear s1 s2 s3 s4 s5
    go_wp2
    go_ret
    exact ⟨rfl, nq, rfl⟩
  · have e : byt bs (i + 1) = 0 := byt_beyond (by omega)
    rw [e]
    clear hc h e
    generalize byt bs i = x at *
    go_enter Try.func112, Try.ntmps112
    go_wp2
    go_ret
    exact ⟨ret_int (by omega), 0, rfl⟩

theorem Rd.one {W : World} {v : Int} {x : UInt8} (t : TypeId) (h : v = (x.toNat : Int)) : Rd (W.alloc (.cells #[.int .u8 v] t)) (W.heap.size + 1) (some ⟨W.heap.size, 0, none⟩) [x] :=
  Rd.of_block (g := W.heap.size) (World.alloc_heap_new W _) (Nat.lt_succ_self _) 0 (fun j hj => by
    have : j = 0 := by simpa using hj
    subst this; simp [h, byt])

theorem dig_wrap {n : Int} (h : 0 ≤ n) (s i : Nat) : n / pw (s - 1 - i) % 256 = ((dig n s i).toNat : Int) := (dig_val h s i).symm

set_option maxHeartbeats 1000000 in
theorem rput_any (A : Option Addr) (bs : List UInt8) (c B : Nat) (n s : Int) (w : World) (h : Arg w B A c bs) (hl : bs.length ≤ 1099511627000) :
    Calls Try.prog 84 #[.slice A bs.length c, .int .i64 n, .int .i64 s] w fun e w' => ∃ v, e = .returned v ∧ Made w w' v (putB bs n s) := by
  have hr := h.rd
  have hn := h.none_
  by_cases hf : fitsB n s = true
  · have hf' := fitsB_iff.1 hf
    obtain ⟨k, rfl⟩ := Int.eq_ofNat_of_zero_le (show 0 ≤ s by omega)
    rw [show putB bs n k = bs ++ digs n k from by simp [putB, hf]]
    have h0 : 0 ≤ n := hf'.2.2.1
    have hnu : n < pw k := by simpa using hf'.2.2.2
    have hpl := pw_le (k := k) (by omega)
    go_enter Try.func84, Try.ntmps84
    go_wp2_with (first
      | (go_at_call 82; refine (rfits_any _ _ _).mono ?_; rintro e w' ⟨rfl, rfl⟩)
      | (at_builtin; refine append_rd rfl _ _ rfl w.heap.size _ _ _ rfl (World.ownsRow_nil _ _ _ _) B A c bs rfl hn hr (by omega) (Nat.le_refl _) ?_; intro v1 w1 hown hgrow))
    have hb1 : Below w.heap.size w w1 := (Below.refl _ w).grown hgrow (Nat.le_refl _) (fun k hk => by cases (show (none : Option Nat) = some k from hk))
    simp only [List.nil_append, Nat.zero_add] at hown
    clear hr hn h hf
    go_loopw [7, 8] (fun v i wr => ∃ (j : Nat) (q : Int), j ≤ k ∧ i = .int .i64 q ∧ Hid (q = (k : Int) - 1 - (j : Int)) ∧ q ≤ 3 ∧ -1 ≤ q ∧ Below w.heap.size w wr ∧
        wr.ownsRow w.heap.size 5 1 v (bs.length + j) (row (bs ++ (List.range j).map (dig n k)))) (fun _ i _ => (intOf i + 1).toNat)
    case atStart => exact ⟨0, _, Nat.zero_le _, rfl, Lib.hid (by omega), by omega, by omega, hb1, by simpa using hown⟩
    case round =>
      obtain ⟨j, q, hj, rfl, Hq, hq3, hq1, hb, hown2⟩ := hrel
      by_cases hq : 0 ≤ q
      · obtain ⟨m, rfl⟩ := Int.eq_ofNat_of_zero_le hq
        have p1 := pw_pos m
        have hE : Hid (n / pw m % 256 = ((dig n k j).toNat : Int)) := by
          have := Hq.out
          rw [show m = k - 1 - j from by omega]; exact Lib.hid (dig_wrap h0 k j)
        have hsz := hb.size
        have hd0 : 0 ≤ n / pw m := Int.ediv_nonneg h0 (by omega)
        go_wp2_with (first
          | (go_at_call 111; refine (pow_any _ _ (by omega)).mono ?_; rintro e w' ⟨rfl, rfl⟩)
          | (at_builtin; go_loud (refine append_rd rfl _ _ rfl w.heap.size _ _ _ rfl (hown2.alloc _) (wr.heap.size + 1) (some ⟨wr.heap.size, 0, none⟩) 1 [dig n k j] rfl (by simp) (Rd.one 5 hE.out) (by simp; omega) (by simp; omega) ?_); intro v3 w3 hown3 hgrow3))
        go_roundw
        case rel =>
          refine ⟨j + 1, _, by have := Hq.out; omega, rfl, Lib.hid (by have := Hq.out; omega), by omega, by omega, (hb.alloc hsz _).grown hgrow3 (Nat.le_trans hsz (by simp)) (fun k hk => own_block_ge hown2 k hk), ?_⟩
          have e : row (bs ++ List.map (dig n k) (List.range (j + 1))) = row (bs ++ List.map (dig n k) (List.range j)) ++ row [dig n k j] := by
            rw [← row_append, List.append_assoc, List.range_succ, List.map_append, List.map_singleton]
          rw [e]; exact hown3
        case measure => simp [intOf]
      · go_wp2
        go_ret
        have hjk : j = k := by have := Hq.out; omega
        subst hjk
        exact ⟨_, rfl, Made.of_own (by rw [List.length_append, digs_length]; exact hown2) hb⟩
  · have hf0 : fitsB n s = false := by simpa using hf
    rw [show putB bs n s = bs from by simp [putB, hf0]]
    go_enter Try.func84, Try.ntmps84
    go_wp2_with (first
      | (go_at_call 82; refine (rfits_any _ _ _).mono ?_; rintro e w' ⟨rfl, rfl⟩)
      | (at_builtin; refine append_rd rfl _ _ rfl w.heap.size _ _ _ rfl (World.ownsRow_nil _ _ _ _) B A c bs rfl hn hr (by omega) (Nat.le_refl _) ?_; intro v1 w1 hown hgrow))
    go_ret
    have hb1 : Below w.heap.size w w1 := (Below.refl _ w).grown hgrow (Nat.le_refl _) (fun k hk => by cases (show (none : Option Nat) = some k from hk))
    exact ⟨_, rfl, Made.of_own (by simpa using hown) hb1⟩

set_option maxHeartbeats 1000000 in
theorem rset_any (A : Option Addr) (bs : List UInt8) (c B : Nat) (at_ n s : Int) (w : World) (h : Arg w B A c bs) (hl : bs.length ≤ 1099511627000) :
    Calls Try.prog 85 #[.slice A bs.length c, .int .i64 at_, .int .i64 n, .int .i64 s] w
      fun e w' => ∃ v, e = .returned (.tuple #[v, .int .i64 (setE bs.length at_ n s)]) ∧ Made w w' v (setB bs at_ n s) := by
  have hr' := h.rd
  have hn := h.none_
  by_cases hf : fitsB n s = true
  · have hf' := fitsB_iff.1 hf
    by_cases h0 : 0 ≤ at_
    · by_cases hr : at_ ≤ (bs.length : Int) - s
      · obtain ⟨k, rfl⟩ := Int.eq_ofNat_of_zero_le (show 0 ≤ s by omega)
        obtain ⟨a, rfl⟩ := Int.eq_ofNat_of_zero_le h0
        rw [show setB bs a n k = splice bs a (digs n k) from by rw [setB, if_pos ⟨hf, h0, hr⟩]; simp, show setE bs.length a n k = 0 from by rw [setE, if_pos hf, getE_ok ⟨hf'.1, hf'.2.1, h0⟩ hr]]
        have hn0 : 0 ≤ n := hf'.2.2.1
        have hnu : n < pw k := by simpa using hf'.2.2.2
        have hpl := pw_le (k := k) (by omega)
        have hd : decide ((a : Int) < 0) = false := by simp
        go_enter Try.func85, Try.ntmps85
        go_wp2_with (first
          | (go_at_call 82; refine (rfits_any _ _ _).mono ?_; rintro e w' ⟨rfl, rfl⟩)
          | (at_builtin; refine append_rd rfl _ _ rfl w.heap.size _ _ _ rfl (World.ownsRow_nil _ _ _ _) B A c bs rfl hn hr' (by omega) (Nat.le_refl _) ?_; intro v1 w1 hown hgrow))
        have hb1 : Below w.heap.size w w1 := (Below.refl _ w).grown hgrow (Nat.le_refl _) (fun k hk => by cases (show (none : Option Nat) = some k from hk))
        simp only [List.nil_append, Nat.zero_add] at hown
        obtain ⟨g, cap, rfl⟩ : ∃ g cap, v1 = .slice (some ⟨g, 0, none⟩) bs.length cap := by
          rcases hown.2 with ⟨_, e0⟩ | ⟨g, cap, cur, rfl, _⟩
          · omega
          · exact ⟨g, cap, rfl⟩
        have hgb := own_block_ge hown g rfl
        have hk4 : k ≤ 4 := by omega
        clear hr' hn h hf hgrow hf'
        go_loopw [11] (fun i wr => ∃ j : Nat, j ≤ k ∧ i = .int .i64 (j : Int) ∧ Below w.heap.size w wr ∧
            wr.ownsRow w.heap.size 5 1 (.slice (some ⟨g, 0, none⟩) bs.length cap) bs.length (row (splice bs a ((List.range j).map (dig n k))))) (fun i _ => k - (intOf i).toNat)
        case atStart => exact ⟨0, Nat.zero_le _, rfl, hb1, by simpa [splice] using hown⟩
        case round =>
          obtain ⟨j, hj, rfl, hb, hown2⟩ := hrel
          by_cases hlt : j < k
          · have p1 := pw_pos (k - 1 - j)
            have hE : Hid (n / pw (k - 1 - j) % 256 = ((dig n k j).toNat : Int)) := Lib.hid (dig_wrap hn0 k j)
            have hd0 : 0 ≤ n / pw (k - 1 - j) := Int.ediv_nonneg hn0 (by omega)
            have hlen : Hid ((splice bs a ((List.range j).map (dig n k))).length = bs.length) := Lib.hid (length_splice _ _ _ (by simp; omega))
            have hcell : wr.cell? ⟨g, a + j, none⟩ = some (.int .u8 (byt (splice bs a ((List.range j).map (dig n k))) (a + j))) := by
              rw [hown2.cellAt (a + j) (by omega)]; exact row_get _ (by rw [hlen.out]; omega)
            have hfz := hown2.frozenAt (a + j)
            obtain ⟨m, hm⟩ : ∃ m, m = k - 1 - j := ⟨_, rfl⟩
            rw [← hm] at p1 hE hd0
            have hm2 : ((k : Int) - 1 - (j : Int)) = (m : Int) := by omega
            have Hm := Lib.hid hm
            clear hm
            go_wp2_with (go_at_call 111; refine (pow_any m _ (by have := Hm.out; omega)).mono ?_; rintro e w' ⟨rfl, rfl⟩)
            go_roundw
            case rel =>
              refine ⟨j + 1, by omega, by simp, hb.setCell (p := ⟨g, a + j, none⟩) hgb _, ?_⟩
              have e : row (splice bs a ((List.range (j + 1)).map (dig n k))) = (row (splice bs a ((List.range j).map (dig n k)))).set (a + j) (.int .u8 ((dig n k j).toNat : Int)) := by
                have hl' : ((List.range j).map (dig n k)).length = j := by simp
                have := splice_set bs ((List.range j).map (dig n k)) a (dig n k j) (by rw [hl']; omega)
                rw [hl'] at this
                rw [List.range_succ, List.map_append, List.map_singleton, ← this]
                simp [row, List.map_set]
              rw [e, ← hE.out]
              exact (hown2.stored (a + j) _).1
            case measure => simp [intOf]; omega
          · obtain rfl : j = k := by omega
            go_wp2
            go_ret2
            exact ⟨_, rfl, Made.of_own (by rw [length_splice _ _ _ (by rw [digs_length]; omega)]; exact hown2) hb⟩
      · rw [show setB bs at_ n s = [] from by rw [setB, if_neg (by omega)], show setE bs.length at_ n s = 3 from by rw [setE, if_pos hf, getE_short ⟨hf'.1, hf'.2.1, h0⟩ hr]]
        have hd : decide ((bs.length : Int) - s < at_) = true := by simp; omega
        go_enter Try.func85, Try.ntmps85
        go_wp2_with (go_at_call 82; refine (rfits_any _ _ _).mono ?_; rintro e w' ⟨rfl, rfl⟩)
        go_ret2
        exact ⟨_, rfl, Made.nil _ _ (Below.refl _ _)⟩
    · rw [show setB bs at_ n s = [] from by rw [setB, if_neg (by omega)], show setE bs.length at_ n s = 1 from by rw [setE, if_pos hf, getE_arg (by omega)]]
      have hd : decide (at_ < 0) = true := by simp; omega
      go_enter Try.func85, Try.ntmps85
      go_wp2_with (go_at_call 82; refine (rfits_any _ _ _).mono ?_; rintro e w' ⟨rfl, rfl⟩)
      go_ret2
      exact ⟨_, rfl, Made.nil _ _ (Below.refl _ _)⟩
  · have hf0 : fitsB n s = false := by simpa using hf
    rw [show setB bs at_ n s = [] from by rw [setB, if_neg (by simp [hf0])], show setE bs.length at_ n s = 1 from by simp [setE, hf0]]
    go_enter Try.func85, Try.ntmps85
    go_wp2_with (go_at_call 82; refine (rfits_any _ _ _).mono ?_; rintro e w' ⟨rfl, rfl⟩)
    go_ret2
    exact ⟨_, rfl, Made.nil _ _ (Below.refl _ _)⟩
end Go.Proofs.Ytkgbjohadkbjaaa

/-
  Contract of layer 1's awake: it answers true, and turns nothing that was there. Conditions: none.
-/
namespace Go.Proofs.Ytkgbjohadkbjaaa
open Go.RowKit

theorem get_awake (g : Nat) (w : World) (hg : w.heap[g]? = some (.cells #[.int .u8 1, .int .u8 2, .int .u8 3] 5 (0, 0))) :
    Calls Try.prog 74 #[.slice (some ⟨g, 0, none⟩) 3 3, .int .i64 1, .int .i64 2] w fun e w' => e = .returned (.tuple #[.int .i64 515, .int .i64 0]) ∧ w = w' := by
  have h := get_any (some ⟨g, 0, none⟩) [1, 2, 3] 3 (g + 1) 1 2 w (Rd.of_block hg (Nat.lt_succ_self g) 0 (fun j hj => by
    have : j = 0 ∨ j = 1 ∨ j = 2 := by simp at hj; omega
    rcases this with rfl | rfl | rfl <;> rfl)) (by decide) (by decide)
  have e1 : getV [1, 2, 3] 1 2 = 515 := by decide
  have e2 : getE [(1 : UInt8), 2, 3].length 1 2 = 0 := by decide
  rw [e1, e2] at h
  exact h

theorem put_awake (w : World) :
    Calls Try.prog 108 #[.slice none 0 0, .int .i64 258, .int .i64 2] w fun e w' => ∃ A c, e = .returned (.slice A 2 c) ∧ Rd w' w'.heap.size A [1, 2] ∧ Below w.heap.size w w' := by
  have h := put_any none [] 0 0 258 2 w Rd.nil (Nat.zero_le _) (by decide)
  have e1 : putB [] 258 2 = [1, 2] := by decide
  rw [e1] at h
  exact h.mono fun e w' ⟨v, he, A, c, hv, _, hr, _, hb⟩ => ⟨A, c, by rw [he, hv]; rfl, hr, hb⟩

theorem equal_awake (A A' : Option Addr) (c c' B B' : Nat) (w : World) (h : Rd w B A [1, 2]) (h' : Rd w B' A' [1, 2]) :
    Calls Try.prog 31 #[.slice A 2 c, .slice A' 2 c'] w fun e w' => e = .returned (.bool true) ∧ w = w' := by
  have := equal_any A A' [1, 2] [1, 2] c c' B B' w h h'
  rw [show decide ([(1 : UInt8), 2] = [1, 2]) = true from by decide] at this
  exact this

theorem Rd.two {W : World} (t : TypeId) : Rd (W.alloc (.cells #[.int .u8 1, .int .u8 2] t)) (W.heap.size + 1) (some ⟨W.heap.size, 0, none⟩) [1, 2] :=
  Rd.of_block (g := W.heap.size) (World.alloc_heap_new W _) (Nat.lt_succ_self _) 0 (fun j hj => by
    have : j = 0 ∨ j = 1 := by simp at hj; omega
    rcases this with rfl | rfl <;> rfl)

theorem num_digs {n : Int} {k : Nat} (h1 : 1 ≤ k) (h4 : k ≤ 4) (h0 : 0 ≤ n) (hn : n < pw k) : num (digs n k) = n := by
  have hv := fun i => dig_val h0 k i
  have hk : k = 1 ∨ k = 2 ∨ k = 3 ∨ k = 4 := by omega
  rcases hk with rfl | rfl | rfl | rfl
  · have v0 := hv 0
    simp [pw] at v0 hn
    simp only [digs, num, List.range_succ, List.range_zero, List.nil_append, List.map_cons, List.map_nil, List.foldl_cons, List.foldl_nil, v0]
    omega
  · have v0 := hv 0; have v1 := hv 1
    simp [pw] at v0 v1 hn
    simp only [digs, num, List.range_succ, List.range_zero, List.nil_append, List.cons_append, List.map_cons, List.map_nil, List.foldl_cons, List.foldl_nil, v0, v1]
    omega
  · have v0 := hv 0; have v1 := hv 1; have v2 := hv 2
    simp [pw] at v0 v1 v2 hn
    simp only [digs, num, List.range_succ, List.range_zero, List.nil_append, List.cons_append, List.map_cons, List.map_nil, List.foldl_cons, List.foldl_nil, v0, v1, v2]
    omega
  · have v0 := hv 0; have v1 := hv 1; have v2 := hv 2; have v3 := hv 3
    simp [pw] at v0 v1 v2 v3 hn
    simp only [digs, num, List.range_succ, List.range_zero, List.nil_append, List.cons_append, List.map_cons, List.map_nil, List.foldl_cons, List.foldl_nil, v0, v1, v2, v3]
    omega

/-- Get of what Put put behind is the number. -/
theorem get_put (bs : List UInt8) {n s : Int} (h : fitsB n s = true) :
    getV (putB bs n s) bs.length s = n ∧ getE (putB bs n s).length bs.length s = 0 ∧ (putB bs n s).length ≤ bs.length + 4 := by
  have hf := fitsB_iff.1 h
  obtain ⟨k, rfl⟩ := Int.eq_ofNat_of_zero_le (show 0 ≤ s by omega)
  have hp : putB bs n k = bs ++ digs n k := by simp [putB, h]
  have hl : (bs ++ digs n k).length = bs.length + k := by rw [List.length_append, digs_length]
  rw [hp]
  refine ⟨?_, getE_ok ⟨hf.1, hf.2.1, by omega⟩ (by rw [hl]; omega), by rw [hl]; omega⟩
  rw [getV_ok (by omega) (by omega) (by omega), List.drop_left, List.take_of_length_le (by rw [digs_length]; exact Nat.le_refl _)]
  exact num_digs (by omega) (by omega) hf.2.2.1 (by simpa using hf.2.2.2)

theorem equal_same (A A' : Option Addr) (bs : List UInt8) (c c' B B' : Nat) (w : World) (h : Rd w B A bs) (h' : Rd w B' A' bs) :
    Calls Try.prog 31 #[.slice A bs.length c, .slice A' bs.length c'] w fun e w' => e = .returned (.bool true) ∧ w = w' := by
  have := equal_any A A' bs bs c c' B B' w h h'
  rw [show decide (bs = bs) = true from by simp] at this
  exact this

/-! ### For ranges over Words -/
theorem rword_dbl (A : Option Addr) (bs : List UInt8) (c B i : Nat) (w : World) (h : Rd w B A bs) (hi : i < prs bs.length) (hl : bs.length ≤ 1099511627776) :
    Calls Try.prog 112 #[.slice A bs.length c, .int .i64 (dbl i)] w fun e w' => e = .returned (.int .i64 (wrd bs i)) ∧ ∃ n, w' = w.drewN n :=
  rword_any A bs c B (2 * i) w h (by unfold prs at hi; omega) hl
theorem dbl_lt {n i : Nat} (h : i < prs n) : dbl i < (n : Int) := by unfold prs at h; unfold dbl; omega
theorem dbl_ne {i j : Nat} (h : i ≠ j) : (dbl i != dbl j) = true := by rw [bne_iff_ne]; unfold dbl; omega
theorem dbl_succ (i : Nat) : dbl (i + 1) = dbl i + 2 := by unfold dbl; omega
theorem dbl_bd {n i : Nat} (h : i ≤ prs n) : 0 ≤ dbl i ∧ dbl i ≤ (n : Int) + 1 := by unfold prs at h; unfold dbl; omega
theorem dbl_all (n : Nat) : (n : Int) ≤ dbl (prs n) ∧ dbl (prs n) ≤ (n : Int) + 1 := by unfold prs dbl; omega
theorem Boxed.below {W W' : World} {B t : Nat} {v : Value} {B' : Nat} (h : Boxed W B t v) (hb : Below B' W W') (hB : B < B') : Boxed W' B t v := (hb.block B hB).trans h
theorem below_drewN {B : Nat} {a w : World} (h : Below B a w) (n : Nat) : Below B a (w.drewN n) := ⟨h.os, h.tape, h.output, h.size, h.block⟩
theorem Holds.drewN {lo hi : Nat} {W W' : World} (h : Holds lo hi W W') (n : Nat) : Holds lo hi W (W'.drewN n) := h
theorem KeepsFrom.drewN {B : Nat} {W W' : World} (h : KeepsFrom B W W') (n : Nat) : KeepsFrom B W (W'.drewN n) := ⟨h.size, h.same⟩

theorem box_keep {X Y : World} {B t n : Nat} {v : Value} {r : Option Nat} (h : Boxed X B t v) (hg : X.grownBy Y r) (hr : ∀ k, r = some k → n ≤ k ∧ ∃ o : Obj, X.heap[k]? = some o ∧ o.isCells = false) : Boxed Y B t v :=
  Own.from (boxed_own (β := Unit) B t (fun _ => v)) n () X Y r h hg hr
theorem below_keep {w X Y : World} {n n0 : Nat} {r : Option Nat} (h : Below n0 w X) (hg : X.grownBy Y r) (hr : ∀ k, r = some k → n ≤ k ∧ ∃ o : Obj, X.heap[k]? = some o ∧ o.isCells = false) (hn : n0 ≤ n) (hw : n0 ≤ w.heap.size) : Below n0 w Y :=
  h.grown hg (Nat.le_trans hw h.size) (fun k e => Nat.le_trans hn (hr k e).1)
end Go.Proofs.Ytkgbjohadkbjaaa

/-
  The sum of the Internet in plain numbers, and the contracts of Fold, the program's and the document's. Conditions are each theorem's own.
-/
namespace Go.Proofs.Ytkgbjohadkbjaaa
open Go.RowKit

/-- Fold, said at once: a number above 0 is told by its rest modulo 65535, from 1 on. A plain definition. -/
def fold (n : Int) : Int := if n ≤ 0 then 0 else (n - 1) % 65535 + 1
theorem fold_neg {n : Int} (h : n < 0) : fold n = 0 := by unfold fold; rw [if_pos (by omega)]
theorem fold_small {n : Int} (h0 : 0 ≤ n) (h : n ≤ 65535) : fold n = n := by
  unfold fold; split <;> omega
theorem fold_step {n : Int} (h : 65535 < n) : fold (n % 65536 + n / 65536) = fold n := by
  unfold fold; rw [if_neg (by omega), if_neg (by omega)]; omega
theorem fold_bd (n : Int) : 0 ≤ fold n ∧ fold n ≤ 65535 := by unfold fold; split <;> omega
theorem fold_zero : fold 0 = 0 := rfl

theorem wraps63 (n : Int) (h₀ : 0 ≤ n) (h₁ : n < 2 ^ 63) : IntKind.i64.wrap n = n := by rw [IntKind.wrap_i64]; omega
theorem and_full (n : Int) (h0 : 0 ≤ n) (h1 : n ≤ 9223372036854775807) : bits .and .i64 n 65535 = n % 65536 := by
  have := bits_mask .i64 63 (by decide) wraps63 16 (by decide) n h0 (by omega)
  simpa using this

set_option maxHeartbeats 400000 in
theorem fold_any (n : Int) (w : World) (hn : n ≤ 9223372036854775807) :
    Calls Try.prog 119 #[.int .i64 n] w fun e w' => e = .returned (.int .i64 (fold n)) ∧ w = w' := by
  by_cases h0 : n < 0
  · rw [fold_neg h0]
    go_enter Try.func119, Try.ntmps119
    go_wp2
    go_ret
    exact ⟨rfl, rfl⟩
  · go_enter Try.func119, Try.ntmps119
    go_wp2
    go_loop [0] (fun v => ∃ m : Int, 0 ≤ m ∧ m ≤ 9223372036854775807 ∧ Hid (fold m = fold n) ∧ v = .int .i64 m) (fun v => (intOf v).toNat)
    case atStart => exact ⟨n, by omega, hn, Lib.hid rfl, rfl⟩
    case round =>
      obtain ⟨m, hm0, hm1, Hm, rfl⟩ := hrel
      by_cases hlt : 65535 < m
      · have hA := and_full m hm0 hm1
        have HF := Lib.hid (fold_step hlt)
        go_wp2
        go_roundw
        case rel => exact ⟨m % 65536 + m / 65536, by omega, by omega, Lib.hid (HF.out.trans Hm.out), rfl⟩
        case measure => simp [intOf]; omega
      · go_wp2
        go_ret
        exact ⟨ret_int (by rw [← Hm.out, fold_small hm0 (by omega)]), rfl⟩

set_option maxHeartbeats 400000 in
theorem rfold_any (n : Int) (w : World) (hn : n ≤ 9223372036854775807) :
    Calls Try.prog 113 #[.int .i64 n] w fun e w' => e = .returned (.int .i64 (fold n)) ∧ w = w' := by
  by_cases h0 : n < 0
  · rw [fold_neg h0]
    go_enter Try.func113, Try.ntmps113
    go_wp2
    go_ret
    exact ⟨rfl, rfl⟩
  · go_enter Try.func113, Try.ntmps113
    go_wp2
    go_loop [0] (fun v => ∃ m : Int, 0 ≤ m ∧ m ≤ 9223372036854775807 ∧ Hid (fold m = fold n) ∧ v = .int .i64 m) (fun v => (intOf v).toNat)
    case atStart => exact ⟨n, by omega, hn, Lib.hid rfl, rfl⟩
    case round =>
      obtain ⟨m, hm0, hm1, Hm, rfl⟩ := hrel
      by_cases hlt : 65535 < m
      · have HF := Lib.hid (fold_step hlt)
        go_wp2
        go_roundw
        case rel => exact ⟨m % 65536 + m / 65536, by omega, by omega, Lib.hid (HF.out.trans Hm.out), rfl⟩
        case measure => simp [intOf]; omega
      · go_wp2
        go_ret
        exact ⟨ret_int (by rw [← Hm.out, fold_small hm0 (by omega)]), rfl⟩

/-! ### Sums of words -/

/-- The sum of the first k pairs. -/
def wsum (bs : List UInt8) : Nat → Int
  | 0 => 0
  | k + 1 => wsum bs k + wrd bs k
def wall (bs : List UInt8) : Int := wsum bs (prs bs.length)
def psum (ps : List (List UInt8)) : Int := (ps.map wall).sum
theorem wsum_succ (bs : List UInt8) (k : Nat) : wsum bs (k + 1) = wsum bs k + wrd bs k := rfl
theorem wsum_bd (bs : List UInt8) (k : Nat) : 0 ≤ wsum bs k ∧ wsum bs k ≤ 65535 * (k : Int) := by
  induction k with
  | zero => simp [wsum]
  | succ k ih => have := wrd_bd bs k; rw [wsum_succ]; omega
theorem wall_bd (bs : List UInt8) : 0 ≤ wall bs ∧ wall bs ≤ 65535 * (bs.length : Int) := by
  have := wsum_bd bs (prs bs.length); unfold wall; unfold prs at *; omega
theorem psum_take (ps : List (List UInt8)) {k : Nat} {bs : List UInt8} (h : ps[k]? = some bs) : psum (ps.take (k + 1)) = psum (ps.take k) + wall bs := by
  rw [List.take_add_one, h]; simp [psum]
/-- How many bytes there are in all. -/
def bulk (ps : List (List UInt8)) : Nat := (ps.map List.length).sum
theorem bulk_take (ps : List (List UInt8)) {k : Nat} {bs : List UInt8} (h : ps[k]? = some bs) : bulk (ps.take (k + 1)) = bulk (ps.take k) + bs.length := by
  rw [List.take_add_one, h]; simp [bulk]
theorem psum_bd (ps : List (List UInt8)) : 0 ≤ psum ps ∧ psum ps ≤ 65535 * (bulk ps : Int) := by
  induction ps with
  | nil => simp [psum, bulk]
  | cons b l ih =>
    have := wall_bd b
    have e1 : psum (b :: l) = wall b + psum l := by simp [psum]
    have e2 : bulk (b :: l) = b.length + bulk l := by simp [bulk]
    rw [e1, e2]; omega
theorem bulk_le (ps : List (List UInt8)) (k : Nat) : bulk (ps.take k) ≤ bulk ps := by
  have : bulk ps = bulk (ps.take k) + bulk (ps.drop k) := by
    conv => lhs; rw [← List.take_append_drop k ps]
    simp only [bulk, List.map_append, List.sum_append]
  omega
theorem len_bulk {ps : List (List UInt8)} {k : Nat} {bs : List UInt8} (h : ps[k]? = some bs) : bs.length ≤ bulk ps := by
  have := bulk_take ps h; have := bulk_le ps (k + 1); omega

/-! ### A slice of slices of bytes -/

/-- The slice at A, of ps.length elements, reads as slices that read as ps; all lies below block B. -/
def Rd2 (w : World) (B : Nat) (A : Option Addr) (ps : List (List UInt8)) : Prop :=
  0 < ps.length → ∃ b off, A = some ⟨b, off, none⟩ ∧ b < B ∧ ∀ (j : Nat) (bs : List UInt8), ps[j]? = some bs → ∃ Aj cj, w.cell? ⟨b, off + j, none⟩ = some (.slice Aj bs.length cj) ∧ Arg w B Aj cj bs
theorem Rd2.below {w w' : World} {B : Nat} {A : Option Addr} {ps : List (List UInt8)} (h : Rd2 w B A ps) (hb : Below B w w') : Rd2 w' B A ps := fun hn => by
  obtain ⟨b, off, e, hlt, hc⟩ := h hn
  refine ⟨b, off, e, hlt, fun j bs hj => ?_⟩
  obtain ⟨Aj, cj, h1, h2⟩ := hc j bs hj
  exact ⟨Aj, cj, (hb.cell (p := ⟨b, off + j, none⟩) hlt).trans h1, h2.below hb⟩
end Go.Proofs.Ytkgbjohadkbjaaa

/-
  Contracts of the program's sum: Add, Of, Right, Change. Conditions are each theorem's own.
-/
namespace Go.Proofs.Ytkgbjohadkbjaaa
open Go.RowKit Go.Shelf
attribute [local go_sem] Oper.semAt_some

/-! ### Many ranges over a function in one call: the marks that they leave -/

/-- The deferred calls are marks of blocks from lo on and below hi, each below the one ahead of it, that nothing was put into. -/
def Marks (lo : Nat) : Nat → List Deferred → World → Prop
  | _, [], _ => True
  | hi, d :: ds, w => ∃ D, d = { target := .collected D, args := #[] } ∧ lo ≤ D ∧ D < hi ∧ w.heap[D]? = some (.deferred (some [])) ∧ Marks lo D ds w
theorem Marks.keep {lo : Nat} {w w' : World} : ∀ {ds : List Deferred} {hi : Nat}, Marks lo hi ds w → (∀ k, lo ≤ k → k < hi → w'.heap[k]? = w.heap[k]?) → Marks lo hi ds w'
  | [], _, _, _ => trivial
  | _ :: _, _, ⟨D, e, h1, h2, h3, h4⟩, hk => ⟨D, e, h1, h2, (hk D h1 h2).trans h3, h4.keep fun k a b => hk k a (by omega)⟩
theorem Marks.more {lo : Nat} {w : World} : ∀ {ds : List Deferred} {hi hi' : Nat}, Marks lo hi ds w → hi ≤ hi' → Marks lo hi' ds w
  | [], _, _, _, _ => trivial
  | _ :: _, _, _, ⟨D, e, h1, h2, h3, h4⟩, hh => ⟨D, e, h1, by omega, h3, h4⟩
theorem Marks.push {lo hi D : Nat} {ds : List Deferred} {w : World} (h : Marks lo hi ds w) (hD : hi ≤ D) (hlo : lo ≤ D) (hK : w.heap[D]? = some (.deferred (some []))) :
    Marks lo (D + 1) ({ target := .collected D, args := #[] } :: ds) w := ⟨D, rfl, hlo, Nat.lt_succ_self D, hK, h.more hD⟩
theorem Marks.turn {lo : Nat} {w w' : World} {r : Option Nat} (hg : w.grownBy w' r) : ∀ {ds : List Deferred} {hi : Nat}, Marks lo hi ds w → (∀ k, r = some k → hi ≤ k) → Marks lo hi ds w'
  | [], _, _, _ => trivial
  | _ :: _, _, ⟨D, e, h1, h2, h3, h4⟩, hr => ⟨D, e, h1, h2, (hg.block D (heap_lt h3) (fun e => by have := hr D e.symm; omega)).trans h3, h4.turn hg fun k e => by have := hr k e; omega⟩

/-- A function that leaves with such marks: what holds behind the turn of each block holds at its end. -/
theorem leaves_marks {F : Fence} {n : Nat} {P : Program} {fn : Func} {tmps : Array Value} {R : Ending → World → Prop} (lo : Nat) (K : World → Prop)
    (hK : ∀ (w : World) (D : Nat), K w → lo ≤ D → w.heap[D]? = some (.deferred (some [])) → K (w.putObj D (.deferred none)))
    (hE : ∀ w, K w → LeavesInM F n P fn tmps R [] .returning w) : ∀ (ds : List Deferred) (hi : Nat) (w : World), Marks lo hi ds w → K w → LeavesInM F n P fn tmps R ds .returning w
  | [], _, w, _, hk => hE w hk
  | _ :: ds, _, w, ⟨D, e, h1, h2, h3, h4⟩, hk => by
    subst e
    refine ⟨by simp, .inl ⟨D, _, rfl, run_takeDeferred h3, ?_⟩⟩
    exact leaves_marks lo K hK hE ds D _ (h4.keep fun k _ hkD => World.putObj_heap_other (by omega)) (hK w D hk h1 h3)

/-- The sum of the pairs that have come. -/
def lsum (bs : List UInt8) : List Nat → Int := List.foldl (fun s x => s + wrd bs x) 0
theorem lsum_snoc (bs : List UInt8) (pre : List Nat) (x : Nat) : lsum bs (pre ++ [x]) = lsum bs pre + wrd bs x := by simp [lsum]
theorem lsum_range (bs : List UInt8) (k : Nat) : lsum bs (List.range k) = wsum bs k := by
  induction k with
  | zero => rfl
  | succ k ih => rw [List.range_succ, lsum_snoc, ih, wsum_succ]
theorem lsum_bd (bs : List UInt8) (pre : List Nat) : 0 ≤ lsum bs pre ∧ lsum bs pre ≤ 65535 * (pre.length : Int) := by
  suffices h : ∀ (pre : List Nat) (s : Int) (m : Int), 0 ≤ s → s ≤ 65535 * m → 0 ≤ List.foldl (fun s x => s + wrd bs x) s pre ∧ List.foldl (fun s x => s + wrd bs x) s pre ≤ 65535 * (m + (pre.length : Int)) by
    simpa [lsum] using h pre 0 0 (by omega) (by omega)
  intro pre
  induction pre with
  | nil => intro s m h0 h1; simpa using ⟨h0, h1⟩
  | cons x l ih =>
    intro s m h0 h1
    have hx := wrd_bd bs x
    have := ih (s + wrd bs x) (m + 1) (by omega) (by omega)
    rw [List.foldl_cons, List.length_cons]
    refine ⟨this.1, ?_⟩
    have h2 := this.2
    omega

/-- Is a sum right? A plain definition. -/
def rightB (ps : List (List UInt8)) : Bool := fold (psum ps) == 65535
/-- Change, said at once. -/
def chg (s : Int) (old now : List UInt8) : Int := if 0 ≤ s ∧ s ≤ 65535 then 65535 - fold (65535 - s + (65535 * (prs old.length : Int) - wall old) + wall now) else 0
theorem chg_no {s : Int} {old now : List UInt8} (h : ¬ (0 ≤ s ∧ s ≤ 65535)) : chg s old now = 0 := by rw [chg, if_neg h]

set_option maxRecDepth 100000 in
set_option maxHeartbeats 4000000 in
theorem change_any (A A' : Option Addr) (old now : List UInt8) (c c' B : Nat) (s : Int) (w : World) (h : Rd w B A old) (h' : Rd w B A' now) (hB : B ≤ w.heap.size) (hl : old.length ≤ 1099511627000) (hl' : now.length ≤ 1099511627000) :
    Calls Try.prog 109 #[.int .i64 s, .slice A old.length c, .slice A' now.length c'] w fun e w' => e = .returned (.int .i64 (chg s old now)) ∧ Below w.heap.size w w' := by
  refine (callsIn_wide (n := 4)).1 ?_
  refine callsIn_of_wp_marks Try.func109 rfl trivial ?_ rfl
  simp only [Try.ntmps109, List.size_toArray, List.length_cons, List.length_nil, Nat.reduceAdd, Nat.reduceSub, Array.replicate_succ, Array.replicate_zero, List.push_toArray, List.append_toArray, List.nil_append, List.cons_append]
  by_cases h0 : 0 ≤ s
  · by_cases h1 : s ≤ 65535
    · have hd : decide (65535 < s) = false := by simp; omega
      have hd0 : decide (s < 0) = false := by simp; omega
      have b0 := Boxed.new w 3 (.int .i64 (65535 - s))
      have hB0 : Below w.heap.size w (w.alloc (.cells #[.int .i64 (65535 - s)] 3)) := (Below.refl _ w).alloc (Nat.le_refl _) _
      have hs0 : (w.alloc (.cells #[.int .i64 (65535 - s)] 3)).heap.size = w.heap.size + 1 := by simp
      gi_wp2_with (refine ⟨trivial, ?_⟩; gi_at_call 118; refine (callsIn_wide.2 (words_any A old c B _ (h.below (hB0.mono hB)) (Nat.le_trans hB hB0.size) hl)).mono ?_; rintro e w2 ⟨Bs, rfl, hbW, hseq⟩)
      have hw2 := hbW.size
      have g0 := Boxed.below b0 hbW (by rw [hs0]; omega)
      have hB2 : Below w.heap.size w w2 := hB0.trans (hbW.mono hB0.size)
      rw [hs0] at hseq hw2
      have hpl : prs old.length ≤ old.length + 1 := by unfold prs; omega
      have hpl' : prs now.length ≤ now.length + 1 := by unfold prs; omega
      clear b0 hbW hB0 hs0
      refine wpIn_rangeFunc_ownG rfl (by omega) (gf := 123) (lb := #[.pointer (some ⟨Bs, 0, none⟩)]) rfl trivial (enters_of Try.func123 (by kernel_rfl) rfl)
        (hseq (4 - 1) (by omega)) Holds.trans (Holds.b (Nat.le_refl _)) (Below.refl _ _) (fun _ => rfl)
        (fun pre X => Boxed X w.heap.size 3 (.int .i64 (65535 - s + (65535 * (pre.length : Int) - lsum old pre))) ∧ Below w.heap.size w X)
        (fun _ _ _ => False)
        (fun pre X Y r hs hg hr => ⟨box_keep hs.1 hg hr, below_keep hs.2 hg hr (by omega) (Nat.le_refl _)⟩)
        (fun _ _ _ _ _ hs _ _ => hs)
        ⟨by simpa [lsum] using g0, hB2⟩
        (fun x => { tmps := #[.int .i64 s, .slice A old.length c, .slice A' now.length c', undef, undef, undef, .int .i64 0, .pointer (some ⟨w.heap.size, 0, none⟩), undef, .int .i64 (wrd old x), undef, undef, .int .i64 s, .bool false, .bool false, .int .i64 s, .bool false, .bool false, .int .i64 s, .int .i64 (65535 - s), .slice A old.length c, .func (.func 123) #[] #[.pointer (some ⟨Bs, 0, none⟩)], .int .i64 (dbl x), .int .i64 (wrd old x), undef, undef, undef, undef, undef, undef, undef, undef, undef, undef, undef, undef, undef, undef], defers := [] }) ?assign ?body ?done ?stop
      case assign =>
        intro l x X K hK
        dsimp only [encW]
        gi_wp2
        exact hK
      case body =>
        rintro l pre x X ⟨hbX, hBX⟩ hlt2
        have hx := wrd_bd old x
        have hls := lsum_bd old pre
        have hcX := hbX.cell
        have hfX := hbX.frozen
        have HSn := Lib.hid (lsum_snoc old pre x)
        have HLn := Lib.hid (show ((pre ++ [x]).length : Int) = (pre.length : Int) + 1 from by simp)
        generalize lsum old pre = T at *
        generalize wrd old x = y at *
        gi_wp2
        refine ⟨(KeepsOthers.setCell _ _ _).from _, Holds.setCell (.inl (by simp)) _, ?_, hBX.setCell (p := ⟨w.heap.size, 0, none⟩) (Nat.le_refl _) _⟩
        rw [HSn.out, HLn.out]
        have e : 65535 - s + (65535 * ((pre.length : Int) + 1) - (T + y)) = 65535 - s + (65535 * (pre.length : Int) - T) + (65535 - y) := by omega
        rw [e]
        exact Boxed.set _ hbX
      case done =>
        rintro D ys X hD rfl ⟨hbX, hBX⟩ hK
        rw [List.length_range, lsum_range] at hbX
        have hm1 : Marks (w.heap.size + 1) X.heap.size [{ target := .collected D, args := #[] }] X := (Marks.push (hi := D) (ds := []) trivial (Nat.le_refl _) (by omega) hK).more (heap_lt hK)
        have hblt := hbX.lt
        have hwo := wall_bd old
        have hwp : 0 ≤ 65535 * (prs old.length : Int) - wall old := by have := wsum_bd old (prs old.length); unfold wall; omega
        change Boxed X w.heap.size 3 (.int .i64 (65535 - s + (65535 * (prs old.length : Int) - wall old))) at hbX
        obtain ⟨V, hV⟩ : ∃ V, V = 65535 - s + (65535 * (prs old.length : Int) - wall old) := ⟨_, rfl⟩
        rw [← hV] at hbX
        have hV0 : 0 ≤ V := by omega
        have hV1 : V ≤ 65535 + 65535 * (prs old.length : Int) := by omega
        have HV := Lib.hid hV
        clear hV g0 hB2 hK hseq
        gi_wp2_with (refine ⟨trivial, ?_⟩; gi_at_call 118; refine (callsIn_wide.2 (words_any A' now c' B _ (h'.below (hBX.mono hB)) (Nat.le_trans hB hBX.size) hl')).mono ?_; rintro e w3 ⟨Bs2, rfl, hbW, hseq⟩)
        have hX3 := hbW.size
        have g0 := Boxed.below hbX hbW hblt
        have hm2 : Marks (w.heap.size + 1) X.heap.size [{ target := .collected D, args := #[] }] w3 := hm1.keep fun k _ h2 => hbW.block k h2
        have hB3 : Below w.heap.size w w3 := hBX.trans (hbW.mono hBX.size)
        refine wpIn_rangeFunc_ownG rfl (by omega) (gf := 123) (lb := #[.pointer (some ⟨Bs2, 0, none⟩)]) rfl trivial (enters_of Try.func123 (by kernel_rfl) rfl)
          (hseq (4 - 1) (by omega)) Holds.trans (Holds.b (Nat.le_refl _)) (Below.refl _ _) (fun _ => rfl)
          (fun pre Y => Marks (w.heap.size + 1) X.heap.size [{ target := .collected D, args := #[] }] Y ∧ Boxed Y w.heap.size 3 (.int .i64 (V + lsum now pre)) ∧ Below w.heap.size w Y)
          (fun _ _ _ => False)
          (fun pre Y Z r hs hg hr => ⟨hs.1.turn hg (fun k e => Nat.le_trans hX3 (hr k e).1), box_keep hs.2.1 hg hr, below_keep hs.2.2 hg hr (by omega) (Nat.le_refl _)⟩)
          (fun _ _ _ _ _ hs _ _ => hs)
          ⟨hm2, by simpa [lsum] using g0, hB3⟩
          (fun x => { tmps := #[.int .i64 s, .slice A old.length c, .slice A' now.length c', undef, undef, undef, .int .i64 0, .pointer (some ⟨w.heap.size, 0, none⟩), undef, undef, undef, .int .i64 (wrd now x), .int .i64 s, .bool false, .bool false, .int .i64 s, .bool false, .bool false, .int .i64 s, .int .i64 (65535 - s), .slice A old.length c, .func (.func 123) #[] #[.pointer (some ⟨Bs, 0, none⟩)], undef, undef, undef, undef, undef, undef, .slice A' now.length c', .func (.func 123) #[] #[.pointer (some ⟨Bs2, 0, none⟩)], .int .i64 (dbl x), .int .i64 (wrd now x), undef, undef, undef, undef, undef, undef], defers := [] }) ?assign2 ?body2 ?done2 ?stop2
        case assign2 =>
          intro l x Y K hK
          dsimp only [encW]
          gi_wp2
          exact hK
        case body2 =>
          rintro l pre x Y ⟨hmY, hbY, hBY⟩ hlt2
          have hx := wrd_bd now x
          have hls := lsum_bd now pre
          have hcY := hbY.cell
          have hfY := hbY.frozen
          have HSn := Lib.hid (lsum_snoc now pre x)
          generalize lsum now pre = T at *
          generalize wrd now x = y at *
          gi_wp2
          refine ⟨(KeepsOthers.setCell _ _ _).from _, Holds.setCell (.inl (by simpa using hblt)) _, hmY.keep (fun k h1 _ => Below.heap_setCell _ _ _ _ (by simp; omega)), ?_, hBY.setCell (p := ⟨w.heap.size, 0, none⟩) (Nat.le_refl _) _⟩
          rw [HSn.out, ← Int.add_assoc]
          exact Boxed.set _ hbY
        case done2 =>
          rintro D2 ys Y hD2 rfl ⟨hmY, hbY, hBY⟩ hK
          rw [lsum_range] at hbY
          change Boxed Y w.heap.size 3 (.int .i64 (V + wall now)) at hbY
          have hwn := wall_bd now
          have hcY := hbY.cell
          have hm3 := (hmY.push (Nat.le_trans hX3 hD2) (by omega) hK)
          have hfb := fold_bd (V + wall now)
          gi_wp2_with (refine ⟨trivial, ?_⟩; gi_at_call 119; refine (callsIn_wide.2 (fold_any _ _ (by omega))).mono ?_; rintro e w' ⟨rfl, rfl⟩)
          refine leaves_marks (w.heap.size + 1) (fun X => Below w.heap.size w X) (fun X D hX h1 h2 => hX.trans (belowK_b (w := w) (Nat.le_refl _) X D _ _ (by omega) h2 rfl rfl))
            (fun X hX => ⟨_, results_tmp rfl _ _ _, ?_, hX⟩) _ _ Y hm3 hBY
          rw [chg, if_pos ⟨h0, h1⟩, ← HV.out]
          rfl
        case stop2 =>
          rintro D c pre X _ _ h _
          exact h.elim
      case stop =>
        rintro D c pre X _ _ h _
        exact h.elim
    · rw [chg_no (by omega)]
      have hd : decide (65535 < s) = true := by simp; omega
      gi_wp2
      exact ⟨_, results_tmp rfl _ _ _, rfl, Below.refl _ _⟩
  · rw [chg_no (by omega)]
    have hd : decide (s < 0) = true := by simp; omega
    gi_wp2
    exact ⟨_, results_tmp rfl _ _ _, rfl, Below.refl _ _⟩
end Go.Proofs.Ytkgbjohadkbjaaa

/-
  A range over an iterator that hands over memory which it made in the round: what is known of an element comes with it. Conditions are each theorem's own.
-/
namespace Go.Proofs.Ytkgbjohadkbjaaa
open Go.RowKit Go.Shelf

/-- An iterator's promise: its elements come in order; of each, when it comes, G is known. -/
def SeqTold {α : Type} (m : Nat) (P : Program) (g : Nat) (lb : Array Value) (encs : α → Array Value) (G : List α → α → World → Prop) (Kp : World → World → Prop) (S Sp : List α → Prop) (w : World) : Prop :=
  ∀ (l : Nat) (J Jx : List α → World → Prop) (W : World), Below w.heap.size w W → AbidesFrom W.heap.size J → AbidesFrom W.heap.size Jx →
    (∀ pre x X, J pre X → G pre x X → YieldAt Fence.wide (m - 1) P l (encs x) X fun e Y =>
      (e = .returned (.bool true) ∧ J (pre ++ [x]) Y ∧ Kp X Y) ∨ (e = .returned (.bool false) ∧ Jx (pre ++ [x]) Y)) →
    J [] W →
    CallsIn Fence.wide m P g (#[.func (.yield l) #[] #[]] ++ lb) W fun e Y => (∃ v, e = .returned v) ∧ ((∃ xs, S xs ∧ J xs Y) ∨ (∃ pre, Sp pre ∧ Jx pre Y))
/-- The loop's record, in a state. -/
def recd (fn : FuncId) (a : Act) (ps : Array Tmp) (assign body : Code) (D : Nat) (st : LoopState) (pe : Option Code) : Loop := { state := st, pending := pe, fn := fn, tmps := a.tmps, params := ps, assign := assign, body := body, defers := D }
/-- The statement's two blocks: the rounds' deferred calls at D, the record behind it. -/
structure Two (W : World) (D : Nat) (r : Loop) : Prop where
  calls : W.heap[D]? = some (.deferred (some []))
  rec_ : W.heap[D + 1]? = some (.loop r)
section
variable {W V : World} {D : Nat} {r : Loop}
theorem Two.turn (h : Two W D r) (s : Loop) : Two (W.putObj (D + 1) (.loop s)) D s :=
  ⟨(World.putObj_heap_other (by omega)).trans h.calls, World.putObj_heap_same (heap_lt h.rec_)⟩
theorem Two.abides (h : Two W D r) {row : Option Nat} (hg : W.grownBy V row) (hr : ∀ k, row = some k → ∃ o : Obj, W.heap[k]? = some o ∧ o.isWalk = true) : Two V D r :=
  ⟨(grownBy_keeps hg hr h.calls rfl).trans h.calls, (grownBy_keeps hg hr h.rec_ rfl).trans h.rec_⟩
theorem Two.keeps (h : Two W D r) (hk : KeepsFrom D W V) : Two V D r := ⟨hk.same _ _ (Nat.le_refl _) h.calls rfl, hk.same _ _ (by omega) h.rec_ rfl⟩
theorem Two.first (w : World) (r : Loop) : Two ((w.alloc (.deferred (some []))).alloc (.loop r)) w.heap.size r := by
  refine ⟨(Below.heap_alloc _ _ _ (by simp)).trans (World.alloc_heap_new w _), ?_⟩
  have := World.alloc_heap_new (w.alloc (.deferred (some []))) (.loop r)
  rwa [World.size_alloc] at this
end
/-- How a round ends, said at once: by going on, or by a jump that waits. -/
theorem round_end {α : Type} {P : Program} {fn : FuncId} {a : Act} {ps : Array Tmp} {assign body : Code} {w X Y : World} {Kp : World → World → Prop} {I : List α → World → Prop} {Ix : Code → List α → World → Prop} {pre : List α}
    (hI : OwnFrom w.heap.size I) (hIx : ∀ c, OwnFrom w.heap.size (Ix c)) (hKt : ∀ {A B C : World}, Kp A B → Kp B C → Kp A C) (hKb : ∀ (W : World) (l : Nat) (r r' : Loop), w.heap.size ≤ l → W.heap[l]? = some (.loop r) → Kp W (W.putObj l (.loop r')))
    (X0 : World) (h0 : Kp X0 X) (hT : Two X w.heap.size (recd fn a ps assign body w.heap.size .busy none)) (e : Exit) (b : Act) (h : ownPostG w.heap.size Kp I Ix pre X e b Y) :
    roundPost P (w.heap.size + 1) (fun e Y => (e = .returned (.bool true) ∧ (I pre Y ∧ Two Y w.heap.size (recd fn a ps assign body w.heap.size .ready none)) ∧ Kp X0 Y) ∨
      (e = .returned (.bool false) ∧ ∃ c, Ix c pre Y ∧ Two Y w.heap.size (recd fn a ps assign body w.heap.size .done (some c)))) e b Y := by
  have jump : ∀ c, KeepsFrom w.heap.size X Y ∧ Ix c pre Y → ∃ v Z, (Instr.endRound (w.heap.size + 1) (some c)).run P Y = .ok v Z ∧
      ((Ending.returned v = .returned (.bool true) ∧ (I pre Z ∧ Two Z w.heap.size (recd fn a ps assign body w.heap.size .ready none)) ∧ Kp X0 Z) ∨
      (Ending.returned v = .returned (.bool false) ∧ ∃ c, Ix c pre Z ∧ Two Z w.heap.size (recd fn a ps assign body w.heap.size .done (some c)))) := fun c hp => by
    have ht := hT.keeps hp.1
    exact ⟨_, _, run_endRound (some c) ht.rec_, .inr ⟨rfl, c, (hIx c).putObj _ hp.2 (by omega) ht.rec_ rfl, ht.turn _⟩⟩
  cases e with
  | normal =>
    have ht := hT.keeps h.1
    exact ⟨_, _, run_endRound none ht.rec_, .inl ⟨rfl, ⟨hI.putObj _ h.2.2 (by omega) ht.rec_ rfl, ht.turn _⟩, hKt (hKt h0 h.2.1) (hKb _ _ _ _ (by omega) ht.rec_)⟩⟩
  | ret => exact jump .ret h
  | exit id => exact jump (.exit id) h
  | goto t => exact jump (.goto t) h
  | panic c => exact h.elim
  | outgrown => exact h.elim
theorem range_told {α : Type} {n : Nat} {P : Program} {g : Operand} {ps : Array Tmp} {assign body : Code} {Q : Exit → Act → World → Prop} {a : Act} {w : World} (h1 : 1 ≤ n)
    {gf : Nat} {lb : Array Value} (hg : a.eval g = .func (.func gf) #[] lb) (eg : ∀ args w, (callFunc gf args).run P w = .ok (.enter gf args) w)
    {encs : α → Array Value} {G : List α → α → World → Prop} {Kp : World → World → Prop} {S Sp : List α → Prop} {w0 : World} (hseq : SeqTold (n - 1) P gf lb encs G Kp S Sp w0)
    (hKt : ∀ {A B C : World}, Kp A B → Kp B C → Kp A C) (hKb : ∀ (W : World) (l : Nat) (r r' : Loop), w.heap.size ≤ l → W.heap[l]? = some (.loop r) → Kp W (W.putObj l (.loop r')))
    (hb0 : Below w0.heap.size w0 w) (hps : ∀ x, (encs x).size = ps.size)
    (hG : ∀ (pre : List α) (x : α) (W : World) (l : Nat) (r r' : Loop), G pre x W → w.heap.size ≤ l → W.heap[l]? = some (.loop r) → G pre x (W.putObj l (.loop r')))
    (I : List α → World → Prop) (Ix : Code → List α → World → Prop) (hI : OwnFrom w.heap.size I) (hIx : ∀ c, OwnFrom w.heap.size (Ix c)) (h0 : I [] w) (a₁ : α → Act)
    (hassign : ∀ (l : Nat) (x : α) (W : World) (K : Act → World → Prop), K (a₁ x) W →
      assign.wpIn (Fence.wide.inRound l) (n - 1 - 1) P (Exit.then K (fun _ _ _ => False)) { tmps := (ps.zip (encs x)).foldl (fun t (p, v) => t.setIfInBounds p v) a.tmps, defers := [] } W)
    (hbody : ∀ (l : Nat) (pre : List α) (x : α) (W : World), I pre W → G pre x W → body.wpIn (Fence.wide.inRound l) (n - 1 - 1) P (ownPostG w.heap.size Kp I Ix (pre ++ [x]) W) (a₁ x) W)
    (hdone : ∀ (D : Nat) (xs : List α) (W : World), w.heap.size ≤ D → S xs → I xs W → W.heap[D]? = some (.deferred (some [])) → Q .normal { a with defers := { target := .collected D, args := #[] } :: a.defers } W)
    (hstop : ∀ (D : Nat) (c : Code) (pre : List α) (W : World), w.heap.size ≤ D → Sp pre → Ix c pre W → W.heap[D]? = some (.deferred (some [])) → c.wpIn Fence.wide n P Q { a with defers := { target := .collected D, args := #[] } :: a.defers } W) :
    (Code.rangeFunc g ps assign body).wpIn Fence.wide n P Q a w := by
  refine wpIn_rangeFunc fun fn _ => ?_
  have t1 := Two.first w (recd fn a ps assign body w.heap.size .ready none)
  have b1 : Below w0.heap.size w0 ((w.alloc (.deferred (some []))).alloc (.loop (recd fn a ps assign body w.heap.size .ready none))) := (hb0.alloc hb0.size _).alloc (by have := hb0.size; simp; omega) _
  have i1 : I [] ((w.alloc (.deferred (some []))).alloc (.loop (recd fn a ps assign body w.heap.size .ready none))) := hI.alloc _ (hI.alloc _ h0)
  have z1 : w.heap.size ≤ ((w.alloc (.deferred (some []))).alloc (.loop (recd fn a ps assign body w.heap.size .ready none))).heap.size := by simp; omega
  obtain ⟨W1, hW1⟩ : ∃ W1, W1 = (w.alloc (.deferred (some []))).alloc (.loop (recd fn a ps assign body w.heap.size .ready none)) := ⟨_, rfl⟩
  rw [← hW1] at t1 b1 i1 z1
  refine ⟨w.heap.size + 1, [{ target := .collected w.heap.size, args := #[] }], W1, { target := .fn (.func gf) lb, args := #[.func (.yield (w.heap.size + 1)) #[] #[]] }, W1, gf, #[.func (.yield (w.heap.size + 1)) #[] #[]] ++ lb, W1,
    ?_, ?_, fun _ _ => trivial, ?_, fun _ => h1, ?_⟩
  · rw [hW1]; exact run_enterLoop_outer fn a.tmps ps assign body
  · simp only [resolve, hg]; simp [go_sem]
  · simp [invoke, go_sem, eg]
  · refine (hseq (w.heap.size + 1) (fun pre W => I pre W ∧ Two W w.heap.size (recd fn a ps assign body w.heap.size .ready none))
      (fun pre W => ∃ c, Ix c pre W ∧ Two W w.heap.size (recd fn a ps assign body w.heap.size .done (some c))) _ b1 ?_ ?_ ?_ ⟨i1, t1⟩).mono ?_
    · rintro s A B row ⟨hi, ht⟩ hgr hr
      exact ⟨hI s A B row hi hgr fun r e => by obtain ⟨hB, o, ho, hw⟩ := hr r e; exact ⟨by omega, o, ho, Obj.not_cells_of_walk hw⟩, ht.abides hgr fun r e => (hr r e).2⟩
    · rintro s A B row ⟨c, hi, ht⟩ hgr hr
      exact ⟨c, hIx c s A B row hi hgr fun r e => by obtain ⟨hB, o, ho, hw⟩ := hr r e; exact ⟨by omega, o, ho, Obj.not_cells_of_walk hw⟩, ht.abides hgr fun r e => (hr r e).2⟩
    · rintro pre x X ⟨hi, ht⟩ hgx
      refine ⟨fn, _, assign, body, run_yield ht.rec_ (hps x), roundIn_of_wpIn trivial (hassign _ x X _ ⟨_, run_beginRound ht.rec_ rfl, ?_⟩)⟩
      have hbu := ht.turn (recd fn a ps assign body w.heap.size .busy none)
      exact wpIn_mono (hbody _ pre x _ (hI.putObj _ hi (by omega) ht.rec_ rfl) (hG pre x X _ _ _ hgx (by omega) ht.rec_))
        (fun e b Y hp => by
          have hk0 : Kp X (X.putObj (w.heap.size + 1) (.loop (recd fn a ps assign body w.heap.size .busy none))) := hKb _ _ _ _ (by omega) ht.rec_
          exact round_end (P := P) (pre := pre ++ [x]) (Kp := Kp) (I := I) (Ix := Ix) hI hIx hKt hKb X hk0 hbu e b hp)
    · rintro e Y ⟨⟨v, rfl⟩, ⟨xs, hs, hi, ht⟩ | ⟨pre, hs, c, hi, ht⟩⟩
      · exact ⟨none, _, run_endLoop ht.rec_ (by simp [recd]), hdone _ xs _ (Nat.le_refl _) hs (hI.putObj _ hi (by omega) ht.rec_ rfl) (ht.turn _).calls⟩
      · exact ⟨some c, _, run_endLoop ht.rec_ (by simp [recd]), hstop _ c pre _ (Nat.le_refl _) hs ((hIx c).putObj _ hi (by omega) ht.rec_ rfl) (ht.turn _).calls⟩
end Go.Proofs.Ytkgbjohadkbjaaa
