/-
  Contracts of be's functions that make memory: roomy, digits and its iterator, write, Put, Set, Words and its iterator. Conditions are each theorem's own.
-/
import Derived.Test.YtcfcmnhnijjehaaBeA
import Derived.RangeFuncNested
import Derived.RangeFuncBound
import Derived.RangeFuncCalls
import Derived.RangeFuncLeaves
import Derived.Shelf.Abstract
import Derived.Shelf.RegionOpen
import Derived.OwnWalkIn
import Derived.TacticsInMore
import Derived.LoopNIn
import Derived.LoopIn
namespace Go.Proofs.Ytcfcmnhnijjehaa
open Go.RowKit Go.Shelf
attribute [local go_sem] Oper.semAt_some

theorem info_u8 : (Try.prog.info? 5).map (fun i => (i.zero, i.size, i.bytes)) = some (some (.int .u8 0), 1, 1) := by kernel_rfl
theorem size_u8 : (Try.prog.info? 5).map (·.size) = some 1 := by kernel_rfl
theorem made_rep (z : Value) (n : Nat) : madeCells #[z] n = (List.replicate n z).toArray := by
  apply Array.ext'; rw [toList_madeCells_one]

/-- bytes, and noughts behind them up to n. -/
def pad (bs : List UInt8) (n : Nat) : List UInt8 := bs ++ List.replicate (n - bs.length) 0
theorem pad_length {bs : List UInt8} {n : Nat} (h : bs.length ≤ n) : (pad bs n).length = n := by simp [pad]; omega
theorem row_pad (bs : List UInt8) (n : Nat) : splice (List.replicate n (.int .u8 0)) 0 (row bs) = row (pad bs n) := by
  simp [splice, row, pad]


theorem roomy_src {w : World} {B : Nat} {A : Option Addr} {bs : List UInt8} (h : Rd w B A bs) (hB : B ≤ w.heap.size) (o : Obj) (hp : 0 < (row bs).length) :
    some (⟨w.heap.size, 0, none⟩ : Addr) = some ⟨w.heap.size, 0, none⟩ ∧ ∃ ad, A = some ad ∧ ∀ j v, (row bs)[j]? = some v → (w.alloc o).cell? (ad.add j) = some v := by
  rw [row_length] at hp
  obtain ⟨b, off, rfl, hb, hc⟩ := (h.alloc hB o) hp
  refine ⟨rfl, _, rfl, fun j v hv => ?_⟩
  have hj : j < bs.length := by have := (List.getElem?_eq_some_iff.1 hv).1; rwa [row_length] at this
  rw [row_getD bs hj hv]
  rw [add_off]; exact hc j hj

set_option maxHeartbeats 400000 in
/-- roomy: new memory of n bytes, bs ahead, 0 behind. -/
theorem roomy_any (A : Option Addr) (bs : List UInt8) (c B n : Nat) (w : World) (h : Rd w B A bs) (hB : B ≤ w.heap.size) (hl : bs.length ≤ n) (hn : n ≤ 1099511627776) :
    Calls Try.prog 86 #[.slice A bs.length c, .int .i64 (n : Int)] w
      fun e w' => e = .returned (.slice (some ⟨w.heap.size, 0, none⟩) n n) ∧ w'.heap[w.heap.size]? = some (.cells (row (pad bs n)).toArray 5 (0, 0)) ∧ Below w.heap.size w w' := by
  have hmk : ∀ W : World, (Instr.makeSlice 22 (.int .i64 (n : Int)) (.int .i64 (n : Int))).run Try.prog W = .ok (.slice (some ⟨W.heap.size, 0, none⟩) n n) (W.alloc (.cells (List.replicate n (.int .u8 0)).toArray 5)) := fun W => by
    rw [← made_rep]; exact run_make_row' 22 5 (.int .u8 0) 1 Try.underlying22 info_u8 rfl .i64 .i64 n (by omega) (by omega) W
  have HR := Lib.hid (row_pad bs n)
  have Hrow := Lib.hid (row_length bs)
  go_enter Try.func86, Try.ntmps86
  go_wp2_with (refine wpList_copy_splice rfl (.tmp 8) (.tmp 9) 22 22 rfl 5 Try.underlying22 size_u8 _ _ _ _ _ _ rfl rfl w.heap.size 0 (List.replicate n (.int .u8 0)) 5 (World.alloc_heap_new _ _) (row bs) (by rw [Hrow.out]; exact (Nat.min_eq_left hl).symm) (roomy_src h hB _) (by rw [Hrow.out]; simp; omega) (row_one bs) w.heap.size w ((Below.refl _ w).alloc (Nat.le_refl _) _) (Nat.le_refl _) ?_; intro w2 HG2 hB2)
  go_ret
  exact ⟨rfl, by rw [← HR.out]; exact HG2.out, hB2⟩

/-! ### What a round keeps -/

/-- The blocks from lo on and below hi lie as they lay. -/
def Holds (lo hi : Nat) (W W' : World) : Prop := W.heap.size ≤ W'.heap.size ∧ ∀ k, lo ≤ k → k < hi → W'.heap[k]? = W.heap[k]?
theorem Holds.refl (lo hi : Nat) (W : World) : Holds lo hi W W := ⟨Nat.le_refl _, fun _ _ _ => rfl⟩
theorem Holds.trans {lo hi : Nat} {A B C : World} (h : Holds lo hi A B) (k : Holds lo hi B C) : Holds lo hi A C :=
  ⟨Nat.le_trans h.1 k.1, fun i h1 h2 => (k.2 i h1 h2).trans (h.2 i h1 h2)⟩
theorem Holds.b {lo hi : Nat} {w : World} (hh : hi ≤ w.heap.size) (W : World) (l : Nat) (o o' : Obj) (hl : w.heap.size ≤ l) (_ : W.heap[l]? = some o) (_ : o.isCells = false) (_ : o.isWalk = false) : Holds lo hi W (W.putObj l o') :=
  ⟨by simp, fun k _ h2 => World.putObj_heap_other (by omega)⟩
theorem Holds.setCell {lo hi : Nat} {W : World} {p : Addr} (hp : p.block < lo ∨ hi ≤ p.block) (v : Value) : Holds lo hi W (W.setCell p v) :=
  ⟨by simp [World.setCell], fun k h1 h2 => Below.heap_setCell W p v k (by omega)⟩
theorem Holds.of_below {lo hi B : Nat} {W W' : World} (h : Below B W W') (hB : hi ≤ B) : Holds lo hi W W' := ⟨h.size, fun k _ h2 => h.block k (by omega)⟩
theorem Holds.cell {lo hi : Nat} {W W' : World} (h : Holds lo hi W W') {p : Addr} (h1 : lo ≤ p.block) (h2 : p.block < hi) : W'.cell? p = W.cell? p := World.cell?_of_block (w := W) (h.2 p.block h1 h2)
theorem Holds.rd {lo hi : Nat} {W W' : World} (h : Holds lo hi W W') {b off n : Nat} {bs : List UInt8} (h1 : lo ≤ b) (h2 : b < hi)
    (hc : ∀ j, j < n → W.cell? ⟨b, off + j, none⟩ = some (.int .u8 (byt bs j))) : ∀ j, j < n → W'.cell? ⟨b, off + j, none⟩ = some (.int .u8 (byt bs j)) :=
  fun j hj => (h.cell (p := ⟨b, off + j, none⟩) h1 h2).trans (hc j hj)

/-! ### digits -/

/-- The byte at place i of n in s bytes. -/
def dig (n : Int) (s i : Nat) : UInt8 := UInt8.ofNat (n / pw (s - 1 - i)).toNat
theorem dig_val {n : Int} (h : 0 ≤ n) (s i : Nat) : ((dig n s i).toNat : Int) = n / pw (s - 1 - i) % 256 := by
  have h1 : 0 ≤ n / pw (s - 1 - i) := Int.ediv_nonneg h (by have := pw_pos (s - 1 - i); omega)
  simp only [dig, UInt8.toNat_ofNat']
  omega
def digs (n : Int) (s : Nat) : List UInt8 := (List.range s).map (dig n s)
theorem digs_length (n : Int) (s : Nat) : (digs n s).length = s := by simp [digs]

/-- The places of s, the first k. -/
def ups (s k : Nat) : List { i : Nat // i < s } := (List.range k).filterMap fun i => if h : i < s then some ⟨i, h⟩ else none
theorem ups_succ {s k : Nat} (h : k < s) : ups s (k + 1) = ups s k ++ [⟨k, h⟩] := by
  simp [ups, List.range_succ, List.filterMap_append, h]
theorem ups_length {s k : Nat} (h : k ≤ s) : (ups s k).length = k := by
  induction k with
  | zero => simp [ups]
  | succ k ih => rw [ups_succ (by omega)]; simp [ih (by omega)]

/-- What yield is handed. -/
def encD (n : Int) (s : Nat) (x : { i : Nat // i < s }) : Array Value := #[.int .i64 (x.1 : Int), .int .u8 ((dig n s x.1).toNat : Int)]

theorem digits_any (n : Int) (s : Nat) (w : World) :
    Calls Try.prog 94 #[.int .i64 n, .int .i64 (s : Int)] w
      fun e w' => e = .returned (.func (.func 96) #[] #[.pointer (some ⟨w.heap.size + 1, 0, none⟩), .pointer (some ⟨w.heap.size, 0, none⟩)]) ∧
        w' = (w.alloc (.cells #[.int .i64 n] 3)).alloc (.cells #[.int .i64 (s : Int)] 3) := by
  go_enter Try.func94, Try.ntmps94
  go_wp2
  go_ret
  exact ⟨rfl, rfl⟩

theorem shift_dig {n : Int} (h : 0 ≤ n) {s i : Nat} (hi : i < s) (h4 : s ≤ 4) :
    ((dig n s i).toNat : Int) = n / 2 ^ (8 * (s - 1 - i)) % 256 := by
  rw [dig_val h]
  obtain ⟨m, hm⟩ : ∃ m, m = s - 1 - i := ⟨_, rfl⟩
  rw [← hm]
  have h4 : m = 0 ∨ m = 1 ∨ m = 2 ∨ m = 3 := by omega
  rcases h4 with rfl | rfl | rfl | rfl <;> simp [pw]

set_option maxRecDepth 100000 in
set_option maxHeartbeats 2000000 in
theorem digits1_in (m : Nat) (hm : 1 ≤ m) (l lo : Nat) (n : Int) (s : Nat) (h0 : 0 ≤ n) (h4 : s ≤ 4) (J Jx : List { i : Nat // i < s } → World → Prop)
    (hY : ∀ pre x W, J pre W → pre.length < s → YieldAt Fence.wide (m - 1) Try.prog l (encD n s x) W fun e W' =>
      (e = .returned (.bool true) ∧ J (pre ++ [x]) W' ∧ Holds lo (lo + 2) W W') ∨ (e = .returned (.bool false) ∧ Jx (pre ++ [x]) W'))
    (W : World) (hn : W.cell? ⟨lo, 0, none⟩ = some (.int .i64 n)) (hs : W.cell? ⟨lo + 1, 0, none⟩ = some (.int .i64 (s : Int))) (hJ : J [] W) :
    CallsIn Fence.wide m Try.prog 96 #[.func (.yield l) #[] #[], .pointer (some ⟨lo + 1, 0, none⟩), .pointer (some ⟨lo, 0, none⟩)] W fun e W' => (∃ v, e = .returned v) ∧
      ((∃ ys, ys = ups s s ∧ J ys W') ∨ (∃ pre, (∃ k, k ≤ s ∧ pre = ups s k) ∧ Jx pre W')) := by
  refine callsIn_of_wp Try.func96 rfl trivial ?_ rfl
  simp only [Try.ntmps96, List.size_toArray, List.length_cons, List.length_nil, Nat.reduceAdd, Nat.reduceSub, Array.replicate_succ, Array.replicate_zero, List.push_toArray, List.append_toArray, List.nil_append, List.cons_append]
  gi_wp2
  gi_loopw [6] (fun i wr => ∃ k : Nat, k ≤ s ∧ i = .int .i64 k ∧ J (ups s k) wr ∧ Holds lo (lo + 2) W wr)
    (fun i _ => s - (intOf i).toNat)
  case atStart => exact ⟨0, Nat.zero_le _, rfl, hJ, Holds.refl _ _ _⟩
  case round =>
    obtain ⟨k, hk, rfl, hJs, hH⟩ := hrel
    by_cases hlt : k < s
    · have hn' := (hH.cell (p := ⟨lo, 0, none⟩) (by simp) (by simp)).trans hn
      have hs' := (hH.cell (p := ⟨lo + 1, 0, none⟩) (by simp) (by simp)).trans hs
      obtain ⟨fn, tmps, assign, body, hy, hR⟩ := hY _ ⟨k, hlt⟩ wr hJs (by rw [ups_length (by omega)]; exact hlt)
      dsimp only [encD] at hy
      rw [shift_dig h0 hlt h4] at hy
      gi_wp2
      refine hR.mono ?_
      rintro e W3 (⟨rfl, hJ3, hk3⟩ | ⟨rfl, hJx3⟩)
      · gi_wp2
        go_roundw
        case rel => exact ⟨k + 1, by omega, by simp, by rw [ups_succ hlt]; exact hJ3, hH.trans hk3⟩
        case measure => simp [intOf]; omega
      · gi_wp2
        refine bodyPost_ret (results_none rfl _ _ _) rfl ?_
        exact ⟨⟨_, rfl⟩, .inr ⟨_, ⟨k + 1, by omega, (ups_succ hlt).symm⟩, hJx3⟩⟩
    · obtain rfl : k = s := by omega
      gi_wp2
      go_end0
      exact ⟨⟨_, rfl⟩, .inl ⟨_, rfl, hJs⟩⟩

/-- digits hands back an iterator that tells the places of s, and the bytes; a round must keep the two captured cells. -/
theorem digits_stops (m : Nat) (hm : 1 ≤ m) (lo : Nat) (n : Int) (s : Nat) (h0 : 0 ≤ n) (h4 : s ≤ 4) (w : World) (hlo : lo + 2 ≤ w.heap.size)
    (hn : w.cell? ⟨lo, 0, none⟩ = some (.int .i64 n)) (hs : w.cell? ⟨lo + 1, 0, none⟩ = some (.int .i64 (s : Int))) :
    SeqStopsK Fence.wide m Try.prog 96 #[.pointer (some ⟨lo + 1, 0, none⟩), .pointer (some ⟨lo, 0, none⟩)] (encD n s) (Holds lo (lo + 2))
      (fun ys => ys = ups s s) (fun pre => ∃ k, k ≤ s ∧ pre = ups s k) s w := fun l J Jx W hW _ _ hY hJ =>
  digits1_in m hm l lo n s h0 h4 J Jx hY W ((hW.cell (p := ⟨lo, 0, none⟩) (by simp; omega)).trans hn) ((hW.cell (p := ⟨lo + 1, 0, none⟩) (by simp; omega)).trans hs) hJ

/-! ### write -/

/-- What the cells are when the places of pre are written. -/
def setD (bs : List UInt8) (off : Nat) (n : Int) (s : Nat) (pre : List { i : Nat // i < s }) : List UInt8 := pre.foldl (fun l x => l.set (off + x.1) (dig n s x.1)) bs
theorem setD_snoc (bs : List UInt8) (off : Nat) (n : Int) (s : Nat) (pre : List { i : Nat // i < s }) (x : { i : Nat // i < s }) :
    setD bs off n s (pre ++ [x]) = (setD bs off n s pre).set (off + x.1) (dig n s x.1) := by simp [setD]
theorem setD_length (bs : List UInt8) (off : Nat) (n : Int) (s : Nat) (pre : List { i : Nat // i < s }) : (setD bs off n s pre).length = bs.length := by
  unfold setD
  induction pre generalizing bs with
  | nil => rfl
  | cons x l ih => rw [List.foldl_cons, ih, List.length_set]
theorem splice_set {α : Type} (bs ds : List α) (off : Nat) (x : α) (h : off + ds.length < bs.length) : (splice bs off ds).set (off + ds.length) x = splice bs off (ds ++ [x]) := by
  apply List.ext_getElem?
  intro i
  simp only [splice, List.getElem?_set, List.getElem?_append, List.length_take, List.length_append, List.length_drop, List.getElem?_drop, List.getElem?_take, List.length_cons, List.length_nil]
  by_cases h1 : i < off
  · have e : ¬ off + ds.length = i := by omega
    have e1 : i < min off bs.length := by omega
    simp [e, e1]
  · by_cases h2 : i < off + ds.length
    · have e : ¬ off + ds.length = i := by omega
      have e1 : ¬ i < min off bs.length := by omega
      have e2 : i - min off bs.length < ds.length := by omega
      have e3 : i - min off bs.length < ds.length + 1 := by omega
      simp [e, e1, e2, e3]
    · by_cases h3 : i = off + ds.length
      · subst h3
        have e1 : ¬ off + ds.length < min off bs.length := by omega
        have e2 : ¬ off + ds.length - min off bs.length < ds.length := by omega
        have e3 : off + ds.length - min off bs.length < ds.length + 1 := by omega
        have e4 : off + ds.length - min off bs.length - ds.length = 0 := by omega
        simp [e1, e2, e3, e4]
        omega
      · have e : ¬ off + ds.length = i := by omega
        have e1 : ¬ i < min off bs.length := by omega
        have e2 : ¬ i - min off bs.length < ds.length := by omega
        have e3 : ¬ i - min off bs.length < ds.length + 1 := by omega
        simp [e, e1, e2, e3]
        congr 1
        omega
theorem setD_ups (bs : List UInt8) (off : Nat) (n : Int) (s k : Nat) (hk : k ≤ s) (h : off + s ≤ bs.length) : setD bs off n s (ups s k) = splice bs off ((List.range k).map (dig n s)) := by
  induction k with
  | zero => simp [ups, setD, splice]
  | succ k ih =>
    rw [ups_succ (by omega), setD_snoc, ih (by omega), List.range_succ, List.map_append, List.map_singleton]
    have hl : ((List.range k).map (dig n s)).length = k := by simp
    have := splice_set bs ((List.range k).map (dig n s)) off (dig n s k) (by rw [hl]; omega)
    rw [hl] at this
    exact this
theorem setD_all (bs : List UInt8) (off : Nat) (n : Int) (s : Nat) (h : off + s ≤ bs.length) : setD bs off n s (ups s s) = splice bs off (digs n s) := setD_ups bs off n s s (Nat.le_refl _) h
theorem row_set (bs : List UInt8) (i : Nat) (x : UInt8) : (row bs).toArray.setIfInBounds i (.int .u8 (x.toNat : Int)) = (row (bs.set i x)).toArray := by
  simp [row, List.map_set]

theorem heap_set {W : World} {g t : Nat} {cs : Array Value} (h : W.heap[g]? = some (.cells cs t (0, 0))) (i : Nat) (v : Value) :
    (W.setCell ⟨g, i, none⟩ v).heap[g]? = some (.cells (cs.setIfInBounds i v) t (0, 0)) := by
  simp [World.setCell, Array.getElem?_modify, h]
theorem heap_frozen {W : World} {g t : Nat} {cs : Array Value} (h : W.heap[g]? = some (.cells cs t (0, 0))) (i : Nat) : W.frozen? ⟨g, i, none⟩ = false := by
  simp [World.frozen?, h]
theorem heap_lt {W : World} {g : Nat} {o : Obj} (h : W.heap[g]? = some o) : g < W.heap.size := (Array.getElem?_eq_some_iff.1 h).1
theorem row_cell {W : World} {g t : Nat} {bs : List UInt8} (h : W.heap[g]? = some (.cells (row bs).toArray t (0, 0))) {i : Nat} (hi : i < bs.length) :
    W.cell? ⟨g, i, none⟩ = some (.int .u8 (byt bs i)) := by
  rw [cell_of_row W g i _ t (0, 0) h]
  simpa using row_get bs hi
/-- Only block g, and what is new, has turned. -/
theorem grown_then {a w w' : World} {g B : Nat} {r : Option Nat} (h : a.grownBy w (some g)) (hg : w.grownBy w' r) (hB : a.heap.size ≤ B) (hr : ∀ k, r = some k → B ≤ k) : a.grownBy w' (some g) :=
  ⟨hg.os.trans h.os, hg.tape.trans h.tape, hg.output.trans h.output, Nat.le_trans h.size hg.size, fun i hi hne => (hg.block i (Nat.lt_of_lt_of_le hi h.size) (fun e => by have := hr i e.symm; omega)).trans (h.block i hi hne)⟩
theorem grown_set {a w : World} {g : Nat} (h : a.grownBy w (some g)) (i : Nat) (v : Value) : a.grownBy (w.setCell ⟨g, i, none⟩ v) (some g) :=
  ⟨h.os, h.tape, h.output, by simpa [World.setCell] using h.size, fun k hk hne => (Below.heap_setCell w ⟨g, i, none⟩ v k (fun e => hne (by rw [e]))).trans (h.block k hk hne)⟩
theorem grown_below {a w : World} {g : Nat} (h : Below a.heap.size a w) : a.grownBy w (some g) := ⟨h.os, h.tape, h.output, h.size, fun i hi _ => h.block i hi⟩

set_option maxRecDepth 100000 in
set_option maxHeartbeats 2000000 in
/-- write: the bytes of n come into the field's place; nothing else turns. -/
theorem write_any (g off s c : Nat) (cur : List UInt8) (n : Int) (w : World) (hg : w.heap[g]? = some (.cells (row cur).toArray 5 (0, 0))) (h4 : s ≤ 4) (hoff : off + s ≤ cur.length) (h0 : 0 ≤ n) :
    Calls Try.prog 87 #[.slice (some ⟨g, off, none⟩) s c, .int .i64 n] w
      fun e w' => (∃ v, e = .returned v) ∧ w'.heap[g]? = some (.cells (row (splice cur off (digs n s))).toArray 5 (0, 0)) ∧ w.grownBy w' (some g) := by
  have hgl := heap_lt hg
  refine (callsIn_wide (n := 4)).1 ?_
  refine callsIn_of_wp_marks Try.func87 rfl trivial ?_ rfl
  simp only [Try.ntmps87, List.size_toArray, List.length_cons, List.length_nil, Nat.reduceAdd, Nat.reduceSub, Array.replicate_succ, Array.replicate_zero, List.push_toArray, List.append_toArray, List.nil_append, List.cons_append]
  gi_wp2_with (refine ⟨trivial, ?_⟩; gi_at_call 94; refine (callsIn_wide.2 (digits_any _ _ _)).mono ?_; rintro e w' ⟨rfl, rfl⟩)
  obtain ⟨W0, hW0⟩ : ∃ W0, ((w.alloc (.cells #[.slice (some ⟨g, off, none⟩) s c] 22)).alloc (.cells #[.int .i64 n] 3)).alloc (.cells #[.int .i64 (s : Int)] 3) = W0 := ⟨_, rfl⟩
  have b0 := ((Boxed.new w 22 (.slice (some ⟨g, off, none⟩) s c)).alloc (.cells #[.int .i64 n] 3)).alloc (.cells #[.int .i64 (s : Int)] 3)
  have b1 := (Boxed.new (w.alloc (.cells #[.slice (some ⟨g, off, none⟩) s c] 22)) 3 (.int .i64 n)).alloc (.cells #[.int .i64 (s : Int)] 3)
  have b2 := Boxed.new ((w.alloc (.cells #[.slice (some ⟨g, off, none⟩) s c] 22)).alloc (.cells #[.int .i64 n] 3)) 3 (.int .i64 (s : Int))
  have hB : Below w.heap.size w W0 := by rw [← hW0]; exact ((((Below.refl _ w).alloc (Nat.le_refl _) _).alloc (by simp) _).alloc (by simp; omega) _)
  have hsz : W0.heap.size = w.heap.size + 3 := by rw [← hW0]; simp
  simp only [World.size_alloc] at b1 b2 ⊢
  rw [hW0] at b0 b1 b2 ⊢
  have hg0 : W0.heap[g]? = some (.cells (row cur).toArray 5 (0, 0)) := (hB.block g hgl).trans hg
  refine wpIn_rangeFunc_ownG rfl (by omega) (gf := 96) (lb := #[.pointer (some ⟨w.heap.size + 1 + 1, 0, none⟩), .pointer (some ⟨w.heap.size + 1, 0, none⟩)]) rfl trivial (enters_of Try.func96 (by kernel_rfl) rfl)
    (digits_stops (4 - 1) (by omega) (w.heap.size + 1) n s h0 h4 W0 (by omega) b1.cell b2.cell) Holds.trans (Holds.b (by omega)) (Below.refl _ _) (fun _ => rfl)
    (fun pre W => Boxed W w.heap.size 22 (.slice (some ⟨g, off, none⟩) s c) ∧ W.heap[g]? = some (.cells (row (setD cur off n s pre)).toArray 5 (0, 0)) ∧ w.grownBy W (some g))
    (fun _ _ _ => False)
    (fun pre X Y r hs hgr hr => ⟨Own.from (boxed_own (β := Unit) w.heap.size 22 (fun _ => .slice (some ⟨g, off, none⟩) s c)) W0.heap.size () X Y r hs.1 hgr hr,
      (grownBy_keeps_cells hgr (fun r' e => (hr r' e).2) hs.2.1 rfl).trans hs.2.1, grown_then hs.2.2 hgr (by omega) (fun k e => (hr k e).1)⟩)
    (fun _ _ _ _ _ hs _ _ => hs)
    ⟨b0, hg0, grown_below hB⟩
    (fun x => { tmps := #[.slice (some ⟨g, off, none⟩) s c, .int .i64 n, .pointer (some ⟨w.heap.size, 0, none⟩), undef, .int .i64 (x.1 : Int), .int .u8 ((dig n s x.1).toNat : Int), .int .i64 n, .slice (some ⟨g, off, none⟩) s c, .int .i64 (s : Int), .func (.func 96) #[] #[.pointer (some ⟨w.heap.size + 1 + 1, 0, none⟩), .pointer (some ⟨w.heap.size + 1, 0, none⟩)], .int .i64 (x.1 : Int), .int .u8 ((dig n s x.1).toNat : Int), undef, undef, undef, undef], defers := [] }) ?assign ?body ?done ?stop
  case assign =>
    intro l x W K hK
    dsimp only [encD]
    gi_wp2
    exact hK
  case body =>
    rintro l pre ⟨i, hi⟩ W ⟨hb, hgw, hgr⟩ hlt
    have hL := setD_length cur off n s pre
    have hcell := row_cell hgw (i := off + i) (by omega)
    have hfz := heap_frozen hgw (off + i)
    have hbc := hb.cell
    gi_wp2
    refine ⟨(KeepsOthers.setCell _ _ _).from _, Holds.setCell (.inl (by simp; omega)) _, hb.kept (grown_set (World.grownBy.refl W (some g)) (off + i) _) (by simp; omega), ?_, grown_set hgr _ _⟩
    rw [heap_set hgw, row_set, setD_snoc]
  case done =>
    rintro D ys W hD rfl ⟨hb, hgw, hgr⟩ hK
    gi_wp2
    refine ⟨by simp, .inl ⟨_, _, rfl, run_takeDeferred hK, ?_⟩⟩
    refine ⟨_, results_none rfl _ _ _, ⟨_, rfl⟩, ?_, ?_⟩
    · rw [← setD_all cur off n s hoff]
      exact (World.putObj_heap_other (by omega)).trans hgw
    · exact grown_then hgr (grownBy_putObj' W D _) (B := W0.heap.size) (by omega) (fun k e => by cases e; exact hD)
  case stop =>
    rintro D c pre W _ _ h _
    exact h.elim

/-! ### New slices of bytes -/

/-- v is a slice of the bytes bs in memory that came after w; nothing of w has turned. -/
def Made (w w' : World) (v : Value) (bs : List UInt8) : Prop :=
  ∃ A c, v = .slice A bs.length c ∧ bs.length ≤ c ∧ Rd w' w'.heap.size A bs ∧ w'.ownsRow w.heap.size 5 1 v bs.length (row bs) ∧ Below w.heap.size w w'
theorem Made.of_own {w w' : World} {v : Value} {bs : List UInt8} (h : w'.ownsRow w.heap.size 5 1 v bs.length (row bs)) (hb : Below w.heap.size w w') : Made w w' v bs := by
  have h' := h
  rcases h'.2 with ⟨rfl, h0⟩ | ⟨g, cap, cur, rfl, _, _, hle, _⟩
  · obtain rfl : bs = [] := List.eq_nil_of_length_eq_zero h0
    exact ⟨none, 0, rfl, Nat.le_refl _, Rd.nil, h, hb⟩
  · exact ⟨_, cap, rfl, hle, Rd.of_own rfl h, h, hb⟩
theorem Made.nil (w w' : World) (hb : Below w.heap.size w w') : Made w w' (.slice none 0 0) [] := Made.of_own (World.ownsRow_nil _ _ _ _) hb
theorem own_of_block {w : World} {base g t : Nat} {bs : List UInt8} (hb : base ≤ g) (h : w.heap[g]? = some (.cells (row bs).toArray t (0, 0))) (hm : bs.length ≤ 1099511627780) :
    w.ownsRow base t 1 (.slice (some ⟨g, 0, none⟩) bs.length bs.length) bs.length (row bs) :=
  ⟨by simp [row_length], .inr ⟨g, bs.length, (row bs).toArray, rfl, hb, h, Nat.le_refl _, by unfold maxLen; omega, by simp [row_length], by rw [Nat.mul_one, List.take_of_length_le (by simp [row_length])]⟩⟩

/-- Put: bs, and n's bytes behind, if it fits. -/
def putB (bs : List UInt8) (n s : Int) : List UInt8 := if fitsB n s then bs ++ digs n s.toNat else bs
theorem splice_end (bs : List UInt8) (k : Nat) (ds : List UInt8) (h : ds.length = k) : splice (pad bs (bs.length + k)) bs.length ds = bs ++ ds := by
  simp [splice, pad, ← h]

set_option maxHeartbeats 1000000 in
theorem put_any (A : Option Addr) (bs : List UInt8) (c B : Nat) (n s : Int) (w : World) (h : Rd w B A bs) (hB : B ≤ w.heap.size) (hl : bs.length ≤ 1099511627000) :
    Calls Try.prog 72 #[.slice A bs.length c, .int .i64 n, .int .i64 s] w fun e w' => ∃ v, e = .returned v ∧ Made w w' v (putB bs n s) := by
  by_cases hf : fitsB n s = true
  · have hf' := fitsB_iff.1 hf
    obtain ⟨k, rfl⟩ := Int.eq_ofNat_of_zero_le (show 0 ≤ s by omega)
    rw [show putB bs n k = bs ++ digs n k from by simp [putB, hf]]
    have hpl := pad_length (bs := bs) (n := bs.length + k) (by omega)
    have Hpl := Lib.hid hpl
    have Hdl := Lib.hid (digs_length n k)
    clear hpl
    go_enter Try.func72, Try.ntmps72
    go_wp2_with (first
      | (go_at_call 53; refine (fits_any _ _ _).mono ?_; rintro e w' ⟨rfl, rfl⟩)
      | (go_at_call 86; refine (roomy_any A bs c B (bs.length + k) _ h hB (by omega) (by omega)).mono ?_; rintro e w1 ⟨rfl, hg1, hb1⟩)
      | (go_at_call 88; refine (cut_any w.heap.size 0 (bs.length + k) (bs.length + k) bs.length k _ (by omega) (by omega) (by omega) (by omega)).mono ?_; rintro e w' ⟨rfl, rfl⟩)
      | (go_at_call 87; refine (write_any w.heap.size _ k k (pad bs (bs.length + k)) n _ hg1 (by omega) (by rw [Hpl.out]; omega) (by omega)).mono ?_; rintro e w2 ⟨⟨v, rfl⟩, hg2, hgr2⟩))
    go_ret
    refine ⟨_, rfl, Made.of_own ?_ ?_⟩
    · have e : (bs ++ digs n k).length = bs.length + k := by rw [List.length_append, Hdl.out]
      rw [splice_end bs k _ Hdl.out] at hg2
      have := own_of_block (Nat.le_refl _) hg2 (by rw [e]; omega)
      rw [e] at this ⊢
      exact this
    · exact hb1.grown hgr2 (by have := hb1.size; omega) (fun k e => by cases e; exact Nat.le_refl _)
  · have hf0 : fitsB n s = false := by simpa using hf
    rw [show putB bs n s = bs from by simp [putB, hf0]]
    have e := Lib.hid (show pad bs bs.length = bs from by simp [pad])
    go_enter Try.func72, Try.ntmps72
    go_wp2_with (first
      | (go_at_call 53; refine (fits_any _ _ _).mono ?_; rintro e w' ⟨rfl, rfl⟩)
      | (go_at_call 86; refine (roomy_any A bs c B bs.length _ h hB (by omega) (by omega)).mono ?_; rintro e w1 ⟨rfl, hg1, hb1⟩))
    go_ret
    rw [e.out] at hg1
    exact ⟨_, rfl, Made.of_own (own_of_block (Nat.le_refl _) hg1 (by omega)) hb1⟩

/-! ### Set -/
def setE (len : Nat) (at_ n s : Int) : Int := if fitsB n s then getE len at_ s else 1
def setB (bs : List UInt8) (at_ n s : Int) : List UInt8 := if fitsB n s ∧ 0 ≤ at_ ∧ at_ ≤ (bs.length : Int) - s then splice bs at_.toNat (digs n s.toNat) else []

set_option maxHeartbeats 1000000 in
theorem set_any (A : Option Addr) (bs : List UInt8) (c B : Nat) (at_ n s : Int) (w : World) (h : Rd w B A bs) (hB : B ≤ w.heap.size) (hl : bs.length ≤ 1099511627000) :
    Calls Try.prog 73 #[.slice A bs.length c, .int .i64 at_, .int .i64 n, .int .i64 s] w
      fun e w' => ∃ v, e = .returned (.tuple #[v, .int .i64 (setE bs.length at_ n s)]) ∧ Made w w' v (setB bs at_ n s) := by
  by_cases hf : fitsB n s = true
  · have hf' := fitsB_iff.1 hf
    by_cases h0 : 0 ≤ at_
    · by_cases hr : at_ ≤ (bs.length : Int) - s
      · obtain ⟨k, rfl⟩ := Int.eq_ofNat_of_zero_le (show 0 ≤ s by omega)
        obtain ⟨a, rfl⟩ := Int.eq_ofNat_of_zero_le h0
        rw [show setB bs a n k = splice bs a (digs n k) from by rw [setB, if_pos ⟨hf, h0, hr⟩]; simp, show setE bs.length a n k = 0 from by rw [setE, if_pos hf, getE_ok ⟨hf'.1, hf'.2.1, h0⟩ hr]]
        have e := Lib.hid (show pad bs bs.length = bs from by simp [pad])
        have Hdl := Lib.hid (digs_length n k)
        have hd : decide ((a : Int) ≤ (bs.length : Int) - (k : Int)) = true := by simpa using hr
        go_enter Try.func73, Try.ntmps73
        go_wp2_with (first
          | (go_at_call 53; refine (fits_any _ _ _).mono ?_; rintro e w' ⟨rfl, rfl⟩)
          | (go_at_call 89; refine (holds_any _ _ _ _ _ _ (by omega) (by omega) (by omega)).mono ?_; rintro e w' ⟨rfl, rfl⟩)
          | (go_at_call 86; refine (roomy_any A bs c B bs.length _ h hB (by omega) (by omega)).mono ?_; rintro e w1 ⟨rfl, hg1, hb1⟩)
          | (go_at_call 88; refine (cut_any w.heap.size 0 bs.length bs.length a k _ (by omega) (by omega) (by omega) (by omega)).mono ?_; rintro e w' ⟨rfl, rfl⟩)
          | (go_at_call 87; refine (write_any w.heap.size _ k k bs n _ (by rw [e.out] at hg1; exact hg1) (by omega) (by omega) (by omega)).mono ?_; rintro e w2 ⟨⟨v, rfl⟩, hg2, hgr2⟩))
        go_ret2
        refine ⟨_, rfl, Made.of_own ?_ (hb1.grown hgr2 (by have := hb1.size; omega) (fun k e => by cases e; exact Nat.le_refl _))⟩
        have e2 : (splice bs a (digs n k)).length = bs.length := length_splice _ _ _ (by rw [Hdl.out]; omega)
        have := own_of_block (Nat.le_refl _) hg2 (by rw [e2]; omega)
        rw [e2] at this ⊢
        exact this
      · rw [show setB bs at_ n s = [] from by rw [setB, if_neg (by omega)], show setE bs.length at_ n s = 3 from by rw [setE, if_pos hf, getE_short ⟨hf'.1, hf'.2.1, h0⟩ hr]]
        have hd : decide (at_ ≤ (bs.length : Int) - s) = false := by simpa using hr
        go_enter Try.func73, Try.ntmps73
        go_wp2_with (first
          | (go_at_call 53; refine (fits_any _ _ _).mono ?_; rintro e w' ⟨rfl, rfl⟩)
          | (go_at_call 89; refine (holds_any _ _ _ _ _ _ (by omega) (by omega) (by omega)).mono ?_; rintro e w' ⟨rfl, rfl⟩))
        go_ret2
        exact ⟨_, rfl, Made.nil _ _ (Below.refl _ _)⟩
    · rw [show setB bs at_ n s = [] from by rw [setB, if_neg (by omega)], show setE bs.length at_ n s = 1 from by rw [setE, if_pos hf, getE_arg (by omega)]]
      have hd : decide (at_ < 0) = true := by simp; omega
      go_enter Try.func73, Try.ntmps73
      go_wp2_with (go_at_call 53; refine (fits_any _ _ _).mono ?_; rintro e w' ⟨rfl, rfl⟩)
      go_ret2
      exact ⟨_, rfl, Made.nil _ _ (Below.refl _ _)⟩
  · have hf0 : fitsB n s = false := by simpa using hf
    rw [show setB bs at_ n s = [] from by rw [setB, if_neg (by simp [hf0])], show setE bs.length at_ n s = 1 from by simp [setE, hf0]]
    go_enter Try.func73, Try.ntmps73
    go_wp2_with (go_at_call 53; refine (fits_any _ _ _).mono ?_; rintro e w' ⟨rfl, rfl⟩)
    go_ret2
    exact ⟨_, rfl, Made.nil _ _ (Below.refl _ _)⟩
end Go.Proofs.Ytcfcmnhnijjehaa
