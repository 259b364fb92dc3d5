/-
  Contracts and lemmas on which the proofs of this seat stand (several texts in one). Conditions are each theorem's own.
-/
import Derived.Test.YtogidfagkgccmaaCa1
import Derived.ChangeKeysEq
import Derived.Deep.WholeRow
import Derived.Maps.OwnSet
import Derived.Maps.OwnOps
import Derived.WideKeyEntry
import Derived.DeepKeys4
import Derived.Maps.Views
import Derived.Maps.Ext
import Derived.ProofKit
import Derived.OpenShut
import Derived.ChangeMaps5
import Derived.Deep.Cut
import Derived.Deep.CutRange

/-
  How an AFTR is set up, as data: a config, its cells, what the document asks of it, what the code asks. No program. Conditions are each theorem's own.
-/
namespace Go.Proofs.Ytogidfagkgccmaa
open Go.RowKit

/-- A binding that is told. -/
structure Sta where
  sw : Int
  pr : Int
  ad : Int
  po : Int
  qr : Int
  qa : Int
  qo : Int
def inS (s : Sta) : List Int := [s.sw, s.pr, s.ad, s.po]
def ouS (s : Sta) : List Int := [s.qr, s.qa, s.qo]
def clI (l : List Int) : List Value := l.map (Value.int .i64)
def clS (s : Sta) : List Value := [.int .i64 s.sw, .int .i64 s.pr, .int .i64 s.ad, .int .i64 s.po, .int .i64 s.qr, .int .i64 s.qa, .int .i64 s.qo]
theorem clS_len (s : Sta) : (clS s).length = 7 := rfl
theorem clS_eq (s : Sta) : clS s = clI (inS s) ++ clI (ouS s) := rfl
def staFit (s : Sta) : Prop := (∀ n ∈ inS s, (Lit.int .i64 n).wf = true) ∧ ∀ n ∈ ouS s, (Lit.int .i64 n).wf = true
/-- A bound. -/
structure Bnd where
  n : Int
  lo : Int
  hi : Int
def clB (b : Bnd) : List Value := [.int .i64 b.n, .int .i64 b.lo, .int .i64 b.hi]
def inn (n lo hi : Int) : Bool := decide (lo ≤ n) && decide (n ≤ hi)
def inB3 (b : Bnd) : Bool := inn b.n b.lo b.hi

structure Cfg where
  aftr : List UInt8
  A1 : Option Addr
  c1 : Nat
  sws : List (List UInt8)
  A2 : Option Addr
  c2 : Nat
  pool : List Int
  lo : Int
  hi : Int
  quota : Int
  binds : Int
  sess : Int
  bufs : Int
  byts : Int
  tmtu : Int
  nmtu : Int
  hop : Int
  mss : Int
  filt : Int
  udp : Int
  tcp : Int
  trans : Int
  query : Int
  frag : Int
  A3 : Option Addr
  c3 : Nat
  stat : List Sta
def Cfg.ints (q : Cfg) : List Int := [q.lo, q.hi, q.quota, q.binds, q.sess, q.bufs, q.byts, q.tmtu, q.nmtu, q.hop, q.mss, q.filt, q.udp, q.tcp, q.trans, q.query, q.frag]
def cft (q : Cfg) : List Value := [.slice q.A1 q.sws.length q.c1, .slice q.A2 q.pool.length q.c2, .int .i64 q.lo, .int .i64 q.hi, .int .i64 q.quota, .int .i64 q.binds, .int .i64 q.sess, .int .i64 q.bufs, .int .i64 q.byts, .int .i64 q.tmtu, .int .i64 q.nmtu, .int .i64 q.hop, .int .i64 q.mss, .int .i64 q.filt, .int .i64 q.udp, .int .i64 q.tcp, .int .i64 q.trans, .int .i64 q.query, .int .i64 q.frag, .slice q.A3 q.stat.length q.c3]
def cfl (q : Cfg) : List Value := row q.aftr ++ cft q
def cfa (q : Cfg) : Array Value := (cfl q).toArray
def cfv (q : Cfg) : Value := .agg (cfa q)
/-- What its slices read as. -/
structure MemC (w : World) (B : Nat) (q : Cfg) : Prop where
  sws : RdS row 16 w B q.A1 q.sws
  pool : RdI w B q.A2 q.pool
  stat : RdS clS 7 w B q.A3 q.stat
theorem MemC.below {w w' : World} {B : Nat} {q : Cfg} (h : MemC w B q) (hb : Below B w w') : MemC w' B q := ⟨h.sws.below hb, h.pool.below hb, h.stat.below hb⟩
theorem MemC.more {w : World} {B B' : Nat} {q : Cfg} (h : MemC w B q) (hB : B ≤ B') : MemC w B' q :=
  ⟨h.sws.more hB, fun hn => by obtain ⟨b, off, e, hb, hc⟩ := h.pool hn; exact ⟨b, off, e, by omega, hc⟩, h.stat.more hB⟩
structure Fits (q : Cfg) : Prop where
  aftr : q.aftr.length = 16
  sws : ∀ a ∈ q.sws, a.length = 16
  n1 : q.sws.length ≤ 1000
  n2 : q.pool.length ≤ 1000
  n3 : q.stat.length ≤ 1000
  i2 : ∀ n ∈ q.pool, (Lit.int .i64 n).wf = true
  i3 : ∀ s ∈ q.stat, staFit s
  ints : ∀ n ∈ q.ints, (Lit.int .i64 n).wf = true
  l1 : q.sws.length ≤ q.c1
  l2 : q.pool.length ≤ q.c2
  l3 : q.stat.length ≤ q.c3
  m1 : q.c1 ≤ maxLen
  m2 : q.c2 ≤ maxLen
  m3 : q.c3 ≤ maxLen
  z1 : q.A1 = none → q.c1 = 0
theorem cfl_len {q : Cfg} (h : q.aftr.length = 16) : (cfl q).length = 36 := by simp [cfl, cft, row_length, h]
theorem cfl_at {q : Cfg} (h : q.aftr.length = 16) (j : Nat) : (cfl q)[16 + j]? = (cft q)[j]? := by
  rw [cfl, List.getElem?_append_right (by rw [row_length]; omega), row_length, h]
  congr 1; omega
theorem cfa_one (q : Cfg) : (cfa q).all (·.oneCell') = true := by
  rw [cfa]
  refine Array.all_eq_true_iff_forall_mem.2 fun v hv => ?_
  have hv' : v ∈ row q.aftr ∨ v ∈ cft q := by simpa [cfl] using hv
  rcases hv' with h | h
  · exact row_one _ v h
  · simp [cft] at h
    rcases h with rfl | rfl | rfl | rfl | rfl | rfl | rfl | rfl | rfl | rfl | rfl | rfl | rfl | rfl | rfl | rfl | rfl | rfl | rfl | rfl <;> rfl
/-- It lies in a block. -/
def AtC (W : World) (g : Nat) (q : Cfg) : Prop := W.rangeAt g 0 (cfl q)
theorem AtC.of_heap {W : World} {g : Nat} {q : Cfg} {t : TypeId} {fr : Nat × Nat} (h : W.heap[g]? = some (.cells (cfa q) t fr)) : AtC W g q := fun j v hj => by
  rw [cell_of_row W g (0 + j) _ _ _ h, Nat.zero_add, cfa, List.getElem?_toArray]; exact hj
theorem AtC.new (w : World) (q : Cfg) (t : TypeId) : AtC (w.alloc (.cells (cfa q) t)) w.heap.size q := AtC.of_heap (World.alloc_heap_new w _)
theorem AtC.below {w W : World} {g B : Nat} {q : Cfg} (h : AtC W g q) (hb : Below B W w) (hg : g < B) : AtC w g q := range_below h hg hb
theorem AtC.at_ {W : World} {g : Nat} {q : Cfg} (h : AtC W g q) (ha : q.aftr.length = 16) {j : Nat} {v : Value} (hj : (cft q)[j]? = some v) : W.cell? ⟨g, 16 + j, none⟩ = some v := by
  have := h (16 + j) v (by rw [cfl_at ha]; exact hj)
  rwa [Nat.zero_add] at this
theorem AtC.six {W : World} {g : Nat} {q : Cfg} (h : AtC W g q) (_ : q.aftr.length = 16) : W.rangeAt g 0 (row q.aftr) := fun j v hj => by
  refine h j v ?_
  rw [cfl, List.getElem?_append_left (List.getElem?_eq_some_iff.1 hj).1]; exact hj

/-! ### The document's answers -/
def protoB (p : Int) : Bool := decide (p = 1) || decide (p = 6) || decide (p = 17)
def numB (q : Cfg) : Bool :=
  (inn q.quota 1 4096 && inn q.binds 1 4096 && inn q.sess 1 4096 && inn q.bufs 0 4096 && inn q.byts 0 67108864) &&
  (inn q.tmtu 1280 65535 && inn q.nmtu 1280 65535 && inn q.hop 1 255 && (decide (q.mss = 0) || inn q.mss 536 65535) && inn q.filt 0 2) &&
  (inn q.udp 120 1048576 && inn q.tcp 7440 1048576 && inn q.trans 240 1048576 && inn q.query 60 1048576 && inn q.frag 1 1048576) && inn q.lo 1 65535 && inn q.hi q.lo 65535
def stB (q : Cfg) (s : Sta) : Bool :=
  protoB s.pr && (inn s.po 0 65535 && inn s.qo 0 65535) && decide (s.qr = s.pr) && inn s.sw 0 ((q.sws.length : Int) - 1) && hostB s.ad && q.pool.contains s.qa
def lisB (q : Cfg) : Bool :=
  host6 q.aftr && inn q.sws.length 1 64 && inn q.pool.length 1 16 && decide (q.stat.length ≤ 64) && decide ((q.stat.length : Int) ≤ q.binds) && q.sws.all host6 && q.pool.all hostB && q.stat.all (stB q)
def manyS (q : Cfg) : Prop := ∃ x, q.quota < ((q.stat.map Sta.sw).count x : Int)
noncomputable def twB (q : Cfg) : Bool := by
  classical
  exact decide (¬ (q.sws ++ [q.aftr]).Nodup) || decide (¬ q.pool.Nodup) || decide (¬ (q.stat.map inS).Nodup) || decide (¬ (q.stat.map ouS).Nodup) || decide (manyS q)
noncomputable def chkB (q : Cfg) : Int := if numB q && lisB q then (if twB q then 9 else 0) else 1
def waitB (q : Cfg) (p s : Int) : Int := if p = 17 then q.udp else if p = 1 then q.query else if p = 6 ∧ s = 3 then q.tcp else if p = 6 then q.trans else 0

/-! ### What the code asks -/
def adC (q : Cfg) : Bool := host6 q.aftr && (inn q.sws.length 1 64 && inn q.pool.length 1 16) && q.sws.all host6 && q.pool.all hostB
def bnds (q : Cfg) : List Bnd := [⟨q.lo, 1, q.hi⟩, ⟨q.hi, 1, 65535⟩, ⟨q.quota, 1, 4096⟩, ⟨q.binds, 1, 4096⟩, ⟨q.sess, 1, 4096⟩, ⟨q.bufs, 0, 4096⟩, ⟨q.byts, 0, 67108864⟩, ⟨q.tmtu, 1280, 65535⟩, ⟨q.nmtu, 1280, 65535⟩, ⟨q.hop, 1, 255⟩, ⟨q.filt, 0, 2⟩, ⟨q.udp, 120, 1048576⟩, ⟨q.tcp, 7440, 1048576⟩, ⟨q.trans, 240, 1048576⟩, ⟨q.query, 60, 1048576⟩, ⟨q.frag, 1, 1048576⟩]
def nuC (q : Cfg) : Bool := (bnds q).all inB3 && (decide (q.mss = 0) || inn q.mss 536 65535)
def stC (q : Cfg) (s : Sta) : Bool := (inn s.sw 0 ((q.sws.length : Int) - 1) && inn s.po 0 65535 && inn s.qo 0 65535) && protoB s.pr && decide (s.pr = s.qr) && hostB s.ad && q.pool.contains s.qa
def stsC (q : Cfg) : Bool := inn q.stat.length 0 (min 64 q.binds) && q.stat.all (stC q)
theorem inn_iff (n lo hi : Int) : inn n lo hi = true ↔ lo ≤ n ∧ n ≤ hi := by simp [inn]
theorem stC_eq (q : Cfg) (s : Sta) : stC q s = stB q s := by
  rw [Bool.eq_iff_iff]
  simp only [stC, stB, Bool.and_eq_true, decide_eq_true_eq]
  constructor
  · rintro ⟨⟨⟨⟨⟨⟨a, b⟩, c⟩, d⟩, e⟩, f⟩, g⟩; exact ⟨⟨⟨⟨⟨d, b, c⟩, e.symm⟩, a⟩, f⟩, g⟩
  · rintro ⟨⟨⟨⟨⟨d, b, c⟩, e⟩, a⟩, f⟩, g⟩; exact ⟨⟨⟨⟨⟨⟨a, b⟩, c⟩, d⟩, e.symm⟩, f⟩, g⟩
theorem all_code (q : Cfg) : (adC q && nuC q && stsC q) = (numB q && lisB q) := by
  have hs : stC q = stB q := funext (stC_eq q)
  rw [Bool.eq_iff_iff]
  simp only [adC, nuC, stsC, numB, lisB, bnds, inB3, List.all_cons, List.all_nil, hs, Bool.and_eq_true, Bool.or_eq_true, decide_eq_true_eq, inn_iff, and_true]
  constructor
  · rintro ⟨⟨⟨⟨⟨a1, a2, a3⟩, a4⟩, a5⟩, ⟨b1, b2, b3, b4, b5, b6, b7, b8, b9, b10, b11, b12, b13, b14, b15, b16⟩, b17⟩, c1, c2⟩
    refine ⟨⟨⟨⟨⟨⟨⟨⟨⟨b3, b4⟩, b5⟩, b6⟩, b7⟩, ⟨⟨⟨⟨b8, b9⟩, b10⟩, b17⟩, b11⟩⟩, ⟨⟨⟨⟨b12, b13⟩, b14⟩, b15⟩, b16⟩⟩, ⟨by omega, by omega⟩⟩, ⟨by omega, by omega⟩⟩, ⟨⟨⟨⟨⟨⟨⟨a1, a2⟩, a3⟩, by omega⟩, by omega⟩, a4⟩, a5⟩, c2⟩⟩
  · rintro ⟨⟨⟨⟨⟨⟨⟨⟨⟨b3, b4⟩, b5⟩, b6⟩, b7⟩, ⟨⟨⟨⟨b8, b9⟩, b10⟩, b17⟩, b11⟩⟩, ⟨⟨⟨⟨b12, b13⟩, b14⟩, b15⟩, b16⟩⟩, d1⟩, d2⟩, ⟨⟨⟨⟨⟨⟨⟨a1, a2⟩, a3⟩, e1⟩, e2⟩, a4⟩, a5⟩, c2⟩⟩
    exact ⟨⟨⟨⟨⟨a1, a2, a3⟩, a4⟩, a5⟩, ⟨⟨by omega, by omega⟩, ⟨by omega, by omega⟩, b3, b4, b5, b6, b7, b8, b9, b10, b11, b12, b13, b14, b15, b16⟩, b17⟩, ⟨by omega, by omega⟩, c2⟩

/-! ### How many are alike -/
section
variable {K : Type} [DecidableEq K]
def mxr : List K → Nat
  | [] => 0
  | k :: r => max (mxr r) ((k :: r).count k)
/-- How many of the most frequent one there are. -/
def mx (l : List K) : Nat := mxr l.reverse
theorem mx_nil : mx ([] : List K) = 0 := rfl
theorem mx_snoc (l : List K) (k : K) : mx (l ++ [k]) = max (mx l) ((l ++ [k]).count k) := by
  simp [mx, mxr]
theorem lt_mxr (q : Nat) : ∀ l : List K, q < mxr l ↔ ∃ k, q < l.count k
  | [] => by simp [mxr]
  | a :: r => by
    rw [mxr, show (q < max (mxr r) ((a :: r).count a) ↔ q < mxr r ∨ q < (a :: r).count a) by omega, lt_mxr q r]
    constructor
    · rintro (⟨k, h⟩ | h)
      · exact ⟨k, Nat.lt_of_lt_of_le h (List.count_le_count_cons)⟩
      · exact ⟨a, h⟩
    · rintro ⟨k, h⟩
      by_cases e : a = k
      · subst e; exact .inr h
      · rw [List.count_cons_of_ne e] at h; exact .inl ⟨k, h⟩
theorem lt_mx (q : Nat) (l : List K) : q < mx l ↔ ∃ k, q < l.count k := by
  rw [mx, lt_mxr]; simp
theorem mx_two (l : List K) : 1 < mx l ↔ ¬ l.Nodup := by
  rw [lt_mx, List.nodup_iff_count]
  constructor
  · rintro ⟨k, h⟩ hn; have := hn k; omega
  · intro h
    obtain ⟨k, hk⟩ := Classical.not_forall.1 h
    exact ⟨k, by omega⟩
theorem mx_le (l : List K) : mx l ≤ l.length := by
  by_cases h : 0 < mx l
  · obtain ⟨k, hk⟩ := (lt_mx (mx l - 1) l).1 (by omega)
    have := List.count_le_length (a := k) (l := l)
    omega
  · omega
end
theorem two_code (q : Cfg) (hq : 0 ≤ q.quota) : ((decide ((mx (q.aftr :: q.sws) : Int) > 1) || decide ((mx q.pool : Int) > 1)) || (decide ((mx (q.stat.map inS) : Int) > 1) || decide ((mx (q.stat.map ouS) : Int) > 1)) || decide ((mx (q.stat.map Sta.sw) : Int) > q.quota)) = twB q := by
  classical
  rw [Bool.eq_iff_iff]
  have e1 : ((mx (q.aftr :: q.sws) : Int) > 1) ↔ ¬ (q.sws ++ [q.aftr]).Nodup := by
    rw [show ((mx (q.aftr :: q.sws) : Int) > 1) ↔ 1 < mx (q.aftr :: q.sws) by omega, mx_two]
    rw [(List.perm_append_singleton q.aftr q.sws).nodup_iff]
  have e2 : ((mx q.pool : Int) > 1) ↔ ¬ q.pool.Nodup := by rw [← mx_two]; omega
  have e3 : ((mx (q.stat.map inS) : Int) > 1) ↔ ¬ (q.stat.map inS).Nodup := by rw [← mx_two]; omega
  have e4 : ((mx (q.stat.map ouS) : Int) > 1) ↔ ¬ (q.stat.map ouS).Nodup := by rw [← mx_two]; omega
  have e5 : ((mx (q.stat.map Sta.sw) : Int) > q.quota) ↔ manyS q := by
    obtain ⟨m, hm⟩ := Int.eq_ofNat_of_zero_le hq
    rw [show ((mx (q.stat.map Sta.sw) : Int) > q.quota) ↔ m < mx (q.stat.map Sta.sw) by omega, lt_mx, manyS]
    constructor
    · rintro ⟨k, h⟩; exact ⟨k, by omega⟩
    · rintro ⟨k, h⟩; exact ⟨k, by omega⟩
  simp only [twB, Bool.or_eq_true, decide_eq_true_eq, e1, e2, e3, e4, e5]
  constructor
  · rintro ((((h | h) | (h | h))) | h)
    · exact .inl (.inl (.inl (.inl h)))
    · exact .inl (.inl (.inl (.inr h)))
    · exact .inl (.inl (.inr h))
    · exact .inl (.inr h)
    · exact .inr h
  · rintro ((((h | h) | h) | h) | h)
    · exact .inl (.inl (.inl h))
    · exact .inl (.inl (.inr h))
    · exact .inl (.inr (.inl h))
    · exact .inl (.inr (.inr h))
    · exact .inr h
end Go.Proofs.Ytogidfagkgccmaa

/-
  Contracts of the document's plain answers of layer 4: Less, Host, Of. Conditions are each theorem's own.
-/
namespace Go.Proofs.Ytogidfagkgccmaa
open Go.RowKit

theorem items_eq (a b : List UInt8) (d : Nat) (w : World) : ∀ is : List Nat, (∀ i ∈ is, i < a.length ∧ i < b.length) →
    (Op.eqItems (d + 1) 5 1 (cel a) (cel b) is).run Try.prog w = .ok (decide (∀ i ∈ is, byt a i = byt b i)) w
  | [], _ => by simp [Op.eqItems]
  | i :: is, h => by
    have hp : Try.prog.plainKey 5 = true := by kernel_rfl
    obtain ⟨h1, h2⟩ := h i (by simp)
    have p1 := run_part_plain (P := Try.prog) w hp (off := i * 1) (by rw [Nat.mul_one]; exact cel_get a h1)
    have p2 := run_part_plain (P := Try.prog) w hp (off := i * 1) (by rw [Nat.mul_one]; exact cel_get b h2)
    have p3 := run_equalIn_int w d 5 .u8 .u8 (byt a i) (byt b i) Try.underlying5
    have ih := items_eq a b d w is (fun j hj => h j (by simp [hj]))
    simp only [Op.eqItems, Sem.run_bind, p1, p2, p3, Result.andThen_ok]
    by_cases he : byt a i = byt b i
    · simp [he, ih]
    · simp [he]
theorem same_bytes {a b : List UInt8} (ha : a.length = 16) (hb : b.length = 16) : (∀ i ∈ List.range 16, byt a i = byt b i) ↔ a = b := by
  constructor
  · intro h
    refine List.ext_getElem (by omega) fun i h1 h2 => ?_
    exact (byt_eq h1 h2).1 (h i (by simp; omega))
  · rintro rfl i _; rfl
set_option maxRecDepth 100000 in
theorem six_eq (a b : List UInt8) (ha : a.length = 16) (hb : b.length = 16) (w : World) :
    (Op.equalIn 10000 70 (.agg (cel a)) (.agg (cel b))).run Try.prog w = .ok (decide (a = b)) w := by
  have hi : ∃ i, Try.prog.info? 5 = some i := Option.isSome_iff_exists.1 (by kernel_rfl)
  obtain ⟨i, hi⟩ := hi
  have hc : Try.prog.cellsOf 5 = 1 := by kernel_rfl
  rw [show (10000 : Nat) = 9998 + 1 + 1 from rfl, run_equalIn_array w 9999 (cel a) (cel b) Try.underlying70 hi, hc, items_eq a b 9998 w _ (by simp; omega)]
  congr 1
  rw [decide_eq_decide]
  exact same_bytes ha hb

theorem six_nul (a : List UInt8) (ha : a.length = 16) (w : World) :
    (Op.equalIn 10000 70 (.agg (cel a)) (.agg #[.int .u8 0, .int .u8 0, .int .u8 0, .int .u8 0, .int .u8 0, .int .u8 0, .int .u8 0, .int .u8 0, .int .u8 0, .int .u8 0, .int .u8 0, .int .u8 0, .int .u8 0, .int .u8 0, .int .u8 0, .int .u8 0])).run Try.prog w = .ok (decide (a = nul)) w := six_eq a nul ha rfl w
/-- A whole address is read out of a block of its own. -/
theorem six_load {ops : Array Oper} {rest : List Oper} {d : Tmp} {x : Operand} {ty : TypeId} {pos : String} {af : Array Edge} {a : Act} {w : World} {Q : Exit → Act → World → Prop}
    {g : Nat} {t : TypeId} {cs : List UInt8} {fr : Nat × Nat} (hx : a.eval x = .pointer (some ⟨g, 0, none⟩)) (hg : w.heap[g]? = some (.cells (cel cs) t fr)) (hl : cs.length = 16)
    (h : wpList Try.prog ops Q rest (a.put (some d) (.agg (cel cs))) w) : wpList Try.prog ops Q (⟨some d, .load 70 x, ty, pos, af, none⟩ :: rest) a w :=
  wpList_load_row rfl 70 x rfl g hx t (cel cs) fr _ hg Try.underlying70 rfl (by rw [cel_size, hl]; kernel_rfl) h
/-- A whole address is stored into a block of its own. -/
theorem six_store {ops : Array Oper} {rest : List Oper} {x y : Operand} {ty : TypeId} {pos : String} {af : Array Edge} {a : Act} {w : World} {Q : Exit → Act → World → Prop}
    {g : Nat} {t : TypeId} {cs : List UInt8} {old : Array Value} (hx : a.eval x = .pointer (some ⟨g, 0, none⟩)) (hy : a.eval y = .agg (cel cs)) (hg : w.heap[g]? = some (.cells old t (0, 0))) (ho : old.size = 16) (hl : cs.length = 16)
    (h : wpList Try.prog ops Q rest (a.put none undef) (w.setRow g (cel cs))) : wpList Try.prog ops Q (⟨none, .store 70 x y, ty, pos, af, none⟩ :: rest) a w :=
  wpList_plain rfl fun _ hK => wp_store_row 70 x y rfl g (cel cs) hx hy t old hg (by rw [cel_size, hl]; kernel_rfl) (by rw [ho, cel_size, hl])
    (Array.all_eq_true_iff_forall_mem.2 fun v hv => row_one cs v (by simpa [cel] using hv)) (hK _ _ h)
/-- A whole address is stored into the block that was made last. -/
theorem six_store_new {ops : Array Oper} {rest : List Oper} {x y : Operand} {ty : TypeId} {pos : String} {af : Array Edge} {a : Act} {w : World} {Q : Exit → Act → World → Prop}
    {t : TypeId} {cs : List UInt8} {old : Array Value} (hx : a.eval x = .pointer (some ⟨w.heap.size, 0, none⟩)) (hy : a.eval y = .agg (cel cs)) (ho : old.size = 16) (hl : cs.length = 16)
    (h : wpList Try.prog ops Q rest (a.put none undef) (w.alloc (.cells (cel cs) t))) : wpList Try.prog ops Q (⟨none, .store 70 x y, ty, pos, af, none⟩ :: rest) a (w.alloc (.cells old t)) :=
  six_store hx hy (World.alloc_heap_new w _) ho hl (by rw [World.setRow_alloc_new]; exact h)
/-- One result, an address in a block of its own. -/
theorem six_result {fn : Func} {p : Tmp} {tmps : Array Value} {w : World} {g : Nat} {t : TypeId} {cs : List UInt8} {fr : Nat × Nat} (h : fn.results = #[.cell p 70])
    (hp : tmps.getD p undef = .pointer (some ⟨g, 0, none⟩)) (hg : w.heap[g]? = some (.cells (cel cs) t fr)) (hl : cs.length = 16) : (results fn tmps).run Try.prog w = .ok (.agg (cel cs)) w :=
  results_cell_row h tmps w g t (cel cs) fr _ hp hg Try.underlying70 rfl (by rw [cel_size, hl]; kernel_rfl)
/-- Two results: an address in a block of its own, and a slot. -/
theorem six_result2 {fn : Func} {p q : Tmp} {tmps : Array Value} {w : World} {g : Nat} {t : TypeId} {cs : List UInt8} {fr : Nat × Nat} (h : fn.results = #[.cell p 70, .tmp q])
    (hp : tmps.getD p undef = .pointer (some ⟨g, 0, none⟩)) (hg : w.heap[g]? = some (.cells (cel cs) t fr)) (hl : cs.length = 16) :
    (results fn tmps).run Try.prog w = .ok (.tuple #[.agg (cel cs), tmps.getD q undef]) w := by
  have hp' : tmps[p]?.getD undef = .pointer (some ⟨g, 0, none⟩) := by simpa using hp
  have hr := run_loadVar_row (P := Try.prog) w g t 70 (cel cs) fr _ hg Try.underlying70 rfl (by rw [cel_size, hl]; kernel_rfl)
  simp [results, h, hp', asAddr, hr]
set_option maxRecDepth 100000 in
theorem r4host (a : List UInt8) (ha : a.length = 16) (w : World) :
    Calls Try.prog 138 #[.agg (cel a)] w fun e w' => e = .returned (.bool (host6 a)) ∧ Below w.heap.size w w' := by
  have h0 : (w.alloc (.cells (cel a) 70)).cell? ⟨w.heap.size, 0, none⟩ = some (.int .u8 (byt a 0)) := by rw [World.cell?_alloc_new]; exact cel_get a (by omega)
  have hB := (Below.refl w.heap.size w).alloc (Nat.le_refl _) (.cells (cel a) 70)
  have hg := World.alloc_heap_new w (.cells (cel a) 70)
  have hZ := six_nul a ha
  by_cases hn : a = nul
  · have hz : decide (a = nul) = true := by simpa using hn
    clear hn
    go_enter Try.func138, Try.ntmps138
    go_wp2_with ((with_reducible show wpList _ _ _ (Oper.mk _ (Op.load _ _) _ _ _ _ :: _) _ _); refine six_load (g := w.heap.size) rfl hg ha ?_)
    go_ret
    exact ⟨ret_bool (by rw [host6, hz]; rfl), hB⟩
  · have hz : decide (a = nul) = false := by simpa using hn
    clear hn
    go_enter Try.func138, Try.ntmps138
    go_wp2_with ((with_reducible show wpList _ _ _ (Oper.mk _ (Op.load _ _) _ _ _ _ :: _) _ _); refine six_load (g := w.heap.size) rfl hg ha ?_)
    go_ret
    exact ⟨ret_bool (by rw [host6, hz]; rfl), hB⟩
end Go.Proofs.Ytogidfagkgccmaa

/-
  Keys of layer 20: addresses of IPv6, endpoints, numbers as keys of a map that counts. Conditions are each theorem's own.
-/
namespace Go.Proofs.Ytogidfagkgccmaa
open Go.RowKit Go.Maps Go.WideMaps Go.WideElems Go.MapKept

theorem laidOut20 : laidOutB Try.prog = true := by kernel_rfl
theorem lawSix : KeyLaw Try.prog 70 := deep_law_laid laidOut20 (m := 3) (by omega) (of_decide_eq_true (by kernel_rfl)) (by kernel_rfl) (by rw [Try.underlying70])
theorem lawInner : KeyLaw Try.prog 189 := deep_law_laid laidOut20 (m := 3) (by omega) (of_decide_eq_true (by kernel_rfl)) (by kernel_rfl) (by rw [Try.underlying189])
theorem lawOuter : KeyLaw Try.prog 65 := deep_law_laid laidOut20 (m := 3) (by omega) (of_decide_eq_true (by kernel_rfl)) (by kernel_rfl) (by rw [Try.underlying65])
theorem lit_int (n : Nat) {a : Int} (h : (Lit.int .i64 a).wf = true) : Try.prog.keyLits (n + 1) 3 [.int .i64 a] = some [.int .i64 a] := by
  simp [Program.keyLits, Try.underlying3, h]
theorem lit_u8 (n : Nat) (a : UInt8) : Try.prog.keyLits (n + 1) 5 [.int .u8 (a.toNat : Int)] = some [.int .u8 (a.toNat : Int)] := by
  have h : (Lit.int .u8 (a.toNat : Int)).wf = true := by
    have := a.toNat_lt
    exact WalkArith.wf_u8 (by omega)
  simp [Program.keyLits, Try.underlying5, h]
theorem mapM_some {α β : Type} (f : α → Option β) : ∀ l : List α, (∀ x ∈ l, ∃ y, f x = some y) → ∃ ys, l.mapM f = some ys
  | [], _ => ⟨[], rfl⟩
  | a :: r, h => by
    obtain ⟨y, hy⟩ := h a (by simp)
    obtain ⟨ys, hys⟩ := mapM_some f r (fun x hx => h x (by simp [hx]))
    exact ⟨y :: ys, by simp [List.mapM_cons, hy, hys]⟩
theorem keySix (b : List UInt8) (hb : b.length = 16) : ∃ l, keyOf Try.prog 70 (.agg (row b).toArray) = some l := by
  have hk : Try.prog.keyType 70 = true := by kernel_rfl
  have hcs : Try.prog.cellsOf 70 = 16 := by kernel_rfl
  have hcu : Try.prog.cellsOf 5 = 1 := by kernel_rfl
  have hf : (Value.agg (row b).toArray).formed Try.prog 70 = true := by simp [Value.formed, Try.underlying70, hcs, row_length, hb]
  obtain ⟨m, hm⟩ : ∃ m, Try.prog.types.size = m := ⟨_, rfl⟩
  obtain ⟨m', hm'⟩ : ∃ m', m = m' + 1 := ⟨m - 1, by have : 0 < Try.prog.types.size := of_decide_eq_true (by kernel_rfl); omega⟩
  have hl : ∃ ls, Try.prog.keyLits (Try.prog.types.size + 1) 70 (row b) = some ls := by
    rw [hm]
    simp only [Program.keyLits, Try.underlying70, hcs, row_length, hb, if_true]
    obtain ⟨ys, hys⟩ := mapM_some (fun i => Try.prog.keyLits m 5 (((row b).drop (i * Try.prog.cellsOf 5)).take (Try.prog.cellsOf 5))) (List.range 16) (fun i hi => by
      have hi' : i < b.length := by rw [hb]; exact List.mem_range.1 hi
      refine ⟨[.int .u8 (b[i].toNat : Int)], ?_⟩
      rw [hcu, Nat.mul_one]
      have : ((row b).drop i).take 1 = [.int .u8 (b[i].toNat : Int)] := by
        rw [row, ← List.map_drop, List.drop_eq_getElem_cons hi']; rfl
      rw [this, hm']; exact lit_u8 m' _)
    exact ⟨_, by rw [hys]; rfl⟩
  obtain ⟨ls, hls⟩ := hl
  refine ⟨.string (keyBytes ls), ?_⟩
  have hls' : Try.prog.keyLits (Try.prog.types.size + 1) 70 (Value.agg (row b).toArray).cells.toList = some ls := by simpa [Value.cells] using hls
  unfold keyOf
  rw [Try.underlying70]
  simp only [hk, hf, Bool.and_self, if_true]
  rw [hls']; rfl
theorem keyInts (T : TypeId) (fs : Array Field) (n : Nat) (hT : Try.prog.underlying T = some (.struct fs)) (hk : Try.prog.keyType T = true) (hcs : Try.prog.cellsOf T = n)
    (hfs : fs.all (·.name != "_") = true) (hft : ∀ f ∈ fs.toList, f.type = 3 ∧ f.offset < n) (l : List Int) (hl : l.length = n) (hw : ∀ x ∈ l, (Lit.int .i64 x).wf = true) :
    ∃ k, keyOf Try.prog T (.agg (clI l).toArray) = some k := by
  have hci : Try.prog.cellsOf 3 = 1 := by kernel_rfl
  have hlen : (clI l).length = n := by simp [clI, hl]
  have hf : (Value.agg (clI l).toArray).formed Try.prog T = true := by simp [Value.formed, hT, hcs, hlen]
  obtain ⟨m, hm⟩ : ∃ m, Try.prog.types.size = m := ⟨_, rfl⟩
  obtain ⟨m', hm'⟩ : ∃ m', m = m' + 1 := ⟨m - 1, by have : 0 < Try.prog.types.size := of_decide_eq_true (by kernel_rfl); omega⟩
  have hk2 : ∃ ls, Try.prog.keyLits (Try.prog.types.size + 1) T (clI l) = some ls := by
    rw [hm]
    simp only [Program.keyLits, hT, hcs, hlen, hfs, and_self, if_true]
    obtain ⟨ys, hys⟩ := mapM_some (fun f : Field => Try.prog.keyLits m f.type (((clI l).drop f.offset).take (Try.prog.cellsOf f.type))) fs.toList (fun f hf => by
      obtain ⟨h1, h2⟩ := hft f hf
      have hi' : f.offset < l.length := by omega
      refine ⟨[.int .i64 l[f.offset]], ?_⟩
      rw [h1, hci]
      have : ((clI l).drop f.offset).take 1 = [.int .i64 l[f.offset]] := by
        rw [clI, ← List.map_drop, List.drop_eq_getElem_cons hi']; rfl
      rw [this, hm']; exact lit_int m' (hw _ (List.getElem_mem hi')))
    exact ⟨_, by rw [hys]; rfl⟩
  obtain ⟨ls, hls⟩ := hk2
  refine ⟨.string (keyBytes ls), ?_⟩
  have hls' : Try.prog.keyLits (Try.prog.types.size + 1) T (Value.agg (clI l).toArray).cells.toList = some ls := by simpa [Value.cells] using hls
  unfold keyOf
  rw [hT]
  simp only [hk, hf, Bool.and_self, if_true]
  rw [hls']; rfl
theorem keyInner (l : List Int) (hl : l.length = 4) (hw : ∀ x ∈ l, (Lit.int .i64 x).wf = true) : ∃ k, keyOf Try.prog 189 (.agg (clI l).toArray) = some k :=
  keyInts 189 _ 4 Try.underlying189 (by kernel_rfl) (by kernel_rfl) (by kernel_rfl) (fun f hf => by simp at hf; rcases hf with rfl | rfl | rfl | rfl <;> exact ⟨rfl, by decide⟩) l hl hw
theorem keyOuter (l : List Int) (hl : l.length = 3) (hw : ∀ x ∈ l, (Lit.int .i64 x).wf = true) : ∃ k, keyOf Try.prog 65 (.agg (clI l).toArray) = some k :=
  keyInts 65 _ 3 Try.underlying65 (by kernel_rfl) (by kernel_rfl) (by kernel_rfl) (fun f hf => by simp at hf; rcases hf with rfl | rfl | rfl <;> exact ⟨rfl, by decide⟩) l hl hw
end Go.Proofs.Ytogidfagkgccmaa

/-
  A map that counts: what it holds after so many keys. Conditions are each theorem's own.
-/
namespace Go.Proofs.Ytogidfagkgccmaa
open Go.RowKit Go.Maps Go.WideMaps Go.WideElems Go.MapKept Go.ChangeMaps

structure KeyFam {X : Type} (k : TypeId) (kv : X → Value) (V : X → Prop) : Prop where
  K : Keyed Try.prog k
  has : ∀ x, V x → ∃ l, keyOf Try.prog k (kv x) = some l
  inj : ∀ x y, V x → V y → kv x = kv y → x = y
def zi (c : Int) : DataW Unit := .lit (.int .i64 c)
theorem zeroInt20 (w : World) : (zeroValue 3).run Try.prog w = .ok (.int .i64 0) w := by kernel_rfl
section
variable {X : Type} [DecidableEq X] {T k : TypeId} {kv : X → Value} {V : X → Prop} {w : World} {b n : Nat} {ds : List X}
/-- Block b of w counts the keys of ds. -/
def Hist (k : TypeId) (kv : X → Value) (V : X → Prop) (w : World) (b n : Nat) (ds : List X) : Prop :=
  ∃ D : DataW Unit, w.ownsMap Try.prog k (plainElem Try.prog 3) b n D ∧ ∀ x l, V x → keyOf Try.prog k (kv x) = some l → D.atKey l (zi 0) = zi (ds.count x)
theorem Hist.made (w : World) : Hist k kv V (w.alloc (.map #[] 0)) w.heap.size 0 [] := ⟨_, World.ownsMap_made w _ _ _, fun _ _ _ _ => rfl⟩
theorem Hist.of_block {w' : World} (h : Hist k kv V w b n ds) (e : w'.heap[b]? = w.heap[b]?) : Hist k kv V w' b n ds := by
  obtain ⟨D, ⟨es, clock, hb, F, hs, hD⟩, hc⟩ := h
  exact ⟨D, ⟨es, clock, e.trans hb, F, hs, hD⟩, hc⟩
theorem Hist.lt (h : Hist k kv V w b n ds) : b < w.heap.size := by
  obtain ⟨D, ho, _⟩ := h
  exact ho.lt
theorem Hist.look (h : Hist k kv V w b n ds) (F : KeyFam k kv V) (hT : Try.prog.underlying T = some (.map k 3)) {x : X} (hx : V x) :
    (Instr.lookup T (.map (some b)) (kv x) false).run Try.prog w = .ok (.int .i64 (ds.count x : Int)) w := by
  obtain ⟨D, ho, hc⟩ := h
  obtain ⟨l, hl⟩ := F.has x hx
  obtain ⟨c, hrun, hat, _⟩ := ho.lookup_int F.K hT Try.underlying3 (zeroInt20 w) hl
  have h1 := hc x l hx hl
  have h2 : zi c = zi (ds.count x) := hat.symm.trans h1
  have h3 : c = (ds.count x : Int) := by simpa [zi] using h2
  rw [hrun, h3]
theorem Hist.put (h : Hist k kv V w b n ds) (F : KeyFam k kv V) (hT : Try.prog.underlying T = some (.map k 3)) (hn : n < maxLen) {x : X} (hx : V x) (hw : (Lit.int .i64 ((ds.count x : Int) + 1)).wf = true) :
    ∃ w', (Instr.mapUpdate T (.map (some b)) (kv x) (.int .i64 ((ds.count x : Int) + 1))).run Try.prog w = .ok () w' ∧ Hist k kv V w' b (n + 1) (ds ++ [x]) ∧ w.grownBy w' (some b) := by
  obtain ⟨D, ho, hc⟩ := h
  obtain ⟨l, hl⟩ := F.has x hx
  obtain ⟨w', hrun, ho', hg⟩ := ho.update F.K hT hn hl (plainElem_int Try.underlying3 hw)
  refine ⟨w', hrun, ⟨_, ho', fun y m hy hm => ?_⟩, hg⟩
  have hM : IsMap D := by obtain ⟨es, clock, _, _, _, e⟩ := ho; exact ⟨_, e⟩
  by_cases e : x = y
  · subst e
    obtain rfl : l = m := Option.some.inj (hl.symm.trans hm)
    rw [atKey_put_same hM (F.K.key hl)]
    simp [zi]
  · have hne : m ≠ l := fun e2 => e (F.inj x y hx hy (F.K.inj hl (e2 ▸ hm)))
    rw [atKey_put_other hne, hc y m hy hm]
    simp [zi, List.count_append, e]
end
section
variable {H : Type} {P : Program} {w : World} {t k e : TypeId} {R : Value → Option (DataW H × List MemPlace)} {b : Nat} {es : Array MapEntry} {clock : Nat}
theorem entry_two (K : KeyLaw P k) (ht : P.underlying t = some (.map k e)) {z : Value} (hz : ∀ u : World, (zeroValue e).run P u = .ok z u) (hb : w.heap[b]? = some (.map es clock)) (F : Fit P k R es clock)
    {key : Value} {kl : Lit} (hkey : keyOf P k key = some kl) :
    (∃ v0 st, (Instr.mapEntry t (.map (some b)) key).run P w = .ok (.tuple #[v0, goInt st]) (setBlock w b (.map es clock))) ∨
    ((∀ x ∈ es.toList, x.key ≠ key) ∧ (Instr.mapEntry t (.map (some b)) key).run P w = .ok (.tuple #[z, goInt clock]) (setBlock w b (.map (es.push ⟨key, z, clock⟩) (clock + 1)))) := by
  rcases K.find w hkey es.toList F.keys with ⟨h1, h2⟩ | ⟨j, e0, h1, h2, h3⟩
  · refine .inr ⟨h2, ?_⟩
    simp [Instr.mapEntry, run_underlying ht, MapKept.run_getObj_map hb, K.check w false hkey, h1, hz, MapKept.run_setObj_map _ hb, Result.andThen, setBlock]
  · have hj : es[j]? = some e0 := by simpa using h2
    have hsame : es.modify j (fun e => { e with key := key }) = es := by
      apply Array.ext'
      rw [Array.toList_modify, modify_eq_set _ _ _ _ h2]
      have : ({ e0 with key := key } : MapEntry) = e0 := by rw [← h3]
      rw [this]
      exact set_self _ _ _ h2
    refine .inl ⟨e0.val, e0.born, ?_⟩
    simp [Instr.mapEntry, run_underlying ht, MapKept.run_getObj_map hb, K.check w false hkey, h1, hj, h3, K.stays w hkey, hsame, MapKept.run_setObj_map _ hb, Result.andThen, setBlock]
theorem look_new (K : KeyLaw P k) (ht : P.underlying t = some (.map k e)) {z : Value} {w2 : World} (F : Fit P k R es clock) {key : Value} {kl : Lit} (hkey : keyOf P k key = some kl) (hne : ∀ x ∈ es.toList, x.key ≠ key)
    (h2 : w2.heap[b]? = some (.map (es.push ⟨key, z, clock⟩) (clock + 1))) : (Instr.lookup t (.map (some b)) key false).run P w2 = .ok z w2 := by
  have hk : ∀ x ∈ (es.push ⟨key, z, clock⟩).toList, ∃ l, keyOf P k x.key = some l := fun x hx => by
    rw [Array.toList_push] at hx
    rcases List.mem_append.1 hx with h | h
    · exact F.keys x h
    · simp at h; subst h; exact ⟨kl, hkey⟩
  rcases K.find w2 hkey _ hk with ⟨_, h4⟩ | ⟨j, e0, h4, h5, h6⟩
  · exact absurd rfl (h4 ⟨key, z, clock⟩ (by simp))
  · have hm := List.mem_of_getElem? h5
    rw [Array.toList_push] at hm
    have he : e0.val = z := by
      rcases List.mem_append.1 hm with h | h
      · exact absurd h6 (hne e0 h)
      · simp at h; subst h; rfl
    have h4' : (Instr.findKey k key (es.toList ++ [⟨key, z, clock⟩])).run P w2 = .ok (some (j, e0.val)) w2 := by rw [← Array.toList_push]; exact h4
    simp [Instr.lookup, run_underlying ht, MapKept.run_getObj_map h2, K.check w2 _ hkey, h4', he, Result.andThen]
end
section
variable {X : Type} [DecidableEq X] {T k : TypeId} {kv : X → Value} {V : X → Prop} {w : World} {b n : Nat} {ds : List X}
theorem Hist.entry (h : Hist k kv V w b n ds) (KL : KeyLaw Try.prog k) (F : KeyFam k kv V) (hT : Try.prog.underlying T = some (.map k 3)) (hn : n < maxLen) {x : X} (hx : V x) (hw : (Lit.int .i64 ((ds.count x : Int) + 1)).wf = true) :
    ∃ (v0 : Value) (st : Nat) (o1 o2 : Obj), (Instr.mapEntry T (.map (some b)) (kv x)).run Try.prog w = .ok (.tuple #[v0, goInt st]) (setBlock w b o1) ∧
      (∀ w2 : World, w2.heap[b]? = some o1 → (Instr.lookup T (.map (some b)) (kv x) false).run Try.prog w2 = .ok (.int .i64 (ds.count x : Int)) w2) ∧
      (∀ w2 : World, w2.heap[b]? = some o1 → (Instr.entryStore T (.map (some b)) (goInt st) (.int .i64 ((ds.count x : Int) + 1))).run Try.prog w2 = .ok () (setBlock w2 b o2)) ∧
      ∀ w3 : World, w3.heap[b]? = some o2 → Hist k kv V w3 b (n + 1) (ds ++ [x]) := by
  obtain ⟨wu, hu, hist, _⟩ := h.put F hT hn hx hw
  have hlk := fun (w2 : World) (e : w2.heap[b]? = w.heap[b]?) => (h.of_block e).look F hT hx
  have h0 := h
  obtain ⟨D, ⟨es, clock, hb, Ft, hs, hD⟩, hc⟩ := h0
  obtain ⟨l, hl⟩ := F.has x hx
  obtain ⟨v0, st, es1, clock1, hE, _, hS⟩ := entry_then_store (t := T) KL hT (zeroInt20) hb Ft hl
  have hL : ∀ w2 : World, w2.heap[b]? = some (.map es1 clock1) → (Instr.lookup T (.map (some b)) (kv x) false).run Try.prog w2 = .ok (.int .i64 (ds.count x : Int)) w2 := by
    intro w2 h2
    rcases entry_two (t := T) KL hT (zeroInt20) hb Ft hl with ⟨v1, st1, hE1⟩ | ⟨hne, hE1⟩
    · have := hE.symm.trans hE1
      simp only [Result.ok.injEq] at this
      have e2 := congrArg (fun w : World => w.heap[b]?) this.2
      simp only [heap_setBlock_same hb] at e2
      exact hlk w2 (by rw [h2, e2, hb])
    · have := hE.symm.trans hE1
      simp only [Result.ok.injEq] at this
      have e2 := congrArg (fun w : World => w.heap[b]?) this.2
      simp only [heap_setBlock_same hb] at e2
      have hz := look_new (w2 := w2) (b := b) (t := T) KL hT Ft hl hne (by rw [h2, e2])
      have h3 := hlk w rfl
      rcases KL.find w hl es.toList Ft.keys with ⟨h4, _⟩ | ⟨j, e0, _, h5, h6⟩
      · have h7 : (Instr.lookup T (.map (some b)) (kv x) false).run Try.prog w = .ok (.int .i64 0) w := by
          simp [Instr.lookup, run_underlying hT, MapKept.run_getObj_map hb, KL.check w _ hl, h4, Result.andThen]
        have h8 := h3.symm.trans h7
        simp only [Result.ok.injEq, Value.int.injEq] at h8
        rw [hz, h8.1.2]
      · exact absurd h6 (hne e0 (List.mem_of_getElem? h5))
  obtain ⟨es2, clock2, hS1, hU1⟩ := hS (setBlock w b (.map es1 clock1)) (.int .i64 ((ds.count x : Int) + 1)) (heap_setBlock_same hb _)
  refine ⟨v0, st, .map es1 clock1, .map es2 clock2, hE, hL, fun w2 h2 => ?_, fun w3 h3 => ?_⟩
  · obtain ⟨es3, clock3, hS3, hU3⟩ := hS w2 (.int .i64 ((ds.count x : Int) + 1)) h2
    have := hU1.symm.trans hU3
    simp only [Result.ok.injEq, true_and] at this
    have e2 := congrArg (fun w : World => w.heap[b]?) this
    simp only [heap_setBlock_same hb] at e2
    rw [hS3, Option.some.inj e2]
  · have := hU1.symm.trans hu
    simp only [Result.ok.injEq, true_and] at this
    refine hist.of_block ?_
    rw [h3, ← this, heap_setBlock_same hb]
end
end Go.Proofs.Ytogidfagkgccmaa

/-
  Arguments that came in, opened by their types: what a walk is told of each. Conditions are each theorem's own.
-/
namespace Go.Proofs.Ytogidfagkgccmaa
open Go.RowKit Go.ChangeShapes Go.WideShapes

/-- A slice of integers that came in: nil, or a row of 'cap' cells that hold the numbers 'zs', each fitting its kind. -/
def IsRow (k : IntKind) (w : World) (a : Option Addr) (len cap : Nat) (zs : List Int) : Prop :=
  (a = none ∧ len = 0 ∧ cap = 0 ∧ zs = []) ∨
  ∃ x, a = some x ∧ len ≤ cap ∧ cap ≤ maxLen ∧ zs.length = cap ∧ (∀ i, i < zs.length → w.cell? (x.add i) = some (.int k (zs.getD i 0))) ∧ ∀ n ∈ zs, (Lit.int k n).wf = true

theorem arg_of_row {w : World} {a : Option Addr} {len cap : Nat} {zs : List Int} (h : IsRow .u8 w a len cap zs) : ∃ bs : List UInt8, len = bs.length ∧ Arg w w.heap.size a cap bs := by
  rcases h with ⟨rfl, rfl, rfl, rfl⟩ | ⟨x, rfl, hl, hm, hz, hcell, hwz⟩
  · exact ⟨[], rfl, Arg.nil _ _⟩
  · refine ⟨(zs.take len).map fun z => UInt8.ofNat z.toNat, by simp; omega, fun hn => ?_, by simp; omega, fun e => by cases e⟩
    have hn' : 0 < len := by simp at hn; omega
    have hc0 := hcell 0 (by omega)
    have hlt := cell_block hc0
    obtain ⟨b, off, spot⟩ := x
    have hspot : spot = none := by simpa [Addr.add] using World.cell?_spot hc0
    subst hspot
    refine ⟨b, off, rfl, by simpa [Addr.add] using hlt, fun j hj => ?_⟩
    have hj' : j < zs.length := by simp at hj; omega
    have hjl : j < len := by simp at hj; omega
    have hc := hcell j hj'
    rw [add_off] at hc
    rw [hc]
    have hb := range_u8 hwz j
    simp only [byt, List.getElem?_map, List.getElem?_take, if_pos hjl, List.getElem?_eq_getElem hj', Option.map_some, Option.getD_some, List.getD_eq_getElem?_getD] at hb ⊢
    simp [UInt8.toNat_ofNat']
    omega

section
variable {H : Type} {enc : TypeId × Value → H} {P : Program} {w : World} {base : Nat} {t e : TypeId} {v : Value} {d : DataW H} {p : List MemPlace}
theorem Trod_lt (h : DataW.Trod enc P w 0 (fun _ => true) true t v d p) : ∀ x ∈ p, x.block < w.heap.size := by
  obtain ⟨m, hm⟩ := h; exact DataW.trod_lt m _ _ _ hm
theorem get_int {k : IntKind} (ht : P.underlying t = some (.int k)) (hv : Value.okWide P w .any base t v) (h : DataW.Trod enc P w 0 (fun _ => true) true t v d p) :
    ∃ n, v = .int k n ∧ (Lit.int k n).wf = true := by
  obtain ⟨n, e, _, _, hw⟩ := open_int ht hv h
  exact ⟨n, e, hw⟩
theorem get_bool (ht : P.underlying t = some .bool) (hv : Value.okWide P w .any base t v) (h : DataW.Trod enc P w 0 (fun _ => true) true t v d p) :
    ∃ b, v = .bool b := by
  obtain ⟨b, e, _⟩ := open_bool ht hv h
  exact ⟨b, e⟩
theorem get_str (ht : P.underlying t = some .string) (hv : Value.okWide P w .any base t v) (h : DataW.Trod enc P w 0 (fun _ => true) true t v d p) :
    ∃ s : ByteArray, v = .string s ∧ s.size ≤ maxLen := by
  obtain ⟨s, e, _, _, hw⟩ := Go.ChangeMaps.open_string ht hv h
  exact ⟨s, e, hw⟩
theorem get_row {k : IntKind} (ht : P.underlying t = some (.slice e)) (he : P.underlying e = some (.int k)) (hc : P.cellsOf e = 1) (hv : Value.okWide P w .any base t v) (h : DataW.Trod enc P w 0 (fun _ => true) true t v d p) :
    ∃ A len cap zs, v = .slice A len cap ∧ IsRow k w A len cap zs := by
  obtain ⟨A, len, cap, rfl⟩ := okWide_slice ht hv
  obtain ⟨fuel, hf⟩ := h
  rcases open_ints ht he hc hf with ⟨hcs, _⟩ | ⟨x, l, c, zs, hcs, _, hl, hm, hz, _, hcell, hwz⟩
  · simp [Value.cells] at hcs
    obtain ⟨rfl, rfl, rfl⟩ := hcs
    exact ⟨_, _, _, [], rfl, .inl ⟨rfl, rfl, rfl, rfl⟩⟩
  · simp [Value.cells] at hcs
    obtain ⟨rfl, rfl, rfl⟩ := hcs
    exact ⟨_, _, _, zs, rfl, .inr ⟨_, rfl, hl, hm, by simpa using hz, hcell, hwz⟩⟩
theorem get_bytes (ht : P.underlying t = some (.slice e)) (he : P.underlying e = some (.int .u8)) (hc : P.cellsOf e = 1) (hv : Value.okWide P w .any base t v) (h : DataW.Trod enc P w 0 (fun _ => true) true t v d p) :
    ∃ A c bs, v = .slice A bs.length c ∧ Arg w w.heap.size A c bs ∧ c ≤ maxLen := by
  obtain ⟨A, len, cap, zs, rfl, hr⟩ := get_row ht he hc hv h
  obtain ⟨bs, rfl, ha⟩ := arg_of_row hr
  refine ⟨A, cap, bs, rfl, ha, ?_⟩
  rcases hr with ⟨_, _, rfl, _⟩ | ⟨_, _, _, hm, _⟩
  · exact Nat.zero_le _
  · exact hm
theorem get_ints (ht : P.underlying t = some (.slice e)) (he : P.underlying e = some (.int .i64)) (hc : P.cellsOf e = 1) (hv : Value.okWide P w .any base t v) (h : DataW.Trod enc P w 0 (fun _ => true) true t v d p) :
    ∃ A c zs, v = .slice A zs.length c ∧ RdI w w.heap.size A zs ∧ zs.length ≤ c ∧ c ≤ maxLen ∧ ∀ n ∈ zs, (Lit.int .i64 n).wf = true := by
  obtain ⟨A, len, cap, zs, rfl, hr⟩ := get_row ht he hc hv h
  rcases hr with ⟨rfl, rfl, rfl, rfl⟩ | ⟨x, rfl, hl, hm, hz, hcell, hwz⟩
  · exact ⟨none, 0, [], rfl, fun hn => absurd hn (by simp), Nat.le_refl _, Nat.zero_le _, by simp⟩
  · have e1 : (zs.take len).length = len := by simp; omega
    refine ⟨some x, cap, zs.take len, by rw [e1], fun hn => ?_, by omega, hm, fun n hn => hwz n (List.mem_of_mem_take hn)⟩
    have hc0 := hcell 0 (by omega)
    have hlt := cell_block hc0
    obtain ⟨b, off, spot⟩ := x
    have hspot : spot = none := by simpa [Addr.add] using World.cell?_spot hc0
    subst hspot
    refine ⟨b, off, rfl, by simpa [Addr.add] using hlt, fun j hj => ?_⟩
    have hc := hcell j (by omega)
    rw [add_off] at hc
    rw [hc]
    congr 2
    simp only [List.getD_eq_getElem?_getD, List.getElem?_take]
    rw [if_pos (by omega)]
end
end Go.Proofs.Ytogidfagkgccmaa

/-
  An address of IPv6 that came in, opened. Conditions are each theorem's own.
-/
namespace Go.Proofs.Ytogidfagkgccmaa
open Go.RowKit Go.ChangeShapes Go.WideShapes

/-- A cell's byte. -/
def celB : Value → UInt8
  | .int _ n => UInt8.ofNat n.toNat
  | _ => 0
section
variable {H : Type} {enc : TypeId × Value → H} {P : Program} {w : World} {base : Nat} {t e : TypeId} {v : Value} {d : DataW H} {p : List MemPlace}
theorem cells_six {m fuel : Nat} {cs : List Value} {x : DataW H × List MemPlace} (ht : P.underlying t = some (.array m e)) (he : P.underlying e = some (.int .u8)) (hc : P.cellsOf e = 1) (hm : P.cellsOf t = m)
    (h : DataW.trod enc P w 0 (fun _ => true) true fuel t cs = some x) : ∃ a : List UInt8, a.length = m ∧ cs = row a := by
  obtain ⟨xs, k, _, _, hl, hxs, hall⟩ := DataW.trod_array ht h
  rw [hm] at hl
  have each : ∀ i, i < m → ∃ n : Int, cs[i]? = some (.int .u8 n) ∧ 0 ≤ n ∧ n ≤ 255 := by
    intro i hi
    have h1 := hall i hi
    rw [hc, Nat.mul_one, List.getElem?_eq_getElem (by omega)] at h1
    obtain ⟨n, hn, _, hw⟩ := DataW.trod_int he h1
    have h0 := congrArg (·[0]?) hn
    simp only [List.getElem?_take, List.getElem?_drop, List.getElem?_cons_zero, Nat.zero_lt_one, if_true, Nat.add_zero] at h0
    exact ⟨n, h0, bounds_u8 hw⟩
  refine ⟨cs.map celB, by simp [hl], ?_⟩
  refine List.ext_getElem? fun i => ?_
  by_cases hi : i < m
  · obtain ⟨n, hn, h0, h1⟩ := each i hi
    rw [hn]
    simp [row, hn, celB, UInt8.toNat_ofNat']
    omega
  · rw [List.getElem?_eq_none (by omega), List.getElem?_eq_none (by simp [row]; omega)]
theorem get_six (ht : P.underlying t = some (.array 16 e)) (he : P.underlying e = some (.int .u8)) (hc : P.cellsOf e = 1) (hm : P.cellsOf t = 16) (hv : Value.okWide P w .any base t v) (h : DataW.Trod enc P w 0 (fun _ => true) true t v d p) :
    ∃ a : List UInt8, v = .agg (cel a) ∧ a.length = 16 := by
  obtain ⟨cs, rfl, _⟩ : ∃ cs, v = .agg cs ∧ True := by
    have := hv
    simp only [Value.okWide, ht] at this
    cases v <;> simp_all
  obtain ⟨fuel, hf⟩ := h
  obtain ⟨a, ha, hcs⟩ := cells_six ht he hc hm hf
  refine ⟨a, ?_, ha⟩
  simp only [Value.cells] at hcs
  rw [cel, ← hcs]
end
end Go.Proofs.Ytogidfagkgccmaa

/-
  Contracts of the document's plain answers of layer 2: Add, Of, Right, Change. Conditions are each theorem's own.
-/
namespace Go.Proofs.Ytogidfagkgccmaa
open Go.RowKit

end Go.Proofs.Ytogidfagkgccmaa

/-
  What the statements of layers 1 and 2 share on arguments that came in. Conditions: none.
-/

/-
  Contracts of layer 2's helpers: few, zero, awake. Conditions are each theorem's own.
-/
namespace Go.Proofs.Ytogidfagkgccmaa
open Go.RowKit

theorem Rd2.of_cells {w : World} {B g t : Nat} {cs : Array Value} {ps : List (List UInt8)} (hg : w.heap[g]? = some (.cells cs t (0, 0))) (hB : g < B)
    (hc : ∀ (j : Nat) (bs : List UInt8), ps[j]? = some bs → ∃ Aj cj, cs[j]? = some (.slice Aj bs.length cj) ∧ Arg w B Aj cj bs) : Rd2 w B (some ⟨g, 0, none⟩) ps := fun _ =>
  ⟨g, 0, rfl, hB, fun j bs hj => by
    obtain ⟨Aj, cj, h1, h2⟩ := hc j bs hj
    exact ⟨Aj, cj, by rw [cell_of_row w g (0 + j) cs t (0, 0) hg, Nat.zero_add]; exact h1, h2⟩⟩
theorem Rd2.one {w : World} {B g t : Nat} {A : Option Addr} {c : Nat} {bs : List UInt8} (hg : w.heap[g]? = some (.cells #[.slice A bs.length c] t (0, 0))) (hB : g < B) (h : Arg w B A c bs) : Rd2 w B (some ⟨g, 0, none⟩) [bs] :=
  Rd2.of_cells hg hB fun j b hj => by
    cases j with
    | zero => simp at hj; subst hj; exact ⟨A, c, rfl, h⟩
    | succ j => simp at hj
/-- A new block of bytes as it is handed over. -/
theorem Arg.new {w : World} {g t : Nat} {cs : Array Value} {bs : List UInt8} (hg : w.heap[g]? = some (.cells cs t (0, 0))) (hc : ∀ j, j < bs.length → cs[j]? = some (.int .u8 (byt bs j))) (c : Nat) (hl : bs.length ≤ c) :
    Arg w w.heap.size (some ⟨g, 0, none⟩) c bs := ⟨Rd.of_block hg (heap_lt hg) 0 (fun j hj => by rw [Nat.zero_add]; exact hc j hj), hl, fun e => by cases e⟩

def eight : List UInt8 := [0, 1, 242, 3, 244, 245, 246, 247]
/-! ### few -/
def fewB (ps : List (List UInt8)) : Bool := decide (ps.length ≤ 40) && ps.all (fun b => decide (b.length ≤ 2000)) && decide (bulk ps ≤ 8000)
theorem few_yes {ps : List (List UInt8)} (h : fewB ps = true) : ps.length ≤ 40 ∧ bulk ps ≤ 8000 := by
  simp [fewB] at h; exact ⟨h.1.1, h.2⟩

theorem few_long {ps : List (List UInt8)} (h : 40 < ps.length) : fewB ps = false := by
  have : decide (ps.length ≤ 40) = false := by simp; omega
  simp [fewB, this]
theorem few_big {ps : List (List UInt8)} {k : Nat} {bs : List UInt8} (hb : ps[k]? = some bs) (h : 2000 < bs.length) : fewB ps = false := by
  have : ps.all (fun b => decide (b.length ≤ 2000)) = false := by
    rw [List.all_eq_false]; exact ⟨bs, List.mem_of_getElem? hb, by simp; omega⟩
  simp [fewB, this]
theorem few_end {ps : List (List UInt8)} (h : ps.length ≤ 40) (ha : ∀ b ∈ ps, b.length ≤ 2000) : fewB ps = decide ((bulk ps : Int) ≤ 8000) := by
  have h1 : ps.all (fun b => decide (b.length ≤ 2000)) = true := by rw [List.all_eq_true]; intro b hb; simpa using ha b hb
  rw [Bool.eq_iff_iff]; simp [fewB, h, h1]; omega

/-! ### zero -/
def zeroB (ps : List (List UInt8)) : Bool := ps.all fun b => b.all fun x => x == 0
theorem zero_no {ps : List (List UInt8)} {k j : Nat} {bs : List UInt8} (hb : ps[k]? = some bs) (hj : j < bs.length) (h : byt bs j ≠ 0) : zeroB ps = false := by
  unfold zeroB
  rw [List.all_eq_false]
  refine ⟨bs, List.mem_of_getElem? hb, ?_⟩
  simp only [Bool.not_eq_true, List.all_eq_false]
  refine ⟨bs[j], List.getElem_mem hj, ?_⟩
  have : bs[j] ≠ 0 := fun e => h (by simp [byt, hj, e])
  simpa using this
theorem byt_zero {bs : List UInt8} (h : ∀ j, j < bs.length → byt bs j = 0) : ∀ x ∈ bs, x = 0 := by
  intro x hx
  obtain ⟨j, hj, rfl⟩ := List.getElem_of_mem hx
  have := h j hj
  simp [byt, hj] at this
  exact UInt8.toNat_inj.1 (by simpa using this)

/-! ### Sums behind bytes -/
theorem byt_left {a b : List UInt8} {j : Nat} (h : j < a.length) : byt (a ++ b) j = byt a j := by unfold byt; rw [List.getElem?_append_left h]
theorem byt_right {a b : List UInt8} {j : Nat} : byt (a ++ b) (a.length + j) = byt b j := by
  unfold byt; rw [List.getElem?_append_right (by omega), Nat.add_sub_cancel_left]
theorem wsum_left {a b : List UInt8} : ∀ {k : Nat}, 2 * k ≤ a.length → wsum (a ++ b) k = wsum a k
  | 0, _ => rfl
  | k + 1, h => by
    rw [wsum_succ, wsum_succ, wsum_left (by omega), wrd, wrd, byt_left (by omega), byt_left (by omega)]
theorem wall_two {a : List UInt8} {m : Nat} (h : a.length = 2 * m) (x y : UInt8) : wall (a ++ [x, y]) = wall a + ((x.toNat : Int) * 256 + (y.toNat : Int)) := by
  have e1 : prs (a ++ [x, y]).length = m + 1 := by rw [List.length_append, h]; unfold prs; simp; omega
  have e2 : prs a.length = m := by rw [h]; unfold prs; omega
  rw [wall, wall, e1, e2, wsum_succ, wsum_left (by omega)]
  have e3 : wrd (a ++ [x, y]) m = (x.toNat : Int) * 256 + (y.toNat : Int) := by
    have h0 : byt (a ++ [x, y]) (2 * m) = (x.toNat : Int) := by have := byt_right (a := a) (b := [x, y]) (j := 0); rw [h, Nat.add_zero] at this; rw [this]; rfl
    have h1 : byt (a ++ [x, y]) (2 * m + 1) = (y.toNat : Int) := by have := byt_right (a := a) (b := [x, y]) (j := 1); rw [h] at this; rw [this]; rfl
    rw [wrd, h0, h1]
  rw [e3]
theorem wall_pair (x y : UInt8) : wall [x, y] = (x.toNat : Int) * 256 + (y.toNat : Int) := by
  have := wall_two (a := []) (m := 0) rfl x y
  simpa [wall, prs, wsum] using this
theorem fold_right {S : Int} (h : 0 ≤ S) : fold (S + (65535 - fold S)) = 65535 := by
  unfold fold; split <;> (split <;> omega)
/-- The two bytes of a sum. -/
def hi (n : Int) : UInt8 := UInt8.ofNat (n / 256).toNat
def lo (n : Int) : UInt8 := UInt8.ofNat (n % 256).toNat
theorem hi_val {n : Int} (h0 : 0 ≤ n) (h1 : n ≤ 65535) : ((hi n).toNat : Int) = n / 256 := by simp only [hi, UInt8.toNat_ofNat']; omega
theorem lo_val (n : Int) : ((lo n).toNat : Int) = n % 256 := by simp only [lo, UInt8.toNat_ofNat']; omega
theorem hi_lo {n : Int} (h0 : 0 ≤ n) (h1 : n ≤ 65535) : ((hi n).toNat : Int) * 256 + ((lo n).toNat : Int) = n := by rw [hi_val h0 h1, lo_val n]; omega
theorem right_sum {a : List UInt8} {m : Nat} (h : a.length = 2 * m) : rightB [a ++ [hi (65535 - fold (psum [a])), lo (65535 - fold (psum [a]))]] = true := by
  have hb := fold_bd (psum [a])
  have hp : psum [a] = wall a := by simp [psum]
  have hw := wall_bd a
  have e : psum [a ++ [hi (65535 - fold (psum [a])), lo (65535 - fold (psum [a]))]] = wall a + (65535 - fold (psum [a])) := by
    rw [show psum [a ++ [hi (65535 - fold (psum [a])), lo (65535 - fold (psum [a]))]] = wall (a ++ [hi (65535 - fold (psum [a])), lo (65535 - fold (psum [a]))]) from by simp [psum], wall_two h, hi_lo (by omega) (by omega)]
  rw [rightB, e, hp, fold_right hw.1]; rfl

theorem Rd.pair {W : World} {u v : Int} {x y : UInt8} (t : TypeId) (h : u = (x.toNat : Int)) (h' : v = (y.toNat : Int)) : Rd (W.alloc (.cells #[.int .u8 u, .int .u8 v] t)) (W.heap.size + 1) (some ⟨W.heap.size, 0, none⟩) [x, y] :=
  Rd.of_block (g := W.heap.size) (World.alloc_heap_new W _) (Nat.lt_succ_self _) 0 (fun j hj => by
    have : j = 0 ∨ j = 1 := by simp at hj; omega
    rcases this with rfl | rfl
    · simp [h, byt]
    · simp [h', byt])
theorem Made.arg {w w' : World} {A : Option Addr} {c : Nat} {bs : List UInt8} (h : w'.ownsRow w.heap.size 5 1 (.slice A bs.length c) bs.length (row bs)) : Arg w' w'.heap.size A c bs := by
  refine ⟨Rd.of_own rfl h, ?_, ?_⟩
  · rcases h.2 with ⟨e, h0⟩ | ⟨g, cap, cur, e, _, _, hle, _⟩
    · omega
    · injection e with _ _ e3; omega
  · rcases h.2 with ⟨e, h0⟩ | ⟨g, cap, cur, e, _, _, hle, _⟩
    · intro _; injection e with _ _ e3
    · intro e'; injection e with e1 _ _; rw [e'] at e1; cases e1
/-- The even part of a slice that came in. -/
theorem Arg.even {w : World} {B : Nat} {A : Option Addr} {c : Nat} {bs : List UInt8} (h : Arg w B A c bs) : Arg w B A c (bs.take (bs.length / 2 * 2)) := by
  have hl : (bs.take (bs.length / 2 * 2)).length = bs.length / 2 * 2 := by rw [List.length_take]; omega
  refine ⟨fun hn => ?_, by have := h.cap; omega, h.none_⟩
  obtain ⟨b, off, e, hb, hc⟩ := h.rd (by omega)
  refine ⟨b, off, e, hb, fun j hj => ?_⟩
  have hbt : byt (bs.take (bs.length / 2 * 2)) j = byt bs j := by unfold byt; rw [List.getElem?_take, if_pos (by omega)]
  rw [hbt]
  exact hc j (by omega)
theorem even_len (bs : List UInt8) : (bs.take (bs.length / 2 * 2)).length = bs.length / 2 * 2 := by rw [List.length_take]; omega

theorem own_below {w w' : World} {base e size n : Nat} {v : Value} {xs : List Value} (h : w.ownsRow base e size v n xs) (hb : Below w.heap.size w w') : w'.ownsRow base e size v n xs := by
  obtain ⟨h1, h2⟩ := h
  refine ⟨h1, ?_⟩
  rcases h2 with h2 | ⟨g, cap, cur, hv, hg, hh, r⟩
  · exact .inl h2
  · exact .inr ⟨g, cap, cur, hv, hg, (hb.block g (heap_lt hh)).trans hh, r⟩
theorem clone_n (A : Option Addr) (bs : List UInt8) (c B n : Nat) (hn : Hid (bs.length = n)) (w : World) (h : Arg w B A c bs) (hB : B ≤ w.heap.size) (hl : bs.length ≤ 1099511627776) :
    Calls Try.prog 154 #[.slice A n c] w fun e w' => ∃ v, e = .returned v ∧ Made w w' v bs := by
  have h1 := clone_any A bs c B w h hB hl
  rw [hn.out] at h1
  exact h1
theorem Rd2.one_n {w : World} {B g t n : Nat} {A : Option Addr} {c : Nat} {bs : List UInt8} (hn : n = bs.length) (hg : w.heap[g]? = some (.cells #[.slice A n c] t (0, 0))) (hB : g < B) (h : Arg w B A c bs) : Rd2 w B (some ⟨g, 0, none⟩) [bs] := by
  subst hn; exact Rd2.one hg hB h
theorem Made.arg_n {w w' : World} {A : Option Addr} {c n : Nat} {bs : List UInt8} {xs : List Value} (hn : n = bs.length) (hx : xs = row bs) (h : w'.ownsRow w.heap.size 5 1 (.slice A n c) n xs) : Arg w' w'.heap.size A c bs := by
  subst hn; subst hx; exact Made.arg h

/-! ### A sum stays right -/
theorem wsum_zero {bs : List UInt8} : ∀ {k : Nat}, wsum bs k = 0 → ∀ j, j < 2 * k → byt bs j = 0
  | 0, _, j, hj => absurd hj (by omega)
  | k + 1, h, j, hj => by
    have h1 := wsum_bd bs k
    have h2 := wrd_bd bs k
    rw [wsum_succ] at h
    have e1 : wsum bs k = 0 := by omega
    have e2 : wrd bs k = 0 := by omega
    by_cases hlt : j < 2 * k
    · exact wsum_zero e1 j hlt
    · have a1 := byt_lo bs (2 * k)
      have a2 := byt_lo bs (2 * k + 1)
      unfold wrd at e2
      have : j = 2 * k ∨ j = 2 * k + 1 := by omega
      rcases this with rfl | rfl <;> omega
theorem wall_zero {bs : List UInt8} (h : wall bs = 0) : ∀ x ∈ bs, x = 0 :=
  byt_zero fun j hj => wsum_zero (k := prs bs.length) h j (by unfold prs; omega)
theorem psum_cons (b : List UInt8) (l : List (List UInt8)) : psum (b :: l) = wall b + psum l := by simp [psum]
theorem psum_zero : ∀ {ps : List (List UInt8)}, psum ps = 0 → zeroB ps = true
  | [], _ => rfl
  | b :: l, h => by
    have h1 := wall_bd b
    have h2 := psum_bd l
    rw [psum_cons] at h
    have e1 : wall b = 0 := by omega
    have e2 : psum l = 0 := by omega
    have := psum_zero e2
    simp only [zeroB, List.all_cons, Bool.and_eq_true] at this ⊢
    exact ⟨by rw [List.all_eq_true]; intro x hx; simpa using wall_zero e1 x hx, this⟩
theorem fold_spec {n : Int} (h : 0 ≤ n) : ∃ q : Int, n = fold n + 65535 * q ∧ (0 < n → 1 ≤ fold n) ∧ fold n ≤ 65535 := by
  unfold fold
  split
  · exact ⟨0, by omega, by omega, by omega⟩
  · exact ⟨(n - 1) / 65535, by omega, by omega, by omega⟩
theorem stays {a b old now : List UInt8} {N M : Int} (hz : zeroB [a, now, b] = false) (hN : N = 65535 - fold (psum [a, old, b])) (hM : M = chg N old now) :
    rightB [a, now, b, [hi M, lo M]] = true ∧ 0 ≤ N ∧ N ≤ 65535 ∧ 0 ≤ M ∧ M ≤ 65535 := by
  have f1 := fold_bd (psum [a, old, b])
  have hN0 : 0 ≤ N := by omega
  have hN1 : N ≤ 65535 := by omega
  rw [chg, if_pos ⟨hN0, hN1⟩] at hM
  have f2 := fold_bd (65535 - N + (65535 * (prs old.length : Int) - wall old) + wall now)
  have hM0 : 0 ≤ M := by omega
  have hM1 : M ≤ 65535 := by omega
  refine ⟨?_, hN0, hN1, hM0, hM1⟩
  have wa := wall_bd a; have wb := wall_bd b; have wn := wall_bd now
  have wo : 0 ≤ wall old ∧ wall old ≤ 65535 * (prs old.length : Int) := wsum_bd old _
  have p1 : psum [a, old, b] = wall a + wall old + wall b := by simp [psum]; omega
  have p2 : psum [a, now, b] = wall a + wall now + wall b := by simp [psum]; omega
  have p3 : psum [a, now, b, [hi M, lo M]] = wall a + wall now + wall b + M := by
    simp only [psum_cons]; rw [wall_pair, hi_lo hM0 hM1]; simp [psum]; omega
  have hpos : 0 < wall a + wall now + wall b := by
    rcases Int.lt_or_le 0 (wall a + wall now + wall b) with h | h
    · exact h
    · have e : psum [a, now, b] = 0 := by omega
      rw [psum_zero e] at hz
      cases hz
  obtain ⟨q1, e1, _, _⟩ := fold_spec (n := psum [a, old, b]) (by omega)
  obtain ⟨q2, e2, _, _⟩ := fold_spec (n := 65535 - N + (65535 * (prs old.length : Int) - wall old) + wall now) (by omega)
  obtain ⟨q3, e3, g3, u3⟩ := fold_spec (n := wall a + wall now + wall b + M) (by omega)
  have g3' := g3 (by omega)
  rw [rightB, p3, beq_iff_eq]
  generalize fold (wall a + wall now + wall b + M) = Y at *
  generalize fold (65535 - N + (65535 * (prs old.length : Int) - wall old) + wall now) = X at *
  generalize fold (psum [a, old, b]) = Z at *
  omega

/-- Three, or four, slices side by side. -/
theorem Rd2.three {w : World} {B g t n0 n1 n2 : Nat} {A0 A1 A2 : Option Addr} {c0 c1 c2 : Nat} {b0 b1 b2 : List UInt8} (h0 : n0 = b0.length) (h1 : n1 = b1.length) (h2 : n2 = b2.length)
    (hg : w.heap[g]? = some (.cells #[.slice A0 n0 c0, .slice A1 n1 c1, .slice A2 n2 c2] t (0, 0))) (hB : g < B) (a0 : Arg w B A0 c0 b0) (a1 : Arg w B A1 c1 b1) (a2 : Arg w B A2 c2 b2) : Rd2 w B (some ⟨g, 0, none⟩) [b0, b1, b2] := by
  subst h0; subst h1; subst h2
  refine Rd2.of_cells hg hB fun j b hj => ?_
  match j, hj with
  | 0, hj => simp at hj; subst hj; exact ⟨_, _, rfl, a0⟩
  | 1, hj => simp at hj; subst hj; exact ⟨_, _, rfl, a1⟩
  | 2, hj => simp at hj; subst hj; exact ⟨_, _, rfl, a2⟩
  | j + 3, hj => simp at hj
theorem Rd2.four {w : World} {B g t n0 n1 n2 n3 : Nat} {A0 A1 A2 A3 : Option Addr} {c0 c1 c2 c3 : Nat} {b0 b1 b2 b3 : List UInt8} (h0 : n0 = b0.length) (h1 : n1 = b1.length) (h2 : n2 = b2.length) (h3 : n3 = b3.length)
    (hg : w.heap[g]? = some (.cells #[.slice A0 n0 c0, .slice A1 n1 c1, .slice A2 n2 c2, .slice A3 n3 c3] t (0, 0))) (hB : g < B) (a0 : Arg w B A0 c0 b0) (a1 : Arg w B A1 c1 b1) (a2 : Arg w B A2 c2 b2) (a3 : Arg w B A3 c3 b3) : Rd2 w B (some ⟨g, 0, none⟩) [b0, b1, b2, b3] := by
  subst h0; subst h1; subst h2; subst h3
  refine Rd2.of_cells hg hB fun j b hj => ?_
  match j, hj with
  | 0, hj => simp at hj; subst hj; exact ⟨_, _, rfl, a0⟩
  | 1, hj => simp at hj; subst hj; exact ⟨_, _, rfl, a1⟩
  | 2, hj => simp at hj; subst hj; exact ⟨_, _, rfl, a2⟩
  | 3, hj => simp at hj; subst hj; exact ⟨_, _, rfl, a3⟩
  | j + 4, hj => simp at hj
theorem bulk3 (a b c : List UInt8) : bulk [a, b, c] = a.length + b.length + c.length := by simp [bulk]; omega
theorem bulk4 (a b c d : List UInt8) : bulk [a, b, c, d] = a.length + b.length + c.length + d.length := by simp [bulk]; omega
theorem two_heap (X : World) (o1 o2 : Obj) : ((X.alloc o1).alloc o2).heap[X.heap.size + 1]? = some o2 := by
  have := World.alloc_heap_new (X.alloc o1) o2
  rwa [World.size_alloc] at this
theorem Arg.of_pair {X : World} {u v : Int} {x y : UInt8} (t : TypeId) (h : u = (x.toNat : Int)) (h' : v = (y.toNat : Int)) (o : Obj) : Arg ((X.alloc (.cells #[.int .u8 u, .int .u8 v] t)).alloc o) (X.heap.size + 2) (some ⟨X.heap.size, 0, none⟩) 2 [x, y] :=
  ⟨((Rd.pair t h h').alloc (by simp) o).more (by omega), by simp, fun e => by cases e⟩
theorem Arg.two {X : World} {B : Nat} {A : Option Addr} {c : Nat} {bs : List UInt8} (h : Arg X B A c bs) (hB : B ≤ X.heap.size) (o1 o2 : Obj) : Arg ((X.alloc o1).alloc o2) (X.heap.size + 2) A c bs :=
  ((h.alloc hB o1).alloc (by simp; omega) o2).more (by omega)
end Go.Proofs.Ytogidfagkgccmaa

/-
  Packets of IPv4, in plain lists of bytes: what may be, its bytes, what bytes are. No program. Conditions are each theorem's own.
-/
namespace Go.Proofs.Ytogidfagkgccmaa
open Go.RowKit

/-- A packet of IPv4 as the document has it. -/
structure P4 where
  tos : Int
  id : Int
  off : Int
  ttl : Int
  proto : Int
  src : Int
  dst : Int
  df : Bool
  mf : Bool
  opt : List UInt8
  dat : List UInt8
/-- The packet of nothing. -/
def p4z : P4 := ⟨0, 0, 0, 0, 0, 0, 0, false, false, [], []⟩
def head4 (q : P4) : Int := 20 + (q.opt.length : Int)
def size4 (q : P4) : Int := head4 q + (q.dat.length : Int)
def whole4 (q : P4) : Bool := !q.mf && decide (q.off ≤ 0)
/-- What is wrong with a packet's fields. -/
def arg4 (q : P4) : Prop := 0 ≤ q.tos ∧ q.tos ≤ 255 ∧ 0 ≤ q.ttl ∧ q.ttl ≤ 255 ∧ 0 ≤ q.proto ∧ q.proto ≤ 255 ∧ 0 ≤ q.id ∧ q.id ≤ 65535 ∧ 0 ≤ q.src ∧ q.src < 4294967296 ∧ 0 ≤ q.dst ∧ q.dst < 4294967296 ∧
  0 ≤ q.off ∧ q.off ≤ 65528 ∧ q.off % 8 = 0 ∧ q.opt.length ≤ 40 ∧ q.opt.length % 4 = 0 ∧ (q.mf = true → q.dat.length % 8 = 0)
instance (q : P4) : Decidable (arg4 q) := by unfold arg4; infer_instance
def chk4 (q : P4) : Int := if arg4 q then (if size4 q > 65535 ∨ q.off > 65535 - (q.dat.length : Int) then 6 else 0) else 1
/-- A byte of a number. -/
def u8 (n : Int) : UInt8 := UInt8.ofNat (n % 256).toNat
theorem u8_val (n : Int) : ((u8 n).toNat : Int) = n % 256 := by simp only [u8, UInt8.toNat_ofNat']; omega
def bit (b : Bool) (n : Int) : Int := if b then n else 0
def flags4 (q : P4) : Int := q.off / 8 + bit q.df 16384 + bit q.mf 8192
/-- Two bytes, four bytes of a number. -/
def be2 (n : Int) : List UInt8 := [u8 (n / 256), u8 n]
def be4 (n : Int) : List UInt8 := [u8 (n / 16777216), u8 (n / 65536), u8 (n / 256), u8 n]
theorem u8_dig {n : Int} (h : 0 ≤ n) (s i : Nat) : dig n s i = u8 (n / pw (s - 1 - i)) := by
  apply UInt8.toNat_inj.1
  have h1 := dig_val h s i
  have h2 := u8_val (n / pw (s - 1 - i))
  omega
theorem digs_two {n : Int} (h : 0 ≤ n) : digs n 2 = be2 n := by
  simp [digs, be2, List.range_succ, u8_dig h, pw]
theorem digs_four {n : Int} (h : 0 ≤ n) : digs n 4 = be4 n := by
  simp [digs, be4, List.range_succ, u8_dig h, pw]
/-- The head's first ten bytes, and what stands behind the sum. -/
def hda (q : P4) (size : Int) : List UInt8 := [u8 (64 + head4 q / 4), u8 q.tos, u8 (size / 256), u8 size, u8 (q.id / 256), u8 q.id, u8 (flags4 q / 256), u8 (flags4 q), u8 q.ttl, u8 q.proto]
def hdb (q : P4) : List UInt8 := [u8 (q.src / 16777216), u8 (q.src / 65536), u8 (q.src / 256), u8 q.src, u8 (q.dst / 16777216), u8 (q.dst / 65536), u8 (q.dst / 256), u8 q.dst] ++ q.opt
def hd4 (q : P4) (size sum : Int) : List UInt8 := hda q size ++ be2 sum ++ hdb q
def sum4 (q : P4) : Int := 65535 - fold (psum [hd4 q (size4 q) 0])
def bld4 (q : P4) : List UInt8 := hd4 q (size4 q) (sum4 q) ++ q.dat
theorem hd4_len (q : P4) (size sum : Int) : (hd4 q size sum).length = 20 + q.opt.length := by simp [hd4, hda, hdb, be2]; omega
theorem bld4_len (q : P4) : (bld4 q).length = 20 + q.opt.length + q.dat.length := by rw [bld4, List.length_append, hd4_len]

/-- The sum of bytes whose first part is of even length. -/
theorem wall_append {a b : List UInt8} {m : Nat} (h : a.length = 2 * m) : wall (a ++ b) = wall a + wall b := by
  have e1 : prs (a ++ b).length = m + prs b.length := by rw [List.length_append, h]; unfold prs; omega
  have e2 : prs a.length = m := by rw [h]; unfold prs; omega
  have key : ∀ k, wsum (a ++ b) (m + k) = wsum a m + wsum b k := by
    intro k
    induction k with
    | zero => rw [Nat.add_zero, wsum_left (by omega)]; simp [wsum]
    | succ k ih =>
      rw [← Nat.add_assoc, wsum_succ, wsum_succ, ih]
      have e3 : wrd (a ++ b) (m + k) = wrd b k := by
        have h0 := byt_right (a := a) (b := b) (j := 2 * k)
        have h1 := byt_right (a := a) (b := b) (j := 2 * k + 1)
        rw [h] at h0 h1
        rw [wrd, wrd, show 2 * (m + k) = 2 * m + 2 * k from by omega, h0, show 2 * m + 2 * k + 1 = 2 * m + (2 * k + 1) from by omega, h1]
      rw [e3]; omega
  rw [wall, wall, wall, e1, e2, key]
theorem be2_wall {n : Int} (h0 : 0 ≤ n) (h1 : n ≤ 65535) : wall (be2 n) = n := by
  rw [be2, wall_pair, u8_val, u8_val]; omega
theorem sum4_bd (q : P4) : 0 ≤ sum4 q ∧ sum4 q ≤ 65535 := by have := fold_bd (psum [hd4 q (size4 q) 0]); unfold sum4; omega
theorem head_right (q : P4) : rightB [hd4 q (size4 q) (sum4 q)] = true := by
  have hb := sum4_bd q
  have w : ∀ s, 0 ≤ s → s ≤ 65535 → psum [hd4 q (size4 q) s] = wall (hda q (size4 q)) + s + wall (hdb q) := fun s h0 h1 => by
    have : psum [hd4 q (size4 q) s] = wall (hd4 q (size4 q) s) := by simp [psum]
    rw [this, hd4, wall_append (m := 6) (by simp [hda, be2]), wall_append (m := 5) (by simp [hda]), be2_wall h0 h1]
  have w0 := w 0 (by omega) (by omega)
  have w1 := w (sum4 q) hb.1 hb.2
  have hs : sum4 q = 65535 - fold (psum [hd4 q (size4 q) 0]) := rfl
  have ha := (wall_bd (hda q (size4 q))).1
  have hc := (wall_bd (hdb q)).1
  rw [rightB, w1, show wall (hda q (size4 q)) + sum4 q + wall (hdb q) = (wall (hda q (size4 q)) + wall (hdb q)) + (65535 - fold (wall (hda q (size4 q)) + wall (hdb q))) from by rw [hs, w0]; simp only [Int.add_zero]; omega,
    fold_right (by omega)]
  rfl

/-- The number of two, of four bytes at a place. -/
def n2 (b : List UInt8) (i : Nat) : Int := byt b i * 256 + byt b (i + 1)
def n4 (b : List UInt8) (i : Nat) : Int := ((byt b i * 256 + byt b (i + 1)) * 256 + byt b (i + 2)) * 256 + byt b (i + 3)
def hlen (b : List UInt8) : Int := byt b 0 % 16 * 4
/-- The packet whose head bytes are, with data. -/
def fl4 (b dat : List UInt8) : P4 := ⟨byt b 1, n2 b 4, n2 b 6 % 8192 * 8, byt b 8, byt b 9, n4 b 12, n4 b 16, decide (n2 b 6 / 16384 % 2 = 1), decide (n2 b 6 / 8192 % 2 = 1), (b.take (hlen b).toNat).drop 20, dat⟩
/-- What is wrong with bytes; nothing: 0. -/
def bad4 (b : List UInt8) (quoted : Bool) : Int :=
  if b.length < 20 then 3
  else if byt b 0 / 16 ≠ 4 ∨ hlen b < 20 then 4
  else if hlen b > (b.length : Int) ∨ (quoted = false ∧ n2 b 2 > (b.length : Int)) then 3
  else if n2 b 2 < hlen b ∨ n2 b 6 ≥ 32768 then 4
  else if quoted = false ∧ rightB [b.take (hlen b).toNat] = false then 5
  else 0
def raw4 (b : List UInt8) : P4 := fl4 b ((b.take (min (n2 b 2) (b.length : Int)).toNat).drop (hlen b).toNat)
def prsE (b : List UInt8) (quoted : Bool) : Int := if bad4 b quoted = 0 then (if quoted = false ∧ chk4 (raw4 b) ≠ 0 then 4 else 0) else bad4 b quoted
def prsV (b : List UInt8) (quoted : Bool) : P4 := if prsE b quoted = 0 then raw4 b else p4z
end Go.Proofs.Ytogidfagkgccmaa

/-
  Packets that came in, opened: what a walk is told of each field. Conditions are each theorem's own.
-/
namespace Go.Proofs.Ytogidfagkgccmaa
open Go.RowKit Go.ChangeShapes Go.WideShapes

theorem piece_get {l : List Value} {i : Nat} {x : Value} (h : (l.drop i).take 1 = [x]) : l[i]? = some x := by
  have h0 := congrArg (·[0]?) h
  simpa [List.getElem?_take, List.getElem?_drop] using h0
section
variable {H : Type} {enc : TypeId × Value → H} {P : Program} {w : World} {base : Nat} {t e : TypeId} {v : Value} {d : DataW H} {p : List MemPlace} {x : DataW H × List MemPlace} {n : Nat} {l : List Value}
theorem cell_int {k : IntKind} (ht : P.underlying t = some (.int k)) (h : DataW.trod enc P w 0 (fun _ => true) true n t l = some x) : ∃ m, l = [.int k m] ∧ (Lit.int k m).wf = true := by
  obtain ⟨m, hm, _, hw⟩ := DataW.trod_int ht h
  exact ⟨m, hm, hw⟩
theorem cell_bool (ht : P.underlying t = some .bool) (h : DataW.trod enc P w 0 (fun _ => true) true n t l = some x) : ∃ b, l = [.bool b] := by
  obtain ⟨b, hb, _⟩ := DataW.trod_bool ht h
  exact ⟨b, hb⟩
theorem cell_bytes (ht : P.underlying t = some (.slice e)) (he : P.underlying e = some (.int .u8)) (hc : P.cellsOf e = 1) (h : DataW.trod enc P w 0 (fun _ => true) true n t l = some x) :
    ∃ A c bs, l = [.slice A bs.length c] ∧ Arg w w.heap.size A c bs ∧ c ≤ maxLen := by
  rcases open_ints ht he hc h with ⟨hcs, _⟩ | ⟨y, m, c, zs, hcs, _, hl, hm, hz, _, hcell, hwz⟩
  · exact ⟨none, 0, [], hcs, Arg.nil _ _, Nat.zero_le _⟩
  · obtain ⟨bs, rfl, ha⟩ := arg_of_row (w := w) (a := some y) (len := m) (cap := c) (zs := zs) (.inr ⟨y, rfl, hl, hm, by simpa using hz, hcell, hwz⟩)
    exact ⟨some y, c, bs, hcs, ha, hm⟩
end

/-- A packet's value: where its two slices lie. -/
def v4v (q : P4) (A : Option Addr) (c : Nat) (A' : Option Addr) (c' : Nat) : Value :=
  .agg #[.int .i64 q.tos, .int .i64 q.id, .int .i64 q.off, .int .i64 q.ttl, .int .i64 q.proto, .int .i64 q.src, .int .i64 q.dst, .bool q.df, .bool q.mf, .slice A q.opt.length c, .slice A' q.dat.length c']
/-- Its numbers fit. -/
def P4.fits (q : P4) : Prop := ∀ n ∈ [q.tos, q.id, q.off, q.ttl, q.proto, q.src, q.dst], (Lit.int .i64 n).wf = true
/-- A packet of IPv6, and its value. -/
structure P6 where
  traffic : Int
  flow : Int
  next : Int
  hop : Int
  src : List UInt8
  dst : List UInt8
  dat : List UInt8
def v6l (q : P6) (A : Option Addr) (c : Nat) : List Value := [Value.int .i64 q.traffic, Value.int .i64 q.flow, Value.int .i64 q.next, Value.int .i64 q.hop] ++ row q.src ++ row q.dst ++ [Value.slice A q.dat.length c]
def v6v (q : P6) (A : Option Addr) (c : Nat) : Value := .agg (v6l q A c).toArray
def P6.fits (q : P6) : Prop := ∀ n ∈ [q.traffic, q.flow, q.next, q.hop], (Lit.int .i64 n).wf = true
/-- A fragment header, and its value. -/
structure F6 where
  next : Int
  off : Int
  id : Int
  more : Bool
def frv (q : F6) : Value := .agg #[.int .i64 q.next, .int .i64 q.off, .int .i64 q.id, .bool q.more]
def F6.fits (q : F6) : Prop := ∀ n ∈ [q.next, q.off, q.id], (Lit.int .i64 n).wf = true
section
variable {H : Type} {enc : TypeId × Value → H} {w : World} {base : Nat} {v : Value} {d : DataW H} {p : List MemPlace}
end
end Go.Proofs.Ytogidfagkgccmaa

/-
  Contracts of the document's plain answers of layer 5: Head, Size, Whole, Check, Same. Conditions are each theorem's own.
-/
namespace Go.Proofs.Ytogidfagkgccmaa
open Go.RowKit

/-- A packet's cells. -/
def v4a (q : P4) (A : Option Addr) (c : Nat) (A' : Option Addr) (c' : Nat) : Array Value :=
  #[.int .i64 q.tos, .int .i64 q.id, .int .i64 q.off, .int .i64 q.ttl, .int .i64 q.proto, .int .i64 q.src, .int .i64 q.dst, .bool q.df, .bool q.mf, .slice A q.opt.length c, .slice A' q.dat.length c']
section
variable (q : P4) (A : Option Addr) (c : Nat) (A' : Option Addr) (c' : Nat) (w : World)
end
end Go.Proofs.Ytogidfagkgccmaa

/-
  Reads out of a packet's block, for walks of regions that draw their order. Conditions are each theorem's own.
-/
namespace Go.Proofs.Ytogidfagkgccmaa
open Go.RowKit

theorem run_load_sl {o : Oper} {a : Act} {w : World} {x : Operand} {p : Addr} {A : Option Addr} {n c : Nat} (ho : o.op = .load 32 x) (hx : a.eval x = .pointer (some p)) (hc : w.cell? p = some (.slice A n c)) :
    (execOp a.eval o).run Try.prog w = .ok (.value (.slice A n c)) w := by
  unfold execOp
  simp only [ho, hx, Instr.loadAt, Instr.sureAddr, Sem.run_bind, Sem.run_pure, Result.andThen_ok]
  go_simp
theorem run_load_int {o : Oper} {a : Act} {w : World} {x : Operand} {p : Addr} {n : Int} (ho : o.op = .load 3 x) (hx : a.eval x = .pointer (some p)) (hc : w.cell? p = some (.int .i64 n)) :
    (execOp a.eval o).run Try.prog w = .ok (.value (.int .i64 n)) w := by
  unfold execOp
  simp only [ho, hx, Instr.loadAt, Instr.sureAddr, Sem.run_bind, Sem.run_pure, Result.andThen_ok]
  go_simp
theorem run_load_bool {o : Oper} {a : Act} {w : World} {x : Operand} {p : Addr} {b : Bool} (ho : o.op = .load 4 x) (hx : a.eval x = .pointer (some p)) (hc : w.cell? p = some (.bool b)) :
    (execOp a.eval o).run Try.prog w = .ok (.value (.bool b)) w := by
  unfold execOp
  simp only [ho, hx, Instr.loadAt, Instr.sureAddr, Sem.run_bind, Sem.run_pure, Result.andThen_ok]
  go_simp
/-- A packet that lies in a block of its own. -/
def At4 (W : World) (g : Nat) (q : P4) (A : Option Addr) (c : Nat) (A' : Option Addr) (c' : Nat) : Prop := W.rangeAt g 0 (v4a q A c A' c').toList
section
variable {W : World} {g : Nat} {q : P4} {A A' : Option Addr} {c c' : Nat}
theorem At4.below {w : World} {B : Nat} (h : At4 W g q A c A' c') (hb : Below B W w) (hg : g < B) : At4 w g q A c A' c' := range_below h hg hb
theorem At4.drewN {n : Nat} (h : At4 W g q A c A' c') : At4 (W.drewN n) g q A c A' c' := h
theorem At4.tos (h : At4 W g q A c A' c') : W.cell? ⟨g, 0, none⟩ = some (.int .i64 q.tos) := h 0 _ rfl
theorem At4.id (h : At4 W g q A c A' c') : W.cell? ⟨g, 1, none⟩ = some (.int .i64 q.id) := h 1 _ rfl
theorem At4.off (h : At4 W g q A c A' c') : W.cell? ⟨g, 2, none⟩ = some (.int .i64 q.off) := h 2 _ rfl
theorem At4.ttl (h : At4 W g q A c A' c') : W.cell? ⟨g, 3, none⟩ = some (.int .i64 q.ttl) := h 3 _ rfl
theorem At4.proto (h : At4 W g q A c A' c') : W.cell? ⟨g, 4, none⟩ = some (.int .i64 q.proto) := h 4 _ rfl
theorem At4.src (h : At4 W g q A c A' c') : W.cell? ⟨g, 5, none⟩ = some (.int .i64 q.src) := h 5 _ rfl
theorem At4.dst (h : At4 W g q A c A' c') : W.cell? ⟨g, 6, none⟩ = some (.int .i64 q.dst) := h 6 _ rfl
theorem At4.df (h : At4 W g q A c A' c') : W.cell? ⟨g, 7, none⟩ = some (.bool q.df) := h 7 _ rfl
theorem At4.mf (h : At4 W g q A c A' c') : W.cell? ⟨g, 8, none⟩ = some (.bool q.mf) := h 8 _ rfl
theorem At4.opt (h : At4 W g q A c A' c') : W.cell? ⟨g, 9, none⟩ = some (.slice A q.opt.length c) := h 9 _ rfl
theorem At4.dat (h : At4 W g q A c A' c') : W.cell? ⟨g, 10, none⟩ = some (.slice A' q.dat.length c') := h 10 _ rfl
end
end Go.Proofs.Ytogidfagkgccmaa

/-
  Contracts of the document's plain answers of layer 5: Size, Check. Conditions are each theorem's own.
-/
namespace Go.Proofs.Ytogidfagkgccmaa
open Go.RowKit

section
variable (q : P4) (A : Option Addr) (c : Nat) (A' : Option Addr) (c' : Nat) (w : World)
def fieldsB (q : P4) : Bool := fitsB q.tos 1 && fitsB q.ttl 1 && fitsB q.proto 1 && fitsB q.id 2
def placesB (q : P4) : Bool := okB q.src && okB q.dst && decide (0 ≤ q.off) && decide (q.off ≤ 65528) && decide (q.off % 8 = 0)
def optsB (q : P4) : Bool := decide (q.opt.length ≤ 40) && decide (q.opt.length % 4 = 0)
theorem arg4_iff (q : P4) : arg4 q ↔ fieldsB q = true ∧ placesB q = true ∧ optsB q = true ∧ (q.mf = true → q.dat.length % 8 = 0) := by
  unfold arg4 fieldsB placesB optsB
  simp only [Bool.and_eq_true, fitsB_iff, okB, decide_eq_true_eq, pw]
  constructor
  · rintro ⟨a1, a2, a3, a4, a5, a6, a7, a8, a9, a10, a11, a12, a13, a14, a15, a16, a17, a18⟩
    refine ⟨⟨⟨⟨?_, ?_⟩, ?_⟩, ?_⟩, ⟨⟨⟨⟨?_, ?_⟩, ?_⟩, ?_⟩, ?_⟩, ⟨?_, ?_⟩, a18⟩ <;> (try simp) <;> omega
  · rintro ⟨⟨⟨⟨f1, f2⟩, f3⟩, f4⟩, ⟨⟨⟨⟨p1, p2⟩, p3⟩, p4⟩, p5⟩, ⟨o1, o2⟩, hm⟩
    simp at f1 f2 f3 f4
    refine ⟨?_, ?_, ?_, ?_, ?_, ?_, ?_, ?_, ?_, ?_, ?_, ?_, ?_, ?_, ?_, ?_, ?_, hm⟩ <;> omega
end
end Go.Proofs.Ytogidfagkgccmaa

/-
  Contracts of the document's plain answers of layer 5: Same, num. Conditions are each theorem's own.
-/
namespace Go.Proofs.Ytogidfagkgccmaa
open Go.RowKit

/-- Are two packets the same? A plain definition. -/
def same4 (q r : P4) : Bool := (q.tos == r.tos && q.id == r.id && q.off == r.off && q.ttl == r.ttl && q.proto == r.proto && q.src == r.src && q.dst == r.dst) && (q.df == r.df) && (q.mf == r.mf) && decide (q.opt = r.opt) && decide (q.dat = r.dat)
theorem same4_iff {q r : P4} : same4 q r = true ↔ q = r := by
  obtain ⟨a0, a1, a2, a3, a4, a5, a6, a7, a8, a9, a10⟩ := q
  obtain ⟨b0, b1, b2, b3, b4, b5, b6, b7, b8, b9, b10⟩ := r
  simp only [same4, Bool.and_eq_true, beq_iff_eq, decide_eq_true_eq, P4.mk.injEq]
  constructor
  · rintro ⟨⟨⟨⟨⟨⟨⟨⟨⟨⟨h0, h1⟩, h2⟩, h3⟩, h4⟩, h5⟩, h6⟩, h7⟩, h8⟩, h9⟩, h10⟩; exact ⟨h0, h1, h2, h3, h4, h5, h6, h7, h8, h9, h10⟩
  · rintro ⟨h0, h1, h2, h3, h4, h5, h6, h7, h8, h9, h10⟩; exact ⟨⟨⟨⟨⟨⟨⟨⟨⟨⟨h0, h1⟩, h2⟩, h3⟩, h4⟩, h5⟩, h6⟩, h7⟩, h8⟩, h9⟩, h10⟩
end Go.Proofs.Ytogidfagkgccmaa
