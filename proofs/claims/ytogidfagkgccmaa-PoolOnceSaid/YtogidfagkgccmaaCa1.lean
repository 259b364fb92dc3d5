/-
  Contracts and lemmas on which the proofs of this seat stand (several texts in one). Conditions are each theorem's own.
-/
import Derived.Below
import Derived.Laws.OwnMore
import Derived.Laws.Rows
import Derived.Deep.Draws
import Derived.Deep.OwnRows
import Derived.RangeFuncBox
import Derived.Test.YtogidfagkgccmaaRows
import Derived.WalkKit
import Derived.WalkSpells
import Derived.Lib.Hide
import Derived.Outline
import Derived.IntWalk
import Derived.Laws.CopyOwn
import Derived.OwnWalk
import Derived.RangeFuncNested
import Derived.RangeFuncBound
import Derived.RangeFuncCalls
import Derived.RangeFuncLeaves
import Derived.Shelf.Abstract
import Derived.Shelf.RegionOpen
import Derived.OwnWalkIn
import Derived.TacticsInMore
import Derived.LoopNIn
import Derived.LoopIn
import Derived.Laws.AppendOwnNone
import Derived.Laws.BytesArg
import Derived.Lib.SliceRun
import Derived.Deep.QuietTactic
import Derived.BigQuiet
import Derived.Deep.RegionHeld3
import Derived.Deep.MidRow
import Derived.Maps.RangeWalk
import Derived.Great.BuildSlice

/-
  Words on memory that every later text of this seat uses: a slice that reads as a list of bytes. Conditions: none; plain definitions and lemmas.
-/
namespace Go.Proofs.Ytogidfagkgccmaa
open Go.RowKit

/-- The number of byte j. A plain definition: the walk leaves it standing. -/
def byt (bs : List UInt8) (j : Nat) : Int := ((bs[j]?.getD 0).toNat : Int)
theorem byt_lo (bs : List UInt8) (j : Nat) : 0 ≤ byt bs j := by unfold byt; omega
theorem byt_hi (bs : List UInt8) (j : Nat) : byt bs j ≤ 255 := by
  unfold byt; have := (bs[j]?.getD 0).toNat_lt; omega

/-- The cells of a list of bytes. -/
def row (bs : List UInt8) : List Value := bs.map fun x => .int .u8 (x.toNat : Int)
theorem row_length (bs : List UInt8) : (row bs).length = bs.length := by simp [row]
theorem row_get (bs : List UInt8) {j : Nat} (h : j < bs.length) : (row bs)[j]? = some (.int .u8 (byt bs j)) := by
  simp [row, byt, h]
theorem row_append (a b : List UInt8) : row (a ++ b) = row a ++ row b := by simp [row]
theorem row_one (bs : List UInt8) : ∀ u ∈ row bs, u.oneCell' = true := by
  intro u hu; simp only [row, List.mem_map] at hu; obtain ⟨x, _, rfl⟩ := hu; rfl
theorem row_getD (bs : List UInt8) {j : Nat} (h : j < bs.length) {u : Value} (hu : (row bs)[j]? = some u) : u = .int .u8 (byt bs j) := by
  rw [row_get bs h] at hu; exact (Option.some.inj hu).symm

/-- The slice at A, of bs.length elements, reads as bs; its cells lie below block B. -/
def Rd (w : World) (B : Nat) (A : Option Addr) (bs : List UInt8) : Prop :=
  0 < bs.length → ∃ b off, A = some ⟨b, off, none⟩ ∧ b < B ∧ ∀ j, j < bs.length → w.cell? ⟨b, off + j, none⟩ = some (.int .u8 (byt bs j))

section
variable {w w' : World} {B B' : Nat} {A : Option Addr} {bs : List UInt8}
theorem Rd.nil : Rd w B A [] := fun h => absurd h (by simp)
theorem Rd.keep (h : Rd w B A bs) (hk : ∀ p : Addr, p.block < B → w'.cell? p = w.cell? p) : Rd w' B A bs := fun hn => by
  obtain ⟨b, off, e, hb, hc⟩ := h hn
  exact ⟨b, off, e, hb, fun j hj => (hk ⟨b, off + j, none⟩ hb).trans (hc j hj)⟩
theorem Rd.more (h : Rd w B A bs) (hB : B ≤ B') : Rd w B' A bs := fun hn => by
  obtain ⟨b, off, e, hb, hc⟩ := h hn
  exact ⟨b, off, e, by omega, hc⟩
theorem Rd.below (h : Rd w B A bs) (hb : Below B w w') : Rd w' B A bs := h.keep fun _ hp => hb.cell hp
theorem Rd.alloc (h : Rd w B A bs) (hB : B ≤ w.heap.size) (o : Obj) : Rd (w.alloc o) B A bs := h.keep fun p hp => World.cell?_alloc_lt w o p (by omega)
theorem Rd.drewN (h : Rd w B A bs) (k : Nat) : Rd (w.drewN k) B A bs := h
theorem Rd.grown (h : Rd w B A bs) {r : Option Nat} (hg : w.grownBy w' r) (hB : B ≤ w.heap.size) (hr : ∀ g, r = some g → B ≤ g) : Rd w' B A bs :=
  h.keep fun p hp => World.cell?_of_block (hg.block p.block (by omega) (fun e => by have := hr _ e.symm; omega))
theorem Rd.of_block {g t : Nat} {cur : Array Value} (hg : w.heap[g]? = some (.cells cur t (0, 0))) (hB : g < B) (off : Nat)
    (hc : ∀ j, j < bs.length → cur[off + j]? = some (.int .u8 (byt bs j))) : Rd w B (some ⟨g, off, none⟩) bs := fun _ =>
  ⟨g, off, rfl, hB, fun j hj => by rw [cell_of_row w g (off + j) cur t (0, 0) hg]; exact hc j hj⟩
theorem Rd.of_own {base e n c : Nat} (hn' : n = bs.length) (h : w.ownsRow base e 1 (.slice A n c) n (row bs)) : Rd w w.heap.size A bs := fun hn => by
  subst hn'
  rcases h.2 with ⟨_, h0⟩ | ⟨g, cap, cur, hv, _, hh, hle, _, hs, ht⟩
  · omega
  · have hA : A = some ⟨g, 0, none⟩ := by injection hv
    subst hA
    refine ⟨g, 0, rfl, (Array.getElem?_eq_some_iff.1 hh).1, fun j hj => ?_⟩
    rw [cell_of_row w g (0 + j) cur e (0, 0) hh, Nat.zero_add]
    have h1 : (List.take (bs.length * 1) cur.toList)[j]? = some (.int .u8 (byt bs j)) := by rw [ht]; exact row_get bs hj
    rw [List.getElem?_take, if_pos (by omega)] at h1
    simpa using h1
end

theorem add_off (b off j : Nat) : (⟨b, off, none⟩ : Addr).add j = ⟨b, off + j, none⟩ := by unfold Addr.add; split <;> simp_all
theorem cell_block {w : World} {a : Addr} {v : Value} (h : w.cell? a = some v) : a.block < w.heap.size := by
  rcases Nat.lt_or_ge a.block w.heap.size with hlt | hge
  · exact hlt
  · unfold World.cell? at h; rw [Array.getElem?_eq_none hge] at h; cases h
/-- A slice of bytes as it is handed over: it reads as bs; nil has no capacity. -/
structure Arg (w : World) (B : Nat) (A : Option Addr) (c : Nat) (bs : List UInt8) : Prop where
  rd : Rd w B A bs
  cap : bs.length ≤ c
  none_ : A = none → c = 0
theorem Arg.below {w w' : World} {B : Nat} {A : Option Addr} {c : Nat} {bs : List UInt8} (h : Arg w B A c bs) (hb : Below B w w') : Arg w' B A c bs := ⟨h.rd.below hb, h.cap, h.none_⟩
theorem Arg.nil (w : World) (B : Nat) : Arg w B none 0 [] := ⟨Rd.nil, Nat.le_refl _, fun _ => rfl⟩
theorem Arg.more {w : World} {B B' : Nat} {A : Option Addr} {c : Nat} {bs : List UInt8} (h : Arg w B A c bs) (hB : B ≤ B') : Arg w B' A c bs := ⟨h.rd.more hB, h.cap, h.none_⟩
theorem Arg.alloc {w : World} {B : Nat} {A : Option Addr} {c : Nat} {bs : List UInt8} (h : Arg w B A c bs) (hB : B ≤ w.heap.size) (o : Obj) : Arg (w.alloc o) B A c bs := ⟨h.rd.alloc hB o, h.cap, h.none_⟩
theorem Arg.drewN {w : World} {B : Nat} {A : Option Addr} {c : Nat} {bs : List UInt8} (h : Arg w B A c bs) (n : Nat) : Arg (w.drewN n) B A c bs := ⟨h.rd.drewN n, h.cap, h.none_⟩
/-- The slice of integers at A reads as zs; its cells lie below block B. -/
def RdI (w : World) (B : Nat) (A : Option Addr) (zs : List Int) : Prop :=
  0 < zs.length → ∃ b off, A = some ⟨b, off, none⟩ ∧ b < B ∧ ∀ j, j < zs.length → w.cell? ⟨b, off + j, none⟩ = some (.int .i64 (zs.getD j 0))
theorem RdI.keep {w w' : World} {B : Nat} {A : Option Addr} {zs : List Int} (h : RdI w B A zs) (hk : ∀ p : Addr, p.block < B → w'.cell? p = w.cell? p) : RdI w' B A zs := fun hn => by
  obtain ⟨b, off, e, hb, hc⟩ := h hn
  exact ⟨b, off, e, hb, fun j hj => (hk ⟨b, off + j, none⟩ hb).trans (hc j hj)⟩
theorem RdI.below {w w' : World} {B : Nat} {A : Option Addr} {zs : List Int} (h : RdI w B A zs) (hb : Below B w w') : RdI w' B A zs := h.keep fun _ hp => hb.cell hp
theorem RdI.alloc {w : World} {B : Nat} {A : Option Addr} {zs : List Int} (h : RdI w B A zs) (hB : B ≤ w.heap.size) (o : Obj) : RdI (w.alloc o) B A zs := h.keep fun p hp => World.cell?_alloc_lt w o p (by omega)
theorem wraps_i64 (n : Int) (h₀ : 0 ≤ n) (h₁ : n < 2 ^ 62) : IntKind.i64.wrap n = n := by rw [IntKind.wrap_i64]; omega
theorem or_byte (q x : Int) (h0 : 0 ≤ q) (h1 : q < 16777216) (h2 : 0 ≤ x) (h3 : x ≤ 255) : bits .or .i64 (q * 256) x = q * 256 + x :=
  bits_join .i64 62 (by decide) wraps_i64 8 _ _ (by omega) (by omega) (by omega) h2 (by omega) (by omega)
end Go.Proofs.Ytogidfagkgccmaa

/-
  Addresses of IPv6 as lists of sixteen bytes: which stands ahead, which is of a host. No program. Conditions are each theorem's own.
-/
namespace Go.Proofs.Ytogidfagkgccmaa
open Go.RowKit

/-- The cells of an address. -/
def cel (a : List UInt8) : Array Value := (row a).toArray
theorem cel_size (a : List UInt8) : (cel a).size = a.length := by simp [cel, row_length]
theorem cel_get (a : List UInt8) {j : Nat} (h : j < a.length) : (cel a)[j]? = some (.int .u8 (byt a j)) := by
  rw [cel, List.getElem?_toArray, row_get a h]
theorem cel_at (a : List UInt8) {j : Nat} (h : j < a.length) (h' : j < (cel a).size) : (cel a)[j] = .int .u8 (byt a j) := by
  have h1 := cel_get a h
  rw [Array.getElem?_eq_getElem h'] at h1
  exact Option.some.inj h1
theorem below_n {w w' : World} {B : Nat} (h : Below B w w') (q : Nat) : Below B w (w'.drewN q) := ⟨h.os, h.tape, h.output, h.size, h.block⟩
theorem below_two (w : World) (x y : Obj) : Below w.heap.size w ((w.alloc x).alloc y) := ((Below.refl _ w).alloc (Nat.le_refl _) x).alloc (by simp) y
theorem two_first (w : World) (a b : List UInt8) (t u : TypeId) {j : Nat} (h : j < a.length) : ((w.alloc (.cells (cel a) t)).alloc (.cells (cel b) u)).cell? ⟨w.heap.size, j, none⟩ = some (.int .u8 (byt a j)) := by
  rw [World.cell?_alloc_lt _ _ _ (by simp), World.cell?_alloc_new]; exact cel_get a h
theorem two_second (w : World) (a b : List UInt8) (t u : TypeId) {j : Nat} (h : j < b.length) : ((w.alloc (.cells (cel a) t)).alloc (.cells (cel b) u)).cell? ⟨w.heap.size + 1, j, none⟩ = some (.int .u8 (byt b j)) := by
  have := World.cell?_alloc_new (w.alloc (.cells (cel a) t)) (cel b) u j
  rw [show (w.alloc (.cells (cel a) t)).heap.size = w.heap.size + 1 from by simp] at this
  rw [this]; exact cel_get b h
/-- Does a stand ahead of b? A plain definition. -/
def lexL : List UInt8 → List UInt8 → Bool
  | x :: xs, y :: ys => if x = y then lexL xs ys else decide (x.toNat < y.toNat)
  | _, _ => false
theorem byt_eq {a b : List UInt8} {k : Nat} (ha : k < a.length) (hb : k < b.length) : byt a k = byt b k ↔ a[k] = b[k] := by
  simp only [byt, List.getElem?_eq_getElem ha, List.getElem?_eq_getElem hb, Option.getD_some]
  constructor
  · intro h; exact UInt8.toNat_inj.1 (by omega)
  · intro h; rw [h]
theorem byt_at {a : List UInt8} {k : Nat} (ha : k < a.length) : byt a k = (a[k].toNat : Int) := by
  simp only [byt, List.getElem?_eq_getElem ha, Option.getD_some]
theorem lex_same {a b : List UInt8} {k : Nat} (ha : k < a.length) (hb : k < b.length) (h : lexL a b = lexL (a.drop k) (b.drop k)) (he : byt a k = byt b k) :
    lexL a b = lexL (a.drop (k + 1)) (b.drop (k + 1)) := by
  rw [h, List.drop_eq_getElem_cons ha, List.drop_eq_getElem_cons hb, lexL, if_pos ((byt_eq ha hb).1 he)]
theorem lex_here {a b : List UInt8} {k : Nat} (ha : k < a.length) (hb : k < b.length) (h : lexL a b = lexL (a.drop k) (b.drop k)) (he : ¬ byt a k = byt b k) :
    lexL a b = decide (byt a k < byt b k) := by
  rw [h, List.drop_eq_getElem_cons ha, List.drop_eq_getElem_cons hb, lexL, if_neg (fun e => he ((byt_eq ha hb).2 e)), byt_at ha, byt_at hb]
  simp
theorem lex_end {a b : List UInt8} {k : Nat} (ha : a.length ≤ k) (h : lexL a b = lexL (a.drop k) (b.drop k)) : lexL a b = false := by
  rw [h, List.drop_of_length_le ha, lexL]; simp
/-- The address of sixteen bytes 0. -/
def nul : List UInt8 := List.replicate 16 0
/-- Is it an address of a host? A plain definition. -/
def host6 (a : List UInt8) : Bool := !(decide (a = nul)) && (byt a 0 != 255)
theorem lex_self (a : List UInt8) : lexL a a = false := by
  induction a with
  | nil => rfl
  | cons x xs ih => rw [lexL, if_pos rfl]; exact ih
/-- Of two that differ one stands ahead. -/
theorem lex_tri : ∀ {a b : List UInt8}, a.length = b.length → a = b ∨ (a ≠ b ∧ lexL a b = true ∧ lexL b a = false) ∨ (a ≠ b ∧ lexL a b = false ∧ lexL b a = true)
  | [], [], _ => .inl rfl
  | [], _ :: _, h => by simp at h
  | _ :: _, [], h => by simp at h
  | x :: xs, y :: ys, h => by
    by_cases e : x = y
    · subst e
      rcases lex_tri (a := xs) (b := ys) (by simpa using h) with r | ⟨r, r1, r2⟩ | ⟨r, r1, r2⟩
      · exact .inl (by rw [r])
      · exact .inr (.inl ⟨by simpa using r, by rw [lexL, if_pos rfl, r1], by rw [lexL, if_pos rfl, r2]⟩)
      · exact .inr (.inr ⟨by simpa using r, by rw [lexL, if_pos rfl, r1], by rw [lexL, if_pos rfl, r2]⟩)
    · have hne : x.toNat ≠ y.toNat := fun h => e (UInt8.toNat_inj.1 h)
      have e' : ¬ y = x := fun h => e h.symm
      have hc : (x :: xs : List UInt8) ≠ y :: ys := fun h => e (by injection h)
      rcases Nat.lt_or_gt_of_ne hne with hl | hl
      · exact .inr (.inl ⟨hc, by rw [lexL, if_neg e]; simpa using hl, by rw [lexL, if_neg e']; simp; exact UInt8.le_of_lt hl⟩)
      · exact .inr (.inr ⟨hc, by rw [lexL, if_neg e]; simp; exact UInt8.le_of_lt hl, by rw [lexL, if_neg e']; simpa using hl⟩)
end Go.Proofs.Ytogidfagkgccmaa

/-
  Small words that every text of this seat uses: endings that agree, the string of bytes. Conditions: none; plain lemmas.
-/
namespace Go.Proofs.Ytogidfagkgccmaa
open Go.RowKit

theorem ret_bool {a b : Bool} (h : a = b) : Ending.returned (.bool a) = .returned (.bool b) := by rw [h]
theorem ret_int {k : IntKind} {a b : Int} (h : a = b) : Ending.returned (.int k a) = .returned (.int k b) := by rw [h]
theorem ret_two {k : IntKind} {a b e : Int} (h : a = b) : Ending.returned (.tuple #[.int k a, .int .i64 e]) = .returned (.tuple #[.int k b, .int .i64 e]) := by rw [h]
theorem ret_str {a b : ByteArray} (h : a = b) : Ending.returned (.string a) = .returned (.string b) := by rw [h]

/-- The string of bytes. A plain definition. -/
def strB (bs : List UInt8) : ByteArray := ⟨bs.toArray⟩
theorem strB_eq (xs bs : List UInt8) : ((strB xs).toList == (strB bs).toList) = decide (xs = bs) := by
  rw [strB, strB, ByteArray.toList_mk, ByteArray.toList_mk, Bool.eq_iff_iff]; simp
theorem strB_append (xs bs : List UInt8) : strB xs ++ strB bs = strB (xs ++ bs) := by
  simp [strB, ByteArray.ext_iff]
theorem strB_size (bs : List UInt8) : (strB bs).size = bs.length := by simp [strB, ByteArray.size]
/-- '+' of two strings of bytes, within bounds. -/
theorem sadd (x y : List UInt8) (h : x.length + y.length ≤ 1000000) (w : World) : (Op.stringOp .add (strB x) (strB y)).run Try.prog w = .ok (.string (strB (x ++ y))) w := by
  have h1 := run_string_add_sum (P := Try.prog) (w := w) (strB x) (strB y) (by rw [strB_size, strB_size]; omega)
  rw [strB_append] at h1
  exact h1
end Go.Proofs.Ytogidfagkgccmaa

/-
  Texts of numbers and of addresses of IPv4, in plain lists of bytes: no program. Conditions are each theorem's own.
-/
namespace Go.Proofs.Ytogidfagkgccmaa

/-- A number below 256 in decimal digits. -/
def dec (n : Nat) : List UInt8 :=
  if n < 10 then [UInt8.ofNat (48 + n)] else if n < 100 then [UInt8.ofNat (48 + n / 10), UInt8.ofNat (48 + n % 10)] else [UInt8.ofNat (48 + n / 100), UInt8.ofNat (48 + n / 10 % 10), UInt8.ofNat (48 + n % 10)]
/-- An address's text. -/
def txt (a : Nat) : List UInt8 := dec (a / 16777216) ++ [46] ++ dec (a / 65536 % 256) ++ [46] ++ dec (a / 256 % 256) ++ [46] ++ dec (a % 256)

theorem dec_len {n : Nat} : 1 ≤ (dec n).length ∧ (dec n).length ≤ 3 := by
  unfold dec; split
  · simp
  · split <;> simp
theorem txt_len {a : Nat} : (txt a).length ≤ 15 := by
  have h1 := @dec_len (a / 16777216); have h2 := @dec_len (a / 65536 % 256); have h3 := @dec_len (a / 256 % 256); have h4 := @dec_len (a % 256)
  simp only [txt, List.length_append, List.length_singleton]; omega

/-- One step of reading a text: the parts that are done, and the part under way. -/
def pst (s : Option (Nat × Nat)) (c : UInt8) : Option (Nat × Nat) :=
  match s with
  | none => none
  | some (n, p) =>
    if c = 46 then (if n * 256 + p ≤ 16777215 then some (n * 256 + p, 0) else none)
    else if 48 ≤ c.toNat ∧ c.toNat ≤ 57 then (if p * 10 + (c.toNat - 48) ≤ 255 ∧ n ≤ 16777215 then some (n, p * 10 + (c.toNat - 48)) else none)
    else none
def pfold (s : Option (Nat × Nat)) (l : List UInt8) : Option (Nat × Nat) := l.foldl pst s
theorem pfold_append (s : Option (Nat × Nat)) (a b : List UInt8) : pfold s (a ++ b) = pfold (pfold s a) b := by simp [pfold]
theorem pfold_none (l : List UInt8) : pfold none l = none := by
  induction l with
  | nil => rfl
  | cons c l ih => simpa [pfold, pst] using ih

theorem pst_digit {n p d : Nat} (hd : d < 10) (hn : n ≤ 16777215) (hp : p * 10 + d ≤ 255) : pst (some (n, p)) (UInt8.ofNat (48 + d)) = some (n, p * 10 + d) := by
  have e : (UInt8.ofNat (48 + d)).toNat = 48 + d := by simp [UInt8.toNat_ofNat']; omega
  have h46 : UInt8.ofNat (48 + d) ≠ 46 := by intro h; have := congrArg UInt8.toNat h; rw [e] at this; simp at this; omega
  unfold pst
  simp only [h46, if_false, e]
  rw [if_pos (by omega), if_pos (by omega)]
  congr 2; omega
theorem pst_dot {n p : Nat} (h : n * 256 + p ≤ 16777215) : pst (some (n, p)) 46 = some (n * 256 + p, 0) := by simp [pst, h]
theorem pfold_dec {n d : Nat} (hn : n ≤ 16777215) (hd : d < 256) : pfold (some (n, 0)) (dec d) = some (n, d) := by
  unfold dec
  split
  · simp only [pfold, List.foldl_cons, List.foldl_nil]; rw [pst_digit (by omega) hn (by omega)]; congr 2; omega
  · split
    · simp only [pfold, List.foldl_cons, List.foldl_nil]
      rw [pst_digit (by omega) hn (by omega), pst_digit (by omega) hn (by omega)]; congr 2; omega
    · simp only [pfold, List.foldl_cons, List.foldl_nil]
      rw [pst_digit (by omega) hn (by omega), pst_digit (by omega) hn (by omega), pst_digit (by omega) hn (by omega)]; congr 2; omega
theorem pfold_txt {a : Nat} (h : a < 4294967296) : pfold (some (0, 0)) (txt a) = some (a / 256, a % 256) := by
  have dot : ∀ s, pfold s [46] = pst s 46 := fun s => rfl
  simp only [txt, pfold_append, dot]
  rw [pfold_dec (by omega) (by omega), pst_dot (by omega), pfold_dec (by omega) (by omega), pst_dot (by omega), pfold_dec (by omega) (by omega), pst_dot (by omega), pfold_dec (by omega) (by omega)]
  congr 2; omega
theorem pfold_bd : ∀ (l : List UInt8) {n p : Nat} {n0 p0 : Nat}, n0 ≤ 16777215 → p0 ≤ 255 → pfold (some (n0, p0)) l = some (n, p) → n ≤ 16777215 ∧ p ≤ 255
  | [], n, p, n0, p0, h1, h2, h => by simp [pfold] at h; omega
  | c :: l, n, p, n0, p0, h1, h2, h => by
    have h' : pfold (pst (some (n0, p0)) c) l = some (n, p) := h
    cases e : pst (some (n0, p0)) c with
    | none => rw [e, pfold_none] at h'; cases h'
    | some q =>
      obtain ⟨n1, p1⟩ := q
      rw [e] at h'
      refine pfold_bd l ?_ ?_ h'
      all_goals
        unfold pst at e
        dsimp only at e
        split at e
        · split at e
          · simp at e; omega
          · cases e
        · split at e
          · split at e
            · simp at e; omega
            · cases e
          · cases e
theorem txt_inj {a b : Nat} (ha : a < 4294967296) (hb : b < 4294967296) (h : txt a = txt b) : a = b := by
  have h1 := pfold_txt ha
  rw [h, pfold_txt hb] at h1
  simp at h1; omega

theorem pst_no {n p : Nat} {c : UInt8} (h : (c.toNat = 46 ∧ 16777215 < n * 256 + p) ∨ (c.toNat ≠ 46 ∧ (c.toNat < 48 ∨ 57 < c.toNat)) ∨ (c.toNat ≠ 46 ∧ 255 < p * 10 + (c.toNat - 48))) : pst (some (n, p)) c = none := by
  have h46 : c = 46 ↔ c.toNat = 46 := ⟨fun e => by rw [e]; rfl, fun e => UInt8.toNat_inj.1 e⟩
  unfold pst
  dsimp only
  split
  · rw [if_neg (by rw [h46] at *; omega)]
  · split
    · rw [if_neg (by rw [h46] at *; omega)]
    · rfl
theorem pst_46 {n p : Nat} {c : UInt8} (h : c.toNat = 46) (h2 : n * 256 + p ≤ 16777215) : pst (some (n, p)) c = some (n * 256 + p, 0) := by
  have : c = 46 := UInt8.toNat_inj.1 h
  subst this; exact pst_dot h2
theorem pst_dec {n p : Nat} {c : UInt8} (h : 48 ≤ c.toNat) (h2 : c.toNat ≤ 57) (h3 : p * 10 + (c.toNat - 48) ≤ 255) (hn : n ≤ 16777215) : pst (some (n, p)) c = some (n, p * 10 + (c.toNat - 48)) := by
  have e : c = UInt8.ofNat (48 + (c.toNat - 48)) := UInt8.toNat_inj.1 (by simp [UInt8.toNat_ofNat']; omega)
  have := pst_digit (n := n) (p := p) (d := c.toNat - 48) (by omega) hn h3
  rw [← e] at this
  exact this
theorem pfold_take {l : List UInt8} {k : Nat} {s : Option (Nat × Nat)} (h : k < l.length) : pfold s (l.take (k + 1)) = pst (pfold s (l.take k)) l[k] := by
  rw [List.take_succ_eq_append_getElem h, pfold_append]; rfl

/-- The address that a text is, and the error's number. -/
noncomputable def parV (s : List UInt8) : Int := by
  classical exact if h : ∃ a, a < 4294967296 ∧ txt a = s then (Classical.choose h : Nat) else 0
noncomputable def parE (s : List UInt8) : Int := by
  classical exact if ∃ a, a < 4294967296 ∧ txt a = s then 0 else 4
theorem par_yes {s : List UInt8} {a : Nat} (ha : a < 4294967296) (h : txt a = s) : parV s = a ∧ parE s = 0 := by
  have hex : ∃ a, a < 4294967296 ∧ txt a = s := ⟨a, ha, h⟩
  unfold parV parE
  rw [dif_pos hex, if_pos hex]
  obtain ⟨h1, h2⟩ := Classical.choose_spec hex
  have : Classical.choose hex = a := txt_inj h1 ha (h2.trans h.symm)
  exact ⟨by rw [this], rfl⟩
theorem par_no {s : List UInt8} (h : ¬ ∃ a, a < 4294967296 ∧ txt a = s) : parV s = 0 ∧ parE s = 4 := by
  unfold parV parE
  rw [dif_neg h, if_neg h]; exact ⟨rfl, rfl⟩
/-- What reading tells: nothing, and it is no text. -/
theorem par_none {s : List UInt8} {k : Nat} (h : pfold (some (0, 0)) (s.take k) = none) : parV s = 0 ∧ parE s = 4 := by
  refine par_no fun ⟨a, ha, e⟩ => ?_
  have h1 := pfold_txt ha
  rw [e, ← List.take_append_drop k s, pfold_append, h, pfold_none] at h1
  cases h1
theorem par_long {s : List UInt8} (h : 15 < s.length) : parV s = 0 ∧ parE s = 4 :=
  par_no fun ⟨a, _, e⟩ => by have := @txt_len a; rw [e] at this; omega
/-- A number, and the text is its text, or no text at all. -/
theorem par_end {s : List UInt8} {n p : Nat} (h : pfold (some (0, 0)) s = some (n, p)) : (txt (n * 256 + p) = s → parV s = ((n * 256 + p : Nat) : Int) ∧ parE s = 0) ∧ (txt (n * 256 + p) ≠ s → parV s = 0 ∧ parE s = 4) := by
  have hb := pfold_bd s (by omega) (by omega) h
  refine ⟨fun e => par_yes (by omega) e, fun hne => par_no fun ⟨a, ha, e⟩ => hne ?_⟩
  have h1 := pfold_txt ha
  rw [e, h] at h1
  simp at h1
  have : n * 256 + p = a := by omega
  rw [this]; exact e
/-- A text is an address's, or none's. -/
theorem par_cases (s : List UInt8) : (∃ a : Nat, a < 4294967296 ∧ txt a = s ∧ parV s = a ∧ parE s = 0) ∨ (parV s = 0 ∧ parE s = 4) := by
  by_cases h : ∃ a, a < 4294967296 ∧ txt a = s
  · obtain ⟨a, ha, e⟩ := h
    exact .inl ⟨a, ha, e, par_yes ha e⟩
  · exact .inr (par_no h)
end Go.Proofs.Ytogidfagkgccmaa

/-
  Contracts of the document's plain answers of layer 3: Right, Text, Parse, Host, Private. Conditions are each theorem's own.
-/
namespace Go.Proofs.Ytogidfagkgccmaa
open Go.RowKit

theorem ten_cut {m : Nat} (h : m < 10) : ({ data := #[48, 49, 50, 51, 52, 53, 54, 55, 56, 57] } : ByteArray).extract m (m + 1) = strB [UInt8.ofNat (48 + m)] := by
  have : m = 0 ∨ m = 1 ∨ m = 2 ∨ m = 3 ∨ m = 4 ∨ m = 5 ∨ m = 6 ∨ m = 7 ∨ m = 8 ∨ m = 9 := by omega
  rcases this with rfl | rfl | rfl | rfl | rfl | rfl | rfl | rfl | rfl | rfl <;> decide

theorem dec_ten {n : Nat} (h : 10 ≤ n) (h2 : n < 256) : dec (n / 10) ++ [UInt8.ofNat (48 + n % 10)] = dec n := by
  by_cases h3 : n < 100
  · rw [dec, if_pos (by omega), dec, if_neg (by omega), if_pos h3]; rfl
  · rw [dec, if_neg (by omega), if_pos (by omega), dec, if_neg (by omega), if_neg h3]
    rw [show n / 10 / 10 = n / 100 from by omega]; rfl
/-- Is a number an address? A plain definition. -/
def okB (a : Int) : Bool := decide (0 ≤ a ∧ a < 4294967296)
/-- The text of any number. -/
def txtI (a : Int) : List UInt8 := if 0 ≤ a ∧ a < 4294967296 then txt a.toNat else []
end Go.Proofs.Ytogidfagkgccmaa

/-
  Contracts of the document's plain answers of layer 3, the kinds of addresses: Host, Private. Conditions are each theorem's own.
-/
namespace Go.Proofs.Ytogidfagkgccmaa
open Go.RowKit

/-- Is it an address of a host? A plain definition. -/
def hostB (a : Int) : Bool := decide (16777216 ≤ a ∧ a < 3758096384 ∧ ¬ (2130706432 ≤ a ∧ a < 2147483648))
/-- Is it a private one? A plain definition. -/
def privB (a : Int) : Bool := decide ((167772160 ≤ a ∧ a ≤ 184549375) ∨ (2886729728 ≤ a ∧ a ≤ 2887778303) ∨ (3232235520 ≤ a ∧ a ≤ 3232301055))

theorem r3host (a : Int) (w : World) : Calls Try.prog 139 #[.int .i64 a] w fun e w' => e = .returned (.bool (hostB a)) ∧ w = w' := by
  by_cases h : 16777216 ≤ a
  · obtain ⟨n, rfl⟩ := Int.eq_ofNat_of_zero_le (show 0 ≤ a by omega)
    by_cases h2 : (n : Int) < 3758096384
    · by_cases h3 : n / 16777216 = 127
      · have t3 : (((n / 16777216 : Nat) : Int) != 127) = false := by simp [h3]
        go_enter Try.func139, Try.ntmps139
        go_wp2
        go_ret
        exact ⟨ret_bool (by rw [Bool.eq_iff_iff]; simp [hostB]; omega), rfl⟩
      · have t3 : (((n / 16777216 : Nat) : Int) != 127) = true := by simp; omega
        go_enter Try.func139, Try.ntmps139
        go_wp2
        go_ret
        exact ⟨ret_bool (by rw [Bool.eq_iff_iff]; simp [hostB]; omega), rfl⟩
    · have hd : decide ((n : Int) < 3758096384) = false := by simp; omega
      go_enter Try.func139, Try.ntmps139
      go_wp2
      go_ret
      exact ⟨ret_bool (by rw [Bool.eq_iff_iff]; simp [hostB]; omega), rfl⟩
  · have hd : decide (16777216 ≤ a) = false := by simp; omega
    go_enter Try.func139, Try.ntmps139
    go_wp2
    go_ret
    exact ⟨ret_bool (by rw [Bool.eq_iff_iff]; simp [hostB]; omega), rfl⟩

end Go.Proofs.Ytogidfagkgccmaa

/-
  Contracts of be's small functions (isSize, holds, Fits, number, cut), as read off the program's text: what each answers, and that no memory turns. Conditions are each theorem's own.
-/
namespace Go.Proofs.Ytogidfagkgccmaa
open Go.RowKit

/-- A size is 1 to 4. -/
def sizeB (size : Int) : Bool := decide (1 ≤ size ∧ size ≤ 4)
theorem sizeB_yes {s : Int} (h1 : 1 ≤ s) (h2 : s ≤ 4) : sizeB s = true := by simp [sizeB, h1, h2]
theorem sizeB_no {s : Int} (h : s < 1 ∨ 4 < s) : sizeB s = false := by simp [sizeB]; omega

/-- The number that bytes are, the highest first. -/
def num : List UInt8 → Int := List.foldl (fun n x => n * 256 + (x.toNat : Int)) 0
theorem num_snoc (bs : List UInt8) (x : UInt8) : num (bs ++ [x]) = num bs * 256 + (x.toNat : Int) := by simp [num]
theorem num_take (bs : List UInt8) {k : Nat} (hk : k < bs.length) : num (bs.take (k + 1)) = num (bs.take k) * 256 + byt bs k := by
  rw [List.take_succ_eq_append_getElem hk, num_snoc]; simp [byt, hk]
theorem num_bd (bs : List UInt8) : 0 ≤ num bs ∧ num bs < 256 ^ bs.length := by
  suffices h : ∀ (bs : List UInt8) (n : Int) (k : Nat), 0 ≤ n → n < 256 ^ k → 0 ≤ List.foldl (fun n x => n * 256 + ((x : UInt8).toNat : Int)) n bs ∧ List.foldl (fun n x => n * 256 + ((x : UInt8).toNat : Int)) n bs < 256 ^ (k + bs.length) by
    simpa [num] using h bs 0 0 (by omega) (by simp)
  intro bs
  induction bs with
  | nil => intro n k h0 h1; simpa using ⟨h0, h1⟩
  | cons x l ih =>
    intro n k h0 h1
    have hx := x.toNat_lt
    have hp : (256 : Int) ^ (k + 1) = 256 ^ k * 256 := by rw [Int.pow_succ]
    have := ih (n * 256 + (x.toNat : Int)) (k + 1) (by omega) (by omega)
    simp only [List.foldl_cons, List.length_cons]
    rw [show k + (l.length + 1) = k + 1 + l.length from by omega]
    exact this
theorem num_small (bs : List UInt8) {k : Nat} (hk : k ≤ 3) : 0 ≤ num (bs.take k) ∧ num (bs.take k) < 16777216 := by
  have h := num_bd (bs.take k)
  refine ⟨h.1, Int.lt_of_lt_of_le h.2 ?_⟩
  have hl : (bs.take k).length ≤ 3 := by rw [List.length_take]; omega
  have h3 : (bs.take k).length = 0 ∨ (bs.take k).length = 1 ∨ (bs.take k).length = 2 ∨ (bs.take k).length = 3 := by omega
  rcases h3 with e | e | e | e <;> rw [e] <;> decide

/-- 256 to the power of k. A plain definition. -/
def pw (k : Nat) : Int := 256 ^ k
theorem pw_succ (k : Nat) : pw (k + 1) = pw k * 256 := by simp [pw, Int.pow_succ]
theorem pw_pos (k : Nat) : 1 ≤ pw k := by induction k with | zero => simp [pw] | succ k ih => rw [pw_succ]; omega
theorem pw_le {k : Nat} (h : k ≤ 4) : pw k ≤ 4294967296 := by
  have : k = 0 ∨ k = 1 ∨ k = 2 ∨ k = 3 ∨ k = 4 := by omega
  rcases this with rfl | rfl | rfl | rfl | rfl <;> decide

/-- Fits: n is a number of so many bytes. -/
def fitsB (n s : Int) : Bool := decide (1 ≤ s ∧ s ≤ 4 ∧ 0 ≤ n ∧ n < pw s.toNat)

theorem fitsB_iff {n s : Int} : fitsB n s = true ↔ 1 ≤ s ∧ s ≤ 4 ∧ 0 ≤ n ∧ n < pw s.toNat := by simp [fitsB]

/-! ### Get -/

/-- The number of size bytes from at on, and the error's number. -/
def getV (bs : List UInt8) (at_ s : Int) : Int := if 1 ≤ s ∧ s ≤ 4 ∧ 0 ≤ at_ ∧ at_ ≤ (bs.length : Int) - s then num ((bs.drop at_.toNat).take s.toNat) else 0
def getE (n : Nat) (at_ s : Int) : Int := if 1 ≤ s ∧ s ≤ 4 ∧ 0 ≤ at_ then (if at_ ≤ (n : Int) - s then 0 else 3) else 1
theorem getV_no {bs : List UInt8} {at_ s : Int} (h : ¬ (1 ≤ s ∧ s ≤ 4 ∧ 0 ≤ at_ ∧ at_ ≤ (bs.length : Int) - s)) : getV bs at_ s = 0 := by rw [getV, if_neg h]
theorem getE_arg {n : Nat} {at_ s : Int} (h : ¬ (1 ≤ s ∧ s ≤ 4 ∧ 0 ≤ at_)) : getE n at_ s = 1 := by rw [getE, if_neg h]
theorem getE_short {n : Nat} {at_ s : Int} (h : 1 ≤ s ∧ s ≤ 4 ∧ 0 ≤ at_) (h2 : ¬ at_ ≤ (n : Int) - s) : getE n at_ s = 3 := by rw [getE, if_pos h, if_neg h2]
theorem getE_ok {n : Nat} {at_ s : Int} (h : 1 ≤ s ∧ s ≤ 4 ∧ 0 ≤ at_) (h2 : at_ ≤ (n : Int) - s) : getE n at_ s = 0 := by rw [getE, if_pos h, if_pos h2]
theorem getV_ok {bs : List UInt8} {a s : Nat} (h1 : 1 ≤ s) (h4 : s ≤ 4) (h : a + s ≤ bs.length) : getV bs a s = num ((bs.drop a).take s) := by
  rw [getV, if_pos (by omega)]; simp

theorem byt_cut (bs : List UInt8) (a s : Nat) {j : Nat} (hj : j < s) : byt ((bs.drop a).take s) j = byt bs (a + j) := by
  unfold byt; rw [List.getElem?_take, if_pos hj, List.getElem?_drop]
theorem len_cut {bs : List UInt8} {a s : Nat} (h : a + s ≤ bs.length) : ((bs.drop a).take s).length = s := by simp; omega

theorem Rd.cut {w : World} {B b off : Nat} {bs : List UInt8} (a s : Nat) (hs : a + s ≤ bs.length) (hb : b < B)
    (hc : ∀ j, j < bs.length → w.cell? ⟨b, off + j, none⟩ = some (.int .u8 (byt bs j))) : Rd w B (some ⟨b, off + a, none⟩) ((bs.drop a).take s) := fun _ =>
  ⟨b, off + a, rfl, hb, fun j hj => by
    rw [len_cut hs] at hj
    rw [byt_cut bs a s hj, Nat.add_assoc]
    exact hc _ (by omega)⟩

end Go.Proofs.Ytogidfagkgccmaa

/-
  Contracts of be's functions that make memory: roomy, digits and its iterator, write, Put, Set, Words and its iterator. Conditions are each theorem's own.
-/
namespace Go.Proofs.Ytogidfagkgccmaa
open Go.RowKit Go.Shelf
attribute [local go_sem] Oper.semAt_some

theorem info_u8 : (Try.prog.info? 5).map (fun i => (i.zero, i.size, i.bytes)) = some (some (.int .u8 0), 1, 1) := by kernel_rfl
theorem size_u8 : (Try.prog.info? 5).map (·.size) = some 1 := by kernel_rfl
theorem made_rep (z : Value) (n : Nat) : madeCells #[z] n = (List.replicate n z).toArray := by
  apply Array.ext'; rw [toList_madeCells_one]

/-- bytes, and noughts behind them up to n. -/
def pad (bs : List UInt8) (n : Nat) : List UInt8 := bs ++ List.replicate (n - bs.length) 0
theorem pad_length {bs : List UInt8} {n : Nat} (h : bs.length ≤ n) : (pad bs n).length = n := by simp [pad]; omega
theorem row_pad (bs : List UInt8) (n : Nat) : splice (List.replicate n (.int .u8 0)) 0 (row bs) = row (pad bs n) := by
  simp [splice, row, pad]


theorem roomy_src {w : World} {B : Nat} {A : Option Addr} {bs : List UInt8} (h : Rd w B A bs) (hB : B ≤ w.heap.size) (o : Obj) (hp : 0 < (row bs).length) :
    some (⟨w.heap.size, 0, none⟩ : Addr) = some ⟨w.heap.size, 0, none⟩ ∧ ∃ ad, A = some ad ∧ ∀ j v, (row bs)[j]? = some v → (w.alloc o).cell? (ad.add j) = some v := by
  rw [row_length] at hp
  obtain ⟨b, off, rfl, hb, hc⟩ := (h.alloc hB o) hp
  refine ⟨rfl, _, rfl, fun j v hv => ?_⟩
  have hj : j < bs.length := by have := (List.getElem?_eq_some_iff.1 hv).1; rwa [row_length] at this
  rw [row_getD bs hj hv]
  rw [add_off]; exact hc j hj

/-! ### What a round keeps -/

/-- The blocks from lo on and below hi lie as they lay. -/
def Holds (lo hi : Nat) (W W' : World) : Prop := W.heap.size ≤ W'.heap.size ∧ ∀ k, lo ≤ k → k < hi → W'.heap[k]? = W.heap[k]?
theorem Holds.refl (lo hi : Nat) (W : World) : Holds lo hi W W := ⟨Nat.le_refl _, fun _ _ _ => rfl⟩
theorem Holds.trans {lo hi : Nat} {A B C : World} (h : Holds lo hi A B) (k : Holds lo hi B C) : Holds lo hi A C :=
  ⟨Nat.le_trans h.1 k.1, fun i h1 h2 => (k.2 i h1 h2).trans (h.2 i h1 h2)⟩
theorem Holds.b {lo hi : Nat} {w : World} (hh : hi ≤ w.heap.size) (W : World) (l : Nat) (o o' : Obj) (hl : w.heap.size ≤ l) (_ : W.heap[l]? = some o) (_ : o.isCells = false) (_ : o.isWalk = false) : Holds lo hi W (W.putObj l o') :=
  ⟨by simp, fun k _ h2 => World.putObj_heap_other (by omega)⟩
theorem Holds.setCell {lo hi : Nat} {W : World} {p : Addr} (hp : p.block < lo ∨ hi ≤ p.block) (v : Value) : Holds lo hi W (W.setCell p v) :=
  ⟨by simp [World.setCell], fun k h1 h2 => Below.heap_setCell W p v k (by omega)⟩
theorem Holds.of_below {lo hi B : Nat} {W W' : World} (h : Below B W W') (hB : hi ≤ B) : Holds lo hi W W' := ⟨h.size, fun k _ h2 => h.block k (by omega)⟩
theorem Holds.cell {lo hi : Nat} {W W' : World} (h : Holds lo hi W W') {p : Addr} (h1 : lo ≤ p.block) (h2 : p.block < hi) : W'.cell? p = W.cell? p := World.cell?_of_block (w := W) (h.2 p.block h1 h2)
theorem Holds.rd {lo hi : Nat} {W W' : World} (h : Holds lo hi W W') {b off n : Nat} {bs : List UInt8} (h1 : lo ≤ b) (h2 : b < hi)
    (hc : ∀ j, j < n → W.cell? ⟨b, off + j, none⟩ = some (.int .u8 (byt bs j))) : ∀ j, j < n → W'.cell? ⟨b, off + j, none⟩ = some (.int .u8 (byt bs j)) :=
  fun j hj => (h.cell (p := ⟨b, off + j, none⟩) h1 h2).trans (hc j hj)

/-! ### digits -/

/-- The byte at place i of n in s bytes. -/
def dig (n : Int) (s i : Nat) : UInt8 := UInt8.ofNat (n / pw (s - 1 - i)).toNat
theorem dig_val {n : Int} (h : 0 ≤ n) (s i : Nat) : ((dig n s i).toNat : Int) = n / pw (s - 1 - i) % 256 := by
  have h1 : 0 ≤ n / pw (s - 1 - i) := Int.ediv_nonneg h (by have := pw_pos (s - 1 - i); omega)
  simp only [dig, UInt8.toNat_ofNat']
  omega
def digs (n : Int) (s : Nat) : List UInt8 := (List.range s).map (dig n s)
theorem digs_length (n : Int) (s : Nat) : (digs n s).length = s := by simp [digs]

/-- The places of s, the first k. -/
def ups (s k : Nat) : List { i : Nat // i < s } := (List.range k).filterMap fun i => if h : i < s then some ⟨i, h⟩ else none
theorem ups_succ {s k : Nat} (h : k < s) : ups s (k + 1) = ups s k ++ [⟨k, h⟩] := by
  simp [ups, List.range_succ, List.filterMap_append, h]
theorem ups_length {s k : Nat} (h : k ≤ s) : (ups s k).length = k := by
  induction k with
  | zero => simp [ups]
  | succ k ih => rw [ups_succ (by omega)]; simp [ih (by omega)]

/-- What yield is handed. -/
def encD (n : Int) (s : Nat) (x : { i : Nat // i < s }) : Array Value := #[.int .i64 (x.1 : Int), .int .u8 ((dig n s x.1).toNat : Int)]

theorem shift_dig {n : Int} (h : 0 ≤ n) {s i : Nat} (hi : i < s) (h4 : s ≤ 4) :
    ((dig n s i).toNat : Int) = n / 2 ^ (8 * (s - 1 - i)) % 256 := by
  rw [dig_val h]
  obtain ⟨m, hm⟩ : ∃ m, m = s - 1 - i := ⟨_, rfl⟩
  rw [← hm]
  have h4 : m = 0 ∨ m = 1 ∨ m = 2 ∨ m = 3 := by omega
  rcases h4 with rfl | rfl | rfl | rfl <;> simp [pw]

/-! ### write -/

/-- What the cells are when the places of pre are written. -/
def setD (bs : List UInt8) (off : Nat) (n : Int) (s : Nat) (pre : List { i : Nat // i < s }) : List UInt8 := pre.foldl (fun l x => l.set (off + x.1) (dig n s x.1)) bs
theorem setD_snoc (bs : List UInt8) (off : Nat) (n : Int) (s : Nat) (pre : List { i : Nat // i < s }) (x : { i : Nat // i < s }) :
    setD bs off n s (pre ++ [x]) = (setD bs off n s pre).set (off + x.1) (dig n s x.1) := by simp [setD]
theorem setD_length (bs : List UInt8) (off : Nat) (n : Int) (s : Nat) (pre : List { i : Nat // i < s }) : (setD bs off n s pre).length = bs.length := by
  unfold setD
  induction pre generalizing bs with
  | nil => rfl
  | cons x l ih => rw [List.foldl_cons, ih, List.length_set]
theorem splice_set {α : Type} (bs ds : List α) (off : Nat) (x : α) (h : off + ds.length < bs.length) : (splice bs off ds).set (off + ds.length) x = splice bs off (ds ++ [x]) := by
  apply List.ext_getElem?
  intro i
  simp only [splice, List.getElem?_set, List.getElem?_append, List.length_take, List.length_append, List.length_drop, List.getElem?_drop, List.getElem?_take, List.length_cons, List.length_nil]
  by_cases h1 : i < off
  · have e : ¬ off + ds.length = i := by omega
    have e1 : i < min off bs.length := by omega
    simp [e, e1]
  · by_cases h2 : i < off + ds.length
    · have e : ¬ off + ds.length = i := by omega
      have e1 : ¬ i < min off bs.length := by omega
      have e2 : i - min off bs.length < ds.length := by omega
      have e3 : i - min off bs.length < ds.length + 1 := by omega
      simp [e, e1, e2, e3]
    · by_cases h3 : i = off + ds.length
      · subst h3
        have e1 : ¬ off + ds.length < min off bs.length := by omega
        have e2 : ¬ off + ds.length - min off bs.length < ds.length := by omega
        have e3 : off + ds.length - min off bs.length < ds.length + 1 := by omega
        have e4 : off + ds.length - min off bs.length - ds.length = 0 := by omega
        simp [e1, e2, e3, e4]
        omega
      · have e : ¬ off + ds.length = i := by omega
        have e1 : ¬ i < min off bs.length := by omega
        have e2 : ¬ i - min off bs.length < ds.length := by omega
        have e3 : ¬ i - min off bs.length < ds.length + 1 := by omega
        simp [e, e1, e2, e3]
        congr 1
        omega
theorem setD_ups (bs : List UInt8) (off : Nat) (n : Int) (s k : Nat) (hk : k ≤ s) (h : off + s ≤ bs.length) : setD bs off n s (ups s k) = splice bs off ((List.range k).map (dig n s)) := by
  induction k with
  | zero => simp [ups, setD, splice]
  | succ k ih =>
    rw [ups_succ (by omega), setD_snoc, ih (by omega), List.range_succ, List.map_append, List.map_singleton]
    have hl : ((List.range k).map (dig n s)).length = k := by simp
    have := splice_set bs ((List.range k).map (dig n s)) off (dig n s k) (by rw [hl]; omega)
    rw [hl] at this
    exact this
theorem setD_all (bs : List UInt8) (off : Nat) (n : Int) (s : Nat) (h : off + s ≤ bs.length) : setD bs off n s (ups s s) = splice bs off (digs n s) := setD_ups bs off n s s (Nat.le_refl _) h
theorem row_set (bs : List UInt8) (i : Nat) (x : UInt8) : (row bs).toArray.setIfInBounds i (.int .u8 (x.toNat : Int)) = (row (bs.set i x)).toArray := by
  simp [row, List.map_set]

theorem heap_set {W : World} {g t : Nat} {cs : Array Value} (h : W.heap[g]? = some (.cells cs t (0, 0))) (i : Nat) (v : Value) :
    (W.setCell ⟨g, i, none⟩ v).heap[g]? = some (.cells (cs.setIfInBounds i v) t (0, 0)) := by
  simp [World.setCell, Array.getElem?_modify, h]
theorem heap_frozen {W : World} {g t : Nat} {cs : Array Value} (h : W.heap[g]? = some (.cells cs t (0, 0))) (i : Nat) : W.frozen? ⟨g, i, none⟩ = false := by
  simp [World.frozen?, h]
theorem heap_lt {W : World} {g : Nat} {o : Obj} (h : W.heap[g]? = some o) : g < W.heap.size := (Array.getElem?_eq_some_iff.1 h).1
theorem row_cell {W : World} {g t : Nat} {bs : List UInt8} (h : W.heap[g]? = some (.cells (row bs).toArray t (0, 0))) {i : Nat} (hi : i < bs.length) :
    W.cell? ⟨g, i, none⟩ = some (.int .u8 (byt bs i)) := by
  rw [cell_of_row W g i _ t (0, 0) h]
  simpa using row_get bs hi
/-- Only block g, and what is new, has turned. -/
theorem grown_then {a w w' : World} {g B : Nat} {r : Option Nat} (h : a.grownBy w (some g)) (hg : w.grownBy w' r) (hB : a.heap.size ≤ B) (hr : ∀ k, r = some k → B ≤ k) : a.grownBy w' (some g) :=
  ⟨hg.os.trans h.os, hg.tape.trans h.tape, hg.output.trans h.output, Nat.le_trans h.size hg.size, fun i hi hne => (hg.block i (Nat.lt_of_lt_of_le hi h.size) (fun e => by have := hr i e.symm; omega)).trans (h.block i hi hne)⟩
theorem grown_set {a w : World} {g : Nat} (h : a.grownBy w (some g)) (i : Nat) (v : Value) : a.grownBy (w.setCell ⟨g, i, none⟩ v) (some g) :=
  ⟨h.os, h.tape, h.output, by simpa [World.setCell] using h.size, fun k hk hne => (Below.heap_setCell w ⟨g, i, none⟩ v k (fun e => hne (by rw [e]))).trans (h.block k hk hne)⟩
theorem grown_below {a w : World} {g : Nat} (h : Below a.heap.size a w) : a.grownBy w (some g) := ⟨h.os, h.tape, h.output, h.size, fun i hi _ => h.block i hi⟩

/-! ### New slices of bytes -/

/-- v is a slice of the bytes bs in memory that came after w; nothing of w has turned. -/
def Made (w w' : World) (v : Value) (bs : List UInt8) : Prop :=
  ∃ A c, v = .slice A bs.length c ∧ bs.length ≤ c ∧ Rd w' w'.heap.size A bs ∧ w'.ownsRow w.heap.size 5 1 v bs.length (row bs) ∧ Below w.heap.size w w'
theorem Made.of_own {w w' : World} {v : Value} {bs : List UInt8} (h : w'.ownsRow w.heap.size 5 1 v bs.length (row bs)) (hb : Below w.heap.size w w') : Made w w' v bs := by
  have h' := h
  rcases h'.2 with ⟨rfl, h0⟩ | ⟨g, cap, cur, rfl, _, _, hle, _⟩
  · obtain rfl : bs = [] := List.eq_nil_of_length_eq_zero h0
    exact ⟨none, 0, rfl, Nat.le_refl _, Rd.nil, h, hb⟩
  · exact ⟨_, cap, rfl, hle, Rd.of_own rfl h, h, hb⟩
theorem Made.nil (w w' : World) (hb : Below w.heap.size w w') : Made w w' (.slice none 0 0) [] := Made.of_own (World.ownsRow_nil _ _ _ _) hb
theorem own_of_block {w : World} {base g t : Nat} {bs : List UInt8} (hb : base ≤ g) (h : w.heap[g]? = some (.cells (row bs).toArray t (0, 0))) (hm : bs.length ≤ 1099511627780) :
    w.ownsRow base t 1 (.slice (some ⟨g, 0, none⟩) bs.length bs.length) bs.length (row bs) :=
  ⟨by simp [row_length], .inr ⟨g, bs.length, (row bs).toArray, rfl, hb, h, Nat.le_refl _, by unfold maxLen; omega, by simp [row_length], by rw [Nat.mul_one, List.take_of_length_le (by simp [row_length])]⟩⟩

/-- Put: bs, and n's bytes behind, if it fits. -/
def putB (bs : List UInt8) (n s : Int) : List UInt8 := if fitsB n s then bs ++ digs n s.toNat else bs
theorem splice_end (bs : List UInt8) (k : Nat) (ds : List UInt8) (h : ds.length = k) : splice (pad bs (bs.length + k)) bs.length ds = bs ++ ds := by
  simp [splice, pad, ← h]

/-! ### Set -/
def setE (len : Nat) (at_ n s : Int) : Int := if fitsB n s then getE len at_ s else 1
def setB (bs : List UInt8) (at_ n s : Int) : List UInt8 := if fitsB n s ∧ 0 ≤ at_ ∧ at_ ≤ (bs.length : Int) - s then splice bs at_.toNat (digs n s.toNat) else []

end Go.Proofs.Ytogidfagkgccmaa

/-
  Contracts of bytes.Clone and bytes.Equal, as read off the library's text, and a law for append whose source reads as bytes. Conditions are each theorem's own.
-/
namespace Go.Proofs.Ytogidfagkgccmaa
open Go.RowKit

theorem Rd.src {w : World} {B : Nat} {ad : Addr} {bs : List UInt8} (h : Rd w B (some ad) bs) : ∀ j v, (row bs)[j]? = some v → w.cell? (ad.add j) = some v := fun j v hv => by
  have hj : j < bs.length := by have := (List.getElem?_eq_some_iff.1 hv).1; rwa [row_length] at this
  obtain ⟨b, off, e, _, hc⟩ := h (by omega)
  injection e with e
  subst e
  rw [row_getD bs hj hv, add_off]; exact hc j hj

/-- append onto a row of the call's own, of a source that reads as bytes. -/
theorem append_rd {w : World} {ops : Array Oper} {rest : List Oper} {o : Oper} {a : Act} {Q : Exit → Act → World → Prop} (hgd : o.guard = none) (s x : Operand)
    (ho : o.op = .call { callee := .builtin .append, args := #[s, x], argTypes := #[32, 32] })
    (base : Nat) (v : Value) (n : Nat) (xs : List Value) (hs : a.eval s = v) (hown : w.ownsRow base 5 1 v n xs)
    (B : Nat) (A : Option Addr) (c : Nat) (bs : List UInt8) (hx : a.eval x = .slice A bs.length c) (hA : A = none → c = 0) (hr : Rd w B A bs)
    (hlen : n + bs.length ≤ 2199023255552) (hbase : base ≤ w.heap.size)
    (h : ∀ v' w', w'.ownsRow base 5 1 v' (n + bs.length) (xs ++ row bs) → w.grownBy w' v.ownBlock → wpList Try.prog ops Q rest (a.put o.dst v') w') : wpList Try.prog ops Q (o :: rest) a w := by
  obtain ⟨i0, hi, hz0, hz1, hz2⟩ := info_parts info_u8
  rcases A with _ | ad
  · have h0 : bs = [] := by
      rcases Nat.eq_zero_or_pos bs.length with e | e
      · exact List.eq_nil_of_length_eq_zero e
      · obtain ⟨_, _, e', _⟩ := hr e; cases e'
    subst h0
    obtain rfl := hA rfl
    exact wpList_append_own_none hgd s x 32 ho base 5 i0 1 Try.underlying32 hi v n xs hs hown hx (h v w (by simpa [row] using hown) (World.grownBy.refl w _))
  · exact wpList_append_own w hgd s x 32 ho base 5 i0 (.int .u8 0) 1 1 Try.underlying32 hi hz0 hz1 hz2 rfl (by decide) v n xs hs hown ad bs.length c (row bs) hx
      (by rw [row_length, Nat.mul_one]) hr.src (row_one bs) (by unfold maxLen; omega) (by omega) hbase (fun v' w' h1 h2 _ => h v' w' h1 h2)

theorem own_block_ge {w : World} {base e size n : Nat} {v : Value} {xs : List Value} (h : w.ownsRow base e size v n xs) : ∀ k, v.ownBlock = some k → base ≤ k := by
  intro k hk
  rcases h.2 with ⟨rfl, _⟩ | ⟨g, cap, cur, rfl, hb, _⟩
  · simp [Value.ownBlock] at hk
  · simp [Value.ownBlock] at hk; omega

set_option maxHeartbeats 1000000 in
theorem clone_any (A : Option Addr) (bs : List UInt8) (c B : Nat) (w : World) (h : Arg w B A c bs) (hB : B ≤ w.heap.size) (hl : bs.length ≤ 1099511627776) :
    Calls Try.prog 154 #[.slice A bs.length c] w fun e w' => ∃ v, e = .returned v ∧ Made w w' v bs := by
  have q22 : ∀ (w : World) (a : Option Addr) (n c n' c' : Nat), (binOp .eql 32 (.slice a n c) (.slice none n' c')).run Try.prog w = .ok (.bool a.isNone) w := fun w a n c n' c' => Lib.run_eql_slice_nil w _ _ a n c n' c' Try.underlying32
  rcases A with _ | ad
  · have h0 : bs = [] := by
      rcases Nat.eq_zero_or_pos bs.length with e | e
      · exact List.eq_nil_of_length_eq_zero e
      · obtain ⟨_, _, e', _⟩ := h.rd e; cases e'
    subst h0
    go_enter Try.func154, Try.ntmps154
    go_wp2
    go_ret
    exact ⟨_, rfl, Made.nil _ _ (Below.refl _ _)⟩
  · have hr := h.rd
    have hn := h.none_
    go_enter Try.func154, Try.ntmps154
    go_wp2_with (at_builtin; refine append_rd rfl _ _ rfl w.heap.size _ _ _ rfl (World.ownsRow_made w #[] 0 (Nat.le_refl _) (Nat.zero_le _) rfl) B (some ad) c bs rfl hn (hr.alloc hB _) (by omega) (by simp) ?_; intro v' w1 hown hgrow)
    go_ret
    refine ⟨_, rfl, Made.of_own (by simpa using hown) (((Below.refl _ w).alloc (Nat.le_refl _) _).grown hgrow (by simp) (fun k hk => own_block_ge (World.ownsRow_made (base := w.heap.size) (e := 5) (size := 1) w #[] 0 (Nat.le_refl _) (Nat.zero_le _) rfl) k hk))⟩

theorem conv_any (A : Option Addr) (bs : List UInt8) (c B : Nat) (w : World) (h : Rd w B A bs) :
    (convert 32 9 (.slice A bs.length c)).run Try.prog w = .ok (.string (strB bs)) w := by
  rcases Nat.eq_zero_or_pos bs.length with h0 | h0
  · obtain rfl : bs = [] := List.eq_nil_of_length_eq_zero h0
    rw [List.length_nil, run_convert_bytes_string w 32 9 5 _ 0 c Try.underlying32 Try.underlying5 Try.underlying9]
    cases A <;> simp [Conv.bytesToString, loadCells] <;> rfl
  · obtain ⟨b, off, rfl, _, hc⟩ := h h0
    have := run_convert_bytes_arg (P := Try.prog) w 32 5 Try.underlying32 Try.underlying5 b off bs.length c (bs.map fun x => (x.toNat : Int)) (by simp)
      (fun i hi => by rw [hc i hi]; simp [byt, hi]) 9 Try.underlying9
    rw [this]
    simp [strOfNums, strB, Function.comp_def]

theorem equal_any (A A' : Option Addr) (xs bs : List UInt8) (c c' B B' : Nat) (w : World) (h : Rd w B A xs) (h' : Rd w B' A' bs) :
    Calls Try.prog 19 #[.slice A xs.length c, .slice A' bs.length c'] w fun e w' => e = .returned (.bool (decide (xs = bs))) ∧ w = w' := by
  have h1 := conv_any A xs c B w h
  have h2 := conv_any A' bs c' B' w h'
  rw [← strB_eq]
  clear h h'
  go_enter Try.func19, Try.ntmps19
  go_wp2
  go_ret
  exact ⟨rfl, rfl⟩
end Go.Proofs.Ytogidfagkgccmaa

/-
  Contract of be.Words and of the iterator that it hands back: it tells the pairs of bytes in order, each with its number. Conditions are each theorem's own.
-/
namespace Go.Proofs.Ytogidfagkgccmaa
open Go.RowKit Go.Shelf
attribute [local go_sem] Oper.semAt_some

/-- The number of pair i (a byte that is not there is 0), and where it begins. Plain definitions. -/
def wrd (bs : List UInt8) (i : Nat) : Int := byt bs (2 * i) * 256 + byt bs (2 * i + 1)
def dbl (i : Nat) : Int := ((2 * i : Nat) : Int)
theorem byt_beyond {bs : List UInt8} {j : Nat} (h : bs.length ≤ j) : byt bs j = 0 := by simp [byt, List.getElem?_eq_none h]
theorem wrd_bd (bs : List UInt8) (i : Nat) : 0 ≤ wrd bs i ∧ wrd bs i ≤ 65535 := by
  have := byt_lo bs (2 * i); have := byt_lo bs (2 * i + 1); have := byt_hi bs (2 * i); have := byt_hi bs (2 * i + 1)
  unfold wrd; omega
def encW (bs : List UInt8) (i : Nat) : Array Value := #[.int .i64 (dbl i), .int .i64 (wrd bs i)]
/-- How many pairs. -/
def prs (n : Nat) : Nat := (n + 1) / 2

theorem byt_pad (bs : List UInt8) (n j : Nat) : byt (pad bs n) j = byt bs j := by
  unfold byt pad
  by_cases h : j < bs.length
  · rw [List.getElem?_append_left h]
  · rw [List.getElem?_append_right (by omega), List.getElem?_eq_none (l := bs) (by omega)]
    by_cases h2 : j - bs.length < n - bs.length
    · rw [List.getElem?_replicate, if_pos h2]; rfl
    · rw [List.getElem?_replicate, if_neg h2]
theorem num_two (bs : List UInt8) (h : bs.length = 2) : num bs = byt bs 0 * 256 + byt bs 1 := by
  match bs, h with
  | [x, y], _ => simp [num, byt]

end Go.Proofs.Ytogidfagkgccmaa

/-
  Contracts of the document's plain answers of layer 1: Word, Put, Set. Conditions are each theorem's own.
-/
namespace Go.Proofs.Ytogidfagkgccmaa
open Go.RowKit

theorem Rd.one {W : World} {v : Int} {x : UInt8} (t : TypeId) (h : v = (x.toNat : Int)) : Rd (W.alloc (.cells #[.int .u8 v] t)) (W.heap.size + 1) (some ⟨W.heap.size, 0, none⟩) [x] :=
  Rd.of_block (g := W.heap.size) (World.alloc_heap_new W _) (Nat.lt_succ_self _) 0 (fun j hj => by
    have : j = 0 := by simpa using hj
    subst this; simp [h, byt])

theorem dig_wrap {n : Int} (h : 0 ≤ n) (s i : Nat) : n / pw (s - 1 - i) % 256 = ((dig n s i).toNat : Int) := (dig_val h s i).symm

end Go.Proofs.Ytogidfagkgccmaa

/-
  Contract of layer 1's awake: it answers true, and turns nothing that was there. Conditions: none.
-/
namespace Go.Proofs.Ytogidfagkgccmaa
open Go.RowKit

theorem equal_awake (A A' : Option Addr) (c c' B B' : Nat) (w : World) (h : Rd w B A [1, 2]) (h' : Rd w B' A' [1, 2]) :
    Calls Try.prog 19 #[.slice A 2 c, .slice A' 2 c'] w fun e w' => e = .returned (.bool true) ∧ w = w' := by
  have := equal_any A A' [1, 2] [1, 2] c c' B B' w h h'
  rw [show decide ([(1 : UInt8), 2] = [1, 2]) = true from by decide] at this
  exact this

theorem Rd.two {W : World} (t : TypeId) : Rd (W.alloc (.cells #[.int .u8 1, .int .u8 2] t)) (W.heap.size + 1) (some ⟨W.heap.size, 0, none⟩) [1, 2] :=
  Rd.of_block (g := W.heap.size) (World.alloc_heap_new W _) (Nat.lt_succ_self _) 0 (fun j hj => by
    have : j = 0 ∨ j = 1 := by simp at hj; omega
    rcases this with rfl | rfl <;> rfl)

theorem num_digs {n : Int} {k : Nat} (h1 : 1 ≤ k) (h4 : k ≤ 4) (h0 : 0 ≤ n) (hn : n < pw k) : num (digs n k) = n := by
  have hv := fun i => dig_val h0 k i
  have hk : k = 1 ∨ k = 2 ∨ k = 3 ∨ k = 4 := by omega
  rcases hk with rfl | rfl | rfl | rfl
  · have v0 := hv 0
    simp [pw] at v0 hn
    simp only [digs, num, List.range_succ, List.range_zero, List.nil_append, List.map_cons, List.map_nil, List.foldl_cons, List.foldl_nil, v0]
    omega
  · have v0 := hv 0; have v1 := hv 1
    simp [pw] at v0 v1 hn
    simp only [digs, num, List.range_succ, List.range_zero, List.nil_append, List.cons_append, List.map_cons, List.map_nil, List.foldl_cons, List.foldl_nil, v0, v1]
    omega
  · have v0 := hv 0; have v1 := hv 1; have v2 := hv 2
    simp [pw] at v0 v1 v2 hn
    simp only [digs, num, List.range_succ, List.range_zero, List.nil_append, List.cons_append, List.map_cons, List.map_nil, List.foldl_cons, List.foldl_nil, v0, v1, v2]
    omega
  · have v0 := hv 0; have v1 := hv 1; have v2 := hv 2; have v3 := hv 3
    simp [pw] at v0 v1 v2 v3 hn
    simp only [digs, num, List.range_succ, List.range_zero, List.nil_append, List.cons_append, List.map_cons, List.map_nil, List.foldl_cons, List.foldl_nil, v0, v1, v2, v3]
    omega

/-- Get of what Put put behind is the number. -/
theorem get_put (bs : List UInt8) {n s : Int} (h : fitsB n s = true) :
    getV (putB bs n s) bs.length s = n ∧ getE (putB bs n s).length bs.length s = 0 ∧ (putB bs n s).length ≤ bs.length + 4 := by
  have hf := fitsB_iff.1 h
  obtain ⟨k, rfl⟩ := Int.eq_ofNat_of_zero_le (show 0 ≤ s by omega)
  have hp : putB bs n k = bs ++ digs n k := by simp [putB, h]
  have hl : (bs ++ digs n k).length = bs.length + k := by rw [List.length_append, digs_length]
  rw [hp]
  refine ⟨?_, getE_ok ⟨hf.1, hf.2.1, by omega⟩ (by rw [hl]; omega), by rw [hl]; omega⟩
  rw [getV_ok (by omega) (by omega) (by omega), List.drop_left, List.take_of_length_le (by rw [digs_length]; exact Nat.le_refl _)]
  exact num_digs (by omega) (by omega) hf.2.2.1 (by simpa using hf.2.2.2)

theorem equal_same (A A' : Option Addr) (bs : List UInt8) (c c' B B' : Nat) (w : World) (h : Rd w B A bs) (h' : Rd w B' A' bs) :
    Calls Try.prog 19 #[.slice A bs.length c, .slice A' bs.length c'] w fun e w' => e = .returned (.bool true) ∧ w = w' := by
  have := equal_any A A' bs bs c c' B B' w h h'
  rw [show decide (bs = bs) = true from by simp] at this
  exact this

/-! ### For ranges over Words -/
theorem dbl_lt {n i : Nat} (h : i < prs n) : dbl i < (n : Int) := by unfold prs at h; unfold dbl; omega
theorem dbl_ne {i j : Nat} (h : i ≠ j) : (dbl i != dbl j) = true := by rw [bne_iff_ne]; unfold dbl; omega
theorem dbl_succ (i : Nat) : dbl (i + 1) = dbl i + 2 := by unfold dbl; omega
theorem dbl_bd {n i : Nat} (h : i ≤ prs n) : 0 ≤ dbl i ∧ dbl i ≤ (n : Int) + 1 := by unfold prs at h; unfold dbl; omega
theorem dbl_all (n : Nat) : (n : Int) ≤ dbl (prs n) ∧ dbl (prs n) ≤ (n : Int) + 1 := by unfold prs dbl; omega
theorem Boxed.below {W W' : World} {B t : Nat} {v : Value} {B' : Nat} (h : Boxed W B t v) (hb : Below B' W W') (hB : B < B') : Boxed W' B t v := (hb.block B hB).trans h
theorem below_drewN {B : Nat} {a w : World} (h : Below B a w) (n : Nat) : Below B a (w.drewN n) := ⟨h.os, h.tape, h.output, h.size, h.block⟩
theorem Holds.drewN {lo hi : Nat} {W W' : World} (h : Holds lo hi W W') (n : Nat) : Holds lo hi W (W'.drewN n) := h
theorem KeepsFrom.drewN {B : Nat} {W W' : World} (h : KeepsFrom B W W') (n : Nat) : KeepsFrom B W (W'.drewN n) := ⟨h.size, h.same⟩

theorem box_keep {X Y : World} {B t n : Nat} {v : Value} {r : Option Nat} (h : Boxed X B t v) (hg : X.grownBy Y r) (hr : ∀ k, r = some k → n ≤ k ∧ ∃ o : Obj, X.heap[k]? = some o ∧ o.isCells = false) : Boxed Y B t v :=
  Own.from (boxed_own (β := Unit) B t (fun _ => v)) n () X Y r h hg hr
theorem below_keep {w X Y : World} {n n0 : Nat} {r : Option Nat} (h : Below n0 w X) (hg : X.grownBy Y r) (hr : ∀ k, r = some k → n ≤ k ∧ ∃ o : Obj, X.heap[k]? = some o ∧ o.isCells = false) (hn : n0 ≤ n) (hw : n0 ≤ w.heap.size) : Below n0 w Y :=
  h.grown hg (Nat.le_trans hw h.size) (fun k e => Nat.le_trans hn (hr k e).1)
end Go.Proofs.Ytogidfagkgccmaa

/-
  The sum of the Internet in plain numbers, and the contracts of Fold, the program's and the document's. Conditions are each theorem's own.
-/
namespace Go.Proofs.Ytogidfagkgccmaa
open Go.RowKit

/-- Fold, said at once: a number above 0 is told by its rest modulo 65535, from 1 on. A plain definition. -/
def fold (n : Int) : Int := if n ≤ 0 then 0 else (n - 1) % 65535 + 1
theorem fold_neg {n : Int} (h : n < 0) : fold n = 0 := by unfold fold; rw [if_pos (by omega)]
theorem fold_small {n : Int} (h0 : 0 ≤ n) (h : n ≤ 65535) : fold n = n := by
  unfold fold; split <;> omega
theorem fold_step {n : Int} (h : 65535 < n) : fold (n % 65536 + n / 65536) = fold n := by
  unfold fold; rw [if_neg (by omega), if_neg (by omega)]; omega
theorem fold_bd (n : Int) : 0 ≤ fold n ∧ fold n ≤ 65535 := by unfold fold; split <;> omega
theorem fold_zero : fold 0 = 0 := rfl

theorem wraps63 (n : Int) (h₀ : 0 ≤ n) (h₁ : n < 2 ^ 63) : IntKind.i64.wrap n = n := by rw [IntKind.wrap_i64]; omega
theorem and_full (n : Int) (h0 : 0 ≤ n) (h1 : n ≤ 9223372036854775807) : bits .and .i64 n 65535 = n % 65536 := by
  have := bits_mask .i64 63 (by decide) wraps63 16 (by decide) n h0 (by omega)
  simpa using this

/-! ### Sums of words -/

/-- The sum of the first k pairs. -/
def wsum (bs : List UInt8) : Nat → Int
  | 0 => 0
  | k + 1 => wsum bs k + wrd bs k
def wall (bs : List UInt8) : Int := wsum bs (prs bs.length)
def psum (ps : List (List UInt8)) : Int := (ps.map wall).sum
theorem wsum_succ (bs : List UInt8) (k : Nat) : wsum bs (k + 1) = wsum bs k + wrd bs k := rfl
theorem wsum_bd (bs : List UInt8) (k : Nat) : 0 ≤ wsum bs k ∧ wsum bs k ≤ 65535 * (k : Int) := by
  induction k with
  | zero => simp [wsum]
  | succ k ih => have := wrd_bd bs k; rw [wsum_succ]; omega
theorem wall_bd (bs : List UInt8) : 0 ≤ wall bs ∧ wall bs ≤ 65535 * (bs.length : Int) := by
  have := wsum_bd bs (prs bs.length); unfold wall; unfold prs at *; omega
theorem psum_take (ps : List (List UInt8)) {k : Nat} {bs : List UInt8} (h : ps[k]? = some bs) : psum (ps.take (k + 1)) = psum (ps.take k) + wall bs := by
  rw [List.take_add_one, h]; simp [psum]
/-- How many bytes there are in all. -/
def bulk (ps : List (List UInt8)) : Nat := (ps.map List.length).sum
theorem bulk_take (ps : List (List UInt8)) {k : Nat} {bs : List UInt8} (h : ps[k]? = some bs) : bulk (ps.take (k + 1)) = bulk (ps.take k) + bs.length := by
  rw [List.take_add_one, h]; simp [bulk]
theorem psum_bd (ps : List (List UInt8)) : 0 ≤ psum ps ∧ psum ps ≤ 65535 * (bulk ps : Int) := by
  induction ps with
  | nil => simp [psum, bulk]
  | cons b l ih =>
    have := wall_bd b
    have e1 : psum (b :: l) = wall b + psum l := by simp [psum]
    have e2 : bulk (b :: l) = b.length + bulk l := by simp [bulk]
    rw [e1, e2]; omega
theorem bulk_le (ps : List (List UInt8)) (k : Nat) : bulk (ps.take k) ≤ bulk ps := by
  have : bulk ps = bulk (ps.take k) + bulk (ps.drop k) := by
    conv => lhs; rw [← List.take_append_drop k ps]
    simp only [bulk, List.map_append, List.sum_append]
  omega
theorem len_bulk {ps : List (List UInt8)} {k : Nat} {bs : List UInt8} (h : ps[k]? = some bs) : bs.length ≤ bulk ps := by
  have := bulk_take ps h; have := bulk_le ps (k + 1); omega

/-! ### A slice of slices of bytes -/

/-- The slice at A, of ps.length elements, reads as slices that read as ps; all lies below block B. -/
def Rd2 (w : World) (B : Nat) (A : Option Addr) (ps : List (List UInt8)) : Prop :=
  0 < ps.length → ∃ b off, A = some ⟨b, off, none⟩ ∧ b < B ∧ ∀ (j : Nat) (bs : List UInt8), ps[j]? = some bs → ∃ Aj cj, w.cell? ⟨b, off + j, none⟩ = some (.slice Aj bs.length cj) ∧ Arg w B Aj cj bs
theorem Rd2.below {w w' : World} {B : Nat} {A : Option Addr} {ps : List (List UInt8)} (h : Rd2 w B A ps) (hb : Below B w w') : Rd2 w' B A ps := fun hn => by
  obtain ⟨b, off, e, hlt, hc⟩ := h hn
  refine ⟨b, off, e, hlt, fun j bs hj => ?_⟩
  obtain ⟨Aj, cj, h1, h2⟩ := hc j bs hj
  exact ⟨Aj, cj, (hb.cell (p := ⟨b, off + j, none⟩) hlt).trans h1, h2.below hb⟩
end Go.Proofs.Ytogidfagkgccmaa

/-
  Contracts of the program's sum: Add, Of, Right, Change. Conditions are each theorem's own.
-/
namespace Go.Proofs.Ytogidfagkgccmaa
open Go.RowKit Go.Shelf
attribute [local go_sem] Oper.semAt_some

/-! ### Many ranges over a function in one call: the marks that they leave -/

/-- The deferred calls are marks of blocks from lo on and below hi, each below the one ahead of it, that nothing was put into. -/
def Marks (lo : Nat) : Nat → List Deferred → World → Prop
  | _, [], _ => True
  | hi, d :: ds, w => ∃ D, d = { target := .collected D, args := #[] } ∧ lo ≤ D ∧ D < hi ∧ w.heap[D]? = some (.deferred (some [])) ∧ Marks lo D ds w
theorem Marks.keep {lo : Nat} {w w' : World} : ∀ {ds : List Deferred} {hi : Nat}, Marks lo hi ds w → (∀ k, lo ≤ k → k < hi → w'.heap[k]? = w.heap[k]?) → Marks lo hi ds w'
  | [], _, _, _ => trivial
  | _ :: _, _, ⟨D, e, h1, h2, h3, h4⟩, hk => ⟨D, e, h1, h2, (hk D h1 h2).trans h3, h4.keep fun k a b => hk k a (by omega)⟩
theorem Marks.more {lo : Nat} {w : World} : ∀ {ds : List Deferred} {hi hi' : Nat}, Marks lo hi ds w → hi ≤ hi' → Marks lo hi' ds w
  | [], _, _, _, _ => trivial
  | _ :: _, _, _, ⟨D, e, h1, h2, h3, h4⟩, hh => ⟨D, e, h1, by omega, h3, h4⟩
theorem Marks.push {lo hi D : Nat} {ds : List Deferred} {w : World} (h : Marks lo hi ds w) (hD : hi ≤ D) (hlo : lo ≤ D) (hK : w.heap[D]? = some (.deferred (some []))) :
    Marks lo (D + 1) ({ target := .collected D, args := #[] } :: ds) w := ⟨D, rfl, hlo, Nat.lt_succ_self D, hK, h.more hD⟩
theorem Marks.turn {lo : Nat} {w w' : World} {r : Option Nat} (hg : w.grownBy w' r) : ∀ {ds : List Deferred} {hi : Nat}, Marks lo hi ds w → (∀ k, r = some k → hi ≤ k) → Marks lo hi ds w'
  | [], _, _, _ => trivial
  | _ :: _, _, ⟨D, e, h1, h2, h3, h4⟩, hr => ⟨D, e, h1, h2, (hg.block D (heap_lt h3) (fun e => by have := hr D e.symm; omega)).trans h3, h4.turn hg fun k e => by have := hr k e; omega⟩

/-- A function that leaves with such marks: what holds behind the turn of each block holds at its end. -/
theorem leaves_marks {F : Fence} {n : Nat} {P : Program} {fn : Func} {tmps : Array Value} {R : Ending → World → Prop} (lo : Nat) (K : World → Prop)
    (hK : ∀ (w : World) (D : Nat), K w → lo ≤ D → w.heap[D]? = some (.deferred (some [])) → K (w.putObj D (.deferred none)))
    (hE : ∀ w, K w → LeavesInM F n P fn tmps R [] .returning w) : ∀ (ds : List Deferred) (hi : Nat) (w : World), Marks lo hi ds w → K w → LeavesInM F n P fn tmps R ds .returning w
  | [], _, w, _, hk => hE w hk
  | _ :: ds, _, w, ⟨D, e, h1, h2, h3, h4⟩, hk => by
    subst e
    refine ⟨by simp, .inl ⟨D, _, rfl, run_takeDeferred h3, ?_⟩⟩
    exact leaves_marks lo K hK hE ds D _ (h4.keep fun k _ hkD => World.putObj_heap_other (by omega)) (hK w D hk h1 h3)

/-- The sum of the pairs that have come. -/
def lsum (bs : List UInt8) : List Nat → Int := List.foldl (fun s x => s + wrd bs x) 0
theorem lsum_snoc (bs : List UInt8) (pre : List Nat) (x : Nat) : lsum bs (pre ++ [x]) = lsum bs pre + wrd bs x := by simp [lsum]
theorem lsum_range (bs : List UInt8) (k : Nat) : lsum bs (List.range k) = wsum bs k := by
  induction k with
  | zero => rfl
  | succ k ih => rw [List.range_succ, lsum_snoc, ih, wsum_succ]
theorem lsum_bd (bs : List UInt8) (pre : List Nat) : 0 ≤ lsum bs pre ∧ lsum bs pre ≤ 65535 * (pre.length : Int) := by
  suffices h : ∀ (pre : List Nat) (s : Int) (m : Int), 0 ≤ s → s ≤ 65535 * m → 0 ≤ List.foldl (fun s x => s + wrd bs x) s pre ∧ List.foldl (fun s x => s + wrd bs x) s pre ≤ 65535 * (m + (pre.length : Int)) by
    simpa [lsum] using h pre 0 0 (by omega) (by omega)
  intro pre
  induction pre with
  | nil => intro s m h0 h1; simpa using ⟨h0, h1⟩
  | cons x l ih =>
    intro s m h0 h1
    have hx := wrd_bd bs x
    have := ih (s + wrd bs x) (m + 1) (by omega) (by omega)
    rw [List.foldl_cons, List.length_cons]
    refine ⟨this.1, ?_⟩
    have h2 := this.2
    omega

/-- Is a sum right? A plain definition. -/
def rightB (ps : List (List UInt8)) : Bool := fold (psum ps) == 65535
/-- Change, said at once. -/
def chg (s : Int) (old now : List UInt8) : Int := if 0 ≤ s ∧ s ≤ 65535 then 65535 - fold (65535 - s + (65535 * (prs old.length : Int) - wall old) + wall now) else 0
theorem chg_no {s : Int} {old now : List UInt8} (h : ¬ (0 ≤ s ∧ s ≤ 65535)) : chg s old now = 0 := by rw [chg, if_neg h]

end Go.Proofs.Ytogidfagkgccmaa

/-
  A range over an iterator that hands over memory which it made in the round: what is known of an element comes with it. Conditions are each theorem's own.
-/
namespace Go.Proofs.Ytogidfagkgccmaa
open Go.RowKit Go.Shelf

/-- An iterator's promise: its elements come in order; of each, when it comes, G is known. -/
def SeqTold {α : Type} (m : Nat) (P : Program) (g : Nat) (lb : Array Value) (encs : α → Array Value) (G : List α → α → World → Prop) (Kp : World → World → Prop) (S Sp : List α → Prop) (w : World) : Prop :=
  ∀ (l : Nat) (J Jx : List α → World → Prop) (W : World), Below w.heap.size w W → AbidesFrom W.heap.size J → AbidesFrom W.heap.size Jx →
    (∀ pre x X, J pre X → G pre x X → YieldAt Fence.wide (m - 1) P l (encs x) X fun e Y =>
      (e = .returned (.bool true) ∧ J (pre ++ [x]) Y ∧ Kp X Y) ∨ (e = .returned (.bool false) ∧ Jx (pre ++ [x]) Y)) →
    J [] W →
    CallsIn Fence.wide m P g (#[.func (.yield l) #[] #[]] ++ lb) W fun e Y => (∃ v, e = .returned v) ∧ ((∃ xs, S xs ∧ J xs Y) ∨ (∃ pre, Sp pre ∧ Jx pre Y))
/-- The loop's record, in a state. -/
def recd (fn : FuncId) (a : Act) (ps : Array Tmp) (assign body : Code) (D : Nat) (st : LoopState) (pe : Option Code) : Loop := { state := st, pending := pe, fn := fn, tmps := a.tmps, params := ps, assign := assign, body := body, defers := D }
/-- The statement's two blocks: the rounds' deferred calls at D, the record behind it. -/
structure Two (W : World) (D : Nat) (r : Loop) : Prop where
  calls : W.heap[D]? = some (.deferred (some []))
  rec_ : W.heap[D + 1]? = some (.loop r)
section
variable {W V : World} {D : Nat} {r : Loop}
theorem Two.turn (h : Two W D r) (s : Loop) : Two (W.putObj (D + 1) (.loop s)) D s :=
  ⟨(World.putObj_heap_other (by omega)).trans h.calls, World.putObj_heap_same (heap_lt h.rec_)⟩
theorem Two.abides (h : Two W D r) {row : Option Nat} (hg : W.grownBy V row) (hr : ∀ k, row = some k → ∃ o : Obj, W.heap[k]? = some o ∧ o.isWalk = true) : Two V D r :=
  ⟨(grownBy_keeps hg hr h.calls rfl).trans h.calls, (grownBy_keeps hg hr h.rec_ rfl).trans h.rec_⟩
theorem Two.keeps (h : Two W D r) (hk : KeepsFrom D W V) : Two V D r := ⟨hk.same _ _ (Nat.le_refl _) h.calls rfl, hk.same _ _ (by omega) h.rec_ rfl⟩
theorem Two.first (w : World) (r : Loop) : Two ((w.alloc (.deferred (some []))).alloc (.loop r)) w.heap.size r := by
  refine ⟨(Below.heap_alloc _ _ _ (by simp)).trans (World.alloc_heap_new w _), ?_⟩
  have := World.alloc_heap_new (w.alloc (.deferred (some []))) (.loop r)
  rwa [World.size_alloc] at this
end
/-- How a round ends, said at once: by going on, or by a jump that waits. -/
theorem round_end {α : Type} {P : Program} {fn : FuncId} {a : Act} {ps : Array Tmp} {assign body : Code} {w X Y : World} {Kp : World → World → Prop} {I : List α → World → Prop} {Ix : Code → List α → World → Prop} {pre : List α}
    (hI : OwnFrom w.heap.size I) (hIx : ∀ c, OwnFrom w.heap.size (Ix c)) (hKt : ∀ {A B C : World}, Kp A B → Kp B C → Kp A C) (hKb : ∀ (W : World) (l : Nat) (r r' : Loop), w.heap.size ≤ l → W.heap[l]? = some (.loop r) → Kp W (W.putObj l (.loop r')))
    (X0 : World) (h0 : Kp X0 X) (hT : Two X w.heap.size (recd fn a ps assign body w.heap.size .busy none)) (e : Exit) (b : Act) (h : ownPostG w.heap.size Kp I Ix pre X e b Y) :
    roundPost P (w.heap.size + 1) (fun e Y => (e = .returned (.bool true) ∧ (I pre Y ∧ Two Y w.heap.size (recd fn a ps assign body w.heap.size .ready none)) ∧ Kp X0 Y) ∨
      (e = .returned (.bool false) ∧ ∃ c, Ix c pre Y ∧ Two Y w.heap.size (recd fn a ps assign body w.heap.size .done (some c)))) e b Y := by
  have jump : ∀ c, KeepsFrom w.heap.size X Y ∧ Ix c pre Y → ∃ v Z, (Instr.endRound (w.heap.size + 1) (some c)).run P Y = .ok v Z ∧
      ((Ending.returned v = .returned (.bool true) ∧ (I pre Z ∧ Two Z w.heap.size (recd fn a ps assign body w.heap.size .ready none)) ∧ Kp X0 Z) ∨
      (Ending.returned v = .returned (.bool false) ∧ ∃ c, Ix c pre Z ∧ Two Z w.heap.size (recd fn a ps assign body w.heap.size .done (some c)))) := fun c hp => by
    have ht := hT.keeps hp.1
    exact ⟨_, _, run_endRound (some c) ht.rec_, .inr ⟨rfl, c, (hIx c).putObj _ hp.2 (by omega) ht.rec_ rfl, ht.turn _⟩⟩
  cases e with
  | normal =>
    have ht := hT.keeps h.1
    exact ⟨_, _, run_endRound none ht.rec_, .inl ⟨rfl, ⟨hI.putObj _ h.2.2 (by omega) ht.rec_ rfl, ht.turn _⟩, hKt (hKt h0 h.2.1) (hKb _ _ _ _ (by omega) ht.rec_)⟩⟩
  | ret => exact jump .ret h
  | exit id => exact jump (.exit id) h
  | goto t => exact jump (.goto t) h
  | panic c => exact h.elim
  | outgrown => exact h.elim
theorem range_told {α : Type} {n : Nat} {P : Program} {g : Operand} {ps : Array Tmp} {assign body : Code} {Q : Exit → Act → World → Prop} {a : Act} {w : World} (h1 : 1 ≤ n)
    {gf : Nat} {lb : Array Value} (hg : a.eval g = .func (.func gf) #[] lb) (eg : ∀ args w, (callFunc gf args).run P w = .ok (.enter gf args) w)
    {encs : α → Array Value} {G : List α → α → World → Prop} {Kp : World → World → Prop} {S Sp : List α → Prop} {w0 : World} (hseq : SeqTold (n - 1) P gf lb encs G Kp S Sp w0)
    (hKt : ∀ {A B C : World}, Kp A B → Kp B C → Kp A C) (hKb : ∀ (W : World) (l : Nat) (r r' : Loop), w.heap.size ≤ l → W.heap[l]? = some (.loop r) → Kp W (W.putObj l (.loop r')))
    (hb0 : Below w0.heap.size w0 w) (hps : ∀ x, (encs x).size = ps.size)
    (hG : ∀ (pre : List α) (x : α) (W : World) (l : Nat) (r r' : Loop), G pre x W → w.heap.size ≤ l → W.heap[l]? = some (.loop r) → G pre x (W.putObj l (.loop r')))
    (I : List α → World → Prop) (Ix : Code → List α → World → Prop) (hI : OwnFrom w.heap.size I) (hIx : ∀ c, OwnFrom w.heap.size (Ix c)) (h0 : I [] w) (a₁ : α → Act)
    (hassign : ∀ (l : Nat) (x : α) (W : World) (K : Act → World → Prop), K (a₁ x) W →
      assign.wpIn (Fence.wide.inRound l) (n - 1 - 1) P (Exit.then K (fun _ _ _ => False)) { tmps := (ps.zip (encs x)).foldl (fun t (p, v) => t.setIfInBounds p v) a.tmps, defers := [] } W)
    (hbody : ∀ (l : Nat) (pre : List α) (x : α) (W : World), I pre W → G pre x W → body.wpIn (Fence.wide.inRound l) (n - 1 - 1) P (ownPostG w.heap.size Kp I Ix (pre ++ [x]) W) (a₁ x) W)
    (hdone : ∀ (D : Nat) (xs : List α) (W : World), w.heap.size ≤ D → S xs → I xs W → W.heap[D]? = some (.deferred (some [])) → Q .normal { a with defers := { target := .collected D, args := #[] } :: a.defers } W)
    (hstop : ∀ (D : Nat) (c : Code) (pre : List α) (W : World), w.heap.size ≤ D → Sp pre → Ix c pre W → W.heap[D]? = some (.deferred (some [])) → c.wpIn Fence.wide n P Q { a with defers := { target := .collected D, args := #[] } :: a.defers } W) :
    (Code.rangeFunc g ps assign body).wpIn Fence.wide n P Q a w := by
  refine wpIn_rangeFunc fun fn _ => ?_
  have t1 := Two.first w (recd fn a ps assign body w.heap.size .ready none)
  have b1 : Below w0.heap.size w0 ((w.alloc (.deferred (some []))).alloc (.loop (recd fn a ps assign body w.heap.size .ready none))) := (hb0.alloc hb0.size _).alloc (by have := hb0.size; simp; omega) _
  have i1 : I [] ((w.alloc (.deferred (some []))).alloc (.loop (recd fn a ps assign body w.heap.size .ready none))) := hI.alloc _ (hI.alloc _ h0)
  have z1 : w.heap.size ≤ ((w.alloc (.deferred (some []))).alloc (.loop (recd fn a ps assign body w.heap.size .ready none))).heap.size := by simp; omega
  obtain ⟨W1, hW1⟩ : ∃ W1, W1 = (w.alloc (.deferred (some []))).alloc (.loop (recd fn a ps assign body w.heap.size .ready none)) := ⟨_, rfl⟩
  rw [← hW1] at t1 b1 i1 z1
  refine ⟨w.heap.size + 1, [{ target := .collected w.heap.size, args := #[] }], W1, { target := .fn (.func gf) lb, args := #[.func (.yield (w.heap.size + 1)) #[] #[]] }, W1, gf, #[.func (.yield (w.heap.size + 1)) #[] #[]] ++ lb, W1,
    ?_, ?_, fun _ _ => trivial, ?_, fun _ => h1, ?_⟩
  · rw [hW1]; exact run_enterLoop_outer fn a.tmps ps assign body
  · simp only [resolve, hg]; simp [go_sem]
  · simp [invoke, go_sem, eg]
  · refine (hseq (w.heap.size + 1) (fun pre W => I pre W ∧ Two W w.heap.size (recd fn a ps assign body w.heap.size .ready none))
      (fun pre W => ∃ c, Ix c pre W ∧ Two W w.heap.size (recd fn a ps assign body w.heap.size .done (some c))) _ b1 ?_ ?_ ?_ ⟨i1, t1⟩).mono ?_
    · rintro s A B row ⟨hi, ht⟩ hgr hr
      exact ⟨hI s A B row hi hgr fun r e => by obtain ⟨hB, o, ho, hw⟩ := hr r e; exact ⟨by omega, o, ho, Obj.not_cells_of_walk hw⟩, ht.abides hgr fun r e => (hr r e).2⟩
    · rintro s A B row ⟨c, hi, ht⟩ hgr hr
      exact ⟨c, hIx c s A B row hi hgr fun r e => by obtain ⟨hB, o, ho, hw⟩ := hr r e; exact ⟨by omega, o, ho, Obj.not_cells_of_walk hw⟩, ht.abides hgr fun r e => (hr r e).2⟩
    · rintro pre x X ⟨hi, ht⟩ hgx
      refine ⟨fn, _, assign, body, run_yield ht.rec_ (hps x), roundIn_of_wpIn trivial (hassign _ x X _ ⟨_, run_beginRound ht.rec_ rfl, ?_⟩)⟩
      have hbu := ht.turn (recd fn a ps assign body w.heap.size .busy none)
      exact wpIn_mono (hbody _ pre x _ (hI.putObj _ hi (by omega) ht.rec_ rfl) (hG pre x X _ _ _ hgx (by omega) ht.rec_))
        (fun e b Y hp => by
          have hk0 : Kp X (X.putObj (w.heap.size + 1) (.loop (recd fn a ps assign body w.heap.size .busy none))) := hKb _ _ _ _ (by omega) ht.rec_
          exact round_end (P := P) (pre := pre ++ [x]) (Kp := Kp) (I := I) (Ix := Ix) hI hIx hKt hKb X hk0 hbu e b hp)
    · rintro e Y ⟨⟨v, rfl⟩, ⟨xs, hs, hi, ht⟩ | ⟨pre, hs, c, hi, ht⟩⟩
      · exact ⟨none, _, run_endLoop ht.rec_ (by simp [recd]), hdone _ xs _ (Nat.le_refl _) hs (hI.putObj _ hi (by omega) ht.rec_ rfl) (ht.turn _).calls⟩
      · exact ⟨some c, _, run_endLoop ht.rec_ (by simp [recd]), hstop _ c pre _ (Nat.le_refl _) hs ((hIx c).putObj _ hi (by omega) ht.rec_ rfl) (ht.turn _).calls⟩
end Go.Proofs.Ytogidfagkgccmaa

/-
  A region that draws its order, whose operations leave what was there as it was: its walk step by step. Conditions are each theorem's own.
-/
namespace Go.Proofs.Ytogidfagkgccmaa
open Go.RowKit

theorem range_below {w w' : World} {b o B : Nat} {cs : List Value} (h : w.rangeAt b o cs) (hB : b < B) (hb : Below B w w') : w'.rangeAt b o cs := fun j v hj => by
  rw [hb.cell hB]; exact h j v hj
theorem held_pure {P : Program} {ops : Array Oper} {Q : Exit → Act → World → Prop} {md : Region.Mode} {S : World → Prop} {i : Nat} {oi : Oper} {v : Value} {fuel : Nat} {listed : Array Bool} {a : Act} {w : World} (hi : ops[i]? = some oi)
    (hs : Region.noSelect ops = true) (hf : Region.free md ops listed i = true) (hr : (Region.ready md ops listed).contains i = true)
    (hQ : ∀ c a w, Q (.panic c) (a.put oi.dst v) w → Q (.panic c) a w) (hw : Region.wanted oi (yielded ops a.tmps) = true)
    (hrun : ∀ w, S w → (execOp a.eval oi).run P w = .ok (.value v) w) (hS : S w)
    (h : S w → wpAnyH P md ops Q S fuel (listed.setIfInBounds i true) (a.put oi.dst v) w) : wpAnyH P md ops Q S (fuel + 1) listed a w :=
  wpAnyH_take hi hs hf hr hQ (.inl ⟨hw, hrun⟩) hS (h hS)
theorem held_skip {P : Program} {ops : Array Oper} {Q : Exit → Act → World → Prop} {md : Region.Mode} {S : World → Prop} {i : Nat} {oi : Oper} {fuel : Nat} {listed : Array Bool} {a : Act} {w : World} (hi : ops[i]? = some oi)
    (hs : Region.noSelect ops = true) (hf : Region.free md ops listed i = true) (hr : (Region.ready md ops listed).contains i = true)
    (hQ : ∀ c a w, Q (.panic c) (a.put oi.dst undef) w → Q (.panic c) a w) (hw : Region.wanted oi (yielded ops a.tmps) = false) (hS : S w)
    (h : S w → wpAnyH P md ops Q S fuel (listed.setIfInBounds i true) (a.put oi.dst undef) w) : wpAnyH P md ops Q S (fuel + 1) listed a w :=
  wpAnyH_take hi hs hf hr hQ (.inr ⟨hw, rfl⟩) hS (h hS)
/-- What a class of worlds 'as w0 below its end' hands on. -/
theorem below_step {w0 w w' : World} (h : Below w0.heap.size w0 w) (hb : Below w.heap.size w w') : Below w0.heap.size w0 w' := h.trans (hb.mono h.size)
/-- Two new blocks, a draw, three calls. -/
theorem chain4 {w w1 w2 w3 w4 : World} {x y : Obj} (b1 : Below w.heap.size w w1) (b2 : Below ((w1.alloc x).alloc y).drew.heap.size ((w1.alloc x).alloc y).drew w2) (b3 : Below w2.heap.size w2 w3) (b4 : Below w3.heap.size w3 w4) : Below w.heap.size w w4 := by
  have h1 : ((w1.alloc x).alloc y).drew.heap.size = w1.heap.size + 2 := by show ((w1.alloc x).alloc y).heap.size = _; simp
  have s1 := b1.size
  have s2 := b2.size
  have s3 := b3.size
  have hX : Below w.heap.size w ((w1.alloc x).alloc y).drew := ((b1.alloc s1 x).alloc (by simp; omega) y).drew
  exact ((hX.trans (b2.mono (by omega))).trans (b3.mono (by omega))).trans (b4.mono (by omega))
theorem ints_new (w : World) (zs : List Int) (t : TypeId) : RdI (w.alloc (.cells (zs.map (Value.int .i64)).toArray t)).drew (w.heap.size + 1) (some ⟨w.heap.size, 0, none⟩) zs := fun _ =>
  ⟨w.heap.size, 0, rfl, Nat.lt_succ_self _, fun j hj => by
    show (w.alloc (.cells (zs.map (Value.int .i64)).toArray t)).cell? _ = _
    rw [Nat.zero_add, World.cell?_alloc_new, List.getElem?_toArray, List.getElem?_map, List.getElem?_eq_getElem hj, List.getD_eq_getElem?_getD, List.getElem?_eq_getElem hj]; rfl⟩
end Go.Proofs.Ytogidfagkgccmaa

/-
  Rows of structs: a slice whose elements fill so many cells each, read at an index, grown by one; what a round that grows one keeps. Conditions are each theorem's own.
-/
namespace Go.Proofs.Ytogidfagkgccmaa
open Go.RowKit Go.Shelf

section
variable {α : Type} {cl : α → List Value} {sz : Nat}
theorem flat_len (l : List α) (h : ∀ x ∈ l, (cl x).length = sz) : (l.flatMap cl).length = l.length * sz := by
  induction l with
  | nil => simp
  | cons x l ih =>
    rw [List.flatMap_cons, List.length_append, h x (by simp), ih (fun y hy => h y (by simp [hy])), List.length_cons, Nat.add_mul]; omega
theorem flat_at : ∀ (l : List α), (∀ x ∈ l, (cl x).length = sz) → ∀ (j : Nat) (x : α), l[j]? = some x → ∀ (i : Nat) (v : Value), (cl x)[i]? = some v → (l.flatMap cl)[j * sz + i]? = some v
  | [], _, j, x, hx, _, _, _ => by simp at hx
  | y :: l, h, 0, x, hx, i, v, hv => by
    simp only [List.getElem?_cons_zero, Option.some.injEq] at hx
    subst hx
    have hi := (List.getElem?_eq_some_iff.1 hv).1
    rw [List.flatMap_cons, Nat.zero_mul, Nat.zero_add, List.getElem?_append_left hi]; exact hv
  | y :: l, h, j + 1, x, hx, i, v, hv => by
    have hy := h y (by simp)
    rw [List.flatMap_cons, List.getElem?_append_right (by rw [hy, Nat.add_mul]; omega), hy, show (j + 1) * sz + i - sz = j * sz + i from by rw [Nat.add_mul]; omega]
    exact flat_at l (fun z hz => h z (by simp [hz])) j x (by simpa using hx) i v hv
/-- The slice at A reads as these elements; its cells lie below block B. -/
def RdS (cl : α → List Value) (sz : Nat) (w : World) (B : Nat) (A : Option Addr) (l : List α) : Prop :=
  0 < l.length → ∃ b off, A = some ⟨b, off, none⟩ ∧ b < B ∧ ∀ j x, l[j]? = some x → w.rangeAt b (off + j * sz) (cl x)
theorem RdS.keep {w w' : World} {B : Nat} {A : Option Addr} {l : List α} (h : RdS cl sz w B A l) (hk : ∀ p : Addr, p.block < B → w'.cell? p = w.cell? p) : RdS cl sz w' B A l := fun hn => by
  obtain ⟨b, off, e, hb, hc⟩ := h hn
  exact ⟨b, off, e, hb, fun j x hx i v hv => (hk ⟨b, _, none⟩ hb).trans (hc j x hx i v hv)⟩
theorem RdS.below {w w' : World} {B : Nat} {A : Option Addr} {l : List α} (h : RdS cl sz w B A l) (hb : Below B w w') : RdS cl sz w' B A l := h.keep fun _ hp => hb.cell hp
theorem RdS.more {w : World} {B B' : Nat} {A : Option Addr} {l : List α} (h : RdS cl sz w B A l) (hB : B ≤ B') : RdS cl sz w B' A l := fun hn => by
  obtain ⟨b, off, e, hb, hc⟩ := h hn
  exact ⟨b, off, e, by omega, hc⟩
theorem own_rds {w : World} {base e n : Nat} {v : Value} {xs : List Value} {l : List α} (h : w.ownsRow base e sz v n xs) (hn : n = l.length) (hx : xs = l.flatMap cl) (hl : ∀ x ∈ l, (cl x).length = sz) :
    ∃ A c, v = .slice A l.length c ∧ RdS cl sz w w.heap.size A l ∧ l.length ≤ c := by
  subst hn; subst hx
  rcases h.2 with ⟨rfl, h0⟩ | ⟨g, cap, cur, rfl, hb, hh, hle, _, hs, ht⟩
  · exact ⟨none, 0, by rw [h0], fun hn => by omega, by omega⟩
  · refine ⟨_, cap, rfl, fun _ => ⟨g, 0, rfl, heap_lt hh, fun j x hx i v hv => ?_⟩, hle⟩
    have hf := flat_at l hl j x hx i v hv
    have hcl : j * sz + i < l.length * sz := by
      have := (List.getElem?_eq_some_iff.1 hf).1
      rwa [flat_len l hl] at this
    have := World.ownsRow.cellAt h (j * sz + i) hcl
    rw [hf] at this
    rw [Nat.zero_add]; exact this
end

/-! ### What a round keeps -/
/-- Each block of cells lies as it lay, but for variables of type t, and rows of type e of more than one element. -/
structure KeepS (e t sz : Nat) (X Y : World) : Prop where
  size : X.heap.size ≤ Y.heap.size
  block : ∀ (k : Nat) (cs : Array Value) (ty : TypeId) (fr : Nat × Nat), X.heap[k]? = some (.cells cs ty fr) → ty ≠ t → (ty = e → cs.size ≤ sz) → Y.heap[k]? = X.heap[k]?
section
variable {e t sz : Nat} {X Y Z : World}
theorem KeepS.refl (X : World) : KeepS e t sz X X := ⟨Nat.le_refl _, fun _ _ _ _ _ _ _ => rfl⟩
theorem KeepS.trans (h : KeepS e t sz X Y) (k : KeepS e t sz Y Z) : KeepS e t sz X Z :=
  ⟨Nat.le_trans h.size k.size, fun i cs ty fr hi h1 h2 => (k.block i cs ty fr ((h.block i cs ty fr hi h1 h2).trans hi) h1 h2).trans (h.block i cs ty fr hi h1 h2)⟩
theorem KeepS.of_below (h : Below X.heap.size X Y) : KeepS e t sz X Y := ⟨h.size, fun _ _ _ _ hi _ _ => h.block _ (heap_lt hi)⟩
theorem KeepS.loop {l : Nat} {r r' : Loop} (hl : X.heap[l]? = some (.loop r)) : KeepS e t sz X (X.putObj l (.loop r')) :=
  ⟨by simp, fun k cs ty fr hk _ _ => World.putObj_heap_other (fun e => by rw [e, hl] at hk; cases hk)⟩
theorem KeepS.set {b : Nat} {u v : Value} {ty : TypeId} (h : Boxed X b ty u) (ht : ty = t) : KeepS e t sz X (X.setCell ⟨b, 0, none⟩ v) :=
  ⟨by simp, fun k cs ty' fr hk h1 _ => Below.heap_setCell X _ _ k (fun e => by rw [e] at hk; have := (show X.heap[b]? = _ from h).symm.trans hk; simp at this; exact h1 (this.2.1.symm.trans ht))⟩
theorem KeepS.own {base e' s' n : Nat} {v : Value} {xs : List Value} (h : X.ownsRow base e' s' v n xs) (k : KeepS e t sz X Y) (h1 : e' ≠ t) (h2 : e' ≠ e) : Y.ownsRow base e' s' v n xs := by
  refine ⟨h.1, ?_⟩
  rcases h.2 with hn | ⟨g, cap, cur, hv, hb, hg, rest⟩
  · exact .inl hn
  · exact .inr ⟨g, cap, cur, hv, hb, (k.block g cur e' _ hg h1 (fun e => absurd e h2)).trans hg, rest⟩
theorem KeepS.box {b : Nat} {ty : TypeId} {v : Value} (k : KeepS e t sz X Y) (h : Boxed X b ty v) (h1 : ty ≠ t) (h2 : ty = e → 1 ≤ sz) : Boxed Y b ty v := (k.block b _ _ _ h h1 (fun e => by simpa using h2 e)).trans h
theorem KeepS.heap {b : Nat} {cs : Array Value} {ty : TypeId} {fr : Nat × Nat} (k : KeepS e t sz X Y) (h : X.heap[b]? = some (.cells cs ty fr)) (h1 : ty ≠ t) (h2 : cs.size ≤ sz) : Y.heap[b]? = some (.cells cs ty fr) := (k.block b _ _ _ h h1 (fun _ => h2)).trans h
end

/-! ### One element more -/
section
variable {P : Program}
theorem fill_one (cs z : Array Value) (sz : Nat) (hc : cs.size = sz) (hs : 0 < sz) :
    Instr.fill (fun i => some (i * sz, sz)) ((Array.range (1 * sz)).map (z[· % z.size]!)) [(0, .agg cs)] = some cs := by
  have h := Great.fill_whole hs [.agg cs] ((Array.range (1 * sz)).map (z[· % z.size]!)) (by simp [Value.cells, hc]) (by simp)
  simpa [Value.cells] using h
/-- A slice literal of one struct. -/
theorem run_lit1 (w : World) (t e : TypeId) (ie : TypeInfo) (z : Value) (cs : Array Value) (sz : Nat) (hu : P.underlying t = some (.slice e)) (hie : P.info? e = some ie) (hz : ie.zero = some z)
    (hs : ie.size = sz) (hc : cs.size = sz) (h0 : 0 < sz) (h1 : sz ≤ 1000) :
    (Instr.buildSlice t 1 #[(0, .agg cs)]).run P w = .ok (.slice (some ⟨w.heap.size, 0, none⟩) 1 1) (w.alloc (.cells cs e)) :=
  run_buildSlice w t e 1 _ cs ie z hu hie hz (by rw [hs]; omega) (by rw [hs]; omega) (by rw [hs]; exact fill_one cs z.cells sz hc h0)
/-- What an append of one element keeps. -/
theorem append_keeps (w : World) (base t ty e : Nat) (i : TypeInfo) (z : Value) (size bytes : Nat) (ht : P.underlying t = some (.slice e)) (hi : P.info? e = some i) (hz : i.zero = some z)
    (hsize : i.size = size) (hby : i.bytes = bytes) (hsz : 0 < size)
    (v : Value) (n : Nat) (xs : List Value) (hown : w.ownsRow base e size v n xs) (hv : v = .slice none 0 0 ∨ 0 < n)
    (a : Addr) (c : Nat) (news : List Value) (hl : news.length = size) (hnews : ∀ j u, news[j]? = some u → w.cell? (a.add j) = some u) (h1 : ∀ u ∈ news, u.oneCell' = true)
    (h63 : n + 1 ≤ maxLen) (hbytes : (n + 1) * bytes ≤ 140737488355328) {v' : Value} {w' : World}
    (hr : (Builtin.append_ #[t, t] ty #[v, .slice (some a) 1 c]).run P w = .ok v' w') :
    (∀ (k : Nat) (cs : Array Value) (y : TypeId) (fr : Nat × Nat), w.heap[k]? = some (.cells cs y fr) → (y = e → cs.size ≤ size) → w'.heap[k]? = w.heap[k]?) ∧ (v'.ownBlock = v.ownBlock ∨ v'.ownBlock = some w.heap.size) := by
  subst hsize
  subst hby
  have hl1 : news.length = 1 * i.size := by omega
  rcases hown.2 with ⟨rfl, rfl⟩ | ⟨g, cap, cur, rfl, hbg, hg, hnc, hcm, hcs, htake⟩
  · have h := run_append_nil (P := P) w t ty e i z ht hi hz a 1 c news hl1 hnews (by omega) (by omega) (by simp only [Nat.zero_add] at hbytes; omega)
    rw [h] at hr
    cases hr
    exact ⟨fun k cs y fr hk _ => Below.heap_alloc w.drew _ k (heap_lt hk), .inr rfl⟩
  · have hn : 0 < n := by
      rcases hv with e | e
      · cases e
      · exact e
    by_cases hroom : n + 1 ≤ cap
    · have hfit : n * i.size + news.length ≤ cur.size := by rw [hl1, hcs, ← Nat.add_mul]; exact Nat.mul_le_mul_right _ hroom
      have h := run_append_room (P := P) w t ty e i ht hi g n cap cur hg a 1 c news hl1 hnews h1 hroom hfit
      rw [h] at hr
      cases hr
      refine ⟨fun k cs y fr hk hy => setRow_other w g k _ (fun e' => ?_), .inl rfl⟩
      subst e'
      rw [hg] at hk
      cases hk
      have h2 := hy rfl
      have h3 : 2 * i.size ≤ cap * i.size := Nat.mul_le_mul_right _ (by omega)
      omega
    · have holds : ∀ j u, xs[j]? = some u → w.cell? ((⟨g, 0, none⟩ : Addr).add j) = some u := hown.cells (g := g) rfl
      have h := run_append_grow (P := P) w t ty e i z ht hi hz ⟨g, 0, none⟩ n cap xs hown.1 holds a 1 c news hl1 hnews (by omega) (by simp only [maxLen] at h63; omega) (growslice_fits (by omega) hbytes)
      rw [h] at hr
      cases hr
      exact ⟨fun k cs y fr hk _ => Below.heap_alloc w.drew _ k (heap_lt hk), .inr rfl⟩
theorem wpListIn_append_one {F : Fence} {n : Nat} (w : World) {ops : Array Oper} {rest : List Oper} {o : Oper} {a : Act} {Q : Exit → Act → World → Prop}
    (hg : o.guard = none) (s x : Operand) (t : TypeId) (hop : o.op = Op.call { callee := Callee.builtin Builtin.append, args := #[s, x], argTypes := #[t, t] })
    (base : Nat) (e : TypeId) (i : TypeInfo) (z : Value) (size bytes : Nat) (h1 : P.underlying t = some (.slice e)) (h2 : P.info? e = some i) (h3 : i.zero = some z) (h4 : i.size = size) (h5 : i.bytes = bytes) (h6 : z.cells.size = size) (h7 : 0 < size)
    (v : Value) (k : Nat) (xs : List Value) (hs : a.eval s = v) (hown : w.ownsRow base e size v k xs) (hv : v = .slice none 0 0 ∨ 0 < k) (ad : Addr) (c : Nat) (news : List Value) (hx : a.eval x = .slice (some ad) 1 c) (hn : news.length = size)
    (hc : ∀ j u, news[j]? = some u → w.cell? (ad.add j) = some u) (h1c : ∀ u ∈ news, u.oneCell' = true) (b1 : k + 1 ≤ maxLen) (b2 : (k + 1) * bytes ≤ 140737488355328) (b3 : base ≤ w.heap.size)
    (hK : ∀ v' w', w'.ownsRow base e size v' (k + 1) (xs ++ news) → w.grownBy w' v.ownBlock →
      (∀ (j : Nat) (cs : Array Value) (y : TypeId) (fr : Nat × Nat), w.heap[j]? = some (.cells cs y fr) → (y = e → cs.size ≤ size) → w'.heap[j]? = w.heap[j]?) → (v'.ownBlock = v.ownBlock ∨ v'.ownBlock = some w.heap.size) → wpListIn F n P ops Q rest (a.put o.dst v') w') :
    wpListIn F n P ops Q (o :: rest) a w := by
  refine wpListIn_plain hg fun K hK' => ?_
  have hn1 : news.length = 1 * size := by omega
  obtain ⟨v', w', hrun, r1, r2, r3⟩ := run_append_own (P := P) w base t o.type e i z size bytes h1 h2 h3 h4 h5 h6 h7 v k xs hown ad 1 c news hn1 hc h1c b1 b2 b3
  have r4 := append_keeps w base t o.type e i z size bytes h1 h2 h3 h4 h5 h7 v k xs hown hv ad c news hn hc h1c b1 b2 hrun
  unfold Oper.wpIn
  refine ⟨?_, ?_⟩
  · simp [Oper.about, hop, resolve, Target.leads, Sem.run_pure]
  · rw [Oper.semAt_plain F _ _ (by rw [hop]; intro c hc'; cases hc')]
    simp [execOp, hop, resolve, invoke, builtin, hs, hx, hrun, Result.andThen]
    exact hK' _ _ (hK v' w' r1 r2 r4.1 r4.2)
end
end Go.Proofs.Ytogidfagkgccmaa
