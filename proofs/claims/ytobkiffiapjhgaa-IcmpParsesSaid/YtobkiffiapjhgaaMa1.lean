/-
  Contracts and lemmas on which the proofs of this seat stand (several texts in one). Conditions are each theorem's own.
-/
import Derived.Below
import Derived.Laws.OwnMore
import Derived.Laws.Rows
import Derived.Deep.Draws
import Derived.Deep.OwnRows
import Derived.RangeFuncBox
import Derived.ProofKit
import Derived.OpenShut
import Derived.ChangeMaps5
import Derived.Test.YtobkiffiapjhgaaRows
import Derived.WalkKit
import Derived.WalkSpells
import Derived.Lib.Hide
import Derived.Outline
import Derived.IntWalk
import Derived.Laws.CopyOwn
import Derived.OwnWalk

/-
  Words on memory that every later text of this seat uses: a slice that reads as a list of bytes. Conditions: none; plain definitions and lemmas.
-/
namespace Go.Proofs.Ytobkiffiapjhgaa
open Go.RowKit

/-- The number of byte j. A plain definition: the walk leaves it standing. -/
def byt (bs : List UInt8) (j : Nat) : Int := ((bs[j]?.getD 0).toNat : Int)
theorem byt_lo (bs : List UInt8) (j : Nat) : 0 ≤ byt bs j := by unfold byt; omega
theorem byt_hi (bs : List UInt8) (j : Nat) : byt bs j ≤ 255 := by
  unfold byt; have := (bs[j]?.getD 0).toNat_lt; omega

/-- The cells of a list of bytes. -/
def row (bs : List UInt8) : List Value := bs.map fun x => .int .u8 (x.toNat : Int)
theorem row_length (bs : List UInt8) : (row bs).length = bs.length := by simp [row]
theorem row_get (bs : List UInt8) {j : Nat} (h : j < bs.length) : (row bs)[j]? = some (.int .u8 (byt bs j)) := by
  simp [row, byt, h]
theorem row_append (a b : List UInt8) : row (a ++ b) = row a ++ row b := by simp [row]
theorem row_one (bs : List UInt8) : ∀ u ∈ row bs, u.oneCell' = true := by
  intro u hu; simp only [row, List.mem_map] at hu; obtain ⟨x, _, rfl⟩ := hu; rfl
theorem row_getD (bs : List UInt8) {j : Nat} (h : j < bs.length) {u : Value} (hu : (row bs)[j]? = some u) : u = .int .u8 (byt bs j) := by
  rw [row_get bs h] at hu; exact (Option.some.inj hu).symm

/-- The slice at A, of bs.length elements, reads as bs; its cells lie below block B. -/
def Rd (w : World) (B : Nat) (A : Option Addr) (bs : List UInt8) : Prop :=
  0 < bs.length → ∃ b off, A = some ⟨b, off, none⟩ ∧ b < B ∧ ∀ j, j < bs.length → w.cell? ⟨b, off + j, none⟩ = some (.int .u8 (byt bs j))

section
variable {w w' : World} {B B' : Nat} {A : Option Addr} {bs : List UInt8}
theorem Rd.nil : Rd w B A [] := fun h => absurd h (by simp)
theorem Rd.keep (h : Rd w B A bs) (hk : ∀ p : Addr, p.block < B → w'.cell? p = w.cell? p) : Rd w' B A bs := fun hn => by
  obtain ⟨b, off, e, hb, hc⟩ := h hn
  exact ⟨b, off, e, hb, fun j hj => (hk ⟨b, off + j, none⟩ hb).trans (hc j hj)⟩
theorem Rd.more (h : Rd w B A bs) (hB : B ≤ B') : Rd w B' A bs := fun hn => by
  obtain ⟨b, off, e, hb, hc⟩ := h hn
  exact ⟨b, off, e, by omega, hc⟩
theorem Rd.below (h : Rd w B A bs) (hb : Below B w w') : Rd w' B A bs := h.keep fun _ hp => hb.cell hp
theorem Rd.alloc (h : Rd w B A bs) (hB : B ≤ w.heap.size) (o : Obj) : Rd (w.alloc o) B A bs := h.keep fun p hp => World.cell?_alloc_lt w o p (by omega)
theorem Rd.drewN (h : Rd w B A bs) (k : Nat) : Rd (w.drewN k) B A bs := h
theorem Rd.grown (h : Rd w B A bs) {r : Option Nat} (hg : w.grownBy w' r) (hB : B ≤ w.heap.size) (hr : ∀ g, r = some g → B ≤ g) : Rd w' B A bs :=
  h.keep fun p hp => World.cell?_of_block (hg.block p.block (by omega) (fun e => by have := hr _ e.symm; omega))
theorem Rd.of_block {g t : Nat} {cur : Array Value} (hg : w.heap[g]? = some (.cells cur t (0, 0))) (hB : g < B) (off : Nat)
    (hc : ∀ j, j < bs.length → cur[off + j]? = some (.int .u8 (byt bs j))) : Rd w B (some ⟨g, off, none⟩) bs := fun _ =>
  ⟨g, off, rfl, hB, fun j hj => by rw [cell_of_row w g (off + j) cur t (0, 0) hg]; exact hc j hj⟩
theorem Rd.of_own {base e n c : Nat} (hn' : n = bs.length) (h : w.ownsRow base e 1 (.slice A n c) n (row bs)) : Rd w w.heap.size A bs := fun hn => by
  subst hn'
  rcases h.2 with ⟨_, h0⟩ | ⟨g, cap, cur, hv, _, hh, hle, _, hs, ht⟩
  · omega
  · have hA : A = some ⟨g, 0, none⟩ := by injection hv
    subst hA
    refine ⟨g, 0, rfl, (Array.getElem?_eq_some_iff.1 hh).1, fun j hj => ?_⟩
    rw [cell_of_row w g (0 + j) cur e (0, 0) hh, Nat.zero_add]
    have h1 : (List.take (bs.length * 1) cur.toList)[j]? = some (.int .u8 (byt bs j)) := by rw [ht]; exact row_get bs hj
    rw [List.getElem?_take, if_pos (by omega)] at h1
    simpa using h1
end

theorem add_off (b off j : Nat) : (⟨b, off, none⟩ : Addr).add j = ⟨b, off + j, none⟩ := by unfold Addr.add; split <;> simp_all
theorem cell_block {w : World} {a : Addr} {v : Value} (h : w.cell? a = some v) : a.block < w.heap.size := by
  rcases Nat.lt_or_ge a.block w.heap.size with hlt | hge
  · exact hlt
  · unfold World.cell? at h; rw [Array.getElem?_eq_none hge] at h; cases h
/-- A slice of bytes as it is handed over: it reads as bs; nil has no capacity. -/
structure Arg (w : World) (B : Nat) (A : Option Addr) (c : Nat) (bs : List UInt8) : Prop where
  rd : Rd w B A bs
  cap : bs.length ≤ c
  none_ : A = none → c = 0
theorem Arg.below {w w' : World} {B : Nat} {A : Option Addr} {c : Nat} {bs : List UInt8} (h : Arg w B A c bs) (hb : Below B w w') : Arg w' B A c bs := ⟨h.rd.below hb, h.cap, h.none_⟩
theorem Arg.nil (w : World) (B : Nat) : Arg w B none 0 [] := ⟨Rd.nil, Nat.le_refl _, fun _ => rfl⟩
theorem Arg.more {w : World} {B B' : Nat} {A : Option Addr} {c : Nat} {bs : List UInt8} (h : Arg w B A c bs) (hB : B ≤ B') : Arg w B' A c bs := ⟨h.rd.more hB, h.cap, h.none_⟩
theorem Arg.alloc {w : World} {B : Nat} {A : Option Addr} {c : Nat} {bs : List UInt8} (h : Arg w B A c bs) (hB : B ≤ w.heap.size) (o : Obj) : Arg (w.alloc o) B A c bs := ⟨h.rd.alloc hB o, h.cap, h.none_⟩
theorem Arg.drewN {w : World} {B : Nat} {A : Option Addr} {c : Nat} {bs : List UInt8} (h : Arg w B A c bs) (n : Nat) : Arg (w.drewN n) B A c bs := ⟨h.rd.drewN n, h.cap, h.none_⟩
/-- The slice of integers at A reads as zs; its cells lie below block B. -/
def RdI (w : World) (B : Nat) (A : Option Addr) (zs : List Int) : Prop :=
  0 < zs.length → ∃ b off, A = some ⟨b, off, none⟩ ∧ b < B ∧ ∀ j, j < zs.length → w.cell? ⟨b, off + j, none⟩ = some (.int .i64 (zs.getD j 0))
theorem RdI.keep {w w' : World} {B : Nat} {A : Option Addr} {zs : List Int} (h : RdI w B A zs) (hk : ∀ p : Addr, p.block < B → w'.cell? p = w.cell? p) : RdI w' B A zs := fun hn => by
  obtain ⟨b, off, e, hb, hc⟩ := h hn
  exact ⟨b, off, e, hb, fun j hj => (hk ⟨b, off + j, none⟩ hb).trans (hc j hj)⟩
theorem RdI.below {w w' : World} {B : Nat} {A : Option Addr} {zs : List Int} (h : RdI w B A zs) (hb : Below B w w') : RdI w' B A zs := h.keep fun _ hp => hb.cell hp
theorem RdI.alloc {w : World} {B : Nat} {A : Option Addr} {zs : List Int} (h : RdI w B A zs) (hB : B ≤ w.heap.size) (o : Obj) : RdI (w.alloc o) B A zs := h.keep fun p hp => World.cell?_alloc_lt w o p (by omega)
theorem wraps_i64 (n : Int) (h₀ : 0 ≤ n) (h₁ : n < 2 ^ 62) : IntKind.i64.wrap n = n := by rw [IntKind.wrap_i64]; omega
theorem or_byte (q x : Int) (h0 : 0 ≤ q) (h1 : q < 16777216) (h2 : 0 ≤ x) (h3 : x ≤ 255) : bits .or .i64 (q * 256) x = q * 256 + x :=
  bits_join .i64 62 (by decide) wraps_i64 8 _ _ (by omega) (by omega) (by omega) h2 (by omega) (by omega)
end Go.Proofs.Ytobkiffiapjhgaa

/-
  Arguments that came in, opened by their types: what a walk is told of each. Conditions are each theorem's own.
-/
namespace Go.Proofs.Ytobkiffiapjhgaa
open Go.RowKit Go.ChangeShapes Go.WideShapes

/-- A slice of integers that came in: nil, or a row of 'cap' cells that hold the numbers 'zs', each fitting its kind. -/
def IsRow (k : IntKind) (w : World) (a : Option Addr) (len cap : Nat) (zs : List Int) : Prop :=
  (a = none ∧ len = 0 ∧ cap = 0 ∧ zs = []) ∨
  ∃ x, a = some x ∧ len ≤ cap ∧ cap ≤ maxLen ∧ zs.length = cap ∧ (∀ i, i < zs.length → w.cell? (x.add i) = some (.int k (zs.getD i 0))) ∧ ∀ n ∈ zs, (Lit.int k n).wf = true

theorem arg_of_row {w : World} {a : Option Addr} {len cap : Nat} {zs : List Int} (h : IsRow .u8 w a len cap zs) : ∃ bs : List UInt8, len = bs.length ∧ Arg w w.heap.size a cap bs := by
  rcases h with ⟨rfl, rfl, rfl, rfl⟩ | ⟨x, rfl, hl, hm, hz, hcell, hwz⟩
  · exact ⟨[], rfl, Arg.nil _ _⟩
  · refine ⟨(zs.take len).map fun z => UInt8.ofNat z.toNat, by simp; omega, fun hn => ?_, by simp; omega, fun e => by cases e⟩
    have hn' : 0 < len := by simp at hn; omega
    have hc0 := hcell 0 (by omega)
    have hlt := cell_block hc0
    obtain ⟨b, off, spot⟩ := x
    have hspot : spot = none := by simpa [Addr.add] using World.cell?_spot hc0
    subst hspot
    refine ⟨b, off, rfl, by simpa [Addr.add] using hlt, fun j hj => ?_⟩
    have hj' : j < zs.length := by simp at hj; omega
    have hjl : j < len := by simp at hj; omega
    have hc := hcell j hj'
    rw [add_off] at hc
    rw [hc]
    have hb := range_u8 hwz j
    simp only [byt, List.getElem?_map, List.getElem?_take, if_pos hjl, List.getElem?_eq_getElem hj', Option.map_some, Option.getD_some, List.getD_eq_getElem?_getD] at hb ⊢
    simp [UInt8.toNat_ofNat']
    omega

section
variable {H : Type} {enc : TypeId × Value → H} {P : Program} {w : World} {base : Nat} {t e : TypeId} {v : Value} {d : DataW H} {p : List MemPlace}
theorem Trod_lt (h : DataW.Trod enc P w 0 (fun _ => true) true t v d p) : ∀ x ∈ p, x.block < w.heap.size := by
  obtain ⟨m, hm⟩ := h; exact DataW.trod_lt m _ _ _ hm
theorem get_int {k : IntKind} (ht : P.underlying t = some (.int k)) (hv : Value.okWide P w .any base t v) (h : DataW.Trod enc P w 0 (fun _ => true) true t v d p) :
    ∃ n, v = .int k n ∧ (Lit.int k n).wf = true := by
  obtain ⟨n, e, _, _, hw⟩ := open_int ht hv h
  exact ⟨n, e, hw⟩
theorem get_bool (ht : P.underlying t = some .bool) (hv : Value.okWide P w .any base t v) (h : DataW.Trod enc P w 0 (fun _ => true) true t v d p) :
    ∃ b, v = .bool b := by
  obtain ⟨b, e, _⟩ := open_bool ht hv h
  exact ⟨b, e⟩
theorem get_str (ht : P.underlying t = some .string) (hv : Value.okWide P w .any base t v) (h : DataW.Trod enc P w 0 (fun _ => true) true t v d p) :
    ∃ s : ByteArray, v = .string s ∧ s.size ≤ maxLen := by
  obtain ⟨s, e, _, _, hw⟩ := Go.ChangeMaps.open_string ht hv h
  exact ⟨s, e, hw⟩
theorem get_row {k : IntKind} (ht : P.underlying t = some (.slice e)) (he : P.underlying e = some (.int k)) (hc : P.cellsOf e = 1) (hv : Value.okWide P w .any base t v) (h : DataW.Trod enc P w 0 (fun _ => true) true t v d p) :
    ∃ A len cap zs, v = .slice A len cap ∧ IsRow k w A len cap zs := by
  obtain ⟨A, len, cap, rfl⟩ := okWide_slice ht hv
  obtain ⟨fuel, hf⟩ := h
  rcases open_ints ht he hc hf with ⟨hcs, _⟩ | ⟨x, l, c, zs, hcs, _, hl, hm, hz, _, hcell, hwz⟩
  · simp [Value.cells] at hcs
    obtain ⟨rfl, rfl, rfl⟩ := hcs
    exact ⟨_, _, _, [], rfl, .inl ⟨rfl, rfl, rfl, rfl⟩⟩
  · simp [Value.cells] at hcs
    obtain ⟨rfl, rfl, rfl⟩ := hcs
    exact ⟨_, _, _, zs, rfl, .inr ⟨_, rfl, hl, hm, by simpa using hz, hcell, hwz⟩⟩
theorem get_bytes (ht : P.underlying t = some (.slice e)) (he : P.underlying e = some (.int .u8)) (hc : P.cellsOf e = 1) (hv : Value.okWide P w .any base t v) (h : DataW.Trod enc P w 0 (fun _ => true) true t v d p) :
    ∃ A c bs, v = .slice A bs.length c ∧ Arg w w.heap.size A c bs ∧ c ≤ maxLen := by
  obtain ⟨A, len, cap, zs, rfl, hr⟩ := get_row ht he hc hv h
  obtain ⟨bs, rfl, ha⟩ := arg_of_row hr
  refine ⟨A, cap, bs, rfl, ha, ?_⟩
  rcases hr with ⟨_, _, rfl, _⟩ | ⟨_, _, _, hm, _⟩
  · exact Nat.zero_le _
  · exact hm
theorem get_ints (ht : P.underlying t = some (.slice e)) (he : P.underlying e = some (.int .i64)) (hc : P.cellsOf e = 1) (hv : Value.okWide P w .any base t v) (h : DataW.Trod enc P w 0 (fun _ => true) true t v d p) :
    ∃ A c zs, v = .slice A zs.length c ∧ RdI w w.heap.size A zs ∧ zs.length ≤ c ∧ c ≤ maxLen ∧ ∀ n ∈ zs, (Lit.int .i64 n).wf = true := by
  obtain ⟨A, len, cap, zs, rfl, hr⟩ := get_row ht he hc hv h
  rcases hr with ⟨rfl, rfl, rfl, rfl⟩ | ⟨x, rfl, hl, hm, hz, hcell, hwz⟩
  · exact ⟨none, 0, [], rfl, fun hn => absurd hn (by simp), Nat.le_refl _, Nat.zero_le _, by simp⟩
  · have e1 : (zs.take len).length = len := by simp; omega
    refine ⟨some x, cap, zs.take len, by rw [e1], fun hn => ?_, by omega, hm, fun n hn => hwz n (List.mem_of_mem_take hn)⟩
    have hc0 := hcell 0 (by omega)
    have hlt := cell_block hc0
    obtain ⟨b, off, spot⟩ := x
    have hspot : spot = none := by simpa [Addr.add] using World.cell?_spot hc0
    subst hspot
    refine ⟨b, off, rfl, by simpa [Addr.add] using hlt, fun j hj => ?_⟩
    have hc := hcell j (by omega)
    rw [add_off] at hc
    rw [hc]
    congr 2
    simp only [List.getD_eq_getElem?_getD, List.getElem?_take]
    rw [if_pos (by omega)]
end
end Go.Proofs.Ytobkiffiapjhgaa

/-
  Addresses of IPv6 as lists of sixteen bytes: which stands ahead, which is of a host. No program. Conditions are each theorem's own.
-/
namespace Go.Proofs.Ytobkiffiapjhgaa
open Go.RowKit

/-- The cells of an address. -/
def cel (a : List UInt8) : Array Value := (row a).toArray
theorem cel_size (a : List UInt8) : (cel a).size = a.length := by simp [cel, row_length]
theorem cel_get (a : List UInt8) {j : Nat} (h : j < a.length) : (cel a)[j]? = some (.int .u8 (byt a j)) := by
  rw [cel, List.getElem?_toArray, row_get a h]
theorem cel_at (a : List UInt8) {j : Nat} (h : j < a.length) (h' : j < (cel a).size) : (cel a)[j] = .int .u8 (byt a j) := by
  have h1 := cel_get a h
  rw [Array.getElem?_eq_getElem h'] at h1
  exact Option.some.inj h1
theorem below_n {w w' : World} {B : Nat} (h : Below B w w') (q : Nat) : Below B w (w'.drewN q) := ⟨h.os, h.tape, h.output, h.size, h.block⟩
theorem below_two (w : World) (x y : Obj) : Below w.heap.size w ((w.alloc x).alloc y) := ((Below.refl _ w).alloc (Nat.le_refl _) x).alloc (by simp) y
theorem two_first (w : World) (a b : List UInt8) (t u : TypeId) {j : Nat} (h : j < a.length) : ((w.alloc (.cells (cel a) t)).alloc (.cells (cel b) u)).cell? ⟨w.heap.size, j, none⟩ = some (.int .u8 (byt a j)) := by
  rw [World.cell?_alloc_lt _ _ _ (by simp), World.cell?_alloc_new]; exact cel_get a h
theorem two_second (w : World) (a b : List UInt8) (t u : TypeId) {j : Nat} (h : j < b.length) : ((w.alloc (.cells (cel a) t)).alloc (.cells (cel b) u)).cell? ⟨w.heap.size + 1, j, none⟩ = some (.int .u8 (byt b j)) := by
  have := World.cell?_alloc_new (w.alloc (.cells (cel a) t)) (cel b) u j
  rw [show (w.alloc (.cells (cel a) t)).heap.size = w.heap.size + 1 from by simp] at this
  rw [this]; exact cel_get b h
/-- Does a stand ahead of b? A plain definition. -/
def lexL : List UInt8 → List UInt8 → Bool
  | x :: xs, y :: ys => if x = y then lexL xs ys else decide (x.toNat < y.toNat)
  | _, _ => false
theorem byt_eq {a b : List UInt8} {k : Nat} (ha : k < a.length) (hb : k < b.length) : byt a k = byt b k ↔ a[k] = b[k] := by
  simp only [byt, List.getElem?_eq_getElem ha, List.getElem?_eq_getElem hb, Option.getD_some]
  constructor
  · intro h; exact UInt8.toNat_inj.1 (by omega)
  · intro h; rw [h]
theorem byt_at {a : List UInt8} {k : Nat} (ha : k < a.length) : byt a k = (a[k].toNat : Int) := by
  simp only [byt, List.getElem?_eq_getElem ha, Option.getD_some]
theorem lex_same {a b : List UInt8} {k : Nat} (ha : k < a.length) (hb : k < b.length) (h : lexL a b = lexL (a.drop k) (b.drop k)) (he : byt a k = byt b k) :
    lexL a b = lexL (a.drop (k + 1)) (b.drop (k + 1)) := by
  rw [h, List.drop_eq_getElem_cons ha, List.drop_eq_getElem_cons hb, lexL, if_pos ((byt_eq ha hb).1 he)]
theorem lex_here {a b : List UInt8} {k : Nat} (ha : k < a.length) (hb : k < b.length) (h : lexL a b = lexL (a.drop k) (b.drop k)) (he : ¬ byt a k = byt b k) :
    lexL a b = decide (byt a k < byt b k) := by
  rw [h, List.drop_eq_getElem_cons ha, List.drop_eq_getElem_cons hb, lexL, if_neg (fun e => he ((byt_eq ha hb).2 e)), byt_at ha, byt_at hb]
  simp
theorem lex_end {a b : List UInt8} {k : Nat} (ha : a.length ≤ k) (h : lexL a b = lexL (a.drop k) (b.drop k)) : lexL a b = false := by
  rw [h, List.drop_of_length_le ha, lexL]; simp
/-- The address of sixteen bytes 0. -/
def nul : List UInt8 := List.replicate 16 0
/-- Is it an address of a host? A plain definition. -/
def host6 (a : List UInt8) : Bool := !(decide (a = nul)) && (byt a 0 != 255)
theorem lex_self (a : List UInt8) : lexL a a = false := by
  induction a with
  | nil => rfl
  | cons x xs ih => rw [lexL, if_pos rfl]; exact ih
/-- Of two that differ one stands ahead. -/
theorem lex_tri : ∀ {a b : List UInt8}, a.length = b.length → a = b ∨ (a ≠ b ∧ lexL a b = true ∧ lexL b a = false) ∨ (a ≠ b ∧ lexL a b = false ∧ lexL b a = true)
  | [], [], _ => .inl rfl
  | [], _ :: _, h => by simp at h
  | _ :: _, [], h => by simp at h
  | x :: xs, y :: ys, h => by
    by_cases e : x = y
    · subst e
      rcases lex_tri (a := xs) (b := ys) (by simpa using h) with r | ⟨r, r1, r2⟩ | ⟨r, r1, r2⟩
      · exact .inl (by rw [r])
      · exact .inr (.inl ⟨by simpa using r, by rw [lexL, if_pos rfl, r1], by rw [lexL, if_pos rfl, r2]⟩)
      · exact .inr (.inr ⟨by simpa using r, by rw [lexL, if_pos rfl, r1], by rw [lexL, if_pos rfl, r2]⟩)
    · have hne : x.toNat ≠ y.toNat := fun h => e (UInt8.toNat_inj.1 h)
      have e' : ¬ y = x := fun h => e h.symm
      have hc : (x :: xs : List UInt8) ≠ y :: ys := fun h => e (by injection h)
      rcases Nat.lt_or_gt_of_ne hne with hl | hl
      · exact .inr (.inl ⟨hc, by rw [lexL, if_neg e]; simpa using hl, by rw [lexL, if_neg e']; simp; exact UInt8.le_of_lt hl⟩)
      · exact .inr (.inr ⟨hc, by rw [lexL, if_neg e]; simp; exact UInt8.le_of_lt hl, by rw [lexL, if_neg e']; simpa using hl⟩)
end Go.Proofs.Ytobkiffiapjhgaa

/-
  An address of IPv6 that came in, opened. Conditions are each theorem's own.
-/
namespace Go.Proofs.Ytobkiffiapjhgaa
open Go.RowKit Go.ChangeShapes Go.WideShapes

/-- A cell's byte. -/
def celB : Value → UInt8
  | .int _ n => UInt8.ofNat n.toNat
  | _ => 0
section
variable {H : Type} {enc : TypeId × Value → H} {P : Program} {w : World} {base : Nat} {t e : TypeId} {v : Value} {d : DataW H} {p : List MemPlace}
theorem cells_six {m fuel : Nat} {cs : List Value} {x : DataW H × List MemPlace} (ht : P.underlying t = some (.array m e)) (he : P.underlying e = some (.int .u8)) (hc : P.cellsOf e = 1) (hm : P.cellsOf t = m)
    (h : DataW.trod enc P w 0 (fun _ => true) true fuel t cs = some x) : ∃ a : List UInt8, a.length = m ∧ cs = row a := by
  obtain ⟨xs, k, _, _, hl, hxs, hall⟩ := DataW.trod_array ht h
  rw [hm] at hl
  have each : ∀ i, i < m → ∃ n : Int, cs[i]? = some (.int .u8 n) ∧ 0 ≤ n ∧ n ≤ 255 := by
    intro i hi
    have h1 := hall i hi
    rw [hc, Nat.mul_one, List.getElem?_eq_getElem (by omega)] at h1
    obtain ⟨n, hn, _, hw⟩ := DataW.trod_int he h1
    have h0 := congrArg (·[0]?) hn
    simp only [List.getElem?_take, List.getElem?_drop, List.getElem?_cons_zero, Nat.zero_lt_one, if_true, Nat.add_zero] at h0
    exact ⟨n, h0, bounds_u8 hw⟩
  refine ⟨cs.map celB, by simp [hl], ?_⟩
  refine List.ext_getElem? fun i => ?_
  by_cases hi : i < m
  · obtain ⟨n, hn, h0, h1⟩ := each i hi
    rw [hn]
    simp [row, hn, celB, UInt8.toNat_ofNat']
    omega
  · rw [List.getElem?_eq_none (by omega), List.getElem?_eq_none (by simp [row]; omega)]
theorem get_six (ht : P.underlying t = some (.array 16 e)) (he : P.underlying e = some (.int .u8)) (hc : P.cellsOf e = 1) (hm : P.cellsOf t = 16) (hv : Value.okWide P w .any base t v) (h : DataW.Trod enc P w 0 (fun _ => true) true t v d p) :
    ∃ a : List UInt8, v = .agg (cel a) ∧ a.length = 16 := by
  obtain ⟨cs, rfl, _⟩ : ∃ cs, v = .agg cs ∧ True := by
    have := hv
    simp only [Value.okWide, ht] at this
    cases v <;> simp_all
  obtain ⟨fuel, hf⟩ := h
  obtain ⟨a, ha, hcs⟩ := cells_six ht he hc hm hf
  refine ⟨a, ?_, ha⟩
  simp only [Value.cells] at hcs
  rw [cel, ← hcs]
end
end Go.Proofs.Ytobkiffiapjhgaa

/-
  Small words that every text of this seat uses: endings that agree, the string of bytes. Conditions: none; plain lemmas.
-/
namespace Go.Proofs.Ytobkiffiapjhgaa
open Go.RowKit

theorem ret_bool {a b : Bool} (h : a = b) : Ending.returned (.bool a) = .returned (.bool b) := by rw [h]
theorem ret_int {k : IntKind} {a b : Int} (h : a = b) : Ending.returned (.int k a) = .returned (.int k b) := by rw [h]
theorem ret_two {k : IntKind} {a b e : Int} (h : a = b) : Ending.returned (.tuple #[.int k a, .int .i64 e]) = .returned (.tuple #[.int k b, .int .i64 e]) := by rw [h]
theorem ret_str {a b : ByteArray} (h : a = b) : Ending.returned (.string a) = .returned (.string b) := by rw [h]

/-- The string of bytes. A plain definition. -/
def strB (bs : List UInt8) : ByteArray := ⟨bs.toArray⟩
theorem strB_eq (xs bs : List UInt8) : ((strB xs).toList == (strB bs).toList) = decide (xs = bs) := by
  rw [strB, strB, ByteArray.toList_mk, ByteArray.toList_mk, Bool.eq_iff_iff]; simp
theorem strB_append (xs bs : List UInt8) : strB xs ++ strB bs = strB (xs ++ bs) := by
  simp [strB, ByteArray.ext_iff]
theorem strB_size (bs : List UInt8) : (strB bs).size = bs.length := by simp [strB, ByteArray.size]
/-- '+' of two strings of bytes, within bounds. -/
theorem sadd (x y : List UInt8) (h : x.length + y.length ≤ 1000000) (w : World) : (Op.stringOp .add (strB x) (strB y)).run Try.prog w = .ok (.string (strB (x ++ y))) w := by
  have h1 := run_string_add_sum (P := Try.prog) (w := w) (strB x) (strB y) (by rw [strB_size, strB_size]; omega)
  rw [strB_append] at h1
  exact h1
end Go.Proofs.Ytobkiffiapjhgaa

/-
  Contracts of be's small functions (isSize, holds, Fits, number, cut), as read off the program's text: what each answers, and that no memory turns. Conditions are each theorem's own.
-/
namespace Go.Proofs.Ytobkiffiapjhgaa
open Go.RowKit

/-- A size is 1 to 4. -/
def sizeB (size : Int) : Bool := decide (1 ≤ size ∧ size ≤ 4)
theorem sizeB_yes {s : Int} (h1 : 1 ≤ s) (h2 : s ≤ 4) : sizeB s = true := by simp [sizeB, h1, h2]
theorem sizeB_no {s : Int} (h : s < 1 ∨ 4 < s) : sizeB s = false := by simp [sizeB]; omega

theorem isSize_yes (s : Int) (w : World) (h1 : 1 ≤ s) (h2 : s ≤ 4) :
    Calls Try.prog 58 #[.int .i64 s] w fun e w' => e = .returned (.bool true) ∧ w = w' := by
  go_enter Try.func58, Try.ntmps58
  go_wp2
  go_ret
  exact ⟨rfl, rfl⟩

theorem isSize_no (s : Int) (w : World) (h : s < 1 ∨ 4 < s) :
    Calls Try.prog 58 #[.int .i64 s] w fun e w' => e = .returned (.bool false) ∧ w = w' := by
  rcases h with h | h
  · go_enter Try.func58, Try.ntmps58
    go_wp2
    go_ret
    exact ⟨rfl, rfl⟩
  · have hd : decide (s ≤ 4) = false := by simp; omega
    go_enter Try.func58, Try.ntmps58
    go_wp2
    go_ret
    exact ⟨rfl, rfl⟩

/-- holds: is there room for size bytes from at on? -/
theorem holds_any (A : Option Addr) (n c : Nat) (at_ s : Int) (w : World) (hn : n ≤ 1099511627776) (h0 : 1 ≤ s) (h4 : s ≤ 4) :
    Calls Try.prog 60 #[.slice A n c, .int .i64 at_, .int .i64 s] w fun e w' => e = .returned (.bool (decide (at_ ≤ (n : Int) - s))) ∧ w = w' := by
  go_enter Try.func60, Try.ntmps60
  go_wp2
  go_ret
  exact ⟨rfl, rfl⟩

/-- The number that bytes are, the highest first. -/
def num : List UInt8 → Int := List.foldl (fun n x => n * 256 + (x.toNat : Int)) 0
theorem num_snoc (bs : List UInt8) (x : UInt8) : num (bs ++ [x]) = num bs * 256 + (x.toNat : Int) := by simp [num]
theorem num_take (bs : List UInt8) {k : Nat} (hk : k < bs.length) : num (bs.take (k + 1)) = num (bs.take k) * 256 + byt bs k := by
  rw [List.take_succ_eq_append_getElem hk, num_snoc]; simp [byt, hk]
theorem num_bd (bs : List UInt8) : 0 ≤ num bs ∧ num bs < 256 ^ bs.length := by
  suffices h : ∀ (bs : List UInt8) (n : Int) (k : Nat), 0 ≤ n → n < 256 ^ k → 0 ≤ List.foldl (fun n x => n * 256 + ((x : UInt8).toNat : Int)) n bs ∧ List.foldl (fun n x => n * 256 + ((x : UInt8).toNat : Int)) n bs < 256 ^ (k + bs.length) by
    simpa [num] using h bs 0 0 (by omega) (by simp)
  intro bs
  induction bs with
  | nil => intro n k h0 h1; simpa using ⟨h0, h1⟩
  | cons x l ih =>
    intro n k h0 h1
    have hx := x.toNat_lt
    have hp : (256 : Int) ^ (k + 1) = 256 ^ k * 256 := by rw [Int.pow_succ]
    have := ih (n * 256 + (x.toNat : Int)) (k + 1) (by omega) (by omega)
    simp only [List.foldl_cons, List.length_cons]
    rw [show k + (l.length + 1) = k + 1 + l.length from by omega]
    exact this
theorem num_small (bs : List UInt8) {k : Nat} (hk : k ≤ 3) : 0 ≤ num (bs.take k) ∧ num (bs.take k) < 16777216 := by
  have h := num_bd (bs.take k)
  refine ⟨h.1, Int.lt_of_lt_of_le h.2 ?_⟩
  have hl : (bs.take k).length ≤ 3 := by rw [List.length_take]; omega
  have h3 : (bs.take k).length = 0 ∨ (bs.take k).length = 1 ∨ (bs.take k).length = 2 ∨ (bs.take k).length = 3 := by omega
  rcases h3 with e | e | e | e <;> rw [e] <;> decide

set_option maxHeartbeats 400000 in
theorem number_any (A : Option Addr) (bs : List UInt8) (c B : Nat) (w : World) (h : Rd w B A bs) (hl : bs.length ≤ 4) :
    Calls Try.prog 61 #[.slice A bs.length c] w fun e w' => e = .returned (.int .i64 (num bs)) ∧ w = w' := by
  go_enter Try.func61, Try.ntmps61
  go_wp2
  go_loop [3, 8] (fun n i => ∃ k : Nat, k ≤ bs.length ∧ i = .int .i64 k ∧ n = .int .i64 (num (bs.take k))) (fun _ i => bs.length - (intOf i).toNat)
  case atStart => exact ⟨0, Nat.zero_le _, rfl, rfl⟩
  case round =>
    obtain ⟨k, hk, rfl, rfl⟩ := hrel
    by_cases hlt : k < bs.length
    · obtain ⟨b, off, rfl, hb, hc⟩ := h (by omega)
      have hck := hc k hlt
      have h1 := num_small bs (k := k) (by omega)
      have h2 := byt_lo bs k
      have h3 := byt_hi bs k
      have H := Lib.hid (num_take bs hlt)
      clear hc
      generalize num (bs.take k) = q at *
      go_wp2
      go_roundw
      case rel => exact ⟨k + 1, by omega, by simp, by rw [H.out, or_byte q _ h1.1 h1.2 h2 h3]⟩
      case measure => simp [intOf]; omega
    · obtain rfl : k = bs.length := by omega
      go_wp2
      go_ret
      exact ⟨by simp, rfl⟩

/-- cut: size bytes from at on, and no room behind. -/
theorem cut_any (b off n c : Nat) (at_ s : Nat) (w : World) (h1 : 1 ≤ s) (h : at_ + s ≤ n) (hc : n ≤ c) (hb : n ≤ 1099511627776) :
    Calls Try.prog 62 #[.slice (some ⟨b, off, none⟩) n c, .int .i64 (at_ : Int), .int .i64 (s : Int)] w
      fun e w' => e = .returned (.slice (some ⟨b, off + at_, none⟩) s s) ∧ w = w' := by
  go_enter Try.func62, Try.ntmps62
  have e : at_ + s - at_ = s := by omega
  go_wp2
  go_ret
  rw [e]
  exact ⟨rfl, rfl⟩

/-- 256 to the power of k. A plain definition. -/
def pw (k : Nat) : Int := 256 ^ k
theorem pw_succ (k : Nat) : pw (k + 1) = pw k * 256 := by simp [pw, Int.pow_succ]
theorem pw_pos (k : Nat) : 1 ≤ pw k := by induction k with | zero => simp [pw] | succ k ih => rw [pw_succ]; omega
theorem pw_le {k : Nat} (h : k ≤ 4) : pw k ≤ 4294967296 := by
  have : k = 0 ∨ k = 1 ∨ k = 2 ∨ k = 3 ∨ k = 4 := by omega
  rcases this with rfl | rfl | rfl | rfl | rfl <;> decide

theorem pow_any (s : Nat) (w : World) (h4 : s ≤ 4) :
    Calls Try.prog 59 #[.int .i64 (s : Int)] w fun e w' => e = .returned (.int .i64 (pw s)) ∧ w = w' := by
  go_enter Try.func59, Try.ntmps59
  go_wp2
  go_loop [3, 4] (fun n i => ∃ k : Nat, k ≤ s ∧ i = .int .i64 k ∧ n = .int .i64 (pw k)) (fun _ i => s - (intOf i).toNat)
  case atStart => exact ⟨0, Nat.zero_le _, rfl, rfl⟩
  case round =>
    obtain ⟨k, hk, rfl, rfl⟩ := hrel
    have h1 := pw_pos k
    have h2 := pw_le (k := k) (by omega)
    by_cases hlt : k < s
    · have H := Lib.hid (pw_succ k)
      generalize pw k = q at *
      go_wp2
      go_roundw
      case rel => exact ⟨k + 1, by omega, by simp, by rw [H.out]⟩
      case measure => simp [intOf]; omega
    · obtain rfl : k = s := by omega
      go_wp2
      go_ret
      exact ⟨rfl, rfl⟩

/-- Fits: n is a number of so many bytes. -/
def fitsB (n s : Int) : Bool := decide (1 ≤ s ∧ s ≤ 4 ∧ 0 ≤ n ∧ n < pw s.toNat)

theorem fits_any (n s : Int) (w : World) :
    Calls Try.prog 41 #[.int .i64 n, .int .i64 s] w fun e w' => e = .returned (.bool (fitsB n s)) ∧ w = w' := by
  by_cases hs : 1 ≤ s ∧ s ≤ 4
  · obtain ⟨hs1, hs4⟩ := hs
    by_cases h0 : 0 ≤ n
    · have h : s = 1 ∨ s = 2 ∨ s = 3 ∨ s = 4 := by omega
      rcases h with rfl | rfl | rfl | rfl
      all_goals
        go_enter Try.func41, Try.ntmps41
        go_wp2_with (go_at_call 58; refine (isSize_yes _ _ (by omega) (by omega)).mono ?_; rintro e w' ⟨rfl, rfl⟩)
        go_ret
        exact ⟨ret_bool (by rw [Bool.eq_iff_iff]; simp [fitsB, pw]; omega), rfl⟩
    · have hf : fitsB n s = false := by simp [fitsB]; omega
      rw [hf]
      have hd : decide (0 ≤ n) = false := by simp; omega
      go_enter Try.func41, Try.ntmps41
      go_wp2_with (go_at_call 58; refine (isSize_yes _ _ (by omega) (by omega)).mono ?_; rintro e w' ⟨rfl, rfl⟩)
      go_ret
      exact ⟨rfl, rfl⟩
  · have hf : fitsB n s = false := by simp [fitsB]; omega
    rw [hf]
    go_enter Try.func41, Try.ntmps41
    go_wp2_with (go_at_call 58; refine (isSize_no _ _ (by omega)).mono ?_; rintro e w' ⟨rfl, rfl⟩)
    go_ret
    exact ⟨rfl, rfl⟩

theorem fitsB_iff {n s : Int} : fitsB n s = true ↔ 1 ≤ s ∧ s ≤ 4 ∧ 0 ≤ n ∧ n < pw s.toNat := by simp [fitsB]

theorem rfits_any (n s : Int) (w : World) :
    Calls Try.prog 42 #[.int .i64 n, .int .i64 s] w fun e w' => e = .returned (.bool (fitsB n s)) ∧ w = w' := by
  by_cases hs : 1 ≤ s
  · by_cases h4 : s ≤ 4
    · by_cases h0 : 0 ≤ n
      · obtain ⟨k, rfl⟩ := Int.eq_ofNat_of_zero_le (show 0 ≤ s by omega)
        go_enter Try.func42, Try.ntmps42
        go_wp2_with (go_at_call 59; refine (pow_any _ _ (by omega)).mono ?_; rintro e w' ⟨rfl, rfl⟩)
        go_ret
        exact ⟨ret_bool (by rw [Bool.eq_iff_iff]; simp [fitsB]; omega), rfl⟩
      · have hf : fitsB n s = false := by simp [fitsB]; omega
        rw [hf]
        have hd : decide (0 ≤ n) = false := by simp; omega
        go_enter Try.func42, Try.ntmps42
        go_wp2_with (go_at_call 59; refine (pow_any _ _ (by omega)).mono ?_; rintro e w' ⟨rfl, rfl⟩)
        go_ret
        exact ⟨rfl, rfl⟩
    · have hf : fitsB n s = false := by simp [fitsB]; omega
      rw [hf]
      have hd : decide (s ≤ 4) = false := by simp; omega
      go_enter Try.func42, Try.ntmps42
      go_wp2_with (go_at_call 59; refine (pow_any _ _ (by omega)).mono ?_; rintro e w' ⟨rfl, rfl⟩)
      go_ret
      exact ⟨rfl, rfl⟩
  · have hf : fitsB n s = false := by simp [fitsB]; omega
    rw [hf]
    have hd : decide (1 ≤ s) = false := by simp; omega
    go_enter Try.func42, Try.ntmps42
    go_wp2_with (go_at_call 59; refine (pow_any _ _ (by omega)).mono ?_; rintro e w' ⟨rfl, rfl⟩)
    go_ret
    exact ⟨rfl, rfl⟩

/-! ### Get -/

/-- The number of size bytes from at on, and the error's number. -/
def getV (bs : List UInt8) (at_ s : Int) : Int := if 1 ≤ s ∧ s ≤ 4 ∧ 0 ≤ at_ ∧ at_ ≤ (bs.length : Int) - s then num ((bs.drop at_.toNat).take s.toNat) else 0
def getE (n : Nat) (at_ s : Int) : Int := if 1 ≤ s ∧ s ≤ 4 ∧ 0 ≤ at_ then (if at_ ≤ (n : Int) - s then 0 else 3) else 1
theorem getV_no {bs : List UInt8} {at_ s : Int} (h : ¬ (1 ≤ s ∧ s ≤ 4 ∧ 0 ≤ at_ ∧ at_ ≤ (bs.length : Int) - s)) : getV bs at_ s = 0 := by rw [getV, if_neg h]
theorem getE_arg {n : Nat} {at_ s : Int} (h : ¬ (1 ≤ s ∧ s ≤ 4 ∧ 0 ≤ at_)) : getE n at_ s = 1 := by rw [getE, if_neg h]
theorem getE_short {n : Nat} {at_ s : Int} (h : 1 ≤ s ∧ s ≤ 4 ∧ 0 ≤ at_) (h2 : ¬ at_ ≤ (n : Int) - s) : getE n at_ s = 3 := by rw [getE, if_pos h, if_neg h2]
theorem getE_ok {n : Nat} {at_ s : Int} (h : 1 ≤ s ∧ s ≤ 4 ∧ 0 ≤ at_) (h2 : at_ ≤ (n : Int) - s) : getE n at_ s = 0 := by rw [getE, if_pos h, if_pos h2]
theorem getV_ok {bs : List UInt8} {a s : Nat} (h1 : 1 ≤ s) (h4 : s ≤ 4) (h : a + s ≤ bs.length) : getV bs a s = num ((bs.drop a).take s) := by
  rw [getV, if_pos (by omega)]; simp

theorem byt_cut (bs : List UInt8) (a s : Nat) {j : Nat} (hj : j < s) : byt ((bs.drop a).take s) j = byt bs (a + j) := by
  unfold byt; rw [List.getElem?_take, if_pos hj, List.getElem?_drop]
theorem len_cut {bs : List UInt8} {a s : Nat} (h : a + s ≤ bs.length) : ((bs.drop a).take s).length = s := by simp; omega

theorem Rd.cut {w : World} {B b off : Nat} {bs : List UInt8} (a s : Nat) (hs : a + s ≤ bs.length) (hb : b < B)
    (hc : ∀ j, j < bs.length → w.cell? ⟨b, off + j, none⟩ = some (.int .u8 (byt bs j))) : Rd w B (some ⟨b, off + a, none⟩) ((bs.drop a).take s) := fun _ =>
  ⟨b, off + a, rfl, hb, fun j hj => by
    rw [len_cut hs] at hj
    rw [byt_cut bs a s hj, Nat.add_assoc]
    exact hc _ (by omega)⟩

theorem number_cut (b off a s c B : Nat) (bs : List UInt8) (w : World) (hs : a + s ≤ bs.length) (h4 : s ≤ 4) (hb : b < B)
    (hc : ∀ j, j < bs.length → w.cell? ⟨b, off + j, none⟩ = some (.int .u8 (byt bs j))) :
    Calls Try.prog 61 #[.slice (some ⟨b, off + a, none⟩) s c] w fun e w' => e = .returned (.int .i64 (num ((bs.drop a).take s))) ∧ w = w' := by
  have h := number_any (some ⟨b, off + a, none⟩) ((bs.drop a).take s) c B w (Rd.cut a s hs hb hc) (by rw [len_cut hs]; exact h4)
  rw [len_cut hs] at h
  exact h

theorem get_any (A : Option Addr) (bs : List UInt8) (c B : Nat) (at_ s : Int) (w : World) (h : Rd w B A bs) (hl : bs.length ≤ 1099511627776) (hc : bs.length ≤ c) :
    Calls Try.prog 45 #[.slice A bs.length c, .int .i64 at_, .int .i64 s] w
      fun e w' => e = .returned (.tuple #[.int .i64 (getV bs at_ s), .int .i64 (getE bs.length at_ s)]) ∧ w = w' := by
  by_cases hs : 1 ≤ s ∧ s ≤ 4
  · obtain ⟨hs1, hs4⟩ := hs
    by_cases h0 : 0 ≤ at_
    · by_cases hr : at_ ≤ (bs.length : Int) - s
      · obtain ⟨k, rfl⟩ := Int.eq_ofNat_of_zero_le (show 0 ≤ s by omega)
        obtain ⟨a, rfl⟩ := Int.eq_ofNat_of_zero_le h0
        rw [getV_ok (by omega) (by omega) (by omega), getE_ok (by omega) (by omega)]
        obtain ⟨b, off, rfl, hb, hcell⟩ := h (by omega)
        have Hc := Lib.hid hcell
        clear hcell h
        have hd : decide ((a : Int) ≤ (bs.length : Int) - (k : Int)) = true := by simpa using hr
        go_enter Try.func45, Try.ntmps45
        go_wp2_with (first
          | (go_at_call 58; refine (isSize_yes _ _ (by omega) (by omega)).mono ?_; rintro e w' ⟨rfl, rfl⟩)
          | (go_at_call 60; refine (holds_any _ _ _ _ _ _ (by omega) (by omega) (by omega)).mono ?_; rintro e w' ⟨rfl, rfl⟩)
          | (go_at_call 62; refine (cut_any _ _ _ _ _ _ _ (by omega) (by omega) (by omega) (by omega)).mono ?_; rintro e w' ⟨rfl, rfl⟩)
          | (go_at_call 61; refine (number_cut b off a k _ B bs _ (by omega) (by omega) hb Hc.out).mono ?_; rintro e w' ⟨rfl, rfl⟩))
        go_ret2
        exact ⟨rfl, rfl⟩
      · rw [getV_no (by omega), getE_short (by omega) (by omega)]
        have hd : decide (at_ ≤ (bs.length : Int) - s) = false := by simpa using hr
        go_enter Try.func45, Try.ntmps45
        go_wp2_with (first
          | (go_at_call 58; refine (isSize_yes _ _ (by omega) (by omega)).mono ?_; rintro e w' ⟨rfl, rfl⟩)
          | (go_at_call 60; refine (holds_any _ _ _ _ _ _ (by omega) (by omega) (by omega)).mono ?_; rintro e w' ⟨rfl, rfl⟩))
        go_ret2
        exact ⟨rfl, rfl⟩
    · rw [getV_no (by omega), getE_arg (by omega)]
      have hd : decide (at_ < 0) = true := by simp; omega
      go_enter Try.func45, Try.ntmps45
      go_wp2_with (go_at_call 58; refine (isSize_yes _ _ (by omega) (by omega)).mono ?_; rintro e w' ⟨rfl, rfl⟩)
      go_ret2
      exact ⟨rfl, rfl⟩
  · rw [getV_no (by omega), getE_arg (by omega)]
    go_enter Try.func45, Try.ntmps45
    go_wp2_with (go_at_call 58; refine (isSize_no _ _ (by omega)).mono ?_; rintro e w' ⟨rfl, rfl⟩)
    go_ret2
    exact ⟨rfl, rfl⟩

theorem rget_any (A : Option Addr) (bs : List UInt8) (c B : Nat) (at_ s : Int) (w : World) (h : Rd w B A bs) (hl : bs.length ≤ 1099511627776) :
    Calls Try.prog 63 #[.slice A bs.length c, .int .i64 at_, .int .i64 s] w
      fun e w' => e = .returned (.tuple #[.int .i64 (getV bs at_ s), .int .i64 (getE bs.length at_ s)]) ∧ w = w' := by
  by_cases hs : 1 ≤ s
  · by_cases hs4 : s ≤ 4
    · by_cases h0 : 0 ≤ at_
      · by_cases hr : at_ ≤ (bs.length : Int) - s
        · obtain ⟨k, rfl⟩ := Int.eq_ofNat_of_zero_le (show 0 ≤ s by omega)
          obtain ⟨a, rfl⟩ := Int.eq_ofNat_of_zero_le h0
          rw [getV_ok (by omega) (by omega) (by omega), getE_ok (by omega) (by omega)]
          obtain ⟨b, off, rfl, hb, hcell⟩ := h (by omega)
          have hL := len_cut (bs := bs) (a := a) (s := k) (by omega)
          have hX : ∀ j, j < k → w.cell? ⟨b, off + (a + j), none⟩ = some (.int .u8 (byt ((bs.drop a).take k) j)) := fun j hj => by
            rw [byt_cut bs a k hj]; exact hcell _ (by omega)
          generalize (bs.drop a).take k = cs at *
          have Hc := Lib.hid hX
          have HL := Lib.hid hL
          clear hcell h hX hL
          go_enter Try.func63, Try.ntmps63
          go_wp2
          go_loop [8, 9] (fun n i => ∃ j : Nat, j ≤ k ∧ i = .int .i64 j ∧ n = .int .i64 (num (cs.take j))) (fun _ i => k - (intOf i).toNat)
          case atStart => exact ⟨0, Nat.zero_le _, rfl, rfl⟩
          case round =>
            obtain ⟨j, hj, rfl, rfl⟩ := hrel
            by_cases hlt : j < k
            · have hck := Hc.out j hlt
              have h1 := num_small cs (k := j) (by omega)
              have h2 := byt_lo cs j
              have h3 := byt_hi cs j
              have H := Lib.hid (num_take cs (k := j) (by rw [HL.out]; exact hlt))
              generalize num (cs.take j) = q at *
              go_wp2
              go_roundw
              case rel => exact ⟨j + 1, by omega, by simp, by rw [H.out]⟩
              case measure => simp [intOf]; omega
            · obtain rfl : j = k := by omega
              go_wp2
              go_ret2
              exact ⟨by rw [List.take_of_length_le (by rw [HL.out]; omega)]; rfl, rfl⟩
        · rw [getV_no (by omega), getE_short (by omega) (by omega)]
          go_enter Try.func63, Try.ntmps63
          go_wp2
          go_ret2
          exact ⟨rfl, rfl⟩
      · rw [getV_no (by omega), getE_arg (by omega)]
        have hd : decide (at_ < 0) = true := by simp; omega
        go_enter Try.func63, Try.ntmps63
        go_wp2
        go_ret2
        exact ⟨rfl, rfl⟩
    · rw [getV_no (by omega), getE_arg (by omega)]
      have hd : decide (4 < s) = true := by simp; omega
      go_enter Try.func63, Try.ntmps63
      go_wp2
      go_ret2
      exact ⟨rfl, rfl⟩
  · rw [getV_no (by omega), getE_arg (by omega)]
    have hd : decide (s < 1) = true := by simp; omega
    go_enter Try.func63, Try.ntmps63
    go_wp2
    go_ret2
    exact ⟨rfl, rfl⟩
end Go.Proofs.Ytobkiffiapjhgaa
