/-
  Words on memory that every later text of this seat uses: a slice that reads as a list of bytes. Conditions: none; plain definitions and lemmas.
-/
import Derived.Below
import Derived.Laws.OwnMore
import Derived.Laws.Rows
import Derived.Deep.Draws
import Derived.Deep.OwnRows
import Derived.RangeFuncBox
namespace Go.Proofs.Ytghbliabmecbcaa
open Go.RowKit

/-- The number of byte j. A plain definition: the walk leaves it standing. -/
def byt (bs : List UInt8) (j : Nat) : Int := ((bs[j]?.getD 0).toNat : Int)
theorem byt_lo (bs : List UInt8) (j : Nat) : 0 ≤ byt bs j := by unfold byt; omega
theorem byt_hi (bs : List UInt8) (j : Nat) : byt bs j ≤ 255 := by
  unfold byt; have := (bs[j]?.getD 0).toNat_lt; omega

/-- The cells of a list of bytes. -/
def row (bs : List UInt8) : List Value := bs.map fun x => .int .u8 (x.toNat : Int)
theorem row_length (bs : List UInt8) : (row bs).length = bs.length := by simp [row]
theorem row_get (bs : List UInt8) {j : Nat} (h : j < bs.length) : (row bs)[j]? = some (.int .u8 (byt bs j)) := by
  simp [row, byt, h]
theorem row_append (a b : List UInt8) : row (a ++ b) = row a ++ row b := by simp [row]
theorem row_one (bs : List UInt8) : ∀ u ∈ row bs, u.oneCell' = true := by
  intro u hu; simp only [row, List.mem_map] at hu; obtain ⟨x, _, rfl⟩ := hu; rfl
theorem row_getD (bs : List UInt8) {j : Nat} (h : j < bs.length) {u : Value} (hu : (row bs)[j]? = some u) : u = .int .u8 (byt bs j) := by
  rw [row_get bs h] at hu; exact (Option.some.inj hu).symm

/-- The slice at A, of bs.length elements, reads as bs; its cells lie below block B. -/
def Rd (w : World) (B : Nat) (A : Option Addr) (bs : List UInt8) : Prop :=
  0 < bs.length → ∃ b off, A = some ⟨b, off, none⟩ ∧ b < B ∧ ∀ j, j < bs.length → w.cell? ⟨b, off + j, none⟩ = some (.int .u8 (byt bs j))

section
variable {w w' : World} {B B' : Nat} {A : Option Addr} {bs : List UInt8}
theorem Rd.nil : Rd w B A [] := fun h => absurd h (by simp)
theorem Rd.keep (h : Rd w B A bs) (hk : ∀ p : Addr, p.block < B → w'.cell? p = w.cell? p) : Rd w' B A bs := fun hn => by
  obtain ⟨b, off, e, hb, hc⟩ := h hn
  exact ⟨b, off, e, hb, fun j hj => (hk ⟨b, off + j, none⟩ hb).trans (hc j hj)⟩
theorem Rd.more (h : Rd w B A bs) (hB : B ≤ B') : Rd w B' A bs := fun hn => by
  obtain ⟨b, off, e, hb, hc⟩ := h hn
  exact ⟨b, off, e, by omega, hc⟩
theorem Rd.below (h : Rd w B A bs) (hb : Below B w w') : Rd w' B A bs := h.keep fun _ hp => hb.cell hp
theorem Rd.alloc (h : Rd w B A bs) (hB : B ≤ w.heap.size) (o : Obj) : Rd (w.alloc o) B A bs := h.keep fun p hp => World.cell?_alloc_lt w o p (by omega)
theorem Rd.drewN (h : Rd w B A bs) (k : Nat) : Rd (w.drewN k) B A bs := h
theorem Rd.grown (h : Rd w B A bs) {r : Option Nat} (hg : w.grownBy w' r) (hB : B ≤ w.heap.size) (hr : ∀ g, r = some g → B ≤ g) : Rd w' B A bs :=
  h.keep fun p hp => World.cell?_of_block (hg.block p.block (by omega) (fun e => by have := hr _ e.symm; omega))
theorem Rd.of_block {g t : Nat} {cur : Array Value} (hg : w.heap[g]? = some (.cells cur t (0, 0))) (hB : g < B) (off : Nat)
    (hc : ∀ j, j < bs.length → cur[off + j]? = some (.int .u8 (byt bs j))) : Rd w B (some ⟨g, off, none⟩) bs := fun _ =>
  ⟨g, off, rfl, hB, fun j hj => by rw [cell_of_row w g (off + j) cur t (0, 0) hg]; exact hc j hj⟩
theorem Rd.of_own {base e n c : Nat} (hn' : n = bs.length) (h : w.ownsRow base e 1 (.slice A n c) n (row bs)) : Rd w w.heap.size A bs := fun hn => by
  subst hn'
  rcases h.2 with ⟨_, h0⟩ | ⟨g, cap, cur, hv, _, hh, hle, _, hs, ht⟩
  · omega
  · have hA : A = some ⟨g, 0, none⟩ := by injection hv
    subst hA
    refine ⟨g, 0, rfl, (Array.getElem?_eq_some_iff.1 hh).1, fun j hj => ?_⟩
    rw [cell_of_row w g (0 + j) cur e (0, 0) hh, Nat.zero_add]
    have h1 : (List.take (bs.length * 1) cur.toList)[j]? = some (.int .u8 (byt bs j)) := by rw [ht]; exact row_get bs hj
    rw [List.getElem?_take, if_pos (by omega)] at h1
    simpa using h1
end

theorem add_off (b off j : Nat) : (⟨b, off, none⟩ : Addr).add j = ⟨b, off + j, none⟩ := by unfold Addr.add; split <;> simp_all
theorem cell_block {w : World} {a : Addr} {v : Value} (h : w.cell? a = some v) : a.block < w.heap.size := by
  rcases Nat.lt_or_ge a.block w.heap.size with hlt | hge
  · exact hlt
  · unfold World.cell? at h; rw [Array.getElem?_eq_none hge] at h; cases h
/-- A slice of bytes as it is handed over: it reads as bs; nil has no capacity. -/
structure Arg (w : World) (B : Nat) (A : Option Addr) (c : Nat) (bs : List UInt8) : Prop where
  rd : Rd w B A bs
  cap : bs.length ≤ c
  none_ : A = none → c = 0
theorem Arg.below {w w' : World} {B : Nat} {A : Option Addr} {c : Nat} {bs : List UInt8} (h : Arg w B A c bs) (hb : Below B w w') : Arg w' B A c bs := ⟨h.rd.below hb, h.cap, h.none_⟩
theorem Arg.nil (w : World) (B : Nat) : Arg w B none 0 [] := ⟨Rd.nil, Nat.le_refl _, fun _ => rfl⟩
theorem Arg.more {w : World} {B B' : Nat} {A : Option Addr} {c : Nat} {bs : List UInt8} (h : Arg w B A c bs) (hB : B ≤ B') : Arg w B' A c bs := ⟨h.rd.more hB, h.cap, h.none_⟩
theorem Arg.alloc {w : World} {B : Nat} {A : Option Addr} {c : Nat} {bs : List UInt8} (h : Arg w B A c bs) (hB : B ≤ w.heap.size) (o : Obj) : Arg (w.alloc o) B A c bs := ⟨h.rd.alloc hB o, h.cap, h.none_⟩
theorem Arg.drewN {w : World} {B : Nat} {A : Option Addr} {c : Nat} {bs : List UInt8} (h : Arg w B A c bs) (n : Nat) : Arg (w.drewN n) B A c bs := ⟨h.rd.drewN n, h.cap, h.none_⟩
/-- The slice of integers at A reads as zs; its cells lie below block B. -/
def RdI (w : World) (B : Nat) (A : Option Addr) (zs : List Int) : Prop :=
  0 < zs.length → ∃ b off, A = some ⟨b, off, none⟩ ∧ b < B ∧ ∀ j, j < zs.length → w.cell? ⟨b, off + j, none⟩ = some (.int .i64 (zs.getD j 0))
theorem RdI.keep {w w' : World} {B : Nat} {A : Option Addr} {zs : List Int} (h : RdI w B A zs) (hk : ∀ p : Addr, p.block < B → w'.cell? p = w.cell? p) : RdI w' B A zs := fun hn => by
  obtain ⟨b, off, e, hb, hc⟩ := h hn
  exact ⟨b, off, e, hb, fun j hj => (hk ⟨b, off + j, none⟩ hb).trans (hc j hj)⟩
theorem RdI.below {w w' : World} {B : Nat} {A : Option Addr} {zs : List Int} (h : RdI w B A zs) (hb : Below B w w') : RdI w' B A zs := h.keep fun _ hp => hb.cell hp
theorem RdI.alloc {w : World} {B : Nat} {A : Option Addr} {zs : List Int} (h : RdI w B A zs) (hB : B ≤ w.heap.size) (o : Obj) : RdI (w.alloc o) B A zs := h.keep fun p hp => World.cell?_alloc_lt w o p (by omega)
theorem wraps_i64 (n : Int) (h₀ : 0 ≤ n) (h₁ : n < 2 ^ 62) : IntKind.i64.wrap n = n := by rw [IntKind.wrap_i64]; omega
theorem or_byte (q x : Int) (h0 : 0 ≤ q) (h1 : q < 16777216) (h2 : 0 ≤ x) (h3 : x ≤ 255) : bits .or .i64 (q * 256) x = q * 256 + x :=
  bits_join .i64 62 (by decide) wraps_i64 8 _ _ (by omega) (by omega) (by omega) h2 (by omega) (by omega)
end Go.Proofs.Ytghbliabmecbcaa
