/-
  Contracts and lemmas on which the proofs of this seat stand (several texts in one). Conditions are each theorem's own.
-/
import Derived.Below
import Derived.Laws.OwnMore
import Derived.Laws.Rows
import Derived.Deep.Draws
import Derived.Deep.OwnRows
import Derived.RangeFuncBox
import Derived.ProofKit
import Derived.OpenShut
import Derived.ChangeMaps5
import Derived.Test.YtpoigngpdcmipaaGreatRows
import Derived.WalkKit
import Derived.WalkSpells
import Derived.Lib.Hide
import Derived.Outline
import Derived.IntWalk
import Derived.Laws.CopyOwn
import Derived.OwnWalk
import Derived.RangeFuncNested
import Derived.RangeFuncBound
import Derived.RangeFuncCalls
import Derived.RangeFuncLeaves
import Derived.Shelf.Abstract
import Derived.Shelf.RegionOpen
import Derived.OwnWalkIn
import Derived.TacticsInMore
import Derived.LoopNIn
import Derived.LoopIn
import Derived.Laws.AppendOwnNone
import Derived.Laws.BytesArg
import Derived.Lib.SliceRun
import Derived.Deep.QuietTactic
import Derived.BigQuiet
namespace Go.Proofs.YtpoigngpdcmipaaGreat
open Go.RowKit
def byt (bs : List UInt8) (j : Nat) : Int := ((bs[j]?.getD 0).toNat : Int)
theorem byt_lo (bs : List UInt8) (j : Nat) : 0 ≤ byt bs j := by unfold byt; omega
theorem byt_hi (bs : List UInt8) (j : Nat) : byt bs j ≤ 255 := by
  unfold byt; have := (bs[j]?.getD 0).toNat_lt; omega
def row (bs : List UInt8) : List Value := bs.map fun x => .int .u8 (x.toNat : Int)
theorem row_length (bs : List UInt8) : (row bs).length = bs.length := by simp [row]
theorem row_get (bs : List UInt8) {j : Nat} (h : j < bs.length) : (row bs)[j]? = some (.int .u8 (byt bs j)) := by
  simp [row, byt, h]
theorem row_append (a b : List UInt8) : row (a ++ b) = row a ++ row b := by simp [row]
theorem row_one (bs : List UInt8) : ∀ u ∈ row bs, u.oneCell' = true := by
  intro u hu; simp only [row, List.mem_map] at hu; obtain ⟨x, _, rfl⟩ := hu; rfl
theorem row_getD (bs : List UInt8) {j : Nat} (h : j < bs.length) {u : Value} (hu : (row bs)[j]? = some u) : u = .int .u8 (byt bs j) := by
  rw [row_get bs h] at hu; exact (Option.some.inj hu).symm
def Rd (w : World) (B : Nat) (A : Option Addr) (bs : List UInt8) : Prop :=
  0 < bs.length → ∃ b off, A = some ⟨b, off, none⟩ ∧ b < B ∧ ∀ j, j < bs.length → w.cell? ⟨b, off + j, none⟩ = some (.int .u8 (byt bs j))
section
variable {w w' : World} {B B' : Nat} {A : Option Addr} {bs : List UInt8}
theorem Rd.nil : Rd w B A [] := fun h => absurd h (by simp)
theorem Rd.keep (h : Rd w B A bs) (hk : ∀ p : Addr, p.block < B → w'.cell? p = w.cell? p) : Rd w' B A bs := fun hn => by
  obtain ⟨b, off, e, hb, hc⟩ := h hn
  exact ⟨b, off, e, hb, fun j hj => (hk ⟨b, off + j, none⟩ hb).trans (hc j hj)⟩
theorem Rd.more (h : Rd w B A bs) (hB : B ≤ B') : Rd w B' A bs := fun hn => by
  obtain ⟨b, off, e, hb, hc⟩ := h hn
  exact ⟨b, off, e, by omega, hc⟩
theorem Rd.below (h : Rd w B A bs) (hb : Below B w w') : Rd w' B A bs := h.keep fun _ hp => hb.cell hp
theorem Rd.alloc (h : Rd w B A bs) (hB : B ≤ w.heap.size) (o : Obj) : Rd (w.alloc o) B A bs := h.keep fun p hp => World.cell?_alloc_lt w o p (by omega)
theorem Rd.drewN (h : Rd w B A bs) (k : Nat) : Rd (w.drewN k) B A bs := h
theorem Rd.of_block {g t : Nat} {cur : Array Value} (hg : w.heap[g]? = some (.cells cur t (0, 0))) (hB : g < B) (off : Nat)
    (hc : ∀ j, j < bs.length → cur[off + j]? = some (.int .u8 (byt bs j))) : Rd w B (some ⟨g, off, none⟩) bs := fun _ =>
  ⟨g, off, rfl, hB, fun j hj => by rw [cell_of_row w g (off + j) cur t (0, 0) hg]; exact hc j hj⟩
theorem Rd.of_own {base e n c : Nat} (hn' : n = bs.length) (h : w.ownsRow base e 1 (.slice A n c) n (row bs)) : Rd w w.heap.size A bs := fun hn => by
  subst hn'
  rcases h.2 with ⟨_, h0⟩ | ⟨g, cap, cur, hv, _, hh, hle, _, hs, ht⟩
  · omega
  · have hA : A = some ⟨g, 0, none⟩ := by injection hv
    subst hA
    refine ⟨g, 0, rfl, (Array.getElem?_eq_some_iff.1 hh).1, fun j hj => ?_⟩
    rw [cell_of_row w g (0 + j) cur e (0, 0) hh, Nat.zero_add]
    have h1 : (List.take (bs.length * 1) cur.toList)[j]? = some (.int .u8 (byt bs j)) := by rw [ht]; exact row_get bs hj
    rw [List.getElem?_take, if_pos (by omega)] at h1
    simpa using h1
end
theorem add_off (b off j : Nat) : (⟨b, off, none⟩ : Addr).add j = ⟨b, off + j, none⟩ := by unfold Addr.add; split <;> simp_all
theorem cell_block {w : World} {a : Addr} {v : Value} (h : w.cell? a = some v) : a.block < w.heap.size := by
  rcases Nat.lt_or_ge a.block w.heap.size with hlt | hge
  · exact hlt
  · unfold World.cell? at h; rw [Array.getElem?_eq_none hge] at h; cases h
structure Arg (w : World) (B : Nat) (A : Option Addr) (c : Nat) (bs : List UInt8) : Prop where
  rd : Rd w B A bs
  cap : bs.length ≤ c
  none_ : A = none → c = 0
theorem Arg.below {w w' : World} {B : Nat} {A : Option Addr} {c : Nat} {bs : List UInt8} (h : Arg w B A c bs) (hb : Below B w w') : Arg w' B A c bs := ⟨h.rd.below hb, h.cap, h.none_⟩
theorem Arg.nil (w : World) (B : Nat) : Arg w B none 0 [] := ⟨Rd.nil, Nat.le_refl _, fun _ => rfl⟩
theorem Arg.more {w : World} {B B' : Nat} {A : Option Addr} {c : Nat} {bs : List UInt8} (h : Arg w B A c bs) (hB : B ≤ B') : Arg w B' A c bs := ⟨h.rd.more hB, h.cap, h.none_⟩
theorem Arg.alloc {w : World} {B : Nat} {A : Option Addr} {c : Nat} {bs : List UInt8} (h : Arg w B A c bs) (hB : B ≤ w.heap.size) (o : Obj) : Arg (w.alloc o) B A c bs := ⟨h.rd.alloc hB o, h.cap, h.none_⟩
theorem Arg.drewN {w : World} {B : Nat} {A : Option Addr} {c : Nat} {bs : List UInt8} (h : Arg w B A c bs) (n : Nat) : Arg (w.drewN n) B A c bs := ⟨h.rd.drewN n, h.cap, h.none_⟩
theorem wraps_i64 (n : Int) (h₀ : 0 ≤ n) (h₁ : n < 2 ^ 62) : IntKind.i64.wrap n = n := by rw [IntKind.wrap_i64]; omega
theorem or_byte (q x : Int) (h0 : 0 ≤ q) (h1 : q < 16777216) (h2 : 0 ≤ x) (h3 : x ≤ 255) : bits .or .i64 (q * 256) x = q * 256 + x :=
  bits_join .i64 62 (by decide) wraps_i64 8 _ _ (by omega) (by omega) (by omega) h2 (by omega) (by omega)
end Go.Proofs.YtpoigngpdcmipaaGreat
namespace Go.Proofs.YtpoigngpdcmipaaGreat
open Go.RowKit Go.ChangeShapes Go.WideShapes
def IsRow (k : IntKind) (w : World) (a : Option Addr) (len cap : Nat) (zs : List Int) : Prop :=
  (a = none ∧ len = 0 ∧ cap = 0 ∧ zs = []) ∨
  ∃ x, a = some x ∧ len ≤ cap ∧ cap ≤ maxLen ∧ zs.length = cap ∧ (∀ i, i < zs.length → w.cell? (x.add i) = some (.int k (zs.getD i 0))) ∧ ∀ n ∈ zs, (Lit.int k n).wf = true
theorem arg_of_row {w : World} {a : Option Addr} {len cap : Nat} {zs : List Int} (h : IsRow .u8 w a len cap zs) : ∃ bs : List UInt8, len = bs.length ∧ Arg w w.heap.size a cap bs := by
  rcases h with ⟨rfl, rfl, rfl, rfl⟩ | ⟨x, rfl, hl, hm, hz, hcell, hwz⟩
  · exact ⟨[], rfl, Arg.nil _ _⟩
  · refine ⟨(zs.take len).map fun z => UInt8.ofNat z.toNat, by simp; omega, fun hn => ?_, by simp; omega, fun e => by cases e⟩
    have hn' : 0 < len := by simp at hn; omega
    have hc0 := hcell 0 (by omega)
    have hlt := cell_block hc0
    obtain ⟨b, off, spot⟩ := x
    have hspot : spot = none := by simpa [Addr.add] using World.cell?_spot hc0
    subst hspot
    refine ⟨b, off, rfl, by simpa [Addr.add] using hlt, fun j hj => ?_⟩
    have hj' : j < zs.length := by simp at hj; omega
    have hjl : j < len := by simp at hj; omega
    have hc := hcell j hj'
    rw [add_off] at hc
    rw [hc]
    have hb := range_u8 hwz j
    simp only [byt, List.getElem?_map, List.getElem?_take, if_pos hjl, List.getElem?_eq_getElem hj', Option.map_some, Option.getD_some, List.getD_eq_getElem?_getD] at hb ⊢
    simp [UInt8.toNat_ofNat']
    omega
section
variable {H : Type} {enc : TypeId × Value → H} {P : Program} {w : World} {base : Nat} {t e : TypeId} {v : Value} {d : DataW H} {p : List MemPlace}
theorem Trod_lt (h : DataW.Trod enc P w 0 (fun _ => true) true t v d p) : ∀ x ∈ p, x.block < w.heap.size := by
  obtain ⟨m, hm⟩ := h; exact DataW.trod_lt m _ _ _ hm
theorem get_row {k : IntKind} (ht : P.underlying t = some (.slice e)) (he : P.underlying e = some (.int k)) (hc : P.cellsOf e = 1) (hv : Value.okWide P w .any base t v) (h : DataW.Trod enc P w 0 (fun _ => true) true t v d p) :
    ∃ A len cap zs, v = .slice A len cap ∧ IsRow k w A len cap zs := by
  obtain ⟨A, len, cap, rfl⟩ := okWide_slice ht hv
  obtain ⟨fuel, hf⟩ := h
  rcases open_ints ht he hc hf with ⟨hcs, _⟩ | ⟨x, l, c, zs, hcs, _, hl, hm, hz, _, hcell, hwz⟩
  · simp [Value.cells] at hcs
    obtain ⟨rfl, rfl, rfl⟩ := hcs
    exact ⟨_, _, _, [], rfl, .inl ⟨rfl, rfl, rfl, rfl⟩⟩
  · simp [Value.cells] at hcs
    obtain ⟨rfl, rfl, rfl⟩ := hcs
    exact ⟨_, _, _, zs, rfl, .inr ⟨_, rfl, hl, hm, by simpa using hz, hcell, hwz⟩⟩
theorem get_bytes (ht : P.underlying t = some (.slice e)) (he : P.underlying e = some (.int .u8)) (hc : P.cellsOf e = 1) (hv : Value.okWide P w .any base t v) (h : DataW.Trod enc P w 0 (fun _ => true) true t v d p) :
    ∃ A c bs, v = .slice A bs.length c ∧ Arg w w.heap.size A c bs ∧ c ≤ maxLen := by
  obtain ⟨A, len, cap, zs, rfl, hr⟩ := get_row ht he hc hv h
  obtain ⟨bs, rfl, ha⟩ := arg_of_row hr
  refine ⟨A, cap, bs, rfl, ha, ?_⟩
  rcases hr with ⟨_, _, rfl, _⟩ | ⟨_, _, _, hm, _⟩
  · exact Nat.zero_le _
  · exact hm
end
end Go.Proofs.YtpoigngpdcmipaaGreat
namespace Go.Proofs.YtpoigngpdcmipaaGreat
open Go.RowKit
def cel (a : List UInt8) : Array Value := (row a).toArray
theorem cel_get (a : List UInt8) {j : Nat} (h : j < a.length) : (cel a)[j]? = some (.int .u8 (byt a j)) := by
  rw [cel, List.getElem?_toArray, row_get a h]
theorem below_two (w : World) (x y : Obj) : Below w.heap.size w ((w.alloc x).alloc y) := ((Below.refl _ w).alloc (Nat.le_refl _) x).alloc (by simp) y
theorem byt_eq {a b : List UInt8} {k : Nat} (ha : k < a.length) (hb : k < b.length) : byt a k = byt b k ↔ a[k] = b[k] := by
  simp only [byt, List.getElem?_eq_getElem ha, List.getElem?_eq_getElem hb, Option.getD_some]
  constructor
  · intro h; exact UInt8.toNat_inj.1 (by omega)
  · intro h; rw [h]
def nul : List UInt8 := List.replicate 16 0
end Go.Proofs.YtpoigngpdcmipaaGreat
namespace Go.Proofs.YtpoigngpdcmipaaGreat
open Go.RowKit Go.ChangeShapes Go.WideShapes
end Go.Proofs.YtpoigngpdcmipaaGreat
namespace Go.Proofs.YtpoigngpdcmipaaGreat
open Go.RowKit
theorem ret_bool {a b : Bool} (h : a = b) : Ending.returned (.bool a) = .returned (.bool b) := by rw [h]
theorem ret_int {k : IntKind} {a b : Int} (h : a = b) : Ending.returned (.int k a) = .returned (.int k b) := by rw [h]
def strB (bs : List UInt8) : ByteArray := ⟨bs.toArray⟩
theorem strB_eq (xs bs : List UInt8) : ((strB xs).toList == (strB bs).toList) = decide (xs = bs) := by
  rw [strB, strB, ByteArray.toList_mk, ByteArray.toList_mk, Bool.eq_iff_iff]; simp
theorem strB_append (xs bs : List UInt8) : strB xs ++ strB bs = strB (xs ++ bs) := by
  simp [strB, ByteArray.ext_iff]
theorem strB_size (bs : List UInt8) : (strB bs).size = bs.length := by simp [strB, ByteArray.size]
end Go.Proofs.YtpoigngpdcmipaaGreat
namespace Go.Proofs.YtpoigngpdcmipaaGreat
open Go.RowKit
theorem isSize_yes (s : Int) (w : World) (h1 : 1 ≤ s) (h2 : s ≤ 4) :
    Calls Tryz.prog 91 #[.int .i64 s] w fun e w' => e = .returned (.bool true) ∧ w = w' := by
  go_enter Tryz.func91, Tryz.ntmps91
  go_wp2
  go_ret
  exact ⟨rfl, rfl⟩
theorem isSize_no (s : Int) (w : World) (h : s < 1 ∨ 4 < s) :
    Calls Tryz.prog 91 #[.int .i64 s] w fun e w' => e = .returned (.bool false) ∧ w = w' := by
  rcases h with h | h
  · go_enter Tryz.func91, Tryz.ntmps91
    go_wp2
    go_ret
    exact ⟨rfl, rfl⟩
  · have hd : decide (s ≤ 4) = false := by simp; omega
    go_enter Tryz.func91, Tryz.ntmps91
    go_wp2
    go_ret
    exact ⟨rfl, rfl⟩
theorem holds_any (A : Option Addr) (n c : Nat) (at_ s : Int) (w : World) (hn : n ≤ 1099511627776) (h0 : 1 ≤ s) (h4 : s ≤ 4) :
    Calls Tryz.prog 92 #[.slice A n c, .int .i64 at_, .int .i64 s] w fun e w' => e = .returned (.bool (decide (at_ ≤ (n : Int) - s))) ∧ w = w' := by
  go_enter Tryz.func92, Tryz.ntmps92
  go_wp2
  go_ret
  exact ⟨rfl, rfl⟩
def num : List UInt8 → Int := List.foldl (fun n x => n * 256 + (x.toNat : Int)) 0
theorem num_snoc (bs : List UInt8) (x : UInt8) : num (bs ++ [x]) = num bs * 256 + (x.toNat : Int) := by simp [num]
theorem num_take (bs : List UInt8) {k : Nat} (hk : k < bs.length) : num (bs.take (k + 1)) = num (bs.take k) * 256 + byt bs k := by
  rw [List.take_succ_eq_append_getElem hk, num_snoc]; simp [byt, hk]
theorem num_bd (bs : List UInt8) : 0 ≤ num bs ∧ num bs < 256 ^ bs.length := by
  suffices h : ∀ (bs : List UInt8) (n : Int) (k : Nat), 0 ≤ n → n < 256 ^ k → 0 ≤ List.foldl (fun n x => n * 256 + ((x : UInt8).toNat : Int)) n bs ∧ List.foldl (fun n x => n * 256 + ((x : UInt8).toNat : Int)) n bs < 256 ^ (k + bs.length) by
    simpa [num] using h bs 0 0 (by omega) (by simp)
  intro bs
  induction bs with
  | nil => intro n k h0 h1; simpa using ⟨h0, h1⟩
  | cons x l ih =>
    intro n k h0 h1
    have hx := x.toNat_lt
    have hp : (256 : Int) ^ (k + 1) = 256 ^ k * 256 := by rw [Int.pow_succ]
    have := ih (n * 256 + (x.toNat : Int)) (k + 1) (by omega) (by omega)
    simp only [List.foldl_cons, List.length_cons]
    rw [show k + (l.length + 1) = k + 1 + l.length from by omega]
    exact this
theorem num_small (bs : List UInt8) {k : Nat} (hk : k ≤ 3) : 0 ≤ num (bs.take k) ∧ num (bs.take k) < 16777216 := by
  have h := num_bd (bs.take k)
  refine ⟨h.1, Int.lt_of_lt_of_le h.2 ?_⟩
  have hl : (bs.take k).length ≤ 3 := by rw [List.length_take]; omega
  have h3 : (bs.take k).length = 0 ∨ (bs.take k).length = 1 ∨ (bs.take k).length = 2 ∨ (bs.take k).length = 3 := by omega
  rcases h3 with e | e | e | e <;> rw [e] <;> decide
set_option maxHeartbeats 400000 in
theorem number_any (A : Option Addr) (bs : List UInt8) (c B : Nat) (w : World) (h : Rd w B A bs) (hl : bs.length ≤ 4) :
    Calls Tryz.prog 93 #[.slice A bs.length c] w fun e w' => e = .returned (.int .i64 (num bs)) ∧ w = w' := by
  go_enter Tryz.func93, Tryz.ntmps93
  go_wp2
  go_loop [3, 8] (fun n i => ∃ k : Nat, k ≤ bs.length ∧ i = .int .i64 k ∧ n = .int .i64 (num (bs.take k))) (fun _ i => bs.length - (intOf i).toNat)
  case atStart => exact ⟨0, Nat.zero_le _, rfl, rfl⟩
  case round =>
    obtain ⟨k, hk, rfl, rfl⟩ := hrel
    by_cases hlt : k < bs.length
    · obtain ⟨b, off, rfl, hb, hc⟩ := h (by omega)
      have hck := hc k hlt
      have h1 := num_small bs (k := k) (by omega)
      have h2 := byt_lo bs k
      have h3 := byt_hi bs k
      have H := Lib.hid (num_take bs hlt)
      clear hc
      generalize num (bs.take k) = q at *
      go_wp2
      go_roundw
      case rel => exact ⟨k + 1, by omega, by simp, by rw [H.out, or_byte q _ h1.1 h1.2 h2 h3]⟩
      case measure => simp [intOf]; omega
    · obtain rfl : k = bs.length := by omega
      go_wp2
      go_ret
      exact ⟨by simp, rfl⟩
theorem cut_any (b off n c : Nat) (at_ s : Nat) (w : World) (h1 : 1 ≤ s) (h : at_ + s ≤ n) (hc : n ≤ c) (hb : n ≤ 1099511627776) :
    Calls Tryz.prog 94 #[.slice (some ⟨b, off, none⟩) n c, .int .i64 (at_ : Int), .int .i64 (s : Int)] w
      fun e w' => e = .returned (.slice (some ⟨b, off + at_, none⟩) s s) ∧ w = w' := by
  go_enter Tryz.func94, Tryz.ntmps94
  have e : at_ + s - at_ = s := by omega
  go_wp2
  go_ret
  rw [e]
  exact ⟨rfl, rfl⟩
def pw (k : Nat) : Int := 256 ^ k
theorem pw_succ (k : Nat) : pw (k + 1) = pw k * 256 := by simp [pw, Int.pow_succ]
theorem pw_pos (k : Nat) : 1 ≤ pw k := by induction k with | zero => simp [pw] | succ k ih => rw [pw_succ]; omega
theorem pw_le {k : Nat} (h : k ≤ 4) : pw k ≤ 4294967296 := by
  have : k = 0 ∨ k = 1 ∨ k = 2 ∨ k = 3 ∨ k = 4 := by omega
  rcases this with rfl | rfl | rfl | rfl | rfl <;> decide
theorem pow_any (s : Nat) (w : World) (h4 : s ≤ 4) :
    Calls Tryz.prog 71 #[.int .i64 (s : Int)] w fun e w' => e = .returned (.int .i64 (pw s)) ∧ w = w' := by
  go_enter Tryz.func71, Tryz.ntmps71
  go_wp2
  go_loop [3, 4] (fun n i => ∃ k : Nat, k ≤ s ∧ i = .int .i64 k ∧ n = .int .i64 (pw k)) (fun _ i => s - (intOf i).toNat)
  case atStart => exact ⟨0, Nat.zero_le _, rfl, rfl⟩
  case round =>
    obtain ⟨k, hk, rfl, rfl⟩ := hrel
    have h1 := pw_pos k
    have h2 := pw_le (k := k) (by omega)
    by_cases hlt : k < s
    · have H := Lib.hid (pw_succ k)
      generalize pw k = q at *
      go_wp2
      go_roundw
      case rel => exact ⟨k + 1, by omega, by simp, by rw [H.out]⟩
      case measure => simp [intOf]; omega
    · obtain rfl : k = s := by omega
      go_wp2
      go_ret
      exact ⟨rfl, rfl⟩
def fitsB (n s : Int) : Bool := decide (1 ≤ s ∧ s ≤ 4 ∧ 0 ≤ n ∧ n < pw s.toNat)
theorem fits_any (n s : Int) (w : World) :
    Calls Tryz.prog 67 #[.int .i64 n, .int .i64 s] w fun e w' => e = .returned (.bool (fitsB n s)) ∧ w = w' := by
  by_cases hs : 1 ≤ s ∧ s ≤ 4
  · obtain ⟨hs1, hs4⟩ := hs
    by_cases h0 : 0 ≤ n
    · have h : s = 1 ∨ s = 2 ∨ s = 3 ∨ s = 4 := by omega
      rcases h with rfl | rfl | rfl | rfl
      all_goals
        go_enter Tryz.func67, Tryz.ntmps67
        go_wp2_with (go_at_call 91; refine (isSize_yes _ _ (by omega) (by omega)).mono ?_; rintro e w' ⟨rfl, rfl⟩)
        go_ret
        exact ⟨ret_bool (by rw [Bool.eq_iff_iff]; simp [fitsB, pw]; omega), rfl⟩
    · have hf : fitsB n s = false := by simp [fitsB]; omega
      rw [hf]
      have hd : decide (0 ≤ n) = false := by simp; omega
      go_enter Tryz.func67, Tryz.ntmps67
      go_wp2_with (go_at_call 91; refine (isSize_yes _ _ (by omega) (by omega)).mono ?_; rintro e w' ⟨rfl, rfl⟩)
      go_ret
      exact ⟨rfl, rfl⟩
  · have hf : fitsB n s = false := by simp [fitsB]; omega
    rw [hf]
    go_enter Tryz.func67, Tryz.ntmps67
    go_wp2_with (go_at_call 91; refine (isSize_no _ _ (by omega)).mono ?_; rintro e w' ⟨rfl, rfl⟩)
    go_ret
    exact ⟨rfl, rfl⟩
theorem fitsB_iff {n s : Int} : fitsB n s = true ↔ 1 ≤ s ∧ s ≤ 4 ∧ 0 ≤ n ∧ n < pw s.toNat := by simp [fitsB]
theorem rfits_any (n s : Int) (w : World) :
    Calls Tryz.prog 70 #[.int .i64 n, .int .i64 s] w fun e w' => e = .returned (.bool (fitsB n s)) ∧ w = w' := by
  by_cases hs : 1 ≤ s
  · by_cases h4 : s ≤ 4
    · by_cases h0 : 0 ≤ n
      · obtain ⟨k, rfl⟩ := Int.eq_ofNat_of_zero_le (show 0 ≤ s by omega)
        go_enter Tryz.func70, Tryz.ntmps70
        go_wp2_with (go_at_call 71; refine (pow_any _ _ (by omega)).mono ?_; rintro e w' ⟨rfl, rfl⟩)
        go_ret
        exact ⟨ret_bool (by rw [Bool.eq_iff_iff]; simp [fitsB]; omega), rfl⟩
      · have hf : fitsB n s = false := by simp [fitsB]; omega
        rw [hf]
        have hd : decide (0 ≤ n) = false := by simp; omega
        go_enter Tryz.func70, Tryz.ntmps70
        go_wp2_with (go_at_call 71; refine (pow_any _ _ (by omega)).mono ?_; rintro e w' ⟨rfl, rfl⟩)
        go_ret
        exact ⟨rfl, rfl⟩
    · have hf : fitsB n s = false := by simp [fitsB]; omega
      rw [hf]
      have hd : decide (s ≤ 4) = false := by simp; omega
      go_enter Tryz.func70, Tryz.ntmps70
      go_wp2_with (go_at_call 71; refine (pow_any _ _ (by omega)).mono ?_; rintro e w' ⟨rfl, rfl⟩)
      go_ret
      exact ⟨rfl, rfl⟩
  · have hf : fitsB n s = false := by simp [fitsB]; omega
    rw [hf]
    have hd : decide (1 ≤ s) = false := by simp; omega
    go_enter Tryz.func70, Tryz.ntmps70
    go_wp2_with (go_at_call 71; refine (pow_any _ _ (by omega)).mono ?_; rintro e w' ⟨rfl, rfl⟩)
    go_ret
    exact ⟨rfl, rfl⟩
def getV (bs : List UInt8) (at_ s : Int) : Int := if 1 ≤ s ∧ s ≤ 4 ∧ 0 ≤ at_ ∧ at_ ≤ (bs.length : Int) - s then num ((bs.drop at_.toNat).take s.toNat) else 0
def getE (n : Nat) (at_ s : Int) : Int := if 1 ≤ s ∧ s ≤ 4 ∧ 0 ≤ at_ then (if at_ ≤ (n : Int) - s then 0 else 3) else 1
theorem getV_no {bs : List UInt8} {at_ s : Int} (h : ¬ (1 ≤ s ∧ s ≤ 4 ∧ 0 ≤ at_ ∧ at_ ≤ (bs.length : Int) - s)) : getV bs at_ s = 0 := by rw [getV, if_neg h]
theorem getE_arg {n : Nat} {at_ s : Int} (h : ¬ (1 ≤ s ∧ s ≤ 4 ∧ 0 ≤ at_)) : getE n at_ s = 1 := by rw [getE, if_neg h]
theorem getE_short {n : Nat} {at_ s : Int} (h : 1 ≤ s ∧ s ≤ 4 ∧ 0 ≤ at_) (h2 : ¬ at_ ≤ (n : Int) - s) : getE n at_ s = 3 := by rw [getE, if_pos h, if_neg h2]
theorem getE_ok {n : Nat} {at_ s : Int} (h : 1 ≤ s ∧ s ≤ 4 ∧ 0 ≤ at_) (h2 : at_ ≤ (n : Int) - s) : getE n at_ s = 0 := by rw [getE, if_pos h, if_pos h2]
theorem getV_ok {bs : List UInt8} {a s : Nat} (h1 : 1 ≤ s) (h4 : s ≤ 4) (h : a + s ≤ bs.length) : getV bs a s = num ((bs.drop a).take s) := by
  rw [getV, if_pos (by omega)]; simp
theorem byt_cut (bs : List UInt8) (a s : Nat) {j : Nat} (hj : j < s) : byt ((bs.drop a).take s) j = byt bs (a + j) := by
  unfold byt; rw [List.getElem?_take, if_pos hj, List.getElem?_drop]
theorem len_cut {bs : List UInt8} {a s : Nat} (h : a + s ≤ bs.length) : ((bs.drop a).take s).length = s := by simp; omega
theorem Rd.cut {w : World} {B b off : Nat} {bs : List UInt8} (a s : Nat) (hs : a + s ≤ bs.length) (hb : b < B)
    (hc : ∀ j, j < bs.length → w.cell? ⟨b, off + j, none⟩ = some (.int .u8 (byt bs j))) : Rd w B (some ⟨b, off + a, none⟩) ((bs.drop a).take s) := fun _ =>
  ⟨b, off + a, rfl, hb, fun j hj => by
    rw [len_cut hs] at hj
    rw [byt_cut bs a s hj, Nat.add_assoc]
    exact hc _ (by omega)⟩
theorem number_cut (b off a s c B : Nat) (bs : List UInt8) (w : World) (hs : a + s ≤ bs.length) (h4 : s ≤ 4) (hb : b < B)
    (hc : ∀ j, j < bs.length → w.cell? ⟨b, off + j, none⟩ = some (.int .u8 (byt bs j))) :
    Calls Tryz.prog 93 #[.slice (some ⟨b, off + a, none⟩) s c] w fun e w' => e = .returned (.int .i64 (num ((bs.drop a).take s))) ∧ w = w' := by
  have h := number_any (some ⟨b, off + a, none⟩) ((bs.drop a).take s) c B w (Rd.cut a s hs hb hc) (by rw [len_cut hs]; exact h4)
  rw [len_cut hs] at h
  exact h
theorem get_any (A : Option Addr) (bs : List UInt8) (c B : Nat) (at_ s : Int) (w : World) (h : Rd w B A bs) (hl : bs.length ≤ 1099511627776) (hc : bs.length ≤ c) :
    Calls Tryz.prog 62 #[.slice A bs.length c, .int .i64 at_, .int .i64 s] w
      fun e w' => e = .returned (.tuple #[.int .i64 (getV bs at_ s), .int .i64 (getE bs.length at_ s)]) ∧ w = w' := by
  by_cases hs : 1 ≤ s ∧ s ≤ 4
  · obtain ⟨hs1, hs4⟩ := hs
    by_cases h0 : 0 ≤ at_
    · by_cases hr : at_ ≤ (bs.length : Int) - s
      · obtain ⟨k, rfl⟩ := Int.eq_ofNat_of_zero_le (show 0 ≤ s by omega)
        obtain ⟨a, rfl⟩ := Int.eq_ofNat_of_zero_le h0
        rw [getV_ok (by omega) (by omega) (by omega), getE_ok (by omega) (by omega)]
        obtain ⟨b, off, rfl, hb, hcell⟩ := h (by omega)
        have Hc := Lib.hid hcell
        clear hcell h
        have hd : decide ((a : Int) ≤ (bs.length : Int) - (k : Int)) = true := by simpa using hr
        go_enter Tryz.func62, Tryz.ntmps62
        go_wp2_with (first
          | (go_at_call 91; refine (isSize_yes _ _ (by omega) (by omega)).mono ?_; rintro e w' ⟨rfl, rfl⟩)
          | (go_at_call 92; refine (holds_any _ _ _ _ _ _ (by omega) (by omega) (by omega)).mono ?_; rintro e w' ⟨rfl, rfl⟩)
          | (go_at_call 94; refine (cut_any _ _ _ _ _ _ _ (by omega) (by omega) (by omega) (by omega)).mono ?_; rintro e w' ⟨rfl, rfl⟩)
          | (go_at_call 93; refine (number_cut b off a k _ B bs _ (by omega) (by omega) hb Hc.out).mono ?_; rintro e w' ⟨rfl, rfl⟩))
        go_ret2
        exact ⟨rfl, rfl⟩
      · rw [getV_no (by omega), getE_short (by omega) (by omega)]
        have hd : decide (at_ ≤ (bs.length : Int) - s) = false := by simpa using hr
        go_enter Tryz.func62, Tryz.ntmps62
        go_wp2_with (first
          | (go_at_call 91; refine (isSize_yes _ _ (by omega) (by omega)).mono ?_; rintro e w' ⟨rfl, rfl⟩)
          | (go_at_call 92; refine (holds_any _ _ _ _ _ _ (by omega) (by omega) (by omega)).mono ?_; rintro e w' ⟨rfl, rfl⟩))
        go_ret2
        exact ⟨rfl, rfl⟩
    · rw [getV_no (by omega), getE_arg (by omega)]
      have hd : decide (at_ < 0) = true := by simp; omega
      go_enter Tryz.func62, Tryz.ntmps62
      go_wp2_with (go_at_call 91; refine (isSize_yes _ _ (by omega) (by omega)).mono ?_; rintro e w' ⟨rfl, rfl⟩)
      go_ret2
      exact ⟨rfl, rfl⟩
  · rw [getV_no (by omega), getE_arg (by omega)]
    go_enter Tryz.func62, Tryz.ntmps62
    go_wp2_with (go_at_call 91; refine (isSize_no _ _ (by omega)).mono ?_; rintro e w' ⟨rfl, rfl⟩)
    go_ret2
    exact ⟨rfl, rfl⟩
end Go.Proofs.YtpoigngpdcmipaaGreat
namespace Go.Proofs.YtpoigngpdcmipaaGreat
open Go.RowKit Go.Shelf
attribute [local go_sem] Oper.semAt_some
theorem info_u8 : (Tryz.prog.info? 5).map (fun i => (i.zero, i.size, i.bytes)) = some (some (.int .u8 0), 1, 1) := by kernel_rfl
theorem size_u8 : (Tryz.prog.info? 5).map (·.size) = some 1 := by kernel_rfl
theorem made_rep (z : Value) (n : Nat) : madeCells #[z] n = (List.replicate n z).toArray := by
  apply Array.ext'; rw [toList_madeCells_one]
def pad (bs : List UInt8) (n : Nat) : List UInt8 := bs ++ List.replicate (n - bs.length) 0
theorem pad_length {bs : List UInt8} {n : Nat} (h : bs.length ≤ n) : (pad bs n).length = n := by simp [pad]; omega
theorem row_pad (bs : List UInt8) (n : Nat) : splice (List.replicate n (.int .u8 0)) 0 (row bs) = row (pad bs n) := by
  simp [splice, row, pad]
theorem roomy_src {w : World} {B : Nat} {A : Option Addr} {bs : List UInt8} (h : Rd w B A bs) (hB : B ≤ w.heap.size) (o : Obj) (hp : 0 < (row bs).length) :
    some (⟨w.heap.size, 0, none⟩ : Addr) = some ⟨w.heap.size, 0, none⟩ ∧ ∃ ad, A = some ad ∧ ∀ j v, (row bs)[j]? = some v → (w.alloc o).cell? (ad.add j) = some v := by
  rw [row_length] at hp
  obtain ⟨b, off, rfl, hb, hc⟩ := (h.alloc hB o) hp
  refine ⟨rfl, _, rfl, fun j v hv => ?_⟩
  have hj : j < bs.length := by have := (List.getElem?_eq_some_iff.1 hv).1; rwa [row_length] at this
  rw [row_getD bs hj hv]
  rw [add_off]; exact hc j hj
set_option maxHeartbeats 400000 in
theorem roomy_any (A : Option Addr) (bs : List UInt8) (c B n : Nat) (w : World) (h : Rd w B A bs) (hB : B ≤ w.heap.size) (hl : bs.length ≤ n) (hn : n ≤ 1099511627776) :
    Calls Tryz.prog 163 #[.slice A bs.length c, .int .i64 (n : Int)] w
      fun e w' => e = .returned (.slice (some ⟨w.heap.size, 0, none⟩) n n) ∧ w'.heap[w.heap.size]? = some (.cells (row (pad bs n)).toArray 5 (0, 0)) ∧ Below w.heap.size w w' := by
  have hmk : ∀ W : World, (Instr.makeSlice 22 (.int .i64 (n : Int)) (.int .i64 (n : Int))).run Tryz.prog W = .ok (.slice (some ⟨W.heap.size, 0, none⟩) n n) (W.alloc (.cells (List.replicate n (.int .u8 0)).toArray 5)) := fun W => by
    rw [← made_rep]; exact run_make_row' 22 5 (.int .u8 0) 1 Tryz.underlying22 info_u8 rfl .i64 .i64 n (by omega) (by omega) W
  have HR := Lib.hid (row_pad bs n)
  have Hrow := Lib.hid (row_length bs)
  go_enter Tryz.func163, Tryz.ntmps163
  go_wp2_with (refine wpList_copy_splice rfl (.tmp 8) (.tmp 9) 22 22 rfl 5 Tryz.underlying22 size_u8 _ _ _ _ _ _ rfl rfl w.heap.size 0 (List.replicate n (.int .u8 0)) 5 (World.alloc_heap_new _ _) (row bs) (by rw [Hrow.out]; exact (Nat.min_eq_left hl).symm) (roomy_src h hB _) (by rw [Hrow.out]; simp; omega) (row_one bs) w.heap.size w ((Below.refl _ w).alloc (Nat.le_refl _) _) (Nat.le_refl _) ?_; intro w2 HG2 hB2)
  go_ret
  exact ⟨rfl, by rw [← HR.out]; exact HG2.out, hB2⟩
def Holds (lo hi : Nat) (W W' : World) : Prop := W.heap.size ≤ W'.heap.size ∧ ∀ k, lo ≤ k → k < hi → W'.heap[k]? = W.heap[k]?
theorem Holds.refl (lo hi : Nat) (W : World) : Holds lo hi W W := ⟨Nat.le_refl _, fun _ _ _ => rfl⟩
theorem Holds.trans {lo hi : Nat} {A B C : World} (h : Holds lo hi A B) (k : Holds lo hi B C) : Holds lo hi A C :=
  ⟨Nat.le_trans h.1 k.1, fun i h1 h2 => (k.2 i h1 h2).trans (h.2 i h1 h2)⟩
theorem Holds.b {lo hi : Nat} {w : World} (hh : hi ≤ w.heap.size) (W : World) (l : Nat) (o o' : Obj) (hl : w.heap.size ≤ l) (_ : W.heap[l]? = some o) (_ : o.isCells = false) (_ : o.isWalk = false) : Holds lo hi W (W.putObj l o') :=
  ⟨by simp, fun k _ h2 => World.putObj_heap_other (by omega)⟩
theorem Holds.setCell {lo hi : Nat} {W : World} {p : Addr} (hp : p.block < lo ∨ hi ≤ p.block) (v : Value) : Holds lo hi W (W.setCell p v) :=
  ⟨by simp [World.setCell], fun k h1 h2 => Below.heap_setCell W p v k (by omega)⟩
theorem Holds.cell {lo hi : Nat} {W W' : World} (h : Holds lo hi W W') {p : Addr} (h1 : lo ≤ p.block) (h2 : p.block < hi) : W'.cell? p = W.cell? p := World.cell?_of_block (w := W) (h.2 p.block h1 h2)
def dig (n : Int) (s i : Nat) : UInt8 := UInt8.ofNat (n / pw (s - 1 - i)).toNat
theorem dig_val {n : Int} (h : 0 ≤ n) (s i : Nat) : ((dig n s i).toNat : Int) = n / pw (s - 1 - i) % 256 := by
  have h1 : 0 ≤ n / pw (s - 1 - i) := Int.ediv_nonneg h (by have := pw_pos (s - 1 - i); omega)
  simp only [dig, UInt8.toNat_ofNat']
  omega
def digs (n : Int) (s : Nat) : List UInt8 := (List.range s).map (dig n s)
theorem digs_length (n : Int) (s : Nat) : (digs n s).length = s := by simp [digs]
def ups (s k : Nat) : List { i : Nat // i < s } := (List.range k).filterMap fun i => if h : i < s then some ⟨i, h⟩ else none
theorem ups_succ {s k : Nat} (h : k < s) : ups s (k + 1) = ups s k ++ [⟨k, h⟩] := by
  simp [ups, List.range_succ, List.filterMap_append, h]
theorem ups_length {s k : Nat} (h : k ≤ s) : (ups s k).length = k := by
  induction k with
  | zero => simp [ups]
  | succ k ih => rw [ups_succ (by omega)]; simp [ih (by omega)]
def encD (n : Int) (s : Nat) (x : { i : Nat // i < s }) : Array Value := #[.int .i64 (x.1 : Int), .int .u8 ((dig n s x.1).toNat : Int)]
theorem digits_any (n : Int) (s : Nat) (w : World) :
    Calls Tryz.prog 184 #[.int .i64 n, .int .i64 (s : Int)] w
      fun e w' => e = .returned (.func (.func 191) #[] #[.pointer (some ⟨w.heap.size + 1, 0, none⟩), .pointer (some ⟨w.heap.size, 0, none⟩)]) ∧
        w' = (w.alloc (.cells #[.int .i64 n] 3)).alloc (.cells #[.int .i64 (s : Int)] 3) := by
  go_enter Tryz.func184, Tryz.ntmps184
  go_wp2
  go_ret
  exact ⟨rfl, rfl⟩
theorem shift_dig {n : Int} (h : 0 ≤ n) {s i : Nat} (hi : i < s) (h4 : s ≤ 4) :
    ((dig n s i).toNat : Int) = n / 2 ^ (8 * (s - 1 - i)) % 256 := by
  rw [dig_val h]
  obtain ⟨m, hm⟩ : ∃ m, m = s - 1 - i := ⟨_, rfl⟩
  rw [← hm]
  have h4 : m = 0 ∨ m = 1 ∨ m = 2 ∨ m = 3 := by omega
  rcases h4 with rfl | rfl | rfl | rfl <;> simp [pw]
set_option maxRecDepth 100000 in
set_option maxHeartbeats 2000000 in
theorem digits1_in (m : Nat) (hm : 1 ≤ m) (l lo : Nat) (n : Int) (s : Nat) (h0 : 0 ≤ n) (h4 : s ≤ 4) (J Jx : List { i : Nat // i < s } → World → Prop)
    (hY : ∀ pre x W, J pre W → pre.length < s → YieldAt Fence.wide (m - 1) Tryz.prog l (encD n s x) W fun e W' =>
      (e = .returned (.bool true) ∧ J (pre ++ [x]) W' ∧ Holds lo (lo + 2) W W') ∨ (e = .returned (.bool false) ∧ Jx (pre ++ [x]) W'))
    (W : World) (hn : W.cell? ⟨lo, 0, none⟩ = some (.int .i64 n)) (hs : W.cell? ⟨lo + 1, 0, none⟩ = some (.int .i64 (s : Int))) (hJ : J [] W) :
    CallsIn Fence.wide m Tryz.prog 191 #[.func (.yield l) #[] #[], .pointer (some ⟨lo + 1, 0, none⟩), .pointer (some ⟨lo, 0, none⟩)] W fun e W' => (∃ v, e = .returned v) ∧
      ((∃ ys, ys = ups s s ∧ J ys W') ∨ (∃ pre, (∃ k, k ≤ s ∧ pre = ups s k) ∧ Jx pre W')) := by
  refine callsIn_of_wp Tryz.func191 rfl trivial ?_ rfl
  simp only [Tryz.ntmps191, List.size_toArray, List.length_cons, List.length_nil, Nat.reduceAdd, Nat.reduceSub, Array.replicate_succ, Array.replicate_zero, List.push_toArray, List.append_toArray, List.nil_append, List.cons_append]
  gi_wp2
  gi_loopw [6] (fun i wr => ∃ k : Nat, k ≤ s ∧ i = .int .i64 k ∧ J (ups s k) wr ∧ Holds lo (lo + 2) W wr)
    (fun i _ => s - (intOf i).toNat)
  case atStart => exact ⟨0, Nat.zero_le _, rfl, hJ, Holds.refl _ _ _⟩
  case round =>
    obtain ⟨k, hk, rfl, hJs, hH⟩ := hrel
    by_cases hlt : k < s
    · have hn' := (hH.cell (p := ⟨lo, 0, none⟩) (by simp) (by simp)).trans hn
      have hs' := (hH.cell (p := ⟨lo + 1, 0, none⟩) (by simp) (by simp)).trans hs
      obtain ⟨fn, tmps, assign, body, hy, hR⟩ := hY _ ⟨k, hlt⟩ wr hJs (by rw [ups_length (by omega)]; exact hlt)
      dsimp only [encD] at hy
      rw [shift_dig h0 hlt h4] at hy
      gi_wp2
      refine hR.mono ?_
      rintro e W3 (⟨rfl, hJ3, hk3⟩ | ⟨rfl, hJx3⟩)
      · gi_wp2
        go_roundw
        case rel => exact ⟨k + 1, by omega, by simp, by rw [ups_succ hlt]; exact hJ3, hH.trans hk3⟩
        case measure => simp [intOf]; omega
      · gi_wp2
        refine bodyPost_ret (results_none rfl _ _ _) rfl ?_
        exact ⟨⟨_, rfl⟩, .inr ⟨_, ⟨k + 1, by omega, (ups_succ hlt).symm⟩, hJx3⟩⟩
    · obtain rfl : k = s := by omega
      gi_wp2
      go_end0
      exact ⟨⟨_, rfl⟩, .inl ⟨_, rfl, hJs⟩⟩
theorem digits_stops (m : Nat) (hm : 1 ≤ m) (lo : Nat) (n : Int) (s : Nat) (h0 : 0 ≤ n) (h4 : s ≤ 4) (w : World) (hlo : lo + 2 ≤ w.heap.size)
    (hn : w.cell? ⟨lo, 0, none⟩ = some (.int .i64 n)) (hs : w.cell? ⟨lo + 1, 0, none⟩ = some (.int .i64 (s : Int))) :
    SeqStopsK Fence.wide m Tryz.prog 191 #[.pointer (some ⟨lo + 1, 0, none⟩), .pointer (some ⟨lo, 0, none⟩)] (encD n s) (Holds lo (lo + 2))
      (fun ys => ys = ups s s) (fun pre => ∃ k, k ≤ s ∧ pre = ups s k) s w := fun l J Jx W hW _ _ hY hJ =>
  digits1_in m hm l lo n s h0 h4 J Jx hY W ((hW.cell (p := ⟨lo, 0, none⟩) (by simp; omega)).trans hn) ((hW.cell (p := ⟨lo + 1, 0, none⟩) (by simp; omega)).trans hs) hJ
def setD (bs : List UInt8) (off : Nat) (n : Int) (s : Nat) (pre : List { i : Nat // i < s }) : List UInt8 := pre.foldl (fun l x => l.set (off + x.1) (dig n s x.1)) bs
theorem setD_snoc (bs : List UInt8) (off : Nat) (n : Int) (s : Nat) (pre : List { i : Nat // i < s }) (x : { i : Nat // i < s }) :
    setD bs off n s (pre ++ [x]) = (setD bs off n s pre).set (off + x.1) (dig n s x.1) := by simp [setD]
theorem setD_length (bs : List UInt8) (off : Nat) (n : Int) (s : Nat) (pre : List { i : Nat // i < s }) : (setD bs off n s pre).length = bs.length := by
  unfold setD
  induction pre generalizing bs with
  | nil => rfl
  | cons x l ih => rw [List.foldl_cons, ih, List.length_set]
theorem splice_set {α : Type} (bs ds : List α) (off : Nat) (x : α) (h : off + ds.length < bs.length) : (splice bs off ds).set (off + ds.length) x = splice bs off (ds ++ [x]) := by
  apply List.ext_getElem?
  intro i
  simp only [splice, List.getElem?_set, List.getElem?_append, List.length_take, List.length_append, List.length_drop, List.getElem?_drop, List.getElem?_take, List.length_cons, List.length_nil]
  by_cases h1 : i < off
  · have e : ¬ off + ds.length = i := by omega
    have e1 : i < min off bs.length := by omega
    simp [e, e1]
  · by_cases h2 : i < off + ds.length
    · have e : ¬ off + ds.length = i := by omega
      have e1 : ¬ i < min off bs.length := by omega
      have e2 : i - min off bs.length < ds.length := by omega
      have e3 : i - min off bs.length < ds.length + 1 := by omega
      simp [e, e1, e2, e3]
    · by_cases h3 : i = off + ds.length
      · subst h3
        have e1 : ¬ off + ds.length < min off bs.length := by omega
        have e2 : ¬ off + ds.length - min off bs.length < ds.length := by omega
        have e3 : off + ds.length - min off bs.length < ds.length + 1 := by omega
        have e4 : off + ds.length - min off bs.length - ds.length = 0 := by omega
        simp [e1, e2, e3, e4]
        omega
      · have e : ¬ off + ds.length = i := by omega
        have e1 : ¬ i < min off bs.length := by omega
        have e2 : ¬ i - min off bs.length < ds.length := by omega
        have e3 : ¬ i - min off bs.length < ds.length + 1 := by omega
        simp [e, e1, e2, e3]
        congr 1
        omega
theorem setD_ups (bs : List UInt8) (off : Nat) (n : Int) (s k : Nat) (hk : k ≤ s) (h : off + s ≤ bs.length) : setD bs off n s (ups s k) = splice bs off ((List.range k).map (dig n s)) := by
  induction k with
  | zero => simp [ups, setD, splice]
  | succ k ih =>
    rw [ups_succ (by omega), setD_snoc, ih (by omega), List.range_succ, List.map_append, List.map_singleton]
    have hl : ((List.range k).map (dig n s)).length = k := by simp
    have := splice_set bs ((List.range k).map (dig n s)) off (dig n s k) (by rw [hl]; omega)
    rw [hl] at this
    exact this
theorem setD_all (bs : List UInt8) (off : Nat) (n : Int) (s : Nat) (h : off + s ≤ bs.length) : setD bs off n s (ups s s) = splice bs off (digs n s) := setD_ups bs off n s s (Nat.le_refl _) h
theorem row_set (bs : List UInt8) (i : Nat) (x : UInt8) : (row bs).toArray.setIfInBounds i (.int .u8 (x.toNat : Int)) = (row (bs.set i x)).toArray := by
  simp [row, List.map_set]
theorem heap_set {W : World} {g t : Nat} {cs : Array Value} (h : W.heap[g]? = some (.cells cs t (0, 0))) (i : Nat) (v : Value) :
    (W.setCell ⟨g, i, none⟩ v).heap[g]? = some (.cells (cs.setIfInBounds i v) t (0, 0)) := by
  simp [World.setCell, Array.getElem?_modify, h]
theorem heap_frozen {W : World} {g t : Nat} {cs : Array Value} (h : W.heap[g]? = some (.cells cs t (0, 0))) (i : Nat) : W.frozen? ⟨g, i, none⟩ = false := by
  simp [World.frozen?, h]
theorem heap_lt {W : World} {g : Nat} {o : Obj} (h : W.heap[g]? = some o) : g < W.heap.size := (Array.getElem?_eq_some_iff.1 h).1
theorem row_cell {W : World} {g t : Nat} {bs : List UInt8} (h : W.heap[g]? = some (.cells (row bs).toArray t (0, 0))) {i : Nat} (hi : i < bs.length) :
    W.cell? ⟨g, i, none⟩ = some (.int .u8 (byt bs i)) := by
  rw [cell_of_row W g i _ t (0, 0) h]
  simpa using row_get bs hi
theorem grown_then {a w w' : World} {g B : Nat} {r : Option Nat} (h : a.grownBy w (some g)) (hg : w.grownBy w' r) (hB : a.heap.size ≤ B) (hr : ∀ k, r = some k → B ≤ k) : a.grownBy w' (some g) :=
  ⟨hg.os.trans h.os, hg.tape.trans h.tape, hg.output.trans h.output, Nat.le_trans h.size hg.size, fun i hi hne => (hg.block i (Nat.lt_of_lt_of_le hi h.size) (fun e => by have := hr i e.symm; omega)).trans (h.block i hi hne)⟩
theorem grown_set {a w : World} {g : Nat} (h : a.grownBy w (some g)) (i : Nat) (v : Value) : a.grownBy (w.setCell ⟨g, i, none⟩ v) (some g) :=
  ⟨h.os, h.tape, h.output, by simpa [World.setCell] using h.size, fun k hk hne => (Below.heap_setCell w ⟨g, i, none⟩ v k (fun e => hne (by rw [e]))).trans (h.block k hk hne)⟩
theorem grown_below {a w : World} {g : Nat} (h : Below a.heap.size a w) : a.grownBy w (some g) := ⟨h.os, h.tape, h.output, h.size, fun i hi _ => h.block i hi⟩
set_option maxRecDepth 100000 in
set_option maxHeartbeats 2000000 in
theorem write_any (g off s c : Nat) (cur : List UInt8) (n : Int) (w : World) (hg : w.heap[g]? = some (.cells (row cur).toArray 5 (0, 0))) (h4 : s ≤ 4) (hoff : off + s ≤ cur.length) (h0 : 0 ≤ n) :
    Calls Tryz.prog 168 #[.slice (some ⟨g, off, none⟩) s c, .int .i64 n] w
      fun e w' => (∃ v, e = .returned v) ∧ w'.heap[g]? = some (.cells (row (splice cur off (digs n s))).toArray 5 (0, 0)) ∧ w.grownBy w' (some g) := by
  have hgl := heap_lt hg
  refine (callsIn_wide (n := 4)).1 ?_
  refine callsIn_of_wp_marks Tryz.func168 rfl trivial ?_ rfl
  simp only [Tryz.ntmps168, List.size_toArray, List.length_cons, List.length_nil, Nat.reduceAdd, Nat.reduceSub, Array.replicate_succ, Array.replicate_zero, List.push_toArray, List.append_toArray, List.nil_append, List.cons_append]
  gi_wp2_with (refine ⟨trivial, ?_⟩; gi_at_call 184; refine (callsIn_wide.2 (digits_any _ _ _)).mono ?_; rintro e w' ⟨rfl, rfl⟩)
  obtain ⟨W0, hW0⟩ : ∃ W0, ((w.alloc (.cells #[.slice (some ⟨g, off, none⟩) s c] 22)).alloc (.cells #[.int .i64 n] 3)).alloc (.cells #[.int .i64 (s : Int)] 3) = W0 := ⟨_, rfl⟩
  have b0 := ((Boxed.new w 22 (.slice (some ⟨g, off, none⟩) s c)).alloc (.cells #[.int .i64 n] 3)).alloc (.cells #[.int .i64 (s : Int)] 3)
  have b1 := (Boxed.new (w.alloc (.cells #[.slice (some ⟨g, off, none⟩) s c] 22)) 3 (.int .i64 n)).alloc (.cells #[.int .i64 (s : Int)] 3)
  have b2 := Boxed.new ((w.alloc (.cells #[.slice (some ⟨g, off, none⟩) s c] 22)).alloc (.cells #[.int .i64 n] 3)) 3 (.int .i64 (s : Int))
  have hB : Below w.heap.size w W0 := by rw [← hW0]; exact ((((Below.refl _ w).alloc (Nat.le_refl _) _).alloc (by simp) _).alloc (by simp; omega) _)
  have hsz : W0.heap.size = w.heap.size + 3 := by rw [← hW0]; simp
  simp only [World.size_alloc] at b1 b2 ⊢
  rw [hW0] at b0 b1 b2 ⊢
  have hg0 : W0.heap[g]? = some (.cells (row cur).toArray 5 (0, 0)) := (hB.block g hgl).trans hg
  refine wpIn_rangeFunc_ownG rfl (by omega) (gf := 191) (lb := #[.pointer (some ⟨w.heap.size + 1 + 1, 0, none⟩), .pointer (some ⟨w.heap.size + 1, 0, none⟩)]) rfl trivial (enters_of Tryz.func191 (by kernel_rfl) rfl)
    (digits_stops (4 - 1) (by omega) (w.heap.size + 1) n s h0 h4 W0 (by omega) b1.cell b2.cell) Holds.trans (Holds.b (by omega)) (Below.refl _ _) (fun _ => rfl)
    (fun pre W => Boxed W w.heap.size 22 (.slice (some ⟨g, off, none⟩) s c) ∧ W.heap[g]? = some (.cells (row (setD cur off n s pre)).toArray 5 (0, 0)) ∧ w.grownBy W (some g))
    (fun _ _ _ => False)
    (fun pre X Y r hs hgr hr => ⟨Own.from (boxed_own (β := Unit) w.heap.size 22 (fun _ => .slice (some ⟨g, off, none⟩) s c)) W0.heap.size () X Y r hs.1 hgr hr,
      (grownBy_keeps_cells hgr (fun r' e => (hr r' e).2) hs.2.1 rfl).trans hs.2.1, grown_then hs.2.2 hgr (by omega) (fun k e => (hr k e).1)⟩)
    (fun _ _ _ _ _ hs _ _ => hs)
    ⟨b0, hg0, grown_below hB⟩
    (fun x => { tmps := #[.slice (some ⟨g, off, none⟩) s c, .int .i64 n, .pointer (some ⟨w.heap.size, 0, none⟩), undef, .int .i64 (x.1 : Int), .int .u8 ((dig n s x.1).toNat : Int), .int .i64 n, .slice (some ⟨g, off, none⟩) s c, .int .i64 (s : Int), .func (.func 191) #[] #[.pointer (some ⟨w.heap.size + 1 + 1, 0, none⟩), .pointer (some ⟨w.heap.size + 1, 0, none⟩)], .int .i64 (x.1 : Int), .int .u8 ((dig n s x.1).toNat : Int), undef, undef, undef, undef], defers := [] }) ?assign ?body ?done ?stop
  case assign =>
    intro l x W K hK
    dsimp only [encD]
    gi_wp2
    exact hK
  case body =>
    rintro l pre ⟨i, hi⟩ W ⟨hb, hgw, hgr⟩ hlt
    have hL := setD_length cur off n s pre
    have hcell := row_cell hgw (i := off + i) (by omega)
    have hfz := heap_frozen hgw (off + i)
    have hbc := hb.cell
    gi_wp2
    refine ⟨(KeepsOthers.setCell _ _ _).from _, Holds.setCell (.inl (by simp; omega)) _, hb.kept (grown_set (World.grownBy.refl W (some g)) (off + i) _) (by simp; omega), ?_, grown_set hgr _ _⟩
    rw [heap_set hgw, row_set, setD_snoc]
  case done =>
    rintro D ys W hD rfl ⟨hb, hgw, hgr⟩ hK
    gi_wp2
    refine ⟨by simp, .inl ⟨_, _, rfl, run_takeDeferred hK, ?_⟩⟩
    refine ⟨_, results_none rfl _ _ _, ⟨_, rfl⟩, ?_, ?_⟩
    · rw [← setD_all cur off n s hoff]
      exact (World.putObj_heap_other (by omega)).trans hgw
    · exact grown_then hgr (grownBy_putObj' W D _) (B := W0.heap.size) (by omega) (fun k e => by cases e; exact hD)
  case stop =>
    rintro D c pre W _ _ h _
    exact h.elim
def Made (w w' : World) (v : Value) (bs : List UInt8) : Prop :=
  ∃ A c, v = .slice A bs.length c ∧ bs.length ≤ c ∧ Rd w' w'.heap.size A bs ∧ w'.ownsRow w.heap.size 5 1 v bs.length (row bs) ∧ Below w.heap.size w w'
theorem Made.of_own {w w' : World} {v : Value} {bs : List UInt8} (h : w'.ownsRow w.heap.size 5 1 v bs.length (row bs)) (hb : Below w.heap.size w w') : Made w w' v bs := by
  have h' := h
  rcases h'.2 with ⟨rfl, h0⟩ | ⟨g, cap, cur, rfl, _, _, hle, _⟩
  · obtain rfl : bs = [] := List.eq_nil_of_length_eq_zero h0
    exact ⟨none, 0, rfl, Nat.le_refl _, Rd.nil, h, hb⟩
  · exact ⟨_, cap, rfl, hle, Rd.of_own rfl h, h, hb⟩
theorem Made.nil (w w' : World) (hb : Below w.heap.size w w') : Made w w' (.slice none 0 0) [] := Made.of_own (World.ownsRow_nil _ _ _ _) hb
theorem own_of_block {w : World} {base g t : Nat} {bs : List UInt8} (hb : base ≤ g) (h : w.heap[g]? = some (.cells (row bs).toArray t (0, 0))) (hm : bs.length ≤ 1099511627780) :
    w.ownsRow base t 1 (.slice (some ⟨g, 0, none⟩) bs.length bs.length) bs.length (row bs) :=
  ⟨by simp [row_length], .inr ⟨g, bs.length, (row bs).toArray, rfl, hb, h, Nat.le_refl _, by unfold maxLen; omega, by simp [row_length], by rw [Nat.mul_one, List.take_of_length_le (by simp [row_length])]⟩⟩
def putB (bs : List UInt8) (n s : Int) : List UInt8 := if fitsB n s then bs ++ digs n s.toNat else bs
theorem splice_end (bs : List UInt8) (k : Nat) (ds : List UInt8) (h : ds.length = k) : splice (pad bs (bs.length + k)) bs.length ds = bs ++ ds := by
  simp [splice, pad, ← h]
set_option maxHeartbeats 1000000 in
theorem put_any (A : Option Addr) (bs : List UInt8) (c B : Nat) (n s : Int) (w : World) (h : Rd w B A bs) (hB : B ≤ w.heap.size) (hl : bs.length ≤ 1099511627000) :
    Calls Tryz.prog 148 #[.slice A bs.length c, .int .i64 n, .int .i64 s] w fun e w' => ∃ v, e = .returned v ∧ Made w w' v (putB bs n s) := by
  by_cases hf : fitsB n s = true
  · have hf' := fitsB_iff.1 hf
    obtain ⟨k, rfl⟩ := Int.eq_ofNat_of_zero_le (show 0 ≤ s by omega)
    rw [show putB bs n k = bs ++ digs n k from by simp [putB, hf]]
    have hpl := pad_length (bs := bs) (n := bs.length + k) (by omega)
    have Hpl := Lib.hid hpl
    have Hdl := Lib.hid (digs_length n k)
    clear hpl
    go_enter Tryz.func148, Tryz.ntmps148
    go_wp2_with (first
      | (go_at_call 67; refine (fits_any _ _ _).mono ?_; rintro e w' ⟨rfl, rfl⟩)
      | (go_at_call 163; refine (roomy_any A bs c B (bs.length + k) _ h hB (by omega) (by omega)).mono ?_; rintro e w1 ⟨rfl, hg1, hb1⟩)
      | (go_at_call 94; refine (cut_any w.heap.size 0 (bs.length + k) (bs.length + k) bs.length k _ (by omega) (by omega) (by omega) (by omega)).mono ?_; rintro e w' ⟨rfl, rfl⟩)
      | (go_at_call 168; refine (write_any w.heap.size _ k k (pad bs (bs.length + k)) n _ hg1 (by omega) (by rw [Hpl.out]; omega) (by omega)).mono ?_; rintro e w2 ⟨⟨v, rfl⟩, hg2, hgr2⟩))
    go_ret
    refine ⟨_, rfl, Made.of_own ?_ ?_⟩
    · have e : (bs ++ digs n k).length = bs.length + k := by rw [List.length_append, Hdl.out]
      rw [splice_end bs k _ Hdl.out] at hg2
      have := own_of_block (Nat.le_refl _) hg2 (by rw [e]; omega)
      rw [e] at this ⊢
      exact this
    · exact hb1.grown hgr2 (by have := hb1.size; omega) (fun k e => by cases e; exact Nat.le_refl _)
  · have hf0 : fitsB n s = false := by simpa using hf
    rw [show putB bs n s = bs from by simp [putB, hf0]]
    have e := Lib.hid (show pad bs bs.length = bs from by simp [pad])
    go_enter Tryz.func148, Tryz.ntmps148
    go_wp2_with (first
      | (go_at_call 67; refine (fits_any _ _ _).mono ?_; rintro e w' ⟨rfl, rfl⟩)
      | (go_at_call 163; refine (roomy_any A bs c B bs.length _ h hB (by omega) (by omega)).mono ?_; rintro e w1 ⟨rfl, hg1, hb1⟩))
    go_ret
    rw [e.out] at hg1
    exact ⟨_, rfl, Made.of_own (own_of_block (Nat.le_refl _) hg1 (by omega)) hb1⟩
def setE (len : Nat) (at_ n s : Int) : Int := if fitsB n s then getE len at_ s else 1
def setB (bs : List UInt8) (at_ n s : Int) : List UInt8 := if fitsB n s ∧ 0 ≤ at_ ∧ at_ ≤ (bs.length : Int) - s then splice bs at_.toNat (digs n s.toNat) else []
set_option maxHeartbeats 1000000 in
theorem set_any (A : Option Addr) (bs : List UInt8) (c B : Nat) (at_ n s : Int) (w : World) (h : Rd w B A bs) (hB : B ≤ w.heap.size) (hl : bs.length ≤ 1099511627000) :
    Calls Tryz.prog 167 #[.slice A bs.length c, .int .i64 at_, .int .i64 n, .int .i64 s] w
      fun e w' => ∃ v, e = .returned (.tuple #[v, .int .i64 (setE bs.length at_ n s)]) ∧ Made w w' v (setB bs at_ n s) := by
  by_cases hf : fitsB n s = true
  · have hf' := fitsB_iff.1 hf
    by_cases h0 : 0 ≤ at_
    · by_cases hr : at_ ≤ (bs.length : Int) - s
      · obtain ⟨k, rfl⟩ := Int.eq_ofNat_of_zero_le (show 0 ≤ s by omega)
        obtain ⟨a, rfl⟩ := Int.eq_ofNat_of_zero_le h0
        rw [show setB bs a n k = splice bs a (digs n k) from by rw [setB, if_pos ⟨hf, h0, hr⟩]; simp, show setE bs.length a n k = 0 from by rw [setE, if_pos hf, getE_ok ⟨hf'.1, hf'.2.1, h0⟩ hr]]
        have e := Lib.hid (show pad bs bs.length = bs from by simp [pad])
        have Hdl := Lib.hid (digs_length n k)
        have hd : decide ((a : Int) ≤ (bs.length : Int) - (k : Int)) = true := by simpa using hr
        go_enter Tryz.func167, Tryz.ntmps167
        go_wp2_with (first
          | (go_at_call 67; refine (fits_any _ _ _).mono ?_; rintro e w' ⟨rfl, rfl⟩)
          | (go_at_call 92; refine (holds_any _ _ _ _ _ _ (by omega) (by omega) (by omega)).mono ?_; rintro e w' ⟨rfl, rfl⟩)
          | (go_at_call 163; refine (roomy_any A bs c B bs.length _ h hB (by omega) (by omega)).mono ?_; rintro e w1 ⟨rfl, hg1, hb1⟩)
          | (go_at_call 94; refine (cut_any w.heap.size 0 bs.length bs.length a k _ (by omega) (by omega) (by omega) (by omega)).mono ?_; rintro e w' ⟨rfl, rfl⟩)
          | (go_at_call 168; refine (write_any w.heap.size _ k k bs n _ (by rw [e.out] at hg1; exact hg1) (by omega) (by omega) (by omega)).mono ?_; rintro e w2 ⟨⟨v, rfl⟩, hg2, hgr2⟩))
        go_ret2
        refine ⟨_, rfl, Made.of_own ?_ (hb1.grown hgr2 (by have := hb1.size; omega) (fun k e => by cases e; exact Nat.le_refl _))⟩
        have e2 : (splice bs a (digs n k)).length = bs.length := length_splice _ _ _ (by rw [Hdl.out]; omega)
        have := own_of_block (Nat.le_refl _) hg2 (by rw [e2]; omega)
        rw [e2] at this ⊢
        exact this
      · rw [show setB bs at_ n s = [] from by rw [setB, if_neg (by omega)], show setE bs.length at_ n s = 3 from by rw [setE, if_pos hf, getE_short ⟨hf'.1, hf'.2.1, h0⟩ hr]]
        have hd : decide (at_ ≤ (bs.length : Int) - s) = false := by simpa using hr
        go_enter Tryz.func167, Tryz.ntmps167
        go_wp2_with (first
          | (go_at_call 67; refine (fits_any _ _ _).mono ?_; rintro e w' ⟨rfl, rfl⟩)
          | (go_at_call 92; refine (holds_any _ _ _ _ _ _ (by omega) (by omega) (by omega)).mono ?_; rintro e w' ⟨rfl, rfl⟩))
        go_ret2
        exact ⟨_, rfl, Made.nil _ _ (Below.refl _ _)⟩
    · rw [show setB bs at_ n s = [] from by rw [setB, if_neg (by omega)], show setE bs.length at_ n s = 1 from by rw [setE, if_pos hf, getE_arg (by omega)]]
      have hd : decide (at_ < 0) = true := by simp; omega
      go_enter Tryz.func167, Tryz.ntmps167
      go_wp2_with (go_at_call 67; refine (fits_any _ _ _).mono ?_; rintro e w' ⟨rfl, rfl⟩)
      go_ret2
      exact ⟨_, rfl, Made.nil _ _ (Below.refl _ _)⟩
  · have hf0 : fitsB n s = false := by simpa using hf
    rw [show setB bs at_ n s = [] from by rw [setB, if_neg (by simp [hf0])], show setE bs.length at_ n s = 1 from by simp [setE, hf0]]
    go_enter Tryz.func167, Tryz.ntmps167
    go_wp2_with (go_at_call 67; refine (fits_any _ _ _).mono ?_; rintro e w' ⟨rfl, rfl⟩)
    go_ret2
    exact ⟨_, rfl, Made.nil _ _ (Below.refl _ _)⟩
end Go.Proofs.YtpoigngpdcmipaaGreat
namespace Go.Proofs.YtpoigngpdcmipaaGreat
open Go.RowKit
theorem Rd.src {w : World} {B : Nat} {ad : Addr} {bs : List UInt8} (h : Rd w B (some ad) bs) : ∀ j v, (row bs)[j]? = some v → w.cell? (ad.add j) = some v := fun j v hv => by
  have hj : j < bs.length := by have := (List.getElem?_eq_some_iff.1 hv).1; rwa [row_length] at this
  obtain ⟨b, off, e, _, hc⟩ := h (by omega)
  injection e with e
  subst e
  rw [row_getD bs hj hv, add_off]; exact hc j hj
theorem append_rd {w : World} {ops : Array Oper} {rest : List Oper} {o : Oper} {a : Act} {Q : Exit → Act → World → Prop} (hgd : o.guard = none) (s x : Operand)
    (ho : o.op = .call { callee := .builtin .append, args := #[s, x], argTypes := #[22, 22] })
    (base : Nat) (v : Value) (n : Nat) (xs : List Value) (hs : a.eval s = v) (hown : w.ownsRow base 5 1 v n xs)
    (B : Nat) (A : Option Addr) (c : Nat) (bs : List UInt8) (hx : a.eval x = .slice A bs.length c) (hA : A = none → c = 0) (hr : Rd w B A bs)
    (hlen : n + bs.length ≤ 2199023255552) (hbase : base ≤ w.heap.size)
    (h : ∀ v' w', w'.ownsRow base 5 1 v' (n + bs.length) (xs ++ row bs) → w.grownBy w' v.ownBlock → wpList Tryz.prog ops Q rest (a.put o.dst v') w') : wpList Tryz.prog ops Q (o :: rest) a w := by
  obtain ⟨i0, hi, hz0, hz1, hz2⟩ := info_parts info_u8
  rcases A with _ | ad
  · have h0 : bs = [] := by
      rcases Nat.eq_zero_or_pos bs.length with e | e
      · exact List.eq_nil_of_length_eq_zero e
      · obtain ⟨_, _, e', _⟩ := hr e; cases e'
    subst h0
    obtain rfl := hA rfl
    exact wpList_append_own_none hgd s x 22 ho base 5 i0 1 Tryz.underlying22 hi v n xs hs hown hx (h v w (by simpa [row] using hown) (World.grownBy.refl w _))
  · exact wpList_append_own w hgd s x 22 ho base 5 i0 (.int .u8 0) 1 1 Tryz.underlying22 hi hz0 hz1 hz2 rfl (by decide) v n xs hs hown ad bs.length c (row bs) hx
      (by rw [row_length, Nat.mul_one]) hr.src (row_one bs) (by unfold maxLen; omega) (by omega) hbase (fun v' w' h1 h2 _ => h v' w' h1 h2)
theorem own_block_ge {w : World} {base e size n : Nat} {v : Value} {xs : List Value} (h : w.ownsRow base e size v n xs) : ∀ k, v.ownBlock = some k → base ≤ k := by
  intro k hk
  rcases h.2 with ⟨rfl, _⟩ | ⟨g, cap, cur, rfl, hb, _⟩
  · simp [Value.ownBlock] at hk
  · simp [Value.ownBlock] at hk; omega
set_option maxHeartbeats 1000000 in
theorem clone_any (A : Option Addr) (bs : List UInt8) (c B : Nat) (w : World) (h : Arg w B A c bs) (hB : B ≤ w.heap.size) (hl : bs.length ≤ 1099511627776) :
    Calls Tryz.prog 36 #[.slice A bs.length c] w fun e w' => ∃ v, e = .returned v ∧ Made w w' v bs := by
  have q22 : ∀ (w : World) (a : Option Addr) (n c n' c' : Nat), (binOp .eql 22 (.slice a n c) (.slice none n' c')).run Tryz.prog w = .ok (.bool a.isNone) w := fun w a n c n' c' => Lib.run_eql_slice_nil w _ _ a n c n' c' Tryz.underlying22
  rcases A with _ | ad
  · have h0 : bs = [] := by
      rcases Nat.eq_zero_or_pos bs.length with e | e
      · exact List.eq_nil_of_length_eq_zero e
      · obtain ⟨_, _, e', _⟩ := h.rd e; cases e'
    subst h0
    go_enter Tryz.func36, Tryz.ntmps36
    go_wp2
    go_ret
    exact ⟨_, rfl, Made.nil _ _ (Below.refl _ _)⟩
  · have hr := h.rd
    have hn := h.none_
    go_enter Tryz.func36, Tryz.ntmps36
    go_wp2_with (at_builtin; refine append_rd rfl _ _ rfl w.heap.size _ _ _ rfl (World.ownsRow_made w #[] 0 (Nat.le_refl _) (Nat.zero_le _) rfl) B (some ad) c bs rfl hn (hr.alloc hB _) (by omega) (by simp) ?_; intro v' w1 hown hgrow)
    go_ret
    refine ⟨_, rfl, Made.of_own (by simpa using hown) (((Below.refl _ w).alloc (Nat.le_refl _) _).grown hgrow (by simp) (fun k hk => own_block_ge (World.ownsRow_made (base := w.heap.size) (e := 5) (size := 1) w #[] 0 (Nat.le_refl _) (Nat.zero_le _) rfl) k hk))⟩
theorem conv_any (A : Option Addr) (bs : List UInt8) (c B : Nat) (w : World) (h : Rd w B A bs) :
    (convert 22 9 (.slice A bs.length c)).run Tryz.prog w = .ok (.string (strB bs)) w := by
  rcases Nat.eq_zero_or_pos bs.length with h0 | h0
  · obtain rfl : bs = [] := List.eq_nil_of_length_eq_zero h0
    rw [List.length_nil, run_convert_bytes_string w 22 9 5 _ 0 c Tryz.underlying22 Tryz.underlying5 Tryz.underlying9]
    cases A <;> simp [Conv.bytesToString, loadCells] <;> rfl
  · obtain ⟨b, off, rfl, _, hc⟩ := h h0
    have := run_convert_bytes_arg (P := Tryz.prog) w 22 5 Tryz.underlying22 Tryz.underlying5 b off bs.length c (bs.map fun x => (x.toNat : Int)) (by simp)
      (fun i hi => by rw [hc i hi]; simp [byt, hi]) 9 Tryz.underlying9
    rw [this]
    simp [strOfNums, strB, Function.comp_def]
theorem equal_any (A A' : Option Addr) (xs bs : List UInt8) (c c' B B' : Nat) (w : World) (h : Rd w B A xs) (h' : Rd w B' A' bs) :
    Calls Tryz.prog 187 #[.slice A xs.length c, .slice A' bs.length c'] w fun e w' => e = .returned (.bool (decide (xs = bs))) ∧ w = w' := by
  have h1 := conv_any A xs c B w h
  have h2 := conv_any A' bs c' B' w h'
  rw [← strB_eq]
  clear h h'
  go_enter Tryz.func187, Tryz.ntmps187
  go_wp2
  go_ret
  exact ⟨rfl, rfl⟩
end Go.Proofs.YtpoigngpdcmipaaGreat
namespace Go.Proofs.YtpoigngpdcmipaaGreat
open Go.RowKit Go.Shelf
attribute [local go_sem] Oper.semAt_some
def wrd (bs : List UInt8) (i : Nat) : Int := byt bs (2 * i) * 256 + byt bs (2 * i + 1)
def dbl (i : Nat) : Int := ((2 * i : Nat) : Int)
theorem byt_beyond {bs : List UInt8} {j : Nat} (h : bs.length ≤ j) : byt bs j = 0 := by simp [byt, List.getElem?_eq_none h]
theorem wrd_bd (bs : List UInt8) (i : Nat) : 0 ≤ wrd bs i ∧ wrd bs i ≤ 65535 := by
  have := byt_lo bs (2 * i); have := byt_lo bs (2 * i + 1); have := byt_hi bs (2 * i); have := byt_hi bs (2 * i + 1)
  unfold wrd; omega
def encW (bs : List UInt8) (i : Nat) : Array Value := #[.int .i64 (dbl i), .int .i64 (wrd bs i)]
def prs (n : Nat) : Nat := (n + 1) / 2
theorem byt_pad (bs : List UInt8) (n j : Nat) : byt (pad bs n) j = byt bs j := by
  unfold byt pad
  by_cases h : j < bs.length
  · rw [List.getElem?_append_left h]
  · rw [List.getElem?_append_right (by omega), List.getElem?_eq_none (l := bs) (by omega)]
    by_cases h2 : j - bs.length < n - bs.length
    · rw [List.getElem?_replicate, if_pos h2]; rfl
    · rw [List.getElem?_replicate, if_neg h2]
theorem num_two (bs : List UInt8) (h : bs.length = 2) : num bs = byt bs 0 * 256 + byt bs 1 := by
  match bs, h with
  | [x, y], _ => simp [num, byt]
theorem word_any (b j i c : Nat) (bs : List UInt8) (n : Nat) (w : World) (hj : j = 2 * i) (hs : j + 2 ≤ (pad bs n).length)
    (hc : ∀ j, j < (pad bs n).length → w.cell? ⟨b, j, none⟩ = some (.int .u8 (byt (pad bs n) j))) :
    Calls Tryz.prog 93 #[.slice (some ⟨b, j, none⟩) 2 c] w fun e w' => e = .returned (.int .i64 (wrd bs i)) ∧ w = w' := by
  have h := number_cut b 0 j 2 c (b + 1) (pad bs n) w hs (by omega) (Nat.lt_succ_self b) (by simpa using hc)
  have e : num (((pad bs n).drop j).take 2) = wrd bs i := by
    rw [num_two _ (len_cut hs), byt_cut _ _ _ (by omega), byt_cut _ _ _ (by omega), byt_pad, byt_pad, Nat.add_zero, wrd, hj]
  rw [Nat.zero_add, e] at h
  exact h
set_option maxRecDepth 100000 in
set_option maxHeartbeats 2000000 in
theorem words1_in (m : Nat) (hm : 1 ≤ m) (l lo hi Bs g n : Nat) (bs : List UInt8) (hn : n = 2 * prs bs.length) (hl : bs.length ≤ 1099511627000) (hBs : lo ≤ Bs ∧ Bs < hi) (hg : lo ≤ g ∧ g < hi) (J Jx : List Nat → World → Prop)
    (hY : ∀ pre x W, J pre W → pre.length < prs bs.length → YieldAt Fence.wide (m - 1) Tryz.prog l (encW bs x) W fun e W' =>
      (e = .returned (.bool true) ∧ J (pre ++ [x]) W' ∧ Holds lo hi W W') ∨ (e = .returned (.bool false) ∧ Jx (pre ++ [x]) W'))
    (W : World) (hb : W.cell? ⟨Bs, 0, none⟩ = some (.slice (some ⟨g, 0, none⟩) n n)) (hc : W.heap[g]? = some (.cells (row (pad bs n)).toArray 5 (0, 0))) (hJ : J [] W) :
    CallsIn Fence.wide m Tryz.prog 164 #[.func (.yield l) #[] #[], .pointer (some ⟨Bs, 0, none⟩)] W fun e W' => (∃ v, e = .returned v) ∧
      ((∃ ys, ys = List.range (prs bs.length) ∧ J ys W') ∨ (∃ pre, (∃ k, k ≤ prs bs.length ∧ pre = List.range k) ∧ Jx pre W')) := by
  have hpl : (pad bs n).length = n := pad_length (by unfold prs at hn; omega)
  have Hpl := Lib.hid hpl
  clear hpl
  have hn2 : n ≤ 1099511627776 := by unfold prs at hn; omega
  have Hn := Lib.hid hn
  clear hn
  refine callsIn_of_wp Tryz.func164 rfl trivial ?_ rfl
  simp only [Tryz.ntmps164, List.size_toArray, List.length_cons, List.length_nil, Nat.reduceAdd, Nat.reduceSub, Array.replicate_succ, Array.replicate_zero, List.push_toArray, List.append_toArray, List.nil_append, List.cons_append]
  gi_wp2
  gi_loopw [3] (fun i wr => ∃ j k : Nat, Hid (j = 2 * k) ∧ j ≤ n ∧ i = .int .i64 (j : Int) ∧ J (List.range k) wr ∧ Holds lo hi W wr)
    (fun i _ => n - (intOf i).toNat)
  case atStart => exact ⟨0, 0, Lib.hid rfl, Nat.zero_le _, rfl, hJ, Holds.refl _ _ _⟩
  case round =>
    obtain ⟨j, k, Hj, hk, rfl, hJs, hH⟩ := hrel
    have hb' := (hH.cell (p := ⟨Bs, 0, none⟩) hBs.1 hBs.2).trans hb
    have hc' := (hH.2 g hg.1 hg.2).trans hc
    by_cases hlt : j < n
    · have hj2 : j + 2 ≤ n := by have := Hj.out; have := Hn.out; omega
      have hkl : k < prs bs.length := by have := Hj.out; have := Hn.out; omega
      have Hcell := Lib.hid (fun (i : Nat) (hi : i < (pad bs n).length) => row_cell hc' hi)
      clear hc'
      obtain ⟨fn, tmps, assign, body, hy, hR⟩ := hY _ k wr hJs (by simpa using hkl)
      dsimp only [encW] at hy
      rw [show dbl k = (j : Int) from by rw [dbl, ← Hj.out]] at hy
      gi_wp2_with (first
        | (refine ⟨trivial, ?_⟩; gi_at_call 94; refine (callsIn_wide.2 (cut_any g 0 n n j 2 _ (by omega) (by omega) (by omega) (by omega))).mono ?_; rintro e w' ⟨rfl, rfl⟩)
        | (refine ⟨trivial, ?_⟩; gi_at_call 93; refine (callsIn_wide.2 (word_any g j k _ bs n _ Hj.out (by rw [Hpl.out]; omega) Hcell.out)).mono ?_; rintro e w' ⟨rfl, rfl⟩))
      refine hR.mono ?_
      rintro e W3 (⟨rfl, hJ3, hk3⟩ | ⟨rfl, hJx3⟩)
      · gi_wp2
        go_roundw
        case rel => exact ⟨j + 2, k + 1, Lib.hid (by have := Hj.out; omega), by omega, by simp, by rw [List.range_succ]; exact hJ3, hH.trans hk3⟩
        case measure => simp [intOf]; omega
      · gi_wp2
        refine bodyPost_ret (results_none rfl _ _ _) rfl ?_
        exact ⟨⟨_, rfl⟩, .inr ⟨_, ⟨k + 1, by omega, List.range_succ.symm⟩, hJx3⟩⟩
    · obtain rfl : j = n := by omega
      gi_wp2
      go_end0
      exact ⟨⟨_, rfl⟩, .inl ⟨_, rfl, by have := Hj.out; have := Hn.out; rwa [show prs bs.length = k from by omega]⟩⟩
theorem roomy_v (A : Option Addr) (bs : List UInt8) (c B n : Nat) (v : Int) (hv : v = (n : Int)) (w : World) (h : Rd w B A bs) (hB : B ≤ w.heap.size) (hl : bs.length ≤ n) (hn : n ≤ 1099511627776) :
    Calls Tryz.prog 163 #[.slice A bs.length c, .int .i64 v] w
      fun e w' => e = .returned (.slice (some ⟨w.heap.size, 0, none⟩) n n) ∧ w'.heap[w.heap.size]? = some (.cells (row (pad bs n)).toArray 5 (0, 0)) ∧ Below w.heap.size w w' := by
  subst hv; exact roomy_any A bs c B n w h hB hl hn
theorem words_any (A : Option Addr) (bs : List UInt8) (c B : Nat) (w : World) (h : Rd w B A bs) (hB : B ≤ w.heap.size) (hl : bs.length ≤ 1099511627000) :
    Calls Tryz.prog 140 #[.slice A bs.length c] w fun e w' => ∃ Bs, e = .returned (.func (.func 164) #[] #[.pointer (some ⟨Bs, 0, none⟩)]) ∧ Below w.heap.size w w' ∧
      (∀ m, 1 ≤ m → SeqStopsK Fence.wide m Tryz.prog 164 #[.pointer (some ⟨Bs, 0, none⟩)] (encW bs) (Holds w.heap.size w'.heap.size)
        (fun ys => ys = List.range (prs bs.length)) (fun pre => ∃ k, k ≤ prs bs.length ∧ pre = List.range k) (prs bs.length) w') := by
  obtain ⟨n, hn⟩ : ∃ n, n = 2 * prs bs.length := ⟨_, rfl⟩
  have hn' : bs.length + bs.length % 2 = n := by unfold prs at hn; omega
  have Hn := Lib.hid hn
  have Hn' := Lib.hid hn'
  have hle : bs.length ≤ n := by omega
  have hle2 : n ≤ 1099511627776 := by omega
  clear hn hn'
  go_enter Tryz.func140, Tryz.ntmps140
  go_wp2_with (go_at_call 163; refine (roomy_v A bs c B n _ (by have := Hn'.out; omega) _ h hB hle hle2).mono ?_; rintro e w1 ⟨rfl, hg1, hb1⟩)
  go_ret
  have hbx := Boxed.new w1 22 (.slice (some ⟨w.heap.size, 0, none⟩) n n)
  have hb2 : Below w.heap.size w (w1.alloc (.cells #[.slice (some ⟨w.heap.size, 0, none⟩) n n] 22)) := hb1.alloc hb1.size _
  have hlt := heap_lt hg1
  refine ⟨w1.heap.size, rfl, hb2, fun m hm l J Jx W hW _ _ hY hJ => ?_⟩
  have hs : (w1.alloc (.cells #[.slice (some ⟨w.heap.size, 0, none⟩) n n] 22)).heap.size = w1.heap.size + 1 := by simp
  refine words1_in m hm l w.heap.size _ w1.heap.size w.heap.size n bs Hn.out hl ⟨hb1.size, by rw [hs]; omega⟩ ⟨Nat.le_refl _, by rw [hs]; omega⟩ J Jx hY W ?_ ?_ hJ
  · exact (hW.cell (p := ⟨w1.heap.size, 0, none⟩) (by rw [hs]; simp)).trans hbx.cell
  · exact (hW.block _ (by rw [hs]; omega)).trans ((Below.heap_alloc _ _ _ hlt).trans hg1)
end Go.Proofs.YtpoigngpdcmipaaGreat
namespace Go.Proofs.YtpoigngpdcmipaaGreat
open Go.RowKit
theorem rword_any (A : Option Addr) (bs : List UInt8) (c B i : Nat) (w : World) (h : Rd w B A bs) (hi : i < bs.length) (hl : bs.length ≤ 1099511627776) :
    Calls Tryz.prog 105 #[.slice A bs.length c, .int .i64 (i : Int)] w
      fun e w' => e = .returned (.int .i64 (byt bs i * 256 + byt bs (i + 1))) ∧ ∃ n, w' = w.drewN n := by
  obtain ⟨b, off, rfl, _, hc⟩ := h (by omega)
  have h0 := hc i hi
  have l0 := byt_lo bs i
  have u0 := byt_hi bs i
  by_cases h2 : i + 1 < bs.length
  · have h1 := hc (i + 1) h2
    have l1 := byt_lo bs (i + 1)
    have u1 := byt_hi bs (i + 1)
    rw [← Nat.add_assoc] at h1
    clear hc h
    generalize byt bs i = x at *
    generalize byt bs (i + 1) = y at *
    go_enter Tryz.func105, Tryz.ntmps105
    go_wp2
    have s1 : IntKind.i64.wrap ((i : Int) + 1) = (i : Int) + 1 := IntWalk.i64_in _ (by omega)
    have s2 : (0 : Int) ≤ (i : Int) + 1 := by omega
    have s3 : ((i : Int) + 1).toNat = i + 1 := by omega
    have s4 : IntKind.i64.wrap (x * 256) = x * 256 := IntWalk.i64_in _ (by omega)
    have s5 : IntKind.i64.wrap (x * 256 + y) = x * 256 + y := IntWalk.i64_in _ (by omega)
    have h1' : w.cell? ⟨b, off + (i + 1), none⟩ = some (.int .u8 y) := by rw [← Nat.add_assoc]; exact h1
    go_quiet (fail)
    clear s1 s2 s3 s4 s5
    go_wp2
    go_ret
    exact ⟨rfl, nq, rfl⟩
  · have e : byt bs (i + 1) = 0 := byt_beyond (by omega)
    rw [e]
    clear hc h e
    generalize byt bs i = x at *
    go_enter Tryz.func105, Tryz.ntmps105
    go_wp2
    go_ret
    exact ⟨ret_int (by omega), 0, rfl⟩
theorem Rd.one {W : World} {v : Int} {x : UInt8} (t : TypeId) (h : v = (x.toNat : Int)) : Rd (W.alloc (.cells #[.int .u8 v] t)) (W.heap.size + 1) (some ⟨W.heap.size, 0, none⟩) [x] :=
  Rd.of_block (g := W.heap.size) (World.alloc_heap_new W _) (Nat.lt_succ_self _) 0 (fun j hj => by
    have : j = 0 := by simpa using hj
    subst this; simp [h, byt])
theorem dig_wrap {n : Int} (h : 0 ≤ n) (s i : Nat) : n / pw (s - 1 - i) % 256 = ((dig n s i).toNat : Int) := (dig_val h s i).symm
set_option maxHeartbeats 1000000 in
theorem rput_any (A : Option Addr) (bs : List UInt8) (c B : Nat) (n s : Int) (w : World) (h : Arg w B A c bs) (hl : bs.length ≤ 1099511627000) :
    Calls Tryz.prog 39 #[.slice A bs.length c, .int .i64 n, .int .i64 s] w fun e w' => ∃ v, e = .returned v ∧ Made w w' v (putB bs n s) := by
  have hr := h.rd
  have hn := h.none_
  by_cases hf : fitsB n s = true
  · have hf' := fitsB_iff.1 hf
    obtain ⟨k, rfl⟩ := Int.eq_ofNat_of_zero_le (show 0 ≤ s by omega)
    rw [show putB bs n k = bs ++ digs n k from by simp [putB, hf]]
    have h0 : 0 ≤ n := hf'.2.2.1
    have hnu : n < pw k := by simpa using hf'.2.2.2
    have hpl := pw_le (k := k) (by omega)
    go_enter Tryz.func39, Tryz.ntmps39
    go_wp2_with (first
      | (go_at_call 70; refine (rfits_any _ _ _).mono ?_; rintro e w' ⟨rfl, rfl⟩)
      | (at_builtin; refine append_rd rfl _ _ rfl w.heap.size _ _ _ rfl (World.ownsRow_nil _ _ _ _) B A c bs rfl hn hr (by omega) (Nat.le_refl _) ?_; intro v1 w1 hown hgrow))
    have hb1 : Below w.heap.size w w1 := (Below.refl _ w).grown hgrow (Nat.le_refl _) (fun k hk => by cases (show (none : Option Nat) = some k from hk))
    simp only [List.nil_append, Nat.zero_add] at hown
    clear hr hn h hf
    go_loopw [7, 8] (fun v i wr => ∃ (j : Nat) (q : Int), j ≤ k ∧ i = .int .i64 q ∧ Hid (q = (k : Int) - 1 - (j : Int)) ∧ q ≤ 3 ∧ -1 ≤ q ∧ Below w.heap.size w wr ∧
        wr.ownsRow w.heap.size 5 1 v (bs.length + j) (row (bs ++ (List.range j).map (dig n k)))) (fun _ i _ => (intOf i + 1).toNat)
    case atStart => exact ⟨0, _, Nat.zero_le _, rfl, Lib.hid (by omega), by omega, by omega, hb1, by simpa using hown⟩
    case round =>
      obtain ⟨j, q, hj, rfl, Hq, hq3, hq1, hb, hown2⟩ := hrel
      by_cases hq : 0 ≤ q
      · obtain ⟨m, rfl⟩ := Int.eq_ofNat_of_zero_le hq
        have p1 := pw_pos m
        have hE : Hid (n / pw m % 256 = ((dig n k j).toNat : Int)) := by
          have := Hq.out
          rw [show m = k - 1 - j from by omega]; exact Lib.hid (dig_wrap h0 k j)
        have hsz := hb.size
        have hd0 : 0 ≤ n / pw m := Int.ediv_nonneg h0 (by omega)
        go_wp2_with (first
          | (go_at_call 71; refine (pow_any _ _ (by omega)).mono ?_; rintro e w' ⟨rfl, rfl⟩)
          | (at_builtin; go_loud (refine append_rd rfl _ _ rfl w.heap.size _ _ _ rfl (hown2.alloc _) (wr.heap.size + 1) (some ⟨wr.heap.size, 0, none⟩) 1 [dig n k j] rfl (by simp) (Rd.one 5 hE.out) (by simp; omega) (by simp; omega) ?_); intro v3 w3 hown3 hgrow3))
        go_roundw
        case rel =>
          refine ⟨j + 1, _, by have := Hq.out; omega, rfl, Lib.hid (by have := Hq.out; omega), by omega, by omega, (hb.alloc hsz _).grown hgrow3 (Nat.le_trans hsz (by simp)) (fun k hk => own_block_ge hown2 k hk), ?_⟩
          have e : row (bs ++ List.map (dig n k) (List.range (j + 1))) = row (bs ++ List.map (dig n k) (List.range j)) ++ row [dig n k j] := by
            rw [← row_append, List.append_assoc, List.range_succ, List.map_append, List.map_singleton]
          rw [e]; exact hown3
        case measure => simp [intOf]
      · go_wp2
        go_ret
        have hjk : j = k := by have := Hq.out; omega
        subst hjk
        exact ⟨_, rfl, Made.of_own (by rw [List.length_append, digs_length]; exact hown2) hb⟩
  · have hf0 : fitsB n s = false := by simpa using hf
    rw [show putB bs n s = bs from by simp [putB, hf0]]
    go_enter Tryz.func39, Tryz.ntmps39
    go_wp2_with (first
      | (go_at_call 70; refine (rfits_any _ _ _).mono ?_; rintro e w' ⟨rfl, rfl⟩)
      | (at_builtin; refine append_rd rfl _ _ rfl w.heap.size _ _ _ rfl (World.ownsRow_nil _ _ _ _) B A c bs rfl hn hr (by omega) (Nat.le_refl _) ?_; intro v1 w1 hown hgrow))
    go_ret
    have hb1 : Below w.heap.size w w1 := (Below.refl _ w).grown hgrow (Nat.le_refl _) (fun k hk => by cases (show (none : Option Nat) = some k from hk))
    exact ⟨_, rfl, Made.of_own (by simpa using hown) hb1⟩
end Go.Proofs.YtpoigngpdcmipaaGreat
namespace Go.Proofs.YtpoigngpdcmipaaGreat
open Go.RowKit
theorem Boxed.below {W W' : World} {B t : Nat} {v : Value} {B' : Nat} (h : Boxed W B t v) (hb : Below B' W W') (hB : B < B') : Boxed W' B t v := (hb.block B hB).trans h
theorem below_drewN {B : Nat} {a w : World} (h : Below B a w) (n : Nat) : Below B a (w.drewN n) := ⟨h.os, h.tape, h.output, h.size, h.block⟩
theorem box_keep {X Y : World} {B t n : Nat} {v : Value} {r : Option Nat} (h : Boxed X B t v) (hg : X.grownBy Y r) (hr : ∀ k, r = some k → n ≤ k ∧ ∃ o : Obj, X.heap[k]? = some o ∧ o.isCells = false) : Boxed Y B t v :=
  Own.from (boxed_own (β := Unit) B t (fun _ => v)) n () X Y r h hg hr
theorem below_keep {w X Y : World} {n n0 : Nat} {r : Option Nat} (h : Below n0 w X) (hg : X.grownBy Y r) (hr : ∀ k, r = some k → n ≤ k ∧ ∃ o : Obj, X.heap[k]? = some o ∧ o.isCells = false) (hn : n0 ≤ n) (hw : n0 ≤ w.heap.size) : Below n0 w Y :=
  h.grown hg (Nat.le_trans hw h.size) (fun k e => Nat.le_trans hn (hr k e).1)
end Go.Proofs.YtpoigngpdcmipaaGreat
namespace Go.Proofs.YtpoigngpdcmipaaGreat
open Go.RowKit
def fold (n : Int) : Int := if n ≤ 0 then 0 else (n - 1) % 65535 + 1
theorem fold_neg {n : Int} (h : n < 0) : fold n = 0 := by unfold fold; rw [if_pos (by omega)]
theorem fold_small {n : Int} (h0 : 0 ≤ n) (h : n ≤ 65535) : fold n = n := by
  unfold fold; split <;> omega
theorem fold_step {n : Int} (h : 65535 < n) : fold (n % 65536 + n / 65536) = fold n := by
  unfold fold; rw [if_neg (by omega), if_neg (by omega)]; omega
theorem fold_bd (n : Int) : 0 ≤ fold n ∧ fold n ≤ 65535 := by unfold fold; split <;> omega
theorem wraps63 (n : Int) (h₀ : 0 ≤ n) (h₁ : n < 2 ^ 63) : IntKind.i64.wrap n = n := by rw [IntKind.wrap_i64]; omega
theorem and_full (n : Int) (h0 : 0 ≤ n) (h1 : n ≤ 9223372036854775807) : bits .and .i64 n 65535 = n % 65536 := by
  have := bits_mask .i64 63 (by decide) wraps63 16 (by decide) n h0 (by omega)
  simpa using this
set_option maxHeartbeats 400000 in
theorem fold_any (n : Int) (w : World) (hn : n ≤ 9223372036854775807) :
    Calls Tryz.prog 141 #[.int .i64 n] w fun e w' => e = .returned (.int .i64 (fold n)) ∧ w = w' := by
  by_cases h0 : n < 0
  · rw [fold_neg h0]
    go_enter Tryz.func141, Tryz.ntmps141
    go_wp2
    go_ret
    exact ⟨rfl, rfl⟩
  · go_enter Tryz.func141, Tryz.ntmps141
    go_wp2
    go_loop [0] (fun v => ∃ m : Int, 0 ≤ m ∧ m ≤ 9223372036854775807 ∧ Hid (fold m = fold n) ∧ v = .int .i64 m) (fun v => (intOf v).toNat)
    case atStart => exact ⟨n, by omega, hn, Lib.hid rfl, rfl⟩
    case round =>
      obtain ⟨m, hm0, hm1, Hm, rfl⟩ := hrel
      by_cases hlt : 65535 < m
      · have hA := and_full m hm0 hm1
        have HF := Lib.hid (fold_step hlt)
        go_wp2
        go_roundw
        case rel => exact ⟨m % 65536 + m / 65536, by omega, by omega, Lib.hid (HF.out.trans Hm.out), rfl⟩
        case measure => simp [intOf]; omega
      · go_wp2
        go_ret
        exact ⟨ret_int (by rw [← Hm.out, fold_small hm0 (by omega)]), rfl⟩
set_option maxHeartbeats 400000 in
theorem rfold_any (n : Int) (w : World) (hn : n ≤ 9223372036854775807) :
    Calls Tryz.prog 106 #[.int .i64 n] w fun e w' => e = .returned (.int .i64 (fold n)) ∧ w = w' := by
  by_cases h0 : n < 0
  · rw [fold_neg h0]
    go_enter Tryz.func106, Tryz.ntmps106
    go_wp2
    go_ret
    exact ⟨rfl, rfl⟩
  · go_enter Tryz.func106, Tryz.ntmps106
    go_wp2
    go_loop [0] (fun v => ∃ m : Int, 0 ≤ m ∧ m ≤ 9223372036854775807 ∧ Hid (fold m = fold n) ∧ v = .int .i64 m) (fun v => (intOf v).toNat)
    case atStart => exact ⟨n, by omega, hn, Lib.hid rfl, rfl⟩
    case round =>
      obtain ⟨m, hm0, hm1, Hm, rfl⟩ := hrel
      by_cases hlt : 65535 < m
      · have HF := Lib.hid (fold_step hlt)
        go_wp2
        go_roundw
        case rel => exact ⟨m % 65536 + m / 65536, by omega, by omega, Lib.hid (HF.out.trans Hm.out), rfl⟩
        case measure => simp [intOf]; omega
      · go_wp2
        go_ret
        exact ⟨ret_int (by rw [← Hm.out, fold_small hm0 (by omega)]), rfl⟩
def wsum (bs : List UInt8) : Nat → Int
  | 0 => 0
  | k + 1 => wsum bs k + wrd bs k
def wall (bs : List UInt8) : Int := wsum bs (prs bs.length)
def psum (ps : List (List UInt8)) : Int := (ps.map wall).sum
theorem wsum_succ (bs : List UInt8) (k : Nat) : wsum bs (k + 1) = wsum bs k + wrd bs k := rfl
theorem wsum_bd (bs : List UInt8) (k : Nat) : 0 ≤ wsum bs k ∧ wsum bs k ≤ 65535 * (k : Int) := by
  induction k with
  | zero => simp [wsum]
  | succ k ih => have := wrd_bd bs k; rw [wsum_succ]; omega
theorem wall_bd (bs : List UInt8) : 0 ≤ wall bs ∧ wall bs ≤ 65535 * (bs.length : Int) := by
  have := wsum_bd bs (prs bs.length); unfold wall; unfold prs at *; omega
theorem psum_take (ps : List (List UInt8)) {k : Nat} {bs : List UInt8} (h : ps[k]? = some bs) : psum (ps.take (k + 1)) = psum (ps.take k) + wall bs := by
  rw [List.take_add_one, h]; simp [psum]
def bulk (ps : List (List UInt8)) : Nat := (ps.map List.length).sum
theorem bulk_take (ps : List (List UInt8)) {k : Nat} {bs : List UInt8} (h : ps[k]? = some bs) : bulk (ps.take (k + 1)) = bulk (ps.take k) + bs.length := by
  rw [List.take_add_one, h]; simp [bulk]
theorem psum_bd (ps : List (List UInt8)) : 0 ≤ psum ps ∧ psum ps ≤ 65535 * (bulk ps : Int) := by
  induction ps with
  | nil => simp [psum, bulk]
  | cons b l ih =>
    have := wall_bd b
    have e1 : psum (b :: l) = wall b + psum l := by simp [psum]
    have e2 : bulk (b :: l) = b.length + bulk l := by simp [bulk]
    rw [e1, e2]; omega
theorem bulk_le (ps : List (List UInt8)) (k : Nat) : bulk (ps.take k) ≤ bulk ps := by
  have : bulk ps = bulk (ps.take k) + bulk (ps.drop k) := by
    conv => lhs; rw [← List.take_append_drop k ps]
    simp only [bulk, List.map_append, List.sum_append]
  omega
theorem len_bulk {ps : List (List UInt8)} {k : Nat} {bs : List UInt8} (h : ps[k]? = some bs) : bs.length ≤ bulk ps := by
  have := bulk_take ps h; have := bulk_le ps (k + 1); omega
def Rd2 (w : World) (B : Nat) (A : Option Addr) (ps : List (List UInt8)) : Prop :=
  0 < ps.length → ∃ b off, A = some ⟨b, off, none⟩ ∧ b < B ∧ ∀ (j : Nat) (bs : List UInt8), ps[j]? = some bs → ∃ Aj cj, w.cell? ⟨b, off + j, none⟩ = some (.slice Aj bs.length cj) ∧ Arg w B Aj cj bs
theorem Rd2.below {w w' : World} {B : Nat} {A : Option Addr} {ps : List (List UInt8)} (h : Rd2 w B A ps) (hb : Below B w w') : Rd2 w' B A ps := fun hn => by
  obtain ⟨b, off, e, hlt, hc⟩ := h hn
  refine ⟨b, off, e, hlt, fun j bs hj => ?_⟩
  obtain ⟨Aj, cj, h1, h2⟩ := hc j bs hj
  exact ⟨Aj, cj, (hb.cell (p := ⟨b, off + j, none⟩) hlt).trans h1, h2.below hb⟩
end Go.Proofs.YtpoigngpdcmipaaGreat
