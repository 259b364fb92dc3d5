/-
  Contracts and lemmas on which the proofs of this seat stand (several texts in one). Conditions are each theorem's own.
-/
import Derived.Test.YtafidbjaeopciaaDoorRows
import Derived.WalkKit
import Derived.WalkSpells
import Derived.Lib.Hide
import Derived.Outline
import Derived.IntWalk
import Derived.Laws.CopyOwn
import Derived.OwnWalk
import Derived.Lib.ItoaMem
import Derived.Below
import Derived.Laws.OwnMore
import Derived.Laws.Rows
import Derived.Deep.Draws
import Derived.Deep.OwnRows
import Derived.RangeFuncBox
import Derived.Lib.Join
import Derived.Shelf.Strconv.Itoa0
import Derived.Shelf.Strconv.Itoa1
import Derived.Shelf.LaysM
import Derived.Shelf.Strconv.Itoa2
import Derived.Shelf.Strconv.AppendUint10
import Derived.Shelf.Strconv.AppendInt10
import Derived.Shelf.Strconv.AppendIntPublic10
import Derived.Test.YtafidbjaeopciaaDoorProg
import Derived.Shelf.RegionOpenPlain
import Derived.Lib.IndexLaws
import Derived.Lib.CutLaws
import Derived.Lib.LaidTab
import Derived.Lib.TrailingZeros
import Derived.Laws.AppendOwn
import Derived.Laws.AppendOwnNone
import Derived.RangeFuncNested
import Derived.RangeFuncBound
import Derived.RangeFuncCalls
import Derived.RangeFuncLeaves
import Derived.Shelf.Abstract
import Derived.Shelf.RegionOpen
import Derived.OwnWalkIn
import Derived.TacticsInMore
import Derived.LoopNIn
import Derived.LoopIn

/-
  Small words that every text of this seat uses: endings that agree, the string of bytes. Conditions: none; plain lemmas.
-/
namespace Go.Proofs.YtafidbjaeopciaaDoor
open Go.RowKit

theorem ret_bool {a b : Bool} (h : a = b) : Ending.returned (.bool a) = .returned (.bool b) := by rw [h]
theorem ret_int {k : IntKind} {a b : Int} (h : a = b) : Ending.returned (.int k a) = .returned (.int k b) := by rw [h]
theorem ret_two {k : IntKind} {a b e : Int} (h : a = b) : Ending.returned (.tuple #[.int k a, .int .i64 e]) = .returned (.tuple #[.int k b, .int .i64 e]) := by rw [h]
theorem ret_str {a b : ByteArray} (h : a = b) : Ending.returned (.string a) = .returned (.string b) := by rw [h]

/-- The string of bytes. A plain definition. -/
def strB (bs : List UInt8) : ByteArray := ⟨bs.toArray⟩
theorem strB_eq (xs bs : List UInt8) : ((strB xs).toList == (strB bs).toList) = decide (xs = bs) := by
  rw [strB, strB, ByteArray.toList_mk, ByteArray.toList_mk, Bool.eq_iff_iff]; simp
theorem strB_append (xs bs : List UInt8) : strB xs ++ strB bs = strB (xs ++ bs) := by
  simp [strB, ByteArray.ext_iff]
theorem strB_size (bs : List UInt8) : (strB bs).size = bs.length := by simp [strB, ByteArray.size]
/-- '+' of two strings of bytes, within bounds. -/
theorem sadd (x y : List UInt8) (h : x.length + y.length ≤ 1000000) (w : World) : (Op.stringOp .add (strB x) (strB y)).run Tryd.prog w = .ok (.string (strB (x ++ y))) w := by
  have h1 := run_string_add_sum (P := Tryd.prog) (w := w) (strB x) (strB y) (by rw [strB_size, strB_size]; omega)
  rw [strB_append] at h1
  exact h1
end Go.Proofs.YtafidbjaeopciaaDoor

/-
  Places of an array, in which keys are looked for one behind the other: what is found, put, and taken out. No program. Conditions are each theorem's own.
-/
namespace Go.Proofs.YtafidbjaeopciaaDoor

/-- A key, and what it has. -/
structure Ent where
  key : List UInt8
  n : Int
/-- q lies in front of i, seen from h, round the array. -/
def Btw (h i q : Nat) : Prop := (h ≤ i ∧ h ≤ q ∧ q < i) ∨ (i < h ∧ (h ≤ q ∨ q < i))
/-- What stands at a place. -/
def plH (L : List (Option Ent)) (i : Nat) : Option Ent := (L[i]?).join
theorem plH_lt {L : List (Option Ent)} {i : Nat} {e : Ent} (h : plH L i = some e) : i < L.length := by
  by_cases hl : i < L.length
  · exact hl
  · rw [plH, List.getElem?_eq_none (by omega)] at h; cases h
theorem plH_set {L : List (Option Ent)} {i : Nat} {v : Option Ent} (hi : i < L.length) (j : Nat) : plH (L.set i v) j = if i = j then v else plH L j := by
  unfold plH
  rw [List.getElem?_set]
  by_cases h : i = j
  · subst h; simp [hi]
  · simp [h]
theorem plH_rep (n i : Nat) : plH (List.replicate n none) i = none := by
  unfold plH
  rw [List.getElem?_replicate]
  split <;> rfl
/-- Every key is found: all places from its own to where it stands are taken; and no key stands twice. -/
structure Prb (hm : List UInt8 → Nat) (L : List (Option Ent)) : Prop where
  home : ∀ k, hm k < L.length
  path : ∀ i e, plH L i = some e → ∀ q, q < L.length → Btw (hm e.key) i q → plH L q ≠ none
  uniq : ∀ i j e f, plH L i = some e → plH L j = some f → e.key = f.key → i = j
/-- The place r rounds behind h. -/
def rnd (N h r : Nat) : Nat := if h + r < N then h + r else h + r - N
theorem rnd_lt {N h r : Nat} (hh : h < N) (hr : r < N) : rnd N h r < N := by unfold rnd; split <;> omega
theorem rnd_mod {N h r : Nat} (hh : h ≤ N) (hr : r < N) : (h + r) % N = rnd N h r := by
  unfold rnd
  split
  · exact Nat.mod_eq_of_lt (by assumption)
  · rw [Nat.mod_eq_sub_mod (by omega), Nat.mod_eq_of_lt (by omega)]
/-- What the first r rounds saw: places that are taken by other keys. -/
def Seen (L : List (Option Ent)) (k : List UInt8) (h r : Nat) : Prop := ∀ d, d < r → ∃ e, plH L (rnd L.length h d) = some e ∧ e.key ≠ k
theorem btw_rnd {N h r q : Nat} (hh : h < N) (_ : r < N) (hq : q < N) (hb : Btw h (rnd N h r) q) : ∃ d, d < r ∧ q = rnd N h d := by
  unfold Btw rnd at *
  by_cases h1 : h ≤ q
  · refine ⟨q - h, ?_, ?_⟩ <;> (split at hb <;> (try split) <;> omega)
  · refine ⟨q + N - h, ?_, ?_⟩ <;> (split at hb <;> (try split) <;> omega)
theorem rnd_btw {N h r q : Nat} (hh : h < N) (_ : r < N) (hq : q < N) (hn : ∀ d, d ≤ r → q ≠ rnd N h d) : Btw h q (rnd N h r) := by
  unfold Btw
  by_cases h1 : h ≤ q
  · have h2 := hn (q - h)
    unfold rnd at *
    rw [if_pos (by omega)] at h2
    by_cases h3 : q - h ≤ r
    · exact absurd (by omega) (h2 h3)
    · rw [if_pos (by omega)]; omega
  · have h2 := hn (q + N - h)
    unfold rnd at *
    rw [if_neg (by omega)] at h2
    by_cases h3 : q + N - h ≤ r
    · exact absurd (by omega) (h2 h3)
    · split <;> omega
/-- A free place behind others: the key is not there. -/
theorem Prb.absent {hm : List UInt8 → Nat} {L : List (Option Ent)} (p : Prb hm L) {k : List UInt8} {r : Nat} (hr : r < L.length) (hs : Seen L k (hm k) r) (hf : plH L (rnd L.length (hm k) r) = none) : ∀ i e, plH L i = some e → e.key ≠ k := by
  intro i e he hk
  have hi := plH_lt he
  have hh := p.home k
  refine p.path i e he (rnd L.length (hm k) r) (rnd_lt hh hr) ?_ hf
  rw [hk]
  refine rnd_btw hh hr hi fun d hd e1 => ?_
  rcases Nat.lt_or_eq_of_le hd with h | h
  · obtain ⟨f, hf1, hf2⟩ := hs d h
    rw [← e1, he] at hf1
    injection hf1 with hf1
    exact hf2 (hf1 ▸ hk)
  · rw [h] at e1
    rw [← e1, he] at hf
    cases hf
/-- All places seen: the key is not there. -/
theorem absent_all {L : List (Option Ent)} {k : List UInt8} {h : Nat} (hh : h < L.length) (hs : Seen L k h L.length) : ∀ i e, plH L i = some e → e.key ≠ k := by
  intro i e he hk
  have hi := plH_lt he
  have : ∃ d, d < L.length ∧ i = rnd L.length h d := by
    by_cases h1 : h ≤ i
    · exact ⟨i - h, by omega, by unfold rnd; split <;> omega⟩
    · exact ⟨i + L.length - h, by omega, by unfold rnd; split <;> omega⟩
  obtain ⟨d, hd, e1⟩ := this
  obtain ⟨f, hf1, hf2⟩ := hs d hd
  rw [← e1, he] at hf1
  injection hf1 with hf1
  exact hf2 (hf1 ▸ hk)
theorem all_taken {L : List (Option Ent)} {h : Nat} (hh : h < L.length) (hs : ∀ d, d < L.length → plH L (rnd L.length h d) ≠ none) : ∀ i, i < L.length → plH L i ≠ none := by
  intro i hi
  have : ∃ d, d < L.length ∧ i = rnd L.length h d := by
    by_cases h1 : h ≤ i
    · exact ⟨i - h, by omega, by unfold rnd; split <;> omega⟩
    · exact ⟨i + L.length - h, by omega, by unfold rnd; split <;> omega⟩
  obtain ⟨d, hd, e⟩ := this
  rw [e]; exact hs d hd
/-- The entries of an array. -/
def ents (L : List (Option Ent)) : List Ent := L.filterMap id
theorem mem_ents {L : List (Option Ent)} {e : Ent} : e ∈ ents L ↔ ∃ i, plH L i = some e := by
  unfold ents plH
  rw [List.mem_filterMap]
  constructor
  · rintro ⟨o, ho, rfl⟩
    obtain ⟨i, hi⟩ := List.getElem?_of_mem ho
    exact ⟨i, by rw [hi]; rfl⟩
  · rintro ⟨i, hi⟩
    cases h : L[i]? with
    | none => rw [h] at hi; cases hi
    | some o =>
      rw [h] at hi
      exact ⟨o, List.mem_of_getElem? h, hi⟩
theorem ents_put : ∀ {L : List (Option Ent)} {i : Nat} {e : Ent}, i < L.length → plH L i = none → (ents (L.set i (some e))).Perm (e :: ents L)
  | [], _, _, h, _ => absurd h (Nat.not_lt_zero _)
  | o :: L, 0, e, _, hn => by
    have : o = none := hn
    subst this
    simp [ents]
  | o :: L, i + 1, e, h, hn => by
    have h1 := ents_put (L := L) (i := i) (e := e) (Nat.lt_of_succ_lt_succ h) hn
    cases o with
    | none => simpa [ents] using h1
    | some x =>
      have h2 : ents ((some x :: L).set (i + 1) (some e)) = x :: ents (L.set i (some e)) := by simp [ents]
      rw [h2]
      have h3 : ents (some x :: L) = x :: ents L := by simp [ents]
      rw [h3]
      exact (h1.cons x).trans (List.Perm.swap e x _)
theorem ents_take : ∀ {L : List (Option Ent)} {i : Nat} {e : Ent}, plH L i = some e → (ents L).Perm (e :: ents (L.set i none))
  | [], _, _, h => by cases h
  | o :: L, 0, e, hn => by
    have : o = some e := hn
    subst this
    simp [ents]
  | o :: L, i + 1, e, hn => by
    have h1 := ents_take (L := L) (i := i) (e := e) hn
    cases o with
    | none => simpa [ents] using h1
    | some x =>
      have h2 : ents ((some x :: L).set (i + 1) none) = x :: ents (L.set i none) := by simp [ents]
      rw [h2]
      have h3 : ents (some x :: L) = x :: ents L := by simp [ents]
      rw [h3]
      exact (h1.cons x).trans (List.Perm.swap e x _)
theorem ents_rep (n : Nat) : ents (List.replicate n none) = [] := by
  induction n with
  | zero => rfl
  | succ n ih => rw [List.replicate_succ]; exact ih
theorem ents_len : ∀ L : List (Option Ent), (ents L).length ≤ L.length
  | [] => Nat.le_refl _
  | none :: L => by have := ents_len L; simp [ents] at *; omega
  | some x :: L => by have := ents_len L; simp [ents] at *; omega
/-- Fewer entries than places: one is free. -/
theorem free_of_lt : ∀ {L : List (Option Ent)}, (ents L).length < L.length → ∃ i, i < L.length ∧ plH L i = none
  | [], h => absurd h (Nat.not_lt_zero _)
  | none :: L, _ => ⟨0, Nat.zero_lt_succ _, rfl⟩
  | some x :: L, h => by
    obtain ⟨i, h1, h2⟩ := free_of_lt (L := L) (by simp [ents] at *; omega)
    exact ⟨i + 1, Nat.succ_lt_succ h1, h2⟩
/-- Its array is free. -/
theorem prb_new (hm : List UInt8 → Nat) (n : Nat) (h : ∀ k, hm k < n) : Prb hm (List.replicate n none) where
  home k := by rw [List.length_replicate]; exact h k
  path i e he := by rw [plH_rep] at he; cases he
  uniq i j e f he := by rw [plH_rep] at he; cases he
/-- What a key has is changed. -/
theorem Prb.change {hm : List UInt8 → Nat} {L : List (Option Ent)} (p : Prb hm L) {i : Nat} {e : Ent} (he : plH L i = some e) (n : Int) : Prb hm (L.set i (some ⟨e.key, n⟩)) := by
  have hi := plH_lt he
  have hk : ∀ j f, plH (L.set i (some ⟨e.key, n⟩)) j = some f → ∃ f', plH L j = some f' ∧ f'.key = f.key := fun j f hf => by
    rw [plH_set hi] at hf
    split at hf
    · rename_i h; subst h; injection hf with hf; subst hf; exact ⟨e, he, rfl⟩
    · exact ⟨f, hf, rfl⟩
  refine ⟨fun k => by rw [List.length_set]; exact p.home k, fun j f hf q hq hb => ?_, fun a b x y hx hy hxy => ?_⟩
  · obtain ⟨f', h1, h2⟩ := hk j f hf
    rw [List.length_set] at hq
    rw [plH_set hi]
    split
    · simp
    · exact p.path j f' h1 q hq (h2 ▸ hb)
  · obtain ⟨x', h1, h2⟩ := hk a x hx
    obtain ⟨y', h3, h4⟩ := hk b y hy
    exact p.uniq a b x' y' h1 h3 (h2.trans (hxy.trans h4.symm))
theorem ents_change {L : List (Option Ent)} {i : Nat} {e : Ent} (he : plH L i = some e) (f : Ent) : ∃ R, (ents L).Perm (e :: R) ∧ (ents (L.set i (some f))).Perm (f :: R) := by
  have hi := plH_lt he
  refine ⟨ents (L.set i none), ents_take he, ?_⟩
  have := ents_put (L := L.set i none) (i := i) (e := f) (by rw [List.length_set]; exact hi) (by rw [plH_set hi, if_pos rfl])
  rwa [List.set_set] at this
/-- A key that is not there comes to the first free place. -/
theorem Prb.put {hm : List UInt8 → Nat} {L : List (Option Ent)} (p : Prb hm L) {x : Ent} (hno : ∀ i e, plH L i = some e → e.key ≠ x.key) {r : Nat} (hr : r < L.length) (hs : ∀ d, d < r → plH L (rnd L.length (hm x.key) d) ≠ none) :
    Prb hm (L.set (rnd L.length (hm x.key) r) (some x)) := by
  have hh := p.home x.key
  have hi := rnd_lt hh hr
  refine ⟨fun k => by rw [List.length_set]; exact p.home k, fun j f hf q hq hb => ?_, fun a b y z hy hz hyz => ?_⟩
  · rw [List.length_set] at hq
    rw [plH_set hi] at hf ⊢
    split
    · simp
    · split at hf
      · rename_i h
        injection hf with hf
        subst hf h
        obtain ⟨d, hd, e⟩ := btw_rnd hh hr hq hb
        rw [e]; exact hs d hd
      · exact p.path j f hf q hq hb
  · rw [plH_set hi] at hy hz
    split at hy <;> split at hz
    · rename_i h1 h2; exact h1.symm.trans h2
    · injection hy with hy; subst hy; exact absurd hyz.symm (hno b z hz)
    · injection hz with hz; subst hz; exact absurd hyz (hno a y hy)
    · exact p.uniq a b y z hy hz hyz
/-- How far p is behind h, round the array. -/
def wayF (N h p : Nat) : Nat := if h ≤ p then p - h else p + N - h
theorem way_btw {N h p g : Nat} (hh : h < N) (_ : p < N) (hg : g < N) (hne : g ≠ p) : wayF N g p ≤ wayF N h p ↔ Btw h p g := by
  unfold wayF Btw
  split <;> split <;> omega
/-- How far a place is behind g. -/
def offs (N g x : Nat) : Nat := if g ≤ x then x - g else x + N - g
theorem offs_or {N g : Nat} (hg : g < N) (x : Nat) : (g ≤ x ∧ offs N g x + g = x) ∨ (x < g ∧ offs N g x + g = x + N) := by unfold offs; split <;> omega
/-- How far the closing of a gap has come, after r rounds: the array as if the gap were free. -/
structure Clo (hm : List UInt8 → Nat) (g0 : Nat) (V : List (Option Ent)) (g r : Nat) : Prop where
  home : ∀ k, hm k < V.length
  gz : g0 < V.length
  gl : g < V.length
  gr : offs V.length g0 g ≤ r
  gap : plH V g = none
  free : ∃ f, f < V.length ∧ plH V f = none ∧ r < offs V.length g0 f
  path : ∀ i e, plH V i = some e → ∀ q, q < V.length → Btw (hm e.key) i q → plH V q ≠ none ∨ (q = g ∧ r < offs V.length g0 i)
  uniq : ∀ i j e f, plH V i = some e → plH V j = some f → e.key = f.key → i = j
theorem Prb.close {hm : List UInt8 → Nat} {L : List (Option Ent)} (p : Prb hm L) {i : Nat} {x : Ent} (hx : plH L i = some x) (hf : ∃ f, f < L.length ∧ plH L f = none) : Clo hm i (L.set i none) i 0 := by
  have hi := plH_lt hx
  have hs : ∀ j e, plH (L.set i none) j = some e → j ≠ i ∧ plH L j = some e := fun j e h => by
    rw [plH_set hi] at h
    split at h
    · cases h
    · rename_i h1; exact ⟨fun e => h1 e.symm, h⟩
  refine ⟨fun k => by rw [List.length_set]; exact p.home k, by rw [List.length_set]; exact hi, by rw [List.length_set]; exact hi, by simp [offs], by rw [plH_set hi, if_pos rfl], ?_, ?_, ?_⟩
  · obtain ⟨f, h1, h2⟩ := hf
    have hne : i ≠ f := fun e => by rw [← e, hx] at h2; cases h2
    refine ⟨f, by rw [List.length_set]; exact h1, by rw [plH_set hi, if_neg hne]; exact h2, ?_⟩
    rw [List.length_set]
    unfold offs; split <;> omega
  · intro j e he q hq hb
    obtain ⟨h1, h2⟩ := hs j e he
    have hj := plH_lt h2
    rw [List.length_set] at hq ⊢
    by_cases h : q = i
    · right
      refine ⟨h, ?_⟩
      unfold offs; split <;> omega
    · left
      rw [plH_set hi, if_neg (fun e => h e.symm)]
      exact p.path j e h2 q hq hb
  · intro a b e f he hf hk
    exact p.uniq a b e f (hs a e he).2 (hs b f hf).2 hk
theorem offs_rnd {N g r : Nat} (hg : g < N) (hr : r + 1 < N) : offs N g (rnd N (g + 1) r) = r + 1 ∧ rnd N (g + 1) r < N := by
  unfold offs rnd
  split <;> split <;> omega
/-- Behind the last round all keys are found. -/
theorem Clo.ends {hm : List UInt8 → Nat} {g0 g r : Nat} {V : List (Option Ent)} (c : Clo hm g0 V g r) {a : Nat} (ha : a < V.length) (hat : offs V.length g0 a = r + 1) (hf : plH V a = none) : Prb hm V := by
  refine ⟨c.home, fun i e he q hq hb => ?_, c.uniq⟩
  rcases c.path i e he q hq hb with h | ⟨h1, h2⟩
  · exact h
  · subst h1
    intro _
    have hi := plH_lt he
    have hia : i ≠ a := fun e1 => by rw [e1, hf] at he; cases he
    have hl := c.home e.key
    have hgr := c.gr
    have hg0 := c.gz
    rcases c.path i e he a ha (by have := offs_or hg0 a; have := offs_or hg0 i; have := offs_or hg0 q; unfold Btw at *; omega) with h | ⟨h3, _⟩
    · exact h hf
    · rw [h3] at hat; omega
/-- A round ends at the latest when all are seen. -/
theorem Clo.round {hm : List UInt8 → Nat} {g0 g r : Nat} {V : List (Option Ent)} (c : Clo hm g0 V g r) : r + 1 < V.length := by
  obtain ⟨f, h1, _, h3⟩ := c.free
  have := c.gz
  unfold offs at h3; split at h3 <;> omega
/-- One that would be found stays. -/
theorem Clo.stay {hm : List UInt8 → Nat} {g0 g r : Nat} {V : List (Option Ent)} (c : Clo hm g0 V g r) {a : Nat} {x : Ent} (hat : offs V.length g0 a = r + 1) (hx : plH V a = some x) (hb : ¬ Btw (hm x.key) a g) : Clo hm g0 V g (r + 1) := by
  have ha := plH_lt hx
  have hg0 := c.gz
  obtain ⟨f, f1, f2, f3⟩ := c.free
  have hfa : f ≠ a := fun e => by rw [e, hx] at f2; cases f2
  refine ⟨c.home, c.gz, c.gl, by have := c.gr; omega, c.gap, ⟨f, f1, f2, by have := offs_or hg0 a; have := offs_or hg0 f; omega⟩, fun i e he q hq hq2 => ?_, c.uniq⟩
  rcases c.path i e he q hq hq2 with h | ⟨h1, h2⟩
  · exact .inl h
  · right
    refine ⟨h1, ?_⟩
    have hi := plH_lt he
    have : i ≠ a := fun e1 => by
      rw [e1, hx] at he
      injection he with he
      subst he
      rw [e1, h1] at hq2
      exact hb hq2
    have := offs_or hg0 a; have := offs_or hg0 i; omega
/-- One that would not be found comes forward into the gap. -/
theorem Clo.move {hm : List UInt8 → Nat} {g0 g r : Nat} {V : List (Option Ent)} (c : Clo hm g0 V g r) {a : Nat} {x : Ent} (hat : offs V.length g0 a = r + 1) (hx : plH V a = some x) (hb : Btw (hm x.key) a g) : Clo hm g0 ((V.set g (some x)).set a none) a (r + 1) := by
  have ha := plH_lt hx
  have hg0 := c.gz
  have hgl := c.gl
  have hgr := c.gr
  have hgap := c.gap
  have hga : g ≠ a := fun e => by rw [e, hx] at hgap; cases hgap
  obtain ⟨f, f1, f2, f3⟩ := c.free
  have hfa : f ≠ a := fun e => by rw [e, hx] at f2; cases f2
  have hfg : f ≠ g := fun e => by rw [e] at f3; omega
  have hP : ∀ j, plH ((V.set g (some x)).set a none) j = if a = j then none else if g = j then some x else plH V j := fun j => by
    rw [plH_set (by rw [List.length_set]; exact ha), plH_set hgl]
  have hl : ((V.set g (some x)).set a none).length = V.length := by simp
  have hs : ∀ j e, plH ((V.set g (some x)).set a none) j = some e → (j = g ∧ e = x) ∨ (j ≠ g ∧ j ≠ a ∧ plH V j = some e) := fun j e h => by
    rw [hP] at h
    split at h
    · cases h
    · split at h
      · rename_i h1 h2; injection h with h; exact .inl ⟨h2.symm, h.symm⟩
      · rename_i h1 h2; exact .inr ⟨fun e => h2 e.symm, fun e => h1 e.symm, h⟩
  refine ⟨fun k => by rw [hl]; exact c.home k, by rw [hl]; exact hg0, by rw [hl]; exact ha, by rw [hl]; omega, by rw [hP, if_pos rfl], ⟨f, by rw [hl]; exact f1, by rw [hP, if_neg (fun e => hfa e.symm), if_neg (fun e => hfg e.symm)]; exact f2, by rw [hl]; have := offs_or hg0 a; have := offs_or hg0 f; omega⟩, fun i e he q hq hq2 => ?_, fun i j e f he hf hk => ?_⟩
  · rw [hl] at hq ⊢
    rw [hP]
    by_cases hqa : a = q
    · rw [if_pos hqa]
      right
      refine ⟨hqa.symm, ?_⟩
      subst hqa
      rcases hs i e he with ⟨rfl, rfl⟩ | ⟨h1, h2, h3⟩
      · exfalso
        unfold Btw at *; omega
      · have hi := plH_lt h3
        have hh := c.home e.key
        by_cases hro : r + 1 < offs V.length g0 i
        · exact hro
        · exfalso
          have : Btw (hm e.key) i f := by
            have := offs_or hg0 a; have := offs_or hg0 f; have := offs_or hg0 i; unfold Btw at *; omega
          rcases c.path i e h3 f f1 this with h | ⟨h, _⟩
          · exact h f2
          · exact hfg h
    · rw [if_neg hqa]
      left
      by_cases hqg : g = q
      · rw [if_pos hqg]; simp
      · rw [if_neg hqg]
        rcases hs i e he with ⟨rfl, rfl⟩ | ⟨h1, h2, h3⟩
        · rcases c.path a e hx q hq (by unfold Btw at *; omega) with h | ⟨h, _⟩
          · exact h
          · exact absurd h.symm hqg
        · rcases c.path i e h3 q hq hq2 with h | ⟨h, _⟩
          · exact h
          · exact absurd h.symm hqg
  · rcases hs i e he with ⟨h1, h2⟩ | ⟨h1, h2, h3⟩ <;> rcases hs j f hf with ⟨h4, h5⟩ | ⟨h4, h5, h6⟩
    · rw [h1, h4]
    · subst h2; exact absurd (c.uniq a j e f hx h6 hk) (fun e => h5 e.symm)
    · subst h5; exact absurd (c.uniq i a e f h3 hx hk) h2
    · exact c.uniq i j e f h3 h6 hk
theorem ents_move {V : List (Option Ent)} {g a : Nat} {x : Ent} (hg : plH V g = none) (hgl : g < V.length) (hx : plH V a = some x) : (ents ((V.set g (some x)).set a none)).Perm (ents V) := by
  have hga : g ≠ a := fun e => by rw [e, hx] at hg; cases hg
  have h1 := ents_put (e := x) hgl hg
  have h2 := ents_take (L := V.set g (some x)) (i := a) (e := x) (by rw [plH_set hgl, if_neg hga]; exact hx)
  exact (h2.symm.trans h1).cons_inv
end Go.Proofs.YtafidbjaeopciaaDoor

/-
  Bindings in plain lists: the text of numbers, and that no other numbers have it; slots with bindings, and the document's list of them by rising numbers; what a new one and a removed one change. No program. Conditions are each theorem's own.
-/
namespace Go.Proofs.YtafidbjaeopciaaDoor

/-! ### Texts of numbers -/
/-- A decimal numeral's number. -/
def valD (l : List UInt8) : Nat := l.foldl (fun a c => 10 * a + (c.toNat - 48)) 0
theorem digI_nat {k : Nat} (h : k < 10) : (UInt8.ofNat (48 + k)).toNat = 48 + k := by
  rw [UInt8.toNat_ofNat']; omega
theorem valD_app (a : List UInt8) (c : UInt8) : valD (a ++ [c]) = 10 * valD a + (c.toNat - 48) := by simp [valD, List.foldl_append]
theorem valD_dec (u : Nat) : valD (Lib.decDigits u) = u := by
  induction u using Nat.strongRecOn with
  | _ u ih =>
    rw [Lib.decDigits]
    split
    · rename_i h
      simp [valD]; omega
    · rename_i h
      rw [valD_app, ih (u / 10) (by omega), digI_nat (by omega)]
      omega
theorem decI_inj {u v : Nat} (h : Lib.decDigits u = Lib.decDigits v) : u = v := by rw [← valD_dec u, h, valD_dec]
theorem dec_chars (u : Nat) : ∀ c ∈ Lib.decDigits u, 48 ≤ c.toNat ∧ c.toNat ≤ 57 := by
  induction u using Nat.strongRecOn with
  | _ u ih =>
    rw [Lib.decDigits]
    split
    · rename_i h
      intro c hc
      rw [List.mem_singleton.1 hc, digI_nat h]; omega
    · rename_i h
      intro c hc
      rcases List.mem_append.1 hc with h1 | h1
      · exact ih (u / 10) (by omega) c h1
      · rw [List.mem_singleton.1 h1, digI_nat (by omega)]; omega
theorem itoa_no47 (n : Int) : (47 : UInt8) ∉ Lib.itoa n := by
  intro h
  unfold Lib.itoa at h
  split at h
  · rcases List.mem_cons.1 h with h1 | h1
    · exact absurd h1 (by decide)
    · have := (dec_chars _ _ h1).1; exact absurd this (by decide)
  · have := (dec_chars _ _ h).1; exact absurd this (by decide)
theorem no45 (u : Nat) (l : List UInt8) : Lib.decDigits u ≠ 45 :: l := fun h => by
  have := (dec_chars u 45 (by rw [h]; exact List.mem_cons_self ..)).1
  exact absurd this (by decide)
theorem itoa_inj {m n : Int} (h : Lib.itoa m = Lib.itoa n) : m = n := by
  unfold Lib.itoa at h
  split at h <;> split at h
  · injection h with _ h
    have := decI_inj h; omega
  · exact absurd h.symm (no45 _ _)
  · exact absurd h (no45 _ _)
  · have := decI_inj h; omega
theorem decI_len (k : Nat) : ∀ u, u < 10 ^ (k + 1) → (Lib.decDigits u).length ≤ k + 1 := by
  induction k with
  | zero => intro u h; rw [Lib.decDigits, dif_pos (by simpa using h)]; simp
  | succ k ih =>
    intro u h
    rw [Lib.decDigits]
    split
    · simp
    · rw [List.length_append]
      have := ih (u / 10) (by rw [Nat.pow_succ] at h; omega)
      simp; omega
theorem itoa_len {n : Int} (h0 : -9223372036854775808 ≤ n) (h1 : n ≤ 9223372036854775807) : (Lib.itoa n).length ≤ 20 := by
  unfold Lib.itoa
  split
  · have := decI_len 18 n.natAbs (by omega)
    rw [List.length_cons]; omega
  · have := decI_len 18 n.toNat (by omega)
    omega
/-- Numbers, each ended by a mark. -/
def txtN (l : List Int) : List UInt8 := l.flatMap (fun n => Lib.itoa n ++ [47])
theorem cut_mark {a b s t : List UInt8} (ha : (47 : UInt8) ∉ a) (hb : (47 : UInt8) ∉ b) (h : a ++ 47 :: s = b ++ 47 :: t) : a = b ∧ s = t := by
  induction a generalizing b with
  | nil =>
    cases b with
    | nil => simpa using h
    | cons y b => simp at h; exact absurd (by rw [h.1]; exact List.mem_cons_self ..) hb
  | cons x a ih =>
    cases b with
    | nil => simp at h; exact absurd (by rw [← h.1]; exact List.mem_cons_self ..) ha
    | cons y b =>
      simp at h
      obtain ⟨e1, e2⟩ := ih (fun hm => ha (List.mem_cons_of_mem _ hm)) (fun hm => hb (List.mem_cons_of_mem _ hm)) h.2
      exact ⟨by rw [h.1, e1], e2⟩
theorem txtN_inj : ∀ {l m : List Int}, l.length = m.length → txtN l = txtN m → l = m
  | [], [], _, _ => rfl
  | [], _ :: _, h, _ => by simp at h
  | _ :: _, [], h, _ => by simp at h
  | x :: l, y :: m, hl, h => by
    simp only [txtN, List.flatMap_cons, List.append_assoc, List.singleton_append] at h
    obtain ⟨e1, e2⟩ := cut_mark (itoa_no47 x) (itoa_no47 y) h
    rw [itoa_inj e1, txtN_inj (by simpa using hl) e2]
theorem txtN_snoc (l : List Int) (n : Int) : txtN (l ++ [n]) = txtN l ++ (Lib.itoa n ++ [47]) := by simp [txtN]
theorem txtN_len : ∀ {l : List Int}, (∀ n ∈ l, -9223372036854775808 ≤ n ∧ n ≤ 9223372036854775807) → (txtN l).length ≤ l.length * 21
  | [], _ => by simp [txtN]
  | x :: l, h => by
    have h1 := txtN_len (l := l) (fun n hn => h n (List.mem_cons_of_mem _ hn))
    have h2 := itoa_len (h x (List.mem_cons_self ..)).1 (h x (List.mem_cons_self ..)).2
    have e : txtN (x :: l) = (Lib.itoa x ++ [47]) ++ txtN l := by simp [txtN]
    rw [e, List.length_append, List.length_append, List.length_cons]
    simp; omega

/-! ### Bindings -/
structure Bd where
  s : Int
  p : Int
  a : Int
  o : Int
  q : Int
  b : Int
  r : Int
  st : Bool
deriving DecidableEq
def Bd.inn (x : Bd) : List Int := [x.s, x.p, x.a, x.o]
def Bd.out (x : Bd) : List Int := [x.q, x.b, x.r]
theorem bd_eq {x y : Bd} : x = y ↔ x.inn = y.inn ∧ x.out = y.out ∧ x.st = y.st := by
  cases x; cases y; simp [Bd.inn, Bd.out]
  constructor
  · rintro ⟨rfl, rfl, rfl, rfl, rfl, rfl, rfl, rfl⟩; simp
  · rintro ⟨⟨rfl, rfl, rfl, rfl⟩, ⟨rfl, rfl, rfl⟩, rfl⟩; simp
/-- The bindings of slots, with their numbers from i on. -/
def docB : Nat → List (Option Bd) → List (Nat × Bd)
  | _, [] => []
  | i, none :: S => docB (i + 1) S
  | i, some x :: S => (i, x) :: docB (i + 1) S
theorem docB_app : ∀ (i : Nat) (S T : List (Option Bd)), docB i (S ++ T) = docB i S ++ docB (i + S.length) T
  | i, [], T => by simp [docB]
  | i, none :: S, T => by
    rw [List.cons_append, docB, docB, docB_app (i + 1) S T, List.length_cons, show i + 1 + S.length = i + (S.length + 1) from by omega]
  | i, some x :: S, T => by
    rw [List.cons_append, docB, docB, docB_app (i + 1) S T, List.length_cons, List.cons_append, show i + 1 + S.length = i + (S.length + 1) from by omega]
theorem docB_len : ∀ (i : Nat) (S : List (Option Bd)), (docB i S).length ≤ S.length
  | _, [] => by simp [docB]
  | i, none :: S => by rw [docB, List.length_cons]; have := docB_len (i + 1) S; omega
  | i, some x :: S => by rw [docB, List.length_cons, List.length_cons]; have := docB_len (i + 1) S; omega
theorem docB_mem : ∀ {i : Nat} {S : List (Option Bd)} {e : Nat × Bd}, e ∈ docB i S ↔ i ≤ e.1 ∧ S[e.1 - i]? = some (some e.2)
  | i, [], e => by simp [docB]
  | i, none :: S, e => by
    rw [docB, docB_mem]
    constructor
    · rintro ⟨h1, h2⟩
      refine ⟨by omega, ?_⟩
      rw [show e.1 - i = (e.1 - (i + 1)) + 1 from by omega, List.getElem?_cons_succ]; exact h2
    · rintro ⟨h1, h2⟩
      by_cases h3 : e.1 = i
      · rw [h3, Nat.sub_self, List.getElem?_cons_zero] at h2; cases h2
      · refine ⟨by omega, ?_⟩
        rwa [show e.1 - i = (e.1 - (i + 1)) + 1 from by omega, List.getElem?_cons_succ] at h2
  | i, some x :: S, e => by
    rw [docB, List.mem_cons, docB_mem]
    constructor
    · rintro (rfl | ⟨h1, h2⟩)
      · simp
      · refine ⟨by omega, ?_⟩
        rw [show e.1 - i = (e.1 - (i + 1)) + 1 from by omega, List.getElem?_cons_succ]; exact h2
    · rintro ⟨h1, h2⟩
      by_cases h3 : e.1 = i
      · left
        rw [h3, Nat.sub_self, List.getElem?_cons_zero] at h2
        simp only [Option.some.injEq] at h2
        obtain ⟨e1, e2⟩ := e
        simp only at h3 h2
        rw [h3, h2]
      · right
        refine ⟨by omega, ?_⟩
        rwa [show e.1 - i = (e.1 - (i + 1)) + 1 from by omega, List.getElem?_cons_succ] at h2
theorem docB_ids : ∀ (i : Nat) (S : List (Option Bd)), (docB i S).Pairwise (fun a b => a.1 < b.1)
  | _, [] => List.Pairwise.nil
  | i, none :: S => by rw [docB]; exact docB_ids (i + 1) S
  | i, some x :: S => by
    rw [docB]
    refine List.pairwise_cons.2 ⟨fun e he => ?_, docB_ids (i + 1) S⟩
    have := (docB_mem.1 he).1
    show i < e.1
    omega
/-- All of these are taken: their numbers are their places. -/
theorem docB_full : ∀ (i : Nat) (S : List (Option Bd)), (∀ j, j < S.length → ∃ x, S[j]? = some (some x)) → (docB i S).length = S.length ∧ ∀ (j : Nat) (e : Nat × Bd), (docB i S)[j]? = some e → e.1 = i + j
  | i, [], _ => by simp [docB]
  | i, none :: S, h => by
    obtain ⟨x, hx⟩ := h 0 (by simp)
    simp at hx
  | i, some x :: S, h => by
    obtain ⟨h1, h2⟩ := docB_full (i + 1) S (fun j hj => by
      obtain ⟨y, hy⟩ := h (j + 1) (by rw [List.length_cons]; omega)
      exact ⟨y, by rwa [List.getElem?_cons_succ] at hy⟩)
    rw [docB]
    refine ⟨by rw [List.length_cons, List.length_cons, h1], fun j e he => ?_⟩
    cases j with
    | zero => rw [List.getElem?_cons_zero] at he; rw [← Option.some.inj he]; rfl
    | succ j => rw [List.getElem?_cons_succ] at he; have := h2 j e he; omega
/-- f is the least number that none has. -/
structure FreeB (S : List (Option Bd)) (f : Nat) : Prop where
  le : f ≤ S.length
  all : ∀ j, j < f → ∃ x, S[j]? = some (some x)
  not : ∀ x, S[f]? ≠ some (some x)
theorem FreeB.cut {S : List (Option Bd)} {f : Nat} (h : FreeB S f) : (docB 0 (S.take f)).length = f ∧ ∀ (j : Nat) (e : Nat × Bd), (docB 0 (S.take f))[j]? = some e → e.1 = j := by
  have hl : (S.take f).length = f := by rw [List.length_take]; have := h.le; omega
  obtain ⟨h1, h2⟩ := docB_full 0 (S.take f) (fun j hj => by
    rw [hl] at hj
    obtain ⟨x, hx⟩ := h.all j hj
    exact ⟨x, by rw [List.getElem?_take, if_pos hj]; exact hx⟩)
  refine ⟨by rw [h1, hl], fun j e he => ?_⟩
  have := h2 j e he; omega
/-- The document's list in two parts: those ahead of the free number, and those behind. -/
theorem FreeB.parts {S : List (Option Bd)} {f : Nat} (h : FreeB S f) : ∃ P Q, docB 0 S = P ++ Q ∧ P = docB 0 (S.take f) ∧ P.length = f ∧ (∀ (j : Nat) (e : Nat × Bd), P[j]? = some e → e.1 = j) ∧ (∀ e ∈ Q, f < e.1) ∧ Q = docB (f + 1) (S.drop (f + 1)) := by
  obtain ⟨h1, h2⟩ := h.cut
  have hl : (S.take f).length = f := by rw [List.length_take]; have := h.le; omega
  have hs : S = S.take f ++ S.drop f := (List.take_append_drop f S).symm
  have e0 : docB 0 S = docB 0 (S.take f) ++ docB f (S.drop f) := by
    have := docB_app 0 (S.take f) (S.drop f)
    rwa [← hs, hl, Nat.zero_add] at this
  have e1 : docB f (S.drop f) = docB (f + 1) (S.drop (f + 1)) := by
    by_cases hf : f < S.length
    · have hg : S[f]? = some S[f] := List.getElem?_eq_getElem hf
      have hd : S.drop f = S[f] :: S.drop (f + 1) := List.drop_eq_getElem_cons hf
      rw [hd]
      cases hx : S[f] with
      | none => rw [docB]
      | some x => rw [hx] at hg; exact absurd hg (h.not x)
    · rw [List.drop_eq_nil_of_le (by omega), List.drop_eq_nil_of_le (by omega)]; rfl
  refine ⟨_, _, e0, rfl, h1, h2, fun e he => ?_, e1⟩
  rw [e1] at he
  exact (docB_mem.1 he).1
/-- The slots behind Add. -/
def putS (S : List (Option Bd)) (f : Nat) (x : Bd) : List (Option Bd) := if f = S.length then S ++ [some x] else S.set f (some x)
theorem FreeB.put {S : List (Option Bd)} {f : Nat} (h : FreeB S f) (x : Bd) : docB 0 (putS S f x) = docB 0 (S.take f) ++ (f, x) :: docB (f + 1) (S.drop (f + 1)) := by
  have hl : (S.take f).length = f := by rw [List.length_take]; have := h.le; omega
  have e : putS S f x = S.take f ++ some x :: S.drop (f + 1) := by
    unfold putS
    split
    · rename_i hf
      rw [hf, List.take_length, List.drop_eq_nil_of_le (by omega)]
    · have := h.le
      rw [List.set_eq_take_append_cons_drop, if_pos (by omega)]
  rw [e, docB_app, hl, Nat.zero_add, docB]
theorem putS_len {S : List (Option Bd)} {f : Nat} {x : Bd} : (putS S f x).length = if f = S.length then S.length + 1 else S.length := by
  unfold putS
  split
  · simp
  · simp
theorem FreeB.nput {S : List (Option Bd)} {f : Nat} (h : FreeB S f) (x : Bd) : (docB 0 (putS S f x)).length = (docB 0 S).length + 1 := by
  obtain ⟨P, Q, e0, e1, _, _, _, e2⟩ := h.parts
  rw [h.put, e0, e1, e2]
  simp
  omega
theorem FreeB.pput {S : List (Option Bd)} {f : Nat} (h : FreeB S f) (x : Bd) : (docB 0 (putS S f x)).Perm ((f, x) :: docB 0 S) := by
  obtain ⟨P, Q, e0, e1, _, _, _, e2⟩ := h.parts
  rw [h.put, e0, e1, e2]
  exact List.perm_middle
theorem FreeB.len {S : List (Option Bd)} {f : Nat} (h : FreeB S f) (e : f = S.length) : (docB 0 S).length = S.length := by
  have := (docB_full 0 S (fun j hj => h.all j (by omega))).1
  exact this
theorem putS_at {S : List (Option Bd)} {f : Nat} (hf : f ≤ S.length) (x : Bd) (j : Nat) : (putS S f x)[j]? = if j = f then some (some x) else S[j]? := by
  unfold putS
  split
  · rename_i e
    rw [List.getElem?_append]
    split
    · rw [if_neg (by omega)]
    · by_cases hj : j = f
      · rw [if_pos hj, hj, e]; simp
      · rw [if_neg hj, List.getElem?_eq_none (l := S) (by omega), List.getElem?_eq_none (by simp; omega)]
  · rw [List.getElem?_set]
    by_cases hj : j = f
    · rw [if_pos hj.symm, if_pos (by omega), if_pos hj]
    · rw [if_neg (fun e => hj e.symm), if_neg hj]
/-- The slots behind Remove. -/
theorem docB_none : ∀ (i : Nat) (S : List (Option Bd)) (k : Nat), docB i (S.set k none) = (docB i S).filter (fun e => decide (e.1 ≠ i + k))
  | _, [], _ => by simp [docB]
  | i, none :: S, 0 => by
    rw [List.set_cons_zero, docB]
    symm
    rw [List.filter_eq_self]
    intro e he
    have := (docB_mem.1 he).1
    simp; omega
  | i, some x :: S, 0 => by
    rw [List.set_cons_zero, docB, docB, List.filter_cons, if_neg (by simp)]
    symm
    rw [List.filter_eq_self]
    intro e he
    have := (docB_mem.1 he).1
    simp; omega
  | i, none :: S, k + 1 => by
    rw [List.set_cons_succ, docB, docB, docB_none (i + 1) S k, show i + 1 + k = i + (k + 1) from by omega]
  | i, some x :: S, k + 1 => by
    rw [List.set_cons_succ, docB, docB, docB_none (i + 1) S k, List.filter_cons, if_pos (by simp), show i + 1 + k = i + (k + 1) from by omega]
/-- What is removed, and the rest. -/
theorem docB_pull {S : List (Option Bd)} {k : Nat} {x : Bd} (h : S[k]? = some (some x)) : (docB 0 S).Perm ((k, x) :: docB 0 (S.set k none)) ∧ (docB 0 S).length = (docB 0 (S.set k none)).length + 1 := by
  have hk : k < S.length := (List.getElem?_eq_some_iff.1 h).1
  have hs : S = S.take k ++ some x :: S.drop (k + 1) := by
    have hd : S.drop k = S[k] :: S.drop (k + 1) := List.drop_eq_getElem_cons hk
    have hx : S[k] = some x := by
      have := List.getElem?_eq_getElem hk
      rw [this] at h; exact Option.some.inj h
    rw [← hx, ← hd, List.take_append_drop]
  have hl : (S.take k).length = k := by rw [List.length_take]; omega
  have e1 : docB 0 S = docB 0 (S.take k) ++ (k, x) :: docB (k + 1) (S.drop (k + 1)) := by
    have := docB_app 0 (S.take k) (some x :: S.drop (k + 1))
    rwa [← hs, hl, Nat.zero_add, docB] at this
  have e2 : docB 0 (S.set k none) = docB 0 (S.take k) ++ docB (k + 1) (S.drop (k + 1)) := by
    have e3 : S.set k none = S.take k ++ none :: S.drop (k + 1) := by rw [List.set_eq_take_append_cons_drop, if_pos hk]
    rw [e3, docB_app, hl, Nat.zero_add, docB]
  rw [e1, e2]
  refine ⟨List.perm_middle, ?_⟩
  simp; omega
theorem FreeB.pull {S : List (Option Bd)} {f k : Nat} {x : Bd} (h : FreeB S f) (hx : S[k]? = some (some x)) : FreeB (S.set k none) (min f k) := by
  have hk : k < S.length := (List.getElem?_eq_some_iff.1 hx).1
  refine ⟨by rw [List.length_set]; omega, fun j hj => ?_, fun y hy => ?_⟩
  · obtain ⟨z, hz⟩ := h.all j (by omega)
    exact ⟨z, by rw [List.getElem?_set, if_neg (by omega)]; exact hz⟩
  · rw [List.getElem?_set] at hy
    by_cases hfk : k ≤ f
    · rw [if_pos (by omega), if_pos hk] at hy; cases hy
    · rw [if_neg (by omega), show min f k = f from by omega] at hy
      exact h.not y hy
/-- Which binding has this number. -/
theorem docB_find {S : List (Option Bd)} (k : Nat) : (docB 0 S).find? (fun e => decide (e.1 = k)) = ((S[k]?).join).map (fun x => (k, x)) := by
  cases hj : (S[k]?).join with
  | none =>
    rw [Option.map_none, List.find?_eq_none]
    intro e he h
    obtain ⟨h1, h2⟩ := docB_mem.1 he
    have hk : e.1 = k := by simpa using h
    rw [Nat.sub_zero, hk] at h2
    rw [h2] at hj
    cases hj
  | some x =>
    have hS : S[k]? = some (some x) := by
      cases hg : S[k]? with
      | none => rw [hg] at hj; cases hj
      | some y => rw [hg] at hj; simp at hj; rw [hj]
    have hm : (k, x) ∈ docB 0 S := docB_mem.2 ⟨Nat.zero_le _, by simpa using hS⟩
    rw [Option.map_some]
    cases hf : (docB 0 S).find? (fun e => decide (e.1 = k)) with
    | none => exact absurd (List.find?_eq_none.1 hf _ hm) (by simp)
    | some e =>
      have h1 := List.mem_of_find?_eq_some hf
      have h2 : e.1 = k := by simpa using List.find?_some hf
      obtain ⟨_, h3⟩ := docB_mem.1 h1
      rw [Nat.sub_zero, h2, hS] at h3
      obtain ⟨e1, e2⟩ := e
      simp only [Option.some.injEq] at h3 h2
      rw [h2, h3]
/-! ### The tables' entries -/
def inE (l : List (Nat × Bd)) : List Ent := l.map (fun e => ⟨txtN e.2.inn, (e.1 : Int)⟩)
def ouE (l : List (Nat × Bd)) : List Ent := l.map (fun e => ⟨txtN e.2.out, (e.1 : Int)⟩)
theorem inE_key {l : List (Nat × Bd)} {x : Bd} (h : ∀ e ∈ l, e.2.inn ≠ x.inn) : ∀ y ∈ inE l, y.key ≠ txtN x.inn := by
  intro y hy hk
  obtain ⟨e, he, rfl⟩ := List.mem_map.1 hy
  exact h e he (txtN_inj rfl hk)
theorem ouE_key {l : List (Nat × Bd)} {x : Bd} (h : ∀ e ∈ l, e.2.out ≠ x.out) : ∀ y ∈ ouE l, y.key ≠ txtN x.out := by
  intro y hy hk
  obtain ⟨e, he, rfl⟩ := List.mem_map.1 hy
  exact h e he (txtN_inj rfl hk)
end Go.Proofs.YtafidbjaeopciaaDoor

/-
  Words on memory that every later text of this seat uses: a slice that reads as a list of bytes. Conditions: none; plain definitions and lemmas.
-/
namespace Go.Proofs.YtafidbjaeopciaaDoor
open Go.RowKit

/-- The number of byte j. A plain definition: the walk leaves it standing. -/
def byt (bs : List UInt8) (j : Nat) : Int := ((bs[j]?.getD 0).toNat : Int)
theorem byt_lo (bs : List UInt8) (j : Nat) : 0 ≤ byt bs j := by unfold byt; omega
theorem byt_hi (bs : List UInt8) (j : Nat) : byt bs j ≤ 255 := by
  unfold byt; have := (bs[j]?.getD 0).toNat_lt; omega

/-- The cells of a list of bytes. -/
def row (bs : List UInt8) : List Value := bs.map fun x => .int .u8 (x.toNat : Int)
theorem row_length (bs : List UInt8) : (row bs).length = bs.length := by simp [row]
theorem row_get (bs : List UInt8) {j : Nat} (h : j < bs.length) : (row bs)[j]? = some (.int .u8 (byt bs j)) := by
  simp [row, byt, h]
theorem row_append (a b : List UInt8) : row (a ++ b) = row a ++ row b := by simp [row]
theorem row_one (bs : List UInt8) : ∀ u ∈ row bs, u.oneCell' = true := by
  intro u hu; simp only [row, List.mem_map] at hu; obtain ⟨x, _, rfl⟩ := hu; rfl
theorem row_getD (bs : List UInt8) {j : Nat} (h : j < bs.length) {u : Value} (hu : (row bs)[j]? = some u) : u = .int .u8 (byt bs j) := by
  rw [row_get bs h] at hu; exact (Option.some.inj hu).symm

/-- The slice at A, of bs.length elements, reads as bs; its cells lie below block B. -/
def Rd (w : World) (B : Nat) (A : Option Addr) (bs : List UInt8) : Prop :=
  0 < bs.length → ∃ b off, A = some ⟨b, off, none⟩ ∧ b < B ∧ ∀ j, j < bs.length → w.cell? ⟨b, off + j, none⟩ = some (.int .u8 (byt bs j))

section
variable {w w' : World} {B B' : Nat} {A : Option Addr} {bs : List UInt8}
theorem Rd.nil : Rd w B A [] := fun h => absurd h (by simp)
theorem Rd.keep (h : Rd w B A bs) (hk : ∀ p : Addr, p.block < B → w'.cell? p = w.cell? p) : Rd w' B A bs := fun hn => by
  obtain ⟨b, off, e, hb, hc⟩ := h hn
  exact ⟨b, off, e, hb, fun j hj => (hk ⟨b, off + j, none⟩ hb).trans (hc j hj)⟩
theorem Rd.more (h : Rd w B A bs) (hB : B ≤ B') : Rd w B' A bs := fun hn => by
  obtain ⟨b, off, e, hb, hc⟩ := h hn
  exact ⟨b, off, e, by omega, hc⟩
theorem Rd.below (h : Rd w B A bs) (hb : Below B w w') : Rd w' B A bs := h.keep fun _ hp => hb.cell hp
theorem Rd.alloc (h : Rd w B A bs) (hB : B ≤ w.heap.size) (o : Obj) : Rd (w.alloc o) B A bs := h.keep fun p hp => World.cell?_alloc_lt w o p (by omega)
theorem Rd.drewN (h : Rd w B A bs) (k : Nat) : Rd (w.drewN k) B A bs := h
theorem Rd.grown (h : Rd w B A bs) {r : Option Nat} (hg : w.grownBy w' r) (hB : B ≤ w.heap.size) (hr : ∀ g, r = some g → B ≤ g) : Rd w' B A bs :=
  h.keep fun p hp => World.cell?_of_block (hg.block p.block (by omega) (fun e => by have := hr _ e.symm; omega))
theorem Rd.of_block {g t : Nat} {cur : Array Value} (hg : w.heap[g]? = some (.cells cur t (0, 0))) (hB : g < B) (off : Nat)
    (hc : ∀ j, j < bs.length → cur[off + j]? = some (.int .u8 (byt bs j))) : Rd w B (some ⟨g, off, none⟩) bs := fun _ =>
  ⟨g, off, rfl, hB, fun j hj => by rw [cell_of_row w g (off + j) cur t (0, 0) hg]; exact hc j hj⟩
theorem Rd.of_own {base e n c : Nat} (hn' : n = bs.length) (h : w.ownsRow base e 1 (.slice A n c) n (row bs)) : Rd w w.heap.size A bs := fun hn => by
  subst hn'
  rcases h.2 with ⟨_, h0⟩ | ⟨g, cap, cur, hv, _, hh, hle, _, hs, ht⟩
  · omega
  · have hA : A = some ⟨g, 0, none⟩ := by injection hv
    subst hA
    refine ⟨g, 0, rfl, (Array.getElem?_eq_some_iff.1 hh).1, fun j hj => ?_⟩
    rw [cell_of_row w g (0 + j) cur e (0, 0) hh, Nat.zero_add]
    have h1 : (List.take (bs.length * 1) cur.toList)[j]? = some (.int .u8 (byt bs j)) := by rw [ht]; exact row_get bs hj
    rw [List.getElem?_take, if_pos (by omega)] at h1
    simpa using h1
end

theorem add_off (b off j : Nat) : (⟨b, off, none⟩ : Addr).add j = ⟨b, off + j, none⟩ := by unfold Addr.add; split <;> simp_all
theorem cell_block {w : World} {a : Addr} {v : Value} (h : w.cell? a = some v) : a.block < w.heap.size := by
  rcases Nat.lt_or_ge a.block w.heap.size with hlt | hge
  · exact hlt
  · unfold World.cell? at h; rw [Array.getElem?_eq_none hge] at h; cases h
/-- A slice of bytes as it is handed over: it reads as bs; nil has no capacity. -/
structure Arg (w : World) (B : Nat) (A : Option Addr) (c : Nat) (bs : List UInt8) : Prop where
  rd : Rd w B A bs
  cap : bs.length ≤ c
  none_ : A = none → c = 0
theorem Arg.below {w w' : World} {B : Nat} {A : Option Addr} {c : Nat} {bs : List UInt8} (h : Arg w B A c bs) (hb : Below B w w') : Arg w' B A c bs := ⟨h.rd.below hb, h.cap, h.none_⟩
theorem Arg.nil (w : World) (B : Nat) : Arg w B none 0 [] := ⟨Rd.nil, Nat.le_refl _, fun _ => rfl⟩
theorem Arg.more {w : World} {B B' : Nat} {A : Option Addr} {c : Nat} {bs : List UInt8} (h : Arg w B A c bs) (hB : B ≤ B') : Arg w B' A c bs := ⟨h.rd.more hB, h.cap, h.none_⟩
theorem Arg.alloc {w : World} {B : Nat} {A : Option Addr} {c : Nat} {bs : List UInt8} (h : Arg w B A c bs) (hB : B ≤ w.heap.size) (o : Obj) : Arg (w.alloc o) B A c bs := ⟨h.rd.alloc hB o, h.cap, h.none_⟩
theorem Arg.drewN {w : World} {B : Nat} {A : Option Addr} {c : Nat} {bs : List UInt8} (h : Arg w B A c bs) (n : Nat) : Arg (w.drewN n) B A c bs := ⟨h.rd.drewN n, h.cap, h.none_⟩
/-- The slice of integers at A reads as zs; its cells lie below block B. -/
def RdI (w : World) (B : Nat) (A : Option Addr) (zs : List Int) : Prop :=
  0 < zs.length → ∃ b off, A = some ⟨b, off, none⟩ ∧ b < B ∧ ∀ j, j < zs.length → w.cell? ⟨b, off + j, none⟩ = some (.int .i64 (zs.getD j 0))
theorem RdI.keep {w w' : World} {B : Nat} {A : Option Addr} {zs : List Int} (h : RdI w B A zs) (hk : ∀ p : Addr, p.block < B → w'.cell? p = w.cell? p) : RdI w' B A zs := fun hn => by
  obtain ⟨b, off, e, hb, hc⟩ := h hn
  exact ⟨b, off, e, hb, fun j hj => (hk ⟨b, off + j, none⟩ hb).trans (hc j hj)⟩
theorem RdI.below {w w' : World} {B : Nat} {A : Option Addr} {zs : List Int} (h : RdI w B A zs) (hb : Below B w w') : RdI w' B A zs := h.keep fun _ hp => hb.cell hp
theorem RdI.alloc {w : World} {B : Nat} {A : Option Addr} {zs : List Int} (h : RdI w B A zs) (hB : B ≤ w.heap.size) (o : Obj) : RdI (w.alloc o) B A zs := h.keep fun p hp => World.cell?_alloc_lt w o p (by omega)
theorem wraps_i64 (n : Int) (h₀ : 0 ≤ n) (h₁ : n < 2 ^ 62) : IntKind.i64.wrap n = n := by rw [IntKind.wrap_i64]; omega
theorem or_byte (q x : Int) (h0 : 0 ≤ q) (h1 : q < 16777216) (h2 : 0 ≤ x) (h3 : x ≤ 255) : bits .or .i64 (q * 256) x = q * 256 + x :=
  bits_join .i64 62 (by decide) wraps_i64 8 _ _ (by omega) (by omega) (by omega) h2 (by omega) (by omega)
end Go.Proofs.YtafidbjaeopciaaDoor

/-
  Texts that are cut at a byte, again and again, and joined by it: plain lists of bytes, no program. Conditions are each theorem's own.
-/
namespace Go.Proofs.YtafidbjaeopciaaDoor

/-- The bytes ahead of the first c, those behind it, and is there one. -/
def cutc (c : UInt8) : List UInt8 → List UInt8 × List UInt8 × Bool
  | [] => ([], [], false)
  | x :: l => if x = c then ([], l, true) else (x :: (cutc c l).1, (cutc c l).2.1, (cutc c l).2.2)
theorem cutc_hit (c : UInt8) : ∀ (p r : List UInt8), c ∉ p → cutc c (p ++ c :: r) = (p, r, true)
  | [], r, _ => by simp [cutc]
  | x :: p, r, h => by
    simp only [List.mem_cons, not_or] at h
    have := cutc_hit c p r h.2
    simp [cutc, this, Ne.symm h.1]
theorem cutc_miss (c : UInt8) : ∀ (p : List UInt8), c ∉ p → cutc c p = (p, [], false)
  | [], _ => rfl
  | x :: p, h => by
    simp only [List.mem_cons, not_or] at h
    have := cutc_miss c p h.2
    simp [cutc, this, Ne.symm h.1]
theorem cutc_true (c : UInt8) : ∀ (l : List UInt8), (cutc c l).2.2 = true → l = (cutc c l).1 ++ c :: (cutc c l).2.1
  | [], h => by simp [cutc] at h
  | x :: l, h => by
    by_cases hx : x = c
    · subst hx; simp [cutc]
    · simp only [cutc, if_neg hx] at h ⊢
      have := cutc_true c l h
      simp only [List.cons_append, List.cons.injEq, true_and]
      exact this
theorem cutc_false (c : UInt8) : ∀ (l : List UInt8), (cutc c l).2.2 = false → l = (cutc c l).1 ∧ (cutc c l).2.1 = []
  | [], _ => ⟨rfl, rfl⟩
  | x :: l, h => by
    by_cases hx : x = c
    · subst hx; simp [cutc] at h
    · simp only [cutc, if_neg hx] at h ⊢
      have := cutc_false c l h
      exact ⟨by rw [← this.1], this.2⟩

theorem cutc_len (c : UInt8) : ∀ (l : List UInt8), (cutc c l).1.length ≤ l.length ∧ (cutc c l).2.1.length ≤ l.length
  | [] => ⟨Nat.le_refl _, Nat.le_refl _⟩
  | x :: l => by
    have ih := cutc_len c l
    unfold cutc
    split
    · exact ⟨by simp, by simp⟩
    · exact ⟨by simp; exact ih.1, by simp; omega⟩

/-- What is left behind k cuts; is there more; the part of cut k. -/
def rst (c : UInt8) (s : List UInt8) : Nat → List UInt8
  | 0 => s
  | k + 1 => (cutc c (rst c s k)).2.1
def mor (c : UInt8) (s : List UInt8) : Nat → Bool
  | 0 => true
  | k + 1 => (cutc c (rst c s k)).2.2
def prt (c : UInt8) (s : List UInt8) (k : Nat) : List UInt8 := (cutc c (rst c s k)).1
theorem rst_len (c : UInt8) (s : List UInt8) : ∀ k, (rst c s k).length ≤ s.length
  | 0 => Nat.le_refl _
  | k + 1 => Nat.le_trans (cutc_len c (rst c s k)).2 (rst_len c s k)
theorem prt_len (c : UInt8) (s : List UInt8) (k : Nat) : (prt c s k).length ≤ s.length := Nat.le_trans (cutc_len c (rst c s k)).1 (rst_len c s k)
theorem rst_shift (c : UInt8) (s : List UInt8) : ∀ k, rst c s (k + 1) = rst c (rst c s 1) k
  | 0 => rfl
  | k + 1 => by
    show (cutc c (rst c s (k + 1))).2.1 = _
    rw [rst_shift c s k]; rfl
theorem prt_shift (c : UInt8) (s : List UInt8) (k : Nat) : prt c s (k + 1) = prt c (rst c s 1) k := by
  unfold prt; rw [rst_shift]
theorem mor_shift (c : UInt8) (s : List UInt8) (k : Nat) : mor c s (k + 1 + 1) = mor c (rst c s 1) (k + 1) := by
  show (cutc c (rst c s (k + 1))).2.2 = (cutc c (rst c (rst c s 1) k)).2.2
  rw [rst_shift]
theorem rst_nil (c : UInt8) : ∀ k, rst c [] k = []
  | 0 => rfl
  | k + 1 => by show (cutc c (rst c [] k)).2.1 = []; rw [rst_nil c k]; rfl
theorem prt_nil (c : UInt8) (k : Nat) : prt c [] k = [] := by unfold prt; rw [rst_nil]; rfl
/-- What was joined is cut into its parts. -/
theorem cut_join (c : UInt8) : ∀ (ps : List (List UInt8)) (p : List UInt8), (∀ q ∈ p :: ps, c ∉ q) →
    (∀ k, k < (p :: ps).length → prt c (Lib.join (p :: ps) [c]) k = ((p :: ps)[k]?).getD []) ∧ mor c (Lib.join (p :: ps) [c]) (p :: ps).length = false
  | [], p, h => by
    have hc := cutc_miss c p (h p (by simp))
    rw [Lib.join_one]
    refine ⟨fun k hk => ?_, ?_⟩
    · obtain rfl : k = 0 := by simp at hk; omega
      show (cutc c p).1 = _
      rw [hc]; rfl
    · show (cutc c p).2.2 = false
      rw [hc]
  | q :: ps, p, h => by
    have hj : Lib.join (p :: q :: ps) [c] = p ++ c :: Lib.join (q :: ps) [c] := by
      rw [Lib.join_cons, Lib.join_cons]; simp [Lib.joinTail]
    have hc := cutc_hit c p (Lib.join (q :: ps) [c]) (h p (by simp))
    have ih := cut_join c ps q (fun x hx => h x (List.mem_cons_of_mem _ hx))
    have h1 : rst c (Lib.join (p :: q :: ps) [c]) 1 = Lib.join (q :: ps) [c] := by
      show (cutc c (Lib.join (p :: q :: ps) [c])).2.1 = _
      rw [hj, hc]
    refine ⟨fun k hk => ?_, ?_⟩
    · cases k with
      | zero =>
        show (cutc c (Lib.join (p :: q :: ps) [c])).1 = _
        rw [hj, hc]; rfl
      | succ k =>
        rw [prt_shift, h1]
        have := ih.1 k (by simp at hk ⊢; omega)
        simpa using this
    · show mor c _ (ps.length + 1 + 1) = false
      rw [mor_shift, h1]
      exact ih.2
/-- What was cut, each part of which holds a byte, is its parts joined. -/
theorem join_cut (c : UInt8) : ∀ (ps : List (List UInt8)) (p s : List UInt8), (∀ k, k < (p :: ps).length → prt c s k = ((p :: ps)[k]?).getD []) → (∀ q ∈ p :: ps, q ≠ []) → mor c s (p :: ps).length = false →
    Lib.join (p :: ps) [c] = s
  | [], p, s, h, _, hm => by
    have h0 := h 0 (by simp)
    have hf := cutc_false c s hm
    rw [Lib.join_one]
    have : prt c s 0 = (cutc c s).1 := rfl
    rw [this] at h0
    simp only [List.getElem?_cons_zero, Option.getD_some] at h0
    rw [← h0]; exact hf.1.symm
  | q :: ps, p, s, h, hne, hm => by
    have h0 : (cutc c s).1 = p := by have := h 0 (by simp); simp only [List.getElem?_cons_zero, Option.getD_some] at this; exact this
    have ht : (cutc c s).2.2 = true := by
      cases e : (cutc c s).2.2 with
      | true => rfl
      | false =>
        have hf := cutc_false c s e
        have h1 := h 1 (by simp)
        rw [prt_shift, show rst c s 1 = [] from hf.2, prt_nil] at h1
        simp only [List.getElem?_cons_succ, List.getElem?_cons_zero, Option.getD_some] at h1
        exact absurd h1.symm (hne q (by simp))
    have hs := cutc_true c s ht
    have ih := join_cut c ps q (rst c s 1) (fun k hk => by
      have := h (k + 1) (by simp at hk ⊢; omega)
      rw [prt_shift] at this
      simpa using this) (fun x hx => hne x (List.mem_cons_of_mem _ hx)) (by
      have hm' : mor c s (ps.length + 1 + 1) = false := hm
      rw [mor_shift] at hm'
      exact hm')
    have hj : Lib.join (p :: q :: ps) [c] = p ++ c :: Lib.join (q :: ps) [c] := by
      rw [Lib.join_cons, Lib.join_cons]; simp [Lib.joinTail]
    rw [hj, ih]
    rw [h0] at hs
    exact hs.symm
end Go.Proofs.YtafidbjaeopciaaDoor

/-
  Texts of numbers and of addresses of IPv4, in plain lists of bytes: no program. Conditions are each theorem's own.
-/
namespace Go.Proofs.YtafidbjaeopciaaDoor

/-- A number below 256 in decimal digits. -/
def dec (n : Nat) : List UInt8 :=
  if n < 10 then [UInt8.ofNat (48 + n)] else if n < 100 then [UInt8.ofNat (48 + n / 10), UInt8.ofNat (48 + n % 10)] else [UInt8.ofNat (48 + n / 100), UInt8.ofNat (48 + n / 10 % 10), UInt8.ofNat (48 + n % 10)]
/-- An address's text. -/
def txt (a : Nat) : List UInt8 := dec (a / 16777216) ++ [46] ++ dec (a / 65536 % 256) ++ [46] ++ dec (a / 256 % 256) ++ [46] ++ dec (a % 256)

theorem dec_len {n : Nat} : 1 ≤ (dec n).length ∧ (dec n).length ≤ 3 := by
  unfold dec; split
  · simp
  · split <;> simp
theorem txt_len {a : Nat} : (txt a).length ≤ 15 := by
  have h1 := @dec_len (a / 16777216); have h2 := @dec_len (a / 65536 % 256); have h3 := @dec_len (a / 256 % 256); have h4 := @dec_len (a % 256)
  simp only [txt, List.length_append, List.length_singleton]; omega

/-- One step of reading a text: the parts that are done, and the part under way. -/
def pst (s : Option (Nat × Nat)) (c : UInt8) : Option (Nat × Nat) :=
  match s with
  | none => none
  | some (n, p) =>
    if c = 46 then (if n * 256 + p ≤ 16777215 then some (n * 256 + p, 0) else none)
    else if 48 ≤ c.toNat ∧ c.toNat ≤ 57 then (if p * 10 + (c.toNat - 48) ≤ 255 ∧ n ≤ 16777215 then some (n, p * 10 + (c.toNat - 48)) else none)
    else none
def pfold (s : Option (Nat × Nat)) (l : List UInt8) : Option (Nat × Nat) := l.foldl pst s
theorem pfold_append (s : Option (Nat × Nat)) (a b : List UInt8) : pfold s (a ++ b) = pfold (pfold s a) b := by simp [pfold]
theorem pfold_none (l : List UInt8) : pfold none l = none := by
  induction l with
  | nil => rfl
  | cons c l ih => simpa [pfold, pst] using ih

theorem pst_digit {n p d : Nat} (hd : d < 10) (hn : n ≤ 16777215) (hp : p * 10 + d ≤ 255) : pst (some (n, p)) (UInt8.ofNat (48 + d)) = some (n, p * 10 + d) := by
  have e : (UInt8.ofNat (48 + d)).toNat = 48 + d := by simp [UInt8.toNat_ofNat']; omega
  have h46 : UInt8.ofNat (48 + d) ≠ 46 := by intro h; have := congrArg UInt8.toNat h; rw [e] at this; simp at this; omega
  unfold pst
  simp only [h46, if_false, e]
  rw [if_pos (by omega), if_pos (by omega)]
  congr 2; omega
theorem pst_dot {n p : Nat} (h : n * 256 + p ≤ 16777215) : pst (some (n, p)) 46 = some (n * 256 + p, 0) := by simp [pst, h]
theorem pfold_dec {n d : Nat} (hn : n ≤ 16777215) (hd : d < 256) : pfold (some (n, 0)) (dec d) = some (n, d) := by
  unfold dec
  split
  · simp only [pfold, List.foldl_cons, List.foldl_nil]; rw [pst_digit (by omega) hn (by omega)]; congr 2; omega
  · split
    · simp only [pfold, List.foldl_cons, List.foldl_nil]
      rw [pst_digit (by omega) hn (by omega), pst_digit (by omega) hn (by omega)]; congr 2; omega
    · simp only [pfold, List.foldl_cons, List.foldl_nil]
      rw [pst_digit (by omega) hn (by omega), pst_digit (by omega) hn (by omega), pst_digit (by omega) hn (by omega)]; congr 2; omega
theorem pfold_txt {a : Nat} (h : a < 4294967296) : pfold (some (0, 0)) (txt a) = some (a / 256, a % 256) := by
  have dot : ∀ s, pfold s [46] = pst s 46 := fun s => rfl
  simp only [txt, pfold_append, dot]
  rw [pfold_dec (by omega) (by omega), pst_dot (by omega), pfold_dec (by omega) (by omega), pst_dot (by omega), pfold_dec (by omega) (by omega), pst_dot (by omega), pfold_dec (by omega) (by omega)]
  congr 2; omega
theorem pfold_bd : ∀ (l : List UInt8) {n p : Nat} {n0 p0 : Nat}, n0 ≤ 16777215 → p0 ≤ 255 → pfold (some (n0, p0)) l = some (n, p) → n ≤ 16777215 ∧ p ≤ 255
  | [], n, p, n0, p0, h1, h2, h => by simp [pfold] at h; omega
  | c :: l, n, p, n0, p0, h1, h2, h => by
    have h' : pfold (pst (some (n0, p0)) c) l = some (n, p) := h
    cases e : pst (some (n0, p0)) c with
    | none => rw [e, pfold_none] at h'; cases h'
    | some q =>
      obtain ⟨n1, p1⟩ := q
      rw [e] at h'
      refine pfold_bd l ?_ ?_ h'
      all_goals
        unfold pst at e
        dsimp only at e
        split at e
        · split at e
          · simp at e; omega
          · cases e
        · split at e
          · split at e
            · simp at e; omega
            · cases e
          · cases e
theorem txt_inj {a b : Nat} (ha : a < 4294967296) (hb : b < 4294967296) (h : txt a = txt b) : a = b := by
  have h1 := pfold_txt ha
  rw [h, pfold_txt hb] at h1
  simp at h1; omega

theorem pst_no {n p : Nat} {c : UInt8} (h : (c.toNat = 46 ∧ 16777215 < n * 256 + p) ∨ (c.toNat ≠ 46 ∧ (c.toNat < 48 ∨ 57 < c.toNat)) ∨ (c.toNat ≠ 46 ∧ 255 < p * 10 + (c.toNat - 48))) : pst (some (n, p)) c = none := by
  have h46 : c = 46 ↔ c.toNat = 46 := ⟨fun e => by rw [e]; rfl, fun e => UInt8.toNat_inj.1 e⟩
  unfold pst
  dsimp only
  split
  · rw [if_neg (by rw [h46] at *; omega)]
  · split
    · rw [if_neg (by rw [h46] at *; omega)]
    · rfl
theorem pst_46 {n p : Nat} {c : UInt8} (h : c.toNat = 46) (h2 : n * 256 + p ≤ 16777215) : pst (some (n, p)) c = some (n * 256 + p, 0) := by
  have : c = 46 := UInt8.toNat_inj.1 h
  subst this; exact pst_dot h2
theorem pst_dec {n p : Nat} {c : UInt8} (h : 48 ≤ c.toNat) (h2 : c.toNat ≤ 57) (h3 : p * 10 + (c.toNat - 48) ≤ 255) (hn : n ≤ 16777215) : pst (some (n, p)) c = some (n, p * 10 + (c.toNat - 48)) := by
  have e : c = UInt8.ofNat (48 + (c.toNat - 48)) := UInt8.toNat_inj.1 (by simp [UInt8.toNat_ofNat']; omega)
  have := pst_digit (n := n) (p := p) (d := c.toNat - 48) (by omega) hn h3
  rw [← e] at this
  exact this
theorem pfold_take {l : List UInt8} {k : Nat} {s : Option (Nat × Nat)} (h : k < l.length) : pfold s (l.take (k + 1)) = pst (pfold s (l.take k)) l[k] := by
  rw [List.take_succ_eq_append_getElem h, pfold_append]; rfl

/-- The address that a text is, and the error's number. -/
noncomputable def parV (s : List UInt8) : Int := by
  classical exact if h : ∃ a, a < 4294967296 ∧ txt a = s then (Classical.choose h : Nat) else 0
noncomputable def parE (s : List UInt8) : Int := by
  classical exact if ∃ a, a < 4294967296 ∧ txt a = s then 0 else 4
theorem par_yes {s : List UInt8} {a : Nat} (ha : a < 4294967296) (h : txt a = s) : parV s = a ∧ parE s = 0 := by
  have hex : ∃ a, a < 4294967296 ∧ txt a = s := ⟨a, ha, h⟩
  unfold parV parE
  rw [dif_pos hex, if_pos hex]
  obtain ⟨h1, h2⟩ := Classical.choose_spec hex
  have : Classical.choose hex = a := txt_inj h1 ha (h2.trans h.symm)
  exact ⟨by rw [this], rfl⟩
theorem par_no {s : List UInt8} (h : ¬ ∃ a, a < 4294967296 ∧ txt a = s) : parV s = 0 ∧ parE s = 4 := by
  unfold parV parE
  rw [dif_neg h, if_neg h]; exact ⟨rfl, rfl⟩
/-- What reading tells: nothing, and it is no text. -/
theorem par_none {s : List UInt8} {k : Nat} (h : pfold (some (0, 0)) (s.take k) = none) : parV s = 0 ∧ parE s = 4 := by
  refine par_no fun ⟨a, ha, e⟩ => ?_
  have h1 := pfold_txt ha
  rw [e, ← List.take_append_drop k s, pfold_append, h, pfold_none] at h1
  cases h1
theorem par_long {s : List UInt8} (h : 15 < s.length) : parV s = 0 ∧ parE s = 4 :=
  par_no fun ⟨a, _, e⟩ => by have := @txt_len a; rw [e] at this; omega
/-- A number, and the text is its text, or no text at all. -/
theorem par_end {s : List UInt8} {n p : Nat} (h : pfold (some (0, 0)) s = some (n, p)) : (txt (n * 256 + p) = s → parV s = ((n * 256 + p : Nat) : Int) ∧ parE s = 0) ∧ (txt (n * 256 + p) ≠ s → parV s = 0 ∧ parE s = 4) := by
  have hb := pfold_bd s (by omega) (by omega) h
  refine ⟨fun e => par_yes (by omega) e, fun hne => par_no fun ⟨a, ha, e⟩ => hne ?_⟩
  have h1 := pfold_txt ha
  rw [e, h] at h1
  simp at h1
  have : n * 256 + p = a := by omega
  rw [this]; exact e
/-- A text is an address's, or none's. -/
theorem par_cases (s : List UInt8) : (∃ a : Nat, a < 4294967296 ∧ txt a = s ∧ parV s = a ∧ parE s = 0) ∨ (parV s = 0 ∧ parE s = 4) := by
  by_cases h : ∃ a, a < 4294967296 ∧ txt a = s
  · obtain ⟨a, ha, e⟩ := h
    exact .inl ⟨a, ha, e, par_yes ha e⟩
  · exact .inr (par_no h)
end Go.Proofs.YtafidbjaeopciaaDoor

/-
  Contracts of Go's library at this program, out of the library's own theorems (laid by program). Conditions are each theorem's own.
-/
namespace Go.Proofs
open Go.Shelf
def Tryd.laysM176_ren : Go.Shelf.Ren := ⟨fun | 176 => 44 | 249 => 47 | 288 => 48 | 283 => 49 | 284 => 50 | 285 => 51 | 286 => 52 | 129 => 54 | 317 => 53 | 318 => 55 | 319 => 56 | 320 => 57 | 337 => 58 | 338 => 59 | n => n, fun | 37 => 97 | 2 => 2 | 3 => 3 | 53 => 81 | 4 => 4 | 9 => 9 | 171 => 103 | 0 => 0 | 173 => 105 | 212 => 109 | 51 => 110 | 5 => 5 | 20 => 20 | 213 => 111 | 46 => 90 | 232 => 114 | 233 => 115 | n => n, fun | 17 => 0 | 18 => 1 | 19 => 2 | n => n⟩
theorem Tryd.laysM176 : Go.Proofs.LaysM.n176 Tryd.prog Tryd.laysM176_ren := {
  mixed := by kernel_rfl
  f129 := Tryd.func54.trans (congrArg some (by kernel_rfl))
  f176 := Tryd.func44.trans (congrArg some (by kernel_rfl))
  f249 := Tryd.func47.trans (congrArg some (by kernel_rfl))
  f283 := Tryd.func49.trans (congrArg some (by kernel_rfl))
  f284 := Tryd.func50.trans (congrArg some (by kernel_rfl))
  f285 := Tryd.func51.trans (congrArg some (by kernel_rfl))
  f286 := Tryd.func52.trans (congrArg some (by kernel_rfl))
  f288 := Tryd.func48.trans (congrArg some (by kernel_rfl))
  f317 := Tryd.func53.trans (congrArg some (by kernel_rfl))
  f318 := Tryd.func55.trans (congrArg some (by kernel_rfl))
  f319 := Tryd.func56.trans (congrArg some (by kernel_rfl))
  f320 := Tryd.func57.trans (congrArg some (by kernel_rfl))
  f337 := Tryd.func58.trans (congrArg some (by kernel_rfl))
  f338 := Tryd.func59.trans (congrArg some (by kernel_rfl))
  t0 := Tryd.underlying0
  a0 := Tryd.isAgg0
  z0 := Tryd.sizeOf0
  v0 := Tryd.zeroValue0
  t2 := Tryd.underlying2
  a2 := Tryd.isAgg2
  z2 := Tryd.sizeOf2
  v2 := Tryd.zeroValue2
  t3 := Tryd.underlying3
  a3 := Tryd.isAgg3
  z3 := Tryd.sizeOf3
  v3 := Tryd.zeroValue3
  t4 := Tryd.underlying4
  a4 := Tryd.isAgg4
  z4 := Tryd.sizeOf4
  v4 := Tryd.zeroValue4
  t5 := Tryd.underlying5
  a5 := Tryd.isAgg5
  z5 := Tryd.sizeOf5
  v5 := Tryd.zeroValue5
  t9 := Tryd.underlying9
  a9 := Tryd.isAgg9
  z9 := Tryd.sizeOf9
  v9 := Tryd.zeroValue9
  t20 := Tryd.underlying20
  a20 := Tryd.isAgg20
  z20 := Tryd.sizeOf20
  v20 := Tryd.zeroValue20
  t37 := Tryd.underlying97
  a37 := Tryd.isAgg97
  z37 := Tryd.sizeOf97
  v37 := Tryd.zeroValue97
  t46 := Tryd.underlying90
  a46 := Tryd.isAgg90
  z46 := Tryd.sizeOf90
  v46 := Tryd.zeroValue90
  t51 := Tryd.underlying110
  a51 := Tryd.isAgg110
  z51 := Tryd.sizeOf110
  v51 := Tryd.zeroValue110
  t53 := Tryd.underlying81
  a53 := Tryd.isAgg81
  z53 := Tryd.sizeOf81
  v53 := Tryd.zeroValue81
  t171 := Tryd.underlying103
  a171 := Tryd.isAgg103
  z171 := Tryd.sizeOf103
  v171 := Tryd.zeroValue103
  t173 := Tryd.underlying105
  a173 := Tryd.isAgg105
  z173 := Tryd.sizeOf105
  v173 := Tryd.zeroValue105
  t212 := Tryd.underlying109
  a212 := Tryd.isAgg109
  z212 := Tryd.sizeOf109
  v212 := Tryd.zeroValue109
  t213 := Tryd.underlying111
  a213 := Tryd.isAgg111
  z213 := Tryd.sizeOf111
  t232 := Tryd.underlying114
  a232 := Tryd.isAgg114
  z232 := Tryd.sizeOf114
  v232 := Tryd.zeroValue114
  t233 := Tryd.underlying115
  a233 := Tryd.isAgg115
  z233 := Tryd.sizeOf115
  v233 := Tryd.zeroValue115
  g17 := by kernel_rfl
  g18 := by kernel_rfl
  g19 := by kernel_rfl
  i0 := by kernel_rfl
  i2 := by kernel_rfl
  i3 := by kernel_rfl
  i4 := by kernel_rfl
  i5 := by kernel_rfl
  i9 := by kernel_rfl
  i20 := by kernel_rfl
  i37 := by kernel_rfl
  i46 := by kernel_rfl
  i51 := by kernel_rfl
  i53 := by kernel_rfl
  i171 := by kernel_rfl
  i173 := by kernel_rfl
  i212 := by kernel_rfl
  i232 := by kernel_rfl
  i233 := by kernel_rfl
  m17 := by kernel_rfl
  m18 := by kernel_rfl
  m19 := by kernel_rfl }
open Go.RowKit Go.Sort Go.Lib in
theorem Tryd.strconv_AppendInt_10 (B n : Nat) (i : Int) (h0 : -9223372036854775808 ≤ i) (h1 : i ≤ 9223372036854775807) (sv : Value) (xs : List Value) (w : World) (hown : w.ownsRow B 5 1 sv n xs) (hBw : B ≤ w.heap.size) (hlim : n + 21 ≤ 140737488355328) (htab : Lib.TabBelow Tryd.prog B w "internal/strconv.uint64pow10" .u64 Lib.pow10Tab) :
    Calls Tryd.prog 44 #[sv, .int .i64 i, .int .i64 10] w fun e w' => ∃ v', e = .returned v' ∧ w'.ownsRow B 5 1 v' (n + (Lib.itoa i).length) (xs ++ Lib.byteCells (Lib.itoa i)) ∧ Below B w w' ∧ Lib.OthersKept 5 none w w' := Any.strconv_AppendInt_10 Tryd.laysM176 B n i h0 h1 sv xs w hown hBw hlim htab
end Go.Proofs

/-
  Contracts of Go's library at this program: strings.Cut at one byte, strconv.Itoa below 256, strings.Join over strings that the call made. Conditions are each theorem's own.
-/
namespace Go.Proofs.YtafidbjaeopciaaDoor
open Go.RowKit

theorem strB_data (s : ByteArray) : s = strB s.data.toList := rfl
theorem cutc_none {l : List UInt8} {c : UInt8} (h : Lib.indexByte l c = -1) : cutc c l = (l, [], false) :=
  cutc_miss c l fun hm => by
    obtain ⟨k, hk⟩ := List.getElem?_of_mem hm
    exact Lib.indexByte_none h k hk
theorem cutc_some {l : List UInt8} {c : UInt8} {i : Nat} (h : Lib.indexByte l c = (i : Int)) : i < l.length ∧ cutc c l = (l.take i, l.drop (i + 1), true) := by
  obtain ⟨h1, h2⟩ := Lib.indexByte_some h
  obtain ⟨hi, he⟩ := List.getElem?_eq_some_iff.1 h1
  refine ⟨hi, ?_⟩
  have e : l = l.take i ++ c :: l.drop (i + 1) := by
    rw [← he, List.getElem_cons_drop, List.take_append_drop]
  have hn : c ∉ l.take i := fun hm => by
    obtain ⟨k, hk⟩ := List.getElem?_of_mem hm
    rw [List.getElem?_take] at hk
    split at hk
    · exact h2 k (by assumption) hk
    · cases hk
  have := cutc_hit c (l.take i) (l.drop (i + 1)) hn
  rwa [← e] at this
theorem ext_take (s : ByteArray) (i : Nat) : s.extract 0 i = strB (s.data.toList.take i) := by
  rw [strB_data (s.extract 0 i), Lib.extract_data]; simp
theorem ext_drop (s : ByteArray) (i : Nat) : s.extract i s.size = strB (s.data.toList.drop i) := by
  rw [strB_data (s.extract i s.size), Lib.extract_data, Lib.size_eq]
  congr 1
  exact List.take_of_length_le (by simp)

theorem below_grow (B : Nat) (w : World) (hB : B ≤ w.heap.size) (k : Nat) (os : Array Obj) : Below B w (Sort.grow (w.drewN k) os) :=
  ⟨rfl, rfl, rfl, by show w.heap.size ≤ (w.heap ++ os).size; rw [Array.size_append]; omega, fun j hj => Array.getElem?_append_left (show j < w.heap.size by omega)⟩

/-- The tables of the library that are read: they hold what their initialisers lay. -/
def Tabs (w : World) : Prop := Lib.TabIs Tryd.prog w "internal/strconv.uint64pow10" .u64 Lib.pow10Tab ∧ Lib.TabIs Tryd.prog w "math/bits.deBruijn64tab" .u8 (Lib.deBruijn64tab.map fun n : Nat => (n : Int))
theorem glob_pow : Tryd.prog.globalNamed "internal/strconv.uint64pow10" = some 0 := by kernel_rfl
theorem glob_bruijn : Tryd.prog.globalNamed "math/bits.deBruijn64tab" = some 2 := by kernel_rfl
theorem var_below {P : Program} {B g : Nat} {W W' : World} {n : String} {cs : Array Value} (h : Below B W W') (hg : P.globalNamed n = some g) (hgB : g < B) (hv : W.var? P n = some cs) : W'.var? P n = some cs := by
  unfold World.var? at hv ⊢
  simp only [hg, Option.bind_some] at hv ⊢
  rw [h.block g hgB]
  exact hv
theorem var_lt {P : Program} {g : Nat} {W : World} {n : String} {cs : Array Value} (hg : P.globalNamed n = some g) (hv : W.var? P n = some cs) : g < W.heap.size := by
  unfold World.var? at hv
  simp only [hg, Option.bind_some] at hv
  rcases Nat.lt_or_ge g W.heap.size with h | h
  · exact h
  · rw [Array.getElem?_eq_none h] at hv; cases hv
theorem Tabs.below {B : Nat} {w w' : World} (h : Tabs w) (hb : Below B w w') (hB : w.heap.size ≤ B) : Tabs w' :=
  ⟨var_below hb glob_pow (Nat.lt_of_lt_of_le (var_lt glob_pow h.1) hB) h.1, var_below hb glob_bruijn (Nat.lt_of_lt_of_le (var_lt glob_bruijn h.2) hB) h.2⟩
theorem Tabs.step {w w' : World} (h : Tabs w) (hb : Below w.heap.size w w') : Tabs w' := h.below hb (Nat.le_refl _)
theorem Tabs.alloc {w : World} (h : Tabs w) (o : Obj) : Tabs (w.alloc o) := h.below ((Below.refl w.heap.size w).alloc (Nat.le_refl _) o) (Nat.le_refl _)

theorem dec_digits {n : Nat} (h : n < 256) : Lib.decDigits n = dec n := by
  unfold dec
  split
  · rw [Lib.decDigits, dif_pos (by assumption)]
  · split
    · rw [Lib.decDigits, dif_neg (by assumption), Lib.decDigits, dif_pos (by omega)]; rfl
    · rw [Lib.decDigits, dif_neg (by assumption), Lib.decDigits, dif_neg (by omega), Lib.decDigits, dif_pos (by omega), Nat.div_div_eq_div_mul]; rfl
/-- Strings as values. -/
def sv (l : List UInt8) : Value := .string (strB l)
theorem sv_one (ls : List (List UInt8)) : ∀ u ∈ ls.map sv, u.oneCell' = true := by
  intro u hu; simp only [List.mem_map] at hu; obtain ⟨x, _, rfl⟩ := hu; rfl
theorem info_str : (Tryd.prog.info? 9).map (fun i => (i.zero, i.size, i.bytes)) = some (some (.string ByteArray.empty), 1, 16) := by kernel_rfl
end Go.Proofs.YtafidbjaeopciaaDoor

/-
  Contracts of be's small functions (isSize, holds, Fits, number, cut), as read off the program's text: what each answers, and that no memory turns. Conditions are each theorem's own.
-/
namespace Go.Proofs.YtafidbjaeopciaaDoor
open Go.RowKit

/-- A size is 1 to 4. -/
def sizeB (size : Int) : Bool := decide (1 ≤ size ∧ size ≤ 4)
theorem sizeB_yes {s : Int} (h1 : 1 ≤ s) (h2 : s ≤ 4) : sizeB s = true := by simp [sizeB, h1, h2]
theorem sizeB_no {s : Int} (h : s < 1 ∨ 4 < s) : sizeB s = false := by simp [sizeB]; omega

/-- The number that bytes are, the highest first. -/
def num : List UInt8 → Int := List.foldl (fun n x => n * 256 + (x.toNat : Int)) 0
theorem num_snoc (bs : List UInt8) (x : UInt8) : num (bs ++ [x]) = num bs * 256 + (x.toNat : Int) := by simp [num]
theorem num_take (bs : List UInt8) {k : Nat} (hk : k < bs.length) : num (bs.take (k + 1)) = num (bs.take k) * 256 + byt bs k := by
  rw [List.take_succ_eq_append_getElem hk, num_snoc]; simp [byt, hk]
theorem num_bd (bs : List UInt8) : 0 ≤ num bs ∧ num bs < 256 ^ bs.length := by
  suffices h : ∀ (bs : List UInt8) (n : Int) (k : Nat), 0 ≤ n → n < 256 ^ k → 0 ≤ List.foldl (fun n x => n * 256 + ((x : UInt8).toNat : Int)) n bs ∧ List.foldl (fun n x => n * 256 + ((x : UInt8).toNat : Int)) n bs < 256 ^ (k + bs.length) by
    simpa [num] using h bs 0 0 (by omega) (by simp)
  intro bs
  induction bs with
  | nil => intro n k h0 h1; simpa using ⟨h0, h1⟩
  | cons x l ih =>
    intro n k h0 h1
    have hx := x.toNat_lt
    have hp : (256 : Int) ^ (k + 1) = 256 ^ k * 256 := by rw [Int.pow_succ]
    have := ih (n * 256 + (x.toNat : Int)) (k + 1) (by omega) (by omega)
    simp only [List.foldl_cons, List.length_cons]
    rw [show k + (l.length + 1) = k + 1 + l.length from by omega]
    exact this
theorem num_small (bs : List UInt8) {k : Nat} (hk : k ≤ 3) : 0 ≤ num (bs.take k) ∧ num (bs.take k) < 16777216 := by
  have h := num_bd (bs.take k)
  refine ⟨h.1, Int.lt_of_lt_of_le h.2 ?_⟩
  have hl : (bs.take k).length ≤ 3 := by rw [List.length_take]; omega
  have h3 : (bs.take k).length = 0 ∨ (bs.take k).length = 1 ∨ (bs.take k).length = 2 ∨ (bs.take k).length = 3 := by omega
  rcases h3 with e | e | e | e <;> rw [e] <;> decide

/-- 256 to the power of k. A plain definition. -/
def pw (k : Nat) : Int := 256 ^ k
theorem pw_succ (k : Nat) : pw (k + 1) = pw k * 256 := by simp [pw, Int.pow_succ]
theorem pw_pos (k : Nat) : 1 ≤ pw k := by induction k with | zero => simp [pw] | succ k ih => rw [pw_succ]; omega
theorem pw_le {k : Nat} (h : k ≤ 4) : pw k ≤ 4294967296 := by
  have : k = 0 ∨ k = 1 ∨ k = 2 ∨ k = 3 ∨ k = 4 := by omega
  rcases this with rfl | rfl | rfl | rfl | rfl <;> decide

/-- Fits: n is a number of so many bytes. -/
def fitsB (n s : Int) : Bool := decide (1 ≤ s ∧ s ≤ 4 ∧ 0 ≤ n ∧ n < pw s.toNat)

theorem fitsB_iff {n s : Int} : fitsB n s = true ↔ 1 ≤ s ∧ s ≤ 4 ∧ 0 ≤ n ∧ n < pw s.toNat := by simp [fitsB]

/-! ### Get -/

/-- The number of size bytes from at on, and the error's number. -/
def getV (bs : List UInt8) (at_ s : Int) : Int := if 1 ≤ s ∧ s ≤ 4 ∧ 0 ≤ at_ ∧ at_ ≤ (bs.length : Int) - s then num ((bs.drop at_.toNat).take s.toNat) else 0
def getE (n : Nat) (at_ s : Int) : Int := if 1 ≤ s ∧ s ≤ 4 ∧ 0 ≤ at_ then (if at_ ≤ (n : Int) - s then 0 else 3) else 1
theorem getV_no {bs : List UInt8} {at_ s : Int} (h : ¬ (1 ≤ s ∧ s ≤ 4 ∧ 0 ≤ at_ ∧ at_ ≤ (bs.length : Int) - s)) : getV bs at_ s = 0 := by rw [getV, if_neg h]
theorem getE_arg {n : Nat} {at_ s : Int} (h : ¬ (1 ≤ s ∧ s ≤ 4 ∧ 0 ≤ at_)) : getE n at_ s = 1 := by rw [getE, if_neg h]
theorem getE_short {n : Nat} {at_ s : Int} (h : 1 ≤ s ∧ s ≤ 4 ∧ 0 ≤ at_) (h2 : ¬ at_ ≤ (n : Int) - s) : getE n at_ s = 3 := by rw [getE, if_pos h, if_neg h2]
theorem getE_ok {n : Nat} {at_ s : Int} (h : 1 ≤ s ∧ s ≤ 4 ∧ 0 ≤ at_) (h2 : at_ ≤ (n : Int) - s) : getE n at_ s = 0 := by rw [getE, if_pos h, if_pos h2]
theorem getV_ok {bs : List UInt8} {a s : Nat} (h1 : 1 ≤ s) (h4 : s ≤ 4) (h : a + s ≤ bs.length) : getV bs a s = num ((bs.drop a).take s) := by
  rw [getV, if_pos (by omega)]; simp

theorem byt_cut (bs : List UInt8) (a s : Nat) {j : Nat} (hj : j < s) : byt ((bs.drop a).take s) j = byt bs (a + j) := by
  unfold byt; rw [List.getElem?_take, if_pos hj, List.getElem?_drop]
theorem len_cut {bs : List UInt8} {a s : Nat} (h : a + s ≤ bs.length) : ((bs.drop a).take s).length = s := by simp; omega

theorem Rd.cut {w : World} {B b off : Nat} {bs : List UInt8} (a s : Nat) (hs : a + s ≤ bs.length) (hb : b < B)
    (hc : ∀ j, j < bs.length → w.cell? ⟨b, off + j, none⟩ = some (.int .u8 (byt bs j))) : Rd w B (some ⟨b, off + a, none⟩) ((bs.drop a).take s) := fun _ =>
  ⟨b, off + a, rfl, hb, fun j hj => by
    rw [len_cut hs] at hj
    rw [byt_cut bs a s hj, Nat.add_assoc]
    exact hc _ (by omega)⟩

end Go.Proofs.YtafidbjaeopciaaDoor

/-
  Contracts of be's functions that make memory: roomy, digits and its iterator, write, Put, Set, Words and its iterator. Conditions are each theorem's own.
-/
namespace Go.Proofs.YtafidbjaeopciaaDoor
open Go.RowKit Go.Shelf
attribute [local go_sem] Oper.semAt_some

theorem info_u8 : (Tryd.prog.info? 5).map (fun i => (i.zero, i.size, i.bytes)) = some (some (.int .u8 0), 1, 1) := by kernel_rfl
theorem size_u8 : (Tryd.prog.info? 5).map (·.size) = some 1 := by kernel_rfl
theorem made_rep (z : Value) (n : Nat) : madeCells #[z] n = (List.replicate n z).toArray := by
  apply Array.ext'; rw [toList_madeCells_one]

/-- bytes, and noughts behind them up to n. -/
def pad (bs : List UInt8) (n : Nat) : List UInt8 := bs ++ List.replicate (n - bs.length) 0
theorem pad_length {bs : List UInt8} {n : Nat} (h : bs.length ≤ n) : (pad bs n).length = n := by simp [pad]; omega
theorem row_pad (bs : List UInt8) (n : Nat) : splice (List.replicate n (.int .u8 0)) 0 (row bs) = row (pad bs n) := by
  simp [splice, row, pad]


theorem roomy_src {w : World} {B : Nat} {A : Option Addr} {bs : List UInt8} (h : Rd w B A bs) (hB : B ≤ w.heap.size) (o : Obj) (hp : 0 < (row bs).length) :
    some (⟨w.heap.size, 0, none⟩ : Addr) = some ⟨w.heap.size, 0, none⟩ ∧ ∃ ad, A = some ad ∧ ∀ j v, (row bs)[j]? = some v → (w.alloc o).cell? (ad.add j) = some v := by
  rw [row_length] at hp
  obtain ⟨b, off, rfl, hb, hc⟩ := (h.alloc hB o) hp
  refine ⟨rfl, _, rfl, fun j v hv => ?_⟩
  have hj : j < bs.length := by have := (List.getElem?_eq_some_iff.1 hv).1; rwa [row_length] at this
  rw [row_getD bs hj hv]
  rw [add_off]; exact hc j hj

/-! ### What a round keeps -/

/-- The blocks from lo on and below hi lie as they lay. -/
def Holds (lo hi : Nat) (W W' : World) : Prop := W.heap.size ≤ W'.heap.size ∧ ∀ k, lo ≤ k → k < hi → W'.heap[k]? = W.heap[k]?
theorem Holds.refl (lo hi : Nat) (W : World) : Holds lo hi W W := ⟨Nat.le_refl _, fun _ _ _ => rfl⟩
theorem Holds.trans {lo hi : Nat} {A B C : World} (h : Holds lo hi A B) (k : Holds lo hi B C) : Holds lo hi A C :=
  ⟨Nat.le_trans h.1 k.1, fun i h1 h2 => (k.2 i h1 h2).trans (h.2 i h1 h2)⟩
theorem Holds.b {lo hi : Nat} {w : World} (hh : hi ≤ w.heap.size) (W : World) (l : Nat) (o o' : Obj) (hl : w.heap.size ≤ l) (_ : W.heap[l]? = some o) (_ : o.isCells = false) (_ : o.isWalk = false) : Holds lo hi W (W.putObj l o') :=
  ⟨by simp, fun k _ h2 => World.putObj_heap_other (by omega)⟩
theorem Holds.setCell {lo hi : Nat} {W : World} {p : Addr} (hp : p.block < lo ∨ hi ≤ p.block) (v : Value) : Holds lo hi W (W.setCell p v) :=
  ⟨by simp [World.setCell], fun k h1 h2 => Below.heap_setCell W p v k (by omega)⟩
theorem Holds.of_below {lo hi B : Nat} {W W' : World} (h : Below B W W') (hB : hi ≤ B) : Holds lo hi W W' := ⟨h.size, fun k _ h2 => h.block k (by omega)⟩
theorem Holds.cell {lo hi : Nat} {W W' : World} (h : Holds lo hi W W') {p : Addr} (h1 : lo ≤ p.block) (h2 : p.block < hi) : W'.cell? p = W.cell? p := World.cell?_of_block (w := W) (h.2 p.block h1 h2)
theorem Holds.rd {lo hi : Nat} {W W' : World} (h : Holds lo hi W W') {b off n : Nat} {bs : List UInt8} (h1 : lo ≤ b) (h2 : b < hi)
    (hc : ∀ j, j < n → W.cell? ⟨b, off + j, none⟩ = some (.int .u8 (byt bs j))) : ∀ j, j < n → W'.cell? ⟨b, off + j, none⟩ = some (.int .u8 (byt bs j)) :=
  fun j hj => (h.cell (p := ⟨b, off + j, none⟩) h1 h2).trans (hc j hj)

/-! ### digits -/

/-- The byte at place i of n in s bytes. -/
def dig (n : Int) (s i : Nat) : UInt8 := UInt8.ofNat (n / pw (s - 1 - i)).toNat
theorem dig_val {n : Int} (h : 0 ≤ n) (s i : Nat) : ((dig n s i).toNat : Int) = n / pw (s - 1 - i) % 256 := by
  have h1 : 0 ≤ n / pw (s - 1 - i) := Int.ediv_nonneg h (by have := pw_pos (s - 1 - i); omega)
  simp only [dig, UInt8.toNat_ofNat']
  omega
def digs (n : Int) (s : Nat) : List UInt8 := (List.range s).map (dig n s)
theorem digs_length (n : Int) (s : Nat) : (digs n s).length = s := by simp [digs]

/-- The places of s, the first k. -/
def ups (s k : Nat) : List { i : Nat // i < s } := (List.range k).filterMap fun i => if h : i < s then some ⟨i, h⟩ else none
theorem ups_succ {s k : Nat} (h : k < s) : ups s (k + 1) = ups s k ++ [⟨k, h⟩] := by
  simp [ups, List.range_succ, List.filterMap_append, h]
theorem ups_length {s k : Nat} (h : k ≤ s) : (ups s k).length = k := by
  induction k with
  | zero => simp [ups]
  | succ k ih => rw [ups_succ (by omega)]; simp [ih (by omega)]

/-- What yield is handed. -/
def encD (n : Int) (s : Nat) (x : { i : Nat // i < s }) : Array Value := #[.int .i64 (x.1 : Int), .int .u8 ((dig n s x.1).toNat : Int)]

theorem shift_dig {n : Int} (h : 0 ≤ n) {s i : Nat} (hi : i < s) (h4 : s ≤ 4) :
    ((dig n s i).toNat : Int) = n / 2 ^ (8 * (s - 1 - i)) % 256 := by
  rw [dig_val h]
  obtain ⟨m, hm⟩ : ∃ m, m = s - 1 - i := ⟨_, rfl⟩
  rw [← hm]
  have h4 : m = 0 ∨ m = 1 ∨ m = 2 ∨ m = 3 := by omega
  rcases h4 with rfl | rfl | rfl | rfl <;> simp [pw]

/-! ### write -/

/-- What the cells are when the places of pre are written. -/
def setD (bs : List UInt8) (off : Nat) (n : Int) (s : Nat) (pre : List { i : Nat // i < s }) : List UInt8 := pre.foldl (fun l x => l.set (off + x.1) (dig n s x.1)) bs
theorem setD_snoc (bs : List UInt8) (off : Nat) (n : Int) (s : Nat) (pre : List { i : Nat // i < s }) (x : { i : Nat // i < s }) :
    setD bs off n s (pre ++ [x]) = (setD bs off n s pre).set (off + x.1) (dig n s x.1) := by simp [setD]
theorem setD_length (bs : List UInt8) (off : Nat) (n : Int) (s : Nat) (pre : List { i : Nat // i < s }) : (setD bs off n s pre).length = bs.length := by
  unfold setD
  induction pre generalizing bs with
  | nil => rfl
  | cons x l ih => rw [List.foldl_cons, ih, List.length_set]
theorem splice_set {α : Type} (bs ds : List α) (off : Nat) (x : α) (h : off + ds.length < bs.length) : (splice bs off ds).set (off + ds.length) x = splice bs off (ds ++ [x]) := by
  apply List.ext_getElem?
  intro i
  simp only [splice, List.getElem?_set, List.getElem?_append, List.length_take, List.length_append, List.length_drop, List.getElem?_drop, List.getElem?_take, List.length_cons, List.length_nil]
  by_cases h1 : i < off
  · have e : ¬ off + ds.length = i := by omega
    have e1 : i < min off bs.length := by omega
    simp [e, e1]
  · by_cases h2 : i < off + ds.length
    · have e : ¬ off + ds.length = i := by omega
      have e1 : ¬ i < min off bs.length := by omega
      have e2 : i - min off bs.length < ds.length := by omega
      have e3 : i - min off bs.length < ds.length + 1 := by omega
      simp [e, e1, e2, e3]
    · by_cases h3 : i = off + ds.length
      · subst h3
        have e1 : ¬ off + ds.length < min off bs.length := by omega
        have e2 : ¬ off + ds.length - min off bs.length < ds.length := by omega
        have e3 : off + ds.length - min off bs.length < ds.length + 1 := by omega
        have e4 : off + ds.length - min off bs.length - ds.length = 0 := by omega
        simp [e1, e2, e3, e4]
        omega
      · have e : ¬ off + ds.length = i := by omega
        have e1 : ¬ i < min off bs.length := by omega
        have e2 : ¬ i - min off bs.length < ds.length := by omega
        have e3 : ¬ i - min off bs.length < ds.length + 1 := by omega
        simp [e, e1, e2, e3]
        congr 1
        omega
theorem setD_ups (bs : List UInt8) (off : Nat) (n : Int) (s k : Nat) (hk : k ≤ s) (h : off + s ≤ bs.length) : setD bs off n s (ups s k) = splice bs off ((List.range k).map (dig n s)) := by
  induction k with
  | zero => simp [ups, setD, splice]
  | succ k ih =>
    rw [ups_succ (by omega), setD_snoc, ih (by omega), List.range_succ, List.map_append, List.map_singleton]
    have hl : ((List.range k).map (dig n s)).length = k := by simp
    have := splice_set bs ((List.range k).map (dig n s)) off (dig n s k) (by rw [hl]; omega)
    rw [hl] at this
    exact this
theorem setD_all (bs : List UInt8) (off : Nat) (n : Int) (s : Nat) (h : off + s ≤ bs.length) : setD bs off n s (ups s s) = splice bs off (digs n s) := setD_ups bs off n s s (Nat.le_refl _) h
theorem row_set (bs : List UInt8) (i : Nat) (x : UInt8) : (row bs).toArray.setIfInBounds i (.int .u8 (x.toNat : Int)) = (row (bs.set i x)).toArray := by
  simp [row, List.map_set]

theorem heap_set {W : World} {g t : Nat} {cs : Array Value} (h : W.heap[g]? = some (.cells cs t (0, 0))) (i : Nat) (v : Value) :
    (W.setCell ⟨g, i, none⟩ v).heap[g]? = some (.cells (cs.setIfInBounds i v) t (0, 0)) := by
  simp [World.setCell, Array.getElem?_modify, h]
theorem heap_frozen {W : World} {g t : Nat} {cs : Array Value} (h : W.heap[g]? = some (.cells cs t (0, 0))) (i : Nat) : W.frozen? ⟨g, i, none⟩ = false := by
  simp [World.frozen?, h]
theorem heap_lt {W : World} {g : Nat} {o : Obj} (h : W.heap[g]? = some o) : g < W.heap.size := (Array.getElem?_eq_some_iff.1 h).1
theorem row_cell {W : World} {g t : Nat} {bs : List UInt8} (h : W.heap[g]? = some (.cells (row bs).toArray t (0, 0))) {i : Nat} (hi : i < bs.length) :
    W.cell? ⟨g, i, none⟩ = some (.int .u8 (byt bs i)) := by
  rw [cell_of_row W g i _ t (0, 0) h]
  simpa using row_get bs hi
/-- Only block g, and what is new, has turned. -/
theorem grown_then {a w w' : World} {g B : Nat} {r : Option Nat} (h : a.grownBy w (some g)) (hg : w.grownBy w' r) (hB : a.heap.size ≤ B) (hr : ∀ k, r = some k → B ≤ k) : a.grownBy w' (some g) :=
  ⟨hg.os.trans h.os, hg.tape.trans h.tape, hg.output.trans h.output, Nat.le_trans h.size hg.size, fun i hi hne => (hg.block i (Nat.lt_of_lt_of_le hi h.size) (fun e => by have := hr i e.symm; omega)).trans (h.block i hi hne)⟩
theorem grown_set {a w : World} {g : Nat} (h : a.grownBy w (some g)) (i : Nat) (v : Value) : a.grownBy (w.setCell ⟨g, i, none⟩ v) (some g) :=
  ⟨h.os, h.tape, h.output, by simpa [World.setCell] using h.size, fun k hk hne => (Below.heap_setCell w ⟨g, i, none⟩ v k (fun e => hne (by rw [e]))).trans (h.block k hk hne)⟩
theorem grown_below {a w : World} {g : Nat} (h : Below a.heap.size a w) : a.grownBy w (some g) := ⟨h.os, h.tape, h.output, h.size, fun i hi _ => h.block i hi⟩

/-! ### New slices of bytes -/

/-- v is a slice of the bytes bs in memory that came after w; nothing of w has turned. -/
def Made (w w' : World) (v : Value) (bs : List UInt8) : Prop :=
  ∃ A c, v = .slice A bs.length c ∧ bs.length ≤ c ∧ Rd w' w'.heap.size A bs ∧ w'.ownsRow w.heap.size 5 1 v bs.length (row bs) ∧ Below w.heap.size w w'
theorem Made.of_own {w w' : World} {v : Value} {bs : List UInt8} (h : w'.ownsRow w.heap.size 5 1 v bs.length (row bs)) (hb : Below w.heap.size w w') : Made w w' v bs := by
  have h' := h
  rcases h'.2 with ⟨rfl, h0⟩ | ⟨g, cap, cur, rfl, _, _, hle, _⟩
  · obtain rfl : bs = [] := List.eq_nil_of_length_eq_zero h0
    exact ⟨none, 0, rfl, Nat.le_refl _, Rd.nil, h, hb⟩
  · exact ⟨_, cap, rfl, hle, Rd.of_own rfl h, h, hb⟩
theorem Made.nil (w w' : World) (hb : Below w.heap.size w w') : Made w w' (.slice none 0 0) [] := Made.of_own (World.ownsRow_nil _ _ _ _) hb
theorem own_of_block {w : World} {base g t : Nat} {bs : List UInt8} (hb : base ≤ g) (h : w.heap[g]? = some (.cells (row bs).toArray t (0, 0))) (hm : bs.length ≤ 1099511627780) :
    w.ownsRow base t 1 (.slice (some ⟨g, 0, none⟩) bs.length bs.length) bs.length (row bs) :=
  ⟨by simp [row_length], .inr ⟨g, bs.length, (row bs).toArray, rfl, hb, h, Nat.le_refl _, by unfold maxLen; omega, by simp [row_length], by rw [Nat.mul_one, List.take_of_length_le (by simp [row_length])]⟩⟩

/-- Put: bs, and n's bytes behind, if it fits. -/
def putB (bs : List UInt8) (n s : Int) : List UInt8 := if fitsB n s then bs ++ digs n s.toNat else bs
theorem splice_end (bs : List UInt8) (k : Nat) (ds : List UInt8) (h : ds.length = k) : splice (pad bs (bs.length + k)) bs.length ds = bs ++ ds := by
  simp [splice, pad, ← h]

/-! ### Set -/
def setE (len : Nat) (at_ n s : Int) : Int := if fitsB n s then getE len at_ s else 1
def setB (bs : List UInt8) (at_ n s : Int) : List UInt8 := if fitsB n s ∧ 0 ≤ at_ ∧ at_ ≤ (bs.length : Int) - s then splice bs at_.toNat (digs n s.toNat) else []

end Go.Proofs.YtafidbjaeopciaaDoor
