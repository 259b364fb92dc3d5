/-
  Contracts and lemmas on which the proofs of this seat stand (several texts in one). Conditions are each theorem's own.
-/
import Derived.Test.YthdaclbgandmcaaRows
import Derived.WalkKit
import Derived.WalkSpells
import Derived.Lib.Hide
import Derived.Outline
import Derived.IntWalk
import Derived.Laws.CopyOwn
import Derived.OwnWalk
import Derived.Below
import Derived.Laws.OwnMore
import Derived.Laws.Rows
import Derived.Deep.Draws
import Derived.Deep.OwnRows
import Derived.RangeFuncBox
import Derived.RangeFuncNested
import Derived.RangeFuncBound
import Derived.RangeFuncCalls
import Derived.RangeFuncLeaves
import Derived.Shelf.Abstract
import Derived.Shelf.RegionOpen
import Derived.OwnWalkIn
import Derived.TacticsInMore
import Derived.LoopNIn
import Derived.LoopIn
import Derived.Laws.AppendOwnNone
import Derived.Laws.BytesArg
import Derived.Lib.SliceRun
import Derived.Deep.QuietTactic
import Derived.BigQuiet
import Derived.Deep.RegionHeld3
import Derived.Deep.MidRow
import Derived.Maps.RangeWalk

/-
  Small words that every text of this seat uses: endings that agree, the string of bytes. Conditions: none; plain lemmas.
-/
namespace Go.Proofs.Ythdaclbgandmcaa
open Go.RowKit

theorem ret_bool {a b : Bool} (h : a = b) : Ending.returned (.bool a) = .returned (.bool b) := by rw [h]
theorem ret_int {k : IntKind} {a b : Int} (h : a = b) : Ending.returned (.int k a) = .returned (.int k b) := by rw [h]
theorem ret_two {k : IntKind} {a b e : Int} (h : a = b) : Ending.returned (.tuple #[.int k a, .int .i64 e]) = .returned (.tuple #[.int k b, .int .i64 e]) := by rw [h]
theorem ret_str {a b : ByteArray} (h : a = b) : Ending.returned (.string a) = .returned (.string b) := by rw [h]

/-- The string of bytes. A plain definition. -/
def strB (bs : List UInt8) : ByteArray := ⟨bs.toArray⟩
theorem strB_eq (xs bs : List UInt8) : ((strB xs).toList == (strB bs).toList) = decide (xs = bs) := by
  rw [strB, strB, ByteArray.toList_mk, ByteArray.toList_mk, Bool.eq_iff_iff]; simp
theorem strB_append (xs bs : List UInt8) : strB xs ++ strB bs = strB (xs ++ bs) := by
  simp [strB, ByteArray.ext_iff]
theorem strB_size (bs : List UInt8) : (strB bs).size = bs.length := by simp [strB, ByteArray.size]
/-- '+' of two strings of bytes, within bounds. -/
theorem sadd (x y : List UInt8) (h : x.length + y.length ≤ 1000000) (w : World) : (Op.stringOp .add (strB x) (strB y)).run Try.prog w = .ok (.string (strB (x ++ y))) w := by
  have h1 := run_string_add_sum (P := Try.prog) (w := w) (strB x) (strB y) (by rw [strB_size, strB_size]; omega)
  rw [strB_append] at h1
  exact h1
end Go.Proofs.Ythdaclbgandmcaa

/-
  Places of an array, in which keys are looked for one behind the other: what is found, put, and taken out. No program. Conditions are each theorem's own.
-/
namespace Go.Proofs.Ythdaclbgandmcaa

/-- A key, and what it has. -/
structure Ent where
  key : List UInt8
  n : Int
/-- q lies in front of i, seen from h, round the array. -/
def Btw (h i q : Nat) : Prop := (h ≤ i ∧ h ≤ q ∧ q < i) ∨ (i < h ∧ (h ≤ q ∨ q < i))
/-- What stands at a place. -/
def plH (L : List (Option Ent)) (i : Nat) : Option Ent := (L[i]?).join
theorem plH_lt {L : List (Option Ent)} {i : Nat} {e : Ent} (h : plH L i = some e) : i < L.length := by
  by_cases hl : i < L.length
  · exact hl
  · rw [plH, List.getElem?_eq_none (by omega)] at h; cases h
theorem plH_set {L : List (Option Ent)} {i : Nat} {v : Option Ent} (hi : i < L.length) (j : Nat) : plH (L.set i v) j = if i = j then v else plH L j := by
  unfold plH
  rw [List.getElem?_set]
  by_cases h : i = j
  · subst h; simp [hi]
  · simp [h]
theorem plH_rep (n i : Nat) : plH (List.replicate n none) i = none := by
  unfold plH
  rw [List.getElem?_replicate]
  split <;> rfl
/-- Every key is found: all places from its own to where it stands are taken; and no key stands twice. -/
structure Prb (hm : List UInt8 → Nat) (L : List (Option Ent)) : Prop where
  home : ∀ k, hm k < L.length
  path : ∀ i e, plH L i = some e → ∀ q, q < L.length → Btw (hm e.key) i q → plH L q ≠ none
  uniq : ∀ i j e f, plH L i = some e → plH L j = some f → e.key = f.key → i = j
/-- The place r rounds behind h. -/
def rnd (N h r : Nat) : Nat := if h + r < N then h + r else h + r - N
theorem rnd_lt {N h r : Nat} (hh : h < N) (hr : r < N) : rnd N h r < N := by unfold rnd; split <;> omega
theorem rnd_mod {N h r : Nat} (hh : h ≤ N) (hr : r < N) : (h + r) % N = rnd N h r := by
  unfold rnd
  split
  · exact Nat.mod_eq_of_lt (by assumption)
  · rw [Nat.mod_eq_sub_mod (by omega), Nat.mod_eq_of_lt (by omega)]
/-- What the first r rounds saw: places that are taken by other keys. -/
def Seen (L : List (Option Ent)) (k : List UInt8) (h r : Nat) : Prop := ∀ d, d < r → ∃ e, plH L (rnd L.length h d) = some e ∧ e.key ≠ k
theorem btw_rnd {N h r q : Nat} (hh : h < N) (_ : r < N) (hq : q < N) (hb : Btw h (rnd N h r) q) : ∃ d, d < r ∧ q = rnd N h d := by
  unfold Btw rnd at *
  by_cases h1 : h ≤ q
  · refine ⟨q - h, ?_, ?_⟩ <;> (split at hb <;> (try split) <;> omega)
  · refine ⟨q + N - h, ?_, ?_⟩ <;> (split at hb <;> (try split) <;> omega)
theorem rnd_btw {N h r q : Nat} (hh : h < N) (_ : r < N) (hq : q < N) (hn : ∀ d, d ≤ r → q ≠ rnd N h d) : Btw h q (rnd N h r) := by
  unfold Btw
  by_cases h1 : h ≤ q
  · have h2 := hn (q - h)
    unfold rnd at *
    rw [if_pos (by omega)] at h2
    by_cases h3 : q - h ≤ r
    · exact absurd (by omega) (h2 h3)
    · rw [if_pos (by omega)]; omega
  · have h2 := hn (q + N - h)
    unfold rnd at *
    rw [if_neg (by omega)] at h2
    by_cases h3 : q + N - h ≤ r
    · exact absurd (by omega) (h2 h3)
    · split <;> omega
/-- A free place behind others: the key is not there. -/
theorem Prb.absent {hm : List UInt8 → Nat} {L : List (Option Ent)} (p : Prb hm L) {k : List UInt8} {r : Nat} (hr : r < L.length) (hs : Seen L k (hm k) r) (hf : plH L (rnd L.length (hm k) r) = none) : ∀ i e, plH L i = some e → e.key ≠ k := by
  intro i e he hk
  have hi := plH_lt he
  have hh := p.home k
  refine p.path i e he (rnd L.length (hm k) r) (rnd_lt hh hr) ?_ hf
  rw [hk]
  refine rnd_btw hh hr hi fun d hd e1 => ?_
  rcases Nat.lt_or_eq_of_le hd with h | h
  · obtain ⟨f, hf1, hf2⟩ := hs d h
    rw [← e1, he] at hf1
    injection hf1 with hf1
    exact hf2 (hf1 ▸ hk)
  · rw [h] at e1
    rw [← e1, he] at hf
    cases hf
/-- All places seen: the key is not there. -/
theorem absent_all {L : List (Option Ent)} {k : List UInt8} {h : Nat} (hh : h < L.length) (hs : Seen L k h L.length) : ∀ i e, plH L i = some e → e.key ≠ k := by
  intro i e he hk
  have hi := plH_lt he
  have : ∃ d, d < L.length ∧ i = rnd L.length h d := by
    by_cases h1 : h ≤ i
    · exact ⟨i - h, by omega, by unfold rnd; split <;> omega⟩
    · exact ⟨i + L.length - h, by omega, by unfold rnd; split <;> omega⟩
  obtain ⟨d, hd, e1⟩ := this
  obtain ⟨f, hf1, hf2⟩ := hs d hd
  rw [← e1, he] at hf1
  injection hf1 with hf1
  exact hf2 (hf1 ▸ hk)
theorem all_taken {L : List (Option Ent)} {h : Nat} (hh : h < L.length) (hs : ∀ d, d < L.length → plH L (rnd L.length h d) ≠ none) : ∀ i, i < L.length → plH L i ≠ none := by
  intro i hi
  have : ∃ d, d < L.length ∧ i = rnd L.length h d := by
    by_cases h1 : h ≤ i
    · exact ⟨i - h, by omega, by unfold rnd; split <;> omega⟩
    · exact ⟨i + L.length - h, by omega, by unfold rnd; split <;> omega⟩
  obtain ⟨d, hd, e⟩ := this
  rw [e]; exact hs d hd
/-- The entries of an array. -/
def ents (L : List (Option Ent)) : List Ent := L.filterMap id
theorem mem_ents {L : List (Option Ent)} {e : Ent} : e ∈ ents L ↔ ∃ i, plH L i = some e := by
  unfold ents plH
  rw [List.mem_filterMap]
  constructor
  · rintro ⟨o, ho, rfl⟩
    obtain ⟨i, hi⟩ := List.getElem?_of_mem ho
    exact ⟨i, by rw [hi]; rfl⟩
  · rintro ⟨i, hi⟩
    cases h : L[i]? with
    | none => rw [h] at hi; cases hi
    | some o =>
      rw [h] at hi
      exact ⟨o, List.mem_of_getElem? h, hi⟩
theorem ents_put : ∀ {L : List (Option Ent)} {i : Nat} {e : Ent}, i < L.length → plH L i = none → (ents (L.set i (some e))).Perm (e :: ents L)
  | [], _, _, h, _ => absurd h (Nat.not_lt_zero _)
  | o :: L, 0, e, _, hn => by
    have : o = none := hn
    subst this
    simp [ents]
  | o :: L, i + 1, e, h, hn => by
    have h1 := ents_put (L := L) (i := i) (e := e) (Nat.lt_of_succ_lt_succ h) hn
    cases o with
    | none => simpa [ents] using h1
    | some x =>
      have h2 : ents ((some x :: L).set (i + 1) (some e)) = x :: ents (L.set i (some e)) := by simp [ents]
      rw [h2]
      have h3 : ents (some x :: L) = x :: ents L := by simp [ents]
      rw [h3]
      exact (h1.cons x).trans (List.Perm.swap e x _)
theorem ents_take : ∀ {L : List (Option Ent)} {i : Nat} {e : Ent}, plH L i = some e → (ents L).Perm (e :: ents (L.set i none))
  | [], _, _, h => by cases h
  | o :: L, 0, e, hn => by
    have : o = some e := hn
    subst this
    simp [ents]
  | o :: L, i + 1, e, hn => by
    have h1 := ents_take (L := L) (i := i) (e := e) hn
    cases o with
    | none => simpa [ents] using h1
    | some x =>
      have h2 : ents ((some x :: L).set (i + 1) none) = x :: ents (L.set i none) := by simp [ents]
      rw [h2]
      have h3 : ents (some x :: L) = x :: ents L := by simp [ents]
      rw [h3]
      exact (h1.cons x).trans (List.Perm.swap e x _)
theorem ents_rep (n : Nat) : ents (List.replicate n none) = [] := by
  induction n with
  | zero => rfl
  | succ n ih => rw [List.replicate_succ]; exact ih
theorem ents_len : ∀ L : List (Option Ent), (ents L).length ≤ L.length
  | [] => Nat.le_refl _
  | none :: L => by have := ents_len L; simp [ents] at *; omega
  | some x :: L => by have := ents_len L; simp [ents] at *; omega
/-- Fewer entries than places: one is free. -/
theorem free_of_lt : ∀ {L : List (Option Ent)}, (ents L).length < L.length → ∃ i, i < L.length ∧ plH L i = none
  | [], h => absurd h (Nat.not_lt_zero _)
  | none :: L, _ => ⟨0, Nat.zero_lt_succ _, rfl⟩
  | some x :: L, h => by
    obtain ⟨i, h1, h2⟩ := free_of_lt (L := L) (by simp [ents] at *; omega)
    exact ⟨i + 1, Nat.succ_lt_succ h1, h2⟩
/-- Its array is free. -/
theorem prb_new (hm : List UInt8 → Nat) (n : Nat) (h : ∀ k, hm k < n) : Prb hm (List.replicate n none) where
  home k := by rw [List.length_replicate]; exact h k
  path i e he := by rw [plH_rep] at he; cases he
  uniq i j e f he := by rw [plH_rep] at he; cases he
/-- What a key has is changed. -/
theorem Prb.change {hm : List UInt8 → Nat} {L : List (Option Ent)} (p : Prb hm L) {i : Nat} {e : Ent} (he : plH L i = some e) (n : Int) : Prb hm (L.set i (some ⟨e.key, n⟩)) := by
  have hi := plH_lt he
  have hk : ∀ j f, plH (L.set i (some ⟨e.key, n⟩)) j = some f → ∃ f', plH L j = some f' ∧ f'.key = f.key := fun j f hf => by
    rw [plH_set hi] at hf
    split at hf
    · rename_i h; subst h; injection hf with hf; subst hf; exact ⟨e, he, rfl⟩
    · exact ⟨f, hf, rfl⟩
  refine ⟨fun k => by rw [List.length_set]; exact p.home k, fun j f hf q hq hb => ?_, fun a b x y hx hy hxy => ?_⟩
  · obtain ⟨f', h1, h2⟩ := hk j f hf
    rw [List.length_set] at hq
    rw [plH_set hi]
    split
    · simp
    · exact p.path j f' h1 q hq (h2 ▸ hb)
  · obtain ⟨x', h1, h2⟩ := hk a x hx
    obtain ⟨y', h3, h4⟩ := hk b y hy
    exact p.uniq a b x' y' h1 h3 (h2.trans (hxy.trans h4.symm))
theorem ents_change {L : List (Option Ent)} {i : Nat} {e : Ent} (he : plH L i = some e) (f : Ent) : ∃ R, (ents L).Perm (e :: R) ∧ (ents (L.set i (some f))).Perm (f :: R) := by
  have hi := plH_lt he
  refine ⟨ents (L.set i none), ents_take he, ?_⟩
  have := ents_put (L := L.set i none) (i := i) (e := f) (by rw [List.length_set]; exact hi) (by rw [plH_set hi, if_pos rfl])
  rwa [List.set_set] at this
/-- A key that is not there comes to the first free place. -/
theorem Prb.put {hm : List UInt8 → Nat} {L : List (Option Ent)} (p : Prb hm L) {x : Ent} (hno : ∀ i e, plH L i = some e → e.key ≠ x.key) {r : Nat} (hr : r < L.length) (hs : ∀ d, d < r → plH L (rnd L.length (hm x.key) d) ≠ none) :
    Prb hm (L.set (rnd L.length (hm x.key) r) (some x)) := by
  have hh := p.home x.key
  have hi := rnd_lt hh hr
  refine ⟨fun k => by rw [List.length_set]; exact p.home k, fun j f hf q hq hb => ?_, fun a b y z hy hz hyz => ?_⟩
  · rw [List.length_set] at hq
    rw [plH_set hi] at hf ⊢
    split
    · simp
    · split at hf
      · rename_i h
        injection hf with hf
        subst hf h
        obtain ⟨d, hd, e⟩ := btw_rnd hh hr hq hb
        rw [e]; exact hs d hd
      · exact p.path j f hf q hq hb
  · rw [plH_set hi] at hy hz
    split at hy <;> split at hz
    · rename_i h1 h2; exact h1.symm.trans h2
    · injection hy with hy; subst hy; exact absurd hyz.symm (hno b z hz)
    · injection hz with hz; subst hz; exact absurd hyz (hno a y hy)
    · exact p.uniq a b y z hy hz hyz
/-- How far p is behind h, round the array. -/
def wayF (N h p : Nat) : Nat := if h ≤ p then p - h else p + N - h
theorem way_btw {N h p g : Nat} (hh : h < N) (_ : p < N) (hg : g < N) (hne : g ≠ p) : wayF N g p ≤ wayF N h p ↔ Btw h p g := by
  unfold wayF Btw
  split <;> split <;> omega
/-- How far a place is behind g. -/
def offs (N g x : Nat) : Nat := if g ≤ x then x - g else x + N - g
theorem offs_or {N g : Nat} (hg : g < N) (x : Nat) : (g ≤ x ∧ offs N g x + g = x) ∨ (x < g ∧ offs N g x + g = x + N) := by unfold offs; split <;> omega
/-- How far the closing of a gap has come, after r rounds: the array as if the gap were free. -/
structure Clo (hm : List UInt8 → Nat) (g0 : Nat) (V : List (Option Ent)) (g r : Nat) : Prop where
  home : ∀ k, hm k < V.length
  gz : g0 < V.length
  gl : g < V.length
  gr : offs V.length g0 g ≤ r
  gap : plH V g = none
  free : ∃ f, f < V.length ∧ plH V f = none ∧ r < offs V.length g0 f
  path : ∀ i e, plH V i = some e → ∀ q, q < V.length → Btw (hm e.key) i q → plH V q ≠ none ∨ (q = g ∧ r < offs V.length g0 i)
  uniq : ∀ i j e f, plH V i = some e → plH V j = some f → e.key = f.key → i = j
theorem Prb.close {hm : List UInt8 → Nat} {L : List (Option Ent)} (p : Prb hm L) {i : Nat} {x : Ent} (hx : plH L i = some x) (hf : ∃ f, f < L.length ∧ plH L f = none) : Clo hm i (L.set i none) i 0 := by
  have hi := plH_lt hx
  have hs : ∀ j e, plH (L.set i none) j = some e → j ≠ i ∧ plH L j = some e := fun j e h => by
    rw [plH_set hi] at h
    split at h
    · cases h
    · rename_i h1; exact ⟨fun e => h1 e.symm, h⟩
  refine ⟨fun k => by rw [List.length_set]; exact p.home k, by rw [List.length_set]; exact hi, by rw [List.length_set]; exact hi, by simp [offs], by rw [plH_set hi, if_pos rfl], ?_, ?_, ?_⟩
  · obtain ⟨f, h1, h2⟩ := hf
    have hne : i ≠ f := fun e => by rw [← e, hx] at h2; cases h2
    refine ⟨f, by rw [List.length_set]; exact h1, by rw [plH_set hi, if_neg hne]; exact h2, ?_⟩
    rw [List.length_set]
    unfold offs; split <;> omega
  · intro j e he q hq hb
    obtain ⟨h1, h2⟩ := hs j e he
    have hj := plH_lt h2
    rw [List.length_set] at hq ⊢
    by_cases h : q = i
    · right
      refine ⟨h, ?_⟩
      unfold offs; split <;> omega
    · left
      rw [plH_set hi, if_neg (fun e => h e.symm)]
      exact p.path j e h2 q hq hb
  · intro a b e f he hf hk
    exact p.uniq a b e f (hs a e he).2 (hs b f hf).2 hk
theorem offs_rnd {N g r : Nat} (hg : g < N) (hr : r + 1 < N) : offs N g (rnd N (g + 1) r) = r + 1 ∧ rnd N (g + 1) r < N := by
  unfold offs rnd
  split <;> split <;> omega
/-- Behind the last round all keys are found. -/
theorem Clo.ends {hm : List UInt8 → Nat} {g0 g r : Nat} {V : List (Option Ent)} (c : Clo hm g0 V g r) {a : Nat} (ha : a < V.length) (hat : offs V.length g0 a = r + 1) (hf : plH V a = none) : Prb hm V := by
  refine ⟨c.home, fun i e he q hq hb => ?_, c.uniq⟩
  rcases c.path i e he q hq hb with h | ⟨h1, h2⟩
  · exact h
  · subst h1
    intro _
    have hi := plH_lt he
    have hia : i ≠ a := fun e1 => by rw [e1, hf] at he; cases he
    have hl := c.home e.key
    have hgr := c.gr
    have hg0 := c.gz
    rcases c.path i e he a ha (by have := offs_or hg0 a; have := offs_or hg0 i; have := offs_or hg0 q; unfold Btw at *; omega) with h | ⟨h3, _⟩
    · exact h hf
    · rw [h3] at hat; omega
/-- A round ends at the latest when all are seen. -/
theorem Clo.round {hm : List UInt8 → Nat} {g0 g r : Nat} {V : List (Option Ent)} (c : Clo hm g0 V g r) : r + 1 < V.length := by
  obtain ⟨f, h1, _, h3⟩ := c.free
  have := c.gz
  unfold offs at h3; split at h3 <;> omega
/-- One that would be found stays. -/
theorem Clo.stay {hm : List UInt8 → Nat} {g0 g r : Nat} {V : List (Option Ent)} (c : Clo hm g0 V g r) {a : Nat} {x : Ent} (hat : offs V.length g0 a = r + 1) (hx : plH V a = some x) (hb : ¬ Btw (hm x.key) a g) : Clo hm g0 V g (r + 1) := by
  have ha := plH_lt hx
  have hg0 := c.gz
  obtain ⟨f, f1, f2, f3⟩ := c.free
  have hfa : f ≠ a := fun e => by rw [e, hx] at f2; cases f2
  refine ⟨c.home, c.gz, c.gl, by have := c.gr; omega, c.gap, ⟨f, f1, f2, by have := offs_or hg0 a; have := offs_or hg0 f; omega⟩, fun i e he q hq hq2 => ?_, c.uniq⟩
  rcases c.path i e he q hq hq2 with h | ⟨h1, h2⟩
  · exact .inl h
  · right
    refine ⟨h1, ?_⟩
    have hi := plH_lt he
    have : i ≠ a := fun e1 => by
      rw [e1, hx] at he
      injection he with he
      subst he
      rw [e1, h1] at hq2
      exact hb hq2
    have := offs_or hg0 a; have := offs_or hg0 i; omega
/-- One that would not be found comes forward into the gap. -/
theorem Clo.move {hm : List UInt8 → Nat} {g0 g r : Nat} {V : List (Option Ent)} (c : Clo hm g0 V g r) {a : Nat} {x : Ent} (hat : offs V.length g0 a = r + 1) (hx : plH V a = some x) (hb : Btw (hm x.key) a g) : Clo hm g0 ((V.set g (some x)).set a none) a (r + 1) := by
  have ha := plH_lt hx
  have hg0 := c.gz
  have hgl := c.gl
  have hgr := c.gr
  have hgap := c.gap
  have hga : g ≠ a := fun e => by rw [e, hx] at hgap; cases hgap
  obtain ⟨f, f1, f2, f3⟩ := c.free
  have hfa : f ≠ a := fun e => by rw [e, hx] at f2; cases f2
  have hfg : f ≠ g := fun e => by rw [e] at f3; omega
  have hP : ∀ j, plH ((V.set g (some x)).set a none) j = if a = j then none else if g = j then some x else plH V j := fun j => by
    rw [plH_set (by rw [List.length_set]; exact ha), plH_set hgl]
  have hl : ((V.set g (some x)).set a none).length = V.length := by simp
  have hs : ∀ j e, plH ((V.set g (some x)).set a none) j = some e → (j = g ∧ e = x) ∨ (j ≠ g ∧ j ≠ a ∧ plH V j = some e) := fun j e h => by
    rw [hP] at h
    split at h
    · cases h
    · split at h
      · rename_i h1 h2; injection h with h; exact .inl ⟨h2.symm, h.symm⟩
      · rename_i h1 h2; exact .inr ⟨fun e => h2 e.symm, fun e => h1 e.symm, h⟩
  refine ⟨fun k => by rw [hl]; exact c.home k, by rw [hl]; exact hg0, by rw [hl]; exact ha, by rw [hl]; omega, by rw [hP, if_pos rfl], ⟨f, by rw [hl]; exact f1, by rw [hP, if_neg (fun e => hfa e.symm), if_neg (fun e => hfg e.symm)]; exact f2, by rw [hl]; have := offs_or hg0 a; have := offs_or hg0 f; omega⟩, fun i e he q hq hq2 => ?_, fun i j e f he hf hk => ?_⟩
  · rw [hl] at hq ⊢
    rw [hP]
    by_cases hqa : a = q
    · rw [if_pos hqa]
      right
      refine ⟨hqa.symm, ?_⟩
      subst hqa
      rcases hs i e he with ⟨rfl, rfl⟩ | ⟨h1, h2, h3⟩
      · exfalso
        unfold Btw at *; omega
      · have hi := plH_lt h3
        have hh := c.home e.key
        by_cases hro : r + 1 < offs V.length g0 i
        · exact hro
        · exfalso
          have : Btw (hm e.key) i f := by
            have := offs_or hg0 a; have := offs_or hg0 f; have := offs_or hg0 i; unfold Btw at *; omega
          rcases c.path i e h3 f f1 this with h | ⟨h, _⟩
          · exact h f2
          · exact hfg h
    · rw [if_neg hqa]
      left
      by_cases hqg : g = q
      · rw [if_pos hqg]; simp
      · rw [if_neg hqg]
        rcases hs i e he with ⟨rfl, rfl⟩ | ⟨h1, h2, h3⟩
        · rcases c.path a e hx q hq (by unfold Btw at *; omega) with h | ⟨h, _⟩
          · exact h
          · exact absurd h.symm hqg
        · rcases c.path i e h3 q hq hq2 with h | ⟨h, _⟩
          · exact h
          · exact absurd h.symm hqg
  · rcases hs i e he with ⟨h1, h2⟩ | ⟨h1, h2, h3⟩ <;> rcases hs j f hf with ⟨h4, h5⟩ | ⟨h4, h5, h6⟩
    · rw [h1, h4]
    · subst h2; exact absurd (c.uniq a j e f hx h6 hk) (fun e => h5 e.symm)
    · subst h5; exact absurd (c.uniq i a e f h3 hx hk) h2
    · exact c.uniq i j e f h3 h6 hk
theorem ents_move {V : List (Option Ent)} {g a : Nat} {x : Ent} (hg : plH V g = none) (hgl : g < V.length) (hx : plH V a = some x) : (ents ((V.set g (some x)).set a none)).Perm (ents V) := by
  have hga : g ≠ a := fun e => by rw [e, hx] at hg; cases hg
  have h1 := ents_put (e := x) hgl hg
  have h2 := ents_take (L := V.set g (some x)) (i := a) (e := x) (by rw [plH_set hgl, if_neg hga]; exact hx)
  exact (h2.symm.trans h1).cons_inv
end Go.Proofs.Ythdaclbgandmcaa

/-
  Words on memory that every later text of this seat uses: a slice that reads as a list of bytes. Conditions: none; plain definitions and lemmas.
-/
namespace Go.Proofs.Ythdaclbgandmcaa
open Go.RowKit

/-- The number of byte j. A plain definition: the walk leaves it standing. -/
def byt (bs : List UInt8) (j : Nat) : Int := ((bs[j]?.getD 0).toNat : Int)
theorem byt_lo (bs : List UInt8) (j : Nat) : 0 ≤ byt bs j := by unfold byt; omega
theorem byt_hi (bs : List UInt8) (j : Nat) : byt bs j ≤ 255 := by
  unfold byt; have := (bs[j]?.getD 0).toNat_lt; omega

/-- The cells of a list of bytes. -/
def row (bs : List UInt8) : List Value := bs.map fun x => .int .u8 (x.toNat : Int)
theorem row_length (bs : List UInt8) : (row bs).length = bs.length := by simp [row]
theorem row_get (bs : List UInt8) {j : Nat} (h : j < bs.length) : (row bs)[j]? = some (.int .u8 (byt bs j)) := by
  simp [row, byt, h]
theorem row_append (a b : List UInt8) : row (a ++ b) = row a ++ row b := by simp [row]
theorem row_one (bs : List UInt8) : ∀ u ∈ row bs, u.oneCell' = true := by
  intro u hu; simp only [row, List.mem_map] at hu; obtain ⟨x, _, rfl⟩ := hu; rfl
theorem row_getD (bs : List UInt8) {j : Nat} (h : j < bs.length) {u : Value} (hu : (row bs)[j]? = some u) : u = .int .u8 (byt bs j) := by
  rw [row_get bs h] at hu; exact (Option.some.inj hu).symm

/-- The slice at A, of bs.length elements, reads as bs; its cells lie below block B. -/
def Rd (w : World) (B : Nat) (A : Option Addr) (bs : List UInt8) : Prop :=
  0 < bs.length → ∃ b off, A = some ⟨b, off, none⟩ ∧ b < B ∧ ∀ j, j < bs.length → w.cell? ⟨b, off + j, none⟩ = some (.int .u8 (byt bs j))

section
variable {w w' : World} {B B' : Nat} {A : Option Addr} {bs : List UInt8}
theorem Rd.nil : Rd w B A [] := fun h => absurd h (by simp)
theorem Rd.keep (h : Rd w B A bs) (hk : ∀ p : Addr, p.block < B → w'.cell? p = w.cell? p) : Rd w' B A bs := fun hn => by
  obtain ⟨b, off, e, hb, hc⟩ := h hn
  exact ⟨b, off, e, hb, fun j hj => (hk ⟨b, off + j, none⟩ hb).trans (hc j hj)⟩
theorem Rd.more (h : Rd w B A bs) (hB : B ≤ B') : Rd w B' A bs := fun hn => by
  obtain ⟨b, off, e, hb, hc⟩ := h hn
  exact ⟨b, off, e, by omega, hc⟩
theorem Rd.below (h : Rd w B A bs) (hb : Below B w w') : Rd w' B A bs := h.keep fun _ hp => hb.cell hp
theorem Rd.alloc (h : Rd w B A bs) (hB : B ≤ w.heap.size) (o : Obj) : Rd (w.alloc o) B A bs := h.keep fun p hp => World.cell?_alloc_lt w o p (by omega)
theorem Rd.drewN (h : Rd w B A bs) (k : Nat) : Rd (w.drewN k) B A bs := h
theorem Rd.grown (h : Rd w B A bs) {r : Option Nat} (hg : w.grownBy w' r) (hB : B ≤ w.heap.size) (hr : ∀ g, r = some g → B ≤ g) : Rd w' B A bs :=
  h.keep fun p hp => World.cell?_of_block (hg.block p.block (by omega) (fun e => by have := hr _ e.symm; omega))
theorem Rd.of_block {g t : Nat} {cur : Array Value} (hg : w.heap[g]? = some (.cells cur t (0, 0))) (hB : g < B) (off : Nat)
    (hc : ∀ j, j < bs.length → cur[off + j]? = some (.int .u8 (byt bs j))) : Rd w B (some ⟨g, off, none⟩) bs := fun _ =>
  ⟨g, off, rfl, hB, fun j hj => by rw [cell_of_row w g (off + j) cur t (0, 0) hg]; exact hc j hj⟩
theorem Rd.of_own {base e n c : Nat} (hn' : n = bs.length) (h : w.ownsRow base e 1 (.slice A n c) n (row bs)) : Rd w w.heap.size A bs := fun hn => by
  subst hn'
  rcases h.2 with ⟨_, h0⟩ | ⟨g, cap, cur, hv, _, hh, hle, _, hs, ht⟩
  · omega
  · have hA : A = some ⟨g, 0, none⟩ := by injection hv
    subst hA
    refine ⟨g, 0, rfl, (Array.getElem?_eq_some_iff.1 hh).1, fun j hj => ?_⟩
    rw [cell_of_row w g (0 + j) cur e (0, 0) hh, Nat.zero_add]
    have h1 : (List.take (bs.length * 1) cur.toList)[j]? = some (.int .u8 (byt bs j)) := by rw [ht]; exact row_get bs hj
    rw [List.getElem?_take, if_pos (by omega)] at h1
    simpa using h1
end

theorem add_off (b off j : Nat) : (⟨b, off, none⟩ : Addr).add j = ⟨b, off + j, none⟩ := by unfold Addr.add; split <;> simp_all
theorem cell_block {w : World} {a : Addr} {v : Value} (h : w.cell? a = some v) : a.block < w.heap.size := by
  rcases Nat.lt_or_ge a.block w.heap.size with hlt | hge
  · exact hlt
  · unfold World.cell? at h; rw [Array.getElem?_eq_none hge] at h; cases h
/-- A slice of bytes as it is handed over: it reads as bs; nil has no capacity. -/
structure Arg (w : World) (B : Nat) (A : Option Addr) (c : Nat) (bs : List UInt8) : Prop where
  rd : Rd w B A bs
  cap : bs.length ≤ c
  none_ : A = none → c = 0
theorem Arg.below {w w' : World} {B : Nat} {A : Option Addr} {c : Nat} {bs : List UInt8} (h : Arg w B A c bs) (hb : Below B w w') : Arg w' B A c bs := ⟨h.rd.below hb, h.cap, h.none_⟩
theorem Arg.nil (w : World) (B : Nat) : Arg w B none 0 [] := ⟨Rd.nil, Nat.le_refl _, fun _ => rfl⟩
theorem Arg.more {w : World} {B B' : Nat} {A : Option Addr} {c : Nat} {bs : List UInt8} (h : Arg w B A c bs) (hB : B ≤ B') : Arg w B' A c bs := ⟨h.rd.more hB, h.cap, h.none_⟩
theorem Arg.alloc {w : World} {B : Nat} {A : Option Addr} {c : Nat} {bs : List UInt8} (h : Arg w B A c bs) (hB : B ≤ w.heap.size) (o : Obj) : Arg (w.alloc o) B A c bs := ⟨h.rd.alloc hB o, h.cap, h.none_⟩
theorem Arg.drewN {w : World} {B : Nat} {A : Option Addr} {c : Nat} {bs : List UInt8} (h : Arg w B A c bs) (n : Nat) : Arg (w.drewN n) B A c bs := ⟨h.rd.drewN n, h.cap, h.none_⟩
/-- The slice of integers at A reads as zs; its cells lie below block B. -/
def RdI (w : World) (B : Nat) (A : Option Addr) (zs : List Int) : Prop :=
  0 < zs.length → ∃ b off, A = some ⟨b, off, none⟩ ∧ b < B ∧ ∀ j, j < zs.length → w.cell? ⟨b, off + j, none⟩ = some (.int .i64 (zs.getD j 0))
theorem RdI.keep {w w' : World} {B : Nat} {A : Option Addr} {zs : List Int} (h : RdI w B A zs) (hk : ∀ p : Addr, p.block < B → w'.cell? p = w.cell? p) : RdI w' B A zs := fun hn => by
  obtain ⟨b, off, e, hb, hc⟩ := h hn
  exact ⟨b, off, e, hb, fun j hj => (hk ⟨b, off + j, none⟩ hb).trans (hc j hj)⟩
theorem RdI.below {w w' : World} {B : Nat} {A : Option Addr} {zs : List Int} (h : RdI w B A zs) (hb : Below B w w') : RdI w' B A zs := h.keep fun _ hp => hb.cell hp
theorem RdI.alloc {w : World} {B : Nat} {A : Option Addr} {zs : List Int} (h : RdI w B A zs) (hB : B ≤ w.heap.size) (o : Obj) : RdI (w.alloc o) B A zs := h.keep fun p hp => World.cell?_alloc_lt w o p (by omega)
theorem wraps_i64 (n : Int) (h₀ : 0 ≤ n) (h₁ : n < 2 ^ 62) : IntKind.i64.wrap n = n := by rw [IntKind.wrap_i64]; omega
theorem or_byte (q x : Int) (h0 : 0 ≤ q) (h1 : q < 16777216) (h2 : 0 ≤ x) (h3 : x ≤ 255) : bits .or .i64 (q * 256) x = q * 256 + x :=
  bits_join .i64 62 (by decide) wraps_i64 8 _ _ (by omega) (by omega) (by omega) h2 (by omega) (by omega)
end Go.Proofs.Ythdaclbgandmcaa

/-
  Contracts of be's small functions (isSize, holds, Fits, number, cut), as read off the program's text: what each answers, and that no memory turns. Conditions are each theorem's own.
-/
namespace Go.Proofs.Ythdaclbgandmcaa
open Go.RowKit

/-- A size is 1 to 4. -/
def sizeB (size : Int) : Bool := decide (1 ≤ size ∧ size ≤ 4)
theorem sizeB_yes {s : Int} (h1 : 1 ≤ s) (h2 : s ≤ 4) : sizeB s = true := by simp [sizeB, h1, h2]
theorem sizeB_no {s : Int} (h : s < 1 ∨ 4 < s) : sizeB s = false := by simp [sizeB]; omega

/-- The number that bytes are, the highest first. -/
def num : List UInt8 → Int := List.foldl (fun n x => n * 256 + (x.toNat : Int)) 0
theorem num_snoc (bs : List UInt8) (x : UInt8) : num (bs ++ [x]) = num bs * 256 + (x.toNat : Int) := by simp [num]
theorem num_take (bs : List UInt8) {k : Nat} (hk : k < bs.length) : num (bs.take (k + 1)) = num (bs.take k) * 256 + byt bs k := by
  rw [List.take_succ_eq_append_getElem hk, num_snoc]; simp [byt, hk]
theorem num_bd (bs : List UInt8) : 0 ≤ num bs ∧ num bs < 256 ^ bs.length := by
  suffices h : ∀ (bs : List UInt8) (n : Int) (k : Nat), 0 ≤ n → n < 256 ^ k → 0 ≤ List.foldl (fun n x => n * 256 + ((x : UInt8).toNat : Int)) n bs ∧ List.foldl (fun n x => n * 256 + ((x : UInt8).toNat : Int)) n bs < 256 ^ (k + bs.length) by
    simpa [num] using h bs 0 0 (by omega) (by simp)
  intro bs
  induction bs with
  | nil => intro n k h0 h1; simpa using ⟨h0, h1⟩
  | cons x l ih =>
    intro n k h0 h1
    have hx := x.toNat_lt
    have hp : (256 : Int) ^ (k + 1) = 256 ^ k * 256 := by rw [Int.pow_succ]
    have := ih (n * 256 + (x.toNat : Int)) (k + 1) (by omega) (by omega)
    simp only [List.foldl_cons, List.length_cons]
    rw [show k + (l.length + 1) = k + 1 + l.length from by omega]
    exact this
theorem num_small (bs : List UInt8) {k : Nat} (hk : k ≤ 3) : 0 ≤ num (bs.take k) ∧ num (bs.take k) < 16777216 := by
  have h := num_bd (bs.take k)
  refine ⟨h.1, Int.lt_of_lt_of_le h.2 ?_⟩
  have hl : (bs.take k).length ≤ 3 := by rw [List.length_take]; omega
  have h3 : (bs.take k).length = 0 ∨ (bs.take k).length = 1 ∨ (bs.take k).length = 2 ∨ (bs.take k).length = 3 := by omega
  rcases h3 with e | e | e | e <;> rw [e] <;> decide

/-- 256 to the power of k. A plain definition. -/
def pw (k : Nat) : Int := 256 ^ k
theorem pw_succ (k : Nat) : pw (k + 1) = pw k * 256 := by simp [pw, Int.pow_succ]
theorem pw_pos (k : Nat) : 1 ≤ pw k := by induction k with | zero => simp [pw] | succ k ih => rw [pw_succ]; omega
theorem pw_le {k : Nat} (h : k ≤ 4) : pw k ≤ 4294967296 := by
  have : k = 0 ∨ k = 1 ∨ k = 2 ∨ k = 3 ∨ k = 4 := by omega
  rcases this with rfl | rfl | rfl | rfl | rfl <;> decide

/-- Fits: n is a number of so many bytes. -/
def fitsB (n s : Int) : Bool := decide (1 ≤ s ∧ s ≤ 4 ∧ 0 ≤ n ∧ n < pw s.toNat)

theorem fitsB_iff {n s : Int} : fitsB n s = true ↔ 1 ≤ s ∧ s ≤ 4 ∧ 0 ≤ n ∧ n < pw s.toNat := by simp [fitsB]

/-! ### Get -/

/-- The number of size bytes from at on, and the error's number. -/
def getV (bs : List UInt8) (at_ s : Int) : Int := if 1 ≤ s ∧ s ≤ 4 ∧ 0 ≤ at_ ∧ at_ ≤ (bs.length : Int) - s then num ((bs.drop at_.toNat).take s.toNat) else 0
def getE (n : Nat) (at_ s : Int) : Int := if 1 ≤ s ∧ s ≤ 4 ∧ 0 ≤ at_ then (if at_ ≤ (n : Int) - s then 0 else 3) else 1
theorem getV_no {bs : List UInt8} {at_ s : Int} (h : ¬ (1 ≤ s ∧ s ≤ 4 ∧ 0 ≤ at_ ∧ at_ ≤ (bs.length : Int) - s)) : getV bs at_ s = 0 := by rw [getV, if_neg h]
theorem getE_arg {n : Nat} {at_ s : Int} (h : ¬ (1 ≤ s ∧ s ≤ 4 ∧ 0 ≤ at_)) : getE n at_ s = 1 := by rw [getE, if_neg h]
theorem getE_short {n : Nat} {at_ s : Int} (h : 1 ≤ s ∧ s ≤ 4 ∧ 0 ≤ at_) (h2 : ¬ at_ ≤ (n : Int) - s) : getE n at_ s = 3 := by rw [getE, if_pos h, if_neg h2]
theorem getE_ok {n : Nat} {at_ s : Int} (h : 1 ≤ s ∧ s ≤ 4 ∧ 0 ≤ at_) (h2 : at_ ≤ (n : Int) - s) : getE n at_ s = 0 := by rw [getE, if_pos h, if_pos h2]
theorem getV_ok {bs : List UInt8} {a s : Nat} (h1 : 1 ≤ s) (h4 : s ≤ 4) (h : a + s ≤ bs.length) : getV bs a s = num ((bs.drop a).take s) := by
  rw [getV, if_pos (by omega)]; simp

theorem byt_cut (bs : List UInt8) (a s : Nat) {j : Nat} (hj : j < s) : byt ((bs.drop a).take s) j = byt bs (a + j) := by
  unfold byt; rw [List.getElem?_take, if_pos hj, List.getElem?_drop]
theorem len_cut {bs : List UInt8} {a s : Nat} (h : a + s ≤ bs.length) : ((bs.drop a).take s).length = s := by simp; omega

theorem Rd.cut {w : World} {B b off : Nat} {bs : List UInt8} (a s : Nat) (hs : a + s ≤ bs.length) (hb : b < B)
    (hc : ∀ j, j < bs.length → w.cell? ⟨b, off + j, none⟩ = some (.int .u8 (byt bs j))) : Rd w B (some ⟨b, off + a, none⟩) ((bs.drop a).take s) := fun _ =>
  ⟨b, off + a, rfl, hb, fun j hj => by
    rw [len_cut hs] at hj
    rw [byt_cut bs a s hj, Nat.add_assoc]
    exact hc _ (by omega)⟩

end Go.Proofs.Ythdaclbgandmcaa

/-
  Contracts of be's functions that make memory: roomy, digits and its iterator, write, Put, Set, Words and its iterator. Conditions are each theorem's own.
-/
namespace Go.Proofs.Ythdaclbgandmcaa
open Go.RowKit Go.Shelf
attribute [local go_sem] Oper.semAt_some

theorem info_u8 : (Try.prog.info? 5).map (fun i => (i.zero, i.size, i.bytes)) = some (some (.int .u8 0), 1, 1) := by kernel_rfl
theorem size_u8 : (Try.prog.info? 5).map (·.size) = some 1 := by kernel_rfl
theorem made_rep (z : Value) (n : Nat) : madeCells #[z] n = (List.replicate n z).toArray := by
  apply Array.ext'; rw [toList_madeCells_one]

/-- bytes, and noughts behind them up to n. -/
def pad (bs : List UInt8) (n : Nat) : List UInt8 := bs ++ List.replicate (n - bs.length) 0
theorem pad_length {bs : List UInt8} {n : Nat} (h : bs.length ≤ n) : (pad bs n).length = n := by simp [pad]; omega
theorem row_pad (bs : List UInt8) (n : Nat) : splice (List.replicate n (.int .u8 0)) 0 (row bs) = row (pad bs n) := by
  simp [splice, row, pad]


theorem roomy_src {w : World} {B : Nat} {A : Option Addr} {bs : List UInt8} (h : Rd w B A bs) (hB : B ≤ w.heap.size) (o : Obj) (hp : 0 < (row bs).length) :
    some (⟨w.heap.size, 0, none⟩ : Addr) = some ⟨w.heap.size, 0, none⟩ ∧ ∃ ad, A = some ad ∧ ∀ j v, (row bs)[j]? = some v → (w.alloc o).cell? (ad.add j) = some v := by
  rw [row_length] at hp
  obtain ⟨b, off, rfl, hb, hc⟩ := (h.alloc hB o) hp
  refine ⟨rfl, _, rfl, fun j v hv => ?_⟩
  have hj : j < bs.length := by have := (List.getElem?_eq_some_iff.1 hv).1; rwa [row_length] at this
  rw [row_getD bs hj hv]
  rw [add_off]; exact hc j hj

/-! ### What a round keeps -/

/-- The blocks from lo on and below hi lie as they lay. -/
def Holds (lo hi : Nat) (W W' : World) : Prop := W.heap.size ≤ W'.heap.size ∧ ∀ k, lo ≤ k → k < hi → W'.heap[k]? = W.heap[k]?
theorem Holds.refl (lo hi : Nat) (W : World) : Holds lo hi W W := ⟨Nat.le_refl _, fun _ _ _ => rfl⟩
theorem Holds.trans {lo hi : Nat} {A B C : World} (h : Holds lo hi A B) (k : Holds lo hi B C) : Holds lo hi A C :=
  ⟨Nat.le_trans h.1 k.1, fun i h1 h2 => (k.2 i h1 h2).trans (h.2 i h1 h2)⟩
theorem Holds.b {lo hi : Nat} {w : World} (hh : hi ≤ w.heap.size) (W : World) (l : Nat) (o o' : Obj) (hl : w.heap.size ≤ l) (_ : W.heap[l]? = some o) (_ : o.isCells = false) (_ : o.isWalk = false) : Holds lo hi W (W.putObj l o') :=
  ⟨by simp, fun k _ h2 => World.putObj_heap_other (by omega)⟩
theorem Holds.setCell {lo hi : Nat} {W : World} {p : Addr} (hp : p.block < lo ∨ hi ≤ p.block) (v : Value) : Holds lo hi W (W.setCell p v) :=
  ⟨by simp [World.setCell], fun k h1 h2 => Below.heap_setCell W p v k (by omega)⟩
theorem Holds.of_below {lo hi B : Nat} {W W' : World} (h : Below B W W') (hB : hi ≤ B) : Holds lo hi W W' := ⟨h.size, fun k _ h2 => h.block k (by omega)⟩
theorem Holds.cell {lo hi : Nat} {W W' : World} (h : Holds lo hi W W') {p : Addr} (h1 : lo ≤ p.block) (h2 : p.block < hi) : W'.cell? p = W.cell? p := World.cell?_of_block (w := W) (h.2 p.block h1 h2)
theorem Holds.rd {lo hi : Nat} {W W' : World} (h : Holds lo hi W W') {b off n : Nat} {bs : List UInt8} (h1 : lo ≤ b) (h2 : b < hi)
    (hc : ∀ j, j < n → W.cell? ⟨b, off + j, none⟩ = some (.int .u8 (byt bs j))) : ∀ j, j < n → W'.cell? ⟨b, off + j, none⟩ = some (.int .u8 (byt bs j)) :=
  fun j hj => (h.cell (p := ⟨b, off + j, none⟩) h1 h2).trans (hc j hj)

/-! ### digits -/

/-- The byte at place i of n in s bytes. -/
def dig (n : Int) (s i : Nat) : UInt8 := UInt8.ofNat (n / pw (s - 1 - i)).toNat
theorem dig_val {n : Int} (h : 0 ≤ n) (s i : Nat) : ((dig n s i).toNat : Int) = n / pw (s - 1 - i) % 256 := by
  have h1 : 0 ≤ n / pw (s - 1 - i) := Int.ediv_nonneg h (by have := pw_pos (s - 1 - i); omega)
  simp only [dig, UInt8.toNat_ofNat']
  omega
def digs (n : Int) (s : Nat) : List UInt8 := (List.range s).map (dig n s)
theorem digs_length (n : Int) (s : Nat) : (digs n s).length = s := by simp [digs]

/-- The places of s, the first k. -/
def ups (s k : Nat) : List { i : Nat // i < s } := (List.range k).filterMap fun i => if h : i < s then some ⟨i, h⟩ else none
theorem ups_succ {s k : Nat} (h : k < s) : ups s (k + 1) = ups s k ++ [⟨k, h⟩] := by
  simp [ups, List.range_succ, List.filterMap_append, h]
theorem ups_length {s k : Nat} (h : k ≤ s) : (ups s k).length = k := by
  induction k with
  | zero => simp [ups]
  | succ k ih => rw [ups_succ (by omega)]; simp [ih (by omega)]

/-- What yield is handed. -/
def encD (n : Int) (s : Nat) (x : { i : Nat // i < s }) : Array Value := #[.int .i64 (x.1 : Int), .int .u8 ((dig n s x.1).toNat : Int)]

theorem shift_dig {n : Int} (h : 0 ≤ n) {s i : Nat} (hi : i < s) (h4 : s ≤ 4) :
    ((dig n s i).toNat : Int) = n / 2 ^ (8 * (s - 1 - i)) % 256 := by
  rw [dig_val h]
  obtain ⟨m, hm⟩ : ∃ m, m = s - 1 - i := ⟨_, rfl⟩
  rw [← hm]
  have h4 : m = 0 ∨ m = 1 ∨ m = 2 ∨ m = 3 := by omega
  rcases h4 with rfl | rfl | rfl | rfl <;> simp [pw]

/-! ### write -/

/-- What the cells are when the places of pre are written. -/
def setD (bs : List UInt8) (off : Nat) (n : Int) (s : Nat) (pre : List { i : Nat // i < s }) : List UInt8 := pre.foldl (fun l x => l.set (off + x.1) (dig n s x.1)) bs
theorem setD_snoc (bs : List UInt8) (off : Nat) (n : Int) (s : Nat) (pre : List { i : Nat // i < s }) (x : { i : Nat // i < s }) :
    setD bs off n s (pre ++ [x]) = (setD bs off n s pre).set (off + x.1) (dig n s x.1) := by simp [setD]
theorem setD_length (bs : List UInt8) (off : Nat) (n : Int) (s : Nat) (pre : List { i : Nat // i < s }) : (setD bs off n s pre).length = bs.length := by
  unfold setD
  induction pre generalizing bs with
  | nil => rfl
  | cons x l ih => rw [List.foldl_cons, ih, List.length_set]
theorem splice_set {α : Type} (bs ds : List α) (off : Nat) (x : α) (h : off + ds.length < bs.length) : (splice bs off ds).set (off + ds.length) x = splice bs off (ds ++ [x]) := by
  apply List.ext_getElem?
  intro i
  simp only [splice, List.getElem?_set, List.getElem?_append, List.length_take, List.length_append, List.length_drop, List.getElem?_drop, List.getElem?_take, List.length_cons, List.length_nil]
  by_cases h1 : i < off
  · have e : ¬ off + ds.length = i := by omega
    have e1 : i < min off bs.length := by omega
    simp [e, e1]
  · by_cases h2 : i < off + ds.length
    · have e : ¬ off + ds.length = i := by omega
      have e1 : ¬ i < min off bs.length := by omega
      have e2 : i - min off bs.length < ds.length := by omega
      have e3 : i - min off bs.length < ds.length + 1 := by omega
      simp [e, e1, e2, e3]
    · by_cases h3 : i = off + ds.length
      · subst h3
        have e1 : ¬ off + ds.length < min off bs.length := by omega
        have e2 : ¬ off + ds.length - min off bs.length < ds.length := by omega
        have e3 : off + ds.length - min off bs.length < ds.length + 1 := by omega
        have e4 : off + ds.length - min off bs.length - ds.length = 0 := by omega
        simp [e1, e2, e3, e4]
        omega
      · have e : ¬ off + ds.length = i := by omega
        have e1 : ¬ i < min off bs.length := by omega
        have e2 : ¬ i - min off bs.length < ds.length := by omega
        have e3 : ¬ i - min off bs.length < ds.length + 1 := by omega
        simp [e, e1, e2, e3]
        congr 1
        omega
theorem setD_ups (bs : List UInt8) (off : Nat) (n : Int) (s k : Nat) (hk : k ≤ s) (h : off + s ≤ bs.length) : setD bs off n s (ups s k) = splice bs off ((List.range k).map (dig n s)) := by
  induction k with
  | zero => simp [ups, setD, splice]
  | succ k ih =>
    rw [ups_succ (by omega), setD_snoc, ih (by omega), List.range_succ, List.map_append, List.map_singleton]
    have hl : ((List.range k).map (dig n s)).length = k := by simp
    have := splice_set bs ((List.range k).map (dig n s)) off (dig n s k) (by rw [hl]; omega)
    rw [hl] at this
    exact this
theorem setD_all (bs : List UInt8) (off : Nat) (n : Int) (s : Nat) (h : off + s ≤ bs.length) : setD bs off n s (ups s s) = splice bs off (digs n s) := setD_ups bs off n s s (Nat.le_refl _) h
theorem row_set (bs : List UInt8) (i : Nat) (x : UInt8) : (row bs).toArray.setIfInBounds i (.int .u8 (x.toNat : Int)) = (row (bs.set i x)).toArray := by
  simp [row, List.map_set]

theorem heap_set {W : World} {g t : Nat} {cs : Array Value} (h : W.heap[g]? = some (.cells cs t (0, 0))) (i : Nat) (v : Value) :
    (W.setCell ⟨g, i, none⟩ v).heap[g]? = some (.cells (cs.setIfInBounds i v) t (0, 0)) := by
  simp [World.setCell, Array.getElem?_modify, h]
theorem heap_frozen {W : World} {g t : Nat} {cs : Array Value} (h : W.heap[g]? = some (.cells cs t (0, 0))) (i : Nat) : W.frozen? ⟨g, i, none⟩ = false := by
  simp [World.frozen?, h]
theorem heap_lt {W : World} {g : Nat} {o : Obj} (h : W.heap[g]? = some o) : g < W.heap.size := (Array.getElem?_eq_some_iff.1 h).1
theorem row_cell {W : World} {g t : Nat} {bs : List UInt8} (h : W.heap[g]? = some (.cells (row bs).toArray t (0, 0))) {i : Nat} (hi : i < bs.length) :
    W.cell? ⟨g, i, none⟩ = some (.int .u8 (byt bs i)) := by
  rw [cell_of_row W g i _ t (0, 0) h]
  simpa using row_get bs hi
/-- Only block g, and what is new, has turned. -/
theorem grown_then {a w w' : World} {g B : Nat} {r : Option Nat} (h : a.grownBy w (some g)) (hg : w.grownBy w' r) (hB : a.heap.size ≤ B) (hr : ∀ k, r = some k → B ≤ k) : a.grownBy w' (some g) :=
  ⟨hg.os.trans h.os, hg.tape.trans h.tape, hg.output.trans h.output, Nat.le_trans h.size hg.size, fun i hi hne => (hg.block i (Nat.lt_of_lt_of_le hi h.size) (fun e => by have := hr i e.symm; omega)).trans (h.block i hi hne)⟩
theorem grown_set {a w : World} {g : Nat} (h : a.grownBy w (some g)) (i : Nat) (v : Value) : a.grownBy (w.setCell ⟨g, i, none⟩ v) (some g) :=
  ⟨h.os, h.tape, h.output, by simpa [World.setCell] using h.size, fun k hk hne => (Below.heap_setCell w ⟨g, i, none⟩ v k (fun e => hne (by rw [e]))).trans (h.block k hk hne)⟩
theorem grown_below {a w : World} {g : Nat} (h : Below a.heap.size a w) : a.grownBy w (some g) := ⟨h.os, h.tape, h.output, h.size, fun i hi _ => h.block i hi⟩

/-! ### New slices of bytes -/

/-- v is a slice of the bytes bs in memory that came after w; nothing of w has turned. -/
def Made (w w' : World) (v : Value) (bs : List UInt8) : Prop :=
  ∃ A c, v = .slice A bs.length c ∧ bs.length ≤ c ∧ Rd w' w'.heap.size A bs ∧ w'.ownsRow w.heap.size 5 1 v bs.length (row bs) ∧ Below w.heap.size w w'
theorem Made.of_own {w w' : World} {v : Value} {bs : List UInt8} (h : w'.ownsRow w.heap.size 5 1 v bs.length (row bs)) (hb : Below w.heap.size w w') : Made w w' v bs := by
  have h' := h
  rcases h'.2 with ⟨rfl, h0⟩ | ⟨g, cap, cur, rfl, _, _, hle, _⟩
  · obtain rfl : bs = [] := List.eq_nil_of_length_eq_zero h0
    exact ⟨none, 0, rfl, Nat.le_refl _, Rd.nil, h, hb⟩
  · exact ⟨_, cap, rfl, hle, Rd.of_own rfl h, h, hb⟩
theorem Made.nil (w w' : World) (hb : Below w.heap.size w w') : Made w w' (.slice none 0 0) [] := Made.of_own (World.ownsRow_nil _ _ _ _) hb
theorem own_of_block {w : World} {base g t : Nat} {bs : List UInt8} (hb : base ≤ g) (h : w.heap[g]? = some (.cells (row bs).toArray t (0, 0))) (hm : bs.length ≤ 1099511627780) :
    w.ownsRow base t 1 (.slice (some ⟨g, 0, none⟩) bs.length bs.length) bs.length (row bs) :=
  ⟨by simp [row_length], .inr ⟨g, bs.length, (row bs).toArray, rfl, hb, h, Nat.le_refl _, by unfold maxLen; omega, by simp [row_length], by rw [Nat.mul_one, List.take_of_length_le (by simp [row_length])]⟩⟩

/-- Put: bs, and n's bytes behind, if it fits. -/
def putB (bs : List UInt8) (n s : Int) : List UInt8 := if fitsB n s then bs ++ digs n s.toNat else bs
theorem splice_end (bs : List UInt8) (k : Nat) (ds : List UInt8) (h : ds.length = k) : splice (pad bs (bs.length + k)) bs.length ds = bs ++ ds := by
  simp [splice, pad, ← h]

/-! ### Set -/
def setE (len : Nat) (at_ n s : Int) : Int := if fitsB n s then getE len at_ s else 1
def setB (bs : List UInt8) (at_ n s : Int) : List UInt8 := if fitsB n s ∧ 0 ≤ at_ ∧ at_ ≤ (bs.length : Int) - s then splice bs at_.toNat (digs n s.toNat) else []

end Go.Proofs.Ythdaclbgandmcaa

/-
  Contracts of bytes.Clone and bytes.Equal, as read off the library's text, and a law for append whose source reads as bytes. Conditions are each theorem's own.
-/
namespace Go.Proofs.Ythdaclbgandmcaa
open Go.RowKit

theorem Rd.src {w : World} {B : Nat} {ad : Addr} {bs : List UInt8} (h : Rd w B (some ad) bs) : ∀ j v, (row bs)[j]? = some v → w.cell? (ad.add j) = some v := fun j v hv => by
  have hj : j < bs.length := by have := (List.getElem?_eq_some_iff.1 hv).1; rwa [row_length] at this
  obtain ⟨b, off, e, _, hc⟩ := h (by omega)
  injection e with e
  subst e
  rw [row_getD bs hj hv, add_off]; exact hc j hj

/-- append onto a row of the call's own, of a source that reads as bytes. -/
theorem append_rd {w : World} {ops : Array Oper} {rest : List Oper} {o : Oper} {a : Act} {Q : Exit → Act → World → Prop} (hgd : o.guard = none) (s x : Operand)
    (ho : o.op = .call { callee := .builtin .append, args := #[s, x], argTypes := #[32, 32] })
    (base : Nat) (v : Value) (n : Nat) (xs : List Value) (hs : a.eval s = v) (hown : w.ownsRow base 5 1 v n xs)
    (B : Nat) (A : Option Addr) (c : Nat) (bs : List UInt8) (hx : a.eval x = .slice A bs.length c) (hA : A = none → c = 0) (hr : Rd w B A bs)
    (hlen : n + bs.length ≤ 2199023255552) (hbase : base ≤ w.heap.size)
    (h : ∀ v' w', w'.ownsRow base 5 1 v' (n + bs.length) (xs ++ row bs) → w.grownBy w' v.ownBlock → wpList Try.prog ops Q rest (a.put o.dst v') w') : wpList Try.prog ops Q (o :: rest) a w := by
  obtain ⟨i0, hi, hz0, hz1, hz2⟩ := info_parts info_u8
  rcases A with _ | ad
  · have h0 : bs = [] := by
      rcases Nat.eq_zero_or_pos bs.length with e | e
      · exact List.eq_nil_of_length_eq_zero e
      · obtain ⟨_, _, e', _⟩ := hr e; cases e'
    subst h0
    obtain rfl := hA rfl
    exact wpList_append_own_none hgd s x 32 ho base 5 i0 1 Try.underlying32 hi v n xs hs hown hx (h v w (by simpa [row] using hown) (World.grownBy.refl w _))
  · exact wpList_append_own w hgd s x 32 ho base 5 i0 (.int .u8 0) 1 1 Try.underlying32 hi hz0 hz1 hz2 rfl (by decide) v n xs hs hown ad bs.length c (row bs) hx
      (by rw [row_length, Nat.mul_one]) hr.src (row_one bs) (by unfold maxLen; omega) (by omega) hbase (fun v' w' h1 h2 _ => h v' w' h1 h2)

theorem own_block_ge {w : World} {base e size n : Nat} {v : Value} {xs : List Value} (h : w.ownsRow base e size v n xs) : ∀ k, v.ownBlock = some k → base ≤ k := by
  intro k hk
  rcases h.2 with ⟨rfl, _⟩ | ⟨g, cap, cur, rfl, hb, _⟩
  · simp [Value.ownBlock] at hk
  · simp [Value.ownBlock] at hk; omega

set_option maxHeartbeats 1000000 in
theorem clone_any (A : Option Addr) (bs : List UInt8) (c B : Nat) (w : World) (h : Arg w B A c bs) (hB : B ≤ w.heap.size) (hl : bs.length ≤ 1099511627776) :
    Calls Try.prog 124 #[.slice A bs.length c] w fun e w' => ∃ v, e = .returned v ∧ Made w w' v bs := by
  have q22 : ∀ (w : World) (a : Option Addr) (n c n' c' : Nat), (binOp .eql 32 (.slice a n c) (.slice none n' c')).run Try.prog w = .ok (.bool a.isNone) w := fun w a n c n' c' => Lib.run_eql_slice_nil w _ _ a n c n' c' Try.underlying32
  rcases A with _ | ad
  · have h0 : bs = [] := by
      rcases Nat.eq_zero_or_pos bs.length with e | e
      · exact List.eq_nil_of_length_eq_zero e
      · obtain ⟨_, _, e', _⟩ := h.rd e; cases e'
    subst h0
    go_enter Try.func124, Try.ntmps124
    go_wp2
    go_ret
    exact ⟨_, rfl, Made.nil _ _ (Below.refl _ _)⟩
  · have hr := h.rd
    have hn := h.none_
    go_enter Try.func124, Try.ntmps124
    go_wp2_with (at_builtin; refine append_rd rfl _ _ rfl w.heap.size _ _ _ rfl (World.ownsRow_made w #[] 0 (Nat.le_refl _) (Nat.zero_le _) rfl) B (some ad) c bs rfl hn (hr.alloc hB _) (by omega) (by simp) ?_; intro v' w1 hown hgrow)
    go_ret
    refine ⟨_, rfl, Made.of_own (by simpa using hown) (((Below.refl _ w).alloc (Nat.le_refl _) _).grown hgrow (by simp) (fun k hk => own_block_ge (World.ownsRow_made (base := w.heap.size) (e := 5) (size := 1) w #[] 0 (Nat.le_refl _) (Nat.zero_le _) rfl) k hk))⟩

theorem conv_any (A : Option Addr) (bs : List UInt8) (c B : Nat) (w : World) (h : Rd w B A bs) :
    (convert 32 9 (.slice A bs.length c)).run Try.prog w = .ok (.string (strB bs)) w := by
  rcases Nat.eq_zero_or_pos bs.length with h0 | h0
  · obtain rfl : bs = [] := List.eq_nil_of_length_eq_zero h0
    rw [List.length_nil, run_convert_bytes_string w 32 9 5 _ 0 c Try.underlying32 Try.underlying5 Try.underlying9]
    cases A <;> simp [Conv.bytesToString, loadCells] <;> rfl
  · obtain ⟨b, off, rfl, _, hc⟩ := h h0
    have := run_convert_bytes_arg (P := Try.prog) w 32 5 Try.underlying32 Try.underlying5 b off bs.length c (bs.map fun x => (x.toNat : Int)) (by simp)
      (fun i hi => by rw [hc i hi]; simp [byt, hi]) 9 Try.underlying9
    rw [this]
    simp [strOfNums, strB, Function.comp_def]

theorem equal_any (A A' : Option Addr) (xs bs : List UInt8) (c c' B B' : Nat) (w : World) (h : Rd w B A xs) (h' : Rd w B' A' bs) :
    Calls Try.prog 20 #[.slice A xs.length c, .slice A' bs.length c'] w fun e w' => e = .returned (.bool (decide (xs = bs))) ∧ w = w' := by
  have h1 := conv_any A xs c B w h
  have h2 := conv_any A' bs c' B' w h'
  rw [← strB_eq]
  clear h h'
  go_enter Try.func20, Try.ntmps20
  go_wp2
  go_ret
  exact ⟨rfl, rfl⟩
end Go.Proofs.Ythdaclbgandmcaa

/-
  Contract of be.Words and of the iterator that it hands back: it tells the pairs of bytes in order, each with its number. Conditions are each theorem's own.
-/
namespace Go.Proofs.Ythdaclbgandmcaa
open Go.RowKit Go.Shelf
attribute [local go_sem] Oper.semAt_some

/-- The number of pair i (a byte that is not there is 0), and where it begins. Plain definitions. -/
def wrd (bs : List UInt8) (i : Nat) : Int := byt bs (2 * i) * 256 + byt bs (2 * i + 1)
def dbl (i : Nat) : Int := ((2 * i : Nat) : Int)
theorem byt_beyond {bs : List UInt8} {j : Nat} (h : bs.length ≤ j) : byt bs j = 0 := by simp [byt, List.getElem?_eq_none h]
theorem wrd_bd (bs : List UInt8) (i : Nat) : 0 ≤ wrd bs i ∧ wrd bs i ≤ 65535 := by
  have := byt_lo bs (2 * i); have := byt_lo bs (2 * i + 1); have := byt_hi bs (2 * i); have := byt_hi bs (2 * i + 1)
  unfold wrd; omega
def encW (bs : List UInt8) (i : Nat) : Array Value := #[.int .i64 (dbl i), .int .i64 (wrd bs i)]
/-- How many pairs. -/
def prs (n : Nat) : Nat := (n + 1) / 2

theorem byt_pad (bs : List UInt8) (n j : Nat) : byt (pad bs n) j = byt bs j := by
  unfold byt pad
  by_cases h : j < bs.length
  · rw [List.getElem?_append_left h]
  · rw [List.getElem?_append_right (by omega), List.getElem?_eq_none (l := bs) (by omega)]
    by_cases h2 : j - bs.length < n - bs.length
    · rw [List.getElem?_replicate, if_pos h2]; rfl
    · rw [List.getElem?_replicate, if_neg h2]
theorem num_two (bs : List UInt8) (h : bs.length = 2) : num bs = byt bs 0 * 256 + byt bs 1 := by
  match bs, h with
  | [x, y], _ => simp [num, byt]

end Go.Proofs.Ythdaclbgandmcaa

/-
  Contracts of the document's plain answers of layer 1: Word, Put, Set. Conditions are each theorem's own.
-/
namespace Go.Proofs.Ythdaclbgandmcaa
open Go.RowKit

theorem Rd.one {W : World} {v : Int} {x : UInt8} (t : TypeId) (h : v = (x.toNat : Int)) : Rd (W.alloc (.cells #[.int .u8 v] t)) (W.heap.size + 1) (some ⟨W.heap.size, 0, none⟩) [x] :=
  Rd.of_block (g := W.heap.size) (World.alloc_heap_new W _) (Nat.lt_succ_self _) 0 (fun j hj => by
    have : j = 0 := by simpa using hj
    subst this; simp [h, byt])

theorem dig_wrap {n : Int} (h : 0 ≤ n) (s i : Nat) : n / pw (s - 1 - i) % 256 = ((dig n s i).toNat : Int) := (dig_val h s i).symm

end Go.Proofs.Ythdaclbgandmcaa

/-
  Contract of layer 1's awake: it answers true, and turns nothing that was there. Conditions: none.
-/
namespace Go.Proofs.Ythdaclbgandmcaa
open Go.RowKit

theorem equal_awake (A A' : Option Addr) (c c' B B' : Nat) (w : World) (h : Rd w B A [1, 2]) (h' : Rd w B' A' [1, 2]) :
    Calls Try.prog 20 #[.slice A 2 c, .slice A' 2 c'] w fun e w' => e = .returned (.bool true) ∧ w = w' := by
  have := equal_any A A' [1, 2] [1, 2] c c' B B' w h h'
  rw [show decide ([(1 : UInt8), 2] = [1, 2]) = true from by decide] at this
  exact this

theorem Rd.two {W : World} (t : TypeId) : Rd (W.alloc (.cells #[.int .u8 1, .int .u8 2] t)) (W.heap.size + 1) (some ⟨W.heap.size, 0, none⟩) [1, 2] :=
  Rd.of_block (g := W.heap.size) (World.alloc_heap_new W _) (Nat.lt_succ_self _) 0 (fun j hj => by
    have : j = 0 ∨ j = 1 := by simp at hj; omega
    rcases this with rfl | rfl <;> rfl)

theorem num_digs {n : Int} {k : Nat} (h1 : 1 ≤ k) (h4 : k ≤ 4) (h0 : 0 ≤ n) (hn : n < pw k) : num (digs n k) = n := by
  have hv := fun i => dig_val h0 k i
  have hk : k = 1 ∨ k = 2 ∨ k = 3 ∨ k = 4 := by omega
  rcases hk with rfl | rfl | rfl | rfl
  · have v0 := hv 0
    simp [pw] at v0 hn
    simp only [digs, num, List.range_succ, List.range_zero, List.nil_append, List.map_cons, List.map_nil, List.foldl_cons, List.foldl_nil, v0]
    omega
  · have v0 := hv 0; have v1 := hv 1
    simp [pw] at v0 v1 hn
    simp only [digs, num, List.range_succ, List.range_zero, List.nil_append, List.cons_append, List.map_cons, List.map_nil, List.foldl_cons, List.foldl_nil, v0, v1]
    omega
  · have v0 := hv 0; have v1 := hv 1; have v2 := hv 2
    simp [pw] at v0 v1 v2 hn
    simp only [digs, num, List.range_succ, List.range_zero, List.nil_append, List.cons_append, List.map_cons, List.map_nil, List.foldl_cons, List.foldl_nil, v0, v1, v2]
    omega
  · have v0 := hv 0; have v1 := hv 1; have v2 := hv 2; have v3 := hv 3
    simp [pw] at v0 v1 v2 v3 hn
    simp only [digs, num, List.range_succ, List.range_zero, List.nil_append, List.cons_append, List.map_cons, List.map_nil, List.foldl_cons, List.foldl_nil, v0, v1, v2, v3]
    omega

/-- Get of what Put put behind is the number. -/
theorem get_put (bs : List UInt8) {n s : Int} (h : fitsB n s = true) :
    getV (putB bs n s) bs.length s = n ∧ getE (putB bs n s).length bs.length s = 0 ∧ (putB bs n s).length ≤ bs.length + 4 := by
  have hf := fitsB_iff.1 h
  obtain ⟨k, rfl⟩ := Int.eq_ofNat_of_zero_le (show 0 ≤ s by omega)
  have hp : putB bs n k = bs ++ digs n k := by simp [putB, h]
  have hl : (bs ++ digs n k).length = bs.length + k := by rw [List.length_append, digs_length]
  rw [hp]
  refine ⟨?_, getE_ok ⟨hf.1, hf.2.1, by omega⟩ (by rw [hl]; omega), by rw [hl]; omega⟩
  rw [getV_ok (by omega) (by omega) (by omega), List.drop_left, List.take_of_length_le (by rw [digs_length]; exact Nat.le_refl _)]
  exact num_digs (by omega) (by omega) hf.2.2.1 (by simpa using hf.2.2.2)

theorem equal_same (A A' : Option Addr) (bs : List UInt8) (c c' B B' : Nat) (w : World) (h : Rd w B A bs) (h' : Rd w B' A' bs) :
    Calls Try.prog 20 #[.slice A bs.length c, .slice A' bs.length c'] w fun e w' => e = .returned (.bool true) ∧ w = w' := by
  have := equal_any A A' bs bs c c' B B' w h h'
  rw [show decide (bs = bs) = true from by simp] at this
  exact this

/-! ### For ranges over Words -/
theorem dbl_lt {n i : Nat} (h : i < prs n) : dbl i < (n : Int) := by unfold prs at h; unfold dbl; omega
theorem dbl_ne {i j : Nat} (h : i ≠ j) : (dbl i != dbl j) = true := by rw [bne_iff_ne]; unfold dbl; omega
theorem dbl_succ (i : Nat) : dbl (i + 1) = dbl i + 2 := by unfold dbl; omega
theorem dbl_bd {n i : Nat} (h : i ≤ prs n) : 0 ≤ dbl i ∧ dbl i ≤ (n : Int) + 1 := by unfold prs at h; unfold dbl; omega
theorem dbl_all (n : Nat) : (n : Int) ≤ dbl (prs n) ∧ dbl (prs n) ≤ (n : Int) + 1 := by unfold prs dbl; omega
theorem Boxed.below {W W' : World} {B t : Nat} {v : Value} {B' : Nat} (h : Boxed W B t v) (hb : Below B' W W') (hB : B < B') : Boxed W' B t v := (hb.block B hB).trans h
theorem below_drewN {B : Nat} {a w : World} (h : Below B a w) (n : Nat) : Below B a (w.drewN n) := ⟨h.os, h.tape, h.output, h.size, h.block⟩
theorem Holds.drewN {lo hi : Nat} {W W' : World} (h : Holds lo hi W W') (n : Nat) : Holds lo hi W (W'.drewN n) := h
theorem KeepsFrom.drewN {B : Nat} {W W' : World} (h : KeepsFrom B W W') (n : Nat) : KeepsFrom B W (W'.drewN n) := ⟨h.size, h.same⟩

theorem box_keep {X Y : World} {B t n : Nat} {v : Value} {r : Option Nat} (h : Boxed X B t v) (hg : X.grownBy Y r) (hr : ∀ k, r = some k → n ≤ k ∧ ∃ o : Obj, X.heap[k]? = some o ∧ o.isCells = false) : Boxed Y B t v :=
  Own.from (boxed_own (β := Unit) B t (fun _ => v)) n () X Y r h hg hr
theorem below_keep {w X Y : World} {n n0 : Nat} {r : Option Nat} (h : Below n0 w X) (hg : X.grownBy Y r) (hr : ∀ k, r = some k → n ≤ k ∧ ∃ o : Obj, X.heap[k]? = some o ∧ o.isCells = false) (hn : n0 ≤ n) (hw : n0 ≤ w.heap.size) : Below n0 w Y :=
  h.grown hg (Nat.le_trans hw h.size) (fun k e => Nat.le_trans hn (hr k e).1)
end Go.Proofs.Ythdaclbgandmcaa

/-
  The sum of the Internet in plain numbers, and the contracts of Fold, the program's and the document's. Conditions are each theorem's own.
-/
namespace Go.Proofs.Ythdaclbgandmcaa
open Go.RowKit

/-- Fold, said at once: a number above 0 is told by its rest modulo 65535, from 1 on. A plain definition. -/
def fold (n : Int) : Int := if n ≤ 0 then 0 else (n - 1) % 65535 + 1
theorem fold_neg {n : Int} (h : n < 0) : fold n = 0 := by unfold fold; rw [if_pos (by omega)]
theorem fold_small {n : Int} (h0 : 0 ≤ n) (h : n ≤ 65535) : fold n = n := by
  unfold fold; split <;> omega
theorem fold_step {n : Int} (h : 65535 < n) : fold (n % 65536 + n / 65536) = fold n := by
  unfold fold; rw [if_neg (by omega), if_neg (by omega)]; omega
theorem fold_bd (n : Int) : 0 ≤ fold n ∧ fold n ≤ 65535 := by unfold fold; split <;> omega
theorem fold_zero : fold 0 = 0 := rfl

theorem wraps63 (n : Int) (h₀ : 0 ≤ n) (h₁ : n < 2 ^ 63) : IntKind.i64.wrap n = n := by rw [IntKind.wrap_i64]; omega
theorem and_full (n : Int) (h0 : 0 ≤ n) (h1 : n ≤ 9223372036854775807) : bits .and .i64 n 65535 = n % 65536 := by
  have := bits_mask .i64 63 (by decide) wraps63 16 (by decide) n h0 (by omega)
  simpa using this

/-! ### Sums of words -/

/-- The sum of the first k pairs. -/
def wsum (bs : List UInt8) : Nat → Int
  | 0 => 0
  | k + 1 => wsum bs k + wrd bs k
def wall (bs : List UInt8) : Int := wsum bs (prs bs.length)
def psum (ps : List (List UInt8)) : Int := (ps.map wall).sum
theorem wsum_succ (bs : List UInt8) (k : Nat) : wsum bs (k + 1) = wsum bs k + wrd bs k := rfl
theorem wsum_bd (bs : List UInt8) (k : Nat) : 0 ≤ wsum bs k ∧ wsum bs k ≤ 65535 * (k : Int) := by
  induction k with
  | zero => simp [wsum]
  | succ k ih => have := wrd_bd bs k; rw [wsum_succ]; omega
theorem wall_bd (bs : List UInt8) : 0 ≤ wall bs ∧ wall bs ≤ 65535 * (bs.length : Int) := by
  have := wsum_bd bs (prs bs.length); unfold wall; unfold prs at *; omega
theorem psum_take (ps : List (List UInt8)) {k : Nat} {bs : List UInt8} (h : ps[k]? = some bs) : psum (ps.take (k + 1)) = psum (ps.take k) + wall bs := by
  rw [List.take_add_one, h]; simp [psum]
/-- How many bytes there are in all. -/
def bulk (ps : List (List UInt8)) : Nat := (ps.map List.length).sum
theorem bulk_take (ps : List (List UInt8)) {k : Nat} {bs : List UInt8} (h : ps[k]? = some bs) : bulk (ps.take (k + 1)) = bulk (ps.take k) + bs.length := by
  rw [List.take_add_one, h]; simp [bulk]
theorem psum_bd (ps : List (List UInt8)) : 0 ≤ psum ps ∧ psum ps ≤ 65535 * (bulk ps : Int) := by
  induction ps with
  | nil => simp [psum, bulk]
  | cons b l ih =>
    have := wall_bd b
    have e1 : psum (b :: l) = wall b + psum l := by simp [psum]
    have e2 : bulk (b :: l) = b.length + bulk l := by simp [bulk]
    rw [e1, e2]; omega
theorem bulk_le (ps : List (List UInt8)) (k : Nat) : bulk (ps.take k) ≤ bulk ps := by
  have : bulk ps = bulk (ps.take k) + bulk (ps.drop k) := by
    conv => lhs; rw [← List.take_append_drop k ps]
    simp only [bulk, List.map_append, List.sum_append]
  omega
theorem len_bulk {ps : List (List UInt8)} {k : Nat} {bs : List UInt8} (h : ps[k]? = some bs) : bs.length ≤ bulk ps := by
  have := bulk_take ps h; have := bulk_le ps (k + 1); omega

/-! ### A slice of slices of bytes -/

/-- The slice at A, of ps.length elements, reads as slices that read as ps; all lies below block B. -/
def Rd2 (w : World) (B : Nat) (A : Option Addr) (ps : List (List UInt8)) : Prop :=
  0 < ps.length → ∃ b off, A = some ⟨b, off, none⟩ ∧ b < B ∧ ∀ (j : Nat) (bs : List UInt8), ps[j]? = some bs → ∃ Aj cj, w.cell? ⟨b, off + j, none⟩ = some (.slice Aj bs.length cj) ∧ Arg w B Aj cj bs
theorem Rd2.below {w w' : World} {B : Nat} {A : Option Addr} {ps : List (List UInt8)} (h : Rd2 w B A ps) (hb : Below B w w') : Rd2 w' B A ps := fun hn => by
  obtain ⟨b, off, e, hlt, hc⟩ := h hn
  refine ⟨b, off, e, hlt, fun j bs hj => ?_⟩
  obtain ⟨Aj, cj, h1, h2⟩ := hc j bs hj
  exact ⟨Aj, cj, (hb.cell (p := ⟨b, off + j, none⟩) hlt).trans h1, h2.below hb⟩
end Go.Proofs.Ythdaclbgandmcaa

/-
  Contracts of the program's sum: Add, Of, Right, Change. Conditions are each theorem's own.
-/
namespace Go.Proofs.Ythdaclbgandmcaa
open Go.RowKit Go.Shelf
attribute [local go_sem] Oper.semAt_some

/-! ### Many ranges over a function in one call: the marks that they leave -/

/-- The deferred calls are marks of blocks from lo on and below hi, each below the one ahead of it, that nothing was put into. -/
def Marks (lo : Nat) : Nat → List Deferred → World → Prop
  | _, [], _ => True
  | hi, d :: ds, w => ∃ D, d = { target := .collected D, args := #[] } ∧ lo ≤ D ∧ D < hi ∧ w.heap[D]? = some (.deferred (some [])) ∧ Marks lo D ds w
theorem Marks.keep {lo : Nat} {w w' : World} : ∀ {ds : List Deferred} {hi : Nat}, Marks lo hi ds w → (∀ k, lo ≤ k → k < hi → w'.heap[k]? = w.heap[k]?) → Marks lo hi ds w'
  | [], _, _, _ => trivial
  | _ :: _, _, ⟨D, e, h1, h2, h3, h4⟩, hk => ⟨D, e, h1, h2, (hk D h1 h2).trans h3, h4.keep fun k a b => hk k a (by omega)⟩
theorem Marks.more {lo : Nat} {w : World} : ∀ {ds : List Deferred} {hi hi' : Nat}, Marks lo hi ds w → hi ≤ hi' → Marks lo hi' ds w
  | [], _, _, _, _ => trivial
  | _ :: _, _, _, ⟨D, e, h1, h2, h3, h4⟩, hh => ⟨D, e, h1, by omega, h3, h4⟩
theorem Marks.push {lo hi D : Nat} {ds : List Deferred} {w : World} (h : Marks lo hi ds w) (hD : hi ≤ D) (hlo : lo ≤ D) (hK : w.heap[D]? = some (.deferred (some []))) :
    Marks lo (D + 1) ({ target := .collected D, args := #[] } :: ds) w := ⟨D, rfl, hlo, Nat.lt_succ_self D, hK, h.more hD⟩
theorem Marks.turn {lo : Nat} {w w' : World} {r : Option Nat} (hg : w.grownBy w' r) : ∀ {ds : List Deferred} {hi : Nat}, Marks lo hi ds w → (∀ k, r = some k → hi ≤ k) → Marks lo hi ds w'
  | [], _, _, _ => trivial
  | _ :: _, _, ⟨D, e, h1, h2, h3, h4⟩, hr => ⟨D, e, h1, h2, (hg.block D (heap_lt h3) (fun e => by have := hr D e.symm; omega)).trans h3, h4.turn hg fun k e => by have := hr k e; omega⟩

/-- A function that leaves with such marks: what holds behind the turn of each block holds at its end. -/
theorem leaves_marks {F : Fence} {n : Nat} {P : Program} {fn : Func} {tmps : Array Value} {R : Ending → World → Prop} (lo : Nat) (K : World → Prop)
    (hK : ∀ (w : World) (D : Nat), K w → lo ≤ D → w.heap[D]? = some (.deferred (some [])) → K (w.putObj D (.deferred none)))
    (hE : ∀ w, K w → LeavesInM F n P fn tmps R [] .returning w) : ∀ (ds : List Deferred) (hi : Nat) (w : World), Marks lo hi ds w → K w → LeavesInM F n P fn tmps R ds .returning w
  | [], _, w, _, hk => hE w hk
  | _ :: ds, _, w, ⟨D, e, h1, h2, h3, h4⟩, hk => by
    subst e
    refine ⟨by simp, .inl ⟨D, _, rfl, run_takeDeferred h3, ?_⟩⟩
    exact leaves_marks lo K hK hE ds D _ (h4.keep fun k _ hkD => World.putObj_heap_other (by omega)) (hK w D hk h1 h3)

/-- The sum of the pairs that have come. -/
def lsum (bs : List UInt8) : List Nat → Int := List.foldl (fun s x => s + wrd bs x) 0
theorem lsum_snoc (bs : List UInt8) (pre : List Nat) (x : Nat) : lsum bs (pre ++ [x]) = lsum bs pre + wrd bs x := by simp [lsum]
theorem lsum_range (bs : List UInt8) (k : Nat) : lsum bs (List.range k) = wsum bs k := by
  induction k with
  | zero => rfl
  | succ k ih => rw [List.range_succ, lsum_snoc, ih, wsum_succ]
theorem lsum_bd (bs : List UInt8) (pre : List Nat) : 0 ≤ lsum bs pre ∧ lsum bs pre ≤ 65535 * (pre.length : Int) := by
  suffices h : ∀ (pre : List Nat) (s : Int) (m : Int), 0 ≤ s → s ≤ 65535 * m → 0 ≤ List.foldl (fun s x => s + wrd bs x) s pre ∧ List.foldl (fun s x => s + wrd bs x) s pre ≤ 65535 * (m + (pre.length : Int)) by
    simpa [lsum] using h pre 0 0 (by omega) (by omega)
  intro pre
  induction pre with
  | nil => intro s m h0 h1; simpa using ⟨h0, h1⟩
  | cons x l ih =>
    intro s m h0 h1
    have hx := wrd_bd bs x
    have := ih (s + wrd bs x) (m + 1) (by omega) (by omega)
    rw [List.foldl_cons, List.length_cons]
    refine ⟨this.1, ?_⟩
    have h2 := this.2
    omega

/-- Is a sum right? A plain definition. -/
def rightB (ps : List (List UInt8)) : Bool := fold (psum ps) == 65535
/-- Change, said at once. -/
def chg (s : Int) (old now : List UInt8) : Int := if 0 ≤ s ∧ s ≤ 65535 then 65535 - fold (65535 - s + (65535 * (prs old.length : Int) - wall old) + wall now) else 0
theorem chg_no {s : Int} {old now : List UInt8} (h : ¬ (0 ≤ s ∧ s ≤ 65535)) : chg s old now = 0 := by rw [chg, if_neg h]

end Go.Proofs.Ythdaclbgandmcaa

/-
  A range over an iterator that hands over memory which it made in the round: what is known of an element comes with it. Conditions are each theorem's own.
-/
namespace Go.Proofs.Ythdaclbgandmcaa
open Go.RowKit Go.Shelf

/-- An iterator's promise: its elements come in order; of each, when it comes, G is known. -/
def SeqTold {α : Type} (m : Nat) (P : Program) (g : Nat) (lb : Array Value) (encs : α → Array Value) (G : List α → α → World → Prop) (Kp : World → World → Prop) (S Sp : List α → Prop) (w : World) : Prop :=
  ∀ (l : Nat) (J Jx : List α → World → Prop) (W : World), Below w.heap.size w W → AbidesFrom W.heap.size J → AbidesFrom W.heap.size Jx →
    (∀ pre x X, J pre X → G pre x X → YieldAt Fence.wide (m - 1) P l (encs x) X fun e Y =>
      (e = .returned (.bool true) ∧ J (pre ++ [x]) Y ∧ Kp X Y) ∨ (e = .returned (.bool false) ∧ Jx (pre ++ [x]) Y)) →
    J [] W →
    CallsIn Fence.wide m P g (#[.func (.yield l) #[] #[]] ++ lb) W fun e Y => (∃ v, e = .returned v) ∧ ((∃ xs, S xs ∧ J xs Y) ∨ (∃ pre, Sp pre ∧ Jx pre Y))
/-- The loop's record, in a state. -/
def recd (fn : FuncId) (a : Act) (ps : Array Tmp) (assign body : Code) (D : Nat) (st : LoopState) (pe : Option Code) : Loop := { state := st, pending := pe, fn := fn, tmps := a.tmps, params := ps, assign := assign, body := body, defers := D }
/-- The statement's two blocks: the rounds' deferred calls at D, the record behind it. -/
structure Two (W : World) (D : Nat) (r : Loop) : Prop where
  calls : W.heap[D]? = some (.deferred (some []))
  rec_ : W.heap[D + 1]? = some (.loop r)
section
variable {W V : World} {D : Nat} {r : Loop}
theorem Two.turn (h : Two W D r) (s : Loop) : Two (W.putObj (D + 1) (.loop s)) D s :=
  ⟨(World.putObj_heap_other (by omega)).trans h.calls, World.putObj_heap_same (heap_lt h.rec_)⟩
theorem Two.abides (h : Two W D r) {row : Option Nat} (hg : W.grownBy V row) (hr : ∀ k, row = some k → ∃ o : Obj, W.heap[k]? = some o ∧ o.isWalk = true) : Two V D r :=
  ⟨(grownBy_keeps hg hr h.calls rfl).trans h.calls, (grownBy_keeps hg hr h.rec_ rfl).trans h.rec_⟩
theorem Two.keeps (h : Two W D r) (hk : KeepsFrom D W V) : Two V D r := ⟨hk.same _ _ (Nat.le_refl _) h.calls rfl, hk.same _ _ (by omega) h.rec_ rfl⟩
theorem Two.first (w : World) (r : Loop) : Two ((w.alloc (.deferred (some []))).alloc (.loop r)) w.heap.size r := by
  refine ⟨(Below.heap_alloc _ _ _ (by simp)).trans (World.alloc_heap_new w _), ?_⟩
  have := World.alloc_heap_new (w.alloc (.deferred (some []))) (.loop r)
  rwa [World.size_alloc] at this
end
/-- How a round ends, said at once: by going on, or by a jump that waits. -/
theorem round_end {α : Type} {P : Program} {fn : FuncId} {a : Act} {ps : Array Tmp} {assign body : Code} {w X Y : World} {Kp : World → World → Prop} {I : List α → World → Prop} {Ix : Code → List α → World → Prop} {pre : List α}
    (hI : OwnFrom w.heap.size I) (hIx : ∀ c, OwnFrom w.heap.size (Ix c)) (hKt : ∀ {A B C : World}, Kp A B → Kp B C → Kp A C) (hKb : ∀ (W : World) (l : Nat) (r r' : Loop), w.heap.size ≤ l → W.heap[l]? = some (.loop r) → Kp W (W.putObj l (.loop r')))
    (X0 : World) (h0 : Kp X0 X) (hT : Two X w.heap.size (recd fn a ps assign body w.heap.size .busy none)) (e : Exit) (b : Act) (h : ownPostG w.heap.size Kp I Ix pre X e b Y) :
    roundPost P (w.heap.size + 1) (fun e Y => (e = .returned (.bool true) ∧ (I pre Y ∧ Two Y w.heap.size (recd fn a ps assign body w.heap.size .ready none)) ∧ Kp X0 Y) ∨
      (e = .returned (.bool false) ∧ ∃ c, Ix c pre Y ∧ Two Y w.heap.size (recd fn a ps assign body w.heap.size .done (some c)))) e b Y := by
  have jump : ∀ c, KeepsFrom w.heap.size X Y ∧ Ix c pre Y → ∃ v Z, (Instr.endRound (w.heap.size + 1) (some c)).run P Y = .ok v Z ∧
      ((Ending.returned v = .returned (.bool true) ∧ (I pre Z ∧ Two Z w.heap.size (recd fn a ps assign body w.heap.size .ready none)) ∧ Kp X0 Z) ∨
      (Ending.returned v = .returned (.bool false) ∧ ∃ c, Ix c pre Z ∧ Two Z w.heap.size (recd fn a ps assign body w.heap.size .done (some c)))) := fun c hp => by
    have ht := hT.keeps hp.1
    exact ⟨_, _, run_endRound (some c) ht.rec_, .inr ⟨rfl, c, (hIx c).putObj _ hp.2 (by omega) ht.rec_ rfl, ht.turn _⟩⟩
  cases e with
  | normal =>
    have ht := hT.keeps h.1
    exact ⟨_, _, run_endRound none ht.rec_, .inl ⟨rfl, ⟨hI.putObj _ h.2.2 (by omega) ht.rec_ rfl, ht.turn _⟩, hKt (hKt h0 h.2.1) (hKb _ _ _ _ (by omega) ht.rec_)⟩⟩
  | ret => exact jump .ret h
  | exit id => exact jump (.exit id) h
  | goto t => exact jump (.goto t) h
  | panic c => exact h.elim
  | outgrown => exact h.elim
theorem range_told {α : Type} {n : Nat} {P : Program} {g : Operand} {ps : Array Tmp} {assign body : Code} {Q : Exit → Act → World → Prop} {a : Act} {w : World} (h1 : 1 ≤ n)
    {gf : Nat} {lb : Array Value} (hg : a.eval g = .func (.func gf) #[] lb) (eg : ∀ args w, (callFunc gf args).run P w = .ok (.enter gf args) w)
    {encs : α → Array Value} {G : List α → α → World → Prop} {Kp : World → World → Prop} {S Sp : List α → Prop} {w0 : World} (hseq : SeqTold (n - 1) P gf lb encs G Kp S Sp w0)
    (hKt : ∀ {A B C : World}, Kp A B → Kp B C → Kp A C) (hKb : ∀ (W : World) (l : Nat) (r r' : Loop), w.heap.size ≤ l → W.heap[l]? = some (.loop r) → Kp W (W.putObj l (.loop r')))
    (hb0 : Below w0.heap.size w0 w) (hps : ∀ x, (encs x).size = ps.size)
    (hG : ∀ (pre : List α) (x : α) (W : World) (l : Nat) (r r' : Loop), G pre x W → w.heap.size ≤ l → W.heap[l]? = some (.loop r) → G pre x (W.putObj l (.loop r')))
    (I : List α → World → Prop) (Ix : Code → List α → World → Prop) (hI : OwnFrom w.heap.size I) (hIx : ∀ c, OwnFrom w.heap.size (Ix c)) (h0 : I [] w) (a₁ : α → Act)
    (hassign : ∀ (l : Nat) (x : α) (W : World) (K : Act → World → Prop), K (a₁ x) W →
      assign.wpIn (Fence.wide.inRound l) (n - 1 - 1) P (Exit.then K (fun _ _ _ => False)) { tmps := (ps.zip (encs x)).foldl (fun t (p, v) => t.setIfInBounds p v) a.tmps, defers := [] } W)
    (hbody : ∀ (l : Nat) (pre : List α) (x : α) (W : World), I pre W → G pre x W → body.wpIn (Fence.wide.inRound l) (n - 1 - 1) P (ownPostG w.heap.size Kp I Ix (pre ++ [x]) W) (a₁ x) W)
    (hdone : ∀ (D : Nat) (xs : List α) (W : World), w.heap.size ≤ D → S xs → I xs W → W.heap[D]? = some (.deferred (some [])) → Q .normal { a with defers := { target := .collected D, args := #[] } :: a.defers } W)
    (hstop : ∀ (D : Nat) (c : Code) (pre : List α) (W : World), w.heap.size ≤ D → Sp pre → Ix c pre W → W.heap[D]? = some (.deferred (some [])) → c.wpIn Fence.wide n P Q { a with defers := { target := .collected D, args := #[] } :: a.defers } W) :
    (Code.rangeFunc g ps assign body).wpIn Fence.wide n P Q a w := by
  refine wpIn_rangeFunc fun fn _ => ?_
  have t1 := Two.first w (recd fn a ps assign body w.heap.size .ready none)
  have b1 : Below w0.heap.size w0 ((w.alloc (.deferred (some []))).alloc (.loop (recd fn a ps assign body w.heap.size .ready none))) := (hb0.alloc hb0.size _).alloc (by have := hb0.size; simp; omega) _
  have i1 : I [] ((w.alloc (.deferred (some []))).alloc (.loop (recd fn a ps assign body w.heap.size .ready none))) := hI.alloc _ (hI.alloc _ h0)
  have z1 : w.heap.size ≤ ((w.alloc (.deferred (some []))).alloc (.loop (recd fn a ps assign body w.heap.size .ready none))).heap.size := by simp; omega
  obtain ⟨W1, hW1⟩ : ∃ W1, W1 = (w.alloc (.deferred (some []))).alloc (.loop (recd fn a ps assign body w.heap.size .ready none)) := ⟨_, rfl⟩
  rw [← hW1] at t1 b1 i1 z1
  refine ⟨w.heap.size + 1, [{ target := .collected w.heap.size, args := #[] }], W1, { target := .fn (.func gf) lb, args := #[.func (.yield (w.heap.size + 1)) #[] #[]] }, W1, gf, #[.func (.yield (w.heap.size + 1)) #[] #[]] ++ lb, W1,
    ?_, ?_, fun _ _ => trivial, ?_, fun _ => h1, ?_⟩
  · rw [hW1]; exact run_enterLoop_outer fn a.tmps ps assign body
  · simp only [resolve, hg]; simp [go_sem]
  · simp [invoke, go_sem, eg]
  · refine (hseq (w.heap.size + 1) (fun pre W => I pre W ∧ Two W w.heap.size (recd fn a ps assign body w.heap.size .ready none))
      (fun pre W => ∃ c, Ix c pre W ∧ Two W w.heap.size (recd fn a ps assign body w.heap.size .done (some c))) _ b1 ?_ ?_ ?_ ⟨i1, t1⟩).mono ?_
    · rintro s A B row ⟨hi, ht⟩ hgr hr
      exact ⟨hI s A B row hi hgr fun r e => by obtain ⟨hB, o, ho, hw⟩ := hr r e; exact ⟨by omega, o, ho, Obj.not_cells_of_walk hw⟩, ht.abides hgr fun r e => (hr r e).2⟩
    · rintro s A B row ⟨c, hi, ht⟩ hgr hr
      exact ⟨c, hIx c s A B row hi hgr fun r e => by obtain ⟨hB, o, ho, hw⟩ := hr r e; exact ⟨by omega, o, ho, Obj.not_cells_of_walk hw⟩, ht.abides hgr fun r e => (hr r e).2⟩
    · rintro pre x X ⟨hi, ht⟩ hgx
      refine ⟨fn, _, assign, body, run_yield ht.rec_ (hps x), roundIn_of_wpIn trivial (hassign _ x X _ ⟨_, run_beginRound ht.rec_ rfl, ?_⟩)⟩
      have hbu := ht.turn (recd fn a ps assign body w.heap.size .busy none)
      exact wpIn_mono (hbody _ pre x _ (hI.putObj _ hi (by omega) ht.rec_ rfl) (hG pre x X _ _ _ hgx (by omega) ht.rec_))
        (fun e b Y hp => by
          have hk0 : Kp X (X.putObj (w.heap.size + 1) (.loop (recd fn a ps assign body w.heap.size .busy none))) := hKb _ _ _ _ (by omega) ht.rec_
          exact round_end (P := P) (pre := pre ++ [x]) (Kp := Kp) (I := I) (Ix := Ix) hI hIx hKt hKb X hk0 hbu e b hp)
    · rintro e Y ⟨⟨v, rfl⟩, ⟨xs, hs, hi, ht⟩ | ⟨pre, hs, c, hi, ht⟩⟩
      · exact ⟨none, _, run_endLoop ht.rec_ (by simp [recd]), hdone _ xs _ (Nat.le_refl _) hs (hI.putObj _ hi (by omega) ht.rec_ rfl) (ht.turn _).calls⟩
      · exact ⟨some c, _, run_endLoop ht.rec_ (by simp [recd]), hstop _ c pre _ (Nat.le_refl _) hs ((hIx c).putObj _ hi (by omega) ht.rec_ rfl) (ht.turn _).calls⟩
end Go.Proofs.Ythdaclbgandmcaa

/-
  A region that draws its order, whose operations leave what was there as it was: its walk step by step. Conditions are each theorem's own.
-/
namespace Go.Proofs.Ythdaclbgandmcaa
open Go.RowKit

theorem range_below {w w' : World} {b o B : Nat} {cs : List Value} (h : w.rangeAt b o cs) (hB : b < B) (hb : Below B w w') : w'.rangeAt b o cs := fun j v hj => by
  rw [hb.cell hB]; exact h j v hj
theorem held_pure {P : Program} {ops : Array Oper} {Q : Exit → Act → World → Prop} {md : Region.Mode} {S : World → Prop} {i : Nat} {oi : Oper} {v : Value} {fuel : Nat} {listed : Array Bool} {a : Act} {w : World} (hi : ops[i]? = some oi)
    (hs : Region.noSelect ops = true) (hf : Region.free md ops listed i = true) (hr : (Region.ready md ops listed).contains i = true)
    (hQ : ∀ c a w, Q (.panic c) (a.put oi.dst v) w → Q (.panic c) a w) (hw : Region.wanted oi (yielded ops a.tmps) = true)
    (hrun : ∀ w, S w → (execOp a.eval oi).run P w = .ok (.value v) w) (hS : S w)
    (h : S w → wpAnyH P md ops Q S fuel (listed.setIfInBounds i true) (a.put oi.dst v) w) : wpAnyH P md ops Q S (fuel + 1) listed a w :=
  wpAnyH_take hi hs hf hr hQ (.inl ⟨hw, hrun⟩) hS (h hS)
theorem held_skip {P : Program} {ops : Array Oper} {Q : Exit → Act → World → Prop} {md : Region.Mode} {S : World → Prop} {i : Nat} {oi : Oper} {fuel : Nat} {listed : Array Bool} {a : Act} {w : World} (hi : ops[i]? = some oi)
    (hs : Region.noSelect ops = true) (hf : Region.free md ops listed i = true) (hr : (Region.ready md ops listed).contains i = true)
    (hQ : ∀ c a w, Q (.panic c) (a.put oi.dst undef) w → Q (.panic c) a w) (hw : Region.wanted oi (yielded ops a.tmps) = false) (hS : S w)
    (h : S w → wpAnyH P md ops Q S fuel (listed.setIfInBounds i true) (a.put oi.dst undef) w) : wpAnyH P md ops Q S (fuel + 1) listed a w :=
  wpAnyH_take hi hs hf hr hQ (.inr ⟨hw, rfl⟩) hS (h hS)
/-- What a class of worlds 'as w0 below its end' hands on. -/
theorem below_step {w0 w w' : World} (h : Below w0.heap.size w0 w) (hb : Below w.heap.size w w') : Below w0.heap.size w0 w' := h.trans (hb.mono h.size)
/-- Two new blocks, a draw, three calls. -/
theorem chain4 {w w1 w2 w3 w4 : World} {x y : Obj} (b1 : Below w.heap.size w w1) (b2 : Below ((w1.alloc x).alloc y).drew.heap.size ((w1.alloc x).alloc y).drew w2) (b3 : Below w2.heap.size w2 w3) (b4 : Below w3.heap.size w3 w4) : Below w.heap.size w w4 := by
  have h1 : ((w1.alloc x).alloc y).drew.heap.size = w1.heap.size + 2 := by show ((w1.alloc x).alloc y).heap.size = _; simp
  have s1 := b1.size
  have s2 := b2.size
  have s3 := b3.size
  have hX : Below w.heap.size w ((w1.alloc x).alloc y).drew := ((b1.alloc s1 x).alloc (by simp; omega) y).drew
  exact ((hX.trans (b2.mono (by omega))).trans (b3.mono (by omega))).trans (b4.mono (by omega))
theorem ints_new (w : World) (zs : List Int) (t : TypeId) : RdI (w.alloc (.cells (zs.map (Value.int .i64)).toArray t)).drew (w.heap.size + 1) (some ⟨w.heap.size, 0, none⟩) zs := fun _ =>
  ⟨w.heap.size, 0, rfl, Nat.lt_succ_self _, fun j hj => by
    show (w.alloc (.cells (zs.map (Value.int .i64)).toArray t)).cell? _ = _
    rw [Nat.zero_add, World.cell?_alloc_new, List.getElem?_toArray, List.getElem?_map, List.getElem?_eq_getElem hj, List.getD_eq_getElem?_getD, List.getElem?_eq_getElem hj]; rfl⟩
end Go.Proofs.Ythdaclbgandmcaa
