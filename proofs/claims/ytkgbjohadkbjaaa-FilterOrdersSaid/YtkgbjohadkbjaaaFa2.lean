/-
  Contracts and lemmas on which the proofs of this seat stand (several texts in one). Conditions are each theorem's own.
-/
import Derived.Test.YtkgbjohadkbjaaaFa1
import Derived.Deep.RegionHeld3
import Derived.Deep.MidRow
import Derived.Maps.RangeWalk
import Derived.Great.BuildSlice
import Derived.OwnWalkIn
import Derived.ProofKit
import Derived.OpenShut
import Derived.ChangeMaps5

/-
  The sum of the Internet in plain numbers, and the contracts of Fold, the program's and the document's. Conditions are each theorem's own.
-/
namespace Go.Proofs.Ytkgbjohadkbjaaa
open Go.RowKit

/-- Fold, said at once: a number above 0 is told by its rest modulo 65535, from 1 on. A plain definition. -/
def fold (n : Int) : Int := if n ≤ 0 then 0 else (n - 1) % 65535 + 1
theorem fold_neg {n : Int} (h : n < 0) : fold n = 0 := by unfold fold; rw [if_pos (by omega)]
theorem fold_small {n : Int} (h0 : 0 ≤ n) (h : n ≤ 65535) : fold n = n := by
  unfold fold; split <;> omega
theorem fold_step {n : Int} (h : 65535 < n) : fold (n % 65536 + n / 65536) = fold n := by
  unfold fold; rw [if_neg (by omega), if_neg (by omega)]; omega
theorem fold_bd (n : Int) : 0 ≤ fold n ∧ fold n ≤ 65535 := by unfold fold; split <;> omega
theorem fold_zero : fold 0 = 0 := rfl

theorem wraps63 (n : Int) (h₀ : 0 ≤ n) (h₁ : n < 2 ^ 63) : IntKind.i64.wrap n = n := by rw [IntKind.wrap_i64]; omega
theorem and_full (n : Int) (h0 : 0 ≤ n) (h1 : n ≤ 9223372036854775807) : bits .and .i64 n 65535 = n % 65536 := by
  have := bits_mask .i64 63 (by decide) wraps63 16 (by decide) n h0 (by omega)
  simpa using this

set_option maxHeartbeats 400000 in
theorem fold_any (n : Int) (w : World) (hn : n ≤ 9223372036854775807) :
    Calls Try.prog 119 #[.int .i64 n] w fun e w' => e = .returned (.int .i64 (fold n)) ∧ w = w' := by
  by_cases h0 : n < 0
  · rw [fold_neg h0]
    go_enter Try.func119, Try.ntmps119
    go_wp2
    go_ret
    exact ⟨rfl, rfl⟩
  · go_enter Try.func119, Try.ntmps119
    go_wp2
    go_loop [0] (fun v => ∃ m : Int, 0 ≤ m ∧ m ≤ 9223372036854775807 ∧ Hid (fold m = fold n) ∧ v = .int .i64 m) (fun v => (intOf v).toNat)
    case atStart => exact ⟨n, by omega, hn, Lib.hid rfl, rfl⟩
    case round =>
      obtain ⟨m, hm0, hm1, Hm, rfl⟩ := hrel
      by_cases hlt : 65535 < m
      · have hA := and_full m hm0 hm1
        have HF := Lib.hid (fold_step hlt)
        go_wp2
        go_roundw
        case rel => exact ⟨m % 65536 + m / 65536, by omega, by omega, Lib.hid (HF.out.trans Hm.out), rfl⟩
        case measure => simp [intOf]; omega
      · go_wp2
        go_ret
        exact ⟨ret_int (by rw [← Hm.out, fold_small hm0 (by omega)]), rfl⟩

set_option maxHeartbeats 400000 in
theorem rfold_any (n : Int) (w : World) (hn : n ≤ 9223372036854775807) :
    Calls Try.prog 113 #[.int .i64 n] w fun e w' => e = .returned (.int .i64 (fold n)) ∧ w = w' := by
  by_cases h0 : n < 0
  · rw [fold_neg h0]
    go_enter Try.func113, Try.ntmps113
    go_wp2
    go_ret
    exact ⟨rfl, rfl⟩
  · go_enter Try.func113, Try.ntmps113
    go_wp2
    go_loop [0] (fun v => ∃ m : Int, 0 ≤ m ∧ m ≤ 9223372036854775807 ∧ Hid (fold m = fold n) ∧ v = .int .i64 m) (fun v => (intOf v).toNat)
    case atStart => exact ⟨n, by omega, hn, Lib.hid rfl, rfl⟩
    case round =>
      obtain ⟨m, hm0, hm1, Hm, rfl⟩ := hrel
      by_cases hlt : 65535 < m
      · have HF := Lib.hid (fold_step hlt)
        go_wp2
        go_roundw
        case rel => exact ⟨m % 65536 + m / 65536, by omega, by omega, Lib.hid (HF.out.trans Hm.out), rfl⟩
        case measure => simp [intOf]; omega
      · go_wp2
        go_ret
        exact ⟨ret_int (by rw [← Hm.out, fold_small hm0 (by omega)]), rfl⟩

/-! ### Sums of words -/

/-- The sum of the first k pairs. -/
def wsum (bs : List UInt8) : Nat → Int
  | 0 => 0
  | k + 1 => wsum bs k + wrd bs k
def wall (bs : List UInt8) : Int := wsum bs (prs bs.length)
def psum (ps : List (List UInt8)) : Int := (ps.map wall).sum
theorem wsum_succ (bs : List UInt8) (k : Nat) : wsum bs (k + 1) = wsum bs k + wrd bs k := rfl
theorem wsum_bd (bs : List UInt8) (k : Nat) : 0 ≤ wsum bs k ∧ wsum bs k ≤ 65535 * (k : Int) := by
  induction k with
  | zero => simp [wsum]
  | succ k ih => have := wrd_bd bs k; rw [wsum_succ]; omega
theorem wall_bd (bs : List UInt8) : 0 ≤ wall bs ∧ wall bs ≤ 65535 * (bs.length : Int) := by
  have := wsum_bd bs (prs bs.length); unfold wall; unfold prs at *; omega
theorem psum_take (ps : List (List UInt8)) {k : Nat} {bs : List UInt8} (h : ps[k]? = some bs) : psum (ps.take (k + 1)) = psum (ps.take k) + wall bs := by
  rw [List.take_add_one, h]; simp [psum]
/-- How many bytes there are in all. -/
def bulk (ps : List (List UInt8)) : Nat := (ps.map List.length).sum
theorem bulk_take (ps : List (List UInt8)) {k : Nat} {bs : List UInt8} (h : ps[k]? = some bs) : bulk (ps.take (k + 1)) = bulk (ps.take k) + bs.length := by
  rw [List.take_add_one, h]; simp [bulk]
theorem psum_bd (ps : List (List UInt8)) : 0 ≤ psum ps ∧ psum ps ≤ 65535 * (bulk ps : Int) := by
  induction ps with
  | nil => simp [psum, bulk]
  | cons b l ih =>
    have := wall_bd b
    have e1 : psum (b :: l) = wall b + psum l := by simp [psum]
    have e2 : bulk (b :: l) = b.length + bulk l := by simp [bulk]
    rw [e1, e2]; omega
theorem bulk_le (ps : List (List UInt8)) (k : Nat) : bulk (ps.take k) ≤ bulk ps := by
  have : bulk ps = bulk (ps.take k) + bulk (ps.drop k) := by
    conv => lhs; rw [← List.take_append_drop k ps]
    simp only [bulk, List.map_append, List.sum_append]
  omega
theorem len_bulk {ps : List (List UInt8)} {k : Nat} {bs : List UInt8} (h : ps[k]? = some bs) : bs.length ≤ bulk ps := by
  have := bulk_take ps h; have := bulk_le ps (k + 1); omega

/-! ### A slice of slices of bytes -/

/-- The slice at A, of ps.length elements, reads as slices that read as ps; all lies below block B. -/
def Rd2 (w : World) (B : Nat) (A : Option Addr) (ps : List (List UInt8)) : Prop :=
  0 < ps.length → ∃ b off, A = some ⟨b, off, none⟩ ∧ b < B ∧ ∀ (j : Nat) (bs : List UInt8), ps[j]? = some bs → ∃ Aj cj, w.cell? ⟨b, off + j, none⟩ = some (.slice Aj bs.length cj) ∧ Arg w B Aj cj bs
theorem Rd2.below {w w' : World} {B : Nat} {A : Option Addr} {ps : List (List UInt8)} (h : Rd2 w B A ps) (hb : Below B w w') : Rd2 w' B A ps := fun hn => by
  obtain ⟨b, off, e, hlt, hc⟩ := h hn
  refine ⟨b, off, e, hlt, fun j bs hj => ?_⟩
  obtain ⟨Aj, cj, h1, h2⟩ := hc j bs hj
  exact ⟨Aj, cj, (hb.cell (p := ⟨b, off + j, none⟩) hlt).trans h1, h2.below hb⟩
end Go.Proofs.Ytkgbjohadkbjaaa

/-
  Contracts of the program's sum: Add, Of, Right, Change. Conditions are each theorem's own.
-/
namespace Go.Proofs.Ytkgbjohadkbjaaa
open Go.RowKit Go.Shelf
attribute [local go_sem] Oper.semAt_some

/-! ### Many ranges over a function in one call: the marks that they leave -/

/-- The deferred calls are marks of blocks from lo on and below hi, each below the one ahead of it, that nothing was put into. -/
def Marks (lo : Nat) : Nat → List Deferred → World → Prop
  | _, [], _ => True
  | hi, d :: ds, w => ∃ D, d = { target := .collected D, args := #[] } ∧ lo ≤ D ∧ D < hi ∧ w.heap[D]? = some (.deferred (some [])) ∧ Marks lo D ds w
theorem Marks.keep {lo : Nat} {w w' : World} : ∀ {ds : List Deferred} {hi : Nat}, Marks lo hi ds w → (∀ k, lo ≤ k → k < hi → w'.heap[k]? = w.heap[k]?) → Marks lo hi ds w'
  | [], _, _, _ => trivial
  | _ :: _, _, ⟨D, e, h1, h2, h3, h4⟩, hk => ⟨D, e, h1, h2, (hk D h1 h2).trans h3, h4.keep fun k a b => hk k a (by omega)⟩
theorem Marks.more {lo : Nat} {w : World} : ∀ {ds : List Deferred} {hi hi' : Nat}, Marks lo hi ds w → hi ≤ hi' → Marks lo hi' ds w
  | [], _, _, _, _ => trivial
  | _ :: _, _, _, ⟨D, e, h1, h2, h3, h4⟩, hh => ⟨D, e, h1, by omega, h3, h4⟩
theorem Marks.push {lo hi D : Nat} {ds : List Deferred} {w : World} (h : Marks lo hi ds w) (hD : hi ≤ D) (hlo : lo ≤ D) (hK : w.heap[D]? = some (.deferred (some []))) :
    Marks lo (D + 1) ({ target := .collected D, args := #[] } :: ds) w := ⟨D, rfl, hlo, Nat.lt_succ_self D, hK, h.more hD⟩
theorem Marks.turn {lo : Nat} {w w' : World} {r : Option Nat} (hg : w.grownBy w' r) : ∀ {ds : List Deferred} {hi : Nat}, Marks lo hi ds w → (∀ k, r = some k → hi ≤ k) → Marks lo hi ds w'
  | [], _, _, _ => trivial
  | _ :: _, _, ⟨D, e, h1, h2, h3, h4⟩, hr => ⟨D, e, h1, h2, (hg.block D (heap_lt h3) (fun e => by have := hr D e.symm; omega)).trans h3, h4.turn hg fun k e => by have := hr k e; omega⟩

/-- A function that leaves with such marks: what holds behind the turn of each block holds at its end. -/
theorem leaves_marks {F : Fence} {n : Nat} {P : Program} {fn : Func} {tmps : Array Value} {R : Ending → World → Prop} (lo : Nat) (K : World → Prop)
    (hK : ∀ (w : World) (D : Nat), K w → lo ≤ D → w.heap[D]? = some (.deferred (some [])) → K (w.putObj D (.deferred none)))
    (hE : ∀ w, K w → LeavesInM F n P fn tmps R [] .returning w) : ∀ (ds : List Deferred) (hi : Nat) (w : World), Marks lo hi ds w → K w → LeavesInM F n P fn tmps R ds .returning w
  | [], _, w, _, hk => hE w hk
  | _ :: ds, _, w, ⟨D, e, h1, h2, h3, h4⟩, hk => by
    subst e
    refine ⟨by simp, .inl ⟨D, _, rfl, run_takeDeferred h3, ?_⟩⟩
    exact leaves_marks lo K hK hE ds D _ (h4.keep fun k _ hkD => World.putObj_heap_other (by omega)) (hK w D hk h1 h3)

/-- The sum of the pairs that have come. -/
def lsum (bs : List UInt8) : List Nat → Int := List.foldl (fun s x => s + wrd bs x) 0
theorem lsum_snoc (bs : List UInt8) (pre : List Nat) (x : Nat) : lsum bs (pre ++ [x]) = lsum bs pre + wrd bs x := by simp [lsum]
theorem lsum_range (bs : List UInt8) (k : Nat) : lsum bs (List.range k) = wsum bs k := by
  induction k with
  | zero => rfl
  | succ k ih => rw [List.range_succ, lsum_snoc, ih, wsum_succ]
theorem lsum_bd (bs : List UInt8) (pre : List Nat) : 0 ≤ lsum bs pre ∧ lsum bs pre ≤ 65535 * (pre.length : Int) := by
  suffices h : ∀ (pre : List Nat) (s : Int) (m : Int), 0 ≤ s → s ≤ 65535 * m → 0 ≤ List.foldl (fun s x => s + wrd bs x) s pre ∧ List.foldl (fun s x => s + wrd bs x) s pre ≤ 65535 * (m + (pre.length : Int)) by
    simpa [lsum] using h pre 0 0 (by omega) (by omega)
  intro pre
  induction pre with
  | nil => intro s m h0 h1; simpa using ⟨h0, h1⟩
  | cons x l ih =>
    intro s m h0 h1
    have hx := wrd_bd bs x
    have := ih (s + wrd bs x) (m + 1) (by omega) (by omega)
    rw [List.foldl_cons, List.length_cons]
    refine ⟨this.1, ?_⟩
    have h2 := this.2
    omega

/-- Is a sum right? A plain definition. -/
def rightB (ps : List (List UInt8)) : Bool := fold (psum ps) == 65535
/-- Change, said at once. -/
def chg (s : Int) (old now : List UInt8) : Int := if 0 ≤ s ∧ s ≤ 65535 then 65535 - fold (65535 - s + (65535 * (prs old.length : Int) - wall old) + wall now) else 0
theorem chg_no {s : Int} {old now : List UInt8} (h : ¬ (0 ≤ s ∧ s ≤ 65535)) : chg s old now = 0 := by rw [chg, if_neg h]

set_option maxRecDepth 100000 in
set_option maxHeartbeats 4000000 in
theorem change_any (A A' : Option Addr) (old now : List UInt8) (c c' B : Nat) (s : Int) (w : World) (h : Rd w B A old) (h' : Rd w B A' now) (hB : B ≤ w.heap.size) (hl : old.length ≤ 1099511627000) (hl' : now.length ≤ 1099511627000) :
    Calls Try.prog 109 #[.int .i64 s, .slice A old.length c, .slice A' now.length c'] w fun e w' => e = .returned (.int .i64 (chg s old now)) ∧ Below w.heap.size w w' := by
  refine (callsIn_wide (n := 4)).1 ?_
  refine callsIn_of_wp_marks Try.func109 rfl trivial ?_ rfl
  simp only [Try.ntmps109, List.size_toArray, List.length_cons, List.length_nil, Nat.reduceAdd, Nat.reduceSub, Array.replicate_succ, Array.replicate_zero, List.push_toArray, List.append_toArray, List.nil_append, List.cons_append]
  by_cases h0 : 0 ≤ s
  · by_cases h1 : s ≤ 65535
    · have hd : decide (65535 < s) = false := by simp; omega
      have hd0 : decide (s < 0) = false := by simp; omega
      have b0 := Boxed.new w 3 (.int .i64 (65535 - s))
      have hB0 : Below w.heap.size w (w.alloc (.cells #[.int .i64 (65535 - s)] 3)) := (Below.refl _ w).alloc (Nat.le_refl _) _
      have hs0 : (w.alloc (.cells #[.int .i64 (65535 - s)] 3)).heap.size = w.heap.size + 1 := by simp
      gi_wp2_with (refine ⟨trivial, ?_⟩; gi_at_call 118; refine (callsIn_wide.2 (words_any A old c B _ (h.below (hB0.mono hB)) (Nat.le_trans hB hB0.size) hl)).mono ?_; rintro e w2 ⟨Bs, rfl, hbW, hseq⟩)
      have hw2 := hbW.size
      have g0 := Boxed.below b0 hbW (by rw [hs0]; omega)
      have hB2 : Below w.heap.size w w2 := hB0.trans (hbW.mono hB0.size)
      rw [hs0] at hseq hw2
      have hpl : prs old.length ≤ old.length + 1 := by unfold prs; omega
      have hpl' : prs now.length ≤ now.length + 1 := by unfold prs; omega
      clear b0 hbW hB0 hs0
      refine wpIn_rangeFunc_ownG rfl (by omega) (gf := 123) (lb := #[.pointer (some ⟨Bs, 0, none⟩)]) rfl trivial (enters_of Try.func123 (by kernel_rfl) rfl)
        (hseq (4 - 1) (by omega)) Holds.trans (Holds.b (Nat.le_refl _)) (Below.refl _ _) (fun _ => rfl)
        (fun pre X => Boxed X w.heap.size 3 (.int .i64 (65535 - s + (65535 * (pre.length : Int) - lsum old pre))) ∧ Below w.heap.size w X)
        (fun _ _ _ => False)
        (fun pre X Y r hs hg hr => ⟨box_keep hs.1 hg hr, below_keep hs.2 hg hr (by omega) (Nat.le_refl _)⟩)
        (fun _ _ _ _ _ hs _ _ => hs)
        ⟨by simpa [lsum] using g0, hB2⟩
        (fun x => { tmps := #[.int .i64 s, .slice A old.length c, .slice A' now.length c', undef, undef, undef, .int .i64 0, .pointer (some ⟨w.heap.size, 0, none⟩), undef, .int .i64 (wrd old x), undef, undef, .int .i64 s, .bool false, .bool false, .int .i64 s, .bool false, .bool false, .int .i64 s, .int .i64 (65535 - s), .slice A old.length c, .func (.func 123) #[] #[.pointer (some ⟨Bs, 0, none⟩)], .int .i64 (dbl x), .int .i64 (wrd old x), undef, undef, undef, undef, undef, undef, undef, undef, undef, undef, undef, undef, undef, undef], defers := [] }) ?assign ?body ?done ?stop
      case assign =>
        intro l x X K hK
        dsimp only [encW]
        gi_wp2
        exact hK
      case body =>
        rintro l pre x X ⟨hbX, hBX⟩ hlt2
        have hx := wrd_bd old x
        have hls := lsum_bd old pre
        have hcX := hbX.cell
        have hfX := hbX.frozen
        have HSn := Lib.hid (lsum_snoc old pre x)
        have HLn := Lib.hid (show ((pre ++ [x]).length : Int) = (pre.length : Int) + 1 from by simp)
        generalize lsum old pre = T at *
        generalize wrd old x = y at *
        gi_wp2
        refine ⟨(KeepsOthers.setCell _ _ _).from _, Holds.setCell (.inl (by simp)) _, ?_, hBX.setCell (p := ⟨w.heap.size, 0, none⟩) (Nat.le_refl _) _⟩
        rw [HSn.out, HLn.out]
        have e : 65535 - s + (65535 * ((pre.length : Int) + 1) - (T + y)) = 65535 - s + (65535 * (pre.length : Int) - T) + (65535 - y) := by omega
        rw [e]
        exact Boxed.set _ hbX
      case done =>
        rintro D ys X hD rfl ⟨hbX, hBX⟩ hK
        rw [List.length_range, lsum_range] at hbX
        have hm1 : Marks (w.heap.size + 1) X.heap.size [{ target := .collected D, args := #[] }] X := (Marks.push (hi := D) (ds := []) trivial (Nat.le_refl _) (by omega) hK).more (heap_lt hK)
        have hblt := hbX.lt
        have hwo := wall_bd old
        have hwp : 0 ≤ 65535 * (prs old.length : Int) - wall old := by have := wsum_bd old (prs old.length); unfold wall; omega
        change Boxed X w.heap.size 3 (.int .i64 (65535 - s + (65535 * (prs old.length : Int) - wall old))) at hbX
        obtain ⟨V, hV⟩ : ∃ V, V = 65535 - s + (65535 * (prs old.length : Int) - wall old) := ⟨_, rfl⟩
        rw [← hV] at hbX
        have hV0 : 0 ≤ V := by omega
        have hV1 : V ≤ 65535 + 65535 * (prs old.length : Int) := by omega
        have HV := Lib.hid hV
        clear hV g0 hB2 hK hseq
        gi_wp2_with (refine ⟨trivial, ?_⟩; gi_at_call 118; refine (callsIn_wide.2 (words_any A' now c' B _ (h'.below (hBX.mono hB)) (Nat.le_trans hB hBX.size) hl')).mono ?_; rintro e w3 ⟨Bs2, rfl, hbW, hseq⟩)
        have hX3 := hbW.size
        have g0 := Boxed.below hbX hbW hblt
        have hm2 : Marks (w.heap.size + 1) X.heap.size [{ target := .collected D, args := #[] }] w3 := hm1.keep fun k _ h2 => hbW.block k h2
        have hB3 : Below w.heap.size w w3 := hBX.trans (hbW.mono hBX.size)
        refine wpIn_rangeFunc_ownG rfl (by omega) (gf := 123) (lb := #[.pointer (some ⟨Bs2, 0, none⟩)]) rfl trivial (enters_of Try.func123 (by kernel_rfl) rfl)
          (hseq (4 - 1) (by omega)) Holds.trans (Holds.b (Nat.le_refl _)) (Below.refl _ _) (fun _ => rfl)
          (fun pre Y => Marks (w.heap.size + 1) X.heap.size [{ target := .collected D, args := #[] }] Y ∧ Boxed Y w.heap.size 3 (.int .i64 (V + lsum now pre)) ∧ Below w.heap.size w Y)
          (fun _ _ _ => False)
          (fun pre Y Z r hs hg hr => ⟨hs.1.turn hg (fun k e => Nat.le_trans hX3 (hr k e).1), box_keep hs.2.1 hg hr, below_keep hs.2.2 hg hr (by omega) (Nat.le_refl _)⟩)
          (fun _ _ _ _ _ hs _ _ => hs)
          ⟨hm2, by simpa [lsum] using g0, hB3⟩
          (fun x => { tmps := #[.int .i64 s, .slice A old.length c, .slice A' now.length c', undef, undef, undef, .int .i64 0, .pointer (some ⟨w.heap.size, 0, none⟩), undef, undef, undef, .int .i64 (wrd now x), .int .i64 s, .bool false, .bool false, .int .i64 s, .bool false, .bool false, .int .i64 s, .int .i64 (65535 - s), .slice A old.length c, .func (.func 123) #[] #[.pointer (some ⟨Bs, 0, none⟩)], undef, undef, undef, undef, undef, undef, .slice A' now.length c', .func (.func 123) #[] #[.pointer (some ⟨Bs2, 0, none⟩)], .int .i64 (dbl x), .int .i64 (wrd now x), undef, undef, undef, undef, undef, undef], defers := [] }) ?assign2 ?body2 ?done2 ?stop2
        case assign2 =>
          intro l x Y K hK
          dsimp only [encW]
          gi_wp2
          exact hK
        case body2 =>
          rintro l pre x Y ⟨hmY, hbY, hBY⟩ hlt2
          have hx := wrd_bd now x
          have hls := lsum_bd now pre
          have hcY := hbY.cell
          have hfY := hbY.frozen
          have HSn := Lib.hid (lsum_snoc now pre x)
          generalize lsum now pre = T at *
          generalize wrd now x = y at *
          gi_wp2
          refine ⟨(KeepsOthers.setCell _ _ _).from _, Holds.setCell (.inl (by simpa using hblt)) _, hmY.keep (fun k h1 _ => Below.heap_setCell _ _ _ _ (by simp; omega)), ?_, hBY.setCell (p := ⟨w.heap.size, 0, none⟩) (Nat.le_refl _) _⟩
          rw [HSn.out, ← Int.add_assoc]
          exact Boxed.set _ hbY
        case done2 =>
          rintro D2 ys Y hD2 rfl ⟨hmY, hbY, hBY⟩ hK
          rw [lsum_range] at hbY
          change Boxed Y w.heap.size 3 (.int .i64 (V + wall now)) at hbY
          have hwn := wall_bd now
          have hcY := hbY.cell
          have hm3 := (hmY.push (Nat.le_trans hX3 hD2) (by omega) hK)
          have hfb := fold_bd (V + wall now)
          gi_wp2_with (refine ⟨trivial, ?_⟩; gi_at_call 119; refine (callsIn_wide.2 (fold_any _ _ (by omega))).mono ?_; rintro e w' ⟨rfl, rfl⟩)
          refine leaves_marks (w.heap.size + 1) (fun X => Below w.heap.size w X) (fun X D hX h1 h2 => hX.trans (belowK_b (w := w) (Nat.le_refl _) X D _ _ (by omega) h2 rfl rfl))
            (fun X hX => ⟨_, results_tmp rfl _ _ _, ?_, hX⟩) _ _ Y hm3 hBY
          rw [chg, if_pos ⟨h0, h1⟩, ← HV.out]
          rfl
        case stop2 =>
          rintro D c pre X _ _ h _
          exact h.elim
      case stop =>
        rintro D c pre X _ _ h _
        exact h.elim
    · rw [chg_no (by omega)]
      have hd : decide (65535 < s) = true := by simp; omega
      gi_wp2
      exact ⟨_, results_tmp rfl _ _ _, rfl, Below.refl _ _⟩
  · rw [chg_no (by omega)]
    have hd : decide (s < 0) = true := by simp; omega
    gi_wp2
    exact ⟨_, results_tmp rfl _ _ _, rfl, Below.refl _ _⟩
end Go.Proofs.Ytkgbjohadkbjaaa

/-
  A range over an iterator that hands over memory which it made in the round: what is known of an element comes with it. Conditions are each theorem's own.
-/
namespace Go.Proofs.Ytkgbjohadkbjaaa
open Go.RowKit Go.Shelf

/-- An iterator's promise: its elements come in order; of each, when it comes, G is known. -/
def SeqTold {α : Type} (m : Nat) (P : Program) (g : Nat) (lb : Array Value) (encs : α → Array Value) (G : List α → α → World → Prop) (Kp : World → World → Prop) (S Sp : List α → Prop) (w : World) : Prop :=
  ∀ (l : Nat) (J Jx : List α → World → Prop) (W : World), Below w.heap.size w W → AbidesFrom W.heap.size J → AbidesFrom W.heap.size Jx →
    (∀ pre x X, J pre X → G pre x X → YieldAt Fence.wide (m - 1) P l (encs x) X fun e Y =>
      (e = .returned (.bool true) ∧ J (pre ++ [x]) Y ∧ Kp X Y) ∨ (e = .returned (.bool false) ∧ Jx (pre ++ [x]) Y)) →
    J [] W →
    CallsIn Fence.wide m P g (#[.func (.yield l) #[] #[]] ++ lb) W fun e Y => (∃ v, e = .returned v) ∧ ((∃ xs, S xs ∧ J xs Y) ∨ (∃ pre, Sp pre ∧ Jx pre Y))
/-- The loop's record, in a state. -/
def recd (fn : FuncId) (a : Act) (ps : Array Tmp) (assign body : Code) (D : Nat) (st : LoopState) (pe : Option Code) : Loop := { state := st, pending := pe, fn := fn, tmps := a.tmps, params := ps, assign := assign, body := body, defers := D }
/-- The statement's two blocks: the rounds' deferred calls at D, the record behind it. -/
structure Two (W : World) (D : Nat) (r : Loop) : Prop where
  calls : W.heap[D]? = some (.deferred (some []))
  rec_ : W.heap[D + 1]? = some (.loop r)
section
variable {W V : World} {D : Nat} {r : Loop}
theorem Two.turn (h : Two W D r) (s : Loop) : Two (W.putObj (D + 1) (.loop s)) D s :=
  ⟨(World.putObj_heap_other (by omega)).trans h.calls, World.putObj_heap_same (heap_lt h.rec_)⟩
theorem Two.abides (h : Two W D r) {row : Option Nat} (hg : W.grownBy V row) (hr : ∀ k, row = some k → ∃ o : Obj, W.heap[k]? = some o ∧ o.isWalk = true) : Two V D r :=
  ⟨(grownBy_keeps hg hr h.calls rfl).trans h.calls, (grownBy_keeps hg hr h.rec_ rfl).trans h.rec_⟩
theorem Two.keeps (h : Two W D r) (hk : KeepsFrom D W V) : Two V D r := ⟨hk.same _ _ (Nat.le_refl _) h.calls rfl, hk.same _ _ (by omega) h.rec_ rfl⟩
theorem Two.first (w : World) (r : Loop) : Two ((w.alloc (.deferred (some []))).alloc (.loop r)) w.heap.size r := by
  refine ⟨(Below.heap_alloc _ _ _ (by simp)).trans (World.alloc_heap_new w _), ?_⟩
  have := World.alloc_heap_new (w.alloc (.deferred (some []))) (.loop r)
  rwa [World.size_alloc] at this
end
/-- How a round ends, said at once: by going on, or by a jump that waits. -/
theorem round_end {α : Type} {P : Program} {fn : FuncId} {a : Act} {ps : Array Tmp} {assign body : Code} {w X Y : World} {Kp : World → World → Prop} {I : List α → World → Prop} {Ix : Code → List α → World → Prop} {pre : List α}
    (hI : OwnFrom w.heap.size I) (hIx : ∀ c, OwnFrom w.heap.size (Ix c)) (hKt : ∀ {A B C : World}, Kp A B → Kp B C → Kp A C) (hKb : ∀ (W : World) (l : Nat) (r r' : Loop), w.heap.size ≤ l → W.heap[l]? = some (.loop r) → Kp W (W.putObj l (.loop r')))
    (X0 : World) (h0 : Kp X0 X) (hT : Two X w.heap.size (recd fn a ps assign body w.heap.size .busy none)) (e : Exit) (b : Act) (h : ownPostG w.heap.size Kp I Ix pre X e b Y) :
    roundPost P (w.heap.size + 1) (fun e Y => (e = .returned (.bool true) ∧ (I pre Y ∧ Two Y w.heap.size (recd fn a ps assign body w.heap.size .ready none)) ∧ Kp X0 Y) ∨
      (e = .returned (.bool false) ∧ ∃ c, Ix c pre Y ∧ Two Y w.heap.size (recd fn a ps assign body w.heap.size .done (some c)))) e b Y := by
  have jump : ∀ c, KeepsFrom w.heap.size X Y ∧ Ix c pre Y → ∃ v Z, (Instr.endRound (w.heap.size + 1) (some c)).run P Y = .ok v Z ∧
      ((Ending.returned v = .returned (.bool true) ∧ (I pre Z ∧ Two Z w.heap.size (recd fn a ps assign body w.heap.size .ready none)) ∧ Kp X0 Z) ∨
      (Ending.returned v = .returned (.bool false) ∧ ∃ c, Ix c pre Z ∧ Two Z w.heap.size (recd fn a ps assign body w.heap.size .done (some c)))) := fun c hp => by
    have ht := hT.keeps hp.1
    exact ⟨_, _, run_endRound (some c) ht.rec_, .inr ⟨rfl, c, (hIx c).putObj _ hp.2 (by omega) ht.rec_ rfl, ht.turn _⟩⟩
  cases e with
  | normal =>
    have ht := hT.keeps h.1
    exact ⟨_, _, run_endRound none ht.rec_, .inl ⟨rfl, ⟨hI.putObj _ h.2.2 (by omega) ht.rec_ rfl, ht.turn _⟩, hKt (hKt h0 h.2.1) (hKb _ _ _ _ (by omega) ht.rec_)⟩⟩
  | ret => exact jump .ret h
  | exit id => exact jump (.exit id) h
  | goto t => exact jump (.goto t) h
  | panic c => exact h.elim
  | outgrown => exact h.elim
theorem range_told {α : Type} {n : Nat} {P : Program} {g : Operand} {ps : Array Tmp} {assign body : Code} {Q : Exit → Act → World → Prop} {a : Act} {w : World} (h1 : 1 ≤ n)
    {gf : Nat} {lb : Array Value} (hg : a.eval g = .func (.func gf) #[] lb) (eg : ∀ args w, (callFunc gf args).run P w = .ok (.enter gf args) w)
    {encs : α → Array Value} {G : List α → α → World → Prop} {Kp : World → World → Prop} {S Sp : List α → Prop} {w0 : World} (hseq : SeqTold (n - 1) P gf lb encs G Kp S Sp w0)
    (hKt : ∀ {A B C : World}, Kp A B → Kp B C → Kp A C) (hKb : ∀ (W : World) (l : Nat) (r r' : Loop), w.heap.size ≤ l → W.heap[l]? = some (.loop r) → Kp W (W.putObj l (.loop r')))
    (hb0 : Below w0.heap.size w0 w) (hps : ∀ x, (encs x).size = ps.size)
    (hG : ∀ (pre : List α) (x : α) (W : World) (l : Nat) (r r' : Loop), G pre x W → w.heap.size ≤ l → W.heap[l]? = some (.loop r) → G pre x (W.putObj l (.loop r')))
    (I : List α → World → Prop) (Ix : Code → List α → World → Prop) (hI : OwnFrom w.heap.size I) (hIx : ∀ c, OwnFrom w.heap.size (Ix c)) (h0 : I [] w) (a₁ : α → Act)
    (hassign : ∀ (l : Nat) (x : α) (W : World) (K : Act → World → Prop), K (a₁ x) W →
      assign.wpIn (Fence.wide.inRound l) (n - 1 - 1) P (Exit.then K (fun _ _ _ => False)) { tmps := (ps.zip (encs x)).foldl (fun t (p, v) => t.setIfInBounds p v) a.tmps, defers := [] } W)
    (hbody : ∀ (l : Nat) (pre : List α) (x : α) (W : World), I pre W → G pre x W → body.wpIn (Fence.wide.inRound l) (n - 1 - 1) P (ownPostG w.heap.size Kp I Ix (pre ++ [x]) W) (a₁ x) W)
    (hdone : ∀ (D : Nat) (xs : List α) (W : World), w.heap.size ≤ D → S xs → I xs W → W.heap[D]? = some (.deferred (some [])) → Q .normal { a with defers := { target := .collected D, args := #[] } :: a.defers } W)
    (hstop : ∀ (D : Nat) (c : Code) (pre : List α) (W : World), w.heap.size ≤ D → Sp pre → Ix c pre W → W.heap[D]? = some (.deferred (some [])) → c.wpIn Fence.wide n P Q { a with defers := { target := .collected D, args := #[] } :: a.defers } W) :
    (Code.rangeFunc g ps assign body).wpIn Fence.wide n P Q a w := by
  refine wpIn_rangeFunc fun fn _ => ?_
  have t1 := Two.first w (recd fn a ps assign body w.heap.size .ready none)
  have b1 : Below w0.heap.size w0 ((w.alloc (.deferred (some []))).alloc (.loop (recd fn a ps assign body w.heap.size .ready none))) := (hb0.alloc hb0.size _).alloc (by have := hb0.size; simp; omega) _
  have i1 : I [] ((w.alloc (.deferred (some []))).alloc (.loop (recd fn a ps assign body w.heap.size .ready none))) := hI.alloc _ (hI.alloc _ h0)
  have z1 : w.heap.size ≤ ((w.alloc (.deferred (some []))).alloc (.loop (recd fn a ps assign body w.heap.size .ready none))).heap.size := by simp; omega
  obtain ⟨W1, hW1⟩ : ∃ W1, W1 = (w.alloc (.deferred (some []))).alloc (.loop (recd fn a ps assign body w.heap.size .ready none)) := ⟨_, rfl⟩
  rw [← hW1] at t1 b1 i1 z1
  refine ⟨w.heap.size + 1, [{ target := .collected w.heap.size, args := #[] }], W1, { target := .fn (.func gf) lb, args := #[.func (.yield (w.heap.size + 1)) #[] #[]] }, W1, gf, #[.func (.yield (w.heap.size + 1)) #[] #[]] ++ lb, W1,
    ?_, ?_, fun _ _ => trivial, ?_, fun _ => h1, ?_⟩
  · rw [hW1]; exact run_enterLoop_outer fn a.tmps ps assign body
  · simp only [resolve, hg]; simp [go_sem]
  · simp [invoke, go_sem, eg]
  · refine (hseq (w.heap.size + 1) (fun pre W => I pre W ∧ Two W w.heap.size (recd fn a ps assign body w.heap.size .ready none))
      (fun pre W => ∃ c, Ix c pre W ∧ Two W w.heap.size (recd fn a ps assign body w.heap.size .done (some c))) _ b1 ?_ ?_ ?_ ⟨i1, t1⟩).mono ?_
    · rintro s A B row ⟨hi, ht⟩ hgr hr
      exact ⟨hI s A B row hi hgr fun r e => by obtain ⟨hB, o, ho, hw⟩ := hr r e; exact ⟨by omega, o, ho, Obj.not_cells_of_walk hw⟩, ht.abides hgr fun r e => (hr r e).2⟩
    · rintro s A B row ⟨c, hi, ht⟩ hgr hr
      exact ⟨c, hIx c s A B row hi hgr fun r e => by obtain ⟨hB, o, ho, hw⟩ := hr r e; exact ⟨by omega, o, ho, Obj.not_cells_of_walk hw⟩, ht.abides hgr fun r e => (hr r e).2⟩
    · rintro pre x X ⟨hi, ht⟩ hgx
      refine ⟨fn, _, assign, body, run_yield ht.rec_ (hps x), roundIn_of_wpIn trivial (hassign _ x X _ ⟨_, run_beginRound ht.rec_ rfl, ?_⟩)⟩
      have hbu := ht.turn (recd fn a ps assign body w.heap.size .busy none)
      exact wpIn_mono (hbody _ pre x _ (hI.putObj _ hi (by omega) ht.rec_ rfl) (hG pre x X _ _ _ hgx (by omega) ht.rec_))
        (fun e b Y hp => by
          have hk0 : Kp X (X.putObj (w.heap.size + 1) (.loop (recd fn a ps assign body w.heap.size .busy none))) := hKb _ _ _ _ (by omega) ht.rec_
          exact round_end (P := P) (pre := pre ++ [x]) (Kp := Kp) (I := I) (Ix := Ix) hI hIx hKt hKb X hk0 hbu e b hp)
    · rintro e Y ⟨⟨v, rfl⟩, ⟨xs, hs, hi, ht⟩ | ⟨pre, hs, c, hi, ht⟩⟩
      · exact ⟨none, _, run_endLoop ht.rec_ (by simp [recd]), hdone _ xs _ (Nat.le_refl _) hs (hI.putObj _ hi (by omega) ht.rec_ rfl) (ht.turn _).calls⟩
      · exact ⟨some c, _, run_endLoop ht.rec_ (by simp [recd]), hstop _ c pre _ (Nat.le_refl _) hs ((hIx c).putObj _ hi (by omega) ht.rec_ rfl) (ht.turn _).calls⟩
end Go.Proofs.Ytkgbjohadkbjaaa

/-
  A region that draws its order, whose operations leave what was there as it was: its walk step by step. Conditions are each theorem's own.
-/
namespace Go.Proofs.Ytkgbjohadkbjaaa
open Go.RowKit

theorem range_below {w w' : World} {b o B : Nat} {cs : List Value} (h : w.rangeAt b o cs) (hB : b < B) (hb : Below B w w') : w'.rangeAt b o cs := fun j v hj => by
  rw [hb.cell hB]; exact h j v hj
theorem held_pure {P : Program} {ops : Array Oper} {Q : Exit → Act → World → Prop} {md : Region.Mode} {S : World → Prop} {i : Nat} {oi : Oper} {v : Value} {fuel : Nat} {listed : Array Bool} {a : Act} {w : World} (hi : ops[i]? = some oi)
    (hs : Region.noSelect ops = true) (hf : Region.free md ops listed i = true) (hr : (Region.ready md ops listed).contains i = true)
    (hQ : ∀ c a w, Q (.panic c) (a.put oi.dst v) w → Q (.panic c) a w) (hw : Region.wanted oi (yielded ops a.tmps) = true)
    (hrun : ∀ w, S w → (execOp a.eval oi).run P w = .ok (.value v) w) (hS : S w)
    (h : S w → wpAnyH P md ops Q S fuel (listed.setIfInBounds i true) (a.put oi.dst v) w) : wpAnyH P md ops Q S (fuel + 1) listed a w :=
  wpAnyH_take hi hs hf hr hQ (.inl ⟨hw, hrun⟩) hS (h hS)
theorem held_skip {P : Program} {ops : Array Oper} {Q : Exit → Act → World → Prop} {md : Region.Mode} {S : World → Prop} {i : Nat} {oi : Oper} {fuel : Nat} {listed : Array Bool} {a : Act} {w : World} (hi : ops[i]? = some oi)
    (hs : Region.noSelect ops = true) (hf : Region.free md ops listed i = true) (hr : (Region.ready md ops listed).contains i = true)
    (hQ : ∀ c a w, Q (.panic c) (a.put oi.dst undef) w → Q (.panic c) a w) (hw : Region.wanted oi (yielded ops a.tmps) = false) (hS : S w)
    (h : S w → wpAnyH P md ops Q S fuel (listed.setIfInBounds i true) (a.put oi.dst undef) w) : wpAnyH P md ops Q S (fuel + 1) listed a w :=
  wpAnyH_take hi hs hf hr hQ (.inr ⟨hw, rfl⟩) hS (h hS)
/-- What a class of worlds 'as w0 below its end' hands on. -/
theorem below_step {w0 w w' : World} (h : Below w0.heap.size w0 w) (hb : Below w.heap.size w w') : Below w0.heap.size w0 w' := h.trans (hb.mono h.size)
/-- Two new blocks, a draw, three calls. -/
theorem chain4 {w w1 w2 w3 w4 : World} {x y : Obj} (b1 : Below w.heap.size w w1) (b2 : Below ((w1.alloc x).alloc y).drew.heap.size ((w1.alloc x).alloc y).drew w2) (b3 : Below w2.heap.size w2 w3) (b4 : Below w3.heap.size w3 w4) : Below w.heap.size w w4 := by
  have h1 : ((w1.alloc x).alloc y).drew.heap.size = w1.heap.size + 2 := by show ((w1.alloc x).alloc y).heap.size = _; simp
  have s1 := b1.size
  have s2 := b2.size
  have s3 := b3.size
  have hX : Below w.heap.size w ((w1.alloc x).alloc y).drew := ((b1.alloc s1 x).alloc (by simp; omega) y).drew
  exact ((hX.trans (b2.mono (by omega))).trans (b3.mono (by omega))).trans (b4.mono (by omega))
theorem ints_new (w : World) (zs : List Int) (t : TypeId) : RdI (w.alloc (.cells (zs.map (Value.int .i64)).toArray t)).drew (w.heap.size + 1) (some ⟨w.heap.size, 0, none⟩) zs := fun _ =>
  ⟨w.heap.size, 0, rfl, Nat.lt_succ_self _, fun j hj => by
    show (w.alloc (.cells (zs.map (Value.int .i64)).toArray t)).cell? _ = _
    rw [Nat.zero_add, World.cell?_alloc_new, List.getElem?_toArray, List.getElem?_map, List.getElem?_eq_getElem hj, List.getD_eq_getElem?_getD, List.getElem?_eq_getElem hj]; rfl⟩
end Go.Proofs.Ytkgbjohadkbjaaa

/-
  Rows of structs: a slice whose elements fill so many cells each, read at an index, grown by one; what a round that grows one keeps. Conditions are each theorem's own.
-/
namespace Go.Proofs.Ytkgbjohadkbjaaa
open Go.RowKit Go.Shelf

section
variable {α : Type} {cl : α → List Value} {sz : Nat}
theorem flat_len (l : List α) (h : ∀ x ∈ l, (cl x).length = sz) : (l.flatMap cl).length = l.length * sz := by
  induction l with
  | nil => simp
  | cons x l ih =>
    rw [List.flatMap_cons, List.length_append, h x (by simp), ih (fun y hy => h y (by simp [hy])), List.length_cons, Nat.add_mul]; omega
theorem flat_at : ∀ (l : List α), (∀ x ∈ l, (cl x).length = sz) → ∀ (j : Nat) (x : α), l[j]? = some x → ∀ (i : Nat) (v : Value), (cl x)[i]? = some v → (l.flatMap cl)[j * sz + i]? = some v
  | [], _, j, x, hx, _, _, _ => by simp at hx
  | y :: l, h, 0, x, hx, i, v, hv => by
    simp only [List.getElem?_cons_zero, Option.some.injEq] at hx
    subst hx
    have hi := (List.getElem?_eq_some_iff.1 hv).1
    rw [List.flatMap_cons, Nat.zero_mul, Nat.zero_add, List.getElem?_append_left hi]; exact hv
  | y :: l, h, j + 1, x, hx, i, v, hv => by
    have hy := h y (by simp)
    rw [List.flatMap_cons, List.getElem?_append_right (by rw [hy, Nat.add_mul]; omega), hy, show (j + 1) * sz + i - sz = j * sz + i from by rw [Nat.add_mul]; omega]
    exact flat_at l (fun z hz => h z (by simp [hz])) j x (by simpa using hx) i v hv
/-- The slice at A reads as these elements; its cells lie below block B. -/
def RdS (cl : α → List Value) (sz : Nat) (w : World) (B : Nat) (A : Option Addr) (l : List α) : Prop :=
  0 < l.length → ∃ b off, A = some ⟨b, off, none⟩ ∧ b < B ∧ ∀ j x, l[j]? = some x → w.rangeAt b (off + j * sz) (cl x)
theorem RdS.keep {w w' : World} {B : Nat} {A : Option Addr} {l : List α} (h : RdS cl sz w B A l) (hk : ∀ p : Addr, p.block < B → w'.cell? p = w.cell? p) : RdS cl sz w' B A l := fun hn => by
  obtain ⟨b, off, e, hb, hc⟩ := h hn
  exact ⟨b, off, e, hb, fun j x hx i v hv => (hk ⟨b, _, none⟩ hb).trans (hc j x hx i v hv)⟩
theorem RdS.below {w w' : World} {B : Nat} {A : Option Addr} {l : List α} (h : RdS cl sz w B A l) (hb : Below B w w') : RdS cl sz w' B A l := h.keep fun _ hp => hb.cell hp
theorem RdS.more {w : World} {B B' : Nat} {A : Option Addr} {l : List α} (h : RdS cl sz w B A l) (hB : B ≤ B') : RdS cl sz w B' A l := fun hn => by
  obtain ⟨b, off, e, hb, hc⟩ := h hn
  exact ⟨b, off, e, by omega, hc⟩
theorem own_rds {w : World} {base e n : Nat} {v : Value} {xs : List Value} {l : List α} (h : w.ownsRow base e sz v n xs) (hn : n = l.length) (hx : xs = l.flatMap cl) (hl : ∀ x ∈ l, (cl x).length = sz) :
    ∃ A c, v = .slice A l.length c ∧ RdS cl sz w w.heap.size A l ∧ l.length ≤ c := by
  subst hn; subst hx
  rcases h.2 with ⟨rfl, h0⟩ | ⟨g, cap, cur, rfl, hb, hh, hle, _, hs, ht⟩
  · exact ⟨none, 0, by rw [h0], fun hn => by omega, by omega⟩
  · refine ⟨_, cap, rfl, fun _ => ⟨g, 0, rfl, heap_lt hh, fun j x hx i v hv => ?_⟩, hle⟩
    have hf := flat_at l hl j x hx i v hv
    have hcl : j * sz + i < l.length * sz := by
      have := (List.getElem?_eq_some_iff.1 hf).1
      rwa [flat_len l hl] at this
    have := World.ownsRow.cellAt h (j * sz + i) hcl
    rw [hf] at this
    rw [Nat.zero_add]; exact this
end

/-! ### What a round keeps -/
/-- Each block of cells lies as it lay, but for variables of type t, and rows of type e of more than one element. -/
structure KeepS (e t sz : Nat) (X Y : World) : Prop where
  size : X.heap.size ≤ Y.heap.size
  block : ∀ (k : Nat) (cs : Array Value) (ty : TypeId) (fr : Nat × Nat), X.heap[k]? = some (.cells cs ty fr) → ty ≠ t → (ty = e → cs.size ≤ sz) → Y.heap[k]? = X.heap[k]?
section
variable {e t sz : Nat} {X Y Z : World}
theorem KeepS.refl (X : World) : KeepS e t sz X X := ⟨Nat.le_refl _, fun _ _ _ _ _ _ _ => rfl⟩
theorem KeepS.trans (h : KeepS e t sz X Y) (k : KeepS e t sz Y Z) : KeepS e t sz X Z :=
  ⟨Nat.le_trans h.size k.size, fun i cs ty fr hi h1 h2 => (k.block i cs ty fr ((h.block i cs ty fr hi h1 h2).trans hi) h1 h2).trans (h.block i cs ty fr hi h1 h2)⟩
theorem KeepS.of_below (h : Below X.heap.size X Y) : KeepS e t sz X Y := ⟨h.size, fun _ _ _ _ hi _ _ => h.block _ (heap_lt hi)⟩
theorem KeepS.loop {l : Nat} {r r' : Loop} (hl : X.heap[l]? = some (.loop r)) : KeepS e t sz X (X.putObj l (.loop r')) :=
  ⟨by simp, fun k cs ty fr hk _ _ => World.putObj_heap_other (fun e => by rw [e, hl] at hk; cases hk)⟩
theorem KeepS.set {b : Nat} {u v : Value} {ty : TypeId} (h : Boxed X b ty u) (ht : ty = t) : KeepS e t sz X (X.setCell ⟨b, 0, none⟩ v) :=
  ⟨by simp, fun k cs ty' fr hk h1 _ => Below.heap_setCell X _ _ k (fun e => by rw [e] at hk; have := (show X.heap[b]? = _ from h).symm.trans hk; simp at this; exact h1 (this.2.1.symm.trans ht))⟩
theorem KeepS.own {base e' s' n : Nat} {v : Value} {xs : List Value} (h : X.ownsRow base e' s' v n xs) (k : KeepS e t sz X Y) (h1 : e' ≠ t) (h2 : e' ≠ e) : Y.ownsRow base e' s' v n xs := by
  refine ⟨h.1, ?_⟩
  rcases h.2 with hn | ⟨g, cap, cur, hv, hb, hg, rest⟩
  · exact .inl hn
  · exact .inr ⟨g, cap, cur, hv, hb, (k.block g cur e' _ hg h1 (fun e => absurd e h2)).trans hg, rest⟩
theorem KeepS.box {b : Nat} {ty : TypeId} {v : Value} (k : KeepS e t sz X Y) (h : Boxed X b ty v) (h1 : ty ≠ t) (h2 : ty = e → 1 ≤ sz) : Boxed Y b ty v := (k.block b _ _ _ h h1 (fun e => by simpa using h2 e)).trans h
theorem KeepS.heap {b : Nat} {cs : Array Value} {ty : TypeId} {fr : Nat × Nat} (k : KeepS e t sz X Y) (h : X.heap[b]? = some (.cells cs ty fr)) (h1 : ty ≠ t) (h2 : cs.size ≤ sz) : Y.heap[b]? = some (.cells cs ty fr) := (k.block b _ _ _ h h1 (fun _ => h2)).trans h
end

/-! ### One element more -/
section
variable {P : Program}
theorem fill_one (cs z : Array Value) (sz : Nat) (hc : cs.size = sz) (hs : 0 < sz) :
    Instr.fill (fun i => some (i * sz, sz)) ((Array.range (1 * sz)).map (z[· % z.size]!)) [(0, .agg cs)] = some cs := by
  have h := Great.fill_whole hs [.agg cs] ((Array.range (1 * sz)).map (z[· % z.size]!)) (by simp [Value.cells, hc]) (by simp)
  simpa [Value.cells] using h
/-- A slice literal of one struct. -/
theorem run_lit1 (w : World) (t e : TypeId) (ie : TypeInfo) (z : Value) (cs : Array Value) (sz : Nat) (hu : P.underlying t = some (.slice e)) (hie : P.info? e = some ie) (hz : ie.zero = some z)
    (hs : ie.size = sz) (hc : cs.size = sz) (h0 : 0 < sz) (h1 : sz ≤ 1000) :
    (Instr.buildSlice t 1 #[(0, .agg cs)]).run P w = .ok (.slice (some ⟨w.heap.size, 0, none⟩) 1 1) (w.alloc (.cells cs e)) :=
  run_buildSlice w t e 1 _ cs ie z hu hie hz (by rw [hs]; omega) (by rw [hs]; omega) (by rw [hs]; exact fill_one cs z.cells sz hc h0)
/-- What an append of one element keeps. -/
theorem append_keeps (w : World) (base t ty e : Nat) (i : TypeInfo) (z : Value) (size bytes : Nat) (ht : P.underlying t = some (.slice e)) (hi : P.info? e = some i) (hz : i.zero = some z)
    (hsize : i.size = size) (hby : i.bytes = bytes) (hsz : 0 < size)
    (v : Value) (n : Nat) (xs : List Value) (hown : w.ownsRow base e size v n xs) (hv : v = .slice none 0 0 ∨ 0 < n)
    (a : Addr) (c : Nat) (news : List Value) (hl : news.length = size) (hnews : ∀ j u, news[j]? = some u → w.cell? (a.add j) = some u) (h1 : ∀ u ∈ news, u.oneCell' = true)
    (h63 : n + 1 ≤ maxLen) (hbytes : (n + 1) * bytes ≤ 140737488355328) {v' : Value} {w' : World}
    (hr : (Builtin.append_ #[t, t] ty #[v, .slice (some a) 1 c]).run P w = .ok v' w') :
    (∀ (k : Nat) (cs : Array Value) (y : TypeId) (fr : Nat × Nat), w.heap[k]? = some (.cells cs y fr) → (y = e → cs.size ≤ size) → w'.heap[k]? = w.heap[k]?) ∧ (v'.ownBlock = v.ownBlock ∨ v'.ownBlock = some w.heap.size) := by
  subst hsize
  subst hby
  have hl1 : news.length = 1 * i.size := by omega
  rcases hown.2 with ⟨rfl, rfl⟩ | ⟨g, cap, cur, rfl, hbg, hg, hnc, hcm, hcs, htake⟩
  · have h := run_append_nil (P := P) w t ty e i z ht hi hz a 1 c news hl1 hnews (by omega) (by omega) (by simp only [Nat.zero_add] at hbytes; omega)
    rw [h] at hr
    cases hr
    exact ⟨fun k cs y fr hk _ => Below.heap_alloc w.drew _ k (heap_lt hk), .inr rfl⟩
  · have hn : 0 < n := by
      rcases hv with e | e
      · cases e
      · exact e
    by_cases hroom : n + 1 ≤ cap
    · have hfit : n * i.size + news.length ≤ cur.size := by rw [hl1, hcs, ← Nat.add_mul]; exact Nat.mul_le_mul_right _ hroom
      have h := run_append_room (P := P) w t ty e i ht hi g n cap cur hg a 1 c news hl1 hnews h1 hroom hfit
      rw [h] at hr
      cases hr
      refine ⟨fun k cs y fr hk hy => setRow_other w g k _ (fun e' => ?_), .inl rfl⟩
      subst e'
      rw [hg] at hk
      cases hk
      have h2 := hy rfl
      have h3 : 2 * i.size ≤ cap * i.size := Nat.mul_le_mul_right _ (by omega)
      omega
    · have holds : ∀ j u, xs[j]? = some u → w.cell? ((⟨g, 0, none⟩ : Addr).add j) = some u := hown.cells (g := g) rfl
      have h := run_append_grow (P := P) w t ty e i z ht hi hz ⟨g, 0, none⟩ n cap xs hown.1 holds a 1 c news hl1 hnews (by omega) (by simp only [maxLen] at h63; omega) (growslice_fits (by omega) hbytes)
      rw [h] at hr
      cases hr
      exact ⟨fun k cs y fr hk _ => Below.heap_alloc w.drew _ k (heap_lt hk), .inr rfl⟩
theorem wpListIn_append_one {F : Fence} {n : Nat} (w : World) {ops : Array Oper} {rest : List Oper} {o : Oper} {a : Act} {Q : Exit → Act → World → Prop}
    (hg : o.guard = none) (s x : Operand) (t : TypeId) (hop : o.op = Op.call { callee := Callee.builtin Builtin.append, args := #[s, x], argTypes := #[t, t] })
    (base : Nat) (e : TypeId) (i : TypeInfo) (z : Value) (size bytes : Nat) (h1 : P.underlying t = some (.slice e)) (h2 : P.info? e = some i) (h3 : i.zero = some z) (h4 : i.size = size) (h5 : i.bytes = bytes) (h6 : z.cells.size = size) (h7 : 0 < size)
    (v : Value) (k : Nat) (xs : List Value) (hs : a.eval s = v) (hown : w.ownsRow base e size v k xs) (hv : v = .slice none 0 0 ∨ 0 < k) (ad : Addr) (c : Nat) (news : List Value) (hx : a.eval x = .slice (some ad) 1 c) (hn : news.length = size)
    (hc : ∀ j u, news[j]? = some u → w.cell? (ad.add j) = some u) (h1c : ∀ u ∈ news, u.oneCell' = true) (b1 : k + 1 ≤ maxLen) (b2 : (k + 1) * bytes ≤ 140737488355328) (b3 : base ≤ w.heap.size)
    (hK : ∀ v' w', w'.ownsRow base e size v' (k + 1) (xs ++ news) → w.grownBy w' v.ownBlock →
      (∀ (j : Nat) (cs : Array Value) (y : TypeId) (fr : Nat × Nat), w.heap[j]? = some (.cells cs y fr) → (y = e → cs.size ≤ size) → w'.heap[j]? = w.heap[j]?) → (v'.ownBlock = v.ownBlock ∨ v'.ownBlock = some w.heap.size) → wpListIn F n P ops Q rest (a.put o.dst v') w') :
    wpListIn F n P ops Q (o :: rest) a w := by
  refine wpListIn_plain hg fun K hK' => ?_
  have hn1 : news.length = 1 * size := by omega
  obtain ⟨v', w', hrun, r1, r2, r3⟩ := run_append_own (P := P) w base t o.type e i z size bytes h1 h2 h3 h4 h5 h6 h7 v k xs hown ad 1 c news hn1 hc h1c b1 b2 b3
  have r4 := append_keeps w base t o.type e i z size bytes h1 h2 h3 h4 h5 h7 v k xs hown hv ad c news hn hc h1c b1 b2 hrun
  unfold Oper.wpIn
  refine ⟨?_, ?_⟩
  · simp [Oper.about, hop, resolve, Target.leads, Sem.run_pure]
  · rw [Oper.semAt_plain F _ _ (by rw [hop]; intro c hc'; cases hc')]
    simp [execOp, hop, resolve, invoke, builtin, hs, hx, hrun, Result.andThen]
    exact hK' _ _ (hK v' w' r1 r2 r4.1 r4.2)
end
end Go.Proofs.Ytkgbjohadkbjaaa

/-
  Arguments that came in, opened by their types: what a walk is told of each. Conditions are each theorem's own.
-/
namespace Go.Proofs.Ytkgbjohadkbjaaa
open Go.RowKit Go.ChangeShapes Go.WideShapes

/-- A slice of integers that came in: nil, or a row of 'cap' cells that hold the numbers 'zs', each fitting its kind. -/
def IsRow (k : IntKind) (w : World) (a : Option Addr) (len cap : Nat) (zs : List Int) : Prop :=
  (a = none ∧ len = 0 ∧ cap = 0 ∧ zs = []) ∨
  ∃ x, a = some x ∧ len ≤ cap ∧ cap ≤ maxLen ∧ zs.length = cap ∧ (∀ i, i < zs.length → w.cell? (x.add i) = some (.int k (zs.getD i 0))) ∧ ∀ n ∈ zs, (Lit.int k n).wf = true

theorem arg_of_row {w : World} {a : Option Addr} {len cap : Nat} {zs : List Int} (h : IsRow .u8 w a len cap zs) : ∃ bs : List UInt8, len = bs.length ∧ Arg w w.heap.size a cap bs := by
  rcases h with ⟨rfl, rfl, rfl, rfl⟩ | ⟨x, rfl, hl, hm, hz, hcell, hwz⟩
  · exact ⟨[], rfl, Arg.nil _ _⟩
  · refine ⟨(zs.take len).map fun z => UInt8.ofNat z.toNat, by simp; omega, fun hn => ?_, by simp; omega, fun e => by cases e⟩
    have hn' : 0 < len := by simp at hn; omega
    have hc0 := hcell 0 (by omega)
    have hlt := cell_block hc0
    obtain ⟨b, off, spot⟩ := x
    have hspot : spot = none := by simpa [Addr.add] using World.cell?_spot hc0
    subst hspot
    refine ⟨b, off, rfl, by simpa [Addr.add] using hlt, fun j hj => ?_⟩
    have hj' : j < zs.length := by simp at hj; omega
    have hjl : j < len := by simp at hj; omega
    have hc := hcell j hj'
    rw [add_off] at hc
    rw [hc]
    have hb := range_u8 hwz j
    simp only [byt, List.getElem?_map, List.getElem?_take, if_pos hjl, List.getElem?_eq_getElem hj', Option.map_some, Option.getD_some, List.getD_eq_getElem?_getD] at hb ⊢
    simp [UInt8.toNat_ofNat']
    omega

section
variable {H : Type} {enc : TypeId × Value → H} {P : Program} {w : World} {base : Nat} {t e : TypeId} {v : Value} {d : DataW H} {p : List MemPlace}
theorem Trod_lt (h : DataW.Trod enc P w 0 (fun _ => true) true t v d p) : ∀ x ∈ p, x.block < w.heap.size := by
  obtain ⟨m, hm⟩ := h; exact DataW.trod_lt m _ _ _ hm
theorem get_int {k : IntKind} (ht : P.underlying t = some (.int k)) (hv : Value.okWide P w .any base t v) (h : DataW.Trod enc P w 0 (fun _ => true) true t v d p) :
    ∃ n, v = .int k n ∧ (Lit.int k n).wf = true := by
  obtain ⟨n, e, _, _, hw⟩ := open_int ht hv h
  exact ⟨n, e, hw⟩
theorem get_bool (ht : P.underlying t = some .bool) (hv : Value.okWide P w .any base t v) (h : DataW.Trod enc P w 0 (fun _ => true) true t v d p) :
    ∃ b, v = .bool b := by
  obtain ⟨b, e, _⟩ := open_bool ht hv h
  exact ⟨b, e⟩
theorem get_str (ht : P.underlying t = some .string) (hv : Value.okWide P w .any base t v) (h : DataW.Trod enc P w 0 (fun _ => true) true t v d p) :
    ∃ s : ByteArray, v = .string s ∧ s.size ≤ maxLen := by
  obtain ⟨s, e, _, _, hw⟩ := Go.ChangeMaps.open_string ht hv h
  exact ⟨s, e, hw⟩
theorem get_row {k : IntKind} (ht : P.underlying t = some (.slice e)) (he : P.underlying e = some (.int k)) (hc : P.cellsOf e = 1) (hv : Value.okWide P w .any base t v) (h : DataW.Trod enc P w 0 (fun _ => true) true t v d p) :
    ∃ A len cap zs, v = .slice A len cap ∧ IsRow k w A len cap zs := by
  obtain ⟨A, len, cap, rfl⟩ := okWide_slice ht hv
  obtain ⟨fuel, hf⟩ := h
  rcases open_ints ht he hc hf with ⟨hcs, _⟩ | ⟨x, l, c, zs, hcs, _, hl, hm, hz, _, hcell, hwz⟩
  · simp [Value.cells] at hcs
    obtain ⟨rfl, rfl, rfl⟩ := hcs
    exact ⟨_, _, _, [], rfl, .inl ⟨rfl, rfl, rfl, rfl⟩⟩
  · simp [Value.cells] at hcs
    obtain ⟨rfl, rfl, rfl⟩ := hcs
    exact ⟨_, _, _, zs, rfl, .inr ⟨_, rfl, hl, hm, by simpa using hz, hcell, hwz⟩⟩
theorem get_bytes (ht : P.underlying t = some (.slice e)) (he : P.underlying e = some (.int .u8)) (hc : P.cellsOf e = 1) (hv : Value.okWide P w .any base t v) (h : DataW.Trod enc P w 0 (fun _ => true) true t v d p) :
    ∃ A c bs, v = .slice A bs.length c ∧ Arg w w.heap.size A c bs ∧ c ≤ maxLen := by
  obtain ⟨A, len, cap, zs, rfl, hr⟩ := get_row ht he hc hv h
  obtain ⟨bs, rfl, ha⟩ := arg_of_row hr
  refine ⟨A, cap, bs, rfl, ha, ?_⟩
  rcases hr with ⟨_, _, rfl, _⟩ | ⟨_, _, _, hm, _⟩
  · exact Nat.zero_le _
  · exact hm
theorem get_ints (ht : P.underlying t = some (.slice e)) (he : P.underlying e = some (.int .i64)) (hc : P.cellsOf e = 1) (hv : Value.okWide P w .any base t v) (h : DataW.Trod enc P w 0 (fun _ => true) true t v d p) :
    ∃ A c zs, v = .slice A zs.length c ∧ RdI w w.heap.size A zs ∧ zs.length ≤ c ∧ c ≤ maxLen ∧ ∀ n ∈ zs, (Lit.int .i64 n).wf = true := by
  obtain ⟨A, len, cap, zs, rfl, hr⟩ := get_row ht he hc hv h
  rcases hr with ⟨rfl, rfl, rfl, rfl⟩ | ⟨x, rfl, hl, hm, hz, hcell, hwz⟩
  · exact ⟨none, 0, [], rfl, fun hn => absurd hn (by simp), Nat.le_refl _, Nat.zero_le _, by simp⟩
  · have e1 : (zs.take len).length = len := by simp; omega
    refine ⟨some x, cap, zs.take len, by rw [e1], fun hn => ?_, by omega, hm, fun n hn => hwz n (List.mem_of_mem_take hn)⟩
    have hc0 := hcell 0 (by omega)
    have hlt := cell_block hc0
    obtain ⟨b, off, spot⟩ := x
    have hspot : spot = none := by simpa [Addr.add] using World.cell?_spot hc0
    subst hspot
    refine ⟨b, off, rfl, by simpa [Addr.add] using hlt, fun j hj => ?_⟩
    have hc := hcell j (by omega)
    rw [add_off] at hc
    rw [hc]
    congr 2
    simp only [List.getD_eq_getElem?_getD, List.getElem?_take]
    rw [if_pos (by omega)]
end
end Go.Proofs.Ytkgbjohadkbjaaa

/-
  Addresses of IPv6 as lists of sixteen bytes: which stands ahead, which is of a host. No program. Conditions are each theorem's own.
-/
namespace Go.Proofs.Ytkgbjohadkbjaaa
open Go.RowKit

/-- The cells of an address. -/
def cel (a : List UInt8) : Array Value := (row a).toArray
theorem cel_size (a : List UInt8) : (cel a).size = a.length := by simp [cel, row_length]
theorem cel_get (a : List UInt8) {j : Nat} (h : j < a.length) : (cel a)[j]? = some (.int .u8 (byt a j)) := by
  rw [cel, List.getElem?_toArray, row_get a h]
theorem cel_at (a : List UInt8) {j : Nat} (h : j < a.length) (h' : j < (cel a).size) : (cel a)[j] = .int .u8 (byt a j) := by
  have h1 := cel_get a h
  rw [Array.getElem?_eq_getElem h'] at h1
  exact Option.some.inj h1
theorem below_n {w w' : World} {B : Nat} (h : Below B w w') (q : Nat) : Below B w (w'.drewN q) := ⟨h.os, h.tape, h.output, h.size, h.block⟩
theorem below_two (w : World) (x y : Obj) : Below w.heap.size w ((w.alloc x).alloc y) := ((Below.refl _ w).alloc (Nat.le_refl _) x).alloc (by simp) y
theorem two_first (w : World) (a b : List UInt8) (t u : TypeId) {j : Nat} (h : j < a.length) : ((w.alloc (.cells (cel a) t)).alloc (.cells (cel b) u)).cell? ⟨w.heap.size, j, none⟩ = some (.int .u8 (byt a j)) := by
  rw [World.cell?_alloc_lt _ _ _ (by simp), World.cell?_alloc_new]; exact cel_get a h
theorem two_second (w : World) (a b : List UInt8) (t u : TypeId) {j : Nat} (h : j < b.length) : ((w.alloc (.cells (cel a) t)).alloc (.cells (cel b) u)).cell? ⟨w.heap.size + 1, j, none⟩ = some (.int .u8 (byt b j)) := by
  have := World.cell?_alloc_new (w.alloc (.cells (cel a) t)) (cel b) u j
  rw [show (w.alloc (.cells (cel a) t)).heap.size = w.heap.size + 1 from by simp] at this
  rw [this]; exact cel_get b h
/-- Does a stand ahead of b? A plain definition. -/
def lexL : List UInt8 → List UInt8 → Bool
  | x :: xs, y :: ys => if x = y then lexL xs ys else decide (x.toNat < y.toNat)
  | _, _ => false
theorem byt_eq {a b : List UInt8} {k : Nat} (ha : k < a.length) (hb : k < b.length) : byt a k = byt b k ↔ a[k] = b[k] := by
  simp only [byt, List.getElem?_eq_getElem ha, List.getElem?_eq_getElem hb, Option.getD_some]
  constructor
  · intro h; exact UInt8.toNat_inj.1 (by omega)
  · intro h; rw [h]
theorem byt_at {a : List UInt8} {k : Nat} (ha : k < a.length) : byt a k = (a[k].toNat : Int) := by
  simp only [byt, List.getElem?_eq_getElem ha, Option.getD_some]
theorem lex_same {a b : List UInt8} {k : Nat} (ha : k < a.length) (hb : k < b.length) (h : lexL a b = lexL (a.drop k) (b.drop k)) (he : byt a k = byt b k) :
    lexL a b = lexL (a.drop (k + 1)) (b.drop (k + 1)) := by
  rw [h, List.drop_eq_getElem_cons ha, List.drop_eq_getElem_cons hb, lexL, if_pos ((byt_eq ha hb).1 he)]
theorem lex_here {a b : List UInt8} {k : Nat} (ha : k < a.length) (hb : k < b.length) (h : lexL a b = lexL (a.drop k) (b.drop k)) (he : ¬ byt a k = byt b k) :
    lexL a b = decide (byt a k < byt b k) := by
  rw [h, List.drop_eq_getElem_cons ha, List.drop_eq_getElem_cons hb, lexL, if_neg (fun e => he ((byt_eq ha hb).2 e)), byt_at ha, byt_at hb]
  simp
theorem lex_end {a b : List UInt8} {k : Nat} (ha : a.length ≤ k) (h : lexL a b = lexL (a.drop k) (b.drop k)) : lexL a b = false := by
  rw [h, List.drop_of_length_le ha, lexL]; simp
/-- The address of sixteen bytes 0. -/
def nul : List UInt8 := List.replicate 16 0
/-- Is it an address of a host? A plain definition. -/
def host6 (a : List UInt8) : Bool := !(decide (a = nul)) && (byt a 0 != 255)
theorem lex_self (a : List UInt8) : lexL a a = false := by
  induction a with
  | nil => rfl
  | cons x xs ih => rw [lexL, if_pos rfl]; exact ih
/-- Of two that differ one stands ahead. -/
theorem lex_tri : ∀ {a b : List UInt8}, a.length = b.length → a = b ∨ (a ≠ b ∧ lexL a b = true ∧ lexL b a = false) ∨ (a ≠ b ∧ lexL a b = false ∧ lexL b a = true)
  | [], [], _ => .inl rfl
  | [], _ :: _, h => by simp at h
  | _ :: _, [], h => by simp at h
  | x :: xs, y :: ys, h => by
    by_cases e : x = y
    · subst e
      rcases lex_tri (a := xs) (b := ys) (by simpa using h) with r | ⟨r, r1, r2⟩ | ⟨r, r1, r2⟩
      · exact .inl (by rw [r])
      · exact .inr (.inl ⟨by simpa using r, by rw [lexL, if_pos rfl, r1], by rw [lexL, if_pos rfl, r2]⟩)
      · exact .inr (.inr ⟨by simpa using r, by rw [lexL, if_pos rfl, r1], by rw [lexL, if_pos rfl, r2]⟩)
    · have hne : x.toNat ≠ y.toNat := fun h => e (UInt8.toNat_inj.1 h)
      have e' : ¬ y = x := fun h => e h.symm
      have hc : (x :: xs : List UInt8) ≠ y :: ys := fun h => e (by injection h)
      rcases Nat.lt_or_gt_of_ne hne with hl | hl
      · exact .inr (.inl ⟨hc, by rw [lexL, if_neg e]; simpa using hl, by rw [lexL, if_neg e']; simp; exact UInt8.le_of_lt hl⟩)
      · exact .inr (.inr ⟨hc, by rw [lexL, if_neg e]; simp; exact UInt8.le_of_lt hl, by rw [lexL, if_neg e']; simpa using hl⟩)
end Go.Proofs.Ytkgbjohadkbjaaa

/-
  An address of IPv6 that came in, opened. Conditions are each theorem's own.
-/
namespace Go.Proofs.Ytkgbjohadkbjaaa
open Go.RowKit Go.ChangeShapes Go.WideShapes

/-- A cell's byte. -/
def celB : Value → UInt8
  | .int _ n => UInt8.ofNat n.toNat
  | _ => 0
section
variable {H : Type} {enc : TypeId × Value → H} {P : Program} {w : World} {base : Nat} {t e : TypeId} {v : Value} {d : DataW H} {p : List MemPlace}
theorem cells_six {m fuel : Nat} {cs : List Value} {x : DataW H × List MemPlace} (ht : P.underlying t = some (.array m e)) (he : P.underlying e = some (.int .u8)) (hc : P.cellsOf e = 1) (hm : P.cellsOf t = m)
    (h : DataW.trod enc P w 0 (fun _ => true) true fuel t cs = some x) : ∃ a : List UInt8, a.length = m ∧ cs = row a := by
  obtain ⟨xs, k, _, _, hl, hxs, hall⟩ := DataW.trod_array ht h
  rw [hm] at hl
  have each : ∀ i, i < m → ∃ n : Int, cs[i]? = some (.int .u8 n) ∧ 0 ≤ n ∧ n ≤ 255 := by
    intro i hi
    have h1 := hall i hi
    rw [hc, Nat.mul_one, List.getElem?_eq_getElem (by omega)] at h1
    obtain ⟨n, hn, _, hw⟩ := DataW.trod_int he h1
    have h0 := congrArg (·[0]?) hn
    simp only [List.getElem?_take, List.getElem?_drop, List.getElem?_cons_zero, Nat.zero_lt_one, if_true, Nat.add_zero] at h0
    exact ⟨n, h0, bounds_u8 hw⟩
  refine ⟨cs.map celB, by simp [hl], ?_⟩
  refine List.ext_getElem? fun i => ?_
  by_cases hi : i < m
  · obtain ⟨n, hn, h0, h1⟩ := each i hi
    rw [hn]
    simp [row, hn, celB, UInt8.toNat_ofNat']
    omega
  · rw [List.getElem?_eq_none (by omega), List.getElem?_eq_none (by simp [row]; omega)]
theorem get_six (ht : P.underlying t = some (.array 16 e)) (he : P.underlying e = some (.int .u8)) (hc : P.cellsOf e = 1) (hm : P.cellsOf t = 16) (hv : Value.okWide P w .any base t v) (h : DataW.Trod enc P w 0 (fun _ => true) true t v d p) :
    ∃ a : List UInt8, v = .agg (cel a) ∧ a.length = 16 := by
  obtain ⟨cs, rfl, _⟩ : ∃ cs, v = .agg cs ∧ True := by
    have := hv
    simp only [Value.okWide, ht] at this
    cases v <;> simp_all
  obtain ⟨fuel, hf⟩ := h
  obtain ⟨a, ha, hcs⟩ := cells_six ht he hc hm hf
  refine ⟨a, ?_, ha⟩
  simp only [Value.cells] at hcs
  rw [cel, ← hcs]
end
end Go.Proofs.Ytkgbjohadkbjaaa

/-
  Contracts of the document's plain answers of layer 2: Add, Of, Right, Change. Conditions are each theorem's own.
-/
namespace Go.Proofs.Ytkgbjohadkbjaaa
open Go.RowKit

theorem rword_j (A : Option Addr) (bs : List UInt8) (c B j m : Nat) (hj : Hid (j = 2 * m)) (w : World) (h : Rd w B A bs) (hi : j < bs.length) (hl : bs.length ≤ 1099511627776) :
    Calls Try.prog 112 #[.slice A bs.length c, .int .i64 (j : Int)] w fun e w' => e = .returned (.int .i64 (wrd bs m)) ∧ ∃ n, w' = w.drewN n := by
  have h1 := rword_any A bs c B j w h hi hl
  have e : byt bs j * 256 + byt bs (j + 1) = wrd bs m := by rw [wrd, ← hj.out]
  rw [e] at h1
  exact h1

set_option maxHeartbeats 2000000 in
theorem radd_any (A : Option Addr) (ps : List (List UInt8)) (c B : Nat) (w : World) (h : Rd2 w B A ps) (hl : bulk ps ≤ 1099511627000) (hn : ps.length ≤ 1099511627000) :
    Calls Try.prog 96 #[.slice A ps.length c] w fun e w' => e = .returned (.int .i64 (fold (psum ps))) ∧ ∃ n, w' = w.drewN n := by
  go_enter Try.func96, Try.ntmps96
  go_wp2
  go_loopw [3, 4] (fun v i wr => ∃ k q : Nat, k ≤ ps.length ∧ i = .int .i64 (k : Int) ∧ v = .int .i64 (psum (ps.take k)) ∧ wr = w.drewN q) (fun _ i _ => ps.length - (intOf i).toNat)
  case atStart => exact ⟨0, 0, Nat.zero_le _, rfl, by simp [psum], rfl⟩
  case round =>
    obtain ⟨k, q, hk, rfl, rfl, rfl⟩ := hrel
    have hbd := psum_bd (ps.take k)
    have hbl := bulk_le ps k
    by_cases hlt : k < ps.length
    · obtain ⟨bs, hbs⟩ : ∃ bs, ps[k]? = some bs := ⟨_, List.getElem?_eq_getElem hlt⟩
      obtain ⟨b, off, rfl, hbB, hcell⟩ := h (by omega)
      obtain ⟨Aj, cj, hcj, harg⟩ := hcell k bs hbs
      have hr := harg.rd
      have hlen := len_bulk hbs
      have hcap := harg.cap
      have Hps := Lib.hid (psum_take ps hbs)
      clear hcell hbs h harg
      obtain ⟨S, hS⟩ : ∃ S, S = psum (ps.take k) := ⟨_, rfl⟩
      rw [← hS] at hbd
      have HS := Lib.hid hS
      rw [← hS]
      clear hS
      go_wp2
      go_loopw [3, 5] (fun v i wr => ∃ j m q : Nat, Hid (j = 2 * m) ∧ m ≤ prs bs.length ∧ i = .int .i64 (j : Int) ∧ v = .int .i64 (S + wsum bs m) ∧ wr = w.drewN q) (fun _ i _ => (bs.length + 2) - (intOf i).toNat)
      case atStart => exact ⟨0, 0, q, Lib.hid rfl, Nat.zero_le _, rfl, by simp [wsum], rfl⟩
      case round =>
        obtain ⟨j, m, q, Hj, hm, rfl, rfl, rfl⟩ := hrel
        have hws := wsum_bd bs m
        have hx := wrd_bd bs m
        have hml : m ≤ bs.length + 1 := by unfold prs at hm; omega
        have hjl : j ≤ bs.length + 1 := by have := Hj.out; unfold prs at hm; omega
        by_cases hlt2 : j < bs.length
        · have HW := Lib.hid (wsum_succ bs m)
          generalize wsum bs m = T at *
          go_wp2_with (go_at_call 112; refine (rword_j Aj bs cj B j m Hj _ (hr.drewN _) hlt2 (by omega)).mono ?_; rintro e w' ⟨rfl, n, rfl⟩)
          go_roundw
          case rel => exact ⟨j + 2, m + 1, q + n, Lib.hid (by have := Hj.out; omega), by have := Hj.out; unfold prs; omega, by simp, by rw [HW.out, Int.add_assoc], rfl⟩
          case measure => simp [intOf]; omega
        · go_wp2
          go_roundw
          case rel =>
            have e : m = prs bs.length := by have := Hj.out; unfold prs at hm ⊢; omega
            exact ⟨k + 1, q, by omega, by simp, by rw [Hps.out, ← HS.out, wall, e], rfl⟩
          case measure => simp [intOf]; omega
    · obtain rfl : k = ps.length := by omega
      have hb0 := psum_bd ps
      go_wp2_with (go_at_call 113; refine (rfold_any _ _ (by omega)).mono ?_; rintro e w' ⟨rfl, rfl⟩)
      go_ret
      exact ⟨rfl, q, rfl⟩

theorem rof_any (A : Option Addr) (ps : List (List UInt8)) (c B : Nat) (w : World) (h : Rd2 w B A ps) (hl : bulk ps ≤ 1099511627000) (hn : ps.length ≤ 1099511627000) :
    Calls Try.prog 90 #[.slice A ps.length c] w fun e w' => e = .returned (.int .i64 (65535 - fold (psum ps))) ∧ ∃ n, w' = w.drewN n := by
  have hf := fold_bd (psum ps)
  go_enter Try.func90, Try.ntmps90
  go_wp2_with (go_at_call 96; refine (radd_any A ps c B _ h hl hn).mono ?_; rintro e w1 ⟨rfl, n, rfl⟩)
  go_ret
  exact ⟨rfl, n, rfl⟩

theorem rright_any (A : Option Addr) (ps : List (List UInt8)) (c B : Nat) (w : World) (h : Rd2 w B A ps) (hl : bulk ps ≤ 1099511627000) (hn : ps.length ≤ 1099511627000) :
    Calls Try.prog 65 #[.slice A ps.length c] w fun e w' => e = .returned (.bool (rightB ps)) ∧ ∃ n, w' = w.drewN n := by
  go_enter Try.func65, Try.ntmps65
  go_wp2_with (go_at_call 96; refine (radd_any A ps c B _ h hl hn).mono ?_; rintro e w1 ⟨rfl, n, rfl⟩)
  go_ret
  exact ⟨rfl, n, rfl⟩

set_option maxHeartbeats 2000000 in
theorem rchange_any (A A' : Option Addr) (old now : List UInt8) (c c' B : Nat) (s : Int) (w : World) (h : Rd w B A old) (h' : Rd w B A' now) (hl : old.length ≤ 1099511627000) (hl' : now.length ≤ 1099511627000) :
    Calls Try.prog 86 #[.int .i64 s, .slice A old.length c, .slice A' now.length c'] w fun e w' => e = .returned (.int .i64 (chg s old now)) ∧ ∃ n, w' = w.drewN n := by
  by_cases h0 : 0 ≤ s
  · by_cases h1 : s ≤ 65535
    · have hd : decide (65535 < s) = false := by simp; omega
      have hd0 : decide (s < 0) = false := by simp; omega
      go_enter Try.func86, Try.ntmps86
      go_wp2
      go_loopw [7, 8] (fun v i wr => ∃ j m q : Nat, Hid (j = 2 * m) ∧ m ≤ prs old.length ∧ i = .int .i64 (j : Int) ∧ v = .int .i64 (65535 - s + (65535 * (m : Int) - wsum old m)) ∧ wr = w.drewN q) (fun _ i _ => (old.length + 2) - (intOf i).toNat)
      case atStart => exact ⟨0, 0, 0, Lib.hid rfl, Nat.zero_le _, rfl, by simp [wsum], rfl⟩
      case round =>
        obtain ⟨j, m, q, Hj, hm, rfl, rfl, rfl⟩ := hrel
        have hws := wsum_bd old m
        have hx := wrd_bd old m
        have hml : m ≤ old.length + 1 := by unfold prs at hm; omega
        have hjl : j ≤ old.length + 1 := by have := Hj.out; unfold prs at hm; omega
        by_cases hlt2 : j < old.length
        · have HW := Lib.hid (wsum_succ old m)
          generalize wsum old m = T at *
          go_wp2_with (go_at_call 112; refine (rword_j A old c B j m Hj _ (h.drewN _) hlt2 (by omega)).mono ?_; rintro e w' ⟨rfl, n, rfl⟩)
          go_roundw
          case rel =>
            refine ⟨j + 2, m + 1, q + n, Lib.hid (by have := Hj.out; omega), by have := Hj.out; unfold prs; omega, by simp, ?_, rfl⟩
            rw [HW.out]; congr 1; push_cast; omega
          case measure => simp [intOf]; omega
        · have hme : m = prs old.length := by have := Hj.out; unfold prs at hm ⊢; omega
          subst hme
          obtain ⟨V, hV⟩ : ∃ V, V = 65535 - s + (65535 * (prs old.length : Int) - wsum old (prs old.length)) := ⟨_, rfl⟩
          rw [← hV]
          have hV0 : 0 ≤ V := by omega
          have hV1 : V ≤ 65535 + 65535 * (prs old.length : Int) := by omega
          have HV := Lib.hid hV
          have hpo : prs old.length ≤ old.length + 1 := by unfold prs; omega
          clear hV hws hx
          go_wp2
          go_loopw [7, 9] (fun v i wr => ∃ j m q : Nat, Hid (j = 2 * m) ∧ m ≤ prs now.length ∧ i = .int .i64 (j : Int) ∧ v = .int .i64 (V + wsum now m) ∧ wr = w.drewN q) (fun _ i _ => (now.length + 2) - (intOf i).toNat)
          case atStart => exact ⟨0, 0, q, Lib.hid rfl, Nat.zero_le _, rfl, by simp [wsum], rfl⟩
          case round =>
            obtain ⟨j2, m2, q2, Hj2, hm2, rfl, rfl, rfl⟩ := hrel
            have hws := wsum_bd now m2
            have hx := wrd_bd now m2
            have hml2 : m2 ≤ now.length + 1 := by unfold prs at hm2; omega
            have hjl2 : j2 ≤ now.length + 1 := by have := Hj2.out; unfold prs at hm2; omega
            by_cases hlt3 : j2 < now.length
            · have HW := Lib.hid (wsum_succ now m2)
              generalize wsum now m2 = T at *
              go_wp2_with (go_at_call 112; refine (rword_j A' now c' B j2 m2 Hj2 _ (h'.drewN _) hlt3 (by omega)).mono ?_; rintro e w' ⟨rfl, n, rfl⟩)
              go_roundw
              case rel => exact ⟨j2 + 2, m2 + 1, q2 + n, Lib.hid (by have := Hj2.out; omega), by have := Hj2.out; unfold prs; omega, by simp, by rw [HW.out, Int.add_assoc], rfl⟩
              case measure => simp [intOf]; omega
            · have hme2 : Hid (m2 = prs now.length) := Lib.hid (by have := Hj2.out; unfold prs at hm2 ⊢; omega)
              have hfb := fold_bd (V + wsum now m2)
              go_wp2_with (go_at_call 113; refine (rfold_any _ _ (by omega)).mono ?_; rintro e w' ⟨rfl, rfl⟩)
              go_ret
              exact ⟨ret_int (by rw [chg, if_pos ⟨h0, h1⟩, wall, wall, ← HV.out, hme2.out]), q2, rfl⟩
    · rw [chg_no (by omega)]
      have hd : decide (65535 < s) = true := by simp; omega
      go_enter Try.func86, Try.ntmps86
      go_wp2
      go_ret
      exact ⟨rfl, 0, rfl⟩
  · rw [chg_no (by omega)]
    have hd : decide (s < 0) = true := by simp; omega
    go_enter Try.func86, Try.ntmps86
    go_wp2
    go_ret
    exact ⟨rfl, 0, rfl⟩
end Go.Proofs.Ytkgbjohadkbjaaa

/-
  What the statements of layers 1 and 2 share on arguments that came in. Conditions: none.
-/

/-
  Contracts of layer 2's helpers: few, zero, awake. Conditions are each theorem's own.
-/
namespace Go.Proofs.Ytkgbjohadkbjaaa
open Go.RowKit

theorem Rd2.of_cells {w : World} {B g t : Nat} {cs : Array Value} {ps : List (List UInt8)} (hg : w.heap[g]? = some (.cells cs t (0, 0))) (hB : g < B)
    (hc : ∀ (j : Nat) (bs : List UInt8), ps[j]? = some bs → ∃ Aj cj, cs[j]? = some (.slice Aj bs.length cj) ∧ Arg w B Aj cj bs) : Rd2 w B (some ⟨g, 0, none⟩) ps := fun _ =>
  ⟨g, 0, rfl, hB, fun j bs hj => by
    obtain ⟨Aj, cj, h1, h2⟩ := hc j bs hj
    exact ⟨Aj, cj, by rw [cell_of_row w g (0 + j) cs t (0, 0) hg, Nat.zero_add]; exact h1, h2⟩⟩
theorem Rd2.one {w : World} {B g t : Nat} {A : Option Addr} {c : Nat} {bs : List UInt8} (hg : w.heap[g]? = some (.cells #[.slice A bs.length c] t (0, 0))) (hB : g < B) (h : Arg w B A c bs) : Rd2 w B (some ⟨g, 0, none⟩) [bs] :=
  Rd2.of_cells hg hB fun j b hj => by
    cases j with
    | zero => simp at hj; subst hj; exact ⟨A, c, rfl, h⟩
    | succ j => simp at hj
/-- A new block of bytes as it is handed over. -/
theorem Arg.new {w : World} {g t : Nat} {cs : Array Value} {bs : List UInt8} (hg : w.heap[g]? = some (.cells cs t (0, 0))) (hc : ∀ j, j < bs.length → cs[j]? = some (.int .u8 (byt bs j))) (c : Nat) (hl : bs.length ≤ c) :
    Arg w w.heap.size (some ⟨g, 0, none⟩) c bs := ⟨Rd.of_block hg (heap_lt hg) 0 (fun j hj => by rw [Nat.zero_add]; exact hc j hj), hl, fun e => by cases e⟩

def eight : List UInt8 := [0, 1, 242, 3, 244, 245, 246, 247]
theorem fold_awake (w : World) : Calls Try.prog 119 #[.int .i64 65536] w fun e w' => e = .returned (.int .i64 1) ∧ w = w' := by
  have h1 := fold_any 65536 w (by decide)
  rw [show fold 65536 = 1 from by decide] at h1
  exact h1

/-! ### few -/
def fewB (ps : List (List UInt8)) : Bool := decide (ps.length ≤ 40) && ps.all (fun b => decide (b.length ≤ 2000)) && decide (bulk ps ≤ 8000)
theorem few_yes {ps : List (List UInt8)} (h : fewB ps = true) : ps.length ≤ 40 ∧ bulk ps ≤ 8000 := by
  simp [fewB] at h; exact ⟨h.1.1, h.2⟩

theorem few_long {ps : List (List UInt8)} (h : 40 < ps.length) : fewB ps = false := by
  have : decide (ps.length ≤ 40) = false := by simp; omega
  simp [fewB, this]
theorem few_big {ps : List (List UInt8)} {k : Nat} {bs : List UInt8} (hb : ps[k]? = some bs) (h : 2000 < bs.length) : fewB ps = false := by
  have : ps.all (fun b => decide (b.length ≤ 2000)) = false := by
    rw [List.all_eq_false]; exact ⟨bs, List.mem_of_getElem? hb, by simp; omega⟩
  simp [fewB, this]
theorem few_end {ps : List (List UInt8)} (h : ps.length ≤ 40) (ha : ∀ b ∈ ps, b.length ≤ 2000) : fewB ps = decide ((bulk ps : Int) ≤ 8000) := by
  have h1 : ps.all (fun b => decide (b.length ≤ 2000)) = true := by rw [List.all_eq_true]; intro b hb; simpa using ha b hb
  rw [Bool.eq_iff_iff]; simp [fewB, h, h1]; omega

/-! ### zero -/
def zeroB (ps : List (List UInt8)) : Bool := ps.all fun b => b.all fun x => x == 0
theorem zero_no {ps : List (List UInt8)} {k j : Nat} {bs : List UInt8} (hb : ps[k]? = some bs) (hj : j < bs.length) (h : byt bs j ≠ 0) : zeroB ps = false := by
  unfold zeroB
  rw [List.all_eq_false]
  refine ⟨bs, List.mem_of_getElem? hb, ?_⟩
  simp only [Bool.not_eq_true, List.all_eq_false]
  refine ⟨bs[j], List.getElem_mem hj, ?_⟩
  have : bs[j] ≠ 0 := fun e => h (by simp [byt, hj, e])
  simpa using this
theorem byt_zero {bs : List UInt8} (h : ∀ j, j < bs.length → byt bs j = 0) : ∀ x ∈ bs, x = 0 := by
  intro x hx
  obtain ⟨j, hj, rfl⟩ := List.getElem_of_mem hx
  have := h j hj
  simp [byt, hj] at this
  exact UInt8.toNat_inj.1 (by simpa using this)

/-! ### Sums behind bytes -/
theorem byt_left {a b : List UInt8} {j : Nat} (h : j < a.length) : byt (a ++ b) j = byt a j := by unfold byt; rw [List.getElem?_append_left h]
theorem byt_right {a b : List UInt8} {j : Nat} : byt (a ++ b) (a.length + j) = byt b j := by
  unfold byt; rw [List.getElem?_append_right (by omega), Nat.add_sub_cancel_left]
theorem wsum_left {a b : List UInt8} : ∀ {k : Nat}, 2 * k ≤ a.length → wsum (a ++ b) k = wsum a k
  | 0, _ => rfl
  | k + 1, h => by
    rw [wsum_succ, wsum_succ, wsum_left (by omega), wrd, wrd, byt_left (by omega), byt_left (by omega)]
theorem wall_two {a : List UInt8} {m : Nat} (h : a.length = 2 * m) (x y : UInt8) : wall (a ++ [x, y]) = wall a + ((x.toNat : Int) * 256 + (y.toNat : Int)) := by
  have e1 : prs (a ++ [x, y]).length = m + 1 := by rw [List.length_append, h]; unfold prs; simp; omega
  have e2 : prs a.length = m := by rw [h]; unfold prs; omega
  rw [wall, wall, e1, e2, wsum_succ, wsum_left (by omega)]
  have e3 : wrd (a ++ [x, y]) m = (x.toNat : Int) * 256 + (y.toNat : Int) := by
    have h0 : byt (a ++ [x, y]) (2 * m) = (x.toNat : Int) := by have := byt_right (a := a) (b := [x, y]) (j := 0); rw [h, Nat.add_zero] at this; rw [this]; rfl
    have h1 : byt (a ++ [x, y]) (2 * m + 1) = (y.toNat : Int) := by have := byt_right (a := a) (b := [x, y]) (j := 1); rw [h] at this; rw [this]; rfl
    rw [wrd, h0, h1]
  rw [e3]
theorem wall_pair (x y : UInt8) : wall [x, y] = (x.toNat : Int) * 256 + (y.toNat : Int) := by
  have := wall_two (a := []) (m := 0) rfl x y
  simpa [wall, prs, wsum] using this
theorem fold_right {S : Int} (h : 0 ≤ S) : fold (S + (65535 - fold S)) = 65535 := by
  unfold fold; split <;> (split <;> omega)
/-- The two bytes of a sum. -/
def hi (n : Int) : UInt8 := UInt8.ofNat (n / 256).toNat
def lo (n : Int) : UInt8 := UInt8.ofNat (n % 256).toNat
theorem hi_val {n : Int} (h0 : 0 ≤ n) (h1 : n ≤ 65535) : ((hi n).toNat : Int) = n / 256 := by simp only [hi, UInt8.toNat_ofNat']; omega
theorem lo_val (n : Int) : ((lo n).toNat : Int) = n % 256 := by simp only [lo, UInt8.toNat_ofNat']; omega
theorem hi_lo {n : Int} (h0 : 0 ≤ n) (h1 : n ≤ 65535) : ((hi n).toNat : Int) * 256 + ((lo n).toNat : Int) = n := by rw [hi_val h0 h1, lo_val n]; omega
theorem right_sum {a : List UInt8} {m : Nat} (h : a.length = 2 * m) : rightB [a ++ [hi (65535 - fold (psum [a])), lo (65535 - fold (psum [a]))]] = true := by
  have hb := fold_bd (psum [a])
  have hp : psum [a] = wall a := by simp [psum]
  have hw := wall_bd a
  have e : psum [a ++ [hi (65535 - fold (psum [a])), lo (65535 - fold (psum [a]))]] = wall a + (65535 - fold (psum [a])) := by
    rw [show psum [a ++ [hi (65535 - fold (psum [a])), lo (65535 - fold (psum [a]))]] = wall (a ++ [hi (65535 - fold (psum [a])), lo (65535 - fold (psum [a]))]) from by simp [psum], wall_two h, hi_lo (by omega) (by omega)]
  rw [rightB, e, hp, fold_right hw.1]; rfl

theorem Rd.pair {W : World} {u v : Int} {x y : UInt8} (t : TypeId) (h : u = (x.toNat : Int)) (h' : v = (y.toNat : Int)) : Rd (W.alloc (.cells #[.int .u8 u, .int .u8 v] t)) (W.heap.size + 1) (some ⟨W.heap.size, 0, none⟩) [x, y] :=
  Rd.of_block (g := W.heap.size) (World.alloc_heap_new W _) (Nat.lt_succ_self _) 0 (fun j hj => by
    have : j = 0 ∨ j = 1 := by simp at hj; omega
    rcases this with rfl | rfl
    · simp [h, byt]
    · simp [h', byt])
theorem Made.arg {w w' : World} {A : Option Addr} {c : Nat} {bs : List UInt8} (h : w'.ownsRow w.heap.size 5 1 (.slice A bs.length c) bs.length (row bs)) : Arg w' w'.heap.size A c bs := by
  refine ⟨Rd.of_own rfl h, ?_, ?_⟩
  · rcases h.2 with ⟨e, h0⟩ | ⟨g, cap, cur, e, _, _, hle, _⟩
    · omega
    · injection e with _ _ e3; omega
  · rcases h.2 with ⟨e, h0⟩ | ⟨g, cap, cur, e, _, _, hle, _⟩
    · intro _; injection e with _ _ e3
    · intro e'; injection e with e1 _ _; rw [e'] at e1; cases e1
/-- The even part of a slice that came in. -/
theorem Arg.even {w : World} {B : Nat} {A : Option Addr} {c : Nat} {bs : List UInt8} (h : Arg w B A c bs) : Arg w B A c (bs.take (bs.length / 2 * 2)) := by
  have hl : (bs.take (bs.length / 2 * 2)).length = bs.length / 2 * 2 := by rw [List.length_take]; omega
  refine ⟨fun hn => ?_, by have := h.cap; omega, h.none_⟩
  obtain ⟨b, off, e, hb, hc⟩ := h.rd (by omega)
  refine ⟨b, off, e, hb, fun j hj => ?_⟩
  have hbt : byt (bs.take (bs.length / 2 * 2)) j = byt bs j := by unfold byt; rw [List.getElem?_take, if_pos (by omega)]
  rw [hbt]
  exact hc j (by omega)
theorem even_len (bs : List UInt8) : (bs.take (bs.length / 2 * 2)).length = bs.length / 2 * 2 := by rw [List.length_take]; omega

theorem own_below {w w' : World} {base e size n : Nat} {v : Value} {xs : List Value} (h : w.ownsRow base e size v n xs) (hb : Below w.heap.size w w') : w'.ownsRow base e size v n xs := by
  obtain ⟨h1, h2⟩ := h
  refine ⟨h1, ?_⟩
  rcases h2 with h2 | ⟨g, cap, cur, hv, hg, hh, r⟩
  · exact .inl h2
  · exact .inr ⟨g, cap, cur, hv, hg, (hb.block g (heap_lt hh)).trans hh, r⟩
theorem clone_n (A : Option Addr) (bs : List UInt8) (c B n : Nat) (hn : Hid (bs.length = n)) (w : World) (h : Arg w B A c bs) (hB : B ≤ w.heap.size) (hl : bs.length ≤ 1099511627776) :
    Calls Try.prog 23 #[.slice A n c] w fun e w' => ∃ v, e = .returned v ∧ Made w w' v bs := by
  have h1 := clone_any A bs c B w h hB hl
  rw [hn.out] at h1
  exact h1
theorem Rd2.one_n {w : World} {B g t n : Nat} {A : Option Addr} {c : Nat} {bs : List UInt8} (hn : n = bs.length) (hg : w.heap[g]? = some (.cells #[.slice A n c] t (0, 0))) (hB : g < B) (h : Arg w B A c bs) : Rd2 w B (some ⟨g, 0, none⟩) [bs] := by
  subst hn; exact Rd2.one hg hB h
theorem Made.arg_n {w w' : World} {A : Option Addr} {c n : Nat} {bs : List UInt8} {xs : List Value} (hn : n = bs.length) (hx : xs = row bs) (h : w'.ownsRow w.heap.size 5 1 (.slice A n c) n xs) : Arg w' w'.heap.size A c bs := by
  subst hn; subst hx; exact Made.arg h

/-! ### A sum stays right -/
theorem wsum_zero {bs : List UInt8} : ∀ {k : Nat}, wsum bs k = 0 → ∀ j, j < 2 * k → byt bs j = 0
  | 0, _, j, hj => absurd hj (by omega)
  | k + 1, h, j, hj => by
    have h1 := wsum_bd bs k
    have h2 := wrd_bd bs k
    rw [wsum_succ] at h
    have e1 : wsum bs k = 0 := by omega
    have e2 : wrd bs k = 0 := by omega
    by_cases hlt : j < 2 * k
    · exact wsum_zero e1 j hlt
    · have a1 := byt_lo bs (2 * k)
      have a2 := byt_lo bs (2 * k + 1)
      unfold wrd at e2
      have : j = 2 * k ∨ j = 2 * k + 1 := by omega
      rcases this with rfl | rfl <;> omega
theorem wall_zero {bs : List UInt8} (h : wall bs = 0) : ∀ x ∈ bs, x = 0 :=
  byt_zero fun j hj => wsum_zero (k := prs bs.length) h j (by unfold prs; omega)
theorem psum_cons (b : List UInt8) (l : List (List UInt8)) : psum (b :: l) = wall b + psum l := by simp [psum]
theorem psum_zero : ∀ {ps : List (List UInt8)}, psum ps = 0 → zeroB ps = true
  | [], _ => rfl
  | b :: l, h => by
    have h1 := wall_bd b
    have h2 := psum_bd l
    rw [psum_cons] at h
    have e1 : wall b = 0 := by omega
    have e2 : psum l = 0 := by omega
    have := psum_zero e2
    simp only [zeroB, List.all_cons, Bool.and_eq_true] at this ⊢
    exact ⟨by rw [List.all_eq_true]; intro x hx; simpa using wall_zero e1 x hx, this⟩
theorem fold_spec {n : Int} (h : 0 ≤ n) : ∃ q : Int, n = fold n + 65535 * q ∧ (0 < n → 1 ≤ fold n) ∧ fold n ≤ 65535 := by
  unfold fold
  split
  · exact ⟨0, by omega, by omega, by omega⟩
  · exact ⟨(n - 1) / 65535, by omega, by omega, by omega⟩
theorem stays {a b old now : List UInt8} {N M : Int} (hz : zeroB [a, now, b] = false) (hN : N = 65535 - fold (psum [a, old, b])) (hM : M = chg N old now) :
    rightB [a, now, b, [hi M, lo M]] = true ∧ 0 ≤ N ∧ N ≤ 65535 ∧ 0 ≤ M ∧ M ≤ 65535 := by
  have f1 := fold_bd (psum [a, old, b])
  have hN0 : 0 ≤ N := by omega
  have hN1 : N ≤ 65535 := by omega
  rw [chg, if_pos ⟨hN0, hN1⟩] at hM
  have f2 := fold_bd (65535 - N + (65535 * (prs old.length : Int) - wall old) + wall now)
  have hM0 : 0 ≤ M := by omega
  have hM1 : M ≤ 65535 := by omega
  refine ⟨?_, hN0, hN1, hM0, hM1⟩
  have wa := wall_bd a; have wb := wall_bd b; have wn := wall_bd now
  have wo : 0 ≤ wall old ∧ wall old ≤ 65535 * (prs old.length : Int) := wsum_bd old _
  have p1 : psum [a, old, b] = wall a + wall old + wall b := by simp [psum]; omega
  have p2 : psum [a, now, b] = wall a + wall now + wall b := by simp [psum]; omega
  have p3 : psum [a, now, b, [hi M, lo M]] = wall a + wall now + wall b + M := by
    simp only [psum_cons]; rw [wall_pair, hi_lo hM0 hM1]; simp [psum]; omega
  have hpos : 0 < wall a + wall now + wall b := by
    rcases Int.lt_or_le 0 (wall a + wall now + wall b) with h | h
    · exact h
    · have e : psum [a, now, b] = 0 := by omega
      rw [psum_zero e] at hz
      cases hz
  obtain ⟨q1, e1, _, _⟩ := fold_spec (n := psum [a, old, b]) (by omega)
  obtain ⟨q2, e2, _, _⟩ := fold_spec (n := 65535 - N + (65535 * (prs old.length : Int) - wall old) + wall now) (by omega)
  obtain ⟨q3, e3, g3, u3⟩ := fold_spec (n := wall a + wall now + wall b + M) (by omega)
  have g3' := g3 (by omega)
  rw [rightB, p3, beq_iff_eq]
  generalize fold (wall a + wall now + wall b + M) = Y at *
  generalize fold (65535 - N + (65535 * (prs old.length : Int) - wall old) + wall now) = X at *
  generalize fold (psum [a, old, b]) = Z at *
  omega

/-- Three, or four, slices side by side. -/
theorem Rd2.three {w : World} {B g t n0 n1 n2 : Nat} {A0 A1 A2 : Option Addr} {c0 c1 c2 : Nat} {b0 b1 b2 : List UInt8} (h0 : n0 = b0.length) (h1 : n1 = b1.length) (h2 : n2 = b2.length)
    (hg : w.heap[g]? = some (.cells #[.slice A0 n0 c0, .slice A1 n1 c1, .slice A2 n2 c2] t (0, 0))) (hB : g < B) (a0 : Arg w B A0 c0 b0) (a1 : Arg w B A1 c1 b1) (a2 : Arg w B A2 c2 b2) : Rd2 w B (some ⟨g, 0, none⟩) [b0, b1, b2] := by
  subst h0; subst h1; subst h2
  refine Rd2.of_cells hg hB fun j b hj => ?_
  match j, hj with
  | 0, hj => simp at hj; subst hj; exact ⟨_, _, rfl, a0⟩
  | 1, hj => simp at hj; subst hj; exact ⟨_, _, rfl, a1⟩
  | 2, hj => simp at hj; subst hj; exact ⟨_, _, rfl, a2⟩
  | j + 3, hj => simp at hj
theorem Rd2.four {w : World} {B g t n0 n1 n2 n3 : Nat} {A0 A1 A2 A3 : Option Addr} {c0 c1 c2 c3 : Nat} {b0 b1 b2 b3 : List UInt8} (h0 : n0 = b0.length) (h1 : n1 = b1.length) (h2 : n2 = b2.length) (h3 : n3 = b3.length)
    (hg : w.heap[g]? = some (.cells #[.slice A0 n0 c0, .slice A1 n1 c1, .slice A2 n2 c2, .slice A3 n3 c3] t (0, 0))) (hB : g < B) (a0 : Arg w B A0 c0 b0) (a1 : Arg w B A1 c1 b1) (a2 : Arg w B A2 c2 b2) (a3 : Arg w B A3 c3 b3) : Rd2 w B (some ⟨g, 0, none⟩) [b0, b1, b2, b3] := by
  subst h0; subst h1; subst h2; subst h3
  refine Rd2.of_cells hg hB fun j b hj => ?_
  match j, hj with
  | 0, hj => simp at hj; subst hj; exact ⟨_, _, rfl, a0⟩
  | 1, hj => simp at hj; subst hj; exact ⟨_, _, rfl, a1⟩
  | 2, hj => simp at hj; subst hj; exact ⟨_, _, rfl, a2⟩
  | 3, hj => simp at hj; subst hj; exact ⟨_, _, rfl, a3⟩
  | j + 4, hj => simp at hj
theorem change_n (A A' : Option Addr) (old now : List UInt8) (n n' c c' B : Nat) (hn : Hid (old.length = n)) (hn' : Hid (now.length = n')) (s M : Int) (hM : Hid (M = chg s old now)) (w : World) (h : Rd w B A old) (h' : Rd w B A' now) (hB : B ≤ w.heap.size) (hl : old.length ≤ 1099511627000) (hl' : now.length ≤ 1099511627000) :
    Calls Try.prog 109 #[.int .i64 s, .slice A n c, .slice A' n' c'] w fun e w' => e = .returned (.int .i64 M) ∧ Below w.heap.size w w' := by
  have h1 := change_any A A' old now c c' B s w h h' hB hl hl'
  rw [hn.out, hn'.out, ← hM.out] at h1
  exact h1
theorem bulk3 (a b c : List UInt8) : bulk [a, b, c] = a.length + b.length + c.length := by simp [bulk]; omega
theorem bulk4 (a b c d : List UInt8) : bulk [a, b, c, d] = a.length + b.length + c.length + d.length := by simp [bulk]; omega
theorem two_heap (X : World) (o1 o2 : Obj) : ((X.alloc o1).alloc o2).heap[X.heap.size + 1]? = some o2 := by
  have := World.alloc_heap_new (X.alloc o1) o2
  rwa [World.size_alloc] at this
theorem Arg.of_pair {X : World} {u v : Int} {x y : UInt8} (t : TypeId) (h : u = (x.toNat : Int)) (h' : v = (y.toNat : Int)) (o : Obj) : Arg ((X.alloc (.cells #[.int .u8 u, .int .u8 v] t)).alloc o) (X.heap.size + 2) (some ⟨X.heap.size, 0, none⟩) 2 [x, y] :=
  ⟨((Rd.pair t h h').alloc (by simp) o).more (by omega), by simp, fun e => by cases e⟩
theorem Arg.two {X : World} {B : Nat} {A : Option Addr} {c : Nat} {bs : List UInt8} (h : Arg X B A c bs) (hB : B ≤ X.heap.size) (o1 o2 : Obj) : Arg ((X.alloc o1).alloc o2) (X.heap.size + 2) A c bs :=
  ((h.alloc hB o1).alloc (by simp; omega) o2).more (by omega)
end Go.Proofs.Ytkgbjohadkbjaaa
