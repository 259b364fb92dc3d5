/-
  Contracts and lemmas on which the proofs of this seat stand (several texts in one). Conditions are each theorem's own.
-/
import Derived.Test.YtpoigngpdcmipaaNc1
import Derived.ProofKit
import Derived.OpenShut
import Derived.ChangeMaps5
import Derived.Lib.Hide
import Derived.Deep.RegionHeld3
import Derived.Deep.MidRow
import Derived.Maps.RangeWalk
import Derived.Deep.Cut
import Derived.Deep.CutRange

/-
  The sum of the Internet in plain numbers, and the contracts of Fold, the program's and the document's. Conditions are each theorem's own.
-/
namespace Go.Proofs.Ytpoigngpdcmipaa
open Go.RowKit

/-- Fold, said at once: a number above 0 is told by its rest modulo 65535, from 1 on. A plain definition. -/
def fold (n : Int) : Int := if n ≤ 0 then 0 else (n - 1) % 65535 + 1
theorem fold_neg {n : Int} (h : n < 0) : fold n = 0 := by unfold fold; rw [if_pos (by omega)]
theorem fold_small {n : Int} (h0 : 0 ≤ n) (h : n ≤ 65535) : fold n = n := by
  unfold fold; split <;> omega
theorem fold_step {n : Int} (h : 65535 < n) : fold (n % 65536 + n / 65536) = fold n := by
  unfold fold; rw [if_neg (by omega), if_neg (by omega)]; omega
theorem fold_bd (n : Int) : 0 ≤ fold n ∧ fold n ≤ 65535 := by unfold fold; split <;> omega
theorem fold_zero : fold 0 = 0 := rfl

theorem wraps63 (n : Int) (h₀ : 0 ≤ n) (h₁ : n < 2 ^ 63) : IntKind.i64.wrap n = n := by rw [IntKind.wrap_i64]; omega
theorem and_full (n : Int) (h0 : 0 ≤ n) (h1 : n ≤ 9223372036854775807) : bits .and .i64 n 65535 = n % 65536 := by
  have := bits_mask .i64 63 (by decide) wraps63 16 (by decide) n h0 (by omega)
  simpa using this

/-! ### Sums of words -/

/-- The sum of the first k pairs. -/
def wsum (bs : List UInt8) : Nat → Int
  | 0 => 0
  | k + 1 => wsum bs k + wrd bs k
def wall (bs : List UInt8) : Int := wsum bs (prs bs.length)
def psum (ps : List (List UInt8)) : Int := (ps.map wall).sum
theorem wsum_succ (bs : List UInt8) (k : Nat) : wsum bs (k + 1) = wsum bs k + wrd bs k := rfl
theorem wsum_bd (bs : List UInt8) (k : Nat) : 0 ≤ wsum bs k ∧ wsum bs k ≤ 65535 * (k : Int) := by
  induction k with
  | zero => simp [wsum]
  | succ k ih => have := wrd_bd bs k; rw [wsum_succ]; omega
theorem wall_bd (bs : List UInt8) : 0 ≤ wall bs ∧ wall bs ≤ 65535 * (bs.length : Int) := by
  have := wsum_bd bs (prs bs.length); unfold wall; unfold prs at *; omega
theorem psum_take (ps : List (List UInt8)) {k : Nat} {bs : List UInt8} (h : ps[k]? = some bs) : psum (ps.take (k + 1)) = psum (ps.take k) + wall bs := by
  rw [List.take_add_one, h]; simp [psum]
/-- How many bytes there are in all. -/
def bulk (ps : List (List UInt8)) : Nat := (ps.map List.length).sum
theorem bulk_take (ps : List (List UInt8)) {k : Nat} {bs : List UInt8} (h : ps[k]? = some bs) : bulk (ps.take (k + 1)) = bulk (ps.take k) + bs.length := by
  rw [List.take_add_one, h]; simp [bulk]
theorem psum_bd (ps : List (List UInt8)) : 0 ≤ psum ps ∧ psum ps ≤ 65535 * (bulk ps : Int) := by
  induction ps with
  | nil => simp [psum, bulk]
  | cons b l ih =>
    have := wall_bd b
    have e1 : psum (b :: l) = wall b + psum l := by simp [psum]
    have e2 : bulk (b :: l) = b.length + bulk l := by simp [bulk]
    rw [e1, e2]; omega
theorem bulk_le (ps : List (List UInt8)) (k : Nat) : bulk (ps.take k) ≤ bulk ps := by
  have : bulk ps = bulk (ps.take k) + bulk (ps.drop k) := by
    conv => lhs; rw [← List.take_append_drop k ps]
    simp only [bulk, List.map_append, List.sum_append]
  omega
theorem len_bulk {ps : List (List UInt8)} {k : Nat} {bs : List UInt8} (h : ps[k]? = some bs) : bs.length ≤ bulk ps := by
  have := bulk_take ps h; have := bulk_le ps (k + 1); omega

/-! ### A slice of slices of bytes -/

/-- The slice at A, of ps.length elements, reads as slices that read as ps; all lies below block B. -/
def Rd2 (w : World) (B : Nat) (A : Option Addr) (ps : List (List UInt8)) : Prop :=
  0 < ps.length → ∃ b off, A = some ⟨b, off, none⟩ ∧ b < B ∧ ∀ (j : Nat) (bs : List UInt8), ps[j]? = some bs → ∃ Aj cj, w.cell? ⟨b, off + j, none⟩ = some (.slice Aj bs.length cj) ∧ Arg w B Aj cj bs
theorem Rd2.below {w w' : World} {B : Nat} {A : Option Addr} {ps : List (List UInt8)} (h : Rd2 w B A ps) (hb : Below B w w') : Rd2 w' B A ps := fun hn => by
  obtain ⟨b, off, e, hlt, hc⟩ := h hn
  refine ⟨b, off, e, hlt, fun j bs hj => ?_⟩
  obtain ⟨Aj, cj, h1, h2⟩ := hc j bs hj
  exact ⟨Aj, cj, (hb.cell (p := ⟨b, off + j, none⟩) hlt).trans h1, h2.below hb⟩
end Go.Proofs.Ytpoigngpdcmipaa

/-
  Contracts of the program's sum: Add, Of, Right, Change. Conditions are each theorem's own.
-/
namespace Go.Proofs.Ytpoigngpdcmipaa
open Go.RowKit Go.Shelf
attribute [local go_sem] Oper.semAt_some

/-! ### Many ranges over a function in one call: the marks that they leave -/

/-- The deferred calls are marks of blocks from lo on and below hi, each below the one ahead of it, that nothing was put into. -/
def Marks (lo : Nat) : Nat → List Deferred → World → Prop
  | _, [], _ => True
  | hi, d :: ds, w => ∃ D, d = { target := .collected D, args := #[] } ∧ lo ≤ D ∧ D < hi ∧ w.heap[D]? = some (.deferred (some [])) ∧ Marks lo D ds w
theorem Marks.keep {lo : Nat} {w w' : World} : ∀ {ds : List Deferred} {hi : Nat}, Marks lo hi ds w → (∀ k, lo ≤ k → k < hi → w'.heap[k]? = w.heap[k]?) → Marks lo hi ds w'
  | [], _, _, _ => trivial
  | _ :: _, _, ⟨D, e, h1, h2, h3, h4⟩, hk => ⟨D, e, h1, h2, (hk D h1 h2).trans h3, h4.keep fun k a b => hk k a (by omega)⟩
theorem Marks.more {lo : Nat} {w : World} : ∀ {ds : List Deferred} {hi hi' : Nat}, Marks lo hi ds w → hi ≤ hi' → Marks lo hi' ds w
  | [], _, _, _, _ => trivial
  | _ :: _, _, _, ⟨D, e, h1, h2, h3, h4⟩, hh => ⟨D, e, h1, by omega, h3, h4⟩
theorem Marks.push {lo hi D : Nat} {ds : List Deferred} {w : World} (h : Marks lo hi ds w) (hD : hi ≤ D) (hlo : lo ≤ D) (hK : w.heap[D]? = some (.deferred (some []))) :
    Marks lo (D + 1) ({ target := .collected D, args := #[] } :: ds) w := ⟨D, rfl, hlo, Nat.lt_succ_self D, hK, h.more hD⟩
theorem Marks.turn {lo : Nat} {w w' : World} {r : Option Nat} (hg : w.grownBy w' r) : ∀ {ds : List Deferred} {hi : Nat}, Marks lo hi ds w → (∀ k, r = some k → hi ≤ k) → Marks lo hi ds w'
  | [], _, _, _ => trivial
  | _ :: _, _, ⟨D, e, h1, h2, h3, h4⟩, hr => ⟨D, e, h1, h2, (hg.block D (heap_lt h3) (fun e => by have := hr D e.symm; omega)).trans h3, h4.turn hg fun k e => by have := hr k e; omega⟩

/-- A function that leaves with such marks: what holds behind the turn of each block holds at its end. -/
theorem leaves_marks {F : Fence} {n : Nat} {P : Program} {fn : Func} {tmps : Array Value} {R : Ending → World → Prop} (lo : Nat) (K : World → Prop)
    (hK : ∀ (w : World) (D : Nat), K w → lo ≤ D → w.heap[D]? = some (.deferred (some [])) → K (w.putObj D (.deferred none)))
    (hE : ∀ w, K w → LeavesInM F n P fn tmps R [] .returning w) : ∀ (ds : List Deferred) (hi : Nat) (w : World), Marks lo hi ds w → K w → LeavesInM F n P fn tmps R ds .returning w
  | [], _, w, _, hk => hE w hk
  | _ :: ds, _, w, ⟨D, e, h1, h2, h3, h4⟩, hk => by
    subst e
    refine ⟨by simp, .inl ⟨D, _, rfl, run_takeDeferred h3, ?_⟩⟩
    exact leaves_marks lo K hK hE ds D _ (h4.keep fun k _ hkD => World.putObj_heap_other (by omega)) (hK w D hk h1 h3)

/-- The sum of the pairs that have come. -/
def lsum (bs : List UInt8) : List Nat → Int := List.foldl (fun s x => s + wrd bs x) 0
theorem lsum_snoc (bs : List UInt8) (pre : List Nat) (x : Nat) : lsum bs (pre ++ [x]) = lsum bs pre + wrd bs x := by simp [lsum]
theorem lsum_range (bs : List UInt8) (k : Nat) : lsum bs (List.range k) = wsum bs k := by
  induction k with
  | zero => rfl
  | succ k ih => rw [List.range_succ, lsum_snoc, ih, wsum_succ]
theorem lsum_bd (bs : List UInt8) (pre : List Nat) : 0 ≤ lsum bs pre ∧ lsum bs pre ≤ 65535 * (pre.length : Int) := by
  suffices h : ∀ (pre : List Nat) (s : Int) (m : Int), 0 ≤ s → s ≤ 65535 * m → 0 ≤ List.foldl (fun s x => s + wrd bs x) s pre ∧ List.foldl (fun s x => s + wrd bs x) s pre ≤ 65535 * (m + (pre.length : Int)) by
    simpa [lsum] using h pre 0 0 (by omega) (by omega)
  intro pre
  induction pre with
  | nil => intro s m h0 h1; simpa using ⟨h0, h1⟩
  | cons x l ih =>
    intro s m h0 h1
    have hx := wrd_bd bs x
    have := ih (s + wrd bs x) (m + 1) (by omega) (by omega)
    rw [List.foldl_cons, List.length_cons]
    refine ⟨this.1, ?_⟩
    have h2 := this.2
    omega

/-- Is a sum right? A plain definition. -/
def rightB (ps : List (List UInt8)) : Bool := fold (psum ps) == 65535
/-- Change, said at once. -/
def chg (s : Int) (old now : List UInt8) : Int := if 0 ≤ s ∧ s ≤ 65535 then 65535 - fold (65535 - s + (65535 * (prs old.length : Int) - wall old) + wall now) else 0
theorem chg_no {s : Int} {old now : List UInt8} (h : ¬ (0 ≤ s ∧ s ≤ 65535)) : chg s old now = 0 := by rw [chg, if_neg h]

end Go.Proofs.Ytpoigngpdcmipaa

/-
  A range over an iterator that hands over memory which it made in the round: what is known of an element comes with it. Conditions are each theorem's own.
-/
namespace Go.Proofs.Ytpoigngpdcmipaa
open Go.RowKit Go.Shelf

/-- An iterator's promise: its elements come in order; of each, when it comes, G is known. -/
def SeqTold {α : Type} (m : Nat) (P : Program) (g : Nat) (lb : Array Value) (encs : α → Array Value) (G : List α → α → World → Prop) (Kp : World → World → Prop) (S Sp : List α → Prop) (w : World) : Prop :=
  ∀ (l : Nat) (J Jx : List α → World → Prop) (W : World), Below w.heap.size w W → AbidesFrom W.heap.size J → AbidesFrom W.heap.size Jx →
    (∀ pre x X, J pre X → G pre x X → YieldAt Fence.wide (m - 1) P l (encs x) X fun e Y =>
      (e = .returned (.bool true) ∧ J (pre ++ [x]) Y ∧ Kp X Y) ∨ (e = .returned (.bool false) ∧ Jx (pre ++ [x]) Y)) →
    J [] W →
    CallsIn Fence.wide m P g (#[.func (.yield l) #[] #[]] ++ lb) W fun e Y => (∃ v, e = .returned v) ∧ ((∃ xs, S xs ∧ J xs Y) ∨ (∃ pre, Sp pre ∧ Jx pre Y))
/-- The loop's record, in a state. -/
def recd (fn : FuncId) (a : Act) (ps : Array Tmp) (assign body : Code) (D : Nat) (st : LoopState) (pe : Option Code) : Loop := { state := st, pending := pe, fn := fn, tmps := a.tmps, params := ps, assign := assign, body := body, defers := D }
/-- The statement's two blocks: the rounds' deferred calls at D, the record behind it. -/
structure Two (W : World) (D : Nat) (r : Loop) : Prop where
  calls : W.heap[D]? = some (.deferred (some []))
  rec_ : W.heap[D + 1]? = some (.loop r)
section
variable {W V : World} {D : Nat} {r : Loop}
theorem Two.turn (h : Two W D r) (s : Loop) : Two (W.putObj (D + 1) (.loop s)) D s :=
  ⟨(World.putObj_heap_other (by omega)).trans h.calls, World.putObj_heap_same (heap_lt h.rec_)⟩
theorem Two.abides (h : Two W D r) {row : Option Nat} (hg : W.grownBy V row) (hr : ∀ k, row = some k → ∃ o : Obj, W.heap[k]? = some o ∧ o.isWalk = true) : Two V D r :=
  ⟨(grownBy_keeps hg hr h.calls rfl).trans h.calls, (grownBy_keeps hg hr h.rec_ rfl).trans h.rec_⟩
theorem Two.keeps (h : Two W D r) (hk : KeepsFrom D W V) : Two V D r := ⟨hk.same _ _ (Nat.le_refl _) h.calls rfl, hk.same _ _ (by omega) h.rec_ rfl⟩
theorem Two.first (w : World) (r : Loop) : Two ((w.alloc (.deferred (some []))).alloc (.loop r)) w.heap.size r := by
  refine ⟨(Below.heap_alloc _ _ _ (by simp)).trans (World.alloc_heap_new w _), ?_⟩
  have := World.alloc_heap_new (w.alloc (.deferred (some []))) (.loop r)
  rwa [World.size_alloc] at this
end
/-- How a round ends, said at once: by going on, or by a jump that waits. -/
theorem round_end {α : Type} {P : Program} {fn : FuncId} {a : Act} {ps : Array Tmp} {assign body : Code} {w X Y : World} {Kp : World → World → Prop} {I : List α → World → Prop} {Ix : Code → List α → World → Prop} {pre : List α}
    (hI : OwnFrom w.heap.size I) (hIx : ∀ c, OwnFrom w.heap.size (Ix c)) (hKt : ∀ {A B C : World}, Kp A B → Kp B C → Kp A C) (hKb : ∀ (W : World) (l : Nat) (r r' : Loop), w.heap.size ≤ l → W.heap[l]? = some (.loop r) → Kp W (W.putObj l (.loop r')))
    (X0 : World) (h0 : Kp X0 X) (hT : Two X w.heap.size (recd fn a ps assign body w.heap.size .busy none)) (e : Exit) (b : Act) (h : ownPostG w.heap.size Kp I Ix pre X e b Y) :
    roundPost P (w.heap.size + 1) (fun e Y => (e = .returned (.bool true) ∧ (I pre Y ∧ Two Y w.heap.size (recd fn a ps assign body w.heap.size .ready none)) ∧ Kp X0 Y) ∨
      (e = .returned (.bool false) ∧ ∃ c, Ix c pre Y ∧ Two Y w.heap.size (recd fn a ps assign body w.heap.size .done (some c)))) e b Y := by
  have jump : ∀ c, KeepsFrom w.heap.size X Y ∧ Ix c pre Y → ∃ v Z, (Instr.endRound (w.heap.size + 1) (some c)).run P Y = .ok v Z ∧
      ((Ending.returned v = .returned (.bool true) ∧ (I pre Z ∧ Two Z w.heap.size (recd fn a ps assign body w.heap.size .ready none)) ∧ Kp X0 Z) ∨
      (Ending.returned v = .returned (.bool false) ∧ ∃ c, Ix c pre Z ∧ Two Z w.heap.size (recd fn a ps assign body w.heap.size .done (some c)))) := fun c hp => by
    have ht := hT.keeps hp.1
    exact ⟨_, _, run_endRound (some c) ht.rec_, .inr ⟨rfl, c, (hIx c).putObj _ hp.2 (by omega) ht.rec_ rfl, ht.turn _⟩⟩
  cases e with
  | normal =>
    have ht := hT.keeps h.1
    exact ⟨_, _, run_endRound none ht.rec_, .inl ⟨rfl, ⟨hI.putObj _ h.2.2 (by omega) ht.rec_ rfl, ht.turn _⟩, hKt (hKt h0 h.2.1) (hKb _ _ _ _ (by omega) ht.rec_)⟩⟩
  | ret => exact jump .ret h
  | exit id => exact jump (.exit id) h
  | goto t => exact jump (.goto t) h
  | panic c => exact h.elim
  | outgrown => exact h.elim
theorem range_told {α : Type} {n : Nat} {P : Program} {g : Operand} {ps : Array Tmp} {assign body : Code} {Q : Exit → Act → World → Prop} {a : Act} {w : World} (h1 : 1 ≤ n)
    {gf : Nat} {lb : Array Value} (hg : a.eval g = .func (.func gf) #[] lb) (eg : ∀ args w, (callFunc gf args).run P w = .ok (.enter gf args) w)
    {encs : α → Array Value} {G : List α → α → World → Prop} {Kp : World → World → Prop} {S Sp : List α → Prop} {w0 : World} (hseq : SeqTold (n - 1) P gf lb encs G Kp S Sp w0)
    (hKt : ∀ {A B C : World}, Kp A B → Kp B C → Kp A C) (hKb : ∀ (W : World) (l : Nat) (r r' : Loop), w.heap.size ≤ l → W.heap[l]? = some (.loop r) → Kp W (W.putObj l (.loop r')))
    (hb0 : Below w0.heap.size w0 w) (hps : ∀ x, (encs x).size = ps.size)
    (hG : ∀ (pre : List α) (x : α) (W : World) (l : Nat) (r r' : Loop), G pre x W → w.heap.size ≤ l → W.heap[l]? = some (.loop r) → G pre x (W.putObj l (.loop r')))
    (I : List α → World → Prop) (Ix : Code → List α → World → Prop) (hI : OwnFrom w.heap.size I) (hIx : ∀ c, OwnFrom w.heap.size (Ix c)) (h0 : I [] w) (a₁ : α → Act)
    (hassign : ∀ (l : Nat) (x : α) (W : World) (K : Act → World → Prop), K (a₁ x) W →
      assign.wpIn (Fence.wide.inRound l) (n - 1 - 1) P (Exit.then K (fun _ _ _ => False)) { tmps := (ps.zip (encs x)).foldl (fun t (p, v) => t.setIfInBounds p v) a.tmps, defers := [] } W)
    (hbody : ∀ (l : Nat) (pre : List α) (x : α) (W : World), I pre W → G pre x W → body.wpIn (Fence.wide.inRound l) (n - 1 - 1) P (ownPostG w.heap.size Kp I Ix (pre ++ [x]) W) (a₁ x) W)
    (hdone : ∀ (D : Nat) (xs : List α) (W : World), w.heap.size ≤ D → S xs → I xs W → W.heap[D]? = some (.deferred (some [])) → Q .normal { a with defers := { target := .collected D, args := #[] } :: a.defers } W)
    (hstop : ∀ (D : Nat) (c : Code) (pre : List α) (W : World), w.heap.size ≤ D → Sp pre → Ix c pre W → W.heap[D]? = some (.deferred (some [])) → c.wpIn Fence.wide n P Q { a with defers := { target := .collected D, args := #[] } :: a.defers } W) :
    (Code.rangeFunc g ps assign body).wpIn Fence.wide n P Q a w := by
  refine wpIn_rangeFunc fun fn _ => ?_
  have t1 := Two.first w (recd fn a ps assign body w.heap.size .ready none)
  have b1 : Below w0.heap.size w0 ((w.alloc (.deferred (some []))).alloc (.loop (recd fn a ps assign body w.heap.size .ready none))) := (hb0.alloc hb0.size _).alloc (by have := hb0.size; simp; omega) _
  have i1 : I [] ((w.alloc (.deferred (some []))).alloc (.loop (recd fn a ps assign body w.heap.size .ready none))) := hI.alloc _ (hI.alloc _ h0)
  have z1 : w.heap.size ≤ ((w.alloc (.deferred (some []))).alloc (.loop (recd fn a ps assign body w.heap.size .ready none))).heap.size := by simp; omega
  obtain ⟨W1, hW1⟩ : ∃ W1, W1 = (w.alloc (.deferred (some []))).alloc (.loop (recd fn a ps assign body w.heap.size .ready none)) := ⟨_, rfl⟩
  rw [← hW1] at t1 b1 i1 z1
  refine ⟨w.heap.size + 1, [{ target := .collected w.heap.size, args := #[] }], W1, { target := .fn (.func gf) lb, args := #[.func (.yield (w.heap.size + 1)) #[] #[]] }, W1, gf, #[.func (.yield (w.heap.size + 1)) #[] #[]] ++ lb, W1,
    ?_, ?_, fun _ _ => trivial, ?_, fun _ => h1, ?_⟩
  · rw [hW1]; exact run_enterLoop_outer fn a.tmps ps assign body
  · simp only [resolve, hg]; simp [go_sem]
  · simp [invoke, go_sem, eg]
  · refine (hseq (w.heap.size + 1) (fun pre W => I pre W ∧ Two W w.heap.size (recd fn a ps assign body w.heap.size .ready none))
      (fun pre W => ∃ c, Ix c pre W ∧ Two W w.heap.size (recd fn a ps assign body w.heap.size .done (some c))) _ b1 ?_ ?_ ?_ ⟨i1, t1⟩).mono ?_
    · rintro s A B row ⟨hi, ht⟩ hgr hr
      exact ⟨hI s A B row hi hgr fun r e => by obtain ⟨hB, o, ho, hw⟩ := hr r e; exact ⟨by omega, o, ho, Obj.not_cells_of_walk hw⟩, ht.abides hgr fun r e => (hr r e).2⟩
    · rintro s A B row ⟨c, hi, ht⟩ hgr hr
      exact ⟨c, hIx c s A B row hi hgr fun r e => by obtain ⟨hB, o, ho, hw⟩ := hr r e; exact ⟨by omega, o, ho, Obj.not_cells_of_walk hw⟩, ht.abides hgr fun r e => (hr r e).2⟩
    · rintro pre x X ⟨hi, ht⟩ hgx
      refine ⟨fn, _, assign, body, run_yield ht.rec_ (hps x), roundIn_of_wpIn trivial (hassign _ x X _ ⟨_, run_beginRound ht.rec_ rfl, ?_⟩)⟩
      have hbu := ht.turn (recd fn a ps assign body w.heap.size .busy none)
      exact wpIn_mono (hbody _ pre x _ (hI.putObj _ hi (by omega) ht.rec_ rfl) (hG pre x X _ _ _ hgx (by omega) ht.rec_))
        (fun e b Y hp => by
          have hk0 : Kp X (X.putObj (w.heap.size + 1) (.loop (recd fn a ps assign body w.heap.size .busy none))) := hKb _ _ _ _ (by omega) ht.rec_
          exact round_end (P := P) (pre := pre ++ [x]) (Kp := Kp) (I := I) (Ix := Ix) hI hIx hKt hKb X hk0 hbu e b hp)
    · rintro e Y ⟨⟨v, rfl⟩, ⟨xs, hs, hi, ht⟩ | ⟨pre, hs, c, hi, ht⟩⟩
      · exact ⟨none, _, run_endLoop ht.rec_ (by simp [recd]), hdone _ xs _ (Nat.le_refl _) hs (hI.putObj _ hi (by omega) ht.rec_ rfl) (ht.turn _).calls⟩
      · exact ⟨some c, _, run_endLoop ht.rec_ (by simp [recd]), hstop _ c pre _ (Nat.le_refl _) hs ((hIx c).putObj _ hi (by omega) ht.rec_ rfl) (ht.turn _).calls⟩
end Go.Proofs.Ytpoigngpdcmipaa

/-
  Arguments that came in, opened by their types: what a walk is told of each. Conditions are each theorem's own.
-/
namespace Go.Proofs.Ytpoigngpdcmipaa
open Go.RowKit Go.ChangeShapes Go.WideShapes

/-- A slice of integers that came in: nil, or a row of 'cap' cells that hold the numbers 'zs', each fitting its kind. -/
def IsRow (k : IntKind) (w : World) (a : Option Addr) (len cap : Nat) (zs : List Int) : Prop :=
  (a = none ∧ len = 0 ∧ cap = 0 ∧ zs = []) ∨
  ∃ x, a = some x ∧ len ≤ cap ∧ cap ≤ maxLen ∧ zs.length = cap ∧ (∀ i, i < zs.length → w.cell? (x.add i) = some (.int k (zs.getD i 0))) ∧ ∀ n ∈ zs, (Lit.int k n).wf = true

theorem arg_of_row {w : World} {a : Option Addr} {len cap : Nat} {zs : List Int} (h : IsRow .u8 w a len cap zs) : ∃ bs : List UInt8, len = bs.length ∧ Arg w w.heap.size a cap bs := by
  rcases h with ⟨rfl, rfl, rfl, rfl⟩ | ⟨x, rfl, hl, hm, hz, hcell, hwz⟩
  · exact ⟨[], rfl, Arg.nil _ _⟩
  · refine ⟨(zs.take len).map fun z => UInt8.ofNat z.toNat, by simp; omega, fun hn => ?_, by simp; omega, fun e => by cases e⟩
    have hn' : 0 < len := by simp at hn; omega
    have hc0 := hcell 0 (by omega)
    have hlt := cell_block hc0
    obtain ⟨b, off, spot⟩ := x
    have hspot : spot = none := by simpa [Addr.add] using World.cell?_spot hc0
    subst hspot
    refine ⟨b, off, rfl, by simpa [Addr.add] using hlt, fun j hj => ?_⟩
    have hj' : j < zs.length := by simp at hj; omega
    have hjl : j < len := by simp at hj; omega
    have hc := hcell j hj'
    rw [add_off] at hc
    rw [hc]
    have hb := range_u8 hwz j
    simp only [byt, List.getElem?_map, List.getElem?_take, if_pos hjl, List.getElem?_eq_getElem hj', Option.map_some, Option.getD_some, List.getD_eq_getElem?_getD] at hb ⊢
    simp [UInt8.toNat_ofNat']
    omega

section
variable {H : Type} {enc : TypeId × Value → H} {P : Program} {w : World} {base : Nat} {t e : TypeId} {v : Value} {d : DataW H} {p : List MemPlace}
theorem Trod_lt (h : DataW.Trod enc P w 0 (fun _ => true) true t v d p) : ∀ x ∈ p, x.block < w.heap.size := by
  obtain ⟨m, hm⟩ := h; exact DataW.trod_lt m _ _ _ hm
theorem get_int {k : IntKind} (ht : P.underlying t = some (.int k)) (hv : Value.okWide P w .any base t v) (h : DataW.Trod enc P w 0 (fun _ => true) true t v d p) :
    ∃ n, v = .int k n ∧ (Lit.int k n).wf = true := by
  obtain ⟨n, e, _, _, hw⟩ := open_int ht hv h
  exact ⟨n, e, hw⟩
theorem get_bool (ht : P.underlying t = some .bool) (hv : Value.okWide P w .any base t v) (h : DataW.Trod enc P w 0 (fun _ => true) true t v d p) :
    ∃ b, v = .bool b := by
  obtain ⟨b, e, _⟩ := open_bool ht hv h
  exact ⟨b, e⟩
theorem get_str (ht : P.underlying t = some .string) (hv : Value.okWide P w .any base t v) (h : DataW.Trod enc P w 0 (fun _ => true) true t v d p) :
    ∃ s : ByteArray, v = .string s ∧ s.size ≤ maxLen := by
  obtain ⟨s, e, _, _, hw⟩ := Go.ChangeMaps.open_string ht hv h
  exact ⟨s, e, hw⟩
theorem get_row {k : IntKind} (ht : P.underlying t = some (.slice e)) (he : P.underlying e = some (.int k)) (hc : P.cellsOf e = 1) (hv : Value.okWide P w .any base t v) (h : DataW.Trod enc P w 0 (fun _ => true) true t v d p) :
    ∃ A len cap zs, v = .slice A len cap ∧ IsRow k w A len cap zs := by
  obtain ⟨A, len, cap, rfl⟩ := okWide_slice ht hv
  obtain ⟨fuel, hf⟩ := h
  rcases open_ints ht he hc hf with ⟨hcs, _⟩ | ⟨x, l, c, zs, hcs, _, hl, hm, hz, _, hcell, hwz⟩
  · simp [Value.cells] at hcs
    obtain ⟨rfl, rfl, rfl⟩ := hcs
    exact ⟨_, _, _, [], rfl, .inl ⟨rfl, rfl, rfl, rfl⟩⟩
  · simp [Value.cells] at hcs
    obtain ⟨rfl, rfl, rfl⟩ := hcs
    exact ⟨_, _, _, zs, rfl, .inr ⟨_, rfl, hl, hm, by simpa using hz, hcell, hwz⟩⟩
theorem get_bytes (ht : P.underlying t = some (.slice e)) (he : P.underlying e = some (.int .u8)) (hc : P.cellsOf e = 1) (hv : Value.okWide P w .any base t v) (h : DataW.Trod enc P w 0 (fun _ => true) true t v d p) :
    ∃ A c bs, v = .slice A bs.length c ∧ Arg w w.heap.size A c bs ∧ c ≤ maxLen := by
  obtain ⟨A, len, cap, zs, rfl, hr⟩ := get_row ht he hc hv h
  obtain ⟨bs, rfl, ha⟩ := arg_of_row hr
  refine ⟨A, cap, bs, rfl, ha, ?_⟩
  rcases hr with ⟨_, _, rfl, _⟩ | ⟨_, _, _, hm, _⟩
  · exact Nat.zero_le _
  · exact hm
theorem get_ints (ht : P.underlying t = some (.slice e)) (he : P.underlying e = some (.int .i64)) (hc : P.cellsOf e = 1) (hv : Value.okWide P w .any base t v) (h : DataW.Trod enc P w 0 (fun _ => true) true t v d p) :
    ∃ A c zs, v = .slice A zs.length c ∧ RdI w w.heap.size A zs ∧ zs.length ≤ c ∧ c ≤ maxLen ∧ ∀ n ∈ zs, (Lit.int .i64 n).wf = true := by
  obtain ⟨A, len, cap, zs, rfl, hr⟩ := get_row ht he hc hv h
  rcases hr with ⟨rfl, rfl, rfl, rfl⟩ | ⟨x, rfl, hl, hm, hz, hcell, hwz⟩
  · exact ⟨none, 0, [], rfl, fun hn => absurd hn (by simp), Nat.le_refl _, Nat.zero_le _, by simp⟩
  · have e1 : (zs.take len).length = len := by simp; omega
    refine ⟨some x, cap, zs.take len, by rw [e1], fun hn => ?_, by omega, hm, fun n hn => hwz n (List.mem_of_mem_take hn)⟩
    have hc0 := hcell 0 (by omega)
    have hlt := cell_block hc0
    obtain ⟨b, off, spot⟩ := x
    have hspot : spot = none := by simpa [Addr.add] using World.cell?_spot hc0
    subst hspot
    refine ⟨b, off, rfl, by simpa [Addr.add] using hlt, fun j hj => ?_⟩
    have hc := hcell j (by omega)
    rw [add_off] at hc
    rw [hc]
    congr 2
    simp only [List.getD_eq_getElem?_getD, List.getElem?_take]
    rw [if_pos (by omega)]
end
end Go.Proofs.Ytpoigngpdcmipaa

/-
  Addresses of IPv6 as lists of sixteen bytes: which stands ahead, which is of a host. No program. Conditions are each theorem's own.
-/
namespace Go.Proofs.Ytpoigngpdcmipaa
open Go.RowKit

/-- The cells of an address. -/
def cel (a : List UInt8) : Array Value := (row a).toArray
theorem cel_size (a : List UInt8) : (cel a).size = a.length := by simp [cel, row_length]
theorem cel_get (a : List UInt8) {j : Nat} (h : j < a.length) : (cel a)[j]? = some (.int .u8 (byt a j)) := by
  rw [cel, List.getElem?_toArray, row_get a h]
theorem cel_at (a : List UInt8) {j : Nat} (h : j < a.length) (h' : j < (cel a).size) : (cel a)[j] = .int .u8 (byt a j) := by
  have h1 := cel_get a h
  rw [Array.getElem?_eq_getElem h'] at h1
  exact Option.some.inj h1
theorem below_n {w w' : World} {B : Nat} (h : Below B w w') (q : Nat) : Below B w (w'.drewN q) := ⟨h.os, h.tape, h.output, h.size, h.block⟩
theorem below_two (w : World) (x y : Obj) : Below w.heap.size w ((w.alloc x).alloc y) := ((Below.refl _ w).alloc (Nat.le_refl _) x).alloc (by simp) y
theorem two_first (w : World) (a b : List UInt8) (t u : TypeId) {j : Nat} (h : j < a.length) : ((w.alloc (.cells (cel a) t)).alloc (.cells (cel b) u)).cell? ⟨w.heap.size, j, none⟩ = some (.int .u8 (byt a j)) := by
  rw [World.cell?_alloc_lt _ _ _ (by simp), World.cell?_alloc_new]; exact cel_get a h
theorem two_second (w : World) (a b : List UInt8) (t u : TypeId) {j : Nat} (h : j < b.length) : ((w.alloc (.cells (cel a) t)).alloc (.cells (cel b) u)).cell? ⟨w.heap.size + 1, j, none⟩ = some (.int .u8 (byt b j)) := by
  have := World.cell?_alloc_new (w.alloc (.cells (cel a) t)) (cel b) u j
  rw [show (w.alloc (.cells (cel a) t)).heap.size = w.heap.size + 1 from by simp] at this
  rw [this]; exact cel_get b h
/-- Does a stand ahead of b? A plain definition. -/
def lexL : List UInt8 → List UInt8 → Bool
  | x :: xs, y :: ys => if x = y then lexL xs ys else decide (x.toNat < y.toNat)
  | _, _ => false
theorem byt_eq {a b : List UInt8} {k : Nat} (ha : k < a.length) (hb : k < b.length) : byt a k = byt b k ↔ a[k] = b[k] := by
  simp only [byt, List.getElem?_eq_getElem ha, List.getElem?_eq_getElem hb, Option.getD_some]
  constructor
  · intro h; exact UInt8.toNat_inj.1 (by omega)
  · intro h; rw [h]
theorem byt_at {a : List UInt8} {k : Nat} (ha : k < a.length) : byt a k = (a[k].toNat : Int) := by
  simp only [byt, List.getElem?_eq_getElem ha, Option.getD_some]
theorem lex_same {a b : List UInt8} {k : Nat} (ha : k < a.length) (hb : k < b.length) (h : lexL a b = lexL (a.drop k) (b.drop k)) (he : byt a k = byt b k) :
    lexL a b = lexL (a.drop (k + 1)) (b.drop (k + 1)) := by
  rw [h, List.drop_eq_getElem_cons ha, List.drop_eq_getElem_cons hb, lexL, if_pos ((byt_eq ha hb).1 he)]
theorem lex_here {a b : List UInt8} {k : Nat} (ha : k < a.length) (hb : k < b.length) (h : lexL a b = lexL (a.drop k) (b.drop k)) (he : ¬ byt a k = byt b k) :
    lexL a b = decide (byt a k < byt b k) := by
  rw [h, List.drop_eq_getElem_cons ha, List.drop_eq_getElem_cons hb, lexL, if_neg (fun e => he ((byt_eq ha hb).2 e)), byt_at ha, byt_at hb]
  simp
theorem lex_end {a b : List UInt8} {k : Nat} (ha : a.length ≤ k) (h : lexL a b = lexL (a.drop k) (b.drop k)) : lexL a b = false := by
  rw [h, List.drop_of_length_le ha, lexL]; simp
/-- The address of sixteen bytes 0. -/
def nul : List UInt8 := List.replicate 16 0
/-- Is it an address of a host? A plain definition. -/
def host6 (a : List UInt8) : Bool := !(decide (a = nul)) && (byt a 0 != 255)
theorem lex_self (a : List UInt8) : lexL a a = false := by
  induction a with
  | nil => rfl
  | cons x xs ih => rw [lexL, if_pos rfl]; exact ih
/-- Of two that differ one stands ahead. -/
theorem lex_tri : ∀ {a b : List UInt8}, a.length = b.length → a = b ∨ (a ≠ b ∧ lexL a b = true ∧ lexL b a = false) ∨ (a ≠ b ∧ lexL a b = false ∧ lexL b a = true)
  | [], [], _ => .inl rfl
  | [], _ :: _, h => by simp at h
  | _ :: _, [], h => by simp at h
  | x :: xs, y :: ys, h => by
    by_cases e : x = y
    · subst e
      rcases lex_tri (a := xs) (b := ys) (by simpa using h) with r | ⟨r, r1, r2⟩ | ⟨r, r1, r2⟩
      · exact .inl (by rw [r])
      · exact .inr (.inl ⟨by simpa using r, by rw [lexL, if_pos rfl, r1], by rw [lexL, if_pos rfl, r2]⟩)
      · exact .inr (.inr ⟨by simpa using r, by rw [lexL, if_pos rfl, r1], by rw [lexL, if_pos rfl, r2]⟩)
    · have hne : x.toNat ≠ y.toNat := fun h => e (UInt8.toNat_inj.1 h)
      have e' : ¬ y = x := fun h => e h.symm
      have hc : (x :: xs : List UInt8) ≠ y :: ys := fun h => e (by injection h)
      rcases Nat.lt_or_gt_of_ne hne with hl | hl
      · exact .inr (.inl ⟨hc, by rw [lexL, if_neg e]; simpa using hl, by rw [lexL, if_neg e']; simp; exact UInt8.le_of_lt hl⟩)
      · exact .inr (.inr ⟨hc, by rw [lexL, if_neg e]; simp; exact UInt8.le_of_lt hl, by rw [lexL, if_neg e']; simpa using hl⟩)
end Go.Proofs.Ytpoigngpdcmipaa

/-
  An address of IPv6 that came in, opened. Conditions are each theorem's own.
-/
namespace Go.Proofs.Ytpoigngpdcmipaa
open Go.RowKit Go.ChangeShapes Go.WideShapes

/-- A cell's byte. -/
def celB : Value → UInt8
  | .int _ n => UInt8.ofNat n.toNat
  | _ => 0
section
variable {H : Type} {enc : TypeId × Value → H} {P : Program} {w : World} {base : Nat} {t e : TypeId} {v : Value} {d : DataW H} {p : List MemPlace}
theorem cells_six {m fuel : Nat} {cs : List Value} {x : DataW H × List MemPlace} (ht : P.underlying t = some (.array m e)) (he : P.underlying e = some (.int .u8)) (hc : P.cellsOf e = 1) (hm : P.cellsOf t = m)
    (h : DataW.trod enc P w 0 (fun _ => true) true fuel t cs = some x) : ∃ a : List UInt8, a.length = m ∧ cs = row a := by
  obtain ⟨xs, k, _, _, hl, hxs, hall⟩ := DataW.trod_array ht h
  rw [hm] at hl
  have each : ∀ i, i < m → ∃ n : Int, cs[i]? = some (.int .u8 n) ∧ 0 ≤ n ∧ n ≤ 255 := by
    intro i hi
    have h1 := hall i hi
    rw [hc, Nat.mul_one, List.getElem?_eq_getElem (by omega)] at h1
    obtain ⟨n, hn, _, hw⟩ := DataW.trod_int he h1
    have h0 := congrArg (·[0]?) hn
    simp only [List.getElem?_take, List.getElem?_drop, List.getElem?_cons_zero, Nat.zero_lt_one, if_true, Nat.add_zero] at h0
    exact ⟨n, h0, bounds_u8 hw⟩
  refine ⟨cs.map celB, by simp [hl], ?_⟩
  refine List.ext_getElem? fun i => ?_
  by_cases hi : i < m
  · obtain ⟨n, hn, h0, h1⟩ := each i hi
    rw [hn]
    simp [row, hn, celB, UInt8.toNat_ofNat']
    omega
  · rw [List.getElem?_eq_none (by omega), List.getElem?_eq_none (by simp [row]; omega)]
theorem get_six (ht : P.underlying t = some (.array 16 e)) (he : P.underlying e = some (.int .u8)) (hc : P.cellsOf e = 1) (hm : P.cellsOf t = 16) (hv : Value.okWide P w .any base t v) (h : DataW.Trod enc P w 0 (fun _ => true) true t v d p) :
    ∃ a : List UInt8, v = .agg (cel a) ∧ a.length = 16 := by
  obtain ⟨cs, rfl, _⟩ : ∃ cs, v = .agg cs ∧ True := by
    have := hv
    simp only [Value.okWide, ht] at this
    cases v <;> simp_all
  obtain ⟨fuel, hf⟩ := h
  obtain ⟨a, ha, hcs⟩ := cells_six ht he hc hm hf
  refine ⟨a, ?_, ha⟩
  simp only [Value.cells] at hcs
  rw [cel, ← hcs]
end
end Go.Proofs.Ytpoigngpdcmipaa

/-
  Contracts of the document's plain answers of layer 2: Add, Of, Right, Change. Conditions are each theorem's own.
-/
namespace Go.Proofs.Ytpoigngpdcmipaa
open Go.RowKit

end Go.Proofs.Ytpoigngpdcmipaa

/-
  What the statements of layers 1 and 2 share on arguments that came in. Conditions: none.
-/

/-
  Contracts of layer 2's helpers: few, zero, awake. Conditions are each theorem's own.
-/
namespace Go.Proofs.Ytpoigngpdcmipaa
open Go.RowKit

theorem Rd2.of_cells {w : World} {B g t : Nat} {cs : Array Value} {ps : List (List UInt8)} (hg : w.heap[g]? = some (.cells cs t (0, 0))) (hB : g < B)
    (hc : ∀ (j : Nat) (bs : List UInt8), ps[j]? = some bs → ∃ Aj cj, cs[j]? = some (.slice Aj bs.length cj) ∧ Arg w B Aj cj bs) : Rd2 w B (some ⟨g, 0, none⟩) ps := fun _ =>
  ⟨g, 0, rfl, hB, fun j bs hj => by
    obtain ⟨Aj, cj, h1, h2⟩ := hc j bs hj
    exact ⟨Aj, cj, by rw [cell_of_row w g (0 + j) cs t (0, 0) hg, Nat.zero_add]; exact h1, h2⟩⟩
theorem Rd2.one {w : World} {B g t : Nat} {A : Option Addr} {c : Nat} {bs : List UInt8} (hg : w.heap[g]? = some (.cells #[.slice A bs.length c] t (0, 0))) (hB : g < B) (h : Arg w B A c bs) : Rd2 w B (some ⟨g, 0, none⟩) [bs] :=
  Rd2.of_cells hg hB fun j b hj => by
    cases j with
    | zero => simp at hj; subst hj; exact ⟨A, c, rfl, h⟩
    | succ j => simp at hj
/-- A new block of bytes as it is handed over. -/
theorem Arg.new {w : World} {g t : Nat} {cs : Array Value} {bs : List UInt8} (hg : w.heap[g]? = some (.cells cs t (0, 0))) (hc : ∀ j, j < bs.length → cs[j]? = some (.int .u8 (byt bs j))) (c : Nat) (hl : bs.length ≤ c) :
    Arg w w.heap.size (some ⟨g, 0, none⟩) c bs := ⟨Rd.of_block hg (heap_lt hg) 0 (fun j hj => by rw [Nat.zero_add]; exact hc j hj), hl, fun e => by cases e⟩

def eight : List UInt8 := [0, 1, 242, 3, 244, 245, 246, 247]
/-! ### few -/
def fewB (ps : List (List UInt8)) : Bool := decide (ps.length ≤ 40) && ps.all (fun b => decide (b.length ≤ 2000)) && decide (bulk ps ≤ 8000)
theorem few_yes {ps : List (List UInt8)} (h : fewB ps = true) : ps.length ≤ 40 ∧ bulk ps ≤ 8000 := by
  simp [fewB] at h; exact ⟨h.1.1, h.2⟩

theorem few_long {ps : List (List UInt8)} (h : 40 < ps.length) : fewB ps = false := by
  have : decide (ps.length ≤ 40) = false := by simp; omega
  simp [fewB, this]
theorem few_big {ps : List (List UInt8)} {k : Nat} {bs : List UInt8} (hb : ps[k]? = some bs) (h : 2000 < bs.length) : fewB ps = false := by
  have : ps.all (fun b => decide (b.length ≤ 2000)) = false := by
    rw [List.all_eq_false]; exact ⟨bs, List.mem_of_getElem? hb, by simp; omega⟩
  simp [fewB, this]
theorem few_end {ps : List (List UInt8)} (h : ps.length ≤ 40) (ha : ∀ b ∈ ps, b.length ≤ 2000) : fewB ps = decide ((bulk ps : Int) ≤ 8000) := by
  have h1 : ps.all (fun b => decide (b.length ≤ 2000)) = true := by rw [List.all_eq_true]; intro b hb; simpa using ha b hb
  rw [Bool.eq_iff_iff]; simp [fewB, h, h1]; omega

/-! ### zero -/
def zeroB (ps : List (List UInt8)) : Bool := ps.all fun b => b.all fun x => x == 0
theorem zero_no {ps : List (List UInt8)} {k j : Nat} {bs : List UInt8} (hb : ps[k]? = some bs) (hj : j < bs.length) (h : byt bs j ≠ 0) : zeroB ps = false := by
  unfold zeroB
  rw [List.all_eq_false]
  refine ⟨bs, List.mem_of_getElem? hb, ?_⟩
  simp only [Bool.not_eq_true, List.all_eq_false]
  refine ⟨bs[j], List.getElem_mem hj, ?_⟩
  have : bs[j] ≠ 0 := fun e => h (by simp [byt, hj, e])
  simpa using this
theorem byt_zero {bs : List UInt8} (h : ∀ j, j < bs.length → byt bs j = 0) : ∀ x ∈ bs, x = 0 := by
  intro x hx
  obtain ⟨j, hj, rfl⟩ := List.getElem_of_mem hx
  have := h j hj
  simp [byt, hj] at this
  exact UInt8.toNat_inj.1 (by simpa using this)

/-! ### Sums behind bytes -/
theorem byt_left {a b : List UInt8} {j : Nat} (h : j < a.length) : byt (a ++ b) j = byt a j := by unfold byt; rw [List.getElem?_append_left h]
theorem byt_right {a b : List UInt8} {j : Nat} : byt (a ++ b) (a.length + j) = byt b j := by
  unfold byt; rw [List.getElem?_append_right (by omega), Nat.add_sub_cancel_left]
theorem wsum_left {a b : List UInt8} : ∀ {k : Nat}, 2 * k ≤ a.length → wsum (a ++ b) k = wsum a k
  | 0, _ => rfl
  | k + 1, h => by
    rw [wsum_succ, wsum_succ, wsum_left (by omega), wrd, wrd, byt_left (by omega), byt_left (by omega)]
theorem wall_two {a : List UInt8} {m : Nat} (h : a.length = 2 * m) (x y : UInt8) : wall (a ++ [x, y]) = wall a + ((x.toNat : Int) * 256 + (y.toNat : Int)) := by
  have e1 : prs (a ++ [x, y]).length = m + 1 := by rw [List.length_append, h]; unfold prs; simp; omega
  have e2 : prs a.length = m := by rw [h]; unfold prs; omega
  rw [wall, wall, e1, e2, wsum_succ, wsum_left (by omega)]
  have e3 : wrd (a ++ [x, y]) m = (x.toNat : Int) * 256 + (y.toNat : Int) := by
    have h0 : byt (a ++ [x, y]) (2 * m) = (x.toNat : Int) := by have := byt_right (a := a) (b := [x, y]) (j := 0); rw [h, Nat.add_zero] at this; rw [this]; rfl
    have h1 : byt (a ++ [x, y]) (2 * m + 1) = (y.toNat : Int) := by have := byt_right (a := a) (b := [x, y]) (j := 1); rw [h] at this; rw [this]; rfl
    rw [wrd, h0, h1]
  rw [e3]
theorem wall_pair (x y : UInt8) : wall [x, y] = (x.toNat : Int) * 256 + (y.toNat : Int) := by
  have := wall_two (a := []) (m := 0) rfl x y
  simpa [wall, prs, wsum] using this
theorem fold_right {S : Int} (h : 0 ≤ S) : fold (S + (65535 - fold S)) = 65535 := by
  unfold fold; split <;> (split <;> omega)
/-- The two bytes of a sum. -/
def hi (n : Int) : UInt8 := UInt8.ofNat (n / 256).toNat
def lo (n : Int) : UInt8 := UInt8.ofNat (n % 256).toNat
theorem hi_val {n : Int} (h0 : 0 ≤ n) (h1 : n ≤ 65535) : ((hi n).toNat : Int) = n / 256 := by simp only [hi, UInt8.toNat_ofNat']; omega
theorem lo_val (n : Int) : ((lo n).toNat : Int) = n % 256 := by simp only [lo, UInt8.toNat_ofNat']; omega
theorem hi_lo {n : Int} (h0 : 0 ≤ n) (h1 : n ≤ 65535) : ((hi n).toNat : Int) * 256 + ((lo n).toNat : Int) = n := by rw [hi_val h0 h1, lo_val n]; omega
theorem right_sum {a : List UInt8} {m : Nat} (h : a.length = 2 * m) : rightB [a ++ [hi (65535 - fold (psum [a])), lo (65535 - fold (psum [a]))]] = true := by
  have hb := fold_bd (psum [a])
  have hp : psum [a] = wall a := by simp [psum]
  have hw := wall_bd a
  have e : psum [a ++ [hi (65535 - fold (psum [a])), lo (65535 - fold (psum [a]))]] = wall a + (65535 - fold (psum [a])) := by
    rw [show psum [a ++ [hi (65535 - fold (psum [a])), lo (65535 - fold (psum [a]))]] = wall (a ++ [hi (65535 - fold (psum [a])), lo (65535 - fold (psum [a]))]) from by simp [psum], wall_two h, hi_lo (by omega) (by omega)]
  rw [rightB, e, hp, fold_right hw.1]; rfl

theorem Rd.pair {W : World} {u v : Int} {x y : UInt8} (t : TypeId) (h : u = (x.toNat : Int)) (h' : v = (y.toNat : Int)) : Rd (W.alloc (.cells #[.int .u8 u, .int .u8 v] t)) (W.heap.size + 1) (some ⟨W.heap.size, 0, none⟩) [x, y] :=
  Rd.of_block (g := W.heap.size) (World.alloc_heap_new W _) (Nat.lt_succ_self _) 0 (fun j hj => by
    have : j = 0 ∨ j = 1 := by simp at hj; omega
    rcases this with rfl | rfl
    · simp [h, byt]
    · simp [h', byt])
theorem Made.arg {w w' : World} {A : Option Addr} {c : Nat} {bs : List UInt8} (h : w'.ownsRow w.heap.size 5 1 (.slice A bs.length c) bs.length (row bs)) : Arg w' w'.heap.size A c bs := by
  refine ⟨Rd.of_own rfl h, ?_, ?_⟩
  · rcases h.2 with ⟨e, h0⟩ | ⟨g, cap, cur, e, _, _, hle, _⟩
    · omega
    · injection e with _ _ e3; omega
  · rcases h.2 with ⟨e, h0⟩ | ⟨g, cap, cur, e, _, _, hle, _⟩
    · intro _; injection e with _ _ e3
    · intro e'; injection e with e1 _ _; rw [e'] at e1; cases e1
/-- The even part of a slice that came in. -/
theorem Arg.even {w : World} {B : Nat} {A : Option Addr} {c : Nat} {bs : List UInt8} (h : Arg w B A c bs) : Arg w B A c (bs.take (bs.length / 2 * 2)) := by
  have hl : (bs.take (bs.length / 2 * 2)).length = bs.length / 2 * 2 := by rw [List.length_take]; omega
  refine ⟨fun hn => ?_, by have := h.cap; omega, h.none_⟩
  obtain ⟨b, off, e, hb, hc⟩ := h.rd (by omega)
  refine ⟨b, off, e, hb, fun j hj => ?_⟩
  have hbt : byt (bs.take (bs.length / 2 * 2)) j = byt bs j := by unfold byt; rw [List.getElem?_take, if_pos (by omega)]
  rw [hbt]
  exact hc j (by omega)
theorem even_len (bs : List UInt8) : (bs.take (bs.length / 2 * 2)).length = bs.length / 2 * 2 := by rw [List.length_take]; omega

theorem own_below {w w' : World} {base e size n : Nat} {v : Value} {xs : List Value} (h : w.ownsRow base e size v n xs) (hb : Below w.heap.size w w') : w'.ownsRow base e size v n xs := by
  obtain ⟨h1, h2⟩ := h
  refine ⟨h1, ?_⟩
  rcases h2 with h2 | ⟨g, cap, cur, hv, hg, hh, r⟩
  · exact .inl h2
  · exact .inr ⟨g, cap, cur, hv, hg, (hb.block g (heap_lt hh)).trans hh, r⟩
theorem clone_n (A : Option Addr) (bs : List UInt8) (c B n : Nat) (hn : Hid (bs.length = n)) (w : World) (h : Arg w B A c bs) (hB : B ≤ w.heap.size) (hl : bs.length ≤ 1099511627776) :
    Calls Try.prog 25 #[.slice A n c] w fun e w' => ∃ v, e = .returned v ∧ Made w w' v bs := by
  have h1 := clone_any A bs c B w h hB hl
  rw [hn.out] at h1
  exact h1
theorem Rd2.one_n {w : World} {B g t n : Nat} {A : Option Addr} {c : Nat} {bs : List UInt8} (hn : n = bs.length) (hg : w.heap[g]? = some (.cells #[.slice A n c] t (0, 0))) (hB : g < B) (h : Arg w B A c bs) : Rd2 w B (some ⟨g, 0, none⟩) [bs] := by
  subst hn; exact Rd2.one hg hB h
theorem Made.arg_n {w w' : World} {A : Option Addr} {c n : Nat} {bs : List UInt8} {xs : List Value} (hn : n = bs.length) (hx : xs = row bs) (h : w'.ownsRow w.heap.size 5 1 (.slice A n c) n xs) : Arg w' w'.heap.size A c bs := by
  subst hn; subst hx; exact Made.arg h

/-! ### A sum stays right -/
theorem wsum_zero {bs : List UInt8} : ∀ {k : Nat}, wsum bs k = 0 → ∀ j, j < 2 * k → byt bs j = 0
  | 0, _, j, hj => absurd hj (by omega)
  | k + 1, h, j, hj => by
    have h1 := wsum_bd bs k
    have h2 := wrd_bd bs k
    rw [wsum_succ] at h
    have e1 : wsum bs k = 0 := by omega
    have e2 : wrd bs k = 0 := by omega
    by_cases hlt : j < 2 * k
    · exact wsum_zero e1 j hlt
    · have a1 := byt_lo bs (2 * k)
      have a2 := byt_lo bs (2 * k + 1)
      unfold wrd at e2
      have : j = 2 * k ∨ j = 2 * k + 1 := by omega
      rcases this with rfl | rfl <;> omega
theorem wall_zero {bs : List UInt8} (h : wall bs = 0) : ∀ x ∈ bs, x = 0 :=
  byt_zero fun j hj => wsum_zero (k := prs bs.length) h j (by unfold prs; omega)
theorem psum_cons (b : List UInt8) (l : List (List UInt8)) : psum (b :: l) = wall b + psum l := by simp [psum]
theorem psum_zero : ∀ {ps : List (List UInt8)}, psum ps = 0 → zeroB ps = true
  | [], _ => rfl
  | b :: l, h => by
    have h1 := wall_bd b
    have h2 := psum_bd l
    rw [psum_cons] at h
    have e1 : wall b = 0 := by omega
    have e2 : psum l = 0 := by omega
    have := psum_zero e2
    simp only [zeroB, List.all_cons, Bool.and_eq_true] at this ⊢
    exact ⟨by rw [List.all_eq_true]; intro x hx; simpa using wall_zero e1 x hx, this⟩
theorem fold_spec {n : Int} (h : 0 ≤ n) : ∃ q : Int, n = fold n + 65535 * q ∧ (0 < n → 1 ≤ fold n) ∧ fold n ≤ 65535 := by
  unfold fold
  split
  · exact ⟨0, by omega, by omega, by omega⟩
  · exact ⟨(n - 1) / 65535, by omega, by omega, by omega⟩
theorem stays {a b old now : List UInt8} {N M : Int} (hz : zeroB [a, now, b] = false) (hN : N = 65535 - fold (psum [a, old, b])) (hM : M = chg N old now) :
    rightB [a, now, b, [hi M, lo M]] = true ∧ 0 ≤ N ∧ N ≤ 65535 ∧ 0 ≤ M ∧ M ≤ 65535 := by
  have f1 := fold_bd (psum [a, old, b])
  have hN0 : 0 ≤ N := by omega
  have hN1 : N ≤ 65535 := by omega
  rw [chg, if_pos ⟨hN0, hN1⟩] at hM
  have f2 := fold_bd (65535 - N + (65535 * (prs old.length : Int) - wall old) + wall now)
  have hM0 : 0 ≤ M := by omega
  have hM1 : M ≤ 65535 := by omega
  refine ⟨?_, hN0, hN1, hM0, hM1⟩
  have wa := wall_bd a; have wb := wall_bd b; have wn := wall_bd now
  have wo : 0 ≤ wall old ∧ wall old ≤ 65535 * (prs old.length : Int) := wsum_bd old _
  have p1 : psum [a, old, b] = wall a + wall old + wall b := by simp [psum]; omega
  have p2 : psum [a, now, b] = wall a + wall now + wall b := by simp [psum]; omega
  have p3 : psum [a, now, b, [hi M, lo M]] = wall a + wall now + wall b + M := by
    simp only [psum_cons]; rw [wall_pair, hi_lo hM0 hM1]; simp [psum]; omega
  have hpos : 0 < wall a + wall now + wall b := by
    rcases Int.lt_or_le 0 (wall a + wall now + wall b) with h | h
    · exact h
    · have e : psum [a, now, b] = 0 := by omega
      rw [psum_zero e] at hz
      cases hz
  obtain ⟨q1, e1, _, _⟩ := fold_spec (n := psum [a, old, b]) (by omega)
  obtain ⟨q2, e2, _, _⟩ := fold_spec (n := 65535 - N + (65535 * (prs old.length : Int) - wall old) + wall now) (by omega)
  obtain ⟨q3, e3, g3, u3⟩ := fold_spec (n := wall a + wall now + wall b + M) (by omega)
  have g3' := g3 (by omega)
  rw [rightB, p3, beq_iff_eq]
  generalize fold (wall a + wall now + wall b + M) = Y at *
  generalize fold (65535 - N + (65535 * (prs old.length : Int) - wall old) + wall now) = X at *
  generalize fold (psum [a, old, b]) = Z at *
  omega

/-- Three, or four, slices side by side. -/
theorem Rd2.three {w : World} {B g t n0 n1 n2 : Nat} {A0 A1 A2 : Option Addr} {c0 c1 c2 : Nat} {b0 b1 b2 : List UInt8} (h0 : n0 = b0.length) (h1 : n1 = b1.length) (h2 : n2 = b2.length)
    (hg : w.heap[g]? = some (.cells #[.slice A0 n0 c0, .slice A1 n1 c1, .slice A2 n2 c2] t (0, 0))) (hB : g < B) (a0 : Arg w B A0 c0 b0) (a1 : Arg w B A1 c1 b1) (a2 : Arg w B A2 c2 b2) : Rd2 w B (some ⟨g, 0, none⟩) [b0, b1, b2] := by
  subst h0; subst h1; subst h2
  refine Rd2.of_cells hg hB fun j b hj => ?_
  match j, hj with
  | 0, hj => simp at hj; subst hj; exact ⟨_, _, rfl, a0⟩
  | 1, hj => simp at hj; subst hj; exact ⟨_, _, rfl, a1⟩
  | 2, hj => simp at hj; subst hj; exact ⟨_, _, rfl, a2⟩
  | j + 3, hj => simp at hj
theorem Rd2.four {w : World} {B g t n0 n1 n2 n3 : Nat} {A0 A1 A2 A3 : Option Addr} {c0 c1 c2 c3 : Nat} {b0 b1 b2 b3 : List UInt8} (h0 : n0 = b0.length) (h1 : n1 = b1.length) (h2 : n2 = b2.length) (h3 : n3 = b3.length)
    (hg : w.heap[g]? = some (.cells #[.slice A0 n0 c0, .slice A1 n1 c1, .slice A2 n2 c2, .slice A3 n3 c3] t (0, 0))) (hB : g < B) (a0 : Arg w B A0 c0 b0) (a1 : Arg w B A1 c1 b1) (a2 : Arg w B A2 c2 b2) (a3 : Arg w B A3 c3 b3) : Rd2 w B (some ⟨g, 0, none⟩) [b0, b1, b2, b3] := by
  subst h0; subst h1; subst h2; subst h3
  refine Rd2.of_cells hg hB fun j b hj => ?_
  match j, hj with
  | 0, hj => simp at hj; subst hj; exact ⟨_, _, rfl, a0⟩
  | 1, hj => simp at hj; subst hj; exact ⟨_, _, rfl, a1⟩
  | 2, hj => simp at hj; subst hj; exact ⟨_, _, rfl, a2⟩
  | 3, hj => simp at hj; subst hj; exact ⟨_, _, rfl, a3⟩
  | j + 4, hj => simp at hj
theorem bulk3 (a b c : List UInt8) : bulk [a, b, c] = a.length + b.length + c.length := by simp [bulk]; omega
theorem bulk4 (a b c d : List UInt8) : bulk [a, b, c, d] = a.length + b.length + c.length + d.length := by simp [bulk]; omega
theorem two_heap (X : World) (o1 o2 : Obj) : ((X.alloc o1).alloc o2).heap[X.heap.size + 1]? = some o2 := by
  have := World.alloc_heap_new (X.alloc o1) o2
  rwa [World.size_alloc] at this
theorem Arg.of_pair {X : World} {u v : Int} {x y : UInt8} (t : TypeId) (h : u = (x.toNat : Int)) (h' : v = (y.toNat : Int)) (o : Obj) : Arg ((X.alloc (.cells #[.int .u8 u, .int .u8 v] t)).alloc o) (X.heap.size + 2) (some ⟨X.heap.size, 0, none⟩) 2 [x, y] :=
  ⟨((Rd.pair t h h').alloc (by simp) o).more (by omega), by simp, fun e => by cases e⟩
theorem Arg.two {X : World} {B : Nat} {A : Option Addr} {c : Nat} {bs : List UInt8} (h : Arg X B A c bs) (hB : B ≤ X.heap.size) (o1 o2 : Obj) : Arg ((X.alloc o1).alloc o2) (X.heap.size + 2) A c bs :=
  ((h.alloc hB o1).alloc (by simp; omega) o2).more (by omega)
end Go.Proofs.Ytpoigngpdcmipaa

/-
  Packets of IPv4, in plain lists of bytes: what may be, its bytes, what bytes are. No program. Conditions are each theorem's own.
-/
namespace Go.Proofs.Ytpoigngpdcmipaa
open Go.RowKit

/-- A packet of IPv4 as the document has it. -/
structure P4 where
  tos : Int
  id : Int
  off : Int
  ttl : Int
  proto : Int
  src : Int
  dst : Int
  df : Bool
  mf : Bool
  opt : List UInt8
  dat : List UInt8
/-- The packet of nothing. -/
def p4z : P4 := ⟨0, 0, 0, 0, 0, 0, 0, false, false, [], []⟩
def head4 (q : P4) : Int := 20 + (q.opt.length : Int)
def size4 (q : P4) : Int := head4 q + (q.dat.length : Int)
def whole4 (q : P4) : Bool := !q.mf && decide (q.off ≤ 0)
/-- What is wrong with a packet's fields. -/
def arg4 (q : P4) : Prop := 0 ≤ q.tos ∧ q.tos ≤ 255 ∧ 0 ≤ q.ttl ∧ q.ttl ≤ 255 ∧ 0 ≤ q.proto ∧ q.proto ≤ 255 ∧ 0 ≤ q.id ∧ q.id ≤ 65535 ∧ 0 ≤ q.src ∧ q.src < 4294967296 ∧ 0 ≤ q.dst ∧ q.dst < 4294967296 ∧
  0 ≤ q.off ∧ q.off ≤ 65528 ∧ q.off % 8 = 0 ∧ q.opt.length ≤ 40 ∧ q.opt.length % 4 = 0 ∧ (q.mf = true → q.dat.length % 8 = 0)
instance (q : P4) : Decidable (arg4 q) := by unfold arg4; infer_instance
def chk4 (q : P4) : Int := if arg4 q then (if size4 q > 65535 ∨ q.off > 65535 - (q.dat.length : Int) then 6 else 0) else 1
/-- A byte of a number. -/
def u8 (n : Int) : UInt8 := UInt8.ofNat (n % 256).toNat
theorem u8_val (n : Int) : ((u8 n).toNat : Int) = n % 256 := by simp only [u8, UInt8.toNat_ofNat']; omega
def bit (b : Bool) (n : Int) : Int := if b then n else 0
def flags4 (q : P4) : Int := q.off / 8 + bit q.df 16384 + bit q.mf 8192
/-- Two bytes, four bytes of a number. -/
def be2 (n : Int) : List UInt8 := [u8 (n / 256), u8 n]
def be4 (n : Int) : List UInt8 := [u8 (n / 16777216), u8 (n / 65536), u8 (n / 256), u8 n]
theorem u8_dig {n : Int} (h : 0 ≤ n) (s i : Nat) : dig n s i = u8 (n / pw (s - 1 - i)) := by
  apply UInt8.toNat_inj.1
  have h1 := dig_val h s i
  have h2 := u8_val (n / pw (s - 1 - i))
  omega
theorem digs_two {n : Int} (h : 0 ≤ n) : digs n 2 = be2 n := by
  simp [digs, be2, List.range_succ, u8_dig h, pw]
theorem digs_four {n : Int} (h : 0 ≤ n) : digs n 4 = be4 n := by
  simp [digs, be4, List.range_succ, u8_dig h, pw]
/-- The head's first ten bytes, and what stands behind the sum. -/
def hda (q : P4) (size : Int) : List UInt8 := [u8 (64 + head4 q / 4), u8 q.tos, u8 (size / 256), u8 size, u8 (q.id / 256), u8 q.id, u8 (flags4 q / 256), u8 (flags4 q), u8 q.ttl, u8 q.proto]
def hdb (q : P4) : List UInt8 := [u8 (q.src / 16777216), u8 (q.src / 65536), u8 (q.src / 256), u8 q.src, u8 (q.dst / 16777216), u8 (q.dst / 65536), u8 (q.dst / 256), u8 q.dst] ++ q.opt
def hd4 (q : P4) (size sum : Int) : List UInt8 := hda q size ++ be2 sum ++ hdb q
def sum4 (q : P4) : Int := 65535 - fold (psum [hd4 q (size4 q) 0])
def bld4 (q : P4) : List UInt8 := hd4 q (size4 q) (sum4 q) ++ q.dat
theorem hd4_len (q : P4) (size sum : Int) : (hd4 q size sum).length = 20 + q.opt.length := by simp [hd4, hda, hdb, be2]; omega
theorem bld4_len (q : P4) : (bld4 q).length = 20 + q.opt.length + q.dat.length := by rw [bld4, List.length_append, hd4_len]

/-- The sum of bytes whose first part is of even length. -/
theorem wall_append {a b : List UInt8} {m : Nat} (h : a.length = 2 * m) : wall (a ++ b) = wall a + wall b := by
  have e1 : prs (a ++ b).length = m + prs b.length := by rw [List.length_append, h]; unfold prs; omega
  have e2 : prs a.length = m := by rw [h]; unfold prs; omega
  have key : ∀ k, wsum (a ++ b) (m + k) = wsum a m + wsum b k := by
    intro k
    induction k with
    | zero => rw [Nat.add_zero, wsum_left (by omega)]; simp [wsum]
    | succ k ih =>
      rw [← Nat.add_assoc, wsum_succ, wsum_succ, ih]
      have e3 : wrd (a ++ b) (m + k) = wrd b k := by
        have h0 := byt_right (a := a) (b := b) (j := 2 * k)
        have h1 := byt_right (a := a) (b := b) (j := 2 * k + 1)
        rw [h] at h0 h1
        rw [wrd, wrd, show 2 * (m + k) = 2 * m + 2 * k from by omega, h0, show 2 * m + 2 * k + 1 = 2 * m + (2 * k + 1) from by omega, h1]
      rw [e3]; omega
  rw [wall, wall, wall, e1, e2, key]
theorem be2_wall {n : Int} (h0 : 0 ≤ n) (h1 : n ≤ 65535) : wall (be2 n) = n := by
  rw [be2, wall_pair, u8_val, u8_val]; omega
theorem sum4_bd (q : P4) : 0 ≤ sum4 q ∧ sum4 q ≤ 65535 := by have := fold_bd (psum [hd4 q (size4 q) 0]); unfold sum4; omega
theorem head_right (q : P4) : rightB [hd4 q (size4 q) (sum4 q)] = true := by
  have hb := sum4_bd q
  have w : ∀ s, 0 ≤ s → s ≤ 65535 → psum [hd4 q (size4 q) s] = wall (hda q (size4 q)) + s + wall (hdb q) := fun s h0 h1 => by
    have : psum [hd4 q (size4 q) s] = wall (hd4 q (size4 q) s) := by simp [psum]
    rw [this, hd4, wall_append (m := 6) (by simp [hda, be2]), wall_append (m := 5) (by simp [hda]), be2_wall h0 h1]
  have w0 := w 0 (by omega) (by omega)
  have w1 := w (sum4 q) hb.1 hb.2
  have hs : sum4 q = 65535 - fold (psum [hd4 q (size4 q) 0]) := rfl
  have ha := (wall_bd (hda q (size4 q))).1
  have hc := (wall_bd (hdb q)).1
  rw [rightB, w1, show wall (hda q (size4 q)) + sum4 q + wall (hdb q) = (wall (hda q (size4 q)) + wall (hdb q)) + (65535 - fold (wall (hda q (size4 q)) + wall (hdb q))) from by rw [hs, w0]; simp only [Int.add_zero]; omega,
    fold_right (by omega)]
  rfl

/-- The number of two, of four bytes at a place. -/
def n2 (b : List UInt8) (i : Nat) : Int := byt b i * 256 + byt b (i + 1)
def n4 (b : List UInt8) (i : Nat) : Int := ((byt b i * 256 + byt b (i + 1)) * 256 + byt b (i + 2)) * 256 + byt b (i + 3)
def hlen (b : List UInt8) : Int := byt b 0 % 16 * 4
/-- The packet whose head bytes are, with data. -/
def fl4 (b dat : List UInt8) : P4 := ⟨byt b 1, n2 b 4, n2 b 6 % 8192 * 8, byt b 8, byt b 9, n4 b 12, n4 b 16, decide (n2 b 6 / 16384 % 2 = 1), decide (n2 b 6 / 8192 % 2 = 1), (b.take (hlen b).toNat).drop 20, dat⟩
/-- What is wrong with bytes; nothing: 0. -/
def bad4 (b : List UInt8) (quoted : Bool) : Int :=
  if b.length < 20 then 3
  else if byt b 0 / 16 ≠ 4 ∨ hlen b < 20 then 4
  else if hlen b > (b.length : Int) ∨ (quoted = false ∧ n2 b 2 > (b.length : Int)) then 3
  else if n2 b 2 < hlen b ∨ n2 b 6 ≥ 32768 then 4
  else if quoted = false ∧ rightB [b.take (hlen b).toNat] = false then 5
  else 0
def raw4 (b : List UInt8) : P4 := fl4 b ((b.take (min (n2 b 2) (b.length : Int)).toNat).drop (hlen b).toNat)
def prsE (b : List UInt8) (quoted : Bool) : Int := if bad4 b quoted = 0 then (if quoted = false ∧ chk4 (raw4 b) ≠ 0 then 4 else 0) else bad4 b quoted
def prsV (b : List UInt8) (quoted : Bool) : P4 := if prsE b quoted = 0 then raw4 b else p4z
end Go.Proofs.Ytpoigngpdcmipaa

/-
  Packets that came in, opened: what a walk is told of each field. Conditions are each theorem's own.
-/
namespace Go.Proofs.Ytpoigngpdcmipaa
open Go.RowKit Go.ChangeShapes Go.WideShapes

theorem piece_get {l : List Value} {i : Nat} {x : Value} (h : (l.drop i).take 1 = [x]) : l[i]? = some x := by
  have h0 := congrArg (·[0]?) h
  simpa [List.getElem?_take, List.getElem?_drop] using h0
section
variable {H : Type} {enc : TypeId × Value → H} {P : Program} {w : World} {base : Nat} {t e : TypeId} {v : Value} {d : DataW H} {p : List MemPlace} {x : DataW H × List MemPlace} {n : Nat} {l : List Value}
theorem cell_int {k : IntKind} (ht : P.underlying t = some (.int k)) (h : DataW.trod enc P w 0 (fun _ => true) true n t l = some x) : ∃ m, l = [.int k m] ∧ (Lit.int k m).wf = true := by
  obtain ⟨m, hm, _, hw⟩ := DataW.trod_int ht h
  exact ⟨m, hm, hw⟩
theorem cell_bool (ht : P.underlying t = some .bool) (h : DataW.trod enc P w 0 (fun _ => true) true n t l = some x) : ∃ b, l = [.bool b] := by
  obtain ⟨b, hb, _⟩ := DataW.trod_bool ht h
  exact ⟨b, hb⟩
theorem cell_bytes (ht : P.underlying t = some (.slice e)) (he : P.underlying e = some (.int .u8)) (hc : P.cellsOf e = 1) (h : DataW.trod enc P w 0 (fun _ => true) true n t l = some x) :
    ∃ A c bs, l = [.slice A bs.length c] ∧ Arg w w.heap.size A c bs ∧ c ≤ maxLen := by
  rcases open_ints ht he hc h with ⟨hcs, _⟩ | ⟨y, m, c, zs, hcs, _, hl, hm, hz, _, hcell, hwz⟩
  · exact ⟨none, 0, [], hcs, Arg.nil _ _, Nat.zero_le _⟩
  · obtain ⟨bs, rfl, ha⟩ := arg_of_row (w := w) (a := some y) (len := m) (cap := c) (zs := zs) (.inr ⟨y, rfl, hl, hm, by simpa using hz, hcell, hwz⟩)
    exact ⟨some y, c, bs, hcs, ha, hm⟩
end

/-- A packet's value: where its two slices lie. -/
def v4v (q : P4) (A : Option Addr) (c : Nat) (A' : Option Addr) (c' : Nat) : Value :=
  .agg #[.int .i64 q.tos, .int .i64 q.id, .int .i64 q.off, .int .i64 q.ttl, .int .i64 q.proto, .int .i64 q.src, .int .i64 q.dst, .bool q.df, .bool q.mf, .slice A q.opt.length c, .slice A' q.dat.length c']
/-- Its numbers fit. -/
def P4.fits (q : P4) : Prop := ∀ n ∈ [q.tos, q.id, q.off, q.ttl, q.proto, q.src, q.dst], (Lit.int .i64 n).wf = true
/-- A packet of IPv6, and its value. -/
structure P6 where
  traffic : Int
  flow : Int
  next : Int
  hop : Int
  src : List UInt8
  dst : List UInt8
  dat : List UInt8
def v6l (q : P6) (A : Option Addr) (c : Nat) : List Value := [Value.int .i64 q.traffic, Value.int .i64 q.flow, Value.int .i64 q.next, Value.int .i64 q.hop] ++ row q.src ++ row q.dst ++ [Value.slice A q.dat.length c]
def v6v (q : P6) (A : Option Addr) (c : Nat) : Value := .agg (v6l q A c).toArray
def P6.fits (q : P6) : Prop := ∀ n ∈ [q.traffic, q.flow, q.next, q.hop], (Lit.int .i64 n).wf = true
/-- A fragment header, and its value. -/
structure F6 where
  next : Int
  off : Int
  id : Int
  more : Bool
def frv (q : F6) : Value := .agg #[.int .i64 q.next, .int .i64 q.off, .int .i64 q.id, .bool q.more]
def F6.fits (q : F6) : Prop := ∀ n ∈ [q.next, q.off, q.id], (Lit.int .i64 n).wf = true
section
variable {H : Type} {enc : TypeId × Value → H} {w : World} {base : Nat} {v : Value} {d : DataW H} {p : List MemPlace}
end
end Go.Proofs.Ytpoigngpdcmipaa

/-
  Texts of numbers and of addresses of IPv4, in plain lists of bytes: no program. Conditions are each theorem's own.
-/
namespace Go.Proofs.Ytpoigngpdcmipaa

/-- A number below 256 in decimal digits. -/
def dec (n : Nat) : List UInt8 :=
  if n < 10 then [UInt8.ofNat (48 + n)] else if n < 100 then [UInt8.ofNat (48 + n / 10), UInt8.ofNat (48 + n % 10)] else [UInt8.ofNat (48 + n / 100), UInt8.ofNat (48 + n / 10 % 10), UInt8.ofNat (48 + n % 10)]
/-- An address's text. -/
def txt (a : Nat) : List UInt8 := dec (a / 16777216) ++ [46] ++ dec (a / 65536 % 256) ++ [46] ++ dec (a / 256 % 256) ++ [46] ++ dec (a % 256)

theorem dec_len {n : Nat} : 1 ≤ (dec n).length ∧ (dec n).length ≤ 3 := by
  unfold dec; split
  · simp
  · split <;> simp
theorem txt_len {a : Nat} : (txt a).length ≤ 15 := by
  have h1 := @dec_len (a / 16777216); have h2 := @dec_len (a / 65536 % 256); have h3 := @dec_len (a / 256 % 256); have h4 := @dec_len (a % 256)
  simp only [txt, List.length_append, List.length_singleton]; omega

/-- One step of reading a text: the parts that are done, and the part under way. -/
def pst (s : Option (Nat × Nat)) (c : UInt8) : Option (Nat × Nat) :=
  match s with
  | none => none
  | some (n, p) =>
    if c = 46 then (if n * 256 + p ≤ 16777215 then some (n * 256 + p, 0) else none)
    else if 48 ≤ c.toNat ∧ c.toNat ≤ 57 then (if p * 10 + (c.toNat - 48) ≤ 255 ∧ n ≤ 16777215 then some (n, p * 10 + (c.toNat - 48)) else none)
    else none
def pfold (s : Option (Nat × Nat)) (l : List UInt8) : Option (Nat × Nat) := l.foldl pst s
theorem pfold_append (s : Option (Nat × Nat)) (a b : List UInt8) : pfold s (a ++ b) = pfold (pfold s a) b := by simp [pfold]
theorem pfold_none (l : List UInt8) : pfold none l = none := by
  induction l with
  | nil => rfl
  | cons c l ih => simpa [pfold, pst] using ih

theorem pst_digit {n p d : Nat} (hd : d < 10) (hn : n ≤ 16777215) (hp : p * 10 + d ≤ 255) : pst (some (n, p)) (UInt8.ofNat (48 + d)) = some (n, p * 10 + d) := by
  have e : (UInt8.ofNat (48 + d)).toNat = 48 + d := by simp [UInt8.toNat_ofNat']; omega
  have h46 : UInt8.ofNat (48 + d) ≠ 46 := by intro h; have := congrArg UInt8.toNat h; rw [e] at this; simp at this; omega
  unfold pst
  simp only [h46, if_false, e]
  rw [if_pos (by omega), if_pos (by omega)]
  congr 2; omega
theorem pst_dot {n p : Nat} (h : n * 256 + p ≤ 16777215) : pst (some (n, p)) 46 = some (n * 256 + p, 0) := by simp [pst, h]
theorem pfold_dec {n d : Nat} (hn : n ≤ 16777215) (hd : d < 256) : pfold (some (n, 0)) (dec d) = some (n, d) := by
  unfold dec
  split
  · simp only [pfold, List.foldl_cons, List.foldl_nil]; rw [pst_digit (by omega) hn (by omega)]; congr 2; omega
  · split
    · simp only [pfold, List.foldl_cons, List.foldl_nil]
      rw [pst_digit (by omega) hn (by omega), pst_digit (by omega) hn (by omega)]; congr 2; omega
    · simp only [pfold, List.foldl_cons, List.foldl_nil]
      rw [pst_digit (by omega) hn (by omega), pst_digit (by omega) hn (by omega), pst_digit (by omega) hn (by omega)]; congr 2; omega
theorem pfold_txt {a : Nat} (h : a < 4294967296) : pfold (some (0, 0)) (txt a) = some (a / 256, a % 256) := by
  have dot : ∀ s, pfold s [46] = pst s 46 := fun s => rfl
  simp only [txt, pfold_append, dot]
  rw [pfold_dec (by omega) (by omega), pst_dot (by omega), pfold_dec (by omega) (by omega), pst_dot (by omega), pfold_dec (by omega) (by omega), pst_dot (by omega), pfold_dec (by omega) (by omega)]
  congr 2; omega
theorem pfold_bd : ∀ (l : List UInt8) {n p : Nat} {n0 p0 : Nat}, n0 ≤ 16777215 → p0 ≤ 255 → pfold (some (n0, p0)) l = some (n, p) → n ≤ 16777215 ∧ p ≤ 255
  | [], n, p, n0, p0, h1, h2, h => by simp [pfold] at h; omega
  | c :: l, n, p, n0, p0, h1, h2, h => by
    have h' : pfold (pst (some (n0, p0)) c) l = some (n, p) := h
    cases e : pst (some (n0, p0)) c with
    | none => rw [e, pfold_none] at h'; cases h'
    | some q =>
      obtain ⟨n1, p1⟩ := q
      rw [e] at h'
      refine pfold_bd l ?_ ?_ h'
      all_goals
        unfold pst at e
        dsimp only at e
        split at e
        · split at e
          · simp at e; omega
          · cases e
        · split at e
          · split at e
            · simp at e; omega
            · cases e
          · cases e
theorem txt_inj {a b : Nat} (ha : a < 4294967296) (hb : b < 4294967296) (h : txt a = txt b) : a = b := by
  have h1 := pfold_txt ha
  rw [h, pfold_txt hb] at h1
  simp at h1; omega

theorem pst_no {n p : Nat} {c : UInt8} (h : (c.toNat = 46 ∧ 16777215 < n * 256 + p) ∨ (c.toNat ≠ 46 ∧ (c.toNat < 48 ∨ 57 < c.toNat)) ∨ (c.toNat ≠ 46 ∧ 255 < p * 10 + (c.toNat - 48))) : pst (some (n, p)) c = none := by
  have h46 : c = 46 ↔ c.toNat = 46 := ⟨fun e => by rw [e]; rfl, fun e => UInt8.toNat_inj.1 e⟩
  unfold pst
  dsimp only
  split
  · rw [if_neg (by rw [h46] at *; omega)]
  · split
    · rw [if_neg (by rw [h46] at *; omega)]
    · rfl
theorem pst_46 {n p : Nat} {c : UInt8} (h : c.toNat = 46) (h2 : n * 256 + p ≤ 16777215) : pst (some (n, p)) c = some (n * 256 + p, 0) := by
  have : c = 46 := UInt8.toNat_inj.1 h
  subst this; exact pst_dot h2
theorem pst_dec {n p : Nat} {c : UInt8} (h : 48 ≤ c.toNat) (h2 : c.toNat ≤ 57) (h3 : p * 10 + (c.toNat - 48) ≤ 255) (hn : n ≤ 16777215) : pst (some (n, p)) c = some (n, p * 10 + (c.toNat - 48)) := by
  have e : c = UInt8.ofNat (48 + (c.toNat - 48)) := UInt8.toNat_inj.1 (by simp [UInt8.toNat_ofNat']; omega)
  have := pst_digit (n := n) (p := p) (d := c.toNat - 48) (by omega) hn h3
  rw [← e] at this
  exact this
theorem pfold_take {l : List UInt8} {k : Nat} {s : Option (Nat × Nat)} (h : k < l.length) : pfold s (l.take (k + 1)) = pst (pfold s (l.take k)) l[k] := by
  rw [List.take_succ_eq_append_getElem h, pfold_append]; rfl

/-- The address that a text is, and the error's number. -/
noncomputable def parV (s : List UInt8) : Int := by
  classical exact if h : ∃ a, a < 4294967296 ∧ txt a = s then (Classical.choose h : Nat) else 0
noncomputable def parE (s : List UInt8) : Int := by
  classical exact if ∃ a, a < 4294967296 ∧ txt a = s then 0 else 4
theorem par_yes {s : List UInt8} {a : Nat} (ha : a < 4294967296) (h : txt a = s) : parV s = a ∧ parE s = 0 := by
  have hex : ∃ a, a < 4294967296 ∧ txt a = s := ⟨a, ha, h⟩
  unfold parV parE
  rw [dif_pos hex, if_pos hex]
  obtain ⟨h1, h2⟩ := Classical.choose_spec hex
  have : Classical.choose hex = a := txt_inj h1 ha (h2.trans h.symm)
  exact ⟨by rw [this], rfl⟩
theorem par_no {s : List UInt8} (h : ¬ ∃ a, a < 4294967296 ∧ txt a = s) : parV s = 0 ∧ parE s = 4 := by
  unfold parV parE
  rw [dif_neg h, if_neg h]; exact ⟨rfl, rfl⟩
/-- What reading tells: nothing, and it is no text. -/
theorem par_none {s : List UInt8} {k : Nat} (h : pfold (some (0, 0)) (s.take k) = none) : parV s = 0 ∧ parE s = 4 := by
  refine par_no fun ⟨a, ha, e⟩ => ?_
  have h1 := pfold_txt ha
  rw [e, ← List.take_append_drop k s, pfold_append, h, pfold_none] at h1
  cases h1
theorem par_long {s : List UInt8} (h : 15 < s.length) : parV s = 0 ∧ parE s = 4 :=
  par_no fun ⟨a, _, e⟩ => by have := @txt_len a; rw [e] at this; omega
/-- A number, and the text is its text, or no text at all. -/
theorem par_end {s : List UInt8} {n p : Nat} (h : pfold (some (0, 0)) s = some (n, p)) : (txt (n * 256 + p) = s → parV s = ((n * 256 + p : Nat) : Int) ∧ parE s = 0) ∧ (txt (n * 256 + p) ≠ s → parV s = 0 ∧ parE s = 4) := by
  have hb := pfold_bd s (by omega) (by omega) h
  refine ⟨fun e => par_yes (by omega) e, fun hne => par_no fun ⟨a, ha, e⟩ => hne ?_⟩
  have h1 := pfold_txt ha
  rw [e, h] at h1
  simp at h1
  have : n * 256 + p = a := by omega
  rw [this]; exact e
/-- A text is an address's, or none's. -/
theorem par_cases (s : List UInt8) : (∃ a : Nat, a < 4294967296 ∧ txt a = s ∧ parV s = a ∧ parE s = 0) ∨ (parV s = 0 ∧ parE s = 4) := by
  by_cases h : ∃ a, a < 4294967296 ∧ txt a = s
  · obtain ⟨a, ha, e⟩ := h
    exact .inl ⟨a, ha, e, par_yes ha e⟩
  · exact .inr (par_no h)
end Go.Proofs.Ytpoigngpdcmipaa

/-
  Contracts of the document's plain answers of layer 3: Right, Text, Parse, Host, Private. Conditions are each theorem's own.
-/
namespace Go.Proofs.Ytpoigngpdcmipaa
open Go.RowKit

theorem ten_cut {m : Nat} (h : m < 10) : ({ data := #[48, 49, 50, 51, 52, 53, 54, 55, 56, 57] } : ByteArray).extract m (m + 1) = strB [UInt8.ofNat (48 + m)] := by
  have : m = 0 ∨ m = 1 ∨ m = 2 ∨ m = 3 ∨ m = 4 ∨ m = 5 ∨ m = 6 ∨ m = 7 ∨ m = 8 ∨ m = 9 := by omega
  rcases this with rfl | rfl | rfl | rfl | rfl | rfl | rfl | rfl | rfl | rfl <;> decide

theorem dec_ten {n : Nat} (h : 10 ≤ n) (h2 : n < 256) : dec (n / 10) ++ [UInt8.ofNat (48 + n % 10)] = dec n := by
  by_cases h3 : n < 100
  · rw [dec, if_pos (by omega), dec, if_neg (by omega), if_pos h3]; rfl
  · rw [dec, if_neg (by omega), if_pos (by omega), dec, if_neg (by omega), if_neg h3]
    rw [show n / 10 / 10 = n / 100 from by omega]; rfl
/-- Is a number an address? A plain definition. -/
def okB (a : Int) : Bool := decide (0 ≤ a ∧ a < 4294967296)
/-- The text of any number. -/
def txtI (a : Int) : List UInt8 := if 0 ≤ a ∧ a < 4294967296 then txt a.toNat else []
end Go.Proofs.Ytpoigngpdcmipaa

/-
  Contracts of the document's plain answers of layer 5: Head, Size, Whole, Check, Same. Conditions are each theorem's own.
-/
namespace Go.Proofs.Ytpoigngpdcmipaa
open Go.RowKit

/-- A packet's cells. -/
def v4a (q : P4) (A : Option Addr) (c : Nat) (A' : Option Addr) (c' : Nat) : Array Value :=
  #[.int .i64 q.tos, .int .i64 q.id, .int .i64 q.off, .int .i64 q.ttl, .int .i64 q.proto, .int .i64 q.src, .int .i64 q.dst, .bool q.df, .bool q.mf, .slice A q.opt.length c, .slice A' q.dat.length c']
section
variable (q : P4) (A : Option Addr) (c : Nat) (A' : Option Addr) (c' : Nat) (w : World)
end
end Go.Proofs.Ytpoigngpdcmipaa

/-
  A region that draws its order, whose operations leave what was there as it was: its walk step by step. Conditions are each theorem's own.
-/
namespace Go.Proofs.Ytpoigngpdcmipaa
open Go.RowKit

theorem range_below {w w' : World} {b o B : Nat} {cs : List Value} (h : w.rangeAt b o cs) (hB : b < B) (hb : Below B w w') : w'.rangeAt b o cs := fun j v hj => by
  rw [hb.cell hB]; exact h j v hj
theorem held_pure {P : Program} {ops : Array Oper} {Q : Exit → Act → World → Prop} {md : Region.Mode} {S : World → Prop} {i : Nat} {oi : Oper} {v : Value} {fuel : Nat} {listed : Array Bool} {a : Act} {w : World} (hi : ops[i]? = some oi)
    (hs : Region.noSelect ops = true) (hf : Region.free md ops listed i = true) (hr : (Region.ready md ops listed).contains i = true)
    (hQ : ∀ c a w, Q (.panic c) (a.put oi.dst v) w → Q (.panic c) a w) (hw : Region.wanted oi (yielded ops a.tmps) = true)
    (hrun : ∀ w, S w → (execOp a.eval oi).run P w = .ok (.value v) w) (hS : S w)
    (h : S w → wpAnyH P md ops Q S fuel (listed.setIfInBounds i true) (a.put oi.dst v) w) : wpAnyH P md ops Q S (fuel + 1) listed a w :=
  wpAnyH_take hi hs hf hr hQ (.inl ⟨hw, hrun⟩) hS (h hS)
theorem held_skip {P : Program} {ops : Array Oper} {Q : Exit → Act → World → Prop} {md : Region.Mode} {S : World → Prop} {i : Nat} {oi : Oper} {fuel : Nat} {listed : Array Bool} {a : Act} {w : World} (hi : ops[i]? = some oi)
    (hs : Region.noSelect ops = true) (hf : Region.free md ops listed i = true) (hr : (Region.ready md ops listed).contains i = true)
    (hQ : ∀ c a w, Q (.panic c) (a.put oi.dst undef) w → Q (.panic c) a w) (hw : Region.wanted oi (yielded ops a.tmps) = false) (hS : S w)
    (h : S w → wpAnyH P md ops Q S fuel (listed.setIfInBounds i true) (a.put oi.dst undef) w) : wpAnyH P md ops Q S (fuel + 1) listed a w :=
  wpAnyH_take hi hs hf hr hQ (.inr ⟨hw, rfl⟩) hS (h hS)
/-- What a class of worlds 'as w0 below its end' hands on. -/
theorem below_step {w0 w w' : World} (h : Below w0.heap.size w0 w) (hb : Below w.heap.size w w') : Below w0.heap.size w0 w' := h.trans (hb.mono h.size)
/-- Two new blocks, a draw, three calls. -/
theorem chain4 {w w1 w2 w3 w4 : World} {x y : Obj} (b1 : Below w.heap.size w w1) (b2 : Below ((w1.alloc x).alloc y).drew.heap.size ((w1.alloc x).alloc y).drew w2) (b3 : Below w2.heap.size w2 w3) (b4 : Below w3.heap.size w3 w4) : Below w.heap.size w w4 := by
  have h1 : ((w1.alloc x).alloc y).drew.heap.size = w1.heap.size + 2 := by show ((w1.alloc x).alloc y).heap.size = _; simp
  have s1 := b1.size
  have s2 := b2.size
  have s3 := b3.size
  have hX : Below w.heap.size w ((w1.alloc x).alloc y).drew := ((b1.alloc s1 x).alloc (by simp; omega) y).drew
  exact ((hX.trans (b2.mono (by omega))).trans (b3.mono (by omega))).trans (b4.mono (by omega))
theorem ints_new (w : World) (zs : List Int) (t : TypeId) : RdI (w.alloc (.cells (zs.map (Value.int .i64)).toArray t)).drew (w.heap.size + 1) (some ⟨w.heap.size, 0, none⟩) zs := fun _ =>
  ⟨w.heap.size, 0, rfl, Nat.lt_succ_self _, fun j hj => by
    show (w.alloc (.cells (zs.map (Value.int .i64)).toArray t)).cell? _ = _
    rw [Nat.zero_add, World.cell?_alloc_new, List.getElem?_toArray, List.getElem?_map, List.getElem?_eq_getElem hj, List.getD_eq_getElem?_getD, List.getElem?_eq_getElem hj]; rfl⟩
end Go.Proofs.Ytpoigngpdcmipaa

/-
  Reads out of a packet's block, for walks of regions that draw their order. Conditions are each theorem's own.
-/
namespace Go.Proofs.Ytpoigngpdcmipaa
open Go.RowKit

theorem run_load_sl {o : Oper} {a : Act} {w : World} {x : Operand} {p : Addr} {A : Option Addr} {n c : Nat} (ho : o.op = .load 31 x) (hx : a.eval x = .pointer (some p)) (hc : w.cell? p = some (.slice A n c)) :
    (execOp a.eval o).run Try.prog w = .ok (.value (.slice A n c)) w := by
  unfold execOp
  simp only [ho, hx, Instr.loadAt, Instr.sureAddr, Sem.run_bind, Sem.run_pure, Result.andThen_ok]
  go_simp
theorem run_load_int {o : Oper} {a : Act} {w : World} {x : Operand} {p : Addr} {n : Int} (ho : o.op = .load 3 x) (hx : a.eval x = .pointer (some p)) (hc : w.cell? p = some (.int .i64 n)) :
    (execOp a.eval o).run Try.prog w = .ok (.value (.int .i64 n)) w := by
  unfold execOp
  simp only [ho, hx, Instr.loadAt, Instr.sureAddr, Sem.run_bind, Sem.run_pure, Result.andThen_ok]
  go_simp
theorem run_load_bool {o : Oper} {a : Act} {w : World} {x : Operand} {p : Addr} {b : Bool} (ho : o.op = .load 4 x) (hx : a.eval x = .pointer (some p)) (hc : w.cell? p = some (.bool b)) :
    (execOp a.eval o).run Try.prog w = .ok (.value (.bool b)) w := by
  unfold execOp
  simp only [ho, hx, Instr.loadAt, Instr.sureAddr, Sem.run_bind, Sem.run_pure, Result.andThen_ok]
  go_simp
/-- A packet that lies in a block of its own. -/
def At4 (W : World) (g : Nat) (q : P4) (A : Option Addr) (c : Nat) (A' : Option Addr) (c' : Nat) : Prop := W.rangeAt g 0 (v4a q A c A' c').toList
section
variable {W : World} {g : Nat} {q : P4} {A A' : Option Addr} {c c' : Nat}
theorem At4.below {w : World} {B : Nat} (h : At4 W g q A c A' c') (hb : Below B W w) (hg : g < B) : At4 w g q A c A' c' := range_below h hg hb
theorem At4.drewN {n : Nat} (h : At4 W g q A c A' c') : At4 (W.drewN n) g q A c A' c' := h
theorem At4.tos (h : At4 W g q A c A' c') : W.cell? ⟨g, 0, none⟩ = some (.int .i64 q.tos) := h 0 _ rfl
theorem At4.id (h : At4 W g q A c A' c') : W.cell? ⟨g, 1, none⟩ = some (.int .i64 q.id) := h 1 _ rfl
theorem At4.off (h : At4 W g q A c A' c') : W.cell? ⟨g, 2, none⟩ = some (.int .i64 q.off) := h 2 _ rfl
theorem At4.ttl (h : At4 W g q A c A' c') : W.cell? ⟨g, 3, none⟩ = some (.int .i64 q.ttl) := h 3 _ rfl
theorem At4.proto (h : At4 W g q A c A' c') : W.cell? ⟨g, 4, none⟩ = some (.int .i64 q.proto) := h 4 _ rfl
theorem At4.src (h : At4 W g q A c A' c') : W.cell? ⟨g, 5, none⟩ = some (.int .i64 q.src) := h 5 _ rfl
theorem At4.dst (h : At4 W g q A c A' c') : W.cell? ⟨g, 6, none⟩ = some (.int .i64 q.dst) := h 6 _ rfl
theorem At4.df (h : At4 W g q A c A' c') : W.cell? ⟨g, 7, none⟩ = some (.bool q.df) := h 7 _ rfl
theorem At4.mf (h : At4 W g q A c A' c') : W.cell? ⟨g, 8, none⟩ = some (.bool q.mf) := h 8 _ rfl
theorem At4.opt (h : At4 W g q A c A' c') : W.cell? ⟨g, 9, none⟩ = some (.slice A q.opt.length c) := h 9 _ rfl
theorem At4.dat (h : At4 W g q A c A' c') : W.cell? ⟨g, 10, none⟩ = some (.slice A' q.dat.length c') := h 10 _ rfl
end
end Go.Proofs.Ytpoigngpdcmipaa

/-
  Contracts of the document's plain answers of layer 5: Size, Check. Conditions are each theorem's own.
-/
namespace Go.Proofs.Ytpoigngpdcmipaa
open Go.RowKit

section
variable (q : P4) (A : Option Addr) (c : Nat) (A' : Option Addr) (c' : Nat) (w : World)
def fieldsB (q : P4) : Bool := fitsB q.tos 1 && fitsB q.ttl 1 && fitsB q.proto 1 && fitsB q.id 2
def placesB (q : P4) : Bool := okB q.src && okB q.dst && decide (0 ≤ q.off) && decide (q.off ≤ 65528) && decide (q.off % 8 = 0)
def optsB (q : P4) : Bool := decide (q.opt.length ≤ 40) && decide (q.opt.length % 4 = 0)
theorem arg4_iff (q : P4) : arg4 q ↔ fieldsB q = true ∧ placesB q = true ∧ optsB q = true ∧ (q.mf = true → q.dat.length % 8 = 0) := by
  unfold arg4 fieldsB placesB optsB
  simp only [Bool.and_eq_true, fitsB_iff, okB, decide_eq_true_eq, pw]
  constructor
  · rintro ⟨a1, a2, a3, a4, a5, a6, a7, a8, a9, a10, a11, a12, a13, a14, a15, a16, a17, a18⟩
    refine ⟨⟨⟨⟨?_, ?_⟩, ?_⟩, ?_⟩, ⟨⟨⟨⟨?_, ?_⟩, ?_⟩, ?_⟩, ?_⟩, ⟨?_, ?_⟩, a18⟩ <;> (try simp) <;> omega
  · rintro ⟨⟨⟨⟨f1, f2⟩, f3⟩, f4⟩, ⟨⟨⟨⟨p1, p2⟩, p3⟩, p4⟩, p5⟩, ⟨o1, o2⟩, hm⟩
    simp at f1 f2 f3 f4
    refine ⟨?_, ?_, ?_, ?_, ?_, ?_, ?_, ?_, ?_, ?_, ?_, ?_, ?_, ?_, ?_, ?_, ?_, hm⟩ <;> omega
end
end Go.Proofs.Ytpoigngpdcmipaa

/-
  Contracts of the document's plain answers of layer 5: Same, num. Conditions are each theorem's own.
-/
namespace Go.Proofs.Ytpoigngpdcmipaa
open Go.RowKit

/-- Are two packets the same? A plain definition. -/
def same4 (q r : P4) : Bool := (q.tos == r.tos && q.id == r.id && q.off == r.off && q.ttl == r.ttl && q.proto == r.proto && q.src == r.src && q.dst == r.dst) && (q.df == r.df) && (q.mf == r.mf) && decide (q.opt = r.opt) && decide (q.dat = r.dat)
theorem same4_iff {q r : P4} : same4 q r = true ↔ q = r := by
  obtain ⟨a0, a1, a2, a3, a4, a5, a6, a7, a8, a9, a10⟩ := q
  obtain ⟨b0, b1, b2, b3, b4, b5, b6, b7, b8, b9, b10⟩ := r
  simp only [same4, Bool.and_eq_true, beq_iff_eq, decide_eq_true_eq, P4.mk.injEq]
  constructor
  · rintro ⟨⟨⟨⟨⟨⟨⟨⟨⟨⟨h0, h1⟩, h2⟩, h3⟩, h4⟩, h5⟩, h6⟩, h7⟩, h8⟩, h9⟩, h10⟩; exact ⟨h0, h1, h2, h3, h4, h5, h6, h7, h8, h9, h10⟩
  · rintro ⟨h0, h1, h2, h3, h4, h5, h6, h7, h8, h9, h10⟩; exact ⟨⟨⟨⟨⟨⟨⟨⟨⟨⟨h0, h1⟩, h2⟩, h3⟩, h4⟩, h5⟩, h6⟩, h7⟩, h8⟩, h9⟩, h10⟩
end Go.Proofs.Ytpoigngpdcmipaa
