/-
  Contracts and lemmas on which the proofs of this seat stand (several texts in one). Conditions are each theorem's own.
-/
import Derived.Test.YtodlfdnegcfhcaaNa2
import Derived.Test.YtodlfdnegcfhcaaNa6
import Derived.Lib.AppendZerosOnto
import Derived.Lib.Walk
import Derived.Lib.SliceRun

/-
  A range over an iterator that hands over memory which it made in the round: what is known of an element comes with it. Conditions are each theorem's own.
-/
namespace Go.Proofs.Ytodlfdnegcfhcaa
open Go.RowKit Go.Shelf

/-- An iterator's promise: its elements come in order; of each, when it comes, G is known. -/
def SeqTold {α : Type} (m : Nat) (P : Program) (g : Nat) (lb : Array Value) (encs : α → Array Value) (G : List α → α → World → Prop) (Kp : World → World → Prop) (S Sp : List α → Prop) (w : World) : Prop :=
  ∀ (l : Nat) (J Jx : List α → World → Prop) (W : World), Below w.heap.size w W → AbidesFrom W.heap.size J → AbidesFrom W.heap.size Jx →
    (∀ pre x X, J pre X → G pre x X → YieldAt Fence.wide (m - 1) P l (encs x) X fun e Y =>
      (e = .returned (.bool true) ∧ J (pre ++ [x]) Y ∧ Kp X Y) ∨ (e = .returned (.bool false) ∧ Jx (pre ++ [x]) Y)) →
    J [] W →
    CallsIn Fence.wide m P g (#[.func (.yield l) #[] #[]] ++ lb) W fun e Y => (∃ v, e = .returned v) ∧ ((∃ xs, S xs ∧ J xs Y) ∨ (∃ pre, Sp pre ∧ Jx pre Y))
/-- The loop's record, in a state. -/
def recd (fn : FuncId) (a : Act) (ps : Array Tmp) (assign body : Code) (D : Nat) (st : LoopState) (pe : Option Code) : Loop := { state := st, pending := pe, fn := fn, tmps := a.tmps, params := ps, assign := assign, body := body, defers := D }
/-- The statement's two blocks: the rounds' deferred calls at D, the record behind it. -/
structure Two (W : World) (D : Nat) (r : Loop) : Prop where
  calls : W.heap[D]? = some (.deferred (some []))
  rec_ : W.heap[D + 1]? = some (.loop r)
section
variable {W V : World} {D : Nat} {r : Loop}
theorem Two.turn (h : Two W D r) (s : Loop) : Two (W.putObj (D + 1) (.loop s)) D s :=
  ⟨(World.putObj_heap_other (by omega)).trans h.calls, World.putObj_heap_same (heap_lt h.rec_)⟩
theorem Two.abides (h : Two W D r) {row : Option Nat} (hg : W.grownBy V row) (hr : ∀ k, row = some k → ∃ o : Obj, W.heap[k]? = some o ∧ o.isWalk = true) : Two V D r :=
  ⟨(grownBy_keeps hg hr h.calls rfl).trans h.calls, (grownBy_keeps hg hr h.rec_ rfl).trans h.rec_⟩
theorem Two.keeps (h : Two W D r) (hk : KeepsFrom D W V) : Two V D r := ⟨hk.same _ _ (Nat.le_refl _) h.calls rfl, hk.same _ _ (by omega) h.rec_ rfl⟩
theorem Two.first (w : World) (r : Loop) : Two ((w.alloc (.deferred (some []))).alloc (.loop r)) w.heap.size r := by
  refine ⟨(Below.heap_alloc _ _ _ (by simp)).trans (World.alloc_heap_new w _), ?_⟩
  have := World.alloc_heap_new (w.alloc (.deferred (some []))) (.loop r)
  rwa [World.size_alloc] at this
end
/-- How a round ends, said at once: by going on, or by a jump that waits. -/
theorem round_end {α : Type} {P : Program} {fn : FuncId} {a : Act} {ps : Array Tmp} {assign body : Code} {w X Y : World} {Kp : World → World → Prop} {I : List α → World → Prop} {Ix : Code → List α → World → Prop} {pre : List α}
    (hI : OwnFrom w.heap.size I) (hIx : ∀ c, OwnFrom w.heap.size (Ix c)) (hKt : ∀ {A B C : World}, Kp A B → Kp B C → Kp A C) (hKb : ∀ (W : World) (l : Nat) (r r' : Loop), w.heap.size ≤ l → W.heap[l]? = some (.loop r) → Kp W (W.putObj l (.loop r')))
    (X0 : World) (h0 : Kp X0 X) (hT : Two X w.heap.size (recd fn a ps assign body w.heap.size .busy none)) (e : Exit) (b : Act) (h : ownPostG w.heap.size Kp I Ix pre X e b Y) :
    roundPost P (w.heap.size + 1) (fun e Y => (e = .returned (.bool true) ∧ (I pre Y ∧ Two Y w.heap.size (recd fn a ps assign body w.heap.size .ready none)) ∧ Kp X0 Y) ∨
      (e = .returned (.bool false) ∧ ∃ c, Ix c pre Y ∧ Two Y w.heap.size (recd fn a ps assign body w.heap.size .done (some c)))) e b Y := by
  have jump : ∀ c, KeepsFrom w.heap.size X Y ∧ Ix c pre Y → ∃ v Z, (Instr.endRound (w.heap.size + 1) (some c)).run P Y = .ok v Z ∧
      ((Ending.returned v = .returned (.bool true) ∧ (I pre Z ∧ Two Z w.heap.size (recd fn a ps assign body w.heap.size .ready none)) ∧ Kp X0 Z) ∨
      (Ending.returned v = .returned (.bool false) ∧ ∃ c, Ix c pre Z ∧ Two Z w.heap.size (recd fn a ps assign body w.heap.size .done (some c)))) := fun c hp => by
    have ht := hT.keeps hp.1
    exact ⟨_, _, run_endRound (some c) ht.rec_, .inr ⟨rfl, c, (hIx c).putObj _ hp.2 (by omega) ht.rec_ rfl, ht.turn _⟩⟩
  cases e with
  | normal =>
    have ht := hT.keeps h.1
    exact ⟨_, _, run_endRound none ht.rec_, .inl ⟨rfl, ⟨hI.putObj _ h.2.2 (by omega) ht.rec_ rfl, ht.turn _⟩, hKt (hKt h0 h.2.1) (hKb _ _ _ _ (by omega) ht.rec_)⟩⟩
  | ret => exact jump .ret h
  | exit id => exact jump (.exit id) h
  | goto t => exact jump (.goto t) h
  | panic c => exact h.elim
  | outgrown => exact h.elim
theorem range_told {α : Type} {n : Nat} {P : Program} {g : Operand} {ps : Array Tmp} {assign body : Code} {Q : Exit → Act → World → Prop} {a : Act} {w : World} (h1 : 1 ≤ n)
    {gf : Nat} {lb : Array Value} (hg : a.eval g = .func (.func gf) #[] lb) (eg : ∀ args w, (callFunc gf args).run P w = .ok (.enter gf args) w)
    {encs : α → Array Value} {G : List α → α → World → Prop} {Kp : World → World → Prop} {S Sp : List α → Prop} {w0 : World} (hseq : SeqTold (n - 1) P gf lb encs G Kp S Sp w0)
    (hKt : ∀ {A B C : World}, Kp A B → Kp B C → Kp A C) (hKb : ∀ (W : World) (l : Nat) (r r' : Loop), w.heap.size ≤ l → W.heap[l]? = some (.loop r) → Kp W (W.putObj l (.loop r')))
    (hb0 : Below w0.heap.size w0 w) (hps : ∀ x, (encs x).size = ps.size)
    (hG : ∀ (pre : List α) (x : α) (W : World) (l : Nat) (r r' : Loop), G pre x W → w.heap.size ≤ l → W.heap[l]? = some (.loop r) → G pre x (W.putObj l (.loop r')))
    (I : List α → World → Prop) (Ix : Code → List α → World → Prop) (hI : OwnFrom w.heap.size I) (hIx : ∀ c, OwnFrom w.heap.size (Ix c)) (h0 : I [] w) (a₁ : α → Act)
    (hassign : ∀ (l : Nat) (x : α) (W : World) (K : Act → World → Prop), K (a₁ x) W →
      assign.wpIn (Fence.wide.inRound l) (n - 1 - 1) P (Exit.then K (fun _ _ _ => False)) { tmps := (ps.zip (encs x)).foldl (fun t (p, v) => t.setIfInBounds p v) a.tmps, defers := [] } W)
    (hbody : ∀ (l : Nat) (pre : List α) (x : α) (W : World), I pre W → G pre x W → body.wpIn (Fence.wide.inRound l) (n - 1 - 1) P (ownPostG w.heap.size Kp I Ix (pre ++ [x]) W) (a₁ x) W)
    (hdone : ∀ (D : Nat) (xs : List α) (W : World), w.heap.size ≤ D → S xs → I xs W → W.heap[D]? = some (.deferred (some [])) → Q .normal { a with defers := { target := .collected D, args := #[] } :: a.defers } W)
    (hstop : ∀ (D : Nat) (c : Code) (pre : List α) (W : World), w.heap.size ≤ D → Sp pre → Ix c pre W → W.heap[D]? = some (.deferred (some [])) → c.wpIn Fence.wide n P Q { a with defers := { target := .collected D, args := #[] } :: a.defers } W) :
    (Code.rangeFunc g ps assign body).wpIn Fence.wide n P Q a w := by
  refine wpIn_rangeFunc fun fn _ => ?_
  have t1 := Two.first w (recd fn a ps assign body w.heap.size .ready none)
  have b1 : Below w0.heap.size w0 ((w.alloc (.deferred (some []))).alloc (.loop (recd fn a ps assign body w.heap.size .ready none))) := (hb0.alloc hb0.size _).alloc (by have := hb0.size; simp; omega) _
  have i1 : I [] ((w.alloc (.deferred (some []))).alloc (.loop (recd fn a ps assign body w.heap.size .ready none))) := hI.alloc _ (hI.alloc _ h0)
  have z1 : w.heap.size ≤ ((w.alloc (.deferred (some []))).alloc (.loop (recd fn a ps assign body w.heap.size .ready none))).heap.size := by simp; omega
  obtain ⟨W1, hW1⟩ : ∃ W1, W1 = (w.alloc (.deferred (some []))).alloc (.loop (recd fn a ps assign body w.heap.size .ready none)) := ⟨_, rfl⟩
  rw [← hW1] at t1 b1 i1 z1
  refine ⟨w.heap.size + 1, [{ target := .collected w.heap.size, args := #[] }], W1, { target := .fn (.func gf) lb, args := #[.func (.yield (w.heap.size + 1)) #[] #[]] }, W1, gf, #[.func (.yield (w.heap.size + 1)) #[] #[]] ++ lb, W1,
    ?_, ?_, fun _ _ => trivial, ?_, fun _ => h1, ?_⟩
  · rw [hW1]; exact run_enterLoop_outer fn a.tmps ps assign body
  · simp only [resolve, hg]; simp [go_sem]
  · simp [invoke, go_sem, eg]
  · refine (hseq (w.heap.size + 1) (fun pre W => I pre W ∧ Two W w.heap.size (recd fn a ps assign body w.heap.size .ready none))
      (fun pre W => ∃ c, Ix c pre W ∧ Two W w.heap.size (recd fn a ps assign body w.heap.size .done (some c))) _ b1 ?_ ?_ ?_ ⟨i1, t1⟩).mono ?_
    · rintro s A B row ⟨hi, ht⟩ hgr hr
      exact ⟨hI s A B row hi hgr fun r e => by obtain ⟨hB, o, ho, hw⟩ := hr r e; exact ⟨by omega, o, ho, Obj.not_cells_of_walk hw⟩, ht.abides hgr fun r e => (hr r e).2⟩
    · rintro s A B row ⟨c, hi, ht⟩ hgr hr
      exact ⟨c, hIx c s A B row hi hgr fun r e => by obtain ⟨hB, o, ho, hw⟩ := hr r e; exact ⟨by omega, o, ho, Obj.not_cells_of_walk hw⟩, ht.abides hgr fun r e => (hr r e).2⟩
    · rintro pre x X ⟨hi, ht⟩ hgx
      refine ⟨fn, _, assign, body, run_yield ht.rec_ (hps x), roundIn_of_wpIn trivial (hassign _ x X _ ⟨_, run_beginRound ht.rec_ rfl, ?_⟩)⟩
      have hbu := ht.turn (recd fn a ps assign body w.heap.size .busy none)
      exact wpIn_mono (hbody _ pre x _ (hI.putObj _ hi (by omega) ht.rec_ rfl) (hG pre x X _ _ _ hgx (by omega) ht.rec_))
        (fun e b Y hp => by
          have hk0 : Kp X (X.putObj (w.heap.size + 1) (.loop (recd fn a ps assign body w.heap.size .busy none))) := hKb _ _ _ _ (by omega) ht.rec_
          exact round_end (P := P) (pre := pre ++ [x]) (Kp := Kp) (I := I) (Ix := Ix) hI hIx hKt hKb X hk0 hbu e b hp)
    · rintro e Y ⟨⟨v, rfl⟩, ⟨xs, hs, hi, ht⟩ | ⟨pre, hs, c, hi, ht⟩⟩
      · exact ⟨none, _, run_endLoop ht.rec_ (by simp [recd]), hdone _ xs _ (Nat.le_refl _) hs (hI.putObj _ hi (by omega) ht.rec_ rfl) (ht.turn _).calls⟩
      · exact ⟨some c, _, run_endLoop ht.rec_ (by simp [recd]), hstop _ c pre _ (Nat.le_refl _) hs ((hIx c).putObj _ hi (by omega) ht.rec_ rfl) (ht.turn _).calls⟩
end Go.Proofs.Ytodlfdnegcfhcaa

/-
  The struct api.TCP as data: its cells, its value, a block that holds one. Conditions are each theorem's own.
-/
namespace Go.Proofs.Ytodlfdnegcfhcaa
open Go.RowKit Go.ChangeShapes Go.WideShapes

structure PT where
  src : Int
  dst : Int
  seq : Int
  ack : Int
  res : Int
  flags : Int
  win : Int
  urg : Int
  opt : List UInt8
  dat : List UInt8
def tsz : PT := ⟨0, 0, 0, 0, 0, 0, 0, 0, [], []⟩
/-- Its cells. -/
def tsa (q : PT) (A : Option Addr) (c : Nat) (A' : Option Addr) (c' : Nat) : Array Value := #[.int .i64 q.src, .int .i64 q.dst, .int .i64 q.seq, .int .i64 q.ack, .int .i64 q.res, .int .i64 q.flags, .int .i64 q.win, .int .i64 q.urg, .slice A q.opt.length c, .slice A' q.dat.length c']
def tsv (q : PT) (A : Option Addr) (c : Nat) (A' : Option Addr) (c' : Nat) : Value := .agg #[.int .i64 q.src, .int .i64 q.dst, .int .i64 q.seq, .int .i64 q.ack, .int .i64 q.res, .int .i64 q.flags, .int .i64 q.win, .int .i64 q.urg, .slice A q.opt.length c, .slice A' q.dat.length c']
theorem tsv_eq (q : PT) (A : Option Addr) (c : Nat) (A' : Option Addr) (c' : Nat) : tsv q A c A' c' = .agg (tsa q A c A' c') := rfl
def PT.fits (q : PT) : Prop := ∀ n ∈ [q.src, q.dst, q.seq, q.ack, q.res, q.flags, q.win, q.urg], (Lit.int .i64 n).wf = true
theorem tsa_size (q : PT) (A : Option Addr) (c : Nat) (A' : Option Addr) (c' : Nat) : (tsa q A c A' c').size = 10 := rfl
theorem ts_one (q : PT) (A : Option Addr) (c : Nat) (A' : Option Addr) (c' : Nat) : (tsa q A c A' c').all (·.oneCell') = true := by simp [tsa, Value.oneCell']
section
variable {H : Type} {enc : TypeId × Value → H} {w : World} {base : Nat} {v : Value} {d : DataW H} {p : List MemPlace}
set_option maxRecDepth 100000 in
theorem get_ts (hv : Value.okWide Try.prog w .any base 37 v) (h : DataW.Trod enc Try.prog w 0 (fun _ => true) true 37 v d p) :
    ∃ q A c A' c', v = tsv q A c A' c' ∧ Arg w w.heap.size A c q.opt ∧ Arg w w.heap.size A' c' q.dat ∧ c ≤ maxLen ∧ c' ≤ maxLen ∧ q.fits := by
  obtain ⟨cs, rfl, hcs⟩ : ∃ cs, v = .agg cs ∧ cs.size = Try.prog.cellsOf 37 := by
    have := hv
    simp only [Value.okWide, Try.underlying37] at this
    obtain ⟨cs, h1, h2, _⟩ := this
    exact ⟨cs, h1, h2⟩
  obtain ⟨fuel, hf⟩ := h
  obtain ⟨xs, n, _, _, hl, hxs, hall⟩ := DataW.trod_struct Try.underlying37 hf
  have hci : Try.prog.cellsOf 3 = 1 := by kernel_rfl
  have hcy : Try.prog.cellsOf 22 = 1 := by kernel_rfl
  have hcu : Try.prog.cellsOf 5 = 1 := by kernel_rfl
  have hcn : Try.prog.cellsOf 37 = 10 := by kernel_rfl
  obtain ⟨l⟩ := cs
  have hl' : l.length = 10 := by rw [← hcn]; exact hl
  have hall' : ∀ (i : Nat) (f : Field), _ → DataW.trod enc Try.prog w 0 (fun _ => true) true n f.type ((l.drop f.offset).take (Try.prog.cellsOf f.type)) = xs[i]? := hall
  match xs, hxs with
  | [y0, y1, y2, y3, y4, y5, y6, y7, y8, y9], _ =>
    have h0 : DataW.trod enc Try.prog w 0 (fun _ => true) true n 3 ((l.drop 0).take (Try.prog.cellsOf 3)) = some y0 := hall' 0 _ rfl
    rw [hci] at h0
    obtain ⟨a0, e0, f0⟩ := cell_int Try.underlying3 h0
    have h1 : DataW.trod enc Try.prog w 0 (fun _ => true) true n 3 ((l.drop 1).take (Try.prog.cellsOf 3)) = some y1 := hall' 1 _ rfl
    rw [hci] at h1
    obtain ⟨a1, e1, f1⟩ := cell_int Try.underlying3 h1
    have h2 : DataW.trod enc Try.prog w 0 (fun _ => true) true n 3 ((l.drop 2).take (Try.prog.cellsOf 3)) = some y2 := hall' 2 _ rfl
    rw [hci] at h2
    obtain ⟨a2, e2, f2⟩ := cell_int Try.underlying3 h2
    have h3 : DataW.trod enc Try.prog w 0 (fun _ => true) true n 3 ((l.drop 3).take (Try.prog.cellsOf 3)) = some y3 := hall' 3 _ rfl
    rw [hci] at h3
    obtain ⟨a3, e3, f3⟩ := cell_int Try.underlying3 h3
    have h4 : DataW.trod enc Try.prog w 0 (fun _ => true) true n 3 ((l.drop 4).take (Try.prog.cellsOf 3)) = some y4 := hall' 4 _ rfl
    rw [hci] at h4
    obtain ⟨a4, e4, f4⟩ := cell_int Try.underlying3 h4
    have h5 : DataW.trod enc Try.prog w 0 (fun _ => true) true n 3 ((l.drop 5).take (Try.prog.cellsOf 3)) = some y5 := hall' 5 _ rfl
    rw [hci] at h5
    obtain ⟨a5, e5, f5⟩ := cell_int Try.underlying3 h5
    have h6 : DataW.trod enc Try.prog w 0 (fun _ => true) true n 3 ((l.drop 6).take (Try.prog.cellsOf 3)) = some y6 := hall' 6 _ rfl
    rw [hci] at h6
    obtain ⟨a6, e6, f6⟩ := cell_int Try.underlying3 h6
    have h7 : DataW.trod enc Try.prog w 0 (fun _ => true) true n 3 ((l.drop 7).take (Try.prog.cellsOf 3)) = some y7 := hall' 7 _ rfl
    rw [hci] at h7
    obtain ⟨a7, e7, f7⟩ := cell_int Try.underlying3 h7
    have h8 : DataW.trod enc Try.prog w 0 (fun _ => true) true n 22 ((l.drop 8).take (Try.prog.cellsOf 22)) = some y8 := hall' 8 _ rfl
    rw [hcy] at h8
    obtain ⟨A8, c8, a8, e8, f8, g8⟩ := cell_bytes Try.underlying22 Try.underlying5 hcu h8
    have h9 : DataW.trod enc Try.prog w 0 (fun _ => true) true n 22 ((l.drop 9).take (Try.prog.cellsOf 22)) = some y9 := hall' 9 _ rfl
    rw [hcy] at h9
    obtain ⟨A9, c9, a9, e9, f9, g9⟩ := cell_bytes Try.underlying22 Try.underlying5 hcu h9
    have k0 := piece_get e0
    have k1 := piece_get e1
    have k2 := piece_get e2
    have k3 := piece_get e3
    have k4 := piece_get e4
    have k5 := piece_get e5
    have k6 := piece_get e6
    have k7 := piece_get e7
    have k8 := piece_get e8
    have k9 := piece_get e9
    have el : l = [.int .i64 a0, .int .i64 a1, .int .i64 a2, .int .i64 a3, .int .i64 a4, .int .i64 a5, .int .i64 a6, .int .i64 a7, .slice A8 a8.length c8, .slice A9 a9.length c9] := by
      match l, hl' with
      | [x0, x1, x2, x3, x4, x5, x6, x7, x8, x9], _ => simp at k0 k1 k2 k3 k4 k5 k6 k7 k8 k9; simp [k0, k1, k2, k3, k4, k5, k6, k7, k8, k9]
    refine ⟨⟨a0, a1, a2, a3, a4, a5, a6, a7, a8, a9⟩, A8, c8, A9, c9, by rw [el]; rfl, f8, f9, g8, g9, ?_⟩
    intro m hm
    simp only [List.mem_cons, List.not_mem_nil, or_false] at hm
    rcases hm with rfl | rfl | rfl | rfl | rfl | rfl | rfl | rfl <;> assumption
end
/-- It lies in a block of its own. -/
def Atts (W : World) (g : Nat) (q : PT) (A : Option Addr) (c : Nat) (A' : Option Addr) (c' : Nat) : Prop := W.rangeAt g 0 (tsa q A c A' c').toList
section
variable {W : World} {g : Nat} {q : PT} {A : Option Addr} {c : Nat} {A' : Option Addr} {c' : Nat}
theorem Atts.new (w : World) : Atts (w.alloc (.cells (tsa q A c A' c') 37)) w.heap.size q A c A' c' := fun j v hj => by
  rw [Nat.zero_add, World.cell?_alloc_new, ← hj, Array.getElem?_toList]
theorem Atts.of_heap {t : TypeId} {fr : Nat × Nat} (h : W.heap[g]? = some (.cells (tsa q A c A' c') t fr)) : Atts W g q A c A' c' := fun j v hj => by
  rw [cell_of_row W g (0 + j) _ _ _ h, Nat.zero_add, ← Array.getElem?_toList]; exact hj
theorem Atts.below {w : World} {B : Nat} (h : Atts W g q A c A' c') (hb : Below B W w) (hg : g < B) : Atts w g q A c A' c' := range_below h hg hb
theorem Atts.src (h : Atts W g q A c A' c') : W.cell? ⟨g, 0, none⟩ = some (.int .i64 q.src) := h 0 _ rfl
theorem Atts.dst (h : Atts W g q A c A' c') : W.cell? ⟨g, 1, none⟩ = some (.int .i64 q.dst) := h 1 _ rfl
theorem Atts.seq (h : Atts W g q A c A' c') : W.cell? ⟨g, 2, none⟩ = some (.int .i64 q.seq) := h 2 _ rfl
theorem Atts.ack (h : Atts W g q A c A' c') : W.cell? ⟨g, 3, none⟩ = some (.int .i64 q.ack) := h 3 _ rfl
theorem Atts.res (h : Atts W g q A c A' c') : W.cell? ⟨g, 4, none⟩ = some (.int .i64 q.res) := h 4 _ rfl
theorem Atts.flags (h : Atts W g q A c A' c') : W.cell? ⟨g, 5, none⟩ = some (.int .i64 q.flags) := h 5 _ rfl
theorem Atts.win (h : Atts W g q A c A' c') : W.cell? ⟨g, 6, none⟩ = some (.int .i64 q.win) := h 6 _ rfl
theorem Atts.urg (h : Atts W g q A c A' c') : W.cell? ⟨g, 7, none⟩ = some (.int .i64 q.urg) := h 7 _ rfl
theorem Atts.opt (h : Atts W g q A c A' c') : W.cell? ⟨g, 8, none⟩ = some (.slice A q.opt.length c) := h 8 _ rfl
theorem Atts.dat (h : Atts W g q A c A' c') : W.cell? ⟨g, 9, none⟩ = some (.slice A' q.dat.length c') := h 9 _ rfl
end
theorem run_load_ts {o : Oper} {a : Act} {w : World} {x : Operand} {g : Nat} {cs : List Value} (ho : o.op = .load 37 x) (hx : a.eval x = .pointer (some ⟨g, 0, none⟩)) (hr : w.rangeAt g 0 cs) (hl : cs.length = 10) :
    (execOp a.eval o).run Try.prog w = .ok (.value (.agg cs.toArray)) w := by
  have h := run_loadVar_mid (P := Try.prog) w g 0 37 cs _ hr Try.underlying37 rfl (by rw [hl]; kernel_rfl)
  unfold execOp
  simp only [ho, hx, Instr.loadAt, Instr.sureAddr, Sem.run_bind, Sem.run_pure, Result.andThen_ok, h]
theorem ts_store {ops : Array Oper} {rest : List Oper} {x y : Operand} {ty : TypeId} {pos : String} {af : Array Edge} {a : Act} {w : World} {Q : Exit → Act → World → Prop}
    {g : Nat} {t : TypeId} {cs old : Array Value} (hx : a.eval x = .pointer (some ⟨g, 0, none⟩)) (hy : a.eval y = .agg cs) (hg : w.heap[g]? = some (.cells old t (0, 0))) (ho : old.size = 10) (hl : cs.size = 10) (h1 : cs.all (·.oneCell') = true)
    (h : wpList Try.prog ops Q rest (a.put none undef) (w.setRow g cs)) : wpList Try.prog ops Q (⟨none, .store 37 x y, ty, pos, af, none⟩ :: rest) a w :=
  wpList_plain rfl fun _ hK => wp_store_row 37 x y rfl g cs hx hy t old hg (by rw [hl]; kernel_rfl) (by rw [ho, hl]) h1 (hK _ _ h)
theorem ts_store_new {ops : Array Oper} {rest : List Oper} {x y : Operand} {ty : TypeId} {pos : String} {af : Array Edge} {a : Act} {w : World} {Q : Exit → Act → World → Prop}
    {t : TypeId} {cs old : Array Value} (hx : a.eval x = .pointer (some ⟨w.heap.size, 0, none⟩)) (hy : a.eval y = .agg cs) (ho : old.size = 10) (hl : cs.size = 10) (h1 : cs.all (·.oneCell') = true)
    (h : wpList Try.prog ops Q rest (a.put none undef) (w.alloc (.cells cs t))) : wpList Try.prog ops Q (⟨none, .store 37 x y, ty, pos, af, none⟩ :: rest) a (w.alloc (.cells old t)) :=
  ts_store hx hy (World.alloc_heap_new w _) ho hl h1 (by rw [World.setRow_alloc_new]; exact h)
theorem ts_result {fn : Func} {p : Tmp} {tmps : Array Value} {w : World} {g : Nat} {t : TypeId} {cs : Array Value} {fr : Nat × Nat} (h : fn.results = #[.cell p 37])
    (hp : tmps.getD p undef = .pointer (some ⟨g, 0, none⟩)) (hg : w.heap[g]? = some (.cells cs t fr)) (hl : cs.size = 10) : (results fn tmps).run Try.prog w = .ok (.agg cs) w :=
  results_cell_row h tmps w g t cs fr _ hp hg Try.underlying37 rfl (by rw [hl]; kernel_rfl)
theorem ts_load_run {w : World} {g : Nat} {t : TypeId} {cs : Array Value} {fr : Nat × Nat} (hg : w.heap[g]? = some (.cells cs t fr)) (hl : cs.size = 10) : (loadVar 37 ⟨g, 0, none⟩).run Try.prog w = .ok (.agg cs) w :=
  run_loadVar_row w g t 37 cs fr _ hg Try.underlying37 rfl (by rw [hl]; kernel_rfl)
end Go.Proofs.Ytodlfdnegcfhcaa

/-
  Segments of TCP in plain lists of bytes: what may be, its bytes, what bytes are. No program. Conditions are each theorem's own.
-/
namespace Go.Proofs.Ytodlfdnegcfhcaa
open Go.RowKit

def sizeT (q : PT) : Int := 20 + (q.opt.length : Int) + (q.dat.length : Int)
def lineT (q : PT) : Int := (20 + (q.opt.length : Int)) / 4 * 16 + q.res
def argT (q : PT) : Prop := 0 ≤ q.src ∧ q.src ≤ 65535 ∧ 0 ≤ q.dst ∧ q.dst ≤ 65535 ∧ 0 ≤ q.win ∧ q.win ≤ 65535 ∧ 0 ≤ q.urg ∧ q.urg ≤ 65535 ∧ 0 ≤ q.seq ∧ q.seq < 4294967296 ∧ 0 ≤ q.ack ∧ q.ack < 4294967296 ∧
  0 ≤ q.res ∧ q.res ≤ 15 ∧ 0 ≤ q.flags ∧ q.flags ≤ 255 ∧ q.opt.length ≤ 40 ∧ q.opt.length % 4 = 0
instance (q : PT) : Decidable (argT q) := by unfold argT; infer_instance
def chkT (q : PT) : Int := if argT q then (if sizeT q > 65535 then 6 else 0) else 1
theorem chkT_ok {q : PT} (h : chkT q = 0) : argT q ∧ sizeT q ≤ 65535 := by
  unfold chkT at h
  split at h
  · rename_i ha
    split at h
    · cases h
    · exact ⟨ha, by omega⟩
  · cases h
/-- A head, up to the options. -/
def hda8 (q : PT) : List UInt8 := be2 q.src ++ be2 q.dst ++ be4 q.seq ++ be4 q.ack ++ [u8 (lineT q)] ++ [u8 q.flags] ++ be2 q.win
def hdT (q : PT) (s : Int) : List UInt8 := hda8 q ++ be2 s ++ be2 q.urg
theorem hda8_len (q : PT) : (hda8 q).length = 16 := by simp [hda8, be2, be4]
theorem hdT_len (q : PT) (s : Int) : (hdT q s).length = 20 := by simp [hdT, hda8, be2, be4]
def nineT (q : PT) (s : Int) : List (Int × Int) := [(q.src, 2), (q.dst, 2), (q.seq, 4), (q.ack, 4), (lineT q, 1), (q.flags, 1), (q.win, 2), (s, 2), (q.urg, 2)]
theorem lineT_bd {q : PT} (h : argT q) : 0 ≤ lineT q ∧ lineT q ≤ 255 := by
  obtain ⟨_, _, _, _, _, _, _, _, _, _, _, _, h1, h2, _, _, h3, h4⟩ := h
  unfold lineT; omega
theorem nineT_put (q : PT) (s : Int) (h : argT q) (h0 : 0 ≤ s) (h1 : s ≤ 65535) : putL (nineT q s) = hdT q s := by
  have hl := lineT_bd h
  obtain ⟨a1, a2, a3, a4, a5, a6, a7, a8, a9, a10, a11, a12, a13, a14, a15, a16, _, _⟩ := h
  simp only [nineT, putL, List.foldl_cons, List.foldl_nil]
  rw [put_two a1 a2, put_two a3 a4, put_four a9 a10, put_four a11 a12, put_one hl.1 hl.2, put_one a15 a16, put_two a5 a6, put_two h0 h1, put_two a7 a8]
  simp [hdT, hda8, List.append_assoc]
def smT (src dst : Int) (q : PT) : Int := 65535 - fold (psum [psd src dst 6 (sizeT q), hdT q 0, q.opt, q.dat])
theorem smT_bd (src dst : Int) (q : PT) : 0 ≤ smT src dst q ∧ smT src dst q ≤ 65535 := by
  have := fold_bd (psum [psd src dst 6 (sizeT q), hdT q 0, q.opt, q.dat]); unfold smT; omega
def bldT (src dst : Int) (q : PT) : List UInt8 := hdT q (smT src dst q) ++ q.opt ++ q.dat
theorem bldT_len (src dst : Int) (q : PT) : (bldT src dst q).length = 20 + q.opt.length + q.dat.length := by rw [bldT, List.length_append, List.length_append, hdT_len]
def hlT (b : List UInt8) : Int := byt b 12 / 16 * 4
def badT (src dst : Int) (b : List UInt8) : Int :=
  if b.length < 20 then 3
  else if hlT b < 20 then 4
  else if hlT b > (b.length : Int) then 3
  else if b.length > 65535 then 6
  else if rightB [psd src dst 6 (b.length : Int), b] = false then 5
  else 0
def rawT (b : List UInt8) : PT := ⟨n2 b 0, n2 b 2, n4 b 4, n4 b 8, byt b 12 % 16, byt b 13, n2 b 14, n2 b 18, (b.take (hlT b).toNat).drop 20, b.drop (hlT b).toNat⟩
def prsT (src dst : Int) (b : List UInt8) : PT := if badT src dst b = 0 then rawT b else tsz
def sameT (q r : PT) : Bool := (q.src == r.src && q.dst == r.dst && q.seq == r.seq && q.ack == r.ack && q.res == r.res && q.flags == r.flags) && (q.win == r.win) && (q.urg == r.urg) && decide (q.opt = r.opt) && decide (q.dat = r.dat)
theorem sameT_iff {q r : PT} : sameT q r = true ↔ q = r := by
  obtain ⟨a0, a1, a2, a3, a4, a5, a6, a7, a8, a9⟩ := q
  obtain ⟨b0, b1, b2, b3, b4, b5, b6, b7, b8, b9⟩ := r
  simp only [sameT, Bool.and_eq_true, beq_iff_eq, decide_eq_true_eq, PT.mk.injEq]
  constructor
  · rintro ⟨⟨⟨⟨⟨⟨⟨⟨⟨h0, h1⟩, h2⟩, h3⟩, h4⟩, h5⟩, h6⟩, h7⟩, h8⟩, h9⟩; exact ⟨h0, h1, h2, h3, h4, h5, h6, h7, h8, h9⟩
  · rintro ⟨h0, h1, h2, h3, h4, h5, h6, h7, h8, h9⟩; exact ⟨⟨⟨⟨⟨⟨⟨⟨⟨h0, h1⟩, h2⟩, h3⟩, h4⟩, h5⟩, h6⟩, h7⟩, h8⟩, h9⟩
theorem hdT_wall (q : PT) {s : Int} (h0 : 0 ≤ s) (h1 : s ≤ 65535) : wall (hdT q s) = wall (hdT q 0) + s := by
  have z : ∀ n : Int, 0 ≤ n → n ≤ 65535 → wall (hdT q n) = wall (hda8 q) + n + wall (be2 q.urg) := fun n a b => by
    rw [hdT, wall_append (m := 9) (by simp [hda8, be2, be4]), wall_append (m := 8) (by simp [hda8, be2, be4]), be2_wall a b]
  rw [z s h0 h1, z 0 (by omega) (by omega)]; omega
theorem psum_glueT (p : List UInt8) (q : PT) (s : Int) (h : argT q) : psum [p, hdT q s, q.opt, q.dat] = psum [p, hdT q s ++ q.opt ++ q.dat] := by
  have h4 : q.opt.length % 4 = 0 := by obtain ⟨_, _, _, _, _, _, _, _, _, _, _, _, _, _, _, _, _, h⟩ := h; exact h
  simp only [psum_cons]
  rw [wall_append (a := hdT q s ++ q.opt) (m := 10 + q.opt.length / 2) (by rw [List.length_append, hdT_len]; omega), wall_append (a := hdT q s) (m := 10) (hdT_len q s)]; omega
theorem smT_two (src dst : Int) (q : PT) (h : argT q) : 65535 - fold (psum [psd src dst 6 (sizeT q), hdT q 0 ++ q.opt ++ q.dat]) = smT src dst q := by
  rw [smT, psum_glueT _ _ _ h]
theorem bldT_right (src dst : Int) (q : PT) (h : argT q) : rightB [psd src dst 6 (sizeT q), bldT src dst q] = true := by
  have e : psum [psd src dst 6 (sizeT q), bldT src dst q] = psum [psd src dst 6 (sizeT q), hdT q 0, q.opt, q.dat] + smT src dst q := by
    rw [bldT, ← psum_glueT _ _ _ h]
    simp only [psum_cons]
    rw [hdT_wall q (smT_bd src dst q).1 (smT_bd src dst q).2]; omega
  have hs : smT src dst q = 65535 - fold (psum [psd src dst 6 (sizeT q), hdT q 0, q.opt, q.dat]) := rfl
  rw [rightB, e, right_of (psum_nn _) hs]; rfl
theorem n4_be4 {a b : List UInt8} {n : Int} (h0 : 0 ≤ n) (h1 : n < 4294967296) {k : Nat} (hk : a.length = k) : n4 (a ++ (be4 n ++ b)) k = n := by
  have e0 : byt (a ++ (be4 n ++ b)) (a.length + 0) = byt (be4 n ++ b) 0 := byt_right
  have e1 : byt (a ++ (be4 n ++ b)) (a.length + 1) = byt (be4 n ++ b) 1 := byt_right
  have e2 : byt (a ++ (be4 n ++ b)) (a.length + 2) = byt (be4 n ++ b) 2 := byt_right
  have e3 : byt (a ++ (be4 n ++ b)) (a.length + 3) = byt (be4 n ++ b) 3 := byt_right
  subst hk
  unfold n4
  rw [show a.length = a.length + 0 from rfl, e0, Nat.add_zero, e1, e2, e3]
  have c0 : byt (be4 n ++ b) 0 = n / 16777216 % 256 := u8_val _
  have c1 : byt (be4 n ++ b) 1 = n / 65536 % 256 := u8_val _
  have c2 : byt (be4 n ++ b) 2 = n / 256 % 256 := u8_val _
  have c3 : byt (be4 n ++ b) 3 = n % 256 := u8_val _
  rw [c0, c1, c2, c3]; omega
theorem byt_u8 {a b : List UInt8} {n : Int} {k : Nat} (hk : a.length = k) : byt (a ++ ([u8 n] ++ b)) k = n % 256 := by
  have e0 : byt (a ++ ([u8 n] ++ b)) (a.length + 0) = byt ([u8 n] ++ b) 0 := byt_right
  subst hk
  rw [Nat.add_zero] at e0; rw [e0]; exact u8_val _
theorem backT {src dst : Int} {q : PT} (h : chkT q = 0) : badT src dst (bldT src dst q) = 0 ∧ prsT src dst (bldT src dst q) = q := by
  obtain ⟨ha, hz⟩ := chkT_ok h
  have hl := lineT_bd ha
  have hr := bldT_right src dst q ha
  have hs := smT_bd src dst q
  have hlen := bldT_len src dst q
  obtain ⟨a1, a2, a3, a4, a5, a6, a7, a8, a9, a10, a11, a12, a13, a14, a15, a16, a17, a18⟩ := ha
  have f0 : n2 (bldT src dst q) 0 = q.src := by
    simp only [bldT, hdT, hda8, List.append_assoc]; exact n2_be2 (a := []) a1 a2 rfl
  have f2 : n2 (bldT src dst q) 2 = q.dst := by
    simp only [bldT, hdT, hda8, List.append_assoc]; exact n2_be2 (a := be2 q.src) a3 a4 rfl
  have f4 : n4 (bldT src dst q) 4 = q.seq := by
    simp only [bldT, hdT, hda8, List.append_assoc]; rw [← List.append_assoc]; exact n4_be4 (a := be2 q.src ++ be2 q.dst) a9 a10 rfl
  have f8 : n4 (bldT src dst q) 8 = q.ack := by
    simp only [bldT, hdT, hda8, List.append_assoc]; rw [← List.append_assoc, ← List.append_assoc]; exact n4_be4 (a := be2 q.src ++ be2 q.dst ++ be4 q.seq) a11 a12 rfl
  have f12 : byt (bldT src dst q) 12 = lineT q := by
    have : byt (bldT src dst q) 12 = lineT q % 256 := by
      simp only [bldT, hdT, hda8, List.append_assoc]; rw [← List.append_assoc, ← List.append_assoc, ← List.append_assoc]; exact byt_u8 (a := be2 q.src ++ be2 q.dst ++ be4 q.seq ++ be4 q.ack) rfl
    omega
  have f13 : byt (bldT src dst q) 13 = q.flags := by
    have : byt (bldT src dst q) 13 = q.flags % 256 := by
      simp only [bldT, hdT, hda8, List.append_assoc]; rw [← List.append_assoc, ← List.append_assoc, ← List.append_assoc, ← List.append_assoc]; exact byt_u8 (a := be2 q.src ++ be2 q.dst ++ be4 q.seq ++ be4 q.ack ++ [u8 (lineT q)]) rfl
    omega
  have f14 : n2 (bldT src dst q) 14 = q.win := by
    simp only [bldT, hdT, hda8, List.append_assoc]; rw [← List.append_assoc, ← List.append_assoc, ← List.append_assoc, ← List.append_assoc, ← List.append_assoc]; exact n2_be2 (a := be2 q.src ++ be2 q.dst ++ be4 q.seq ++ be4 q.ack ++ [u8 (lineT q)] ++ [u8 q.flags]) a5 a6 rfl
  have f18 : n2 (bldT src dst q) 18 = q.urg := by
    have e : bldT src dst q = (hda8 q ++ be2 (smT src dst q)) ++ (be2 q.urg ++ (q.opt ++ q.dat)) := by simp [bldT, hdT, List.append_assoc]
    rw [e]; exact n2_be2 a7 a8 (by simp [hda8, be2, be4])
  have fh : hlT (bldT src dst q) = 20 + (q.opt.length : Int) := by
    unfold hlT; rw [f12]; unfold lineT; omega
  have hsz : ((bldT src dst q).length : Int) = sizeT q := by rw [hlen]; unfold sizeT; omega
  have hb : badT src dst (bldT src dst q) = 0 := by
    unfold badT
    rw [if_neg (by omega), fh, if_neg (by omega), if_neg (by omega), if_neg (by omega), if_neg (by rw [hsz, hr]; simp)]
  refine ⟨hb, ?_⟩
  rw [prsT, if_pos hb, rawT, f0, f2, f4, f8, f12, f13, f14, f18, fh]
  have e1 : (20 + (q.opt.length : Int)).toNat = 20 + q.opt.length := by omega
  have e2 : (bldT src dst q).take (20 + q.opt.length) = hdT q (smT src dst q) ++ q.opt := by rw [bldT, List.take_left' (by rw [List.length_append, hdT_len])]
  have e3 : (hdT q (smT src dst q) ++ q.opt).drop 20 = q.opt := List.drop_left' (hdT_len q _)
  have e4 : (bldT src dst q).drop (20 + q.opt.length) = q.dat := by rw [bldT, List.drop_left' (by rw [List.length_append, hdT_len])]
  have e5 : lineT q % 16 = q.res := by unfold lineT; omega
  rw [e1, e2, e3, e4, e5]
/-- How many bytes the option at a place has; 0: there is none. -/
def optL (b : List UInt8) (at_ : Nat) : Nat :=
  if b.length ≤ at_ then 0
  else if byt b at_ ≤ 1 then 1
  else if b.length ≤ at_ + 1 ∨ byt b (at_ + 1) < 2 ∨ byt b (at_ + 1) > (b.length : Int) - at_ then 0
  else (byt b (at_ + 1)).toNat
theorem optL_le {b : List UInt8} {at_ : Nat} (h : 0 < optL b at_) : at_ + optL b at_ ≤ b.length ∧ at_ < b.length := by
  unfold optL at h ⊢
  split at h
  · omega
  · rename_i h1
    rw [if_neg h1]
    split at h
    · rename_i h2; rw [if_pos h2]; omega
    · rename_i h2
      rw [if_neg h2]
      split at h
      · omega
      · rename_i h3
        rw [if_neg h3]; omega
/-- Where options begin, from a place on. -/
def plc (b : List UInt8) : Nat → Nat → List Nat
  | 0, _ => []
  | f + 1, a => if optL b a = 0 then [] else a :: (if byt b a = 0 then [] else plc b f (a + optL b a))
def places (b : List UInt8) : List Nat := plc b (b.length + 1) 0
theorem plc_more (b : List UInt8) : ∀ (f g a : Nat), b.length + 1 ≤ a + f → b.length + 1 ≤ a + g → plc b f a = plc b g a
  | 0, 0, _, _, _ => rfl
  | 0, g + 1, a, h, _ => by
    have : optL b a = 0 := by unfold optL; rw [if_pos (by omega)]
    rw [plc, plc, if_pos this]
  | f + 1, 0, a, _, h => by
    have : optL b a = 0 := by unfold optL; rw [if_pos (by omega)]
    rw [plc, plc, if_pos this]
  | f + 1, g + 1, a, h1, h2 => by
    rw [plc, plc]
    by_cases h0 : optL b a = 0
    · rw [if_pos h0, if_pos h0]
    · rw [if_neg h0, if_neg h0]
      by_cases hz : byt b a = 0
      · rw [if_pos hz, if_pos hz]
      · rw [if_neg hz, if_neg hz, plc_more b f g (a + optL b a) (by omega) (by omega)]
/-- From a place on, with as much as is wanted. -/
def rest (b : List UInt8) (a : Nat) : List Nat := plc b (b.length + 1) a
theorem rest_none {b : List UInt8} {a : Nat} (h : optL b a = 0) : rest b a = [] := by rw [rest, plc, if_pos h]
theorem rest_last {b : List UInt8} {a : Nat} (h : 0 < optL b a) (hz : byt b a = 0) : rest b a = [a] := by rw [rest, plc, if_neg (by omega), if_pos hz]
theorem rest_more {b : List UInt8} {a : Nat} (h : 0 < optL b a) (hz : byt b a ≠ 0) : rest b a = a :: rest b (a + optL b a) := by
  rw [rest, plc, if_neg (by omega), if_neg hz, rest]
  congr 1
  exact plc_more b _ _ _ (by omega) (by omega)
theorem rest_len (b : List UInt8) : ∀ (f a : Nat), (plc b f a).length ≤ f
  | 0, _ => Nat.le_refl _
  | f + 1, a => by
    rw [plc]; split
    · simp
    · split
      · simp
      · have := rest_len b f (a + optL b a); simp; omega
theorem places_len (b : List UInt8) : (places b).length ≤ b.length + 1 := rest_len b _ _
theorem plc_mem (b : List UInt8) : ∀ (f a x : Nat), x ∈ plc b f a → 0 < optL b x
  | 0, _, _, h => by simp [plc] at h
  | f + 1, a, x, h => by
    rw [plc] at h
    split at h
    · simp at h
    · rename_i h0
      rcases List.mem_cons.1 h with rfl | h
      · omega
      · split at h
        · simp at h
        · exact plc_mem b f _ x h
theorem places_mem {b : List UInt8} {x : Nat} (h : x ∈ places b) : 0 < optL b x := plc_mem b _ _ x h
/-- Does the option at a place tell the greatest size? -/
def mssB (b : List UInt8) (a : Nat) : Bool := decide (byt b a = 2) && decide (optL b a = 4)
/-- The greatest size, where it is told, and whether. -/
def mssT (b : List UInt8) : Option Nat := (places b).find? (mssB b)
def mssN (b : List UInt8) : Int := match mssT b with | some a => n2 b (a + 2) | none => 0
def mssA (b : List UInt8) : Int := match mssT b with | some a => (a : Int) | none => 0
def mssK (b : List UInt8) : Bool := (mssT b).isSome
end Go.Proofs.Ytodlfdnegcfhcaa

/-
  Contracts of tcp's size, Check, numbers, buildHead, fresh. Conditions are each theorem's own.
-/
namespace Go.Proofs.Ytodlfdnegcfhcaa
open Go.RowKit

theorem argT_iff (q : PT) : argT q ↔ (fitsB q.src 2 = true ∧ fitsB q.dst 2 = true ∧ fitsB q.win 2 = true ∧ fitsB q.urg 2 = true ∧ fitsB q.seq 4 = true ∧ fitsB q.ack 4 = true ∧ 0 ≤ q.res ∧ q.res < 16 ∧ fitsB q.flags 1 = true ∧ q.opt.length ≤ 40 ∧ q.opt.length % 4 = 0) := by
  rw [fitsB_iff, fitsB_iff, fitsB_iff, fitsB_iff, fitsB_iff, fitsB_iff, fitsB_iff, pw1, pw2, pw4, argT]; omega
theorem freshT_any (A : Option Addr) (bs : List UInt8) (c B : Nat) (w : World) (h : Arg w B A c bs) (hl : bs.length ≤ 1099511627776) :
    Calls Try.prog 28 #[.slice A bs.length c] w fun e w' => ∃ v, e = .returned v ∧ Made w w' v bs := by
  have hr := h.rd
  have hn := h.none_
  go_enter Try.func28, Try.ntmps28
  go_wp2_with (at_builtin; refine append_rd rfl _ _ rfl w.heap.size _ _ _ rfl (World.ownsRow_nil _ _ _ _) B A c bs rfl hn hr (by omega) (Nat.le_refl _) ?_; intro v1 w1 hown hgrow)
  go_ret
  have hb1 : Below w.heap.size w w1 := (Below.refl _ w).grown hgrow (Nat.le_refl _) (fun k hk => by cases (show (none : Option Nat) = some k from hk))
  exact ⟨_, rfl, Made.of_own (by simpa using hown) hb1⟩
section
variable (q : PT) (A : Option Addr) (c : Nat) (A' : Option Addr) (c' : Nat) (w : World)
theorem cTsize (ho : q.opt.length ≤ 1000000) (hd : q.dat.length ≤ 1000000) : Calls Try.prog 31 #[tsv q A c A' c'] w fun e w' => e = .returned (.int .i64 (sizeT q)) ∧ Below w.heap.size w w' := by
  have hB : Below w.heap.size w (w.alloc (.cells (tsa q A c A' c') 37)) := (Below.refl w.heap.size w).alloc (Nat.le_refl _) _
  have hAt := Atts.new (q := q) (A := A) (c := c) (A' := A') (c' := c') w
  have hz : w.heap.size < (w.alloc (.cells (tsa q A c A' c') 37)).heap.size := by simp
  rw [tsv_eq]
  have k8 := hAt.opt; have k9 := hAt.dat
  go_enter Try.func31, Try.ntmps31
  go_wp2_with fail
  go_ret
  exact ⟨rfl, hB⟩
set_option maxRecDepth 100000 in
set_option maxHeartbeats 4000000 in
theorem cTcheck (hl : q.dat.length ≤ 1000000) (ho0 : q.opt.length ≤ 1000000) : Calls Try.prog 29 #[tsv q A c A' c'] w fun e w' => e = .returned (.int .i64 (chkT q)) ∧ Below w.heap.size w w' := by
  have hB : Below w.heap.size w (w.alloc (.cells (tsa q A c A' c') 37)) := (Below.refl w.heap.size w).alloc (Nat.le_refl _) _
  have hAt := Atts.new (q := q) (A := A) (c := c) (A' := A') (c' := c') w
  have hz : w.heap.size < (w.alloc (.cells (tsa q A c A' c') 37)).heap.size := by simp
  rw [tsv_eq]
  have HO := Lib.hid (argT_iff q)
  have k0 := hAt.src; have k1 := hAt.dst; have k2 := hAt.seq; have k3 := hAt.ack; have k4 := hAt.res; have k5 := hAt.flags; have k6 := hAt.win; have k7 := hAt.urg; have k8 := hAt.opt
  go_enter Try.func29, Try.ntmps29
  go_upto_region 1 with fail
  generalize w.alloc (.cells (tsa q A c A' c') 37) = W at *
  by_cases ho : argT q
  · obtain ⟨g0, g1, g2, g3, g4, g5, r0, r1, g6, o0, o1⟩ := HO.out.1 ho
    have H0 := Lib.hid g0; have H1 := Lib.hid g1; have H2 := Lib.hid g2; have H3 := Lib.hid g3; have H4 := Lib.hid g4; have H5 := Lib.hid g5; have H6 := Lib.hid g6
    have d0 : decide (q.res < 0) = false := by simpa using r0
    have d1 : decide (16 ≤ q.res) = false := by simp; omega
    have d2 : decide (40 < (q.opt.length : Int)) = false := by simp; omega
    have d3 : ((q.opt.length : Int).tmod 4 != 0) = false := by rw [Int.tmod_eq_emod_of_nonneg (by omega)]; simp; omega
    have d3' : ((q.opt.length : Int) % 4 != 0) = false := by simp; omega
    have hs0 : 0 ≤ sizeT q ∧ sizeT q ≤ 2000020 := by unfold sizeT; omega
    obtain ⟨N, hN⟩ : ∃ n, n = sizeT q := ⟨_, rfl⟩
    have HSZ := Lib.hid hN.symm
    have HCK := Lib.hid (show chkT q = if 65535 < N then 6 else 0 by rw [chkT, if_pos ho, hN])
    rw [← hN] at hs0
    clear hN ho HO g0 g1 g2 g3 g4 g5 g6
    by_cases s : 65535 < N
    · have ds : decide (65535 < N) = true := by simpa using s
      have HE := Lib.hid (show chkT q = 6 by rw [HCK.out, if_pos s])
      clear s
      go_wp2_with (first | (go_at_call 51; refine (fits_any _ _ _).mono ?_; rintro e w' ⟨rfl, rfl⟩; (first | rw [H0.out] | rw [H1.out] | rw [H2.out] | rw [H3.out] | rw [H4.out] | rw [H5.out] | rw [H6.out] | skip)) | (go_at_call 31; refine (cTsize q A c A' c' _ (by omega) hl).mono ?_; rintro e w2 ⟨rfl, x2⟩; rw [HSZ.out]) | ((with_reducible show wpList _ _ _ (Oper.mk _ (Op.load 37 _) _ _ _ _ :: _) _ _); refine wpList_valw (by rfl) (run_load_ts rfl rfl hAt rfl) ?_))
      go_ret
      exact ⟨ret_int (by rw [HE.out]), hB.trans (x2.mono (by omega))⟩
    · have ds : decide (65535 < N) = false := by simpa using s
      have HE := Lib.hid (show chkT q = 0 by rw [HCK.out, if_neg s])
      clear s
      go_wp2_with (first | (go_at_call 51; refine (fits_any _ _ _).mono ?_; rintro e w' ⟨rfl, rfl⟩; (first | rw [H0.out] | rw [H1.out] | rw [H2.out] | rw [H3.out] | rw [H4.out] | rw [H5.out] | rw [H6.out] | skip)) | (go_at_call 31; refine (cTsize q A c A' c' _ (by omega) hl).mono ?_; rintro e w2 ⟨rfl, x2⟩; rw [HSZ.out]) | ((with_reducible show wpList _ _ _ (Oper.mk _ (Op.load 37 _) _ _ _ _ :: _) _ _); refine wpList_valw (by rfl) (run_load_ts rfl rfl hAt rfl) ?_))
      go_ret
      exact ⟨ret_int (by rw [HE.out]), hB.trans (x2.mono (by omega))⟩
  · have HE := Lib.hid (show chkT q = 1 by rw [chkT, if_neg ho])
    have hno : ¬ (fitsB q.src 2 = true ∧ fitsB q.dst 2 = true ∧ fitsB q.win 2 = true ∧ fitsB q.urg 2 = true ∧ fitsB q.seq 4 = true ∧ fitsB q.ack 4 = true ∧ 0 ≤ q.res ∧ q.res < 16 ∧ fitsB q.flags 1 = true ∧ q.opt.length ≤ 40 ∧ q.opt.length % 4 = 0) := fun h => ho (HO.out.2 h)
    have HSZ := HE
    clear ho HO
    cases hf0 : fitsB q.src 2
    · have H0 := Lib.hid hf0
      have H1 := H0
      have H2 := H0
      have H3 := H0
      have H4 := H0
      have H5 := H0
      have H6 := H0
      clear hno hf0
      go_wp2_with (first | (go_at_call 51; refine (fits_any _ _ _).mono ?_; rintro e w' ⟨rfl, rfl⟩; (first | rw [H0.out] | rw [H1.out] | rw [H2.out] | rw [H3.out] | rw [H4.out] | rw [H5.out] | rw [H6.out] | skip)) | (go_at_call 31; refine (cTsize q A c A' c' _ (by omega) hl).mono ?_; rintro e w2 ⟨rfl, x2⟩; rw [HSZ.out]) | ((with_reducible show wpList _ _ _ (Oper.mk _ (Op.load 37 _) _ _ _ _ :: _) _ _); refine wpList_valw (by rfl) (run_load_ts rfl rfl hAt rfl) ?_))
      go_ret
      exact ⟨ret_int (by rw [HE.out]), hB⟩
    · have H0 := Lib.hid hf0
      rw [hf0] at hno; clear hf0
      cases hf1 : fitsB q.dst 2
      · have H1 := Lib.hid hf1
        have H2 := H1
        have H3 := H1
        have H4 := H1
        have H5 := H1
        have H6 := H1
        clear hno hf1
        go_wp2_with (first | (go_at_call 51; refine (fits_any _ _ _).mono ?_; rintro e w' ⟨rfl, rfl⟩; (first | rw [H0.out] | rw [H1.out] | rw [H2.out] | rw [H3.out] | rw [H4.out] | rw [H5.out] | rw [H6.out] | skip)) | (go_at_call 31; refine (cTsize q A c A' c' _ (by omega) hl).mono ?_; rintro e w2 ⟨rfl, x2⟩; rw [HSZ.out]) | ((with_reducible show wpList _ _ _ (Oper.mk _ (Op.load 37 _) _ _ _ _ :: _) _ _); refine wpList_valw (by rfl) (run_load_ts rfl rfl hAt rfl) ?_))
        go_ret
        exact ⟨ret_int (by rw [HE.out]), hB⟩
      · have H1 := Lib.hid hf1
        rw [hf1] at hno; clear hf1
        cases hf2 : fitsB q.win 2
        · have H2 := Lib.hid hf2
          have H3 := H2
          have H4 := H2
          have H5 := H2
          have H6 := H2
          clear hno hf2
          go_wp2_with (first | (go_at_call 51; refine (fits_any _ _ _).mono ?_; rintro e w' ⟨rfl, rfl⟩; (first | rw [H0.out] | rw [H1.out] | rw [H2.out] | rw [H3.out] | rw [H4.out] | rw [H5.out] | rw [H6.out] | skip)) | (go_at_call 31; refine (cTsize q A c A' c' _ (by omega) hl).mono ?_; rintro e w2 ⟨rfl, x2⟩; rw [HSZ.out]) | ((with_reducible show wpList _ _ _ (Oper.mk _ (Op.load 37 _) _ _ _ _ :: _) _ _); refine wpList_valw (by rfl) (run_load_ts rfl rfl hAt rfl) ?_))
          go_ret
          exact ⟨ret_int (by rw [HE.out]), hB⟩
        · have H2 := Lib.hid hf2
          rw [hf2] at hno; clear hf2
          cases hf3 : fitsB q.urg 2
          · have H3 := Lib.hid hf3
            have H4 := H3
            have H5 := H3
            have H6 := H3
            clear hno hf3
            go_wp2_with (first | (go_at_call 51; refine (fits_any _ _ _).mono ?_; rintro e w' ⟨rfl, rfl⟩; (first | rw [H0.out] | rw [H1.out] | rw [H2.out] | rw [H3.out] | rw [H4.out] | rw [H5.out] | rw [H6.out] | skip)) | (go_at_call 31; refine (cTsize q A c A' c' _ (by omega) hl).mono ?_; rintro e w2 ⟨rfl, x2⟩; rw [HSZ.out]) | ((with_reducible show wpList _ _ _ (Oper.mk _ (Op.load 37 _) _ _ _ _ :: _) _ _); refine wpList_valw (by rfl) (run_load_ts rfl rfl hAt rfl) ?_))
            go_ret
            exact ⟨ret_int (by rw [HE.out]), hB⟩
          · have H3 := Lib.hid hf3
            rw [hf3] at hno; clear hf3
            cases hf4 : fitsB q.seq 4
            · have H4 := Lib.hid hf4
              have H5 := H4
              have H6 := H4
              clear hno hf4
              go_wp2_with (first | (go_at_call 51; refine (fits_any _ _ _).mono ?_; rintro e w' ⟨rfl, rfl⟩; (first | rw [H0.out] | rw [H1.out] | rw [H2.out] | rw [H3.out] | rw [H4.out] | rw [H5.out] | rw [H6.out] | skip)) | (go_at_call 31; refine (cTsize q A c A' c' _ (by omega) hl).mono ?_; rintro e w2 ⟨rfl, x2⟩; rw [HSZ.out]) | ((with_reducible show wpList _ _ _ (Oper.mk _ (Op.load 37 _) _ _ _ _ :: _) _ _); refine wpList_valw (by rfl) (run_load_ts rfl rfl hAt rfl) ?_))
              go_ret
              exact ⟨ret_int (by rw [HE.out]), hB⟩
            · have H4 := Lib.hid hf4
              rw [hf4] at hno; clear hf4
              cases hf5 : fitsB q.ack 4
              · have H5 := Lib.hid hf5
                have H6 := H5
                clear hno hf5
                go_wp2_with (first | (go_at_call 51; refine (fits_any _ _ _).mono ?_; rintro e w' ⟨rfl, rfl⟩; (first | rw [H0.out] | rw [H1.out] | rw [H2.out] | rw [H3.out] | rw [H4.out] | rw [H5.out] | rw [H6.out] | skip)) | (go_at_call 31; refine (cTsize q A c A' c' _ (by omega) hl).mono ?_; rintro e w2 ⟨rfl, x2⟩; rw [HSZ.out]) | ((with_reducible show wpList _ _ _ (Oper.mk _ (Op.load 37 _) _ _ _ _ :: _) _ _); refine wpList_valw (by rfl) (run_load_ts rfl rfl hAt rfl) ?_))
                go_ret
                exact ⟨ret_int (by rw [HE.out]), hB⟩
              · have H5 := Lib.hid hf5
                rw [hf5] at hno; clear hf5
                rcases Decidable.em (¬ (0 ≤ q.res)) with hr0 | hr0
                · have dr0 : decide (q.res < 0) = true := by simp; omega
                  have H6 := H0
                  clear hno hr0
                  go_wp2_with (first | (go_at_call 51; refine (fits_any _ _ _).mono ?_; rintro e w' ⟨rfl, rfl⟩; (first | rw [H0.out] | rw [H1.out] | rw [H2.out] | rw [H3.out] | rw [H4.out] | rw [H5.out] | rw [H6.out] | skip)) | (go_at_call 31; refine (cTsize q A c A' c' _ (by omega) hl).mono ?_; rintro e w2 ⟨rfl, x2⟩; rw [HSZ.out]) | ((with_reducible show wpList _ _ _ (Oper.mk _ (Op.load 37 _) _ _ _ _ :: _) _ _); refine wpList_valw (by rfl) (run_load_ts rfl rfl hAt rfl) ?_))
                  go_ret
                  exact ⟨ret_int (by rw [HE.out]), hB⟩
                · have hr0 := Decidable.not_not.1 hr0
                  have dr0 : decide (q.res < 0) = false := by simp; omega
                  rcases Decidable.em (¬ (q.res < 16)) with hr1 | hr1
                  · have dr1 : decide (16 ≤ q.res) = true := by simp; omega
                    have H6 := H0
                    clear hno hr1
                    go_wp2_with (first | (go_at_call 51; refine (fits_any _ _ _).mono ?_; rintro e w' ⟨rfl, rfl⟩; (first | rw [H0.out] | rw [H1.out] | rw [H2.out] | rw [H3.out] | rw [H4.out] | rw [H5.out] | rw [H6.out] | skip)) | (go_at_call 31; refine (cTsize q A c A' c' _ (by omega) hl).mono ?_; rintro e w2 ⟨rfl, x2⟩; rw [HSZ.out]) | ((with_reducible show wpList _ _ _ (Oper.mk _ (Op.load 37 _) _ _ _ _ :: _) _ _); refine wpList_valw (by rfl) (run_load_ts rfl rfl hAt rfl) ?_))
                    go_ret
                    exact ⟨ret_int (by rw [HE.out]), hB⟩
                  · have hr1 := Decidable.not_not.1 hr1
                    have dr1 : decide (16 ≤ q.res) = false := by simp; omega
                    cases hf6 : fitsB q.flags 1
                    · have H6 := Lib.hid hf6
                      clear hno hf6
                      go_wp2_with (first | (go_at_call 51; refine (fits_any _ _ _).mono ?_; rintro e w' ⟨rfl, rfl⟩; (first | rw [H0.out] | rw [H1.out] | rw [H2.out] | rw [H3.out] | rw [H4.out] | rw [H5.out] | rw [H6.out] | skip)) | (go_at_call 31; refine (cTsize q A c A' c' _ (by omega) hl).mono ?_; rintro e w2 ⟨rfl, x2⟩; rw [HSZ.out]) | ((with_reducible show wpList _ _ _ (Oper.mk _ (Op.load 37 _) _ _ _ _ :: _) _ _); refine wpList_valw (by rfl) (run_load_ts rfl rfl hAt rfl) ?_))
                      go_ret
                      exact ⟨ret_int (by rw [HE.out]), hB⟩
                    · have H6 := Lib.hid hf6
                      rw [hf6] at hno; clear hf6
                      rcases Decidable.em (¬ (q.opt.length ≤ 40)) with ho0 | ho0
                      · have do0 : decide (40 < (q.opt.length : Int)) = true := by simp; omega
                        clear hno ho0
                        go_wp2_with (first | (go_at_call 51; refine (fits_any _ _ _).mono ?_; rintro e w' ⟨rfl, rfl⟩; (first | rw [H0.out] | rw [H1.out] | rw [H2.out] | rw [H3.out] | rw [H4.out] | rw [H5.out] | rw [H6.out] | skip)) | (go_at_call 31; refine (cTsize q A c A' c' _ (by omega) hl).mono ?_; rintro e w2 ⟨rfl, x2⟩; rw [HSZ.out]) | ((with_reducible show wpList _ _ _ (Oper.mk _ (Op.load 37 _) _ _ _ _ :: _) _ _); refine wpList_valw (by rfl) (run_load_ts rfl rfl hAt rfl) ?_))
                        go_ret
                        exact ⟨ret_int (by rw [HE.out]), hB⟩
                      · have ho0 := Decidable.not_not.1 ho0
                        have do0 : decide (40 < (q.opt.length : Int)) = false := by simp; omega
                        have ho1 : ¬ (q.opt.length % 4 = 0) := fun h => hno ⟨rfl, rfl, rfl, rfl, rfl, rfl, hr0, hr1, rfl, ho0, h⟩
                        have d3 : ((q.opt.length : Int).tmod 4 != 0) = true := by rw [Int.tmod_eq_emod_of_nonneg (by omega)]; simp; omega
                        have d3' : ((q.opt.length : Int) % 4 != 0) = true := by simp; omega
                        clear hno ho1
                        go_wp2_with (first | (go_at_call 51; refine (fits_any _ _ _).mono ?_; rintro e w' ⟨rfl, rfl⟩; (first | rw [H0.out] | rw [H1.out] | rw [H2.out] | rw [H3.out] | rw [H4.out] | rw [H5.out] | rw [H6.out] | skip)) | (go_at_call 31; refine (cTsize q A c A' c' _ (by omega) hl).mono ?_; rintro e w2 ⟨rfl, x2⟩; rw [HSZ.out]) | ((with_reducible show wpList _ _ _ (Oper.mk _ (Op.load 37 _) _ _ _ _ :: _) _ _); refine wpList_valw (by rfl) (run_load_ts rfl rfl hAt rfl) ?_))
                        go_ret
                        exact ⟨ret_int (by rw [HE.out]), hB⟩

def numsT (q : PT) : List Int := [q.src, q.dst, q.seq, q.ack, q.res, q.flags, q.win, q.urg]
end
theorem nine_index (ps : List (Int × Int)) (hl : ps.length = 9) {k : Nat} {x : Int × Int} (hx : ps[k]? = some x) : ∀ w, (Instr.index 100 (.agg (flat ps).toArray) (.int .i64 (k : Int))).run Try.prog w = .ok (.agg #[.int .i64 x.1, .int .i64 x.2]) w := by
  match ps, hl with
  | [p0, p1, p2, p3, p4, p5, p6, p7, p8], _ =>
    have hk : k < 9 := by have := (List.getElem?_eq_some_iff.1 hx).1; simpa using this
    have h : k = 0 ∨ k = 1 ∨ k = 2 ∨ k = 3 ∨ k = 4 ∨ k = 5 ∨ k = 6 ∨ k = 7 ∨ k = 8 := by omega
    intro w
    rcases h with rfl | rfl | rfl | rfl | rfl | rfl | rfl | rfl | rfl <;> (simp at hx; subst hx; kernel_rfl)
section
variable (q : PT) (A : Option Addr) (c : Nat) (A' : Option Addr) (c' : Nat) (w : World)
set_option maxRecDepth 100000 in
set_option maxHeartbeats 2000000 in
theorem cThead (s : Int) (hd : List UInt8) (hhd : Hid (hd = hdT q s)) (ha : argT q) (s0 : 0 ≤ s) (s1 : s ≤ 65535) :
    Calls Try.prog 32 #[tsv q A c A' c', .int .i64 s] w fun e w' => ∃ v, e = .returned v ∧ Made w w' v hd := by
  have hB : Below w.heap.size w (w.alloc (.cells (tsa q A c A' c') 37)) := (Below.refl w.heap.size w).alloc (Nat.le_refl _) _
  have hAt := Atts.new (q := q) (A := A) (c := c) (A' := A') (c' := c') w
  have hz : w.heap.size < (w.alloc (.cells (tsa q A c A' c') 37)).heap.size := by simp
  rw [tsv_eq]
  have ho40 : q.opt.length ≤ 40 := by obtain ⟨_, _, _, _, _, _, _, _, _, _, _, _, _, _, _, _, h, _⟩ := ha; exact h
  have hr : 0 ≤ q.res ∧ q.res ≤ 15 := by obtain ⟨_, _, _, _, _, _, _, _, _, _, _, _, h1, h2, _⟩ := ha; exact ⟨h1, h2⟩
  obtain ⟨PS, hPS⟩ : ∃ l, l = nineT q s := ⟨_, rfl⟩
  have HPA := Lib.hid (show flat (nineT q s) = flat PS by rw [hPS])
  have HPP := Lib.hid (show hd = putL PS by rw [hPS, hhd.out]; exact (nineT_put q s ha s0 s1).symm)
  have HPL := Lib.hid (show PS.length = 9 by rw [hPS]; rfl)
  have HP4 := Lib.hid (show ∀ x ∈ PS, x.2.toNat ≤ 4 by rw [hPS]; simp [nineT])
  have hln : IntKind.i64.wrap (IntKind.i64.wrap (Int.tdiv (20 + (q.opt.length : Int)) 4 * 16) + q.res) = lineT q := by
    rw [Int.tdiv_eq_ediv_of_nonneg (by omega), IntWalk.i64_in ((20 + (q.opt.length : Int)) / 4 * 16) (by omega), IntWalk.i64_in _ (by omega)]; rfl
  have HLN := Lib.hid hln
  have HLD := Lib.hid (show lineT q = (20 + (q.opt.length : Int)) / 4 * 16 + q.res from rfl)
  clear hPS hln
  have k0 := hAt.src; have k1 := hAt.dst; have k2 := hAt.seq; have k3 := hAt.ack; have k4 := hAt.res; have k5 := hAt.flags; have k6 := hAt.win; have k7 := hAt.urg; have k8 := hAt.opt
  go_enter Try.func32, Try.ntmps32
  go_upto_region 2 with fail
  generalize w.alloc (.cells (tsa q A c A' c') 37) = W at *
  go_wp2_with fail
  rw [show #[Value.int .i64 q.src, .int .i64 2, .int .i64 q.dst, .int .i64 2, .int .i64 q.seq, .int .i64 4, .int .i64 q.ack, .int .i64 4, .int .i64 ((20 + (q.opt.length : Int)) / 4 * 16 + q.res), .int .i64 1, .int .i64 q.flags, .int .i64 1, .int .i64 q.win, .int .i64 2, .int .i64 s, .int .i64 2, .int .i64 q.urg, .int .i64 2] = (flat PS).toArray from by rw [← HPA.out]; rfl]
  have HL := Lib.hid (fun k => (putL_len (PS.take k) (fun x hx => HP4.out x (List.mem_of_mem_take hx))))
  go_loopw [5, 42] (fun v i W' => ∃ (k c : Nat) (A : Option Addr) (bs : List UInt8), k ≤ 9 ∧ i = .int .i64 (k : Int) ∧ Hid (bs = putL (PS.take k)) ∧ bs.length ≤ 40 ∧ v = .slice A bs.length c ∧ W'.ownsRow W.heap.size 5 1 (.slice A bs.length c) bs.length (row bs) ∧ Below W.heap.size W W') (fun _ i _ => 9 - (intOf i).toNat)
  case atStart => exact ⟨0, 0, none, [], Nat.zero_le _, rfl, Lib.hid rfl, by simp, rfl, World.ownsRow_nil _ _ _ _, Below.refl _ _⟩
  case round =>
    obtain ⟨k, ck, Ak, bs, hk, rfl, HB, hb40, rfl, hown, hbel⟩ := hrel
    have hsW := hbel.size
    by_cases hlt : k < 9
    · obtain ⟨x, hx⟩ : ∃ x, PS[k]? = some x := ⟨_, List.getElem?_eq_getElem (by rw [HPL.out]; exact hlt)⟩
      have hidx := nine_index PS HPL.out hx
      have HX := Lib.hid hx
      clear hx
      obtain ⟨n, s⟩ := x
      simp only at hidx
      go_wp2_with (go_at_call 52; refine (put_any Ak bs ck _ n s _ (arg_own (own_below hown ((Below.refl _ _).alloc (Nat.le_refl _) _))).rd (Nat.le_refl _) (by omega)).mono ?_; rintro e w2 ⟨v2, rfl, A2, c2, rfl, l2, rd2, ow2, x2⟩)
      have hz2 := x2.size
      have bel2 : Below W.heap.size W w2 := (hbel.alloc hbel.size _).trans (x2.mono (by simp; exact Nat.le_succ_of_le hbel.size))
      have own2 : w2.ownsRow W.heap.size 5 1 (.slice A2 (putB bs n s).length c2) (putB bs n s).length (row (putB bs n s)) := own_base ow2 (by simp; exact Nat.le_succ_of_le hbel.size)
      have HP := Lib.hid (putL_take PS HX.out)
      have h40 : (putB bs n s).length ≤ 40 := by
        rw [HB.out, ← HP.out]
        have := HL.out (k + 1)
        have h2 : (PS.take (k + 1)).length ≤ PS.length := by rw [List.length_take]; omega
        have := HPL.out
        omega
      go_roundw
      case rel => exact ⟨k + 1, c2, A2, _, by omega, by simp, Lib.hid (by rw [HP.out, HB.out]), h40, rfl, own2, bel2⟩
      case measure => simp [intOf]; omega
    · obtain rfl : k = 9 := by omega
      have HBS := Lib.hid (show hd = bs by rw [HPP.out, HB.out, List.take_of_length_le (by rw [HPL.out]; exact Nat.le_refl _)])
      go_wp2_with fail
      go_ret
      obtain rfl : hd = bs := HBS.out
      exact ⟨_, rfl, (Made.of_own hown hbel).after hB⟩
end
end Go.Proofs.Ytodlfdnegcfhcaa

/-
  Contracts of layer 8's Same, the program's and the document's; of the document's Check. Conditions are each theorem's own.
-/
namespace Go.Proofs.Ytodlfdnegcfhcaa
open Go.RowKit

theorem sameT_nums (q r : PT) : sameT q r = (decide (numsT q = numsT r) && decide (q.opt = r.opt) && decide (q.dat = r.dat)) := by
  rw [sameT, Bool.eq_iff_iff]; simp [numsT, and_assoc]
section
variable (q r : PT) (A : Option Addr) (c : Nat) (A' : Option Addr) (c' : Nat) (X : Option Addr) (d : Nat) (X' : Option Addr) (d' B : Nat) (w : World)
end
def twoB (q : PT) : Bool := fitsB q.src 2 && fitsB q.dst 2 && fitsB q.win 2 && fitsB q.urg 2
def fourB (q : PT) : Bool := fitsB q.seq 4 && fitsB q.ack 4 && fitsB q.flags 1 && decide (0 ≤ q.res) && decide (q.res ≤ 15)
theorem argT_two (q : PT) : argT q ↔ (twoB q = true ∧ fourB q = true ∧ q.opt.length ≤ 40 ∧ q.opt.length % 4 = 0) := by
  rw [argT_iff]
  simp only [twoB, fourB, Bool.and_eq_true, decide_eq_true_eq]
  constructor
  · rintro ⟨h0, h1, h2, h3, h4, h5, h6, h7, h8, h9, h10⟩; exact ⟨⟨⟨⟨h0, h1⟩, h2⟩, h3⟩, ⟨⟨⟨⟨h4, h5⟩, h8⟩, h6⟩, by omega⟩, h9, h10⟩
  · rintro ⟨⟨⟨⟨h0, h1⟩, h2⟩, h3⟩, ⟨⟨⟨⟨h4, h5⟩, h8⟩, h6⟩, h7⟩, h9, h10⟩; exact ⟨h0, h1, h2, h3, h4, h5, h6, by omega, h8, h9, h10⟩
section
variable (q : PT) (A : Option Addr) (c : Nat) (A' : Option Addr) (c' : Nat) (w : World)
end
end Go.Proofs.Ytodlfdnegcfhcaa

/-
  Contracts of slices.Grow at nil, and of slices.Concat, over bytes. Conditions are each theorem's own.
-/
namespace Go.Proofs.Ytodlfdnegcfhcaa
open Go.RowKit

set_option maxHeartbeats 1000000 in
theorem grow_nil (n : Nat) (h0 : 0 < n) (h1 : n ≤ 1000000000) (w : World) :
    Calls Try.prog 53 #[.slice none 0 0, .int .i64 (n : Int)] w fun e w' => ∃ v, e = .returned v ∧ w'.ownsRow w.heap.size 5 1 v 0 (row []) ∧ Below w.heap.size w w' := by
  obtain ⟨i0, hi, hz0, hz1, hz2⟩ := info_parts info_u8
  have hold : (Builtin.firstCells i0.size 0 (.slice none 0 0)).run Try.prog w.drew = .ok ([] : List Value).toArray w.drew := run_firstCells_none w.drew i0.size 0 0 0
  have hfit : Builtin.nextslicecap (0 + n) 0 * i0.bytes ≤ 281474976710656 := by
    rw [hz2]; exact growslice_fits (by omega) (by omega)
  have hrz : ∀ ty, (Builtin.append_ #[22, 3] ty #[.slice none 0 0, .int .i64 (n : Int)]).run Try.prog w =
      .ok (.slice (some ⟨w.heap.size, 0, none⟩) n (grownCap w n 0 5)) (w.drew.alloc (.cells (([] : List Value).toArray ++ Builtin.zeroCells (Value.int .u8 0).cells n ++ Builtin.zeroCells (Value.int .u8 0).cells (grownCap w n 0 5 - n)) 5)) := fun ty => by
    have h := Lib.run_append_grow_zeros w 22 3 ty 5 i0 (.int .u8 0) .i64 .i64 Try.underlying22 Try.underlying3 hi hz0 none 0 0 [] hold n h0 (by omega) (by omega) (by omega) (by rw [hz2]; omega) hfit
    rw [Nat.zero_add] at h; exact h
  have hge : n ≤ grownCap w n 0 5 := grownCap_ge w _ _ _
  have hle := grownCap_le_maxLen w n 0 5 (by unfold maxLen; omega)
  obtain ⟨G, hG⟩ : ∃ G, G = grownCap w n 0 5 := ⟨_, rfl⟩
  rw [← hG] at hrz hge hle
  have hG63 : G ≤ 9223372036854775807 := by unfold maxLen at hle; omega
  have hHle := Lib.hid hle
  have dn : decide ((n : Int) < 0) = false := by simp
  clear hG hold hfit hle hi hz0 hz1 hz2
  go_enter Try.func53, Try.ntmps53
  go_wp2_with (at_builtin; refine Lib.wpList_append_run _ rfl _ _ _ _ rfl _ _ rfl rfl _ _ (hrz _) ?_)
  go_ret
  have hsz : (Builtin.zeroCells #[Value.int .u8 0] n ++ Builtin.zeroCells #[Value.int .u8 0] (G - n)).size = G := by
    simp only [Array.size_append, size_zeroCells]
    show n * 1 + (G - n) * 1 = G
    omega
  exact ⟨_, rfl, ⟨rfl, .inr ⟨w.heap.size, G, Builtin.zeroCells #[Value.int .u8 0] n ++ Builtin.zeroCells #[Value.int .u8 0] (G - n), rfl, Nat.le_refl _, World.alloc_heap_new w _, Nat.zero_le _, hHle.out, by rw [hsz, Nat.mul_one], by simp [row]⟩⟩, (((Below.refl _ w).alloc (Nat.le_refl _) _).drew)⟩
theorem flatten_take (ps : List (List UInt8)) {k : Nat} {bs : List UInt8} (h : ps[k]? = some bs) : (ps.take (k + 1)).flatten = (ps.take k).flatten ++ bs := by
  rw [List.take_add_one, h]; simp
theorem bulk_flatten (ps : List (List UInt8)) : ps.flatten.length = bulk ps := by simp [bulk, List.length_flatten]
set_option maxRecDepth 100000 in
set_option maxHeartbeats 2000000 in
theorem concat_any (A : Option Addr) (ps : List (List UInt8)) (c B : Nat) (w : World) (h : Rd2 w B A ps) (hB : B ≤ w.heap.size) (h0 : 0 < bulk ps) (hl : bulk ps ≤ 1000000) (hn : ps.length ≤ 1000) (hn0 : 0 < ps.length) :
    Calls Try.prog 33 #[.slice A ps.length c] w fun e w' => ∃ v, e = .returned v ∧ Made w w' v ps.flatten := by
  obtain ⟨b, off, rfl, hbB, hcell⟩ := h hn0
  have HC := Lib.hid hcell
  have HBT := Lib.hid (fun (k : Nat) (bs : List UInt8) (h : ps[k]? = some bs) => (⟨bulk_take ps h, len_bulk h⟩ : bulk (ps.take (k + 1)) = bulk (ps.take k) + bs.length ∧ bs.length ≤ bulk ps))
  have HBL := Lib.hid (bulk_le ps)
  clear hcell h
  obtain ⟨T, hT⟩ : ∃ n, n = bulk ps := ⟨_, rfl⟩
  rw [← hT] at h0 hl HBT HBL
  have HT := Lib.hid hT
  clear hT
  go_enter Try.func33, Try.ntmps33
  go_wp2_with fail
  go_loop [3, 5, 11] (fun s _ i => ∃ k : Nat, ∃ m : Nat, k ≤ ps.length ∧ Hid (m = bulk (ps.take k)) ∧ m ≤ 1000000 ∧ i = .int .i64 (k : Int) ∧ s = .int .i64 (m : Int)) (fun _ _ i => ps.length - (intOf i).toNat)
  case atStart => exact ⟨0, 0, Nat.zero_le _, Lib.hid rfl, by omega, rfl, rfl⟩
  case round =>
    obtain ⟨k, m, hk, Hm, hm, rfl, rfl⟩ := hrel
    by_cases hlt : k < ps.length
    · obtain ⟨bs, hbs⟩ : ∃ bs, ps[k]? = some bs := ⟨_, List.getElem?_eq_getElem hlt⟩
      obtain ⟨Aj, cj, hcj, harg⟩ := HC.out k bs hbs
      obtain ⟨e1, e2⟩ := HBT.out k bs hbs
      have e3 := HBL.out (k + 1)
      have hmb : m + bs.length ≤ 1000000 := by have := Hm.out; omega
      have HN := Lib.hid (show m + bs.length = bulk (ps.take (k + 1)) by rw [e1, Hm.out])
      have dn : decide ((m : Int) + (bs.length : Int) < 0) = false := by simp; omega
      clear e1 e2 e3 harg hbs
      go_wp2_with fail
      go_round
      case rel => exact ⟨k + 1, m + bs.length, by omega, HN, hmb, by go_num, by go_num⟩
      case measure => simp [intOf]; omega
    · obtain rfl : k = ps.length := by omega
      have HM := Lib.hid (show m = T by rw [Hm.out, List.take_length, HT.out])
      obtain rfl : m = T := HM.out
      clear Hm
      go_wp2_with (go_at_call 53; refine (grow_nil m h0 (by omega) _).mono ?_; rintro e w1 ⟨v1, rfl, own1, x1⟩)
      go_loopw [6, 8, 27] (fun v _ i W => ∃ k : Nat, ∃ bs : List UInt8, k ≤ ps.length ∧ Hid (bs = (ps.take k).flatten) ∧ bs.length ≤ 1000000 ∧ i = .int .i64 (k : Int) ∧ W.ownsRow w.heap.size 5 1 v bs.length (row bs) ∧ Below w.heap.size w W) (fun _ _ i _ => ps.length - (intOf i).toNat)
      case atStart => exact ⟨0, [], Nat.zero_le _, Lib.hid rfl, by simp, rfl, own1, x1⟩
      case round =>
        obtain ⟨k, bs, hk, Hb, hbl, rfl, hown, hbel⟩ := hrel
        by_cases hlt : k < ps.length
        · obtain ⟨b2, hbs⟩ : ∃ b2, ps[k]? = some b2 := ⟨_, List.getElem?_eq_getElem hlt⟩
          obtain ⟨Aj, cj, hcj, harg⟩ := HC.out k b2 hbs
          have hcj' := (hbel.cell (p := ⟨b, off + k, none⟩) (Nat.lt_of_lt_of_le hbB hB)).trans hcj
          have harg' := harg.below (hbel.mono hB)
          have hcap := harg.none_
          have HN := Lib.hid (show bs ++ b2 = (ps.take (k + 1)).flatten by rw [flatten_take ps hbs, Hb.out])
          obtain ⟨e1, e2⟩ := HBT.out k b2 hbs
          have hnb : (bs ++ b2).length ≤ 1000000 := by
            rw [HN.out, bulk_flatten]; have := HBL.out (k + 1); omega
          have hnb' : bs.length + b2.length ≤ 1000000 := by rw [List.length_append] at hnb; exact hnb
          clear e1 e2 hcj harg hbs
          go_wp2_with (at_builtin; refine append_rd rfl _ _ rfl w.heap.size _ _ _ rfl hown B Aj cj b2 rfl hcap harg'.rd (by omega) hbel.size ?_; intro v5 w5 own5 grow5)
          have x5 := hbel.grown grow5 hbel.size (fun k hk => own_block_ge hown k hk)
          have own6 : w5.ownsRow w.heap.size 5 1 v5 (bs ++ b2).length (row (bs ++ b2)) := by rw [List.length_append, row_append]; exact own5
          go_roundw
          case rel => exact ⟨k + 1, bs ++ b2, by omega, HN, hnb, by go_num, own6, x5⟩
          case measure => simp [intOf]; omega
        · obtain rfl : k = ps.length := by omega
          go_wp2_with fail
          go_ret
          have e : bs = ps.flatten := by rw [Hb.out, List.take_length]
          subst e
          exact ⟨_, rfl, Made.of_own hown hbel⟩
theorem concat_three (A : Option Addr) (a b d : List UInt8) (c B : Nat) (R : List UInt8) (hR : Hid (R = a ++ b ++ d)) (w : World) (h : Rd2 w B A [a, b, d]) (hB : B ≤ w.heap.size) (h0 : 0 < a.length) (hl : a.length + b.length + d.length ≤ 1000000) :
    Calls Try.prog 33 #[.slice A 3 c] w fun e w' => ∃ v, e = .returned v ∧ Made w w' v R := by
  have h1 := concat_any A [a, b, d] c B w h hB (by rw [bulk3]; omega) (by rw [bulk3]; omega) (by simp) (by simp)
  have e : [a, b, d].flatten = R := by rw [hR.out]; simp
  rw [e] at h1
  exact h1
end Go.Proofs.Ytodlfdnegcfhcaa

/-
  Contracts of layer 8's Build, the program's and the document's. Conditions are each theorem's own.
-/
namespace Go.Proofs.Ytodlfdnegcfhcaa
open Go.RowKit

theorem of_four (A : Option Addr) (a b d e : List UInt8) (c B : Nat) (N : Int) (hN : Hid (N = 65535 - fold (psum [a, b, d, e]))) (w : World) (h : Rd2 w B A [a, b, d, e]) (hB : B ≤ w.heap.size) (hl : a.length + b.length + d.length + e.length ≤ 1099511627000) :
    Calls Try.prog 30 #[.slice A 4 c] w fun x w' => x = .returned (.int .i64 N) ∧ Below w.heap.size w w' := by
  have h1 := of_any A [a, b, d, e] c B w h hB (by rw [bulk4]; omega) (by simp)
  rw [← hN.out] at h1
  exact h1
section
variable (q : PT) (A : Option Addr) (c : Nat) (A' : Option Addr) (c' : Nat) (src dst : Int) (w : World)
set_option maxRecDepth 100000 in
set_option maxHeartbeats 2000000 in
theorem cTbuild (B : Nat) (hO : Arg w B A c q.opt) (hD : Arg w B A' c' q.dat) (hB0 : B ≤ w.heap.size) (ho0 : q.opt.length ≤ 1000000) (hl : q.dat.length ≤ 900000) :
    Calls Try.prog 16 #[.int .i64 src, .int .i64 dst, tsv q A c A' c'] w fun e w' => ∃ v, e = .returned (.tuple #[v, .int .i64 (chkT q)]) ∧ (chkT q ≠ 0 → v = .slice none 0 0 ∧ Below w.heap.size w w') ∧ (chkT q = 0 → Made w w' v (bldT src dst q)) := by
  have hl : q.dat.length ≤ 1000000 := by omega
  have hB : Below w.heap.size w (w.alloc (.cells (tsa q A c A' c') 37)) := (Below.refl w.heap.size w).alloc (Nat.le_refl _) _
  have hAt := Atts.new (q := q) (A := A) (c := c) (A' := A') (c' := c') w
  have hz : w.heap.size < (w.alloc (.cells (tsa q A c A' c') 37)).heap.size := by simp
  rw [tsv_eq]
  go_enter Try.func16, Try.ntmps16
  go_upto_region 1 with fail
  generalize w.alloc (.cells (tsa q A c A' c') 37) = W at *
  by_cases hc : chkT q = 0
  · obtain ⟨ha, hz1⟩ := chkT_ok hc
    have ho40 : q.opt.length ≤ 40 := by obtain ⟨_, _, _, _, _, _, _, _, _, _, _, _, _, _, _, _, h, _⟩ := ha; exact h
    have HC := Lib.hid hc
    clear hc
    obtain ⟨Z, hZ⟩ : ∃ n, n = sizeT q := ⟨_, rfl⟩
    have HSZ := Lib.hid hZ.symm
    obtain ⟨PS, hPS⟩ : ∃ l, l = psd src dst 6 Z := ⟨_, rfl⟩
    obtain ⟨HD, hHD⟩ : ∃ l, l = hdT q 0 := ⟨_, rfl⟩
    obtain ⟨N, hN⟩ : ∃ n, n = smT src dst q := ⟨_, rfl⟩
    obtain ⟨HE, hHE⟩ : ∃ l, l = hdT q N := ⟨_, rfl⟩
    have HSM := Lib.hid (show smT src dst q = 65535 - fold (psum [PS, HD, q.opt, q.dat]) by rw [hPS, hHD, hZ]; rfl)
    have HPL := Lib.hid (show PS.length = 12 by rw [hPS, psd_len])
    have HHL := Lib.hid (show HD.length = 20 by rw [hHD, hdT_len])
    have HEL := Lib.hid (show HE.length = 20 by rw [hHE, hdT_len])
    have HBL := Lib.hid (show bldT src dst q = HE ++ q.opt ++ q.dat by rw [hHE, hN]; rfl)
    have bd := smT_bd src dst q
    have hN0 : 0 ≤ N := by rw [hN]; exact bd.1
    have hN1 : N ≤ 65535 := by rw [hN]; exact bd.2
    have HPS := Lib.hid hPS; have HHD := Lib.hid hHD; have HHE := Lib.hid hHE; have HNN := Lib.hid hN
    have hsz : sizeT q = 20 + (q.opt.length : Int) + (q.dat.length : Int) := rfl
    have hdl : q.dat.length ≤ 65535 := by omega
    clear hPS hHD hHE hN hZ hz1 bd hsz
    go_upto_region 4 with (first
      | ((with_reducible show wpList _ _ _ (Oper.mk _ (Op.load 37 _) _ _ _ _ :: _) _ _); refine wpList_val rfl (run_load_ts rfl rfl hAt rfl) ?_)
      | (go_at_call 29; refine (cTcheck q A c A' c' _ hl ho0).mono ?_; rintro e w1 ⟨rfl, x1⟩; rw [HC.out]))
    refine wp_region_held_drew (S := fun w' => Below W.heap.size W w') (by kernel_rfl) x1.drew (fun hS => ?_)
    refine held_pure (i := 0) (oi := ⟨some 15, _, _, _, _, _⟩) rfl (by kernel_rfl) (by kernel_rfl) (by kernel_rfl) (fun _ _ _ h => h) (by rfl) (v := ?_) (fun w hSw => ?_) hS (fun hS => ?_)
    rotate_left
    · go_simp; try with_reducible rfl
    try go_frame
    refine held_pure (i := 1) (oi := ⟨some 16, _, _, _, _, _⟩) rfl (by kernel_rfl) (by kernel_rfl) (by kernel_rfl) (fun _ _ _ h => h) (by rfl) (v := ?_) (fun w hSw => ?_) hS (fun hS => ?_)
    rotate_left
    · go_simp; try with_reducible rfl
    try go_frame
    refine held_pure (i := 2) (oi := ⟨some 17, _, _, _, _, _⟩) rfl (by kernel_rfl) (by kernel_rfl) (by kernel_rfl) (fun _ _ _ h => h) (by rfl) (fun w hSw => run_load_ts rfl rfl (hAt.below hSw (by omega)) rfl) hS (fun hS => ?_)
    try go_frame
    refine held_pure (i := 5) (oi := ⟨some 20, _, _, _, _, _⟩) rfl (by kernel_rfl) (by kernel_rfl) (by kernel_rfl) (fun _ _ _ h => h) (by rfl) (fun w hSw => run_load_ts rfl rfl (hAt.below hSw (by omega)) rfl) hS (fun hS => ?_)
    try go_frame
    refine held_pure (i := 7) (oi := ⟨some 22, _, _, _, _, _⟩) rfl (by kernel_rfl) (by kernel_rfl) (by kernel_rfl) (fun _ _ _ h => h) (by rfl) (v := ?_) (fun w hSw => ?_) hS (fun hS => ?_)
    rotate_left
    · go_simp; try with_reducible rfl
    try go_frame
    refine held_pure (i := 8) (oi := ⟨some 23, _, _, _, _, _⟩) rfl (by kernel_rfl) (by kernel_rfl) (by kernel_rfl) (fun _ _ _ h => h) (by rfl) (fun w hSw => run_load_sl rfl rfl ((hAt.below hSw (by omega)).opt)) hS (fun hS => ?_)
    try go_frame
    refine held_pure (i := 9) (oi := ⟨some 24, _, _, _, _, _⟩) rfl (by kernel_rfl) (by kernel_rfl) (by kernel_rfl) (fun _ _ _ h => h) (by rfl) (v := ?_) (fun w hSw => ?_) hS (fun hS => ?_)
    rotate_left
    · go_simp; try with_reducible rfl
    try go_frame
    refine held_pure (i := 10) (oi := ⟨some 25, _, _, _, _, _⟩) rfl (by kernel_rfl) (by kernel_rfl) (by kernel_rfl) (fun _ _ _ h => h) (by rfl) (fun w hSw => run_load_sl rfl rfl ((hAt.below hSw (by omega)).dat)) hS (fun hS => ?_)
    try go_frame
    refine wpAnyH_ready (rs := [3]) (by kernel_rfl) (by simp) (AllReadyH.cons (o := ⟨some 18, _, _, _, _, _⟩) rfl (fun K hK => ?_) AllReadyH.nil)
    rw [if_pos (by rfl)]
    go_simp
    refine (cTsize q A c A' c' _ (by omega) hl).mono ?_
    rintro e w3 ⟨rfl, x3⟩
    rw [HSZ.out]
    show K _ _
    refine hK.out _ _ (below_step hS x3) (fun hS => ?_)
    clear hK K
    try go_frame
    refine wpAnyH_ready (rs := [4]) (by kernel_rfl) (by simp) (AllReadyH.cons (o := ⟨some 19, _, _, _, _, _⟩) rfl (fun K hK => ?_) AllReadyH.nil)
    rw [if_pos (by rfl)]
    go_simp
    refine (psd_any src dst 6 Z _).mono ?_
    rintro e w4 ⟨v4, rfl, m4⟩
    rw [← HPS.out] at m4
    obtain ⟨A4, c4, rfl, g4, o4, x4⟩ := made_shape m4
    show K _ _
    refine hK.out _ _ (below_step hS x4) (fun hS => ?_)
    clear hK K
    try go_frame
    refine wpAnyH_ready (rs := [6]) (by kernel_rfl) (by simp) (AllReadyH.cons (o := ⟨some 21, _, _, _, _, _⟩) rfl (fun K hK => ?_) AllReadyH.nil)
    rw [if_pos (by rfl)]
    go_simp
    refine (cThead q A c A' c' _ 0 HD HHD ha (by omega) (by omega)).mono ?_
    rintro e w6 ⟨v6, rfl, m6⟩
    obtain ⟨A6, c6, rfl, g6, o6, x6⟩ := made_shape m6
    have hS6 := below_step hS x6
    show K _ _
    refine hK.out _ _ (below_step hS x6) (fun hS => ?_)
    clear hK K
    try go_frame
    refine wpAnyH_ready (rs := [11]) (by kernel_rfl) (by simp) (AllReadyH.cons (o := ⟨some 26, _, _, _, _, _⟩) rfl (fun K hK => ?_) AllReadyH.nil)
    rw [if_pos (by rfl)]
    go_simp
    refine hK.out _ _ (hS.alloc hS.size _) (fun hS => ?_)
    clear hK K
    try go_frame
    refine wpAnyH_ready (rs := [12]) (by kernel_rfl) (by simp) (AllReadyH.cons (o := ⟨some 27, _, _, _, _, _⟩) rfl (fun K hK => ?_) AllReadyH.nil)
    rw [if_pos (by rfl)]
    go_simp
    refine (of_four (some ⟨w6.heap.size, 0, none⟩) PS HD q.opt q.dat 4 _ (smT src dst q) HSM _ (Rd2.four rfl rfl rfl rfl (World.alloc_heap_new w6 _) (Nat.lt_succ_self _) (((g4.below x6).alloc x6.size _).more (by have := x6.size; omega)) ((g6.alloc (Nat.le_refl _) _).more (Nat.le_succ _)) (((hO.below ((hB.trans (hS6.mono (by omega))).mono hB0)).alloc (by have := hS6.size; omega) _).more (by have := hS6.size; omega)) (((hD.below ((hB.trans (hS6.mono (by omega))).mono hB0)).alloc (by have := hS6.size; omega) _).more (by have := hS6.size; omega))) (by simp) (by have := HPL.out; have := HHL.out; omega)).mono ?_
    rintro e w12 ⟨rfl, x12⟩
    show K _ _
    refine hK.out _ _ (below_step hS x12) (fun hS => ?_)
    clear hK K
    try go_frame
    refine held_pure (i := 13) (oi := ⟨some 9, _, _, _, _, _⟩) rfl (by kernel_rfl) (by kernel_rfl) (by kernel_rfl) (fun _ _ _ h => h) (by rfl) (v := ?_) (fun w hSw => ?_) hS (fun hS => ?_)
    rotate_left
    · go_simp; try with_reducible rfl
    try go_frame
    refine wpAnyH_done (by kernel_rfl) ?_ _
    rw [← HNN.out]
    go_upto_region 5 with fail
    refine wp_region_held_drew (S := fun w' => Below W.heap.size W w') (by kernel_rfl) hS.drew (fun hS => ?_)
    refine held_pure (i := 0) (oi := ⟨some 28, _, _, _, _, _⟩) rfl (by kernel_rfl) (by kernel_rfl) (by kernel_rfl) (fun _ _ _ h => h) (by rfl) (fun w hSw => run_load_ts rfl rfl (hAt.below hSw (by omega)) rfl) hS (fun hS => ?_)
    try go_frame
    refine held_pure (i := 1) (oi := ⟨some 29, _, _, _, _, _⟩) rfl (by kernel_rfl) (by kernel_rfl) (by kernel_rfl) (fun _ _ _ h => h) (by rfl) (v := ?_) (fun w hSw => ?_) hS (fun hS => ?_)
    rotate_left
    · go_simp; try with_reducible rfl
    try go_frame
    refine held_pure (i := 3) (oi := ⟨some 31, _, _, _, _, _⟩) rfl (by kernel_rfl) (by kernel_rfl) (by kernel_rfl) (fun _ _ _ h => h) (by rfl) (v := ?_) (fun w hSw => ?_) hS (fun hS => ?_)
    rotate_left
    · go_simp; try with_reducible rfl
    try go_frame
    refine held_pure (i := 4) (oi := ⟨some 32, _, _, _, _, _⟩) rfl (by kernel_rfl) (by kernel_rfl) (by kernel_rfl) (fun _ _ _ h => h) (by rfl) (fun w hSw => run_load_sl rfl rfl ((hAt.below hSw (by omega)).opt)) hS (fun hS => ?_)
    try go_frame
    refine held_pure (i := 5) (oi := ⟨some 33, _, _, _, _, _⟩) rfl (by kernel_rfl) (by kernel_rfl) (by kernel_rfl) (fun _ _ _ h => h) (by rfl) (v := ?_) (fun w hSw => ?_) hS (fun hS => ?_)
    rotate_left
    · go_simp; try with_reducible rfl
    try go_frame
    refine held_pure (i := 6) (oi := ⟨some 34, _, _, _, _, _⟩) rfl (by kernel_rfl) (by kernel_rfl) (by kernel_rfl) (fun _ _ _ h => h) (by rfl) (fun w hSw => run_load_sl rfl rfl ((hAt.below hSw (by omega)).dat)) hS (fun hS => ?_)
    try go_frame
    refine wpAnyH_ready (rs := [2]) (by kernel_rfl) (by simp) (AllReadyH.cons (o := ⟨some 30, _, _, _, _, _⟩) rfl (fun K hK => ?_) AllReadyH.nil)
    rw [if_pos (by rfl)]
    go_simp
    refine (cThead q A c A' c' _ N HE HHE ha hN0 hN1).mono ?_
    rintro e w6 ⟨v6, rfl, m6⟩
    obtain ⟨A6, c6, rfl, g6, o6, x6⟩ := made_shape m6
    have hS6 := below_step hS x6
    show K _ _
    refine hK.out _ _ (below_step hS x6) (fun hS => ?_)
    clear hK K
    try go_frame
    refine wpAnyH_ready (rs := [7]) (by kernel_rfl) (by simp) (AllReadyH.cons (o := ⟨some 35, _, _, _, _, _⟩) rfl (fun K hK => ?_) AllReadyH.nil)
    rw [if_pos (by rfl)]
    go_simp
    refine hK.out _ _ (hS.alloc hS.size _) (fun hS => ?_)
    clear hK K
    try go_frame
    refine wpAnyH_ready (rs := [8]) (by kernel_rfl) (by simp) (AllReadyH.cons (o := ⟨some 36, _, _, _, _, _⟩) rfl (fun K hK => ?_) AllReadyH.nil)
    rw [if_pos (by rfl)]
    go_simp
    refine (concat_three (some ⟨w6.heap.size, 0, none⟩) HE q.opt q.dat 3 _ (bldT src dst q) HBL _ (Rd2.three rfl rfl rfl (World.alloc_heap_new w6 _) (Nat.lt_succ_self _) ((g6.alloc (Nat.le_refl _) _).more (Nat.le_succ _)) (((hO.below ((hB.trans (hS6.mono (by omega))).mono hB0)).alloc (by have := hS6.size; omega) _).more (by have := hS6.size; omega)) (((hD.below ((hB.trans (hS6.mono (by omega))).mono hB0)).alloc (by have := hS6.size; omega) _).more (by have := hS6.size; omega))) (by simp) (by have := HEL.out; omega) (by have := HEL.out; omega)).mono ?_
    rintro e w8 ⟨v8, rfl, m8⟩
    have x8 := m8.below
    have hS7 := hS
    show K _ _
    refine hK.out _ _ (below_step hS x8) (fun hS => ?_)
    clear hK K
    try go_frame
    refine held_pure (i := 9) (oi := ⟨some 6, _, _, _, _, _⟩) rfl (by kernel_rfl) (by kernel_rfl) (by kernel_rfl) (fun _ _ _ h => h) (by rfl) (v := ?_) (fun w hSw => ?_) hS (fun hS => ?_)
    rotate_left
    · go_simp; try with_reducible rfl
    try go_frame
    refine held_pure (i := 10) (oi := ⟨some 7, _, _, _, _, _⟩) rfl (by kernel_rfl) (by kernel_rfl) (by kernel_rfl) (fun _ _ _ h => h) (by rfl) (v := ?_) (fun w hSw => ?_) hS (fun hS => ?_)
    rotate_left
    · go_simp; try with_reducible rfl
    try go_frame
    refine wpAnyH_done (by kernel_rfl) ?_ _
    go_wp2_with fail
    go_ret2
    exact ⟨v8, by rw [HC.out]; rfl, fun h => absurd HC.out h, fun _ => m8.after (hB.trans (hS7.mono (by omega)))⟩
  · have hne : (chkT q != 0) = true := by simpa using hc
    have HN := Lib.hid hc
    clear hc
    go_wp2_with (first
      | ((with_reducible show wpList _ _ _ (Oper.mk _ (Op.load 37 _) _ _ _ _ :: _) _ _); refine wpList_val rfl (run_load_ts rfl rfl hAt rfl) ?_)
      | (go_at_call 29; refine (cTcheck q A c A' c' _ hl ho0).mono ?_; rintro e w1 ⟨rfl, x1⟩; skip))
    go_ret2
    exact ⟨.slice none 0 0, rfl, fun _ => ⟨rfl, hB.trans (x1.mono (by omega))⟩, fun h => absurd h HN.out⟩
end
end Go.Proofs.Ytodlfdnegcfhcaa
