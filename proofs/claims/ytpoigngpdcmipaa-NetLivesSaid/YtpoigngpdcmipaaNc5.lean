/-
  Contracts and lemmas on which the proofs of this seat stand (several texts in one). Conditions are each theorem's own.
-/
import Derived.Test.YtpoigngpdcmipaaNc2
import Derived.OrdersHeld
import Derived.OrdersIn
import Derived.TacticsIn
import Derived.OwnWalkIn
import Derived.Maps.RangeWalk
import Derived.RangeFuncSeq
import Derived.Test.YtpoigngpdcmipaaNc4
import Derived.Test.YtpoigngpdcmipaaNc3
import Derived.Sort.CutIn
import Derived.Test.YtpoigngpdcmipaaNc1
import Derived.Laws.CopyOwn
import Derived.Lib.AppendZerosOnto
import Derived.Lib.Overlaps
import Derived.Laws.Externs
import Derived.Laws.NewBlocks
import Derived.WalkMore
import Derived.Lib.SlBytesConst
import Derived.Deep.Slices

/-
  A region that draws its order and calls an iterator's yield: a load is taken ahead where each world of a class gives it the same value; the walk's moves, inside the widest fence. Conditions are each theorem's own.
-/
namespace Go.Proofs.Ytpoigngpdcmipaa
open Go.RowKit

section
variable {n : Nat} {P : Program} {ops : Array Oper} {Q : Exit → Act → World → Prop} {md : Region.Mode} {S : World → Prop}
/-- Whatever comes up next, S holds behind it. -/
def anyHI (n : Nat) (P : Program) (md : Region.Mode) (ops : Array Oper) (Q : Exit → Act → World → Prop) (S : World → Prop) : Nat → Array Bool → Act → World → Prop
  | 0, listed, a, w => Region.ready md ops listed = [] ∧ Q .normal a w
  | fuel + 1, listed, a, w => (Region.ready md ops listed = [] → Q .normal a w) ∧
    ∀ i ∈ Region.ready md ops listed, wpOpIn Fence.wide n P ops Q i (fun a' w' => S w' ∧ anyHI n P md ops Q S fuel (listed.setIfInBounds i true) a' w') a w
theorem any_of_HI : ∀ (fuel : Nat) (listed : Array Bool) (a : Act) (w : World), anyHI n P md ops Q S fuel listed a w → wpAnyIn Fence.wide n P md ops Q fuel listed a w
  | 0, _, _, _, h => h
  | fuel + 1, _, _, _, h => ⟨h.1, fun i hi => wpOpIn_mono (fun a' w' h' => any_of_HI fuel _ a' w' h'.2) (h.2 i hi)⟩
theorem opI_here {i : Nat} {o : Oper} {v : Value} {a : Act} {w : World} {K : Act → World → Prop} (hi : ops[i]? = some o) (hy : YieldsIf P ops S o v a) (hS : S w) (h : K (a.put o.dst v) w) : wpOpIn Fence.wide n P ops Q i K a w := by
  unfold wpOpIn
  simp only [hi]
  rcases hy with ⟨hw, hv⟩ | ⟨hw, rfl⟩
  · rw [if_pos hw]
    refine ⟨fun _ _ => trivial, ?_⟩
    rw [show Fence.wide.round = none from rfl, Oper.semAt_none, hv w hS]
    exact h
  · rw [if_neg (by rw [hw]; decide)]
    exact ⟨fun _ _ => trivial, h⟩
/-- Another operation, with that one's value there already or not. -/
theorem opI_swap {j : Nat} {oi oj : Oper} {v : Value} (hj : ops[j]? = some oj) (hap : oi.apart ops oj = true) (hsi : ∀ cs b, oi.op ≠ .select cs b) (hsj : ∀ cs b, oj.op ≠ .select cs b)
    (hQ : ∀ c a w, Q (.panic c) (a.put oi.dst v) w → Q (.panic c) a w) {K : Act → World → Prop} {a : Act} {w : World} (hy : YieldsIf P ops S oi v a) (h : wpOpIn Fence.wide n P ops Q j K (a.put oi.dst v) w) :
    wpOpIn Fence.wide n P ops Q j (fun a' w' => YieldsIf P ops S oi v a' ∧ K (a'.put oi.dst v) w') a w := by
  obtain ⟨h1, h2, h3⟩ := Oper.apart_spec hap
  have stay : ∀ (b : Act), YieldsIf P ops S oi v b → ∀ u, YieldsIf P ops S oi v (b.put oj.dst u) := fun b hb u => hb.of_same (execOp_put oi hsi b oj.dst u h3) (wanted_put oi b oj.dst u h3)
  unfold wpOpIn at h ⊢
  simp only [hj] at h ⊢
  rw [wanted_put oj a oi.dst v h1] at h
  by_cases hw : Region.wanted oj (yielded ops a.tmps) = true
  · rw [if_pos hw] at h ⊢
    refine ⟨fun _ _ => trivial, ?_⟩
    have h := h.2
    rw [show Fence.wide.round = none from rfl, Oper.semAt_none] at h ⊢
    rw [execOp_put oj hsj a oi.dst v h1] at h
    generalize (execOp a.eval oj).run P w = r at h ⊢
    rcases r with ⟨x, w'⟩ | ⟨x, w'⟩
    · cases x with
      | value u => exact ⟨stay a hy u, by rw [← Act.put_comm a v u h2]; exact h⟩
      | skip => exact ⟨stay a hy _, by rw [← Act.put_comm a v undef h2]; exact h⟩
      | defer d => exact ⟨stay { a with defers := d :: a.defers } (hy.of_same rfl rfl) _, by rw [← Act.put_comm _ v undef h2, ← Act.put_defers]; exact h⟩
      | enter f args =>
        refine ⟨h.1, CallsIn.mono h.2 fun e w'' he => ?_⟩
        cases e with
        | returned u => exact ⟨stay a hy u, by rw [← Act.put_comm a v u h2]; exact he⟩
        | panicked c => exact hQ _ _ _ he
        | outgrown => exact he
      | row r args => exact ⟨h.1, RowsIn.mono h.2 fun u w'' he => ⟨stay a hy u, by rw [← Act.put_comm a v u h2]; exact he⟩⟩
      | round l f tmps assign body =>
        refine ⟨h.1, RoundIn.mono h.2 fun e w'' he => ?_⟩
        cases e with
        | returned u => exact ⟨stay a hy u, by rw [← Act.put_comm a v u h2]; exact he⟩
        | panicked c => exact hQ _ _ _ he
        | outgrown => exact he
      | _ => exact h
    · cases x with
      | panic u => exact hQ _ _ _ h
      | _ => exact h
  · rw [if_neg hw] at h ⊢
    exact ⟨fun _ _ => trivial, stay a hy _, by rw [← Act.put_comm a v undef h2]; exact h.2⟩
theorem takeI_all {i : Nat} {oi : Oper} {v : Value} (hi : ops[i]? = some oi) (hsel : ∀ (j : Nat) (o : Oper) cs b, ops[j]? = some o → o.op ≠ .select cs b) (hQ : ∀ c a w, Q (.panic c) (a.put oi.dst v) w → Q (.panic c) a w) :
    ∀ (fuel : Nat) (listed : Array Bool) (a : Act) (w : World), (∀ j oj, ops[j]? = some oj → j ≠ i → listed.getD j true = false → (∀ e ∈ oj.after, Region.binds md e = true → e.on ≠ i) → oi.apart ops oj = true) →
      i ∈ Region.ready md ops listed → YieldsIf P ops S oi v a → S w → anyHI n P md ops Q S fuel (listed.setIfInBounds i true) (a.put oi.dst v) w → anyHI n P md ops Q S (fuel + 1) listed a w
  | fuel, listed, a, w, free, hr, hy, hS, H => by
    refine ⟨fun h => (by rw [h] at hr; cases hr), fun j hj => ?_⟩
    by_cases hji : j = i
    · subst hji; exact opI_here hi hy hS ⟨hS, H⟩
    have hj' := ready_mono hj hji
    cases fuel with
    | zero => rw [H.1] at hj'; cases hj'
    | succ fuel =>
      obtain ⟨hjun, oj, hoj, hall⟩ := mem_ready.1 hj
      have hnot : ∀ e ∈ oj.after, Region.binds md e = true → e.on ≠ i := fun e he hb heq => by
        have g1 := hall e he hb
        have g0 := (mem_ready.1 hr).1
        rw [heq] at g1
        rcases Nat.lt_or_ge i listed.size with h' | h'
        · simp [h'] at g0 g1; rw [g0] at g1; cases g1
        · simp [Array.getElem?_eq_none h'] at g1
      refine wpOpIn_mono (fun a' w' h3 => ⟨h3.2.1, takeI_all hi hsel hQ fuel (listed.setIfInBounds j true) a' w' (fun k ok hk hki hun hno => free k ok hk hki ?_ hno) (ready_mono hr (Ne.symm hji)) h3.1 h3.2.1 (by rw [Array.setIfInBounds_comm _ _ hji]; exact h3.2.2)⟩)
        (opI_swap hoj (free j oj hoj hji hjun hnot) (fun cs b => hsel i oi cs b hi) (fun cs b => hsel j oj cs b hoj) hQ hy (H.2 j hj'))
      by_cases hjk : j = k
      · subst hjk; exact hjun
      · rw [getD_set_ne true hjk] at hun; exact hun
/-- An operation that yields its value in each world of the class is taken first. -/
theorem pureI {i : Nat} {oi : Oper} {v : Value} {fuel : Nat} {listed : Array Bool} {a : Act} {w : World} (hi : ops[i]? = some oi) (hs : Region.noSelect ops = true) (hf : Region.free md ops listed i = true) (hr : (Region.ready md ops listed).contains i = true)
    (hQ : ∀ c a w, Q (.panic c) (a.put oi.dst v) w → Q (.panic c) a w) (hw : Region.wanted oi (yielded ops a.tmps) = true) (hrun : ∀ w, S w → (execOp a.eval oi).run P w = .ok (.value v) w) (hS : S w)
    (h : S w → anyHI n P md ops Q S fuel (listed.setIfInBounds i true) (a.put oi.dst v) w) : anyHI n P md ops Q S (fuel + 1) listed a w :=
  takeI_all hi (Region.noSelect_spec hs) hQ fuel listed a w (Region.free_spec hi hf) (by simpa using hr) (.inl ⟨hw, hrun⟩) hS (h hS)
/-- The only one that may come up. -/
theorem oneI {i : Nat} {oi : Oper} {fuel : Nat} {listed : Array Bool} {a : Act} {w : World} (hr : Region.ready md ops listed = [i]) (hi : ops[i]? = some oi) (hw : Region.wanted oi (yielded ops a.tmps) = true)
    (h : ∀ K : Act → World → Prop, (∀ a w, S w → (S w → anyHI n P md ops Q S fuel (listed.setIfInBounds i true) a w) → K a w) → oi.wpIn Fence.wide n P a w K Q) : anyHI n P md ops Q S (fuel + 1) listed a w := by
  refine ⟨fun h0 => (by rw [hr] at h0; cases h0), fun j hj => ?_⟩
  rw [hr, List.mem_singleton] at hj
  subst hj
  unfold wpOpIn
  simp only [hi]
  rw [if_pos hw]
  exact h _ (fun a w hS hW => ⟨hS, hW hS⟩)
theorem doneI {listed : Array Bool} {a : Act} {w : World} (hr : Region.ready md ops listed = []) (h : Q .normal a w) : ∀ fuel, anyHI n P md ops Q S fuel listed a w
  | 0 => ⟨hr, h⟩
  | _ + 1 => ⟨fun _ => h, by rw [hr]; simp⟩
theorem regionI {id : Nat} {a : Act} {w : World} (hm : P.follows .mixedOrders = true) (hS : S w.drew) (h : S w.drew → anyHI n P .any ops Q S ops.size (Array.replicate ops.size false) a w.drew) : (Code.region id ops true).wpIn Fence.wide n P Q a w :=
  wpIn_region_any hm (any_of_HI _ _ _ _ (h hS))
/-- A call of a function of the program, by its plain contract. -/
theorem callI {o : Oper} {a : Act} {w : World} {K : Act → World → Prop} {f : FuncId} {args : Array Value} (hrun : (execOp a.eval o).run P w = .ok (.enter f args) w) (h : Calls P f args w fun e w' => ∃ v, e = .returned v ∧ K (a.put o.dst v) w') : o.wpIn Fence.wide n P a w K Q := by
  refine ⟨fun _ _ => trivial, ?_⟩
  rw [show Fence.wide.round = none from rfl, Oper.semAt_none, hrun]
  exact ⟨fun h => (by cases h), (callsIn_wide.2 h).mono fun e w' he => by obtain ⟨v, rfl, hk⟩ := he; exact hk⟩
/-- A call of yield. -/
theorem yieldI {o : Oper} {a : Act} {w : World} {K : Act → World → Prop} {l : Nat} {args : Array Value} {R : Ending → World → Prop} (hrun : (execOp a.eval o).run P w = (Instr.yield l args).run P w) (hY : YieldAt Fence.wide (n - 1) P l args w R)
    (h : ∀ e w', R e w' → ∃ v, e = .returned v ∧ K (a.put o.dst v) w') : o.wpIn Fence.wide n P a w K Q := by
  obtain ⟨fn, tmps, assign, body, hy, hR⟩ := hY
  refine ⟨fun _ _ => trivial, ?_⟩
  rw [show Fence.wide.round = none from rfl, Oper.semAt_none, hrun, hy]
  exact ⟨fun h => (by cases h), hR.mono fun e w' he => by obtain ⟨v, rfl, hk⟩ := h e w' he; exact hk⟩
end
/-! ### A range that never leaves its iterator early -/
/-- What a list of elements is said of stays, whatever is laid, whatever walk's object turns, and whatever is written into one block of cells of a type. -/
def StaysAt {β : Type} (T : TypeId) (B : Nat) (J : β → World → Prop) : Prop :=
  ∀ s W W' row, J s W → W.grownBy W' row → (∀ k, row = some k → (B ≤ k ∧ ∃ o : Obj, W.heap[k]? = some o ∧ o.isWalk = true) ∨ (k = B ∧ ∃ cs, W.heap[k]? = some (.cells cs T (0, 0)))) → J s W'
/-- An iterator's promise where each round goes on: its elements come in order, all of them; of each, when it comes, G is known. It may write into the first block that it lays, if that is of type T. -/
def SeqAll {α : Type} (m : Nat) (P : Program) (T : TypeId) (g : Nat) (lb : Array Value) (encs : α → Array Value) (G : List α → α → World → Prop) (Kp : World → World → Prop) (S : List α → Prop) (w : World) : Prop :=
  ∀ (l : Nat) (J : List α → World → Prop) (W : World), Below w.heap.size w W → StaysAt T W.heap.size J →
    (∀ pre x X, J pre X → G pre x X → W.heap.size < X.heap.size → YieldAt Fence.wide (m - 1) P l (encs x) X fun e Y => e = .returned (.bool true) ∧ J (pre ++ [x]) Y ∧ Kp X Y) →
    J [] W →
    CallsIn Fence.wide m P g (#[.func (.yield l) #[] #[]] ++ lb) W fun e Y => (∃ v, e = .returned v) ∧ ∃ xs, S xs ∧ J xs Y
theorem range_all {α : Type} {n : Nat} {P : Program} {T : TypeId} {g : Operand} {ps : Array Tmp} {assign body : Code} {Q : Exit → Act → World → Prop} {a : Act} {w : World} (h1 : 1 ≤ n)
    {gf : Nat} {lb : Array Value} (hg : a.eval g = .func (.func gf) #[] lb) (eg : ∀ args w, (callFunc gf args).run P w = .ok (.enter gf args) w)
    {encs : α → Array Value} {G : List α → α → World → Prop} {Kp : World → World → Prop} {S : List α → Prop} {w0 : World} (hseq : SeqAll (n - 1) P T gf lb encs G Kp S w0)
    (hKt : ∀ {A B C : World}, Kp A B → Kp B C → Kp A C) (hKb : ∀ (W : World) (l : Nat) (r r' : Loop), w.heap.size ≤ l → W.heap[l]? = some (.loop r) → Kp W (W.putObj l (.loop r')))
    (hb0 : Below w0.heap.size w0 w) (hps : ∀ x, (encs x).size = ps.size)
    (hG : ∀ (pre : List α) (x : α) (W : World) (l : Nat) (r r' : Loop), G pre x W → w.heap.size ≤ l → W.heap[l]? = some (.loop r) → G pre x (W.putObj l (.loop r')))
    (I : List α → World → Prop) (hI : OwnFrom w.heap.size I) (hI2 : ∀ s W W' k cs, I s W → W.grownBy W' (some k) → k = w.heap.size + 2 → W.heap[k]? = some (.cells cs T (0, 0)) → I s W') (h0 : I [] w) (a₁ : α → World → Act) (asg : α → World → World) (hag : ∀ (x : α) (W : World), W.grownBy (asg x W) none) (hGa : ∀ pre x W, G pre x W → G pre x (asg x W)) (hKa : ∀ (x : α) (W : World), w.heap.size ≤ W.heap.size → Kp W (asg x W))
    (hassign : ∀ (l : Nat) (x : α) (W : World) (K : Act → World → Prop), K (a₁ x W) (asg x W) →
      assign.wpIn (Fence.wide.inRound l) (n - 1 - 1) P (Exit.then K (fun _ _ _ => False)) { tmps := (ps.zip (encs x)).foldl (fun t (p, v) => t.setIfInBounds p v) a.tmps, defers := [] } W)
    (hbody : ∀ (l : Nat) (pre : List α) (x : α) (V W : World), I pre W → G pre x W → w.heap.size + 2 < W.heap.size → (∃ r, W = (asg x V).putObj l (.loop r)) → l < V.heap.size → body.wpIn (Fence.wide.inRound l) (n - 1 - 1) P (ownPostG w.heap.size Kp I (fun _ _ _ => False) (pre ++ [x]) W) (a₁ x V) W)
    (hdone : ∀ (D : Nat) (xs : List α) (W : World), w.heap.size ≤ D → S xs → I xs W → W.heap[D]? = some (.deferred (some [])) → Q .normal { a with defers := { target := .collected D, args := #[] } :: a.defers } W) :
    (Code.rangeFunc g ps assign body).wpIn Fence.wide n P Q a w := by
  refine wpIn_rangeFunc fun fn _ => ?_
  have t1 := Two.first w (recd fn a ps assign body w.heap.size .ready none)
  have b1 : Below w0.heap.size w0 ((w.alloc (.deferred (some []))).alloc (.loop (recd fn a ps assign body w.heap.size .ready none))) := (hb0.alloc hb0.size _).alloc (by have := hb0.size; simp; omega) _
  have i1 : I [] ((w.alloc (.deferred (some []))).alloc (.loop (recd fn a ps assign body w.heap.size .ready none))) := hI.alloc _ (hI.alloc _ h0)
  have z1 : ((w.alloc (.deferred (some []))).alloc (.loop (recd fn a ps assign body w.heap.size .ready none))).heap.size = w.heap.size + 2 := by simp
  obtain ⟨W1, hW1⟩ : ∃ W1, W1 = (w.alloc (.deferred (some []))).alloc (.loop (recd fn a ps assign body w.heap.size .ready none)) := ⟨_, rfl⟩
  rw [← hW1] at t1 b1 i1 z1
  refine ⟨w.heap.size + 1, [{ target := .collected w.heap.size, args := #[] }], W1, { target := .fn (.func gf) lb, args := #[.func (.yield (w.heap.size + 1)) #[] #[]] }, W1, gf, #[.func (.yield (w.heap.size + 1)) #[] #[]] ++ lb, W1,
    ?_, ?_, fun _ _ => trivial, ?_, fun _ => h1, ?_⟩
  · rw [hW1]; exact run_enterLoop_outer fn a.tmps ps assign body
  · simp only [resolve, hg]; simp [go_sem]
  · simp [invoke, go_sem, eg]
  · refine (hseq (w.heap.size + 1) (fun pre W => I pre W ∧ Two W w.heap.size (recd fn a ps assign body w.heap.size .ready none)) _ b1 ?_ ?_ ⟨i1, t1⟩).mono ?_
    · rintro s A B row ⟨hi, ht⟩ hgr hr
      cases row with
      | none => exact ⟨hI s A B none hi hgr (fun r e => by cases e), ht.abides hgr (fun r e => by cases e)⟩
      | some k =>
        rcases hr k rfl with ⟨hk, o, ho, hw⟩ | ⟨hk, cs, ho⟩
        · exact ⟨hI s A B _ hi hgr (fun r e => by cases e; exact ⟨by omega, o, ho, Obj.not_cells_of_walk hw⟩), ht.abides hgr (fun r e => by cases e; exact ⟨o, ho, hw⟩)⟩
        · refine ⟨hI2 s A B k cs hi hgr (by omega) ho, ⟨(hgr.block _ (heap_lt ht.calls) (fun e => ?_)).trans ht.calls, (hgr.block _ (heap_lt ht.rec_) (fun e => ?_)).trans ht.rec_⟩⟩
          · injection e with e; rw [← e, ht.calls] at ho; cases ho
          · injection e with e; rw [← e, ht.rec_] at ho; cases ho
    · rintro pre x X ⟨hi, ht⟩ hgx hzX
      have ha := ht.abides (hag x X) (fun r e => by cases e)
      have hia := hI pre X _ none hi (hag x X) (fun r e => by cases e)
      have hza := (hag x X).size
      refine ⟨fn, _, assign, body, run_yield ht.rec_ (hps x), roundIn_of_wpIn trivial (hassign _ x X _ ⟨_, run_beginRound ha.rec_ rfl, ?_⟩)⟩
      have hbu := ha.turn (recd fn a ps assign body w.heap.size .busy none)
      have hk0 : Kp X ((asg x X).putObj (w.heap.size + 1) (.loop (recd fn a ps assign body w.heap.size .busy none))) := hKt (hKa x X (by have := heap_lt ht.rec_; omega)) (hKb _ _ _ _ (by omega) ha.rec_)
      refine wpIn_mono (hbody _ pre x X _ (hI.putObj _ hia (by omega) ha.rec_ rfl) (hG pre x _ _ _ _ (hGa pre x X hgx) (by omega) ha.rec_) (by simp; omega) ⟨_, rfl⟩ (heap_lt ht.rec_)) (fun e b Y hp => ?_)
      cases e with
      | normal =>
        have ht2 := hbu.keeps hp.1
        exact ⟨_, _, run_endRound none ht2.rec_, rfl, ⟨hI.putObj _ hp.2.2 (by omega) ht2.rec_ rfl, ht2.turn _⟩, hKt (hKt hk0 hp.2.1) (hKb _ _ _ _ (by omega) ht2.rec_)⟩
      | ret => exact hp.2.elim
      | exit id => exact hp.2.elim
      | goto t => exact hp.2.elim
      | panic c => exact hp.elim
      | outgrown => exact hp.elim
    · rintro e Y ⟨⟨v, rfl⟩, xs, hs, hi, ht⟩
      exact ⟨none, _, run_endLoop ht.rec_ (by simp [recd]), hdone _ xs _ (Nat.le_refl _) hs (hI.putObj _ hi (by omega) ht.rec_ rfl) (ht.turn _).calls⟩
/-- The same where the round begins by a box for what came. -/
theorem range_box {α : Type} {n : Nat} {P : Program} {T : TypeId} {g : Operand} {ps : Array Tmp} {assign body : Code} {Q : Exit → Act → World → Prop} {a : Act} {w : World} (h1 : 1 ≤ n) (d : Tmp) (T' : TypeId)
    {gf : Nat} {lb : Array Value} (hg : a.eval g = .func (.func gf) #[] lb) (eg : ∀ args w, (callFunc gf args).run P w = .ok (.enter gf args) w)
    {encs : α → Array Value} {cells : α → Array Value} {G : List α → α → World → Prop} {Kp : World → World → Prop} {S : List α → Prop} {w0 : World} (hseq : SeqAll (n - 1) P T gf lb encs G Kp S w0)
    (hKt : ∀ {A B C : World}, Kp A B → Kp B C → Kp A C) (hKb : ∀ (W : World) (l : Nat) (r r' : Loop), w.heap.size ≤ l → W.heap[l]? = some (.loop r) → Kp W (W.putObj l (.loop r')))
    (hb0 : Below w0.heap.size w0 w) (hps : ∀ x, (encs x).size = ps.size)
    (hG : ∀ (pre : List α) (x : α) (W : World) (l : Nat) (r r' : Loop), G pre x W → w.heap.size ≤ l → W.heap[l]? = some (.loop r) → G pre x (W.putObj l (.loop r')))
    (I : List α → World → Prop) (hI : OwnFrom w.heap.size I) (hI2 : ∀ s W W' k cs, I s W → W.grownBy W' (some k) → k = w.heap.size + 2 → W.heap[k]? = some (.cells cs T (0, 0)) → I s W') (h0 : I [] w)
    (hGa : ∀ pre x W o, G pre x W → G pre x (W.alloc o)) (hKa : ∀ (W : World) o, w.heap.size ≤ W.heap.size → Kp W (W.alloc o))
    (hassign : ∀ (l : Nat) (x : α) (W : World) (K : Act → World → Prop), K ((({ tmps := (ps.zip (encs x)).foldl (fun t (p, v) => t.setIfInBounds p v) a.tmps, defers := [] } : Act).put (some d) (.pointer (some ⟨W.heap.size, 0, none⟩))).put none undef) (W.alloc (.cells (cells x) T')) →
      assign.wpIn (Fence.wide.inRound l) (n - 1 - 1) P (Exit.then K (fun _ _ _ => False)) { tmps := (ps.zip (encs x)).foldl (fun t (p, v) => t.setIfInBounds p v) a.tmps, defers := [] } W)
    (hbody : ∀ (l : Nat) (pre : List α) (x : α) (b : Nat) (W : World), I pre W → G pre x W → w.heap.size + 2 < W.heap.size → W.heap[b]? = some (.cells (cells x) T' (0, 0)) → body.wpIn (Fence.wide.inRound l) (n - 1 - 1) P (ownPostG w.heap.size Kp I (fun _ _ _ => False) (pre ++ [x]) W)
      ((({ tmps := (ps.zip (encs x)).foldl (fun t (p, v) => t.setIfInBounds p v) a.tmps, defers := [] } : Act).put (some d) (.pointer (some ⟨b, 0, none⟩))).put none undef) W)
    (hdone : ∀ (D : Nat) (xs : List α) (W : World), w.heap.size ≤ D → S xs → I xs W → W.heap[D]? = some (.deferred (some [])) → Q .normal { a with defers := { target := .collected D, args := #[] } :: a.defers } W) :
    (Code.rangeFunc g ps assign body).wpIn Fence.wide n P Q a w :=
  range_all h1 hg eg hseq hKt hKb hb0 hps hG I hI hI2 h0
    (fun x W => (({ tmps := (ps.zip (encs x)).foldl (fun t (p, v) => t.setIfInBounds p v) a.tmps, defers := [] } : Act).put (some d) (.pointer (some ⟨W.heap.size, 0, none⟩))).put none undef) (fun x W => W.alloc (.cells (cells x) T'))
    (fun x W => World.grownBy_alloc W _ none) (fun pre x W h => hGa pre x W _ h) (fun x W hz => hKa W _ hz) hassign
    (fun l pre x V W hi hg hz hW hl => hbody l pre x V.heap.size W hi hg hz (by
      obtain ⟨r, rfl⟩ := hW
      rw [World.putObj_heap_other (by omega)]
      exact World.alloc_heap_new V _)) hdone
/-- An operation of a list within a round that yields a value, or stores. -/
theorem listR_val {l n : Nat} {P : Program} {ops : Array Oper} {rest : List Oper} {o : Oper} {a : Act} {w : World} {Q : Exit → Act → World → Prop} {v : Value} (hg : o.guard = none) (hd : ∀ c, o.op ≠ .defer c) (hrun : (execOp a.eval o).run P w = .ok (.value v) w)
    (h : wpListIn (Fence.wide.inRound l) n P ops Q rest (a.put o.dst v) w) : wpListIn (Fence.wide.inRound l) n P ops Q (o :: rest) a w :=
  wpListIn_plain hg fun K hK => ⟨fun _ _ => trivial, by rw [Oper.semAt_plain _ _ _ hd, hrun]; exact hK _ _ h⟩
theorem listR_skip {l n : Nat} {P : Program} {ops : Array Oper} {rest : List Oper} {o : Oper} {a : Act} {w w' : World} {Q : Exit → Act → World → Prop} (hg : o.guard = none) (hd : ∀ c, o.op ≠ .defer c) (hrun : (execOp a.eval o).run P w = .ok .skip w')
    (h : wpListIn (Fence.wide.inRound l) n P ops Q rest (a.put o.dst undef) w') : wpListIn (Fence.wide.inRound l) n P ops Q (o :: rest) a w :=
  wpListIn_plain hg fun K hK => ⟨fun _ _ => trivial, by rw [Oper.semAt_plain _ _ _ hd, hrun]; exact hK _ _ h⟩
theorem listR_grow {l n : Nat} {P : Program} {ops : Array Oper} {rest : List Oper} {o : Oper} {a : Act} {w w' : World} {Q : Exit → Act → World → Prop} {v : Value} (hg : o.guard = none) (hd : ∀ c, o.op ≠ .defer c) (hrun : (execOp a.eval o).run P w = .ok (.value v) w')
    (h : wpListIn (Fence.wide.inRound l) n P ops Q rest (a.put o.dst v) w') : wpListIn (Fence.wide.inRound l) n P ops Q (o :: rest) a w :=
  wpListIn_plain hg fun K hK => ⟨fun _ _ => trivial, by rw [Oper.semAt_plain _ _ _ hd, hrun]; exact hK _ _ h⟩
end Go.Proofs.Ytpoigngpdcmipaa

/-
  The iterator of cut4's fragments. Conditions are each theorem's own.
-/
namespace Go.Proofs.Ytpoigngpdcmipaa
open Go.RowKit Go.Shelf
attribute [local go_sem] Oper.semAt_some

theorem wp_valU {o : Oper} {a : Act} {w : World} {K : Act → World → Prop} {Q : Exit → Act → World → Prop} {v : Value} (hrun : (execOp a.eval o).run Try.prog w = .ok (.value v) w) (h : K (a.put o.dst v) w) : o.wp Try.prog a w K Q := by
  unfold Oper.wp; rw [hrun]; exact h
theorem store_slU {o : Oper} {a : Act} {w : World} {K : Act → World → Prop} {Q : Exit → Act → World → Prop} {x y : Operand} {p : Addr} {v0 : Value} {A : Option Addr} {n c : Nat} (ho : o.op = .store 31 x y) (hx : a.eval x = .pointer (some p)) (hy : a.eval y = .slice A n c) (hc : w.cell? p = some v0) (hf : w.frozen? p = false)
    (h : K (a.put o.dst undef) (w.setCell p (.slice A n c))) : o.wp Try.prog a w K Q := by
  unfold Oper.wp execOp
  simp only [ho, hx, hy, Instr.storeAt, Instr.sureAddr, Sem.run_bind, Sem.run_pure, Result.andThen_ok]
  go_simp
  exact h
/-- An operation of a fenced list that yields a value, or stores. -/
theorem listI_val {n : Nat} {P : Program} {ops : Array Oper} {rest : List Oper} {o : Oper} {a : Act} {w : World} {Q : Exit → Act → World → Prop} {v : Value} (hg : o.guard = none) (hrun : (execOp a.eval o).run P w = .ok (.value v) w)
    (h : wpListIn Fence.wide n P ops Q rest (a.put o.dst v) w) : wpListIn Fence.wide n P ops Q (o :: rest) a w :=
  wpListIn_plain hg fun K hK => ⟨fun _ _ => trivial, by rw [show Fence.wide.round = none from rfl, Oper.semAt_none, hrun]; exact hK _ _ h⟩
theorem listI_skip {n : Nat} {P : Program} {ops : Array Oper} {rest : List Oper} {o : Oper} {a : Act} {w w' : World} {Q : Exit → Act → World → Prop} (hg : o.guard = none) (hrun : (execOp a.eval o).run P w = .ok .skip w')
    (h : wpListIn Fence.wide n P ops Q rest (a.put o.dst undef) w') : wpListIn Fence.wide n P ops Q (o :: rest) a w :=
  wpListIn_plain hg fun K hK => ⟨fun _ _ => trivial, by rw [show Fence.wide.round = none from rfl, Oper.semAt_none, hrun]; exact hK _ _ h⟩
/-- Each block but one lies as it lay. -/
def KeepR (r : Nat) (X Y : World) : Prop := Y.heap.size = X.heap.size ∧ Y.os = X.os ∧ Y.tape = X.tape ∧ Y.output = X.output ∧ ∀ k, k ≠ r → Y.heap[k]? = X.heap[k]?
theorem KeepR.set2 (X : World) (r i : Nat) {v : Value} : KeepR r X (X.setCell ⟨r, i, none⟩ v) := ⟨by simp, rfl, rfl, rfl, fun _ hk => Below.heap_setCell _ _ _ _ (by simpa using hk)⟩
theorem KeepR.set1 (X : World) (r i : Nat) {v : Value} : KeepR r X (X.drew.setCell ⟨r, i, none⟩ v) := ⟨by simp, rfl, rfl, rfl, fun _ hk => Below.heap_setCell X.drew _ _ _ (by simpa using hk)⟩
theorem KeepR.trans {r : Nat} {X Y Z : World} (h : KeepR r Y Z) (k : KeepR r X Y) : KeepR r X Z :=
  ⟨h.1.trans k.1, h.2.1.trans k.2.1, h.2.2.1.trans k.2.2.1, h.2.2.2.1.trans k.2.2.2.1, fun i hi => (h.2.2.2.2 i hi).trans (k.2.2.2.2 i hi)⟩
/-- Options that were given, or that the call made. -/
def OptAt (W : World) (B base : Nat) (A : Option Addr) (c : Nat) (bs : List UInt8) : Prop := Arg W B A c bs ∨ W.ownsRow base 5 1 (.slice A bs.length c) bs.length (row bs)
theorem OptAt.arg {W : World} {B base : Nat} {A : Option Addr} {c : Nat} {bs : List UInt8} (h : OptAt W B base A c bs) (hB : B ≤ W.heap.size) : Arg W W.heap.size A c bs := by
  rcases h with h | h
  · exact h.more hB
  · exact arg_own h
/-- The same of a world that differs in one block of a packet, above what was given. -/
theorem KeepR.arg {r B : Nat} {X Y : World} {A : Option Addr} {c : Nat} {bs : List UInt8} (k : KeepR r X Y) (hr : B ≤ r) (h : Arg X B A c bs) : Arg Y B A c bs :=
  ⟨h.rd.keep (fun p hp => World.cell?_of_block (w := X) (k.2.2.2.2 p.block (by omega))), h.cap, h.none_⟩
theorem KeepR.own {r base e sz n t : Nat} {X Y : World} {v : Value} {xs : List Value} {cs : Array Value} (k : KeepR r X Y) (hr : X.heap[r]? = some (.cells cs t (0, 0))) (hte : t ≠ e) (h : X.ownsRow base e sz v n xs) : Y.ownsRow base e sz v n xs := by
  refine ⟨h.1, ?_⟩
  rcases h.2 with hn | ⟨g', cap, cur, hv, hb, hg', rest⟩
  · exact .inl hn
  · exact .inr ⟨g', cap, cur, hv, hb, (k.2.2.2.2 g' (fun e' => by subst e'; rw [hg'] at hr; cases hr; exact hte rfl)).trans hg', rest⟩
theorem KeepR.grown {r : Nat} {X Y : World} (k : KeepR r X Y) : X.grownBy Y (some r) := ⟨k.2.1, k.2.2.1, k.2.2.2.1, by rw [k.1]; exact Nat.le_refl _, fun i _ hi => k.2.2.2.2 i (fun e => hi (by rw [e]))⟩
def enc4 (x : X4) : Array Value := #[v4v x.q x.A x.c x.A' x.c']
/-- What is known of a fragment when it comes. -/
def G4 (L : List P4) (base : Nat) (pre : List X4) (x : X4) (W : World) : Prop := (∃ more, L = pre.map (·.q) ++ x.q :: more) ∧ Own4 W base x
/-- How many bytes of data the packet in a box has. -/
def dlen (w : World) (g : Nat) : Nat := match w.cell? ⟨g, 10, none⟩ with | some (.slice _ n _) => n | _ => 0
end Go.Proofs.Ytpoigngpdcmipaa

/-
  Contracts of cut4's fragments and Cut. Conditions are each theorem's own.
-/
namespace Go.Proofs.Ytpoigngpdcmipaa
open Go.RowKit Go.Shelf
attribute [local go_sem] Oper.semAt_some

theorem listI_valw {n : Nat} {P : Program} {ops : Array Oper} {rest : List Oper} {o : Oper} {a : Act} {w : World} {Q : Exit → Act → World → Prop} {v : Value} (hw : Region.wanted o (yielded ops a.tmps) = true) (hrun : (execOp a.eval o).run P w = .ok (.value v) w)
    (h : wpListIn Fence.wide n P ops Q rest (a.put o.dst v) w) : wpListIn Fence.wide n P ops Q (o :: rest) a w := by
  unfold wpListIn
  rw [if_pos hw]
  exact ⟨fun _ _ => trivial, by rw [show Fence.wide.round = none from rfl, Oper.semAt_none, hrun]; exact h⟩
theorem v4v_eq4 (q : P4) (A : Option Addr) (c : Nat) (A' : Option Addr) (c' : Nat) : v4v q A c A' c' = .agg (v4a q A c A' c') := rfl
theorem frg_len (mtu : Int) (o : List UInt8) (mf : Bool) : ∀ (f : Nat) (q : P4), (frg mtu o mf f q).length ≤ f
  | 0, _ => Nat.le_refl _
  | f + 1, q => by
    rw [frg]; split
    · have := frg_len mtu o mf f (rest1 mtu o q); simp; omega
    · simp
theorem rst4_len (mtu : Int) (o : List UInt8) (mf : Bool) (q : P4) : (rst4 mtu o mf q).length ≤ q.dat.length + 1 := frg_len mtu o mf _ q
end Go.Proofs.Ytpoigngpdcmipaa

/-
  Contract of layer 13's helper of the statements: same. Conditions are each theorem's own.
-/
namespace Go.Proofs.Ytpoigngpdcmipaa
open Go.RowKit Go.Shelf

instance : DecidableEq P4 := fun q r => decidable_of_iff (same4 q r = true) same4_iff
/-- A slice of packets at A, whose cells, and whose lists' cells, lie below block B. -/
structure L4 (w : World) (B : Nat) (A : Option Addr) (l : List X4) : Prop where
  rd : RdS cl4 11 w B A l
  arg : ∀ x ∈ l, Arg w B x.A x.c x.q.opt ∧ Arg w B x.A' x.c' x.q.dat
theorem L4.below {w w' : World} {B : Nat} {A : Option Addr} {l : List X4} (h : L4 w B A l) (hb : Below B w w') : L4 w' B A l := ⟨h.rd.below hb, fun x hx => ⟨(h.arg x hx).1.below hb, (h.arg x hx).2.below hb⟩⟩
theorem L4.more {w : World} {B B' : Nat} {A : Option Addr} {l : List X4} (h : L4 w B A l) (hB : B ≤ B') : L4 w B' A l := ⟨h.rd.more hB, fun x hx => ⟨(h.arg x hx).1.more hB, (h.arg x hx).2.more hB⟩⟩
end Go.Proofs.Ytpoigngpdcmipaa

/-
  Contracts of cut4's follows, and of the document's fits of layer 13. Conditions are each theorem's own.
-/
namespace Go.Proofs.Ytpoigngpdcmipaa
open Go.RowKit Go.Shelf

end Go.Proofs.Ytpoigngpdcmipaa

/-
  A region that draws its order, loads, and then stores into what it loaded: a load is taken ahead as long as a certain store has not come up; the walk's moves. Conditions are each theorem's own.
-/
namespace Go.Proofs.Ytpoigngpdcmipaa
open Go.RowKit

section
variable {n : Nat} {P : Program} {ops : Array Oper} {Q : Exit → Act → World → Prop} {md : Region.Mode} {S : World → Prop} {y : Nat}
/-- Whatever comes up next, S holds behind it, as long as operation y has not come up. -/
def anyHY (n : Nat) (P : Program) (md : Region.Mode) (ops : Array Oper) (Q : Exit → Act → World → Prop) (y : Nat) (S : World → Prop) : Nat → Array Bool → Act → World → Prop
  | 0, listed, a, w => Region.ready md ops listed = [] ∧ Q .normal a w
  | fuel + 1, listed, a, w => (Region.ready md ops listed = [] → Q .normal a w) ∧
    ∀ i ∈ Region.ready md ops listed, wpOpIn Fence.wide n P ops Q i (fun a' w' => ((listed.setIfInBounds i true).getD y true = false → S w') ∧ anyHY n P md ops Q y S fuel (listed.setIfInBounds i true) a' w') a w
theorem any_of_HY : ∀ (fuel : Nat) (listed : Array Bool) (a : Act) (w : World), anyHY n P md ops Q y S fuel listed a w → wpAnyIn Fence.wide n P md ops Q fuel listed a w
  | 0, _, _, _, h => h
  | fuel + 1, _, _, _, h => ⟨h.1, fun i hi => wpOpIn_mono (fun a' w' h' => any_of_HY fuel _ a' w' h'.2) (h.2 i hi)⟩
/-- Operation y waits for operation i. -/
def waitsB (md : Region.Mode) (ops : Array Oper) (y i : Nat) : Bool := match ops[y]? with | some o => o.after.any fun e => Region.binds md e && e.on == i | none => false
theorem waitsB_spec {i : Nat} {o : Oper} (h : waitsB md ops y i = true) (ho : ops[y]? = some o) : ∃ e ∈ o.after, Region.binds md e = true ∧ e.on = i := by
  unfold waitsB at h
  rw [ho] at h
  obtain ⟨e, he, hb⟩ := Array.any_eq_true'.1 h
  simp only [Bool.and_eq_true, beq_iff_eq] at hb
  exact ⟨e, he, hb.1, hb.2⟩
theorem takeY_all {i : Nat} {oi : Oper} {v : Value} (hi : ops[i]? = some oi) (hw : waitsB md ops y i = true) (hsel : ∀ (j : Nat) (o : Oper) cs b, ops[j]? = some o → o.op ≠ .select cs b) (hQ : ∀ c a w, Q (.panic c) (a.put oi.dst v) w → Q (.panic c) a w) :
    ∀ (fuel : Nat) (listed : Array Bool) (a : Act) (w : World), (∀ j oj, ops[j]? = some oj → j ≠ i → listed.getD j true = false → (∀ e ∈ oj.after, Region.binds md e = true → e.on ≠ i) → oi.apart ops oj = true) →
      i ∈ Region.ready md ops listed → listed.getD y true = false → YieldsIf P ops S oi v a → S w → anyHY n P md ops Q y S fuel (listed.setIfInBounds i true) (a.put oi.dst v) w → anyHY n P md ops Q y S (fuel + 1) listed a w
  | fuel, listed, a, w, free, hr, hyl, hy, hS, H => by
    refine ⟨fun h => (by rw [h] at hr; cases hr), fun j hj => ?_⟩
    by_cases hji : j = i
    · subst hji; exact opI_here hi hy hS ⟨fun _ => hS, H⟩
    have hj' := ready_mono hj hji
    cases fuel with
    | zero => rw [H.1] at hj'; cases hj'
    | succ fuel =>
      obtain ⟨hjun, oj, hoj, hall⟩ := mem_ready.1 hj
      have hnot : ∀ e ∈ oj.after, Region.binds md e = true → e.on ≠ i := fun e he hb heq => by
        have g1 := hall e he hb
        have g0 := (mem_ready.1 hr).1
        rw [heq] at g1
        rcases Nat.lt_or_ge i listed.size with h' | h'
        · simp [h'] at g0 g1; rw [g0] at g1; cases g1
        · simp [Array.getElem?_eq_none h'] at g1
      have hjy : j ≠ y := fun e => by
        subst e
        obtain ⟨e, he, hb, hon⟩ := waitsB_spec hw hoj
        exact hnot e he hb hon
      have hyl' : (listed.setIfInBounds j true).getD y true = false := by rw [getD_set_ne true hjy]; exact hyl
      refine wpOpIn_mono (fun a' w' h3 => ?_) (opI_swap hoj (free j oj hoj hji hjun hnot) (fun cs b => hsel i oi cs b hi) (fun cs b => hsel j oj cs b hoj) hQ hy (H.2 j hj'))
      have hS' : S w' := h3.2.1 (by rw [getD_set_ne true hjy]; by_cases hiy : i = y
                                    · subst hiy
                                      have g0 := (mem_ready.1 hr).1
                                      obtain ⟨e, he, hb, hon⟩ := waitsB_spec hw hi
                                      obtain ⟨_, o2, ho2, hall2⟩ := mem_ready.1 hr
                                      rw [hi] at ho2
                                      cases ho2
                                      have g1 := hall2 e he hb
                                      rw [hon] at g1
                                      exfalso
                                      rcases Nat.lt_or_ge i listed.size with h' | h'
                                      · simp [h'] at g0 g1; rw [g0] at g1; cases g1
                                      · simp [Array.getElem?_eq_none h'] at g1
                                    · rw [getD_set_ne true hiy]; exact hyl)
      refine ⟨fun _ => hS', takeY_all hi hw hsel hQ fuel (listed.setIfInBounds j true) a' w' (fun k ok hk hki hun hno => free k ok hk hki ?_ hno) (ready_mono hr (Ne.symm hji)) hyl' h3.1 hS' (by rw [Array.setIfInBounds_comm _ _ hji]; exact h3.2.2)⟩
      by_cases hjk : j = k
      · subst hjk; exact hjun
      · rw [getD_set_ne true hjk] at hun; exact hun
theorem pureY {i : Nat} {oi : Oper} {v : Value} {fuel : Nat} {listed : Array Bool} {a : Act} {w : World} (hi : ops[i]? = some oi) (hs : Region.noSelect ops = true) (hf : Region.free md ops listed i = true) (hr : (Region.ready md ops listed).contains i = true)
    (hd : waitsB md ops y i = true) (hyl : listed.getD y true = false) (hQ : ∀ c a w, Q (.panic c) (a.put oi.dst v) w → Q (.panic c) a w) (hw : Region.wanted oi (yielded ops a.tmps) = true) (hrun : ∀ w, S w → (execOp a.eval oi).run P w = .ok (.value v) w) (hS : S w)
    (h : anyHY n P md ops Q y S fuel (listed.setIfInBounds i true) (a.put oi.dst v) w) : anyHY n P md ops Q y S (fuel + 1) listed a w :=
  takeY_all hi hd (Region.noSelect_spec hs) hQ fuel listed a w (Region.free_spec hi hf) (by simpa using hr) hyl (.inl ⟨hw, hrun⟩) hS h
theorem oneY {i : Nat} {oi : Oper} {fuel : Nat} {listed : Array Bool} {a : Act} {w : World} (hr : Region.ready md ops listed = [i]) (hi : ops[i]? = some oi) (hw : Region.wanted oi (yielded ops a.tmps) = true)
    (h : ∀ K : Act → World → Prop, (∀ a w, ((listed.setIfInBounds i true).getD y true = false → S w) → anyHY n P md ops Q y S fuel (listed.setIfInBounds i true) a w → K a w) → oi.wpIn Fence.wide n P a w K Q) : anyHY n P md ops Q y S (fuel + 1) listed a w := by
  refine ⟨fun h0 => (by rw [hr] at h0; cases h0), fun j hj => ?_⟩
  rw [hr, List.mem_singleton] at hj
  subst hj
  unfold wpOpIn
  simp only [hi]
  rw [if_pos hw]
  exact h _ (fun a w hS hW => ⟨hS, hW⟩)
theorem doneY {listed : Array Bool} {a : Act} {w : World} (hr : Region.ready md ops listed = []) (h : Q .normal a w) : ∀ fuel, anyHY n P md ops Q y S fuel listed a w
  | 0 => ⟨hr, h⟩
  | _ + 1 => ⟨fun _ => h, by rw [hr]; simp⟩
theorem regionY (y : Nat) (S : World → Prop) {id : Nat} {a : Act} {w : World} (hm : P.follows .mixedOrders = true) (h : anyHY 0 P .any ops Q y S ops.size (Array.replicate ops.size false) a w.drew) : (Code.region id ops true).wp P Q a w :=
  wpIn_wide.1 (wpIn_region_any (n := 0) hm (any_of_HY _ _ _ _ h))
/-- An operation that yields a value; one that goes by its plain law. -/
theorem valI {o : Oper} {a : Act} {w : World} {K : Act → World → Prop} {v : Value} (hrun : (execOp a.eval o).run P w = .ok (.value v) w) (h : K (a.put o.dst v) w) : o.wpIn Fence.wide n P a w K Q :=
  ⟨fun _ _ => trivial, by rw [show Fence.wide.round = none from rfl, Oper.semAt_none, hrun]; exact h⟩
theorem plainI {o : Oper} {a : Act} {w : World} {K : Act → World → Prop} (hr : ∀ r args w', (execOp a.eval o).run P w ≠ .ok (.row r args) w') (h : o.wp P a w K Q) : o.wpIn Fence.wide n P a w K Q := by
  refine ⟨fun _ _ => trivial, ?_⟩
  rw [show Fence.wide.round = none from rfl, Oper.semAt_none]
  unfold Oper.wp at h
  generalize (execOp a.eval o).run P w = r at h hr ⊢
  rcases r with ⟨x, w'⟩ | ⟨x, w'⟩
  · cases x with
    | value v => exact h
    | skip => exact h
    | defer d => exact h
    | enter f args => exact ⟨fun h => (by cases h), callsIn_wide.2 h⟩
    | row r args => exact absurd rfl (hr r args w')
    | _ => exact h.elim
  · cases x with
    | panic v => exact h
    | _ => exact h.elim
end
end Go.Proofs.Ytpoigngpdcmipaa

/-
  Contract of the document's Cut of layer 13. Conditions are each theorem's own.
-/
namespace Go.Proofs.Ytpoigngpdcmipaa
open Go.RowKit Go.Shelf

section
variable {n : Nat} {Q : Exit → Act → World → Prop} {K : Act → World → Prop} {o : Oper} {a : Act} {w : World}
theorem growI {v : Value} {w' : World} (hrun : (execOp a.eval o).run Try.prog w = .ok (.value v) w') (h : K (a.put o.dst v) w') : o.wpIn Fence.wide n Try.prog a w K Q :=
  ⟨fun _ _ => trivial, by rw [show Fence.wide.round = none from rfl, Oper.semAt_none, hrun]; exact h⟩
theorem skipI {w' : World} (hrun : (execOp a.eval o).run Try.prog w = .ok .skip w') (h : K (a.put o.dst undef) w') : o.wpIn Fence.wide n Try.prog a w K Q :=
  ⟨fun _ _ => trivial, by rw [show Fence.wide.round = none from rfl, Oper.semAt_none, hrun]; exact h⟩
theorem appendI (s x : Operand) (ho : o.op = .call { callee := .builtin .append, args := #[s, x], argTypes := #[31, 31] })
    (base : Nat) (v : Value) (m : Nat) (xs : List Value) (hs : a.eval s = v) (hown : w.ownsRow base 5 1 v m xs)
    (B : Nat) (A : Option Addr) (c : Nat) (bs : List UInt8) (hx : a.eval x = .slice A bs.length c) (hA : A = none → c = 0) (hr : Rd w B A bs)
    (hlen : m + bs.length ≤ 2199023255552) (hbase : base ≤ w.heap.size)
    (h : ∀ v' w', w'.ownsRow base 5 1 v' (m + bs.length) (xs ++ row bs) → w.grownBy w' v.ownBlock → K (a.put o.dst v') w') : o.wpIn Fence.wide n Try.prog a w K Q := by
  obtain ⟨i0, hi, hz0, hz1, hz2⟩ := info_parts info_u8
  rcases A with _ | ad
  · have h0 : bs = [] := by
      rcases Nat.eq_zero_or_pos bs.length with e | e
      · exact List.eq_nil_of_length_eq_zero e
      · obtain ⟨_, _, e', _⟩ := hr e; cases e'
    subst h0
    obtain rfl := hA rfl
    have hrun := run_append_owned_none (P := Try.prog) (w := w) base 31 o.type 5 i0 1 Try.underlying31 hi v m xs hown
    refine growI (v := v) (w' := w) ?_ (h v w (by simpa [row] using hown) (World.grownBy.refl w _))
    simp [execOp, ho, resolve, invoke, builtin, hs, hx, hrun, Result.andThen]
  · obtain ⟨v', w', hrun, h1, h2, _⟩ := run_append_own (P := Try.prog) w base 31 o.type 5 i0 (.int .u8 0) 1 1 Try.underlying31 hi hz0 hz1 hz2 rfl (by decide) v m xs hown ad bs.length c (row bs)
      (by rw [row_length, Nat.mul_one]) hr.src (row_one bs) (by unfold maxLen; omega) (by omega) hbase
    refine growI (v := v') (w' := w') ?_ (h v' w' h1 h2)
    simp [execOp, ho, resolve, invoke, builtin, hs, hx, hrun, Result.andThen]
theorem store_slI {x y : Operand} {p : Addr} {v0 : Value} {A : Option Addr} {m c : Nat} (ho : o.op = .store 31 x y) (hx : a.eval x = .pointer (some p)) (hy : a.eval y = .slice A m c) (hc : w.cell? p = some v0) (hf : w.frozen? p = false)
    (h : K (a.put o.dst undef) (w.setCell p (.slice A m c))) : o.wpIn Fence.wide n Try.prog a w K Q := by
  refine skipI (w' := w.setCell p (.slice A m c)) ?_ h
  unfold execOp
  simp only [ho, hx, hy, Instr.storeAt, Instr.sureAddr, Sem.run_bind, Sem.run_pure, Result.andThen_ok]
  go_simp
end
theorem wpList_growU {ops : Array Oper} {rest : List Oper} {o : Oper} {a : Act} {w w' : World} {Q : Exit → Act → World → Prop} {v : Value} (hg : o.guard = none) (hrun : (execOp a.eval o).run Try.prog w = .ok (.value v) w') (h : wpList Try.prog ops Q rest (a.put o.dst v) w') : wpList Try.prog ops Q (o :: rest) a w :=
  wpList_plain hg fun K hK => by unfold Oper.wp; rw [hrun]; exact hK _ _ h
/-- The length of a slice. -/
def lenV (v : Value) : Nat := match v with | .slice _ n _ => n | _ => 0
theorem own_keepT {w w' : World} {base base' n n' s s' e e' : Nat} {v v' : Value} {xs xs' : List Value} (h : w.ownsRow base e s v n xs) (hv : w.ownsRow base' e' s' v' n' xs') (hg : w.grownBy w' v'.ownBlock) (hne : e' ≠ e) : w'.ownsRow base e s v n xs := by
  refine h.kept hg ?_
  rcases h.2 with ⟨rfl, _⟩ | ⟨g, cap, cur, rfl, _, hgb, _⟩
  · exact .inl rfl
  · refine .inr fun e1 => ?_
    rcases hv.2 with ⟨rfl, _⟩ | ⟨g2, cap2, cur2, rfl, _, hgb2, _⟩
    · simp [Value.ownBlock] at e1
    · have e2 : g = g2 := by simpa [Value.ownBlock] using e1
      subst e2
      rw [hgb] at hgb2
      cases hgb2
      exact hne rfl
theorem KeepR.below {r B : Nat} {X Y Z : World} (k : KeepR r Y Z) (h : Below B X Y) (hr : B ≤ r) : Below B X Z :=
  ⟨k.2.1.trans h.os, k.2.2.1.trans h.tape, k.2.2.2.1.trans h.output, by rw [k.1]; exact h.size, fun i hi => (k.2.2.2.2 i (by omega)).trans (h.block i hi)⟩
end Go.Proofs.Ytpoigngpdcmipaa

/-
  Two facts of packets of IPv4 in fragments. No program. Conditions are each theorem's own.
-/
namespace Go.Proofs.Ytpoigngpdcmipaa
open Go.RowKit

theorem off_bd {q : P4} (h : chk4 q = 0) : 0 ≤ q.off ∧ q.off ≤ 65535 := by
  obtain ⟨⟨_, _, _, _, _, _, _, _, _, _, _, _, a13, a14, _, _, _, _⟩, _, _⟩ := chk4_ok h
  exact ⟨a13, by omega⟩
theorem mem_datas {l : List P4} {x : P4} (h : x ∈ l) : x.dat.length ≤ (datas l).length := by
  induction l with
  | nil => cases h
  | cons a l ih =>
    unfold datas at ih ⊢
    rw [List.flatMap_cons, List.length_append]
    rcases List.mem_cons.1 h with rfl | h
    · omega
    · have := ih h; omega
theorem datas_le : ∀ (l : List P4) (m : Nat), (∀ q ∈ l, q.dat.length ≤ m) → (datas l).length ≤ l.length * m
  | [], _, _ => by simp [datas]
  | a :: l, m, h => by
    have h1 := datas_le l m (fun q hq => h q (List.mem_cons_of_mem _ hq))
    have h2 := h a (List.mem_cons_self ..)
    unfold datas at h1 ⊢
    rw [List.flatMap_cons, List.length_append, List.length_cons, Nat.add_mul]; omega
end Go.Proofs.Ytpoigngpdcmipaa

/-
  Contract of the document's Glue of layer 13. Conditions are each theorem's own.
-/
namespace Go.Proofs.Ytpoigngpdcmipaa
open Go.RowKit Go.Shelf

theorem own_keepB {w w' : World} {base E n n' s s' e e' : Nat} {v v' : Value} {xs xs' : List Value} (h : w.ownsRow base e s v n xs) (hs : ∀ k, v.ownBlock = some k → k < E) (hv : w.ownsRow E e' s' v' n' xs') (hg : w.grownBy w' v'.ownBlock) : w'.ownsRow base e s v n xs := by
  refine h.kept hg ?_
  rcases h.2 with ⟨rfl, _⟩ | ⟨g, cap, cur, rfl, _, hgb, _⟩
  · exact .inl rfl
  · refine .inr fun e1 => ?_
    rcases hv.2 with ⟨rfl, _⟩ | ⟨g2, cap2, cur2, rfl, hb2, hgb2, _⟩
    · simp [Value.ownBlock] at e1
    · have e2 : g = g2 := by simpa [Value.ownBlock] using e1
      have := hs g (by simp [Value.ownBlock])
      omega
end Go.Proofs.Ytpoigngpdcmipaa

/-
  Parts as they lie in memory; contracts of the document's answers of layer 15 that read them. Conditions are each theorem's own.
-/
namespace Go.Proofs.Ytpoigngpdcmipaa
open Go.RowKit Go.Shelf

/-- A part, and where its bytes lie. -/
structure XP where
  p : Pc
  A : Option Addr
  c : Nat
def clP (x : XP) : List Value := [.int .i64 x.p.off, .bool x.p.more, .slice x.A x.p.b.length x.c]
def piE (l : List XP) : List Pc := l.map (·.p)
def okP (p : Pc) : Prop := 0 ≤ p.off ∧ p.stop ≤ 65535
/-- At ⟨g, o⟩ lies a slice of parts; what it reaches lies below block B. -/
structure Ho (w : World) (B g o : Nat) (A : Option Addr) (c : Nat) (l : List XP) : Prop where
  cell : w.cell? ⟨g, o, none⟩ = some (.slice A l.length c)
  gB : g < B
  cap : l.length ≤ c
  rd : RdS clP 3 w B A l
  arg : ∀ x ∈ l, Arg w B x.A x.c x.p.b
  ok : ∀ x ∈ l, okP x.p
  n : l.length ≤ 100000
  none_ : A = none → c = 0
theorem Ho.below {w w' : World} {B g o : Nat} {A : Option Addr} {c : Nat} {l : List XP} (h : Ho w B g o A c l) (hb : Below B w w') : Ho w' B g o A c l :=
  ⟨(hb.cell h.gB).trans h.cell, h.gB, h.cap, h.rd.below hb, fun x hx => (h.arg x hx).below hb, h.ok, h.n, h.none_⟩
theorem Ho.more {w : World} {B B' g o : Nat} {A : Option Addr} {c : Nat} {l : List XP} (h : Ho w B g o A c l) (hB : B ≤ B') : Ho w B' g o A c l :=
  ⟨h.cell, Nat.lt_of_lt_of_le h.gB hB, h.cap, h.rd.more hB, fun x hx => (h.arg x hx).more hB, h.ok, h.n, h.none_⟩
theorem farP_nn : ∀ l : List Pc, 0 ≤ farP l
  | [] => Int.le_refl _
  | x :: l => by have := farP_nn l; rw [farP]; omega
theorem bytesP_le {n : Int} (hn : 0 ≤ n) : ∀ l : List Pc, (∀ x ∈ l, x.len ≤ n) → 0 ≤ bytesP l ∧ bytesP l ≤ n * (l.length : Int)
  | [], _ => by simp [bytesP]
  | x :: l, h => by
    obtain ⟨h1, h2⟩ := bytesP_le hn l (fun y hy => h y (List.mem_cons_of_mem _ hy))
    have h3 := h x (List.mem_cons_self ..)
    have h4 : 0 ≤ x.len := Int.natCast_nonneg _
    simp only [bytesP, List.length_cons]
    refine ⟨by omega, ?_⟩
    rw [show n * ((l.length + 1 : Nat) : Int) = n * (l.length : Int) + n by rw [Int.natCast_add, Int.mul_add]; simp]
    omega
theorem cover_cons (x : Pc) (l : List Pc) (a : Int) : coverP (x :: l) a = ((decide (x.off ≤ a) && decide (a < x.stop)) || coverP l a) := by simp [coverP]
end Go.Proofs.Ytpoigngpdcmipaa

/-
  Contracts of the document's same, shares and Room of layer 15. Conditions are each theorem's own.
-/
namespace Go.Proofs.Ytpoigngpdcmipaa
open Go.RowKit Go.Shelf

theorem clP_one (x : XP) : (clP x).toArray.all (·.oneCell') = true := by simp [clP, Value.oneCell']
theorem same_cons (x : Pc) (l : List Pc) (a : Int) (m : Bool) (b : List UInt8) : sameP (x :: l) ⟨a, m, b⟩ = (((x.off == a) && (x.more == m) && decide (x.b = b)) || sameP l ⟨a, m, b⟩) := by
  obtain ⟨x1, x2, x3⟩ := x
  rw [sameP, sameP, List.any_cons]
  congr 1
  rw [Bool.eq_iff_iff]
  simp [and_assoc]
theorem sharing_iff {x p : Pc} : sharing x p = true ↔ (0 < x.len ∧ 0 < p.len ∧ x.off < p.stop ∧ p.off < x.stop) ∨ (x.off = p.off ∧ x.len = 0 ∧ p.len = 0) := by
  simp only [sharing, Bool.or_eq_true, Bool.and_eq_true, decide_eq_true_eq, beq_iff_eq, and_assoc]
theorem shares_cons (x : Pc) (l : List Pc) (p : Pc) : sharesP (x :: l) p = (sharing x p || sharesP l p) := by simp [sharesP]
end Go.Proofs.Ytpoigngpdcmipaa

/-
  Contracts of what the code of layer 15 asks of single parts. Conditions are each theorem's own.
-/
namespace Go.Proofs.Ytpoigngpdcmipaa
open Go.RowKit Go.Shelf

theorem cells_at {w : World} {g i : Nat} {cs : Array Value} {ty : TypeId} {fr : Nat × Nat} {v : Value} (h : w.heap[g]? = some (.cells cs ty fr)) (hi : cs[i]? = some v) : w.cell? ⟨g, i, none⟩ = some v := by
  simp [World.cell?, h, hi]
end Go.Proofs.Ytpoigngpdcmipaa

/-
  Contracts of meets, of the library's ContainsFunc at parts, of place and near of layer 15. Conditions are each theorem's own.
-/
namespace Go.Proofs.Ytpoigngpdcmipaa
open Go.RowKit Go.Shelf
theorem min_if (a b : Int) : (if b < a then b else a) = min a b := by omega
/-! ### ContainsFunc -/
theorem row_of {w : World} {B : Nat} {A : Option Addr} {l : List XP} (h : RdS clP 3 w B A l) {k : Nat} {x : XP} (hx : l[k]? = some x) : ∃ b o, A = some ⟨b, o, none⟩ ∧ b < B ∧ w.rangeAt b (o + k * 3) (clP x) := by
  obtain ⟨b, o, e, hb, hr⟩ := h (by have := (List.getElem?_eq_some_iff.1 hx).1; omega)
  exact ⟨b, o, e, hb, hr k x hx⟩
/-! ### Search -/
end Go.Proofs.Ytpoigngpdcmipaa

/-
  Parts that the code keeps, as they lie in memory; contracts of isMade, place and near of layer 15. Conditions are each theorem's own.
-/
namespace Go.Proofs.Ytpoigngpdcmipaa
open Go.RowKit Go.Shelf
/-- At block g lies what the code of layer 15 keeps. -/
structure Hv (w : World) (g : Nat) (A : Option Addr) (c : Nat) (L : List XP) : Prop where
  made : w.cell? ⟨g, 0, none⟩ = some (.bool true)
  parts : w.cell? ⟨g, 1, none⟩ = some (.slice A L.length c)
  bytes : w.cell? ⟨g, 2, none⟩ = some (.int .i64 (bytesP (piE L)))
  far : w.cell? ⟨g, 3, none⟩ = some (.int .i64 (farP (piE L)))
  ended : w.cell? ⟨g, 4, none⟩ = some (.bool (endedP (piE L)))
  rd : RdS clP 3 w w.heap.size A L
  arg : ∀ x ∈ L, Arg w w.heap.size x.A x.c x.p.b
  cap : L.length ≤ c
  none_ : A = none → c = 0
  ris : Ris (piE L)
  n : L.length ≤ 100000
theorem Hv.lt {w : World} {g : Nat} {A : Option Addr} {c : Nat} {L : List XP} (h : Hv w g A c L) : g < w.heap.size := cell_block h.made
theorem Hv.below {w w' : World} {g : Nat} {A : Option Addr} {c : Nat} {L : List XP} (h : Hv w g A c L) (hb : Below w.heap.size w w') : Hv w' g A c L :=
  ⟨(hb.cell (p := ⟨g, 0, none⟩) h.lt).trans h.made, (hb.cell (p := ⟨g, 1, none⟩) h.lt).trans h.parts, (hb.cell (p := ⟨g, 2, none⟩) h.lt).trans h.bytes, (hb.cell (p := ⟨g, 3, none⟩) h.lt).trans h.far,
   (hb.cell (p := ⟨g, 4, none⟩) h.lt).trans h.ended, (h.rd.below hb).more hb.size, fun x hx => ((h.arg x hx).below hb).more hb.size, h.cap, h.none_, h.ris, h.n⟩
/-- Where a slice of a slice of parts begins. -/
def cutQ (A : Option Addr) (c lo : Nat) : Option Addr := if c = lo then A else A.map (·.add (lo * 3))
theorem RdS.cutQ {w : World} {B : Nat} {A : Option Addr} {c : Nat} {l : List XP} (h : RdS clP 3 w B A l) (hc : l.length ≤ c) (lo k : Nat) : RdS clP 3 w B (cutQ A c lo) ((l.drop lo).take k) := by
  intro hn
  have hlo : lo < l.length := by simp at hn; omega
  obtain ⟨b, o, rfl, hb, hr⟩ := h (by omega)
  refine ⟨b, o + lo * 3, by simp [Go.Proofs.Ytpoigngpdcmipaa.cutQ, show ¬ c = lo by omega, add_off], hb, fun j x hx => ?_⟩
  rw [List.getElem?_take] at hx
  split at hx
  · rw [List.getElem?_drop] at hx
    have := hr (lo + j) x hx
    rwa [Nat.add_mul, ← Nat.add_assoc] at this
  · cases hx
theorem at_unique {L : List XP} (h : Ris (piE L)) (off : Int) {m : Nat} (hm : m ≤ L.length) (h1 : ∀ (t : Nat) (x : XP), t < m → L[t]? = some x → ¬ x.p.off ≥ off) (h2 : ∀ (t : Nat) (x : XP), m ≤ t → L[t]? = some x → x.p.off ≥ off) : m = atP (piE L) off := by
  have hl : (piE L).length = L.length := by simp [piE]
  have ha := atP_le (piE L) off
  have get : ∀ (t : Nat) (x : XP), L[t]? = some x → (piE L)[t]? = some x.p := fun t x hx => by rw [piE, List.getElem?_map, hx]; rfl
  rcases Nat.lt_trichotomy m (atP (piE L) off) with g | g | g
  · obtain ⟨x, hx⟩ : ∃ x, L[m]? = some x := ⟨_, List.getElem?_eq_getElem (by omega)⟩
    have := h2 m x (Nat.le_refl _) hx
    have := (at_lt h off (get m x hx)).1 g
    omega
  · exact g
  · obtain ⟨x, hx⟩ : ∃ x, L[atP (piE L) off]? = some x := ⟨_, List.getElem?_eq_getElem (by omega)⟩
    have := h1 _ x g hx
    have := (at_lt h off (get _ x hx)).2 (Nat.le_refl _)
    omega
/-- The parts on both sides of a place, with where they lie. -/
def nearX (L : List XP) (off : Int) : List XP := (L.drop (atP (piE L) off - 1)).take (min (atP (piE L) off + 1) L.length - (atP (piE L) off - 1))
theorem nearX_p (L : List XP) (off : Int) : piE (nearX L off) = nearP (piE L) off := by
  simp only [nearX, nearP, piE, List.map_take, List.map_drop, List.length_map]
theorem nearX_sub {L : List XP} {off : Int} : ∀ x ∈ nearX L off, x ∈ L := fun _ hx => List.mem_of_mem_drop (List.mem_of_mem_take hx)
theorem nearX_len (L : List XP) (off : Int) : (nearX L off).length = min (atP (piE L) off + 1) L.length - (atP (piE L) off - 1) := by
  have := atP_le (piE L) off
  have hl : (piE L).length = L.length := by simp [piE]
  rw [nearX, List.length_take, List.length_drop]; omega
end Go.Proofs.Ytpoigngpdcmipaa

/-
  Contracts of the document's Room and Add of layer 15. Conditions are each theorem's own.
-/
namespace Go.Proofs.Ytpoigngpdcmipaa
open Go.RowKit Go.Shelf

theorem clP_ones (x : XP) : ∀ u ∈ clP x, u.oneCell' = true := by
  intro u hu
  simp only [clP, List.mem_cons, List.not_mem_nil, or_false] at hu
  rcases hu with rfl | rfl | rfl <;> rfl
theorem flat3 (l : List XP) : (l.flatMap clP).length = l.length * 3 := flat_len l (fun _ _ => rfl)
end Go.Proofs.Ytpoigngpdcmipaa

/-
  A part put into a row of parts: the library's Insert, read off its text. What is kept where some blocks are written. Conditions are each theorem's own.
-/
namespace Go.Proofs.Ytpoigngpdcmipaa
open Go.RowKit Go.Shelf

/-- All blocks but some lie as they lay. -/
structure Kept (S : Nat → Prop) (w w' : World) : Prop where
  os : w'.os = w.os
  tape : w'.tape = w.tape
  output : w'.output = w.output
  size : w.heap.size ≤ w'.heap.size
  block : ∀ k, k < w.heap.size → ¬ S k → w'.heap[k]? = w.heap[k]?
section
variable {S T : Nat → Prop} {a b c : World}
theorem Kept.of_below (h : Below a.heap.size a b) : Kept S a b := ⟨h.os, h.tape, h.output, h.size, fun k hk _ => h.block k hk⟩
theorem Kept.refl (a : World) : Kept S a a := Kept.of_below (Below.refl _ a)
theorem Kept.trans (h : Kept S a b) (k : Kept T b c) (hT : ∀ i, i < a.heap.size → T i → S i) : Kept S a c :=
  ⟨k.os.trans h.os, k.tape.trans h.tape, k.output.trans h.output, Nat.le_trans h.size k.size,
   fun i hi hs => (k.block i (Nat.lt_of_lt_of_le hi h.size) (fun t => hs (hT i hi t))).trans (h.block i hi hs)⟩
theorem Kept.then_below (h : Kept S a b) (k : Below b.heap.size b c) : Kept S a c := h.trans (T := fun _ => False) (Kept.of_below k) (fun _ _ f => f.elim)
theorem Kept.mono (h : Kept S a b) (hS : ∀ i, i < a.heap.size → S i → T i) : Kept T a b := ⟨h.os, h.tape, h.output, h.size, fun k hk hn => h.block k hk (fun s => hn (hS k hk s))⟩
theorem Kept.below {B : Nat} (h : Kept S a b) (hB : B ≤ a.heap.size) (hS : ∀ i, S i → B ≤ i) : Below B a b := ⟨h.os, h.tape, h.output, h.size, fun k hk => h.block k (by omega) (fun s => by have := hS k s; omega)⟩
theorem Kept.of_grown {r : Option Nat} (h : a.grownBy b r) : Kept (fun k => some k = r) a b := ⟨h.os, h.tape, h.output, h.size, fun k hk hn => h.block k hk hn⟩
theorem Kept.setRow (w : World) (g : Nat) (cs : Array Value) : Kept (fun k => k = g) w (w.setRow g cs) := ⟨rfl, rfl, rfl, by simp [World.setRow], fun k _ hn => setRow_other w g k cs hn⟩
theorem Kept.drew (w : World) : Kept S w w.drew := Kept.of_below (Below.refl _ w).drew
end
theorem splice_get {α : Type} {L cs : List α} {k : Nat} (h : k + cs.length ≤ L.length) (j : Nat) : (splice L k cs)[j]? = if k ≤ j ∧ j < k + cs.length then cs[j - k]? else L[j]? := by
  unfold splice
  by_cases h1 : j < k
  · rw [if_neg (by omega), List.getElem?_append_left (by simp; omega), List.getElem?_take, if_pos h1]
  · rw [List.getElem?_append_right (by simp; omega), List.length_take, Nat.min_eq_left (by omega)]
    by_cases h2 : j < k + cs.length
    · rw [if_pos ⟨by omega, h2⟩, List.getElem?_append_left (by omega)]
    · rw [if_neg (by omega), List.getElem?_append_right (by omega), List.getElem?_drop]
      congr 1; omega
/-- What the two copies leave, in either order: the cells ahead of the place, the new ones, the others. -/
theorem ins_take {α : Type} {R xs C : List α} {i n : Nat} (hi : i ≤ n) (hx : xs.length = n * 3) (hC : C.length = 3) (hp : ∀ j, j < i * 3 → R[j]? = xs[j]?) (R' : List α)
    (hR' : ∀ j, j < n * 3 + 3 → R'[j]? = if j < i * 3 then R[j]? else if j < i * 3 + 3 then C[j - i * 3]? else xs[j - 3]?) : R'.take (n * 3 + 3) = xs.take (i * 3) ++ (C ++ xs.drop (i * 3)) := by
  refine List.ext_getElem? fun j => ?_
  rw [List.getElem?_take]
  by_cases hj : j < n * 3 + 3
  · rw [if_pos hj, hR' j hj]
    by_cases h1 : j < i * 3
    · rw [if_pos h1, List.getElem?_append_left (by simp; omega), List.getElem?_take, if_pos h1, hp j h1]
    · rw [if_neg h1, List.getElem?_append_right (by simp; omega), List.length_take, Nat.min_eq_left (by omega)]
      by_cases h2 : j < i * 3 + 3
      · rw [if_pos h2, List.getElem?_append_left (by omega)]
      · rw [if_neg h2, List.getElem?_append_right (by omega), List.getElem?_drop]
        congr 1; omega
  · rw [if_neg hj, List.getElem?_eq_none]
    simp; omega
/-- copy, over rows of elements of three cells. -/
theorem run_copy3 (w : World) (dT sT ty elem : TypeId) (g o dLen dCap : Nat) (a : Addr) (sLen sCap : Nat) (cur : Array Value) (t : TypeId) (cs : List Value) (k : Nat)
    (hu : Try.prog.underlying dT = some (.slice elem)) (hs : (Try.prog.info? elem).map (·.size) = some 3) (hk : k = Nat.min sLen dLen)
    (hg : w.heap[g]? = some (.cells cur t (0, 0))) (hn : cs.length = k * 3)
    (hsrc : ∀ j v, cs[j]? = some v → w.cell? (a.add j) = some v) (hfit : o + cs.length ≤ cur.size) (h1 : ∀ v ∈ cs, v.oneCell' = true) :
    (Builtin.copy_ #[dT, sT] ty #[.slice (some ⟨g, o, none⟩) dLen dCap, .slice (some a) sLen sCap]).run Try.prog w =
      .ok (goInt k) (w.setRow g (splice cur.toList o cs).toArray) := by
  have hl := run_loadCells_list (P := Try.prog) w a cs hsrc
  have hst := run_storeCells_at Try.prog g o t cs 0 cur w hg (by simpa using hfit) h1
  cases hq : Try.prog.info? elem with
  | none => simp [hq] at hs
  | some i =>
    have hi : i.size = 3 := by simpa [hq] using hs
    rw [hn] at hl
    subst hk
    simp [Builtin.copy_, run_underlying hu, Builtin.lenOf, Builtin.firstCells, sizeOf, typeInfo, hq, hi, hl, hst, splice]
theorem wpList_copy_eq {P : Program} {w : World} {ops : Array Oper} {rest : List Oper} {o : Oper} {a : Act} {Q : Exit → Act → World → Prop} (hgd : o.guard = none) (d s : Operand) (t t' : TypeId)
    (ho : o.op = .call { callee := .builtin .copy, args := #[d, s], argTypes := #[t, t'] }) (v u : Value) (hd : a.eval d = v) (hs : a.eval s = u) {v' : Value} {w1 : World}
    (hr : (Builtin.copy_ #[t, t'] o.type #[v, u]).run P w = .ok v' w1) (h : ∀ w', w' = w1 → wpList P ops Q rest (a.put o.dst v') w') : wpList P ops Q (o :: rest) a w :=
  wpList_plain hgd fun K hK => by
    unfold Oper.wp execOp
    simp only [ho, resolve, invoke, builtin, Sem.run_bind, Sem.run_pure, Result.andThen_ok, List.map_toArray, List.map_cons, List.map_nil, hd, hs, hr]
    exact hK _ _ (h _ rfl)
theorem step_copy_eq {P : Program} {ops : Array Oper} {o : Oper} {a : Act} {w : World} {K : Act → World → Prop} {Q : Exit → Act → World → Prop} {E : Prop}
    (hg : o.guard = none) (d x : Operand) (dT sT : TypeId) (hop : o.op = Op.call { callee := Callee.builtin Builtin.copy, args := #[d, x], argTypes := #[dT, sT] })
    (v u : Value) (hd : a.eval d = v) (hx : a.eval x = u) {v' : Value} {w1 : World} (hr : (Builtin.copy_ #[dT, sT] o.type #[v, u]).run P w = .ok v' w1) (hK : ∀ w', w' = w1 → K (a.put o.dst v') w') :
    if Region.wanted o (yielded ops a.tmps) = true then Oper.wp P o a w K Q else E := by
  have hw : Region.wanted o (yielded ops a.tmps) = true := by simp [Region.wanted, hg]
  rw [if_pos hw]
  unfold Oper.wp
  simp [execOp, hop, resolve, invoke, builtin, hd, hx, hr, Result.andThen]
  exact hK _ rfl
theorem clP_oneM {L : List XP} : ∀ u ∈ L.flatMap clP, u.oneCell' = true := fun u hu => by
  obtain ⟨y, _, hy⟩ := List.mem_flatMap.1 hu
  exact clP_ones y u hy
def putX (L : List XP) (i : Nat) (x : XP) : List XP := L.take i ++ x :: L.drop i
theorem putX_cells (L : List XP) (i : Nat) (x : XP) : (putX L i x).flatMap clP = (L.flatMap clP).take (i * 3) ++ (clP x ++ (L.flatMap clP).drop (i * 3)) := by
  have h : ∀ (L : List XP) (i : Nat), (L.take i).flatMap clP = (L.flatMap clP).take (i * 3) ∧ (L.drop i).flatMap clP = (L.flatMap clP).drop (i * 3) := fun L => by
    induction L with
    | nil => intro i; simp
    | cons a L ih =>
      intro i
      cases i with
      | zero => simp
      | succ i =>
        obtain ⟨h1, h2⟩ := ih i
        rw [List.take_succ_cons, List.drop_succ_cons, List.flatMap_cons, List.flatMap_cons, h1, h2]
        have e : (i + 1) * 3 = (clP a).length + i * 3 := by show _ = 3 + i * 3; omega
        rw [e, List.take_length_add_append, List.drop_length_add_append]
        exact ⟨rfl, rfl⟩
  rw [putX, List.flatMap_append, List.flatMap_cons, (h L i).1, (h L i).2]
end Go.Proofs.Ytpoigngpdcmipaa

/-
  A part put into a row of parts: the library's Insert where there is no room, and at the end. Conditions are each theorem's own.
-/
namespace Go.Proofs.Ytpoigngpdcmipaa
open Go.RowKit Go.Shelf
end Go.Proofs.Ytpoigngpdcmipaa

/-
  A region that draws its order and stores last: two operations may come up; the walk's moves. Conditions are each theorem's own.
-/
namespace Go.Proofs.Ytpoigngpdcmipaa
open Go.RowKit
section
variable {n : Nat} {P : Program} {ops : Array Oper} {Q : Exit → Act → World → Prop} {md : Region.Mode} {S : World → Prop} {y : Nat}
theorem twoY {i j : Nat} {oi oj : Oper} {fuel : Nat} {listed : Array Bool} {a : Act} {w : World} (hr : Region.ready md ops listed = [i, j]) (hi : ops[i]? = some oi) (hj : ops[j]? = some oj) (hwi : Region.wanted oi (yielded ops a.tmps) = true) (hwj : Region.wanted oj (yielded ops a.tmps) = true)
    (h1 : ∀ K : Act → World → Prop, (∀ a w, ((listed.setIfInBounds i true).getD y true = false → S w) → anyHY n P md ops Q y S fuel (listed.setIfInBounds i true) a w → K a w) → oi.wpIn Fence.wide n P a w K Q)
    (h2 : ∀ K : Act → World → Prop, (∀ a w, ((listed.setIfInBounds j true).getD y true = false → S w) → anyHY n P md ops Q y S fuel (listed.setIfInBounds j true) a w → K a w) → oj.wpIn Fence.wide n P a w K Q) : anyHY n P md ops Q y S (fuel + 1) listed a w := by
  refine ⟨fun h0 => (by rw [hr] at h0; cases h0), fun k hk => ?_⟩
  rw [hr] at hk
  rcases List.mem_cons.1 hk with rfl | hk
  · unfold wpOpIn
    simp only [hi]
    rw [if_pos hwi]
    exact h1 _ (fun a w hS hW => ⟨hS, hW⟩)
  · rw [List.mem_singleton] at hk
    subst hk
    unfold wpOpIn
    simp only [hj]
    rw [if_pos hwj]
    exact h2 _ (fun a w hS hW => ⟨hS, hW⟩)
theorem valGI {o : Oper} {a : Act} {w w' : World} {K : Act → World → Prop} {v : Value} (hrun : (execOp a.eval o).run P w = .ok (.value v) w') (h : K (a.put o.dst v) w') : o.wpIn Fence.wide n P a w K Q :=
  ⟨fun _ _ => trivial, by rw [show Fence.wide.round = none from rfl, Oper.semAt_none, hrun]; exact h⟩
end
section
variable {n : Nat} {o : Oper} {a : Act} {w : World} {K : Act → World → Prop} {Q : Exit → Act → World → Prop}
theorem store_intI {x y : Operand} {p : Addr} {v0 : Value} {i : Int} (ho : o.op = .store 3 x y) (hx : a.eval x = .pointer (some p)) (hy : a.eval y = .int .i64 i) (hc : w.cell? p = some v0) (hf : w.frozen? p = false)
    (h : K (a.put o.dst undef) (w.setCell p (.int .i64 i))) : o.wpIn Fence.wide n Try.prog a w K Q := by
  refine skipI (w' := w.setCell p (.int .i64 i)) ?_ h
  unfold execOp
  simp only [ho, hx, hy, Instr.storeAt, Instr.sureAddr, Sem.run_bind, Sem.run_pure, Result.andThen_ok]
  go_simp
end
end Go.Proofs.Ytpoigngpdcmipaa

/-
  One part more is kept: what keep of layer 15 leaves. Conditions are each theorem's own.
-/
namespace Go.Proofs.Ytpoigngpdcmipaa
open Go.RowKit Go.Shelf
theorem Kept.setCell (w : World) (g i : Nat) (v : Value) : Kept (fun k => k = g) w (w.setCell ⟨g, i, none⟩ v) := ⟨rfl, rfl, rfl, by simp, fun k _ hn => heap_setCell_other w ⟨g, i, none⟩ k v hn⟩
theorem range_heap {w : World} {u : Nat} {cs : List Value} {t : TypeId} {fr : Nat × Nat} (h : w.heap[u]? = some (.cells cs.toArray t fr)) : w.rangeAt u 0 cs := fun j v hj => cells_at h (by rw [Nat.zero_add, List.getElem?_toArray]; exact hj)
theorem own_keptT {S : Nat → Prop} {w w' : World} {b e s n : Nat} {v : Value} {xs : List Value} (h : w.ownsRow b e s v n xs) (k : Kept S w w') (hS : ∀ g, S g → ∀ cs fr, w.heap[g]? ≠ some (.cells cs e fr)) : w'.ownsRow b e s v n xs := by
  refine ⟨h.1, ?_⟩
  rcases h.2 with hn | ⟨g, cap, cur, hv, hb, hg, rest⟩
  · exact .inl hn
  · exact .inr ⟨g, cap, cur, hv, hb, (k.block g (heap_lt hg) (fun s => hS g s _ _ hg)).trans hg, rest⟩
theorem own_base0 {w : World} {b e s n : Nat} {v : Value} {xs : List Value} (h : w.ownsRow b e s v n xs) : w.ownsRow 0 e s v n xs := by
  refine ⟨h.1, ?_⟩
  rcases h.2 with hn | ⟨g, cap, cur, hv, hb, rest⟩
  · exact .inl hn
  · exact .inr ⟨g, cap, cur, hv, Nat.zero_le _, rest⟩
end Go.Proofs.Ytpoigngpdcmipaa

/-
  Contracts of New, Bytes, Room and Add of layer 15's code. Conditions are each theorem's own.
-/
namespace Go.Proofs.Ytpoigngpdcmipaa
open Go.RowKit Go.Shelf
theorem nearX_le (L : List XP) (off : Int) {n : Nat} (hn : n = L.length) (h : n ≤ 100000) : (nearX L off).length ≤ 100000 := by
  rw [nearX_len]; omega
theorem nearX_any (L : List XP) (off : Int) (f : Pc → Bool) : (nearX L off).any (fun y => f y.p) = (nearP (piE L) off).any f := by
  rw [← nearX_p, piE, List.any_map]; rfl
theorem putX_len {L : List XP} {n : Nat} (hn : n = L.length) (a : Int) (x : XP) : (putX L (atP (piE L) a) x).length = n + 1 := by
  have := atP_le (piE L) a
  have hl : (piE L).length = L.length := by simp [piE]
  simp [putX]; omega
theorem putX_pure (L : List XP) (a : Int) (x : XP) (hx : x.p.off = a := by rfl) : piE (putX L (atP (piE L) a) x) = putP (piE L) x.p := by
  subst hx
  simp only [putX, putP, piE, List.map_append, List.map_cons, List.map_take, List.map_drop]
end Go.Proofs.Ytpoigngpdcmipaa

/-
  Contract of Add of layer 15's code. Conditions are each theorem's own.
-/
namespace Go.Proofs.Ytpoigngpdcmipaa
open Go.RowKit Go.Shelf
end Go.Proofs.Ytpoigngpdcmipaa

/-
  The spans between parts, as the iterator of layer 15's code hands them over. Conditions are each theorem's own.
-/
namespace Go.Proofs.Ytpoigngpdcmipaa
open Go.RowKit Go.Shelf
attribute [local go_sem] Oper.semAt_some
def encG (x : Int × Int) : Array Value := #[.int .i64 x.1, .int .i64 x.2]
/-- What is known of a span when it comes. -/
def GG (L : List Pc) (pre : List (Int × Int)) (x : Int × Int) (_ : World) : Prop := ∃ more, gapsS 0 L = pre ++ x :: more
section
variable {n : Nat} {P : Program} {ops : Array Oper} {rest : List Oper} {o : Oper} {a : Act} {w w' : World} {Q : Exit → Act → World → Prop} {v : Value}
theorem listW_val (hg : o.guard = none) (hd : ∀ c, o.op ≠ .defer c) (hrun : (execOp a.eval o).run P w = .ok (.value v) w)
    (h : wpListIn Fence.wide n P ops Q rest (a.put o.dst v) w) : wpListIn Fence.wide n P ops Q (o :: rest) a w :=
  wpListIn_plain hg fun K hK => ⟨fun _ _ => trivial, by rw [Oper.semAt_plain _ _ _ hd, hrun]; exact hK _ _ h⟩
theorem listW_skip (hg : o.guard = none) (hd : ∀ c, o.op ≠ .defer c) (hrun : (execOp a.eval o).run P w = .ok .skip w')
    (h : wpListIn Fence.wide n P ops Q rest (a.put o.dst undef) w') : wpListIn Fence.wide n P ops Q (o :: rest) a w :=
  wpListIn_plain hg fun K hK => ⟨fun _ _ => trivial, by rw [Oper.semAt_plain _ _ _ hd, hrun]; exact hK _ _ h⟩
end
theorem gap_at {L : List Pc} {k : Nat} {x : Pc} (hx : L[k]? = some x) : ∀ at_ : Int, gapsS at_ (L.drop k) = (if at_ < x.off then [(at_, x.off)] else []) ++ gapsS x.stop (L.drop (k + 1)) := fun at_ => by
  have hk := (List.getElem?_eq_some_iff.1 hx).1
  rw [List.drop_eq_getElem_cons hk, gapsS]
  rw [List.getElem?_eq_getElem hk] at hx
  rw [Option.some.inj hx]
end Go.Proofs.Ytpoigngpdcmipaa

/-
  Contracts of gaps, Gaps and Done of layer 15's code. Conditions are each theorem's own.
-/
namespace Go.Proofs.Ytpoigngpdcmipaa
open Go.RowKit Go.Shelf
attribute [local go_sem] Oper.semAt_some
theorem loadv_sl {w : World} {g : Nat} {A : Option Addr} {n c : Nat} (h : Boxed w g 31 (.slice A n c)) : (loadVar 31 ⟨g, 0, none⟩).run Try.prog w = .ok (.slice A n c) w := by
  have hagg : (isAgg 31).run Try.prog w = .ok false w := by
    unfold isAgg
    rw [Sem.run_bind, run_underlying Try.underlying31 w]; rfl
  have hc := h.cell
  simp [loadVar, Sem.run_bind, hagg, hc]
theorem cells2G {fn : Func} {p q : Tmp} {tmps : Array Value} {w : World} {g : Nat} {A : Option Addr} {n c : Nat} {z : Value} (h : fn.results = #[.cell p 31, .cell q 4])
    (hp : tmps.getD p undef = .pointer (some ⟨g, 0, none⟩)) (hq : tmps.getD q undef = .pointer (some ⟨g + 1, 0, none⟩))
    (h0 : Boxed w g 31 (.slice A n c)) (h1 : Boxed w (g + 1) 4 z) :
    (results fn tmps).run Try.prog w = .ok (.tuple #[.slice A n c, z]) w := by
  have hp' : tmps[p]?.getD undef = .pointer (some ⟨g, 0, none⟩) := by simpa using hp
  have hq' : tmps[q]?.getD undef = .pointer (some ⟨g + 1, 0, none⟩) := by simpa using hq
  simp [results, h, hp', hq', asAddr, loadv_sl h0, loadv_bool h1]
theorem made_nil {w w' : World} (h : Below w.heap.size w w') : Made w w' (.slice none 0 0) [] := Made.of_own (World.ownsRow_nil _ _ _ _) h
/-- Two results in blocks of their own. -/
structure Bx2 (W : World) (u : Nat) (A : Option Addr) (n c : Nat) (z : Bool) : Prop where
  one : Boxed W u 31 (.slice A n c)
  two : Boxed W (u + 1) 4 (.bool z)
theorem Bx2.first (w : World) : Bx2 ((w.alloc (.cells #[.slice none 0 0] 31)).alloc (.cells #[.bool false] 4)) w.heap.size none 0 0 false := by
  have s1 : (w.alloc (.cells #[.slice none 0 0] 31)).heap.size = w.heap.size + 1 := by simp
  refine ⟨(Boxed.new w 31 (.slice none 0 0)).alloc _, ?_⟩
  have := Boxed.new (w.alloc (.cells #[.slice none 0 0] 31)) 4 (.bool false)
  rwa [s1] at this
theorem Bx2.below {W V : World} {u n c B : Nat} {A : Option Addr} {z : Bool} (h : Bx2 W u A n c z) (hb : Below B W V) (hn : u + 1 < B) : Bx2 V u A n c z := ⟨Boxed.below h.one hb (by omega), Boxed.below h.two hb hn⟩
theorem Bx2.kept {W V : World} {u n c B : Nat} {A : Option Addr} {z : Bool} {r : Option Nat} (h : Bx2 W u A n c z) (hg : W.grownBy V r) (hr : ∀ k, r = some k → B ≤ k ∧ ∃ o : Obj, W.heap[k]? = some o ∧ o.isCells = false) : Bx2 V u A n c z :=
  ⟨box_keep h.one hg hr, box_keep h.two hg hr⟩
theorem Bx2.set {W : World} {u n c n' c' : Nat} {A A' : Option Addr} {z : Bool} (h : Bx2 W u A n c z) (z' : Bool) : Bx2 ((W.setCell ⟨u, 0, none⟩ (.slice A' n' c')).setCell ⟨u + 1, 0, none⟩ (.bool z')) u A' n' c' z' :=
  ⟨(Boxed.set _ h.one).other (by omega) _, Boxed.set _ (h.two.other (by omega) _)⟩
theorem own_putD {w : World} {b e s n D : Nat} {v : Value} {xs : List Value} (h : w.ownsRow b e s v n xs) (hD : w.heap[D]? = some (.deferred (some []))) (o : Obj) : (w.putObj D o).ownsRow b e s v n xs := by
  refine h.kept (grownBy_putObj' w D o) ?_
  rcases h.2 with ⟨rfl, _⟩ | ⟨g, cap, cur, rfl, _, hg, _⟩
  · exact .inl rfl
  · refine .inr fun e1 => ?_
    have e2 : g = D := by simpa [Value.ownBlock] using e1
    rw [e2, hD] at hg
    cases hg
theorem own_baseL {w : World} {b b' e s n : Nat} {v : Value} {xs : List Value} (h : w.ownsRow b e s v n xs) (hb : b' ≤ b) : w.ownsRow b' e s v n xs := by
  refine ⟨h.1, ?_⟩
  rcases h.2 with hn | ⟨g, cap, cur, hv, hb', rest⟩
  · exact .inl hn
  · exact .inr ⟨g, cap, cur, hv, Nat.le_trans hb hb', rest⟩
end Go.Proofs.Ytpoigngpdcmipaa

/-
  awake of layer 15. Conditions are each theorem's own.
-/
namespace Go.Proofs.Ytpoigngpdcmipaa
open Go.RowKit Go.Shelf
theorem conv_bb (w : World) (C : Array Value) (n c : Nat) : (convert 31 31 (.slice (some ⟨w.heap.size, 0, none⟩) n c)).run Try.prog (w.alloc (.cells C 5)) = .ok (.slice (some ⟨w.heap.size, 0, none⟩) n c) (w.alloc (.cells C 5 (C.size, C.size + 1))) :=
  Lib.run_convert_bytes_const w 31 5 C n c Try.underlying31 Try.underlying5
theorem lit_arg (w : World) (cs : Array Value) (fr : Nat × Nat) (bs : List UInt8) (h : cs = (row bs).toArray) : Arg (w.alloc (.cells cs 5 fr)) (w.alloc (.cells cs 5 fr)).heap.size (some ⟨w.heap.size, 0, none⟩) bs.length bs := by
  subst h
  refine ⟨fun _ => ⟨w.heap.size, 0, rfl, by simp, fun j hj => ?_⟩, Nat.le_refl _, fun e => by cases e⟩
  rw [Nat.zero_add]
  exact cells_at (World.alloc_heap_new w _) (by rw [List.getElem?_toArray]; exact row_get bs hj)
/-- What Holes own lies from block B0 on. -/
def Own0 (B0 g : Nat) (v : Value) : Prop := B0 ≤ g ∧ ∀ k, v.ownBlock = some k → B0 ≤ k
theorem Own0.kept {B0 g : Nat} {v : Value} {w0 w w' : World} (h : Own0 B0 g v) (hb : Below B0 w0 w) (hB : B0 ≤ w.heap.size) (k : Kept (fun k => k = g ∨ v.ownBlock = some k) w w') : Below B0 w0 w' :=
  hb.trans (k.below hB (fun i hi => by rcases hi with rfl | hi; exact h.1; exact h.2 i hi))
theorem Own0.next {B0 g : Nat} {v v' : Value} {w : World} (h : Own0 B0 g v) (hB : B0 ≤ w.heap.size) (ho : ∀ k, v'.ownBlock = some k → v.ownBlock = some k ∨ w.heap.size ≤ k) : Own0 B0 g v' :=
  ⟨h.1, fun k hk => by rcases ho k hk with h1 | h1; exact h.2 k h1; omega⟩
end Go.Proofs.Ytpoigngpdcmipaa

/-
  What no call made, of layer 15; Clone of parts, Gaps. Conditions are each theorem's own.
-/
namespace Go.Proofs.Ytpoigngpdcmipaa
open Go.RowKit Go.Shelf
theorem cell1b {fn : Func} {p : Tmp} {tmps : Array Value} {w : World} {g : Nat} {z : Value} (h : fn.results = #[.cell p 4]) (hp : tmps.getD p undef = .pointer (some ⟨g, 0, none⟩)) (h0 : Boxed w g 4 z) :
    (results fn tmps).run Try.prog w = .ok z w := by
  have hp' : tmps[p]?.getD undef = .pointer (some ⟨g, 0, none⟩) := by simpa using hp
  simp [results, h, hp', asAddr, loadv_bool h0]
end Go.Proofs.Ytpoigngpdcmipaa

/-
  A slice of parts that came in, opened; far of layer 15. Conditions are each theorem's own.
-/
namespace Go.Proofs.Ytpoigngpdcmipaa
open Go.RowKit Go.ChangeShapes Go.WideShapes
theorem cells_at9 {w : World} {base n : Nat} {b off : Nat} {cs : List Value} (h : w.cells? base ⟨b, off, none⟩ n = some cs) : w.rangeAt b off cs := fun j u hj => by
  obtain ⟨_, hl, hc⟩ := World.cells?_some h
  have hlt : j < n := by rw [← hl]; exact (List.getElem?_eq_some_iff.1 hj).1
  have h1 := hc j hlt
  rw [add_off, hj] at h1
  exact h1
section
variable {H : Type} {enc : TypeId × Value → H} {w : World} {base : Nat} {v : Value} {d : DataW H} {p : List MemPlace}
end
open Go.Shelf
/-- Whether parts are too many, or too long. -/
def farN : Nat → Int → List Pc → Bool
  | _, n, [] => decide (n > 8000)
  | i, n, x :: l => if (decide (60 ≤ i) || decide (x.len > 2000)) || (decide (x.off > 4000) && decide (x.off ≤ 65535)) then true else farN (i + 1) (n + x.len) l
/-- Parts that are not too many, nor too long. -/
theorem farN_no : ∀ {l : List Pc} {i : Nat} {n : Int}, farN i n l = false → l.length + i ≤ 60 + (if l = [] then i else 0) ∧ (∀ x ∈ l, x.len ≤ 2000 ∧ ¬ (x.off > 4000 ∧ x.off ≤ 65535))
  | [], i, n, _ => ⟨by simp, fun x h => (by cases h)⟩
  | x :: l, i, n, h => by
    rw [farN] at h
    split at h
    · cases h
    · rename_i hc
      simp only [Bool.or_eq_true, Bool.and_eq_true, decide_eq_true_eq, not_or] at hc
      obtain ⟨⟨h1, h2⟩, h3⟩ := hc
      obtain ⟨i1, i2⟩ := farN_no h
      refine ⟨?_, fun y hy => ?_⟩
      · rw [if_neg (by simp)]
        rw [List.length_cons]
        split at i1
        · rename_i hl; subst hl; simp; omega
        · omega
      · rcases List.mem_cons.1 hy with rfl | hy
        · exact ⟨by omega, h3⟩
        · exact i2 y hy
end Go.Proofs.Ytpoigngpdcmipaa

/-
  Contract of the document's Done of layer 15. Conditions are each theorem's own.
-/
namespace Go.Proofs.Ytpoigngpdcmipaa
open Go.RowKit Go.Shelf

theorem run_load_u8 {o : Oper} {a : Act} {w : World} {x : Operand} {p : Addr} {n : Int} (ho : o.op = .load 5 x) (hx : a.eval x = .pointer (some p)) (hc : w.cell? p = some (.int .u8 n)) :
    (execOp a.eval o).run Try.prog w = .ok (.value (.int .u8 n)) w := by
  unfold execOp
  simp only [ho, hx, Instr.loadAt, Instr.sureAddr, Sem.run_bind, Sem.run_pure, Result.andThen_ok]
  go_simp
theorem layB_step {out b : List UInt8} {f k : Nat} (h : f + b.length ≤ out.length) (hk : k < b.length) : layB out f (b.take (k + 1)) = (layB out f (b.take k)).set (f + k) b[k] := by
  have l1 : (b.take (k + 1)).length = k + 1 := by rw [List.length_take]; omega
  have l0 : (b.take k).length = k := by rw [List.length_take]; omega
  refine List.ext_getElem? fun j => ?_
  rw [layB_get (by omega), List.getElem?_set, layB_get (by omega), layB_length (by omega), l1, l0]
  by_cases h1 : f + k = j
  · subst h1
    rw [if_pos ⟨by omega, by omega⟩, if_pos rfl, if_pos (by omega), List.getElem?_take, if_pos (by omega), show f + k - f = k by omega, List.getElem?_eq_getElem hk]
  · rw [if_neg h1]
    by_cases h2 : f ≤ j ∧ j < f + k
    · rw [if_pos ⟨h2.1, by omega⟩, if_pos h2, List.getElem?_take, List.getElem?_take, if_pos (by omega), if_pos (by omega)]
    · rw [if_neg (by omega), if_neg h2]
theorem layB_nil {out : List UInt8} {f : Nat} : layB out f [] = out := by simp [layB]
end Go.Proofs.Ytpoigngpdcmipaa

/-
  Contract of the document's Gaps of layer 15. Conditions are each theorem's own.
-/
namespace Go.Proofs.Ytpoigngpdcmipaa
open Go.RowKit Go.Shelf

/-- A store into a row of one's own. -/
theorem own_seti {w : World} {base g n c i t : Nat} {xs : List Value} {u : Value} (h : w.ownsRow base t 1 (.slice (some ⟨g, 0, none⟩) n c) n xs) :
    (w.setCell ⟨g, i, none⟩ u).ownsRow base t 1 (.slice (some ⟨g, 0, none⟩) n c) n (xs.set i u) := by
  rcases h.2 with ⟨h0, _⟩ | ⟨k, cap, cur, hv, hb, hh, hle, hm, hs, ht⟩
  · cases h0
  · cases hv
    refine ⟨by rw [List.length_set]; exact h.1, .inr ⟨g, c, cur.setIfInBounds i u, rfl, hb, heap_set hh i _, hle, hm, by simp [hs], ?_⟩⟩
    rw [Array.toList_setIfInBounds, List.take_set, ht]
theorem own_ice {w : World} {base g n c i t : Nat} {xs : List Value} (h : w.ownsRow base t 1 (.slice (some ⟨g, 0, none⟩) n c) n xs) : w.frozen? ⟨g, i, none⟩ = false ∧ base ≤ g := by
  rcases h.2 with ⟨h0, _⟩ | ⟨k, cap, cur, hv, hb, hh, _⟩
  · cases h0
  · cases hv; exact ⟨heap_frozen hh i, hb⟩
theorem pv_set_last (pre : List Nat) (e k : Nat) : (pv (pre ++ [e])).set pre.length (.int .i64 (k : Int)) = pv (pre ++ [k]) := by
  simp [pv]
theorem pv_get_last (pre : List Nat) (e : Nat) : (pre ++ [e]).getD pre.length 0 = e := by simp
/-- append of two numbers onto a row of the call's own. -/
theorem append_int2 {w : World} {ops : Array Oper} {rest : List Oper} {o : Oper} {a : Act} {Q : Exit → Act → World → Prop} (hgd : o.guard = none) (s x : Operand)
    (ho : o.op = .call { callee := .builtin .append, args := #[s, x], argTypes := #[52, 52] })
    (base : Nat) (v : Value) (n : Nat) (ls : List Nat) (hs : a.eval s = v) (hown : w.ownsRow base 3 1 v n (pv ls))
    (g : Nat) (y z : Nat) (hx : a.eval x = .slice (some ⟨g, 0, none⟩) 2 2) (hy : w.heap[g]? = some (.cells #[.int .i64 (y : Int), .int .i64 (z : Int)] 3 (0, 0)))
    (hlen : n ≤ 1000001) (hbase : base ≤ w.heap.size)
    (h : ∀ v' w', w'.ownsRow base 3 1 v' (n + 2) (pv (ls ++ [y, z])) → w.grownBy w' v.ownBlock → wpList Try.prog ops Q rest (a.put o.dst v') w') : wpList Try.prog ops Q (o :: rest) a w := by
  obtain ⟨i0, hi, hz0, hz1, hz2⟩ := info_parts info_int
  refine wpList_append_own w hgd s x 52 ho base 3 i0 (.int .i64 0) 1 8 Try.underlying52 hi hz0 hz1 hz2 rfl (by decide) v n (pv ls) hs hown ⟨g, 0, none⟩ 2 2 [.int .i64 (y : Int), .int .i64 (z : Int)] hx
      rfl (fun j u hu => ?_) (by intro u hu; simp only [List.mem_cons, List.not_mem_nil, or_false] at hu; rcases hu with rfl | rfl <;> rfl) (by unfold maxLen; omega) (by omega) hbase (fun v' w' h1 h2 _ => h v' w' (by simpa [pv] using h1) h2)
  rw [add_off, Nat.zero_add, cell_of_row _ _ _ _ _ _ hy]
  simpa using hu
end Go.Proofs.Ytpoigngpdcmipaa

/-
  The document's parts in a block of their own beside the code's: what each call keeps of the other. Conditions are each theorem's own.
-/
namespace Go.Proofs.Ytpoigngpdcmipaa
open Go.RowKit Go.Shelf

/-- Blocks of these types alone. -/
def OfT (w : World) (S : Nat → Prop) (T : TypeId → Prop) : Prop := ∀ k, S k → ∃ cs ty, w.heap[k]? = some (.cells cs ty (0, 0)) ∧ T ty
theorem OfT.not {w : World} {S : Nat → Prop} {T : TypeId → Prop} (h : OfT w S T) {g : Nat} (hs : S g) {cs : Array Value} {ty : TypeId} {fr : Nat × Nat} (hg : w.heap[g]? = some (.cells cs ty fr)) : T ty := by
  obtain ⟨cs', ty', h1, h2⟩ := h g hs
  have h3 := h1.symm.trans hg
  simp only [Option.some.injEq, Obj.cells.injEq] at h3
  rw [← h3.2.1]; exact h2
theorem own_keptO {S : Nat → Prop} {T : TypeId → Prop} {w w' : World} {b e s n : Nat} {v : Value} {xs : List Value} (h : w.ownsRow b e s v n xs) (k : Kept S w w') (hS : OfT w S T) (hT : ¬ T e) : w'.ownsRow b e s v n xs :=
  own_keptT h k (fun _ hs _ _ hg => hT (hS.not hs hg))
theorem flatG_len : ∀ S : List (Int × Int), (flatG S).length = 2 * S.length
  | [] => rfl
  | x :: S => by
    have := flatG_len S
    simp only [flatG, List.flatMap_cons, List.length_append, List.length_cons, List.length_nil] at this ⊢
    omega
theorem flatG_get : ∀ (pre : List (Int × Int)) (x : Int × Int) (more : List (Int × Int)), (flatG (pre ++ x :: more))[2 * pre.length]? = some x.1.toNat ∧ (flatG (pre ++ x :: more))[2 * pre.length + 1]? = some x.2.toNat
  | [], x, more => by simp [flatG]
  | y :: pre, x, more => by
    have := flatG_get pre x more
    simp only [flatG] at this ⊢
    rw [List.cons_append, List.flatMap_cons, List.length_cons, show 2 * (pre.length + 1) = 2 * pre.length + 1 + 1 by omega]
    simp only [List.cons_append, List.nil_append, List.getElem?_cons_succ]
    exact this
theorem Same.wf {L l : List Pc} (h : Same L l) : wfP l := fun h0 x hx => by
  rw [h.end_] at h0 ⊢
  split
  · exact le_farP (h.perm.mem_iff.2 hx)
  · rename_i he; rw [if_neg he] at h0; omega
end Go.Proofs.Ytpoigngpdcmipaa

/-
  Bytes that are cut, and come in two orders: the parts of the statement's own row; two Holes side by side. Conditions are each theorem's own.
-/
namespace Go.Proofs.Ytpoigngpdcmipaa
open Go.RowKit Go.Shelf
/-- Two that own different rows. -/
def Apart2 (v1 v2 : Value) : Prop := ∀ k, v1.ownBlock = some k → v2.ownBlock ≠ some k
theorem Apart2.symm {v1 v2 : Value} (h : Apart2 v1 v2) : Apart2 v2 v1 := fun k h2 h1 => h k h1 h2
theorem Apart2.next {v1 v2 v : Value} {B : Nat} (h : Apart2 v1 v2) (hl : ∀ k, v2.ownBlock = some k → k < B) (hn : ∀ k, v.ownBlock = some k → v1.ownBlock = some k ∨ B ≤ k) : Apart2 v v2 := fun k hk h2 => by
  rcases hn k hk with h1 | h1
  · exact h k h1 h2
  · have := hl k h2; omega
theorem range_blk {w V : World} {g o : Nat} {cs : List Value} (h : V.rangeAt g o cs) (hb : w.heap[g]? = V.heap[g]?) : w.rangeAt g o cs := fun j v hj => (World.cell?_of_block (a := ⟨g, o + j, none⟩) hb).trans (h j v hj)
theorem chain_nodup {b : List UInt8} {k : Nat} {l : List Pc} (h : Chain b k l) : l.Nodup := h.facts.2.2.2.2.imp fun h e => by have := h.2.2; rw [e] at this; omega
theorem chain_take {b : List UInt8} {P : List Pc} (h : Chain b 0 P) (hb : b.length ≤ 65535) {j : Nat} {p : Pc} (hp : P[j]? = some p) : addE (P.take j) p = 0 ∧ addL (P.take j) p = P.take (j + 1) := by
  have hj := (List.getElem?_eq_some_iff.1 hp).1
  obtain ⟨h1, h2⟩ := order_add h hb (s := P.take j) (fun x hx => List.mem_of_mem_take hx) (List.mem_of_getElem? hp)
  refine ⟨h1, ?_⟩
  have hn : ¬ p ∈ P.take j := fun hm => by
    obtain ⟨i, hi⟩ := List.getElem?_of_mem hm
    rw [List.getElem?_take] at hi
    split at hi
    · rename_i hij
      have hi2 := (List.getElem?_eq_some_iff.1 hi).1
      have := (List.getElem_inj (chain_nodup h) (h₀ := hi2) (h₁ := hj)).1 ((List.getElem?_eq_some_iff.1 hi).2.trans (List.getElem?_eq_some_iff.1 hp).2.symm)
      omega
    · cases hi
  rw [h2, if_neg hn, List.take_succ_eq_append_getElem hj, (List.getElem?_eq_some_iff.1 hp).2]
theorem chain_rev {b : List UInt8} {P : List Pc} (h : Chain b 0 P) (hb : b.length ≤ 65535) {j : Nat} {p : Pc} (hp : P.reverse[j]? = some p) :
    addE (P.reverse.take j) p = 0 ∧ addL (P.reverse.take j) p = P.reverse.take (j + 1) ∧ addE (P.reverse.take (j + 1)) p = 0 ∧ addL (P.reverse.take (j + 1)) p = P.reverse.take (j + 1) := by
  have hj := (List.getElem?_eq_some_iff.1 hp).1
  have hm : p ∈ P := List.mem_reverse.1 (List.mem_of_getElem? hp)
  have hnd : P.reverse.Nodup := List.pairwise_reverse.2 ((chain_nodup h).imp fun h => Ne.symm h)
  obtain ⟨h1, h2⟩ := order_add h hb (s := P.reverse.take j) (fun x hx => List.mem_reverse.1 (List.mem_of_mem_take hx)) hm
  obtain ⟨h3, h4⟩ := order_add h hb (s := P.reverse.take (j + 1)) (fun x hx => List.mem_reverse.1 (List.mem_of_mem_take hx)) hm
  have hn : ¬ p ∈ P.reverse.take j := fun hm => by
    obtain ⟨i, hi⟩ := List.getElem?_of_mem hm
    rw [List.getElem?_take] at hi
    split at hi
    · rename_i hij
      have hi2 := (List.getElem?_eq_some_iff.1 hi).1
      have := (List.getElem_inj hnd (h₀ := hi2) (h₁ := hj)).1 ((List.getElem?_eq_some_iff.1 hi).2.trans (List.getElem?_eq_some_iff.1 hp).2.symm)
      omega
    · cases hi
  have hin : p ∈ P.reverse.take (j + 1) := List.mem_of_getElem? (i := j) (by rw [List.getElem?_take, if_pos (Nat.lt_succ_self j)]; exact hp)
  refine ⟨h1, ?_, h3, by rw [h4, if_pos hin]⟩
  rw [h2, if_neg hn, List.take_succ_eq_append_getElem hj, (List.getElem?_eq_some_iff.1 hp).2]

/-- bytes.Equal of two slices that read the same bytes. -/
theorem equal_n (A A' : Option Addr) (xs : List UInt8) (n m c c' B B' : Nat) (w : World) (hn : n = xs.length) (hm : m = xs.length) (h : Rd w B A xs) (h' : Rd w B' A' xs) :
    Calls Try.prog 20 #[.slice A n c, .slice A' m c'] w fun e w' => e = .returned (.bool true) ∧ w = w' := by
  subst hn
  subst hm
  refine (equal_any A A' xs xs c c' B B' w h h').mono ?_
  rintro e w' ⟨rfl, rfl⟩
  rw [decide_eq_true (rfl : xs = xs)]
  exact ⟨rfl, rfl⟩

end Go.Proofs.Ytpoigngpdcmipaa
