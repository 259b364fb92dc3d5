/-
  Contracts and lemmas on which the proofs of this seat stand (several texts in one). Conditions are each theorem's own.
-/
import Derived.Test.YtghbliabmecbcaaMa2
import Derived.OrdersHeld
import Derived.OrdersIn
import Derived.TacticsIn
import Derived.OwnWalkIn
import Derived.Maps.RangeWalk
import Derived.RangeFuncSeq
import Derived.Test.YtghbliabmecbcaaMa4
import Derived.Test.YtghbliabmecbcaaMa3
import Derived.Sort.CutIn
import Derived.Test.YtghbliabmecbcaaMa1

/-
  A region that draws its order and calls an iterator's yield: a load is taken ahead where each world of a class gives it the same value; the walk's moves, inside the widest fence. Conditions are each theorem's own.
-/
namespace Go.Proofs.Ytghbliabmecbcaa
open Go.RowKit

section
variable {n : Nat} {P : Program} {ops : Array Oper} {Q : Exit → Act → World → Prop} {md : Region.Mode} {S : World → Prop}
/-- Whatever comes up next, S holds behind it. -/
def anyHI (n : Nat) (P : Program) (md : Region.Mode) (ops : Array Oper) (Q : Exit → Act → World → Prop) (S : World → Prop) : Nat → Array Bool → Act → World → Prop
  | 0, listed, a, w => Region.ready md ops listed = [] ∧ Q .normal a w
  | fuel + 1, listed, a, w => (Region.ready md ops listed = [] → Q .normal a w) ∧
    ∀ i ∈ Region.ready md ops listed, wpOpIn Fence.wide n P ops Q i (fun a' w' => S w' ∧ anyHI n P md ops Q S fuel (listed.setIfInBounds i true) a' w') a w
theorem any_of_HI : ∀ (fuel : Nat) (listed : Array Bool) (a : Act) (w : World), anyHI n P md ops Q S fuel listed a w → wpAnyIn Fence.wide n P md ops Q fuel listed a w
  | 0, _, _, _, h => h
  | fuel + 1, _, _, _, h => ⟨h.1, fun i hi => wpOpIn_mono (fun a' w' h' => any_of_HI fuel _ a' w' h'.2) (h.2 i hi)⟩
theorem opI_here {i : Nat} {o : Oper} {v : Value} {a : Act} {w : World} {K : Act → World → Prop} (hi : ops[i]? = some o) (hy : YieldsIf P ops S o v a) (hS : S w) (h : K (a.put o.dst v) w) : wpOpIn Fence.wide n P ops Q i K a w := by
  unfold wpOpIn
  simp only [hi]
  rcases hy with ⟨hw, hv⟩ | ⟨hw, rfl⟩
  · rw [if_pos hw]
    refine ⟨fun _ _ => trivial, ?_⟩
    rw [show Fence.wide.round = none from rfl, Oper.semAt_none, hv w hS]
    exact h
  · rw [if_neg (by rw [hw]; decide)]
    exact ⟨fun _ _ => trivial, h⟩
/-- Another operation, with that one's value there already or not. -/
theorem opI_swap {j : Nat} {oi oj : Oper} {v : Value} (hj : ops[j]? = some oj) (hap : oi.apart ops oj = true) (hsi : ∀ cs b, oi.op ≠ .select cs b) (hsj : ∀ cs b, oj.op ≠ .select cs b)
    (hQ : ∀ c a w, Q (.panic c) (a.put oi.dst v) w → Q (.panic c) a w) {K : Act → World → Prop} {a : Act} {w : World} (hy : YieldsIf P ops S oi v a) (h : wpOpIn Fence.wide n P ops Q j K (a.put oi.dst v) w) :
    wpOpIn Fence.wide n P ops Q j (fun a' w' => YieldsIf P ops S oi v a' ∧ K (a'.put oi.dst v) w') a w := by
  obtain ⟨h1, h2, h3⟩ := Oper.apart_spec hap
  have stay : ∀ (b : Act), YieldsIf P ops S oi v b → ∀ u, YieldsIf P ops S oi v (b.put oj.dst u) := fun b hb u => hb.of_same (execOp_put oi hsi b oj.dst u h3) (wanted_put oi b oj.dst u h3)
  unfold wpOpIn at h ⊢
  simp only [hj] at h ⊢
  rw [wanted_put oj a oi.dst v h1] at h
  by_cases hw : Region.wanted oj (yielded ops a.tmps) = true
  · rw [if_pos hw] at h ⊢
    refine ⟨fun _ _ => trivial, ?_⟩
    have h := h.2
    rw [show Fence.wide.round = none from rfl, Oper.semAt_none] at h ⊢
    rw [execOp_put oj hsj a oi.dst v h1] at h
    generalize (execOp a.eval oj).run P w = r at h ⊢
    rcases r with ⟨x, w'⟩ | ⟨x, w'⟩
    · cases x with
      | value u => exact ⟨stay a hy u, by rw [← Act.put_comm a v u h2]; exact h⟩
      | skip => exact ⟨stay a hy _, by rw [← Act.put_comm a v undef h2]; exact h⟩
      | defer d => exact ⟨stay { a with defers := d :: a.defers } (hy.of_same rfl rfl) _, by rw [← Act.put_comm _ v undef h2, ← Act.put_defers]; exact h⟩
      | enter f args =>
        refine ⟨h.1, CallsIn.mono h.2 fun e w'' he => ?_⟩
        cases e with
        | returned u => exact ⟨stay a hy u, by rw [← Act.put_comm a v u h2]; exact he⟩
        | panicked c => exact hQ _ _ _ he
        | outgrown => exact he
      | row r args => exact ⟨h.1, RowsIn.mono h.2 fun u w'' he => ⟨stay a hy u, by rw [← Act.put_comm a v u h2]; exact he⟩⟩
      | round l f tmps assign body =>
        refine ⟨h.1, RoundIn.mono h.2 fun e w'' he => ?_⟩
        cases e with
        | returned u => exact ⟨stay a hy u, by rw [← Act.put_comm a v u h2]; exact he⟩
        | panicked c => exact hQ _ _ _ he
        | outgrown => exact he
      | _ => exact h
    · cases x with
      | panic u => exact hQ _ _ _ h
      | _ => exact h
  · rw [if_neg hw] at h ⊢
    exact ⟨fun _ _ => trivial, stay a hy _, by rw [← Act.put_comm a v undef h2]; exact h.2⟩
theorem takeI_all {i : Nat} {oi : Oper} {v : Value} (hi : ops[i]? = some oi) (hsel : ∀ (j : Nat) (o : Oper) cs b, ops[j]? = some o → o.op ≠ .select cs b) (hQ : ∀ c a w, Q (.panic c) (a.put oi.dst v) w → Q (.panic c) a w) :
    ∀ (fuel : Nat) (listed : Array Bool) (a : Act) (w : World), (∀ j oj, ops[j]? = some oj → j ≠ i → listed.getD j true = false → (∀ e ∈ oj.after, Region.binds md e = true → e.on ≠ i) → oi.apart ops oj = true) →
      i ∈ Region.ready md ops listed → YieldsIf P ops S oi v a → S w → anyHI n P md ops Q S fuel (listed.setIfInBounds i true) (a.put oi.dst v) w → anyHI n P md ops Q S (fuel + 1) listed a w
  | fuel, listed, a, w, free, hr, hy, hS, H => by
    refine ⟨fun h => (by rw [h] at hr; cases hr), fun j hj => ?_⟩
    by_cases hji : j = i
    · subst hji; exact opI_here hi hy hS ⟨hS, H⟩
    have hj' := ready_mono hj hji
    cases fuel with
    | zero => rw [H.1] at hj'; cases hj'
    | succ fuel =>
      obtain ⟨hjun, oj, hoj, hall⟩ := mem_ready.1 hj
      have hnot : ∀ e ∈ oj.after, Region.binds md e = true → e.on ≠ i := fun e he hb heq => by
        have g1 := hall e he hb
        have g0 := (mem_ready.1 hr).1
        rw [heq] at g1
        rcases Nat.lt_or_ge i listed.size with h' | h'
        · simp [h'] at g0 g1; rw [g0] at g1; cases g1
        · simp [Array.getElem?_eq_none h'] at g1
      refine wpOpIn_mono (fun a' w' h3 => ⟨h3.2.1, takeI_all hi hsel hQ fuel (listed.setIfInBounds j true) a' w' (fun k ok hk hki hun hno => free k ok hk hki ?_ hno) (ready_mono hr (Ne.symm hji)) h3.1 h3.2.1 (by rw [Array.setIfInBounds_comm _ _ hji]; exact h3.2.2)⟩)
        (opI_swap hoj (free j oj hoj hji hjun hnot) (fun cs b => hsel i oi cs b hi) (fun cs b => hsel j oj cs b hoj) hQ hy (H.2 j hj'))
      by_cases hjk : j = k
      · subst hjk; exact hjun
      · rw [getD_set_ne true hjk] at hun; exact hun
/-- An operation that yields its value in each world of the class is taken first. -/
theorem pureI {i : Nat} {oi : Oper} {v : Value} {fuel : Nat} {listed : Array Bool} {a : Act} {w : World} (hi : ops[i]? = some oi) (hs : Region.noSelect ops = true) (hf : Region.free md ops listed i = true) (hr : (Region.ready md ops listed).contains i = true)
    (hQ : ∀ c a w, Q (.panic c) (a.put oi.dst v) w → Q (.panic c) a w) (hw : Region.wanted oi (yielded ops a.tmps) = true) (hrun : ∀ w, S w → (execOp a.eval oi).run P w = .ok (.value v) w) (hS : S w)
    (h : S w → anyHI n P md ops Q S fuel (listed.setIfInBounds i true) (a.put oi.dst v) w) : anyHI n P md ops Q S (fuel + 1) listed a w :=
  takeI_all hi (Region.noSelect_spec hs) hQ fuel listed a w (Region.free_spec hi hf) (by simpa using hr) (.inl ⟨hw, hrun⟩) hS (h hS)
/-- The only one that may come up. -/
theorem oneI {i : Nat} {oi : Oper} {fuel : Nat} {listed : Array Bool} {a : Act} {w : World} (hr : Region.ready md ops listed = [i]) (hi : ops[i]? = some oi) (hw : Region.wanted oi (yielded ops a.tmps) = true)
    (h : ∀ K : Act → World → Prop, (∀ a w, S w → (S w → anyHI n P md ops Q S fuel (listed.setIfInBounds i true) a w) → K a w) → oi.wpIn Fence.wide n P a w K Q) : anyHI n P md ops Q S (fuel + 1) listed a w := by
  refine ⟨fun h0 => (by rw [hr] at h0; cases h0), fun j hj => ?_⟩
  rw [hr, List.mem_singleton] at hj
  subst hj
  unfold wpOpIn
  simp only [hi]
  rw [if_pos hw]
  exact h _ (fun a w hS hW => ⟨hS, hW hS⟩)
theorem doneI {listed : Array Bool} {a : Act} {w : World} (hr : Region.ready md ops listed = []) (h : Q .normal a w) : ∀ fuel, anyHI n P md ops Q S fuel listed a w
  | 0 => ⟨hr, h⟩
  | _ + 1 => ⟨fun _ => h, by rw [hr]; simp⟩
theorem regionI {id : Nat} {a : Act} {w : World} (hm : P.follows .mixedOrders = true) (hS : S w.drew) (h : S w.drew → anyHI n P .any ops Q S ops.size (Array.replicate ops.size false) a w.drew) : (Code.region id ops true).wpIn Fence.wide n P Q a w :=
  wpIn_region_any hm (any_of_HI _ _ _ _ (h hS))
/-- A call of a function of the program, by its plain contract. -/
theorem callI {o : Oper} {a : Act} {w : World} {K : Act → World → Prop} {f : FuncId} {args : Array Value} (hrun : (execOp a.eval o).run P w = .ok (.enter f args) w) (h : Calls P f args w fun e w' => ∃ v, e = .returned v ∧ K (a.put o.dst v) w') : o.wpIn Fence.wide n P a w K Q := by
  refine ⟨fun _ _ => trivial, ?_⟩
  rw [show Fence.wide.round = none from rfl, Oper.semAt_none, hrun]
  exact ⟨fun h => (by cases h), (callsIn_wide.2 h).mono fun e w' he => by obtain ⟨v, rfl, hk⟩ := he; exact hk⟩
/-- A call of yield. -/
theorem yieldI {o : Oper} {a : Act} {w : World} {K : Act → World → Prop} {l : Nat} {args : Array Value} {R : Ending → World → Prop} (hrun : (execOp a.eval o).run P w = (Instr.yield l args).run P w) (hY : YieldAt Fence.wide (n - 1) P l args w R)
    (h : ∀ e w', R e w' → ∃ v, e = .returned v ∧ K (a.put o.dst v) w') : o.wpIn Fence.wide n P a w K Q := by
  obtain ⟨fn, tmps, assign, body, hy, hR⟩ := hY
  refine ⟨fun _ _ => trivial, ?_⟩
  rw [show Fence.wide.round = none from rfl, Oper.semAt_none, hrun, hy]
  exact ⟨fun h => (by cases h), hR.mono fun e w' he => by obtain ⟨v, rfl, hk⟩ := h e w' he; exact hk⟩
end
/-! ### A range that never leaves its iterator early -/
/-- What a list of elements is said of stays, whatever is laid, whatever walk's object turns, and whatever is written into one block of cells of a type. -/
def StaysAt {β : Type} (T : TypeId) (B : Nat) (J : β → World → Prop) : Prop :=
  ∀ s W W' row, J s W → W.grownBy W' row → (∀ k, row = some k → (B ≤ k ∧ ∃ o : Obj, W.heap[k]? = some o ∧ o.isWalk = true) ∨ (k = B ∧ ∃ cs, W.heap[k]? = some (.cells cs T (0, 0)))) → J s W'
/-- An iterator's promise where each round goes on: its elements come in order, all of them; of each, when it comes, G is known. It may write into the first block that it lays, if that is of type T. -/
def SeqAll {α : Type} (m : Nat) (P : Program) (T : TypeId) (g : Nat) (lb : Array Value) (encs : α → Array Value) (G : List α → α → World → Prop) (Kp : World → World → Prop) (S : List α → Prop) (w : World) : Prop :=
  ∀ (l : Nat) (J : List α → World → Prop) (W : World), Below w.heap.size w W → StaysAt T W.heap.size J →
    (∀ pre x X, J pre X → G pre x X → W.heap.size < X.heap.size → YieldAt Fence.wide (m - 1) P l (encs x) X fun e Y => e = .returned (.bool true) ∧ J (pre ++ [x]) Y ∧ Kp X Y) →
    J [] W →
    CallsIn Fence.wide m P g (#[.func (.yield l) #[] #[]] ++ lb) W fun e Y => (∃ v, e = .returned v) ∧ ∃ xs, S xs ∧ J xs Y
theorem range_all {α : Type} {n : Nat} {P : Program} {T : TypeId} {g : Operand} {ps : Array Tmp} {assign body : Code} {Q : Exit → Act → World → Prop} {a : Act} {w : World} (h1 : 1 ≤ n)
    {gf : Nat} {lb : Array Value} (hg : a.eval g = .func (.func gf) #[] lb) (eg : ∀ args w, (callFunc gf args).run P w = .ok (.enter gf args) w)
    {encs : α → Array Value} {G : List α → α → World → Prop} {Kp : World → World → Prop} {S : List α → Prop} {w0 : World} (hseq : SeqAll (n - 1) P T gf lb encs G Kp S w0)
    (hKt : ∀ {A B C : World}, Kp A B → Kp B C → Kp A C) (hKb : ∀ (W : World) (l : Nat) (r r' : Loop), w.heap.size ≤ l → W.heap[l]? = some (.loop r) → Kp W (W.putObj l (.loop r')))
    (hb0 : Below w0.heap.size w0 w) (hps : ∀ x, (encs x).size = ps.size)
    (hG : ∀ (pre : List α) (x : α) (W : World) (l : Nat) (r r' : Loop), G pre x W → w.heap.size ≤ l → W.heap[l]? = some (.loop r) → G pre x (W.putObj l (.loop r')))
    (I : List α → World → Prop) (hI : OwnFrom w.heap.size I) (hI2 : ∀ s W W' k cs, I s W → W.grownBy W' (some k) → k = w.heap.size + 2 → W.heap[k]? = some (.cells cs T (0, 0)) → I s W') (h0 : I [] w) (a₁ : α → World → Act) (asg : α → World → World) (hag : ∀ (x : α) (W : World), W.grownBy (asg x W) none) (hGa : ∀ pre x W, G pre x W → G pre x (asg x W)) (hKa : ∀ (x : α) (W : World), w.heap.size ≤ W.heap.size → Kp W (asg x W))
    (hassign : ∀ (l : Nat) (x : α) (W : World) (K : Act → World → Prop), K (a₁ x W) (asg x W) →
      assign.wpIn (Fence.wide.inRound l) (n - 1 - 1) P (Exit.then K (fun _ _ _ => False)) { tmps := (ps.zip (encs x)).foldl (fun t (p, v) => t.setIfInBounds p v) a.tmps, defers := [] } W)
    (hbody : ∀ (l : Nat) (pre : List α) (x : α) (V W : World), I pre W → G pre x W → w.heap.size + 2 < W.heap.size → (∃ r, W = (asg x V).putObj l (.loop r)) → l < V.heap.size → body.wpIn (Fence.wide.inRound l) (n - 1 - 1) P (ownPostG w.heap.size Kp I (fun _ _ _ => False) (pre ++ [x]) W) (a₁ x V) W)
    (hdone : ∀ (D : Nat) (xs : List α) (W : World), w.heap.size ≤ D → S xs → I xs W → W.heap[D]? = some (.deferred (some [])) → Q .normal { a with defers := { target := .collected D, args := #[] } :: a.defers } W) :
    (Code.rangeFunc g ps assign body).wpIn Fence.wide n P Q a w := by
  refine wpIn_rangeFunc fun fn _ => ?_
  have t1 := Two.first w (recd fn a ps assign body w.heap.size .ready none)
  have b1 : Below w0.heap.size w0 ((w.alloc (.deferred (some []))).alloc (.loop (recd fn a ps assign body w.heap.size .ready none))) := (hb0.alloc hb0.size _).alloc (by have := hb0.size; simp; omega) _
  have i1 : I [] ((w.alloc (.deferred (some []))).alloc (.loop (recd fn a ps assign body w.heap.size .ready none))) := hI.alloc _ (hI.alloc _ h0)
  have z1 : ((w.alloc (.deferred (some []))).alloc (.loop (recd fn a ps assign body w.heap.size .ready none))).heap.size = w.heap.size + 2 := by simp
  obtain ⟨W1, hW1⟩ : ∃ W1, W1 = (w.alloc (.deferred (some []))).alloc (.loop (recd fn a ps assign body w.heap.size .ready none)) := ⟨_, rfl⟩
  rw [← hW1] at t1 b1 i1 z1
  refine ⟨w.heap.size + 1, [{ target := .collected w.heap.size, args := #[] }], W1, { target := .fn (.func gf) lb, args := #[.func (.yield (w.heap.size + 1)) #[] #[]] }, W1, gf, #[.func (.yield (w.heap.size + 1)) #[] #[]] ++ lb, W1,
    ?_, ?_, fun _ _ => trivial, ?_, fun _ => h1, ?_⟩
  · rw [hW1]; exact run_enterLoop_outer fn a.tmps ps assign body
  · simp only [resolve, hg]; simp [go_sem]
  · simp [invoke, go_sem, eg]
  · refine (hseq (w.heap.size + 1) (fun pre W => I pre W ∧ Two W w.heap.size (recd fn a ps assign body w.heap.size .ready none)) _ b1 ?_ ?_ ⟨i1, t1⟩).mono ?_
    · rintro s A B row ⟨hi, ht⟩ hgr hr
      cases row with
      | none => exact ⟨hI s A B none hi hgr (fun r e => by cases e), ht.abides hgr (fun r e => by cases e)⟩
      | some k =>
        rcases hr k rfl with ⟨hk, o, ho, hw⟩ | ⟨hk, cs, ho⟩
        · exact ⟨hI s A B _ hi hgr (fun r e => by cases e; exact ⟨by omega, o, ho, Obj.not_cells_of_walk hw⟩), ht.abides hgr (fun r e => by cases e; exact ⟨o, ho, hw⟩)⟩
        · refine ⟨hI2 s A B k cs hi hgr (by omega) ho, ⟨(hgr.block _ (heap_lt ht.calls) (fun e => ?_)).trans ht.calls, (hgr.block _ (heap_lt ht.rec_) (fun e => ?_)).trans ht.rec_⟩⟩
          · injection e with e; rw [← e, ht.calls] at ho; cases ho
          · injection e with e; rw [← e, ht.rec_] at ho; cases ho
    · rintro pre x X ⟨hi, ht⟩ hgx hzX
      have ha := ht.abides (hag x X) (fun r e => by cases e)
      have hia := hI pre X _ none hi (hag x X) (fun r e => by cases e)
      have hza := (hag x X).size
      refine ⟨fn, _, assign, body, run_yield ht.rec_ (hps x), roundIn_of_wpIn trivial (hassign _ x X _ ⟨_, run_beginRound ha.rec_ rfl, ?_⟩)⟩
      have hbu := ha.turn (recd fn a ps assign body w.heap.size .busy none)
      have hk0 : Kp X ((asg x X).putObj (w.heap.size + 1) (.loop (recd fn a ps assign body w.heap.size .busy none))) := hKt (hKa x X (by have := heap_lt ht.rec_; omega)) (hKb _ _ _ _ (by omega) ha.rec_)
      refine wpIn_mono (hbody _ pre x X _ (hI.putObj _ hia (by omega) ha.rec_ rfl) (hG pre x _ _ _ _ (hGa pre x X hgx) (by omega) ha.rec_) (by simp; omega) ⟨_, rfl⟩ (heap_lt ht.rec_)) (fun e b Y hp => ?_)
      cases e with
      | normal =>
        have ht2 := hbu.keeps hp.1
        exact ⟨_, _, run_endRound none ht2.rec_, rfl, ⟨hI.putObj _ hp.2.2 (by omega) ht2.rec_ rfl, ht2.turn _⟩, hKt (hKt hk0 hp.2.1) (hKb _ _ _ _ (by omega) ht2.rec_)⟩
      | ret => exact hp.2.elim
      | exit id => exact hp.2.elim
      | goto t => exact hp.2.elim
      | panic c => exact hp.elim
      | outgrown => exact hp.elim
    · rintro e Y ⟨⟨v, rfl⟩, xs, hs, hi, ht⟩
      exact ⟨none, _, run_endLoop ht.rec_ (by simp [recd]), hdone _ xs _ (Nat.le_refl _) hs (hI.putObj _ hi (by omega) ht.rec_ rfl) (ht.turn _).calls⟩
/-- The same where the round begins by a box for what came. -/
theorem range_box {α : Type} {n : Nat} {P : Program} {T : TypeId} {g : Operand} {ps : Array Tmp} {assign body : Code} {Q : Exit → Act → World → Prop} {a : Act} {w : World} (h1 : 1 ≤ n) (d : Tmp) (T' : TypeId)
    {gf : Nat} {lb : Array Value} (hg : a.eval g = .func (.func gf) #[] lb) (eg : ∀ args w, (callFunc gf args).run P w = .ok (.enter gf args) w)
    {encs : α → Array Value} {cells : α → Array Value} {G : List α → α → World → Prop} {Kp : World → World → Prop} {S : List α → Prop} {w0 : World} (hseq : SeqAll (n - 1) P T gf lb encs G Kp S w0)
    (hKt : ∀ {A B C : World}, Kp A B → Kp B C → Kp A C) (hKb : ∀ (W : World) (l : Nat) (r r' : Loop), w.heap.size ≤ l → W.heap[l]? = some (.loop r) → Kp W (W.putObj l (.loop r')))
    (hb0 : Below w0.heap.size w0 w) (hps : ∀ x, (encs x).size = ps.size)
    (hG : ∀ (pre : List α) (x : α) (W : World) (l : Nat) (r r' : Loop), G pre x W → w.heap.size ≤ l → W.heap[l]? = some (.loop r) → G pre x (W.putObj l (.loop r')))
    (I : List α → World → Prop) (hI : OwnFrom w.heap.size I) (hI2 : ∀ s W W' k cs, I s W → W.grownBy W' (some k) → k = w.heap.size + 2 → W.heap[k]? = some (.cells cs T (0, 0)) → I s W') (h0 : I [] w)
    (hGa : ∀ pre x W o, G pre x W → G pre x (W.alloc o)) (hKa : ∀ (W : World) o, w.heap.size ≤ W.heap.size → Kp W (W.alloc o))
    (hassign : ∀ (l : Nat) (x : α) (W : World) (K : Act → World → Prop), K ((({ tmps := (ps.zip (encs x)).foldl (fun t (p, v) => t.setIfInBounds p v) a.tmps, defers := [] } : Act).put (some d) (.pointer (some ⟨W.heap.size, 0, none⟩))).put none undef) (W.alloc (.cells (cells x) T')) →
      assign.wpIn (Fence.wide.inRound l) (n - 1 - 1) P (Exit.then K (fun _ _ _ => False)) { tmps := (ps.zip (encs x)).foldl (fun t (p, v) => t.setIfInBounds p v) a.tmps, defers := [] } W)
    (hbody : ∀ (l : Nat) (pre : List α) (x : α) (b : Nat) (W : World), I pre W → G pre x W → w.heap.size + 2 < W.heap.size → W.heap[b]? = some (.cells (cells x) T' (0, 0)) → body.wpIn (Fence.wide.inRound l) (n - 1 - 1) P (ownPostG w.heap.size Kp I (fun _ _ _ => False) (pre ++ [x]) W)
      ((({ tmps := (ps.zip (encs x)).foldl (fun t (p, v) => t.setIfInBounds p v) a.tmps, defers := [] } : Act).put (some d) (.pointer (some ⟨b, 0, none⟩))).put none undef) W)
    (hdone : ∀ (D : Nat) (xs : List α) (W : World), w.heap.size ≤ D → S xs → I xs W → W.heap[D]? = some (.deferred (some [])) → Q .normal { a with defers := { target := .collected D, args := #[] } :: a.defers } W) :
    (Code.rangeFunc g ps assign body).wpIn Fence.wide n P Q a w :=
  range_all h1 hg eg hseq hKt hKb hb0 hps hG I hI hI2 h0
    (fun x W => (({ tmps := (ps.zip (encs x)).foldl (fun t (p, v) => t.setIfInBounds p v) a.tmps, defers := [] } : Act).put (some d) (.pointer (some ⟨W.heap.size, 0, none⟩))).put none undef) (fun x W => W.alloc (.cells (cells x) T'))
    (fun x W => World.grownBy_alloc W _ none) (fun pre x W h => hGa pre x W _ h) (fun x W hz => hKa W _ hz) hassign
    (fun l pre x V W hi hg hz hW hl => hbody l pre x V.heap.size W hi hg hz (by
      obtain ⟨r, rfl⟩ := hW
      rw [World.putObj_heap_other (by omega)]
      exact World.alloc_heap_new V _)) hdone
/-- An operation of a list within a round that yields a value, or stores. -/
theorem listR_val {l n : Nat} {P : Program} {ops : Array Oper} {rest : List Oper} {o : Oper} {a : Act} {w : World} {Q : Exit → Act → World → Prop} {v : Value} (hg : o.guard = none) (hd : ∀ c, o.op ≠ .defer c) (hrun : (execOp a.eval o).run P w = .ok (.value v) w)
    (h : wpListIn (Fence.wide.inRound l) n P ops Q rest (a.put o.dst v) w) : wpListIn (Fence.wide.inRound l) n P ops Q (o :: rest) a w :=
  wpListIn_plain hg fun K hK => ⟨fun _ _ => trivial, by rw [Oper.semAt_plain _ _ _ hd, hrun]; exact hK _ _ h⟩
theorem listR_skip {l n : Nat} {P : Program} {ops : Array Oper} {rest : List Oper} {o : Oper} {a : Act} {w w' : World} {Q : Exit → Act → World → Prop} (hg : o.guard = none) (hd : ∀ c, o.op ≠ .defer c) (hrun : (execOp a.eval o).run P w = .ok .skip w')
    (h : wpListIn (Fence.wide.inRound l) n P ops Q rest (a.put o.dst undef) w') : wpListIn (Fence.wide.inRound l) n P ops Q (o :: rest) a w :=
  wpListIn_plain hg fun K hK => ⟨fun _ _ => trivial, by rw [Oper.semAt_plain _ _ _ hd, hrun]; exact hK _ _ h⟩
theorem listR_grow {l n : Nat} {P : Program} {ops : Array Oper} {rest : List Oper} {o : Oper} {a : Act} {w w' : World} {Q : Exit → Act → World → Prop} {v : Value} (hg : o.guard = none) (hd : ∀ c, o.op ≠ .defer c) (hrun : (execOp a.eval o).run P w = .ok (.value v) w')
    (h : wpListIn (Fence.wide.inRound l) n P ops Q rest (a.put o.dst v) w') : wpListIn (Fence.wide.inRound l) n P ops Q (o :: rest) a w :=
  wpListIn_plain hg fun K hK => ⟨fun _ _ => trivial, by rw [Oper.semAt_plain _ _ _ hd, hrun]; exact hK _ _ h⟩
end Go.Proofs.Ytghbliabmecbcaa

/-
  The iterator of cut4's fragments. Conditions are each theorem's own.
-/
namespace Go.Proofs.Ytghbliabmecbcaa
open Go.RowKit Go.Shelf
attribute [local go_sem] Oper.semAt_some

theorem wp_valU {o : Oper} {a : Act} {w : World} {K : Act → World → Prop} {Q : Exit → Act → World → Prop} {v : Value} (hrun : (execOp a.eval o).run Try.prog w = .ok (.value v) w) (h : K (a.put o.dst v) w) : o.wp Try.prog a w K Q := by
  unfold Oper.wp; rw [hrun]; exact h
theorem store_slU {o : Oper} {a : Act} {w : World} {K : Act → World → Prop} {Q : Exit → Act → World → Prop} {x y : Operand} {p : Addr} {v0 : Value} {A : Option Addr} {n c : Nat} (ho : o.op = .store 32 x y) (hx : a.eval x = .pointer (some p)) (hy : a.eval y = .slice A n c) (hc : w.cell? p = some v0) (hf : w.frozen? p = false)
    (h : K (a.put o.dst undef) (w.setCell p (.slice A n c))) : o.wp Try.prog a w K Q := by
  unfold Oper.wp execOp
  simp only [ho, hx, hy, Instr.storeAt, Instr.sureAddr, Sem.run_bind, Sem.run_pure, Result.andThen_ok]
  go_simp
  exact h
/-- An operation of a fenced list that yields a value, or stores. -/
theorem listI_val {n : Nat} {P : Program} {ops : Array Oper} {rest : List Oper} {o : Oper} {a : Act} {w : World} {Q : Exit → Act → World → Prop} {v : Value} (hg : o.guard = none) (hrun : (execOp a.eval o).run P w = .ok (.value v) w)
    (h : wpListIn Fence.wide n P ops Q rest (a.put o.dst v) w) : wpListIn Fence.wide n P ops Q (o :: rest) a w :=
  wpListIn_plain hg fun K hK => ⟨fun _ _ => trivial, by rw [show Fence.wide.round = none from rfl, Oper.semAt_none, hrun]; exact hK _ _ h⟩
theorem listI_skip {n : Nat} {P : Program} {ops : Array Oper} {rest : List Oper} {o : Oper} {a : Act} {w w' : World} {Q : Exit → Act → World → Prop} (hg : o.guard = none) (hrun : (execOp a.eval o).run P w = .ok .skip w')
    (h : wpListIn Fence.wide n P ops Q rest (a.put o.dst undef) w') : wpListIn Fence.wide n P ops Q (o :: rest) a w :=
  wpListIn_plain hg fun K hK => ⟨fun _ _ => trivial, by rw [show Fence.wide.round = none from rfl, Oper.semAt_none, hrun]; exact hK _ _ h⟩
/-- Each block but one lies as it lay. -/
def KeepR (r : Nat) (X Y : World) : Prop := Y.heap.size = X.heap.size ∧ Y.os = X.os ∧ Y.tape = X.tape ∧ Y.output = X.output ∧ ∀ k, k ≠ r → Y.heap[k]? = X.heap[k]?
theorem KeepR.set2 (X : World) (r i : Nat) {v : Value} : KeepR r X (X.setCell ⟨r, i, none⟩ v) := ⟨by simp, rfl, rfl, rfl, fun _ hk => Below.heap_setCell _ _ _ _ (by simpa using hk)⟩
theorem KeepR.set1 (X : World) (r i : Nat) {v : Value} : KeepR r X (X.drew.setCell ⟨r, i, none⟩ v) := ⟨by simp, rfl, rfl, rfl, fun _ hk => Below.heap_setCell X.drew _ _ _ (by simpa using hk)⟩
theorem KeepR.trans {r : Nat} {X Y Z : World} (h : KeepR r Y Z) (k : KeepR r X Y) : KeepR r X Z :=
  ⟨h.1.trans k.1, h.2.1.trans k.2.1, h.2.2.1.trans k.2.2.1, h.2.2.2.1.trans k.2.2.2.1, fun i hi => (h.2.2.2.2 i hi).trans (k.2.2.2.2 i hi)⟩
/-- Options that were given, or that the call made. -/
def OptAt (W : World) (B base : Nat) (A : Option Addr) (c : Nat) (bs : List UInt8) : Prop := Arg W B A c bs ∨ W.ownsRow base 5 1 (.slice A bs.length c) bs.length (row bs)
theorem OptAt.arg {W : World} {B base : Nat} {A : Option Addr} {c : Nat} {bs : List UInt8} (h : OptAt W B base A c bs) (hB : B ≤ W.heap.size) : Arg W W.heap.size A c bs := by
  rcases h with h | h
  · exact h.more hB
  · exact arg_own h
/-- The same of a world that differs in one block of a packet, above what was given. -/
theorem KeepR.arg {r B : Nat} {X Y : World} {A : Option Addr} {c : Nat} {bs : List UInt8} (k : KeepR r X Y) (hr : B ≤ r) (h : Arg X B A c bs) : Arg Y B A c bs :=
  ⟨h.rd.keep (fun p hp => World.cell?_of_block (w := X) (k.2.2.2.2 p.block (by omega))), h.cap, h.none_⟩
theorem KeepR.own {r base e sz n t : Nat} {X Y : World} {v : Value} {xs : List Value} {cs : Array Value} (k : KeepR r X Y) (hr : X.heap[r]? = some (.cells cs t (0, 0))) (hte : t ≠ e) (h : X.ownsRow base e sz v n xs) : Y.ownsRow base e sz v n xs := by
  refine ⟨h.1, ?_⟩
  rcases h.2 with hn | ⟨g', cap, cur, hv, hb, hg', rest⟩
  · exact .inl hn
  · exact .inr ⟨g', cap, cur, hv, hb, (k.2.2.2.2 g' (fun e' => by subst e'; rw [hg'] at hr; cases hr; exact hte rfl)).trans hg', rest⟩
theorem KeepR.grown {r : Nat} {X Y : World} (k : KeepR r X Y) : X.grownBy Y (some r) := ⟨k.2.1, k.2.2.1, k.2.2.2.1, by rw [k.1]; exact Nat.le_refl _, fun i _ hi => k.2.2.2.2 i (fun e => hi (by rw [e]))⟩
def enc4 (x : X4) : Array Value := #[v4v x.q x.A x.c x.A' x.c']
/-- What is known of a fragment when it comes. -/
def G4 (L : List P4) (base : Nat) (pre : List X4) (x : X4) (W : World) : Prop := (∃ more, L = pre.map (·.q) ++ x.q :: more) ∧ Own4 W base x
/-- How many bytes of data the packet in a box has. -/
def dlen (w : World) (g : Nat) : Nat := match w.cell? ⟨g, 10, none⟩ with | some (.slice _ n _) => n | _ => 0
end Go.Proofs.Ytghbliabmecbcaa

/-
  Contracts of cut4's fragments and Cut. Conditions are each theorem's own.
-/
namespace Go.Proofs.Ytghbliabmecbcaa
open Go.RowKit Go.Shelf
attribute [local go_sem] Oper.semAt_some

theorem listI_valw {n : Nat} {P : Program} {ops : Array Oper} {rest : List Oper} {o : Oper} {a : Act} {w : World} {Q : Exit → Act → World → Prop} {v : Value} (hw : Region.wanted o (yielded ops a.tmps) = true) (hrun : (execOp a.eval o).run P w = .ok (.value v) w)
    (h : wpListIn Fence.wide n P ops Q rest (a.put o.dst v) w) : wpListIn Fence.wide n P ops Q (o :: rest) a w := by
  unfold wpListIn
  rw [if_pos hw]
  exact ⟨fun _ _ => trivial, by rw [show Fence.wide.round = none from rfl, Oper.semAt_none, hrun]; exact h⟩
theorem v4v_eq4 (q : P4) (A : Option Addr) (c : Nat) (A' : Option Addr) (c' : Nat) : v4v q A c A' c' = .agg (v4a q A c A' c') := rfl
theorem frg_len (mtu : Int) (o : List UInt8) (mf : Bool) : ∀ (f : Nat) (q : P4), (frg mtu o mf f q).length ≤ f
  | 0, _ => Nat.le_refl _
  | f + 1, q => by
    rw [frg]; split
    · have := frg_len mtu o mf f (rest1 mtu o q); simp; omega
    · simp
theorem rst4_len (mtu : Int) (o : List UInt8) (mf : Bool) (q : P4) : (rst4 mtu o mf q).length ≤ q.dat.length + 1 := frg_len mtu o mf _ q
end Go.Proofs.Ytghbliabmecbcaa

/-
  Contract of layer 13's helper of the statements: same. Conditions are each theorem's own.
-/
namespace Go.Proofs.Ytghbliabmecbcaa
open Go.RowKit Go.Shelf

instance : DecidableEq P4 := fun q r => decidable_of_iff (same4 q r = true) same4_iff
/-- A slice of packets at A, whose cells, and whose lists' cells, lie below block B. -/
structure L4 (w : World) (B : Nat) (A : Option Addr) (l : List X4) : Prop where
  rd : RdS cl4 11 w B A l
  arg : ∀ x ∈ l, Arg w B x.A x.c x.q.opt ∧ Arg w B x.A' x.c' x.q.dat
theorem L4.below {w w' : World} {B : Nat} {A : Option Addr} {l : List X4} (h : L4 w B A l) (hb : Below B w w') : L4 w' B A l := ⟨h.rd.below hb, fun x hx => ⟨(h.arg x hx).1.below hb, (h.arg x hx).2.below hb⟩⟩
theorem L4.more {w : World} {B B' : Nat} {A : Option Addr} {l : List X4} (h : L4 w B A l) (hB : B ≤ B') : L4 w B' A l := ⟨h.rd.more hB, fun x hx => ⟨(h.arg x hx).1.more hB, (h.arg x hx).2.more hB⟩⟩
end Go.Proofs.Ytghbliabmecbcaa

/-
  Contracts of cut4's follows, and of the document's fits of layer 13. Conditions are each theorem's own.
-/
namespace Go.Proofs.Ytghbliabmecbcaa
open Go.RowKit Go.Shelf

end Go.Proofs.Ytghbliabmecbcaa

/-
  A region that draws its order, loads, and then stores into what it loaded: a load is taken ahead as long as a certain store has not come up; the walk's moves. Conditions are each theorem's own.
-/
namespace Go.Proofs.Ytghbliabmecbcaa
open Go.RowKit

section
variable {n : Nat} {P : Program} {ops : Array Oper} {Q : Exit → Act → World → Prop} {md : Region.Mode} {S : World → Prop} {y : Nat}
/-- Whatever comes up next, S holds behind it, as long as operation y has not come up. -/
def anyHY (n : Nat) (P : Program) (md : Region.Mode) (ops : Array Oper) (Q : Exit → Act → World → Prop) (y : Nat) (S : World → Prop) : Nat → Array Bool → Act → World → Prop
  | 0, listed, a, w => Region.ready md ops listed = [] ∧ Q .normal a w
  | fuel + 1, listed, a, w => (Region.ready md ops listed = [] → Q .normal a w) ∧
    ∀ i ∈ Region.ready md ops listed, wpOpIn Fence.wide n P ops Q i (fun a' w' => ((listed.setIfInBounds i true).getD y true = false → S w') ∧ anyHY n P md ops Q y S fuel (listed.setIfInBounds i true) a' w') a w
theorem any_of_HY : ∀ (fuel : Nat) (listed : Array Bool) (a : Act) (w : World), anyHY n P md ops Q y S fuel listed a w → wpAnyIn Fence.wide n P md ops Q fuel listed a w
  | 0, _, _, _, h => h
  | fuel + 1, _, _, _, h => ⟨h.1, fun i hi => wpOpIn_mono (fun a' w' h' => any_of_HY fuel _ a' w' h'.2) (h.2 i hi)⟩
/-- Operation y waits for operation i. -/
def waitsB (md : Region.Mode) (ops : Array Oper) (y i : Nat) : Bool := match ops[y]? with | some o => o.after.any fun e => Region.binds md e && e.on == i | none => false
theorem waitsB_spec {i : Nat} {o : Oper} (h : waitsB md ops y i = true) (ho : ops[y]? = some o) : ∃ e ∈ o.after, Region.binds md e = true ∧ e.on = i := by
  unfold waitsB at h
  rw [ho] at h
  obtain ⟨e, he, hb⟩ := Array.any_eq_true'.1 h
  simp only [Bool.and_eq_true, beq_iff_eq] at hb
  exact ⟨e, he, hb.1, hb.2⟩
theorem takeY_all {i : Nat} {oi : Oper} {v : Value} (hi : ops[i]? = some oi) (hw : waitsB md ops y i = true) (hsel : ∀ (j : Nat) (o : Oper) cs b, ops[j]? = some o → o.op ≠ .select cs b) (hQ : ∀ c a w, Q (.panic c) (a.put oi.dst v) w → Q (.panic c) a w) :
    ∀ (fuel : Nat) (listed : Array Bool) (a : Act) (w : World), (∀ j oj, ops[j]? = some oj → j ≠ i → listed.getD j true = false → (∀ e ∈ oj.after, Region.binds md e = true → e.on ≠ i) → oi.apart ops oj = true) →
      i ∈ Region.ready md ops listed → listed.getD y true = false → YieldsIf P ops S oi v a → S w → anyHY n P md ops Q y S fuel (listed.setIfInBounds i true) (a.put oi.dst v) w → anyHY n P md ops Q y S (fuel + 1) listed a w
  | fuel, listed, a, w, free, hr, hyl, hy, hS, H => by
    refine ⟨fun h => (by rw [h] at hr; cases hr), fun j hj => ?_⟩
    by_cases hji : j = i
    · subst hji; exact opI_here hi hy hS ⟨fun _ => hS, H⟩
    have hj' := ready_mono hj hji
    cases fuel with
    | zero => rw [H.1] at hj'; cases hj'
    | succ fuel =>
      obtain ⟨hjun, oj, hoj, hall⟩ := mem_ready.1 hj
      have hnot : ∀ e ∈ oj.after, Region.binds md e = true → e.on ≠ i := fun e he hb heq => by
        have g1 := hall e he hb
        have g0 := (mem_ready.1 hr).1
        rw [heq] at g1
        rcases Nat.lt_or_ge i listed.size with h' | h'
        · simp [h'] at g0 g1; rw [g0] at g1; cases g1
        · simp [Array.getElem?_eq_none h'] at g1
      have hjy : j ≠ y := fun e => by
        subst e
        obtain ⟨e, he, hb, hon⟩ := waitsB_spec hw hoj
        exact hnot e he hb hon
      have hyl' : (listed.setIfInBounds j true).getD y true = false := by rw [getD_set_ne true hjy]; exact hyl
      refine wpOpIn_mono (fun a' w' h3 => ?_) (opI_swap hoj (free j oj hoj hji hjun hnot) (fun cs b => hsel i oi cs b hi) (fun cs b => hsel j oj cs b hoj) hQ hy (H.2 j hj'))
      have hS' : S w' := h3.2.1 (by rw [getD_set_ne true hjy]; by_cases hiy : i = y
                                    · subst hiy
                                      have g0 := (mem_ready.1 hr).1
                                      obtain ⟨e, he, hb, hon⟩ := waitsB_spec hw hi
                                      obtain ⟨_, o2, ho2, hall2⟩ := mem_ready.1 hr
                                      rw [hi] at ho2
                                      cases ho2
                                      have g1 := hall2 e he hb
                                      rw [hon] at g1
                                      exfalso
                                      rcases Nat.lt_or_ge i listed.size with h' | h'
                                      · simp [h'] at g0 g1; rw [g0] at g1; cases g1
                                      · simp [Array.getElem?_eq_none h'] at g1
                                    · rw [getD_set_ne true hiy]; exact hyl)
      refine ⟨fun _ => hS', takeY_all hi hw hsel hQ fuel (listed.setIfInBounds j true) a' w' (fun k ok hk hki hun hno => free k ok hk hki ?_ hno) (ready_mono hr (Ne.symm hji)) hyl' h3.1 hS' (by rw [Array.setIfInBounds_comm _ _ hji]; exact h3.2.2)⟩
      by_cases hjk : j = k
      · subst hjk; exact hjun
      · rw [getD_set_ne true hjk] at hun; exact hun
theorem pureY {i : Nat} {oi : Oper} {v : Value} {fuel : Nat} {listed : Array Bool} {a : Act} {w : World} (hi : ops[i]? = some oi) (hs : Region.noSelect ops = true) (hf : Region.free md ops listed i = true) (hr : (Region.ready md ops listed).contains i = true)
    (hd : waitsB md ops y i = true) (hyl : listed.getD y true = false) (hQ : ∀ c a w, Q (.panic c) (a.put oi.dst v) w → Q (.panic c) a w) (hw : Region.wanted oi (yielded ops a.tmps) = true) (hrun : ∀ w, S w → (execOp a.eval oi).run P w = .ok (.value v) w) (hS : S w)
    (h : anyHY n P md ops Q y S fuel (listed.setIfInBounds i true) (a.put oi.dst v) w) : anyHY n P md ops Q y S (fuel + 1) listed a w :=
  takeY_all hi hd (Region.noSelect_spec hs) hQ fuel listed a w (Region.free_spec hi hf) (by simpa using hr) hyl (.inl ⟨hw, hrun⟩) hS h
theorem oneY {i : Nat} {oi : Oper} {fuel : Nat} {listed : Array Bool} {a : Act} {w : World} (hr : Region.ready md ops listed = [i]) (hi : ops[i]? = some oi) (hw : Region.wanted oi (yielded ops a.tmps) = true)
    (h : ∀ K : Act → World → Prop, (∀ a w, ((listed.setIfInBounds i true).getD y true = false → S w) → anyHY n P md ops Q y S fuel (listed.setIfInBounds i true) a w → K a w) → oi.wpIn Fence.wide n P a w K Q) : anyHY n P md ops Q y S (fuel + 1) listed a w := by
  refine ⟨fun h0 => (by rw [hr] at h0; cases h0), fun j hj => ?_⟩
  rw [hr, List.mem_singleton] at hj
  subst hj
  unfold wpOpIn
  simp only [hi]
  rw [if_pos hw]
  exact h _ (fun a w hS hW => ⟨hS, hW⟩)
theorem doneY {listed : Array Bool} {a : Act} {w : World} (hr : Region.ready md ops listed = []) (h : Q .normal a w) : ∀ fuel, anyHY n P md ops Q y S fuel listed a w
  | 0 => ⟨hr, h⟩
  | _ + 1 => ⟨fun _ => h, by rw [hr]; simp⟩
theorem regionY (y : Nat) (S : World → Prop) {id : Nat} {a : Act} {w : World} (hm : P.follows .mixedOrders = true) (h : anyHY 0 P .any ops Q y S ops.size (Array.replicate ops.size false) a w.drew) : (Code.region id ops true).wp P Q a w :=
  wpIn_wide.1 (wpIn_region_any (n := 0) hm (any_of_HY _ _ _ _ h))
/-- An operation that yields a value; one that goes by its plain law. -/
theorem valI {o : Oper} {a : Act} {w : World} {K : Act → World → Prop} {v : Value} (hrun : (execOp a.eval o).run P w = .ok (.value v) w) (h : K (a.put o.dst v) w) : o.wpIn Fence.wide n P a w K Q :=
  ⟨fun _ _ => trivial, by rw [show Fence.wide.round = none from rfl, Oper.semAt_none, hrun]; exact h⟩
theorem plainI {o : Oper} {a : Act} {w : World} {K : Act → World → Prop} (hr : ∀ r args w', (execOp a.eval o).run P w ≠ .ok (.row r args) w') (h : o.wp P a w K Q) : o.wpIn Fence.wide n P a w K Q := by
  refine ⟨fun _ _ => trivial, ?_⟩
  rw [show Fence.wide.round = none from rfl, Oper.semAt_none]
  unfold Oper.wp at h
  generalize (execOp a.eval o).run P w = r at h hr ⊢
  rcases r with ⟨x, w'⟩ | ⟨x, w'⟩
  · cases x with
    | value v => exact h
    | skip => exact h
    | defer d => exact h
    | enter f args => exact ⟨fun h => (by cases h), callsIn_wide.2 h⟩
    | row r args => exact absurd rfl (hr r args w')
    | _ => exact h.elim
  · cases x with
    | panic v => exact h
    | _ => exact h.elim
end
end Go.Proofs.Ytghbliabmecbcaa

/-
  Contract of the document's Cut of layer 13. Conditions are each theorem's own.
-/
namespace Go.Proofs.Ytghbliabmecbcaa
open Go.RowKit Go.Shelf

section
variable {n : Nat} {Q : Exit → Act → World → Prop} {K : Act → World → Prop} {o : Oper} {a : Act} {w : World}
theorem growI {v : Value} {w' : World} (hrun : (execOp a.eval o).run Try.prog w = .ok (.value v) w') (h : K (a.put o.dst v) w') : o.wpIn Fence.wide n Try.prog a w K Q :=
  ⟨fun _ _ => trivial, by rw [show Fence.wide.round = none from rfl, Oper.semAt_none, hrun]; exact h⟩
theorem skipI {w' : World} (hrun : (execOp a.eval o).run Try.prog w = .ok .skip w') (h : K (a.put o.dst undef) w') : o.wpIn Fence.wide n Try.prog a w K Q :=
  ⟨fun _ _ => trivial, by rw [show Fence.wide.round = none from rfl, Oper.semAt_none, hrun]; exact h⟩
theorem appendI (s x : Operand) (ho : o.op = .call { callee := .builtin .append, args := #[s, x], argTypes := #[32, 32] })
    (base : Nat) (v : Value) (m : Nat) (xs : List Value) (hs : a.eval s = v) (hown : w.ownsRow base 5 1 v m xs)
    (B : Nat) (A : Option Addr) (c : Nat) (bs : List UInt8) (hx : a.eval x = .slice A bs.length c) (hA : A = none → c = 0) (hr : Rd w B A bs)
    (hlen : m + bs.length ≤ 2199023255552) (hbase : base ≤ w.heap.size)
    (h : ∀ v' w', w'.ownsRow base 5 1 v' (m + bs.length) (xs ++ row bs) → w.grownBy w' v.ownBlock → K (a.put o.dst v') w') : o.wpIn Fence.wide n Try.prog a w K Q := by
  obtain ⟨i0, hi, hz0, hz1, hz2⟩ := info_parts info_u8
  rcases A with _ | ad
  · have h0 : bs = [] := by
      rcases Nat.eq_zero_or_pos bs.length with e | e
      · exact List.eq_nil_of_length_eq_zero e
      · obtain ⟨_, _, e', _⟩ := hr e; cases e'
    subst h0
    obtain rfl := hA rfl
    have hrun := run_append_owned_none (P := Try.prog) (w := w) base 32 o.type 5 i0 1 Try.underlying32 hi v m xs hown
    refine growI (v := v) (w' := w) ?_ (h v w (by simpa [row] using hown) (World.grownBy.refl w _))
    simp [execOp, ho, resolve, invoke, builtin, hs, hx, hrun, Result.andThen]
  · obtain ⟨v', w', hrun, h1, h2, _⟩ := run_append_own (P := Try.prog) w base 32 o.type 5 i0 (.int .u8 0) 1 1 Try.underlying32 hi hz0 hz1 hz2 rfl (by decide) v m xs hown ad bs.length c (row bs)
      (by rw [row_length, Nat.mul_one]) hr.src (row_one bs) (by unfold maxLen; omega) (by omega) hbase
    refine growI (v := v') (w' := w') ?_ (h v' w' h1 h2)
    simp [execOp, ho, resolve, invoke, builtin, hs, hx, hrun, Result.andThen]
theorem store_slI {x y : Operand} {p : Addr} {v0 : Value} {A : Option Addr} {m c : Nat} (ho : o.op = .store 32 x y) (hx : a.eval x = .pointer (some p)) (hy : a.eval y = .slice A m c) (hc : w.cell? p = some v0) (hf : w.frozen? p = false)
    (h : K (a.put o.dst undef) (w.setCell p (.slice A m c))) : o.wpIn Fence.wide n Try.prog a w K Q := by
  refine skipI (w' := w.setCell p (.slice A m c)) ?_ h
  unfold execOp
  simp only [ho, hx, hy, Instr.storeAt, Instr.sureAddr, Sem.run_bind, Sem.run_pure, Result.andThen_ok]
  go_simp
end
theorem wpList_growU {ops : Array Oper} {rest : List Oper} {o : Oper} {a : Act} {w w' : World} {Q : Exit → Act → World → Prop} {v : Value} (hg : o.guard = none) (hrun : (execOp a.eval o).run Try.prog w = .ok (.value v) w') (h : wpList Try.prog ops Q rest (a.put o.dst v) w') : wpList Try.prog ops Q (o :: rest) a w :=
  wpList_plain hg fun K hK => by unfold Oper.wp; rw [hrun]; exact hK _ _ h
/-- The length of a slice. -/
def lenV (v : Value) : Nat := match v with | .slice _ n _ => n | _ => 0
theorem own_keepT {w w' : World} {base base' n n' s s' e e' : Nat} {v v' : Value} {xs xs' : List Value} (h : w.ownsRow base e s v n xs) (hv : w.ownsRow base' e' s' v' n' xs') (hg : w.grownBy w' v'.ownBlock) (hne : e' ≠ e) : w'.ownsRow base e s v n xs := by
  refine h.kept hg ?_
  rcases h.2 with ⟨rfl, _⟩ | ⟨g, cap, cur, rfl, _, hgb, _⟩
  · exact .inl rfl
  · refine .inr fun e1 => ?_
    rcases hv.2 with ⟨rfl, _⟩ | ⟨g2, cap2, cur2, rfl, _, hgb2, _⟩
    · simp [Value.ownBlock] at e1
    · have e2 : g = g2 := by simpa [Value.ownBlock] using e1
      subst e2
      rw [hgb] at hgb2
      cases hgb2
      exact hne rfl
theorem KeepR.below {r B : Nat} {X Y Z : World} (k : KeepR r Y Z) (h : Below B X Y) (hr : B ≤ r) : Below B X Z :=
  ⟨k.2.1.trans h.os, k.2.2.1.trans h.tape, k.2.2.2.1.trans h.output, by rw [k.1]; exact h.size, fun i hi => (k.2.2.2.2 i (by omega)).trans (h.block i hi)⟩
end Go.Proofs.Ytghbliabmecbcaa

/-
  Two facts of packets of IPv4 in fragments. No program. Conditions are each theorem's own.
-/
namespace Go.Proofs.Ytghbliabmecbcaa
open Go.RowKit

theorem off_bd {q : P4} (h : chk4 q = 0) : 0 ≤ q.off ∧ q.off ≤ 65535 := by
  obtain ⟨⟨_, _, _, _, _, _, _, _, _, _, _, _, a13, a14, _, _, _, _⟩, _, _⟩ := chk4_ok h
  exact ⟨a13, by omega⟩
theorem mem_datas {l : List P4} {x : P4} (h : x ∈ l) : x.dat.length ≤ (datas l).length := by
  induction l with
  | nil => cases h
  | cons a l ih =>
    unfold datas at ih ⊢
    rw [List.flatMap_cons, List.length_append]
    rcases List.mem_cons.1 h with rfl | h
    · omega
    · have := ih h; omega
theorem datas_le : ∀ (l : List P4) (m : Nat), (∀ q ∈ l, q.dat.length ≤ m) → (datas l).length ≤ l.length * m
  | [], _, _ => by simp [datas]
  | a :: l, m, h => by
    have h1 := datas_le l m (fun q hq => h q (List.mem_cons_of_mem _ hq))
    have h2 := h a (List.mem_cons_self ..)
    unfold datas at h1 ⊢
    rw [List.flatMap_cons, List.length_append, List.length_cons, Nat.add_mul]; omega
end Go.Proofs.Ytghbliabmecbcaa

/-
  Contract of the document's Glue of layer 13. Conditions are each theorem's own.
-/
namespace Go.Proofs.Ytghbliabmecbcaa
open Go.RowKit Go.Shelf

theorem own_keepB {w w' : World} {base E n n' s s' e e' : Nat} {v v' : Value} {xs xs' : List Value} (h : w.ownsRow base e s v n xs) (hs : ∀ k, v.ownBlock = some k → k < E) (hv : w.ownsRow E e' s' v' n' xs') (hg : w.grownBy w' v'.ownBlock) : w'.ownsRow base e s v n xs := by
  refine h.kept hg ?_
  rcases h.2 with ⟨rfl, _⟩ | ⟨g, cap, cur, rfl, _, hgb, _⟩
  · exact .inl rfl
  · refine .inr fun e1 => ?_
    rcases hv.2 with ⟨rfl, _⟩ | ⟨g2, cap2, cur2, rfl, hb2, hgb2, _⟩
    · simp [Value.ownBlock] at e1
    · have e2 : g = g2 := by simpa [Value.ownBlock] using e1
      have := hs g (by simp [Value.ownBlock])
      omega
end Go.Proofs.Ytghbliabmecbcaa

/-
  Parts as they lie in memory; contracts of the document's answers of layer 15 that read them. Conditions are each theorem's own.
-/
namespace Go.Proofs.Ytghbliabmecbcaa
open Go.RowKit Go.Shelf

/-- A part, and where its bytes lie. -/
structure XP where
  p : Pc
  A : Option Addr
  c : Nat
def clP (x : XP) : List Value := [.int .i64 x.p.off, .bool x.p.more, .slice x.A x.p.b.length x.c]
def piE (l : List XP) : List Pc := l.map (·.p)
def okP (p : Pc) : Prop := 0 ≤ p.off ∧ p.stop ≤ 65535
/-- At ⟨g, o⟩ lies a slice of parts; what it reaches lies below block B. -/
structure Ho (w : World) (B g o : Nat) (A : Option Addr) (c : Nat) (l : List XP) : Prop where
  cell : w.cell? ⟨g, o, none⟩ = some (.slice A l.length c)
  gB : g < B
  cap : l.length ≤ c
  rd : RdS clP 3 w B A l
  arg : ∀ x ∈ l, Arg w B x.A x.c x.p.b
  ok : ∀ x ∈ l, okP x.p
  n : l.length ≤ 100000
  none_ : A = none → c = 0
theorem Ho.below {w w' : World} {B g o : Nat} {A : Option Addr} {c : Nat} {l : List XP} (h : Ho w B g o A c l) (hb : Below B w w') : Ho w' B g o A c l :=
  ⟨(hb.cell h.gB).trans h.cell, h.gB, h.cap, h.rd.below hb, fun x hx => (h.arg x hx).below hb, h.ok, h.n, h.none_⟩
theorem Ho.more {w : World} {B B' g o : Nat} {A : Option Addr} {c : Nat} {l : List XP} (h : Ho w B g o A c l) (hB : B ≤ B') : Ho w B' g o A c l :=
  ⟨h.cell, Nat.lt_of_lt_of_le h.gB hB, h.cap, h.rd.more hB, fun x hx => (h.arg x hx).more hB, h.ok, h.n, h.none_⟩
theorem run_load_ps {o : Oper} {a : Act} {w : World} {x : Operand} {p : Addr} {A : Option Addr} {n c : Nat} (ho : o.op = .load 78 x) (hx : a.eval x = .pointer (some p)) (hc : w.cell? p = some (.slice A n c)) :
    (execOp a.eval o).run Try.prog w = .ok (.value (.slice A n c)) w := by
  unfold execOp
  simp only [ho, hx, Instr.loadAt, Instr.sureAddr, Sem.run_bind, Sem.run_pure, Result.andThen_ok]
  go_simp
theorem farP_nn : ∀ l : List Pc, 0 ≤ farP l
  | [] => Int.le_refl _
  | x :: l => by have := farP_nn l; rw [farP]; omega
theorem bytesP_le {n : Int} (hn : 0 ≤ n) : ∀ l : List Pc, (∀ x ∈ l, x.len ≤ n) → 0 ≤ bytesP l ∧ bytesP l ≤ n * (l.length : Int)
  | [], _ => by simp [bytesP]
  | x :: l, h => by
    obtain ⟨h1, h2⟩ := bytesP_le hn l (fun y hy => h y (List.mem_cons_of_mem _ hy))
    have h3 := h x (List.mem_cons_self ..)
    have h4 : 0 ≤ x.len := Int.natCast_nonneg _
    simp only [bytesP, List.length_cons]
    refine ⟨by omega, ?_⟩
    rw [show n * ((l.length + 1 : Nat) : Int) = n * (l.length : Int) + n by rw [Int.natCast_add, Int.mul_add]; simp]
    omega
set_option maxRecDepth 100000 in
set_option maxHeartbeats 1000000 in
theorem r15end (A : Option Addr) (c : Nat) (l : List XP) (B g o : Nat) (w : World) (h : Ho w B g o A c l) (hB : B ≤ w.heap.size) :
    Calls Try.prog 83 #[.pointer (some ⟨g, o, none⟩)] w fun e w' => e = .returned (.int .i64 (endP (piE l))) ∧ Below w.heap.size w w' := by
  obtain ⟨n, hn⟩ : ∃ n, n = l.length := ⟨_, rfl⟩
  have HN := Lib.hid hn
  obtain ⟨L, hL⟩ : ∃ L, L = piE l := ⟨_, rfl⟩
  have HL := Lib.hid hL
  have HO := Lib.hid h
  have k0 := h.cell
  have hgz : g < w.heap.size := cell_block k0
  have hn1 : n ≤ 100000 := by rw [hn]; exact h.n
  have hn2 : n ≤ c := by rw [hn]; exact h.cap
  rw [← hn] at k0
  rw [← hL]
  clear hn hL h
  go_enter Try.func83, Try.ntmps83
  go_wp2
  go_loopw [3] (fun i wr => ∃ (k : Nat), k ≤ n ∧ i = .int .i64 (k : Int) ∧ Hid (endP L = endP (L.drop k)) ∧ Below w.heap.size w wr)
    (fun i _ => n - (intOf i).toNat)
  case atStart => exact ⟨0, Nat.zero_le _, rfl, Lib.hid rfl, Below.refl _ _⟩
  case round =>
    obtain ⟨k, hk, rfl, HE, hbel⟩ := hrel
    have kc := (hbel.cell (p := ⟨g, o, none⟩) hgz).trans k0
    by_cases hlt : k < n
    · skip
      obtain ⟨x, hx⟩ : ∃ x, l[k]? = some x := ⟨_, List.getElem?_eq_getElem (by rw [← HN.out]; exact hlt)⟩
      have hxm := List.mem_of_getElem? hx
      obtain ⟨ok1, ok2⟩ := HO.out.ok x hxm
      have ok3 : x.p.stop = x.p.off + (x.p.b.length : Int) := rfl
      obtain ⟨b1, o1, e1, hb1', hr1⟩ := HO.out.rd (by rw [← HN.out]; omega)
      obtain rfl := e1
      have hr := range_below (hr1 k x hx) hb1' (hbel.mono hB)
      have kx0 : wr.cell? ⟨b1, o1 + k * 3, none⟩ = some (.int .i64 x.p.off) := by simpa using hr 0 _ rfl
      have kx1 : wr.cell? ⟨b1, o1 + k * 3 + 1, none⟩ = some (.bool x.p.more) := hr 1 _ rfl
      have kx2 : wr.cell? ⟨b1, o1 + k * 3 + 2, none⟩ = some (.slice x.A x.p.b.length x.c) := hr 2 _ rfl
      have HXD : Hid (L.drop k = x.p :: L.drop (k + 1)) := Lib.hid (by
        have hl : k < L.length := by rw [HL.out, piE, List.length_map, ← HN.out]; exact hlt
        rw [List.drop_eq_getElem_cons hl]
        congr 1
        have h1 : L[k]? = some x.p := by rw [HL.out, piE, List.getElem?_map, hx]; rfl
        rw [List.getElem?_eq_getElem hl] at h1
        exact Option.some.inj h1)
      have hzr := hbel.size
      have hb1 : b1 < wr.heap.size := by omega
      have hgr : g < wr.heap.size := by omega
      clear hr1 hx
      cases hm : x.p.more with
      | true =>
        rw [hm] at kx1
        go_wp2
        go_roundw
        case rel => exact ⟨k + 1, by omega, by simp, Lib.hid (by rw [HE.out, HXD.out]; rw [endP, hm]; rfl), hbel⟩
        case measure => simp [intOf]; omega
      | false =>
        rw [hm] at kx1
        have HW : Hid (IntKind.i64.wrap (x.p.off + (x.p.b.length : Int)) = x.p.stop) := Lib.hid (by rw [ok3]; exact IntWalk.i64_in _ (by omega))
        go_upto_region 5 with fail
        refine wp_region_held_drew (S := fun w' => Below wr.heap.size wr w') (by kernel_rfl) (Below.refl _ wr).drew (fun hS => ?_)
        refine held_pure (i := 0) (oi := ⟨some 22, _, _, _, _, _⟩) rfl (by kernel_rfl) (by kernel_rfl) (by kernel_rfl) (fun _ _ _ h => h) (by rfl) (v := ?_) (fun w hSw => ?_) hS (fun hS => ?_)
        rotate_left
        · go_simp; try with_reducible rfl
        try go_frame
        refine held_pure (i := 1) (oi := ⟨some 23, _, _, _, _, _⟩) rfl (by kernel_rfl) (by kernel_rfl) (by kernel_rfl) (fun _ _ _ h => h) (by rfl) (v := ?_) (fun w hSw => ?_) hS (fun hS => ?_)
        rotate_left
        · go_simp; try with_reducible rfl
        try go_frame
        refine held_pure (i := 2) (oi := ⟨some 24, _, _, _, _, _⟩) rfl (by kernel_rfl) (by kernel_rfl) (by kernel_rfl) (fun _ _ _ h => h) (by rfl) (v := ?_) (fun w hSw => ?_) hS (fun hS => ?_)
        rotate_left
        · go_simp; try with_reducible rfl
        try go_frame
        refine held_pure (i := 3) (oi := ⟨some 25, _, _, _, _, _⟩) rfl (by kernel_rfl) (by kernel_rfl) (by kernel_rfl) (fun _ _ _ h => h) (by rfl) (fun w hSw => run_load_ps rfl rfl ((hSw.cell (p := ⟨g, o, none⟩) hgr).trans kc)) hS (fun hS => ?_)
        try go_frame
        refine held_pure (i := 4) (oi := ⟨some 26, _, _, _, _, _⟩) rfl (by kernel_rfl) (by kernel_rfl) (by kernel_rfl) (fun _ _ _ h => h) (by rfl) (v := ?_) (fun w hSw => ?_) hS (fun hS => ?_)
        rotate_left
        · go_simp; try with_reducible rfl
        try go_frame
        refine held_pure (i := 5) (oi := ⟨some 27, _, _, _, _, _⟩) rfl (by kernel_rfl) (by kernel_rfl) (by kernel_rfl) (fun _ _ _ h => h) (by rfl) (v := Value.pointer (some ⟨b1, o1 + k * 3, none⟩)) (fun w hSw => by go_simp; try (exact fun h => absurd h (by omega))) hS (fun hS => ?_)
        try go_frame
        refine held_pure (i := 6) (oi := ⟨some 28, _, _, _, _, _⟩) rfl (by kernel_rfl) (by kernel_rfl) (by kernel_rfl) (fun _ _ _ h => h) (by rfl) (v := ?_) (fun w hSw => ?_) hS (fun hS => ?_)
        rotate_left
        · go_simp; try with_reducible rfl
        try go_frame
        refine held_pure (i := 7) (oi := ⟨some 29, _, _, _, _, _⟩) rfl (by kernel_rfl) (by kernel_rfl) (by kernel_rfl) (fun _ _ _ h => h) (by rfl) (fun w hSw => run_load_int rfl rfl ((hSw.cell (p := ⟨b1, o1 + k * 3, none⟩) hb1).trans kx0)) hS (fun hS => ?_)
        try go_frame
        refine held_pure (i := 8) (oi := ⟨some 30, _, _, _, _, _⟩) rfl (by kernel_rfl) (by kernel_rfl) (by kernel_rfl) (fun _ _ _ h => h) (by rfl) (v := ?_) (fun w hSw => ?_) hS (fun hS => ?_)
        rotate_left
        · go_simp; try with_reducible rfl
        try go_frame
        refine held_pure (i := 9) (oi := ⟨some 31, _, _, _, _, _⟩) rfl (by kernel_rfl) (by kernel_rfl) (by kernel_rfl) (fun _ _ _ h => h) (by rfl) (v := ?_) (fun w hSw => ?_) hS (fun hS => ?_)
        rotate_left
        · go_simp; try with_reducible rfl
        try go_frame
        refine held_pure (i := 10) (oi := ⟨some 32, _, _, _, _, _⟩) rfl (by kernel_rfl) (by kernel_rfl) (by kernel_rfl) (fun _ _ _ h => h) (by rfl) (v := ?_) (fun w hSw => ?_) hS (fun hS => ?_)
        rotate_left
        · go_simp; try with_reducible rfl
        try go_frame
        refine held_pure (i := 11) (oi := ⟨some 33, _, _, _, _, _⟩) rfl (by kernel_rfl) (by kernel_rfl) (by kernel_rfl) (fun _ _ _ h => h) (by rfl) (fun w hSw => run_load_ps rfl rfl ((hSw.cell (p := ⟨g, o, none⟩) hgr).trans kc)) hS (fun hS => ?_)
        try go_frame
        refine held_pure (i := 12) (oi := ⟨some 34, _, _, _, _, _⟩) rfl (by kernel_rfl) (by kernel_rfl) (by kernel_rfl) (fun _ _ _ h => h) (by rfl) (v := ?_) (fun w hSw => ?_) hS (fun hS => ?_)
        rotate_left
        · go_simp; try with_reducible rfl
        try go_frame
        refine held_pure (i := 13) (oi := ⟨some 35, _, _, _, _, _⟩) rfl (by kernel_rfl) (by kernel_rfl) (by kernel_rfl) (fun _ _ _ h => h) (by rfl) (v := Value.pointer (some ⟨b1, o1 + k * 3, none⟩)) (fun w hSw => by go_simp; try (exact fun h => absurd h (by omega))) hS (fun hS => ?_)
        try go_frame
        refine held_pure (i := 14) (oi := ⟨some 36, _, _, _, _, _⟩) rfl (by kernel_rfl) (by kernel_rfl) (by kernel_rfl) (fun _ _ _ h => h) (by rfl) (v := Value.pointer (some ⟨b1, o1 + k * 3 + 2, none⟩)) (fun w hSw => by go_simp) hS (fun hS => ?_)
        try go_frame
        refine held_pure (i := 15) (oi := ⟨some 37, _, _, _, _, _⟩) rfl (by kernel_rfl) (by kernel_rfl) (by kernel_rfl) (fun _ _ _ h => h) (by rfl) (fun w hSw => run_load_sl rfl rfl ((hSw.cell (p := ⟨b1, o1 + k * 3 + 2, none⟩) hb1).trans kx2)) hS (fun hS => ?_)
        try go_frame
        refine held_pure (i := 16) (oi := ⟨some 38, _, _, _, _, _⟩) rfl (by kernel_rfl) (by kernel_rfl) (by kernel_rfl) (fun _ _ _ h => h) (by rfl) (v := ?_) (fun w hSw => ?_) hS (fun hS => ?_)
        rotate_left
        · go_simp; try with_reducible rfl
        try go_frame
        refine held_pure (i := 17) (oi := ⟨some 39, _, _, _, _, _⟩) rfl (by kernel_rfl) (by kernel_rfl) (by kernel_rfl) (fun _ _ _ h => h) (by rfl) (v := .int .i64 x.p.stop) (fun w hSw => by go_simp; exact HW.out) hS (fun hS => ?_)
        try go_frame
        refine held_pure (i := 18) (oi := ⟨some 2, _, _, _, _, _⟩) rfl (by kernel_rfl) (by kernel_rfl) (by kernel_rfl) (fun _ _ _ h => h) (by rfl) (v := ?_) (fun w hSw => ?_) hS (fun hS => ?_)
        rotate_left
        · go_simp; try with_reducible rfl
        try go_frame
        refine wpAnyH_done (by kernel_rfl) ?_ _
        go_wp2_with fail
        go_ret
        exact ⟨by rw [HE.out, HXD.out, endP, hm]; rfl, hbel.trans (hS.mono hzr)⟩
    · obtain rfl : n = k := by omega
      go_wp2
      go_ret
      exact ⟨by rw [HE.out, List.drop_eq_nil_of_le (by rw [HL.out, piE, List.length_map, ← HN.out]; exact Nat.le_refl _)]; rfl, hbel⟩
set_option maxRecDepth 100000 in
set_option maxHeartbeats 1000000 in
theorem r15far (A : Option Addr) (c : Nat) (l : List XP) (B g o : Nat) (w : World) (h : Ho w B g o A c l) (hB : B ≤ w.heap.size) :
    Calls Try.prog 84 #[.pointer (some ⟨g, o, none⟩)] w fun e w' => e = .returned (.int .i64 (farP (piE l))) ∧ Below w.heap.size w w' := by
  obtain ⟨n, hn⟩ : ∃ n, n = l.length := ⟨_, rfl⟩
  have HN := Lib.hid hn
  obtain ⟨L, hL⟩ : ∃ L, L = piE l := ⟨_, rfl⟩
  have HL := Lib.hid hL
  have HO := Lib.hid h
  have k0 := h.cell
  have hgz : g < w.heap.size := cell_block k0
  have hn1 : n ≤ 100000 := by rw [hn]; exact h.n
  have hn2 : n ≤ c := by rw [hn]; exact h.cap
  rw [← hn] at k0
  rw [← hL]
  clear hn hL h
  go_enter Try.func84, Try.ntmps84
  go_wp2
  go_loopw [3, 4] (fun t i wr => ∃ (k : Nat) (s : Int), k ≤ n ∧ i = .int .i64 (k : Int) ∧ t = .int .i64 s ∧ (0 ≤ s ∧ s ≤ 65535) ∧ Hid (farP L = max s (farP (L.drop k))) ∧ Below w.heap.size w wr)
    (fun t i _ => n - (intOf i).toNat)
  case atStart => exact ⟨0, 0, Nat.zero_le _, rfl, rfl, by omega, Lib.hid (by rw [List.drop_zero]; exact (Int.max_eq_right (farP_nn _)).symm), Below.refl _ _⟩
  case round =>
    obtain ⟨k, s, hk, rfl, rfl, hs0, HE, hbel⟩ := hrel
    have kc := (hbel.cell (p := ⟨g, o, none⟩) hgz).trans k0
    by_cases hlt : k < n
    · skip
      obtain ⟨x, hx⟩ : ∃ x, l[k]? = some x := ⟨_, List.getElem?_eq_getElem (by rw [← HN.out]; exact hlt)⟩
      have hxm := List.mem_of_getElem? hx
      obtain ⟨ok1, ok2⟩ := HO.out.ok x hxm
      have ok3 : x.p.stop = x.p.off + (x.p.b.length : Int) := rfl
      obtain ⟨b1, o1, e1, hb1', hr1⟩ := HO.out.rd (by rw [← HN.out]; omega)
      obtain rfl := e1
      have hr := range_below (hr1 k x hx) hb1' (hbel.mono hB)
      have kx0 : wr.cell? ⟨b1, o1 + k * 3, none⟩ = some (.int .i64 x.p.off) := by simpa using hr 0 _ rfl
      have kx1 : wr.cell? ⟨b1, o1 + k * 3 + 1, none⟩ = some (.bool x.p.more) := hr 1 _ rfl
      have kx2 : wr.cell? ⟨b1, o1 + k * 3 + 2, none⟩ = some (.slice x.A x.p.b.length x.c) := hr 2 _ rfl
      have HXD : Hid (L.drop k = x.p :: L.drop (k + 1)) := Lib.hid (by
        have hl : k < L.length := by rw [HL.out, piE, List.length_map, ← HN.out]; exact hlt
        rw [List.drop_eq_getElem_cons hl]
        congr 1
        have h1 : L[k]? = some x.p := by rw [HL.out, piE, List.getElem?_map, hx]; rfl
        rw [List.getElem?_eq_getElem hl] at h1
        exact Option.some.inj h1)
      have hzr := hbel.size
      have hb1 : b1 < wr.heap.size := by omega
      have hgr : g < wr.heap.size := by omega
      clear hr1 hx
      have HW : Hid (IntKind.i64.wrap (x.p.off + (x.p.b.length : Int)) = x.p.stop) := Lib.hid (by rw [ok3]; exact IntWalk.i64_in _ (by omega))
      go_upto_region 5 with fail
      refine wp_region_held_drew (S := fun w' => Below wr.heap.size wr w') (by kernel_rfl) (Below.refl _ wr).drew (fun hS => ?_)
      refine held_pure (i := 0) (oi := ⟨some 14, _, _, _, _, _⟩) rfl (by kernel_rfl) (by kernel_rfl) (by kernel_rfl) (fun _ _ _ h => h) (by rfl) (v := ?_) (fun w hSw => ?_) hS (fun hS => ?_)
      rotate_left
      · go_simp; try with_reducible rfl
      try go_frame
      refine held_pure (i := 1) (oi := ⟨some 15, _, _, _, _, _⟩) rfl (by kernel_rfl) (by kernel_rfl) (by kernel_rfl) (fun _ _ _ h => h) (by rfl) (v := ?_) (fun w hSw => ?_) hS (fun hS => ?_)
      rotate_left
      · go_simp; try with_reducible rfl
      try go_frame
      refine held_pure (i := 2) (oi := ⟨some 16, _, _, _, _, _⟩) rfl (by kernel_rfl) (by kernel_rfl) (by kernel_rfl) (fun _ _ _ h => h) (by rfl) (v := ?_) (fun w hSw => ?_) hS (fun hS => ?_)
      rotate_left
      · go_simp; try with_reducible rfl
      try go_frame
      refine held_pure (i := 3) (oi := ⟨some 17, _, _, _, _, _⟩) rfl (by kernel_rfl) (by kernel_rfl) (by kernel_rfl) (fun _ _ _ h => h) (by rfl) (v := ?_) (fun w hSw => ?_) hS (fun hS => ?_)
      rotate_left
      · go_simp; try with_reducible rfl
      try go_frame
      refine held_pure (i := 4) (oi := ⟨some 18, _, _, _, _, _⟩) rfl (by kernel_rfl) (by kernel_rfl) (by kernel_rfl) (fun _ _ _ h => h) (by rfl) (fun w hSw => run_load_ps rfl rfl ((hSw.cell (p := ⟨g, o, none⟩) hgr).trans kc)) hS (fun hS => ?_)
      try go_frame
      refine held_pure (i := 5) (oi := ⟨some 19, _, _, _, _, _⟩) rfl (by kernel_rfl) (by kernel_rfl) (by kernel_rfl) (fun _ _ _ h => h) (by rfl) (v := ?_) (fun w hSw => ?_) hS (fun hS => ?_)
      rotate_left
      · go_simp; try with_reducible rfl
      try go_frame
      refine held_pure (i := 6) (oi := ⟨some 20, _, _, _, _, _⟩) rfl (by kernel_rfl) (by kernel_rfl) (by kernel_rfl) (fun _ _ _ h => h) (by rfl) (v := Value.pointer (some ⟨b1, o1 + k * 3, none⟩)) (fun w hSw => by go_simp; try (exact fun h => absurd h (by omega))) hS (fun hS => ?_)
      try go_frame
      refine held_pure (i := 7) (oi := ⟨some 21, _, _, _, _, _⟩) rfl (by kernel_rfl) (by kernel_rfl) (by kernel_rfl) (fun _ _ _ h => h) (by rfl) (v := ?_) (fun w hSw => ?_) hS (fun hS => ?_)
      rotate_left
      · go_simp; try with_reducible rfl
      try go_frame
      refine held_pure (i := 8) (oi := ⟨some 22, _, _, _, _, _⟩) rfl (by kernel_rfl) (by kernel_rfl) (by kernel_rfl) (fun _ _ _ h => h) (by rfl) (fun w hSw => run_load_int rfl rfl ((hSw.cell (p := ⟨b1, o1 + k * 3, none⟩) hb1).trans kx0)) hS (fun hS => ?_)
      try go_frame
      refine held_pure (i := 9) (oi := ⟨some 23, _, _, _, _, _⟩) rfl (by kernel_rfl) (by kernel_rfl) (by kernel_rfl) (fun _ _ _ h => h) (by rfl) (v := ?_) (fun w hSw => ?_) hS (fun hS => ?_)
      rotate_left
      · go_simp; try with_reducible rfl
      try go_frame
      refine held_pure (i := 10) (oi := ⟨some 24, _, _, _, _, _⟩) rfl (by kernel_rfl) (by kernel_rfl) (by kernel_rfl) (fun _ _ _ h => h) (by rfl) (v := ?_) (fun w hSw => ?_) hS (fun hS => ?_)
      rotate_left
      · go_simp; try with_reducible rfl
      try go_frame
      refine held_pure (i := 11) (oi := ⟨some 25, _, _, _, _, _⟩) rfl (by kernel_rfl) (by kernel_rfl) (by kernel_rfl) (fun _ _ _ h => h) (by rfl) (v := ?_) (fun w hSw => ?_) hS (fun hS => ?_)
      rotate_left
      · go_simp; try with_reducible rfl
      try go_frame
      refine held_pure (i := 12) (oi := ⟨some 26, _, _, _, _, _⟩) rfl (by kernel_rfl) (by kernel_rfl) (by kernel_rfl) (fun _ _ _ h => h) (by rfl) (fun w hSw => run_load_ps rfl rfl ((hSw.cell (p := ⟨g, o, none⟩) hgr).trans kc)) hS (fun hS => ?_)
      try go_frame
      refine held_pure (i := 13) (oi := ⟨some 27, _, _, _, _, _⟩) rfl (by kernel_rfl) (by kernel_rfl) (by kernel_rfl) (fun _ _ _ h => h) (by rfl) (v := ?_) (fun w hSw => ?_) hS (fun hS => ?_)
      rotate_left
      · go_simp; try with_reducible rfl
      try go_frame
      refine held_pure (i := 14) (oi := ⟨some 28, _, _, _, _, _⟩) rfl (by kernel_rfl) (by kernel_rfl) (by kernel_rfl) (fun _ _ _ h => h) (by rfl) (v := Value.pointer (some ⟨b1, o1 + k * 3, none⟩)) (fun w hSw => by go_simp; try (exact fun h => absurd h (by omega))) hS (fun hS => ?_)
      try go_frame
      refine held_pure (i := 15) (oi := ⟨some 29, _, _, _, _, _⟩) rfl (by kernel_rfl) (by kernel_rfl) (by kernel_rfl) (fun _ _ _ h => h) (by rfl) (v := Value.pointer (some ⟨b1, o1 + k * 3 + 2, none⟩)) (fun w hSw => by go_simp) hS (fun hS => ?_)
      try go_frame
      refine held_pure (i := 16) (oi := ⟨some 30, _, _, _, _, _⟩) rfl (by kernel_rfl) (by kernel_rfl) (by kernel_rfl) (fun _ _ _ h => h) (by rfl) (fun w hSw => run_load_sl rfl rfl ((hSw.cell (p := ⟨b1, o1 + k * 3 + 2, none⟩) hb1).trans kx2)) hS (fun hS => ?_)
      try go_frame
      refine held_pure (i := 17) (oi := ⟨some 31, _, _, _, _, _⟩) rfl (by kernel_rfl) (by kernel_rfl) (by kernel_rfl) (fun _ _ _ h => h) (by rfl) (v := ?_) (fun w hSw => ?_) hS (fun hS => ?_)
      rotate_left
      · go_simp; try with_reducible rfl
      try go_frame
      refine held_pure (i := 18) (oi := ⟨some 32, _, _, _, _, _⟩) rfl (by kernel_rfl) (by kernel_rfl) (by kernel_rfl) (fun _ _ _ h => h) (by rfl) (v := .int .i64 x.p.stop) (fun w hSw => by go_simp; exact HW.out) hS (fun hS => ?_)
      try go_frame
      refine held_pure (i := 19) (oi := ⟨some 33, _, _, _, _, _⟩) rfl (by kernel_rfl) (by kernel_rfl) (by kernel_rfl) (fun _ _ _ h => h) (by rfl) (v := .int .i64 (max s x.p.stop)) (fun w hSw => by go_simp) hS (fun hS => ?_)
      try go_frame
      refine held_pure (i := 20) (oi := ⟨some 3, _, _, _, _, _⟩) rfl (by kernel_rfl) (by kernel_rfl) (by kernel_rfl) (fun _ _ _ h => h) (by rfl) (v := ?_) (fun w hSw => ?_) hS (fun hS => ?_)
      rotate_left
      · go_simp; try with_reducible rfl
      try go_frame
      refine wpAnyH_done (by kernel_rfl) ?_ _
      go_wp2_with fail
      go_roundw
      case rel => exact ⟨k + 1, max s x.p.stop, by omega, by simp, rfl, by omega, Lib.hid (by rw [HE.out, HXD.out, farP]; omega), hbel.trans (hS.mono hzr)⟩
      case measure => simp [intOf]; omega
    · obtain rfl : n = k := by omega
      go_wp2
      go_ret
      exact ⟨by rw [HE.out, List.drop_eq_nil_of_le (by rw [HL.out, piE, List.length_map, ← HN.out]; exact Nat.le_refl _), farP, Int.max_eq_left hs0.1]; rfl, hbel⟩
set_option maxRecDepth 100000 in
set_option maxHeartbeats 1000000 in
theorem r15bytes (A : Option Addr) (c : Nat) (l : List XP) (B g o : Nat) (w : World) (h : Ho w B g o A c l) (hB : B ≤ w.heap.size) :
    Calls Try.prog 50 #[.pointer (some ⟨g, o, none⟩)] w fun e w' => e = .returned (.int .i64 (bytesP (piE l))) ∧ Below w.heap.size w w' := by
  obtain ⟨n, hn⟩ : ∃ n, n = l.length := ⟨_, rfl⟩
  have HN := Lib.hid hn
  obtain ⟨L, hL⟩ : ∃ L, L = piE l := ⟨_, rfl⟩
  have HL := Lib.hid hL
  have HO := Lib.hid h
  have k0 := h.cell
  have hgz : g < w.heap.size := cell_block k0
  have hn1 : n ≤ 100000 := by rw [hn]; exact h.n
  have hn2 : n ≤ c := by rw [hn]; exact h.cap
  rw [← hn] at k0
  rw [← hL]
  clear hn hL h
  go_enter Try.func50, Try.ntmps50
  go_wp2
  go_loopw [3, 4] (fun t i wr => ∃ (k : Nat) (s : Int), k ≤ n ∧ i = .int .i64 (k : Int) ∧ t = .int .i64 s ∧ (0 ≤ s ∧ s ≤ 65535 * (k : Int)) ∧ Hid (bytesP L = s + bytesP (L.drop k)) ∧ Below w.heap.size w wr)
    (fun t i _ => n - (intOf i).toNat)
  case atStart => exact ⟨0, 0, Nat.zero_le _, rfl, rfl, by omega, Lib.hid (by rw [List.drop_zero, Int.zero_add]), Below.refl _ _⟩
  case round =>
    obtain ⟨k, s, hk, rfl, rfl, hs0, HE, hbel⟩ := hrel
    have kc := (hbel.cell (p := ⟨g, o, none⟩) hgz).trans k0
    by_cases hlt : k < n
    · skip
      obtain ⟨x, hx⟩ : ∃ x, l[k]? = some x := ⟨_, List.getElem?_eq_getElem (by rw [← HN.out]; exact hlt)⟩
      have hxm := List.mem_of_getElem? hx
      obtain ⟨ok1, ok2⟩ := HO.out.ok x hxm
      have ok3 : x.p.stop = x.p.off + (x.p.b.length : Int) := rfl
      obtain ⟨b1, o1, e1, hb1', hr1⟩ := HO.out.rd (by rw [← HN.out]; omega)
      obtain rfl := e1
      have hr := range_below (hr1 k x hx) hb1' (hbel.mono hB)
      have kx0 : wr.cell? ⟨b1, o1 + k * 3, none⟩ = some (.int .i64 x.p.off) := by simpa using hr 0 _ rfl
      have kx1 : wr.cell? ⟨b1, o1 + k * 3 + 1, none⟩ = some (.bool x.p.more) := hr 1 _ rfl
      have kx2 : wr.cell? ⟨b1, o1 + k * 3 + 2, none⟩ = some (.slice x.A x.p.b.length x.c) := hr 2 _ rfl
      have HXD : Hid (L.drop k = x.p :: L.drop (k + 1)) := Lib.hid (by
        have hl : k < L.length := by rw [HL.out, piE, List.length_map, ← HN.out]; exact hlt
        rw [List.drop_eq_getElem_cons hl]
        congr 1
        have h1 : L[k]? = some x.p := by rw [HL.out, piE, List.getElem?_map, hx]; rfl
        rw [List.getElem?_eq_getElem hl] at h1
        exact Option.some.inj h1)
      have hzr := hbel.size
      have hb1 : b1 < wr.heap.size := by omega
      have hgr : g < wr.heap.size := by omega
      clear hr1 hx
      have hb0 : x.p.b.length ≤ 65535 := by omega
      have e2 : wrap64 (s + (x.p.b.length : Int)) = s + (x.p.b.length : Int) := by unfold wrap64; omega
      go_wp2
      go_roundw
      case rel => exact ⟨k + 1, s + (x.p.b.length : Int), by omega, by simp, rfl, by omega, Lib.hid (by rw [HE.out, HXD.out, bytesP, Pc.len]; omega), hbel⟩
      case measure => simp [intOf]; omega
    · obtain rfl : n = k := by omega
      go_wp2
      go_ret
      exact ⟨by rw [HE.out, List.drop_eq_nil_of_le (by rw [HL.out, piE, List.length_map, ← HN.out]; exact Nat.le_refl _), bytesP, Int.add_zero]; rfl, hbel⟩
theorem cover_cons (x : Pc) (l : List Pc) (a : Int) : coverP (x :: l) a = ((decide (x.off ≤ a) && decide (a < x.stop)) || coverP l a) := by simp [coverP]
end Go.Proofs.Ytghbliabmecbcaa

/-
  Contracts of the document's same, shares and Room of layer 15. Conditions are each theorem's own.
-/
namespace Go.Proofs.Ytghbliabmecbcaa
open Go.RowKit Go.Shelf

theorem clP_one (x : XP) : (clP x).toArray.all (·.oneCell') = true := by simp [clP, Value.oneCell']
theorem run_load_pc {o : Oper} {a : Act} {w : World} {x : Operand} {g i : Nat} {cs : List Value} (ho : o.op = .load 142 x) (hx : a.eval x = .pointer (some ⟨g, i, none⟩)) (hr : w.rangeAt g i cs) (hl : cs.length = 3) :
    (execOp a.eval o).run Try.prog w = .ok (.value (.agg cs.toArray)) w := by
  have h := run_loadVar_mid (P := Try.prog) w g i 142 cs _ hr Try.underlying142 rfl (by rw [hl]; kernel_rfl)
  unfold execOp
  simp only [ho, hx, Instr.loadAt, Instr.sureAddr, Sem.run_bind, Sem.run_pure, Result.andThen_ok, h]
theorem pc_store {ops : Array Oper} {rest : List Oper} {x y : Operand} {ty : TypeId} {pos : String} {af : Array Edge} {a : Act} {w : World} {Q : Exit → Act → World → Prop}
    {g : Nat} {t : TypeId} {cs old : Array Value} (hx : a.eval x = .pointer (some ⟨g, 0, none⟩)) (hy : a.eval y = .agg cs) (hg : w.heap[g]? = some (.cells old t (0, 0))) (ho : old.size = 3) (hl : cs.size = 3) (h1 : cs.all (·.oneCell') = true)
    (h : wpList Try.prog ops Q rest (a.put none undef) (w.setRow g cs)) : wpList Try.prog ops Q (⟨none, .store 142 x y, ty, pos, af, none⟩ :: rest) a w :=
  wpList_plain rfl fun _ hK => wp_store_row 142 x y rfl g cs hx hy t old hg (by rw [hl]; kernel_rfl) (by rw [ho, hl]) h1 (hK _ _ h)
theorem pc_store_new {ops : Array Oper} {rest : List Oper} {x y : Operand} {ty : TypeId} {pos : String} {af : Array Edge} {a : Act} {w : World} {Q : Exit → Act → World → Prop}
    {t : TypeId} {cs old : Array Value} (hx : a.eval x = .pointer (some ⟨w.heap.size, 0, none⟩)) (hy : a.eval y = .agg cs) (ho : old.size = 3) (hl : cs.size = 3) (h1 : cs.all (·.oneCell') = true)
    (h : wpList Try.prog ops Q rest (a.put none undef) (w.alloc (.cells cs t))) : wpList Try.prog ops Q (⟨none, .store 142 x y, ty, pos, af, none⟩ :: rest) a (w.alloc (.cells old t)) :=
  pc_store hx hy (World.alloc_heap_new w _) ho hl h1 (by rw [World.setRow_alloc_new]; exact h)
theorem same_cons (x : Pc) (l : List Pc) (a : Int) (m : Bool) (b : List UInt8) : sameP (x :: l) ⟨a, m, b⟩ = (((x.off == a) && (x.more == m) && decide (x.b = b)) || sameP l ⟨a, m, b⟩) := by
  obtain ⟨x1, x2, x3⟩ := x
  rw [sameP, sameP, List.any_cons]
  congr 1
  rw [Bool.eq_iff_iff]
  simp [and_assoc]
theorem sharing_iff {x p : Pc} : sharing x p = true ↔ (0 < x.len ∧ 0 < p.len ∧ x.off < p.stop ∧ p.off < x.stop) ∨ (x.off = p.off ∧ x.len = 0 ∧ p.len = 0) := by
  simp only [sharing, Bool.or_eq_true, Bool.and_eq_true, decide_eq_true_eq, beq_iff_eq, and_assoc]
theorem shares_cons (x : Pc) (l : List Pc) (p : Pc) : sharesP (x :: l) p = (sharing x p || sharesP l p) := by simp [sharesP]
set_option maxRecDepth 100000 in
set_option maxHeartbeats 1000000 in
theorem r15same (A : Option Addr) (c : Nat) (l : List XP) (B g o : Nat) (a : Int) (m : Bool) (A' : Option Addr) (b : List UInt8) (c' : Nat) (w : World) (h : Ho w B g o A c l) (hB : B ≤ w.heap.size) (hA' : Rd w w.heap.size A' b) :
    Calls Try.prog 81 #[.pointer (some ⟨g, o, none⟩), .int .i64 a, .bool m, .slice A' b.length c'] w fun e w' => e = .returned (.bool (sameP (piE l) ⟨a, m, b⟩)) ∧ Below w.heap.size w w' := by
  obtain ⟨n, hn⟩ : ∃ n, n = l.length := ⟨_, rfl⟩
  have HN := Lib.hid hn
  obtain ⟨L, hL⟩ : ∃ L, L = piE l := ⟨_, rfl⟩
  have HL := Lib.hid hL
  have HO := Lib.hid h
  have k0 := h.cell
  have hgz : g < w.heap.size := cell_block k0
  have hn1 : n ≤ 100000 := by rw [hn]; exact h.n
  have hn2 : n ≤ c := by rw [hn]; exact h.cap
  rw [← hn] at k0
  rw [← hL]
  clear hn hL h
  go_enter Try.func81, Try.ntmps81
  go_wp2
  go_loopw [9] (fun i wr => ∃ (k : Nat), k ≤ n ∧ i = .int .i64 (k : Int) ∧ Hid (sameP L ⟨a, m, b⟩ = sameP (L.drop k) ⟨a, m, b⟩) ∧ Below w.heap.size w wr)
    (fun i _ => n - (intOf i).toNat)
  case atStart => exact ⟨0, Nat.zero_le _, rfl, Lib.hid rfl, Below.refl _ _⟩
  case round =>
    obtain ⟨k, hk, rfl, HE, hbel⟩ := hrel
    have kc := (hbel.cell (p := ⟨g, o, none⟩) hgz).trans k0
    by_cases hlt : k < n
    · skip
      obtain ⟨x, hx⟩ : ∃ x, l[k]? = some x := ⟨_, List.getElem?_eq_getElem (by rw [← HN.out]; exact hlt)⟩
      have hxm := List.mem_of_getElem? hx
      obtain ⟨ok1, ok2⟩ := HO.out.ok x hxm
      have ok3 : x.p.stop = x.p.off + (x.p.b.length : Int) := rfl
      obtain ⟨b1, o1, e1, hb1', hr1⟩ := HO.out.rd (by rw [← HN.out]; omega)
      obtain rfl := e1
      have hr := range_below (hr1 k x hx) hb1' (hbel.mono hB)
      have kx0 : wr.cell? ⟨b1, o1 + k * 3, none⟩ = some (.int .i64 x.p.off) := by simpa using hr 0 _ rfl
      have kx1 : wr.cell? ⟨b1, o1 + k * 3 + 1, none⟩ = some (.bool x.p.more) := hr 1 _ rfl
      have kx2 : wr.cell? ⟨b1, o1 + k * 3 + 2, none⟩ = some (.slice x.A x.p.b.length x.c) := hr 2 _ rfl
      have HXD : Hid (L.drop k = x.p :: L.drop (k + 1)) := Lib.hid (by
        have hl : k < L.length := by rw [HL.out, piE, List.length_map, ← HN.out]; exact hlt
        rw [List.drop_eq_getElem_cons hl]
        congr 1
        have h1 : L[k]? = some x.p := by rw [HL.out, piE, List.getElem?_map, hx]; rfl
        rw [List.getElem?_eq_getElem hl] at h1
        exact Option.some.inj h1)
      have hzr := hbel.size
      have hb1 : b1 < wr.heap.size := by omega
      have hgr : g < wr.heap.size := by omega
      clear hr1 hx
      have hX : Below wr.heap.size wr (wr.alloc (.cells (clP x).toArray 142)) := (Below.refl _ wr).alloc (Nat.le_refl _) _
      have hat := World.alloc_heap_new wr (.cells (clP x).toArray 142)
      go_upto_region 5 with (first
        | ((with_reducible show wpList _ _ _ (Oper.mk _ (Op.load 142 _) _ _ _ _ :: _) _ _); refine wpList_val (v := .agg (clP x).toArray) rfl (run_load_pc rfl rfl hr rfl) ?_)
        | ((with_reducible show wpList _ _ _ (Oper.mk _ (Op.store 142 _ _) _ _ _ _ :: _) _ _); refine pc_store_new (cs := (clP x).toArray) rfl rfl rfl rfl (clP_one x) ?_))
      obtain ⟨bx, hbx⟩ : ∃ b, b = wr.heap.size := ⟨_, rfl⟩
      rw [← hbx] at hat ⊢
      have hBX := hbel.trans (hX.mono hzr)
      clear hr hbx
      generalize wr.alloc (.cells (clP x).toArray 142) = X at *
      have j0 : X.cell? ⟨bx, 0, none⟩ = some (.int .i64 x.p.off) := by rw [cell_of_row _ _ _ _ _ _ hat]; rfl
      have j1 : X.cell? ⟨bx, 1, none⟩ = some (.bool x.p.more) := by rw [cell_of_row _ _ _ _ _ _ hat]; rfl
      have j2 : X.cell? ⟨bx, 2, none⟩ = some (.slice x.A x.p.b.length x.c) := by rw [cell_of_row _ _ _ _ _ _ hat]; rfl
      clear hX hat kx0 kx1 kx2 kc
      have c1 := conv_any x.A x.p.b x.c w.heap.size X (((HO.out.arg x hxm).below (hBX.mono hB)).more hB).rd
      have c2 := conv_any A' b c' w.heap.size X (hA'.below hBX)
      cases e1 : (x.p.off == a) with
      | false =>
        have hcv : ((x.p.off == a) && (x.p.more == m) && decide (x.p.b = b)) = false := by rw [e1]; rfl
        go_wp2
        go_roundw
        case rel => exact ⟨k + 1, by omega, by simp, Lib.hid (by rw [HE.out, HXD.out, same_cons, hcv]; rfl), hBX⟩
        case measure => simp [intOf]; omega
      | true =>
        cases e2 : (x.p.more == m) with
        | false =>
          have hcv : ((x.p.off == a) && (x.p.more == m) && decide (x.p.b = b)) = false := by rw [e1, e2]; rfl
          go_wp2
          go_roundw
          case rel => exact ⟨k + 1, by omega, by simp, Lib.hid (by rw [HE.out, HXD.out, same_cons, hcv]; rfl), hBX⟩
          case measure => simp [intOf]; omega
        | true =>
          cases e3 : decide (x.p.b = b) with
          | false =>
            have hcv : ((x.p.off == a) && (x.p.more == m) && decide (x.p.b = b)) = false := by rw [e1, e2, e3]; rfl
            have e4 : ((strB x.p.b).toList == (strB b).toList) = false := by rw [strB_eq]; exact e3
            go_wp2
            go_roundw
            case rel => exact ⟨k + 1, by omega, by simp, Lib.hid (by rw [HE.out, HXD.out, same_cons, hcv]; rfl), hBX⟩
            case measure => simp [intOf]; omega
          | true =>
            have e4 : ((strB x.p.b).toList == (strB b).toList) = true := by rw [strB_eq]; exact e3
            have hcv : ((x.p.off == a) && (x.p.more == m) && decide (x.p.b = b)) = true := by rw [e1, e2, e3]; rfl
            go_wp2
            go_ret
            exact ⟨by rw [HE.out, HXD.out, same_cons, hcv]; rfl, hBX⟩
    · obtain rfl : n = k := by omega
      go_wp2
      go_ret
      exact ⟨by rw [HE.out, List.drop_eq_nil_of_le (by rw [HL.out, piE, List.length_map, ← HN.out]; exact Nat.le_refl _)]; rfl, hbel⟩
set_option maxRecDepth 100000 in
set_option maxHeartbeats 1000000 in
theorem r15shares (A : Option Addr) (c : Nat) (l : List XP) (B g o : Nat) (a : Int) (m0 : Bool) (A' : Option Addr) (b : List UInt8) (c' : Nat) (w : World) (h : Ho w B g o A c l) (hB : B ≤ w.heap.size) (ha0 : 0 ≤ a) (ha1 : a + (b.length : Int) ≤ 65535) :
    Calls Try.prog 82 #[.pointer (some ⟨g, o, none⟩), .int .i64 a, .slice A' b.length c'] w fun e w' => e = .returned (.bool (sharesP (piE l) ⟨a, m0, b⟩)) ∧ Below w.heap.size w w' := by
  obtain ⟨n, hn⟩ : ∃ n, n = l.length := ⟨_, rfl⟩
  have HN := Lib.hid hn
  obtain ⟨L, hL⟩ : ∃ L, L = piE l := ⟨_, rfl⟩
  have HL := Lib.hid hL
  have HO := Lib.hid h
  have k0 := h.cell
  have hgz : g < w.heap.size := cell_block k0
  have hn1 : n ≤ 100000 := by rw [hn]; exact h.n
  have hn2 : n ≤ c := by rw [hn]; exact h.cap
  rw [← hn] at k0
  rw [← hL]
  clear hn hL h
  go_enter Try.func82, Try.ntmps82
  go_wp2
  go_loopw [7] (fun i wr => ∃ (k : Nat), k ≤ n ∧ i = .int .i64 (k : Int) ∧ Hid (sharesP L ⟨a, m0, b⟩ = sharesP (L.drop k) ⟨a, m0, b⟩) ∧ Below w.heap.size w wr)
    (fun i _ => n - (intOf i).toNat)
  case atStart => exact ⟨0, Nat.zero_le _, rfl, Lib.hid rfl, Below.refl _ _⟩
  case round =>
    obtain ⟨k, hk, rfl, HE, hbel⟩ := hrel
    have kc := (hbel.cell (p := ⟨g, o, none⟩) hgz).trans k0
    by_cases hlt : k < n
    · skip
      obtain ⟨x, hx⟩ : ∃ x, l[k]? = some x := ⟨_, List.getElem?_eq_getElem (by rw [← HN.out]; exact hlt)⟩
      have hxm := List.mem_of_getElem? hx
      obtain ⟨ok1, ok2⟩ := HO.out.ok x hxm
      have ok3 : x.p.stop = x.p.off + (x.p.b.length : Int) := rfl
      obtain ⟨b1, o1, e1, hb1', hr1⟩ := HO.out.rd (by rw [← HN.out]; omega)
      obtain rfl := e1
      have hr := range_below (hr1 k x hx) hb1' (hbel.mono hB)
      have kx0 : wr.cell? ⟨b1, o1 + k * 3, none⟩ = some (.int .i64 x.p.off) := by simpa using hr 0 _ rfl
      have kx1 : wr.cell? ⟨b1, o1 + k * 3 + 1, none⟩ = some (.bool x.p.more) := hr 1 _ rfl
      have kx2 : wr.cell? ⟨b1, o1 + k * 3 + 2, none⟩ = some (.slice x.A x.p.b.length x.c) := hr 2 _ rfl
      have HXD : Hid (L.drop k = x.p :: L.drop (k + 1)) := Lib.hid (by
        have hl : k < L.length := by rw [HL.out, piE, List.length_map, ← HN.out]; exact hlt
        rw [List.drop_eq_getElem_cons hl]
        congr 1
        have h1 : L[k]? = some x.p := by rw [HL.out, piE, List.getElem?_map, hx]; rfl
        rw [List.getElem?_eq_getElem hl] at h1
        exact Option.some.inj h1)
      have hzr := hbel.size
      have hb1 : b1 < wr.heap.size := by omega
      have hgr : g < wr.heap.size := by omega
      clear hr1 hx
      have hX : Below wr.heap.size wr (wr.alloc (.cells (clP x).toArray 142)) := (Below.refl _ wr).alloc (Nat.le_refl _) _
      have hat := World.alloc_heap_new wr (.cells (clP x).toArray 142)
      go_upto_region 5 with (first
        | ((with_reducible show wpList _ _ _ (Oper.mk _ (Op.load 142 _) _ _ _ _ :: _) _ _); refine wpList_val (v := .agg (clP x).toArray) rfl (run_load_pc rfl rfl hr rfl) ?_)
        | ((with_reducible show wpList _ _ _ (Oper.mk _ (Op.store 142 _ _) _ _ _ _ :: _) _ _); refine pc_store_new (cs := (clP x).toArray) rfl rfl rfl rfl (clP_one x) ?_))
      obtain ⟨bx, hbx⟩ : ∃ b, b = wr.heap.size := ⟨_, rfl⟩
      rw [← hbx] at hat ⊢
      have hBX := hbel.trans (hX.mono hzr)
      clear hr hbx
      generalize wr.alloc (.cells (clP x).toArray 142) = X at *
      have j0 : X.cell? ⟨bx, 0, none⟩ = some (.int .i64 x.p.off) := by rw [cell_of_row _ _ _ _ _ _ hat]; rfl
      have j1 : X.cell? ⟨bx, 1, none⟩ = some (.bool x.p.more) := by rw [cell_of_row _ _ _ _ _ _ hat]; rfl
      have j2 : X.cell? ⟨bx, 2, none⟩ = some (.slice x.A x.p.b.length x.c) := by rw [cell_of_row _ _ _ _ _ _ hat]; rfl
      clear hX hat kx0 kx1 kx2 kc
      have e8 : wrap64 (a + (b.length : Int)) = a + (b.length : Int) := by unfold wrap64; omega
      have e9 : wrap64 (x.p.off + (x.p.b.length : Int)) = x.p.off + (x.p.b.length : Int) := by unfold wrap64; omega
      clear j1 ok3
      by_cases h1 : 0 < x.p.b.length
      · skip
        have p1 : decide (0 < (x.p.b.length : Int)) = true := decide_eq_true (by omega)
        have p1' : decide (0 < x.p.b.length) = true := decide_eq_true (by omega)
        by_cases h2 : 0 < b.length
        · skip
          have p2 : decide (0 < (b.length : Int)) = true := decide_eq_true (by omega)
          have p2' : decide (0 < b.length) = true := decide_eq_true (by omega)
          by_cases h3 : x.p.off < a + (b.length : Int)
          · skip
            have p3 : decide (x.p.off < a + (b.length : Int)) = true := decide_eq_true (by omega)
            by_cases h4 : a < x.p.off + (x.p.b.length : Int)
            · skip
              have p4 : decide (a < x.p.off + (x.p.b.length : Int)) = true := decide_eq_true (by omega)
              have hcv : sharing x.p ⟨a, m0, b⟩ = true := sharing_iff.2 (by simp only [Pc.stop, Pc.len]; omega)
              clear h1 h2 h3 h4
              go_wp2
              go_ret
              exact ⟨by rw [HE.out, HXD.out, shares_cons, hcv]; rfl, hBX⟩
            · skip
              have p4 : decide (a < x.p.off + (x.p.b.length : Int)) = false := decide_eq_false (by omega)
              by_cases h5 : x.p.off = a
              · skip
                have hcv : sharing x.p ⟨a, m0, b⟩ = false := Bool.eq_false_iff.2 (fun h => by have h := sharing_iff.1 h; simp only [Pc.stop, Pc.len] at h; omega)
                have p5 : (x.p.off == a) = true := beq_iff_eq.2 h5
                have p6 : ((x.p.b.length : Int) == 0) = false := beq_eq_false_iff_ne.2 (by omega)
                have p6' : (x.p.b.length == 0) = false := beq_eq_false_iff_ne.2 (by omega)
                clear h1 h2 h3 h4 h5
                go_wp2
                go_roundw
                case rel => exact ⟨k + 1, by omega, by simp, Lib.hid (by rw [HE.out, HXD.out, shares_cons, hcv]; rfl), hBX⟩
                case measure => simp [intOf]; omega
              · skip
                have hcv : sharing x.p ⟨a, m0, b⟩ = false := Bool.eq_false_iff.2 (fun h => by have h := sharing_iff.1 h; simp only [Pc.stop, Pc.len] at h; omega)
                have p5 : (x.p.off == a) = false := beq_eq_false_iff_ne.2 h5
                clear h1 h2 h3 h4 h5
                go_wp2
                go_roundw
                case rel => exact ⟨k + 1, by omega, by simp, Lib.hid (by rw [HE.out, HXD.out, shares_cons, hcv]; rfl), hBX⟩
                case measure => simp [intOf]; omega
          · skip
            have p3 : decide (x.p.off < a + (b.length : Int)) = false := decide_eq_false (by omega)
            by_cases h5 : x.p.off = a
            · skip
              have hcv : sharing x.p ⟨a, m0, b⟩ = false := Bool.eq_false_iff.2 (fun h => by have h := sharing_iff.1 h; simp only [Pc.stop, Pc.len] at h; omega)
              have p5 : (x.p.off == a) = true := beq_iff_eq.2 h5
              have p6 : ((x.p.b.length : Int) == 0) = false := beq_eq_false_iff_ne.2 (by omega)
              have p6' : (x.p.b.length == 0) = false := beq_eq_false_iff_ne.2 (by omega)
              clear h1 h2 h3 h5
              go_wp2
              go_roundw
              case rel => exact ⟨k + 1, by omega, by simp, Lib.hid (by rw [HE.out, HXD.out, shares_cons, hcv]; rfl), hBX⟩
              case measure => simp [intOf]; omega
            · skip
              have hcv : sharing x.p ⟨a, m0, b⟩ = false := Bool.eq_false_iff.2 (fun h => by have h := sharing_iff.1 h; simp only [Pc.stop, Pc.len] at h; omega)
              have p5 : (x.p.off == a) = false := beq_eq_false_iff_ne.2 h5
              clear h1 h2 h3 h5
              go_wp2
              go_roundw
              case rel => exact ⟨k + 1, by omega, by simp, Lib.hid (by rw [HE.out, HXD.out, shares_cons, hcv]; rfl), hBX⟩
              case measure => simp [intOf]; omega
        · skip
          have p2 : decide (0 < (b.length : Int)) = false := decide_eq_false (by omega)
          have p2' : decide (0 < b.length) = false := decide_eq_false (by omega)
          by_cases h5 : x.p.off = a
          · skip
            have hcv : sharing x.p ⟨a, m0, b⟩ = false := Bool.eq_false_iff.2 (fun h => by have h := sharing_iff.1 h; simp only [Pc.stop, Pc.len] at h; omega)
            have p5 : (x.p.off == a) = true := beq_iff_eq.2 h5
            have p6 : ((x.p.b.length : Int) == 0) = false := beq_eq_false_iff_ne.2 (by omega)
            have p6' : (x.p.b.length == 0) = false := beq_eq_false_iff_ne.2 (by omega)
            clear h1 h2 h5
            go_wp2
            go_roundw
            case rel => exact ⟨k + 1, by omega, by simp, Lib.hid (by rw [HE.out, HXD.out, shares_cons, hcv]; rfl), hBX⟩
            case measure => simp [intOf]; omega
          · skip
            have hcv : sharing x.p ⟨a, m0, b⟩ = false := Bool.eq_false_iff.2 (fun h => by have h := sharing_iff.1 h; simp only [Pc.stop, Pc.len] at h; omega)
            have p5 : (x.p.off == a) = false := beq_eq_false_iff_ne.2 h5
            clear h1 h2 h5
            go_wp2
            go_roundw
            case rel => exact ⟨k + 1, by omega, by simp, Lib.hid (by rw [HE.out, HXD.out, shares_cons, hcv]; rfl), hBX⟩
            case measure => simp [intOf]; omega
      · skip
        have p1 : decide (0 < (x.p.b.length : Int)) = false := decide_eq_false (by omega)
        have p1' : decide (0 < x.p.b.length) = false := decide_eq_false (by omega)
        have p6 : ((x.p.b.length : Int) == 0) = true := beq_iff_eq.2 (by omega)
        have p6' : (x.p.b.length == 0) = true := beq_iff_eq.2 (by omega)
        by_cases h5 : x.p.off = a
        · skip
          have p5 : (x.p.off == a) = true := beq_iff_eq.2 h5
          by_cases h7 : b.length = 0
          · skip
            have hcv : sharing x.p ⟨a, m0, b⟩ = true := sharing_iff.2 (by simp only [Pc.stop, Pc.len]; omega)
            have p7 : ((b.length : Int) == 0) = true := beq_iff_eq.2 (by omega)
            have p7' : (b.length == 0) = true := beq_iff_eq.2 (by omega)
            clear h1 h5 h7
            go_wp2
            go_ret
            exact ⟨by rw [HE.out, HXD.out, shares_cons, hcv]; rfl, hBX⟩
          · skip
            have hcv : sharing x.p ⟨a, m0, b⟩ = false := Bool.eq_false_iff.2 (fun h => by have h := sharing_iff.1 h; simp only [Pc.stop, Pc.len] at h; omega)
            have p7 : ((b.length : Int) == 0) = false := beq_eq_false_iff_ne.2 (by omega)
            have p7' : (b.length == 0) = false := beq_eq_false_iff_ne.2 (by omega)
            clear h1 h5 h7
            go_wp2
            go_roundw
            case rel => exact ⟨k + 1, by omega, by simp, Lib.hid (by rw [HE.out, HXD.out, shares_cons, hcv]; rfl), hBX⟩
            case measure => simp [intOf]; omega
        · skip
          have hcv : sharing x.p ⟨a, m0, b⟩ = false := Bool.eq_false_iff.2 (fun h => by have h := sharing_iff.1 h; simp only [Pc.stop, Pc.len] at h; omega)
          have p5 : (x.p.off == a) = false := beq_eq_false_iff_ne.2 h5
          clear h1 h5
          go_wp2
          go_roundw
          case rel => exact ⟨k + 1, by omega, by simp, Lib.hid (by rw [HE.out, HXD.out, shares_cons, hcv]; rfl), hBX⟩
          case measure => simp [intOf]; omega
    · obtain rfl : n = k := by omega
      go_wp2
      go_ret
      exact ⟨by rw [HE.out, List.drop_eq_nil_of_le (by rw [HL.out, piE, List.length_map, ← HN.out]; exact Nat.le_refl _)]; rfl, hbel⟩
end Go.Proofs.Ytghbliabmecbcaa
