/-
  Contracts and lemmas on which the proofs of this seat stand (several texts in one). Conditions are each theorem's own.
-/
import Derived.Test.YtpoigngpdcmipaaGreatMb2
import Derived.OrdersHeld
import Derived.OrdersIn
import Derived.TacticsIn
import Derived.OwnWalkIn
import Derived.Maps.RangeWalk
import Derived.RangeFuncSeq
import Derived.Test.YtpoigngpdcmipaaGreatMb8
import Derived.Test.YtpoigngpdcmipaaGreatMb5
import Derived.Test.YtpoigngpdcmipaaGreatMb7
import Derived.Sort.CutIn
import Derived.Test.YtpoigngpdcmipaaGreatMb4
namespace Go.Proofs.YtpoigngpdcmipaaGreat
open Go.RowKit
section
variable {n : Nat} {P : Program} {ops : Array Oper} {Q : Exit → Act → World → Prop} {md : Region.Mode} {S : World → Prop}
def anyHI (n : Nat) (P : Program) (md : Region.Mode) (ops : Array Oper) (Q : Exit → Act → World → Prop) (S : World → Prop) : Nat → Array Bool → Act → World → Prop
  | 0, listed, a, w => Region.ready md ops listed = [] ∧ Q .normal a w
  | fuel + 1, listed, a, w => (Region.ready md ops listed = [] → Q .normal a w) ∧
    ∀ i ∈ Region.ready md ops listed, wpOpIn Fence.wide n P ops Q i (fun a' w' => S w' ∧ anyHI n P md ops Q S fuel (listed.setIfInBounds i true) a' w') a w
theorem any_of_HI : ∀ (fuel : Nat) (listed : Array Bool) (a : Act) (w : World), anyHI n P md ops Q S fuel listed a w → wpAnyIn Fence.wide n P md ops Q fuel listed a w
  | 0, _, _, _, h => h
  | fuel + 1, _, _, _, h => ⟨h.1, fun i hi => wpOpIn_mono (fun a' w' h' => any_of_HI fuel _ a' w' h'.2) (h.2 i hi)⟩
theorem opI_here {i : Nat} {o : Oper} {v : Value} {a : Act} {w : World} {K : Act → World → Prop} (hi : ops[i]? = some o) (hy : YieldsIf P ops S o v a) (hS : S w) (h : K (a.put o.dst v) w) : wpOpIn Fence.wide n P ops Q i K a w := by
  unfold wpOpIn
  simp only [hi]
  rcases hy with ⟨hw, hv⟩ | ⟨hw, rfl⟩
  · rw [if_pos hw]
    refine ⟨fun _ _ => trivial, ?_⟩
    rw [show Fence.wide.round = none from rfl, Oper.semAt_none, hv w hS]
    exact h
  · rw [if_neg (by rw [hw]; decide)]
    exact ⟨fun _ _ => trivial, h⟩
theorem opI_swap {j : Nat} {oi oj : Oper} {v : Value} (hj : ops[j]? = some oj) (hap : oi.apart ops oj = true) (hsi : ∀ cs b, oi.op ≠ .select cs b) (hsj : ∀ cs b, oj.op ≠ .select cs b)
    (hQ : ∀ c a w, Q (.panic c) (a.put oi.dst v) w → Q (.panic c) a w) {K : Act → World → Prop} {a : Act} {w : World} (hy : YieldsIf P ops S oi v a) (h : wpOpIn Fence.wide n P ops Q j K (a.put oi.dst v) w) :
    wpOpIn Fence.wide n P ops Q j (fun a' w' => YieldsIf P ops S oi v a' ∧ K (a'.put oi.dst v) w') a w := by
  obtain ⟨h1, h2, h3⟩ := Oper.apart_spec hap
  have stay : ∀ (b : Act), YieldsIf P ops S oi v b → ∀ u, YieldsIf P ops S oi v (b.put oj.dst u) := fun b hb u => hb.of_same (execOp_put oi hsi b oj.dst u h3) (wanted_put oi b oj.dst u h3)
  unfold wpOpIn at h ⊢
  simp only [hj] at h ⊢
  rw [wanted_put oj a oi.dst v h1] at h
  by_cases hw : Region.wanted oj (yielded ops a.tmps) = true
  · rw [if_pos hw] at h ⊢
    refine ⟨fun _ _ => trivial, ?_⟩
    have h := h.2
    rw [show Fence.wide.round = none from rfl, Oper.semAt_none] at h ⊢
    rw [execOp_put oj hsj a oi.dst v h1] at h
    generalize (execOp a.eval oj).run P w = r at h ⊢
    rcases r with ⟨x, w'⟩ | ⟨x, w'⟩
    · cases x with
      | value u => exact ⟨stay a hy u, by rw [← Act.put_comm a v u h2]; exact h⟩
      | skip => exact ⟨stay a hy _, by rw [← Act.put_comm a v undef h2]; exact h⟩
      | defer d => exact ⟨stay { a with defers := d :: a.defers } (hy.of_same rfl rfl) _, by rw [← Act.put_comm _ v undef h2, ← Act.put_defers]; exact h⟩
      | enter f args =>
        refine ⟨h.1, CallsIn.mono h.2 fun e w'' he => ?_⟩
        cases e with
        | returned u => exact ⟨stay a hy u, by rw [← Act.put_comm a v u h2]; exact he⟩
        | panicked c => exact hQ _ _ _ he
        | outgrown => exact he
      | row r args => exact ⟨h.1, RowsIn.mono h.2 fun u w'' he => ⟨stay a hy u, by rw [← Act.put_comm a v u h2]; exact he⟩⟩
      | round l f tmps assign body =>
        refine ⟨h.1, RoundIn.mono h.2 fun e w'' he => ?_⟩
        cases e with
        | returned u => exact ⟨stay a hy u, by rw [← Act.put_comm a v u h2]; exact he⟩
        | panicked c => exact hQ _ _ _ he
        | outgrown => exact he
      | _ => exact h
    · cases x with
      | panic u => exact hQ _ _ _ h
      | _ => exact h
  · rw [if_neg hw] at h ⊢
    exact ⟨fun _ _ => trivial, stay a hy _, by rw [← Act.put_comm a v undef h2]; exact h.2⟩
theorem takeI_all {i : Nat} {oi : Oper} {v : Value} (hi : ops[i]? = some oi) (hsel : ∀ (j : Nat) (o : Oper) cs b, ops[j]? = some o → o.op ≠ .select cs b) (hQ : ∀ c a w, Q (.panic c) (a.put oi.dst v) w → Q (.panic c) a w) :
    ∀ (fuel : Nat) (listed : Array Bool) (a : Act) (w : World), (∀ j oj, ops[j]? = some oj → j ≠ i → listed.getD j true = false → (∀ e ∈ oj.after, Region.binds md e = true → e.on ≠ i) → oi.apart ops oj = true) →
      i ∈ Region.ready md ops listed → YieldsIf P ops S oi v a → S w → anyHI n P md ops Q S fuel (listed.setIfInBounds i true) (a.put oi.dst v) w → anyHI n P md ops Q S (fuel + 1) listed a w
  | fuel, listed, a, w, free, hr, hy, hS, H => by
    refine ⟨fun h => (by rw [h] at hr; cases hr), fun j hj => ?_⟩
    by_cases hji : j = i
    · subst hji; exact opI_here hi hy hS ⟨hS, H⟩
    have hj' := ready_mono hj hji
    cases fuel with
    | zero => rw [H.1] at hj'; cases hj'
    | succ fuel =>
      obtain ⟨hjun, oj, hoj, hall⟩ := mem_ready.1 hj
      have hnot : ∀ e ∈ oj.after, Region.binds md e = true → e.on ≠ i := fun e he hb heq => by
        have g1 := hall e he hb
        have g0 := (mem_ready.1 hr).1
        rw [heq] at g1
        rcases Nat.lt_or_ge i listed.size with h' | h'
        · simp [h'] at g0 g1; rw [g0] at g1; cases g1
        · simp [Array.getElem?_eq_none h'] at g1
      refine wpOpIn_mono (fun a' w' h3 => ⟨h3.2.1, takeI_all hi hsel hQ fuel (listed.setIfInBounds j true) a' w' (fun k ok hk hki hun hno => free k ok hk hki ?_ hno) (ready_mono hr (Ne.symm hji)) h3.1 h3.2.1 (by rw [Array.setIfInBounds_comm _ _ hji]; exact h3.2.2)⟩)
        (opI_swap hoj (free j oj hoj hji hjun hnot) (fun cs b => hsel i oi cs b hi) (fun cs b => hsel j oj cs b hoj) hQ hy (H.2 j hj'))
      by_cases hjk : j = k
      · subst hjk; exact hjun
      · rw [getD_set_ne true hjk] at hun; exact hun
theorem pureI {i : Nat} {oi : Oper} {v : Value} {fuel : Nat} {listed : Array Bool} {a : Act} {w : World} (hi : ops[i]? = some oi) (hs : Region.noSelect ops = true) (hf : Region.free md ops listed i = true) (hr : (Region.ready md ops listed).contains i = true)
    (hQ : ∀ c a w, Q (.panic c) (a.put oi.dst v) w → Q (.panic c) a w) (hw : Region.wanted oi (yielded ops a.tmps) = true) (hrun : ∀ w, S w → (execOp a.eval oi).run P w = .ok (.value v) w) (hS : S w)
    (h : S w → anyHI n P md ops Q S fuel (listed.setIfInBounds i true) (a.put oi.dst v) w) : anyHI n P md ops Q S (fuel + 1) listed a w :=
  takeI_all hi (Region.noSelect_spec hs) hQ fuel listed a w (Region.free_spec hi hf) (by simpa using hr) (.inl ⟨hw, hrun⟩) hS (h hS)
theorem oneI {i : Nat} {oi : Oper} {fuel : Nat} {listed : Array Bool} {a : Act} {w : World} (hr : Region.ready md ops listed = [i]) (hi : ops[i]? = some oi) (hw : Region.wanted oi (yielded ops a.tmps) = true)
    (h : ∀ K : Act → World → Prop, (∀ a w, S w → (S w → anyHI n P md ops Q S fuel (listed.setIfInBounds i true) a w) → K a w) → oi.wpIn Fence.wide n P a w K Q) : anyHI n P md ops Q S (fuel + 1) listed a w := by
  refine ⟨fun h0 => (by rw [hr] at h0; cases h0), fun j hj => ?_⟩
  rw [hr, List.mem_singleton] at hj
  subst hj
  unfold wpOpIn
  simp only [hi]
  rw [if_pos hw]
  exact h _ (fun a w hS hW => ⟨hS, hW hS⟩)
theorem doneI {listed : Array Bool} {a : Act} {w : World} (hr : Region.ready md ops listed = []) (h : Q .normal a w) : ∀ fuel, anyHI n P md ops Q S fuel listed a w
  | 0 => ⟨hr, h⟩
  | _ + 1 => ⟨fun _ => h, by rw [hr]; simp⟩
theorem regionI {id : Nat} {a : Act} {w : World} (hm : P.follows .mixedOrders = true) (hS : S w.drew) (h : S w.drew → anyHI n P .any ops Q S ops.size (Array.replicate ops.size false) a w.drew) : (Code.region id ops true).wpIn Fence.wide n P Q a w :=
  wpIn_region_any hm (any_of_HI _ _ _ _ (h hS))
theorem callI {o : Oper} {a : Act} {w : World} {K : Act → World → Prop} {f : FuncId} {args : Array Value} (hrun : (execOp a.eval o).run P w = .ok (.enter f args) w) (h : Calls P f args w fun e w' => ∃ v, e = .returned v ∧ K (a.put o.dst v) w') : o.wpIn Fence.wide n P a w K Q := by
  refine ⟨fun _ _ => trivial, ?_⟩
  rw [show Fence.wide.round = none from rfl, Oper.semAt_none, hrun]
  exact ⟨fun h => (by cases h), (callsIn_wide.2 h).mono fun e w' he => by obtain ⟨v, rfl, hk⟩ := he; exact hk⟩
theorem yieldI {o : Oper} {a : Act} {w : World} {K : Act → World → Prop} {l : Nat} {args : Array Value} {R : Ending → World → Prop} (hrun : (execOp a.eval o).run P w = (Instr.yield l args).run P w) (hY : YieldAt Fence.wide (n - 1) P l args w R)
    (h : ∀ e w', R e w' → ∃ v, e = .returned v ∧ K (a.put o.dst v) w') : o.wpIn Fence.wide n P a w K Q := by
  obtain ⟨fn, tmps, assign, body, hy, hR⟩ := hY
  refine ⟨fun _ _ => trivial, ?_⟩
  rw [show Fence.wide.round = none from rfl, Oper.semAt_none, hrun, hy]
  exact ⟨fun h => (by cases h), hR.mono fun e w' he => by obtain ⟨v, rfl, hk⟩ := h e w' he; exact hk⟩
end
def StaysAt {β : Type} (T : TypeId) (B : Nat) (J : β → World → Prop) : Prop :=
  ∀ s W W' row, J s W → W.grownBy W' row → (∀ k, row = some k → (B ≤ k ∧ ∃ o : Obj, W.heap[k]? = some o ∧ o.isWalk = true) ∨ (k = B ∧ ∃ cs, W.heap[k]? = some (.cells cs T (0, 0)))) → J s W'
def SeqAll {α : Type} (m : Nat) (P : Program) (T : TypeId) (g : Nat) (lb : Array Value) (encs : α → Array Value) (G : List α → α → World → Prop) (Kp : World → World → Prop) (S : List α → Prop) (w : World) : Prop :=
  ∀ (l : Nat) (J : List α → World → Prop) (W : World), Below w.heap.size w W → StaysAt T W.heap.size J →
    (∀ pre x X, J pre X → G pre x X → W.heap.size < X.heap.size → YieldAt Fence.wide (m - 1) P l (encs x) X fun e Y => e = .returned (.bool true) ∧ J (pre ++ [x]) Y ∧ Kp X Y) →
    J [] W →
    CallsIn Fence.wide m P g (#[.func (.yield l) #[] #[]] ++ lb) W fun e Y => (∃ v, e = .returned v) ∧ ∃ xs, S xs ∧ J xs Y
theorem range_all {α : Type} {n : Nat} {P : Program} {T : TypeId} {g : Operand} {ps : Array Tmp} {assign body : Code} {Q : Exit → Act → World → Prop} {a : Act} {w : World} (h1 : 1 ≤ n)
    {gf : Nat} {lb : Array Value} (hg : a.eval g = .func (.func gf) #[] lb) (eg : ∀ args w, (callFunc gf args).run P w = .ok (.enter gf args) w)
    {encs : α → Array Value} {G : List α → α → World → Prop} {Kp : World → World → Prop} {S : List α → Prop} {w0 : World} (hseq : SeqAll (n - 1) P T gf lb encs G Kp S w0)
    (hKt : ∀ {A B C : World}, Kp A B → Kp B C → Kp A C) (hKb : ∀ (W : World) (l : Nat) (r r' : Loop), w.heap.size ≤ l → W.heap[l]? = some (.loop r) → Kp W (W.putObj l (.loop r')))
    (hb0 : Below w0.heap.size w0 w) (hps : ∀ x, (encs x).size = ps.size)
    (hG : ∀ (pre : List α) (x : α) (W : World) (l : Nat) (r r' : Loop), G pre x W → w.heap.size ≤ l → W.heap[l]? = some (.loop r) → G pre x (W.putObj l (.loop r')))
    (I : List α → World → Prop) (hI : OwnFrom w.heap.size I) (hI2 : ∀ s W W' k cs, I s W → W.grownBy W' (some k) → k = w.heap.size + 2 → W.heap[k]? = some (.cells cs T (0, 0)) → I s W') (h0 : I [] w) (a₁ : α → World → Act) (asg : α → World → World) (hag : ∀ (x : α) (W : World), W.grownBy (asg x W) none) (hGa : ∀ pre x W, G pre x W → G pre x (asg x W)) (hKa : ∀ (x : α) (W : World), w.heap.size ≤ W.heap.size → Kp W (asg x W))
    (hassign : ∀ (l : Nat) (x : α) (W : World) (K : Act → World → Prop), K (a₁ x W) (asg x W) →
      assign.wpIn (Fence.wide.inRound l) (n - 1 - 1) P (Exit.then K (fun _ _ _ => False)) { tmps := (ps.zip (encs x)).foldl (fun t (p, v) => t.setIfInBounds p v) a.tmps, defers := [] } W)
    (hbody : ∀ (l : Nat) (pre : List α) (x : α) (V W : World), I pre W → G pre x W → w.heap.size + 2 < W.heap.size → (∃ r, W = (asg x V).putObj l (.loop r)) → l < V.heap.size → body.wpIn (Fence.wide.inRound l) (n - 1 - 1) P (ownPostG w.heap.size Kp I (fun _ _ _ => False) (pre ++ [x]) W) (a₁ x V) W)
    (hdone : ∀ (D : Nat) (xs : List α) (W : World), w.heap.size ≤ D → S xs → I xs W → W.heap[D]? = some (.deferred (some [])) → Q .normal { a with defers := { target := .collected D, args := #[] } :: a.defers } W) :
    (Code.rangeFunc g ps assign body).wpIn Fence.wide n P Q a w := by
  refine wpIn_rangeFunc fun fn _ => ?_
  have t1 := Two.first w (recd fn a ps assign body w.heap.size .ready none)
  have b1 : Below w0.heap.size w0 ((w.alloc (.deferred (some []))).alloc (.loop (recd fn a ps assign body w.heap.size .ready none))) := (hb0.alloc hb0.size _).alloc (by have := hb0.size; simp; omega) _
  have i1 : I [] ((w.alloc (.deferred (some []))).alloc (.loop (recd fn a ps assign body w.heap.size .ready none))) := hI.alloc _ (hI.alloc _ h0)
  have z1 : ((w.alloc (.deferred (some []))).alloc (.loop (recd fn a ps assign body w.heap.size .ready none))).heap.size = w.heap.size + 2 := by simp
  obtain ⟨W1, hW1⟩ : ∃ W1, W1 = (w.alloc (.deferred (some []))).alloc (.loop (recd fn a ps assign body w.heap.size .ready none)) := ⟨_, rfl⟩
  rw [← hW1] at t1 b1 i1 z1
  refine ⟨w.heap.size + 1, [{ target := .collected w.heap.size, args := #[] }], W1, { target := .fn (.func gf) lb, args := #[.func (.yield (w.heap.size + 1)) #[] #[]] }, W1, gf, #[.func (.yield (w.heap.size + 1)) #[] #[]] ++ lb, W1,
    ?_, ?_, fun _ _ => trivial, ?_, fun _ => h1, ?_⟩
  · rw [hW1]; exact run_enterLoop_outer fn a.tmps ps assign body
  · simp only [resolve, hg]; simp [go_sem]
  · simp [invoke, go_sem, eg]
  · refine (hseq (w.heap.size + 1) (fun pre W => I pre W ∧ Two W w.heap.size (recd fn a ps assign body w.heap.size .ready none)) _ b1 ?_ ?_ ⟨i1, t1⟩).mono ?_
    · rintro s A B row ⟨hi, ht⟩ hgr hr
      cases row with
      | none => exact ⟨hI s A B none hi hgr (fun r e => by cases e), ht.abides hgr (fun r e => by cases e)⟩
      | some k =>
        rcases hr k rfl with ⟨hk, o, ho, hw⟩ | ⟨hk, cs, ho⟩
        · exact ⟨hI s A B _ hi hgr (fun r e => by cases e; exact ⟨by omega, o, ho, Obj.not_cells_of_walk hw⟩), ht.abides hgr (fun r e => by cases e; exact ⟨o, ho, hw⟩)⟩
        · refine ⟨hI2 s A B k cs hi hgr (by omega) ho, ⟨(hgr.block _ (heap_lt ht.calls) (fun e => ?_)).trans ht.calls, (hgr.block _ (heap_lt ht.rec_) (fun e => ?_)).trans ht.rec_⟩⟩
          · injection e with e; rw [← e, ht.calls] at ho; cases ho
          · injection e with e; rw [← e, ht.rec_] at ho; cases ho
    · rintro pre x X ⟨hi, ht⟩ hgx hzX
      have ha := ht.abides (hag x X) (fun r e => by cases e)
      have hia := hI pre X _ none hi (hag x X) (fun r e => by cases e)
      have hza := (hag x X).size
      refine ⟨fn, _, assign, body, run_yield ht.rec_ (hps x), roundIn_of_wpIn trivial (hassign _ x X _ ⟨_, run_beginRound ha.rec_ rfl, ?_⟩)⟩
      have hbu := ha.turn (recd fn a ps assign body w.heap.size .busy none)
      have hk0 : Kp X ((asg x X).putObj (w.heap.size + 1) (.loop (recd fn a ps assign body w.heap.size .busy none))) := hKt (hKa x X (by have := heap_lt ht.rec_; omega)) (hKb _ _ _ _ (by omega) ha.rec_)
      refine wpIn_mono (hbody _ pre x X _ (hI.putObj _ hia (by omega) ha.rec_ rfl) (hG pre x _ _ _ _ (hGa pre x X hgx) (by omega) ha.rec_) (by simp; omega) ⟨_, rfl⟩ (heap_lt ht.rec_)) (fun e b Y hp => ?_)
      cases e with
      | normal =>
        have ht2 := hbu.keeps hp.1
        exact ⟨_, _, run_endRound none ht2.rec_, rfl, ⟨hI.putObj _ hp.2.2 (by omega) ht2.rec_ rfl, ht2.turn _⟩, hKt (hKt hk0 hp.2.1) (hKb _ _ _ _ (by omega) ht2.rec_)⟩
      | ret => exact hp.2.elim
      | exit id => exact hp.2.elim
      | goto t => exact hp.2.elim
      | panic c => exact hp.elim
      | outgrown => exact hp.elim
    · rintro e Y ⟨⟨v, rfl⟩, xs, hs, hi, ht⟩
      exact ⟨none, _, run_endLoop ht.rec_ (by simp [recd]), hdone _ xs _ (Nat.le_refl _) hs (hI.putObj _ hi (by omega) ht.rec_ rfl) (ht.turn _).calls⟩
theorem range_box {α : Type} {n : Nat} {P : Program} {T : TypeId} {g : Operand} {ps : Array Tmp} {assign body : Code} {Q : Exit → Act → World → Prop} {a : Act} {w : World} (h1 : 1 ≤ n) (d : Tmp) (T' : TypeId)
    {gf : Nat} {lb : Array Value} (hg : a.eval g = .func (.func gf) #[] lb) (eg : ∀ args w, (callFunc gf args).run P w = .ok (.enter gf args) w)
    {encs : α → Array Value} {cells : α → Array Value} {G : List α → α → World → Prop} {Kp : World → World → Prop} {S : List α → Prop} {w0 : World} (hseq : SeqAll (n - 1) P T gf lb encs G Kp S w0)
    (hKt : ∀ {A B C : World}, Kp A B → Kp B C → Kp A C) (hKb : ∀ (W : World) (l : Nat) (r r' : Loop), w.heap.size ≤ l → W.heap[l]? = some (.loop r) → Kp W (W.putObj l (.loop r')))
    (hb0 : Below w0.heap.size w0 w) (hps : ∀ x, (encs x).size = ps.size)
    (hG : ∀ (pre : List α) (x : α) (W : World) (l : Nat) (r r' : Loop), G pre x W → w.heap.size ≤ l → W.heap[l]? = some (.loop r) → G pre x (W.putObj l (.loop r')))
    (I : List α → World → Prop) (hI : OwnFrom w.heap.size I) (hI2 : ∀ s W W' k cs, I s W → W.grownBy W' (some k) → k = w.heap.size + 2 → W.heap[k]? = some (.cells cs T (0, 0)) → I s W') (h0 : I [] w)
    (hGa : ∀ pre x W o, G pre x W → G pre x (W.alloc o)) (hKa : ∀ (W : World) o, w.heap.size ≤ W.heap.size → Kp W (W.alloc o))
    (hassign : ∀ (l : Nat) (x : α) (W : World) (K : Act → World → Prop), K ((({ tmps := (ps.zip (encs x)).foldl (fun t (p, v) => t.setIfInBounds p v) a.tmps, defers := [] } : Act).put (some d) (.pointer (some ⟨W.heap.size, 0, none⟩))).put none undef) (W.alloc (.cells (cells x) T')) →
      assign.wpIn (Fence.wide.inRound l) (n - 1 - 1) P (Exit.then K (fun _ _ _ => False)) { tmps := (ps.zip (encs x)).foldl (fun t (p, v) => t.setIfInBounds p v) a.tmps, defers := [] } W)
    (hbody : ∀ (l : Nat) (pre : List α) (x : α) (b : Nat) (W : World), I pre W → G pre x W → w.heap.size + 2 < W.heap.size → W.heap[b]? = some (.cells (cells x) T' (0, 0)) → body.wpIn (Fence.wide.inRound l) (n - 1 - 1) P (ownPostG w.heap.size Kp I (fun _ _ _ => False) (pre ++ [x]) W)
      ((({ tmps := (ps.zip (encs x)).foldl (fun t (p, v) => t.setIfInBounds p v) a.tmps, defers := [] } : Act).put (some d) (.pointer (some ⟨b, 0, none⟩))).put none undef) W)
    (hdone : ∀ (D : Nat) (xs : List α) (W : World), w.heap.size ≤ D → S xs → I xs W → W.heap[D]? = some (.deferred (some [])) → Q .normal { a with defers := { target := .collected D, args := #[] } :: a.defers } W) :
    (Code.rangeFunc g ps assign body).wpIn Fence.wide n P Q a w :=
  range_all h1 hg eg hseq hKt hKb hb0 hps hG I hI hI2 h0
    (fun x W => (({ tmps := (ps.zip (encs x)).foldl (fun t (p, v) => t.setIfInBounds p v) a.tmps, defers := [] } : Act).put (some d) (.pointer (some ⟨W.heap.size, 0, none⟩))).put none undef) (fun x W => W.alloc (.cells (cells x) T'))
    (fun x W => World.grownBy_alloc W _ none) (fun pre x W h => hGa pre x W _ h) (fun x W hz => hKa W _ hz) hassign
    (fun l pre x V W hi hg hz hW hl => hbody l pre x V.heap.size W hi hg hz (by
      obtain ⟨r, rfl⟩ := hW
      rw [World.putObj_heap_other (by omega)]
      exact World.alloc_heap_new V _)) hdone
theorem listR_val {l n : Nat} {P : Program} {ops : Array Oper} {rest : List Oper} {o : Oper} {a : Act} {w : World} {Q : Exit → Act → World → Prop} {v : Value} (hg : o.guard = none) (hd : ∀ c, o.op ≠ .defer c) (hrun : (execOp a.eval o).run P w = .ok (.value v) w)
    (h : wpListIn (Fence.wide.inRound l) n P ops Q rest (a.put o.dst v) w) : wpListIn (Fence.wide.inRound l) n P ops Q (o :: rest) a w :=
  wpListIn_plain hg fun K hK => ⟨fun _ _ => trivial, by rw [Oper.semAt_plain _ _ _ hd, hrun]; exact hK _ _ h⟩
theorem listR_skip {l n : Nat} {P : Program} {ops : Array Oper} {rest : List Oper} {o : Oper} {a : Act} {w w' : World} {Q : Exit → Act → World → Prop} (hg : o.guard = none) (hd : ∀ c, o.op ≠ .defer c) (hrun : (execOp a.eval o).run P w = .ok .skip w')
    (h : wpListIn (Fence.wide.inRound l) n P ops Q rest (a.put o.dst undef) w') : wpListIn (Fence.wide.inRound l) n P ops Q (o :: rest) a w :=
  wpListIn_plain hg fun K hK => ⟨fun _ _ => trivial, by rw [Oper.semAt_plain _ _ _ hd, hrun]; exact hK _ _ h⟩
theorem listR_grow {l n : Nat} {P : Program} {ops : Array Oper} {rest : List Oper} {o : Oper} {a : Act} {w w' : World} {Q : Exit → Act → World → Prop} {v : Value} (hg : o.guard = none) (hd : ∀ c, o.op ≠ .defer c) (hrun : (execOp a.eval o).run P w = .ok (.value v) w')
    (h : wpListIn (Fence.wide.inRound l) n P ops Q rest (a.put o.dst v) w') : wpListIn (Fence.wide.inRound l) n P ops Q (o :: rest) a w :=
  wpListIn_plain hg fun K hK => ⟨fun _ _ => trivial, by rw [Oper.semAt_plain _ _ _ hd, hrun]; exact hK _ _ h⟩
end Go.Proofs.YtpoigngpdcmipaaGreat
namespace Go.Proofs.YtpoigngpdcmipaaGreat
open Go.RowKit Go.Shelf
attribute [local go_sem] Oper.semAt_some
theorem listI_val {n : Nat} {P : Program} {ops : Array Oper} {rest : List Oper} {o : Oper} {a : Act} {w : World} {Q : Exit → Act → World → Prop} {v : Value} (hg : o.guard = none) (hrun : (execOp a.eval o).run P w = .ok (.value v) w)
    (h : wpListIn Fence.wide n P ops Q rest (a.put o.dst v) w) : wpListIn Fence.wide n P ops Q (o :: rest) a w :=
  wpListIn_plain hg fun K hK => ⟨fun _ _ => trivial, by rw [show Fence.wide.round = none from rfl, Oper.semAt_none, hrun]; exact hK _ _ h⟩
theorem listI_skip {n : Nat} {P : Program} {ops : Array Oper} {rest : List Oper} {o : Oper} {a : Act} {w w' : World} {Q : Exit → Act → World → Prop} (hg : o.guard = none) (hrun : (execOp a.eval o).run P w = .ok .skip w')
    (h : wpListIn Fence.wide n P ops Q rest (a.put o.dst undef) w') : wpListIn Fence.wide n P ops Q (o :: rest) a w :=
  wpListIn_plain hg fun K hK => ⟨fun _ _ => trivial, by rw [show Fence.wide.round = none from rfl, Oper.semAt_none, hrun]; exact hK _ _ h⟩
def G4 (L : List P4) (base : Nat) (pre : List X4) (x : X4) (W : World) : Prop := (∃ more, L = pre.map (·.q) ++ x.q :: more) ∧ Own4 W base x
end Go.Proofs.YtpoigngpdcmipaaGreat
namespace Go.Proofs.YtpoigngpdcmipaaGreat
open Go.RowKit Go.Shelf
attribute [local go_sem] Oper.semAt_some
theorem run_storeF {o : Oper} {a : Act} {w : World} {x y : Operand} {g : Nat} {t : TypeId} {cs old : Array Value} (ho : o.op = .store 42 x y) (hx : a.eval x = .pointer (some ⟨g, 0, none⟩)) (hy : a.eval y = .agg cs) (hg : w.heap[g]? = some (.cells old t (0, 0))) (hz : old.size = 4) (hl : cs.size = 4) (h1 : cs.all (·.oneCell') = true) :
    (execOp a.eval o).run Tryz.prog w = .ok .skip (w.setRow g cs) := by
  have hst := run_storeVar_row (P := Tryz.prog) w g t 42 old cs hg (by rw [hl]; kernel_rfl) (by rw [hz, hl]) h1
  unfold execOp
  simp only [ho, hx, hy, Instr.storeAt, Instr.sureAddr, Sem.run_bind, Sem.run_pure, Result.andThen_ok, hst]
theorem fra_one (f : F6) : (fra f).all (·.oneCell') = true := by simp [fra, Value.oneCell']
theorem own_ltX {w : World} {base e n : Nat} {v : Value} {xs : List Value} (h : w.ownsRow base e 1 v n xs) (hn : 0 < n) : base < w.heap.size := by
  rcases h.2 with ⟨_, h0⟩ | ⟨g, cap, cur, _, hb, hh, _⟩
  · omega
  · exact Nat.lt_of_le_of_lt hb (heap_lt hh)
def Kp6 (B : Nat) (X Y : World) : Prop := KeepS 38 51 37 X Y ∧ KeepP (· < B) X Y
theorem Kp6.refl (B : Nat) (X : World) : Kp6 B X X := ⟨KeepS.refl X, KeepP.refl _ X⟩
theorem Kp6.trans {B : Nat} {X Y Z : World} (h : Kp6 B X Y) (k : Kp6 B Y Z) : Kp6 B X Z := ⟨h.1.trans k.1, h.2.trans k.2⟩
theorem Kp6.of_below {B : Nat} {X Y : World} (h : Below X.heap.size X Y) (hB : B ≤ X.heap.size) : Kp6 B X Y := ⟨KeepS.of_below h, KeepP.of_below h (fun _ hk => Nat.lt_of_lt_of_le hk hB)⟩
theorem Kp6.arg {B : Nat} {X Y : World} {A : Option Addr} {c : Nat} {bs : List UInt8} (k : Kp6 B X Y) (h : Arg X B A c bs) : Arg Y B A c bs := ⟨h.rd.keep (fun _ hp => k.2.cell hp), h.cap, h.none_⟩
def enc6 (x : X6) : Array Value := #[v6v x.q x.A x.c]
def G6 (L : List P6) (base : Nat) (pre : List X6) (x : X6) (W : World) : Prop := (∃ more, L = pre.map (·.q) ++ x.q :: more) ∧ Own6 W base x
def offV (v : Value) : Nat := match v with | .int _ n => n.toNat | _ => 0
set_option maxRecDepth 100000 in
set_option maxHeartbeats 4000000 in
theorem frs6_in (m : Nat) (l Bp Br Bi Bs base B : Nat) (q : P6) (A : Option Addr) (c : Nat) (id mtu : Int) (hcut : Cut6 q id mtu) (h6 : ok6 q) (J : List X6 → World → Prop) (W : World)
    (hD : Arg W B A c q.dat) (hBb : B ≤ base) (hbW : base ≤ W.heap.size) (hp : W.heap[Bp]? = some (.cells (v6a q A c) 38 (0, 0))) (hrb : Boxed W Br 3 (.int .i64 (mtu - 48))) (hib : Boxed W Bi 3 (.int .i64 id)) (hsb : Boxed W Bs 3 (.int .i64 (st6 mtu))) (hJA : StaysAt 38 W.heap.size J)
    (hY : ∀ pre x X, J pre X → G6 (rst6 q id mtu 0) base pre x X → W.heap.size < X.heap.size → YieldAt Fence.wide (m - 1) Tryz.prog l (enc6 x) X fun e Y => e = .returned (.bool true) ∧ J (pre ++ [x]) Y ∧ Kp6 B X Y) (hJ : J [] W) :
    CallsIn Fence.wide m Tryz.prog 68 #[.func (.yield l) #[] #[], .pointer (some ⟨Bp, 0, none⟩), .pointer (some ⟨Br, 0, none⟩), .pointer (some ⟨Bi, 0, none⟩), .pointer (some ⟨Bs, 0, none⟩)] W fun e W' => (∃ v, e = .returned v) ∧ ∃ xs : List X6, xs.map (·.q) = rst6 q id mtu 0 ∧ J xs W' := by
  have hTt : 38 ≠ 51 := nat_ne (by kernel_rfl)
  have hTi : 3 ≠ 51 := nat_ne (by kernel_rfl)
  have hFt : 42 ≠ 51 := nat_ne (by kernel_rfl)
  have hcs : (v6a q A c).size ≤ 37 := Nat.le_of_eq (v6a_size h6)
  have hfc : ∀ f, (fra f).size ≤ 37 := fun f => by simp [fra]
  have hIb : 3 = 38 → 1 ≤ 37 := fun _ => by decide
  obtain ⟨L, hL⟩ : ∃ L, L = rst6 q id mtu 0 := ⟨_, rfl⟩
  rw [← hL] at hY ⊢
  have HL0 := Lib.hid hL
  have HCU := Lib.hid hcut
  obtain ⟨lo, hi, id0, id1, n0, n1, hlen⟩ := hcut
  obtain ⟨R, hR⟩ : ∃ R, R = mtu - 48 := ⟨_, rfl⟩
  have HRR := Lib.hid hR
  have hRb : 1232 ≤ R ∧ R ≤ 65487 := by omega
  rw [← hR] at hrb
  have hst := st6_bd lo
  obtain ⟨z, hz⟩ : ∃ z, z = (st6 mtu).toNat := ⟨_, rfl⟩
  have hzi : st6 mtu = (z : Int) := by omega
  have hzb : 8 ≤ z ∧ (z : Int) ≤ R ∧ z % 8 = 0 := by omega
  rw [hzi] at hsb
  have HZ := Lib.hid hz
  have hcapD := hD.cap
  clear hR hst hz hzi hL lo hi
  refine callsIn_of_wp Tryz.func68 rfl trivial ?_ rfl
  simp only [Tryz.ntmps68, List.size_toArray, List.length_cons, List.length_nil, Nat.reduceAdd, Nat.reduceSub, Array.replicate_succ, Array.replicate_zero, List.push_toArray, List.append_toArray, List.nil_append, List.cons_append]
  gi_wp2
  gi_loopw [6] (fun t wr => ∃ (off : Nat) (pre : List X6), t = .int .i64 (off : Int) ∧ Hid (L = pre.map (·.q) ++ rst6 q id mtu off) ∧ off ≤ q.dat.length ∧ off % 8 = 0 ∧ J pre wr ∧ Kp6 B W wr)
    (fun t _ => q.dat.length - offV t)
  case atStart => exact ⟨0, [], rfl, HL0, Nat.zero_le _, rfl, hJ, Kp6.refl _ _⟩
  case round =>
    obtain ⟨off, pre, rfl, HL, hoff, ho8, hJs, hK⟩ := hrel
    have hJA' : StaysAt 38 W.heap.size J := hJA
    have hpw := hK.1.heap hp hTt hcs
    have hrw := hK.1.box hrb hTi hIb
    have hiw := hK.1.box hib hTi hIb
    have hsw := hK.1.box hsb hTi hIb
    have k36 := (at6_of hpw).dat h6.1 h6.2
    have k2 := (at6_of hpw).next
    have kr := hrw.cell
    have ki := hiw.cell
    have hwz := hK.1.size
    have hDw := hK.arg hD
    by_cases hs : (q.dat.length : Int) - (off : Int) > mtu - 48
    · have HS := Lib.hid hs
      have d1 : decide (R < (q.dat.length : Int) - (off : Int)) = true := by rw [HRR.out]; simpa using hs
      have d2 : decide ((q.dat.length : Int) - (off : Int) > R) = true := by rw [HRR.out]; simpa using hs
      have hzo : off + z ≤ q.dat.length := by have := HRR.out; omega
      have hzlt : off + z < q.dat.length := by have := HRR.out; omega
      clear hs
      obtain ⟨F1, hF1⟩ : ∃ F1, F1 = fh6 q id off true := ⟨_, rfl⟩
      have HF := Lib.hid hF1.symm
      have HOK : Hid (okF F1) := Lib.hid (by rw [hF1]; exact okF_at HCU.out true hoff ho8)
      obtain ⟨DZ, hDZ⟩ : ∃ DZ, DZ = (q.dat.drop off).take z := ⟨_, rfl⟩
      have HDZ : Hid (DZ.length = z) := Lib.hid (by rw [hDZ, List.length_take, List.length_drop]; omega)
      have HRS := Lib.hid (rst6_more (id := id) HCU.out.lo HS.out)
      have HE : Hid (one6 q id off (st6 mtu).toNat true = { q with next := 44, dat := bldF F1 ++ DZ }) := Lib.hid (by rw [hDZ, hF1, HZ.out]; rfl)
      have NXT : Hid (∃ more, L = pre.map (·.q) ++ { q with next := 44, dat := bldF F1 ++ DZ } :: more) := Lib.hid ⟨_, by rw [HL.out, HRS.out, HE.out]⟩
      have HDD := Lib.hid hDZ
      have HW1 : Hid (IntKind.i64.wrap ((off : Int) + (z : Int)) = ((off + z : Nat) : Int)) := Lib.hid (by rw [IntWalk.i64_in _ (by omega)]; omega)
      have hfr : (#[.int .i64 q.next, .int .i64 (off : Int), .int .i64 id, .bool true] : Array Value) = fra F1 := by rw [hF1]; rfl
      clear hDZ hF1
      gi_upto_region 3 with ((with_reducible show wpListIn _ _ _ _ _ (Oper.mk _ (Op.store 42 _ _) _ _ _ _ :: _) _ _); refine listI_skip rfl (run_storeF (cs := fra F1) rfl rfl (by rw [← hfr]; rfl) (World.alloc_heap_new wr _) rfl rfl (fra_one _)) ?_; rw [World.setRow_alloc_new])
      have hfb := World.alloc_heap_new wr (.cells (fra F1) 42)
      have hX : Below wr.heap.size wr (wr.alloc (.cells (fra F1) 42)) := (Below.refl _ wr).alloc (Nat.le_refl _) _
      obtain ⟨w2, hw2⟩ : ∃ w2, w2 = wr.alloc (.cells (fra F1) 42) := ⟨_, rfl⟩
      rw [← hw2] at hfb hX ⊢
      clear hw2
      have hf2 := hfb
      obtain ⟨bf, hbf⟩ : ∃ b, b = wr.heap.size := ⟨_, rfl⟩
      rw [← hbf] at hf2 ⊢
      have hz2 := hX.size
      have hp2 := (hX.block Bp (heap_lt hpw)).trans hpw
      have hs2 := Boxed.below hsw hX (Boxed.lt hsw)
      have hJ2 := hJA' pre wr w2 none hJs (grown_none hX) (fun _ e => by cases e)
      have hK2 := hK.trans (Kp6.of_below hX (by omega))
      have hWw2 : W.heap.size ≤ w2.drew.heap.size := by show W.heap.size ≤ w2.heap.size; omega
      have hbase2 : base ≤ w2.drew.heap.size := by show base ≤ w2.heap.size; omega
      have hDZ2 : Arg w2 w2.heap.size (cutA A c off) (c - off) DZ := by
        have h1 := ((hDw.below (hX.mono (by omega))).more (show B ≤ w2.heap.size by omega)).cut off (off + z) hzo
        rwa [show (q.dat.take (off + z)).drop off = DZ by rw [HDD.out, List.drop_take, Nat.add_sub_cancel_left]] at h1
      clear hfb hbf k36 k2 kr ki hpw hrw hiw hsw hJs hX
      refine regionI (S := fun V => KeepS 38 51 37 w2 V) (by kernel_rfl) (KeepS.of_below (Below.refl _ w2).drew) (fun hS => ?_)
      refine pureI (i := 0) (oi := ⟨some 20, _, _, _, _, _⟩) rfl (by kernel_rfl) (by kernel_rfl) (by kernel_rfl) (fun _ _ _ h => h) (by rfl) (v := ?_) (fun w hSw => ?_) hS (fun hS => ?_)
      rotate_left
      · go_simp; try with_reducible rfl
      try go_frame
      refine pureI (i := 1) (oi := ⟨some 21, _, _, _, _, _⟩) rfl (by kernel_rfl) (by kernel_rfl) (by kernel_rfl) (fun _ _ _ h => h) (by rfl) (fun w hSw => run_load_v6 rfl rfl (at6_of (hSw.heap hp2 hTt hcs)) (v6l_len h6.1 h6.2)) hS (fun hS => ?_)
      try go_frame
      refine pureI (i := 2) (oi := ⟨some 22, _, _, _, _, _⟩) rfl (by kernel_rfl) (by kernel_rfl) (by kernel_rfl) (fun _ _ _ h => h) (by rfl) (fun w hSw => load_frag rfl rfl (atF_of (hSw.heap hf2 hFt (hfc _)))) hS (fun hS => ?_)
      try go_frame
      refine pureI (i := 3) (oi := ⟨some 23, _, _, _, _, _⟩) rfl (by kernel_rfl) (by kernel_rfl) (by kernel_rfl) (fun _ _ _ h => h) (by rfl) (v := ?_) (fun w hSw => ?_) hS (fun hS => ?_)
      rotate_left
      · go_simp; try with_reducible rfl
      try go_frame
      refine pureI (i := 4) (oi := ⟨some 24, _, _, _, _, _⟩) rfl (by kernel_rfl) (by kernel_rfl) (by kernel_rfl) (fun _ _ _ h => h) (by rfl) (fun w hSw => run_load_sl rfl rfl ((at6_of (hSw.heap hp2 hTt hcs)).dat h6.1 h6.2)) hS (fun hS => ?_)
      try go_frame
      refine pureI (i := 5) (oi := ⟨some 25, _, _, _, _, _⟩) rfl (by kernel_rfl) (by kernel_rfl) (by kernel_rfl) (fun _ _ _ h => h) (by rfl) (v := ?_) (fun w hSw => ?_) hS (fun hS => ?_)
      rotate_left
      · go_simp; try with_reducible rfl
      try go_frame
      refine pureI (i := 6) (oi := ⟨some 26, _, _, _, _, _⟩) rfl (by kernel_rfl) (by kernel_rfl) (by kernel_rfl) (fun _ _ _ h => h) (by rfl) (v := ?_) (fun w hSw => ?_) hS (fun hS => ?_)
      rotate_left
      · go_simp; try with_reducible rfl
      try go_frame
      refine pureI (i := 7) (oi := ⟨some 27, _, _, _, _, _⟩) rfl (by kernel_rfl) (by kernel_rfl) (by kernel_rfl) (fun _ _ _ h => h) (by rfl) (fun w hSw => run_load_int rfl rfl (hSw.box hs2 hTi hIb).cell) hS (fun hS => ?_)
      try go_frame
      refine pureI (i := 8) (oi := ⟨some 28, _, _, _, _, _⟩) rfl (by kernel_rfl) (by kernel_rfl) (by kernel_rfl) (fun _ _ _ h => h) (by rfl) (v := .int .i64 ((off + z : Nat) : Int)) (fun w hSw => by go_simp; exact HW1.out) hS (fun hS => ?_)
      try go_frame
      refine pureI (i := 9) (oi := ⟨some 29, _, _, _, _, _⟩) rfl (by kernel_rfl) (by kernel_rfl) (by kernel_rfl) (fun _ _ _ h => h) (by rfl) (fun w hSw => run_cut_lh (l := (off : Int)) (h := ((off + z : Nat) : Int)) rfl rfl rfl rfl (by omega) (by omega) (by omega) (m := z) (by omega)) hS (fun hS => ?_)
      try go_frame
      refine oneI (i := 10) (oi := ⟨some 30, _, _, _, _, _⟩) (by kernel_rfl) rfl (by rfl) (fun K hK => ?_)
      refine callI (f := 69) (args := #[v6v q A c, frv F1, .slice (cutA A c off) z (c - off)]) (by go_simp; try rfl) ?_
      refine (c14fragment q A c F1 (cutA A c off) (c - off) DZ z _ w2.heap.size HDZ h6 HOK.out (hDZ2.below (Below.refl _ w2).drew) (Nat.le_refl _) (by omega)).mono ?_
      rintro e w6 ⟨P, p, rfl, own6, x6⟩
      refine ⟨_, rfl, hK _ _ (hS.trans (KeepS.of_below x6)) (fun hS => ?_)⟩
      clear hK K
      try go_frame
      refine oneI (i := 11) (oi := ⟨some 31, _, _, _, _, _⟩) (by kernel_rfl) rfl (by rfl) (fun K hK => ?_)
      refine yieldI (l := l) (args := enc6 ⟨{ q with next := 44, dat := bldF F1 ++ DZ }, P, p, h6⟩) (by go_simp; try rfl) (hY pre ⟨{ q with next := 44, dat := bldF F1 ++ DZ }, P, p, h6⟩ w6 (hJA' pre _ w6 none hJ2 (grown_none ((Below.refl _ w2).drew.trans x6)) (fun _ e => by cases e)) ⟨NXT.out, own6.base_ hbase2⟩ (Nat.lt_of_lt_of_le (Nat.lt_of_le_of_lt hWw2 (own_ltX own6.2 (by show 0 < (bldF F1 ++ DZ).length; rw [List.length_append, bldF_eight HOK.out]; omega))) (Nat.le_refl _))) ?_
      rintro e W3 ⟨rfl, hJ3, hk3⟩
      refine ⟨_, rfl, hK _ _ (hS.trans hk3.1) (fun hS => ?_)⟩
      clear hK K
      try go_frame
      refine pureI (i := 12) (oi := ⟨some 32, _, _, _, _, _⟩) rfl (by kernel_rfl) (by kernel_rfl) (by kernel_rfl) (fun _ _ _ h => h) (by rfl) (v := ?_) (fun w hSw => ?_) hS (fun hS => ?_)
      rotate_left
      · go_simp; try with_reducible rfl
      try go_frame
      refine doneI (by kernel_rfl) ?_ _
      have hs3 := hS.box hs2 hTi hIb
      have ks3 := hs3.cell
      have hK36 : Kp6 B w2 W3 := ⟨hS, (KeepP.of_below ((Below.refl _ w2).drew.trans x6) (fun k hk => by show k < w2.heap.size; omega)).trans hk3.2⟩
      have hK3 := hK2.trans hK36
      have HO2 : Hid (((off : Int) + (z : Int)) = ((off + z : Nat) : Int)) := Lib.hid (by omega)
      clear hS hK36 hk3 own6 x6
      gi_wp2
      go_roundw
      case rel =>
        refine ⟨off + z, pre ++ [⟨{ q with next := 44, dat := bldF F1 ++ DZ }, P, p, h6⟩], ?_, Lib.hid ?_, hzo, by omega, hJ3, hK3⟩
        · first | rfl | (congr 1; omega) | simp
        · rw [HL.out, HRS.out, HE.out, ← HZ.out, List.map_append, List.append_assoc]; rfl
      case measure => simp [offV]; omega
    · have HS := Lib.hid hs
      have d1 : decide (R < (q.dat.length : Int) - (off : Int)) = false := by rw [HRR.out]; simpa using hs
      have d2 : decide ((q.dat.length : Int) - (off : Int) > R) = false := by rw [HRR.out]; simpa using hs
      clear hs
      obtain ⟨F1, hF1⟩ : ∃ F1, F1 = fh6 q id off false := ⟨_, rfl⟩
      have HF := Lib.hid hF1.symm
      have HOK : Hid (okF F1) := Lib.hid (by rw [hF1]; exact okF_at HCU.out false hoff ho8)
      obtain ⟨zl, hzl⟩ : ∃ zl, zl = q.dat.length - off := ⟨_, rfl⟩
      obtain ⟨DZ, hDZ⟩ : ∃ DZ, DZ = q.dat.drop off := ⟨_, rfl⟩
      have HDZ : Hid (DZ.length = zl) := Lib.hid (by rw [hDZ, List.length_drop, hzl])
      have HRS := Lib.hid (rst6_last (id := id) HS.out)
      have HE : Hid (one6 q id off (q.dat.length - off) false = { q with next := 44, dat := bldF F1 ++ DZ }) := Lib.hid (by rw [hDZ, hF1, one6, List.take_of_length_le (by rw [List.length_drop]; exact Nat.le_refl _)])
      have NXT : Hid (∃ more, L = pre.map (·.q) ++ { q with next := 44, dat := bldF F1 ++ DZ } :: more) := Lib.hid ⟨[], by rw [HL.out, HRS.out, HE.out]⟩
      have HDD := Lib.hid hDZ
      have hp2 := hpw
      have hi2 := hiw
      have hJ2 := hJs
      have hWw2 : W.heap.size ≤ wr.drew.heap.size := by show W.heap.size ≤ wr.heap.size; omega
      have hbase2 : base ≤ wr.drew.heap.size := by show base ≤ wr.heap.size; omega
      have hDZ2 : Arg wr wr.heap.size (cutA A c off) (c - off) DZ := by rw [HDD.out]; exact (hDw.more (by omega)).cut_lo off
      clear hDZ hF1
      gi_upto_region 5 with fail
      clear k36 k2 kr ki hpw hrw hiw hsw hJs
      rename_i _
      generalize wr = w2 at *
      refine regionI (S := fun V => KeepS 38 51 37 w2 V) (by kernel_rfl) (KeepS.of_below (Below.refl _ w2).drew) (fun hS => ?_)
      refine pureI (i := 0) (oi := ⟨some 36, _, _, _, _, _⟩) rfl (by kernel_rfl) (by kernel_rfl) (by kernel_rfl) (fun _ _ _ h => h) (by rfl) (v := ?_) (fun w hSw => ?_) hS (fun hS => ?_)
      rotate_left
      · go_simp; try with_reducible rfl
      try go_frame
      refine pureI (i := 1) (oi := ⟨some 37, _, _, _, _, _⟩) rfl (by kernel_rfl) (by kernel_rfl) (by kernel_rfl) (fun _ _ _ h => h) (by rfl) (fun w hSw => run_load_v6 rfl rfl (at6_of (hSw.heap hp2 hTt hcs)) (v6l_len h6.1 h6.2)) hS (fun hS => ?_)
      try go_frame
      refine pureI (i := 2) (oi := ⟨some 38, _, _, _, _, _⟩) rfl (by kernel_rfl) (by kernel_rfl) (by kernel_rfl) (fun _ _ _ h => h) (by rfl) (v := ?_) (fun w hSw => ?_) hS (fun hS => ?_)
      rotate_left
      · go_simp; try with_reducible rfl
      try go_frame
      refine pureI (i := 3) (oi := ⟨some 39, _, _, _, _, _⟩) rfl (by kernel_rfl) (by kernel_rfl) (by kernel_rfl) (fun _ _ _ h => h) (by rfl) (fun w hSw => run_load_int rfl rfl (at6_of (hSw.heap hp2 hTt hcs)).next) hS (fun hS => ?_)
      try go_frame
      refine pureI (i := 4) (oi := ⟨some 40, _, _, _, _, _⟩) rfl (by kernel_rfl) (by kernel_rfl) (by kernel_rfl) (fun _ _ _ h => h) (by rfl) (v := ?_) (fun w hSw => ?_) hS (fun hS => ?_)
      rotate_left
      · go_simp; try with_reducible rfl
      try go_frame
      refine pureI (i := 5) (oi := ⟨some 41, _, _, _, _, _⟩) rfl (by kernel_rfl) (by kernel_rfl) (by kernel_rfl) (fun _ _ _ h => h) (by rfl) (fun w hSw => run_load_int rfl rfl (hSw.box hi2 hTi hIb).cell) hS (fun hS => ?_)
      try go_frame
      refine pureI (i := 6) (oi := ⟨some 42, _, _, _, _, _⟩) rfl (by kernel_rfl) (by kernel_rfl) (by kernel_rfl) (fun _ _ _ h => h) (by rfl) (v := frv F1) (fun w hSw => by go_simp; rw [← HF.out]; rfl) hS (fun hS => ?_)
      try go_frame
      refine pureI (i := 7) (oi := ⟨some 43, _, _, _, _, _⟩) rfl (by kernel_rfl) (by kernel_rfl) (by kernel_rfl) (fun _ _ _ h => h) (by rfl) (v := ?_) (fun w hSw => ?_) hS (fun hS => ?_)
      rotate_left
      · go_simp; try with_reducible rfl
      try go_frame
      refine pureI (i := 8) (oi := ⟨some 44, _, _, _, _, _⟩) rfl (by kernel_rfl) (by kernel_rfl) (by kernel_rfl) (fun _ _ _ h => h) (by rfl) (fun w hSw => run_load_sl rfl rfl ((at6_of (hSw.heap hp2 hTt hcs)).dat h6.1 h6.2)) hS (fun hS => ?_)
      try go_frame
      refine pureI (i := 9) (oi := ⟨some 45, _, _, _, _, _⟩) rfl (by kernel_rfl) (by kernel_rfl) (by kernel_rfl) (fun _ _ _ h => h) (by rfl) (v := ?_) (fun w hSw => ?_) hS (fun hS => ?_)
      rotate_left
      · go_simp; try with_reducible rfl
      try go_frame
      refine pureI (i := 10) (oi := ⟨some 46, _, _, _, _, _⟩) rfl (by kernel_rfl) (by kernel_rfl) (by kernel_rfl) (fun _ _ _ h => h) (by rfl) (fun w hSw => run_cut_l rfl rfl (l := off) rfl (by omega) (m := zl) (by omega)) hS (fun hS => ?_)
      try go_frame
      refine oneI (i := 11) (oi := ⟨some 47, _, _, _, _, _⟩) (by kernel_rfl) rfl (by rfl) (fun K hK => ?_)
      refine callI (f := 69) (args := #[v6v q A c, frv F1, .slice (cutA A c off) zl (c - off)]) (by go_simp; try rfl) ?_
      refine (c14fragment q A c F1 (cutA A c off) (c - off) DZ zl _ w2.heap.size HDZ h6 HOK.out (hDZ2.below (Below.refl _ w2).drew) (Nat.le_refl _) (by omega)).mono ?_
      rintro e w6 ⟨P, p, rfl, own6, x6⟩
      refine ⟨_, rfl, hK _ _ (hS.trans (KeepS.of_below x6)) (fun hS => ?_)⟩
      clear hK K
      try go_frame
      refine oneI (i := 12) (oi := ⟨some 48, _, _, _, _, _⟩) (by kernel_rfl) rfl (by rfl) (fun K hK => ?_)
      refine yieldI (l := l) (args := enc6 ⟨{ q with next := 44, dat := bldF F1 ++ DZ }, P, p, h6⟩) (by go_simp; try rfl) (hY pre ⟨{ q with next := 44, dat := bldF F1 ++ DZ }, P, p, h6⟩ w6 (hJA' pre _ w6 none hJ2 (grown_none ((Below.refl _ w2).drew.trans x6)) (fun _ e => by cases e)) ⟨NXT.out, own6.base_ hbase2⟩ (Nat.lt_of_lt_of_le (Nat.lt_of_le_of_lt hWw2 (own_ltX own6.2 (by show 0 < (bldF F1 ++ DZ).length; rw [List.length_append, bldF_eight HOK.out]; omega))) (Nat.le_refl _))) ?_
      rintro e W3 ⟨rfl, hJ3, hk3⟩
      refine ⟨_, rfl, hK _ _ (hS.trans hk3.1) (fun hS => ?_)⟩
      clear hK K
      try go_frame
      refine doneI (by kernel_rfl) ?_ _
      gi_wp2
      try rw [Exit.noGoto_normal]
      go_end0
      exact ⟨⟨_, rfl⟩, _, by rw [List.map_append, HL.out, HRS.out, HE.out]; rfl, hJ3⟩
end Go.Proofs.YtpoigngpdcmipaaGreat
namespace Go.Proofs.YtpoigngpdcmipaaGreat
open Go.RowKit Go.Shelf
attribute [local go_sem] Oper.semAt_some
end Go.Proofs.YtpoigngpdcmipaaGreat
namespace Go.Proofs.YtpoigngpdcmipaaGreat
open Go.RowKit Go.Shelf
set_option maxRecDepth 100000 in
theorem frags6_any (q : P6) (A : Option Addr) (c : Nat) (id mtu : Int) (base B : Nat) (w : World) (hcut : Cut6 q id mtu) (h6 : ok6 q) (hD : Arg w B A c q.dat) (hBb : B ≤ base) (hbw : base ≤ w.heap.size) :
    Calls Tryz.prog 37 #[v6v q A c, .int .i64 id, .int .i64 mtu] w fun e w' => ∃ Bp Br Bi Bs, e = .returned (.func (.func 68) #[] #[.pointer (some ⟨Bp, 0, none⟩), .pointer (some ⟨Br, 0, none⟩), .pointer (some ⟨Bi, 0, none⟩), .pointer (some ⟨Bs, 0, none⟩)]) ∧ Below w.heap.size w w' ∧
      (∀ m, 1 ≤ m → SeqAll m Tryz.prog 38 68 #[.pointer (some ⟨Bp, 0, none⟩), .pointer (some ⟨Br, 0, none⟩), .pointer (some ⟨Bi, 0, none⟩), .pointer (some ⟨Bs, 0, none⟩)] enc6 (G6 (rst6 q id mtu 0) base) (Kp6 B) (fun xs => xs.map (·.q) = rst6 q id mtu 0) w') := by
  rw [v6v_eq]
  have hlo := hcut.lo
  have hhi := hcut.hi
  have e1 : wrap64 (mtu - 48) = mtu - 48 := by unfold wrap64; omega
  have e2 : (mtu - 48).tmod 8 = (mtu - 48) % 8 := Int.tmod_eq_emod_of_nonneg (by omega)
  have e3 : wrap64 (mtu - 48 - (mtu - 48) % 8) = st6 mtu := by unfold wrap64 st6; omega
  have e4 : mtu - 48 - (mtu - 48) % 8 = st6 mtu := rfl
  go_enter Tryz.func37, Tryz.ntmps37
  go_wp2
  go_ret
  have b1 : Below w.heap.size w (w.alloc (.cells (v6a q A c) 38)) := (Below.refl _ w).alloc (Nat.le_refl _) _
  have n1 := World.alloc_heap_new w (.cells (v6a q A c) 38)
  have s1 : (w.alloc (.cells (v6a q A c) 38)).heap.size = w.heap.size + 1 := by simp
  generalize w.alloc (.cells (v6a q A c) 38) = W1 at *
  have b2 : Below W1.heap.size W1 (W1.alloc (.cells #[.int .i64 id] 3)) := (Below.refl _ _).alloc (Nat.le_refl _) _
  have n2 := Boxed.new W1 3 (.int .i64 id)
  have s2 : (W1.alloc (.cells #[.int .i64 id] 3)).heap.size = W1.heap.size + 1 := by simp
  generalize W1.alloc (.cells #[.int .i64 id] 3) = W2 at *
  have b3 : Below W2.heap.size W2 (W2.alloc (.cells #[.int .i64 (mtu - 48)] 3)) := (Below.refl _ _).alloc (Nat.le_refl _) _
  have n3 := Boxed.new W2 3 (.int .i64 (mtu - 48))
  have s3 : (W2.alloc (.cells #[.int .i64 (mtu - 48)] 3)).heap.size = W2.heap.size + 1 := by simp
  generalize W2.alloc (.cells #[.int .i64 (mtu - 48)] 3) = W3 at *
  have b4 : Below W3.heap.size W3 (W3.alloc (.cells #[.int .i64 (st6 mtu)] 3)) := (Below.refl _ _).alloc (Nat.le_refl _) _
  have n4 := Boxed.new W3 3 (.int .i64 (st6 mtu))
  have s4 : (W3.alloc (.cells #[.int .i64 (st6 mtu)] 3)).heap.size = W3.heap.size + 1 := by simp
  generalize W3.alloc (.cells #[.int .i64 (st6 mtu)] 3) = V at *
  have b14 := b1.trans ((b2.trans ((b3.trans (b4.mono (by omega))).mono (by omega))).mono (by omega))
  refine ⟨w.heap.size, w.heap.size + 1 + 1, w.heap.size + 1, w.heap.size + 1 + 1 + 1, rfl, b14, fun m hm l J W hW hJa hY hJ => ?_⟩
  have hWs := hW.size
  have p1 := (hW.block w.heap.size (by omega)).trans ((b4.block w.heap.size (by omega)).trans ((b3.block w.heap.size (by omega)).trans ((b2.block w.heap.size (by omega)).trans n1)))
  have p2 := Boxed.below (Boxed.below (Boxed.below n2 b3 (by omega)) b4 (by omega)) hW (by omega)
  have p3 := Boxed.below (Boxed.below n3 b4 (by omega)) hW (by omega)
  have p4 := Boxed.below n4 hW (by omega)
  rw [s1] at p2
  rw [s2, s1] at p3
  rw [s3, s2, s1] at p4
  exact frs6_in m l w.heap.size (w.heap.size + 1 + 1) (w.heap.size + 1) (w.heap.size + 1 + 1 + 1) base B q A c id mtu hcut h6 J W (hD.below ((b14.trans (hW.mono (by omega))).mono (by omega))) hBb (by omega) p1 p3 p2 p4 hJa hY hJ
end Go.Proofs.YtpoigngpdcmipaaGreat
namespace Go.Proofs.YtpoigngpdcmipaaGreat
open Go.RowKit Go.Shelf
attribute [local go_sem] Oper.semAt_some
theorem listI_grow {n : Nat} {P : Program} {ops : Array Oper} {rest : List Oper} {o : Oper} {a : Act} {w w' : World} {Q : Exit → Act → World → Prop} {v : Value} (hg : o.guard = none) (hrun : (execOp a.eval o).run P w = .ok (.value v) w')
    (h : wpListIn Fence.wide n P ops Q rest (a.put o.dst v) w') : wpListIn Fence.wide n P ops Q (o :: rest) a w :=
  wpListIn_plain hg fun K hK => ⟨fun _ _ => trivial, by rw [show Fence.wide.round = none from rfl, Oper.semAt_none, hrun]; exact hK _ _ h⟩
theorem Kp6.loop {B l : Nat} {X : World} {r r' : Loop} (hr : X.heap[l]? = some (.loop r)) (hB : B ≤ l) : Kp6 B X (X.putObj l (.loop r')) := ⟨KeepS.loop hr, KeepP.loop (by omega)⟩
theorem info_v6 : (Tryz.prog.info? 38).map (fun i => (i.zero, i.size, i.bytes)) = some (some (v6v p6z none 0), 37, 88) := by kernel_rfl
theorem run_bs6 {o : Oper} {a : Act} {w : World} {x : Operand} {cs : Array Value} (ho : o.op = .buildSlice 51 1 #[(0, x)]) (hx : a.eval x = .agg cs) (hl : cs.size = 37) :
    (execOp a.eval o).run Tryz.prog w = .ok (.value (.slice (some ⟨w.heap.size, 0, none⟩) 1 1)) (w.alloc (.cells cs 38)) := by
  obtain ⟨i0, hi, hz0, hz1, hz2⟩ := info_parts info_v6
  have h := run_lit1 (P := Tryz.prog) w 51 38 i0 (v6v p6z none 0) cs 37 Tryz.underlying51 hi hz0 hz1 hl (by decide) (by decide)
  unfold execOp
  simp only [ho, List.map_toArray, List.map_cons, List.map_nil, hx, Sem.run_bind, h, Result.andThen_ok]
  rfl
theorem run_store6w {o : Oper} {a : Act} {w : World} {x y : Operand} {g : Nat} {t : TypeId} {cs old : Array Value} (ho : o.op = .store 38 x y) (hx : a.eval x = .pointer (some ⟨g, 0, none⟩)) (hy : a.eval y = .agg cs) (hg : w.heap[g]? = some (.cells old t (0, 0))) (hz : old.size = 37) (hl : cs.size = 37) (h1 : cs.all (·.oneCell') = true) :
    (execOp a.eval o).run Tryz.prog w = .ok .skip (w.setRow g cs) := by
  have hst := run_storeVar_row (P := Tryz.prog) w g t 38 old cs hg (by rw [hl]; kernel_rfl) (by rw [hz, hl]) h1
  unfold execOp
  simp only [ho, hx, hy, Instr.storeAt, Instr.sureAddr, Sem.run_bind, Sem.run_pure, Result.andThen_ok, hst]
theorem cells_new6 (X : World) (x : X6) : ∀ j u, (cl6 x)[j]? = some u → (X.alloc (.cells (v6a x.q x.A x.c) 38)).cell? ((⟨X.heap.size, 0, none⟩ : Addr).add j) = some u := fun j u hu => by
  rw [add_off, Nat.zero_add, World.cell?_alloc_new, ← Array.getElem?_toList]; simpa [v6a, cl6] using hu
def Row6 (V : World) (base : Nat) (v : Value) (l : List X6) : Prop := V.ownsRow base 38 37 v l.length (l.flatMap cl6) ∧ ∀ x ∈ l, Own6 V base x
theorem Row6.nil (V : World) (base : Nat) : Row6 V base (.slice none 0 0) [] := ⟨World.ownsRow_nil _ _ _ _, fun x h => by cases h⟩
theorem Row6.mark {V : World} {base D : Nat} {v : Value} {l : List X6} {o : Option (List Deferred)} (h : Row6 V base v l) (h2 : V.heap[D]? = some (.deferred o)) : Row6 (V.putObj D (.deferred none)) base v l :=
  ⟨ownsRow_putObj h.1 _ h2 rfl, fun x hx => ⟨(h.2 x hx).1, ownsRow_putObj (h.2 x hx).2 _ h2 rfl⟩⟩
theorem Row6.below {V Y : World} {base : Nat} {v : Value} {l : List X6} (h : Row6 V base v l) (hb : Below V.heap.size V Y) : Row6 Y base v l := ⟨own_below h.1 hb, fun x hx => (h.2 x hx).below hb⟩
def InBox6 (V : World) (base b7 r : Nat) (pre : List X6) : Prop :=
  ∃ v, Boxed V b7 51 v ∧ V.ownsRow base 38 37 v pre.length (pre.flatMap cl6) ∧ (pre = [] → v = .slice none 0 0) ∧ v.ownBlock ≠ some r ∧ ∀ x ∈ pre, Own6 V base x
theorem InBox6.nil {V : World} {base b7 r : Nat} (h : Boxed V b7 51 (.slice none 0 0)) : InBox6 V base b7 r [] := ⟨_, h, World.ownsRow_nil _ _ _ _, fun _ => rfl, (by simp [Value.ownBlock]), fun x h => by cases h⟩
theorem InBox6.turn {V Y : World} {base b7 r : Nat} {pre : List X6} {row : Option Nat} (h : InBox6 V base b7 r pre) (hg : V.grownBy Y row) (hr : ∀ k, row = some k → ∃ o : Obj, V.heap[k]? = some o ∧ o.isCells = false) : InBox6 Y base b7 r pre := by
  obtain ⟨v, h1, h2, h3, h4, h5⟩ := h
  refine ⟨v, h1.kept hg (fun e' => ?_), h2.kept hg ?_, h3, h4, fun x hx => (h5 x hx).turn hg hr⟩
  · obtain ⟨o, ho, hc⟩ := hr b7 e'.symm
    rw [show V.heap[b7]? = _ from h1] at ho; cases ho; cases hc
  · rcases h2.2 with ⟨rfl, _⟩ | ⟨g, cap, cur, rfl, _, hgb, _⟩
    · exact .inl rfl
    · refine .inr fun e' => ?_
      obtain ⟨o, ho, hc⟩ := hr g (by simpa [Value.ownBlock] using e'.symm)
      rw [hgb] at ho; cases ho; cases hc
theorem InBox6.own2 {V Y : World} {base b7 r k : Nat} {pre : List X6} {cs : Array Value} (h : InBox6 V base b7 r pre) (hg : V.grownBy Y (some k)) (hk : k = r) (hc : V.heap[k]? = some (.cells cs 38 (0, 0))) : InBox6 Y base b7 r pre := by
  subst hk
  obtain ⟨v, h1, h2, h3, h4, h5⟩ := h
  have key : ∀ {v : Value} {n : Nat} {xs : List Value}, V.ownsRow base 5 1 v n xs → Y.ownsRow base 5 1 v n xs := fun {v n xs} h => by
    refine h.kept hg ?_
    rcases h.2 with ⟨rfl, _⟩ | ⟨g, cap, cur, rfl, _, hgb, _⟩
    · exact .inl rfl
    · refine .inr fun e' => ?_
      have e2 : g = k := by simpa [Value.ownBlock] using e'
      subst e2
      rw [hgb] at hc; cases hc
  refine ⟨v, h1.kept hg (fun e' => ?_), h2.kept hg (.inr h4), h3, h4, fun x hx => ⟨(h5 x hx).1, key (h5 x hx).2⟩⟩
  injection e' with e'
  subst e'
  have := (show V.heap[b7]? = _ from h1).symm.trans hc
  cases this
theorem fg6_len (q : P6) (id mtu : Int) : ∀ (f off : Nat), (fg6 q id mtu f off).length ≤ f
  | 0, _ => Nat.le_refl _
  | f + 1, off => by
    rw [fg6]; split
    · have := fg6_len q id mtu f (off + (st6 mtu).toNat); simp; omega
    · simp
theorem rst6_len (q : P6) (id mtu : Int) (off : Nat) : (rst6 q id mtu off).length ≤ q.dat.length + 1 := fg6_len q id mtu _ off
theorem chk6_len {q : P6} (h : chk6 q = 0) : q.dat.length ≤ 65535 := by
  unfold chk6 at h
  split at h
  · split at h
    · cases h
    · omega
  · cases h
set_option maxRecDepth 100000 in
set_option maxHeartbeats 4000000 in
theorem c14cut (q : P6) (A : Option Addr) (c : Nat) (id mtu : Int) (B : Nat) (w : World) (h6 : ok6 q) (hD : Arg w B A c q.dat) (hB0 : B ≤ w.heap.size) (hdl : q.dat.length ≤ 1000000) :
    Calls Tryz.prog 15 #[v6v q A c, .int .i64 id, .int .i64 mtu] w fun e w' => ∃ v l, e = .returned (.tuple #[v, .int .i64 (cutE6 q id mtu)]) ∧ Row6 w' w.heap.size v l ∧ l.map (·.q) = cutL6 q id mtu ∧ Below w.heap.size w w' := by
  have hTn : 51 ≠ 38 := nat_ne (by kernel_rfl)
  have hTuT : 5 ≠ 51 := nat_ne (by kernel_rfl)
  have hTuS : 5 ≠ 38 := nat_ne (by kernel_rfl)
  have hB : Below w.heap.size w (w.alloc (.cells (v6a q A c) 38)) := (Below.refl w.heap.size w).alloc (Nat.le_refl _) _
  have hrow := World.alloc_heap_new w (.cells (v6a q A c) 38)
  have hz : w.heap.size < (w.alloc (.cells (v6a q A c) 38)).heap.size := by simp
  rw [v6v_eq]
  refine (callsIn_wide (n := 4)).1 ?_
  refine callsIn_of_wp_marks Tryz.func15 rfl trivial ?_ rfl
  simp only [Tryz.ntmps15, List.size_toArray, List.length_cons, List.length_nil, Nat.reduceAdd, Nat.reduceSub, Array.replicate_succ, Array.replicate_zero, List.push_toArray, List.append_toArray, List.nil_append, List.cons_append]
  gi_upto_region 1 with fail
  obtain ⟨g, hg⟩ : ∃ g, g = w.heap.size := ⟨_, rfl⟩
  rw [← hg] at hrow ⊢
  have hgw : w.heap.size ≤ g := by omega
  generalize w.alloc (.cells (v6a q A c) 38) = W at *
  have hgW := heap_lt hrow
  have hAt := at6_of hrow
  clear hg
  by_cases h1 : mtu < 1280
  · have d1 : decide (mtu < 1280) = true := by simpa using h1
    have HE := Lib.hid (show cutE6 q id mtu = 1 by rw [cutE6, if_pos (.inl h1)])
    clear h1
    gi_wp2
    refine leaves_marks w.heap.size (fun Y => Below w.heap.size w Y) (fun Y D hY h1 h2 => hY.trans (belowK_b (w := w) (Nat.le_refl _) Y D _ _ h1 h2 rfl rfl))
      (fun Y hY => ⟨_, results_tmp2 rfl _ _ _, .slice none 0 0, [], by rw [HE.out]; rfl, Row6.nil _ _, by rw [cutL6, if_neg (by rw [HE.out]; decide)]; rfl, hY⟩) [] w.heap.size _ trivial hB
  · have d1 : decide (mtu < 1280) = false := by simpa using h1
    by_cases h2 : mtu > 65535
    · have d2 : decide (mtu > 65535) = true := by simpa using h2
      have HE := Lib.hid (show cutE6 q id mtu = 1 by rw [cutE6, if_pos (.inr (.inl h2))])
      clear h1 h2
      gi_wp2
      refine leaves_marks w.heap.size (fun Y => Below w.heap.size w Y) (fun Y D hY h1 h2 => hY.trans (belowK_b (w := w) (Nat.le_refl _) Y D _ _ h1 h2 rfl rfl))
        (fun Y hY => ⟨_, results_tmp2 rfl _ _ _, .slice none 0 0, [], by rw [HE.out]; rfl, Row6.nil _ _, by rw [cutL6, if_neg (by rw [HE.out]; decide)]; rfl, hY⟩) [] w.heap.size _ trivial hB
    · have d2 : decide (mtu > 65535) = false := by simpa using h2
      by_cases h3 : id < 0
      · have d3 : decide (id < 0) = true := by simpa using h3
        have HE := Lib.hid (show cutE6 q id mtu = 1 by rw [cutE6, if_pos (.inr (.inr (.inl h3)))])
        clear h1 h2 h3
        gi_wp2
        refine leaves_marks w.heap.size (fun Y => Below w.heap.size w Y) (fun Y D hY h1 h2 => hY.trans (belowK_b (w := w) (Nat.le_refl _) Y D _ _ h1 h2 rfl rfl))
          (fun Y hY => ⟨_, results_tmp2 rfl _ _ _, .slice none 0 0, [], by rw [HE.out]; rfl, Row6.nil _ _, by rw [cutL6, if_neg (by rw [HE.out]; decide)]; rfl, hY⟩) [] w.heap.size _ trivial hB
      · have d3 : decide (id < 0) = false := by simpa using h3
        by_cases h4 : id > 4294967295
        · have d4 : decide (id > 4294967295) = true := by simpa using h4
          have HE := Lib.hid (show cutE6 q id mtu = 1 by rw [cutE6, if_pos (.inr (.inr (.inr h4)))])
          clear h1 h2 h3 h4
          gi_wp2
          refine leaves_marks w.heap.size (fun Y => Below w.heap.size w Y) (fun Y D hY h1 h2 => hY.trans (belowK_b (w := w) (Nat.le_refl _) Y D _ _ h1 h2 rfl rfl))
            (fun Y hY => ⟨_, results_tmp2 rfl _ _ _, .slice none 0 0, [], by rw [HE.out]; rfl, Row6.nil _ _, by rw [cutL6, if_neg (by rw [HE.out]; decide)]; rfl, hY⟩) [] w.heap.size _ trivial hB
        · have d4 : decide (id > 4294967295) = false := by simpa using h4
          have HM : Hid (¬ (mtu < 1280 ∨ mtu > 65535 ∨ id < 0 ∨ id > 4294967295)) := Lib.hid (by omega)
          by_cases hk : chk6 q = 0
          · have HK := Lib.hid hk
            have HE0 := Lib.hid (show cutE6 q id mtu = 0 by rw [cutE6, if_neg HM.out, hk])
            have HCK := Lib.hid (cutE6_ok HE0.out)
            have HDL : Hid (q.dat.length ≤ 65535) := Lib.hid (chk6_len hk)
            clear h1 h2 h3 h4 hk
            by_cases hs : size6 q ≤ mtu
            · have s1 : decide (size6 q ≤ mtu) = true := by simpa using hs
              have HL := Lib.hid (show cutL6 q id mtu = [q] by rw [cutL6, if_pos HE0.out, if_pos hs])
              clear hs
              gi_upto_region 7 with (first
                | ((with_reducible show wpListIn _ _ _ _ _ (Oper.mk _ (Op.load 38 _) _ _ _ _ :: _) _ _); refine listI_val rfl (run_load_v6 rfl rfl (hAt.below x1 hgW) (v6l_len h6.1 h6.2)) ?_)
                | ((with_reducible show wpListIn _ _ _ _ _ (Oper.mk _ (Op.load 38 _) _ _ _ _ :: _) _ _); refine listI_val rfl (run_load_v6 rfl rfl hAt (v6l_len h6.1 h6.2)) ?_)
                | (refine ⟨trivial, ?_⟩; gi_at_call 34; refine (callsIn_wide.2 (c6check q A c _ h6.1 h6.2 hdl)).mono ?_; rintro e w1 ⟨rfl, x1⟩; rw [HK.out])
                | (refine ⟨trivial, ?_⟩; gi_at_call 35; refine (callsIn_wide.2 (c6size q A c _ h6.1 h6.2 hdl)).mono ?_; rintro e w2 ⟨rfl, x2⟩))
              have hgz1 := Nat.lt_of_lt_of_le hgW x1.size
              have hrow2 := (x2.block g hgz1).trans ((x1.block g hgW).trans hrow)
              have hB2 := (hB.trans (x1.mono hB.size)).trans (x2.mono (by have := hB.size; have := x1.size; omega))
              have hg2 := heap_lt hrow2
              have hD2 := hD.below (hB2.mono hB0)
              have k36 := (at6_of hrow2).dat h6.1 h6.2
              clear hrow hAt x1 x2
              gi_upto_region 8 with (refine ⟨trivial, ?_⟩; gi_at_call 36; refine (callsIn_wide.2 (clone_any A q.dat c B w2 hD2 (by have := hB2.size; omega) (by omega))).mono ?_; rintro e w3 ⟨v3, rfl, m3⟩; obtain ⟨P, p, rfl, g3, o3, y3⟩ := made_shape m3; have hrow3 := (y3.block g hg2).trans hrow2; have c36 := (at6_of hrow3).dat h6.1 h6.2; have f36 := heap_frozen hrow3 36)
              have hrow4 := heap_setCell_same w3 g 36 _ _ (.slice P q.dat.length p) hrow3
              rw [set_dat q A P c p q.dat h6.1 h6.2] at hrow4
              have hB4 := (hB2.trans (y3.mono hB2.size)).setCell (p := ⟨g, 36, none⟩) hgw (.slice P q.dat.length p)
              have o4 := own_setCellB (i := 36) (u := .slice P q.dat.length p) (own_base (base := w.heap.size) o3 hB2.size) hrow3 (nat_ne (by kernel_rfl))
              clear c36 f36 k36 hrow3 o3 g3 m3
              have hrow5 : (w3.setCell ⟨g, 36, none⟩ (.slice P q.dat.length p)).heap[g]? = some (.cells (v6a q P p) 38 (0, 0)) := hrow4
              clear hrow4
              generalize w3.setCell ⟨g, 36, none⟩ (.slice P q.dat.length p) = V at *
              have hAtV := at6_of hrow5
              gi_wp2_with (first
                | ((with_reducible show wpListIn _ _ _ _ _ (Oper.mk _ (Op.load 38 _) _ _ _ _ :: _) _ _); refine listI_val rfl (run_load_v6 rfl rfl hAtV (v6l_len h6.1 h6.2)) ?_)
                | ((with_reducible show wpListIn _ _ _ _ _ (Oper.mk _ (Op.buildSlice _ _ _) _ _ _ _ :: _) _ _); refine listI_grow rfl (run_bs6 (cs := v6a q P p) rfl rfl (v6a_size h6)) ?_))
              have hNew : Below V.heap.size V (V.alloc (.cells (v6a q P p) 38)) := (Below.refl _ _).alloc (Nat.le_refl _) _
              have rowN := World.ownsRow_lit (base := w.heap.size) (e := 38) (size := 37) V (v6a q P p) 1 hB4.size (by decide) (v6a_size h6)
              have eN : [(⟨q, P, p, h6⟩ : X6)].flatMap cl6 = (v6a q P p).toList := by simp [cl6, v6a]
              rw [← eN] at rowN
              have hN6 : Row6 (V.alloc (.cells (v6a q P p) 38)) w.heap.size (.slice (some ⟨V.heap.size, 0, none⟩) 1 1) [⟨q, P, p, h6⟩] := ⟨rowN, fun x hx => by rw [List.mem_singleton.1 hx]; exact ⟨h6, own_below o4 hNew⟩⟩
              refine leaves_marks w.heap.size (fun Y => Row6 Y w.heap.size (.slice (some ⟨V.heap.size, 0, none⟩) 1 1) [⟨q, P, p, h6⟩] ∧ Below w.heap.size w Y) (fun Y D hY h1 h2 => ⟨hY.1.mark h2, hY.2.trans (belowK_b (w := w) (Nat.le_refl _) Y D _ _ (by omega) h2 rfl rfl)⟩)
                (fun Y hY => ⟨_, results_tmp2 rfl _ _ _, _, _, by rw [HE0.out]; rfl, hY.1, by rw [HL.out]; rfl, hY.2⟩) [] w.heap.size _ trivial ⟨hN6, hB4.trans (hNew.mono hB4.size)⟩
            · have s1 : decide (size6 q ≤ mtu) = false := by simpa using hs
              have HS0 := Lib.hid hs
              clear hs
              gi_upto_region 10 with (first
                | ((with_reducible show wpListIn _ _ _ _ _ (Oper.mk _ (Op.load 38 _) _ _ _ _ :: _) _ _); refine listI_val rfl (run_load_v6 rfl rfl (hAt.below x1 hgW) (v6l_len h6.1 h6.2)) ?_)
                | ((with_reducible show wpListIn _ _ _ _ _ (Oper.mk _ (Op.load 38 _) _ _ _ _ :: _) _ _); refine listI_val rfl (run_load_v6 rfl rfl hAt (v6l_len h6.1 h6.2)) ?_)
                | (refine ⟨trivial, ?_⟩; gi_at_call 34; refine (callsIn_wide.2 (c6check q A c _ h6.1 h6.2 hdl)).mono ?_; rintro e w1 ⟨rfl, x1⟩; rw [HK.out])
                | (refine ⟨trivial, ?_⟩; gi_at_call 35; refine (callsIn_wide.2 (c6size q A c _ h6.1 h6.2 hdl)).mono ?_; rintro e w2 ⟨rfl, x2⟩))
              have hgz1 := Nat.lt_of_lt_of_le hgW x1.size
              have hrow2 := (x2.block g hgz1).trans ((x1.block g hgW).trans hrow)
              have hB2 := (hB.trans (x1.mono hB.size)).trans (x2.mono (by have := hB.size; have := x1.size; omega))
              have hg2 := heap_lt hrow2
              have hbx := Boxed.new w2 51 (.slice none 0 0)
              have hY0 : Below w2.heap.size w2 (w2.alloc (.cells #[.slice none 0 0] 51)) := (Below.refl _ _).alloc (Nat.le_refl _) _
              have hBY := hB2.trans (hY0.mono hB2.size)
              have hAtX := at6_of ((hY0.block g hg2).trans hrow2)
              have hYz : w2.heap.size < (w2.alloc (.cells #[.slice none 0 0] 51)).heap.size := by simp
              obtain ⟨b7, hb7e⟩ : ∃ b, b = w2.heap.size := ⟨_, rfl⟩
              rw [← hb7e] at hbx hYz ⊢
              have hb7 : w.heap.size ≤ b7 := by rw [hb7e]; exact hB2.size
              generalize w2.alloc (.cells #[.slice none 0 0] 51) = Y at *
              clear hY0 hAt hrow hrow2 hB2 x1 x2 hb7e hg2
              gi_wp2_with (first
                | ((with_reducible show wpListIn _ _ _ _ _ (Oper.mk _ (Op.load 38 _) _ _ _ _ :: _) _ _); refine listI_val rfl (run_load_v6 rfl rfl hAtX (v6l_len h6.1 h6.2)) ?_)
                | (refine ⟨trivial, ?_⟩; gi_at_call 37; refine (callsIn_wide.2 (frags6_any q A c id mtu w.heap.size B _ HCK.out.1 h6 (hD.below (hBY.mono hB0)) hB0 (by omega))).mono ?_; rintro e w3 ⟨Bp, Br, Bi, Bs, rfl, x3, hseq⟩))
              have hz3 := x3.size
              have hbx3 := Boxed.below hbx x3 (by omega)
              have hB3 : Below w.heap.size w w3 := hBY.trans (x3.mono (by omega))
              clear hbx hAtX
              refine range_box (by omega) 10 38 (gf := 68) (lb := #[.pointer (some ⟨Bp, 0, none⟩), .pointer (some ⟨Br, 0, none⟩), .pointer (some ⟨Bi, 0, none⟩), .pointer (some ⟨Bs, 0, none⟩)]) (cells := fun x => v6a x.q x.A x.c) rfl (enters_of Tryz.func68 (by kernel_rfl) rfl)
                (hseq (4 - 1) (by omega)) Kp6.trans (fun V l r r' hl hr => Kp6.loop hr (by omega)) (Below.refl _ _) (fun _ => rfl)
                (fun pre x V l r r' h _ hl => ⟨h.1, h.2.loop hl⟩)
                (fun pre V => InBox6 V w.heap.size b7 (w3.heap.size + 2) pre ∧ Below w.heap.size w V)
                (fun pre V Y r hs hg hr => ⟨hs.1.turn hg (fun k e => (hr k e).2), below_keep hs.2 hg hr (by omega) (Nat.le_refl _)⟩)
                (fun pre V Y k cs hs hg hk hc => ⟨hs.1.own2 hg hk hc, hs.2.grown hg hs.2.size (fun j e => by cases e; omega)⟩)
                ⟨InBox6.nil hbx3, hB3⟩
                (fun pre x V o h => ⟨h.1, h.2.below ((Below.refl _ V).alloc (Nat.le_refl _) o)⟩) (fun V o hz => Kp6.of_below ((Below.refl _ V).alloc (Nat.le_refl _) o) (by omega)) ?assign ?body ?done
              case assign =>
                intro l x V K hK
                dsimp only [enc6] at hK ⊢
                gi_wp2_with ((with_reducible show wpListIn _ _ _ _ _ (Oper.mk _ (Op.store 38 _ _) _ _ _ _ :: _) _ _); refine listR_skip rfl (fun c h => by cases h) (run_store6w (cs := v6a x.q x.A x.c) rfl rfl rfl (World.alloc_heap_new V _) rfl (v6a_size x.h6) (v6a_one _ _ _)) ?_; rw [World.setRow_alloc_new])
                simp [Act.put] at hK ⊢
                exact hK
              case body =>
                rintro l pre x b X ⟨hin, hBX⟩ ⟨⟨more, hmore⟩, hown⟩ hzX hb
                dsimp only [enc6]
                have hpl : pre.length < 65537 := by
                  have h1 := rst6_len q id mtu 0
                  have h2 := congrArg List.length hmore
                  rw [List.length_append, List.length_cons, List.length_map] at h2
                  have := HDL.out; omega
                obtain ⟨v, hvX, hoX, hnX, hrX, haX⟩ := hin
                obtain ⟨Av, cv, rfl⟩ := own_slice hoX
                have hcv := hvX.cell
                have hfv := hvX.frozen
                have hatb := at6_of hb
                have hx6 := hown.1
                obtain ⟨i0, hi, hz0, hz1, hz2'⟩ := info_parts info_v6
                have hnv : Value.slice Av pre.length cv = .slice none 0 0 ∨ 0 < pre.length := by
                  rcases Nat.eq_zero_or_pos pre.length with h0 | h0
                  · exact .inl (hnX (List.eq_nil_of_length_eq_zero h0))
                  · exact .inr h0
                have hB7 : w.heap.size ≤ b7 := hb7
                go_frame
                gi_wp2_with (first
                  | ((with_reducible show wpListIn _ _ _ _ _ (Oper.mk _ (Op.load 38 _) _ _ _ _ :: _) _ _); refine listR_val rfl (fun c h => by cases h) (run_load_v6 rfl rfl hatb (v6l_len hx6.1 hx6.2)) ?_)
                  | ((with_reducible show wpListIn _ _ _ _ _ (Oper.mk _ (Op.buildSlice _ _ _) _ _ _ _ :: _) _ _); refine listR_grow rfl (fun c h => by cases h) (run_bs6 (cs := v6a x.q x.A x.c) rfl rfl (v6a_size hx6)) ?_)
                  | (gi_at_builtin; refine wpListIn_append_one _ rfl _ _ 51 rfl w.heap.size 38 i0 (v6v p6z none 0) 37 88 Tryz.underlying51 hi hz0 hz1 hz2' rfl (by decide) _ pre.length (pre.flatMap cl6) rfl (hoX.alloc _) hnv ⟨X.heap.size, 0, none⟩ 1 (cl6 x) rfl (cl6_len hx6) (cells_new6 X x) (cl6_one x) (by unfold maxLen; omega) (by omega) (by have := hBX.size; simp; omega) ?_; intro v' w' hown' hgrow hkeep hblk; obtain ⟨q1, q2, q3, q4, q5⟩ := Boxed.appended hvX hTn hoX hBX.size hB7 hown' hgrow; have qc := q1.cell; have qf := q1.frozen; obtain ⟨A9, c9, rfl⟩ := own_slice hown'))
                have hKS : KeepS 38 51 37 X (w'.setCell ⟨b7, 0, none⟩ (.slice A9 (pre.length + 1) c9)) := ⟨q5.size, fun k cs ty fr hk h1 h2 => by
                  have hk1 : (X.alloc (.cells (v6a x.q x.A x.c) 38)).heap[k]? = some (.cells cs ty fr) := (Below.heap_alloc X _ k (heap_lt hk)).trans hk
                  have hne : k ≠ b7 := fun e => by
                    subst e
                    have := (show X.heap[k]? = _ from hvX).symm.trans hk
                    simp at this
                    exact h1 this.2.1.symm
                  exact (Below.heap_setCell _ _ _ k hne).trans ((hkeep k cs ty fr hk1 h2).trans (hk1.trans hk.symm))⟩
                refine ⟨q4.from _, ⟨hKS, KeepP.of_below q5 (fun k hk => Nat.lt_of_lt_of_le hk hB0)⟩, ⟨_, q2, ?_, fun e => absurd e (by simp), ?_, ?_⟩, hBX.trans q5⟩
                · rw [List.length_append, List.flatMap_append, List.flatMap_cons, List.flatMap_nil, List.append_nil]; exact q3
                · rcases hblk with e | e
                  · rw [e]; exact hrX
                  · rw [e]; intro e'; injection e' with e'; rw [World.size_alloc] at e'; omega
                · intro y hy
                  rcases List.mem_append.1 hy with hy | hy
                  · exact (haX y hy).keep hKS hTuT hTuS
                  · rw [List.mem_singleton.1 hy]; exact hown.keep hKS hTuT hTuS
              case done =>
                rintro D xs X hD2 hS ⟨⟨v, hvX, hoX, hnX, hrX, haX⟩, hBX⟩ hK
                have hm1 : Marks w3.heap.size X.heap.size [{ target := .collected D, args := #[] }] X := (Marks.push (hi := D) (ds := []) trivial (Nat.le_refl _) hD2 hK).more (heap_lt hK)
                obtain ⟨Av, cv, rfl⟩ := own_slice hoX
                have hcv := hvX.cell
                gi_wp2
                refine leaves_marks w3.heap.size (fun Y => Row6 Y w.heap.size (.slice Av xs.length cv) xs ∧ Below w.heap.size w Y) (fun Y D hY h1 h2 => ⟨hY.1.mark h2, hY.2.trans (belowK_b (w := w) (Nat.le_refl _) Y D _ _ (by omega) h2 rfl rfl)⟩)
                  (fun Y hY => ⟨_, results_tmp2 rfl _ _ _, _, xs, by rw [HE0.out]; rfl, hY.1, ?_, hY.2⟩) _ _ _ hm1 ⟨⟨hoX, haX⟩, hBX⟩
                rw [cutL6, if_pos HE0.out, if_neg (by have := HS0.out; omega)]; exact hS
          · have HE := Lib.hid (show cutE6 q id mtu = chk6 q by rw [cutE6, if_neg HM.out])
            have HN := Lib.hid hk
            have dk : (chk6 q != 0) = true := by simpa using hk
            clear h1 h2 h3 h4 hk
            gi_wp2_with (first
              | ((with_reducible show wpListIn _ _ _ _ _ (Oper.mk _ (Op.load 38 _) _ _ _ _ :: _) _ _); refine listI_val rfl (run_load_v6 rfl rfl hAt (v6l_len h6.1 h6.2)) ?_)
              | (refine ⟨trivial, ?_⟩; gi_at_call 34; refine (callsIn_wide.2 (c6check q A c _ h6.1 h6.2 hdl)).mono ?_; rintro e w1 ⟨rfl, x1⟩))
            refine leaves_marks w.heap.size (fun Y => Below w.heap.size w Y) (fun Y D hY h1 h2 => hY.trans (belowK_b (w := w) (Nat.le_refl _) Y D _ _ h1 h2 rfl rfl))
              (fun Y hY => ⟨_, results_tmp2 rfl _ _ _, .slice none 0 0, [], by rw [HE.out]; rfl, Row6.nil _ _, by rw [cutL6, if_neg (by rw [HE.out]; exact HN.out)]; rfl, hY⟩) [] w.heap.size _ trivial (hB.trans (x1.mono hB.size))
end Go.Proofs.YtpoigngpdcmipaaGreat
namespace Go.Proofs.YtpoigngpdcmipaaGreat
open Go.RowKit Go.Shelf
theorem fr_store {ops : Array Oper} {rest : List Oper} {x y : Operand} {ty : TypeId} {pos : String} {af : Array Edge} {a : Act} {w : World} {Q : Exit → Act → World → Prop}
    {g : Nat} {t : TypeId} {cs old : Array Value} (hx : a.eval x = .pointer (some ⟨g, 0, none⟩)) (hy : a.eval y = .agg cs) (hg : w.heap[g]? = some (.cells old t (0, 0))) (ho : old.size = 4) (hl : cs.size = 4) (h1 : cs.all (·.oneCell') = true)
    (h : wpList Tryz.prog ops Q rest (a.put none undef) (w.setRow g cs)) : wpList Tryz.prog ops Q (⟨none, .store 42 x y, ty, pos, af, none⟩ :: rest) a w :=
  wpList_plain rfl fun _ hK => wp_store_row 42 x y rfl g cs hx hy t old hg (by rw [hl]; kernel_rfl) (by rw [ho, hl]) h1 (hK _ _ h)
theorem fr_store_new {ops : Array Oper} {rest : List Oper} {x y : Operand} {ty : TypeId} {pos : String} {af : Array Edge} {a : Act} {w : World} {Q : Exit → Act → World → Prop}
    {t : TypeId} {cs old : Array Value} (hx : a.eval x = .pointer (some ⟨w.heap.size, 0, none⟩)) (hy : a.eval y = .agg cs) (ho : old.size = 4) (hl : cs.size = 4) (h1 : cs.all (·.oneCell') = true)
    (h : wpList Tryz.prog ops Q rest (a.put none undef) (w.alloc (.cells cs t))) : wpList Tryz.prog ops Q (⟨none, .store 42 x y, ty, pos, af, none⟩ :: rest) a (w.alloc (.cells old t)) :=
  fr_store hx hy (World.alloc_heap_new w _) ho hl h1 (by rw [World.setRow_alloc_new]; exact h)
theorem prsG_iff (b : List UInt8) : prsG b = 0 ↔ 8 ≤ b.length := by
  unfold prsG; split <;> simp <;> omega
set_option maxRecDepth 100000 in
set_option maxHeartbeats 1000000 in
theorem c14part (q : P6) (A : Option Addr) (c B : Nat) (w : World) (h6 : ok6 q) (hD : Arg w B A c q.dat) (hB0 : B ≤ w.heap.size) (hdl : q.dat.length ≤ 1000000) :
    Calls Tryz.prog 12 #[v6v q A c] w fun e w' => ∃ P p, e = .returned (.tuple #[frv (prtF q), .slice P (prtB q).length p, .bool (prtO q)]) ∧ Arg w' w'.heap.size P p (prtB q) ∧ Below w.heap.size w w' := by
  have hTu : 42 ≠ 5 := nat_ne (by kernel_rfl)
  have hB : Below w.heap.size w ((w.alloc (.cells (v6a q A c) 38)).alloc (.cells (fra frz) 42)) := ((Below.refl w.heap.size w).alloc (Nat.le_refl _) _).alloc (by simp) _
  have hU : ((w.alloc (.cells (v6a q A c) 38)).alloc (.cells (fra frz) 42)).heap[w.heap.size]? = some (.cells (v6a q A c) 38 (0, 0)) := (Below.heap_alloc (w.alloc (.cells (v6a q A c) 38)) _ w.heap.size (by simp)).trans (World.alloc_heap_new w _)
  have hR : ((w.alloc (.cells (v6a q A c) 38)).alloc (.cells (fra frz) 42)).heap[w.heap.size + 1]? = some (.cells (fra frz) 42 (0, 0)) := by
    have := World.alloc_heap_new (w.alloc (.cells (v6a q A c) 38)) (.cells (fra frz) 42)
    rwa [World.size_alloc] at this
  rw [v6v_eq]
  go_enter Tryz.func12, Tryz.ntmps12
  go_upto_region 1 with fail
  rw [show #[Value.int .i64 0, .int .i64 0, .int .i64 0, .bool false] = fra frz from rfl]
  generalize (w.alloc (.cells (v6a q A c) 38)).alloc (.cells (fra frz) 42) = W at *
  have hz : w.heap.size + 1 < W.heap.size := heap_lt hR
  have kn := (at6_of hU).next
  have kd := (at6_of hU).dat h6.1 h6.2
  have hD1 := hD.below (hB.mono hB0)
  by_cases hn : q.next = 44
  · have dn : (q.next != 44) = false := by rw [hn]; rfl
    have HPF : Hid (prsF q.dat = prtF q) := Lib.hid (by rw [prtF, if_pos hn])
    have HB : Hid (prtB q = rstF q.dat) := Lib.hid (by rw [prtB, if_pos hn])
    obtain ⟨F1, hF1⟩ : ∃ F1, F1 = prtF q := ⟨_, rfl⟩
    have HF := Lib.hid hF1.symm
    rw [← hF1] at HPF
    obtain ⟨G, hG⟩ : ∃ G, G = prsG q.dat := ⟨_, rfl⟩
    have HPG := Lib.hid hG.symm
    have HO : Hid (prtO q = (G == 0)) := Lib.hid (by
      rw [prtO, decide_eq_true hn, Bool.true_and, hG, Bool.eq_iff_iff, decide_eq_true_iff, beq_iff_eq]; exact (prsG_iff _).symm)
    clear hF1 hG hn
    go_upto_region 4 with (first
      | (go_at_call 32; refine (c6pfrag A q.dat c B W hD1 (by omega) hdl).mono ?_; rintro e w2 ⟨v2, rfl, m2⟩; obtain ⟨P2, p2, rfl, g2, o2, y2⟩ := made_shape m2; rw [HPF.out, HPG.out])
      | ((with_reducible show wpList _ _ _ (Oper.mk _ (Op.store 42 _ _) _ _ _ _ :: _) _ _); refine fr_store_new (cs := fra F1) rfl rfl rfl rfl (fra_one _) ?_))
    have hR2 := (y2.block (w.heap.size + 1) (by omega)).trans hR
    have hX : Below w2.heap.size w2 (w2.alloc (.cells (fra F1) 42)) := (Below.refl _ _).alloc (Nat.le_refl _) _
    have hR3 := (hX.block (w.heap.size + 1) (heap_lt hR2)).trans hR2
    have hF3 := atF_of (World.alloc_heap_new w2 (.cells (fra F1) 42))
    have o3 := own_below o2 hX
    have hB3 := (hB.trans (y2.mono (by omega))).trans (hX.mono (by have := y2.size; omega))
    obtain ⟨b, hb⟩ : ∃ b, b = w2.heap.size := ⟨_, rfl⟩
    rw [← hb] at hF3 ⊢
    clear hb hR2 o2 g2 m2 hX
    generalize w2.alloc (.cells (fra F1) 42) = X at *
    have e1 := arg_own (own_setRowB (cs' := fra F1) o3 hR3 hTu)
    go_wp2_with (first
      | ((with_reducible show wpList _ _ _ (Oper.mk _ (Op.load 42 _) _ _ _ _ :: _) _ _); refine wpList_val rfl (load_frag rfl rfl hF3) ?_)
      | ((with_reducible show wpList _ _ _ (Oper.mk _ (Op.store 42 _ _) _ _ _ _ :: _) _ _); refine fr_store (g := w.heap.size + 1) (cs := fra F1) rfl rfl hR3 rfl rfl (fra_one _) ?_))
    exact bodyPost_ret (res3 rfl rfl (run_loadVar_row _ _ _ 42 (fra F1) _ _ (setRow_heap _ _ _ _ _ _ hR3) Tryz.underlying42 rfl (by kernel_rfl))) rfl ⟨P2, p2, by rw [HF.out, HO.out, HB.out]; rfl, by rw [HB.out]; exact e1, below_row hB3 (by omega)⟩
  · have dn : (q.next != 44) = true := by simpa using hn
    have HF : Hid (prtF q = frz) := Lib.hid (by rw [prtF, if_neg hn])
    have HB : Hid (prtB q = []) := Lib.hid (by rw [prtB, if_neg hn])
    have HO : Hid (prtO q = false) := Lib.hid (by rw [prtO, decide_eq_false hn]; rfl)
    clear hn
    go_wp2_with ((with_reducible show wpList _ _ _ (Oper.mk _ (Op.store 42 _ _) _ _ _ _ :: _) _ _); refine fr_store (g := w.heap.size + 1) (cs := fra frz) rfl rfl hR rfl rfl (fra_one _) ?_)
    exact bodyPost_ret (res3 rfl rfl (run_loadVar_row _ _ _ 42 (fra frz) _ _ (setRow_heap _ _ _ _ _ _ hR) Tryz.underlying42 rfl (by kernel_rfl))) rfl ⟨none, 0, by rw [HF.out, HO.out, HB.out]; rfl, by rw [HB.out]; exact Arg.nil _ _, below_row hB (by omega)⟩
end Go.Proofs.YtpoigngpdcmipaaGreat
namespace Go.Proofs.YtpoigngpdcmipaaGreat
open Go.RowKit Go.Shelf
instance : DecidableEq P4 := fun q r => decidable_of_iff (same4 q r = true) same4_iff
structure L4 (w : World) (B : Nat) (A : Option Addr) (l : List X4) : Prop where
  rd : RdS cl4 11 w B A l
  arg : ∀ x ∈ l, Arg w B x.A x.c x.q.opt ∧ Arg w B x.A' x.c' x.q.dat
end Go.Proofs.YtpoigngpdcmipaaGreat
namespace Go.Proofs.YtpoigngpdcmipaaGreat
open Go.RowKit Go.Shelf
end Go.Proofs.YtpoigngpdcmipaaGreat
namespace Go.Proofs.YtpoigngpdcmipaaGreat
open Go.RowKit Go.Shelf
theorem run_load_v6o {o : Oper} {a : Act} {w : World} {x : Operand} {g i : Nat} {cs : List Value} (ho : o.op = .load 38 x) (hx : a.eval x = .pointer (some ⟨g, i, none⟩)) (hr : w.rangeAt g i cs) (hl : cs.length = 37) :
    (execOp a.eval o).run Tryz.prog w = .ok (.value (.agg cs.toArray)) w := by
  have h := run_loadVar_mid (P := Tryz.prog) w g i 38 cs _ hr Tryz.underlying38 rfl (by rw [hl]; kernel_rfl)
  unfold execOp
  simp only [ho, hx, Instr.loadAt, Instr.sureAddr, Sem.run_bind, Sem.run_pure, Result.andThen_ok, h]
structure L6 (w : World) (B : Nat) (A : Option Addr) (l : List X6) : Prop where
  rd : RdS cl6 37 w B A l
  arg : ∀ x ∈ l, Arg w B x.A x.c x.q.dat
theorem Row6.l6 {V : World} {base : Nat} {v : Value} {l : List X6} (h : Row6 V base v l) : ∃ A c, v = .slice A l.length c ∧ L6 V V.heap.size A l ∧ l.length ≤ c := by
  obtain ⟨A, c, e, hr, hc⟩ := own_rds (cl := cl6) h.1 rfl rfl (fun x _ => cl6_len x.h6)
  exact ⟨A, c, e, ⟨hr, fun x hx => (h.2 x hx).arg⟩, hc⟩
end Go.Proofs.YtpoigngpdcmipaaGreat
