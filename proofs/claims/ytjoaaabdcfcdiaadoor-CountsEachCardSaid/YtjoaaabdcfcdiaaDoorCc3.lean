/-
  Contracts and lemmas on which the proofs of this seat stand (several texts in one). Conditions are each theorem's own.
-/
import Derived.Test.YtjoaaabdcfcdiaaDoorCc2
import Derived.OrdersHeld
import Derived.OrdersIn
import Derived.TacticsIn
import Derived.OwnWalkIn
import Derived.Maps.RangeWalk
import Derived.RangeFuncSeq
import Derived.Sort.CutIn
import Derived.Test.YtjoaaabdcfcdiaaDoorTie
import Derived.LaidMore
import Derived.Stop.LaidErr

/-
  A region that draws its order and calls an iterator's yield, within a round of a loop over another iterator: the walk's moves. Conditions are each theorem's own.
-/
namespace Go.Proofs.YtjoaaabdcfcdiaaDoor
open Go.RowKit Go.Shelf
def noDefer (ops : Array Oper) : Bool := ops.toList.all fun o => match o.op with | .defer _ => false | _ => true
theorem noDefer_spec {ops : Array Oper} (h : noDefer ops = true) (j : Nat) (o : Oper) c (hj : ops[j]? = some o) : o.op ≠ .defer c := by
  intro e
  have hm : o ∈ ops.toList := by
    obtain ⟨h1, h2⟩ := Array.getElem?_eq_some_iff.1 hj
    rw [← h2]; exact Array.getElem_mem_toList h1
  have := List.all_eq_true.1 h o hm
  rw [e] at this
  cases this
section
variable {l0 : Nat} {n : Nat} {P : Program} {ops : Array Oper} {Q : Exit → Act → World → Prop} {md : Region.Mode} {S : World → Prop}
/-- Whatever comes up next, S holds behind it. -/
def anyHR (l0 n : Nat) (P : Program) (md : Region.Mode) (ops : Array Oper) (Q : Exit → Act → World → Prop) (S : World → Prop) : Nat → Array Bool → Act → World → Prop
  | 0, listed, a, w => Region.ready md ops listed = [] ∧ Q .normal a w
  | fuel + 1, listed, a, w => (Region.ready md ops listed = [] → Q .normal a w) ∧
    ∀ i ∈ Region.ready md ops listed, wpOpIn (Fence.wide.inRound l0) n P ops Q i (fun a' w' => S w' ∧ anyHR l0 n P md ops Q S fuel (listed.setIfInBounds i true) a' w') a w
theorem any_of_HR : ∀ (fuel : Nat) (listed : Array Bool) (a : Act) (w : World), anyHR l0 n P md ops Q S fuel listed a w → wpAnyIn (Fence.wide.inRound l0) n P md ops Q fuel listed a w
  | 0, _, _, _, h => h
  | fuel + 1, _, _, _, h => ⟨h.1, fun i hi => wpOpIn_mono (fun a' w' h' => any_of_HR fuel _ a' w' h'.2) (h.2 i hi)⟩
theorem opR_here {i : Nat} {o : Oper} {v : Value} {a : Act} {w : World} {K : Act → World → Prop} (hd : ∀ c, o.op ≠ .defer c) (hi : ops[i]? = some o) (hy : YieldsIf P ops S o v a) (hS : S w) (h : K (a.put o.dst v) w) : wpOpIn (Fence.wide.inRound l0) n P ops Q i K a w := by
  unfold wpOpIn
  simp only [hi]
  rcases hy with ⟨hw, hv⟩ | ⟨hw, rfl⟩
  · rw [if_pos hw]
    refine ⟨fun _ _ => trivial, ?_⟩
    rw [Oper.semAt_plain _ _ _ hd, hv w hS]
    exact h
  · rw [if_neg (by rw [hw]; decide)]
    exact ⟨fun _ _ => trivial, h⟩
/-- Another operation, with that one's value there already or not. -/
theorem opR_swap {j : Nat} {oi oj : Oper} {v : Value} (hd : ∀ c, oj.op ≠ .defer c) (hj : ops[j]? = some oj) (hap : oi.apart ops oj = true) (hsi : ∀ cs b, oi.op ≠ .select cs b) (hsj : ∀ cs b, oj.op ≠ .select cs b)
    (hQ : ∀ c a w, Q (.panic c) (a.put oi.dst v) w → Q (.panic c) a w) {K : Act → World → Prop} {a : Act} {w : World} (hy : YieldsIf P ops S oi v a) (h : wpOpIn (Fence.wide.inRound l0) n P ops Q j K (a.put oi.dst v) w) :
    wpOpIn (Fence.wide.inRound l0) n P ops Q j (fun a' w' => YieldsIf P ops S oi v a' ∧ K (a'.put oi.dst v) w') a w := by
  obtain ⟨h1, h2, h3⟩ := Oper.apart_spec hap
  have stay : ∀ (b : Act), YieldsIf P ops S oi v b → ∀ u, YieldsIf P ops S oi v (b.put oj.dst u) := fun b hb u => hb.of_same (execOp_put oi hsi b oj.dst u h3) (wanted_put oi b oj.dst u h3)
  unfold wpOpIn at h ⊢
  simp only [hj] at h ⊢
  rw [wanted_put oj a oi.dst v h1] at h
  by_cases hw : Region.wanted oj (yielded ops a.tmps) = true
  · rw [if_pos hw] at h ⊢
    refine ⟨fun _ _ => trivial, ?_⟩
    have h := h.2
    rw [Oper.semAt_plain _ _ _ hd] at h ⊢
    rw [execOp_put oj hsj a oi.dst v h1] at h
    generalize (execOp a.eval oj).run P w = r at h ⊢
    rcases r with ⟨x, w'⟩ | ⟨x, w'⟩
    · cases x with
      | value u => exact ⟨stay a hy u, by rw [← Act.put_comm a v u h2]; exact h⟩
      | skip => exact ⟨stay a hy _, by rw [← Act.put_comm a v undef h2]; exact h⟩
      | defer d => exact ⟨stay { a with defers := d :: a.defers } (hy.of_same rfl rfl) _, by rw [← Act.put_comm _ v undef h2, ← Act.put_defers]; exact h⟩
      | enter f args =>
        refine ⟨h.1, CallsIn.mono h.2 fun e w'' he => ?_⟩
        cases e with
        | returned u => exact ⟨stay a hy u, by rw [← Act.put_comm a v u h2]; exact he⟩
        | panicked c => exact hQ _ _ _ he
        | outgrown => exact he
      | row r args => exact ⟨h.1, RowsIn.mono h.2 fun u w'' he => ⟨stay a hy u, by rw [← Act.put_comm a v u h2]; exact he⟩⟩
      | round l f tmps assign body =>
        refine ⟨h.1, RoundIn.mono h.2 fun e w'' he => ?_⟩
        cases e with
        | returned u => exact ⟨stay a hy u, by rw [← Act.put_comm a v u h2]; exact he⟩
        | panicked c => exact hQ _ _ _ he
        | outgrown => exact he
      | _ => exact h
    · cases x with
      | panic u => exact hQ _ _ _ h
      | _ => exact h
  · rw [if_neg hw] at h ⊢
    exact ⟨fun _ _ => trivial, stay a hy _, by rw [← Act.put_comm a v undef h2]; exact h.2⟩
theorem takeR_all {i : Nat} {oi : Oper} {v : Value} (hnd : ∀ (j : Nat) (o : Oper) c, ops[j]? = some o → o.op ≠ .defer c) (hi : ops[i]? = some oi) (hsel : ∀ (j : Nat) (o : Oper) cs b, ops[j]? = some o → o.op ≠ .select cs b) (hQ : ∀ c a w, Q (.panic c) (a.put oi.dst v) w → Q (.panic c) a w) :
    ∀ (fuel : Nat) (listed : Array Bool) (a : Act) (w : World), (∀ j oj, ops[j]? = some oj → j ≠ i → listed.getD j true = false → (∀ e ∈ oj.after, Region.binds md e = true → e.on ≠ i) → oi.apart ops oj = true) →
      i ∈ Region.ready md ops listed → YieldsIf P ops S oi v a → S w → anyHR l0 n P md ops Q S fuel (listed.setIfInBounds i true) (a.put oi.dst v) w → anyHR l0 n P md ops Q S (fuel + 1) listed a w
  | fuel, listed, a, w, free, hr, hy, hS, H => by
    refine ⟨fun h => (by rw [h] at hr; cases hr), fun j hj => ?_⟩
    by_cases hji : j = i
    · subst hji; exact opR_here (fun c => hnd j oi c hi) hi hy hS ⟨hS, H⟩
    have hj' := ready_mono hj hji
    cases fuel with
    | zero => rw [H.1] at hj'; cases hj'
    | succ fuel =>
      obtain ⟨hjun, oj, hoj, hall⟩ := mem_ready.1 hj
      have hnot : ∀ e ∈ oj.after, Region.binds md e = true → e.on ≠ i := fun e he hb heq => by
        have g1 := hall e he hb
        have g0 := (mem_ready.1 hr).1
        rw [heq] at g1
        rcases Nat.lt_or_ge i listed.size with h' | h'
        · simp [h'] at g0 g1; rw [g0] at g1; cases g1
        · simp [Array.getElem?_eq_none h'] at g1
      refine wpOpIn_mono (fun a' w' h3 => ⟨h3.2.1, takeR_all hnd hi hsel hQ fuel (listed.setIfInBounds j true) a' w' (fun k ok hk hki hun hno => free k ok hk hki ?_ hno) (ready_mono hr (Ne.symm hji)) h3.1 h3.2.1 (by rw [Array.setIfInBounds_comm _ _ hji]; exact h3.2.2)⟩)
        (opR_swap (fun c => hnd j oj c hoj) hoj (free j oj hoj hji hjun hnot) (fun cs b => hsel i oi cs b hi) (fun cs b => hsel j oj cs b hoj) hQ hy (H.2 j hj'))
      by_cases hjk : j = k
      · subst hjk; exact hjun
      · rw [getD_set_ne true hjk] at hun; exact hun
/-- An operation that yields its value in each world of the class is taken first. -/
theorem pureR {i : Nat} {oi : Oper} {v : Value} {fuel : Nat} {listed : Array Bool} {a : Act} {w : World} (hnd : noDefer ops = true) (hi : ops[i]? = some oi) (hs : Region.noSelect ops = true) (hf : Region.free md ops listed i = true) (hr : (Region.ready md ops listed).contains i = true)
    (hQ : ∀ c a w, Q (.panic c) (a.put oi.dst v) w → Q (.panic c) a w) (hw : Region.wanted oi (yielded ops a.tmps) = true) (hrun : ∀ w, S w → (execOp a.eval oi).run P w = .ok (.value v) w) (hS : S w)
    (h : S w → anyHR l0 n P md ops Q S fuel (listed.setIfInBounds i true) (a.put oi.dst v) w) : anyHR l0 n P md ops Q S (fuel + 1) listed a w :=
  takeR_all (noDefer_spec hnd) hi (Region.noSelect_spec hs) hQ fuel listed a w (Region.free_spec hi hf) (by simpa using hr) (.inl ⟨hw, hrun⟩) hS (h hS)
/-- The only one that may come up. -/
theorem oneR {i : Nat} {oi : Oper} {fuel : Nat} {listed : Array Bool} {a : Act} {w : World} (hr : Region.ready md ops listed = [i]) (hi : ops[i]? = some oi) (hw : Region.wanted oi (yielded ops a.tmps) = true)
    (h : ∀ K : Act → World → Prop, (∀ a w, S w → (S w → anyHR l0 n P md ops Q S fuel (listed.setIfInBounds i true) a w) → K a w) → oi.wpIn (Fence.wide.inRound l0) n P a w K Q) : anyHR l0 n P md ops Q S (fuel + 1) listed a w := by
  refine ⟨fun h0 => (by rw [hr] at h0; cases h0), fun j hj => ?_⟩
  rw [hr, List.mem_singleton] at hj
  subst hj
  unfold wpOpIn
  simp only [hi]
  rw [if_pos hw]
  exact h _ (fun a w hS hW => ⟨hS, hW hS⟩)
theorem doneR {listed : Array Bool} {a : Act} {w : World} (hr : Region.ready md ops listed = []) (h : Q .normal a w) : ∀ fuel, anyHR l0 n P md ops Q S fuel listed a w
  | 0 => ⟨hr, h⟩
  | _ + 1 => ⟨fun _ => h, by rw [hr]; simp⟩
theorem regionR {id : Nat} {a : Act} {w : World} (hm : P.follows .mixedOrders = true) (hS : S w.drew) (h : S w.drew → anyHR l0 n P .any ops Q S ops.size (Array.replicate ops.size false) a w.drew) : (Code.region id ops true).wpIn (Fence.wide.inRound l0) n P Q a w :=
  wpIn_region_any hm (any_of_HR _ _ _ _ (h hS))
/-- A call of a function of the program, by its plain contract. -/
theorem callR {o : Oper} {a : Act} {w : World} {K : Act → World → Prop} {f : FuncId} {args : Array Value} (hd : ∀ c, o.op ≠ .defer c) (hrun : (execOp a.eval o).run P w = .ok (.enter f args) w) (h : Calls P f args w fun e w' => ∃ v, e = .returned v ∧ K (a.put o.dst v) w') : o.wpIn (Fence.wide.inRound l0) n P a w K Q := by
  refine ⟨fun _ _ => trivial, ?_⟩
  rw [Oper.semAt_plain _ _ _ hd, hrun]
  exact ⟨fun h => (by cases h), (callsIn_wide.2 h).mono fun e w' he => by obtain ⟨v, rfl, hk⟩ := he; exact hk⟩
/-- A call of yield. -/
theorem yieldR {o : Oper} {a : Act} {w : World} {K : Act → World → Prop} {l : Nat} {args : Array Value} {R : Ending → World → Prop} (hd : ∀ c, o.op ≠ .defer c) (hrun : (execOp a.eval o).run P w = (Instr.yield l args).run P w) (hY : YieldAt Fence.wide (n - 1) P l args w R)
    (h : ∀ e w', R e w' → ∃ v, e = .returned v ∧ K (a.put o.dst v) w') : o.wpIn (Fence.wide.inRound l0) n P a w K Q := by
  obtain ⟨fn, tmps, assign, body, hy, hR⟩ := hY
  refine ⟨fun _ _ => trivial, ?_⟩
  rw [Oper.semAt_plain _ _ _ hd, hrun, hy]
  exact ⟨fun h => (by cases h), hR.mono fun e w' he => by obtain ⟨v, rfl, hk⟩ := h e w' he; exact hk⟩
end
/-- One that may come up alone, its value known. -/
theorem valR {n l0 : Nat} {P : Program} {Q : Exit → Act → World → Prop} {K : Act → World → Prop} {o : Oper} {a : Act} {w : World} {v : Value} (hd : ∀ c, o.op ≠ .defer c) (hrun : (execOp a.eval o).run P w = .ok (.value v) w) (h : K (a.put o.dst v) w) : o.wpIn (Fence.wide.inRound l0) n P a w K Q :=
  ⟨fun _ _ => trivial, by rw [Oper.semAt_plain _ _ _ hd, hrun]; exact h⟩
end Go.Proofs.YtjoaaabdcfcdiaaDoor

/-
  What Each hands back, as a promise to the loop that ranges over it. Conditions are each theorem's own.
-/
namespace Go.Proofs.YtjoaaabdcfcdiaaDoor
open Go.RowKit Go.Shelf
attribute [local go_sem] Oper.semAt_some run_store_fnC
/-- Every block but some lies as it lay. -/
structure KZ (Z : Nat → Prop) (X Y : World) : Prop where
  size : X.heap.size ≤ Y.heap.size
  same : ∀ b, ¬ Z b → b < X.heap.size → Y.heap[b]? = X.heap[b]?
theorem KZ.trans {Z : Nat → Prop} {X Y V : World} (h : KZ Z X Y) (k : KZ Z Y V) : KZ Z X V := ⟨Nat.le_trans h.size k.size, fun b hb hl => (k.same b hb (Nat.lt_of_lt_of_le hl h.size)).trans (h.same b hb hl)⟩
theorem KZ.mono {Z Z' : Nat → Prop} {X Y : World} (h : KZ Z X Y) (hz : ∀ b, Z b → Z' b) : KZ Z' X Y := ⟨h.size, fun b hb hl => h.same b (fun z => hb (hz b z)) hl⟩
theorem KZ.put {Z : Nat → Prop} {X : World} {b : Nat} (o : Obj) (hz : Z b) : KZ Z X (X.putObj b o) := ⟨by simp, fun k hk _ => World.putObj_heap_other (fun e => hk (by rw [e]; exact hz))⟩
theorem KZ.below {Z : Nat → Prop} {X Y : World} (h : Below X.heap.size X Y) : KZ Z X Y := ⟨h.size, fun b _ hl => h.block b hl⟩
theorem KZ.row {Z : Nat → Prop} {X Y : World} (h : KZ Z X Y) {A : Option Addr} {L : List Int} (hz : ∀ g, A = some g → ¬ Z g.block) (hr : RowC A L X) : RowC A L Y := by
  rcases hr with e | ⟨g, e, hg⟩
  · exact .inl e
  · exact .inr ⟨g, e, (h.same g (hz _ e) (heap_lt hg)).trans hg⟩
theorem KZ.box {Z : Nat → Prop} {X Y : World} (h : KZ Z X Y) {b t : Nat} {v : Value} (hz : ¬ Z b) (hb : Boxed X b t v) : Boxed Y b t v := (h.same b hz (Boxed.lt hb)).trans hb
theorem KZ.tabs {Z : Nat → Prop} {X Y : World} (h : KZ Z X Y) (hz : ¬ Z (0 : Nat)) (ht : Tabs X) : Tabs Y := ht.keep (h.same _ hz ht.lt)
theorem KZ.from {Z : Nat → Prop} {X Y : World} (h : KZ Z X Y) {B : Nat} (hz : ∀ b, Z b → b < B) : KeepsFrom B X Y := ⟨h.size, fun k o hk ho _ => (h.same k (fun z => by have := hz k z; omega) (heap_lt ho)).trans ho⟩
theorem tabs_own {X Y : World} {r : Option Nat} {B : Nat} (ht : Tabs X) (hg : X.grownBy Y r) (hr : ∀ k, r = some k → B ≤ k) (hB : (0 : Nat) < B) : Tabs Y :=
  ht.keep (hg.block _ ht.lt (fun e => by have := hr _ e.symm; omega))
theorem grown_noneC {w w' : World} (h : Below w.heap.size w w') : w.grownBy w' none := ⟨h.os, h.tape, h.output, h.size, fun k hk _ => h.block k hk⟩
theorem wpIn_actC {F : Fence} {n : Nat} {P : Program} {c : Code} {Q : Exit → Act → World → Prop} {a : Act} {w : World} (h : ∀ a0, a0 = a → c.wpIn F n P Q a0 w) : c.wpIn F n P Q a w := h a rfl
def encN (e : Nat × Int) : Array Value := #[.string (strB (nmC (e.1 : Int))), .int .i64 e.2]
set_option maxRecDepth 100000 in
theorem cneach1_seq (q be bm c : Nat) (A : Option Addr) (L : List Int) (Z : Nat → Prop) (w0 : World) (hbe : Boxed w0 be 44 (.func (.func 21) #[] #[.pointer (some ⟨bm, 0, none⟩)])) (hbm : Boxed w0 bm 22 (.slice A L.length c))
    (hrow : RowC A L w0) (hS : L.length ≤ 1000000) (hT : Tabs w0) (hZq : ∀ b, Z b → b ≤ q) (hZt : ¬ Z (0 : Nat)) (hZg : ∀ g, A = some g → ¬ Z g.block) (hAl : ∀ g, A = some g → g.block < w0.heap.size) (m : Nat) (hm : 2 ≤ m) :
    SeqOwn m Tryd.prog 20 #[.pointer (some ⟨be, 0, none⟩)] encN (GM (metF 0 L)) (KZ Z) (fun xs => xs = metF 0 L) q w0 := by
  intro l J W hW hq hJ hY h0
  have hbW := Boxed.below hbe hW (Boxed.lt hbe)
  have kbe := Boxed.cell hbW
  have hTW := hT.step hW
  obtain ⟨V, hV⟩ : ∃ V, V = W.alloc (.cells #[.func (.yield l) #[] #[]] 46) := ⟨_, rfl⟩
  have hJ0 : J [] V := by rw [hV]; exact hJ.alloc _ h0
  have bV : Below W.heap.size W V := by rw [hV]; exact (Below.refl _ W).alloc (Nat.le_refl _) _
  have hyb : Boxed V W.heap.size 46 (.func (.yield l) #[] #[]) := by rw [hV]; exact Boxed.new W _ _
  have hTV := hTW.step bV
  have hwV : Below w0.heap.size w0 V := hW.trans (bV.mono hW.size)
  have HV := Lib.hid hV
  have zV := bV.size
  have zyb := Boxed.lt hyb
  have zT := hTW.lt
  have kbV := (bV.cell (p := ⟨be, 0, none⟩) (Boxed.lt hbW)).trans kbe
  clear hV
  refine callsIn_of_wp_marks Tryd.func20 rfl trivial ?_ rfl
  simp only [Tryd.ntmps20, List.size_toArray, List.length_cons, List.length_nil, Nat.reduceAdd, Nat.reduceSub, Array.replicate_succ, Array.replicate_zero, List.push_toArray, List.append_toArray, List.nil_append, List.cons_append]
  gi_upto_region 1 with fail
  rw [← HV.out]
  gi_wp2
  refine wpIn_actC (fun a0 ha0 => ?_)
  refine range_own (by omega) (gf := 21) (lb := #[.pointer (some ⟨bm, 0, none⟩)]) (by subst ha0; rfl) (enters_of Tryd.func21 (by kernel_rfl) rfl)
    (cnmet1_seq (V.heap.size + 1) bm c A L (KZ fun b => Z b ∨ b = V.heap.size + 1) (fun X Y k r => k.row (fun g e z => by
      rcases z with z | z
      · exact hZg g e z
      · have := hAl g e; have := hwV.size; omega) r) w0 (Boxed.cell hbm) hrow hS (m - 1) (by omega))
    (fun h k => h.trans k) (fun X r r' h => KZ.put _ (.inr rfl)) hwV (fun _ => rfl) (fun _ _ _ _ _ _ h _ _ => h)
    (fun pre X => J pre X ∧ Boxed X W.heap.size 46 (.func (.yield l) #[] #[]) ∧ Tabs X)
    (fun pre X Y r hs hg hr => ⟨hJ pre X Y r hs.1 hg (fun k e => ⟨Nat.le_trans zV (hr k e).1, (hr k e).2⟩), box_keep (n := V.heap.size) hs.2.1 hg hr, tabs_own (B := V.heap.size) hs.2.2 hg (fun k e => (hr k e).1) (by omega)⟩)
    ⟨hJ0, hyb, hTV⟩
    (fun x => { tmps := #[.func (.yield l) #[] #[], .pointer (some ⟨be, 0, none⟩), .pointer (some ⟨W.heap.size, 0, none⟩), .int .i64 (x.1 : Int), .int .i64 x.2, .func (.func 21) #[] #[.pointer (some ⟨bm, 0, none⟩)], .int .i64 (x.1 : Int), .int .i64 x.2, undef, undef, undef, undef, undef, undef], defers := [] }) ?assign ?body ?done
  case assign =>
    intro l' x X K hK
    subst ha0
    gi_wp2
    simpa [encM] using hK
  case body =>
    rintro l' pre x X ⟨hj, hb, ht⟩ hg hz
    clear ha0 h0 hJ0 hyb hTV hTW hbW kbe kbV
    have hd : Below X.heap.size X X.drew := (Below.refl _ X).drew
    have hjd : J pre X.drew := hJ pre X _ none hj (grown_noneC hd) (fun k e => by cases e)
    have hbd : Boxed X.drew W.heap.size 46 (.func (.yield l) #[] #[]) := Boxed.below hb hd (Boxed.lt hb)
    have HTD := Lib.hid (ht.step hd)
    have HY2 := Lib.hid (hY pre x X.drew hjd hg)
    gi_upto_region 4 with fail
    refine regionR (S := fun Y => Boxed Y W.heap.size 46 (.func (.yield l) #[] #[])) (by kernel_rfl) hbd (fun hS => ?_)
    refine pureR (i := 0) (oi := ⟨some 8, _, _, _, _, _⟩) (by kernel_rfl) rfl (by kernel_rfl) (by kernel_rfl) (by kernel_rfl) (fun _ _ _ h => h) (by rfl) (v := .func (.yield l) #[] #[]) (fun w hSw => (by have kk := Boxed.cell hSw; go_simp)) hS (fun hS => ?_)
    try go_frame
    refine pureR (i := 1) (oi := ⟨some 9, _, _, _, _, _⟩) (by kernel_rfl) rfl (by kernel_rfl) (by kernel_rfl) (by kernel_rfl) (fun _ _ _ h => h) (by rfl) (v := .int .i64 (x.1 : Int)) (fun w hSw => (by go_simp)) hS (fun hS => ?_)
    try go_frame
    refine pureR (i := 3) (oi := ⟨some 11, _, _, _, _, _⟩) (by kernel_rfl) rfl (by kernel_rfl) (by kernel_rfl) (by kernel_rfl) (fun _ _ _ h => h) (by rfl) (v := .int .i64 x.2) (fun w hSw => (by go_simp)) hS (fun hS => ?_)
    try go_frame
    refine oneR (i := 2) (oi := ⟨some 10, _, _, _, _, _⟩) (by kernel_rfl) rfl (by rfl) (fun K hK => ?_)
    refine callR (f := 13) (args := #[.int .i64 (x.1 : Int)]) (fun c h => by cases h) (by go_simp; try rfl) ((cname (x.1 : Int) _ HTD.out).mono ?_)
    rintro e w1 ⟨rfl, rfl⟩
    refine ⟨_, rfl, hK _ _ hS (fun hS => ?_)⟩
    clear hK K
    try go_frame
    refine oneR (i := 4) (oi := ⟨some 12, _, _, _, _, _⟩) (by kernel_rfl) rfl (by rfl) (fun K hK => ?_)
    refine yieldR (l := l) (args := encN x) (fun c h => by cases h) (by go_simp; try rfl) (YieldAt.anyO _ HY2.out) ?_
    rintro e Y ⟨rfl, hj2, hk2⟩
    have hW9 : ∀ b, Z b → b < W.heap.size := fun b z => Nat.lt_of_le_of_lt (hZq b z) hq
    have hS2 : Boxed Y W.heap.size 46 (.func (.yield l) #[] #[]) := hk2.box (fun z => by have := hW9 _ z; omega) hbd
    refine ⟨_, rfl, hK _ _ hS2 (fun hS => ?_)⟩
    clear hK K
    try go_frame
    refine oneR (i := 5) (oi := ⟨some 13, _, _, _, _, _⟩) (by kernel_rfl) rfl (by rfl) (fun K hK => ?_)
    refine valR (v := .bool false) (fun c h => by cases h) (by go_simp) (hK _ _ hS (fun hS => ?_))
    clear hK K
    try go_frame
    refine doneR (by kernel_rfl) ?_ _
    gi_wp2
    have hkk : KZ Z X Y := (KZ.below hd).trans hk2
    exact ⟨hkk.from (fun b z => Nat.lt_of_lt_of_le (hW9 b z) zV), hkk.mono (fun b z => .inl z), hj2, hS2, hkk.tabs hZt ht⟩
  case done =>
    rintro D xs X hD hxs ⟨hj, _, _⟩ hK
    subst ha0
    gi_wp2
    refine ⟨by simp, .inl ⟨_, _, rfl, run_takeDeferred hK, ?_⟩⟩
    exact ⟨_, results_none rfl _ _ _, ⟨_, rfl⟩, xs, hxs, hJ.putObj _ hj (Nat.le_trans zV hD) hK rfl⟩
end Go.Proofs.YtjoaaabdcfcdiaaDoor

/-
  Each of counts, and of nobody's. Conditions are each theorem's own.
-/
namespace Go.Proofs.YtjoaaabdcfcdiaaDoor
open Go.RowKit Go.Shelf
attribute [local go_sem] run_store_fnC
theorem cneach {w : World} {k : Nat} {L : List Int} (h : Cn w k L) : Calls Tryd.prog 16 #[.pointer (some ⟨k, 0, none⟩)] w fun e w' => ∃ m b, e = .returned (.func (.func 20) #[] #[.pointer (some ⟨b, 0, none⟩)]) ∧ Boxed w' b 44 (.func (.func 21) #[] #[.pointer (some ⟨m, 0, none⟩)]) ∧ Boxed w' m 22 (.slice (some ⟨w.heap.size, 0, none⟩) 14 14) ∧ w'.heap[w.heap.size]? = some (.cells (L.map (Value.int .i64)).toArray 38 (0, 0)) ∧ Below w.heap.size w w' := by
  have HK := Lib.hid h
  clear h
  go_enter Tryd.func16, Tryd.ntmps16
  go_wp2_with (go_at_call 19; refine (cnmet HK.out).mono ?_; rintro e w1 ⟨m, rfl, h1, hm, h2, x1⟩; have H1 := Lib.hid h1; have H2 := Lib.hid h2; clear h1 h2)
  go_ret
  have z1 := Boxed.lt H1.out
  have b1 := (Below.refl _ w1).alloc (Nat.le_refl _) (.cells #[.func (.func 21) #[] #[.pointer (some ⟨m, 0, none⟩)]] 44)
  exact ⟨_, _, rfl, Boxed.new _ _ _, Boxed.below H1.out b1 z1, (b1.block _ (heap_lt H2.out)).trans H2.out, x1.trans (b1.mono x1.size)⟩
theorem loadv_boolC {w : World} {g : Nat} {v : Value} (h : Boxed w g 4 v) : (loadVar 4 ⟨g, 0, none⟩).run Tryd.prog w = .ok v w := by
  have hagg : (isAgg 4).run Tryd.prog w = .ok false w := by
    unfold isAgg
    rw [Sem.run_bind, run_underlying Tryd.underlying4 w]; rfl
  have hc := h.cell
  simp [loadVar, Sem.run_bind, hagg, hc]
theorem cell1c {fn : Func} {p : Tmp} {tmps : Array Value} {w : World} {g : Nat} {z : Value} (h : fn.results = #[.cell p 4]) (hp : tmps.getD p undef = .pointer (some ⟨g, 0, none⟩)) (h0 : Boxed w g 4 z) :
    (results fn tmps).run Tryd.prog w = .ok z w := by
  have hp' : tmps[p]?.getD undef = .pointer (some ⟨g, 0, none⟩) := by simpa using hp
  simp [results, h, hp', asAddr, loadv_boolC h0]
/-! ### Sessions that no call made -/
/-- A session's box at B, a result's at B + 1, sessions that no call made at g. -/
structure Nbw (B g : Nat) (w X : World) : Prop where
  res : Boxed X B 4 (.bool false)
  z : X.cell? ⟨g, 0, none⟩ = some (.bool false)
  tab : Tabs X
  bel : Below B w X
theorem Nbw.below {B g : Nat} {w U V : World} (h : Nbw B g w U) (hb : Below U.heap.size U V) : Nbw B g w V :=
  ⟨Boxed.below h.res hb (Boxed.lt h.res), (hb.cell (p := ⟨g, 0, none⟩) (cell_block h.z)).trans h.z, h.tab.step hb, h.bel.trans (hb.mono (Nat.le_of_lt (Boxed.lt h.res)))⟩
theorem Nbw.kept {B g n : Nat} {w X Y : World} {r : Option Nat} (h : Nbw B g w X) (hg : X.grownBy Y r) (hr : ∀ k, r = some k → n ≤ k ∧ ∃ o : Obj, X.heap[k]? = some o ∧ o.isCells = false) (hn : B ≤ n) (hw : B ≤ w.heap.size) (hn0 : (0 : Nat) < n) : Nbw B g w Y :=
  ⟨box_keep h.res hg hr, cell_kept h.z hg (fun k e => (hr k e).2), tabs_own h.tab hg (fun k e => (hr k e).1) hn0, below_keep h.bel hg hr hn hw⟩
end Go.Proofs.YtjoaaabdcfcdiaaDoor

/-
  What a range over Each of counts tells, in plain words; the blocks of a law over it. Conditions are each theorem's own.
-/
namespace Go.Proofs.YtjoaaabdcfcdiaaDoor
open Go.RowKit Go.Shelf
theorem metF_mem : ∀ {l : List Int} {i j : Nat} {y : Int}, (j, y) ∈ metF i l ↔ ∃ k, j = i + k ∧ l[k]? = some y ∧ 0 < y
  | [], i, j, y => by simp [metF]
  | x :: l, i, j, y => by
    have ih := metF_mem (l := l) (i := i + 1) (j := j) (y := y)
    have key : (∃ k, j = i + k ∧ (x :: l)[k]? = some y ∧ 0 < y) ↔ (j = i ∧ x = y ∧ 0 < y) ∨ ∃ k, j = i + 1 + k ∧ l[k]? = some y ∧ 0 < y := by
      constructor
      · rintro ⟨k, h1, h2, h3⟩
        cases k with
        | zero => left; simp at h2; exact ⟨by omega, h2, h3⟩
        | succ k => right; exact ⟨k, by omega, by simpa using h2, h3⟩
      · rintro (⟨h1, h2, h3⟩ | ⟨k, h1, h2, h3⟩)
        · exact ⟨0, by omega, by simp [h2], h3⟩
        · exact ⟨k + 1, by omega, by simpa using h2, h3⟩
    rw [key, ← ih, show metF i (x :: l) = if 0 < x then (i, x) :: metF (i + 1) l else metF (i + 1) l from rfl]
    split
    · rename_i hx
      rw [List.mem_cons]
      constructor
      · rintro (h | h)
        · injection h with h1 h2; exact .inl ⟨h1, h2.symm, by rw [h2]; exact hx⟩
        · exact .inr h
      · rintro (⟨h1, h2, _⟩ | h)
        · left; rw [h1, h2]
        · exact .inr h
    · rename_i hx
      constructor
      · exact .inr
      · rintro (⟨_, h2, h3⟩ | h)
        · omega
        · exact h
theorem metF_sorted : ∀ (l : List Int) (i : Nat), (metF i l).Pairwise (fun a b => a.1 < b.1)
  | [], i => by simp [metF]
  | x :: l, i => by
    unfold metF
    split
    · refine List.pairwise_cons.2 ⟨fun b hb => ?_, metF_sorted l (i + 1)⟩
      obtain ⟨j, y⟩ := b
      obtain ⟨k, h, _⟩ := metF_mem.1 hb
      show i < j
      omega
    · exact metF_sorted l (i + 1)
def sumM (l : List (Nat × Int)) : Int := (l.map (·.2)).sum
def lastM (l : List (Nat × Int)) : Nat := (l.getLast?.map (·.1)).getD 0
theorem lastM_snoc (l : List (Nat × Int)) (e : Nat × Int) : lastM (l ++ [e]) = e.1 := by simp [lastM]
theorem sumM_snoc (l : List (Nat × Int)) (e : Nat × Int) : sumM (l ++ [e]) = sumM l + e.2 := by simp [sumM]
theorem sumM_met : ∀ {l : List Int} (i : Nat), (∀ x ∈ l, 0 ≤ x) → sumM (metF i l) = l.sum
  | [], i, _ => by simp [metF, sumM]
  | x :: l, i, h => by
    have h1 := h x (List.mem_cons_self ..)
    have ih := sumM_met (l := l) (i + 1) (fun y hy => h y (List.mem_cons_of_mem _ hy))
    unfold metF
    split
    · rw [List.sum_cons, ← ih]; simp [sumM]
    · rw [List.sum_cons, ih]; omega
theorem sumM_nn {l : List (Nat × Int)} (h : ∀ e ∈ l, 0 < e.2) : 0 ≤ sumM l := by
  induction l with
  | nil => simp [sumM]
  | cons e l ih =>
    have h1 := h e (List.mem_cons_self ..)
    have h2 := ih (fun y hy => h y (List.mem_cons_of_mem _ hy))
    have : sumM (e :: l) = e.2 + sumM l := by simp [sumM]
    omega
/-- What a round is told: the next of which there are any. -/
theorem met_next {L : List Int} {N : Nat} (hb : bdC L N) (h0 : L.getD 0 0 = 0) {pre : List (Nat × Int)} {i : Nat} {x : Int} (hg : ∃ more, metF 0 L = pre ++ (i, x) :: more) :
    lastM pre < i ∧ i < L.length ∧ L[i]? = some x ∧ 0 < x ∧ (∀ j, lastM pre < j → j < i → L.getD j 0 = 0) ∧ 0 ≤ sumM pre ∧ sumM pre + x ≤ L.sum := by
  obtain ⟨more, hm⟩ := hg
  have hs := metF_sorted L 0
  rw [hm] at hs
  obtain ⟨s1, s2, s3⟩ := List.pairwise_append.1 hs
  obtain ⟨s4, s5⟩ := List.pairwise_cons.1 s2
  have hmem : (i, x) ∈ metF 0 L := by rw [hm]; simp
  obtain ⟨k, hk, hx, hp⟩ := metF_mem.1 hmem
  obtain rfl : i = k := by omega
  have hil : i < L.length := (List.getElem?_eq_some_iff.1 hx).1
  have hpos : ∀ e ∈ metF 0 L, 0 < e.2 := fun e he => by obtain ⟨j, y⟩ := e; obtain ⟨_, _, _, h⟩ := metF_mem.1 he; exact h
  have hlast : ∀ e ∈ pre, e.1 ≤ lastM pre := by
    intro e he
    rcases List.eq_nil_or_concat pre with h | ⟨l, b, h⟩
    · rw [h] at he; cases he
    · rw [List.concat_eq_append] at h
      rw [h] at he s1 ⊢
      rw [lastM_snoc]
      rcases List.mem_append.1 he with h9 | h9
      · exact Nat.le_of_lt ((List.pairwise_append.1 s1).2.2 e h9 b (by simp))
      · simp at h9; rw [h9]; exact Nat.le_refl _
  have hli : lastM pre < i := by
    rcases List.eq_nil_or_concat pre with h | ⟨l, b, h⟩
    · have hi0 : i ≠ 0 := by
        rintro rfl
        rw [List.getD_eq_getElem?_getD, hx] at h0
        simp at h0; omega
      rw [h]; show 0 < i; omega
    · rw [List.concat_eq_append] at h
      rw [h, lastM_snoc]
      exact s3 b (by rw [h]; simp) (i, x) (by simp)
  refine ⟨hli, hil, hx, hp, ?_, sumM_nn (fun e he => hpos e (by rw [hm]; exact List.mem_append_left _ he)), ?_⟩
  · intro j h1 h2
    by_cases hz : L.getD j 0 = 0
    · exact hz
    · exfalso
      have hjl : j < L.length := by omega
      have hj : L[j]? = some L[j] := List.getElem?_eq_getElem hjl
      have hg : L.getD j 0 = L[j] := by rw [List.getD_eq_getElem?_getD, hj]; rfl
      have hb1 := (hb L[j] (List.getElem_mem hjl)).1
      have hmj : (j, L[j]) ∈ metF 0 L := metF_mem.2 ⟨j, by omega, hj, by rw [hg] at hz; omega⟩
      rw [hm] at hmj
      rcases List.mem_append.1 hmj with h9 | h9
      · have := hlast _ h9; simp only at this; omega
      · rcases List.mem_cons.1 h9 with h9 | h9
        · injection h9 with h9 _; omega
        · have := s4 _ h9; simp only at this; omega
  · have hsum := sumM_met (l := L) 0 (fun y hy => (hb y hy).1)
    rw [hm] at hsum
    have h1 : sumM (pre ++ (i, x) :: more) = sumM pre + (x + sumM more) := by simp [sumM]
    have h2 := sumM_nn (l := more) (fun e he => hpos e (by rw [hm]; simp [he]))
    omega
theorem sum_set {L : List Int} {j : Nat} {y z : Int} (h : L[j]? = some y) : (L.set j z).sum = L.sum - y + z := by
  induction L generalizing j with
  | nil => simp at h
  | cons a L ih =>
    cases j with
    | zero => simp at h; subst h; simp; omega
    | succ j => simp at h; have := ih h; simp [this]; omega
theorem sum_upC {L : List Int} (hn : L.length = 14) (r : Int) : (upC L r).sum = L.sum + (if isC r = true then 1 else 0) := by
  rcases inC L hn r with ho | ⟨j, x, rfl, h0, hj, hx, hg⟩
  · have : isC r = false := decide_eq_false ho
    rw [upC, if_neg ho, this]; simp
  · have h1 : isC (j : Int) = true := decide_eq_true (by omega)
    rw [upC, if_pos (by omega), h1, Int.toNat_natCast, hg, sum_set hx]; simp; omega
structure Ech (w : World) (sb lb cb k : Nat) (L : List Int) (s v : Int) (X : World) : Prop where
  res : Boxed X w.heap.size 4 (.bool false)
  sum : Boxed X sb 3 (.int .i64 s)
  lst : Boxed X lb 3 (.int .i64 v)
  cp : Boxed X cb 24 (.pointer (some ⟨k, 0, none⟩))
  cn : Cn X k L
  tab : Tabs X
  bel : Below w.heap.size w X
structure E1 (w : World) (cb k j : Nat) (L : List Int) (X : World) : Prop where
  res : Boxed X w.heap.size 4 (.bool false)
  cp : Boxed X cb 24 (.pointer (some ⟨k, 0, none⟩))
  cn : Cn X k L
  tab : Tabs X
  bel : Below w.heap.size w X
  bd : bdC L j
  z : L.getD 0 0 = 0
  sm : 0 ≤ L.sum ∧ L.sum ≤ (j : Int)
theorem E1.add {w X Y : World} {cb k j : Nat} {L : List Int} (h : E1 w cb k j L X) (r : Int) (o : OneC k X Y) (c : Cn Y k (upC L r)) (h1 : w.heap.size < k) (h2 : k < cb) (ht : (0 : Nat) < w.heap.size) : E1 w cb k (j + 1) (upC L r) Y :=
  ⟨(o.block (Boxed.lt h.res) (by omega)).trans h.res, (o.block (Boxed.lt h.cp) (by omega)).trans h.cp, c, h.tab.keep (o.block h.tab.lt (by omega)), h.bel.trans (o.below (by omega) h.bel.size), bdC_up h.bd h.cn.n r, upC_zero h.z r, by
    have := h.sm
    rw [sum_upC h.cn.n r]
    split <;> omega⟩
def lvAt (X : World) (b : Nat) : Nat := match X.cell? ⟨b, 0, none⟩ with | some (.int _ v) => v.toNat | _ => 0
theorem lvAt_box {X : World} {b : Nat} {v : Int} (h : Boxed X b 3 (.int .i64 v)) : lvAt X b = v.toNat := by unfold lvAt; rw [Boxed.cell h]
section
variable {w X Y : World} {sb lb cb k : Nat} {L : List Int} {s v : Int}
theorem Ech.below (h : Ech w sb lb cb k L s v X) (hb : Below X.heap.size X Y) : Ech w sb lb cb k L s v Y :=
  ⟨Boxed.below h.res hb (Boxed.lt h.res), Boxed.below h.sum hb (Boxed.lt h.sum), Boxed.below h.lst hb (Boxed.lt h.lst), Boxed.below h.cp hb (Boxed.lt h.cp), h.cn.below hb, h.tab.step hb, h.bel.trans (hb.mono (Nat.le_of_lt (Boxed.lt h.res)))⟩
theorem Ech.kept {n : Nat} {r : Option Nat} (h : Ech w sb lb cb k L s v X) (hg : X.grownBy Y r) (hr : ∀ k, r = some k → n ≤ k ∧ ∃ o : Obj, X.heap[k]? = some o ∧ o.isCells = false) (hn : w.heap.size ≤ n) (hn0 : (0 : Nat) < n) : Ech w sb lb cb k L s v Y :=
  ⟨box_keep h.res hg hr, box_keep h.sum hg hr, box_keep h.lst hg hr, box_keep h.cp hg hr, h.cn.keep (grownBy_keeps_cells hg (fun k e => (hr k e).2) h.cn.obj rfl), tabs_own h.tab hg (fun k e => (hr k e).1) hn0, below_keep h.bel hg hr hn (Nat.le_refl _)⟩
theorem KZ.cell (X : World) (b : Nat) (u : Value) : KZ (fun i => i = b) X (X.setCell ⟨b, 0, none⟩ u) := ⟨by simp, fun i hi _ => Below.heap_setCell _ _ _ _ (by simpa using hi)⟩
theorem Ech.setS (h : Ech w sb lb cb k L s v X) (h1 : w.heap.size < k) (h2 : k < cb) (h3 : cb < sb) (h4 : sb < lb) (ht : (0 : Nat) < w.heap.size) (s' : Int) : Ech w sb lb cb k L s' v (X.setCell ⟨sb, 0, none⟩ (.int .i64 s')) :=
  have kz := KZ.cell X sb (.int .i64 s')
  ⟨kz.box (by omega) h.res, Boxed.set _ h.sum, kz.box (by omega) h.lst, kz.box (by omega) h.cp, h.cn.keep (kz.same k (by omega) (heap_lt h.cn.obj)), kz.tabs (by omega) h.tab, h.bel.setCell (p := ⟨sb, 0, none⟩) (by show w.heap.size ≤ sb; omega) _⟩
theorem Ech.setL (h : Ech w sb lb cb k L s v X) (h1 : w.heap.size < k) (h2 : k < cb) (h3 : cb < sb) (h4 : sb < lb) (ht : (0 : Nat) < w.heap.size) (v' : Int) : Ech w sb lb cb k L s v' (X.setCell ⟨lb, 0, none⟩ (.int .i64 v')) :=
  have kz := KZ.cell X lb (.int .i64 v')
  ⟨kz.box (by omega) h.res, kz.box (by omega) h.sum, Boxed.set _ h.lst, kz.box (by omega) h.cp, h.cn.keep (kz.same k (by omega) (heap_lt h.cn.obj)), kz.tabs (by omega) h.tab, h.bel.setCell (p := ⟨lb, 0, none⟩) (by show w.heap.size ≤ lb; omega) _⟩
end
end Go.Proofs.YtjoaaabdcfcdiaaDoor

/-
  The list that every row of this seat bears: the names of the reasons; what the rows' condition gives the walks, and a start at which it holds. Conditions are each theorem's own.
-/
namespace Go.Proofs.YtjoaaabdcfcdiaaDoor
open Go.RowKit

/-- The list that every row of this seat bears. -/
def laidAll : List (String × DataW Unit) := [("goosepond/counts.names", Rows.laid_goosepond_counts_names)]
theorem laid_tabs : laidAll = [("goosepond/counts.names", .agg (nmsB.map fun z => .lit (.string z)))] := by
  kernel_rfl
theorem tabs_of_laid {W : World} (h : laidMetH Tryd.prog laidAll W) : Tabs W := by
  rw [MakeChecks.laidMetH_plain _ _ _ (by kernel_rfl), laid_tabs] at h
  exact tabs_of_head h
/-- The door's own heap meets the condition: three closed facts. -/
theorem door_met (os : Os) (args : Array Value) : laidMetH Tryd.prog laidAll ((World.doorLaid Tryd.prog 24 os).forCall (fun _ _ => 0) ⟨#[], args, []⟩).memory :=
  laidMetH_of_parts3 (fuel := 8) (laidMet_of_run' 8 (by kernel_rfl) (by kernel_rfl)) (by kernel_rfl) (by kernel_rfl)
theorem door_shaped (os : Os) (args : Array Value) : ((World.doorLaid Tryd.prog 24 os).forCall (fun _ _ => 0) ⟨#[], args, []⟩).Shaped Tryd.prog := World.shaped_of_RefB (by kernel_rfl) (by kernel_rfl)
end Go.Proofs.YtjoaaabdcfcdiaaDoor
