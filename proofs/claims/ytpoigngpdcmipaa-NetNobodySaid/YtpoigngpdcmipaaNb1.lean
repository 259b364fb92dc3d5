/-
  Contracts and lemmas on which the proofs of this seat stand (several texts in one). Conditions are each theorem's own.
-/
import Derived.Test.YtpoigngpdcmipaaNa8
import Derived.WalkMore

/-
  All of layer 34 where nothing was made: an iterator that hands over nothing. Conditions are each theorem's own.
-/
namespace Go.Proofs.Ytpoigngpdcmipaa
open Go.RowKit Go.Shelf
attribute [local go_sem] Oper.semAt_some
theorem cell1n {fn : Func} {p : Tmp} {tmps : Array Value} {w : World} {g : Nat} {z : Value} (h : fn.results = #[.cell p 4]) (hp : tmps.getD p undef = .pointer (some ⟨g, 0, none⟩)) (h0 : Boxed w g 4 z) :
    (results fn tmps).run Try.prog w = .ok z w := by
  have hp' : tmps[p]?.getD undef = .pointer (some ⟨g, 0, none⟩) := by simpa using hp
  simp [results, h, hp', asAddr, loadv_bool h0]
theorem ntall_nil (w : World) : Calls Try.prog 17 #[.pointer none] w fun e w' => ∃ B, e = .returned (.func (.func 24) #[] #[.pointer (some ⟨B, 0, none⟩)]) ∧ Boxed w' B 55 (.slice none 0 0) ∧ Below w.heap.size w w' := by
  go_enter Try.func17, Try.ntmps17
  go_wp2_with (go_at_call 22; refine ntmade_nil.mono ?_; rintro e w1 ⟨rfl, h1⟩; obtain rfl := h1.symm)
  go_ret
  exact ⟨_, rfl, Boxed.new _ _ _, (Below.refl _ w).alloc (Nat.le_refl _) _⟩
theorem ntall1_none (m B : Nat) (w0 : World) (hb : Boxed w0 B 55 (.slice none 0 0)) :
    SeqTold m Try.prog 24 #[.pointer (some ⟨B, 0, none⟩)] (fun _ : Unit => #[undef]) (fun _ _ _ => False) (fun _ _ => True) (fun xs => xs = []) (fun _ => False) w0 := by
  intro l J Jx W hW hJ hJx hY h0
  have kb := Boxed.cell (Boxed.below hb hW (Boxed.lt hb))
  clear hY hJ hJx
  refine callsIn_of_wp Try.func24 rfl trivial ?_ rfl
  simp only [Try.ntmps24, List.size_toArray, List.length_cons, List.length_nil, Nat.reduceAdd, Nat.reduceSub, Array.replicate_succ, Array.replicate_zero, List.push_toArray, List.append_toArray, List.nil_append, List.cons_append]
  gi_wp2
  gi_loopw [7] (fun i wr => i = .int .i64 0 ∧ wr = W) (fun _ _ => 0)
  case atStart => exact ⟨rfl, rfl⟩
  case round =>
    obtain ⟨rfl, rfl⟩ := hrel
    gi_wp2
    try rw [Exit.noGoto_normal]
    go_end0
    exact ⟨⟨_, rfl⟩, .inl ⟨[], rfl, h0⟩⟩
theorem wpIn_actN {F : Fence} {n : Nat} {P : Program} {c : Code} {Q : Exit → Act → World → Prop} {a : Act} {w : World} (h : ∀ a0, a0 = a → c.wpIn F n P Q a0 w) : c.wpIn F n P Q a w := h a rfl
/-- What a round keeps: the result's box, the item's, the zero network's. -/
structure NN (w : World) (cs : Array Value) (g : Nat) (b : Bool) (X : World) : Prop where
  res : Boxed X (w.heap.size + 1) 4 (.bool b)
  itm : X.heap[w.heap.size]? = some (.cells cs 33 (0, 0))
  net : X.heap[g]? = some (.cells #[.bool false, .int .i64 0, .slice none 0 0] 57 (0, 0))
  bel : Below w.heap.size w X
  lt : w.heap.size + 1 < g
section
variable {w X Y : World} {cs : Array Value} {g : Nat} {b : Bool}
theorem NN.below (h : NN w cs g b X) (k : Below X.heap.size X Y) : NN w cs g b Y :=
  ⟨Boxed.below h.res k (Boxed.lt h.res), (k.block _ (heap_lt h.itm)).trans h.itm, (k.block _ (heap_lt h.net)).trans h.net, h.bel.trans (k.mono h.bel.size), h.lt⟩
theorem NN.keep (h : NN w cs g b X) {r : Option Nat} (hg : X.grownBy Y r) (hr : ∀ k, r = some k → g < k ∧ ∃ o : Obj, X.heap[k]? = some o ∧ o.isCells = false) : NN w cs g b Y :=
  ⟨box_keep (n := g) h.res hg (fun k e => ⟨Nat.le_of_lt (hr k e).1, (hr k e).2⟩), (hg.block _ (heap_lt h.itm) (fun e => by have := (hr _ e.symm).1; have := h.lt; omega)).trans h.itm, (hg.block _ (heap_lt h.net) (fun e => by have := (hr _ e.symm).1; omega)).trans h.net,
   below_keep (n := g) h.bel hg (fun k e => ⟨Nat.le_of_lt (hr k e).1, (hr k e).2⟩) (by have := h.lt; omega) (Nat.le_refl _), h.lt⟩
theorem NN.z (h : NN w cs g b X) : X.cell? ⟨g, 0, none⟩ = some (.bool false) := cells_at (i := 0) h.net rfl
end
end Go.Proofs.Ytpoigngpdcmipaa
