/-
  A region that draws its order, whose operations leave what was there as it was: its walk step by step. Conditions are each theorem's own.
-/
import Derived.Test.YtcfcmnhnijjehaaMem
import Derived.Deep.RegionHeld3
import Derived.Deep.MidRow
import Derived.Maps.RangeWalk
namespace Go.Proofs.Ytcfcmnhnijjehaa
open Go.RowKit

theorem range_below {w w' : World} {b o B : Nat} {cs : List Value} (h : w.rangeAt b o cs) (hB : b < B) (hb : Below B w w') : w'.rangeAt b o cs := fun j v hj => by
  rw [hb.cell hB]; exact h j v hj
theorem held_pure {P : Program} {ops : Array Oper} {Q : Exit → Act → World → Prop} {md : Region.Mode} {S : World → Prop} {i : Nat} {oi : Oper} {v : Value} {fuel : Nat} {listed : Array Bool} {a : Act} {w : World} (hi : ops[i]? = some oi)
    (hs : Region.noSelect ops = true) (hf : Region.free md ops listed i = true) (hr : (Region.ready md ops listed).contains i = true)
    (hQ : ∀ c a w, Q (.panic c) (a.put oi.dst v) w → Q (.panic c) a w) (hw : Region.wanted oi (yielded ops a.tmps) = true)
    (hrun : ∀ w, S w → (execOp a.eval oi).run P w = .ok (.value v) w) (hS : S w)
    (h : S w → wpAnyH P md ops Q S fuel (listed.setIfInBounds i true) (a.put oi.dst v) w) : wpAnyH P md ops Q S (fuel + 1) listed a w :=
  wpAnyH_take hi hs hf hr hQ (.inl ⟨hw, hrun⟩) hS (h hS)
theorem held_skip {P : Program} {ops : Array Oper} {Q : Exit → Act → World → Prop} {md : Region.Mode} {S : World → Prop} {i : Nat} {oi : Oper} {fuel : Nat} {listed : Array Bool} {a : Act} {w : World} (hi : ops[i]? = some oi)
    (hs : Region.noSelect ops = true) (hf : Region.free md ops listed i = true) (hr : (Region.ready md ops listed).contains i = true)
    (hQ : ∀ c a w, Q (.panic c) (a.put oi.dst undef) w → Q (.panic c) a w) (hw : Region.wanted oi (yielded ops a.tmps) = false) (hS : S w)
    (h : S w → wpAnyH P md ops Q S fuel (listed.setIfInBounds i true) (a.put oi.dst undef) w) : wpAnyH P md ops Q S (fuel + 1) listed a w :=
  wpAnyH_take hi hs hf hr hQ (.inr ⟨hw, rfl⟩) hS (h hS)
/-- What a class of worlds 'as w0 below its end' hands on. -/
theorem below_step {w0 w w' : World} (h : Below w0.heap.size w0 w) (hb : Below w.heap.size w w') : Below w0.heap.size w0 w' := h.trans (hb.mono h.size)
/-- Two new blocks, a draw, three calls. -/
theorem chain4 {w w1 w2 w3 w4 : World} {x y : Obj} (b1 : Below w.heap.size w w1) (b2 : Below ((w1.alloc x).alloc y).drew.heap.size ((w1.alloc x).alloc y).drew w2) (b3 : Below w2.heap.size w2 w3) (b4 : Below w3.heap.size w3 w4) : Below w.heap.size w w4 := by
  have h1 : ((w1.alloc x).alloc y).drew.heap.size = w1.heap.size + 2 := by show ((w1.alloc x).alloc y).heap.size = _; simp
  have s1 := b1.size
  have s2 := b2.size
  have s3 := b3.size
  have hX : Below w.heap.size w ((w1.alloc x).alloc y).drew := ((b1.alloc s1 x).alloc (by simp; omega) y).drew
  exact ((hX.trans (b2.mono (by omega))).trans (b3.mono (by omega))).trans (b4.mono (by omega))
theorem ints_new (w : World) (zs : List Int) (t : TypeId) : RdI (w.alloc (.cells (zs.map (Value.int .i64)).toArray t)).drew (w.heap.size + 1) (some ⟨w.heap.size, 0, none⟩) zs := fun _ =>
  ⟨w.heap.size, 0, rfl, Nat.lt_succ_self _, fun j hj => by
    show (w.alloc (.cells (zs.map (Value.int .i64)).toArray t)).cell? _ = _
    rw [Nat.zero_add, World.cell?_alloc_new, List.getElem?_toArray, List.getElem?_map, List.getElem?_eq_getElem hj, List.getD_eq_getElem?_getD, List.getElem?_eq_getElem hj]; rfl⟩
end Go.Proofs.Ytcfcmnhnijjehaa
