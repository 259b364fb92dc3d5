/-
  Contracts and lemmas on which the proofs of this seat stand (several texts in one). Conditions are each theorem's own.
-/
import Derived.Test.YtpoigngpdcmipaaGreatMb14
namespace Go.Proofs.YtpoigngpdcmipaaGreat
open Go.RowKit
section
variable {n : Nat} {P : Program} {ops : Array Oper} {Q : Exit → Act → World → Prop} {md : Region.Mode} {S : World → Prop} {y : Nat}
theorem twoY {i j : Nat} {oi oj : Oper} {fuel : Nat} {listed : Array Bool} {a : Act} {w : World} (hr : Region.ready md ops listed = [i, j]) (hi : ops[i]? = some oi) (hj : ops[j]? = some oj) (hwi : Region.wanted oi (yielded ops a.tmps) = true) (hwj : Region.wanted oj (yielded ops a.tmps) = true)
    (h1 : ∀ K : Act → World → Prop, (∀ a w, ((listed.setIfInBounds i true).getD y true = false → S w) → anyHY n P md ops Q y S fuel (listed.setIfInBounds i true) a w → K a w) → oi.wpIn Fence.wide n P a w K Q)
    (h2 : ∀ K : Act → World → Prop, (∀ a w, ((listed.setIfInBounds j true).getD y true = false → S w) → anyHY n P md ops Q y S fuel (listed.setIfInBounds j true) a w → K a w) → oj.wpIn Fence.wide n P a w K Q) : anyHY n P md ops Q y S (fuel + 1) listed a w := by
  refine ⟨fun h0 => (by rw [hr] at h0; cases h0), fun k hk => ?_⟩
  rw [hr] at hk
  rcases List.mem_cons.1 hk with rfl | hk
  · unfold wpOpIn
    simp only [hi]
    rw [if_pos hwi]
    exact h1 _ (fun a w hS hW => ⟨hS, hW⟩)
  · rw [List.mem_singleton] at hk
    subst hk
    unfold wpOpIn
    simp only [hj]
    rw [if_pos hwj]
    exact h2 _ (fun a w hS hW => ⟨hS, hW⟩)
theorem valGI {o : Oper} {a : Act} {w w' : World} {K : Act → World → Prop} {v : Value} (hrun : (execOp a.eval o).run P w = .ok (.value v) w') (h : K (a.put o.dst v) w') : o.wpIn Fence.wide n P a w K Q :=
  ⟨fun _ _ => trivial, by rw [show Fence.wide.round = none from rfl, Oper.semAt_none, hrun]; exact h⟩
end
section
variable {n : Nat} {o : Oper} {a : Act} {w : World} {K : Act → World → Prop} {Q : Exit → Act → World → Prop}
theorem store_hpsI {x y : Operand} {p : Addr} {v0 : Value} {A : Option Addr} {m c : Nat} (ho : o.op = .store 177 x y) (hx : a.eval x = .pointer (some p)) (hy : a.eval y = .slice A m c) (hc : w.cell? p = some v0) (hf : w.frozen? p = false)
    (h : K (a.put o.dst undef) (w.setCell p (.slice A m c))) : o.wpIn Fence.wide n Tryz.prog a w K Q := by
  refine skipI (w' := w.setCell p (.slice A m c)) ?_ h
  unfold execOp
  simp only [ho, hx, hy, Instr.storeAt, Instr.sureAddr, Sem.run_bind, Sem.run_pure, Result.andThen_ok]
  go_simp
theorem store_intI {x y : Operand} {p : Addr} {v0 : Value} {i : Int} (ho : o.op = .store 3 x y) (hx : a.eval x = .pointer (some p)) (hy : a.eval y = .int .i64 i) (hc : w.cell? p = some v0) (hf : w.frozen? p = false)
    (h : K (a.put o.dst undef) (w.setCell p (.int .i64 i))) : o.wpIn Fence.wide n Tryz.prog a w K Q := by
  refine skipI (w' := w.setCell p (.int .i64 i)) ?_ h
  unfold execOp
  simp only [ho, hx, hy, Instr.storeAt, Instr.sureAddr, Sem.run_bind, Sem.run_pure, Result.andThen_ok]
  go_simp
end
end Go.Proofs.YtpoigngpdcmipaaGreat
namespace Go.Proofs.YtpoigngpdcmipaaGreat
open Go.RowKit Go.Shelf
theorem Kept.setCell (w : World) (g i : Nat) (v : Value) : Kept (fun k => k = g) w (w.setCell ⟨g, i, none⟩ v) := ⟨rfl, rfl, rfl, by simp, fun k _ hn => heap_setCell_other w ⟨g, i, none⟩ k v hn⟩
theorem range_heap {w : World} {u : Nat} {cs : List Value} {t : TypeId} {fr : Nat × Nat} (h : w.heap[u]? = some (.cells cs.toArray t fr)) : w.rangeAt u 0 cs := fun j v hj => cells_at h (by rw [Nat.zero_add, List.getElem?_toArray]; exact hj)
theorem own_keptT {S : Nat → Prop} {w w' : World} {b e s n : Nat} {v : Value} {xs : List Value} (h : w.ownsRow b e s v n xs) (k : Kept S w w') (hS : ∀ g, S g → ∀ cs fr, w.heap[g]? ≠ some (.cells cs e fr)) : w'.ownsRow b e s v n xs := by
  refine ⟨h.1, ?_⟩
  rcases h.2 with hn | ⟨g, cap, cur, hv, hb, hg, rest⟩
  · exact .inl hn
  · exact .inr ⟨g, cap, cur, hv, hb, (k.block g (heap_lt hg) (fun s => hS g s _ _ hg)).trans hg, rest⟩
theorem own_base0 {w : World} {b e s n : Nat} {v : Value} {xs : List Value} (h : w.ownsRow b e s v n xs) : w.ownsRow 0 e s v n xs := by
  refine ⟨h.1, ?_⟩
  rcases h.2 with hn | ⟨g, cap, cur, hv, hb, rest⟩
  · exact .inl hn
  · exact .inr ⟨g, cap, cur, hv, Nat.zero_le _, rest⟩
structure Ks (w : World) (u : Nat) (x : XP) (v : Value) (n : Nat) (L' Lb : List XP) : Prop where
  box : w.heap[u]? = some (.cells (clP x).toArray 225 (0, 0))
  own : w.ownsRow 0 225 3 v n (L'.flatMap clP)
  byt : ∀ y ∈ Lb, w.ownsRow 0 5 1 (.slice y.A y.p.b.length y.c) y.p.b.length (row y.p.b)
theorem Ks.below {w w' : World} {u : Nat} {x : XP} {v : Value} {n : Nat} {L' Lb : List XP} (h : Ks w u x v n L' Lb) (hb : Below w.heap.size w w') : Ks w' u x v n L' Lb :=
  ⟨(hb.block u (heap_lt h.box)).trans h.box, own_below h.own hb, fun y hy => own_below (h.byt y hy) hb⟩
theorem Ks.set {w : World} {u g i : Nat} {x : XP} {v u' : Value} {n : Nat} {L' Lb : List XP} {cs : Array Value} (h : Ks w u x v n L' Lb) (hg : w.heap[g]? = some (.cells cs 179 (0, 0))) : Ks (w.setCell ⟨g, i, none⟩ u') u x v n L' Lb :=
  ⟨(heap_setCell_other w ⟨g, i, none⟩ u u' (fun e => by
    have e' : u = g := e
    subst e'
    have h2 := h.box.symm.trans hg
    simp only [Option.some.injEq, Obj.cells.injEq] at h2
    exact absurd h2.2.1 (nat_ne (by kernel_rfl)))).trans h.box, own_setCellB h.own hg (nat_ne (by kernel_rfl)), fun y hy => own_setCellB (h.byt y hy) hg (nat_ne (by kernel_rfl))⟩
theorem run_bshp {o : Oper} {a : Act} {w : World} {x : Operand} {cs : Array Value} (ho : o.op = .buildSlice 177 1 #[(0, x)]) (hx : a.eval x = .agg cs) (hl : cs.size = 3) :
    (execOp a.eval o).run Tryz.prog w = .ok (.value (.slice (some ⟨w.heap.size, 0, none⟩) 1 1)) (w.alloc (.cells cs 225)) := by
  obtain ⟨i0, hi, hz0, hz1, hz2⟩ := info_parts info_hp
  have h := run_lit1 (P := Tryz.prog) w 177 225 i0 (.agg #[.int .i64 0, .bool false, .slice none 0 0]) cs 3 Tryz.underlying177 hi hz0 hz1 hl (by decide) (by decide)
  unfold execOp
  simp only [ho, List.map_toArray, List.map_cons, List.map_nil, hx, Sem.run_bind, h, Result.andThen_ok]
  rfl
theorem hcinsert_n (A : Option Addr) (c i vb n : Nat) (L : List XP) (x : XP) (w : World) (hnn : n = L.length) (own : w.ownsRow 0 225 3 (.slice A n c) n (L.flatMap clP)) (hnil : Value.slice A n c = .slice none 0 0 ∨ 0 < n) (hi : i ≤ n) (hn : n ≤ 100000)
    (hv : w.heap[vb]? = some (.cells (clP x).toArray 225 (0, 0))) (hne : (Value.slice A n c).ownBlock ≠ some vb) :
    Calls Tryz.prog 188 #[.slice A n c, .int .i64 i, .slice (some ⟨vb, 0, none⟩) 1 1] w fun e w' =>
      ∃ A' c', e = .returned (.slice A' (n + 1) c') ∧ w'.ownsRow 0 225 3 (.slice A' (n + 1) c') (n + 1) ((putX L i x).flatMap clP) ∧ Kept (fun k => (Value.slice A n c).ownBlock = some k) w w' ∧
        ((Value.slice A' (n + 1) c').ownBlock = (Value.slice A n c).ownBlock ∨ (Value.slice A' (n + 1) c').ownBlock = some w.heap.size) := by
  subst hnn; exact hcinsert A c i vb L x w own hnil hi hn hv hne
set_option maxRecDepth 100000 in
set_option maxHeartbeats 2000000 in
theorem hckeep (g : Nat) (A : Option Addr) (c n : Nat) (L : List XP) (q : XP) (by0 far0 : Int) (end0 : Bool) (w : World) (hV : Hv w g A c L) (hN : n = L.length) (hg0 : w.heap[g]? = some (.cells #[.bool true, .slice A n c, .int .i64 by0, .int .i64 far0, .bool end0] 179 (0, 0)))
    (hO : w.ownsRow 0 225 3 (.slice A n c) n (L.flatMap clP)) (hNI : Value.slice A n c = .slice none 0 0 ∨ 0 < n) (hB : ∀ y ∈ L, w.ownsRow 0 5 1 (.slice y.A y.p.b.length y.c) y.p.b.length (row y.p.b))
    (hq : Arg w w.heap.size q.A q.c q.p.b) (hx0 : 0 ≤ q.p.off) (hx1 : q.p.stop ≤ 65535) (hby : 0 ≤ by0 ∧ by0 ≤ 100000000000) :
    Calls Tryz.prog 179 #[.pointer (some ⟨g, 0, none⟩), .agg (clP q).toArray] w fun e w' =>
      e = .returned (.tuple #[]) ∧ ∃ A2 c2 P p, w'.heap[g]? = some (.cells #[.bool true, .slice A2 (n + 1) c2, .int .i64 (by0 + q.p.len), .int .i64 (max far0 q.p.stop), .bool (end0 || !q.p.more)] 179 (0, 0)) ∧
        w'.ownsRow 0 225 3 (.slice A2 (n + 1) c2) (n + 1) ((putX L (atP (piE L) q.p.off) ⟨q.p, P, p⟩).flatMap clP) ∧
        (∀ y ∈ XP.mk q.p P p :: L, w'.ownsRow 0 5 1 (.slice y.A y.p.b.length y.c) y.p.b.length (row y.p.b)) ∧
        Kept (fun k => k = g ∨ (Value.slice A n c).ownBlock = some k) w w' ∧ (∀ k, (Value.slice A2 (n + 1) c2).ownBlock = some k → (Value.slice A n c).ownBlock = some k ∨ w.heap.size ≤ k) := by
  obtain ⟨m, hm0⟩ : ∃ m, m = atP (piE L) q.p.off := ⟨_, rfl⟩
  have hm : m ≤ n := by
    have := atP_le (piE L) q.p.off
    rw [hm0, hN]; simpa [piE] using this
  have hn1 : n ≤ 100000 := by rw [hN]; exact hV.n
  have HN := Lib.hid hN
  have HM := Lib.hid hm0
  have HNI := Lib.hid hNI
  have HB0 := Lib.hid hB
  have HO0 := Lib.hid hO
  have HV0 := Lib.hid hV
  have hgw : g < w.heap.size := heap_lt hg0
  have hrw : ∀ k, (Value.slice A n c).ownBlock = some k → ∃ cur, w.heap[k]? = some (.cells cur 225 (0, 0)) := fun k e => by
    rcases hO.2 with ⟨e1, _⟩ | ⟨k', _, cur, e1, _, hk, _⟩
    · rw [e1] at e; cases e
    · rw [e1] at e
      have : k' = k := by simpa [Value.ownBlock] using e
      exact ⟨cur, this ▸ hk⟩
  have HRW := Lib.hid hrw
  rw [← hm0]
  clear hm0 hN hNI hB hO hV hrw
  have eq0 : clP q = [.int .i64 q.p.off, .bool q.p.more, .slice q.A q.p.b.length q.c] := rfl
  rw [eq0]
  go_enter Tryz.func179, Tryz.ntmps179
  go_upto_region 2 with (go_at_call 36; refine (clone_any q.A q.p.b q.c w.heap.size _ (hq.alloc (Nat.le_refl _) _) (by simp) (by have h9 : q.p.stop = q.p.off + (q.p.b.length : Int) := rfl; omega)).mono ?_; rintro e w1 ⟨v1, rfl, m1⟩; obtain ⟨P1, p1, rfl, a1, o1, y1⟩ := made_shape m1; have hu1 := (y1.block w.heap.size (by simp)).trans (World.alloc_heap_new w _); have k1 := cells_at (i := 2) hu1 rfl; have f1 := heap_frozen hu1 2)
  obtain ⟨x, hx⟩ : ∃ x, x = XP.mk q.p P1 p1 := ⟨_, rfl⟩
  have hxp : x.p = q.p := by rw [hx]
  have hxA : x.A = P1 := by rw [hx]
  have hxc : x.c = p1 := by rw [hx]
  have hu : (w1.setCell ⟨w.heap.size, 2, none⟩ (.slice P1 q.p.b.length p1)).heap[w.heap.size]? = some (.cells (clP x).toArray 225 (0, 0)) := by rw [hx]; exact heap_setCell_same w1 w.heap.size 2 _ _ (.slice P1 q.p.b.length p1) hu1
  have b1 : Below w.heap.size w w1 := ((Below.refl _ w).alloc (Nat.le_refl _) _).trans (y1.mono (by simp))
  have bW := b1.setCell (p := ⟨w.heap.size, 2, none⟩) (Nat.le_refl _) (.slice P1 q.p.b.length p1)
  have ox : (w1.setCell ⟨w.heap.size, 2, none⟩ (.slice P1 q.p.b.length p1)).ownsRow 0 5 1 (.slice x.A x.p.b.length x.c) x.p.b.length (row x.p.b) := by
    rw [hxp, hxA, hxc]
    exact own_base0 (own_setCellB (i := 2) (u := .slice P1 q.p.b.length p1) o1 hu1 (nat_ne (by kernel_rfl)))
  generalize w1.setCell ⟨w.heap.size, 2, none⟩ (.slice P1 q.p.b.length p1) = W at *
  have HX := Lib.hid hx
  rw [← hxp] at hx0 hx1 HM ⊢
  clear hx hxp hxA hxc hu1 k1 f1 m1 a1 o1 y1 b1 hq eq0
  have hg := (bW.block g hgw).trans hg0
  have HO := Lib.hid (own_below HO0.out bW)
  have HV := Lib.hid (HV0.out.below bW)
  have HB : Hid (∀ y ∈ x :: L, W.ownsRow 0 5 1 (.slice y.A y.p.b.length y.c) y.p.b.length (row y.p.b)) := Lib.hid (fun y hy => by
    rcases List.mem_cons.1 hy with rfl | hy
    · exact ox
    · exact own_below (HB0.out y hy) bW)
  have HW1 : Hid (IntKind.i64.wrap (by0 + (x.p.b.length : Int)) = by0 + (x.p.b.length : Int)) := Lib.hid (by have h9 : x.p.stop = x.p.off + (x.p.b.length : Int) := rfl; exact IntWalk.i64_in _ (by omega))
  have hrz : ∀ k, (Value.slice A n c).ownBlock = some k → k < W.heap.size := fun k e => (HO.out.lt k e).2
  have hrT : ∀ k, (Value.slice A n c).ownBlock = some k → ∀ cs fr, W.heap[k]? ≠ some (.cells cs 5 fr) := fun k e cs fr h9 => by
    obtain ⟨cur, h8⟩ := HRW.out k e
    have h7 := ((bW.block k (heap_lt h8)).trans h8).symm.trans h9
    simp only [Option.some.injEq, Obj.cells.injEq] at h7
    exact absurd h7.2.1 (nat_ne (by kernel_rfl))
  have hgr : ¬ (Value.slice A n c).ownBlock = some g := fun e => by
    obtain ⟨cur, h8⟩ := HRW.out g e
    have h7 := h8.symm.trans hg0
    simp only [Option.some.injEq, Obj.cells.injEq] at h7
    exact absurd h7.2.1 (nat_ne (by kernel_rfl))
  have hur : ¬ (Value.slice A n c).ownBlock = some w.heap.size := fun e => by
    have := (HO0.out.lt _ e).2; omega
  have hgz := heap_lt hg
  have huz := heap_lt hu
  have hzw := bW.size
  have HBW := Lib.hid bW
  clear bW hg0 ox
  generalize hu0 : w.heap.size = u at *
  have HU := Lib.hid hu0
  clear hu0
  refine regionY 13 (fun w' => Kept (fun k => (Value.slice A n c).ownBlock = some k) W w') (by kernel_rfl) ?_
  have b0 : Below W.heap.size W W.drew := (Below.refl _ W).drew
  have hS : Kept (fun k => (Value.slice A n c).ownBlock = some k) W W.drew := Kept.drew W
  generalize W.drew = X0 at *
  refine pureY (i := 0) (oi := ⟨some 8, _, _, _, _, _⟩) rfl (by kernel_rfl) (by kernel_rfl) (by kernel_rfl) (by kernel_rfl) (by kernel_rfl) (fun _ _ _ h => h) (by rfl) (v := ?_) (fun w hSw => ?_) hS ?_
  rotate_left
  · go_simp; try with_reducible rfl
  try go_frame
  refine pureY (i := 1) (oi := ⟨some 9, _, _, _, _, _⟩) rfl (by kernel_rfl) (by kernel_rfl) (by kernel_rfl) (by kernel_rfl) (by kernel_rfl) (fun _ _ _ h => h) (by rfl) (v := ?_) (fun w hSw => ?_) hS ?_
  rotate_left
  · go_simp; try with_reducible rfl
  try go_frame
  refine pureY (i := 2) (oi := ⟨some 10, _, _, _, _, _⟩) rfl (by kernel_rfl) (by kernel_rfl) (by kernel_rfl) (by kernel_rfl) (by kernel_rfl) (fun _ _ _ h => h) (by rfl) (v := ?_) (fun w hSw => ?_) hS ?_
  rotate_left
  · go_simp; try with_reducible rfl
  try go_frame
  refine pureY (i := 3) (oi := ⟨some 11, _, _, _, _, _⟩) rfl (by kernel_rfl) (by kernel_rfl) (by kernel_rfl) (by kernel_rfl) (by kernel_rfl) (fun _ _ _ h => h) (by rfl) (v := ?_) (fun w hSw => ?_) hS ?_
  rotate_left
  · go_simp; try with_reducible rfl
  try go_frame
  refine pureY (i := 4) (oi := ⟨some 12, _, _, _, _, _⟩) rfl (by kernel_rfl) (by kernel_rfl) (by kernel_rfl) (by kernel_rfl) (by kernel_rfl) (fun _ _ _ h => h) (by rfl) (fun w hSw => run_load_hps rfl rfl (cells_at (i := 1) ((hSw.block g hgz hgr).trans hg) rfl)) hS ?_
  try go_frame
  refine pureY (i := 5) (oi := ⟨some 13, _, _, _, _, _⟩) rfl (by kernel_rfl) (by kernel_rfl) (by kernel_rfl) (by kernel_rfl) (by kernel_rfl) (fun _ _ _ h => h) (by rfl) (v := ?_) (fun w hSw => ?_) hS ?_
  rotate_left
  · go_simp; try with_reducible rfl
  try go_frame
  refine pureY (i := 6) (oi := ⟨some 14, _, _, _, _, _⟩) rfl (by kernel_rfl) (by kernel_rfl) (by kernel_rfl) (by kernel_rfl) (by kernel_rfl) (fun _ _ _ h => h) (by rfl) (v := ?_) (fun w hSw => ?_) hS ?_
  rotate_left
  · go_simp; try with_reducible rfl
  try go_frame
  refine pureY (i := 7) (oi := ⟨some 15, _, _, _, _, _⟩) rfl (by kernel_rfl) (by kernel_rfl) (by kernel_rfl) (by kernel_rfl) (by kernel_rfl) (fun _ _ _ h => h) (by rfl) (fun w hSw => run_load_int rfl rfl (cells_at (i := 0) ((hSw.block u huz hur).trans hu) rfl)) hS ?_
  try go_frame
  refine pureY (i := 9) (oi := ⟨some 17, _, _, _, _, _⟩) rfl (by kernel_rfl) (by kernel_rfl) (by kernel_rfl) (by kernel_rfl) (by kernel_rfl) (fun _ _ _ h => h) (by rfl) (fun w hSw => run_load_hp rfl rfl (range_heap ((hSw.block u huz hur).trans hu)) rfl) hS ?_
  try go_frame
  refine twoY (i := 8) (j := 10) (oi := ⟨some 16, _, _, _, _, _⟩) (oj := ⟨some 18, _, _, _, _, _⟩) (by kernel_rfl) rfl rfl (by rfl) (by rfl) (fun K hK => ?_) (fun K hK => ?_)
  · refine callI (f := 186) (args := #[.pointer (some ⟨g, 0, none⟩), .int .i64 x.p.off]) (by go_simp; try rfl) ?_
    refine (hcplace g x.p.off A c L _ (HV.out.below b0)).mono ?_
    rintro e w8 ⟨rfl, x8⟩
    rw [← HM.out]
    have b8 := b0.trans (x8.mono b0.size)
    have hS : Kept (fun k => (Value.slice A n c).ownBlock = some k) W w8 := Kept.of_below b8
    refine ⟨_, rfl, ?_⟩
    refine hK _ _ (fun _ => hS) ?_
    clear hK K
    try go_frame
    refine oneY (i := 10) (oi := ⟨some 18, _, _, _, _, _⟩) (by kernel_rfl) rfl (by rfl) (fun K hK => ?_)
    refine valGI (run_bshp (cs := (clP x).toArray) rfl rfl rfl) ?_
    have b10 := b8.alloc b8.size (.cells (clP x).toArray 225)
    have hv : (w8.alloc (.cells (clP x).toArray 225)).heap[w8.heap.size]? = some (.cells (clP x).toArray 225 (0, 0)) := World.alloc_heap_new _ _
    have hvW : W.heap.size ≤ w8.heap.size := b8.size
    have hS : Kept (fun k => (Value.slice A n c).ownBlock = some k) W (w8.alloc (.cells (clP x).toArray 225)) := Kept.of_below b10
    refine hK _ _ (fun _ => hS) ?_
    clear hK K
    generalize w8.alloc (.cells (clP x).toArray 225) = w10 at *
    obtain ⟨vb, hvb⟩ : ∃ vb, vb = w8.heap.size := ⟨_, rfl⟩
    rw [← hvb] at hv hvW ⊢
    clear hvb
    have hvz := heap_lt hv
    try go_frame
    try go_frame
    refine oneY (i := 11) (oi := ⟨some 19, _, _, _, _, _⟩) (by kernel_rfl) rfl (by rfl) (fun K hK => ?_)
    refine callI (f := 188) (args := #[.slice A n c, .int .i64 m, .slice (some ⟨vb, 0, none⟩) 1 1]) (by go_simp; try rfl) ?_
    refine (hcinsert_n A c m vb n L x _ HN.out (own_below HO.out b10) HNI.out hm hn1 hv (fun e => by have := hrz vb e; omega)).mono ?_
    rintro e w11 ⟨A2, c2, rfl, own11, k11, bl11⟩
    have HBL : Hid (∀ k, (Value.slice A2 (n + 1) c2).ownBlock = some k → (Value.slice A n c).ownBlock = some k ∨ u ≤ k) := Lib.hid (fun k e9 => by
      rcases bl11 with h9 | h9
      · exact .inl (h9.symm.trans e9)
      · right
        have e8 := Option.some.inj (h9.symm.trans e9)
        have := b10.size
        omega)
    clear bl11
    have hK11 : Kept (fun k => (Value.slice A n c).ownBlock = some k) W w11 := (Kept.of_below b10).trans k11 (fun _ _ h => h)
    have hS := hK11
    refine ⟨_, rfl, ?_⟩
    refine hK _ _ (fun _ => hS) ?_
    clear hK K
    try go_frame
    try go_frame
    refine pureY (i := 12) (oi := ⟨some 20, _, _, _, _, _⟩) rfl (by kernel_rfl) (by kernel_rfl) (by kernel_rfl) (by kernel_rfl) (by kernel_rfl) (fun _ _ _ h => h) (by rfl) (v := ?_) (fun w hSw => ?_) hS ?_
    rotate_left
    · go_simp; try with_reducible rfl
    try go_frame
    refine oneY (i := 13) (oi := ⟨some 21, _, _, _, _, _⟩) (by kernel_rfl) rfl (by rfl) (fun K hK => ?_)
    refine valI (v := ?_) ?_ ?_
    rotate_left
    · go_simp; try with_reducible rfl
    refine hK _ _ (fun h => absurd h (by decide)) ?_
    clear hK K
    try go_frame
    refine oneY (i := 14) (oi := ⟨none, _, _, _, _, _⟩) (by kernel_rfl) rfl (by rfl) (fun K hK => ?_)
    have hg11 := (hK11.block g hgz hgr).trans hg
    have k14 := cells_at (i := 1) hg11 rfl
    have f14 := heap_frozen hg11 1
    refine store_hpsI rfl rfl rfl k14 f14 ?_
    have hg2 : (w11.setCell ⟨g, 1, none⟩ (.slice A2 (n + 1) c2)).heap[g]? = some (.cells #[.bool true, .slice A2 (n + 1) c2, .int .i64 by0, .int .i64 far0, .bool end0] 179 (0, 0)) := heap_setCell_same w11 g 1 _ _ (.slice A2 (n + 1) c2) hg11
    have hs11 : Ks w11 u x (.slice A2 (n + 1) c2) (n + 1) (putX L m x) (x :: L) := ⟨(hK11.block u huz hur).trans hu, own11, fun y hy => own_keptT (HB.out y hy) hK11 (fun k e => hrT k e)⟩
    have hs2 := hs11.set (i := 1) (u' := .slice A2 (n + 1) c2) hg11
    have K2 : Kept (fun k => k = g ∨ (Value.slice A n c).ownBlock = some k) W (w11.setCell ⟨g, 1, none⟩ (.slice A2 (n + 1) c2)) := (hK11.mono (fun _ _ h => .inr h)).trans (Kept.setCell w11 g 1 _) (fun _ _ h => .inl h)
    clear k14 f14 hg11 hs11
    refine hK _ _ (fun h => absurd h (by decide)) ?_
    clear hK K
    generalize w11.setCell ⟨g, 1, none⟩ (.slice A2 (n + 1) c2) = W2 at *
    try go_frame
    try go_frame
    refine doneY (by kernel_rfl) ?_ _
    clear b0 b8 b10 hv hvW hvz hgz huz hgr hur hrT hrz hS hK11 k11 own11 hu
    go_upto_region 3 with fail
    have hg2z := heap_lt hg2
    have hu2z := heap_lt hs2.box
    refine regionY 9 (fun w' => Below W2.heap.size W2 w') (by kernel_rfl) ?_
    have hS := (Below.refl W2.heap.size W2).drew
    refine pureY (i := 0) (oi := ⟨some 22, _, _, _, _, _⟩) rfl (by kernel_rfl) (by kernel_rfl) (by kernel_rfl) (by kernel_rfl) (by kernel_rfl) (fun _ _ _ h => h) (by rfl) (v := ?_) (fun w hSw => ?_) hS ?_
    rotate_left
    · go_simp; try with_reducible rfl
    try go_frame
    refine pureY (i := 1) (oi := ⟨some 23, _, _, _, _, _⟩) rfl (by kernel_rfl) (by kernel_rfl) (by kernel_rfl) (by kernel_rfl) (by kernel_rfl) (fun _ _ _ h => h) (by rfl) (v := ?_) (fun w hSw => ?_) hS ?_
    rotate_left
    · go_simp; try with_reducible rfl
    try go_frame
    refine pureY (i := 2) (oi := ⟨some 24, _, _, _, _, _⟩) rfl (by kernel_rfl) (by kernel_rfl) (by kernel_rfl) (by kernel_rfl) (by kernel_rfl) (fun _ _ _ h => h) (by rfl) (v := ?_) (fun w hSw => ?_) hS ?_
    rotate_left
    · go_simp; try with_reducible rfl
    try go_frame
    refine pureY (i := 3) (oi := ⟨some 25, _, _, _, _, _⟩) rfl (by kernel_rfl) (by kernel_rfl) (by kernel_rfl) (by kernel_rfl) (by kernel_rfl) (fun _ _ _ h => h) (by rfl) (fun w hSw => run_load_int rfl rfl (cells_at (i := 2) ((hSw.block g hg2z).trans hg2) rfl)) hS ?_
    try go_frame
    refine pureY (i := 4) (oi := ⟨some 26, _, _, _, _, _⟩) rfl (by kernel_rfl) (by kernel_rfl) (by kernel_rfl) (by kernel_rfl) (by kernel_rfl) (fun _ _ _ h => h) (by rfl) (v := ?_) (fun w hSw => ?_) hS ?_
    rotate_left
    · go_simp; try with_reducible rfl
    try go_frame
    refine pureY (i := 5) (oi := ⟨some 27, _, _, _, _, _⟩) rfl (by kernel_rfl) (by kernel_rfl) (by kernel_rfl) (by kernel_rfl) (by kernel_rfl) (fun _ _ _ h => h) (by rfl) (fun w hSw => run_load_sl rfl rfl (cells_at (i := 2) ((hSw.block u hu2z).trans hs2.box) rfl)) hS ?_
    try go_frame
    refine pureY (i := 6) (oi := ⟨some 28, _, _, _, _, _⟩) rfl (by kernel_rfl) (by kernel_rfl) (by kernel_rfl) (by kernel_rfl) (by kernel_rfl) (fun _ _ _ h => h) (by rfl) (v := ?_) (fun w hSw => ?_) hS ?_
    rotate_left
    · go_simp; try with_reducible rfl
    try go_frame
    refine pureY (i := 7) (oi := ⟨some 29, _, _, _, _, _⟩) rfl (by kernel_rfl) (by kernel_rfl) (by kernel_rfl) (by kernel_rfl) (by kernel_rfl) (fun _ _ _ h => h) (by rfl) (v := .int .i64 (by0 + (x.p.b.length : Int))) (fun w hSw => by go_simp; try exact HW1.out) hS ?_
    try go_frame
    refine pureY (i := 8) (oi := ⟨some 30, _, _, _, _, _⟩) rfl (by kernel_rfl) (by kernel_rfl) (by kernel_rfl) (by kernel_rfl) (by kernel_rfl) (fun _ _ _ h => h) (by rfl) (v := ?_) (fun w hSw => ?_) hS ?_
    rotate_left
    · go_simp; try with_reducible rfl
    try go_frame
    refine oneY (i := 9) (oi := ⟨some 31, _, _, _, _, _⟩) (by kernel_rfl) rfl (by rfl) (fun K hK => ?_)
    refine valI (v := ?_) ?_ ?_
    rotate_left
    · go_simp; try with_reducible rfl
    refine hK _ _ (fun h => absurd h (by decide)) ?_
    clear hK K
    try go_frame
    refine oneY (i := 10) (oi := ⟨none, _, _, _, _, _⟩) (by kernel_rfl) rfl (by rfl) (fun K hK => ?_)
    have kk := cells_at (i := 2) ((hS.block g hg2z).trans hg2) rfl
    have ff := heap_frozen ((hS.block g hg2z).trans hg2) 2
    refine store_intI rfl rfl rfl kk ff ?_
    have hg3 : (W2.drew.setCell ⟨g, 2, none⟩ (.int .i64 (by0 + (x.p.b.length : Int)))).heap[g]? = some (.cells #[.bool true, .slice A2 (n + 1) c2, .int .i64 (by0 + (x.p.b.length : Int)), .int .i64 far0, .bool end0] 179 (0, 0)) := heap_setCell_same _ g 2 _ _ (.int .i64 (by0 + (x.p.b.length : Int))) ((hS.block g hg2z).trans hg2)
    have hs3 := (hs2.below hS).set (i := 2) (u' := .int .i64 (by0 + (x.p.b.length : Int))) ((hS.block g hg2z).trans hg2)
    have K3 := (K2.then_below hS).trans (Kept.setCell W2.drew g 2 (.int .i64 (by0 + (x.p.b.length : Int)))) (fun _ _ h => .inl h)
    clear kk ff
    refine hK _ _ (fun h => absurd h (by decide)) ?_
    clear hK K
    generalize W2.drew.setCell ⟨g, 2, none⟩ (.int .i64 (by0 + (x.p.b.length : Int))) = W3 at *
    try go_frame
    try go_frame
    refine doneY (by kernel_rfl) ?_ _
    go_upto_region 4 with fail
    have hg3z := heap_lt hg3
    have hu3z := heap_lt hs3.box
    refine regionY 9 (fun w' => Below W3.heap.size W3 w') (by kernel_rfl) ?_
    have hS := (Below.refl W3.heap.size W3).drew
    refine pureY (i := 0) (oi := ⟨some 32, _, _, _, _, _⟩) rfl (by kernel_rfl) (by kernel_rfl) (by kernel_rfl) (by kernel_rfl) (by kernel_rfl) (fun _ _ _ h => h) (by rfl) (v := ?_) (fun w hSw => ?_) hS ?_
    rotate_left
    · go_simp; try with_reducible rfl
    try go_frame
    refine pureY (i := 1) (oi := ⟨some 33, _, _, _, _, _⟩) rfl (by kernel_rfl) (by kernel_rfl) (by kernel_rfl) (by kernel_rfl) (by kernel_rfl) (fun _ _ _ h => h) (by rfl) (v := ?_) (fun w hSw => ?_) hS ?_
    rotate_left
    · go_simp; try with_reducible rfl
    try go_frame
    refine pureY (i := 2) (oi := ⟨some 34, _, _, _, _, _⟩) rfl (by kernel_rfl) (by kernel_rfl) (by kernel_rfl) (by kernel_rfl) (by kernel_rfl) (fun _ _ _ h => h) (by rfl) (v := ?_) (fun w hSw => ?_) hS ?_
    rotate_left
    · go_simp; try with_reducible rfl
    try go_frame
    refine pureY (i := 3) (oi := ⟨some 35, _, _, _, _, _⟩) rfl (by kernel_rfl) (by kernel_rfl) (by kernel_rfl) (by kernel_rfl) (by kernel_rfl) (fun _ _ _ h => h) (by rfl) (v := ?_) (fun w hSw => ?_) hS ?_
    rotate_left
    · go_simp; try with_reducible rfl
    try go_frame
    refine pureY (i := 4) (oi := ⟨some 36, _, _, _, _, _⟩) rfl (by kernel_rfl) (by kernel_rfl) (by kernel_rfl) (by kernel_rfl) (by kernel_rfl) (fun _ _ _ h => h) (by rfl) (fun w hSw => run_load_int rfl rfl (cells_at (i := 3) ((hSw.block g hg3z).trans hg3) rfl)) hS ?_
    try go_frame
    refine pureY (i := 5) (oi := ⟨some 37, _, _, _, _, _⟩) rfl (by kernel_rfl) (by kernel_rfl) (by kernel_rfl) (by kernel_rfl) (by kernel_rfl) (fun _ _ _ h => h) (by rfl) (fun w hSw => run_load_hp rfl rfl (range_heap ((hSw.block u hu3z).trans hs3.box)) rfl) hS ?_
    try go_frame
    refine oneY (i := 6) (oi := ⟨some 38, _, _, _, _, _⟩) (by kernel_rfl) rfl (by rfl) (fun K hK => ?_)
    refine callI (f := 178) (args := #[.agg (clP x).toArray]) (by go_simp; try rfl) ?_
    refine (hcend x _ hx0 (by omega)).mono ?_
    rintro e w6 ⟨rfl, x6⟩
    have hS : Below W3.heap.size W3 w6 := (Below.refl W3.heap.size W3).drew.trans x6
    refine ⟨_, rfl, ?_⟩
    refine hK _ _ (fun _ => hS) ?_
    clear hK K
    try go_frame
    try go_frame
    refine pureY (i := 7) (oi := ⟨some 39, _, _, _, _, _⟩) rfl (by kernel_rfl) (by kernel_rfl) (by kernel_rfl) (by kernel_rfl) (by kernel_rfl) (fun _ _ _ h => h) (by rfl) (v := .int .i64 (max far0 x.p.stop)) (fun w hSw => by go_simp) hS ?_
    try go_frame
    refine pureY (i := 8) (oi := ⟨some 40, _, _, _, _, _⟩) rfl (by kernel_rfl) (by kernel_rfl) (by kernel_rfl) (by kernel_rfl) (by kernel_rfl) (fun _ _ _ h => h) (by rfl) (v := ?_) (fun w hSw => ?_) hS ?_
    rotate_left
    · go_simp; try with_reducible rfl
    try go_frame
    refine oneY (i := 9) (oi := ⟨some 41, _, _, _, _, _⟩) (by kernel_rfl) rfl (by rfl) (fun K hK => ?_)
    refine valI (v := ?_) ?_ ?_
    rotate_left
    · go_simp; try with_reducible rfl
    refine hK _ _ (fun h => absurd h (by decide)) ?_
    clear hK K
    try go_frame
    refine oneY (i := 10) (oi := ⟨none, _, _, _, _, _⟩) (by kernel_rfl) rfl (by rfl) (fun K hK => ?_)
    have kk := cells_at (i := 3) ((hS.block g hg3z).trans hg3) rfl
    have ff := heap_frozen ((hS.block g hg3z).trans hg3) 3
    refine store_intI rfl rfl rfl kk ff ?_
    have hg4 : (w6.setCell ⟨g, 3, none⟩ (.int .i64 (max far0 x.p.stop))).heap[g]? = some (.cells #[.bool true, .slice A2 (n + 1) c2, .int .i64 (by0 + (x.p.b.length : Int)), .int .i64 (max far0 x.p.stop), .bool end0] 179 (0, 0)) := heap_setCell_same _ g 3 _ _ (.int .i64 (max far0 x.p.stop)) ((hS.block g hg3z).trans hg3)
    have hs4 := (hs3.below hS).set (i := 3) (u' := .int .i64 (max far0 x.p.stop)) ((hS.block g hg3z).trans hg3)
    have K4 := (K3.then_below hS).trans (Kept.setCell w6 g 3 (.int .i64 (max far0 x.p.stop))) (fun _ _ h => .inl h)
    clear kk ff
    refine hK _ _ (fun h => absurd h (by decide)) ?_
    clear hK K
    generalize w6.setCell ⟨g, 3, none⟩ (.int .i64 (max far0 x.p.stop)) = W4 at *
    try go_frame
    try go_frame
    refine doneY (by kernel_rfl) ?_ _
    have kk4 : W4.cell? ⟨g, 4, none⟩ = some (.bool end0) := cells_at (i := 4) hg4 rfl
    have ff4 := heap_frozen hg4 4
    have kx4 : W4.cell? ⟨u, 1, none⟩ = some (.bool x.p.more) := cells_at (i := 1) hs4.box rfl
    have hKW : Kept (fun k => k = g ∨ (Value.slice A n c).ownBlock = some k) w W4 := (Kept.of_below (HBW.out.mono (Nat.le_of_eq HU.out))).trans K4 (fun _ _ h => h)
    rw [HX.out] at hs4
    cases end0 with
    | true =>
      go_wp2_with fail
      refine bodyPost_end (results_none rfl _ _ _) rfl ?_
      have hg5 := heap_setCell_same W4 g 4 _ _ (.bool true) hg4
      have hs5 := hs4.set (i := 4) (u' := .bool true) hg4
      have K5 := hKW.trans (Kept.setCell W4 g 4 (.bool true)) (fun _ _ h => .inl h)
      rw [HX.out] at hg5
      exact ⟨rfl, A2, c2, P1, p1, hg5, hs5.own, hs5.byt, K5, fun k e => by rw [HU.out]; exact HBL.out k e⟩
    | false =>
      cases hmo : x.p.more with
      | true =>
        rw [hmo] at kx4
        go_wp2_with fail
        refine bodyPost_end (results_none rfl _ _ _) rfl ?_
        have hg5 := heap_setCell_same W4 g 4 _ _ (.bool false) hg4
        have hs5 := hs4.set (i := 4) (u' := .bool false) hg4
        have K5 := hKW.trans (Kept.setCell W4 g 4 (.bool false)) (fun _ _ h => .inl h)
        rw [HX.out] at hg5 hmo
        have e9 : (false || !q.p.more) = false := by rw [show q.p.more = true from hmo]; rfl
        rw [e9]
        exact ⟨rfl, A2, c2, P1, p1, hg5, hs5.own, hs5.byt, K5, fun k e => by rw [HU.out]; exact HBL.out k e⟩
      | false =>
        rw [hmo] at kx4
        go_wp2_with fail
        refine bodyPost_end (results_none rfl _ _ _) rfl ?_
        have hg5 := heap_setCell_same W4 g 4 _ _ (.bool true) hg4
        have hs5 := hs4.set (i := 4) (u' := .bool true) hg4
        have K5 := hKW.trans (Kept.setCell W4 g 4 (.bool true)) (fun _ _ h => .inl h)
        rw [HX.out] at hg5 hmo
        have e9 : (false || !q.p.more) = true := by rw [show q.p.more = false from hmo]; rfl
        rw [e9]
        exact ⟨rfl, A2, c2, P1, p1, hg5, hs5.own, hs5.byt, K5, fun k e => by rw [HU.out]; exact HBL.out k e⟩
  · refine valGI (run_bshp (cs := (clP x).toArray) rfl rfl rfl) ?_
    have b10 := b0.alloc b0.size (.cells (clP x).toArray 225)
    have hv : (X0.alloc (.cells (clP x).toArray 225)).heap[X0.heap.size]? = some (.cells (clP x).toArray 225 (0, 0)) := World.alloc_heap_new _ _
    have hvW : W.heap.size ≤ X0.heap.size := b0.size
    have hS : Kept (fun k => (Value.slice A n c).ownBlock = some k) W (X0.alloc (.cells (clP x).toArray 225)) := Kept.of_below b10
    refine hK _ _ (fun _ => hS) ?_
    clear hK K
    generalize X0.alloc (.cells (clP x).toArray 225) = w10 at *
    obtain ⟨vb, hvb⟩ : ∃ vb, vb = X0.heap.size := ⟨_, rfl⟩
    rw [← hvb] at hv hvW ⊢
    clear hvb
    have hvz := heap_lt hv
    try go_frame
    refine oneY (i := 8) (oi := ⟨some 16, _, _, _, _, _⟩) (by kernel_rfl) rfl (by rfl) (fun K hK => ?_)
    refine callI (f := 186) (args := #[.pointer (some ⟨g, 0, none⟩), .int .i64 x.p.off]) (by go_simp; try rfl) ?_
    refine (hcplace g x.p.off A c L _ (HV.out.below b10)).mono ?_
    rintro e w8 ⟨rfl, x8⟩
    rw [← HM.out]
    have b8 := b10.trans (x8.mono b10.size)
    have hv8 := (x8.block vb hvz).trans hv
    have hS : Kept (fun k => (Value.slice A n c).ownBlock = some k) W w8 := Kept.of_below b8
    refine ⟨_, rfl, ?_⟩
    refine hK _ _ (fun _ => hS) ?_
    clear hK K
    try go_frame
    try go_frame
    refine oneY (i := 11) (oi := ⟨some 19, _, _, _, _, _⟩) (by kernel_rfl) rfl (by rfl) (fun K hK => ?_)
    refine callI (f := 188) (args := #[.slice A n c, .int .i64 m, .slice (some ⟨vb, 0, none⟩) 1 1]) (by go_simp; try rfl) ?_
    refine (hcinsert_n A c m vb n L x _ HN.out (own_below HO.out b8) HNI.out hm hn1 hv8 (fun e => by have := hrz vb e; omega)).mono ?_
    rintro e w11 ⟨A2, c2, rfl, own11, k11, bl11⟩
    have HBL : Hid (∀ k, (Value.slice A2 (n + 1) c2).ownBlock = some k → (Value.slice A n c).ownBlock = some k ∨ u ≤ k) := Lib.hid (fun k e9 => by
      rcases bl11 with h9 | h9
      · exact .inl (h9.symm.trans e9)
      · right
        have e8 := Option.some.inj (h9.symm.trans e9)
        have := b8.size
        omega)
    clear bl11
    have hK11 : Kept (fun k => (Value.slice A n c).ownBlock = some k) W w11 := (Kept.of_below b8).trans k11 (fun _ _ h => h)
    have hS := hK11
    refine ⟨_, rfl, ?_⟩
    refine hK _ _ (fun _ => hS) ?_
    clear hK K
    try go_frame
    try go_frame
    refine pureY (i := 12) (oi := ⟨some 20, _, _, _, _, _⟩) rfl (by kernel_rfl) (by kernel_rfl) (by kernel_rfl) (by kernel_rfl) (by kernel_rfl) (fun _ _ _ h => h) (by rfl) (v := ?_) (fun w hSw => ?_) hS ?_
    rotate_left
    · go_simp; try with_reducible rfl
    try go_frame
    refine oneY (i := 13) (oi := ⟨some 21, _, _, _, _, _⟩) (by kernel_rfl) rfl (by rfl) (fun K hK => ?_)
    refine valI (v := ?_) ?_ ?_
    rotate_left
    · go_simp; try with_reducible rfl
    refine hK _ _ (fun h => absurd h (by decide)) ?_
    clear hK K
    try go_frame
    refine oneY (i := 14) (oi := ⟨none, _, _, _, _, _⟩) (by kernel_rfl) rfl (by rfl) (fun K hK => ?_)
    have hg11 := (hK11.block g hgz hgr).trans hg
    have k14 := cells_at (i := 1) hg11 rfl
    have f14 := heap_frozen hg11 1
    refine store_hpsI rfl rfl rfl k14 f14 ?_
    have hg2 : (w11.setCell ⟨g, 1, none⟩ (.slice A2 (n + 1) c2)).heap[g]? = some (.cells #[.bool true, .slice A2 (n + 1) c2, .int .i64 by0, .int .i64 far0, .bool end0] 179 (0, 0)) := heap_setCell_same w11 g 1 _ _ (.slice A2 (n + 1) c2) hg11
    have hs11 : Ks w11 u x (.slice A2 (n + 1) c2) (n + 1) (putX L m x) (x :: L) := ⟨(hK11.block u huz hur).trans hu, own11, fun y hy => own_keptT (HB.out y hy) hK11 (fun k e => hrT k e)⟩
    have hs2 := hs11.set (i := 1) (u' := .slice A2 (n + 1) c2) hg11
    have K2 : Kept (fun k => k = g ∨ (Value.slice A n c).ownBlock = some k) W (w11.setCell ⟨g, 1, none⟩ (.slice A2 (n + 1) c2)) := (hK11.mono (fun _ _ h => .inr h)).trans (Kept.setCell w11 g 1 _) (fun _ _ h => .inl h)
    clear k14 f14 hg11 hs11
    refine hK _ _ (fun h => absurd h (by decide)) ?_
    clear hK K
    generalize w11.setCell ⟨g, 1, none⟩ (.slice A2 (n + 1) c2) = W2 at *
    try go_frame
    try go_frame
    refine doneY (by kernel_rfl) ?_ _
    clear b0 b8 b10 hv hvW hvz hgz huz hgr hur hrT hrz hS hK11 k11 own11 hu
    go_upto_region 3 with fail
    have hg2z := heap_lt hg2
    have hu2z := heap_lt hs2.box
    refine regionY 9 (fun w' => Below W2.heap.size W2 w') (by kernel_rfl) ?_
    have hS := (Below.refl W2.heap.size W2).drew
    refine pureY (i := 0) (oi := ⟨some 22, _, _, _, _, _⟩) rfl (by kernel_rfl) (by kernel_rfl) (by kernel_rfl) (by kernel_rfl) (by kernel_rfl) (fun _ _ _ h => h) (by rfl) (v := ?_) (fun w hSw => ?_) hS ?_
    rotate_left
    · go_simp; try with_reducible rfl
    try go_frame
    refine pureY (i := 1) (oi := ⟨some 23, _, _, _, _, _⟩) rfl (by kernel_rfl) (by kernel_rfl) (by kernel_rfl) (by kernel_rfl) (by kernel_rfl) (fun _ _ _ h => h) (by rfl) (v := ?_) (fun w hSw => ?_) hS ?_
    rotate_left
    · go_simp; try with_reducible rfl
    try go_frame
    refine pureY (i := 2) (oi := ⟨some 24, _, _, _, _, _⟩) rfl (by kernel_rfl) (by kernel_rfl) (by kernel_rfl) (by kernel_rfl) (by kernel_rfl) (fun _ _ _ h => h) (by rfl) (v := ?_) (fun w hSw => ?_) hS ?_
    rotate_left
    · go_simp; try with_reducible rfl
    try go_frame
    refine pureY (i := 3) (oi := ⟨some 25, _, _, _, _, _⟩) rfl (by kernel_rfl) (by kernel_rfl) (by kernel_rfl) (by kernel_rfl) (by kernel_rfl) (fun _ _ _ h => h) (by rfl) (fun w hSw => run_load_int rfl rfl (cells_at (i := 2) ((hSw.block g hg2z).trans hg2) rfl)) hS ?_
    try go_frame
    refine pureY (i := 4) (oi := ⟨some 26, _, _, _, _, _⟩) rfl (by kernel_rfl) (by kernel_rfl) (by kernel_rfl) (by kernel_rfl) (by kernel_rfl) (fun _ _ _ h => h) (by rfl) (v := ?_) (fun w hSw => ?_) hS ?_
    rotate_left
    · go_simp; try with_reducible rfl
    try go_frame
    refine pureY (i := 5) (oi := ⟨some 27, _, _, _, _, _⟩) rfl (by kernel_rfl) (by kernel_rfl) (by kernel_rfl) (by kernel_rfl) (by kernel_rfl) (fun _ _ _ h => h) (by rfl) (fun w hSw => run_load_sl rfl rfl (cells_at (i := 2) ((hSw.block u hu2z).trans hs2.box) rfl)) hS ?_
    try go_frame
    refine pureY (i := 6) (oi := ⟨some 28, _, _, _, _, _⟩) rfl (by kernel_rfl) (by kernel_rfl) (by kernel_rfl) (by kernel_rfl) (by kernel_rfl) (fun _ _ _ h => h) (by rfl) (v := ?_) (fun w hSw => ?_) hS ?_
    rotate_left
    · go_simp; try with_reducible rfl
    try go_frame
    refine pureY (i := 7) (oi := ⟨some 29, _, _, _, _, _⟩) rfl (by kernel_rfl) (by kernel_rfl) (by kernel_rfl) (by kernel_rfl) (by kernel_rfl) (fun _ _ _ h => h) (by rfl) (v := .int .i64 (by0 + (x.p.b.length : Int))) (fun w hSw => by go_simp; try exact HW1.out) hS ?_
    try go_frame
    refine pureY (i := 8) (oi := ⟨some 30, _, _, _, _, _⟩) rfl (by kernel_rfl) (by kernel_rfl) (by kernel_rfl) (by kernel_rfl) (by kernel_rfl) (fun _ _ _ h => h) (by rfl) (v := ?_) (fun w hSw => ?_) hS ?_
    rotate_left
    · go_simp; try with_reducible rfl
    try go_frame
    refine oneY (i := 9) (oi := ⟨some 31, _, _, _, _, _⟩) (by kernel_rfl) rfl (by rfl) (fun K hK => ?_)
    refine valI (v := ?_) ?_ ?_
    rotate_left
    · go_simp; try with_reducible rfl
    refine hK _ _ (fun h => absurd h (by decide)) ?_
    clear hK K
    try go_frame
    refine oneY (i := 10) (oi := ⟨none, _, _, _, _, _⟩) (by kernel_rfl) rfl (by rfl) (fun K hK => ?_)
    have kk := cells_at (i := 2) ((hS.block g hg2z).trans hg2) rfl
    have ff := heap_frozen ((hS.block g hg2z).trans hg2) 2
    refine store_intI rfl rfl rfl kk ff ?_
    have hg3 : (W2.drew.setCell ⟨g, 2, none⟩ (.int .i64 (by0 + (x.p.b.length : Int)))).heap[g]? = some (.cells #[.bool true, .slice A2 (n + 1) c2, .int .i64 (by0 + (x.p.b.length : Int)), .int .i64 far0, .bool end0] 179 (0, 0)) := heap_setCell_same _ g 2 _ _ (.int .i64 (by0 + (x.p.b.length : Int))) ((hS.block g hg2z).trans hg2)
    have hs3 := (hs2.below hS).set (i := 2) (u' := .int .i64 (by0 + (x.p.b.length : Int))) ((hS.block g hg2z).trans hg2)
    have K3 := (K2.then_below hS).trans (Kept.setCell W2.drew g 2 (.int .i64 (by0 + (x.p.b.length : Int)))) (fun _ _ h => .inl h)
    clear kk ff
    refine hK _ _ (fun h => absurd h (by decide)) ?_
    clear hK K
    generalize W2.drew.setCell ⟨g, 2, none⟩ (.int .i64 (by0 + (x.p.b.length : Int))) = W3 at *
    try go_frame
    try go_frame
    refine doneY (by kernel_rfl) ?_ _
    go_upto_region 4 with fail
    have hg3z := heap_lt hg3
    have hu3z := heap_lt hs3.box
    refine regionY 9 (fun w' => Below W3.heap.size W3 w') (by kernel_rfl) ?_
    have hS := (Below.refl W3.heap.size W3).drew
    refine pureY (i := 0) (oi := ⟨some 32, _, _, _, _, _⟩) rfl (by kernel_rfl) (by kernel_rfl) (by kernel_rfl) (by kernel_rfl) (by kernel_rfl) (fun _ _ _ h => h) (by rfl) (v := ?_) (fun w hSw => ?_) hS ?_
    rotate_left
    · go_simp; try with_reducible rfl
    try go_frame
    refine pureY (i := 1) (oi := ⟨some 33, _, _, _, _, _⟩) rfl (by kernel_rfl) (by kernel_rfl) (by kernel_rfl) (by kernel_rfl) (by kernel_rfl) (fun _ _ _ h => h) (by rfl) (v := ?_) (fun w hSw => ?_) hS ?_
    rotate_left
    · go_simp; try with_reducible rfl
    try go_frame
    refine pureY (i := 2) (oi := ⟨some 34, _, _, _, _, _⟩) rfl (by kernel_rfl) (by kernel_rfl) (by kernel_rfl) (by kernel_rfl) (by kernel_rfl) (fun _ _ _ h => h) (by rfl) (v := ?_) (fun w hSw => ?_) hS ?_
    rotate_left
    · go_simp; try with_reducible rfl
    try go_frame
    refine pureY (i := 3) (oi := ⟨some 35, _, _, _, _, _⟩) rfl (by kernel_rfl) (by kernel_rfl) (by kernel_rfl) (by kernel_rfl) (by kernel_rfl) (fun _ _ _ h => h) (by rfl) (v := ?_) (fun w hSw => ?_) hS ?_
    rotate_left
    · go_simp; try with_reducible rfl
    try go_frame
    refine pureY (i := 4) (oi := ⟨some 36, _, _, _, _, _⟩) rfl (by kernel_rfl) (by kernel_rfl) (by kernel_rfl) (by kernel_rfl) (by kernel_rfl) (fun _ _ _ h => h) (by rfl) (fun w hSw => run_load_int rfl rfl (cells_at (i := 3) ((hSw.block g hg3z).trans hg3) rfl)) hS ?_
    try go_frame
    refine pureY (i := 5) (oi := ⟨some 37, _, _, _, _, _⟩) rfl (by kernel_rfl) (by kernel_rfl) (by kernel_rfl) (by kernel_rfl) (by kernel_rfl) (fun _ _ _ h => h) (by rfl) (fun w hSw => run_load_hp rfl rfl (range_heap ((hSw.block u hu3z).trans hs3.box)) rfl) hS ?_
    try go_frame
    refine oneY (i := 6) (oi := ⟨some 38, _, _, _, _, _⟩) (by kernel_rfl) rfl (by rfl) (fun K hK => ?_)
    refine callI (f := 178) (args := #[.agg (clP x).toArray]) (by go_simp; try rfl) ?_
    refine (hcend x _ hx0 (by omega)).mono ?_
    rintro e w6 ⟨rfl, x6⟩
    have hS : Below W3.heap.size W3 w6 := (Below.refl W3.heap.size W3).drew.trans x6
    refine ⟨_, rfl, ?_⟩
    refine hK _ _ (fun _ => hS) ?_
    clear hK K
    try go_frame
    try go_frame
    refine pureY (i := 7) (oi := ⟨some 39, _, _, _, _, _⟩) rfl (by kernel_rfl) (by kernel_rfl) (by kernel_rfl) (by kernel_rfl) (by kernel_rfl) (fun _ _ _ h => h) (by rfl) (v := .int .i64 (max far0 x.p.stop)) (fun w hSw => by go_simp) hS ?_
    try go_frame
    refine pureY (i := 8) (oi := ⟨some 40, _, _, _, _, _⟩) rfl (by kernel_rfl) (by kernel_rfl) (by kernel_rfl) (by kernel_rfl) (by kernel_rfl) (fun _ _ _ h => h) (by rfl) (v := ?_) (fun w hSw => ?_) hS ?_
    rotate_left
    · go_simp; try with_reducible rfl
    try go_frame
    refine oneY (i := 9) (oi := ⟨some 41, _, _, _, _, _⟩) (by kernel_rfl) rfl (by rfl) (fun K hK => ?_)
    refine valI (v := ?_) ?_ ?_
    rotate_left
    · go_simp; try with_reducible rfl
    refine hK _ _ (fun h => absurd h (by decide)) ?_
    clear hK K
    try go_frame
    refine oneY (i := 10) (oi := ⟨none, _, _, _, _, _⟩) (by kernel_rfl) rfl (by rfl) (fun K hK => ?_)
    have kk := cells_at (i := 3) ((hS.block g hg3z).trans hg3) rfl
    have ff := heap_frozen ((hS.block g hg3z).trans hg3) 3
    refine store_intI rfl rfl rfl kk ff ?_
    have hg4 : (w6.setCell ⟨g, 3, none⟩ (.int .i64 (max far0 x.p.stop))).heap[g]? = some (.cells #[.bool true, .slice A2 (n + 1) c2, .int .i64 (by0 + (x.p.b.length : Int)), .int .i64 (max far0 x.p.stop), .bool end0] 179 (0, 0)) := heap_setCell_same _ g 3 _ _ (.int .i64 (max far0 x.p.stop)) ((hS.block g hg3z).trans hg3)
    have hs4 := (hs3.below hS).set (i := 3) (u' := .int .i64 (max far0 x.p.stop)) ((hS.block g hg3z).trans hg3)
    have K4 := (K3.then_below hS).trans (Kept.setCell w6 g 3 (.int .i64 (max far0 x.p.stop))) (fun _ _ h => .inl h)
    clear kk ff
    refine hK _ _ (fun h => absurd h (by decide)) ?_
    clear hK K
    generalize w6.setCell ⟨g, 3, none⟩ (.int .i64 (max far0 x.p.stop)) = W4 at *
    try go_frame
    try go_frame
    refine doneY (by kernel_rfl) ?_ _
    have kk4 : W4.cell? ⟨g, 4, none⟩ = some (.bool end0) := cells_at (i := 4) hg4 rfl
    have ff4 := heap_frozen hg4 4
    have kx4 : W4.cell? ⟨u, 1, none⟩ = some (.bool x.p.more) := cells_at (i := 1) hs4.box rfl
    have hKW : Kept (fun k => k = g ∨ (Value.slice A n c).ownBlock = some k) w W4 := (Kept.of_below (HBW.out.mono (Nat.le_of_eq HU.out))).trans K4 (fun _ _ h => h)
    rw [HX.out] at hs4
    cases end0 with
    | true =>
      go_wp2_with fail
      refine bodyPost_end (results_none rfl _ _ _) rfl ?_
      have hg5 := heap_setCell_same W4 g 4 _ _ (.bool true) hg4
      have hs5 := hs4.set (i := 4) (u' := .bool true) hg4
      have K5 := hKW.trans (Kept.setCell W4 g 4 (.bool true)) (fun _ _ h => .inl h)
      rw [HX.out] at hg5
      exact ⟨rfl, A2, c2, P1, p1, hg5, hs5.own, hs5.byt, K5, fun k e => by rw [HU.out]; exact HBL.out k e⟩
    | false =>
      cases hmo : x.p.more with
      | true =>
        rw [hmo] at kx4
        go_wp2_with fail
        refine bodyPost_end (results_none rfl _ _ _) rfl ?_
        have hg5 := heap_setCell_same W4 g 4 _ _ (.bool false) hg4
        have hs5 := hs4.set (i := 4) (u' := .bool false) hg4
        have K5 := hKW.trans (Kept.setCell W4 g 4 (.bool false)) (fun _ _ h => .inl h)
        rw [HX.out] at hg5 hmo
        have e9 : (false || !q.p.more) = false := by rw [show q.p.more = true from hmo]; rfl
        rw [e9]
        exact ⟨rfl, A2, c2, P1, p1, hg5, hs5.own, hs5.byt, K5, fun k e => by rw [HU.out]; exact HBL.out k e⟩
      | false =>
        rw [hmo] at kx4
        go_wp2_with fail
        refine bodyPost_end (results_none rfl _ _ _) rfl ?_
        have hg5 := heap_setCell_same W4 g 4 _ _ (.bool true) hg4
        have hs5 := hs4.set (i := 4) (u' := .bool true) hg4
        have K5 := hKW.trans (Kept.setCell W4 g 4 (.bool true)) (fun _ _ h => .inl h)
        rw [HX.out] at hg5 hmo
        have e9 : (false || !q.p.more) = true := by rw [show q.p.more = false from hmo]; rfl
        rw [e9]
        exact ⟨rfl, A2, c2, P1, p1, hg5, hs5.own, hs5.byt, K5, fun k e => by rw [HU.out]; exact HBL.out k e⟩
end Go.Proofs.YtpoigngpdcmipaaGreat
namespace Go.Proofs.YtpoigngpdcmipaaGreat
open Go.RowKit Go.Shelf
structure Hx (w : World) (g : Nat) (A : Option Addr) (c : Nat) (L : List XP) : Prop where
  obj : w.heap[g]? = some (.cells #[.bool true, .slice A L.length c, .int .i64 (bytesP (piE L)), .int .i64 (farP (piE L)), .bool (endedP (piE L))] 179 (0, 0))
  own : w.ownsRow 0 225 3 (.slice A L.length c) L.length (L.flatMap clP)
  nil_ : Value.slice A L.length c = .slice none 0 0 ∨ 0 < L.length
  byt : ∀ y ∈ L, w.ownsRow 0 5 1 (.slice y.A y.p.b.length y.c) y.p.b.length (row y.p.b)
  ris : Ris (piE L)
  n : L.length ≤ 100000
theorem Hx.view {w : World} {g : Nat} {A : Option Addr} {c : Nat} {L : List XP} (h : Hx w g A c L) : Hv w g A c L := by
  obtain ⟨A', c', e, hr, hc⟩ := own_rds h.own rfl rfl (fun _ _ => rfl)
  injection e with e1 e2 e3
  subst e1; subst e3
  refine ⟨cells_at h.obj rfl, cells_at h.obj rfl, cells_at h.obj rfl, cells_at h.obj rfl, cells_at h.obj rfl, hr, fun x hx => arg_own (h.byt x hx), hc, fun e => ?_, h.ris, h.n⟩
  subst e
  rcases h.own.2 with ⟨e, _⟩ | ⟨g', cap, cur, e, _⟩
  · injection e with _ _ e3
  · injection e with e1; cases e1
theorem Hx.below {w w' : World} {g : Nat} {A : Option Addr} {c : Nat} {L : List XP} (h : Hx w g A c L) (hb : Below w.heap.size w w') : Hx w' g A c L :=
  ⟨(hb.block g (heap_lt h.obj)).trans h.obj, own_below h.own hb, h.nil_, fun y hy => own_below (h.byt y hy) hb, h.ris, h.n⟩
theorem hcmade1 (g : Nat) (w : World) (h : w.cell? ⟨g, 0, none⟩ = some (.bool true)) : Calls Tryz.prog 128 #[.pointer (some ⟨g, 0, none⟩)] w fun e w' => e = .returned (.bool true) ∧ w = w' := (hcmade g w h).mono fun _ _ h => ⟨h.1, h.2.symm⟩
theorem hccheck1 (a n : Int) (m : Bool) (w : World) (h0 : 0 ≤ n) (h1 : n ≤ 1000000) (ha : -9223372036854775808 ≤ a ∧ a ≤ 9223372036854775807) :
    Calls Tryz.prog 175 #[.int .i64 a, .bool m, .int .i64 n] w fun e w' =>
      e = .returned (.int .i64 (if a < 0 ∨ (m = true ∧ (n = 0 ∨ n % 8 ≠ 0)) then 4 else if a > 65535 - n then 6 else 0)) ∧ w = w' := (hccheck a n m w h0 h1 ha).mono fun _ _ h => ⟨h.1, h.2.symm⟩
theorem hcnew (w : World) : Calls Tryz.prog 171 #[] w fun e w' => e = .returned (.pointer (some ⟨w.heap.size, 0, none⟩)) ∧ Hx w' w.heap.size none 0 [] ∧ Below w.heap.size w w' ∧ w'.heap.size = w.heap.size + 1 := by
  go_enter Tryz.func171, Tryz.ntmps171
  go_wp2
  go_ret
  exact ⟨rfl, ⟨World.alloc_heap_new w _, World.ownsRow_nil _ _ _ _, .inl rfl, fun y h => (by cases h), Ris.nil, by simp⟩, (Below.refl _ w).alloc (Nat.le_refl _) _, by simp⟩
theorem hcbytes (g : Nat) (A : Option Addr) (c : Nat) (L : List XP) (w : World) (h : Hx w g A c L) :
    Calls Tryz.prog 102 #[.pointer (some ⟨g, 0, none⟩)] w fun e w' => e = .returned (.int .i64 (bytesP (piE L))) ∧ w = w' := by
  have hm := h.view.made
  have hb := h.view.bytes
  clear h
  go_enter Tryz.func102, Tryz.ntmps102
  go_wp2_with (go_at_call 128; refine (hcmade1 g _ hm).mono ?_; rintro e w1 ⟨rfl, rfl⟩)
  go_ret
  exact ⟨rfl, rfl⟩
theorem nearX_le (L : List XP) (off : Int) {n : Nat} (hn : n = L.length) (h : n ≤ 100000) : (nearX L off).length ≤ 100000 := by
  rw [nearX_len]; omega
theorem nearX_any (L : List XP) (off : Int) (f : Pc → Bool) : (nearX L off).any (fun y => f y.p) = (nearP (piE L) off).any f := by
  rw [← nearX_p, piE, List.any_map]; rfl
theorem putX_len {L : List XP} {n : Nat} (hn : n = L.length) (a : Int) (x : XP) : (putX L (atP (piE L) a) x).length = n + 1 := by
  have := atP_le (piE L) a
  have hl : (piE L).length = L.length := by simp [piE]
  simp [putX]; omega
theorem putX_pure (L : List XP) (a : Int) (x : XP) (hx : x.p.off = a := by rfl) : piE (putX L (atP (piE L) a) x) = putP (piE L) x.p := by
  subst hx
  simp only [putX, putP, piE, List.map_append, List.map_cons, List.map_take, List.map_drop]
theorem hp_store_new {ops : Array Oper} {rest : List Oper} {x y : Operand} {ty : TypeId} {pos : String} {af : Array Edge} {a : Act} {w : World} {Q : Exit → Act → World → Prop}
    {t : TypeId} {cs old : Array Value} (hx : a.eval x = .pointer (some ⟨w.heap.size, 0, none⟩)) (hy : a.eval y = .agg cs) (ho : old.size = 3) (hl : cs.size = 3) (h1 : cs.all (·.oneCell') = true)
    (h : wpList Tryz.prog ops Q rest (a.put none undef) (w.alloc (.cells cs t))) : wpList Tryz.prog ops Q (⟨none, .store 225 x y, ty, pos, af, none⟩ :: rest) a (w.alloc (.cells old t)) :=
  wpList_plain rfl fun _ hK => wp_store_row 225 x y rfl w.heap.size cs hx hy t old (World.alloc_heap_new w _) (by rw [hl]; kernel_rfl) (by rw [ho, hl]) h1 (by rw [World.setRow_alloc_new]; exact hK _ _ h)
theorem hx_put {L : List XP} {n : Nat} {a : Int} {m : Bool} {b : List UInt8} {P : Option Addr} {p : Nat} {g : Nat} {A2 : Option Addr} {c2 : Nat} {w : World} (hr : Ris (piE L)) (hn : n = L.length) (hb2 : n + 1 ≤ 100000)
    (hbad : ¬ badP ⟨a, m, b⟩) (hlong : ¬ a > 65535 - (b.length : Int)) (h1 : (nearP (piE L) a).any (fun x => decide (x = ⟨a, m, b⟩)) = false) (h2 : (nearP (piE L) a).any (meetsP ⟨a, m, b⟩) = false)
    (hl : ¬ ((endedP (piE L) = true ∧ (m = false ∨ (Pc.mk a m b).stop > farP (piE L))) ∨ (m = false ∧ (Pc.mk a m b).stop < farP (piE L))))
    (hg : w.heap[g]? = some (.cells #[.bool true, .slice A2 (n + 1) c2, .int .i64 (bytesP (piE L) + (Pc.mk a m b).len), .int .i64 (max (farP (piE L)) (Pc.mk a m b).stop), .bool (endedP (piE L) || !m)] 179 (0, 0)))
    (ho : w.ownsRow 0 225 3 (.slice A2 (n + 1) c2) (n + 1) ((putX L (atP (piE L) a) ⟨⟨a, m, b⟩, P, p⟩).flatMap clP))
    (hy : ∀ y ∈ XP.mk ⟨a, m, b⟩ P p :: L, w.ownsRow 0 5 1 (.slice y.A y.p.b.length y.c) y.p.b.length (row y.p.b)) (_hn1 : n ≤ 100000) : Hx w g A2 c2 (putX L (atP (piE L) a) ⟨⟨a, m, b⟩, P, p⟩) := by
  have e1 := putX_pure L a ⟨⟨a, m, b⟩, P, p⟩
  have e2 := putX_len hn a ⟨⟨a, m, b⟩, P, p⟩
  have hp := putP_perm (piE L) ⟨a, m, b⟩
  have hnot : ¬ Pc.mk a m b ∈ piE L := fun h => by
    have h3 := near_same hr (Pc.mk a m b) (fun x => decide (x = ⟨a, m, b⟩)) (fun x _ g => by rw [of_decide_eq_true g])
    rw [show (Pc.mk a m b).off = a from rfl, h1] at h3
    have := List.any_eq_false.1 h3.symm _ h
    simp at this
  have hs : ¬ sharesP (piE L) ⟨a, m, b⟩ = true := by
    rw [shares_meets hr hbad hnot, ← near_meets hr ⟨a, m, b⟩]
    show ¬ (nearP (piE L) a).any (meetsP ⟨a, m, b⟩) = true
    rw [h2]; decide
  refine ⟨?_, by rw [e2]; exact ho, .inr (by omega), fun y h => hy y ?_, ?_, by omega⟩
  · rw [e1, e2, bytesP_perm hp, farP_perm hp, show endedP (putP (piE L) ⟨a, m, b⟩) = endedP (piE L ++ [⟨a, m, b⟩]) from any_perm hp _]
    have b1 : ∀ (l : List Pc) (q : Pc), bytesP (l ++ [q]) = bytesP l + q.len := fun l q => by
      induction l with
      | nil => simp [bytesP]
      | cons x l ih => rw [List.cons_append, bytesP, bytesP, ih]; omega
    have f1 : ∀ (l : List Pc) (q : Pc), 0 ≤ q.stop → farP (l ++ [q]) = max (farP l) q.stop := fun l q h0 => by
      induction l with
      | nil => simp [farP]; omega
      | cons x l ih => rw [List.cons_append, farP, farP, ih]; omega
    have hst : 0 ≤ (Pc.mk a m b).stop := by
      have h0 : ¬ a < 0 := fun h => hbad (.inl h)
      have h5 : (Pc.mk a m b).stop = a + (b.length : Int) := rfl
      omega
    rw [b1, f1 _ _ hst]
    have e3 : endedP (piE L ++ [⟨a, m, b⟩]) = (endedP (piE L) || !m) := by simp [endedP]
    rw [e3]; exact hg
  · rcases List.mem_append.1 h with h | h
    · exact List.mem_cons_of_mem _ (List.mem_of_mem_take h)
    · rcases List.mem_cons.1 h with rfl | h
      · exact List.mem_cons_self ..
      · exact List.mem_cons_of_mem _ (List.mem_of_mem_drop h)
  · rw [e1]; exact ris_put hr hbad hlong hs (fun h => hl ((ris_late hr _).1 h))
theorem eg45 : ∀ args w, (callFunc 176 args).run Tryz.prog w = .ok (.enter 176 args) w := enters_of Tryz.func176 (by kernel_rfl) rfl
theorem eg46 : ∀ args w, (callFunc 177 args).run Tryz.prog w = .ok (.enter 177 args) w := enters_of Tryz.func177 (by kernel_rfl) rfl
theorem eg42 : ∀ args w, (callFunc 174 args).run Tryz.prog w = .ok (.enter 174 args) w := enters_of Tryz.func174 (by kernel_rfl) rfl
set_option maxRecDepth 100000 in
set_option maxHeartbeats 1000000 in
theorem hcroom (g : Nat) (A : Option Addr) (c : Nat) (L : List XP) (a : Int) (A' : Option Addr) (b : List UInt8) (c' : Nat) (w : World) (h : Hx w g A c L) (hA' : Arg w w.heap.size A' c' b) :
    Calls Tryz.prog 153 #[.pointer (some ⟨g, 0, none⟩), .int .i64 a, .slice A' b.length c'] w fun e w' => e = .returned (.int .i64 (if (nearP (piE L) a).any (alikeP ⟨a, false, b⟩) then 0 else (b.length : Int))) ∧ Below w.heap.size w w' := by
  have HV := Lib.hid h.view
  have hA := Lib.hid hA'
  obtain ⟨xp, hxp⟩ : ∃ xp, xp = XP.mk ⟨a, false, b⟩ A' c' := ⟨_, rfl⟩
  have HP : Hid (∀ (V : World) (y : XP), y ∈ L → Below w.heap.size w V → Calls Tryz.prog 174 #[.agg (clP xp).toArray, .agg (clP y).toArray] V fun e w' => e = .returned (.bool (alikeP xp.p y.p)) ∧ Below V.heap.size V w') := Lib.hid (fun V y hy hV =>
    hcalike xp y w.heap.size w.heap.size V (by rw [hxp]; exact (hA.out.rd).below hV) ((HV.out.arg y hy).rd.below hV) hV.size hV.size)
  have e1 : (nearX L a).any (fun y => alikeP xp.p y.p) = (nearP (piE L) a).any (alikeP ⟨a, false, b⟩) := by rw [hxp]; exact nearX_any L a _
  have hn1 := h.n
  obtain ⟨R, hR⟩ : ∃ R, R = (nearP (piE L) a).any (alikeP ⟨a, false, b⟩) := ⟨_, rfl⟩
  rw [← hR]
  rw [← hR] at e1
  have E1 := Lib.hid e1
  have hcl : (Value.agg #[.int .i64 a, .bool false, .slice A' b.length c']) = .agg (clP xp).toArray := by rw [hxp]; rfl
  have HCL := Lib.hid hcl
  clear h hA' hxp e1 hR hcl
  go_enter Tryz.func153, Tryz.ntmps153
  cases R with
  | true =>
    go_wp2_with (first
      | (go_at_call 172; rw [HCL.out]; refine (hccontains 174 (.agg (clP xp).toArray) (fun y => alikeP xp.p y.p) A1 c1 (nearX L a) w.heap.size w2 eg42 RD1.out x2.size (nearX_le _ _ rfl hn1) (fun V y hy hV => (HP.out V y (nearX_sub y hy) (x2.trans (hV.mono x2.size))).mono fun e w' h9 => ⟨h9.1, hV.trans (h9.2.mono hV.size)⟩)).mono ?_; rintro e w3 ⟨rfl, x3⟩; rw [E1.out])
      | (go_at_call 173; refine (hcnear g a A c L _ HV.out).mono ?_; rintro e w2 ⟨⟨A1, c1, rfl, rd1⟩, x2⟩; have RD1 := Lib.hid rd1; clear rd1)
      | (go_at_call 128; refine (hcmade1 g _ HV.out.made).mono ?_; rintro e w1 ⟨rfl, rfl⟩))
    go_ret
    exact ⟨rfl, x2.trans (x3.mono x2.size)⟩
  | false =>
    go_wp2_with (first
      | (go_at_call 172; rw [HCL.out]; refine (hccontains 174 (.agg (clP xp).toArray) (fun y => alikeP xp.p y.p) A1 c1 (nearX L a) w.heap.size w2 eg42 RD1.out x2.size (nearX_le _ _ rfl hn1) (fun V y hy hV => (HP.out V y (nearX_sub y hy) (x2.trans (hV.mono x2.size))).mono fun e w' h9 => ⟨h9.1, hV.trans (h9.2.mono hV.size)⟩)).mono ?_; rintro e w3 ⟨rfl, x3⟩; rw [E1.out])
      | (go_at_call 173; refine (hcnear g a A c L _ HV.out).mono ?_; rintro e w2 ⟨⟨A1, c1, rfl, rd1⟩, x2⟩; have RD1 := Lib.hid rd1; clear rd1)
      | (go_at_call 128; refine (hcmade1 g _ HV.out.made).mono ?_; rintro e w1 ⟨rfl, rfl⟩))
    go_ret
    exact ⟨rfl, x2.trans (x3.mono x2.size)⟩
end Go.Proofs.YtpoigngpdcmipaaGreat
