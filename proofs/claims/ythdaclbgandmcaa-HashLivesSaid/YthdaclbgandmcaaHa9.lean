/-
  Contracts and lemmas on which the proofs of this seat stand (several texts in one). Conditions are each theorem's own.
-/
import Derived.Test.YthdaclbgandmcaaHa8
import Derived.Test.YthdaclbgandmcaaHa7

/-
  One part more is kept: what keep of layer 15 leaves. Conditions are each theorem's own.
-/
namespace Go.Proofs.Ythdaclbgandmcaa
open Go.RowKit Go.Shelf
theorem Kept.setCell (w : World) (g i : Nat) (v : Value) : Kept (fun k => k = g) w (w.setCell ⟨g, i, none⟩ v) := ⟨rfl, rfl, rfl, by simp, fun k _ hn => heap_setCell_other w ⟨g, i, none⟩ k v hn⟩
theorem range_heap {w : World} {u : Nat} {cs : List Value} {t : TypeId} {fr : Nat × Nat} (h : w.heap[u]? = some (.cells cs.toArray t fr)) : w.rangeAt u 0 cs := fun j v hj => cells_at h (by rw [Nat.zero_add, List.getElem?_toArray]; exact hj)
theorem own_keptT {S : Nat → Prop} {w w' : World} {b e s n : Nat} {v : Value} {xs : List Value} (h : w.ownsRow b e s v n xs) (k : Kept S w w') (hS : ∀ g, S g → ∀ cs fr, w.heap[g]? ≠ some (.cells cs e fr)) : w'.ownsRow b e s v n xs := by
  refine ⟨h.1, ?_⟩
  rcases h.2 with hn | ⟨g, cap, cur, hv, hb, hg, rest⟩
  · exact .inl hn
  · exact .inr ⟨g, cap, cur, hv, hb, (k.block g (heap_lt hg) (fun s => hS g s _ _ hg)).trans hg, rest⟩
theorem own_base0 {w : World} {b e s n : Nat} {v : Value} {xs : List Value} (h : w.ownsRow b e s v n xs) : w.ownsRow 0 e s v n xs := by
  refine ⟨h.1, ?_⟩
  rcases h.2 with hn | ⟨g, cap, cur, hv, hb, rest⟩
  · exact .inl hn
  · exact .inr ⟨g, cap, cur, hv, Nat.zero_le _, rest⟩
/-- While one part more is kept: its box, the row of the parts, the bytes of each. -/
structure Ks (w : World) (u : Nat) (x : XP) (v : Value) (n : Nat) (L' Lb : List XP) : Prop where
  box : w.heap[u]? = some (.cells (clP x).toArray 158 (0, 0))
  own : w.ownsRow 0 158 3 v n (L'.flatMap clP)
  byt : ∀ y ∈ Lb, w.ownsRow 0 5 1 (.slice y.A y.p.b.length y.c) y.p.b.length (row y.p.b)
theorem Ks.below {w w' : World} {u : Nat} {x : XP} {v : Value} {n : Nat} {L' Lb : List XP} (h : Ks w u x v n L' Lb) (hb : Below w.heap.size w w') : Ks w' u x v n L' Lb :=
  ⟨(hb.block u (heap_lt h.box)).trans h.box, own_below h.own hb, fun y hy => own_below (h.byt y hy) hb⟩
theorem Ks.set {w : World} {u g i : Nat} {x : XP} {v u' : Value} {n : Nat} {L' Lb : List XP} {cs : Array Value} (h : Ks w u x v n L' Lb) (hg : w.heap[g]? = some (.cells cs 163 (0, 0))) : Ks (w.setCell ⟨g, i, none⟩ u') u x v n L' Lb :=
  ⟨(heap_setCell_other w ⟨g, i, none⟩ u u' (fun e => by
    have e' : u = g := e
    subst e'
    have h2 := h.box.symm.trans hg
    simp only [Option.some.injEq, Obj.cells.injEq] at h2
    exact absurd h2.2.1 (nat_ne (by kernel_rfl)))).trans h.box, own_setCellB h.own hg (nat_ne (by kernel_rfl)), fun y hy => own_setCellB (h.byt y hy) hg (nat_ne (by kernel_rfl))⟩
theorem run_bshp {o : Oper} {a : Act} {w : World} {x : Operand} {cs : Array Value} (ho : o.op = .buildSlice 156 1 #[(0, x)]) (hx : a.eval x = .agg cs) (hl : cs.size = 3) :
    (execOp a.eval o).run Try.prog w = .ok (.value (.slice (some ⟨w.heap.size, 0, none⟩) 1 1)) (w.alloc (.cells cs 158)) := by
  obtain ⟨i0, hi, hz0, hz1, hz2⟩ := info_parts info_hp
  have h := run_lit1 (P := Try.prog) w 156 158 i0 (.agg #[.int .i64 0, .bool false, .slice none 0 0]) cs 3 Try.underlying156 hi hz0 hz1 hl (by decide) (by decide)
  unfold execOp
  simp only [ho, List.map_toArray, List.map_cons, List.map_nil, hx, Sem.run_bind, h, Result.andThen_ok]
  rfl
theorem hcinsert_n (A : Option Addr) (c i vb n : Nat) (L : List XP) (x : XP) (w : World) (hnn : n = L.length) (own : w.ownsRow 0 158 3 (.slice A n c) n (L.flatMap clP)) (hnil : Value.slice A n c = .slice none 0 0 ∨ 0 < n) (hi : i ≤ n) (hn : n ≤ 100000)
    (hv : w.heap[vb]? = some (.cells (clP x).toArray 158 (0, 0))) (hne : (Value.slice A n c).ownBlock ≠ some vb) :
    Calls Try.prog 125 #[.slice A n c, .int .i64 i, .slice (some ⟨vb, 0, none⟩) 1 1] w fun e w' =>
      ∃ A' c', e = .returned (.slice A' (n + 1) c') ∧ w'.ownsRow 0 158 3 (.slice A' (n + 1) c') (n + 1) ((putX L i x).flatMap clP) ∧ Kept (fun k => (Value.slice A n c).ownBlock = some k) w w' ∧
        ((Value.slice A' (n + 1) c').ownBlock = (Value.slice A n c).ownBlock ∨ (Value.slice A' (n + 1) c').ownBlock = some w.heap.size) := by
  subst hnn; exact hcinsert A c i vb L x w own hnil hi hn hv hne
set_option maxRecDepth 100000 in
set_option maxHeartbeats 2000000 in
/-- keep, behind its own copy of the bytes. -/
theorem hckeep (g : Nat) (A : Option Addr) (c n : Nat) (L : List XP) (q : XP) (by0 far0 : Int) (end0 : Bool) (w : World) (hV : Hv w g A c L) (hN : n = L.length) (hg0 : w.heap[g]? = some (.cells #[.bool true, .slice A n c, .int .i64 by0, .int .i64 far0, .bool end0] 163 (0, 0)))
    (hO : w.ownsRow 0 158 3 (.slice A n c) n (L.flatMap clP)) (hNI : Value.slice A n c = .slice none 0 0 ∨ 0 < n) (hB : ∀ y ∈ L, w.ownsRow 0 5 1 (.slice y.A y.p.b.length y.c) y.p.b.length (row y.p.b))
    (hq : Arg w w.heap.size q.A q.c q.p.b) (hx0 : 0 ≤ q.p.off) (hx1 : q.p.stop ≤ 65535) (hby : 0 ≤ by0 ∧ by0 ≤ 100000000000) :
    Calls Try.prog 95 #[.pointer (some ⟨g, 0, none⟩), .agg (clP q).toArray] w fun e w' =>
      e = .returned (.tuple #[]) ∧ ∃ A2 c2 P p, w'.heap[g]? = some (.cells #[.bool true, .slice A2 (n + 1) c2, .int .i64 (by0 + q.p.len), .int .i64 (max far0 q.p.stop), .bool (end0 || !q.p.more)] 163 (0, 0)) ∧
        w'.ownsRow 0 158 3 (.slice A2 (n + 1) c2) (n + 1) ((putX L (atP (piE L) q.p.off) ⟨q.p, P, p⟩).flatMap clP) ∧
        (∀ y ∈ XP.mk q.p P p :: L, w'.ownsRow 0 5 1 (.slice y.A y.p.b.length y.c) y.p.b.length (row y.p.b)) ∧
        Kept (fun k => k = g ∨ (Value.slice A n c).ownBlock = some k) w w' ∧ (∀ k, (Value.slice A2 (n + 1) c2).ownBlock = some k → (Value.slice A n c).ownBlock = some k ∨ w.heap.size ≤ k) := by
  obtain ⟨m, hm0⟩ : ∃ m, m = atP (piE L) q.p.off := ⟨_, rfl⟩
  have hm : m ≤ n := by
    have := atP_le (piE L) q.p.off
    rw [hm0, hN]; simpa [piE] using this
  have hn1 : n ≤ 100000 := by rw [hN]; exact hV.n
  have HN := Lib.hid hN
  have HM := Lib.hid hm0
  have HNI := Lib.hid hNI
  have HB0 := Lib.hid hB
  have HO0 := Lib.hid hO
  have HV0 := Lib.hid hV
  have hgw : g < w.heap.size := heap_lt hg0
  have hrw : ∀ k, (Value.slice A n c).ownBlock = some k → ∃ cur, w.heap[k]? = some (.cells cur 158 (0, 0)) := fun k e => by
    rcases hO.2 with ⟨e1, _⟩ | ⟨k', _, cur, e1, _, hk, _⟩
    · rw [e1] at e; cases e
    · rw [e1] at e
      have : k' = k := by simpa [Value.ownBlock] using e
      exact ⟨cur, this ▸ hk⟩
  have HRW := Lib.hid hrw
  rw [← hm0]
  clear hm0 hN hNI hB hO hV hrw
  have eq0 : clP q = [.int .i64 q.p.off, .bool q.p.more, .slice q.A q.p.b.length q.c] := rfl
  rw [eq0]
  go_enter Try.func95, Try.ntmps95
  go_upto_region 2 with (go_at_call 124; refine (clone_any q.A q.p.b q.c w.heap.size _ (hq.alloc (Nat.le_refl _) _) (by simp) (by have h9 : q.p.stop = q.p.off + (q.p.b.length : Int) := rfl; omega)).mono ?_; rintro e w1 ⟨v1, rfl, m1⟩; obtain ⟨P1, p1, rfl, a1, o1, y1⟩ := made_shape m1; have hu1 := (y1.block w.heap.size (by simp)).trans (World.alloc_heap_new w _); have k1 := cells_at (i := 2) hu1 rfl; have f1 := heap_frozen hu1 2)
  obtain ⟨x, hx⟩ : ∃ x, x = XP.mk q.p P1 p1 := ⟨_, rfl⟩
  have hxp : x.p = q.p := by rw [hx]
  have hxA : x.A = P1 := by rw [hx]
  have hxc : x.c = p1 := by rw [hx]
  have hu : (w1.setCell ⟨w.heap.size, 2, none⟩ (.slice P1 q.p.b.length p1)).heap[w.heap.size]? = some (.cells (clP x).toArray 158 (0, 0)) := by rw [hx]; exact heap_setCell_same w1 w.heap.size 2 _ _ (.slice P1 q.p.b.length p1) hu1
  have b1 : Below w.heap.size w w1 := ((Below.refl _ w).alloc (Nat.le_refl _) _).trans (y1.mono (by simp))
  have bW := b1.setCell (p := ⟨w.heap.size, 2, none⟩) (Nat.le_refl _) (.slice P1 q.p.b.length p1)
  have ox : (w1.setCell ⟨w.heap.size, 2, none⟩ (.slice P1 q.p.b.length p1)).ownsRow 0 5 1 (.slice x.A x.p.b.length x.c) x.p.b.length (row x.p.b) := by
    rw [hxp, hxA, hxc]
    exact own_base0 (own_setCellB (i := 2) (u := .slice P1 q.p.b.length p1) o1 hu1 (nat_ne (by kernel_rfl)))
  generalize w1.setCell ⟨w.heap.size, 2, none⟩ (.slice P1 q.p.b.length p1) = W at *
  have HX := Lib.hid hx
  rw [← hxp] at hx0 hx1 HM ⊢
  clear hx hxp hxA hxc hu1 k1 f1 m1 a1 o1 y1 b1 hq eq0
  have hg := (bW.block g hgw).trans hg0
  have HO := Lib.hid (own_below HO0.out bW)
  have HV := Lib.hid (HV0.out.below bW)
  have HB : Hid (∀ y ∈ x :: L, W.ownsRow 0 5 1 (.slice y.A y.p.b.length y.c) y.p.b.length (row y.p.b)) := Lib.hid (fun y hy => by
    rcases List.mem_cons.1 hy with rfl | hy
    · exact ox
    · exact own_below (HB0.out y hy) bW)
  have HW1 : Hid (IntKind.i64.wrap (by0 + (x.p.b.length : Int)) = by0 + (x.p.b.length : Int)) := Lib.hid (by have h9 : x.p.stop = x.p.off + (x.p.b.length : Int) := rfl; exact IntWalk.i64_in _ (by omega))
  have hrz : ∀ k, (Value.slice A n c).ownBlock = some k → k < W.heap.size := fun k e => (HO.out.lt k e).2
  have hrT : ∀ k, (Value.slice A n c).ownBlock = some k → ∀ cs fr, W.heap[k]? ≠ some (.cells cs 5 fr) := fun k e cs fr h9 => by
    obtain ⟨cur, h8⟩ := HRW.out k e
    have h7 := ((bW.block k (heap_lt h8)).trans h8).symm.trans h9
    simp only [Option.some.injEq, Obj.cells.injEq] at h7
    exact absurd h7.2.1 (nat_ne (by kernel_rfl))
  have hgr : ¬ (Value.slice A n c).ownBlock = some g := fun e => by
    obtain ⟨cur, h8⟩ := HRW.out g e
    have h7 := h8.symm.trans hg0
    simp only [Option.some.injEq, Obj.cells.injEq] at h7
    exact absurd h7.2.1 (nat_ne (by kernel_rfl))
  have hur : ¬ (Value.slice A n c).ownBlock = some w.heap.size := fun e => by
    have := (HO0.out.lt _ e).2; omega
  have hgz := heap_lt hg
  have huz := heap_lt hu
  have hzw := bW.size
  have HBW := Lib.hid bW
  clear bW hg0 ox
  generalize hu0 : w.heap.size = u at *
  have HU := Lib.hid hu0
  clear hu0
  refine regionY 13 (fun w' => Kept (fun k => (Value.slice A n c).ownBlock = some k) W w') (by kernel_rfl) ?_
  have b0 : Below W.heap.size W W.drew := (Below.refl _ W).drew
  have hS : Kept (fun k => (Value.slice A n c).ownBlock = some k) W W.drew := Kept.drew W
  generalize W.drew = X0 at *
  refine pureY (i := 0) (oi := ⟨some 8, _, _, _, _, _⟩) rfl (by kernel_rfl) (by kernel_rfl) (by kernel_rfl) (by kernel_rfl) (by kernel_rfl) (fun _ _ _ h => h) (by rfl) (v := ?_) (fun w hSw => ?_) hS ?_
  rotate_left
  · go_simp; try with_reducible rfl
  try go_frame
  refine pureY (i := 1) (oi := ⟨some 9, _, _, _, _, _⟩) rfl (by kernel_rfl) (by kernel_rfl) (by kernel_rfl) (by kernel_rfl) (by kernel_rfl) (fun _ _ _ h => h) (by rfl) (v := ?_) (fun w hSw => ?_) hS ?_
  rotate_left
  · go_simp; try with_reducible rfl
  try go_frame
  refine pureY (i := 2) (oi := ⟨some 10, _, _, _, _, _⟩) rfl (by kernel_rfl) (by kernel_rfl) (by kernel_rfl) (by kernel_rfl) (by kernel_rfl) (fun _ _ _ h => h) (by rfl) (v := ?_) (fun w hSw => ?_) hS ?_
  rotate_left
  · go_simp; try with_reducible rfl
  try go_frame
  refine pureY (i := 3) (oi := ⟨some 11, _, _, _, _, _⟩) rfl (by kernel_rfl) (by kernel_rfl) (by kernel_rfl) (by kernel_rfl) (by kernel_rfl) (fun _ _ _ h => h) (by rfl) (v := ?_) (fun w hSw => ?_) hS ?_
  rotate_left
  · go_simp; try with_reducible rfl
  try go_frame
  refine pureY (i := 4) (oi := ⟨some 12, _, _, _, _, _⟩) rfl (by kernel_rfl) (by kernel_rfl) (by kernel_rfl) (by kernel_rfl) (by kernel_rfl) (fun _ _ _ h => h) (by rfl) (fun w hSw => run_load_hps rfl rfl (cells_at (i := 1) ((hSw.block g hgz hgr).trans hg) rfl)) hS ?_
  try go_frame
  refine pureY (i := 5) (oi := ⟨some 13, _, _, _, _, _⟩) rfl (by kernel_rfl) (by kernel_rfl) (by kernel_rfl) (by kernel_rfl) (by kernel_rfl) (fun _ _ _ h => h) (by rfl) (v := ?_) (fun w hSw => ?_) hS ?_
  rotate_left
  · go_simp; try with_reducible rfl
  try go_frame
  refine pureY (i := 6) (oi := ⟨some 14, _, _, _, _, _⟩) rfl (by kernel_rfl) (by kernel_rfl) (by kernel_rfl) (by kernel_rfl) (by kernel_rfl) (fun _ _ _ h => h) (by rfl) (v := ?_) (fun w hSw => ?_) hS ?_
  rotate_left
  · go_simp; try with_reducible rfl
  try go_frame
  refine pureY (i := 7) (oi := ⟨some 15, _, _, _, _, _⟩) rfl (by kernel_rfl) (by kernel_rfl) (by kernel_rfl) (by kernel_rfl) (by kernel_rfl) (fun _ _ _ h => h) (by rfl) (fun w hSw => run_load_int rfl rfl (cells_at (i := 0) ((hSw.block u huz hur).trans hu) rfl)) hS ?_
  try go_frame
  refine pureY (i := 9) (oi := ⟨some 17, _, _, _, _, _⟩) rfl (by kernel_rfl) (by kernel_rfl) (by kernel_rfl) (by kernel_rfl) (by kernel_rfl) (fun _ _ _ h => h) (by rfl) (fun w hSw => run_load_hp rfl rfl (range_heap ((hSw.block u huz hur).trans hu)) rfl) hS ?_
  try go_frame
  refine twoY (i := 8) (j := 10) (oi := ⟨some 16, _, _, _, _, _⟩) (oj := ⟨some 18, _, _, _, _, _⟩) (by kernel_rfl) rfl rfl (by rfl) (by rfl) (fun K hK => ?_) (fun K hK => ?_)
  · refine callI (f := 123) (args := #[.pointer (some ⟨g, 0, none⟩), .int .i64 x.p.off]) (by go_simp; try rfl) ?_
    refine (hcplace g x.p.off A c L _ (HV.out.below b0)).mono ?_
    rintro e w8 ⟨rfl, x8⟩
    rw [← HM.out]
    have b8 := b0.trans (x8.mono b0.size)
    have hS : Kept (fun k => (Value.slice A n c).ownBlock = some k) W w8 := Kept.of_below b8
    refine ⟨_, rfl, ?_⟩
    refine hK _ _ (fun _ => hS) ?_
    clear hK K
    try go_frame
    refine oneY (i := 10) (oi := ⟨some 18, _, _, _, _, _⟩) (by kernel_rfl) rfl (by rfl) (fun K hK => ?_)
    refine valGI (run_bshp (cs := (clP x).toArray) rfl rfl rfl) ?_
    have b10 := b8.alloc b8.size (.cells (clP x).toArray 158)
    have hv : (w8.alloc (.cells (clP x).toArray 158)).heap[w8.heap.size]? = some (.cells (clP x).toArray 158 (0, 0)) := World.alloc_heap_new _ _
    have hvW : W.heap.size ≤ w8.heap.size := b8.size
    have hS : Kept (fun k => (Value.slice A n c).ownBlock = some k) W (w8.alloc (.cells (clP x).toArray 158)) := Kept.of_below b10
    refine hK _ _ (fun _ => hS) ?_
    clear hK K
    generalize w8.alloc (.cells (clP x).toArray 158) = w10 at *
    obtain ⟨vb, hvb⟩ : ∃ vb, vb = w8.heap.size := ⟨_, rfl⟩
    rw [← hvb] at hv hvW ⊢
    clear hvb
    have hvz := heap_lt hv
    try go_frame
    try go_frame
    refine oneY (i := 11) (oi := ⟨some 19, _, _, _, _, _⟩) (by kernel_rfl) rfl (by rfl) (fun K hK => ?_)
    refine callI (f := 125) (args := #[.slice A n c, .int .i64 m, .slice (some ⟨vb, 0, none⟩) 1 1]) (by go_simp; try rfl) ?_
    refine (hcinsert_n A c m vb n L x _ HN.out (own_below HO.out b10) HNI.out hm hn1 hv (fun e => by have := hrz vb e; omega)).mono ?_
    rintro e w11 ⟨A2, c2, rfl, own11, k11, bl11⟩
    have HBL : Hid (∀ k, (Value.slice A2 (n + 1) c2).ownBlock = some k → (Value.slice A n c).ownBlock = some k ∨ u ≤ k) := Lib.hid (fun k e9 => by
      rcases bl11 with h9 | h9
      · exact .inl (h9.symm.trans e9)
      · right
        have e8 := Option.some.inj (h9.symm.trans e9)
        have := b10.size
        omega)
    clear bl11
    have hK11 : Kept (fun k => (Value.slice A n c).ownBlock = some k) W w11 := (Kept.of_below b10).trans k11 (fun _ _ h => h)
    have hS := hK11
    refine ⟨_, rfl, ?_⟩
    refine hK _ _ (fun _ => hS) ?_
    clear hK K
    try go_frame
    try go_frame
    refine pureY (i := 12) (oi := ⟨some 20, _, _, _, _, _⟩) rfl (by kernel_rfl) (by kernel_rfl) (by kernel_rfl) (by kernel_rfl) (by kernel_rfl) (fun _ _ _ h => h) (by rfl) (v := ?_) (fun w hSw => ?_) hS ?_
    rotate_left
    · go_simp; try with_reducible rfl
    try go_frame
    refine oneY (i := 13) (oi := ⟨some 21, _, _, _, _, _⟩) (by kernel_rfl) rfl (by rfl) (fun K hK => ?_)
    refine valI (v := ?_) ?_ ?_
    rotate_left
    · go_simp; try with_reducible rfl
    refine hK _ _ (fun h => absurd h (by decide)) ?_
    clear hK K
    try go_frame
    refine oneY (i := 14) (oi := ⟨none, _, _, _, _, _⟩) (by kernel_rfl) rfl (by rfl) (fun K hK => ?_)
    have hg11 := (hK11.block g hgz hgr).trans hg
    have k14 := cells_at (i := 1) hg11 rfl
    have f14 := heap_frozen hg11 1
    refine store_hpsI rfl rfl rfl k14 f14 ?_
    have hg2 : (w11.setCell ⟨g, 1, none⟩ (.slice A2 (n + 1) c2)).heap[g]? = some (.cells #[.bool true, .slice A2 (n + 1) c2, .int .i64 by0, .int .i64 far0, .bool end0] 163 (0, 0)) := heap_setCell_same w11 g 1 _ _ (.slice A2 (n + 1) c2) hg11
    have hs11 : Ks w11 u x (.slice A2 (n + 1) c2) (n + 1) (putX L m x) (x :: L) := ⟨(hK11.block u huz hur).trans hu, own11, fun y hy => own_keptT (HB.out y hy) hK11 (fun k e => hrT k e)⟩
    have hs2 := hs11.set (i := 1) (u' := .slice A2 (n + 1) c2) hg11
    have K2 : Kept (fun k => k = g ∨ (Value.slice A n c).ownBlock = some k) W (w11.setCell ⟨g, 1, none⟩ (.slice A2 (n + 1) c2)) := (hK11.mono (fun _ _ h => .inr h)).trans (Kept.setCell w11 g 1 _) (fun _ _ h => .inl h)
    clear k14 f14 hg11 hs11
    refine hK _ _ (fun h => absurd h (by decide)) ?_
    clear hK K
    generalize w11.setCell ⟨g, 1, none⟩ (.slice A2 (n + 1) c2) = W2 at *
    try go_frame
    try go_frame
    refine doneY (by kernel_rfl) ?_ _
    clear b0 b8 b10 hv hvW hvz hgz huz hgr hur hrT hrz hS hK11 k11 own11 hu
    go_upto_region 3 with fail
    have hg2z := heap_lt hg2
    have hu2z := heap_lt hs2.box
    refine regionY 9 (fun w' => Below W2.heap.size W2 w') (by kernel_rfl) ?_
    have hS := (Below.refl W2.heap.size W2).drew
    refine pureY (i := 0) (oi := ⟨some 22, _, _, _, _, _⟩) rfl (by kernel_rfl) (by kernel_rfl) (by kernel_rfl) (by kernel_rfl) (by kernel_rfl) (fun _ _ _ h => h) (by rfl) (v := ?_) (fun w hSw => ?_) hS ?_
    rotate_left
    · go_simp; try with_reducible rfl
    try go_frame
    refine pureY (i := 1) (oi := ⟨some 23, _, _, _, _, _⟩) rfl (by kernel_rfl) (by kernel_rfl) (by kernel_rfl) (by kernel_rfl) (by kernel_rfl) (fun _ _ _ h => h) (by rfl) (v := ?_) (fun w hSw => ?_) hS ?_
    rotate_left
    · go_simp; try with_reducible rfl
    try go_frame
    refine pureY (i := 2) (oi := ⟨some 24, _, _, _, _, _⟩) rfl (by kernel_rfl) (by kernel_rfl) (by kernel_rfl) (by kernel_rfl) (by kernel_rfl) (fun _ _ _ h => h) (by rfl) (v := ?_) (fun w hSw => ?_) hS ?_
    rotate_left
    · go_simp; try with_reducible rfl
    try go_frame
    refine pureY (i := 3) (oi := ⟨some 25, _, _, _, _, _⟩) rfl (by kernel_rfl) (by kernel_rfl) (by kernel_rfl) (by kernel_rfl) (by kernel_rfl) (fun _ _ _ h => h) (by rfl) (fun w hSw => run_load_int rfl rfl (cells_at (i := 2) ((hSw.block g hg2z).trans hg2) rfl)) hS ?_
    try go_frame
    refine pureY (i := 4) (oi := ⟨some 26, _, _, _, _, _⟩) rfl (by kernel_rfl) (by kernel_rfl) (by kernel_rfl) (by kernel_rfl) (by kernel_rfl) (fun _ _ _ h => h) (by rfl) (v := ?_) (fun w hSw => ?_) hS ?_
    rotate_left
    · go_simp; try with_reducible rfl
    try go_frame
    refine pureY (i := 5) (oi := ⟨some 27, _, _, _, _, _⟩) rfl (by kernel_rfl) (by kernel_rfl) (by kernel_rfl) (by kernel_rfl) (by kernel_rfl) (fun _ _ _ h => h) (by rfl) (fun w hSw => run_load_sl rfl rfl (cells_at (i := 2) ((hSw.block u hu2z).trans hs2.box) rfl)) hS ?_
    try go_frame
    refine pureY (i := 6) (oi := ⟨some 28, _, _, _, _, _⟩) rfl (by kernel_rfl) (by kernel_rfl) (by kernel_rfl) (by kernel_rfl) (by kernel_rfl) (fun _ _ _ h => h) (by rfl) (v := ?_) (fun w hSw => ?_) hS ?_
    rotate_left
    · go_simp; try with_reducible rfl
    try go_frame
    refine pureY (i := 7) (oi := ⟨some 29, _, _, _, _, _⟩) rfl (by kernel_rfl) (by kernel_rfl) (by kernel_rfl) (by kernel_rfl) (by kernel_rfl) (fun _ _ _ h => h) (by rfl) (v := .int .i64 (by0 + (x.p.b.length : Int))) (fun w hSw => by go_simp; try exact HW1.out) hS ?_
    try go_frame
    refine pureY (i := 8) (oi := ⟨some 30, _, _, _, _, _⟩) rfl (by kernel_rfl) (by kernel_rfl) (by kernel_rfl) (by kernel_rfl) (by kernel_rfl) (fun _ _ _ h => h) (by rfl) (v := ?_) (fun w hSw => ?_) hS ?_
    rotate_left
    · go_simp; try with_reducible rfl
    try go_frame
    refine oneY (i := 9) (oi := ⟨some 31, _, _, _, _, _⟩) (by kernel_rfl) rfl (by rfl) (fun K hK => ?_)
    refine valI (v := ?_) ?_ ?_
    rotate_left
    · go_simp; try with_reducible rfl
    refine hK _ _ (fun h => absurd h (by decide)) ?_
    clear hK K
    try go_frame
    refine oneY (i := 10) (oi := ⟨none, _, _, _, _, _⟩) (by kernel_rfl) rfl (by rfl) (fun K hK => ?_)
    have kk := cells_at (i := 2) ((hS.block g hg2z).trans hg2) rfl
    have ff := heap_frozen ((hS.block g hg2z).trans hg2) 2
    refine store_intI rfl rfl rfl kk ff ?_
    have hg3 : (W2.drew.setCell ⟨g, 2, none⟩ (.int .i64 (by0 + (x.p.b.length : Int)))).heap[g]? = some (.cells #[.bool true, .slice A2 (n + 1) c2, .int .i64 (by0 + (x.p.b.length : Int)), .int .i64 far0, .bool end0] 163 (0, 0)) := heap_setCell_same _ g 2 _ _ (.int .i64 (by0 + (x.p.b.length : Int))) ((hS.block g hg2z).trans hg2)
    have hs3 := (hs2.below hS).set (i := 2) (u' := .int .i64 (by0 + (x.p.b.length : Int))) ((hS.block g hg2z).trans hg2)
    have K3 := (K2.then_below hS).trans (Kept.setCell W2.drew g 2 (.int .i64 (by0 + (x.p.b.length : Int)))) (fun _ _ h => .inl h)
    clear kk ff
    refine hK _ _ (fun h => absurd h (by decide)) ?_
    clear hK K
    generalize W2.drew.setCell ⟨g, 2, none⟩ (.int .i64 (by0 + (x.p.b.length : Int))) = W3 at *
    try go_frame
    try go_frame
    refine doneY (by kernel_rfl) ?_ _
    go_upto_region 4 with fail
    have hg3z := heap_lt hg3
    have hu3z := heap_lt hs3.box
    refine regionY 9 (fun w' => Below W3.heap.size W3 w') (by kernel_rfl) ?_
    have hS := (Below.refl W3.heap.size W3).drew
    refine pureY (i := 0) (oi := ⟨some 32, _, _, _, _, _⟩) rfl (by kernel_rfl) (by kernel_rfl) (by kernel_rfl) (by kernel_rfl) (by kernel_rfl) (fun _ _ _ h => h) (by rfl) (v := ?_) (fun w hSw => ?_) hS ?_
    rotate_left
    · go_simp; try with_reducible rfl
    try go_frame
    refine pureY (i := 1) (oi := ⟨some 33, _, _, _, _, _⟩) rfl (by kernel_rfl) (by kernel_rfl) (by kernel_rfl) (by kernel_rfl) (by kernel_rfl) (fun _ _ _ h => h) (by rfl) (v := ?_) (fun w hSw => ?_) hS ?_
    rotate_left
    · go_simp; try with_reducible rfl
    try go_frame
    refine pureY (i := 2) (oi := ⟨some 34, _, _, _, _, _⟩) rfl (by kernel_rfl) (by kernel_rfl) (by kernel_rfl) (by kernel_rfl) (by kernel_rfl) (fun _ _ _ h => h) (by rfl) (v := ?_) (fun w hSw => ?_) hS ?_
    rotate_left
    · go_simp; try with_reducible rfl
    try go_frame
    refine pureY (i := 3) (oi := ⟨some 35, _, _, _, _, _⟩) rfl (by kernel_rfl) (by kernel_rfl) (by kernel_rfl) (by kernel_rfl) (by kernel_rfl) (fun _ _ _ h => h) (by rfl) (v := ?_) (fun w hSw => ?_) hS ?_
    rotate_left
    · go_simp; try with_reducible rfl
    try go_frame
    refine pureY (i := 4) (oi := ⟨some 36, _, _, _, _, _⟩) rfl (by kernel_rfl) (by kernel_rfl) (by kernel_rfl) (by kernel_rfl) (by kernel_rfl) (fun _ _ _ h => h) (by rfl) (fun w hSw => run_load_int rfl rfl (cells_at (i := 3) ((hSw.block g hg3z).trans hg3) rfl)) hS ?_
    try go_frame
    refine pureY (i := 5) (oi := ⟨some 37, _, _, _, _, _⟩) rfl (by kernel_rfl) (by kernel_rfl) (by kernel_rfl) (by kernel_rfl) (by kernel_rfl) (fun _ _ _ h => h) (by rfl) (fun w hSw => run_load_hp rfl rfl (range_heap ((hSw.block u hu3z).trans hs3.box)) rfl) hS ?_
    try go_frame
    refine oneY (i := 6) (oi := ⟨some 38, _, _, _, _, _⟩) (by kernel_rfl) rfl (by rfl) (fun K hK => ?_)
    refine callI (f := 94) (args := #[.agg (clP x).toArray]) (by go_simp; try rfl) ?_
    refine (hcend x _ hx0 (by omega)).mono ?_
    rintro e w6 ⟨rfl, x6⟩
    have hS : Below W3.heap.size W3 w6 := (Below.refl W3.heap.size W3).drew.trans x6
    refine ⟨_, rfl, ?_⟩
    refine hK _ _ (fun _ => hS) ?_
    clear hK K
    try go_frame
    try go_frame
    refine pureY (i := 7) (oi := ⟨some 39, _, _, _, _, _⟩) rfl (by kernel_rfl) (by kernel_rfl) (by kernel_rfl) (by kernel_rfl) (by kernel_rfl) (fun _ _ _ h => h) (by rfl) (v := .int .i64 (max far0 x.p.stop)) (fun w hSw => by go_simp) hS ?_
    try go_frame
    refine pureY (i := 8) (oi := ⟨some 40, _, _, _, _, _⟩) rfl (by kernel_rfl) (by kernel_rfl) (by kernel_rfl) (by kernel_rfl) (by kernel_rfl) (fun _ _ _ h => h) (by rfl) (v := ?_) (fun w hSw => ?_) hS ?_
    rotate_left
    · go_simp; try with_reducible rfl
    try go_frame
    refine oneY (i := 9) (oi := ⟨some 41, _, _, _, _, _⟩) (by kernel_rfl) rfl (by rfl) (fun K hK => ?_)
    refine valI (v := ?_) ?_ ?_
    rotate_left
    · go_simp; try with_reducible rfl
    refine hK _ _ (fun h => absurd h (by decide)) ?_
    clear hK K
    try go_frame
    refine oneY (i := 10) (oi := ⟨none, _, _, _, _, _⟩) (by kernel_rfl) rfl (by rfl) (fun K hK => ?_)
    have kk := cells_at (i := 3) ((hS.block g hg3z).trans hg3) rfl
    have ff := heap_frozen ((hS.block g hg3z).trans hg3) 3
    refine store_intI rfl rfl rfl kk ff ?_
    have hg4 : (w6.setCell ⟨g, 3, none⟩ (.int .i64 (max far0 x.p.stop))).heap[g]? = some (.cells #[.bool true, .slice A2 (n + 1) c2, .int .i64 (by0 + (x.p.b.length : Int)), .int .i64 (max far0 x.p.stop), .bool end0] 163 (0, 0)) := heap_setCell_same _ g 3 _ _ (.int .i64 (max far0 x.p.stop)) ((hS.block g hg3z).trans hg3)
    have hs4 := (hs3.below hS).set (i := 3) (u' := .int .i64 (max far0 x.p.stop)) ((hS.block g hg3z).trans hg3)
    have K4 := (K3.then_below hS).trans (Kept.setCell w6 g 3 (.int .i64 (max far0 x.p.stop))) (fun _ _ h => .inl h)
    clear kk ff
    refine hK _ _ (fun h => absurd h (by decide)) ?_
    clear hK K
    generalize w6.setCell ⟨g, 3, none⟩ (.int .i64 (max far0 x.p.stop)) = W4 at *
    try go_frame
    try go_frame
    refine doneY (by kernel_rfl) ?_ _
    have kk4 : W4.cell? ⟨g, 4, none⟩ = some (.bool end0) := cells_at (i := 4) hg4 rfl
    have ff4 := heap_frozen hg4 4
    have kx4 : W4.cell? ⟨u, 1, none⟩ = some (.bool x.p.more) := cells_at (i := 1) hs4.box rfl
    have hKW : Kept (fun k => k = g ∨ (Value.slice A n c).ownBlock = some k) w W4 := (Kept.of_below (HBW.out.mono (Nat.le_of_eq HU.out))).trans K4 (fun _ _ h => h)
    rw [HX.out] at hs4
    cases end0 with
    | true =>
      go_wp2_with fail
      refine bodyPost_end (results_none rfl _ _ _) rfl ?_
      have hg5 := heap_setCell_same W4 g 4 _ _ (.bool true) hg4
      have hs5 := hs4.set (i := 4) (u' := .bool true) hg4
      have K5 := hKW.trans (Kept.setCell W4 g 4 (.bool true)) (fun _ _ h => .inl h)
      rw [HX.out] at hg5
      exact ⟨rfl, A2, c2, P1, p1, hg5, hs5.own, hs5.byt, K5, fun k e => by rw [HU.out]; exact HBL.out k e⟩
    | false =>
      cases hmo : x.p.more with
      | true =>
        rw [hmo] at kx4
        go_wp2_with fail
        refine bodyPost_end (results_none rfl _ _ _) rfl ?_
        have hg5 := heap_setCell_same W4 g 4 _ _ (.bool false) hg4
        have hs5 := hs4.set (i := 4) (u' := .bool false) hg4
        have K5 := hKW.trans (Kept.setCell W4 g 4 (.bool false)) (fun _ _ h => .inl h)
        rw [HX.out] at hg5 hmo
        have e9 : (false || !q.p.more) = false := by rw [show q.p.more = true from hmo]; rfl
        rw [e9]
        exact ⟨rfl, A2, c2, P1, p1, hg5, hs5.own, hs5.byt, K5, fun k e => by rw [HU.out]; exact HBL.out k e⟩
      | false =>
        rw [hmo] at kx4
        go_wp2_with fail
        refine bodyPost_end (results_none rfl _ _ _) rfl ?_
        have hg5 := heap_setCell_same W4 g 4 _ _ (.bool true) hg4
        have hs5 := hs4.set (i := 4) (u' := .bool true) hg4
        have K5 := hKW.trans (Kept.setCell W4 g 4 (.bool true)) (fun _ _ h => .inl h)
        rw [HX.out] at hg5 hmo
        have e9 : (false || !q.p.more) = true := by rw [show q.p.more = false from hmo]; rfl
        rw [e9]
        exact ⟨rfl, A2, c2, P1, p1, hg5, hs5.own, hs5.byt, K5, fun k e => by rw [HU.out]; exact HBL.out k e⟩
  · refine valGI (run_bshp (cs := (clP x).toArray) rfl rfl rfl) ?_
    have b10 := b0.alloc b0.size (.cells (clP x).toArray 158)
    have hv : (X0.alloc (.cells (clP x).toArray 158)).heap[X0.heap.size]? = some (.cells (clP x).toArray 158 (0, 0)) := World.alloc_heap_new _ _
    have hvW : W.heap.size ≤ X0.heap.size := b0.size
    have hS : Kept (fun k => (Value.slice A n c).ownBlock = some k) W (X0.alloc (.cells (clP x).toArray 158)) := Kept.of_below b10
    refine hK _ _ (fun _ => hS) ?_
    clear hK K
    generalize X0.alloc (.cells (clP x).toArray 158) = w10 at *
    obtain ⟨vb, hvb⟩ : ∃ vb, vb = X0.heap.size := ⟨_, rfl⟩
    rw [← hvb] at hv hvW ⊢
    clear hvb
    have hvz := heap_lt hv
    try go_frame
    refine oneY (i := 8) (oi := ⟨some 16, _, _, _, _, _⟩) (by kernel_rfl) rfl (by rfl) (fun K hK => ?_)
    refine callI (f := 123) (args := #[.pointer (some ⟨g, 0, none⟩), .int .i64 x.p.off]) (by go_simp; try rfl) ?_
    refine (hcplace g x.p.off A c L _ (HV.out.below b10)).mono ?_
    rintro e w8 ⟨rfl, x8⟩
    rw [← HM.out]
    have b8 := b10.trans (x8.mono b10.size)
    have hv8 := (x8.block vb hvz).trans hv
    have hS : Kept (fun k => (Value.slice A n c).ownBlock = some k) W w8 := Kept.of_below b8
    refine ⟨_, rfl, ?_⟩
    refine hK _ _ (fun _ => hS) ?_
    clear hK K
    try go_frame
    try go_frame
    refine oneY (i := 11) (oi := ⟨some 19, _, _, _, _, _⟩) (by kernel_rfl) rfl (by rfl) (fun K hK => ?_)
    refine callI (f := 125) (args := #[.slice A n c, .int .i64 m, .slice (some ⟨vb, 0, none⟩) 1 1]) (by go_simp; try rfl) ?_
    refine (hcinsert_n A c m vb n L x _ HN.out (own_below HO.out b8) HNI.out hm hn1 hv8 (fun e => by have := hrz vb e; omega)).mono ?_
    rintro e w11 ⟨A2, c2, rfl, own11, k11, bl11⟩
    have HBL : Hid (∀ k, (Value.slice A2 (n + 1) c2).ownBlock = some k → (Value.slice A n c).ownBlock = some k ∨ u ≤ k) := Lib.hid (fun k e9 => by
      rcases bl11 with h9 | h9
      · exact .inl (h9.symm.trans e9)
      · right
        have e8 := Option.some.inj (h9.symm.trans e9)
        have := b8.size
        omega)
    clear bl11
    have hK11 : Kept (fun k => (Value.slice A n c).ownBlock = some k) W w11 := (Kept.of_below b8).trans k11 (fun _ _ h => h)
    have hS := hK11
    refine ⟨_, rfl, ?_⟩
    refine hK _ _ (fun _ => hS) ?_
    clear hK K
    try go_frame
    try go_frame
    refine pureY (i := 12) (oi := ⟨some 20, _, _, _, _, _⟩) rfl (by kernel_rfl) (by kernel_rfl) (by kernel_rfl) (by kernel_rfl) (by kernel_rfl) (fun _ _ _ h => h) (by rfl) (v := ?_) (fun w hSw => ?_) hS ?_
    rotate_left
    · go_simp; try with_reducible rfl
    try go_frame
    refine oneY (i := 13) (oi := ⟨some 21, _, _, _, _, _⟩) (by kernel_rfl) rfl (by rfl) (fun K hK => ?_)
    refine valI (v := ?_) ?_ ?_
    rotate_left
    · go_simp; try with_reducible rfl
    refine hK _ _ (fun h => absurd h (by decide)) ?_
    clear hK K
    try go_frame
    refine oneY (i := 14) (oi := ⟨none, _, _, _, _, _⟩) (by kernel_rfl) rfl (by rfl) (fun K hK => ?_)
    have hg11 := (hK11.block g hgz hgr).trans hg
    have k14 := cells_at (i := 1) hg11 rfl
    have f14 := heap_frozen hg11 1
    refine store_hpsI rfl rfl rfl k14 f14 ?_
    have hg2 : (w11.setCell ⟨g, 1, none⟩ (.slice A2 (n + 1) c2)).heap[g]? = some (.cells #[.bool true, .slice A2 (n + 1) c2, .int .i64 by0, .int .i64 far0, .bool end0] 163 (0, 0)) := heap_setCell_same w11 g 1 _ _ (.slice A2 (n + 1) c2) hg11
    have hs11 : Ks w11 u x (.slice A2 (n + 1) c2) (n + 1) (putX L m x) (x :: L) := ⟨(hK11.block u huz hur).trans hu, own11, fun y hy => own_keptT (HB.out y hy) hK11 (fun k e => hrT k e)⟩
    have hs2 := hs11.set (i := 1) (u' := .slice A2 (n + 1) c2) hg11
    have K2 : Kept (fun k => k = g ∨ (Value.slice A n c).ownBlock = some k) W (w11.setCell ⟨g, 1, none⟩ (.slice A2 (n + 1) c2)) := (hK11.mono (fun _ _ h => .inr h)).trans (Kept.setCell w11 g 1 _) (fun _ _ h => .inl h)
    clear k14 f14 hg11 hs11
    refine hK _ _ (fun h => absurd h (by decide)) ?_
    clear hK K
    generalize w11.setCell ⟨g, 1, none⟩ (.slice A2 (n + 1) c2) = W2 at *
    try go_frame
    try go_frame
    refine doneY (by kernel_rfl) ?_ _
    clear b0 b8 b10 hv hvW hvz hgz huz hgr hur hrT hrz hS hK11 k11 own11 hu
    go_upto_region 3 with fail
    have hg2z := heap_lt hg2
    have hu2z := heap_lt hs2.box
    refine regionY 9 (fun w' => Below W2.heap.size W2 w') (by kernel_rfl) ?_
    have hS := (Below.refl W2.heap.size W2).drew
    refine pureY (i := 0) (oi := ⟨some 22, _, _, _, _, _⟩) rfl (by kernel_rfl) (by kernel_rfl) (by kernel_rfl) (by kernel_rfl) (by kernel_rfl) (fun _ _ _ h => h) (by rfl) (v := ?_) (fun w hSw => ?_) hS ?_
    rotate_left
    · go_simp; try with_reducible rfl
    try go_frame
    refine pureY (i := 1) (oi := ⟨some 23, _, _, _, _, _⟩) rfl (by kernel_rfl) (by kernel_rfl) (by kernel_rfl) (by kernel_rfl) (by kernel_rfl) (fun _ _ _ h => h) (by rfl) (v := ?_) (fun w hSw => ?_) hS ?_
    rotate_left
    · go_simp; try with_reducible rfl
    try go_frame
    refine pureY (i := 2) (oi := ⟨some 24, _, _, _, _, _⟩) rfl (by kernel_rfl) (by kernel_rfl) (by kernel_rfl) (by kernel_rfl) (by kernel_rfl) (fun _ _ _ h => h) (by rfl) (v := ?_) (fun w hSw => ?_) hS ?_
    rotate_left
    · go_simp; try with_reducible rfl
    try go_frame
    refine pureY (i := 3) (oi := ⟨some 25, _, _, _, _, _⟩) rfl (by kernel_rfl) (by kernel_rfl) (by kernel_rfl) (by kernel_rfl) (by kernel_rfl) (fun _ _ _ h => h) (by rfl) (fun w hSw => run_load_int rfl rfl (cells_at (i := 2) ((hSw.block g hg2z).trans hg2) rfl)) hS ?_
    try go_frame
    refine pureY (i := 4) (oi := ⟨some 26, _, _, _, _, _⟩) rfl (by kernel_rfl) (by kernel_rfl) (by kernel_rfl) (by kernel_rfl) (by kernel_rfl) (fun _ _ _ h => h) (by rfl) (v := ?_) (fun w hSw => ?_) hS ?_
    rotate_left
    · go_simp; try with_reducible rfl
    try go_frame
    refine pureY (i := 5) (oi := ⟨some 27, _, _, _, _, _⟩) rfl (by kernel_rfl) (by kernel_rfl) (by kernel_rfl) (by kernel_rfl) (by kernel_rfl) (fun _ _ _ h => h) (by rfl) (fun w hSw => run_load_sl rfl rfl (cells_at (i := 2) ((hSw.block u hu2z).trans hs2.box) rfl)) hS ?_
    try go_frame
    refine pureY (i := 6) (oi := ⟨some 28, _, _, _, _, _⟩) rfl (by kernel_rfl) (by kernel_rfl) (by kernel_rfl) (by kernel_rfl) (by kernel_rfl) (fun _ _ _ h => h) (by rfl) (v := ?_) (fun w hSw => ?_) hS ?_
    rotate_left
    · go_simp; try with_reducible rfl
    try go_frame
    refine pureY (i := 7) (oi := ⟨some 29, _, _, _, _, _⟩) rfl (by kernel_rfl) (by kernel_rfl) (by kernel_rfl) (by kernel_rfl) (by kernel_rfl) (fun _ _ _ h => h) (by rfl) (v := .int .i64 (by0 + (x.p.b.length : Int))) (fun w hSw => by go_simp; try exact HW1.out) hS ?_
    try go_frame
    refine pureY (i := 8) (oi := ⟨some 30, _, _, _, _, _⟩) rfl (by kernel_rfl) (by kernel_rfl) (by kernel_rfl) (by kernel_rfl) (by kernel_rfl) (fun _ _ _ h => h) (by rfl) (v := ?_) (fun w hSw => ?_) hS ?_
    rotate_left
    · go_simp; try with_reducible rfl
    try go_frame
    refine oneY (i := 9) (oi := ⟨some 31, _, _, _, _, _⟩) (by kernel_rfl) rfl (by rfl) (fun K hK => ?_)
    refine valI (v := ?_) ?_ ?_
    rotate_left
    · go_simp; try with_reducible rfl
    refine hK _ _ (fun h => absurd h (by decide)) ?_
    clear hK K
    try go_frame
    refine oneY (i := 10) (oi := ⟨none, _, _, _, _, _⟩) (by kernel_rfl) rfl (by rfl) (fun K hK => ?_)
    have kk := cells_at (i := 2) ((hS.block g hg2z).trans hg2) rfl
    have ff := heap_frozen ((hS.block g hg2z).trans hg2) 2
    refine store_intI rfl rfl rfl kk ff ?_
    have hg3 : (W2.drew.setCell ⟨g, 2, none⟩ (.int .i64 (by0 + (x.p.b.length : Int)))).heap[g]? = some (.cells #[.bool true, .slice A2 (n + 1) c2, .int .i64 (by0 + (x.p.b.length : Int)), .int .i64 far0, .bool end0] 163 (0, 0)) := heap_setCell_same _ g 2 _ _ (.int .i64 (by0 + (x.p.b.length : Int))) ((hS.block g hg2z).trans hg2)
    have hs3 := (hs2.below hS).set (i := 2) (u' := .int .i64 (by0 + (x.p.b.length : Int))) ((hS.block g hg2z).trans hg2)
    have K3 := (K2.then_below hS).trans (Kept.setCell W2.drew g 2 (.int .i64 (by0 + (x.p.b.length : Int)))) (fun _ _ h => .inl h)
    clear kk ff
    refine hK _ _ (fun h => absurd h (by decide)) ?_
    clear hK K
    generalize W2.drew.setCell ⟨g, 2, none⟩ (.int .i64 (by0 + (x.p.b.length : Int))) = W3 at *
    try go_frame
    try go_frame
    refine doneY (by kernel_rfl) ?_ _
    go_upto_region 4 with fail
    have hg3z := heap_lt hg3
    have hu3z := heap_lt hs3.box
    refine regionY 9 (fun w' => Below W3.heap.size W3 w') (by kernel_rfl) ?_
    have hS := (Below.refl W3.heap.size W3).drew
    refine pureY (i := 0) (oi := ⟨some 32, _, _, _, _, _⟩) rfl (by kernel_rfl) (by kernel_rfl) (by kernel_rfl) (by kernel_rfl) (by kernel_rfl) (fun _ _ _ h => h) (by rfl) (v := ?_) (fun w hSw => ?_) hS ?_
    rotate_left
    · go_simp; try with_reducible rfl
    try go_frame
    refine pureY (i := 1) (oi := ⟨some 33, _, _, _, _, _⟩) rfl (by kernel_rfl) (by kernel_rfl) (by kernel_rfl) (by kernel_rfl) (by kernel_rfl) (fun _ _ _ h => h) (by rfl) (v := ?_) (fun w hSw => ?_) hS ?_
    rotate_left
    · go_simp; try with_reducible rfl
    try go_frame
    refine pureY (i := 2) (oi := ⟨some 34, _, _, _, _, _⟩) rfl (by kernel_rfl) (by kernel_rfl) (by kernel_rfl) (by kernel_rfl) (by kernel_rfl) (fun _ _ _ h => h) (by rfl) (v := ?_) (fun w hSw => ?_) hS ?_
    rotate_left
    · go_simp; try with_reducible rfl
    try go_frame
    refine pureY (i := 3) (oi := ⟨some 35, _, _, _, _, _⟩) rfl (by kernel_rfl) (by kernel_rfl) (by kernel_rfl) (by kernel_rfl) (by kernel_rfl) (fun _ _ _ h => h) (by rfl) (v := ?_) (fun w hSw => ?_) hS ?_
    rotate_left
    · go_simp; try with_reducible rfl
    try go_frame
    refine pureY (i := 4) (oi := ⟨some 36, _, _, _, _, _⟩) rfl (by kernel_rfl) (by kernel_rfl) (by kernel_rfl) (by kernel_rfl) (by kernel_rfl) (fun _ _ _ h => h) (by rfl) (fun w hSw => run_load_int rfl rfl (cells_at (i := 3) ((hSw.block g hg3z).trans hg3) rfl)) hS ?_
    try go_frame
    refine pureY (i := 5) (oi := ⟨some 37, _, _, _, _, _⟩) rfl (by kernel_rfl) (by kernel_rfl) (by kernel_rfl) (by kernel_rfl) (by kernel_rfl) (fun _ _ _ h => h) (by rfl) (fun w hSw => run_load_hp rfl rfl (range_heap ((hSw.block u hu3z).trans hs3.box)) rfl) hS ?_
    try go_frame
    refine oneY (i := 6) (oi := ⟨some 38, _, _, _, _, _⟩) (by kernel_rfl) rfl (by rfl) (fun K hK => ?_)
    refine callI (f := 94) (args := #[.agg (clP x).toArray]) (by go_simp; try rfl) ?_
    refine (hcend x _ hx0 (by omega)).mono ?_
    rintro e w6 ⟨rfl, x6⟩
    have hS : Below W3.heap.size W3 w6 := (Below.refl W3.heap.size W3).drew.trans x6
    refine ⟨_, rfl, ?_⟩
    refine hK _ _ (fun _ => hS) ?_
    clear hK K
    try go_frame
    try go_frame
    refine pureY (i := 7) (oi := ⟨some 39, _, _, _, _, _⟩) rfl (by kernel_rfl) (by kernel_rfl) (by kernel_rfl) (by kernel_rfl) (by kernel_rfl) (fun _ _ _ h => h) (by rfl) (v := .int .i64 (max far0 x.p.stop)) (fun w hSw => by go_simp) hS ?_
    try go_frame
    refine pureY (i := 8) (oi := ⟨some 40, _, _, _, _, _⟩) rfl (by kernel_rfl) (by kernel_rfl) (by kernel_rfl) (by kernel_rfl) (by kernel_rfl) (fun _ _ _ h => h) (by rfl) (v := ?_) (fun w hSw => ?_) hS ?_
    rotate_left
    · go_simp; try with_reducible rfl
    try go_frame
    refine oneY (i := 9) (oi := ⟨some 41, _, _, _, _, _⟩) (by kernel_rfl) rfl (by rfl) (fun K hK => ?_)
    refine valI (v := ?_) ?_ ?_
    rotate_left
    · go_simp; try with_reducible rfl
    refine hK _ _ (fun h => absurd h (by decide)) ?_
    clear hK K
    try go_frame
    refine oneY (i := 10) (oi := ⟨none, _, _, _, _, _⟩) (by kernel_rfl) rfl (by rfl) (fun K hK => ?_)
    have kk := cells_at (i := 3) ((hS.block g hg3z).trans hg3) rfl
    have ff := heap_frozen ((hS.block g hg3z).trans hg3) 3
    refine store_intI rfl rfl rfl kk ff ?_
    have hg4 : (w6.setCell ⟨g, 3, none⟩ (.int .i64 (max far0 x.p.stop))).heap[g]? = some (.cells #[.bool true, .slice A2 (n + 1) c2, .int .i64 (by0 + (x.p.b.length : Int)), .int .i64 (max far0 x.p.stop), .bool end0] 163 (0, 0)) := heap_setCell_same _ g 3 _ _ (.int .i64 (max far0 x.p.stop)) ((hS.block g hg3z).trans hg3)
    have hs4 := (hs3.below hS).set (i := 3) (u' := .int .i64 (max far0 x.p.stop)) ((hS.block g hg3z).trans hg3)
    have K4 := (K3.then_below hS).trans (Kept.setCell w6 g 3 (.int .i64 (max far0 x.p.stop))) (fun _ _ h => .inl h)
    clear kk ff
    refine hK _ _ (fun h => absurd h (by decide)) ?_
    clear hK K
    generalize w6.setCell ⟨g, 3, none⟩ (.int .i64 (max far0 x.p.stop)) = W4 at *
    try go_frame
    try go_frame
    refine doneY (by kernel_rfl) ?_ _
    have kk4 : W4.cell? ⟨g, 4, none⟩ = some (.bool end0) := cells_at (i := 4) hg4 rfl
    have ff4 := heap_frozen hg4 4
    have kx4 : W4.cell? ⟨u, 1, none⟩ = some (.bool x.p.more) := cells_at (i := 1) hs4.box rfl
    have hKW : Kept (fun k => k = g ∨ (Value.slice A n c).ownBlock = some k) w W4 := (Kept.of_below (HBW.out.mono (Nat.le_of_eq HU.out))).trans K4 (fun _ _ h => h)
    rw [HX.out] at hs4
    cases end0 with
    | true =>
      go_wp2_with fail
      refine bodyPost_end (results_none rfl _ _ _) rfl ?_
      have hg5 := heap_setCell_same W4 g 4 _ _ (.bool true) hg4
      have hs5 := hs4.set (i := 4) (u' := .bool true) hg4
      have K5 := hKW.trans (Kept.setCell W4 g 4 (.bool true)) (fun _ _ h => .inl h)
      rw [HX.out] at hg5
      exact ⟨rfl, A2, c2, P1, p1, hg5, hs5.own, hs5.byt, K5, fun k e => by rw [HU.out]; exact HBL.out k e⟩
    | false =>
      cases hmo : x.p.more with
      | true =>
        rw [hmo] at kx4
        go_wp2_with fail
        refine bodyPost_end (results_none rfl _ _ _) rfl ?_
        have hg5 := heap_setCell_same W4 g 4 _ _ (.bool false) hg4
        have hs5 := hs4.set (i := 4) (u' := .bool false) hg4
        have K5 := hKW.trans (Kept.setCell W4 g 4 (.bool false)) (fun _ _ h => .inl h)
        rw [HX.out] at hg5 hmo
        have e9 : (false || !q.p.more) = false := by rw [show q.p.more = true from hmo]; rfl
        rw [e9]
        exact ⟨rfl, A2, c2, P1, p1, hg5, hs5.own, hs5.byt, K5, fun k e => by rw [HU.out]; exact HBL.out k e⟩
      | false =>
        rw [hmo] at kx4
        go_wp2_with fail
        refine bodyPost_end (results_none rfl _ _ _) rfl ?_
        have hg5 := heap_setCell_same W4 g 4 _ _ (.bool true) hg4
        have hs5 := hs4.set (i := 4) (u' := .bool true) hg4
        have K5 := hKW.trans (Kept.setCell W4 g 4 (.bool true)) (fun _ _ h => .inl h)
        rw [HX.out] at hg5 hmo
        have e9 : (false || !q.p.more) = true := by rw [show q.p.more = false from hmo]; rfl
        rw [e9]
        exact ⟨rfl, A2, c2, P1, p1, hg5, hs5.own, hs5.byt, K5, fun k e => by rw [HU.out]; exact HBL.out k e⟩
end Go.Proofs.Ythdaclbgandmcaa

/-
  keep of layer 18's code. Conditions are each theorem's own.
-/
namespace Go.Proofs.Ythdaclbgandmcaa
open Go.RowKit Go.Shelf
attribute [local go_sem] Oper.semAt_some

theorem there_drew {w : World} {b o n : Nat} (h : w.there b o n) : w.drew.there b o n := h
theorem keepsH {D b : Nat} {X Y : World} {L : List (Option Ent)} (k : Kept (fun k => k = b) X Y) (h : ArrH X b L) : KeepsFrom D X Y := by
  refine ⟨k.size, fun i o _ hi hc => ?_⟩
  rw [k.block i (heap_lt hi) (fun e => ?_)]
  · exact hi
  · obtain ⟨cur, h1, _⟩ := h.obj
    rw [e, h1] at hi; cases hi; cases hc
theorem Kept.setCells (b : Nat) : ∀ (vs : List Value) (o : Nat) (w : World), Kept (fun k => k = b) w (w.setCells b o vs)
  | [], _, w => Kept.refl w
  | v :: vs, o, w => (Kept.setCell w b o v).trans (Kept.setCells b vs (o + 1) _) (fun _ _ h => h)
theorem keptR (b : Nat) (X : World) (p : Nat) (x : Ent) : Kept (fun k => k = b) X (X.drew.setCells b (p * 4) (clE (some x)).toArray.toList) :=
  (Kept.drew X).trans (Kept.setCells b _ _ _) (fun _ _ h => h)
section
variable {w V : World} {t b n : Nat} {cnt most : Int} {L : List (Option Ent)} {row : Option Nat}
theorem ArrH.kept (h : ArrH w b L) (hg : w.grownBy V row) (hr : ∀ k, row = some k → n ≤ k ∧ ∃ o : Obj, w.heap[k]? = some o ∧ o.isCells = false) : ArrH V b L := by
  refine h.keep (hg.block b h.lt (fun e => ?_))
  obtain ⟨cur, h1, _⟩ := h.obj
  obtain ⟨_, o, ho, hc⟩ := hr b e.symm
  rw [h1] at ho; cases ho; cases hc
theorem Hs.kept (h : Hs w t b cnt most L) (hg : w.grownBy V row) (hr : ∀ k, row = some k → n ≤ k ∧ ∃ o : Obj, w.heap[k]? = some o ∧ o.isCells = false) : Hs V t b cnt most L := by
  refine ⟨(hg.block t (heap_lt h.tab) (fun e => ?_)).trans h.tab, h.arr.kept hg hr⟩
  obtain ⟨_, o, ho, hc⟩ := hr t e.symm
  rw [h.tab] at ho; cases ho; cases hc
theorem Kept.turnH {S : Nat → Prop} {a : World} (h : Kept S a w) (hg : w.grownBy V row) (hr : ∀ k, row = some k → n ≤ k ∧ ∃ o : Obj, w.heap[k]? = some o ∧ o.isCells = false) (hn : a.heap.size ≤ n) : Kept S a V :=
  h.trans (Kept.of_grown hg) (fun i hi e => by have := (hr i e.symm).1; omega)
end
theorem Cel3.keptH {g1 g2 t b N fr c : Nat} {W V : World} (h : Cel3 g1 g2 t b N fr W) (k : Kept (fun k => k = c) W V) (h1 : g1 ≠ c) (h2 : g2 ≠ c) (h3 : t ≠ c) : Cel3 g1 g2 t b N fr V :=
  ⟨(World.cell?_of_block (k.block g1 (cell_block h.1) h1)).trans h.1, (World.cell?_of_block (k.block g2 (cell_block h.2.1) h2)).trans h.2.1, (World.cell?_of_block (k.block t (cell_block h.2.2) h3)).trans h.2.2⟩
/-- Two blocks of keep's own. -/
structure Kbx (W : World) (B t : Nat) (x : Ent) : Prop where
  b0 : Boxed W B 61 (.pointer (some ⟨t, 0, none⟩))
  b1 : W.heap[B + 1]? = some (.cells (clE (some x)).toArray 143 (0, 0))
section
variable {W V : World} {B t n : Nat} {x : Ent}
theorem Kbx.sz (h : Kbx W B t x) : B + 2 ≤ W.heap.size := by have := heap_lt h.b1; omega
theorem Kbx.below (h : Kbx W B t x) (hb : Below n W V) (hn : B + 1 < n) : Kbx V B t x := ⟨Boxed.below h.b0 hb (by omega), (hb.block _ hn).trans h.b1⟩
theorem Kbx.kept {row : Option Nat} (h : Kbx W B t x) (hg : W.grownBy V row) (hr : ∀ k, row = some k → n ≤ k ∧ ∃ o : Obj, W.heap[k]? = some o ∧ o.isCells = false) : Kbx V B t x := by
  refine ⟨box_keep h.b0 hg hr, (hg.block _ (heap_lt h.b1) (fun e => ?_)).trans h.b1⟩
  obtain ⟨_, o, ho, hc⟩ := hr _ e.symm
  rw [h.b1] at ho; cases ho; cases hc
theorem Kbx.new (w : World) (t : Nat) (x : Ent) (W : World) (hW : W = (w.alloc (.cells #[.pointer (some ⟨t, 0, none⟩)] 61)).alloc (.cells (clE (some x)).toArray 143)) : Kbx W w.heap.size t x ∧ Below w.heap.size w W := by
  have hB : Below w.heap.size w W := by rw [hW]; exact ((Below.refl w.heap.size w).alloc (Nat.le_refl _) _).alloc (by simp) _
  refine ⟨⟨?_, ?_⟩, hB⟩
  · rw [hW]; exact (Boxed.new w _ _).alloc _
  · rw [hW]
    have := World.alloc_heap_new (w.alloc (.cells #[.pointer (some ⟨t, 0, none⟩)] 61)) (.cells (clE (some x)).toArray 143)
    rwa [World.size_alloc] at this
end
/-- What keep leaves. -/
def KeepOut (w : World) (t b : Nat) (cnt most : Int) (L : List (Option Ent)) (x : Ent) (w' : World) : Prop :=
  ∃ r, r < L.length ∧ (∀ d, d < r → plH L (rnd L.length (hmN L.length x.key) d) ≠ none) ∧ plH L (rnd L.length (hmN L.length x.key) r) = none ∧ Hs w' t b cnt most (L.set (rnd L.length (hmN L.length x.key) r) (some x)) ∧ Kept (fun k => k = b) w w'
section
variable {w : World} {t b : Nat} {cnt most : Int} {L : List (Option Ent)}
set_option maxRecDepth 100000 in
set_option maxHeartbeats 4000000 in
theorem hskeep (h : Hs w t b cnt most L) (x : Ent) (hh : hmN L.length x.key < L.length) (hN : L.length ≤ 1000000) (hfree : ∃ i, i < L.length ∧ plH L i = none) :
    Calls Try.prog 76 #[.pointer (some ⟨t, 0, none⟩), .agg (clE (some x)).toArray] w fun e w' => e = .returned (.tuple #[]) ∧ KeepOut w t b cnt most L x w' := by
  have HH := Lib.hid h
  have HFR := Lib.hid hfree
  have hN0 : 0 < L.length := by omega
  have htl := heap_lt h.tab
  have hbl := h.arr.lt
  have htb := h.ne
  clear h hfree
  refine (callsIn_wide (n := 4)).1 ?_
  refine callsIn_of_wp_marks Try.func76 rfl trivial ?_ rfl
  simp only [Try.ntmps76, List.size_toArray, List.length_cons, List.length_nil, Nat.reduceAdd, Nat.reduceSub, Array.replicate_succ, Array.replicate_zero, List.push_toArray, List.append_toArray, List.nil_append, List.cons_append]
  gi_upto_region 1 with fail
  obtain ⟨W, hW⟩ : ∃ W, W = (w.alloc (.cells #[.pointer (some ⟨t, 0, none⟩)] 61)).alloc (.cells (clE (some x)).toArray 143) := ⟨_, rfl⟩
  obtain ⟨hF, hBW⟩ := Kbx.new w t x W hW
  rw [← hW]
  clear hW
  refine wpIn_mono (Q := noPanic _) ?_ noPanic_to
  refine regionI (S := fun V => Kbx V w.heap.size t x ∧ Below w.heap.size w V) (by kernel_rfl) ⟨hF.below (Below.refl W.heap.size W).drew (by have := hF.sz; omega), hBW.drew⟩ (fun hS => ?_)
  clear hF hBW
  refine pureI (i := 0) (oi := ⟨some 5, _, _, _, _, _⟩) rfl (by kernel_rfl) (by kernel_rfl) (by kernel_rfl) (fun _ _ _ h => h) (by rfl) (fun w hSw => run_load_hstp rfl rfl (Boxed.cell hSw.1.b0)) hS (fun hS => ?_)
  try go_frame
  refine pureI (i := 1) (oi := ⟨some 6, _, _, _, _, _⟩) rfl (by kernel_rfl) (by kernel_rfl) (by kernel_rfl) (fun _ _ _ h => h) (by rfl) (fun w hSw => run_load_hstp rfl rfl (Boxed.cell hSw.1.b0)) hS (fun hS => ?_)
  try go_frame
  refine pureI (i := 2) (oi := ⟨some 7, _, _, _, _, _⟩) rfl (by kernel_rfl) (by kernel_rfl) (by kernel_rfl) (fun _ _ _ h => h) (by rfl) (v := ?_) (fun w hSw => ?_) hS (fun hS => ?_)
  rotate_left
  · go_simp; try with_reducible rfl
  try go_frame
  refine pureI (i := 3) (oi := ⟨some 8, _, _, _, _, _⟩) rfl (by kernel_rfl) (by kernel_rfl) (by kernel_rfl) (fun _ _ _ h => h) (by rfl) (fun w hSw => run_load_u64 rfl rfl (cells_at (i := 1) hSw.1.b1 rfl)) hS (fun hS => ?_)
  try go_frame
  refine oneI (i := 4) (oi := ⟨some 9, _, _, _, _, _⟩) (by kernel_rfl) rfl (by rfl) (fun K hK => ?_)
  refine callI (f := 106) (args := #[.pointer (some ⟨t, 0, none⟩), .int .u64 (mkOf x.key)]) (by go_simp; try rfl) ?_
  refine (hshome t b L.length L.length x.key _ (hS.2.cell (p := ⟨t, 0, none⟩) htl |>.trans HH.out.c0) hN0 hN).mono ?_
  rintro e w6 ⟨rfl, rfl⟩
  refine ⟨_, rfl, hK _ _ hS (fun hS => ?_)⟩
  clear hK K
  try go_frame
  refine oneI (i := 5) (oi := ⟨some 10, _, _, _, _, _⟩) (by kernel_rfl) rfl (by rfl) (fun K hK => ?_)
  refine callI (f := 105) (args := #[.pointer (some ⟨t, 0, none⟩), .int .i64 ((hmN L.length x.key : Nat) : Int)]) (by go_simp; try rfl) ?_
  refine (hsplaces t (hmN L.length x.key) _).mono ?_
  rintro e w7 ⟨rfl, hw7⟩
  have hb7 := places_below hw7
  have hct := (hS.2.cell (p := ⟨t, 0, none⟩) htl).trans HH.out.c0
  have hsW := hS.1.sz
  refine ⟨_, rfl, hK _ _ ⟨hS.1.below hb7 (by have := hS.1.sz; omega), hS.2.trans (hb7.mono hS.2.size)⟩ (fun hS => ?_)⟩
  clear hK K
  try go_frame
  refine doneI (by kernel_rfl) ?_ _
  refine noPanic_normal ?_
  have hseq := places_seq _ _ t b L.length (hmN L.length x.key) hw7 hct hN (Nat.le_of_lt hh) (4 - 1)
  have hC7 := places_cel hw7 hct
  have hz7 : w7.heap.size = W.drew.heap.size + 2 := by rw [hw7]; simp
  clear hw7 hb7 hct
  generalize W.drew.heap.size = g1 at *
  gi_wp2
  refine range_safe (by omega) (gf := 130) (lb := #[.pointer (some ⟨g1, 0, none⟩), .pointer (some ⟨g1 + 1, 0, none⟩)]) rfl (enters_of Try.func130 (by kernel_rfl) rfl)
    hseq KeepC.trans (fun V l r r' hl hr => KeepC.loop hr) (Below.refl _ _) (fun _ => rfl)
    (fun pre x V l r r' h _ hl => h)
    (fun pre X => (∀ d, d < pre.length → plH L (rnd L.length (hmN L.length x.key) d) ≠ none) ∧ Cel3 g1 (g1 + 1) t b L.length (hmN L.length x.key) X ∧ Kbx X w.heap.size t x ∧ Below w.heap.size w X)
    (fun cd _ X => Cel3 g1 (g1 + 1) t b L.length (hmN L.length x.key) X ∧ cd = .ret ∧ KeepOut w t b cnt most L x X)
    (fun pre X Y r hs hg hr => ⟨hs.1, hs.2.1.kept hg hr, hs.2.2.1.kept hg hr, below_keep hs.2.2.2 hg hr (by omega) (Nat.le_refl _)⟩)
    (fun cd pre X Y r hs hg hr => by obtain ⟨h1, h2, q, h3, h4, h5, h6, h7⟩ := hs; exact ⟨h1.kept hg hr, h2, q, h3, h4, h5, h6.kept hg hr, h7.turnH hg hr (by omega)⟩)
    (fun cd pre X h => h.1)
    ⟨fun d hd => absurd hd (Nat.not_lt_zero _), hC7, hS.1, hS.2⟩
    (fun p => { tmps := #[.pointer (some ⟨t, 0, none⟩), .agg (clE (some x)).toArray, .pointer (some ⟨w.heap.size, 0, none⟩), .pointer (some ⟨w.heap.size + 1, 0, none⟩), .int .i64 (p : Int), .pointer (some ⟨t, 0, none⟩), .pointer (some ⟨t, 0, none⟩), .pointer (some ⟨w.heap.size + 1, 1, none⟩), .int .u64 (mkOf x.key), .int .i64 ((hmN L.length x.key : Nat) : Int), .func (.func 130) #[] #[.pointer (some ⟨g1, 0, none⟩), .pointer (some ⟨g1 + 1, 0, none⟩)], .int .i64 (p : Int), undef, undef, undef, undef, undef, undef, undef, undef, undef, undef, undef, undef, undef, undef, undef, undef], defers := [] }) ?assign ?body ?done ?stop
  case assign =>
    intro l p X K hK
    dsimp only [encP]
    gi_wp2
    exact hK
  case body =>
    rintro l pre p X ⟨hseen, hcel, hF, hB⟩ ⟨hx, hpl⟩
    have hpl' : p < L.length := by rw [hx]; exact rnd_lt hh hpl
    have hH := (HH.out.below hB).arr
    have hrow := hH.row p _ (plH_get hpl')
    have HX := Lib.hid hx
    have HSN := Lib.hid hseen
    have hHs := Lib.hid (HH.out.below hB)
    have hpn : pre.length < L.length := hpl
    clear hx hseen hpl
    have kb0 := Boxed.cell hF.b0
    have kt := hcel.2.2
    have hXs := hF.sz
    have hXz := hB.size
    cases hp : plH L p with
    | none =>
      rw [hp] at hrow
      have k0 : X.cell? ⟨b, p * 4, none⟩ = some (.bool false) := hrow 0 _ rfl
      have HPN := Lib.hid hp
      have KB0 : Hid (∀ V, Kept (fun k => k = b) X V → V.cell? ⟨w.heap.size, 0, none⟩ = some (.pointer (some ⟨t, 0, none⟩))) := Lib.hid fun V hV => (World.cell?_of_block (hV.block w.heap.size (by omega) (by omega))).trans kb0
      have KBT : Hid (∀ V, Kept (fun k => k = b) X V → V.cell? ⟨t, 0, none⟩ = some (.slice (some ⟨b, 0, none⟩) L.length L.length)) := Lib.hid fun V hV => (World.cell?_of_block (hV.block t (by omega) htb)).trans kt
      have KBX : Hid (∀ V, Kept (fun k => k = b) X V → V.rangeAt (w.heap.size + 1) 0 (clE (some x))) := Lib.hid fun V hV => range_heap ((hV.block (w.heap.size + 1) (by omega) (by omega)).trans hF.b1)
      clear hrow hp
      gi_upto_region 4 with fail
      refine region_roundH (S := Kept (fun k => k = b) X) (by kernel_rfl) (by kernel_rfl) (fun h => by obtain ⟨_, _, h⟩ := h; exact h) (Kept.drew X) (fun hS => ?_)
      refine held_pure (i := 0) (oi := ⟨some 21, _, _, _, _, _⟩) rfl (by kernel_rfl) (by kernel_rfl) (by kernel_rfl) (fun _ _ _ h => h) (by rfl) (fun w hSw => run_load_hstp rfl rfl (KB0.out _ hSw)) hS (fun hS => ?_)
      try go_frame
      refine held_pure (i := 1) (oi := ⟨some 22, _, _, _, _, _⟩) rfl (by kernel_rfl) (by kernel_rfl) (by kernel_rfl) (fun _ _ _ h => h) (by rfl) (v := ?_) (fun w hSw => ?_) hS (fun hS => ?_)
      rotate_left
      · go_simp; try with_reducible rfl
      try go_frame
      refine held_pure (i := 2) (oi := ⟨some 23, _, _, _, _, _⟩) rfl (by kernel_rfl) (by kernel_rfl) (by kernel_rfl) (fun _ _ _ h => h) (by rfl) (v := ?_) (fun w hSw => ?_) hS (fun hS => ?_)
      rotate_left
      · go_simp; try with_reducible rfl
      try go_frame
      refine held_pure (i := 3) (oi := ⟨some 24, _, _, _, _, _⟩) rfl (by kernel_rfl) (by kernel_rfl) (by kernel_rfl) (fun _ _ _ h => h) (by rfl) (fun w hSw => run_load_hsar rfl rfl (KBT.out _ hSw)) hS (fun hS => ?_)
      try go_frame
      refine held_pure (i := 4) (oi := ⟨some 25, _, _, _, _, _⟩) rfl (by kernel_rfl) (by kernel_rfl) (by kernel_rfl) (fun _ _ _ h => h) (by rfl) (v := ?_) (fun w hSw => ?_) hS (fun hS => ?_)
      rotate_left
      · go_simp; try with_reducible rfl
      try go_frame
      refine held_pure (i := 5) (oi := ⟨some 26, _, _, _, _, _⟩) rfl (by kernel_rfl) (by kernel_rfl) (by kernel_rfl) (fun _ _ _ h => h) (by rfl) (fun w hSw => run_load_hsp rfl rfl (KBX.out _ hSw) rfl) hS (fun hS => ?_)
      try go_frame
      refine held_pure (i := 6) (oi := ⟨some 27, _, _, _, _, _⟩) rfl (by kernel_rfl) (by kernel_rfl) (by kernel_rfl) (fun _ _ _ h => h) (by rfl) (v := ?_) (fun w hSw => ?_) hS (fun hS => ?_)
      rotate_left
      · go_simp; try with_reducible rfl
      try go_frame
      refine wpAnyH_ready (rs := [7]) (by kernel_rfl) (by simp) (AllReadyH.cons (o := ⟨none, _, _, _, _, _⟩) rfl (fun K hK => ?_) AllReadyH.nil)
      rw [if_pos (by rfl)]
      refine wp_store_mid 143 _ _ rfl b (p * 4) (clE (some x)).toArray rfl rfl (there_drew (hH.there hpl')) (by kernel_rfl) (clE_one _) ?_
      refine hK.out _ _ (keptR b X p x) (fun hS => ?_)
      clear hK K
      try go_frame
      refine wpAnyH_done (by kernel_rfl) ?_ _
      gi_wp2
      have hk := keptR b X p x
      have hpr : p = rnd L.length (hmN L.length x.key) pre.length := HX.out
      refine ⟨keepsH hk hH, hcel.keptH hk (by omega) (by omega) htb, rfl, pre.length, hpn, HSN.out, hpr ▸ HPN.out, ⟨?_, ?_⟩, (Kept.of_below (hB.mono (Nat.le_refl _))).trans hk (fun _ _ h => h)⟩
      · rw [List.length_set]; exact (hk.block t (by omega) htb).trans (hHs.out.tab)
      · have := (hH.keep (w' := X.drew) rfl).set hpl' (some x)
        rw [← hpr]; exact this
    | some y =>
      rw [hp] at hrow
      have k0 : X.cell? ⟨b, p * 4, none⟩ = some (.bool true) := hrow 0 _ rfl
      have hsn : ∀ d, d < (pre ++ [p]).length → plH L (rnd L.length (hmN L.length x.key) d) ≠ none := fun d hd => by
        rw [List.length_append] at hd
        rcases Nat.lt_or_ge d pre.length with h | h
        · exact HSN.out d h
        · have hde : d = pre.length := by simp at hd; omega
          rw [hde, ← HX.out, hp]; simp
      have HS2 := Lib.hid hsn
      clear hrow hp hsn
      gi_wp2
      exact ⟨(KeepsOthers.refl _).from _, KeepC.refl _ _, HS2.out, hcel, hF, hB⟩
  case done =>
    rintro D xs X hD hS ⟨hseen, hcel, hF, hB⟩ hK
    rw [hS, List.length_map, List.length_range] at hseen
    obtain ⟨i, hi, h0⟩ := HFR.out
    exact absurd h0 (all_taken hh hseen i hi)
  case stop =>
    rintro D cd pre X hD _ ⟨hcel, rfl, hOut⟩ hK
    have hm1 : Marks w7.heap.size X.heap.size [{ target := .collected D, args := #[] }] X := (Marks.push (hi := D) (ds := []) trivial (Nat.le_refl _) hD hK).more (heap_lt hK)
    gi_wp2
    have hOut' := hOut
    refine leaves_marks w7.heap.size (fun Y => KeepOut w t b cnt most L x Y) (fun Y D hY h1 h2 => by obtain ⟨q, h3, h4, h5, h6, h7⟩ := hY; exact ⟨q, h3, h4, h5, h6.kept (n := w7.heap.size) (grownBy_putObj' Y D _) (fun k e => by cases e; exact ⟨h1, _, h2, rfl⟩), h7.turnH (n := w7.heap.size) (grownBy_putObj' Y D _) (fun k e => by cases e; exact ⟨h1, _, h2, rfl⟩) (by omega)⟩)
      (fun Y hY => ⟨_, results_none rfl _ _ _, rfl, hY⟩) _ _ X hm1 hOut
end
end Go.Proofs.Ythdaclbgandmcaa

/-
  grow of layer 18's code. Conditions are each theorem's own.
-/
namespace Go.Proofs.Ythdaclbgandmcaa
open Go.RowKit Go.Shelf

theorem hsp_store_new {ops : Array Oper} {rest : List Oper} {x y : Operand} {ty : TypeId} {pos : String} {af : Array Edge} {a : Act} {w : World} {Q : Exit → Act → World → Prop}
    {t : TypeId} {cs old : Array Value} (hx : a.eval x = .pointer (some ⟨w.heap.size, 0, none⟩)) (hy : a.eval y = .agg cs) (ho : old.size = 4) (hl : cs.size = 4) (h1 : cs.all (·.oneCell') = true)
    (h : wpList Try.prog ops Q rest (a.put none undef) (w.alloc (.cells cs t))) : wpList Try.prog ops Q (⟨none, .store 143 x y, ty, pos, af, none⟩ :: rest) a (w.alloc (.cells old t)) :=
  wpList_plain rfl fun _ hK => wp_store_row 143 x y rfl w.heap.size cs hx hy t old (World.alloc_heap_new w _) (by rw [hl]; kernel_rfl) (by rw [ho, hl]) h1 (by rw [World.setRow_alloc_new]; exact hK _ _ h)
theorem ents_app (A B : List (Option Ent)) : ents (A ++ B) = ents A ++ ents B := by simp [ents]
theorem take_none {L : List (Option Ent)} {k : Nat} (hk : k < L.length) (h : plH L k = none) : ents (L.take (k + 1)) = ents (L.take k) := by
  have h1 := plH_get hk
  rw [List.take_add_one, ents_app, h1, h]; simp [ents]
theorem take_some {L : List (Option Ent)} {k : Nat} {x : Ent} (hk : k < L.length) (h : plH L k = some x) : ents (L.take (k + 1)) = ents (L.take k) ++ [x] := by
  have h1 := plH_get hk
  rw [List.take_add_one, ents_app, h1, h]; simp [ents]
theorem plH_take {L : List (Option Ent)} {k i : Nat} {e : Ent} (h : plH (L.take k) i = some e) : i < k ∧ plH L i = some e := by
  have h1 := plH_lt h
  rw [List.length_take] at h1
  refine ⟨by omega, ?_⟩
  unfold plH at h ⊢
  rwa [List.getElem?_take, if_pos (by omega)] at h
/-- What grow leaves. -/
def GrowOut (w : World) (t : Nat) (cnt most : Int) (L : List (Option Ent)) (w' : World) : Prop :=
  ∃ b' L', Hs w' t b' cnt most L' ∧ L'.length = 2 * L.length ∧ Prb (hmN L'.length) L' ∧ (ents L').Perm (ents L) ∧ Kept (fun k => k = t) w w' ∧ w.heap.size ≤ b'
theorem hm_pos {N : Nat} (h : 0 < N) (k : List UInt8) : hmN N k < N := Nat.mod_lt _ h
section
variable {w : World} {t b : Nat} {cnt most : Int} {L : List (Option Ent)}
set_option maxRecDepth 100000 in
set_option maxHeartbeats 2000000 in
theorem hsgrow (h : Hs w t b cnt most L) (hP : Prb (hmN L.length) L) (hN : L.length ≤ 400000) :
    Calls Try.prog 75 #[.pointer (some ⟨t, 0, none⟩)] w fun e w' => e = .returned (.tuple #[]) ∧ GrowOut w t cnt most L w' := by
  have HH := Lib.hid h
  have HP := Lib.hid hP
  have kt := h.c0
  have htl := heap_lt h.tab
  have hbl := h.arr.lt
  have htb := h.ne
  have hN0 : 0 < L.length := by have := hP.home []; omega
  obtain ⟨N, hNe⟩ : ∃ N, N = L.length := ⟨_, rfl⟩
  rw [← hNe] at kt hN hN0
  have HNE := Lib.hid hNe
  have hmk : ∀ w, (Instr.makeSlice 79 (.int .i64 (2 * (N : Int))) (.int .i64 (2 * (N : Int)))).run Try.prog w = .ok (.slice (some ⟨w.heap.size, 0, none⟩) (2 * N) (2 * N)) (w.alloc (.cells ((List.replicate (2 * N) (none : Option Ent)).flatMap clE).toArray 143)) := fun w => by
    have := run_mk_places (2 * N) w (by omega)
    rwa [show ((2 * N : Nat) : Int) = 2 * (N : Int) from by omega] at this
  obtain ⟨R2, hR2⟩ : ∃ R, R = ((List.replicate (2 * N) (none : Option Ent)).flatMap clE).toArray := ⟨_, rfl⟩
  rw [← hR2] at hmk
  have HR2 := Lib.hid hR2
  have ktW : (w.alloc (.cells R2 143)).cell? ⟨t, 0, none⟩ = some (.slice (some ⟨b, 0, none⟩) N N) := (World.cell?_alloc_lt w _ _ htl).trans kt
  have kfW : (w.alloc (.cells R2 143)).frozen? ⟨t, 0, none⟩ = false := heap_frozen ((Below.heap_alloc w _ t htl).trans h.tab) 0
  obtain ⟨W1, hW1⟩ : ∃ W, W = w.setCell ⟨t, 0, none⟩ (.slice (some ⟨w.heap.size, 0, none⟩) (2 * N) (2 * N)) := ⟨_, rfl⟩
  have hz1 : W1.heap.size = w.heap.size := by rw [hW1]; simp
  have htab1 : W1.heap[t]? = some (.cells #[.slice (some ⟨w.heap.size, 0, none⟩) (2 * N) (2 * N), .int .i64 cnt, .int .i64 most] 81 (0, 0)) := by rw [hW1]; exact heap_setCell_same _ t 0 _ _ _ h.tab
  have hA1 : ArrH W1 b L := by rw [hW1]; exact h.arr.keep (heap_setCell_other w ⟨t, 0, none⟩ _ _ (by simpa using fun e => htb e.symm))
  have K0 : Kept (fun k => k = t) w W1 := by rw [hW1]; exact Kept.setCell w t 0 _
  obtain ⟨W2, hW2⟩ : ∃ W, W = W1.alloc (.cells R2 143) := ⟨_, rfl⟩
  have b12 : Below W1.heap.size W1 W2 := by rw [hW2]; exact (Below.refl _ _).alloc (Nat.le_refl _) _
  have hArW : ArrH W2 w.heap.size (List.replicate (2 * N) none) := by rw [hW2, hR2, ← hz1]; exact ArrH.new W1 _
  have hb2 : Hs W2 t w.heap.size cnt most (List.replicate (2 * N) none) := ⟨by rw [List.length_replicate]; exact (b12.block t (by omega)).trans htab1, hArW⟩
  have hA2 : ArrH W2 b L := hA1.keep (b12.block b (by omega))
  have K1 : Kept (fun k => k = t) w W2 := K0.then_below b12
  rw [hW1] at hW2
  have HW := Lib.hid hW2
  clear h hP hNe hR2 hW1 htab1 hA1 K0 b12 hArW hz1 hW2
  go_enter Try.func75, Try.ntmps75
  go_wp2
  rw [← HW.out]
  clear kfW ktW hmk HW
  obtain ⟨b2, hb2e⟩ : ∃ x, x = w.heap.size := ⟨_, rfl⟩
  have HB2 := Lib.hid hb2e
  have hbb2 : b < b2 := by omega
  have htb2 : t < b2 := by omega
  rw [← hb2e] at hb2
  clear hb2e
  go_loopw [18] (fun i wr => ∃ (k : Nat) (L2 : List (Option Ent)), k ≤ N ∧ i = .int .i64 (k : Int) ∧ Hid (Hs wr t b2 cnt most L2 ∧ L2.length = 2 * N ∧ Prb (hmN (2 * N)) L2 ∧ (ents L2).Perm (ents (L.take k)) ∧ ArrH wr b L ∧ Kept (fun k => k = t) w wr))
    (fun i _ => N - (intOf i).toNat)
  case atStart =>
    refine ⟨0, List.replicate (2 * N) none, Nat.zero_le _, rfl, Lib.hid ⟨hb2, List.length_replicate .., prb_new _ _ (fun k => hm_pos (by omega) k), ?_, hA2, K1⟩⟩
    rw [ents_rep]; exact List.Perm.refl _
  case round =>
    clear hb2 hA2 K1
    obtain ⟨k, L2, hk, rfl, HI⟩ := hrel
    by_cases hlt : k < N
    · have hkl : k < L.length := by rw [← HNE.out]; exact hlt
      have hrow := HI.out.2.2.2.2.1.row k _ (plH_get hkl)
      obtain ⟨V, hV⟩ : ∃ V, V = wr.alloc (.cells (clE (plH L k)).toArray 143) := ⟨_, rfl⟩
      have HV := Lib.hid hV
      have bV : Below wr.heap.size wr V := by rw [hV]; exact (Below.refl _ wr).alloc (Nat.le_refl _) _
      have hbV : V.heap[wr.heap.size]? = some (.cells (clE (plH L k)).toArray 143 (0, 0)) := by rw [hV]; exact World.alloc_heap_new wr _
      clear hV
      cases hp : plH L k with
      | none =>
        rw [hp] at hrow hbV HV
        have kx0 : V.cell? ⟨wr.heap.size, 0, none⟩ = some (.bool false) := cells_at (i := 0) hbV rfl
        have HP0 := Lib.hid hp
        clear hp
        go_wp2_with (first
          | ((with_reducible show wpList _ _ _ (Oper.mk _ (Op.load 143 _) _ _ _ _ :: _) _ _); refine wpList_val rfl (run_load_hsp rfl rfl hrow rfl) ?_)
          | ((with_reducible show wpList _ _ _ (Oper.mk _ (Op.store 143 _ _) _ _ _ _ :: _) _ _); refine hsp_store_new (cs := (clE none).toArray) rfl rfl rfl rfl (clE_one _) ?_; rw [← HV.out]))
        go_roundw
        case rel =>
          obtain ⟨i1, i2, i3, i4, i5, i6⟩ := HI.out
          refine ⟨k + 1, L2, by omega, by simp, Lib.hid ⟨i1.below bV, i2, i3, ?_, i5.keep (bV.block b i5.lt), i6.then_below bV⟩⟩
          rw [take_none hkl HP0.out]; exact i4
        case measure => simp [intOf]; omega
      | some x =>
        rw [hp] at hrow hbV HV
        have kx0 : V.cell? ⟨wr.heap.size, 0, none⟩ = some (.bool true) := cells_at (i := 0) hbV rfl
        have HP0 := Lib.hid hp
        have hrV : V.rangeAt wr.heap.size 0 (clE (some x)) := range_heap hbV
        clear hp
        have hkeep : Hid (Calls Try.prog 76 #[.pointer (some ⟨t, 0, none⟩), .agg (clE (some x)).toArray] V fun e w' => e = .returned (.tuple #[]) ∧ KeepOut V t b2 cnt most L2 x w') := Lib.hid (by
          obtain ⟨i1, i2, i3, i4, i5, i6⟩ := HI.out
          refine hskeep (i1.below bV) x (by rw [i2]; exact hm_pos (by omega) _) (by rw [i2]; omega) (free_of_lt ?_)
          rw [i4.length_eq, i2]
          have := ents_len (L.take k)
          rw [List.length_take] at this
          omega)
        go_wp2_with (first
          | ((with_reducible show wpList _ _ _ (Oper.mk _ (Op.load 143 _) _ _ _ _ :: _) _ _); refine wpList_val rfl (run_load_hsp rfl rfl hrV rfl) ?_)
          | ((with_reducible show wpList _ _ _ (Oper.mk _ (Op.load 143 _) _ _ _ _ :: _) _ _); refine wpList_val rfl (run_load_hsp rfl rfl hrow rfl) ?_)
          | ((with_reducible show wpList _ _ _ (Oper.mk _ (Op.store 143 _ _) _ _ _ _ :: _) _ _); refine hsp_store_new (cs := (clE (some x)).toArray) rfl rfl rfl rfl (clE_one _) ?_; rw [← HV.out])
          | (go_at_call 76; refine hkeep.out.mono ?_; rintro e w3 ⟨rfl, r, r1, r2, r3, r4, r5⟩; have HR := Lib.hid (show _ ∧ _ ∧ _ ∧ _ ∧ _ from ⟨r1, r2, r3, r4, r5⟩); clear r1 r2 r3 r4 r5))
        go_roundw
        case rel =>
          obtain ⟨i1, i2, i3, i4, i5, i6⟩ := HI.out
          obtain ⟨r1, r2, r3, r4, r5⟩ := HR.out
          refine ⟨k + 1, _, by omega, by simp, Lib.hid ⟨r4, by rw [List.length_set]; exact i2, ?_, ?_, (i5.keep (bV.block b i5.lt)).keep (r5.block b (by have := i5.lt; have := bV.size; omega) (by omega)), (i6.then_below bV).trans r5 (fun i hi e => by have := HB2.out; omega)⟩⟩
          · rw [← i2]
            rw [← i2] at i3
            refine i3.put (fun i e he hke => ?_) r1 r2
            have h1 := i4.mem_iff.1 (mem_ents.2 ⟨i, he⟩)
            obtain ⟨j, hj⟩ := mem_ents.1 h1
            obtain ⟨hjk, hj2⟩ := plH_take hj
            have := HP.out.uniq j k e x hj2 HP0.out hke
            omega
          · have h1 := ents_put (e := x) (rnd_lt (by rw [i2]; exact hm_pos (by omega) _) r1) r3
            rw [take_some hkl HP0.out]
            exact (h1.trans (i4.cons x)).trans (by simpa using (List.perm_append_comm (l₁ := [x]) (l₂ := ents (L.take k))))
        case measure => simp [intOf]; omega
    · obtain rfl : N = k := by omega
      go_wp2
      obtain ⟨i1, i2, i3, i4, i5, i6⟩ := HI.out
      have hN2 := HNE.out
      refine bodyPost_end (results_none rfl _ _ _) rfl ⟨rfl, b2, L2, i1, by rw [i2, hN2], by rw [i2]; exact i3, ?_, i6, by have := HB2.out; omega⟩
      rwa [List.take_of_length_le (by omega)] at i4
end
end Go.Proofs.Ythdaclbgandmcaa
