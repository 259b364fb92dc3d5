/-
  Contracts and lemmas on which the proofs of this seat stand (several texts in one). Conditions are each theorem's own.
-/
import Derived.Test.YtafidbjaeopciaaDoorBb6

/-
  A region that draws its order and stores last: two operations may come up; the walk's moves. Conditions are each theorem's own.
-/
namespace Go.Proofs.YtafidbjaeopciaaDoor
open Go.RowKit
section
variable {n : Nat} {P : Program} {ops : Array Oper} {Q : Exit → Act → World → Prop} {md : Region.Mode} {S : World → Prop} {y : Nat}
theorem twoY {i j : Nat} {oi oj : Oper} {fuel : Nat} {listed : Array Bool} {a : Act} {w : World} (hr : Region.ready md ops listed = [i, j]) (hi : ops[i]? = some oi) (hj : ops[j]? = some oj) (hwi : Region.wanted oi (yielded ops a.tmps) = true) (hwj : Region.wanted oj (yielded ops a.tmps) = true)
    (h1 : ∀ K : Act → World → Prop, (∀ a w, ((listed.setIfInBounds i true).getD y true = false → S w) → anyHY n P md ops Q y S fuel (listed.setIfInBounds i true) a w → K a w) → oi.wpIn Fence.wide n P a w K Q)
    (h2 : ∀ K : Act → World → Prop, (∀ a w, ((listed.setIfInBounds j true).getD y true = false → S w) → anyHY n P md ops Q y S fuel (listed.setIfInBounds j true) a w → K a w) → oj.wpIn Fence.wide n P a w K Q) : anyHY n P md ops Q y S (fuel + 1) listed a w := by
  refine ⟨fun h0 => (by rw [hr] at h0; cases h0), fun k hk => ?_⟩
  rw [hr] at hk
  rcases List.mem_cons.1 hk with rfl | hk
  · unfold wpOpIn
    simp only [hi]
    rw [if_pos hwi]
    exact h1 _ (fun a w hS hW => ⟨hS, hW⟩)
  · rw [List.mem_singleton] at hk
    subst hk
    unfold wpOpIn
    simp only [hj]
    rw [if_pos hwj]
    exact h2 _ (fun a w hS hW => ⟨hS, hW⟩)
theorem valGI {o : Oper} {a : Act} {w w' : World} {K : Act → World → Prop} {v : Value} (hrun : (execOp a.eval o).run P w = .ok (.value v) w') (h : K (a.put o.dst v) w') : o.wpIn Fence.wide n P a w K Q :=
  ⟨fun _ _ => trivial, by rw [show Fence.wide.round = none from rfl, Oper.semAt_none, hrun]; exact h⟩
end
section
variable {n : Nat} {o : Oper} {a : Act} {w : World} {K : Act → World → Prop} {Q : Exit → Act → World → Prop}
theorem store_intI {x y : Operand} {p : Addr} {v0 : Value} {i : Int} (ho : o.op = .store 3 x y) (hx : a.eval x = .pointer (some p)) (hy : a.eval y = .int .i64 i) (hc : w.cell? p = some v0) (hf : w.frozen? p = false)
    (h : K (a.put o.dst undef) (w.setCell p (.int .i64 i))) : o.wpIn Fence.wide n Tryd.prog a w K Q := by
  refine skipI (w' := w.setCell p (.int .i64 i)) ?_ h
  unfold execOp
  simp only [ho, hx, hy, Instr.storeAt, Instr.sureAddr, Sem.run_bind, Sem.run_pure, Result.andThen_ok]
  go_simp
end
end Go.Proofs.YtafidbjaeopciaaDoor

/-
  One part more is kept: what keep of layer 15 leaves. Conditions are each theorem's own.
-/
namespace Go.Proofs.YtafidbjaeopciaaDoor
open Go.RowKit Go.Shelf
theorem Kept.setCell (w : World) (g i : Nat) (v : Value) : Kept (fun k => k = g) w (w.setCell ⟨g, i, none⟩ v) := ⟨rfl, rfl, rfl, by simp, fun k _ hn => heap_setCell_other w ⟨g, i, none⟩ k v hn⟩
theorem range_heap {w : World} {u : Nat} {cs : List Value} {t : TypeId} {fr : Nat × Nat} (h : w.heap[u]? = some (.cells cs.toArray t fr)) : w.rangeAt u 0 cs := fun j v hj => cells_at h (by rw [Nat.zero_add, List.getElem?_toArray]; exact hj)
theorem own_keptT {S : Nat → Prop} {w w' : World} {b e s n : Nat} {v : Value} {xs : List Value} (h : w.ownsRow b e s v n xs) (k : Kept S w w') (hS : ∀ g, S g → ∀ cs fr, w.heap[g]? ≠ some (.cells cs e fr)) : w'.ownsRow b e s v n xs := by
  refine ⟨h.1, ?_⟩
  rcases h.2 with hn | ⟨g, cap, cur, hv, hb, hg, rest⟩
  · exact .inl hn
  · exact .inr ⟨g, cap, cur, hv, hb, (k.block g (heap_lt hg) (fun s => hS g s _ _ hg)).trans hg, rest⟩
theorem own_base0 {w : World} {b e s n : Nat} {v : Value} {xs : List Value} (h : w.ownsRow b e s v n xs) : w.ownsRow 0 e s v n xs := by
  refine ⟨h.1, ?_⟩
  rcases h.2 with hn | ⟨g, cap, cur, hv, hb, rest⟩
  · exact .inl hn
  · exact .inr ⟨g, cap, cur, hv, Nat.zero_le _, rest⟩
end Go.Proofs.YtafidbjaeopciaaDoor

/-
  keep of layer 18's code. Conditions are each theorem's own.
-/
namespace Go.Proofs.YtafidbjaeopciaaDoor
open Go.RowKit Go.Shelf
attribute [local go_sem] Oper.semAt_some

theorem there_drew {w : World} {b o n : Nat} (h : w.there b o n) : w.drew.there b o n := h
theorem keepsH {D b : Nat} {X Y : World} {L : List (Option Ent)} (k : Kept (fun k => k = b) X Y) (h : ArrH X b L) : KeepsFrom D X Y := by
  refine ⟨k.size, fun i o _ hi hc => ?_⟩
  rw [k.block i (heap_lt hi) (fun e => ?_)]
  · exact hi
  · obtain ⟨cur, h1, _⟩ := h.obj
    rw [e, h1] at hi; cases hi; cases hc
theorem Kept.setCells (b : Nat) : ∀ (vs : List Value) (o : Nat) (w : World), Kept (fun k => k = b) w (w.setCells b o vs)
  | [], _, w => Kept.refl w
  | v :: vs, o, w => (Kept.setCell w b o v).trans (Kept.setCells b vs (o + 1) _) (fun _ _ h => h)
theorem keptR (b : Nat) (X : World) (p : Nat) (x : Ent) : Kept (fun k => k = b) X (X.drew.setCells b (p * 4) (clE (some x)).toArray.toList) :=
  (Kept.drew X).trans (Kept.setCells b _ _ _) (fun _ _ h => h)
section
variable {w V : World} {t b n : Nat} {cnt most : Int} {L : List (Option Ent)} {row : Option Nat}
theorem ArrH.kept (h : ArrH w b L) (hg : w.grownBy V row) (hr : ∀ k, row = some k → n ≤ k ∧ ∃ o : Obj, w.heap[k]? = some o ∧ o.isCells = false) : ArrH V b L := by
  refine h.keep (hg.block b h.lt (fun e => ?_))
  obtain ⟨cur, h1, _⟩ := h.obj
  obtain ⟨_, o, ho, hc⟩ := hr b e.symm
  rw [h1] at ho; cases ho; cases hc
theorem Hs.kept (h : Hs w t b cnt most L) (hg : w.grownBy V row) (hr : ∀ k, row = some k → n ≤ k ∧ ∃ o : Obj, w.heap[k]? = some o ∧ o.isCells = false) : Hs V t b cnt most L := by
  refine ⟨(hg.block t (heap_lt h.tab) (fun e => ?_)).trans h.tab, h.arr.kept hg hr⟩
  obtain ⟨_, o, ho, hc⟩ := hr t e.symm
  rw [h.tab] at ho; cases ho; cases hc
theorem Kept.turnH {S : Nat → Prop} {a : World} (h : Kept S a w) (hg : w.grownBy V row) (hr : ∀ k, row = some k → n ≤ k ∧ ∃ o : Obj, w.heap[k]? = some o ∧ o.isCells = false) (hn : a.heap.size ≤ n) : Kept S a V :=
  h.trans (Kept.of_grown hg) (fun i hi e => by have := (hr i e.symm).1; omega)
end
theorem Cel3.keptH {g1 g2 t b N fr c : Nat} {W V : World} (h : Cel3 g1 g2 t b N fr W) (k : Kept (fun k => k = c) W V) (h1 : g1 ≠ c) (h2 : g2 ≠ c) (h3 : t ≠ c) : Cel3 g1 g2 t b N fr V :=
  ⟨(World.cell?_of_block (k.block g1 (cell_block h.1) h1)).trans h.1, (World.cell?_of_block (k.block g2 (cell_block h.2.1) h2)).trans h.2.1, (World.cell?_of_block (k.block t (cell_block h.2.2) h3)).trans h.2.2⟩
/-- Two blocks of keep's own. -/
structure Kbx (W : World) (B t : Nat) (x : Ent) : Prop where
  b0 : Boxed W B 57 (.pointer (some ⟨t, 0, none⟩))
  b1 : W.heap[B + 1]? = some (.cells (clE (some x)).toArray 85 (0, 0))
section
variable {W V : World} {B t n : Nat} {x : Ent}
theorem Kbx.sz (h : Kbx W B t x) : B + 2 ≤ W.heap.size := by have := heap_lt h.b1; omega
theorem Kbx.below (h : Kbx W B t x) (hb : Below n W V) (hn : B + 1 < n) : Kbx V B t x := ⟨Boxed.below h.b0 hb (by omega), (hb.block _ hn).trans h.b1⟩
theorem Kbx.kept {row : Option Nat} (h : Kbx W B t x) (hg : W.grownBy V row) (hr : ∀ k, row = some k → n ≤ k ∧ ∃ o : Obj, W.heap[k]? = some o ∧ o.isCells = false) : Kbx V B t x := by
  refine ⟨box_keep h.b0 hg hr, (hg.block _ (heap_lt h.b1) (fun e => ?_)).trans h.b1⟩
  obtain ⟨_, o, ho, hc⟩ := hr _ e.symm
  rw [h.b1] at ho; cases ho; cases hc
theorem Kbx.new (w : World) (t : Nat) (x : Ent) (W : World) (hW : W = (w.alloc (.cells #[.pointer (some ⟨t, 0, none⟩)] 57)).alloc (.cells (clE (some x)).toArray 85)) : Kbx W w.heap.size t x ∧ Below w.heap.size w W := by
  have hB : Below w.heap.size w W := by rw [hW]; exact ((Below.refl w.heap.size w).alloc (Nat.le_refl _) _).alloc (by simp) _
  refine ⟨⟨?_, ?_⟩, hB⟩
  · rw [hW]; exact (Boxed.new w _ _).alloc _
  · rw [hW]
    have := World.alloc_heap_new (w.alloc (.cells #[.pointer (some ⟨t, 0, none⟩)] 57)) (.cells (clE (some x)).toArray 85)
    rwa [World.size_alloc] at this
end
/-- What keep leaves. -/
def KeepOut (w : World) (t b : Nat) (cnt most : Int) (L : List (Option Ent)) (x : Ent) (w' : World) : Prop :=
  ∃ r, r < L.length ∧ (∀ d, d < r → plH L (rnd L.length (hmN L.length x.key) d) ≠ none) ∧ plH L (rnd L.length (hmN L.length x.key) r) = none ∧ Hs w' t b cnt most (L.set (rnd L.length (hmN L.length x.key) r) (some x)) ∧ Kept (fun k => k = b) w w'
section
variable {w : World} {t b : Nat} {cnt most : Int} {L : List (Option Ent)}
set_option maxRecDepth 100000 in
set_option maxHeartbeats 4000000 in
theorem hskeep (h : Hs w t b cnt most L) (x : Ent) (hh : hmN L.length x.key < L.length) (hN : L.length ≤ 1000000) (hfree : ∃ i, i < L.length ∧ plH L i = none) :
    Calls Tryd.prog 37 #[.pointer (some ⟨t, 0, none⟩), .agg (clE (some x)).toArray] w fun e w' => e = .returned (.tuple #[]) ∧ KeepOut w t b cnt most L x w' := by
  have HH := Lib.hid h
  have HFR := Lib.hid hfree
  have hN0 : 0 < L.length := by omega
  have htl := heap_lt h.tab
  have hbl := h.arr.lt
  have htb := h.ne
  clear h hfree
  refine (callsIn_wide (n := 4)).1 ?_
  refine callsIn_of_wp_marks Tryd.func37 rfl trivial ?_ rfl
  simp only [Tryd.ntmps37, List.size_toArray, List.length_cons, List.length_nil, Nat.reduceAdd, Nat.reduceSub, Array.replicate_succ, Array.replicate_zero, List.push_toArray, List.append_toArray, List.nil_append, List.cons_append]
  gi_upto_region 1 with fail
  obtain ⟨W, hW⟩ : ∃ W, W = (w.alloc (.cells #[.pointer (some ⟨t, 0, none⟩)] 57)).alloc (.cells (clE (some x)).toArray 85) := ⟨_, rfl⟩
  obtain ⟨hF, hBW⟩ := Kbx.new w t x W hW
  rw [← hW]
  clear hW
  refine wpIn_mono (Q := noPanic _) ?_ noPanic_to
  refine regionI (S := fun V => Kbx V w.heap.size t x ∧ Below w.heap.size w V) (by kernel_rfl) ⟨hF.below (Below.refl W.heap.size W).drew (by have := hF.sz; omega), hBW.drew⟩ (fun hS => ?_)
  clear hF hBW
  refine pureI (i := 0) (oi := ⟨some 5, _, _, _, _, _⟩) rfl (by kernel_rfl) (by kernel_rfl) (by kernel_rfl) (fun _ _ _ h => h) (by rfl) (fun w hSw => run_load_hstp rfl rfl (Boxed.cell hSw.1.b0)) hS (fun hS => ?_)
  try go_frame
  refine pureI (i := 1) (oi := ⟨some 6, _, _, _, _, _⟩) rfl (by kernel_rfl) (by kernel_rfl) (by kernel_rfl) (fun _ _ _ h => h) (by rfl) (fun w hSw => run_load_hstp rfl rfl (Boxed.cell hSw.1.b0)) hS (fun hS => ?_)
  try go_frame
  refine pureI (i := 2) (oi := ⟨some 7, _, _, _, _, _⟩) rfl (by kernel_rfl) (by kernel_rfl) (by kernel_rfl) (fun _ _ _ h => h) (by rfl) (v := ?_) (fun w hSw => ?_) hS (fun hS => ?_)
  rotate_left
  · go_simp; try with_reducible rfl
  try go_frame
  refine pureI (i := 3) (oi := ⟨some 8, _, _, _, _, _⟩) rfl (by kernel_rfl) (by kernel_rfl) (by kernel_rfl) (fun _ _ _ h => h) (by rfl) (fun w hSw => run_load_u64 rfl rfl (cells_at (i := 1) hSw.1.b1 rfl)) hS (fun hS => ?_)
  try go_frame
  refine oneI (i := 4) (oi := ⟨some 9, _, _, _, _, _⟩) (by kernel_rfl) rfl (by rfl) (fun K hK => ?_)
  refine callI (f := 42) (args := #[.pointer (some ⟨t, 0, none⟩), .int .u64 (mkOf x.key)]) (by go_simp; try rfl) ?_
  refine (hshome t b L.length L.length x.key _ (hS.2.cell (p := ⟨t, 0, none⟩) htl |>.trans HH.out.c0) hN0 hN).mono ?_
  rintro e w6 ⟨rfl, rfl⟩
  refine ⟨_, rfl, hK _ _ hS (fun hS => ?_)⟩
  clear hK K
  try go_frame
  refine oneI (i := 5) (oi := ⟨some 10, _, _, _, _, _⟩) (by kernel_rfl) rfl (by rfl) (fun K hK => ?_)
  refine callI (f := 41) (args := #[.pointer (some ⟨t, 0, none⟩), .int .i64 ((hmN L.length x.key : Nat) : Int)]) (by go_simp; try rfl) ?_
  refine (hsplaces t (hmN L.length x.key) _).mono ?_
  rintro e w7 ⟨rfl, hw7⟩
  have hb7 := places_below hw7
  have hct := (hS.2.cell (p := ⟨t, 0, none⟩) htl).trans HH.out.c0
  have hsW := hS.1.sz
  refine ⟨_, rfl, hK _ _ ⟨hS.1.below hb7 (by have := hS.1.sz; omega), hS.2.trans (hb7.mono hS.2.size)⟩ (fun hS => ?_)⟩
  clear hK K
  try go_frame
  refine doneI (by kernel_rfl) ?_ _
  refine noPanic_normal ?_
  have hseq := places_seq _ _ t b L.length (hmN L.length x.key) hw7 hct hN (Nat.le_of_lt hh) (4 - 1)
  have hC7 := places_cel hw7 hct
  have hz7 : w7.heap.size = W.drew.heap.size + 2 := by rw [hw7]; simp
  clear hw7 hb7 hct
  generalize W.drew.heap.size = g1 at *
  gi_wp2
  refine range_safe (by omega) (gf := 46) (lb := #[.pointer (some ⟨g1, 0, none⟩), .pointer (some ⟨g1 + 1, 0, none⟩)]) rfl (enters_of Tryd.func46 (by kernel_rfl) rfl)
    hseq KeepC.trans (fun V l r r' hl hr => KeepC.loop hr) (Below.refl _ _) (fun _ => rfl)
    (fun pre x V l r r' h _ hl => h)
    (fun pre X => (∀ d, d < pre.length → plH L (rnd L.length (hmN L.length x.key) d) ≠ none) ∧ Cel3 g1 (g1 + 1) t b L.length (hmN L.length x.key) X ∧ Kbx X w.heap.size t x ∧ Below w.heap.size w X)
    (fun cd _ X => Cel3 g1 (g1 + 1) t b L.length (hmN L.length x.key) X ∧ cd = .ret ∧ KeepOut w t b cnt most L x X)
    (fun pre X Y r hs hg hr => ⟨hs.1, hs.2.1.kept hg hr, hs.2.2.1.kept hg hr, below_keep hs.2.2.2 hg hr (by omega) (Nat.le_refl _)⟩)
    (fun cd pre X Y r hs hg hr => by obtain ⟨h1, h2, q, h3, h4, h5, h6, h7⟩ := hs; exact ⟨h1.kept hg hr, h2, q, h3, h4, h5, h6.kept hg hr, h7.turnH hg hr (by omega)⟩)
    (fun cd pre X h => h.1)
    ⟨fun d hd => absurd hd (Nat.not_lt_zero _), hC7, hS.1, hS.2⟩
    (fun p => { tmps := #[.pointer (some ⟨t, 0, none⟩), .agg (clE (some x)).toArray, .pointer (some ⟨w.heap.size, 0, none⟩), .pointer (some ⟨w.heap.size + 1, 0, none⟩), .int .i64 (p : Int), .pointer (some ⟨t, 0, none⟩), .pointer (some ⟨t, 0, none⟩), .pointer (some ⟨w.heap.size + 1, 1, none⟩), .int .u64 (mkOf x.key), .int .i64 ((hmN L.length x.key : Nat) : Int), .func (.func 46) #[] #[.pointer (some ⟨g1, 0, none⟩), .pointer (some ⟨g1 + 1, 0, none⟩)], .int .i64 (p : Int), undef, undef, undef, undef, undef, undef, undef, undef, undef, undef, undef, undef, undef, undef, undef, undef], defers := [] }) ?assign ?body ?done ?stop
  case assign =>
    intro l p X K hK
    dsimp only [encP]
    gi_wp2
    exact hK
  case body =>
    rintro l pre p X ⟨hseen, hcel, hF, hB⟩ ⟨hx, hpl⟩
    have hpl' : p < L.length := by rw [hx]; exact rnd_lt hh hpl
    have hH := (HH.out.below hB).arr
    have hrow := hH.row p _ (plH_get hpl')
    have HX := Lib.hid hx
    have HSN := Lib.hid hseen
    have hHs := Lib.hid (HH.out.below hB)
    have hpn : pre.length < L.length := hpl
    clear hx hseen hpl
    have kb0 := Boxed.cell hF.b0
    have kt := hcel.2.2
    have hXs := hF.sz
    have hXz := hB.size
    cases hp : plH L p with
    | none =>
      rw [hp] at hrow
      have k0 : X.cell? ⟨b, p * 4, none⟩ = some (.bool false) := hrow 0 _ rfl
      have HPN := Lib.hid hp
      have KB0 : Hid (∀ V, Kept (fun k => k = b) X V → V.cell? ⟨w.heap.size, 0, none⟩ = some (.pointer (some ⟨t, 0, none⟩))) := Lib.hid fun V hV => (World.cell?_of_block (hV.block w.heap.size (by omega) (by omega))).trans kb0
      have KBT : Hid (∀ V, Kept (fun k => k = b) X V → V.cell? ⟨t, 0, none⟩ = some (.slice (some ⟨b, 0, none⟩) L.length L.length)) := Lib.hid fun V hV => (World.cell?_of_block (hV.block t (by omega) htb)).trans kt
      have KBX : Hid (∀ V, Kept (fun k => k = b) X V → V.rangeAt (w.heap.size + 1) 0 (clE (some x))) := Lib.hid fun V hV => range_heap ((hV.block (w.heap.size + 1) (by omega) (by omega)).trans hF.b1)
      clear hrow hp
      gi_upto_region 4 with fail
      refine region_roundH (S := Kept (fun k => k = b) X) (by kernel_rfl) (by kernel_rfl) (fun h => by obtain ⟨_, _, h⟩ := h; exact h) (Kept.drew X) (fun hS => ?_)
      refine held_pure (i := 0) (oi := ⟨some 21, _, _, _, _, _⟩) rfl (by kernel_rfl) (by kernel_rfl) (by kernel_rfl) (fun _ _ _ h => h) (by rfl) (fun w hSw => run_load_hstp rfl rfl (KB0.out _ hSw)) hS (fun hS => ?_)
      try go_frame
      refine held_pure (i := 1) (oi := ⟨some 22, _, _, _, _, _⟩) rfl (by kernel_rfl) (by kernel_rfl) (by kernel_rfl) (fun _ _ _ h => h) (by rfl) (v := ?_) (fun w hSw => ?_) hS (fun hS => ?_)
      rotate_left
      · go_simp; try with_reducible rfl
      try go_frame
      refine held_pure (i := 2) (oi := ⟨some 23, _, _, _, _, _⟩) rfl (by kernel_rfl) (by kernel_rfl) (by kernel_rfl) (fun _ _ _ h => h) (by rfl) (v := ?_) (fun w hSw => ?_) hS (fun hS => ?_)
      rotate_left
      · go_simp; try with_reducible rfl
      try go_frame
      refine held_pure (i := 3) (oi := ⟨some 24, _, _, _, _, _⟩) rfl (by kernel_rfl) (by kernel_rfl) (by kernel_rfl) (fun _ _ _ h => h) (by rfl) (fun w hSw => run_load_hsar rfl rfl (KBT.out _ hSw)) hS (fun hS => ?_)
      try go_frame
      refine held_pure (i := 4) (oi := ⟨some 25, _, _, _, _, _⟩) rfl (by kernel_rfl) (by kernel_rfl) (by kernel_rfl) (fun _ _ _ h => h) (by rfl) (v := ?_) (fun w hSw => ?_) hS (fun hS => ?_)
      rotate_left
      · go_simp; try with_reducible rfl
      try go_frame
      refine held_pure (i := 5) (oi := ⟨some 26, _, _, _, _, _⟩) rfl (by kernel_rfl) (by kernel_rfl) (by kernel_rfl) (fun _ _ _ h => h) (by rfl) (fun w hSw => run_load_hsp rfl rfl (KBX.out _ hSw) rfl) hS (fun hS => ?_)
      try go_frame
      refine held_pure (i := 6) (oi := ⟨some 27, _, _, _, _, _⟩) rfl (by kernel_rfl) (by kernel_rfl) (by kernel_rfl) (fun _ _ _ h => h) (by rfl) (v := ?_) (fun w hSw => ?_) hS (fun hS => ?_)
      rotate_left
      · go_simp; try with_reducible rfl
      try go_frame
      refine wpAnyH_ready (rs := [7]) (by kernel_rfl) (by simp) (AllReadyH.cons (o := ⟨none, _, _, _, _, _⟩) rfl (fun K hK => ?_) AllReadyH.nil)
      rw [if_pos (by rfl)]
      refine wp_store_mid 85 _ _ rfl b (p * 4) (clE (some x)).toArray rfl rfl (there_drew (hH.there hpl')) (by kernel_rfl) (clE_one _) ?_
      refine hK.out _ _ (keptR b X p x) (fun hS => ?_)
      clear hK K
      try go_frame
      refine wpAnyH_done (by kernel_rfl) ?_ _
      gi_wp2
      have hk := keptR b X p x
      have hpr : p = rnd L.length (hmN L.length x.key) pre.length := HX.out
      refine ⟨keepsH hk hH, hcel.keptH hk (by omega) (by omega) htb, rfl, pre.length, hpn, HSN.out, hpr ▸ HPN.out, ⟨?_, ?_⟩, (Kept.of_below (hB.mono (Nat.le_refl _))).trans hk (fun _ _ h => h)⟩
      · rw [List.length_set]; exact (hk.block t (by omega) htb).trans (hHs.out.tab)
      · have := (hH.keep (w' := X.drew) rfl).set hpl' (some x)
        rw [← hpr]; exact this
    | some y =>
      rw [hp] at hrow
      have k0 : X.cell? ⟨b, p * 4, none⟩ = some (.bool true) := hrow 0 _ rfl
      have hsn : ∀ d, d < (pre ++ [p]).length → plH L (rnd L.length (hmN L.length x.key) d) ≠ none := fun d hd => by
        rw [List.length_append] at hd
        rcases Nat.lt_or_ge d pre.length with h | h
        · exact HSN.out d h
        · have hde : d = pre.length := by simp at hd; omega
          rw [hde, ← HX.out, hp]; simp
      have HS2 := Lib.hid hsn
      clear hrow hp hsn
      gi_wp2
      exact ⟨(KeepsOthers.refl _).from _, KeepC.refl _ _, HS2.out, hcel, hF, hB⟩
  case done =>
    rintro D xs X hD hS ⟨hseen, hcel, hF, hB⟩ hK
    rw [hS, List.length_map, List.length_range] at hseen
    obtain ⟨i, hi, h0⟩ := HFR.out
    exact absurd h0 (all_taken hh hseen i hi)
  case stop =>
    rintro D cd pre X hD _ ⟨hcel, rfl, hOut⟩ hK
    have hm1 : Marks w7.heap.size X.heap.size [{ target := .collected D, args := #[] }] X := (Marks.push (hi := D) (ds := []) trivial (Nat.le_refl _) hD hK).more (heap_lt hK)
    gi_wp2
    have hOut' := hOut
    refine leaves_marks w7.heap.size (fun Y => KeepOut w t b cnt most L x Y) (fun Y D hY h1 h2 => by obtain ⟨q, h3, h4, h5, h6, h7⟩ := hY; exact ⟨q, h3, h4, h5, h6.kept (n := w7.heap.size) (grownBy_putObj' Y D _) (fun k e => by cases e; exact ⟨h1, _, h2, rfl⟩), h7.turnH (n := w7.heap.size) (grownBy_putObj' Y D _) (fun k e => by cases e; exact ⟨h1, _, h2, rfl⟩) (by omega)⟩)
      (fun Y hY => ⟨_, results_none rfl _ _ _, rfl, hY⟩) _ _ X hm1 hOut
end
end Go.Proofs.YtafidbjaeopciaaDoor

/-
  grow of layer 18's code. Conditions are each theorem's own.
-/
namespace Go.Proofs.YtafidbjaeopciaaDoor
open Go.RowKit Go.Shelf

theorem hsp_store_new {ops : Array Oper} {rest : List Oper} {x y : Operand} {ty : TypeId} {pos : String} {af : Array Edge} {a : Act} {w : World} {Q : Exit → Act → World → Prop}
    {t : TypeId} {cs old : Array Value} (hx : a.eval x = .pointer (some ⟨w.heap.size, 0, none⟩)) (hy : a.eval y = .agg cs) (ho : old.size = 4) (hl : cs.size = 4) (h1 : cs.all (·.oneCell') = true)
    (h : wpList Tryd.prog ops Q rest (a.put none undef) (w.alloc (.cells cs t))) : wpList Tryd.prog ops Q (⟨none, .store 85 x y, ty, pos, af, none⟩ :: rest) a (w.alloc (.cells old t)) :=
  wpList_plain rfl fun _ hK => wp_store_row 85 x y rfl w.heap.size cs hx hy t old (World.alloc_heap_new w _) (by rw [hl]; kernel_rfl) (by rw [ho, hl]) h1 (by rw [World.setRow_alloc_new]; exact hK _ _ h)
theorem ents_app (A B : List (Option Ent)) : ents (A ++ B) = ents A ++ ents B := by simp [ents]
theorem take_none {L : List (Option Ent)} {k : Nat} (hk : k < L.length) (h : plH L k = none) : ents (L.take (k + 1)) = ents (L.take k) := by
  have h1 := plH_get hk
  rw [List.take_add_one, ents_app, h1, h]; simp [ents]
theorem take_some {L : List (Option Ent)} {k : Nat} {x : Ent} (hk : k < L.length) (h : plH L k = some x) : ents (L.take (k + 1)) = ents (L.take k) ++ [x] := by
  have h1 := plH_get hk
  rw [List.take_add_one, ents_app, h1, h]; simp [ents]
theorem plH_take {L : List (Option Ent)} {k i : Nat} {e : Ent} (h : plH (L.take k) i = some e) : i < k ∧ plH L i = some e := by
  have h1 := plH_lt h
  rw [List.length_take] at h1
  refine ⟨by omega, ?_⟩
  unfold plH at h ⊢
  rwa [List.getElem?_take, if_pos (by omega)] at h
/-- What grow leaves. -/
def GrowOut (w : World) (t : Nat) (cnt most : Int) (L : List (Option Ent)) (w' : World) : Prop :=
  ∃ b' L', Hs w' t b' cnt most L' ∧ L'.length = 2 * L.length ∧ Prb (hmN L'.length) L' ∧ (ents L').Perm (ents L) ∧ Kept (fun k => k = t) w w' ∧ w.heap.size ≤ b'
theorem hm_pos {N : Nat} (h : 0 < N) (k : List UInt8) : hmN N k < N := Nat.mod_lt _ h
section
variable {w : World} {t b : Nat} {cnt most : Int} {L : List (Option Ent)}
set_option maxRecDepth 100000 in
set_option maxHeartbeats 2000000 in
theorem hsgrow (h : Hs w t b cnt most L) (hP : Prb (hmN L.length) L) (hN : L.length ≤ 400000) :
    Calls Tryd.prog 36 #[.pointer (some ⟨t, 0, none⟩)] w fun e w' => e = .returned (.tuple #[]) ∧ GrowOut w t cnt most L w' := by
  have HH := Lib.hid h
  have HP := Lib.hid hP
  have kt := h.c0
  have htl := heap_lt h.tab
  have hbl := h.arr.lt
  have htb := h.ne
  have hN0 : 0 < L.length := by have := hP.home []; omega
  obtain ⟨N, hNe⟩ : ∃ N, N = L.length := ⟨_, rfl⟩
  rw [← hNe] at kt hN hN0
  have HNE := Lib.hid hNe
  have hmk : ∀ w, (Instr.makeSlice 78 (.int .i64 (2 * (N : Int))) (.int .i64 (2 * (N : Int)))).run Tryd.prog w = .ok (.slice (some ⟨w.heap.size, 0, none⟩) (2 * N) (2 * N)) (w.alloc (.cells ((List.replicate (2 * N) (none : Option Ent)).flatMap clE).toArray 85)) := fun w => by
    have := run_mk_places (2 * N) w (by omega)
    rwa [show ((2 * N : Nat) : Int) = 2 * (N : Int) from by omega] at this
  obtain ⟨R2, hR2⟩ : ∃ R, R = ((List.replicate (2 * N) (none : Option Ent)).flatMap clE).toArray := ⟨_, rfl⟩
  rw [← hR2] at hmk
  have HR2 := Lib.hid hR2
  have ktW : (w.alloc (.cells R2 85)).cell? ⟨t, 0, none⟩ = some (.slice (some ⟨b, 0, none⟩) N N) := (World.cell?_alloc_lt w _ _ htl).trans kt
  have kfW : (w.alloc (.cells R2 85)).frozen? ⟨t, 0, none⟩ = false := heap_frozen ((Below.heap_alloc w _ t htl).trans h.tab) 0
  obtain ⟨W1, hW1⟩ : ∃ W, W = w.setCell ⟨t, 0, none⟩ (.slice (some ⟨w.heap.size, 0, none⟩) (2 * N) (2 * N)) := ⟨_, rfl⟩
  have hz1 : W1.heap.size = w.heap.size := by rw [hW1]; simp
  have htab1 : W1.heap[t]? = some (.cells #[.slice (some ⟨w.heap.size, 0, none⟩) (2 * N) (2 * N), .int .i64 cnt, .int .i64 most] 80 (0, 0)) := by rw [hW1]; exact heap_setCell_same _ t 0 _ _ _ h.tab
  have hA1 : ArrH W1 b L := by rw [hW1]; exact h.arr.keep (heap_setCell_other w ⟨t, 0, none⟩ _ _ (by simpa using fun e => htb e.symm))
  have K0 : Kept (fun k => k = t) w W1 := by rw [hW1]; exact Kept.setCell w t 0 _
  obtain ⟨W2, hW2⟩ : ∃ W, W = W1.alloc (.cells R2 85) := ⟨_, rfl⟩
  have b12 : Below W1.heap.size W1 W2 := by rw [hW2]; exact (Below.refl _ _).alloc (Nat.le_refl _) _
  have hArW : ArrH W2 w.heap.size (List.replicate (2 * N) none) := by rw [hW2, hR2, ← hz1]; exact ArrH.new W1 _
  have hb2 : Hs W2 t w.heap.size cnt most (List.replicate (2 * N) none) := ⟨by rw [List.length_replicate]; exact (b12.block t (by omega)).trans htab1, hArW⟩
  have hA2 : ArrH W2 b L := hA1.keep (b12.block b (by omega))
  have K1 : Kept (fun k => k = t) w W2 := K0.then_below b12
  rw [hW1] at hW2
  have HW := Lib.hid hW2
  clear h hP hNe hR2 hW1 htab1 hA1 K0 b12 hArW hz1 hW2
  go_enter Tryd.func36, Tryd.ntmps36
  go_wp2
  rw [← HW.out]
  clear kfW ktW hmk HW
  obtain ⟨b2, hb2e⟩ : ∃ x, x = w.heap.size := ⟨_, rfl⟩
  have HB2 := Lib.hid hb2e
  have hbb2 : b < b2 := by omega
  have htb2 : t < b2 := by omega
  rw [← hb2e] at hb2
  clear hb2e
  go_loopw [18] (fun i wr => ∃ (k : Nat) (L2 : List (Option Ent)), k ≤ N ∧ i = .int .i64 (k : Int) ∧ Hid (Hs wr t b2 cnt most L2 ∧ L2.length = 2 * N ∧ Prb (hmN (2 * N)) L2 ∧ (ents L2).Perm (ents (L.take k)) ∧ ArrH wr b L ∧ Kept (fun k => k = t) w wr))
    (fun i _ => N - (intOf i).toNat)
  case atStart =>
    refine ⟨0, List.replicate (2 * N) none, Nat.zero_le _, rfl, Lib.hid ⟨hb2, List.length_replicate .., prb_new _ _ (fun k => hm_pos (by omega) k), ?_, hA2, K1⟩⟩
    rw [ents_rep]; exact List.Perm.refl _
  case round =>
    clear hb2 hA2 K1
    obtain ⟨k, L2, hk, rfl, HI⟩ := hrel
    by_cases hlt : k < N
    · have hkl : k < L.length := by rw [← HNE.out]; exact hlt
      have hrow := HI.out.2.2.2.2.1.row k _ (plH_get hkl)
      obtain ⟨V, hV⟩ : ∃ V, V = wr.alloc (.cells (clE (plH L k)).toArray 85) := ⟨_, rfl⟩
      have HV := Lib.hid hV
      have bV : Below wr.heap.size wr V := by rw [hV]; exact (Below.refl _ wr).alloc (Nat.le_refl _) _
      have hbV : V.heap[wr.heap.size]? = some (.cells (clE (plH L k)).toArray 85 (0, 0)) := by rw [hV]; exact World.alloc_heap_new wr _
      clear hV
      cases hp : plH L k with
      | none =>
        rw [hp] at hrow hbV HV
        have kx0 : V.cell? ⟨wr.heap.size, 0, none⟩ = some (.bool false) := cells_at (i := 0) hbV rfl
        have HP0 := Lib.hid hp
        clear hp
        go_wp2_with (first
          | ((with_reducible show wpList _ _ _ (Oper.mk _ (Op.load 85 _) _ _ _ _ :: _) _ _); refine wpList_val rfl (run_load_hsp rfl rfl hrow rfl) ?_)
          | ((with_reducible show wpList _ _ _ (Oper.mk _ (Op.store 85 _ _) _ _ _ _ :: _) _ _); refine hsp_store_new (cs := (clE none).toArray) rfl rfl rfl rfl (clE_one _) ?_; rw [← HV.out]))
        go_roundw
        case rel =>
          obtain ⟨i1, i2, i3, i4, i5, i6⟩ := HI.out
          refine ⟨k + 1, L2, by omega, by simp, Lib.hid ⟨i1.below bV, i2, i3, ?_, i5.keep (bV.block b i5.lt), i6.then_below bV⟩⟩
          rw [take_none hkl HP0.out]; exact i4
        case measure => simp [intOf]; omega
      | some x =>
        rw [hp] at hrow hbV HV
        have kx0 : V.cell? ⟨wr.heap.size, 0, none⟩ = some (.bool true) := cells_at (i := 0) hbV rfl
        have HP0 := Lib.hid hp
        have hrV : V.rangeAt wr.heap.size 0 (clE (some x)) := range_heap hbV
        clear hp
        have hkeep : Hid (Calls Tryd.prog 37 #[.pointer (some ⟨t, 0, none⟩), .agg (clE (some x)).toArray] V fun e w' => e = .returned (.tuple #[]) ∧ KeepOut V t b2 cnt most L2 x w') := Lib.hid (by
          obtain ⟨i1, i2, i3, i4, i5, i6⟩ := HI.out
          refine hskeep (i1.below bV) x (by rw [i2]; exact hm_pos (by omega) _) (by rw [i2]; omega) (free_of_lt ?_)
          rw [i4.length_eq, i2]
          have := ents_len (L.take k)
          rw [List.length_take] at this
          omega)
        go_wp2_with (first
          | ((with_reducible show wpList _ _ _ (Oper.mk _ (Op.load 85 _) _ _ _ _ :: _) _ _); refine wpList_val rfl (run_load_hsp rfl rfl hrV rfl) ?_)
          | ((with_reducible show wpList _ _ _ (Oper.mk _ (Op.load 85 _) _ _ _ _ :: _) _ _); refine wpList_val rfl (run_load_hsp rfl rfl hrow rfl) ?_)
          | ((with_reducible show wpList _ _ _ (Oper.mk _ (Op.store 85 _ _) _ _ _ _ :: _) _ _); refine hsp_store_new (cs := (clE (some x)).toArray) rfl rfl rfl rfl (clE_one _) ?_; rw [← HV.out])
          | (go_at_call 37; refine hkeep.out.mono ?_; rintro e w3 ⟨rfl, r, r1, r2, r3, r4, r5⟩; have HR := Lib.hid (show _ ∧ _ ∧ _ ∧ _ ∧ _ from ⟨r1, r2, r3, r4, r5⟩); clear r1 r2 r3 r4 r5))
        go_roundw
        case rel =>
          obtain ⟨i1, i2, i3, i4, i5, i6⟩ := HI.out
          obtain ⟨r1, r2, r3, r4, r5⟩ := HR.out
          refine ⟨k + 1, _, by omega, by simp, Lib.hid ⟨r4, by rw [List.length_set]; exact i2, ?_, ?_, (i5.keep (bV.block b i5.lt)).keep (r5.block b (by have := i5.lt; have := bV.size; omega) (by omega)), (i6.then_below bV).trans r5 (fun i hi e => by have := HB2.out; omega)⟩⟩
          · rw [← i2]
            rw [← i2] at i3
            refine i3.put (fun i e he hke => ?_) r1 r2
            have h1 := i4.mem_iff.1 (mem_ents.2 ⟨i, he⟩)
            obtain ⟨j, hj⟩ := mem_ents.1 h1
            obtain ⟨hjk, hj2⟩ := plH_take hj
            have := HP.out.uniq j k e x hj2 HP0.out hke
            omega
          · have h1 := ents_put (e := x) (rnd_lt (by rw [i2]; exact hm_pos (by omega) _) r1) r3
            rw [take_some hkl HP0.out]
            exact (h1.trans (i4.cons x)).trans (by simpa using (List.perm_append_comm (l₁ := [x]) (l₂ := ents (L.take k))))
        case measure => simp [intOf]; omega
    · obtain rfl : N = k := by omega
      go_wp2
      obtain ⟨i1, i2, i3, i4, i5, i6⟩ := HI.out
      have hN2 := HNE.out
      refine bodyPost_end (results_none rfl _ _ _) rfl ⟨rfl, b2, L2, i1, by rw [i2, hN2], by rw [i2]; exact i3, ?_, i6, by have := HB2.out; omega⟩
      rwa [List.take_of_length_le (by omega)] at i4
end
end Go.Proofs.YtafidbjaeopciaaDoor

/-
  free of layer 18's code. Conditions are each theorem's own.
-/
namespace Go.Proofs.YtafidbjaeopciaaDoor
open Go.RowKit Go.Shelf
attribute [local go_sem] Oper.semAt_some

theorem keptN (b : Nat) (X : World) (p : Nat) : Kept (fun k => k = b) X (X.drew.setCells b (p * 4) (clE none)) :=
  (Kept.drew X).trans (Kept.setCells b _ _ _) (fun _ _ h => h)
theorem run_storeH {o : Oper} {a : Act} {w : World} {x y : Operand} {b i : Nat} {cs : List Value} (ho : o.op = .store 85 x y) (hx : a.eval x = .pointer (some ⟨b, i, none⟩)) (hy : a.eval y = .agg cs.toArray) (ht : w.there b i 4) (hl : cs.length = 4) (h1 : cs.toArray.all (·.oneCell') = true) :
    (execOp a.eval o).run Tryd.prog w = .ok .skip (w.setCells b i cs) := by
  have hst := run_storeVar_mid (P := Tryd.prog) w b i 85 cs.toArray (by rw [List.size_toArray, hl]; exact ht) (by rw [List.size_toArray, hl]; kernel_rfl) h1
  unfold execOp
  simp only [ho, hx, hy, Instr.storeAt, Instr.sureAddr, Sem.run_bind, Sem.run_pure, Result.andThen_ok, hst]
theorem run_storehsp {o : Oper} {a : Act} {w : World} {x y : Operand} {g t : Nat} {cs old : Array Value} (ho : o.op = .store 85 x y) (hx : a.eval x = .pointer (some ⟨g, 0, none⟩)) (hy : a.eval y = .agg cs) (hg : w.heap[g]? = some (.cells old t (0, 0))) (hold : old.size = 4) (hl : cs.size = 4) (h1 : cs.all (·.oneCell') = true) :
    (execOp a.eval o).run Tryd.prog w = .ok .skip (w.setRow g cs) := by
  have h := run_storeVar_row (P := Tryd.prog) w g t 85 old cs hg (by rw [hl]; kernel_rfl) (by rw [hold, hl]) h1
  unfold execOp
  simp only [ho, hx, hy, Instr.storeAt, Instr.sureAddr, Sem.run_bind, Sem.run_pure, Result.andThen_ok, h]
theorem skipQ {n : Nat} {P : Program} {Q : Exit → Act → World → Prop} {o : Oper} {a : Act} {w w' : World} {K : Act → World → Prop} (hrun : (execOp a.eval o).run P w = .ok .skip w') (h : K (a.put o.dst undef) w') : o.wpIn Fence.wide n P a w K Q :=
  ⟨fun _ _ => trivial, by rw [show Fence.wide.round = none from rfl, Oper.semAt_none, hrun]; exact h⟩
theorem Cel3.belowH {g1 g2 t b N fr n : Nat} {W V : World} (h : Cel3 g1 g2 t b N fr W) (hb : Below n W V) (hn : W.heap.size ≤ n) : Cel3 g1 g2 t b N fr V :=
  h.below hb (Nat.lt_of_lt_of_le (cell_block h.1) hn) (Nat.lt_of_lt_of_le (cell_block h.2.1) hn) (Nat.lt_of_lt_of_le (cell_block h.2.2) hn)
/-- Where free is, behind r rounds. -/
structure FrI (w : World) (t b N g0 B g1 : Nat) (cnt most : Int) (E : List Ent) (r : Nat) (X : World) (A : List (Option Ent)) (g : Nat) : Prop where
  hs : Hs X t b cnt most A
  len : A.length = N
  b0 : Boxed X B 57 (.pointer (some ⟨t, 0, none⟩))
  b1 : Boxed X (B + 1) 3 (.int .i64 (g : Int))
  clo : Clo (hmN N) g0 (A.set g none) g r
  pm : (ents (A.set g none)).Perm E
  cel : Cel3 g1 (g1 + 1) t b N (g0 + 1) X
  kp : Kept (fun k => k = b) w X
/-- Where free leaves its loop. -/
structure FrX (w : World) (t b N B g1 g0 : Nat) (cnt most : Int) (E : List Ent) (X : World) (A : List (Option Ent)) (g : Nat) : Prop where
  hs : Hs X t b cnt most A
  len : A.length = N
  gl : g < N
  b0 : Boxed X B 57 (.pointer (some ⟨t, 0, none⟩))
  b1 : Boxed X (B + 1) 3 (.int .i64 (g : Int))
  prb : Prb (hmN N) (A.set g none)
  pm : (ents (A.set g none)).Perm E
  cel : Cel3 g1 (g1 + 1) t b N (g0 + 1) X
  kp : Kept (fun k => k = b) w X
section
variable {w X V : World} {t b N g0 B g1 g r n : Nat} {cnt most : Int} {E : List Ent} {A : List (Option Ent)} {row : Option Nat}
theorem FrI.kept (h : FrI w t b N g0 B g1 cnt most E r X A g) (hg : X.grownBy V row) (hr : ∀ k, row = some k → n ≤ k ∧ ∃ o : Obj, X.heap[k]? = some o ∧ o.isCells = false) (hn : w.heap.size ≤ n) : FrI w t b N g0 B g1 cnt most E r V A g :=
  ⟨h.hs.kept hg hr, h.len, box_keep h.b0 hg hr, box_keep h.b1 hg hr, h.clo, h.pm, h.cel.kept hg hr, h.kp.turnH hg hr hn⟩
theorem FrX.kept (h : FrX w t b N B g1 g0 cnt most E X A g) (hg : X.grownBy V row) (hr : ∀ k, row = some k → n ≤ k ∧ ∃ o : Obj, X.heap[k]? = some o ∧ o.isCells = false) (hn : w.heap.size ≤ n) : FrX w t b N B g1 g0 cnt most E V A g :=
  ⟨h.hs.kept hg hr, h.len, h.gl, box_keep h.b0 hg hr, box_keep h.b1 hg hr, h.prb, h.pm, h.cel.kept hg hr, h.kp.turnH hg hr hn⟩
theorem FrI.below (h : FrI w t b N g0 B g1 cnt most E r X A g) (hb : Below X.heap.size X V) : FrI w t b N g0 B g1 cnt most E r V A g :=
  ⟨h.hs.below hb, h.len, Boxed.below h.b0 hb (heap_lt (show X.heap[B]? = _ from h.b0)), Boxed.below h.b1 hb (heap_lt (show X.heap[B + 1]? = _ from h.b1)), h.clo, h.pm, h.cel.belowH hb (Nat.le_refl _), h.kp.then_below hb⟩
theorem FrI.ends (h : FrI w t b N g0 B g1 cnt most E r X A g) {p : Nat} (hp : p < N) (hat : offs N g0 p = r + 1) (hn : plH A p = none) : FrX w t b N B g1 g0 cnt most E X A g := by
  have hl : (A.set g none).length = N := by rw [List.length_set]; exact h.len
  have hgl := h.clo.gl
  rw [hl] at hgl
  refine ⟨h.hs, h.len, hgl, h.b0, h.b1, h.clo.ends (a := p) (by rw [hl]; exact hp) (by rw [hl]; exact hat) ?_, h.pm, h.cel, h.kp⟩
  rw [plH_set (by rw [h.len]; exact hgl), hn]; split <;> rfl
theorem FrI.pos (h : FrI w t b N g0 B g1 cnt most E r X A g) : r + 1 < N ∧ g < N ∧ g0 < N ∧ offs N g0 g ≤ r := by
  have hl : (A.set g none).length = N := by rw [List.length_set]; exact h.len
  have h1 := h.clo.round
  have h2 := h.clo.gl
  have h3 := h.clo.gz
  have h4 := h.clo.gr
  rw [hl] at h1 h2 h3 h4
  exact ⟨h1, h2, h3, h4⟩
theorem FrI.at_ (h : FrI w t b N g0 B g1 cnt most E r X A g) {p : Nat} {y : Ent} (hat : offs N g0 p = r + 1) (hp : plH A p = some y) : plH (A.set g none) p = some y ∧ g ≠ p := by
  obtain ⟨_, h2, h3, h4⟩ := h.pos
  have hne : g ≠ p := fun e => by rw [e] at h4; omega
  exact ⟨by rw [plH_set (by rw [h.len]; exact h2), if_neg hne]; exact hp, hne⟩
end
theorem Boxed.keptH {X V : World} {c B : Nat} {T : TypeId} {v : Value} (h : Boxed X B T v) (k : Kept (fun k => k = c) X V) (hne : B ≠ c) : Boxed V B T v := (k.block B (heap_lt (show X.heap[B]? = _ from h)) hne).trans h
theorem keepsB {D : Nat} {X Y : World} (h : Below X.heap.size X Y) : KeepsFrom D X Y := ⟨h.size, fun k _ _ hk _ => (h.block k (heap_lt hk)).trans hk⟩
theorem KeepC.of_cel {g1 g2 t b N fr : Nat} {X Y : World} (h1 : Cel3 g1 g2 t b N fr X) (h2 : Cel3 g1 g2 t b N fr Y) : KeepC (ps3 g1 g2 t) X Y := fun q hq => by
  simp only [ps3, List.mem_cons, List.not_mem_nil, or_false] at hq
  rcases hq with rfl | rfl | rfl
  · exact h2.1.trans h1.1.symm
  · exact h2.2.1.trans h1.2.1.symm
  · exact h2.2.2.trans h1.2.2.symm
/-- What free leaves. -/
def FreeOut (w : World) (t b : Nat) (cnt most : Int) (L : List (Option Ent)) (g0 : Nat) (w' : World) : Prop :=
  ∃ L', Hs w' t b cnt most L' ∧ L'.length = L.length ∧ Prb (hmN L'.length) L' ∧ (ents L').Perm (ents (L.set g0 none)) ∧ Kept (fun k => k = b) w w'
section
variable {w : World} {t b : Nat} {cnt most : Int} {L : List (Option Ent)}
set_option maxRecDepth 100000 in
set_option maxHeartbeats 8000000 in
theorem hsfree (h : Hs w t b cnt most L) (hP : Prb (hmN L.length) L) (g0 : Nat) (x0 : Ent) (hx0 : plH L g0 = some x0) (hN : L.length ≤ 1000000) (hfree : ∃ i, i < L.length ∧ plH L i = none) :
    Calls Tryd.prog 40 #[.pointer (some ⟨t, 0, none⟩), .int .i64 (g0 : Int)] w fun e w' => e = .returned (.tuple #[]) ∧ FreeOut w t b cnt most L g0 w' := by
  obtain ⟨N, hNe⟩ : ∃ N, N = L.length := ⟨_, rfl⟩
  obtain ⟨E, hE⟩ : ∃ E, E = ents (L.set g0 none) := ⟨_, rfl⟩
  have hg0 := plH_lt hx0
  have hclo := hP.close hx0 hfree
  have HH := Lib.hid h
  have htl := heap_lt h.tab
  have hbl := h.arr.lt
  have htb := h.ne
  have kt0 := h.c0
  have hN0 : 0 < L.length := by omega
  have HPH := Lib.hid hP.home
  rw [← hNe] at hN hN0 hg0 hclo kt0 HPH
  have HNE := Lib.hid hNe
  have HE := Lib.hid hE
  have HC := Lib.hid hclo
  clear h hfree hP hx0 hNe hE hclo
  refine (callsIn_wide (n := 4)).1 ?_
  refine callsIn_of_wp_marks Tryd.func40 rfl trivial ?_ rfl
  simp only [Tryd.ntmps40, List.size_toArray, List.length_cons, List.length_nil, Nat.reduceAdd, Nat.reduceSub, Array.replicate_succ, Array.replicate_zero, List.push_toArray, List.append_toArray, List.nil_append, List.cons_append]
  gi_wp2
  refine wpIn_wide.2 (wp_scope_straight ((wpIn_wide (n := 4)).1 ?_))
  gi_wp2
  refine wpIn_wide.2 (wp_label ?_)
  obtain ⟨W, hW⟩ : ∃ W, W = (w.alloc (.cells #[.pointer (some ⟨t, 0, none⟩)] 57)).alloc (.cells #[.int .i64 (g0 : Int)] 3) := ⟨_, rfl⟩
  have hBW : Below w.heap.size w W := places_below hW
  have hWz : W.heap.size ≤ w.heap.size + 2 ∧ w.heap.size + 2 ≤ W.heap.size := by rw [hW]; simp
  have hb0 : Boxed W w.heap.size 57 (.pointer (some ⟨t, 0, none⟩)) := by rw [hW]; exact (Boxed.new w _ _).alloc _
  have hb1 : Boxed W (w.heap.size + 1) 3 (.int .i64 (g0 : Int)) := by
    have := Boxed.new (w.alloc (.cells #[.pointer (some ⟨t, 0, none⟩)] 57)) 3 (.int .i64 (g0 : Int))
    rw [World.size_alloc] at this
    rw [hW]; exact this
  have ktW : W.cell? ⟨t, 0, none⟩ = some (.slice (some ⟨b, 0, none⟩) N N) := (hBW.cell (p := ⟨t, 0, none⟩) htl).trans kt0
  rw [← hW]
  clear hW
  have kb0 := Boxed.cell hb0
  have kb1 := Boxed.cell hb1
  gi_wp2_with (refine ⟨trivial, ?_⟩; gi_at_call 41; refine (callsIn_wide.2 (hsplaces t (g0 + 1) W)).mono ?_; rintro e w7 ⟨rfl, hw7'⟩; have HW7 := Lib.hid hw7'; clear hw7')
  have hw7 := HW7.out
  have hb7 := places_below hw7
  have hseq := places_seq _ _ t b N (g0 + 1) hw7 ktW hN hg0 (4 - 1)
  have hC7 := places_cel hw7 ktW
  have hz7 : w7.heap.size = W.heap.size + 2 := by rw [hw7]; simp
  have hI0 : FrI w t b N g0 w.heap.size W.heap.size cnt most E 0 w7 L g0 := ⟨(HH.out.below hBW).below hb7, HNE.out.symm, Boxed.below hb0 hb7 (by omega), Boxed.below hb1 hb7 (by omega), HC.out, by rw [HE.out], hC7, (Kept.of_below hBW).then_below hb7⟩
  clear hw7 HW7 hb7 ktW kb0 kb1 hC7 hBW hb0 hb1
  generalize W.heap.size = g1 at *
  refine range_safe (by omega) (gf := 46) (lb := #[.pointer (some ⟨g1, 0, none⟩), .pointer (some ⟨g1 + 1, 0, none⟩)]) rfl (enters_of Tryd.func46 (by kernel_rfl) rfl)
    hseq KeepC.trans (fun V l r r' hl hr => KeepC.loop hr) (Below.refl _ _) (fun _ => rfl)
    (fun pre x V l r r' h _ hl => h)
    (fun pre X => ∃ A g, FrI w t b N g0 w.heap.size g1 cnt most E pre.length X A g)
    (fun cd _ X => cd = .exit 0 ∧ ∃ A g, FrX w t b N w.heap.size g1 g0 cnt most E X A g)
    (fun pre X Y r hs hg hr => by obtain ⟨A, g, h⟩ := hs; exact ⟨A, g, h.kept hg hr (by omega)⟩)
    (fun cd pre X Y r hs hg hr => by obtain ⟨h1, A, g, h⟩ := hs; exact ⟨h1, A, g, h.kept hg hr (by omega)⟩)
    (fun cd pre X h => by obtain ⟨_, A, g, h⟩ := h; exact h.cel)
    ⟨L, g0, hI0⟩
    (fun p => { tmps := #[.pointer (some ⟨t, 0, none⟩), .int .i64 (g0 : Int), .pointer (some ⟨w.heap.size, 0, none⟩), .pointer (some ⟨w.heap.size + 1, 0, none⟩), .int .i64 (p : Int), undef, .pointer (some ⟨t, 0, none⟩), .int .i64 (g0 : Int), .int .i64 ((g0 : Int) + 1), .func (.func 46) #[] #[.pointer (some ⟨g1, 0, none⟩), .pointer (some ⟨g1 + 1, 0, none⟩)], .int .i64 (p : Int), undef, undef, undef, undef, undef, undef, undef, undef, undef, undef, undef, undef, undef, undef, undef, undef, undef, undef, undef, undef, undef, undef, undef, undef, undef, undef, undef, undef, undef, undef, undef, undef, undef, undef, undef, undef, undef, undef, undef], defers := [] }) ?assign ?body ?done ?stop
  case assign =>
    intro l p X K hK
    dsimp only [encP]
    gi_wp2
    exact hK
  case body =>
    rintro l pre p X ⟨A, g, hI⟩ ⟨hx, hpl⟩
    obtain ⟨hr1, hgl, _, hgr⟩ := hI.pos
    obtain ⟨hoff, hpl'⟩ := offs_rnd hg0 hr1
    rw [← hx] at hoff hpl'
    have hAl := hI.len
    have hgA : g < A.length := by rw [hAl]; exact hgl
    have hpA : p < A.length := by rw [hAl]; exact hpl'
    have hrow := hI.hs.at_ (plH_get hpA)
    have kb0 := Boxed.cell hI.b0
    have kb1 := Boxed.cell hI.b1
    have kt := hI.cel.2.2
    have hXb0 := heap_lt (show X.heap[w.heap.size]? = _ from hI.b0)
    have hXb1 := heap_lt (show X.heap[w.heap.size + 1]? = _ from hI.b1)
    have HI := Lib.hid hI
    have HO := Lib.hid hoff
    have HAL := Lib.hid hAl
    obtain ⟨X1, hX1⟩ : ∃ X1, X1 = X.alloc (.cells (clE (plH A p)).toArray 85) := ⟨_, rfl⟩
    have HX1 := Lib.hid hX1
    have bX1 : Below X.heap.size X X1 := by rw [hX1]; exact (Below.refl _ X).alloc (Nat.le_refl _) _
    have hz1 : X1.heap.size = X.heap.size + 1 := by rw [hX1]; simp
    have hbX1 : X1.heap[X.heap.size]? = some (.cells (clE (plH A p)).toArray 85 (0, 0)) := by rw [hX1]; exact World.alloc_heap_new X _
    have K1 : KeepsOthers X X1 := by rw [hX1]; exact KeepsOthers.alloc X _
    have KC1' := Lib.hid (KeepC.of_below (ps := ps3 g1 (g1 + 1) t) bX1 (fun q hq => by have h1 := cell_block hI.cel.1; have h2 := cell_block hI.cel.2.1; have h3 := cell_block hI.cel.2.2; simp only [ps3, List.mem_cons, List.not_mem_nil, or_false] at hq; rcases hq with rfl | rfl | rfl <;> assumption))
    clear hI hx hX1 hoff hAl hpl hI0 hseq
    cases hp : plH A p with
    | none =>
      rw [hp] at hrow hbX1 HX1
      have kx0 : X1.cell? ⟨X.heap.size, 0, none⟩ = some (.bool false) := cells_at (i := 0) hbX1 rfl
      have HP := Lib.hid hp
      clear hp
      gi_wp2_with (first
        | ((with_reducible show wpListIn _ _ _ _ _ (Oper.mk _ (Op.load 85 _) _ _ _ _ :: _) _ _); refine listR_val rfl (fun c h => by cases h) (run_load_hsp rfl rfl hrow rfl) ?_)
        | ((with_reducible show wpListIn _ _ _ _ _ (Oper.mk _ (Op.store 85 _ _) _ _ _ _ :: _) _ _); refine listR_skip rfl (fun c h => by cases h) (run_storehsp (cs := (clE none).toArray) rfl rfl rfl (World.alloc_heap_new X _) rfl rfl (clE_one _)) ?_; rw [World.setRow_alloc_new]; rw [← HX1.out]))
      exact ⟨K1.from _, rfl, A, g, (HI.out.below bX1).ends hpl' HO.out HP.out⟩
    | some y =>
      rw [hp] at hrow hbX1 HX1
      have kx0 : X1.cell? ⟨X.heap.size, 0, none⟩ = some (.bool true) := cells_at (i := 0) hbX1 rfl
      obtain ⟨hVp, hgp⟩ := HI.out.at_ HO.out hp
      have HVP := Lib.hid hVp
      have hhy := HPH.out y.key
      have hWB := way_btw hhy hpl' hgl hgp
      have hC1 := HI.out.cel.belowH bX1 (Nat.le_refl _)
      have KB0 : Hid (∀ V, Below X1.heap.size X1 V → V.cell? ⟨w.heap.size, 0, none⟩ = some (.pointer (some ⟨t, 0, none⟩))) := Lib.hid fun V hV => (hV.cell (p := ⟨w.heap.size, 0, none⟩) (by show w.heap.size < _; omega)).trans ((bX1.cell (p := ⟨w.heap.size, 0, none⟩) hXb0).trans kb0)
      have KB1 : Hid (∀ V, Below X1.heap.size X1 V → V.cell? ⟨w.heap.size + 1, 0, none⟩ = some (.int .i64 (g : Int))) := Lib.hid fun V hV => (hV.cell (p := ⟨w.heap.size + 1, 0, none⟩) (by show w.heap.size + 1 < _; omega)).trans ((bX1.cell (p := ⟨w.heap.size + 1, 0, none⟩) hXb1).trans kb1)
      have KB4 : Hid (∀ V, Below X1.heap.size X1 V → V.cell? ⟨X.heap.size, 1, none⟩ = some (.int .u64 (mkOf y.key))) := Lib.hid fun V hV => (hV.cell (p := ⟨X.heap.size, 1, none⟩) (by show X.heap.size < _; omega)).trans (cells_at (i := 1) hbX1 rfl)
      have KBT : Hid (∀ V, Below X1.heap.size X1 V → V.cell? ⟨t, 0, none⟩ = some (.slice (some ⟨b, 0, none⟩) N N)) := Lib.hid fun V hV => (hV.cell (p := ⟨t, 0, none⟩) (cell_block hC1.2.2)).trans hC1.2.2
      have HC1 := Lib.hid hC1
      clear hp hVp hC1
      by_cases hb : Btw (hmN N y.key) p g
      · have hle := hWB.2 hb
        have HB := Lib.hid hb
        have dW : decide (((wayF N g p : Nat) : Int) ≤ ((wayF N (hmN N y.key) p : Nat) : Int)) = true := decide_eq_true (by omega)
        have dWn : wayF N g p ≤ wayF N (hmN N y.key) p := hle
        clear hWB hle hb
        gi_wp2_with (first
          | ((with_reducible show wpListIn _ _ _ _ _ (Oper.mk _ (Op.load 85 _) _ _ _ _ :: _) _ _); refine listR_val rfl (fun c h => by cases h) (run_load_hsp rfl rfl hrow rfl) ?_)
          | ((with_reducible show wpListIn _ _ _ _ _ (Oper.mk _ (Op.store 85 _ _) _ _ _ _ :: _) _ _); refine listR_skip rfl (fun c h => by cases h) (run_storehsp (cs := (clE (some y)).toArray) rfl rfl rfl (World.alloc_heap_new X _) rfl rfl (clE_one _)) ?_; rw [World.setRow_alloc_new]; rw [← HX1.out]))
        refine region_roundH (S := fun V => Below X1.heap.size X1 V) (by kernel_rfl) (by kernel_rfl) (fun h => by obtain ⟨_, _, h⟩ := h; exact h) (Below.refl _ X1).drew (fun hS => ?_)
        refine held_pure (i := 0) (oi := ⟨some 23, _, _, _, _, _⟩) rfl (by kernel_rfl) (by kernel_rfl) (by kernel_rfl) (fun _ _ _ h => h) (by rfl) (fun w hSw => run_load_hstp rfl rfl (KB0.out _ hSw)) hS (fun hS => ?_)
        try go_frame
        refine held_pure (i := 1) (oi := ⟨some 24, _, _, _, _, _⟩) rfl (by kernel_rfl) (by kernel_rfl) (by kernel_rfl) (fun _ _ _ h => h) (by rfl) (fun w hSw => run_load_hstp rfl rfl (KB0.out _ hSw)) hS (fun hS => ?_)
        try go_frame
        refine held_pure (i := 2) (oi := ⟨some 25, _, _, _, _, _⟩) rfl (by kernel_rfl) (by kernel_rfl) (by kernel_rfl) (fun _ _ _ h => h) (by rfl) (v := ?_) (fun w hSw => ?_) hS (fun hS => ?_)
        rotate_left
        · go_simp; try with_reducible rfl
        try go_frame
        refine held_pure (i := 3) (oi := ⟨some 26, _, _, _, _, _⟩) rfl (by kernel_rfl) (by kernel_rfl) (by kernel_rfl) (fun _ _ _ h => h) (by rfl) (fun w hSw => run_load_u64 rfl rfl (KB4.out _ hSw)) hS (fun hS => ?_)
        try go_frame
        refine held_pure (i := 5) (oi := ⟨some 28, _, _, _, _, _⟩) rfl (by kernel_rfl) (by kernel_rfl) (by kernel_rfl) (fun _ _ _ h => h) (by rfl) (v := ?_) (fun w hSw => ?_) hS (fun hS => ?_)
        rotate_left
        · go_simp; try with_reducible rfl
        try go_frame
        refine held_pure (i := 7) (oi := ⟨some 30, _, _, _, _, _⟩) rfl (by kernel_rfl) (by kernel_rfl) (by kernel_rfl) (fun _ _ _ h => h) (by rfl) (fun w hSw => run_load_hstp rfl rfl (KB0.out _ hSw)) hS (fun hS => ?_)
        try go_frame
        refine held_pure (i := 8) (oi := ⟨some 31, _, _, _, _, _⟩) rfl (by kernel_rfl) (by kernel_rfl) (by kernel_rfl) (fun _ _ _ h => h) (by rfl) (fun w hSw => run_load_int rfl rfl (KB1.out _ hSw)) hS (fun hS => ?_)
        try go_frame
        refine held_pure (i := 9) (oi := ⟨some 32, _, _, _, _, _⟩) rfl (by kernel_rfl) (by kernel_rfl) (by kernel_rfl) (fun _ _ _ h => h) (by rfl) (v := ?_) (fun w hSw => ?_) hS (fun hS => ?_)
        rotate_left
        · go_simp; try with_reducible rfl
        try go_frame
        refine wpAnyH_ready (rs := [4]) (by kernel_rfl) (by simp) (AllReadyH.cons (o := ⟨some 27, _, _, _, _, _⟩) rfl (fun K hK => ?_) AllReadyH.nil)
        rw [if_pos (by rfl)]
        go_simp
        refine (hshome t b N N y.key _ (KBT.out _ hS) hN0 hN).mono ?_
        rintro e w4 ⟨rfl, rfl⟩
        show K _ _
        refine hK.out _ _ hS (fun hS => ?_)
        clear hK K
        try go_frame
        refine wpAnyH_ready (rs := [6]) (by kernel_rfl) (by simp) (AllReadyH.cons (o := ⟨some 29, _, _, _, _, _⟩) rfl (fun K hK => ?_) AllReadyH.nil)
        rw [if_pos (by rfl)]
        go_simp
        refine (hsway t b N N (hmN N y.key) p _ (KBT.out _ hS) hN0 hN hhy hpl').mono ?_
        rintro e w6 ⟨rfl, x6⟩
        show K _ _
        refine hK.out _ _ (below_step hS x6) (fun hS => ?_)
        clear hK K
        try go_frame
        refine wpAnyH_ready (rs := [10]) (by kernel_rfl) (by simp) (AllReadyH.cons (o := ⟨some 33, _, _, _, _, _⟩) rfl (fun K hK => ?_) AllReadyH.nil)
        rw [if_pos (by rfl)]
        go_simp
        refine (hsway t b N N g p _ (KBT.out _ hS) hN0 hN hgl hpl').mono ?_
        rintro e w10 ⟨rfl, x10⟩
        show K _ _
        refine hK.out _ _ (below_step hS x10) (fun hS => ?_)
        clear hK K
        try go_frame
        refine held_pure (i := 11) (oi := ⟨some 34, _, _, _, _, _⟩) rfl (by kernel_rfl) (by kernel_rfl) (by kernel_rfl) (fun _ _ _ h => h) (by rfl) (v := .bool true) (fun w hSw => by go_simp; try exact dW) hS (fun hS => ?_)
        try go_frame
        refine held_pure (i := 12) (oi := ⟨some 22, _, _, _, _, _⟩) rfl (by kernel_rfl) (by kernel_rfl) (by kernel_rfl) (fun _ _ _ h => h) (by rfl) (v := ?_) (fun w hSw => ?_) hS (fun hS => ?_)
        rotate_left
        · go_simp; try with_reducible rfl
        try go_frame
        refine wpAnyH_done (by kernel_rfl) ?_ _
        obtain ⟨X2, hX2e⟩ : ∃ X2, X2 = w10 := ⟨_, rfl⟩
        subst hX2e
        have hX2 : Below X.heap.size X X2 := bX1.trans (hS.mono (by omega))
        have HI2 := Lib.hid (HI.out.below hX2)
        have hA2 := HI2.out.hs.arr
        have hz2 := hX2.size
        have hz3 := hS.size
        have hb15 : X2.heap[X.heap.size]? = some (.cells (clE (some y)).toArray 85 (0, 0)) := (hS.block X.heap.size (by omega)).trans hbX1
        have KC0 : Hid (∀ V, Kept (fun k => k = b) X2 V → V.cell? ⟨w.heap.size, 0, none⟩ = some (.pointer (some ⟨t, 0, none⟩))) := Lib.hid fun V hV => Boxed.cell (Boxed.keptH HI2.out.b0 hV (by omega))
        have KC1 : Hid (∀ V, Kept (fun k => k = b) X2 V → V.cell? ⟨w.heap.size + 1, 0, none⟩ = some (.int .i64 (g : Int))) := Lib.hid fun V hV => Boxed.cell (Boxed.keptH HI2.out.b1 hV (by omega))
        have KCT : Hid (∀ V, Kept (fun k => k = b) X2 V → V.cell? ⟨t, 0, none⟩ = some (.slice (some ⟨b, 0, none⟩) N N)) := Lib.hid fun V hV => (World.cell?_of_block (hV.block t (cell_block HI2.out.cel.2.2) htb)).trans HI2.out.cel.2.2
        have KC5 : Hid (∀ V, Kept (fun k => k = b) X2 V → V.rangeAt X.heap.size 0 (clE (some y))) := Lib.hid fun V hV => range_heap ((hV.block X.heap.size (by omega) (by omega)).trans hb15)
        have hk3 := keptR b X2 g y
        have hb3 := Boxed.keptH HI2.out.b1 hk3 (by omega)
        have kb3 : (X2.drew.setCells b (g * 4) (clE (some y))).cell? ⟨w.heap.size + 1, 0, none⟩ = some (.int .i64 (g : Int)) := Boxed.cell hb3
        have kf3 : (X2.drew.setCells b (g * 4) (clE (some y))).frozen? ⟨w.heap.size + 1, 0, none⟩ = false := Boxed.frozen hb3
        clear KB0 KB1 KB4 KBT kx0 hrow kb0 kb1 kt hbX1 x6 x10 hb15
        gi_upto_region 6 with fail
        refine region_roundH (S := Kept (fun k => k = b) X2) (by kernel_rfl) (by kernel_rfl) (fun h => by obtain ⟨_, _, h⟩ := h; exact h) (Kept.drew X2) (fun hS => ?_)
        refine held_pure (i := 0) (oi := ⟨some 35, _, _, _, _, _⟩) rfl (by kernel_rfl) (by kernel_rfl) (by kernel_rfl) (fun _ _ _ h => h) (by rfl) (fun w hSw => run_load_hstp rfl rfl (KC0.out _ hSw)) hS (fun hS => ?_)
        try go_frame
        refine held_pure (i := 1) (oi := ⟨some 36, _, _, _, _, _⟩) rfl (by kernel_rfl) (by kernel_rfl) (by kernel_rfl) (fun _ _ _ h => h) (by rfl) (v := ?_) (fun w hSw => ?_) hS (fun hS => ?_)
        rotate_left
        · go_simp; try with_reducible rfl
        try go_frame
        refine held_pure (i := 2) (oi := ⟨some 37, _, _, _, _, _⟩) rfl (by kernel_rfl) (by kernel_rfl) (by kernel_rfl) (fun _ _ _ h => h) (by rfl) (v := ?_) (fun w hSw => ?_) hS (fun hS => ?_)
        rotate_left
        · go_simp; try with_reducible rfl
        try go_frame
        refine held_pure (i := 3) (oi := ⟨some 38, _, _, _, _, _⟩) rfl (by kernel_rfl) (by kernel_rfl) (by kernel_rfl) (fun _ _ _ h => h) (by rfl) (fun w hSw => run_load_hsar rfl rfl (KCT.out _ hSw)) hS (fun hS => ?_)
        try go_frame
        refine held_pure (i := 4) (oi := ⟨some 39, _, _, _, _, _⟩) rfl (by kernel_rfl) (by kernel_rfl) (by kernel_rfl) (fun _ _ _ h => h) (by rfl) (fun w hSw => run_load_int rfl rfl (KC1.out _ hSw)) hS (fun hS => ?_)
        try go_frame
        refine held_pure (i := 5) (oi := ⟨some 40, _, _, _, _, _⟩) rfl (by kernel_rfl) (by kernel_rfl) (by kernel_rfl) (fun _ _ _ h => h) (by rfl) (fun w hSw => run_load_hsp rfl rfl (KC5.out _ hSw) rfl) hS (fun hS => ?_)
        try go_frame
        refine held_pure (i := 6) (oi := ⟨some 41, _, _, _, _, _⟩) rfl (by kernel_rfl) (by kernel_rfl) (by kernel_rfl) (fun _ _ _ h => h) (by rfl) (v := ?_) (fun w hSw => ?_) hS (fun hS => ?_)
        rotate_left
        · go_simp; try with_reducible rfl
        try go_frame
        refine wpAnyH_ready (rs := [7]) (by kernel_rfl) (by simp) (AllReadyH.cons (o := ⟨none, _, _, _, _, _⟩) rfl (fun K hK => ?_) AllReadyH.nil)
        rw [if_pos (by rfl)]
        refine wp_store_mid 85 _ _ rfl b (g * 4) (clE (some y)).toArray rfl rfl (there_drew (hA2.there hgA)) (by kernel_rfl) (clE_one _) ?_
        refine hK.out _ _ (keptR b X2 g y) (fun hS => ?_)
        clear hK K
        try go_frame
        refine wpAnyH_done (by kernel_rfl) ?_ _
        gi_wp2
        have hlt9 : t ≠ w.heap.size + 1 := by omega
        have hkc := Kept.setCell (X2.drew.setCells b (g * 4) (clE (some y))) (w.heap.size + 1) 0 (.int .i64 (p : Int))
        have hc3 := HI2.out.cel.keptH hk3 (by omega) (by omega) htb
        have hc4 := hc3.keptH hkc (by omega) (by omega) hlt9
        refine ⟨(keepsB hX2).trans ((keepsH hk3 hA2).trans ((KeepsOthers.setCell _ _ _).from _)), KeepC.of_cel HI.out.cel hc4, A.set g (some y), p, ?_⟩
        rw [List.length_append]
        have hmv := HI2.out.clo.move (a := p) (by rw [List.length_set, HI2.out.len]; exact HO.out) HVP.out HB.out
        have hpm := ents_move HI2.out.clo.gap HI2.out.clo.gl HVP.out
        rw [List.set_set] at hmv hpm
        refine ⟨⟨?_, ((hA2.keep (w' := X2.drew) rfl).set hgA (some y)).keep (heap_setCell_other _ ⟨w.heap.size + 1, 0, none⟩ _ _ (by show b ≠ w.heap.size + 1; omega))⟩, by rw [List.length_set]; exact HI2.out.len, Boxed.keptH (Boxed.keptH HI2.out.b0 hk3 (by omega)) hkc (by omega), Boxed.set _ hb3, hmv, hpm.trans HI2.out.pm, hc4, (HI2.out.kp.trans hk3 (fun _ _ h => h)).trans hkc (fun i hi e => by omega)⟩
        rw [List.length_set]
        exact (hkc.block t (by have := hk3.size; have := HI2.out.hs.tab; have := heap_lt this; omega) hlt9).trans ((hk3.block t (heap_lt HI2.out.hs.tab) htb).trans HI2.out.hs.tab)
      · have hle : ¬ wayF N g p ≤ wayF N (hmN N y.key) p := fun h => hb (hWB.1 h)
        have HB := Lib.hid hb
        have dW : decide (((wayF N g p : Nat) : Int) ≤ ((wayF N (hmN N y.key) p : Nat) : Int)) = false := decide_eq_false (by omega)
        clear hWB hb
        gi_wp2_with (first
          | ((with_reducible show wpListIn _ _ _ _ _ (Oper.mk _ (Op.load 85 _) _ _ _ _ :: _) _ _); refine listR_val rfl (fun c h => by cases h) (run_load_hsp rfl rfl hrow rfl) ?_)
          | ((with_reducible show wpListIn _ _ _ _ _ (Oper.mk _ (Op.store 85 _ _) _ _ _ _ :: _) _ _); refine listR_skip rfl (fun c h => by cases h) (run_storehsp (cs := (clE (some y)).toArray) rfl rfl rfl (World.alloc_heap_new X _) rfl rfl (clE_one _)) ?_; rw [World.setRow_alloc_new]; rw [← HX1.out]))
        refine region_roundH (S := fun V => Below X1.heap.size X1 V) (by kernel_rfl) (by kernel_rfl) (fun h => by obtain ⟨_, _, h⟩ := h; exact h) (Below.refl _ X1).drew (fun hS => ?_)
        refine held_pure (i := 0) (oi := ⟨some 23, _, _, _, _, _⟩) rfl (by kernel_rfl) (by kernel_rfl) (by kernel_rfl) (fun _ _ _ h => h) (by rfl) (fun w hSw => run_load_hstp rfl rfl (KB0.out _ hSw)) hS (fun hS => ?_)
        try go_frame
        refine held_pure (i := 1) (oi := ⟨some 24, _, _, _, _, _⟩) rfl (by kernel_rfl) (by kernel_rfl) (by kernel_rfl) (fun _ _ _ h => h) (by rfl) (fun w hSw => run_load_hstp rfl rfl (KB0.out _ hSw)) hS (fun hS => ?_)
        try go_frame
        refine held_pure (i := 2) (oi := ⟨some 25, _, _, _, _, _⟩) rfl (by kernel_rfl) (by kernel_rfl) (by kernel_rfl) (fun _ _ _ h => h) (by rfl) (v := ?_) (fun w hSw => ?_) hS (fun hS => ?_)
        rotate_left
        · go_simp; try with_reducible rfl
        try go_frame
        refine held_pure (i := 3) (oi := ⟨some 26, _, _, _, _, _⟩) rfl (by kernel_rfl) (by kernel_rfl) (by kernel_rfl) (fun _ _ _ h => h) (by rfl) (fun w hSw => run_load_u64 rfl rfl (KB4.out _ hSw)) hS (fun hS => ?_)
        try go_frame
        refine held_pure (i := 5) (oi := ⟨some 28, _, _, _, _, _⟩) rfl (by kernel_rfl) (by kernel_rfl) (by kernel_rfl) (fun _ _ _ h => h) (by rfl) (v := ?_) (fun w hSw => ?_) hS (fun hS => ?_)
        rotate_left
        · go_simp; try with_reducible rfl
        try go_frame
        refine held_pure (i := 7) (oi := ⟨some 30, _, _, _, _, _⟩) rfl (by kernel_rfl) (by kernel_rfl) (by kernel_rfl) (fun _ _ _ h => h) (by rfl) (fun w hSw => run_load_hstp rfl rfl (KB0.out _ hSw)) hS (fun hS => ?_)
        try go_frame
        refine held_pure (i := 8) (oi := ⟨some 31, _, _, _, _, _⟩) rfl (by kernel_rfl) (by kernel_rfl) (by kernel_rfl) (fun _ _ _ h => h) (by rfl) (fun w hSw => run_load_int rfl rfl (KB1.out _ hSw)) hS (fun hS => ?_)
        try go_frame
        refine held_pure (i := 9) (oi := ⟨some 32, _, _, _, _, _⟩) rfl (by kernel_rfl) (by kernel_rfl) (by kernel_rfl) (fun _ _ _ h => h) (by rfl) (v := ?_) (fun w hSw => ?_) hS (fun hS => ?_)
        rotate_left
        · go_simp; try with_reducible rfl
        try go_frame
        refine wpAnyH_ready (rs := [4]) (by kernel_rfl) (by simp) (AllReadyH.cons (o := ⟨some 27, _, _, _, _, _⟩) rfl (fun K hK => ?_) AllReadyH.nil)
        rw [if_pos (by rfl)]
        go_simp
        refine (hshome t b N N y.key _ (KBT.out _ hS) hN0 hN).mono ?_
        rintro e w4 ⟨rfl, rfl⟩
        show K _ _
        refine hK.out _ _ hS (fun hS => ?_)
        clear hK K
        try go_frame
        refine wpAnyH_ready (rs := [6]) (by kernel_rfl) (by simp) (AllReadyH.cons (o := ⟨some 29, _, _, _, _, _⟩) rfl (fun K hK => ?_) AllReadyH.nil)
        rw [if_pos (by rfl)]
        go_simp
        refine (hsway t b N N (hmN N y.key) p _ (KBT.out _ hS) hN0 hN hhy hpl').mono ?_
        rintro e w6 ⟨rfl, x6⟩
        show K _ _
        refine hK.out _ _ (below_step hS x6) (fun hS => ?_)
        clear hK K
        try go_frame
        refine wpAnyH_ready (rs := [10]) (by kernel_rfl) (by simp) (AllReadyH.cons (o := ⟨some 33, _, _, _, _, _⟩) rfl (fun K hK => ?_) AllReadyH.nil)
        rw [if_pos (by rfl)]
        go_simp
        refine (hsway t b N N g p _ (KBT.out _ hS) hN0 hN hgl hpl').mono ?_
        rintro e w10 ⟨rfl, x10⟩
        show K _ _
        refine hK.out _ _ (below_step hS x10) (fun hS => ?_)
        clear hK K
        try go_frame
        refine held_pure (i := 11) (oi := ⟨some 34, _, _, _, _, _⟩) rfl (by kernel_rfl) (by kernel_rfl) (by kernel_rfl) (fun _ _ _ h => h) (by rfl) (v := .bool false) (fun w hSw => by go_simp; try exact dW) hS (fun hS => ?_)
        try go_frame
        refine held_pure (i := 12) (oi := ⟨some 22, _, _, _, _, _⟩) rfl (by kernel_rfl) (by kernel_rfl) (by kernel_rfl) (fun _ _ _ h => h) (by rfl) (v := ?_) (fun w hSw => ?_) hS (fun hS => ?_)
        rotate_left
        · go_simp; try with_reducible rfl
        try go_frame
        refine wpAnyH_done (by kernel_rfl) ?_ _
        have hX2 : Below X.heap.size X w10 := bX1.trans (hS.mono (by omega))
        have hI2 := HI.out.below hX2
        gi_wp2
        refine ⟨keepsB hX2, KeepC.of_cel HI.out.cel hI2.cel, A, g, ?_⟩
        rw [List.length_append]
        exact ⟨hI2.hs, hI2.len, hI2.b0, hI2.b1, hI2.clo.stay (by rw [List.length_set, hI2.len]; exact HO.out) HVP.out HB.out, hI2.pm, hI2.cel, hI2.kp⟩
  case done =>
    rintro D xs X hD hS ⟨A, g, hI⟩ hK
    have := hI.pos.1
    rw [hS, List.length_map, List.length_range] at this
    omega
  case stop =>
    rintro D cd pre X hD _ ⟨rfl, A, g, hX⟩ hK
    have hm1 : Marks w7.heap.size X.heap.size [{ target := .collected D, args := #[] }] X := (Marks.push (hi := D) (ds := []) trivial (Nat.le_refl _) hD hK).more (heap_lt hK)
    have hA := hX.hs.arr
    have hgA : g < A.length := by rw [hX.len]; exact hX.gl
    have KD0 : Hid (∀ V, Kept (fun k => k = b) X V → V.cell? ⟨w.heap.size, 0, none⟩ = some (.pointer (some ⟨t, 0, none⟩))) := Lib.hid fun V hV => Boxed.cell (Boxed.keptH hX.b0 hV (by omega))
    have KD1 : Hid (∀ V, Kept (fun k => k = b) X V → V.cell? ⟨w.heap.size + 1, 0, none⟩ = some (.int .i64 (g : Int))) := Lib.hid fun V hV => Boxed.cell (Boxed.keptH hX.b1 hV (by omega))
    have KDT : Hid (∀ V, Kept (fun k => k = b) X V → V.cell? ⟨t, 0, none⟩ = some (.slice (some ⟨b, 0, none⟩) N N)) := Lib.hid fun V hV => (World.cell?_of_block (hV.block t (cell_block hX.cel.2.2) htb)).trans hX.cel.2.2
    have HXX := Lib.hid hX
    have hgN := hX.gl
    clear hX hI0 hseq hK
    gi_upto_region 8 with fail
    refine wpIn_mono (Q := noPanic _) ?_ noPanic_to
    refine regionI (S := Kept (fun k => k = b) X) (by kernel_rfl) (Kept.drew X) (fun hS => ?_)
    refine pureI (i := 0) (oi := ⟨some 43, _, _, _, _, _⟩) rfl (by kernel_rfl) (by kernel_rfl) (by kernel_rfl) (fun _ _ _ h => h) (by rfl) (fun w hSw => run_load_hstp rfl rfl (KD0.out _ hSw)) hS (fun hS => ?_)
    try go_frame
    refine pureI (i := 1) (oi := ⟨some 44, _, _, _, _, _⟩) rfl (by kernel_rfl) (by kernel_rfl) (by kernel_rfl) (fun _ _ _ h => h) (by rfl) (v := ?_) (fun w hSw => ?_) hS (fun hS => ?_)
    rotate_left
    · go_simp; try with_reducible rfl
    try go_frame
    refine pureI (i := 2) (oi := ⟨some 45, _, _, _, _, _⟩) rfl (by kernel_rfl) (by kernel_rfl) (by kernel_rfl) (fun _ _ _ h => h) (by rfl) (v := ?_) (fun w hSw => ?_) hS (fun hS => ?_)
    rotate_left
    · go_simp; try with_reducible rfl
    try go_frame
    refine pureI (i := 3) (oi := ⟨some 46, _, _, _, _, _⟩) rfl (by kernel_rfl) (by kernel_rfl) (by kernel_rfl) (fun _ _ _ h => h) (by rfl) (fun w hSw => run_load_hsar rfl rfl (KDT.out _ hSw)) hS (fun hS => ?_)
    try go_frame
    refine pureI (i := 4) (oi := ⟨some 47, _, _, _, _, _⟩) rfl (by kernel_rfl) (by kernel_rfl) (by kernel_rfl) (fun _ _ _ h => h) (by rfl) (fun w hSw => run_load_int rfl rfl (KD1.out _ hSw)) hS (fun hS => ?_)
    try go_frame
    refine pureI (i := 5) (oi := ⟨some 48, _, _, _, _, _⟩) rfl (by kernel_rfl) (by kernel_rfl) (by kernel_rfl) (fun _ _ _ h => h) (by rfl) (v := .agg (clE none).toArray) (fun w hSw => by go_simp; rfl) hS (fun hS => ?_)
    try go_frame
    refine pureI (i := 6) (oi := ⟨some 49, _, _, _, _, _⟩) rfl (by kernel_rfl) (by kernel_rfl) (by kernel_rfl) (fun _ _ _ h => h) (by rfl) (v := ?_) (fun w hSw => ?_) hS (fun hS => ?_)
    rotate_left
    · go_simp; try with_reducible rfl
    try go_frame
    refine oneI (i := 7) (oi := ⟨none, _, _, _, _, _⟩) (by kernel_rfl) rfl (by rfl) (fun K hK => ?_)
    refine skipQ (run_storeH rfl rfl rfl (there_drew (hA.there hgA)) (clE_len none) (clE_one _)) ?_
    refine hK _ _ (keptN b X g) (fun hS => ?_)
    clear hK K
    try go_frame
    refine doneI (by kernel_rfl) ?_ _
    refine noPanic_normal ?_
    gi_wp2
    have hkn := keptN b X g
    refine leaves_marks w7.heap.size (fun Y => FreeOut w t b cnt most L g0 Y) (fun Y D hY h1 h2 => by obtain ⟨q, h3, h4, h5, h6, h7⟩ := hY; exact ⟨q, h3.kept (n := w7.heap.size) (grownBy_putObj' Y D _) (fun k e => by cases e; exact ⟨h1, _, h2, rfl⟩), h4, h5, h6, h7.turnH (n := w7.heap.size) (grownBy_putObj' Y D _) (fun k e => by cases e; exact ⟨h1, _, h2, rfl⟩) (by omega)⟩)
      (fun Y hY => ⟨_, results_none rfl _ _ _, rfl, hY⟩) _ _ _ (hm1.keep (fun k h1 h2 => hkn.block k h2 (by omega)))
      ⟨A.set g none, ⟨by rw [List.length_set]; exact (hkn.block t (heap_lt HXX.out.hs.tab) htb).trans HXX.out.hs.tab, (hA.keep (w' := X.drew) rfl).set hgA none⟩, by rw [List.length_set, HXX.out.len, HNE.out], by rw [List.length_set, HXX.out.len]; exact HXX.out.prb, by rw [← HE.out]; exact HXX.out.pm, HXX.out.kp.trans hkn (fun _ _ h => h)⟩
end
end Go.Proofs.YtafidbjaeopciaaDoor
