/-
  Contracts and lemmas on which the proofs of this seat stand (several texts in one). Conditions are each theorem's own.
-/
import Derived.Test.YtghbliabmecbcaaDoorMc7
import Derived.Lib.UnsafeStr
import Derived.Lib.BufferWrite
import Derived.Test.YtghbliabmecbcaaDoorMc2
import Derived.Deep.Slices

/-
  free of layer 18's code. Conditions are each theorem's own.
-/
namespace Go.Proofs.YtghbliabmecbcaaDoor
open Go.RowKit Go.Shelf
attribute [local go_sem] Oper.semAt_some

theorem keptN (b : Nat) (X : World) (p : Nat) : Kept (fun k => k = b) X (X.drew.setCells b (p * 4) (clE none)) :=
  (Kept.drew X).trans (Kept.setCells b _ _ _) (fun _ _ h => h)
theorem run_storeH {o : Oper} {a : Act} {w : World} {x y : Operand} {b i : Nat} {cs : List Value} (ho : o.op = .store 88 x y) (hx : a.eval x = .pointer (some ⟨b, i, none⟩)) (hy : a.eval y = .agg cs.toArray) (ht : w.there b i 4) (hl : cs.length = 4) (h1 : cs.toArray.all (·.oneCell') = true) :
    (execOp a.eval o).run Tryd.prog w = .ok .skip (w.setCells b i cs) := by
  have hst := run_storeVar_mid (P := Tryd.prog) w b i 88 cs.toArray (by rw [List.size_toArray, hl]; exact ht) (by rw [List.size_toArray, hl]; kernel_rfl) h1
  unfold execOp
  simp only [ho, hx, hy, Instr.storeAt, Instr.sureAddr, Sem.run_bind, Sem.run_pure, Result.andThen_ok, hst]
theorem run_storehsp {o : Oper} {a : Act} {w : World} {x y : Operand} {g t : Nat} {cs old : Array Value} (ho : o.op = .store 88 x y) (hx : a.eval x = .pointer (some ⟨g, 0, none⟩)) (hy : a.eval y = .agg cs) (hg : w.heap[g]? = some (.cells old t (0, 0))) (hold : old.size = 4) (hl : cs.size = 4) (h1 : cs.all (·.oneCell') = true) :
    (execOp a.eval o).run Tryd.prog w = .ok .skip (w.setRow g cs) := by
  have h := run_storeVar_row (P := Tryd.prog) w g t 88 old cs hg (by rw [hl]; kernel_rfl) (by rw [hold, hl]) h1
  unfold execOp
  simp only [ho, hx, hy, Instr.storeAt, Instr.sureAddr, Sem.run_bind, Sem.run_pure, Result.andThen_ok, h]
theorem skipQ {n : Nat} {P : Program} {Q : Exit → Act → World → Prop} {o : Oper} {a : Act} {w w' : World} {K : Act → World → Prop} (hrun : (execOp a.eval o).run P w = .ok .skip w') (h : K (a.put o.dst undef) w') : o.wpIn Fence.wide n P a w K Q :=
  ⟨fun _ _ => trivial, by rw [show Fence.wide.round = none from rfl, Oper.semAt_none, hrun]; exact h⟩
theorem Cel3.belowH {g1 g2 t b N fr n : Nat} {W V : World} (h : Cel3 g1 g2 t b N fr W) (hb : Below n W V) (hn : W.heap.size ≤ n) : Cel3 g1 g2 t b N fr V :=
  h.below hb (Nat.lt_of_lt_of_le (cell_block h.1) hn) (Nat.lt_of_lt_of_le (cell_block h.2.1) hn) (Nat.lt_of_lt_of_le (cell_block h.2.2) hn)
/-- Where free is, behind r rounds. -/
structure FrI (w : World) (t b N g0 B g1 : Nat) (cnt most : Int) (E : List Ent) (r : Nat) (X : World) (A : List (Option Ent)) (g : Nat) : Prop where
  hs : Hs X t b cnt most A
  len : A.length = N
  b0 : Boxed X B 53 (.pointer (some ⟨t, 0, none⟩))
  b1 : Boxed X (B + 1) 3 (.int .i64 (g : Int))
  clo : Clo (hmN N) g0 (A.set g none) g r
  pm : (ents (A.set g none)).Perm E
  cel : Cel3 g1 (g1 + 1) t b N (g0 + 1) X
  kp : Kept (fun k => k = b) w X
/-- Where free leaves its loop. -/
structure FrX (w : World) (t b N B g1 g0 : Nat) (cnt most : Int) (E : List Ent) (X : World) (A : List (Option Ent)) (g : Nat) : Prop where
  hs : Hs X t b cnt most A
  len : A.length = N
  gl : g < N
  b0 : Boxed X B 53 (.pointer (some ⟨t, 0, none⟩))
  b1 : Boxed X (B + 1) 3 (.int .i64 (g : Int))
  prb : Prb (hmN N) (A.set g none)
  pm : (ents (A.set g none)).Perm E
  cel : Cel3 g1 (g1 + 1) t b N (g0 + 1) X
  kp : Kept (fun k => k = b) w X
section
variable {w X V : World} {t b N g0 B g1 g r n : Nat} {cnt most : Int} {E : List Ent} {A : List (Option Ent)} {row : Option Nat}
theorem FrI.kept (h : FrI w t b N g0 B g1 cnt most E r X A g) (hg : X.grownBy V row) (hr : ∀ k, row = some k → n ≤ k ∧ ∃ o : Obj, X.heap[k]? = some o ∧ o.isCells = false) (hn : w.heap.size ≤ n) : FrI w t b N g0 B g1 cnt most E r V A g :=
  ⟨h.hs.kept hg hr, h.len, box_keep h.b0 hg hr, box_keep h.b1 hg hr, h.clo, h.pm, h.cel.kept hg hr, h.kp.turnH hg hr hn⟩
theorem FrX.kept (h : FrX w t b N B g1 g0 cnt most E X A g) (hg : X.grownBy V row) (hr : ∀ k, row = some k → n ≤ k ∧ ∃ o : Obj, X.heap[k]? = some o ∧ o.isCells = false) (hn : w.heap.size ≤ n) : FrX w t b N B g1 g0 cnt most E V A g :=
  ⟨h.hs.kept hg hr, h.len, h.gl, box_keep h.b0 hg hr, box_keep h.b1 hg hr, h.prb, h.pm, h.cel.kept hg hr, h.kp.turnH hg hr hn⟩
theorem FrI.below (h : FrI w t b N g0 B g1 cnt most E r X A g) (hb : Below X.heap.size X V) : FrI w t b N g0 B g1 cnt most E r V A g :=
  ⟨h.hs.below hb, h.len, Boxed.below h.b0 hb (heap_lt (show X.heap[B]? = _ from h.b0)), Boxed.below h.b1 hb (heap_lt (show X.heap[B + 1]? = _ from h.b1)), h.clo, h.pm, h.cel.belowH hb (Nat.le_refl _), h.kp.then_below hb⟩
theorem FrI.ends (h : FrI w t b N g0 B g1 cnt most E r X A g) {p : Nat} (hp : p < N) (hat : offs N g0 p = r + 1) (hn : plH A p = none) : FrX w t b N B g1 g0 cnt most E X A g := by
  have hl : (A.set g none).length = N := by rw [List.length_set]; exact h.len
  have hgl := h.clo.gl
  rw [hl] at hgl
  refine ⟨h.hs, h.len, hgl, h.b0, h.b1, h.clo.ends (a := p) (by rw [hl]; exact hp) (by rw [hl]; exact hat) ?_, h.pm, h.cel, h.kp⟩
  rw [plH_set (by rw [h.len]; exact hgl), hn]; split <;> rfl
theorem FrI.pos (h : FrI w t b N g0 B g1 cnt most E r X A g) : r + 1 < N ∧ g < N ∧ g0 < N ∧ offs N g0 g ≤ r := by
  have hl : (A.set g none).length = N := by rw [List.length_set]; exact h.len
  have h1 := h.clo.round
  have h2 := h.clo.gl
  have h3 := h.clo.gz
  have h4 := h.clo.gr
  rw [hl] at h1 h2 h3 h4
  exact ⟨h1, h2, h3, h4⟩
theorem FrI.at_ (h : FrI w t b N g0 B g1 cnt most E r X A g) {p : Nat} {y : Ent} (hat : offs N g0 p = r + 1) (hp : plH A p = some y) : plH (A.set g none) p = some y ∧ g ≠ p := by
  obtain ⟨_, h2, h3, h4⟩ := h.pos
  have hne : g ≠ p := fun e => by rw [e] at h4; omega
  exact ⟨by rw [plH_set (by rw [h.len]; exact h2), if_neg hne]; exact hp, hne⟩
end
theorem Boxed.keptH {X V : World} {c B : Nat} {T : TypeId} {v : Value} (h : Boxed X B T v) (k : Kept (fun k => k = c) X V) (hne : B ≠ c) : Boxed V B T v := (k.block B (heap_lt (show X.heap[B]? = _ from h)) hne).trans h
theorem keepsB {D : Nat} {X Y : World} (h : Below X.heap.size X Y) : KeepsFrom D X Y := ⟨h.size, fun k _ _ hk _ => (h.block k (heap_lt hk)).trans hk⟩
theorem KeepC.of_cel {g1 g2 t b N fr : Nat} {X Y : World} (h1 : Cel3 g1 g2 t b N fr X) (h2 : Cel3 g1 g2 t b N fr Y) : KeepC (ps3 g1 g2 t) X Y := fun q hq => by
  simp only [ps3, List.mem_cons, List.not_mem_nil, or_false] at hq
  rcases hq with rfl | rfl | rfl
  · exact h2.1.trans h1.1.symm
  · exact h2.2.1.trans h1.2.1.symm
  · exact h2.2.2.trans h1.2.2.symm
/-- What free leaves. -/
def FreeOut (w : World) (t b : Nat) (cnt most : Int) (L : List (Option Ent)) (g0 : Nat) (w' : World) : Prop :=
  ∃ L', Hs w' t b cnt most L' ∧ L'.length = L.length ∧ Prb (hmN L'.length) L' ∧ (ents L').Perm (ents (L.set g0 none)) ∧ Kept (fun k => k = b) w w'
section
variable {w : World} {t b : Nat} {cnt most : Int} {L : List (Option Ent)}
set_option maxRecDepth 100000 in
set_option maxHeartbeats 8000000 in
theorem hsfree (h : Hs w t b cnt most L) (hP : Prb (hmN L.length) L) (g0 : Nat) (x0 : Ent) (hx0 : plH L g0 = some x0) (hN : L.length ≤ 1000000) (hfree : ∃ i, i < L.length ∧ plH L i = none) :
    Calls Tryd.prog 49 #[.pointer (some ⟨t, 0, none⟩), .int .i64 (g0 : Int)] w fun e w' => e = .returned (.tuple #[]) ∧ FreeOut w t b cnt most L g0 w' := by
  obtain ⟨N, hNe⟩ : ∃ N, N = L.length := ⟨_, rfl⟩
  obtain ⟨E, hE⟩ : ∃ E, E = ents (L.set g0 none) := ⟨_, rfl⟩
  have hg0 := plH_lt hx0
  have hclo := hP.close hx0 hfree
  have HH := Lib.hid h
  have htl := heap_lt h.tab
  have hbl := h.arr.lt
  have htb := h.ne
  have kt0 := h.c0
  have hN0 : 0 < L.length := by omega
  have HPH := Lib.hid hP.home
  rw [← hNe] at hN hN0 hg0 hclo kt0 HPH
  have HNE := Lib.hid hNe
  have HE := Lib.hid hE
  have HC := Lib.hid hclo
  clear h hfree hP hx0 hNe hE hclo
  refine (callsIn_wide (n := 4)).1 ?_
  refine callsIn_of_wp_marks Tryd.func49 rfl trivial ?_ rfl
  simp only [Tryd.ntmps49, List.size_toArray, List.length_cons, List.length_nil, Nat.reduceAdd, Nat.reduceSub, Array.replicate_succ, Array.replicate_zero, List.push_toArray, List.append_toArray, List.nil_append, List.cons_append]
  gi_wp2
  refine wpIn_wide.2 (wp_scope_straight ((wpIn_wide (n := 4)).1 ?_))
  gi_wp2
  refine wpIn_wide.2 (wp_label ?_)
  obtain ⟨W, hW⟩ : ∃ W, W = (w.alloc (.cells #[.pointer (some ⟨t, 0, none⟩)] 53)).alloc (.cells #[.int .i64 (g0 : Int)] 3) := ⟨_, rfl⟩
  have hBW : Below w.heap.size w W := places_below hW
  have hWz : W.heap.size ≤ w.heap.size + 2 ∧ w.heap.size + 2 ≤ W.heap.size := by rw [hW]; simp
  have hb0 : Boxed W w.heap.size 53 (.pointer (some ⟨t, 0, none⟩)) := by rw [hW]; exact (Boxed.new w _ _).alloc _
  have hb1 : Boxed W (w.heap.size + 1) 3 (.int .i64 (g0 : Int)) := by
    have := Boxed.new (w.alloc (.cells #[.pointer (some ⟨t, 0, none⟩)] 53)) 3 (.int .i64 (g0 : Int))
    rw [World.size_alloc] at this
    rw [hW]; exact this
  have ktW : W.cell? ⟨t, 0, none⟩ = some (.slice (some ⟨b, 0, none⟩) N N) := (hBW.cell (p := ⟨t, 0, none⟩) htl).trans kt0
  rw [← hW]
  clear hW
  have kb0 := Boxed.cell hb0
  have kb1 := Boxed.cell hb1
  gi_wp2_with (refine ⟨trivial, ?_⟩; gi_at_call 54; refine (callsIn_wide.2 (hsplaces t (g0 + 1) W)).mono ?_; rintro e w7 ⟨rfl, hw7'⟩; have HW7 := Lib.hid hw7'; clear hw7')
  have hw7 := HW7.out
  have hb7 := places_below hw7
  have hseq := places_seq _ _ t b N (g0 + 1) hw7 ktW hN hg0 (4 - 1)
  have hC7 := places_cel hw7 ktW
  have hz7 : w7.heap.size = W.heap.size + 2 := by rw [hw7]; simp
  have hI0 : FrI w t b N g0 w.heap.size W.heap.size cnt most E 0 w7 L g0 := ⟨(HH.out.below hBW).below hb7, HNE.out.symm, Boxed.below hb0 hb7 (by omega), Boxed.below hb1 hb7 (by omega), HC.out, by rw [HE.out], hC7, (Kept.of_below hBW).then_below hb7⟩
  clear hw7 HW7 hb7 ktW kb0 kb1 hC7 hBW hb0 hb1
  generalize W.heap.size = g1 at *
  refine range_safe (by omega) (gf := 63) (lb := #[.pointer (some ⟨g1, 0, none⟩), .pointer (some ⟨g1 + 1, 0, none⟩)]) rfl (enters_of Tryd.func63 (by kernel_rfl) rfl)
    hseq KeepC.trans (fun V l r r' hl hr => KeepC.loop hr) (Below.refl _ _) (fun _ => rfl)
    (fun pre x V l r r' h _ hl => h)
    (fun pre X => ∃ A g, FrI w t b N g0 w.heap.size g1 cnt most E pre.length X A g)
    (fun cd _ X => cd = .exit 0 ∧ ∃ A g, FrX w t b N w.heap.size g1 g0 cnt most E X A g)
    (fun pre X Y r hs hg hr => by obtain ⟨A, g, h⟩ := hs; exact ⟨A, g, h.kept hg hr (by omega)⟩)
    (fun cd pre X Y r hs hg hr => by obtain ⟨h1, A, g, h⟩ := hs; exact ⟨h1, A, g, h.kept hg hr (by omega)⟩)
    (fun cd pre X h => by obtain ⟨_, A, g, h⟩ := h; exact h.cel)
    ⟨L, g0, hI0⟩
    (fun p => { tmps := #[.pointer (some ⟨t, 0, none⟩), .int .i64 (g0 : Int), .pointer (some ⟨w.heap.size, 0, none⟩), .pointer (some ⟨w.heap.size + 1, 0, none⟩), .int .i64 (p : Int), undef, .pointer (some ⟨t, 0, none⟩), .int .i64 (g0 : Int), .int .i64 ((g0 : Int) + 1), .func (.func 63) #[] #[.pointer (some ⟨g1, 0, none⟩), .pointer (some ⟨g1 + 1, 0, none⟩)], .int .i64 (p : Int), undef, undef, undef, undef, undef, undef, undef, undef, undef, undef, undef, undef, undef, undef, undef, undef, undef, undef, undef, undef, undef, undef, undef, undef, undef, undef, undef, undef, undef, undef, undef, undef, undef, undef, undef, undef, undef, undef, undef], defers := [] }) ?assign ?body ?done ?stop
  case assign =>
    intro l p X K hK
    dsimp only [encP]
    gi_wp2
    exact hK
  case body =>
    rintro l pre p X ⟨A, g, hI⟩ ⟨hx, hpl⟩
    obtain ⟨hr1, hgl, _, hgr⟩ := hI.pos
    obtain ⟨hoff, hpl'⟩ := offs_rnd hg0 hr1
    rw [← hx] at hoff hpl'
    have hAl := hI.len
    have hgA : g < A.length := by rw [hAl]; exact hgl
    have hpA : p < A.length := by rw [hAl]; exact hpl'
    have hrow := hI.hs.at_ (plH_get hpA)
    have kb0 := Boxed.cell hI.b0
    have kb1 := Boxed.cell hI.b1
    have kt := hI.cel.2.2
    have hXb0 := heap_lt (show X.heap[w.heap.size]? = _ from hI.b0)
    have hXb1 := heap_lt (show X.heap[w.heap.size + 1]? = _ from hI.b1)
    have HI := Lib.hid hI
    have HO := Lib.hid hoff
    have HAL := Lib.hid hAl
    obtain ⟨X1, hX1⟩ : ∃ X1, X1 = X.alloc (.cells (clE (plH A p)).toArray 88) := ⟨_, rfl⟩
    have HX1 := Lib.hid hX1
    have bX1 : Below X.heap.size X X1 := by rw [hX1]; exact (Below.refl _ X).alloc (Nat.le_refl _) _
    have hz1 : X1.heap.size = X.heap.size + 1 := by rw [hX1]; simp
    have hbX1 : X1.heap[X.heap.size]? = some (.cells (clE (plH A p)).toArray 88 (0, 0)) := by rw [hX1]; exact World.alloc_heap_new X _
    have K1 : KeepsOthers X X1 := by rw [hX1]; exact KeepsOthers.alloc X _
    have KC1' := Lib.hid (KeepC.of_below (ps := ps3 g1 (g1 + 1) t) bX1 (fun q hq => by have h1 := cell_block hI.cel.1; have h2 := cell_block hI.cel.2.1; have h3 := cell_block hI.cel.2.2; simp only [ps3, List.mem_cons, List.not_mem_nil, or_false] at hq; rcases hq with rfl | rfl | rfl <;> assumption))
    clear hI hx hX1 hoff hAl hpl hI0 hseq
    cases hp : plH A p with
    | none =>
      rw [hp] at hrow hbX1 HX1
      have kx0 : X1.cell? ⟨X.heap.size, 0, none⟩ = some (.bool false) := cells_at (i := 0) hbX1 rfl
      have HP := Lib.hid hp
      clear hp
      gi_wp2_with (first
        | ((with_reducible show wpListIn _ _ _ _ _ (Oper.mk _ (Op.load 88 _) _ _ _ _ :: _) _ _); refine listR_val rfl (fun c h => by cases h) (run_load_hsp rfl rfl hrow rfl) ?_)
        | ((with_reducible show wpListIn _ _ _ _ _ (Oper.mk _ (Op.store 88 _ _) _ _ _ _ :: _) _ _); refine listR_skip rfl (fun c h => by cases h) (run_storehsp (cs := (clE none).toArray) rfl rfl rfl (World.alloc_heap_new X _) rfl rfl (clE_one _)) ?_; rw [World.setRow_alloc_new]; rw [← HX1.out]))
      exact ⟨K1.from _, rfl, A, g, (HI.out.below bX1).ends hpl' HO.out HP.out⟩
    | some y =>
      rw [hp] at hrow hbX1 HX1
      have kx0 : X1.cell? ⟨X.heap.size, 0, none⟩ = some (.bool true) := cells_at (i := 0) hbX1 rfl
      obtain ⟨hVp, hgp⟩ := HI.out.at_ HO.out hp
      have HVP := Lib.hid hVp
      have hhy := HPH.out y.key
      have hWB := way_btw hhy hpl' hgl hgp
      have hC1 := HI.out.cel.belowH bX1 (Nat.le_refl _)
      have KB0 : Hid (∀ V, Below X1.heap.size X1 V → V.cell? ⟨w.heap.size, 0, none⟩ = some (.pointer (some ⟨t, 0, none⟩))) := Lib.hid fun V hV => (hV.cell (p := ⟨w.heap.size, 0, none⟩) (by show w.heap.size < _; omega)).trans ((bX1.cell (p := ⟨w.heap.size, 0, none⟩) hXb0).trans kb0)
      have KB1 : Hid (∀ V, Below X1.heap.size X1 V → V.cell? ⟨w.heap.size + 1, 0, none⟩ = some (.int .i64 (g : Int))) := Lib.hid fun V hV => (hV.cell (p := ⟨w.heap.size + 1, 0, none⟩) (by show w.heap.size + 1 < _; omega)).trans ((bX1.cell (p := ⟨w.heap.size + 1, 0, none⟩) hXb1).trans kb1)
      have KB4 : Hid (∀ V, Below X1.heap.size X1 V → V.cell? ⟨X.heap.size, 1, none⟩ = some (.int .u64 (mkOf y.key))) := Lib.hid fun V hV => (hV.cell (p := ⟨X.heap.size, 1, none⟩) (by show X.heap.size < _; omega)).trans (cells_at (i := 1) hbX1 rfl)
      have KBT : Hid (∀ V, Below X1.heap.size X1 V → V.cell? ⟨t, 0, none⟩ = some (.slice (some ⟨b, 0, none⟩) N N)) := Lib.hid fun V hV => (hV.cell (p := ⟨t, 0, none⟩) (cell_block hC1.2.2)).trans hC1.2.2
      have HC1 := Lib.hid hC1
      clear hp hVp hC1
      by_cases hb : Btw (hmN N y.key) p g
      · have hle := hWB.2 hb
        have HB := Lib.hid hb
        have dW : decide (((wayF N g p : Nat) : Int) ≤ ((wayF N (hmN N y.key) p : Nat) : Int)) = true := decide_eq_true (by omega)
        have dWn : wayF N g p ≤ wayF N (hmN N y.key) p := hle
        clear hWB hle hb
        gi_wp2_with (first
          | ((with_reducible show wpListIn _ _ _ _ _ (Oper.mk _ (Op.load 88 _) _ _ _ _ :: _) _ _); refine listR_val rfl (fun c h => by cases h) (run_load_hsp rfl rfl hrow rfl) ?_)
          | ((with_reducible show wpListIn _ _ _ _ _ (Oper.mk _ (Op.store 88 _ _) _ _ _ _ :: _) _ _); refine listR_skip rfl (fun c h => by cases h) (run_storehsp (cs := (clE (some y)).toArray) rfl rfl rfl (World.alloc_heap_new X _) rfl rfl (clE_one _)) ?_; rw [World.setRow_alloc_new]; rw [← HX1.out]))
        refine region_roundH (S := fun V => Below X1.heap.size X1 V) (by kernel_rfl) (by kernel_rfl) (fun h => by obtain ⟨_, _, h⟩ := h; exact h) (Below.refl _ X1).drew (fun hS => ?_)
        refine held_pure (i := 0) (oi := ⟨some 23, _, _, _, _, _⟩) rfl (by kernel_rfl) (by kernel_rfl) (by kernel_rfl) (fun _ _ _ h => h) (by rfl) (fun w hSw => run_load_hstp rfl rfl (KB0.out _ hSw)) hS (fun hS => ?_)
        try go_frame
        refine held_pure (i := 1) (oi := ⟨some 24, _, _, _, _, _⟩) rfl (by kernel_rfl) (by kernel_rfl) (by kernel_rfl) (fun _ _ _ h => h) (by rfl) (fun w hSw => run_load_hstp rfl rfl (KB0.out _ hSw)) hS (fun hS => ?_)
        try go_frame
        refine held_pure (i := 2) (oi := ⟨some 25, _, _, _, _, _⟩) rfl (by kernel_rfl) (by kernel_rfl) (by kernel_rfl) (fun _ _ _ h => h) (by rfl) (v := ?_) (fun w hSw => ?_) hS (fun hS => ?_)
        rotate_left
        · go_simp; try with_reducible rfl
        try go_frame
        refine held_pure (i := 3) (oi := ⟨some 26, _, _, _, _, _⟩) rfl (by kernel_rfl) (by kernel_rfl) (by kernel_rfl) (fun _ _ _ h => h) (by rfl) (fun w hSw => run_load_u64 rfl rfl (KB4.out _ hSw)) hS (fun hS => ?_)
        try go_frame
        refine held_pure (i := 5) (oi := ⟨some 28, _, _, _, _, _⟩) rfl (by kernel_rfl) (by kernel_rfl) (by kernel_rfl) (fun _ _ _ h => h) (by rfl) (v := ?_) (fun w hSw => ?_) hS (fun hS => ?_)
        rotate_left
        · go_simp; try with_reducible rfl
        try go_frame
        refine held_pure (i := 7) (oi := ⟨some 30, _, _, _, _, _⟩) rfl (by kernel_rfl) (by kernel_rfl) (by kernel_rfl) (fun _ _ _ h => h) (by rfl) (fun w hSw => run_load_hstp rfl rfl (KB0.out _ hSw)) hS (fun hS => ?_)
        try go_frame
        refine held_pure (i := 8) (oi := ⟨some 31, _, _, _, _, _⟩) rfl (by kernel_rfl) (by kernel_rfl) (by kernel_rfl) (fun _ _ _ h => h) (by rfl) (fun w hSw => run_load_int rfl rfl (KB1.out _ hSw)) hS (fun hS => ?_)
        try go_frame
        refine held_pure (i := 9) (oi := ⟨some 32, _, _, _, _, _⟩) rfl (by kernel_rfl) (by kernel_rfl) (by kernel_rfl) (fun _ _ _ h => h) (by rfl) (v := ?_) (fun w hSw => ?_) hS (fun hS => ?_)
        rotate_left
        · go_simp; try with_reducible rfl
        try go_frame
        refine wpAnyH_ready (rs := [4]) (by kernel_rfl) (by simp) (AllReadyH.cons (o := ⟨some 27, _, _, _, _, _⟩) rfl (fun K hK => ?_) AllReadyH.nil)
        rw [if_pos (by rfl)]
        go_simp
        refine (hshome t b N N y.key _ (KBT.out _ hS) hN0 hN).mono ?_
        rintro e w4 ⟨rfl, rfl⟩
        show K _ _
        refine hK.out _ _ hS (fun hS => ?_)
        clear hK K
        try go_frame
        refine wpAnyH_ready (rs := [6]) (by kernel_rfl) (by simp) (AllReadyH.cons (o := ⟨some 29, _, _, _, _, _⟩) rfl (fun K hK => ?_) AllReadyH.nil)
        rw [if_pos (by rfl)]
        go_simp
        refine (hsway t b N N (hmN N y.key) p _ (KBT.out _ hS) hN0 hN hhy hpl').mono ?_
        rintro e w6 ⟨rfl, x6⟩
        show K _ _
        refine hK.out _ _ (below_step hS x6) (fun hS => ?_)
        clear hK K
        try go_frame
        refine wpAnyH_ready (rs := [10]) (by kernel_rfl) (by simp) (AllReadyH.cons (o := ⟨some 33, _, _, _, _, _⟩) rfl (fun K hK => ?_) AllReadyH.nil)
        rw [if_pos (by rfl)]
        go_simp
        refine (hsway t b N N g p _ (KBT.out _ hS) hN0 hN hgl hpl').mono ?_
        rintro e w10 ⟨rfl, x10⟩
        show K _ _
        refine hK.out _ _ (below_step hS x10) (fun hS => ?_)
        clear hK K
        try go_frame
        refine held_pure (i := 11) (oi := ⟨some 34, _, _, _, _, _⟩) rfl (by kernel_rfl) (by kernel_rfl) (by kernel_rfl) (fun _ _ _ h => h) (by rfl) (v := .bool true) (fun w hSw => by go_simp; try exact dW) hS (fun hS => ?_)
        try go_frame
        refine held_pure (i := 12) (oi := ⟨some 22, _, _, _, _, _⟩) rfl (by kernel_rfl) (by kernel_rfl) (by kernel_rfl) (fun _ _ _ h => h) (by rfl) (v := ?_) (fun w hSw => ?_) hS (fun hS => ?_)
        rotate_left
        · go_simp; try with_reducible rfl
        try go_frame
        refine wpAnyH_done (by kernel_rfl) ?_ _
        obtain ⟨X2, hX2e⟩ : ∃ X2, X2 = w10 := ⟨_, rfl⟩
        subst hX2e
        have hX2 : Below X.heap.size X X2 := bX1.trans (hS.mono (by omega))
        have HI2 := Lib.hid (HI.out.below hX2)
        have hA2 := HI2.out.hs.arr
        have hz2 := hX2.size
        have hz3 := hS.size
        have hb15 : X2.heap[X.heap.size]? = some (.cells (clE (some y)).toArray 88 (0, 0)) := (hS.block X.heap.size (by omega)).trans hbX1
        have KC0 : Hid (∀ V, Kept (fun k => k = b) X2 V → V.cell? ⟨w.heap.size, 0, none⟩ = some (.pointer (some ⟨t, 0, none⟩))) := Lib.hid fun V hV => Boxed.cell (Boxed.keptH HI2.out.b0 hV (by omega))
        have KC1 : Hid (∀ V, Kept (fun k => k = b) X2 V → V.cell? ⟨w.heap.size + 1, 0, none⟩ = some (.int .i64 (g : Int))) := Lib.hid fun V hV => Boxed.cell (Boxed.keptH HI2.out.b1 hV (by omega))
        have KCT : Hid (∀ V, Kept (fun k => k = b) X2 V → V.cell? ⟨t, 0, none⟩ = some (.slice (some ⟨b, 0, none⟩) N N)) := Lib.hid fun V hV => (World.cell?_of_block (hV.block t (cell_block HI2.out.cel.2.2) htb)).trans HI2.out.cel.2.2
        have KC5 : Hid (∀ V, Kept (fun k => k = b) X2 V → V.rangeAt X.heap.size 0 (clE (some y))) := Lib.hid fun V hV => range_heap ((hV.block X.heap.size (by omega) (by omega)).trans hb15)
        have hk3 := keptR b X2 g y
        have hb3 := Boxed.keptH HI2.out.b1 hk3 (by omega)
        have kb3 : (X2.drew.setCells b (g * 4) (clE (some y))).cell? ⟨w.heap.size + 1, 0, none⟩ = some (.int .i64 (g : Int)) := Boxed.cell hb3
        have kf3 : (X2.drew.setCells b (g * 4) (clE (some y))).frozen? ⟨w.heap.size + 1, 0, none⟩ = false := Boxed.frozen hb3
        clear KB0 KB1 KB4 KBT kx0 hrow kb0 kb1 kt hbX1 x6 x10 hb15
        gi_upto_region 6 with fail
        refine region_roundH (S := Kept (fun k => k = b) X2) (by kernel_rfl) (by kernel_rfl) (fun h => by obtain ⟨_, _, h⟩ := h; exact h) (Kept.drew X2) (fun hS => ?_)
        refine held_pure (i := 0) (oi := ⟨some 35, _, _, _, _, _⟩) rfl (by kernel_rfl) (by kernel_rfl) (by kernel_rfl) (fun _ _ _ h => h) (by rfl) (fun w hSw => run_load_hstp rfl rfl (KC0.out _ hSw)) hS (fun hS => ?_)
        try go_frame
        refine held_pure (i := 1) (oi := ⟨some 36, _, _, _, _, _⟩) rfl (by kernel_rfl) (by kernel_rfl) (by kernel_rfl) (fun _ _ _ h => h) (by rfl) (v := ?_) (fun w hSw => ?_) hS (fun hS => ?_)
        rotate_left
        · go_simp; try with_reducible rfl
        try go_frame
        refine held_pure (i := 2) (oi := ⟨some 37, _, _, _, _, _⟩) rfl (by kernel_rfl) (by kernel_rfl) (by kernel_rfl) (fun _ _ _ h => h) (by rfl) (v := ?_) (fun w hSw => ?_) hS (fun hS => ?_)
        rotate_left
        · go_simp; try with_reducible rfl
        try go_frame
        refine held_pure (i := 3) (oi := ⟨some 38, _, _, _, _, _⟩) rfl (by kernel_rfl) (by kernel_rfl) (by kernel_rfl) (fun _ _ _ h => h) (by rfl) (fun w hSw => run_load_hsar rfl rfl (KCT.out _ hSw)) hS (fun hS => ?_)
        try go_frame
        refine held_pure (i := 4) (oi := ⟨some 39, _, _, _, _, _⟩) rfl (by kernel_rfl) (by kernel_rfl) (by kernel_rfl) (fun _ _ _ h => h) (by rfl) (fun w hSw => run_load_int rfl rfl (KC1.out _ hSw)) hS (fun hS => ?_)
        try go_frame
        refine held_pure (i := 5) (oi := ⟨some 40, _, _, _, _, _⟩) rfl (by kernel_rfl) (by kernel_rfl) (by kernel_rfl) (fun _ _ _ h => h) (by rfl) (fun w hSw => run_load_hsp rfl rfl (KC5.out _ hSw) rfl) hS (fun hS => ?_)
        try go_frame
        refine held_pure (i := 6) (oi := ⟨some 41, _, _, _, _, _⟩) rfl (by kernel_rfl) (by kernel_rfl) (by kernel_rfl) (fun _ _ _ h => h) (by rfl) (v := ?_) (fun w hSw => ?_) hS (fun hS => ?_)
        rotate_left
        · go_simp; try with_reducible rfl
        try go_frame
        refine wpAnyH_ready (rs := [7]) (by kernel_rfl) (by simp) (AllReadyH.cons (o := ⟨none, _, _, _, _, _⟩) rfl (fun K hK => ?_) AllReadyH.nil)
        rw [if_pos (by rfl)]
        refine wp_store_mid 88 _ _ rfl b (g * 4) (clE (some y)).toArray rfl rfl (there_drew (hA2.there hgA)) (by kernel_rfl) (clE_one _) ?_
        refine hK.out _ _ (keptR b X2 g y) (fun hS => ?_)
        clear hK K
        try go_frame
        refine wpAnyH_done (by kernel_rfl) ?_ _
        gi_wp2
        have hlt9 : t ≠ w.heap.size + 1 := by omega
        have hkc := Kept.setCell (X2.drew.setCells b (g * 4) (clE (some y))) (w.heap.size + 1) 0 (.int .i64 (p : Int))
        have hc3 := HI2.out.cel.keptH hk3 (by omega) (by omega) htb
        have hc4 := hc3.keptH hkc (by omega) (by omega) hlt9
        refine ⟨(keepsB hX2).trans ((keepsH hk3 hA2).trans ((KeepsOthers.setCell _ _ _).from _)), KeepC.of_cel HI.out.cel hc4, A.set g (some y), p, ?_⟩
        rw [List.length_append]
        have hmv := HI2.out.clo.move (a := p) (by rw [List.length_set, HI2.out.len]; exact HO.out) HVP.out HB.out
        have hpm := ents_move HI2.out.clo.gap HI2.out.clo.gl HVP.out
        rw [List.set_set] at hmv hpm
        refine ⟨⟨?_, ((hA2.keep (w' := X2.drew) rfl).set hgA (some y)).keep (heap_setCell_other _ ⟨w.heap.size + 1, 0, none⟩ _ _ (by show b ≠ w.heap.size + 1; omega))⟩, by rw [List.length_set]; exact HI2.out.len, Boxed.keptH (Boxed.keptH HI2.out.b0 hk3 (by omega)) hkc (by omega), Boxed.set _ hb3, hmv, hpm.trans HI2.out.pm, hc4, (HI2.out.kp.trans hk3 (fun _ _ h => h)).trans hkc (fun i hi e => by omega)⟩
        rw [List.length_set]
        exact (hkc.block t (by have := hk3.size; have := HI2.out.hs.tab; have := heap_lt this; omega) hlt9).trans ((hk3.block t (heap_lt HI2.out.hs.tab) htb).trans HI2.out.hs.tab)
      · have hle : ¬ wayF N g p ≤ wayF N (hmN N y.key) p := fun h => hb (hWB.1 h)
        have HB := Lib.hid hb
        have dW : decide (((wayF N g p : Nat) : Int) ≤ ((wayF N (hmN N y.key) p : Nat) : Int)) = false := decide_eq_false (by omega)
        clear hWB hb
        gi_wp2_with (first
          | ((with_reducible show wpListIn _ _ _ _ _ (Oper.mk _ (Op.load 88 _) _ _ _ _ :: _) _ _); refine listR_val rfl (fun c h => by cases h) (run_load_hsp rfl rfl hrow rfl) ?_)
          | ((with_reducible show wpListIn _ _ _ _ _ (Oper.mk _ (Op.store 88 _ _) _ _ _ _ :: _) _ _); refine listR_skip rfl (fun c h => by cases h) (run_storehsp (cs := (clE (some y)).toArray) rfl rfl rfl (World.alloc_heap_new X _) rfl rfl (clE_one _)) ?_; rw [World.setRow_alloc_new]; rw [← HX1.out]))
        refine region_roundH (S := fun V => Below X1.heap.size X1 V) (by kernel_rfl) (by kernel_rfl) (fun h => by obtain ⟨_, _, h⟩ := h; exact h) (Below.refl _ X1).drew (fun hS => ?_)
        refine held_pure (i := 0) (oi := ⟨some 23, _, _, _, _, _⟩) rfl (by kernel_rfl) (by kernel_rfl) (by kernel_rfl) (fun _ _ _ h => h) (by rfl) (fun w hSw => run_load_hstp rfl rfl (KB0.out _ hSw)) hS (fun hS => ?_)
        try go_frame
        refine held_pure (i := 1) (oi := ⟨some 24, _, _, _, _, _⟩) rfl (by kernel_rfl) (by kernel_rfl) (by kernel_rfl) (fun _ _ _ h => h) (by rfl) (fun w hSw => run_load_hstp rfl rfl (KB0.out _ hSw)) hS (fun hS => ?_)
        try go_frame
        refine held_pure (i := 2) (oi := ⟨some 25, _, _, _, _, _⟩) rfl (by kernel_rfl) (by kernel_rfl) (by kernel_rfl) (fun _ _ _ h => h) (by rfl) (v := ?_) (fun w hSw => ?_) hS (fun hS => ?_)
        rotate_left
        · go_simp; try with_reducible rfl
        try go_frame
        refine held_pure (i := 3) (oi := ⟨some 26, _, _, _, _, _⟩) rfl (by kernel_rfl) (by kernel_rfl) (by kernel_rfl) (fun _ _ _ h => h) (by rfl) (fun w hSw => run_load_u64 rfl rfl (KB4.out _ hSw)) hS (fun hS => ?_)
        try go_frame
        refine held_pure (i := 5) (oi := ⟨some 28, _, _, _, _, _⟩) rfl (by kernel_rfl) (by kernel_rfl) (by kernel_rfl) (fun _ _ _ h => h) (by rfl) (v := ?_) (fun w hSw => ?_) hS (fun hS => ?_)
        rotate_left
        · go_simp; try with_reducible rfl
        try go_frame
        refine held_pure (i := 7) (oi := ⟨some 30, _, _, _, _, _⟩) rfl (by kernel_rfl) (by kernel_rfl) (by kernel_rfl) (fun _ _ _ h => h) (by rfl) (fun w hSw => run_load_hstp rfl rfl (KB0.out _ hSw)) hS (fun hS => ?_)
        try go_frame
        refine held_pure (i := 8) (oi := ⟨some 31, _, _, _, _, _⟩) rfl (by kernel_rfl) (by kernel_rfl) (by kernel_rfl) (fun _ _ _ h => h) (by rfl) (fun w hSw => run_load_int rfl rfl (KB1.out _ hSw)) hS (fun hS => ?_)
        try go_frame
        refine held_pure (i := 9) (oi := ⟨some 32, _, _, _, _, _⟩) rfl (by kernel_rfl) (by kernel_rfl) (by kernel_rfl) (fun _ _ _ h => h) (by rfl) (v := ?_) (fun w hSw => ?_) hS (fun hS => ?_)
        rotate_left
        · go_simp; try with_reducible rfl
        try go_frame
        refine wpAnyH_ready (rs := [4]) (by kernel_rfl) (by simp) (AllReadyH.cons (o := ⟨some 27, _, _, _, _, _⟩) rfl (fun K hK => ?_) AllReadyH.nil)
        rw [if_pos (by rfl)]
        go_simp
        refine (hshome t b N N y.key _ (KBT.out _ hS) hN0 hN).mono ?_
        rintro e w4 ⟨rfl, rfl⟩
        show K _ _
        refine hK.out _ _ hS (fun hS => ?_)
        clear hK K
        try go_frame
        refine wpAnyH_ready (rs := [6]) (by kernel_rfl) (by simp) (AllReadyH.cons (o := ⟨some 29, _, _, _, _, _⟩) rfl (fun K hK => ?_) AllReadyH.nil)
        rw [if_pos (by rfl)]
        go_simp
        refine (hsway t b N N (hmN N y.key) p _ (KBT.out _ hS) hN0 hN hhy hpl').mono ?_
        rintro e w6 ⟨rfl, x6⟩
        show K _ _
        refine hK.out _ _ (below_step hS x6) (fun hS => ?_)
        clear hK K
        try go_frame
        refine wpAnyH_ready (rs := [10]) (by kernel_rfl) (by simp) (AllReadyH.cons (o := ⟨some 33, _, _, _, _, _⟩) rfl (fun K hK => ?_) AllReadyH.nil)
        rw [if_pos (by rfl)]
        go_simp
        refine (hsway t b N N g p _ (KBT.out _ hS) hN0 hN hgl hpl').mono ?_
        rintro e w10 ⟨rfl, x10⟩
        show K _ _
        refine hK.out _ _ (below_step hS x10) (fun hS => ?_)
        clear hK K
        try go_frame
        refine held_pure (i := 11) (oi := ⟨some 34, _, _, _, _, _⟩) rfl (by kernel_rfl) (by kernel_rfl) (by kernel_rfl) (fun _ _ _ h => h) (by rfl) (v := .bool false) (fun w hSw => by go_simp; try exact dW) hS (fun hS => ?_)
        try go_frame
        refine held_pure (i := 12) (oi := ⟨some 22, _, _, _, _, _⟩) rfl (by kernel_rfl) (by kernel_rfl) (by kernel_rfl) (fun _ _ _ h => h) (by rfl) (v := ?_) (fun w hSw => ?_) hS (fun hS => ?_)
        rotate_left
        · go_simp; try with_reducible rfl
        try go_frame
        refine wpAnyH_done (by kernel_rfl) ?_ _
        have hX2 : Below X.heap.size X w10 := bX1.trans (hS.mono (by omega))
        have hI2 := HI.out.below hX2
        gi_wp2
        refine ⟨keepsB hX2, KeepC.of_cel HI.out.cel hI2.cel, A, g, ?_⟩
        rw [List.length_append]
        exact ⟨hI2.hs, hI2.len, hI2.b0, hI2.b1, hI2.clo.stay (by rw [List.length_set, hI2.len]; exact HO.out) HVP.out HB.out, hI2.pm, hI2.cel, hI2.kp⟩
  case done =>
    rintro D xs X hD hS ⟨A, g, hI⟩ hK
    have := hI.pos.1
    rw [hS, List.length_map, List.length_range] at this
    omega
  case stop =>
    rintro D cd pre X hD _ ⟨rfl, A, g, hX⟩ hK
    have hm1 : Marks w7.heap.size X.heap.size [{ target := .collected D, args := #[] }] X := (Marks.push (hi := D) (ds := []) trivial (Nat.le_refl _) hD hK).more (heap_lt hK)
    have hA := hX.hs.arr
    have hgA : g < A.length := by rw [hX.len]; exact hX.gl
    have KD0 : Hid (∀ V, Kept (fun k => k = b) X V → V.cell? ⟨w.heap.size, 0, none⟩ = some (.pointer (some ⟨t, 0, none⟩))) := Lib.hid fun V hV => Boxed.cell (Boxed.keptH hX.b0 hV (by omega))
    have KD1 : Hid (∀ V, Kept (fun k => k = b) X V → V.cell? ⟨w.heap.size + 1, 0, none⟩ = some (.int .i64 (g : Int))) := Lib.hid fun V hV => Boxed.cell (Boxed.keptH hX.b1 hV (by omega))
    have KDT : Hid (∀ V, Kept (fun k => k = b) X V → V.cell? ⟨t, 0, none⟩ = some (.slice (some ⟨b, 0, none⟩) N N)) := Lib.hid fun V hV => (World.cell?_of_block (hV.block t (cell_block hX.cel.2.2) htb)).trans hX.cel.2.2
    have HXX := Lib.hid hX
    have hgN := hX.gl
    clear hX hI0 hseq hK
    gi_upto_region 8 with fail
    refine wpIn_mono (Q := noPanic _) ?_ noPanic_to
    refine regionI (S := Kept (fun k => k = b) X) (by kernel_rfl) (Kept.drew X) (fun hS => ?_)
    refine pureI (i := 0) (oi := ⟨some 43, _, _, _, _, _⟩) rfl (by kernel_rfl) (by kernel_rfl) (by kernel_rfl) (fun _ _ _ h => h) (by rfl) (fun w hSw => run_load_hstp rfl rfl (KD0.out _ hSw)) hS (fun hS => ?_)
    try go_frame
    refine pureI (i := 1) (oi := ⟨some 44, _, _, _, _, _⟩) rfl (by kernel_rfl) (by kernel_rfl) (by kernel_rfl) (fun _ _ _ h => h) (by rfl) (v := ?_) (fun w hSw => ?_) hS (fun hS => ?_)
    rotate_left
    · go_simp; try with_reducible rfl
    try go_frame
    refine pureI (i := 2) (oi := ⟨some 45, _, _, _, _, _⟩) rfl (by kernel_rfl) (by kernel_rfl) (by kernel_rfl) (fun _ _ _ h => h) (by rfl) (v := ?_) (fun w hSw => ?_) hS (fun hS => ?_)
    rotate_left
    · go_simp; try with_reducible rfl
    try go_frame
    refine pureI (i := 3) (oi := ⟨some 46, _, _, _, _, _⟩) rfl (by kernel_rfl) (by kernel_rfl) (by kernel_rfl) (fun _ _ _ h => h) (by rfl) (fun w hSw => run_load_hsar rfl rfl (KDT.out _ hSw)) hS (fun hS => ?_)
    try go_frame
    refine pureI (i := 4) (oi := ⟨some 47, _, _, _, _, _⟩) rfl (by kernel_rfl) (by kernel_rfl) (by kernel_rfl) (fun _ _ _ h => h) (by rfl) (fun w hSw => run_load_int rfl rfl (KD1.out _ hSw)) hS (fun hS => ?_)
    try go_frame
    refine pureI (i := 5) (oi := ⟨some 48, _, _, _, _, _⟩) rfl (by kernel_rfl) (by kernel_rfl) (by kernel_rfl) (fun _ _ _ h => h) (by rfl) (v := .agg (clE none).toArray) (fun w hSw => by go_simp; rfl) hS (fun hS => ?_)
    try go_frame
    refine pureI (i := 6) (oi := ⟨some 49, _, _, _, _, _⟩) rfl (by kernel_rfl) (by kernel_rfl) (by kernel_rfl) (fun _ _ _ h => h) (by rfl) (v := ?_) (fun w hSw => ?_) hS (fun hS => ?_)
    rotate_left
    · go_simp; try with_reducible rfl
    try go_frame
    refine oneI (i := 7) (oi := ⟨none, _, _, _, _, _⟩) (by kernel_rfl) rfl (by rfl) (fun K hK => ?_)
    refine skipQ (run_storeH rfl rfl rfl (there_drew (hA.there hgA)) (clE_len none) (clE_one _)) ?_
    refine hK _ _ (keptN b X g) (fun hS => ?_)
    clear hK K
    try go_frame
    refine doneI (by kernel_rfl) ?_ _
    refine noPanic_normal ?_
    gi_wp2
    have hkn := keptN b X g
    refine leaves_marks w7.heap.size (fun Y => FreeOut w t b cnt most L g0 Y) (fun Y D hY h1 h2 => by obtain ⟨q, h3, h4, h5, h6, h7⟩ := hY; exact ⟨q, h3.kept (n := w7.heap.size) (grownBy_putObj' Y D _) (fun k e => by cases e; exact ⟨h1, _, h2, rfl⟩), h4, h5, h6, h7.turnH (n := w7.heap.size) (grownBy_putObj' Y D _) (fun k e => by cases e; exact ⟨h1, _, h2, rfl⟩) (by omega)⟩)
      (fun Y hY => ⟨_, results_none rfl _ _ _, rfl, hY⟩) _ _ _ (hm1.keep (fun k h1 h2 => hkn.block k h2 (by omega)))
      ⟨A.set g none, ⟨by rw [List.length_set]; exact (hkn.block t (heap_lt HXX.out.hs.tab) htb).trans HXX.out.hs.tab, (hA.keep (w' := X.drew) rfl).set hgA none⟩, by rw [List.length_set, HXX.out.len, HNE.out], by rw [List.length_set, HXX.out.len]; exact HXX.out.prb, by rw [← HE.out]; exact HXX.out.pm, HXX.out.kp.trans hkn (fun _ _ h => h)⟩
end
end Go.Proofs.YtghbliabmecbcaaDoor

/-
  A text's copy; Put, Get, Delete, Len of layer 18's code over a table that a call made. Conditions are each theorem's own.
-/
namespace Go.Proofs.YtghbliabmecbcaaDoor
open Go.RowKit Go.Shelf

set_option maxRecDepth 100000 in
theorem hsclone1 (l : List UInt8) (w : World) (hl : l.length ≤ 1000000) :
    Calls Tryd.prog 56 #[.string (strB l)] w fun e w' => e = .returned (.string (strB l)) ∧ Below w.heap.size w w' := by
  by_cases h0 : l = []
  · subst h0
    have hz : (strB []).size = 0 := rfl
    go_enter Tryd.func56, Tryd.ntmps56
    go_wp2
    go_ret
    exact ⟨rfl, Below.refl _ _⟩
  · have hp : 0 < l.length := List.length_pos_iff.2 h0
    have hz := strB_size l
    have hd : (strB l).data.toList = l := rfl
    have HI : (Tryd.prog.info? 5).map (fun i => (i.zero, i.size, i.bytes)) = some (some (.int .u8 0), 1, 1) := by kernel_rfl
    obtain ⟨i0, hi, hz0, hz1, hz2⟩ := info_parts HI
    obtain ⟨n, hn⟩ : ∃ n, n = (strB l).size := ⟨_, rfl⟩
    have hnl : n = l.length := hn.trans hz
    obtain ⟨M, hM⟩ : ∃ M, M = madeCells (Value.int .u8 0).cells (n * 1) := ⟨_, rfl⟩
    have hMs : M.size = n := by rw [hM, size_madeCells, Nat.mul_one]
    have hmk : ∀ W : World, (Instr.makeSlice 91 (.int .i64 (n : Int)) (.int .i64 (n : Int))).run Tryd.prog W = .ok (.slice (some ⟨W.heap.size, 0, none⟩) n n) (W.alloc (.cells M 5)) := fun W => by
      have h := run_make (P := Tryd.prog) W 91 5 i0 (.int .u8 0) Tryd.underlying91 hi hz0 .i64 .i64 (n : Int) (n : Int) (by omega) (Int.le_refl _) (by rw [hz2]; omega) (by omega)
      rw [Int.toNat_natCast, hz1, ← hM] at h
      exact h
    have hinfo : (Tryd.prog.info? 5).map (·.size) = some 1 := by rw [hi]; simp [hz1]
    have hco : Tryd.prog.cellsOf 5 = 1 := by simp [Program.cellsOf, hi, hz1]
    have hcp := Lib.run_copy_row_string (P := Tryd.prog) (w.alloc (.cells M 5)) 91 9 3 5 w.heap.size 0 n n (strB l) M 5 Tryd.underlying91 hinfo (World.alloc_heap_new w _) (by omega) (by omega)
    obtain ⟨Y, hY⟩ : ∃ Y, Y = (M.toList.take 0 ++ Lib.byteCells (strB l).data.toList ++ M.toList.drop (0 + (strB l).size)).toArray := ⟨_, rfl⟩
    rw [← hY] at hcp
    have hYl : Y.toList = Lib.byteCells l := by
      rw [hY, List.toList_toArray, List.take_zero, List.nil_append, List.drop_of_length_le (by rw [Array.length_toList]; omega), List.append_nil, hd]
    have hYs : Y.size = n := by rw [← Array.length_toList, hYl, Lib.byteCells_length, hnl]
    have hgY : ((w.alloc (.cells M 5)).setRow w.heap.size Y).heap[w.heap.size]? = some (.cells Y 5 (0, 0)) := setRow_heap _ _ M _ 5 (0, 0) (World.alloc_heap_new w _)
    have hUS := Lib.run_unsafeString_row (P := Tryd.prog) (w := (w.alloc (.cells M 5)).setRow w.heap.size Y) 112 3 9 5 Tryd.underlying112 hco w.heap.size Y.size (by unfold World.shape?; rw [hgY]) l h0 (by omega) (by omega)
      (fun j x hx => Lib.cells_of_row hgY Y.size j _ (by rw [List.take_of_length_le (by rw [Array.length_toList]; exact Nat.le_refl _), hYl]; simp [Lib.byteCells, hx]))
    rw [← hnl] at hUS
    have hcp' := hcp
    rw [show goInt (strB l).size = .int .i64 (n : Int) from by rw [← hn]; rfl] at hcp'
    have hb1 : Below w.heap.size w (w.alloc (.cells M 5)) := (Below.refl _ w).alloc (Nat.le_refl _) _
    have hb2 : Below w.heap.size (w.alloc (.cells M 5)) ((w.alloc (.cells M 5)).setRow w.heap.size Y) := ⟨rfl, rfl, rfl, by simp, fun k hk => setRow_other _ _ _ _ (by omega)⟩
    have hn0 : 0 < n := by omega
    have hne0 : n ≠ 0 := by omega
    have d0 : (((strB l).size : Int) == 0) = false := by rw [← hn]; simp; omega
    have d0' : ((strB l).size == 0) = false := by rw [← hn]; simp; omega
    subst hn
    clear hY hYl hYs hgY hMs hM hd hcp hnl hz hinfo hco hi hz0 hz1 hz2 hp
    go_enter Tryd.func56, Tryd.ntmps56
    go_wp2
    go_ret
    exact ⟨rfl, Lib.below_freeze (hb1.trans hb2) (p := ⟨w.heap.size, 0, none⟩) (Nat.le_refl _) _⟩
theorem hsclone (l : List UInt8) (w : World) (hl : l.length ≤ 1000000) : Calls Tryd.prog 43 #[.string (strB l)] w fun e w' => e = .returned (.string (strB l)) ∧ Below w.heap.size w w' := by
  go_enter Tryd.func43, Tryd.ntmps43
  go_wp2_with (go_at_call 56; refine (hsclone1 l _ hl).mono ?_; rintro e w1 ⟨rfl, x1⟩)
  go_ret
  exact ⟨rfl, x1⟩
/-- A table that a call made. -/
structure HTab (w : World) (B0 t b : Nat) (most : Int) (L : List (Option Ent)) : Prop where
  hs : Hs w t b ((ents L).length : Int) most L
  prb : Prb (hmN L.length) L
  half : 2 * (ents L).length ≤ L.length
  len : L.length ≤ 300000
  mst : 0 ≤ most ∧ most ≤ 65536
  n : ((ents L).length : Int) ≤ most
  z : B0 ≤ t ∧ B0 ≤ b
section
variable {w w' : World} {B0 t b : Nat} {most : Int} {L : List (Option Ent)}
theorem HTab.below (h : HTab w B0 t b most L) (hb : Below w.heap.size w w') : HTab w' B0 t b most L := ⟨h.hs.below hb, h.prb, h.half, h.len, h.mst, h.n, h.z⟩
theorem HTab.free (h : HTab w B0 t b most L) : ∃ i, i < L.length ∧ plH L i = none := free_of_lt (by have := h.prb.home []; have := h.half; omega)
theorem HTab.new (h0 : 0 ≤ most ∧ most ≤ 65536) (h : Hs w t b 0 most (List.replicate 8 none)) (hz : B0 ≤ t ∧ B0 ≤ b) : HTab w B0 t b most (List.replicate 8 none) :=
  ⟨h, prb_new _ _ (fun k => by rw [List.length_replicate]; exact hm_pos (by decide) k), (by rw [ents_rep]; simp), (by simp), h0, (by rw [ents_rep]; exact h0.1), hz⟩
theorem Hs.cnt {cnt : Int} (h : Hs w t b cnt most L) (c : Int) : Hs (w.setCell ⟨t, 1, none⟩ (.int .i64 c)) t b c most L :=
  ⟨heap_setCell_same w t 1 _ _ _ h.tab, h.arr.keep (heap_setCell_other w ⟨t, 1, none⟩ _ _ (by show b ≠ t; exact fun e => h.ne e.symm))⟩
/-- What Get answers. -/
def GetOut (L : List (Option Ent)) (key : List UInt8) (e : Ending) : Prop :=
  (∃ x ∈ ents L, x.key = key ∧ e = .returned (.tuple #[.int .i64 x.n, .bool true])) ∨ ((∀ x ∈ ents L, x.key ≠ key) ∧ e = .returned (.tuple #[.int .i64 0, .bool false]))
theorem hsfind_yes (h : HTab w B0 t b most L) {i : Nat} {x : Ent} (hx : plH L i = some x) : Calls Tryd.prog 40 #[.pointer (some ⟨t, 0, none⟩), .string (strB x.key), .int .u64 (mkOf x.key)] w fun e w' => e = .returned (.tuple #[.int .i64 (i : Int), .bool true]) ∧ Below w.heap.size w w' :=
  (hsfind h.hs h.prb (by have := h.len; omega) x.key).mono fun e w' ⟨hf, hb⟩ => by
    rcases hf with ⟨j, y, h1, h2, rfl⟩ | ⟨h1, _⟩
    · rw [h.prb.uniq j i y x h1 hx h2]; exact ⟨rfl, hb⟩
    · exact absurd rfl (h1 i x hx)
theorem hsfind_no (h : HTab w B0 t b most L) {key : List UInt8} (hn : ∀ i x, plH L i = some x → x.key ≠ key) : Calls Tryd.prog 40 #[.pointer (some ⟨t, 0, none⟩), .string (strB key), .int .u64 (mkOf key)] w fun e w' => e = .returned (.tuple #[.int .i64 0, .bool false]) ∧ Below w.heap.size w w' :=
  (hsfind h.hs h.prb (by have := h.len; omega) key).mono fun e w' ⟨hf, hb⟩ => by
    rcases hf with ⟨j, y, h1, h2, _⟩ | ⟨_, rfl⟩
    · exact absurd h2 (hn j y h1)
    · exact ⟨rfl, hb⟩
theorem hslen (h : HTab w B0 t b most L) : Calls Tryd.prog 36 #[.pointer (some ⟨t, 0, none⟩)] w fun e w' => e = .returned (.int .i64 ((ents L).length : Int)) ∧ w = w' := by
  have k0 := h.hs.c0
  have k1 := h.hs.c1
  clear h
  go_enter Tryd.func36, Tryd.ntmps36
  go_wp2_with (go_at_call 38; refine (hsmade t b _ _ _ k0).mono ?_; rintro e w1 ⟨rfl, rfl⟩)
  go_ret
  exact ⟨rfl, rfl⟩
theorem hsget (h : HTab w B0 t b most L) (key : List UInt8) (hk : key.length ≤ 1000000) : Calls Tryd.prog 32 #[.pointer (some ⟨t, 0, none⟩), .string (strB key)] w fun e w' => GetOut L key e ∧ Below w.heap.size w w' := by
  have k0 := h.hs.c0
  have H := Lib.hid h
  by_cases hp : ∃ i x, plH L i = some x ∧ x.key = key
  · obtain ⟨i, x, hx, rfl⟩ := hp
    have hi := plH_lt hx
    have HX := Lib.hid hx
    have hF : ∀ V, Below w.heap.size w V → V.cell? ⟨t, 0, none⟩ = some (.slice (some ⟨b, 0, none⟩) L.length L.length) ∧ V.cell? ⟨b, i * 4 + 3, none⟩ = some (.int .i64 x.n) := fun V hV => by
      have h1 := (h.hs.below hV)
      have h2 := h1.at_ (plH_get hi)
      rw [hx] at h2
      exact ⟨h1.c0, h2 3 _ rfl⟩
    have HF := Lib.hid hF
    have HFD := Lib.hid (hsfind_yes h hx)
    clear h hx hF
    go_enter Tryd.func32, Tryd.ntmps32
    go_wp2_with (first
      | (go_at_call 38; refine (hsmade t b _ _ _ k0).mono ?_; rintro e w1 ⟨rfl, rfl⟩)
      | (go_at_call 39; refine (hsmark x.key _ hk).mono ?_; rintro e w1 ⟨rfl, rfl⟩)
      | (go_at_call 40; refine HFD.out.mono ?_; rintro e w1 ⟨rfl, x1⟩; have hq := HF.out _ x1; obtain ⟨q1, q2⟩ := hq))
    refine bodyPost_ret (results_tmp2 rfl _ _ _) rfl ⟨Or.inl ⟨x, mem_ents.2 ⟨i, HX.out⟩, rfl, rfl⟩, x1⟩
  · have hn : ∀ i x, plH L i = some x → x.key ≠ key := fun i x hx e => hp ⟨i, x, hx, e⟩
    have HN := Lib.hid hn
    have HFD := Lib.hid (hsfind_no h hn)
    clear h hn hp
    go_enter Tryd.func32, Tryd.ntmps32
    go_wp2_with (first
      | (go_at_call 38; refine (hsmade t b _ _ _ k0).mono ?_; rintro e w1 ⟨rfl, rfl⟩)
      | (go_at_call 39; refine (hsmark key _ hk).mono ?_; rintro e w1 ⟨rfl, rfl⟩)
      | (go_at_call 40; refine HFD.out.mono ?_; rintro e w1 ⟨rfl, x1⟩))
    refine bodyPost_ret (results_tmp2 rfl _ _ _) rfl ⟨Or.inr ⟨fun x hx => by obtain ⟨i, h1⟩ := mem_ents.1 hx; exact HN.out i x h1, rfl⟩, x1⟩
/-- What Delete leaves. -/
def DelOut (w : World) (B0 t b : Nat) (most : Int) (L : List (Option Ent)) (key : List UInt8) (e : Ending) (w' : World) : Prop :=
  ∃ L', HTab w' B0 t b most L' ∧ Below B0 w w' ∧ L'.length = L.length ∧ ((∃ x, x.key = key ∧ (ents L).Perm (x :: ents L') ∧ e = .returned (.bool true)) ∨ ((∀ x ∈ ents L, x.key ≠ key) ∧ L' = L ∧ e = .returned (.bool false)))
set_option maxRecDepth 100000 in
theorem hsdel (h : HTab w B0 t b most L) (key : List UInt8) (hk : key.length ≤ 1000000) (hB : B0 ≤ w.heap.size) : Calls Tryd.prog 30 #[.pointer (some ⟨t, 0, none⟩), .string (strB key)] w fun e w' => DelOut w B0 t b most L key e w' := by
  have k0 := h.hs.c0
  have H := Lib.hid h
  by_cases hp : ∃ i x, plH L i = some x ∧ x.key = key
  · obtain ⟨i, x, hx, rfl⟩ := hp
    have hi := plH_lt hx
    have HX := Lib.hid hx
    have hpm := ents_take hx
    have hpl := hpm.length_eq
    rw [List.length_cons] at hpl
    have HP := Lib.hid hpm
    have HPL := Lib.hid hpl
    have HFD := Lib.hid (hsfind_yes h hx)
    clear h hx hpm hpl
    go_enter Tryd.func30, Tryd.ntmps30
    go_wp2_with (first
      | (go_at_call 38; refine (hsmade t b _ _ _ k0).mono ?_; rintro e w1 ⟨rfl, rfl⟩)
      | (go_at_call 39; refine (hsmark x.key _ hk).mono ?_; rintro e w1 ⟨rfl, rfl⟩)
      | (go_at_call 49; refine (hsfree (H.out.hs.below x1) H.out.prb i x HX.out (by have := H.out.len; omega) H.out.free).mono ?_; rintro e w2 ⟨rfl, L', f1, f2, f3, f4, f5⟩; have F1 := Lib.hid f1; have F2 := Lib.hid (show _ ∧ _ ∧ _ ∧ _ from ⟨f2, f3, f4, f5⟩); have kc1 := f1.c1; have kf1 := heap_frozen f1.tab 1; clear f1 f2 f3 f4 f5)
      | (go_at_call 40; refine HFD.out.mono ?_; rintro e w1 ⟨rfl, x1⟩))
    obtain ⟨f2, f3, f4, f5⟩ := F2.out
    have hlen2 := f4.length_eq
    have hc : wrap64 (((ents L).length : Int) - 1) = ((ents L').length : Int) := by
      rw [IntWalk.wrap64_in _ (by have := H.out.n; have := H.out.mst; omega), HPL.out, hlen2]; omega
    rw [hc]
    have hz := H.out.z
    have hb1 : Below B0 w w1 := x1.mono hB
    have hb2 : Below B0 w1 w2 := f5.below (Nat.le_trans hB x1.size) (fun k e => by rw [e]; exact hz.2)
    have hb3 := hb1.trans hb2
    refine bodyPost_ret (results_tmp rfl _ _ _) rfl ⟨L', ⟨F1.out.cnt _, f3, ?_, by rw [f2]; exact H.out.len, H.out.mst, ?_, hz⟩, hb3.setCell (p := ⟨t, 1, none⟩) hz.1 _, f2, .inl ⟨x, rfl, HP.out.trans (f4.symm.cons x), rfl⟩⟩
    · have := H.out.half; rw [f2, hlen2]; have := HPL.out; omega
    · have := H.out.n; rw [hlen2]; have := HPL.out; omega
  · have hn : ∀ i x, plH L i = some x → x.key ≠ key := fun i x hx e => hp ⟨i, x, hx, e⟩
    have HN := Lib.hid hn
    have HFD := Lib.hid (hsfind_no h hn)
    clear h hn hp
    go_enter Tryd.func30, Tryd.ntmps30
    go_wp2_with (first
      | (go_at_call 38; refine (hsmade t b _ _ _ k0).mono ?_; rintro e w1 ⟨rfl, rfl⟩)
      | (go_at_call 39; refine (hsmark key _ hk).mono ?_; rintro e w1 ⟨rfl, rfl⟩)
      | (go_at_call 40; refine HFD.out.mono ?_; rintro e w1 ⟨rfl, x1⟩))
    exact bodyPost_ret (results_tmp rfl _ _ _) rfl ⟨L, H.out.below x1, x1.mono hB, rfl, .inr ⟨fun x hx => by obtain ⟨i, h1⟩ := mem_ents.1 hx; exact HN.out i x h1, rfl, rfl⟩⟩
/-- What Put leaves. -/
def PutOut (w : World) (B0 t : Nat) (most : Int) (L : List (Option Ent)) (key : List UInt8) (n : Int) (e : Ending) (w' : World) : Prop :=
  ∃ b' L', HTab w' B0 t b' most L' ∧ Below B0 w w' ∧
    ((∃ x R, x.key = key ∧ (ents L).Perm (x :: R) ∧ (ents L').Perm (⟨key, n⟩ :: R) ∧ e = .returned (.int .i64 0)) ∨
     ((∀ x ∈ ents L, x.key ≠ key) ∧ ((((ents L).length : Int) ≥ most ∧ ents L' = ents L ∧ e = .returned (.int .i64 7)) ∨ (((ents L).length : Int) < most ∧ (ents L').Perm (⟨key, n⟩ :: ents L) ∧ e = .returned (.int .i64 0)))))
theorem ArrH.setN {w : World} {b : Nat} {L : List (Option Ent)} (h : ArrH w b L) {i : Nat} {x : Ent} (hx : plH L i = some x) (n : Int) : ArrH (w.setCell ⟨b, i * 4 + 3, none⟩ (.int .i64 n)) b (L.set i (some ⟨x.key, n⟩)) := by
  obtain ⟨cur, h1, h2⟩ := h.obj
  have hi := plH_lt hx
  have hr := h.row i _ (plH_get hi)
  rw [hx] at hr
  refine ⟨⟨_, heap_setCell_same w b (i * 4 + 3) cur _ _ h1, by rw [Array.size_setIfInBounds, h2, List.length_set]⟩, fun j o ho q v hv => ?_⟩
  have hne : ∀ k, k ≠ i * 4 + 3 → (w.setCell ⟨b, i * 4 + 3, none⟩ (.int .i64 n)).cell? ⟨b, k, none⟩ = w.cell? ⟨b, k, none⟩ := fun k hk => World.cell?_setCell_other _ _ _ _ (fun e => by injection e with _ e2 _; first | exact hk e2 | exact hk e2.symm)
  have hq := (List.getElem?_eq_some_iff.1 hv).1
  rw [clE_len] at hq
  rw [List.getElem?_set] at ho
  split at ho
  · rename_i e
    subst e
    have ho : some (some (⟨x.key, n⟩ : Ent)) = some o := by simpa [hi] using ho
    obtain rfl := Option.some.inj ho
    by_cases q3 : q = 3
    · subst q3
      have hv : some (Value.int .i64 n) = some v := hv
      rw [← hv]
      refine World.cell?_setCell_same' _ _ _ ?_
      rw [hr 3 _ rfl]; rfl
    · rw [hne _ (by omega)]
      refine hr q v ?_
      have : q = 0 ∨ q = 1 ∨ q = 2 := by omega
      rcases this with rfl | rfl | rfl <;> exact hv
  · rename_i e
    rw [hne _ (by omega)]
    exact h.row j o ho q v hv
theorem put_end {w w5 w6 w7 : World} {B0 t b2 C r : Nat} {most : Int} {L L2 : List (Option Ent)} {key : List UInt8} {n : Int} (_ : Hs w5 t b2 (C : Int) most L2) (g : Prb (hmN L2.length) L2 ∧ (ents L2).Perm (ents L) ∧ 2 * (C + 1) ≤ L2.length ∧ L2.length ≤ 300000 ∧ B0 ≤ b2) (hC : C = (ents L).length) (hz : B0 ≤ t ∧ B0 ≤ b2 ∨ B0 ≤ t) (hlt : (C : Int) < most) (hms : 0 ≤ most ∧ most ≤ 65536)
    (hn : ∀ x ∈ ents L, x.key ≠ key) (x6 : Below w5.heap.size w5 w6) (h5 : B0 ≤ w5.heap.size) (b5 : Below B0 w w5) (r4 : Hs w7 t b2 (C : Int) most (L2.set (rnd L2.length (hmN L2.length key) r) (some ⟨key, n⟩)))
    (R : r < L2.length ∧ (∀ d, d < r → plH L2 (rnd L2.length (hmN L2.length key) d) ≠ none) ∧ plH L2 (rnd L2.length (hmN L2.length key) r) = none ∧ Kept (fun k => k = b2) w6 w7) :
    PutOut w B0 t most L key n (.returned (.int .i64 0)) (w7.setCell ⟨t, 1, none⟩ (.int .i64 ((C : Int) + 1))) := by
  obtain ⟨g1, g2, g3, g4, g5⟩ := g
  obtain ⟨r1, r2, r3, r5⟩ := R
  have hzt : B0 ≤ t := by rcases hz with h | h; exact h.1; exact h
  have hp := ents_put (e := (⟨key, n⟩ : Ent)) (rnd_lt (g1.home key) r1) r3
  have hl := hp.length_eq
  rw [List.length_cons, g2.length_eq, ← hC] at hl
  have hb : Below B0 w w7 := (b5.trans (x6.mono h5)).trans (r5.below (Nat.le_trans h5 x6.size) (fun k e => by have e' : k = b2 := e; rw [e']; exact g5))
  have hq : (ents (L2.set (rnd L2.length (hmN L2.length key) r) (some ⟨key, n⟩))).Perm (⟨key, n⟩ :: ents L) := hp.trans (g2.cons _)
  have hlt' : ((ents L).length : Int) < most := by rw [← hC]; exact hlt
  have hpr : Prb (hmN L2.length) (L2.set (rnd L2.length (hmN L2.length key) r) (some ⟨key, n⟩)) := by
    refine Prb.put (x := (⟨key, n⟩ : Ent)) g1 (fun i e he hk => ?_) r1 r2
    exact hn e (g2.mem_iff.1 (mem_ents.2 ⟨i, he⟩)) hk
  have h4 := r4.cnt ((C : Int) + 1)
  have hlc : ((C : Int) + 1) = ((ents (L2.set (rnd L2.length (hmN L2.length key) r) (some ⟨key, n⟩))).length : Int) := by rw [hl]; omega
  have hbs := hb.setCell (p := ⟨t, 1, none⟩) hzt (.int .i64 ((C : Int) + 1))
  obtain ⟨L3, hL3⟩ : ∃ L3, L3 = L2.set (rnd L2.length (hmN L2.length key) r) (some (⟨key, n⟩ : Ent)) := ⟨_, rfl⟩
  have hlm : L2.length = L3.length := by rw [hL3, List.length_set]
  rw [← hL3] at hpr hq h4 hlc hl
  rw [hlm] at hpr g3 g4
  have hg3 : 2 * (ents L3).length ≤ L3.length := by omega
  have hg4 : ((ents L3).length : Int) ≤ most := by omega
  rw [hlc] at h4 hbs ⊢
  exact ⟨b2, L3, ⟨h4, hpr, hg3, g4, hms, hg4, hzt, g5⟩, hbs, Or.inr ⟨hn, Or.inr ⟨hlt', hq, rfl⟩⟩⟩
set_option maxRecDepth 100000 in
set_option maxHeartbeats 2000000 in
theorem hsput (h : HTab w B0 t b most L) (key : List UInt8) (n : Int) (hk : key.length ≤ 1000000) (hB : B0 ≤ w.heap.size) : Calls Tryd.prog 25 #[.pointer (some ⟨t, 0, none⟩), .string (strB key), .int .i64 n] w fun e w' => PutOut w B0 t most L key n e w' := by
  have k0 := h.hs.c0
  have H := Lib.hid h
  by_cases hp : ∃ i x, plH L i = some x ∧ x.key = key
  · obtain ⟨i, x, hx, rfl⟩ := hp
    have hi := plH_lt hx
    have HX := Lib.hid hx
    have HFD := Lib.hid (hsfind_yes h hx)
    have hF : ∀ V, Below w.heap.size w V → V.cell? ⟨t, 0, none⟩ = some (.slice (some ⟨b, 0, none⟩) L.length L.length) ∧ V.cell? ⟨b, i * 4 + 3, none⟩ = some (.int .i64 x.n) ∧ V.frozen? ⟨b, i * 4 + 3, none⟩ = false := fun V hV => by
      have h1 := (h.hs.below hV)
      have h2 := h1.at_ (plH_get hi)
      rw [hx] at h2
      obtain ⟨cur, h3, _⟩ := h1.arr.obj
      exact ⟨h1.c0, h2 3 _ rfl, heap_frozen h3 _⟩
    have HF := Lib.hid hF
    clear h hx hF
    go_enter Tryd.func25, Tryd.ntmps25
    go_wp2_with (first
      | (go_at_call 38; refine (hsmade t b _ _ _ k0).mono ?_; rintro e w1 ⟨rfl, rfl⟩)
      | (go_at_call 39; refine (hsmark x.key _ hk).mono ?_; rintro e w1 ⟨rfl, rfl⟩)
      | (go_at_call 40; refine HFD.out.mono ?_; rintro e w1 ⟨rfl, x1⟩; have hq := HF.out _ x1; obtain ⟨q1, q2, q3⟩ := hq))
    have h1 := H.out.below x1
    obtain ⟨R, p1, p2⟩ := ents_change HX.out ⟨x.key, n⟩
    have hz := H.out.z
    have hle := p1.length_eq
    have hle2 := p2.length_eq
    rw [List.length_cons] at hle hle2
    refine bodyPost_ret (results_tmp rfl _ _ _) rfl ⟨b, L.set i (some ⟨x.key, n⟩), ⟨⟨?_, h1.hs.arr.setN HX.out n⟩, by rw [List.length_set]; exact H.out.prb.change HX.out n, by rw [List.length_set, hle2, ← hle]; exact H.out.half, by rw [List.length_set]; exact H.out.len, H.out.mst, by rw [hle2, ← hle]; exact H.out.n, hz⟩, (x1.mono hB).setCell (p := ⟨b, i * 4 + 3, none⟩) hz.2 _, .inl ⟨x, R, rfl, p1, p2, rfl⟩⟩
    rw [List.length_set, hle2, ← hle]
    exact (heap_setCell_other w1 ⟨b, i * 4 + 3, none⟩ _ _ h1.hs.ne).trans h1.hs.tab
  · have hn : ∀ i x, plH L i = some x → x.key ≠ key := fun i x hx e => hp ⟨i, x, hx, e⟩
    have HN := Lib.hid hn
    have HNE : Hid (∀ x ∈ ents L, x.key ≠ key) := Lib.hid fun x hx => by obtain ⟨i, h1⟩ := mem_ents.1 hx; exact hn i x h1
    have HFD := Lib.hid (hsfind_no h hn)
    obtain ⟨C, hC⟩ : ∃ C, C = (ents L).length := ⟨_, rfl⟩
    have hCm := h.n
    have hms := h.mst
    have hlen := h.len
    have hhalf := h.half
    have hL0 := h.prb.home []
    have hF : ∀ V, Below w.heap.size w V → V.cell? ⟨t, 0, none⟩ = some (.slice (some ⟨b, 0, none⟩) L.length L.length) ∧ V.cell? ⟨t, 1, none⟩ = some (.int .i64 (C : Int)) ∧ V.cell? ⟨t, 2, none⟩ = some (.int .i64 most) := fun V hV => by
      have h1 := (h.hs.below hV)
      exact ⟨h1.c0, by rw [hC]; exact h1.c1, h1.c2⟩
    have HF := Lib.hid hF
    rw [← hC] at hCm hhalf
    have HC := Lib.hid hC
    clear h hn hp hF hC
    go_enter Tryd.func25, Tryd.ntmps25
    go_upto_region 8 with (first
      | (go_at_call 38; refine (hsmade t b _ _ _ k0).mono ?_; rintro e w1 ⟨rfl, rfl⟩)
      | (go_at_call 39; refine (hsmark key _ hk).mono ?_; rintro e w1 ⟨rfl, rfl⟩)
      | (go_at_call 40; refine HFD.out.mono ?_; rintro e w1 ⟨rfl, x1⟩; have H1 := Lib.hid (H.out.below x1); have KC0 : Hid (∀ V, Below w1.heap.size w1 V → V.cell? ⟨t, 0, none⟩ = some (.slice (some ⟨b, 0, none⟩) L.length L.length)) := Lib.hid (fun V hV => (HF.out V (x1.trans (hV.mono x1.size))).1); have KC1 : Hid (∀ V, Below w1.heap.size w1 V → V.cell? ⟨t, 1, none⟩ = some (.int .i64 (C : Int))) := Lib.hid (fun V hV => (HF.out V (x1.trans (hV.mono x1.size))).2.1); have KC2 : Hid (∀ V, Below w1.heap.size w1 V → V.cell? ⟨t, 2, none⟩ = some (.int .i64 most)) := Lib.hid (fun V hV => (HF.out V (x1.trans (hV.mono x1.size))).2.2)))
    by_cases hfull : (C : Int) ≥ most
    · have dF : decide (most ≤ (C : Int)) = true := decide_eq_true hfull
      refine wp_region_held_drew (S := fun w' => Below w1.heap.size w1 w') (by kernel_rfl) (Below.refl _ _).drew (fun hS => ?_)
      refine held_pure (i := 0) (oi := ⟨some 31, _, _, _, _, _⟩) rfl (by kernel_rfl) (by kernel_rfl) (by kernel_rfl) (fun _ _ _ h => h) (by rfl) (v := ?_) (fun w hSw => ?_) hS (fun hS => ?_)
      rotate_left
      · go_simp; try with_reducible rfl
      try go_frame
      refine held_pure (i := 1) (oi := ⟨some 32, _, _, _, _, _⟩) rfl (by kernel_rfl) (by kernel_rfl) (by kernel_rfl) (fun _ _ _ h => h) (by rfl) (v := ?_) (fun w hSw => ?_) hS (fun hS => ?_)
      rotate_left
      · go_simp; try with_reducible rfl
      try go_frame
      refine held_pure (i := 2) (oi := ⟨some 33, _, _, _, _, _⟩) rfl (by kernel_rfl) (by kernel_rfl) (by kernel_rfl) (fun _ _ _ h => h) (by rfl) (v := ?_) (fun w hSw => ?_) hS (fun hS => ?_)
      rotate_left
      · go_simp; try with_reducible rfl
      try go_frame
      refine held_pure (i := 3) (oi := ⟨some 34, _, _, _, _, _⟩) rfl (by kernel_rfl) (by kernel_rfl) (by kernel_rfl) (fun _ _ _ h => h) (by rfl) (fun w hSw => run_load_int rfl rfl (KC1.out _ hSw)) hS (fun hS => ?_)
      try go_frame
      refine held_pure (i := 4) (oi := ⟨some 35, _, _, _, _, _⟩) rfl (by kernel_rfl) (by kernel_rfl) (by kernel_rfl) (fun _ _ _ h => h) (by rfl) (v := ?_) (fun w hSw => ?_) hS (fun hS => ?_)
      rotate_left
      · go_simp; try with_reducible rfl
      try go_frame
      refine held_pure (i := 5) (oi := ⟨some 36, _, _, _, _, _⟩) rfl (by kernel_rfl) (by kernel_rfl) (by kernel_rfl) (fun _ _ _ h => h) (by rfl) (v := ?_) (fun w hSw => ?_) hS (fun hS => ?_)
      rotate_left
      · go_simp; try with_reducible rfl
      try go_frame
      refine held_pure (i := 6) (oi := ⟨some 37, _, _, _, _, _⟩) rfl (by kernel_rfl) (by kernel_rfl) (by kernel_rfl) (fun _ _ _ h => h) (by rfl) (v := ?_) (fun w hSw => ?_) hS (fun hS => ?_)
      rotate_left
      · go_simp; try with_reducible rfl
      try go_frame
      refine held_pure (i := 7) (oi := ⟨some 38, _, _, _, _, _⟩) rfl (by kernel_rfl) (by kernel_rfl) (by kernel_rfl) (fun _ _ _ h => h) (by rfl) (fun w hSw => run_load_int rfl rfl (KC2.out _ hSw)) hS (fun hS => ?_)
      try go_frame
      refine held_pure (i := 8) (oi := ⟨some 39, _, _, _, _, _⟩) rfl (by kernel_rfl) (by kernel_rfl) (by kernel_rfl) (fun _ _ _ h => h) (by rfl) (v := .bool true) (fun w hSw => by go_simp; try exact dF) hS (fun hS => ?_)
      try go_frame
      refine wpAnyH_done (by kernel_rfl) ?_ _
      go_wp2
      refine bodyPost_ret (results_tmp rfl _ _ _) rfl ⟨b, L, H.out.below (x1.trans (hS.mono x1.size)), (x1.trans (hS.mono x1.size)).mono hB, .inr ⟨HNE.out, .inl ⟨by rw [← HC.out]; exact hfull, rfl, rfl⟩⟩⟩
    · have dF : decide (most ≤ (C : Int)) = false := decide_eq_false hfull
      have HW1 : Hid (IntKind.i64.wrap ((C : Int) + 1) = (C : Int) + 1) := Lib.hid (IntWalk.i64_in _ (by omega))
      have HW2 : Hid (IntKind.i64.wrap (2 * ((C : Int) + 1)) = 2 * ((C : Int) + 1)) := Lib.hid (IntWalk.i64_in _ (by omega))
      refine wp_region_held_drew (S := fun w' => Below w1.heap.size w1 w') (by kernel_rfl) (Below.refl _ _).drew (fun hS => ?_)
      refine held_pure (i := 0) (oi := ⟨some 31, _, _, _, _, _⟩) rfl (by kernel_rfl) (by kernel_rfl) (by kernel_rfl) (fun _ _ _ h => h) (by rfl) (v := ?_) (fun w hSw => ?_) hS (fun hS => ?_)
      rotate_left
      · go_simp; try with_reducible rfl
      try go_frame
      refine held_pure (i := 1) (oi := ⟨some 32, _, _, _, _, _⟩) rfl (by kernel_rfl) (by kernel_rfl) (by kernel_rfl) (fun _ _ _ h => h) (by rfl) (v := ?_) (fun w hSw => ?_) hS (fun hS => ?_)
      rotate_left
      · go_simp; try with_reducible rfl
      try go_frame
      refine held_pure (i := 2) (oi := ⟨some 33, _, _, _, _, _⟩) rfl (by kernel_rfl) (by kernel_rfl) (by kernel_rfl) (fun _ _ _ h => h) (by rfl) (v := ?_) (fun w hSw => ?_) hS (fun hS => ?_)
      rotate_left
      · go_simp; try with_reducible rfl
      try go_frame
      refine held_pure (i := 3) (oi := ⟨some 34, _, _, _, _, _⟩) rfl (by kernel_rfl) (by kernel_rfl) (by kernel_rfl) (fun _ _ _ h => h) (by rfl) (fun w hSw => run_load_int rfl rfl (KC1.out _ hSw)) hS (fun hS => ?_)
      try go_frame
      refine held_pure (i := 4) (oi := ⟨some 35, _, _, _, _, _⟩) rfl (by kernel_rfl) (by kernel_rfl) (by kernel_rfl) (fun _ _ _ h => h) (by rfl) (v := ?_) (fun w hSw => ?_) hS (fun hS => ?_)
      rotate_left
      · go_simp; try with_reducible rfl
      try go_frame
      refine held_pure (i := 5) (oi := ⟨some 36, _, _, _, _, _⟩) rfl (by kernel_rfl) (by kernel_rfl) (by kernel_rfl) (fun _ _ _ h => h) (by rfl) (v := ?_) (fun w hSw => ?_) hS (fun hS => ?_)
      rotate_left
      · go_simp; try with_reducible rfl
      try go_frame
      refine held_pure (i := 6) (oi := ⟨some 37, _, _, _, _, _⟩) rfl (by kernel_rfl) (by kernel_rfl) (by kernel_rfl) (fun _ _ _ h => h) (by rfl) (v := ?_) (fun w hSw => ?_) hS (fun hS => ?_)
      rotate_left
      · go_simp; try with_reducible rfl
      try go_frame
      refine held_pure (i := 7) (oi := ⟨some 38, _, _, _, _, _⟩) rfl (by kernel_rfl) (by kernel_rfl) (by kernel_rfl) (fun _ _ _ h => h) (by rfl) (fun w hSw => run_load_int rfl rfl (KC2.out _ hSw)) hS (fun hS => ?_)
      try go_frame
      refine held_pure (i := 8) (oi := ⟨some 39, _, _, _, _, _⟩) rfl (by kernel_rfl) (by kernel_rfl) (by kernel_rfl) (fun _ _ _ h => h) (by rfl) (v := .bool false) (fun w hSw => by go_simp; try exact dF) hS (fun hS => ?_)
      try go_frame
      refine wpAnyH_done (by kernel_rfl) ?_ _
      go_upto_region 10 with fail
      have hz := H.out.z
      have hW4 : Below w1.heap.size w1 w1.drew.drew := (Below.refl w1.heap.size w1).drew.drew
      have H4 := H1.out.below hW4
      have b4 : Below B0 w w1.drew.drew := (x1.trans (hW4.mono x1.size)).mono hB
      by_cases hg : 2 * (C + 1) > L.length
      · have dG : decide ((L.length : Int) < 2 * ((C : Int) + 1)) = true := decide_eq_true (by omega)
        refine wp_region_held_drew (S := fun w' => Below w1.heap.size w1 w') (by kernel_rfl) (Below.refl w1.heap.size w1).drew.drew (fun hS => ?_)
        refine held_pure (i := 0) (oi := ⟨some 40, _, _, _, _, _⟩) rfl (by kernel_rfl) (by kernel_rfl) (by kernel_rfl) (fun _ _ _ h => h) (by rfl) (v := ?_) (fun w hSw => ?_) hS (fun hS => ?_)
        rotate_left
        · go_simp; try with_reducible rfl
        try go_frame
        refine held_pure (i := 1) (oi := ⟨some 41, _, _, _, _, _⟩) rfl (by kernel_rfl) (by kernel_rfl) (by kernel_rfl) (fun _ _ _ h => h) (by rfl) (v := ?_) (fun w hSw => ?_) hS (fun hS => ?_)
        rotate_left
        · go_simp; try with_reducible rfl
        try go_frame
        refine held_pure (i := 2) (oi := ⟨some 42, _, _, _, _, _⟩) rfl (by kernel_rfl) (by kernel_rfl) (by kernel_rfl) (fun _ _ _ h => h) (by rfl) (v := ?_) (fun w hSw => ?_) hS (fun hS => ?_)
        rotate_left
        · go_simp; try with_reducible rfl
        try go_frame
        refine held_pure (i := 3) (oi := ⟨some 43, _, _, _, _, _⟩) rfl (by kernel_rfl) (by kernel_rfl) (by kernel_rfl) (fun _ _ _ h => h) (by rfl) (fun w hSw => run_load_int rfl rfl (KC1.out _ hSw)) hS (fun hS => ?_)
        try go_frame
        refine held_pure (i := 4) (oi := ⟨some 44, _, _, _, _, _⟩) rfl (by kernel_rfl) (by kernel_rfl) (by kernel_rfl) (fun _ _ _ h => h) (by rfl) (v := .int .i64 ((C : Int) + 1)) (fun w hSw => by go_simp; try exact HW1.out) hS (fun hS => ?_)
        try go_frame
        refine held_pure (i := 5) (oi := ⟨some 45, _, _, _, _, _⟩) rfl (by kernel_rfl) (by kernel_rfl) (by kernel_rfl) (fun _ _ _ h => h) (by rfl) (v := .int .i64 (2 * ((C : Int) + 1))) (fun w hSw => by go_simp; try exact HW2.out) hS (fun hS => ?_)
        try go_frame
        refine held_pure (i := 6) (oi := ⟨some 46, _, _, _, _, _⟩) rfl (by kernel_rfl) (by kernel_rfl) (by kernel_rfl) (fun _ _ _ h => h) (by rfl) (v := ?_) (fun w hSw => ?_) hS (fun hS => ?_)
        rotate_left
        · go_simp; try with_reducible rfl
        try go_frame
        refine held_pure (i := 7) (oi := ⟨some 47, _, _, _, _, _⟩) rfl (by kernel_rfl) (by kernel_rfl) (by kernel_rfl) (fun _ _ _ h => h) (by rfl) (v := ?_) (fun w hSw => ?_) hS (fun hS => ?_)
        rotate_left
        · go_simp; try with_reducible rfl
        try go_frame
        refine held_pure (i := 8) (oi := ⟨some 48, _, _, _, _, _⟩) rfl (by kernel_rfl) (by kernel_rfl) (by kernel_rfl) (fun _ _ _ h => h) (by rfl) (v := ?_) (fun w hSw => ?_) hS (fun hS => ?_)
        rotate_left
        · go_simp; try with_reducible rfl
        try go_frame
        refine held_pure (i := 9) (oi := ⟨some 49, _, _, _, _, _⟩) rfl (by kernel_rfl) (by kernel_rfl) (by kernel_rfl) (fun _ _ _ h => h) (by rfl) (fun w hSw => run_load_hsar rfl rfl (KC0.out _ hSw)) hS (fun hS => ?_)
        try go_frame
        refine held_pure (i := 10) (oi := ⟨some 50, _, _, _, _, _⟩) rfl (by kernel_rfl) (by kernel_rfl) (by kernel_rfl) (fun _ _ _ h => h) (by rfl) (v := ?_) (fun w hSw => ?_) hS (fun hS => ?_)
        rotate_left
        · go_simp; try with_reducible rfl
        try go_frame
        refine held_pure (i := 11) (oi := ⟨some 51, _, _, _, _, _⟩) rfl (by kernel_rfl) (by kernel_rfl) (by kernel_rfl) (fun _ _ _ h => h) (by rfl) (v := .bool true) (fun w hSw => by go_simp; try exact dG) hS (fun hS => ?_)
        try go_frame
        refine wpAnyH_done (by kernel_rfl) ?_ _
        go_wp2_with (first
          | (go_at_call 41; refine (hsgrow H4.hs H4.prb (by omega)).mono ?_; rintro e w5 ⟨rfl, b2, L2, g1, g2, g3, g4, g5, g6⟩; have hz4 := hW4.size; have hz0 := x1.size; have b5 : Below B0 w w5 := b4.trans (g5.below (by have := b4.size; omega) (fun k e => by have e' : k = t := e; rw [e']; exact hz.1)); have G := Lib.hid (show Hs w5 t b2 (C : Int) most L2 ∧ Prb (hmN L2.length) L2 ∧ (ents L2).Perm (ents L) ∧ 2 * (C + 1) ≤ L2.length ∧ L2.length ≤ 300000 ∧ B0 ≤ b2 from ⟨by rw [HC.out]; exact g1, g3, g4, by omega, by omega, by omega⟩); clear g1 g2 g3 g4 g5)
          | (go_at_call 43; refine (hsclone key _ hk).mono ?_; rintro e w6 ⟨rfl, x6⟩; have G6 := Lib.hid (G.out.1.below x6))
          | (go_at_call 42; refine (hskeep G6.out ⟨key, n⟩ (G.out.2.1.home _) (by have := G.out.2.2.2.2.1; omega) (free_of_lt (by rw [G.out.2.2.1.length_eq, ← HC.out]; have := G.out.2.2.2.1; omega))).mono ?_; rintro e w7 ⟨rfl, r, r1, r2, r3, r4, r5⟩; have R := Lib.hid (show _ ∧ _ ∧ _ ∧ _ from ⟨r1, r2, r3, r5⟩); have R4 := Lib.hid r4; have kc1 := r4.c1; have kf1 := heap_frozen r4.tab 1; clear r1 r2 r3 r4 r5))
        refine bodyPost_ret (results_tmp rfl _ _ _) rfl ?_
        exact (put_end G.out.1 G.out.2 HC.out (.inr hz.1) (by omega) hms HNE.out x6 (Nat.le_trans hB b5.size) b5 R4.out R.out)
      · have dG : decide ((L.length : Int) < 2 * ((C : Int) + 1)) = false := decide_eq_false (by omega)
        have G : Hid (Hs w1.drew.drew t b (C : Int) most L ∧ Prb (hmN L.length) L ∧ (ents L).Perm (ents L) ∧ 2 * (C + 1) ≤ L.length ∧ L.length ≤ 300000 ∧ B0 ≤ b) := Lib.hid ⟨by rw [HC.out]; exact H4.hs, H4.prb, List.Perm.refl _, by omega, by omega, hz.2⟩
        have b5 := b4
        refine wp_region_held_drew (S := fun w' => Below w1.heap.size w1 w') (by kernel_rfl) (Below.refl w1.heap.size w1).drew.drew (fun hS => ?_)
        refine held_pure (i := 0) (oi := ⟨some 40, _, _, _, _, _⟩) rfl (by kernel_rfl) (by kernel_rfl) (by kernel_rfl) (fun _ _ _ h => h) (by rfl) (v := ?_) (fun w hSw => ?_) hS (fun hS => ?_)
        rotate_left
        · go_simp; try with_reducible rfl
        try go_frame
        refine held_pure (i := 1) (oi := ⟨some 41, _, _, _, _, _⟩) rfl (by kernel_rfl) (by kernel_rfl) (by kernel_rfl) (fun _ _ _ h => h) (by rfl) (v := ?_) (fun w hSw => ?_) hS (fun hS => ?_)
        rotate_left
        · go_simp; try with_reducible rfl
        try go_frame
        refine held_pure (i := 2) (oi := ⟨some 42, _, _, _, _, _⟩) rfl (by kernel_rfl) (by kernel_rfl) (by kernel_rfl) (fun _ _ _ h => h) (by rfl) (v := ?_) (fun w hSw => ?_) hS (fun hS => ?_)
        rotate_left
        · go_simp; try with_reducible rfl
        try go_frame
        refine held_pure (i := 3) (oi := ⟨some 43, _, _, _, _, _⟩) rfl (by kernel_rfl) (by kernel_rfl) (by kernel_rfl) (fun _ _ _ h => h) (by rfl) (fun w hSw => run_load_int rfl rfl (KC1.out _ hSw)) hS (fun hS => ?_)
        try go_frame
        refine held_pure (i := 4) (oi := ⟨some 44, _, _, _, _, _⟩) rfl (by kernel_rfl) (by kernel_rfl) (by kernel_rfl) (fun _ _ _ h => h) (by rfl) (v := .int .i64 ((C : Int) + 1)) (fun w hSw => by go_simp; try exact HW1.out) hS (fun hS => ?_)
        try go_frame
        refine held_pure (i := 5) (oi := ⟨some 45, _, _, _, _, _⟩) rfl (by kernel_rfl) (by kernel_rfl) (by kernel_rfl) (fun _ _ _ h => h) (by rfl) (v := .int .i64 (2 * ((C : Int) + 1))) (fun w hSw => by go_simp; try exact HW2.out) hS (fun hS => ?_)
        try go_frame
        refine held_pure (i := 6) (oi := ⟨some 46, _, _, _, _, _⟩) rfl (by kernel_rfl) (by kernel_rfl) (by kernel_rfl) (fun _ _ _ h => h) (by rfl) (v := ?_) (fun w hSw => ?_) hS (fun hS => ?_)
        rotate_left
        · go_simp; try with_reducible rfl
        try go_frame
        refine held_pure (i := 7) (oi := ⟨some 47, _, _, _, _, _⟩) rfl (by kernel_rfl) (by kernel_rfl) (by kernel_rfl) (fun _ _ _ h => h) (by rfl) (v := ?_) (fun w hSw => ?_) hS (fun hS => ?_)
        rotate_left
        · go_simp; try with_reducible rfl
        try go_frame
        refine held_pure (i := 8) (oi := ⟨some 48, _, _, _, _, _⟩) rfl (by kernel_rfl) (by kernel_rfl) (by kernel_rfl) (fun _ _ _ h => h) (by rfl) (v := ?_) (fun w hSw => ?_) hS (fun hS => ?_)
        rotate_left
        · go_simp; try with_reducible rfl
        try go_frame
        refine held_pure (i := 9) (oi := ⟨some 49, _, _, _, _, _⟩) rfl (by kernel_rfl) (by kernel_rfl) (by kernel_rfl) (fun _ _ _ h => h) (by rfl) (fun w hSw => run_load_hsar rfl rfl (KC0.out _ hSw)) hS (fun hS => ?_)
        try go_frame
        refine held_pure (i := 10) (oi := ⟨some 50, _, _, _, _, _⟩) rfl (by kernel_rfl) (by kernel_rfl) (by kernel_rfl) (fun _ _ _ h => h) (by rfl) (v := ?_) (fun w hSw => ?_) hS (fun hS => ?_)
        rotate_left
        · go_simp; try with_reducible rfl
        try go_frame
        refine held_pure (i := 11) (oi := ⟨some 51, _, _, _, _, _⟩) rfl (by kernel_rfl) (by kernel_rfl) (by kernel_rfl) (fun _ _ _ h => h) (by rfl) (v := .bool false) (fun w hSw => by go_simp; try exact dG) hS (fun hS => ?_)
        try go_frame
        refine wpAnyH_done (by kernel_rfl) ?_ _
        go_wp2_with (first
          | (go_at_call 43; refine (hsclone key _ hk).mono ?_; rintro e w6 ⟨rfl, x6⟩; have G6 := Lib.hid (G.out.1.below x6))
          | (go_at_call 42; refine (hskeep G6.out ⟨key, n⟩ (G.out.2.1.home _) (by have := G.out.2.2.2.2.1; omega) (free_of_lt (by rw [← HC.out]; omega))).mono ?_; rintro e w7 ⟨rfl, r, r1, r2, r3, r4, r5⟩; have R := Lib.hid (show _ ∧ _ ∧ _ ∧ _ from ⟨r1, r2, r3, r5⟩); have R4 := Lib.hid r4; have kc1 := r4.c1; have kf1 := heap_frozen r4.tab 1; clear r1 r2 r3 r4 r5))
        refine bodyPost_ret (results_tmp rfl _ _ _) rfl ?_
        exact (put_end G.out.1 G.out.2 HC.out (.inr hz.1) (by omega) hms HNE.out x6 (Nat.le_trans hB b5.size) b5 R4.out R.out)
end
end Go.Proofs.YtghbliabmecbcaaDoor

/-
  A table of layer 18's code, seen as a list of entries in any order: what each call answers and leaves; awake of layer 18. Conditions are each theorem's own.
-/
namespace Go.Proofs.YtghbliabmecbcaaDoor
open Go.RowKit Go.Shelf

/-- The table at t holds the entries M. -/
def HM (w : World) (B0 t : Nat) (most : Int) (M : List Ent) : Prop := ∃ b L, HTab w B0 t b most L ∧ (ents L).Perm M
section
variable {w w' : World} {B0 t : Nat} {most : Int} {M R : List Ent} {x : Ent} {key : List UInt8} {n : Int}
theorem HM.below (h : HM w B0 t most M) (hb : Below w.heap.size w w') : HM w' B0 t most M := by
  obtain ⟨b, L, h1, h2⟩ := h; exact ⟨b, L, h1.below hb, h2⟩
theorem HM.perm (h : HM w B0 t most M) (hp : M.Perm R) : HM w B0 t most R := by
  obtain ⟨b, L, h1, h2⟩ := h; exact ⟨b, L, h1, h2.trans hp⟩
theorem HM.z (h : HM w B0 t most M) : B0 ≤ t ∧ t < w.heap.size := by
  obtain ⟨b, L, h1, h2⟩ := h; exact ⟨h1.z.1, heap_lt h1.hs.tab⟩
theorem HM.bnd (h : HM w B0 t most M) : (M.length : Int) ≤ most ∧ most ≤ 65536 := by
  obtain ⟨b, L, h1, h2⟩ := h; have := h1.n; have := h2.length_eq; have := h1.mst; omega
/-- No key stands twice. -/
theorem ents_keys {hm : List UInt8 → Nat} {L : List (Option Ent)} (p : Prb hm L) : (ents L).Pairwise (fun a b => a.key ≠ b.key) := by
  have key : ∀ (L : List (Option Ent)), (∀ i j e f, plH L i = some e → plH L j = some f → e.key = f.key → i = j) → (ents L).Pairwise (fun a b => a.key ≠ b.key) := by
    intro L
    induction L with
    | nil => intro _; exact List.Pairwise.nil
    | cons o L ih =>
      intro hu
      have hu' : ∀ i j e f, plH L i = some e → plH L j = some f → e.key = f.key → i = j := fun i j e f h1 h2 h3 => by
        have := hu (i + 1) (j + 1) e f h1 h2 h3; omega
      cases o with
      | none => exact ih hu'
      | some x =>
        have e0 : ents (some x :: L) = x :: ents L := by simp [ents]
        rw [e0]
        refine List.pairwise_cons.2 ⟨fun y hy hk => ?_, ih hu'⟩
        obtain ⟨j, hj⟩ := mem_ents.1 hy
        have := hu 0 (j + 1) x y rfl hj hk
        omega
  exact key L p.uniq
theorem HM.keys (h : HM w B0 t most M) : M.Pairwise (fun a b => a.key ≠ b.key) := by
  obtain ⟨b, L, h1, h2⟩ := h
  exact h2.pairwise (ents_keys h1.prb) (fun e => e.symm)
theorem HM.uniq (h : HM w B0 t most M) {y : Ent} (hx : x ∈ M) (hy : y ∈ M) (hk : x.key = y.key) : x = y := by
  obtain ⟨A, C, rfl⟩ := List.append_of_mem hx
  have hp : (A ++ x :: C).Perm (x :: (A ++ C)) := List.perm_middle
  rcases List.mem_cons.1 (hp.mem_iff.1 hy) with e | hy'
  · exact e.symm
  · have := (List.pairwise_cons.1 (hp.pairwise h.keys (fun e => e.symm))).1 y hy'
    exact absurd hk this
theorem hm_new (most : Int) (w : World) (h0 : 0 ≤ most) (h1 : most ≤ 65536) (B0 : Nat) (hB : B0 ≤ w.heap.size) : Calls Tryd.prog 23 #[.int .i64 most] w fun e w' =>
    e = .returned (.tuple #[.pointer (some ⟨w.heap.size + 1, 0, none⟩), .int .i64 0]) ∧ HM w' B0 (w.heap.size + 1) most [] ∧ Below w.heap.size w w' :=
  (hsnew_ok most w h0 h1).mono fun e w' ⟨a, b, c⟩ => ⟨a, ⟨_, _, HTab.new ⟨h0, h1⟩ b ⟨Nat.le_succ_of_le hB, hB⟩, by rw [ents_rep]⟩, c⟩
theorem hm_put_new (h : HM w B0 t most M) (hn : ∀ x ∈ M, x.key ≠ key) (hm : (M.length : Int) < most) (n : Int) (hk : key.length ≤ 1000000) (hB : B0 ≤ w.heap.size) :
    Calls Tryd.prog 25 #[.pointer (some ⟨t, 0, none⟩), .string (strB key), .int .i64 n] w fun e w' => e = .returned (.int .i64 0) ∧ HM w' B0 t most (⟨key, n⟩ :: M) ∧ Below B0 w w' := by
  obtain ⟨b, L, h1, h2⟩ := h
  refine (hsput h1 key n hk hB).mono ?_
  rintro e w' ⟨b', L', q1, q2, q3⟩
  rcases q3 with ⟨x, R, r1, r2, _, _⟩ | ⟨r1, ⟨r2, _, _⟩ | ⟨r2, r3, rfl⟩⟩
  · exact absurd r1 (hn x (h2.mem_iff.1 (r2.mem_iff.2 (List.mem_cons_self ..))))
  · have := h2.length_eq; omega
  · exact ⟨rfl, ⟨b', L', q1, r3.trans (h2.cons _)⟩, q2⟩
theorem hm_put_full (h : HM w B0 t most M) (hn : ∀ x ∈ M, x.key ≠ key) (hm : (M.length : Int) ≥ most) (n : Int) (hk : key.length ≤ 1000000) (hB : B0 ≤ w.heap.size) :
    Calls Tryd.prog 25 #[.pointer (some ⟨t, 0, none⟩), .string (strB key), .int .i64 n] w fun e w' => e = .returned (.int .i64 7) ∧ HM w' B0 t most M ∧ Below B0 w w' := by
  obtain ⟨b, L, h1, h2⟩ := h
  refine (hsput h1 key n hk hB).mono ?_
  rintro e w' ⟨b', L', q1, q2, q3⟩
  rcases q3 with ⟨x, R, r1, r2, _, _⟩ | ⟨r1, ⟨_, r3, rfl⟩ | ⟨r2, _, _⟩⟩
  · exact absurd r1 (hn x (h2.mem_iff.1 (r2.mem_iff.2 (List.mem_cons_self ..))))
  · exact ⟨rfl, ⟨b', L', q1, by rw [r3]; exact h2⟩, q2⟩
  · have := h2.length_eq; omega
theorem hm_put_old (h : HM w B0 t most M) (hp : M.Perm (x :: R)) (n : Int) (hk : x.key.length ≤ 1000000) (hB : B0 ≤ w.heap.size) :
    Calls Tryd.prog 25 #[.pointer (some ⟨t, 0, none⟩), .string (strB x.key), .int .i64 n] w fun e w' => e = .returned (.int .i64 0) ∧ HM w' B0 t most (⟨x.key, n⟩ :: R) ∧ Below B0 w w' := by
  have hu : ∀ {y : Ent}, x ∈ M → y ∈ M → x.key = y.key → x = y := fun h1 h2 h3 => h.uniq h1 h2 h3
  have hxm : x ∈ M := hp.mem_iff.2 (List.mem_cons_self ..)
  obtain ⟨b, L, h1, h2⟩ := h
  refine (hsput h1 x.key n hk hB).mono ?_
  rintro e w' ⟨b', L', q1, q2, q3⟩
  rcases q3 with ⟨y, R', r1, r2, r3, rfl⟩ | ⟨r1, _⟩
  · obtain rfl := hu hxm (h2.mem_iff.1 (r2.mem_iff.2 (List.mem_cons_self ..))) r1.symm
    have : R'.Perm R := ((r2.symm.trans h2).trans hp).cons_inv
    exact ⟨rfl, ⟨b', L', q1, r3.trans (this.cons _)⟩, q2⟩
  · exact absurd rfl (r1 x (h2.mem_iff.2 hxm))
theorem hm_get_yes (h : HM w B0 t most M) (hx : x ∈ M) (hk : x.key.length ≤ 1000000) :
    Calls Tryd.prog 32 #[.pointer (some ⟨t, 0, none⟩), .string (strB x.key)] w fun e w' => e = .returned (.tuple #[.int .i64 x.n, .bool true]) ∧ Below w.heap.size w w' := by
  have hu : ∀ {y : Ent}, x ∈ M → y ∈ M → x.key = y.key → x = y := fun h1 h2 h3 => h.uniq h1 h2 h3
  obtain ⟨b, L, h1, h2⟩ := h
  refine (hsget h1 x.key hk).mono ?_
  rintro e w' ⟨hg, hb⟩
  rcases hg with ⟨y, r1, r2, rfl⟩ | ⟨r1, _⟩
  · rw [hu hx (h2.mem_iff.1 r1) r2.symm]; exact ⟨rfl, hb⟩
  · exact absurd rfl (r1 x (h2.mem_iff.2 hx))
theorem hm_get_no (h : HM w B0 t most M) (hn : ∀ x ∈ M, x.key ≠ key) (hk : key.length ≤ 1000000) :
    Calls Tryd.prog 32 #[.pointer (some ⟨t, 0, none⟩), .string (strB key)] w fun e w' => e = .returned (.tuple #[.int .i64 0, .bool false]) ∧ Below w.heap.size w w' := by
  obtain ⟨b, L, h1, h2⟩ := h
  refine (hsget h1 key hk).mono ?_
  rintro e w' ⟨hg, hb⟩
  rcases hg with ⟨y, r1, r2, _⟩ | ⟨_, rfl⟩
  · exact absurd r2 (hn y (h2.mem_iff.1 r1))
  · exact ⟨rfl, hb⟩
theorem hm_del_yes (h : HM w B0 t most M) (hp : M.Perm (x :: R)) (hk : x.key.length ≤ 1000000) (hB : B0 ≤ w.heap.size) :
    Calls Tryd.prog 30 #[.pointer (some ⟨t, 0, none⟩), .string (strB x.key)] w fun e w' => e = .returned (.bool true) ∧ HM w' B0 t most R ∧ Below B0 w w' := by
  have hu : ∀ {y : Ent}, x ∈ M → y ∈ M → x.key = y.key → x = y := fun h1 h2 h3 => h.uniq h1 h2 h3
  have hxm : x ∈ M := hp.mem_iff.2 (List.mem_cons_self ..)
  obtain ⟨b, L, h1, h2⟩ := h
  refine (hsdel h1 x.key hk hB).mono ?_
  rintro e w' ⟨L', q1, q2, _, q3⟩
  rcases q3 with ⟨y, r1, r2, rfl⟩ | ⟨r1, _⟩
  · obtain rfl := hu hxm (h2.mem_iff.1 (r2.mem_iff.2 (List.mem_cons_self ..))) r1.symm
    exact ⟨rfl, ⟨b, L', q1, ((r2.symm.trans h2).trans hp).cons_inv⟩, q2⟩
  · exact absurd rfl (r1 x (h2.mem_iff.2 hxm))
theorem hm_del_no (h : HM w B0 t most M) (hn : ∀ x ∈ M, x.key ≠ key) (hk : key.length ≤ 1000000) (hB : B0 ≤ w.heap.size) :
    Calls Tryd.prog 30 #[.pointer (some ⟨t, 0, none⟩), .string (strB key)] w fun e w' => e = .returned (.bool false) ∧ HM w' B0 t most M ∧ Below B0 w w' := by
  obtain ⟨b, L, h1, h2⟩ := h
  refine (hsdel h1 key hk hB).mono ?_
  rintro e w' ⟨L', q1, q2, _, q3⟩
  rcases q3 with ⟨y, r1, r2, _⟩ | ⟨_, rfl, rfl⟩
  · exact absurd r1 (hn y (h2.mem_iff.1 (r2.mem_iff.2 (List.mem_cons_self ..))))
  · exact ⟨rfl, ⟨b, L', q1, h2⟩, q2⟩
theorem hm_len (h : HM w B0 t most M) : Calls Tryd.prog 36 #[.pointer (some ⟨t, 0, none⟩)] w fun e w' => e = .returned (.int .i64 (M.length : Int)) ∧ w = w' := by
  obtain ⟨b, L, h1, h2⟩ := h
  have := hslen h1
  rwa [h2.length_eq] at this
end
end Go.Proofs.YtghbliabmecbcaaDoor

/-
  A slice of calls of a table of texts that came in, opened; calls whatever comes. Conditions are each theorem's own.
-/
namespace Go.Proofs.YtghbliabmecbcaaDoor
open Go.RowKit Go.ChangeShapes Go.WideShapes
/-- A call of a table of texts. -/
structure Dh where
  op : Int
  key : List UInt8
  n : Int
def clDh (y : Dh) : List Value := [.int .i64 y.op, .string (strB y.key), .int .i64 y.n]
theorem clDh_one (y : Dh) : (clDh y).toArray.all (·.oneCell') = true := by simp [clDh, Value.oneCell']
theorem cells_ath {w : World} {base n : Nat} {b off : Nat} {cs : List Value} (h : w.cells? base ⟨b, off, none⟩ n = some cs) : w.rangeAt b off cs := fun j u hj => by
  obtain ⟨_, hl, hc⟩ := World.cells?_some h
  have hlt : j < n := by rw [← hl]; exact (List.getElem?_eq_some_iff.1 hj).1
  have h1 := hc j hlt
  rw [add_off, hj] at h1
  exact h1
section
variable {H : Type} {enc : TypeId × Value → H} {w : World} {base : Nat} {v : Value} {d : DataW H} {p : List MemPlace}
theorem cell_strh {P : Program} {t : TypeId} {x : DataW H × List MemPlace} {n : Nat} {l : List Value} (ht : P.underlying t = some .string) (h : DataW.trod enc P w 0 (fun _ => true) true n t l = some x) : ∃ s : List UInt8, l = [.string (strB s)] ∧ s.length ≤ maxLen := by
  obtain ⟨s, hs, _, hw⟩ := DataW.trod_string ht h
  refine ⟨s.data.toList, ?_, by rw [Array.length_toList]; exact hw⟩
  rw [hs]
  rfl
end
theorem row_ofDh {w : World} {B : Nat} {A : Option Addr} {l : List Dh} {k : Nat} {x : Dh} (h : RdS clDh 3 w B A l) (hx : l[k]? = some x) : ∃ b o, A = some ⟨b, o, none⟩ ∧ b < B ∧ w.rangeAt b (o + k * 3) (clDh x) := by
  have hk := (List.getElem?_eq_some_iff.1 hx).1
  obtain ⟨b, o, e, hb, hc⟩ := h (by omega)
  exact ⟨b, o, e, hb, hc k x hx⟩
section
variable {w w' : World} {B0 t : Nat} {most : Int} {M R : List Ent} {x : Ent} {key : List UInt8} {n : Int}
theorem perm_split {M : List Ent} {key : List UInt8} (h : ∃ x ∈ M, x.key = key) : ∃ x R, x.key = key ∧ M.Perm (x :: R) := by
  obtain ⟨x, hx, hk⟩ := h
  obtain ⟨A, C, rfl⟩ := List.append_of_mem hx
  exact ⟨x, A ++ C, hk, List.perm_middle⟩
theorem hm_put_any (h : HM w B0 t most M) (hm : (M.length : Int) < most) (key : List UInt8) (n : Int) (hk : key.length ≤ 1000000) (hB : B0 ≤ w.heap.size) :
    Calls Tryd.prog 25 #[.pointer (some ⟨t, 0, none⟩), .string (strB key), .int .i64 n] w fun e w' => ∃ M', e = .returned (.int .i64 0) ∧ HM w' B0 t most M' ∧ Below B0 w w' ∧ M'.length ≤ M.length + 1 ∧ ∀ z ∈ M, z.key ≠ key → z ∈ M' := by
  by_cases hp : ∃ x ∈ M, x.key = key
  · obtain ⟨x, R, rfl, hq⟩ := perm_split hp
    refine (hm_put_old h hq n hk hB).mono ?_
    rintro e w' ⟨rfl, h1, h2⟩
    refine ⟨_, rfl, h1, h2, by rw [hq.length_eq]; simp, fun z hz hne => ?_⟩
    rcases List.mem_cons.1 (hq.mem_iff.1 hz) with rfl | h3
    · exact absurd rfl hne
    · exact List.mem_cons_of_mem _ h3
  · refine (hm_put_new h (fun x hx e => hp ⟨x, hx, e⟩) hm n hk hB).mono ?_
    rintro e w' ⟨rfl, h1, h2⟩
    exact ⟨_, rfl, h1, h2, Nat.le_refl _, fun z hz _ => List.mem_cons_of_mem _ hz⟩
theorem hm_del_any (h : HM w B0 t most M) (key : List UInt8) (hk : key.length ≤ 1000000) (hB : B0 ≤ w.heap.size) :
    Calls Tryd.prog 30 #[.pointer (some ⟨t, 0, none⟩), .string (strB key)] w fun e w' => ∃ q M', e = .returned (.bool q) ∧ HM w' B0 t most M' ∧ Below B0 w w' ∧ M'.length ≤ M.length + 1 ∧ ∀ z ∈ M, z.key ≠ key → z ∈ M' := by
  by_cases hp : ∃ x ∈ M, x.key = key
  · obtain ⟨x, R, rfl, hq⟩ := perm_split hp
    refine (hm_del_yes h hq hk hB).mono ?_
    rintro e w' ⟨rfl, h1, h2⟩
    refine ⟨_, _, rfl, h1, h2, by rw [hq.length_eq]; simp; omega, fun z hz hne => ?_⟩
    rcases List.mem_cons.1 (hq.mem_iff.1 hz) with rfl | h3
    · exact absurd rfl hne
    · exact h3
  · refine (hm_del_no h (fun x hx e => hp ⟨x, hx, e⟩) hk hB).mono ?_
    rintro e w' ⟨rfl, h1, h2⟩
    exact ⟨_, _, rfl, h1, h2, by omega, fun z hz _ => hz⟩
end
end Go.Proofs.YtghbliabmecbcaaDoor
