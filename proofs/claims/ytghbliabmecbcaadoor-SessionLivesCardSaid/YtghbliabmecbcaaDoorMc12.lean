/-
  Contracts and lemmas on which the proofs of this seat stand (several texts in one). Conditions are each theorem's own.
-/
import Derived.Test.YtghbliabmecbcaaDoorMc11
import Derived.Test.YtghbliabmecbcaaDoorMc5
import Derived.Test.YtghbliabmecbcaaDoorMc1
import Derived.WalkMore
import Derived.Test.YtghbliabmecbcaaDoorMc2
import Derived.Deep.Slices

/-
  The iterators of layer 24's code: numbers, Values, tell. Conditions are each theorem's own.
-/
namespace Go.Proofs.YtghbliabmecbcaaDoor
open Go.RowKit Go.Shelf Go.Maps
attribute [local go_sem] Oper.semAt_some
theorem docB_none1 {S : List (Option Sd)} {k : Nat} (h : S[k]? = some none) : docB 0 (S.take (k + 1)) = docB 0 (S.take k) := by
  obtain ⟨hk, e⟩ := List.getElem?_eq_some_iff.1 h
  rw [List.take_succ_eq_append_getElem hk, e, docB_app]; simp [docB]
theorem docB_some1 {S : List (Option Sd)} {k : Nat} {x : Sd} (h : S[k]? = some (some x)) : docB 0 (S.take (k + 1)) = docB 0 (S.take k) ++ [(k, x)] := by
  obtain ⟨hk, e⟩ := List.getElem?_eq_some_iff.1 h
  rw [List.take_succ_eq_append_getElem hk, e, docB_app]
  simp [docB]; omega
theorem docB_rest {S : List (Option Sd)} (k : Nat) : ∃ more, docB 0 S = docB 0 (S.take k) ++ more := by
  have h := docB_app 0 (S.take k) (S.drop k)
  rw [List.take_append_drop] at h
  exact ⟨_, h⟩
/-- The cells at A's block lie as they lay. -/
def KeepN (A : Option Addr) (X Y : World) : Prop := ∀ g : Addr, A = some g → ∀ i, Y.cell? ⟨g.block, i, none⟩ = X.cell? ⟨g.block, i, none⟩
theorem KeepN.trans {A : Option Addr} {X Y Z : World} (h : KeepN A X Y) (k : KeepN A Y Z) : KeepN A X Z := fun g e i => (k g e i).trans (h g e i)
theorem KeepN.of_heap {A : Option Addr} {X Y : World} (h : ∀ g : Addr, A = some g → Y.heap[g.block]? = X.heap[g.block]?) : KeepN A X Y := fun g e _ => World.cell?_of_block (h g e)
theorem KeepN.loop {A : Option Addr} {X : World} {l : Nat} {r r' : Loop} (hl : X.heap[l]? = some (.loop r)) : KeepN A X (X.putObj l (.loop r')) := fun g _ i => KeepC.loop (ps := [⟨g.block, i, none⟩]) hl ⟨g.block, i, none⟩ (List.mem_cons_self ..)
theorem RdS.keepN {α : Type} {cl : α → List Value} {sz B : Nat} {X Y : World} {A : Option Addr} {S : List α} (h : RdS cl sz X B A S) (k : KeepN A X Y) : RdS cl sz Y B A S := fun hn => by
  obtain ⟨b, off, e, hb, hc⟩ := h hn
  exact ⟨b, off, e, hb, fun j x hx i v hv => (k _ e _).trans (hc j x hx i v hv)⟩
section
variable {n : Nat} {P : Program} {ops : Array Oper} {rest : List Oper} {o : Oper} {a : Act} {w w' : World} {Q : Exit → Act → World → Prop} {v : Value}
theorem listW_valN (hg : o.guard = none) (hd : ∀ c, o.op ≠ .defer c) (hrun : (execOp a.eval o).run P w = .ok (.value v) w)
    (h : wpListIn Fence.wide n P ops Q rest (a.put o.dst v) w) : wpListIn Fence.wide n P ops Q (o :: rest) a w :=
  wpListIn_plain hg fun K hK => ⟨fun _ _ => trivial, by rw [Oper.semAt_plain _ _ _ hd, hrun]; exact hK _ _ h⟩
theorem listW_wantN (hw : Region.wanted o (yielded ops a.tmps) = true) (hd : ∀ c, o.op ≠ .defer c) (hrun : (execOp a.eval o).run P w = .ok (.value v) w)
    (h : wpListIn Fence.wide n P ops Q rest (a.put o.dst v) w) : wpListIn Fence.wide n P ops Q (o :: rest) a w :=
  wpListIn_step fun K hK => by rw [if_pos hw]; exact ⟨fun _ _ => trivial, by rw [Oper.semAt_plain _ _ _ hd, hrun]; exact hK _ _ h⟩
theorem listW_skipN (hg : o.guard = none) (hd : ∀ c, o.op ≠ .defer c) (hrun : (execOp a.eval o).run P w = .ok .skip w')
    (h : wpListIn Fence.wide n P ops Q rest (a.put o.dst undef) w') : wpListIn Fence.wide n P ops Q (o :: rest) a w :=
  wpListIn_plain hg fun K hK => ⟨fun _ _ => trivial, by rw [Oper.semAt_plain _ _ _ hd, hrun]; exact hK _ _ h⟩
end
theorem wp_turnS {o : Oper} {a : Act} {w w' : World} {K : Act → World → Prop} {Q : Exit → Act → World → Prop} {v : Value} (hrun : (execOp a.eval o).run Tryd.prog w = .ok (.value v) w') (h : K (a.put o.dst v) w') : o.wp Tryd.prog a w K Q := by
  unfold Oper.wp; rw [hrun]; exact h
theorem wpIn_actS {F : Fence} {n : Nat} {P : Program} {c : Code} {Q : Exit → Act → World → Prop} {a : Act} {w : World} (h : ∀ a0, a0 = a → c.wpIn F n P Q a0 w) : c.wpIn F n P Q a w := h a rfl
theorem keepsFrom_k {S : Nat → Prop} {B : Nat} {X Y : World} (k : Kept S X Y) (hS : ∀ i, S i → (∃ cs ty fr, X.heap[i]? = some (.cells cs ty fr)) ∨ X.heap.size ≤ i) : KeepsFrom B X Y :=
  ⟨k.size, fun i o _ hi ho => by
    have hlt : i < X.heap.size := by
      rcases Nat.lt_or_ge i X.heap.size with h | h
      · exact h
      · rw [Array.getElem?_eq_none h] at hi; cases hi
    refine (k.block i hlt (fun hs => ?_)).trans hi
    rcases hS i hs with ⟨cs, ty, fr, h1⟩ | h1
    · rw [h1] at hi; cases hi; cases ho
    · omega⟩
theorem own_keepR {X Y : World} {base e s n B : Nat} {v : Value} {xs : List Value} {r : Option Nat} (h : X.ownsRow base e s v n xs) (hg : X.grownBy Y r) (hr : ∀ k, r = some k → B ≤ k ∧ ∃ o : Obj, X.heap[k]? = some o ∧ o.isCells = false) : Y.ownsRow base e s v n xs :=
  own_keptT h (Kept.of_grown hg) (fun g hs cs fr hc => by
    obtain ⟨_, o, ho, hn⟩ := hr g hs.symm
    rw [hc] at ho
    cases ho
    cases hn)
theorem own_sliceN {w : World} {base e s n : Nat} {v : Value} {xs : List Value} (h : w.ownsRow base e s v n xs) : ∃ A c, v = .slice A n c := by
  rcases h.2 with ⟨rfl, rfl⟩ | ⟨g, cap, cur, rfl, _⟩
  · exact ⟨none, 0, rfl⟩
  · exact ⟨_, _, rfl⟩
/-! ### Numbered sessions -/
def clNu (e : Nat × Sd) : List Value := .int .i64 (e.1 : Int) :: clSe e.2
theorem clNu_len (e : Nat × Sd) : (clNu e).length = 6 := rfl
theorem clNu_own (e : Nat × Sd) : ∀ u ∈ clNu e, u.oneCell' = true := fun u hu => by
  simp only [clNu, clSe, List.mem_cons, List.not_mem_nil, or_false] at hu
  rcases hu with rfl | rfl | rfl | rfl | rfl | rfl <;> rfl
theorem info_nu : (Tryd.prog.info? 102).map (fun i => (i.zero, i.size, i.bytes)) = some (some (.agg (clNu (0, sd0)).toArray), 6, 48) := by kernel_rfl
theorem run_load_nus {o : Oper} {a : Act} {w : World} {x : Operand} {p : Addr} {A : Option Addr} {n c : Nat} (ho : o.op = .load 100 x) (hx : a.eval x = .pointer (some p)) (hc : w.cell? p = some (.slice A n c)) :
    (execOp a.eval o).run Tryd.prog w = .ok (.value (.slice A n c)) w := by
  unfold execOp
  simp only [ho, hx, Instr.loadAt, Instr.sureAddr, Sem.run_bind, Sem.run_pure, Result.andThen_ok]
  go_simp
theorem run_load_pst {o : Oper} {a : Act} {w : World} {x : Operand} {p : Addr} {A : Option Addr} (ho : o.op = .load 24 x) (hx : a.eval x = .pointer (some p)) (hc : w.cell? p = some (.pointer A)) :
    (execOp a.eval o).run Tryd.prog w = .ok (.value (.pointer A)) w := by
  unfold execOp
  simp only [ho, hx, Instr.loadAt, Instr.sureAddr, Sem.run_bind, Sem.run_pure, Result.andThen_ok]
  go_simp
theorem store_sliceNu_wp {o : Oper} {a : Act} {w : World} {K : Act → World → Prop} {Q : Exit → Act → World → Prop} {x y : Operand} {p : Addr} {v0 : Value} {A : Option Addr} {m c : Nat} (ho : o.op = .store 100 x y) (hx : a.eval x = .pointer (some p)) (hy : a.eval y = .slice A m c) (hc : w.cell? p = some v0) (hf : w.frozen? p = false) (h : K (a.put o.dst undef) (w.setCell p (.slice A m c))) : o.wp Tryd.prog a w K Q := by
  unfold Oper.wp execOp
  simp only [ho, hx, hy]
  go_simp
  exact h
set_option maxRecDepth 100000 in
theorem run_bsNu {o : Oper} {a : Act} {w : World} {x : Operand} {cs : Array Value} (ho : o.op = .buildSlice 100 1 #[(0, x)]) (hx : a.eval x = .agg cs) (hl : cs.size = 6) :
    (execOp a.eval o).run Tryd.prog w = .ok (.value (.slice (some ⟨w.heap.size, 0, none⟩) 1 1)) (w.alloc (.cells cs 102)) := by
  obtain ⟨i0, hi, hz0, hz1, hz2⟩ := info_parts info_nu
  have h := run_lit1 (P := Tryd.prog) w 100 102 i0 _ cs 6 Tryd.underlying100 hi hz0 hz1 hl (by decide) (by decide)
  unfold execOp
  simp only [ho, List.map_toArray, List.map_cons, List.map_nil, hx, Sem.run_bind, h, Result.andThen_ok]
  rfl
theorem appendNu_wp {o : Oper} {a : Act} {w : World} {K : Act → World → Prop} {Q : Exit → Act → World → Prop} (s x : Operand) (ho : o.op = .call { callee := .builtin .append, args := #[s, x], argTypes := #[100, 100] })
    (base : Nat) (v : Value) (n : Nat) (xs : List Value) (hs : a.eval s = v) (hown : w.ownsRow base 102 6 v n xs) (_ : xs.length = n * 6)
    (g : Nat) (y : Nat × Sd) (hx : a.eval x = .slice (some ⟨g, 0, none⟩) 1 1) (hy : w.rangeAt g 0 (clNu y))
    (hlen : n ≤ 1000000) (hbase : base ≤ w.heap.size)
    (h : ∀ v' w', w'.ownsRow base 102 6 v' (n + 1) (xs ++ clNu y) → w.grownBy w' v.ownBlock → K (a.put o.dst v') w') : o.wp Tryd.prog a w K Q := by
  obtain ⟨i0, hi, hz0, hz1, hz2⟩ := info_parts info_nu
  obtain ⟨v', w', hrun, h1, h2, _⟩ := run_append_own (P := Tryd.prog) w base 100 o.type 102 i0 _ 6 48 Tryd.underlying100 hi hz0 hz1 hz2 rfl (by decide) v n xs hown ⟨g, 0, none⟩ 1 1 (clNu y)
    (clNu_len y) (fun j u hj => by rw [add_off, Nat.zero_add]; have := hy j u hj; rwa [Nat.zero_add] at this) (clNu_own y) (by unfold maxLen; omega) (by omega) hbase
  unfold Oper.wp
  simp [execOp, ho, resolve, invoke, builtin, hs, hx, hrun, Result.andThen]
  exact h v' w' h1 h2
/-! ### What comes -/
def encI (x : Int) : Array Value := #[.int .i64 x]
/-- What is known of an element when it comes. -/
def GN {α : Type} (D : List α) (pre : List α) (x : α) (_ : World) : Prop := ∃ more, D = pre ++ x :: more
/-- What tell makes: an iterator over a box, whose slice reads as these sessions. -/
def TellS (w : World) (D : List (Nat × Sd)) (e : Ending) (w' : World) : Prop :=
  ∃ bx A c, e = .returned (.func (.func 51) #[] #[.pointer (some ⟨bx, 0, none⟩)]) ∧ w.heap.size ≤ bx ∧ Boxed w' bx 100 (.slice A D.length c) ∧ RdS clNu 6 w' w'.heap.size A D ∧ (∀ g, A = some g → w.heap.size ≤ g.block ∧ g.block < w'.heap.size) ∧ Below w.heap.size w w'
set_option maxRecDepth 100000 in
set_option maxHeartbeats 4000000 in
theorem setell (P : Option Addr) (gf : Nat) (lb : Array Value) (eg : ∀ args w, (callFunc gf args).run Tryd.prog w = .ok (.enter gf args) w) (D : List (Nat × Sd)) (Ai : Option Addr) (w : World) (hA : ∀ g, Ai = some g → g.block < w.heap.size)
    (hseq : ∀ V, Below w.heap.size w V → SeqTold (4 - 1) Tryd.prog gf lb encI (GN (D.map fun e => (e.1 : Int))) (KeepN Ai) (fun xs => xs = D.map fun e => (e.1 : Int)) (fun pre => ∃ more, (D.map fun e => (e.1 : Int)) = pre ++ more) V)
    (hrow : D ≠ [] → ∃ d A n c S, P = some ⟨d, 0, none⟩ ∧ w.cell? ⟨d, 0, none⟩ = some (.slice A n c) ∧ n = S.length ∧ RdS clSl 6 w w.heap.size A S ∧ ∀ e ∈ D, S[e.1]? = some (some e.2)) (hD : D.length ≤ 100000) :
    Calls Tryd.prog 34 #[.pointer P, .func (.func gf) #[] lb] w fun e w' => TellS w D e w' := by
  have HSQ := Lib.hid hseq
  have HRW := Lib.hid hrow
  have HDL := Lib.hid hD
  have HAI := Lib.hid hA
  clear hseq hrow hD hA
  have hW0 : Below w.heap.size w ((w.alloc (.cells #[.pointer P] 24)).alloc (.cells #[.slice none 0 0] 100)) := (((Below.refl _ w).alloc (Nat.le_refl _) _).alloc (by simp) _)
  have hx0 : Boxed ((w.alloc (.cells #[.pointer P] 24)).alloc (.cells #[.slice none 0 0] 100)) w.heap.size 24 (.pointer P) := ((Boxed.new w 24 _).alloc _)
  have hb0 : Boxed ((w.alloc (.cells #[.pointer P] 24)).alloc (.cells #[.slice none 0 0] 100)) (w.heap.size + 1) 100 (.slice none 0 0) := by
    have := Boxed.new (w.alloc (.cells #[.pointer P] 24)) 100 (.slice none 0 0)
    rw [World.size_alloc] at this
    exact this
  have hz0 : ((w.alloc (.cells #[.pointer P] 24)).alloc (.cells #[.slice none 0 0] 100)).heap.size = w.heap.size + 2 := by simp
  refine (callsIn_wide (n := 4)).1 ?_
  refine callsIn_of_wp_marks Tryd.func34 rfl trivial ?_ rfl
  simp only [Tryd.ntmps34, List.size_toArray, List.length_cons, List.length_nil, Nat.reduceAdd, Nat.reduceSub, Array.replicate_succ, Array.replicate_zero, List.push_toArray, List.append_toArray, List.nil_append, List.cons_append]
  gi_upto_region 2 with fail
  generalize hV0 : ((w.alloc (.cells #[.pointer P] 24)).alloc (.cells #[.slice none 0 0] 100)) = V0 at *
  clear hV0
  gi_wp2
  refine wpIn_actS (fun a0 ha0 => ?_)
  refine range_told (by omega) (gf := gf) (lb := lb) (by subst ha0; rfl) eg
    (HSQ.out V0 hW0) KeepN.trans (fun V l r r' hl hr => KeepN.loop hr) (Below.refl _ _) (fun _ => rfl)
    (fun pre x V l r r' h _ hl => h)
    (fun pre X => (∃ v, Boxed X w.heap.size 24 (.pointer P) ∧ Boxed X (w.heap.size + 1) 100 v ∧ X.ownsRow (w.heap.size + 2) 102 6 v pre.length ((D.take pre.length).flatMap clNu) ∧ Below w.heap.size w X) ∧ w.heap.size + 2 ≤ X.heap.size)
    (fun _ _ _ => False)
    (fun pre X Y r ⟨⟨v, h1, h2, h3, h4⟩, hz⟩ hg hr => ⟨⟨v, box_keep h1 hg hr, box_keep h2 hg hr, own_keepR h3 hg hr, below_keep h4 hg hr (by omega) (Nat.le_refl _)⟩, Nat.le_trans hz hg.size⟩)
    (fun cd pre X Y r hs hg hr => hs)
    ⟨⟨_, hx0, hb0, World.ownsRow_nil _ _ _ _, hW0⟩, by omega⟩
    (fun x => { tmps := (a0.tmps.setIfInBounds 8 (.int .i64 x)).setIfInBounds 6 (.int .i64 x), defers := [] }) ?assign ?body ?done ?stop
  case assign =>
    intro l x W K hK
    subst ha0
    dsimp only [encI]
    simp only [List.setIfInBounds_toArray, List.set_cons_succ, List.set_cons_zero] at hK
    gi_wp2
    exact hK
  case body =>
    rintro l pre x0 Y ⟨⟨v1, hxY, hbY, hoY, hBY⟩, hzY⟩ ⟨more, hmore⟩
    subst ha0
    simp only [List.setIfInBounds_toArray, List.set_cons_succ, List.set_cons_zero]
    obtain ⟨m, hm⟩ : ∃ m, m = pre.length := ⟨_, rfl⟩
    have hmD : m < D.length := by
      have := congrArg List.length hmore
      simp at this
      omega
    obtain ⟨e, he⟩ : ∃ e, D[m]? = some e := ⟨_, List.getElem?_eq_getElem hmD⟩
    obtain ⟨k, x⟩ := e
    have hxk : x0 = (k : Int) := by
      have h1 : (D.map fun e => (e.1 : Int))[m]? = some x0 := by rw [hmore, hm]; simp
      rw [List.getElem?_map, he] at h1
      exact (Option.some.inj h1).symm
    subst hxk
    have htk : (D.take (m + 1)).flatMap clNu = (D.take m).flatMap clNu ++ clNu (k, x) := by
      rw [List.take_succ_eq_append_getElem hmD, List.flatMap_append]
      have : D[m] = (k, x) := by rw [List.getElem?_eq_getElem hmD] at he; exact Option.some.inj he
      rw [this]; simp
    obtain ⟨d, As, ns, cs, S, rfl, k0w, hns, hrdw, hall⟩ := HRW.out (fun e => by rw [e] at hmD; simp at hmD)
    have hSk := hall _ (List.mem_of_getElem? he)
    have hkS : k < ns := by rw [hns]; exact (List.getElem?_eq_some_iff.1 hSk).1
    have k0 : Y.drew.cell? ⟨d, 0, none⟩ = some (.slice As ns cs) := (hBY.cell (p := ⟨d, 0, none⟩) (cell_block k0w)).trans k0w
    obtain ⟨gs, os, rfl, hgs, hr0⟩ := hrdw (by omega)
    have hrx : Y.drew.rangeAt gs (os + k * 6) (clSe x) := fun j v hj => (hBY.cell (p := ⟨gs, _, none⟩) hgs).trans (hr0 k _ hSk j v (by show (clSe x ++ [.bool true])[j]? = some v; rw [List.getElem?_append_left (List.getElem?_eq_some_iff.1 hj).1]; exact hj))
    obtain ⟨A1, c1, rfl⟩ := own_sliceN hoY
    rw [← hm] at hoY hbY
    obtain ⟨L, hL⟩ : ∃ L, L = (D.take m).flatMap clNu := ⟨_, rfl⟩
    rw [← hL] at hoY htk
    have HPL : Hid (L.length = m * 6) := Lib.hid (by rw [hL, flat_len (cl := clNu) (sz := 6) _ (fun x _ => clNu_len x), List.length_take, Nat.min_eq_left (by omega)])
    have HML : Hid (m ≤ 1000000) := Lib.hid (by have := HDL.out; omega)
    obtain ⟨X1, hX1⟩ : ∃ X1, X1 = Y.drew.alloc (.cells (clNu (k, x)).toArray 102) := ⟨_, rfl⟩
    have bX1 : Below Y.heap.size Y X1 := by rw [hX1]; exact ((Below.refl _ Y).drew).alloc (Nat.le_refl _) _
    have hnx : (Y.drew.alloc (.cells (clNu (k, x)).toArray 102)).rangeAt Y.heap.size 0 (clNu (k, x)) := range_heap (World.alloc_heap_new Y.drew _)
    have ho1 : (Y.drew.alloc (.cells (clNu (k, x)).toArray 102)).ownsRow (w.heap.size + 2) 102 6 (.slice A1 m c1) m L := by rw [← hX1]; exact own_below hoY bX1
    have kb : Boxed Y.drew (w.heap.size + 1) 100 (.slice A1 m c1) := hbY
    have kp : Boxed Y.drew w.heap.size 24 (.pointer (some ⟨d, 0, none⟩)) := hxY
    have kbA : Boxed (Y.drew.alloc (.cells (clNu (k, x)).toArray 102)) (w.heap.size + 1) 100 (.slice A1 m c1) := by rw [← hX1]; exact Boxed.below hbY bX1 (Boxed.lt hbY)
    have kpA : Boxed (Y.drew.alloc (.cells (clNu (k, x)).toArray 102)) w.heap.size 24 (.pointer (some ⟨d, 0, none⟩)) := by rw [← hX1]; exact Boxed.below hxY bX1 (Boxed.lt hxY)
    have HBZ : Hid (w.heap.size + 2 ≤ (Y.drew.alloc (.cells (clNu (k, x)).toArray 102)).heap.size) := Lib.hid (by rw [← hX1]; exact Nat.le_trans hzY bX1.size)
    have hnb : ∀ i, (Value.slice A1 m c1).ownBlock = some i → w.heap.size + 2 ≤ i ∧ ∃ cs, Y.heap[i]? = some (.cells cs 102 (0, 0)) := fun i hi => by
      rcases hoY.2 with ⟨hv, _⟩ | ⟨g, cap, cur, hv, hb', hh, _⟩
      · rw [hv] at hi; cases hi
      · rw [hv] at hi
        obtain rfl : g = i := by injection hi
        exact ⟨hb', cur, hh⟩
    have HBX2 : Hid (∀ Z, (Y.drew.alloc (.cells (clNu (k, x)).toArray 102)).grownBy Z (Value.slice A1 m c1).ownBlock → Boxed Z (w.heap.size + 1) 100 (.slice A1 m c1)) := Lib.hid (fun Z hg => by
      refine (hg.block (w.heap.size + 1) (Boxed.lt kbA) (fun e => ?_)).trans kbA
      have := (hnb _ e.symm).1; omega)
    have HEND : Hid (∀ (A2 : Option Addr) (c2 : Nat) (Z : World), Z.ownsRow (w.heap.size + 2) 102 6 (.slice A2 (m + 1) c2) (m + 1) (L ++ clNu (k, x)) → (Y.drew.alloc (.cells (clNu (k, x)).toArray 102)).grownBy Z (Value.slice A1 m c1).ownBlock →
        KeepsFrom V0.heap.size Y (Z.setCell ⟨w.heap.size + 1, 0, none⟩ (.slice A2 (m + 1) c2)) ∧ KeepN Ai Y (Z.setCell ⟨w.heap.size + 1, 0, none⟩ (.slice A2 (m + 1) c2)) ∧
          (∃ v, Boxed (Z.setCell ⟨w.heap.size + 1, 0, none⟩ (.slice A2 (m + 1) c2)) w.heap.size 24 (.pointer (some ⟨d, 0, none⟩)) ∧ Boxed (Z.setCell ⟨w.heap.size + 1, 0, none⟩ (.slice A2 (m + 1) c2)) (w.heap.size + 1) 100 v ∧ (Z.setCell ⟨w.heap.size + 1, 0, none⟩ (.slice A2 (m + 1) c2)).ownsRow (w.heap.size + 2) 102 6 v (pre ++ [(k : Int)]).length ((D.take (pre ++ [(k : Int)]).length).flatMap clNu) ∧ Below w.heap.size w (Z.setCell ⟨w.heap.size + 1, 0, none⟩ (.slice A2 (m + 1) c2))) ∧ w.heap.size + 2 ≤ (Z.setCell ⟨w.heap.size + 1, 0, none⟩ (.slice A2 (m + 1) c2)).heap.size) := Lib.hid (fun A2 c2 Z ho hg => by
      have kZ0 : Kept (fun i => (Value.slice A1 m c1).ownBlock = some i) Y Z := (Kept.of_below (by rw [← hX1]; exact bX1)).trans ((Kept.of_grown hg).mono (T := fun i => (Value.slice A1 m c1).ownBlock = some i) (fun i _ e => e.symm)) (fun _ _ e => e)
      have kbZ : Boxed Z (w.heap.size + 1) 100 (.slice A1 m c1) := HBX2.out Z hg
      have k1 := Kept.setCell Z (w.heap.size + 1) 0 (.slice A2 (m + 1) c2)
      have kZ : Kept (fun i => (Value.slice A1 m c1).ownBlock = some i ∨ i = w.heap.size + 1) Y (Z.setCell ⟨w.heap.size + 1, 0, none⟩ (.slice A2 (m + 1) c2)) :=
        (kZ0.mono (T := fun i => (Value.slice A1 m c1).ownBlock = some i ∨ i = w.heap.size + 1) (fun _ _ e => .inl e)).trans k1 (fun _ _ e => .inr e)
      have hpl : (pre ++ [(k : Int)]).length = m + 1 := by rw [hm]; simp
      rw [hpl]
      refine ⟨keepsFrom_k kZ (fun i hi => ?_), KeepN.of_heap (fun g9 e9 => ?_), ⟨.slice A2 (m + 1) c2, ?_, ?_, ?_, ?_⟩, Nat.le_trans hzY kZ.size⟩
      · rcases hi with hi | hi
        · obtain ⟨_, cs', h1⟩ := hnb i hi
          exact .inl ⟨cs', _, _, h1⟩
        · rw [hi]; exact .inl ⟨_, _, _, hbY⟩
      · refine kZ.block g9.block (Nat.lt_of_lt_of_le (HAI.out g9 e9) hBY.size) (fun hi => ?_)
        have h1 := HAI.out g9 e9
        rcases hi with hi | hi
        · have := (hnb _ hi).1; omega
        · omega
      · refine (kZ.block w.heap.size (Boxed.lt hxY) (fun hi => ?_)).trans hxY
        rcases hi with hi | hi
        · have := (hnb _ hi).1; omega
        · omega
      · exact heap_setCell_same Z (w.heap.size + 1) 0 _ _ _ kbZ
      · rw [htk]
        exact own_keptT ho k1 (fun g hs cs fr hc => by
          rw [show g = w.heap.size + 1 from hs, show Z.heap[w.heap.size + 1]? = _ from kbZ] at hc
          injection hc with hc
          injection hc with _ h9 _
          exact absurd h9 (nat_ne (by kernel_rfl)))
      · exact hBY.trans (kZ.below hBY.size (fun i hi => by
          rcases hi with hi | hi
          · have := (hnb _ hi).1; omega
          · omega)))
    have dk1 : (0 : Int) ≤ (k : Int) := by omega
    have dk2 : (k : Int) < (ns : Int) := by omega
    clear hns hmore he hxY hbY hoY hall hSk hrdw hr0 hL hX1 bX1 hnb htk k0w HSQ HRW hW0 hx0 hb0
    gi_upto_region 4 with fail
    refine region_roundH (S := fun _ => True) (by kernel_rfl) (by kernel_rfl) (fun h => by obtain ⟨_, _, h⟩ := h; exact h) trivial (fun hS => ?_)
    refine held_pure (i := 1) (oi := ⟨some 10, _, _, _, _, _⟩) rfl (by kernel_rfl) (by kernel_rfl) (by kernel_rfl) (fun _ _ _ h => h) (by rfl) (v := ?_) (fun w hSw => ?_) hS (fun hS => ?_)
    rotate_left
    · go_simp; try with_reducible rfl
    try go_frame
    refine held_pure (i := 6) (oi := ⟨some 15, _, _, _, _, _⟩) rfl (by kernel_rfl) (by kernel_rfl) (by kernel_rfl) (fun _ _ _ h => h) (by rfl) (v := ?_) (fun w hSw => ?_) hS (fun hS => ?_)
    rotate_left
    · go_simp; try with_reducible rfl
    try go_frame
    refine wpAnyH_ready (rs := [0, 2]) (by kernel_rfl) (by simp) (AllReadyH.cons (o := ⟨some 9, _, _, _, _, _⟩) rfl (fun K hK => ?_) (AllReadyH.cons (o := ⟨some 11, _, _, _, _, _⟩) rfl (fun K hK => ?_) AllReadyH.nil))
    · rw [if_pos (by rfl)]
      refine wp_turnS (v := .slice A1 m c1) (by first | exact run_load_nus rfl rfl kb.cell | exact run_load_nus rfl rfl kbA.cell) ?_
      refine hK.out _ _ trivial (fun hS => ?_)
      clear hK K
      try go_frame
      refine wpAnyH_ready (rs := [2]) (by kernel_rfl) (by simp) (AllReadyH.cons (o := ⟨some 11, _, _, _, _, _⟩) rfl (fun K hK => ?_) AllReadyH.nil)
      rw [if_pos (by rfl)]
      refine wp_turnS (v := .pointer (some ⟨d, 0, none⟩)) (by first | exact run_load_pst rfl rfl kp.cell | exact run_load_pst rfl rfl kpA.cell) ?_
      refine hK.out _ _ trivial (fun hS => ?_)
      clear hK K
      try go_frame
      refine held_pure (i := 3) (oi := ⟨some 12, _, _, _, _, _⟩) rfl (by kernel_rfl) (by kernel_rfl) (by kernel_rfl) (fun _ _ _ h => h) (by rfl) (v := ?_) (fun w hSw => ?_) hS (fun hS => ?_)
      rotate_left
      · go_simp; try with_reducible rfl
      try go_frame
      refine held_pure (i := 4) (oi := ⟨some 13, _, _, _, _, _⟩) rfl (by kernel_rfl) (by kernel_rfl) (by kernel_rfl) (fun _ _ _ h => h) (by rfl) (v := ?_) (fun w hSw => ?_) hS (fun hS => ?_)
      rotate_left
      · go_simp; try with_reducible rfl
      try go_frame
      refine wpAnyH_ready (rs := [5]) (by kernel_rfl) (by simp) (AllReadyH.cons (o := ⟨some 14, _, _, _, _, _⟩) rfl (fun K hK => ?_) AllReadyH.nil)
      rw [if_pos (by rfl)]
      refine wp_turnS (v := .slice (some ⟨gs, os, none⟩) ns cs) (by exact run_load_sls rfl rfl k0) ?_
      refine hK.out _ _ trivial (fun hS => ?_)
      clear hK K
      try go_frame
      refine held_pure (i := 7) (oi := ⟨some 16, _, _, _, _, _⟩) rfl (by kernel_rfl) (by kernel_rfl) (by kernel_rfl) (fun _ _ _ h => h) (by rfl) (v := .pointer (some ⟨gs, os + k * 6, none⟩)) (fun w hSw => by go_simp; try exact fun h => absurd h (by omega)) hS (fun hS => ?_)
      try go_frame
      refine held_pure (i := 8) (oi := ⟨some 17, _, _, _, _, _⟩) rfl (by kernel_rfl) (by kernel_rfl) (by kernel_rfl) (fun _ _ _ h => h) (by rfl) (v := ?_) (fun w hSw => ?_) hS (fun hS => ?_)
      rotate_left
      · go_simp; try with_reducible rfl
      try go_frame
      refine wpAnyH_ready (rs := [9]) (by kernel_rfl) (by simp) (AllReadyH.cons (o := ⟨some 18, _, _, _, _, _⟩) rfl (fun K hK => ?_) AllReadyH.nil)
      rw [if_pos (by rfl)]
      refine wp_turnS (v := seV x) (by exact run_load_se rfl rfl hrx) ?_
      refine hK.out _ _ trivial (fun hS => ?_)
      clear hK K
      try go_frame
      refine held_pure (i := 10) (oi := ⟨some 19, _, _, _, _, _⟩) rfl (by kernel_rfl) (by kernel_rfl) (by kernel_rfl) (fun _ _ _ h => h) (by rfl) (v := .agg (clNu (k, x)).toArray) (fun w hSw => by unfold seV clSe clNu; go_simp; try rfl) hS (fun hS => ?_)
      try go_frame
      refine wpAnyH_ready (rs := [11]) (by kernel_rfl) (by simp) (AllReadyH.cons (o := ⟨some 20, _, _, _, _, _⟩) rfl (fun K hK => ?_) AllReadyH.nil)
      rw [if_pos (by rfl)]
      refine wp_turnS (run_bsNu (cs := (clNu (k, x)).toArray) rfl rfl rfl) ?_
      refine hK.out _ _ trivial (fun hS => ?_)
      clear hK K
      try go_frame
      refine wpAnyH_ready (rs := [12]) (by kernel_rfl) (by simp) (AllReadyH.cons (o := ⟨some 21, _, _, _, _, _⟩) rfl (fun K hK => ?_) AllReadyH.nil)
      rw [if_pos (by rfl)]
      refine appendNu_wp _ _ rfl (w.heap.size + 2) (.slice A1 m c1) m L rfl ho1 HPL.out Y.heap.size (k, x) rfl hnx HML.out HBZ.out ?_
      intro v2 Z own2 grow2
      refine hK.out _ _ trivial (fun hS => ?_)
      clear hK K
      try go_frame
      refine wpAnyH_ready (rs := [13]) (by kernel_rfl) (by simp) (AllReadyH.cons (o := ⟨none, _, _, _, _, _⟩) rfl (fun K hK => ?_) AllReadyH.nil)
      rw [if_pos (by rfl)]
      obtain ⟨A2, c2, e2⟩ := own_sliceN own2
      subst e2
      have kb2 := HBX2.out Z grow2
      refine store_sliceNu_wp rfl rfl rfl kb2.cell kb2.frozen ?_
      refine hK.out _ _ trivial (fun hS => ?_)
      clear hK K
      try go_frame
      refine wpAnyH_done (by kernel_rfl) ?_ _
      gi_wp2
      exact HEND.out A2 c2 Z own2 grow2
    · rw [if_pos (by rfl)]
      refine wp_turnS (v := .pointer (some ⟨d, 0, none⟩)) (by first | exact run_load_pst rfl rfl kp.cell | exact run_load_pst rfl rfl kpA.cell) ?_
      refine hK.out _ _ trivial (fun hS => ?_)
      clear hK K
      try go_frame
      refine held_pure (i := 3) (oi := ⟨some 12, _, _, _, _, _⟩) rfl (by kernel_rfl) (by kernel_rfl) (by kernel_rfl) (fun _ _ _ h => h) (by rfl) (v := ?_) (fun w hSw => ?_) hS (fun hS => ?_)
      rotate_left
      · go_simp; try with_reducible rfl
      try go_frame
      refine held_pure (i := 4) (oi := ⟨some 13, _, _, _, _, _⟩) rfl (by kernel_rfl) (by kernel_rfl) (by kernel_rfl) (fun _ _ _ h => h) (by rfl) (v := ?_) (fun w hSw => ?_) hS (fun hS => ?_)
      rotate_left
      · go_simp; try with_reducible rfl
      try go_frame
      refine wpAnyH_ready (rs := [0, 5]) (by kernel_rfl) (by simp) (AllReadyH.cons (o := ⟨some 9, _, _, _, _, _⟩) rfl (fun K hK => ?_) (AllReadyH.cons (o := ⟨some 14, _, _, _, _, _⟩) rfl (fun K hK => ?_) AllReadyH.nil))
      · rw [if_pos (by rfl)]
        refine wp_turnS (v := .slice A1 m c1) (by first | exact run_load_nus rfl rfl kb.cell | exact run_load_nus rfl rfl kbA.cell) ?_
        refine hK.out _ _ trivial (fun hS => ?_)
        clear hK K
        try go_frame
        refine wpAnyH_ready (rs := [5]) (by kernel_rfl) (by simp) (AllReadyH.cons (o := ⟨some 14, _, _, _, _, _⟩) rfl (fun K hK => ?_) AllReadyH.nil)
        rw [if_pos (by rfl)]
        refine wp_turnS (v := .slice (some ⟨gs, os, none⟩) ns cs) (by exact run_load_sls rfl rfl k0) ?_
        refine hK.out _ _ trivial (fun hS => ?_)
        clear hK K
        try go_frame
        refine held_pure (i := 7) (oi := ⟨some 16, _, _, _, _, _⟩) rfl (by kernel_rfl) (by kernel_rfl) (by kernel_rfl) (fun _ _ _ h => h) (by rfl) (v := .pointer (some ⟨gs, os + k * 6, none⟩)) (fun w hSw => by go_simp; try exact fun h => absurd h (by omega)) hS (fun hS => ?_)
        try go_frame
        refine held_pure (i := 8) (oi := ⟨some 17, _, _, _, _, _⟩) rfl (by kernel_rfl) (by kernel_rfl) (by kernel_rfl) (fun _ _ _ h => h) (by rfl) (v := ?_) (fun w hSw => ?_) hS (fun hS => ?_)
        rotate_left
        · go_simp; try with_reducible rfl
        try go_frame
        refine wpAnyH_ready (rs := [9]) (by kernel_rfl) (by simp) (AllReadyH.cons (o := ⟨some 18, _, _, _, _, _⟩) rfl (fun K hK => ?_) AllReadyH.nil)
        rw [if_pos (by rfl)]
        refine wp_turnS (v := seV x) (by exact run_load_se rfl rfl hrx) ?_
        refine hK.out _ _ trivial (fun hS => ?_)
        clear hK K
        try go_frame
        refine held_pure (i := 10) (oi := ⟨some 19, _, _, _, _, _⟩) rfl (by kernel_rfl) (by kernel_rfl) (by kernel_rfl) (fun _ _ _ h => h) (by rfl) (v := .agg (clNu (k, x)).toArray) (fun w hSw => by unfold seV clSe clNu; go_simp; try rfl) hS (fun hS => ?_)
        try go_frame
        refine wpAnyH_ready (rs := [11]) (by kernel_rfl) (by simp) (AllReadyH.cons (o := ⟨some 20, _, _, _, _, _⟩) rfl (fun K hK => ?_) AllReadyH.nil)
        rw [if_pos (by rfl)]
        refine wp_turnS (run_bsNu (cs := (clNu (k, x)).toArray) rfl rfl rfl) ?_
        refine hK.out _ _ trivial (fun hS => ?_)
        clear hK K
        try go_frame
        refine wpAnyH_ready (rs := [12]) (by kernel_rfl) (by simp) (AllReadyH.cons (o := ⟨some 21, _, _, _, _, _⟩) rfl (fun K hK => ?_) AllReadyH.nil)
        rw [if_pos (by rfl)]
        refine appendNu_wp _ _ rfl (w.heap.size + 2) (.slice A1 m c1) m L rfl ho1 HPL.out Y.heap.size (k, x) rfl hnx HML.out HBZ.out ?_
        intro v2 Z own2 grow2
        refine hK.out _ _ trivial (fun hS => ?_)
        clear hK K
        try go_frame
        refine wpAnyH_ready (rs := [13]) (by kernel_rfl) (by simp) (AllReadyH.cons (o := ⟨none, _, _, _, _, _⟩) rfl (fun K hK => ?_) AllReadyH.nil)
        rw [if_pos (by rfl)]
        obtain ⟨A2, c2, e2⟩ := own_sliceN own2
        subst e2
        have kb2 := HBX2.out Z grow2
        refine store_sliceNu_wp rfl rfl rfl kb2.cell kb2.frozen ?_
        refine hK.out _ _ trivial (fun hS => ?_)
        clear hK K
        try go_frame
        refine wpAnyH_done (by kernel_rfl) ?_ _
        gi_wp2
        exact HEND.out A2 c2 Z own2 grow2
      · rw [if_pos (by rfl)]
        refine wp_turnS (v := .slice (some ⟨gs, os, none⟩) ns cs) (by exact run_load_sls rfl rfl k0) ?_
        refine hK.out _ _ trivial (fun hS => ?_)
        clear hK K
        try go_frame
        refine held_pure (i := 7) (oi := ⟨some 16, _, _, _, _, _⟩) rfl (by kernel_rfl) (by kernel_rfl) (by kernel_rfl) (fun _ _ _ h => h) (by rfl) (v := .pointer (some ⟨gs, os + k * 6, none⟩)) (fun w hSw => by go_simp; try exact fun h => absurd h (by omega)) hS (fun hS => ?_)
        try go_frame
        refine held_pure (i := 8) (oi := ⟨some 17, _, _, _, _, _⟩) rfl (by kernel_rfl) (by kernel_rfl) (by kernel_rfl) (fun _ _ _ h => h) (by rfl) (v := ?_) (fun w hSw => ?_) hS (fun hS => ?_)
        rotate_left
        · go_simp; try with_reducible rfl
        try go_frame
        refine wpAnyH_ready (rs := [0, 9]) (by kernel_rfl) (by simp) (AllReadyH.cons (o := ⟨some 9, _, _, _, _, _⟩) rfl (fun K hK => ?_) (AllReadyH.cons (o := ⟨some 18, _, _, _, _, _⟩) rfl (fun K hK => ?_) AllReadyH.nil))
        · rw [if_pos (by rfl)]
          refine wp_turnS (v := .slice A1 m c1) (by first | exact run_load_nus rfl rfl kb.cell | exact run_load_nus rfl rfl kbA.cell) ?_
          refine hK.out _ _ trivial (fun hS => ?_)
          clear hK K
          try go_frame
          refine wpAnyH_ready (rs := [9]) (by kernel_rfl) (by simp) (AllReadyH.cons (o := ⟨some 18, _, _, _, _, _⟩) rfl (fun K hK => ?_) AllReadyH.nil)
          rw [if_pos (by rfl)]
          refine wp_turnS (v := seV x) (by exact run_load_se rfl rfl hrx) ?_
          refine hK.out _ _ trivial (fun hS => ?_)
          clear hK K
          try go_frame
          refine held_pure (i := 10) (oi := ⟨some 19, _, _, _, _, _⟩) rfl (by kernel_rfl) (by kernel_rfl) (by kernel_rfl) (fun _ _ _ h => h) (by rfl) (v := .agg (clNu (k, x)).toArray) (fun w hSw => by unfold seV clSe clNu; go_simp; try rfl) hS (fun hS => ?_)
          try go_frame
          refine wpAnyH_ready (rs := [11]) (by kernel_rfl) (by simp) (AllReadyH.cons (o := ⟨some 20, _, _, _, _, _⟩) rfl (fun K hK => ?_) AllReadyH.nil)
          rw [if_pos (by rfl)]
          refine wp_turnS (run_bsNu (cs := (clNu (k, x)).toArray) rfl rfl rfl) ?_
          refine hK.out _ _ trivial (fun hS => ?_)
          clear hK K
          try go_frame
          refine wpAnyH_ready (rs := [12]) (by kernel_rfl) (by simp) (AllReadyH.cons (o := ⟨some 21, _, _, _, _, _⟩) rfl (fun K hK => ?_) AllReadyH.nil)
          rw [if_pos (by rfl)]
          refine appendNu_wp _ _ rfl (w.heap.size + 2) (.slice A1 m c1) m L rfl ho1 HPL.out Y.heap.size (k, x) rfl hnx HML.out HBZ.out ?_
          intro v2 Z own2 grow2
          refine hK.out _ _ trivial (fun hS => ?_)
          clear hK K
          try go_frame
          refine wpAnyH_ready (rs := [13]) (by kernel_rfl) (by simp) (AllReadyH.cons (o := ⟨none, _, _, _, _, _⟩) rfl (fun K hK => ?_) AllReadyH.nil)
          rw [if_pos (by rfl)]
          obtain ⟨A2, c2, e2⟩ := own_sliceN own2
          subst e2
          have kb2 := HBX2.out Z grow2
          refine store_sliceNu_wp rfl rfl rfl kb2.cell kb2.frozen ?_
          refine hK.out _ _ trivial (fun hS => ?_)
          clear hK K
          try go_frame
          refine wpAnyH_done (by kernel_rfl) ?_ _
          gi_wp2
          exact HEND.out A2 c2 Z own2 grow2
        · rw [if_pos (by rfl)]
          refine wp_turnS (v := seV x) (by exact run_load_se rfl rfl hrx) ?_
          refine hK.out _ _ trivial (fun hS => ?_)
          clear hK K
          try go_frame
          refine held_pure (i := 10) (oi := ⟨some 19, _, _, _, _, _⟩) rfl (by kernel_rfl) (by kernel_rfl) (by kernel_rfl) (fun _ _ _ h => h) (by rfl) (v := .agg (clNu (k, x)).toArray) (fun w hSw => by unfold seV clSe clNu; go_simp; try rfl) hS (fun hS => ?_)
          try go_frame
          refine wpAnyH_ready (rs := [0, 11]) (by kernel_rfl) (by simp) (AllReadyH.cons (o := ⟨some 9, _, _, _, _, _⟩) rfl (fun K hK => ?_) (AllReadyH.cons (o := ⟨some 20, _, _, _, _, _⟩) rfl (fun K hK => ?_) AllReadyH.nil))
          · rw [if_pos (by rfl)]
            refine wp_turnS (v := .slice A1 m c1) (by first | exact run_load_nus rfl rfl kb.cell | exact run_load_nus rfl rfl kbA.cell) ?_
            refine hK.out _ _ trivial (fun hS => ?_)
            clear hK K
            try go_frame
            refine wpAnyH_ready (rs := [11]) (by kernel_rfl) (by simp) (AllReadyH.cons (o := ⟨some 20, _, _, _, _, _⟩) rfl (fun K hK => ?_) AllReadyH.nil)
            rw [if_pos (by rfl)]
            refine wp_turnS (run_bsNu (cs := (clNu (k, x)).toArray) rfl rfl rfl) ?_
            refine hK.out _ _ trivial (fun hS => ?_)
            clear hK K
            try go_frame
            refine wpAnyH_ready (rs := [12]) (by kernel_rfl) (by simp) (AllReadyH.cons (o := ⟨some 21, _, _, _, _, _⟩) rfl (fun K hK => ?_) AllReadyH.nil)
            rw [if_pos (by rfl)]
            refine appendNu_wp _ _ rfl (w.heap.size + 2) (.slice A1 m c1) m L rfl ho1 HPL.out Y.heap.size (k, x) rfl hnx HML.out HBZ.out ?_
            intro v2 Z own2 grow2
            refine hK.out _ _ trivial (fun hS => ?_)
            clear hK K
            try go_frame
            refine wpAnyH_ready (rs := [13]) (by kernel_rfl) (by simp) (AllReadyH.cons (o := ⟨none, _, _, _, _, _⟩) rfl (fun K hK => ?_) AllReadyH.nil)
            rw [if_pos (by rfl)]
            obtain ⟨A2, c2, e2⟩ := own_sliceN own2
            subst e2
            have kb2 := HBX2.out Z grow2
            refine store_sliceNu_wp rfl rfl rfl kb2.cell kb2.frozen ?_
            refine hK.out _ _ trivial (fun hS => ?_)
            clear hK K
            try go_frame
            refine wpAnyH_done (by kernel_rfl) ?_ _
            gi_wp2
            exact HEND.out A2 c2 Z own2 grow2
          · rw [if_pos (by rfl)]
            refine wp_turnS (run_bsNu (cs := (clNu (k, x)).toArray) rfl rfl rfl) ?_
            refine hK.out _ _ trivial (fun hS => ?_)
            clear hK K
            try go_frame
            refine wpAnyH_ready (rs := [0]) (by kernel_rfl) (by simp) (AllReadyH.cons (o := ⟨some 9, _, _, _, _, _⟩) rfl (fun K hK => ?_) AllReadyH.nil)
            rw [if_pos (by rfl)]
            refine wp_turnS (v := .slice A1 m c1) (by first | exact run_load_nus rfl rfl kb.cell | exact run_load_nus rfl rfl kbA.cell) ?_
            refine hK.out _ _ trivial (fun hS => ?_)
            clear hK K
            try go_frame
            refine wpAnyH_ready (rs := [12]) (by kernel_rfl) (by simp) (AllReadyH.cons (o := ⟨some 21, _, _, _, _, _⟩) rfl (fun K hK => ?_) AllReadyH.nil)
            rw [if_pos (by rfl)]
            refine appendNu_wp _ _ rfl (w.heap.size + 2) (.slice A1 m c1) m L rfl ho1 HPL.out Y.heap.size (k, x) rfl hnx HML.out HBZ.out ?_
            intro v2 Z own2 grow2
            refine hK.out _ _ trivial (fun hS => ?_)
            clear hK K
            try go_frame
            refine wpAnyH_ready (rs := [13]) (by kernel_rfl) (by simp) (AllReadyH.cons (o := ⟨none, _, _, _, _, _⟩) rfl (fun K hK => ?_) AllReadyH.nil)
            rw [if_pos (by rfl)]
            obtain ⟨A2, c2, e2⟩ := own_sliceN own2
            subst e2
            have kb2 := HBX2.out Z grow2
            refine store_sliceNu_wp rfl rfl rfl kb2.cell kb2.frozen ?_
            refine hK.out _ _ trivial (fun hS => ?_)
            clear hK K
            try go_frame
            refine wpAnyH_done (by kernel_rfl) ?_ _
            gi_wp2
            exact HEND.out A2 c2 Z own2 grow2
  case stop =>
    rintro D9 cd pre X hD9 _ hf hK
    exact hf.elim
  case done =>
    rintro D9 xs X hD9 hxs ⟨⟨v1, hxX, hbX, hoX, hBX⟩, hzX⟩ hK
    subst ha0
    subst hxs
    rw [List.length_map] at hoX
    rw [List.take_length] at hoX
    have hm1 : Marks V0.heap.size X.heap.size [{ target := .collected D9, args := #[] }] X := (Marks.push (hi := D9) (ds := []) trivial (Nat.le_refl _) hD9 hK).more (heap_lt hK)
    obtain ⟨A1, c1, rfl⟩ := own_sliceN hoX
    gi_wp2
    refine leaves_marks V0.heap.size (fun Y => (Boxed Y (w.heap.size + 1) 100 (.slice A1 D.length c1) ∧ Y.ownsRow (w.heap.size + 2) 102 6 (.slice A1 D.length c1) D.length (D.flatMap clNu)) ∧ Below w.heap.size w Y)
      (fun Y D8 hY h1 h2 => ⟨⟨box_keep (n := V0.heap.size) hY.1.1 (grownBy_putObj' Y D8 _) (fun k e => by cases e; exact ⟨h1, _, h2, rfl⟩), own_keepR (B := V0.heap.size) hY.1.2 (grownBy_putObj' Y D8 _) (fun k e => by cases e; exact ⟨h1, _, h2, rfl⟩)⟩, hY.2.trans (belowK_b (w := w) (Nat.le_refl _) Y D8 _ _ (by omega) h2 rfl rfl)⟩)
      (fun Y hY => ⟨_, results_tmp rfl _ _ _, w.heap.size + 1, A1, c1, rfl, by omega, hY.1.1, ?_, ?_, hY.2⟩) _ _ _ hm1 ⟨⟨hbX, hoX⟩, hBX⟩
    · obtain ⟨A2, c2, e2, hr2, _⟩ := own_rds hY.1.2 rfl rfl (fun x _ => clNu_len x)
      injection e2 with e2
      rw [e2]; exact hr2
    · intro g hg
      rcases hY.1.2.2 with ⟨hv, _⟩ | ⟨g', cap, cur, hv, hb', hh, _⟩
      · injection hv with e1; rw [hg] at e1; cases e1
      · injection hv with e1; rw [hg] at e1; injection e1 with e1; rw [e1]; exact ⟨by show w.heap.size ≤ g'; omega, heap_lt hh⟩
end Go.Proofs.YtghbliabmecbcaaDoor

/-
  The iterators of layer 24's code: what numbers, Values and tell hand over; All and Of. Conditions are each theorem's own.
-/
namespace Go.Proofs.YtghbliabmecbcaaDoor
open Go.RowKit Go.Shelf Go.Maps
attribute [local go_sem] Oper.semAt_some
set_option maxRecDepth 100000 in
theorem run_store_sloN {o : Oper} {a : Act} {w : World} {x y : Operand} {g t : Nat} {cs old : Array Value} (ho : o.op = .store 65 x y) (hx : a.eval x = .pointer (some ⟨g, 0, none⟩)) (hy : a.eval y = .agg cs) (hg : w.heap[g]? = some (.cells old t (0, 0))) (hold : old.size = 6) (hl : cs.size = 6) (h1 : cs.all (·.oneCell') = true) :
    (execOp a.eval o).run Tryd.prog w = .ok .skip (w.setRow g cs) := by
  have h := run_storeVar_row (P := Tryd.prog) w g t 65 old cs hg (by rw [hl]; kernel_rfl) (by rw [hold, hl]) h1
  unfold execOp
  simp only [ho, hx, hy, Instr.storeAt, Instr.sureAddr, Sem.run_bind, Sem.run_pure, Result.andThen_ok, h]
set_option maxRecDepth 100000 in
theorem run_store_nuN {o : Oper} {a : Act} {w : World} {x y : Operand} {g t : Nat} {cs old : Array Value} (ho : o.op = .store 102 x y) (hx : a.eval x = .pointer (some ⟨g, 0, none⟩)) (hy : a.eval y = .agg cs) (hg : w.heap[g]? = some (.cells old t (0, 0))) (hold : old.size = 6) (hl : cs.size = 6) (h1 : cs.all (·.oneCell') = true) :
    (execOp a.eval o).run Tryd.prog w = .ok .skip (w.setRow g cs) := by
  have h := run_storeVar_row (P := Tryd.prog) w g t 102 old cs hg (by rw [hl]; kernel_rfl) (by rw [hold, hl]) h1
  unfold execOp
  simp only [ho, hx, hy, Instr.storeAt, Instr.sureAddr, Sem.run_bind, Sem.run_pure, Result.andThen_ok, h]
set_option maxRecDepth 100000 in
theorem run_load_nu {o : Oper} {a : Act} {w : World} {x : Operand} {g i : Nat} {y : Nat × Sd} (ho : o.op = .load 102 x) (hx : a.eval x = .pointer (some ⟨g, i, none⟩)) (hr : w.rangeAt g i (clNu y)) :
    (execOp a.eval o).run Tryd.prog w = .ok (.value (.agg (clNu y).toArray)) w := by
  have h := run_loadVar_mid (P := Tryd.prog) w g i 102 (clNu y) _ hr Tryd.underlying102 rfl (by rw [clNu_len]; kernel_rfl)
  unfold execOp
  simp only [ho, hx, Instr.loadAt, Instr.sureAddr, Sem.run_bind, Sem.run_pure, Result.andThen_ok, h]
theorem clNu_one (e : Nat × Sd) : (clNu e).toArray.all (·.oneCell') = true := by simp [clNu, clSe, Value.oneCell']
def idN (l : List (Nat × Sd)) : List Int := l.map fun e => (e.1 : Int)
theorem idN_app (a b : List (Nat × Sd)) : idN (a ++ b) = idN a ++ idN b := by simp [idN]
set_option maxRecDepth 100000 in
set_option maxHeartbeats 4000000 in
theorem senum1_in (m : Nat) (hm : 1 ≤ m) (l B c d t1 Bz : Nat) (A : Option Addr) (S : List (Option Sd)) (J Jx : List Int → World → Prop) (W : World) (hJA0 : AbidesFrom W.heap.size J)
    (hY : ∀ pre x X, J pre X → GN (idN (docB 0 S)) pre x X → YieldAt Fence.wide (m - 1) Tryd.prog l (encI x) X fun e Y =>
      (e = .returned (.bool true) ∧ J (pre ++ [x]) Y ∧ KeepN A X Y) ∨ (e = .returned (.bool false) ∧ Jx (pre ++ [x]) Y))
    (hbox : W.cell? ⟨B, 0, none⟩ = some (.pointer (some ⟨d, 0, none⟩))) (k0 : W.cell? ⟨d, 0, none⟩ = some (.slice A S.length c)) (k1 : W.cell? ⟨d, 1, none⟩ = some (.pointer (some ⟨t1, 0, none⟩))) (hrd : RdS clSl 6 W Bz A S) (hS : S.length ≤ 1000000) (hJ : J [] W) :
    CallsIn Fence.wide m Tryd.prog 52 #[.func (.yield l) #[] #[], .pointer (some ⟨B, 0, none⟩)] W fun e W' => (∃ v, e = .returned v) ∧
      ((∃ xs, xs = idN (docB 0 S) ∧ J xs W') ∨ (∃ pre, (∃ more, idN (docB 0 S) = pre ++ more) ∧ Jx pre W')) := by
  have hJA := hJA0
  obtain ⟨N, hNe⟩ : ∃ N, N = S.length := ⟨_, rfl⟩
  rw [← hNe] at k0 hS
  have HN := Lib.hid hNe
  clear hJA0 hNe
  refine callsIn_of_wp Tryd.func52 rfl trivial ?_ rfl
  simp only [Tryd.ntmps52, List.size_toArray, List.length_cons, List.length_nil, Nat.reduceAdd, Nat.reduceSub, Array.replicate_succ, Array.replicate_zero, List.push_toArray, List.append_toArray, List.nil_append, List.cons_append]
  gi_wp2_with (refine ⟨trivial, ?_⟩; gi_at_call 24; refine (callsIn_wide.2 (semade k1)).mono ?_; rintro e w3 ⟨rfl, rfl⟩)
  gi_loopw [13] (fun i wr => ∃ (k : Nat) (pre : List Int), k ≤ N ∧ i = .int .i64 (k : Int) ∧ Hid (pre = idN (docB 0 (S.take k))) ∧ J pre wr ∧ Hid (RdS clSl 6 wr Bz A S))
    (fun i _ => N - (intOf i).toNat)
  case atStart => exact ⟨0, [], Nat.zero_le _, rfl, Lib.hid rfl, hJ, Lib.hid hrd⟩
  case round =>
    obtain ⟨k, pre, hk, rfl, HP, hJs, HR⟩ := hrel
    by_cases hlt : k < N
    · obtain ⟨o, ho⟩ : ∃ o, S[k]? = some o := ⟨_, List.getElem?_eq_getElem (by rw [← HN.out]; exact hlt)⟩
      obtain ⟨b1, o1, rfl, hb1, hrow0⟩ := HR.out (by rw [← HN.out]; omega)
      have hrow := hrow0 k o ho
      obtain ⟨V, hV⟩ : ∃ V, V = wr.alloc (.cells (clSl o).toArray 65) := ⟨_, rfl⟩
      have HV := Lib.hid hV
      have bV : Below wr.heap.size wr V := by rw [hV]; exact (Below.refl _ wr).alloc (Nat.le_refl _) _
      have hbV : V.heap[wr.heap.size]? = some (.cells (clSl o).toArray 65 (0, 0)) := by rw [hV]; exact World.alloc_heap_new wr _
      have hJV := hJA pre wr V none hJs (grown_none bV) (fun r e => by cases e)
      have hzV := bV.size
      have hb1w := cell_block (hrow 5 (.bool o.isSome) (by cases o <;> rfl))
      have hRV := Lib.hid (HR.out.keepN (KeepN.of_heap (X := wr) (Y := V) (fun g e => by cases e; exact bV.block b1 hb1w)))
      clear hV
      cases o with
      | none =>
        have kx5 : V.cell? ⟨wr.heap.size, 5, none⟩ = some (.bool false) := cells_at (i := 5) hbV rfl
        have HSP := Lib.hid (docB_none1 ho)
        clear ho hbV k0 k1 hbox
        gi_wp2_with (first
          | ((with_reducible show wpListIn _ _ _ _ _ (Oper.mk _ (Op.load 65 _) _ _ _ _ :: _) _ _); refine listW_valN rfl (fun c h => by cases h) (run_load_slo rfl rfl hrow) ?_)
          | ((with_reducible show wpListIn _ _ _ _ _ (Oper.mk _ (Op.store 65 _ _) _ _ _ _ :: _) _ _); refine listW_skipN rfl (fun c h => by cases h) (run_store_sloN (cs := (clSl (none)).toArray) rfl rfl rfl (World.alloc_heap_new wr _) rfl rfl (clSl_one _)) ?_; rw [World.setRow_alloc_new]; rw [← HV.out]))
        first
          | (refine ⟨fun f h => (by cases h), ?_⟩; gi_wp2)
          | skip
        go_roundw
        case rel => exact ⟨k + 1, pre, by omega, by simp, Lib.hid (HP.out.trans (congrArg idN HSP.out).symm), hJV, hRV⟩
        case measure => simp [intOf]; omega
      | some x =>
        have kx5 : V.cell? ⟨wr.heap.size, 5, none⟩ = some (.bool true) := cells_at (i := 5) hbV rfl
        have HSP := Lib.hid (docB_some1 ho)
        obtain ⟨more, hmore⟩ := docB_rest (S := S) (k + 1)
        have HSQ : Hid (idN (docB 0 S) = (pre ++ [(k : Int)]) ++ idN more) := Lib.hid (by rw [hmore, HSP.out, HP.out, idN_app, idN_app]; rfl)
        have hY2 := hY pre (k : Int) V hJV ⟨idN more, by rw [HSQ.out]; simp⟩
        obtain ⟨fn, tmps, assign, body, hy, hR⟩ := hY2
        dsimp only [encI] at hy
        clear ho hbV hmore k0 k1 hbox
        gi_wp2_with (first
          | ((with_reducible show wpListIn _ _ _ _ _ (Oper.mk _ (Op.load 65 _) _ _ _ _ :: _) _ _); refine listW_valN rfl (fun c h => by cases h) (run_load_slo rfl rfl hrow) ?_)
          | ((with_reducible show wpListIn _ _ _ _ _ (Oper.mk _ (Op.store 65 _ _) _ _ _ _ :: _) _ _); refine listW_skipN rfl (fun c h => by cases h) (run_store_sloN (cs := (clSl (some x)).toArray) rfl rfl rfl (World.alloc_heap_new wr _) rfl rfl (clSl_one _)) ?_; rw [World.setRow_alloc_new]; rw [← HV.out]))
        refine hR.mono ?_
        rintro e W3 (⟨rfl, hJ3, hk3⟩ | ⟨rfl, hJx3⟩)
        · clear hy hR
          have hR3 := Lib.hid (hRV.out.keepN hk3)
          gi_wp2
          go_roundw
          case rel => exact ⟨k + 1, pre ++ [(k : Int)], by omega, by simp, Lib.hid (by rw [HSP.out, HP.out, idN_app]; rfl), hJ3, hR3⟩
          case measure => simp [intOf]; omega
        · clear hy hR
          gi_wp2
          refine bodyPost_ret (results_none rfl _ _ _) rfl ?_
          exact ⟨⟨_, rfl⟩, .inr ⟨_, ⟨_, HSQ.out⟩, hJx3⟩⟩
    · obtain rfl : N = k := by omega
      gi_wp2
      try rw [Exit.noGoto_normal]
      go_end0
      exact ⟨⟨_, rfl⟩, .inl ⟨_, by rw [HP.out, List.take_of_length_le (by rw [← HN.out]; exact Nat.le_refl _)], hJs⟩⟩
set_option maxRecDepth 100000 in
set_option maxHeartbeats 4000000 in
theorem seval1_in (m : Nat) (hm : 1 ≤ m) (l B c : Nat) (A : Option Addr) (Bz : Nat) (zs : List Int) (J Jx : List Int → World → Prop) (W : World)
    (hY : ∀ pre x X, J pre X → GN zs pre x X → YieldAt Fence.wide (m - 1) Tryd.prog l (encI x) X fun e Y =>
      (e = .returned (.bool true) ∧ J (pre ++ [x]) Y ∧ KeepN A X Y) ∨ (e = .returned (.bool false) ∧ Jx (pre ++ [x]) Y))
    (hbox : W.cell? ⟨B, 0, none⟩ = some (.slice A zs.length c)) (hrd : RdS clN 1 W Bz A zs) (hS : zs.length ≤ 1000000) (hJ : J [] W) :
    CallsIn Fence.wide m Tryd.prog 53 #[.func (.yield l) #[] #[], .pointer (some ⟨B, 0, none⟩)] W fun e W' => (∃ v, e = .returned v) ∧
      ((∃ xs, xs = zs ∧ J xs W') ∨ (∃ pre, (∃ more, zs = pre ++ more) ∧ Jx pre W')) := by
  obtain ⟨N, hNe⟩ : ∃ N, N = zs.length := ⟨_, rfl⟩
  rw [← hNe] at hbox hS
  have HN := Lib.hid hNe
  clear hNe
  refine callsIn_of_wp Tryd.func53 rfl trivial ?_ rfl
  simp only [Tryd.ntmps53, List.size_toArray, List.length_cons, List.length_nil, Nat.reduceAdd, Nat.reduceSub, Array.replicate_succ, Array.replicate_zero, List.push_toArray, List.append_toArray, List.nil_append, List.cons_append]
  gi_wp2
  gi_loopw [7] (fun i wr => ∃ (k : Nat) (pre : List Int), k ≤ N ∧ i = .int .i64 (k : Int) ∧ Hid (pre = zs.take k) ∧ J pre wr ∧ Hid (RdS clN 1 wr Bz A zs))
    (fun i _ => N - (intOf i).toNat)
  case atStart => exact ⟨0, [], Nat.zero_le _, rfl, Lib.hid rfl, hJ, Lib.hid hrd⟩
  case round =>
    obtain ⟨k, pre, hk, rfl, HP, hJs, HR⟩ := hrel
    by_cases hlt : k < N
    · obtain ⟨x, hx⟩ : ∃ x, zs[k]? = some x := ⟨_, List.getElem?_eq_getElem (by rw [← HN.out]; exact hlt)⟩
      obtain ⟨b1, o1, rfl, hb1, hrow0⟩ := HR.out (by rw [← HN.out]; omega)
      have kx : wr.cell? ⟨b1, o1 + k, none⟩ = some (.int .i64 x) := by
        have := hrow0 k x hx 0 _ rfl
        rwa [Nat.mul_one, Nat.add_zero] at this
      have HSP : Hid (zs.take (k + 1) = zs.take k ++ [x]) := Lib.hid (by
        obtain ⟨h1, h2⟩ := List.getElem?_eq_some_iff.1 hx
        rw [List.take_succ_eq_append_getElem h1, h2])
      have HSQ : Hid (zs = (pre ++ [x]) ++ zs.drop (k + 1)) := Lib.hid (by rw [HP.out, ← HSP.out, List.take_append_drop])
      have hY2 := hY pre x wr hJs ⟨zs.drop (k + 1), by
        have := HSQ.out
        rw [List.append_assoc] at this
        exact this⟩
      obtain ⟨fn, tmps, assign, body, hy, hR⟩ := hY2
      dsimp only [encI] at hy
      clear hx hbox
      gi_wp2
      refine hR.mono ?_
      rintro e W3 (⟨rfl, hJ3, hk3⟩ | ⟨rfl, hJx3⟩)
      · clear hy hR
        have hR3 := Lib.hid (HR.out.keepN hk3)
        gi_wp2
        go_roundw
        case rel => exact ⟨k + 1, pre ++ [x], by omega, by simp, Lib.hid (by rw [HSP.out, HP.out]), hJ3, hR3⟩
        case measure => simp [intOf]; omega
      · clear hy hR
        gi_wp2
        refine bodyPost_ret (results_none rfl _ _ _) rfl ?_
        exact ⟨⟨_, rfl⟩, .inr ⟨_, ⟨_, HSQ.out⟩, hJx3⟩⟩
    · obtain rfl : N = k := by omega
      gi_wp2
      try rw [Exit.noGoto_normal]
      go_end0
      exact ⟨⟨_, rfl⟩, .inl ⟨_, by rw [HP.out, List.take_of_length_le (by rw [← HN.out]; exact Nat.le_refl _)], hJs⟩⟩
def encNs (e : Nat × Sd) : Array Value := #[.int .i64 (e.1 : Int), seV e.2]
set_option maxRecDepth 100000 in
set_option maxHeartbeats 4000000 in
theorem setell1_in (m : Nat) (hm : 1 ≤ m) (l B c Bz : Nat) (A : Option Addr) (D : List (Nat × Sd)) (J Jx : List (Nat × Sd) → World → Prop) (W : World) (hJA0 : AbidesFrom W.heap.size J)
    (hY : ∀ pre x X, J pre X → GN D pre x X → YieldAt Fence.wide (m - 1) Tryd.prog l (encNs x) X fun e Y =>
      (e = .returned (.bool true) ∧ J (pre ++ [x]) Y ∧ KeepN A X Y) ∨ (e = .returned (.bool false) ∧ Jx (pre ++ [x]) Y))
    (hbox : W.cell? ⟨B, 0, none⟩ = some (.slice A D.length c)) (hrd : RdS clNu 6 W Bz A D) (hS : D.length ≤ 1000000) (hJ : J [] W) :
    CallsIn Fence.wide m Tryd.prog 51 #[.func (.yield l) #[] #[], .pointer (some ⟨B, 0, none⟩)] W fun e W' => (∃ v, e = .returned v) ∧
      ((∃ xs, xs = D ∧ J xs W') ∨ (∃ pre, (∃ more, D = pre ++ more) ∧ Jx pre W')) := by
  have hJA := hJA0
  obtain ⟨N, hNe⟩ : ∃ N, N = D.length := ⟨_, rfl⟩
  rw [← hNe] at hbox hS
  have HN := Lib.hid hNe
  clear hJA0 hNe
  refine callsIn_of_wp Tryd.func51 rfl trivial ?_ rfl
  simp only [Tryd.ntmps51, List.size_toArray, List.length_cons, List.length_nil, Nat.reduceAdd, Nat.reduceSub, Array.replicate_succ, Array.replicate_zero, List.push_toArray, List.append_toArray, List.nil_append, List.cons_append]
  gi_wp2
  gi_loopw [7] (fun i wr => ∃ (k : Nat) (pre : List (Nat × Sd)), k ≤ N ∧ i = .int .i64 (k : Int) ∧ Hid (pre = D.take k) ∧ J pre wr ∧ Hid (RdS clNu 6 wr Bz A D))
    (fun i _ => N - (intOf i).toNat)
  case atStart => exact ⟨0, [], Nat.zero_le _, rfl, Lib.hid rfl, hJ, Lib.hid hrd⟩
  case round =>
    obtain ⟨k, pre, hk, rfl, HP, hJs, HR⟩ := hrel
    by_cases hlt : k < N
    · obtain ⟨x, hx⟩ : ∃ x, D[k]? = some x := ⟨_, List.getElem?_eq_getElem (by rw [← HN.out]; exact hlt)⟩
      obtain ⟨b1, o1, rfl, hb1, hrow0⟩ := HR.out (by rw [← HN.out]; omega)
      have hrow := hrow0 k x hx
      obtain ⟨V, hV⟩ : ∃ V, V = wr.alloc (.cells (clNu x).toArray 102) := ⟨_, rfl⟩
      have HV := Lib.hid hV
      have bV : Below wr.heap.size wr V := by rw [hV]; exact (Below.refl _ wr).alloc (Nat.le_refl _) _
      have hbV : V.heap[wr.heap.size]? = some (.cells (clNu x).toArray 102 (0, 0)) := by rw [hV]; exact World.alloc_heap_new wr _
      have hJV := hJA pre wr V none hJs (grown_none bV) (fun r e => by cases e)
      have hzV := bV.size
      have hb1w := cell_block (hrow 0 _ rfl)
      have hRV := Lib.hid (HR.out.keepN (KeepN.of_heap (X := wr) (Y := V) (fun g e => by cases e; exact bV.block b1 hb1w)))
      have kx0 : V.cell? ⟨wr.heap.size, 0, none⟩ = some (.int .i64 (x.1 : Int)) := cells_at (i := 0) hbV rfl
      have hrx : V.rangeAt wr.heap.size 1 (clSe x.2) := fun j v hj => by
        have h9 := range_heap hbV (j + 1) v (by show (clSe x.2)[j]? = some v; exact hj)
        rwa [show 0 + (j + 1) = 1 + j by omega] at h9
      have HSP : Hid (D.take (k + 1) = D.take k ++ [x]) := Lib.hid (by
        obtain ⟨h1, h2⟩ := List.getElem?_eq_some_iff.1 hx
        rw [List.take_succ_eq_append_getElem h1, h2])
      have HSQ : Hid (D = (pre ++ [x]) ++ D.drop (k + 1)) := Lib.hid (by rw [HP.out, ← HSP.out, List.take_append_drop])
      have hY2 := hY pre x V hJV ⟨D.drop (k + 1), by
        have := HSQ.out
        rw [List.append_assoc] at this
        exact this⟩
      obtain ⟨fn, tmps, assign, body, hy, hR⟩ := hY2
      dsimp only [encNs] at hy
      clear hx hbox hV hbV
      gi_wp2_with (first
        | ((with_reducible show wpListIn _ _ _ _ _ (Oper.mk _ (Op.load 102 _) _ _ _ _ :: _) _ _); refine listW_valN rfl (fun c h => by cases h) (run_load_nu rfl rfl hrow) ?_)
        | ((with_reducible show wpListIn _ _ _ _ _ (Oper.mk _ (Op.store 102 _ _) _ _ _ _ :: _) _ _); refine listW_skipN rfl (fun c h => by cases h) (run_store_nuN (cs := (clNu x).toArray) rfl rfl rfl (World.alloc_heap_new wr _) rfl rfl (clNu_one _)) ?_; rw [World.setRow_alloc_new]; rw [← HV.out])
        | ((with_reducible show wpListIn _ _ _ _ _ (Oper.mk _ (Op.load 34 _) _ _ _ _ :: _) _ _); refine listW_valN rfl (fun c h => by cases h) (run_load_se rfl rfl hrx) ?_))
      refine hR.mono ?_
      rintro e W3 (⟨rfl, hJ3, hk3⟩ | ⟨rfl, hJx3⟩)
      · clear hy hR
        have hR3 := Lib.hid (hRV.out.keepN hk3)
        gi_wp2
        go_roundw
        case rel => exact ⟨k + 1, pre ++ [x], by omega, by simp, Lib.hid (by rw [HSP.out, HP.out]), hJ3, hR3⟩
        case measure => simp [intOf]; omega
      · clear hy hR
        gi_wp2
        refine bodyPost_ret (results_none rfl _ _ _) rfl ?_
        exact ⟨⟨_, rfl⟩, .inr ⟨_, ⟨_, HSQ.out⟩, hJx3⟩⟩
    · obtain rfl : N = k := by omega
      gi_wp2
      try rw [Exit.noGoto_normal]
      go_end0
      exact ⟨⟨_, rfl⟩, .inl ⟨_, by rw [HP.out, List.take_of_length_le (by rw [← HN.out]; exact Nat.le_refl _)], hJs⟩⟩
theorem setell1_seq (B c Bz : Nat) (A : Option Addr) (D : List (Nat × Sd)) (W : World) (hbox : W.cell? ⟨B, 0, none⟩ = some (.slice A D.length c)) (hrd : RdS clNu 6 W Bz A D) (hBz : Bz ≤ W.heap.size) (hS : D.length ≤ 1000000) (m : Nat) (hm : 1 ≤ m) :
    SeqTold m Tryd.prog 51 #[.pointer (some ⟨B, 0, none⟩)] encNs (GN D) (KeepN A) (fun xs => xs = D) (fun pre => ∃ more, D = pre ++ more) W := by
  intro l J Jx V hV hJ _ hY h0
  exact setell1_in m hm l B c Bz A D J Jx V hJ hY ((hV.cell (p := ⟨B, 0, none⟩) (cell_block hbox)).trans hbox) (hrd.below (hV.mono hBz)) hS h0
end Go.Proofs.YtghbliabmecbcaaDoor

/-
  All and Of of layer 24's code; what nil and a zero value answer; the example. Conditions are each theorem's own.
-/
namespace Go.Proofs.YtghbliabmecbcaaDoor
open Go.RowKit Go.Shelf Go.Maps
theorem senumbers (P : Option Addr) (w : World) : Calls Tryd.prog 35 #[.pointer P] w fun e w' => e = .returned (.func (.func 52) #[] #[.pointer (some ⟨w.heap.size, 0, none⟩)]) ∧ w' = w.alloc (.cells #[.pointer P] 24) := by
  go_enter Tryd.func35, Tryd.ntmps35
  go_wp2
  go_ret
  exact ⟨rfl, rfl⟩
theorem sevalues (A : Option Addr) (n c : Nat) (w : World) : Calls Tryd.prog 37 #[.slice A n c] w fun e w' => e = .returned (.func (.func 53) #[] #[.pointer (some ⟨w.heap.size, 0, none⟩)]) ∧ w' = w.alloc (.cells #[.slice A n c] 79) := by
  go_enter Tryd.func37, Tryd.ntmps37
  go_wp2
  go_ret
  exact ⟨rfl, rfl⟩
theorem TellS.up {w V w' : World} {D : List (Nat × Sd)} {e : Ending} (h : TellS V D e w') (b : Below w.heap.size w V) : TellS w D e w' := by
  obtain ⟨bx, A, c, h1, h2, h3, h4, h5, h6⟩ := h
  exact ⟨bx, A, c, h1, Nat.le_trans b.size h2, h3, h4, fun g e => ⟨Nat.le_trans b.size (h5 g e).1, (h5 g e).2⟩, b.trans (h6.mono b.size)⟩
section
variable {w w' : World} {B0 d t1 b1 bm : Nat} {A : Option Addr} {c : Nat} {most : Int} {S : List (Option Sd)} {f N : Nat}
theorem Ts.sl (h : Ts w B0 d t1 b1 bm A c most S f N) : S.length ≤ 4096 := by have := h.n; have := h.mst; omega
theorem doc_tak {e : Nat × Sd} (he : e ∈ docB 0 S) : S[e.1]? = some (some e.2) := by have := (docB_mem.1 he).2; simpa using this
set_option maxRecDepth 100000 in
theorem seall (h : Ts w B0 d t1 b1 bm A c most S f N) : Calls Tryd.prog 20 #[.pointer (some ⟨d, 0, none⟩)] w fun e w' => TellS w (docB 0 S) e w' := by
  have hsl := h.sl
  have hdl := docB_len 0 S
  obtain ⟨V, hV⟩ : ∃ V, V = w.alloc (.cells #[.pointer (some ⟨d, 0, none⟩)] 24) := ⟨_, rfl⟩
  have bV : Below w.heap.size w V := by rw [hV]; exact (Below.refl _ w).alloc (Nat.le_refl _) _
  have hbx : Boxed V w.heap.size 24 (.pointer (some ⟨d, 0, none⟩)) := by rw [hV]; exact Boxed.new w _ _
  have hk := h.below bV
  have HT := Lib.hid (setell (some ⟨d, 0, none⟩) 52 #[.pointer (some ⟨w.heap.size, 0, none⟩)] (enters_of Tryd.func52 (by kernel_rfl) rfl) (docB 0 S) A V
    (fun g e => by
      rcases hk.m.own.2 with ⟨hv, _⟩ | ⟨g', cap, cur, hv, _, hh, _⟩
      · injection hv with e1; rw [e] at e1; cases e1
      · injection hv with e1; rw [e] at e1; injection e1 with e1; rw [e1]; exact heap_lt hh)
    (fun X hX => fun l J Jx Y hY hJ _ hyi h0 => by
      have hkY := (hk.below hX).below hY
      exact senum1_in (4 - 1) (by decide) l w.heap.size c d t1 Y.heap.size A S J Jx Y hJ hyi ((Boxed.below (Boxed.below hbx hX (Boxed.lt hbx)) hY (Nat.lt_of_lt_of_le (Boxed.lt hbx) hX.size)).cell) hkY.m.c0 hkY.m.c1 hkY.m.rds (by omega) h0)
    (fun _ => ⟨d, A, S.length, c, S, rfl, hk.m.c0, rfl, hk.m.rds, fun e he => doc_tak he⟩) (by omega))
  have HV := Lib.hid hV
  have HBV := Lib.hid bV
  clear h hk hV bV hbx
  go_enter Tryd.func20, Tryd.ntmps20
  go_wp2_with (first
    | (go_at_call 35; refine (senumbers _ _).mono ?_; rintro e w1 ⟨rfl, rfl⟩; rw [← HV.out])
    | (go_at_call 34; refine HT.out.mono ?_; rintro e w2 hte; obtain ⟨vt, rfl⟩ : ∃ vt, e = .returned vt := (by obtain ⟨bx, _, _, h1, _⟩ := hte; exact ⟨_, h1⟩); have HTE := Lib.hid (hte.up HBV.out); clear hte))
  refine bodyPost_ret (results_tmp rfl _ _ _) rfl ?_
  exact HTE.out
/-- The sessions of a binding, with their numbers. -/
def ofD (l : List (Nat × Sd)) (b : Int) : List (Nat × Sd) := l.filter (fun e => decide (e.2.b = b))
set_option maxRecDepth 100000 in
theorem seof (h : Ts w B0 d t1 b1 bm A c most S f N) {b : Int} (hb : wfQ b) : Calls Tryd.prog 22 #[.pointer (some ⟨d, 0, none⟩), .int .i64 b] w fun e w' => TellS w (ofD (docB 0 S) b) e w' := by
  have hsl := h.sl
  have hdl := docB_len 0 S
  have k1 := h.m.c1
  have k2 := h.m.c2
  obtain ⟨hz, F, hm, hr⟩ := h.m.mp
  obtain ⟨ids, hids⟩ : ∃ ids, ids = idsD (docB 0 S) b := ⟨_, rfl⟩
  have hil : ids.length ≤ 4096 := by rw [hids]; have := idsD_len (docB 0 S) b; omega
  obtain ⟨Ai, ci, hA, hrd, hai⟩ : ∃ Ai ci, slV (F b) = .slice Ai ids.length ci ∧ RdS clN 1 w w.heap.size Ai ids ∧ ∀ g, Ai = some g → g.block < w.heap.size := by
    rcases hr.row b hb with ⟨h1, h2⟩ | ⟨g, cg, h1, h2, h3, h4⟩
    · exact ⟨none, 0, by rw [h1, hids, h2]; rfl, fun h0 => by rw [hids, h2] at h0; simp at h0, fun g e => by cases e⟩
    · rw [← hids] at h1 h2
      obtain ⟨A', c', e, hr2, _⟩ := own_rds (cl := clN) (sz := 1) h2 rfl rfl (fun _ _ => rfl)
      obtain ⟨cs, hh⟩ := own_cells h2
      injection e with e1
      refine ⟨some ⟨g, 0, none⟩, cg, by rw [h1]; rfl, by rw [e1]; exact hr2, fun g9 e9 => ?_⟩
      injection e9 with e9
      rw [← e9]; exact heap_lt hh
  obtain ⟨V, hV⟩ : ∃ V, V = w.alloc (.cells #[.slice Ai ids.length ci] 79) := ⟨_, rfl⟩
  have bV : Below w.heap.size w V := by rw [hV]; exact (Below.refl _ w).alloc (Nat.le_refl _) _
  have hbx : Boxed V w.heap.size 79 (.slice Ai ids.length ci) := by rw [hV]; exact Boxed.new w _ _
  have hk := h.below bV
  have hidn : (ofD (docB 0 S) b).map (fun e => (e.1 : Int)) = ids := by rw [hids]; rfl
  have hol : (ofD (docB 0 S) b).length ≤ 4096 := by have := congrArg List.length hidn; rw [List.length_map] at this; omega
  have HT := Lib.hid (setell (some ⟨d, 0, none⟩) 53 #[.pointer (some ⟨w.heap.size, 0, none⟩)] (enters_of Tryd.func53 (by kernel_rfl) rfl) (ofD (docB 0 S) b) Ai V
    (fun g e => Nat.lt_of_lt_of_le (hai g e) bV.size)
    (fun X hX => fun l J Jx Y hY hJ _ hyi h0 => by
      rw [hidn] at hyi ⊢
      exact seval1_in (4 - 1) (by decide) l w.heap.size ci Ai Y.heap.size ids J Jx Y hyi ((Boxed.below (Boxed.below hbx hX (Boxed.lt hbx)) hY (Nat.lt_of_lt_of_le (Boxed.lt hbx) hX.size)).cell) ((((hrd.below bV).more bV.size |>.below hX).more hX.size |>.below hY).more hY.size) (by omega) h0)
    (fun _ => ⟨d, A, S.length, c, S, rfl, hk.m.c0, rfl, hk.m.rds, fun e he => doc_tak (List.mem_filter.1 he).1⟩) (by omega))
  have HV := Lib.hid hV
  have HBV := Lib.hid bV
  have HLK := Lib.hid (hm.look hb)
  rw [hA] at HLK
  obtain ⟨n, hn⟩ : ∃ n, n = ids.length := ⟨_, rfl⟩
  rw [← hn] at HLK HV
  clear h hk hV bV hbx hm hr hA hrd hai hids hil hidn hol hn
  go_enter Tryd.func22, Tryd.ntmps22
  go_wp2_with (first
    | ((with_reducible show wpList _ _ _ (Oper.mk _ (Op.load 54 _) _ _ _ _ :: _) _ _); refine wpList_val rfl (run_load_mq rfl rfl k2) ?_)
    | ((with_reducible show wpList _ _ _ (Oper.mk _ (Op.lookup _ _ _ _) _ _ _ _ :: _) _ _); refine wpList_val rfl (run_lookS rfl rfl rfl HLK.out) ?_)
    | (go_at_call 24; refine (semade k1).mono ?_; rintro e w1 ⟨rfl, rfl⟩)
    | (go_at_call 37; refine (sevalues _ _ _ _).mono ?_; rintro e w1 ⟨rfl, rfl⟩; rw [← HV.out])
    | (go_at_call 34; refine HT.out.mono ?_; rintro e w2 hte; obtain ⟨vt, rfl⟩ : ∃ vt, e = .returned vt := (by obtain ⟨bx, _, _, h1, _⟩ := hte; exact ⟨_, h1⟩); have HTE := Lib.hid (hte.up HBV.out); clear hte))
  refine bodyPost_ret (results_tmp rfl _ _ _) rfl ?_
  exact HTE.out
end
/-! ### Nil and zero values -/
set_option maxRecDepth 100000 in
theorem semade_nil (w : World) : Calls Tryd.prog 24 #[.pointer none] w fun e w' => e = .returned (.bool false) ∧ w = w' := by
  go_enter Tryd.func24, Tryd.ntmps24
  go_wp2
  go_ret
  exact ⟨rfl, rfl⟩
theorem semade_zero {d : Nat} {w : World} (k1 : w.cell? ⟨d, 1, none⟩ = some (.pointer none)) : Calls Tryd.prog 24 #[.pointer (some ⟨d, 0, none⟩)] w fun e w' => e = .returned (.bool false) ∧ w = w' := by
  go_enter Tryd.func24, Tryd.ntmps24
  go_wp2
  go_ret
  exact ⟨rfl, rfl⟩
set_option maxRecDepth 100000 in
theorem seadd_nil (x : Sd) (w : World) : Calls Tryd.prog 9 #[.pointer none, seV x] w fun e w' => e = .returned (.tuple #[.int .i64 0, .int .i64 2]) ∧ Below w.heap.size w w' := by
  have bV : Below w.heap.size w (w.alloc (.cells #[.int .i64 x.b, .int .i64 x.t, .int .i64 x.u, .int .i64 x.a, .int .i64 x.p] 34)) := (Below.refl _ w).alloc (Nat.le_refl _) _
  unfold seV clSe
  go_enter Tryd.func9, Tryd.ntmps9
  go_wp2_with (go_at_call 24; refine (semade_nil _).mono ?_; rintro e w2 ⟨rfl, rfl⟩)
  exact bodyPost_ret (results_tmp2 rfl _ _ _) rfl ⟨rfl, bV⟩
set_option maxRecDepth 100000 in
theorem seadd_zero {d : Nat} (x : Sd) {w : World} (k1 : w.cell? ⟨d, 1, none⟩ = some (.pointer none)) : Calls Tryd.prog 9 #[.pointer (some ⟨d, 0, none⟩), seV x] w fun e w' => e = .returned (.tuple #[.int .i64 0, .int .i64 2]) ∧ Below w.heap.size w w' := by
  have bV : Below w.heap.size w (w.alloc (.cells #[.int .i64 x.b, .int .i64 x.t, .int .i64 x.u, .int .i64 x.a, .int .i64 x.p] 34)) := (Below.refl _ w).alloc (Nat.le_refl _) _
  have k2 := Lib.hid ((bV.cell (p := ⟨d, 1, none⟩) (cell_block k1)).trans k1)
  unfold seV clSe
  go_enter Tryd.func9, Tryd.ntmps9
  go_wp2_with (go_at_call 24; refine (semade_zero k2.out).mono ?_; rintro e w2 ⟨rfl, rfl⟩)
  exact bodyPost_ret (results_tmp2 rfl _ _ _) rfl ⟨rfl, bV⟩
set_option maxRecDepth 100000 in
theorem sefind_zero {d : Nat} (x : Sd) {w : World} (k1 : w.cell? ⟨d, 1, none⟩ = some (.pointer none)) : Calls Tryd.prog 17 #[.pointer (some ⟨d, 0, none⟩), .int .i64 x.b, reV x] w fun e w' => e = .returned (.tuple #[.int .i64 0, .bool false]) ∧ Below w.heap.size w w' := by
  have bV : Below w.heap.size w (w.alloc (.cells #[.int .i64 x.a, .int .i64 x.p] 32)) := (Below.refl _ w).alloc (Nat.le_refl _) _
  have k2 := Lib.hid ((bV.cell (p := ⟨d, 1, none⟩) (cell_block k1)).trans k1)
  unfold reV
  go_enter Tryd.func17, Tryd.ntmps17
  go_wp2_with (go_at_call 24; refine (semade_zero k2.out).mono ?_; rintro e w2 ⟨rfl, rfl⟩)
  exact bodyPost_ret (results_tmp2 rfl _ _ _) rfl ⟨rfl, bV⟩
set_option maxRecDepth 100000 in
theorem seget_nil (i : Int) (w : World) : Calls Tryd.prog 15 #[.pointer none, .int .i64 i] w fun e w' => e = .returned (.tuple #[seV sd0, .bool false]) ∧ Below w.heap.size w w' := by
  go_enter Tryd.func15, Tryd.ntmps15
  go_wp2_with (first
    | ((with_reducible show wpList _ _ _ (Oper.mk _ (Op.store 34 _ _) _ _ _ _ :: _) _ _); refine se_store_new (cs := (clSe sd0).toArray) rfl rfl rfl rfl (clSe_one _) ?_)
    | (go_at_call 24; refine (semade_nil _).mono ?_; rintro e w1 ⟨rfl, rfl⟩))
  exact bodyPost_ret (se_result2 rfl rfl (World.alloc_heap_new w _) rfl) rfl ⟨rfl, (Below.refl _ w).alloc (Nat.le_refl _) _⟩
set_option maxRecDepth 100000 in
theorem seset_nil (i a b : Int) (w : World) : Calls Tryd.prog 11 #[.pointer none, .int .i64 i, .int .i64 a, .int .i64 b] w fun e w' => e = .returned (.bool false) ∧ w = w' := by
  go_enter Tryd.func11, Tryd.ntmps11
  go_wp2_with (go_at_call 24; refine (semade_nil _).mono ?_; rintro e w1 ⟨rfl, rfl⟩)
  go_ret
  exact ⟨rfl, rfl⟩
set_option maxRecDepth 100000 in
theorem seremove_nil (i : Int) (w : World) : Calls Tryd.prog 13 #[.pointer none, .int .i64 i] w fun e w' => e = .returned (.bool false) ∧ w = w' := by
  go_enter Tryd.func13, Tryd.ntmps13
  go_wp2_with (go_at_call 24; refine (semade_nil _).mono ?_; rintro e w1 ⟨rfl, rfl⟩)
  go_ret
  exact ⟨rfl, rfl⟩
set_option maxRecDepth 100000 in
theorem seremove_zero {d : Nat} (i : Int) {w : World} (k1 : w.cell? ⟨d, 1, none⟩ = some (.pointer none)) : Calls Tryd.prog 13 #[.pointer (some ⟨d, 0, none⟩), .int .i64 i] w fun e w' => e = .returned (.bool false) ∧ w = w' := by
  go_enter Tryd.func13, Tryd.ntmps13
  go_wp2_with (go_at_call 24; refine (semade_zero k1).mono ?_; rintro e w1 ⟨rfl, rfl⟩)
  go_ret
  exact ⟨rfl, rfl⟩
theorem selen_nil (w : World) : Calls Tryd.prog 21 #[.pointer none] w fun e w' => e = .returned (.int .i64 0) ∧ w = w' := by
  go_enter Tryd.func21, Tryd.ntmps21
  go_wp2_with (go_at_call 24; refine (semade_nil _).mono ?_; rintro e w1 ⟨rfl, rfl⟩)
  go_ret
  exact ⟨rfl, rfl⟩
set_option maxRecDepth 100000 in
theorem seof_nil (b : Int) (w : World) : Calls Tryd.prog 22 #[.pointer none, .int .i64 b] w fun e w' => TellS w [] e w' := by
  obtain ⟨V, hV⟩ : ∃ V, V = w.alloc (.cells #[.slice none 0 0] 79) := ⟨_, rfl⟩
  have bV : Below w.heap.size w V := by rw [hV]; exact (Below.refl _ w).alloc (Nat.le_refl _) _
  have hbx : Boxed V w.heap.size 79 (.slice none 0 0) := by rw [hV]; exact Boxed.new w _ _
  have HT := Lib.hid (setell none 53 #[.pointer (some ⟨w.heap.size, 0, none⟩)] (enters_of Tryd.func53 (by kernel_rfl) rfl) [] none V
    (fun g e => by cases e)
    (fun X hX => fun l J Jx Y hY hJ _ hyi h0 =>
      seval1_in (4 - 1) (by decide) l w.heap.size 0 none Y.heap.size [] J Jx Y hyi ((Boxed.below (Boxed.below hbx hX (Boxed.lt hbx)) hY (Nat.lt_of_lt_of_le (Boxed.lt hbx) hX.size)).cell) (fun h => absurd h (by simp)) (by simp) h0)
    (fun h => absurd rfl h) (by simp))
  have HV := Lib.hid hV
  have HBV := Lib.hid bV
  clear hV bV hbx
  go_enter Tryd.func22, Tryd.ntmps22
  go_wp2_with (first
    | (go_at_call 24; refine (semade_nil _).mono ?_; rintro e w1 ⟨rfl, rfl⟩)
    | (go_at_call 37; refine (sevalues _ _ _ _).mono ?_; rintro e w1 ⟨rfl, rfl⟩; rw [← HV.out])
    | (go_at_call 34; refine HT.out.mono ?_; rintro e w2 hte; obtain ⟨vt, rfl⟩ : ∃ vt, e = .returned vt := (by obtain ⟨bx, _, _, h1, _⟩ := hte; exact ⟨_, h1⟩); have HTE := Lib.hid (hte.up HBV.out); clear hte))
  refine bodyPost_ret (results_tmp rfl _ _ _) rfl ?_
  exact HTE.out
/-! ### The example -/
def sdA : Sd := ⟨3, 0, 0, 1, 2⟩
set_option maxRecDepth 100000 in
theorem awake24 (w : World) (hT : Tabs w) : Calls Tryd.prog 6 #[] w fun e w' => e = .returned (.bool true) ∧ Below w.heap.size w w' := by
  have hxf : sdA.fits := by intro n hn; simp [sdA] at hn; omega
  have HXF := Lib.hid hxf
  have HT := Lib.hid hT
  clear hxf hT
  go_enter Tryd.func6, Tryd.ntmps6
  go_upto_region 4 with (go_at_call 7; refine (senew_ok 2 w (by decide) (by decide) w.heap.size (Nat.le_refl _)).mono ?_; rintro e w1 ⟨d, t1, bm, rfl, hts, x1, hd1, hd2⟩)
  obtain ⟨b1, A, c, f, hts⟩ := hts
  have hf0 : f = 0 := by have := hts.free.le; simpa using this
  subst hf0
  have HB1 : Hid (TB0 w.heap.size w1) := Lib.hid (TB0.of HT.out (Nat.le_refl _) x1)
  have HA := Lib.hid (seadd_ok hts HB1.out sdA HXF.out rfl (by decide) (by unfold maxLen; decide))
  clear hts
  go_upto_region 5 with (go_at_call 9; refine (HA.out).mono ?_; rintro e w2 ⟨rfl, b1', A', c', f', hts, hfb⟩)
  have HX2 := Lib.hid (x1.trans hfb.b)
  have HB2 := Lib.hid (HB1.out.step hfb.b)
  have HTS := Lib.hid hts
  have hS1 : putS [] 0 sdA = [some sdA] := rfl
  rw [hS1] at HTS
  have HFI := Lib.hid (sefind HTS.out.m HB2.out.here sdA HXF.out)
  clear hts hfb x1 hd1 hd2 HA
  go_upto_region 6 with (go_at_call 17; refine HFI.out.mono ?_; rintro e w3 ⟨rfl, x3⟩)
  have HT3 := Lib.hid (HTS.out.below x3)
  have HSE := Lib.hid (seset_yes HT3.out (k := 0) (x := sdA) rfl 4 5 (by unfold wfQ; decide) (by unfold wfQ; decide))
  go_wp2_with (first
    | (go_at_call 11; refine HSE.out.mono ?_; rintro e w4 ⟨rfl, b4, A4, c4, f4, hts4, hfb4⟩; have HT4 := Lib.hid hts4; have HF4 := Lib.hid hfb4; clear hts4 hfb4)
    | (go_at_call 21; refine (selen HT4.out.m).mono ?_; rintro e w5 ⟨rfl, rfl⟩))
  go_ret
  exact ⟨rfl, (HX2.out.trans (x3.mono HX2.out.size)).trans HF4.out.b⟩
end Go.Proofs.YtghbliabmecbcaaDoor

/-
  A session and calls of sessions that came in, opened; what lies about while sessions that no call made are asked (layer 24). Conditions are each theorem's own.
-/
namespace Go.Proofs.YtghbliabmecbcaaDoor
open Go.RowKit Go.Shelf Go.ChangeShapes Go.WideShapes
theorem cells_at20S {w : World} {b o k : Nat} {cs : List Value} (h : w.cells? 0 ⟨b, o, none⟩ k = some cs) : w.rangeAt b o cs := fun j v hj => by
  have hk := World.cells?_some h
  have hlt : j < k := by have := (List.getElem?_eq_some_iff.1 hj).1; omega
  have := (World.cells?_some h).2.2 j hlt
  rw [hj, add_off] at this
  exact this
section
variable {H : Type} {enc : TypeId × Value → H} {w : World} {base : Nat} {v : Value} {d : DataW H} {p : List MemPlace}
theorem cell_rowsS {X : Type} {T e : TypeId} {sz n : Nat} {cl : X → List Value} {Pp : X → Prop} {l : List Value} {x : DataW H × List MemPlace} (ht : Tryd.prog.underlying T = some (.slice e)) (hce : Tryd.prog.cellsOf e = sz) (hpos : 0 < sz) (d : X)
    (hcell : ∀ fuel cs y, DataW.trod enc Tryd.prog w 0 (fun _ => true) true fuel e cs = some y → ∃ z, cs = cl z ∧ Pp z) (hlen : ∀ y, Pp y → (cl y).length = sz)
    (hf : DataW.trod enc Tryd.prog w 0 (fun _ => true) true n T l = some x) :
    ∃ A c xs, l = [.slice A xs.length c] ∧ RdS cl sz w w.heap.size A xs ∧ (∀ y ∈ xs, Pp y) ∧ xs.length ≤ c ∧ c ≤ maxLen ∧ (A = none → c = 0) := by
  rcases Deep.open_slice ht hf with ⟨hcs, _⟩ | ⟨a, len, cap, m, n', D, Pl, hcs, _, hl, hm, hmm, _, hall⟩
  · exact ⟨none, 0, [], hcs, fun hn => absurd hn (by simp), fun x hx => (by cases hx), Nat.le_refl _, Nat.zero_le _, fun _ => rfl⟩
  · rw [hce] at hall
    have hmm' : m = cap := by simpa using hmm
    subst hmm'
    have key : ∀ i, ∃ y : X, i < len → w.cells? 0 (a.add (i * sz)) sz = some (cl y) ∧ Pp y := fun i => by
      by_cases hi : i < len
      · obtain ⟨cs', h1, h2⟩ := hall i (by omega)
        obtain ⟨y, rfl, h3⟩ := hcell _ _ _ h2
        exact ⟨y, fun _ => ⟨h1, h3⟩⟩
      · exact ⟨d, fun h => absurd h hi⟩
    obtain ⟨Xf, hX⟩ := Classical.skolem.1 key
    have el : ((List.range len).map Xf).length = len := by simp
    refine ⟨some a, m, (List.range len).map Xf, by rw [el]; exact hcs, fun hn => ?_, fun x hx => ?_, by rw [el]; exact hl, hm, fun h => by cases h⟩
    · rw [el] at hn
      obtain ⟨b, off, spot⟩ := a
      obtain ⟨h0, hp0⟩ := hX 0 hn
      have hne : 0 < (cl (Xf 0)).length := by rw [hlen _ hp0]; exact hpos
      have hc0 : World.cell? w ((Addr.mk b off spot).add (0 * sz) |>.add 0) = (cl (Xf 0))[0]? := (World.cells?_some h0).2.2 0 hpos
      have hspot : spot = none := by simpa [Addr.add] using World.cell?_spot (hc0.trans (List.getElem?_eq_getElem hne))
      subst hspot
      have hb : b < w.heap.size := by simpa [Addr.add] using World.cells?_block h0 hpos
      refine ⟨b, off, rfl, hb, fun j x hx => ?_⟩
      have hj : j < len := by
        have := (List.getElem?_eq_some_iff.1 hx).1
        rwa [el] at this
      have e : x = Xf j := by
        rw [List.getElem?_map, List.getElem?_range hj] at hx
        simpa using hx.symm
      obtain ⟨h1, h2⟩ := hX j hj
      rw [add_off] at h1
      rw [e]
      refine cells_at20S h1
    · obtain ⟨i, hi, rfl⟩ := List.mem_map.1 hx
      exact (hX i (List.mem_range.1 hi)).2
theorem wf_bdS {n : Int} (h : (Lit.int .i64 n).wf = true) : -9223372036854775808 ≤ n ∧ n ≤ 9223372036854775807 := by
  simp [Lit.wf, IntKind.min, IntKind.max, IntKind.bits, IntKind.signed] at h
  exact ⟨by omega, by omega⟩
set_option maxRecDepth 100000 in
theorem cell_reS {x : DataW H × List MemPlace} {fuel : Nat} {l : List Value} (hf : DataW.trod enc Tryd.prog w 0 (fun _ => true) true fuel 32 l = some x) :
    ∃ a p : Int, l = [.int .i64 a, .int .i64 p] ∧ (Lit.int .i64 a).wf = true ∧ (Lit.int .i64 p).wf = true := by
  obtain ⟨xs, n, _, _, hl, hxs, hall⟩ := DataW.trod_struct Tryd.underlying32 hf
  have hci : Tryd.prog.cellsOf 3 = 1 := by kernel_rfl
  have hcr : Tryd.prog.cellsOf 32 = 2 := by kernel_rfl
  have hcs : Tryd.prog.cellsOf 34 = 5 := by kernel_rfl
  have hcn : Tryd.prog.cellsOf 32 = 2 := by kernel_rfl
  have hl' : l.length = 2 := by rw [← hcn]; exact hl
  have hall' : ∀ (i : Nat) (f : Field), _ → DataW.trod enc Tryd.prog w 0 (fun _ => true) true n f.type ((l.drop f.offset).take (Tryd.prog.cellsOf f.type)) = xs[i]? := hall
  match xs, hxs with
  | [y0, y1], _ =>
    have h0 : DataW.trod enc Tryd.prog w 0 (fun _ => true) true n 3 ((l.drop 0).take (Tryd.prog.cellsOf 3)) = some y0 := hall' 0 _ rfl
    rw [hci] at h0
    obtain ⟨a0, e0, f0⟩ := cell_int Tryd.underlying3 h0
    have k0 := piece_get e0
    have h1 : DataW.trod enc Tryd.prog w 0 (fun _ => true) true n 3 ((l.drop 1).take (Tryd.prog.cellsOf 3)) = some y1 := hall' 1 _ rfl
    rw [hci] at h1
    obtain ⟨a1, e1, f1⟩ := cell_int Tryd.underlying3 h1
    have k1 := piece_get e1
    match l, hl' with
    | [x0, x1], _ =>
      simp at k0 k1
      exact ⟨a0, a1, by simp [k0, k1], f0, f1⟩
set_option maxRecDepth 100000 in
theorem cell_seS {x : DataW H × List MemPlace} {fuel : Nat} {l : List Value} (hf : DataW.trod enc Tryd.prog w 0 (fun _ => true) true fuel 34 l = some x) :
    ∃ s : Sd, l = clSe s ∧ s.fits := by
  obtain ⟨xs, n, _, _, hl, hxs, hall⟩ := DataW.trod_struct Tryd.underlying34 hf
  have hci : Tryd.prog.cellsOf 3 = 1 := by kernel_rfl
  have hcr : Tryd.prog.cellsOf 32 = 2 := by kernel_rfl
  have hcs : Tryd.prog.cellsOf 34 = 5 := by kernel_rfl
  have hcn : Tryd.prog.cellsOf 34 = 5 := by kernel_rfl
  have hl' : l.length = 5 := by rw [← hcn]; exact hl
  have hall' : ∀ (i : Nat) (f : Field), _ → DataW.trod enc Tryd.prog w 0 (fun _ => true) true n f.type ((l.drop f.offset).take (Tryd.prog.cellsOf f.type)) = xs[i]? := hall
  match xs, hxs with
  | [y0, y1, y2, y3], _ =>
    have h0 : DataW.trod enc Tryd.prog w 0 (fun _ => true) true n 3 ((l.drop 0).take (Tryd.prog.cellsOf 3)) = some y0 := hall' 0 _ rfl
    rw [hci] at h0
    obtain ⟨a0, e0, f0⟩ := cell_int Tryd.underlying3 h0
    have k0 := piece_get e0
    have h1 : DataW.trod enc Tryd.prog w 0 (fun _ => true) true n 3 ((l.drop 1).take (Tryd.prog.cellsOf 3)) = some y1 := hall' 1 _ rfl
    rw [hci] at h1
    obtain ⟨a1, e1, f1⟩ := cell_int Tryd.underlying3 h1
    have k1 := piece_get e1
    have h2 : DataW.trod enc Tryd.prog w 0 (fun _ => true) true n 3 ((l.drop 2).take (Tryd.prog.cellsOf 3)) = some y2 := hall' 2 _ rfl
    rw [hci] at h2
    obtain ⟨a2, e2, f2⟩ := cell_int Tryd.underlying3 h2
    have k2 := piece_get e2
    have h3 : DataW.trod enc Tryd.prog w 0 (fun _ => true) true n 32 ((l.drop 3).take (Tryd.prog.cellsOf 32)) = some y3 := hall' 3 _ rfl
    rw [hcr] at h3
    obtain ⟨a3, b3, e3, f3, g3⟩ := cell_reS h3
    match l, hl' with
    | [x0, x1, x2, x3, x4], _ =>
      simp at k0 k1 k2
      simp at e3
      obtain ⟨r0, r1⟩ := e3
      refine ⟨⟨a0, a1, a2, a3, b3⟩, ?_, fun m hm => ?_⟩
      · simp [clSe, k0, k1, k2, r0, r1]
      · simp only [List.mem_cons, List.not_mem_nil, or_false] at hm
        rcases hm with rfl | rfl | rfl | rfl | rfl
        · exact wf_bdS f0
        · exact wf_bdS f1
        · exact wf_bdS f2
        · exact wf_bdS f3
        · exact wf_bdS g3
/-- A call of sessions. -/
structure Dos where
  op : Int
  id : Int
  x : Sd
def clDos (y : Dos) : List Value := .int .i64 y.op :: .int .i64 y.id :: clSe y.x
def dosFit (y : Dos) : Prop := (Lit.int .i64 y.op).wf = true ∧ (Lit.int .i64 y.id).wf = true ∧ y.x.fits
theorem clDos_one (y : Dos) : (clDos y).toArray.all (·.oneCell') = true := by simp [clDos, clSe, Value.oneCell']
set_option maxRecDepth 100000 in
theorem cell_dosS {x : DataW H × List MemPlace} {fuel : Nat} {l : List Value} (hf : DataW.trod enc Tryd.prog w 0 (fun _ => true) true fuel 36 l = some x) :
    ∃ y : Dos, l = clDos y ∧ dosFit y := by
  obtain ⟨xs, n, _, _, hl, hxs, hall⟩ := DataW.trod_struct Tryd.underlying36 hf
  have hci : Tryd.prog.cellsOf 3 = 1 := by kernel_rfl
  have hcr : Tryd.prog.cellsOf 32 = 2 := by kernel_rfl
  have hcs : Tryd.prog.cellsOf 34 = 5 := by kernel_rfl
  have hcn : Tryd.prog.cellsOf 36 = 7 := by kernel_rfl
  have hl' : l.length = 7 := by rw [← hcn]; exact hl
  have hall' : ∀ (i : Nat) (f : Field), _ → DataW.trod enc Tryd.prog w 0 (fun _ => true) true n f.type ((l.drop f.offset).take (Tryd.prog.cellsOf f.type)) = xs[i]? := hall
  match xs, hxs with
  | [y0, y1, y2], _ =>
    have h0 : DataW.trod enc Tryd.prog w 0 (fun _ => true) true n 3 ((l.drop 0).take (Tryd.prog.cellsOf 3)) = some y0 := hall' 0 _ rfl
    rw [hci] at h0
    obtain ⟨a0, e0, f0⟩ := cell_int Tryd.underlying3 h0
    have k0 := piece_get e0
    have h1 : DataW.trod enc Tryd.prog w 0 (fun _ => true) true n 3 ((l.drop 1).take (Tryd.prog.cellsOf 3)) = some y1 := hall' 1 _ rfl
    rw [hci] at h1
    obtain ⟨a1, e1, f1⟩ := cell_int Tryd.underlying3 h1
    have k1 := piece_get e1
    have h2 : DataW.trod enc Tryd.prog w 0 (fun _ => true) true n 34 ((l.drop 2).take (Tryd.prog.cellsOf 34)) = some y2 := hall' 2 _ rfl
    rw [hcs] at h2
    obtain ⟨a2, e2, f2⟩ := cell_seS h2
    match l, hl' with
    | [x0, x1, x2, x3, x4, x5, x6], _ =>
      simp at k0 k1
      simp [clSe] at e2
      refine ⟨⟨a0, a1, a2⟩, ?_, f0, f1, f2⟩
      obtain ⟨r0, r1, r2, r3, r4⟩ := e2
      simp [clDos, clSe, k0, k1, r0, r1, r2, r3, r4]
set_option maxRecDepth 100000 in
theorem get_doss (hv : Value.okWide Tryd.prog w .any base 22 v) (h : DataW.Trod enc Tryd.prog w 0 (fun _ => true) true 22 v d p) :
    ∃ A c l, v = .slice A l.length c ∧ RdS clDos 7 w w.heap.size A l ∧ (∀ y ∈ l, dosFit y) ∧ l.length ≤ c ∧ c ≤ maxLen := by
  obtain ⟨A, len, cap, rfl⟩ := okWide_slice Tryd.underlying22 hv
  obtain ⟨fuel, hf⟩ := h
  obtain ⟨A', c', l, e, r1, r2, r3, r4, _⟩ := cell_rowsS (cl := clDos) (sz := 7) (Pp := dosFit) Tryd.underlying22 (by kernel_rfl) (by decide) ⟨0, 0, sd0⟩ (fun fuel cs y hy => cell_dosS hy) (fun y _ => rfl) hf
  simp [Value.cells] at e
  obtain ⟨rfl, rfl, rfl⟩ := e
  exact ⟨A, cap, l, rfl, r1, r2, r3, r4⟩
set_option maxRecDepth 100000 in
theorem get_ses (hv : Value.okWide Tryd.prog w .any base 34 v) (h : DataW.Trod enc Tryd.prog w 0 (fun _ => true) true 34 v d p) : ∃ x : Sd, v = seV x ∧ x.fits := by
  obtain ⟨cs, rfl, hcs⟩ : ∃ cs, v = .agg cs ∧ cs.size = Tryd.prog.cellsOf 34 := by
    have := hv
    simp only [Value.okWide, Tryd.underlying34] at this
    obtain ⟨cs, h1, h2, _⟩ := this
    exact ⟨cs, h1, h2⟩
  obtain ⟨fuel, hf⟩ := h
  obtain ⟨s, e, hs⟩ := cell_seS hf
  obtain ⟨l⟩ := cs
  have e' : l = clSe s := e
  exact ⟨s, by rw [e']; rfl, hs⟩
end
set_option maxRecDepth 100000 in
theorem run_load_dos {o : Oper} {a : Act} {w : World} {x : Operand} {g i : Nat} {y : Dos} (ho : o.op = .load 36 x) (hx : a.eval x = .pointer (some ⟨g, i, none⟩)) (hr : w.rangeAt g i (clDos y)) :
    (execOp a.eval o).run Tryd.prog w = .ok (.value (.agg (clDos y).toArray)) w := by
  have h := run_loadVar_mid (P := Tryd.prog) w g i 36 (clDos y) _ hr Tryd.underlying36 rfl (by rw [show (clDos y).length = 7 from rfl]; kernel_rfl)
  unfold execOp
  simp only [ho, hx, Instr.loadAt, Instr.sureAddr, Sem.run_bind, Sem.run_pure, Result.andThen_ok, h]
set_option maxRecDepth 100000 in
theorem dos_store_new {ops : Array Oper} {rest : List Oper} {x y : Operand} {ty : TypeId} {pos : String} {af : Array Edge} {a : Act} {w : World} {Q : Exit → Act → World → Prop}
    {t : TypeId} {cs old : Array Value} (hx : a.eval x = .pointer (some ⟨w.heap.size, 0, none⟩)) (hy : a.eval y = .agg cs) (ho : old.size = 7) (hl : cs.size = 7) (h1 : cs.all (·.oneCell') = true)
    (h : wpList Tryd.prog ops Q rest (a.put none undef) (w.alloc (.cells cs t))) : wpList Tryd.prog ops Q (⟨none, .store 36 x y, ty, pos, af, none⟩ :: rest) a (w.alloc (.cells old t)) :=
  wpList_plain rfl fun _ hK => wp_store_row 36 x y rfl w.heap.size cs hx hy t old (World.alloc_heap_new w _) (by rw [hl]; kernel_rfl) (by rw [ho, hl]) h1 (by rw [World.setRow_alloc_new]; exact hK _ _ h)
set_option maxRecDepth 100000 in
theorem run_store_seN {o : Oper} {a : Act} {w : World} {x y : Operand} {g t : Nat} {cs old : Array Value} (ho : o.op = .store 34 x y) (hx : a.eval x = .pointer (some ⟨g, 0, none⟩)) (hy : a.eval y = .agg cs) (hg : w.heap[g]? = some (.cells old t (0, 0))) (hold : old.size = 5) (hl : cs.size = 5) (h1 : cs.all (·.oneCell') = true) :
    (execOp a.eval o).run Tryd.prog w = .ok .skip (w.setRow g cs) := by
  have h := run_storeVar_row (P := Tryd.prog) w g t 34 old cs hg (by rw [hl]; kernel_rfl) (by rw [hold, hl]) h1
  unfold execOp
  simp only [ho, hx, hy, Instr.storeAt, Instr.sureAddr, Sem.run_bind, Sem.run_pure, Result.andThen_ok, h]
theorem row_ofDos {w : World} {B : Nat} {A : Option Addr} {l : List Dos} (h : RdS clDos 7 w B A l) {k : Nat} {x : Dos} (hx : l[k]? = some x) : ∃ b o, A = some ⟨b, o, none⟩ ∧ b < B ∧ w.rangeAt b (o + k * 7) (clDos x) := by
  obtain ⟨b, o, e, hb, hr⟩ := h (by have := (List.getElem?_eq_some_iff.1 hx).1; omega)
  exact ⟨b, o, e, hb, hr k x hx⟩
theorem heap_keepS {X Y : World} {b n : Nat} {cs : Array Value} {ty : TypeId} {fr : Nat × Nat} {r : Option Nat} (h : X.heap[b]? = some (.cells cs ty fr)) (hg : X.grownBy Y r) (hr : ∀ k, r = some k → n ≤ k ∧ ∃ o : Obj, X.heap[k]? = some o ∧ o.isCells = false) : Y.heap[b]? = some (.cells cs ty fr) :=
  (hg.block b (heap_lt h) (fun e => by
    obtain ⟨_, o, ho, hc⟩ := hr b e.symm
    rw [h] at ho
    obtain rfl := Option.some.inj ho
    cases hc)).trans h
theorem cell1s {fn : Func} {p : Tmp} {tmps : Array Value} {w : World} {g : Nat} {z : Value} (h : fn.results = #[.cell p 4]) (hp : tmps.getD p undef = .pointer (some ⟨g, 0, none⟩)) (h0 : Boxed w g 4 z) :
    (results fn tmps).run Tryd.prog w = .ok z w := by
  have hp' : tmps[p]?.getD undef = .pointer (some ⟨g, 0, none⟩) := by simpa using hp
  simp [results, h, hp', asAddr, loadv_bool h0]
/-! ### Sessions that no call made -/
/-- A session's box at B, a result's at B + 1, sessions that no call made at g. -/
structure NSw (B g : Nat) (x : Sd) (w U : World) : Prop where
  box : U.heap[B]? = some (.cells (clSe x).toArray 34 (0, 0))
  res : Boxed U (B + 1) 4 (.bool false)
  z : U.heap[g]? = some (.cells #[.slice none 0 0, .pointer none, .map none, .int .i64 0, .int .i64 0] 56 (0, 0))
  bel : Below B w U
theorem NSw.below {B g : Nat} {x : Sd} {w U V : World} (h : NSw B g x w U) (hb : Below U.heap.size U V) : NSw B g x w V :=
  ⟨(hb.block B (heap_lt h.box)).trans h.box, Boxed.below h.res hb (Boxed.lt h.res), (hb.block g (heap_lt h.z)).trans h.z, h.bel.trans (hb.mono (Nat.le_of_lt (heap_lt h.box)))⟩
theorem NSw.z1 {B g : Nat} {x : Sd} {w U : World} (h : NSw B g x w U) : U.cell? ⟨g, 1, none⟩ = some (.pointer none) := cells_at h.z rfl
theorem NSw.kept {B g n : Nat} {x : Sd} {w X Y : World} {r : Option Nat} (h : NSw B g x w X) (hg : X.grownBy Y r) (hr : ∀ k, r = some k → n ≤ k ∧ ∃ o : Obj, X.heap[k]? = some o ∧ o.isCells = false) (hn : B ≤ n) (hw : B ≤ w.heap.size) : NSw B g x w Y :=
  ⟨heap_keepS h.box hg hr, box_keep h.res hg hr, heap_keepS h.z hg hr, below_keep h.bel hg hr hn hw⟩
end Go.Proofs.YtghbliabmecbcaaDoor
