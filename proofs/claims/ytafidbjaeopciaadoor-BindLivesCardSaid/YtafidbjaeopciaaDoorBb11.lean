/-
  Contracts and lemmas on which the proofs of this seat stand (several texts in one). Conditions are each theorem's own.
-/
import Derived.Test.YtafidbjaeopciaaDoorBb10
import Derived.Test.YtafidbjaeopciaaDoorBb7
import Derived.WalkMore
import Derived.Test.YtafidbjaeopciaaDoorBb3
import Derived.Deep.Slices
import Derived.Test.YtafidbjaeopciaaDoorBb2
import Derived.Maps.OwnSet
import Derived.Maps.OwnOps
import Derived.WideKeyEntry
import Derived.DeepKeys4
import Derived.Maps.Views
import Derived.Maps.Ext
import Derived.Test.YtafidbjaeopciaaDoorBb1
import Derived.Test.YtafidbjaeopciaaDoorTie
import Derived.LaidMore
import Derived.Stop.LaidErr

/-
  All of layer 22's code, and the iterator that it makes. Conditions are each theorem's own.
-/
namespace Go.Proofs.YtafidbjaeopciaaDoor
open Go.RowKit Go.Shelf
attribute [local go_sem] Oper.semAt_some
theorem docB_none1 {S : List (Option Bd)} {k : Nat} (h : S[k]? = some none) : docB 0 (S.take (k + 1)) = docB 0 (S.take k) := by
  obtain ⟨hk, e⟩ := List.getElem?_eq_some_iff.1 h
  rw [List.take_succ_eq_append_getElem hk, e, docB_app]; simp [docB]
theorem docB_some1 {S : List (Option Bd)} {k : Nat} {x : Bd} (h : S[k]? = some (some x)) : docB 0 (S.take (k + 1)) = docB 0 (S.take k) ++ [(k, x)] := by
  obtain ⟨hk, e⟩ := List.getElem?_eq_some_iff.1 h
  rw [List.take_succ_eq_append_getElem hk, e, docB_app]
  simp [docB]; omega
theorem docB_rest {S : List (Option Bd)} (k : Nat) : ∃ more, docB 0 S = docB 0 (S.take k) ++ more := by
  have h := docB_app 0 (S.take k) (S.drop k)
  rw [List.take_append_drop] at h
  exact ⟨_, h⟩
/-- The cells at A's block lie as they lay. -/
def KeepN (A : Option Addr) (X Y : World) : Prop := ∀ g : Addr, A = some g → ∀ i, Y.cell? ⟨g.block, i, none⟩ = X.cell? ⟨g.block, i, none⟩
theorem KeepN.trans {A : Option Addr} {X Y Z : World} (h : KeepN A X Y) (k : KeepN A Y Z) : KeepN A X Z := fun g e i => (k g e i).trans (h g e i)
theorem KeepN.of_heap {A : Option Addr} {X Y : World} (h : ∀ g : Addr, A = some g → Y.heap[g.block]? = X.heap[g.block]?) : KeepN A X Y := fun g e _ => World.cell?_of_block (h g e)
theorem KeepN.loop {A : Option Addr} {X : World} {l : Nat} {r r' : Loop} (hl : X.heap[l]? = some (.loop r)) : KeepN A X (X.putObj l (.loop r')) := fun g _ i => KeepC.loop (ps := [⟨g.block, i, none⟩]) hl ⟨g.block, i, none⟩ (List.mem_cons_self ..)
theorem RdS.keepN {α : Type} {cl : α → List Value} {sz B : Nat} {X Y : World} {A : Option Addr} {S : List α} (h : RdS cl sz X B A S) (k : KeepN A X Y) : RdS cl sz Y B A S := fun hn => by
  obtain ⟨b, off, e, hb, hc⟩ := h hn
  exact ⟨b, off, e, hb, fun j x hx i v hv => (k _ e _).trans (hc j x hx i v hv)⟩
section
variable {n : Nat} {P : Program} {ops : Array Oper} {rest : List Oper} {o : Oper} {a : Act} {w w' : World} {Q : Exit → Act → World → Prop} {v : Value}
theorem listW_valN (hg : o.guard = none) (hd : ∀ c, o.op ≠ .defer c) (hrun : (execOp a.eval o).run P w = .ok (.value v) w)
    (h : wpListIn Fence.wide n P ops Q rest (a.put o.dst v) w) : wpListIn Fence.wide n P ops Q (o :: rest) a w :=
  wpListIn_plain hg fun K hK => ⟨fun _ _ => trivial, by rw [Oper.semAt_plain _ _ _ hd, hrun]; exact hK _ _ h⟩
theorem listW_wantN (hw : Region.wanted o (yielded ops a.tmps) = true) (hd : ∀ c, o.op ≠ .defer c) (hrun : (execOp a.eval o).run P w = .ok (.value v) w)
    (h : wpListIn Fence.wide n P ops Q rest (a.put o.dst v) w) : wpListIn Fence.wide n P ops Q (o :: rest) a w :=
  wpListIn_step fun K hK => by rw [if_pos hw]; exact ⟨fun _ _ => trivial, by rw [Oper.semAt_plain _ _ _ hd, hrun]; exact hK _ _ h⟩
theorem listW_skipN (hg : o.guard = none) (hd : ∀ c, o.op ≠ .defer c) (hrun : (execOp a.eval o).run P w = .ok .skip w')
    (h : wpListIn Fence.wide n P ops Q rest (a.put o.dst undef) w') : wpListIn Fence.wide n P ops Q (o :: rest) a w :=
  wpListIn_plain hg fun K hK => ⟨fun _ _ => trivial, by rw [Oper.semAt_plain _ _ _ hd, hrun]; exact hK _ _ h⟩
end
set_option maxRecDepth 100000 in
theorem run_load_slo {o : Oper} {a : Act} {w : World} {x : Operand} {g i : Nat} {y : Option Bd} (ho : o.op = .load 68 x) (hx : a.eval x = .pointer (some ⟨g, i, none⟩)) (hr : w.rangeAt g i (clSl y)) :
    (execOp a.eval o).run Tryd.prog w = .ok (.value (.agg (clSl y).toArray)) w := by
  have h := run_loadVar_mid (P := Tryd.prog) w g i 68 (clSl y) _ hr Tryd.underlying68 rfl (by rw [clSl_len]; kernel_rfl)
  unfold execOp
  simp only [ho, hx, Instr.loadAt, Instr.sureAddr, Sem.run_bind, Sem.run_pure, Result.andThen_ok, h]
set_option maxRecDepth 100000 in
theorem run_store_slN {o : Oper} {a : Act} {w : World} {x y : Operand} {g t : Nat} {cs old : Array Value} (ho : o.op = .store 68 x y) (hx : a.eval x = .pointer (some ⟨g, 0, none⟩)) (hy : a.eval y = .agg cs) (hg : w.heap[g]? = some (.cells old t (0, 0))) (hold : old.size = 9) (hl : cs.size = 9) (h1 : cs.all (·.oneCell') = true) :
    (execOp a.eval o).run Tryd.prog w = .ok .skip (w.setRow g cs) := by
  have h := run_storeVar_row (P := Tryd.prog) w g t 68 old cs hg (by rw [hl]; kernel_rfl) (by rw [hold, hl]) h1
  unfold execOp
  simp only [ho, hx, hy, Instr.storeAt, Instr.sureAddr, Sem.run_bind, Sem.run_pure, Result.andThen_ok, h]
theorem clSl_flat (l : List (Option Bd)) : (l.flatMap clSl).length = l.length * 9 := flat_len l (fun x _ => clSl_len x)
theorem rds_srcN {w : World} {B : Nat} {ad : Addr} {l : List (Option Bd)} (hr : RdS clSl 9 w B (some ad) l) : ∀ j u, (l.flatMap clSl)[j]? = some u → w.cell? (ad.add j) = some u := fun j u hj => by
  have hj3 : j < l.length * 9 := by have := (List.getElem?_eq_some_iff.1 hj).1; rwa [clSl_flat] at this
  obtain ⟨b, off, e, _, hc⟩ := hr (by omega)
  injection e with e
  subst e
  obtain ⟨y, hy⟩ : ∃ y, l[j / 9]? = some y := ⟨_, List.getElem?_eq_getElem (by omega)⟩
  have h2 : j % 9 < (clSl y).length := by rw [clSl_len]; omega
  have hf := flat_at (cl := clSl) (sz := 9) l (fun x _ => clSl_len x) (j / 9) y hy (j % 9) _ (List.getElem?_eq_getElem h2)
  rw [show j / 9 * 9 + j % 9 = j from by omega, hj] at hf
  have h3 := hc (j / 9) y hy (j % 9) _ (List.getElem?_eq_getElem h2)
  rw [add_off, ← show off + j / 9 * 9 + j % 9 = off + j from by omega, h3, ← hf]
section
variable {n : Nat} {o : Oper} {a : Act} {w : World} {K : Act → World → Prop} {Q : Exit → Act → World → Prop}
theorem store_slN {x y : Operand} {p : Addr} {v0 : Value} {A : Option Addr} {m c : Nat} (ho : o.op = .store 56 x y) (hx : a.eval x = .pointer (some p)) (hy : a.eval y = .slice A m c) (hc : w.cell? p = some v0) (hf : w.frozen? p = false)
    (h : K (a.put o.dst undef) (w.setCell p (.slice A m c))) : o.wpIn Fence.wide n Tryd.prog a w K Q := by
  refine skipI (w' := w.setCell p (.slice A m c)) ?_ h
  unfold execOp
  simp only [ho, hx, hy, Instr.storeAt, Instr.sureAddr, Sem.run_bind, Sem.run_pure, Result.andThen_ok]
  go_simp
theorem append_slN (s x : Operand) (ho : o.op = .call { callee := .builtin .append, args := #[s, x], argTypes := #[56, 56] })
    (base : Nat) (v : Value) (m : Nat) (xs : List Value) (hs : a.eval s = v) (hown : w.ownsRow base 68 9 v m xs)
    (B : Nat) (A : Option Addr) (k c : Nat) (l : List (Option Bd)) (hx : a.eval x = .slice A k c) (hk : k = l.length) (hA : A = none → c = 0) (hr : RdS clSl 9 w B A l)
    (hlen : m + k ≤ 1000000) (hbase : base ≤ w.heap.size)
    (h : ∀ v' w', w'.ownsRow base 68 9 v' (m + k) (xs ++ l.flatMap clSl) → w.grownBy w' v.ownBlock → K (a.put o.dst v') w') : o.wpIn Fence.wide n Tryd.prog a w K Q := by
  obtain ⟨i0, hi, hz0, hz1, hz2⟩ := info_parts info_slt
  subst hk
  rcases A with _ | ad
  · have h0 : l = [] := by
      rcases Nat.eq_zero_or_pos l.length with e | e
      · exact List.eq_nil_of_length_eq_zero e
      · obtain ⟨_, _, e', _⟩ := hr e; cases e'
    subst h0
    obtain rfl := hA rfl
    have hrun := run_append_owned_none (P := Tryd.prog) (w := w) base 56 o.type 68 i0 9 Tryd.underlying56 hi v m xs hown
    refine growI (v := v) (w' := w) ?_ (h v w (by simpa using hown) (World.grownBy.refl w _))
    simp [execOp, ho, resolve, invoke, builtin, hs, hx, hrun, Result.andThen]
  · obtain ⟨v', w', hrun, h1, h2, _⟩ := run_append_own (P := Tryd.prog) w base 56 o.type 68 i0 _ 9 72 Tryd.underlying56 hi hz0 hz1 hz2 rfl (by decide) v m xs hown ad l.length c (l.flatMap clSl)
      (clSl_flat l) (rds_srcN hr) (fun u hu => by obtain ⟨y, _, h9⟩ := List.mem_flatMap.1 hu; exact clSl_own y u h9) (by unfold maxLen; omega) (by omega) hbase
    refine growI (v := v') (w' := w') ?_ (h v' w' h1 h2)
    simp [execOp, ho, resolve, invoke, builtin, hs, hx, hrun, Result.andThen]
end
set_option maxRecDepth 100000 in
theorem bmade_nil (w : World) : Calls Tryd.prog 23 #[.pointer none] w fun e w' => e = .returned (.bool false) ∧ w = w' := by
  go_enter Tryd.func23, Tryd.ntmps23
  go_wp2
  go_ret
  exact ⟨rfl, rfl⟩
/-- What All makes: an iterator over a box, whose slice reads as these slots. -/
def AllB (w : World) (S : List (Option Bd)) (e : Ending) (w' : World) : Prop :=
  e = .returned (.func (.func 31) #[] #[.pointer (some ⟨w.heap.size, 0, none⟩)]) ∧ ∃ A c, Boxed w' w.heap.size 56 (.slice A S.length c) ∧ RdS clSl 9 w' w'.heap.size A S ∧ (∀ g, A = some g → w.heap.size < g.block ∧ g.block < w'.heap.size) ∧ Below w.heap.size w w'
section
variable {w w' : World} {B0 d t1 b1 t2 b2 : Nat} {A : Option Addr} {c : Nat} {most : Int} {S : List (Option Bd)} {f : Nat}
theorem ball_nil (w : World) : Calls Tryd.prog 20 #[.pointer none] w fun e w' => AllB w [] e w' := by
  have hb := Boxed.new w 56 (.slice none 0 0)
  have hB : Below w.heap.size w (w.alloc (.cells #[.slice none 0 0] 56)) := (Below.refl _ w).alloc (Nat.le_refl _) _
  go_enter Tryd.func20, Tryd.ntmps20
  go_wp2_with (go_at_call 23; refine (bmade_nil _).mono ?_; rintro e w1 ⟨rfl, rfl⟩)
  refine bodyPost_ret (results_tmp rfl _ _ _) rfl ⟨rfl, none, 0, hb, (fun h => absurd h (by simp)), (fun g e => by cases e), hB⟩
set_option maxRecDepth 100000 in
set_option maxHeartbeats 2000000 in
theorem ball (h : Db w B0 d t1 b1 t2 b2 A c most S f) : Calls Tryd.prog 20 #[.pointer (some ⟨d, 0, none⟩)] w fun e w' => AllB w S e w' := by
  obtain ⟨n, hn⟩ : ∃ n, n = S.length := ⟨_, rfl⟩
  have HN := Lib.hid hn
  obtain ⟨Z, hZ⟩ : ∃ Z, Z = w.alloc (.cells #[.slice none 0 0] 56) := ⟨_, rfl⟩
  have bZ : Below w.heap.size w Z := by rw [hZ]; exact (Below.refl _ w).alloc (Nat.le_refl _) _
  have hbx : Boxed Z w.heap.size 56 (.slice none 0 0) := by rw [hZ]; exact Boxed.new w 56 _
  have hzz : Z.heap.size = w.heap.size + 1 := by rw [hZ]; simp
  have HK := Lib.hid (h.below bZ)
  have HNN : Hid (A = none → c = 0) := Lib.hid (fun e => by
    rcases h.own.2 with ⟨hv, _⟩ | ⟨g, cap, cur, hv, _⟩
    · injection hv
    · rw [e] at hv; injection hv with e1; cases e1)
  have HLE : Hid (n ≤ 1000000) := Lib.hid (by have := h.n; have := h.mst; omega)
  have HZ := Lib.hid (show w.alloc (.cells #[.slice none 0 0] 56) = Z from hZ.symm)
  have HBX := Lib.hid hbx
  have HRD : Hid (∀ U, Below Z.heap.size Z U → RdS clSl 9 U Z.heap.size A S) := Lib.hid (fun U hU => HK.out.rds.below hU)
  have HC0 : Hid (∀ U, Below Z.heap.size Z U → U.cell? ⟨d, 0, none⟩ = some (.slice A n c)) := Lib.hid (fun U hU => by rw [HN.out]; exact (HK.out.below hU).c0)
  have HCB : Hid (∀ U, Below Z.heap.size Z U → U.cell? ⟨w.heap.size, 0, none⟩ = some (.slice none 0 0)) := Lib.hid (fun U hU => (Boxed.below HBX.out hU (Boxed.lt HBX.out)).cell)
  clear h hn hZ hbx
  go_enter Tryd.func20, Tryd.ntmps20
  go_upto_region 2 with fail
  rw [HZ.out]
  go_upto_region 3 with (go_at_call 23; refine (bmade HK.out).mono ?_; rintro e w1 ⟨rfl, rfl⟩)
  refine regionY 6 (fun w' => Below Z.heap.size Z w') (by kernel_rfl) ?_
  have hS : Below Z.heap.size Z Z.drew := (Below.refl _ Z).drew
  have b0 := hS
  generalize Z.drew = X0 at *
  refine pureY (i := 0) (oi := ⟨some 6, _, _, _, _, _⟩) rfl (by kernel_rfl) (by kernel_rfl) (by kernel_rfl) (by kernel_rfl) (by kernel_rfl) (fun _ _ _ h => h) (by rfl) (fun w hSw => run_load_slt rfl rfl (HCB.out _ hSw)) hS ?_
  try go_frame
  refine pureY (i := 1) (oi := ⟨some 7, _, _, _, _, _⟩) rfl (by kernel_rfl) (by kernel_rfl) (by kernel_rfl) (by kernel_rfl) (by kernel_rfl) (fun _ _ _ h => h) (by rfl) (v := ?_) (fun w hSw => ?_) hS ?_
  rotate_left
  · go_simp; try with_reducible rfl
  try go_frame
  refine pureY (i := 2) (oi := ⟨some 8, _, _, _, _, _⟩) rfl (by kernel_rfl) (by kernel_rfl) (by kernel_rfl) (by kernel_rfl) (by kernel_rfl) (fun _ _ _ h => h) (by rfl) (v := ?_) (fun w hSw => ?_) hS ?_
  rotate_left
  · go_simp; try with_reducible rfl
  try go_frame
  refine pureY (i := 3) (oi := ⟨some 9, _, _, _, _, _⟩) rfl (by kernel_rfl) (by kernel_rfl) (by kernel_rfl) (by kernel_rfl) (by kernel_rfl) (fun _ _ _ h => h) (by rfl) (v := ?_) (fun w hSw => ?_) hS ?_
  rotate_left
  · go_simp; try with_reducible rfl
  try go_frame
  refine pureY (i := 4) (oi := ⟨some 10, _, _, _, _, _⟩) rfl (by kernel_rfl) (by kernel_rfl) (by kernel_rfl) (by kernel_rfl) (by kernel_rfl) (fun _ _ _ h => h) (by rfl) (fun w hSw => run_load_slt rfl rfl (HC0.out _ hSw)) hS ?_
  try go_frame
  refine oneY (i := 5) (oi := ⟨some 11, _, _, _, _, _⟩) (by kernel_rfl) rfl (by rfl) (fun K hK => ?_)
  refine append_slN _ _ rfl Z.heap.size (.slice none 0 0) 0 [] rfl (World.ownsRow_nil _ _ _ _) Z.heap.size A n c S rfl HN.out HNN.out (HRD.out _ b0) (by have := HLE.out; omega) b0.size ?_
  intro v7 w7 own7 grow7
  rw [Nat.zero_add, List.nil_append] at own7
  have x7 := (Below.refl X0.heap.size X0).grown grow7 (Nat.le_refl _) (fun _ hk => by cases hk)
  have b7 := b0.trans (x7.mono b0.size)
  have hS : Below Z.heap.size Z w7 := b7
  refine hK _ _ (fun _ => hS) ?_
  clear hK K
  try go_frame
  try go_frame
  refine oneY (i := 6) (oi := ⟨none, _, _, _, _, _⟩) (by kernel_rfl) rfl (by rfl) (fun K hK => ?_)
  have hbz := Boxed.below HBX.out b7 (Boxed.lt HBX.out)
  have kc := hbz.cell
  have kf := hbz.frozen
  obtain ⟨A2, c2, e2, rd2, _⟩ := own_rds own7 HN.out rfl (fun x _ => clSl_len x)
  obtain ⟨hA2⟩ : Nonempty (∀ g, A2 = some g → w.heap.size < g.block ∧ g.block < w7.heap.size) := ⟨fun g hg => by
    rcases own7.2 with ⟨hv, _⟩ | ⟨g', cap, cur, hv, hb', hh', _⟩
    · rw [e2, hg] at hv; injection hv with e1; cases e1
    · rw [e2, hg] at hv; injection hv with e1; injection e1 with e1; rw [e1]; exact ⟨by show w.heap.size < g'; omega, heap_lt hh'⟩⟩
  subst e2
  rw [← HN.out]
  refine store_slN rfl rfl rfl kc kf ?_
  refine hK _ _ (fun h => absurd h (by decide)) ?_
  clear hK K
  try go_frame
  try go_frame
  refine doneY (by kernel_rfl) ?_ _
  have k9 := Kept.setCell w7 w.heap.size 0 (.slice A2 n c2)
  have hbx9 : Boxed (w7.setCell ⟨w.heap.size, 0, none⟩ (.slice A2 n c2)) w.heap.size 56 (.slice A2 n c2) := heap_setCell_same w7 w.heap.size 0 _ _ _ hbz
  have rd9 : RdS clSl 9 (w7.setCell ⟨w.heap.size, 0, none⟩ (.slice A2 n c2)) (w7.setCell ⟨w.heap.size, 0, none⟩ (.slice A2 n c2)).heap.size A2 S := by
    have h9 := rd2.keepN (Y := w7.setCell ⟨w.heap.size, 0, none⟩ (.slice A2 n c2)) (KeepN.of_heap (fun g hg => heap_setCell_other w7 ⟨w.heap.size, 0, none⟩ g.block _ (fun e => by have := (hA2 g hg).1; have e' : g.block = w.heap.size := e; omega)))
    exact h9.more k9.size
  have b9 : Below w.heap.size w (w7.setCell ⟨w.heap.size, 0, none⟩ (.slice A2 n c2)) := (bZ.trans (b7.mono (by omega))).setCell (p := ⟨w.heap.size, 0, none⟩) (Nat.le_refl _) _
  skip
  have hA9 : ∀ ga, A2 = some ga → w.heap.size < ga.block ∧ ga.block < (w7.setCell ⟨w.heap.size, 0, none⟩ (.slice A2 n c2)).heap.size := fun ga hga => ⟨(hA2 ga hga).1, by have := (hA2 ga hga).2; simpa using this⟩
  clear kc kf hbz hA2
  generalize w7.setCell ⟨w.heap.size, 0, none⟩ (.slice A2 n c2) = w9 at *
  go_wp2
  refine bodyPost_ret (results_tmp rfl _ _ _) rfl ⟨rfl, A2, c2, by rw [← HN.out]; exact hbx9, rd9, hA9, b9⟩

end
def encB (e : Nat × Bd) : Array Value := #[.int .i64 (e.1 : Int), bdV e.2]
/-- What is known of a binding when it comes. -/
def GB (D : List (Nat × Bd)) (pre : List (Nat × Bd)) (x : Nat × Bd) (_ : World) : Prop := ∃ more, D = pre ++ x :: more
set_option maxRecDepth 100000 in
set_option maxHeartbeats 4000000 in
theorem ball1_in (m : Nat) (hm : 1 ≤ m) (l B c Bz : Nat) (A : Option Addr) (S : List (Option Bd)) (J Jx : List (Nat × Bd) → World → Prop) (W : World) (hJA0 : AbidesFrom W.heap.size J)
    (hY : ∀ pre x X, J pre X → GB (docB 0 S) pre x X → YieldAt Fence.wide (m - 1) Tryd.prog l (encB x) X fun e Y =>
      (e = .returned (.bool true) ∧ J (pre ++ [x]) Y ∧ KeepN A X Y) ∨ (e = .returned (.bool false) ∧ Jx (pre ++ [x]) Y))
    (hbox : W.cell? ⟨B, 0, none⟩ = some (.slice A S.length c)) (hrd : RdS clSl 9 W Bz A S) (hS : S.length ≤ 1000000) (hJ : J [] W) :
    CallsIn Fence.wide m Tryd.prog 31 #[.func (.yield l) #[] #[], .pointer (some ⟨B, 0, none⟩)] W fun e W' => (∃ v, e = .returned v) ∧
      ((∃ xs, xs = docB 0 S ∧ J xs W') ∨ (∃ pre, (∃ more, docB 0 S = pre ++ more) ∧ Jx pre W')) := by
  have hJA := hJA0
  obtain ⟨N, hNe⟩ : ∃ N, N = S.length := ⟨_, rfl⟩
  rw [← hNe] at hbox hS
  have HN := Lib.hid hNe
  clear hJA0 hNe
  refine callsIn_of_wp Tryd.func31 rfl trivial ?_ rfl
  simp only [Tryd.ntmps31, List.size_toArray, List.length_cons, List.length_nil, Nat.reduceAdd, Nat.reduceSub, Array.replicate_succ, Array.replicate_zero, List.push_toArray, List.append_toArray, List.nil_append, List.cons_append]
  gi_wp2
  gi_loopw [7] (fun i wr => ∃ (k : Nat) (pre : List (Nat × Bd)), k ≤ N ∧ i = .int .i64 (k : Int) ∧ Hid (pre = docB 0 (S.take k)) ∧ J pre wr ∧ Hid (RdS clSl 9 wr Bz A S))
    (fun i _ => N - (intOf i).toNat)
  case atStart => exact ⟨0, [], Nat.zero_le _, rfl, Lib.hid rfl, hJ, Lib.hid hrd⟩
  case round =>
    obtain ⟨k, pre, hk, rfl, HP, hJs, HR⟩ := hrel
    by_cases hlt : k < N
    · obtain ⟨o, ho⟩ : ∃ o, S[k]? = some o := ⟨_, List.getElem?_eq_getElem (by rw [← HN.out]; exact hlt)⟩
      obtain ⟨b1, o1, rfl, hb1, hrow0⟩ := HR.out (by rw [← HN.out]; omega)
      have hrow := hrow0 k o ho
      obtain ⟨V, hV⟩ : ∃ V, V = wr.alloc (.cells (clSl o).toArray 68) := ⟨_, rfl⟩
      have HV := Lib.hid hV
      have bV : Below wr.heap.size wr V := by rw [hV]; exact (Below.refl _ wr).alloc (Nat.le_refl _) _
      have hbV : V.heap[wr.heap.size]? = some (.cells (clSl o).toArray 68 (0, 0)) := by rw [hV]; exact World.alloc_heap_new wr _
      have hJV := hJA pre wr V none hJs (grown_none bV) (fun r e => by cases e)
      have hzV := bV.size
      have hb1w := cell_block (hrow 8 (.bool o.isSome) (by cases o <;> rfl))
      have hRV := Lib.hid (HR.out.keepN (KeepN.of_heap (X := wr) (Y := V) (fun g e => by cases e; exact bV.block b1 hb1w)))
      clear hV
      cases o with
      | none =>
        have kx8 : V.cell? ⟨wr.heap.size, 8, none⟩ = some (.bool false) := cells_at (i := 8) hbV rfl
        have HSP := Lib.hid (docB_none1 ho)
        clear ho hbV
        gi_wp2_with (first
          | ((with_reducible show wpListIn _ _ _ _ _ (Oper.mk _ (Op.load 68 _) _ _ _ _ :: _) _ _); refine listW_valN rfl (fun c h => by cases h) (run_load_slo rfl rfl hrow) ?_)
          | ((with_reducible show wpListIn _ _ _ _ _ (Oper.mk _ (Op.store 68 _ _) _ _ _ _ :: _) _ _); refine listW_skipN rfl (fun c h => by cases h) (run_store_slN (cs := (clSl (none)).toArray) rfl rfl rfl (World.alloc_heap_new wr _) rfl rfl (clSl_one _)) ?_; rw [World.setRow_alloc_new]; rw [← HV.out]))
        first
          | (refine ⟨fun f h => (by cases h), ?_⟩; gi_wp2)
          | skip
        go_roundw
        case rel => exact ⟨k + 1, pre, by omega, by simp, Lib.hid (HP.out.trans HSP.out.symm), hJV, hRV⟩
        case measure => simp [intOf]; omega
      | some x =>
        have kx8 : V.cell? ⟨wr.heap.size, 8, none⟩ = some (.bool true) := cells_at (i := 8) hbV rfl
        have hrx : V.rangeAt wr.heap.size 0 (clBd x) := fun j v hj => range_heap hbV j v (by show (clBd x ++ [.bool true])[j]? = some v; rw [List.getElem?_append_left (List.getElem?_eq_some_iff.1 hj).1]; exact hj)
        have HSP := Lib.hid (docB_some1 ho)
        obtain ⟨more, hmore⟩ := docB_rest (S := S) (k + 1)
        have HSQ : Hid (docB 0 S = (pre ++ [(k, x)]) ++ more) := Lib.hid (by rw [hmore, HSP.out, HP.out])
        have hY2 := hY pre (k, x) V hJV ⟨more, by rw [HSQ.out]; simp⟩
        obtain ⟨fn, tmps, assign, body, hy, hR⟩ := hY2
        dsimp only [encB] at hy
        clear ho hbV hmore
        gi_wp2_with (first
          | ((with_reducible show wpListIn _ _ _ _ _ (Oper.mk _ (Op.load 68 _) _ _ _ _ :: _) _ _); refine listW_valN rfl (fun c h => by cases h) (run_load_slo rfl rfl hrow) ?_)
          | ((with_reducible show wpListIn _ _ _ _ _ (Oper.mk _ (Op.store 68 _ _) _ _ _ _ :: _) _ _); refine listW_skipN rfl (fun c h => by cases h) (run_store_slN (cs := (clSl (some x)).toArray) rfl rfl rfl (World.alloc_heap_new wr _) rfl rfl (clSl_one _)) ?_; rw [World.setRow_alloc_new]; rw [← HV.out])
          | ((with_reducible show wpListIn _ _ _ _ _ (Oper.mk _ (Op.load 36 _) _ _ _ _ :: _) _ _); refine listW_wantN (by rfl) (fun c h => by cases h) (run_load_bd rfl rfl hrx) ?_))
        refine hR.mono ?_
        rintro e W3 (⟨rfl, hJ3, hk3⟩ | ⟨rfl, hJx3⟩)
        · clear hy hR
          have hR3 := Lib.hid (hRV.out.keepN hk3)
          gi_wp2
          go_roundw
          case rel => exact ⟨k + 1, pre ++ [(k, x)], by omega, by simp, Lib.hid (by rw [HSP.out, HP.out]), hJ3, hR3⟩
          case measure => simp [intOf]; omega
        · clear hy hR
          gi_wp2
          refine bodyPost_ret (results_none rfl _ _ _) rfl ?_
          exact ⟨⟨_, rfl⟩, .inr ⟨_, ⟨_, HSQ.out⟩, hJx3⟩⟩
    · obtain rfl : N = k := by omega
      gi_wp2
      try rw [Exit.noGoto_normal]
      go_end0
      exact ⟨⟨_, rfl⟩, .inl ⟨_, by rw [HP.out, List.take_of_length_le (by rw [← HN.out]; exact Nat.le_refl _)], hJs⟩⟩
theorem ball1_seq (B c Bz : Nat) (A : Option Addr) (S : List (Option Bd)) (W : World) (hbox : W.cell? ⟨B, 0, none⟩ = some (.slice A S.length c)) (hrd : RdS clSl 9 W Bz A S) (hBz : Bz ≤ W.heap.size) (hS : S.length ≤ 1000000) (m : Nat) (hm : 1 ≤ m) :
    SeqTold m Tryd.prog 31 #[.pointer (some ⟨B, 0, none⟩)] encB (GB (docB 0 S)) (KeepN A) (fun xs => xs = docB 0 S) (fun pre => ∃ more, docB 0 S = pre ++ more) W := by
  intro l J Jx V hV hJ _ hY h0
  exact ball1_in m hm l B c Bz A S J Jx V hJ hY ((hV.cell (p := ⟨B, 0, none⟩) (cell_block hbox)).trans hbox) (hrd.below (hV.mono hBz)) hS h0
end Go.Proofs.YtafidbjaeopciaaDoor

/-
  Calls of bindings, and a binding, that came in, opened; bindings that no call made; awake of layer 22. Conditions are each theorem's own.
-/
namespace Go.Proofs.YtafidbjaeopciaaDoor
open Go.RowKit Go.Shelf Go.ChangeShapes Go.WideShapes
theorem cells_at20B {w : World} {b o k : Nat} {cs : List Value} (h : w.cells? 0 ⟨b, o, none⟩ k = some cs) : w.rangeAt b o cs := fun j v hj => by
  have hk := World.cells?_some h
  have hlt : j < k := by have := (List.getElem?_eq_some_iff.1 hj).1; omega
  have := (World.cells?_some h).2.2 j hlt
  rw [hj, add_off] at this
  exact this
section
variable {H : Type} {enc : TypeId × Value → H} {w : World} {base : Nat} {v : Value} {d : DataW H} {p : List MemPlace}
theorem cell_rowsB {X : Type} {T e : TypeId} {sz n : Nat} {cl : X → List Value} {Pp : X → Prop} {l : List Value} {x : DataW H × List MemPlace} (ht : Tryd.prog.underlying T = some (.slice e)) (hce : Tryd.prog.cellsOf e = sz) (hpos : 0 < sz) (d : X)
    (hcell : ∀ fuel cs y, DataW.trod enc Tryd.prog w 0 (fun _ => true) true fuel e cs = some y → ∃ z, cs = cl z ∧ Pp z) (hlen : ∀ y, Pp y → (cl y).length = sz)
    (hf : DataW.trod enc Tryd.prog w 0 (fun _ => true) true n T l = some x) :
    ∃ A c xs, l = [.slice A xs.length c] ∧ RdS cl sz w w.heap.size A xs ∧ (∀ y ∈ xs, Pp y) ∧ xs.length ≤ c ∧ c ≤ maxLen ∧ (A = none → c = 0) := by
  rcases Deep.open_slice ht hf with ⟨hcs, _⟩ | ⟨a, len, cap, m, n', D, Pl, hcs, _, hl, hm, hmm, _, hall⟩
  · exact ⟨none, 0, [], hcs, fun hn => absurd hn (by simp), fun x hx => (by cases hx), Nat.le_refl _, Nat.zero_le _, fun _ => rfl⟩
  · rw [hce] at hall
    have hmm' : m = cap := by simpa using hmm
    subst hmm'
    have key : ∀ i, ∃ y : X, i < len → w.cells? 0 (a.add (i * sz)) sz = some (cl y) ∧ Pp y := fun i => by
      by_cases hi : i < len
      · obtain ⟨cs', h1, h2⟩ := hall i (by omega)
        obtain ⟨y, rfl, h3⟩ := hcell _ _ _ h2
        exact ⟨y, fun _ => ⟨h1, h3⟩⟩
      · exact ⟨d, fun h => absurd h hi⟩
    obtain ⟨Xf, hX⟩ := Classical.skolem.1 key
    have el : ((List.range len).map Xf).length = len := by simp
    refine ⟨some a, m, (List.range len).map Xf, by rw [el]; exact hcs, fun hn => ?_, fun x hx => ?_, by rw [el]; exact hl, hm, fun h => by cases h⟩
    · rw [el] at hn
      obtain ⟨b, off, spot⟩ := a
      obtain ⟨h0, hp0⟩ := hX 0 hn
      have hne : 0 < (cl (Xf 0)).length := by rw [hlen _ hp0]; exact hpos
      have hc0 : World.cell? w ((Addr.mk b off spot).add (0 * sz) |>.add 0) = (cl (Xf 0))[0]? := (World.cells?_some h0).2.2 0 hpos
      have hspot : spot = none := by simpa [Addr.add] using World.cell?_spot (hc0.trans (List.getElem?_eq_getElem hne))
      subst hspot
      have hb : b < w.heap.size := by simpa [Addr.add] using World.cells?_block h0 hpos
      refine ⟨b, off, rfl, hb, fun j x hx => ?_⟩
      have hj : j < len := by
        have := (List.getElem?_eq_some_iff.1 hx).1
        rwa [el] at this
      have e : x = Xf j := by
        rw [List.getElem?_map, List.getElem?_range hj] at hx
        simpa using hx.symm
      obtain ⟨h1, h2⟩ := hX j hj
      rw [add_off] at h1
      rw [e]
      refine cells_at20B h1
    · obtain ⟨i, hi, rfl⟩ := List.mem_map.1 hx
      exact (hX i (List.mem_range.1 hi)).2
set_option maxRecDepth 100000 in
theorem cell_innerB {x : DataW H × List MemPlace} {fuel : Nat} {l : List Value} (hf : DataW.trod enc Tryd.prog w 0 (fun _ => true) true fuel 32 l = some x) :
    ∃ z : List Int, l = clI z ∧ z.length = 4 ∧ ∀ m ∈ z, (Lit.int .i64 m).wf = true := by
  obtain ⟨xs, n, _, _, hl, hxs, hall⟩ := DataW.trod_struct Tryd.underlying32 hf
  have hci : Tryd.prog.cellsOf 3 = 1 := by kernel_rfl
  have hcn : Tryd.prog.cellsOf 32 = 4 := by kernel_rfl
  have hl' : l.length = 4 := by rw [← hcn]; exact hl
  have hall' : ∀ (i : Nat) (f : Field), _ → DataW.trod enc Tryd.prog w 0 (fun _ => true) true n f.type ((l.drop f.offset).take (Tryd.prog.cellsOf f.type)) = xs[i]? := hall
  match xs, hxs with
  | [y0, y1, y2, y3], _ =>
    have h0 : DataW.trod enc Tryd.prog w 0 (fun _ => true) true n 3 ((l.drop 0).take (Tryd.prog.cellsOf 3)) = some y0 := hall' 0 _ rfl
    rw [hci] at h0
    obtain ⟨a0, e0, f0⟩ := cell_int Tryd.underlying3 h0
    have k0 := piece_get e0
    have h1 : DataW.trod enc Tryd.prog w 0 (fun _ => true) true n 3 ((l.drop 1).take (Tryd.prog.cellsOf 3)) = some y1 := hall' 1 _ rfl
    rw [hci] at h1
    obtain ⟨a1, e1, f1⟩ := cell_int Tryd.underlying3 h1
    have k1 := piece_get e1
    have h2 : DataW.trod enc Tryd.prog w 0 (fun _ => true) true n 3 ((l.drop 2).take (Tryd.prog.cellsOf 3)) = some y2 := hall' 2 _ rfl
    rw [hci] at h2
    obtain ⟨a2, e2, f2⟩ := cell_int Tryd.underlying3 h2
    have k2 := piece_get e2
    have h3 : DataW.trod enc Tryd.prog w 0 (fun _ => true) true n 3 ((l.drop 3).take (Tryd.prog.cellsOf 3)) = some y3 := hall' 3 _ rfl
    rw [hci] at h3
    obtain ⟨a3, e3, f3⟩ := cell_int Tryd.underlying3 h3
    have k3 := piece_get e3
    refine ⟨[a0, a1, a2, a3], ?_, rfl, ?_⟩
    · match l, hl' with
      | [x0, x1, x2, x3], _ => simp at k0 k1 k2 k3; simp [clI, k0, k1, k2, k3]
    · intro m hm
      simp only [List.mem_cons, List.not_mem_nil, or_false] at hm
      rcases hm with rfl | rfl | rfl | rfl <;> assumption
set_option maxRecDepth 100000 in
theorem cell_outerB {x : DataW H × List MemPlace} {fuel : Nat} {l : List Value} (hf : DataW.trod enc Tryd.prog w 0 (fun _ => true) true fuel 34 l = some x) :
    ∃ z : List Int, l = clI z ∧ z.length = 3 ∧ ∀ m ∈ z, (Lit.int .i64 m).wf = true := by
  obtain ⟨xs, n, _, _, hl, hxs, hall⟩ := DataW.trod_struct Tryd.underlying34 hf
  have hci : Tryd.prog.cellsOf 3 = 1 := by kernel_rfl
  have hcn : Tryd.prog.cellsOf 34 = 3 := by kernel_rfl
  have hl' : l.length = 3 := by rw [← hcn]; exact hl
  have hall' : ∀ (i : Nat) (f : Field), _ → DataW.trod enc Tryd.prog w 0 (fun _ => true) true n f.type ((l.drop f.offset).take (Tryd.prog.cellsOf f.type)) = xs[i]? := hall
  match xs, hxs with
  | [y0, y1, y2], _ =>
    have h0 : DataW.trod enc Tryd.prog w 0 (fun _ => true) true n 3 ((l.drop 0).take (Tryd.prog.cellsOf 3)) = some y0 := hall' 0 _ rfl
    rw [hci] at h0
    obtain ⟨a0, e0, f0⟩ := cell_int Tryd.underlying3 h0
    have k0 := piece_get e0
    have h1 : DataW.trod enc Tryd.prog w 0 (fun _ => true) true n 3 ((l.drop 1).take (Tryd.prog.cellsOf 3)) = some y1 := hall' 1 _ rfl
    rw [hci] at h1
    obtain ⟨a1, e1, f1⟩ := cell_int Tryd.underlying3 h1
    have k1 := piece_get e1
    have h2 : DataW.trod enc Tryd.prog w 0 (fun _ => true) true n 3 ((l.drop 2).take (Tryd.prog.cellsOf 3)) = some y2 := hall' 2 _ rfl
    rw [hci] at h2
    obtain ⟨a2, e2, f2⟩ := cell_int Tryd.underlying3 h2
    have k2 := piece_get e2
    refine ⟨[a0, a1, a2], ?_, rfl, ?_⟩
    · match l, hl' with
      | [x0, x1, x2], _ => simp at k0 k1 k2; simp [clI, k0, k1, k2]
    · intro m hm
      simp only [List.mem_cons, List.not_mem_nil, or_false] at hm
      rcases hm with rfl | rfl | rfl <;> assumption
theorem wf_bdB {n : Int} (h : (Lit.int .i64 n).wf = true) : wfB n := by
  simp [Lit.wf, IntKind.min, IntKind.max, IntKind.bits, IntKind.signed] at h
  exact ⟨by omega, by omega⟩
set_option maxRecDepth 100000 in
theorem cell_bdB {x : DataW H × List MemPlace} {fuel : Nat} {l : List Value} (hf : DataW.trod enc Tryd.prog w 0 (fun _ => true) true fuel 36 l = some x) : ∃ s : Bd, l = clBd s ∧ s.fits := by
  obtain ⟨xs, n, _, _, hl, hxs, hall⟩ := DataW.trod_struct Tryd.underlying36 hf
  have hc4 : Tryd.prog.cellsOf 32 = 4 := by kernel_rfl
  have hc3 : Tryd.prog.cellsOf 34 = 3 := by kernel_rfl
  have hcb : Tryd.prog.cellsOf 4 = 1 := by kernel_rfl
  have hcn : Tryd.prog.cellsOf 36 = 8 := by kernel_rfl
  have hl' : l.length = 8 := by rw [← hcn]; exact hl
  have hall' : ∀ (i : Nat) (f : Field), _ → DataW.trod enc Tryd.prog w 0 (fun _ => true) true n f.type ((l.drop f.offset).take (Tryd.prog.cellsOf f.type)) = xs[i]? := hall
  match xs, hxs with
  | [y0, y1, y2], _ =>
    have h0 : DataW.trod enc Tryd.prog w 0 (fun _ => true) true n 32 ((l.drop 0).take (Tryd.prog.cellsOf 32)) = some y0 := hall' 0 _ rfl
    have h1 : DataW.trod enc Tryd.prog w 0 (fun _ => true) true n 34 ((l.drop 4).take (Tryd.prog.cellsOf 34)) = some y1 := hall' 1 _ rfl
    have h2 : DataW.trod enc Tryd.prog w 0 (fun _ => true) true n 4 ((l.drop 7).take (Tryd.prog.cellsOf 4)) = some y2 := hall' 2 _ rfl
    rw [hc4] at h0
    rw [hc3] at h1
    rw [hcb] at h2
    obtain ⟨z0, e0, n0, f0⟩ := cell_innerB h0
    obtain ⟨z1, e1, n1, f1⟩ := cell_outerB h1
    obtain ⟨z2, e2⟩ := cell_bool Tryd.underlying4 h2
    match l, hl', z0, n0, z1, n1 with
    | [x0, x1, x2, x3, x4, x5, x6, x7], _, [a0, a1, a2, a3], _, [b0, b1, b2], _ =>
      simp [clI] at e0 e1 e2
      obtain ⟨rfl, rfl, rfl, rfl⟩ := e0
      obtain ⟨rfl, rfl, rfl⟩ := e1
      subst e2
      exact ⟨⟨a0, a1, a2, a3, b0, b1, b2, z2⟩, rfl, ⟨fun m hm => wf_bdB (f0 m hm), fun m hm => wf_bdB (f1 m hm)⟩⟩
/-- A call of bindings. -/
structure Dob where
  op : Int
  id : Int
  x : Bd
def clDob (y : Dob) : List Value := .int .i64 y.op :: .int .i64 y.id :: clBd y.x
def dobFit (y : Dob) : Prop := (Lit.int .i64 y.op).wf = true ∧ (Lit.int .i64 y.id).wf = true ∧ y.x.fits
theorem clDob_one (y : Dob) : (clDob y).toArray.all (·.oneCell') = true := by simp [clDob, clBd, Value.oneCell']
set_option maxRecDepth 100000 in
theorem cell_dobB {x : DataW H × List MemPlace} {fuel : Nat} {l : List Value} (hf : DataW.trod enc Tryd.prog w 0 (fun _ => true) true fuel 38 l = some x) : ∃ y : Dob, l = clDob y ∧ dobFit y := by
  obtain ⟨xs, n, _, _, hl, hxs, hall⟩ := DataW.trod_struct Tryd.underlying38 hf
  have hci : Tryd.prog.cellsOf 3 = 1 := by kernel_rfl
  have hc8 : Tryd.prog.cellsOf 36 = 8 := by kernel_rfl
  have hcn : Tryd.prog.cellsOf 38 = 10 := by kernel_rfl
  have hl' : l.length = 10 := by rw [← hcn]; exact hl
  have hall' : ∀ (i : Nat) (f : Field), _ → DataW.trod enc Tryd.prog w 0 (fun _ => true) true n f.type ((l.drop f.offset).take (Tryd.prog.cellsOf f.type)) = xs[i]? := hall
  match xs, hxs with
  | [y0, y1, y2], _ =>
    have h0 : DataW.trod enc Tryd.prog w 0 (fun _ => true) true n 3 ((l.drop 0).take (Tryd.prog.cellsOf 3)) = some y0 := hall' 0 _ rfl
    have h1 : DataW.trod enc Tryd.prog w 0 (fun _ => true) true n 3 ((l.drop 1).take (Tryd.prog.cellsOf 3)) = some y1 := hall' 1 _ rfl
    have h2 : DataW.trod enc Tryd.prog w 0 (fun _ => true) true n 36 ((l.drop 2).take (Tryd.prog.cellsOf 36)) = some y2 := hall' 2 _ rfl
    rw [hci] at h0 h1
    rw [hc8] at h2
    obtain ⟨a0, e0, f0⟩ := cell_int Tryd.underlying3 h0
    obtain ⟨a1, e1, f1⟩ := cell_int Tryd.underlying3 h1
    obtain ⟨s, e2, f2⟩ := cell_bdB h2
    have k0 := piece_get e0
    have k1 := piece_get e1
    match l, hl' with
    | [x0, x1, x2, x3, x4, x5, x6, x7, x8, x9], _ =>
      simp at k0 k1
      simp [clBd] at e2
      refine ⟨⟨a0, a1, s⟩, ?_, f0, f1, f2⟩
      obtain ⟨r0, r1, r2, r3, r4, r5, r6, r7⟩ := e2
      simp [clDob, clBd, k0, k1, r0, r1, r2, r3, r4, r5, r6, r7]
set_option maxRecDepth 100000 in
theorem get_dobs (hv : Value.okWide Tryd.prog w .any base 22 v) (h : DataW.Trod enc Tryd.prog w 0 (fun _ => true) true 22 v d p) :
    ∃ A c l, v = .slice A l.length c ∧ RdS clDob 10 w w.heap.size A l ∧ (∀ y ∈ l, dobFit y) ∧ l.length ≤ c ∧ c ≤ maxLen := by
  obtain ⟨A, len, cap, rfl⟩ := okWide_slice Tryd.underlying22 hv
  obtain ⟨fuel, hf⟩ := h
  obtain ⟨A', c', l, e, r1, r2, r3, r4, _⟩ := cell_rowsB (cl := clDob) (sz := 10) (Pp := dobFit) Tryd.underlying22 (by kernel_rfl) (by decide) ⟨0, 0, bd0⟩ (fun fuel cs y hy => cell_dobB hy) (fun y _ => rfl) hf
  simp [Value.cells] at e
  obtain ⟨rfl, rfl, rfl⟩ := e
  exact ⟨A, cap, l, rfl, r1, r2, r3, r4⟩
set_option maxRecDepth 100000 in
theorem get_bnd (hv : Value.okWide Tryd.prog w .any base 36 v) (h : DataW.Trod enc Tryd.prog w 0 (fun _ => true) true 36 v d p) : ∃ x : Bd, v = bdV x ∧ x.fits := by
  obtain ⟨cs, rfl, hcs⟩ : ∃ cs, v = .agg cs ∧ cs.size = Tryd.prog.cellsOf 36 := by
    have := hv
    simp only [Value.okWide, Tryd.underlying36] at this
    obtain ⟨cs, h1, h2, _⟩ := this
    exact ⟨cs, h1, h2⟩
  obtain ⟨fuel, hf⟩ := h
  obtain ⟨s, e, hs⟩ := cell_bdB hf
  obtain ⟨l⟩ := cs
  have e' : l = clBd s := e
  exact ⟨s, by rw [e']; rfl, hs⟩
end
set_option maxRecDepth 100000 in
theorem run_load_dob {o : Oper} {a : Act} {w : World} {x : Operand} {g i : Nat} {y : Dob} (ho : o.op = .load 38 x) (hx : a.eval x = .pointer (some ⟨g, i, none⟩)) (hr : w.rangeAt g i (clDob y)) :
    (execOp a.eval o).run Tryd.prog w = .ok (.value (.agg (clDob y).toArray)) w := by
  have h := run_loadVar_mid (P := Tryd.prog) w g i 38 (clDob y) _ hr Tryd.underlying38 rfl (by rw [show (clDob y).length = 10 from rfl]; kernel_rfl)
  unfold execOp
  simp only [ho, hx, Instr.loadAt, Instr.sureAddr, Sem.run_bind, Sem.run_pure, Result.andThen_ok, h]
set_option maxRecDepth 100000 in
theorem dob_store_new {ops : Array Oper} {rest : List Oper} {x y : Operand} {ty : TypeId} {pos : String} {af : Array Edge} {a : Act} {w : World} {Q : Exit → Act → World → Prop}
    {t : TypeId} {cs old : Array Value} (hx : a.eval x = .pointer (some ⟨w.heap.size, 0, none⟩)) (hy : a.eval y = .agg cs) (ho : old.size = 10) (hl : cs.size = 10) (h1 : cs.all (·.oneCell') = true)
    (h : wpList Tryd.prog ops Q rest (a.put none undef) (w.alloc (.cells cs t))) : wpList Tryd.prog ops Q (⟨none, .store 38 x y, ty, pos, af, none⟩ :: rest) a (w.alloc (.cells old t)) :=
  wpList_plain rfl fun _ hK => wp_store_row 38 x y rfl w.heap.size cs hx hy t old (World.alloc_heap_new w _) (by rw [hl]; kernel_rfl) (by rw [ho, hl]) h1 (by rw [World.setRow_alloc_new]; exact hK _ _ h)
theorem row_ofDob {w : World} {B : Nat} {A : Option Addr} {l : List Dob} (h : RdS clDob 10 w B A l) {k : Nat} {x : Dob} (hx : l[k]? = some x) : ∃ b o, A = some ⟨b, o, none⟩ ∧ b < B ∧ w.rangeAt b (o + k * 10) (clDob x) := by
  obtain ⟨b, o, e, hb, hr⟩ := h (by have := (List.getElem?_eq_some_iff.1 hx).1; omega)
  exact ⟨b, o, e, hb, hr k x hx⟩
/-! ### Bindings that no call made -/
set_option maxRecDepth 100000 in
theorem bmade_zero (g : Nat) (w : World) (h : w.cell? ⟨g, 1, none⟩ = some (.pointer none)) : Calls Tryd.prog 23 #[.pointer (some ⟨g, 0, none⟩)] w fun e w' => e = .returned (.bool false) ∧ w = w' := by
  go_enter Tryd.func23, Tryd.ntmps23
  go_wp2
  go_ret
  exact ⟨rfl, rfl⟩
set_option maxRecDepth 100000 in
theorem badd_nil (x : Bd) (w : World) : Calls Tryd.prog 9 #[.pointer none, bdV x] w fun e w' => e = .returned (.tuple #[.int .i64 0, .int .i64 2]) ∧ Below w.heap.size w w' := by
  have b1 := (Below.refl w.heap.size w).alloc (Nat.le_refl _) (.cells #[.int .i64 x.s, .int .i64 x.p, .int .i64 x.a, .int .i64 x.o, .int .i64 x.q, .int .i64 x.b, .int .i64 x.r, .bool x.st] 36)
  unfold bdV clBd
  go_enter Tryd.func9, Tryd.ntmps9
  go_wp2_with (first
    | (go_at_call 23; refine (bmade_nil _).mono ?_; rintro e w1 ⟨rfl, rfl⟩))
  exact bodyPost_ret (results_tmp2 rfl _ _ _) rfl ⟨rfl, b1⟩
set_option maxRecDepth 100000 in
theorem badd_zero (g : Nat) (x : Bd) (w : World) (h : w.cell? ⟨g, 1, none⟩ = some (.pointer none)) : Calls Tryd.prog 9 #[.pointer (some ⟨g, 0, none⟩), bdV x] w fun e w' => e = .returned (.tuple #[.int .i64 0, .int .i64 2]) ∧ Below w.heap.size w w' := by
  have b1 := (Below.refl w.heap.size w).alloc (Nat.le_refl _) (.cells #[.int .i64 x.s, .int .i64 x.p, .int .i64 x.a, .int .i64 x.o, .int .i64 x.q, .int .i64 x.b, .int .i64 x.r, .bool x.st] 36)
  have h1 := (World.cell?_alloc_lt w (.cells #[.int .i64 x.s, .int .i64 x.p, .int .i64 x.a, .int .i64 x.o, .int .i64 x.q, .int .i64 x.b, .int .i64 x.r, .bool x.st] 36) ⟨g, 1, none⟩ (cell_block h)).trans h
  unfold bdV clBd
  go_enter Tryd.func9, Tryd.ntmps9
  go_wp2_with (first
    | (go_at_call 23; refine (bmade_zero g _ h1).mono ?_; rintro e w1 ⟨rfl, rfl⟩))
  exact bodyPost_ret (results_tmp2 rfl _ _ _) rfl ⟨rfl, b1⟩
set_option maxRecDepth 100000 in
theorem bget_nil (i : Int) (w : World) : Calls Tryd.prog 13 #[.pointer none, .int .i64 i] w fun e w' => e = .returned (.tuple #[bdV bd0, .bool false]) ∧ Below w.heap.size w w' := by
  have b1 := (Below.refl w.heap.size w).alloc (Nat.le_refl _) (.cells #[.int .i64 0, .int .i64 0, .int .i64 0, .int .i64 0, .int .i64 0, .int .i64 0, .int .i64 0, .bool false] 36)
  go_enter Tryd.func13, Tryd.ntmps13
  go_wp2_with (first
    | (go_at_call 23; refine (bmade_nil _).mono ?_; rintro e w1 ⟨rfl, rfl⟩)
    | ((with_reducible show wpList _ _ _ (Oper.mk _ (Op.store 36 _ _) _ _ _ _ :: _) _ _); refine bd_store_new (cs := (clBd bd0).toArray) rfl rfl rfl rfl (clBd_one _) ?_))
  exact bodyPost_ret (bd_result2 rfl rfl (World.alloc_heap_new w _) rfl) rfl ⟨rfl, b1⟩
set_option maxRecDepth 100000 in
theorem bget_zero (g : Nat) (i : Int) (w : World) (h : w.cell? ⟨g, 1, none⟩ = some (.pointer none)) : Calls Tryd.prog 13 #[.pointer (some ⟨g, 0, none⟩), .int .i64 i] w fun e w' => e = .returned (.tuple #[bdV bd0, .bool false]) ∧ Below w.heap.size w w' := by
  have b1 := (Below.refl w.heap.size w).alloc (Nat.le_refl _) (.cells #[.int .i64 0, .int .i64 0, .int .i64 0, .int .i64 0, .int .i64 0, .int .i64 0, .int .i64 0, .bool false] 36)
  have h1 := (World.cell?_alloc_lt w (.cells #[.int .i64 0, .int .i64 0, .int .i64 0, .int .i64 0, .int .i64 0, .int .i64 0, .int .i64 0, .bool false] 36) ⟨g, 1, none⟩ (cell_block h)).trans h
  go_enter Tryd.func13, Tryd.ntmps13
  go_wp2_with (first
    | (go_at_call 23; refine (bmade_zero g _ h1).mono ?_; rintro e w1 ⟨rfl, rfl⟩)
    | ((with_reducible show wpList _ _ _ (Oper.mk _ (Op.store 36 _ _) _ _ _ _ :: _) _ _); refine bd_store_new (cs := (clBd bd0).toArray) rfl rfl rfl rfl (clBd_one _) ?_))
  exact bodyPost_ret (bd_result2 rfl rfl (World.alloc_heap_new w _) rfl) rfl ⟨rfl, b1⟩
set_option maxRecDepth 100000 in
theorem bfindz_nil (x : Bd) (w : World) : Calls Tryd.prog 15 #[.pointer none, inV x] w fun e w' => e = .returned (.tuple #[.int .i64 0, .bool false]) ∧ Below w.heap.size w w' := by
  have b1 := (Below.refl w.heap.size w).alloc (Nat.le_refl _) (.cells #[.int .i64 x.s, .int .i64 x.p, .int .i64 x.a, .int .i64 x.o] 32)
  unfold inV
  go_enter Tryd.func15, Tryd.ntmps15
  go_wp2_with (first
    | (go_at_call 23; refine (bmade_nil _).mono ?_; rintro e w1 ⟨rfl, rfl⟩))
  exact bodyPost_ret (results_tmp2 rfl _ _ _) rfl ⟨rfl, b1⟩
set_option maxRecDepth 100000 in
theorem bfindz_zero (g : Nat) (x : Bd) (w : World) (h : w.cell? ⟨g, 1, none⟩ = some (.pointer none)) : Calls Tryd.prog 15 #[.pointer (some ⟨g, 0, none⟩), inV x] w fun e w' => e = .returned (.tuple #[.int .i64 0, .bool false]) ∧ Below w.heap.size w w' := by
  have b1 := (Below.refl w.heap.size w).alloc (Nat.le_refl _) (.cells #[.int .i64 x.s, .int .i64 x.p, .int .i64 x.a, .int .i64 x.o] 32)
  have h1 := (World.cell?_alloc_lt w (.cells #[.int .i64 x.s, .int .i64 x.p, .int .i64 x.a, .int .i64 x.o] 32) ⟨g, 1, none⟩ (cell_block h)).trans h
  unfold inV
  go_enter Tryd.func15, Tryd.ntmps15
  go_wp2_with (first
    | (go_at_call 23; refine (bmade_zero g _ h1).mono ?_; rintro e w1 ⟨rfl, rfl⟩))
  exact bodyPost_ret (results_tmp2 rfl _ _ _) rfl ⟨rfl, b1⟩
set_option maxRecDepth 100000 in
theorem bbackz_nil (x : Bd) (w : World) : Calls Tryd.prog 17 #[.pointer none, ouV x] w fun e w' => e = .returned (.tuple #[.int .i64 0, .bool false]) ∧ Below w.heap.size w w' := by
  have b1 := (Below.refl w.heap.size w).alloc (Nat.le_refl _) (.cells #[.int .i64 x.q, .int .i64 x.b, .int .i64 x.r] 34)
  unfold ouV
  go_enter Tryd.func17, Tryd.ntmps17
  go_wp2_with (first
    | (go_at_call 23; refine (bmade_nil _).mono ?_; rintro e w1 ⟨rfl, rfl⟩))
  exact bodyPost_ret (results_tmp2 rfl _ _ _) rfl ⟨rfl, b1⟩
set_option maxRecDepth 100000 in
theorem bbackz_zero (g : Nat) (x : Bd) (w : World) (h : w.cell? ⟨g, 1, none⟩ = some (.pointer none)) : Calls Tryd.prog 17 #[.pointer (some ⟨g, 0, none⟩), ouV x] w fun e w' => e = .returned (.tuple #[.int .i64 0, .bool false]) ∧ Below w.heap.size w w' := by
  have b1 := (Below.refl w.heap.size w).alloc (Nat.le_refl _) (.cells #[.int .i64 x.q, .int .i64 x.b, .int .i64 x.r] 34)
  have h1 := (World.cell?_alloc_lt w (.cells #[.int .i64 x.q, .int .i64 x.b, .int .i64 x.r] 34) ⟨g, 1, none⟩ (cell_block h)).trans h
  unfold ouV
  go_enter Tryd.func17, Tryd.ntmps17
  go_wp2_with (first
    | (go_at_call 23; refine (bmade_zero g _ h1).mono ?_; rintro e w1 ⟨rfl, rfl⟩))
  exact bodyPost_ret (results_tmp2 rfl _ _ _) rfl ⟨rfl, b1⟩
set_option maxRecDepth 100000 in
theorem bremz_nil (i : Int) (w : World) : Calls Tryd.prog 11 #[.pointer none, .int .i64 i] w fun e w' => e = .returned (.bool false) ∧ Below w.heap.size w w' := by
  go_enter Tryd.func11, Tryd.ntmps11
  go_wp2_with (first
    | (go_at_call 23; refine (bmade_nil _).mono ?_; rintro e w1 ⟨rfl, rfl⟩))
  exact bodyPost_ret (results_tmp rfl _ _ _) rfl ⟨rfl, Below.refl _ _⟩
set_option maxRecDepth 100000 in
theorem bremz_zero (g : Nat) (i : Int) (w : World) (h : w.cell? ⟨g, 1, none⟩ = some (.pointer none)) : Calls Tryd.prog 11 #[.pointer (some ⟨g, 0, none⟩), .int .i64 i] w fun e w' => e = .returned (.bool false) ∧ Below w.heap.size w w' := by
  go_enter Tryd.func11, Tryd.ntmps11
  go_wp2_with (first
    | (go_at_call 23; refine (bmade_zero g _ h).mono ?_; rintro e w1 ⟨rfl, rfl⟩))
  exact bodyPost_ret (results_tmp rfl _ _ _) rfl ⟨rfl, Below.refl _ _⟩
set_option maxRecDepth 100000 in
theorem blenz_nil (w : World) : Calls Tryd.prog 21 #[.pointer none] w fun e w' => e = .returned (.int .i64 0) ∧ Below w.heap.size w w' := by
  go_enter Tryd.func21, Tryd.ntmps21
  go_wp2_with (first
    | (go_at_call 23; refine (bmade_nil _).mono ?_; rintro e w1 ⟨rfl, rfl⟩))
  exact bodyPost_ret (results_tmp rfl _ _ _) rfl ⟨rfl, Below.refl _ _⟩
set_option maxRecDepth 100000 in
theorem blenz_zero (g : Nat) (w : World) (h : w.cell? ⟨g, 1, none⟩ = some (.pointer none)) : Calls Tryd.prog 21 #[.pointer (some ⟨g, 0, none⟩)] w fun e w' => e = .returned (.int .i64 0) ∧ Below w.heap.size w w' := by
  go_enter Tryd.func21, Tryd.ntmps21
  go_wp2_with (first
    | (go_at_call 23; refine (bmade_zero g _ h).mono ?_; rintro e w1 ⟨rfl, rfl⟩))
  exact bodyPost_ret (results_tmp rfl _ _ _) rfl ⟨rfl, Below.refl _ _⟩
/-! ### awake -/
def bdA : Bd := ⟨0, 17, 0, 1, 17, 0, 2, false⟩
theorem bdA_fits : bdA.fits := ⟨fun n hn => by simp [bdA, Bd.inn] at hn; rcases hn with rfl | rfl | rfl | rfl <;> (constructor <;> decide), fun n hn => by simp [bdA, Bd.out] at hn; rcases hn with rfl | rfl | rfl <;> (constructor <;> decide)⟩
theorem box_bd {w : World} {p : Nat} {x : Bd} (h : w.heap[p]? = some (.cells (clBd x).toArray 36 (0, 0))) : w.rangeAt p 0 (clBd x) := range_heap h
set_option maxRecDepth 100000 in
set_option maxHeartbeats 4000000 in
theorem awake22 (w : World) (hT : Tabs w) : Calls Tryd.prog 6 #[] w fun e w' => e = .returned (.bool true) ∧ Below w.heap.size w w' := by
  go_enter Tryd.func6, Tryd.ntmps6
  go_upto_region 4 with (go_at_call 7; refine (bnew_ok 2 w (by decide) (by decide) w.heap.size (Nat.le_refl _)).mono ?_; rintro e w1 ⟨d, t1, t2, rfl, hd1, x1, _, _⟩)
  have HT1 := Lib.hid (TB0.of hT (Nat.le_refl _) x1)
  obtain ⟨V, hV⟩ : ∃ V, V = w1.alloc (.cells (clBd bdA).toArray 36) := ⟨_, rfl⟩
  have HV := Lib.hid hV
  have bV : Below w1.heap.size w1 V := by rw [hV]; exact (Below.refl _ w1).alloc (Nat.le_refl _) _
  have hbV : V.heap[w1.heap.size]? = some (.cells (clBd bdA).toArray 36 (0, 0)) := by rw [hV]; exact World.alloc_heap_new w1 _
  obtain ⟨b1, b2, A, c, f, hdb⟩ := hd1
  have HD := Lib.hid (hdb.below bV)
  have HB := Lib.hid (x1.trans (bV.mono x1.size))
  have HTV := Lib.hid (HT1.out.step (bV.mono x1.size))
  have hf0 : f = 0 := by have := hdb.free.le; simpa using this
  subst hf0
  have hbr := box_bd hbV
  have HBX := Lib.hid hbV
  clear hV hbV hdb
  go_upto_region 6 with (first
    | ((with_reducible show wpList _ _ _ (Oper.mk _ (Op.store 36 _ _) _ _ _ _ :: _) _ _); refine bd_store_new (cs := (clBd bdA).toArray) rfl rfl rfl rfl (clBd_one _) ?_; rw [← HV.out])
    | ((with_reducible show wpList _ _ _ (Oper.mk _ (Op.load 36 _) _ _ _ _ :: _) _ _); refine wpList_val rfl (run_load_bd (x := bdA) rfl rfl hbr) ?_)
    | (go_at_call 9; refine (badd_ok HD.out HTV.out bdA bdA_fits rfl (by decide)).mono ?_; rintro e w3 ⟨rfl, b1', b2', A', c', f', hd3, fb3⟩))
  have HD3 : Hid (Db w3 w.heap.size d t1 b1' t2 b2' A' c' 2 [some bdA] f') := Lib.hid hd3
  have HT3 := Lib.hid (HTV.out.step fb3.b)
  have hbx3 := fb3.heap HBX.out t4_no.1
  have hri := box_inn hbx3
  have HB3 := Lib.hid (HB.out.trans fb3.b)
  have hro : Hid (∀ U, Below w3.heap.size w3 U → U.rangeAt w1.heap.size 4 (clI bdA.out)) := Lib.hid (fun U hU => box_out ((hU.block _ (heap_lt hbx3)).trans hbx3))
  clear hd3 fb3 hbr hbx3
  go_wp2_with (first
    | ((with_reducible show wpList _ _ _ (Oper.mk _ (Op.load 32 _) _ _ _ _ :: _) _ _); refine wpList_val rfl (run_load_inn (x := bdA) rfl rfl hri) ?_)
    | ((with_reducible show wpList _ _ _ (Oper.mk _ (Op.load 34 _) _ _ _ _ :: _) _ _); refine wpList_val rfl (run_load_out (x := bdA) rfl rfl (hro.out _ x4)) ?_)
    | (go_at_call 15; refine (bfind HD3.out HT3.out.here bdA bdA_fits).mono ?_; rintro e w4 ⟨rfl, x4⟩; rw [show fndI (docB 0 [some bdA]) bdA = some (0, bdA) from by decide])
    | (go_at_call 17; refine (bback (HD3.out.below x4) (HT3.out.here.step x4) bdA bdA_fits).mono ?_; rintro e w5 ⟨rfl, x5⟩; rw [show fndO (docB 0 [some bdA]) bdA = some (0, bdA) from by decide])
    | (go_at_call 21; refine (blen ((HD3.out.below x4).below x5)).mono ?_; rintro e w6 ⟨rfl, rfl⟩; rw [show (docB 0 [some bdA]).length = 1 from rfl]))
  go_ret
  exact ⟨rfl, (HB3.out.trans (x4.mono HB3.out.size)).trans (x5.mono (Nat.le_trans HB3.out.size x4.size))⟩
end Go.Proofs.YtafidbjaeopciaaDoor

/-
  What lies about while bindings that no call made are asked (layer 22). Conditions are each theorem's own.
-/
namespace Go.Proofs.YtafidbjaeopciaaDoor
open Go.RowKit Go.Shelf
/-- A binding's box at B, a result's at B + 1, bindings that no call made at g. -/
structure NBw (B g : Nat) (x : Bd) (w U : World) : Prop where
  box : U.heap[B]? = some (.cells (clBd x).toArray 36 (0, 0))
  res : Boxed U (B + 1) 4 (.bool false)
  z : U.heap[g]? = some (.cells #[.slice none 0 0, .pointer none, .pointer none, .int .i64 0, .int .i64 0] 59 (0, 0))
  bel : Below B w U
theorem NBw.below {B g : Nat} {x : Bd} {w U V : World} (h : NBw B g x w U) (hb : Below U.heap.size U V) : NBw B g x w V :=
  ⟨(hb.block B (heap_lt h.box)).trans h.box, Boxed.below h.res hb (Boxed.lt h.res), (hb.block g (heap_lt h.z)).trans h.z, h.bel.trans (hb.mono (Nat.le_of_lt (heap_lt h.box)))⟩
theorem NBw.z1 {B g : Nat} {x : Bd} {w U : World} (h : NBw B g x w U) : U.cell? ⟨g, 1, none⟩ = some (.pointer none) := cells_at h.z rfl
theorem heap_keepB {X Y : World} {b n : Nat} {cs : Array Value} {ty : TypeId} {fr : Nat × Nat} {r : Option Nat} (h : X.heap[b]? = some (.cells cs ty fr)) (hg : X.grownBy Y r) (hr : ∀ k, r = some k → n ≤ k ∧ ∃ o : Obj, X.heap[k]? = some o ∧ o.isCells = false) : Y.heap[b]? = some (.cells cs ty fr) :=
  (hg.block b (heap_lt h) (fun e => by
    obtain ⟨_, o, ho, hc⟩ := hr b e.symm
    rw [h] at ho
    obtain rfl := Option.some.inj ho
    cases hc)).trans h
theorem NBw.kept {B g n : Nat} {x : Bd} {w X Y : World} {r : Option Nat} (h : NBw B g x w X) (hg : X.grownBy Y r) (hr : ∀ k, r = some k → n ≤ k ∧ ∃ o : Obj, X.heap[k]? = some o ∧ o.isCells = false) (hn : B ≤ n) (hw : B ≤ w.heap.size) : NBw B g x w Y :=
  ⟨heap_keepB h.box hg hr, box_keep h.res hg hr, heap_keepB h.z hg hr, below_keep h.bel hg hr hn hw⟩
theorem wpIn_actB {F : Fence} {n : Nat} {P : Program} {c : Code} {Q : Exit → Act → World → Prop} {a : Act} {w : World} (h : ∀ a0, a0 = a → c.wpIn F n P Q a0 w) : c.wpIn F n P Q a w := h a rfl
theorem cell1b {fn : Func} {p : Tmp} {tmps : Array Value} {w : World} {g : Nat} {z : Value} (h : fn.results = #[.cell p 4]) (hp : tmps.getD p undef = .pointer (some ⟨g, 0, none⟩)) (h0 : Boxed w g 4 z) :
    (results fn tmps).run Tryd.prog w = .ok z w := by
  have hp' : tmps[p]?.getD undef = .pointer (some ⟨g, 0, none⟩) := by simpa using hp
  simp [results, h, hp', asAddr, loadv_bool h0]
end Go.Proofs.YtafidbjaeopciaaDoor

/-
  The law's own maps of endpoints (layer 22). Conditions are each theorem's own.
-/
namespace Go.Proofs.YtafidbjaeopciaaDoor
open Go.RowKit Go.Maps Go.WideMaps Go.WideElems Go.MapKept Go.ChangeMaps Go.Shelf
theorem laidOut20N : laidOutB Tryd.prog = true := by kernel_rfl
theorem lawInnerN : KeyLaw Tryd.prog 32 := deep_law_laid laidOut20N (m := 3) (by omega) (of_decide_eq_true (by kernel_rfl)) (by kernel_rfl) (by rw [Tryd.underlying32])
theorem lawOuterN : KeyLaw Tryd.prog 34 := deep_law_laid laidOut20N (m := 3) (by omega) (of_decide_eq_true (by kernel_rfl)) (by kernel_rfl) (by rw [Tryd.underlying34])
theorem lit_intN (n : Nat) {a : Int} (h : (Lit.int .i64 a).wf = true) : Tryd.prog.keyLits (n + 1) 3 [.int .i64 a] = some [.int .i64 a] := by
  simp [Program.keyLits, Tryd.underlying3, h]
theorem mapM_someN {α β : Type} (f : α → Option β) : ∀ l : List α, (∀ x ∈ l, ∃ y, f x = some y) → ∃ ys, l.mapM f = some ys
  | [], _ => ⟨[], rfl⟩
  | a :: r, h => by
    obtain ⟨y, hy⟩ := h a (by simp)
    obtain ⟨ys, hys⟩ := mapM_someN f r (fun x hx => h x (by simp [hx]))
    exact ⟨y :: ys, by simp [List.mapM_cons, hy, hys]⟩
theorem keyIntsN (T : TypeId) (fs : Array Field) (n : Nat) (hT : Tryd.prog.underlying T = some (.struct fs)) (hk : Tryd.prog.keyType T = true) (hcs : Tryd.prog.cellsOf T = n)
    (hfs : fs.all (·.name != "_") = true) (hft : ∀ f ∈ fs.toList, f.type = 3 ∧ f.offset < n) (l : List Int) (hl : l.length = n) (hw : ∀ x ∈ l, (Lit.int .i64 x).wf = true) :
    ∃ k, keyOf Tryd.prog T (.agg (clI l).toArray) = some k := by
  have hci : Tryd.prog.cellsOf 3 = 1 := by kernel_rfl
  have hlen : (clI l).length = n := by simp [clI, hl]
  have hf : (Value.agg (clI l).toArray).formed Tryd.prog T = true := by simp [Value.formed, hT, hcs, hlen]
  obtain ⟨m, hm⟩ : ∃ m, Tryd.prog.types.size = m := ⟨_, rfl⟩
  obtain ⟨m', hm'⟩ : ∃ m', m = m' + 1 := ⟨m - 1, by have : 0 < Tryd.prog.types.size := of_decide_eq_true (by kernel_rfl); omega⟩
  have hk2 : ∃ ls, Tryd.prog.keyLits (Tryd.prog.types.size + 1) T (clI l) = some ls := by
    rw [hm]
    simp only [Program.keyLits, hT, hcs, hlen, hfs, and_self, if_true]
    obtain ⟨ys, hys⟩ := mapM_someN (fun f : Field => Tryd.prog.keyLits m f.type (((clI l).drop f.offset).take (Tryd.prog.cellsOf f.type))) fs.toList (fun f hf => by
      obtain ⟨h1, h2⟩ := hft f hf
      have hi' : f.offset < l.length := by omega
      refine ⟨[.int .i64 l[f.offset]], ?_⟩
      rw [h1, hci]
      have : ((clI l).drop f.offset).take 1 = [.int .i64 l[f.offset]] := by
        rw [clI, ← List.map_drop, List.drop_eq_getElem_cons hi']; rfl
      rw [this, hm']; exact lit_intN m' (hw _ (List.getElem_mem hi')))
    exact ⟨_, by rw [hys]; rfl⟩
  obtain ⟨ls, hls⟩ := hk2
  refine ⟨.string (keyBytes ls), ?_⟩
  have hls' : Tryd.prog.keyLits (Tryd.prog.types.size + 1) T (Value.agg (clI l).toArray).cells.toList = some ls := by simpa [Value.cells] using hls
  unfold keyOf
  rw [hT]
  simp only [hk, hf, Bool.and_self, if_true]
  rw [hls']; rfl
theorem keyInnerN (l : List Int) (hl : l.length = 4) (hw : ∀ x ∈ l, (Lit.int .i64 x).wf = true) : ∃ k, keyOf Tryd.prog 32 (.agg (clI l).toArray) = some k :=
  keyIntsN 32 _ 4 Tryd.underlying32 (by kernel_rfl) (by kernel_rfl) (by kernel_rfl) (fun f hf => by simp at hf; rcases hf with rfl | rfl | rfl | rfl <;> exact ⟨rfl, by decide⟩) l hl hw
theorem keyOuterN (l : List Int) (hl : l.length = 3) (hw : ∀ x ∈ l, (Lit.int .i64 x).wf = true) : ∃ k, keyOf Tryd.prog 34 (.agg (clI l).toArray) = some k :=
  keyIntsN 34 _ 3 Tryd.underlying34 (by kernel_rfl) (by kernel_rfl) (by kernel_rfl) (fun f hf => by simp at hf; rcases hf with rfl | rfl | rfl <;> exact ⟨rfl, by decide⟩) l hl hw
structure KeyFamN {X : Type} (k : TypeId) (kv : X → Value) (V : X → Prop) : Prop where
  K : Keyed Tryd.prog k
  has : ∀ x, V x → ∃ l, keyOf Tryd.prog k (kv x) = some l
  inj : ∀ x y, V x → V y → kv x = kv y → x = y
def ziN (c : Int) : DataW Unit := .lit (.int .i64 c)
theorem clI_injN {a b : List Int} (h : clI a = clI b) : a = b := by
  refine List.map_inj_right (f := Value.int .i64) ?_ |>.1 h
  intro x y hxy; simpa using hxy
def wfLN (n : Nat) (l : List Int) : Prop := l.length = n ∧ ∀ x ∈ l, (Lit.int .i64 x).wf = true
def gkB (l : List Int) : Value := .agg (clI l).toArray
theorem famInnerN : KeyFamN 32 gkB (wfLN 4) := ⟨Keyed.of_law lawInnerN, fun x hx => keyInnerN x hx.1 hx.2, fun x y _ _ h => clI_injN (by simpa [gkB] using h)⟩
theorem famOuterN : KeyFamN 34 gkB (wfLN 3) := ⟨Keyed.of_law lawOuterN, fun x hx => keyOuterN x hx.1 hx.2, fun x y _ _ h => clI_injN (by simpa [gkB] using h)⟩
def boolEN : Value → Option (DataW Unit × List MemPlace)
  | .bool c => some (ziN (if c then 1 else 0), [])
  | _ => none
theorem boolE_invN {v : Value} {z : DataW Unit × List MemPlace} (h : boolEN v = some z) : ∃ c, v = .bool c ∧ z = (ziN (if c then 1 else 0), []) := by
  unfold boolEN at h
  cases v <;> simp at h
  exact ⟨_, rfl, h.symm⟩
theorem zeroBool19N (w : World) : (zeroValue 4).run Tryd.prog w = .ok (.bool false) w := by kernel_rfl
/-- Block b holds the endpoints of L, each told true. -/
def SnK (k : TypeId) (V : List Int → Prop) (w : World) (b n : Nat) (L : List (List Int)) : Prop :=
  ∃ D : DataW Unit, w.ownsMap Tryd.prog k boolEN b n D ∧ (∀ x l, V x → keyOf Tryd.prog k (gkB x) = some l → D.atKey l (ziN 0) = ziN (if L.contains x then 1 else 0) ∧ Maps.has D l = L.contains x) ∧ Maps.size D = L.length
section
variable {T k : TypeId} {V : List Int → Prop} {w : World} {b n : Nat} {L : List (List Int)}
theorem SnK.made (w : World) : SnK k V (w.alloc (.map #[] 0)) w.heap.size 0 [] := ⟨_, World.ownsMap_made w _ _ _, fun _ _ _ _ => ⟨rfl, rfl⟩, rfl⟩
theorem SnK.of_block {w' : World} (h : SnK k V w b n L) (e : w'.heap[b]? = w.heap[b]?) : SnK k V w' b n L := by
  obtain ⟨D, ⟨es, clock, hb, F, hs, hD⟩, hc⟩ := h
  exact ⟨D, ⟨es, clock, e.trans hb, F, hs, hD⟩, hc⟩
theorem SnK.lt (h : SnK k V w b n L) : b < w.heap.size := by
  obtain ⟨D, ho, _⟩ := h
  exact ho.lt
theorem SnK.isMap (h : SnK k V w b n L) {cs : Array Value} {ty : TypeId} {fr : Nat × Nat} : w.heap[b]? ≠ some (.cells cs ty fr) := by
  obtain ⟨D, ⟨es, clock, h1, _⟩, _⟩ := h
  intro h2
  rw [h1] at h2
  cases h2
theorem SnK.look (h : SnK k V w b n L) (FM : KeyFamN k gkB V) (hT : Tryd.prog.underlying T = some (.map k 4)) {x : List Int} (hx : V x) :
    (Instr.lookup T (.map (some b)) (gkB x) false).run Tryd.prog w = .ok (.bool (L.contains x)) w := by
  obtain ⟨D, ho, hc, _⟩ := h
  obtain ⟨l, hl⟩ := FM.has x hx
  obtain ⟨h1, _⟩ := hc x l hx hl
  obtain ⟨es, clock, hb, F, _, rfl⟩ := ho
  rcases Maps.fit_look false FM.K hT (zeroBool19N w) hb F hl with ⟨hrun, _, hat⟩ | ⟨e0, y, _, _, hrun, hRv, hat, _⟩
  · rw [hat] at h1
    rw [hrun]
    cases hP : L.contains x
    · rfl
    · rw [hP] at h1; simp [ziN] at h1
  · obtain ⟨c, hv, hz⟩ := boolE_invN hRv
    rw [hat, hz] at h1
    have h2 : c = L.contains x := by
      revert h1
      generalize L.contains x = d
      intro h1
      cases c <;> cases d <;> simp [ziN] at h1 ⊢
    rw [hrun, hv, h2]
    rfl
theorem SnK.put (h : SnK k V w b n L) (FM : KeyFamN k gkB V) (hT : Tryd.prog.underlying T = some (.map k 4)) (hn : n < maxLen) {x : List Int} (hx : V x) (hno : L.contains x = false) :
    ∃ w', (Instr.mapUpdate T (.map (some b)) (gkB x) (.bool true)).run Tryd.prog w = .ok () w' ∧ SnK k V w' b (n + 1) (L ++ [x]) ∧ w.grownBy w' (some b) := by
  obtain ⟨D, ho, hc, hz⟩ := h
  obtain ⟨l, hl⟩ := FM.has x hx
  obtain ⟨w', hrun, ho', hg⟩ := ho.update FM.K hT hn hl (show boolEN (.bool true) = some (ziN 1, []) from rfl)
  have hM := ho.isMap
  refine ⟨w', hrun, ⟨_, ho', fun y m hy hm => ?_, ?_⟩, hg⟩
  · by_cases e : x = y
    · subst e
      obtain rfl : l = m := Option.some.inj (hl.symm.trans hm)
      rw [has_put_same hM (FM.K.key hl), atKey_put_same hM (FM.K.key hl)]
      simp
    · have hne : m ≠ l := fun e2 => e (FM.inj x y hx hy (FM.K.inj hl (e2 ▸ hm)))
      have h1 := hc y m hy hm
      have h2 : (L ++ [x]).contains y = L.contains y := by simp; exact fun e3 => absurd e3.symm e
      rw [has_put_other hne, atKey_put_other hne, h2]
      exact h1
  · rw [size_put (ho.tidy FM.K), (hc x l hx hl).2, hno, hz]; simp
theorem SnK.len (h : SnK k V w b n L) (hT : Tryd.prog.underlying T = some (.map k 4)) (ty : TypeId) : (Builtin.len_ #[T] ty #[.map (some b)]).run Tryd.prog w = .ok (.int .i64 (L.length : Nat)) w := by
  obtain ⟨D, ho, hc, hz⟩ := h
  rw [ho.len hT ty, hz]
end
theorem run_lookB {o : Oper} {a : Act} {w : World} {T : TypeId} {m x : Operand} {b : Nat} {key c : Value} (ho : o.op = .lookup T m x false) (hm : a.eval m = .map (some b)) (hx : a.eval x = key)
    (h : (Instr.lookup T (.map (some b)) key false).run Tryd.prog w = .ok c w) : (execOp a.eval o).run Tryd.prog w = .ok (.value c) w := by
  unfold execOp
  simp only [ho, hm, hx, Sem.run_bind, Sem.run_pure, h, Result.andThen_ok]
theorem upd_wp {o : Oper} {a : Act} {w w' : World} {K : Act → World → Prop} {Q : Exit → Act → World → Prop} {T : TypeId} {m x v : Operand} {b : Nat} {key c : Value} (ho : o.op = .mapUpdate T m x v) (hm : a.eval m = .map (some b)) (hx : a.eval x = key) (hv : a.eval v = c)
    (h : (Instr.mapUpdate T (.map (some b)) key c).run Tryd.prog w = .ok () w') (hk : K (a.put o.dst undef) w') : o.wp Tryd.prog a w K Q := by
  unfold Oper.wp execOp
  simp only [ho, hm, hx, hv, Sem.run_bind, Sem.run_pure, h, Result.andThen_ok]
  exact hk
theorem run_load_mi {o : Oper} {a : Act} {w : World} {x : Operand} {p : Addr} {m : Option Nat} (ho : o.op = .load 49 x) (hx : a.eval x = .pointer (some p)) (hc : w.cell? p = some (.map m)) :
    (execOp a.eval o).run Tryd.prog w = .ok (.value (.map m)) w := by
  unfold execOp
  simp only [ho, hx, Instr.loadAt, Instr.sureAddr, Sem.run_bind, Sem.run_pure, Result.andThen_ok]
  go_simp
theorem run_load_mo {o : Oper} {a : Act} {w : World} {x : Operand} {p : Addr} {m : Option Nat} (ho : o.op = .load 50 x) (hx : a.eval x = .pointer (some p)) (hc : w.cell? p = some (.map m)) :
    (execOp a.eval o).run Tryd.prog w = .ok (.value (.map m)) w := by
  unfold execOp
  simp only [ho, hx, Instr.loadAt, Instr.sureAddr, Sem.run_bind, Sem.run_pure, Result.andThen_ok]
  go_simp
theorem wfL_inn {x : Bd} (h : x.fits) : wfLN 4 x.inn := ⟨rfl, fun n hn => by have := h.inn n hn; exact WalkArith.wf_i64 this⟩
theorem wfL_out {x : Bd} (h : x.fits) : wfLN 3 x.out := ⟨rfl, fun n hn => by have := h.out n hn; exact WalkArith.wf_i64 this⟩
theorem tak_at {S : List (Option Bd)} {i : Int} {x : Bd} (htk : takB S i = some x) : ∃ k : Nat, i = (k : Int) ∧ S[k]? = some (some x) := by
  unfold takB at htk
  split at htk
  · cases htk
  · refine ⟨i.toNat, by omega, ?_⟩
    cases hg : S[i.toNat]? with
    | none => rw [hg] at htk; cases htk
    | some o => rw [hg] at htk; simp at htk; rw [htk]
/-! ### Any change of bindings -/
section
variable {w w' : World} {B0 d t1 t2 : Nat} {most : Int} {S : List (Option Bd)}
theorem DbE.below (h : DbE w B0 d t1 t2 most S) (hb : Below w.heap.size w w') : DbE w' B0 d t1 t2 most S := by
  obtain ⟨b1, b2, A, c, f, h⟩ := h; exact ⟨b1, b2, A, c, f, h.below hb⟩
theorem DbE.z (h : DbE w B0 d t1 t2 most S) : B0 ≤ w.heap.size := by
  obtain ⟨b1, b2, A, c, f, h⟩ := h; exact Nat.le_trans h.z (Nat.le_of_lt (heap_lt h.obj))
theorem badd_any (h : DbE w B0 d t1 t2 most S) (hTB : TB0 B0 w) (x : Bd) (hx : x.fits) : Calls Tryd.prog 9 #[.pointer (some ⟨d, 0, none⟩), bdV x] w fun e w' => ∃ r S', e = .returned r ∧ DbE w' B0 d t1 t2 most S' ∧ FB B0 w w' := by
  have hz := h.z
  have hD := h
  obtain ⟨b1, b2, A, c, f, h⟩ := h
  cases hh : ((fndI (docB 0 S) x).isSome || (fndO (docB 0 S) x).isSome) with
  | true =>
    refine (badd_twice h hTB.here x hx hh).mono ?_
    rintro e w' ⟨rfl, hb⟩
    exact ⟨_, S, rfl, hD.below hb, FB.of_below hb hz⟩
  | false =>
    by_cases hf : ((docB 0 S).length : Int) ≥ most
    · refine (badd_full h hTB.here x hx hh hf).mono ?_
      rintro e w' ⟨rfl, hb⟩
      exact ⟨_, S, rfl, hD.below hb, FB.of_below hb hz⟩
    · refine (badd_ok h hTB x hx hh (by omega)).mono ?_
      rintro e w' ⟨rfl, b1', b2', A', c', f', h', fb⟩
      exact ⟨_, _, rfl, ⟨b1', b2', A', c', f', h'⟩, fb⟩
theorem brem_any (h : DbE w B0 d t1 t2 most S) (hTB : TB0 B0 w) (i : Int) : Calls Tryd.prog 11 #[.pointer (some ⟨d, 0, none⟩), .int .i64 i] w fun e w' => ∃ r S', e = .returned r ∧ DbE w' B0 d t1 t2 most S' ∧ FB B0 w w' := by
  have hz := h.z
  have hD := h
  obtain ⟨b1, b2, A, c, f, h⟩ := h
  cases ht : takB S i with
  | none =>
    refine (bremove_no h i ht).mono ?_
    rintro e w' ⟨rfl, rfl⟩
    exact ⟨_, S, rfl, hD, FB.of_below (Below.refl _ _) hz⟩
  | some x =>
    obtain ⟨k, rfl, hk⟩ := tak_at ht
    refine (bremove_yes h hTB hk).mono ?_
    rintro e w' ⟨rfl, b1', b2', A', c', f', h', fb⟩
    exact ⟨_, _, rfl, ⟨b1', b2', A', c', f', h'⟩, fb⟩
end
end Go.Proofs.YtafidbjaeopciaaDoor

/-
  What lies about while bindings are added, removed and looked through (layer 22). Conditions are each theorem's own.
-/
namespace Go.Proofs.YtafidbjaeopciaaDoor
open Go.RowKit Go.Shelf
theorem t4_no2 : ¬ T4 4 ∧ ¬ T4 24 := by
  refine ⟨?_, ?_⟩ <;> (rintro (h | h | h | h) <;> exact absurd h (nat_ne (by kernel_rfl)))
theorem FB.boxed {B0 B : Nat} {X Y : World} {ty : TypeId} {v : Value} (h : FB B0 X Y) (hb : Boxed X B ty v) (hn : ¬ T4 ty) : Boxed Y B ty v := h.heap hb hn
/-- A result's box at B, the bindings' at g. -/
structure BIw (B g B0 d t1 t2 : Nat) (S : List (Option Bd)) (w U : World) : Prop where
  res : Boxed U B 4 (.bool false)
  box : Boxed U g 24 (.pointer (some ⟨d, 0, none⟩))
  db : DbE U B0 d t1 t2 50 S
  bel : Below w.heap.size w U
section
variable {B g B0 d t1 t2 : Nat} {S S' : List (Option Bd)} {w U V : World}
theorem BIw.below (h : BIw B g B0 d t1 t2 S w U) (hb : Below U.heap.size U V) : BIw B g B0 d t1 t2 S w V :=
  ⟨Boxed.below h.res hb (Boxed.lt h.res), Boxed.below h.box hb (Boxed.lt h.box), h.db.below hb, h.bel.trans (hb.mono h.bel.size)⟩
theorem BIw.fb (h : BIw B g B0 d t1 t2 S w U) (hz : w.heap.size ≤ B0) (hf : FB B0 U V) (hd : DbE V B0 d t1 t2 50 S') : BIw B g B0 d t1 t2 S' w V :=
  ⟨hf.boxed h.res t4_no2.1, hf.boxed h.box t4_no2.2, hd, h.bel.trans (hf.b.mono hz)⟩
end
theorem run_load_db {o : Oper} {a : Act} {w : World} {x : Operand} {p : Addr} {A : Option Addr} (ho : o.op = .load 24 x) (hx : a.eval x = .pointer (some p)) (hc : w.cell? p = some (.pointer A)) :
    (execOp a.eval o).run Tryd.prog w = .ok (.value (.pointer A)) w := by
  unfold execOp
  simp only [ho, hx, Instr.loadAt, Instr.sureAddr, Sem.run_bind, Sem.run_pure, Result.andThen_ok]
  go_simp
section
variable {F : Fence} {n : Nat} {P : Program} {ops : Array Oper} {rest : List Oper} {o : Oper} {a : Act} {w w' : World} {Q : Exit → Act → World → Prop} {v : Value}
theorem listF_val (hg : o.guard = none) (ha : o.about P w a.eval = none) (hd : ∀ c, o.op ≠ .defer c) (hrun : (execOp a.eval o).run P w = .ok (.value v) w)
    (h : wpListIn F n P ops Q rest (a.put o.dst v) w) : wpListIn F n P ops Q (o :: rest) a w :=
  wpListIn_plain hg fun K hK => ⟨fun f hf => (by rw [ha] at hf; cases hf), by rw [Oper.semAt_plain _ _ _ hd, hrun]; exact hK _ _ h⟩
theorem listF_want (hw : Region.wanted o (yielded ops a.tmps) = true) (ha : o.about P w a.eval = none) (hd : ∀ c, o.op ≠ .defer c) (hrun : (execOp a.eval o).run P w = .ok (.value v) w)
    (h : wpListIn F n P ops Q rest (a.put o.dst v) w) : wpListIn F n P ops Q (o :: rest) a w :=
  wpListIn_step fun K hK => by rw [if_pos hw]; exact ⟨fun f hf => (by rw [ha] at hf; cases hf), by rw [Oper.semAt_plain _ _ _ hd, hrun]; exact hK _ _ h⟩
theorem listF_skip (hg : o.guard = none) (ha : o.about P w a.eval = none) (hd : ∀ c, o.op ≠ .defer c) (hrun : (execOp a.eval o).run P w = .ok .skip w')
    (h : wpListIn F n P ops Q rest (a.put o.dst undef) w') : wpListIn F n P ops Q (o :: rest) a w :=
  wpListIn_plain hg fun K hK => ⟨fun f hf => (by rw [ha] at hf; cases hf), by rw [Oper.semAt_plain _ _ _ hd, hrun]; exact hK _ _ h⟩
end
set_option maxRecDepth 100000 in
theorem run_store_bdN {o : Oper} {a : Act} {w : World} {x y : Operand} {g t : Nat} {cs old : Array Value} (ho : o.op = .store 36 x y) (hx : a.eval x = .pointer (some ⟨g, 0, none⟩)) (hy : a.eval y = .agg cs) (hg : w.heap[g]? = some (.cells old t (0, 0))) (hold : old.size = 8) (hl : cs.size = 8) (h1 : cs.all (·.oneCell') = true) :
    (execOp a.eval o).run Tryd.prog w = .ok .skip (w.setRow g cs) := by
  have h := run_storeVar_row (P := Tryd.prog) w g t 36 old cs hg (by rw [hl]; kernel_rfl) (by rw [hold, hl]) h1
  unfold execOp
  simp only [ho, hx, hy, Instr.storeAt, Instr.sureAddr, Sem.run_bind, Sem.run_pure, Result.andThen_ok, h]
/-- Each block of cells lies as it lay. -/
structure CK (X Y : World) : Prop where
  size : X.heap.size ≤ Y.heap.size
  k : ∀ (i : Nat) (cs : Array Value) (ty : TypeId) (fr : Nat × Nat), X.heap[i]? = some (.cells cs ty fr) → Y.heap[i]? = some (.cells cs ty fr)
section
variable {X Y Z : World}
theorem CK.trans (h : CK X Y) (k : CK Y Z) : CK X Z := ⟨Nat.le_trans h.size k.size, fun i cs ty fr hi => k.k i cs ty fr (h.k i cs ty fr hi)⟩
theorem CK.of_below (h : Below X.heap.size X Y) : CK X Y := ⟨h.size, fun i _ _ _ hi => (h.block i (heap_lt hi)).trans hi⟩
theorem CK.of_map {b : Nat} (h : Kept (fun k => k = b) X Y) (hb : ∀ cs ty fr, X.heap[b]? ≠ some (.cells cs ty fr)) : CK X Y :=
  ⟨h.size, fun i cs ty fr hi => (h.block i (heap_lt hi) (fun e => by have e : i = b := e; subst e; exact hb _ _ _ hi)).trans hi⟩
theorem CK.of_grown {n : Nat} {r : Option Nat} (hg : X.grownBy Y r) (hr : ∀ k, r = some k → n ≤ k ∧ ∃ o : Obj, X.heap[k]? = some o ∧ o.isCells = false) : CK X Y := ⟨hg.size, fun _ _ _ _ hi => heap_keepB hi hg hr⟩
theorem CK.boxed {B : Nat} {ty : TypeId} {v : Value} (h : CK X Y) (hb : Boxed X B ty v) : Boxed Y B ty v := h.k _ _ _ _ hb
theorem own_ck {base e sz n : Nat} {v : Value} {xs : List Value} (h : X.ownsRow base e sz v n xs) (k : CK X Y) : Y.ownsRow base e sz v n xs := by
  refine ⟨h.1, ?_⟩
  rcases h.2 with h1 | ⟨g', cap, cur, hv, hb, hh, rest⟩
  · exact .inl h1
  · exact .inr ⟨g', cap, cur, hv, hb, k.k _ _ _ _ hh, rest⟩
theorem HQ.ck {B0 t b : Nat} {most : Int} {M : List Ent} (h : HQ X B0 t b most M) (k : CK X Y) : HQ Y B0 t b most M := by
  obtain ⟨L, q1, q2⟩ := h
  obtain ⟨cur, a1, a2⟩ := q1.hs.arr.obj
  exact ⟨L, ⟨⟨k.k _ _ _ _ q1.hs.tab, q1.hs.arr.keep ((k.k _ _ _ _ a1).trans a1.symm)⟩, q1.prb, q1.half, q1.len, q1.mst, q1.n, q1.z⟩, q2⟩
theorem DbE.ck {B0 d t1 t2 : Nat} {most : Int} {S : List (Option Bd)} (h : DbE X B0 d t1 t2 most S) (k : CK X Y) : DbE Y B0 d t1 t2 most S := by
  obtain ⟨b1, b2, A, c, f, h⟩ := h
  exact ⟨b1, b2, A, c, f, k.k _ _ _ _ h.obj, own_ck h.own k, h.inn.ck k, h.out.ck k, h.free, h.fit, h.ni, h.no, h.mst, h.n, h.z, h.ap⟩
theorem BIw.ck {B g B0 d t1 t2 : Nat} {S : List (Option Bd)} {w : World} (h : BIw B g B0 d t1 t2 S w X) (k : CK X Y) (hb : Below w.heap.size w Y) : BIw B g B0 d t1 t2 S w Y :=
  ⟨k.boxed h.res, k.boxed h.box, h.db.ck k, hb⟩
end
/-- And two maps, which hold the endpoints that came. -/
structure BJw (B g B0 d t1 t2 g7 g8 m1 m2 : Nat) (S : List (Option Bd)) (w : World) (pre : List (Nat × Bd)) (X : World) : Prop where
  bi : BIw B g B0 d t1 t2 S w X
  x7 : Boxed X g7 49 (.map (some m1))
  x8 : Boxed X g8 50 (.map (some m2))
  s1 : SnK 32 (wfLN 4) X m1 pre.length (pre.map (fun e => e.2.inn))
  s2 : SnK 34 (wfLN 3) X m2 pre.length (pre.map (fun e => e.2.out))
section
variable {B g B0 d t1 t2 g7 g8 m1 m2 : Nat} {S : List (Option Bd)} {w X Y Z : World} {pre : List (Nat × Bd)}
theorem BJw.below (h : BJw B g B0 d t1 t2 g7 g8 m1 m2 S w pre X) (hb : Below X.heap.size X Y) : BJw B g B0 d t1 t2 g7 g8 m1 m2 S w pre Y :=
  ⟨h.bi.below hb, Boxed.below h.x7 hb (Boxed.lt h.x7), Boxed.below h.x8 hb (Boxed.lt h.x8), h.s1.of_block (hb.block _ h.s1.lt), h.s2.of_block (hb.block _ h.s2.lt)⟩
theorem BJw.kept {n : Nat} {r : Option Nat} (h : BJw B g B0 d t1 t2 g7 g8 m1 m2 S w pre X) (hg : X.grownBy Y r) (hr : ∀ k, r = some k → n ≤ k ∧ ∃ o : Obj, X.heap[k]? = some o ∧ o.isCells = false) (hn : w.heap.size ≤ n) (h1 : m1 < n) (h2 : m2 < n) : BJw B g B0 d t1 t2 g7 g8 m1 m2 S w pre Y :=
  ⟨h.bi.ck (CK.of_grown hg hr) (below_keep h.bi.bel hg hr hn (Nat.le_refl _)), (CK.of_grown hg hr).boxed h.x7, (CK.of_grown hg hr).boxed h.x8,
    h.s1.of_block (hg.block _ h.s1.lt (fun e => by have := (hr _ e.symm).1; omega)), h.s2.of_block (hg.block _ h.s2.lt (fun e => by have := (hr _ e.symm).1; omega))⟩
theorem BJw.step (h : BJw B g B0 d t1 t2 g7 g8 m1 m2 S w pre X) {x : Nat × Bd} (hne : m1 ≠ m2) (hm1 : w.heap.size ≤ m1) (hm2 : w.heap.size ≤ m2) (q1 : SnK 32 (wfLN 4) Y m1 (pre.length + 1) (pre.map (fun e => e.2.inn) ++ [x.2.inn])) (k1 : Kept (fun k => k = m1) X Y)
    (q2 : SnK 34 (wfLN 3) Z m2 (pre.length + 1) (pre.map (fun e => e.2.out) ++ [x.2.out])) (k2 : Kept (fun k => k = m2) Y Z) : BJw B g B0 d t1 t2 g7 g8 m1 m2 S w (pre ++ [x]) Z := by
  have c1 : CK X Y := CK.of_map k1 (fun cs ty fr => h.s1.isMap)
  have hm : ∀ cs ty fr, Y.heap[m2]? ≠ some (.cells cs ty fr) := fun cs ty fr => by
    rw [k1.block m2 h.s2.lt (fun e => hne e.symm)]; exact h.s2.isMap
  have c2 : CK Y Z := CK.of_map k2 hm
  have cc := c1.trans c2
  have b1 := h.bi.bel.trans (k1.below (Nat.le_trans (Nat.le_refl _) h.bi.bel.size) (fun i e => by have e : i = m1 := e; rw [e]; exact hm1))
  have b2 := b1.trans (k2.below b1.size (fun i e => by have e : i = m2 := e; rw [e]; exact hm2))
  refine ⟨h.bi.ck cc b2, cc.boxed h.x7, cc.boxed h.x8, ?_, ?_⟩
  · rw [List.length_append, List.map_append]
    exact q1.of_block (k2.block m1 q1.lt hne)
  · rw [List.length_append, List.map_append]; exact q2
end
theorem pw_memB {α β : Type} {f : α → β} : ∀ {l : List α}, l.Pairwise (fun a b => f a ≠ f b) → ∀ {a b : α}, a ∈ l → b ∈ l → f a = f b → a = b
  | [], _, _, _, ha, _, _ => by cases ha
  | x :: l, h, a, b, ha, hb, e => by
    obtain ⟨h1, h2⟩ := List.pairwise_cons.1 h
    rcases List.mem_cons.1 ha with rfl | ha'
    · rcases List.mem_cons.1 hb with rfl | hb'
      · rfl
      · exact absurd e (h1 b hb')
    · rcases List.mem_cons.1 hb with rfl | hb'
      · exact absurd e.symm (h1 a ha')
      · exact pw_memB h2 ha' hb' e
theorem fndI_mem {l : List (Nat × Bd)} (hp : l.Pairwise (fun a b => a.2.inn ≠ b.2.inn)) {x : Nat × Bd} (hm : x ∈ l) : fndI l x.2 = some x := by
  cases hf : fndI l x.2 with
  | none => exact absurd rfl (fndI_none hf x hm)
  | some y =>
    obtain ⟨h1, h2⟩ := fndI_some hf
    rw [pw_memB hp h1 hm h2]
theorem fndO_mem {l : List (Nat × Bd)} (hp : l.Pairwise (fun a b => a.2.out ≠ b.2.out)) {x : Nat × Bd} (hm : x ∈ l) : fndO l x.2 = some x := by
  cases hf : fndO l x.2 with
  | none => exact absurd rfl (fndO_none hf x hm)
  | some y =>
    obtain ⟨h1, h2⟩ := fndO_some hf
    rw [pw_memB hp h1 hm h2]
end Go.Proofs.YtafidbjaeopciaaDoor

/-
  A range over an iterator whose round begins by laying a block for what came. Conditions are each theorem's own.
-/
namespace Go.Proofs.YtafidbjaeopciaaDoor
open Go.RowKit Go.Shelf
theorem range_toldW {α : Type} {n : Nat} {P : Program} {g : Operand} {ps : Array Tmp} {assign body : Code} {Q : Exit → Act → World → Prop} {a : Act} {w : World} (h1 : 1 ≤ n)
    {gf : Nat} {lb : Array Value} (hg : a.eval g = .func (.func gf) #[] lb) (eg : ∀ args w, (callFunc gf args).run P w = .ok (.enter gf args) w)
    {encs : α → Array Value} {G : List α → α → World → Prop} {Kp : World → World → Prop} {S Sp : List α → Prop} {w0 : World} (hseq : SeqTold (n - 1) P gf lb encs G Kp S Sp w0)
    (hKt : ∀ {A B C : World}, Kp A B → Kp B C → Kp A C) (hKb : ∀ (W : World) (l : Nat) (r r' : Loop), w.heap.size ≤ l → W.heap[l]? = some (.loop r) → Kp W (W.putObj l (.loop r')))
    (hb0 : Below w0.heap.size w0 w) (hps : ∀ x, (encs x).size = ps.size)
    (hG : ∀ (pre : List α) (x : α) (W : World) (l : Nat) (r r' : Loop), G pre x W → w.heap.size ≤ l → W.heap[l]? = some (.loop r) → G pre x (W.putObj l (.loop r')))
    (I : List α → World → Prop) (Ix : Code → List α → World → Prop) (hI : OwnFrom w.heap.size I) (hIx : ∀ c, OwnFrom w.heap.size (Ix c)) (h0 : I [] w) (a₁ : α → World → Act) (asg : α → World → World) (hag : ∀ (x : α) (W : World), W.grownBy (asg x W) none) (hGa : ∀ pre x W, G pre x W → G pre x (asg x W)) (hKa : ∀ (x : α) (W : World), w.heap.size ≤ W.heap.size → Kp W (asg x W))
    (hassign : ∀ (l : Nat) (x : α) (W : World) (K : Act → World → Prop), K (a₁ x W) (asg x W) →
      assign.wpIn (Fence.wide.inRound l) (n - 1 - 1) P (Exit.then K (fun _ _ _ => False)) { tmps := (ps.zip (encs x)).foldl (fun t (p, v) => t.setIfInBounds p v) a.tmps, defers := [] } W)
    (hbody : ∀ (l : Nat) (pre : List α) (x : α) (V W : World), I pre W → G pre x W → (∃ r, W = (asg x V).putObj l (.loop r)) → l < V.heap.size → body.wpIn (Fence.wide.inRound l) (n - 1 - 1) P (ownPostG w.heap.size Kp I Ix (pre ++ [x]) W) (a₁ x V) W)
    (hdone : ∀ (D : Nat) (xs : List α) (W : World), w.heap.size ≤ D → S xs → I xs W → W.heap[D]? = some (.deferred (some [])) → Q .normal { a with defers := { target := .collected D, args := #[] } :: a.defers } W)
    (hstop : ∀ (D : Nat) (c : Code) (pre : List α) (W : World), w.heap.size ≤ D → Sp pre → Ix c pre W → W.heap[D]? = some (.deferred (some [])) → c.wpIn Fence.wide n P Q { a with defers := { target := .collected D, args := #[] } :: a.defers } W) :
    (Code.rangeFunc g ps assign body).wpIn Fence.wide n P Q a w := by
  refine wpIn_rangeFunc fun fn _ => ?_
  have t1 := Two.first w (recd fn a ps assign body w.heap.size .ready none)
  have b1 : Below w0.heap.size w0 ((w.alloc (.deferred (some []))).alloc (.loop (recd fn a ps assign body w.heap.size .ready none))) := (hb0.alloc hb0.size _).alloc (by have := hb0.size; simp; omega) _
  have i1 : I [] ((w.alloc (.deferred (some []))).alloc (.loop (recd fn a ps assign body w.heap.size .ready none))) := hI.alloc _ (hI.alloc _ h0)
  have z1 : w.heap.size ≤ ((w.alloc (.deferred (some []))).alloc (.loop (recd fn a ps assign body w.heap.size .ready none))).heap.size := by simp; omega
  obtain ⟨W1, hW1⟩ : ∃ W1, W1 = (w.alloc (.deferred (some []))).alloc (.loop (recd fn a ps assign body w.heap.size .ready none)) := ⟨_, rfl⟩
  rw [← hW1] at t1 b1 i1 z1
  refine ⟨w.heap.size + 1, [{ target := .collected w.heap.size, args := #[] }], W1, { target := .fn (.func gf) lb, args := #[.func (.yield (w.heap.size + 1)) #[] #[]] }, W1, gf, #[.func (.yield (w.heap.size + 1)) #[] #[]] ++ lb, W1,
    ?_, ?_, fun _ _ => trivial, ?_, fun _ => h1, ?_⟩
  · rw [hW1]; exact run_enterLoop_outer fn a.tmps ps assign body
  · simp only [resolve, hg]; simp [go_sem]
  · simp [invoke, go_sem, eg]
  · refine (hseq (w.heap.size + 1) (fun pre W => I pre W ∧ Two W w.heap.size (recd fn a ps assign body w.heap.size .ready none))
      (fun pre W => ∃ c, Ix c pre W ∧ Two W w.heap.size (recd fn a ps assign body w.heap.size .done (some c))) _ b1 ?_ ?_ ?_ ⟨i1, t1⟩).mono ?_
    · rintro s A B row ⟨hi, ht⟩ hgr hr
      exact ⟨hI s A B row hi hgr fun r e => by obtain ⟨hB, o, ho, hw⟩ := hr r e; exact ⟨by omega, o, ho, Obj.not_cells_of_walk hw⟩, ht.abides hgr fun r e => (hr r e).2⟩
    · rintro s A B row ⟨c, hi, ht⟩ hgr hr
      exact ⟨c, hIx c s A B row hi hgr fun r e => by obtain ⟨hB, o, ho, hw⟩ := hr r e; exact ⟨by omega, o, ho, Obj.not_cells_of_walk hw⟩, ht.abides hgr fun r e => (hr r e).2⟩
    · rintro pre x X ⟨hi, ht⟩ hgx
      have ha := ht.abides (hag x X) (fun r e => by cases e)
      have hia := hI pre X _ none hi (hag x X) (fun r e => by cases e)
      have hza := (hag x X).size
      refine ⟨fn, _, assign, body, run_yield ht.rec_ (hps x), roundIn_of_wpIn trivial (hassign _ x X _ ⟨_, run_beginRound ha.rec_ rfl, ?_⟩)⟩
      have hbu := ha.turn (recd fn a ps assign body w.heap.size .busy none)
      exact wpIn_mono (hbody _ pre x X _ (hI.putObj _ hia (by omega) ha.rec_ rfl) (hG pre x _ _ _ _ (hGa pre x X hgx) (by omega) ha.rec_) ⟨_, rfl⟩ (heap_lt ht.rec_))
        (fun e b Y hp => by
          have hk0 : Kp X ((asg x X).putObj (w.heap.size + 1) (.loop (recd fn a ps assign body w.heap.size .busy none))) := hKt (hKa x X (by have := heap_lt ht.rec_; omega)) (hKb _ _ _ _ (by omega) ha.rec_)
          exact round_end (P := P) (pre := pre ++ [x]) (Kp := Kp) (I := I) (Ix := Ix) hI hIx hKt hKb X hk0 hbu e b hp)
    · rintro e Y ⟨⟨v, rfl⟩, ⟨xs, hs, hi, ht⟩ | ⟨pre, hs, c, hi, ht⟩⟩
      · exact ⟨none, _, run_endLoop ht.rec_ (by simp [recd]), hdone _ xs _ (Nat.le_refl _) hs (hI.putObj _ hi (by omega) ht.rec_ rfl) (ht.turn _).calls⟩
      · exact ⟨some c, _, run_endLoop ht.rec_ (by simp [recd]), hstop _ c pre _ (Nat.le_refl _) hs ((hIx c).putObj _ hi (by omega) ht.rec_ rfl) (ht.turn _).calls⟩
theorem Kept.of_grownN {a b : World} {g : Nat} (h : a.grownBy b (some g)) : Kept (fun k => k = g) a b := (Kept.of_grown h).mono (fun _ _ e => by injection e)
theorem heap_ltO {X : World} {i : Nat} {o : Obj} (h : X.heap[i]? = some o) : i < X.heap.size := (Array.getElem?_eq_some_iff.1 h).1
theorem listR_want {l n : Nat} {P : Program} {ops : Array Oper} {rest : List Oper} {o : Oper} {a : Act} {w : World} {Q : Exit → Act → World → Prop} {v : Value} (hw : Region.wanted o (yielded ops a.tmps) = true) (hd : ∀ c, o.op ≠ .defer c) (hrun : (execOp a.eval o).run P w = .ok (.value v) w)
    (h : wpListIn (Fence.wide.inRound l) n P ops Q rest (a.put o.dst v) w) : wpListIn (Fence.wide.inRound l) n P ops Q (o :: rest) a w :=
  wpListIn_step fun K hK => by rw [if_pos hw]; exact ⟨fun _ _ => trivial, by rw [Oper.semAt_plain _ _ _ hd, hrun]; exact hK _ _ h⟩
end Go.Proofs.YtafidbjaeopciaaDoor

/-
  The library's tables that the statements list: what the rows' condition gives the walks, and a start at which it holds. Conditions are each theorem's own.
-/
namespace Go.Proofs.YtafidbjaeopciaaDoor
open Go.RowKit

/-- The list that every row of this seat bears. -/
def laidAll : List (String × DataW Unit) := [("math/bits.deBruijn32tab", Rows.laid_math_bits_deBruijn32tab), ("math/bits.deBruijn64tab", Rows.laid_math_bits_deBruijn64tab), ("internal/strconv.uint64pow10", Rows.laid_internal_strconv_uint64pow10)]
def z32 : List Int := [0, 1, 28, 2, 29, 14, 24, 3, 30, 22, 20, 15, 25, 17, 4, 8, 31, 27, 13, 23, 21, 19, 16, 7, 26, 12, 18, 6, 11, 5, 10, 9]
theorem laid_tabs : laidAll = [("math/bits.deBruijn32tab", Lib.tabData .u8 z32), ("math/bits.deBruijn64tab", Lib.tabData .u8 (Lib.deBruijn64tab.map fun n : Nat => (n : Int))), ("internal/strconv.uint64pow10", Lib.tabData .u64 Lib.pow10Tab)] := by
  kernel_rfl
theorem tabs_of_laid {W : World} (h : laidMetH Tryd.prog laidAll W) : Tabs W := by
  rw [MakeChecks.laidMetH_plain _ _ _ (by kernel_rfl), laid_tabs] at h
  have h2 := laidMet.tail h
  have h3 := laidMet.tail h2
  exact ⟨Lib.tabIs_of_head glob_pow (by kernel_rfl) Tryd.underlying109 Tryd.underlying81 (by kernel_rfl) (by kernel_rfl) h3,
    Lib.tabIs_of_head glob_bruijn (by kernel_rfl) Tryd.underlying115 Tryd.underlying5 (by kernel_rfl) (by kernel_rfl) h2⟩
/-- The door's own heap meets the condition: three closed facts. -/
theorem door_met (os : Os) (args : Array Value) : laidMetH Tryd.prog laidAll ((World.doorLaid Tryd.prog 24 os).forCall (fun _ _ => 0) ⟨#[], args, []⟩).memory :=
  laidMetH_of_parts3 (fuel := 8) (laidMet_of_run' 8 (by kernel_rfl) (by kernel_rfl)) (by kernel_rfl) (by kernel_rfl)
theorem door_shaped (os : Os) (args : Array Value) : ((World.doorLaid Tryd.prog 24 os).forCall (fun _ _ => 0) ⟨#[], args, []⟩).Shaped Tryd.prog := World.shaped_of_RefB (by kernel_rfl) (by kernel_rfl)
end Go.Proofs.YtafidbjaeopciaaDoor
