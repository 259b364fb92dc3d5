/-
  Contracts and lemmas on which the proofs of this seat stand (several texts in one). Conditions are each theorem's own.
-/
import Derived.Test.YtghbliabmecbcaaDoorMd1
import Derived.Test.YtghbliabmecbcaaDoorMc5

/-
  The document's sessions of layer 24: Add. Conditions are each theorem's own.
-/
namespace Go.Proofs.YtghbliabmecbcaaDoor
open Go.RowKit Go.Shelf
def insR (D : List (Nat × Sd)) (k : Nat) (x : Sd) : List (Nat × Sd) := D.take k ++ (k, x) :: D.drop k
def cutRr (A : Option Addr) (c k : Nat) : Option Addr := if c = k then A else A.map (·.add (k * 6))
theorem cutRr_none {A : Option Addr} {c k : Nat} (h : A = none → c = 0) : cutRr A c k = none → c - k = 0 := fun e => by
  unfold cutRr at e
  split at e
  · omega
  · cases A with
    | none => have := h rfl; omega
    | some a => cases e
theorem rds_takeR {w : World} {B k : Nat} {A : Option Addr} {l : List (Nat × Sd)} (h : RdS clNu 6 w B A l) : RdS clNu 6 w B A (l.take k) := fun hn => by
  rw [List.length_take] at hn
  obtain ⟨b', off', e, hb, hc⟩ := h (by omega)
  refine ⟨_, _, e, hb, fun j x hx => hc j x ?_⟩
  rw [List.getElem?_take] at hx
  split at hx
  · exact hx
  · cases hx
theorem rds_cutRr {w : World} {B k c : Nat} {A : Option Addr} {l : List (Nat × Sd)} (h : RdS clNu 6 w B A l) (hc : l.length ≤ c) : RdS clNu 6 w B (cutRr A c k) (l.drop k) := fun hn => by
  rw [List.length_drop] at hn
  obtain ⟨b', off', e, hb, hr⟩ := h (by omega)
  refine ⟨b', off' + k * 6, by rw [cutRr, if_neg (by omega), e]; show some (Addr.add ⟨b', off', none⟩ (k * 6)) = _; rw [add_off], hb, fun j x hx => ?_⟩
  rw [List.getElem?_drop] at hx
  have := hr (k + j) x hx
  rwa [show off' + (k + j) * 6 = off' + k * 6 + j * 6 by omega] at this
theorem rds_oneR (w : World) (e : Nat × Sd) : RdS clNu 6 (w.alloc (.cells (clNu e).toArray 71)) (w.alloc (.cells (clNu e).toArray 71)).heap.size (some ⟨w.heap.size, 0, none⟩) [e] := fun _ => by
  refine ⟨_, _, rfl, by simp, fun j x hx => ?_⟩
  have hj : j = 0 := by have := (List.getElem?_eq_some_iff.1 hx).1; simpa using this
  subst hj
  simp only [List.getElem?_cons_zero, Option.some.injEq] at hx
  subst hx
  rw [Nat.zero_mul, Nat.add_zero]
  exact range_heap (World.alloc_heap_new w _)
theorem slice_R : Tryd.prog.underlying 61 = some (.slice (Tryd.prog.elem 61)) := by kernel_rfl
theorem cells_R : Tryd.prog.cellsOf (Tryd.prog.elem 61) = 6 := by kernel_rfl
theorem run_load_seR {o : Oper} {a : Act} {w : World} {y : Operand} {g i : Nat} {x : Sd} (ho : o.op = .load 34 y) (hx : a.eval y = .pointer (some ⟨g, i, none⟩)) (hr : w.rangeAt g i (clSe x)) :
    (execOp a.eval o).run Tryd.prog w = .ok (.value (.agg #[.int .i64 x.b, .int .i64 x.t, .int .i64 x.u, .int .i64 x.a, .int .i64 x.p])) w := run_load_se ho hx hr
theorem run_cutr_l {o : Oper} {a : Act} {w : World} {x lo : Operand} {A : Option Addr} {n c l m : Nat} (ho : o.op = .slice 61 x (some lo) none none) (hx : a.eval x = .slice A n c) (hl : a.eval lo = .int .i64 (l : Int)) (hn : l ≤ n) (hm : m = n - l) :
    (execOp a.eval o).run Tryd.prog w = .ok (.value (.slice (cutRr A c l) m (c - l))) w := by
  subst hm
  have h1 := run_slice_l (P := Tryd.prog) (w := w) 61 A n c slice_R .i64 (l : Int) (by omega) (by omega)
  unfold execOp
  simp only [ho, hx, hl, Option.map, Sem.run_bind, run_sliceAt_slice _ _ _ _ _ _ slice_R, h1]
  go_simp
  rfl
theorem run_cutr_h {o : Oper} {a : Act} {w : World} {x hi : Operand} {A : Option Addr} {n c m : Nat} {h : Int} (ho : o.op = .slice 61 x none (some hi) none) (hx : a.eval x = .slice A n c) (hh : a.eval hi = .int .i64 h)
    (h0 : 0 ≤ h) (h2 : h ≤ (c : Int)) (hm : m = h.toNat) :
    (execOp a.eval o).run Tryd.prog w = .ok (.value (.slice A m c)) w := by
  subst hm
  have h1 := run_slice_h (P := Tryd.prog) (w := w) 61 A n c slice_R .i64 h h0 h2
  unfold execOp
  simp only [ho, hx, hh, Option.map, Sem.run_bind, run_sliceAt_slice _ _ _ _ _ _ slice_R, h1]
  go_simp
section
variable {n : Nat} {o : Oper} {a : Act} {w : World} {K : Act → World → Prop} {Q : Exit → Act → World → Prop}
theorem store_rI {x y : Operand} {p : Addr} {v0 : Value} {A : Option Addr} {m c : Nat} (ho : o.op = .store 61 x y) (hx : a.eval x = .pointer (some p)) (hy : a.eval y = .slice A m c) (hc : w.cell? p = some v0) (hf : w.frozen? p = false)
    (h : K (a.put o.dst undef) (w.setCell p (.slice A m c))) : o.wpIn Fence.wide n Tryd.prog a w K Q := by
  refine skipI (w' := w.setCell p (.slice A m c)) ?_ h
  unfold execOp
  simp only [ho, hx, hy, Instr.storeAt, Instr.sureAddr, Sem.run_bind, Sem.run_pure, Result.andThen_ok]
  go_simp
theorem append_rI (s x : Operand) (ho : o.op = .call { callee := .builtin .append, args := #[s, x], argTypes := #[61, 61] })
    (base : Nat) (v : Value) (m : Nat) (xs : List Value) (hs : a.eval s = v) (hown : w.ownsRow base 71 6 v m xs)
    (B : Nat) (A : Option Addr) (k c : Nat) (l : List (Nat × Sd)) (hx : a.eval x = .slice A k c) (hk : k = l.length) (hA : A = none → c = 0) (hr : RdS clNu 6 w B A l)
    (hlen : m + k ≤ 1000000) (hbase : base ≤ w.heap.size)
    (h : ∀ v' w', w'.ownsRow base 71 6 v' (m + k) (xs ++ l.flatMap clNu) → w.grownBy w' v.ownBlock → K (a.put o.dst v') w') : o.wpIn Fence.wide n Tryd.prog a w K Q := by
  obtain ⟨i0, hi, hz0, hz1, hz2⟩ := info_parts info_r
  subst hk
  rcases A with _ | ad
  · have h0 : l = [] := by
      rcases Nat.eq_zero_or_pos l.length with e | e
      · exact List.eq_nil_of_length_eq_zero e
      · obtain ⟨_, _, e', _⟩ := hr e; cases e'
    subst h0
    obtain rfl := hA rfl
    have hrun := run_append_owned_none (P := Tryd.prog) (w := w) base 61 o.type 71 i0 6 Tryd.underlying61 hi v m xs hown
    refine growI (v := v) (w' := w) ?_ (h v w (by simpa using hown) (World.grownBy.refl w _))
    simp [execOp, ho, resolve, invoke, builtin, hs, hx, hrun, Result.andThen]
  · obtain ⟨v', w', hrun, h1, h2, _⟩ := run_append_own (P := Tryd.prog) w base 61 o.type 71 i0 _ 6 48 Tryd.underlying61 hi hz0 hz1 hz2 rfl (by decide) v m xs hown ad l.length c (l.flatMap clNu)
      (clNu_flat l) (rds_srcR hr) (ones_R l) (by unfold maxLen; omega) (by omega) hbase
    refine growI (v := v') (w' := w') ?_ (h v' w' h1 h2)
    simp [execOp, ho, resolve, invoke, builtin, hs, hx, hrun, Result.andThen]
end
section
variable {w : World} {B0 g : Nat} {v : Value} {most : Int} {D : List (Nat × Sd)}
set_option maxRecDepth 100000 in
set_option maxHeartbeats 4000000 in
theorem r24add_twice (h : Rt w B0 g v most D) (hD : D.length ≤ 1000) (x : Sd) {q : Nat × Sd} (hh : fndS D x = some q) : Calls Tryd.prog 10 #[.pointer (some ⟨g, 0, none⟩), seV x] w fun e w' => e = .returned (.tuple #[.int .i64 0, .int .i64 9]) ∧ Below w.heap.size w w' := by
  obtain ⟨V, hV⟩ : ∃ V, V = w.alloc (.cells (clSe x).toArray 34) := ⟨_, rfl⟩
  have bV : Below w.heap.size w V := by rw [hV]; exact (Below.refl _ w).alloc (Nat.le_refl _) _
  have hbV : V.heap[w.heap.size]? = some (.cells (clSe x).toArray 34 (0, 0)) := by rw [hV]; exact World.alloc_heap_new w _
  have HV := Lib.hid (show w.alloc (.cells #[.int .i64 x.b, .int .i64 x.t, .int .i64 x.u, .int .i64 x.a, .int .i64 x.p] 34) = V from hV.symm)
  have HB := Lib.hid (h.below bV)
  have HBV := Lib.hid bV
  have hri := box_re hbV
  have kb0 : V.cell? ⟨w.heap.size, 0, none⟩ = some (.int .i64 x.b) := cells_at (i := 0) hbV rfl
  have HXB : Hid (∀ U, Below V.heap.size V U → U.rangeAt w.heap.size 0 (clSe x)) := Lib.hid fun U hU => range_belowR (box_se hbV) (heap_lt hbV) hU
  have HDD := Lib.hid hD
  clear h hV hbV bV
  have HFI := Lib.hid hh
  clear hh
  unfold seV clSe
  go_enter Tryd.func10, Tryd.ntmps10
  go_upto_region 1 with fail
  rw [HV.out]
  go_wp2_with (first
    | ((with_reducible show wpList _ _ _ (Oper.mk _ (Op.load 32 _) _ _ _ _ :: _) _ _); refine wpList_val rfl (run_load_re (x := x) rfl rfl hri) ?_)
    | (go_at_call 18; refine (r24find HB.out HDD.out x).mono ?_; rintro e w1 ⟨rfl, x1⟩; rw [HFI.out]))
  exact bodyPost_ret (results_tmp2 rfl _ _ _) rfl ⟨rfl, HBV.out.trans (x1.mono HBV.out.size)⟩
set_option maxRecDepth 100000 in
set_option maxHeartbeats 4000000 in
theorem r24add_full (h : Rt w B0 g v most D) (hD : D.length ≤ 1000) (x : Sd) (hh : fndS D x = none) (hfu : (D.length : Int) ≥ most) : Calls Tryd.prog 10 #[.pointer (some ⟨g, 0, none⟩), seV x] w fun e w' => e = .returned (.tuple #[.int .i64 0, .int .i64 7]) ∧ Below w.heap.size w w' := by
  have hi := hh
  have HFI := Lib.hid hi
  obtain ⟨A, c, hv, _, hcap, hnn⟩ := h.sh
  subst hv
  obtain ⟨m, hm⟩ : ∃ m, m = D.length := ⟨_, rfl⟩
  rw [← hm] at h hcap
  have HFL := Lib.hid hm
  have HNN := Lib.hid hnn
  have hmS : m ≤ 1000 := by omega
  have dF : decide (most ≤ (m : Int)) = true := decide_eq_true (by omega)
  clear hi hnn hm hfu
  obtain ⟨V, hV⟩ : ∃ V, V = w.alloc (.cells (clSe x).toArray 34) := ⟨_, rfl⟩
  have bV : Below w.heap.size w V := by rw [hV]; exact (Below.refl _ w).alloc (Nat.le_refl _) _
  have hbV : V.heap[w.heap.size]? = some (.cells (clSe x).toArray 34 (0, 0)) := by rw [hV]; exact World.alloc_heap_new w _
  have HV := Lib.hid (show w.alloc (.cells #[.int .i64 x.b, .int .i64 x.t, .int .i64 x.u, .int .i64 x.a, .int .i64 x.p] 34) = V from hV.symm)
  have HB := Lib.hid (h.below bV)
  have HBV := Lib.hid bV
  have hri := box_re hbV
  have kb0 : V.cell? ⟨w.heap.size, 0, none⟩ = some (.int .i64 x.b) := cells_at (i := 0) hbV rfl
  have HXB : Hid (∀ U, Below V.heap.size V U → U.rangeAt w.heap.size 0 (clSe x)) := Lib.hid fun U hU => range_belowR (box_se hbV) (heap_lt hbV) hU
  have HDD := Lib.hid hD
  clear h hV hbV bV
  clear hh
  unfold seV clSe
  go_enter Tryd.func10, Tryd.ntmps10
  go_upto_region 1 with fail
  rw [HV.out]
  go_upto_region 4 with (first
    | ((with_reducible show wpList _ _ _ (Oper.mk _ (Op.load 32 _) _ _ _ _ :: _) _ _); refine wpList_val rfl (run_load_re (x := x) rfl rfl hri) ?_)
    | (go_at_call 18; refine (r24find HB.out HDD.out x).mono ?_; rintro e w1 ⟨rfl, x1⟩; rw [HFI.out]))
  have x12 := x1
  have HW2 := Lib.hid (HB.out.below x12)
  have HT1 := Lib.hid HW2.out.tab
  have HGZ := Lib.hid (heap_lt HT1.out)
  refine wp_region_held_drew (S := fun w' => Below w1.heap.size w1 w') (by kernel_rfl) (Below.refl _ _).drew (fun hS => ?_)
  refine held_pure (i := 0) (oi := ⟨some 19, _, _, _, _, _⟩) rfl (by kernel_rfl) (by kernel_rfl) (by kernel_rfl) (fun _ _ _ h => h) (by rfl) (v := ?_) (fun w hSw => ?_) hS (fun hS => ?_)
  rotate_left
  · go_simp; try with_reducible rfl
  try go_frame
  refine held_pure (i := 1) (oi := ⟨some 20, _, _, _, _, _⟩) rfl (by kernel_rfl) (by kernel_rfl) (by kernel_rfl) (fun _ _ _ h => h) (by rfl) (v := ?_) (fun w hSw => ?_) hS (fun hS => ?_)
  rotate_left
  · go_simp; try with_reducible rfl
  try go_frame
  refine held_pure (i := 2) (oi := ⟨some 21, _, _, _, _, _⟩) rfl (by kernel_rfl) (by kernel_rfl) (by kernel_rfl) (fun _ _ _ h => h) (by rfl) (v := ?_) (fun w hSw => ?_) hS (fun hS => ?_)
  rotate_left
  · go_simp; try with_reducible rfl
  try go_frame
  refine held_pure (i := 3) (oi := ⟨some 22, _, _, _, _, _⟩) rfl (by kernel_rfl) (by kernel_rfl) (by kernel_rfl) (fun _ _ _ h => h) (by rfl) (fun w hSw => run_load_rsl rfl rfl (cells_at (i := 0) ((hSw.block g HGZ.out).trans HT1.out) rfl)) hS (fun hS => ?_)
  try go_frame
  refine held_pure (i := 4) (oi := ⟨some 23, _, _, _, _, _⟩) rfl (by kernel_rfl) (by kernel_rfl) (by kernel_rfl) (fun _ _ _ h => h) (by rfl) (v := ?_) (fun w hSw => ?_) hS (fun hS => ?_)
  rotate_left
  · go_simp; try with_reducible rfl
  try go_frame
  refine held_pure (i := 5) (oi := ⟨some 24, _, _, _, _, _⟩) rfl (by kernel_rfl) (by kernel_rfl) (by kernel_rfl) (fun _ _ _ h => h) (by rfl) (v := ?_) (fun w hSw => ?_) hS (fun hS => ?_)
  rotate_left
  · go_simp; try with_reducible rfl
  try go_frame
  refine held_pure (i := 6) (oi := ⟨some 25, _, _, _, _, _⟩) rfl (by kernel_rfl) (by kernel_rfl) (by kernel_rfl) (fun _ _ _ h => h) (by rfl) (v := ?_) (fun w hSw => ?_) hS (fun hS => ?_)
  rotate_left
  · go_simp; try with_reducible rfl
  try go_frame
  refine held_pure (i := 7) (oi := ⟨some 26, _, _, _, _, _⟩) rfl (by kernel_rfl) (by kernel_rfl) (by kernel_rfl) (fun _ _ _ h => h) (by rfl) (v := ?_) (fun w hSw => ?_) hS (fun hS => ?_)
  rotate_left
  · go_simp; try with_reducible rfl
  try go_frame
  refine held_pure (i := 8) (oi := ⟨some 27, _, _, _, _, _⟩) rfl (by kernel_rfl) (by kernel_rfl) (by kernel_rfl) (fun _ _ _ h => h) (by rfl) (fun w hSw => run_load_int rfl rfl (cells_at (i := 1) ((hSw.block g HGZ.out).trans HT1.out) rfl)) hS (fun hS => ?_)
  try go_frame
  refine held_pure (i := 9) (oi := ⟨some 28, _, _, _, _, _⟩) rfl (by kernel_rfl) (by kernel_rfl) (by kernel_rfl) (fun _ _ _ h => h) (by rfl) (v := .bool true) (fun w hSw => by go_simp; try exact dF) hS (fun hS => ?_)
  try go_frame
  refine wpAnyH_done (by kernel_rfl) ?_ _
  go_wp2
  exact bodyPost_ret (results_tmp2 rfl _ _ _) rfl ⟨rfl, HBV.out.trans (x12.drew.mono HBV.out.size)⟩
set_option maxRecDepth 100000 in
set_option maxHeartbeats 4000000 in
theorem r24add_ok (h : Rt w B0 g v most D) (hD : D.length ≤ 1000) (x : Sd) (hh : fndS D x = none) (hfu : (D.length : Int) < most) {f : Nat} (hf : f ≤ D.length) (hp : ∀ j e, j < f → D[j]? = some e → e.1 = j) (hq : ∀ e, D[f]? = some e → e.1 ≠ f) : Calls Tryd.prog 10 #[.pointer (some ⟨g, 0, none⟩), seV x] w fun e w' => e = .returned (.tuple #[.int .i64 (f : Int), .int .i64 0]) ∧ ∃ v', Rt w' B0 g v' most (insR D f x) ∧ Kept (fun k => k = g) w w' := by
  have HP := Lib.hid hp
  have HQ := Lib.hid hq
  have hi := hh
  have HFI := Lib.hid hi
  obtain ⟨A, c, hv, _, hcap, hnn⟩ := h.sh
  subst hv
  obtain ⟨m, hm⟩ : ∃ m, m = D.length := ⟨_, rfl⟩
  rw [← hm] at h hcap
  have HFL := Lib.hid hm
  have HNN := Lib.hid hnn
  have hmS : m ≤ 1000 := by omega
  have dF : decide (most ≤ (m : Int)) = false := decide_eq_false (by omega)
  rw [← hm] at hf
  clear hp hq hi hnn hm hfu
  obtain ⟨V, hV⟩ : ∃ V, V = w.alloc (.cells (clSe x).toArray 34) := ⟨_, rfl⟩
  have bV : Below w.heap.size w V := by rw [hV]; exact (Below.refl _ w).alloc (Nat.le_refl _) _
  have hbV : V.heap[w.heap.size]? = some (.cells (clSe x).toArray 34 (0, 0)) := by rw [hV]; exact World.alloc_heap_new w _
  have HV := Lib.hid (show w.alloc (.cells #[.int .i64 x.b, .int .i64 x.t, .int .i64 x.u, .int .i64 x.a, .int .i64 x.p] 34) = V from hV.symm)
  have HB := Lib.hid (h.below bV)
  have HBV := Lib.hid bV
  have hri := box_re hbV
  have kb0 : V.cell? ⟨w.heap.size, 0, none⟩ = some (.int .i64 x.b) := cells_at (i := 0) hbV rfl
  have HXB : Hid (∀ U, Below V.heap.size V U → U.rangeAt w.heap.size 0 (clSe x)) := Lib.hid fun U hU => range_belowR (box_se hbV) (heap_lt hbV) hU
  have HDD := Lib.hid hD
  clear h hV hbV bV
  clear hh
  unfold seV clSe
  go_enter Tryd.func10, Tryd.ntmps10
  go_upto_region 1 with fail
  rw [HV.out]
  go_upto_region 4 with (first
    | ((with_reducible show wpList _ _ _ (Oper.mk _ (Op.load 32 _) _ _ _ _ :: _) _ _); refine wpList_val rfl (run_load_re (x := x) rfl rfl hri) ?_)
    | (go_at_call 18; refine (r24find HB.out HDD.out x).mono ?_; rintro e w1 ⟨rfl, x1⟩; rw [HFI.out]))
  have x12 := x1
  have HW2 := Lib.hid (HB.out.below x12)
  have HT1 := Lib.hid HW2.out.tab
  have HGZ := Lib.hid (heap_lt HT1.out)
  refine wp_region_held_drew (S := fun w' => Below w1.heap.size w1 w') (by kernel_rfl) (Below.refl _ _).drew (fun hS => ?_)
  refine held_pure (i := 0) (oi := ⟨some 19, _, _, _, _, _⟩) rfl (by kernel_rfl) (by kernel_rfl) (by kernel_rfl) (fun _ _ _ h => h) (by rfl) (v := ?_) (fun w hSw => ?_) hS (fun hS => ?_)
  rotate_left
  · go_simp; try with_reducible rfl
  try go_frame
  refine held_pure (i := 1) (oi := ⟨some 20, _, _, _, _, _⟩) rfl (by kernel_rfl) (by kernel_rfl) (by kernel_rfl) (fun _ _ _ h => h) (by rfl) (v := ?_) (fun w hSw => ?_) hS (fun hS => ?_)
  rotate_left
  · go_simp; try with_reducible rfl
  try go_frame
  refine held_pure (i := 2) (oi := ⟨some 21, _, _, _, _, _⟩) rfl (by kernel_rfl) (by kernel_rfl) (by kernel_rfl) (fun _ _ _ h => h) (by rfl) (v := ?_) (fun w hSw => ?_) hS (fun hS => ?_)
  rotate_left
  · go_simp; try with_reducible rfl
  try go_frame
  refine held_pure (i := 3) (oi := ⟨some 22, _, _, _, _, _⟩) rfl (by kernel_rfl) (by kernel_rfl) (by kernel_rfl) (fun _ _ _ h => h) (by rfl) (fun w hSw => run_load_rsl rfl rfl (cells_at (i := 0) ((hSw.block g HGZ.out).trans HT1.out) rfl)) hS (fun hS => ?_)
  try go_frame
  refine held_pure (i := 4) (oi := ⟨some 23, _, _, _, _, _⟩) rfl (by kernel_rfl) (by kernel_rfl) (by kernel_rfl) (fun _ _ _ h => h) (by rfl) (v := ?_) (fun w hSw => ?_) hS (fun hS => ?_)
  rotate_left
  · go_simp; try with_reducible rfl
  try go_frame
  refine held_pure (i := 5) (oi := ⟨some 24, _, _, _, _, _⟩) rfl (by kernel_rfl) (by kernel_rfl) (by kernel_rfl) (fun _ _ _ h => h) (by rfl) (v := ?_) (fun w hSw => ?_) hS (fun hS => ?_)
  rotate_left
  · go_simp; try with_reducible rfl
  try go_frame
  refine held_pure (i := 6) (oi := ⟨some 25, _, _, _, _, _⟩) rfl (by kernel_rfl) (by kernel_rfl) (by kernel_rfl) (fun _ _ _ h => h) (by rfl) (v := ?_) (fun w hSw => ?_) hS (fun hS => ?_)
  rotate_left
  · go_simp; try with_reducible rfl
  try go_frame
  refine held_pure (i := 7) (oi := ⟨some 26, _, _, _, _, _⟩) rfl (by kernel_rfl) (by kernel_rfl) (by kernel_rfl) (fun _ _ _ h => h) (by rfl) (v := ?_) (fun w hSw => ?_) hS (fun hS => ?_)
  rotate_left
  · go_simp; try with_reducible rfl
  try go_frame
  refine held_pure (i := 8) (oi := ⟨some 27, _, _, _, _, _⟩) rfl (by kernel_rfl) (by kernel_rfl) (by kernel_rfl) (fun _ _ _ h => h) (by rfl) (fun w hSw => run_load_int rfl rfl (cells_at (i := 1) ((hSw.block g HGZ.out).trans HT1.out) rfl)) hS (fun hS => ?_)
  try go_frame
  refine held_pure (i := 9) (oi := ⟨some 28, _, _, _, _, _⟩) rfl (by kernel_rfl) (by kernel_rfl) (by kernel_rfl) (fun _ _ _ h => h) (by rfl) (v := .bool false) (fun w hSw => by go_simp; try exact dF) hS (fun hS => ?_)
  try go_frame
  refine wpAnyH_done (by kernel_rfl) ?_ _
  clear dF
  go_wp2
  go_loopw [8] (fun z wr => ∃ k : Nat, k ≤ f ∧ z = .int .i64 (k : Int) ∧ Below V.heap.size V wr) (fun z _ => f - (intOf z).toNat)
  case atStart => exact ⟨0, Nat.zero_le _, rfl, x12.drew⟩
  case round =>
    obtain ⟨k, hk, rfl, hbel⟩ := hrel
    have hw := HB.out.below hbel
    have kt : wr.cell? ⟨g, 0, none⟩ = some (.slice A m c) := cells_at (i := 0) hw.tab rfl
    by_cases hkf : k < f
    · obtain ⟨y, hy⟩ : ∃ y, D[k]? = some y := ⟨_, List.getElem?_eq_getElem (by rw [← HFL.out]; omega)⟩
      obtain ⟨b, rfl, hb, hr⟩ := hw.at_ hy
      have kx0 : wr.cell? ⟨b, k * 6, none⟩ = some (.int .i64 (k : Int)) := by have := hr 0 _ rfl; rw [HP.out k y hkf hy] at this; simpa using this
      have hkm : k < m := by omega
      clear hr hy hw
      go_wp2
      go_roundw
      case rel => exact ⟨k + 1, by omega, by simp, hbel⟩
      case measure => simp [intOf]; omega
    · obtain rfl : f = k := by omega
      by_cases hkm : f < m
      · obtain ⟨y, hy⟩ : ∃ y, D[f]? = some y := ⟨_, List.getElem?_eq_getElem (by rw [← HFL.out]; omega)⟩
        obtain ⟨b, rfl, hb, hr⟩ := hw.at_ hy
        have kx0 : wr.cell? ⟨b, f * 6, none⟩ = some (.int .i64 (y.1 : Int)) := by simpa using hr 0 _ rfl
        have dk : ((y.1 : Int) == (f : Int)) = false := by have := HQ.out y hy; simp; omega
        clear hr hy
        go_upto_region 9 with fail
        generalize hA0 : (some (⟨b, 0, none⟩ : Addr)) = A at *
        clear hA0 dk kx0
        have HTB := Lib.hid hw.tab
        have HZB : Hid (B0 ≤ wr.heap.size ∧ B0 ≤ g) := Lib.hid ⟨Nat.le_trans hw.z (Nat.le_of_lt (heap_lt hw.tab)), hw.z⟩
        have hgz := heap_lt hw.tab
        have HKT : Hid (∀ V, Below wr.heap.size wr V → V.cell? ⟨g, 0, none⟩ = some (.slice A m c)) := Lib.hid fun V hV => cells_at (i := 0) ((hV.block g hgz).trans HTB.out) rfl
        have HRD : Hid (RdS clNu 6 wr wr.heap.size A D) := Lib.hid (by obtain ⟨A3, c3, e3, r3, _, _⟩ := hw.sh; injection e3 with e3; rw [e3]; exact r3)
        have HXR : Hid (∀ V, Below wr.heap.size wr V → V.rangeAt w.heap.size 0 (clSe x)) := Lib.hid fun V hV => HXB.out _ (hbel.trans (hV.mono hbel.size))
        have HKW : Hid (Kept (fun k => k = g) w wr) := Lib.hid ((Kept.of_below HBV.out).then_below hbel)
        clear hw kt hbel
        generalize wr = W at *
        refine regionY 20 (fun w' => Below W.heap.size W w') (by kernel_rfl) ?_
        have b0 : Below W.heap.size W W.drew := (Below.refl _ W).drew
        have hS : Below W.heap.size W W.drew := b0
        generalize W.drew = X0 at *
        refine pureY (i := 0) (oi := ⟨some 50, _, _, _, _, _⟩) rfl (by kernel_rfl) (by kernel_rfl) (by kernel_rfl) (by kernel_rfl) (by kernel_rfl) (fun _ _ _ h => h) (by rfl) (v := ?_) (fun w hSw => ?_) hS ?_
        rotate_left
        · go_simp; try with_reducible rfl
        try go_frame
        refine pureY (i := 1) (oi := ⟨some 51, _, _, _, _, _⟩) rfl (by kernel_rfl) (by kernel_rfl) (by kernel_rfl) (by kernel_rfl) (by kernel_rfl) (fun _ _ _ h => h) (by rfl) (v := ?_) (fun w hSw => ?_) hS ?_
        rotate_left
        · go_simp; try with_reducible rfl
        try go_frame
        refine pureY (i := 2) (oi := ⟨some 52, _, _, _, _, _⟩) rfl (by kernel_rfl) (by kernel_rfl) (by kernel_rfl) (by kernel_rfl) (by kernel_rfl) (fun _ _ _ h => h) (by rfl) (v := ?_) (fun w hSw => ?_) hS ?_
        rotate_left
        · go_simp; try with_reducible rfl
        try go_frame
        refine pureY (i := 3) (oi := ⟨some 53, _, _, _, _, _⟩) rfl (by kernel_rfl) (by kernel_rfl) (by kernel_rfl) (by kernel_rfl) (by kernel_rfl) (fun _ _ _ h => h) (by rfl) (v := ?_) (fun w hSw => ?_) hS ?_
        rotate_left
        · go_simp; try with_reducible rfl
        try go_frame
        refine pureY (i := 4) (oi := ⟨some 54, _, _, _, _, _⟩) rfl (by kernel_rfl) (by kernel_rfl) (by kernel_rfl) (by kernel_rfl) (by kernel_rfl) (fun _ _ _ h => h) (by rfl) (fun w hSw => run_load_rsl rfl rfl (HKT.out _ hSw)) hS ?_
        try go_frame
        refine pureY (i := 5) (oi := ⟨some 55, _, _, _, _, _⟩) rfl (by kernel_rfl) (by kernel_rfl) (by kernel_rfl) (by kernel_rfl) (by kernel_rfl) (fun _ _ _ h => h) (by rfl) (v := ?_) (fun w hSw => ?_) hS ?_
        rotate_left
        · go_simp; try with_reducible rfl
        try go_frame
        refine pureY (i := 6) (oi := ⟨some 56, _, _, _, _, _⟩) rfl (by kernel_rfl) (by kernel_rfl) (by kernel_rfl) (by kernel_rfl) (by kernel_rfl) (fun _ _ _ h => h) (by rfl) (fun w hSw => run_cutr_h (h := (f : Int)) rfl rfl rfl (by omega) (by omega) (m := f) (by omega)) hS ?_
        try go_frame
        refine pureY (i := 8) (oi := ⟨some 58, _, _, _, _, _⟩) rfl (by kernel_rfl) (by kernel_rfl) (by kernel_rfl) (by kernel_rfl) (by kernel_rfl) (fun _ _ _ h => h) (by rfl) (v := ?_) (fun w hSw => ?_) hS ?_
        rotate_left
        · go_simp; try with_reducible rfl
        try go_frame
        refine pureY (i := 9) (oi := ⟨some 59, _, _, _, _, _⟩) rfl (by kernel_rfl) (by kernel_rfl) (by kernel_rfl) (by kernel_rfl) (by kernel_rfl) (fun _ _ _ h => h) (by rfl) (fun w hSw => run_load_seR (x := x) rfl rfl (HXR.out _ hSw)) hS ?_
        try go_frame
        refine pureY (i := 10) (oi := ⟨some 60, _, _, _, _, _⟩) rfl (by kernel_rfl) (by kernel_rfl) (by kernel_rfl) (by kernel_rfl) (by kernel_rfl) (fun _ _ _ h => h) (by rfl) (v := ?_) (fun w hSw => ?_) hS ?_
        rotate_left
        · go_simp; try with_reducible rfl
        try go_frame
        refine pureY (i := 13) (oi := ⟨some 63, _, _, _, _, _⟩) rfl (by kernel_rfl) (by kernel_rfl) (by kernel_rfl) (by kernel_rfl) (by kernel_rfl) (fun _ _ _ h => h) (by rfl) (v := ?_) (fun w hSw => ?_) hS ?_
        rotate_left
        · go_simp; try with_reducible rfl
        try go_frame
        refine pureY (i := 14) (oi := ⟨some 64, _, _, _, _, _⟩) rfl (by kernel_rfl) (by kernel_rfl) (by kernel_rfl) (by kernel_rfl) (by kernel_rfl) (fun _ _ _ h => h) (by rfl) (v := ?_) (fun w hSw => ?_) hS ?_
        rotate_left
        · go_simp; try with_reducible rfl
        try go_frame
        refine pureY (i := 15) (oi := ⟨some 65, _, _, _, _, _⟩) rfl (by kernel_rfl) (by kernel_rfl) (by kernel_rfl) (by kernel_rfl) (by kernel_rfl) (fun _ _ _ h => h) (by rfl) (v := ?_) (fun w hSw => ?_) hS ?_
        rotate_left
        · go_simp; try with_reducible rfl
        try go_frame
        refine pureY (i := 16) (oi := ⟨some 66, _, _, _, _, _⟩) rfl (by kernel_rfl) (by kernel_rfl) (by kernel_rfl) (by kernel_rfl) (by kernel_rfl) (fun _ _ _ h => h) (by rfl) (fun w hSw => run_load_rsl rfl rfl (HKT.out _ hSw)) hS ?_
        try go_frame
        refine pureY (i := 17) (oi := ⟨some 67, _, _, _, _, _⟩) rfl (by kernel_rfl) (by kernel_rfl) (by kernel_rfl) (by kernel_rfl) (by kernel_rfl) (fun _ _ _ h => h) (by rfl) (v := ?_) (fun w hSw => ?_) hS ?_
        rotate_left
        · go_simp; try with_reducible rfl
        try go_frame
        refine pureY (i := 18) (oi := ⟨some 68, _, _, _, _, _⟩) rfl (by kernel_rfl) (by kernel_rfl) (by kernel_rfl) (by kernel_rfl) (by kernel_rfl) (fun _ _ _ h => h) (by rfl) (fun w hSw => run_cutr_l rfl rfl (l := f) rfl (by omega) (m := m - f) rfl) hS ?_
        try go_frame
        refine twoY (i := 7) (j := 11) (oi := ⟨some 57, _, _, _, _, _⟩) (oj := ⟨some 61, _, _, _, _, _⟩) (by kernel_rfl) rfl rfl (by rfl) (by rfl) (fun K hK => ?_) (fun K hK => ?_)
        · refine append_rI _ _ rfl W.heap.size (.slice none 0 0) 0 [] rfl (World.ownsRow_nil _ _ _ _) W.heap.size A f c (D.take f) rfl (by rw [List.length_take, ← HFL.out]; omega) HNN.out (rds_takeR (HRD.out.below b0)) (by omega) b0.size ?_
          intro v7 w7 own7 grow7
          rw [Nat.zero_add, List.nil_append] at own7
          have x7 := (Below.refl X0.heap.size X0).grown grow7 (Nat.le_refl _) (fun _ hk => by cases hk)
          have b7 := b0.trans (x7.mono b0.size)
          have hS : Below W.heap.size W w7 := b7
          refine hK _ _ (fun _ => hS) ?_
          clear hK K
          try go_frame
          refine oneY (i := 11) (oi := ⟨some 61, _, _, _, _, _⟩) (by kernel_rfl) rfl (by rfl) (fun K hK => ?_)
          refine valGI (run_bsR (cs := (clNu (f, x)).toArray) rfl rfl rfl) ?_
          have b11 := b7.alloc b7.size (.cells (clNu (f, x)).toArray 71)
          have one := rds_oneR w7 (f, x)
          have own := own7.alloc (.cells (clNu (f, x)).toArray 71)
          have hS := b11
          refine hK _ _ (fun _ => hS) ?_
          clear hK K
          generalize w7.alloc (.cells (clNu (f, x)).toArray 71) = w11 at *
          obtain ⟨vb, hvb⟩ : ∃ vb, vb = w7.heap.size := ⟨_, rfl⟩
          rw [← hvb] at one ⊢
          clear hvb
          try go_frame
          try go_frame
          refine oneY (i := 12) (oi := ⟨some 62, _, _, _, _, _⟩) (by kernel_rfl) rfl (by rfl) (fun K hK => ?_)
          refine append_rI _ _ rfl W.heap.size v7 f _ rfl own w11.heap.size (some ⟨vb, 0, none⟩) 1 1 [(f, x)] rfl rfl (fun e => by cases e) one (by omega) b11.size ?_
          intro v12 w12 own12 grow12
          have b12 := b11.grown grow12 b11.size (fun k hk => own_block_ge own k hk)
          have hS := b12
          refine hK _ _ (fun _ => hS) ?_
          clear hK K
          try go_frame
          try go_frame
          refine oneY (i := 19) (oi := ⟨some 69, _, _, _, _, _⟩) (by kernel_rfl) rfl (by rfl) (fun K hK => ?_)
          refine append_rI _ _ rfl W.heap.size v12 (f + 1) _ rfl own12 W.heap.size (cutRr A c f) (m - f) (c - f) (D.drop f) rfl (by rw [List.length_drop, ← HFL.out]) (cutRr_none HNN.out) (rds_cutRr (HRD.out.below b12) (by rw [← HFL.out]; exact hcap)) (by omega) b12.size ?_
          intro v19 w19 own19 grow19
          have b19 := b12.grown grow19 b12.size (fun k hk => own_block_ge own12 k hk)
          have hS := b19
          refine hK _ _ (fun _ => hS) ?_
          clear hK K
          try go_frame
          try go_frame
          refine oneY (i := 20) (oi := ⟨some 70, _, _, _, _, _⟩) (by kernel_rfl) rfl (by rfl) (fun K hK => ?_)
          refine valI (v := ?_) ?_ ?_
          rotate_left
          · go_simp; try with_reducible rfl
          refine hK _ _ (fun h => absurd h (by decide)) ?_
          clear hK K
          try go_frame
          refine oneY (i := 21) (oi := ⟨some 71, _, _, _, _, _⟩) (by kernel_rfl) rfl (by rfl) (fun K hK => ?_)
          refine valI (v := ?_) ?_ ?_
          rotate_left
          · go_simp; try with_reducible rfl
          refine hK _ _ (fun h => absurd h (by decide)) ?_
          clear hK K
          try go_frame
          refine oneY (i := 22) (oi := ⟨none, _, _, _, _, _⟩) (by kernel_rfl) rfl (by rfl) (fun K hK => ?_)
          have ht := (b19.block g hgz).trans HTB.out
          have k22 := cells_at (i := 0) ht rfl
          have f22 := heap_frozen ht 0
          have own20 : w19.ownsRow W.heap.size 71 6 v19 (insR D f x).length ((insR D f x).flatMap clNu) := by
            have e1 : (insR D f x).flatMap clNu = (D.take f).flatMap clNu ++ [(f, x)].flatMap clNu ++ (D.drop f).flatMap clNu := by unfold insR; rw [List.flatMap_append, List.flatMap_cons]; simp
            have e2 : (insR D f x).length = f + 1 + (m - f) := by unfold insR; rw [List.length_append, List.length_cons, List.length_take, List.length_drop, ← HFL.out]; omega
            rw [e1, e2]; exact own19
          obtain ⟨A2, c2, e2, _, _⟩ := own_rds own20 rfl rfl (fun x _ => clNu_len x)
          subst e2
          refine store_rI rfl rfl rfl k22 f22 ?_
          refine hK _ _ (fun h => absurd h (by decide)) ?_
          clear hK K
          try go_frame
          try go_frame
          refine doneY (by kernel_rfl) ?_ _
          go_wp2
          refine bodyPost_ret (results_tmp2 rfl _ _ _) rfl ⟨rfl, _, Rt.put ht own20 HZB.out.1 HZB.out.2 rfl, (HKW.out.then_below b19).trans (Kept.setCell w19 g 0 _) (fun _ _ e => e)⟩
        · refine valGI (run_bsR (cs := (clNu (f, x)).toArray) rfl rfl rfl) ?_
          have b11 := b0.alloc b0.size (.cells (clNu (f, x)).toArray 71)
          have one := rds_oneR X0 (f, x)
          have hS := b11
          refine hK _ _ (fun _ => hS) ?_
          clear hK K
          generalize X0.alloc (.cells (clNu (f, x)).toArray 71) = w11 at *
          obtain ⟨vb, hvb⟩ : ∃ vb, vb = X0.heap.size := ⟨_, rfl⟩
          rw [← hvb] at one ⊢
          clear hvb
          try go_frame
          refine oneY (i := 7) (oi := ⟨some 57, _, _, _, _, _⟩) (by kernel_rfl) rfl (by rfl) (fun K hK => ?_)
          refine append_rI _ _ rfl W.heap.size (.slice none 0 0) 0 [] rfl (World.ownsRow_nil _ _ _ _) W.heap.size A f c (D.take f) rfl (by rw [List.length_take, ← HFL.out]; omega) HNN.out (rds_takeR (HRD.out.below b11)) (by omega) b11.size ?_
          intro v7 w7 own7 grow7
          rw [Nat.zero_add, List.nil_append] at own7
          have x7 := (Below.refl w11.heap.size w11).grown grow7 (Nat.le_refl _) (fun _ hk => by cases hk)
          have b7 := b11.trans (x7.mono b11.size)
          have one7 := (one.below x7).more x7.size
          have hS : Below W.heap.size W w7 := b7
          refine hK _ _ (fun _ => hS) ?_
          clear hK K
          try go_frame
          try go_frame
          refine oneY (i := 12) (oi := ⟨some 62, _, _, _, _, _⟩) (by kernel_rfl) rfl (by rfl) (fun K hK => ?_)
          refine append_rI _ _ rfl W.heap.size v7 f _ rfl own7 w7.heap.size (some ⟨vb, 0, none⟩) 1 1 [(f, x)] rfl rfl (fun e => by cases e) one7 (by omega) b7.size ?_
          intro v12 w12 own12 grow12
          have b12 := b7.grown grow12 b7.size (fun k hk => own_block_ge own7 k hk)
          have hS := b12
          refine hK _ _ (fun _ => hS) ?_
          clear hK K
          try go_frame
          try go_frame
          refine oneY (i := 19) (oi := ⟨some 69, _, _, _, _, _⟩) (by kernel_rfl) rfl (by rfl) (fun K hK => ?_)
          refine append_rI _ _ rfl W.heap.size v12 (f + 1) _ rfl own12 W.heap.size (cutRr A c f) (m - f) (c - f) (D.drop f) rfl (by rw [List.length_drop, ← HFL.out]) (cutRr_none HNN.out) (rds_cutRr (HRD.out.below b12) (by rw [← HFL.out]; exact hcap)) (by omega) b12.size ?_
          intro v19 w19 own19 grow19
          have b19 := b12.grown grow19 b12.size (fun k hk => own_block_ge own12 k hk)
          have hS := b19
          refine hK _ _ (fun _ => hS) ?_
          clear hK K
          try go_frame
          try go_frame
          refine oneY (i := 20) (oi := ⟨some 70, _, _, _, _, _⟩) (by kernel_rfl) rfl (by rfl) (fun K hK => ?_)
          refine valI (v := ?_) ?_ ?_
          rotate_left
          · go_simp; try with_reducible rfl
          refine hK _ _ (fun h => absurd h (by decide)) ?_
          clear hK K
          try go_frame
          refine oneY (i := 21) (oi := ⟨some 71, _, _, _, _, _⟩) (by kernel_rfl) rfl (by rfl) (fun K hK => ?_)
          refine valI (v := ?_) ?_ ?_
          rotate_left
          · go_simp; try with_reducible rfl
          refine hK _ _ (fun h => absurd h (by decide)) ?_
          clear hK K
          try go_frame
          refine oneY (i := 22) (oi := ⟨none, _, _, _, _, _⟩) (by kernel_rfl) rfl (by rfl) (fun K hK => ?_)
          have ht := (b19.block g hgz).trans HTB.out
          have k22 := cells_at (i := 0) ht rfl
          have f22 := heap_frozen ht 0
          have own20 : w19.ownsRow W.heap.size 71 6 v19 (insR D f x).length ((insR D f x).flatMap clNu) := by
            have e1 : (insR D f x).flatMap clNu = (D.take f).flatMap clNu ++ [(f, x)].flatMap clNu ++ (D.drop f).flatMap clNu := by unfold insR; rw [List.flatMap_append, List.flatMap_cons]; simp
            have e2 : (insR D f x).length = f + 1 + (m - f) := by unfold insR; rw [List.length_append, List.length_cons, List.length_take, List.length_drop, ← HFL.out]; omega
            rw [e1, e2]; exact own19
          obtain ⟨A2, c2, e2, _, _⟩ := own_rds own20 rfl rfl (fun x _ => clNu_len x)
          subst e2
          refine store_rI rfl rfl rfl k22 f22 ?_
          refine hK _ _ (fun h => absurd h (by decide)) ?_
          clear hK K
          try go_frame
          try go_frame
          refine doneY (by kernel_rfl) ?_ _
          go_wp2
          refine bodyPost_ret (results_tmp2 rfl _ _ _) rfl ⟨rfl, _, Rt.put ht own20 HZB.out.1 HZB.out.2 rfl, (HKW.out.then_below b19).trans (Kept.setCell w19 g 0 _) (fun _ _ e => e)⟩
      · obtain rfl : m = f := by omega
        go_upto_region 9 with fail
        have HTB := Lib.hid hw.tab
        have HZB : Hid (B0 ≤ wr.heap.size ∧ B0 ≤ g) := Lib.hid ⟨Nat.le_trans hw.z (Nat.le_of_lt (heap_lt hw.tab)), hw.z⟩
        have hgz := heap_lt hw.tab
        have HKT : Hid (∀ V, Below wr.heap.size wr V → V.cell? ⟨g, 0, none⟩ = some (.slice A m c)) := Lib.hid fun V hV => cells_at (i := 0) ((hV.block g hgz).trans HTB.out) rfl
        have HRD : Hid (RdS clNu 6 wr wr.heap.size A D) := Lib.hid (by obtain ⟨A3, c3, e3, r3, _, _⟩ := hw.sh; injection e3 with e3; rw [e3]; exact r3)
        have HXR : Hid (∀ V, Below wr.heap.size wr V → V.rangeAt w.heap.size 0 (clSe x)) := Lib.hid fun V hV => HXB.out _ (hbel.trans (hV.mono hbel.size))
        have HKW : Hid (Kept (fun k => k = g) w wr) := Lib.hid ((Kept.of_below HBV.out).then_below hbel)
        clear hw kt hbel
        generalize wr = W at *
        refine regionY 20 (fun w' => Below W.heap.size W w') (by kernel_rfl) ?_
        have b0 : Below W.heap.size W W.drew := (Below.refl _ W).drew
        have hS : Below W.heap.size W W.drew := b0
        generalize W.drew = X0 at *
        refine pureY (i := 0) (oi := ⟨some 50, _, _, _, _, _⟩) rfl (by kernel_rfl) (by kernel_rfl) (by kernel_rfl) (by kernel_rfl) (by kernel_rfl) (fun _ _ _ h => h) (by rfl) (v := ?_) (fun w hSw => ?_) hS ?_
        rotate_left
        · go_simp; try with_reducible rfl
        try go_frame
        refine pureY (i := 1) (oi := ⟨some 51, _, _, _, _, _⟩) rfl (by kernel_rfl) (by kernel_rfl) (by kernel_rfl) (by kernel_rfl) (by kernel_rfl) (fun _ _ _ h => h) (by rfl) (v := ?_) (fun w hSw => ?_) hS ?_
        rotate_left
        · go_simp; try with_reducible rfl
        try go_frame
        refine pureY (i := 2) (oi := ⟨some 52, _, _, _, _, _⟩) rfl (by kernel_rfl) (by kernel_rfl) (by kernel_rfl) (by kernel_rfl) (by kernel_rfl) (fun _ _ _ h => h) (by rfl) (v := ?_) (fun w hSw => ?_) hS ?_
        rotate_left
        · go_simp; try with_reducible rfl
        try go_frame
        refine pureY (i := 3) (oi := ⟨some 53, _, _, _, _, _⟩) rfl (by kernel_rfl) (by kernel_rfl) (by kernel_rfl) (by kernel_rfl) (by kernel_rfl) (fun _ _ _ h => h) (by rfl) (v := ?_) (fun w hSw => ?_) hS ?_
        rotate_left
        · go_simp; try with_reducible rfl
        try go_frame
        refine pureY (i := 4) (oi := ⟨some 54, _, _, _, _, _⟩) rfl (by kernel_rfl) (by kernel_rfl) (by kernel_rfl) (by kernel_rfl) (by kernel_rfl) (fun _ _ _ h => h) (by rfl) (fun w hSw => run_load_rsl rfl rfl (HKT.out _ hSw)) hS ?_
        try go_frame
        refine pureY (i := 5) (oi := ⟨some 55, _, _, _, _, _⟩) rfl (by kernel_rfl) (by kernel_rfl) (by kernel_rfl) (by kernel_rfl) (by kernel_rfl) (fun _ _ _ h => h) (by rfl) (v := ?_) (fun w hSw => ?_) hS ?_
        rotate_left
        · go_simp; try with_reducible rfl
        try go_frame
        refine pureY (i := 6) (oi := ⟨some 56, _, _, _, _, _⟩) rfl (by kernel_rfl) (by kernel_rfl) (by kernel_rfl) (by kernel_rfl) (by kernel_rfl) (fun _ _ _ h => h) (by rfl) (fun w hSw => run_cutr_h (h := (m : Int)) rfl rfl rfl (by omega) (by omega) (m := m) (by omega)) hS ?_
        try go_frame
        refine pureY (i := 8) (oi := ⟨some 58, _, _, _, _, _⟩) rfl (by kernel_rfl) (by kernel_rfl) (by kernel_rfl) (by kernel_rfl) (by kernel_rfl) (fun _ _ _ h => h) (by rfl) (v := ?_) (fun w hSw => ?_) hS ?_
        rotate_left
        · go_simp; try with_reducible rfl
        try go_frame
        refine pureY (i := 9) (oi := ⟨some 59, _, _, _, _, _⟩) rfl (by kernel_rfl) (by kernel_rfl) (by kernel_rfl) (by kernel_rfl) (by kernel_rfl) (fun _ _ _ h => h) (by rfl) (fun w hSw => run_load_seR (x := x) rfl rfl (HXR.out _ hSw)) hS ?_
        try go_frame
        refine pureY (i := 10) (oi := ⟨some 60, _, _, _, _, _⟩) rfl (by kernel_rfl) (by kernel_rfl) (by kernel_rfl) (by kernel_rfl) (by kernel_rfl) (fun _ _ _ h => h) (by rfl) (v := ?_) (fun w hSw => ?_) hS ?_
        rotate_left
        · go_simp; try with_reducible rfl
        try go_frame
        refine pureY (i := 13) (oi := ⟨some 63, _, _, _, _, _⟩) rfl (by kernel_rfl) (by kernel_rfl) (by kernel_rfl) (by kernel_rfl) (by kernel_rfl) (fun _ _ _ h => h) (by rfl) (v := ?_) (fun w hSw => ?_) hS ?_
        rotate_left
        · go_simp; try with_reducible rfl
        try go_frame
        refine pureY (i := 14) (oi := ⟨some 64, _, _, _, _, _⟩) rfl (by kernel_rfl) (by kernel_rfl) (by kernel_rfl) (by kernel_rfl) (by kernel_rfl) (fun _ _ _ h => h) (by rfl) (v := ?_) (fun w hSw => ?_) hS ?_
        rotate_left
        · go_simp; try with_reducible rfl
        try go_frame
        refine pureY (i := 15) (oi := ⟨some 65, _, _, _, _, _⟩) rfl (by kernel_rfl) (by kernel_rfl) (by kernel_rfl) (by kernel_rfl) (by kernel_rfl) (fun _ _ _ h => h) (by rfl) (v := ?_) (fun w hSw => ?_) hS ?_
        rotate_left
        · go_simp; try with_reducible rfl
        try go_frame
        refine pureY (i := 16) (oi := ⟨some 66, _, _, _, _, _⟩) rfl (by kernel_rfl) (by kernel_rfl) (by kernel_rfl) (by kernel_rfl) (by kernel_rfl) (fun _ _ _ h => h) (by rfl) (fun w hSw => run_load_rsl rfl rfl (HKT.out _ hSw)) hS ?_
        try go_frame
        refine pureY (i := 17) (oi := ⟨some 67, _, _, _, _, _⟩) rfl (by kernel_rfl) (by kernel_rfl) (by kernel_rfl) (by kernel_rfl) (by kernel_rfl) (fun _ _ _ h => h) (by rfl) (v := ?_) (fun w hSw => ?_) hS ?_
        rotate_left
        · go_simp; try with_reducible rfl
        try go_frame
        refine pureY (i := 18) (oi := ⟨some 68, _, _, _, _, _⟩) rfl (by kernel_rfl) (by kernel_rfl) (by kernel_rfl) (by kernel_rfl) (by kernel_rfl) (fun _ _ _ h => h) (by rfl) (fun w hSw => run_cutr_l rfl rfl (l := m) rfl (by omega) (m := m - m) rfl) hS ?_
        try go_frame
        refine twoY (i := 7) (j := 11) (oi := ⟨some 57, _, _, _, _, _⟩) (oj := ⟨some 61, _, _, _, _, _⟩) (by kernel_rfl) rfl rfl (by rfl) (by rfl) (fun K hK => ?_) (fun K hK => ?_)
        · refine append_rI _ _ rfl W.heap.size (.slice none 0 0) 0 [] rfl (World.ownsRow_nil _ _ _ _) W.heap.size A m c (D.take m) rfl (by rw [List.length_take, ← HFL.out]; omega) HNN.out (rds_takeR (HRD.out.below b0)) (by omega) b0.size ?_
          intro v7 w7 own7 grow7
          rw [Nat.zero_add, List.nil_append] at own7
          have x7 := (Below.refl X0.heap.size X0).grown grow7 (Nat.le_refl _) (fun _ hk => by cases hk)
          have b7 := b0.trans (x7.mono b0.size)
          have hS : Below W.heap.size W w7 := b7
          refine hK _ _ (fun _ => hS) ?_
          clear hK K
          try go_frame
          refine oneY (i := 11) (oi := ⟨some 61, _, _, _, _, _⟩) (by kernel_rfl) rfl (by rfl) (fun K hK => ?_)
          refine valGI (run_bsR (cs := (clNu (m, x)).toArray) rfl rfl rfl) ?_
          have b11 := b7.alloc b7.size (.cells (clNu (m, x)).toArray 71)
          have one := rds_oneR w7 (m, x)
          have own := own7.alloc (.cells (clNu (m, x)).toArray 71)
          have hS := b11
          refine hK _ _ (fun _ => hS) ?_
          clear hK K
          generalize w7.alloc (.cells (clNu (m, x)).toArray 71) = w11 at *
          obtain ⟨vb, hvb⟩ : ∃ vb, vb = w7.heap.size := ⟨_, rfl⟩
          rw [← hvb] at one ⊢
          clear hvb
          try go_frame
          try go_frame
          refine oneY (i := 12) (oi := ⟨some 62, _, _, _, _, _⟩) (by kernel_rfl) rfl (by rfl) (fun K hK => ?_)
          refine append_rI _ _ rfl W.heap.size v7 m _ rfl own w11.heap.size (some ⟨vb, 0, none⟩) 1 1 [(m, x)] rfl rfl (fun e => by cases e) one (by omega) b11.size ?_
          intro v12 w12 own12 grow12
          have b12 := b11.grown grow12 b11.size (fun k hk => own_block_ge own k hk)
          have hS := b12
          refine hK _ _ (fun _ => hS) ?_
          clear hK K
          try go_frame
          try go_frame
          refine oneY (i := 19) (oi := ⟨some 69, _, _, _, _, _⟩) (by kernel_rfl) rfl (by rfl) (fun K hK => ?_)
          refine append_rI _ _ rfl W.heap.size v12 (m + 1) _ rfl own12 W.heap.size (cutRr A c m) (m - m) (c - m) (D.drop m) rfl (by rw [List.length_drop, ← HFL.out]) (cutRr_none HNN.out) (rds_cutRr (HRD.out.below b12) (by rw [← HFL.out]; exact hcap)) (by omega) b12.size ?_
          intro v19 w19 own19 grow19
          have b19 := b12.grown grow19 b12.size (fun k hk => own_block_ge own12 k hk)
          have hS := b19
          refine hK _ _ (fun _ => hS) ?_
          clear hK K
          try go_frame
          try go_frame
          refine oneY (i := 20) (oi := ⟨some 70, _, _, _, _, _⟩) (by kernel_rfl) rfl (by rfl) (fun K hK => ?_)
          refine valI (v := ?_) ?_ ?_
          rotate_left
          · go_simp; try with_reducible rfl
          refine hK _ _ (fun h => absurd h (by decide)) ?_
          clear hK K
          try go_frame
          refine oneY (i := 21) (oi := ⟨some 71, _, _, _, _, _⟩) (by kernel_rfl) rfl (by rfl) (fun K hK => ?_)
          refine valI (v := ?_) ?_ ?_
          rotate_left
          · go_simp; try with_reducible rfl
          refine hK _ _ (fun h => absurd h (by decide)) ?_
          clear hK K
          try go_frame
          refine oneY (i := 22) (oi := ⟨none, _, _, _, _, _⟩) (by kernel_rfl) rfl (by rfl) (fun K hK => ?_)
          have ht := (b19.block g hgz).trans HTB.out
          have k22 := cells_at (i := 0) ht rfl
          have f22 := heap_frozen ht 0
          have own20 : w19.ownsRow W.heap.size 71 6 v19 (insR D m x).length ((insR D m x).flatMap clNu) := by
            have e1 : (insR D m x).flatMap clNu = (D.take m).flatMap clNu ++ [(m, x)].flatMap clNu ++ (D.drop m).flatMap clNu := by unfold insR; rw [List.flatMap_append, List.flatMap_cons]; simp
            have e2 : (insR D m x).length = m + 1 + (m - m) := by unfold insR; rw [List.length_append, List.length_cons, List.length_take, List.length_drop, ← HFL.out]; omega
            rw [e1, e2]; exact own19
          obtain ⟨A2, c2, e2, _, _⟩ := own_rds own20 rfl rfl (fun x _ => clNu_len x)
          subst e2
          refine store_rI rfl rfl rfl k22 f22 ?_
          refine hK _ _ (fun h => absurd h (by decide)) ?_
          clear hK K
          try go_frame
          try go_frame
          refine doneY (by kernel_rfl) ?_ _
          go_wp2
          refine bodyPost_ret (results_tmp2 rfl _ _ _) rfl ⟨rfl, _, Rt.put ht own20 HZB.out.1 HZB.out.2 rfl, (HKW.out.then_below b19).trans (Kept.setCell w19 g 0 _) (fun _ _ e => e)⟩
        · refine valGI (run_bsR (cs := (clNu (m, x)).toArray) rfl rfl rfl) ?_
          have b11 := b0.alloc b0.size (.cells (clNu (m, x)).toArray 71)
          have one := rds_oneR X0 (m, x)
          have hS := b11
          refine hK _ _ (fun _ => hS) ?_
          clear hK K
          generalize X0.alloc (.cells (clNu (m, x)).toArray 71) = w11 at *
          obtain ⟨vb, hvb⟩ : ∃ vb, vb = X0.heap.size := ⟨_, rfl⟩
          rw [← hvb] at one ⊢
          clear hvb
          try go_frame
          refine oneY (i := 7) (oi := ⟨some 57, _, _, _, _, _⟩) (by kernel_rfl) rfl (by rfl) (fun K hK => ?_)
          refine append_rI _ _ rfl W.heap.size (.slice none 0 0) 0 [] rfl (World.ownsRow_nil _ _ _ _) W.heap.size A m c (D.take m) rfl (by rw [List.length_take, ← HFL.out]; omega) HNN.out (rds_takeR (HRD.out.below b11)) (by omega) b11.size ?_
          intro v7 w7 own7 grow7
          rw [Nat.zero_add, List.nil_append] at own7
          have x7 := (Below.refl w11.heap.size w11).grown grow7 (Nat.le_refl _) (fun _ hk => by cases hk)
          have b7 := b11.trans (x7.mono b11.size)
          have one7 := (one.below x7).more x7.size
          have hS : Below W.heap.size W w7 := b7
          refine hK _ _ (fun _ => hS) ?_
          clear hK K
          try go_frame
          try go_frame
          refine oneY (i := 12) (oi := ⟨some 62, _, _, _, _, _⟩) (by kernel_rfl) rfl (by rfl) (fun K hK => ?_)
          refine append_rI _ _ rfl W.heap.size v7 m _ rfl own7 w7.heap.size (some ⟨vb, 0, none⟩) 1 1 [(m, x)] rfl rfl (fun e => by cases e) one7 (by omega) b7.size ?_
          intro v12 w12 own12 grow12
          have b12 := b7.grown grow12 b7.size (fun k hk => own_block_ge own7 k hk)
          have hS := b12
          refine hK _ _ (fun _ => hS) ?_
          clear hK K
          try go_frame
          try go_frame
          refine oneY (i := 19) (oi := ⟨some 69, _, _, _, _, _⟩) (by kernel_rfl) rfl (by rfl) (fun K hK => ?_)
          refine append_rI _ _ rfl W.heap.size v12 (m + 1) _ rfl own12 W.heap.size (cutRr A c m) (m - m) (c - m) (D.drop m) rfl (by rw [List.length_drop, ← HFL.out]) (cutRr_none HNN.out) (rds_cutRr (HRD.out.below b12) (by rw [← HFL.out]; exact hcap)) (by omega) b12.size ?_
          intro v19 w19 own19 grow19
          have b19 := b12.grown grow19 b12.size (fun k hk => own_block_ge own12 k hk)
          have hS := b19
          refine hK _ _ (fun _ => hS) ?_
          clear hK K
          try go_frame
          try go_frame
          refine oneY (i := 20) (oi := ⟨some 70, _, _, _, _, _⟩) (by kernel_rfl) rfl (by rfl) (fun K hK => ?_)
          refine valI (v := ?_) ?_ ?_
          rotate_left
          · go_simp; try with_reducible rfl
          refine hK _ _ (fun h => absurd h (by decide)) ?_
          clear hK K
          try go_frame
          refine oneY (i := 21) (oi := ⟨some 71, _, _, _, _, _⟩) (by kernel_rfl) rfl (by rfl) (fun K hK => ?_)
          refine valI (v := ?_) ?_ ?_
          rotate_left
          · go_simp; try with_reducible rfl
          refine hK _ _ (fun h => absurd h (by decide)) ?_
          clear hK K
          try go_frame
          refine oneY (i := 22) (oi := ⟨none, _, _, _, _, _⟩) (by kernel_rfl) rfl (by rfl) (fun K hK => ?_)
          have ht := (b19.block g hgz).trans HTB.out
          have k22 := cells_at (i := 0) ht rfl
          have f22 := heap_frozen ht 0
          have own20 : w19.ownsRow W.heap.size 71 6 v19 (insR D m x).length ((insR D m x).flatMap clNu) := by
            have e1 : (insR D m x).flatMap clNu = (D.take m).flatMap clNu ++ [(m, x)].flatMap clNu ++ (D.drop m).flatMap clNu := by unfold insR; rw [List.flatMap_append, List.flatMap_cons]; simp
            have e2 : (insR D m x).length = m + 1 + (m - m) := by unfold insR; rw [List.length_append, List.length_cons, List.length_take, List.length_drop, ← HFL.out]; omega
            rw [e1, e2]; exact own19
          obtain ⟨A2, c2, e2, _, _⟩ := own_rds own20 rfl rfl (fun x _ => clNu_len x)
          subst e2
          refine store_rI rfl rfl rfl k22 f22 ?_
          refine hK _ _ (fun h => absurd h (by decide)) ?_
          clear hK K
          try go_frame
          try go_frame
          refine doneY (by kernel_rfl) ?_ _
          go_wp2
          refine bodyPost_ret (results_tmp2 rfl _ _ _) rfl ⟨rfl, _, Rt.put ht own20 HZB.out.1 HZB.out.2 rfl, (HKW.out.then_below b19).trans (Kept.setCell w19 g 0 _) (fun _ _ e => e)⟩
end
end Go.Proofs.YtghbliabmecbcaaDoor

/-
  The document's sessions of layer 24: Set. Conditions are each theorem's own.
-/
namespace Go.Proofs.YtghbliabmecbcaaDoor
open Go.RowKit Go.Shelf
theorem splL_partN {L : List Value} {o k : Nat} {x : Sd} {t u : Int} (h : ∀ j v, (clNu (k, x))[j]? = some v → L[o + j]? = some v) : splL L (o + 2) [.int .i64 t, .int .i64 u] = splL L o (clNu (k, x.set t u)) := by
  have hl : o + 6 ≤ L.length := by
    have := h 5 _ rfl
    have := (List.getElem?_eq_some_iff.1 this).1
    omega
  apply List.ext_getElem?
  intro j
  rw [splL_get _ _ _ _ (by simp; omega), splL_get _ _ _ _ (by rw [clNu_len]; omega), clNu_len]
  have e2 : ([Value.int .i64 t, .int .i64 u] : List Value).length = 2 := rfl
  rw [e2]
  by_cases h1 : o ≤ j ∧ j < o + 6
  · rw [if_pos h1]
    obtain ⟨i, rfl⟩ : ∃ i, j = o + i := ⟨j - o, by omega⟩
    have hi : i < 6 := by omega
    rw [show o + i - o = i by omega]
    have h6 : i = 0 ∨ i = 1 ∨ i = 2 ∨ i = 3 ∨ i = 4 ∨ i = 5 := by omega
    rcases h6 with rfl | rfl | rfl | rfl | rfl | rfl
    · rw [if_neg (by omega)]; exact h 0 _ rfl
    · rw [if_neg (by omega)]; exact h 1 _ rfl
    · rw [if_pos (by omega), show o + 2 - (o + 2) = 0 by omega]; rfl
    · rw [if_pos (by omega), show o + 3 - (o + 2) = 1 by omega]; rfl
    · rw [if_neg (by omega)]; exact h 4 _ rfl
    · rw [if_neg (by omega)]; exact h 5 _ rfl
  · rw [if_neg h1, if_neg (by omega)]
section
variable {w w' : World} {B0 g : Nat} {v : Value} {most : Int} {D : List (Nat × Sd)}
set_option maxRecDepth 100000 in
set_option maxHeartbeats 1000000 in
theorem r24set_no (h : Rt w B0 g v most D) (hD : D.length ≤ 1000) (i st un : Int) (hno : ∀ e ∈ D, (e.1 : Int) ≠ i) : Calls Tryd.prog 12 #[.pointer (some ⟨g, 0, none⟩), .int .i64 i, .int .i64 st, .int .i64 un] w fun e w' => e = .returned (.bool false) ∧ w = w' := by
  obtain ⟨A, c, rfl, hrd, hcap, _⟩ := h.sh
  obtain ⟨n, hne⟩ : ∃ n, n = D.length := ⟨_, rfl⟩
  have HSL := Lib.hid hne
  rw [← hne] at h hD hcap
  have H := Lib.hid h
  have HNO := Lib.hid hno
  clear h hne hrd hno
  go_enter Tryd.func12, Tryd.ntmps12
  go_wp2
  go_loopw [9] (fun z wr => ∃ q : Nat, q ≤ n ∧ z = .int .i64 (q : Int) ∧ w = wr) (fun z _ => n - (intOf z).toNat)
  case atStart => exact ⟨0, Nat.zero_le _, rfl, rfl⟩
  case round =>
    obtain ⟨q, hq, rfl, rfl⟩ := hrel
    have kt : w.cell? ⟨g, 0, none⟩ = some (.slice A n c) := cells_at (i := 0) H.out.tab rfl
    by_cases hqn : q < n
    · obtain ⟨y, hy⟩ : ∃ y, D[q]? = some y := ⟨_, List.getElem?_eq_getElem (by rw [← HSL.out]; exact hqn)⟩
      obtain ⟨b, rfl, hb, hr⟩ := H.out.at_ hy
      have kx0 : w.cell? ⟨b, q * 6, none⟩ = some (.int .i64 (y.1 : Int)) := by simpa using hr 0 _ rfl
      have dk : ((y.1 : Int) == i) = false := by simp [HNO.out y (List.mem_of_getElem? hy)]
      clear hr hy
      go_wp2
      go_roundw
      case rel => exact ⟨q + 1, by omega, by simp, by first | rfl | trivial⟩
      case measure => simp [intOf]; omega
    · obtain rfl : n = q := by omega
      go_wp2
      refine bodyPost_ret (results_tmp rfl _ _ _) rfl ⟨rfl, rfl⟩
set_option maxRecDepth 100000 in
set_option maxHeartbeats 1000000 in
theorem r24set_yes (h : Rt w B0 g v most D) (hD : D.length ≤ 1000) {j k : Nat} {x : Sd} (hj : D[j]? = some (k, x)) (hfi : ∀ q e, q < j → D[q]? = some e → e.1 ≠ k) (st un : Int) : Calls Tryd.prog 12 #[.pointer (some ⟨g, 0, none⟩), .int .i64 (k : Int), .int .i64 st, .int .i64 un] w fun e w' =>
    e = .returned (.bool true) ∧ (∃ v', Rt w' B0 g v' most (D.set j (k, x.set st un))) ∧ ∃ gs, B0 ≤ gs ∧ (∃ cur, w.heap[gs]? = some (.cells cur 71 (0, 0))) ∧ Kept (fun i => i = gs) w w' := by
  obtain ⟨A, c, rfl, hrd, hcap, _⟩ := h.sh
  obtain ⟨gs, hA, hgs, hro⟩ := h.at_ hj
  subst hA
  have hjl := (List.getElem?_eq_some_iff.1 hj).1
  obtain ⟨cur, hcur, hbs⟩ : ∃ cur, w.heap[gs]? = some (.cells cur 71 (0, 0)) ∧ B0 ≤ gs := by
    rcases h.own.2 with ⟨hv, _⟩ | ⟨g', cap, cur, hv, hb, hh, _⟩
    · cases hv
    · injection hv with e1
      injection e1 with e1
      injection e1 with e1
      rw [e1]
      exact ⟨cur, hh, hb⟩
  have hdg : g ≠ gs := heap_ty h.tab hcur (fun e => neR e.symm)
  obtain ⟨n, hne⟩ : ∃ n, n = D.length := ⟨_, rfl⟩
  have HSL := Lib.hid hne
  have hjn : j < n := by rw [hne]; exact hjl
  rw [← hne] at h hD hcap
  have H := Lib.hid h
  have HJL := Lib.hid hjl
  have HFI := Lib.hid hfi
  have HCU := Lib.hid hcur
  have HJ := Lib.hid hj
  have HRC : Hid (∀ i v, (clNu (k, x))[i]? = some v → cur.toList[j * 6 + i]? = some v) := Lib.hid (fun i v hi => by
    have h9 := hro i v hi
    rw [cell_of_row _ _ _ _ _ _ hcur] at h9
    simpa using h9)
  have HS0 : Hid (∀ U, Kept (fun k => k = gs) w U → U.cell? ⟨g, 0, none⟩ = some (.slice (some ⟨gs, 0, none⟩) n c)) := Lib.hid (fun U hU => (World.cell?_of_block (hU.block g (heap_lt h.tab) hdg)).trans (cells_at (i := 0) h.tab rfl))
  have hW1 := heap_setCell_same w.drew gs (j * 6 + 2) cur _ (.int .i64 st) hcur
  have HC1 : Hid (w.drew.cell? ⟨gs, j * 6 + 2, none⟩ = some (.int .i64 x.t)) := Lib.hid (hro 2 _ rfl)
  have HC2 : Hid ((w.drew.setCell ⟨gs, j * 6 + 2, none⟩ (.int .i64 st)).cell? ⟨gs, j * 6 + 3, none⟩ = some (.int .i64 x.u)) := Lib.hid (by
    rw [cell_of_row _ _ _ _ _ _ hW1]
    have h9 := HRC.out 3 (.int .i64 x.u) rfl
    rw [Array.getElem?_setIfInBounds_ne (by omega)]
    simpa using h9)
  have HC3 : Hid ((w.drew.setCell ⟨gs, j * 6 + 2, none⟩ (.int .i64 st)).frozen? ⟨gs, j * 6 + 3, none⟩ = false) := Lib.hid (heap_frozen hW1 _)
  have HW2 : Hid (((w.drew.setCell ⟨gs, j * 6 + 2, none⟩ (.int .i64 st)).setCell ⟨gs, j * 6 + 3, none⟩ (.int .i64 un)).heap[gs]? = some (.cells (splL cur.toList (j * 6) (clNu (k, x.set st un))).toArray 71 (0, 0))) := Lib.hid (by
    have h9 := heap_setCellsL gs [.int .i64 st, .int .i64 un] (j * 6 + 2) w.drew cur hcur
    rw [splL_partN HRC.out] at h9
    exact h9)
  clear h hne hrd hro hj hfi hcur hW1 hjl
  go_enter Tryd.func12, Tryd.ntmps12
  go_wp2
  go_loopw [9] (fun z wr => ∃ q : Nat, q ≤ j ∧ z = .int .i64 (q : Int) ∧ w = wr) (fun z _ => j - (intOf z).toNat)
  case atStart => exact ⟨0, Nat.zero_le _, rfl, rfl⟩
  case round =>
    obtain ⟨q, hq, rfl, rfl⟩ := hrel
    have kt : w.cell? ⟨g, 0, none⟩ = some (.slice (some ⟨gs, 0, none⟩) n c) := cells_at (i := 0) H.out.tab rfl
    by_cases hqj : q < j
    · obtain ⟨y, hy⟩ : ∃ y, D[q]? = some y := ⟨_, List.getElem?_eq_getElem (by rw [← HSL.out]; omega)⟩
      obtain ⟨b, hb1, hb, hr⟩ := H.out.at_ hy
      injection hb1 with hb1
      injection hb1 with hb1
      subst hb1
      have kx0 : w.cell? ⟨gs, q * 6, none⟩ = some (.int .i64 (y.1 : Int)) := by simpa using hr 0 _ rfl
      have dk : ((y.1 : Int) == (k : Int)) = false := by have := HFI.out q y hqj hy; simp; omega
      have hqn : q < n := by omega
      clear hr hy
      go_wp2
      go_roundw
      case rel => exact ⟨q + 1, by omega, by simp, by first | rfl | trivial⟩
      case measure => simp [intOf]; omega
    · obtain rfl : j = q := by omega
      obtain ⟨b, hb1, hb, hr⟩ := H.out.at_ HJ.out
      injection hb1 with hb1
      injection hb1 with hb1
      subst hb1
      have kx0 : w.cell? ⟨gs, j * 6, none⟩ = some (.int .i64 (k : Int)) := by simpa using hr 0 _ rfl
      clear hr
      go_upto_region 5 with fail
      clear kt kx0
      refine wp_region_held_drew (S := fun w' => Kept (fun k => k = gs) w w') (by kernel_rfl) (Kept.drew w) (fun hS => ?_)
      refine held_pure (i := 0) (oi := ⟨some 29, _, _, _, _, _⟩) rfl (by kernel_rfl) (by kernel_rfl) (by kernel_rfl) (fun _ _ _ h => h) (by rfl) (v := ?_) (fun w hSw => ?_) hS (fun hS => ?_)
      rotate_left
      · go_simp; try with_reducible rfl
      try go_frame
      refine held_pure (i := 1) (oi := ⟨some 30, _, _, _, _, _⟩) rfl (by kernel_rfl) (by kernel_rfl) (by kernel_rfl) (fun _ _ _ h => h) (by rfl) (v := ?_) (fun w hSw => ?_) hS (fun hS => ?_)
      rotate_left
      · go_simp; try with_reducible rfl
      try go_frame
      refine held_pure (i := 2) (oi := ⟨some 31, _, _, _, _, _⟩) rfl (by kernel_rfl) (by kernel_rfl) (by kernel_rfl) (fun _ _ _ h => h) (by rfl) (v := ?_) (fun w hSw => ?_) hS (fun hS => ?_)
      rotate_left
      · go_simp; try with_reducible rfl
      try go_frame
      refine held_pure (i := 3) (oi := ⟨some 32, _, _, _, _, _⟩) rfl (by kernel_rfl) (by kernel_rfl) (by kernel_rfl) (fun _ _ _ h => h) (by rfl) (fun w hSw => run_load_rsl rfl rfl (HS0.out _ hSw)) hS (fun hS => ?_)
      try go_frame
      refine held_pure (i := 4) (oi := ⟨some 33, _, _, _, _, _⟩) rfl (by kernel_rfl) (by kernel_rfl) (by kernel_rfl) (fun _ _ _ h => h) (by rfl) (v := ?_) (fun w hSw => ?_) hS (fun hS => ?_)
      rotate_left
      · go_simp; try with_reducible rfl
      try go_frame
      refine held_pure (i := 5) (oi := ⟨some 34, _, _, _, _, _⟩) rfl (by kernel_rfl) (by kernel_rfl) (by kernel_rfl) (fun _ _ _ h => h) (by rfl) (v := ?_) (fun w hSw => ?_) hS (fun hS => ?_)
      rotate_left
      · go_simp; try with_reducible rfl
      try go_frame
      refine held_pure (i := 6) (oi := ⟨some 35, _, _, _, _, _⟩) rfl (by kernel_rfl) (by kernel_rfl) (by kernel_rfl) (fun _ _ _ h => h) (by rfl) (v := ?_) (fun w hSw => ?_) hS (fun hS => ?_)
      rotate_left
      · go_simp; try with_reducible rfl
      try go_frame
      refine held_pure (i := 7) (oi := ⟨some 36, _, _, _, _, _⟩) rfl (by kernel_rfl) (by kernel_rfl) (by kernel_rfl) (fun _ _ _ h => h) (by rfl) (v := ?_) (fun w hSw => ?_) hS (fun hS => ?_)
      rotate_left
      · go_simp; try with_reducible rfl
      try go_frame
      refine held_pure (i := 8) (oi := ⟨some 37, _, _, _, _, _⟩) rfl (by kernel_rfl) (by kernel_rfl) (by kernel_rfl) (fun _ _ _ h => h) (by rfl) (fun w hSw => run_load_rsl rfl rfl (HS0.out _ hSw)) hS (fun hS => ?_)
      try go_frame
      refine held_pure (i := 9) (oi := ⟨some 38, _, _, _, _, _⟩) rfl (by kernel_rfl) (by kernel_rfl) (by kernel_rfl) (fun _ _ _ h => h) (by rfl) (v := ?_) (fun w hSw => ?_) hS (fun hS => ?_)
      rotate_left
      · go_simp; try with_reducible rfl
      try go_frame
      refine held_pure (i := 10) (oi := ⟨some 39, _, _, _, _, _⟩) rfl (by kernel_rfl) (by kernel_rfl) (by kernel_rfl) (fun _ _ _ h => h) (by rfl) (v := ?_) (fun w hSw => ?_) hS (fun hS => ?_)
      rotate_left
      · go_simp; try with_reducible rfl
      try go_frame
      refine held_pure (i := 11) (oi := ⟨some 40, _, _, _, _, _⟩) rfl (by kernel_rfl) (by kernel_rfl) (by kernel_rfl) (fun _ _ _ h => h) (by rfl) (v := ?_) (fun w hSw => ?_) hS (fun hS => ?_)
      rotate_left
      · go_simp; try with_reducible rfl
      try go_frame
      refine held_pure (i := 12) (oi := ⟨some 41, _, _, _, _, _⟩) rfl (by kernel_rfl) (by kernel_rfl) (by kernel_rfl) (fun _ _ _ h => h) (by rfl) (v := .pointer (some ⟨gs, j * 6, none⟩)) (fun w hSw => by go_simp; try exact fun h => absurd h (by omega)) hS (fun hS => ?_)
      try go_frame
      refine held_pure (i := 13) (oi := ⟨some 42, _, _, _, _, _⟩) rfl (by kernel_rfl) (by kernel_rfl) (by kernel_rfl) (fun _ _ _ h => h) (by rfl) (v := ?_) (fun w hSw => ?_) hS (fun hS => ?_)
      rotate_left
      · go_simp; try with_reducible rfl
      try go_frame
      refine held_pure (i := 14) (oi := ⟨some 43, _, _, _, _, _⟩) rfl (by kernel_rfl) (by kernel_rfl) (by kernel_rfl) (fun _ _ _ h => h) (by rfl) (v := ?_) (fun w hSw => ?_) hS (fun hS => ?_)
      rotate_left
      · go_simp; try with_reducible rfl
      try go_frame
      refine wpAnyH_ready (rs := [15]) (by kernel_rfl) (by simp) (AllReadyH.cons (o := ⟨none, _, _, _, _, _⟩) rfl (fun K hK => ?_) AllReadyH.nil)
      rw [if_pos (by rfl)]
      refine store_int_wp rfl rfl rfl HC1.out (heap_frozen (W := w.drew) HCU.out _) ?_
      refine hK.out _ _ ((Kept.drew w).trans (Kept.setCell w.drew gs (j * 6 + 2) _) (fun _ _ e => e)) (fun hS => ?_)
      clear hK K
      try go_frame
      refine held_pure (i := 16) (oi := ⟨some 44, _, _, _, _, _⟩) rfl (by kernel_rfl) (by kernel_rfl) (by kernel_rfl) (fun _ _ _ h => h) (by rfl) (v := .pointer (some ⟨gs, j * 6, none⟩)) (fun w hSw => by go_simp; try exact fun h => absurd h (by omega)) hS (fun hS => ?_)
      try go_frame
      refine held_pure (i := 17) (oi := ⟨some 45, _, _, _, _, _⟩) rfl (by kernel_rfl) (by kernel_rfl) (by kernel_rfl) (fun _ _ _ h => h) (by rfl) (v := ?_) (fun w hSw => ?_) hS (fun hS => ?_)
      rotate_left
      · go_simp; try with_reducible rfl
      try go_frame
      refine held_pure (i := 18) (oi := ⟨some 46, _, _, _, _, _⟩) rfl (by kernel_rfl) (by kernel_rfl) (by kernel_rfl) (fun _ _ _ h => h) (by rfl) (v := ?_) (fun w hSw => ?_) hS (fun hS => ?_)
      rotate_left
      · go_simp; try with_reducible rfl
      try go_frame
      refine wpAnyH_ready (rs := [19]) (by kernel_rfl) (by simp) (AllReadyH.cons (o := ⟨none, _, _, _, _, _⟩) rfl (fun K hK => ?_) AllReadyH.nil)
      rw [if_pos (by rfl)]
      refine store_int_wp rfl rfl rfl HC2.out HC3.out ?_
      refine hK.out _ _ (hS.trans (Kept.setCell _ gs (j * 6 + 3) _) (fun _ _ e => e)) (fun hS => ?_)
      clear hK K
      try go_frame
      refine wpAnyH_done (by kernel_rfl) ?_ _
      go_wp2_with fail
      refine bodyPost_ret (results_tmp rfl _ _ _) rfl ⟨rfl, ⟨.slice (some ⟨gs, 0, none⟩) n c, (hS.block g (heap_lt H.out.tab) hdg).trans H.out.tab, ?_, H.out.z⟩, gs, hbs, ⟨cur, HCU.out⟩, hS⟩
      rw [List.length_set, ← HSL.out]
      have := H.out.own
      rw [← HSL.out] at this
      exact own_setW clNu_len (by decide) this HSL.out HJL.out _ HCU.out HW2.out
end
end Go.Proofs.YtghbliabmecbcaaDoor
