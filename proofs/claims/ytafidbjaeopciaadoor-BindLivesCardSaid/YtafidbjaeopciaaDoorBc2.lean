/-
  Contracts and lemmas on which the proofs of this seat stand (several texts in one). Conditions are each theorem's own.
-/
import Derived.Test.YtafidbjaeopciaaDoorBc1
import Derived.Test.YtafidbjaeopciaaDoorBb7
import Derived.Test.YtafidbjaeopciaaDoorBb11

/-
  The document's bindings of layer 22: Add. Conditions are each theorem's own.
-/
namespace Go.Proofs.YtafidbjaeopciaaDoor
open Go.RowKit Go.Shelf
def insR (D : List (Nat × Bd)) (k : Nat) (x : Bd) : List (Nat × Bd) := D.take k ++ (k, x) :: D.drop k
def cutRr (A : Option Addr) (c k : Nat) : Option Addr := if c = k then A else A.map (·.add (k * 9))
theorem cutRr_none {A : Option Addr} {c k : Nat} (h : A = none → c = 0) : cutRr A c k = none → c - k = 0 := fun e => by
  unfold cutRr at e
  split at e
  · omega
  · cases A with
    | none => have := h rfl; omega
    | some a => cases e
theorem rds_takeR {w : World} {B k : Nat} {A : Option Addr} {l : List (Nat × Bd)} (h : RdS clSr 9 w B A l) : RdS clSr 9 w B A (l.take k) := fun hn => by
  rw [List.length_take] at hn
  obtain ⟨b', off', e, hb, hc⟩ := h (by omega)
  refine ⟨_, _, e, hb, fun j x hx => hc j x ?_⟩
  rw [List.getElem?_take] at hx
  split at hx
  · exact hx
  · cases hx
theorem rds_cutRr {w : World} {B k c : Nat} {A : Option Addr} {l : List (Nat × Bd)} (h : RdS clSr 9 w B A l) (hc : l.length ≤ c) : RdS clSr 9 w B (cutRr A c k) (l.drop k) := fun hn => by
  rw [List.length_drop] at hn
  obtain ⟨b', off', e, hb, hr⟩ := h (by omega)
  refine ⟨b', off' + k * 9, by rw [cutRr, if_neg (by omega), e]; show some (Addr.add ⟨b', off', none⟩ (k * 9)) = _; rw [add_off], hb, fun j x hx => ?_⟩
  rw [List.getElem?_drop] at hx
  have := hr (k + j) x hx
  rwa [show off' + (k + j) * 9 = off' + k * 9 + j * 9 by omega] at this
theorem rds_oneR (w : World) (e : Nat × Bd) : RdS clSr 9 (w.alloc (.cells (clSr e).toArray 73)) (w.alloc (.cells (clSr e).toArray 73)).heap.size (some ⟨w.heap.size, 0, none⟩) [e] := fun _ => by
  refine ⟨_, _, rfl, by simp, fun j x hx => ?_⟩
  have hj : j = 0 := by have := (List.getElem?_eq_some_iff.1 hx).1; simpa using this
  subst hj
  simp only [List.getElem?_cons_zero, Option.some.injEq] at hx
  subst hx
  rw [Nat.zero_mul, Nat.add_zero]
  exact range_heap (World.alloc_heap_new w _)
theorem slice_R : Tryd.prog.underlying 63 = some (.slice (Tryd.prog.elem 63)) := by kernel_rfl
theorem cells_R : Tryd.prog.cellsOf (Tryd.prog.elem 63) = 9 := by kernel_rfl
theorem run_load_bdR {o : Oper} {a : Act} {w : World} {y : Operand} {g i : Nat} {x : Bd} (ho : o.op = .load 36 y) (hx : a.eval y = .pointer (some ⟨g, i, none⟩)) (hr : w.rangeAt g i (clBd x)) :
    (execOp a.eval o).run Tryd.prog w = .ok (.value (.agg #[.int .i64 x.s, .int .i64 x.p, .int .i64 x.a, .int .i64 x.o, .int .i64 x.q, .int .i64 x.b, .int .i64 x.r, .bool x.st])) w := run_load_bd ho hx hr
theorem run_cutr_l {o : Oper} {a : Act} {w : World} {x lo : Operand} {A : Option Addr} {n c l m : Nat} (ho : o.op = .slice 63 x (some lo) none none) (hx : a.eval x = .slice A n c) (hl : a.eval lo = .int .i64 (l : Int)) (hn : l ≤ n) (hm : m = n - l) :
    (execOp a.eval o).run Tryd.prog w = .ok (.value (.slice (cutRr A c l) m (c - l))) w := by
  subst hm
  have h1 := run_slice_l (P := Tryd.prog) (w := w) 63 A n c slice_R .i64 (l : Int) (by omega) (by omega)
  unfold execOp
  simp only [ho, hx, hl, Option.map, Sem.run_bind, run_sliceAt_slice _ _ _ _ _ _ slice_R, h1]
  go_simp
  rfl
theorem run_cutr_h {o : Oper} {a : Act} {w : World} {x hi : Operand} {A : Option Addr} {n c m : Nat} {h : Int} (ho : o.op = .slice 63 x none (some hi) none) (hx : a.eval x = .slice A n c) (hh : a.eval hi = .int .i64 h)
    (h0 : 0 ≤ h) (h2 : h ≤ (c : Int)) (hm : m = h.toNat) :
    (execOp a.eval o).run Tryd.prog w = .ok (.value (.slice A m c)) w := by
  subst hm
  have h1 := run_slice_h (P := Tryd.prog) (w := w) 63 A n c slice_R .i64 h h0 h2
  unfold execOp
  simp only [ho, hx, hh, Option.map, Sem.run_bind, run_sliceAt_slice _ _ _ _ _ _ slice_R, h1]
  go_simp
section
variable {n : Nat} {o : Oper} {a : Act} {w : World} {K : Act → World → Prop} {Q : Exit → Act → World → Prop}
theorem store_rI {x y : Operand} {p : Addr} {v0 : Value} {A : Option Addr} {m c : Nat} (ho : o.op = .store 63 x y) (hx : a.eval x = .pointer (some p)) (hy : a.eval y = .slice A m c) (hc : w.cell? p = some v0) (hf : w.frozen? p = false)
    (h : K (a.put o.dst undef) (w.setCell p (.slice A m c))) : o.wpIn Fence.wide n Tryd.prog a w K Q := by
  refine skipI (w' := w.setCell p (.slice A m c)) ?_ h
  unfold execOp
  simp only [ho, hx, hy, Instr.storeAt, Instr.sureAddr, Sem.run_bind, Sem.run_pure, Result.andThen_ok]
  go_simp
theorem append_rI (s x : Operand) (ho : o.op = .call { callee := .builtin .append, args := #[s, x], argTypes := #[63, 63] })
    (base : Nat) (v : Value) (m : Nat) (xs : List Value) (hs : a.eval s = v) (hown : w.ownsRow base 73 9 v m xs)
    (B : Nat) (A : Option Addr) (k c : Nat) (l : List (Nat × Bd)) (hx : a.eval x = .slice A k c) (hk : k = l.length) (hA : A = none → c = 0) (hr : RdS clSr 9 w B A l)
    (hlen : m + k ≤ 1000000) (hbase : base ≤ w.heap.size)
    (h : ∀ v' w', w'.ownsRow base 73 9 v' (m + k) (xs ++ l.flatMap clSr) → w.grownBy w' v.ownBlock → K (a.put o.dst v') w') : o.wpIn Fence.wide n Tryd.prog a w K Q := by
  obtain ⟨i0, hi, hz0, hz1, hz2⟩ := info_parts info_r
  subst hk
  rcases A with _ | ad
  · have h0 : l = [] := by
      rcases Nat.eq_zero_or_pos l.length with e | e
      · exact List.eq_nil_of_length_eq_zero e
      · obtain ⟨_, _, e', _⟩ := hr e; cases e'
    subst h0
    obtain rfl := hA rfl
    have hrun := run_append_owned_none (P := Tryd.prog) (w := w) base 63 o.type 73 i0 9 Tryd.underlying63 hi v m xs hown
    refine growI (v := v) (w' := w) ?_ (h v w (by simpa using hown) (World.grownBy.refl w _))
    simp [execOp, ho, resolve, invoke, builtin, hs, hx, hrun, Result.andThen]
  · obtain ⟨v', w', hrun, h1, h2, _⟩ := run_append_own (P := Tryd.prog) w base 63 o.type 73 i0 _ 9 72 Tryd.underlying63 hi hz0 hz1 hz2 rfl (by decide) v m xs hown ad l.length c (l.flatMap clSr)
      (clSr_flat l) (rds_srcR hr) (ones_R l) (by unfold maxLen; omega) (by omega) hbase
    refine growI (v := v') (w' := w') ?_ (h v' w' h1 h2)
    simp [execOp, ho, resolve, invoke, builtin, hs, hx, hrun, Result.andThen]
end
section
variable {w : World} {g : Nat} {v : Value} {most : Int} {D : List (Nat × Bd)}
set_option maxRecDepth 100000 in
set_option maxHeartbeats 4000000 in
theorem r22add_twice (h : Rb w g v most D) (hD : D.length ≤ 1000) (x : Bd) (hh : ((fndI D x).isSome || (fndO D x).isSome) = true) : Calls Tryd.prog 10 #[.pointer (some ⟨g, 0, none⟩), bdV x] w fun e w' => e = .returned (.tuple #[.int .i64 0, .int .i64 9]) ∧ Below w.heap.size w w' := by
  obtain ⟨V, hV⟩ : ∃ V, V = w.alloc (.cells (clBd x).toArray 36) := ⟨_, rfl⟩
  have bV : Below w.heap.size w V := by rw [hV]; exact (Below.refl _ w).alloc (Nat.le_refl _) _
  have hbV : V.heap[w.heap.size]? = some (.cells (clBd x).toArray 36 (0, 0)) := by rw [hV]; exact World.alloc_heap_new w _
  have HV := Lib.hid (show w.alloc (.cells #[.int .i64 x.s, .int .i64 x.p, .int .i64 x.a, .int .i64 x.o, .int .i64 x.q, .int .i64 x.b, .int .i64 x.r, .bool x.st] 36) = V from hV.symm)
  have HB := Lib.hid (h.below bV)
  have HBV := Lib.hid bV
  have hri := box_inn hbV
  have HRO : Hid (∀ U, Below V.heap.size V U → U.rangeAt w.heap.size 4 (clI x.out)) := Lib.hid fun U hU => range_belowR (box_out hbV) (heap_lt hbV) hU
  have HXB : Hid (∀ U, Below V.heap.size V U → U.rangeAt w.heap.size 0 (clBd x)) := Lib.hid fun U hU => range_belowR (box_bd hbV) (heap_lt hbV) hU
  have HDD := Lib.hid hD
  clear h hV hbV bV
  cases hi : fndI D x with
  | some e =>
    have HFI := Lib.hid hi
    clear hi
    clear hh
    unfold bdV clBd
    go_enter Tryd.func10, Tryd.ntmps10
    go_upto_region 1 with fail
    rw [HV.out]
    go_wp2_with (first
      | ((with_reducible show wpList _ _ _ (Oper.mk _ (Op.load 32 _) _ _ _ _ :: _) _ _); refine wpList_val rfl (run_load_inn (x := x) rfl rfl hri) ?_)
      | (go_at_call 16; refine (r22find HB.out HDD.out x).mono ?_; rintro e w1 ⟨rfl, x1⟩; rw [HFI.out]))
    exact bodyPost_ret (results_tmp2 rfl _ _ _) rfl ⟨rfl, HBV.out.trans (x1.mono HBV.out.size)⟩
  | none =>
    have HFI := Lib.hid hi
    cases ho : fndO D x with
    | none => rw [hi, ho] at hh; exact absurd hh (by decide)
    | some e =>
      have HFO := Lib.hid ho
      clear hi ho
      clear hh
      unfold bdV clBd
      go_enter Tryd.func10, Tryd.ntmps10
      go_upto_region 1 with fail
      rw [HV.out]
      go_wp2_with (first
        | ((with_reducible show wpList _ _ _ (Oper.mk _ (Op.load 32 _) _ _ _ _ :: _) _ _); refine wpList_val rfl (run_load_inn (x := x) rfl rfl hri) ?_)
        | (go_at_call 16; refine (r22find HB.out HDD.out x).mono ?_; rintro e w1 ⟨rfl, x1⟩; rw [HFI.out])
        | ((with_reducible show wpList _ _ _ (Oper.mk _ (Op.load 34 _) _ _ _ _ :: _) _ _); refine wpList_val rfl (run_load_out (x := x) rfl rfl (HRO.out _ x1)) ?_)
        | (go_at_call 18; refine (r22back (HB.out.below x1) HDD.out x).mono ?_; rintro e w2 ⟨rfl, x2⟩; rw [HFO.out]))
      exact bodyPost_ret (results_tmp2 rfl _ _ _) rfl ⟨rfl, HBV.out.trans ((x1.trans (x2.mono x1.size)).mono HBV.out.size)⟩
set_option maxRecDepth 100000 in
set_option maxHeartbeats 4000000 in
theorem r22add_full (h : Rb w g v most D) (hD : D.length ≤ 1000) (x : Bd) (hh : ((fndI D x).isSome || (fndO D x).isSome) = false) (hfu : (D.length : Int) ≥ most) : Calls Tryd.prog 10 #[.pointer (some ⟨g, 0, none⟩), bdV x] w fun e w' => e = .returned (.tuple #[.int .i64 0, .int .i64 7]) ∧ Below w.heap.size w w' := by
  obtain ⟨hi, ho⟩ : fndI D x = none ∧ fndO D x = none := by
    cases hi : fndI D x with
    | some e => rw [hi] at hh; exact absurd hh (by simp)
    | none =>
      cases ho : fndO D x with
      | some e => rw [ho] at hh; exact absurd hh (by simp)
      | none => exact ⟨rfl, rfl⟩
  have HFI := Lib.hid hi
  have HFO := Lib.hid ho
  obtain ⟨A, c, hv, _, hcap, hnn⟩ := h.sh
  subst hv
  obtain ⟨m, hm⟩ : ∃ m, m = D.length := ⟨_, rfl⟩
  rw [← hm] at h hcap
  have HFL := Lib.hid hm
  have HNN := Lib.hid hnn
  have hmS : m ≤ 1000 := by omega
  have dF : decide (most ≤ (m : Int)) = true := decide_eq_true (by omega)
  clear hi ho hnn hm hfu
  obtain ⟨V, hV⟩ : ∃ V, V = w.alloc (.cells (clBd x).toArray 36) := ⟨_, rfl⟩
  have bV : Below w.heap.size w V := by rw [hV]; exact (Below.refl _ w).alloc (Nat.le_refl _) _
  have hbV : V.heap[w.heap.size]? = some (.cells (clBd x).toArray 36 (0, 0)) := by rw [hV]; exact World.alloc_heap_new w _
  have HV := Lib.hid (show w.alloc (.cells #[.int .i64 x.s, .int .i64 x.p, .int .i64 x.a, .int .i64 x.o, .int .i64 x.q, .int .i64 x.b, .int .i64 x.r, .bool x.st] 36) = V from hV.symm)
  have HB := Lib.hid (h.below bV)
  have HBV := Lib.hid bV
  have hri := box_inn hbV
  have HRO : Hid (∀ U, Below V.heap.size V U → U.rangeAt w.heap.size 4 (clI x.out)) := Lib.hid fun U hU => range_belowR (box_out hbV) (heap_lt hbV) hU
  have HXB : Hid (∀ U, Below V.heap.size V U → U.rangeAt w.heap.size 0 (clBd x)) := Lib.hid fun U hU => range_belowR (box_bd hbV) (heap_lt hbV) hU
  have HDD := Lib.hid hD
  clear h hV hbV bV
  clear hh
  unfold bdV clBd
  go_enter Tryd.func10, Tryd.ntmps10
  go_upto_region 1 with fail
  rw [HV.out]
  go_upto_region 7 with (first
    | ((with_reducible show wpList _ _ _ (Oper.mk _ (Op.load 32 _) _ _ _ _ :: _) _ _); refine wpList_val rfl (run_load_inn (x := x) rfl rfl hri) ?_)
    | (go_at_call 16; refine (r22find HB.out HDD.out x).mono ?_; rintro e w1 ⟨rfl, x1⟩; rw [HFI.out])
    | ((with_reducible show wpList _ _ _ (Oper.mk _ (Op.load 34 _) _ _ _ _ :: _) _ _); refine wpList_val rfl (run_load_out (x := x) rfl rfl (HRO.out _ x1)) ?_)
    | (go_at_call 18; refine (r22back (HB.out.below x1) HDD.out x).mono ?_; rintro e w2 ⟨rfl, x2⟩; rw [HFO.out]))
  have x12 := x1.trans (x2.mono x1.size)
  have HW2 := Lib.hid (HB.out.below x12)
  have HT1 := Lib.hid HW2.out.tab
  have HGZ := Lib.hid (heap_lt HT1.out)
  refine wp_region_held_drew (S := fun w' => Below w2.heap.size w2 w') (by kernel_rfl) (Below.refl _ _).drew (fun hS => ?_)
  refine held_pure (i := 0) (oi := ⟨some 27, _, _, _, _, _⟩) rfl (by kernel_rfl) (by kernel_rfl) (by kernel_rfl) (fun _ _ _ h => h) (by rfl) (v := ?_) (fun w hSw => ?_) hS (fun hS => ?_)
  rotate_left
  · go_simp; try with_reducible rfl
  try go_frame
  refine held_pure (i := 1) (oi := ⟨some 28, _, _, _, _, _⟩) rfl (by kernel_rfl) (by kernel_rfl) (by kernel_rfl) (fun _ _ _ h => h) (by rfl) (v := ?_) (fun w hSw => ?_) hS (fun hS => ?_)
  rotate_left
  · go_simp; try with_reducible rfl
  try go_frame
  refine held_pure (i := 2) (oi := ⟨some 29, _, _, _, _, _⟩) rfl (by kernel_rfl) (by kernel_rfl) (by kernel_rfl) (fun _ _ _ h => h) (by rfl) (v := ?_) (fun w hSw => ?_) hS (fun hS => ?_)
  rotate_left
  · go_simp; try with_reducible rfl
  try go_frame
  refine held_pure (i := 3) (oi := ⟨some 30, _, _, _, _, _⟩) rfl (by kernel_rfl) (by kernel_rfl) (by kernel_rfl) (fun _ _ _ h => h) (by rfl) (fun w hSw => run_load_rsl rfl rfl (cells_at (i := 0) ((hSw.block g HGZ.out).trans HT1.out) rfl)) hS (fun hS => ?_)
  try go_frame
  refine held_pure (i := 4) (oi := ⟨some 31, _, _, _, _, _⟩) rfl (by kernel_rfl) (by kernel_rfl) (by kernel_rfl) (fun _ _ _ h => h) (by rfl) (v := ?_) (fun w hSw => ?_) hS (fun hS => ?_)
  rotate_left
  · go_simp; try with_reducible rfl
  try go_frame
  refine held_pure (i := 5) (oi := ⟨some 32, _, _, _, _, _⟩) rfl (by kernel_rfl) (by kernel_rfl) (by kernel_rfl) (fun _ _ _ h => h) (by rfl) (v := ?_) (fun w hSw => ?_) hS (fun hS => ?_)
  rotate_left
  · go_simp; try with_reducible rfl
  try go_frame
  refine held_pure (i := 6) (oi := ⟨some 33, _, _, _, _, _⟩) rfl (by kernel_rfl) (by kernel_rfl) (by kernel_rfl) (fun _ _ _ h => h) (by rfl) (v := ?_) (fun w hSw => ?_) hS (fun hS => ?_)
  rotate_left
  · go_simp; try with_reducible rfl
  try go_frame
  refine held_pure (i := 7) (oi := ⟨some 34, _, _, _, _, _⟩) rfl (by kernel_rfl) (by kernel_rfl) (by kernel_rfl) (fun _ _ _ h => h) (by rfl) (v := ?_) (fun w hSw => ?_) hS (fun hS => ?_)
  rotate_left
  · go_simp; try with_reducible rfl
  try go_frame
  refine held_pure (i := 8) (oi := ⟨some 35, _, _, _, _, _⟩) rfl (by kernel_rfl) (by kernel_rfl) (by kernel_rfl) (fun _ _ _ h => h) (by rfl) (fun w hSw => run_load_int rfl rfl (cells_at (i := 1) ((hSw.block g HGZ.out).trans HT1.out) rfl)) hS (fun hS => ?_)
  try go_frame
  refine held_pure (i := 9) (oi := ⟨some 36, _, _, _, _, _⟩) rfl (by kernel_rfl) (by kernel_rfl) (by kernel_rfl) (fun _ _ _ h => h) (by rfl) (v := .bool true) (fun w hSw => by go_simp; try exact dF) hS (fun hS => ?_)
  try go_frame
  refine wpAnyH_done (by kernel_rfl) ?_ _
  go_wp2
  exact bodyPost_ret (results_tmp2 rfl _ _ _) rfl ⟨rfl, HBV.out.trans (x12.drew.mono HBV.out.size)⟩
set_option maxRecDepth 100000 in
set_option maxHeartbeats 4000000 in
theorem r22add_ok (h : Rb w g v most D) (hD : D.length ≤ 1000) (x : Bd) (hh : ((fndI D x).isSome || (fndO D x).isSome) = false) (hfu : (D.length : Int) < most) {f : Nat} (hf : f ≤ D.length) (hp : ∀ j e, j < f → D[j]? = some e → e.1 = j) (hq : ∀ e, D[f]? = some e → e.1 ≠ f) : Calls Tryd.prog 10 #[.pointer (some ⟨g, 0, none⟩), bdV x] w fun e w' => e = .returned (.tuple #[.int .i64 (f : Int), .int .i64 0]) ∧ ∃ v', Rb w' g v' most (insR D f x) ∧ Kept (fun k => k = g) w w' := by
  have HP := Lib.hid hp
  have HQ := Lib.hid hq
  obtain ⟨hi, ho⟩ : fndI D x = none ∧ fndO D x = none := by
    cases hi : fndI D x with
    | some e => rw [hi] at hh; exact absurd hh (by simp)
    | none =>
      cases ho : fndO D x with
      | some e => rw [ho] at hh; exact absurd hh (by simp)
      | none => exact ⟨rfl, rfl⟩
  have HFI := Lib.hid hi
  have HFO := Lib.hid ho
  obtain ⟨A, c, hv, _, hcap, hnn⟩ := h.sh
  subst hv
  obtain ⟨m, hm⟩ : ∃ m, m = D.length := ⟨_, rfl⟩
  rw [← hm] at h hcap
  have HFL := Lib.hid hm
  have HNN := Lib.hid hnn
  have hmS : m ≤ 1000 := by omega
  have dF : decide (most ≤ (m : Int)) = false := decide_eq_false (by omega)
  rw [← hm] at hf
  clear hp hq hi ho hnn hm hfu
  obtain ⟨V, hV⟩ : ∃ V, V = w.alloc (.cells (clBd x).toArray 36) := ⟨_, rfl⟩
  have bV : Below w.heap.size w V := by rw [hV]; exact (Below.refl _ w).alloc (Nat.le_refl _) _
  have hbV : V.heap[w.heap.size]? = some (.cells (clBd x).toArray 36 (0, 0)) := by rw [hV]; exact World.alloc_heap_new w _
  have HV := Lib.hid (show w.alloc (.cells #[.int .i64 x.s, .int .i64 x.p, .int .i64 x.a, .int .i64 x.o, .int .i64 x.q, .int .i64 x.b, .int .i64 x.r, .bool x.st] 36) = V from hV.symm)
  have HB := Lib.hid (h.below bV)
  have HBV := Lib.hid bV
  have hri := box_inn hbV
  have HRO : Hid (∀ U, Below V.heap.size V U → U.rangeAt w.heap.size 4 (clI x.out)) := Lib.hid fun U hU => range_belowR (box_out hbV) (heap_lt hbV) hU
  have HXB : Hid (∀ U, Below V.heap.size V U → U.rangeAt w.heap.size 0 (clBd x)) := Lib.hid fun U hU => range_belowR (box_bd hbV) (heap_lt hbV) hU
  have HDD := Lib.hid hD
  clear h hV hbV bV
  clear hh
  unfold bdV clBd
  go_enter Tryd.func10, Tryd.ntmps10
  go_upto_region 1 with fail
  rw [HV.out]
  go_upto_region 7 with (first
    | ((with_reducible show wpList _ _ _ (Oper.mk _ (Op.load 32 _) _ _ _ _ :: _) _ _); refine wpList_val rfl (run_load_inn (x := x) rfl rfl hri) ?_)
    | (go_at_call 16; refine (r22find HB.out HDD.out x).mono ?_; rintro e w1 ⟨rfl, x1⟩; rw [HFI.out])
    | ((with_reducible show wpList _ _ _ (Oper.mk _ (Op.load 34 _) _ _ _ _ :: _) _ _); refine wpList_val rfl (run_load_out (x := x) rfl rfl (HRO.out _ x1)) ?_)
    | (go_at_call 18; refine (r22back (HB.out.below x1) HDD.out x).mono ?_; rintro e w2 ⟨rfl, x2⟩; rw [HFO.out]))
  have x12 := x1.trans (x2.mono x1.size)
  have HW2 := Lib.hid (HB.out.below x12)
  have HT1 := Lib.hid HW2.out.tab
  have HGZ := Lib.hid (heap_lt HT1.out)
  refine wp_region_held_drew (S := fun w' => Below w2.heap.size w2 w') (by kernel_rfl) (Below.refl _ _).drew (fun hS => ?_)
  refine held_pure (i := 0) (oi := ⟨some 27, _, _, _, _, _⟩) rfl (by kernel_rfl) (by kernel_rfl) (by kernel_rfl) (fun _ _ _ h => h) (by rfl) (v := ?_) (fun w hSw => ?_) hS (fun hS => ?_)
  rotate_left
  · go_simp; try with_reducible rfl
  try go_frame
  refine held_pure (i := 1) (oi := ⟨some 28, _, _, _, _, _⟩) rfl (by kernel_rfl) (by kernel_rfl) (by kernel_rfl) (fun _ _ _ h => h) (by rfl) (v := ?_) (fun w hSw => ?_) hS (fun hS => ?_)
  rotate_left
  · go_simp; try with_reducible rfl
  try go_frame
  refine held_pure (i := 2) (oi := ⟨some 29, _, _, _, _, _⟩) rfl (by kernel_rfl) (by kernel_rfl) (by kernel_rfl) (fun _ _ _ h => h) (by rfl) (v := ?_) (fun w hSw => ?_) hS (fun hS => ?_)
  rotate_left
  · go_simp; try with_reducible rfl
  try go_frame
  refine held_pure (i := 3) (oi := ⟨some 30, _, _, _, _, _⟩) rfl (by kernel_rfl) (by kernel_rfl) (by kernel_rfl) (fun _ _ _ h => h) (by rfl) (fun w hSw => run_load_rsl rfl rfl (cells_at (i := 0) ((hSw.block g HGZ.out).trans HT1.out) rfl)) hS (fun hS => ?_)
  try go_frame
  refine held_pure (i := 4) (oi := ⟨some 31, _, _, _, _, _⟩) rfl (by kernel_rfl) (by kernel_rfl) (by kernel_rfl) (fun _ _ _ h => h) (by rfl) (v := ?_) (fun w hSw => ?_) hS (fun hS => ?_)
  rotate_left
  · go_simp; try with_reducible rfl
  try go_frame
  refine held_pure (i := 5) (oi := ⟨some 32, _, _, _, _, _⟩) rfl (by kernel_rfl) (by kernel_rfl) (by kernel_rfl) (fun _ _ _ h => h) (by rfl) (v := ?_) (fun w hSw => ?_) hS (fun hS => ?_)
  rotate_left
  · go_simp; try with_reducible rfl
  try go_frame
  refine held_pure (i := 6) (oi := ⟨some 33, _, _, _, _, _⟩) rfl (by kernel_rfl) (by kernel_rfl) (by kernel_rfl) (fun _ _ _ h => h) (by rfl) (v := ?_) (fun w hSw => ?_) hS (fun hS => ?_)
  rotate_left
  · go_simp; try with_reducible rfl
  try go_frame
  refine held_pure (i := 7) (oi := ⟨some 34, _, _, _, _, _⟩) rfl (by kernel_rfl) (by kernel_rfl) (by kernel_rfl) (fun _ _ _ h => h) (by rfl) (v := ?_) (fun w hSw => ?_) hS (fun hS => ?_)
  rotate_left
  · go_simp; try with_reducible rfl
  try go_frame
  refine held_pure (i := 8) (oi := ⟨some 35, _, _, _, _, _⟩) rfl (by kernel_rfl) (by kernel_rfl) (by kernel_rfl) (fun _ _ _ h => h) (by rfl) (fun w hSw => run_load_int rfl rfl (cells_at (i := 1) ((hSw.block g HGZ.out).trans HT1.out) rfl)) hS (fun hS => ?_)
  try go_frame
  refine held_pure (i := 9) (oi := ⟨some 36, _, _, _, _, _⟩) rfl (by kernel_rfl) (by kernel_rfl) (by kernel_rfl) (fun _ _ _ h => h) (by rfl) (v := .bool false) (fun w hSw => by go_simp; try exact dF) hS (fun hS => ?_)
  try go_frame
  refine wpAnyH_done (by kernel_rfl) ?_ _
  clear dF
  go_wp2
  go_loopw [10] (fun z wr => ∃ k : Nat, k ≤ f ∧ z = .int .i64 (k : Int) ∧ Below V.heap.size V wr) (fun z _ => f - (intOf z).toNat)
  case atStart => exact ⟨0, Nat.zero_le _, rfl, x12.drew⟩
  case round =>
    obtain ⟨k, hk, rfl, hbel⟩ := hrel
    have hw := HB.out.below hbel
    have kt : wr.cell? ⟨g, 0, none⟩ = some (.slice A m c) := cells_at (i := 0) hw.tab rfl
    by_cases hkf : k < f
    · obtain ⟨y, hy⟩ : ∃ y, D[k]? = some y := ⟨_, List.getElem?_eq_getElem (by rw [← HFL.out]; omega)⟩
      obtain ⟨b, rfl, hb, hr⟩ := hw.at_ hy
      have kx0 : wr.cell? ⟨b, k * 9, none⟩ = some (.int .i64 (k : Int)) := by have := hr 0 _ rfl; rw [HP.out k y hkf hy] at this; simpa using this
      have hkm : k < m := by omega
      clear hr hy hw
      go_wp2
      go_roundw
      case rel => exact ⟨k + 1, by omega, by simp, hbel⟩
      case measure => simp [intOf]; omega
    · obtain rfl : f = k := by omega
      by_cases hkm : f < m
      · obtain ⟨y, hy⟩ : ∃ y, D[f]? = some y := ⟨_, List.getElem?_eq_getElem (by rw [← HFL.out]; omega)⟩
        obtain ⟨b, rfl, hb, hr⟩ := hw.at_ hy
        have kx0 : wr.cell? ⟨b, f * 9, none⟩ = some (.int .i64 (y.1 : Int)) := by simpa using hr 0 _ rfl
        have dk : ((y.1 : Int) == (f : Int)) = false := by have := HQ.out y hy; simp; omega
        clear hr hy
        go_upto_region 12 with fail
        generalize hA0 : (some (⟨b, 0, none⟩ : Addr)) = A at *
        clear hA0 dk kx0
        have HTB := Lib.hid hw.tab
        have hgz := heap_lt hw.tab
        have HKT : Hid (∀ V, Below wr.heap.size wr V → V.cell? ⟨g, 0, none⟩ = some (.slice A m c)) := Lib.hid fun V hV => cells_at (i := 0) ((hV.block g hgz).trans HTB.out) rfl
        have HRD : Hid (RdS clSr 9 wr wr.heap.size A D) := Lib.hid (by obtain ⟨A3, c3, e3, r3, _, _⟩ := hw.sh; injection e3 with e3; rw [e3]; exact r3)
        have HXR : Hid (∀ V, Below wr.heap.size wr V → V.rangeAt w.heap.size 0 (clBd x)) := Lib.hid fun V hV => HXB.out _ (hbel.trans (hV.mono hbel.size))
        have HKW : Hid (Kept (fun k => k = g) w wr) := Lib.hid ((Kept.of_below HBV.out).then_below hbel)
        clear hw kt hbel
        generalize wr = W at *
        refine regionY 20 (fun w' => Below W.heap.size W w') (by kernel_rfl) ?_
        have b0 : Below W.heap.size W W.drew := (Below.refl _ W).drew
        have hS : Below W.heap.size W W.drew := b0
        generalize W.drew = X0 at *
        refine pureY (i := 0) (oi := ⟨some 58, _, _, _, _, _⟩) rfl (by kernel_rfl) (by kernel_rfl) (by kernel_rfl) (by kernel_rfl) (by kernel_rfl) (fun _ _ _ h => h) (by rfl) (v := ?_) (fun w hSw => ?_) hS ?_
        rotate_left
        · go_simp; try with_reducible rfl
        try go_frame
        refine pureY (i := 1) (oi := ⟨some 59, _, _, _, _, _⟩) rfl (by kernel_rfl) (by kernel_rfl) (by kernel_rfl) (by kernel_rfl) (by kernel_rfl) (fun _ _ _ h => h) (by rfl) (v := ?_) (fun w hSw => ?_) hS ?_
        rotate_left
        · go_simp; try with_reducible rfl
        try go_frame
        refine pureY (i := 2) (oi := ⟨some 60, _, _, _, _, _⟩) rfl (by kernel_rfl) (by kernel_rfl) (by kernel_rfl) (by kernel_rfl) (by kernel_rfl) (fun _ _ _ h => h) (by rfl) (v := ?_) (fun w hSw => ?_) hS ?_
        rotate_left
        · go_simp; try with_reducible rfl
        try go_frame
        refine pureY (i := 3) (oi := ⟨some 61, _, _, _, _, _⟩) rfl (by kernel_rfl) (by kernel_rfl) (by kernel_rfl) (by kernel_rfl) (by kernel_rfl) (fun _ _ _ h => h) (by rfl) (v := ?_) (fun w hSw => ?_) hS ?_
        rotate_left
        · go_simp; try with_reducible rfl
        try go_frame
        refine pureY (i := 4) (oi := ⟨some 62, _, _, _, _, _⟩) rfl (by kernel_rfl) (by kernel_rfl) (by kernel_rfl) (by kernel_rfl) (by kernel_rfl) (fun _ _ _ h => h) (by rfl) (fun w hSw => run_load_rsl rfl rfl (HKT.out _ hSw)) hS ?_
        try go_frame
        refine pureY (i := 5) (oi := ⟨some 63, _, _, _, _, _⟩) rfl (by kernel_rfl) (by kernel_rfl) (by kernel_rfl) (by kernel_rfl) (by kernel_rfl) (fun _ _ _ h => h) (by rfl) (v := ?_) (fun w hSw => ?_) hS ?_
        rotate_left
        · go_simp; try with_reducible rfl
        try go_frame
        refine pureY (i := 6) (oi := ⟨some 64, _, _, _, _, _⟩) rfl (by kernel_rfl) (by kernel_rfl) (by kernel_rfl) (by kernel_rfl) (by kernel_rfl) (fun _ _ _ h => h) (by rfl) (fun w hSw => run_cutr_h (h := (f : Int)) rfl rfl rfl (by omega) (by omega) (m := f) (by omega)) hS ?_
        try go_frame
        refine pureY (i := 8) (oi := ⟨some 66, _, _, _, _, _⟩) rfl (by kernel_rfl) (by kernel_rfl) (by kernel_rfl) (by kernel_rfl) (by kernel_rfl) (fun _ _ _ h => h) (by rfl) (v := ?_) (fun w hSw => ?_) hS ?_
        rotate_left
        · go_simp; try with_reducible rfl
        try go_frame
        refine pureY (i := 9) (oi := ⟨some 67, _, _, _, _, _⟩) rfl (by kernel_rfl) (by kernel_rfl) (by kernel_rfl) (by kernel_rfl) (by kernel_rfl) (fun _ _ _ h => h) (by rfl) (fun w hSw => run_load_bdR (x := x) rfl rfl (HXR.out _ hSw)) hS ?_
        try go_frame
        refine pureY (i := 10) (oi := ⟨some 68, _, _, _, _, _⟩) rfl (by kernel_rfl) (by kernel_rfl) (by kernel_rfl) (by kernel_rfl) (by kernel_rfl) (fun _ _ _ h => h) (by rfl) (v := ?_) (fun w hSw => ?_) hS ?_
        rotate_left
        · go_simp; try with_reducible rfl
        try go_frame
        refine pureY (i := 13) (oi := ⟨some 71, _, _, _, _, _⟩) rfl (by kernel_rfl) (by kernel_rfl) (by kernel_rfl) (by kernel_rfl) (by kernel_rfl) (fun _ _ _ h => h) (by rfl) (v := ?_) (fun w hSw => ?_) hS ?_
        rotate_left
        · go_simp; try with_reducible rfl
        try go_frame
        refine pureY (i := 14) (oi := ⟨some 72, _, _, _, _, _⟩) rfl (by kernel_rfl) (by kernel_rfl) (by kernel_rfl) (by kernel_rfl) (by kernel_rfl) (fun _ _ _ h => h) (by rfl) (v := ?_) (fun w hSw => ?_) hS ?_
        rotate_left
        · go_simp; try with_reducible rfl
        try go_frame
        refine pureY (i := 15) (oi := ⟨some 73, _, _, _, _, _⟩) rfl (by kernel_rfl) (by kernel_rfl) (by kernel_rfl) (by kernel_rfl) (by kernel_rfl) (fun _ _ _ h => h) (by rfl) (v := ?_) (fun w hSw => ?_) hS ?_
        rotate_left
        · go_simp; try with_reducible rfl
        try go_frame
        refine pureY (i := 16) (oi := ⟨some 74, _, _, _, _, _⟩) rfl (by kernel_rfl) (by kernel_rfl) (by kernel_rfl) (by kernel_rfl) (by kernel_rfl) (fun _ _ _ h => h) (by rfl) (fun w hSw => run_load_rsl rfl rfl (HKT.out _ hSw)) hS ?_
        try go_frame
        refine pureY (i := 17) (oi := ⟨some 75, _, _, _, _, _⟩) rfl (by kernel_rfl) (by kernel_rfl) (by kernel_rfl) (by kernel_rfl) (by kernel_rfl) (fun _ _ _ h => h) (by rfl) (v := ?_) (fun w hSw => ?_) hS ?_
        rotate_left
        · go_simp; try with_reducible rfl
        try go_frame
        refine pureY (i := 18) (oi := ⟨some 76, _, _, _, _, _⟩) rfl (by kernel_rfl) (by kernel_rfl) (by kernel_rfl) (by kernel_rfl) (by kernel_rfl) (fun _ _ _ h => h) (by rfl) (fun w hSw => run_cutr_l rfl rfl (l := f) rfl (by omega) (m := m - f) rfl) hS ?_
        try go_frame
        refine twoY (i := 7) (j := 11) (oi := ⟨some 65, _, _, _, _, _⟩) (oj := ⟨some 69, _, _, _, _, _⟩) (by kernel_rfl) rfl rfl (by rfl) (by rfl) (fun K hK => ?_) (fun K hK => ?_)
        · refine append_rI _ _ rfl W.heap.size (.slice none 0 0) 0 [] rfl (World.ownsRow_nil _ _ _ _) W.heap.size A f c (D.take f) rfl (by rw [List.length_take, ← HFL.out]; omega) HNN.out (rds_takeR (HRD.out.below b0)) (by omega) b0.size ?_
          intro v7 w7 own7 grow7
          rw [Nat.zero_add, List.nil_append] at own7
          have x7 := (Below.refl X0.heap.size X0).grown grow7 (Nat.le_refl _) (fun _ hk => by cases hk)
          have b7 := b0.trans (x7.mono b0.size)
          have hS : Below W.heap.size W w7 := b7
          refine hK _ _ (fun _ => hS) ?_
          clear hK K
          try go_frame
          refine oneY (i := 11) (oi := ⟨some 69, _, _, _, _, _⟩) (by kernel_rfl) rfl (by rfl) (fun K hK => ?_)
          refine valGI (run_bsR (cs := (clSr (f, x)).toArray) rfl rfl rfl) ?_
          have b11 := b7.alloc b7.size (.cells (clSr (f, x)).toArray 73)
          have one := rds_oneR w7 (f, x)
          have own := own7.alloc (.cells (clSr (f, x)).toArray 73)
          have hS := b11
          refine hK _ _ (fun _ => hS) ?_
          clear hK K
          generalize w7.alloc (.cells (clSr (f, x)).toArray 73) = w11 at *
          obtain ⟨vb, hvb⟩ : ∃ vb, vb = w7.heap.size := ⟨_, rfl⟩
          rw [← hvb] at one ⊢
          clear hvb
          try go_frame
          try go_frame
          refine oneY (i := 12) (oi := ⟨some 70, _, _, _, _, _⟩) (by kernel_rfl) rfl (by rfl) (fun K hK => ?_)
          refine append_rI _ _ rfl W.heap.size v7 f _ rfl own w11.heap.size (some ⟨vb, 0, none⟩) 1 1 [(f, x)] rfl rfl (fun e => by cases e) one (by omega) b11.size ?_
          intro v12 w12 own12 grow12
          have b12 := b11.grown grow12 b11.size (fun k hk => own_block_ge own k hk)
          have hS := b12
          refine hK _ _ (fun _ => hS) ?_
          clear hK K
          try go_frame
          try go_frame
          refine oneY (i := 19) (oi := ⟨some 77, _, _, _, _, _⟩) (by kernel_rfl) rfl (by rfl) (fun K hK => ?_)
          refine append_rI _ _ rfl W.heap.size v12 (f + 1) _ rfl own12 W.heap.size (cutRr A c f) (m - f) (c - f) (D.drop f) rfl (by rw [List.length_drop, ← HFL.out]) (cutRr_none HNN.out) (rds_cutRr (HRD.out.below b12) (by rw [← HFL.out]; exact hcap)) (by omega) b12.size ?_
          intro v19 w19 own19 grow19
          have b19 := b12.grown grow19 b12.size (fun k hk => own_block_ge own12 k hk)
          have hS := b19
          refine hK _ _ (fun _ => hS) ?_
          clear hK K
          try go_frame
          try go_frame
          refine oneY (i := 20) (oi := ⟨some 78, _, _, _, _, _⟩) (by kernel_rfl) rfl (by rfl) (fun K hK => ?_)
          refine valI (v := ?_) ?_ ?_
          rotate_left
          · go_simp; try with_reducible rfl
          refine hK _ _ (fun h => absurd h (by decide)) ?_
          clear hK K
          try go_frame
          refine oneY (i := 21) (oi := ⟨some 79, _, _, _, _, _⟩) (by kernel_rfl) rfl (by rfl) (fun K hK => ?_)
          refine valI (v := ?_) ?_ ?_
          rotate_left
          · go_simp; try with_reducible rfl
          refine hK _ _ (fun h => absurd h (by decide)) ?_
          clear hK K
          try go_frame
          refine oneY (i := 22) (oi := ⟨none, _, _, _, _, _⟩) (by kernel_rfl) rfl (by rfl) (fun K hK => ?_)
          have ht := (b19.block g hgz).trans HTB.out
          have k22 := cells_at (i := 0) ht rfl
          have f22 := heap_frozen ht 0
          have own20 : w19.ownsRow W.heap.size 73 9 v19 (insR D f x).length ((insR D f x).flatMap clSr) := by
            have e1 : (insR D f x).flatMap clSr = (D.take f).flatMap clSr ++ [(f, x)].flatMap clSr ++ (D.drop f).flatMap clSr := by unfold insR; rw [List.flatMap_append, List.flatMap_cons]; simp
            have e2 : (insR D f x).length = f + 1 + (m - f) := by unfold insR; rw [List.length_append, List.length_cons, List.length_take, List.length_drop, ← HFL.out]; omega
            rw [e1, e2]; exact own19
          obtain ⟨A2, c2, e2, _, _⟩ := own_rds own20 rfl rfl (fun x _ => clSr_len x)
          subst e2
          refine store_rI rfl rfl rfl k22 f22 ?_
          refine hK _ _ (fun h => absurd h (by decide)) ?_
          clear hK K
          try go_frame
          try go_frame
          refine doneY (by kernel_rfl) ?_ _
          go_wp2
          refine bodyPost_ret (results_tmp2 rfl _ _ _) rfl ⟨rfl, _, Rb.put ht own20 rfl, (HKW.out.then_below b19).trans (Kept.setCell w19 g 0 _) (fun _ _ e => e)⟩
        · refine valGI (run_bsR (cs := (clSr (f, x)).toArray) rfl rfl rfl) ?_
          have b11 := b0.alloc b0.size (.cells (clSr (f, x)).toArray 73)
          have one := rds_oneR X0 (f, x)
          have hS := b11
          refine hK _ _ (fun _ => hS) ?_
          clear hK K
          generalize X0.alloc (.cells (clSr (f, x)).toArray 73) = w11 at *
          obtain ⟨vb, hvb⟩ : ∃ vb, vb = X0.heap.size := ⟨_, rfl⟩
          rw [← hvb] at one ⊢
          clear hvb
          try go_frame
          refine oneY (i := 7) (oi := ⟨some 65, _, _, _, _, _⟩) (by kernel_rfl) rfl (by rfl) (fun K hK => ?_)
          refine append_rI _ _ rfl W.heap.size (.slice none 0 0) 0 [] rfl (World.ownsRow_nil _ _ _ _) W.heap.size A f c (D.take f) rfl (by rw [List.length_take, ← HFL.out]; omega) HNN.out (rds_takeR (HRD.out.below b11)) (by omega) b11.size ?_
          intro v7 w7 own7 grow7
          rw [Nat.zero_add, List.nil_append] at own7
          have x7 := (Below.refl w11.heap.size w11).grown grow7 (Nat.le_refl _) (fun _ hk => by cases hk)
          have b7 := b11.trans (x7.mono b11.size)
          have one7 := (one.below x7).more x7.size
          have hS : Below W.heap.size W w7 := b7
          refine hK _ _ (fun _ => hS) ?_
          clear hK K
          try go_frame
          try go_frame
          refine oneY (i := 12) (oi := ⟨some 70, _, _, _, _, _⟩) (by kernel_rfl) rfl (by rfl) (fun K hK => ?_)
          refine append_rI _ _ rfl W.heap.size v7 f _ rfl own7 w7.heap.size (some ⟨vb, 0, none⟩) 1 1 [(f, x)] rfl rfl (fun e => by cases e) one7 (by omega) b7.size ?_
          intro v12 w12 own12 grow12
          have b12 := b7.grown grow12 b7.size (fun k hk => own_block_ge own7 k hk)
          have hS := b12
          refine hK _ _ (fun _ => hS) ?_
          clear hK K
          try go_frame
          try go_frame
          refine oneY (i := 19) (oi := ⟨some 77, _, _, _, _, _⟩) (by kernel_rfl) rfl (by rfl) (fun K hK => ?_)
          refine append_rI _ _ rfl W.heap.size v12 (f + 1) _ rfl own12 W.heap.size (cutRr A c f) (m - f) (c - f) (D.drop f) rfl (by rw [List.length_drop, ← HFL.out]) (cutRr_none HNN.out) (rds_cutRr (HRD.out.below b12) (by rw [← HFL.out]; exact hcap)) (by omega) b12.size ?_
          intro v19 w19 own19 grow19
          have b19 := b12.grown grow19 b12.size (fun k hk => own_block_ge own12 k hk)
          have hS := b19
          refine hK _ _ (fun _ => hS) ?_
          clear hK K
          try go_frame
          try go_frame
          refine oneY (i := 20) (oi := ⟨some 78, _, _, _, _, _⟩) (by kernel_rfl) rfl (by rfl) (fun K hK => ?_)
          refine valI (v := ?_) ?_ ?_
          rotate_left
          · go_simp; try with_reducible rfl
          refine hK _ _ (fun h => absurd h (by decide)) ?_
          clear hK K
          try go_frame
          refine oneY (i := 21) (oi := ⟨some 79, _, _, _, _, _⟩) (by kernel_rfl) rfl (by rfl) (fun K hK => ?_)
          refine valI (v := ?_) ?_ ?_
          rotate_left
          · go_simp; try with_reducible rfl
          refine hK _ _ (fun h => absurd h (by decide)) ?_
          clear hK K
          try go_frame
          refine oneY (i := 22) (oi := ⟨none, _, _, _, _, _⟩) (by kernel_rfl) rfl (by rfl) (fun K hK => ?_)
          have ht := (b19.block g hgz).trans HTB.out
          have k22 := cells_at (i := 0) ht rfl
          have f22 := heap_frozen ht 0
          have own20 : w19.ownsRow W.heap.size 73 9 v19 (insR D f x).length ((insR D f x).flatMap clSr) := by
            have e1 : (insR D f x).flatMap clSr = (D.take f).flatMap clSr ++ [(f, x)].flatMap clSr ++ (D.drop f).flatMap clSr := by unfold insR; rw [List.flatMap_append, List.flatMap_cons]; simp
            have e2 : (insR D f x).length = f + 1 + (m - f) := by unfold insR; rw [List.length_append, List.length_cons, List.length_take, List.length_drop, ← HFL.out]; omega
            rw [e1, e2]; exact own19
          obtain ⟨A2, c2, e2, _, _⟩ := own_rds own20 rfl rfl (fun x _ => clSr_len x)
          subst e2
          refine store_rI rfl rfl rfl k22 f22 ?_
          refine hK _ _ (fun h => absurd h (by decide)) ?_
          clear hK K
          try go_frame
          try go_frame
          refine doneY (by kernel_rfl) ?_ _
          go_wp2
          refine bodyPost_ret (results_tmp2 rfl _ _ _) rfl ⟨rfl, _, Rb.put ht own20 rfl, (HKW.out.then_below b19).trans (Kept.setCell w19 g 0 _) (fun _ _ e => e)⟩
      · obtain rfl : m = f := by omega
        go_upto_region 12 with fail
        have HTB := Lib.hid hw.tab
        have hgz := heap_lt hw.tab
        have HKT : Hid (∀ V, Below wr.heap.size wr V → V.cell? ⟨g, 0, none⟩ = some (.slice A m c)) := Lib.hid fun V hV => cells_at (i := 0) ((hV.block g hgz).trans HTB.out) rfl
        have HRD : Hid (RdS clSr 9 wr wr.heap.size A D) := Lib.hid (by obtain ⟨A3, c3, e3, r3, _, _⟩ := hw.sh; injection e3 with e3; rw [e3]; exact r3)
        have HXR : Hid (∀ V, Below wr.heap.size wr V → V.rangeAt w.heap.size 0 (clBd x)) := Lib.hid fun V hV => HXB.out _ (hbel.trans (hV.mono hbel.size))
        have HKW : Hid (Kept (fun k => k = g) w wr) := Lib.hid ((Kept.of_below HBV.out).then_below hbel)
        clear hw kt hbel
        generalize wr = W at *
        refine regionY 20 (fun w' => Below W.heap.size W w') (by kernel_rfl) ?_
        have b0 : Below W.heap.size W W.drew := (Below.refl _ W).drew
        have hS : Below W.heap.size W W.drew := b0
        generalize W.drew = X0 at *
        refine pureY (i := 0) (oi := ⟨some 58, _, _, _, _, _⟩) rfl (by kernel_rfl) (by kernel_rfl) (by kernel_rfl) (by kernel_rfl) (by kernel_rfl) (fun _ _ _ h => h) (by rfl) (v := ?_) (fun w hSw => ?_) hS ?_
        rotate_left
        · go_simp; try with_reducible rfl
        try go_frame
        refine pureY (i := 1) (oi := ⟨some 59, _, _, _, _, _⟩) rfl (by kernel_rfl) (by kernel_rfl) (by kernel_rfl) (by kernel_rfl) (by kernel_rfl) (fun _ _ _ h => h) (by rfl) (v := ?_) (fun w hSw => ?_) hS ?_
        rotate_left
        · go_simp; try with_reducible rfl
        try go_frame
        refine pureY (i := 2) (oi := ⟨some 60, _, _, _, _, _⟩) rfl (by kernel_rfl) (by kernel_rfl) (by kernel_rfl) (by kernel_rfl) (by kernel_rfl) (fun _ _ _ h => h) (by rfl) (v := ?_) (fun w hSw => ?_) hS ?_
        rotate_left
        · go_simp; try with_reducible rfl
        try go_frame
        refine pureY (i := 3) (oi := ⟨some 61, _, _, _, _, _⟩) rfl (by kernel_rfl) (by kernel_rfl) (by kernel_rfl) (by kernel_rfl) (by kernel_rfl) (fun _ _ _ h => h) (by rfl) (v := ?_) (fun w hSw => ?_) hS ?_
        rotate_left
        · go_simp; try with_reducible rfl
        try go_frame
        refine pureY (i := 4) (oi := ⟨some 62, _, _, _, _, _⟩) rfl (by kernel_rfl) (by kernel_rfl) (by kernel_rfl) (by kernel_rfl) (by kernel_rfl) (fun _ _ _ h => h) (by rfl) (fun w hSw => run_load_rsl rfl rfl (HKT.out _ hSw)) hS ?_
        try go_frame
        refine pureY (i := 5) (oi := ⟨some 63, _, _, _, _, _⟩) rfl (by kernel_rfl) (by kernel_rfl) (by kernel_rfl) (by kernel_rfl) (by kernel_rfl) (fun _ _ _ h => h) (by rfl) (v := ?_) (fun w hSw => ?_) hS ?_
        rotate_left
        · go_simp; try with_reducible rfl
        try go_frame
        refine pureY (i := 6) (oi := ⟨some 64, _, _, _, _, _⟩) rfl (by kernel_rfl) (by kernel_rfl) (by kernel_rfl) (by kernel_rfl) (by kernel_rfl) (fun _ _ _ h => h) (by rfl) (fun w hSw => run_cutr_h (h := (m : Int)) rfl rfl rfl (by omega) (by omega) (m := m) (by omega)) hS ?_
        try go_frame
        refine pureY (i := 8) (oi := ⟨some 66, _, _, _, _, _⟩) rfl (by kernel_rfl) (by kernel_rfl) (by kernel_rfl) (by kernel_rfl) (by kernel_rfl) (fun _ _ _ h => h) (by rfl) (v := ?_) (fun w hSw => ?_) hS ?_
        rotate_left
        · go_simp; try with_reducible rfl
        try go_frame
        refine pureY (i := 9) (oi := ⟨some 67, _, _, _, _, _⟩) rfl (by kernel_rfl) (by kernel_rfl) (by kernel_rfl) (by kernel_rfl) (by kernel_rfl) (fun _ _ _ h => h) (by rfl) (fun w hSw => run_load_bdR (x := x) rfl rfl (HXR.out _ hSw)) hS ?_
        try go_frame
        refine pureY (i := 10) (oi := ⟨some 68, _, _, _, _, _⟩) rfl (by kernel_rfl) (by kernel_rfl) (by kernel_rfl) (by kernel_rfl) (by kernel_rfl) (fun _ _ _ h => h) (by rfl) (v := ?_) (fun w hSw => ?_) hS ?_
        rotate_left
        · go_simp; try with_reducible rfl
        try go_frame
        refine pureY (i := 13) (oi := ⟨some 71, _, _, _, _, _⟩) rfl (by kernel_rfl) (by kernel_rfl) (by kernel_rfl) (by kernel_rfl) (by kernel_rfl) (fun _ _ _ h => h) (by rfl) (v := ?_) (fun w hSw => ?_) hS ?_
        rotate_left
        · go_simp; try with_reducible rfl
        try go_frame
        refine pureY (i := 14) (oi := ⟨some 72, _, _, _, _, _⟩) rfl (by kernel_rfl) (by kernel_rfl) (by kernel_rfl) (by kernel_rfl) (by kernel_rfl) (fun _ _ _ h => h) (by rfl) (v := ?_) (fun w hSw => ?_) hS ?_
        rotate_left
        · go_simp; try with_reducible rfl
        try go_frame
        refine pureY (i := 15) (oi := ⟨some 73, _, _, _, _, _⟩) rfl (by kernel_rfl) (by kernel_rfl) (by kernel_rfl) (by kernel_rfl) (by kernel_rfl) (fun _ _ _ h => h) (by rfl) (v := ?_) (fun w hSw => ?_) hS ?_
        rotate_left
        · go_simp; try with_reducible rfl
        try go_frame
        refine pureY (i := 16) (oi := ⟨some 74, _, _, _, _, _⟩) rfl (by kernel_rfl) (by kernel_rfl) (by kernel_rfl) (by kernel_rfl) (by kernel_rfl) (fun _ _ _ h => h) (by rfl) (fun w hSw => run_load_rsl rfl rfl (HKT.out _ hSw)) hS ?_
        try go_frame
        refine pureY (i := 17) (oi := ⟨some 75, _, _, _, _, _⟩) rfl (by kernel_rfl) (by kernel_rfl) (by kernel_rfl) (by kernel_rfl) (by kernel_rfl) (fun _ _ _ h => h) (by rfl) (v := ?_) (fun w hSw => ?_) hS ?_
        rotate_left
        · go_simp; try with_reducible rfl
        try go_frame
        refine pureY (i := 18) (oi := ⟨some 76, _, _, _, _, _⟩) rfl (by kernel_rfl) (by kernel_rfl) (by kernel_rfl) (by kernel_rfl) (by kernel_rfl) (fun _ _ _ h => h) (by rfl) (fun w hSw => run_cutr_l rfl rfl (l := m) rfl (by omega) (m := m - m) rfl) hS ?_
        try go_frame
        refine twoY (i := 7) (j := 11) (oi := ⟨some 65, _, _, _, _, _⟩) (oj := ⟨some 69, _, _, _, _, _⟩) (by kernel_rfl) rfl rfl (by rfl) (by rfl) (fun K hK => ?_) (fun K hK => ?_)
        · refine append_rI _ _ rfl W.heap.size (.slice none 0 0) 0 [] rfl (World.ownsRow_nil _ _ _ _) W.heap.size A m c (D.take m) rfl (by rw [List.length_take, ← HFL.out]; omega) HNN.out (rds_takeR (HRD.out.below b0)) (by omega) b0.size ?_
          intro v7 w7 own7 grow7
          rw [Nat.zero_add, List.nil_append] at own7
          have x7 := (Below.refl X0.heap.size X0).grown grow7 (Nat.le_refl _) (fun _ hk => by cases hk)
          have b7 := b0.trans (x7.mono b0.size)
          have hS : Below W.heap.size W w7 := b7
          refine hK _ _ (fun _ => hS) ?_
          clear hK K
          try go_frame
          refine oneY (i := 11) (oi := ⟨some 69, _, _, _, _, _⟩) (by kernel_rfl) rfl (by rfl) (fun K hK => ?_)
          refine valGI (run_bsR (cs := (clSr (m, x)).toArray) rfl rfl rfl) ?_
          have b11 := b7.alloc b7.size (.cells (clSr (m, x)).toArray 73)
          have one := rds_oneR w7 (m, x)
          have own := own7.alloc (.cells (clSr (m, x)).toArray 73)
          have hS := b11
          refine hK _ _ (fun _ => hS) ?_
          clear hK K
          generalize w7.alloc (.cells (clSr (m, x)).toArray 73) = w11 at *
          obtain ⟨vb, hvb⟩ : ∃ vb, vb = w7.heap.size := ⟨_, rfl⟩
          rw [← hvb] at one ⊢
          clear hvb
          try go_frame
          try go_frame
          refine oneY (i := 12) (oi := ⟨some 70, _, _, _, _, _⟩) (by kernel_rfl) rfl (by rfl) (fun K hK => ?_)
          refine append_rI _ _ rfl W.heap.size v7 m _ rfl own w11.heap.size (some ⟨vb, 0, none⟩) 1 1 [(m, x)] rfl rfl (fun e => by cases e) one (by omega) b11.size ?_
          intro v12 w12 own12 grow12
          have b12 := b11.grown grow12 b11.size (fun k hk => own_block_ge own k hk)
          have hS := b12
          refine hK _ _ (fun _ => hS) ?_
          clear hK K
          try go_frame
          try go_frame
          refine oneY (i := 19) (oi := ⟨some 77, _, _, _, _, _⟩) (by kernel_rfl) rfl (by rfl) (fun K hK => ?_)
          refine append_rI _ _ rfl W.heap.size v12 (m + 1) _ rfl own12 W.heap.size (cutRr A c m) (m - m) (c - m) (D.drop m) rfl (by rw [List.length_drop, ← HFL.out]) (cutRr_none HNN.out) (rds_cutRr (HRD.out.below b12) (by rw [← HFL.out]; exact hcap)) (by omega) b12.size ?_
          intro v19 w19 own19 grow19
          have b19 := b12.grown grow19 b12.size (fun k hk => own_block_ge own12 k hk)
          have hS := b19
          refine hK _ _ (fun _ => hS) ?_
          clear hK K
          try go_frame
          try go_frame
          refine oneY (i := 20) (oi := ⟨some 78, _, _, _, _, _⟩) (by kernel_rfl) rfl (by rfl) (fun K hK => ?_)
          refine valI (v := ?_) ?_ ?_
          rotate_left
          · go_simp; try with_reducible rfl
          refine hK _ _ (fun h => absurd h (by decide)) ?_
          clear hK K
          try go_frame
          refine oneY (i := 21) (oi := ⟨some 79, _, _, _, _, _⟩) (by kernel_rfl) rfl (by rfl) (fun K hK => ?_)
          refine valI (v := ?_) ?_ ?_
          rotate_left
          · go_simp; try with_reducible rfl
          refine hK _ _ (fun h => absurd h (by decide)) ?_
          clear hK K
          try go_frame
          refine oneY (i := 22) (oi := ⟨none, _, _, _, _, _⟩) (by kernel_rfl) rfl (by rfl) (fun K hK => ?_)
          have ht := (b19.block g hgz).trans HTB.out
          have k22 := cells_at (i := 0) ht rfl
          have f22 := heap_frozen ht 0
          have own20 : w19.ownsRow W.heap.size 73 9 v19 (insR D m x).length ((insR D m x).flatMap clSr) := by
            have e1 : (insR D m x).flatMap clSr = (D.take m).flatMap clSr ++ [(m, x)].flatMap clSr ++ (D.drop m).flatMap clSr := by unfold insR; rw [List.flatMap_append, List.flatMap_cons]; simp
            have e2 : (insR D m x).length = m + 1 + (m - m) := by unfold insR; rw [List.length_append, List.length_cons, List.length_take, List.length_drop, ← HFL.out]; omega
            rw [e1, e2]; exact own19
          obtain ⟨A2, c2, e2, _, _⟩ := own_rds own20 rfl rfl (fun x _ => clSr_len x)
          subst e2
          refine store_rI rfl rfl rfl k22 f22 ?_
          refine hK _ _ (fun h => absurd h (by decide)) ?_
          clear hK K
          try go_frame
          try go_frame
          refine doneY (by kernel_rfl) ?_ _
          go_wp2
          refine bodyPost_ret (results_tmp2 rfl _ _ _) rfl ⟨rfl, _, Rb.put ht own20 rfl, (HKW.out.then_below b19).trans (Kept.setCell w19 g 0 _) (fun _ _ e => e)⟩
        · refine valGI (run_bsR (cs := (clSr (m, x)).toArray) rfl rfl rfl) ?_
          have b11 := b0.alloc b0.size (.cells (clSr (m, x)).toArray 73)
          have one := rds_oneR X0 (m, x)
          have hS := b11
          refine hK _ _ (fun _ => hS) ?_
          clear hK K
          generalize X0.alloc (.cells (clSr (m, x)).toArray 73) = w11 at *
          obtain ⟨vb, hvb⟩ : ∃ vb, vb = X0.heap.size := ⟨_, rfl⟩
          rw [← hvb] at one ⊢
          clear hvb
          try go_frame
          refine oneY (i := 7) (oi := ⟨some 65, _, _, _, _, _⟩) (by kernel_rfl) rfl (by rfl) (fun K hK => ?_)
          refine append_rI _ _ rfl W.heap.size (.slice none 0 0) 0 [] rfl (World.ownsRow_nil _ _ _ _) W.heap.size A m c (D.take m) rfl (by rw [List.length_take, ← HFL.out]; omega) HNN.out (rds_takeR (HRD.out.below b11)) (by omega) b11.size ?_
          intro v7 w7 own7 grow7
          rw [Nat.zero_add, List.nil_append] at own7
          have x7 := (Below.refl w11.heap.size w11).grown grow7 (Nat.le_refl _) (fun _ hk => by cases hk)
          have b7 := b11.trans (x7.mono b11.size)
          have one7 := (one.below x7).more x7.size
          have hS : Below W.heap.size W w7 := b7
          refine hK _ _ (fun _ => hS) ?_
          clear hK K
          try go_frame
          try go_frame
          refine oneY (i := 12) (oi := ⟨some 70, _, _, _, _, _⟩) (by kernel_rfl) rfl (by rfl) (fun K hK => ?_)
          refine append_rI _ _ rfl W.heap.size v7 m _ rfl own7 w7.heap.size (some ⟨vb, 0, none⟩) 1 1 [(m, x)] rfl rfl (fun e => by cases e) one7 (by omega) b7.size ?_
          intro v12 w12 own12 grow12
          have b12 := b7.grown grow12 b7.size (fun k hk => own_block_ge own7 k hk)
          have hS := b12
          refine hK _ _ (fun _ => hS) ?_
          clear hK K
          try go_frame
          try go_frame
          refine oneY (i := 19) (oi := ⟨some 77, _, _, _, _, _⟩) (by kernel_rfl) rfl (by rfl) (fun K hK => ?_)
          refine append_rI _ _ rfl W.heap.size v12 (m + 1) _ rfl own12 W.heap.size (cutRr A c m) (m - m) (c - m) (D.drop m) rfl (by rw [List.length_drop, ← HFL.out]) (cutRr_none HNN.out) (rds_cutRr (HRD.out.below b12) (by rw [← HFL.out]; exact hcap)) (by omega) b12.size ?_
          intro v19 w19 own19 grow19
          have b19 := b12.grown grow19 b12.size (fun k hk => own_block_ge own12 k hk)
          have hS := b19
          refine hK _ _ (fun _ => hS) ?_
          clear hK K
          try go_frame
          try go_frame
          refine oneY (i := 20) (oi := ⟨some 78, _, _, _, _, _⟩) (by kernel_rfl) rfl (by rfl) (fun K hK => ?_)
          refine valI (v := ?_) ?_ ?_
          rotate_left
          · go_simp; try with_reducible rfl
          refine hK _ _ (fun h => absurd h (by decide)) ?_
          clear hK K
          try go_frame
          refine oneY (i := 21) (oi := ⟨some 79, _, _, _, _, _⟩) (by kernel_rfl) rfl (by rfl) (fun K hK => ?_)
          refine valI (v := ?_) ?_ ?_
          rotate_left
          · go_simp; try with_reducible rfl
          refine hK _ _ (fun h => absurd h (by decide)) ?_
          clear hK K
          try go_frame
          refine oneY (i := 22) (oi := ⟨none, _, _, _, _, _⟩) (by kernel_rfl) rfl (by rfl) (fun K hK => ?_)
          have ht := (b19.block g hgz).trans HTB.out
          have k22 := cells_at (i := 0) ht rfl
          have f22 := heap_frozen ht 0
          have own20 : w19.ownsRow W.heap.size 73 9 v19 (insR D m x).length ((insR D m x).flatMap clSr) := by
            have e1 : (insR D m x).flatMap clSr = (D.take m).flatMap clSr ++ [(m, x)].flatMap clSr ++ (D.drop m).flatMap clSr := by unfold insR; rw [List.flatMap_append, List.flatMap_cons]; simp
            have e2 : (insR D m x).length = m + 1 + (m - m) := by unfold insR; rw [List.length_append, List.length_cons, List.length_take, List.length_drop, ← HFL.out]; omega
            rw [e1, e2]; exact own19
          obtain ⟨A2, c2, e2, _, _⟩ := own_rds own20 rfl rfl (fun x _ => clSr_len x)
          subst e2
          refine store_rI rfl rfl rfl k22 f22 ?_
          refine hK _ _ (fun h => absurd h (by decide)) ?_
          clear hK K
          try go_frame
          try go_frame
          refine doneY (by kernel_rfl) ?_ _
          go_wp2
          refine bodyPost_ret (results_tmp2 rfl _ _ _) rfl ⟨rfl, _, Rb.put ht own20 rfl, (HKW.out.then_below b19).trans (Kept.setCell w19 g 0 _) (fun _ _ e => e)⟩
end
end Go.Proofs.YtafidbjaeopciaaDoor

/-
  Layer 22's bindings of the code and the document's: are they the same. Conditions are each theorem's own.
-/
namespace Go.Proofs.YtafidbjaeopciaaDoor
open Go.RowKit Go.Shelf
attribute [local go_sem] Oper.semAt_some
theorem run_load_rdb {o : Oper} {a : Act} {w : World} {x : Operand} {p : Addr} {A : Option Addr} (ho : o.op = .load 28 x) (hx : a.eval x = .pointer (some p)) (hc : w.cell? p = some (.pointer A)) :
    (execOp a.eval o).run Tryd.prog w = .ok (.value (.pointer A)) w := by
  unfold execOp
  simp only [ho, hx, Instr.loadAt, Instr.sureAddr, Sem.run_bind, Sem.run_pure, Result.andThen_ok]
  go_simp
theorem store_boolR_wp {o : Oper} {a : Act} {w : World} {K : Act → World → Prop} {Q : Exit → Act → World → Prop} {x y : Operand} {p : Addr} {v0 : Value} {n : Bool} (ho : o.op = .store 4 x y) (hx : a.eval x = .pointer (some p)) (hy : a.eval y = .bool n) (hc : w.cell? p = some v0) (hf : w.frozen? p = false) (h : K (a.put o.dst undef) (w.setCell p (.bool n))) : o.wp Tryd.prog a w K Q := by
  unfold Oper.wp execOp
  simp only [ho, hx, hy]
  go_simp
  exact h
set_option maxRecDepth 100000 in
theorem ld_bdR {o : Oper} {a : Act} {w : World} {y : Operand} {g i : Nat} {L : List Value} (ho : o.op = .load 36 y) (hx : a.eval y = .pointer (some ⟨g, i, none⟩)) (hr : w.rangeAt g i L) (hl : L.length = 8) :
    (execOp a.eval o).run Tryd.prog w = .ok (.value (.agg L.toArray)) w := by
  have h := run_loadVar_mid (P := Tryd.prog) w g i 36 L _ hr Tryd.underlying36 rfl (by rw [hl]; kernel_rfl)
  unfold execOp
  simp only [ho, hx, Instr.loadAt, Instr.sureAddr, Sem.run_bind, Sem.run_pure, Result.andThen_ok, h]
theorem eqR_bd (x : Bd) (w : World) : (Op.equalIn 10000 36 (.agg (clBd x).toArray) (.agg (clBd x).toArray)).run Tryd.prog w = .ok true w := by
  unfold clBd
  go_simp
theorem KeptR.box {X Y : World} {r B : Nat} {T : TypeId} {v : Value} (k : Kept (fun k => k = r) X Y) (h : Boxed X B T v) : B ≠ r → Boxed Y B T v := fun hne => Boxed.keptH h k hne
section
variable {w : World} {B0 d t1 b1 t2 b2 g : Nat} {A : Option Addr} {c : Nat} {v : Value} {most most2 : Int} {S : List (Option Bd)} {f : Nat}
theorem Db.keptB {w' : World} {B : Nat} {cs : Array Value} {ty : TypeId} (h : Db w B0 d t1 b1 t2 b2 A c most S f) (k : Kept (fun i => i = B) w w') (hB : w.heap[B]? = some (.cells cs ty (0, 0))) (hn : ¬ T4 ty) : Db w' B0 d t1 b1 t2 b2 A c most S f := by
  obtain ⟨⟨c1, i1⟩, c2, i2⟩ := h.inn.tab
  obtain ⟨⟨c3, i3⟩, c4, i4⟩ := h.out.tab
  exact ⟨(k.block d (heap_lt h.obj) (heap_ty h.obj hB (fun e => hn (.inl e.symm)))).trans h.obj, own_kept1 h.own k hB (fun e => hn (.inr (.inl e))),
    h.inn.kept k (heap_ty i1 hB (fun e => hn (.inr (.inr (.inl e.symm))))) (heap_ty i2 hB (fun e => hn (.inr (.inr (.inr e.symm))))),
    h.out.kept k (heap_ty i3 hB (fun e => hn (.inr (.inr (.inl e.symm))))) (heap_ty i4 hB (fun e => hn (.inr (.inr (.inr e.symm))))),
    h.free, h.fit, h.ni, h.no, h.mst, h.n, h.z, h.ap⟩
set_option maxRecDepth 100000 in
set_option maxHeartbeats 4000000 in
theorem bsame (h : Db w B0 d t1 b1 t2 b2 A c most S f) (q : Rb w g v most2 (docB 0 S)) (hS : (docB 0 S).length ≤ 1000) : Calls Tryd.prog 19 #[.pointer (some ⟨d, 0, none⟩), .pointer (some ⟨g, 0, none⟩)] w fun e w' => e = .returned (.bool true) ∧ Below w.heap.size w w' := by
  have HALL : Hid (∀ V, Below w.heap.size w V → Calls Tryd.prog 20 #[.pointer (some ⟨d, 0, none⟩)] V fun e w' => AllB V S e w') := Lib.hid fun V hV => ball (h.below hV)
  have HSZ : Hid (S.length ≤ 1000000) := Lib.hid (by have := h.n; have := h.mst; omega)
  obtain ⟨A0, c0, rfl, _, _, _⟩ := q.sh
  obtain ⟨DD, hDD⟩ : ∃ DD, DD = docB 0 S := ⟨_, rfl⟩
  have HDD := Lib.hid hDD
  rw [← hDD] at q hS
  obtain ⟨n, hn⟩ : ∃ n, n = DD.length := ⟨_, rfl⟩
  have HN := Lib.hid hn
  have q' : Rb w g (.slice A0 n c0) most2 DD := by rw [hn, hDD]; rw [hDD] at q; exact q
  have HM := Lib.hid h
  have HQ := Lib.hid q'
  have hgz := heap_lt q.tab
  clear h q q' hn hDD
  have hW0 : Below w.heap.size w (((w.alloc (.cells #[.pointer (some ⟨g, 0, none⟩)] 28)).alloc (.cells #[.bool false] 4)).alloc (.cells #[.int .i64 0] 3)) := (((Below.refl _ w).alloc (Nat.le_refl _) _).alloc (by simp) _).alloc (by simp; omega) _
  have hx0 : Boxed (((w.alloc (.cells #[.pointer (some ⟨g, 0, none⟩)] 28)).alloc (.cells #[.bool false] 4)).alloc (.cells #[.int .i64 0] 3)) w.heap.size 28 (.pointer (some ⟨g, 0, none⟩)) := ((Boxed.new w 28 _).alloc _).alloc _
  have hr0 : Boxed (((w.alloc (.cells #[.pointer (some ⟨g, 0, none⟩)] 28)).alloc (.cells #[.bool false] 4)).alloc (.cells #[.int .i64 0] 3)) (w.heap.size + 1) 4 (.bool false) := by
    have := Boxed.new (w.alloc (.cells #[.pointer (some ⟨g, 0, none⟩)] 28)) 4 (.bool false)
    rw [World.size_alloc] at this
    exact this.alloc _
  have hc0 : Boxed (((w.alloc (.cells #[.pointer (some ⟨g, 0, none⟩)] 28)).alloc (.cells #[.bool false] 4)).alloc (.cells #[.int .i64 0] 3)) (w.heap.size + 1 + 1) 3 (.int .i64 0) := by
    have := Boxed.new ((w.alloc (.cells #[.pointer (some ⟨g, 0, none⟩)] 28)).alloc (.cells #[.bool false] 4)) 3 (.int .i64 0)
    rw [World.size_alloc, World.size_alloc] at this
    exact this
  have hz0 : (((w.alloc (.cells #[.pointer (some ⟨g, 0, none⟩)] 28)).alloc (.cells #[.bool false] 4)).alloc (.cells #[.int .i64 0] 3)).heap.size = w.heap.size + 3 := by simp
  refine (callsIn_wide (n := 4)).1 ?_
  refine callsIn_of_wp_marks Tryd.func19 rfl trivial ?_ rfl
  simp only [Tryd.ntmps19, List.size_toArray, List.length_cons, List.length_nil, Nat.reduceAdd, Nat.reduceSub, Array.replicate_succ, Array.replicate_zero, List.push_toArray, List.append_toArray, List.nil_append, List.cons_append]
  gi_upto_region 2 with fail
  generalize hV0 : (((w.alloc (.cells #[.pointer (some ⟨g, 0, none⟩)] 28)).alloc (.cells #[.bool false] 4)).alloc (.cells #[.int .i64 0] 3)) = V0 at *
  clear hV0
  gi_wp2_with (refine ⟨trivial, ?_⟩; gi_at_call 20; refine (callsIn_wide.2 (HALL.out _ hW0)).mono ?_; rintro e w3 ⟨rfl, A3, c3, hb3, hr3, hg3, x3⟩)
  have bb3 : Below w.heap.size w w3 := hW0.trans (x3.mono hW0.size)
  have hx3 := Boxed.below hx0 x3 (Boxed.lt hx0)
  have hc3 := Boxed.below hc0 x3 (Boxed.lt hc0)
  have hR3 := Boxed.below hr0 x3 (Boxed.lt hr0)
  have hz3 := x3.size
  rw [hz0] at hz3 hb3 hg3
  have HAL : Hid (∀ ga, A3 = some ga → ga.block < w3.heap.size) := Lib.hid (fun ga hga => (hg3 ga hga).2)
  have HNA : Hid (∀ ga, A3 = some ga → ga.block ≠ w.heap.size + 1 + 1) := Lib.hid fun ga hga => by have := (hg3 ga hga).1; omega
  have hseq := ball1_seq _ c3 _ A3 S w3 hb3.cell hr3 (Nat.le_refl _) HSZ.out (4 - 1) (by decide)
  rw [← HDD.out] at hseq
  have HSQ := Lib.hid hseq
  have hlt3 := Boxed.lt hc3
  clear hx0 hr0 hc0 hb3 hr3 hg3 hseq
  refine wpIn_actB (fun a0 ha0 => ?_)
  refine range_toldW (by omega) (gf := 31) (lb := #[.pointer (some ⟨w.heap.size + 3, 0, none⟩)]) (by subst ha0; first | rfl | (rw [← hz0]; rfl)) (enters_of Tryd.func31 (by kernel_rfl) rfl)
    HSQ.out KeepN.trans (fun V l r r' hl hr => KeepN.loop hr) (Below.refl _ _) (fun _ => rfl)
    (fun pre x V l r r' h _ hl => h)
    (fun pre X => (Boxed X (w.heap.size + 1 + 1) 3 (.int .i64 (pre.length : Int)) ∧ (Boxed X w.heap.size 28 (.pointer (some ⟨g, 0, none⟩)) ∧ Boxed X (w.heap.size + 1) 4 (.bool false)) ∧ Below w.heap.size w X) ∧ w3.heap.size ≤ X.heap.size)
    (fun _ _ _ => False)
    (fun pre X Y r hs hg hr => ⟨⟨box_keep hs.1.1 hg hr, ⟨box_keep hs.1.2.1.1 hg hr, box_keep hs.1.2.1.2 hg hr⟩, below_keep hs.1.2.2 hg hr (by omega) (Nat.le_refl _)⟩, Nat.le_trans hs.2 hg.size⟩)
    (fun cd pre X Y r hs hg hr => hs)
    ⟨⟨hc3, ⟨hx3, hR3⟩, bb3⟩, Nat.le_refl _⟩
    (fun x W => { tmps := (((a0.tmps.setIfInBounds 10 (.int .i64 (x.1 : Int))).setIfInBounds 11 (bdV x.2)).setIfInBounds 6 (.int .i64 (x.1 : Int))).setIfInBounds 7 (.pointer (some ⟨W.heap.size, 0, none⟩)), defers := [] })
    (fun x W => W.alloc (.cells (clBd x.2).toArray 36))
    (fun x W => World.grownBy_alloc W _ none) (fun pre x W h => h)
    (fun x W hz => KeepN.of_heap (fun ga hga => Below.heap_alloc _ _ _ (by have := HAL.out ga hga; omega))) ?assign ?body ?done ?stop
  case assign =>
    intro l x W K hK
    subst ha0
    dsimp only [encB]
    simp only [List.setIfInBounds_toArray, List.set_cons_succ, List.set_cons_zero] at hK
    gi_wp2_with ((with_reducible show wpListIn _ _ _ _ _ (Oper.mk _ (Op.store 36 _ _) _ _ _ _ :: _) _ _); refine listR_skip rfl (fun c h => by cases h) (run_store_bdN (cs := (clBd x.2).toArray) rfl rfl rfl (World.alloc_heap_new W _) rfl rfl (clBd_one _)) ?_; rw [World.setRow_alloc_new])
    exact hK
  case body =>
    rintro l pre x V Y ⟨⟨hcY, ⟨hxY, hRY⟩, hBY⟩, hzY⟩ ⟨more, hmore⟩ ⟨r, hr⟩ hl
    subst ha0
    simp only [List.setIfInBounds_toArray, List.set_cons_succ, List.set_cons_zero]
    have hbx : Y.heap[V.heap.size]? = some (.cells (clBd x.2).toArray 36 (0, 0)) := by
      rw [hr, World.putObj_heap_other (by omega)]
      exact World.alloc_heap_new V _
    obtain ⟨vb, hvb⟩ : ∃ vb, vb = V.heap.size := ⟨_, rfl⟩
    rw [← hvb] at hbx ⊢
    obtain ⟨m, hm⟩ : ∃ m, m = pre.length := ⟨_, rfl⟩
    have hmn : m < n := by rw [hm, HN.out, hmore]; simp
    have hget : DD[m]? = some x := by rw [hmore, hm]; simp
    rw [← hm] at hcY
    have hqY := HQ.out.below hBY
    obtain ⟨b, e0, hb, hrow⟩ := hqY.at_ hget
    subst e0
    have hY0 := heap_lt hqY.tab
    have KN : Hid (∀ V, Below Y.heap.size Y V → V.cell? ⟨w.heap.size + 1 + 1, 0, none⟩ = some (.int .i64 (m : Int))) := Lib.hid fun V hV => (hV.cell (p := ⟨w.heap.size + 1 + 1, 0, none⟩) (Boxed.lt hcY)).trans hcY.cell
    have KX : Hid (∀ V, Below Y.heap.size Y V → V.cell? ⟨w.heap.size, 0, none⟩ = some (.pointer (some ⟨g, 0, none⟩))) := Lib.hid fun V hV => (hV.cell (p := ⟨w.heap.size, 0, none⟩) (Boxed.lt hxY)).trans hxY.cell
    have KT : Hid (∀ V, Below Y.heap.size Y V → V.cell? ⟨g, 0, none⟩ = some (.slice (some ⟨b, 0, none⟩) n c0)) := Lib.hid fun V hV => cells_at (i := 0) ((hV.block g hY0).trans hqY.tab) rfl
    have KK : Hid (∀ V, Below Y.heap.size Y V → V.cell? ⟨b, m * 9, none⟩ = some (.int .i64 (x.1 : Int))) := Lib.hid fun V hV => by simpa using range_belowR hrow hb hV 0 _ rfl
    have KV : Hid (∀ V, Below Y.heap.size Y V → V.rangeAt b (m * 9 + 1) (clBd x.2)) := Lib.hid fun V hV => clSr_bd (range_belowR hrow hb hV)
    have KB : Hid (∀ V, Below Y.heap.size Y V → V.rangeAt vb 0 (clBd x.2)) := Lib.hid fun V hV => range_belowR (box_bd hbx) (heap_lt hbx) hV
    have HL8 := Lib.hid (show (clBd x.2).length = 8 from rfl)
    have eS : ∀ w, (Op.equalIn 10000 36 (.agg (clBd x.2).toArray) (.agg (clBd x.2).toArray)).run Tryd.prog w = .ok true w := eqR_bd x.2
    have HM2 := Lib.hid hm
    have dm : decide (n ≤ m) = false := by simp; omega
    have dm' : decide ((n : Int) ≤ (m : Int)) = false := by simp; omega
    have dk : ((x.1 : Int) == (x.1 : Int)) = true := by simp
    have hn1 : n ≤ 1000 := by rw [HN.out]; exact hS
    have cn : Y.drew.cell? ⟨w.heap.size + 1 + 1, 0, none⟩ = some (.int .i64 (m : Int)) := hcY.cell
    have fn_ : Y.drew.frozen? ⟨w.heap.size + 1 + 1, 0, none⟩ = false := hcY.frozen
    clear hmore hget hm hqY hrow hS hr hbx hvb hl
    unfold bdV
    generalize clBd x.2 = LL at *
    gi_upto_region 5 with fail
    refine region_roundH (S := fun w' => Below Y.heap.size Y w') (by kernel_rfl) (by kernel_rfl) (fun h => by obtain ⟨_, _, h⟩ := h; exact h) (Below.refl _ Y).drew (fun hS => ?_)
    refine held_pure (i := 0) (oi := ⟨some 12, _, _, _, _, _⟩) rfl (by kernel_rfl) (by kernel_rfl) (by kernel_rfl) (fun _ _ _ h => h) (by rfl) (fun w hSw => run_load_int rfl rfl (KN.out _ hSw)) hS (fun hS => ?_)
    try go_frame
    refine held_pure (i := 1) (oi := ⟨some 13, _, _, _, _, _⟩) rfl (by kernel_rfl) (by kernel_rfl) (by kernel_rfl) (fun _ _ _ h => h) (by rfl) (fun w hSw => run_load_rdb rfl rfl (KX.out _ hSw)) hS (fun hS => ?_)
    try go_frame
    refine held_pure (i := 2) (oi := ⟨some 14, _, _, _, _, _⟩) rfl (by kernel_rfl) (by kernel_rfl) (by kernel_rfl) (fun _ _ _ h => h) (by rfl) (v := ?_) (fun w hSw => ?_) hS (fun hS => ?_)
    rotate_left
    · go_simp; try with_reducible rfl
    try go_frame
    refine held_pure (i := 3) (oi := ⟨some 15, _, _, _, _, _⟩) rfl (by kernel_rfl) (by kernel_rfl) (by kernel_rfl) (fun _ _ _ h => h) (by rfl) (v := ?_) (fun w hSw => ?_) hS (fun hS => ?_)
    rotate_left
    · go_simp; try with_reducible rfl
    try go_frame
    refine held_pure (i := 4) (oi := ⟨some 16, _, _, _, _, _⟩) rfl (by kernel_rfl) (by kernel_rfl) (by kernel_rfl) (fun _ _ _ h => h) (by rfl) (fun w hSw => run_load_rsl rfl rfl (KT.out _ hSw)) hS (fun hS => ?_)
    try go_frame
    refine held_pure (i := 5) (oi := ⟨some 17, _, _, _, _, _⟩) rfl (by kernel_rfl) (by kernel_rfl) (by kernel_rfl) (fun _ _ _ h => h) (by rfl) (v := ?_) (fun w hSw => ?_) hS (fun hS => ?_)
    rotate_left
    · go_simp; try with_reducible rfl
    try go_frame
    refine held_pure (i := 6) (oi := ⟨some 18, _, _, _, _, _⟩) rfl (by kernel_rfl) (by kernel_rfl) (by kernel_rfl) (fun _ _ _ h => h) (by rfl) (v := .bool false) (fun w hSw => by go_simp; try exact dm') hS (fun hS => ?_)
    try go_frame
    refine held_pure (i := 7) (oi := ⟨some 19, _, _, _, _, _⟩) rfl (by kernel_rfl) (by kernel_rfl) (by kernel_rfl) (fun _ _ _ h => h) (by rfl) (v := ?_) (fun w hSw => ?_) hS (fun hS => ?_)
    rotate_left
    · go_simp; try with_reducible rfl
    try go_frame
    refine held_pure (i := 8) (oi := ⟨some 20, _, _, _, _, _⟩) rfl (by kernel_rfl) (by kernel_rfl) (by kernel_rfl) (fun _ _ _ h => h) (by rfl) (fun w hSw => run_load_rdb rfl rfl (KX.out _ hSw)) hS (fun hS => ?_)
    try go_frame
    refine held_pure (i := 9) (oi := ⟨some 21, _, _, _, _, _⟩) rfl (by kernel_rfl) (by kernel_rfl) (by kernel_rfl) (fun _ _ _ h => h) (by rfl) (v := ?_) (fun w hSw => ?_) hS (fun hS => ?_)
    rotate_left
    · go_simp; try with_reducible rfl
    try go_frame
    refine held_pure (i := 10) (oi := ⟨some 22, _, _, _, _, _⟩) rfl (by kernel_rfl) (by kernel_rfl) (by kernel_rfl) (fun _ _ _ h => h) (by rfl) (v := ?_) (fun w hSw => ?_) hS (fun hS => ?_)
    rotate_left
    · go_simp; try with_reducible rfl
    try go_frame
    refine held_pure (i := 11) (oi := ⟨some 23, _, _, _, _, _⟩) rfl (by kernel_rfl) (by kernel_rfl) (by kernel_rfl) (fun _ _ _ h => h) (by rfl) (fun w hSw => run_load_rsl rfl rfl (KT.out _ hSw)) hS (fun hS => ?_)
    try go_frame
    refine held_pure (i := 12) (oi := ⟨some 24, _, _, _, _, _⟩) rfl (by kernel_rfl) (by kernel_rfl) (by kernel_rfl) (fun _ _ _ h => h) (by rfl) (fun w hSw => run_load_int rfl rfl (KN.out _ hSw)) hS (fun hS => ?_)
    try go_frame
    refine held_pure (i := 13) (oi := ⟨some 25, _, _, _, _, _⟩) rfl (by kernel_rfl) (by kernel_rfl) (by kernel_rfl) (fun _ _ _ h => h) (by rfl) (v := .pointer (some ⟨b, m * 9, none⟩)) (fun w hSw => by go_simp; try exact fun h => absurd h (by omega)) hS (fun hS => ?_)
    try go_frame
    refine held_pure (i := 14) (oi := ⟨some 26, _, _, _, _, _⟩) rfl (by kernel_rfl) (by kernel_rfl) (by kernel_rfl) (fun _ _ _ h => h) (by rfl) (v := ?_) (fun w hSw => ?_) hS (fun hS => ?_)
    rotate_left
    · go_simp; try with_reducible rfl
    try go_frame
    refine held_pure (i := 15) (oi := ⟨some 27, _, _, _, _, _⟩) rfl (by kernel_rfl) (by kernel_rfl) (by kernel_rfl) (fun _ _ _ h => h) (by rfl) (fun w hSw => run_load_int rfl rfl (KK.out _ hSw)) hS (fun hS => ?_)
    try go_frame
    refine held_pure (i := 16) (oi := ⟨some 28, _, _, _, _, _⟩) rfl (by kernel_rfl) (by kernel_rfl) (by kernel_rfl) (fun _ _ _ h => h) (by rfl) (v := ?_) (fun w hSw => ?_) hS (fun hS => ?_)
    rotate_left
    · go_simp; try with_reducible rfl
    try go_frame
    refine held_pure (i := 17) (oi := ⟨some 29, _, _, _, _, _⟩) rfl (by kernel_rfl) (by kernel_rfl) (by kernel_rfl) (fun _ _ _ h => h) (by rfl) (v := .bool false) (fun w hSw => by go_simp; try exact dk) hS (fun hS => ?_)
    try go_frame
    refine held_pure (i := 18) (oi := ⟨some 30, _, _, _, _, _⟩) rfl (by kernel_rfl) (by kernel_rfl) (by kernel_rfl) (fun _ _ _ h => h) (by rfl) (v := ?_) (fun w hSw => ?_) hS (fun hS => ?_)
    rotate_left
    · go_simp; try with_reducible rfl
    try go_frame
    refine held_pure (i := 19) (oi := ⟨some 31, _, _, _, _, _⟩) rfl (by kernel_rfl) (by kernel_rfl) (by kernel_rfl) (fun _ _ _ h => h) (by rfl) (v := ?_) (fun w hSw => ?_) hS (fun hS => ?_)
    rotate_left
    · go_simp; try with_reducible rfl
    try go_frame
    refine held_pure (i := 20) (oi := ⟨some 32, _, _, _, _, _⟩) rfl (by kernel_rfl) (by kernel_rfl) (by kernel_rfl) (fun _ _ _ h => h) (by rfl) (fun w hSw => run_load_rdb rfl rfl (KX.out _ hSw)) hS (fun hS => ?_)
    try go_frame
    refine held_pure (i := 21) (oi := ⟨some 33, _, _, _, _, _⟩) rfl (by kernel_rfl) (by kernel_rfl) (by kernel_rfl) (fun _ _ _ h => h) (by rfl) (v := ?_) (fun w hSw => ?_) hS (fun hS => ?_)
    rotate_left
    · go_simp; try with_reducible rfl
    try go_frame
    refine held_pure (i := 22) (oi := ⟨some 34, _, _, _, _, _⟩) rfl (by kernel_rfl) (by kernel_rfl) (by kernel_rfl) (fun _ _ _ h => h) (by rfl) (v := ?_) (fun w hSw => ?_) hS (fun hS => ?_)
    rotate_left
    · go_simp; try with_reducible rfl
    try go_frame
    refine held_pure (i := 23) (oi := ⟨some 35, _, _, _, _, _⟩) rfl (by kernel_rfl) (by kernel_rfl) (by kernel_rfl) (fun _ _ _ h => h) (by rfl) (fun w hSw => run_load_rsl rfl rfl (KT.out _ hSw)) hS (fun hS => ?_)
    try go_frame
    refine held_pure (i := 24) (oi := ⟨some 36, _, _, _, _, _⟩) rfl (by kernel_rfl) (by kernel_rfl) (by kernel_rfl) (fun _ _ _ h => h) (by rfl) (fun w hSw => run_load_int rfl rfl (KN.out _ hSw)) hS (fun hS => ?_)
    try go_frame
    refine held_pure (i := 25) (oi := ⟨some 37, _, _, _, _, _⟩) rfl (by kernel_rfl) (by kernel_rfl) (by kernel_rfl) (fun _ _ _ h => h) (by rfl) (v := .pointer (some ⟨b, m * 9, none⟩)) (fun w hSw => by go_simp; try exact fun h => absurd h (by omega)) hS (fun hS => ?_)
    try go_frame
    refine held_pure (i := 26) (oi := ⟨some 38, _, _, _, _, _⟩) rfl (by kernel_rfl) (by kernel_rfl) (by kernel_rfl) (fun _ _ _ h => h) (by rfl) (v := ?_) (fun w hSw => ?_) hS (fun hS => ?_)
    rotate_left
    · go_simp; try with_reducible rfl
    try go_frame
    refine held_pure (i := 27) (oi := ⟨some 39, _, _, _, _, _⟩) rfl (by kernel_rfl) (by kernel_rfl) (by kernel_rfl) (fun _ _ _ h => h) (by rfl) (fun w hSw => ld_bdR rfl rfl (KV.out _ hSw) HL8.out) hS (fun hS => ?_)
    try go_frame
    refine held_pure (i := 28) (oi := ⟨some 40, _, _, _, _, _⟩) rfl (by kernel_rfl) (by kernel_rfl) (by kernel_rfl) (fun _ _ _ h => h) (by rfl) (fun w hSw => ld_bdR rfl rfl (KB.out _ hSw) HL8.out) hS (fun hS => ?_)
    try go_frame
    refine held_pure (i := 29) (oi := ⟨some 41, _, _, _, _, _⟩) rfl (by kernel_rfl) (by kernel_rfl) (by kernel_rfl) (fun _ _ _ h => h) (by rfl) (v := .bool false) (fun w hSw => by go_simp) hS (fun hS => ?_)
    try go_frame
    refine held_pure (i := 30) (oi := ⟨some 42, _, _, _, _, _⟩) rfl (by kernel_rfl) (by kernel_rfl) (by kernel_rfl) (fun _ _ _ h => h) (by rfl) (v := ?_) (fun w hSw => ?_) hS (fun hS => ?_)
    rotate_left
    · go_simp; try with_reducible rfl
    try go_frame
    refine wpAnyH_done (by kernel_rfl) ?_ _
    gi_wp2
    have hk := (KeepsOthers.setCell Y ⟨w.heap.size + 1 + 1, 0, none⟩ (.int .i64 ((m : Int) + 1))).from w3.heap.size
    have hne : ∀ B : Nat, B ≠ w.heap.size + 1 + 1 → (Y.setCell ⟨w.heap.size + 1 + 1, 0, none⟩ (.int .i64 ((m : Int) + 1))).heap[B]? = Y.heap[B]? := fun B hB => heap_setCell_other Y ⟨w.heap.size + 1 + 1, 0, none⟩ B _ hB
    refine ⟨⟨hk.size, hk.same⟩, KeepN.of_heap (fun g9 e9 => hne g9.block (HNA.out g9 e9)), ⟨?_, ⟨(hne w.heap.size (by omega)).trans hxY, (hne (w.heap.size + 1) (by omega)).trans hRY⟩, (hBY.setCell (p := ⟨w.heap.size + 1 + 1, 0, none⟩) (by show w.heap.size ≤ w.heap.size + 1 + 1; omega) _).drew⟩, Nat.le_trans hzY hk.size⟩
    rw [show ((pre ++ [x]).length : Int) = (m : Int) + 1 from by rw [HM2.out]; simp]
    exact Boxed.set _ hcY
  case stop =>
    rintro D cd pre X hD _ hf hK
    exact hf.elim
  case done =>
    rintro D xs X hD hxs ⟨⟨hcX, hxX, hBX⟩, hzX⟩ hK
    subst ha0
    subst hxs
    have hm1 : Marks w3.heap.size X.heap.size [{ target := .collected D, args := #[] }] X := (Marks.push (hi := D) (ds := []) trivial (Nat.le_refl _) hD hK).more (heap_lt hK)
    have hqX := HQ.out.below hBX
    rw [← HN.out] at hcX
    have hgX := heap_lt hqX.tab
    have HRX := Lib.hid hxX.2
    have hgr : g ≠ w.heap.size + 1 := by omega
    have KN : Hid (∀ V, Kept (fun k => k = w.heap.size + 1) X V → V.cell? ⟨w.heap.size + 1 + 1, 0, none⟩ = some (.int .i64 (n : Int))) := Lib.hid fun V hV => (KeptR.box hV hcX (by omega)).cell
    have KX : Hid (∀ V, Kept (fun k => k = w.heap.size + 1) X V → V.cell? ⟨w.heap.size, 0, none⟩ = some (.pointer (some ⟨g, 0, none⟩))) := Lib.hid fun V hV => (KeptR.box hV hxX.1 (by omega)).cell
    have KT : Hid (∀ V, Kept (fun k => k = w.heap.size + 1) X V → V.cell? ⟨g, 0, none⟩ = some (.slice A0 n c0)) := Lib.hid fun V hV => cells_at (i := 0) ((hV.block g hgX hgr).trans hqX.tab) rfl
    have HLEN : Hid (∀ V, Kept (fun k => k = w.heap.size + 1) X V → Calls Tryd.prog 21 #[.pointer (some ⟨d, 0, none⟩)] V fun e w' => e = .returned (.int .i64 (n : Int)) ∧ V = w') := Lib.hid fun V hV => by
      have := blen ((HM.out.below hBX).keptB hV (show X.heap[w.heap.size + 1]? = some (.cells #[.bool false] 4 (0, 0)) from HRX.out) t4_no2.1)
      rw [← HDD.out, ← HN.out] at this
      exact this
    have hn1 : n ≤ 1000 := by rw [HN.out]; exact hS
    clear hqX HSQ hxX
    gi_upto_region 8 with fail
    refine wpIn_mono (Q := noPanic _) ?_ noPanic_to
    refine wpIn_wide.2 ?_
    refine wp_region_held_drew (S := Kept (fun k => k = w.heap.size + 1) X) (by kernel_rfl) (Kept.drew X) (fun hS => ?_)
    refine held_pure (i := 0) (oi := ⟨some 45, _, _, _, _, _⟩) rfl (by kernel_rfl) (by kernel_rfl) (by kernel_rfl) (fun _ _ _ h => h) (by rfl) (fun w hSw => run_load_int rfl rfl (KN.out _ hSw)) hS (fun hS => ?_)
    try go_frame
    refine held_pure (i := 1) (oi := ⟨some 46, _, _, _, _, _⟩) rfl (by kernel_rfl) (by kernel_rfl) (by kernel_rfl) (fun _ _ _ h => h) (by rfl) (fun w hSw => run_load_rdb rfl rfl (KX.out _ hSw)) hS (fun hS => ?_)
    try go_frame
    refine held_pure (i := 2) (oi := ⟨some 47, _, _, _, _, _⟩) rfl (by kernel_rfl) (by kernel_rfl) (by kernel_rfl) (fun _ _ _ h => h) (by rfl) (v := ?_) (fun w hSw => ?_) hS (fun hS => ?_)
    rotate_left
    · go_simp; try with_reducible rfl
    try go_frame
    refine held_pure (i := 3) (oi := ⟨some 48, _, _, _, _, _⟩) rfl (by kernel_rfl) (by kernel_rfl) (by kernel_rfl) (fun _ _ _ h => h) (by rfl) (v := ?_) (fun w hSw => ?_) hS (fun hS => ?_)
    rotate_left
    · go_simp; try with_reducible rfl
    try go_frame
    refine held_pure (i := 4) (oi := ⟨some 49, _, _, _, _, _⟩) rfl (by kernel_rfl) (by kernel_rfl) (by kernel_rfl) (fun _ _ _ h => h) (by rfl) (fun w hSw => run_load_rsl rfl rfl (KT.out _ hSw)) hS (fun hS => ?_)
    try go_frame
    refine held_pure (i := 5) (oi := ⟨some 50, _, _, _, _, _⟩) rfl (by kernel_rfl) (by kernel_rfl) (by kernel_rfl) (fun _ _ _ h => h) (by rfl) (v := ?_) (fun w hSw => ?_) hS (fun hS => ?_)
    rotate_left
    · go_simp; try with_reducible rfl
    try go_frame
    refine held_pure (i := 6) (oi := ⟨some 51, _, _, _, _, _⟩) rfl (by kernel_rfl) (by kernel_rfl) (by kernel_rfl) (fun _ _ _ h => h) (by rfl) (v := .bool true) (fun w hSw => by go_simp) hS (fun hS => ?_)
    try go_frame
    refine held_pure (i := 7) (oi := ⟨some 52, _, _, _, _, _⟩) rfl (by kernel_rfl) (by kernel_rfl) (by kernel_rfl) (fun _ _ _ h => h) (by rfl) (v := ?_) (fun w hSw => ?_) hS (fun hS => ?_)
    rotate_left
    · go_simp; try with_reducible rfl
    try go_frame
    refine held_pure (i := 8) (oi := ⟨some 53, _, _, _, _, _⟩) rfl (by kernel_rfl) (by kernel_rfl) (by kernel_rfl) (fun _ _ _ h => h) (by rfl) (v := ?_) (fun w hSw => ?_) hS (fun hS => ?_)
    rotate_left
    · go_simp; try with_reducible rfl
    try go_frame
    refine held_pure (i := 10) (oi := ⟨some 55, _, _, _, _, _⟩) rfl (by kernel_rfl) (by kernel_rfl) (by kernel_rfl) (fun _ _ _ h => h) (by rfl) (fun w hSw => run_load_int rfl rfl (KN.out _ hSw)) hS (fun hS => ?_)
    try go_frame
    refine wpAnyH_ready (rs := [9]) (by kernel_rfl) (by simp) (AllReadyH.cons (o := ⟨some 54, _, _, _, _, _⟩) rfl (fun K hK => ?_) AllReadyH.nil)
    rw [if_pos (by rfl)]
    go_simp
    refine (HLEN.out _ hS).mono ?_
    rintro e w9 ⟨rfl, rfl⟩
    show K _ _
    refine hK.out _ _ hS (fun hS => ?_)
    clear hK K
    try go_frame
    refine held_pure (i := 11) (oi := ⟨some 56, _, _, _, _, _⟩) rfl (by kernel_rfl) (by kernel_rfl) (by kernel_rfl) (fun _ _ _ h => h) (by rfl) (v := .bool true) (fun w hSw => by go_simp) hS (fun hS => ?_)
    try go_frame
    refine held_pure (i := 12) (oi := ⟨some 57, _, _, _, _, _⟩) rfl (by kernel_rfl) (by kernel_rfl) (by kernel_rfl) (fun _ _ _ h => h) (by rfl) (v := ?_) (fun w hSw => ?_) hS (fun hS => ?_)
    rotate_left
    · go_simp; try with_reducible rfl
    try go_frame
    refine wpAnyH_ready (rs := [13]) (by kernel_rfl) (by simp) (AllReadyH.cons (o := ⟨none, _, _, _, _, _⟩) rfl (fun K hK => ?_) AllReadyH.nil)
    rw [if_pos (by rfl)]
    have kr : Boxed X.drew (w.heap.size + 1) 4 (.bool false) := HRX.out
    have fr := kr.frozen
    have kc := kr.cell
    refine store_boolR_wp rfl rfl rfl kc fr ?_
    refine hK.out _ _ (hS.trans (T := fun k => k = w.heap.size + 1) (Kept.setCell _ _ 0 _) (fun _ _ h => h)) (fun hS => ?_)
    clear hK K
    try go_frame
    refine wpAnyH_done (by kernel_rfl) ?_ _
    refine noPanic_normal ?_
    gi_wp2
    have hkr : Boxed X.drew (w.heap.size + 1) 4 (.bool false) := HRX.out
    have hmr : Marks w3.heap.size X.heap.size [{ target := .collected D, args := #[] }] (X.drew.setCell ⟨w.heap.size + 1, 0, none⟩ (.bool true)) :=
      hm1.keep (fun k h1 h2 => Below.heap_setCell X.drew _ _ _ (by simp; omega))
    refine leaves_marks w3.heap.size (fun Y => Boxed Y (w.heap.size + 1) 4 (.bool true) ∧ Below w.heap.size w Y)
      (fun Y D hY h1 h2 => ⟨box_keep (n := w3.heap.size) hY.1 (grownBy_putObj' Y D _) (fun k e => by cases e; exact ⟨h1, _, h2, rfl⟩), hY.2.trans (belowK_b (w := w) (Nat.le_refl _) Y D _ _ (by omega) h2 rfl rfl)⟩)
      (fun Y hY => ⟨_, cell1b rfl rfl hY.1, rfl, hY.2⟩) _ _ _ hmr ⟨Boxed.set _ hkr, hBX.drew.setCell (p := ⟨w.heap.size + 1, 0, none⟩) (by show w.heap.size ≤ w.heap.size + 1; omega) _⟩
end
end Go.Proofs.YtafidbjaeopciaaDoor

/-
  A call of layer 22's code beside the document's: both answer the same, and hold the same. Conditions are each theorem's own.
-/
namespace Go.Proofs.YtafidbjaeopciaaDoor
open Go.RowKit Go.Shelf
theorem insR_put {S : List (Option Bd)} {f : Nat} (h : FreeB S f) (x : Bd) : insR (docB 0 S) f x = docB 0 (putS S f x) ∧ f ≤ (docB 0 S).length ∧ (∀ j e, j < f → (docB 0 S)[j]? = some e → e.1 = j) ∧ (∀ e, (docB 0 S)[f]? = some e → e.1 ≠ f) := by
  obtain ⟨P, Q, e0, e1, hl, hp, hq, e2⟩ := h.parts
  have ht : (P ++ Q).take f = P := by rw [← hl, List.take_left]
  have hd : (P ++ Q).drop f = Q := by rw [← hl, List.drop_left]
  refine ⟨?_, ?_, fun j e hj he => ?_, fun e he => ?_⟩
  · rw [h.put x]
    unfold insR
    rw [e0, ht, hd, e1, e2]
  · rw [e0, List.length_append]; omega
  · rw [e0, List.getElem?_append_left (by omega)] at he
    exact hp j e he
  · rw [e0, List.getElem?_append_right (by omega)] at he
    have := hq e (List.mem_of_getElem? he)
    omega
theorem outR_not {S : List (Option Bd)} {i : Int} (h : takB S i = none) : outR i (docB 0 S) = docB 0 S := by
  unfold outR
  rw [List.filter_eq_self]
  intro e he
  obtain ⟨_, h1⟩ := docB_mem.1 he
  rw [Nat.sub_zero] at h1
  simp only [decide_eq_true_eq]
  intro e2
  subst e2
  unfold takB at h
  rw [if_neg (by omega), Int.toNat_natCast, h1] at h
  cases h
theorem outR_set {S : List (Option Bd)} {k : Nat} : outR (k : Int) (docB 0 S) = docB 0 (S.set k none) := by
  rw [docB_none]
  unfold outR
  congr 1
  funext e
  congr 1
  simp
  omega
theorem fndN_tak {S : List (Option Bd)} (i : Int) : (fndN (docB 0 S) i).map (·.2) = takB S i := by
  unfold fndN takB
  split
  · rename_i h
    rw [List.find?_eq_none.2 (fun e _ => by simp; omega)]
    rfl
  · rename_i h
    obtain ⟨k, rfl⟩ : ∃ k : Nat, i = (k : Int) := ⟨i.toNat, by omega⟩
    have e : (fun e : Nat × Bd => decide ((e.1 : Int) = (k : Int))) = fun e => decide (e.1 = k) := by funext e; congr 1; simp; omega
    rw [e, docB_find, Int.toNat_natCast]
    cases (S[k]?).join <;> rfl
theorem fndN_some {S : List (Option Bd)} (i : Int) : (fndN (docB 0 S) i).isSome = (takB S i).isSome := by
  rw [← fndN_tak, Option.isSome_map]
section
variable {w : World} {B0 d t1 t2 g : Nat} {most : Int} {S : List (Option Bd)}
theorem DbE.keptB {w' : World} {B : Nat} {cs : Array Value} {ty : TypeId} (h : DbE w B0 d t1 t2 most S) (k : Kept (fun i => i = B) w w') (hB : w.heap[B]? = some (.cells cs ty (0, 0))) (hn : ¬ T4 ty) : DbE w' B0 d t1 t2 most S := by
  obtain ⟨b1, b2, A, c, f, h⟩ := h
  exact ⟨b1, b2, A, c, f, h.keptB k hB hn⟩
theorem add_both (h : DbE w B0 d t1 t2 most S) (hT : TB0 B0 w) (x : Bd) (hx : x.fits) (hS : (docB 0 S).length ≤ 1000) : ∃ (a r : Int) (S' : List (Option Bd)), (docB 0 S').length ≤ (docB 0 S).length + 1 ∧
    Calls Tryd.prog 9 #[.pointer (some ⟨d, 0, none⟩), bdV x] w (fun e w' => e = .returned (.tuple #[.int .i64 a, .int .i64 r]) ∧ DbE w' B0 d t1 t2 most S' ∧ FB B0 w w') ∧
    (∀ (U : World) (v : Value), Rb U g v most (docB 0 S) → Calls Tryd.prog 10 #[.pointer (some ⟨g, 0, none⟩), bdV x] U fun e w' => e = .returned (.tuple #[.int .i64 a, .int .i64 r]) ∧ (∃ v', Rb w' g v' most (docB 0 S')) ∧ Kept (fun k => k = g) U w') := by
  have hz := h.z
  have hD := h
  obtain ⟨b1, b2, A, c, f, h⟩ := h
  cases hh : ((fndI (docB 0 S) x).isSome || (fndO (docB 0 S) x).isSome) with
  | true =>
    refine ⟨0, 9, S, by omega, (badd_twice h hT.here x hx hh).mono ?_, fun U v hr => (r22add_twice hr hS x hh).mono ?_⟩
    · rintro e w' ⟨rfl, hb⟩
      exact ⟨rfl, hD.below hb, FB.of_below hb hz⟩
    · rintro e w' ⟨rfl, hb⟩
      exact ⟨rfl, ⟨v, hr.below hb⟩, Kept.of_below hb⟩
  | false =>
    by_cases hf : ((docB 0 S).length : Int) ≥ most
    · refine ⟨0, 7, S, by omega, (badd_full h hT.here x hx hh hf).mono ?_, fun U v hr => (r22add_full hr hS x hh hf).mono ?_⟩
      · rintro e w' ⟨rfl, hb⟩
        exact ⟨rfl, hD.below hb, FB.of_below hb hz⟩
      · rintro e w' ⟨rfl, hb⟩
        exact ⟨rfl, ⟨v, hr.below hb⟩, Kept.of_below hb⟩
    · obtain ⟨p1, p2, p3, p4⟩ := insR_put h.free x
      refine ⟨f, 0, putS S f x, by rw [h.free.nput x]; exact Nat.le_refl _, (badd_ok h hT x hx hh (by omega)).mono ?_, fun U v hr => (r22add_ok hr hS x hh (by omega) p2 p3 p4).mono ?_⟩
      · rintro e w' ⟨rfl, b1', b2', A', c', f', h', fb⟩
        exact ⟨rfl, ⟨b1', b2', A', c', f', h'⟩, fb⟩
      · rintro e w' ⟨rfl, v', hr', k'⟩
        rw [p1] at hr'
        exact ⟨rfl, ⟨v', hr'⟩, k'⟩
theorem rem_both (h : DbE w B0 d t1 t2 most S) (hT : TB0 B0 w) (i : Int) (hS : (docB 0 S).length ≤ 1000) : ∃ (a : Bool) (S' : List (Option Bd)), (docB 0 S').length ≤ (docB 0 S).length + 1 ∧
    Calls Tryd.prog 11 #[.pointer (some ⟨d, 0, none⟩), .int .i64 i] w (fun e w' => e = .returned (.bool a) ∧ DbE w' B0 d t1 t2 most S' ∧ FB B0 w w') ∧
    (∀ (U : World) (v : Value), Rb U g v most (docB 0 S) → Calls Tryd.prog 12 #[.pointer (some ⟨g, 0, none⟩), .int .i64 i] U fun e w' => e = .returned (.bool a) ∧ (∃ v', Rb w' g v' most (docB 0 S')) ∧ Kept (fun k => k = g) U w') := by
  have hz := h.z
  have hD := h
  obtain ⟨b1, b2, A, c, f, h⟩ := h
  cases ht : takB S i with
  | none =>
    refine ⟨false, S, by omega, (bremove_no h i ht).mono ?_, fun U v hr => (r22del hr hS i).mono ?_⟩
    · rintro e w' ⟨rfl, rfl⟩
      exact ⟨rfl, hD, FB.of_below (Below.refl _ _) hz⟩
    · rintro e w' ⟨rfl, v', hr', k'⟩
      rw [outR_not ht] at hr' ⊢
      exact ⟨by rw [decide_eq_false (Nat.lt_irrefl _)], ⟨v', hr'⟩, k'⟩
  | some x =>
    obtain ⟨k, rfl, hk⟩ := tak_at ht
    obtain ⟨_, hl⟩ := docB_pull hk
    refine ⟨true, S.set k none, by omega, (bremove_yes h hT hk).mono ?_, fun U v hr => (r22del hr hS (k : Int)).mono ?_⟩
    · rintro e w' ⟨rfl, b1', b2', A', c', f', h', fb⟩
      exact ⟨rfl, ⟨b1', b2', A', c', f', h'⟩, fb⟩
    · rintro e w' ⟨rfl, v', hr', k'⟩
      rw [outR_set] at hr' ⊢
      exact ⟨by rw [decide_eq_true (by omega)], ⟨v', hr'⟩, k'⟩
end
theorem dob_bd {w : World} {p : Nat} {x : Dob} (h : w.heap[p]? = some (.cells (clDob x).toArray 38 (0, 0))) : w.rangeAt p 2 (clBd x.x) := fun j v hj => cells_at h (by
  have h9 : (clDob x).toArray[2 + j]? = (clBd x.x)[j]? := by rw [List.getElem?_toArray, show 2 + j = j + 1 + 1 from by omega]; rfl
  rw [h9]; exact hj)
theorem dob_inn {w : World} {p : Nat} {x : Dob} (h : w.heap[p]? = some (.cells (clDob x).toArray 38 (0, 0))) : w.rangeAt p 2 (clI x.x.inn) := fun i u hi => by
  have hl : i < 4 := (List.getElem?_eq_some_iff.1 hi).1
  refine dob_bd h i u ?_
  rw [← hi]
  rcases i with _ | _ | _ | _ | i
  · rfl
  · rfl
  · rfl
  · rfl
  · omega
theorem dob_out {w : World} {p : Nat} {x : Dob} (h : w.heap[p]? = some (.cells (clDob x).toArray 38 (0, 0))) : w.rangeAt p 6 (clI x.x.out) := fun i u hi => by
  have hl : i < 3 := (List.getElem?_eq_some_iff.1 hi).1
  rw [show 6 + i = 2 + (i + 4) from by omega]
  refine dob_bd h (i + 4) u ?_
  rw [← hi]
  rcases i with _ | _ | _ | i
  · rfl
  · rfl
  · rfl
  · omega
/-- The code's bindings and the document's, side by side, in the law's loop. -/
structure BLw (B0 d t1 t2 g : Nat) (most : Int) (S : List (Option Bd)) (k : Nat) (w U : World) : Prop where
  db : DbE U B0 d t1 t2 most S
  rb : ∃ v, Rb U g v most (docB 0 S)
  bel : Below w.heap.size w U
  tb : TB0 B0 U
  n : (docB 0 S).length ≤ k
  z : w.heap.size ≤ B0
section
variable {B0 d t1 t2 g k : Nat} {most : Int} {S S' : List (Option Bd)} {w U V X : World}
theorem BLw.below (h : BLw B0 d t1 t2 g most S k w U) (hb : Below U.heap.size U V) : BLw B0 d t1 t2 g most S k w V := by
  obtain ⟨v, hr⟩ := h.rb
  exact ⟨h.db.below hb, ⟨v, hr.below hb⟩, h.bel.trans (hb.mono h.bel.size), h.tb.step (hb.mono h.db.z), h.n, h.z⟩
/-- A call of the code, then the document's. -/
theorem BLw.step (h : BLw B0 d t1 t2 g most S k w U) (hd : DbE V B0 d t1 t2 most S') (hf : FB B0 U V) (hr : ∃ v, Rb X g v most (docB 0 S')) (hk : Kept (fun i => i = g) V X) (hn : (docB 0 S').length ≤ (docB 0 S).length + 1) (hB : B0 ≤ g) : BLw B0 d t1 t2 g most S' (k + 1) w X := by
  obtain ⟨v, h0⟩ := h.rb
  have ht := (h0.fb hf).tab
  have hx : Below B0 V X := hk.below hd.z (fun i e => by rw [e]; exact hB)
  exact ⟨hd.keptB hk ht t4_no.2.1, hr, h.bel.trans ((hf.b.trans hx).mono h.z), h.tb.step (hf.b.trans hx), by have := h.n; omega, h.z⟩
theorem BLw.rbf (h : BLw B0 d t1 t2 g most S k w U) (hf : FB B0 U V) : ∃ v, Rb V g v most (docB 0 S) := by
  obtain ⟨v, h0⟩ := h.rb
  exact ⟨v, h0.fb hf⟩
end
end Go.Proofs.YtafidbjaeopciaaDoor
