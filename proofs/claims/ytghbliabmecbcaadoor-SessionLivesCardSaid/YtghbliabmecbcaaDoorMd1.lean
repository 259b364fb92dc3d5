/-
  Contracts and lemmas on which the proofs of this seat stand (several texts in one). Conditions are each theorem's own.
-/
import Derived.Test.YtghbliabmecbcaaDoorMc13

/-
  The document's sessions of layer 24: what they hold; New, Find, Get. Conditions are each theorem's own.
-/
namespace Go.Proofs.YtghbliabmecbcaaDoor
open Go.RowKit Go.Shelf
theorem info_r : (Tryd.prog.info? 71).map (fun i => (i.zero, i.size, i.bytes)) = some (some (.agg #[.int .i64 0, .int .i64 0, .int .i64 0, .int .i64 0, .int .i64 0, .int .i64 0]), 6, 48) := by kernel_rfl
theorem neR : 71 ≠ 63 := nat_ne (by kernel_rfl)
theorem own_moveR {w w' : World} {base B n : Nat} {v : Value} {xs : List Value} (h : w.ownsRow base 71 6 v n xs) (hB : B ≤ base) (hk : ∀ (k : Nat) (cur : Array Value), w.heap[k]? = some (Obj.cells cur 71 (0, 0)) → w'.heap[k]? = w.heap[k]?) : w'.ownsRow B 71 6 v n xs := by
  refine ⟨h.1, ?_⟩
  rcases h.2 with hn | ⟨g, cap, cur, hv, hb, hg, rest⟩
  · exact .inl hn
  · exact .inr ⟨g, cap, cur, hv, Nat.le_trans hB hb, (hk g cur hg).trans hg, rest⟩
/-- The document's sessions in block g are D. -/
structure Rt (w : World) (B0 g : Nat) (v : Value) (most : Int) (D : List (Nat × Sd)) : Prop where
  tab : w.heap[g]? = some (.cells #[v, .int .i64 most] 63 (0, 0))
  own : w.ownsRow B0 71 6 v D.length (D.flatMap clNu)
  z : B0 ≤ g
section
variable {w w' : World} {B0 g : Nat} {v : Value} {most : Int} {D : List (Nat × Sd)}
theorem Rt.fb (h : Rt w B0 g v most D) {B9 : Nat} (k : FB B9 w w') : Rt w' B0 g v most D :=
  ⟨k.heap h.tab t4_no.2.1, own_moveR h.own (Nat.le_refl _) (fun _ _ hk => (k.heap hk t4_no.2.2.1).trans hk.symm), h.z⟩
theorem Rt.below (h : Rt w B0 g v most D) (hb : Below w.heap.size w w') : Rt w' B0 g v most D := ⟨(hb.block g (heap_lt h.tab)).trans h.tab, own_moveR h.own (Nat.le_refl _) (fun _ _ hk => hb.block _ (heap_lt hk)), h.z⟩
theorem Rt.sh (h : Rt w B0 g v most D) : ∃ A c, v = .slice A D.length c ∧ RdS clNu 6 w w.heap.size A D ∧ D.length ≤ c ∧ (A = none → c = 0) := by
  obtain ⟨A, c, e, h1, h2⟩ := own_rds h.own rfl rfl (fun x _ => clNu_len x)
  refine ⟨A, c, e, h1, h2, fun e2 => ?_⟩
  rcases h.own.2 with ⟨e3, _⟩ | ⟨b, cap, cur, e3, _⟩
  · rw [e] at e3; injection e3
  · rw [e, e2] at e3; injection e3 with e3; cases e3
theorem Rt.at_ {A : Option Addr} {m c : Nat} (h : Rt w B0 g (.slice A m c) most D) {k : Nat} {x : Nat × Sd} (hx : D[k]? = some x) : ∃ b, A = some ⟨b, 0, none⟩ ∧ b < w.heap.size ∧ w.rangeAt b (k * 6) (clNu x) := by
  have hk := (List.getElem?_eq_some_iff.1 hx).1
  rcases h.own.2 with ⟨_, h0⟩ | ⟨b, cap, cur, e3, _, hh, _⟩
  · omega
  · injection e3 with e1 e2 e4
    refine ⟨b, e1, heap_lt hh, fun i u hi => ?_⟩
    have hf := flat_at (cl := clNu) (sz := 6) D (fun x _ => clNu_len x) k x hx i u hi
    have hl := (List.getElem?_eq_some_iff.1 hf).1
    rw [flat_len D (fun x _ => clNu_len x)] at hl
    subst e1; subst e2
    have := World.ownsRow.cellAt h.own (k * 6 + i) hl
    rw [hf] at this
    exact this
theorem Rt.new (w : World) (most : Int) (hB : B0 ≤ w.heap.size) : Rt (w.alloc (.cells #[.slice none 0 0, .int .i64 most] 63)) B0 w.heap.size (.slice none 0 0) most [] := ⟨World.alloc_heap_new w _, World.ownsRow_nil _ _ _ _, hB⟩
theorem Rt.put {X : World} {u : Value} {base : Nat} {R : List (Nat × Sd)} (ht : w.heap[g]? = some (.cells #[v, .int .i64 most] 63 (0, 0))) (ho : w.ownsRow base 71 6 u R.length (R.flatMap clNu)) (hz : B0 ≤ base) (hg : B0 ≤ g) (hX : X = w.setCell ⟨g, 0, none⟩ u) : Rt X B0 g u most R := by
  subst hX
  refine ⟨heap_setCell_same w g 0 _ _ u ht, own_moveR ho hz fun k cur hk => heap_setCell_other w ⟨g, 0, none⟩ k u (fun e => ?_), hg⟩
  have e : g = k := by first | exact e | exact e.symm
  rw [← e, ht] at hk
  injection hk with hk
  injection hk with _ e2 _
  exact neR e2.symm
theorem clNu_re {U : World} {b j : Nat} {e : Nat × Sd} (h : U.rangeAt b j (clNu e)) : U.rangeAt b (j + 4) (clR e.2) := fun i u hi => by
  have hl : i < 2 := (List.getElem?_eq_some_iff.1 hi).1
  rw [show j + 4 + i = j + (i + 4) from by omega]
  refine h (i + 4) u ?_
  rw [← hi]
  rcases i with _ | _ | i
  · rfl
  · rfl
  · omega
theorem clNu_se {U : World} {b j : Nat} {e : Nat × Sd} (h : U.rangeAt b j (clNu e)) : U.rangeAt b (j + 1) (clSe e.2) := fun i u hi => by
  rw [show j + 1 + i = j + (i + 1) from by omega]
  exact h (i + 1) u hi
theorem range_belowR {U V : World} {b j : Nat} {l : List Value} (h : U.rangeAt b j l) (hb : b < U.heap.size) (k : Below U.heap.size U V) : V.rangeAt b j l := fun i u hi => (World.cell?_of_block (k.block b hb)).trans (h i u hi)
set_option maxRecDepth 100000 in
theorem ld_reR {o : Oper} {a : Act} {w : World} {y : Operand} {g i : Nat} {L : List Value} (ho : o.op = .load 32 y) (hx : a.eval y = .pointer (some ⟨g, i, none⟩)) (hr : w.rangeAt g i L) (hl : L.length = 2) :
    (execOp a.eval o).run Tryd.prog w = .ok (.value (.agg L.toArray)) w := by
  have h := run_loadVar_mid (P := Tryd.prog) w g i 32 L _ hr Tryd.underlying32 rfl (by rw [hl]; kernel_rfl)
  unfold execOp
  simp only [ho, hx, Instr.loadAt, Instr.sureAddr, Sem.run_bind, Sem.run_pure, Result.andThen_ok, h]
theorem eqR_re (x y : Sd) (hb : x.b = y.b) (w : World) : (Op.equalIn 10000 32 (.agg (clR x).toArray) (.agg (clR y).toArray)).run Tryd.prog w = .ok (decide (x.inn = y.inn)) w := by
  unfold clR
  by_cases h0 : x.a = y.a
  rotate_left
  · rw [show decide (x.inn = y.inn) = false from decide_eq_false (by simp [Sd.inn, h0])]
    go_simp
  by_cases h1 : x.p = y.p
  rotate_left
  · rw [show decide (x.inn = y.inn) = false from decide_eq_false (by simp [Sd.inn, h1])]
    go_simp
  rw [show decide (x.inn = y.inn) = true from decide_eq_true (by simp [Sd.inn, hb, h0, h1])]
  go_simp
theorem run_load_rsl {o : Oper} {a : Act} {w : World} {x : Operand} {p : Addr} {A : Option Addr} {n c : Nat} (ho : o.op = .load 61 x) (hx : a.eval x = .pointer (some p)) (hc : w.cell? p = some (.slice A n c)) :
    (execOp a.eval o).run Tryd.prog w = .ok (.value (.slice A n c)) w := by
  unfold execOp
  simp only [ho, hx, Instr.loadAt, Instr.sureAddr, Sem.run_bind, Sem.run_pure, Result.andThen_ok]
  go_simp
theorem r24new_ok (most : Int) (w : World) (h0 : 0 ≤ most) (h1 : most ≤ 4096) (hB0 : B0 ≤ w.heap.size) : Calls Tryd.prog 8 #[.int .i64 most] w fun e w' => e = .returned (.tuple #[.pointer (some ⟨w.heap.size, 0, none⟩), .int .i64 0]) ∧ Rt w' B0 w.heap.size (.slice none 0 0) most [] ∧ Below w.heap.size w w' := by
  have d1 : decide (most < 0) = false := decide_eq_false (by omega)
  have d2 : decide (4096 < most) = false := decide_eq_false (by omega)
  have hN := Lib.hid (Rt.new w most hB0)
  have hB := (Below.refl w.heap.size w).alloc (Nat.le_refl _) (.cells #[.slice none 0 0, .int .i64 most] 63)
  clear h0 h1
  go_enter Tryd.func8, Tryd.ntmps8
  go_wp2
  refine bodyPost_ret (results_tmp2 rfl _ _ _) rfl ⟨rfl, hN.out, hB⟩
theorem r24new_bad (most : Int) (w : World) (h0 : ¬ (0 ≤ most ∧ most ≤ 4096)) : Calls Tryd.prog 8 #[.int .i64 most] w fun e w' => e = .returned (.tuple #[.pointer none, .int .i64 1]) ∧ w = w' := by
  by_cases h1 : most < 0
  · have d1 : decide (most < 0) = true := decide_eq_true (by omega)
    clear h0 h1
    go_enter Tryd.func8, Tryd.ntmps8
    go_wp2
    refine bodyPost_ret (results_tmp2 rfl _ _ _) rfl ⟨rfl, rfl⟩
  · have d1 : decide (most < 0) = false := decide_eq_false (by omega)
    have d2 : decide (4096 < most) = true := decide_eq_true (by omega)
    clear h0 h1
    go_enter Tryd.func8, Tryd.ntmps8
    go_wp2
    refine bodyPost_ret (results_tmp2 rfl _ _ _) rfl ⟨rfl, rfl⟩
theorem find_no {p : Nat × Sd → Bool} {k : Nat} {y : Nat × Sd} (hy : D[k]? = some y) (hp : p y = false) (he : D.find? p = (D.drop k).find? p) : D.find? p = (D.drop (k + 1)).find? p := by
  have hk := (List.getElem?_eq_some_iff.1 hy).1
  rw [he, List.drop_eq_getElem_cons hk]
  have e : D[k] = y := by rw [List.getElem?_eq_getElem hk] at hy; exact Option.some.inj hy
  rw [e, List.find?_cons_of_neg (by rw [hp]; decide)]
theorem find_yes {p : Nat × Sd → Bool} {k : Nat} {y : Nat × Sd} (hy : D[k]? = some y) (hp : p y = true) (he : D.find? p = (D.drop k).find? p) : D.find? p = some y := by
  have hk := (List.getElem?_eq_some_iff.1 hy).1
  rw [he, List.drop_eq_getElem_cons hk]
  have e : D[k] = y := by rw [List.getElem?_eq_getElem hk] at hy; exact Option.some.inj hy
  rw [e, List.find?_cons_of_pos hp]
theorem find_end {p : Nat × Sd → Bool} {k : Nat} (hk : D.length ≤ k) (he : D.find? p = (D.drop k).find? p) : D.find? p = none := by
  rw [he, List.drop_eq_nil_of_le hk]; rfl
set_option maxRecDepth 100000 in
set_option maxHeartbeats 1000000 in
theorem r24find (h : Rt w B0 g v most D) (hD : D.length ≤ 1000) (x : Sd) : Calls Tryd.prog 18 #[.pointer (some ⟨g, 0, none⟩), .int .i64 x.b, reV x] w fun e w' =>
    e = .returned (.tuple #[.int .i64 (numS (fndS D x)), .bool (fndS D x).isSome]) ∧ Below w.heap.size w w' := by
  obtain ⟨V, hV⟩ : ∃ V, V = w.alloc (.cells (clR x).toArray 32) := ⟨_, rfl⟩
  have bV : Below w.heap.size w V := by rw [hV]; exact (Below.refl _ w).alloc (Nat.le_refl _) _
  have hbV : V.heap[w.heap.size]? = some (.cells (clR x).toArray 32 (0, 0)) := by rw [hV]; exact World.alloc_heap_new w _
  have HR : Hid (∀ U, Below V.heap.size V U → U.rangeAt w.heap.size 0 (clR x)) := Lib.hid (fun U hU => range_belowR (range_heap hbV) (heap_lt hbV) hU)
  have HV := Lib.hid (show w.alloc (.cells #[.int .i64 x.a, .int .i64 x.p] 32) = V from hV.symm)
  have h := h.below bV
  have HBV := Lib.hid bV
  obtain ⟨A, c, rfl, hrd, hcap, _⟩ := h.sh
  obtain ⟨n, hne⟩ : ∃ n, n = D.length := ⟨_, rfl⟩
  have HSL := Lib.hid hne
  rw [← hne] at h hD hcap
  have H := Lib.hid h
  clear h hne hrd hV bV hbV
  obtain ⟨fp, hfp⟩ : ∃ fp : Nat × Sd → Bool, fp = fun e => decide (e.2.inn = x.inn) := ⟨_, rfl⟩
  have HFE : Hid (∀ o, D.find? fp = o → (.int .i64 (numS o) : Value) = .int .i64 (numS (fndS D x)) ∧ (.bool o.isSome : Value) = .bool (fndS D x).isSome) := Lib.hid (by rintro _ rfl; rw [hfp]; exact ⟨rfl, rfl⟩)
  generalize (.int .i64 (numS (fndS D x)) : Value) = r1 at *
  generalize (.bool (fndS D x).isSome : Value) = r2 at *
  have HFP : Hid (∀ y : Nat × Sd, fp y = decide (y.2.inn = x.inn)) := Lib.hid (fun y => by rw [hfp])
  clear hfp
  unfold reV
  go_enter Tryd.func18, Tryd.ntmps18
  go_upto_region 1 with fail
  rw [HV.out]
  go_wp2
  go_loopw [8] (fun z wr => ∃ k : Nat, k ≤ n ∧ z = .int .i64 (k : Int) ∧ Hid (D.find? fp = (D.drop k).find? fp) ∧ Below V.heap.size V wr) (fun z _ => n - (intOf z).toNat)
  case atStart => exact ⟨0, Nat.zero_le _, rfl, Lib.hid rfl, Below.refl _ _⟩
  case round =>
    obtain ⟨k, hk, rfl, HE, hbel⟩ := hrel
    have hw := H.out.below hbel
    have kt : wr.cell? ⟨g, 0, none⟩ = some (.slice A n c) := cells_at (i := 0) hw.tab rfl
    by_cases hkn : k < n
    · obtain ⟨y, hy⟩ : ∃ y, D[k]? = some y := ⟨_, List.getElem?_eq_getElem (by rw [← HSL.out]; exact hkn)⟩
      obtain ⟨b, hA, hb, hr⟩ := hw.at_ hy
      have kx0 : wr.cell? ⟨b, k * 6, none⟩ = some (.int .i64 (y.1 : Int)) := by simpa using hr 0 _ rfl
      have HY := Lib.hid hy
      have KT : Hid (∀ U, Below wr.heap.size wr U → U.cell? ⟨g, 0, none⟩ = some (.slice A n c)) := Lib.hid (fun U hU => cells_at (i := 0) (hw.below hU).tab rfl)
      have KB : Hid (∀ U, Below wr.heap.size wr U → U.cell? ⟨b, k * 6 + 1, none⟩ = some (.int .i64 y.2.b)) := Lib.hid (fun U hU => range_belowR hr hb hU 1 _ rfl)
      have KY : Hid (∀ U, Below wr.heap.size wr U → U.rangeAt b (k * 6 + 4) (clR y.2)) := Lib.hid (fun U hU => clNu_re (range_belowR hr hb hU))
      have KX : Hid (∀ U, Below wr.heap.size wr U → U.rangeAt w.heap.size 0 (clR x)) := Lib.hid (fun U hU => HR.out U (hbel.trans (hU.mono hbel.size)))
      have HLY := Lib.hid (show (clR y.2).length = 2 from rfl)
      have HLX := Lib.hid (show (clR x).length = 2 from rfl)
      subst hA
      by_cases hyb : y.2.b = x.b
      · have dkb : (y.2.b == x.b) = true := by simp [hyb]
        obtain ⟨E, hE⟩ : ∃ E, E = decide (y.2.inn = x.inn) := ⟨_, rfl⟩
        have eS : ∀ w, (Op.equalIn 10000 32 (.agg (clR y.2).toArray) (.agg (clR x).toArray)).run Tryd.prog w = .ok E w := fun w => by rw [hE]; exact eqR_re y.2 x hyb w
        have HP : Hid (fp y = E) := Lib.hid (by rw [HFP.out, hE])
        clear hE hy hw hr hyb
        generalize clR y.2 = Yi at *
        generalize clR x = Xi at *
        generalize y.2.b = yb at *
        generalize x.b = xb at *
        go_upto_region 4 with fail
        refine wp_region_held_drew (S := fun w' => Below wr.heap.size wr w') (by kernel_rfl) (Below.refl _ wr).drew (fun hS => ?_)
        refine held_pure (i := 0) (oi := ⟨some 18, _, _, _, _, _⟩) rfl (by kernel_rfl) (by kernel_rfl) (by kernel_rfl) (fun _ _ _ h => h) (by rfl) (v := ?_) (fun w hSw => ?_) hS (fun hS => ?_)
        rotate_left
        · go_simp; try with_reducible rfl
        try go_frame
        refine held_pure (i := 1) (oi := ⟨some 19, _, _, _, _, _⟩) rfl (by kernel_rfl) (by kernel_rfl) (by kernel_rfl) (fun _ _ _ h => h) (by rfl) (v := ?_) (fun w hSw => ?_) hS (fun hS => ?_)
        rotate_left
        · go_simp; try with_reducible rfl
        try go_frame
        refine held_pure (i := 2) (oi := ⟨some 20, _, _, _, _, _⟩) rfl (by kernel_rfl) (by kernel_rfl) (by kernel_rfl) (fun _ _ _ h => h) (by rfl) (v := ?_) (fun w hSw => ?_) hS (fun hS => ?_)
        rotate_left
        · go_simp; try with_reducible rfl
        try go_frame
        refine held_pure (i := 3) (oi := ⟨some 21, _, _, _, _, _⟩) rfl (by kernel_rfl) (by kernel_rfl) (by kernel_rfl) (fun _ _ _ h => h) (by rfl) (fun w hSw => run_load_rsl rfl rfl (KT.out _ hSw)) hS (fun hS => ?_)
        try go_frame
        refine held_pure (i := 4) (oi := ⟨some 22, _, _, _, _, _⟩) rfl (by kernel_rfl) (by kernel_rfl) (by kernel_rfl) (fun _ _ _ h => h) (by rfl) (v := ?_) (fun w hSw => ?_) hS (fun hS => ?_)
        rotate_left
        · go_simp; try with_reducible rfl
        try go_frame
        refine held_pure (i := 5) (oi := ⟨some 23, _, _, _, _, _⟩) rfl (by kernel_rfl) (by kernel_rfl) (by kernel_rfl) (fun _ _ _ h => h) (by rfl) (v := .pointer (some ⟨b, k * 6, none⟩)) (fun w hSw => by go_simp; try exact fun h => absurd h (by omega)) hS (fun hS => ?_)
        try go_frame
        refine held_pure (i := 6) (oi := ⟨some 24, _, _, _, _, _⟩) rfl (by kernel_rfl) (by kernel_rfl) (by kernel_rfl) (fun _ _ _ h => h) (by rfl) (v := ?_) (fun w hSw => ?_) hS (fun hS => ?_)
        rotate_left
        · go_simp; try with_reducible rfl
        try go_frame
        refine held_pure (i := 7) (oi := ⟨some 25, _, _, _, _, _⟩) rfl (by kernel_rfl) (by kernel_rfl) (by kernel_rfl) (fun _ _ _ h => h) (by rfl) (v := ?_) (fun w hSw => ?_) hS (fun hS => ?_)
        rotate_left
        · go_simp; try with_reducible rfl
        try go_frame
        refine held_pure (i := 8) (oi := ⟨some 26, _, _, _, _, _⟩) rfl (by kernel_rfl) (by kernel_rfl) (by kernel_rfl) (fun _ _ _ h => h) (by rfl) (fun w hSw => run_load_int rfl rfl (KB.out _ hSw)) hS (fun hS => ?_)
        try go_frame
        refine held_pure (i := 9) (oi := ⟨some 27, _, _, _, _, _⟩) rfl (by kernel_rfl) (by kernel_rfl) (by kernel_rfl) (fun _ _ _ h => h) (by rfl) (v := ?_) (fun w hSw => ?_) hS (fun hS => ?_)
        rotate_left
        · go_simp; try with_reducible rfl
        try go_frame
        refine held_pure (i := 10) (oi := ⟨some 28, _, _, _, _, _⟩) rfl (by kernel_rfl) (by kernel_rfl) (by kernel_rfl) (fun _ _ _ h => h) (by rfl) (v := .bool true) (fun w hSw => by go_simp; try exact dkb) hS (fun hS => ?_)
        try go_frame
        refine held_pure (i := 11) (oi := ⟨some 29, _, _, _, _, _⟩) rfl (by kernel_rfl) (by kernel_rfl) (by kernel_rfl) (fun _ _ _ h => h) (by rfl) (v := ?_) (fun w hSw => ?_) hS (fun hS => ?_)
        rotate_left
        · go_simp; try with_reducible rfl
        try go_frame
        refine held_pure (i := 12) (oi := ⟨some 30, _, _, _, _, _⟩) rfl (by kernel_rfl) (by kernel_rfl) (by kernel_rfl) (fun _ _ _ h => h) (by rfl) (v := ?_) (fun w hSw => ?_) hS (fun hS => ?_)
        rotate_left
        · go_simp; try with_reducible rfl
        try go_frame
        refine held_pure (i := 13) (oi := ⟨some 31, _, _, _, _, _⟩) rfl (by kernel_rfl) (by kernel_rfl) (by kernel_rfl) (fun _ _ _ h => h) (by rfl) (v := ?_) (fun w hSw => ?_) hS (fun hS => ?_)
        rotate_left
        · go_simp; try with_reducible rfl
        try go_frame
        refine held_pure (i := 14) (oi := ⟨some 32, _, _, _, _, _⟩) rfl (by kernel_rfl) (by kernel_rfl) (by kernel_rfl) (fun _ _ _ h => h) (by rfl) (v := ?_) (fun w hSw => ?_) hS (fun hS => ?_)
        rotate_left
        · go_simp; try with_reducible rfl
        try go_frame
        refine held_pure (i := 15) (oi := ⟨some 33, _, _, _, _, _⟩) rfl (by kernel_rfl) (by kernel_rfl) (by kernel_rfl) (fun _ _ _ h => h) (by rfl) (fun w hSw => run_load_rsl rfl rfl (KT.out _ hSw)) hS (fun hS => ?_)
        try go_frame
        refine held_pure (i := 16) (oi := ⟨some 34, _, _, _, _, _⟩) rfl (by kernel_rfl) (by kernel_rfl) (by kernel_rfl) (fun _ _ _ h => h) (by rfl) (v := ?_) (fun w hSw => ?_) hS (fun hS => ?_)
        rotate_left
        · go_simp; try with_reducible rfl
        try go_frame
        refine held_pure (i := 17) (oi := ⟨some 35, _, _, _, _, _⟩) rfl (by kernel_rfl) (by kernel_rfl) (by kernel_rfl) (fun _ _ _ h => h) (by rfl) (v := .pointer (some ⟨b, k * 6, none⟩)) (fun w hSw => by go_simp; try exact fun h => absurd h (by omega)) hS (fun hS => ?_)
        try go_frame
        refine held_pure (i := 18) (oi := ⟨some 36, _, _, _, _, _⟩) rfl (by kernel_rfl) (by kernel_rfl) (by kernel_rfl) (fun _ _ _ h => h) (by rfl) (v := ?_) (fun w hSw => ?_) hS (fun hS => ?_)
        rotate_left
        · go_simp; try with_reducible rfl
        try go_frame
        refine held_pure (i := 19) (oi := ⟨some 37, _, _, _, _, _⟩) rfl (by kernel_rfl) (by kernel_rfl) (by kernel_rfl) (fun _ _ _ h => h) (by rfl) (v := ?_) (fun w hSw => ?_) hS (fun hS => ?_)
        rotate_left
        · go_simp; try with_reducible rfl
        try go_frame
        refine held_pure (i := 20) (oi := ⟨some 38, _, _, _, _, _⟩) rfl (by kernel_rfl) (by kernel_rfl) (by kernel_rfl) (fun _ _ _ h => h) (by rfl) (fun w hSw => ld_reR rfl rfl (KY.out _ hSw) HLY.out) hS (fun hS => ?_)
        try go_frame
        refine held_pure (i := 21) (oi := ⟨some 39, _, _, _, _, _⟩) rfl (by kernel_rfl) (by kernel_rfl) (by kernel_rfl) (fun _ _ _ h => h) (by rfl) (fun w hSw => ld_reR rfl rfl (KX.out _ hSw) HLX.out) hS (fun hS => ?_)
        try go_frame
        refine held_pure (i := 22) (oi := ⟨some 40, _, _, _, _, _⟩) rfl (by kernel_rfl) (by kernel_rfl) (by kernel_rfl) (fun _ _ _ h => h) (by rfl) (v := .bool E) (fun w hSw => by go_simp) hS (fun hS => ?_)
        try go_frame
        refine held_pure (i := 23) (oi := ⟨some 41, _, _, _, _, _⟩) rfl (by kernel_rfl) (by kernel_rfl) (by kernel_rfl) (fun _ _ _ h => h) (by rfl) (v := ?_) (fun w hSw => ?_) hS (fun hS => ?_)
        rotate_left
        · go_simp; try with_reducible rfl
        try go_frame
        refine wpAnyH_done (by kernel_rfl) ?_ _
        cases E with
        | true =>
          have hres := HFE.out _ (find_yes HY.out HP.out HE.out)
          clear eS
          go_wp2
          refine bodyPost_ret (results_tmp2 rfl _ _ _) rfl ⟨?_, HBV.out.trans ((hbel.drew).mono HBV.out.size)⟩
          rw [← hres.1, ← hres.2]; rfl
        | false =>
          clear eS
          go_wp2
          go_roundw
          case rel => exact ⟨k + 1, by omega, by simp, Lib.hid (find_no HY.out HP.out HE.out), hbel.drew⟩
          case measure => simp [intOf]; omega
      · have dkb : (y.2.b == x.b) = false := by simp [hyb]
        have HP : Hid (fp y = false) := Lib.hid (by rw [HFP.out]; exact decide_eq_false (fun e => hyb (by simp [Sd.inn] at e; exact e.1)))
        clear hy hw hr hyb
        generalize y.2.b = yb at *
        generalize x.b = xb at *
        go_upto_region 4 with fail
        refine wp_region_held_drew (S := fun w' => Below wr.heap.size wr w') (by kernel_rfl) (Below.refl _ wr).drew (fun hS => ?_)
        refine held_pure (i := 0) (oi := ⟨some 18, _, _, _, _, _⟩) rfl (by kernel_rfl) (by kernel_rfl) (by kernel_rfl) (fun _ _ _ h => h) (by rfl) (v := ?_) (fun w hSw => ?_) hS (fun hS => ?_)
        rotate_left
        · go_simp; try with_reducible rfl
        try go_frame
        refine held_pure (i := 1) (oi := ⟨some 19, _, _, _, _, _⟩) rfl (by kernel_rfl) (by kernel_rfl) (by kernel_rfl) (fun _ _ _ h => h) (by rfl) (v := ?_) (fun w hSw => ?_) hS (fun hS => ?_)
        rotate_left
        · go_simp; try with_reducible rfl
        try go_frame
        refine held_pure (i := 2) (oi := ⟨some 20, _, _, _, _, _⟩) rfl (by kernel_rfl) (by kernel_rfl) (by kernel_rfl) (fun _ _ _ h => h) (by rfl) (v := ?_) (fun w hSw => ?_) hS (fun hS => ?_)
        rotate_left
        · go_simp; try with_reducible rfl
        try go_frame
        refine held_pure (i := 3) (oi := ⟨some 21, _, _, _, _, _⟩) rfl (by kernel_rfl) (by kernel_rfl) (by kernel_rfl) (fun _ _ _ h => h) (by rfl) (fun w hSw => run_load_rsl rfl rfl (KT.out _ hSw)) hS (fun hS => ?_)
        try go_frame
        refine held_pure (i := 4) (oi := ⟨some 22, _, _, _, _, _⟩) rfl (by kernel_rfl) (by kernel_rfl) (by kernel_rfl) (fun _ _ _ h => h) (by rfl) (v := ?_) (fun w hSw => ?_) hS (fun hS => ?_)
        rotate_left
        · go_simp; try with_reducible rfl
        try go_frame
        refine held_pure (i := 5) (oi := ⟨some 23, _, _, _, _, _⟩) rfl (by kernel_rfl) (by kernel_rfl) (by kernel_rfl) (fun _ _ _ h => h) (by rfl) (v := .pointer (some ⟨b, k * 6, none⟩)) (fun w hSw => by go_simp; try exact fun h => absurd h (by omega)) hS (fun hS => ?_)
        try go_frame
        refine held_pure (i := 6) (oi := ⟨some 24, _, _, _, _, _⟩) rfl (by kernel_rfl) (by kernel_rfl) (by kernel_rfl) (fun _ _ _ h => h) (by rfl) (v := ?_) (fun w hSw => ?_) hS (fun hS => ?_)
        rotate_left
        · go_simp; try with_reducible rfl
        try go_frame
        refine held_pure (i := 7) (oi := ⟨some 25, _, _, _, _, _⟩) rfl (by kernel_rfl) (by kernel_rfl) (by kernel_rfl) (fun _ _ _ h => h) (by rfl) (v := ?_) (fun w hSw => ?_) hS (fun hS => ?_)
        rotate_left
        · go_simp; try with_reducible rfl
        try go_frame
        refine held_pure (i := 8) (oi := ⟨some 26, _, _, _, _, _⟩) rfl (by kernel_rfl) (by kernel_rfl) (by kernel_rfl) (fun _ _ _ h => h) (by rfl) (fun w hSw => run_load_int rfl rfl (KB.out _ hSw)) hS (fun hS => ?_)
        try go_frame
        refine held_pure (i := 9) (oi := ⟨some 27, _, _, _, _, _⟩) rfl (by kernel_rfl) (by kernel_rfl) (by kernel_rfl) (fun _ _ _ h => h) (by rfl) (v := ?_) (fun w hSw => ?_) hS (fun hS => ?_)
        rotate_left
        · go_simp; try with_reducible rfl
        try go_frame
        refine held_pure (i := 10) (oi := ⟨some 28, _, _, _, _, _⟩) rfl (by kernel_rfl) (by kernel_rfl) (by kernel_rfl) (fun _ _ _ h => h) (by rfl) (v := .bool false) (fun w hSw => by go_simp; try exact dkb) hS (fun hS => ?_)
        try go_frame
        refine held_pure (i := 11) (oi := ⟨some 29, _, _, _, _, _⟩) rfl (by kernel_rfl) (by kernel_rfl) (by kernel_rfl) (fun _ _ _ h => h) (by rfl) (v := ?_) (fun w hSw => ?_) hS (fun hS => ?_)
        rotate_left
        · go_simp; try with_reducible rfl
        try go_frame
        refine held_skip (i := 12) (oi := ⟨some 30, _, _, _, _, _⟩) rfl (by kernel_rfl) (by kernel_rfl) (by kernel_rfl) (fun _ _ _ h => h) (by rfl) hS (fun hS => ?_)
        try go_frame
        refine held_skip (i := 13) (oi := ⟨some 31, _, _, _, _, _⟩) rfl (by kernel_rfl) (by kernel_rfl) (by kernel_rfl) (fun _ _ _ h => h) (by rfl) hS (fun hS => ?_)
        try go_frame
        refine held_skip (i := 14) (oi := ⟨some 32, _, _, _, _, _⟩) rfl (by kernel_rfl) (by kernel_rfl) (by kernel_rfl) (fun _ _ _ h => h) (by rfl) hS (fun hS => ?_)
        try go_frame
        refine held_skip (i := 15) (oi := ⟨some 33, _, _, _, _, _⟩) rfl (by kernel_rfl) (by kernel_rfl) (by kernel_rfl) (fun _ _ _ h => h) (by rfl) hS (fun hS => ?_)
        try go_frame
        refine held_skip (i := 16) (oi := ⟨some 34, _, _, _, _, _⟩) rfl (by kernel_rfl) (by kernel_rfl) (by kernel_rfl) (fun _ _ _ h => h) (by rfl) hS (fun hS => ?_)
        try go_frame
        refine held_skip (i := 17) (oi := ⟨some 35, _, _, _, _, _⟩) rfl (by kernel_rfl) (by kernel_rfl) (by kernel_rfl) (fun _ _ _ h => h) (by rfl) hS (fun hS => ?_)
        try go_frame
        refine held_skip (i := 18) (oi := ⟨some 36, _, _, _, _, _⟩) rfl (by kernel_rfl) (by kernel_rfl) (by kernel_rfl) (fun _ _ _ h => h) (by rfl) hS (fun hS => ?_)
        try go_frame
        refine held_skip (i := 19) (oi := ⟨some 37, _, _, _, _, _⟩) rfl (by kernel_rfl) (by kernel_rfl) (by kernel_rfl) (fun _ _ _ h => h) (by rfl) hS (fun hS => ?_)
        try go_frame
        refine held_skip (i := 20) (oi := ⟨some 38, _, _, _, _, _⟩) rfl (by kernel_rfl) (by kernel_rfl) (by kernel_rfl) (fun _ _ _ h => h) (by rfl) hS (fun hS => ?_)
        try go_frame
        refine held_skip (i := 21) (oi := ⟨some 39, _, _, _, _, _⟩) rfl (by kernel_rfl) (by kernel_rfl) (by kernel_rfl) (fun _ _ _ h => h) (by rfl) hS (fun hS => ?_)
        try go_frame
        refine held_skip (i := 22) (oi := ⟨some 40, _, _, _, _, _⟩) rfl (by kernel_rfl) (by kernel_rfl) (by kernel_rfl) (fun _ _ _ h => h) (by rfl) hS (fun hS => ?_)
        try go_frame
        refine held_pure (i := 23) (oi := ⟨some 41, _, _, _, _, _⟩) rfl (by kernel_rfl) (by kernel_rfl) (by kernel_rfl) (fun _ _ _ h => h) (by rfl) (v := ?_) (fun w hSw => ?_) hS (fun hS => ?_)
        rotate_left
        · go_simp; try with_reducible rfl
        try go_frame
        refine wpAnyH_done (by kernel_rfl) ?_ _
        go_wp2
        go_roundw
        case rel => exact ⟨k + 1, by omega, by simp, Lib.hid (find_no HY.out HP.out HE.out), hbel.drew⟩
        case measure => simp [intOf]; omega
    · obtain rfl : n = k := by omega
      have hres := HFE.out _ (find_end (by rw [← HSL.out]; exact Nat.le_refl _) HE.out)
      clear hw
      go_wp2
      refine bodyPost_ret (results_tmp2 rfl _ _ _) rfl ⟨?_, HBV.out.trans (hbel.mono HBV.out.size)⟩
      rw [← hres.1, ← hres.2]; rfl
/-- Which session has a number. -/
def fndN (D : List (Nat × Sd)) (i : Int) : Option (Nat × Sd) := D.find? (fun e => decide ((e.1 : Int) = i))
set_option maxRecDepth 100000 in
set_option maxHeartbeats 1000000 in
theorem r24get (h : Rt w B0 g v most D) (hD : D.length ≤ 1000) (i : Int) : Calls Tryd.prog 16 #[.pointer (some ⟨g, 0, none⟩), .int .i64 i] w fun e w' =>
    e = .returned (.tuple #[seV (((fndN D i).map (·.2)).getD sd0), .bool (fndN D i).isSome]) ∧ Below w.heap.size w w' := by
  obtain ⟨V, hV⟩ : ∃ V, V = w.alloc (.cells (clSe sd0).toArray 34) := ⟨_, rfl⟩
  have bV : Below w.heap.size w V := by rw [hV]; exact (Below.refl _ w).alloc (Nat.le_refl _) _
  have hbV : V.heap[w.heap.size]? = some (.cells (clSe sd0).toArray 34 (0, 0)) := by rw [hV]; exact World.alloc_heap_new w _
  have HV := Lib.hid (show w.alloc (.cells #[.int .i64 0, .int .i64 0, .int .i64 0, .int .i64 0, .int .i64 0] 34) = V from hV.symm)
  have h := h.below bV
  have HBV := Lib.hid bV
  have HBX := Lib.hid hbV
  obtain ⟨A, c, rfl, hrd, hcap, _⟩ := h.sh
  obtain ⟨n, hne⟩ : ∃ n, n = D.length := ⟨_, rfl⟩
  have HSL := Lib.hid hne
  rw [← hne] at h hD hcap
  have H := Lib.hid h
  clear h hne hrd hV bV hbV
  obtain ⟨fp, hfp⟩ : ∃ fp : Nat × Sd → Bool, fp = fun e => decide ((e.1 : Int) = i) := ⟨_, rfl⟩
  have HFE : Hid (∀ o, D.find? fp = o → seV ((o.map (·.2)).getD sd0) = seV (((fndN D i).map (·.2)).getD sd0) ∧ (.bool o.isSome : Value) = .bool (fndN D i).isSome) := Lib.hid (by rintro _ rfl; rw [hfp]; exact ⟨rfl, rfl⟩)
  generalize seV (((fndN D i).map (·.2)).getD sd0) = r1 at *
  generalize (.bool (fndN D i).isSome : Value) = r2 at *
  have HFP : Hid (∀ y : Nat × Sd, fp y = decide ((y.1 : Int) = i)) := Lib.hid (fun y => by rw [hfp])
  clear hfp
  go_enter Tryd.func16, Tryd.ntmps16
  go_upto_region 1 with fail
  rw [HV.out]
  go_wp2
  go_loopw [6] (fun z wr => ∃ k : Nat, k ≤ n ∧ z = .int .i64 (k : Int) ∧ Hid (D.find? fp = (D.drop k).find? fp) ∧ V = wr) (fun z _ => n - (intOf z).toNat)
  case atStart => exact ⟨0, Nat.zero_le _, rfl, Lib.hid rfl, rfl⟩
  case round =>
    obtain ⟨k, hk, rfl, HE, rfl⟩ := hrel
    have kt : V.cell? ⟨g, 0, none⟩ = some (.slice A n c) := cells_at (i := 0) H.out.tab rfl
    have hz : V = w.alloc (.cells (clSe sd0).toArray 34) := HV.out.symm
    by_cases hkn : k < n
    · obtain ⟨y, hy⟩ : ∃ y, D[k]? = some y := ⟨_, List.getElem?_eq_getElem (by rw [← HSL.out]; exact hkn)⟩
      obtain ⟨b, hA, hb, hr⟩ := H.out.at_ hy
      have kx0 : V.cell? ⟨b, k * 6, none⟩ = some (.int .i64 (y.1 : Int)) := by simpa using hr 0 _ rfl
      have HY := Lib.hid hy
      have hrb := clNu_se hr
      subst hA
      clear hy hr
      by_cases he : (y.1 : Int) = i
      · have dk : ((y.1 : Int) == i) = true := by simp [he]
        have hres := HFE.out _ (find_yes HY.out (by rw [HFP.out]; exact decide_eq_true he) HE.out)
        have e1 : seV y.2 = r1 := hres.1
        have e2 : (.bool true : Value) = r2 := hres.2
        subst e1; subst e2
        clear he hres
        subst hz
        go_wp2_with (first
          | ((with_reducible show wpList _ _ _ (Oper.mk _ (Op.load 34 _) _ _ _ _ :: _) _ _); refine wpList_val rfl (run_load_se (x := y.2) rfl rfl hrb) ?_)
          | ((with_reducible show wpList _ _ _ (Oper.mk _ (Op.store 34 _ _) _ _ _ _ :: _) _ _); refine se_store_new (cs := (clSe y.2).toArray) rfl rfl rfl rfl (clSe_one _) ?_))
        exact bodyPost_ret (se_result2 rfl rfl (World.alloc_heap_new w _) rfl) rfl ⟨rfl, (Below.refl _ w).alloc (Nat.le_refl _) _⟩
      · have dk : ((y.1 : Int) == i) = false := by simp [he]
        have hno := find_no HY.out (by rw [HFP.out]; exact decide_eq_false he) HE.out
        have HNO := Lib.hid hno
        clear he hno hz hrb
        go_wp2
        go_roundw
        case rel => exact ⟨k + 1, by omega, by simp, Lib.hid HNO.out, by first | rfl | trivial⟩
        case measure => simp [intOf]; omega
    · obtain rfl : n = k := by omega
      have hres := HFE.out _ (find_end (by rw [← HSL.out]; exact Nat.le_refl _) HE.out)
      have e1 : seV sd0 = r1 := hres.1
      have e2 : (.bool false : Value) = r2 := hres.2
      subst e1; subst e2
      clear hres
      subst hz
      go_wp2_with (first
        | ((with_reducible show wpList _ _ _ (Oper.mk _ (Op.store 34 _ _) _ _ _ _ :: _) _ _); refine se_store_new (cs := (clSe sd0).toArray) rfl rfl rfl rfl (clSe_one _) ?_))
      exact bodyPost_ret (se_result2 rfl rfl (World.alloc_heap_new w _) rfl) rfl ⟨rfl, (Below.refl _ w).alloc (Nat.le_refl _) _⟩
end
end Go.Proofs.YtghbliabmecbcaaDoor

/-
  The document's sessions of layer 24: rows that grow; Remove, Of. Conditions are each theorem's own.
-/
namespace Go.Proofs.YtghbliabmecbcaaDoor
open Go.RowKit Go.Shelf
set_option maxRecDepth 100000 in
theorem run_load_slR {o : Oper} {a : Act} {w : World} {y : Operand} {g i : Nat} {L : List Value} (ho : o.op = .load 71 y) (hx : a.eval y = .pointer (some ⟨g, i, none⟩)) (hr : w.rangeAt g i L) (hl : L.length = 6) :
    (execOp a.eval o).run Tryd.prog w = .ok (.value (.agg L.toArray)) w := by
  have h := run_loadVar_mid (P := Tryd.prog) w g i 71 L _ hr Tryd.underlying71 rfl (by rw [hl]; kernel_rfl)
  unfold execOp
  simp only [ho, hx, Instr.loadAt, Instr.sureAddr, Sem.run_bind, Sem.run_pure, Result.andThen_ok, h]
set_option maxRecDepth 100000 in
theorem run_bsR {o : Oper} {a : Act} {w : World} {x : Operand} {cs : Array Value} (ho : o.op = .buildSlice 61 1 #[(0, x)]) (hx : a.eval x = .agg cs) (hl : cs.size = 6) :
    (execOp a.eval o).run Tryd.prog w = .ok (.value (.slice (some ⟨w.heap.size, 0, none⟩) 1 1)) (w.alloc (.cells cs 71)) := by
  obtain ⟨i0, hi, hz0, hz1, hz2⟩ := info_parts info_r
  have h := run_lit1 (P := Tryd.prog) w 61 71 i0 _ cs 6 Tryd.underlying61 hi hz0 hz1 hl (by decide) (by decide)
  unfold execOp
  simp only [ho, List.map_toArray, List.map_cons, List.map_nil, hx, Sem.run_bind, h, Result.andThen_ok]
  rfl
theorem clNu_flat (l : List (Nat × Sd)) : (l.flatMap clNu).length = l.length * 6 := flat_len l (fun x _ => clNu_len x)
theorem rds_srcR {w : World} {B : Nat} {ad : Addr} {l : List (Nat × Sd)} (hr : RdS clNu 6 w B (some ad) l) : ∀ j u, (l.flatMap clNu)[j]? = some u → w.cell? (ad.add j) = some u := fun j u hj => by
  have hj3 : j < l.length * 6 := by have := (List.getElem?_eq_some_iff.1 hj).1; rwa [clNu_flat] at this
  obtain ⟨b, off, e, _, hc⟩ := hr (by omega)
  injection e with e
  subst e
  obtain ⟨y, hy⟩ : ∃ y, l[j / 6]? = some y := ⟨_, List.getElem?_eq_getElem (by omega)⟩
  have h2 : j % 6 < (clNu y).length := by rw [clNu_len]; omega
  have hf := flat_at (cl := clNu) (sz := 6) l (fun x _ => clNu_len x) (j / 6) y hy (j % 6) _ (List.getElem?_eq_getElem h2)
  rw [show j / 6 * 6 + j % 6 = j from by omega, hj] at hf
  injection hf with hf
  have h8 := hc (j / 6) y hy (j % 6) _ (List.getElem?_eq_getElem h2)
  rw [← hf, show off + j / 6 * 6 + j % 6 = off + j from by omega] at h8
  rw [add_off]; exact h8
theorem ones_R (l : List (Nat × Sd)) : ∀ u ∈ l.flatMap clNu, u.oneCell' = true := fun u hu => by
  obtain ⟨y, _, h⟩ := List.mem_flatMap.1 hu
  exact clNu_own y u h
theorem append_rL {w : World} {ops : Array Oper} {rest : List Oper} {o : Oper} {a : Act} {Q : Exit → Act → World → Prop} (hgd : o.guard = none) (s x : Operand)
    (ho : o.op = .call { callee := .builtin .append, args := #[s, x], argTypes := #[61, 61] })
    (base : Nat) (v : Value) (S : List (Nat × Sd)) (hs : a.eval s = v) (hown : w.ownsRow base 71 6 v S.length (S.flatMap clNu))
    (g : Nat) (y : Nat × Sd) (hx : a.eval x = .slice (some ⟨g, 0, none⟩) 1 1) (hy : w.rangeAt g 0 (clNu y))
    (hlen : S.length ≤ 1000000) (hbase : base ≤ w.heap.size)
    (h : ∀ v' w', w'.ownsRow base 71 6 v' (S ++ [y]).length ((S ++ [y]).flatMap clNu) → w.grownBy w' v.ownBlock → wpList Tryd.prog ops Q rest (a.put o.dst v') w') : wpList Tryd.prog ops Q (o :: rest) a w := by
  obtain ⟨i0, hi, hz0, hz1, hz2⟩ := info_parts info_r
  refine wpList_append_own w hgd s x 61 ho base 71 i0 _ 6 48 Tryd.underlying61 hi hz0 hz1 hz2 rfl (by decide) v S.length (S.flatMap clNu) hs hown ⟨g, 0, none⟩ 1 1 (clNu y) hx
      (clNu_len y) (fun j u hu => ?_) (clNu_own y) (by unfold maxLen; omega) (by omega) hbase (fun v' w' h1 h2 _ => h v' w' ?_ h2)
  · rw [add_off, Nat.zero_add]; have := hy j u hu; rwa [Nat.zero_add] at this
  · rw [List.length_append, List.flatMap_append]
    simpa using h1
/-- The sessions without a number. -/
def outR (i : Int) (D : List (Nat × Sd)) : List (Nat × Sd) := D.filter fun e => decide ((e.1 : Int) ≠ i)
section
variable {w w' : World} {B0 g : Nat} {v : Value} {most : Int} {D : List (Nat × Sd)} {i : Int}
theorem outR_step {k : Nat} {x : Nat × Sd} (hx : D[k]? = some x) : outR i (D.take (k + 1)) = outR i (D.take k) ++ if (x.1 : Int) ≠ i then [x] else [] := by
  unfold outR
  rw [List.take_add_one, hx, List.filter_append]
  congr 1
  by_cases h : (x.1 : Int) = i <;> simp [h]
theorem outR_len : (outR i D).length ≤ D.length := List.length_filter_le _ _
set_option maxRecDepth 100000 in
set_option maxHeartbeats 1000000 in
theorem r24del (h : Rt w B0 g v most D) (hD : D.length ≤ 1000) (i : Int) : Calls Tryd.prog 14 #[.pointer (some ⟨g, 0, none⟩), .int .i64 i] w fun e w' =>
    e = .returned (.bool (decide ((outR i D).length < D.length))) ∧ ∃ v', Rt w' B0 g v' most (outR i D) ∧ Kept (fun k => k = g) w w' := by
  obtain ⟨A, c, rfl, hrd, hcap, _⟩ := h.sh
  obtain ⟨n, hne⟩ : ∃ n, n = D.length := ⟨_, rfl⟩
  have HSL := Lib.hid hne
  rw [← hne] at h hD hcap
  have H := Lib.hid h
  have h0 := World.ownsRow_nil w w.heap.size 71 6
  clear h hne hrd
  go_enter Tryd.func14, Tryd.ntmps14
  go_wp2
  go_loopw [5, 6] (fun u z wr => ∃ (k : Nat) (v : Value), k ≤ n ∧ z = .int .i64 (k : Int) ∧ v = u ∧ Hid (wr.ownsRow w.heap.size 71 6 v (outR i (D.take k)).length ((outR i (D.take k)).flatMap clNu)) ∧ Below w.heap.size w wr) (fun _ z _ => n - (intOf z).toNat)
  case atStart => exact ⟨0, _, Nat.zero_le _, rfl, rfl, Lib.hid h0, Below.refl _ _⟩
  case round =>
    obtain ⟨k, v, hk, rfl, rfl, HO, hbel⟩ := hrel
    clear h0
    have hw := H.out.below hbel
    have kt : wr.cell? ⟨g, 0, none⟩ = some (.slice A n c) := cells_at (i := 0) hw.tab rfl
    have kf := heap_frozen hw.tab 0
    have hz := hbel.size
    by_cases hkn : k < n
    · obtain ⟨y, hy⟩ : ∃ y, D[k]? = some y := ⟨_, List.getElem?_eq_getElem (by rw [← HSL.out]; exact hkn)⟩
      obtain ⟨b, rfl, hb, hr⟩ := hw.at_ hy
      have kx0 : wr.cell? ⟨b, k * 6, none⟩ = some (.int .i64 (y.1 : Int)) := by simpa using hr 0 _ rfl
      have HST := Lib.hid (outR_step (i := i) hy)
      have hle : (outR i (D.take k)).length ≤ 1000000 := by
        have h1 := outR_len (i := i) (D := D.take k)
        rw [List.length_take] at h1
        omega
      clear hw hy
      by_cases he : (y.1 : Int) = i
      · have dk : ((y.1 : Int) == i) = true := by simp [he]
        have HE : Hid (outR i (D.take (k + 1)) = outR i (D.take k)) := Lib.hid (by rw [HST.out, if_neg (by simpa using he), List.append_nil])
        clear he hr
        go_wp2
        go_roundw
        case rel => exact ⟨k + 1, _, by omega, by simp, rfl, Lib.hid (by rw [HE.out]; exact HO.out), hbel⟩
        case measure => simp [intOf]; omega
      · have dk : ((y.1 : Int) == i) = false := by simp [he]
        have HE : Hid (outR i (D.take (k + 1)) = outR i (D.take k) ++ [y]) := Lib.hid (by rw [HST.out, if_pos (by simpa using he)])
        obtain ⟨V2, hV2⟩ : ∃ V2, V2 = wr.alloc (.cells (clNu y).toArray 71) := ⟨_, rfl⟩
        have HV2 := Lib.hid hV2
        have hrV2 : V2.rangeAt wr.heap.size 0 (clNu y) := by rw [hV2]; exact range_heap (World.alloc_heap_new wr _)
        have hOV2 : V2.ownsRow w.heap.size 71 6 v (outR i (D.take k)).length ((outR i (D.take k)).flatMap clNu) := by rw [hV2]; exact HO.out.alloc _
        have hbV2 : Below w.heap.size w V2 := by rw [hV2]; exact hbel.alloc hz _
        have hzV := hbV2.size
        clear he hV2
        go_wp2_with (first
          | ((with_reducible show wpList _ _ _ (Oper.mk _ (Op.load 71 _) _ _ _ _ :: _) _ _); refine wpList_val rfl (run_load_slR (L := clNu y) rfl rfl hr rfl) ?_)
          | ((with_reducible show wpList _ _ _ (Oper.mk _ (Op.buildSlice _ _ _) _ _ _ _ :: _) _ _); refine list_growB rfl (run_bsR (cs := (clNu y).toArray) rfl rfl rfl) ?_; rw [← HV2.out])
          | (at_builtin; refine append_rL rfl _ _ rfl w.heap.size _ (outR i (D.take k)) rfl hOV2 wr.heap.size y rfl hrV2 hle hzV ?_; intro v' w3 hown' hgrow; have Q3 := Lib.hid hown'; have q5 := hbV2.grown hgrow hzV (fun k hk => own_block_ge hOV2 k hk); clear hown' hgrow))
        go_roundw
        case rel => exact ⟨k + 1, _, by omega, by simp, rfl, Lib.hid (by rw [HE.out]; exact Q3.out), q5⟩
        case measure => simp [intOf]; omega
    · obtain rfl : n = k := by omega
      have hLk : outR i (D.take n) = outR i D := by rw [List.take_of_length_le (by rw [← HSL.out]; exact Nat.le_refl _)]
      rw [hLk] at HO
      obtain ⟨A', c', e5, _, _⟩ := own_rds HO.out rfl rfl (fun x _ => clNu_len x)
      obtain ⟨m, hm⟩ : ∃ m, m = (outR i D).length := ⟨_, rfl⟩
      rw [← hm] at e5
      subst e5
      have HM := Lib.hid hm
      have HT := Lib.hid hw.tab
      have HD : Hid (decide (m < n) = decide ((outR i D).length < D.length)) := Lib.hid (by rw [hm, HSL.out])
      clear hLk hm hw
      go_wp2
      have hq := Rt.put (X := wr.setCell ⟨g, 0, none⟩ (.slice A' m c')) HT.out HO.out (Nat.le_trans H.out.z (Nat.le_of_lt (heap_lt H.out.tab))) H.out.z rfl
      refine bodyPost_ret (results_tmp rfl _ _ _) rfl ⟨by rw [← HD.out]; first | rfl | simp, .slice A' m c', hq, (Kept.of_below hbel).trans (Kept.setCell wr g 0 _) (fun _ _ e => e)⟩
theorem ofD_step {b : Int} {k : Nat} {x : Nat × Sd} (hx : D[k]? = some x) : ofD (D.take (k + 1)) b = ofD (D.take k) b ++ if x.2.b = b then [x] else [] := by
  unfold ofD
  rw [List.take_add_one, hx, List.filter_append]
  congr 1
  by_cases h : x.2.b = b <;> simp [h]
theorem ofD_len {b : Int} : (ofD D b).length ≤ D.length := List.length_filter_le _ _
set_option maxRecDepth 100000 in
set_option maxHeartbeats 1000000 in
theorem r24of (h : Rt w B0 g v most D) (hD : D.length ≤ 1000) (i : Int) : Calls Tryd.prog 33 #[.pointer (some ⟨g, 0, none⟩), .int .i64 i] w fun e w' =>
    ∃ A c, e = .returned (.slice A (ofD D i).length c) ∧ RdS clNu 6 w' w'.heap.size A (ofD D i) ∧ Below w.heap.size w w' := by
  obtain ⟨A, c, rfl, hrd, hcap, _⟩ := h.sh
  obtain ⟨n, hne⟩ : ∃ n, n = D.length := ⟨_, rfl⟩
  have HSL := Lib.hid hne
  rw [← hne] at h hD hcap
  have H := Lib.hid h
  have h0 := World.ownsRow_nil w w.heap.size 71 6
  clear h hne hrd
  go_enter Tryd.func33, Tryd.ntmps33
  go_wp2
  go_loopw [5, 6] (fun u z wr => ∃ (k : Nat) (v : Value), k ≤ n ∧ z = .int .i64 (k : Int) ∧ v = u ∧ Hid (wr.ownsRow w.heap.size 71 6 v (ofD (D.take k) i).length ((ofD (D.take k) i).flatMap clNu)) ∧ Below w.heap.size w wr) (fun _ z _ => n - (intOf z).toNat)
  case atStart => exact ⟨0, _, Nat.zero_le _, rfl, rfl, Lib.hid h0, Below.refl _ _⟩
  case round =>
    obtain ⟨k, v, hk, rfl, rfl, HO, hbel⟩ := hrel
    clear h0
    have hw := H.out.below hbel
    have kt : wr.cell? ⟨g, 0, none⟩ = some (.slice A n c) := cells_at (i := 0) hw.tab rfl
    have kf := heap_frozen hw.tab 0
    have hz := hbel.size
    by_cases hkn : k < n
    · obtain ⟨y, hy⟩ : ∃ y, D[k]? = some y := ⟨_, List.getElem?_eq_getElem (by rw [← HSL.out]; exact hkn)⟩
      obtain ⟨b, rfl, hb, hr⟩ := hw.at_ hy
      have kx0 : wr.cell? ⟨b, k * 6 + 1, none⟩ = some (.int .i64 y.2.b) := hr 1 _ rfl
      have HST := Lib.hid (ofD_step (b := i) hy)
      have hle : (ofD (D.take k) i).length ≤ 1000000 := by
        have h1 := ofD_len (b := i) (D := D.take k)
        rw [List.length_take] at h1
        omega
      clear hw hy
      by_cases he : y.2.b = i
      · have dk : (y.2.b == i) = true := by simp [he]
        have HE : Hid (ofD (D.take (k + 1)) i = ofD (D.take k) i ++ [y]) := Lib.hid (by rw [HST.out, if_pos he])
        obtain ⟨V2, hV2⟩ : ∃ V2, V2 = wr.alloc (.cells (clNu y).toArray 71) := ⟨_, rfl⟩
        have HV2 := Lib.hid hV2
        have hrV2 : V2.rangeAt wr.heap.size 0 (clNu y) := by rw [hV2]; exact range_heap (World.alloc_heap_new wr _)
        have hOV2 : V2.ownsRow w.heap.size 71 6 v (ofD (D.take k) i).length ((ofD (D.take k) i).flatMap clNu) := by rw [hV2]; exact HO.out.alloc _
        have hbV2 : Below w.heap.size w V2 := by rw [hV2]; exact hbel.alloc hz _
        have hzV := hbV2.size
        clear he hV2
        go_wp2_with (first
          | ((with_reducible show wpList _ _ _ (Oper.mk _ (Op.load 71 _) _ _ _ _ :: _) _ _); refine wpList_val rfl (run_load_slR (L := clNu y) rfl rfl hr rfl) ?_)
          | ((with_reducible show wpList _ _ _ (Oper.mk _ (Op.buildSlice _ _ _) _ _ _ _ :: _) _ _); refine list_growB rfl (run_bsR (cs := (clNu y).toArray) rfl rfl rfl) ?_; rw [← HV2.out])
          | (at_builtin; refine append_rL rfl _ _ rfl w.heap.size _ (ofD (D.take k) i) rfl hOV2 wr.heap.size y rfl hrV2 hle hzV ?_; intro v' w3 hown' hgrow; have Q3 := Lib.hid hown'; have q5 := hbV2.grown hgrow hzV (fun k hk => own_block_ge hOV2 k hk); clear hown' hgrow))
        go_roundw
        case rel => exact ⟨k + 1, _, by omega, by simp, rfl, Lib.hid (by rw [HE.out]; exact Q3.out), q5⟩
        case measure => simp [intOf]; omega
      · have dk : (y.2.b == i) = false := by simp [he]
        have HE : Hid (ofD (D.take (k + 1)) i = ofD (D.take k) i) := Lib.hid (by rw [HST.out, if_neg he, List.append_nil])
        clear he hr
        go_wp2
        go_roundw
        case rel => exact ⟨k + 1, _, by omega, by simp, rfl, Lib.hid (by rw [HE.out]; exact HO.out), hbel⟩
        case measure => simp [intOf]; omega
    · obtain rfl : n = k := by omega
      have hLk : ofD (D.take n) i = ofD D i := by rw [List.take_of_length_le (by rw [← HSL.out]; exact Nat.le_refl _)]
      rw [hLk] at HO
      obtain ⟨A', c', e5, r5, _⟩ := own_rds HO.out rfl rfl (fun x _ => clNu_len x)
      have R5 := Lib.hid r5
      obtain ⟨m, hm⟩ : ∃ m, m = (ofD D i).length := ⟨_, rfl⟩
      rw [← hm] at e5
      subst e5
      have HM := Lib.hid hm
      clear hLk hm hw r5
      go_wp2
      refine bodyPost_ret (results_tmp rfl _ _ _) rfl ⟨A', c', by rw [← HM.out]; rfl, R5.out, hbel⟩
end
end Go.Proofs.YtghbliabmecbcaaDoor
