/-
  Contracts and lemmas on which the proofs of this seat stand (several texts in one). Conditions are each theorem's own.
-/
import Derived.Test.YtafidbjaeopciaaDoorBb11

/-
  The document's bindings of layer 22: what they hold; New, Find, Back, Get. Conditions are each theorem's own.
-/
namespace Go.Proofs.YtafidbjaeopciaaDoor
open Go.RowKit Go.Shelf
def clSr (e : Nat × Bd) : List Value := .int .i64 (e.1 : Int) :: clBd e.2
theorem clSr_len (e : Nat × Bd) : (clSr e).length = 9 := rfl
theorem clSr_one (e : Nat × Bd) : ∀ u ∈ clSr e, u.oneCell' = true := fun u hu => by simp [clSr, clBd] at hu; rcases hu with rfl | rfl | rfl | rfl | rfl | rfl | rfl | rfl | rfl <;> rfl
theorem info_r : (Tryd.prog.info? 73).map (fun i => (i.zero, i.size, i.bytes)) = some (some (.agg #[.int .i64 0, .int .i64 0, .int .i64 0, .int .i64 0, .int .i64 0, .int .i64 0, .int .i64 0, .int .i64 0, .bool false]), 9, 72) := by kernel_rfl
theorem neR : 73 ≠ 65 := nat_ne (by kernel_rfl)
theorem own_moveR {w w' : World} {base n : Nat} {v : Value} {xs : List Value} (h : w.ownsRow base 73 9 v n xs) (hk : ∀ (k : Nat) (cur : Array Value), w.heap[k]? = some (Obj.cells cur 73 (0, 0)) → w'.heap[k]? = w.heap[k]?) : w'.ownsRow 0 73 9 v n xs := by
  refine ⟨h.1, ?_⟩
  rcases h.2 with hn | ⟨g, cap, cur, hv, hb, hg, rest⟩
  · exact .inl hn
  · exact .inr ⟨g, cap, cur, hv, Nat.zero_le _, (hk g cur hg).trans hg, rest⟩
/-- The document's bindings in block g are D. -/
structure Rb (w : World) (g : Nat) (v : Value) (most : Int) (D : List (Nat × Bd)) : Prop where
  tab : w.heap[g]? = some (.cells #[v, .int .i64 most] 65 (0, 0))
  own : w.ownsRow 0 73 9 v D.length (D.flatMap clSr)
section
variable {w w' : World} {g : Nat} {v : Value} {most : Int} {D : List (Nat × Bd)}
theorem Rb.fb (h : Rb w g v most D) {B0 : Nat} (k : FB B0 w w') : Rb w' g v most D :=
  ⟨k.heap h.tab t4_no.2.1, own_moveR h.own (fun _ _ hk => (k.heap hk t4_no.2.2.1).trans hk.symm)⟩
theorem Rb.ck (h : Rb w g v most D) (k : CK w w') : Rb w' g v most D := ⟨k.k _ _ _ _ h.tab, own_moveR h.own (fun _ _ hk => (k.k _ _ _ _ hk).trans hk.symm)⟩
theorem Rb.below (h : Rb w g v most D) (hb : Below w.heap.size w w') : Rb w' g v most D := h.ck (CK.of_below hb)
theorem Rb.sh (h : Rb w g v most D) : ∃ A c, v = .slice A D.length c ∧ RdS clSr 9 w w.heap.size A D ∧ D.length ≤ c ∧ (A = none → c = 0) := by
  obtain ⟨A, c, e, h1, h2⟩ := own_rds h.own rfl rfl (fun x _ => clSr_len x)
  refine ⟨A, c, e, h1, h2, fun e2 => ?_⟩
  rcases h.own.2 with ⟨e3, _⟩ | ⟨b, cap, cur, e3, _⟩
  · rw [e] at e3; injection e3
  · rw [e, e2] at e3; injection e3 with e3; cases e3
theorem Rb.at_ {A : Option Addr} {m c : Nat} (h : Rb w g (.slice A m c) most D) {k : Nat} {x : Nat × Bd} (hx : D[k]? = some x) : ∃ b, A = some ⟨b, 0, none⟩ ∧ b < w.heap.size ∧ w.rangeAt b (k * 9) (clSr x) := by
  have hk := (List.getElem?_eq_some_iff.1 hx).1
  rcases h.own.2 with ⟨_, h0⟩ | ⟨b, cap, cur, e3, _, hh, _⟩
  · omega
  · injection e3 with e1 e2 e4
    refine ⟨b, e1, heap_lt hh, fun i u hi => ?_⟩
    have hf := flat_at (cl := clSr) (sz := 9) D (fun x _ => clSr_len x) k x hx i u hi
    have hl := (List.getElem?_eq_some_iff.1 hf).1
    rw [flat_len D (fun x _ => clSr_len x)] at hl
    subst e1; subst e2
    have := World.ownsRow.cellAt h.own (k * 9 + i) hl
    rw [hf] at this
    exact this
theorem Rb.new (w : World) (most : Int) : Rb (w.alloc (.cells #[.slice none 0 0, .int .i64 most] 65)) w.heap.size (.slice none 0 0) most [] := ⟨World.alloc_heap_new w _, World.ownsRow_nil _ _ _ _⟩
theorem Rb.put {X : World} {u : Value} {base : Nat} {R : List (Nat × Bd)} (ht : w.heap[g]? = some (.cells #[v, .int .i64 most] 65 (0, 0))) (ho : w.ownsRow base 73 9 u R.length (R.flatMap clSr)) (hX : X = w.setCell ⟨g, 0, none⟩ u) : Rb X g u most R := by
  subst hX
  refine ⟨heap_setCell_same w g 0 _ _ u ht, own_moveR ho fun k cur hk => heap_setCell_other w ⟨g, 0, none⟩ k u (fun e => ?_)⟩
  have e : g = k := by first | exact e | exact e.symm
  rw [← e, ht] at hk
  injection hk with hk
  injection hk with _ e2 _
  exact neR e2.symm
theorem clSr_inn {U : World} {b j : Nat} {e : Nat × Bd} (h : U.rangeAt b j (clSr e)) : U.rangeAt b (j + 1) (clI e.2.inn) := fun i u hi => by
  have hl : i < 4 := (List.getElem?_eq_some_iff.1 hi).1
  rw [show j + 1 + i = j + (i + 1) from by omega]
  refine h (i + 1) u ?_
  rw [← hi]
  rcases i with _ | _ | _ | _ | i
  · rfl
  · rfl
  · rfl
  · rfl
  · omega
theorem clSr_out {U : World} {b j : Nat} {e : Nat × Bd} (h : U.rangeAt b j (clSr e)) : U.rangeAt b (j + 5) (clI e.2.out) := fun i u hi => by
  have hl : i < 3 := (List.getElem?_eq_some_iff.1 hi).1
  rw [show j + 5 + i = j + (i + 5) from by omega]
  refine h (i + 5) u ?_
  rw [← hi]
  rcases i with _ | _ | _ | i
  · rfl
  · rfl
  · rfl
  · omega
theorem clSr_bd {U : World} {b j : Nat} {e : Nat × Bd} (h : U.rangeAt b j (clSr e)) : U.rangeAt b (j + 1) (clBd e.2) := fun i u hi => by
  rw [show j + 1 + i = j + (i + 1) from by omega]
  exact h (i + 1) u hi
theorem range_belowR {U V : World} {b j : Nat} {l : List Value} (h : U.rangeAt b j l) (hb : b < U.heap.size) (k : Below U.heap.size U V) : V.rangeAt b j l := fun i u hi => (World.cell?_of_block (k.block b hb)).trans (h i u hi)
set_option maxRecDepth 100000 in
theorem ld_innR {o : Oper} {a : Act} {w : World} {y : Operand} {g i : Nat} {L : List Value} (ho : o.op = .load 32 y) (hx : a.eval y = .pointer (some ⟨g, i, none⟩)) (hr : w.rangeAt g i L) (hl : L.length = 4) :
    (execOp a.eval o).run Tryd.prog w = .ok (.value (.agg L.toArray)) w := by
  have h := run_loadVar_mid (P := Tryd.prog) w g i 32 L _ hr Tryd.underlying32 rfl (by rw [hl]; kernel_rfl)
  unfold execOp
  simp only [ho, hx, Instr.loadAt, Instr.sureAddr, Sem.run_bind, Sem.run_pure, Result.andThen_ok, h]
set_option maxRecDepth 100000 in
theorem ld_outR {o : Oper} {a : Act} {w : World} {y : Operand} {g i : Nat} {L : List Value} (ho : o.op = .load 34 y) (hx : a.eval y = .pointer (some ⟨g, i, none⟩)) (hr : w.rangeAt g i L) (hl : L.length = 3) :
    (execOp a.eval o).run Tryd.prog w = .ok (.value (.agg L.toArray)) w := by
  have h := run_loadVar_mid (P := Tryd.prog) w g i 34 L _ hr Tryd.underlying34 rfl (by rw [hl]; kernel_rfl)
  unfold execOp
  simp only [ho, hx, Instr.loadAt, Instr.sureAddr, Sem.run_bind, Sem.run_pure, Result.andThen_ok, h]
theorem eqR_inn (x y : Bd) (w : World) : (Op.equalIn 10000 32 (inV x) (inV y)).run Tryd.prog w = .ok (decide (x.inn = y.inn)) w := by
  unfold inV
  by_cases h0 : x.s = y.s
  rotate_left
  · rw [show decide (x.inn = y.inn) = false from decide_eq_false (by simp [Bd.inn, h0])]
    go_simp
  by_cases h1 : x.p = y.p
  rotate_left
  · rw [show decide (x.inn = y.inn) = false from decide_eq_false (by simp [Bd.inn, h1])]
    go_simp
  by_cases h2 : x.a = y.a
  rotate_left
  · rw [show decide (x.inn = y.inn) = false from decide_eq_false (by simp [Bd.inn, h2])]
    go_simp
  by_cases h3 : x.o = y.o
  rotate_left
  · rw [show decide (x.inn = y.inn) = false from decide_eq_false (by simp [Bd.inn, h3])]
    go_simp
  rw [show decide (x.inn = y.inn) = true from decide_eq_true (by simp [Bd.inn, h0, h1, h2, h3])]
  go_simp
theorem eqR_out (x y : Bd) (w : World) : (Op.equalIn 10000 34 (ouV x) (ouV y)).run Tryd.prog w = .ok (decide (x.out = y.out)) w := by
  unfold ouV
  by_cases h0 : x.q = y.q
  rotate_left
  · rw [show decide (x.out = y.out) = false from decide_eq_false (by simp [Bd.out, h0])]
    go_simp
  by_cases h1 : x.b = y.b
  rotate_left
  · rw [show decide (x.out = y.out) = false from decide_eq_false (by simp [Bd.out, h1])]
    go_simp
  by_cases h2 : x.r = y.r
  rotate_left
  · rw [show decide (x.out = y.out) = false from decide_eq_false (by simp [Bd.out, h2])]
    go_simp
  rw [show decide (x.out = y.out) = true from decide_eq_true (by simp [Bd.out, h0, h1, h2])]
  go_simp
theorem run_load_rsl {o : Oper} {a : Act} {w : World} {x : Operand} {p : Addr} {A : Option Addr} {n c : Nat} (ho : o.op = .load 63 x) (hx : a.eval x = .pointer (some p)) (hc : w.cell? p = some (.slice A n c)) :
    (execOp a.eval o).run Tryd.prog w = .ok (.value (.slice A n c)) w := by
  unfold execOp
  simp only [ho, hx, Instr.loadAt, Instr.sureAddr, Sem.run_bind, Sem.run_pure, Result.andThen_ok]
  go_simp
theorem r22new_ok (most : Int) (w : World) (h0 : 0 ≤ most) (h1 : most ≤ 4096) : Calls Tryd.prog 8 #[.int .i64 most] w fun e w' => e = .returned (.tuple #[.pointer (some ⟨w.heap.size, 0, none⟩), .int .i64 0]) ∧ Rb w' w.heap.size (.slice none 0 0) most [] ∧ Below w.heap.size w w' := by
  have d1 : decide (most < 0) = false := decide_eq_false (by omega)
  have d2 : decide (4096 < most) = false := decide_eq_false (by omega)
  have hN := Lib.hid (Rb.new w most)
  have hB := (Below.refl w.heap.size w).alloc (Nat.le_refl _) (.cells #[.slice none 0 0, .int .i64 most] 65)
  clear h0 h1
  go_enter Tryd.func8, Tryd.ntmps8
  go_wp2
  refine bodyPost_ret (results_tmp2 rfl _ _ _) rfl ⟨rfl, hN.out, hB⟩
theorem r22new_bad (most : Int) (w : World) (h0 : ¬ (0 ≤ most ∧ most ≤ 4096)) : Calls Tryd.prog 8 #[.int .i64 most] w fun e w' => e = .returned (.tuple #[.pointer none, .int .i64 1]) ∧ w = w' := by
  by_cases h1 : most < 0
  · have d1 : decide (most < 0) = true := decide_eq_true (by omega)
    clear h0 h1
    go_enter Tryd.func8, Tryd.ntmps8
    go_wp2
    refine bodyPost_ret (results_tmp2 rfl _ _ _) rfl ⟨rfl, rfl⟩
  · have d1 : decide (most < 0) = false := decide_eq_false (by omega)
    have d2 : decide (4096 < most) = true := decide_eq_true (by omega)
    clear h0 h1
    go_enter Tryd.func8, Tryd.ntmps8
    go_wp2
    refine bodyPost_ret (results_tmp2 rfl _ _ _) rfl ⟨rfl, rfl⟩
theorem find_no {p : Nat × Bd → Bool} {k : Nat} {y : Nat × Bd} (hy : D[k]? = some y) (hp : p y = false) (he : D.find? p = (D.drop k).find? p) : D.find? p = (D.drop (k + 1)).find? p := by
  have hk := (List.getElem?_eq_some_iff.1 hy).1
  rw [he, List.drop_eq_getElem_cons hk]
  have e : D[k] = y := by rw [List.getElem?_eq_getElem hk] at hy; exact Option.some.inj hy
  rw [e, List.find?_cons_of_neg (by rw [hp]; decide)]
theorem find_yes {p : Nat × Bd → Bool} {k : Nat} {y : Nat × Bd} (hy : D[k]? = some y) (hp : p y = true) (he : D.find? p = (D.drop k).find? p) : D.find? p = some y := by
  have hk := (List.getElem?_eq_some_iff.1 hy).1
  rw [he, List.drop_eq_getElem_cons hk]
  have e : D[k] = y := by rw [List.getElem?_eq_getElem hk] at hy; exact Option.some.inj hy
  rw [e, List.find?_cons_of_pos hp]
theorem find_end {p : Nat × Bd → Bool} {k : Nat} (hk : D.length ≤ k) (he : D.find? p = (D.drop k).find? p) : D.find? p = none := by
  rw [he, List.drop_eq_nil_of_le hk]; rfl
set_option maxRecDepth 100000 in
set_option maxHeartbeats 1000000 in
theorem r22find (h : Rb w g v most D) (hD : D.length ≤ 1000) (x : Bd) : Calls Tryd.prog 16 #[.pointer (some ⟨g, 0, none⟩), inV x] w fun e w' =>
    e = .returned (.tuple #[.int .i64 (numE (fndI D x)), .bool (fndI D x).isSome]) ∧ Below w.heap.size w w' := by
  obtain ⟨V, hV⟩ : ∃ V, V = w.alloc (.cells (clI x.inn).toArray 32) := ⟨_, rfl⟩
  have bV : Below w.heap.size w V := by rw [hV]; exact (Below.refl _ w).alloc (Nat.le_refl _) _
  have hbV : V.heap[w.heap.size]? = some (.cells (clI x.inn).toArray 32 (0, 0)) := by rw [hV]; exact World.alloc_heap_new w _
  have HR : Hid (∀ U, Below V.heap.size V U → U.rangeAt w.heap.size 0 (clI x.inn)) := Lib.hid (fun U hU => range_belowR (range_heap hbV) (heap_lt hbV) hU)
  have HV := Lib.hid (show w.alloc (.cells #[.int .i64 x.s, .int .i64 x.p, .int .i64 x.a, .int .i64 x.o] 32) = V from hV.symm)
  have h := h.below bV
  have HBV := Lib.hid bV
  obtain ⟨A, c, rfl, hrd, hcap, _⟩ := h.sh
  obtain ⟨n, hne⟩ : ∃ n, n = D.length := ⟨_, rfl⟩
  have HSL := Lib.hid hne
  rw [← hne] at h hD hcap
  have H := Lib.hid h
  clear h hne hrd hV bV hbV
  obtain ⟨fp, hfp⟩ : ∃ fp : Nat × Bd → Bool, fp = fun e => decide (e.2.inn = x.inn) := ⟨_, rfl⟩
  have HFE : Hid (∀ o, D.find? fp = o → (.int .i64 (numE o) : Value) = .int .i64 (numE (fndI D x)) ∧ (.bool o.isSome : Value) = .bool (fndI D x).isSome) := Lib.hid (by rintro _ rfl; rw [hfp]; exact ⟨rfl, rfl⟩)
  generalize (.int .i64 (numE (fndI D x)) : Value) = r1 at *
  generalize (.bool (fndI D x).isSome : Value) = r2 at *
  have HFP : Hid (∀ y : Nat × Bd, fp y = decide (y.2.inn = x.inn)) := Lib.hid (fun y => by rw [hfp])
  clear hfp
  unfold inV
  go_enter Tryd.func16, Tryd.ntmps16
  go_upto_region 1 with fail
  rw [HV.out]
  go_wp2
  go_loopw [6] (fun z wr => ∃ k : Nat, k ≤ n ∧ z = .int .i64 (k : Int) ∧ Hid (D.find? fp = (D.drop k).find? fp) ∧ Below V.heap.size V wr) (fun z _ => n - (intOf z).toNat)
  case atStart => exact ⟨0, Nat.zero_le _, rfl, Lib.hid rfl, Below.refl _ _⟩
  case round =>
    obtain ⟨k, hk, rfl, HE, hbel⟩ := hrel
    have hw := H.out.below hbel
    have kt : wr.cell? ⟨g, 0, none⟩ = some (.slice A n c) := cells_at (i := 0) hw.tab rfl
    by_cases hkn : k < n
    · obtain ⟨y, hy⟩ : ∃ y, D[k]? = some y := ⟨_, List.getElem?_eq_getElem (by rw [← HSL.out]; exact hkn)⟩
      obtain ⟨b, hA, hb, hr⟩ := hw.at_ hy
      have kx0 : wr.cell? ⟨b, k * 9, none⟩ = some (.int .i64 (y.1 : Int)) := by simpa using hr 0 _ rfl
      have HY := Lib.hid hy
      have KT : Hid (∀ U, Below wr.heap.size wr U → U.cell? ⟨g, 0, none⟩ = some (.slice A n c)) := Lib.hid (fun U hU => cells_at (i := 0) (hw.below hU).tab rfl)
      have KY : Hid (∀ U, Below wr.heap.size wr U → U.rangeAt b (k * 9 + 1) (clI y.2.inn)) := Lib.hid (fun U hU => clSr_inn (range_belowR hr hb hU))
      have KX : Hid (∀ U, Below wr.heap.size wr U → U.rangeAt w.heap.size 0 (clI x.inn)) := Lib.hid (fun U hU => HR.out U (hbel.trans (hU.mono hbel.size)))
      obtain ⟨E, hE⟩ : ∃ E, E = decide (y.2.inn = x.inn) := ⟨_, rfl⟩
      have eS : ∀ w, (Op.equalIn 10000 32 (.agg (clI y.2.inn).toArray) (.agg (clI x.inn).toArray)).run Tryd.prog w = .ok E w := fun w => by rw [hE]; exact eqR_inn y.2 x w
      have HLY := Lib.hid (show (clI y.2.inn).length = 4 from rfl)
      have HLX := Lib.hid (show (clI x.inn).length = 4 from rfl)
      have HP : Hid (fp y = E) := Lib.hid (by rw [HFP.out, hE])
      subst hA
      clear hE hy hw hr
      generalize clI y.2.inn = Yi at *
      generalize clI x.inn = Xi at *
      go_upto_region 4 with fail
      refine wp_region_held_drew (S := fun w' => Below wr.heap.size wr w') (by kernel_rfl) (Below.refl _ wr).drew (fun hS => ?_)
      refine held_pure (i := 0) (oi := ⟨some 16, _, _, _, _, _⟩) rfl (by kernel_rfl) (by kernel_rfl) (by kernel_rfl) (fun _ _ _ h => h) (by rfl) (v := ?_) (fun w hSw => ?_) hS (fun hS => ?_)
      rotate_left
      · go_simp; try with_reducible rfl
      try go_frame
      refine held_pure (i := 1) (oi := ⟨some 17, _, _, _, _, _⟩) rfl (by kernel_rfl) (by kernel_rfl) (by kernel_rfl) (fun _ _ _ h => h) (by rfl) (v := ?_) (fun w hSw => ?_) hS (fun hS => ?_)
      rotate_left
      · go_simp; try with_reducible rfl
      try go_frame
      refine held_pure (i := 2) (oi := ⟨some 18, _, _, _, _, _⟩) rfl (by kernel_rfl) (by kernel_rfl) (by kernel_rfl) (fun _ _ _ h => h) (by rfl) (v := ?_) (fun w hSw => ?_) hS (fun hS => ?_)
      rotate_left
      · go_simp; try with_reducible rfl
      try go_frame
      refine held_pure (i := 3) (oi := ⟨some 19, _, _, _, _, _⟩) rfl (by kernel_rfl) (by kernel_rfl) (by kernel_rfl) (fun _ _ _ h => h) (by rfl) (fun w hSw => run_load_rsl rfl rfl (KT.out _ hSw)) hS (fun hS => ?_)
      try go_frame
      refine held_pure (i := 4) (oi := ⟨some 20, _, _, _, _, _⟩) rfl (by kernel_rfl) (by kernel_rfl) (by kernel_rfl) (fun _ _ _ h => h) (by rfl) (v := ?_) (fun w hSw => ?_) hS (fun hS => ?_)
      rotate_left
      · go_simp; try with_reducible rfl
      try go_frame
      refine held_pure (i := 5) (oi := ⟨some 21, _, _, _, _, _⟩) rfl (by kernel_rfl) (by kernel_rfl) (by kernel_rfl) (fun _ _ _ h => h) (by rfl) (v := ?_) (fun w hSw => ?_) hS (fun hS => ?_)
      rotate_left
      · go_simp; try with_reducible rfl
      try go_frame
      refine held_pure (i := 6) (oi := ⟨some 22, _, _, _, _, _⟩) rfl (by kernel_rfl) (by kernel_rfl) (by kernel_rfl) (fun _ _ _ h => h) (by rfl) (v := ?_) (fun w hSw => ?_) hS (fun hS => ?_)
      rotate_left
      · go_simp; try with_reducible rfl
      try go_frame
      refine held_pure (i := 7) (oi := ⟨some 23, _, _, _, _, _⟩) rfl (by kernel_rfl) (by kernel_rfl) (by kernel_rfl) (fun _ _ _ h => h) (by rfl) (v := ?_) (fun w hSw => ?_) hS (fun hS => ?_)
      rotate_left
      · go_simp; try with_reducible rfl
      try go_frame
      refine held_pure (i := 8) (oi := ⟨some 24, _, _, _, _, _⟩) rfl (by kernel_rfl) (by kernel_rfl) (by kernel_rfl) (fun _ _ _ h => h) (by rfl) (fun w hSw => ld_innR rfl rfl (KY.out _ hSw) HLY.out) hS (fun hS => ?_)
      try go_frame
      refine held_pure (i := 9) (oi := ⟨some 25, _, _, _, _, _⟩) rfl (by kernel_rfl) (by kernel_rfl) (by kernel_rfl) (fun _ _ _ h => h) (by rfl) (fun w hSw => ld_innR rfl rfl (KX.out _ hSw) HLX.out) hS (fun hS => ?_)
      try go_frame
      refine held_pure (i := 10) (oi := ⟨some 26, _, _, _, _, _⟩) rfl (by kernel_rfl) (by kernel_rfl) (by kernel_rfl) (fun _ _ _ h => h) (by rfl) (v := .bool E) (fun w hSw => by go_simp) hS (fun hS => ?_)
      try go_frame
      refine wpAnyH_done (by kernel_rfl) ?_ _
      cases E with
      | true =>
        have hres := HFE.out _ (find_yes HY.out HP.out HE.out)
        clear eS
        go_wp2
        refine bodyPost_ret (results_tmp2 rfl _ _ _) rfl ⟨?_, HBV.out.trans ((hbel.drew).mono HBV.out.size)⟩
        rw [← hres.1, ← hres.2]; rfl
      | false =>
        clear eS
        go_wp2
        go_roundw
        case rel => exact ⟨k + 1, by omega, by simp, Lib.hid (find_no HY.out HP.out HE.out), hbel.drew⟩
        case measure => simp [intOf]; omega
    · obtain rfl : n = k := by omega
      have hres := HFE.out _ (find_end (by rw [← HSL.out]; exact Nat.le_refl _) HE.out)
      clear hw
      go_wp2
      refine bodyPost_ret (results_tmp2 rfl _ _ _) rfl ⟨?_, HBV.out.trans (hbel.mono HBV.out.size)⟩
      rw [← hres.1, ← hres.2]; rfl
set_option maxRecDepth 100000 in
set_option maxHeartbeats 1000000 in
theorem r22back (h : Rb w g v most D) (hD : D.length ≤ 1000) (x : Bd) : Calls Tryd.prog 18 #[.pointer (some ⟨g, 0, none⟩), ouV x] w fun e w' =>
    e = .returned (.tuple #[.int .i64 (numE (fndO D x)), .bool (fndO D x).isSome]) ∧ Below w.heap.size w w' := by
  obtain ⟨V, hV⟩ : ∃ V, V = w.alloc (.cells (clI x.out).toArray 34) := ⟨_, rfl⟩
  have bV : Below w.heap.size w V := by rw [hV]; exact (Below.refl _ w).alloc (Nat.le_refl _) _
  have hbV : V.heap[w.heap.size]? = some (.cells (clI x.out).toArray 34 (0, 0)) := by rw [hV]; exact World.alloc_heap_new w _
  have HR : Hid (∀ U, Below V.heap.size V U → U.rangeAt w.heap.size 0 (clI x.out)) := Lib.hid (fun U hU => range_belowR (range_heap hbV) (heap_lt hbV) hU)
  have HV := Lib.hid (show w.alloc (.cells #[.int .i64 x.q, .int .i64 x.b, .int .i64 x.r] 34) = V from hV.symm)
  have h := h.below bV
  have HBV := Lib.hid bV
  obtain ⟨A, c, rfl, hrd, hcap, _⟩ := h.sh
  obtain ⟨n, hne⟩ : ∃ n, n = D.length := ⟨_, rfl⟩
  have HSL := Lib.hid hne
  rw [← hne] at h hD hcap
  have H := Lib.hid h
  clear h hne hrd hV bV hbV
  obtain ⟨fp, hfp⟩ : ∃ fp : Nat × Bd → Bool, fp = fun e => decide (e.2.out = x.out) := ⟨_, rfl⟩
  have HFE : Hid (∀ o, D.find? fp = o → (.int .i64 (numE o) : Value) = .int .i64 (numE (fndO D x)) ∧ (.bool o.isSome : Value) = .bool (fndO D x).isSome) := Lib.hid (by rintro _ rfl; rw [hfp]; exact ⟨rfl, rfl⟩)
  generalize (.int .i64 (numE (fndO D x)) : Value) = r1 at *
  generalize (.bool (fndO D x).isSome : Value) = r2 at *
  have HFP : Hid (∀ y : Nat × Bd, fp y = decide (y.2.out = x.out)) := Lib.hid (fun y => by rw [hfp])
  clear hfp
  unfold ouV
  go_enter Tryd.func18, Tryd.ntmps18
  go_upto_region 1 with fail
  rw [HV.out]
  go_wp2
  go_loopw [6] (fun z wr => ∃ k : Nat, k ≤ n ∧ z = .int .i64 (k : Int) ∧ Hid (D.find? fp = (D.drop k).find? fp) ∧ Below V.heap.size V wr) (fun z _ => n - (intOf z).toNat)
  case atStart => exact ⟨0, Nat.zero_le _, rfl, Lib.hid rfl, Below.refl _ _⟩
  case round =>
    obtain ⟨k, hk, rfl, HE, hbel⟩ := hrel
    have hw := H.out.below hbel
    have kt : wr.cell? ⟨g, 0, none⟩ = some (.slice A n c) := cells_at (i := 0) hw.tab rfl
    by_cases hkn : k < n
    · obtain ⟨y, hy⟩ : ∃ y, D[k]? = some y := ⟨_, List.getElem?_eq_getElem (by rw [← HSL.out]; exact hkn)⟩
      obtain ⟨b, hA, hb, hr⟩ := hw.at_ hy
      have kx0 : wr.cell? ⟨b, k * 9, none⟩ = some (.int .i64 (y.1 : Int)) := by simpa using hr 0 _ rfl
      have HY := Lib.hid hy
      have KT : Hid (∀ U, Below wr.heap.size wr U → U.cell? ⟨g, 0, none⟩ = some (.slice A n c)) := Lib.hid (fun U hU => cells_at (i := 0) (hw.below hU).tab rfl)
      have KY : Hid (∀ U, Below wr.heap.size wr U → U.rangeAt b (k * 9 + 5) (clI y.2.out)) := Lib.hid (fun U hU => clSr_out (range_belowR hr hb hU))
      have KX : Hid (∀ U, Below wr.heap.size wr U → U.rangeAt w.heap.size 0 (clI x.out)) := Lib.hid (fun U hU => HR.out U (hbel.trans (hU.mono hbel.size)))
      obtain ⟨E, hE⟩ : ∃ E, E = decide (y.2.out = x.out) := ⟨_, rfl⟩
      have eS : ∀ w, (Op.equalIn 10000 34 (.agg (clI y.2.out).toArray) (.agg (clI x.out).toArray)).run Tryd.prog w = .ok E w := fun w => by rw [hE]; exact eqR_out y.2 x w
      have HLY := Lib.hid (show (clI y.2.out).length = 3 from rfl)
      have HLX := Lib.hid (show (clI x.out).length = 3 from rfl)
      have HP : Hid (fp y = E) := Lib.hid (by rw [HFP.out, hE])
      subst hA
      clear hE hy hw hr
      generalize clI y.2.out = Yi at *
      generalize clI x.out = Xi at *
      go_upto_region 4 with fail
      refine wp_region_held_drew (S := fun w' => Below wr.heap.size wr w') (by kernel_rfl) (Below.refl _ wr).drew (fun hS => ?_)
      refine held_pure (i := 0) (oi := ⟨some 16, _, _, _, _, _⟩) rfl (by kernel_rfl) (by kernel_rfl) (by kernel_rfl) (fun _ _ _ h => h) (by rfl) (v := ?_) (fun w hSw => ?_) hS (fun hS => ?_)
      rotate_left
      · go_simp; try with_reducible rfl
      try go_frame
      refine held_pure (i := 1) (oi := ⟨some 17, _, _, _, _, _⟩) rfl (by kernel_rfl) (by kernel_rfl) (by kernel_rfl) (fun _ _ _ h => h) (by rfl) (v := ?_) (fun w hSw => ?_) hS (fun hS => ?_)
      rotate_left
      · go_simp; try with_reducible rfl
      try go_frame
      refine held_pure (i := 2) (oi := ⟨some 18, _, _, _, _, _⟩) rfl (by kernel_rfl) (by kernel_rfl) (by kernel_rfl) (fun _ _ _ h => h) (by rfl) (v := ?_) (fun w hSw => ?_) hS (fun hS => ?_)
      rotate_left
      · go_simp; try with_reducible rfl
      try go_frame
      refine held_pure (i := 3) (oi := ⟨some 19, _, _, _, _, _⟩) rfl (by kernel_rfl) (by kernel_rfl) (by kernel_rfl) (fun _ _ _ h => h) (by rfl) (fun w hSw => run_load_rsl rfl rfl (KT.out _ hSw)) hS (fun hS => ?_)
      try go_frame
      refine held_pure (i := 4) (oi := ⟨some 20, _, _, _, _, _⟩) rfl (by kernel_rfl) (by kernel_rfl) (by kernel_rfl) (fun _ _ _ h => h) (by rfl) (v := ?_) (fun w hSw => ?_) hS (fun hS => ?_)
      rotate_left
      · go_simp; try with_reducible rfl
      try go_frame
      refine held_pure (i := 5) (oi := ⟨some 21, _, _, _, _, _⟩) rfl (by kernel_rfl) (by kernel_rfl) (by kernel_rfl) (fun _ _ _ h => h) (by rfl) (v := ?_) (fun w hSw => ?_) hS (fun hS => ?_)
      rotate_left
      · go_simp; try with_reducible rfl
      try go_frame
      refine held_pure (i := 6) (oi := ⟨some 22, _, _, _, _, _⟩) rfl (by kernel_rfl) (by kernel_rfl) (by kernel_rfl) (fun _ _ _ h => h) (by rfl) (v := ?_) (fun w hSw => ?_) hS (fun hS => ?_)
      rotate_left
      · go_simp; try with_reducible rfl
      try go_frame
      refine held_pure (i := 7) (oi := ⟨some 23, _, _, _, _, _⟩) rfl (by kernel_rfl) (by kernel_rfl) (by kernel_rfl) (fun _ _ _ h => h) (by rfl) (v := ?_) (fun w hSw => ?_) hS (fun hS => ?_)
      rotate_left
      · go_simp; try with_reducible rfl
      try go_frame
      refine held_pure (i := 8) (oi := ⟨some 24, _, _, _, _, _⟩) rfl (by kernel_rfl) (by kernel_rfl) (by kernel_rfl) (fun _ _ _ h => h) (by rfl) (fun w hSw => ld_outR rfl rfl (KY.out _ hSw) HLY.out) hS (fun hS => ?_)
      try go_frame
      refine held_pure (i := 9) (oi := ⟨some 25, _, _, _, _, _⟩) rfl (by kernel_rfl) (by kernel_rfl) (by kernel_rfl) (fun _ _ _ h => h) (by rfl) (fun w hSw => ld_outR rfl rfl (KX.out _ hSw) HLX.out) hS (fun hS => ?_)
      try go_frame
      refine held_pure (i := 10) (oi := ⟨some 26, _, _, _, _, _⟩) rfl (by kernel_rfl) (by kernel_rfl) (by kernel_rfl) (fun _ _ _ h => h) (by rfl) (v := .bool E) (fun w hSw => by go_simp) hS (fun hS => ?_)
      try go_frame
      refine wpAnyH_done (by kernel_rfl) ?_ _
      cases E with
      | true =>
        have hres := HFE.out _ (find_yes HY.out HP.out HE.out)
        clear eS
        go_wp2
        refine bodyPost_ret (results_tmp2 rfl _ _ _) rfl ⟨?_, HBV.out.trans ((hbel.drew).mono HBV.out.size)⟩
        rw [← hres.1, ← hres.2]; rfl
      | false =>
        clear eS
        go_wp2
        go_roundw
        case rel => exact ⟨k + 1, by omega, by simp, Lib.hid (find_no HY.out HP.out HE.out), hbel.drew⟩
        case measure => simp [intOf]; omega
    · obtain rfl : n = k := by omega
      have hres := HFE.out _ (find_end (by rw [← HSL.out]; exact Nat.le_refl _) HE.out)
      clear hw
      go_wp2
      refine bodyPost_ret (results_tmp2 rfl _ _ _) rfl ⟨?_, HBV.out.trans (hbel.mono HBV.out.size)⟩
      rw [← hres.1, ← hres.2]; rfl
/-- Which binding has a number. -/
def fndN (D : List (Nat × Bd)) (i : Int) : Option (Nat × Bd) := D.find? (fun e => decide ((e.1 : Int) = i))
set_option maxRecDepth 100000 in
set_option maxHeartbeats 1000000 in
theorem r22get (h : Rb w g v most D) (hD : D.length ≤ 1000) (i : Int) : Calls Tryd.prog 14 #[.pointer (some ⟨g, 0, none⟩), .int .i64 i] w fun e w' =>
    e = .returned (.tuple #[bdV (((fndN D i).map (·.2)).getD bd0), .bool (fndN D i).isSome]) ∧ Below w.heap.size w w' := by
  obtain ⟨V, hV⟩ : ∃ V, V = w.alloc (.cells (clBd bd0).toArray 36) := ⟨_, rfl⟩
  have bV : Below w.heap.size w V := by rw [hV]; exact (Below.refl _ w).alloc (Nat.le_refl _) _
  have hbV : V.heap[w.heap.size]? = some (.cells (clBd bd0).toArray 36 (0, 0)) := by rw [hV]; exact World.alloc_heap_new w _
  have HV := Lib.hid (show w.alloc (.cells #[.int .i64 0, .int .i64 0, .int .i64 0, .int .i64 0, .int .i64 0, .int .i64 0, .int .i64 0, .bool false] 36) = V from hV.symm)
  have h := h.below bV
  have HBV := Lib.hid bV
  have HBX := Lib.hid hbV
  obtain ⟨A, c, rfl, hrd, hcap, _⟩ := h.sh
  obtain ⟨n, hne⟩ : ∃ n, n = D.length := ⟨_, rfl⟩
  have HSL := Lib.hid hne
  rw [← hne] at h hD hcap
  have H := Lib.hid h
  clear h hne hrd hV bV hbV
  obtain ⟨fp, hfp⟩ : ∃ fp : Nat × Bd → Bool, fp = fun e => decide ((e.1 : Int) = i) := ⟨_, rfl⟩
  have HFE : Hid (∀ o, D.find? fp = o → bdV ((o.map (·.2)).getD bd0) = bdV (((fndN D i).map (·.2)).getD bd0) ∧ (.bool o.isSome : Value) = .bool (fndN D i).isSome) := Lib.hid (by rintro _ rfl; rw [hfp]; exact ⟨rfl, rfl⟩)
  generalize bdV (((fndN D i).map (·.2)).getD bd0) = r1 at *
  generalize (.bool (fndN D i).isSome : Value) = r2 at *
  have HFP : Hid (∀ y : Nat × Bd, fp y = decide ((y.1 : Int) = i)) := Lib.hid (fun y => by rw [hfp])
  clear hfp
  go_enter Tryd.func14, Tryd.ntmps14
  go_upto_region 1 with fail
  rw [HV.out]
  go_wp2
  go_loopw [6] (fun z wr => ∃ k : Nat, k ≤ n ∧ z = .int .i64 (k : Int) ∧ Hid (D.find? fp = (D.drop k).find? fp) ∧ V = wr) (fun z _ => n - (intOf z).toNat)
  case atStart => exact ⟨0, Nat.zero_le _, rfl, Lib.hid rfl, rfl⟩
  case round =>
    obtain ⟨k, hk, rfl, HE, rfl⟩ := hrel
    have kt : V.cell? ⟨g, 0, none⟩ = some (.slice A n c) := cells_at (i := 0) H.out.tab rfl
    have hz : V = w.alloc (.cells (clBd bd0).toArray 36) := HV.out.symm
    by_cases hkn : k < n
    · obtain ⟨y, hy⟩ : ∃ y, D[k]? = some y := ⟨_, List.getElem?_eq_getElem (by rw [← HSL.out]; exact hkn)⟩
      obtain ⟨b, hA, hb, hr⟩ := H.out.at_ hy
      have kx0 : V.cell? ⟨b, k * 9, none⟩ = some (.int .i64 (y.1 : Int)) := by simpa using hr 0 _ rfl
      have HY := Lib.hid hy
      have hrb := clSr_bd hr
      subst hA
      clear hy hr
      by_cases he : (y.1 : Int) = i
      · have dk : ((y.1 : Int) == i) = true := by simp [he]
        have hres := HFE.out _ (find_yes HY.out (by rw [HFP.out]; exact decide_eq_true he) HE.out)
        have e1 : bdV y.2 = r1 := hres.1
        have e2 : (.bool true : Value) = r2 := hres.2
        subst e1; subst e2
        clear he hres
        subst hz
        go_wp2_with (first
          | ((with_reducible show wpList _ _ _ (Oper.mk _ (Op.load 36 _) _ _ _ _ :: _) _ _); refine wpList_val rfl (run_load_bd (x := y.2) rfl rfl hrb) ?_)
          | ((with_reducible show wpList _ _ _ (Oper.mk _ (Op.store 36 _ _) _ _ _ _ :: _) _ _); refine bd_store_new (cs := (clBd y.2).toArray) rfl rfl rfl rfl (clBd_one _) ?_))
        exact bodyPost_ret (bd_result2 rfl rfl (World.alloc_heap_new w _) rfl) rfl ⟨rfl, (Below.refl _ w).alloc (Nat.le_refl _) _⟩
      · have dk : ((y.1 : Int) == i) = false := by simp [he]
        have hno := find_no HY.out (by rw [HFP.out]; exact decide_eq_false he) HE.out
        have HNO := Lib.hid hno
        clear he hno hz hrb
        go_wp2
        go_roundw
        case rel => exact ⟨k + 1, by omega, by simp, Lib.hid HNO.out, by first | rfl | trivial⟩
        case measure => simp [intOf]; omega
    · obtain rfl : n = k := by omega
      have hres := HFE.out _ (find_end (by rw [← HSL.out]; exact Nat.le_refl _) HE.out)
      have e1 : bdV bd0 = r1 := hres.1
      have e2 : (.bool false : Value) = r2 := hres.2
      subst e1; subst e2
      clear hres
      subst hz
      go_wp2_with (first
        | ((with_reducible show wpList _ _ _ (Oper.mk _ (Op.store 36 _ _) _ _ _ _ :: _) _ _); refine bd_store_new (cs := (clBd bd0).toArray) rfl rfl rfl rfl (clBd_one _) ?_))
      exact bodyPost_ret (bd_result2 rfl rfl (World.alloc_heap_new w _) rfl) rfl ⟨rfl, (Below.refl _ w).alloc (Nat.le_refl _) _⟩
end
end Go.Proofs.YtafidbjaeopciaaDoor

/-
  The document's bindings of layer 22: rows that grow; Remove. Conditions are each theorem's own.
-/
namespace Go.Proofs.YtafidbjaeopciaaDoor
open Go.RowKit Go.Shelf
set_option maxRecDepth 100000 in
theorem run_load_slR {o : Oper} {a : Act} {w : World} {y : Operand} {g i : Nat} {L : List Value} (ho : o.op = .load 73 y) (hx : a.eval y = .pointer (some ⟨g, i, none⟩)) (hr : w.rangeAt g i L) (hl : L.length = 9) :
    (execOp a.eval o).run Tryd.prog w = .ok (.value (.agg L.toArray)) w := by
  have h := run_loadVar_mid (P := Tryd.prog) w g i 73 L _ hr Tryd.underlying73 rfl (by rw [hl]; kernel_rfl)
  unfold execOp
  simp only [ho, hx, Instr.loadAt, Instr.sureAddr, Sem.run_bind, Sem.run_pure, Result.andThen_ok, h]
set_option maxRecDepth 100000 in
theorem run_bsR {o : Oper} {a : Act} {w : World} {x : Operand} {cs : Array Value} (ho : o.op = .buildSlice 63 1 #[(0, x)]) (hx : a.eval x = .agg cs) (hl : cs.size = 9) :
    (execOp a.eval o).run Tryd.prog w = .ok (.value (.slice (some ⟨w.heap.size, 0, none⟩) 1 1)) (w.alloc (.cells cs 73)) := by
  obtain ⟨i0, hi, hz0, hz1, hz2⟩ := info_parts info_r
  have h := run_lit1 (P := Tryd.prog) w 63 73 i0 _ cs 9 Tryd.underlying63 hi hz0 hz1 hl (by decide) (by decide)
  unfold execOp
  simp only [ho, List.map_toArray, List.map_cons, List.map_nil, hx, Sem.run_bind, h, Result.andThen_ok]
  rfl
theorem clSr_flat (l : List (Nat × Bd)) : (l.flatMap clSr).length = l.length * 9 := flat_len l (fun x _ => clSr_len x)
theorem rds_srcR {w : World} {B : Nat} {ad : Addr} {l : List (Nat × Bd)} (hr : RdS clSr 9 w B (some ad) l) : ∀ j u, (l.flatMap clSr)[j]? = some u → w.cell? (ad.add j) = some u := fun j u hj => by
  have hj3 : j < l.length * 9 := by have := (List.getElem?_eq_some_iff.1 hj).1; rwa [clSr_flat] at this
  obtain ⟨b, off, e, _, hc⟩ := hr (by omega)
  injection e with e
  subst e
  obtain ⟨y, hy⟩ : ∃ y, l[j / 9]? = some y := ⟨_, List.getElem?_eq_getElem (by omega)⟩
  have h2 : j % 9 < (clSr y).length := by rw [clSr_len]; omega
  have hf := flat_at (cl := clSr) (sz := 9) l (fun x _ => clSr_len x) (j / 9) y hy (j % 9) _ (List.getElem?_eq_getElem h2)
  rw [show j / 9 * 9 + j % 9 = j from by omega, hj] at hf
  injection hf with hf
  have h8 := hc (j / 9) y hy (j % 9) _ (List.getElem?_eq_getElem h2)
  rw [← hf, show off + j / 9 * 9 + j % 9 = off + j from by omega] at h8
  rw [add_off]; exact h8
theorem ones_R (l : List (Nat × Bd)) : ∀ u ∈ l.flatMap clSr, u.oneCell' = true := fun u hu => by
  obtain ⟨y, _, h⟩ := List.mem_flatMap.1 hu
  exact clSr_one y u h
theorem append_rL {w : World} {ops : Array Oper} {rest : List Oper} {o : Oper} {a : Act} {Q : Exit → Act → World → Prop} (hgd : o.guard = none) (s x : Operand)
    (ho : o.op = .call { callee := .builtin .append, args := #[s, x], argTypes := #[63, 63] })
    (base : Nat) (v : Value) (S : List (Nat × Bd)) (hs : a.eval s = v) (hown : w.ownsRow base 73 9 v S.length (S.flatMap clSr))
    (g : Nat) (y : Nat × Bd) (hx : a.eval x = .slice (some ⟨g, 0, none⟩) 1 1) (hy : w.rangeAt g 0 (clSr y))
    (hlen : S.length ≤ 1000000) (hbase : base ≤ w.heap.size)
    (h : ∀ v' w', w'.ownsRow base 73 9 v' (S ++ [y]).length ((S ++ [y]).flatMap clSr) → w.grownBy w' v.ownBlock → wpList Tryd.prog ops Q rest (a.put o.dst v') w') : wpList Tryd.prog ops Q (o :: rest) a w := by
  obtain ⟨i0, hi, hz0, hz1, hz2⟩ := info_parts info_r
  refine wpList_append_own w hgd s x 63 ho base 73 i0 _ 9 72 Tryd.underlying63 hi hz0 hz1 hz2 rfl (by decide) v S.length (S.flatMap clSr) hs hown ⟨g, 0, none⟩ 1 1 (clSr y) hx
      (clSr_len y) (fun j u hu => ?_) (clSr_one y) (by unfold maxLen; omega) (by omega) hbase (fun v' w' h1 h2 _ => h v' w' ?_ h2)
  · rw [add_off, Nat.zero_add]; have := hy j u hu; rwa [Nat.zero_add] at this
  · rw [List.length_append, List.flatMap_append]
    simpa using h1
/-- The bindings without a number. -/
def outR (i : Int) (D : List (Nat × Bd)) : List (Nat × Bd) := D.filter fun e => decide ((e.1 : Int) ≠ i)
section
variable {w w' : World} {g : Nat} {v : Value} {most : Int} {D : List (Nat × Bd)} {i : Int}
theorem outR_step {k : Nat} {x : Nat × Bd} (hx : D[k]? = some x) : outR i (D.take (k + 1)) = outR i (D.take k) ++ if (x.1 : Int) ≠ i then [x] else [] := by
  unfold outR
  rw [List.take_add_one, hx, List.filter_append]
  congr 1
  by_cases h : (x.1 : Int) = i <;> simp [h]
theorem outR_len : (outR i D).length ≤ D.length := List.length_filter_le _ _
set_option maxRecDepth 100000 in
set_option maxHeartbeats 1000000 in
theorem r22del (h : Rb w g v most D) (hD : D.length ≤ 1000) (i : Int) : Calls Tryd.prog 12 #[.pointer (some ⟨g, 0, none⟩), .int .i64 i] w fun e w' =>
    e = .returned (.bool (decide ((outR i D).length < D.length))) ∧ ∃ v', Rb w' g v' most (outR i D) ∧ Kept (fun k => k = g) w w' := by
  obtain ⟨A, c, rfl, hrd, hcap, _⟩ := h.sh
  obtain ⟨n, hne⟩ : ∃ n, n = D.length := ⟨_, rfl⟩
  have HSL := Lib.hid hne
  rw [← hne] at h hD hcap
  have H := Lib.hid h
  have h0 := World.ownsRow_nil w w.heap.size 73 9
  clear h hne hrd
  go_enter Tryd.func12, Tryd.ntmps12
  go_wp2
  go_loopw [5, 6] (fun u z wr => ∃ (k : Nat) (v : Value), k ≤ n ∧ z = .int .i64 (k : Int) ∧ v = u ∧ Hid (wr.ownsRow w.heap.size 73 9 v (outR i (D.take k)).length ((outR i (D.take k)).flatMap clSr)) ∧ Below w.heap.size w wr) (fun _ z _ => n - (intOf z).toNat)
  case atStart => exact ⟨0, _, Nat.zero_le _, rfl, rfl, Lib.hid h0, Below.refl _ _⟩
  case round =>
    obtain ⟨k, v, hk, rfl, rfl, HO, hbel⟩ := hrel
    clear h0
    have hw := H.out.below hbel
    have kt : wr.cell? ⟨g, 0, none⟩ = some (.slice A n c) := cells_at (i := 0) hw.tab rfl
    have kf := heap_frozen hw.tab 0
    have hz := hbel.size
    by_cases hkn : k < n
    · obtain ⟨y, hy⟩ : ∃ y, D[k]? = some y := ⟨_, List.getElem?_eq_getElem (by rw [← HSL.out]; exact hkn)⟩
      obtain ⟨b, rfl, hb, hr⟩ := hw.at_ hy
      have kx0 : wr.cell? ⟨b, k * 9, none⟩ = some (.int .i64 (y.1 : Int)) := by simpa using hr 0 _ rfl
      have HST := Lib.hid (outR_step (i := i) hy)
      have hle : (outR i (D.take k)).length ≤ 1000000 := by
        have h1 := outR_len (i := i) (D := D.take k)
        rw [List.length_take] at h1
        omega
      clear hw hy
      by_cases he : (y.1 : Int) = i
      · have dk : ((y.1 : Int) == i) = true := by simp [he]
        have HE : Hid (outR i (D.take (k + 1)) = outR i (D.take k)) := Lib.hid (by rw [HST.out, if_neg (by simpa using he), List.append_nil])
        clear he hr
        go_wp2
        go_roundw
        case rel => exact ⟨k + 1, _, by omega, by simp, rfl, Lib.hid (by rw [HE.out]; exact HO.out), hbel⟩
        case measure => simp [intOf]; omega
      · have dk : ((y.1 : Int) == i) = false := by simp [he]
        have HE : Hid (outR i (D.take (k + 1)) = outR i (D.take k) ++ [y]) := Lib.hid (by rw [HST.out, if_pos (by simpa using he)])
        obtain ⟨V2, hV2⟩ : ∃ V2, V2 = wr.alloc (.cells (clSr y).toArray 73) := ⟨_, rfl⟩
        have HV2 := Lib.hid hV2
        have hrV2 : V2.rangeAt wr.heap.size 0 (clSr y) := by rw [hV2]; exact range_heap (World.alloc_heap_new wr _)
        have hOV2 : V2.ownsRow w.heap.size 73 9 v (outR i (D.take k)).length ((outR i (D.take k)).flatMap clSr) := by rw [hV2]; exact HO.out.alloc _
        have hbV2 : Below w.heap.size w V2 := by rw [hV2]; exact hbel.alloc hz _
        have hzV := hbV2.size
        clear he hV2
        go_wp2_with (first
          | ((with_reducible show wpList _ _ _ (Oper.mk _ (Op.load 73 _) _ _ _ _ :: _) _ _); refine wpList_val rfl (run_load_slR (L := clSr y) rfl rfl hr rfl) ?_)
          | ((with_reducible show wpList _ _ _ (Oper.mk _ (Op.buildSlice _ _ _) _ _ _ _ :: _) _ _); refine list_growB rfl (run_bsR (cs := (clSr y).toArray) rfl rfl rfl) ?_; rw [← HV2.out])
          | (at_builtin; refine append_rL rfl _ _ rfl w.heap.size _ (outR i (D.take k)) rfl hOV2 wr.heap.size y rfl hrV2 hle hzV ?_; intro v' w3 hown' hgrow; have Q3 := Lib.hid hown'; have q5 := hbV2.grown hgrow hzV (fun k hk => own_block_ge hOV2 k hk); clear hown' hgrow))
        go_roundw
        case rel => exact ⟨k + 1, _, by omega, by simp, rfl, Lib.hid (by rw [HE.out]; exact Q3.out), q5⟩
        case measure => simp [intOf]; omega
    · obtain rfl : n = k := by omega
      have hLk : outR i (D.take n) = outR i D := by rw [List.take_of_length_le (by rw [← HSL.out]; exact Nat.le_refl _)]
      rw [hLk] at HO
      obtain ⟨A', c', e5, _, _⟩ := own_rds HO.out rfl rfl (fun x _ => clSr_len x)
      obtain ⟨m, hm⟩ : ∃ m, m = (outR i D).length := ⟨_, rfl⟩
      rw [← hm] at e5
      subst e5
      have HM := Lib.hid hm
      have HT := Lib.hid hw.tab
      have HD : Hid (decide (m < n) = decide ((outR i D).length < D.length)) := Lib.hid (by rw [hm, HSL.out])
      clear hLk hm hw
      go_wp2
      have hq := Rb.put (X := wr.setCell ⟨g, 0, none⟩ (.slice A' m c')) HT.out HO.out rfl
      refine bodyPost_ret (results_tmp rfl _ _ _) rfl ⟨by rw [← HD.out]; first | rfl | simp, .slice A' m c', hq, (Kept.of_below hbel).trans (Kept.setCell wr g 0 _) (fun _ _ e => e)⟩
end
end Go.Proofs.YtafidbjaeopciaaDoor
