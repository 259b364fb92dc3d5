/-
  Contracts and lemmas on which the proofs of this seat stand (several texts in one). Conditions are each theorem's own.
-/
import Derived.Test.YtjgcpaepaocigaaWb4
import Derived.Test.YtjgcpaepaocigaaWb1
import Derived.Test.YtjgcpaepaocigaaWb3

/-
  Rows of pointers to timers in memory, and what moves their parts: swapRange, rotate. Conditions are each theorem's own.
-/
namespace Go.Proofs.Ytjgcpaepaocigaa
open Go.RowKit
/-- A row of pointers: cells of block g from off on. -/
structure PRow (w : World) (g off : Nat) (L : List Nat) : Prop where
  ob : ∃ (cs : Array Value) (t : TypeId), w.heap[g]? = some (.cells cs t (0, 0)) ∧ ∀ i b, L[i]? = some b → cs[off + i]? = some (.pointer (some ⟨b, 0, none⟩))
section
variable {w w' : World} {g off : Nat} {L : List Nat}
theorem PRow.cell (h : PRow w g off L) {i b : Nat} (hi : L[i]? = some b) : w.cell? ⟨g, off + i, none⟩ = some (.pointer (some ⟨b, 0, none⟩)) := by
  obtain ⟨cs, t, h1, h2⟩ := h.ob
  exact cells_at h1 (h2 i b hi)
theorem PRow.fr (h : PRow w g off L) (i : Nat) : w.frozen? ⟨g, i, none⟩ = false := by
  obtain ⟨cs, t, h1, _⟩ := h.ob
  exact heap_frozen h1 i
theorem PRow.lt (h : PRow w g off L) : g < w.heap.size := by
  obtain ⟨cs, t, h1, _⟩ := h.ob
  exact heap_lt h1
theorem PRow.of_block (h : PRow w g off L) (e : w'.heap[g]? = w.heap[g]?) : PRow w' g off L := by
  obtain ⟨cs, t, h1, h2⟩ := h.ob
  exact ⟨cs, t, e.trans h1, h2⟩
theorem PRow.drew (h : PRow w g off L) : PRow w.drew g off L := ⟨h.ob⟩
theorem PRow.put (h : PRow w g off L) {i : Nat} (hi : i < L.length) (b : Nat) : PRow (w.setCell ⟨g, off + i, none⟩ (.pointer (some ⟨b, 0, none⟩))) g off (L.set i b) := by
  obtain ⟨cs, t, h1, h2⟩ := h.ob
  have hlt : off + i < cs.size := by
    have := h2 i L[i] (List.getElem?_eq_getElem hi)
    exact (Array.getElem?_eq_some_iff.1 this).1
  refine ⟨_, t, heap_setCell_same w g (off + i) cs t _ h1, fun j c hj => ?_⟩
  rw [List.getElem?_set] at hj
  split at hj
  · rename_i e
    subst e
    injection hj with hj
    subst hj
    rw [Array.getElem?_setIfInBounds_self_of_lt hlt]
  · rw [Array.getElem?_setIfInBounds_ne (by omega)]
    exact h2 j c hj
end
section
variable {o : Oper} {a : Act} {w : World} {x y : Operand} {p : Addr} {A : Option Addr} {g off n c i m k : Nat}
theorem load_ptW_wp {K : Act → World → Prop} {Q : Exit → Act → World → Prop} (ho : o.op = .load 57 x) (hx : a.eval x = .pointer (some p)) (hc : w.cell? p = some (.pointer A)) (h : K (a.put o.dst (.pointer A)) w) : o.wp Try.prog a w K Q := by
  have hr := run_load_ptW (o := o) (a := a) (w := w) (x := x) (p := p) (A := A) ho hx hc
  unfold Oper.wp
  rw [hr]
  exact h
theorem run_idx_pt (ho : o.op = .indexAddr 71 x y) (hx : a.eval x = .slice (some ⟨g, off, none⟩) n c) (hy : a.eval y = .int .i64 ((i : Nat) : Int)) (hi : i < n) : (execOp a.eval o).run Try.prog w = .ok (.value (.pointer (some ⟨g, off + i, none⟩))) w := by
  unfold execOp
  simp only [ho, hx, hy]
  go_simp <;> rw [if_pos ⟨by omega, by omega⟩]
theorem run_add_nat (ho : o.op = .binOp .add 3 x y 3) (hx : a.eval x = .int .i64 ((m : Nat) : Int)) (hy : a.eval y = .int .i64 ((n : Nat) : Int)) (hk : k = m + n) (hb : k ≤ 4000000000) : (execOp a.eval o).run Try.prog w = .ok (.value (.int .i64 ((k : Nat) : Int))) w := by
  have hw : IntKind.i64.wrap ((m : Int) + (n : Int)) = ((k : Nat) : Int) := by rw [IntWalk.i64_in _ (by omega)]; omega
  clear hk hb
  unfold execOp
  simp only [ho, hx, hy]
  go_simp <;> rw [hw]
theorem run_sub_nat (ho : o.op = .binOp .sub 3 x y 3) (hx : a.eval x = .int .i64 ((m : Nat) : Int)) (hy : a.eval y = .int .i64 ((n : Nat) : Int)) (hk : m = k + n) (hb : m ≤ 4000000000) : (execOp a.eval o).run Try.prog w = .ok (.value (.int .i64 ((k : Nat) : Int))) w := by
  have hw : IntKind.i64.wrap ((m : Int) - (n : Int)) = ((k : Nat) : Int) := by rw [IntWalk.i64_in _ (by omega)]; omega
  clear hk hb
  unfold execOp
  simp only [ho, hx, hy]
  go_simp <;> rw [hw]
end
set_option maxRecDepth 100000 in
set_option maxHeartbeats 2000000 in
theorem wsswap {w : World} {g off c n N a b : Nat} {A X M Y B : List Nat} (f : Value) (hX : X.length = n) (hY : Y.length = n) (ha : A.length = a) (hb : a + n + M.length = b) (hN : (A ++ (X ++ (M ++ (Y ++ B)))).length = N) (hsz : N ≤ 4000000) (h : PRow w g off (A ++ (X ++ (M ++ (Y ++ B))))) :
    Calls Try.prog 113 #[.slice (some ⟨g, off, none⟩) N c, .int .i64 (a : Int), .int .i64 (b : Int), .int .i64 (n : Int), f] w fun e w' => e = .returned (.tuple #[]) ∧ PRow w' g off (A ++ (Y ++ (M ++ (X ++ B)))) ∧ Kept (fun k => k = g) w w' := by
  have hN' : a + n + M.length + n + B.length = N := by simp only [List.length_append] at hN; omega
  have HP := Lib.hid h
  have HX := Lib.hid hX
  have HY := Lib.hid hY
  have HA := Lib.hid ha
  have hab : a + n ≤ b := by omega
  have hbn : b + n ≤ N := by omega
  have HB := Lib.hid hb
  clear h hX hY ha hb hN hN'
  go_enter Try.func113, Try.ntmps113
  go_wp2
  go_loopw [10] (fun z wr => ∃ i : Nat, i ≤ n ∧ z = .int .i64 (i : Int) ∧ Kept (fun k => k = g) w wr ∧ ∃ X1 X2 Y1 Y2, Hid (X = X1 ++ X2 ∧ Y = Y1 ++ Y2 ∧ X1.length = i ∧ Y1.length = i) ∧ PRow wr g off (A ++ (Y1 ++ (X2 ++ (M ++ (X1 ++ (Y2 ++ B))))))) (fun z _ => n - (intOf z).toNat)
  case atStart => exact ⟨0, Nat.zero_le _, rfl, Kept.refl _, [], X, [], Y, Lib.hid ⟨rfl, rfl, rfl, rfl⟩, HP.out⟩
  case round =>
    obtain ⟨i, hi, rfl, kp, X1, X2, Y1, Y2, hp, hr⟩ := hrel
    by_cases hlt : i < n
    · have d1 : decide ((i : Int) < (n : Int)) = true := decide_eq_true (by omega)
      obtain ⟨eX, eY, lX, lY⟩ := hp.out
      obtain ⟨x, X3, e3⟩ : ∃ x X3, X2 = x :: X3 := by
        cases X2 with
        | nil => exact absurd HX.out (by rw [eX, List.length_append, lX]; simp; omega)
        | cons x X3 => exact ⟨x, X3, rfl⟩
      obtain ⟨y, Y3, e4⟩ : ∃ y Y3, Y2 = y :: Y3 := by
        cases Y2 with
        | nil => exact absurd HY.out (by rw [eY, List.length_append, lY]; simp; omega)
        | cons y Y3 => exact ⟨y, Y3, rfl⟩
      subst e3
      subst e4
      have lX3 : i + 1 + X3.length = n := by have := HX.out; rw [eX, List.length_append, lX, List.length_cons] at this; omega
      have e5 : A ++ (Y1 ++ (x :: X3 ++ (M ++ (X1 ++ (y :: Y3 ++ B))))) = (A ++ Y1) ++ x :: ((X3 ++ (M ++ X1)) ++ y :: (Y3 ++ B)) := by simp
      rw [e5] at hr
      have l1 : (A ++ Y1).length = a + i := by rw [List.length_append, HA.out, lY]
      have l2 : (A ++ Y1).length + 1 + (X3 ++ (M ++ X1)).length = b + i := by have := HB.out; simp only [List.length_append, HA.out, lY, lX]; omega
      obtain ⟨c1, c2⟩ := get_twoS (E := Y3 ++ B) (x := x) (y := y) l1 l2
      have hz1 : a + i < ((A ++ Y1) ++ x :: ((X3 ++ (M ++ X1)) ++ y :: (Y3 ++ B))).length := (List.getElem?_eq_some_iff.1 c1).1
      have p1 := hr.drew.put hz1 y
      have hz2 : b + i < (((A ++ Y1) ++ x :: ((X3 ++ (M ++ X1)) ++ y :: (Y3 ++ B))).set (a + i) y).length := by rw [List.length_set]; exact (List.getElem?_eq_some_iff.1 c2).1
      have hne : a + i ≠ b + i := by omega
      have CA := Lib.hid (hr.drew.cell c1)
      have CB := Lib.hid (hr.drew.cell c2)
      have FA := Lib.hid (hr.drew.fr (off + (a + i)))
      have FB2 := Lib.hid (p1.fr (off + (b + i)))
      have CB2 := Lib.hid (p1.cell (i := b + i) (b := y) (by rw [List.getElem?_set_ne hne]; exact c2))
      have p2 := p1.put hz2 x
      rw [set_twoS l1 l2] at p2
      have P2 : Hid (PRow ((wr.drew.setCell ⟨g, off + (a + i), none⟩ (.pointer (some ⟨y, 0, none⟩))).setCell ⟨g, off + (b + i), none⟩ (.pointer (some ⟨x, 0, none⟩))) g off (A ++ (Y1 ++ [y] ++ (X3 ++ (M ++ (X1 ++ [x] ++ (Y3 ++ B))))))) := Lib.hid (by
        have e6 : A ++ (Y1 ++ [y] ++ (X3 ++ (M ++ (X1 ++ [x] ++ (Y3 ++ B))))) = (A ++ Y1) ++ y :: ((X3 ++ (M ++ X1)) ++ x :: (Y3 ++ B)) := by simp
        rw [e6]; exact p2)
      have K2 : Hid (Kept (fun k => k = g) w ((wr.drew.setCell ⟨g, off + (a + i), none⟩ (.pointer (some ⟨y, 0, none⟩))).setCell ⟨g, off + (b + i), none⟩ (.pointer (some ⟨x, 0, none⟩)))) := Lib.hid (((kp.trans (Kept.drew wr) (fun _ _ e => e)).trans (Kept.setCell _ g _ _) (fun _ _ e => e)).trans (Kept.setCell _ g _ _) (fun _ _ e => e))
      have E2 : Hid (X = (X1 ++ [x]) ++ X3 ∧ Y = (Y1 ++ [y]) ++ Y3 ∧ (X1 ++ [x]).length = i + 1 ∧ (Y1 ++ [y]).length = i + 1) := Lib.hid ⟨by rw [eX]; simp, by rw [eY]; simp, by simp [lX], by simp [lY]⟩
      clear hr p1 p2 c1 c2 hz1 hz2 hp eX eY lX lY l1 l2 e5 kp lX3
      go_upto_region 3 with fail
      refine wp_region_held_drew (S := fun _ => True) (by kernel_rfl) trivial (fun hS => ?_)
      refine held_pure (i := 0) (oi := ⟨some 16, _, _, _, _, _⟩) rfl (by kernel_rfl) (by kernel_rfl) (by kernel_rfl) (fun _ _ _ h => h) (by rfl) (v := ?_) (fun w hSw => ?_) hS (fun hS => ?_)
      rotate_left
      · go_simp; try with_reducible rfl
      try go_frame
      refine held_pure (i := 1) (oi := ⟨some 17, _, _, _, _, _⟩) rfl (by kernel_rfl) (by kernel_rfl) (by kernel_rfl) (fun _ _ _ h => h) (by rfl) (v := ?_) (fun w hSw => ?_) hS (fun hS => ?_)
      rotate_left
      · go_simp; try with_reducible rfl
      try go_frame
      refine held_pure (i := 2) (oi := ⟨some 18, _, _, _, _, _⟩) rfl (by kernel_rfl) (by kernel_rfl) (by kernel_rfl) (fun _ _ _ h => h) (by rfl) (v := ?_) (fun w hSw => ?_) hS (fun hS => ?_)
      rotate_left
      · go_simp; try with_reducible rfl
      try go_frame
      refine held_pure (i := 3) (oi := ⟨some 19, _, _, _, _, _⟩) rfl (by kernel_rfl) (by kernel_rfl) (by kernel_rfl) (fun _ _ _ h => h) (by rfl) (fun w hSw => run_add_nat rfl rfl rfl (k := a + i) rfl (by omega)) hS (fun hS => ?_)
      try go_frame
      refine held_pure (i := 4) (oi := ⟨some 20, _, _, _, _, _⟩) rfl (by kernel_rfl) (by kernel_rfl) (by kernel_rfl) (fun _ _ _ h => h) (by rfl) (v := ?_) (fun w hSw => ?_) hS (fun hS => ?_)
      rotate_left
      · go_simp; try with_reducible rfl
      try go_frame
      refine held_pure (i := 5) (oi := ⟨some 21, _, _, _, _, _⟩) rfl (by kernel_rfl) (by kernel_rfl) (by kernel_rfl) (fun _ _ _ h => h) (by rfl) (v := ?_) (fun w hSw => ?_) hS (fun hS => ?_)
      rotate_left
      · go_simp; try with_reducible rfl
      try go_frame
      refine held_pure (i := 6) (oi := ⟨some 22, _, _, _, _, _⟩) rfl (by kernel_rfl) (by kernel_rfl) (by kernel_rfl) (fun _ _ _ h => h) (by rfl) (v := ?_) (fun w hSw => ?_) hS (fun hS => ?_)
      rotate_left
      · go_simp; try with_reducible rfl
      try go_frame
      refine held_pure (i := 7) (oi := ⟨some 23, _, _, _, _, _⟩) rfl (by kernel_rfl) (by kernel_rfl) (by kernel_rfl) (fun _ _ _ h => h) (by rfl) (fun w hSw => run_add_nat rfl rfl rfl (k := b + i) rfl (by omega)) hS (fun hS => ?_)
      try go_frame
      refine held_pure (i := 8) (oi := ⟨some 24, _, _, _, _, _⟩) rfl (by kernel_rfl) (by kernel_rfl) (by kernel_rfl) (fun _ _ _ h => h) (by rfl) (v := ?_) (fun w hSw => ?_) hS (fun hS => ?_)
      rotate_left
      · go_simp; try with_reducible rfl
      try go_frame
      refine held_pure (i := 9) (oi := ⟨some 25, _, _, _, _, _⟩) rfl (by kernel_rfl) (by kernel_rfl) (by kernel_rfl) (fun _ _ _ h => h) (by rfl) (v := ?_) (fun w hSw => ?_) hS (fun hS => ?_)
      rotate_left
      · go_simp; try with_reducible rfl
      try go_frame
      refine held_pure (i := 10) (oi := ⟨some 26, _, _, _, _, _⟩) rfl (by kernel_rfl) (by kernel_rfl) (by kernel_rfl) (fun _ _ _ h => h) (by rfl) (v := ?_) (fun w hSw => ?_) hS (fun hS => ?_)
      rotate_left
      · go_simp; try with_reducible rfl
      try go_frame
      refine held_pure (i := 11) (oi := ⟨some 27, _, _, _, _, _⟩) rfl (by kernel_rfl) (by kernel_rfl) (by kernel_rfl) (fun _ _ _ h => h) (by rfl) (fun w hSw => run_add_nat rfl rfl rfl (k := b + i) rfl (by omega)) hS (fun hS => ?_)
      try go_frame
      refine held_pure (i := 12) (oi := ⟨some 28, _, _, _, _, _⟩) rfl (by kernel_rfl) (by kernel_rfl) (by kernel_rfl) (fun _ _ _ h => h) (by rfl) (fun w hSw => run_idx_pt (i := b + i) rfl rfl rfl (by omega)) hS (fun hS => ?_)
      try go_frame
      refine held_pure (i := 14) (oi := ⟨some 30, _, _, _, _, _⟩) rfl (by kernel_rfl) (by kernel_rfl) (by kernel_rfl) (fun _ _ _ h => h) (by rfl) (v := ?_) (fun w hSw => ?_) hS (fun hS => ?_)
      rotate_left
      · go_simp; try with_reducible rfl
      try go_frame
      refine held_pure (i := 15) (oi := ⟨some 31, _, _, _, _, _⟩) rfl (by kernel_rfl) (by kernel_rfl) (by kernel_rfl) (fun _ _ _ h => h) (by rfl) (v := ?_) (fun w hSw => ?_) hS (fun hS => ?_)
      rotate_left
      · go_simp; try with_reducible rfl
      try go_frame
      refine held_pure (i := 16) (oi := ⟨some 32, _, _, _, _, _⟩) rfl (by kernel_rfl) (by kernel_rfl) (by kernel_rfl) (fun _ _ _ h => h) (by rfl) (v := ?_) (fun w hSw => ?_) hS (fun hS => ?_)
      rotate_left
      · go_simp; try with_reducible rfl
      try go_frame
      refine held_pure (i := 17) (oi := ⟨some 33, _, _, _, _, _⟩) rfl (by kernel_rfl) (by kernel_rfl) (by kernel_rfl) (fun _ _ _ h => h) (by rfl) (fun w hSw => run_add_nat rfl rfl rfl (k := a + i) rfl (by omega)) hS (fun hS => ?_)
      try go_frame
      refine held_pure (i := 18) (oi := ⟨some 34, _, _, _, _, _⟩) rfl (by kernel_rfl) (by kernel_rfl) (by kernel_rfl) (fun _ _ _ h => h) (by rfl) (fun w hSw => run_idx_pt (i := a + i) rfl rfl rfl (by omega)) hS (fun hS => ?_)
      try go_frame
      refine wpAnyH_ready (rs := [13, 19]) (by kernel_rfl) (by simp) (AllReadyH.cons (o := ⟨some 29, _, _, _, _, _⟩) rfl (fun K hK => ?_) (AllReadyH.cons (o := ⟨some 35, _, _, _, _, _⟩) rfl (fun K hK => ?_) AllReadyH.nil))
      · rw [if_pos (by rfl)]
        refine load_ptW_wp rfl rfl CB.out ?_
        refine hK.out _ _ trivial (fun hS => ?_)
        clear hK K
        try go_frame
        refine wpAnyH_ready (rs := [19]) (by kernel_rfl) (by simp) (AllReadyH.cons (o := ⟨some 35, _, _, _, _, _⟩) rfl (fun K hK => ?_) AllReadyH.nil)
        rw [if_pos (by rfl)]
        refine load_ptW_wp rfl rfl CA.out ?_
        refine hK.out _ _ trivial (fun hS => ?_)
        clear hK K
        try go_frame
        refine held_pure (i := 20) (oi := ⟨some 36, _, _, _, _, _⟩) rfl (by kernel_rfl) (by kernel_rfl) (by kernel_rfl) (fun _ _ _ h => h) (by rfl) (fun w hSw => run_idx_pt (i := a + i) rfl rfl rfl (by omega)) hS (fun hS => ?_)
        try go_frame
        refine wpAnyH_ready (rs := [21]) (by kernel_rfl) (by simp) (AllReadyH.cons (o := ⟨none, _, _, _, _, _⟩) rfl (fun K hK => ?_) AllReadyH.nil)
        rw [if_pos (by rfl)]
        refine store_ptW_wp rfl rfl rfl CA.out FA.out ?_
        refine hK.out _ _ trivial (fun hS => ?_)
        clear hK K
        try go_frame
        refine held_pure (i := 22) (oi := ⟨some 37, _, _, _, _, _⟩) rfl (by kernel_rfl) (by kernel_rfl) (by kernel_rfl) (fun _ _ _ h => h) (by rfl) (fun w hSw => run_idx_pt (i := b + i) rfl rfl rfl (by omega)) hS (fun hS => ?_)
        try go_frame
        refine wpAnyH_ready (rs := [23]) (by kernel_rfl) (by simp) (AllReadyH.cons (o := ⟨none, _, _, _, _, _⟩) rfl (fun K hK => ?_) AllReadyH.nil)
        rw [if_pos (by rfl)]
        refine store_ptW_wp rfl rfl rfl CB2.out FB2.out ?_
        refine hK.out _ _ trivial (fun hS => ?_)
        clear hK K
        try go_frame
        refine wpAnyH_done (by kernel_rfl) ?_ _
        go_wp2_with fail
        go_roundw
        case rel => exact ⟨i + 1, hlt, by simp, K2.out, _, _, _, _, E2, P2.out⟩
        case measure => simp [intOf]; omega
      · rw [if_pos (by rfl)]
        refine load_ptW_wp rfl rfl CA.out ?_
        refine hK.out _ _ trivial (fun hS => ?_)
        clear hK K
        try go_frame
        refine wpAnyH_ready (rs := [13]) (by kernel_rfl) (by simp) (AllReadyH.cons (o := ⟨some 29, _, _, _, _, _⟩) rfl (fun K hK => ?_) AllReadyH.nil)
        rw [if_pos (by rfl)]
        refine load_ptW_wp rfl rfl CB.out ?_
        refine hK.out _ _ trivial (fun hS => ?_)
        clear hK K
        try go_frame
        refine held_pure (i := 20) (oi := ⟨some 36, _, _, _, _, _⟩) rfl (by kernel_rfl) (by kernel_rfl) (by kernel_rfl) (fun _ _ _ h => h) (by rfl) (fun w hSw => run_idx_pt (i := a + i) rfl rfl rfl (by omega)) hS (fun hS => ?_)
        try go_frame
        refine wpAnyH_ready (rs := [21]) (by kernel_rfl) (by simp) (AllReadyH.cons (o := ⟨none, _, _, _, _, _⟩) rfl (fun K hK => ?_) AllReadyH.nil)
        rw [if_pos (by rfl)]
        refine store_ptW_wp rfl rfl rfl CA.out FA.out ?_
        refine hK.out _ _ trivial (fun hS => ?_)
        clear hK K
        try go_frame
        refine held_pure (i := 22) (oi := ⟨some 37, _, _, _, _, _⟩) rfl (by kernel_rfl) (by kernel_rfl) (by kernel_rfl) (fun _ _ _ h => h) (by rfl) (fun w hSw => run_idx_pt (i := b + i) rfl rfl rfl (by omega)) hS (fun hS => ?_)
        try go_frame
        refine wpAnyH_ready (rs := [23]) (by kernel_rfl) (by simp) (AllReadyH.cons (o := ⟨none, _, _, _, _, _⟩) rfl (fun K hK => ?_) AllReadyH.nil)
        rw [if_pos (by rfl)]
        refine store_ptW_wp rfl rfl rfl CB2.out FB2.out ?_
        refine hK.out _ _ trivial (fun hS => ?_)
        clear hK K
        try go_frame
        refine wpAnyH_done (by kernel_rfl) ?_ _
        go_wp2_with fail
        go_roundw
        case rel => exact ⟨i + 1, hlt, by simp, K2.out, _, _, _, _, E2, P2.out⟩
        case measure => simp [intOf]; omega
    · have d1 : decide ((i : Int) < (n : Int)) = false := decide_eq_false (by omega)
      have hin : i = n := by omega
      obtain ⟨eX, eY, lX, lY⟩ := hp.out
      have e1 : X2 = [] := List.eq_nil_of_length_eq_zero (by have := HX.out; rw [eX, List.length_append] at this; omega)
      have e2 : Y2 = [] := List.eq_nil_of_length_eq_zero (by have := HY.out; rw [eY, List.length_append] at this; omega)
      have P2 : Hid (PRow wr g off (A ++ (Y ++ (M ++ (X ++ B))))) := Lib.hid (by
        rw [e1, e2] at hr
        have f1 : X = X1 := by rw [eX, e1]; simp
        have f2 : Y = Y1 := by rw [eY, e2]; simp
        rw [f1, f2]; simpa using hr)
      clear hr hp eX eY lX lY e1 e2 hin
      go_wp2
      exact bodyPost_end (results_none rfl _ _ _) rfl ⟨rfl, P2.out, kp⟩
set_option maxRecDepth 100000 in
set_option maxHeartbeats 2000000 in
theorem wsrotate {w : World} {g off c N a m b : Nat} {P X Y Q : List Nat} (f : Value) (ha : P.length = a) (hm : a + X.length = m) (hb : m + Y.length = b) (hN : (P ++ (X ++ (Y ++ Q))).length = N) (hsz : N ≤ 4000000) (h : PRow w g off (P ++ (X ++ (Y ++ Q)))) (hx : 0 < X.length) (hy : 0 < Y.length) :
    Calls Try.prog 105 #[.slice (some ⟨g, off, none⟩) N c, .int .i64 (a : Int), .int .i64 (m : Int), .int .i64 (b : Int), f] w fun e w' => e = .returned (.tuple #[]) ∧ PRow w' g off (P ++ (Y ++ (X ++ Q))) ∧ Kept (fun k => k = g) w w' := by
  have HP := Lib.hid h
  have HA := Lib.hid ha
  have HN := Lib.hid hN
  have HL := Lib.hid (And.intro hm hb)
  have hbN : b ≤ N := by simp only [List.length_append] at hN; omega
  have s1 : IntKind.i64.wrap ((m : Int) - (a : Int)) = ((X.length : Nat) : Int) := by rw [IntWalk.i64_in _ (by omega)]; omega
  have s2 : IntKind.i64.wrap ((b : Int) - (m : Int)) = ((Y.length : Nat) : Int) := by rw [IntWalk.i64_in _ (by omega)]; omega
  have hmb : m ≤ b := by omega
  obtain ⟨xl, hxl⟩ : ∃ l, l = X.length := ⟨_, rfl⟩
  obtain ⟨yl, hyl⟩ : ∃ l, l = Y.length := ⟨_, rfl⟩
  rw [← hxl] at s1 hx
  rw [← hyl] at s2 hy
  have HXL := Lib.hid hxl
  have HYL := Lib.hid hyl
  clear h ha hN hm hb hxl hyl
  go_enter Try.func105, Try.ntmps105
  go_wp2
  go_loopw [10, 11] (fun y z wr => ∃ i j : Nat, 0 < i ∧ 0 < j ∧ i ≤ m ∧ m + j ≤ b ∧ y = .int .i64 (i : Int) ∧ z = .int .i64 (j : Int) ∧ Kept (fun k => k = g) w wr ∧ ∃ P1 X1 Y1 Q1, Hid (P1 ++ (Y1 ++ (X1 ++ Q1)) = P ++ (Y ++ (X ++ Q)) ∧ X1.length = i ∧ Y1.length = j ∧ P1.length + i = m) ∧ PRow wr g off (P1 ++ (X1 ++ (Y1 ++ Q1)))) (fun y z _ => (intOf y).toNat + (intOf z).toNat)
  case atStart => exact ⟨xl, yl, hx, hy, by have := HL.out; have := HXL.out; omega, by have := HL.out; have := HYL.out; omega, rfl, rfl, Kept.refl _, P, X, Y, Q, Lib.hid ⟨rfl, HXL.out.symm, HYL.out.symm, by have := HL.out; have := HA.out; have := HXL.out; omega⟩, HP.out⟩
  case round =>
    obtain ⟨i, j, hi0, hj0, him, hjb, rfl, rfl, kp, P1, X1, Y1, Q1, hp, hr⟩ := hrel
    obtain ⟨e0, lX, lY, lP⟩ := hp.out
    have hlen : (P1 ++ (X1 ++ (Y1 ++ Q1))).length = N := by
      have := congrArg List.length e0
      have h2 := HN.out
      simp only [List.length_append] at this h2 ⊢
      omega
    have s3 : IntKind.i64.wrap ((m : Int) - (i : Int)) = ((P1.length : Nat) : Int) := by rw [IntWalk.i64_in _ (by omega)]; omega
    obtain ⟨pl, hpl⟩ : ∃ l, l = P1.length := ⟨_, rfl⟩
    rw [← hpl] at s3
    have HPL := Lib.hid hpl
    have hplm : pl + i = m := by omega
    rcases Nat.lt_trichotomy i j with hc | hc | hc
    · have d1 : ((i : Int) != (j : Int)) = true := by simp; omega
      have d2 : decide ((j : Int) < (i : Int)) = false := decide_eq_false (by omega)
      have d3 : ¬ j < i := by omega
      have d4 : ¬ i = j := by omega
      obtain ⟨mj, hmj⟩ : ∃ l, l = m + j := ⟨_, rfl⟩
      obtain ⟨t, ht⟩ : ∃ l, l = mj - i := ⟨_, rfl⟩
      obtain ⟨r, hr9⟩ : ∃ l, l = j - i := ⟨_, rfl⟩
      have s4 : IntKind.i64.wrap ((m : Int) + (j : Int)) = ((mj : Nat) : Int) := by rw [IntWalk.i64_in _ (by omega)]; omega
      have s5 : IntKind.i64.wrap ((mj : Int) - (i : Int)) = ((t : Nat) : Int) := by rw [IntWalk.i64_in _ (by omega)]; omega
      have s6 : IntKind.i64.wrap ((j : Int) - (i : Int)) = ((r : Nat) : Int) := by rw [IntWalk.i64_in _ (by omega)]; omega
      have hr2 : PRow wr g off (P1 ++ (X1 ++ (Y1.take r ++ (Y1.drop r ++ Q1)))) := by rw [← List.append_assoc (Y1.take r), List.take_append_drop]; exact hr
      have HC := Lib.hid (wsswap (w := wr) (c := c) (n := i) (N := N) (a := pl) (b := t) (A := P1) (X := X1) (M := Y1.take r) (Y := Y1.drop r) (B := Q1) f lX (by rw [List.length_drop]; omega) hpl.symm (by rw [List.length_take]; omega) (by rw [← hlen]; simp only [List.length_append, List.length_take, List.length_drop]; omega) hsz hr2)
      have E2 : Hid (P1 ++ (Y1.take r ++ (Y1.drop r ++ (X1 ++ Q1))) = P ++ (Y ++ (X ++ Q)) ∧ (Y1.drop r).length = i ∧ (Y1.take r).length = r ∧ P1.length + i = m) := Lib.hid ⟨by rw [← List.append_assoc (Y1.take r), List.take_append_drop]; exact e0, by rw [List.length_drop]; omega, by rw [List.length_take]; omega, lP⟩
      have hr0 : 0 < r := by omega
      have hrb : m + r ≤ b := by omega
      have hms : r < j := by omega
      clear hr hr2 e0 lX lY hp hlen hmj ht hr9 hpl hplm lP
      go_wp2_with ((go_at_call 113; refine (HC.out).mono ?_; rintro e w2 ⟨rfl, hr2, kp2⟩))
      go_roundw
      case rel => exact ⟨i, r, hi0, hr0, him, hrb, rfl, rfl, kp.trans kp2 (fun _ _ e => e), P1, Y1.drop r, Y1.take r, X1 ++ Q1, E2, hr2⟩
      case measure => simp [intOf]; omega
    · subst hc
      have d1 : ((i : Int) != (i : Int)) = false := by simp
      have HC := Lib.hid (wsswap (w := wr) (c := c) (n := i) (N := N) (a := pl) (b := m) (A := P1) (X := X1) (M := []) (Y := Y1) (B := Q1) f lX lY hpl.symm (by simp; omega) (by rw [← hlen]; rfl) hsz hr)
      have E0 := Lib.hid e0
      clear e0 lX lY hp hlen hr hpl hplm lP
      go_wp2_with ((go_at_call 113; refine (HC.out).mono ?_; rintro e w2 ⟨rfl, hr2, kp2⟩))
      exact bodyPost_end (results_none rfl _ _ _) rfl ⟨rfl, by rw [← E0.out]; exact hr2, kp.trans kp2 (fun _ _ e => e)⟩
    · have d1 : ((i : Int) != (j : Int)) = true := by simp; omega
      have d2 : decide ((j : Int) < (i : Int)) = true := decide_eq_true (by omega)
      have d4 : ¬ i = j := by omega
      obtain ⟨r, hr9⟩ : ∃ l, l = i - j := ⟨_, rfl⟩
      have s6 : IntKind.i64.wrap ((i : Int) - (j : Int)) = ((r : Nat) : Int) := by rw [IntWalk.i64_in _ (by omega)]; omega
      have hr2 : PRow wr g off (P1 ++ (X1.take j ++ (X1.drop j ++ (Y1 ++ Q1)))) := by rw [← List.append_assoc (X1.take j), List.take_append_drop]; exact hr
      have HC := Lib.hid (wsswap (w := wr) (c := c) (n := j) (N := N) (a := pl) (b := m) (A := P1) (X := X1.take j) (M := X1.drop j) (Y := Y1) (B := Q1) f (by rw [List.length_take]; omega) lY hpl.symm (by rw [List.length_drop]; omega) (by rw [← hlen]; simp only [List.length_append, List.length_take, List.length_drop]; omega) hsz hr2)
      have E2 : Hid ((P1 ++ Y1) ++ (X1.take j ++ (X1.drop j ++ Q1)) = P ++ (Y ++ (X ++ Q)) ∧ (X1.drop j).length = r ∧ (X1.take j).length = j ∧ (P1 ++ Y1).length + r = m) := Lib.hid ⟨by rw [← e0, ← List.append_assoc (X1.take j), List.take_append_drop, List.append_assoc], by rw [List.length_drop]; omega, by rw [List.length_take]; omega, by rw [List.length_append]; omega⟩
      have hr0 : 0 < r := by omega
      have hrm : r ≤ m := by omega
      have hms : r < i := by omega
      clear hr hr2 e0 lX lY hp hlen hr9 hpl hplm lP
      go_wp2_with ((go_at_call 113; refine (HC.out).mono ?_; rintro e w2 ⟨rfl, hr2, kp2⟩))
      go_roundw
      case rel => exact ⟨r, j, hr0, hj0, hrm, hjb, rfl, rfl, kp.trans kp2 (fun _ _ e => e), P1 ++ Y1, X1.drop j, X1.take j, Q1, E2, by rw [List.append_assoc]; exact hr2⟩
      case measure => simp [intOf]; omega
end Go.Proofs.Ytjgcpaepaocigaa

/-
  The stable sort of at most two timers that are in order. Conditions are each theorem's own.
-/
namespace Go.Proofs.Ytjgcpaepaocigaa
open Go.RowKit
def cmpI (a b : Int) : Int := if a < b then -1 else if b < a then 1 else 0
theorem wcnan (n : Int) (w : World) : Calls Try.prog 57 #[.int .i64 n] w fun e w' => e = .returned (.bool false) ∧ w = w' := by
  have h : (n != n) = false := by simp
  go_enter Try.func57, Try.ntmps57
  go_wp2
  go_ret
  exact ⟨rfl, rfl⟩
theorem wccmp (a b : Int) (w : World) : Calls Try.prog 34 #[.int .i64 a, .int .i64 b] w fun e w' => e = .returned (.int .i64 (cmpI a b)) ∧ w = w' := by
  by_cases h1 : a < b
  · have HC := Lib.hid (show cmpI a b = -1 from if_pos h1)
    have d1 : decide (a < b) = true := decide_eq_true h1
    clear h1
    go_enter Try.func34, Try.ntmps34
    go_wp2_with (go_at_call 57; refine (wcnan _ _).mono ?_; rintro e w1 ⟨rfl, rfl⟩)
    go_ret
    exact ⟨by rw [HC.out]; rfl, rfl⟩
  · have d1 : decide (a < b) = false := decide_eq_false h1
    by_cases h2 : b < a
    · have HC := Lib.hid (show cmpI a b = 1 from by rw [cmpI, if_neg h1, if_pos h2])
      have d2 : decide (b < a) = true := decide_eq_true h2
      clear h1 h2
      go_enter Try.func34, Try.ntmps34
      go_wp2_with (go_at_call 57; refine (wcnan _ _).mono ?_; rintro e w1 ⟨rfl, rfl⟩)
      go_ret
      exact ⟨by rw [HC.out]; rfl, rfl⟩
    · have HC := Lib.hid (show cmpI a b = 0 from by rw [cmpI, if_neg h1, if_neg h2])
      have d2 : decide (b < a) = false := decide_eq_false h2
      clear h1 h2
      go_enter Try.func34, Try.ntmps34
      go_wp2_with (go_at_call 57; refine (wcnan _ _).mono ?_; rintro e w1 ⟨rfl, rfl⟩)
      go_ret
      exact ⟨by rw [HC.out]; rfl, rfl⟩
theorem wadv1 {b c : Nat} {x y : Int} {w : World} (h1 : w.cell? ⟨b, 1, none⟩ = some (.int .i64 x)) (h2 : w.cell? ⟨c, 1, none⟩ = some (.int .i64 y)) :
    Calls Try.prog 33 #[.pointer (some ⟨b, 0, none⟩), .pointer (some ⟨c, 0, none⟩)] w fun e w' => e = .returned (.int .i64 (cmpI x y)) ∧ w' = w.drew := by
  have K1 : Hid (w.drew.cell? ⟨b, 1, none⟩ = some (.int .i64 x)) := Lib.hid h1
  have K2 : Hid (w.drew.cell? ⟨c, 1, none⟩ = some (.int .i64 y)) := Lib.hid h2
  clear h1 h2
  go_enter Try.func33, Try.ntmps33
  go_upto_region 1 with fail
  refine wp_region_held_drew (S := fun w' => w' = w.drew) (by kernel_rfl) rfl (fun hS => ?_)
  refine held_pure (i := 0) (oi := ⟨some 5, _, _, _, _, _⟩) rfl (by kernel_rfl) (by kernel_rfl) (by kernel_rfl) (fun _ _ _ h => h) (by rfl) (v := ?_) (fun w hSw => ?_) hS (fun hS => ?_)
  rotate_left
  · go_simp; try with_reducible rfl
  try go_frame
  refine held_pure (i := 1) (oi := ⟨some 6, _, _, _, _, _⟩) rfl (by kernel_rfl) (by kernel_rfl) (by kernel_rfl) (fun _ _ _ h => h) (by rfl) (v := ?_) (fun w hSw => ?_) hS (fun hS => ?_)
  rotate_left
  · go_simp; try with_reducible rfl
  try go_frame
  refine held_pure (i := 2) (oi := ⟨some 7, _, _, _, _, _⟩) rfl (by kernel_rfl) (by kernel_rfl) (by kernel_rfl) (fun _ _ _ h => h) (by rfl) (v := ?_) (fun w hSw => ?_) hS (fun hS => ?_)
  rotate_left
  · go_simp; try with_reducible rfl
  try go_frame
  refine held_pure (i := 3) (oi := ⟨some 8, _, _, _, _, _⟩) rfl (by kernel_rfl) (by kernel_rfl) (by kernel_rfl) (fun _ _ _ h => h) (by rfl) (fun w hSw => run_load_int rfl rfl (by rw [hSw]; exact K1.out)) hS (fun hS => ?_)
  try go_frame
  refine held_pure (i := 4) (oi := ⟨some 9, _, _, _, _, _⟩) rfl (by kernel_rfl) (by kernel_rfl) (by kernel_rfl) (fun _ _ _ h => h) (by rfl) (v := ?_) (fun w hSw => ?_) hS (fun hS => ?_)
  rotate_left
  · go_simp; try with_reducible rfl
  try go_frame
  refine held_pure (i := 5) (oi := ⟨some 10, _, _, _, _, _⟩) rfl (by kernel_rfl) (by kernel_rfl) (by kernel_rfl) (fun _ _ _ h => h) (by rfl) (v := ?_) (fun w hSw => ?_) hS (fun hS => ?_)
  rotate_left
  · go_simp; try with_reducible rfl
  try go_frame
  refine held_pure (i := 6) (oi := ⟨some 11, _, _, _, _, _⟩) rfl (by kernel_rfl) (by kernel_rfl) (by kernel_rfl) (fun _ _ _ h => h) (by rfl) (v := ?_) (fun w hSw => ?_) hS (fun hS => ?_)
  rotate_left
  · go_simp; try with_reducible rfl
  try go_frame
  refine held_pure (i := 7) (oi := ⟨some 12, _, _, _, _, _⟩) rfl (by kernel_rfl) (by kernel_rfl) (by kernel_rfl) (fun _ _ _ h => h) (by rfl) (fun w hSw => run_load_int rfl rfl (by rw [hSw]; exact K2.out)) hS (fun hS => ?_)
  try go_frame
  refine wpAnyH_ready (rs := [8]) (by kernel_rfl) (by simp) (AllReadyH.cons (o := ⟨some 13, _, _, _, _, _⟩) rfl (fun K hK => ?_) AllReadyH.nil)
  rw [if_pos (by rfl)]
  go_simp
  refine (wccmp _ _ _).mono ?_
  rintro e y8 ⟨rfl, rfl⟩
  show K _ _
  refine hK.out _ _ hS (fun hS => ?_)
  clear hK K
  try go_frame
  refine held_pure (i := 9) (oi := ⟨some 4, _, _, _, _, _⟩) rfl (by kernel_rfl) (by kernel_rfl) (by kernel_rfl) (fun _ _ _ h => h) (by rfl) (v := ?_) (fun w hSw => ?_) hS (fun hS => ?_)
  rotate_left
  · go_simp; try with_reducible rfl
  try go_frame
  refine wpAnyH_done (by kernel_rfl) ?_ _
  go_wp2_with fail
  go_ret
  exact ⟨rfl, rfl⟩
set_option maxRecDepth 100000 in
theorem wsins_one (A : Option Addr) (n c : Nat) (f : Value) (w : World) (hn : n ≤ 1) :
    Calls Try.prog 86 #[.slice A n c, .int .i64 0, .int .i64 (n : Int), f] w fun e w' => e = .returned (.tuple #[]) ∧ w = w' := by
  have d1 : decide (1 < (n : Int)) = false := decide_eq_false (by omega)
  go_enter Try.func86, Try.ntmps86
  go_wp2
  go_loopw [8] (fun z wr => z = .int .i64 1 ∧ wr = w) (fun _ _ => 0)
  case atStart => exact ⟨rfl, rfl⟩
  case round =>
    obtain ⟨rfl, rfl⟩ := hrel
    go_wp2
    exact bodyPost_end (results_none rfl _ _ _) rfl ⟨rfl, rfl⟩
set_option maxRecDepth 100000 in
set_option maxHeartbeats 1000000 in
theorem wsins_two {g off b0 b1 c : Nat} {x0 x1 : Int} {w : World} (c0 : w.cell? ⟨g, off, none⟩ = some (.pointer (some ⟨b0, 0, none⟩))) (c1 : w.cell? ⟨g, off + 1, none⟩ = some (.pointer (some ⟨b1, 0, none⟩)))
    (y0 : w.cell? ⟨b0, 1, none⟩ = some (.int .i64 x0)) (y1 : w.cell? ⟨b1, 1, none⟩ = some (.int .i64 x1)) (hx : x0 ≤ x1) (hg : g < w.heap.size) (h0 : b0 < w.heap.size) (h1 : b1 < w.heap.size) :
    Calls Try.prog 86 #[.slice (some ⟨g, off, none⟩) 2 c, .int .i64 0, .int .i64 2, .func (.func 33) #[] #[]] w fun e w' => e = .returned (.tuple #[]) ∧ Below w.heap.size w w' := by
  have C0 : Hid (∀ U, Below w.heap.size w U → U.cell? ⟨g, off, none⟩ = some (.pointer (some ⟨b0, 0, none⟩))) := Lib.hid fun U h => (h.cell (p := ⟨g, off, none⟩) hg).trans c0
  have C1 : Hid (∀ U, Below w.heap.size w U → U.cell? ⟨g, off + 1, none⟩ = some (.pointer (some ⟨b1, 0, none⟩))) := Lib.hid fun U h => (h.cell (p := ⟨g, off + 1, none⟩) hg).trans c1
  have X0 : Hid (∀ U, Below w.heap.size w U → U.cell? ⟨b0, 1, none⟩ = some (.int .i64 x0)) := Lib.hid fun U h => (h.cell (p := ⟨b0, 1, none⟩) h0).trans y0
  have X1 : Hid (∀ U, Below w.heap.size w U → U.cell? ⟨b1, 1, none⟩ = some (.int .i64 x1)) := Lib.hid fun U h => (h.cell (p := ⟨b1, 1, none⟩) h1).trans y1
  obtain ⟨cr, hcr⟩ : ∃ r, r = cmpI x1 x0 := ⟨_, rfl⟩
  have dc : decide (cr < 0) = false := decide_eq_false (by rw [hcr]; unfold cmpI; split; omega; split <;> omega)
  have HCR := Lib.hid hcr
  clear c0 c1 y0 y1 hx hg h0 h1 hcr
  go_enter Try.func86, Try.ntmps86
  go_wp2
  go_loopw [8] (fun z wr => ∃ i : Nat, (i = 1 ∨ i = 2) ∧ z = .int .i64 (i : Int) ∧ Below w.heap.size w wr) (fun z _ => 2 - (intOf z).toNat)
  case atStart => exact ⟨1, .inl rfl, rfl, Below.refl _ _⟩
  case round =>
    obtain ⟨i, rfl | rfl, rfl, hb⟩ := hrel
    · go_wp2
      go_loopw [9] (fun z wr => z = .int .i64 1 ∧ Below w.heap.size w wr) (fun _ _ => 0)
      case atStart => exact ⟨rfl, hb⟩
      case round =>
        clear hb
        obtain ⟨rfl, hb⟩ := hrel
        go_upto_region 4 with fail
        refine wp_region_held_drew (S := fun w' => Below w.heap.size w w') (by kernel_rfl) hb.drew (fun hS => ?_)
        refine held_pure (i := 0) (oi := ⟨some 18, _, _, _, _, _⟩) rfl (by kernel_rfl) (by kernel_rfl) (by kernel_rfl) (fun _ _ _ h => h) (by rfl) (v := ?_) (fun w hSw => ?_) hS (fun hS => ?_)
        rotate_left
        · go_simp; try with_reducible rfl
        try go_frame
        refine held_pure (i := 1) (oi := ⟨some 19, _, _, _, _, _⟩) rfl (by kernel_rfl) (by kernel_rfl) (by kernel_rfl) (fun _ _ _ h => h) (by rfl) (v := ?_) (fun w hSw => ?_) hS (fun hS => ?_)
        rotate_left
        · go_simp; try with_reducible rfl
        try go_frame
        refine held_pure (i := 2) (oi := ⟨some 20, _, _, _, _, _⟩) rfl (by kernel_rfl) (by kernel_rfl) (by kernel_rfl) (fun _ _ _ h => h) (by rfl) (v := ?_) (fun w hSw => ?_) hS (fun hS => ?_)
        rotate_left
        · go_simp; try with_reducible rfl
        try go_frame
        refine held_pure (i := 3) (oi := ⟨some 21, _, _, _, _, _⟩) rfl (by kernel_rfl) (by kernel_rfl) (by kernel_rfl) (fun _ _ _ h => h) (by rfl) (v := ?_) (fun w hSw => ?_) hS (fun hS => ?_)
        rotate_left
        · go_simp; try with_reducible rfl
        try go_frame
        refine held_pure (i := 4) (oi := ⟨some 22, _, _, _, _, _⟩) rfl (by kernel_rfl) (by kernel_rfl) (by kernel_rfl) (fun _ _ _ h => h) (by rfl) (v := ?_) (fun w hSw => ?_) hS (fun hS => ?_)
        rotate_left
        · go_simp; try with_reducible rfl
        try go_frame
        refine held_pure (i := 5) (oi := ⟨some 23, _, _, _, _, _⟩) rfl (by kernel_rfl) (by kernel_rfl) (by kernel_rfl) (fun _ _ _ h => h) (by rfl) (v := ?_) (fun w hSw => ?_) hS (fun hS => ?_)
        rotate_left
        · go_simp; try with_reducible rfl
        try go_frame
        refine held_pure (i := 6) (oi := ⟨some 24, _, _, _, _, _⟩) rfl (by kernel_rfl) (by kernel_rfl) (by kernel_rfl) (fun _ _ _ h => h) (by rfl) (v := ?_) (fun w hSw => ?_) hS (fun hS => ?_)
        rotate_left
        · go_simp; try with_reducible rfl
        try go_frame
        refine held_pure (i := 7) (oi := ⟨some 25, _, _, _, _, _⟩) rfl (by kernel_rfl) (by kernel_rfl) (by kernel_rfl) (fun _ _ _ h => h) (by rfl) (v := ?_) (fun w hSw => ?_) hS (fun hS => ?_)
        rotate_left
        · go_simp; try with_reducible rfl
        try go_frame
        refine held_pure (i := 8) (oi := ⟨some 26, _, _, _, _, _⟩) rfl (by kernel_rfl) (by kernel_rfl) (by kernel_rfl) (fun _ _ _ h => h) (by rfl) (fun w hSw => run_load_ptW (p := ⟨g, off + 1, none⟩) rfl rfl (C1.out _ hSw)) hS (fun hS => ?_)
        try go_frame
        refine held_pure (i := 9) (oi := ⟨some 27, _, _, _, _, _⟩) rfl (by kernel_rfl) (by kernel_rfl) (by kernel_rfl) (fun _ _ _ h => h) (by rfl) (v := ?_) (fun w hSw => ?_) hS (fun hS => ?_)
        rotate_left
        · go_simp; try with_reducible rfl
        try go_frame
        refine held_pure (i := 10) (oi := ⟨some 28, _, _, _, _, _⟩) rfl (by kernel_rfl) (by kernel_rfl) (by kernel_rfl) (fun _ _ _ h => h) (by rfl) (v := ?_) (fun w hSw => ?_) hS (fun hS => ?_)
        rotate_left
        · go_simp; try with_reducible rfl
        try go_frame
        refine held_pure (i := 11) (oi := ⟨some 29, _, _, _, _, _⟩) rfl (by kernel_rfl) (by kernel_rfl) (by kernel_rfl) (fun _ _ _ h => h) (by rfl) (v := .int .i64 0) (fun w hSw => by go_simp; first | done | rfl | decide) hS (fun hS => ?_)
        try go_frame
        refine held_pure (i := 12) (oi := ⟨some 30, _, _, _, _, _⟩) rfl (by kernel_rfl) (by kernel_rfl) (by kernel_rfl) (fun _ _ _ h => h) (by rfl) (v := ?_) (fun w hSw => ?_) hS (fun hS => ?_)
        rotate_left
        · go_simp; try with_reducible rfl
        try go_frame
        refine held_pure (i := 13) (oi := ⟨some 31, _, _, _, _, _⟩) rfl (by kernel_rfl) (by kernel_rfl) (by kernel_rfl) (fun _ _ _ h => h) (by rfl) (fun w hSw => run_load_ptW (p := ⟨g, off, none⟩) rfl rfl (C0.out _ hSw)) hS (fun hS => ?_)
        try go_frame
        refine wpAnyH_ready (rs := [14]) (by kernel_rfl) (by simp) (AllReadyH.cons (o := ⟨some 32, _, _, _, _, _⟩) rfl (fun K hK => ?_) AllReadyH.nil)
        rw [if_pos (by rfl)]
        go_simp
        refine (wadv1 (X1.out _ hS) (X0.out _ hS)).mono ?_
        rintro e y14 ⟨rfl, rfl⟩
        rw [← HCR.out]
        show K _ _
        refine hK.out _ _ hS.drew (fun hS => ?_)
        clear hK K
        try go_frame
        refine held_pure (i := 15) (oi := ⟨some 33, _, _, _, _, _⟩) rfl (by kernel_rfl) (by kernel_rfl) (by kernel_rfl) (fun _ _ _ h => h) (by rfl) (v := ?_) (fun w hSw => ?_) hS (fun hS => ?_)
        rotate_left
        · go_simp; try with_reducible rfl
        try go_frame
        refine held_pure (i := 16) (oi := ⟨some 34, _, _, _, _, _⟩) rfl (by kernel_rfl) (by kernel_rfl) (by kernel_rfl) (fun _ _ _ h => h) (by rfl) (v := ?_) (fun w hSw => ?_) hS (fun hS => ?_)
        rotate_left
        · go_simp; try with_reducible rfl
        try go_frame
        refine wpAnyH_done (by kernel_rfl) ?_ _
        go_wp2_with fail
        go_roundw
        case rel => exact ⟨2, .inr rfl, rfl, hS⟩
        case measure => simp [intOf]
    · go_wp2
      exact bodyPost_end (results_none rfl _ _ _) rfl ⟨rfl, hb⟩
def wsTwo (A : Option Addr) (n : Nat) (w : World) : Prop := n ≤ 1 ∨ ∃ g off b0 b1 : Nat, ∃ x0 x1 : Int, A = some ⟨g, off, none⟩ ∧ n = 2 ∧ w.cell? ⟨g, off, none⟩ = some (.pointer (some ⟨b0, 0, none⟩)) ∧ w.cell? ⟨g, off + 1, none⟩ = some (.pointer (some ⟨b1, 0, none⟩)) ∧
  w.cell? ⟨b0, 1, none⟩ = some (.int .i64 x0) ∧ w.cell? ⟨b1, 1, none⟩ = some (.int .i64 x1) ∧ x0 ≤ x1 ∧ g < w.heap.size ∧ b0 < w.heap.size ∧ b1 < w.heap.size
theorem wsins {A : Option Addr} {n c : Nat} {w : World} (h : wsTwo A n w) :
    Calls Try.prog 86 #[.slice A n c, .int .i64 0, .int .i64 (n : Int), .func (.func 33) #[] #[]] w fun e w' => e = .returned (.tuple #[]) ∧ Below w.heap.size w w' := by
  rcases h with h | ⟨g, off, b0, b1, x0, x1, rfl, rfl, h1, h2, h3, h4, h5, h6, h7, h8⟩
  · exact (wsins_one A n c _ w h).mono fun e w' ⟨h1, h2⟩ => ⟨h1, by rw [← h2]; exact Below.refl _ _⟩
  · exact wsins_two h1 h2 h3 h4 h5 h6 h7 h8
set_option maxRecDepth 100000 in
theorem wsstable {A : Option Addr} {n c : Nat} {w : World} (h : wsTwo A n w) :
    Calls Try.prog 56 #[.slice A n c, .int .i64 (n : Int), .func (.func 33) #[] #[]] w fun e w' => e = .returned (.tuple #[]) ∧ Below w.heap.size w w' := by
  have hn : n ≤ 2 := by
    rcases h with h | ⟨g, off, b0, b1, x0, x1, _, h, _⟩ <;> omega
  have d1 : decide (20 ≤ (n : Int)) = false := decide_eq_false (by omega)
  have d2 : decide (20 < (n : Int)) = false := decide_eq_false (by omega)
  have H := Lib.hid h
  clear h hn
  go_enter Try.func56, Try.ntmps56
  go_wp2
  go_loopw [7, 8] (fun y z wr => y = .int .i64 0 ∧ z = .int .i64 20 ∧ wr = w) (fun _ _ _ => 0)
  case atStart => exact ⟨rfl, rfl, rfl⟩
  case round =>
    obtain ⟨rfl, rfl, rfl⟩ := hrel
    go_wp2_with (go_at_call 86; refine (wsins H.out).mono ?_; rintro e w1 ⟨rfl, x1⟩)
    go_loopw [6] (fun y w2 => y = .int .i64 20 ∧ w2 = w1) (fun _ _ => 0)
    case atStart => exact ⟨rfl, rfl⟩
    case round =>
      obtain ⟨rfl, rfl⟩ := hrel
      go_wp2
      exact bodyPost_end (results_none rfl _ _ _) rfl ⟨rfl, x1⟩
theorem wssort {A : Option Addr} {n c : Nat} {w : World} (h : wsTwo A n w) :
    Calls Try.prog 32 #[.slice A n c, .func (.func 33) #[] #[]] w fun e w' => e = .returned (.tuple #[]) ∧ Below w.heap.size w w' := by
  have H := Lib.hid h
  clear h
  go_enter Try.func32, Try.ntmps32
  go_wp2_with (go_at_call 56; refine (wsstable H.out).mono ?_; rintro e w1 ⟨rfl, x1⟩)
  exact bodyPost_end (results_none rfl _ _ _) rfl ⟨rfl, x1⟩
end Go.Proofs.Ytjgcpaepaocigaa

/-
  Sorting by insertion of a part of a row of pointers to timers. Conditions are each theorem's own.
-/
namespace Go.Proofs.Ytjgcpaepaocigaa
open Go.RowKit
/-- Each timer's time, in blocks other than the row's. -/
def KeyR (w : World) (g : Nat) (R : Nat → Int) (X : List Nat) : Prop := ∀ x ∈ X, x ≠ g ∧ x < w.heap.size ∧ w.cell? ⟨x, 1, none⟩ = some (.int .i64 (R x))
theorem KeyR.kept {w w' : World} {g : Nat} {R : Nat → Int} {X : List Nat} (h : KeyR w g R X) (k : Kept (fun k => k = g) w w') : KeyR w' g R X := fun x hx => by
  obtain ⟨h1, h2, h3⟩ := h x hx
  exact ⟨h1, Nat.lt_of_lt_of_le h2 k.size, (World.cell?_of_block (a := ⟨x, 1, none⟩) (k.block x h2 h1)).trans h3⟩
theorem KeyR.sub {w : World} {g : Nat} {R : Nat → Int} {X Y : List Nat} (h : KeyR w g R X) (hs : ∀ y ∈ Y, y ∈ X) : KeyR w g R Y := fun y hy => h y (hs y hy)
theorem KeyR.below {w V : World} {g : Nat} {R : Nat → Int} {X : List Nat} (h : KeyR w g R X) (k : Below w.heap.size w V) {x : Nat} (hx : x ∈ X) : V.cell? ⟨x, 1, none⟩ = some (.int .i64 (R x)) := by
  obtain ⟨_, h2, h3⟩ := h x hx
  exact (k.cell (p := ⟨x, 1, none⟩) h2).trans h3
theorem PRow.below {w V : World} {g off i b : Nat} {L : List Nat} (h : PRow w g off L) (k : Below w.heap.size w V) (hi : L[i]? = some b) : V.cell? ⟨g, off + i, none⟩ = some (.pointer (some ⟨b, 0, none⟩)) := (k.cell (p := ⟨g, off + i, none⟩) h.lt).trans (h.cell hi)
theorem cmpI_lt (a b : Int) : decide (cmpI a b < 0) = decide (a < b) := by
  unfold cmpI
  split
  · rename_i h; simp [h]
  · rename_i h
    split <;> simp [h]
/-- Two neighbours change places: the cells on the way, in both orders of storing. -/
theorem PRow.swp {w : World} {g off k j u v : Nat} {C E : List Nat} (h : PRow w g off (C ++ u :: v :: E)) (hk : C.length = k) (hj : j = k + 1) :
    (w.drew.cell? ⟨g, off + k, none⟩ = some (.pointer (some ⟨u, 0, none⟩)) ∧ w.drew.cell? ⟨g, off + j, none⟩ = some (.pointer (some ⟨v, 0, none⟩)) ∧ w.drew.frozen? ⟨g, off + k, none⟩ = false ∧ w.drew.frozen? ⟨g, off + j, none⟩ = false) ∧
    ((w.drew.setCell ⟨g, off + j, none⟩ (.pointer (some ⟨u, 0, none⟩))).cell? ⟨g, off + k, none⟩ = some (.pointer (some ⟨u, 0, none⟩)) ∧ (w.drew.setCell ⟨g, off + j, none⟩ (.pointer (some ⟨u, 0, none⟩))).frozen? ⟨g, off + k, none⟩ = false ∧
      PRow ((w.drew.setCell ⟨g, off + j, none⟩ (.pointer (some ⟨u, 0, none⟩))).setCell ⟨g, off + k, none⟩ (.pointer (some ⟨v, 0, none⟩))) g off (C ++ v :: u :: E) ∧ Kept (fun k => k = g) w ((w.drew.setCell ⟨g, off + j, none⟩ (.pointer (some ⟨u, 0, none⟩))).setCell ⟨g, off + k, none⟩ (.pointer (some ⟨v, 0, none⟩)))) ∧
    ((w.drew.setCell ⟨g, off + k, none⟩ (.pointer (some ⟨v, 0, none⟩))).cell? ⟨g, off + j, none⟩ = some (.pointer (some ⟨v, 0, none⟩)) ∧ (w.drew.setCell ⟨g, off + k, none⟩ (.pointer (some ⟨v, 0, none⟩))).frozen? ⟨g, off + j, none⟩ = false ∧
      PRow ((w.drew.setCell ⟨g, off + k, none⟩ (.pointer (some ⟨v, 0, none⟩))).setCell ⟨g, off + j, none⟩ (.pointer (some ⟨u, 0, none⟩))) g off (C ++ v :: u :: E) ∧ Kept (fun k => k = g) w ((w.drew.setCell ⟨g, off + k, none⟩ (.pointer (some ⟨v, 0, none⟩))).setCell ⟨g, off + j, none⟩ (.pointer (some ⟨u, 0, none⟩)))) := by
  have l2 : C.length + 1 + ([] : List Nat).length = j := by simp; omega
  obtain ⟨c1, c2⟩ := get_twoS (D := []) (E := E) (x := u) (y := v) hk l2
  simp only [List.nil_append] at c1 c2
  have z1 := (List.getElem?_eq_some_iff.1 c1).1
  have z2 := (List.getElem?_eq_some_iff.1 c2).1
  have hne : k ≠ j := by omega
  have p1 := h.drew.put z2 u
  have p2 := p1.put (i := k) (by rw [List.length_set]; exact z1) v
  have q1 := h.drew.put z1 v
  have q2 := q1.put (i := j) (by rw [List.length_set]; exact z2) u
  have e := set_twoS (D := []) (E := E) (x := u) (y := v) hk l2
  simp only [List.nil_append] at e
  rw [List.set_comm _ _ (Ne.symm hne), e] at p2
  rw [e] at q2
  exact ⟨⟨h.drew.cell c1, h.drew.cell c2, h.drew.fr _, h.drew.fr _⟩,
    ⟨p1.cell (by rw [List.getElem?_set_ne (Ne.symm hne)]; exact c1), p1.fr _, p2, ((Kept.drew w).trans (Kept.setCell _ g _ _) (fun _ _ e => e)).trans (Kept.setCell _ g _ _) (fun _ _ e => e)⟩,
    ⟨q1.cell (by rw [List.getElem?_set_ne hne]; exact c2), q1.fr _, q2, ((Kept.drew w).trans (Kept.setCell _ g _ _) (fun _ _ e => e)).trans (Kept.setCell _ g _ _) (fun _ _ e => e)⟩⟩
set_option maxRecDepth 100000 in
set_option maxHeartbeats 4000000 in
theorem wsinsert {w : World} {g off c N a b : Nat} {P X Q : List Nat} {R : Nat → Int} (ha : P.length = a) (hb : a + X.length = b) (hN : (P ++ (X ++ Q)).length = N) (hsz : N ≤ 4000000) (h : PRow w g off (P ++ (X ++ Q))) (hk : KeyR w g R X) :
    Calls Try.prog 86 #[.slice (some ⟨g, off, none⟩) N c, .int .i64 (a : Int), .int .i64 (b : Int), .func (.func 33) #[] #[]] w fun e w' => e = .returned (.tuple #[]) ∧ ∃ Z, PRow w' g off (P ++ (Z ++ Q)) ∧ Stb R Z X ∧ Kept (fun k => k = g) w w' := by
  have HA := Lib.hid ha
  have HB := Lib.hid hb
  have HK := Lib.hid hk
  have hbN : b ≤ N := by simp only [List.length_append] at hN; omega
  have HNL := Lib.hid (show a + X.length + Q.length = N by simp only [List.length_append] at hN; omega)
  have s1 : IntKind.i64.wrap ((a : Int) + 1) = ((a + 1 : Nat) : Int) := by rw [IntWalk.i64_in _ (by omega)]; omega
  obtain ⟨a1, ha1⟩ : ∃ l, l = a + 1 := ⟨_, rfl⟩
  rw [← ha1] at s1
  have haN : a ≤ N := by omega
  have h0 : Hid (∃ X1 T, X = X1 ++ T ∧ Stb R X1 X1 ∧ (X1.length = 1 ∨ T = []) ∧ X1.length ≤ 1) := Lib.hid (by
    cases X with
    | nil => exact ⟨[], [], rfl, Stb.self List.Pairwise.nil, .inr rfl, Nat.zero_le _⟩
    | cons x X => exact ⟨[x], X, rfl, Stb.self (List.pairwise_singleton _ _), .inl rfl, Nat.le_refl _⟩)
  have HP := Lib.hid h
  have HA1 := Lib.hid ha1
  clear h ha hb hN hk ha1
  go_enter Try.func86, Try.ntmps86
  go_wp2
  go_loopw [8] (fun z wr => ∃ i : Nat, z = .int .i64 (i : Int) ∧ i ≤ N + 1 ∧ Kept (fun k => k = g) w wr ∧ ∃ S T X1, Hid (X = X1 ++ T ∧ Stb R S X1 ∧ (a + X1.length = i ∨ (T = [] ∧ b ≤ i))) ∧ PRow wr g off (P ++ (S ++ (T ++ Q)))) (fun z _ => N + 2 - (intOf z).toNat)
  case atStart =>
    obtain ⟨X1, T, e1, e2, e3, e4⟩ := h0.out
    refine ⟨a1, rfl, by have := HA1.out; omega, Kept.refl _, X1, T, X1, Lib.hid ⟨e1, e2, ?_⟩, ?_⟩
    · rcases e3 with e3 | e3
      · exact .inl (by have := HA1.out; omega)
      · refine .inr ⟨e3, ?_⟩
        have := HB.out
        have h2 := HA1.out
        rw [e1, e3, List.append_nil] at this
        omega
    · have := HP.out
      rw [e1, List.append_assoc] at this
      exact this
  case round =>
    clear h0 s1
    obtain ⟨i, rfl, hiN, kp, S, T, X1, hp, hr⟩ := hrel
    by_cases hlt : i < b
    · have d1 : decide ((i : Int) < (b : Int)) = true := decide_eq_true (by omega)
      obtain ⟨eX, hS, hl⟩ := hp.out
      have hl2 : a + X1.length = i := by rcases hl with hl | ⟨_, hl⟩ <;> omega
      have hSl := hS.len
      obtain ⟨x, T1, eT⟩ : ∃ x T1, T = x :: T1 := by
        cases T with
        | nil => exact absurd HB.out (by rw [eX, List.length_append]; simp; omega)
        | cons x T1 => exact ⟨x, T1, rfl⟩
      subst eT
      have KK : Hid (∀ z, z = x ∨ z ∈ S → z ∈ X) := Lib.hid (fun z hz => by
        rw [eX]
        rcases hz with rfl | hz
        · simp
        · exact List.mem_append_left _ ((hS.mem z).1 hz))
      have EX := Lib.hid eX
      have HS := Lib.hid hS
      have HL := Lib.hid hl2
      have hr0 : PRow wr g off (P ++ (S ++ x :: ([] ++ (T1 ++ Q)))) := by simpa using hr
      have l0 : Hid (a + S.length = i) := Lib.hid (by omega)
      have hai : a ≤ i := by omega
      have hsl : i + 1 + T1.length + Q.length = N := by have := HNL.out; rw [eX, List.length_append, List.length_cons] at this; omega
      have HSL := Lib.hid hsl
      have hiN2 : i < N := by omega
      clear hp eX hS hl hl2 hSl hr hsl
      go_wp2
      go_loopw [9] (fun z w2 => ∃ j : Nat, z = .int .i64 (j : Int) ∧ a ≤ j ∧ Kept (fun k => k = g) w w2 ∧ ∃ S1 S2, Hid (S = S1 ++ S2 ∧ a + S1.length = j ∧ ∀ y ∈ S2, R x < R y) ∧ PRow w2 g off (P ++ (S1 ++ x :: (S2 ++ (T1 ++ Q))))) (fun z _ => (intOf z).toNat)
      case atStart => exact ⟨i, rfl, hai, kp, S, [], Lib.hid ⟨by simp, l0.out, fun y hy => by cases hy⟩, hr0⟩
      case round =>
        clear hr0 kp l0
        obtain ⟨j, rfl, haj, kp, S1, S2, hp, hr⟩ := hrel
        by_cases hja : a < j
        · obtain ⟨eS, lS, hgt⟩ := hp.out
          obtain ⟨S3, y, e3⟩ : ∃ S3 y, S1 = S3 ++ [y] := by
            cases hh : S1.reverse with
            | nil =>
              have : S1 = [] := by simpa using hh
              rw [this] at lS
              simp at lS
              omega
            | cons y S4 => exact ⟨S4.reverse, y, by have := congrArg List.reverse hh; simpa using this⟩
          subst e3
          obtain ⟨k, hk⟩ : ∃ k, k = a + S3.length := ⟨_, rfl⟩
          have hjk : j = k + 1 := by rw [← lS, List.length_append, List.length_singleton]; omega
          have HJK := Lib.hid hjk
          have ha9 : a ≤ k := by omega
          have hkj : k < j := by omega
          have hlS : j ≤ i := by have h2 := HS.out.len; have h3 := HL.out; rw [eS] at h2; simp only [List.length_append, List.length_singleton] at h2 lS; omega
          have hjN : j < N := by omega
          have hkN : k < N := by omega
          have eL : P ++ (S3 ++ [y] ++ x :: (S2 ++ (T1 ++ Q))) = (P ++ S3) ++ y :: x :: (S2 ++ (T1 ++ Q)) := by simp
          rw [eL] at hr
          have lC : (P ++ S3).length = k := by rw [List.length_append, HA.out]; omega
          have hyS : y ∈ S := by rw [eS]; simp
          obtain ⟨kx0, kx1, kx2⟩ := HK.out x (KK.out x (.inl rfl))
          obtain ⟨ky0, ky1, ky2⟩ := HK.out y (KK.out y (.inr hyS))
          have hKw := HK.out.kept kp
          have KX : Hid (∀ V, Below wr.heap.size wr V → V.cell? ⟨x, 1, none⟩ = some (.int .i64 (R x))) := Lib.hid (fun V hV => hKw.below hV (KK.out x (.inl rfl)))
          have KY : Hid (∀ V, Below wr.heap.size wr V → V.cell? ⟨y, 1, none⟩ = some (.int .i64 (R y))) := Lib.hid (fun V hV => hKw.below hV (KK.out y (.inr hyS)))
          obtain ⟨cy, cx⟩ := get_twoS (D := []) (E := S2 ++ (T1 ++ Q)) (x := y) (y := x) (j := j) lC (by rw [lC]; simp; omega)
          simp only [List.nil_append] at cx cy
          have CX : Hid (∀ V, Below wr.heap.size wr V → V.cell? ⟨g, off + j, none⟩ = some (.pointer (some ⟨x, 0, none⟩))) := Lib.hid (fun V hV => hr.below hV cx)
          have CY : Hid (∀ V, Below wr.heap.size wr V → V.cell? ⟨g, off + k, none⟩ = some (.pointer (some ⟨y, 0, none⟩))) := Lib.hid (fun V hV => hr.below hV cy)
          have ER : Hid (∀ V, Below wr.heap.size wr V → PRow V g off ((P ++ S3) ++ y :: x :: (S2 ++ (T1 ++ Q)))) := Lib.hid (fun V hV => hr.of_block (hV.block g hr.lt))
          have EKP := Lib.hid kp
          have HG := Lib.hid hgt
          have ES := Lib.hid eS
          have LC := Lib.hid lC
          have LK := Lib.hid hk
          obtain ⟨B, hB⟩ : ∃ B, B = decide (R x < R y) := ⟨_, rfl⟩
          have HBB : Hid (decide (cmpI (R x) (R y) < 0) = B) := Lib.hid (by rw [cmpI_lt, hB])
          have HB2 := Lib.hid hB
          have d5 : decide ((a : Int) < (j : Int)) = true := decide_eq_true (by omega)
          clear hp eS lS hgt hk hjk eL lC hyS kx0 kx1 kx2 ky0 ky1 ky2 hKw cx cy hr kp hB
          go_upto_region 4 with fail
          refine wp_region_held_drew (S := fun w' => Below wr.heap.size wr w') (by kernel_rfl) (Below.refl _ wr).drew (fun hS => ?_)
          refine held_pure (i := 0) (oi := ⟨some 18, _, _, _, _, _⟩) rfl (by kernel_rfl) (by kernel_rfl) (by kernel_rfl) (fun _ _ _ h => h) (by rfl) (v := ?_) (fun w hSw => ?_) hS (fun hS => ?_)
          rotate_left
          · go_simp; try with_reducible rfl
          try go_frame
          refine held_pure (i := 1) (oi := ⟨some 19, _, _, _, _, _⟩) rfl (by kernel_rfl) (by kernel_rfl) (by kernel_rfl) (fun _ _ _ h => h) (by rfl) (v := ?_) (fun w hSw => ?_) hS (fun hS => ?_)
          rotate_left
          · go_simp; try with_reducible rfl
          try go_frame
          refine held_pure (i := 2) (oi := ⟨some 20, _, _, _, _, _⟩) rfl (by kernel_rfl) (by kernel_rfl) (by kernel_rfl) (fun _ _ _ h => h) (by rfl) (v := .bool true) (fun w hSw => by go_simp) hS (fun hS => ?_)
          try go_frame
          refine held_pure (i := 3) (oi := ⟨some 21, _, _, _, _, _⟩) rfl (by kernel_rfl) (by kernel_rfl) (by kernel_rfl) (fun _ _ _ h => h) (by rfl) (v := ?_) (fun w hSw => ?_) hS (fun hS => ?_)
          rotate_left
          · go_simp; try with_reducible rfl
          try go_frame
          refine held_pure (i := 4) (oi := ⟨some 22, _, _, _, _, _⟩) rfl (by kernel_rfl) (by kernel_rfl) (by kernel_rfl) (fun _ _ _ h => h) (by rfl) (v := ?_) (fun w hSw => ?_) hS (fun hS => ?_)
          rotate_left
          · go_simp; try with_reducible rfl
          try go_frame
          refine held_pure (i := 5) (oi := ⟨some 23, _, _, _, _, _⟩) rfl (by kernel_rfl) (by kernel_rfl) (by kernel_rfl) (fun _ _ _ h => h) (by rfl) (v := ?_) (fun w hSw => ?_) hS (fun hS => ?_)
          rotate_left
          · go_simp; try with_reducible rfl
          try go_frame
          refine held_pure (i := 6) (oi := ⟨some 24, _, _, _, _, _⟩) rfl (by kernel_rfl) (by kernel_rfl) (by kernel_rfl) (fun _ _ _ h => h) (by rfl) (v := ?_) (fun w hSw => ?_) hS (fun hS => ?_)
          rotate_left
          · go_simp; try with_reducible rfl
          try go_frame
          refine held_pure (i := 7) (oi := ⟨some 25, _, _, _, _, _⟩) rfl (by kernel_rfl) (by kernel_rfl) (by kernel_rfl) (fun _ _ _ h => h) (by rfl) (fun w hSw => run_idx_pt (i := j) rfl rfl rfl hjN) hS (fun hS => ?_)
          try go_frame
          refine held_pure (i := 8) (oi := ⟨some 26, _, _, _, _, _⟩) rfl (by kernel_rfl) (by kernel_rfl) (by kernel_rfl) (fun _ _ _ h => h) (by rfl) (fun w hSw => run_load_ptW rfl rfl (CX.out _ hSw)) hS (fun hS => ?_)
          try go_frame
          refine held_pure (i := 9) (oi := ⟨some 27, _, _, _, _, _⟩) rfl (by kernel_rfl) (by kernel_rfl) (by kernel_rfl) (fun _ _ _ h => h) (by rfl) (v := ?_) (fun w hSw => ?_) hS (fun hS => ?_)
          rotate_left
          · go_simp; try with_reducible rfl
          try go_frame
          refine held_pure (i := 10) (oi := ⟨some 28, _, _, _, _, _⟩) rfl (by kernel_rfl) (by kernel_rfl) (by kernel_rfl) (fun _ _ _ h => h) (by rfl) (v := ?_) (fun w hSw => ?_) hS (fun hS => ?_)
          rotate_left
          · go_simp; try with_reducible rfl
          try go_frame
          refine held_pure (i := 11) (oi := ⟨some 29, _, _, _, _, _⟩) rfl (by kernel_rfl) (by kernel_rfl) (by kernel_rfl) (fun _ _ _ h => h) (by rfl) (fun w hSw => run_sub_nat (n := 1) rfl rfl rfl (k := k) HJK.out (by omega)) hS (fun hS => ?_)
          try go_frame
          refine held_pure (i := 12) (oi := ⟨some 30, _, _, _, _, _⟩) rfl (by kernel_rfl) (by kernel_rfl) (by kernel_rfl) (fun _ _ _ h => h) (by rfl) (fun w hSw => run_idx_pt (i := k) rfl rfl rfl hkN) hS (fun hS => ?_)
          try go_frame
          refine held_pure (i := 13) (oi := ⟨some 31, _, _, _, _, _⟩) rfl (by kernel_rfl) (by kernel_rfl) (by kernel_rfl) (fun _ _ _ h => h) (by rfl) (fun w hSw => run_load_ptW rfl rfl (CY.out _ hSw)) hS (fun hS => ?_)
          try go_frame
          refine wpAnyH_ready (rs := [14]) (by kernel_rfl) (by simp) (AllReadyH.cons (o := ⟨some 32, _, _, _, _, _⟩) rfl (fun K hK => ?_) AllReadyH.nil)
          rw [if_pos (by rfl)]
          go_simp
          refine (wadv1 (KX.out _ hS) (KY.out _ hS)).mono ?_
          rintro e y14 ⟨rfl, rfl⟩
          show K _ _
          refine hK.out _ _ hS.drew (fun hS => ?_)
          clear hK K
          try go_frame
          refine held_pure (i := 15) (oi := ⟨some 33, _, _, _, _, _⟩) rfl (by kernel_rfl) (by kernel_rfl) (by kernel_rfl) (fun _ _ _ h => h) (by rfl) (v := .bool B) (fun w hSw => by go_simp; first | done | exact congrArg some (congrArg Value.bool HBB.out) | simp [HBB.out]) hS (fun hS => ?_)
          try go_frame
          refine held_pure (i := 16) (oi := ⟨some 34, _, _, _, _, _⟩) rfl (by kernel_rfl) (by kernel_rfl) (by kernel_rfl) (fun _ _ _ h => h) (by rfl) (v := ?_) (fun w hSw => ?_) hS (fun hS => ?_)
          rotate_left
          · go_simp; try with_reducible rfl
          try go_frame
          refine wpAnyH_done (by kernel_rfl) ?_ _
          cases B with
          | true =>
            have E3 : Hid (S = S3 ++ (y :: S2) ∧ a + S3.length = k ∧ ∀ z ∈ y :: S2, R x < R z) := Lib.hid ⟨by rw [ES.out]; simp, LK.out.symm, fun z hz => by
              rcases List.mem_cons.1 hz with rfl | hz
              · exact of_decide_eq_true HB2.out.symm
              · exact HG.out z hz⟩
            have SW := Lib.hid ((ER.out _ hS).swp LC.out HJK.out)
            have KP1 := Lib.hid (EKP.out.then_below hS)
            go_upto_region 6 with fail
            refine wp_region_held_drew (S := fun _ => True) (by kernel_rfl) trivial (fun hS => ?_)
            refine held_pure (i := 0) (oi := ⟨some 37, _, _, _, _, _⟩) rfl (by kernel_rfl) (by kernel_rfl) (by kernel_rfl) (fun _ _ _ h => h) (by rfl) (v := ?_) (fun w hSw => ?_) hS (fun hS => ?_)
            rotate_left
            · go_simp; try with_reducible rfl
            try go_frame
            refine held_pure (i := 1) (oi := ⟨some 38, _, _, _, _, _⟩) rfl (by kernel_rfl) (by kernel_rfl) (by kernel_rfl) (fun _ _ _ h => h) (by rfl) (v := ?_) (fun w hSw => ?_) hS (fun hS => ?_)
            rotate_left
            · go_simp; try with_reducible rfl
            try go_frame
            refine held_pure (i := 2) (oi := ⟨some 39, _, _, _, _, _⟩) rfl (by kernel_rfl) (by kernel_rfl) (by kernel_rfl) (fun _ _ _ h => h) (by rfl) (v := ?_) (fun w hSw => ?_) hS (fun hS => ?_)
            rotate_left
            · go_simp; try with_reducible rfl
            try go_frame
            refine held_pure (i := 3) (oi := ⟨some 40, _, _, _, _, _⟩) rfl (by kernel_rfl) (by kernel_rfl) (by kernel_rfl) (fun _ _ _ h => h) (by rfl) (v := ?_) (fun w hSw => ?_) hS (fun hS => ?_)
            rotate_left
            · go_simp; try with_reducible rfl
            try go_frame
            refine held_pure (i := 4) (oi := ⟨some 41, _, _, _, _, _⟩) rfl (by kernel_rfl) (by kernel_rfl) (by kernel_rfl) (fun _ _ _ h => h) (by rfl) (fun w hSw => run_sub_nat (n := 1) rfl rfl rfl (k := k) HJK.out (by omega)) hS (fun hS => ?_)
            try go_frame
            refine held_pure (i := 5) (oi := ⟨some 42, _, _, _, _, _⟩) rfl (by kernel_rfl) (by kernel_rfl) (by kernel_rfl) (fun _ _ _ h => h) (by rfl) (v := ?_) (fun w hSw => ?_) hS (fun hS => ?_)
            rotate_left
            · go_simp; try with_reducible rfl
            try go_frame
            refine held_pure (i := 6) (oi := ⟨some 43, _, _, _, _, _⟩) rfl (by kernel_rfl) (by kernel_rfl) (by kernel_rfl) (fun _ _ _ h => h) (by rfl) (v := ?_) (fun w hSw => ?_) hS (fun hS => ?_)
            rotate_left
            · go_simp; try with_reducible rfl
            try go_frame
            refine held_pure (i := 7) (oi := ⟨some 44, _, _, _, _, _⟩) rfl (by kernel_rfl) (by kernel_rfl) (by kernel_rfl) (fun _ _ _ h => h) (by rfl) (fun w hSw => run_sub_nat (n := 1) rfl rfl rfl (k := k) HJK.out (by omega)) hS (fun hS => ?_)
            try go_frame
            refine held_pure (i := 8) (oi := ⟨some 45, _, _, _, _, _⟩) rfl (by kernel_rfl) (by kernel_rfl) (by kernel_rfl) (fun _ _ _ h => h) (by rfl) (fun w hSw => run_idx_pt (i := k) rfl rfl rfl hkN) hS (fun hS => ?_)
            try go_frame
            refine held_pure (i := 10) (oi := ⟨some 47, _, _, _, _, _⟩) rfl (by kernel_rfl) (by kernel_rfl) (by kernel_rfl) (fun _ _ _ h => h) (by rfl) (v := ?_) (fun w hSw => ?_) hS (fun hS => ?_)
            rotate_left
            · go_simp; try with_reducible rfl
            try go_frame
            refine held_pure (i := 11) (oi := ⟨some 48, _, _, _, _, _⟩) rfl (by kernel_rfl) (by kernel_rfl) (by kernel_rfl) (fun _ _ _ h => h) (by rfl) (v := ?_) (fun w hSw => ?_) hS (fun hS => ?_)
            rotate_left
            · go_simp; try with_reducible rfl
            try go_frame
            refine held_pure (i := 12) (oi := ⟨some 49, _, _, _, _, _⟩) rfl (by kernel_rfl) (by kernel_rfl) (by kernel_rfl) (fun _ _ _ h => h) (by rfl) (fun w hSw => run_idx_pt (i := j) rfl rfl rfl hjN) hS (fun hS => ?_)
            try go_frame
            refine wpAnyH_ready (rs := [9, 13]) (by kernel_rfl) (by simp) (AllReadyH.cons (o := ⟨some 46, _, _, _, _, _⟩) rfl (fun K hK => ?_) (AllReadyH.cons (o := ⟨some 50, _, _, _, _, _⟩) rfl (fun K hK => ?_) AllReadyH.nil))
            · rw [if_pos (by rfl)]
              refine load_ptW_wp rfl rfl SW.out.1.1 ?_
              refine hK.out _ _ trivial (fun hS => ?_)
              clear hK K
              try go_frame
              refine wpAnyH_ready (rs := [13]) (by kernel_rfl) (by simp) (AllReadyH.cons (o := ⟨some 50, _, _, _, _, _⟩) rfl (fun K hK => ?_) AllReadyH.nil)
              rw [if_pos (by rfl)]
              refine load_ptW_wp rfl rfl SW.out.1.2.1 ?_
              refine hK.out _ _ trivial (fun hS => ?_)
              clear hK K
              try go_frame
              refine held_pure (i := 14) (oi := ⟨some 51, _, _, _, _, _⟩) rfl (by kernel_rfl) (by kernel_rfl) (by kernel_rfl) (fun _ _ _ h => h) (by rfl) (fun w hSw => run_idx_pt (i := j) rfl rfl rfl hjN) hS (fun hS => ?_)
              try go_frame
              refine wpAnyH_ready (rs := [15]) (by kernel_rfl) (by simp) (AllReadyH.cons (o := ⟨none, _, _, _, _, _⟩) rfl (fun K hK => ?_) AllReadyH.nil)
              rw [if_pos (by rfl)]
              refine store_ptW_wp rfl rfl rfl SW.out.1.2.1 SW.out.1.2.2.2 ?_
              refine hK.out _ _ trivial (fun hS => ?_)
              clear hK K
              try go_frame
              refine held_pure (i := 16) (oi := ⟨some 52, _, _, _, _, _⟩) rfl (by kernel_rfl) (by kernel_rfl) (by kernel_rfl) (fun _ _ _ h => h) (by rfl) (fun w hSw => run_idx_pt (i := k) rfl rfl rfl hkN) hS (fun hS => ?_)
              try go_frame
              refine wpAnyH_ready (rs := [17]) (by kernel_rfl) (by simp) (AllReadyH.cons (o := ⟨none, _, _, _, _, _⟩) rfl (fun K hK => ?_) AllReadyH.nil)
              rw [if_pos (by rfl)]
              refine store_ptW_wp rfl rfl rfl SW.out.2.1.1 SW.out.2.1.2.1 ?_
              refine hK.out _ _ trivial (fun hS => ?_)
              clear hK K
              try go_frame
              refine wpAnyH_done (by kernel_rfl) ?_ _
              go_wp2_with fail
              go_roundw
              case rel => exact ⟨k, congrArg (Value.int .i64) (by have := HJK.out; omega), ha9, (KP1.out.trans SW.out.2.1.2.2.2 (fun _ _ e => e)), S3, y :: S2, E3, by rw [show P ++ (S3 ++ x :: (y :: S2 ++ (T1 ++ Q))) = (P ++ S3) ++ x :: y :: (S2 ++ (T1 ++ Q)) by simp]; exact SW.out.2.1.2.2.1⟩
              case measure => simp [intOf]; omega
            · rw [if_pos (by rfl)]
              refine load_ptW_wp rfl rfl SW.out.1.2.1 ?_
              refine hK.out _ _ trivial (fun hS => ?_)
              clear hK K
              try go_frame
              refine wpAnyH_ready (rs := [9]) (by kernel_rfl) (by simp) (AllReadyH.cons (o := ⟨some 46, _, _, _, _, _⟩) rfl (fun K hK => ?_) AllReadyH.nil)
              rw [if_pos (by rfl)]
              refine load_ptW_wp rfl rfl SW.out.1.1 ?_
              refine hK.out _ _ trivial (fun hS => ?_)
              clear hK K
              try go_frame
              refine held_pure (i := 14) (oi := ⟨some 51, _, _, _, _, _⟩) rfl (by kernel_rfl) (by kernel_rfl) (by kernel_rfl) (fun _ _ _ h => h) (by rfl) (fun w hSw => run_idx_pt (i := j) rfl rfl rfl hjN) hS (fun hS => ?_)
              try go_frame
              refine wpAnyH_ready (rs := [15]) (by kernel_rfl) (by simp) (AllReadyH.cons (o := ⟨none, _, _, _, _, _⟩) rfl (fun K hK => ?_) AllReadyH.nil)
              rw [if_pos (by rfl)]
              refine store_ptW_wp rfl rfl rfl SW.out.1.2.1 SW.out.1.2.2.2 ?_
              refine hK.out _ _ trivial (fun hS => ?_)
              clear hK K
              try go_frame
              refine held_pure (i := 16) (oi := ⟨some 52, _, _, _, _, _⟩) rfl (by kernel_rfl) (by kernel_rfl) (by kernel_rfl) (fun _ _ _ h => h) (by rfl) (fun w hSw => run_idx_pt (i := k) rfl rfl rfl hkN) hS (fun hS => ?_)
              try go_frame
              refine wpAnyH_ready (rs := [17]) (by kernel_rfl) (by simp) (AllReadyH.cons (o := ⟨none, _, _, _, _, _⟩) rfl (fun K hK => ?_) AllReadyH.nil)
              rw [if_pos (by rfl)]
              refine store_ptW_wp rfl rfl rfl SW.out.2.1.1 SW.out.2.1.2.1 ?_
              refine hK.out _ _ trivial (fun hS => ?_)
              clear hK K
              try go_frame
              refine wpAnyH_done (by kernel_rfl) ?_ _
              go_wp2_with fail
              go_roundw
              case rel => exact ⟨k, congrArg (Value.int .i64) (by have := HJK.out; omega), ha9, (KP1.out.trans SW.out.2.1.2.2.2 (fun _ _ e => e)), S3, y :: S2, E3, by rw [show P ++ (S3 ++ x :: (y :: S2 ++ (T1 ++ Q))) = (P ++ S3) ++ x :: y :: (S2 ++ (T1 ++ Q)) by simp]; exact SW.out.2.1.2.2.1⟩
              case measure => simp [intOf]; omega
          | false =>
            have PZ : Hid (∃ Z, Stb R Z (X1 ++ [x]) ∧ ∀ V, Below wr.heap.size wr V → PRow V g off (P ++ (Z ++ (T1 ++ Q)))) := Lib.hid (by
              have hS3 := HS.out
              rw [ES.out] at hS3
              have hle : R y ≤ R x := by have := of_decide_eq_false HB2.out.symm; omega
              refine ⟨(S3 ++ [y]) ++ x :: S2, hS3.put (fun z hz => ?_) HG.out, fun V hV => ?_⟩
              · have hA := (List.pairwise_append.1 hS3.1).1
                rcases List.mem_append.1 hz with hz | hz
                · exact Int.le_trans ((List.pairwise_append.1 hA).2.2 z hz y (by simp)) hle
                · rw [List.mem_singleton.1 hz]; exact hle
              · have := ER.out V hV
                simpa using this)
            have s9 : IntKind.i64.wrap ((i : Int) + 1) = ((i + 1 : Nat) : Int) := by rw [IntWalk.i64_in _ (by omega)]; omega
            go_wp2_with fail
            obtain ⟨Z, hZ1, hZ2⟩ := PZ.out
            have hZ2 := hZ2 _ hS
            have EKP2 := EKP.out.then_below hS
            go_roundw
            case rel => exact ⟨i + 1, by simp, by omega, EKP2, Z, T1, X1 ++ [x], Lib.hid ⟨by rw [EX.out]; simp, hZ1, .inl (by rw [List.length_append, List.length_singleton, ← Nat.add_assoc, HL.out])⟩, hZ2⟩
            case measure => simp [intOf]; omega
        · have hja2 : j = a := by omega
          have PZ : Hid (∃ Z, Stb R Z (X1 ++ [x]) ∧ PRow wr.drew g off (P ++ (Z ++ (T1 ++ Q)))) := Lib.hid (by
            obtain ⟨eS, lS, hgt⟩ := hp.out
            have e1 : S1 = [] := List.eq_nil_of_length_eq_zero (by omega)
            subst e1
            have hS := HS.out
            rw [eS] at hS
            exact ⟨[] ++ x :: S2, hS.put (fun y hy => by cases hy) hgt, by simpa using hr.drew⟩)
          have EKP := Lib.hid (kp.trans (Kept.drew (S := fun k => k = g) wr) (fun _ _ e => e))
          clear hp hr kp
          go_upto_region 4 with fail
          refine wp_region_held_drew (S := fun w' => w' = wr.drew) (by kernel_rfl) rfl (fun hS => ?_)
          refine held_pure (i := 0) (oi := ⟨some 18, _, _, _, _, _⟩) rfl (by kernel_rfl) (by kernel_rfl) (by kernel_rfl) (fun _ _ _ h => h) (by rfl) (v := ?_) (fun w hSw => ?_) hS (fun hS => ?_)
          rotate_left
          · go_simp; try with_reducible rfl
          try go_frame
          refine held_pure (i := 1) (oi := ⟨some 19, _, _, _, _, _⟩) rfl (by kernel_rfl) (by kernel_rfl) (by kernel_rfl) (fun _ _ _ h => h) (by rfl) (v := ?_) (fun w hSw => ?_) hS (fun hS => ?_)
          rotate_left
          · go_simp; try with_reducible rfl
          try go_frame
          refine held_pure (i := 2) (oi := ⟨some 20, _, _, _, _, _⟩) rfl (by kernel_rfl) (by kernel_rfl) (by kernel_rfl) (fun _ _ _ h => h) (by rfl) (v := .bool false) (fun w hSw => by go_simp) hS (fun hS => ?_)
          try go_frame
          refine held_pure (i := 3) (oi := ⟨some 21, _, _, _, _, _⟩) rfl (by kernel_rfl) (by kernel_rfl) (by kernel_rfl) (fun _ _ _ h => h) (by rfl) (v := ?_) (fun w hSw => ?_) hS (fun hS => ?_)
          rotate_left
          · go_simp; try with_reducible rfl
          try go_frame
          refine held_skip (i := 4) (oi := ⟨some 22, _, _, _, _, _⟩) rfl (by kernel_rfl) (by kernel_rfl) (by kernel_rfl) (fun _ _ _ h => h) (by rfl) hS (fun hS => ?_)
          try go_frame
          refine held_skip (i := 5) (oi := ⟨some 23, _, _, _, _, _⟩) rfl (by kernel_rfl) (by kernel_rfl) (by kernel_rfl) (fun _ _ _ h => h) (by rfl) hS (fun hS => ?_)
          try go_frame
          refine held_skip (i := 6) (oi := ⟨some 24, _, _, _, _, _⟩) rfl (by kernel_rfl) (by kernel_rfl) (by kernel_rfl) (fun _ _ _ h => h) (by rfl) hS (fun hS => ?_)
          try go_frame
          refine held_skip (i := 7) (oi := ⟨some 25, _, _, _, _, _⟩) rfl (by kernel_rfl) (by kernel_rfl) (by kernel_rfl) (fun _ _ _ h => h) (by rfl) hS (fun hS => ?_)
          try go_frame
          refine held_skip (i := 8) (oi := ⟨some 26, _, _, _, _, _⟩) rfl (by kernel_rfl) (by kernel_rfl) (by kernel_rfl) (fun _ _ _ h => h) (by rfl) hS (fun hS => ?_)
          try go_frame
          refine held_skip (i := 9) (oi := ⟨some 27, _, _, _, _, _⟩) rfl (by kernel_rfl) (by kernel_rfl) (by kernel_rfl) (fun _ _ _ h => h) (by rfl) hS (fun hS => ?_)
          try go_frame
          refine held_skip (i := 10) (oi := ⟨some 28, _, _, _, _, _⟩) rfl (by kernel_rfl) (by kernel_rfl) (by kernel_rfl) (fun _ _ _ h => h) (by rfl) hS (fun hS => ?_)
          try go_frame
          refine held_skip (i := 11) (oi := ⟨some 29, _, _, _, _, _⟩) rfl (by kernel_rfl) (by kernel_rfl) (by kernel_rfl) (fun _ _ _ h => h) (by rfl) hS (fun hS => ?_)
          try go_frame
          refine held_skip (i := 12) (oi := ⟨some 30, _, _, _, _, _⟩) rfl (by kernel_rfl) (by kernel_rfl) (by kernel_rfl) (fun _ _ _ h => h) (by rfl) hS (fun hS => ?_)
          try go_frame
          refine held_skip (i := 13) (oi := ⟨some 31, _, _, _, _, _⟩) rfl (by kernel_rfl) (by kernel_rfl) (by kernel_rfl) (fun _ _ _ h => h) (by rfl) hS (fun hS => ?_)
          try go_frame
          refine held_skip (i := 14) (oi := ⟨some 32, _, _, _, _, _⟩) rfl (by kernel_rfl) (by kernel_rfl) (by kernel_rfl) (fun _ _ _ h => h) (by rfl) hS (fun hS => ?_)
          try go_frame
          refine held_skip (i := 15) (oi := ⟨some 33, _, _, _, _, _⟩) rfl (by kernel_rfl) (by kernel_rfl) (by kernel_rfl) (fun _ _ _ h => h) (by rfl) hS (fun hS => ?_)
          try go_frame
          refine held_pure (i := 16) (oi := ⟨some 34, _, _, _, _, _⟩) rfl (by kernel_rfl) (by kernel_rfl) (by kernel_rfl) (fun _ _ _ h => h) (by rfl) (v := ?_) (fun w hSw => ?_) hS (fun hS => ?_)
          rotate_left
          · go_simp; try with_reducible rfl
          try go_frame
          refine wpAnyH_done (by kernel_rfl) ?_ _
          have s9 : IntKind.i64.wrap ((i : Int) + 1) = ((i + 1 : Nat) : Int) := by rw [IntWalk.i64_in _ (by omega)]; omega
          go_wp2_with fail
          obtain ⟨Z, hZ1, hZ2⟩ := PZ.out
          have EKP2 := EKP.out
          go_roundw
          case rel => exact ⟨i + 1, by simp, by omega, EKP2, Z, T1, X1 ++ [x], Lib.hid ⟨by rw [EX.out]; simp, hZ1, .inl (by rw [List.length_append, List.length_singleton, ← Nat.add_assoc, HL.out])⟩, hZ2⟩
          case measure => simp [intOf]; omega
    · have hin : b ≤ i := by omega
      have PZ : Hid (∃ Z, PRow wr g off (P ++ (Z ++ Q)) ∧ Stb R Z X) := Lib.hid (by
        obtain ⟨eX, hS, hl⟩ := hp.out
        have eT : T = [] := by
          rcases hl with hl | ⟨hl, _⟩
          · have := HB.out
            rw [eX, List.length_append] at this
            exact List.eq_nil_of_length_eq_zero (by omega)
          · exact hl
        rw [eT] at hr eX
        rw [List.append_nil] at eX
        rw [eX]
        exact ⟨S, by simpa using hr, hS⟩)
      clear hp hr hin
      go_wp2
      obtain ⟨Z, hZ1, hZ2⟩ := PZ.out
      exact bodyPost_end (results_none rfl _ _ _) rfl ⟨rfl, Z, hZ1, hZ2, kp⟩
end Go.Proofs.Ytjgcpaepaocigaa
