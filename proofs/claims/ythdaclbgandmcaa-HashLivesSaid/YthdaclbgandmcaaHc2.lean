/-
  Contracts and lemmas on which the proofs of this seat stand (several texts in one). Conditions are each theorem's own.
-/
import Derived.Test.YthdaclbgandmcaaHc1

/-
  The document's table of layer 18: Put. Conditions are each theorem's own.
-/
namespace Go.Proofs.Ythdaclbgandmcaa
open Go.RowKit Go.Shelf
/-- An entry put at its place. -/
def insQ : List Ent → Ent → List Ent
  | [], e => [e]
  | x :: l, e => if Op.bytesLess x.key e.key then x :: insQ l e else e :: x :: l
theorem insQ_less {x e : Ent} {l : List Ent} (h : Op.bytesLess x.key e.key = true) : insQ (x :: l) e = x :: insQ l e := by rw [insQ, if_pos h]
theorem insQ_stop {x e : Ent} {l : List Ent} (h : Op.bytesLess x.key e.key = false) : insQ (x :: l) e = e :: x :: l := by rw [insQ, if_neg (by rw [h]; decide)]
theorem insQ_perm (l : List Ent) (e : Ent) : (insQ l e).Perm (e :: l) := by
  induction l with
  | nil => exact List.Perm.refl _
  | cons x l ih =>
    cases h : Op.bytesLess x.key e.key
    · rw [insQ_stop h]
    · rw [insQ_less h]; exact (ih.cons x).trans (List.Perm.swap e x l)
theorem insQ_srt {l : List Ent} {e : Ent} (h : Srt l) (hn : ∀ x ∈ l, x.key ≠ e.key) : Srt (insQ l e) := by
  induction l with
  | nil => exact List.pairwise_singleton _ _
  | cons x l ih =>
    obtain ⟨h1, h2⟩ := List.pairwise_cons.1 h
    cases hb : Op.bytesLess x.key e.key
    · rw [insQ_stop hb]
      rw [bytesLess_eq] at hb
      have hlt : e.key < x.key := str_tri (of_decide_eq_false hb) (hn x (List.mem_cons_self ..))
      refine List.pairwise_cons.2 ⟨fun y hy => ?_, h⟩
      rcases List.mem_cons.1 hy with rfl | hy
      · exact hlt
      · exact List.lt_trans hlt (h1 y hy)
    · rw [insQ_less hb]
      rw [bytesLess_eq] at hb
      have hb : x.key < e.key := of_decide_eq_true hb
      refine List.pairwise_cons.2 ⟨fun y hy => ?_, ih h2 (fun z hz => hn z (List.mem_cons_of_mem _ hz))⟩
      rcases List.mem_cons.1 ((insQ_perm l e).mem_iff.1 hy) with rfl | hy
      · exact hb
      · exact h1 y hy
def cutHr (A : Option Addr) (c k : Nat) : Option Addr := if c = k then A else A.map (·.add (k * 2))
theorem cutHr_none {A : Option Addr} {c k : Nat} (h : A = none → c = 0) : cutHr A c k = none → c - k = 0 := fun e => by
  unfold cutHr at e
  split at e
  · omega
  · cases A with
    | none => have := h rfl; omega
    | some a => cases e
theorem rds_takeE {w : World} {B k : Nat} {A : Option Addr} {l : List Ent} (h : RdS clQ 2 w B A l) : RdS clQ 2 w B A (l.take k) := fun hn => by
  rw [List.length_take] at hn
  obtain ⟨b', off', e, hb, hc⟩ := h (by omega)
  refine ⟨_, _, e, hb, fun j x hx => hc j x ?_⟩
  rw [List.getElem?_take] at hx
  split at hx
  · exact hx
  · cases hx
theorem rds_cutHr {w : World} {B k c : Nat} {A : Option Addr} {l : List Ent} (h : RdS clQ 2 w B A l) (hc : l.length ≤ c) : RdS clQ 2 w B (cutHr A c k) (l.drop k) := fun hn => by
  rw [List.length_drop] at hn
  obtain ⟨b', off', e, hb, hr⟩ := h (by omega)
  refine ⟨b', off' + k * 2, by rw [cutHr, if_neg (by omega), e]; show some (Addr.add ⟨b', off', none⟩ (k * 2)) = _; rw [add_off], hb, fun j x hx => ?_⟩
  rw [List.getElem?_drop] at hx
  have := hr (k + j) x hx
  rwa [show off' + (k + j) * 2 = off' + k * 2 + j * 2 by omega] at this
theorem rds_oneE (w : World) (e : Ent) : RdS clQ 2 (w.alloc (.cells (clQ e).toArray 147)) (w.alloc (.cells (clQ e).toArray 147)).heap.size (some ⟨w.heap.size, 0, none⟩) [e] := fun _ => by
  refine ⟨_, _, rfl, by simp, fun j x hx => ?_⟩
  have hj : j = 0 := by have := (List.getElem?_eq_some_iff.1 hx).1; simpa using this
  subst hj
  simp only [List.getElem?_cons_zero, Option.some.injEq] at hx
  subst hx
  exact range_heap (World.alloc_heap_new w _)
theorem run_load_qs {o : Oper} {a : Act} {w : World} {x : Operand} {p : Addr} {A : Option Addr} {n c : Nat} (ho : o.op = .load 136 x) (hx : a.eval x = .pointer (some p)) (hc : w.cell? p = some (.slice A n c)) :
    (execOp a.eval o).run Try.prog w = .ok (.value (.slice A n c)) w := by
  unfold execOp
  simp only [ho, hx, Instr.loadAt, Instr.sureAddr, Sem.run_bind, Sem.run_pure, Result.andThen_ok]
  go_simp
theorem slice_Q : Try.prog.underlying 136 = some (.slice (Try.prog.elem 136)) := by kernel_rfl
theorem run_cutq_l {o : Oper} {a : Act} {w : World} {x lo : Operand} {A : Option Addr} {n c l m : Nat} (ho : o.op = .slice 136 x (some lo) none none) (hx : a.eval x = .slice A n c) (hl : a.eval lo = .int .i64 (l : Int)) (hn : l ≤ n) (hm : m = n - l) :
    (execOp a.eval o).run Try.prog w = .ok (.value (.slice (cutHr A c l) m (c - l))) w := by
  subst hm
  have h1 := run_slice_l (P := Try.prog) (w := w) 136 A n c slice_Q .i64 (l : Int) (by omega) (by omega)
  unfold execOp
  simp only [ho, hx, hl, Option.map, Sem.run_bind, run_sliceAt_slice _ _ _ _ _ _ slice_Q, h1]
  go_simp
  rfl
theorem run_cutq_h {o : Oper} {a : Act} {w : World} {x hi : Operand} {A : Option Addr} {n c m : Nat} {h : Int} (ho : o.op = .slice 136 x none (some hi) none) (hx : a.eval x = .slice A n c) (hh : a.eval hi = .int .i64 h)
    (h0 : 0 ≤ h) (h2 : h ≤ (c : Int)) (hm : m = h.toNat) :
    (execOp a.eval o).run Try.prog w = .ok (.value (.slice A m c)) w := by
  subst hm
  have h1 := run_slice_h (P := Try.prog) (w := w) 136 A n c slice_Q .i64 h h0 h2
  unfold execOp
  simp only [ho, hx, hh, Option.map, Sem.run_bind, run_sliceAt_slice _ _ _ _ _ _ slice_Q, h1]
  go_simp
section
variable {n : Nat} {o : Oper} {a : Act} {w : World} {K : Act → World → Prop} {Q : Exit → Act → World → Prop}
theorem store_qI {x y : Operand} {p : Addr} {v0 : Value} {A : Option Addr} {m c : Nat} (ho : o.op = .store 136 x y) (hx : a.eval x = .pointer (some p)) (hy : a.eval y = .slice A m c) (hc : w.cell? p = some v0) (hf : w.frozen? p = false)
    (h : K (a.put o.dst undef) (w.setCell p (.slice A m c))) : o.wpIn Fence.wide n Try.prog a w K Q := by
  refine skipI (w' := w.setCell p (.slice A m c)) ?_ h
  unfold execOp
  simp only [ho, hx, hy, Instr.storeAt, Instr.sureAddr, Sem.run_bind, Sem.run_pure, Result.andThen_ok]
  go_simp
theorem append_qI (s x : Operand) (ho : o.op = .call { callee := .builtin .append, args := #[s, x], argTypes := #[136, 136] })
    (base : Nat) (v : Value) (m : Nat) (xs : List Value) (hs : a.eval s = v) (hown : w.ownsRow base 147 2 v m xs)
    (B : Nat) (A : Option Addr) (k c : Nat) (l : List Ent) (hx : a.eval x = .slice A k c) (hk : k = l.length) (hA : A = none → c = 0) (hr : RdS clQ 2 w B A l)
    (hlen : m + k ≤ 1000000) (hbase : base ≤ w.heap.size)
    (h : ∀ v' w', w'.ownsRow base 147 2 v' (m + k) (xs ++ l.flatMap clQ) → w.grownBy w' v.ownBlock → K (a.put o.dst v') w') : o.wpIn Fence.wide n Try.prog a w K Q := by
  obtain ⟨i0, hi, hz0, hz1, hz2⟩ := info_parts info_q
  subst hk
  rcases A with _ | ad
  · have h0 : l = [] := by
      rcases Nat.eq_zero_or_pos l.length with e | e
      · exact List.eq_nil_of_length_eq_zero e
      · obtain ⟨_, _, e', _⟩ := hr e; cases e'
    subst h0
    obtain rfl := hA rfl
    have hrun := run_append_owned_none (P := Try.prog) (w := w) base 136 o.type 147 i0 2 Try.underlying136 hi v m xs hown
    refine growI (v := v) (w' := w) ?_ (h v w (by simpa using hown) (World.grownBy.refl w _))
    simp [execOp, ho, resolve, invoke, builtin, hs, hx, hrun, Result.andThen]
  · obtain ⟨v', w', hrun, h1, h2, _⟩ := run_append_own (P := Try.prog) w base 136 o.type 147 i0 _ 2 24 Try.underlying136 hi hz0 hz1 hz2 rfl (by decide) v m xs hown ad l.length c (l.flatMap clQ)
      (clQ_flat l) (rds_srcQ hr) (ones_Q l) (by unfold maxLen; omega) (by omega) hbase
    refine growI (v := v') (w' := w') ?_ (h v' w' h1 h2)
    simp [execOp, ho, resolve, invoke, builtin, hs, hx, hrun, Result.andThen]
end
section
variable {w : World} {g : Nat} {v : Value} {most : Int} {S : List Ent}
set_option maxRecDepth 100000 in
set_option maxHeartbeats 4000000 in
theorem r18put_full (h : Rq w g v most S) {key : List UInt8} (hn : ∀ y ∈ S, y.key ≠ key) (hm : (S.length : Int) ≥ most) (hS : S.length ≤ 1000) (q : Int) : Calls Try.prog 35 #[.pointer (some ⟨g, 0, none⟩), .string (strB key), .int .i64 q] w fun e w' => e = .returned (.int .i64 7) ∧ Below w.heap.size w w' := by
  obtain ⟨A0, c0, rfl, _, _, _⟩ := h.sh
  have HG := Lib.hid (r18get_no h hn hS)
  obtain ⟨N, hN⟩ : ∃ N, N = S.length := ⟨_, rfl⟩
  have dF : decide (most ≤ (N : Int)) = true := decide_eq_true (by omega)
  rw [← hN] at h
  have H := Lib.hid h
  have HSS := Lib.hid hS
  have HNS : Hid (Rq w g (.slice A0 S.length c0) most S) := Lib.hid (by rw [← hN]; exact h)
  have HT : Hid (∀ V, Below w.heap.size w V → V.heap[g]? = some (.cells #[.slice A0 N c0, .int .i64 most] 138 (0, 0))) := Lib.hid fun V hV => (h.below hV).tab
  clear h hN hn hm
  go_enter Try.func35, Try.ntmps35
  go_upto_region 2 with (go_at_call 39; refine HG.out.mono ?_; rintro e w1 ⟨rfl, x1⟩; have HT1 := Lib.hid (HT.out _ x1); have HGZ := Lib.hid (heap_lt HT1.out))
  refine wp_region_held_drew (S := fun w' => Below w1.heap.size w1 w') (by kernel_rfl) (Below.refl _ _).drew (fun hS => ?_)
  refine held_pure (i := 0) (oi := ⟨some 16, _, _, _, _, _⟩) rfl (by kernel_rfl) (by kernel_rfl) (by kernel_rfl) (fun _ _ _ h => h) (by rfl) (v := ?_) (fun w hSw => ?_) hS (fun hS => ?_)
  rotate_left
  · go_simp; try with_reducible rfl
  try go_frame
  refine held_pure (i := 1) (oi := ⟨some 17, _, _, _, _, _⟩) rfl (by kernel_rfl) (by kernel_rfl) (by kernel_rfl) (fun _ _ _ h => h) (by rfl) (v := ?_) (fun w hSw => ?_) hS (fun hS => ?_)
  rotate_left
  · go_simp; try with_reducible rfl
  try go_frame
  refine held_pure (i := 2) (oi := ⟨some 18, _, _, _, _, _⟩) rfl (by kernel_rfl) (by kernel_rfl) (by kernel_rfl) (fun _ _ _ h => h) (by rfl) (v := ?_) (fun w hSw => ?_) hS (fun hS => ?_)
  rotate_left
  · go_simp; try with_reducible rfl
  try go_frame
  refine held_pure (i := 3) (oi := ⟨some 19, _, _, _, _, _⟩) rfl (by kernel_rfl) (by kernel_rfl) (by kernel_rfl) (fun _ _ _ h => h) (by rfl) (v := ?_) (fun w hSw => ?_) hS (fun hS => ?_)
  rotate_left
  · go_simp; try with_reducible rfl
  try go_frame
  refine held_pure (i := 4) (oi := ⟨some 20, _, _, _, _, _⟩) rfl (by kernel_rfl) (by kernel_rfl) (by kernel_rfl) (fun _ _ _ h => h) (by rfl) (v := ?_) (fun w hSw => ?_) hS (fun hS => ?_)
  rotate_left
  · go_simp; try with_reducible rfl
  try go_frame
  refine held_pure (i := 5) (oi := ⟨some 21, _, _, _, _, _⟩) rfl (by kernel_rfl) (by kernel_rfl) (by kernel_rfl) (fun _ _ _ h => h) (by rfl) (v := ?_) (fun w hSw => ?_) hS (fun hS => ?_)
  rotate_left
  · go_simp; try with_reducible rfl
  try go_frame
  refine held_pure (i := 6) (oi := ⟨some 22, _, _, _, _, _⟩) rfl (by kernel_rfl) (by kernel_rfl) (by kernel_rfl) (fun _ _ _ h => h) (by rfl) (fun w hSw => run_load_qs rfl rfl (cells_at (i := 0) ((hSw.block g HGZ.out).trans HT1.out) rfl)) hS (fun hS => ?_)
  try go_frame
  refine held_pure (i := 7) (oi := ⟨some 23, _, _, _, _, _⟩) rfl (by kernel_rfl) (by kernel_rfl) (by kernel_rfl) (fun _ _ _ h => h) (by rfl) (v := ?_) (fun w hSw => ?_) hS (fun hS => ?_)
  rotate_left
  · go_simp; try with_reducible rfl
  try go_frame
  refine held_pure (i := 8) (oi := ⟨some 24, _, _, _, _, _⟩) rfl (by kernel_rfl) (by kernel_rfl) (by kernel_rfl) (fun _ _ _ h => h) (by rfl) (v := ?_) (fun w hSw => ?_) hS (fun hS => ?_)
  rotate_left
  · go_simp; try with_reducible rfl
  try go_frame
  refine held_pure (i := 9) (oi := ⟨some 25, _, _, _, _, _⟩) rfl (by kernel_rfl) (by kernel_rfl) (by kernel_rfl) (fun _ _ _ h => h) (by rfl) (v := ?_) (fun w hSw => ?_) hS (fun hS => ?_)
  rotate_left
  · go_simp; try with_reducible rfl
  try go_frame
  refine held_pure (i := 10) (oi := ⟨some 26, _, _, _, _, _⟩) rfl (by kernel_rfl) (by kernel_rfl) (by kernel_rfl) (fun _ _ _ h => h) (by rfl) (v := ?_) (fun w hSw => ?_) hS (fun hS => ?_)
  rotate_left
  · go_simp; try with_reducible rfl
  try go_frame
  refine held_pure (i := 11) (oi := ⟨some 27, _, _, _, _, _⟩) rfl (by kernel_rfl) (by kernel_rfl) (by kernel_rfl) (fun _ _ _ h => h) (by rfl) (fun w hSw => run_load_int rfl rfl (cells_at (i := 1) ((hSw.block g HGZ.out).trans HT1.out) rfl)) hS (fun hS => ?_)
  try go_frame
  refine held_pure (i := 12) (oi := ⟨some 28, _, _, _, _, _⟩) rfl (by kernel_rfl) (by kernel_rfl) (by kernel_rfl) (fun _ _ _ h => h) (by rfl) (v := .bool true) (fun w hSw => by go_simp; try exact dF) hS (fun hS => ?_)
  try go_frame
  refine held_pure (i := 13) (oi := ⟨some 29, _, _, _, _, _⟩) rfl (by kernel_rfl) (by kernel_rfl) (by kernel_rfl) (fun _ _ _ h => h) (by rfl) (v := .bool true) (fun w hSw => by go_simp) hS (fun hS => ?_)
  try go_frame
  refine wpAnyH_done (by kernel_rfl) ?_ _
  go_wp2
  refine bodyPost_ret (results_tmp rfl _ _ _) rfl ⟨rfl, x1.drew⟩
set_option maxRecDepth 100000 in
set_option maxHeartbeats 4000000 in
theorem r18put_no (h : Rq w g v most S) {key : List UInt8} (hn : ∀ y ∈ S, y.key ≠ key) (hm : (S.length : Int) < most) (hS : S.length ≤ 1000) (q : Int) : Calls Try.prog 35 #[.pointer (some ⟨g, 0, none⟩), .string (strB key), .int .i64 q] w fun e w' => e = .returned (.int .i64 0) ∧ ∃ v', Rq w' g v' most (insQ (outQ key S) ⟨key, q⟩) ∧ Kept (fun k => k = g) w w' := by
  obtain ⟨A0, c0, rfl, _, _, _⟩ := h.sh
  have HG := Lib.hid (r18get_no h hn hS)
  obtain ⟨N, hN⟩ : ∃ N, N = S.length := ⟨_, rfl⟩
  have dF : decide (most ≤ (N : Int)) = false := decide_eq_false (by omega)
  rw [← hN] at h
  have H := Lib.hid h
  have HSS := Lib.hid hS
  have HNS : Hid (Rq w g (.slice A0 S.length c0) most S) := Lib.hid (by rw [← hN]; exact h)
  have HT : Hid (∀ V, Below w.heap.size w V → V.heap[g]? = some (.cells #[.slice A0 N c0, .int .i64 most] 138 (0, 0))) := Lib.hid fun V hV => (h.below hV).tab
  clear h hN hn hm
  have HFS := Lib.hid (outQ_len (key := key) (S := S))
  have HDL := Lib.hid (fun (V : World) (hV : Rq V g (.slice A0 S.length c0) most S) => r18del hV hS key)
  obtain ⟨FF, hF⟩ : ∃ FF, FF = outQ key S := ⟨_, rfl⟩
  rw [← hF] at HFS ⊢
  have HF := Lib.hid hF
  clear hF
  go_enter Try.func35, Try.ntmps35
  go_upto_region 2 with (go_at_call 39; refine HG.out.mono ?_; rintro e w1 ⟨rfl, x1⟩; have HT1 := Lib.hid (HT.out _ x1); have HGZ := Lib.hid (heap_lt HT1.out))
  refine wp_region_held_drew (S := fun w' => Below w1.heap.size w1 w') (by kernel_rfl) (Below.refl _ _).drew (fun hS => ?_)
  refine held_pure (i := 0) (oi := ⟨some 16, _, _, _, _, _⟩) rfl (by kernel_rfl) (by kernel_rfl) (by kernel_rfl) (fun _ _ _ h => h) (by rfl) (v := ?_) (fun w hSw => ?_) hS (fun hS => ?_)
  rotate_left
  · go_simp; try with_reducible rfl
  try go_frame
  refine held_pure (i := 1) (oi := ⟨some 17, _, _, _, _, _⟩) rfl (by kernel_rfl) (by kernel_rfl) (by kernel_rfl) (fun _ _ _ h => h) (by rfl) (v := ?_) (fun w hSw => ?_) hS (fun hS => ?_)
  rotate_left
  · go_simp; try with_reducible rfl
  try go_frame
  refine held_pure (i := 2) (oi := ⟨some 18, _, _, _, _, _⟩) rfl (by kernel_rfl) (by kernel_rfl) (by kernel_rfl) (fun _ _ _ h => h) (by rfl) (v := ?_) (fun w hSw => ?_) hS (fun hS => ?_)
  rotate_left
  · go_simp; try with_reducible rfl
  try go_frame
  refine held_pure (i := 3) (oi := ⟨some 19, _, _, _, _, _⟩) rfl (by kernel_rfl) (by kernel_rfl) (by kernel_rfl) (fun _ _ _ h => h) (by rfl) (v := ?_) (fun w hSw => ?_) hS (fun hS => ?_)
  rotate_left
  · go_simp; try with_reducible rfl
  try go_frame
  refine held_pure (i := 4) (oi := ⟨some 20, _, _, _, _, _⟩) rfl (by kernel_rfl) (by kernel_rfl) (by kernel_rfl) (fun _ _ _ h => h) (by rfl) (v := ?_) (fun w hSw => ?_) hS (fun hS => ?_)
  rotate_left
  · go_simp; try with_reducible rfl
  try go_frame
  refine held_pure (i := 5) (oi := ⟨some 21, _, _, _, _, _⟩) rfl (by kernel_rfl) (by kernel_rfl) (by kernel_rfl) (fun _ _ _ h => h) (by rfl) (v := ?_) (fun w hSw => ?_) hS (fun hS => ?_)
  rotate_left
  · go_simp; try with_reducible rfl
  try go_frame
  refine held_pure (i := 6) (oi := ⟨some 22, _, _, _, _, _⟩) rfl (by kernel_rfl) (by kernel_rfl) (by kernel_rfl) (fun _ _ _ h => h) (by rfl) (fun w hSw => run_load_qs rfl rfl (cells_at (i := 0) ((hSw.block g HGZ.out).trans HT1.out) rfl)) hS (fun hS => ?_)
  try go_frame
  refine held_pure (i := 7) (oi := ⟨some 23, _, _, _, _, _⟩) rfl (by kernel_rfl) (by kernel_rfl) (by kernel_rfl) (fun _ _ _ h => h) (by rfl) (v := ?_) (fun w hSw => ?_) hS (fun hS => ?_)
  rotate_left
  · go_simp; try with_reducible rfl
  try go_frame
  refine held_pure (i := 8) (oi := ⟨some 24, _, _, _, _, _⟩) rfl (by kernel_rfl) (by kernel_rfl) (by kernel_rfl) (fun _ _ _ h => h) (by rfl) (v := ?_) (fun w hSw => ?_) hS (fun hS => ?_)
  rotate_left
  · go_simp; try with_reducible rfl
  try go_frame
  refine held_pure (i := 9) (oi := ⟨some 25, _, _, _, _, _⟩) rfl (by kernel_rfl) (by kernel_rfl) (by kernel_rfl) (fun _ _ _ h => h) (by rfl) (v := ?_) (fun w hSw => ?_) hS (fun hS => ?_)
  rotate_left
  · go_simp; try with_reducible rfl
  try go_frame
  refine held_pure (i := 10) (oi := ⟨some 26, _, _, _, _, _⟩) rfl (by kernel_rfl) (by kernel_rfl) (by kernel_rfl) (fun _ _ _ h => h) (by rfl) (v := ?_) (fun w hSw => ?_) hS (fun hS => ?_)
  rotate_left
  · go_simp; try with_reducible rfl
  try go_frame
  refine held_pure (i := 11) (oi := ⟨some 27, _, _, _, _, _⟩) rfl (by kernel_rfl) (by kernel_rfl) (by kernel_rfl) (fun _ _ _ h => h) (by rfl) (fun w hSw => run_load_int rfl rfl (cells_at (i := 1) ((hSw.block g HGZ.out).trans HT1.out) rfl)) hS (fun hS => ?_)
  try go_frame
  refine held_pure (i := 12) (oi := ⟨some 28, _, _, _, _, _⟩) rfl (by kernel_rfl) (by kernel_rfl) (by kernel_rfl) (fun _ _ _ h => h) (by rfl) (v := .bool false) (fun w hSw => by go_simp; try exact dF) hS (fun hS => ?_)
  try go_frame
  refine held_pure (i := 13) (oi := ⟨some 29, _, _, _, _, _⟩) rfl (by kernel_rfl) (by kernel_rfl) (by kernel_rfl) (fun _ _ _ h => h) (by rfl) (v := .bool false) (fun w hSw => by go_simp) hS (fun hS => ?_)
  try go_frame
  refine wpAnyH_done (by kernel_rfl) ?_ _
  go_wp2_with (go_at_call 37; refine (HDL.out _ (HNS.out.below x1.drew)).mono ?_; rintro e w2 ⟨rfl, v2, q2, k2⟩; rw [← HF.out] at q2; have HK2 : Hid (Kept (fun k => k = g) w w2) := Lib.hid ((Kept.of_below x1.drew).trans k2 (fun _ _ e => e)); clear k2)
  obtain ⟨A, c, rfl, hrd, hcap, hnn⟩ := q2.sh
  obtain ⟨m, hm⟩ : ∃ m, m = FF.length := ⟨_, rfl⟩
  have HFL := Lib.hid hm
  have HNN := Lib.hid hnn
  have hmS : m ≤ 1000 := by rw [hm]; exact Nat.le_trans HFS.out HSS.out
  rw [← hm] at hcap q2
  have HFR : Hid (∀ {X : World}, Rq X g (.slice A m c) most FF → Rq X g (.slice A FF.length c) most FF) := Lib.hid fun h => by rw [← hm]; exact h
  have H2 := Lib.hid q2
  clear q2 hrd hm hnn
  go_loopw [9] (fun z wr => ∃ k : Nat, k ≤ m ∧ z = .int .i64 (k : Int) ∧ Hid (insQ FF ⟨key, q⟩ = FF.take k ++ insQ (FF.drop k) ⟨key, q⟩) ∧ Below w2.heap.size w2 wr) (fun z _ => m - (intOf z).toNat)
  case atStart => exact ⟨0, Nat.zero_le _, rfl, Lib.hid rfl, Below.refl _ _⟩
  case round =>
    obtain ⟨k, hk, rfl, HE, hbel⟩ := hrel
    have hw := H2.out.below hbel
    have kt : wr.cell? ⟨g, 0, none⟩ = some (.slice A m c) := cells_at (i := 0) hw.tab rfl
    by_cases hkn : k < m
    · obtain ⟨y, hy⟩ : ∃ y, FF[k]? = some y := ⟨_, List.getElem?_eq_getElem (by rw [← HFL.out]; exact hkn)⟩
      obtain ⟨b, rfl, hr⟩ := hw.at_ hy
      have kx0 : wr.cell? ⟨b, k * 2, none⟩ = some (.string (strB y.key)) := by simpa using hr 0 _ rfl
      have HXD : Hid (FF.drop k = y :: FF.drop (k + 1)) := Lib.hid (by
        rw [List.drop_eq_getElem_cons (by rw [← HFL.out]; exact hkn)]
        congr 1
        rw [List.getElem?_eq_getElem (by rw [← HFL.out]; exact hkn)] at hy
        exact Option.some.inj hy)
      have HXT : Hid (FF.take (k + 1) = FF.take k ++ [y]) := Lib.hid (by rw [List.take_add_one, hy]; rfl)
      clear hr hy
      cases e4 : Op.bytesLess y.key key with
      | true =>
        have e5 : Op.bytesLess (strB y.key).toList (strB key).toList = true := by rw [str_list, str_list]; exact e4
        go_wp2
        go_roundw
        case rel => exact ⟨k + 1, by omega, by simp, Lib.hid (by rw [HE.out, HXD.out, insQ_less e4, HXT.out, List.append_assoc]; rfl), hbel⟩
        case measure => simp [intOf]; omega
      | false =>
        have e5 : Op.bytesLess (strB y.key).toList (strB key).toList = false := by rw [str_list, str_list]; exact e4
        have HI : Hid (insQ FF ⟨key, q⟩ = FF.take k ++ (⟨key, q⟩ : Ent) :: FF.drop k) := Lib.hid (by rw [HE.out, HXD.out, insQ_stop e4])
        clear HE e4 HXD HXT
        go_upto_region 8 with fail
        generalize hA0 : (some (⟨b, 0, none⟩ : Addr)) = A at *
        clear hA0
        have HTB := Lib.hid hw.tab
        have hgz := heap_lt hw.tab
        have HKT : Hid (∀ V, Below wr.heap.size wr V → V.cell? ⟨g, 0, none⟩ = some (.slice A m c)) := Lib.hid fun V hV => cells_at (i := 0) ((hV.block g hgz).trans HTB.out) rfl
        have HRD : Hid (RdS clQ 2 wr wr.heap.size A FF) := Lib.hid (by obtain ⟨A3, c3, e3, r3, _, _⟩ := (HFR.out hw).sh; injection e3 with e3; rw [e3]; exact r3)
        have HKW : Hid (Kept (fun k => k = g) w wr) := Lib.hid (HK2.out.then_below hbel)
        clear hw kt hbel
        generalize wr = W at *
        refine regionY 20 (fun w' => Below W.heap.size W w') (by kernel_rfl) ?_
        have b0 : Below W.heap.size W W.drew := (Below.refl _ W).drew
        have hS : Below W.heap.size W W.drew := b0
        generalize W.drew = X0 at *
        refine pureY (i := 0) (oi := ⟨some 54, _, _, _, _, _⟩) rfl (by kernel_rfl) (by kernel_rfl) (by kernel_rfl) (by kernel_rfl) (by kernel_rfl) (fun _ _ _ h => h) (by rfl) (v := ?_) (fun w hSw => ?_) hS ?_
        rotate_left
        · go_simp; try with_reducible rfl
        try go_frame
        refine pureY (i := 1) (oi := ⟨some 55, _, _, _, _, _⟩) rfl (by kernel_rfl) (by kernel_rfl) (by kernel_rfl) (by kernel_rfl) (by kernel_rfl) (fun _ _ _ h => h) (by rfl) (v := ?_) (fun w hSw => ?_) hS ?_
        rotate_left
        · go_simp; try with_reducible rfl
        try go_frame
        refine pureY (i := 2) (oi := ⟨some 56, _, _, _, _, _⟩) rfl (by kernel_rfl) (by kernel_rfl) (by kernel_rfl) (by kernel_rfl) (by kernel_rfl) (fun _ _ _ h => h) (by rfl) (v := ?_) (fun w hSw => ?_) hS ?_
        rotate_left
        · go_simp; try with_reducible rfl
        try go_frame
        refine pureY (i := 3) (oi := ⟨some 57, _, _, _, _, _⟩) rfl (by kernel_rfl) (by kernel_rfl) (by kernel_rfl) (by kernel_rfl) (by kernel_rfl) (fun _ _ _ h => h) (by rfl) (v := ?_) (fun w hSw => ?_) hS ?_
        rotate_left
        · go_simp; try with_reducible rfl
        try go_frame
        refine pureY (i := 4) (oi := ⟨some 58, _, _, _, _, _⟩) rfl (by kernel_rfl) (by kernel_rfl) (by kernel_rfl) (by kernel_rfl) (by kernel_rfl) (fun _ _ _ h => h) (by rfl) (fun w hSw => run_load_qs rfl rfl (HKT.out _ hSw)) hS ?_
        try go_frame
        refine pureY (i := 5) (oi := ⟨some 59, _, _, _, _, _⟩) rfl (by kernel_rfl) (by kernel_rfl) (by kernel_rfl) (by kernel_rfl) (by kernel_rfl) (fun _ _ _ h => h) (by rfl) (v := ?_) (fun w hSw => ?_) hS ?_
        rotate_left
        · go_simp; try with_reducible rfl
        try go_frame
        refine pureY (i := 6) (oi := ⟨some 60, _, _, _, _, _⟩) rfl (by kernel_rfl) (by kernel_rfl) (by kernel_rfl) (by kernel_rfl) (by kernel_rfl) (fun _ _ _ h => h) (by rfl) (fun w hSw => run_cutq_h (h := (k : Int)) rfl rfl rfl (by omega) (by omega) (m := k) (by omega)) hS ?_
        try go_frame
        refine pureY (i := 8) (oi := ⟨some 62, _, _, _, _, _⟩) rfl (by kernel_rfl) (by kernel_rfl) (by kernel_rfl) (by kernel_rfl) (by kernel_rfl) (fun _ _ _ h => h) (by rfl) (v := ?_) (fun w hSw => ?_) hS ?_
        rotate_left
        · go_simp; try with_reducible rfl
        try go_frame
        refine pureY (i := 9) (oi := ⟨some 63, _, _, _, _, _⟩) rfl (by kernel_rfl) (by kernel_rfl) (by kernel_rfl) (by kernel_rfl) (by kernel_rfl) (fun _ _ _ h => h) (by rfl) (v := ?_) (fun w hSw => ?_) hS ?_
        rotate_left
        · go_simp; try with_reducible rfl
        try go_frame
        refine pureY (i := 10) (oi := ⟨some 64, _, _, _, _, _⟩) rfl (by kernel_rfl) (by kernel_rfl) (by kernel_rfl) (by kernel_rfl) (by kernel_rfl) (fun _ _ _ h => h) (by rfl) (v := ?_) (fun w hSw => ?_) hS ?_
        rotate_left
        · go_simp; try with_reducible rfl
        try go_frame
        refine pureY (i := 13) (oi := ⟨some 67, _, _, _, _, _⟩) rfl (by kernel_rfl) (by kernel_rfl) (by kernel_rfl) (by kernel_rfl) (by kernel_rfl) (fun _ _ _ h => h) (by rfl) (v := ?_) (fun w hSw => ?_) hS ?_
        rotate_left
        · go_simp; try with_reducible rfl
        try go_frame
        refine pureY (i := 14) (oi := ⟨some 68, _, _, _, _, _⟩) rfl (by kernel_rfl) (by kernel_rfl) (by kernel_rfl) (by kernel_rfl) (by kernel_rfl) (fun _ _ _ h => h) (by rfl) (v := ?_) (fun w hSw => ?_) hS ?_
        rotate_left
        · go_simp; try with_reducible rfl
        try go_frame
        refine pureY (i := 15) (oi := ⟨some 69, _, _, _, _, _⟩) rfl (by kernel_rfl) (by kernel_rfl) (by kernel_rfl) (by kernel_rfl) (by kernel_rfl) (fun _ _ _ h => h) (by rfl) (v := ?_) (fun w hSw => ?_) hS ?_
        rotate_left
        · go_simp; try with_reducible rfl
        try go_frame
        refine pureY (i := 16) (oi := ⟨some 70, _, _, _, _, _⟩) rfl (by kernel_rfl) (by kernel_rfl) (by kernel_rfl) (by kernel_rfl) (by kernel_rfl) (fun _ _ _ h => h) (by rfl) (fun w hSw => run_load_qs rfl rfl (HKT.out _ hSw)) hS ?_
        try go_frame
        refine pureY (i := 17) (oi := ⟨some 71, _, _, _, _, _⟩) rfl (by kernel_rfl) (by kernel_rfl) (by kernel_rfl) (by kernel_rfl) (by kernel_rfl) (fun _ _ _ h => h) (by rfl) (v := ?_) (fun w hSw => ?_) hS ?_
        rotate_left
        · go_simp; try with_reducible rfl
        try go_frame
        refine pureY (i := 18) (oi := ⟨some 72, _, _, _, _, _⟩) rfl (by kernel_rfl) (by kernel_rfl) (by kernel_rfl) (by kernel_rfl) (by kernel_rfl) (fun _ _ _ h => h) (by rfl) (fun w hSw => run_cutq_l rfl rfl (l := k) rfl (by omega) (m := m - k) rfl) hS ?_
        try go_frame
        refine twoY (i := 7) (j := 11) (oi := ⟨some 61, _, _, _, _, _⟩) (oj := ⟨some 65, _, _, _, _, _⟩) (by kernel_rfl) rfl rfl (by rfl) (by rfl) (fun K hK => ?_) (fun K hK => ?_)
        · refine append_qI _ _ rfl W.heap.size (.slice none 0 0) 0 [] rfl (World.ownsRow_nil _ _ _ _) W.heap.size A k c (FF.take k) rfl (by rw [List.length_take, ← HFL.out]; omega) HNN.out (rds_takeE (HRD.out.below b0)) (by omega) b0.size ?_
          intro v7 w7 own7 grow7
          rw [Nat.zero_add, List.nil_append] at own7
          have x7 := (Below.refl X0.heap.size X0).grown grow7 (Nat.le_refl _) (fun _ hk => by cases hk)
          have b7 := b0.trans (x7.mono b0.size)
          have hS : Below W.heap.size W w7 := b7
          refine hK _ _ (fun _ => hS) ?_
          clear hK K
          try go_frame
          refine oneY (i := 11) (oi := ⟨some 65, _, _, _, _, _⟩) (by kernel_rfl) rfl (by rfl) (fun K hK => ?_)
          refine valGI (run_bsQ (cs := (clQ (⟨key, q⟩ : Ent)).toArray) rfl rfl rfl) ?_
          have b11 := b7.alloc b7.size (.cells (clQ (⟨key, q⟩ : Ent)).toArray 147)
          have one := rds_oneE w7 (⟨key, q⟩ : Ent)
          have own := own7.alloc (.cells (clQ (⟨key, q⟩ : Ent)).toArray 147)
          have hS := b11
          refine hK _ _ (fun _ => hS) ?_
          clear hK K
          generalize w7.alloc (.cells (clQ (⟨key, q⟩ : Ent)).toArray 147) = w11 at *
          obtain ⟨vb, hvb⟩ : ∃ vb, vb = w7.heap.size := ⟨_, rfl⟩
          rw [← hvb] at one ⊢
          clear hvb
          try go_frame
          try go_frame
          refine oneY (i := 12) (oi := ⟨some 66, _, _, _, _, _⟩) (by kernel_rfl) rfl (by rfl) (fun K hK => ?_)
          refine append_qI _ _ rfl W.heap.size v7 k _ rfl own w11.heap.size (some ⟨vb, 0, none⟩) 1 1 [(⟨key, q⟩ : Ent)] rfl rfl (fun e => by cases e) one (by omega) b11.size ?_
          intro v12 w12 own12 grow12
          have b12 := b11.grown grow12 b11.size (fun k hk => own_block_ge own k hk)
          have hS := b12
          refine hK _ _ (fun _ => hS) ?_
          clear hK K
          try go_frame
          try go_frame
          refine oneY (i := 19) (oi := ⟨some 73, _, _, _, _, _⟩) (by kernel_rfl) rfl (by rfl) (fun K hK => ?_)
          refine append_qI _ _ rfl W.heap.size v12 (k + 1) _ rfl own12 W.heap.size (cutHr A c k) (m - k) (c - k) (FF.drop k) rfl (by rw [List.length_drop, ← HFL.out]) (cutHr_none HNN.out) (rds_cutHr (HRD.out.below b12) (by rw [← HFL.out]; exact hcap)) (by omega) b12.size ?_
          intro v19 w19 own19 grow19
          have b19 := b12.grown grow19 b12.size (fun k hk => own_block_ge own12 k hk)
          have hS := b19
          refine hK _ _ (fun _ => hS) ?_
          clear hK K
          try go_frame
          try go_frame
          refine oneY (i := 20) (oi := ⟨some 74, _, _, _, _, _⟩) (by kernel_rfl) rfl (by rfl) (fun K hK => ?_)
          refine valI (v := ?_) ?_ ?_
          rotate_left
          · go_simp; try with_reducible rfl
          refine hK _ _ (fun h => absurd h (by decide)) ?_
          clear hK K
          try go_frame
          refine oneY (i := 21) (oi := ⟨some 75, _, _, _, _, _⟩) (by kernel_rfl) rfl (by rfl) (fun K hK => ?_)
          refine valI (v := ?_) ?_ ?_
          rotate_left
          · go_simp; try with_reducible rfl
          refine hK _ _ (fun h => absurd h (by decide)) ?_
          clear hK K
          try go_frame
          refine oneY (i := 22) (oi := ⟨none, _, _, _, _, _⟩) (by kernel_rfl) rfl (by rfl) (fun K hK => ?_)
          have ht := (b19.block g hgz).trans HTB.out
          have k22 := cells_at (i := 0) ht rfl
          have f22 := heap_frozen ht 0
          have own20 : w19.ownsRow W.heap.size 147 2 v19 (insQ FF ⟨key, q⟩).length ((insQ FF ⟨key, q⟩).flatMap clQ) := by
            have e1 : (insQ FF ⟨key, q⟩).flatMap clQ = (FF.take k).flatMap clQ ++ [(⟨key, q⟩ : Ent)].flatMap clQ ++ (FF.drop k).flatMap clQ := by rw [HI.out, List.flatMap_append, List.flatMap_cons]; simp
            have e2 : (insQ FF ⟨key, q⟩).length = k + 1 + (m - k) := by rw [HI.out, List.length_append, List.length_cons, List.length_take, List.length_drop, ← HFL.out]; omega
            rw [e1, e2]; exact own19
          obtain ⟨A2, c2, e2, _, _⟩ := own_rds own20 rfl rfl (fun x _ => clQ_len x)
          subst e2
          refine store_qI rfl rfl rfl k22 f22 ?_
          refine hK _ _ (fun h => absurd h (by decide)) ?_
          clear hK K
          try go_frame
          try go_frame
          refine doneY (by kernel_rfl) ?_ _
          go_wp2
          refine bodyPost_ret (results_tmp rfl _ _ _) rfl ⟨rfl, _, Rq.put ht own20 rfl, (HKW.out.then_below b19).trans (Kept.setCell w19 g 0 _) (fun _ _ e => e)⟩
        · refine valGI (run_bsQ (cs := (clQ (⟨key, q⟩ : Ent)).toArray) rfl rfl rfl) ?_
          have b11 := b0.alloc b0.size (.cells (clQ (⟨key, q⟩ : Ent)).toArray 147)
          have one := rds_oneE X0 (⟨key, q⟩ : Ent)
          have hS := b11
          refine hK _ _ (fun _ => hS) ?_
          clear hK K
          generalize X0.alloc (.cells (clQ (⟨key, q⟩ : Ent)).toArray 147) = w11 at *
          obtain ⟨vb, hvb⟩ : ∃ vb, vb = X0.heap.size := ⟨_, rfl⟩
          rw [← hvb] at one ⊢
          clear hvb
          try go_frame
          refine oneY (i := 7) (oi := ⟨some 61, _, _, _, _, _⟩) (by kernel_rfl) rfl (by rfl) (fun K hK => ?_)
          refine append_qI _ _ rfl W.heap.size (.slice none 0 0) 0 [] rfl (World.ownsRow_nil _ _ _ _) W.heap.size A k c (FF.take k) rfl (by rw [List.length_take, ← HFL.out]; omega) HNN.out (rds_takeE (HRD.out.below b11)) (by omega) b11.size ?_
          intro v7 w7 own7 grow7
          rw [Nat.zero_add, List.nil_append] at own7
          have x7 := (Below.refl w11.heap.size w11).grown grow7 (Nat.le_refl _) (fun _ hk => by cases hk)
          have b7 := b11.trans (x7.mono b11.size)
          have one7 := (one.below x7).more x7.size
          have hS : Below W.heap.size W w7 := b7
          refine hK _ _ (fun _ => hS) ?_
          clear hK K
          try go_frame
          try go_frame
          refine oneY (i := 12) (oi := ⟨some 66, _, _, _, _, _⟩) (by kernel_rfl) rfl (by rfl) (fun K hK => ?_)
          refine append_qI _ _ rfl W.heap.size v7 k _ rfl own7 w7.heap.size (some ⟨vb, 0, none⟩) 1 1 [(⟨key, q⟩ : Ent)] rfl rfl (fun e => by cases e) one7 (by omega) b7.size ?_
          intro v12 w12 own12 grow12
          have b12 := b7.grown grow12 b7.size (fun k hk => own_block_ge own7 k hk)
          have hS := b12
          refine hK _ _ (fun _ => hS) ?_
          clear hK K
          try go_frame
          try go_frame
          refine oneY (i := 19) (oi := ⟨some 73, _, _, _, _, _⟩) (by kernel_rfl) rfl (by rfl) (fun K hK => ?_)
          refine append_qI _ _ rfl W.heap.size v12 (k + 1) _ rfl own12 W.heap.size (cutHr A c k) (m - k) (c - k) (FF.drop k) rfl (by rw [List.length_drop, ← HFL.out]) (cutHr_none HNN.out) (rds_cutHr (HRD.out.below b12) (by rw [← HFL.out]; exact hcap)) (by omega) b12.size ?_
          intro v19 w19 own19 grow19
          have b19 := b12.grown grow19 b12.size (fun k hk => own_block_ge own12 k hk)
          have hS := b19
          refine hK _ _ (fun _ => hS) ?_
          clear hK K
          try go_frame
          try go_frame
          refine oneY (i := 20) (oi := ⟨some 74, _, _, _, _, _⟩) (by kernel_rfl) rfl (by rfl) (fun K hK => ?_)
          refine valI (v := ?_) ?_ ?_
          rotate_left
          · go_simp; try with_reducible rfl
          refine hK _ _ (fun h => absurd h (by decide)) ?_
          clear hK K
          try go_frame
          refine oneY (i := 21) (oi := ⟨some 75, _, _, _, _, _⟩) (by kernel_rfl) rfl (by rfl) (fun K hK => ?_)
          refine valI (v := ?_) ?_ ?_
          rotate_left
          · go_simp; try with_reducible rfl
          refine hK _ _ (fun h => absurd h (by decide)) ?_
          clear hK K
          try go_frame
          refine oneY (i := 22) (oi := ⟨none, _, _, _, _, _⟩) (by kernel_rfl) rfl (by rfl) (fun K hK => ?_)
          have ht := (b19.block g hgz).trans HTB.out
          have k22 := cells_at (i := 0) ht rfl
          have f22 := heap_frozen ht 0
          have own20 : w19.ownsRow W.heap.size 147 2 v19 (insQ FF ⟨key, q⟩).length ((insQ FF ⟨key, q⟩).flatMap clQ) := by
            have e1 : (insQ FF ⟨key, q⟩).flatMap clQ = (FF.take k).flatMap clQ ++ [(⟨key, q⟩ : Ent)].flatMap clQ ++ (FF.drop k).flatMap clQ := by rw [HI.out, List.flatMap_append, List.flatMap_cons]; simp
            have e2 : (insQ FF ⟨key, q⟩).length = k + 1 + (m - k) := by rw [HI.out, List.length_append, List.length_cons, List.length_take, List.length_drop, ← HFL.out]; omega
            rw [e1, e2]; exact own19
          obtain ⟨A2, c2, e2, _, _⟩ := own_rds own20 rfl rfl (fun x _ => clQ_len x)
          subst e2
          refine store_qI rfl rfl rfl k22 f22 ?_
          refine hK _ _ (fun h => absurd h (by decide)) ?_
          clear hK K
          try go_frame
          try go_frame
          refine doneY (by kernel_rfl) ?_ _
          go_wp2
          refine bodyPost_ret (results_tmp rfl _ _ _) rfl ⟨rfl, _, Rq.put ht own20 rfl, (HKW.out.then_below b19).trans (Kept.setCell w19 g 0 _) (fun _ _ e => e)⟩

    · obtain rfl : m = k := by omega
      have HI : Hid (insQ FF ⟨key, q⟩ = FF.take m ++ (⟨key, q⟩ : Ent) :: FF.drop m) := Lib.hid (by rw [HE.out, List.drop_eq_nil_of_le (by rw [← HFL.out]; exact Nat.le_refl _)]; rfl)
      clear HE
      go_upto_region 8 with fail
      have HTB := Lib.hid hw.tab
      have hgz := heap_lt hw.tab
      have HKT : Hid (∀ V, Below wr.heap.size wr V → V.cell? ⟨g, 0, none⟩ = some (.slice A m c)) := Lib.hid fun V hV => cells_at (i := 0) ((hV.block g hgz).trans HTB.out) rfl
      have HRD : Hid (RdS clQ 2 wr wr.heap.size A FF) := Lib.hid (by obtain ⟨A3, c3, e3, r3, _, _⟩ := (HFR.out hw).sh; injection e3 with e3; rw [e3]; exact r3)
      have HKW : Hid (Kept (fun k => k = g) w wr) := Lib.hid (HK2.out.then_below hbel)
      clear hw kt hbel
      generalize wr = W at *
      refine regionY 20 (fun w' => Below W.heap.size W w') (by kernel_rfl) ?_
      have b0 : Below W.heap.size W W.drew := (Below.refl _ W).drew
      have hS : Below W.heap.size W W.drew := b0
      generalize W.drew = X0 at *
      refine pureY (i := 0) (oi := ⟨some 54, _, _, _, _, _⟩) rfl (by kernel_rfl) (by kernel_rfl) (by kernel_rfl) (by kernel_rfl) (by kernel_rfl) (fun _ _ _ h => h) (by rfl) (v := ?_) (fun w hSw => ?_) hS ?_
      rotate_left
      · go_simp; try with_reducible rfl
      try go_frame
      refine pureY (i := 1) (oi := ⟨some 55, _, _, _, _, _⟩) rfl (by kernel_rfl) (by kernel_rfl) (by kernel_rfl) (by kernel_rfl) (by kernel_rfl) (fun _ _ _ h => h) (by rfl) (v := ?_) (fun w hSw => ?_) hS ?_
      rotate_left
      · go_simp; try with_reducible rfl
      try go_frame
      refine pureY (i := 2) (oi := ⟨some 56, _, _, _, _, _⟩) rfl (by kernel_rfl) (by kernel_rfl) (by kernel_rfl) (by kernel_rfl) (by kernel_rfl) (fun _ _ _ h => h) (by rfl) (v := ?_) (fun w hSw => ?_) hS ?_
      rotate_left
      · go_simp; try with_reducible rfl
      try go_frame
      refine pureY (i := 3) (oi := ⟨some 57, _, _, _, _, _⟩) rfl (by kernel_rfl) (by kernel_rfl) (by kernel_rfl) (by kernel_rfl) (by kernel_rfl) (fun _ _ _ h => h) (by rfl) (v := ?_) (fun w hSw => ?_) hS ?_
      rotate_left
      · go_simp; try with_reducible rfl
      try go_frame
      refine pureY (i := 4) (oi := ⟨some 58, _, _, _, _, _⟩) rfl (by kernel_rfl) (by kernel_rfl) (by kernel_rfl) (by kernel_rfl) (by kernel_rfl) (fun _ _ _ h => h) (by rfl) (fun w hSw => run_load_qs rfl rfl (HKT.out _ hSw)) hS ?_
      try go_frame
      refine pureY (i := 5) (oi := ⟨some 59, _, _, _, _, _⟩) rfl (by kernel_rfl) (by kernel_rfl) (by kernel_rfl) (by kernel_rfl) (by kernel_rfl) (fun _ _ _ h => h) (by rfl) (v := ?_) (fun w hSw => ?_) hS ?_
      rotate_left
      · go_simp; try with_reducible rfl
      try go_frame
      refine pureY (i := 6) (oi := ⟨some 60, _, _, _, _, _⟩) rfl (by kernel_rfl) (by kernel_rfl) (by kernel_rfl) (by kernel_rfl) (by kernel_rfl) (fun _ _ _ h => h) (by rfl) (fun w hSw => run_cutq_h (h := (m : Int)) rfl rfl rfl (by omega) (by omega) (m := m) (by omega)) hS ?_
      try go_frame
      refine pureY (i := 8) (oi := ⟨some 62, _, _, _, _, _⟩) rfl (by kernel_rfl) (by kernel_rfl) (by kernel_rfl) (by kernel_rfl) (by kernel_rfl) (fun _ _ _ h => h) (by rfl) (v := ?_) (fun w hSw => ?_) hS ?_
      rotate_left
      · go_simp; try with_reducible rfl
      try go_frame
      refine pureY (i := 9) (oi := ⟨some 63, _, _, _, _, _⟩) rfl (by kernel_rfl) (by kernel_rfl) (by kernel_rfl) (by kernel_rfl) (by kernel_rfl) (fun _ _ _ h => h) (by rfl) (v := ?_) (fun w hSw => ?_) hS ?_
      rotate_left
      · go_simp; try with_reducible rfl
      try go_frame
      refine pureY (i := 10) (oi := ⟨some 64, _, _, _, _, _⟩) rfl (by kernel_rfl) (by kernel_rfl) (by kernel_rfl) (by kernel_rfl) (by kernel_rfl) (fun _ _ _ h => h) (by rfl) (v := ?_) (fun w hSw => ?_) hS ?_
      rotate_left
      · go_simp; try with_reducible rfl
      try go_frame
      refine pureY (i := 13) (oi := ⟨some 67, _, _, _, _, _⟩) rfl (by kernel_rfl) (by kernel_rfl) (by kernel_rfl) (by kernel_rfl) (by kernel_rfl) (fun _ _ _ h => h) (by rfl) (v := ?_) (fun w hSw => ?_) hS ?_
      rotate_left
      · go_simp; try with_reducible rfl
      try go_frame
      refine pureY (i := 14) (oi := ⟨some 68, _, _, _, _, _⟩) rfl (by kernel_rfl) (by kernel_rfl) (by kernel_rfl) (by kernel_rfl) (by kernel_rfl) (fun _ _ _ h => h) (by rfl) (v := ?_) (fun w hSw => ?_) hS ?_
      rotate_left
      · go_simp; try with_reducible rfl
      try go_frame
      refine pureY (i := 15) (oi := ⟨some 69, _, _, _, _, _⟩) rfl (by kernel_rfl) (by kernel_rfl) (by kernel_rfl) (by kernel_rfl) (by kernel_rfl) (fun _ _ _ h => h) (by rfl) (v := ?_) (fun w hSw => ?_) hS ?_
      rotate_left
      · go_simp; try with_reducible rfl
      try go_frame
      refine pureY (i := 16) (oi := ⟨some 70, _, _, _, _, _⟩) rfl (by kernel_rfl) (by kernel_rfl) (by kernel_rfl) (by kernel_rfl) (by kernel_rfl) (fun _ _ _ h => h) (by rfl) (fun w hSw => run_load_qs rfl rfl (HKT.out _ hSw)) hS ?_
      try go_frame
      refine pureY (i := 17) (oi := ⟨some 71, _, _, _, _, _⟩) rfl (by kernel_rfl) (by kernel_rfl) (by kernel_rfl) (by kernel_rfl) (by kernel_rfl) (fun _ _ _ h => h) (by rfl) (v := ?_) (fun w hSw => ?_) hS ?_
      rotate_left
      · go_simp; try with_reducible rfl
      try go_frame
      refine pureY (i := 18) (oi := ⟨some 72, _, _, _, _, _⟩) rfl (by kernel_rfl) (by kernel_rfl) (by kernel_rfl) (by kernel_rfl) (by kernel_rfl) (fun _ _ _ h => h) (by rfl) (fun w hSw => run_cutq_l rfl rfl (l := m) rfl (by omega) (m := m - m) rfl) hS ?_
      try go_frame
      refine twoY (i := 7) (j := 11) (oi := ⟨some 61, _, _, _, _, _⟩) (oj := ⟨some 65, _, _, _, _, _⟩) (by kernel_rfl) rfl rfl (by rfl) (by rfl) (fun K hK => ?_) (fun K hK => ?_)
      · refine append_qI _ _ rfl W.heap.size (.slice none 0 0) 0 [] rfl (World.ownsRow_nil _ _ _ _) W.heap.size A m c (FF.take m) rfl (by rw [List.length_take, ← HFL.out]; omega) HNN.out (rds_takeE (HRD.out.below b0)) (by omega) b0.size ?_
        intro v7 w7 own7 grow7
        rw [Nat.zero_add, List.nil_append] at own7
        have x7 := (Below.refl X0.heap.size X0).grown grow7 (Nat.le_refl _) (fun _ hk => by cases hk)
        have b7 := b0.trans (x7.mono b0.size)
        have hS : Below W.heap.size W w7 := b7
        refine hK _ _ (fun _ => hS) ?_
        clear hK K
        try go_frame
        refine oneY (i := 11) (oi := ⟨some 65, _, _, _, _, _⟩) (by kernel_rfl) rfl (by rfl) (fun K hK => ?_)
        refine valGI (run_bsQ (cs := (clQ (⟨key, q⟩ : Ent)).toArray) rfl rfl rfl) ?_
        have b11 := b7.alloc b7.size (.cells (clQ (⟨key, q⟩ : Ent)).toArray 147)
        have one := rds_oneE w7 (⟨key, q⟩ : Ent)
        have own := own7.alloc (.cells (clQ (⟨key, q⟩ : Ent)).toArray 147)
        have hS := b11
        refine hK _ _ (fun _ => hS) ?_
        clear hK K
        generalize w7.alloc (.cells (clQ (⟨key, q⟩ : Ent)).toArray 147) = w11 at *
        obtain ⟨vb, hvb⟩ : ∃ vb, vb = w7.heap.size := ⟨_, rfl⟩
        rw [← hvb] at one ⊢
        clear hvb
        try go_frame
        try go_frame
        refine oneY (i := 12) (oi := ⟨some 66, _, _, _, _, _⟩) (by kernel_rfl) rfl (by rfl) (fun K hK => ?_)
        refine append_qI _ _ rfl W.heap.size v7 m _ rfl own w11.heap.size (some ⟨vb, 0, none⟩) 1 1 [(⟨key, q⟩ : Ent)] rfl rfl (fun e => by cases e) one (by omega) b11.size ?_
        intro v12 w12 own12 grow12
        have b12 := b11.grown grow12 b11.size (fun k hk => own_block_ge own k hk)
        have hS := b12
        refine hK _ _ (fun _ => hS) ?_
        clear hK K
        try go_frame
        try go_frame
        refine oneY (i := 19) (oi := ⟨some 73, _, _, _, _, _⟩) (by kernel_rfl) rfl (by rfl) (fun K hK => ?_)
        refine append_qI _ _ rfl W.heap.size v12 (m + 1) _ rfl own12 W.heap.size (cutHr A c m) (m - m) (c - m) (FF.drop m) rfl (by rw [List.length_drop, ← HFL.out]) (cutHr_none HNN.out) (rds_cutHr (HRD.out.below b12) (by rw [← HFL.out]; exact hcap)) (by omega) b12.size ?_
        intro v19 w19 own19 grow19
        have b19 := b12.grown grow19 b12.size (fun k hk => own_block_ge own12 k hk)
        have hS := b19
        refine hK _ _ (fun _ => hS) ?_
        clear hK K
        try go_frame
        try go_frame
        refine oneY (i := 20) (oi := ⟨some 74, _, _, _, _, _⟩) (by kernel_rfl) rfl (by rfl) (fun K hK => ?_)
        refine valI (v := ?_) ?_ ?_
        rotate_left
        · go_simp; try with_reducible rfl
        refine hK _ _ (fun h => absurd h (by decide)) ?_
        clear hK K
        try go_frame
        refine oneY (i := 21) (oi := ⟨some 75, _, _, _, _, _⟩) (by kernel_rfl) rfl (by rfl) (fun K hK => ?_)
        refine valI (v := ?_) ?_ ?_
        rotate_left
        · go_simp; try with_reducible rfl
        refine hK _ _ (fun h => absurd h (by decide)) ?_
        clear hK K
        try go_frame
        refine oneY (i := 22) (oi := ⟨none, _, _, _, _, _⟩) (by kernel_rfl) rfl (by rfl) (fun K hK => ?_)
        have ht := (b19.block g hgz).trans HTB.out
        have k22 := cells_at (i := 0) ht rfl
        have f22 := heap_frozen ht 0
        have own20 : w19.ownsRow W.heap.size 147 2 v19 (insQ FF ⟨key, q⟩).length ((insQ FF ⟨key, q⟩).flatMap clQ) := by
          have e1 : (insQ FF ⟨key, q⟩).flatMap clQ = (FF.take m).flatMap clQ ++ [(⟨key, q⟩ : Ent)].flatMap clQ ++ (FF.drop m).flatMap clQ := by rw [HI.out, List.flatMap_append, List.flatMap_cons]; simp
          have e2 : (insQ FF ⟨key, q⟩).length = m + 1 + (m - m) := by rw [HI.out, List.length_append, List.length_cons, List.length_take, List.length_drop, ← HFL.out]; omega
          rw [e1, e2]; exact own19
        obtain ⟨A2, c2, e2, _, _⟩ := own_rds own20 rfl rfl (fun x _ => clQ_len x)
        subst e2
        refine store_qI rfl rfl rfl k22 f22 ?_
        refine hK _ _ (fun h => absurd h (by decide)) ?_
        clear hK K
        try go_frame
        try go_frame
        refine doneY (by kernel_rfl) ?_ _
        go_wp2
        refine bodyPost_ret (results_tmp rfl _ _ _) rfl ⟨rfl, _, Rq.put ht own20 rfl, (HKW.out.then_below b19).trans (Kept.setCell w19 g 0 _) (fun _ _ e => e)⟩
      · refine valGI (run_bsQ (cs := (clQ (⟨key, q⟩ : Ent)).toArray) rfl rfl rfl) ?_
        have b11 := b0.alloc b0.size (.cells (clQ (⟨key, q⟩ : Ent)).toArray 147)
        have one := rds_oneE X0 (⟨key, q⟩ : Ent)
        have hS := b11
        refine hK _ _ (fun _ => hS) ?_
        clear hK K
        generalize X0.alloc (.cells (clQ (⟨key, q⟩ : Ent)).toArray 147) = w11 at *
        obtain ⟨vb, hvb⟩ : ∃ vb, vb = X0.heap.size := ⟨_, rfl⟩
        rw [← hvb] at one ⊢
        clear hvb
        try go_frame
        refine oneY (i := 7) (oi := ⟨some 61, _, _, _, _, _⟩) (by kernel_rfl) rfl (by rfl) (fun K hK => ?_)
        refine append_qI _ _ rfl W.heap.size (.slice none 0 0) 0 [] rfl (World.ownsRow_nil _ _ _ _) W.heap.size A m c (FF.take m) rfl (by rw [List.length_take, ← HFL.out]; omega) HNN.out (rds_takeE (HRD.out.below b11)) (by omega) b11.size ?_
        intro v7 w7 own7 grow7
        rw [Nat.zero_add, List.nil_append] at own7
        have x7 := (Below.refl w11.heap.size w11).grown grow7 (Nat.le_refl _) (fun _ hk => by cases hk)
        have b7 := b11.trans (x7.mono b11.size)
        have one7 := (one.below x7).more x7.size
        have hS : Below W.heap.size W w7 := b7
        refine hK _ _ (fun _ => hS) ?_
        clear hK K
        try go_frame
        try go_frame
        refine oneY (i := 12) (oi := ⟨some 66, _, _, _, _, _⟩) (by kernel_rfl) rfl (by rfl) (fun K hK => ?_)
        refine append_qI _ _ rfl W.heap.size v7 m _ rfl own7 w7.heap.size (some ⟨vb, 0, none⟩) 1 1 [(⟨key, q⟩ : Ent)] rfl rfl (fun e => by cases e) one7 (by omega) b7.size ?_
        intro v12 w12 own12 grow12
        have b12 := b7.grown grow12 b7.size (fun k hk => own_block_ge own7 k hk)
        have hS := b12
        refine hK _ _ (fun _ => hS) ?_
        clear hK K
        try go_frame
        try go_frame
        refine oneY (i := 19) (oi := ⟨some 73, _, _, _, _, _⟩) (by kernel_rfl) rfl (by rfl) (fun K hK => ?_)
        refine append_qI _ _ rfl W.heap.size v12 (m + 1) _ rfl own12 W.heap.size (cutHr A c m) (m - m) (c - m) (FF.drop m) rfl (by rw [List.length_drop, ← HFL.out]) (cutHr_none HNN.out) (rds_cutHr (HRD.out.below b12) (by rw [← HFL.out]; exact hcap)) (by omega) b12.size ?_
        intro v19 w19 own19 grow19
        have b19 := b12.grown grow19 b12.size (fun k hk => own_block_ge own12 k hk)
        have hS := b19
        refine hK _ _ (fun _ => hS) ?_
        clear hK K
        try go_frame
        try go_frame
        refine oneY (i := 20) (oi := ⟨some 74, _, _, _, _, _⟩) (by kernel_rfl) rfl (by rfl) (fun K hK => ?_)
        refine valI (v := ?_) ?_ ?_
        rotate_left
        · go_simp; try with_reducible rfl
        refine hK _ _ (fun h => absurd h (by decide)) ?_
        clear hK K
        try go_frame
        refine oneY (i := 21) (oi := ⟨some 75, _, _, _, _, _⟩) (by kernel_rfl) rfl (by rfl) (fun K hK => ?_)
        refine valI (v := ?_) ?_ ?_
        rotate_left
        · go_simp; try with_reducible rfl
        refine hK _ _ (fun h => absurd h (by decide)) ?_
        clear hK K
        try go_frame
        refine oneY (i := 22) (oi := ⟨none, _, _, _, _, _⟩) (by kernel_rfl) rfl (by rfl) (fun K hK => ?_)
        have ht := (b19.block g hgz).trans HTB.out
        have k22 := cells_at (i := 0) ht rfl
        have f22 := heap_frozen ht 0
        have own20 : w19.ownsRow W.heap.size 147 2 v19 (insQ FF ⟨key, q⟩).length ((insQ FF ⟨key, q⟩).flatMap clQ) := by
          have e1 : (insQ FF ⟨key, q⟩).flatMap clQ = (FF.take m).flatMap clQ ++ [(⟨key, q⟩ : Ent)].flatMap clQ ++ (FF.drop m).flatMap clQ := by rw [HI.out, List.flatMap_append, List.flatMap_cons]; simp
          have e2 : (insQ FF ⟨key, q⟩).length = m + 1 + (m - m) := by rw [HI.out, List.length_append, List.length_cons, List.length_take, List.length_drop, ← HFL.out]; omega
          rw [e1, e2]; exact own19
        obtain ⟨A2, c2, e2, _, _⟩ := own_rds own20 rfl rfl (fun x _ => clQ_len x)
        subst e2
        refine store_qI rfl rfl rfl k22 f22 ?_
        refine hK _ _ (fun h => absurd h (by decide)) ?_
        clear hK K
        try go_frame
        try go_frame
        refine doneY (by kernel_rfl) ?_ _
        go_wp2
        refine bodyPost_ret (results_tmp rfl _ _ _) rfl ⟨rfl, _, Rq.put ht own20 rfl, (HKW.out.then_below b19).trans (Kept.setCell w19 g 0 _) (fun _ _ e => e)⟩
set_option maxRecDepth 100000 in
set_option maxHeartbeats 4000000 in
theorem r18put_yes (h : Rq w g v most S) {key : List UInt8} {i : Nat} {x : Ent} (hx : S[i]? = some x ∧ x.key = key) (hn : ∀ j y, j < i → S[j]? = some y → y.key ≠ key) (hS : S.length ≤ 1000) (q : Int) : Calls Try.prog 35 #[.pointer (some ⟨g, 0, none⟩), .string (strB key), .int .i64 q] w fun e w' => e = .returned (.int .i64 0) ∧ ∃ v', Rq w' g v' most (insQ (outQ key S) ⟨key, q⟩) ∧ Kept (fun k => k = g) w w' := by
  obtain ⟨A0, c0, rfl, _, _, _⟩ := h.sh
  have HG := Lib.hid (show Calls Try.prog 39 #[.pointer (some ⟨g, 0, none⟩), .string (strB key)] w fun e w' => e = .returned (.tuple #[.int .i64 x.n, .bool true]) ∧ Below w.heap.size w w' from by obtain ⟨hx, rfl⟩ := hx; exact r18get_yes h hx hn hS)
  obtain ⟨N, hN⟩ : ∃ N, N = S.length := ⟨_, rfl⟩
  rw [← hN] at h
  have H := Lib.hid h
  have HSS := Lib.hid hS
  have HNS : Hid (Rq w g (.slice A0 S.length c0) most S) := Lib.hid (by rw [← hN]; exact h)
  have HT : Hid (∀ V, Below w.heap.size w V → V.heap[g]? = some (.cells #[.slice A0 N c0, .int .i64 most] 138 (0, 0))) := Lib.hid fun V hV => (h.below hV).tab
  clear h hN hx hn
  have HFS := Lib.hid (outQ_len (key := key) (S := S))
  have HDL := Lib.hid (fun (V : World) (hV : Rq V g (.slice A0 S.length c0) most S) => r18del hV hS key)
  obtain ⟨FF, hF⟩ : ∃ FF, FF = outQ key S := ⟨_, rfl⟩
  rw [← hF] at HFS ⊢
  have HF := Lib.hid hF
  clear hF
  go_enter Try.func35, Try.ntmps35
  go_upto_region 2 with (go_at_call 39; refine HG.out.mono ?_; rintro e w1 ⟨rfl, x1⟩; have HT1 := Lib.hid (HT.out _ x1); have HGZ := Lib.hid (heap_lt HT1.out))
  refine wp_region_held_drew (S := fun w' => Below w1.heap.size w1 w') (by kernel_rfl) (Below.refl _ _).drew (fun hS => ?_)
  refine held_pure (i := 0) (oi := ⟨some 16, _, _, _, _, _⟩) rfl (by kernel_rfl) (by kernel_rfl) (by kernel_rfl) (fun _ _ _ h => h) (by rfl) (v := ?_) (fun w hSw => ?_) hS (fun hS => ?_)
  rotate_left
  · go_simp; try with_reducible rfl
  try go_frame
  refine held_pure (i := 1) (oi := ⟨some 17, _, _, _, _, _⟩) rfl (by kernel_rfl) (by kernel_rfl) (by kernel_rfl) (fun _ _ _ h => h) (by rfl) (v := .bool false) (fun w hSw => by go_simp) hS (fun hS => ?_)
  try go_frame
  refine held_pure (i := 2) (oi := ⟨some 18, _, _, _, _, _⟩) rfl (by kernel_rfl) (by kernel_rfl) (by kernel_rfl) (fun _ _ _ h => h) (by rfl) (v := ?_) (fun w hSw => ?_) hS (fun hS => ?_)
  rotate_left
  · go_simp; try with_reducible rfl
  try go_frame
  refine held_skip (i := 3) (oi := ⟨some 19, _, _, _, _, _⟩) rfl (by kernel_rfl) (by kernel_rfl) (by kernel_rfl) (fun _ _ _ h => h) (by rfl) hS (fun hS => ?_)
  try go_frame
  refine held_skip (i := 4) (oi := ⟨some 20, _, _, _, _, _⟩) rfl (by kernel_rfl) (by kernel_rfl) (by kernel_rfl) (fun _ _ _ h => h) (by rfl) hS (fun hS => ?_)
  try go_frame
  refine held_skip (i := 5) (oi := ⟨some 21, _, _, _, _, _⟩) rfl (by kernel_rfl) (by kernel_rfl) (by kernel_rfl) (fun _ _ _ h => h) (by rfl) hS (fun hS => ?_)
  try go_frame
  refine held_skip (i := 6) (oi := ⟨some 22, _, _, _, _, _⟩) rfl (by kernel_rfl) (by kernel_rfl) (by kernel_rfl) (fun _ _ _ h => h) (by rfl) hS (fun hS => ?_)
  try go_frame
  refine held_skip (i := 7) (oi := ⟨some 23, _, _, _, _, _⟩) rfl (by kernel_rfl) (by kernel_rfl) (by kernel_rfl) (fun _ _ _ h => h) (by rfl) hS (fun hS => ?_)
  try go_frame
  refine held_skip (i := 8) (oi := ⟨some 24, _, _, _, _, _⟩) rfl (by kernel_rfl) (by kernel_rfl) (by kernel_rfl) (fun _ _ _ h => h) (by rfl) hS (fun hS => ?_)
  try go_frame
  refine held_skip (i := 9) (oi := ⟨some 25, _, _, _, _, _⟩) rfl (by kernel_rfl) (by kernel_rfl) (by kernel_rfl) (fun _ _ _ h => h) (by rfl) hS (fun hS => ?_)
  try go_frame
  refine held_skip (i := 10) (oi := ⟨some 26, _, _, _, _, _⟩) rfl (by kernel_rfl) (by kernel_rfl) (by kernel_rfl) (fun _ _ _ h => h) (by rfl) hS (fun hS => ?_)
  try go_frame
  refine held_skip (i := 11) (oi := ⟨some 27, _, _, _, _, _⟩) rfl (by kernel_rfl) (by kernel_rfl) (by kernel_rfl) (fun _ _ _ h => h) (by rfl) hS (fun hS => ?_)
  try go_frame
  refine held_skip (i := 12) (oi := ⟨some 28, _, _, _, _, _⟩) rfl (by kernel_rfl) (by kernel_rfl) (by kernel_rfl) (fun _ _ _ h => h) (by rfl) hS (fun hS => ?_)
  try go_frame
  refine held_pure (i := 13) (oi := ⟨some 29, _, _, _, _, _⟩) rfl (by kernel_rfl) (by kernel_rfl) (by kernel_rfl) (fun _ _ _ h => h) (by rfl) (v := .bool false) (fun w hSw => by go_simp) hS (fun hS => ?_)
  try go_frame
  refine wpAnyH_done (by kernel_rfl) ?_ _
  go_wp2_with (go_at_call 37; refine (HDL.out _ (HNS.out.below x1.drew)).mono ?_; rintro e w2 ⟨rfl, v2, q2, k2⟩; rw [← HF.out] at q2; have HK2 : Hid (Kept (fun k => k = g) w w2) := Lib.hid ((Kept.of_below x1.drew).trans k2 (fun _ _ e => e)); clear k2)
  obtain ⟨A, c, rfl, hrd, hcap, hnn⟩ := q2.sh
  obtain ⟨m, hm⟩ : ∃ m, m = FF.length := ⟨_, rfl⟩
  have HFL := Lib.hid hm
  have HNN := Lib.hid hnn
  have hmS : m ≤ 1000 := by rw [hm]; exact Nat.le_trans HFS.out HSS.out
  rw [← hm] at hcap q2
  have HFR : Hid (∀ {X : World}, Rq X g (.slice A m c) most FF → Rq X g (.slice A FF.length c) most FF) := Lib.hid fun h => by rw [← hm]; exact h
  have H2 := Lib.hid q2
  clear q2 hrd hm hnn
  go_loopw [9] (fun z wr => ∃ k : Nat, k ≤ m ∧ z = .int .i64 (k : Int) ∧ Hid (insQ FF ⟨key, q⟩ = FF.take k ++ insQ (FF.drop k) ⟨key, q⟩) ∧ Below w2.heap.size w2 wr) (fun z _ => m - (intOf z).toNat)
  case atStart => exact ⟨0, Nat.zero_le _, rfl, Lib.hid rfl, Below.refl _ _⟩
  case round =>
    obtain ⟨k, hk, rfl, HE, hbel⟩ := hrel
    have hw := H2.out.below hbel
    have kt : wr.cell? ⟨g, 0, none⟩ = some (.slice A m c) := cells_at (i := 0) hw.tab rfl
    by_cases hkn : k < m
    · obtain ⟨y, hy⟩ : ∃ y, FF[k]? = some y := ⟨_, List.getElem?_eq_getElem (by rw [← HFL.out]; exact hkn)⟩
      obtain ⟨b, rfl, hr⟩ := hw.at_ hy
      have kx0 : wr.cell? ⟨b, k * 2, none⟩ = some (.string (strB y.key)) := by simpa using hr 0 _ rfl
      have HXD : Hid (FF.drop k = y :: FF.drop (k + 1)) := Lib.hid (by
        rw [List.drop_eq_getElem_cons (by rw [← HFL.out]; exact hkn)]
        congr 1
        rw [List.getElem?_eq_getElem (by rw [← HFL.out]; exact hkn)] at hy
        exact Option.some.inj hy)
      have HXT : Hid (FF.take (k + 1) = FF.take k ++ [y]) := Lib.hid (by rw [List.take_add_one, hy]; rfl)
      clear hr hy
      cases e4 : Op.bytesLess y.key key with
      | true =>
        have e5 : Op.bytesLess (strB y.key).toList (strB key).toList = true := by rw [str_list, str_list]; exact e4
        go_wp2
        go_roundw
        case rel => exact ⟨k + 1, by omega, by simp, Lib.hid (by rw [HE.out, HXD.out, insQ_less e4, HXT.out, List.append_assoc]; rfl), hbel⟩
        case measure => simp [intOf]; omega
      | false =>
        have e5 : Op.bytesLess (strB y.key).toList (strB key).toList = false := by rw [str_list, str_list]; exact e4
        have HI : Hid (insQ FF ⟨key, q⟩ = FF.take k ++ (⟨key, q⟩ : Ent) :: FF.drop k) := Lib.hid (by rw [HE.out, HXD.out, insQ_stop e4])
        clear HE e4 HXD HXT
        go_upto_region 8 with fail
        generalize hA0 : (some (⟨b, 0, none⟩ : Addr)) = A at *
        clear hA0
        have HTB := Lib.hid hw.tab
        have hgz := heap_lt hw.tab
        have HKT : Hid (∀ V, Below wr.heap.size wr V → V.cell? ⟨g, 0, none⟩ = some (.slice A m c)) := Lib.hid fun V hV => cells_at (i := 0) ((hV.block g hgz).trans HTB.out) rfl
        have HRD : Hid (RdS clQ 2 wr wr.heap.size A FF) := Lib.hid (by obtain ⟨A3, c3, e3, r3, _, _⟩ := (HFR.out hw).sh; injection e3 with e3; rw [e3]; exact r3)
        have HKW : Hid (Kept (fun k => k = g) w wr) := Lib.hid (HK2.out.then_below hbel)
        clear hw kt hbel
        generalize wr = W at *
        refine regionY 20 (fun w' => Below W.heap.size W w') (by kernel_rfl) ?_
        have b0 : Below W.heap.size W W.drew := (Below.refl _ W).drew
        have hS : Below W.heap.size W W.drew := b0
        generalize W.drew = X0 at *
        refine pureY (i := 0) (oi := ⟨some 54, _, _, _, _, _⟩) rfl (by kernel_rfl) (by kernel_rfl) (by kernel_rfl) (by kernel_rfl) (by kernel_rfl) (fun _ _ _ h => h) (by rfl) (v := ?_) (fun w hSw => ?_) hS ?_
        rotate_left
        · go_simp; try with_reducible rfl
        try go_frame
        refine pureY (i := 1) (oi := ⟨some 55, _, _, _, _, _⟩) rfl (by kernel_rfl) (by kernel_rfl) (by kernel_rfl) (by kernel_rfl) (by kernel_rfl) (fun _ _ _ h => h) (by rfl) (v := ?_) (fun w hSw => ?_) hS ?_
        rotate_left
        · go_simp; try with_reducible rfl
        try go_frame
        refine pureY (i := 2) (oi := ⟨some 56, _, _, _, _, _⟩) rfl (by kernel_rfl) (by kernel_rfl) (by kernel_rfl) (by kernel_rfl) (by kernel_rfl) (fun _ _ _ h => h) (by rfl) (v := ?_) (fun w hSw => ?_) hS ?_
        rotate_left
        · go_simp; try with_reducible rfl
        try go_frame
        refine pureY (i := 3) (oi := ⟨some 57, _, _, _, _, _⟩) rfl (by kernel_rfl) (by kernel_rfl) (by kernel_rfl) (by kernel_rfl) (by kernel_rfl) (fun _ _ _ h => h) (by rfl) (v := ?_) (fun w hSw => ?_) hS ?_
        rotate_left
        · go_simp; try with_reducible rfl
        try go_frame
        refine pureY (i := 4) (oi := ⟨some 58, _, _, _, _, _⟩) rfl (by kernel_rfl) (by kernel_rfl) (by kernel_rfl) (by kernel_rfl) (by kernel_rfl) (fun _ _ _ h => h) (by rfl) (fun w hSw => run_load_qs rfl rfl (HKT.out _ hSw)) hS ?_
        try go_frame
        refine pureY (i := 5) (oi := ⟨some 59, _, _, _, _, _⟩) rfl (by kernel_rfl) (by kernel_rfl) (by kernel_rfl) (by kernel_rfl) (by kernel_rfl) (fun _ _ _ h => h) (by rfl) (v := ?_) (fun w hSw => ?_) hS ?_
        rotate_left
        · go_simp; try with_reducible rfl
        try go_frame
        refine pureY (i := 6) (oi := ⟨some 60, _, _, _, _, _⟩) rfl (by kernel_rfl) (by kernel_rfl) (by kernel_rfl) (by kernel_rfl) (by kernel_rfl) (fun _ _ _ h => h) (by rfl) (fun w hSw => run_cutq_h (h := (k : Int)) rfl rfl rfl (by omega) (by omega) (m := k) (by omega)) hS ?_
        try go_frame
        refine pureY (i := 8) (oi := ⟨some 62, _, _, _, _, _⟩) rfl (by kernel_rfl) (by kernel_rfl) (by kernel_rfl) (by kernel_rfl) (by kernel_rfl) (fun _ _ _ h => h) (by rfl) (v := ?_) (fun w hSw => ?_) hS ?_
        rotate_left
        · go_simp; try with_reducible rfl
        try go_frame
        refine pureY (i := 9) (oi := ⟨some 63, _, _, _, _, _⟩) rfl (by kernel_rfl) (by kernel_rfl) (by kernel_rfl) (by kernel_rfl) (by kernel_rfl) (fun _ _ _ h => h) (by rfl) (v := ?_) (fun w hSw => ?_) hS ?_
        rotate_left
        · go_simp; try with_reducible rfl
        try go_frame
        refine pureY (i := 10) (oi := ⟨some 64, _, _, _, _, _⟩) rfl (by kernel_rfl) (by kernel_rfl) (by kernel_rfl) (by kernel_rfl) (by kernel_rfl) (fun _ _ _ h => h) (by rfl) (v := ?_) (fun w hSw => ?_) hS ?_
        rotate_left
        · go_simp; try with_reducible rfl
        try go_frame
        refine pureY (i := 13) (oi := ⟨some 67, _, _, _, _, _⟩) rfl (by kernel_rfl) (by kernel_rfl) (by kernel_rfl) (by kernel_rfl) (by kernel_rfl) (fun _ _ _ h => h) (by rfl) (v := ?_) (fun w hSw => ?_) hS ?_
        rotate_left
        · go_simp; try with_reducible rfl
        try go_frame
        refine pureY (i := 14) (oi := ⟨some 68, _, _, _, _, _⟩) rfl (by kernel_rfl) (by kernel_rfl) (by kernel_rfl) (by kernel_rfl) (by kernel_rfl) (fun _ _ _ h => h) (by rfl) (v := ?_) (fun w hSw => ?_) hS ?_
        rotate_left
        · go_simp; try with_reducible rfl
        try go_frame
        refine pureY (i := 15) (oi := ⟨some 69, _, _, _, _, _⟩) rfl (by kernel_rfl) (by kernel_rfl) (by kernel_rfl) (by kernel_rfl) (by kernel_rfl) (fun _ _ _ h => h) (by rfl) (v := ?_) (fun w hSw => ?_) hS ?_
        rotate_left
        · go_simp; try with_reducible rfl
        try go_frame
        refine pureY (i := 16) (oi := ⟨some 70, _, _, _, _, _⟩) rfl (by kernel_rfl) (by kernel_rfl) (by kernel_rfl) (by kernel_rfl) (by kernel_rfl) (fun _ _ _ h => h) (by rfl) (fun w hSw => run_load_qs rfl rfl (HKT.out _ hSw)) hS ?_
        try go_frame
        refine pureY (i := 17) (oi := ⟨some 71, _, _, _, _, _⟩) rfl (by kernel_rfl) (by kernel_rfl) (by kernel_rfl) (by kernel_rfl) (by kernel_rfl) (fun _ _ _ h => h) (by rfl) (v := ?_) (fun w hSw => ?_) hS ?_
        rotate_left
        · go_simp; try with_reducible rfl
        try go_frame
        refine pureY (i := 18) (oi := ⟨some 72, _, _, _, _, _⟩) rfl (by kernel_rfl) (by kernel_rfl) (by kernel_rfl) (by kernel_rfl) (by kernel_rfl) (fun _ _ _ h => h) (by rfl) (fun w hSw => run_cutq_l rfl rfl (l := k) rfl (by omega) (m := m - k) rfl) hS ?_
        try go_frame
        refine twoY (i := 7) (j := 11) (oi := ⟨some 61, _, _, _, _, _⟩) (oj := ⟨some 65, _, _, _, _, _⟩) (by kernel_rfl) rfl rfl (by rfl) (by rfl) (fun K hK => ?_) (fun K hK => ?_)
        · refine append_qI _ _ rfl W.heap.size (.slice none 0 0) 0 [] rfl (World.ownsRow_nil _ _ _ _) W.heap.size A k c (FF.take k) rfl (by rw [List.length_take, ← HFL.out]; omega) HNN.out (rds_takeE (HRD.out.below b0)) (by omega) b0.size ?_
          intro v7 w7 own7 grow7
          rw [Nat.zero_add, List.nil_append] at own7
          have x7 := (Below.refl X0.heap.size X0).grown grow7 (Nat.le_refl _) (fun _ hk => by cases hk)
          have b7 := b0.trans (x7.mono b0.size)
          have hS : Below W.heap.size W w7 := b7
          refine hK _ _ (fun _ => hS) ?_
          clear hK K
          try go_frame
          refine oneY (i := 11) (oi := ⟨some 65, _, _, _, _, _⟩) (by kernel_rfl) rfl (by rfl) (fun K hK => ?_)
          refine valGI (run_bsQ (cs := (clQ (⟨key, q⟩ : Ent)).toArray) rfl rfl rfl) ?_
          have b11 := b7.alloc b7.size (.cells (clQ (⟨key, q⟩ : Ent)).toArray 147)
          have one := rds_oneE w7 (⟨key, q⟩ : Ent)
          have own := own7.alloc (.cells (clQ (⟨key, q⟩ : Ent)).toArray 147)
          have hS := b11
          refine hK _ _ (fun _ => hS) ?_
          clear hK K
          generalize w7.alloc (.cells (clQ (⟨key, q⟩ : Ent)).toArray 147) = w11 at *
          obtain ⟨vb, hvb⟩ : ∃ vb, vb = w7.heap.size := ⟨_, rfl⟩
          rw [← hvb] at one ⊢
          clear hvb
          try go_frame
          try go_frame
          refine oneY (i := 12) (oi := ⟨some 66, _, _, _, _, _⟩) (by kernel_rfl) rfl (by rfl) (fun K hK => ?_)
          refine append_qI _ _ rfl W.heap.size v7 k _ rfl own w11.heap.size (some ⟨vb, 0, none⟩) 1 1 [(⟨key, q⟩ : Ent)] rfl rfl (fun e => by cases e) one (by omega) b11.size ?_
          intro v12 w12 own12 grow12
          have b12 := b11.grown grow12 b11.size (fun k hk => own_block_ge own k hk)
          have hS := b12
          refine hK _ _ (fun _ => hS) ?_
          clear hK K
          try go_frame
          try go_frame
          refine oneY (i := 19) (oi := ⟨some 73, _, _, _, _, _⟩) (by kernel_rfl) rfl (by rfl) (fun K hK => ?_)
          refine append_qI _ _ rfl W.heap.size v12 (k + 1) _ rfl own12 W.heap.size (cutHr A c k) (m - k) (c - k) (FF.drop k) rfl (by rw [List.length_drop, ← HFL.out]) (cutHr_none HNN.out) (rds_cutHr (HRD.out.below b12) (by rw [← HFL.out]; exact hcap)) (by omega) b12.size ?_
          intro v19 w19 own19 grow19
          have b19 := b12.grown grow19 b12.size (fun k hk => own_block_ge own12 k hk)
          have hS := b19
          refine hK _ _ (fun _ => hS) ?_
          clear hK K
          try go_frame
          try go_frame
          refine oneY (i := 20) (oi := ⟨some 74, _, _, _, _, _⟩) (by kernel_rfl) rfl (by rfl) (fun K hK => ?_)
          refine valI (v := ?_) ?_ ?_
          rotate_left
          · go_simp; try with_reducible rfl
          refine hK _ _ (fun h => absurd h (by decide)) ?_
          clear hK K
          try go_frame
          refine oneY (i := 21) (oi := ⟨some 75, _, _, _, _, _⟩) (by kernel_rfl) rfl (by rfl) (fun K hK => ?_)
          refine valI (v := ?_) ?_ ?_
          rotate_left
          · go_simp; try with_reducible rfl
          refine hK _ _ (fun h => absurd h (by decide)) ?_
          clear hK K
          try go_frame
          refine oneY (i := 22) (oi := ⟨none, _, _, _, _, _⟩) (by kernel_rfl) rfl (by rfl) (fun K hK => ?_)
          have ht := (b19.block g hgz).trans HTB.out
          have k22 := cells_at (i := 0) ht rfl
          have f22 := heap_frozen ht 0
          have own20 : w19.ownsRow W.heap.size 147 2 v19 (insQ FF ⟨key, q⟩).length ((insQ FF ⟨key, q⟩).flatMap clQ) := by
            have e1 : (insQ FF ⟨key, q⟩).flatMap clQ = (FF.take k).flatMap clQ ++ [(⟨key, q⟩ : Ent)].flatMap clQ ++ (FF.drop k).flatMap clQ := by rw [HI.out, List.flatMap_append, List.flatMap_cons]; simp
            have e2 : (insQ FF ⟨key, q⟩).length = k + 1 + (m - k) := by rw [HI.out, List.length_append, List.length_cons, List.length_take, List.length_drop, ← HFL.out]; omega
            rw [e1, e2]; exact own19
          obtain ⟨A2, c2, e2, _, _⟩ := own_rds own20 rfl rfl (fun x _ => clQ_len x)
          subst e2
          refine store_qI rfl rfl rfl k22 f22 ?_
          refine hK _ _ (fun h => absurd h (by decide)) ?_
          clear hK K
          try go_frame
          try go_frame
          refine doneY (by kernel_rfl) ?_ _
          go_wp2
          refine bodyPost_ret (results_tmp rfl _ _ _) rfl ⟨rfl, _, Rq.put ht own20 rfl, (HKW.out.then_below b19).trans (Kept.setCell w19 g 0 _) (fun _ _ e => e)⟩
        · refine valGI (run_bsQ (cs := (clQ (⟨key, q⟩ : Ent)).toArray) rfl rfl rfl) ?_
          have b11 := b0.alloc b0.size (.cells (clQ (⟨key, q⟩ : Ent)).toArray 147)
          have one := rds_oneE X0 (⟨key, q⟩ : Ent)
          have hS := b11
          refine hK _ _ (fun _ => hS) ?_
          clear hK K
          generalize X0.alloc (.cells (clQ (⟨key, q⟩ : Ent)).toArray 147) = w11 at *
          obtain ⟨vb, hvb⟩ : ∃ vb, vb = X0.heap.size := ⟨_, rfl⟩
          rw [← hvb] at one ⊢
          clear hvb
          try go_frame
          refine oneY (i := 7) (oi := ⟨some 61, _, _, _, _, _⟩) (by kernel_rfl) rfl (by rfl) (fun K hK => ?_)
          refine append_qI _ _ rfl W.heap.size (.slice none 0 0) 0 [] rfl (World.ownsRow_nil _ _ _ _) W.heap.size A k c (FF.take k) rfl (by rw [List.length_take, ← HFL.out]; omega) HNN.out (rds_takeE (HRD.out.below b11)) (by omega) b11.size ?_
          intro v7 w7 own7 grow7
          rw [Nat.zero_add, List.nil_append] at own7
          have x7 := (Below.refl w11.heap.size w11).grown grow7 (Nat.le_refl _) (fun _ hk => by cases hk)
          have b7 := b11.trans (x7.mono b11.size)
          have one7 := (one.below x7).more x7.size
          have hS : Below W.heap.size W w7 := b7
          refine hK _ _ (fun _ => hS) ?_
          clear hK K
          try go_frame
          try go_frame
          refine oneY (i := 12) (oi := ⟨some 66, _, _, _, _, _⟩) (by kernel_rfl) rfl (by rfl) (fun K hK => ?_)
          refine append_qI _ _ rfl W.heap.size v7 k _ rfl own7 w7.heap.size (some ⟨vb, 0, none⟩) 1 1 [(⟨key, q⟩ : Ent)] rfl rfl (fun e => by cases e) one7 (by omega) b7.size ?_
          intro v12 w12 own12 grow12
          have b12 := b7.grown grow12 b7.size (fun k hk => own_block_ge own7 k hk)
          have hS := b12
          refine hK _ _ (fun _ => hS) ?_
          clear hK K
          try go_frame
          try go_frame
          refine oneY (i := 19) (oi := ⟨some 73, _, _, _, _, _⟩) (by kernel_rfl) rfl (by rfl) (fun K hK => ?_)
          refine append_qI _ _ rfl W.heap.size v12 (k + 1) _ rfl own12 W.heap.size (cutHr A c k) (m - k) (c - k) (FF.drop k) rfl (by rw [List.length_drop, ← HFL.out]) (cutHr_none HNN.out) (rds_cutHr (HRD.out.below b12) (by rw [← HFL.out]; exact hcap)) (by omega) b12.size ?_
          intro v19 w19 own19 grow19
          have b19 := b12.grown grow19 b12.size (fun k hk => own_block_ge own12 k hk)
          have hS := b19
          refine hK _ _ (fun _ => hS) ?_
          clear hK K
          try go_frame
          try go_frame
          refine oneY (i := 20) (oi := ⟨some 74, _, _, _, _, _⟩) (by kernel_rfl) rfl (by rfl) (fun K hK => ?_)
          refine valI (v := ?_) ?_ ?_
          rotate_left
          · go_simp; try with_reducible rfl
          refine hK _ _ (fun h => absurd h (by decide)) ?_
          clear hK K
          try go_frame
          refine oneY (i := 21) (oi := ⟨some 75, _, _, _, _, _⟩) (by kernel_rfl) rfl (by rfl) (fun K hK => ?_)
          refine valI (v := ?_) ?_ ?_
          rotate_left
          · go_simp; try with_reducible rfl
          refine hK _ _ (fun h => absurd h (by decide)) ?_
          clear hK K
          try go_frame
          refine oneY (i := 22) (oi := ⟨none, _, _, _, _, _⟩) (by kernel_rfl) rfl (by rfl) (fun K hK => ?_)
          have ht := (b19.block g hgz).trans HTB.out
          have k22 := cells_at (i := 0) ht rfl
          have f22 := heap_frozen ht 0
          have own20 : w19.ownsRow W.heap.size 147 2 v19 (insQ FF ⟨key, q⟩).length ((insQ FF ⟨key, q⟩).flatMap clQ) := by
            have e1 : (insQ FF ⟨key, q⟩).flatMap clQ = (FF.take k).flatMap clQ ++ [(⟨key, q⟩ : Ent)].flatMap clQ ++ (FF.drop k).flatMap clQ := by rw [HI.out, List.flatMap_append, List.flatMap_cons]; simp
            have e2 : (insQ FF ⟨key, q⟩).length = k + 1 + (m - k) := by rw [HI.out, List.length_append, List.length_cons, List.length_take, List.length_drop, ← HFL.out]; omega
            rw [e1, e2]; exact own19
          obtain ⟨A2, c2, e2, _, _⟩ := own_rds own20 rfl rfl (fun x _ => clQ_len x)
          subst e2
          refine store_qI rfl rfl rfl k22 f22 ?_
          refine hK _ _ (fun h => absurd h (by decide)) ?_
          clear hK K
          try go_frame
          try go_frame
          refine doneY (by kernel_rfl) ?_ _
          go_wp2
          refine bodyPost_ret (results_tmp rfl _ _ _) rfl ⟨rfl, _, Rq.put ht own20 rfl, (HKW.out.then_below b19).trans (Kept.setCell w19 g 0 _) (fun _ _ e => e)⟩

    · obtain rfl : m = k := by omega
      have HI : Hid (insQ FF ⟨key, q⟩ = FF.take m ++ (⟨key, q⟩ : Ent) :: FF.drop m) := Lib.hid (by rw [HE.out, List.drop_eq_nil_of_le (by rw [← HFL.out]; exact Nat.le_refl _)]; rfl)
      clear HE
      go_upto_region 8 with fail
      have HTB := Lib.hid hw.tab
      have hgz := heap_lt hw.tab
      have HKT : Hid (∀ V, Below wr.heap.size wr V → V.cell? ⟨g, 0, none⟩ = some (.slice A m c)) := Lib.hid fun V hV => cells_at (i := 0) ((hV.block g hgz).trans HTB.out) rfl
      have HRD : Hid (RdS clQ 2 wr wr.heap.size A FF) := Lib.hid (by obtain ⟨A3, c3, e3, r3, _, _⟩ := (HFR.out hw).sh; injection e3 with e3; rw [e3]; exact r3)
      have HKW : Hid (Kept (fun k => k = g) w wr) := Lib.hid (HK2.out.then_below hbel)
      clear hw kt hbel
      generalize wr = W at *
      refine regionY 20 (fun w' => Below W.heap.size W w') (by kernel_rfl) ?_
      have b0 : Below W.heap.size W W.drew := (Below.refl _ W).drew
      have hS : Below W.heap.size W W.drew := b0
      generalize W.drew = X0 at *
      refine pureY (i := 0) (oi := ⟨some 54, _, _, _, _, _⟩) rfl (by kernel_rfl) (by kernel_rfl) (by kernel_rfl) (by kernel_rfl) (by kernel_rfl) (fun _ _ _ h => h) (by rfl) (v := ?_) (fun w hSw => ?_) hS ?_
      rotate_left
      · go_simp; try with_reducible rfl
      try go_frame
      refine pureY (i := 1) (oi := ⟨some 55, _, _, _, _, _⟩) rfl (by kernel_rfl) (by kernel_rfl) (by kernel_rfl) (by kernel_rfl) (by kernel_rfl) (fun _ _ _ h => h) (by rfl) (v := ?_) (fun w hSw => ?_) hS ?_
      rotate_left
      · go_simp; try with_reducible rfl
      try go_frame
      refine pureY (i := 2) (oi := ⟨some 56, _, _, _, _, _⟩) rfl (by kernel_rfl) (by kernel_rfl) (by kernel_rfl) (by kernel_rfl) (by kernel_rfl) (fun _ _ _ h => h) (by rfl) (v := ?_) (fun w hSw => ?_) hS ?_
      rotate_left
      · go_simp; try with_reducible rfl
      try go_frame
      refine pureY (i := 3) (oi := ⟨some 57, _, _, _, _, _⟩) rfl (by kernel_rfl) (by kernel_rfl) (by kernel_rfl) (by kernel_rfl) (by kernel_rfl) (fun _ _ _ h => h) (by rfl) (v := ?_) (fun w hSw => ?_) hS ?_
      rotate_left
      · go_simp; try with_reducible rfl
      try go_frame
      refine pureY (i := 4) (oi := ⟨some 58, _, _, _, _, _⟩) rfl (by kernel_rfl) (by kernel_rfl) (by kernel_rfl) (by kernel_rfl) (by kernel_rfl) (fun _ _ _ h => h) (by rfl) (fun w hSw => run_load_qs rfl rfl (HKT.out _ hSw)) hS ?_
      try go_frame
      refine pureY (i := 5) (oi := ⟨some 59, _, _, _, _, _⟩) rfl (by kernel_rfl) (by kernel_rfl) (by kernel_rfl) (by kernel_rfl) (by kernel_rfl) (fun _ _ _ h => h) (by rfl) (v := ?_) (fun w hSw => ?_) hS ?_
      rotate_left
      · go_simp; try with_reducible rfl
      try go_frame
      refine pureY (i := 6) (oi := ⟨some 60, _, _, _, _, _⟩) rfl (by kernel_rfl) (by kernel_rfl) (by kernel_rfl) (by kernel_rfl) (by kernel_rfl) (fun _ _ _ h => h) (by rfl) (fun w hSw => run_cutq_h (h := (m : Int)) rfl rfl rfl (by omega) (by omega) (m := m) (by omega)) hS ?_
      try go_frame
      refine pureY (i := 8) (oi := ⟨some 62, _, _, _, _, _⟩) rfl (by kernel_rfl) (by kernel_rfl) (by kernel_rfl) (by kernel_rfl) (by kernel_rfl) (fun _ _ _ h => h) (by rfl) (v := ?_) (fun w hSw => ?_) hS ?_
      rotate_left
      · go_simp; try with_reducible rfl
      try go_frame
      refine pureY (i := 9) (oi := ⟨some 63, _, _, _, _, _⟩) rfl (by kernel_rfl) (by kernel_rfl) (by kernel_rfl) (by kernel_rfl) (by kernel_rfl) (fun _ _ _ h => h) (by rfl) (v := ?_) (fun w hSw => ?_) hS ?_
      rotate_left
      · go_simp; try with_reducible rfl
      try go_frame
      refine pureY (i := 10) (oi := ⟨some 64, _, _, _, _, _⟩) rfl (by kernel_rfl) (by kernel_rfl) (by kernel_rfl) (by kernel_rfl) (by kernel_rfl) (fun _ _ _ h => h) (by rfl) (v := ?_) (fun w hSw => ?_) hS ?_
      rotate_left
      · go_simp; try with_reducible rfl
      try go_frame
      refine pureY (i := 13) (oi := ⟨some 67, _, _, _, _, _⟩) rfl (by kernel_rfl) (by kernel_rfl) (by kernel_rfl) (by kernel_rfl) (by kernel_rfl) (fun _ _ _ h => h) (by rfl) (v := ?_) (fun w hSw => ?_) hS ?_
      rotate_left
      · go_simp; try with_reducible rfl
      try go_frame
      refine pureY (i := 14) (oi := ⟨some 68, _, _, _, _, _⟩) rfl (by kernel_rfl) (by kernel_rfl) (by kernel_rfl) (by kernel_rfl) (by kernel_rfl) (fun _ _ _ h => h) (by rfl) (v := ?_) (fun w hSw => ?_) hS ?_
      rotate_left
      · go_simp; try with_reducible rfl
      try go_frame
      refine pureY (i := 15) (oi := ⟨some 69, _, _, _, _, _⟩) rfl (by kernel_rfl) (by kernel_rfl) (by kernel_rfl) (by kernel_rfl) (by kernel_rfl) (fun _ _ _ h => h) (by rfl) (v := ?_) (fun w hSw => ?_) hS ?_
      rotate_left
      · go_simp; try with_reducible rfl
      try go_frame
      refine pureY (i := 16) (oi := ⟨some 70, _, _, _, _, _⟩) rfl (by kernel_rfl) (by kernel_rfl) (by kernel_rfl) (by kernel_rfl) (by kernel_rfl) (fun _ _ _ h => h) (by rfl) (fun w hSw => run_load_qs rfl rfl (HKT.out _ hSw)) hS ?_
      try go_frame
      refine pureY (i := 17) (oi := ⟨some 71, _, _, _, _, _⟩) rfl (by kernel_rfl) (by kernel_rfl) (by kernel_rfl) (by kernel_rfl) (by kernel_rfl) (fun _ _ _ h => h) (by rfl) (v := ?_) (fun w hSw => ?_) hS ?_
      rotate_left
      · go_simp; try with_reducible rfl
      try go_frame
      refine pureY (i := 18) (oi := ⟨some 72, _, _, _, _, _⟩) rfl (by kernel_rfl) (by kernel_rfl) (by kernel_rfl) (by kernel_rfl) (by kernel_rfl) (fun _ _ _ h => h) (by rfl) (fun w hSw => run_cutq_l rfl rfl (l := m) rfl (by omega) (m := m - m) rfl) hS ?_
      try go_frame
      refine twoY (i := 7) (j := 11) (oi := ⟨some 61, _, _, _, _, _⟩) (oj := ⟨some 65, _, _, _, _, _⟩) (by kernel_rfl) rfl rfl (by rfl) (by rfl) (fun K hK => ?_) (fun K hK => ?_)
      · refine append_qI _ _ rfl W.heap.size (.slice none 0 0) 0 [] rfl (World.ownsRow_nil _ _ _ _) W.heap.size A m c (FF.take m) rfl (by rw [List.length_take, ← HFL.out]; omega) HNN.out (rds_takeE (HRD.out.below b0)) (by omega) b0.size ?_
        intro v7 w7 own7 grow7
        rw [Nat.zero_add, List.nil_append] at own7
        have x7 := (Below.refl X0.heap.size X0).grown grow7 (Nat.le_refl _) (fun _ hk => by cases hk)
        have b7 := b0.trans (x7.mono b0.size)
        have hS : Below W.heap.size W w7 := b7
        refine hK _ _ (fun _ => hS) ?_
        clear hK K
        try go_frame
        refine oneY (i := 11) (oi := ⟨some 65, _, _, _, _, _⟩) (by kernel_rfl) rfl (by rfl) (fun K hK => ?_)
        refine valGI (run_bsQ (cs := (clQ (⟨key, q⟩ : Ent)).toArray) rfl rfl rfl) ?_
        have b11 := b7.alloc b7.size (.cells (clQ (⟨key, q⟩ : Ent)).toArray 147)
        have one := rds_oneE w7 (⟨key, q⟩ : Ent)
        have own := own7.alloc (.cells (clQ (⟨key, q⟩ : Ent)).toArray 147)
        have hS := b11
        refine hK _ _ (fun _ => hS) ?_
        clear hK K
        generalize w7.alloc (.cells (clQ (⟨key, q⟩ : Ent)).toArray 147) = w11 at *
        obtain ⟨vb, hvb⟩ : ∃ vb, vb = w7.heap.size := ⟨_, rfl⟩
        rw [← hvb] at one ⊢
        clear hvb
        try go_frame
        try go_frame
        refine oneY (i := 12) (oi := ⟨some 66, _, _, _, _, _⟩) (by kernel_rfl) rfl (by rfl) (fun K hK => ?_)
        refine append_qI _ _ rfl W.heap.size v7 m _ rfl own w11.heap.size (some ⟨vb, 0, none⟩) 1 1 [(⟨key, q⟩ : Ent)] rfl rfl (fun e => by cases e) one (by omega) b11.size ?_
        intro v12 w12 own12 grow12
        have b12 := b11.grown grow12 b11.size (fun k hk => own_block_ge own k hk)
        have hS := b12
        refine hK _ _ (fun _ => hS) ?_
        clear hK K
        try go_frame
        try go_frame
        refine oneY (i := 19) (oi := ⟨some 73, _, _, _, _, _⟩) (by kernel_rfl) rfl (by rfl) (fun K hK => ?_)
        refine append_qI _ _ rfl W.heap.size v12 (m + 1) _ rfl own12 W.heap.size (cutHr A c m) (m - m) (c - m) (FF.drop m) rfl (by rw [List.length_drop, ← HFL.out]) (cutHr_none HNN.out) (rds_cutHr (HRD.out.below b12) (by rw [← HFL.out]; exact hcap)) (by omega) b12.size ?_
        intro v19 w19 own19 grow19
        have b19 := b12.grown grow19 b12.size (fun k hk => own_block_ge own12 k hk)
        have hS := b19
        refine hK _ _ (fun _ => hS) ?_
        clear hK K
        try go_frame
        try go_frame
        refine oneY (i := 20) (oi := ⟨some 74, _, _, _, _, _⟩) (by kernel_rfl) rfl (by rfl) (fun K hK => ?_)
        refine valI (v := ?_) ?_ ?_
        rotate_left
        · go_simp; try with_reducible rfl
        refine hK _ _ (fun h => absurd h (by decide)) ?_
        clear hK K
        try go_frame
        refine oneY (i := 21) (oi := ⟨some 75, _, _, _, _, _⟩) (by kernel_rfl) rfl (by rfl) (fun K hK => ?_)
        refine valI (v := ?_) ?_ ?_
        rotate_left
        · go_simp; try with_reducible rfl
        refine hK _ _ (fun h => absurd h (by decide)) ?_
        clear hK K
        try go_frame
        refine oneY (i := 22) (oi := ⟨none, _, _, _, _, _⟩) (by kernel_rfl) rfl (by rfl) (fun K hK => ?_)
        have ht := (b19.block g hgz).trans HTB.out
        have k22 := cells_at (i := 0) ht rfl
        have f22 := heap_frozen ht 0
        have own20 : w19.ownsRow W.heap.size 147 2 v19 (insQ FF ⟨key, q⟩).length ((insQ FF ⟨key, q⟩).flatMap clQ) := by
          have e1 : (insQ FF ⟨key, q⟩).flatMap clQ = (FF.take m).flatMap clQ ++ [(⟨key, q⟩ : Ent)].flatMap clQ ++ (FF.drop m).flatMap clQ := by rw [HI.out, List.flatMap_append, List.flatMap_cons]; simp
          have e2 : (insQ FF ⟨key, q⟩).length = m + 1 + (m - m) := by rw [HI.out, List.length_append, List.length_cons, List.length_take, List.length_drop, ← HFL.out]; omega
          rw [e1, e2]; exact own19
        obtain ⟨A2, c2, e2, _, _⟩ := own_rds own20 rfl rfl (fun x _ => clQ_len x)
        subst e2
        refine store_qI rfl rfl rfl k22 f22 ?_
        refine hK _ _ (fun h => absurd h (by decide)) ?_
        clear hK K
        try go_frame
        try go_frame
        refine doneY (by kernel_rfl) ?_ _
        go_wp2
        refine bodyPost_ret (results_tmp rfl _ _ _) rfl ⟨rfl, _, Rq.put ht own20 rfl, (HKW.out.then_below b19).trans (Kept.setCell w19 g 0 _) (fun _ _ e => e)⟩
      · refine valGI (run_bsQ (cs := (clQ (⟨key, q⟩ : Ent)).toArray) rfl rfl rfl) ?_
        have b11 := b0.alloc b0.size (.cells (clQ (⟨key, q⟩ : Ent)).toArray 147)
        have one := rds_oneE X0 (⟨key, q⟩ : Ent)
        have hS := b11
        refine hK _ _ (fun _ => hS) ?_
        clear hK K
        generalize X0.alloc (.cells (clQ (⟨key, q⟩ : Ent)).toArray 147) = w11 at *
        obtain ⟨vb, hvb⟩ : ∃ vb, vb = X0.heap.size := ⟨_, rfl⟩
        rw [← hvb] at one ⊢
        clear hvb
        try go_frame
        refine oneY (i := 7) (oi := ⟨some 61, _, _, _, _, _⟩) (by kernel_rfl) rfl (by rfl) (fun K hK => ?_)
        refine append_qI _ _ rfl W.heap.size (.slice none 0 0) 0 [] rfl (World.ownsRow_nil _ _ _ _) W.heap.size A m c (FF.take m) rfl (by rw [List.length_take, ← HFL.out]; omega) HNN.out (rds_takeE (HRD.out.below b11)) (by omega) b11.size ?_
        intro v7 w7 own7 grow7
        rw [Nat.zero_add, List.nil_append] at own7
        have x7 := (Below.refl w11.heap.size w11).grown grow7 (Nat.le_refl _) (fun _ hk => by cases hk)
        have b7 := b11.trans (x7.mono b11.size)
        have one7 := (one.below x7).more x7.size
        have hS : Below W.heap.size W w7 := b7
        refine hK _ _ (fun _ => hS) ?_
        clear hK K
        try go_frame
        try go_frame
        refine oneY (i := 12) (oi := ⟨some 66, _, _, _, _, _⟩) (by kernel_rfl) rfl (by rfl) (fun K hK => ?_)
        refine append_qI _ _ rfl W.heap.size v7 m _ rfl own7 w7.heap.size (some ⟨vb, 0, none⟩) 1 1 [(⟨key, q⟩ : Ent)] rfl rfl (fun e => by cases e) one7 (by omega) b7.size ?_
        intro v12 w12 own12 grow12
        have b12 := b7.grown grow12 b7.size (fun k hk => own_block_ge own7 k hk)
        have hS := b12
        refine hK _ _ (fun _ => hS) ?_
        clear hK K
        try go_frame
        try go_frame
        refine oneY (i := 19) (oi := ⟨some 73, _, _, _, _, _⟩) (by kernel_rfl) rfl (by rfl) (fun K hK => ?_)
        refine append_qI _ _ rfl W.heap.size v12 (m + 1) _ rfl own12 W.heap.size (cutHr A c m) (m - m) (c - m) (FF.drop m) rfl (by rw [List.length_drop, ← HFL.out]) (cutHr_none HNN.out) (rds_cutHr (HRD.out.below b12) (by rw [← HFL.out]; exact hcap)) (by omega) b12.size ?_
        intro v19 w19 own19 grow19
        have b19 := b12.grown grow19 b12.size (fun k hk => own_block_ge own12 k hk)
        have hS := b19
        refine hK _ _ (fun _ => hS) ?_
        clear hK K
        try go_frame
        try go_frame
        refine oneY (i := 20) (oi := ⟨some 74, _, _, _, _, _⟩) (by kernel_rfl) rfl (by rfl) (fun K hK => ?_)
        refine valI (v := ?_) ?_ ?_
        rotate_left
        · go_simp; try with_reducible rfl
        refine hK _ _ (fun h => absurd h (by decide)) ?_
        clear hK K
        try go_frame
        refine oneY (i := 21) (oi := ⟨some 75, _, _, _, _, _⟩) (by kernel_rfl) rfl (by rfl) (fun K hK => ?_)
        refine valI (v := ?_) ?_ ?_
        rotate_left
        · go_simp; try with_reducible rfl
        refine hK _ _ (fun h => absurd h (by decide)) ?_
        clear hK K
        try go_frame
        refine oneY (i := 22) (oi := ⟨none, _, _, _, _, _⟩) (by kernel_rfl) rfl (by rfl) (fun K hK => ?_)
        have ht := (b19.block g hgz).trans HTB.out
        have k22 := cells_at (i := 0) ht rfl
        have f22 := heap_frozen ht 0
        have own20 : w19.ownsRow W.heap.size 147 2 v19 (insQ FF ⟨key, q⟩).length ((insQ FF ⟨key, q⟩).flatMap clQ) := by
          have e1 : (insQ FF ⟨key, q⟩).flatMap clQ = (FF.take m).flatMap clQ ++ [(⟨key, q⟩ : Ent)].flatMap clQ ++ (FF.drop m).flatMap clQ := by rw [HI.out, List.flatMap_append, List.flatMap_cons]; simp
          have e2 : (insQ FF ⟨key, q⟩).length = m + 1 + (m - m) := by rw [HI.out, List.length_append, List.length_cons, List.length_take, List.length_drop, ← HFL.out]; omega
          rw [e1, e2]; exact own19
        obtain ⟨A2, c2, e2, _, _⟩ := own_rds own20 rfl rfl (fun x _ => clQ_len x)
        subst e2
        refine store_qI rfl rfl rfl k22 f22 ?_
        refine hK _ _ (fun h => absurd h (by decide)) ?_
        clear hK K
        try go_frame
        try go_frame
        refine doneY (by kernel_rfl) ?_ _
        go_wp2
        refine bodyPost_ret (results_tmp rfl _ _ _) rfl ⟨rfl, _, Rq.put ht own20 rfl, (HKW.out.then_below b19).trans (Kept.setCell w19 g 0 _) (fun _ _ e => e)⟩
end
end Go.Proofs.Ythdaclbgandmcaa
