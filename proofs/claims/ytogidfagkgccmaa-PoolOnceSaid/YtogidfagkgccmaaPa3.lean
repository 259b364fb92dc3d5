/-
  Contracts and lemmas on which the proofs of this seat stand (several texts in one). Conditions are each theorem's own.
-/
import Derived.Test.YtogidfagkgccmaaPa2
import Derived.LoopN
import Derived.Test.YtogidfagkgccmaaCa1
import Derived.Laws.AppendOwnNone
import Derived.Test.YtogidfagkgccmaaCa2

/-
  Take of layer 19, where the pool has one address. Conditions are each theorem's own.
-/
namespace Go.Proofs.Ytogidfagkgccmaa
open Go.RowKit Go.Shelf Go.Maps
attribute [local go_sem] Oper.semAt_some
/-- Four blocks of Take's own. -/
structure Fo (W : World) (B g : Nat) (pr : Int) (o3 : Array Value) (er : Int) : Prop where
  b0 : Boxed W B 60 (.pointer (some ⟨g, 0, none⟩))
  b1 : Boxed W (B + 1) 3 (.int .i64 pr)
  b2 : W.heap[B + 1 + 1]? = some (.cells o3 65 (0, 0))
  b3 : Boxed W (B + 1 + 1 + 1) 24 (.int .i64 er)
theorem Fo.below {W V : World} {B g n : Nat} {pr er : Int} {o3 : Array Value} (h : Fo W B g pr o3 er) (hb : Below n W V) (hn : B + 1 + 1 + 1 < n) : Fo V B g pr o3 er :=
  ⟨Boxed.below h.b0 hb (by omega), Boxed.below h.b1 hb (by omega), (hb.block _ (by omega)).trans h.b2, Boxed.below h.b3 hb hn⟩
theorem Fo.sz {W : World} {B g : Nat} {pr er : Int} {o3 : Array Value} (h : Fo W B g pr o3 er) : B + 4 ≤ W.heap.size := by have := heap_lt (show W.heap[B + 1 + 1 + 1]? = _ from h.b3); omega
theorem Fo.new (w : World) (g : Nat) (pr : Int) : Fo ((((w.alloc (.cells #[.pointer (some ⟨g, 0, none⟩)] 60)).alloc (.cells #[.int .i64 pr] 3)).alloc (.cells #[.int .i64 0, .int .i64 0, .int .i64 0] 65)).alloc (.cells #[.int .i64 0] 24)) w.heap.size g pr #[.int .i64 0, .int .i64 0, .int .i64 0] 0 := by
  obtain ⟨h1, h2, h3, h4⟩ := four_heap w (.cells #[.pointer (some ⟨g, 0, none⟩)] 60) (.cells #[.int .i64 pr] 3) (.cells #[.int .i64 0, .int .i64 0, .int .i64 0] 65) (.cells #[.int .i64 0] 24)
  exact ⟨h1, h2, h3, h4⟩
theorem Fo.kept {W V : World} {B g n : Nat} {pr er : Int} {o3 : Array Value} {r : Option Nat} (h : Fo W B g pr o3 er) (hg : W.grownBy V r) (hr : ∀ k, r = some k → n ≤ k) (hn : B + 1 + 1 + 1 < n) : Fo V B g pr o3 er := by
  have hz := h.sz
  have k : ∀ i, i < B + 4 → V.heap[i]? = W.heap[i]? := fun i hi => hg.block i (by omega) (fun e => by have := hr _ e.symm; omega)
  exact ⟨(k _ (by omega)).trans h.b0, (k _ (by omega)).trans h.b1, (k _ (by omega)).trans h.b2, (k _ (by omega)).trans h.b3⟩
theorem Fo.km {W V : World} {b B g : Nat} {pr er : Int} {o3 : Array Value} (h : Fo W B g pr o3 er) (k : KM b W V) (hb : b < B) : Fo V B g pr o3 er := by
  have hz := h.sz
  exact ⟨(k.block _ (by omega) (by omega)).trans h.b0, (k.block _ (by omega) (by omega)).trans h.b1, (k.block _ (by omega) (by omega)).trans h.b2, (k.block _ (by omega) (by omega)).trans h.b3⟩
theorem KM.grown {b : Nat} {w W V : World} {r : Option Nat} (h : KM b w W) (hg : W.grownBy V r) (hr : ∀ k, r = some k → w.heap.size ≤ k) : KM b w V :=
  ⟨Nat.le_trans h.size hg.size, hg.os.trans h.os, hg.tape.trans h.tape, hg.output.trans h.output, fun k hk hl => (hg.block k (Nat.lt_of_lt_of_le hl h.size) (fun e => by have := hr _ e.symm; omega)).trans (h.block k hk hl)⟩
theorem wpIn_act {F : Fence} {n : Nat} {P : Program} {c : Code} {Q : Exit → Act → World → Prop} {a : Act} {w : World} (h : ∀ a0, a0 = a → c.wpIn F n P Q a0 w) : c.wpIn F n P Q a w := h a rfl
theorem wfL3 {a b c : Int} (h1 : (Lit.int .i64 a).wf = true) (h2 : (Lit.int .i64 b).wf = true) (h3 : (Lit.int .i64 c).wf = true) : wfL 3 [a, b, c] :=
  ⟨rfl, fun i hi => by simp at hi; rcases hi with rfl | rfl | rfl <;> assumption⟩
theorem wf_small {q : Int} (h0 : 0 ≤ q) (h1 : q ≤ 65535) : (Lit.int .i64 q).wf = true := WalkArith.wf_i64 (by omega)
theorem Fo.set {W : World} {B g : Nat} {pr er : Int} {x y z : Value} (h : Fo W B g pr #[x, y, z] er) (x' y' z' : Value) (er' : Int) :
    Fo ((((W.setCell ⟨B + 1 + 1, 0, none⟩ x').setCell ⟨B + 1 + 1, 1, none⟩ y').setCell ⟨B + 1 + 1, 2, none⟩ z').setCell ⟨B + 1 + 1 + 1, 0, none⟩ (.int .i64 er')) B g pr #[x', y', z'] er' := by
  have o := fun (V : World) (k i : Nat) (v : Value) (j : Nat) (hj : j ≠ k) => Below.heap_setCell V ⟨k, i, none⟩ v j hj
  have s1 := heap_setCell_same W (B + 1 + 1) 0 _ _ x' h.b2
  have s2 := heap_setCell_same _ (B + 1 + 1) 1 _ _ y' s1
  have s3 := heap_setCell_same _ (B + 1 + 1) 2 _ _ z' s2
  refine ⟨?_, ?_, ?_, ?_⟩
  · exact (o _ _ _ _ B (by omega)).trans ((o _ _ _ _ B (by omega)).trans ((o _ _ _ _ B (by omega)).trans ((o _ _ _ _ B (by omega)).trans h.b0)))
  · exact (o _ _ _ _ (B + 1) (by omega)).trans ((o _ _ _ _ (B + 1) (by omega)).trans ((o _ _ _ _ (B + 1) (by omega)).trans ((o _ _ _ _ (B + 1) (by omega)).trans h.b1)))
  · exact (o _ _ _ _ (B + 1 + 1) (by omega)).trans s3
  · exact heap_setCell_same _ (B + 1 + 1 + 1) 0 _ _ (.int .i64 er') ((o _ _ _ _ (B + 1 + 1 + 1) (by omega)).trans ((o _ _ _ _ (B + 1 + 1 + 1) (by omega)).trans ((o _ _ _ _ (B + 1 + 1 + 1) (by omega)).trans h.b3)))
theorem KM.setCell {b k i : Nat} {w W : World} (h : KM b w W) (hk : w.heap.size ≤ k) (v : Value) : KM b w (W.setCell ⟨k, i, none⟩ v) :=
  ⟨by have := h.size; simpa using this, h.os, h.tape, h.output, fun j hj hl => (Below.heap_setCell W ⟨k, i, none⟩ v j (by show j ≠ k; omega)).trans (h.block j hj hl)⟩
theorem loadv_err {w : World} {g : Nat} {v : Value} (h : Boxed w g 24 v) : (loadVar 24 ⟨g, 0, none⟩).run Try.prog w = .ok v w := by
  have hb : w.heap[g]? = some (.cells #[v] 24 (0, 0)) := h
  have hk := Boxed.cell h
  go_simp
theorem resT {fn : Func} {tmps : Array Value} {w : World} {B g : Nat} {pr er : Int} {o3 : Array Value} (h : fn.results = #[.cell 8 65, .cell 9 24])
    (hp : tmps.getD 8 undef = .pointer (some ⟨B + 1 + 1, 0, none⟩)) (hq : tmps.getD 9 undef = .pointer (some ⟨B + 1 + 1 + 1, 0, none⟩)) (hF : Fo w B g pr o3 er) (hl : o3.size = 3) :
    (results fn tmps).run Try.prog w = .ok (.tuple #[.agg o3, .int .i64 er]) w := by
  have l1 := run_loadVar_row (P := Try.prog) w (B + 1 + 1) 65 65 o3 (0, 0) _ hF.b2 Try.underlying65 rfl (by rw [hl]; kernel_rfl)
  have hp' : tmps[8]?.getD undef = .pointer (some ⟨B + 1 + 1, 0, none⟩) := by simpa using hp
  have hq' : tmps[9]?.getD undef = .pointer (some ⟨B + 1 + 1 + 1, 0, none⟩) := by simpa using hq
  simp [results, h, hp', hq', asAddr, l1, loadv_err hF.b3]
theorem from_below {B : Nat} {X Y : World} (h : Below X.heap.size X Y) : KeepsFrom B X Y := ⟨h.size, fun k _ _ hk _ => (h.block k (heap_lt hk)).trans hk⟩
theorem from_km {b B : Nat} {X Y : World} (h : KM b X Y) (hb : b < B) : KeepsFrom B X Y := ⟨h.size, fun k _ hB hk _ => (h.block k (by omega) (heap_lt hk)).trans hk⟩
theorem snoc_all {P : Int → Prop} {l : List Int} {x : Int} (h : ∀ r ∈ l, P r) (hx : P x) : ∀ r ∈ l ++ [x], P r := fun r hr => by
  rcases List.mem_append.1 hr with h1 | h1
  · exact h r h1
  · rw [List.mem_singleton.1 h1]; exact hx
/-- What Take finds: the pool, its address, what is given out. -/
structure Pl (W : World) (g bm ga c m : Nat) (lo hi a : Int) (L : List (List Int)) : Prop where
  p : PoolAt W g bm lo hi (some ⟨ga, 0, none⟩) 1 c
  a : W.cell? ⟨ga, 0, none⟩ = some (.int .i64 a)
  v : Giv W bm m L
theorem Pl.below {W V : World} {g bm ga c m : Nat} {lo hi a : Int} {L : List (List Int)} (h : Pl W g bm ga c m lo hi a L) {n : Nat} (hb : Below n W V) (hn : n = W.heap.size) : Pl V g bm ga c m lo hi a L := by
  subst hn
  exact ⟨h.p.of_block (hb.block _ h.p.lt), (hb.cell (p := ⟨ga, 0, none⟩) (cell_block h.a)).trans h.a, h.v.of_block (hb.block _ h.v.lt)⟩
/-- Q, where nothing panics. -/
def noPanic19 (Q : Exit → Act → World → Prop) : Exit → Act → World → Prop
  | .panic _, _, _ => False
  | e, a, w => Q e a w
theorem noPanic19_to {Q : Exit → Act → World → Prop} (e : Exit) (a : Act) (w : World) (h : noPanic19 Q e a w) : Q e a w := by
  cases e <;> first | exact h | exact h.elim
theorem noPanic19_normal {Q : Exit → Act → World → Prop} {a : Act} {w : World} (h : Q .normal a w) : noPanic19 Q .normal a w := h
theorem ld_pP {o : Oper} {a : Act} {w : World} {x : Operand} {p : Addr} {r : Option Addr} (ho : o.op = .load 60 x) (hx : a.eval x = .pointer (some p)) (hc : w.cell? p = some (.pointer r)) :
    (execOp a.eval o).run Try.prog w = .ok (.value (.pointer r)) w := by
  unfold execOp
  simp only [ho, hx, Instr.loadAt, Instr.sureAddr, Sem.run_bind, Sem.run_pure, Result.andThen_ok]
  go_simp
theorem ld_slI19 {o : Oper} {a : Act} {w : World} {x : Operand} {p : Addr} {A : Option Addr} {n c : Nat} (ho : o.op = .load 53 x) (hx : a.eval x = .pointer (some p)) (hc : w.cell? p = some (.slice A n c)) :
    (execOp a.eval o).run Try.prog w = .ok (.value (.slice A n c)) w := by
  unfold execOp
  simp only [ho, hx, Instr.loadAt, Instr.sureAddr, Sem.run_bind, Sem.run_pure, Result.andThen_ok]
  go_simp
def TakeOut (L : List (List Int)) (T : List Int) (pr a : Int) (w w' : World) (bm m : Nat) (e : Ending) : Prop :=
  (∃ q pre post, T = pre ++ q :: post ∧ (∀ r ∈ pre, L.contains [pr, a, r] = true) ∧ L.contains [pr, a, q] = false ∧ e = .returned (.tuple #[gk [pr, a, q], .int .i64 0]) ∧ Giv w' bm (m + 1) (L ++ [[pr, a, q]]) ∧ KM bm w w') ∨
  ((∀ r ∈ T, L.contains [pr, a, r] = true) ∧ e = .returned (.tuple #[.agg #[.int .i64 0, .int .i64 0, .int .i64 0], .int .i64 12]) ∧ Below w.heap.size w w')
set_option maxRecDepth 100000 in
set_option maxHeartbeats 8000000 in
theorem p19take {w : World} {g bm ga c m : Nat} {lo hi a : Int} {L : List (List Int)} (h : Pl w g bm ga c m lo hi a L) (h1 : 1 ≤ lo) (hlh : lo ≤ hi) (h3 : hi ≤ 65535) (hm : m < 100000) (pr p : Int) (hpr : pr = 6 ∨ pr = 17) (hp : 0 ≤ p ∧ p ≤ 65535) (wa : (Lit.int .i64 a).wf = true) :
    Calls Try.prog 32 #[.pointer (some ⟨g, 0, none⟩), .int .i64 pr, .int .i64 p, .int .i64 0] w fun e w' => TakeOut L (tri lo hi p) pr a w w' bm m e := by
  have h2 : lo ≤ 65535 := by omega
  have hF := Fo.new w g pr
  have hbW := ((((Below.refl w.heap.size w).alloc (Nat.le_refl _) (.cells #[.pointer (some ⟨g, 0, none⟩)] 60)).alloc (by simp) (.cells #[.int .i64 pr] 3)).alloc (by simp; omega) (.cells #[.int .i64 0, .int .i64 0, .int .i64 0] 65)).alloc (by simp; omega) (.cells #[.int .i64 0] 24)
  refine (callsIn_wide (n := 4)).1 ?_
  refine callsIn_of_wp_marks Try.func32 rfl trivial ?_ rfl
  simp only [Try.ntmps32, List.size_toArray, List.length_cons, List.length_nil, Nat.reduceAdd, Nat.reduceSub, Array.replicate_succ, Array.replicate_zero, List.push_toArray, List.append_toArray, List.nil_append, List.cons_append]
  refine wpIn_wide.2 ?_
  go_upto_region 1 with fail
  obtain ⟨W, hW⟩ : ∃ W, W = (((w.alloc (.cells #[.pointer (some ⟨g, 0, none⟩)] 60)).alloc (.cells #[.int .i64 pr] 3)).alloc (.cells #[.int .i64 0, .int .i64 0, .int .i64 0] 65)).alloc (.cells #[.int .i64 0] 24) := ⟨_, rfl⟩
  rw [← hW] at hF hbW ⊢
  clear hW
  have hP := h.below hbW rfl
  have hsz := hF.sz
  have k0 := Boxed.cell hF.b0
  have k1 := Boxed.cell hF.b1
  have kg2 := hP.p.cells.2.2.1
  have ka := hP.a
  have HMd := Lib.hid (p19made hP.p)
  have hproto : protoB pr = true := by rcases hpr with rfl | rfl <;> rfl
  have HPR := Lib.hid hproto
  have HH := Lib.hid h
  clear h hproto
  go_wp2_with (first
    | (go_at_call 75; refine HMd.out.mono ?_; rintro e w1 ⟨rfl, rfl⟩)
    | (go_at_call 76; refine (p19proto _ _).mono ?_; rintro e w1 ⟨rfl, rfl⟩; rw [HPR.out]))
  refine wp_loop_rounds 2 ?_
  rw [rounds_succ]
  go_upto_region 9 with fail
  have hn11 : (0 : Int) < 1 := by decide
  have cS := fun V (hV : Below W.heap.size W V) => (hV.cell (p := ⟨w.heap.size, 0, none⟩) (by show w.heap.size < _; omega)).trans k0
  have aS := fun V (hV : Below W.heap.size W V) => (hV.cell (p := ⟨g, 2, none⟩) hP.p.lt).trans kg2
  have vS := fun V (hV : Below W.heap.size W V) => (hV.cell (p := ⟨ga, 0, none⟩) (cell_block ka)).trans ka
  refine (wpIn_wide (n := 4)).1 ?_
  refine wpIn_mono (Q := noPanic19 _) ?_ noPanic19_to
  refine wpIn_wide.2 ?_
  refine wp_region_held_drew (S := fun V => Below W.heap.size W V) (by kernel_rfl) (Below.refl _ W).drew (fun hS => ?_)
  refine held_pure (i := 0) (oi := ⟨some 34, _, _, _, _, _⟩) rfl (by kernel_rfl) (by kernel_rfl) (by kernel_rfl) (fun _ _ _ h => h) (by rfl) (fun w hSw => ld_pP rfl rfl (cS _ hSw)) hS (fun hS => ?_)
  try go_frame
  refine held_pure (i := 1) (oi := ⟨some 35, _, _, _, _, _⟩) rfl (by kernel_rfl) (by kernel_rfl) (by kernel_rfl) (fun _ _ _ h => h) (by rfl) (v := ?_) (fun w hSw => ?_) hS (fun hS => ?_)
  rotate_left
  · go_simp; try with_reducible rfl
  try go_frame
  refine held_pure (i := 2) (oi := ⟨some 36, _, _, _, _, _⟩) rfl (by kernel_rfl) (by kernel_rfl) (by kernel_rfl) (fun _ _ _ h => h) (by rfl) (v := ?_) (fun w hSw => ?_) hS (fun hS => ?_)
  rotate_left
  · go_simp; try with_reducible rfl
  try go_frame
  refine held_pure (i := 3) (oi := ⟨some 37, _, _, _, _, _⟩) rfl (by kernel_rfl) (by kernel_rfl) (by kernel_rfl) (fun _ _ _ h => h) (by rfl) (fun w hSw => ld_slI19 rfl rfl (aS _ hSw)) hS (fun hS => ?_)
  try go_frame
  refine held_pure (i := 4) (oi := ⟨some 38, _, _, _, _, _⟩) rfl (by kernel_rfl) (by kernel_rfl) (by kernel_rfl) (fun _ _ _ h => h) (by rfl) (v := ?_) (fun w hSw => ?_) hS (fun hS => ?_)
  rotate_left
  · go_simp; try with_reducible rfl
  try go_frame
  refine held_pure (i := 5) (oi := ⟨some 39, _, _, _, _, _⟩) rfl (by kernel_rfl) (by kernel_rfl) (by kernel_rfl) (fun _ _ _ h => h) (by rfl) (v := ?_) (fun w hSw => ?_) hS (fun hS => ?_)
  rotate_left
  · go_simp; try with_reducible rfl
  try go_frame
  refine held_pure (i := 6) (oi := ⟨some 40, _, _, _, _, _⟩) rfl (by kernel_rfl) (by kernel_rfl) (by kernel_rfl) (fun _ _ _ h => h) (by rfl) (v := ?_) (fun w hSw => ?_) hS (fun hS => ?_)
  rotate_left
  · go_simp; try with_reducible rfl
  try go_frame
  refine held_pure (i := 7) (oi := ⟨some 41, _, _, _, _, _⟩) rfl (by kernel_rfl) (by kernel_rfl) (by kernel_rfl) (fun _ _ _ h => h) (by rfl) (v := ?_) (fun w hSw => ?_) hS (fun hS => ?_)
  rotate_left
  · go_simp; try with_reducible rfl
  try go_frame
  refine held_pure (i := 8) (oi := ⟨some 42, _, _, _, _, _⟩) rfl (by kernel_rfl) (by kernel_rfl) (by kernel_rfl) (fun _ _ _ h => h) (by rfl) (v := ?_) (fun w hSw => ?_) hS (fun hS => ?_)
  rotate_left
  · go_simp; try with_reducible rfl
  try go_frame
  refine held_pure (i := 9) (oi := ⟨some 43, _, _, _, _, _⟩) rfl (by kernel_rfl) (by kernel_rfl) (by kernel_rfl) (fun _ _ _ h => h) (by rfl) (v := ?_) (fun w hSw => ?_) hS (fun hS => ?_)
  rotate_left
  · go_simp; try with_reducible rfl
  try go_frame
  refine held_pure (i := 10) (oi := ⟨some 44, _, _, _, _, _⟩) rfl (by kernel_rfl) (by kernel_rfl) (by kernel_rfl) (fun _ _ _ h => h) (by rfl) (v := ?_) (fun w hSw => ?_) hS (fun hS => ?_)
  rotate_left
  · go_simp; try with_reducible rfl
  try go_frame
  refine held_pure (i := 11) (oi := ⟨some 45, _, _, _, _, _⟩) rfl (by kernel_rfl) (by kernel_rfl) (by kernel_rfl) (fun _ _ _ h => h) (by rfl) (v := ?_) (fun w hSw => ?_) hS (fun hS => ?_)
  rotate_left
  · go_simp; try with_reducible rfl
  try go_frame
  refine held_pure (i := 12) (oi := ⟨some 46, _, _, _, _, _⟩) rfl (by kernel_rfl) (by kernel_rfl) (by kernel_rfl) (fun _ _ _ h => h) (by rfl) (v := ?_) (fun w hSw => ?_) hS (fun hS => ?_)
  rotate_left
  · go_simp; try with_reducible rfl
  try go_frame
  refine held_pure (i := 13) (oi := ⟨some 47, _, _, _, _, _⟩) rfl (by kernel_rfl) (by kernel_rfl) (by kernel_rfl) (fun _ _ _ h => h) (by rfl) (v := ?_) (fun w hSw => ?_) hS (fun hS => ?_)
  rotate_left
  · go_simp; try with_reducible rfl
  try go_frame
  refine held_pure (i := 14) (oi := ⟨some 48, _, _, _, _, _⟩) rfl (by kernel_rfl) (by kernel_rfl) (by kernel_rfl) (fun _ _ _ h => h) (by rfl) (fun w hSw => run_load_int rfl rfl (vS _ hSw)) hS (fun hS => ?_)
  try go_frame
  refine wpAnyH_ready (rs := [15]) (by kernel_rfl) (by simp) (AllReadyH.cons (o := ⟨some 12, _, _, _, _, _⟩) rfl (fun K hK => ?_) AllReadyH.nil)
  rw [if_pos (by rfl)]
  go_simp
  refine hK.out _ _ (hS.alloc hS.size _) (fun hS => ?_)
  clear hK K
  try go_frame
  refine wpAnyH_ready (rs := [16]) (by kernel_rfl) (by simp) (AllReadyH.cons (o := ⟨none, _, _, _, _, _⟩) rfl (fun K hK => ?_) AllReadyH.nil)
  rw [if_pos (by rfl)]
  have hbx := Boxed.new W.drew 3 (.int .i64 0)
  have kbx := Boxed.cell hbx
  have fbx := Boxed.frozen hbx
  refine store_int_wp (p := ⟨W.drew.heap.size, 0, none⟩) rfl rfl rfl kbx fbx ?_
  refine hK.out _ _ (hS.setCell (Nat.le_refl _) _) (fun hS => ?_)
  clear hK K
  try go_frame
  refine wpAnyH_done (by kernel_rfl) ?_ _
  refine noPanic19_normal ?_
  have hbx2 := Boxed.set (.int .i64 a) hbx
  obtain ⟨X, hX⟩ : ∃ X, X = ((W.alloc (.cells #[.int .i64 0] 3)).drew.setCell ⟨W.drew.heap.size, 0, none⟩ (.int .i64 a)) := ⟨_, rfl⟩
  have hSX : Below W.heap.size W X := by rw [hX]; exact hS
  have hbx3 : Boxed X W.heap.size 3 (.int .i64 a) := by rw [hX]; exact hbx2
  rw [← hX]
  clear hX hbx kbx fbx hS hbx2
  have hS := hSX
  have hbx2 := hbx3
  clear hSX hbx3
  have hPX := hP.below hS rfl
  have hFX := hF.below hS (by omega)
  have bX := hbW.trans (hS.mono hbW.size)
  have j0 := Boxed.cell hFX.b0
  have j1 := Boxed.cell hFX.b1
  have HW19 := Lib.hid (p19wants hPX.p h1 h2 pr p hpr hp)
  clear cS aS vS k0 k1 kg2 ka HMd
  go_wp2_with (first
    | (go_at_call 77; refine HW19.out.mono ?_; rintro e w2 ⟨⟨bx, gr, rfl, hWt⟩, x2⟩))
  refine (wpIn_wide (n := 4)).1 ?_
  refine wpIn_act (fun a0 ha0 => ?_)
  have hz2 := x2.size
  have hF2 := hFX.below x2 (by have := hS.size; omega)
  have hP2 := hPX.below x2 rfl
  have hx2 := Boxed.below hbx2 x2 (by have := heap_lt (show X.heap[W.heap.size]? = _ from hbx2); omega)
  have HG2 := Lib.hid hP2
  have HF2 := Lib.hid hF2
  have HX2 := Lib.hid hx2
  have hbm := HH.out.v.lt
  have hzw : w.heap.size + 4 < w2.heap.size := by have := heap_lt (show X.heap[W.heap.size]? = _ from hbx2); omega
  have hBw2 : Hid (Below w.heap.size w w2) := Lib.hid (bX.trans (x2.mono (by have := hbW.size; have := hS.size; omega)))
  clear hbx2 hPX hFX bX j0 j1 HW19 hS hF hP hbW hP2 hF2 hx2
  refine range_told (by omega) (gf := 119) (lb := #[.pointer (some ⟨bx, 0, none⟩)]) (by subst ha0; rfl) (enters_of Try.func119 (by kernel_rfl) rfl)
    (hWt.seq h1 h2 h3 hp (4 - 1) (by omega)) KA.trans (fun V l r r' _ hr => KA.loop hr) (Below.refl _ _) (fun _ => rfl)
    (fun pre x V l r r' h _ _ => h)
    (fun pre X => (∀ r ∈ pre, L.contains [pr, a, r] = true) ∧ Below w2.heap.size w2 X)
    (fun cd pre X => cd = .ret ∧ ∃ pre0 q post, tri lo hi p = pre0 ++ q :: post ∧ (∀ r ∈ pre0, L.contains [pr, a, r] = true) ∧ L.contains [pr, a, q] = false ∧ Fo X w.heap.size g pr #[.int .i64 pr, .int .i64 a, .int .i64 q] 0 ∧ Giv X bm (m + 1) (L ++ [[pr, a, q]]) ∧ KM bm w X)
    (fun pre X Y r hs hg hr => ⟨hs.1, below_keep hs.2 hg hr (Nat.le_refl _) (Nat.le_refl _)⟩)
    (fun cd pre X Y r hs hg hr => by
      obtain ⟨h1, p0, q, po, h2, h3, h4, h5, h6, h7⟩ := hs
      have hz7 := h7.size
      have hz5 := h5.sz
      exact ⟨h1, p0, q, po, h2, h3, h4, h5.kept hg (fun k e => (hr k e).1) (by omega), h6.of_block (hg.block bm h6.lt (fun e => by have := (hr _ e.symm).1; omega)), h7.grown hg (fun k e => by have := (hr k e).1; omega)⟩)
    ⟨by simp, Below.refl _ _⟩
    (fun x => { tmps := (a0.tmps.setIfInBounds 53 (.int .i64 x)).setIfInBounds 13 (.int .i64 x), defers := [] }) ?assign ?body ?done ?stop
  case assign =>
    intro l x X K hK
    subst ha0
    dsimp only [encT]
    simp only [List.setIfInBounds_toArray, List.set_cons_succ, List.set_cons_zero] at hK
    gi_wp2
    exact hK
  case body =>
    rintro l pre q X ⟨hpre, hBX⟩ ⟨post, hpost⟩
    subst ha0
    have hF3 := HF2.out.below hBX (by omega)
    have hP3 := HG2.out.below hBX rfl
    have hx3 := Boxed.below HX2.out hBX (by have := heap_lt (show w2.heap[W.heap.size]? = _ from HX2.out); omega)
    have k0 := Boxed.cell hF3.b0
    have k1 := Boxed.cell hF3.b1
    have k3 := Boxed.cell hx3
    simp only [List.setIfInBounds_toArray, List.set_cons_succ, List.set_cons_zero]
    have hq := (tri_mem h1 hlh h3 q).1 (show q ∈ tri lo hi p by rw [hpost]; simp)
    have hXw := hF3.sz
    have hzX := hBX.size
    have hgX := hP3.p.lt
    have hlX := heap_lt (show X.heap[W.heap.size]? = _ from hx3)
    obtain ⟨o, ho⟩ : ∃ o : Obj, o = .cells #[.int .i64 pr, .int .i64 a, .int .i64 q] 65 := ⟨_, rfl⟩
    have b1 : Below X.heap.size X (X.alloc o) := (Below.refl _ X).alloc (Nat.le_refl _) o
    have n1 := World.alloc_heap_new X o
    have k0' := (b1.cell (p := ⟨w.heap.size, 0, none⟩) (by show w.heap.size < _; omega)).trans k0
    have hP4 := hP3.below b1 rfl
    have hF4 := hF3.below b1 (by omega)
    have HGV := Lib.hid (p19give hP4.p hP4.v hm [pr, a, q] (wfL3 (by rcases hpr with rfl | rfl <;> rfl) wa (wf_small (by omega) (by omega))))
    have sz1 : (X.alloc o).heap.size = X.heap.size + 1 := by simp
    have HB1 := Lib.hid b1
    have HF4 := Lib.hid hF4
    have HN1 := Lib.hid n1
    have HZ1 := Lib.hid sz1
    have HPRE := Lib.hid hpre
    have HPOST := Lib.hid hpost
    have HBX := Lib.hid hBX
    clear hpre hpost hF3 hP3 hx3 hBX b1 n1 hP4 hF4 sz1
    unfold gk at HGV
    subst ho
    have m0 : (X.alloc (.cells #[.int .i64 pr, .int .i64 a, .int .i64 q] 65)).cell? ⟨X.heap.size, 0, none⟩ = some (.int .i64 pr) := by rw [cell_of_row _ X.heap.size _ _ _ _ HN1.out]; rfl
    have m1 : (X.alloc (.cells #[.int .i64 pr, .int .i64 a, .int .i64 q] 65)).cell? ⟨X.heap.size, 1, none⟩ = some (.int .i64 a) := by rw [cell_of_row _ X.heap.size _ _ _ _ HN1.out]; rfl
    have m2 : (X.alloc (.cells #[.int .i64 pr, .int .i64 a, .int .i64 q] 65)).cell? ⟨X.heap.size, 2, none⟩ = some (.int .i64 q) := by rw [cell_of_row _ X.heap.size _ _ _ _ HN1.out]; rfl
    gi_wp2
    refine ⟨trivial, ?_⟩
    gi_at_call 78
    refine (callsIn_wide.2 HGV.out).mono ?_
    rintro e w4 (⟨hc, rfl, b4⟩ | ⟨hc, rfl, hG4, k4⟩)
    · have HB4 := Lib.hid b4
      have HC := Lib.hid hc
      clear b4 hc
      gi_wp2
      have hb := HB1.out.trans (HB4.out.mono (by simp))
      exact ⟨from_below hb, KA.of_below hb, snoc_all HPRE.out HC.out, HBX.out.trans (hb.mono hzX)⟩
    · have HC := Lib.hid hc
      have HG4 := Lib.hid hG4
      have HK4 := Lib.hid k4
      have HF5 := Lib.hid (HF4.out.km k4 hbm)
      have hm5 := (k4.block X.heap.size (by omega) (by rw [HZ1.out]; omega)).trans HN1.out
      have m0' : w4.cell? ⟨X.heap.size, 0, none⟩ = some (.int .i64 pr) := by rw [cell_of_row _ X.heap.size _ _ _ _ hm5]; rfl
      have m1' : w4.cell? ⟨X.heap.size, 1, none⟩ = some (.int .i64 a) := by rw [cell_of_row _ X.heap.size _ _ _ _ hm5]; rfl
      have m2' : w4.cell? ⟨X.heap.size, 2, none⟩ = some (.int .i64 q) := by rw [cell_of_row _ X.heap.size _ _ _ _ hm5]; rfl
      have c0 : w4.cell? ⟨w.heap.size + 1 + 1, 0, none⟩ = some (.int .i64 0) := by rw [cell_of_row _ _ _ _ _ _ HF5.out.b2]; rfl
      have c1 : w4.cell? ⟨w.heap.size + 1 + 1, 1, none⟩ = some (.int .i64 0) := by rw [cell_of_row _ _ _ _ _ _ HF5.out.b2]; rfl
      have c2 : w4.cell? ⟨w.heap.size + 1 + 1, 2, none⟩ = some (.int .i64 0) := by rw [cell_of_row _ _ _ _ _ _ HF5.out.b2]; rfl
      have f0 := heap_frozen HF5.out.b2 0
      have f1 := heap_frozen HF5.out.b2 1
      have f2 := heap_frozen HF5.out.b2 2
      have c3 := Boxed.cell HF5.out.b3
      have f3 := Boxed.frozen HF5.out.b3
      have HM5 := Lib.hid hm5
      clear hm5
      clear hc hG4 k4 k0 k1 k3 k0' m0 m1 m2
      gi_wp2
      have hS4 := ((((KeepsOthers.setCell w4 ⟨w.heap.size + 1 + 1, 0, none⟩ (.int .i64 pr)).trans (KeepsOthers.setCell _ ⟨w.heap.size + 1 + 1, 1, none⟩ (.int .i64 a))).trans (KeepsOthers.setCell _ ⟨w.heap.size + 1 + 1, 2, none⟩ (.int .i64 q))).trans (KeepsOthers.setCell _ ⟨w.heap.size + 1 + 1 + 1, 0, none⟩ (.int .i64 0))).from w2.heap.size
      refine ⟨((from_below HB1.out).trans (from_km HK4.out (by omega))).trans hS4, rfl, pre, q, post, HPOST.out, HPRE.out, HC.out, HF5.out.set _ _ _ _, ?_, ?_⟩
      · exact HG4.out.of_block ((Below.heap_setCell _ _ _ _ (by simp; omega)).trans ((Below.heap_setCell _ _ _ _ (by simp; omega)).trans ((Below.heap_setCell _ _ _ _ (by simp; omega)).trans (Below.heap_setCell _ _ _ _ (by simp; omega)))))
      · have hk := (KM.of_below (b := bm) (hBw2.out.trans ((HBX.out.trans (HB1.out.mono hzX)).mono (by omega)))).trans HK4.out
        exact (((hk.setCell (by omega) _).setCell (by omega) _).setCell (by omega) _).setCell (by omega) _
  case done =>
    rintro D xs X hD rfl ⟨hno, hBX⟩ hK
    subst ha0
    have hF3 := HF2.out.below hBX (by omega)
    have hzX := hBX.size
    have c0 : X.cell? ⟨w.heap.size + 1 + 1, 0, none⟩ = some (.int .i64 0) := by rw [cell_of_row _ _ _ _ _ _ hF3.b2]; rfl
    have c1 : X.cell? ⟨w.heap.size + 1 + 1, 1, none⟩ = some (.int .i64 0) := by rw [cell_of_row _ _ _ _ _ _ hF3.b2]; rfl
    have c2 : X.cell? ⟨w.heap.size + 1 + 1, 2, none⟩ = some (.int .i64 0) := by rw [cell_of_row _ _ _ _ _ _ hF3.b2]; rfl
    have f0 := heap_frozen hF3.b2 0
    have f1 := heap_frozen hF3.b2 1
    have f2 := heap_frozen hF3.b2 2
    have c3 := Boxed.cell hF3.b3
    have f3 := Boxed.frozen hF3.b3
    have HNO := Lib.hid hno
    have HBX := Lib.hid (hBw2.out.trans (hBX.mono (by omega)))
    have HF3 := Lib.hid hF3
    have hm1 : Hid (Marks w2.heap.size X.heap.size [{ target := .collected D, args := #[] }] X) := Lib.hid ((Marks.push (hi := D) (ds := []) trivial (Nat.le_refl _) hD hK).more (heap_lt hK))
    clear hno hBX hF3 hK
    dsimp only
    go_wp2_with fail
    rw [rounds_succ]
    go_wp2_with fail
    have hBl := HBX.out
    refine leaves_marks w2.heap.size (fun Y => Fo Y w.heap.size g pr #[.int .i64 0, .int .i64 0, .int .i64 0] 12 ∧ Below w.heap.size w Y)
      (fun Y D hY h1 h2 => ⟨hY.1.kept (n := w2.heap.size) (grownBy_putObj' Y D _) (fun k e => by cases e; exact h1) (by omega), hY.2.trans (belowK_b (w := w) (Nat.le_refl _) Y D _ _ (by omega) h2 rfl rfl)⟩)
      (fun Y hY => ⟨_, resT rfl rfl rfl hY.1 rfl, ?_⟩) _ _ _ (hm1.out.keep (fun k h1 _ => (Below.heap_setCell _ _ _ _ (by simp; omega)).trans ((Below.heap_setCell _ _ _ _ (by simp; omega)).trans ((Below.heap_setCell _ _ _ _ (by simp; omega)).trans (Below.heap_setCell _ _ _ _ (by simp; omega))))))
      ⟨HF3.out.set _ _ _ _, (((hBl.setCell (by simp; omega) _).setCell (by simp; omega) _).setCell (by simp; omega) _).setCell (by simp; omega) _⟩
    exact .inr ⟨HNO.out, rfl, hY.2⟩
  case stop =>
    rintro D cd pre X hD _ ⟨rfl, p0, q, po, e1, e2, e3, e4, e5, e6⟩ hK
    subst ha0
    dsimp only
    gi_wp2
    have hm1 : Marks w2.heap.size X.heap.size [{ target := .collected D, args := #[] }] X := (Marks.push (hi := D) (ds := []) trivial (Nat.le_refl _) hD hK).more (heap_lt hK)
    refine leaves_marks w2.heap.size (fun Y => Fo Y w.heap.size g pr #[.int .i64 pr, .int .i64 a, .int .i64 q] 0 ∧ Giv Y bm (m + 1) (L ++ [[pr, a, q]]) ∧ KM bm w Y)
      (fun Y D hY h1 h2 => ⟨hY.1.kept (n := w2.heap.size) (grownBy_putObj' Y D _) (fun k e => by cases e; exact h1) (by omega), hY.2.1.of_block (World.putObj_heap_other (by omega)), hY.2.2.grown (grownBy_putObj' Y D _) (fun k e => by cases e; omega)⟩)
      (fun Y hY => ⟨_, resT rfl rfl rfl hY.1 rfl, ?_⟩) _ _ X hm1 ⟨e4, e5, e6⟩
    exact .inl ⟨q, p0, po, e1, e2, e3, rfl, hY.2.1, hY.2.2⟩
end Go.Proofs.Ytogidfagkgccmaa

/-
  New of layer 19 at one address. Conditions are each theorem's own.
-/
namespace Go.Proofs.Ytogidfagkgccmaa
open Go.RowKit Go.Shelf
attribute [local go_sem] Oper.semAt_some
theorem info_intP : (Try.prog.info? 3).map (fun i => (i.zero, i.size, i.bytes)) = some (some (.int .i64 0), 1, 8) := by kernel_rfl
/-- append of one number onto an empty row of the call's own. -/
theorem append_oneP {w : World} {ops : Array Oper} {rest : List Oper} {o : Oper} {a : Act} {Q : Exit → Act → World → Prop} (hgd : o.guard = none) (s x : Operand)
    (ho : o.op = .call { callee := .builtin .append, args := #[s, x], argTypes := #[53, 53] })
    (base : Nat) (v : Value) (hs : a.eval s = v) (hown : w.ownsRow base 3 1 v 0 [])
    (g : Nat) (y : Int) (hx : a.eval x = .slice (some ⟨g, 0, none⟩) 1 1) (hy : w.cell? ⟨g, 0, none⟩ = some (.int .i64 y)) (hbase : base ≤ w.heap.size)
    (h : ∀ v' w', w'.ownsRow base 3 1 v' 1 [.int .i64 y] → w.grownBy w' v.ownBlock → wpList Try.prog ops Q rest (a.put o.dst v') w') : wpList Try.prog ops Q (o :: rest) a w := by
  obtain ⟨i0, hi, hz0, hz1, hz2⟩ := info_parts info_intP
  refine wpList_append_own w hgd s x 53 ho base 3 i0 (.int .i64 0) 1 8 Try.underlying53 hi hz0 hz1 hz2 rfl (by decide) v 0 [] hs hown ⟨g, 0, none⟩ 1 1 [.int .i64 y] hx
      rfl (fun j u hu => ?_) (by intro u hu; simp only [List.mem_singleton] at hu; subst hu; rfl) (by unfold maxLen; omega) (by omega) hbase (fun v' w' h1 h2 _ => h v' w' (by simpa using h1) h2)
  have hj : j = 0 := by have := (List.getElem?_eq_some_iff.1 hu).1; simp at this; exact this
  subst hj
  simp only [List.getElem?_cons_zero, Option.some.injEq] at hu
  rw [← hu, add_off]; exact hy
theorem own_oneP {w : World} {base : Nat} {v : Value} {y : Int} (h : w.ownsRow base 3 1 v 1 [.int .i64 y]) :
    ∃ g c, v = .slice (some ⟨g, 0, none⟩) 1 c ∧ w.cell? ⟨g, 0, none⟩ = some (.int .i64 y) := by
  rcases h.2 with ⟨_, h0⟩ | ⟨g, cap, cur, e, _, hh, _, _, _, ht⟩
  · omega
  · refine ⟨g, cap, e, ?_⟩
    have e1 := cell_of_row w g 0 cur _ _ hh
    have h1 : (List.take (1 * 1) cur.toList)[0]? = some (.int .i64 y) := by rw [ht]; rfl
    rw [List.getElem?_take, if_pos (by omega)] at h1
    rw [e1, ← Array.getElem?_toList]; exact h1
section
variable {w : World} {gs : Nat} {a : Int}
theorem p19clone (h : w.cell? ⟨gs, 0, none⟩ = some (.int .i64 a)) :
    Calls Try.prog 74 #[.slice (some ⟨gs, 0, none⟩) 1 1] w fun e w' => (∃ ga c, e = .returned (.slice (some ⟨ga, 0, none⟩) 1 c) ∧ w'.cell? ⟨ga, 0, none⟩ = some (.int .i64 a)) ∧ Below w.heap.size w w' := by
  have q22 : ∀ (w : World) (a : Option Addr) (n c n' c' : Nat), (binOp .eql 53 (.slice a n c) (.slice none n' c')).run Try.prog w = .ok (.bool a.isNone) w := fun w a n c n' c' => Lib.run_eql_slice_nil w _ _ a n c n' c' Try.underlying53
  have hl := cell_block h
  go_enter Try.func74, Try.ntmps74
  go_wp2_with (at_builtin; refine append_oneP rfl _ _ rfl w.heap.size _ rfl (World.ownsRow_made w #[] 0 (Nat.le_refl _) (Nat.zero_le _) rfl) gs a rfl ((((Below.refl w.heap.size w).alloc (Nat.le_refl _) _).cell (p := ⟨gs, 0, none⟩) hl).trans h) (by simp) ?_; intro v' w1 hown hgrow)
  go_ret
  obtain ⟨ga, c, rfl, hc⟩ := own_oneP hown
  exact ⟨⟨ga, ⟨c, rfl⟩, hc⟩, ((Below.refl _ w).alloc (Nat.le_refl _) _).grown hgrow (by simp) (fun k hk => own_block_ge (World.ownsRow_made (base := w.heap.size) (e := 3) (size := 1) w #[] 0 (Nat.le_refl _) (Nat.zero_le _) rfl) k hk)⟩
theorem p19hosts (h : w.cell? ⟨gs, 0, none⟩ = some (.int .i64 a)) (ha : hostB a = true) :
    Calls Try.prog 72 #[.slice (some ⟨gs, 0, none⟩) 1 1] w fun e w' => e = .returned (.bool true) ∧ Below w.heap.size w w' := by
  have hl := cell_block h
  have hR : RdI w w.heap.size (some ⟨gs, 0, none⟩) [a] := fun _ => ⟨gs, 0, rfl, hl, fun j hj => by
    have : j = 0 := by simpa using hj
    subst this; exact h⟩
  have hp : ∀ (W : World) (x : Int), x ∈ [a] → Below w.heap.size w W → Calls Try.prog 115 (#[.int .i64 x] ++ #[]) W fun e w' => e = .returned (.bool (!hostB x)) ∧ Below w.heap.size w w' := fun W x _ hW => by
    have HC := Lib.hid (c3host x W)
    go_enter Try.func115, Try.ntmps115
    go_wp2_with (go_at_call 116; refine HC.out.mono ?_; rintro e w1 ⟨rfl, b1⟩)
    go_ret
    exact ⟨rfl, hW.trans (b1.mono hW.size)⟩
  have hcall := Lib.hid (conInt 115 #[] (fun x => !hostB x) (some ⟨gs, 0, none⟩) 1 [a] w.heap.size w (enters_of Try.func115 (by kernel_rfl) rfl) hR (Nat.le_refl _) (by simp) hp)
  rw [show [a].any (fun x => !hostB x) = false by simp [ha]] at hcall
  rw [show ([a] : List Int).length = 1 from rfl] at hcall
  clear hp hR
  go_enter Try.func72, Try.ntmps72
  go_wp2_with (go_at_call 114; refine hcall.out.mono ?_; rintro e w1 ⟨rfl, b1⟩)
  go_ret
  exact ⟨rfl, b1⟩
theorem idxNone (A : Option Addr) (c : Nat) (v : Int) (w : World) : Calls Try.prog 117 #[.slice A 0 c, .int .i64 v] w fun e w' => e = .returned (.bool false) ∧ w = w' := by
  have hcall : Calls Try.prog 162 #[.slice A 0 c, .int .i64 v] w fun e w' => e = .returned (.int .i64 (-1)) ∧ w = w' := by
    go_enter Try.func162, Try.ntmps162
    go_wp2
    refine wp_loop_rounds 1 ?_
    rw [rounds_succ]
    go_wp2
    go_ret
    exact ⟨rfl, rfl⟩
  have HC := Lib.hid hcall
  clear hcall
  go_enter Try.func117, Try.ntmps117
  go_wp2_with (go_at_call 162; refine HC.out.mono ?_; rintro e w1 ⟨rfl, rfl⟩)
  go_ret
  exact ⟨rfl, rfl⟩
theorem p19twice (h : w.cell? ⟨gs, 0, none⟩ = some (.int .i64 a)) :
    Calls Try.prog 73 #[.slice (some ⟨gs, 0, none⟩) 1 1] w fun e w' => e = .returned (.bool false) ∧ w = w' := by
  have HC := Lib.hid (idxNone (some ⟨gs, 0, none⟩) 1 a w)
  go_enter Try.func73, Try.ntmps73
  go_wp2
  refine wp_loop_rounds 2 ?_
  rw [rounds_succ]
  go_wp2_with (go_at_call 117; refine HC.out.mono ?_; rintro e w1 ⟨rfl, rfl⟩)
  rw [rounds_succ]
  go_wp2
  go_ret
  exact ⟨rfl, rfl⟩
theorem p19new (h : w.cell? ⟨gs, 0, none⟩ = some (.int .i64 a)) (ha : hostB a = true) (lo hi : Int) (h1 : 1 ≤ lo) (hlh : lo ≤ hi) (h3 : hi ≤ 65535) :
    Calls Try.prog 31 #[.slice (some ⟨gs, 0, none⟩) 1 1, .int .i64 lo, .int .i64 hi] w fun e w' => (∃ g bm ga c, e = .returned (.tuple #[.pointer (some ⟨g, 0, none⟩), .int .i64 0]) ∧ Pl w' g bm ga c 0 lo hi a [] ∧ w.heap.size ≤ bm) ∧ Below w.heap.size w w' := by
  have HH := Lib.hid (p19hosts h ha)
  have hl := cell_block h
  have HTW := Lib.hid (fun (V : World) (hV : Below w.heap.size w V) => p19twice (w := V) ((hV.cell (p := ⟨gs, 0, none⟩) hl).trans h))
  have HCL := Lib.hid (fun (V : World) (hV : Below w.heap.size w V) => p19clone (w := V) ((hV.cell (p := ⟨gs, 0, none⟩) hl).trans h))
  have hmm := @run_makeMap Try.prog
  clear h
  go_enter Try.func31, Try.ntmps31
  go_wp2_with (first
    | (go_at_call 72; refine HH.out.mono ?_; rintro e w1 ⟨rfl, b1⟩)
    | (go_at_call 73; refine (HTW.out _ b1).mono ?_; rintro e w2 ⟨rfl, rfl⟩)
    | (go_at_call 74; refine (HCL.out _ b1).mono ?_; rintro e w3 ⟨⟨ga, c, rfl, hca⟩, b3⟩))
  go_ret2
  have bz := ((Below.refl w3.heap.size w3).alloc (Nat.le_refl _) (.map #[] 0)).alloc (by simp) (.cells #[.int .i64 lo, .int .i64 hi, .slice (some ⟨ga, 0, none⟩) 1 c, .map (some w3.heap.size)] 140)
  refine ⟨⟨w3.heap.size + 1, w3.heap.size, ga, c, rfl, ⟨?_, ?_, ?_⟩, Nat.le_trans b1.size b3.size⟩, ?_⟩
  · have := World.alloc_heap_new (w3.alloc (.map #[] 0)) (.cells #[.int .i64 lo, .int .i64 hi, .slice (some ⟨ga, 0, none⟩) 1 c, .map (some w3.heap.size)] 140)
    rw [World.size_alloc] at this
    exact this
  · exact (bz.cell (p := ⟨ga, 0, none⟩) (cell_block hca)).trans hca
  · exact (Giv.made w3).of_block (Below.heap_alloc _ _ _ (by simp))
  · exact b1.trans ((b3.trans (bz.mono b3.size)).mono b1.size)
end
end Go.Proofs.Ytogidfagkgccmaa

/-
  Free of layer 19, and the layer's awake. Conditions are each theorem's own.
-/
namespace Go.Proofs.Ytogidfagkgccmaa
open Go.RowKit Go.Shelf Go.Maps
attribute [local go_sem] Oper.semAt_some
theorem wp_delG {o : Oper} {a : Act} {w w' : World} {K : Act → World → Prop} {Q : Exit → Act → World → Prop} {m x : Operand} {t k : TypeId} {b : Nat} {key : Value} (hop : o.op = Op.call { callee := Callee.builtin Builtin.delete, args := #[m, x], argTypes := #[t, k] })
    (hm : a.eval m = .map (some b)) (hx : a.eval x = key) (hrun : (Builtin.delete_ #[t, k] o.type #[.map (some b), key]).run Try.prog w = .ok (.tuple #[]) w') (h : K (a.put o.dst (.tuple #[])) w') : o.wp Try.prog a w K Q := by
  unfold Oper.wp
  simp [execOp, hop, resolve, invoke, builtin, hm, hx, hrun, Result.andThen]
  exact h
set_option maxRecDepth 100000 in
set_option maxHeartbeats 1000000 in
theorem p19free {w : World} {g bm n c m : Nat} {lo hi : Int} {A : Option Addr} {L : List (List Int)} (h : PoolAt w g bm lo hi A n c) (hG : Giv w bm m L) (x y z : Int) (hx : wfL 3 [x, y, z]) (hL : L.contains [x, y, z] = true) :
    Calls Try.prog 71 #[.pointer (some ⟨g, 0, none⟩), .agg #[.int .i64 x, .int .i64 y, .int .i64 z]] w fun e w' => e = .returned (.bool true) ∧ KM bm w w' := by
  obtain ⟨V, hV⟩ : ∃ V, V = w.alloc (.cells #[.int .i64 x, .int .i64 y, .int .i64 z] 65) := ⟨_, rfl⟩
  have hbV : Below w.heap.size w V := by rw [hV]; exact (Below.refl _ w).alloc (Nat.le_refl _) _
  have hrV : V.rangeAt w.heap.size 0 (clI [x, y, z]) := by rw [hV]; exact AtNew
  have hnV : V.heap[w.heap.size]? = some (.cells #[.int .i64 x, .int .i64 y, .int .i64 z] 65 (0, 0)) := by rw [hV]; exact World.alloc_heap_new w _
  have hzV : w.heap.size < V.heap.size := by rw [hV]; simp
  have hPV := h.of_block (hbV.block _ h.lt)
  have hGV := hG.of_block (hbV.block _ hG.lt)
  have HGiv := p19given hPV hGV [x, y, z] hx
  unfold gk at HGiv
  rw [hL] at HGiv
  have HGiv := Lib.hid HGiv
  have HMd := Lib.hid (p19made hPV)
  have hl3 : (clI [x, y, z]).length = 3 := rfl
  have HP := Lib.hid hPV
  have HG := Lib.hid hGV
  have HX := Lib.hid hx
  have hgl := h.lt
  have hGl := hG.lt
  have m0 : V.cell? ⟨w.heap.size, 0, none⟩ = some (.int .i64 x) := by rw [cell_of_row _ _ _ _ _ _ hnV]; rfl
  have m1 : V.cell? ⟨w.heap.size, 1, none⟩ = some (.int .i64 y) := by rw [cell_of_row _ _ _ _ _ _ hnV]; rfl
  have m2 : V.cell? ⟨w.heap.size, 2, none⟩ = some (.int .i64 z) := by rw [cell_of_row _ _ _ _ _ _ hnV]; rfl
  have hV' := hV.symm
  clear hV hG h hPV hGV hx hL hnV
  go_enter Try.func71, Try.ntmps71
  go_upto_region 1 with fail
  try rw [hV']
  clear hV'
  go_upto_region 3 with (first
    | (go_at_call 75; refine HMd.out.mono ?_; rintro e w1 ⟨rfl, rfl⟩)
    | (go_at_call 113; refine HGiv.out.mono ?_; rintro e w1 ⟨rfl, b1⟩))
  have hP1 := HP.out.of_block (b1.block _ (Nat.lt_trans hgl hzV))
  have hG1 := HG.out.of_block (b1.block _ (Nat.lt_trans hGl hzV))
  have k3 : w1.drew.cell? ⟨g, 2 + 1, none⟩ = some (.map (some bm)) := hP1.cells.2.2.2
  have hr1 : w1.drew.rangeAt w.heap.size 0 (clI [x, y, z]) := range_below hrV hzV b1.drew
  obtain ⟨w2, hu, hg2⟩ := Giv.drop (w := w1.drew) (hG1.of_block rfl) HX.out _
  unfold gk at hu
  refine wp_region_held_drew (S := fun _ => True) (by kernel_rfl) trivial (fun hS => ?_)
  refine held_pure (i := 0) (oi := ⟨some 14, _, _, _, _, _⟩) rfl (by kernel_rfl) (by kernel_rfl) (by kernel_rfl) (fun _ _ _ h => h) (by rfl) (v := ?_) (fun w hSw => ?_) hS (fun hS => ?_)
  rotate_left
  · go_simp; try with_reducible rfl
  try go_frame
  refine held_pure (i := 1) (oi := ⟨some 15, _, _, _, _, _⟩) rfl (by kernel_rfl) (by kernel_rfl) (by kernel_rfl) (fun _ _ _ h => h) (by rfl) (v := ?_) (fun w hSw => ?_) hS (fun hS => ?_)
  rotate_left
  · go_simp; try with_reducible rfl
  try go_frame
  refine held_pure (i := 2) (oi := ⟨some 16, _, _, _, _, _⟩) rfl (by kernel_rfl) (by kernel_rfl) (by kernel_rfl) (fun _ _ _ h => h) (by rfl) (v := ?_) (fun w hSw => ?_) hS (fun hS => ?_)
  rotate_left
  · go_simp; try with_reducible rfl
  try go_frame
  refine wpAnyH_ready (rs := [3, 4]) (by kernel_rfl) (by simp) (AllReadyH.cons (o := ⟨some 17, _, _, _, _, _⟩) rfl (fun K hK => ?_) (AllReadyH.cons (o := ⟨some 18, _, _, _, _, _⟩) rfl (fun K hK => ?_) AllReadyH.nil))
  · rw [if_pos (by rfl)]
    refine wp_turn (v := .map (some bm)) (ld_mapG rfl rfl k3) ?_
    refine hK.out _ _ trivial (fun hS => ?_)
    clear hK K
    try go_frame
    refine wpAnyH_ready (rs := [4]) (by kernel_rfl) (by simp) (AllReadyH.cons (o := ⟨some 18, _, _, _, _, _⟩) rfl (fun K hK => ?_) AllReadyH.nil)
    rw [if_pos (by rfl)]
    refine wp_turn (v := .agg (clI [x, y, z]).toArray) (ld_outer rfl rfl hr1 hl3) ?_
    refine hK.out _ _ trivial (fun hS => ?_)
    clear hK K
    try go_frame
    refine wpAnyH_ready (rs := [5]) (by kernel_rfl) (by simp) (AllReadyH.cons (o := ⟨none, _, _, _, _, _⟩) rfl (fun K hK => ?_) AllReadyH.nil)
    rw [if_pos (by rfl)]
    refine wp_delG (w' := w2) rfl rfl rfl hu ?_
    refine hK.out _ _ trivial (fun hS => ?_)
    clear hK K
    try go_frame
    refine wpAnyH_done (by kernel_rfl) ?_ _
    go_wp2_with fail
    go_ret
    exact ⟨rfl, (KM.of_below (hbV.trans (b1.drew.mono hbV.size))).trans (KM.of_grown hg2)⟩
  · rw [if_pos (by rfl)]
    refine wp_turn (v := .agg (clI [x, y, z]).toArray) (ld_outer rfl rfl hr1 hl3) ?_
    refine hK.out _ _ trivial (fun hS => ?_)
    clear hK K
    try go_frame
    refine wpAnyH_ready (rs := [3]) (by kernel_rfl) (by simp) (AllReadyH.cons (o := ⟨some 17, _, _, _, _, _⟩) rfl (fun K hK => ?_) AllReadyH.nil)
    rw [if_pos (by rfl)]
    refine wp_turn (v := .map (some bm)) (ld_mapG rfl rfl k3) ?_
    refine hK.out _ _ trivial (fun hS => ?_)
    clear hK K
    try go_frame
    refine wpAnyH_ready (rs := [5]) (by kernel_rfl) (by simp) (AllReadyH.cons (o := ⟨none, _, _, _, _, _⟩) rfl (fun K hK => ?_) AllReadyH.nil)
    rw [if_pos (by rfl)]
    refine wp_delG (w' := w2) rfl rfl rfl hu ?_
    refine hK.out _ _ trivial (fun hS => ?_)
    clear hK K
    try go_frame
    refine wpAnyH_done (by kernel_rfl) ?_ _
    go_wp2_with fail
    go_ret
    exact ⟨rfl, (KM.of_below (hbV.trans (b1.drew.mono hbV.size))).trans (KM.of_grown hg2)⟩
theorem Giv.ne {w : World} {b n k : Nat} {L : List (List Int)} (h : Giv w b n L) {cs : Array Value} {ty : TypeId} {fr : Nat × Nat} (hk : w.heap[k]? = some (.cells cs ty fr)) : k ≠ b := fun e => by
  obtain ⟨D, ⟨es, clock, hb, F, hs, hD⟩, hc⟩ := h
  rw [e, hb] at hk; cases hk
theorem Pl.km {w W : World} {g bm ga c m m' : Nat} {lo hi a : Int} {L L' : List (List Int)} (h : Pl w g bm ga c m lo hi a L) (k : KM bm w W) (hG : Giv W bm m' L') : Pl W g bm ga c m' lo hi a L' := by
  refine ⟨h.p.of_block (k.block g (h.v.ne h.p) h.p.lt), ?_, hG⟩
  obtain ⟨o, ho, hc⟩ := cells_of_cell h.a
  have hne : ga ≠ bm := fun e => by
    obtain ⟨D, ⟨es, clock, hb, F, hs, hD⟩, _⟩ := h.v
    have ho' : w.heap[ga]? = some o := ho
    rw [e, hb] at ho'; cases ho'; simp [Obj.isCells] at hc
  have hk : W.heap[(⟨ga, 0, none⟩ : Addr).block]? = w.heap[(⟨ga, 0, none⟩ : Addr).block]? := k.block ga hne (cell_block h.a)
  have h2 := h.a
  unfold World.cell? at h2 ⊢
  rw [hk]; exact h2
theorem tri_awake : ∃ t, tri 1024 2000 5000 = 1024 :: t := by
  have e1 : rp (eachR 1024 2000 5000 5000) = [] := rp_nil (by decide)
  have e2 : rp (alikeR 1024 2000 (5000 + 1) (nearH 5000) 5000) = [] := rp_nil (by decide)
  have e0 : alikeR 1024 2000 (nearL 5000) (5000 - 1) 5000 = ⟨1024, 2000, 2⟩ := rfl
  have e3 : rp (alikeR 1024 2000 (nearL 5000) (5000 - 1) 5000) = 1024 :: rp ⟨1024 + 2, 2000, 2⟩ := by rw [e0]; exact rp_cons (by decide) (by decide)
  simp only [tri, runs6, List.flatMap_cons, List.flatMap_nil, e1, e2, e3, List.nil_append, List.cons_append]
  exact ⟨_, rfl⟩
theorem TakeOut.first {T t : List Int} {q0 pr a : Int} {w w' : World} {bm m : Nat} {e : Ending} (h : TakeOut [] T pr a w w' bm m e) (hT : T = q0 :: t) :
    e = .returned (.tuple #[gk [pr, a, q0], .int .i64 0]) ∧ Giv w' bm (m + 1) [[pr, a, q0]] ∧ KM bm w w' := by
  rcases h with ⟨q, pre, post, h1, h2, h3, h4, h5, h6⟩ | ⟨h1, _⟩
  · cases pre with
    | nil =>
      rw [hT] at h1
      simp only [List.nil_append, List.cons.injEq] at h1
      obtain ⟨rfl, _⟩ := h1
      exact ⟨h4, h5, h6⟩
    | cons r l => have := h2 r (by simp); simp at this
  · have := h1 q0 (by rw [hT]; simp)
    simp at this
set_option maxRecDepth 100000 in
set_option maxHeartbeats 2000000 in
theorem awake19 (w : World) : Calls Try.prog 30 #[] w fun e w' => e = .returned (.bool true) ∧ Below w.heap.size w w' := by
  have hb0 : Below w.heap.size w (w.alloc (.cells #[.int .i64 3325256705] 3)) := (Below.refl _ w).alloc (Nat.le_refl _) _
  have hc0 : (w.alloc (.cells #[.int .i64 3325256705] 3)).cell? ⟨w.heap.size, 0, none⟩ = some (.int .i64 3325256705) := by rw [cell_of_row _ _ _ _ _ _ (World.alloc_heap_new w _)]; rfl
  have HN := Lib.hid (p19new hc0 (by decide +kernel) 1024 2000 (by decide) (by decide) (by decide))
  have hz0 : (w.alloc (.cells #[.int .i64 3325256705] 3)).heap.size = w.heap.size + 1 := by simp
  have HZ0 := Lib.hid hz0
  have HB0 := Lib.hid hb0
  clear hc0 hb0 hz0
  go_enter Try.func30, Try.ntmps30
  go_upto_region 2 with (go_at_call 31; refine HN.out.mono ?_; rintro e w1 ⟨⟨g, bm, ga, c, rfl, hPl, hbm⟩, b1⟩)
  have HP := Lib.hid hPl
  have HB1 := Lib.hid (HB0.out.trans (b1.mono HB0.out.size))
  have HBM : Hid (w.heap.size ≤ bm) := Lib.hid (by rw [HZ0.out] at hbm; omega)
  have HT := Lib.hid (p19take hPl (by decide) (by decide) (by decide) (by decide) 17 5000 (.inr rfl) (by decide) (WalkArith.wf_i64 (by decide)))
  clear hPl hbm b1
  obtain ⟨t, ht0⟩ := tri_awake
  have HT0 := Lib.hid ht0
  clear ht0
  go_upto_region 5 with (go_at_call 32; refine HT.out.mono ?_; rintro e w2 ht; obtain ⟨rfl, hG2, k2⟩ := ht.first HT0.out; clear ht; unfold gk; rw [show (clI [17, 3325256705, 1024]).toArray = #[.int .i64 17, .int .i64 3325256705, .int .i64 1024] from rfl])
  have hP2 := HP.out.km k2 hG2
  have b2 : Below w2.heap.size w2 (w2.alloc (.cells #[.int .i64 17, .int .i64 3325256705, .int .i64 1024] 65)) := (Below.refl _ w2).alloc (Nat.le_refl _) _
  have n2 := World.alloc_heap_new w2 (.cells #[.int .i64 17, .int .i64 3325256705, .int .i64 1024] 65)
  have hP3 := hP2.below b2 rfl
  have HU := Lib.hid (p19used hP3.p hP3.v)
  have HFR := Lib.hid (p19free hP3.p hP3.v 17 3325256705 1024 (wfL3 (by decide) (WalkArith.wf_i64 (by decide)) (by decide)) (by rfl))
  have m0 : (w2.alloc (.cells #[.int .i64 17, .int .i64 3325256705, .int .i64 1024] 65)).cell? ⟨w2.heap.size, 0, none⟩ = some (.int .i64 17) := by rw [cell_of_row _ _ _ _ _ _ n2]; rfl
  have m1 : (w2.alloc (.cells #[.int .i64 17, .int .i64 3325256705, .int .i64 1024] 65)).cell? ⟨w2.heap.size, 1, none⟩ = some (.int .i64 3325256705) := by rw [cell_of_row _ _ _ _ _ _ n2]; rfl
  have m2 : (w2.alloc (.cells #[.int .i64 17, .int .i64 3325256705, .int .i64 1024] 65)).cell? ⟨w2.heap.size, 2, none⟩ = some (.int .i64 1024) := by rw [cell_of_row _ _ _ _ _ _ n2]; rfl
  have HB2 := Lib.hid b2
  have HK2 := Lib.hid k2
  clear hP2 b2 n2 hP3 hG2 k2
  go_wp2_with (first
    | (go_at_call 33; refine HU.out.mono ?_; rintro e w4 ⟨rfl, rfl⟩)
    | (go_at_call 71; refine HFR.out.mono ?_; rintro e w5 ⟨rfl, k5⟩))
  go_ret
  have z1 := HB1.out.size
  have c2 := HB1.out.trans (HK2.out.below HBM.out z1)
  have c3 := c2.trans (HB2.out.mono c2.size)
  exact ⟨rfl, c3.trans (k5.below HBM.out c3.size)⟩
end Go.Proofs.Ytogidfagkgccmaa

/-
  The law's own map of ports, and what a full pool is (layer 19). Conditions are each theorem's own.
-/
namespace Go.Proofs.Ytogidfagkgccmaa
open Go.RowKit Go.Shelf Go.Maps
def boolE : Value → Option (DataW Unit × List MemPlace)
  | .bool c => some (zi (if c then 1 else 0), [])
  | _ => none
theorem boolE_inv {v : Value} {z : DataW Unit × List MemPlace} (h : boolE v = some z) : ∃ c, v = .bool c ∧ z = (zi (if c then 1 else 0), []) := by
  unfold boolE at h
  cases v <;> simp at h
  exact ⟨_, rfl, h.symm⟩
theorem zeroBool19 (w : World) : (zeroValue 4).run Try.prog w = .ok (.bool false) w := by kernel_rfl
/-- Block b holds the ports of P, each told true. -/
def Sn (w : World) (b n : Nat) (P : List Int) : Prop :=
  ∃ D : DataW Unit, w.ownsMap Try.prog 3 boolE b n D ∧ (∀ x l, wfI x → keyOf Try.prog 3 (.int .i64 x) = some l → D.atKey l (zi 0) = zi (if P.contains x then 1 else 0) ∧ Maps.has D l = P.contains x) ∧ Maps.size D = P.length
section
variable {w : World} {b n : Nat} {P : List Int}
theorem Sn.made (w : World) : Sn (w.alloc (.map #[] 0)) w.heap.size 0 [] := ⟨_, World.ownsMap_made w _ _ _, fun _ _ _ _ => ⟨rfl, rfl⟩, rfl⟩
theorem Sn.of_block {w' : World} (h : Sn w b n P) (e : w'.heap[b]? = w.heap[b]?) : Sn w' b n P := by
  obtain ⟨D, ⟨es, clock, hb, F, hs, hD⟩, hc⟩ := h
  exact ⟨D, ⟨es, clock, e.trans hb, F, hs, hD⟩, hc⟩
theorem Sn.lt (h : Sn w b n P) : b < w.heap.size := by
  obtain ⟨D, ho, _⟩ := h
  exact ho.lt
theorem Sn.look (h : Sn w b n P) {x : Int} (hx : wfI x) :
    (Instr.lookup 63 (.map (some b)) (.int .i64 x) false).run Try.prog w = .ok (.bool (P.contains x)) w := by
  obtain ⟨D, ho, hc, _⟩ := h
  obtain ⟨l, hl⟩ := famInt.has x hx
  obtain ⟨h1, _⟩ := hc x l hx hl
  obtain ⟨es, clock, hb, F, _, rfl⟩ := ho
  rcases Maps.fit_look false famInt.K Try.underlying63 (zeroBool19 w) hb F hl with ⟨hrun, _, hat⟩ | ⟨e0, y, _, _, hrun, hRv, hat, _⟩
  · rw [hat] at h1
    rw [hrun]
    cases hP : P.contains x
    · rfl
    · rw [hP] at h1; simp [zi] at h1
  · obtain ⟨c, hv, hz⟩ := boolE_inv hRv
    rw [hat, hz] at h1
    have h2 : c = P.contains x := by
      revert h1
      generalize P.contains x = d
      intro h1
      cases c <;> cases d <;> simp [zi] at h1 ⊢
    rw [hrun, hv, h2]
    rfl
theorem Sn.put (h : Sn w b n P) (hn : n < maxLen) {x : Int} (hx : wfI x) (hno : P.contains x = false) :
    ∃ w', (Instr.mapUpdate 63 (.map (some b)) (.int .i64 x) (.bool true)).run Try.prog w = .ok () w' ∧ Sn w' b (n + 1) (P ++ [x]) ∧ w.grownBy w' (some b) := by
  obtain ⟨D, ho, hc, hz⟩ := h
  obtain ⟨l, hl⟩ := famInt.has x hx
  obtain ⟨w', hrun, ho', hg⟩ := ho.update famInt.K Try.underlying63 hn hl (show boolE (.bool true) = some (zi 1, []) from rfl)
  have hM := ho.isMap
  refine ⟨w', hrun, ⟨_, ho', fun y m hy hm => ?_, ?_⟩, hg⟩
  · by_cases e : x = y
    · subst e
      obtain rfl : l = m := Option.some.inj (hl.symm.trans hm)
      rw [has_put_same hM (famInt.K.key hl), atKey_put_same hM (famInt.K.key hl)]
      simp
    · have hne : m ≠ l := fun e2 => e (famInt.inj x y hx hy (famInt.K.inj hl (e2 ▸ hm)))
      have h1 := hc y m hy hm
      have h2 : (P ++ [x]).contains y = P.contains y := by simp; exact fun e3 => absurd e3.symm e
      rw [has_put_other hne, atKey_put_other hne, h2]
      exact h1
  · rw [size_put (ho.tidy famInt.K), (hc x l hx hl).2, hno, hz]; simp
theorem Sn.len (h : Sn w b n P) (ty : TypeId) : (Builtin.len_ #[63] ty #[.map (some b)]).run Try.prog w = .ok (.int .i64 (P.length : Nat)) w := by
  obtain ⟨D, ho, hc, hz⟩ := h
  rw [ho.len Try.underlying63 ty, hz]
end
/-! ### A parameter of type []uint16 -/
/-- A slice of numbers of 16 bits that reads as zs. -/
def Rd16 (w : World) (B : Nat) (A : Option Addr) (zs : List Int) : Prop :=
  0 < zs.length → ∃ b off, A = some ⟨b, off, none⟩ ∧ b < B ∧ ∀ j, j < zs.length → w.cell? ⟨b, off + j, none⟩ = some (.int .u16 (zs.getD j 0))
section
variable {P : Program} {w : World} {base : Nat} {t e : TypeId} {v : Value} {H : Type} {enc : TypeId × Value → H} {d : DataW H} {p : List MemPlace}
theorem get_u16s (ht : P.underlying t = some (.slice e)) (he : P.underlying e = some (.int .u16)) (hc : P.cellsOf e = 1) (hv : Value.okWide P w .any base t v) (h : DataW.Trod enc P w 0 (fun _ => true) true t v d p) :
    ∃ A c zs, v = .slice A zs.length c ∧ Rd16 w w.heap.size A zs ∧ zs.length ≤ c ∧ c ≤ maxLen ∧ ∀ n ∈ zs, (Lit.int .u16 n).wf = true := by
  obtain ⟨A, len, cap, zs, rfl, hr⟩ := get_row ht he hc hv h
  rcases hr with ⟨rfl, rfl, rfl, rfl⟩ | ⟨x, rfl, hl, hm, hz, hcell, hwz⟩
  · exact ⟨none, 0, [], rfl, fun hn => absurd hn (by simp), Nat.le_refl _, Nat.zero_le _, by simp⟩
  · have e1 : (zs.take len).length = len := by simp; omega
    refine ⟨some x, cap, zs.take len, by rw [e1], fun hn => ?_, by omega, hm, fun n hn => hwz n (List.mem_of_mem_take hn)⟩
    have hc0 := hcell 0 (by omega)
    have hlt := cell_block hc0
    obtain ⟨b, off, spot⟩ := x
    have hspot : spot = none := by simpa [Addr.add] using World.cell?_spot hc0
    subst hspot
    refine ⟨b, off, rfl, by simpa [Addr.add] using hlt, fun j hj => ?_⟩
    have hc := hcell j (by omega)
    rw [add_off] at hc
    rw [hc]
    congr 2
    simp only [List.getD_eq_getElem?_getD, List.getElem?_take]
    rw [if_pos (by omega)]
end
/-! ### What the law wants -/
theorem u8_bd {a : Int} (h : (Lit.int .u8 a).wf = true) : 0 ≤ a ∧ a ≤ 255 := by
  have := h
  simp [Lit.wf] at this
  have e1 : IntKind.u8.min = 0 := by decide
  have e2 : IntKind.u8.max = 255 := by decide
  omega
theorem u16_bd {a : Int} (h : (Lit.int .u16 a).wf = true) : 0 ≤ a ∧ a ≤ 65535 := by
  have := h
  simp [Lit.wf] at this
  have e1 : IntKind.u16.min = 0 := by decide
  have e2 : IntKind.u16.max = 65535 := by decide
  omega
theorem all_len (lo : Int) : ∀ (n : Nat) (P : List Int), P.Nodup → (∀ q, q ∈ P ↔ lo ≤ q ∧ q < lo + n) → P.length = n
  | 0, P, _, h => by
    rw [List.length_eq_zero_iff]
    exact List.eq_nil_iff_forall_not_mem.2 fun q hq => by have := (h q).1 hq; omega
  | n + 1, P, hd, h => by
    have hx : (lo + n) ∈ P := (h _).2 ⟨by omega, by push_cast; omega⟩
    have h1 := all_len lo n (P.erase (lo + n)) (hd.erase _) (fun q => by
      rw [hd.mem_erase_iff, h q]
      constructor
      · rintro ⟨h1, h2, h3⟩; exact ⟨h2, by push_cast at h3; omega⟩
      · rintro ⟨h1, h2⟩; exact ⟨by omega, h1, by push_cast; omega⟩)
    rw [List.length_erase_of_mem hx] at h1
    have : 0 < P.length := List.length_pos_of_mem hx
    omega
def kp (A : Int) (P : List Int) : List (List Int) := P.map fun q => [6, A, q]
theorem kp_has (A : Int) (P : List Int) (r : Int) : (kp A P).contains [6, A, r] = P.contains r := by
  rw [Bool.eq_iff_iff]
  simp [kp]
theorem kp_snoc (A : Int) (P : List Int) (r : Int) : kp A (P ++ [r]) = kp A P ++ [[6, A, r]] := by simp [kp]
theorem kp_len (A : Int) (P : List Int) : (kp A P).length = P.length := by simp [kp]
theorem full_len {lo hi p : Int} (h1 : 1 ≤ lo) (h2 : lo ≤ hi) (h3 : hi ≤ 65535) {P : List Int} (hd : P.Nodup) (hP : ∀ q ∈ P, lo ≤ q ∧ q ≤ hi) (ha : ∀ r ∈ tri lo hi p, P.contains r = true) : (P.length : Int) = hi - lo + 1 := by
  have := all_len lo (hi - lo + 1).toNat P hd (fun q => ⟨fun hq => by have := hP q hq; omega, fun hq => by
    have := ha q ((tri_mem h1 h2 h3 q).2 (by omega))
    simpa using this⟩)
  omega
theorem Pl.ks {w W : World} {g bm ga c m sb : Nat} {lo hi a : Int} {L : List (List Int)} (h : Pl w g bm ga c m lo hi a L) (k : KM sb w W) (h1 : g < sb) (h2 : ga < sb) (h3 : bm < sb) : Pl W g bm ga c m lo hi a L := by
  refine ⟨h.p.of_block (k.block g (by omega) h.p.lt), ?_, h.v.of_block (k.block bm (by omega) h.v.lt)⟩
  have hk : W.heap[(⟨ga, 0, none⟩ : Addr).block]? = w.heap[(⟨ga, 0, none⟩ : Addr).block]? := k.block ga (by omega) (cell_block h.a)
  have h4 := h.a
  unfold World.cell? at h4 ⊢
  rw [hk]; exact h4
end Go.Proofs.Ytogidfagkgccmaa
