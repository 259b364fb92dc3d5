/-
  Contracts and lemmas on which the proofs of this seat stand (several texts in one). Conditions are each theorem's own.
-/
import Derived.Test.YtafidbjaeopciaaQa7
import Derived.Test.YtafidbjaeopciaaQa2
import Derived.Deep.Slices

/-
  What a quota keeps, the code's and the document's: numbers in a row; contracts of its calls. Conditions are each theorem's own.
-/
namespace Go.Proofs.Ytafidbjaeopciaa
open Go.RowKit Go.Shelf

theorem run_load_slq {o : Oper} {a : Act} {w : World} {x : Operand} {p : Addr} {A : Option Addr} {n c : Nat} (ho : o.op = .load 53 x) (hx : a.eval x = .pointer (some p)) (hc : w.cell? p = some (.slice A n c)) :
    (execOp a.eval o).run Try.prog w = .ok (.value (.slice A n c)) w := by
  unfold execOp
  simp only [ho, hx, Instr.loadAt, Instr.sureAddr, Sem.run_bind, Sem.run_pure, Result.andThen_ok]
  go_simp
theorem eqin_slq {P : Program} (w : World) (d : Nat) (t e : TypeId) (A : Option Addr) (n c : Nat) (h : P.underlying t = some (.slice e)) : (Op.equalIn (d + 1) t (.slice A n c) (.slice none 0 0)).run P w = .ok A.isNone w := by
  cases A <;> simp [Op.equalIn, run_underlying h]
theorem neq_slqP {P : Program} (w : World) (t e : TypeId) (A : Option Addr) (n c : Nat) (h : P.underlying t = some (.slice e)) : (binOp .neq t (.slice A n c) (.slice none 0 0)).run P w = .ok (.bool (!A.isNone)) w := by
  simp only [binOp]
  simp [Op.equal, Op.maxDepth, eqin_slq w 9999 t e A n c h]
theorem neq_slq (w : World) (A : Option Addr) (n c : Nat) : (binOp .neq 53 (.slice A n c) (.slice none 0 0)).run Try.prog w = .ok (.bool (!A.isNone)) w := neq_slqP w _ _ A n c Try.underlying53
/-- A quota of type ty lies at block g, its row at b. -/
structure Qt (ty : TypeId) (w : World) (g b : Nat) (each : Int) (L : List Int) : Prop where
  obj : w.heap[g]? = some (.cells #[.slice (some ⟨b, 0, none⟩) L.length L.length, .int .i64 each] ty (0, 0))
  row : w.heap[b]? = some (.cells (L.map (Value.int .i64)).toArray 3 (0, 0))
  nt : ty ≠ 3
  n : L.length ≤ 64
  e : 0 ≤ each ∧ each ≤ 4096
  bd : ∀ x ∈ L, 0 ≤ x ∧ x ≤ each
/-- How many all have. -/
def sumQ : List Int → Int
  | [] => 0
  | x :: L => x + sumQ L
theorem sumQ_app (A B : List Int) : sumQ (A ++ B) = sumQ A + sumQ B := by
  induction A with
  | nil => simp [sumQ]
  | cons x A ih => rw [List.cons_append, sumQ, sumQ, ih]; omega
theorem sumQ_bd {e : Int} : ∀ {L : List Int}, (∀ x ∈ L, 0 ≤ x ∧ x ≤ e) → 0 ≤ sumQ L ∧ sumQ L ≤ (L.length : Int) * e
  | [], _ => by simp [sumQ]
  | x :: L, h => by
    have h1 := h x (List.mem_cons_self ..)
    have h2 := sumQ_bd (L := L) (fun y hy => h y (List.mem_cons_of_mem _ hy))
    rw [sumQ, List.length_cons]
    have h3 : ((L.length + 1 : Nat) : Int) * e = (L.length : Int) * e + e := by rw [Int.natCast_add, Int.add_mul]; simp
    rw [h3]; omega
theorem sumQ_take {L : List Int} {k : Nat} {x : Int} (h : L[k]? = some x) : sumQ (L.take (k + 1)) = sumQ (L.take k) + x := by
  obtain ⟨hk, e⟩ := List.getElem?_eq_some_iff.1 h
  rw [List.take_succ_eq_append_getElem hk, sumQ_app, e]
  simp [sumQ]
theorem sumQ_le {e : Int} {L : List Int} (h : ∀ x ∈ L, 0 ≤ x ∧ x ≤ e) (hn : L.length ≤ 64) (he : 0 ≤ e ∧ e ≤ 4096) (k : Nat) : 0 ≤ sumQ (L.take k) ∧ sumQ (L.take k) ≤ 262144 := by
  have h1 := sumQ_bd (e := e) (L := L.take k) (fun x hx => h x (List.mem_of_mem_take hx))
  have h2 : ((L.take k).length : Int) ≤ 64 := by rw [List.length_take]; omega
  have h3 : ((L.take k).length : Int) * e ≤ 64 * 4096 := Int.mul_le_mul h2 he.2 he.1 (by decide)
  omega
section
variable {ty : TypeId} {w w' : World} {g b : Nat} {each : Int} {L : List Int}
theorem Qt.ne (h : Qt ty w g b each L) : b ≠ g := fun e => by
  have h1 := h.row
  rw [e, h.obj] at h1
  injection h1 with h1
  injection h1 with _ e2 _
  exact h.nt e2
theorem Qt.c0 (h : Qt ty w g b each L) : w.cell? ⟨g, 0, none⟩ = some (.slice (some ⟨b, 0, none⟩) L.length L.length) := cells_at h.obj rfl
theorem Qt.c1 (h : Qt ty w g b each L) : w.cell? ⟨g, 1, none⟩ = some (.int .i64 each) := cells_at h.obj rfl
theorem Qt.at_ (h : Qt ty w g b each L) {j : Nat} {x : Int} (hx : L[j]? = some x) : w.cell? ⟨b, j, none⟩ = some (.int .i64 x) := cells_at h.row (by simp [hx])
theorem Qt.fr (h : Qt ty w g b each L) (j : Nat) : w.frozen? ⟨b, j, none⟩ = false := heap_frozen h.row j
theorem Qt.keep (h : Qt ty w g b each L) (h1 : w'.heap[g]? = w.heap[g]?) (h2 : w'.heap[b]? = w.heap[b]?) : Qt ty w' g b each L := ⟨h1.trans h.obj, h2.trans h.row, h.nt, h.n, h.e, h.bd⟩
theorem Qt.below (h : Qt ty w g b each L) (hb : Below w.heap.size w w') : Qt ty w' g b each L := h.keep (hb.block g (heap_lt h.obj)) (hb.block b (heap_lt h.row))
theorem Qt.kept {c : Nat} (h : Qt ty w g b each L) (k : Kept (fun k => k = c) w w') (h1 : g ≠ c) (h2 : b ≠ c) : Qt ty w' g b each L := h.keep (k.block g (heap_lt h.obj) h1) (k.block b (heap_lt h.row) h2)
theorem Qt.set (h : Qt ty w g b each L) (j : Nat) {x : Int} (hx : 0 ≤ x ∧ x ≤ each) : Qt ty (w.setCell ⟨b, j, none⟩ (.int .i64 x)) g b each (L.set j x) := by
  refine ⟨?_, ?_, h.nt, by rw [List.length_set]; exact h.n, h.e, fun y hy => ?_⟩
  · rw [List.length_set]
    exact (heap_setCell_other w ⟨b, j, none⟩ g _ (Ne.symm h.ne)).trans h.obj
  · have := heap_setCell_same w b j _ _ (.int .i64 x) h.row
    rw [this]
    congr 2
    rw [List.map_set]; simp
  · rcases List.mem_or_eq_of_mem_set hy with h1 | rfl
    · exact h.bd y h1
    · exact hx
end
/-- What Take answers and leaves. -/
def tkQ (each : Int) (L : List Int) (i : Int) : Int × List Int :=
  if 0 ≤ i ∧ i < (L.length : Int) then (if L.getD i.toNat 0 ≥ each then (10, L) else (0, L.set i.toNat (L.getD i.toNat 0 + 1))) else (1, L)
/-- What Give answers and leaves. -/
def gvQ (L : List Int) (i : Int) : Int × List Int :=
  if 0 ≤ i ∧ i < (L.length : Int) then (if L.getD i.toNat 0 = 0 then (8, L) else (0, L.set i.toNat (L.getD i.toNat 0 - 1))) else (1, L)
def ctQ (L : List Int) (i : Int) : Int := if 0 ≤ i ∧ i < (L.length : Int) then L.getD i.toNat 0 else 0
/-- Inside or outside. -/
theorem inQ (L : List Int) (i : Int) : (¬ (0 ≤ i ∧ i < (L.length : Int))) ∨ ∃ (j : Nat) (x : Int), i = (j : Int) ∧ j < L.length ∧ L[j]? = some x ∧ L.getD j 0 = x := by
  by_cases h : 0 ≤ i ∧ i < (L.length : Int)
  · right
    refine ⟨i.toNat, L[i.toNat]'(by omega), by omega, by omega, List.getElem?_eq_getElem _, ?_⟩
    rw [List.getD_eq_getElem?_getD, List.getElem?_eq_getElem (by omega)]; rfl
  · exact .inl h
section
variable {w w' : World} {g b : Nat} {each : Int} {L : List Int}
set_option maxRecDepth 100000 in
theorem qmade (h : Qt 124 w g b each L) : Calls Try.prog 67 #[.pointer (some ⟨g, 0, none⟩)] w fun e w' => e = .returned (.bool true) ∧ w = w' := by
  have k0 := h.c0
  have qT := neq_slq
  clear h
  go_enter Try.func67, Try.ntmps67
  go_wp2
  go_ret
  exact ⟨rfl, rfl⟩
set_option maxRecDepth 100000 in
theorem qthere (h : Qt 124 w g b each L) (i : Int) : Calls Try.prog 68 #[.pointer (some ⟨g, 0, none⟩), .int .i64 i] w fun e w' => e = .returned (.bool (decide (0 ≤ i ∧ i < (L.length : Int)))) ∧ w = w' := by
  have k0 := h.c0
  clear h
  by_cases h1 : 0 ≤ i
  · have d1 : decide (i ≥ 0) = true := decide_eq_true h1
    have d2 : decide (0 ≤ i) = true := d1
    have e : decide (0 ≤ i ∧ i < (L.length : Int)) = decide (i < (L.length : Int)) := by simp [h1]
    rw [e]
    clear e h1
    go_enter Try.func68, Try.ntmps68
    go_wp2
    go_ret
    exact ⟨rfl, rfl⟩
  · have d1 : decide (i ≥ 0) = false := decide_eq_false h1
    have d2 : decide (0 ≤ i) = false := d1
    have e : decide (0 ≤ i ∧ i < (L.length : Int)) = false := by simp [h1]
    rw [e]
    clear e h1
    go_enter Try.func68, Try.ntmps68
    go_wp2
    go_ret
    exact ⟨rfl, rfl⟩
set_option maxRecDepth 100000 in
theorem qtake_out (h : Qt 124 w g b each L) (i : Int) (ho : ¬ (0 ≤ i ∧ i < (L.length : Int))) : Calls Try.prog 32 #[.pointer (some ⟨g, 0, none⟩), .int .i64 i] w fun e w' => e = .returned (.int .i64 1) ∧ w = w' := by
  have HK := Lib.hid h
  have k0 := h.c0
  obtain ⟨n, hn⟩ : ∃ n, n = L.length := ⟨_, rfl⟩
  rw [← hn] at ho k0
  have D : Hid (decide (0 ≤ i ∧ i < (L.length : Int)) = false) := Lib.hid (by rw [← hn]; exact decide_eq_false ho)
  clear h hn
  clear ho
  go_enter Try.func32, Try.ntmps32
  go_wp2_with (first
    | (go_at_call 67; refine (qmade HK.out).mono ?_; rintro e w1 ⟨rfl, rfl⟩)
    | (go_at_call 68; refine (qthere HK.out _).mono ?_; rintro e w1 ⟨rfl, rfl⟩; rw [D.out]))
  go_ret
  exact ⟨rfl, rfl⟩
set_option maxRecDepth 100000 in
theorem qgive_out (h : Qt 124 w g b each L) (i : Int) (ho : ¬ (0 ≤ i ∧ i < (L.length : Int))) : Calls Try.prog 30 #[.pointer (some ⟨g, 0, none⟩), .int .i64 i] w fun e w' => e = .returned (.int .i64 1) ∧ w = w' := by
  have HK := Lib.hid h
  have k0 := h.c0
  obtain ⟨n, hn⟩ : ∃ n, n = L.length := ⟨_, rfl⟩
  rw [← hn] at ho k0
  have D : Hid (decide (0 ≤ i ∧ i < (L.length : Int)) = false) := Lib.hid (by rw [← hn]; exact decide_eq_false ho)
  clear h hn
  clear ho
  go_enter Try.func30, Try.ntmps30
  go_wp2_with (first
    | (go_at_call 67; refine (qmade HK.out).mono ?_; rintro e w1 ⟨rfl, rfl⟩)
    | (go_at_call 68; refine (qthere HK.out _).mono ?_; rintro e w1 ⟨rfl, rfl⟩; rw [D.out]))
  go_ret
  exact ⟨rfl, rfl⟩
set_option maxRecDepth 100000 in
theorem qcount_out (h : Qt 124 w g b each L) (i : Int) (ho : ¬ (0 ≤ i ∧ i < (L.length : Int))) : Calls Try.prog 34 #[.pointer (some ⟨g, 0, none⟩), .int .i64 i] w fun e w' => e = .returned (.int .i64 0) ∧ w = w' := by
  have HK := Lib.hid h
  have k0 := h.c0
  obtain ⟨n, hn⟩ : ∃ n, n = L.length := ⟨_, rfl⟩
  rw [← hn] at ho k0
  have D : Hid (decide (0 ≤ i ∧ i < (L.length : Int)) = false) := Lib.hid (by rw [← hn]; exact decide_eq_false ho)
  clear h hn
  clear ho
  go_enter Try.func34, Try.ntmps34
  go_wp2_with (first
    | (go_at_call 67; refine (qmade HK.out).mono ?_; rintro e w1 ⟨rfl, rfl⟩)
    | (go_at_call 68; refine (qthere HK.out _).mono ?_; rintro e w1 ⟨rfl, rfl⟩; rw [D.out]))
  go_ret
  exact ⟨rfl, rfl⟩
set_option maxRecDepth 100000 in
theorem qcount_in (h : Qt 124 w g b each L) {j : Nat} {x : Int} (hj : j < L.length) (hx : L[j]? = some x) : Calls Try.prog 34 #[.pointer (some ⟨g, 0, none⟩), .int .i64 (j : Int)] w fun e w' => e = .returned (.int .i64 x) ∧ w = w' := by
  have HK := Lib.hid h
  have k0 := h.c0
  have k1 := h.c1
  have kx := h.at_ hx
  have kf := h.fr j
  have HX : 0 ≤ x ∧ x ≤ each := h.bd x (List.mem_of_getElem? hx)
  have HE := h.e
  have D : Hid (decide (0 ≤ (j : Int) ∧ (j : Int) < (L.length : Int)) = true) := Lib.hid (decide_eq_true (by omega))
  obtain ⟨n, hn⟩ : ∃ n, n = L.length := ⟨_, rfl⟩
  rw [← hn] at hj k0
  have d1 : decide ((j : Int) < 0) = false := decide_eq_false (by omega)
  have d2 : decide ((j : Int) ≥ (n : Int)) = false := decide_eq_false (by omega)
  have d3 : decide ((n : Int) ≤ (j : Int)) = false := d2
  clear h hx HX HE hn
  go_enter Try.func34, Try.ntmps34
  go_wp2_with (first
    | (go_at_call 67; refine (qmade HK.out).mono ?_; rintro e w1 ⟨rfl, rfl⟩)
    | (go_at_call 68; refine (qthere HK.out _).mono ?_; rintro e w1 ⟨rfl, rfl⟩; rw [D.out]))
  go_ret
  exact ⟨rfl, rfl⟩
set_option maxRecDepth 100000 in
theorem qtake_full (h : Qt 124 w g b each L) {j : Nat} {x : Int} (hj : j < L.length) (hx : L[j]? = some x) (hf : x ≥ each) : Calls Try.prog 32 #[.pointer (some ⟨g, 0, none⟩), .int .i64 (j : Int)] w fun e w' => e = .returned (.int .i64 10) ∧ Below w.heap.size w w' := by
  have HK := Lib.hid h
  have k0 := h.c0
  have k1 := h.c1
  have kx := h.at_ hx
  have kf := h.fr j
  have HX : 0 ≤ x ∧ x ≤ each := h.bd x (List.mem_of_getElem? hx)
  have HE := h.e
  have D : Hid (decide (0 ≤ (j : Int) ∧ (j : Int) < (L.length : Int)) = true) := Lib.hid (decide_eq_true (by omega))
  obtain ⟨n, hn⟩ : ∃ n, n = L.length := ⟨_, rfl⟩
  rw [← hn] at hj k0
  have d1 : decide ((j : Int) < 0) = false := decide_eq_false (by omega)
  have d2 : decide ((j : Int) ≥ (n : Int)) = false := decide_eq_false (by omega)
  have d3 : decide ((n : Int) ≤ (j : Int)) = false := d2
  have D5 : Hid (decide (x ≥ each) = true) := Lib.hid (decide_eq_true hf)
  have HW : Hid (IntKind.i64.wrap (x + 1) = x + 1) := Lib.hid (IntWalk.i64_in _ (by omega))
  have KC0 : Hid (∀ V, Below w.heap.size w V → V.cell? ⟨g, 0, none⟩ = some (.slice (some ⟨b, 0, none⟩) n n)) := Lib.hid (fun V hV => by rw [hn]; exact (h.below hV).c0)
  have KC1 : Hid (∀ V, Below w.heap.size w V → V.cell? ⟨g, 1, none⟩ = some (.int .i64 each)) := Lib.hid (fun V hV => (h.below hV).c1)
  have KX : Hid (∀ V, Below w.heap.size w V → V.cell? ⟨b, j, none⟩ = some (.int .i64 x)) := Lib.hid (fun V hV => (h.below hV).at_ hx)
  have KF : Hid (∀ V, Below w.heap.size w V → V.frozen? ⟨b, j, none⟩ = false) := Lib.hid (fun V hV => (h.below hV).fr j)
  have HB := Lib.hid hf
  clear h hx hn hf
  go_enter Try.func32, Try.ntmps32
  go_upto_region 5 with (first
    | (go_at_call 67; refine (qmade HK.out).mono ?_; rintro e w1 ⟨rfl, rfl⟩)
    | (go_at_call 68; refine (qthere HK.out _).mono ?_; rintro e w1 ⟨rfl, rfl⟩; rw [D.out]))
  refine wp_region_held_drew (S := fun w' => Below w.heap.size w w') (by kernel_rfl) (Below.refl _ w).drew (fun hS => ?_)
  refine held_pure (i := 0) (oi := ⟨some 15, _, _, _, _, _⟩) rfl (by kernel_rfl) (by kernel_rfl) (by kernel_rfl) (fun _ _ _ h => h) (by rfl) (v := ?_) (fun w hSw => ?_) hS (fun hS => ?_)
  rotate_left
  · go_simp; try with_reducible rfl
  try go_frame
  refine held_pure (i := 1) (oi := ⟨some 16, _, _, _, _, _⟩) rfl (by kernel_rfl) (by kernel_rfl) (by kernel_rfl) (fun _ _ _ h => h) (by rfl) (v := ?_) (fun w hSw => ?_) hS (fun hS => ?_)
  rotate_left
  · go_simp; try with_reducible rfl
  try go_frame
  refine held_pure (i := 2) (oi := ⟨some 17, _, _, _, _, _⟩) rfl (by kernel_rfl) (by kernel_rfl) (by kernel_rfl) (fun _ _ _ h => h) (by rfl) (v := ?_) (fun w hSw => ?_) hS (fun hS => ?_)
  rotate_left
  · go_simp; try with_reducible rfl
  try go_frame
  refine held_pure (i := 3) (oi := ⟨some 18, _, _, _, _, _⟩) rfl (by kernel_rfl) (by kernel_rfl) (by kernel_rfl) (fun _ _ _ h => h) (by rfl) (fun w hSw => run_load_slq rfl rfl (KC0.out w hSw)) hS (fun hS => ?_)
  try go_frame
  refine held_pure (i := 4) (oi := ⟨some 19, _, _, _, _, _⟩) rfl (by kernel_rfl) (by kernel_rfl) (by kernel_rfl) (fun _ _ _ h => h) (by rfl) (v := ?_) (fun w hSw => ?_) hS (fun hS => ?_)
  rotate_left
  · go_simp; try with_reducible rfl
  try go_frame
  refine held_pure (i := 5) (oi := ⟨some 20, _, _, _, _, _⟩) rfl (by kernel_rfl) (by kernel_rfl) (by kernel_rfl) (fun _ _ _ h => h) (by rfl) (v := ?_) (fun w hSw => ?_) hS (fun hS => ?_)
  rotate_left
  · go_simp; try with_reducible rfl
  try go_frame
  refine held_pure (i := 6) (oi := ⟨some 21, _, _, _, _, _⟩) rfl (by kernel_rfl) (by kernel_rfl) (by kernel_rfl) (fun _ _ _ h => h) (by rfl) (fun w hSw => run_load_int rfl rfl (KX.out w hSw)) hS (fun hS => ?_)
  try go_frame
  refine held_pure (i := 7) (oi := ⟨some 22, _, _, _, _, _⟩) rfl (by kernel_rfl) (by kernel_rfl) (by kernel_rfl) (fun _ _ _ h => h) (by rfl) (v := ?_) (fun w hSw => ?_) hS (fun hS => ?_)
  rotate_left
  · go_simp; try with_reducible rfl
  try go_frame
  refine held_pure (i := 8) (oi := ⟨some 23, _, _, _, _, _⟩) rfl (by kernel_rfl) (by kernel_rfl) (by kernel_rfl) (fun _ _ _ h => h) (by rfl) (v := ?_) (fun w hSw => ?_) hS (fun hS => ?_)
  rotate_left
  · go_simp; try with_reducible rfl
  try go_frame
  refine held_pure (i := 9) (oi := ⟨some 24, _, _, _, _, _⟩) rfl (by kernel_rfl) (by kernel_rfl) (by kernel_rfl) (fun _ _ _ h => h) (by rfl) (v := ?_) (fun w hSw => ?_) hS (fun hS => ?_)
  rotate_left
  · go_simp; try with_reducible rfl
  try go_frame
  refine held_pure (i := 10) (oi := ⟨some 25, _, _, _, _, _⟩) rfl (by kernel_rfl) (by kernel_rfl) (by kernel_rfl) (fun _ _ _ h => h) (by rfl) (fun w hSw => run_load_int rfl rfl (KC1.out w hSw)) hS (fun hS => ?_)
  try go_frame
  refine held_pure (i := 11) (oi := ⟨some 26, _, _, _, _, _⟩) rfl (by kernel_rfl) (by kernel_rfl) (by kernel_rfl) (fun _ _ _ h => h) (by rfl) (v := .bool true) (fun w hSw => by go_simp; (have hh := HB.out; omega)) hS (fun hS => ?_)
  try go_frame
  refine held_pure (i := 12) (oi := ⟨some 14, _, _, _, _, _⟩) rfl (by kernel_rfl) (by kernel_rfl) (by kernel_rfl) (fun _ _ _ h => h) (by rfl) (v := ?_) (fun w hSw => ?_) hS (fun hS => ?_)
  rotate_left
  · go_simp; try with_reducible rfl
  try go_frame
  refine wpAnyH_done (by kernel_rfl) ?_ _
  go_wp2_with fail
  go_ret
  exact ⟨rfl, hS⟩
set_option maxRecDepth 100000 in
theorem qtake_ok (h : Qt 124 w g b each L) {j : Nat} {x : Int} (hj : j < L.length) (hx : L[j]? = some x) (hf : ¬ x ≥ each) : Calls Try.prog 32 #[.pointer (some ⟨g, 0, none⟩), .int .i64 (j : Int)] w fun e w' => e = .returned (.int .i64 0) ∧ ∃ v, Below w.heap.size w v ∧ w' = v.setCell ⟨b, j, none⟩ (.int .i64 (x + 1)) := by
  have HK := Lib.hid h
  have k0 := h.c0
  have k1 := h.c1
  have kx := h.at_ hx
  have kf := h.fr j
  have HX : 0 ≤ x ∧ x ≤ each := h.bd x (List.mem_of_getElem? hx)
  have HE := h.e
  have D : Hid (decide (0 ≤ (j : Int) ∧ (j : Int) < (L.length : Int)) = true) := Lib.hid (decide_eq_true (by omega))
  obtain ⟨n, hn⟩ : ∃ n, n = L.length := ⟨_, rfl⟩
  rw [← hn] at hj k0
  have d1 : decide ((j : Int) < 0) = false := decide_eq_false (by omega)
  have d2 : decide ((j : Int) ≥ (n : Int)) = false := decide_eq_false (by omega)
  have d3 : decide ((n : Int) ≤ (j : Int)) = false := d2
  have D5 : Hid (decide (x ≥ each) = false) := Lib.hid (decide_eq_false hf)
  have HW : Hid (IntKind.i64.wrap (x + 1) = x + 1) := Lib.hid (IntWalk.i64_in _ (by omega))
  have KC0 : Hid (∀ V, Below w.heap.size w V → V.cell? ⟨g, 0, none⟩ = some (.slice (some ⟨b, 0, none⟩) n n)) := Lib.hid (fun V hV => by rw [hn]; exact (h.below hV).c0)
  have KC1 : Hid (∀ V, Below w.heap.size w V → V.cell? ⟨g, 1, none⟩ = some (.int .i64 each)) := Lib.hid (fun V hV => (h.below hV).c1)
  have KX : Hid (∀ V, Below w.heap.size w V → V.cell? ⟨b, j, none⟩ = some (.int .i64 x)) := Lib.hid (fun V hV => (h.below hV).at_ hx)
  have KF : Hid (∀ V, Below w.heap.size w V → V.frozen? ⟨b, j, none⟩ = false) := Lib.hid (fun V hV => (h.below hV).fr j)
  have HB := Lib.hid hf
  clear h hx hn hf
  go_enter Try.func32, Try.ntmps32
  go_upto_region 5 with (first
    | (go_at_call 67; refine (qmade HK.out).mono ?_; rintro e w1 ⟨rfl, rfl⟩)
    | (go_at_call 68; refine (qthere HK.out _).mono ?_; rintro e w1 ⟨rfl, rfl⟩; rw [D.out]))
  refine wp_region_held_drew (S := fun w' => Below w.heap.size w w') (by kernel_rfl) (Below.refl _ w).drew (fun hS => ?_)
  refine held_pure (i := 0) (oi := ⟨some 15, _, _, _, _, _⟩) rfl (by kernel_rfl) (by kernel_rfl) (by kernel_rfl) (fun _ _ _ h => h) (by rfl) (v := ?_) (fun w hSw => ?_) hS (fun hS => ?_)
  rotate_left
  · go_simp; try with_reducible rfl
  try go_frame
  refine held_pure (i := 1) (oi := ⟨some 16, _, _, _, _, _⟩) rfl (by kernel_rfl) (by kernel_rfl) (by kernel_rfl) (fun _ _ _ h => h) (by rfl) (v := ?_) (fun w hSw => ?_) hS (fun hS => ?_)
  rotate_left
  · go_simp; try with_reducible rfl
  try go_frame
  refine held_pure (i := 2) (oi := ⟨some 17, _, _, _, _, _⟩) rfl (by kernel_rfl) (by kernel_rfl) (by kernel_rfl) (fun _ _ _ h => h) (by rfl) (v := ?_) (fun w hSw => ?_) hS (fun hS => ?_)
  rotate_left
  · go_simp; try with_reducible rfl
  try go_frame
  refine held_pure (i := 3) (oi := ⟨some 18, _, _, _, _, _⟩) rfl (by kernel_rfl) (by kernel_rfl) (by kernel_rfl) (fun _ _ _ h => h) (by rfl) (fun w hSw => run_load_slq rfl rfl (KC0.out w hSw)) hS (fun hS => ?_)
  try go_frame
  refine held_pure (i := 4) (oi := ⟨some 19, _, _, _, _, _⟩) rfl (by kernel_rfl) (by kernel_rfl) (by kernel_rfl) (fun _ _ _ h => h) (by rfl) (v := ?_) (fun w hSw => ?_) hS (fun hS => ?_)
  rotate_left
  · go_simp; try with_reducible rfl
  try go_frame
  refine held_pure (i := 5) (oi := ⟨some 20, _, _, _, _, _⟩) rfl (by kernel_rfl) (by kernel_rfl) (by kernel_rfl) (fun _ _ _ h => h) (by rfl) (v := ?_) (fun w hSw => ?_) hS (fun hS => ?_)
  rotate_left
  · go_simp; try with_reducible rfl
  try go_frame
  refine held_pure (i := 6) (oi := ⟨some 21, _, _, _, _, _⟩) rfl (by kernel_rfl) (by kernel_rfl) (by kernel_rfl) (fun _ _ _ h => h) (by rfl) (fun w hSw => run_load_int rfl rfl (KX.out w hSw)) hS (fun hS => ?_)
  try go_frame
  refine held_pure (i := 7) (oi := ⟨some 22, _, _, _, _, _⟩) rfl (by kernel_rfl) (by kernel_rfl) (by kernel_rfl) (fun _ _ _ h => h) (by rfl) (v := ?_) (fun w hSw => ?_) hS (fun hS => ?_)
  rotate_left
  · go_simp; try with_reducible rfl
  try go_frame
  refine held_pure (i := 8) (oi := ⟨some 23, _, _, _, _, _⟩) rfl (by kernel_rfl) (by kernel_rfl) (by kernel_rfl) (fun _ _ _ h => h) (by rfl) (v := ?_) (fun w hSw => ?_) hS (fun hS => ?_)
  rotate_left
  · go_simp; try with_reducible rfl
  try go_frame
  refine held_pure (i := 9) (oi := ⟨some 24, _, _, _, _, _⟩) rfl (by kernel_rfl) (by kernel_rfl) (by kernel_rfl) (fun _ _ _ h => h) (by rfl) (v := ?_) (fun w hSw => ?_) hS (fun hS => ?_)
  rotate_left
  · go_simp; try with_reducible rfl
  try go_frame
  refine held_pure (i := 10) (oi := ⟨some 25, _, _, _, _, _⟩) rfl (by kernel_rfl) (by kernel_rfl) (by kernel_rfl) (fun _ _ _ h => h) (by rfl) (fun w hSw => run_load_int rfl rfl (KC1.out w hSw)) hS (fun hS => ?_)
  try go_frame
  refine held_pure (i := 11) (oi := ⟨some 26, _, _, _, _, _⟩) rfl (by kernel_rfl) (by kernel_rfl) (by kernel_rfl) (fun _ _ _ h => h) (by rfl) (v := .bool false) (fun w hSw => by go_simp; (have hh := HB.out; omega)) hS (fun hS => ?_)
  try go_frame
  refine held_pure (i := 12) (oi := ⟨some 14, _, _, _, _, _⟩) rfl (by kernel_rfl) (by kernel_rfl) (by kernel_rfl) (fun _ _ _ h => h) (by rfl) (v := ?_) (fun w hSw => ?_) hS (fun hS => ?_)
  rotate_left
  · go_simp; try with_reducible rfl
  try go_frame
  refine wpAnyH_done (by kernel_rfl) ?_ _
  have q0 := KC0.out _ hS
  have q1 := KX.out _ hS
  have q2 := KF.out _ hS
  have q3 := HW.out
  go_wp2_with fail
  go_ret
  exact ⟨rfl, _, hS, rfl⟩
set_option maxRecDepth 100000 in
theorem qgive_none (h : Qt 124 w g b each L) {j : Nat} {x : Int} (hj : j < L.length) (hx : L[j]? = some x) (hf : x = 0) : Calls Try.prog 30 #[.pointer (some ⟨g, 0, none⟩), .int .i64 (j : Int)] w fun e w' => e = .returned (.int .i64 8) ∧ w = w' := by
  have HK := Lib.hid h
  have k0 := h.c0
  have k1 := h.c1
  have kx := h.at_ hx
  have kf := h.fr j
  have HX : 0 ≤ x ∧ x ≤ each := h.bd x (List.mem_of_getElem? hx)
  have HE := h.e
  have D : Hid (decide (0 ≤ (j : Int) ∧ (j : Int) < (L.length : Int)) = true) := Lib.hid (decide_eq_true (by omega))
  obtain ⟨n, hn⟩ : ∃ n, n = L.length := ⟨_, rfl⟩
  rw [← hn] at hj k0
  have d1 : decide ((j : Int) < 0) = false := decide_eq_false (by omega)
  have d2 : decide ((j : Int) ≥ (n : Int)) = false := decide_eq_false (by omega)
  have d3 : decide ((n : Int) ≤ (j : Int)) = false := d2
  have d5 : (x == 0) = true := by simpa using hf
  have q3 : IntKind.i64.wrap (x - 1) = x - 1 := IntWalk.i64_in _ (by omega)
  clear h hx hn hf
  go_enter Try.func30, Try.ntmps30
  go_wp2_with (first
    | (go_at_call 67; refine (qmade HK.out).mono ?_; rintro e w1 ⟨rfl, rfl⟩)
    | (go_at_call 68; refine (qthere HK.out _).mono ?_; rintro e w1 ⟨rfl, rfl⟩; rw [D.out]))
  go_ret
  exact ⟨rfl, rfl⟩
set_option maxRecDepth 100000 in
theorem qgive_ok (h : Qt 124 w g b each L) {j : Nat} {x : Int} (hj : j < L.length) (hx : L[j]? = some x) (hf : ¬ x = 0) : Calls Try.prog 30 #[.pointer (some ⟨g, 0, none⟩), .int .i64 (j : Int)] w fun e w' => e = .returned (.int .i64 0) ∧ w' = w.setCell ⟨b, j, none⟩ (.int .i64 (x - 1)) := by
  have HK := Lib.hid h
  have k0 := h.c0
  have k1 := h.c1
  have kx := h.at_ hx
  have kf := h.fr j
  have HX : 0 ≤ x ∧ x ≤ each := h.bd x (List.mem_of_getElem? hx)
  have HE := h.e
  have D : Hid (decide (0 ≤ (j : Int) ∧ (j : Int) < (L.length : Int)) = true) := Lib.hid (decide_eq_true (by omega))
  obtain ⟨n, hn⟩ : ∃ n, n = L.length := ⟨_, rfl⟩
  rw [← hn] at hj k0
  have d1 : decide ((j : Int) < 0) = false := decide_eq_false (by omega)
  have d2 : decide ((j : Int) ≥ (n : Int)) = false := decide_eq_false (by omega)
  have d3 : decide ((n : Int) ≤ (j : Int)) = false := d2
  have d5 : (x == 0) = false := by simpa using hf
  have q3 : IntKind.i64.wrap (x - 1) = x - 1 := IntWalk.i64_in _ (by omega)
  clear h hx hn hf
  go_enter Try.func30, Try.ntmps30
  go_wp2_with (first
    | (go_at_call 67; refine (qmade HK.out).mono ?_; rintro e w1 ⟨rfl, rfl⟩)
    | (go_at_call 68; refine (qthere HK.out _).mono ?_; rintro e w1 ⟨rfl, rfl⟩; rw [D.out]))
  go_ret
  exact ⟨rfl, rfl⟩
set_option maxRecDepth 100000 in
theorem qtotal (h : Qt 124 w g b each L) : Calls Try.prog 36 #[.pointer (some ⟨g, 0, none⟩)] w fun e w' => e = .returned (.int .i64 (sumQ L)) ∧ w = w' := by
  have HK := Lib.hid h
  have k0 := h.c0
  obtain ⟨n, hn⟩ : ∃ n, n = L.length := ⟨_, rfl⟩
  rw [← hn] at k0
  have HN := Lib.hid hn
  have n64 : n ≤ 64 := by rw [hn]; exact h.n
  clear h hn
  go_enter Try.func36, Try.ntmps36
  go_wp2_with (go_at_call 67; refine (qmade HK.out).mono ?_; rintro e w1 ⟨rfl, rfl⟩)
  go_loop [3, 14] (fun s i => ∃ k : Nat, k ≤ n ∧ i = .int .i64 (k : Int) ∧ s = .int .i64 (sumQ (L.take k))) (fun _ i => n - (intOf i).toNat)
  case atStart => exact ⟨0, Nat.zero_le _, rfl, rfl⟩
  case round =>
    obtain ⟨k, hk, rfl, rfl⟩ := hrel
    by_cases hlt : k < n
    · obtain ⟨x, hx⟩ : ∃ x, L[k]? = some x := ⟨_, List.getElem?_eq_getElem (by rw [← HN.out]; exact hlt)⟩
      have kx := HK.out.at_ hx
      have HX := HK.out.bd x (List.mem_of_getElem? hx)
      have hs := sumQ_take hx
      have hb := sumQ_le HK.out.bd HK.out.n HK.out.e k
      have he := HK.out.e
      generalize sumQ (L.take k) = s at *
      have q3 : IntKind.i64.wrap (s + x) = s + x := IntWalk.i64_in _ (by omega)
      have HS := Lib.hid hs
      clear hx hs
      go_wp2
      go_round
      case rel => exact ⟨k + 1, by omega, by simp, by rw [HS.out]⟩
      case measure => simp [intOf]; omega
    · obtain rfl : n = k := by omega
      have e : L.take n = L := List.take_of_length_le (by rw [← HN.out]; exact Nat.le_refl _)
      rw [e]
      clear e
      go_wp2
      go_ret
      exact ⟨rfl, rfl⟩
end
section
variable {w w' : World} {g b : Nat} {each : Int} {L : List Int}
set_option maxRecDepth 100000 in
theorem rtake_out (h : Qt 126 w g b each L) (i : Int) (ho : ¬ (0 ≤ i ∧ i < (L.length : Int))) : Calls Try.prog 33 #[.pointer (some ⟨g, 0, none⟩), .int .i64 i] w fun e w' => e = .returned (.int .i64 1) ∧ w = w' := by
  have HK := Lib.hid h
  have k0 := h.c0
  obtain ⟨n, hn⟩ : ∃ n, n = L.length := ⟨_, rfl⟩
  rw [← hn] at ho k0
  have D : Hid (decide (0 ≤ i ∧ i < (L.length : Int)) = false) := Lib.hid (by rw [← hn]; exact decide_eq_false ho)
  clear h hn
  by_cases h1 : i < 0
  · have d1 : decide (i < 0) = true := decide_eq_true h1
    clear ho h1
    go_enter Try.func33, Try.ntmps33
    go_wp2
    go_ret
    exact ⟨rfl, rfl⟩
  · have d1 : decide (i < 0) = false := decide_eq_false h1
    have d2 : decide (i ≥ (n : Int)) = true := decide_eq_true (by omega)
    have d3 : decide ((n : Int) ≤ i) = true := d2
    clear ho h1
    go_enter Try.func33, Try.ntmps33
    go_wp2
    go_ret
    exact ⟨rfl, rfl⟩
set_option maxRecDepth 100000 in
theorem rgive_out (h : Qt 126 w g b each L) (i : Int) (ho : ¬ (0 ≤ i ∧ i < (L.length : Int))) : Calls Try.prog 31 #[.pointer (some ⟨g, 0, none⟩), .int .i64 i] w fun e w' => e = .returned (.int .i64 1) ∧ w = w' := by
  have HK := Lib.hid h
  have k0 := h.c0
  obtain ⟨n, hn⟩ : ∃ n, n = L.length := ⟨_, rfl⟩
  rw [← hn] at ho k0
  have D : Hid (decide (0 ≤ i ∧ i < (L.length : Int)) = false) := Lib.hid (by rw [← hn]; exact decide_eq_false ho)
  clear h hn
  by_cases h1 : i < 0
  · have d1 : decide (i < 0) = true := decide_eq_true h1
    clear ho h1
    go_enter Try.func31, Try.ntmps31
    go_wp2
    go_ret
    exact ⟨rfl, rfl⟩
  · have d1 : decide (i < 0) = false := decide_eq_false h1
    have d2 : decide (i ≥ (n : Int)) = true := decide_eq_true (by omega)
    have d3 : decide ((n : Int) ≤ i) = true := d2
    clear ho h1
    go_enter Try.func31, Try.ntmps31
    go_wp2
    go_ret
    exact ⟨rfl, rfl⟩
set_option maxRecDepth 100000 in
theorem rcount_out (h : Qt 126 w g b each L) (i : Int) (ho : ¬ (0 ≤ i ∧ i < (L.length : Int))) : Calls Try.prog 35 #[.pointer (some ⟨g, 0, none⟩), .int .i64 i] w fun e w' => e = .returned (.int .i64 0) ∧ w = w' := by
  have HK := Lib.hid h
  have k0 := h.c0
  obtain ⟨n, hn⟩ : ∃ n, n = L.length := ⟨_, rfl⟩
  rw [← hn] at ho k0
  have D : Hid (decide (0 ≤ i ∧ i < (L.length : Int)) = false) := Lib.hid (by rw [← hn]; exact decide_eq_false ho)
  clear h hn
  by_cases h1 : i < 0
  · have d1 : decide (i < 0) = true := decide_eq_true h1
    clear ho h1
    go_enter Try.func35, Try.ntmps35
    go_wp2
    go_ret
    exact ⟨rfl, rfl⟩
  · have d1 : decide (i < 0) = false := decide_eq_false h1
    have d2 : decide (i ≥ (n : Int)) = true := decide_eq_true (by omega)
    have d3 : decide ((n : Int) ≤ i) = true := d2
    clear ho h1
    go_enter Try.func35, Try.ntmps35
    go_wp2
    go_ret
    exact ⟨rfl, rfl⟩
set_option maxRecDepth 100000 in
theorem rcount_in (h : Qt 126 w g b each L) {j : Nat} {x : Int} (hj : j < L.length) (hx : L[j]? = some x) : Calls Try.prog 35 #[.pointer (some ⟨g, 0, none⟩), .int .i64 (j : Int)] w fun e w' => e = .returned (.int .i64 x) ∧ w = w' := by
  have HK := Lib.hid h
  have k0 := h.c0
  have k1 := h.c1
  have kx := h.at_ hx
  have kf := h.fr j
  have HX : 0 ≤ x ∧ x ≤ each := h.bd x (List.mem_of_getElem? hx)
  have HE := h.e
  have D : Hid (decide (0 ≤ (j : Int) ∧ (j : Int) < (L.length : Int)) = true) := Lib.hid (decide_eq_true (by omega))
  obtain ⟨n, hn⟩ : ∃ n, n = L.length := ⟨_, rfl⟩
  rw [← hn] at hj k0
  have d1 : decide ((j : Int) < 0) = false := decide_eq_false (by omega)
  have d2 : decide ((j : Int) ≥ (n : Int)) = false := decide_eq_false (by omega)
  have d3 : decide ((n : Int) ≤ (j : Int)) = false := d2
  clear h hx HX HE hn
  go_enter Try.func35, Try.ntmps35
  go_wp2
  go_ret
  exact ⟨rfl, rfl⟩
set_option maxRecDepth 100000 in
theorem rtake_full (h : Qt 126 w g b each L) {j : Nat} {x : Int} (hj : j < L.length) (hx : L[j]? = some x) (hf : x ≥ each) : Calls Try.prog 33 #[.pointer (some ⟨g, 0, none⟩), .int .i64 (j : Int)] w fun e w' => e = .returned (.int .i64 10) ∧ Below w.heap.size w w' := by
  have HK := Lib.hid h
  have k0 := h.c0
  have k1 := h.c1
  have kx := h.at_ hx
  have kf := h.fr j
  have HX : 0 ≤ x ∧ x ≤ each := h.bd x (List.mem_of_getElem? hx)
  have HE := h.e
  have D : Hid (decide (0 ≤ (j : Int) ∧ (j : Int) < (L.length : Int)) = true) := Lib.hid (decide_eq_true (by omega))
  obtain ⟨n, hn⟩ : ∃ n, n = L.length := ⟨_, rfl⟩
  rw [← hn] at hj k0
  have d1 : decide ((j : Int) < 0) = false := decide_eq_false (by omega)
  have d2 : decide ((j : Int) ≥ (n : Int)) = false := decide_eq_false (by omega)
  have d3 : decide ((n : Int) ≤ (j : Int)) = false := d2
  have D5 : Hid (decide (x ≥ each) = true) := Lib.hid (decide_eq_true hf)
  have HW : Hid (IntKind.i64.wrap (x + 1) = x + 1) := Lib.hid (IntWalk.i64_in _ (by omega))
  have KC0 : Hid (∀ V, Below w.heap.size w V → V.cell? ⟨g, 0, none⟩ = some (.slice (some ⟨b, 0, none⟩) n n)) := Lib.hid (fun V hV => by rw [hn]; exact (h.below hV).c0)
  have KC1 : Hid (∀ V, Below w.heap.size w V → V.cell? ⟨g, 1, none⟩ = some (.int .i64 each)) := Lib.hid (fun V hV => (h.below hV).c1)
  have KX : Hid (∀ V, Below w.heap.size w V → V.cell? ⟨b, j, none⟩ = some (.int .i64 x)) := Lib.hid (fun V hV => (h.below hV).at_ hx)
  have KF : Hid (∀ V, Below w.heap.size w V → V.frozen? ⟨b, j, none⟩ = false) := Lib.hid (fun V hV => (h.below hV).fr j)
  have HB := Lib.hid hf
  clear h hx hn hf
  go_enter Try.func33, Try.ntmps33
  go_upto_region 3 with fail
  refine wp_region_held_drew (S := fun w' => Below w.heap.size w w') (by kernel_rfl) (Below.refl _ w).drew (fun hS => ?_)
  refine held_pure (i := 0) (oi := ⟨some 18, _, _, _, _, _⟩) rfl (by kernel_rfl) (by kernel_rfl) (by kernel_rfl) (fun _ _ _ h => h) (by rfl) (v := ?_) (fun w hSw => ?_) hS (fun hS => ?_)
  rotate_left
  · go_simp; try with_reducible rfl
  try go_frame
  refine held_pure (i := 1) (oi := ⟨some 19, _, _, _, _, _⟩) rfl (by kernel_rfl) (by kernel_rfl) (by kernel_rfl) (fun _ _ _ h => h) (by rfl) (v := ?_) (fun w hSw => ?_) hS (fun hS => ?_)
  rotate_left
  · go_simp; try with_reducible rfl
  try go_frame
  refine held_pure (i := 2) (oi := ⟨some 20, _, _, _, _, _⟩) rfl (by kernel_rfl) (by kernel_rfl) (by kernel_rfl) (fun _ _ _ h => h) (by rfl) (v := ?_) (fun w hSw => ?_) hS (fun hS => ?_)
  rotate_left
  · go_simp; try with_reducible rfl
  try go_frame
  refine held_pure (i := 3) (oi := ⟨some 21, _, _, _, _, _⟩) rfl (by kernel_rfl) (by kernel_rfl) (by kernel_rfl) (fun _ _ _ h => h) (by rfl) (fun w hSw => run_load_slq rfl rfl (KC0.out w hSw)) hS (fun hS => ?_)
  try go_frame
  refine held_pure (i := 4) (oi := ⟨some 22, _, _, _, _, _⟩) rfl (by kernel_rfl) (by kernel_rfl) (by kernel_rfl) (fun _ _ _ h => h) (by rfl) (v := ?_) (fun w hSw => ?_) hS (fun hS => ?_)
  rotate_left
  · go_simp; try with_reducible rfl
  try go_frame
  refine held_pure (i := 5) (oi := ⟨some 23, _, _, _, _, _⟩) rfl (by kernel_rfl) (by kernel_rfl) (by kernel_rfl) (fun _ _ _ h => h) (by rfl) (v := ?_) (fun w hSw => ?_) hS (fun hS => ?_)
  rotate_left
  · go_simp; try with_reducible rfl
  try go_frame
  refine held_pure (i := 6) (oi := ⟨some 24, _, _, _, _, _⟩) rfl (by kernel_rfl) (by kernel_rfl) (by kernel_rfl) (fun _ _ _ h => h) (by rfl) (fun w hSw => run_load_int rfl rfl (KX.out w hSw)) hS (fun hS => ?_)
  try go_frame
  refine held_pure (i := 7) (oi := ⟨some 25, _, _, _, _, _⟩) rfl (by kernel_rfl) (by kernel_rfl) (by kernel_rfl) (fun _ _ _ h => h) (by rfl) (v := ?_) (fun w hSw => ?_) hS (fun hS => ?_)
  rotate_left
  · go_simp; try with_reducible rfl
  try go_frame
  refine held_pure (i := 8) (oi := ⟨some 26, _, _, _, _, _⟩) rfl (by kernel_rfl) (by kernel_rfl) (by kernel_rfl) (fun _ _ _ h => h) (by rfl) (v := ?_) (fun w hSw => ?_) hS (fun hS => ?_)
  rotate_left
  · go_simp; try with_reducible rfl
  try go_frame
  refine held_pure (i := 9) (oi := ⟨some 27, _, _, _, _, _⟩) rfl (by kernel_rfl) (by kernel_rfl) (by kernel_rfl) (fun _ _ _ h => h) (by rfl) (v := ?_) (fun w hSw => ?_) hS (fun hS => ?_)
  rotate_left
  · go_simp; try with_reducible rfl
  try go_frame
  refine held_pure (i := 10) (oi := ⟨some 28, _, _, _, _, _⟩) rfl (by kernel_rfl) (by kernel_rfl) (by kernel_rfl) (fun _ _ _ h => h) (by rfl) (fun w hSw => run_load_int rfl rfl (KC1.out w hSw)) hS (fun hS => ?_)
  try go_frame
  refine held_pure (i := 11) (oi := ⟨some 29, _, _, _, _, _⟩) rfl (by kernel_rfl) (by kernel_rfl) (by kernel_rfl) (fun _ _ _ h => h) (by rfl) (v := .bool true) (fun w hSw => by go_simp; (have hh := HB.out; omega)) hS (fun hS => ?_)
  try go_frame
  refine held_pure (i := 12) (oi := ⟨some 17, _, _, _, _, _⟩) rfl (by kernel_rfl) (by kernel_rfl) (by kernel_rfl) (fun _ _ _ h => h) (by rfl) (v := ?_) (fun w hSw => ?_) hS (fun hS => ?_)
  rotate_left
  · go_simp; try with_reducible rfl
  try go_frame
  refine wpAnyH_done (by kernel_rfl) ?_ _
  go_wp2_with fail
  go_ret
  exact ⟨rfl, hS⟩
set_option maxRecDepth 100000 in
theorem rtake_ok (h : Qt 126 w g b each L) {j : Nat} {x : Int} (hj : j < L.length) (hx : L[j]? = some x) (hf : ¬ x ≥ each) : Calls Try.prog 33 #[.pointer (some ⟨g, 0, none⟩), .int .i64 (j : Int)] w fun e w' => e = .returned (.int .i64 0) ∧ ∃ v, Below w.heap.size w v ∧ w' = v.setCell ⟨b, j, none⟩ (.int .i64 (x + 1)) := by
  have HK := Lib.hid h
  have k0 := h.c0
  have k1 := h.c1
  have kx := h.at_ hx
  have kf := h.fr j
  have HX : 0 ≤ x ∧ x ≤ each := h.bd x (List.mem_of_getElem? hx)
  have HE := h.e
  have D : Hid (decide (0 ≤ (j : Int) ∧ (j : Int) < (L.length : Int)) = true) := Lib.hid (decide_eq_true (by omega))
  obtain ⟨n, hn⟩ : ∃ n, n = L.length := ⟨_, rfl⟩
  rw [← hn] at hj k0
  have d1 : decide ((j : Int) < 0) = false := decide_eq_false (by omega)
  have d2 : decide ((j : Int) ≥ (n : Int)) = false := decide_eq_false (by omega)
  have d3 : decide ((n : Int) ≤ (j : Int)) = false := d2
  have D5 : Hid (decide (x ≥ each) = false) := Lib.hid (decide_eq_false hf)
  have HW : Hid (IntKind.i64.wrap (x + 1) = x + 1) := Lib.hid (IntWalk.i64_in _ (by omega))
  have KC0 : Hid (∀ V, Below w.heap.size w V → V.cell? ⟨g, 0, none⟩ = some (.slice (some ⟨b, 0, none⟩) n n)) := Lib.hid (fun V hV => by rw [hn]; exact (h.below hV).c0)
  have KC1 : Hid (∀ V, Below w.heap.size w V → V.cell? ⟨g, 1, none⟩ = some (.int .i64 each)) := Lib.hid (fun V hV => (h.below hV).c1)
  have KX : Hid (∀ V, Below w.heap.size w V → V.cell? ⟨b, j, none⟩ = some (.int .i64 x)) := Lib.hid (fun V hV => (h.below hV).at_ hx)
  have KF : Hid (∀ V, Below w.heap.size w V → V.frozen? ⟨b, j, none⟩ = false) := Lib.hid (fun V hV => (h.below hV).fr j)
  have HB := Lib.hid hf
  clear h hx hn hf
  go_enter Try.func33, Try.ntmps33
  go_upto_region 3 with fail
  refine wp_region_held_drew (S := fun w' => Below w.heap.size w w') (by kernel_rfl) (Below.refl _ w).drew (fun hS => ?_)
  refine held_pure (i := 0) (oi := ⟨some 18, _, _, _, _, _⟩) rfl (by kernel_rfl) (by kernel_rfl) (by kernel_rfl) (fun _ _ _ h => h) (by rfl) (v := ?_) (fun w hSw => ?_) hS (fun hS => ?_)
  rotate_left
  · go_simp; try with_reducible rfl
  try go_frame
  refine held_pure (i := 1) (oi := ⟨some 19, _, _, _, _, _⟩) rfl (by kernel_rfl) (by kernel_rfl) (by kernel_rfl) (fun _ _ _ h => h) (by rfl) (v := ?_) (fun w hSw => ?_) hS (fun hS => ?_)
  rotate_left
  · go_simp; try with_reducible rfl
  try go_frame
  refine held_pure (i := 2) (oi := ⟨some 20, _, _, _, _, _⟩) rfl (by kernel_rfl) (by kernel_rfl) (by kernel_rfl) (fun _ _ _ h => h) (by rfl) (v := ?_) (fun w hSw => ?_) hS (fun hS => ?_)
  rotate_left
  · go_simp; try with_reducible rfl
  try go_frame
  refine held_pure (i := 3) (oi := ⟨some 21, _, _, _, _, _⟩) rfl (by kernel_rfl) (by kernel_rfl) (by kernel_rfl) (fun _ _ _ h => h) (by rfl) (fun w hSw => run_load_slq rfl rfl (KC0.out w hSw)) hS (fun hS => ?_)
  try go_frame
  refine held_pure (i := 4) (oi := ⟨some 22, _, _, _, _, _⟩) rfl (by kernel_rfl) (by kernel_rfl) (by kernel_rfl) (fun _ _ _ h => h) (by rfl) (v := ?_) (fun w hSw => ?_) hS (fun hS => ?_)
  rotate_left
  · go_simp; try with_reducible rfl
  try go_frame
  refine held_pure (i := 5) (oi := ⟨some 23, _, _, _, _, _⟩) rfl (by kernel_rfl) (by kernel_rfl) (by kernel_rfl) (fun _ _ _ h => h) (by rfl) (v := ?_) (fun w hSw => ?_) hS (fun hS => ?_)
  rotate_left
  · go_simp; try with_reducible rfl
  try go_frame
  refine held_pure (i := 6) (oi := ⟨some 24, _, _, _, _, _⟩) rfl (by kernel_rfl) (by kernel_rfl) (by kernel_rfl) (fun _ _ _ h => h) (by rfl) (fun w hSw => run_load_int rfl rfl (KX.out w hSw)) hS (fun hS => ?_)
  try go_frame
  refine held_pure (i := 7) (oi := ⟨some 25, _, _, _, _, _⟩) rfl (by kernel_rfl) (by kernel_rfl) (by kernel_rfl) (fun _ _ _ h => h) (by rfl) (v := ?_) (fun w hSw => ?_) hS (fun hS => ?_)
  rotate_left
  · go_simp; try with_reducible rfl
  try go_frame
  refine held_pure (i := 8) (oi := ⟨some 26, _, _, _, _, _⟩) rfl (by kernel_rfl) (by kernel_rfl) (by kernel_rfl) (fun _ _ _ h => h) (by rfl) (v := ?_) (fun w hSw => ?_) hS (fun hS => ?_)
  rotate_left
  · go_simp; try with_reducible rfl
  try go_frame
  refine held_pure (i := 9) (oi := ⟨some 27, _, _, _, _, _⟩) rfl (by kernel_rfl) (by kernel_rfl) (by kernel_rfl) (fun _ _ _ h => h) (by rfl) (v := ?_) (fun w hSw => ?_) hS (fun hS => ?_)
  rotate_left
  · go_simp; try with_reducible rfl
  try go_frame
  refine held_pure (i := 10) (oi := ⟨some 28, _, _, _, _, _⟩) rfl (by kernel_rfl) (by kernel_rfl) (by kernel_rfl) (fun _ _ _ h => h) (by rfl) (fun w hSw => run_load_int rfl rfl (KC1.out w hSw)) hS (fun hS => ?_)
  try go_frame
  refine held_pure (i := 11) (oi := ⟨some 29, _, _, _, _, _⟩) rfl (by kernel_rfl) (by kernel_rfl) (by kernel_rfl) (fun _ _ _ h => h) (by rfl) (v := .bool false) (fun w hSw => by go_simp; (have hh := HB.out; omega)) hS (fun hS => ?_)
  try go_frame
  refine held_pure (i := 12) (oi := ⟨some 17, _, _, _, _, _⟩) rfl (by kernel_rfl) (by kernel_rfl) (by kernel_rfl) (fun _ _ _ h => h) (by rfl) (v := ?_) (fun w hSw => ?_) hS (fun hS => ?_)
  rotate_left
  · go_simp; try with_reducible rfl
  try go_frame
  refine wpAnyH_done (by kernel_rfl) ?_ _
  have q0 := KC0.out _ hS
  have q1 := KX.out _ hS
  have q2 := KF.out _ hS
  have q3 := HW.out
  go_wp2_with fail
  go_ret
  exact ⟨rfl, _, hS, rfl⟩
set_option maxRecDepth 100000 in
theorem rgive_none (h : Qt 126 w g b each L) {j : Nat} {x : Int} (hj : j < L.length) (hx : L[j]? = some x) (hf : x = 0) : Calls Try.prog 31 #[.pointer (some ⟨g, 0, none⟩), .int .i64 (j : Int)] w fun e w' => e = .returned (.int .i64 8) ∧ w = w' := by
  have HK := Lib.hid h
  have k0 := h.c0
  have k1 := h.c1
  have kx := h.at_ hx
  have kf := h.fr j
  have HX : 0 ≤ x ∧ x ≤ each := h.bd x (List.mem_of_getElem? hx)
  have HE := h.e
  have D : Hid (decide (0 ≤ (j : Int) ∧ (j : Int) < (L.length : Int)) = true) := Lib.hid (decide_eq_true (by omega))
  obtain ⟨n, hn⟩ : ∃ n, n = L.length := ⟨_, rfl⟩
  rw [← hn] at hj k0
  have d1 : decide ((j : Int) < 0) = false := decide_eq_false (by omega)
  have d2 : decide ((j : Int) ≥ (n : Int)) = false := decide_eq_false (by omega)
  have d3 : decide ((n : Int) ≤ (j : Int)) = false := d2
  have d5 : (x == 0) = true := by simpa using hf
  have q3 : IntKind.i64.wrap (x - 1) = x - 1 := IntWalk.i64_in _ (by omega)
  clear h hx hn hf
  go_enter Try.func31, Try.ntmps31
  go_wp2
  go_ret
  exact ⟨rfl, rfl⟩
set_option maxRecDepth 100000 in
theorem rgive_ok (h : Qt 126 w g b each L) {j : Nat} {x : Int} (hj : j < L.length) (hx : L[j]? = some x) (hf : ¬ x = 0) : Calls Try.prog 31 #[.pointer (some ⟨g, 0, none⟩), .int .i64 (j : Int)] w fun e w' => e = .returned (.int .i64 0) ∧ w' = w.setCell ⟨b, j, none⟩ (.int .i64 (x - 1)) := by
  have HK := Lib.hid h
  have k0 := h.c0
  have k1 := h.c1
  have kx := h.at_ hx
  have kf := h.fr j
  have HX : 0 ≤ x ∧ x ≤ each := h.bd x (List.mem_of_getElem? hx)
  have HE := h.e
  have D : Hid (decide (0 ≤ (j : Int) ∧ (j : Int) < (L.length : Int)) = true) := Lib.hid (decide_eq_true (by omega))
  obtain ⟨n, hn⟩ : ∃ n, n = L.length := ⟨_, rfl⟩
  rw [← hn] at hj k0
  have d1 : decide ((j : Int) < 0) = false := decide_eq_false (by omega)
  have d2 : decide ((j : Int) ≥ (n : Int)) = false := decide_eq_false (by omega)
  have d3 : decide ((n : Int) ≤ (j : Int)) = false := d2
  have d5 : (x == 0) = false := by simpa using hf
  have q3 : IntKind.i64.wrap (x - 1) = x - 1 := IntWalk.i64_in _ (by omega)
  clear h hx hn hf
  go_enter Try.func31, Try.ntmps31
  go_wp2
  go_ret
  exact ⟨rfl, rfl⟩
set_option maxRecDepth 100000 in
theorem rtotal (h : Qt 126 w g b each L) : Calls Try.prog 37 #[.pointer (some ⟨g, 0, none⟩)] w fun e w' => e = .returned (.int .i64 (sumQ L)) ∧ w = w' := by
  have HK := Lib.hid h
  have k0 := h.c0
  obtain ⟨n, hn⟩ : ∃ n, n = L.length := ⟨_, rfl⟩
  rw [← hn] at k0
  have HN := Lib.hid hn
  have n64 : n ≤ 64 := by rw [hn]; exact h.n
  clear h hn
  go_enter Try.func37, Try.ntmps37
  go_wp2
  go_loop [3, 4] (fun s i => ∃ k : Nat, k ≤ n ∧ i = .int .i64 (k : Int) ∧ s = .int .i64 (sumQ (L.take k))) (fun _ i => n - (intOf i).toNat)
  case atStart => exact ⟨0, Nat.zero_le _, rfl, rfl⟩
  case round =>
    obtain ⟨k, hk, rfl, rfl⟩ := hrel
    by_cases hlt : k < n
    · obtain ⟨x, hx⟩ : ∃ x, L[k]? = some x := ⟨_, List.getElem?_eq_getElem (by rw [← HN.out]; exact hlt)⟩
      have kx := HK.out.at_ hx
      have HX := HK.out.bd x (List.mem_of_getElem? hx)
      have hs := sumQ_take hx
      have hb := sumQ_le HK.out.bd HK.out.n HK.out.e k
      have he := HK.out.e
      generalize sumQ (L.take k) = s at *
      have q3 : IntKind.i64.wrap (s + x) = s + x := IntWalk.i64_in _ (by omega)
      have HS := Lib.hid hs
      clear hx hs
      go_wp2
      go_round
      case rel => exact ⟨k + 1, by omega, by simp, by rw [HS.out]⟩
      case measure => simp [intOf]; omega
    · obtain rfl : n = k := by omega
      have e : L.take n = L := List.take_of_length_le (by rw [← HN.out]; exact Nat.le_refl _)
      rw [e]
      clear e
      go_wp2
      go_ret
      exact ⟨rfl, rfl⟩
end
end Go.Proofs.Ytafidbjaeopciaa

/-
  Calls of a quota that came in, opened; New, and what any call answers and leaves; awake of layer 21. Conditions are each theorem's own.
-/
namespace Go.Proofs.Ytafidbjaeopciaa
open Go.RowKit Go.ChangeShapes Go.WideShapes
open Go.Shelf
/-- A call of a quota. -/
structure Dq where
  give : Bool
  i : Int
def clQ (y : Dq) : List Value := [.bool y.give, .int .i64 y.i]
theorem clQ_one (x : Dq) : (clQ x).toArray.all (·.oneCell') = true := by simp [clQ, Value.oneCell']
theorem cells_atq {w : World} {base n : Nat} {b off : Nat} {cs : List Value} (h : w.cells? base ⟨b, off, none⟩ n = some cs) : w.rangeAt b off cs := fun j u hj => by
  obtain ⟨_, hl, hc⟩ := World.cells?_some h
  have hlt : j < n := by rw [← hl]; exact (List.getElem?_eq_some_iff.1 hj).1
  have h1 := hc j hlt
  rw [add_off, hj] at h1
  exact h1
section
variable {H : Type} {enc : TypeId × Value → H} {w : World} {base : Nat} {v : Value} {d : DataW H} {p : List MemPlace}
set_option maxRecDepth 100000 in
theorem cell_dq {x : DataW H × List MemPlace} {fuel : Nat} {l : List Value} (hf : DataW.trod enc Try.prog w 0 (fun _ => true) true fuel 68 l = some x) :
    ∃ y : Dq, l = clQ y ∧ (Lit.int .i64 y.i).wf = true := by
  obtain ⟨xs, n, _, _, hl, hxs, hall⟩ := DataW.trod_struct Try.underlying68 hf
  have hci : Try.prog.cellsOf 3 = 1 := by kernel_rfl
  have hcb : Try.prog.cellsOf 4 = 1 := by kernel_rfl
  have hcy : Try.prog.cellsOf 32 = 1 := by kernel_rfl
  have hcu : Try.prog.cellsOf 5 = 1 := by kernel_rfl
  have hcn : Try.prog.cellsOf 68 = 2 := by kernel_rfl
  have hl' : l.length = 2 := by rw [← hcn]; exact hl
  have hall' : ∀ (i : Nat) (f : Field), _ → DataW.trod enc Try.prog w 0 (fun _ => true) true n f.type ((l.drop f.offset).take (Try.prog.cellsOf f.type)) = xs[i]? := hall
  match xs, hxs with
  | [y0, y1], _ =>
    have h0 : DataW.trod enc Try.prog w 0 (fun _ => true) true n 4 ((l.drop 0).take (Try.prog.cellsOf 4)) = some y0 := hall' 0 _ rfl
    rw [hcb] at h0
    obtain ⟨a0, e0⟩ := cell_bool Try.underlying4 h0
    have h1 : DataW.trod enc Try.prog w 0 (fun _ => true) true n 3 ((l.drop 1).take (Try.prog.cellsOf 3)) = some y1 := hall' 1 _ rfl
    rw [hci] at h1
    obtain ⟨a1, e1, f1⟩ := cell_int Try.underlying3 h1
    have k0 := piece_get e0
    have k1 := piece_get e1
    have el : l = [.bool a0, .int .i64 a1] := by
      match l, hl' with
      | [x0, x1], _ => simp at k0 k1; simp [k0, k1]
    exact ⟨⟨a0, a1⟩, el, f1⟩
set_option maxRecDepth 100000 in
theorem get_dqs (hv : Value.okWide Try.prog w .any base 60 v) (h : DataW.Trod enc Try.prog w 0 (fun _ => true) true 60 v d p) :
    ∃ A c l, v = .slice A l.length c ∧ RdS clQ 2 w w.heap.size A l ∧ (∀ y ∈ l, (Lit.int .i64 y.i).wf = true) ∧ l.length ≤ c ∧ c ≤ maxLen := by
  obtain ⟨A, len, cap, rfl⟩ := okWide_slice Try.underlying60 hv
  obtain ⟨fuel, hf⟩ := h
  rcases Deep.open_slice Try.underlying60 hf with ⟨hcs, _⟩ | ⟨a, len', cap', m, n, D, Pl, hcs, _, hl, hm, hmm, _, hall⟩
  · simp [Value.cells] at hcs
    obtain ⟨rfl, rfl, rfl⟩ := hcs
    exact ⟨none, 0, [], rfl, fun hn => absurd hn (by simp), fun x hx => (by cases hx), Nat.le_refl _, Nat.zero_le _⟩
  · simp [Value.cells] at hcs
    obtain ⟨rfl, rfl, rfl⟩ := hcs
    have hcn : Try.prog.cellsOf 68 = 2 := by kernel_rfl
    rw [hcn] at hall
    have hmm' : m = cap := by simpa using hmm
    subst hmm'
    have key : ∀ i, ∃ y : Dq, i < len → w.cells? 0 (a.add (i * 2)) 2 = some (clQ y) ∧ (Lit.int .i64 y.i).wf = true := fun i => by
      by_cases hi : i < len
      · obtain ⟨cs', h1, h2⟩ := hall i (by omega)
        obtain ⟨y, rfl, h3⟩ := cell_dq h2
        exact ⟨y, fun _ => ⟨h1, h3⟩⟩
      · exact ⟨⟨false, 0⟩, fun h => absurd h hi⟩
    obtain ⟨X, hX⟩ := Classical.skolem.1 key
    have el : ((List.range len).map X).length = len := by simp
    refine ⟨some a, m, (List.range len).map X, by rw [el], fun hn => ?_, fun x hx => ?_, by rw [el]; exact hl, hm⟩
    · rw [el] at hn
      obtain ⟨b, off, spot⟩ := a
      have h0 := (hX 0 hn).1
      have hc0 : World.cell? w ((Addr.mk b off spot).add (0 * 2) |>.add 0) = (clQ (X 0))[0]? := (World.cells?_some h0).2.2 0 (by decide)
      have hspot : spot = none := by simpa [Addr.add] using World.cell?_spot (hc0.trans rfl)
      subst hspot
      have hb : b < w.heap.size := by simpa [Addr.add] using World.cells?_block h0 (by decide)
      refine ⟨b, off, rfl, hb, fun j x hx => ?_⟩
      have hj : j < len := by
        have := (List.getElem?_eq_some_iff.1 hx).1
        rwa [el] at this
      have e : x = X j := by
        rw [List.getElem?_map, List.getElem?_range hj] at hx
        simpa using hx.symm
      have h1 := (hX j hj).1
      rw [add_off] at h1
      rw [e]
      exact cells_atq h1
    · obtain ⟨i, hi, rfl⟩ := List.mem_map.1 hx
      exact (hX i (List.mem_range.1 hi)).2
end

theorem row_ofQ {w : World} {B : Nat} {A : Option Addr} {l : List Dq} (h : RdS clQ 2 w B A l) {k : Nat} {x : Dq} (hx : l[k]? = some x) : ∃ b o, A = some ⟨b, o, none⟩ ∧ b < B ∧ w.rangeAt b (o + k * 2) (clQ x) := by
  obtain ⟨b, o, e, hb, hr⟩ := h (by have := (List.getElem?_eq_some_iff.1 hx).1; omega)
  exact ⟨b, o, e, hb, hr k x hx⟩
set_option maxRecDepth 100000 in
theorem run_load_dq {o : Oper} {a : Act} {w : World} {x : Operand} {g i : Nat} {cs : List Value} (ho : o.op = .load 68 x) (hx : a.eval x = .pointer (some ⟨g, i, none⟩)) (hr : w.rangeAt g i cs) (hl : cs.length = 2) :
    (execOp a.eval o).run Try.prog w = .ok (.value (.agg cs.toArray)) w := by
  have h := run_loadVar_mid (P := Try.prog) w g i 68 cs _ hr Try.underlying68 rfl (by rw [hl]; kernel_rfl)
  unfold execOp
  simp only [ho, hx, Instr.loadAt, Instr.sureAddr, Sem.run_bind, Sem.run_pure, Result.andThen_ok, h]
set_option maxRecDepth 100000 in
theorem dq_store_new {ops : Array Oper} {rest : List Oper} {x y : Operand} {ty : TypeId} {pos : String} {af : Array Edge} {a : Act} {w : World} {Q : Exit → Act → World → Prop}
    {t : TypeId} {cs old : Array Value} (hx : a.eval x = .pointer (some ⟨w.heap.size, 0, none⟩)) (hy : a.eval y = .agg cs) (ho : old.size = 2) (hl : cs.size = 2) (h1 : cs.all (·.oneCell') = true)
    (h : wpList Try.prog ops Q rest (a.put none undef) (w.alloc (.cells cs t))) : wpList Try.prog ops Q (⟨none, .store 68 x y, ty, pos, af, none⟩ :: rest) a (w.alloc (.cells old t)) :=
  wpList_plain rfl fun _ hK => wp_store_row 68 x y rfl w.heap.size cs hx hy t old (World.alloc_heap_new w _) (by rw [hl]; kernel_rfl) (by rw [ho, hl]) h1 (by rw [World.setRow_alloc_new]; exact hK _ _ h)
theorem info_intq : (Try.prog.info? 3).map (fun i => (i.zero, i.size, i.bytes)) = some (some (.int .i64 0), 1, 8) := by kernel_rfl
set_option maxRecDepth 100000 in
theorem run_mk_ints (n : Nat) (w : World) (hn : n ≤ 1000000) : (Instr.makeSlice 53 (.int .i64 (n : Int)) (.int .i64 (n : Int))).run Try.prog w =
    .ok (.slice (some ⟨w.heap.size, 0, none⟩) n n) (w.alloc (.cells ((List.replicate n (0 : Int)).map (Value.int .i64)).toArray 3)) := by
  obtain ⟨i0, hi, hz0, hz1, hz2⟩ := info_parts info_intq
  have h := run_make (P := Try.prog) w 53 3 i0 _ Try.underlying53 hi hz0 .i64 .i64 n n (by omega) (Int.le_refl _) (by rw [hz2]; omega) (by omega)
  rw [Int.toNat_natCast, hz1] at h
  rw [h]
  congr 3
  rw [List.map_replicate, Nat.mul_one]
  exact made_rep _ n
set_option maxRecDepth 100000 in
theorem qt_new {ty : TypeId} (w : World) (n : Nat) (each : Int) (hnt : ty ≠ 3) (hn : n ≤ 64) (he : 0 ≤ each ∧ each ≤ 4096) :
    Qt ty ((w.alloc (.cells ((List.replicate n (0 : Int)).map (Value.int .i64)).toArray 3)).alloc (.cells #[.slice (some ⟨w.heap.size, 0, none⟩) n n, .int .i64 each] ty)) (w.heap.size + 1) w.heap.size each (List.replicate n 0) := by
  refine ⟨?_, ?_, hnt, by simpa using hn, he, fun x hx => ?_⟩
  · have := World.alloc_heap_new (w.alloc (.cells ((List.replicate n (0 : Int)).map (Value.int .i64)).toArray 3)) (.cells #[.slice (some ⟨w.heap.size, 0, none⟩) n n, .int .i64 each] ty)
    rw [World.size_alloc] at this
    rw [this, List.length_replicate]
  · rw [Below.heap_alloc _ _ _ (by simp)]
    exact World.alloc_heap_new w _
  · rw [(List.mem_replicate.1 hx).2]; exact ⟨Int.le_refl _, he.1⟩
set_option maxRecDepth 100000 in
theorem qnew_ok (n : Nat) (each : Int) (w : World) (h0 : 1 ≤ n) (h1 : n ≤ 64) (h2 : 0 ≤ each) (h3 : each ≤ 4096) : Calls Try.prog 28 #[.int .i64 (n : Int), .int .i64 each] w fun e w' =>
    e = .returned (.tuple #[.pointer (some ⟨w.heap.size + 1, 0, none⟩), .int .i64 0]) ∧ Qt 124 w' (w.heap.size + 1) w.heap.size each (List.replicate n 0) ∧ Below w.heap.size w w' ∧ w'.heap.size = w.heap.size + 2 := by
  have d1 : decide ((n : Int) < 1) = false := decide_eq_false (by omega)
  have d2 : decide ((n : Int) > 64) = false := decide_eq_false (by omega)
  have d3 : decide (64 < (n : Int)) = false := d2
  have d3' : decide (64 < n) = false := decide_eq_false (by omega)
  have d4 : decide (each < 0) = false := decide_eq_false (by omega)
  have d5 : decide (each > 4096) = false := decide_eq_false (by omega)
  have d6 : decide (4096 < each) = false := d5
  have hq := qt_new (ty := 124) w n each (nat_ne (by kernel_rfl)) h1 ⟨h2, h3⟩
  have HQ := Lib.hid hq
  have hmk := fun V => run_mk_ints n V (by omega)
  obtain ⟨R, hR⟩ : ∃ R, R = ((List.replicate n (0 : Int)).map (Value.int .i64)).toArray := ⟨_, rfl⟩
  rw [← hR] at hmk
  have HR := Lib.hid hR
  clear hq hR
  go_enter Try.func28, Try.ntmps28
  go_wp2
  refine bodyPost_ret (results_tmp2 rfl _ _ _) rfl ⟨rfl, ?_, ((Below.refl _ w).alloc (Nat.le_refl _) _).alloc (by simp) _, by simp⟩
  rw [HR.out]
  exact HQ.out
set_option maxRecDepth 100000 in
theorem qnew_bad (n each : Int) (w : World) (h : ¬ (1 ≤ n ∧ n ≤ 64 ∧ 0 ≤ each ∧ each ≤ 4096)) : Calls Try.prog 28 #[.int .i64 n, .int .i64 each] w fun e w' => e = .returned (.tuple #[.pointer none, .int .i64 1]) ∧ w = w' := by
  by_cases h1 : n < 1
  · have d1 : decide (n < 1) = true := decide_eq_true h1
    clear h h1
    go_enter Try.func28, Try.ntmps28
    go_wp2
    exact bodyPost_ret (results_tmp2 rfl _ _ _) rfl ⟨rfl, rfl⟩
  · have d1 : decide (n < 1) = false := decide_eq_false h1
    by_cases h2 : n > 64
    · have d2 : decide (n > 64) = true := decide_eq_true h2
      have d3 : decide (64 < n) = true := d2
      clear h h1 h2
      go_enter Try.func28, Try.ntmps28
      go_wp2
      exact bodyPost_ret (results_tmp2 rfl _ _ _) rfl ⟨rfl, rfl⟩
    · have d2 : decide (n > 64) = false := decide_eq_false h2
      have d3 : decide (64 < n) = false := d2
      by_cases h3 : each < 0
      · have d4 : decide (each < 0) = true := decide_eq_true h3
        clear h h1 h2 h3
        go_enter Try.func28, Try.ntmps28
        go_wp2
        exact bodyPost_ret (results_tmp2 rfl _ _ _) rfl ⟨rfl, rfl⟩
      · have d4 : decide (each < 0) = false := decide_eq_false h3
        have d5 : decide (each > 4096) = true := decide_eq_true (by omega)
        have d6 : decide (4096 < each) = true := d5
        clear h h1 h2 h3
        go_enter Try.func28, Try.ntmps28
        go_wp2
        exact bodyPost_ret (results_tmp2 rfl _ _ _) rfl ⟨rfl, rfl⟩
section
variable {w : World} {g b : Nat} {each : Int} {L : List Int}
theorem qtake (h : Qt 124 w g b each L) (i : Int) : Calls Try.prog 32 #[.pointer (some ⟨g, 0, none⟩), .int .i64 i] w fun e w' =>
    e = .returned (.int .i64 (tkQ each L i).1) ∧ Qt 124 w' g b each (tkQ each L i).2 ∧ Kept (fun k => k = b) w w' := by
  rcases inQ L i with ho | ⟨j, x, rfl, hj, hx, hd⟩
  · refine (qtake_out h i ho).mono ?_
    rintro e w' ⟨rfl, rfl⟩
    unfold tkQ
    rw [if_neg ho]
    exact ⟨rfl, h, Kept.refl _⟩
  · have hin : 0 ≤ (j : Int) ∧ (j : Int) < (L.length : Int) := by omega
    have HX := h.bd x (List.mem_of_getElem? hx)
    by_cases hf : x ≥ each
    · refine (qtake_full h hj hx hf).mono ?_
      rintro e w' ⟨rfl, hb⟩
      unfold tkQ
      rw [if_pos hin, Int.toNat_natCast, hd, if_pos hf]
      exact ⟨rfl, h.below hb, Kept.of_below hb⟩
    · refine (qtake_ok h hj hx hf).mono ?_
      rintro e w' ⟨rfl, v, hb, rfl⟩
      unfold tkQ
      rw [if_pos hin, Int.toNat_natCast, hd, if_neg hf]
      exact ⟨rfl, (h.below hb).set j (by omega), (Kept.of_below hb).trans (Kept.setCell v b j _) (fun _ _ e => e)⟩
theorem qgive (h : Qt 124 w g b each L) (i : Int) : Calls Try.prog 30 #[.pointer (some ⟨g, 0, none⟩), .int .i64 i] w fun e w' =>
    e = .returned (.int .i64 (gvQ L i).1) ∧ Qt 124 w' g b each (gvQ L i).2 ∧ Kept (fun k => k = b) w w' := by
  rcases inQ L i with ho | ⟨j, x, rfl, hj, hx, hd⟩
  · refine (qgive_out h i ho).mono ?_
    rintro e w' ⟨rfl, rfl⟩
    unfold gvQ
    rw [if_neg ho]
    exact ⟨rfl, h, Kept.refl _⟩
  · have hin : 0 ≤ (j : Int) ∧ (j : Int) < (L.length : Int) := by omega
    have HX := h.bd x (List.mem_of_getElem? hx)
    by_cases hf : x = 0
    · refine (qgive_none h hj hx hf).mono ?_
      rintro e w' ⟨rfl, rfl⟩
      unfold gvQ
      rw [if_pos hin, Int.toNat_natCast, hd, if_pos hf]
      exact ⟨rfl, h, Kept.refl _⟩
    · refine (qgive_ok h hj hx hf).mono ?_
      rintro e w' ⟨rfl, rfl⟩
      unfold gvQ
      rw [if_pos hin, Int.toNat_natCast, hd, if_neg hf]
      exact ⟨rfl, h.set j (by omega), Kept.setCell w b j _⟩
theorem qcount (h : Qt 124 w g b each L) (i : Int) : Calls Try.prog 34 #[.pointer (some ⟨g, 0, none⟩), .int .i64 i] w fun e w' => e = .returned (.int .i64 (ctQ L i)) ∧ w = w' := by
  rcases inQ L i with ho | ⟨j, x, rfl, hj, hx, hd⟩
  · refine (qcount_out h i ho).mono ?_
    rintro e w' ⟨rfl, rfl⟩
    unfold ctQ
    rw [if_neg ho]
    exact ⟨rfl, rfl⟩
  · refine (qcount_in h hj hx).mono ?_
    rintro e w' ⟨rfl, rfl⟩
    unfold ctQ
    rw [if_pos (by omega), Int.toNat_natCast, hd]
    exact ⟨rfl, rfl⟩
end
set_option maxRecDepth 100000 in
theorem rnew_ok (n : Nat) (each : Int) (w : World) (h0 : 1 ≤ n) (h1 : n ≤ 64) (h2 : 0 ≤ each) (h3 : each ≤ 4096) : Calls Try.prog 29 #[.int .i64 (n : Int), .int .i64 each] w fun e w' =>
    e = .returned (.tuple #[.pointer (some ⟨w.heap.size + 1, 0, none⟩), .int .i64 0]) ∧ Qt 126 w' (w.heap.size + 1) w.heap.size each (List.replicate n 0) ∧ Below w.heap.size w w' ∧ w'.heap.size = w.heap.size + 2 := by
  have d1 : decide ((n : Int) < 1) = false := decide_eq_false (by omega)
  have d2 : decide ((n : Int) > 64) = false := decide_eq_false (by omega)
  have d3 : decide (64 < (n : Int)) = false := d2
  have d3' : decide (64 < n) = false := decide_eq_false (by omega)
  have d4 : decide (each < 0) = false := decide_eq_false (by omega)
  have d5 : decide (each > 4096) = false := decide_eq_false (by omega)
  have d6 : decide (4096 < each) = false := d5
  have hq := qt_new (ty := 126) w n each (nat_ne (by kernel_rfl)) h1 ⟨h2, h3⟩
  have HQ := Lib.hid hq
  have hmk := fun V => run_mk_ints n V (by omega)
  obtain ⟨R, hR⟩ : ∃ R, R = ((List.replicate n (0 : Int)).map (Value.int .i64)).toArray := ⟨_, rfl⟩
  rw [← hR] at hmk
  have HR := Lib.hid hR
  clear hq hR
  go_enter Try.func29, Try.ntmps29
  go_wp2
  refine bodyPost_ret (results_tmp2 rfl _ _ _) rfl ⟨rfl, ?_, ((Below.refl _ w).alloc (Nat.le_refl _) _).alloc (by simp) _, by simp⟩
  rw [HR.out]
  exact HQ.out
set_option maxRecDepth 100000 in
theorem rnew_bad (n each : Int) (w : World) (h : ¬ (1 ≤ n ∧ n ≤ 64 ∧ 0 ≤ each ∧ each ≤ 4096)) : Calls Try.prog 29 #[.int .i64 n, .int .i64 each] w fun e w' => e = .returned (.tuple #[.pointer none, .int .i64 1]) ∧ w = w' := by
  by_cases h1 : n < 1
  · have d1 : decide (n < 1) = true := decide_eq_true h1
    clear h h1
    go_enter Try.func29, Try.ntmps29
    go_wp2
    exact bodyPost_ret (results_tmp2 rfl _ _ _) rfl ⟨rfl, rfl⟩
  · have d1 : decide (n < 1) = false := decide_eq_false h1
    by_cases h2 : n > 64
    · have d2 : decide (n > 64) = true := decide_eq_true h2
      have d3 : decide (64 < n) = true := d2
      clear h h1 h2
      go_enter Try.func29, Try.ntmps29
      go_wp2
      exact bodyPost_ret (results_tmp2 rfl _ _ _) rfl ⟨rfl, rfl⟩
    · have d2 : decide (n > 64) = false := decide_eq_false h2
      have d3 : decide (64 < n) = false := d2
      by_cases h3 : each < 0
      · have d4 : decide (each < 0) = true := decide_eq_true h3
        clear h h1 h2 h3
        go_enter Try.func29, Try.ntmps29
        go_wp2
        exact bodyPost_ret (results_tmp2 rfl _ _ _) rfl ⟨rfl, rfl⟩
      · have d4 : decide (each < 0) = false := decide_eq_false h3
        have d5 : decide (each > 4096) = true := decide_eq_true (by omega)
        have d6 : decide (4096 < each) = true := d5
        clear h h1 h2 h3
        go_enter Try.func29, Try.ntmps29
        go_wp2
        exact bodyPost_ret (results_tmp2 rfl _ _ _) rfl ⟨rfl, rfl⟩
section
variable {w : World} {g b : Nat} {each : Int} {L : List Int}
theorem rtake (h : Qt 126 w g b each L) (i : Int) : Calls Try.prog 33 #[.pointer (some ⟨g, 0, none⟩), .int .i64 i] w fun e w' =>
    e = .returned (.int .i64 (tkQ each L i).1) ∧ Qt 126 w' g b each (tkQ each L i).2 ∧ Kept (fun k => k = b) w w' := by
  rcases inQ L i with ho | ⟨j, x, rfl, hj, hx, hd⟩
  · refine (rtake_out h i ho).mono ?_
    rintro e w' ⟨rfl, rfl⟩
    unfold tkQ
    rw [if_neg ho]
    exact ⟨rfl, h, Kept.refl _⟩
  · have hin : 0 ≤ (j : Int) ∧ (j : Int) < (L.length : Int) := by omega
    have HX := h.bd x (List.mem_of_getElem? hx)
    by_cases hf : x ≥ each
    · refine (rtake_full h hj hx hf).mono ?_
      rintro e w' ⟨rfl, hb⟩
      unfold tkQ
      rw [if_pos hin, Int.toNat_natCast, hd, if_pos hf]
      exact ⟨rfl, h.below hb, Kept.of_below hb⟩
    · refine (rtake_ok h hj hx hf).mono ?_
      rintro e w' ⟨rfl, v, hb, rfl⟩
      unfold tkQ
      rw [if_pos hin, Int.toNat_natCast, hd, if_neg hf]
      exact ⟨rfl, (h.below hb).set j (by omega), (Kept.of_below hb).trans (Kept.setCell v b j _) (fun _ _ e => e)⟩
theorem rgive (h : Qt 126 w g b each L) (i : Int) : Calls Try.prog 31 #[.pointer (some ⟨g, 0, none⟩), .int .i64 i] w fun e w' =>
    e = .returned (.int .i64 (gvQ L i).1) ∧ Qt 126 w' g b each (gvQ L i).2 ∧ Kept (fun k => k = b) w w' := by
  rcases inQ L i with ho | ⟨j, x, rfl, hj, hx, hd⟩
  · refine (rgive_out h i ho).mono ?_
    rintro e w' ⟨rfl, rfl⟩
    unfold gvQ
    rw [if_neg ho]
    exact ⟨rfl, h, Kept.refl _⟩
  · have hin : 0 ≤ (j : Int) ∧ (j : Int) < (L.length : Int) := by omega
    have HX := h.bd x (List.mem_of_getElem? hx)
    by_cases hf : x = 0
    · refine (rgive_none h hj hx hf).mono ?_
      rintro e w' ⟨rfl, rfl⟩
      unfold gvQ
      rw [if_pos hin, Int.toNat_natCast, hd, if_pos hf]
      exact ⟨rfl, h, Kept.refl _⟩
    · refine (rgive_ok h hj hx hf).mono ?_
      rintro e w' ⟨rfl, rfl⟩
      unfold gvQ
      rw [if_pos hin, Int.toNat_natCast, hd, if_neg hf]
      exact ⟨rfl, h.set j (by omega), Kept.setCell w b j _⟩
theorem rcount (h : Qt 126 w g b each L) (i : Int) : Calls Try.prog 35 #[.pointer (some ⟨g, 0, none⟩), .int .i64 i] w fun e w' => e = .returned (.int .i64 (ctQ L i)) ∧ w = w' := by
  rcases inQ L i with ho | ⟨j, x, rfl, hj, hx, hd⟩
  · refine (rcount_out h i ho).mono ?_
    rintro e w' ⟨rfl, rfl⟩
    unfold ctQ
    rw [if_neg ho]
    exact ⟨rfl, rfl⟩
  · refine (rcount_in h hj hx).mono ?_
    rintro e w' ⟨rfl, rfl⟩
    unfold ctQ
    rw [if_pos (by omega), Int.toNat_natCast, hd]
    exact ⟨rfl, rfl⟩
end
theorem ctQ_bd {each : Int} {L : List Int} (h : ∀ x ∈ L, 0 ≤ x ∧ x ≤ each) (he : 0 ≤ each) (i : Int) : 0 ≤ ctQ L i ∧ ctQ L i ≤ each := by
  unfold ctQ
  split
  · rw [List.getD_eq_getElem?_getD]
    cases hh : L[i.toNat]? with
    | none => simpa using he
    | some x => exact h x (List.mem_of_getElem? hh)
  · omega
set_option maxRecDepth 100000 in
set_option maxHeartbeats 1000000 in
theorem awake21 (w : World) : Calls Try.prog 38 #[] w fun e w' => e = .returned (.bool true) ∧ Below w.heap.size w w' := by
  go_enter Try.func38, Try.ntmps38
  go_wp2_with (first
    | (go_at_call 28; refine (qnew_ok 1 1 w (by decide) (by decide) (by decide) (by decide)).mono ?_; rintro e w1 ⟨rfl, h1, x1, z1⟩; have H1 : Hid (Qt 124 w1 (w.heap.size + 1) w.heap.size 1 [0]) := Lib.hid h1; have X1 := Lib.hid (show Kept (fun k => w.heap.size ≤ k) w w1 from Kept.of_below x1); clear h1 x1 z1)
    | (go_at_call 30; refine (qgive H4.out 0).mono ?_; rintro e w5 ⟨rfl, -, k5⟩; have K5 := Lib.hid (K4.out.trans k5 (fun _ _ e => e)); rw [show (gvQ [1] 0).1 = 0 from rfl]; clear k5)
    | (go_at_call 34; refine (qcount H3.out 0).mono ?_; rintro e w4 ⟨rfl, rfl⟩; have H4 := H3; have K4 := K3; rw [show ctQ [1] 0 = 1 from rfl])
    | (go_at_call 32; refine (qtake H2.out 0).mono ?_; rintro e w3 ⟨rfl, h3, k3⟩; have H3 : Hid (Qt 124 w3 (w.heap.size + 1) w.heap.size 1 [1]) := Lib.hid h3; have K3 := Lib.hid (K2.out.trans k3 (fun _ _ e => e)); rw [show (tkQ 1 [1] 0).1 = 10 from rfl]; clear h3 k3)
    | (go_at_call 32; refine (qtake H1.out 0).mono ?_; rintro e w2 ⟨rfl, h2, k2⟩; have H2 : Hid (Qt 124 w2 (w.heap.size + 1) w.heap.size 1 [1]) := Lib.hid h2; have K2 := Lib.hid k2; rw [show (tkQ 1 [0] 0).1 = 0 from rfl]; clear h2 k2))
  go_ret
  exact ⟨rfl, (X1.out.trans (T := fun k => k = w.heap.size) K5.out (fun _ _ e => Nat.le_of_eq e.symm)).below (Nat.le_refl _) (fun _ h => h)⟩
end Go.Proofs.Ytafidbjaeopciaa
