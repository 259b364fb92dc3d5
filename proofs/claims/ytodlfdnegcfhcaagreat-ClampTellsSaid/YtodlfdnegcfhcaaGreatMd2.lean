/-
  Contracts and lemmas on which the proofs of this seat stand (several texts in one). Conditions are each theorem's own.
-/
import Derived.Test.YtodlfdnegcfhcaaGreatMd1
import Derived.Handy
import Derived.Test.YtodlfdnegcfhcaaGreatMb3

/-
  A segment's flags. Conditions are each theorem's own.
-/
namespace Go.Proofs.YtodlfdnegcfhcaaGreat
open Go.RowKit

theorem run_assert {o : Oper} {a : Act} {w : World} {x : Operand} {v r : Value} (ho : o.op = .typeAssert x 50 68 true) (hx : a.eval x = v) (h : (Instr.typeAssert v 50 68 true).run Tryz.prog w = .ok r w) :
    (execOp a.eval o).run Tryz.prog w = .ok (.value r) w := by
  unfold execOp
  simp only [ho, hx, Sem.run_bind, h]
  rfl
theorem assert_nil (w : World) : (Instr.typeAssert .nilIface 50 68 true).run Tryz.prog w = .ok (.tuple #[.agg (tsa tsz none 0 none 0), .bool false]) w := by kernel_rfl
theorem assert_dg (v : Value) (w : World) : (Instr.typeAssert (.iface 82 v) 50 68 true).run Tryz.prog w = .ok (.tuple #[.agg (tsa tsz none 0 none 0), .bool false]) w := by kernel_rfl
theorem assert_qy (v : Value) (w : World) : (Instr.typeAssert (.iface 121 v) 50 68 true).run Tryz.prog w = .ok (.tuple #[.agg (tsa tsz none 0 none 0), .bool false]) w := by kernel_rfl
theorem assert_sg (v : Value) (w : World) : (Instr.typeAssert (.iface 68 v) 50 68 true).run Tryz.prog w = .ok (.tuple #[v, .bool true]) w := by kernel_rfl
theorem sg_store_new {ops : Array Oper} {rest : List Oper} {x y : Operand} {ty : TypeId} {pos : String} {af : Array Edge} {a : Act} {w : World} {Q : Exit → Act → World → Prop}
    {t : TypeId} {cs old : Array Value} (hx : a.eval x = .pointer (some ⟨w.heap.size, 0, none⟩)) (hy : a.eval y = .agg cs) (ho : old.size = 10) (hl : cs.size = 10) (h1 : cs.all (·.oneCell') = true)
    (h : wpList Tryz.prog ops Q rest (a.put none undef) (w.alloc (.cells cs t))) : wpList Tryz.prog ops Q (⟨none, .store 68 x y, ty, pos, af, none⟩ :: rest) a (w.alloc (.cells old t)) :=
  wpList_plain rfl fun _ hK => wp_store_row 68 x y rfl w.heap.size cs hx hy t old (World.alloc_heap_new w _) (by rw [hl]; kernel_rfl) (by rw [ho, hl]) h1 (hK _ _ (by rw [World.setRow_alloc_new]; exact h))
section
variable (q : P4) (A : Option Addr) (c : Nat) (A' : Option Addr) (c' : Nat) (w : World)
set_option maxRecDepth 100000 in
set_option maxHeartbeats 2000000 in
theorem cFlags (ho : q.opt.length ≤ 1000000) (hl : q.dat.length ≤ 900000) (B : Nat) (hD : Arg w B A' c' q.dat) (hB0 : B ≤ w.heap.size) : Calls Tryz.prog 16 #[v4v q A c A' c'] w fun e w' => e = .returned (.int .i64 (flg q)) ∧ Below w.heap.size w w' := by
  have hB : Below w.heap.size w (w.alloc (.cells (v4a q A c A' c') 24)) := (Below.refl _ w).alloc (Nat.le_refl _) _
  have at0 := At4.new (q := q) (A := A) (c := c) (A' := A') (c' := c') w
  have hD0 := hD.below (((Below.refl _ w).alloc (Nat.le_refl _) (.cells (v4a q A c A' c') 24)).mono hB0)
  rw [v4q_eq]
  obtain ⟨E, hE⟩ : ∃ n, n = ofE q := ⟨_, rfl⟩
  have HE := Lib.hid hE
  clear hE
  go_enter Tryz.func16, Tryz.ntmps16
  go_upto_region 1 with fail
  generalize w.alloc (.cells (v4a q A c A' c') 24) = X at *
  go_upto_region 2 with (first
    | ((with_reducible show wpList _ _ _ (Oper.mk _ (Op.load 24 _) _ _ _ _ :: _) _ _); refine wpList_val rfl (run_load_v4 rfl rfl at0 rfl) ?_)
    | (go_at_call 30; refine (cOpen q A c A' c' X ho hl B hD0 (Nat.le_trans hB0 hB.size)).mono ?_; rintro e w1 ⟨v, rfl, hOp⟩; rw [← HE.out]))
  obtain ⟨x1, hn, h17, h6, h1⟩ := hOp
  rw [← HE.out] at hn h17 h6 h1
  have j : ∀ o : Obj, Below w1.heap.size w1 (w1.alloc o) := fun o => (Below.refl _ w1).alloc (Nat.le_refl _) o
  have b1 := hB.trans (x1.mono hB.size)
  by_cases he : E = 0
  · have h0 : ofE q = 0 := by rw [← HE.out]; exact he
    have dE : (E == 0) = true := by simpa using he
    obtain ⟨_, _, hk⟩ := of_ok h0
    rcases hk with ⟨hk, _⟩ | ⟨hk, _⟩ | ⟨hk, _⟩
    · obtain ⟨P, p, rfl, -⟩ := h17 he hk
      have HF := Lib.hid (show flg q = 0 by rw [flg, if_neg (fun h => by omega)])
      clear hn h17 h6 h1 he h0 hk
      go_wp2_with (first | ((with_reducible show wpList _ _ _ (Oper.mk _ (Op.typeAssert _ _ _ _) _ _ _ _ :: _) _ _); first | refine wpList_val rfl (run_assert rfl rfl (assert_nil _)) ?_ | refine wpList_val rfl (run_assert rfl rfl (assert_dg _ _)) ?_ | refine wpList_val rfl (run_assert rfl rfl (assert_qy _ _)) ?_ | refine wpList_val rfl (run_assert rfl rfl (assert_sg _ _)) ?_) | ((with_reducible show wpList _ _ _ (Oper.mk _ (Op.store 68 _ _) _ _ _ _ :: _) _ _); refine sg_store_new (cs := tsa tsz none 0 none 0) rfl rfl rfl rfl (ts_one _ _ _ _ _) ?_))
      go_ret
      exact ⟨by rw [HF.out]; rfl, b1.trans ((j _).mono b1.size)⟩
    · obtain ⟨P, p, P', p', rfl, -, -⟩ := h6 he hk
      have HF := Lib.hid (show flg q = (inT q).flags by rw [flg, if_pos ⟨h0, hk⟩])
      clear hn h17 h6 h1 he h0 hk
      have k5 := (Atts.of_heap (World.alloc_heap_new w1 (.cells (tsa (inT q) P p P' p') 68))).flags
      go_wp2_with (first | ((with_reducible show wpList _ _ _ (Oper.mk _ (Op.typeAssert _ _ _ _) _ _ _ _ :: _) _ _); first | refine wpList_val rfl (run_assert rfl rfl (assert_nil _)) ?_ | refine wpList_val rfl (run_assert rfl rfl (assert_dg _ _)) ?_ | refine wpList_val rfl (run_assert rfl rfl (assert_qy _ _)) ?_ | refine wpList_val rfl (run_assert rfl rfl (assert_sg _ _)) ?_) | ((with_reducible show wpList _ _ _ (Oper.mk _ (Op.store 68 _ _) _ _ _ _ :: _) _ _); refine sg_store_new (cs := tsa (inT q) P p P' p') rfl rfl rfl rfl (ts_one _ _ _ _ _) ?_))
      go_ret
      exact ⟨by rw [HF.out]; rfl, b1.trans ((j _).mono b1.size)⟩
    · obtain ⟨P, p, rfl, -⟩ := h1 he hk
      have HF := Lib.hid (show flg q = 0 by rw [flg, if_neg (fun h => by omega)])
      clear hn h17 h6 h1 he h0 hk
      go_wp2_with (first | ((with_reducible show wpList _ _ _ (Oper.mk _ (Op.typeAssert _ _ _ _) _ _ _ _ :: _) _ _); first | refine wpList_val rfl (run_assert rfl rfl (assert_nil _)) ?_ | refine wpList_val rfl (run_assert rfl rfl (assert_dg _ _)) ?_ | refine wpList_val rfl (run_assert rfl rfl (assert_qy _ _)) ?_ | refine wpList_val rfl (run_assert rfl rfl (assert_sg _ _)) ?_) | ((with_reducible show wpList _ _ _ (Oper.mk _ (Op.store 68 _ _) _ _ _ _ :: _) _ _); refine sg_store_new (cs := tsa tsz none 0 none 0) rfl rfl rfl rfl (ts_one _ _ _ _ _) ?_))
      go_ret
      exact ⟨by rw [HF.out]; rfl, b1.trans ((j _).mono b1.size)⟩
  · have HF := Lib.hid (show flg q = 0 by rw [flg, if_neg (fun h => he (HE.out.trans h.1))])
    have dE : (E == 0) = false := by simpa using he
    have hn := hn he
    clear h17 h6 h1 he
    rcases hn with rfl | ⟨u, P, p, rfl⟩ | ⟨t, P, p, P', p', rfl⟩
    · go_wp2_with (first | ((with_reducible show wpList _ _ _ (Oper.mk _ (Op.typeAssert _ _ _ _) _ _ _ _ :: _) _ _); first | refine wpList_val rfl (run_assert rfl rfl (assert_nil _)) ?_ | refine wpList_val rfl (run_assert rfl rfl (assert_dg _ _)) ?_ | refine wpList_val rfl (run_assert rfl rfl (assert_qy _ _)) ?_ | refine wpList_val rfl (run_assert rfl rfl (assert_sg _ _)) ?_) | ((with_reducible show wpList _ _ _ (Oper.mk _ (Op.store 68 _ _) _ _ _ _ :: _) _ _); refine sg_store_new (cs := tsa tsz none 0 none 0) rfl rfl rfl rfl (ts_one _ _ _ _ _) ?_))
      go_ret
      exact ⟨by rw [HF.out]; rfl, b1.trans ((j _).mono b1.size)⟩
    · go_wp2_with (first | ((with_reducible show wpList _ _ _ (Oper.mk _ (Op.typeAssert _ _ _ _) _ _ _ _ :: _) _ _); first | refine wpList_val rfl (run_assert rfl rfl (assert_nil _)) ?_ | refine wpList_val rfl (run_assert rfl rfl (assert_dg _ _)) ?_ | refine wpList_val rfl (run_assert rfl rfl (assert_qy _ _)) ?_ | refine wpList_val rfl (run_assert rfl rfl (assert_sg _ _)) ?_) | ((with_reducible show wpList _ _ _ (Oper.mk _ (Op.store 68 _ _) _ _ _ _ :: _) _ _); refine sg_store_new (cs := tsa tsz none 0 none 0) rfl rfl rfl rfl (ts_one _ _ _ _ _) ?_))
      go_ret
      exact ⟨by rw [HF.out]; rfl, b1.trans ((j _).mono b1.size)⟩
    · go_wp2_with (first | ((with_reducible show wpList _ _ _ (Oper.mk _ (Op.typeAssert _ _ _ _) _ _ _ _ :: _) _ _); first | refine wpList_val rfl (run_assert rfl rfl (assert_nil _)) ?_ | refine wpList_val rfl (run_assert rfl rfl (assert_dg _ _)) ?_ | refine wpList_val rfl (run_assert rfl rfl (assert_qy _ _)) ?_ | refine wpList_val rfl (run_assert rfl rfl (assert_sg _ _)) ?_) | ((with_reducible show wpList _ _ _ (Oper.mk _ (Op.store 68 _ _) _ _ _ _ :: _) _ _); refine sg_store_new (cs := tsa t P p P' p') rfl rfl rfl rfl (ts_one _ _ _ _ _) ?_))
      go_ret
      exact ⟨by rw [HF.out]; rfl, b1.trans ((j _).mono b1.size)⟩
end
end Go.Proofs.YtodlfdnegcfhcaaGreat

/-
  Ports of packets as the document has them. Conditions are each theorem's own.
-/
namespace Go.Proofs.YtodlfdnegcfhcaaGreat
open Go.RowKit

section
variable (q : P4) (A : Option Addr) (c : Nat) (A' : Option Addr) (c' : Nat) (w : World)
set_option maxRecDepth 100000 in
set_option maxHeartbeats 2000000 in
theorem r11icE (hl : q.dat.length ≤ 900000) (B : Nat) (hD : Arg w B A' c' q.dat) (hB0 : B ≤ w.heap.size) (he : badI [] q.dat ≠ 0) : Calls Tryz.prog 35 #[v4v q A c A' c'] w fun e w' => e = .returned (.tuple #[.agg (prA 0 0 0), .int .i64 (badI [] q.dat)]) ∧ Below w.heap.size w w' := by
  obtain ⟨u, hu⟩ : ∃ x, x = prsI [] q.dat := ⟨_, rfl⟩
  have HU := Lib.hid hu
  obtain ⟨E, hE⟩ : ∃ n, n = badI [] q.dat := ⟨_, rfl⟩
  have HE := Lib.hid hE.symm
  have dE : (E != 0) = true := by simpa [hE] using he
  rw [← hE]
  clear he hE hu
  have hB : Below w.heap.size w ((w.alloc (.cells (v4a q A c A' c') 24)).alloc (.cells (prA 0 0 0) 28)) := below_two w _ _
  have hU0 : ((w.alloc (.cells (v4a q A c A' c') 24)).alloc (.cells (prA 0 0 0) 28)).heap[w.heap.size]? = some (.cells (v4a q A c A' c') 24 (0, 0)) := (Below.heap_alloc (w.alloc (.cells (v4a q A c A' c') 24)) _ w.heap.size (by simp)).trans (World.alloc_heap_new w _)
  have hR0 : ((w.alloc (.cells (v4a q A c A' c') 24)).alloc (.cells (prA 0 0 0) 28)).heap[w.heap.size + 1]? = some (.cells (prA 0 0 0) 28 (0, 0)) := by
    have := World.alloc_heap_new (w.alloc (.cells (v4a q A c A' c') 24)) (.cells (prA 0 0 0) 28)
    rwa [World.size_alloc] at this
  rw [v4q_eq]
  go_enter Tryz.func35, Tryz.ntmps35
  go_upto_region 1 with fail
  rw [show #[Value.int .i64 0, .int .i64 0, .int .i64 0] = prA 0 0 0 from rfl]
  generalize (w.alloc (.cells (v4a q A c A' c') 24)).alloc (.cells (prA 0 0 0) 28) = W at *
  have at0 := At4.of_heap hU0
  have k10 := at0.dat
  have hD0 := hD.below (hB.mono hB0)
  go_upto_region 2 with (first
    | (go_at_call 62; refine (rIparse q.dat A' c' W B hD0 (Nat.le_trans hB0 hB.size) (by omega)).mono ?_; rintro e w1 ⟨P, p, rfl, m1⟩; rw [← HU.out] at m1; rw [← HU.out, HE.out])
    | ((with_reducible show wpList _ _ _ (Oper.mk _ (Op.store 93 _ _) _ _ _ _ :: _) _ _); refine is_store_new (cs := isa u P p) rfl rfl rfl rfl (is_one _ _ _) ?_))
  have x1 := m1.below
  have j1 : Below w1.heap.size w1 (w1.alloc (.cells (isa u P p) 93)) := (Below.refl _ w1).alloc (Nat.le_refl _) _
  have x1j := x1.trans (j1.mono x1.size)
  have hR1 := (x1j.block (w.heap.size + 1) (heap_lt hR0)).trans hR0
  have at1 := Atis.new (q := u) (A := P) (c := p) w1
  have z1 : w1.heap.size < (w1.alloc (.cells (isa u P p) 93)).heap.size := by simp
  have b1 := hB.trans (x1j.mono hB.size)
  have k1 := at1.typ
  generalize w1.alloc (.cells (isa u P p) 93) = X at *
  go_wp2_with (first
    | ((with_reducible show wpList _ _ _ (Oper.mk _ (Op.store 28 _ _) _ _ _ _ :: _) _ _); refine pr_store (g := w.heap.size + 1) (cs := prA 0 0 0) rfl rfl hR1 rfl rfl (prA_one _ _ _) ?_))
  exact bodyPost_ret (res2 rfl rfl (pr_load_run (setRow_heap _ _ _ _ _ _ hR1) rfl)) rfl ⟨rfl, below_row b1 (by omega)⟩
set_option maxRecDepth 100000 in
set_option maxHeartbeats 2000000 in
theorem r11icQ (hl : q.dat.length ≤ 900000) (B : Nat) (hD : Arg w B A' c' q.dat) (hB0 : B ≤ w.heap.size) (he : badI [] q.dat = 0) (hq : qryI (inI q).typ = false) : Calls Tryz.prog 35 #[v4v q A c A' c'] w fun e w' => e = .returned (.tuple #[.agg (prA 0 0 0), .int .i64 8]) ∧ Below w.heap.size w w' := by
  obtain ⟨u, hu⟩ : ∃ x, x = prsI [] q.dat := ⟨_, rfl⟩
  have HU := Lib.hid hu
  have HE := Lib.hid he
  have HQ := Lib.hid (show qryI u.typ = false by rw [hu]; exact hq)
  clear he hq hu
  have hB : Below w.heap.size w ((w.alloc (.cells (v4a q A c A' c') 24)).alloc (.cells (prA 0 0 0) 28)) := below_two w _ _
  have hU0 : ((w.alloc (.cells (v4a q A c A' c') 24)).alloc (.cells (prA 0 0 0) 28)).heap[w.heap.size]? = some (.cells (v4a q A c A' c') 24 (0, 0)) := (Below.heap_alloc (w.alloc (.cells (v4a q A c A' c') 24)) _ w.heap.size (by simp)).trans (World.alloc_heap_new w _)
  have hR0 : ((w.alloc (.cells (v4a q A c A' c') 24)).alloc (.cells (prA 0 0 0) 28)).heap[w.heap.size + 1]? = some (.cells (prA 0 0 0) 28 (0, 0)) := by
    have := World.alloc_heap_new (w.alloc (.cells (v4a q A c A' c') 24)) (.cells (prA 0 0 0) 28)
    rwa [World.size_alloc] at this
  rw [v4q_eq]
  go_enter Tryz.func35, Tryz.ntmps35
  go_upto_region 1 with fail
  rw [show #[Value.int .i64 0, .int .i64 0, .int .i64 0] = prA 0 0 0 from rfl]
  generalize (w.alloc (.cells (v4a q A c A' c') 24)).alloc (.cells (prA 0 0 0) 28) = W at *
  have at0 := At4.of_heap hU0
  have k10 := at0.dat
  have hD0 := hD.below (hB.mono hB0)
  go_upto_region 2 with (first
    | (go_at_call 62; refine (rIparse q.dat A' c' W B hD0 (Nat.le_trans hB0 hB.size) (by omega)).mono ?_; rintro e w1 ⟨P, p, rfl, m1⟩; rw [← HU.out] at m1; rw [← HU.out, HE.out])
    | ((with_reducible show wpList _ _ _ (Oper.mk _ (Op.store 93 _ _) _ _ _ _ :: _) _ _); refine is_store_new (cs := isa u P p) rfl rfl rfl rfl (is_one _ _ _) ?_))
  have x1 := m1.below
  have j1 : Below w1.heap.size w1 (w1.alloc (.cells (isa u P p) 93)) := (Below.refl _ w1).alloc (Nat.le_refl _) _
  have x1j := x1.trans (j1.mono x1.size)
  have hR1 := (x1j.block (w.heap.size + 1) (heap_lt hR0)).trans hR0
  have at1 := Atis.new (q := u) (A := P) (c := p) w1
  have z1 : w1.heap.size < (w1.alloc (.cells (isa u P p) 93)).heap.size := by simp
  have b1 := hB.trans (x1j.mono hB.size)
  have k1 := at1.typ
  generalize w1.alloc (.cells (isa u P p) 93) = X at *
  go_wp2_with (first
    | (go_at_call 63; refine (rIquery _ _).mono ?_; rintro e w2 ⟨rfl, rfl⟩; rw [HQ.out])
    | ((with_reducible show wpList _ _ _ (Oper.mk _ (Op.store 28 _ _) _ _ _ _ :: _) _ _); refine pr_store (g := w.heap.size + 1) (cs := prA 0 0 0) rfl rfl hR1 rfl rfl (prA_one _ _ _) ?_))
  exact bodyPost_ret (res2 rfl rfl (pr_load_run (setRow_heap _ _ _ _ _ _ hR1) rfl)) rfl ⟨rfl, below_row b1 (by omega)⟩
set_option maxRecDepth 100000 in
set_option maxHeartbeats 2000000 in
theorem r11icO (hl : q.dat.length ≤ 900000) (B : Nat) (hD : Arg w B A' c' q.dat) (hB0 : B ≤ w.heap.size) (he : badI [] q.dat = 0) (hq : qryI (inI q).typ = true) : Calls Tryz.prog 35 #[v4v q A c A' c'] w fun e w' => e = .returned (.tuple #[.agg (prA 1 (idI (inI q)) (idI (inI q))), .int .i64 0]) ∧ Below w.heap.size w w' := by
  obtain ⟨u, hu⟩ : ∃ x, x = prsI [] q.dat := ⟨_, rfl⟩
  have HU := Lib.hid hu
  have HE := Lib.hid he
  have HQ := Lib.hid (show qryI u.typ = true by rw [hu]; exact hq)
  have HI := Lib.hid (show idI (inI q) = idI u by rw [hu]; rfl)
  rw [HI.out]
  clear he hq hu
  have hB : Below w.heap.size w ((w.alloc (.cells (v4a q A c A' c') 24)).alloc (.cells (prA 0 0 0) 28)) := below_two w _ _
  have hU0 : ((w.alloc (.cells (v4a q A c A' c') 24)).alloc (.cells (prA 0 0 0) 28)).heap[w.heap.size]? = some (.cells (v4a q A c A' c') 24 (0, 0)) := (Below.heap_alloc (w.alloc (.cells (v4a q A c A' c') 24)) _ w.heap.size (by simp)).trans (World.alloc_heap_new w _)
  have hR0 : ((w.alloc (.cells (v4a q A c A' c') 24)).alloc (.cells (prA 0 0 0) 28)).heap[w.heap.size + 1]? = some (.cells (prA 0 0 0) 28 (0, 0)) := by
    have := World.alloc_heap_new (w.alloc (.cells (v4a q A c A' c') 24)) (.cells (prA 0 0 0) 28)
    rwa [World.size_alloc] at this
  rw [v4q_eq]
  go_enter Tryz.func35, Tryz.ntmps35
  go_upto_region 1 with fail
  rw [show #[Value.int .i64 0, .int .i64 0, .int .i64 0] = prA 0 0 0 from rfl]
  generalize (w.alloc (.cells (v4a q A c A' c') 24)).alloc (.cells (prA 0 0 0) 28) = W at *
  have at0 := At4.of_heap hU0
  have k10 := at0.dat
  have hD0 := hD.below (hB.mono hB0)
  go_upto_region 2 with (first
    | (go_at_call 62; refine (rIparse q.dat A' c' W B hD0 (Nat.le_trans hB0 hB.size) (by omega)).mono ?_; rintro e w1 ⟨P, p, rfl, m1⟩; rw [← HU.out] at m1; rw [← HU.out, HE.out])
    | ((with_reducible show wpList _ _ _ (Oper.mk _ (Op.store 93 _ _) _ _ _ _ :: _) _ _); refine is_store_new (cs := isa u P p) rfl rfl rfl rfl (is_one _ _ _) ?_))
  have x1 := m1.below
  have j1 : Below w1.heap.size w1 (w1.alloc (.cells (isa u P p) 93)) := (Below.refl _ w1).alloc (Nat.le_refl _) _
  have x1j := x1.trans (j1.mono x1.size)
  have hR1 := (x1j.block (w.heap.size + 1) (heap_lt hR0)).trans hR0
  have at1 := Atis.new (q := u) (A := P) (c := p) w1
  have z1 : w1.heap.size < (w1.alloc (.cells (isa u P p) 93)).heap.size := by simp
  have b1 := hB.trans (x1j.mono hB.size)
  have k1 := at1.typ
  generalize w1.alloc (.cells (isa u P p) 93) = X at *
  go_wp2_with (first
    | (go_at_call 63; refine (rIquery _ _).mono ?_; rintro e w2 ⟨rfl, rfl⟩; rw [HQ.out])
    | ((with_reducible show wpList _ _ _ (Oper.mk _ (Op.load 93 _) _ _ _ _ :: _) _ _); refine wpList_val rfl (run_load_is rfl rfl at1 rfl) ?_)
    | (go_at_call 64; refine (rIid u P p _).mono ?_; rintro e w3 ⟨rfl, x3⟩; have hR3 := (x3.block (w.heap.size + 1) (heap_lt hR1)).trans hR1; have b3 := b1.trans (x3.mono b1.size))
    | ((with_reducible show wpList _ _ _ (Oper.mk _ (Op.store 28 _ _) _ _ _ _ :: _) _ _); refine pr_store (g := w.heap.size + 1) (cs := prA 1 (idI u) (idI u)) rfl rfl hR3 rfl rfl (prA_one _ _ _) ?_))
  exact bodyPost_ret (res2 rfl rfl (pr_load_run (setRow_heap _ _ _ _ _ _ hR3) rfl)) rfl ⟨rfl, below_row b3 (by omega)⟩
set_option maxRecDepth 100000 in
set_option maxHeartbeats 2000000 in
theorem r11ofC (ho : q.opt.length ≤ 1000000) (hl : q.dat.length ≤ 900000) (hc : chk4 q ≠ 0) : Calls Tryz.prog 10 #[v4v q A c A' c'] w fun e w' => e = .returned (.tuple #[.agg (prA 0 0 0), .int .i64 (chk4 q)]) ∧ Below w.heap.size w w' := by
  obtain ⟨E, hE⟩ : ∃ n, n = chk4 q := ⟨_, rfl⟩
  have HC := Lib.hid hE.symm
  have dE : (E != 0) = true := by simpa [hE] using hc
  rw [← hE]
  clear hc hE
  have hB : Below w.heap.size w ((w.alloc (.cells (v4a q A c A' c') 24)).alloc (.cells (prA 0 0 0) 28)) := below_two w _ _
  have hU0 : ((w.alloc (.cells (v4a q A c A' c') 24)).alloc (.cells (prA 0 0 0) 28)).heap[w.heap.size]? = some (.cells (v4a q A c A' c') 24 (0, 0)) := (Below.heap_alloc (w.alloc (.cells (v4a q A c A' c') 24)) _ w.heap.size (by simp)).trans (World.alloc_heap_new w _)
  have hR0 : ((w.alloc (.cells (v4a q A c A' c') 24)).alloc (.cells (prA 0 0 0) 28)).heap[w.heap.size + 1]? = some (.cells (prA 0 0 0) 28 (0, 0)) := by
    have := World.alloc_heap_new (w.alloc (.cells (v4a q A c A' c') 24)) (.cells (prA 0 0 0) 28)
    rwa [World.size_alloc] at this
  rw [v4q_eq]
  go_enter Tryz.func10, Tryz.ntmps10
  go_upto_region 1 with fail
  rw [show #[Value.int .i64 0, .int .i64 0, .int .i64 0] = prA 0 0 0 from rfl]
  generalize (w.alloc (.cells (v4a q A c A' c') 24)).alloc (.cells (prA 0 0 0) 28) = W at *
  have at0 := At4.of_heap hU0
  have k10 := at0.dat
  go_wp2_with (first
    | ((with_reducible show wpList _ _ _ (Oper.mk (some 9) (Op.load 24 _) _ _ _ _ :: _) _ _); refine wpList_val rfl (run_load_v4 rfl rfl at0 rfl) ?_)
    | (go_at_call 31; refine (r5check q A c A' c' _ (by omega) (by omega)).mono ?_; rintro e w1 ⟨rfl, x1⟩; rw [HC.out]; have hU1 := (x1.block w.heap.size (heap_lt hU0)).trans hU0; have hR1 := (x1.block (w.heap.size + 1) (heap_lt hR0)).trans hR0; have at1 := At4.of_heap hU1; have b1 := hB.trans (x1.mono hB.size))
    | ((with_reducible show wpList _ _ _ (Oper.mk _ (Op.store 28 _ _) _ _ _ _ :: _) _ _); refine pr_store (g := w.heap.size + 1) (cs := prA 0 0 0) rfl rfl hR1 rfl rfl (prA_one _ _ _) ?_))
  exact bodyPost_ret (res2 rfl rfl (pr_load_run (setRow_heap _ _ _ _ _ _ hR1) rfl)) rfl ⟨rfl, below_row b1 (by omega)⟩
set_option maxRecDepth 100000 in
set_option maxHeartbeats 2000000 in
theorem r11ofW (ho : q.opt.length ≤ 1000000) (hl : q.dat.length ≤ 900000) (hc : chk4 q = 0) (hw : whole4 q = false) : Calls Tryz.prog 10 #[v4v q A c A' c'] w fun e w' => e = .returned (.tuple #[.agg (prA 0 0 0), .int .i64 4]) ∧ Below w.heap.size w w' := by
  have HC := Lib.hid hc
  have HW := Lib.hid hw
  clear hc hw
  have hB : Below w.heap.size w ((w.alloc (.cells (v4a q A c A' c') 24)).alloc (.cells (prA 0 0 0) 28)) := below_two w _ _
  have hU0 : ((w.alloc (.cells (v4a q A c A' c') 24)).alloc (.cells (prA 0 0 0) 28)).heap[w.heap.size]? = some (.cells (v4a q A c A' c') 24 (0, 0)) := (Below.heap_alloc (w.alloc (.cells (v4a q A c A' c') 24)) _ w.heap.size (by simp)).trans (World.alloc_heap_new w _)
  have hR0 : ((w.alloc (.cells (v4a q A c A' c') 24)).alloc (.cells (prA 0 0 0) 28)).heap[w.heap.size + 1]? = some (.cells (prA 0 0 0) 28 (0, 0)) := by
    have := World.alloc_heap_new (w.alloc (.cells (v4a q A c A' c') 24)) (.cells (prA 0 0 0) 28)
    rwa [World.size_alloc] at this
  rw [v4q_eq]
  go_enter Tryz.func10, Tryz.ntmps10
  go_upto_region 1 with fail
  rw [show #[Value.int .i64 0, .int .i64 0, .int .i64 0] = prA 0 0 0 from rfl]
  generalize (w.alloc (.cells (v4a q A c A' c') 24)).alloc (.cells (prA 0 0 0) 28) = W at *
  have at0 := At4.of_heap hU0
  have k10 := at0.dat
  go_wp2_with (first
    | ((with_reducible show wpList _ _ _ (Oper.mk (some 9) (Op.load 24 _) _ _ _ _ :: _) _ _); refine wpList_val rfl (run_load_v4 rfl rfl at0 rfl) ?_)
    | (go_at_call 31; refine (r5check q A c A' c' _ (by omega) (by omega)).mono ?_; rintro e w1 ⟨rfl, x1⟩; rw [HC.out]; have hU1 := (x1.block w.heap.size (heap_lt hU0)).trans hU0; have hR1 := (x1.block (w.heap.size + 1) (heap_lt hR0)).trans hR0; have at1 := At4.of_heap hU1; have b1 := hB.trans (x1.mono hB.size))
    | ((with_reducible show wpList _ _ _ (Oper.mk (some 15) (Op.load 24 _) _ _ _ _ :: _) _ _); refine wpList_val rfl (run_load_v4 rfl rfl at1 rfl) ?_)
    | (go_at_call 32; refine (r5whole q A c A' c' _).mono ?_; rintro e w2 ⟨rfl, x2⟩; rw [HW.out]; have hU2 := (x2.block w.heap.size (heap_lt hU1)).trans hU1; have hR2 := (x2.block (w.heap.size + 1) (heap_lt hR1)).trans hR1; have at2 := At4.of_heap hU2; have b2 := b1.trans (x2.mono b1.size); have k4 := at2.proto; have k5 := at2.src; have k6 := at2.dst; have k11 := at2.dat)
    | ((with_reducible show wpList _ _ _ (Oper.mk _ (Op.store 28 _ _) _ _ _ _ :: _) _ _); refine pr_store (g := w.heap.size + 1) (cs := prA 0 0 0) rfl rfl hR2 rfl rfl (prA_one _ _ _) ?_))
  exact bodyPost_ret (res2 rfl rfl (pr_load_run (setRow_heap _ _ _ _ _ _ hR2) rfl)) rfl ⟨rfl, below_row b2 (by omega)⟩
set_option maxRecDepth 100000 in
set_option maxHeartbeats 2000000 in
theorem r11ofN (ho : q.opt.length ≤ 1000000) (hl : q.dat.length ≤ 900000) (hc : chk4 q = 0) (hw : whole4 q = true) (h17 : q.proto ≠ 17) (h6 : q.proto ≠ 6) (h1 : q.proto ≠ 1) : Calls Tryz.prog 10 #[v4v q A c A' c'] w fun e w' => e = .returned (.tuple #[.agg (prA 0 0 0), .int .i64 8]) ∧ Below w.heap.size w w' := by
  have HC := Lib.hid hc
  have HW := Lib.hid hw
  have d17 : (q.proto == 17) = false := by simpa using h17
  have d6 : (q.proto == 6) = false := by simpa using h6
  have d1 : (q.proto == 1) = false := by simpa using h1
  clear hc hw h17 h6 h1
  have hB : Below w.heap.size w ((w.alloc (.cells (v4a q A c A' c') 24)).alloc (.cells (prA 0 0 0) 28)) := below_two w _ _
  have hU0 : ((w.alloc (.cells (v4a q A c A' c') 24)).alloc (.cells (prA 0 0 0) 28)).heap[w.heap.size]? = some (.cells (v4a q A c A' c') 24 (0, 0)) := (Below.heap_alloc (w.alloc (.cells (v4a q A c A' c') 24)) _ w.heap.size (by simp)).trans (World.alloc_heap_new w _)
  have hR0 : ((w.alloc (.cells (v4a q A c A' c') 24)).alloc (.cells (prA 0 0 0) 28)).heap[w.heap.size + 1]? = some (.cells (prA 0 0 0) 28 (0, 0)) := by
    have := World.alloc_heap_new (w.alloc (.cells (v4a q A c A' c') 24)) (.cells (prA 0 0 0) 28)
    rwa [World.size_alloc] at this
  rw [v4q_eq]
  go_enter Tryz.func10, Tryz.ntmps10
  go_upto_region 1 with fail
  rw [show #[Value.int .i64 0, .int .i64 0, .int .i64 0] = prA 0 0 0 from rfl]
  generalize (w.alloc (.cells (v4a q A c A' c') 24)).alloc (.cells (prA 0 0 0) 28) = W at *
  have at0 := At4.of_heap hU0
  have k10 := at0.dat
  go_wp2_with (first
    | ((with_reducible show wpList _ _ _ (Oper.mk (some 9) (Op.load 24 _) _ _ _ _ :: _) _ _); refine wpList_val rfl (run_load_v4 rfl rfl at0 rfl) ?_)
    | (go_at_call 31; refine (r5check q A c A' c' _ (by omega) (by omega)).mono ?_; rintro e w1 ⟨rfl, x1⟩; rw [HC.out]; have hU1 := (x1.block w.heap.size (heap_lt hU0)).trans hU0; have hR1 := (x1.block (w.heap.size + 1) (heap_lt hR0)).trans hR0; have at1 := At4.of_heap hU1; have b1 := hB.trans (x1.mono hB.size))
    | ((with_reducible show wpList _ _ _ (Oper.mk (some 15) (Op.load 24 _) _ _ _ _ :: _) _ _); refine wpList_val rfl (run_load_v4 rfl rfl at1 rfl) ?_)
    | (go_at_call 32; refine (r5whole q A c A' c' _).mono ?_; rintro e w2 ⟨rfl, x2⟩; rw [HW.out]; have hU2 := (x2.block w.heap.size (heap_lt hU1)).trans hU1; have hR2 := (x2.block (w.heap.size + 1) (heap_lt hR1)).trans hR1; have at2 := At4.of_heap hU2; have b2 := b1.trans (x2.mono b1.size); have k4 := at2.proto; have k5 := at2.src; have k6 := at2.dst; have k11 := at2.dat)
    | ((with_reducible show wpList _ _ _ (Oper.mk _ (Op.store 28 _ _) _ _ _ _ :: _) _ _); refine pr_store (g := w.heap.size + 1) (cs := prA 0 0 0) rfl rfl hR2 rfl rfl (prA_one _ _ _) ?_))
  exact bodyPost_ret (res2 rfl rfl (pr_load_run (setRow_heap _ _ _ _ _ _ hR2) rfl)) rfl ⟨rfl, below_row b2 (by omega)⟩
set_option maxRecDepth 100000 in
set_option maxHeartbeats 2000000 in
theorem r11of17E (ho : q.opt.length ≤ 1000000) (hl : q.dat.length ≤ 900000) (B : Nat) (hD : Arg w B A' c' q.dat) (hB0 : B ≤ w.heap.size) (hc : chk4 q = 0) (hw : whole4 q = true) (hk : q.proto = 17) (he : badU q.src q.dst q.dat ≠ 0) : Calls Tryz.prog 10 #[v4v q A c A' c'] w fun e w' => e = .returned (.tuple #[.agg (prA 0 0 0), .int .i64 (badU q.src q.dst q.dat)]) ∧ Below w.heap.size w w' := by
  have HC := Lib.hid hc
  have HW := Lib.hid hw
  obtain ⟨u, hu⟩ : ∃ x, x = inU q := ⟨_, rfl⟩
  have HU := Lib.hid (show u = prsU q.src q.dst q.dat from hu)
  obtain ⟨E, hE⟩ : ∃ n, n = badU q.src q.dst q.dat := ⟨_, rfl⟩
  have HE := Lib.hid hE.symm
  have dE : (E != 0) = true := by simpa [hE] using he
  rw [← hE]
  clear hE
  have d17 : (q.proto == 17) = true := by simpa using hk
  clear hc hw hk hu he
  have hB : Below w.heap.size w ((w.alloc (.cells (v4a q A c A' c') 24)).alloc (.cells (prA 0 0 0) 28)) := below_two w _ _
  have hU0 : ((w.alloc (.cells (v4a q A c A' c') 24)).alloc (.cells (prA 0 0 0) 28)).heap[w.heap.size]? = some (.cells (v4a q A c A' c') 24 (0, 0)) := (Below.heap_alloc (w.alloc (.cells (v4a q A c A' c') 24)) _ w.heap.size (by simp)).trans (World.alloc_heap_new w _)
  have hR0 : ((w.alloc (.cells (v4a q A c A' c') 24)).alloc (.cells (prA 0 0 0) 28)).heap[w.heap.size + 1]? = some (.cells (prA 0 0 0) 28 (0, 0)) := by
    have := World.alloc_heap_new (w.alloc (.cells (v4a q A c A' c') 24)) (.cells (prA 0 0 0) 28)
    rwa [World.size_alloc] at this
  rw [v4q_eq]
  go_enter Tryz.func10, Tryz.ntmps10
  go_upto_region 1 with fail
  rw [show #[Value.int .i64 0, .int .i64 0, .int .i64 0] = prA 0 0 0 from rfl]
  generalize (w.alloc (.cells (v4a q A c A' c') 24)).alloc (.cells (prA 0 0 0) 28) = W at *
  have at0 := At4.of_heap hU0
  have k10 := at0.dat
  have hD0 := hD.below (hB.mono hB0)
  go_upto_region 9 with (first
    | ((with_reducible show wpList _ _ _ (Oper.mk (some 9) (Op.load 24 _) _ _ _ _ :: _) _ _); refine wpList_val rfl (run_load_v4 rfl rfl at0 rfl) ?_)
    | (go_at_call 31; refine (r5check q A c A' c' _ (by omega) (by omega)).mono ?_; rintro e w1 ⟨rfl, x1⟩; rw [HC.out]; have hU1 := (x1.block w.heap.size (heap_lt hU0)).trans hU0; have hR1 := (x1.block (w.heap.size + 1) (heap_lt hR0)).trans hR0; have at1 := At4.of_heap hU1; have b1 := hB.trans (x1.mono hB.size))
    | ((with_reducible show wpList _ _ _ (Oper.mk (some 15) (Op.load 24 _) _ _ _ _ :: _) _ _); refine wpList_val rfl (run_load_v4 rfl rfl at1 rfl) ?_)
    | (go_at_call 32; refine (r5whole q A c A' c' _).mono ?_; rintro e w2 ⟨rfl, x2⟩; rw [HW.out]; have hU2 := (x2.block w.heap.size (heap_lt hU1)).trans hU1; have hR2 := (x2.block (w.heap.size + 1) (heap_lt hR1)).trans hR1; have at2 := At4.of_heap hU2; have b2 := b1.trans (x2.mono b1.size); have k4 := at2.proto; have k5 := at2.src; have k6 := at2.dst; have k11 := at2.dat)
    | (go_at_call 33; refine (rUparse q.dat A' c' q.src q.dst w2 B (hD0.below ((x1.trans (x2.mono x1.size)).mono (Nat.le_trans hB0 hB.size))) (Nat.le_trans hB0 b2.size) (by omega)).mono ?_; rintro e w3 ⟨P, p, rfl, m1⟩; rw [← HU.out] at m1; rw [← HU.out, HE.out])
    | ((with_reducible show wpList _ _ _ (Oper.mk _ (Op.store 57 _ _) _ _ _ _ :: _) _ _); refine us_store_new (cs := usa u P p) rfl rfl rfl rfl (us_one _ _ _ ) ?_))
  have x3 := m1.below
  have j3 : Below w3.heap.size w3 (w3.alloc (.cells (usa u P p) 57)) := (Below.refl _ w3).alloc (Nat.le_refl _) _
  have x3j := x3.trans (j3.mono x3.size)
  have hR3 := (x3j.block (w.heap.size + 1) (heap_lt hR2)).trans hR2
  have b3 := b2.trans (x3j.mono b2.size)
  have at3 := Atus.of_heap (World.alloc_heap_new w3 (.cells (usa u P p) 57))
  have s3 := at3.src
  have t3 := at3.dst
  generalize w3.alloc (.cells (usa u P p) 57) = X at *
  go_wp2_with (first
    | ((with_reducible show wpList _ _ _ (Oper.mk _ (Op.store 28 _ _) _ _ _ _ :: _) _ _); refine pr_store (g := w.heap.size + 1) (cs := prA 0 0 0) rfl rfl hR3 rfl rfl (prA_one _ _ _) ?_))
  exact bodyPost_ret (res2 rfl rfl (pr_load_run (setRow_heap _ _ _ _ _ _ hR3) rfl)) rfl ⟨rfl, below_row b3 (by omega)⟩
set_option maxRecDepth 100000 in
set_option maxHeartbeats 2000000 in
theorem r11of17O (ho : q.opt.length ≤ 1000000) (hl : q.dat.length ≤ 900000) (B : Nat) (hD : Arg w B A' c' q.dat) (hB0 : B ≤ w.heap.size) (hc : chk4 q = 0) (hw : whole4 q = true) (hk : q.proto = 17) (he : badU q.src q.dst q.dat = 0) : Calls Tryz.prog 10 #[v4v q A c A' c'] w fun e w' => e = .returned (.tuple #[.agg (prA 17 (inU q).src (inU q).dst), .int .i64 0]) ∧ Below w.heap.size w w' := by
  have HC := Lib.hid hc
  have HW := Lib.hid hw
  obtain ⟨u, hu⟩ : ∃ x, x = inU q := ⟨_, rfl⟩
  have HU := Lib.hid (show u = prsU q.src q.dst q.dat from hu)
  have HE := Lib.hid he
  rw [← hu]
  have d17 : (q.proto == 17) = true := by simpa using hk
  clear hc hw hk hu he
  have hB : Below w.heap.size w ((w.alloc (.cells (v4a q A c A' c') 24)).alloc (.cells (prA 0 0 0) 28)) := below_two w _ _
  have hU0 : ((w.alloc (.cells (v4a q A c A' c') 24)).alloc (.cells (prA 0 0 0) 28)).heap[w.heap.size]? = some (.cells (v4a q A c A' c') 24 (0, 0)) := (Below.heap_alloc (w.alloc (.cells (v4a q A c A' c') 24)) _ w.heap.size (by simp)).trans (World.alloc_heap_new w _)
  have hR0 : ((w.alloc (.cells (v4a q A c A' c') 24)).alloc (.cells (prA 0 0 0) 28)).heap[w.heap.size + 1]? = some (.cells (prA 0 0 0) 28 (0, 0)) := by
    have := World.alloc_heap_new (w.alloc (.cells (v4a q A c A' c') 24)) (.cells (prA 0 0 0) 28)
    rwa [World.size_alloc] at this
  rw [v4q_eq]
  go_enter Tryz.func10, Tryz.ntmps10
  go_upto_region 1 with fail
  rw [show #[Value.int .i64 0, .int .i64 0, .int .i64 0] = prA 0 0 0 from rfl]
  generalize (w.alloc (.cells (v4a q A c A' c') 24)).alloc (.cells (prA 0 0 0) 28) = W at *
  have at0 := At4.of_heap hU0
  have k10 := at0.dat
  have hD0 := hD.below (hB.mono hB0)
  go_upto_region 9 with (first
    | ((with_reducible show wpList _ _ _ (Oper.mk (some 9) (Op.load 24 _) _ _ _ _ :: _) _ _); refine wpList_val rfl (run_load_v4 rfl rfl at0 rfl) ?_)
    | (go_at_call 31; refine (r5check q A c A' c' _ (by omega) (by omega)).mono ?_; rintro e w1 ⟨rfl, x1⟩; rw [HC.out]; have hU1 := (x1.block w.heap.size (heap_lt hU0)).trans hU0; have hR1 := (x1.block (w.heap.size + 1) (heap_lt hR0)).trans hR0; have at1 := At4.of_heap hU1; have b1 := hB.trans (x1.mono hB.size))
    | ((with_reducible show wpList _ _ _ (Oper.mk (some 15) (Op.load 24 _) _ _ _ _ :: _) _ _); refine wpList_val rfl (run_load_v4 rfl rfl at1 rfl) ?_)
    | (go_at_call 32; refine (r5whole q A c A' c' _).mono ?_; rintro e w2 ⟨rfl, x2⟩; rw [HW.out]; have hU2 := (x2.block w.heap.size (heap_lt hU1)).trans hU1; have hR2 := (x2.block (w.heap.size + 1) (heap_lt hR1)).trans hR1; have at2 := At4.of_heap hU2; have b2 := b1.trans (x2.mono b1.size); have k4 := at2.proto; have k5 := at2.src; have k6 := at2.dst; have k11 := at2.dat)
    | (go_at_call 33; refine (rUparse q.dat A' c' q.src q.dst w2 B (hD0.below ((x1.trans (x2.mono x1.size)).mono (Nat.le_trans hB0 hB.size))) (Nat.le_trans hB0 b2.size) (by omega)).mono ?_; rintro e w3 ⟨P, p, rfl, m1⟩; rw [← HU.out] at m1; rw [← HU.out, HE.out])
    | ((with_reducible show wpList _ _ _ (Oper.mk _ (Op.store 57 _ _) _ _ _ _ :: _) _ _); refine us_store_new (cs := usa u P p) rfl rfl rfl rfl (us_one _ _ _ ) ?_))
  have x3 := m1.below
  have j3 : Below w3.heap.size w3 (w3.alloc (.cells (usa u P p) 57)) := (Below.refl _ w3).alloc (Nat.le_refl _) _
  have x3j := x3.trans (j3.mono x3.size)
  have hR3 := (x3j.block (w.heap.size + 1) (heap_lt hR2)).trans hR2
  have b3 := b2.trans (x3j.mono b2.size)
  have at3 := Atus.of_heap (World.alloc_heap_new w3 (.cells (usa u P p) 57))
  have s3 := at3.src
  have t3 := at3.dst
  generalize w3.alloc (.cells (usa u P p) 57) = X at *
  go_wp2_with (first
    | ((with_reducible show wpList _ _ _ (Oper.mk _ (Op.store 28 _ _) _ _ _ _ :: _) _ _); refine pr_store (g := w.heap.size + 1) (cs := prA 17 u.src u.dst) rfl rfl hR3 rfl rfl (prA_one _ _ _) ?_))
  exact bodyPost_ret (res2 rfl rfl (pr_load_run (setRow_heap _ _ _ _ _ _ hR3) rfl)) rfl ⟨rfl, below_row b3 (by omega)⟩
set_option maxRecDepth 100000 in
set_option maxHeartbeats 2000000 in
theorem r11of6E (ho : q.opt.length ≤ 1000000) (hl : q.dat.length ≤ 900000) (B : Nat) (hD : Arg w B A' c' q.dat) (hB0 : B ≤ w.heap.size) (hc : chk4 q = 0) (hw : whole4 q = true) (hk : q.proto = 6) (he : badT q.src q.dst q.dat ≠ 0) : Calls Tryz.prog 10 #[v4v q A c A' c'] w fun e w' => e = .returned (.tuple #[.agg (prA 0 0 0), .int .i64 (badT q.src q.dst q.dat)]) ∧ Below w.heap.size w w' := by
  have HC := Lib.hid hc
  have HW := Lib.hid hw
  obtain ⟨u, hu⟩ : ∃ x, x = inT q := ⟨_, rfl⟩
  have HU := Lib.hid (show u = prsT q.src q.dst q.dat from hu)
  obtain ⟨E, hE⟩ : ∃ n, n = badT q.src q.dst q.dat := ⟨_, rfl⟩
  have HE := Lib.hid hE.symm
  have dE : (E != 0) = true := by simpa [hE] using he
  rw [← hE]
  clear hE
  have d17 : (q.proto == 17) = false := by simp; omega
  have d6 : (q.proto == 6) = true := by simpa using hk
  clear hc hw hk hu he
  have hB : Below w.heap.size w ((w.alloc (.cells (v4a q A c A' c') 24)).alloc (.cells (prA 0 0 0) 28)) := below_two w _ _
  have hU0 : ((w.alloc (.cells (v4a q A c A' c') 24)).alloc (.cells (prA 0 0 0) 28)).heap[w.heap.size]? = some (.cells (v4a q A c A' c') 24 (0, 0)) := (Below.heap_alloc (w.alloc (.cells (v4a q A c A' c') 24)) _ w.heap.size (by simp)).trans (World.alloc_heap_new w _)
  have hR0 : ((w.alloc (.cells (v4a q A c A' c') 24)).alloc (.cells (prA 0 0 0) 28)).heap[w.heap.size + 1]? = some (.cells (prA 0 0 0) 28 (0, 0)) := by
    have := World.alloc_heap_new (w.alloc (.cells (v4a q A c A' c') 24)) (.cells (prA 0 0 0) 28)
    rwa [World.size_alloc] at this
  rw [v4q_eq]
  go_enter Tryz.func10, Tryz.ntmps10
  go_upto_region 1 with fail
  rw [show #[Value.int .i64 0, .int .i64 0, .int .i64 0] = prA 0 0 0 from rfl]
  generalize (w.alloc (.cells (v4a q A c A' c') 24)).alloc (.cells (prA 0 0 0) 28) = W at *
  have at0 := At4.of_heap hU0
  have k10 := at0.dat
  have hD0 := hD.below (hB.mono hB0)
  go_upto_region 14 with (first
    | ((with_reducible show wpList _ _ _ (Oper.mk (some 9) (Op.load 24 _) _ _ _ _ :: _) _ _); refine wpList_val rfl (run_load_v4 rfl rfl at0 rfl) ?_)
    | (go_at_call 31; refine (r5check q A c A' c' _ (by omega) (by omega)).mono ?_; rintro e w1 ⟨rfl, x1⟩; rw [HC.out]; have hU1 := (x1.block w.heap.size (heap_lt hU0)).trans hU0; have hR1 := (x1.block (w.heap.size + 1) (heap_lt hR0)).trans hR0; have at1 := At4.of_heap hU1; have b1 := hB.trans (x1.mono hB.size))
    | ((with_reducible show wpList _ _ _ (Oper.mk (some 15) (Op.load 24 _) _ _ _ _ :: _) _ _); refine wpList_val rfl (run_load_v4 rfl rfl at1 rfl) ?_)
    | (go_at_call 32; refine (r5whole q A c A' c' _).mono ?_; rintro e w2 ⟨rfl, x2⟩; rw [HW.out]; have hU2 := (x2.block w.heap.size (heap_lt hU1)).trans hU1; have hR2 := (x2.block (w.heap.size + 1) (heap_lt hR1)).trans hR1; have at2 := At4.of_heap hU2; have b2 := b1.trans (x2.mono b1.size); have k4 := at2.proto; have k5 := at2.src; have k6 := at2.dst; have k11 := at2.dat)
    | (go_at_call 34; refine (rTparse q.dat A' c' q.src q.dst w2 B (hD0.below ((x1.trans (x2.mono x1.size)).mono (Nat.le_trans hB0 hB.size))) (Nat.le_trans hB0 b2.size) (by omega)).mono ?_; rintro e w3 ⟨P, p, P', p', rfl, m1, m2⟩; rw [← HU.out] at m1; rw [← HU.out, HE.out])
    | ((with_reducible show wpList _ _ _ (Oper.mk _ (Op.store 41 _ _) _ _ _ _ :: _) _ _); refine ts_store_new (cs := tsa u P p P' p') rfl rfl rfl rfl (ts_one _ _ _ _ _ ) ?_))
  have x3 := m1.below
  have j3 : Below w3.heap.size w3 (w3.alloc (.cells (tsa u P p P' p') 41)) := (Below.refl _ w3).alloc (Nat.le_refl _) _
  have x3j := x3.trans (j3.mono x3.size)
  have hR3 := (x3j.block (w.heap.size + 1) (heap_lt hR2)).trans hR2
  have b3 := b2.trans (x3j.mono b2.size)
  have at3 := Atts.of_heap (World.alloc_heap_new w3 (.cells (tsa u P p P' p') 41))
  have s3 := at3.src
  have t3 := at3.dst
  generalize w3.alloc (.cells (tsa u P p P' p') 41) = X at *
  go_wp2_with (first
    | ((with_reducible show wpList _ _ _ (Oper.mk _ (Op.store 28 _ _) _ _ _ _ :: _) _ _); refine pr_store (g := w.heap.size + 1) (cs := prA 0 0 0) rfl rfl hR3 rfl rfl (prA_one _ _ _) ?_))
  exact bodyPost_ret (res2 rfl rfl (pr_load_run (setRow_heap _ _ _ _ _ _ hR3) rfl)) rfl ⟨rfl, below_row b3 (by omega)⟩
set_option maxRecDepth 100000 in
set_option maxHeartbeats 2000000 in
theorem r11of6O (ho : q.opt.length ≤ 1000000) (hl : q.dat.length ≤ 900000) (B : Nat) (hD : Arg w B A' c' q.dat) (hB0 : B ≤ w.heap.size) (hc : chk4 q = 0) (hw : whole4 q = true) (hk : q.proto = 6) (he : badT q.src q.dst q.dat = 0) : Calls Tryz.prog 10 #[v4v q A c A' c'] w fun e w' => e = .returned (.tuple #[.agg (prA 6 (inT q).src (inT q).dst), .int .i64 0]) ∧ Below w.heap.size w w' := by
  have HC := Lib.hid hc
  have HW := Lib.hid hw
  obtain ⟨u, hu⟩ : ∃ x, x = inT q := ⟨_, rfl⟩
  have HU := Lib.hid (show u = prsT q.src q.dst q.dat from hu)
  have HE := Lib.hid he
  rw [← hu]
  have d17 : (q.proto == 17) = false := by simp; omega
  have d6 : (q.proto == 6) = true := by simpa using hk
  clear hc hw hk hu he
  have hB : Below w.heap.size w ((w.alloc (.cells (v4a q A c A' c') 24)).alloc (.cells (prA 0 0 0) 28)) := below_two w _ _
  have hU0 : ((w.alloc (.cells (v4a q A c A' c') 24)).alloc (.cells (prA 0 0 0) 28)).heap[w.heap.size]? = some (.cells (v4a q A c A' c') 24 (0, 0)) := (Below.heap_alloc (w.alloc (.cells (v4a q A c A' c') 24)) _ w.heap.size (by simp)).trans (World.alloc_heap_new w _)
  have hR0 : ((w.alloc (.cells (v4a q A c A' c') 24)).alloc (.cells (prA 0 0 0) 28)).heap[w.heap.size + 1]? = some (.cells (prA 0 0 0) 28 (0, 0)) := by
    have := World.alloc_heap_new (w.alloc (.cells (v4a q A c A' c') 24)) (.cells (prA 0 0 0) 28)
    rwa [World.size_alloc] at this
  rw [v4q_eq]
  go_enter Tryz.func10, Tryz.ntmps10
  go_upto_region 1 with fail
  rw [show #[Value.int .i64 0, .int .i64 0, .int .i64 0] = prA 0 0 0 from rfl]
  generalize (w.alloc (.cells (v4a q A c A' c') 24)).alloc (.cells (prA 0 0 0) 28) = W at *
  have at0 := At4.of_heap hU0
  have k10 := at0.dat
  have hD0 := hD.below (hB.mono hB0)
  go_upto_region 14 with (first
    | ((with_reducible show wpList _ _ _ (Oper.mk (some 9) (Op.load 24 _) _ _ _ _ :: _) _ _); refine wpList_val rfl (run_load_v4 rfl rfl at0 rfl) ?_)
    | (go_at_call 31; refine (r5check q A c A' c' _ (by omega) (by omega)).mono ?_; rintro e w1 ⟨rfl, x1⟩; rw [HC.out]; have hU1 := (x1.block w.heap.size (heap_lt hU0)).trans hU0; have hR1 := (x1.block (w.heap.size + 1) (heap_lt hR0)).trans hR0; have at1 := At4.of_heap hU1; have b1 := hB.trans (x1.mono hB.size))
    | ((with_reducible show wpList _ _ _ (Oper.mk (some 15) (Op.load 24 _) _ _ _ _ :: _) _ _); refine wpList_val rfl (run_load_v4 rfl rfl at1 rfl) ?_)
    | (go_at_call 32; refine (r5whole q A c A' c' _).mono ?_; rintro e w2 ⟨rfl, x2⟩; rw [HW.out]; have hU2 := (x2.block w.heap.size (heap_lt hU1)).trans hU1; have hR2 := (x2.block (w.heap.size + 1) (heap_lt hR1)).trans hR1; have at2 := At4.of_heap hU2; have b2 := b1.trans (x2.mono b1.size); have k4 := at2.proto; have k5 := at2.src; have k6 := at2.dst; have k11 := at2.dat)
    | (go_at_call 34; refine (rTparse q.dat A' c' q.src q.dst w2 B (hD0.below ((x1.trans (x2.mono x1.size)).mono (Nat.le_trans hB0 hB.size))) (Nat.le_trans hB0 b2.size) (by omega)).mono ?_; rintro e w3 ⟨P, p, P', p', rfl, m1, m2⟩; rw [← HU.out] at m1; rw [← HU.out, HE.out])
    | ((with_reducible show wpList _ _ _ (Oper.mk _ (Op.store 41 _ _) _ _ _ _ :: _) _ _); refine ts_store_new (cs := tsa u P p P' p') rfl rfl rfl rfl (ts_one _ _ _ _ _ ) ?_))
  have x3 := m1.below
  have j3 : Below w3.heap.size w3 (w3.alloc (.cells (tsa u P p P' p') 41)) := (Below.refl _ w3).alloc (Nat.le_refl _) _
  have x3j := x3.trans (j3.mono x3.size)
  have hR3 := (x3j.block (w.heap.size + 1) (heap_lt hR2)).trans hR2
  have b3 := b2.trans (x3j.mono b2.size)
  have at3 := Atts.of_heap (World.alloc_heap_new w3 (.cells (tsa u P p P' p') 41))
  have s3 := at3.src
  have t3 := at3.dst
  generalize w3.alloc (.cells (tsa u P p P' p') 41) = X at *
  go_wp2_with (first
    | ((with_reducible show wpList _ _ _ (Oper.mk _ (Op.store 28 _ _) _ _ _ _ :: _) _ _); refine pr_store (g := w.heap.size + 1) (cs := prA 6 u.src u.dst) rfl rfl hR3 rfl rfl (prA_one _ _ _) ?_))
  exact bodyPost_ret (res2 rfl rfl (pr_load_run (setRow_heap _ _ _ _ _ _ hR3) rfl)) rfl ⟨rfl, below_row b3 (by omega)⟩
set_option maxRecDepth 100000 in
set_option maxHeartbeats 2000000 in
theorem r11of1E (ho : q.opt.length ≤ 1000000) (hl : q.dat.length ≤ 900000) (B : Nat) (hD : Arg w B A' c' q.dat) (hB0 : B ≤ w.heap.size) (hc : chk4 q = 0) (hw : whole4 q = true) (hk : q.proto = 1) (he : badI [] q.dat ≠ 0) : Calls Tryz.prog 10 #[v4v q A c A' c'] w fun e w' => e = .returned (.tuple #[.agg (prA 0 0 0), .int .i64 (badI [] q.dat)]) ∧ Below w.heap.size w w' := by
  have HC := Lib.hid hc
  have HW := Lib.hid hw
  have d17 : (q.proto == 17) = false := by simp; omega
  have d6 : (q.proto == 6) = false := by simp; omega
  have d1 : (q.proto == 1) = true := by simpa using hk
  have HX := fun (w : World) (B : Nat) (hD : Arg w B A' c' q.dat) (hB0 : B ≤ w.heap.size) => r11icE q A c A' c' w hl B hD hB0 he
  have HX := Lib.hid HX
  clear hc hw hk he
  have hB : Below w.heap.size w ((w.alloc (.cells (v4a q A c A' c') 24)).alloc (.cells (prA 0 0 0) 28)) := below_two w _ _
  have hU0 : ((w.alloc (.cells (v4a q A c A' c') 24)).alloc (.cells (prA 0 0 0) 28)).heap[w.heap.size]? = some (.cells (v4a q A c A' c') 24 (0, 0)) := (Below.heap_alloc (w.alloc (.cells (v4a q A c A' c') 24)) _ w.heap.size (by simp)).trans (World.alloc_heap_new w _)
  have hR0 : ((w.alloc (.cells (v4a q A c A' c') 24)).alloc (.cells (prA 0 0 0) 28)).heap[w.heap.size + 1]? = some (.cells (prA 0 0 0) 28 (0, 0)) := by
    have := World.alloc_heap_new (w.alloc (.cells (v4a q A c A' c') 24)) (.cells (prA 0 0 0) 28)
    rwa [World.size_alloc] at this
  rw [v4q_eq]
  go_enter Tryz.func10, Tryz.ntmps10
  go_upto_region 1 with fail
  rw [show #[Value.int .i64 0, .int .i64 0, .int .i64 0] = prA 0 0 0 from rfl]
  generalize (w.alloc (.cells (v4a q A c A' c') 24)).alloc (.cells (prA 0 0 0) 28) = W at *
  have at0 := At4.of_heap hU0
  have k10 := at0.dat
  have hD0 := hD.below (hB.mono hB0)
  go_wp2_with (first
    | ((with_reducible show wpList _ _ _ (Oper.mk (some 9) (Op.load 24 _) _ _ _ _ :: _) _ _); refine wpList_val rfl (run_load_v4 rfl rfl at0 rfl) ?_)
    | (go_at_call 31; refine (r5check q A c A' c' _ (by omega) (by omega)).mono ?_; rintro e w1 ⟨rfl, x1⟩; rw [HC.out]; have hU1 := (x1.block w.heap.size (heap_lt hU0)).trans hU0; have hR1 := (x1.block (w.heap.size + 1) (heap_lt hR0)).trans hR0; have at1 := At4.of_heap hU1; have b1 := hB.trans (x1.mono hB.size))
    | ((with_reducible show wpList _ _ _ (Oper.mk (some 15) (Op.load 24 _) _ _ _ _ :: _) _ _); refine wpList_val rfl (run_load_v4 rfl rfl at1 rfl) ?_)
    | (go_at_call 32; refine (r5whole q A c A' c' _).mono ?_; rintro e w2 ⟨rfl, x2⟩; rw [HW.out]; have hU2 := (x2.block w.heap.size (heap_lt hU1)).trans hU1; have hR2 := (x2.block (w.heap.size + 1) (heap_lt hR1)).trans hR1; have at2 := At4.of_heap hU2; have b2 := b1.trans (x2.mono b1.size); have k4 := at2.proto; have k5 := at2.src; have k6 := at2.dst; have k11 := at2.dat)
    | ((with_reducible show wpList _ _ _ (Oper.mk (some 65) (Op.load 24 _) _ _ _ _ :: _) _ _); refine wpList_val rfl (run_load_v4 rfl rfl at2 rfl) ?_)
    | (go_at_call 35; refine (HX.out w2 B (hD0.below ((x1.trans (x2.mono x1.size)).mono (Nat.le_trans hB0 hB.size))) (Nat.le_trans hB0 b2.size)).mono ?_; rintro e w3 ⟨rfl, x3⟩; have hR3 := (x3.block (w.heap.size + 1) (heap_lt hR2)).trans hR2; have b3 := b2.trans (x3.mono b2.size))
    | ((with_reducible show wpList _ _ _ (Oper.mk _ (Op.store 28 _ _) _ _ _ _ :: _) _ _); refine pr_store (g := w.heap.size + 1) (cs := prA 0 0 0) rfl rfl hR3 rfl rfl (prA_one _ _ _) ?_))
  exact bodyPost_ret (res2 rfl rfl (pr_load_run (setRow_heap _ _ _ _ _ _ hR3) rfl)) rfl ⟨rfl, below_row b3 (by omega)⟩
set_option maxRecDepth 100000 in
set_option maxHeartbeats 2000000 in
theorem r11of1Q (ho : q.opt.length ≤ 1000000) (hl : q.dat.length ≤ 900000) (B : Nat) (hD : Arg w B A' c' q.dat) (hB0 : B ≤ w.heap.size) (hc : chk4 q = 0) (hw : whole4 q = true) (hk : q.proto = 1) (he : badI [] q.dat = 0) (hq : qryI (inI q).typ = false) : Calls Tryz.prog 10 #[v4v q A c A' c'] w fun e w' => e = .returned (.tuple #[.agg (prA 0 0 0), .int .i64 8]) ∧ Below w.heap.size w w' := by
  have HC := Lib.hid hc
  have HW := Lib.hid hw
  have d17 : (q.proto == 17) = false := by simp; omega
  have d6 : (q.proto == 6) = false := by simp; omega
  have d1 : (q.proto == 1) = true := by simpa using hk
  have HX := fun (w : World) (B : Nat) (hD : Arg w B A' c' q.dat) (hB0 : B ≤ w.heap.size) => r11icQ q A c A' c' w hl B hD hB0 he hq
  have HX := Lib.hid HX
  clear hc hw hk he hq
  have hB : Below w.heap.size w ((w.alloc (.cells (v4a q A c A' c') 24)).alloc (.cells (prA 0 0 0) 28)) := below_two w _ _
  have hU0 : ((w.alloc (.cells (v4a q A c A' c') 24)).alloc (.cells (prA 0 0 0) 28)).heap[w.heap.size]? = some (.cells (v4a q A c A' c') 24 (0, 0)) := (Below.heap_alloc (w.alloc (.cells (v4a q A c A' c') 24)) _ w.heap.size (by simp)).trans (World.alloc_heap_new w _)
  have hR0 : ((w.alloc (.cells (v4a q A c A' c') 24)).alloc (.cells (prA 0 0 0) 28)).heap[w.heap.size + 1]? = some (.cells (prA 0 0 0) 28 (0, 0)) := by
    have := World.alloc_heap_new (w.alloc (.cells (v4a q A c A' c') 24)) (.cells (prA 0 0 0) 28)
    rwa [World.size_alloc] at this
  rw [v4q_eq]
  go_enter Tryz.func10, Tryz.ntmps10
  go_upto_region 1 with fail
  rw [show #[Value.int .i64 0, .int .i64 0, .int .i64 0] = prA 0 0 0 from rfl]
  generalize (w.alloc (.cells (v4a q A c A' c') 24)).alloc (.cells (prA 0 0 0) 28) = W at *
  have at0 := At4.of_heap hU0
  have k10 := at0.dat
  have hD0 := hD.below (hB.mono hB0)
  go_wp2_with (first
    | ((with_reducible show wpList _ _ _ (Oper.mk (some 9) (Op.load 24 _) _ _ _ _ :: _) _ _); refine wpList_val rfl (run_load_v4 rfl rfl at0 rfl) ?_)
    | (go_at_call 31; refine (r5check q A c A' c' _ (by omega) (by omega)).mono ?_; rintro e w1 ⟨rfl, x1⟩; rw [HC.out]; have hU1 := (x1.block w.heap.size (heap_lt hU0)).trans hU0; have hR1 := (x1.block (w.heap.size + 1) (heap_lt hR0)).trans hR0; have at1 := At4.of_heap hU1; have b1 := hB.trans (x1.mono hB.size))
    | ((with_reducible show wpList _ _ _ (Oper.mk (some 15) (Op.load 24 _) _ _ _ _ :: _) _ _); refine wpList_val rfl (run_load_v4 rfl rfl at1 rfl) ?_)
    | (go_at_call 32; refine (r5whole q A c A' c' _).mono ?_; rintro e w2 ⟨rfl, x2⟩; rw [HW.out]; have hU2 := (x2.block w.heap.size (heap_lt hU1)).trans hU1; have hR2 := (x2.block (w.heap.size + 1) (heap_lt hR1)).trans hR1; have at2 := At4.of_heap hU2; have b2 := b1.trans (x2.mono b1.size); have k4 := at2.proto; have k5 := at2.src; have k6 := at2.dst; have k11 := at2.dat)
    | ((with_reducible show wpList _ _ _ (Oper.mk (some 65) (Op.load 24 _) _ _ _ _ :: _) _ _); refine wpList_val rfl (run_load_v4 rfl rfl at2 rfl) ?_)
    | (go_at_call 35; refine (HX.out w2 B (hD0.below ((x1.trans (x2.mono x1.size)).mono (Nat.le_trans hB0 hB.size))) (Nat.le_trans hB0 b2.size)).mono ?_; rintro e w3 ⟨rfl, x3⟩; have hR3 := (x3.block (w.heap.size + 1) (heap_lt hR2)).trans hR2; have b3 := b2.trans (x3.mono b2.size))
    | ((with_reducible show wpList _ _ _ (Oper.mk _ (Op.store 28 _ _) _ _ _ _ :: _) _ _); refine pr_store (g := w.heap.size + 1) (cs := prA 0 0 0) rfl rfl hR3 rfl rfl (prA_one _ _ _) ?_))
  exact bodyPost_ret (res2 rfl rfl (pr_load_run (setRow_heap _ _ _ _ _ _ hR3) rfl)) rfl ⟨rfl, below_row b3 (by omega)⟩
set_option maxRecDepth 100000 in
set_option maxHeartbeats 2000000 in
theorem r11of1O (ho : q.opt.length ≤ 1000000) (hl : q.dat.length ≤ 900000) (B : Nat) (hD : Arg w B A' c' q.dat) (hB0 : B ≤ w.heap.size) (hc : chk4 q = 0) (hw : whole4 q = true) (hk : q.proto = 1) (he : badI [] q.dat = 0) (hq : qryI (inI q).typ = true) : Calls Tryz.prog 10 #[v4v q A c A' c'] w fun e w' => e = .returned (.tuple #[.agg (prA 1 (idI (inI q)) (idI (inI q))), .int .i64 0]) ∧ Below w.heap.size w w' := by
  have HC := Lib.hid hc
  have HW := Lib.hid hw
  have d17 : (q.proto == 17) = false := by simp; omega
  have d6 : (q.proto == 6) = false := by simp; omega
  have d1 : (q.proto == 1) = true := by simpa using hk
  have HX := fun (w : World) (B : Nat) (hD : Arg w B A' c' q.dat) (hB0 : B ≤ w.heap.size) => r11icO q A c A' c' w hl B hD hB0 he hq
  have HX := Lib.hid HX
  clear hc hw hk he hq
  have hB : Below w.heap.size w ((w.alloc (.cells (v4a q A c A' c') 24)).alloc (.cells (prA 0 0 0) 28)) := below_two w _ _
  have hU0 : ((w.alloc (.cells (v4a q A c A' c') 24)).alloc (.cells (prA 0 0 0) 28)).heap[w.heap.size]? = some (.cells (v4a q A c A' c') 24 (0, 0)) := (Below.heap_alloc (w.alloc (.cells (v4a q A c A' c') 24)) _ w.heap.size (by simp)).trans (World.alloc_heap_new w _)
  have hR0 : ((w.alloc (.cells (v4a q A c A' c') 24)).alloc (.cells (prA 0 0 0) 28)).heap[w.heap.size + 1]? = some (.cells (prA 0 0 0) 28 (0, 0)) := by
    have := World.alloc_heap_new (w.alloc (.cells (v4a q A c A' c') 24)) (.cells (prA 0 0 0) 28)
    rwa [World.size_alloc] at this
  rw [v4q_eq]
  go_enter Tryz.func10, Tryz.ntmps10
  go_upto_region 1 with fail
  rw [show #[Value.int .i64 0, .int .i64 0, .int .i64 0] = prA 0 0 0 from rfl]
  generalize (w.alloc (.cells (v4a q A c A' c') 24)).alloc (.cells (prA 0 0 0) 28) = W at *
  have at0 := At4.of_heap hU0
  have k10 := at0.dat
  have hD0 := hD.below (hB.mono hB0)
  go_wp2_with (first
    | ((with_reducible show wpList _ _ _ (Oper.mk (some 9) (Op.load 24 _) _ _ _ _ :: _) _ _); refine wpList_val rfl (run_load_v4 rfl rfl at0 rfl) ?_)
    | (go_at_call 31; refine (r5check q A c A' c' _ (by omega) (by omega)).mono ?_; rintro e w1 ⟨rfl, x1⟩; rw [HC.out]; have hU1 := (x1.block w.heap.size (heap_lt hU0)).trans hU0; have hR1 := (x1.block (w.heap.size + 1) (heap_lt hR0)).trans hR0; have at1 := At4.of_heap hU1; have b1 := hB.trans (x1.mono hB.size))
    | ((with_reducible show wpList _ _ _ (Oper.mk (some 15) (Op.load 24 _) _ _ _ _ :: _) _ _); refine wpList_val rfl (run_load_v4 rfl rfl at1 rfl) ?_)
    | (go_at_call 32; refine (r5whole q A c A' c' _).mono ?_; rintro e w2 ⟨rfl, x2⟩; rw [HW.out]; have hU2 := (x2.block w.heap.size (heap_lt hU1)).trans hU1; have hR2 := (x2.block (w.heap.size + 1) (heap_lt hR1)).trans hR1; have at2 := At4.of_heap hU2; have b2 := b1.trans (x2.mono b1.size); have k4 := at2.proto; have k5 := at2.src; have k6 := at2.dst; have k11 := at2.dat)
    | ((with_reducible show wpList _ _ _ (Oper.mk (some 65) (Op.load 24 _) _ _ _ _ :: _) _ _); refine wpList_val rfl (run_load_v4 rfl rfl at2 rfl) ?_)
    | (go_at_call 35; refine (HX.out w2 B (hD0.below ((x1.trans (x2.mono x1.size)).mono (Nat.le_trans hB0 hB.size))) (Nat.le_trans hB0 b2.size)).mono ?_; rintro e w3 ⟨rfl, x3⟩; have hR3 := (x3.block (w.heap.size + 1) (heap_lt hR2)).trans hR2; have b3 := b2.trans (x3.mono b2.size))
    | ((with_reducible show wpList _ _ _ (Oper.mk _ (Op.store 28 _ _) _ _ _ _ :: _) _ _); refine pr_store (g := w.heap.size + 1) (cs := prA 1 (idI (inI q)) (idI (inI q))) rfl rfl hR3 rfl rfl (prA_one _ _ _) ?_))
  exact bodyPost_ret (res2 rfl rfl (pr_load_run (setRow_heap _ _ _ _ _ _ hR3) rfl)) rfl ⟨rfl, below_row b3 (by omega)⟩
theorem r11of (ho : q.opt.length ≤ 1000000) (hl : q.dat.length ≤ 900000) (B : Nat) (hD : Arg w B A' c' q.dat) (hB0 : B ≤ w.heap.size) : Calls Tryz.prog 10 #[v4v q A c A' c'] w fun e w' => e = .returned (.tuple #[.agg (ofV q), .int .i64 (ofE q)]) ∧ Below w.heap.size w w' := by
  by_cases he : ofE q = 0
  · obtain ⟨hc, hw, h⟩ := of_ok he
    rw [ofV, if_pos he, he, ptS, ptD]
    rcases h with ⟨hk, hb⟩ | ⟨hk, hb⟩ | ⟨hk, hb, hq⟩
    · rw [if_pos hk, if_pos hk, hk]; exact r11of17O q A c A' c' w ho hl B hD hB0 hc hw hk hb
    · rw [if_neg (by omega), if_pos hk, if_neg (by omega), if_pos hk, hk]; exact r11of6O q A c A' c' w ho hl B hD hB0 hc hw hk hb
    · rw [if_neg (by omega), if_neg (by omega), if_neg (by omega), if_neg (by omega), hk]; exact r11of1O q A c A' c' w ho hl B hD hB0 hc hw hk hb hq
  · rw [ofV, if_neg he]
    by_cases hc : chk4 q = 0
    · by_cases hw : whole4 q = true
      · have e0 : ofE q = if q.proto = 17 then badU q.src q.dst q.dat else if q.proto = 6 then badT q.src q.dst q.dat else if q.proto = 1 then icE q.dat else 8 := by rw [ofE, if_neg (by omega), if_neg (by rw [hw]; decide)]
        by_cases h17 : q.proto = 17
        · rw [e0, if_pos h17] at he ⊢; exact r11of17E q A c A' c' w ho hl B hD hB0 hc hw h17 he
        · by_cases h6 : q.proto = 6
          · rw [e0, if_neg h17, if_pos h6] at he ⊢; exact r11of6E q A c A' c' w ho hl B hD hB0 hc hw h6 he
          · by_cases h1 : q.proto = 1
            · rw [e0, if_neg h17, if_neg h6, if_pos h1] at he ⊢
              by_cases hb : badI [] q.dat = 0
              · by_cases hq : qryI (inI q).typ = true
                · exact absurd (by rw [icE, if_neg (by omega)]; exact if_pos hq) he
                · have e1 : icE q.dat = 8 := by rw [icE, if_neg (by omega)]; exact if_neg hq
                  rw [e1]; exact r11of1Q q A c A' c' w ho hl B hD hB0 hc hw h1 hb (by simpa using hq)
              · have e1 : icE q.dat = badI [] q.dat := by rw [icE, if_pos hb]
                rw [e1]; exact r11of1E q A c A' c' w ho hl B hD hB0 hc hw h1 hb
            · rw [e0, if_neg h17, if_neg h6, if_neg h1]; exact r11ofN q A c A' c' w ho hl hc hw h17 h6 h1
      · have hw : whole4 q = false := by simpa using hw
        have e0 : ofE q = 4 := by rw [ofE, if_neg (by omega), if_pos hw]
        rw [e0]; exact r11ofW q A c A' c' w ho hl hc hw
    · have e0 : ofE q = chk4 q := by rw [ofE, if_pos hc]
      rw [e0]; exact r11ofC q A c A' c' w ho hl hc
end
end Go.Proofs.YtodlfdnegcfhcaaGreat

/-
  Two bytes stored into a row of one's own; how great a greatest size is. Conditions are each theorem's own.
-/
namespace Go.Proofs.YtodlfdnegcfhcaaGreat
open Go.RowKit

theorem own_cell {w : World} {base g c i : Nat} {bs : List UInt8} (h : w.ownsRow base 5 1 (.slice (some ⟨g, 0, none⟩) bs.length c) bs.length (row bs)) (hi : i < bs.length) : w.cell? ⟨g, i, none⟩ = some (.int .u8 (byt bs i)) ∧ w.frozen? ⟨g, i, none⟩ = false ∧ base ≤ g ∧ g < w.heap.size ∧ bs.length ≤ c := by
  rcases h.2 with ⟨h0, _⟩ | ⟨k, cap, cur, hv, hb, hh, hle, _, hs, ht⟩
  · cases h0
  · cases hv
    have e := cell_of_row w g i cur _ _ hh
    have h1 : (List.take (bs.length * 1) cur.toList)[i]? = some (.int .u8 (byt bs i)) := by rw [ht]; exact row_get bs hi
    rw [List.getElem?_take, if_pos (by omega)] at h1
    exact ⟨by rw [e]; simpa using h1, heap_frozen hh i, hb, heap_lt hh, hle⟩
theorem own_put {w : World} {base g c i : Nat} {bs : List UInt8} {n : Int} (h : w.ownsRow base 5 1 (.slice (some ⟨g, 0, none⟩) bs.length c) bs.length (row bs)) : (w.setCell ⟨g, i, none⟩ (.int .u8 (n % 256))).ownsRow base 5 1 (.slice (some ⟨g, 0, none⟩) bs.length c) bs.length (row (bs.set i (u8 n))) := by
  rcases h.2 with ⟨h0, _⟩ | ⟨k, cap, cur, hv, hb, hh, hle, hm, hs, ht⟩
  · cases h0
  · cases hv
    refine ⟨by rw [row_length]; simp, .inr ⟨g, c, cur.setIfInBounds i (.int .u8 (n % 256)), rfl, hb, heap_set hh i _, hle, hm, by simp [hs], ?_⟩⟩
    rw [Array.toList_setIfInBounds, List.take_set, ht, ← u8_val, row_setb]
theorem own_some {w : World} {base c : Nat} {A : Option Addr} {bs : List UInt8} (h : w.ownsRow base 5 1 (.slice A bs.length c) bs.length (row bs)) (hl : 0 < bs.length) : ∃ g, A = some ⟨g, 0, none⟩ := by
  rcases h.2 with ⟨_, h0⟩ | ⟨k, cap, cur, hv, _⟩
  · omega
  · injection hv with h1; exact ⟨k, h1⟩
set_option maxRecDepth 100000 in
set_option maxHeartbeats 1000000 in
theorem cput (g off l c : Nat) (m : Int) (w : World) (v0 v1 : Value) (h0 : w.cell? ⟨g, off, none⟩ = some v0) (h1 : w.cell? ⟨g, off + 1, none⟩ = some v1) (f0 : w.frozen? ⟨g, off, none⟩ = false) (f1 : w.frozen? ⟨g, off + 1, none⟩ = false) (hl : 2 ≤ l) :
    Calls Tryz.prog 45 #[.slice (some ⟨g, off, none⟩) l c, .int .i64 m] w fun e w' => e = .returned (.tuple #[]) ∧ w' = (w.setCell ⟨g, off, none⟩ (.int .u8 (m / 256 % 256))).setCell ⟨g, off + 1, none⟩ (.int .u8 (m % 256)) := by
  go_enter Tryz.func45, Tryz.ntmps45
  go_wp2_with fail
  go_end0
  exact ⟨rfl, rfl⟩
def mostV (n : Int) : Int := max (min (max n 0) 65575 - 40) 536
set_option maxRecDepth 100000 in
set_option maxHeartbeats 1000000 in
theorem c12most (n : Int) (w : World) : Calls Tryz.prog 27 #[.int .i64 n] w fun e w' => e = .returned (.int .i64 (mostV n)) ∧ w = w' := by
  have H := Lib.hid (show min (max n 576) 65575 - 40 = mostV n by unfold mostV; omega)
  go_enter Tryz.func27, Tryz.ntmps27
  go_wp2_with fail
  go_ret
  exact ⟨by rw [← H.out]; rfl, rfl⟩
set_option maxRecDepth 100000 in
set_option maxHeartbeats 1000000 in
theorem r12most (n : Int) (w : World) : Calls Tryz.prog 28 #[.int .i64 n] w fun e w' => e = .returned (.int .i64 (mostV n)) ∧ w = w' := by
  have H := Lib.hid (show max (min (max n 0) 65575 - 40) 536 = mostV n by unfold mostV; omega)
  go_enter Tryz.func28, Tryz.ntmps28
  go_wp2_with fail
  go_ret
  exact ⟨by rw [← H.out]; rfl, rfl⟩
end Go.Proofs.YtodlfdnegcfhcaaGreat
