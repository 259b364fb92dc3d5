/-
  Contracts and lemmas on which the proofs of this seat stand (several texts in one). Conditions are each theorem's own.
-/
import Derived.Test.YtodlfdnegcfhcaaGreatMa8
import Derived.Test.YtodlfdnegcfhcaaGreatMb2
import Derived.Test.YtodlfdnegcfhcaaGreatMc2
import Derived.Handy

/-
  What a packet has within, as it stands behind the interface: its ports, another port, its bytes. Conditions are each theorem's own.
-/
namespace Go.Proofs.YtodlfdnegcfhcaaGreat
open Go.RowKit

theorem run_build_dg {o : Oper} {a : Act} {w : World} {x : Operand} {cs : Array Value} (ho : o.op = .build 82 #[(0, x)]) (hx : a.eval x = .agg cs) (hl : cs.size = 4) :
    (execOp a.eval o).run Tryz.prog w = .ok (.value (.agg cs)) w := by
  obtain ⟨l⟩ := cs
  match l, hl with
  | [x0, x1, x2, x3], _ =>
    have e : (Array.map (fun y : Nat × Operand => (y.1, a.eval y.2)) #[(0, x)]) = #[(0, .agg #[x0, x1, x2, x3])] := by simp [hx]
    have hb : (Instr.build 82 #[(0, .agg #[x0, x1, x2, x3])]).run Tryz.prog w = .ok (.agg #[x0, x1, x2, x3]) w := by kernel_rfl
    unfold execOp
    simp only [ho, e, Sem.run_bind, hb]
    rfl
theorem run_build_sg {o : Oper} {a : Act} {w : World} {x : Operand} {cs : Array Value} (ho : o.op = .build 68 #[(0, x)]) (hx : a.eval x = .agg cs) (hl : cs.size = 10) :
    (execOp a.eval o).run Tryz.prog w = .ok (.value (.agg cs)) w := by
  obtain ⟨l⟩ := cs
  match l, hl with
  | [x0, x1, x2, x3, x4, x5, x6, x7, x8, x9], _ =>
    have e : (Array.map (fun y : Nat × Operand => (y.1, a.eval y.2)) #[(0, x)]) = #[(0, .agg #[x0, x1, x2, x3, x4, x5, x6, x7, x8, x9])] := by simp [hx]
    have hb : (Instr.build 68 #[(0, .agg #[x0, x1, x2, x3, x4, x5, x6, x7, x8, x9])]).run Tryz.prog w = .ok (.agg #[x0, x1, x2, x3, x4, x5, x6, x7, x8, x9]) w := by kernel_rfl
    unfold execOp
    simp only [ho, e, Sem.run_bind, hb]
    rfl
theorem run_build_qy {o : Oper} {a : Act} {w : World} {x : Operand} {cs : Array Value} (ho : o.op = .build 121 #[(0, x)]) (hx : a.eval x = .agg cs) (hl : cs.size = 4) :
    (execOp a.eval o).run Tryz.prog w = .ok (.value (.agg cs)) w := by
  obtain ⟨l⟩ := cs
  match l, hl with
  | [x0, x1, x2, x3], _ =>
    have e : (Array.map (fun y : Nat × Operand => (y.1, a.eval y.2)) #[(0, x)]) = #[(0, .agg #[x0, x1, x2, x3])] := by simp [hx]
    have hb : (Instr.build 121 #[(0, .agg #[x0, x1, x2, x3])]).run Tryz.prog w = .ok (.agg #[x0, x1, x2, x3]) w := by kernel_rfl
    unfold execOp
    simp only [ho, e, Sem.run_bind, hb]
    rfl
theorem run_load_dg {o : Oper} {a : Act} {w : World} {x : Operand} {g : Nat} {cs : List Value} (ho : o.op = .load 82 x) (hx : a.eval x = .pointer (some ⟨g, 0, none⟩)) (hr : w.rangeAt g 0 cs) (hl : cs.length = 4) :
    (execOp a.eval o).run Tryz.prog w = .ok (.value (.agg cs.toArray)) w := by
  have h := run_loadVar_mid (P := Tryz.prog) w g 0 82 cs _ hr Tryz.underlying82 rfl (by rw [hl]; kernel_rfl)
  unfold execOp
  simp only [ho, hx, Instr.loadAt, Instr.sureAddr, Sem.run_bind, Sem.run_pure, Result.andThen_ok, h]
theorem run_load_sg {o : Oper} {a : Act} {w : World} {x : Operand} {g : Nat} {cs : List Value} (ho : o.op = .load 68 x) (hx : a.eval x = .pointer (some ⟨g, 0, none⟩)) (hr : w.rangeAt g 0 cs) (hl : cs.length = 10) :
    (execOp a.eval o).run Tryz.prog w = .ok (.value (.agg cs.toArray)) w := by
  have h := run_loadVar_mid (P := Tryz.prog) w g 0 68 cs _ hr Tryz.underlying68 rfl (by rw [hl]; kernel_rfl)
  unfold execOp
  simp only [ho, hx, Instr.loadAt, Instr.sureAddr, Sem.run_bind, Sem.run_pure, Result.andThen_ok, h]
theorem run_load_qy {o : Oper} {a : Act} {w : World} {x : Operand} {g : Nat} {cs : List Value} (ho : o.op = .load 121 x) (hx : a.eval x = .pointer (some ⟨g, 0, none⟩)) (hr : w.rangeAt g 0 cs) (hl : cs.length = 4) :
    (execOp a.eval o).run Tryz.prog w = .ok (.value (.agg cs.toArray)) w := by
  have h := run_loadVar_mid (P := Tryz.prog) w g 0 121 cs _ hr Tryz.underlying121 rfl (by rw [hl]; kernel_rfl)
  unfold execOp
  simp only [ho, hx, Instr.loadAt, Instr.sureAddr, Sem.run_bind, Sem.run_pure, Result.andThen_ok, h]
set_option maxRecDepth 100000 in
set_option maxHeartbeats 1000000 in
theorem cDports (q : PU) (A : Option Addr) (c : Nat) (w : World) : Calls Tryz.prog 150 #[usv q A c] w fun e w' => e = .returned (.tuple #[.int .i64 q.src, .int .i64 q.dst]) ∧ Below w.heap.size w w' := by
  have hB : Below w.heap.size w (w.alloc (.cells (usa q A c) 82)) := (Below.refl _ w).alloc (Nat.le_refl _) _
  have hU := World.alloc_heap_new w (.cells (usa q A c) 82)
  have k0 : (w.alloc (.cells (usa q A c) 82)).cell? ⟨w.heap.size, 0, none⟩ = some (.int .i64 q.src) := by { rw [cell_of_row _ _ _ _ _ _ hU]; rfl }
  have k1 : (w.alloc (.cells (usa q A c) 82)).cell? ⟨w.heap.size, 1, none⟩ = some (.int .i64 q.dst) := by { rw [cell_of_row _ _ _ _ _ _ hU]; rfl }
  rw [usv_eq]
  go_enter Tryz.func150, Tryz.ntmps150
  go_upto_region 1 with fail
  generalize w.alloc (.cells (usa q A c) 82) = X at *
  go_wp2_with go_region
  go_ret2
  exact ⟨rfl, by first | exact hB | exact hB.drew | exact below_drewN hB _⟩
set_option maxRecDepth 100000 in
set_option maxHeartbeats 1000000 in
theorem cDfrom (q : PU) (A : Option Addr) (c : Nat) (n : Int) (w : World) : Calls Tryz.prog 149 #[usv q A c, .int .i64 n] w fun e w' => e = .returned (.iface 82 (usv (srcU q n) A c)) ∧ Below w.heap.size w w' := by
  have hB : Below w.heap.size w (w.alloc (.cells (usa q A c) 82)) := (Below.refl _ w).alloc (Nat.le_refl _) _
  have hU := World.alloc_heap_new w (.cells (usa q A c) 82)
  rw [usv_eq]
  go_enter Tryz.func149, Tryz.ntmps149
  go_upto_region 1 with fail
  generalize w.alloc (.cells (usa q A c) 82) = X at *
  have k0 : X.cell? ⟨w.heap.size, 0, none⟩ = some (.int .i64 q.src) := by { rw [cell_of_row _ _ _ _ _ _ hU]; rfl }
  have f0 := heap_frozen hU 0
  go_upto_region 2 with fail
  have hU1 : (X.setCell ⟨w.heap.size, 0, none⟩ (.int .i64 n)).heap[w.heap.size]? = some (.cells (usa (srcU q n) A c) 82 (0, 0)) := heap_setCell_same X w.heap.size 0 _ _ (.int .i64 n) hU
  have hB1 := hB.setCell (p := ⟨w.heap.size, 0, none⟩) (Nat.le_refl _) (.int .i64 n)
  have at1 := Atus.of_heap hU1
  generalize X.setCell ⟨w.heap.size, 0, none⟩ (.int .i64 n) = V at *
  clear k0 f0 hU
  go_wp2_with ((with_reducible show wpList _ _ _ (Oper.mk _ (Op.load 82 _) _ _ _ _ :: _) _ _); refine wpList_val rfl (run_load_dg rfl rfl at1 rfl) ?_)
  go_ret
  exact ⟨rfl, hB1⟩
set_option maxRecDepth 100000 in
set_option maxHeartbeats 1000000 in
theorem cDto (q : PU) (A : Option Addr) (c : Nat) (n : Int) (w : World) : Calls Tryz.prog 151 #[usv q A c, .int .i64 n] w fun e w' => e = .returned (.iface 82 (usv (dstU q n) A c)) ∧ Below w.heap.size w w' := by
  have hB : Below w.heap.size w (w.alloc (.cells (usa q A c) 82)) := (Below.refl _ w).alloc (Nat.le_refl _) _
  have hU := World.alloc_heap_new w (.cells (usa q A c) 82)
  rw [usv_eq]
  go_enter Tryz.func151, Tryz.ntmps151
  go_upto_region 1 with fail
  generalize w.alloc (.cells (usa q A c) 82) = X at *
  have k0 : X.cell? ⟨w.heap.size, 1, none⟩ = some (.int .i64 q.dst) := by { rw [cell_of_row _ _ _ _ _ _ hU]; rfl }
  have f0 := heap_frozen hU 1
  go_upto_region 2 with fail
  have hU1 : (X.setCell ⟨w.heap.size, 1, none⟩ (.int .i64 n)).heap[w.heap.size]? = some (.cells (usa (dstU q n) A c) 82 (0, 0)) := heap_setCell_same X w.heap.size 1 _ _ (.int .i64 n) hU
  have hB1 := hB.setCell (p := ⟨w.heap.size, 1, none⟩) (Nat.le_refl _) (.int .i64 n)
  have at1 := Atus.of_heap hU1
  generalize X.setCell ⟨w.heap.size, 1, none⟩ (.int .i64 n) = V at *
  clear k0 f0 hU
  go_wp2_with ((with_reducible show wpList _ _ _ (Oper.mk _ (Op.load 82 _) _ _ _ _ :: _) _ _); refine wpList_val rfl (run_load_dg rfl rfl at1 rfl) ?_)
  go_ret
  exact ⟨rfl, hB1⟩
set_option maxRecDepth 100000 in
set_option maxHeartbeats 1000000 in
theorem cSports (q : PT) (A : Option Addr) (c : Nat) (A' : Option Addr) (c' : Nat) (w : World) : Calls Tryz.prog 146 #[tsv q A c A' c'] w fun e w' => e = .returned (.tuple #[.int .i64 q.src, .int .i64 q.dst]) ∧ Below w.heap.size w w' := by
  have hB : Below w.heap.size w (w.alloc (.cells (tsa q A c A' c') 68)) := (Below.refl _ w).alloc (Nat.le_refl _) _
  have hU := World.alloc_heap_new w (.cells (tsa q A c A' c') 68)
  have k0 : (w.alloc (.cells (tsa q A c A' c') 68)).cell? ⟨w.heap.size, 0, none⟩ = some (.int .i64 q.src) := by { rw [cell_of_row _ _ _ _ _ _ hU]; rfl }
  have k1 : (w.alloc (.cells (tsa q A c A' c') 68)).cell? ⟨w.heap.size, 1, none⟩ = some (.int .i64 q.dst) := by { rw [cell_of_row _ _ _ _ _ _ hU]; rfl }
  rw [tsv_eq]
  go_enter Tryz.func146, Tryz.ntmps146
  go_upto_region 1 with fail
  generalize w.alloc (.cells (tsa q A c A' c') 68) = X at *
  go_wp2_with go_region
  go_ret2
  exact ⟨rfl, by first | exact hB | exact hB.drew | exact below_drewN hB _⟩
set_option maxRecDepth 100000 in
set_option maxHeartbeats 1000000 in
theorem cSfrom (q : PT) (A : Option Addr) (c : Nat) (A' : Option Addr) (c' : Nat) (n : Int) (w : World) : Calls Tryz.prog 145 #[tsv q A c A' c', .int .i64 n] w fun e w' => e = .returned (.iface 68 (tsv (srcT q n) A c A' c')) ∧ Below w.heap.size w w' := by
  have hB : Below w.heap.size w (w.alloc (.cells (tsa q A c A' c') 68)) := (Below.refl _ w).alloc (Nat.le_refl _) _
  have hU := World.alloc_heap_new w (.cells (tsa q A c A' c') 68)
  rw [tsv_eq]
  go_enter Tryz.func145, Tryz.ntmps145
  go_upto_region 1 with fail
  generalize w.alloc (.cells (tsa q A c A' c') 68) = X at *
  have k0 : X.cell? ⟨w.heap.size, 0, none⟩ = some (.int .i64 q.src) := by { rw [cell_of_row _ _ _ _ _ _ hU]; rfl }
  have f0 := heap_frozen hU 0
  go_upto_region 2 with fail
  have hU1 : (X.setCell ⟨w.heap.size, 0, none⟩ (.int .i64 n)).heap[w.heap.size]? = some (.cells (tsa (srcT q n) A c A' c') 68 (0, 0)) := heap_setCell_same X w.heap.size 0 _ _ (.int .i64 n) hU
  have hB1 := hB.setCell (p := ⟨w.heap.size, 0, none⟩) (Nat.le_refl _) (.int .i64 n)
  have at1 := Atts.of_heap hU1
  generalize X.setCell ⟨w.heap.size, 0, none⟩ (.int .i64 n) = V at *
  clear k0 f0 hU
  go_wp2_with ((with_reducible show wpList _ _ _ (Oper.mk _ (Op.load 68 _) _ _ _ _ :: _) _ _); refine wpList_val rfl (run_load_sg rfl rfl at1 rfl) ?_)
  go_ret
  exact ⟨rfl, hB1⟩
set_option maxRecDepth 100000 in
set_option maxHeartbeats 1000000 in
theorem cSto (q : PT) (A : Option Addr) (c : Nat) (A' : Option Addr) (c' : Nat) (n : Int) (w : World) : Calls Tryz.prog 147 #[tsv q A c A' c', .int .i64 n] w fun e w' => e = .returned (.iface 68 (tsv (dstT q n) A c A' c')) ∧ Below w.heap.size w w' := by
  have hB : Below w.heap.size w (w.alloc (.cells (tsa q A c A' c') 68)) := (Below.refl _ w).alloc (Nat.le_refl _) _
  have hU := World.alloc_heap_new w (.cells (tsa q A c A' c') 68)
  rw [tsv_eq]
  go_enter Tryz.func147, Tryz.ntmps147
  go_upto_region 1 with fail
  generalize w.alloc (.cells (tsa q A c A' c') 68) = X at *
  have k0 : X.cell? ⟨w.heap.size, 1, none⟩ = some (.int .i64 q.dst) := by { rw [cell_of_row _ _ _ _ _ _ hU]; rfl }
  have f0 := heap_frozen hU 1
  go_upto_region 2 with fail
  have hU1 : (X.setCell ⟨w.heap.size, 1, none⟩ (.int .i64 n)).heap[w.heap.size]? = some (.cells (tsa (dstT q n) A c A' c') 68 (0, 0)) := heap_setCell_same X w.heap.size 1 _ _ (.int .i64 n) hU
  have hB1 := hB.setCell (p := ⟨w.heap.size, 1, none⟩) (Nat.le_refl _) (.int .i64 n)
  have at1 := Atts.of_heap hU1
  generalize X.setCell ⟨w.heap.size, 1, none⟩ (.int .i64 n) = V at *
  clear k0 f0 hU
  go_wp2_with ((with_reducible show wpList _ _ _ (Oper.mk _ (Op.load 68 _) _ _ _ _ :: _) _ _); refine wpList_val rfl (run_load_sg rfl rfl at1 rfl) ?_)
  go_ret
  exact ⟨rfl, hB1⟩
set_option maxRecDepth 100000 in
set_option maxHeartbeats 1000000 in
theorem cDbuild (q : PU) (A : Option Addr) (c : Nat) (src dst : Int) (w : World) (B : Nat) (hD : Arg w B A c q.dat) (hB0 : B ≤ w.heap.size) (hl : q.dat.length ≤ 900000) (hc : chkU q = 0) :
    Calls Tryz.prog 148 #[usv q A c, .int .i64 src, .int .i64 dst] w fun e w' => ∃ P p, e = .returned (.tuple #[.slice P (bldU src dst q).length p, .int .i64 0]) ∧ Made w w' (.slice P (bldU src dst q).length p) (bldU src dst q) := by
  have hB : Below w.heap.size w (w.alloc (.cells (usa q A c) 82)) := (Below.refl _ w).alloc (Nat.le_refl _) _
  have at0 := Atus.of_heap (World.alloc_heap_new w (.cells (usa q A c) 82))
  have hD := hD.below (hB.mono hB0)
  have HC := Lib.hid hc
  rw [usv_eq]
  go_enter Tryz.func148, Tryz.ntmps148
  go_upto_region 1 with fail
  generalize w.alloc (.cells (usa q A c) 82) = X at *
  go_wp2_with (first
    | ((with_reducible show wpList _ _ _ (Oper.mk _ (Op.load 57 _) _ _ _ _ :: _) _ _); refine wpList_val rfl (run_load_us rfl rfl at0 rfl) ?_)
    | (go_at_call 152; refine (cUbuild q A c src dst X B hD (Nat.le_trans hB0 hB.size) (by omega)).mono ?_; rintro e w3 ⟨v, rfl, _, m3⟩; have m3 := m3 HC.out; rw [HC.out]; obtain ⟨P, p, rfl, g3, o3, y3⟩ := made_shape m3))
  go_ret2
  exact ⟨P, p, rfl, m3.after hB⟩
set_option maxRecDepth 100000 in
set_option maxHeartbeats 1000000 in
theorem cSbuild (q : PT) (A : Option Addr) (c : Nat) (A' : Option Addr) (c' : Nat) (src dst : Int) (w : World) (B : Nat) (hO : Arg w B A c q.opt) (hD : Arg w B A' c' q.dat) (hB0 : B ≤ w.heap.size) (ho : q.opt.length ≤ 900000) (hl : q.dat.length ≤ 900000) (hc : chkT q = 0) :
    Calls Tryz.prog 144 #[tsv q A c A' c', .int .i64 src, .int .i64 dst] w fun e w' => ∃ P p, e = .returned (.tuple #[.slice P (bldT src dst q).length p, .int .i64 0]) ∧ Made w w' (.slice P (bldT src dst q).length p) (bldT src dst q) := by
  have hB : Below w.heap.size w (w.alloc (.cells (tsa q A c A' c') 68)) := (Below.refl _ w).alloc (Nat.le_refl _) _
  have at0 := Atts.of_heap (World.alloc_heap_new w (.cells (tsa q A c A' c') 68))
  have hO := hO.below (hB.mono hB0)
  have hD := hD.below (hB.mono hB0)
  have HC := Lib.hid hc
  rw [tsv_eq]
  go_enter Tryz.func144, Tryz.ntmps144
  go_upto_region 1 with fail
  generalize w.alloc (.cells (tsa q A c A' c') 68) = X at *
  go_wp2_with (first
    | ((with_reducible show wpList _ _ _ (Oper.mk _ (Op.load 41 _) _ _ _ _ :: _) _ _); refine wpList_val rfl (run_load_ts rfl rfl at0 rfl) ?_)
    | (go_at_call 48; refine (cTbuild q A c A' c' src dst X B hO hD (Nat.le_trans hB0 hB.size) (by omega) hl).mono ?_; rintro e w3 ⟨v, rfl, _, m3⟩; have m3 := m3 HC.out; rw [HC.out]; obtain ⟨P, p, rfl, g3, o3, y3⟩ := made_shape m3))
  go_ret2
  exact ⟨P, p, rfl, m3.after hB⟩
set_option maxRecDepth 100000 in
set_option maxHeartbeats 1000000 in
theorem cQbuild (q : PI) (A : Option Addr) (c : Nat) (src dst : Int) (w : World) (B : Nat) (hD : Arg w B A c q.dat) (hB0 : B ≤ w.heap.size) (hl : q.dat.length ≤ 900000) (hc : chkI q = 0) :
    Calls Tryz.prog 156 #[isv q A c, .int .i64 src, .int .i64 dst] w fun e w' => ∃ P p, e = .returned (.tuple #[.slice P (bldI [] q).length p, .int .i64 0]) ∧ Made w w' (.slice P (bldI [] q).length p) (bldI [] q) := by
  have hB : Below w.heap.size w (w.alloc (.cells (isa q A c) 121)) := (Below.refl _ w).alloc (Nat.le_refl _) _
  have at0 := Atis.of_heap (World.alloc_heap_new w (.cells (isa q A c) 121))
  have hD := hD.below (hB.mono hB0)
  have HC := Lib.hid hc
  rw [isv_eq]
  go_enter Tryz.func156, Tryz.ntmps156
  go_upto_region 1 with fail
  generalize w.alloc (.cells (isa q A c) 121) = X at *
  go_wp2_with (first
    | ((with_reducible show wpList _ _ _ (Oper.mk _ (Op.load 93 _) _ _ _ _ :: _) _ _); refine wpList_val rfl (run_load_is rfl rfl at0 rfl) ?_)
    | (go_at_call 160; refine (cIbuild q A c X B hD (Nat.le_trans hB0 hB.size) (by omega)).mono ?_; rintro e w3 ⟨v, rfl, _, m3⟩; have m3 := m3 HC.out; rw [HC.out]; obtain ⟨P, p, rfl, g3, o3, y3⟩ := made_shape m3))
  go_ret2
  exact ⟨P, p, rfl, m3.after hB⟩
set_option maxRecDepth 100000 in
set_option maxHeartbeats 1000000 in
theorem cQports (q : PI) (A : Option Addr) (c : Nat) (w : World) : Calls Tryz.prog 158 #[isv q A c] w fun e w' => e = .returned (.tuple #[.int .i64 (idI q), .int .i64 (idI q)]) ∧ Below w.heap.size w w' := by
  have hB : Below w.heap.size w (w.alloc (.cells (isa q A c) 121)) := (Below.refl _ w).alloc (Nat.le_refl _) _
  have at0 := Atis.of_heap (World.alloc_heap_new w (.cells (isa q A c) 121))
  have hz : w.heap.size < (w.alloc (.cells (isa q A c) 121)).heap.size := by simp
  rw [isv_eq]
  go_enter Tryz.func158, Tryz.ntmps158
  go_upto_region 1 with fail
  generalize w.alloc (.cells (isa q A c) 121) = X at *
  refine wp_region_held_drew (S := fun w' => Below X.heap.size X w') (by kernel_rfl) (Below.refl _ X).drew (fun hS => ?_)
  refine held_pure (i := 0) (oi := ⟨some 4, _, _, _, _, _⟩) rfl (by kernel_rfl) (by kernel_rfl) (by kernel_rfl) (fun _ _ _ h => h) (by rfl) (v := ?_) (fun w hSw => ?_) hS (fun hS => ?_)
  rotate_left
  · go_simp; try with_reducible rfl
  try go_frame
  refine held_pure (i := 1) (oi := ⟨some 5, _, _, _, _, _⟩) rfl (by kernel_rfl) (by kernel_rfl) (by kernel_rfl) (fun _ _ _ h => h) (by rfl) (fun w hSw => run_load_is rfl rfl (at0.below hSw hz) rfl) hS (fun hS => ?_)
  try go_frame
  refine held_pure (i := 3) (oi := ⟨some 7, _, _, _, _, _⟩) rfl (by kernel_rfl) (by kernel_rfl) (by kernel_rfl) (fun _ _ _ h => h) (by rfl) (v := ?_) (fun w hSw => ?_) hS (fun hS => ?_)
  rotate_left
  · go_simp; try with_reducible rfl
  try go_frame
  refine held_pure (i := 4) (oi := ⟨some 8, _, _, _, _, _⟩) rfl (by kernel_rfl) (by kernel_rfl) (by kernel_rfl) (fun _ _ _ h => h) (by rfl) (fun w hSw => run_load_is rfl rfl (at0.below hSw hz) rfl) hS (fun hS => ?_)
  try go_frame
  refine wpAnyH_ready (rs := [2]) (by kernel_rfl) (by simp) (AllReadyH.cons (o := ⟨some 6, _, _, _, _, _⟩) rfl (fun K hK => ?_) AllReadyH.nil)
  rw [if_pos (by rfl)]
  go_simp
  refine (cIid q A c _).mono ?_
  rintro e w2 ⟨rfl, x2⟩
  show K _ _
  refine hK.out _ _ (below_step hS x2) (fun hS => ?_)
  clear hK K
  try go_frame
  refine wpAnyH_ready (rs := [5]) (by kernel_rfl) (by simp) (AllReadyH.cons (o := ⟨some 9, _, _, _, _, _⟩) rfl (fun K hK => ?_) AllReadyH.nil)
  rw [if_pos (by rfl)]
  go_simp
  refine (cIid q A c _).mono ?_
  rintro e w5 ⟨rfl, x5⟩
  show K _ _
  refine hK.out _ _ (below_step hS x5) (fun hS => ?_)
  clear hK K
  try go_frame
  refine held_pure (i := 6) (oi := ⟨some 2, _, _, _, _, _⟩) rfl (by kernel_rfl) (by kernel_rfl) (by kernel_rfl) (fun _ _ _ h => h) (by rfl) (v := ?_) (fun w hSw => ?_) hS (fun hS => ?_)
  rotate_left
  · go_simp; try with_reducible rfl
  try go_frame
  refine held_pure (i := 7) (oi := ⟨some 3, _, _, _, _, _⟩) rfl (by kernel_rfl) (by kernel_rfl) (by kernel_rfl) (fun _ _ _ h => h) (by rfl) (v := ?_) (fun w hSw => ?_) hS (fun hS => ?_)
  rotate_left
  · go_simp; try with_reducible rfl
  try go_frame
  refine wpAnyH_done (by kernel_rfl) ?_ _
  go_wp2_with fail
  go_ret2
  exact ⟨rfl, hB.trans (hS.mono hB.size)⟩
set_option maxRecDepth 100000 in
set_option maxHeartbeats 1000000 in
theorem cQfrom (q : PI) (A : Option Addr) (c : Nat) (n : Int) (w : World) (B : Nat) (hD : Arg w B A c q.dat) (hB0 : B ≤ w.heap.size) (hl : q.dat.length ≤ 1000000) :
    Calls Tryz.prog 157 #[isv q A c, .int .i64 n] w fun e w' => ∃ P p, e = .returned (.iface 121 (isv (wdI q n) P p)) ∧ Made w w' (.slice P q.dat.length p) q.dat := by
  have hB : Below w.heap.size w (w.alloc (.cells (isa q A c) 121)) := (Below.refl _ w).alloc (Nat.le_refl _) _
  have at0 := Atis.of_heap (World.alloc_heap_new w (.cells (isa q A c) 121))
  have hD := hD.below (hB.mono hB0)
  rw [isv_eq]
  go_enter Tryz.func157, Tryz.ntmps157
  go_upto_region 1 with fail
  generalize w.alloc (.cells (isa q A c) 121) = X at *
  go_wp2_with (first
    | ((with_reducible show wpList _ _ _ (Oper.mk _ (Op.build 121 _) _ _ _ _ :: _) _ _); refine wpList_val rfl (run_build_qy rfl rfl rfl) ?_)
    | ((with_reducible show wpList _ _ _ (Oper.mk _ (Op.load 93 _) _ _ _ _ :: _) _ _); refine wpList_val rfl (run_load_is rfl rfl at0 rfl) ?_)
    | (go_at_call 161; refine (cIwith q A c n X B hD (Nat.le_trans hB0 hB.size) hl).mono ?_; rintro e w3 ⟨P, p, rfl, m3⟩))
  go_ret
  exact ⟨P, p, rfl, m3.after hB⟩
set_option maxRecDepth 100000 in
set_option maxHeartbeats 1000000 in
theorem cQto (q : PI) (A : Option Addr) (c : Nat) (n : Int) (w : World) (B : Nat) (hD : Arg w B A c q.dat) (hB0 : B ≤ w.heap.size) (hl : q.dat.length ≤ 1000000) :
    Calls Tryz.prog 159 #[isv q A c, .int .i64 n] w fun e w' => ∃ P p, e = .returned (.iface 121 (isv (wdI q n) P p)) ∧ Made w w' (.slice P q.dat.length p) q.dat := by
  have hB : Below w.heap.size w (w.alloc (.cells (isa q A c) 121)) := (Below.refl _ w).alloc (Nat.le_refl _) _
  have at0 := Atis.of_heap (World.alloc_heap_new w (.cells (isa q A c) 121))
  have hD := hD.below (hB.mono hB0)
  rw [isv_eq]
  go_enter Tryz.func159, Tryz.ntmps159
  go_upto_region 1 with fail
  generalize w.alloc (.cells (isa q A c) 121) = X at *
  go_wp2_with (first
    | ((with_reducible show wpList _ _ _ (Oper.mk _ (Op.load 121 _) _ _ _ _ :: _) _ _); refine wpList_val rfl (run_load_qy rfl rfl at0 rfl) ?_)
    | (go_at_call 157; refine (cQfrom q A c n X B hD (Nat.le_trans hB0 hB.size) hl).mono ?_; rintro e w3 ⟨P, p, rfl, m3⟩))
  go_ret
  exact ⟨P, p, rfl, m3.after hB⟩
end Go.Proofs.YtodlfdnegcfhcaaGreat

/-
  What a packet has within, opened; whether it may be with another address and a port. Conditions are each theorem's own.
-/
namespace Go.Proofs.YtodlfdnegcfhcaaGreat
open Go.RowKit

theorem v4q_eq (q : P4) (A : Option Addr) (c : Nat) (A' : Option Addr) (c' : Nat) : v4v q A c A' c' = .agg (v4a q A c A' c') := rfl
set_option maxRecDepth 100000 in
set_option maxHeartbeats 2000000 in
theorem cOpenI (b : List UInt8) (A : Option Addr) (c : Nat) (w : World) (B : Nat) (hR : Arg w B A c b) (hB : B ≤ w.heap.size) (hl : b.length ≤ 1000000) :
    Calls Tryz.prog 54 #[.slice A b.length c] w fun e w' => ∃ v, e = .returned (.tuple #[v, .int .i64 (icE b)]) ∧ Below w.heap.size w w' ∧ (icE b ≠ 0 → v = .nilIface) ∧
      (icE b = 0 → ∃ P p, v = .iface 121 (isv (prsI [] b) P p) ∧ Made w w' (.slice P (prsI [] b).dat.length p) (prsI [] b).dat) := by
  obtain ⟨u, hu⟩ : ∃ q, q = prsI [] b := ⟨_, rfl⟩
  obtain ⟨E, hE⟩ : ∃ q, q = badI [] b := ⟨_, rfl⟩
  have HU := Lib.hid hu
  have HE := Lib.hid hE
  by_cases h0 : E = 0
  · by_cases hq : qryI u.typ = true
    · have HI := Lib.hid (show icE b = 0 by rw [icE, ← hE, h0, if_neg (by simp), ← hu, if_pos hq])
      have HQ := Lib.hid hq
      have H0 := Lib.hid h0
      clear h0 hq hu hE
      rw [HI.out]
      go_enter Tryz.func54, Tryz.ntmps54
      go_upto_region 2 with (first
        | (go_at_call 92; refine (cIparse b A c w B hR hB hl).mono ?_; rintro e w1 ⟨P, p, rfl, m1⟩; rw [← HU.out] at m1; rw [← HU.out, ← HE.out, H0.out]; have x1 := m1.below)
        | ((with_reducible show wpList _ _ _ (Oper.mk _ (Op.store 93 _ _) _ _ _ _ :: _) _ _); refine is_store_new (cs := isa u P p) rfl rfl rfl rfl (is_one _ _ _) ?_))
      have j1 : Below w1.heap.size w1 (w1.alloc (.cells (isa u P p) 93)) := (Below.refl _ w1).alloc (Nat.le_refl _) _
      have at1 := Atis.new (q := u) (A := P) (c := p) w1
      have z1 : w1.heap.size < (w1.alloc (.cells (isa u P p) 93)).heap.size := by simp
      have k1 := at1.typ
      generalize w1.alloc (.cells (isa u P p) 93) = X at *
      go_wp2_with (first
        | (go_at_call 93; refine (cIquery _ _).mono ?_; rintro e w2 ⟨rfl, x2⟩; rw [HQ.out]; have at2 := at1.below x2 z1)
        | ((with_reducible show wpList _ _ _ (Oper.mk _ (Op.load 93 _) _ _ _ _ :: _) _ _); refine wpList_val rfl (run_load_is rfl rfl at2 rfl) ?_)
        | ((with_reducible show wpList _ _ _ (Oper.mk _ (Op.build 121 _) _ _ _ _ :: _) _ _); refine wpList_val rfl (run_build_qy rfl rfl rfl) ?_))
      go_ret2
      have j2 := j1.trans (x2.mono j1.size)
      exact ⟨_, rfl, x1.trans (j2.mono x1.size), fun h => absurd rfl h, fun _ => ⟨P, p, by rw [← HU.out]; rfl, by rw [← HU.out]; exact m1.later j2⟩⟩
    · have HI := Lib.hid (show icE b = 8 by rw [icE, ← hE, h0, if_neg (by simp), ← hu, if_neg hq])
      have HQ := Lib.hid (show qryI u.typ = false by simpa using hq)
      have H0 := Lib.hid h0
      clear h0 hq hu hE
      rw [HI.out]
      go_enter Tryz.func54, Tryz.ntmps54
      go_upto_region 2 with (first
        | (go_at_call 92; refine (cIparse b A c w B hR hB hl).mono ?_; rintro e w1 ⟨P, p, rfl, m1⟩; rw [← HU.out] at m1; rw [← HU.out, ← HE.out, H0.out]; have x1 := m1.below)
        | ((with_reducible show wpList _ _ _ (Oper.mk _ (Op.store 93 _ _) _ _ _ _ :: _) _ _); refine is_store_new (cs := isa u P p) rfl rfl rfl rfl (is_one _ _ _) ?_))
      have j1 : Below w1.heap.size w1 (w1.alloc (.cells (isa u P p) 93)) := (Below.refl _ w1).alloc (Nat.le_refl _) _
      have at1 := Atis.new (q := u) (A := P) (c := p) w1
      have z1 : w1.heap.size < (w1.alloc (.cells (isa u P p) 93)).heap.size := by simp
      have k1 := at1.typ
      generalize w1.alloc (.cells (isa u P p) 93) = X at *
      go_wp2_with (go_at_call 93; refine (cIquery _ _).mono ?_; rintro e w2 ⟨rfl, x2⟩; rw [HQ.out]; have at2 := at1.below x2 z1)
      go_ret2
      have j2 := j1.trans (x2.mono j1.size)
      exact ⟨_, rfl, x1.trans (j2.mono x1.size), fun _ => rfl, fun h => absurd h (by decide)⟩
  · have HI := Lib.hid (show icE b = E by rw [icE, ← hE, if_pos h0])
    have HN := Lib.hid h0
    have dE : (E != 0) = true := by simpa using h0
    clear h0 hu hE
    rw [HI.out]
    go_enter Tryz.func54, Tryz.ntmps54
    go_upto_region 2 with (first
      | (go_at_call 92; refine (cIparse b A c w B hR hB hl).mono ?_; rintro e w1 ⟨P, p, rfl, m1⟩; rw [← HU.out] at m1; rw [← HU.out, ← HE.out]; have x1 := m1.below)
      | ((with_reducible show wpList _ _ _ (Oper.mk _ (Op.store 93 _ _) _ _ _ _ :: _) _ _); refine is_store_new (cs := isa u P p) rfl rfl rfl rfl (is_one _ _ _) ?_))
    have j1 : Below w1.heap.size w1 (w1.alloc (.cells (isa u P p) 93)) := (Below.refl _ w1).alloc (Nat.le_refl _) _
    generalize w1.alloc (.cells (isa u P p) 93) = X at *
    go_wp2_with fail
    go_ret2
    exact ⟨_, rfl, x1.trans (j1.mono x1.size), fun _ => rfl, fun h => absurd h HN.out⟩
section
variable (q : P4) (A : Option Addr) (c : Nat) (A' : Option Addr) (c' : Nat) (w : World)
set_option maxRecDepth 100000 in
set_option maxHeartbeats 2000000 in
theorem cOpenC (ho : q.opt.length ≤ 1000000) (hl : q.dat.length ≤ 900000) (hc : chk4 q ≠ 0) : Calls Tryz.prog 30 #[v4v q A c A' c'] w fun e w' => e = .returned (.tuple #[.nilIface, .int .i64 (chk4 q)]) ∧ Below w.heap.size w w' := by
  obtain ⟨E, hE⟩ : ∃ n, n = chk4 q := ⟨_, rfl⟩
  have HC := Lib.hid hE.symm
  have dE : (E != 0) = true := by simpa [hE] using hc
  rw [← hE]
  clear hc hE
  have hB : Below w.heap.size w (w.alloc (.cells (v4a q A c A' c') 24)) := (Below.refl _ w).alloc (Nat.le_refl _) _
  have at0 := At4.new (q := q) (A := A) (c := c) (A' := A') (c' := c') w
  have hz : w.heap.size < (w.alloc (.cells (v4a q A c A' c') 24)).heap.size := by simp
  rw [v4q_eq]
  go_enter Tryz.func30, Tryz.ntmps30
  go_upto_region 1 with fail
  generalize w.alloc (.cells (v4a q A c A' c') 24) = X at *
  go_wp2_with (first
    | ((with_reducible show wpList _ _ _ (Oper.mk (some 9) (Op.load 24 _) _ _ _ _ :: _) _ _); refine wpList_val rfl (run_load_v4 rfl rfl at0 rfl) ?_)
    | (go_at_call 43; refine (c4check q A c A' c' _ (by omega) (by omega)).mono ?_; rintro e w1 ⟨rfl, x1⟩; rw [HC.out]; have z1 := Nat.lt_of_lt_of_le hz x1.size; have at1 := at0.below x1 hz))
  go_ret2
  exact ⟨rfl, hB.trans (x1.mono hB.size)⟩
set_option maxRecDepth 100000 in
set_option maxHeartbeats 2000000 in
theorem cOpenW (ho : q.opt.length ≤ 1000000) (hl : q.dat.length ≤ 900000) (hc : chk4 q = 0) (hw : whole4 q = false) : Calls Tryz.prog 30 #[v4v q A c A' c'] w fun e w' => e = .returned (.tuple #[.nilIface, .int .i64 4]) ∧ Below w.heap.size w w' := by
  have HC := Lib.hid hc
  have HW := Lib.hid hw
  clear hc hw
  have hB : Below w.heap.size w (w.alloc (.cells (v4a q A c A' c') 24)) := (Below.refl _ w).alloc (Nat.le_refl _) _
  have at0 := At4.new (q := q) (A := A) (c := c) (A' := A') (c' := c') w
  have hz : w.heap.size < (w.alloc (.cells (v4a q A c A' c') 24)).heap.size := by simp
  rw [v4q_eq]
  go_enter Tryz.func30, Tryz.ntmps30
  go_upto_region 1 with fail
  generalize w.alloc (.cells (v4a q A c A' c') 24) = X at *
  go_wp2_with (first
    | ((with_reducible show wpList _ _ _ (Oper.mk (some 9) (Op.load 24 _) _ _ _ _ :: _) _ _); refine wpList_val rfl (run_load_v4 rfl rfl at0 rfl) ?_)
    | (go_at_call 43; refine (c4check q A c A' c' _ (by omega) (by omega)).mono ?_; rintro e w1 ⟨rfl, x1⟩; rw [HC.out]; have z1 := Nat.lt_of_lt_of_le hz x1.size; have at1 := at0.below x1 hz)
    | ((with_reducible show wpList _ _ _ (Oper.mk (some 14) (Op.load 24 _) _ _ _ _ :: _) _ _); refine wpList_val rfl (run_load_v4 rfl rfl at1 rfl) ?_)
    | (go_at_call 52; refine (c4whole q A c A' c' _).mono ?_; rintro e w2 ⟨rfl, x2⟩; rw [HW.out]; have at2 := at1.below x2 z1; have k4 := at2.proto; have k5 := at2.src; have k6 := at2.dst; have k10 := at2.dat; have x02 := hB.trans ((x1.trans (x2.mono x1.size)).mono hB.size)))
  go_ret2
  exact ⟨rfl, x02⟩
set_option maxRecDepth 100000 in
set_option maxHeartbeats 2000000 in
theorem cOpenN (ho : q.opt.length ≤ 1000000) (hl : q.dat.length ≤ 900000) (hc : chk4 q = 0) (hw : whole4 q = true) (h17 : q.proto ≠ 17) (h6 : q.proto ≠ 6) (h1 : q.proto ≠ 1) : Calls Tryz.prog 30 #[v4v q A c A' c'] w fun e w' => e = .returned (.tuple #[.nilIface, .int .i64 8]) ∧ Below w.heap.size w w' := by
  have HC := Lib.hid hc
  have HW := Lib.hid hw
  have d17 : (q.proto == 17) = false := by simpa using h17
  have d6 : (q.proto == 6) = false := by simpa using h6
  have d1 : (q.proto == 1) = false := by simpa using h1
  clear hc hw h17 h6 h1
  have hB : Below w.heap.size w (w.alloc (.cells (v4a q A c A' c') 24)) := (Below.refl _ w).alloc (Nat.le_refl _) _
  have at0 := At4.new (q := q) (A := A) (c := c) (A' := A') (c' := c') w
  have hz : w.heap.size < (w.alloc (.cells (v4a q A c A' c') 24)).heap.size := by simp
  rw [v4q_eq]
  go_enter Tryz.func30, Tryz.ntmps30
  go_upto_region 1 with fail
  generalize w.alloc (.cells (v4a q A c A' c') 24) = X at *
  go_wp2_with (first
    | ((with_reducible show wpList _ _ _ (Oper.mk (some 9) (Op.load 24 _) _ _ _ _ :: _) _ _); refine wpList_val rfl (run_load_v4 rfl rfl at0 rfl) ?_)
    | (go_at_call 43; refine (c4check q A c A' c' _ (by omega) (by omega)).mono ?_; rintro e w1 ⟨rfl, x1⟩; rw [HC.out]; have z1 := Nat.lt_of_lt_of_le hz x1.size; have at1 := at0.below x1 hz)
    | ((with_reducible show wpList _ _ _ (Oper.mk (some 14) (Op.load 24 _) _ _ _ _ :: _) _ _); refine wpList_val rfl (run_load_v4 rfl rfl at1 rfl) ?_)
    | (go_at_call 52; refine (c4whole q A c A' c' _).mono ?_; rintro e w2 ⟨rfl, x2⟩; rw [HW.out]; have at2 := at1.below x2 z1; have k4 := at2.proto; have k5 := at2.src; have k6 := at2.dst; have k10 := at2.dat; have x02 := hB.trans ((x1.trans (x2.mono x1.size)).mono hB.size)))
  go_ret2
  exact ⟨rfl, x02⟩
set_option maxRecDepth 100000 in
set_option maxHeartbeats 2000000 in
theorem cOpen17 (ho : q.opt.length ≤ 1000000) (hl : q.dat.length ≤ 900000) (B : Nat) (hD : Arg w B A' c' q.dat) (hB0 : B ≤ w.heap.size) (hc : chk4 q = 0) (hw : whole4 q = true) (hk : q.proto = 17) : Calls Tryz.prog 30 #[v4v q A c A' c'] w fun e w' =>
      ∃ P p, e = .returned (.tuple #[.iface 82 (usv (inU q) P p), .int .i64 (badU q.src q.dst q.dat)]) ∧ Made w w' (.slice P (inU q).dat.length p) (inU q).dat := by
  have HC := Lib.hid hc
  have HW := Lib.hid hw
  obtain ⟨u, hu⟩ : ∃ x, x = inU q := ⟨_, rfl⟩
  obtain ⟨E, hE⟩ : ∃ x, x = badU q.src q.dst q.dat := ⟨_, rfl⟩
  have HU := Lib.hid (show u = prsU q.src q.dst q.dat from hu)
  have HE := Lib.hid hE
  rw [← hu, ← hE]
  have hD0 := hD.below (((Below.refl _ w).alloc (Nat.le_refl _) (.cells (v4a q A c A' c') 24)).mono hB0)
  have d17 : (q.proto == 17) = true := by simpa using hk
  clear hc hw hk hu hE hD
  have hB : Below w.heap.size w (w.alloc (.cells (v4a q A c A' c') 24)) := (Below.refl _ w).alloc (Nat.le_refl _) _
  have at0 := At4.new (q := q) (A := A) (c := c) (A' := A') (c' := c') w
  have hz : w.heap.size < (w.alloc (.cells (v4a q A c A' c') 24)).heap.size := by simp
  rw [v4q_eq]
  go_enter Tryz.func30, Tryz.ntmps30
  go_upto_region 1 with fail
  generalize w.alloc (.cells (v4a q A c A' c') 24) = X at *
  go_wp2_with (first
    | ((with_reducible show wpList _ _ _ (Oper.mk (some 9) (Op.load 24 _) _ _ _ _ :: _) _ _); refine wpList_val rfl (run_load_v4 rfl rfl at0 rfl) ?_)
    | (go_at_call 43; refine (c4check q A c A' c' _ (by omega) (by omega)).mono ?_; rintro e w1 ⟨rfl, x1⟩; rw [HC.out]; have z1 := Nat.lt_of_lt_of_le hz x1.size; have at1 := at0.below x1 hz)
    | ((with_reducible show wpList _ _ _ (Oper.mk (some 14) (Op.load 24 _) _ _ _ _ :: _) _ _); refine wpList_val rfl (run_load_v4 rfl rfl at1 rfl) ?_)
    | (go_at_call 52; refine (c4whole q A c A' c' _).mono ?_; rintro e w2 ⟨rfl, x2⟩; rw [HW.out]; have at2 := at1.below x2 z1; have k4 := at2.proto; have k5 := at2.src; have k6 := at2.dst; have k10 := at2.dat; have x02 := hB.trans ((x1.trans (x2.mono x1.size)).mono hB.size))
    | (go_at_call 53; refine (cUparse q.dat A' c' q.src q.dst w2 B (hD0.below ((x1.trans (x2.mono x1.size)).mono (Nat.le_trans hB0 hB.size))) (Nat.le_trans hB0 x02.size) (by omega)).mono ?_; rintro e w3 ⟨P, p, rfl, mdat⟩; rw [← HU.out] at mdat; rw [← HU.out, ← HE.out])
    | ((with_reducible show wpList _ _ _ (Oper.mk _ (Op.store 57 _ _) _ _ _ _ :: _) _ _); refine us_store_new (cs := usa u P p) rfl rfl rfl rfl (us_one _ _ _ ) ?_)
    | ((with_reducible show wpList _ _ _ (Oper.mk _ (Op.load 57 _) _ _ _ _ :: _) _ _); refine wpList_val rfl (run_load_us rfl rfl (Atus.new w3) rfl) ?_)
    | ((with_reducible show wpList _ _ _ (Oper.mk _ (Op.build 82 _) _ _ _ _ :: _) _ _); refine wpList_val rfl (run_build_dg rfl rfl rfl) ?_))
  go_ret2
  have j3 : Below w3.heap.size w3 (w3.alloc (.cells (usa u P p) 57)) := (Below.refl _ w3).alloc (Nat.le_refl _) _
  exact ⟨P, p, rfl, (mdat.after x02).later j3⟩
set_option maxRecDepth 100000 in
set_option maxHeartbeats 2000000 in
theorem cOpen6 (ho : q.opt.length ≤ 1000000) (hl : q.dat.length ≤ 900000) (B : Nat) (hD : Arg w B A' c' q.dat) (hB0 : B ≤ w.heap.size) (hc : chk4 q = 0) (hw : whole4 q = true) (hk : q.proto = 6) : Calls Tryz.prog 30 #[v4v q A c A' c'] w fun e w' =>
      ∃ P p P' p', e = .returned (.tuple #[.iface 68 (tsv (inT q) P p P' p'), .int .i64 (badT q.src q.dst q.dat)]) ∧ Made w w' (.slice P (inT q).opt.length p) (inT q).opt ∧ Made w w' (.slice P' (inT q).dat.length p') (inT q).dat := by
  have HC := Lib.hid hc
  have HW := Lib.hid hw
  obtain ⟨u, hu⟩ : ∃ x, x = inT q := ⟨_, rfl⟩
  obtain ⟨E, hE⟩ : ∃ x, x = badT q.src q.dst q.dat := ⟨_, rfl⟩
  have HU := Lib.hid (show u = prsT q.src q.dst q.dat from hu)
  have HE := Lib.hid hE
  rw [← hu, ← hE]
  have hD0 := hD.below (((Below.refl _ w).alloc (Nat.le_refl _) (.cells (v4a q A c A' c') 24)).mono hB0)
  have d17 : (q.proto == 17) = false := by simp; omega
  have d6 : (q.proto == 6) = true := by simpa using hk
  clear hc hw hk hu hE hD
  have hB : Below w.heap.size w (w.alloc (.cells (v4a q A c A' c') 24)) := (Below.refl _ w).alloc (Nat.le_refl _) _
  have at0 := At4.new (q := q) (A := A) (c := c) (A' := A') (c' := c') w
  have hz : w.heap.size < (w.alloc (.cells (v4a q A c A' c') 24)).heap.size := by simp
  rw [v4q_eq]
  go_enter Tryz.func30, Tryz.ntmps30
  go_upto_region 1 with fail
  generalize w.alloc (.cells (v4a q A c A' c') 24) = X at *
  go_wp2_with (first
    | ((with_reducible show wpList _ _ _ (Oper.mk (some 9) (Op.load 24 _) _ _ _ _ :: _) _ _); refine wpList_val rfl (run_load_v4 rfl rfl at0 rfl) ?_)
    | (go_at_call 43; refine (c4check q A c A' c' _ (by omega) (by omega)).mono ?_; rintro e w1 ⟨rfl, x1⟩; rw [HC.out]; have z1 := Nat.lt_of_lt_of_le hz x1.size; have at1 := at0.below x1 hz)
    | ((with_reducible show wpList _ _ _ (Oper.mk (some 14) (Op.load 24 _) _ _ _ _ :: _) _ _); refine wpList_val rfl (run_load_v4 rfl rfl at1 rfl) ?_)
    | (go_at_call 52; refine (c4whole q A c A' c' _).mono ?_; rintro e w2 ⟨rfl, x2⟩; rw [HW.out]; have at2 := at1.below x2 z1; have k4 := at2.proto; have k5 := at2.src; have k6 := at2.dst; have k10 := at2.dat; have x02 := hB.trans ((x1.trans (x2.mono x1.size)).mono hB.size))
    | (go_at_call 47; refine (cTparse q.dat A' c' q.src q.dst w2 B (hD0.below ((x1.trans (x2.mono x1.size)).mono (Nat.le_trans hB0 hB.size))) (Nat.le_trans hB0 x02.size) (by omega)).mono ?_; rintro e w3 ⟨P, p, P', p', rfl, mopt, mdat⟩; rw [← HU.out] at mopt mdat; rw [← HU.out, ← HE.out])
    | ((with_reducible show wpList _ _ _ (Oper.mk _ (Op.store 41 _ _) _ _ _ _ :: _) _ _); refine ts_store_new (cs := tsa u P p P' p') rfl rfl rfl rfl (ts_one _ _ _ _ _ ) ?_)
    | ((with_reducible show wpList _ _ _ (Oper.mk _ (Op.load 41 _) _ _ _ _ :: _) _ _); refine wpList_val rfl (run_load_ts rfl rfl (Atts.new w3) rfl) ?_)
    | ((with_reducible show wpList _ _ _ (Oper.mk _ (Op.build 68 _) _ _ _ _ :: _) _ _); refine wpList_val rfl (run_build_sg rfl rfl rfl) ?_))
  go_ret2
  have j3 : Below w3.heap.size w3 (w3.alloc (.cells (tsa u P p P' p') 41)) := (Below.refl _ w3).alloc (Nat.le_refl _) _
  exact ⟨P, p, P', p', rfl, (mopt.after x02).later j3, (mdat.after x02).later j3⟩
set_option maxRecDepth 100000 in
set_option maxHeartbeats 2000000 in
theorem cOpen1 (ho : q.opt.length ≤ 1000000) (hl : q.dat.length ≤ 900000) (B : Nat) (hD : Arg w B A' c' q.dat) (hB0 : B ≤ w.heap.size) (hc : chk4 q = 0) (hw : whole4 q = true) (hk : q.proto = 1) : Calls Tryz.prog 30 #[v4v q A c A' c'] w fun e w' =>
      ∃ v, e = .returned (.tuple #[v, .int .i64 (icE q.dat)]) ∧ Below w.heap.size w w' ∧ (icE q.dat ≠ 0 → v = .nilIface) ∧
      (icE q.dat = 0 → ∃ P p, v = .iface 121 (isv (inI q) P p) ∧ Made w w' (.slice P (inI q).dat.length p) (inI q).dat) := by
  have HC := Lib.hid hc
  have HW := Lib.hid hw
  have hD0 := hD.below (((Below.refl _ w).alloc (Nat.le_refl _) (.cells (v4a q A c A' c') 24)).mono hB0)
  have d17 : (q.proto == 17) = false := by simp; omega
  have d6 : (q.proto == 6) = false := by simp; omega
  have d1 : (q.proto == 1) = true := by simpa using hk
  clear hc hw hk hD
  have hB : Below w.heap.size w (w.alloc (.cells (v4a q A c A' c') 24)) := (Below.refl _ w).alloc (Nat.le_refl _) _
  have at0 := At4.new (q := q) (A := A) (c := c) (A' := A') (c' := c') w
  have hz : w.heap.size < (w.alloc (.cells (v4a q A c A' c') 24)).heap.size := by simp
  rw [v4q_eq]
  go_enter Tryz.func30, Tryz.ntmps30
  go_upto_region 1 with fail
  generalize w.alloc (.cells (v4a q A c A' c') 24) = X at *
  go_wp2_with (first
    | ((with_reducible show wpList _ _ _ (Oper.mk (some 9) (Op.load 24 _) _ _ _ _ :: _) _ _); refine wpList_val rfl (run_load_v4 rfl rfl at0 rfl) ?_)
    | (go_at_call 43; refine (c4check q A c A' c' _ (by omega) (by omega)).mono ?_; rintro e w1 ⟨rfl, x1⟩; rw [HC.out]; have z1 := Nat.lt_of_lt_of_le hz x1.size; have at1 := at0.below x1 hz)
    | ((with_reducible show wpList _ _ _ (Oper.mk (some 14) (Op.load 24 _) _ _ _ _ :: _) _ _); refine wpList_val rfl (run_load_v4 rfl rfl at1 rfl) ?_)
    | (go_at_call 52; refine (c4whole q A c A' c' _).mono ?_; rintro e w2 ⟨rfl, x2⟩; rw [HW.out]; have at2 := at1.below x2 z1; have k4 := at2.proto; have k5 := at2.src; have k6 := at2.dst; have k10 := at2.dat; have x02 := hB.trans ((x1.trans (x2.mono x1.size)).mono hB.size))
    | (go_at_call 54; refine (cOpenI q.dat A' c' w2 B (hD0.below ((x1.trans (x2.mono x1.size)).mono (Nat.le_trans hB0 hB.size))) (Nat.le_trans hB0 x02.size) (by omega)).mono ?_; rintro e w3 ⟨v, rfl, x3, n3, m3⟩))
  go_ret2
  exact ⟨v, rfl, x02.trans (x3.mono x02.size), n3, fun h => by { obtain ⟨P, p, hv, m⟩ := m3 h; exact ⟨P, p, hv, m.after x02⟩ }⟩
/-- What a packet has within: where ports are, a value of its kind. -/
def Opn (w w' : World) (v : Value) : Prop := Below w.heap.size w w' ∧
  (ofE q ≠ 0 → v = .nilIface ∨ (∃ u P p, v = .iface 82 (usv u P p)) ∨ ∃ t P p P' p', v = .iface 68 (tsv t P p P' p')) ∧
  (ofE q = 0 → q.proto = 17 → ∃ P p, v = .iface 82 (usv (inU q) P p) ∧ Made w w' (.slice P (inU q).dat.length p) (inU q).dat) ∧
  (ofE q = 0 → q.proto = 6 → ∃ P p P' p', v = .iface 68 (tsv (inT q) P p P' p') ∧ Made w w' (.slice P (inT q).opt.length p) (inT q).opt ∧ Made w w' (.slice P' (inT q).dat.length p') (inT q).dat) ∧
  (ofE q = 0 → q.proto = 1 → ∃ P p, v = .iface 121 (isv (inI q) P p) ∧ Made w w' (.slice P (inI q).dat.length p) (inI q).dat)
theorem cOpen (ho : q.opt.length ≤ 1000000) (hl : q.dat.length ≤ 900000) (B : Nat) (hD : Arg w B A' c' q.dat) (hB0 : B ≤ w.heap.size) : Calls Tryz.prog 30 #[v4v q A c A' c'] w fun e w' => ∃ v, e = .returned (.tuple #[v, .int .i64 (ofE q)]) ∧ Opn q w w' v := by
  by_cases hc : chk4 q = 0
  · by_cases hw : whole4 q = true
    · by_cases h17 : q.proto = 17
      · have he : ofE q = badU q.src q.dst q.dat := by rw [ofE, if_neg (by omega), if_neg (by rw [hw]; decide), if_pos h17]
        refine (cOpen17 q A c A' c' w ho hl B hD hB0 hc hw h17).mono ?_
        rintro e w' ⟨P, p, rfl, m⟩
        exact ⟨_, by rw [he], m.below, fun _ => .inr (.inl ⟨_, P, p, rfl⟩), fun _ _ => ⟨P, p, rfl, m⟩, fun _ h => by omega, fun _ h => by omega⟩
      · by_cases h6 : q.proto = 6
        · have he : ofE q = badT q.src q.dst q.dat := by rw [ofE, if_neg (by omega), if_neg (by rw [hw]; decide), if_neg h17, if_pos h6]
          refine (cOpen6 q A c A' c' w ho hl B hD hB0 hc hw h6).mono ?_
          rintro e w' ⟨P, p, P', p', rfl, m, m'⟩
          exact ⟨_, by rw [he], m.below, fun _ => .inr (.inr ⟨_, P, p, P', p', rfl⟩), fun _ h => by omega, fun _ _ => ⟨P, p, P', p', rfl, m, m'⟩, fun _ h => by omega⟩
        · by_cases h1 : q.proto = 1
          · have he : ofE q = icE q.dat := by rw [ofE, if_neg (by omega), if_neg (by rw [hw]; decide), if_neg h17, if_neg h6, if_pos h1]
            refine (cOpen1 q A c A' c' w ho hl B hD hB0 hc hw h1).mono ?_
            rintro e w' ⟨v, rfl, x, n, m⟩
            exact ⟨_, by rw [he], x, fun h => .inl (n (he ▸ h)), fun _ h => by omega, fun _ h => by omega, fun h _ => m (he ▸ h)⟩
          · have he : ofE q = 8 := by rw [ofE, if_neg (by omega), if_neg (by rw [hw]; decide), if_neg h17, if_neg h6, if_neg h1]
            refine (cOpenN q A c A' c' w ho hl hc hw h17 h6 h1).mono ?_
            rintro e w' ⟨rfl, x⟩
            exact ⟨_, by rw [he], x, fun _ => .inl rfl, fun _ h => by omega, fun _ h => by omega, fun _ h => by omega⟩
    · have hw : whole4 q = false := by simpa using hw
      have he : ofE q = 4 := by rw [ofE, if_neg (by omega), if_pos hw]
      refine (cOpenW q A c A' c' w ho hl hc hw).mono ?_
      rintro e w' ⟨rfl, x⟩
      exact ⟨_, by rw [he], x, fun _ => .inl rfl, fun h => by omega, fun h => by omega, fun h => by omega⟩
  · have he : ofE q = chk4 q := by rw [ofE, if_pos hc]
    refine (cOpenC q A c A' c' w ho hl hc).mono ?_
    rintro e w' ⟨rfl, x⟩
    exact ⟨_, by rw [he], x, fun _ => .inl rfl, fun h => by omega, fun h => by omega, fun h => by omega⟩
set_option maxRecDepth 100000 in
set_option maxHeartbeats 2000000 in
theorem cMay (n : Int) (ho : q.opt.length ≤ 1000000) (hl : q.dat.length ≤ 900000) : Calls Tryz.prog 36 #[v4v q A c A' c', .int .i64 n] w fun e w' => e = .returned (.bool (decide (chk4 q = 0 ∧ isPt n))) ∧ Below w.heap.size w w' := by
  have hB : Below w.heap.size w (w.alloc (.cells (v4a q A c A' c') 24)) := (Below.refl _ w).alloc (Nat.le_refl _) _
  have at0 := At4.new (q := q) (A := A) (c := c) (A' := A') (c' := c') w
  have H := Lib.hid (show decide (chk4 q = 0 ∧ isPt n) = ((chk4 q == 0) && decide (0 ≤ n) && decide (n ≤ 65535)) by rw [Bool.eq_iff_iff, decide_eq_true_iff]; simp [isPt, and_assoc])
  rw [v4q_eq]
  cases e0 : (chk4 q == 0) <;> cases e1 : decide (0 ≤ n) <;> cases e2 : decide (n ≤ 65535)
  all_goals
    go_enter Tryz.func36, Tryz.ntmps36
    go_wp2_with (first
      | ((with_reducible show wpList _ _ _ (Oper.mk (some 5) (Op.load 24 _) _ _ _ _ :: _) _ _); refine wpList_val rfl (run_load_v4 rfl rfl at0 rfl) ?_)
      | (go_at_call 43; refine (c4check q A c A' c' _ (by omega) (by omega)).mono ?_; rintro e w1 ⟨rfl, x1⟩))
    go_ret
    exact ⟨ret_bool (by rw [H.out, e0, e1, e2]; rfl), hB.trans (x1.mono hB.size)⟩
end
end Go.Proofs.YtodlfdnegcfhcaaGreat

/-
  A packet with something else within, built anew. Conditions are each theorem's own.
-/
namespace Go.Proofs.YtodlfdnegcfhcaaGreat
open Go.RowKit

/-- A packet with other data. -/
def datP (q : P4) (D : List UInt8) : P4 := ⟨q.tos, q.id, q.off, q.ttl, q.proto, q.src, q.dst, q.df, q.mf, q.opt, D⟩
theorem At4.of_heap {W : World} {g : Nat} {q : P4} {A : Option Addr} {c : Nat} {A' : Option Addr} {c' : Nat} {t : TypeId} {fr : Nat × Nat} (h : W.heap[g]? = some (.cells (v4a q A c A' c') t fr)) : At4 W g q A c A' c' := fun j v hj => by
  rw [cell_of_row W g (0 + j) _ _ _ h, Nat.zero_add, ← Array.getElem?_toList]; exact hj
set_option maxRecDepth 100000 in
set_option maxHeartbeats 2000000 in
theorem cWith17 (q : P4) (A : Option Addr) (c : Nat) (A' : Option Addr) (c' : Nat) (u : PU) (P : Option Addr) (p : Nat) (w : World) (B : Nat) (hO : Arg w B A c q.opt) (hB0 : B ≤ w.heap.size) (ho : q.opt.length ≤ 1000000) (hU : Arg w B P p u.dat) (hlu : u.dat.length ≤ 900000) (hcu : chkU u = 0) :
    Calls Tryz.prog 37 #[v4v q A c A' c', .iface 82 (usv u P p)] w fun e w' => ∃ O o D d, e = .returned (.tuple #[v4v (datP q (bldU q.src q.dst u)) O o D d, .int .i64 0]) ∧ Made w w' (.slice O q.opt.length o) q.opt ∧ Made w w' (.slice D (bldU q.src q.dst u).length d) (bldU q.src q.dst u) := by
  have hB : Below w.heap.size w ((w.alloc (.cells (v4a q A c A' c') 24)).alloc (.cells (v4a p4z none 0 none 0) 24)) := below_two w _ _
  have hU0 : ((w.alloc (.cells (v4a q A c A' c') 24)).alloc (.cells (v4a p4z none 0 none 0) 24)).heap[w.heap.size]? = some (.cells (v4a q A c A' c') 24 (0, 0)) := (Below.heap_alloc (w.alloc (.cells (v4a q A c A' c') 24)) _ w.heap.size (by simp)).trans (World.alloc_heap_new w _)
  have hR0 : ((w.alloc (.cells (v4a q A c A' c') 24)).alloc (.cells (v4a p4z none 0 none 0) 24)).heap[w.heap.size + 1]? = some (.cells (v4a p4z none 0 none 0) 24 (0, 0)) := by
    have := World.alloc_heap_new (w.alloc (.cells (v4a q A c A' c') 24)) (.cells (v4a p4z none 0 none 0) 24)
    rwa [World.size_alloc] at this
  have HC := Lib.hid hcu
  clear hcu
  rw [v4q_eq]
  obtain ⟨R, hR⟩ : ∃ l, l = bldU q.src q.dst u := ⟨_, rfl⟩
  have HR := Lib.hid hR
  rw [← hR]
  clear hR
  go_enter Tryz.func37, Tryz.ntmps37
  go_upto_region 1 with fail
  rw [show #[.int .i64 0, .int .i64 0, .int .i64 0, .int .i64 0, .int .i64 0, .int .i64 0, .int .i64 0, .bool false, .bool false, .slice none 0 0, .slice none 0 0] = v4a p4z none 0 none 0 from rfl]
  generalize (w.alloc (.cells (v4a q A c A' c') 24)).alloc (.cells (v4a p4z none 0 none 0) 24) = W at *
  have at0 := At4.of_heap hU0
  have k5 := at0.src
  have k6 := at0.dst
  go_upto_region 2 with (go_at_call 148; refine (cDbuild u P p q.src q.dst W B (hU.below (hB.mono hB0)) (Nat.le_trans hB0 hB.size) hlu HC.out).mono ?_; rintro e w1 ⟨D, d, rfl, m1⟩; rw [← HR.out] at m1; rw [← HR.out])
  have x1 := m1.below
  have hU1 := (x1.block w.heap.size (heap_lt hU0)).trans hU0
  have hR1 := (x1.block (w.heap.size + 1) (heap_lt hR0)).trans hR0
  have b1 := hB.trans (x1.mono hB.size)
  clear k5 k6 at0
  have hO1 := hO.below (b1.mono hB0)
  have z1 := Nat.le_trans hB0 b1.size
  have k9 := (At4.of_heap hU1).opt
  go_upto_region 5 with (go_at_call 21; refine (clone_any A q.opt c B _ hO1 z1 (by omega)).mono ?_; rintro e w2 ⟨v2, rfl, m2⟩; obtain ⟨O, o, rfl, g2, o2, y2⟩ := made_shape m2; have x2 := m2.below; have hU2 := (x2.block w.heap.size (heap_lt hU1)).trans hU1; have hR2 := (x2.block (w.heap.size + 1) (heap_lt hR1)).trans hR1; have k92 := (At4.of_heap hU2).opt; have f9 := heap_frozen hU2 9; have k102 := (At4.of_heap hU2).dat; have f10 := heap_frozen hU2 10)
  have zz := heap_lt hR1
  have zw := x1.size
  have zb := heap_lt hR0
  have oD := own_below (made_own m1) x2
  have oO := made_own m2
  have b2 := b1.trans (x2.mono b1.size)
  have hU3 : (w2.setCell ⟨w.heap.size, 9, none⟩ (.slice O q.opt.length o)).heap[w.heap.size]? = some (.cells (v4a q O o A' c') 24 (0, 0)) := heap_setCell_same w2 w.heap.size 9 _ _ (.slice O q.opt.length o) hU2
  have hR3 := (heap_setCell_other w2 ⟨w.heap.size, 9, none⟩ (w.heap.size + 1) (.slice O q.opt.length o) (by show w.heap.size + 1 ≠ w.heap.size; omega)).trans hR2
  have b3 := b2.setCell (p := ⟨w.heap.size, 9, none⟩) (Nat.le_refl _) (.slice O q.opt.length o)
  have oD3 := own_setCell oD (p := ⟨w.heap.size, 9, none⟩) (u := .slice O q.opt.length o) (by show w.heap.size < _; omega)
  have oO3 := own_setCell oO (p := ⟨w.heap.size, 9, none⟩) (u := .slice O q.opt.length o) (by show w.heap.size < _; omega)
  generalize w2.setCell ⟨w.heap.size, 9, none⟩ (.slice O q.opt.length o) = V at *
  have hU4 : (V.setCell ⟨w.heap.size, 10, none⟩ (.slice D R.length d)).heap[w.heap.size]? = some (.cells (v4a (datP q R) O o D d) 24 (0, 0)) := heap_setCell_same V w.heap.size 10 _ _ (.slice D R.length d) hU3
  have hR4 := (heap_setCell_other V ⟨w.heap.size, 10, none⟩ (w.heap.size + 1) (.slice D R.length d) (by show w.heap.size + 1 ≠ w.heap.size; omega)).trans hR3
  have b4 := b3.setCell (p := ⟨w.heap.size, 10, none⟩) (Nat.le_refl _) (.slice D R.length d)
  have oD4 := own_setCell oD3 (p := ⟨w.heap.size, 10, none⟩) (u := .slice D R.length d) (by show w.heap.size < _; omega)
  have oO4 := own_setCell oO3 (p := ⟨w.heap.size, 10, none⟩) (u := .slice D R.length d) (by show w.heap.size < _; omega)
  generalize V.setCell ⟨w.heap.size, 10, none⟩ (.slice D R.length d) = V4 at *
  have at4 := At4.of_heap hU4
  clear oD oO oD3 oO3 hU0 hU1 hU2 hU3 hR0 hR1 hR2 hR3 k9 k92 f9 k102 f10 g2 o2 y2 hO1
  go_wp2_with (first
    | ((with_reducible show wpList _ _ _ (Oper.mk _ (Op.load 24 _) _ _ _ _ :: _) _ _); refine wpList_val rfl (run_load_v4 rfl rfl at4 rfl) ?_)
    | ((with_reducible show wpList _ _ _ (Oper.mk _ (Op.store 24 _ _) _ _ _ _ :: _) _ _); refine v4_store (g := w.heap.size + 1) (cs := v4a (datP q R) O o D d) rfl rfl hR4 rfl rfl (v4a_one _ _ _ _ _) ?_))
  have oD5 := own_setRow oD4 (g := w.heap.size + 1) (cs := v4a (datP q R) O o D d) (by omega)
  have oO5 := own_setRow oO4 (g := w.heap.size + 1) (cs := v4a (datP q R) O o D d) (by omega)
  have b5 := below_row b4 (g := w.heap.size + 1) (cs := v4a (datP q R) O o D d) (by omega)
  exact bodyPost_ret (res2 rfl rfl (run_loadVar_row _ _ _ 24 (v4a (datP q R) O o D d) _ _ (setRow_heap _ _ _ _ _ _ hR4) Tryz.underlying24 rfl (by kernel_rfl))) rfl ⟨O, o, D, d, rfl, Made.of_own (own_base oO5 (by omega)) b5, Made.of_own (own_base oD5 (by omega)) b5⟩
set_option maxRecDepth 100000 in
set_option maxHeartbeats 2000000 in
theorem cWith6 (q : P4) (A : Option Addr) (c : Nat) (A' : Option Addr) (c' : Nat) (u : PT) (P : Option Addr) (p : Nat) (P' : Option Addr) (p' : Nat) (w : World) (B : Nat) (hO : Arg w B A c q.opt) (hB0 : B ≤ w.heap.size) (ho : q.opt.length ≤ 1000000) (hU : Arg w B P p u.opt) (hU' : Arg w B P' p' u.dat) (hlo : u.opt.length ≤ 900000) (hlu : u.dat.length ≤ 900000) (hcu : chkT u = 0) :
    Calls Tryz.prog 37 #[v4v q A c A' c', .iface 68 (tsv u P p P' p')] w fun e w' => ∃ O o D d, e = .returned (.tuple #[v4v (datP q (bldT q.src q.dst u)) O o D d, .int .i64 0]) ∧ Made w w' (.slice O q.opt.length o) q.opt ∧ Made w w' (.slice D (bldT q.src q.dst u).length d) (bldT q.src q.dst u) := by
  have hB : Below w.heap.size w ((w.alloc (.cells (v4a q A c A' c') 24)).alloc (.cells (v4a p4z none 0 none 0) 24)) := below_two w _ _
  have hU0 : ((w.alloc (.cells (v4a q A c A' c') 24)).alloc (.cells (v4a p4z none 0 none 0) 24)).heap[w.heap.size]? = some (.cells (v4a q A c A' c') 24 (0, 0)) := (Below.heap_alloc (w.alloc (.cells (v4a q A c A' c') 24)) _ w.heap.size (by simp)).trans (World.alloc_heap_new w _)
  have hR0 : ((w.alloc (.cells (v4a q A c A' c') 24)).alloc (.cells (v4a p4z none 0 none 0) 24)).heap[w.heap.size + 1]? = some (.cells (v4a p4z none 0 none 0) 24 (0, 0)) := by
    have := World.alloc_heap_new (w.alloc (.cells (v4a q A c A' c') 24)) (.cells (v4a p4z none 0 none 0) 24)
    rwa [World.size_alloc] at this
  have HC := Lib.hid hcu
  clear hcu
  rw [v4q_eq]
  obtain ⟨R, hR⟩ : ∃ l, l = bldT q.src q.dst u := ⟨_, rfl⟩
  have HR := Lib.hid hR
  rw [← hR]
  clear hR
  go_enter Tryz.func37, Tryz.ntmps37
  go_upto_region 1 with fail
  rw [show #[.int .i64 0, .int .i64 0, .int .i64 0, .int .i64 0, .int .i64 0, .int .i64 0, .int .i64 0, .bool false, .bool false, .slice none 0 0, .slice none 0 0] = v4a p4z none 0 none 0 from rfl]
  generalize (w.alloc (.cells (v4a q A c A' c') 24)).alloc (.cells (v4a p4z none 0 none 0) 24) = W at *
  have at0 := At4.of_heap hU0
  have k5 := at0.src
  have k6 := at0.dst
  go_upto_region 2 with (go_at_call 144; refine (cSbuild u P p P' p' q.src q.dst W B (hU.below (hB.mono hB0)) (hU'.below (hB.mono hB0)) (Nat.le_trans hB0 hB.size) hlo hlu HC.out).mono ?_; rintro e w1 ⟨D, d, rfl, m1⟩; rw [← HR.out] at m1; rw [← HR.out])
  have x1 := m1.below
  have hU1 := (x1.block w.heap.size (heap_lt hU0)).trans hU0
  have hR1 := (x1.block (w.heap.size + 1) (heap_lt hR0)).trans hR0
  have b1 := hB.trans (x1.mono hB.size)
  clear k5 k6 at0
  have hO1 := hO.below (b1.mono hB0)
  have z1 := Nat.le_trans hB0 b1.size
  have k9 := (At4.of_heap hU1).opt
  go_upto_region 5 with (go_at_call 21; refine (clone_any A q.opt c B _ hO1 z1 (by omega)).mono ?_; rintro e w2 ⟨v2, rfl, m2⟩; obtain ⟨O, o, rfl, g2, o2, y2⟩ := made_shape m2; have x2 := m2.below; have hU2 := (x2.block w.heap.size (heap_lt hU1)).trans hU1; have hR2 := (x2.block (w.heap.size + 1) (heap_lt hR1)).trans hR1; have k92 := (At4.of_heap hU2).opt; have f9 := heap_frozen hU2 9; have k102 := (At4.of_heap hU2).dat; have f10 := heap_frozen hU2 10)
  have zz := heap_lt hR1
  have zw := x1.size
  have zb := heap_lt hR0
  have oD := own_below (made_own m1) x2
  have oO := made_own m2
  have b2 := b1.trans (x2.mono b1.size)
  have hU3 : (w2.setCell ⟨w.heap.size, 9, none⟩ (.slice O q.opt.length o)).heap[w.heap.size]? = some (.cells (v4a q O o A' c') 24 (0, 0)) := heap_setCell_same w2 w.heap.size 9 _ _ (.slice O q.opt.length o) hU2
  have hR3 := (heap_setCell_other w2 ⟨w.heap.size, 9, none⟩ (w.heap.size + 1) (.slice O q.opt.length o) (by show w.heap.size + 1 ≠ w.heap.size; omega)).trans hR2
  have b3 := b2.setCell (p := ⟨w.heap.size, 9, none⟩) (Nat.le_refl _) (.slice O q.opt.length o)
  have oD3 := own_setCell oD (p := ⟨w.heap.size, 9, none⟩) (u := .slice O q.opt.length o) (by show w.heap.size < _; omega)
  have oO3 := own_setCell oO (p := ⟨w.heap.size, 9, none⟩) (u := .slice O q.opt.length o) (by show w.heap.size < _; omega)
  generalize w2.setCell ⟨w.heap.size, 9, none⟩ (.slice O q.opt.length o) = V at *
  have hU4 : (V.setCell ⟨w.heap.size, 10, none⟩ (.slice D R.length d)).heap[w.heap.size]? = some (.cells (v4a (datP q R) O o D d) 24 (0, 0)) := heap_setCell_same V w.heap.size 10 _ _ (.slice D R.length d) hU3
  have hR4 := (heap_setCell_other V ⟨w.heap.size, 10, none⟩ (w.heap.size + 1) (.slice D R.length d) (by show w.heap.size + 1 ≠ w.heap.size; omega)).trans hR3
  have b4 := b3.setCell (p := ⟨w.heap.size, 10, none⟩) (Nat.le_refl _) (.slice D R.length d)
  have oD4 := own_setCell oD3 (p := ⟨w.heap.size, 10, none⟩) (u := .slice D R.length d) (by show w.heap.size < _; omega)
  have oO4 := own_setCell oO3 (p := ⟨w.heap.size, 10, none⟩) (u := .slice D R.length d) (by show w.heap.size < _; omega)
  generalize V.setCell ⟨w.heap.size, 10, none⟩ (.slice D R.length d) = V4 at *
  have at4 := At4.of_heap hU4
  clear oD oO oD3 oO3 hU0 hU1 hU2 hU3 hR0 hR1 hR2 hR3 k9 k92 f9 k102 f10 g2 o2 y2 hO1
  go_wp2_with (first
    | ((with_reducible show wpList _ _ _ (Oper.mk _ (Op.load 24 _) _ _ _ _ :: _) _ _); refine wpList_val rfl (run_load_v4 rfl rfl at4 rfl) ?_)
    | ((with_reducible show wpList _ _ _ (Oper.mk _ (Op.store 24 _ _) _ _ _ _ :: _) _ _); refine v4_store (g := w.heap.size + 1) (cs := v4a (datP q R) O o D d) rfl rfl hR4 rfl rfl (v4a_one _ _ _ _ _) ?_))
  have oD5 := own_setRow oD4 (g := w.heap.size + 1) (cs := v4a (datP q R) O o D d) (by omega)
  have oO5 := own_setRow oO4 (g := w.heap.size + 1) (cs := v4a (datP q R) O o D d) (by omega)
  have b5 := below_row b4 (g := w.heap.size + 1) (cs := v4a (datP q R) O o D d) (by omega)
  exact bodyPost_ret (res2 rfl rfl (run_loadVar_row _ _ _ 24 (v4a (datP q R) O o D d) _ _ (setRow_heap _ _ _ _ _ _ hR4) Tryz.underlying24 rfl (by kernel_rfl))) rfl ⟨O, o, D, d, rfl, Made.of_own (own_base oO5 (by omega)) b5, Made.of_own (own_base oD5 (by omega)) b5⟩
set_option maxRecDepth 100000 in
set_option maxHeartbeats 2000000 in
theorem cWith1 (q : P4) (A : Option Addr) (c : Nat) (A' : Option Addr) (c' : Nat) (u : PI) (P : Option Addr) (p : Nat) (w : World) (B : Nat) (hO : Arg w B A c q.opt) (hB0 : B ≤ w.heap.size) (ho : q.opt.length ≤ 1000000) (hU : Arg w B P p u.dat) (hlu : u.dat.length ≤ 900000) (hcu : chkI u = 0) :
    Calls Tryz.prog 37 #[v4v q A c A' c', .iface 121 (isv u P p)] w fun e w' => ∃ O o D d, e = .returned (.tuple #[v4v (datP q (bldI [] u)) O o D d, .int .i64 0]) ∧ Made w w' (.slice O q.opt.length o) q.opt ∧ Made w w' (.slice D (bldI [] u).length d) (bldI [] u) := by
  have hB : Below w.heap.size w ((w.alloc (.cells (v4a q A c A' c') 24)).alloc (.cells (v4a p4z none 0 none 0) 24)) := below_two w _ _
  have hU0 : ((w.alloc (.cells (v4a q A c A' c') 24)).alloc (.cells (v4a p4z none 0 none 0) 24)).heap[w.heap.size]? = some (.cells (v4a q A c A' c') 24 (0, 0)) := (Below.heap_alloc (w.alloc (.cells (v4a q A c A' c') 24)) _ w.heap.size (by simp)).trans (World.alloc_heap_new w _)
  have hR0 : ((w.alloc (.cells (v4a q A c A' c') 24)).alloc (.cells (v4a p4z none 0 none 0) 24)).heap[w.heap.size + 1]? = some (.cells (v4a p4z none 0 none 0) 24 (0, 0)) := by
    have := World.alloc_heap_new (w.alloc (.cells (v4a q A c A' c') 24)) (.cells (v4a p4z none 0 none 0) 24)
    rwa [World.size_alloc] at this
  have HC := Lib.hid hcu
  clear hcu
  rw [v4q_eq]
  obtain ⟨R, hR⟩ : ∃ l, l = bldI [] u := ⟨_, rfl⟩
  have HR := Lib.hid hR
  rw [← hR]
  clear hR
  go_enter Tryz.func37, Tryz.ntmps37
  go_upto_region 1 with fail
  rw [show #[.int .i64 0, .int .i64 0, .int .i64 0, .int .i64 0, .int .i64 0, .int .i64 0, .int .i64 0, .bool false, .bool false, .slice none 0 0, .slice none 0 0] = v4a p4z none 0 none 0 from rfl]
  generalize (w.alloc (.cells (v4a q A c A' c') 24)).alloc (.cells (v4a p4z none 0 none 0) 24) = W at *
  have at0 := At4.of_heap hU0
  have k5 := at0.src
  have k6 := at0.dst
  go_upto_region 2 with (go_at_call 156; refine (cQbuild u P p q.src q.dst W B (hU.below (hB.mono hB0)) (Nat.le_trans hB0 hB.size) hlu HC.out).mono ?_; rintro e w1 ⟨D, d, rfl, m1⟩; rw [← HR.out] at m1; rw [← HR.out])
  have x1 := m1.below
  have hU1 := (x1.block w.heap.size (heap_lt hU0)).trans hU0
  have hR1 := (x1.block (w.heap.size + 1) (heap_lt hR0)).trans hR0
  have b1 := hB.trans (x1.mono hB.size)
  clear k5 k6 at0
  have hO1 := hO.below (b1.mono hB0)
  have z1 := Nat.le_trans hB0 b1.size
  have k9 := (At4.of_heap hU1).opt
  go_upto_region 5 with (go_at_call 21; refine (clone_any A q.opt c B _ hO1 z1 (by omega)).mono ?_; rintro e w2 ⟨v2, rfl, m2⟩; obtain ⟨O, o, rfl, g2, o2, y2⟩ := made_shape m2; have x2 := m2.below; have hU2 := (x2.block w.heap.size (heap_lt hU1)).trans hU1; have hR2 := (x2.block (w.heap.size + 1) (heap_lt hR1)).trans hR1; have k92 := (At4.of_heap hU2).opt; have f9 := heap_frozen hU2 9; have k102 := (At4.of_heap hU2).dat; have f10 := heap_frozen hU2 10)
  have zz := heap_lt hR1
  have zw := x1.size
  have zb := heap_lt hR0
  have oD := own_below (made_own m1) x2
  have oO := made_own m2
  have b2 := b1.trans (x2.mono b1.size)
  have hU3 : (w2.setCell ⟨w.heap.size, 9, none⟩ (.slice O q.opt.length o)).heap[w.heap.size]? = some (.cells (v4a q O o A' c') 24 (0, 0)) := heap_setCell_same w2 w.heap.size 9 _ _ (.slice O q.opt.length o) hU2
  have hR3 := (heap_setCell_other w2 ⟨w.heap.size, 9, none⟩ (w.heap.size + 1) (.slice O q.opt.length o) (by show w.heap.size + 1 ≠ w.heap.size; omega)).trans hR2
  have b3 := b2.setCell (p := ⟨w.heap.size, 9, none⟩) (Nat.le_refl _) (.slice O q.opt.length o)
  have oD3 := own_setCell oD (p := ⟨w.heap.size, 9, none⟩) (u := .slice O q.opt.length o) (by show w.heap.size < _; omega)
  have oO3 := own_setCell oO (p := ⟨w.heap.size, 9, none⟩) (u := .slice O q.opt.length o) (by show w.heap.size < _; omega)
  generalize w2.setCell ⟨w.heap.size, 9, none⟩ (.slice O q.opt.length o) = V at *
  have hU4 : (V.setCell ⟨w.heap.size, 10, none⟩ (.slice D R.length d)).heap[w.heap.size]? = some (.cells (v4a (datP q R) O o D d) 24 (0, 0)) := heap_setCell_same V w.heap.size 10 _ _ (.slice D R.length d) hU3
  have hR4 := (heap_setCell_other V ⟨w.heap.size, 10, none⟩ (w.heap.size + 1) (.slice D R.length d) (by show w.heap.size + 1 ≠ w.heap.size; omega)).trans hR3
  have b4 := b3.setCell (p := ⟨w.heap.size, 10, none⟩) (Nat.le_refl _) (.slice D R.length d)
  have oD4 := own_setCell oD3 (p := ⟨w.heap.size, 10, none⟩) (u := .slice D R.length d) (by show w.heap.size < _; omega)
  have oO4 := own_setCell oO3 (p := ⟨w.heap.size, 10, none⟩) (u := .slice D R.length d) (by show w.heap.size < _; omega)
  generalize V.setCell ⟨w.heap.size, 10, none⟩ (.slice D R.length d) = V4 at *
  have at4 := At4.of_heap hU4
  clear oD oO oD3 oO3 hU0 hU1 hU2 hU3 hR0 hR1 hR2 hR3 k9 k92 f9 k102 f10 g2 o2 y2 hO1
  go_wp2_with (first
    | ((with_reducible show wpList _ _ _ (Oper.mk _ (Op.load 24 _) _ _ _ _ :: _) _ _); refine wpList_val rfl (run_load_v4 rfl rfl at4 rfl) ?_)
    | ((with_reducible show wpList _ _ _ (Oper.mk _ (Op.store 24 _ _) _ _ _ _ :: _) _ _); refine v4_store (g := w.heap.size + 1) (cs := v4a (datP q R) O o D d) rfl rfl hR4 rfl rfl (v4a_one _ _ _ _ _) ?_))
  have oD5 := own_setRow oD4 (g := w.heap.size + 1) (cs := v4a (datP q R) O o D d) (by omega)
  have oO5 := own_setRow oO4 (g := w.heap.size + 1) (cs := v4a (datP q R) O o D d) (by omega)
  have b5 := below_row b4 (g := w.heap.size + 1) (cs := v4a (datP q R) O o D d) (by omega)
  exact bodyPost_ret (res2 rfl rfl (run_loadVar_row _ _ _ 24 (v4a (datP q R) O o D d) _ _ (setRow_heap _ _ _ _ _ _ hR4) Tryz.underlying24 rfl (by kernel_rfl))) rfl ⟨O, o, D, d, rfl, Made.of_own (own_base oO5 (by omega)) b5, Made.of_own (own_base oD5 (by omega)) b5⟩
end Go.Proofs.YtodlfdnegcfhcaaGreat

/-
  A packet's ports, and a segment's flags. Conditions are each theorem's own.
-/
namespace Go.Proofs.YtodlfdnegcfhcaaGreat
open Go.RowKit

/-- What is told of ports. -/
def prA (k a b : Int) : Array Value := #[.int .i64 k, .int .i64 a, .int .i64 b]
theorem prA_one (k a b : Int) : (prA k a b).all (·.oneCell') = true := by simp [prA, Value.oneCell']
def ofV (q : P4) : Array Value := if ofE q = 0 then prA q.proto (ptS q) (ptD q) else prA 0 0 0
theorem pr_store {ops : Array Oper} {rest : List Oper} {x y : Operand} {ty : TypeId} {pos : String} {af : Array Edge} {a : Act} {w : World} {Q : Exit → Act → World → Prop}
    {g : Nat} {t : TypeId} {cs old : Array Value} (hx : a.eval x = .pointer (some ⟨g, 0, none⟩)) (hy : a.eval y = .agg cs) (hg : w.heap[g]? = some (.cells old t (0, 0))) (ho : old.size = 3) (hl : cs.size = 3) (h1 : cs.all (·.oneCell') = true)
    (h : wpList Tryz.prog ops Q rest (a.put none undef) (w.setRow g cs)) : wpList Tryz.prog ops Q (⟨none, .store 28 x y, ty, pos, af, none⟩ :: rest) a w :=
  wpList_plain rfl fun _ hK => wp_store_row 28 x y rfl g cs hx hy t old hg (by rw [hl]; kernel_rfl) (by rw [ho, hl]) h1 (hK _ _ h)
theorem pr_load_run {w : World} {g : Nat} {t : TypeId} {cs : Array Value} {fr : Nat × Nat} (hg : w.heap[g]? = some (.cells cs t fr)) (hl : cs.size = 3) : (loadVar 28 ⟨g, 0, none⟩).run Tryz.prog w = .ok (.agg cs) w :=
  run_loadVar_row w g t 28 cs fr _ hg Tryz.underlying28 rfl (by rw [hl]; kernel_rfl)
section
variable (q : P4) (A : Option Addr) (c : Nat) (A' : Option Addr) (c' : Nat) (w : World)
set_option maxRecDepth 100000 in
set_option maxHeartbeats 2000000 in
theorem cOfE (ho : q.opt.length ≤ 1000000) (hl : q.dat.length ≤ 900000) (B : Nat) (hD : Arg w B A' c' q.dat) (hB0 : B ≤ w.heap.size) (he : ofE q ≠ 0) : Calls Tryz.prog 9 #[v4v q A c A' c'] w fun e w' => e = .returned (.tuple #[.agg (prA 0 0 0), .int .i64 (ofE q)]) ∧ Below w.heap.size w w' := by
  obtain ⟨E, hE⟩ : ∃ n, n = ofE q := ⟨_, rfl⟩
  have HE := Lib.hid hE
  have dE : (E != 0) = true := by simpa [hE] using he
  rw [← hE]
  clear he hE
  have hB : Below w.heap.size w ((w.alloc (.cells (v4a q A c A' c') 24)).alloc (.cells (prA 0 0 0) 28)) := below_two w _ _
  have hU0 : ((w.alloc (.cells (v4a q A c A' c') 24)).alloc (.cells (prA 0 0 0) 28)).heap[w.heap.size]? = some (.cells (v4a q A c A' c') 24 (0, 0)) := (Below.heap_alloc (w.alloc (.cells (v4a q A c A' c') 24)) _ w.heap.size (by simp)).trans (World.alloc_heap_new w _)
  have hR0 : ((w.alloc (.cells (v4a q A c A' c') 24)).alloc (.cells (prA 0 0 0) 28)).heap[w.heap.size + 1]? = some (.cells (prA 0 0 0) 28 (0, 0)) := by
    have := World.alloc_heap_new (w.alloc (.cells (v4a q A c A' c') 24)) (.cells (prA 0 0 0) 28)
    rwa [World.size_alloc] at this
  rw [v4q_eq]
  go_enter Tryz.func9, Tryz.ntmps9
  go_upto_region 1 with fail
  rw [show #[Value.int .i64 0, .int .i64 0, .int .i64 0] = prA 0 0 0 from rfl]
  generalize (w.alloc (.cells (v4a q A c A' c') 24)).alloc (.cells (prA 0 0 0) 28) = W at *
  have at0 := At4.of_heap hU0
  have hD0 := hD.below (hB.mono hB0)
  go_wp2_with (first
    | ((with_reducible show wpList _ _ _ (Oper.mk _ (Op.load 24 _) _ _ _ _ :: _) _ _); refine wpList_val rfl (run_load_v4 rfl rfl at0 rfl) ?_)
    | (go_at_call 30; refine (cOpen q A c A' c' W ho hl B hD0 (Nat.le_trans hB0 hB.size)).mono ?_; rintro e w1 ⟨v, rfl, hOp⟩; rw [← HE.out]; have x1 := hOp.1; have hR1 := (x1.block (w.heap.size + 1) (heap_lt hR0)).trans hR0)
    | ((with_reducible show wpList _ _ _ (Oper.mk _ (Op.store 28 _ _) _ _ _ _ :: _) _ _); refine pr_store (g := w.heap.size + 1) (cs := prA 0 0 0) rfl rfl hR1 rfl rfl (prA_one _ _ _) ?_))
  exact bodyPost_ret (res2 rfl rfl (pr_load_run (setRow_heap _ _ _ _ _ _ hR1) rfl)) rfl ⟨rfl, below_row (hB.trans (x1.mono hB.size)) (by omega)⟩
set_option maxRecDepth 100000 in
set_option maxHeartbeats 2000000 in
theorem cOf17 (ho : q.opt.length ≤ 1000000) (hl : q.dat.length ≤ 900000) (B : Nat) (hD : Arg w B A' c' q.dat) (hB0 : B ≤ w.heap.size) (he : ofE q = 0) (hk : q.proto = 17) : Calls Tryz.prog 9 #[v4v q A c A' c'] w fun e w' => e = .returned (.tuple #[.agg (prA q.proto (inU q).src (inU q).dst), .int .i64 0]) ∧ Below w.heap.size w w' := by
  have HE := Lib.hid he
  have HK := Lib.hid hk
  clear he hk
  have hB : Below w.heap.size w ((w.alloc (.cells (v4a q A c A' c') 24)).alloc (.cells (prA 0 0 0) 28)) := below_two w _ _
  have hU0 : ((w.alloc (.cells (v4a q A c A' c') 24)).alloc (.cells (prA 0 0 0) 28)).heap[w.heap.size]? = some (.cells (v4a q A c A' c') 24 (0, 0)) := (Below.heap_alloc (w.alloc (.cells (v4a q A c A' c') 24)) _ w.heap.size (by simp)).trans (World.alloc_heap_new w _)
  have hR0 : ((w.alloc (.cells (v4a q A c A' c') 24)).alloc (.cells (prA 0 0 0) 28)).heap[w.heap.size + 1]? = some (.cells (prA 0 0 0) 28 (0, 0)) := by
    have := World.alloc_heap_new (w.alloc (.cells (v4a q A c A' c') 24)) (.cells (prA 0 0 0) 28)
    rwa [World.size_alloc] at this
  rw [v4q_eq]
  go_enter Tryz.func9, Tryz.ntmps9
  go_upto_region 1 with fail
  rw [show #[Value.int .i64 0, .int .i64 0, .int .i64 0] = prA 0 0 0 from rfl]
  generalize (w.alloc (.cells (v4a q A c A' c') 24)).alloc (.cells (prA 0 0 0) 28) = W at *
  have at0 := At4.of_heap hU0
  have hD0 := hD.below (hB.mono hB0)
  go_wp2_with (first
    | ((with_reducible show wpList _ _ _ (Oper.mk _ (Op.load 24 _) _ _ _ _ :: _) _ _); refine wpList_val rfl (run_load_v4 rfl rfl at0 rfl) ?_)
    | (go_at_call 30; refine (cOpen q A c A' c' W ho hl B hD0 (Nat.le_trans hB0 hB.size)).mono ?_; rintro e w1 ⟨v, rfl, hOp⟩; rw [HE.out]; have x1 := hOp.1; obtain ⟨P, p, rfl, m1⟩ := hOp.2.2.1 HE.out HK.out; have hR1 := (x1.block (w.heap.size + 1) (heap_lt hR0)).trans hR0; have hU1 := (x1.block w.heap.size (heap_lt hU0)).trans hU0)
    | (go_at_call 150; refine (cDports (inU q) P p _).mono ?_; rintro e w2 ⟨rfl, x2⟩; have hR2 := (x2.block (w.heap.size + 1) (heap_lt hR1)).trans hR1; have hU2 := (x2.block w.heap.size (heap_lt hU1)).trans hU1; have k4 := (At4.of_heap hU2).proto)
    | ((with_reducible show wpList _ _ _ (Oper.mk _ (Op.store 28 _ _) _ _ _ _ :: _) _ _); refine pr_store (g := w.heap.size + 1) (cs := prA q.proto (inU q).src (inU q).dst) rfl rfl hR2 rfl rfl (prA_one _ _ _) ?_))
  exact bodyPost_ret (res2 rfl rfl (pr_load_run (setRow_heap _ _ _ _ _ _ hR2) rfl)) rfl ⟨rfl, below_row (hB.trans ((x1.trans (x2.mono x1.size)).mono hB.size)) (by omega)⟩
set_option maxRecDepth 100000 in
set_option maxHeartbeats 2000000 in
theorem cOf6 (ho : q.opt.length ≤ 1000000) (hl : q.dat.length ≤ 900000) (B : Nat) (hD : Arg w B A' c' q.dat) (hB0 : B ≤ w.heap.size) (he : ofE q = 0) (hk : q.proto = 6) : Calls Tryz.prog 9 #[v4v q A c A' c'] w fun e w' => e = .returned (.tuple #[.agg (prA q.proto (inT q).src (inT q).dst), .int .i64 0]) ∧ Below w.heap.size w w' := by
  have HE := Lib.hid he
  have HK := Lib.hid hk
  clear he hk
  have hB : Below w.heap.size w ((w.alloc (.cells (v4a q A c A' c') 24)).alloc (.cells (prA 0 0 0) 28)) := below_two w _ _
  have hU0 : ((w.alloc (.cells (v4a q A c A' c') 24)).alloc (.cells (prA 0 0 0) 28)).heap[w.heap.size]? = some (.cells (v4a q A c A' c') 24 (0, 0)) := (Below.heap_alloc (w.alloc (.cells (v4a q A c A' c') 24)) _ w.heap.size (by simp)).trans (World.alloc_heap_new w _)
  have hR0 : ((w.alloc (.cells (v4a q A c A' c') 24)).alloc (.cells (prA 0 0 0) 28)).heap[w.heap.size + 1]? = some (.cells (prA 0 0 0) 28 (0, 0)) := by
    have := World.alloc_heap_new (w.alloc (.cells (v4a q A c A' c') 24)) (.cells (prA 0 0 0) 28)
    rwa [World.size_alloc] at this
  rw [v4q_eq]
  go_enter Tryz.func9, Tryz.ntmps9
  go_upto_region 1 with fail
  rw [show #[Value.int .i64 0, .int .i64 0, .int .i64 0] = prA 0 0 0 from rfl]
  generalize (w.alloc (.cells (v4a q A c A' c') 24)).alloc (.cells (prA 0 0 0) 28) = W at *
  have at0 := At4.of_heap hU0
  have hD0 := hD.below (hB.mono hB0)
  go_wp2_with (first
    | ((with_reducible show wpList _ _ _ (Oper.mk _ (Op.load 24 _) _ _ _ _ :: _) _ _); refine wpList_val rfl (run_load_v4 rfl rfl at0 rfl) ?_)
    | (go_at_call 30; refine (cOpen q A c A' c' W ho hl B hD0 (Nat.le_trans hB0 hB.size)).mono ?_; rintro e w1 ⟨v, rfl, hOp⟩; rw [HE.out]; have x1 := hOp.1; obtain ⟨P, p, P', p', rfl, m1, m1'⟩ := hOp.2.2.2.1 HE.out HK.out; have hR1 := (x1.block (w.heap.size + 1) (heap_lt hR0)).trans hR0; have hU1 := (x1.block w.heap.size (heap_lt hU0)).trans hU0)
    | (go_at_call 146; refine (cSports (inT q) P p P' p' _).mono ?_; rintro e w2 ⟨rfl, x2⟩; have hR2 := (x2.block (w.heap.size + 1) (heap_lt hR1)).trans hR1; have hU2 := (x2.block w.heap.size (heap_lt hU1)).trans hU1; have k4 := (At4.of_heap hU2).proto)
    | ((with_reducible show wpList _ _ _ (Oper.mk _ (Op.store 28 _ _) _ _ _ _ :: _) _ _); refine pr_store (g := w.heap.size + 1) (cs := prA q.proto (inT q).src (inT q).dst) rfl rfl hR2 rfl rfl (prA_one _ _ _) ?_))
  exact bodyPost_ret (res2 rfl rfl (pr_load_run (setRow_heap _ _ _ _ _ _ hR2) rfl)) rfl ⟨rfl, below_row (hB.trans ((x1.trans (x2.mono x1.size)).mono hB.size)) (by omega)⟩
set_option maxRecDepth 100000 in
set_option maxHeartbeats 2000000 in
theorem cOf1 (ho : q.opt.length ≤ 1000000) (hl : q.dat.length ≤ 900000) (B : Nat) (hD : Arg w B A' c' q.dat) (hB0 : B ≤ w.heap.size) (he : ofE q = 0) (hk : q.proto = 1) : Calls Tryz.prog 9 #[v4v q A c A' c'] w fun e w' => e = .returned (.tuple #[.agg (prA q.proto (idI (inI q)) (idI (inI q))), .int .i64 0]) ∧ Below w.heap.size w w' := by
  have HE := Lib.hid he
  have HK := Lib.hid hk
  clear he hk
  have hB : Below w.heap.size w ((w.alloc (.cells (v4a q A c A' c') 24)).alloc (.cells (prA 0 0 0) 28)) := below_two w _ _
  have hU0 : ((w.alloc (.cells (v4a q A c A' c') 24)).alloc (.cells (prA 0 0 0) 28)).heap[w.heap.size]? = some (.cells (v4a q A c A' c') 24 (0, 0)) := (Below.heap_alloc (w.alloc (.cells (v4a q A c A' c') 24)) _ w.heap.size (by simp)).trans (World.alloc_heap_new w _)
  have hR0 : ((w.alloc (.cells (v4a q A c A' c') 24)).alloc (.cells (prA 0 0 0) 28)).heap[w.heap.size + 1]? = some (.cells (prA 0 0 0) 28 (0, 0)) := by
    have := World.alloc_heap_new (w.alloc (.cells (v4a q A c A' c') 24)) (.cells (prA 0 0 0) 28)
    rwa [World.size_alloc] at this
  rw [v4q_eq]
  go_enter Tryz.func9, Tryz.ntmps9
  go_upto_region 1 with fail
  rw [show #[Value.int .i64 0, .int .i64 0, .int .i64 0] = prA 0 0 0 from rfl]
  generalize (w.alloc (.cells (v4a q A c A' c') 24)).alloc (.cells (prA 0 0 0) 28) = W at *
  have at0 := At4.of_heap hU0
  have hD0 := hD.below (hB.mono hB0)
  go_wp2_with (first
    | ((with_reducible show wpList _ _ _ (Oper.mk _ (Op.load 24 _) _ _ _ _ :: _) _ _); refine wpList_val rfl (run_load_v4 rfl rfl at0 rfl) ?_)
    | (go_at_call 30; refine (cOpen q A c A' c' W ho hl B hD0 (Nat.le_trans hB0 hB.size)).mono ?_; rintro e w1 ⟨v, rfl, hOp⟩; rw [HE.out]; have x1 := hOp.1; obtain ⟨P, p, rfl, m1⟩ := hOp.2.2.2.2 HE.out HK.out; have hR1 := (x1.block (w.heap.size + 1) (heap_lt hR0)).trans hR0; have hU1 := (x1.block w.heap.size (heap_lt hU0)).trans hU0)
    | (go_at_call 158; refine (cQports (inI q) P p _).mono ?_; rintro e w2 ⟨rfl, x2⟩; have hR2 := (x2.block (w.heap.size + 1) (heap_lt hR1)).trans hR1; have hU2 := (x2.block w.heap.size (heap_lt hU1)).trans hU1; have k4 := (At4.of_heap hU2).proto)
    | ((with_reducible show wpList _ _ _ (Oper.mk _ (Op.store 28 _ _) _ _ _ _ :: _) _ _); refine pr_store (g := w.heap.size + 1) (cs := prA q.proto (idI (inI q)) (idI (inI q))) rfl rfl hR2 rfl rfl (prA_one _ _ _) ?_))
  exact bodyPost_ret (res2 rfl rfl (pr_load_run (setRow_heap _ _ _ _ _ _ hR2) rfl)) rfl ⟨rfl, below_row (hB.trans ((x1.trans (x2.mono x1.size)).mono hB.size)) (by omega)⟩
theorem cOf (ho : q.opt.length ≤ 1000000) (hl : q.dat.length ≤ 900000) (B : Nat) (hD : Arg w B A' c' q.dat) (hB0 : B ≤ w.heap.size) : Calls Tryz.prog 9 #[v4v q A c A' c'] w fun e w' => e = .returned (.tuple #[.agg (ofV q), .int .i64 (ofE q)]) ∧ Below w.heap.size w w' := by
  by_cases he : ofE q = 0
  · obtain ⟨_, _, h⟩ := of_ok he
    rw [ofV, if_pos he, he, ptS, ptD]
    rcases h with ⟨hk, _⟩ | ⟨hk, _⟩ | ⟨hk, _⟩
    · rw [if_pos hk, if_pos hk]; exact cOf17 q A c A' c' w ho hl B hD hB0 he hk
    · rw [if_neg (by omega), if_pos hk, if_neg (by omega), if_pos hk]; exact cOf6 q A c A' c' w ho hl B hD hB0 he hk
    · rw [if_neg (by omega), if_neg (by omega), if_neg (by omega), if_neg (by omega)]; exact cOf1 q A c A' c' w ho hl B hD hB0 he hk
  · rw [ofV, if_neg he]; exact cOfE q A c A' c' w ho hl B hD hB0 he
end
end Go.Proofs.YtodlfdnegcfhcaaGreat

/-
  What layers 11 and 12 both lean on: ports in a block, how long parts are. Conditions are each theorem's own.
-/
namespace Go.Proofs.YtodlfdnegcfhcaaGreat
open Go.RowKit

theorem in_len {q : P4} (h : ofE q = 0) : (inU q).dat.length ≤ 65535 ∧ (inT q).opt.length ≤ 65535 ∧ (inT q).dat.length ≤ 65535 ∧ (inI q).dat.length ≤ 65535 := by
  have hl := of_len h
  refine ⟨?_, ?_, ?_, ?_⟩
  · unfold inU prsU; split
    · simp only [rawU, List.length_drop]; omega
    · simp [usz]
  · unfold inT prsT; split
    · simp only [rawT, List.length_drop, List.length_take]; omega
    · simp [tsz]
  · unfold inT prsT; split
    · simp only [rawT, List.length_drop]; omega
    · simp [tsz]
  · unfold inI prsI; split
    · simp only [rawI, List.length_drop]; omega
    · simp [isz]
theorem pr_store_new {ops : Array Oper} {rest : List Oper} {x y : Operand} {ty : TypeId} {pos : String} {af : Array Edge} {a : Act} {w : World} {Q : Exit → Act → World → Prop}
    {t : TypeId} {cs old : Array Value} (hx : a.eval x = .pointer (some ⟨w.heap.size, 0, none⟩)) (hy : a.eval y = .agg cs) (ho : old.size = 3) (hl : cs.size = 3) (h1 : cs.all (·.oneCell') = true)
    (h : wpList Tryz.prog ops Q rest (a.put none undef) (w.alloc (.cells cs t))) : wpList Tryz.prog ops Q (⟨none, .store 28 x y, ty, pos, af, none⟩ :: rest) a (w.alloc (.cells old t)) :=
  pr_store hx hy (World.alloc_heap_new w _) ho hl h1 (by rw [World.setRow_alloc_new]; exact h)
theorem ofV_is (q : P4) : ∃ k a b, ofV q = prA k a b := by
  unfold ofV; split
  · exact ⟨_, _, _, rfl⟩
  · exact ⟨_, _, _, rfl⟩
theorem range_new (w : World) (cs : Array Value) (t : TypeId) : (w.alloc (.cells cs t)).rangeAt w.heap.size 0 cs.toList := fun j v hj => by
  rw [Nat.zero_add, World.cell?_alloc_new, ← hj, Array.getElem?_toList]
theorem run_load_pr {o : Oper} {a : Act} {w : World} {x : Operand} {g : Nat} {cs : List Value} (ho : o.op = .load 28 x) (hx : a.eval x = .pointer (some ⟨g, 0, none⟩)) (hr : w.rangeAt g 0 cs) (hl : cs.length = 3) :
    (execOp a.eval o).run Tryz.prog w = .ok (.value (.agg cs.toArray)) w := by
  have h := run_loadVar_mid (P := Tryz.prog) w g 0 28 cs _ hr Tryz.underlying28 rfl (by rw [hl]; kernel_rfl)
  unfold execOp
  simp only [ho, hx, Instr.loadAt, Instr.sureAddr, Sem.run_bind, Sem.run_pure, Result.andThen_ok, h]
end Go.Proofs.YtodlfdnegcfhcaaGreat
