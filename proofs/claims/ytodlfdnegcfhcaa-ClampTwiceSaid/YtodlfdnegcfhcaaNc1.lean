/-
  Contracts and lemmas on which the proofs of this seat stand (several texts in one). Conditions are each theorem's own.
-/
import Derived.Test.YtodlfdnegcfhcaaNa6
import Derived.Test.YtodlfdnegcfhcaaNb2
import Derived.Test.YtodlfdnegcfhcaaNb3
import Derived.Handy

/-
  What a packet has within, as it stands behind the interface: its ports, another port, its bytes. Conditions are each theorem's own.
-/
namespace Go.Proofs.Ytodlfdnegcfhcaa
open Go.RowKit

theorem run_build_dg {o : Oper} {a : Act} {w : World} {x : Operand} {cs : Array Value} (ho : o.op = .build 82 #[(0, x)]) (hx : a.eval x = .agg cs) (hl : cs.size = 4) :
    (execOp a.eval o).run Try.prog w = .ok (.value (.agg cs)) w := by
  obtain ⟨l⟩ := cs
  match l, hl with
  | [x0, x1, x2, x3], _ =>
    have e : (Array.map (fun y : Nat × Operand => (y.1, a.eval y.2)) #[(0, x)]) = #[(0, .agg #[x0, x1, x2, x3])] := by simp [hx]
    have hb : (Instr.build 82 #[(0, .agg #[x0, x1, x2, x3])]).run Try.prog w = .ok (.agg #[x0, x1, x2, x3]) w := by kernel_rfl
    unfold execOp
    simp only [ho, e, Sem.run_bind, hb]
    rfl
theorem run_build_sg {o : Oper} {a : Act} {w : World} {x : Operand} {cs : Array Value} (ho : o.op = .build 84 #[(0, x)]) (hx : a.eval x = .agg cs) (hl : cs.size = 10) :
    (execOp a.eval o).run Try.prog w = .ok (.value (.agg cs)) w := by
  obtain ⟨l⟩ := cs
  match l, hl with
  | [x0, x1, x2, x3, x4, x5, x6, x7, x8, x9], _ =>
    have e : (Array.map (fun y : Nat × Operand => (y.1, a.eval y.2)) #[(0, x)]) = #[(0, .agg #[x0, x1, x2, x3, x4, x5, x6, x7, x8, x9])] := by simp [hx]
    have hb : (Instr.build 84 #[(0, .agg #[x0, x1, x2, x3, x4, x5, x6, x7, x8, x9])]).run Try.prog w = .ok (.agg #[x0, x1, x2, x3, x4, x5, x6, x7, x8, x9]) w := by kernel_rfl
    unfold execOp
    simp only [ho, e, Sem.run_bind, hb]
    rfl
theorem run_build_qy {o : Oper} {a : Act} {w : World} {x : Operand} {cs : Array Value} (ho : o.op = .build 108 #[(0, x)]) (hx : a.eval x = .agg cs) (hl : cs.size = 4) :
    (execOp a.eval o).run Try.prog w = .ok (.value (.agg cs)) w := by
  obtain ⟨l⟩ := cs
  match l, hl with
  | [x0, x1, x2, x3], _ =>
    have e : (Array.map (fun y : Nat × Operand => (y.1, a.eval y.2)) #[(0, x)]) = #[(0, .agg #[x0, x1, x2, x3])] := by simp [hx]
    have hb : (Instr.build 108 #[(0, .agg #[x0, x1, x2, x3])]).run Try.prog w = .ok (.agg #[x0, x1, x2, x3]) w := by kernel_rfl
    unfold execOp
    simp only [ho, e, Sem.run_bind, hb]
    rfl
theorem run_load_dg {o : Oper} {a : Act} {w : World} {x : Operand} {g : Nat} {cs : List Value} (ho : o.op = .load 82 x) (hx : a.eval x = .pointer (some ⟨g, 0, none⟩)) (hr : w.rangeAt g 0 cs) (hl : cs.length = 4) :
    (execOp a.eval o).run Try.prog w = .ok (.value (.agg cs.toArray)) w := by
  have h := run_loadVar_mid (P := Try.prog) w g 0 82 cs _ hr Try.underlying82 rfl (by rw [hl]; kernel_rfl)
  unfold execOp
  simp only [ho, hx, Instr.loadAt, Instr.sureAddr, Sem.run_bind, Sem.run_pure, Result.andThen_ok, h]
theorem run_load_sg {o : Oper} {a : Act} {w : World} {x : Operand} {g : Nat} {cs : List Value} (ho : o.op = .load 84 x) (hx : a.eval x = .pointer (some ⟨g, 0, none⟩)) (hr : w.rangeAt g 0 cs) (hl : cs.length = 10) :
    (execOp a.eval o).run Try.prog w = .ok (.value (.agg cs.toArray)) w := by
  have h := run_loadVar_mid (P := Try.prog) w g 0 84 cs _ hr Try.underlying84 rfl (by rw [hl]; kernel_rfl)
  unfold execOp
  simp only [ho, hx, Instr.loadAt, Instr.sureAddr, Sem.run_bind, Sem.run_pure, Result.andThen_ok, h]
theorem run_load_qy {o : Oper} {a : Act} {w : World} {x : Operand} {g : Nat} {cs : List Value} (ho : o.op = .load 108 x) (hx : a.eval x = .pointer (some ⟨g, 0, none⟩)) (hr : w.rangeAt g 0 cs) (hl : cs.length = 4) :
    (execOp a.eval o).run Try.prog w = .ok (.value (.agg cs.toArray)) w := by
  have h := run_loadVar_mid (P := Try.prog) w g 0 108 cs _ hr Try.underlying108 rfl (by rw [hl]; kernel_rfl)
  unfold execOp
  simp only [ho, hx, Instr.loadAt, Instr.sureAddr, Sem.run_bind, Sem.run_pure, Result.andThen_ok, h]
set_option maxRecDepth 100000 in
set_option maxHeartbeats 1000000 in
theorem cDports (q : PU) (A : Option Addr) (c : Nat) (w : World) : Calls Try.prog 97 #[usv q A c] w fun e w' => e = .returned (.tuple #[.int .i64 q.src, .int .i64 q.dst]) ∧ Below w.heap.size w w' := by
  have hB : Below w.heap.size w (w.alloc (.cells (usa q A c) 82)) := (Below.refl _ w).alloc (Nat.le_refl _) _
  have hU := World.alloc_heap_new w (.cells (usa q A c) 82)
  have k0 : (w.alloc (.cells (usa q A c) 82)).cell? ⟨w.heap.size, 0, none⟩ = some (.int .i64 q.src) := by { rw [cell_of_row _ _ _ _ _ _ hU]; rfl }
  have k1 : (w.alloc (.cells (usa q A c) 82)).cell? ⟨w.heap.size, 1, none⟩ = some (.int .i64 q.dst) := by { rw [cell_of_row _ _ _ _ _ _ hU]; rfl }
  rw [usv_eq]
  go_enter Try.func97, Try.ntmps97
  go_upto_region 1 with fail
  generalize w.alloc (.cells (usa q A c) 82) = X at *
  go_wp2_with go_region
  go_ret2
  exact ⟨rfl, by first | exact hB | exact hB.drew | exact below_drewN hB _⟩
set_option maxRecDepth 100000 in
set_option maxHeartbeats 1000000 in
theorem cSports (q : PT) (A : Option Addr) (c : Nat) (A' : Option Addr) (c' : Nat) (w : World) : Calls Try.prog 101 #[tsv q A c A' c'] w fun e w' => e = .returned (.tuple #[.int .i64 q.src, .int .i64 q.dst]) ∧ Below w.heap.size w w' := by
  have hB : Below w.heap.size w (w.alloc (.cells (tsa q A c A' c') 84)) := (Below.refl _ w).alloc (Nat.le_refl _) _
  have hU := World.alloc_heap_new w (.cells (tsa q A c A' c') 84)
  have k0 : (w.alloc (.cells (tsa q A c A' c') 84)).cell? ⟨w.heap.size, 0, none⟩ = some (.int .i64 q.src) := by { rw [cell_of_row _ _ _ _ _ _ hU]; rfl }
  have k1 : (w.alloc (.cells (tsa q A c A' c') 84)).cell? ⟨w.heap.size, 1, none⟩ = some (.int .i64 q.dst) := by { rw [cell_of_row _ _ _ _ _ _ hU]; rfl }
  rw [tsv_eq]
  go_enter Try.func101, Try.ntmps101
  go_upto_region 1 with fail
  generalize w.alloc (.cells (tsa q A c A' c') 84) = X at *
  go_wp2_with go_region
  go_ret2
  exact ⟨rfl, by first | exact hB | exact hB.drew | exact below_drewN hB _⟩
set_option maxRecDepth 100000 in
set_option maxHeartbeats 1000000 in
theorem cQports (q : PI) (A : Option Addr) (c : Nat) (w : World) : Calls Try.prog 105 #[isv q A c] w fun e w' => e = .returned (.tuple #[.int .i64 (idI q), .int .i64 (idI q)]) ∧ Below w.heap.size w w' := by
  have hB : Below w.heap.size w (w.alloc (.cells (isa q A c) 108)) := (Below.refl _ w).alloc (Nat.le_refl _) _
  have at0 := Atis.of_heap (World.alloc_heap_new w (.cells (isa q A c) 108))
  have hz : w.heap.size < (w.alloc (.cells (isa q A c) 108)).heap.size := by simp
  rw [isv_eq]
  go_enter Try.func105, Try.ntmps105
  go_upto_region 1 with fail
  generalize w.alloc (.cells (isa q A c) 108) = X at *
  refine wp_region_held_drew (S := fun w' => Below X.heap.size X w') (by kernel_rfl) (Below.refl _ X).drew (fun hS => ?_)
  refine held_pure (i := 0) (oi := ⟨some 4, _, _, _, _, _⟩) rfl (by kernel_rfl) (by kernel_rfl) (by kernel_rfl) (fun _ _ _ h => h) (by rfl) (v := ?_) (fun w hSw => ?_) hS (fun hS => ?_)
  rotate_left
  · go_simp; try with_reducible rfl
  try go_frame
  refine held_pure (i := 1) (oi := ⟨some 5, _, _, _, _, _⟩) rfl (by kernel_rfl) (by kernel_rfl) (by kernel_rfl) (fun _ _ _ h => h) (by rfl) (fun w hSw => run_load_is rfl rfl (at0.below hSw hz) rfl) hS (fun hS => ?_)
  try go_frame
  refine held_pure (i := 3) (oi := ⟨some 7, _, _, _, _, _⟩) rfl (by kernel_rfl) (by kernel_rfl) (by kernel_rfl) (fun _ _ _ h => h) (by rfl) (v := ?_) (fun w hSw => ?_) hS (fun hS => ?_)
  rotate_left
  · go_simp; try with_reducible rfl
  try go_frame
  refine held_pure (i := 4) (oi := ⟨some 8, _, _, _, _, _⟩) rfl (by kernel_rfl) (by kernel_rfl) (by kernel_rfl) (fun _ _ _ h => h) (by rfl) (fun w hSw => run_load_is rfl rfl (at0.below hSw hz) rfl) hS (fun hS => ?_)
  try go_frame
  refine wpAnyH_ready (rs := [2]) (by kernel_rfl) (by simp) (AllReadyH.cons (o := ⟨some 6, _, _, _, _, _⟩) rfl (fun K hK => ?_) AllReadyH.nil)
  rw [if_pos (by rfl)]
  go_simp
  refine (cIid q A c _).mono ?_
  rintro e w2 ⟨rfl, x2⟩
  show K _ _
  refine hK.out _ _ (below_step hS x2) (fun hS => ?_)
  clear hK K
  try go_frame
  refine wpAnyH_ready (rs := [5]) (by kernel_rfl) (by simp) (AllReadyH.cons (o := ⟨some 9, _, _, _, _, _⟩) rfl (fun K hK => ?_) AllReadyH.nil)
  rw [if_pos (by rfl)]
  go_simp
  refine (cIid q A c _).mono ?_
  rintro e w5 ⟨rfl, x5⟩
  show K _ _
  refine hK.out _ _ (below_step hS x5) (fun hS => ?_)
  clear hK K
  try go_frame
  refine held_pure (i := 6) (oi := ⟨some 2, _, _, _, _, _⟩) rfl (by kernel_rfl) (by kernel_rfl) (by kernel_rfl) (fun _ _ _ h => h) (by rfl) (v := ?_) (fun w hSw => ?_) hS (fun hS => ?_)
  rotate_left
  · go_simp; try with_reducible rfl
  try go_frame
  refine held_pure (i := 7) (oi := ⟨some 3, _, _, _, _, _⟩) rfl (by kernel_rfl) (by kernel_rfl) (by kernel_rfl) (fun _ _ _ h => h) (by rfl) (v := ?_) (fun w hSw => ?_) hS (fun hS => ?_)
  rotate_left
  · go_simp; try with_reducible rfl
  try go_frame
  refine wpAnyH_done (by kernel_rfl) ?_ _
  go_wp2_with fail
  go_ret2
  exact ⟨rfl, hB.trans (hS.mono hB.size)⟩
end Go.Proofs.Ytodlfdnegcfhcaa

/-
  What a packet has within, opened; whether it may be with another address and a port. Conditions are each theorem's own.
-/
namespace Go.Proofs.Ytodlfdnegcfhcaa
open Go.RowKit

theorem v4q_eq (q : P4) (A : Option Addr) (c : Nat) (A' : Option Addr) (c' : Nat) : v4v q A c A' c' = .agg (v4a q A c A' c') := rfl
set_option maxRecDepth 100000 in
set_option maxHeartbeats 2000000 in
theorem cOpenI (b : List UInt8) (A : Option Addr) (c : Nat) (w : World) (B : Nat) (hR : Arg w B A c b) (hB : B ≤ w.heap.size) (hl : b.length ≤ 1000000) :
    Calls Try.prog 37 #[.slice A b.length c] w fun e w' => ∃ v, e = .returned (.tuple #[v, .int .i64 (icE b)]) ∧ Below w.heap.size w w' ∧ (icE b ≠ 0 → v = .nilIface) ∧
      (icE b = 0 → ∃ P p, v = .iface 108 (isv (prsI [] b) P p) ∧ Made w w' (.slice P (prsI [] b).dat.length p) (prsI [] b).dat) := by
  obtain ⟨u, hu⟩ : ∃ q, q = prsI [] b := ⟨_, rfl⟩
  obtain ⟨E, hE⟩ : ∃ q, q = badI [] b := ⟨_, rfl⟩
  have HU := Lib.hid hu
  have HE := Lib.hid hE
  by_cases h0 : E = 0
  · by_cases hq : qryI u.typ = true
    · have HI := Lib.hid (show icE b = 0 by rw [icE, ← hE, h0, if_neg (by simp), ← hu, if_pos hq])
      have HQ := Lib.hid hq
      have H0 := Lib.hid h0
      clear h0 hq hu hE
      rw [HI.out]
      go_enter Try.func37, Try.ntmps37
      go_upto_region 2 with (first
        | (go_at_call 58; refine (cIparse b A c w B hR hB hl).mono ?_; rintro e w1 ⟨P, p, rfl, m1⟩; rw [← HU.out] at m1; rw [← HU.out, ← HE.out, H0.out]; have x1 := m1.below)
        | ((with_reducible show wpList _ _ _ (Oper.mk _ (Op.store 104 _ _) _ _ _ _ :: _) _ _); refine is_store_new (cs := isa u P p) rfl rfl rfl rfl (is_one _ _ _) ?_))
      have j1 : Below w1.heap.size w1 (w1.alloc (.cells (isa u P p) 104)) := (Below.refl _ w1).alloc (Nat.le_refl _) _
      have at1 := Atis.new (q := u) (A := P) (c := p) w1
      have z1 : w1.heap.size < (w1.alloc (.cells (isa u P p) 104)).heap.size := by simp
      have k1 := at1.typ
      generalize w1.alloc (.cells (isa u P p) 104) = X at *
      go_wp2_with (first
        | (go_at_call 59; refine (cIquery _ _).mono ?_; rintro e w2 ⟨rfl, x2⟩; rw [HQ.out]; have at2 := at1.below x2 z1)
        | ((with_reducible show wpList _ _ _ (Oper.mk _ (Op.load 104 _) _ _ _ _ :: _) _ _); refine wpList_val rfl (run_load_is rfl rfl at2 rfl) ?_)
        | ((with_reducible show wpList _ _ _ (Oper.mk _ (Op.build 108 _) _ _ _ _ :: _) _ _); refine wpList_val rfl (run_build_qy rfl rfl rfl) ?_))
      go_ret2
      have j2 := j1.trans (x2.mono j1.size)
      exact ⟨_, rfl, x1.trans (j2.mono x1.size), fun h => absurd rfl h, fun _ => ⟨P, p, by rw [← HU.out]; rfl, by rw [← HU.out]; exact m1.later j2⟩⟩
    · have HI := Lib.hid (show icE b = 8 by rw [icE, ← hE, h0, if_neg (by simp), ← hu, if_neg hq])
      have HQ := Lib.hid (show qryI u.typ = false by simpa using hq)
      have H0 := Lib.hid h0
      clear h0 hq hu hE
      rw [HI.out]
      go_enter Try.func37, Try.ntmps37
      go_upto_region 2 with (first
        | (go_at_call 58; refine (cIparse b A c w B hR hB hl).mono ?_; rintro e w1 ⟨P, p, rfl, m1⟩; rw [← HU.out] at m1; rw [← HU.out, ← HE.out, H0.out]; have x1 := m1.below)
        | ((with_reducible show wpList _ _ _ (Oper.mk _ (Op.store 104 _ _) _ _ _ _ :: _) _ _); refine is_store_new (cs := isa u P p) rfl rfl rfl rfl (is_one _ _ _) ?_))
      have j1 : Below w1.heap.size w1 (w1.alloc (.cells (isa u P p) 104)) := (Below.refl _ w1).alloc (Nat.le_refl _) _
      have at1 := Atis.new (q := u) (A := P) (c := p) w1
      have z1 : w1.heap.size < (w1.alloc (.cells (isa u P p) 104)).heap.size := by simp
      have k1 := at1.typ
      generalize w1.alloc (.cells (isa u P p) 104) = X at *
      go_wp2_with (go_at_call 59; refine (cIquery _ _).mono ?_; rintro e w2 ⟨rfl, x2⟩; rw [HQ.out]; have at2 := at1.below x2 z1)
      go_ret2
      have j2 := j1.trans (x2.mono j1.size)
      exact ⟨_, rfl, x1.trans (j2.mono x1.size), fun _ => rfl, fun h => absurd h (by decide)⟩
  · have HI := Lib.hid (show icE b = E by rw [icE, ← hE, if_pos h0])
    have HN := Lib.hid h0
    have dE : (E != 0) = true := by simpa using h0
    clear h0 hu hE
    rw [HI.out]
    go_enter Try.func37, Try.ntmps37
    go_upto_region 2 with (first
      | (go_at_call 58; refine (cIparse b A c w B hR hB hl).mono ?_; rintro e w1 ⟨P, p, rfl, m1⟩; rw [← HU.out] at m1; rw [← HU.out, ← HE.out]; have x1 := m1.below)
      | ((with_reducible show wpList _ _ _ (Oper.mk _ (Op.store 104 _ _) _ _ _ _ :: _) _ _); refine is_store_new (cs := isa u P p) rfl rfl rfl rfl (is_one _ _ _) ?_))
    have j1 : Below w1.heap.size w1 (w1.alloc (.cells (isa u P p) 104)) := (Below.refl _ w1).alloc (Nat.le_refl _) _
    generalize w1.alloc (.cells (isa u P p) 104) = X at *
    go_wp2_with fail
    go_ret2
    exact ⟨_, rfl, x1.trans (j1.mono x1.size), fun _ => rfl, fun h => absurd h HN.out⟩
section
variable (q : P4) (A : Option Addr) (c : Nat) (A' : Option Addr) (c' : Nat) (w : World)
set_option maxRecDepth 100000 in
set_option maxHeartbeats 2000000 in
theorem cOpenC (ho : q.opt.length ≤ 1000000) (hl : q.dat.length ≤ 900000) (hc : chk4 q ≠ 0) : Calls Try.prog 17 #[v4v q A c A' c'] w fun e w' => e = .returned (.tuple #[.nilIface, .int .i64 (chk4 q)]) ∧ Below w.heap.size w w' := by
  obtain ⟨E, hE⟩ : ∃ n, n = chk4 q := ⟨_, rfl⟩
  have HC := Lib.hid hE.symm
  have dE : (E != 0) = true := by simpa [hE] using hc
  rw [← hE]
  clear hc hE
  have hB : Below w.heap.size w (w.alloc (.cells (v4a q A c A' c') 25)) := (Below.refl _ w).alloc (Nat.le_refl _) _
  have at0 := At4.new (q := q) (A := A) (c := c) (A' := A') (c' := c') w
  have hz : w.heap.size < (w.alloc (.cells (v4a q A c A' c') 25)).heap.size := by simp
  rw [v4q_eq]
  go_enter Try.func17, Try.ntmps17
  go_upto_region 1 with fail
  generalize w.alloc (.cells (v4a q A c A' c') 25) = X at *
  go_wp2_with (first
    | ((with_reducible show wpList _ _ _ (Oper.mk (some 9) (Op.load 25 _) _ _ _ _ :: _) _ _); refine wpList_val rfl (run_load_v4 rfl rfl at0 rfl) ?_)
    | (go_at_call 34; refine (c4check q A c A' c' _ (by omega) (by omega)).mono ?_; rintro e w1 ⟨rfl, x1⟩; rw [HC.out]; have z1 := Nat.lt_of_lt_of_le hz x1.size; have at1 := at0.below x1 hz))
  go_ret2
  exact ⟨rfl, hB.trans (x1.mono hB.size)⟩
set_option maxRecDepth 100000 in
set_option maxHeartbeats 2000000 in
theorem cOpenW (ho : q.opt.length ≤ 1000000) (hl : q.dat.length ≤ 900000) (hc : chk4 q = 0) (hw : whole4 q = false) : Calls Try.prog 17 #[v4v q A c A' c'] w fun e w' => e = .returned (.tuple #[.nilIface, .int .i64 4]) ∧ Below w.heap.size w w' := by
  have HC := Lib.hid hc
  have HW := Lib.hid hw
  clear hc hw
  have hB : Below w.heap.size w (w.alloc (.cells (v4a q A c A' c') 25)) := (Below.refl _ w).alloc (Nat.le_refl _) _
  have at0 := At4.new (q := q) (A := A) (c := c) (A' := A') (c' := c') w
  have hz : w.heap.size < (w.alloc (.cells (v4a q A c A' c') 25)).heap.size := by simp
  rw [v4q_eq]
  go_enter Try.func17, Try.ntmps17
  go_upto_region 1 with fail
  generalize w.alloc (.cells (v4a q A c A' c') 25) = X at *
  go_wp2_with (first
    | ((with_reducible show wpList _ _ _ (Oper.mk (some 9) (Op.load 25 _) _ _ _ _ :: _) _ _); refine wpList_val rfl (run_load_v4 rfl rfl at0 rfl) ?_)
    | (go_at_call 34; refine (c4check q A c A' c' _ (by omega) (by omega)).mono ?_; rintro e w1 ⟨rfl, x1⟩; rw [HC.out]; have z1 := Nat.lt_of_lt_of_le hz x1.size; have at1 := at0.below x1 hz)
    | ((with_reducible show wpList _ _ _ (Oper.mk (some 14) (Op.load 25 _) _ _ _ _ :: _) _ _); refine wpList_val rfl (run_load_v4 rfl rfl at1 rfl) ?_)
    | (go_at_call 35; refine (c4whole q A c A' c' _).mono ?_; rintro e w2 ⟨rfl, x2⟩; rw [HW.out]; have at2 := at1.below x2 z1; have k4 := at2.proto; have k5 := at2.src; have k6 := at2.dst; have k10 := at2.dat; have x02 := hB.trans ((x1.trans (x2.mono x1.size)).mono hB.size)))
  go_ret2
  exact ⟨rfl, x02⟩
set_option maxRecDepth 100000 in
set_option maxHeartbeats 2000000 in
theorem cOpenN (ho : q.opt.length ≤ 1000000) (hl : q.dat.length ≤ 900000) (hc : chk4 q = 0) (hw : whole4 q = true) (h17 : q.proto ≠ 17) (h6 : q.proto ≠ 6) (h1 : q.proto ≠ 1) : Calls Try.prog 17 #[v4v q A c A' c'] w fun e w' => e = .returned (.tuple #[.nilIface, .int .i64 8]) ∧ Below w.heap.size w w' := by
  have HC := Lib.hid hc
  have HW := Lib.hid hw
  have d17 : (q.proto == 17) = false := by simpa using h17
  have d6 : (q.proto == 6) = false := by simpa using h6
  have d1 : (q.proto == 1) = false := by simpa using h1
  clear hc hw h17 h6 h1
  have hB : Below w.heap.size w (w.alloc (.cells (v4a q A c A' c') 25)) := (Below.refl _ w).alloc (Nat.le_refl _) _
  have at0 := At4.new (q := q) (A := A) (c := c) (A' := A') (c' := c') w
  have hz : w.heap.size < (w.alloc (.cells (v4a q A c A' c') 25)).heap.size := by simp
  rw [v4q_eq]
  go_enter Try.func17, Try.ntmps17
  go_upto_region 1 with fail
  generalize w.alloc (.cells (v4a q A c A' c') 25) = X at *
  go_wp2_with (first
    | ((with_reducible show wpList _ _ _ (Oper.mk (some 9) (Op.load 25 _) _ _ _ _ :: _) _ _); refine wpList_val rfl (run_load_v4 rfl rfl at0 rfl) ?_)
    | (go_at_call 34; refine (c4check q A c A' c' _ (by omega) (by omega)).mono ?_; rintro e w1 ⟨rfl, x1⟩; rw [HC.out]; have z1 := Nat.lt_of_lt_of_le hz x1.size; have at1 := at0.below x1 hz)
    | ((with_reducible show wpList _ _ _ (Oper.mk (some 14) (Op.load 25 _) _ _ _ _ :: _) _ _); refine wpList_val rfl (run_load_v4 rfl rfl at1 rfl) ?_)
    | (go_at_call 35; refine (c4whole q A c A' c' _).mono ?_; rintro e w2 ⟨rfl, x2⟩; rw [HW.out]; have at2 := at1.below x2 z1; have k4 := at2.proto; have k5 := at2.src; have k6 := at2.dst; have k10 := at2.dat; have x02 := hB.trans ((x1.trans (x2.mono x1.size)).mono hB.size)))
  go_ret2
  exact ⟨rfl, x02⟩
set_option maxRecDepth 100000 in
set_option maxHeartbeats 2000000 in
theorem cOpen17 (ho : q.opt.length ≤ 1000000) (hl : q.dat.length ≤ 900000) (B : Nat) (hD : Arg w B A' c' q.dat) (hB0 : B ≤ w.heap.size) (hc : chk4 q = 0) (hw : whole4 q = true) (hk : q.proto = 17) : Calls Try.prog 17 #[v4v q A c A' c'] w fun e w' =>
      ∃ P p, e = .returned (.tuple #[.iface 82 (usv (inU q) P p), .int .i64 (badU q.src q.dst q.dat)]) ∧ Made w w' (.slice P (inU q).dat.length p) (inU q).dat := by
  have HC := Lib.hid hc
  have HW := Lib.hid hw
  obtain ⟨u, hu⟩ : ∃ x, x = inU q := ⟨_, rfl⟩
  obtain ⟨E, hE⟩ : ∃ x, x = badU q.src q.dst q.dat := ⟨_, rfl⟩
  have HU := Lib.hid (show u = prsU q.src q.dst q.dat from hu)
  have HE := Lib.hid hE
  rw [← hu, ← hE]
  have hD0 := hD.below (((Below.refl _ w).alloc (Nat.le_refl _) (.cells (v4a q A c A' c') 25)).mono hB0)
  have d17 : (q.proto == 17) = true := by simpa using hk
  clear hc hw hk hu hE hD
  have hB : Below w.heap.size w (w.alloc (.cells (v4a q A c A' c') 25)) := (Below.refl _ w).alloc (Nat.le_refl _) _
  have at0 := At4.new (q := q) (A := A) (c := c) (A' := A') (c' := c') w
  have hz : w.heap.size < (w.alloc (.cells (v4a q A c A' c') 25)).heap.size := by simp
  rw [v4q_eq]
  go_enter Try.func17, Try.ntmps17
  go_upto_region 1 with fail
  generalize w.alloc (.cells (v4a q A c A' c') 25) = X at *
  go_wp2_with (first
    | ((with_reducible show wpList _ _ _ (Oper.mk (some 9) (Op.load 25 _) _ _ _ _ :: _) _ _); refine wpList_val rfl (run_load_v4 rfl rfl at0 rfl) ?_)
    | (go_at_call 34; refine (c4check q A c A' c' _ (by omega) (by omega)).mono ?_; rintro e w1 ⟨rfl, x1⟩; rw [HC.out]; have z1 := Nat.lt_of_lt_of_le hz x1.size; have at1 := at0.below x1 hz)
    | ((with_reducible show wpList _ _ _ (Oper.mk (some 14) (Op.load 25 _) _ _ _ _ :: _) _ _); refine wpList_val rfl (run_load_v4 rfl rfl at1 rfl) ?_)
    | (go_at_call 35; refine (c4whole q A c A' c' _).mono ?_; rintro e w2 ⟨rfl, x2⟩; rw [HW.out]; have at2 := at1.below x2 z1; have k4 := at2.proto; have k5 := at2.src; have k6 := at2.dst; have k10 := at2.dat; have x02 := hB.trans ((x1.trans (x2.mono x1.size)).mono hB.size))
    | (go_at_call 36; refine (cUparse q.dat A' c' q.src q.dst w2 B (hD0.below ((x1.trans (x2.mono x1.size)).mono (Nat.le_trans hB0 hB.size))) (Nat.le_trans hB0 x02.size) (by omega)).mono ?_; rintro e w3 ⟨P, p, rfl, mdat⟩; rw [← HU.out] at mdat; rw [← HU.out, ← HE.out])
    | ((with_reducible show wpList _ _ _ (Oper.mk _ (Op.store 78 _ _) _ _ _ _ :: _) _ _); refine us_store_new (cs := usa u P p) rfl rfl rfl rfl (us_one _ _ _ ) ?_)
    | ((with_reducible show wpList _ _ _ (Oper.mk _ (Op.load 78 _) _ _ _ _ :: _) _ _); refine wpList_val rfl (run_load_us rfl rfl (Atus.new w3) rfl) ?_)
    | ((with_reducible show wpList _ _ _ (Oper.mk _ (Op.build 82 _) _ _ _ _ :: _) _ _); refine wpList_val rfl (run_build_dg rfl rfl rfl) ?_))
  go_ret2
  have j3 : Below w3.heap.size w3 (w3.alloc (.cells (usa u P p) 78)) := (Below.refl _ w3).alloc (Nat.le_refl _) _
  exact ⟨P, p, rfl, (mdat.after x02).later j3⟩
set_option maxRecDepth 100000 in
set_option maxHeartbeats 2000000 in
theorem cOpen6 (ho : q.opt.length ≤ 1000000) (hl : q.dat.length ≤ 900000) (B : Nat) (hD : Arg w B A' c' q.dat) (hB0 : B ≤ w.heap.size) (hc : chk4 q = 0) (hw : whole4 q = true) (hk : q.proto = 6) : Calls Try.prog 17 #[v4v q A c A' c'] w fun e w' =>
      ∃ P p P' p', e = .returned (.tuple #[.iface 84 (tsv (inT q) P p P' p'), .int .i64 (badT q.src q.dst q.dat)]) ∧ Made w w' (.slice P (inT q).opt.length p) (inT q).opt ∧ Made w w' (.slice P' (inT q).dat.length p') (inT q).dat := by
  have HC := Lib.hid hc
  have HW := Lib.hid hw
  obtain ⟨u, hu⟩ : ∃ x, x = inT q := ⟨_, rfl⟩
  obtain ⟨E, hE⟩ : ∃ x, x = badT q.src q.dst q.dat := ⟨_, rfl⟩
  have HU := Lib.hid (show u = prsT q.src q.dst q.dat from hu)
  have HE := Lib.hid hE
  rw [← hu, ← hE]
  have hD0 := hD.below (((Below.refl _ w).alloc (Nat.le_refl _) (.cells (v4a q A c A' c') 25)).mono hB0)
  have d17 : (q.proto == 17) = false := by simp; omega
  have d6 : (q.proto == 6) = true := by simpa using hk
  clear hc hw hk hu hE hD
  have hB : Below w.heap.size w (w.alloc (.cells (v4a q A c A' c') 25)) := (Below.refl _ w).alloc (Nat.le_refl _) _
  have at0 := At4.new (q := q) (A := A) (c := c) (A' := A') (c' := c') w
  have hz : w.heap.size < (w.alloc (.cells (v4a q A c A' c') 25)).heap.size := by simp
  rw [v4q_eq]
  go_enter Try.func17, Try.ntmps17
  go_upto_region 1 with fail
  generalize w.alloc (.cells (v4a q A c A' c') 25) = X at *
  go_wp2_with (first
    | ((with_reducible show wpList _ _ _ (Oper.mk (some 9) (Op.load 25 _) _ _ _ _ :: _) _ _); refine wpList_val rfl (run_load_v4 rfl rfl at0 rfl) ?_)
    | (go_at_call 34; refine (c4check q A c A' c' _ (by omega) (by omega)).mono ?_; rintro e w1 ⟨rfl, x1⟩; rw [HC.out]; have z1 := Nat.lt_of_lt_of_le hz x1.size; have at1 := at0.below x1 hz)
    | ((with_reducible show wpList _ _ _ (Oper.mk (some 14) (Op.load 25 _) _ _ _ _ :: _) _ _); refine wpList_val rfl (run_load_v4 rfl rfl at1 rfl) ?_)
    | (go_at_call 35; refine (c4whole q A c A' c' _).mono ?_; rintro e w2 ⟨rfl, x2⟩; rw [HW.out]; have at2 := at1.below x2 z1; have k4 := at2.proto; have k5 := at2.src; have k6 := at2.dst; have k10 := at2.dat; have x02 := hB.trans ((x1.trans (x2.mono x1.size)).mono hB.size))
    | (go_at_call 15; refine (cTparse q.dat A' c' q.src q.dst w2 B (hD0.below ((x1.trans (x2.mono x1.size)).mono (Nat.le_trans hB0 hB.size))) (Nat.le_trans hB0 x02.size) (by omega)).mono ?_; rintro e w3 ⟨P, p, P', p', rfl, mopt, mdat⟩; rw [← HU.out] at mopt mdat; rw [← HU.out, ← HE.out])
    | ((with_reducible show wpList _ _ _ (Oper.mk _ (Op.store 37 _ _) _ _ _ _ :: _) _ _); refine ts_store_new (cs := tsa u P p P' p') rfl rfl rfl rfl (ts_one _ _ _ _ _ ) ?_)
    | ((with_reducible show wpList _ _ _ (Oper.mk _ (Op.load 37 _) _ _ _ _ :: _) _ _); refine wpList_val rfl (run_load_ts rfl rfl (Atts.new w3) rfl) ?_)
    | ((with_reducible show wpList _ _ _ (Oper.mk _ (Op.build 84 _) _ _ _ _ :: _) _ _); refine wpList_val rfl (run_build_sg rfl rfl rfl) ?_))
  go_ret2
  have j3 : Below w3.heap.size w3 (w3.alloc (.cells (tsa u P p P' p') 37)) := (Below.refl _ w3).alloc (Nat.le_refl _) _
  exact ⟨P, p, P', p', rfl, (mopt.after x02).later j3, (mdat.after x02).later j3⟩
set_option maxRecDepth 100000 in
set_option maxHeartbeats 2000000 in
theorem cOpen1 (ho : q.opt.length ≤ 1000000) (hl : q.dat.length ≤ 900000) (B : Nat) (hD : Arg w B A' c' q.dat) (hB0 : B ≤ w.heap.size) (hc : chk4 q = 0) (hw : whole4 q = true) (hk : q.proto = 1) : Calls Try.prog 17 #[v4v q A c A' c'] w fun e w' =>
      ∃ v, e = .returned (.tuple #[v, .int .i64 (icE q.dat)]) ∧ Below w.heap.size w w' ∧ (icE q.dat ≠ 0 → v = .nilIface) ∧
      (icE q.dat = 0 → ∃ P p, v = .iface 108 (isv (inI q) P p) ∧ Made w w' (.slice P (inI q).dat.length p) (inI q).dat) := by
  have HC := Lib.hid hc
  have HW := Lib.hid hw
  have hD0 := hD.below (((Below.refl _ w).alloc (Nat.le_refl _) (.cells (v4a q A c A' c') 25)).mono hB0)
  have d17 : (q.proto == 17) = false := by simp; omega
  have d6 : (q.proto == 6) = false := by simp; omega
  have d1 : (q.proto == 1) = true := by simpa using hk
  clear hc hw hk hD
  have hB : Below w.heap.size w (w.alloc (.cells (v4a q A c A' c') 25)) := (Below.refl _ w).alloc (Nat.le_refl _) _
  have at0 := At4.new (q := q) (A := A) (c := c) (A' := A') (c' := c') w
  have hz : w.heap.size < (w.alloc (.cells (v4a q A c A' c') 25)).heap.size := by simp
  rw [v4q_eq]
  go_enter Try.func17, Try.ntmps17
  go_upto_region 1 with fail
  generalize w.alloc (.cells (v4a q A c A' c') 25) = X at *
  go_wp2_with (first
    | ((with_reducible show wpList _ _ _ (Oper.mk (some 9) (Op.load 25 _) _ _ _ _ :: _) _ _); refine wpList_val rfl (run_load_v4 rfl rfl at0 rfl) ?_)
    | (go_at_call 34; refine (c4check q A c A' c' _ (by omega) (by omega)).mono ?_; rintro e w1 ⟨rfl, x1⟩; rw [HC.out]; have z1 := Nat.lt_of_lt_of_le hz x1.size; have at1 := at0.below x1 hz)
    | ((with_reducible show wpList _ _ _ (Oper.mk (some 14) (Op.load 25 _) _ _ _ _ :: _) _ _); refine wpList_val rfl (run_load_v4 rfl rfl at1 rfl) ?_)
    | (go_at_call 35; refine (c4whole q A c A' c' _).mono ?_; rintro e w2 ⟨rfl, x2⟩; rw [HW.out]; have at2 := at1.below x2 z1; have k4 := at2.proto; have k5 := at2.src; have k6 := at2.dst; have k10 := at2.dat; have x02 := hB.trans ((x1.trans (x2.mono x1.size)).mono hB.size))
    | (go_at_call 37; refine (cOpenI q.dat A' c' w2 B (hD0.below ((x1.trans (x2.mono x1.size)).mono (Nat.le_trans hB0 hB.size))) (Nat.le_trans hB0 x02.size) (by omega)).mono ?_; rintro e w3 ⟨v, rfl, x3, n3, m3⟩))
  go_ret2
  exact ⟨v, rfl, x02.trans (x3.mono x02.size), n3, fun h => by { obtain ⟨P, p, hv, m⟩ := m3 h; exact ⟨P, p, hv, m.after x02⟩ }⟩
/-- What a packet has within: where ports are, a value of its kind. -/
def Opn (w w' : World) (v : Value) : Prop := Below w.heap.size w w' ∧
  (ofE q ≠ 0 → v = .nilIface ∨ (∃ u P p, v = .iface 82 (usv u P p)) ∨ ∃ t P p P' p', v = .iface 84 (tsv t P p P' p')) ∧
  (ofE q = 0 → q.proto = 17 → ∃ P p, v = .iface 82 (usv (inU q) P p) ∧ Made w w' (.slice P (inU q).dat.length p) (inU q).dat) ∧
  (ofE q = 0 → q.proto = 6 → ∃ P p P' p', v = .iface 84 (tsv (inT q) P p P' p') ∧ Made w w' (.slice P (inT q).opt.length p) (inT q).opt ∧ Made w w' (.slice P' (inT q).dat.length p') (inT q).dat) ∧
  (ofE q = 0 → q.proto = 1 → ∃ P p, v = .iface 108 (isv (inI q) P p) ∧ Made w w' (.slice P (inI q).dat.length p) (inI q).dat)
theorem cOpen (ho : q.opt.length ≤ 1000000) (hl : q.dat.length ≤ 900000) (B : Nat) (hD : Arg w B A' c' q.dat) (hB0 : B ≤ w.heap.size) : Calls Try.prog 17 #[v4v q A c A' c'] w fun e w' => ∃ v, e = .returned (.tuple #[v, .int .i64 (ofE q)]) ∧ Opn q w w' v := by
  by_cases hc : chk4 q = 0
  · by_cases hw : whole4 q = true
    · by_cases h17 : q.proto = 17
      · have he : ofE q = badU q.src q.dst q.dat := by rw [ofE, if_neg (by omega), if_neg (by rw [hw]; decide), if_pos h17]
        refine (cOpen17 q A c A' c' w ho hl B hD hB0 hc hw h17).mono ?_
        rintro e w' ⟨P, p, rfl, m⟩
        exact ⟨_, by rw [he], m.below, fun _ => .inr (.inl ⟨_, P, p, rfl⟩), fun _ _ => ⟨P, p, rfl, m⟩, fun _ h => by omega, fun _ h => by omega⟩
      · by_cases h6 : q.proto = 6
        · have he : ofE q = badT q.src q.dst q.dat := by rw [ofE, if_neg (by omega), if_neg (by rw [hw]; decide), if_neg h17, if_pos h6]
          refine (cOpen6 q A c A' c' w ho hl B hD hB0 hc hw h6).mono ?_
          rintro e w' ⟨P, p, P', p', rfl, m, m'⟩
          exact ⟨_, by rw [he], m.below, fun _ => .inr (.inr ⟨_, P, p, P', p', rfl⟩), fun _ h => by omega, fun _ _ => ⟨P, p, P', p', rfl, m, m'⟩, fun _ h => by omega⟩
        · by_cases h1 : q.proto = 1
          · have he : ofE q = icE q.dat := by rw [ofE, if_neg (by omega), if_neg (by rw [hw]; decide), if_neg h17, if_neg h6, if_pos h1]
            refine (cOpen1 q A c A' c' w ho hl B hD hB0 hc hw h1).mono ?_
            rintro e w' ⟨v, rfl, x, n, m⟩
            exact ⟨_, by rw [he], x, fun h => .inl (n (he ▸ h)), fun _ h => by omega, fun _ h => by omega, fun h _ => m (he ▸ h)⟩
          · have he : ofE q = 8 := by rw [ofE, if_neg (by omega), if_neg (by rw [hw]; decide), if_neg h17, if_neg h6, if_neg h1]
            refine (cOpenN q A c A' c' w ho hl hc hw h17 h6 h1).mono ?_
            rintro e w' ⟨rfl, x⟩
            exact ⟨_, by rw [he], x, fun _ => .inl rfl, fun _ h => by omega, fun _ h => by omega, fun _ h => by omega⟩
    · have hw : whole4 q = false := by simpa using hw
      have he : ofE q = 4 := by rw [ofE, if_neg (by omega), if_pos hw]
      refine (cOpenW q A c A' c' w ho hl hc hw).mono ?_
      rintro e w' ⟨rfl, x⟩
      exact ⟨_, by rw [he], x, fun _ => .inl rfl, fun h => by omega, fun h => by omega, fun h => by omega⟩
  · have he : ofE q = chk4 q := by rw [ofE, if_pos hc]
    refine (cOpenC q A c A' c' w ho hl hc).mono ?_
    rintro e w' ⟨rfl, x⟩
    exact ⟨_, by rw [he], x, fun _ => .inl rfl, fun h => by omega, fun h => by omega, fun h => by omega⟩
end
end Go.Proofs.Ytodlfdnegcfhcaa

/-
  A packet with something else within, built anew. Conditions are each theorem's own.
-/
namespace Go.Proofs.Ytodlfdnegcfhcaa
open Go.RowKit

/-- A packet with other data. -/
def datP (q : P4) (D : List UInt8) : P4 := ⟨q.tos, q.id, q.off, q.ttl, q.proto, q.src, q.dst, q.df, q.mf, q.opt, D⟩
theorem At4.of_heap {W : World} {g : Nat} {q : P4} {A : Option Addr} {c : Nat} {A' : Option Addr} {c' : Nat} {t : TypeId} {fr : Nat × Nat} (h : W.heap[g]? = some (.cells (v4a q A c A' c') t fr)) : At4 W g q A c A' c' := fun j v hj => by
  rw [cell_of_row W g (0 + j) _ _ _ h, Nat.zero_add, ← Array.getElem?_toList]; exact hj
end Go.Proofs.Ytodlfdnegcfhcaa

/-
  A packet's ports, and a segment's flags. Conditions are each theorem's own.
-/
namespace Go.Proofs.Ytodlfdnegcfhcaa
open Go.RowKit

/-- What is told of ports. -/
def prA (k a b : Int) : Array Value := #[.int .i64 k, .int .i64 a, .int .i64 b]
theorem prA_one (k a b : Int) : (prA k a b).all (·.oneCell') = true := by simp [prA, Value.oneCell']
def ofV (q : P4) : Array Value := if ofE q = 0 then prA q.proto (ptS q) (ptD q) else prA 0 0 0
theorem pr_store {ops : Array Oper} {rest : List Oper} {x y : Operand} {ty : TypeId} {pos : String} {af : Array Edge} {a : Act} {w : World} {Q : Exit → Act → World → Prop}
    {g : Nat} {t : TypeId} {cs old : Array Value} (hx : a.eval x = .pointer (some ⟨g, 0, none⟩)) (hy : a.eval y = .agg cs) (hg : w.heap[g]? = some (.cells old t (0, 0))) (ho : old.size = 3) (hl : cs.size = 3) (h1 : cs.all (·.oneCell') = true)
    (h : wpList Try.prog ops Q rest (a.put none undef) (w.setRow g cs)) : wpList Try.prog ops Q (⟨none, .store 31 x y, ty, pos, af, none⟩ :: rest) a w :=
  wpList_plain rfl fun _ hK => wp_store_row 31 x y rfl g cs hx hy t old hg (by rw [hl]; kernel_rfl) (by rw [ho, hl]) h1 (hK _ _ h)
theorem pr_load_run {w : World} {g : Nat} {t : TypeId} {cs : Array Value} {fr : Nat × Nat} (hg : w.heap[g]? = some (.cells cs t fr)) (hl : cs.size = 3) : (loadVar 31 ⟨g, 0, none⟩).run Try.prog w = .ok (.agg cs) w :=
  run_loadVar_row w g t 31 cs fr _ hg Try.underlying31 rfl (by rw [hl]; kernel_rfl)
section
variable (q : P4) (A : Option Addr) (c : Nat) (A' : Option Addr) (c' : Nat) (w : World)
set_option maxRecDepth 100000 in
set_option maxHeartbeats 2000000 in
theorem cOfE (ho : q.opt.length ≤ 1000000) (hl : q.dat.length ≤ 900000) (B : Nat) (hD : Arg w B A' c' q.dat) (hB0 : B ≤ w.heap.size) (he : ofE q ≠ 0) : Calls Try.prog 8 #[v4v q A c A' c'] w fun e w' => e = .returned (.tuple #[.agg (prA 0 0 0), .int .i64 (ofE q)]) ∧ Below w.heap.size w w' := by
  obtain ⟨E, hE⟩ : ∃ n, n = ofE q := ⟨_, rfl⟩
  have HE := Lib.hid hE
  have dE : (E != 0) = true := by simpa [hE] using he
  rw [← hE]
  clear he hE
  have hB : Below w.heap.size w ((w.alloc (.cells (v4a q A c A' c') 25)).alloc (.cells (prA 0 0 0) 31)) := below_two w _ _
  have hU0 : ((w.alloc (.cells (v4a q A c A' c') 25)).alloc (.cells (prA 0 0 0) 31)).heap[w.heap.size]? = some (.cells (v4a q A c A' c') 25 (0, 0)) := (Below.heap_alloc (w.alloc (.cells (v4a q A c A' c') 25)) _ w.heap.size (by simp)).trans (World.alloc_heap_new w _)
  have hR0 : ((w.alloc (.cells (v4a q A c A' c') 25)).alloc (.cells (prA 0 0 0) 31)).heap[w.heap.size + 1]? = some (.cells (prA 0 0 0) 31 (0, 0)) := by
    have := World.alloc_heap_new (w.alloc (.cells (v4a q A c A' c') 25)) (.cells (prA 0 0 0) 31)
    rwa [World.size_alloc] at this
  rw [v4q_eq]
  go_enter Try.func8, Try.ntmps8
  go_upto_region 1 with fail
  rw [show #[Value.int .i64 0, .int .i64 0, .int .i64 0] = prA 0 0 0 from rfl]
  generalize (w.alloc (.cells (v4a q A c A' c') 25)).alloc (.cells (prA 0 0 0) 31) = W at *
  have at0 := At4.of_heap hU0
  have hD0 := hD.below (hB.mono hB0)
  go_wp2_with (first
    | ((with_reducible show wpList _ _ _ (Oper.mk _ (Op.load 25 _) _ _ _ _ :: _) _ _); refine wpList_val rfl (run_load_v4 rfl rfl at0 rfl) ?_)
    | (go_at_call 17; refine (cOpen q A c A' c' W ho hl B hD0 (Nat.le_trans hB0 hB.size)).mono ?_; rintro e w1 ⟨v, rfl, hOp⟩; rw [← HE.out]; have x1 := hOp.1; have hR1 := (x1.block (w.heap.size + 1) (heap_lt hR0)).trans hR0)
    | ((with_reducible show wpList _ _ _ (Oper.mk _ (Op.store 31 _ _) _ _ _ _ :: _) _ _); refine pr_store (g := w.heap.size + 1) (cs := prA 0 0 0) rfl rfl hR1 rfl rfl (prA_one _ _ _) ?_))
  exact bodyPost_ret (res2 rfl rfl (pr_load_run (setRow_heap _ _ _ _ _ _ hR1) rfl)) rfl ⟨rfl, below_row (hB.trans (x1.mono hB.size)) (by omega)⟩
set_option maxRecDepth 100000 in
set_option maxHeartbeats 2000000 in
theorem cOf17 (ho : q.opt.length ≤ 1000000) (hl : q.dat.length ≤ 900000) (B : Nat) (hD : Arg w B A' c' q.dat) (hB0 : B ≤ w.heap.size) (he : ofE q = 0) (hk : q.proto = 17) : Calls Try.prog 8 #[v4v q A c A' c'] w fun e w' => e = .returned (.tuple #[.agg (prA q.proto (inU q).src (inU q).dst), .int .i64 0]) ∧ Below w.heap.size w w' := by
  have HE := Lib.hid he
  have HK := Lib.hid hk
  clear he hk
  have hB : Below w.heap.size w ((w.alloc (.cells (v4a q A c A' c') 25)).alloc (.cells (prA 0 0 0) 31)) := below_two w _ _
  have hU0 : ((w.alloc (.cells (v4a q A c A' c') 25)).alloc (.cells (prA 0 0 0) 31)).heap[w.heap.size]? = some (.cells (v4a q A c A' c') 25 (0, 0)) := (Below.heap_alloc (w.alloc (.cells (v4a q A c A' c') 25)) _ w.heap.size (by simp)).trans (World.alloc_heap_new w _)
  have hR0 : ((w.alloc (.cells (v4a q A c A' c') 25)).alloc (.cells (prA 0 0 0) 31)).heap[w.heap.size + 1]? = some (.cells (prA 0 0 0) 31 (0, 0)) := by
    have := World.alloc_heap_new (w.alloc (.cells (v4a q A c A' c') 25)) (.cells (prA 0 0 0) 31)
    rwa [World.size_alloc] at this
  rw [v4q_eq]
  go_enter Try.func8, Try.ntmps8
  go_upto_region 1 with fail
  rw [show #[Value.int .i64 0, .int .i64 0, .int .i64 0] = prA 0 0 0 from rfl]
  generalize (w.alloc (.cells (v4a q A c A' c') 25)).alloc (.cells (prA 0 0 0) 31) = W at *
  have at0 := At4.of_heap hU0
  have hD0 := hD.below (hB.mono hB0)
  go_wp2_with (first
    | ((with_reducible show wpList _ _ _ (Oper.mk _ (Op.load 25 _) _ _ _ _ :: _) _ _); refine wpList_val rfl (run_load_v4 rfl rfl at0 rfl) ?_)
    | (go_at_call 17; refine (cOpen q A c A' c' W ho hl B hD0 (Nat.le_trans hB0 hB.size)).mono ?_; rintro e w1 ⟨v, rfl, hOp⟩; rw [HE.out]; have x1 := hOp.1; obtain ⟨P, p, rfl, m1⟩ := hOp.2.2.1 HE.out HK.out; have hR1 := (x1.block (w.heap.size + 1) (heap_lt hR0)).trans hR0; have hU1 := (x1.block w.heap.size (heap_lt hU0)).trans hU0)
    | (go_at_call 97; refine (cDports (inU q) P p _).mono ?_; rintro e w2 ⟨rfl, x2⟩; have hR2 := (x2.block (w.heap.size + 1) (heap_lt hR1)).trans hR1; have hU2 := (x2.block w.heap.size (heap_lt hU1)).trans hU1; have k4 := (At4.of_heap hU2).proto)
    | ((with_reducible show wpList _ _ _ (Oper.mk _ (Op.store 31 _ _) _ _ _ _ :: _) _ _); refine pr_store (g := w.heap.size + 1) (cs := prA q.proto (inU q).src (inU q).dst) rfl rfl hR2 rfl rfl (prA_one _ _ _) ?_))
  exact bodyPost_ret (res2 rfl rfl (pr_load_run (setRow_heap _ _ _ _ _ _ hR2) rfl)) rfl ⟨rfl, below_row (hB.trans ((x1.trans (x2.mono x1.size)).mono hB.size)) (by omega)⟩
set_option maxRecDepth 100000 in
set_option maxHeartbeats 2000000 in
theorem cOf6 (ho : q.opt.length ≤ 1000000) (hl : q.dat.length ≤ 900000) (B : Nat) (hD : Arg w B A' c' q.dat) (hB0 : B ≤ w.heap.size) (he : ofE q = 0) (hk : q.proto = 6) : Calls Try.prog 8 #[v4v q A c A' c'] w fun e w' => e = .returned (.tuple #[.agg (prA q.proto (inT q).src (inT q).dst), .int .i64 0]) ∧ Below w.heap.size w w' := by
  have HE := Lib.hid he
  have HK := Lib.hid hk
  clear he hk
  have hB : Below w.heap.size w ((w.alloc (.cells (v4a q A c A' c') 25)).alloc (.cells (prA 0 0 0) 31)) := below_two w _ _
  have hU0 : ((w.alloc (.cells (v4a q A c A' c') 25)).alloc (.cells (prA 0 0 0) 31)).heap[w.heap.size]? = some (.cells (v4a q A c A' c') 25 (0, 0)) := (Below.heap_alloc (w.alloc (.cells (v4a q A c A' c') 25)) _ w.heap.size (by simp)).trans (World.alloc_heap_new w _)
  have hR0 : ((w.alloc (.cells (v4a q A c A' c') 25)).alloc (.cells (prA 0 0 0) 31)).heap[w.heap.size + 1]? = some (.cells (prA 0 0 0) 31 (0, 0)) := by
    have := World.alloc_heap_new (w.alloc (.cells (v4a q A c A' c') 25)) (.cells (prA 0 0 0) 31)
    rwa [World.size_alloc] at this
  rw [v4q_eq]
  go_enter Try.func8, Try.ntmps8
  go_upto_region 1 with fail
  rw [show #[Value.int .i64 0, .int .i64 0, .int .i64 0] = prA 0 0 0 from rfl]
  generalize (w.alloc (.cells (v4a q A c A' c') 25)).alloc (.cells (prA 0 0 0) 31) = W at *
  have at0 := At4.of_heap hU0
  have hD0 := hD.below (hB.mono hB0)
  go_wp2_with (first
    | ((with_reducible show wpList _ _ _ (Oper.mk _ (Op.load 25 _) _ _ _ _ :: _) _ _); refine wpList_val rfl (run_load_v4 rfl rfl at0 rfl) ?_)
    | (go_at_call 17; refine (cOpen q A c A' c' W ho hl B hD0 (Nat.le_trans hB0 hB.size)).mono ?_; rintro e w1 ⟨v, rfl, hOp⟩; rw [HE.out]; have x1 := hOp.1; obtain ⟨P, p, P', p', rfl, m1, m1'⟩ := hOp.2.2.2.1 HE.out HK.out; have hR1 := (x1.block (w.heap.size + 1) (heap_lt hR0)).trans hR0; have hU1 := (x1.block w.heap.size (heap_lt hU0)).trans hU0)
    | (go_at_call 101; refine (cSports (inT q) P p P' p' _).mono ?_; rintro e w2 ⟨rfl, x2⟩; have hR2 := (x2.block (w.heap.size + 1) (heap_lt hR1)).trans hR1; have hU2 := (x2.block w.heap.size (heap_lt hU1)).trans hU1; have k4 := (At4.of_heap hU2).proto)
    | ((with_reducible show wpList _ _ _ (Oper.mk _ (Op.store 31 _ _) _ _ _ _ :: _) _ _); refine pr_store (g := w.heap.size + 1) (cs := prA q.proto (inT q).src (inT q).dst) rfl rfl hR2 rfl rfl (prA_one _ _ _) ?_))
  exact bodyPost_ret (res2 rfl rfl (pr_load_run (setRow_heap _ _ _ _ _ _ hR2) rfl)) rfl ⟨rfl, below_row (hB.trans ((x1.trans (x2.mono x1.size)).mono hB.size)) (by omega)⟩
set_option maxRecDepth 100000 in
set_option maxHeartbeats 2000000 in
theorem cOf1 (ho : q.opt.length ≤ 1000000) (hl : q.dat.length ≤ 900000) (B : Nat) (hD : Arg w B A' c' q.dat) (hB0 : B ≤ w.heap.size) (he : ofE q = 0) (hk : q.proto = 1) : Calls Try.prog 8 #[v4v q A c A' c'] w fun e w' => e = .returned (.tuple #[.agg (prA q.proto (idI (inI q)) (idI (inI q))), .int .i64 0]) ∧ Below w.heap.size w w' := by
  have HE := Lib.hid he
  have HK := Lib.hid hk
  clear he hk
  have hB : Below w.heap.size w ((w.alloc (.cells (v4a q A c A' c') 25)).alloc (.cells (prA 0 0 0) 31)) := below_two w _ _
  have hU0 : ((w.alloc (.cells (v4a q A c A' c') 25)).alloc (.cells (prA 0 0 0) 31)).heap[w.heap.size]? = some (.cells (v4a q A c A' c') 25 (0, 0)) := (Below.heap_alloc (w.alloc (.cells (v4a q A c A' c') 25)) _ w.heap.size (by simp)).trans (World.alloc_heap_new w _)
  have hR0 : ((w.alloc (.cells (v4a q A c A' c') 25)).alloc (.cells (prA 0 0 0) 31)).heap[w.heap.size + 1]? = some (.cells (prA 0 0 0) 31 (0, 0)) := by
    have := World.alloc_heap_new (w.alloc (.cells (v4a q A c A' c') 25)) (.cells (prA 0 0 0) 31)
    rwa [World.size_alloc] at this
  rw [v4q_eq]
  go_enter Try.func8, Try.ntmps8
  go_upto_region 1 with fail
  rw [show #[Value.int .i64 0, .int .i64 0, .int .i64 0] = prA 0 0 0 from rfl]
  generalize (w.alloc (.cells (v4a q A c A' c') 25)).alloc (.cells (prA 0 0 0) 31) = W at *
  have at0 := At4.of_heap hU0
  have hD0 := hD.below (hB.mono hB0)
  go_wp2_with (first
    | ((with_reducible show wpList _ _ _ (Oper.mk _ (Op.load 25 _) _ _ _ _ :: _) _ _); refine wpList_val rfl (run_load_v4 rfl rfl at0 rfl) ?_)
    | (go_at_call 17; refine (cOpen q A c A' c' W ho hl B hD0 (Nat.le_trans hB0 hB.size)).mono ?_; rintro e w1 ⟨v, rfl, hOp⟩; rw [HE.out]; have x1 := hOp.1; obtain ⟨P, p, rfl, m1⟩ := hOp.2.2.2.2 HE.out HK.out; have hR1 := (x1.block (w.heap.size + 1) (heap_lt hR0)).trans hR0; have hU1 := (x1.block w.heap.size (heap_lt hU0)).trans hU0)
    | (go_at_call 105; refine (cQports (inI q) P p _).mono ?_; rintro e w2 ⟨rfl, x2⟩; have hR2 := (x2.block (w.heap.size + 1) (heap_lt hR1)).trans hR1; have hU2 := (x2.block w.heap.size (heap_lt hU1)).trans hU1; have k4 := (At4.of_heap hU2).proto)
    | ((with_reducible show wpList _ _ _ (Oper.mk _ (Op.store 31 _ _) _ _ _ _ :: _) _ _); refine pr_store (g := w.heap.size + 1) (cs := prA q.proto (idI (inI q)) (idI (inI q))) rfl rfl hR2 rfl rfl (prA_one _ _ _) ?_))
  exact bodyPost_ret (res2 rfl rfl (pr_load_run (setRow_heap _ _ _ _ _ _ hR2) rfl)) rfl ⟨rfl, below_row (hB.trans ((x1.trans (x2.mono x1.size)).mono hB.size)) (by omega)⟩
theorem cOf (ho : q.opt.length ≤ 1000000) (hl : q.dat.length ≤ 900000) (B : Nat) (hD : Arg w B A' c' q.dat) (hB0 : B ≤ w.heap.size) : Calls Try.prog 8 #[v4v q A c A' c'] w fun e w' => e = .returned (.tuple #[.agg (ofV q), .int .i64 (ofE q)]) ∧ Below w.heap.size w w' := by
  by_cases he : ofE q = 0
  · obtain ⟨_, _, h⟩ := of_ok he
    rw [ofV, if_pos he, he, ptS, ptD]
    rcases h with ⟨hk, _⟩ | ⟨hk, _⟩ | ⟨hk, _⟩
    · rw [if_pos hk, if_pos hk]; exact cOf17 q A c A' c' w ho hl B hD hB0 he hk
    · rw [if_neg (by omega), if_pos hk, if_neg (by omega), if_pos hk]; exact cOf6 q A c A' c' w ho hl B hD hB0 he hk
    · rw [if_neg (by omega), if_neg (by omega), if_neg (by omega), if_neg (by omega)]; exact cOf1 q A c A' c' w ho hl B hD hB0 he hk
  · rw [ofV, if_neg he]; exact cOfE q A c A' c' w ho hl B hD hB0 he
end
end Go.Proofs.Ytodlfdnegcfhcaa

/-
  A segment's flags. Conditions are each theorem's own.
-/
namespace Go.Proofs.Ytodlfdnegcfhcaa
open Go.RowKit

theorem run_assert {o : Oper} {a : Act} {w : World} {x : Operand} {v r : Value} (ho : o.op = .typeAssert x 51 84 true) (hx : a.eval x = v) (h : (Instr.typeAssert v 51 84 true).run Try.prog w = .ok r w) :
    (execOp a.eval o).run Try.prog w = .ok (.value r) w := by
  unfold execOp
  simp only [ho, hx, Sem.run_bind, h]
  rfl
theorem assert_nil (w : World) : (Instr.typeAssert .nilIface 51 84 true).run Try.prog w = .ok (.tuple #[.agg (tsa tsz none 0 none 0), .bool false]) w := by kernel_rfl
theorem assert_dg (v : Value) (w : World) : (Instr.typeAssert (.iface 82 v) 51 84 true).run Try.prog w = .ok (.tuple #[.agg (tsa tsz none 0 none 0), .bool false]) w := by kernel_rfl
theorem assert_qy (v : Value) (w : World) : (Instr.typeAssert (.iface 108 v) 51 84 true).run Try.prog w = .ok (.tuple #[.agg (tsa tsz none 0 none 0), .bool false]) w := by kernel_rfl
theorem assert_sg (v : Value) (w : World) : (Instr.typeAssert (.iface 84 v) 51 84 true).run Try.prog w = .ok (.tuple #[v, .bool true]) w := by kernel_rfl
theorem sg_store_new {ops : Array Oper} {rest : List Oper} {x y : Operand} {ty : TypeId} {pos : String} {af : Array Edge} {a : Act} {w : World} {Q : Exit → Act → World → Prop}
    {t : TypeId} {cs old : Array Value} (hx : a.eval x = .pointer (some ⟨w.heap.size, 0, none⟩)) (hy : a.eval y = .agg cs) (ho : old.size = 10) (hl : cs.size = 10) (h1 : cs.all (·.oneCell') = true)
    (h : wpList Try.prog ops Q rest (a.put none undef) (w.alloc (.cells cs t))) : wpList Try.prog ops Q (⟨none, .store 84 x y, ty, pos, af, none⟩ :: rest) a (w.alloc (.cells old t)) :=
  wpList_plain rfl fun _ hK => wp_store_row 84 x y rfl w.heap.size cs hx hy t old (World.alloc_heap_new w _) (by rw [hl]; kernel_rfl) (by rw [ho, hl]) h1 (hK _ _ (by rw [World.setRow_alloc_new]; exact h))
section
variable (q : P4) (A : Option Addr) (c : Nat) (A' : Option Addr) (c' : Nat) (w : World)
end
end Go.Proofs.Ytodlfdnegcfhcaa

/-
  Two bytes stored into a row of one's own; how great a greatest size is. Conditions are each theorem's own.
-/
namespace Go.Proofs.Ytodlfdnegcfhcaa
open Go.RowKit

theorem own_cell {w : World} {base g c i : Nat} {bs : List UInt8} (h : w.ownsRow base 5 1 (.slice (some ⟨g, 0, none⟩) bs.length c) bs.length (row bs)) (hi : i < bs.length) : w.cell? ⟨g, i, none⟩ = some (.int .u8 (byt bs i)) ∧ w.frozen? ⟨g, i, none⟩ = false ∧ base ≤ g ∧ g < w.heap.size ∧ bs.length ≤ c := by
  rcases h.2 with ⟨h0, _⟩ | ⟨k, cap, cur, hv, hb, hh, hle, _, hs, ht⟩
  · cases h0
  · cases hv
    have e := cell_of_row w g i cur _ _ hh
    have h1 : (List.take (bs.length * 1) cur.toList)[i]? = some (.int .u8 (byt bs i)) := by rw [ht]; exact row_get bs hi
    rw [List.getElem?_take, if_pos (by omega)] at h1
    exact ⟨by rw [e]; simpa using h1, heap_frozen hh i, hb, heap_lt hh, hle⟩
theorem own_put {w : World} {base g c i : Nat} {bs : List UInt8} {n : Int} (h : w.ownsRow base 5 1 (.slice (some ⟨g, 0, none⟩) bs.length c) bs.length (row bs)) : (w.setCell ⟨g, i, none⟩ (.int .u8 (n % 256))).ownsRow base 5 1 (.slice (some ⟨g, 0, none⟩) bs.length c) bs.length (row (bs.set i (u8 n))) := by
  rcases h.2 with ⟨h0, _⟩ | ⟨k, cap, cur, hv, hb, hh, hle, hm, hs, ht⟩
  · cases h0
  · cases hv
    refine ⟨by rw [row_length]; simp, .inr ⟨g, c, cur.setIfInBounds i (.int .u8 (n % 256)), rfl, hb, heap_set hh i _, hle, hm, by simp [hs], ?_⟩⟩
    rw [Array.toList_setIfInBounds, List.take_set, ht, ← u8_val, row_setb]
theorem own_some {w : World} {base c : Nat} {A : Option Addr} {bs : List UInt8} (h : w.ownsRow base 5 1 (.slice A bs.length c) bs.length (row bs)) (hl : 0 < bs.length) : ∃ g, A = some ⟨g, 0, none⟩ := by
  rcases h.2 with ⟨_, h0⟩ | ⟨k, cap, cur, hv, _⟩
  · omega
  · injection hv with h1; exact ⟨k, h1⟩
set_option maxRecDepth 100000 in
set_option maxHeartbeats 1000000 in
theorem cput (g off l c : Nat) (m : Int) (w : World) (v0 v1 : Value) (h0 : w.cell? ⟨g, off, none⟩ = some v0) (h1 : w.cell? ⟨g, off + 1, none⟩ = some v1) (f0 : w.frozen? ⟨g, off, none⟩ = false) (f1 : w.frozen? ⟨g, off + 1, none⟩ = false) (hl : 2 ≤ l) :
    Calls Try.prog 20 #[.slice (some ⟨g, off, none⟩) l c, .int .i64 m] w fun e w' => e = .returned (.tuple #[]) ∧ w' = (w.setCell ⟨g, off, none⟩ (.int .u8 (m / 256 % 256))).setCell ⟨g, off + 1, none⟩ (.int .u8 (m % 256)) := by
  go_enter Try.func20, Try.ntmps20
  go_wp2_with fail
  go_end0
  exact ⟨rfl, rfl⟩
def mostV (n : Int) : Int := max (min (max n 0) 65575 - 40) 536
set_option maxRecDepth 100000 in
set_option maxHeartbeats 1000000 in
theorem c12most (n : Int) (w : World) : Calls Try.prog 12 #[.int .i64 n] w fun e w' => e = .returned (.int .i64 (mostV n)) ∧ w = w' := by
  have H := Lib.hid (show min (max n 576) 65575 - 40 = mostV n by unfold mostV; omega)
  go_enter Try.func12, Try.ntmps12
  go_wp2_with fail
  go_ret
  exact ⟨by rw [← H.out]; rfl, rfl⟩
end Go.Proofs.Ytodlfdnegcfhcaa

/-
  A segment whose greatest size is held. Conditions are each theorem's own.
-/
namespace Go.Proofs.Ytodlfdnegcfhcaa
open Go.RowKit

theorem wp_val {o : Oper} {a : Act} {w : World} {K : Act → World → Prop} {Q : Exit → Act → World → Prop} {v : Value} (hrun : (execOp a.eval o).run Try.prog w = .ok (.value v) w) (h : K (a.put o.dst v) w) : o.wp Try.prog a w K Q := by
  unfold Oper.wp; rw [hrun]; exact h
theorem tsa_opt (q : PT) (l : List UInt8) (O : Option Addr) (o : Nat) (D : Option Addr) (d : Nat) (h : l.length = q.opt.length) : tsa ⟨q.src, q.dst, q.seq, q.ack, q.res, q.flags, q.win, q.urg, l, q.dat⟩ O o D d = tsa q O o D d := by
  simp [tsa, h]
theorem sgT_no {q : PT} {n : Int} (h : ¬ sgC q.flags q.opt n) : sgT q n = q := by rw [sgT, sgO, if_neg h]
theorem sgT_yes {q : PT} {n : Int} (h : sgC q.flags q.opt n) : sgT q n = ⟨q.src, q.dst, q.seq, q.ack, q.res, q.flags, q.win, q.urg, setO q.opt (mssA q.opt).toNat n, q.dat⟩ := by rw [sgT, sgO, if_pos h]
section
variable (q : PT) (A : Option Addr) (c : Nat) (A' : Option Addr) (c' : Nat) (w : World)
set_option maxRecDepth 100000 in
set_option maxHeartbeats 4000000 in
theorem c12seg (ho : q.opt.length ≤ 1000000) (hl : q.dat.length ≤ 1000000) (B : Nat) (hO : Arg w B A c q.opt) (hD : Arg w B A' c' q.dat) (hB0 : B ≤ w.heap.size) (n : Int) : Calls Try.prog 11 #[tsv q A c A' c', .int .i64 n] w fun e w' => ∃ P p P' p', e = .returned (tsv (sgT q n) P p P' p') ∧ Made w w' (.slice P (sgT q n).opt.length p) (sgT q n).opt ∧ Made w w' (.slice P' (sgT q n).dat.length p') (sgT q n).dat := by
  rw [tsv_eq]
  have hB : Below w.heap.size w ((w.alloc (.cells (tsa q A c A' c') 37)).alloc (.cells (tsa tsz none 0 none 0) 37)) := below_two w _ _
  have hP0 : ((w.alloc (.cells (tsa q A c A' c') 37)).alloc (.cells (tsa tsz none 0 none 0) 37)).heap[w.heap.size]? = some (.cells (tsa q A c A' c') 37 (0, 0)) := (Below.heap_alloc (w.alloc (.cells (tsa q A c A' c') 37)) _ w.heap.size (by simp)).trans (World.alloc_heap_new w _)
  have hR0 : ((w.alloc (.cells (tsa q A c A' c') 37)).alloc (.cells (tsa tsz none 0 none 0) 37)).heap[w.heap.size + 1]? = some (.cells (tsa tsz none 0 none 0) 37 (0, 0)) := by
    have := World.alloc_heap_new (w.alloc (.cells (tsa q A c A' c') 37)) (.cells (tsa tsz none 0 none 0) 37)
    rwa [World.size_alloc] at this
  go_enter Try.func11, Try.ntmps11
  go_upto_region 1 with fail
  rw [show #[.int .i64 0, .int .i64 0, .int .i64 0, .int .i64 0, .int .i64 0, .int .i64 0, .int .i64 0, .int .i64 0, .slice none 0 0, .slice none 0 0] = tsa tsz none 0 none 0 from rfl]
  generalize (w.alloc (.cells (tsa q A c A' c') 37)).alloc (.cells (tsa tsz none 0 none 0) 37) = W at *
  have hO1 := hO.below (hB.mono hB0)
  have hD1 := hD.below (hB.mono hB0)
  have zW := Nat.le_trans hB0 hB.size
  have zP := heap_lt hP0
  have zR := heap_lt hR0
  have kO0 := (Atts.of_heap hP0).opt
  have kD0 := (Atts.of_heap hP0).dat
  refine wp_region_held_drew (S := fun _ => True) (by kernel_rfl) trivial (fun hS => ?_)
  refine held_pure (i := 0) (oi := ⟨some 8, _, _, _, _, _⟩) rfl (by kernel_rfl) (by kernel_rfl) (by kernel_rfl) (fun _ _ _ h => h) (by rfl) (v := ?_) (fun w hSw => ?_) hS (fun hS => ?_)
  rotate_left
  · go_simp; try with_reducible rfl
  try go_frame
  refine held_pure (i := 3) (oi := ⟨some 11, _, _, _, _, _⟩) rfl (by kernel_rfl) (by kernel_rfl) (by kernel_rfl) (fun _ _ _ h => h) (by rfl) (v := ?_) (fun w hSw => ?_) hS (fun hS => ?_)
  rotate_left
  · go_simp; try with_reducible rfl
  try go_frame
  refine wpAnyH_ready (rs := [1, 4]) (by kernel_rfl) (by simp) (AllReadyH.cons (o := ⟨some 9, _, _, _, _, _⟩) rfl (fun K hK => ?_) (AllReadyH.cons (o := ⟨some 12, _, _, _, _, _⟩) rfl (fun K hK => ?_) AllReadyH.nil))
  · rw [if_pos (by rfl)]
    refine wp_val (v := .slice A q.opt.length c) (by first | exact run_load_sl rfl rfl kO0) ?_
    refine hK.out _ _ trivial (fun hS => ?_)
    clear hK K
    try go_frame
    refine wpAnyH_ready (rs := [2, 4]) (by kernel_rfl) (by simp) (AllReadyH.cons (o := ⟨some 10, _, _, _, _, _⟩) rfl (fun K hK => ?_) (AllReadyH.cons (o := ⟨some 12, _, _, _, _, _⟩) rfl (fun K hK => ?_) AllReadyH.nil))
    · rw [if_pos (by rfl)]
      go_simp
      refine (clone_any A q.opt c B _ (hO1.below (Below.refl _ W).drew) zW (by omega)).mono ?_
      rintro e w2 ⟨v2, rfl, m2⟩
      obtain ⟨O, o, rfl, g2, o2, y2⟩ := made_shape m2
      clear m2 g2
      have o2 : w2.ownsRow W.heap.size 5 1 (.slice O q.opt.length o) q.opt.length (row q.opt) := o2
      have x2 : Below W.heap.size W w2 := (Below.refl _ W).drew.trans y2
      have hP2 := (x2.block w.heap.size zP).trans hP0
      have hR2 := (x2.block (w.heap.size + 1) zR).trans hR0
      have kD2 := (Atts.of_heap hP2).dat
      have hD2 := hD1.below (x2.mono zW)
      have hgO : ∀ g, O = some ⟨g, 0, none⟩ → 0 < q.opt.length → g < w2.heap.size := fun g e hl => by { subst e; exact (own_cell o2 (i := 0) hl).2.2.2.1 }
      show K _ _
      refine hK.out _ _ trivial (fun hS => ?_)
      clear hK K
      try go_frame
      refine wpAnyH_ready (rs := [4]) (by kernel_rfl) (by simp) (AllReadyH.cons (o := ⟨some 12, _, _, _, _, _⟩) rfl (fun K hK => ?_) AllReadyH.nil)
      rw [if_pos (by rfl)]
      refine wp_val (v := .slice A' q.dat.length c') (by first | exact run_load_sl rfl rfl kD0 | exact run_load_sl rfl rfl kD2) ?_
      refine hK.out _ _ trivial (fun hS => ?_)
      clear hK K
      try go_frame
      refine held_pure (i := 6) (oi := ⟨some 14, _, _, _, _, _⟩) rfl (by kernel_rfl) (by kernel_rfl) (by kernel_rfl) (fun _ _ _ h => h) (by rfl) (v := ?_) (fun w hSw => ?_) hS (fun hS => ?_)
      rotate_left
      · go_simp; try with_reducible rfl
      try go_frame
      refine wpAnyH_ready (rs := [5]) (by kernel_rfl) (by simp) (AllReadyH.cons (o := ⟨some 13, _, _, _, _, _⟩) rfl (fun K hK => ?_) AllReadyH.nil)
      rw [if_pos (by rfl)]
      go_simp
      refine (clone_any A' q.dat c' B _ hD2 (Nat.le_trans zW x2.size) (by omega)).mono ?_
      rintro e w3 ⟨v3, rfl, m3⟩
      obtain ⟨D, d, rfl, g3, o3, y3⟩ := made_shape m3
      clear m3 g3
      have hP3 := (y3.block w.heap.size (heap_lt hP2)).trans hP2
      have hR3 := (y3.block (w.heap.size + 1) (heap_lt hR2)).trans hR2
      have oO3 := own_below o2 y3
      have kO3 := (Atts.of_heap hP3).opt
      have fO3 := heap_frozen hP3 8
      have x3 := x2.trans (y3.mono x2.size)
      have zx2 := x2.size
      show K _ _
      refine hK.out _ _ trivial (fun hS => ?_)
      clear hK K
      try go_frame
      refine wpAnyH_ready (rs := [7]) (by kernel_rfl) (by simp) (AllReadyH.cons (o := ⟨none, _, _, _, _, _⟩) rfl (fun K hK => ?_) AllReadyH.nil)
      rw [if_pos (by rfl)]
      refine store_sl_wp rfl rfl rfl kO3 fO3 ?_
      have hP4 : (w3.setCell ⟨w.heap.size, 8, none⟩ (.slice O q.opt.length o)).heap[w.heap.size]? = some (.cells (tsa q O o A' c') 37 (0, 0)) := heap_setCell_same w3 w.heap.size 8 _ _ (.slice O q.opt.length o) hP3
      have hR4 := (heap_setCell_other w3 ⟨w.heap.size, 8, none⟩ (w.heap.size + 1) (.slice O q.opt.length o) (by show w.heap.size + 1 ≠ w.heap.size; omega)).trans hR3
      have kD4 := (Atts.of_heap hP4).dat
      have fD4 := heap_frozen hP4 9
      have oO4 := own_setCell oO3 (p := ⟨w.heap.size, 8, none⟩) (u := .slice O q.opt.length o) zP
      have oD4 := own_setCell o3 (p := ⟨w.heap.size, 8, none⟩) (u := .slice O q.opt.length o) (Nat.lt_of_lt_of_le zP zx2)
      have b4 := (hB.trans (x3.mono hB.size)).setCell (p := ⟨w.heap.size, 8, none⟩) (Nat.le_refl _) (.slice O q.opt.length o)
      clear hP2 hR2 kD2 hD2 hP3 hR3 oO3 kO3 fO3 o2 o3 y2 y3
      generalize w3.setCell ⟨w.heap.size, 8, none⟩ (.slice O q.opt.length o) = V4 at *
      refine hK.out _ _ trivial (fun hS => ?_)
      clear hK K
      try go_frame
      refine held_pure (i := 8) (oi := ⟨some 15, _, _, _, _, _⟩) rfl (by kernel_rfl) (by kernel_rfl) (by kernel_rfl) (fun _ _ _ h => h) (by rfl) (v := ?_) (fun w hSw => ?_) hS (fun hS => ?_)
      rotate_left
      · go_simp; try with_reducible rfl
      try go_frame
      refine wpAnyH_ready (rs := [9]) (by kernel_rfl) (by simp) (AllReadyH.cons (o := ⟨none, _, _, _, _, _⟩) rfl (fun K hK => ?_) AllReadyH.nil)
      rw [if_pos (by rfl)]
      refine store_sl_wp rfl rfl rfl kD4 fD4 ?_
      have hP : (V4.setCell ⟨w.heap.size, 9, none⟩ (.slice D q.dat.length d)).heap[w.heap.size]? = some (.cells (tsa q O o D d) 37 (0, 0)) := heap_setCell_same V4 w.heap.size 9 _ _ (.slice D q.dat.length d) hP4
      have hR := (heap_setCell_other V4 ⟨w.heap.size, 9, none⟩ (w.heap.size + 1) (.slice D q.dat.length d) (by show w.heap.size + 1 ≠ w.heap.size; omega)).trans hR4
      have oO := own_setCell oO4 (p := ⟨w.heap.size, 9, none⟩) (u := .slice D q.dat.length d) zP
      have oD := own_setCell oD4 (p := ⟨w.heap.size, 9, none⟩) (u := .slice D q.dat.length d) (Nat.lt_of_lt_of_le zP zx2)
      have bV := b4.setCell (p := ⟨w.heap.size, 9, none⟩) (Nat.le_refl _) (.slice D q.dat.length d)
      clear hP4 hR4 kD4 fD4 oO4 oD4 b4 hP0 hR0 hO1 hD1 kO0 kD0 x2 x3
      generalize V4.setCell ⟨w.heap.size, 9, none⟩ (.slice D q.dat.length d) = V at *
      have hat := Atts.of_heap hP
      have gO := arg_own oO
      have gD := arg_own oD
      refine hK.out _ _ trivial (fun hS => ?_)
      clear hK K
      try go_frame
      refine wpAnyH_done (by kernel_rfl) ?_ _
      have kf := hat.flags
      by_cases c1 : bits .and .i64 q.flags 2 = 0
      · have d1 : (bits .and .i64 q.flags 2 == 0) = true := by simpa using c1
        have HS := Lib.hid (sgT_no (q := q) (n := n) (by rintro ⟨h, _⟩; exact h c1))
        go_wp2_with (first
          | ((with_reducible show wpList _ _ _ (Oper.mk _ (Op.load 37 _) _ _ _ _ :: _) _ _); refine wpList_val rfl (run_load_ts rfl rfl hat rfl) ?_)
          | ((with_reducible show wpList _ _ _ (Oper.mk _ (Op.store 37 _ _) _ _ _ _ :: _) _ _); refine ts_store (g := w.heap.size + 1) (cs := tsa q O o D d) rfl rfl hR rfl rfl (ts_one _ _ _ _ _) ?_))
        have oO7 := own_setRow oO (g := w.heap.size + 1) (cs := tsa q O o D d) zR
        have oD7 := own_setRow oD (g := w.heap.size + 1) (cs := tsa q O o D d) (by omega)
        have b7 := below_row bV (g := w.heap.size + 1) (cs := tsa q O o D d) (by omega)
        exact bodyPost_ret (results_cell_row rfl _ _ (w.heap.size + 1) 37 (tsa q O o D d) (0, 0) _ rfl (setRow_heap _ _ _ _ _ _ hR) Try.underlying37 rfl (by kernel_rfl)) rfl ⟨O, o, D, d, by rw [HS.out]; rfl, by rw [HS.out]; exact Made.of_own (own_base oO7 (by omega)) b7, by rw [HS.out]; exact Made.of_own (own_base oD7 (by omega)) b7⟩
      have d1 : (bits .and .i64 q.flags 2 == 0) = false := by simpa using c1
      by_cases c2 : n < 0
      · have d2 : decide (n < 0) = true := by simpa using c2
        have HS := Lib.hid (sgT_no (q := q) (n := n) (by rintro ⟨_, h, _⟩; omega))
        go_wp2_with (first
          | ((with_reducible show wpList _ _ _ (Oper.mk _ (Op.load 37 _) _ _ _ _ :: _) _ _); refine wpList_val rfl (run_load_ts rfl rfl hat rfl) ?_)
          | ((with_reducible show wpList _ _ _ (Oper.mk _ (Op.store 37 _ _) _ _ _ _ :: _) _ _); refine ts_store (g := w.heap.size + 1) (cs := tsa q O o D d) rfl rfl hR rfl rfl (ts_one _ _ _ _ _) ?_))
        have oO7 := own_setRow oO (g := w.heap.size + 1) (cs := tsa q O o D d) zR
        have oD7 := own_setRow oD (g := w.heap.size + 1) (cs := tsa q O o D d) (by omega)
        have b7 := below_row bV (g := w.heap.size + 1) (cs := tsa q O o D d) (by omega)
        exact bodyPost_ret (results_cell_row rfl _ _ (w.heap.size + 1) 37 (tsa q O o D d) (0, 0) _ rfl (setRow_heap _ _ _ _ _ _ hR) Try.underlying37 rfl (by kernel_rfl)) rfl ⟨O, o, D, d, by rw [HS.out]; rfl, by rw [HS.out]; exact Made.of_own (own_base oO7 (by omega)) b7, by rw [HS.out]; exact Made.of_own (own_base oD7 (by omega)) b7⟩
      have d2 : decide (n < 0) = false := by simpa using c2
      by_cases c3 : 65535 < n
      · have d3 : decide (65535 < n) = true := by simpa using c3
        have HS := Lib.hid (sgT_no (q := q) (n := n) (by rintro ⟨_, _, h, _⟩; omega))
        go_wp2_with (first
          | ((with_reducible show wpList _ _ _ (Oper.mk _ (Op.load 37 _) _ _ _ _ :: _) _ _); refine wpList_val rfl (run_load_ts rfl rfl hat rfl) ?_)
          | ((with_reducible show wpList _ _ _ (Oper.mk _ (Op.store 37 _ _) _ _ _ _ :: _) _ _); refine ts_store (g := w.heap.size + 1) (cs := tsa q O o D d) rfl rfl hR rfl rfl (ts_one _ _ _ _ _) ?_))
        have oO7 := own_setRow oO (g := w.heap.size + 1) (cs := tsa q O o D d) zR
        have oD7 := own_setRow oD (g := w.heap.size + 1) (cs := tsa q O o D d) (by omega)
        have b7 := below_row bV (g := w.heap.size + 1) (cs := tsa q O o D d) (by omega)
        exact bodyPost_ret (results_cell_row rfl _ _ (w.heap.size + 1) 37 (tsa q O o D d) (0, 0) _ rfl (setRow_heap _ _ _ _ _ _ hR) Try.underlying37 rfl (by kernel_rfl)) rfl ⟨O, o, D, d, by rw [HS.out]; rfl, by rw [HS.out]; exact Made.of_own (own_base oO7 (by omega)) b7, by rw [HS.out]; exact Made.of_own (own_base oD7 (by omega)) b7⟩
      have d3 : decide (65535 < n) = false := by simpa using c3
      rcases hK : mssK q.opt with _ | _
      · have HKf := Lib.hid hK
        have HS := Lib.hid (sgT_no (q := q) (n := n) (by rintro ⟨_, _, _, h, _⟩; rw [hK] at h; cases h))
        clear hK
        go_wp2_with (first
          | ((with_reducible show wpList _ _ _ (Oper.mk (some 30) (Op.load 37 _) _ _ _ _ :: _) _ _); refine wpList_val rfl (run_load_ts rfl rfl hat rfl) ?_)
          | (go_at_call 10; refine (cTmss q _ _ _ _ V V.heap.size gO (Nat.le_refl _) ho).mono ?_; rintro e w6 ⟨rfl, x6⟩; have hP6 := (x6.block w.heap.size (heap_lt hP)).trans hP; have hR6 := (x6.block (w.heap.size + 1) (heap_lt hR)).trans hR; have hat6 := Atts.of_heap hP6; have oO6 := own_below oO x6; have oD6 := own_below oD x6; have b6 := bV.trans (x6.mono bV.size); have kO6 := hat6.opt; rw [HKf.out])
          | ((with_reducible show wpList _ _ _ (Oper.mk (some 48) (Op.load 37 _) _ _ _ _ :: _) _ _); refine wpList_val rfl (run_load_ts rfl rfl hat6 rfl) ?_)
          | ((with_reducible show wpList _ _ _ (Oper.mk _ (Op.store 37 _ _) _ _ _ _ :: _) _ _); refine ts_store (g := w.heap.size + 1) (cs := tsa q O o D d) rfl rfl hR6 rfl rfl (ts_one _ _ _ _ _) ?_))
        have oO7 := own_setRow oO6 (g := w.heap.size + 1) (cs := tsa q O o D d) zR
        have oD7 := own_setRow oD6 (g := w.heap.size + 1) (cs := tsa q O o D d) (by omega)
        have b7 := below_row b6 (g := w.heap.size + 1) (cs := tsa q O o D d) (by omega)
        exact bodyPost_ret (results_cell_row rfl _ _ (w.heap.size + 1) 37 (tsa q O o D d) (0, 0) _ rfl (setRow_heap _ _ _ _ _ _ hR6) Try.underlying37 rfl (by kernel_rfl)) rfl ⟨O, o, D, d, by rw [HS.out]; rfl, by rw [HS.out]; exact Made.of_own (own_base oO7 (by omega)) b7, by rw [HS.out]; exact Made.of_own (own_base oD7 (by omega)) b7⟩
      obtain ⟨a, hat_, hN, hA⟩ := mss_some hK
      have hroom := mssT_room hat_
      obtain ⟨N, hNN⟩ : ∃ y, y = mssN q.opt := ⟨_, rfl⟩
      have HN := Lib.hid hNN
      have HA := Lib.hid hA
      have HKt := Lib.hid hK
      by_cases c4 : n < N
      rotate_left
      · have d4 : decide (n < N) = false := by simpa using c4
        have HS := Lib.hid (sgT_no (q := q) (n := n) (by rintro ⟨_, _, _, _, h⟩; rw [← hNN] at h; exact c4 h))
        clear hK hN hA hNN hat_
        go_wp2_with (first
          | ((with_reducible show wpList _ _ _ (Oper.mk (some 30) (Op.load 37 _) _ _ _ _ :: _) _ _); refine wpList_val rfl (run_load_ts rfl rfl hat rfl) ?_)
          | (go_at_call 10; refine (cTmss q _ _ _ _ V V.heap.size gO (Nat.le_refl _) ho).mono ?_; rintro e w6 ⟨rfl, x6⟩; have hP6 := (x6.block w.heap.size (heap_lt hP)).trans hP; have hR6 := (x6.block (w.heap.size + 1) (heap_lt hR)).trans hR; have hat6 := Atts.of_heap hP6; have oO6 := own_below oO x6; have oD6 := own_below oD x6; have b6 := bV.trans (x6.mono bV.size); have kO6 := hat6.opt; rw [HKt.out, ← HN.out, HA.out])
          | ((with_reducible show wpList _ _ _ (Oper.mk (some 48) (Op.load 37 _) _ _ _ _ :: _) _ _); refine wpList_val rfl (run_load_ts rfl rfl hat6 rfl) ?_)
          | ((with_reducible show wpList _ _ _ (Oper.mk _ (Op.store 37 _ _) _ _ _ _ :: _) _ _); refine ts_store (g := w.heap.size + 1) (cs := tsa q O o D d) rfl rfl hR6 rfl rfl (ts_one _ _ _ _ _) ?_))
        have oO7 := own_setRow oO6 (g := w.heap.size + 1) (cs := tsa q O o D d) zR
        have oD7 := own_setRow oD6 (g := w.heap.size + 1) (cs := tsa q O o D d) (by omega)
        have b7 := below_row b6 (g := w.heap.size + 1) (cs := tsa q O o D d) (by omega)
        exact bodyPost_ret (results_cell_row rfl _ _ (w.heap.size + 1) 37 (tsa q O o D d) (0, 0) _ rfl (setRow_heap _ _ _ _ _ _ hR6) Try.underlying37 rfl (by kernel_rfl)) rfl ⟨O, o, D, d, by rw [HS.out]; rfl, by rw [HS.out]; exact Made.of_own (own_base oO7 (by omega)) b7, by rw [HS.out]; exact Made.of_own (own_base oD7 (by omega)) b7⟩
      have d4 : decide (n < N) = true := by simpa using c4
      have HS := Lib.hid (show sgT q n = ⟨q.src, q.dst, q.seq, q.ack, q.res, q.flags, q.win, q.urg, setO q.opt a n, q.dat⟩ by
        rw [sgT_yes ⟨c1, by omega, by omega, hK, by rw [← hNN]; exact c4⟩, hA]; rfl)
      obtain ⟨g, rfl⟩ := own_some oO (by omega)
      clear hK hN hA hNN hat_
      have eA : wrap64 ((a : Int) + 2) = ((a + 2 : Nat) : Int) := by unfold wrap64; omega
      go_upto_region 7 with (first
        | ((with_reducible show wpList _ _ _ (Oper.mk (some 30) (Op.load 37 _) _ _ _ _ :: _) _ _); refine wpList_val rfl (run_load_ts rfl rfl hat rfl) ?_)
        | (go_at_call 10; refine (cTmss q _ _ _ _ V V.heap.size gO (Nat.le_refl _) ho).mono ?_; rintro e w6 ⟨rfl, x6⟩; have hP6 := (x6.block w.heap.size (heap_lt hP)).trans hP; have hR6 := (x6.block (w.heap.size + 1) (heap_lt hR)).trans hR; have hat6 := Atts.of_heap hP6; have oO6 := own_below oO x6; have oD6 := own_below oD x6; have b6 := bV.trans (x6.mono bV.size); have kO6 := hat6.opt; rw [HKt.out, ← HN.out, HA.out])
        | ((with_reducible show wpList _ _ _ (Oper.mk _ (Op.slice _ _ _ _ _) _ _ _ _ :: _) _ _); refine wpList_val rfl (run_cut_l (l := a + 2) rfl rfl (by first | rfl | (simp; done)) (by omega) (m := q.opt.length - (a + 2)) rfl) ?_; rw [show cutA (some ⟨g, 0, none⟩) o (a + 2) = some ⟨g, a + 2, none⟩ from by have := (own_cell oO6 (i := a + 2) (by omega)).2.2.2.2; rw [cutA, if_neg (by omega)]; simp [add_off]])
        | (go_at_call 20; have q0 := own_cell oO6 (i := a + 2) (by omega); have q1 := own_cell oO6 (i := a + 2 + 1) (by omega); refine (cput g (a + 2) (q.opt.length - (a + 2)) (o - (a + 2)) n w6 _ _ q0.1 q1.1 q0.2.1 q1.2.1 (by omega)).mono ?_; rintro e w8 ⟨rfl, rfl⟩))
      obtain ⟨-, -, hgW, -, -⟩ := own_cell oO6 (i := a + 2) (by omega)
      have oO7a := own_put (i := a + 2) (n := n / 256) oO6
      have e7 : (q.opt.set (a + 2) (u8 (n / 256))).length = q.opt.length := by simp
      rw [← e7] at oO7a
      have oO7b := own_put (i := a + 2 + 1) (n := n) oO7a
      rw [e7] at oO7b
      have oO8 : ((w6.setCell ⟨g, a + 2, none⟩ (.int .u8 (n / 256 % 256))).setCell ⟨g, a + 2 + 1, none⟩ (.int .u8 (n % 256))).ownsRow W.heap.size 5 1 (.slice (some ⟨g, 0, none⟩) (setO q.opt a n).length o) (setO q.opt a n).length (row (setO q.opt a n)) := by rw [setO_len]; exact oO7b
      have hg2 := hgO g rfl (by omega)
      have oD8 := own_setCell (own_setCell oD6 (p := ⟨g, a + 2, none⟩) (u := .int .u8 (n / 256 % 256)) hg2) (p := ⟨g, a + 2 + 1, none⟩) (u := .int .u8 (n % 256)) hg2
      have hP8 := (heap_setCell_other (w6.setCell ⟨g, a + 2, none⟩ (.int .u8 (n / 256 % 256))) ⟨g, a + 2 + 1, none⟩ w.heap.size (.int .u8 (n % 256)) (by show w.heap.size ≠ g; omega)).trans ((heap_setCell_other w6 ⟨g, a + 2, none⟩ w.heap.size (.int .u8 (n / 256 % 256)) (by show w.heap.size ≠ g; omega)).trans hP6)
      have hR8 := (heap_setCell_other (w6.setCell ⟨g, a + 2, none⟩ (.int .u8 (n / 256 % 256))) ⟨g, a + 2 + 1, none⟩ (w.heap.size + 1) (.int .u8 (n % 256)) (by show w.heap.size + 1 ≠ g; omega)).trans ((heap_setCell_other w6 ⟨g, a + 2, none⟩ (w.heap.size + 1) (.int .u8 (n / 256 % 256)) (by show w.heap.size + 1 ≠ g; omega)).trans hR6)
      have b8 := (b6.setCell (p := ⟨g, a + 2, none⟩) (by show w.heap.size ≤ g; omega) (.int .u8 (n / 256 % 256))).setCell (p := ⟨g, a + 2 + 1, none⟩) (by show w.heap.size ≤ g; omega) (.int .u8 (n % 256))
      generalize (w6.setCell ⟨g, a + 2, none⟩ (.int .u8 (n / 256 % 256))).setCell ⟨g, a + 2 + 1, none⟩ (.int .u8 (n % 256)) = w8 at *
      have hat8 := Atts.of_heap hP8
      clear oO7a oO7b e7
      go_wp2_with (first
        | ((with_reducible show wpList _ _ _ (Oper.mk (some 48) (Op.load 37 _) _ _ _ _ :: _) _ _); refine wpList_val rfl (run_load_ts rfl rfl hat8 rfl) ?_)
        | ((with_reducible show wpList _ _ _ (Oper.mk _ (Op.store 37 _ _) _ _ _ _ :: _) _ _); refine ts_store (g := w.heap.size + 1) (cs := tsa q (some ⟨g, 0, none⟩) o D d) rfl rfl hR8 rfl rfl (ts_one _ _ _ _ _) ?_))
      have oO7 := own_setRow oO8 (g := w.heap.size + 1) (cs := tsa q (some ⟨g, 0, none⟩) o D d) zR
      have oD7 := own_setRow oD8 (g := w.heap.size + 1) (cs := tsa q (some ⟨g, 0, none⟩) o D d) (by omega)
      have b7 := below_row b8 (g := w.heap.size + 1) (cs := tsa q (some ⟨g, 0, none⟩) o D d) (by omega)
      exact bodyPost_ret (results_cell_row rfl _ _ (w.heap.size + 1) 37 (tsa q (some ⟨g, 0, none⟩) o D d) (0, 0) _ rfl (setRow_heap _ _ _ _ _ _ hR8) Try.underlying37 rfl (by kernel_rfl)) rfl ⟨some ⟨g, 0, none⟩, o, D, d, by rw [HS.out]; exact congrArg (fun x => Ending.returned (Value.agg x)) (tsa_opt q _ _ _ _ _ (setO_len _ _ _)).symm, by rw [HS.out]; exact Made.of_own (own_base oO7 (by omega)) b7, by rw [HS.out]; exact Made.of_own (own_base oD7 (by omega)) b7⟩
    · rw [if_pos (by rfl)]
      refine wp_val (v := .slice A' q.dat.length c') (by first | exact run_load_sl rfl rfl kD0 | exact run_load_sl rfl rfl kD2) ?_
      refine hK.out _ _ trivial (fun hS => ?_)
      clear hK K
      try go_frame
      refine wpAnyH_ready (rs := [2]) (by kernel_rfl) (by simp) (AllReadyH.cons (o := ⟨some 10, _, _, _, _, _⟩) rfl (fun K hK => ?_) AllReadyH.nil)
      rw [if_pos (by rfl)]
      go_simp
      refine (clone_any A q.opt c B _ (hO1.below (Below.refl _ W).drew) zW (by omega)).mono ?_
      rintro e w2 ⟨v2, rfl, m2⟩
      obtain ⟨O, o, rfl, g2, o2, y2⟩ := made_shape m2
      clear m2 g2
      have o2 : w2.ownsRow W.heap.size 5 1 (.slice O q.opt.length o) q.opt.length (row q.opt) := o2
      have x2 : Below W.heap.size W w2 := (Below.refl _ W).drew.trans y2
      have hP2 := (x2.block w.heap.size zP).trans hP0
      have hR2 := (x2.block (w.heap.size + 1) zR).trans hR0
      have kD2 := (Atts.of_heap hP2).dat
      have hD2 := hD1.below (x2.mono zW)
      have hgO : ∀ g, O = some ⟨g, 0, none⟩ → 0 < q.opt.length → g < w2.heap.size := fun g e hl => by { subst e; exact (own_cell o2 (i := 0) hl).2.2.2.1 }
      show K _ _
      refine hK.out _ _ trivial (fun hS => ?_)
      clear hK K
      try go_frame
      refine held_pure (i := 6) (oi := ⟨some 14, _, _, _, _, _⟩) rfl (by kernel_rfl) (by kernel_rfl) (by kernel_rfl) (fun _ _ _ h => h) (by rfl) (v := ?_) (fun w hSw => ?_) hS (fun hS => ?_)
      rotate_left
      · go_simp; try with_reducible rfl
      try go_frame
      refine wpAnyH_ready (rs := [5]) (by kernel_rfl) (by simp) (AllReadyH.cons (o := ⟨some 13, _, _, _, _, _⟩) rfl (fun K hK => ?_) AllReadyH.nil)
      rw [if_pos (by rfl)]
      go_simp
      refine (clone_any A' q.dat c' B _ hD2 (Nat.le_trans zW x2.size) (by omega)).mono ?_
      rintro e w3 ⟨v3, rfl, m3⟩
      obtain ⟨D, d, rfl, g3, o3, y3⟩ := made_shape m3
      clear m3 g3
      have hP3 := (y3.block w.heap.size (heap_lt hP2)).trans hP2
      have hR3 := (y3.block (w.heap.size + 1) (heap_lt hR2)).trans hR2
      have oO3 := own_below o2 y3
      have kO3 := (Atts.of_heap hP3).opt
      have fO3 := heap_frozen hP3 8
      have x3 := x2.trans (y3.mono x2.size)
      have zx2 := x2.size
      show K _ _
      refine hK.out _ _ trivial (fun hS => ?_)
      clear hK K
      try go_frame
      refine wpAnyH_ready (rs := [7]) (by kernel_rfl) (by simp) (AllReadyH.cons (o := ⟨none, _, _, _, _, _⟩) rfl (fun K hK => ?_) AllReadyH.nil)
      rw [if_pos (by rfl)]
      refine store_sl_wp rfl rfl rfl kO3 fO3 ?_
      have hP4 : (w3.setCell ⟨w.heap.size, 8, none⟩ (.slice O q.opt.length o)).heap[w.heap.size]? = some (.cells (tsa q O o A' c') 37 (0, 0)) := heap_setCell_same w3 w.heap.size 8 _ _ (.slice O q.opt.length o) hP3
      have hR4 := (heap_setCell_other w3 ⟨w.heap.size, 8, none⟩ (w.heap.size + 1) (.slice O q.opt.length o) (by show w.heap.size + 1 ≠ w.heap.size; omega)).trans hR3
      have kD4 := (Atts.of_heap hP4).dat
      have fD4 := heap_frozen hP4 9
      have oO4 := own_setCell oO3 (p := ⟨w.heap.size, 8, none⟩) (u := .slice O q.opt.length o) zP
      have oD4 := own_setCell o3 (p := ⟨w.heap.size, 8, none⟩) (u := .slice O q.opt.length o) (Nat.lt_of_lt_of_le zP zx2)
      have b4 := (hB.trans (x3.mono hB.size)).setCell (p := ⟨w.heap.size, 8, none⟩) (Nat.le_refl _) (.slice O q.opt.length o)
      clear hP2 hR2 kD2 hD2 hP3 hR3 oO3 kO3 fO3 o2 o3 y2 y3
      generalize w3.setCell ⟨w.heap.size, 8, none⟩ (.slice O q.opt.length o) = V4 at *
      refine hK.out _ _ trivial (fun hS => ?_)
      clear hK K
      try go_frame
      refine held_pure (i := 8) (oi := ⟨some 15, _, _, _, _, _⟩) rfl (by kernel_rfl) (by kernel_rfl) (by kernel_rfl) (fun _ _ _ h => h) (by rfl) (v := ?_) (fun w hSw => ?_) hS (fun hS => ?_)
      rotate_left
      · go_simp; try with_reducible rfl
      try go_frame
      refine wpAnyH_ready (rs := [9]) (by kernel_rfl) (by simp) (AllReadyH.cons (o := ⟨none, _, _, _, _, _⟩) rfl (fun K hK => ?_) AllReadyH.nil)
      rw [if_pos (by rfl)]
      refine store_sl_wp rfl rfl rfl kD4 fD4 ?_
      have hP : (V4.setCell ⟨w.heap.size, 9, none⟩ (.slice D q.dat.length d)).heap[w.heap.size]? = some (.cells (tsa q O o D d) 37 (0, 0)) := heap_setCell_same V4 w.heap.size 9 _ _ (.slice D q.dat.length d) hP4
      have hR := (heap_setCell_other V4 ⟨w.heap.size, 9, none⟩ (w.heap.size + 1) (.slice D q.dat.length d) (by show w.heap.size + 1 ≠ w.heap.size; omega)).trans hR4
      have oO := own_setCell oO4 (p := ⟨w.heap.size, 9, none⟩) (u := .slice D q.dat.length d) zP
      have oD := own_setCell oD4 (p := ⟨w.heap.size, 9, none⟩) (u := .slice D q.dat.length d) (Nat.lt_of_lt_of_le zP zx2)
      have bV := b4.setCell (p := ⟨w.heap.size, 9, none⟩) (Nat.le_refl _) (.slice D q.dat.length d)
      clear hP4 hR4 kD4 fD4 oO4 oD4 b4 hP0 hR0 hO1 hD1 kO0 kD0 x2 x3
      generalize V4.setCell ⟨w.heap.size, 9, none⟩ (.slice D q.dat.length d) = V at *
      have hat := Atts.of_heap hP
      have gO := arg_own oO
      have gD := arg_own oD
      refine hK.out _ _ trivial (fun hS => ?_)
      clear hK K
      try go_frame
      refine wpAnyH_done (by kernel_rfl) ?_ _
      have kf := hat.flags
      by_cases c1 : bits .and .i64 q.flags 2 = 0
      · have d1 : (bits .and .i64 q.flags 2 == 0) = true := by simpa using c1
        have HS := Lib.hid (sgT_no (q := q) (n := n) (by rintro ⟨h, _⟩; exact h c1))
        go_wp2_with (first
          | ((with_reducible show wpList _ _ _ (Oper.mk _ (Op.load 37 _) _ _ _ _ :: _) _ _); refine wpList_val rfl (run_load_ts rfl rfl hat rfl) ?_)
          | ((with_reducible show wpList _ _ _ (Oper.mk _ (Op.store 37 _ _) _ _ _ _ :: _) _ _); refine ts_store (g := w.heap.size + 1) (cs := tsa q O o D d) rfl rfl hR rfl rfl (ts_one _ _ _ _ _) ?_))
        have oO7 := own_setRow oO (g := w.heap.size + 1) (cs := tsa q O o D d) zR
        have oD7 := own_setRow oD (g := w.heap.size + 1) (cs := tsa q O o D d) (by omega)
        have b7 := below_row bV (g := w.heap.size + 1) (cs := tsa q O o D d) (by omega)
        exact bodyPost_ret (results_cell_row rfl _ _ (w.heap.size + 1) 37 (tsa q O o D d) (0, 0) _ rfl (setRow_heap _ _ _ _ _ _ hR) Try.underlying37 rfl (by kernel_rfl)) rfl ⟨O, o, D, d, by rw [HS.out]; rfl, by rw [HS.out]; exact Made.of_own (own_base oO7 (by omega)) b7, by rw [HS.out]; exact Made.of_own (own_base oD7 (by omega)) b7⟩
      have d1 : (bits .and .i64 q.flags 2 == 0) = false := by simpa using c1
      by_cases c2 : n < 0
      · have d2 : decide (n < 0) = true := by simpa using c2
        have HS := Lib.hid (sgT_no (q := q) (n := n) (by rintro ⟨_, h, _⟩; omega))
        go_wp2_with (first
          | ((with_reducible show wpList _ _ _ (Oper.mk _ (Op.load 37 _) _ _ _ _ :: _) _ _); refine wpList_val rfl (run_load_ts rfl rfl hat rfl) ?_)
          | ((with_reducible show wpList _ _ _ (Oper.mk _ (Op.store 37 _ _) _ _ _ _ :: _) _ _); refine ts_store (g := w.heap.size + 1) (cs := tsa q O o D d) rfl rfl hR rfl rfl (ts_one _ _ _ _ _) ?_))
        have oO7 := own_setRow oO (g := w.heap.size + 1) (cs := tsa q O o D d) zR
        have oD7 := own_setRow oD (g := w.heap.size + 1) (cs := tsa q O o D d) (by omega)
        have b7 := below_row bV (g := w.heap.size + 1) (cs := tsa q O o D d) (by omega)
        exact bodyPost_ret (results_cell_row rfl _ _ (w.heap.size + 1) 37 (tsa q O o D d) (0, 0) _ rfl (setRow_heap _ _ _ _ _ _ hR) Try.underlying37 rfl (by kernel_rfl)) rfl ⟨O, o, D, d, by rw [HS.out]; rfl, by rw [HS.out]; exact Made.of_own (own_base oO7 (by omega)) b7, by rw [HS.out]; exact Made.of_own (own_base oD7 (by omega)) b7⟩
      have d2 : decide (n < 0) = false := by simpa using c2
      by_cases c3 : 65535 < n
      · have d3 : decide (65535 < n) = true := by simpa using c3
        have HS := Lib.hid (sgT_no (q := q) (n := n) (by rintro ⟨_, _, h, _⟩; omega))
        go_wp2_with (first
          | ((with_reducible show wpList _ _ _ (Oper.mk _ (Op.load 37 _) _ _ _ _ :: _) _ _); refine wpList_val rfl (run_load_ts rfl rfl hat rfl) ?_)
          | ((with_reducible show wpList _ _ _ (Oper.mk _ (Op.store 37 _ _) _ _ _ _ :: _) _ _); refine ts_store (g := w.heap.size + 1) (cs := tsa q O o D d) rfl rfl hR rfl rfl (ts_one _ _ _ _ _) ?_))
        have oO7 := own_setRow oO (g := w.heap.size + 1) (cs := tsa q O o D d) zR
        have oD7 := own_setRow oD (g := w.heap.size + 1) (cs := tsa q O o D d) (by omega)
        have b7 := below_row bV (g := w.heap.size + 1) (cs := tsa q O o D d) (by omega)
        exact bodyPost_ret (results_cell_row rfl _ _ (w.heap.size + 1) 37 (tsa q O o D d) (0, 0) _ rfl (setRow_heap _ _ _ _ _ _ hR) Try.underlying37 rfl (by kernel_rfl)) rfl ⟨O, o, D, d, by rw [HS.out]; rfl, by rw [HS.out]; exact Made.of_own (own_base oO7 (by omega)) b7, by rw [HS.out]; exact Made.of_own (own_base oD7 (by omega)) b7⟩
      have d3 : decide (65535 < n) = false := by simpa using c3
      rcases hK : mssK q.opt with _ | _
      · have HKf := Lib.hid hK
        have HS := Lib.hid (sgT_no (q := q) (n := n) (by rintro ⟨_, _, _, h, _⟩; rw [hK] at h; cases h))
        clear hK
        go_wp2_with (first
          | ((with_reducible show wpList _ _ _ (Oper.mk (some 30) (Op.load 37 _) _ _ _ _ :: _) _ _); refine wpList_val rfl (run_load_ts rfl rfl hat rfl) ?_)
          | (go_at_call 10; refine (cTmss q _ _ _ _ V V.heap.size gO (Nat.le_refl _) ho).mono ?_; rintro e w6 ⟨rfl, x6⟩; have hP6 := (x6.block w.heap.size (heap_lt hP)).trans hP; have hR6 := (x6.block (w.heap.size + 1) (heap_lt hR)).trans hR; have hat6 := Atts.of_heap hP6; have oO6 := own_below oO x6; have oD6 := own_below oD x6; have b6 := bV.trans (x6.mono bV.size); have kO6 := hat6.opt; rw [HKf.out])
          | ((with_reducible show wpList _ _ _ (Oper.mk (some 48) (Op.load 37 _) _ _ _ _ :: _) _ _); refine wpList_val rfl (run_load_ts rfl rfl hat6 rfl) ?_)
          | ((with_reducible show wpList _ _ _ (Oper.mk _ (Op.store 37 _ _) _ _ _ _ :: _) _ _); refine ts_store (g := w.heap.size + 1) (cs := tsa q O o D d) rfl rfl hR6 rfl rfl (ts_one _ _ _ _ _) ?_))
        have oO7 := own_setRow oO6 (g := w.heap.size + 1) (cs := tsa q O o D d) zR
        have oD7 := own_setRow oD6 (g := w.heap.size + 1) (cs := tsa q O o D d) (by omega)
        have b7 := below_row b6 (g := w.heap.size + 1) (cs := tsa q O o D d) (by omega)
        exact bodyPost_ret (results_cell_row rfl _ _ (w.heap.size + 1) 37 (tsa q O o D d) (0, 0) _ rfl (setRow_heap _ _ _ _ _ _ hR6) Try.underlying37 rfl (by kernel_rfl)) rfl ⟨O, o, D, d, by rw [HS.out]; rfl, by rw [HS.out]; exact Made.of_own (own_base oO7 (by omega)) b7, by rw [HS.out]; exact Made.of_own (own_base oD7 (by omega)) b7⟩
      obtain ⟨a, hat_, hN, hA⟩ := mss_some hK
      have hroom := mssT_room hat_
      obtain ⟨N, hNN⟩ : ∃ y, y = mssN q.opt := ⟨_, rfl⟩
      have HN := Lib.hid hNN
      have HA := Lib.hid hA
      have HKt := Lib.hid hK
      by_cases c4 : n < N
      rotate_left
      · have d4 : decide (n < N) = false := by simpa using c4
        have HS := Lib.hid (sgT_no (q := q) (n := n) (by rintro ⟨_, _, _, _, h⟩; rw [← hNN] at h; exact c4 h))
        clear hK hN hA hNN hat_
        go_wp2_with (first
          | ((with_reducible show wpList _ _ _ (Oper.mk (some 30) (Op.load 37 _) _ _ _ _ :: _) _ _); refine wpList_val rfl (run_load_ts rfl rfl hat rfl) ?_)
          | (go_at_call 10; refine (cTmss q _ _ _ _ V V.heap.size gO (Nat.le_refl _) ho).mono ?_; rintro e w6 ⟨rfl, x6⟩; have hP6 := (x6.block w.heap.size (heap_lt hP)).trans hP; have hR6 := (x6.block (w.heap.size + 1) (heap_lt hR)).trans hR; have hat6 := Atts.of_heap hP6; have oO6 := own_below oO x6; have oD6 := own_below oD x6; have b6 := bV.trans (x6.mono bV.size); have kO6 := hat6.opt; rw [HKt.out, ← HN.out, HA.out])
          | ((with_reducible show wpList _ _ _ (Oper.mk (some 48) (Op.load 37 _) _ _ _ _ :: _) _ _); refine wpList_val rfl (run_load_ts rfl rfl hat6 rfl) ?_)
          | ((with_reducible show wpList _ _ _ (Oper.mk _ (Op.store 37 _ _) _ _ _ _ :: _) _ _); refine ts_store (g := w.heap.size + 1) (cs := tsa q O o D d) rfl rfl hR6 rfl rfl (ts_one _ _ _ _ _) ?_))
        have oO7 := own_setRow oO6 (g := w.heap.size + 1) (cs := tsa q O o D d) zR
        have oD7 := own_setRow oD6 (g := w.heap.size + 1) (cs := tsa q O o D d) (by omega)
        have b7 := below_row b6 (g := w.heap.size + 1) (cs := tsa q O o D d) (by omega)
        exact bodyPost_ret (results_cell_row rfl _ _ (w.heap.size + 1) 37 (tsa q O o D d) (0, 0) _ rfl (setRow_heap _ _ _ _ _ _ hR6) Try.underlying37 rfl (by kernel_rfl)) rfl ⟨O, o, D, d, by rw [HS.out]; rfl, by rw [HS.out]; exact Made.of_own (own_base oO7 (by omega)) b7, by rw [HS.out]; exact Made.of_own (own_base oD7 (by omega)) b7⟩
      have d4 : decide (n < N) = true := by simpa using c4
      have HS := Lib.hid (show sgT q n = ⟨q.src, q.dst, q.seq, q.ack, q.res, q.flags, q.win, q.urg, setO q.opt a n, q.dat⟩ by
        rw [sgT_yes ⟨c1, by omega, by omega, hK, by rw [← hNN]; exact c4⟩, hA]; rfl)
      obtain ⟨g, rfl⟩ := own_some oO (by omega)
      clear hK hN hA hNN hat_
      have eA : wrap64 ((a : Int) + 2) = ((a + 2 : Nat) : Int) := by unfold wrap64; omega
      go_upto_region 7 with (first
        | ((with_reducible show wpList _ _ _ (Oper.mk (some 30) (Op.load 37 _) _ _ _ _ :: _) _ _); refine wpList_val rfl (run_load_ts rfl rfl hat rfl) ?_)
        | (go_at_call 10; refine (cTmss q _ _ _ _ V V.heap.size gO (Nat.le_refl _) ho).mono ?_; rintro e w6 ⟨rfl, x6⟩; have hP6 := (x6.block w.heap.size (heap_lt hP)).trans hP; have hR6 := (x6.block (w.heap.size + 1) (heap_lt hR)).trans hR; have hat6 := Atts.of_heap hP6; have oO6 := own_below oO x6; have oD6 := own_below oD x6; have b6 := bV.trans (x6.mono bV.size); have kO6 := hat6.opt; rw [HKt.out, ← HN.out, HA.out])
        | ((with_reducible show wpList _ _ _ (Oper.mk _ (Op.slice _ _ _ _ _) _ _ _ _ :: _) _ _); refine wpList_val rfl (run_cut_l (l := a + 2) rfl rfl (by first | rfl | (simp; done)) (by omega) (m := q.opt.length - (a + 2)) rfl) ?_; rw [show cutA (some ⟨g, 0, none⟩) o (a + 2) = some ⟨g, a + 2, none⟩ from by have := (own_cell oO6 (i := a + 2) (by omega)).2.2.2.2; rw [cutA, if_neg (by omega)]; simp [add_off]])
        | (go_at_call 20; have q0 := own_cell oO6 (i := a + 2) (by omega); have q1 := own_cell oO6 (i := a + 2 + 1) (by omega); refine (cput g (a + 2) (q.opt.length - (a + 2)) (o - (a + 2)) n w6 _ _ q0.1 q1.1 q0.2.1 q1.2.1 (by omega)).mono ?_; rintro e w8 ⟨rfl, rfl⟩))
      obtain ⟨-, -, hgW, -, -⟩ := own_cell oO6 (i := a + 2) (by omega)
      have oO7a := own_put (i := a + 2) (n := n / 256) oO6
      have e7 : (q.opt.set (a + 2) (u8 (n / 256))).length = q.opt.length := by simp
      rw [← e7] at oO7a
      have oO7b := own_put (i := a + 2 + 1) (n := n) oO7a
      rw [e7] at oO7b
      have oO8 : ((w6.setCell ⟨g, a + 2, none⟩ (.int .u8 (n / 256 % 256))).setCell ⟨g, a + 2 + 1, none⟩ (.int .u8 (n % 256))).ownsRow W.heap.size 5 1 (.slice (some ⟨g, 0, none⟩) (setO q.opt a n).length o) (setO q.opt a n).length (row (setO q.opt a n)) := by rw [setO_len]; exact oO7b
      have hg2 := hgO g rfl (by omega)
      have oD8 := own_setCell (own_setCell oD6 (p := ⟨g, a + 2, none⟩) (u := .int .u8 (n / 256 % 256)) hg2) (p := ⟨g, a + 2 + 1, none⟩) (u := .int .u8 (n % 256)) hg2
      have hP8 := (heap_setCell_other (w6.setCell ⟨g, a + 2, none⟩ (.int .u8 (n / 256 % 256))) ⟨g, a + 2 + 1, none⟩ w.heap.size (.int .u8 (n % 256)) (by show w.heap.size ≠ g; omega)).trans ((heap_setCell_other w6 ⟨g, a + 2, none⟩ w.heap.size (.int .u8 (n / 256 % 256)) (by show w.heap.size ≠ g; omega)).trans hP6)
      have hR8 := (heap_setCell_other (w6.setCell ⟨g, a + 2, none⟩ (.int .u8 (n / 256 % 256))) ⟨g, a + 2 + 1, none⟩ (w.heap.size + 1) (.int .u8 (n % 256)) (by show w.heap.size + 1 ≠ g; omega)).trans ((heap_setCell_other w6 ⟨g, a + 2, none⟩ (w.heap.size + 1) (.int .u8 (n / 256 % 256)) (by show w.heap.size + 1 ≠ g; omega)).trans hR6)
      have b8 := (b6.setCell (p := ⟨g, a + 2, none⟩) (by show w.heap.size ≤ g; omega) (.int .u8 (n / 256 % 256))).setCell (p := ⟨g, a + 2 + 1, none⟩) (by show w.heap.size ≤ g; omega) (.int .u8 (n % 256))
      generalize (w6.setCell ⟨g, a + 2, none⟩ (.int .u8 (n / 256 % 256))).setCell ⟨g, a + 2 + 1, none⟩ (.int .u8 (n % 256)) = w8 at *
      have hat8 := Atts.of_heap hP8
      clear oO7a oO7b e7
      go_wp2_with (first
        | ((with_reducible show wpList _ _ _ (Oper.mk (some 48) (Op.load 37 _) _ _ _ _ :: _) _ _); refine wpList_val rfl (run_load_ts rfl rfl hat8 rfl) ?_)
        | ((with_reducible show wpList _ _ _ (Oper.mk _ (Op.store 37 _ _) _ _ _ _ :: _) _ _); refine ts_store (g := w.heap.size + 1) (cs := tsa q (some ⟨g, 0, none⟩) o D d) rfl rfl hR8 rfl rfl (ts_one _ _ _ _ _) ?_))
      have oO7 := own_setRow oO8 (g := w.heap.size + 1) (cs := tsa q (some ⟨g, 0, none⟩) o D d) zR
      have oD7 := own_setRow oD8 (g := w.heap.size + 1) (cs := tsa q (some ⟨g, 0, none⟩) o D d) (by omega)
      have b7 := below_row b8 (g := w.heap.size + 1) (cs := tsa q (some ⟨g, 0, none⟩) o D d) (by omega)
      exact bodyPost_ret (results_cell_row rfl _ _ (w.heap.size + 1) 37 (tsa q (some ⟨g, 0, none⟩) o D d) (0, 0) _ rfl (setRow_heap _ _ _ _ _ _ hR8) Try.underlying37 rfl (by kernel_rfl)) rfl ⟨some ⟨g, 0, none⟩, o, D, d, by rw [HS.out]; exact congrArg (fun x => Ending.returned (Value.agg x)) (tsa_opt q _ _ _ _ _ (setO_len _ _ _)).symm, by rw [HS.out]; exact Made.of_own (own_base oO7 (by omega)) b7, by rw [HS.out]; exact Made.of_own (own_base oD7 (by omega)) b7⟩
  · rw [if_pos (by rfl)]
    refine wp_val (v := .slice A' q.dat.length c') (by first | exact run_load_sl rfl rfl kD0 | exact run_load_sl rfl rfl kD2) ?_
    refine hK.out _ _ trivial (fun hS => ?_)
    clear hK K
    try go_frame
    refine wpAnyH_ready (rs := [1]) (by kernel_rfl) (by simp) (AllReadyH.cons (o := ⟨some 9, _, _, _, _, _⟩) rfl (fun K hK => ?_) AllReadyH.nil)
    rw [if_pos (by rfl)]
    refine wp_val (v := .slice A q.opt.length c) (by first | exact run_load_sl rfl rfl kO0) ?_
    refine hK.out _ _ trivial (fun hS => ?_)
    clear hK K
    try go_frame
    refine wpAnyH_ready (rs := [2]) (by kernel_rfl) (by simp) (AllReadyH.cons (o := ⟨some 10, _, _, _, _, _⟩) rfl (fun K hK => ?_) AllReadyH.nil)
    rw [if_pos (by rfl)]
    go_simp
    refine (clone_any A q.opt c B _ (hO1.below (Below.refl _ W).drew) zW (by omega)).mono ?_
    rintro e w2 ⟨v2, rfl, m2⟩
    obtain ⟨O, o, rfl, g2, o2, y2⟩ := made_shape m2
    clear m2 g2
    have o2 : w2.ownsRow W.heap.size 5 1 (.slice O q.opt.length o) q.opt.length (row q.opt) := o2
    have x2 : Below W.heap.size W w2 := (Below.refl _ W).drew.trans y2
    have hP2 := (x2.block w.heap.size zP).trans hP0
    have hR2 := (x2.block (w.heap.size + 1) zR).trans hR0
    have kD2 := (Atts.of_heap hP2).dat
    have hD2 := hD1.below (x2.mono zW)
    have hgO : ∀ g, O = some ⟨g, 0, none⟩ → 0 < q.opt.length → g < w2.heap.size := fun g e hl => by { subst e; exact (own_cell o2 (i := 0) hl).2.2.2.1 }
    show K _ _
    refine hK.out _ _ trivial (fun hS => ?_)
    clear hK K
    try go_frame
    refine held_pure (i := 6) (oi := ⟨some 14, _, _, _, _, _⟩) rfl (by kernel_rfl) (by kernel_rfl) (by kernel_rfl) (fun _ _ _ h => h) (by rfl) (v := ?_) (fun w hSw => ?_) hS (fun hS => ?_)
    rotate_left
    · go_simp; try with_reducible rfl
    try go_frame
    refine wpAnyH_ready (rs := [5]) (by kernel_rfl) (by simp) (AllReadyH.cons (o := ⟨some 13, _, _, _, _, _⟩) rfl (fun K hK => ?_) AllReadyH.nil)
    rw [if_pos (by rfl)]
    go_simp
    refine (clone_any A' q.dat c' B _ hD2 (Nat.le_trans zW x2.size) (by omega)).mono ?_
    rintro e w3 ⟨v3, rfl, m3⟩
    obtain ⟨D, d, rfl, g3, o3, y3⟩ := made_shape m3
    clear m3 g3
    have hP3 := (y3.block w.heap.size (heap_lt hP2)).trans hP2
    have hR3 := (y3.block (w.heap.size + 1) (heap_lt hR2)).trans hR2
    have oO3 := own_below o2 y3
    have kO3 := (Atts.of_heap hP3).opt
    have fO3 := heap_frozen hP3 8
    have x3 := x2.trans (y3.mono x2.size)
    have zx2 := x2.size
    show K _ _
    refine hK.out _ _ trivial (fun hS => ?_)
    clear hK K
    try go_frame
    refine wpAnyH_ready (rs := [7]) (by kernel_rfl) (by simp) (AllReadyH.cons (o := ⟨none, _, _, _, _, _⟩) rfl (fun K hK => ?_) AllReadyH.nil)
    rw [if_pos (by rfl)]
    refine store_sl_wp rfl rfl rfl kO3 fO3 ?_
    have hP4 : (w3.setCell ⟨w.heap.size, 8, none⟩ (.slice O q.opt.length o)).heap[w.heap.size]? = some (.cells (tsa q O o A' c') 37 (0, 0)) := heap_setCell_same w3 w.heap.size 8 _ _ (.slice O q.opt.length o) hP3
    have hR4 := (heap_setCell_other w3 ⟨w.heap.size, 8, none⟩ (w.heap.size + 1) (.slice O q.opt.length o) (by show w.heap.size + 1 ≠ w.heap.size; omega)).trans hR3
    have kD4 := (Atts.of_heap hP4).dat
    have fD4 := heap_frozen hP4 9
    have oO4 := own_setCell oO3 (p := ⟨w.heap.size, 8, none⟩) (u := .slice O q.opt.length o) zP
    have oD4 := own_setCell o3 (p := ⟨w.heap.size, 8, none⟩) (u := .slice O q.opt.length o) (Nat.lt_of_lt_of_le zP zx2)
    have b4 := (hB.trans (x3.mono hB.size)).setCell (p := ⟨w.heap.size, 8, none⟩) (Nat.le_refl _) (.slice O q.opt.length o)
    clear hP2 hR2 kD2 hD2 hP3 hR3 oO3 kO3 fO3 o2 o3 y2 y3
    generalize w3.setCell ⟨w.heap.size, 8, none⟩ (.slice O q.opt.length o) = V4 at *
    refine hK.out _ _ trivial (fun hS => ?_)
    clear hK K
    try go_frame
    refine held_pure (i := 8) (oi := ⟨some 15, _, _, _, _, _⟩) rfl (by kernel_rfl) (by kernel_rfl) (by kernel_rfl) (fun _ _ _ h => h) (by rfl) (v := ?_) (fun w hSw => ?_) hS (fun hS => ?_)
    rotate_left
    · go_simp; try with_reducible rfl
    try go_frame
    refine wpAnyH_ready (rs := [9]) (by kernel_rfl) (by simp) (AllReadyH.cons (o := ⟨none, _, _, _, _, _⟩) rfl (fun K hK => ?_) AllReadyH.nil)
    rw [if_pos (by rfl)]
    refine store_sl_wp rfl rfl rfl kD4 fD4 ?_
    have hP : (V4.setCell ⟨w.heap.size, 9, none⟩ (.slice D q.dat.length d)).heap[w.heap.size]? = some (.cells (tsa q O o D d) 37 (0, 0)) := heap_setCell_same V4 w.heap.size 9 _ _ (.slice D q.dat.length d) hP4
    have hR := (heap_setCell_other V4 ⟨w.heap.size, 9, none⟩ (w.heap.size + 1) (.slice D q.dat.length d) (by show w.heap.size + 1 ≠ w.heap.size; omega)).trans hR4
    have oO := own_setCell oO4 (p := ⟨w.heap.size, 9, none⟩) (u := .slice D q.dat.length d) zP
    have oD := own_setCell oD4 (p := ⟨w.heap.size, 9, none⟩) (u := .slice D q.dat.length d) (Nat.lt_of_lt_of_le zP zx2)
    have bV := b4.setCell (p := ⟨w.heap.size, 9, none⟩) (Nat.le_refl _) (.slice D q.dat.length d)
    clear hP4 hR4 kD4 fD4 oO4 oD4 b4 hP0 hR0 hO1 hD1 kO0 kD0 x2 x3
    generalize V4.setCell ⟨w.heap.size, 9, none⟩ (.slice D q.dat.length d) = V at *
    have hat := Atts.of_heap hP
    have gO := arg_own oO
    have gD := arg_own oD
    refine hK.out _ _ trivial (fun hS => ?_)
    clear hK K
    try go_frame
    refine wpAnyH_done (by kernel_rfl) ?_ _
    have kf := hat.flags
    by_cases c1 : bits .and .i64 q.flags 2 = 0
    · have d1 : (bits .and .i64 q.flags 2 == 0) = true := by simpa using c1
      have HS := Lib.hid (sgT_no (q := q) (n := n) (by rintro ⟨h, _⟩; exact h c1))
      go_wp2_with (first
        | ((with_reducible show wpList _ _ _ (Oper.mk _ (Op.load 37 _) _ _ _ _ :: _) _ _); refine wpList_val rfl (run_load_ts rfl rfl hat rfl) ?_)
        | ((with_reducible show wpList _ _ _ (Oper.mk _ (Op.store 37 _ _) _ _ _ _ :: _) _ _); refine ts_store (g := w.heap.size + 1) (cs := tsa q O o D d) rfl rfl hR rfl rfl (ts_one _ _ _ _ _) ?_))
      have oO7 := own_setRow oO (g := w.heap.size + 1) (cs := tsa q O o D d) zR
      have oD7 := own_setRow oD (g := w.heap.size + 1) (cs := tsa q O o D d) (by omega)
      have b7 := below_row bV (g := w.heap.size + 1) (cs := tsa q O o D d) (by omega)
      exact bodyPost_ret (results_cell_row rfl _ _ (w.heap.size + 1) 37 (tsa q O o D d) (0, 0) _ rfl (setRow_heap _ _ _ _ _ _ hR) Try.underlying37 rfl (by kernel_rfl)) rfl ⟨O, o, D, d, by rw [HS.out]; rfl, by rw [HS.out]; exact Made.of_own (own_base oO7 (by omega)) b7, by rw [HS.out]; exact Made.of_own (own_base oD7 (by omega)) b7⟩
    have d1 : (bits .and .i64 q.flags 2 == 0) = false := by simpa using c1
    by_cases c2 : n < 0
    · have d2 : decide (n < 0) = true := by simpa using c2
      have HS := Lib.hid (sgT_no (q := q) (n := n) (by rintro ⟨_, h, _⟩; omega))
      go_wp2_with (first
        | ((with_reducible show wpList _ _ _ (Oper.mk _ (Op.load 37 _) _ _ _ _ :: _) _ _); refine wpList_val rfl (run_load_ts rfl rfl hat rfl) ?_)
        | ((with_reducible show wpList _ _ _ (Oper.mk _ (Op.store 37 _ _) _ _ _ _ :: _) _ _); refine ts_store (g := w.heap.size + 1) (cs := tsa q O o D d) rfl rfl hR rfl rfl (ts_one _ _ _ _ _) ?_))
      have oO7 := own_setRow oO (g := w.heap.size + 1) (cs := tsa q O o D d) zR
      have oD7 := own_setRow oD (g := w.heap.size + 1) (cs := tsa q O o D d) (by omega)
      have b7 := below_row bV (g := w.heap.size + 1) (cs := tsa q O o D d) (by omega)
      exact bodyPost_ret (results_cell_row rfl _ _ (w.heap.size + 1) 37 (tsa q O o D d) (0, 0) _ rfl (setRow_heap _ _ _ _ _ _ hR) Try.underlying37 rfl (by kernel_rfl)) rfl ⟨O, o, D, d, by rw [HS.out]; rfl, by rw [HS.out]; exact Made.of_own (own_base oO7 (by omega)) b7, by rw [HS.out]; exact Made.of_own (own_base oD7 (by omega)) b7⟩
    have d2 : decide (n < 0) = false := by simpa using c2
    by_cases c3 : 65535 < n
    · have d3 : decide (65535 < n) = true := by simpa using c3
      have HS := Lib.hid (sgT_no (q := q) (n := n) (by rintro ⟨_, _, h, _⟩; omega))
      go_wp2_with (first
        | ((with_reducible show wpList _ _ _ (Oper.mk _ (Op.load 37 _) _ _ _ _ :: _) _ _); refine wpList_val rfl (run_load_ts rfl rfl hat rfl) ?_)
        | ((with_reducible show wpList _ _ _ (Oper.mk _ (Op.store 37 _ _) _ _ _ _ :: _) _ _); refine ts_store (g := w.heap.size + 1) (cs := tsa q O o D d) rfl rfl hR rfl rfl (ts_one _ _ _ _ _) ?_))
      have oO7 := own_setRow oO (g := w.heap.size + 1) (cs := tsa q O o D d) zR
      have oD7 := own_setRow oD (g := w.heap.size + 1) (cs := tsa q O o D d) (by omega)
      have b7 := below_row bV (g := w.heap.size + 1) (cs := tsa q O o D d) (by omega)
      exact bodyPost_ret (results_cell_row rfl _ _ (w.heap.size + 1) 37 (tsa q O o D d) (0, 0) _ rfl (setRow_heap _ _ _ _ _ _ hR) Try.underlying37 rfl (by kernel_rfl)) rfl ⟨O, o, D, d, by rw [HS.out]; rfl, by rw [HS.out]; exact Made.of_own (own_base oO7 (by omega)) b7, by rw [HS.out]; exact Made.of_own (own_base oD7 (by omega)) b7⟩
    have d3 : decide (65535 < n) = false := by simpa using c3
    rcases hK : mssK q.opt with _ | _
    · have HKf := Lib.hid hK
      have HS := Lib.hid (sgT_no (q := q) (n := n) (by rintro ⟨_, _, _, h, _⟩; rw [hK] at h; cases h))
      clear hK
      go_wp2_with (first
        | ((with_reducible show wpList _ _ _ (Oper.mk (some 30) (Op.load 37 _) _ _ _ _ :: _) _ _); refine wpList_val rfl (run_load_ts rfl rfl hat rfl) ?_)
        | (go_at_call 10; refine (cTmss q _ _ _ _ V V.heap.size gO (Nat.le_refl _) ho).mono ?_; rintro e w6 ⟨rfl, x6⟩; have hP6 := (x6.block w.heap.size (heap_lt hP)).trans hP; have hR6 := (x6.block (w.heap.size + 1) (heap_lt hR)).trans hR; have hat6 := Atts.of_heap hP6; have oO6 := own_below oO x6; have oD6 := own_below oD x6; have b6 := bV.trans (x6.mono bV.size); have kO6 := hat6.opt; rw [HKf.out])
        | ((with_reducible show wpList _ _ _ (Oper.mk (some 48) (Op.load 37 _) _ _ _ _ :: _) _ _); refine wpList_val rfl (run_load_ts rfl rfl hat6 rfl) ?_)
        | ((with_reducible show wpList _ _ _ (Oper.mk _ (Op.store 37 _ _) _ _ _ _ :: _) _ _); refine ts_store (g := w.heap.size + 1) (cs := tsa q O o D d) rfl rfl hR6 rfl rfl (ts_one _ _ _ _ _) ?_))
      have oO7 := own_setRow oO6 (g := w.heap.size + 1) (cs := tsa q O o D d) zR
      have oD7 := own_setRow oD6 (g := w.heap.size + 1) (cs := tsa q O o D d) (by omega)
      have b7 := below_row b6 (g := w.heap.size + 1) (cs := tsa q O o D d) (by omega)
      exact bodyPost_ret (results_cell_row rfl _ _ (w.heap.size + 1) 37 (tsa q O o D d) (0, 0) _ rfl (setRow_heap _ _ _ _ _ _ hR6) Try.underlying37 rfl (by kernel_rfl)) rfl ⟨O, o, D, d, by rw [HS.out]; rfl, by rw [HS.out]; exact Made.of_own (own_base oO7 (by omega)) b7, by rw [HS.out]; exact Made.of_own (own_base oD7 (by omega)) b7⟩
    obtain ⟨a, hat_, hN, hA⟩ := mss_some hK
    have hroom := mssT_room hat_
    obtain ⟨N, hNN⟩ : ∃ y, y = mssN q.opt := ⟨_, rfl⟩
    have HN := Lib.hid hNN
    have HA := Lib.hid hA
    have HKt := Lib.hid hK
    by_cases c4 : n < N
    rotate_left
    · have d4 : decide (n < N) = false := by simpa using c4
      have HS := Lib.hid (sgT_no (q := q) (n := n) (by rintro ⟨_, _, _, _, h⟩; rw [← hNN] at h; exact c4 h))
      clear hK hN hA hNN hat_
      go_wp2_with (first
        | ((with_reducible show wpList _ _ _ (Oper.mk (some 30) (Op.load 37 _) _ _ _ _ :: _) _ _); refine wpList_val rfl (run_load_ts rfl rfl hat rfl) ?_)
        | (go_at_call 10; refine (cTmss q _ _ _ _ V V.heap.size gO (Nat.le_refl _) ho).mono ?_; rintro e w6 ⟨rfl, x6⟩; have hP6 := (x6.block w.heap.size (heap_lt hP)).trans hP; have hR6 := (x6.block (w.heap.size + 1) (heap_lt hR)).trans hR; have hat6 := Atts.of_heap hP6; have oO6 := own_below oO x6; have oD6 := own_below oD x6; have b6 := bV.trans (x6.mono bV.size); have kO6 := hat6.opt; rw [HKt.out, ← HN.out, HA.out])
        | ((with_reducible show wpList _ _ _ (Oper.mk (some 48) (Op.load 37 _) _ _ _ _ :: _) _ _); refine wpList_val rfl (run_load_ts rfl rfl hat6 rfl) ?_)
        | ((with_reducible show wpList _ _ _ (Oper.mk _ (Op.store 37 _ _) _ _ _ _ :: _) _ _); refine ts_store (g := w.heap.size + 1) (cs := tsa q O o D d) rfl rfl hR6 rfl rfl (ts_one _ _ _ _ _) ?_))
      have oO7 := own_setRow oO6 (g := w.heap.size + 1) (cs := tsa q O o D d) zR
      have oD7 := own_setRow oD6 (g := w.heap.size + 1) (cs := tsa q O o D d) (by omega)
      have b7 := below_row b6 (g := w.heap.size + 1) (cs := tsa q O o D d) (by omega)
      exact bodyPost_ret (results_cell_row rfl _ _ (w.heap.size + 1) 37 (tsa q O o D d) (0, 0) _ rfl (setRow_heap _ _ _ _ _ _ hR6) Try.underlying37 rfl (by kernel_rfl)) rfl ⟨O, o, D, d, by rw [HS.out]; rfl, by rw [HS.out]; exact Made.of_own (own_base oO7 (by omega)) b7, by rw [HS.out]; exact Made.of_own (own_base oD7 (by omega)) b7⟩
    have d4 : decide (n < N) = true := by simpa using c4
    have HS := Lib.hid (show sgT q n = ⟨q.src, q.dst, q.seq, q.ack, q.res, q.flags, q.win, q.urg, setO q.opt a n, q.dat⟩ by
      rw [sgT_yes ⟨c1, by omega, by omega, hK, by rw [← hNN]; exact c4⟩, hA]; rfl)
    obtain ⟨g, rfl⟩ := own_some oO (by omega)
    clear hK hN hA hNN hat_
    have eA : wrap64 ((a : Int) + 2) = ((a + 2 : Nat) : Int) := by unfold wrap64; omega
    go_upto_region 7 with (first
      | ((with_reducible show wpList _ _ _ (Oper.mk (some 30) (Op.load 37 _) _ _ _ _ :: _) _ _); refine wpList_val rfl (run_load_ts rfl rfl hat rfl) ?_)
      | (go_at_call 10; refine (cTmss q _ _ _ _ V V.heap.size gO (Nat.le_refl _) ho).mono ?_; rintro e w6 ⟨rfl, x6⟩; have hP6 := (x6.block w.heap.size (heap_lt hP)).trans hP; have hR6 := (x6.block (w.heap.size + 1) (heap_lt hR)).trans hR; have hat6 := Atts.of_heap hP6; have oO6 := own_below oO x6; have oD6 := own_below oD x6; have b6 := bV.trans (x6.mono bV.size); have kO6 := hat6.opt; rw [HKt.out, ← HN.out, HA.out])
      | ((with_reducible show wpList _ _ _ (Oper.mk _ (Op.slice _ _ _ _ _) _ _ _ _ :: _) _ _); refine wpList_val rfl (run_cut_l (l := a + 2) rfl rfl (by first | rfl | (simp; done)) (by omega) (m := q.opt.length - (a + 2)) rfl) ?_; rw [show cutA (some ⟨g, 0, none⟩) o (a + 2) = some ⟨g, a + 2, none⟩ from by have := (own_cell oO6 (i := a + 2) (by omega)).2.2.2.2; rw [cutA, if_neg (by omega)]; simp [add_off]])
      | (go_at_call 20; have q0 := own_cell oO6 (i := a + 2) (by omega); have q1 := own_cell oO6 (i := a + 2 + 1) (by omega); refine (cput g (a + 2) (q.opt.length - (a + 2)) (o - (a + 2)) n w6 _ _ q0.1 q1.1 q0.2.1 q1.2.1 (by omega)).mono ?_; rintro e w8 ⟨rfl, rfl⟩))
    obtain ⟨-, -, hgW, -, -⟩ := own_cell oO6 (i := a + 2) (by omega)
    have oO7a := own_put (i := a + 2) (n := n / 256) oO6
    have e7 : (q.opt.set (a + 2) (u8 (n / 256))).length = q.opt.length := by simp
    rw [← e7] at oO7a
    have oO7b := own_put (i := a + 2 + 1) (n := n) oO7a
    rw [e7] at oO7b
    have oO8 : ((w6.setCell ⟨g, a + 2, none⟩ (.int .u8 (n / 256 % 256))).setCell ⟨g, a + 2 + 1, none⟩ (.int .u8 (n % 256))).ownsRow W.heap.size 5 1 (.slice (some ⟨g, 0, none⟩) (setO q.opt a n).length o) (setO q.opt a n).length (row (setO q.opt a n)) := by rw [setO_len]; exact oO7b
    have hg2 := hgO g rfl (by omega)
    have oD8 := own_setCell (own_setCell oD6 (p := ⟨g, a + 2, none⟩) (u := .int .u8 (n / 256 % 256)) hg2) (p := ⟨g, a + 2 + 1, none⟩) (u := .int .u8 (n % 256)) hg2
    have hP8 := (heap_setCell_other (w6.setCell ⟨g, a + 2, none⟩ (.int .u8 (n / 256 % 256))) ⟨g, a + 2 + 1, none⟩ w.heap.size (.int .u8 (n % 256)) (by show w.heap.size ≠ g; omega)).trans ((heap_setCell_other w6 ⟨g, a + 2, none⟩ w.heap.size (.int .u8 (n / 256 % 256)) (by show w.heap.size ≠ g; omega)).trans hP6)
    have hR8 := (heap_setCell_other (w6.setCell ⟨g, a + 2, none⟩ (.int .u8 (n / 256 % 256))) ⟨g, a + 2 + 1, none⟩ (w.heap.size + 1) (.int .u8 (n % 256)) (by show w.heap.size + 1 ≠ g; omega)).trans ((heap_setCell_other w6 ⟨g, a + 2, none⟩ (w.heap.size + 1) (.int .u8 (n / 256 % 256)) (by show w.heap.size + 1 ≠ g; omega)).trans hR6)
    have b8 := (b6.setCell (p := ⟨g, a + 2, none⟩) (by show w.heap.size ≤ g; omega) (.int .u8 (n / 256 % 256))).setCell (p := ⟨g, a + 2 + 1, none⟩) (by show w.heap.size ≤ g; omega) (.int .u8 (n % 256))
    generalize (w6.setCell ⟨g, a + 2, none⟩ (.int .u8 (n / 256 % 256))).setCell ⟨g, a + 2 + 1, none⟩ (.int .u8 (n % 256)) = w8 at *
    have hat8 := Atts.of_heap hP8
    clear oO7a oO7b e7
    go_wp2_with (first
      | ((with_reducible show wpList _ _ _ (Oper.mk (some 48) (Op.load 37 _) _ _ _ _ :: _) _ _); refine wpList_val rfl (run_load_ts rfl rfl hat8 rfl) ?_)
      | ((with_reducible show wpList _ _ _ (Oper.mk _ (Op.store 37 _ _) _ _ _ _ :: _) _ _); refine ts_store (g := w.heap.size + 1) (cs := tsa q (some ⟨g, 0, none⟩) o D d) rfl rfl hR8 rfl rfl (ts_one _ _ _ _ _) ?_))
    have oO7 := own_setRow oO8 (g := w.heap.size + 1) (cs := tsa q (some ⟨g, 0, none⟩) o D d) zR
    have oD7 := own_setRow oD8 (g := w.heap.size + 1) (cs := tsa q (some ⟨g, 0, none⟩) o D d) (by omega)
    have b7 := below_row b8 (g := w.heap.size + 1) (cs := tsa q (some ⟨g, 0, none⟩) o D d) (by omega)
    exact bodyPost_ret (results_cell_row rfl _ _ (w.heap.size + 1) 37 (tsa q (some ⟨g, 0, none⟩) o D d) (0, 0) _ rfl (setRow_heap _ _ _ _ _ _ hR8) Try.underlying37 rfl (by kernel_rfl)) rfl ⟨some ⟨g, 0, none⟩, o, D, d, by rw [HS.out]; exact congrArg (fun x => Ending.returned (Value.agg x)) (tsa_opt q _ _ _ _ _ (setO_len _ _ _)).symm, by rw [HS.out]; exact Made.of_own (own_base oO7 (by omega)) b7, by rw [HS.out]; exact Made.of_own (own_base oD7 (by omega)) b7⟩
end
end Go.Proofs.Ytodlfdnegcfhcaa

/-
  What layers 11 and 12 both lean on: ports in a block, how long parts are. Conditions are each theorem's own.
-/
namespace Go.Proofs.Ytodlfdnegcfhcaa
open Go.RowKit

theorem in_len {q : P4} (h : ofE q = 0) : (inU q).dat.length ≤ 65535 ∧ (inT q).opt.length ≤ 65535 ∧ (inT q).dat.length ≤ 65535 ∧ (inI q).dat.length ≤ 65535 := by
  have hl := of_len h
  refine ⟨?_, ?_, ?_, ?_⟩
  · unfold inU prsU; split
    · simp only [rawU, List.length_drop]; omega
    · simp [usz]
  · unfold inT prsT; split
    · simp only [rawT, List.length_drop, List.length_take]; omega
    · simp [tsz]
  · unfold inT prsT; split
    · simp only [rawT, List.length_drop]; omega
    · simp [tsz]
  · unfold inI prsI; split
    · simp only [rawI, List.length_drop]; omega
    · simp [isz]
theorem pr_store_new {ops : Array Oper} {rest : List Oper} {x y : Operand} {ty : TypeId} {pos : String} {af : Array Edge} {a : Act} {w : World} {Q : Exit → Act → World → Prop}
    {t : TypeId} {cs old : Array Value} (hx : a.eval x = .pointer (some ⟨w.heap.size, 0, none⟩)) (hy : a.eval y = .agg cs) (ho : old.size = 3) (hl : cs.size = 3) (h1 : cs.all (·.oneCell') = true)
    (h : wpList Try.prog ops Q rest (a.put none undef) (w.alloc (.cells cs t))) : wpList Try.prog ops Q (⟨none, .store 31 x y, ty, pos, af, none⟩ :: rest) a (w.alloc (.cells old t)) :=
  pr_store hx hy (World.alloc_heap_new w _) ho hl h1 (by rw [World.setRow_alloc_new]; exact h)
theorem ofV_is (q : P4) : ∃ k a b, ofV q = prA k a b := by
  unfold ofV; split
  · exact ⟨_, _, _, rfl⟩
  · exact ⟨_, _, _, rfl⟩
theorem range_new (w : World) (cs : Array Value) (t : TypeId) : (w.alloc (.cells cs t)).rangeAt w.heap.size 0 cs.toList := fun j v hj => by
  rw [Nat.zero_add, World.cell?_alloc_new, ← hj, Array.getElem?_toList]
theorem run_load_pr {o : Oper} {a : Act} {w : World} {x : Operand} {g : Nat} {cs : List Value} (ho : o.op = .load 31 x) (hx : a.eval x = .pointer (some ⟨g, 0, none⟩)) (hr : w.rangeAt g 0 cs) (hl : cs.length = 3) :
    (execOp a.eval o).run Try.prog w = .ok (.value (.agg cs.toArray)) w := by
  have h := run_loadVar_mid (P := Try.prog) w g 0 31 cs _ hr Try.underlying31 rfl (by rw [hl]; kernel_rfl)
  unfold execOp
  simp only [ho, hx, Instr.loadAt, Instr.sureAddr, Sem.run_bind, Sem.run_pure, Result.andThen_ok, h]
end Go.Proofs.Ytodlfdnegcfhcaa
