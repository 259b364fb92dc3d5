/-
  Contracts and lemmas on which the proofs of this seat stand (several texts in one). Conditions are each theorem's own.
-/
import Derived.Test.YtghbliabmecbcaaDoorMd2

/-
  Layer 24's sessions of the code and the document's: are they the same. Conditions are each theorem's own.
-/
namespace Go.Proofs.YtghbliabmecbcaaDoor
open Go.RowKit Go.Shelf
attribute [local go_sem] Oper.semAt_some
theorem run_load_rdb {o : Oper} {a : Act} {w : World} {x : Operand} {p : Addr} {A : Option Addr} (ho : o.op = .load 28 x) (hx : a.eval x = .pointer (some p)) (hc : w.cell? p = some (.pointer A)) :
    (execOp a.eval o).run Tryd.prog w = .ok (.value (.pointer A)) w := by
  unfold execOp
  simp only [ho, hx, Instr.loadAt, Instr.sureAddr, Sem.run_bind, Sem.run_pure, Result.andThen_ok]
  go_simp
set_option maxRecDepth 100000 in
theorem ld_seR {o : Oper} {a : Act} {w : World} {y : Operand} {g i : Nat} {L : List Value} (ho : o.op = .load 34 y) (hx : a.eval y = .pointer (some ⟨g, i, none⟩)) (hr : w.rangeAt g i L) (hl : L.length = 5) :
    (execOp a.eval o).run Tryd.prog w = .ok (.value (.agg L.toArray)) w := by
  have h := run_loadVar_mid (P := Tryd.prog) w g i 34 L _ hr Tryd.underlying34 rfl (by rw [hl]; kernel_rfl)
  unfold execOp
  simp only [ho, hx, Instr.loadAt, Instr.sureAddr, Sem.run_bind, Sem.run_pure, Result.andThen_ok, h]
theorem eqR_se (x : Sd) (w : World) : (Op.equalIn 10000 34 (.agg (clSe x).toArray) (.agg (clSe x).toArray)).run Tryd.prog w = .ok true w := by
  unfold clSe
  go_simp
section
variable {w : World} {B0 B9 d t1 b1 bm g : Nat} {A : Option Addr} {c : Nat} {v : Value} {most most2 : Int} {S : List (Option Sd)} {f N : Nat}
set_option maxRecDepth 100000 in
set_option maxHeartbeats 4000000 in
theorem ssame (h : Ts w B0 d t1 b1 bm A c most S f N) (q : Rt w B9 g v most2 (docB 0 S)) (hS : (docB 0 S).length ≤ 1000) {b : Int} (hb : wfQ b) : Calls Tryd.prog 19 #[.pointer (some ⟨d, 0, none⟩), .pointer (some ⟨g, 0, none⟩), .int .i64 b] w fun e w' => e = .returned (.bool true) ∧ Below w.heap.size w w' := by
  have HALL : Hid (∀ V, Below w.heap.size w V → Calls Tryd.prog 20 #[.pointer (some ⟨d, 0, none⟩)] V fun e w' => TellS V (docB 0 S) e w') := Lib.hid fun V hV => seall (h.below hV)
  have HOF : Hid (∀ V, Below w.heap.size w V → Calls Tryd.prog 22 #[.pointer (some ⟨d, 0, none⟩), .int .i64 b] V fun e w' => TellS V (ofD (docB 0 S) b) e w') := Lib.hid fun V hV => seof (h.below hV) hb
  have HLEN : Hid (∀ Z V, Below w.heap.size w Z → Boxed Z (w.heap.size + 1) 4 (.bool false) → Kept (fun k => k = w.heap.size + 1) Z V → Calls Tryd.prog 21 #[.pointer (some ⟨d, 0, none⟩)] V fun e w' => e = .returned (.int .i64 ((docB 0 S).length : Int)) ∧ V = w') := Lib.hid fun Z V hZ hr hV => by
    have := selen ((h.below hZ).m.only hV (T := fun u => u = 4) (Only.one hr) (nat_ne (by kernel_rfl)) (nat_ne (by kernel_rfl)) (nat_ne (by kernel_rfl)) (nat_ne (by kernel_rfl)) (nat_ne (by kernel_rfl)))
    rw [show (inE (docB 0 S)).length = (docB 0 S).length from by simp [inE]] at this
    exact this
  obtain ⟨A0, c0, rfl, _, _, _⟩ := q.sh
  clear h
  generalize docB 0 S = DD at *
  obtain ⟨n, hn⟩ : ∃ n, n = DD.length := ⟨_, rfl⟩
  have HN := Lib.hid hn
  have q' : Rt w B9 g (.slice A0 n c0) most2 DD := by rw [hn]; exact q
  have HQ := Lib.hid q'
  have hgz := heap_lt q.tab
  have hn1 : n ≤ 1000 := by rw [hn]; exact hS
  clear q q' hn
  obtain ⟨R, hR⟩ : ∃ R, R = ((w.alloc (.cells #[.pointer (some ⟨g, 0, none⟩)] 28)).alloc (.cells #[.bool false] 4)) := ⟨_, rfl⟩
  have bR : Below w.heap.size w R := by rw [hR]; exact ((Below.refl _ w).alloc (Nat.le_refl _) _).alloc (by simp) _
  have HZR : Hid (R.heap.size = w.heap.size + 1 + 1) := Lib.hid (by rw [hR]; simp)
  have HX0 : Hid (Boxed R w.heap.size 28 (.pointer (some ⟨g, 0, none⟩))) := Lib.hid (by rw [hR]; exact (Boxed.new w 28 _).alloc _)
  have HR0 : Hid (Boxed R (w.heap.size + 1) 4 (.bool false)) := Lib.hid (by
    rw [hR]
    have := Boxed.new (w.alloc (.cells #[.pointer (some ⟨g, 0, none⟩)] 28)) 4 (.bool false)
    rwa [World.size_alloc] at this)
  obtain ⟨V0, hV0⟩ : ∃ V0, V0 = R.alloc (.cells #[.int .i64 0] 3) := ⟨_, rfl⟩
  have hc0 : Boxed V0 (w.heap.size + 1 + 1) 3 (.int .i64 0) := by rw [hV0, ← HZR.out]; exact Boxed.new R _ _
  have bV0 : Below R.heap.size R V0 := by rw [hV0]; exact (Below.refl _ R).alloc (Nat.le_refl _) _
  have HV0 := Lib.hid (show ((w.alloc (.cells #[.pointer (some ⟨g, 0, none⟩)] 28)).alloc (.cells #[.bool false] 4)).alloc (.cells #[.int .i64 0] 3) = V0 from by rw [hV0, hR])
  have hbw : Below w.heap.size w V0 := bR.trans (bV0.mono bR.size)
  clear hR hV0
  refine (callsIn_wide (n := 4)).1 ?_
  refine callsIn_of_wp_marks Tryd.func19 rfl trivial ?_ rfl
  simp only [Tryd.ntmps19, List.size_toArray, List.length_cons, List.length_nil, Nat.reduceAdd, Nat.reduceSub, Array.replicate_succ, Array.replicate_zero, List.push_toArray, List.append_toArray, List.nil_append, List.cons_append]
  gi_upto_region 2 with fail
  rw [HV0.out]
  gi_wp2_with (refine ⟨trivial, ?_⟩; gi_at_call 20; refine (callsIn_wide.2 (HALL.out _ hbw)).mono ?_; rintro e w3 ⟨bx, A3, c3, rfl, hbx3, hb3, hr3, hg3, x3⟩)
  have hc3 := Boxed.below hc0 x3 (Boxed.lt hc0)
  have B3 : Below (w.heap.size + 1 + 1) R w3 := by rw [← HZR.out]; exact bV0.trans (x3.mono bV0.size)
  have hlt2 := Boxed.lt hc0
  have hlt3 : w.heap.size + 1 + 1 < w3.heap.size := Boxed.lt hc3
  have hseq := setell1_seq bx c3 _ A3 DD w3 hb3.cell hr3 (Nat.le_refl _) (by omega) (4 - 1) (by decide)
  have HAL : Hid (∀ ga, A3 = some ga → w.heap.size + 1 + 1 < ga.block ∧ ga.block < w3.heap.size) := Lib.hid (fun ga hga => ⟨by have := (hg3 ga hga).1; omega, (hg3 ga hga).2⟩)
  have HOF2 := HOF
  have BR := Lib.hid bR
  clear hb3 hr3 hg3 x3 HALL hc0 bV0 hbw HV0 hbx3 bR HOF
  refine wpIn_actS (fun a0 ha0 => ?_)
  refine range_toldWS (by omega) (gf := 51) (lb := #[.pointer (some ⟨bx, 0, none⟩)]) (by subst ha0; rfl) (enters_of Tryd.func51 (by kernel_rfl) rfl)
    hseq KeepN.trans (fun V l r r' hl hr => KeepN.loop hr) (Below.refl _ _) (fun _ => rfl)
    (fun pre x V l r r' h _ hl => h)
    (fun pre X => (Boxed X (w.heap.size + 1 + 1) 3 (.int .i64 (pre.length : Int)) ∧ Below (w.heap.size + 1 + 1) R X) ∧ w3.heap.size ≤ X.heap.size)
    (fun _ _ _ => False)
    (fun pre X Y r hs hg hr => ⟨⟨box_keep hs.1.1 hg hr, below_keep hs.1.2 hg hr (by omega) (Nat.le_of_eq HZR.out.symm)⟩, Nat.le_trans hs.2 hg.size⟩)
    (fun cd pre X Y r hs hg hr => hs)
    ⟨⟨hc3, B3⟩, Nat.le_refl _⟩
    (fun x W => { tmps := (((a0.tmps.setIfInBounds 16 (.int .i64 (x.1 : Int))).setIfInBounds 17 (seV x.2)).setIfInBounds 8 (.int .i64 (x.1 : Int))).setIfInBounds 9 (.pointer (some ⟨W.heap.size, 0, none⟩)), defers := [] })
    (fun x W => W.alloc (.cells (clSe x.2).toArray 34))
    (fun x W => World.grownBy_alloc W _ none) (fun pre x W h => h)
    (fun x W hz => KeepN.of_heap (fun ga hga => Below.heap_alloc _ _ _ (by have := (HAL.out ga hga).2; omega))) ?assign ?body ?done ?stop
  case assign =>
    intro l x W K hK
    subst ha0
    dsimp only [encNs]
    simp only [List.setIfInBounds_toArray, List.set_cons_succ, List.set_cons_zero] at hK
    gi_wp2_with ((with_reducible show wpListIn _ _ _ _ _ (Oper.mk _ (Op.store 34 _ _) _ _ _ _ :: _) _ _); refine listR_skip rfl (fun c h => by cases h) (run_store_seN (cs := (clSe x.2).toArray) rfl rfl rfl (World.alloc_heap_new W _) rfl rfl (clSe_one _)) ?_; rw [World.setRow_alloc_new])
    exact hK
  case stop =>
    rintro D cd pre X hD _ hf hK
    exact hf.elim
  case body =>
    rintro l pre x V Y ⟨⟨hcY, hBY⟩, hzY⟩ ⟨more, hmore⟩ ⟨r, hr⟩ hl
    subst ha0
    simp only [List.setIfInBounds_toArray, List.set_cons_succ, List.set_cons_zero]
    have hbx : Y.heap[V.heap.size]? = some (.cells (clSe x.2).toArray 34 (0, 0)) := by
      rw [hr, World.putObj_heap_other (by omega)]
      exact World.alloc_heap_new V _
    obtain ⟨vb, hvb⟩ : ∃ vb, vb = V.heap.size := ⟨_, rfl⟩
    rw [← hvb] at hbx ⊢
    obtain ⟨m, hm⟩ : ∃ m, m = pre.length := ⟨_, rfl⟩
    have hmn : m < n := by rw [hm, HN.out, hmore]; simp
    have hget : DD[m]? = some x := by rw [hmore, hm]; simp
    rw [← hm] at hcY
    have hBR : Below R.heap.size R Y := by rw [HZR.out]; exact hBY
    have hxY := Boxed.below HX0.out hBR (Boxed.lt HX0.out)
    have hqY := HQ.out.below (BR.out.trans (hBR.mono BR.out.size))
    obtain ⟨bb, e0, hbb, hrow⟩ := hqY.at_ hget
    subst e0
    have hY0 := heap_lt hqY.tab
    have KN : Hid (∀ V, Below Y.heap.size Y V → V.cell? ⟨w.heap.size + 1 + 1, 0, none⟩ = some (.int .i64 (m : Int))) := Lib.hid fun V hV => (hV.cell (p := ⟨w.heap.size + 1 + 1, 0, none⟩) (Boxed.lt hcY)).trans hcY.cell
    have KX : Hid (∀ V, Below Y.heap.size Y V → V.cell? ⟨w.heap.size, 0, none⟩ = some (.pointer (some ⟨g, 0, none⟩))) := Lib.hid fun V hV => (hV.cell (p := ⟨w.heap.size, 0, none⟩) (Boxed.lt hxY)).trans hxY.cell
    have KT : Hid (∀ V, Below Y.heap.size Y V → V.cell? ⟨g, 0, none⟩ = some (.slice (some ⟨bb, 0, none⟩) n c0)) := Lib.hid fun V hV => cells_at (i := 0) ((hV.block g hY0).trans hqY.tab) rfl
    have KK : Hid (∀ V, Below Y.heap.size Y V → V.cell? ⟨bb, m * 6, none⟩ = some (.int .i64 (x.1 : Int))) := Lib.hid fun V hV => by simpa using range_belowR hrow hbb hV 0 _ rfl
    have KV : Hid (∀ V, Below Y.heap.size Y V → V.rangeAt bb (m * 6 + 1) (clSe x.2)) := Lib.hid fun V hV => clNu_se (range_belowR hrow hbb hV)
    clear hqY hxY
    have KB : Hid (∀ V, Below Y.heap.size Y V → V.rangeAt vb 0 (clSe x.2)) := Lib.hid fun V hV => range_belowR (box_se hbx) (heap_lt hbx) hV
    have HL8 := Lib.hid (show (clSe x.2).length = 5 from rfl)
    have eS : ∀ w, (Op.equalIn 10000 34 (.agg (clSe x.2).toArray) (.agg (clSe x.2).toArray)).run Tryd.prog w = .ok true w := eqR_se x.2
    have HM2 := Lib.hid hm
    have dm : decide (n ≤ m) = false := by simp; omega
    have dm' : decide ((n : Int) ≤ (m : Int)) = false := by simp; omega
    have dk : ((x.1 : Int) == (x.1 : Int)) = true := by simp
    have cn : Y.drew.cell? ⟨w.heap.size + 1 + 1, 0, none⟩ = some (.int .i64 (m : Int)) := hcY.cell
    have fn_ : Y.drew.frozen? ⟨w.heap.size + 1 + 1, 0, none⟩ = false := hcY.frozen
    have HCY := Lib.hid hcY
    have HBY := Lib.hid hBY
    clear hmore hget hm hrow hr hbx hvb hl hBR hcY hBY
    unfold seV
    generalize clSe x.2 = LL at *
    gi_upto_region 5 with fail
    refine region_roundH (S := fun w' => Below Y.heap.size Y w') (by kernel_rfl) (by kernel_rfl) (fun h => by obtain ⟨_, _, h⟩ := h; exact h) (Below.refl _ Y).drew (fun hS => ?_)
    refine held_pure (i := 0) (oi := ⟨some 18, _, _, _, _, _⟩) rfl (by kernel_rfl) (by kernel_rfl) (by kernel_rfl) (fun _ _ _ h => h) (by rfl) (fun w hSw => run_load_int rfl rfl (KN.out _ hSw)) hS (fun hS => ?_)
    try go_frame
    refine held_pure (i := 1) (oi := ⟨some 19, _, _, _, _, _⟩) rfl (by kernel_rfl) (by kernel_rfl) (by kernel_rfl) (fun _ _ _ h => h) (by rfl) (fun w hSw => run_load_rdb rfl rfl (KX.out _ hSw)) hS (fun hS => ?_)
    try go_frame
    refine held_pure (i := 2) (oi := ⟨some 20, _, _, _, _, _⟩) rfl (by kernel_rfl) (by kernel_rfl) (by kernel_rfl) (fun _ _ _ h => h) (by rfl) (v := ?_) (fun w hSw => ?_) hS (fun hS => ?_)
    rotate_left
    · go_simp; try with_reducible rfl
    try go_frame
    refine held_pure (i := 3) (oi := ⟨some 21, _, _, _, _, _⟩) rfl (by kernel_rfl) (by kernel_rfl) (by kernel_rfl) (fun _ _ _ h => h) (by rfl) (v := ?_) (fun w hSw => ?_) hS (fun hS => ?_)
    rotate_left
    · go_simp; try with_reducible rfl
    try go_frame
    refine held_pure (i := 4) (oi := ⟨some 22, _, _, _, _, _⟩) rfl (by kernel_rfl) (by kernel_rfl) (by kernel_rfl) (fun _ _ _ h => h) (by rfl) (fun w hSw => run_load_rsl rfl rfl (KT.out _ hSw)) hS (fun hS => ?_)
    try go_frame
    refine held_pure (i := 5) (oi := ⟨some 23, _, _, _, _, _⟩) rfl (by kernel_rfl) (by kernel_rfl) (by kernel_rfl) (fun _ _ _ h => h) (by rfl) (v := ?_) (fun w hSw => ?_) hS (fun hS => ?_)
    rotate_left
    · go_simp; try with_reducible rfl
    try go_frame
    refine held_pure (i := 6) (oi := ⟨some 24, _, _, _, _, _⟩) rfl (by kernel_rfl) (by kernel_rfl) (by kernel_rfl) (fun _ _ _ h => h) (by rfl) (v := .bool false) (fun w hSw => by go_simp; try exact dm') hS (fun hS => ?_)
    try go_frame
    refine held_pure (i := 7) (oi := ⟨some 25, _, _, _, _, _⟩) rfl (by kernel_rfl) (by kernel_rfl) (by kernel_rfl) (fun _ _ _ h => h) (by rfl) (v := ?_) (fun w hSw => ?_) hS (fun hS => ?_)
    rotate_left
    · go_simp; try with_reducible rfl
    try go_frame
    refine held_pure (i := 8) (oi := ⟨some 26, _, _, _, _, _⟩) rfl (by kernel_rfl) (by kernel_rfl) (by kernel_rfl) (fun _ _ _ h => h) (by rfl) (fun w hSw => run_load_rdb rfl rfl (KX.out _ hSw)) hS (fun hS => ?_)
    try go_frame
    refine held_pure (i := 9) (oi := ⟨some 27, _, _, _, _, _⟩) rfl (by kernel_rfl) (by kernel_rfl) (by kernel_rfl) (fun _ _ _ h => h) (by rfl) (v := ?_) (fun w hSw => ?_) hS (fun hS => ?_)
    rotate_left
    · go_simp; try with_reducible rfl
    try go_frame
    refine held_pure (i := 10) (oi := ⟨some 28, _, _, _, _, _⟩) rfl (by kernel_rfl) (by kernel_rfl) (by kernel_rfl) (fun _ _ _ h => h) (by rfl) (v := ?_) (fun w hSw => ?_) hS (fun hS => ?_)
    rotate_left
    · go_simp; try with_reducible rfl
    try go_frame
    refine held_pure (i := 11) (oi := ⟨some 29, _, _, _, _, _⟩) rfl (by kernel_rfl) (by kernel_rfl) (by kernel_rfl) (fun _ _ _ h => h) (by rfl) (fun w hSw => run_load_rsl rfl rfl (KT.out _ hSw)) hS (fun hS => ?_)
    try go_frame
    refine held_pure (i := 12) (oi := ⟨some 30, _, _, _, _, _⟩) rfl (by kernel_rfl) (by kernel_rfl) (by kernel_rfl) (fun _ _ _ h => h) (by rfl) (fun w hSw => run_load_int rfl rfl (KN.out _ hSw)) hS (fun hS => ?_)
    try go_frame
    refine held_pure (i := 13) (oi := ⟨some 31, _, _, _, _, _⟩) rfl (by kernel_rfl) (by kernel_rfl) (by kernel_rfl) (fun _ _ _ h => h) (by rfl) (v := .pointer (some ⟨bb, m * 6, none⟩)) (fun w hSw => by go_simp; try exact fun h => absurd h (by omega)) hS (fun hS => ?_)
    try go_frame
    refine held_pure (i := 14) (oi := ⟨some 32, _, _, _, _, _⟩) rfl (by kernel_rfl) (by kernel_rfl) (by kernel_rfl) (fun _ _ _ h => h) (by rfl) (v := ?_) (fun w hSw => ?_) hS (fun hS => ?_)
    rotate_left
    · go_simp; try with_reducible rfl
    try go_frame
    refine held_pure (i := 15) (oi := ⟨some 33, _, _, _, _, _⟩) rfl (by kernel_rfl) (by kernel_rfl) (by kernel_rfl) (fun _ _ _ h => h) (by rfl) (fun w hSw => run_load_int rfl rfl (KK.out _ hSw)) hS (fun hS => ?_)
    try go_frame
    refine held_pure (i := 16) (oi := ⟨some 34, _, _, _, _, _⟩) rfl (by kernel_rfl) (by kernel_rfl) (by kernel_rfl) (fun _ _ _ h => h) (by rfl) (v := ?_) (fun w hSw => ?_) hS (fun hS => ?_)
    rotate_left
    · go_simp; try with_reducible rfl
    try go_frame
    refine held_pure (i := 17) (oi := ⟨some 35, _, _, _, _, _⟩) rfl (by kernel_rfl) (by kernel_rfl) (by kernel_rfl) (fun _ _ _ h => h) (by rfl) (v := .bool false) (fun w hSw => by go_simp; try exact dk) hS (fun hS => ?_)
    try go_frame
    refine held_pure (i := 18) (oi := ⟨some 36, _, _, _, _, _⟩) rfl (by kernel_rfl) (by kernel_rfl) (by kernel_rfl) (fun _ _ _ h => h) (by rfl) (v := ?_) (fun w hSw => ?_) hS (fun hS => ?_)
    rotate_left
    · go_simp; try with_reducible rfl
    try go_frame
    refine held_pure (i := 19) (oi := ⟨some 37, _, _, _, _, _⟩) rfl (by kernel_rfl) (by kernel_rfl) (by kernel_rfl) (fun _ _ _ h => h) (by rfl) (v := ?_) (fun w hSw => ?_) hS (fun hS => ?_)
    rotate_left
    · go_simp; try with_reducible rfl
    try go_frame
    refine held_pure (i := 20) (oi := ⟨some 38, _, _, _, _, _⟩) rfl (by kernel_rfl) (by kernel_rfl) (by kernel_rfl) (fun _ _ _ h => h) (by rfl) (fun w hSw => run_load_rdb rfl rfl (KX.out _ hSw)) hS (fun hS => ?_)
    try go_frame
    refine held_pure (i := 21) (oi := ⟨some 39, _, _, _, _, _⟩) rfl (by kernel_rfl) (by kernel_rfl) (by kernel_rfl) (fun _ _ _ h => h) (by rfl) (v := ?_) (fun w hSw => ?_) hS (fun hS => ?_)
    rotate_left
    · go_simp; try with_reducible rfl
    try go_frame
    refine held_pure (i := 22) (oi := ⟨some 40, _, _, _, _, _⟩) rfl (by kernel_rfl) (by kernel_rfl) (by kernel_rfl) (fun _ _ _ h => h) (by rfl) (v := ?_) (fun w hSw => ?_) hS (fun hS => ?_)
    rotate_left
    · go_simp; try with_reducible rfl
    try go_frame
    refine held_pure (i := 23) (oi := ⟨some 41, _, _, _, _, _⟩) rfl (by kernel_rfl) (by kernel_rfl) (by kernel_rfl) (fun _ _ _ h => h) (by rfl) (fun w hSw => run_load_rsl rfl rfl (KT.out _ hSw)) hS (fun hS => ?_)
    try go_frame
    refine held_pure (i := 24) (oi := ⟨some 42, _, _, _, _, _⟩) rfl (by kernel_rfl) (by kernel_rfl) (by kernel_rfl) (fun _ _ _ h => h) (by rfl) (fun w hSw => run_load_int rfl rfl (KN.out _ hSw)) hS (fun hS => ?_)
    try go_frame
    refine held_pure (i := 25) (oi := ⟨some 43, _, _, _, _, _⟩) rfl (by kernel_rfl) (by kernel_rfl) (by kernel_rfl) (fun _ _ _ h => h) (by rfl) (v := .pointer (some ⟨bb, m * 6, none⟩)) (fun w hSw => by go_simp; try exact fun h => absurd h (by omega)) hS (fun hS => ?_)
    try go_frame
    refine held_pure (i := 26) (oi := ⟨some 44, _, _, _, _, _⟩) rfl (by kernel_rfl) (by kernel_rfl) (by kernel_rfl) (fun _ _ _ h => h) (by rfl) (v := ?_) (fun w hSw => ?_) hS (fun hS => ?_)
    rotate_left
    · go_simp; try with_reducible rfl
    try go_frame
    refine held_pure (i := 27) (oi := ⟨some 45, _, _, _, _, _⟩) rfl (by kernel_rfl) (by kernel_rfl) (by kernel_rfl) (fun _ _ _ h => h) (by rfl) (fun w hSw => ld_seR rfl rfl (KV.out _ hSw) HL8.out) hS (fun hS => ?_)
    try go_frame
    refine held_pure (i := 28) (oi := ⟨some 46, _, _, _, _, _⟩) rfl (by kernel_rfl) (by kernel_rfl) (by kernel_rfl) (fun _ _ _ h => h) (by rfl) (fun w hSw => ld_seR rfl rfl (KB.out _ hSw) HL8.out) hS (fun hS => ?_)
    try go_frame
    refine held_pure (i := 29) (oi := ⟨some 47, _, _, _, _, _⟩) rfl (by kernel_rfl) (by kernel_rfl) (by kernel_rfl) (fun _ _ _ h => h) (by rfl) (v := .bool false) (fun w hSw => by go_simp) hS (fun hS => ?_)
    try go_frame
    refine held_pure (i := 30) (oi := ⟨some 48, _, _, _, _, _⟩) rfl (by kernel_rfl) (by kernel_rfl) (by kernel_rfl) (fun _ _ _ h => h) (by rfl) (v := ?_) (fun w hSw => ?_) hS (fun hS => ?_)
    rotate_left
    · go_simp; try with_reducible rfl
    try go_frame
    refine wpAnyH_done (by kernel_rfl) ?_ _
    gi_wp2
    have hk := (KeepsOthers.setCell Y ⟨w.heap.size + 1 + 1, 0, none⟩ (.int .i64 ((m : Int) + 1))).from w3.heap.size
    have hne : ∀ B : Nat, B ≠ w.heap.size + 1 + 1 → (Y.setCell ⟨w.heap.size + 1 + 1, 0, none⟩ (.int .i64 ((m : Int) + 1))).heap[B]? = Y.heap[B]? := fun B hB => heap_setCell_other Y ⟨w.heap.size + 1 + 1, 0, none⟩ B _ hB
    refine ⟨⟨hk.size, hk.same⟩, KeepN.of_heap (fun ga hga => hne ga.block (by have := (HAL.out ga hga).1; omega)), ⟨?_, (HBY.out.setCell (p := ⟨w.heap.size + 1 + 1, 0, none⟩) (Nat.le_refl _) _).drew⟩, Nat.le_trans hzY hk.size⟩
    rw [show ((pre ++ [x]).length : Int) = (m : Int) + 1 from by rw [HM2.out]; simp]
    exact Boxed.set _ HCY.out
  case done =>
    rintro D xs X hD hxs ⟨⟨hcX, hBX⟩, hzX⟩ hK
    subst ha0
    rw [hxs, ← HN.out] at hcX
    have hBR : Below R.heap.size R X := by rw [HZR.out]; exact hBX
    have hBw : Below w.heap.size w X := BR.out.trans (hBR.mono BR.out.size)
    have HXX := Lib.hid (Boxed.below HX0.out hBR (Boxed.lt HX0.out))
    have HRX := Lib.hid (Boxed.below HR0.out hBR (Boxed.lt HR0.out))
    have kx := HXX.out.cell
    have HQX := Lib.hid (HQ.out.below hBw)
    have HCX := Lib.hid hcX
    have HKD := Lib.hid hK
    have HBW := Lib.hid hBw
    clear hseq hxs hBR hBX hcX hK hBw
    gi_upto_region 8 with fail
    refine wpIn_wide.2 ?_
    go_wp2_with (go_at_call 33; refine (r24of HQX.out (by rw [← HN.out]; exact hn1) b).mono ?_; rintro e y1 ⟨A5, c5, rfl, hrd5, x5⟩)
    gi_upto_region 10 with fail
    obtain ⟨OD, hOD⟩ : ∃ OD, OD = ofD DD b := ⟨_, rfl⟩
    have HOD := Lib.hid hOD
    rw [← hOD] at hrd5 ⊢
    obtain ⟨p2, hp2⟩ : ∃ p2, p2 = OD.length := ⟨_, rfl⟩
    have HP2 := Lib.hid hp2
    have hp2n : p2 ≤ 1000 := by have h1 := ofD_len (D := DD) (b := b); rw [← hOD, ← hp2, ← HN.out] at h1; omega
    rw [← hp2]
    obtain ⟨R2, hR2⟩ : ∃ R2, R2 = y1.alloc (.cells #[.slice A5 p2 c5] 61) := ⟨_, rfl⟩
    have b52 : Below y1.heap.size y1 R2 := by rw [hR2]; exact (Below.refl _ y1).alloc (Nat.le_refl _) _
    have HZ2 : Hid (R2.heap.size = y1.heap.size + 1) := Lib.hid (by rw [hR2]; simp)
    have HSB : Hid (Boxed R2 y1.heap.size 61 (.slice A5 p2 c5)) := Lib.hid (by rw [hR2]; exact Boxed.new y1 _ _)
    have X2 := Lib.hid (x5.trans (b52.mono x5.size))
    have HR5 := Lib.hid ((hrd5.below b52).more b52.size)
    obtain ⟨V2, hV2⟩ : ∃ V2, V2 = R2.alloc (.cells #[.int .i64 0] 3) := ⟨_, rfl⟩
    have hc02 : Boxed V2 (y1.heap.size + 1) 3 (.int .i64 0) := by rw [hV2, ← HZ2.out]; exact Boxed.new R2 _ _
    have bV2 : Below R2.heap.size R2 V2 := by rw [hV2]; exact (Below.refl _ R2).alloc (Nat.le_refl _) _
    have HV2 := Lib.hid (show (y1.alloc (.cells #[.slice A5 p2 c5] 61)).alloc (.cells #[.int .i64 0] 3) = V2 from by rw [hV2, hR2])
    have hbw2 : Below w.heap.size w V2 := (HBW.out.trans (X2.out.mono HBW.out.size)).trans (bV2.mono (by have := HBW.out.size; have := X2.out.size; omega))
    have hyz : X.heap.size ≤ y1.heap.size := x5.size
    clear hR2 hV2 hOD hp2 hrd5 x5 b52
    rw [HV2.out]
    gi_wp2_with (refine ⟨trivial, ?_⟩; gi_at_call 22; refine (callsIn_wide.2 (HOF2.out _ hbw2)).mono ?_; rintro e w4 ⟨bx4, A4, c4, rfl, hbx4, hb4, hr4, hg4, x4⟩)
    rw [← HOD.out] at hb4 hr4
    have hc4 := Boxed.below hc02 x4 (Boxed.lt hc02)
    have B4 : Below (y1.heap.size + 1) R2 w4 := by rw [← HZ2.out]; exact bV2.trans (x4.mono bV2.size)
    have hlt4 := Boxed.lt hc02
    have hlt5 : y1.heap.size + 1 < w4.heap.size := Boxed.lt hc4
    have hseq2 := setell1_seq bx4 c4 _ A4 OD w4 hb4.cell hr4 (Nat.le_refl _) (by rw [← HP2.out]; omega) (4 - 1) (by decide)
    have HAL4 : Hid (∀ ga, A4 = some ga → y1.heap.size + 1 < ga.block ∧ ga.block < w4.heap.size) := Lib.hid (fun ga hga => ⟨by have := (hg4 ga hga).1; omega, (hg4 ga hga).2⟩)
    clear hb4 hr4 hg4 x4 hc02 bV2 hbw2 HV2 hbx4 kx
    refine wpIn_actS (fun a0 ha0 => ?_)
    refine range_toldWS (by omega) (gf := 51) (lb := #[.pointer (some ⟨bx4, 0, none⟩)]) (by subst ha0; rfl) (enters_of Tryd.func51 (by kernel_rfl) rfl)
      hseq2 KeepN.trans (fun V l r r' hl hr => KeepN.loop hr) (Below.refl _ _) (fun _ => rfl)
      (fun pre x V l r r' h _ hl => h)
      (fun pre X => (Boxed X (y1.heap.size + 1) 3 (.int .i64 (pre.length : Int)) ∧ Below (y1.heap.size + 1) R2 X) ∧ w4.heap.size ≤ X.heap.size)
      (fun _ _ _ => False)
      (fun pre X Y r hs hg hr => ⟨⟨box_keep hs.1.1 hg hr, below_keep hs.1.2 hg hr (by omega) (Nat.le_of_eq HZ2.out.symm)⟩, Nat.le_trans hs.2 hg.size⟩)
      (fun cd pre X Y r hs hg hr => hs)
      ⟨⟨hc4, B4⟩, Nat.le_refl _⟩
      (fun x W => { tmps := (((a0.tmps.setIfInBounds 57 (.int .i64 (x.1 : Int))).setIfInBounds 58 (seV x.2)).setIfInBounds 12 (.int .i64 (x.1 : Int))).setIfInBounds 13 (.pointer (some ⟨W.heap.size, 0, none⟩)), defers := [] })
      (fun x W => W.alloc (.cells (clSe x.2).toArray 34))
      (fun x W => World.grownBy_alloc W _ none) (fun pre x W h => h)
      (fun x W hz => KeepN.of_heap (fun ga hga => Below.heap_alloc _ _ _ (by have := (HAL4.out ga hga).2; omega))) ?assign ?body ?done ?stop
    case assign =>
      intro l x W K hK
      subst ha0
      dsimp only [encNs]
      simp only [List.setIfInBounds_toArray, List.set_cons_succ, List.set_cons_zero] at hK
      gi_wp2_with ((with_reducible show wpListIn _ _ _ _ _ (Oper.mk _ (Op.store 34 _ _) _ _ _ _ :: _) _ _); refine listR_skip rfl (fun c h => by cases h) (run_store_seN (cs := (clSe x.2).toArray) rfl rfl rfl (World.alloc_heap_new W _) rfl rfl (clSe_one _)) ?_; rw [World.setRow_alloc_new])
      exact hK
    case stop =>
      rintro D cd pre X hD _ hf hK
      exact hf.elim
    case body =>
      rintro l pre x V Y ⟨⟨hcY, hBY⟩, hzY⟩ ⟨more, hmore⟩ ⟨r, hr⟩ hl
      subst ha0
      simp only [List.setIfInBounds_toArray, List.set_cons_succ, List.set_cons_zero]
      have hbx : Y.heap[V.heap.size]? = some (.cells (clSe x.2).toArray 34 (0, 0)) := by
        rw [hr, World.putObj_heap_other (by omega)]
        exact World.alloc_heap_new V _
      obtain ⟨vb, hvb⟩ : ∃ vb, vb = V.heap.size := ⟨_, rfl⟩
      rw [← hvb] at hbx ⊢
      obtain ⟨m, hm⟩ : ∃ m, m = pre.length := ⟨_, rfl⟩
      have hmn : m < p2 := by rw [hm, HP2.out, hmore]; simp
      have hget : OD[m]? = some x := by rw [hmore, hm]; simp
      rw [← hm] at hcY
      have hBR : Below R2.heap.size R2 Y := by rw [HZ2.out]; exact hBY
      have hsY := Boxed.below HSB.out hBR (Boxed.lt HSB.out)
      have hrdY := (HR5.out.below hBR).more hBR.size
      obtain ⟨bb, o5, e0, hbb, hrow0⟩ := hrdY (by rw [← HP2.out]; omega)
      subst e0
      have hrow := hrow0 m x hget
      clear hrow0 hrdY
      have KN : Hid (∀ V, Below Y.heap.size Y V → V.cell? ⟨y1.heap.size + 1, 0, none⟩ = some (.int .i64 (m : Int))) := Lib.hid fun V hV => (hV.cell (p := ⟨y1.heap.size + 1, 0, none⟩) (Boxed.lt hcY)).trans hcY.cell
      have KT : Hid (∀ V, Below Y.heap.size Y V → V.cell? ⟨y1.heap.size, 0, none⟩ = some (.slice (some ⟨bb, o5, none⟩) p2 c5)) := Lib.hid fun V hV => (hV.cell (p := ⟨y1.heap.size, 0, none⟩) (Boxed.lt hsY)).trans hsY.cell
      have KK : Hid (∀ V, Below Y.heap.size Y V → V.cell? ⟨bb, o5 + m * 6, none⟩ = some (.int .i64 (x.1 : Int))) := Lib.hid fun V hV => by simpa using range_belowR hrow hbb hV 0 _ rfl
      have KV : Hid (∀ V, Below Y.heap.size Y V → V.rangeAt bb (o5 + m * 6 + 1) (clSe x.2)) := Lib.hid fun V hV => clNu_se (range_belowR hrow hbb hV)
      clear hsY
      have KB : Hid (∀ V, Below Y.heap.size Y V → V.rangeAt vb 0 (clSe x.2)) := Lib.hid fun V hV => range_belowR (box_se hbx) (heap_lt hbx) hV
      have HL8 := Lib.hid (show (clSe x.2).length = 5 from rfl)
      have eS : ∀ w, (Op.equalIn 10000 34 (.agg (clSe x.2).toArray) (.agg (clSe x.2).toArray)).run Tryd.prog w = .ok true w := eqR_se x.2
      have HM2 := Lib.hid hm
      have dm : decide (p2 ≤ m) = false := by simp; omega
      have dm' : decide ((p2 : Int) ≤ (m : Int)) = false := by simp; omega
      have dk : ((x.1 : Int) == (x.1 : Int)) = true := by simp
      have cn : Y.drew.cell? ⟨y1.heap.size + 1, 0, none⟩ = some (.int .i64 (m : Int)) := hcY.cell
      have fn_ : Y.drew.frozen? ⟨y1.heap.size + 1, 0, none⟩ = false := hcY.frozen
      have HCY := Lib.hid hcY
      have HBY := Lib.hid hBY
      clear hmore hget hm hrow hr hbx hvb hl hBR hcY hBY
      unfold seV
      generalize clSe x.2 = LL at *
      gi_upto_region 13 with fail
      refine region_roundH (S := fun w' => Below Y.heap.size Y w') (by kernel_rfl) (by kernel_rfl) (fun h => by obtain ⟨_, _, h⟩ := h; exact h) (Below.refl _ Y).drew (fun hS => ?_)
      refine held_pure (i := 0) (oi := ⟨some 59, _, _, _, _, _⟩) rfl (by kernel_rfl) (by kernel_rfl) (by kernel_rfl) (fun _ _ _ h => h) (by rfl) (fun w hSw => run_load_int rfl rfl (KN.out _ hSw)) hS (fun hS => ?_)
      try go_frame
      refine held_pure (i := 1) (oi := ⟨some 60, _, _, _, _, _⟩) rfl (by kernel_rfl) (by kernel_rfl) (by kernel_rfl) (fun _ _ _ h => h) (by rfl) (fun w hSw => run_load_rsl rfl rfl (KT.out _ hSw)) hS (fun hS => ?_)
      try go_frame
      refine held_pure (i := 2) (oi := ⟨some 61, _, _, _, _, _⟩) rfl (by kernel_rfl) (by kernel_rfl) (by kernel_rfl) (fun _ _ _ h => h) (by rfl) (v := ?_) (fun w hSw => ?_) hS (fun hS => ?_)
      rotate_left
      · go_simp; try with_reducible rfl
      try go_frame
      refine held_pure (i := 3) (oi := ⟨some 62, _, _, _, _, _⟩) rfl (by kernel_rfl) (by kernel_rfl) (by kernel_rfl) (fun _ _ _ h => h) (by rfl) (v := .bool false) (fun w hSw => by go_simp; try exact dm') hS (fun hS => ?_)
      try go_frame
      refine held_pure (i := 4) (oi := ⟨some 63, _, _, _, _, _⟩) rfl (by kernel_rfl) (by kernel_rfl) (by kernel_rfl) (fun _ _ _ h => h) (by rfl) (v := ?_) (fun w hSw => ?_) hS (fun hS => ?_)
      rotate_left
      · go_simp; try with_reducible rfl
      try go_frame
      refine held_pure (i := 5) (oi := ⟨some 64, _, _, _, _, _⟩) rfl (by kernel_rfl) (by kernel_rfl) (by kernel_rfl) (fun _ _ _ h => h) (by rfl) (fun w hSw => run_load_rsl rfl rfl (KT.out _ hSw)) hS (fun hS => ?_)
      try go_frame
      refine held_pure (i := 6) (oi := ⟨some 65, _, _, _, _, _⟩) rfl (by kernel_rfl) (by kernel_rfl) (by kernel_rfl) (fun _ _ _ h => h) (by rfl) (fun w hSw => run_load_int rfl rfl (KN.out _ hSw)) hS (fun hS => ?_)
      try go_frame
      refine held_pure (i := 7) (oi := ⟨some 66, _, _, _, _, _⟩) rfl (by kernel_rfl) (by kernel_rfl) (by kernel_rfl) (fun _ _ _ h => h) (by rfl) (v := .pointer (some ⟨bb, o5 + m * 6, none⟩)) (fun w hSw => by go_simp; try exact fun h => absurd h (by omega)) hS (fun hS => ?_)
      try go_frame
      refine held_pure (i := 8) (oi := ⟨some 67, _, _, _, _, _⟩) rfl (by kernel_rfl) (by kernel_rfl) (by kernel_rfl) (fun _ _ _ h => h) (by rfl) (v := ?_) (fun w hSw => ?_) hS (fun hS => ?_)
      rotate_left
      · go_simp; try with_reducible rfl
      try go_frame
      refine held_pure (i := 9) (oi := ⟨some 68, _, _, _, _, _⟩) rfl (by kernel_rfl) (by kernel_rfl) (by kernel_rfl) (fun _ _ _ h => h) (by rfl) (fun w hSw => run_load_int rfl rfl (KK.out _ hSw)) hS (fun hS => ?_)
      try go_frame
      refine held_pure (i := 10) (oi := ⟨some 69, _, _, _, _, _⟩) rfl (by kernel_rfl) (by kernel_rfl) (by kernel_rfl) (fun _ _ _ h => h) (by rfl) (v := ?_) (fun w hSw => ?_) hS (fun hS => ?_)
      rotate_left
      · go_simp; try with_reducible rfl
      try go_frame
      refine held_pure (i := 11) (oi := ⟨some 70, _, _, _, _, _⟩) rfl (by kernel_rfl) (by kernel_rfl) (by kernel_rfl) (fun _ _ _ h => h) (by rfl) (v := .bool false) (fun w hSw => by go_simp; try exact dk) hS (fun hS => ?_)
      try go_frame
      refine held_pure (i := 12) (oi := ⟨some 71, _, _, _, _, _⟩) rfl (by kernel_rfl) (by kernel_rfl) (by kernel_rfl) (fun _ _ _ h => h) (by rfl) (v := ?_) (fun w hSw => ?_) hS (fun hS => ?_)
      rotate_left
      · go_simp; try with_reducible rfl
      try go_frame
      refine held_pure (i := 13) (oi := ⟨some 72, _, _, _, _, _⟩) rfl (by kernel_rfl) (by kernel_rfl) (by kernel_rfl) (fun _ _ _ h => h) (by rfl) (v := ?_) (fun w hSw => ?_) hS (fun hS => ?_)
      rotate_left
      · go_simp; try with_reducible rfl
      try go_frame
      refine held_pure (i := 14) (oi := ⟨some 73, _, _, _, _, _⟩) rfl (by kernel_rfl) (by kernel_rfl) (by kernel_rfl) (fun _ _ _ h => h) (by rfl) (fun w hSw => run_load_rsl rfl rfl (KT.out _ hSw)) hS (fun hS => ?_)
      try go_frame
      refine held_pure (i := 15) (oi := ⟨some 74, _, _, _, _, _⟩) rfl (by kernel_rfl) (by kernel_rfl) (by kernel_rfl) (fun _ _ _ h => h) (by rfl) (fun w hSw => run_load_int rfl rfl (KN.out _ hSw)) hS (fun hS => ?_)
      try go_frame
      refine held_pure (i := 16) (oi := ⟨some 75, _, _, _, _, _⟩) rfl (by kernel_rfl) (by kernel_rfl) (by kernel_rfl) (fun _ _ _ h => h) (by rfl) (v := .pointer (some ⟨bb, o5 + m * 6, none⟩)) (fun w hSw => by go_simp; try exact fun h => absurd h (by omega)) hS (fun hS => ?_)
      try go_frame
      refine held_pure (i := 17) (oi := ⟨some 76, _, _, _, _, _⟩) rfl (by kernel_rfl) (by kernel_rfl) (by kernel_rfl) (fun _ _ _ h => h) (by rfl) (v := ?_) (fun w hSw => ?_) hS (fun hS => ?_)
      rotate_left
      · go_simp; try with_reducible rfl
      try go_frame
      refine held_pure (i := 18) (oi := ⟨some 77, _, _, _, _, _⟩) rfl (by kernel_rfl) (by kernel_rfl) (by kernel_rfl) (fun _ _ _ h => h) (by rfl) (fun w hSw => ld_seR rfl rfl (KV.out _ hSw) HL8.out) hS (fun hS => ?_)
      try go_frame
      refine held_pure (i := 19) (oi := ⟨some 78, _, _, _, _, _⟩) rfl (by kernel_rfl) (by kernel_rfl) (by kernel_rfl) (fun _ _ _ h => h) (by rfl) (fun w hSw => ld_seR rfl rfl (KB.out _ hSw) HL8.out) hS (fun hS => ?_)
      try go_frame
      refine held_pure (i := 20) (oi := ⟨some 79, _, _, _, _, _⟩) rfl (by kernel_rfl) (by kernel_rfl) (by kernel_rfl) (fun _ _ _ h => h) (by rfl) (v := .bool false) (fun w hSw => by go_simp) hS (fun hS => ?_)
      try go_frame
      refine held_pure (i := 21) (oi := ⟨some 80, _, _, _, _, _⟩) rfl (by kernel_rfl) (by kernel_rfl) (by kernel_rfl) (fun _ _ _ h => h) (by rfl) (v := ?_) (fun w hSw => ?_) hS (fun hS => ?_)
      rotate_left
      · go_simp; try with_reducible rfl
      try go_frame
      refine wpAnyH_done (by kernel_rfl) ?_ _
      gi_wp2
      have hk := (KeepsOthers.setCell Y ⟨y1.heap.size + 1, 0, none⟩ (.int .i64 ((m : Int) + 1))).from w4.heap.size
      have hne : ∀ B : Nat, B ≠ y1.heap.size + 1 → (Y.setCell ⟨y1.heap.size + 1, 0, none⟩ (.int .i64 ((m : Int) + 1))).heap[B]? = Y.heap[B]? := fun B hB => heap_setCell_other Y ⟨y1.heap.size + 1, 0, none⟩ B _ hB
      refine ⟨⟨hk.size, hk.same⟩, KeepN.of_heap (fun ga hga => hne ga.block (by have := (HAL4.out ga hga).1; omega)), ⟨?_, (HBY.out.setCell (p := ⟨y1.heap.size + 1, 0, none⟩) (Nat.le_refl _) _).drew⟩, Nat.le_trans hzY hk.size⟩
      rw [show ((pre ++ [x]).length : Int) = (m : Int) + 1 from by rw [HM2.out]; simp]
      exact Boxed.set _ HCY.out
    case done =>
      rintro D2 xs Z hD2 hxs ⟨⟨hcZ, hBZ⟩, hzZ⟩ hK2
      subst ha0
      rw [hxs, ← HP2.out] at hcZ
      have hBR : Below R2.heap.size R2 Z := by rw [HZ2.out]; exact hBZ
      have hXZ : Below X.heap.size X Z := X2.out.trans (hBR.mono X2.out.size)
      have hBZw : Below w.heap.size w Z := HBW.out.trans (hXZ.mono HBW.out.size)
      have hm0 : Marks w3.heap.size X.heap.size [{ target := .collected D, args := #[] }] X := (Marks.push (hi := D) (ds := []) trivial (Nat.le_refl _) hD HKD.out).more (heap_lt HKD.out)
      have hm1 : Marks w3.heap.size Z.heap.size [{ target := .collected D2, args := #[] }, { target := .collected D, args := #[] }] Z := (Marks.push (hm0.keep (fun k h1 h2 => hXZ.block k h2)) (by omega) (by omega) hK2).more (heap_lt hK2)
      have hqZ := HQ.out.below hBZw
      have hgZ := heap_lt hqZ.tab
      have hxZ := Boxed.below HXX.out hXZ (Boxed.lt HXX.out)
      have hcnZ := Boxed.below HCX.out hXZ (Boxed.lt HCX.out)
      have hsZ := Boxed.below HSB.out hBR (Boxed.lt HSB.out)
      have HRZ := Lib.hid (Boxed.below HRX.out hXZ (Boxed.lt HRX.out))
      have hgr : g ≠ w.heap.size + 1 := by omega
      have hlr := Boxed.lt HRX.out
      have KN : Hid (∀ V, Kept (fun k => k = w.heap.size + 1) Z V → V.cell? ⟨w.heap.size + 1 + 1, 0, none⟩ = some (.int .i64 (n : Int))) := Lib.hid fun V hV => (Boxed.keptH hcnZ hV (by omega)).cell
      have KX : Hid (∀ V, Kept (fun k => k = w.heap.size + 1) Z V → V.cell? ⟨w.heap.size, 0, none⟩ = some (.pointer (some ⟨g, 0, none⟩))) := Lib.hid fun V hV => (Boxed.keptH hxZ hV (by omega)).cell
      have KT : Hid (∀ V, Kept (fun k => k = w.heap.size + 1) Z V → V.cell? ⟨g, 0, none⟩ = some (.slice A0 n c0)) := Lib.hid fun V hV => cells_at (i := 0) ((hV.block g hgZ hgr).trans hqZ.tab) rfl
      have KN2 : Hid (∀ V, Kept (fun k => k = w.heap.size + 1) Z V → V.cell? ⟨y1.heap.size + 1, 0, none⟩ = some (.int .i64 (p2 : Int))) := Lib.hid fun V hV => (Boxed.keptH hcZ hV (by omega)).cell
      have KS2 : Hid (∀ V, Kept (fun k => k = w.heap.size + 1) Z V → V.cell? ⟨y1.heap.size, 0, none⟩ = some (.slice A5 p2 c5)) := Lib.hid fun V hV => (Boxed.keptH hsZ hV (by omega)).cell
      have HM1 := Lib.hid hm1
      have HBZ := Lib.hid hBZw
      clear hqZ hxZ hcnZ hsZ hm0 hm1 hseq2 hBR hXZ hBZ hcZ hxs hK2
      gi_upto_region 16 with fail
      refine wpIn_mono (Q := noPanic _) ?_ noPanic_to
      refine wpIn_wide.2 ?_
      refine wp_region_held_drew (S := Kept (fun k => k = w.heap.size + 1) Z) (by kernel_rfl) (Kept.drew Z) (fun hS => ?_)
      refine held_pure (i := 0) (oi := ⟨some 83, _, _, _, _, _⟩) rfl (by kernel_rfl) (by kernel_rfl) (by kernel_rfl) (fun _ _ _ h => h) (by rfl) (fun w hSw => run_load_int rfl rfl (KN.out _ hSw)) hS (fun hS => ?_)
      try go_frame
      refine held_pure (i := 1) (oi := ⟨some 84, _, _, _, _, _⟩) rfl (by kernel_rfl) (by kernel_rfl) (by kernel_rfl) (fun _ _ _ h => h) (by rfl) (fun w hSw => run_load_rdb rfl rfl (KX.out _ hSw)) hS (fun hS => ?_)
      try go_frame
      refine held_pure (i := 2) (oi := ⟨some 85, _, _, _, _, _⟩) rfl (by kernel_rfl) (by kernel_rfl) (by kernel_rfl) (fun _ _ _ h => h) (by rfl) (v := ?_) (fun w hSw => ?_) hS (fun hS => ?_)
      rotate_left
      · go_simp; try with_reducible rfl
      try go_frame
      refine held_pure (i := 3) (oi := ⟨some 86, _, _, _, _, _⟩) rfl (by kernel_rfl) (by kernel_rfl) (by kernel_rfl) (fun _ _ _ h => h) (by rfl) (v := ?_) (fun w hSw => ?_) hS (fun hS => ?_)
      rotate_left
      · go_simp; try with_reducible rfl
      try go_frame
      refine held_pure (i := 4) (oi := ⟨some 87, _, _, _, _, _⟩) rfl (by kernel_rfl) (by kernel_rfl) (by kernel_rfl) (fun _ _ _ h => h) (by rfl) (fun w hSw => run_load_rsl rfl rfl (KT.out _ hSw)) hS (fun hS => ?_)
      try go_frame
      refine held_pure (i := 5) (oi := ⟨some 88, _, _, _, _, _⟩) rfl (by kernel_rfl) (by kernel_rfl) (by kernel_rfl) (fun _ _ _ h => h) (by rfl) (v := ?_) (fun w hSw => ?_) hS (fun hS => ?_)
      rotate_left
      · go_simp; try with_reducible rfl
      try go_frame
      refine held_pure (i := 6) (oi := ⟨some 89, _, _, _, _, _⟩) rfl (by kernel_rfl) (by kernel_rfl) (by kernel_rfl) (fun _ _ _ h => h) (by rfl) (v := .bool true) (fun w hSw => by go_simp) hS (fun hS => ?_)
      try go_frame
      refine held_pure (i := 7) (oi := ⟨some 90, _, _, _, _, _⟩) rfl (by kernel_rfl) (by kernel_rfl) (by kernel_rfl) (fun _ _ _ h => h) (by rfl) (v := ?_) (fun w hSw => ?_) hS (fun hS => ?_)
      rotate_left
      · go_simp; try with_reducible rfl
      try go_frame
      refine held_pure (i := 8) (oi := ⟨some 91, _, _, _, _, _⟩) rfl (by kernel_rfl) (by kernel_rfl) (by kernel_rfl) (fun _ _ _ h => h) (by rfl) (fun w hSw => run_load_int rfl rfl (KN2.out _ hSw)) hS (fun hS => ?_)
      try go_frame
      refine held_pure (i := 9) (oi := ⟨some 92, _, _, _, _, _⟩) rfl (by kernel_rfl) (by kernel_rfl) (by kernel_rfl) (fun _ _ _ h => h) (by rfl) (fun w hSw => run_load_rsl rfl rfl (KS2.out _ hSw)) hS (fun hS => ?_)
      try go_frame
      refine held_pure (i := 10) (oi := ⟨some 93, _, _, _, _, _⟩) rfl (by kernel_rfl) (by kernel_rfl) (by kernel_rfl) (fun _ _ _ h => h) (by rfl) (v := ?_) (fun w hSw => ?_) hS (fun hS => ?_)
      rotate_left
      · go_simp; try with_reducible rfl
      try go_frame
      refine held_pure (i := 11) (oi := ⟨some 94, _, _, _, _, _⟩) rfl (by kernel_rfl) (by kernel_rfl) (by kernel_rfl) (fun _ _ _ h => h) (by rfl) (v := .bool true) (fun w hSw => by go_simp) hS (fun hS => ?_)
      try go_frame
      refine held_pure (i := 12) (oi := ⟨some 95, _, _, _, _, _⟩) rfl (by kernel_rfl) (by kernel_rfl) (by kernel_rfl) (fun _ _ _ h => h) (by rfl) (v := ?_) (fun w hSw => ?_) hS (fun hS => ?_)
      rotate_left
      · go_simp; try with_reducible rfl
      try go_frame
      refine held_pure (i := 13) (oi := ⟨some 96, _, _, _, _, _⟩) rfl (by kernel_rfl) (by kernel_rfl) (by kernel_rfl) (fun _ _ _ h => h) (by rfl) (v := ?_) (fun w hSw => ?_) hS (fun hS => ?_)
      rotate_left
      · go_simp; try with_reducible rfl
      try go_frame
      refine held_pure (i := 14) (oi := ⟨some 97, _, _, _, _, _⟩) rfl (by kernel_rfl) (by kernel_rfl) (by kernel_rfl) (fun _ _ _ h => h) (by rfl) (v := ?_) (fun w hSw => ?_) hS (fun hS => ?_)
      rotate_left
      · go_simp; try with_reducible rfl
      try go_frame
      refine held_pure (i := 16) (oi := ⟨some 99, _, _, _, _, _⟩) rfl (by kernel_rfl) (by kernel_rfl) (by kernel_rfl) (fun _ _ _ h => h) (by rfl) (fun w hSw => run_load_int rfl rfl (KN.out _ hSw)) hS (fun hS => ?_)
      try go_frame
      refine wpAnyH_ready (rs := [15]) (by kernel_rfl) (by simp) (AllReadyH.cons (o := ⟨some 98, _, _, _, _, _⟩) rfl (fun K hK => ?_) AllReadyH.nil)
      rw [if_pos (by rfl)]
      go_simp
      refine (HLEN.out Z _ hBZw HRZ.out hS).mono ?_
      rintro e w15 ⟨rfl, rfl⟩
      rw [← HN.out]
      show K _ _
      refine hK.out _ _ hS (fun hS => ?_)
      clear hK K
      try go_frame
      refine held_pure (i := 17) (oi := ⟨some 100, _, _, _, _, _⟩) rfl (by kernel_rfl) (by kernel_rfl) (by kernel_rfl) (fun _ _ _ h => h) (by rfl) (v := .bool true) (fun w hSw => by go_simp) hS (fun hS => ?_)
      try go_frame
      refine held_pure (i := 18) (oi := ⟨some 101, _, _, _, _, _⟩) rfl (by kernel_rfl) (by kernel_rfl) (by kernel_rfl) (fun _ _ _ h => h) (by rfl) (v := ?_) (fun w hSw => ?_) hS (fun hS => ?_)
      rotate_left
      · go_simp; try with_reducible rfl
      try go_frame
      refine wpAnyH_ready (rs := [19]) (by kernel_rfl) (by simp) (AllReadyH.cons (o := ⟨none, _, _, _, _, _⟩) rfl (fun K hK => ?_) AllReadyH.nil)
      rw [if_pos (by rfl)]
      have kr : Boxed Z.drew (w.heap.size + 1) 4 (.bool false) := HRZ.out
      have fr := kr.frozen
      have kc := kr.cell
      refine store_boolS_wp rfl rfl rfl kc fr ?_
      refine hK.out _ _ (hS.trans (T := fun k => k = w.heap.size + 1) (Kept.setCell _ _ 0 _) (fun _ _ h => h)) (fun hS => ?_)
      clear hK K
      try go_frame
      refine wpAnyH_done (by kernel_rfl) ?_ _
      refine noPanic_normal ?_
      gi_wp2
      have hkr : Boxed Z.drew (w.heap.size + 1) 4 (.bool false) := HRZ.out
      have hmr : Marks w3.heap.size Z.heap.size [{ target := .collected D2, args := #[] }, { target := .collected D, args := #[] }] (Z.drew.setCell ⟨w.heap.size + 1, 0, none⟩ (.bool true)) :=
        HM1.out.keep (fun k h1 h2 => Below.heap_setCell Z.drew _ _ _ (by simp; omega))
      refine leaves_marks w3.heap.size (fun Y => Boxed Y (w.heap.size + 1) 4 (.bool true) ∧ Below w.heap.size w Y)
        (fun Y D hY h1 h2 => ⟨box_keep (n := w3.heap.size) hY.1 (grownBy_putObj' Y D _) (fun k e => by cases e; exact ⟨h1, _, h2, rfl⟩), hY.2.trans (belowK_b (w := w) (Nat.le_refl _) Y D _ _ (by omega) h2 rfl rfl)⟩)
        (fun Y hY => ⟨_, cell1s rfl rfl hY.1, rfl, hY.2⟩) _ _ _ hmr ⟨Boxed.set _ hkr, HBZ.out.drew.setCell (p := ⟨w.heap.size + 1, 0, none⟩) (by show w.heap.size ≤ w.heap.size + 1; omega) _⟩
end
end Go.Proofs.YtghbliabmecbcaaDoor

/-
  A call of layer 24's code beside the document's: both answer the same, and hold the same. Conditions are each theorem's own.
-/
namespace Go.Proofs.YtghbliabmecbcaaDoor
open Go.RowKit Go.Shelf Go.Maps
theorem insR_put {S : List (Option Sd)} {f : Nat} (h : FreeB S f) (x : Sd) : insR (docB 0 S) f x = docB 0 (putS S f x) ∧ f ≤ (docB 0 S).length ∧ (∀ j e, j < f → (docB 0 S)[j]? = some e → e.1 = j) ∧ (∀ e, (docB 0 S)[f]? = some e → e.1 ≠ f) := by
  obtain ⟨P, Q, e0, e1, hl, hp, hq, e2⟩ := h.parts
  have ht : (P ++ Q).take f = P := by rw [← hl, List.take_left]
  have hd : (P ++ Q).drop f = Q := by rw [← hl, List.drop_left]
  refine ⟨?_, ?_, fun j e hj he => ?_, fun e he => ?_⟩
  · rw [h.put x]
    unfold insR
    rw [e0, ht, hd, e1, e2]
  · rw [e0, List.length_append]; omega
  · rw [e0, List.getElem?_append_left (by omega)] at he
    exact hp j e he
  · rw [e0, List.getElem?_append_right (by omega)] at he
    have := hq e (List.mem_of_getElem? he)
    omega
theorem outR_not {S : List (Option Sd)} {i : Int} (h : takB S i = none) : outR i (docB 0 S) = docB 0 S := by
  unfold outR
  rw [List.filter_eq_self]
  intro e he
  obtain ⟨_, h1⟩ := docB_mem.1 he
  rw [Nat.sub_zero] at h1
  simp only [decide_eq_true_eq]
  intro e2
  subst e2
  unfold takB at h
  rw [if_neg (by omega), Int.toNat_natCast, h1] at h
  cases h
theorem outR_set {S : List (Option Sd)} {k : Nat} : outR (k : Int) (docB 0 S) = docB 0 (S.set k none) := by
  rw [docB_none]
  unfold outR
  congr 1
  funext e
  congr 1
  simp
  omega
theorem fndN_tak {S : List (Option Sd)} (i : Int) : (fndN (docB 0 S) i).map (·.2) = takB S i := by
  unfold fndN takB
  split
  · rename_i h
    rw [List.find?_eq_none.2 (fun e _ => by simp; omega)]
    rfl
  · rename_i h
    obtain ⟨k, rfl⟩ : ∃ k : Nat, i = (k : Int) := ⟨i.toNat, by omega⟩
    have e : (fun e : Nat × Sd => decide ((e.1 : Int) = (k : Int))) = fun e => decide (e.1 = k) := by funext e; congr 1; simp; omega
    rw [e, docB_find, Int.toNat_natCast]
    cases (S[k]?).join <;> rfl
theorem fndN_some {S : List (Option Sd)} (i : Int) : (fndN (docB 0 S) i).isSome = (takB S i).isSome := by
  rw [← fndN_tak, Option.isSome_map]
/-- Something of the document's was written: its table, or the row that it owns. -/
def Chg (B0 : Nat) (U V : World) : Prop := ∃ q : Nat, B0 ≤ q ∧ (∃ cs ty, U.heap[q]? = some (.cells cs ty (0, 0)) ∧ (ty = 63 ∨ ty = 71)) ∧ Kept (fun i => i = q) U V
section
variable {U V : World} {B0 B9 d t1 bm g N : Nat} {most : Int} {S : List (Option Sd)} {v : Value} {D : List (Nat × Sd)}
theorem Chg.of_g (h : Rt U B0 g v most D) (k : Kept (fun i => i = g) U V) : Chg B0 U V := ⟨g, h.z, ⟨_, _, h.tab, .inl rfl⟩, k⟩
theorem Chg.heap (h : Chg B0 U V) {i : Nat} {cs : Array Value} {ty : TypeId} {fr : Nat × Nat} (hi : U.heap[i]? = some (.cells cs ty fr)) (h1 : ty ≠ 63) (h2 : ty ≠ 71) : V.heap[i]? = some (.cells cs ty fr) := by
  obtain ⟨q, _, ⟨cs', ty', hq, ht⟩, k⟩ := h
  refine (k.block i (heap_lt hi) (fun e => ?_)).trans hi
  rcases ht with rfl | rfl
  · exact heap_ty hi hq h1 e
  · exact heap_ty hi hq h2 e
theorem Chg.below (h : Chg B0 U V) (hB : B0 ≤ U.heap.size) : Below B0 U V := by
  obtain ⟨q, hz, _, k⟩ := h
  exact k.below hB (fun i e => by rw [e]; exact hz)
theorem TsE.chg (h : TsE U B0 d t1 bm most S N) (k : Chg B9 U V) : TsE V B0 d t1 bm most S N := by
  obtain ⟨b1, A, c, f, h⟩ := h
  obtain ⟨q, _, ⟨cs, ty, hq, rfl | rfl⟩, k⟩ := k
  · exact ⟨b1, A, c, f, h.m.only k (Only.one hq) (nat_ne (by kernel_rfl)) (nat_ne (by kernel_rfl)) (nat_ne (by kernel_rfl)) (nat_ne (by kernel_rfl)) (nat_ne (by kernel_rfl)), h.free, h.fit, h.ni, h.mst, h.n⟩
  · exact ⟨b1, A, c, f, h.m.only k (Only.one hq) (nat_ne (by kernel_rfl)) (nat_ne (by kernel_rfl)) (nat_ne (by kernel_rfl)) (nat_ne (by kernel_rfl)) (nat_ne (by kernel_rfl)), h.free, h.fit, h.ni, h.mst, h.n⟩
end
theorem no_first {S : List (Option Sd)} {i : Int} (h : takB S i = none) : ∀ e ∈ docB 0 S, (e.1 : Int) ≠ i := fun e he e2 => by
  obtain ⟨_, h1⟩ := docB_mem.1 he
  rw [Nat.sub_zero] at h1
  subst e2
  unfold takB at h
  rw [if_neg (by omega), Int.toNat_natCast, h1] at h
  cases h
/-- Where the document's list has a number, and that changing it there changes the list. -/
theorem chg_at {S : List (Option Sd)} {k : Nat} {x : Sd} (hk : S[k]? = some (some x)) : ∃ j, (docB 0 S)[j]? = some (k, x) ∧ (∀ q e, q < j → (docB 0 S)[q]? = some e → e.1 ≠ k) ∧ ∀ y, (docB 0 S).set j (k, y) = docB 0 (S.set k (some y)) := by
  have hm : (k, x) ∈ docB 0 S := docB_mem.2 ⟨Nat.zero_le _, by simpa using hk⟩
  obtain ⟨j, hj⟩ := List.getElem?_of_mem hm
  have hids := docB_ids 0 S
  have hne : ∀ q e, q ≠ j → (docB 0 S)[q]? = some e → e.1 ≠ k := fun q e hq he => by
    obtain ⟨h1, h2⟩ := List.getElem?_eq_some_iff.1 he
    obtain ⟨h3, h4⟩ := List.getElem?_eq_some_iff.1 hj
    rw [List.pairwise_iff_getElem] at hids
    rcases Nat.lt_or_gt_of_ne hq with hl | hl
    · have := hids q j h1 h3 hl
      rw [h2, h4] at this
      exact Nat.ne_of_lt this
    · have := hids j q h3 h1 hl
      rw [h2, h4] at this
      exact fun e => by rw [e] at this; exact Nat.lt_irrefl _ this
  refine ⟨j, hj, fun q e hq he => hne q e (Nat.ne_of_lt hq) he, fun y => ?_⟩
  rw [docB_set 0 S k x y hk, Nat.zero_add, chgD]
  apply List.ext_getElem?
  intro q
  rw [List.getElem?_map, List.getElem?_set]
  by_cases hq : j = q
  · subst hq
    rw [if_pos rfl, if_pos (List.getElem?_eq_some_iff.1 hj).1, hj]
    simp
  · rw [if_neg hq]
    cases he : (docB 0 S)[q]? with
    | none => rfl
    | some e =>
      simp only [Option.map_some]
      rw [if_neg (hne q e (fun h => hq h.symm) he)]
section
variable {w : World} {B0 d t1 bm g N : Nat} {most : Int} {S : List (Option Sd)}
theorem add_both (h : TsE w B0 d t1 bm most S N) (hT : TB0 B0 w) (x : Sd) (hx : x.fits) (hN : N < maxLen) (hS : (docB 0 S).length ≤ 1000) : ∃ (a r : Int) (S' : List (Option Sd)), (docB 0 S').length ≤ (docB 0 S).length + 1 ∧
    Calls Tryd.prog 9 #[.pointer (some ⟨d, 0, none⟩), seV x] w (fun e w' => e = .returned (.tuple #[.int .i64 a, .int .i64 r]) ∧ TsE w' B0 d t1 bm most S' (N + 1) ∧ FB B0 w w') ∧
    (∀ (U : World) (v : Value), Rt U B0 g v most (docB 0 S) → Calls Tryd.prog 10 #[.pointer (some ⟨g, 0, none⟩), seV x] U fun e w' => e = .returned (.tuple #[.int .i64 a, .int .i64 r]) ∧ (∃ v', Rt w' B0 g v' most (docB 0 S')) ∧ Chg B0 U w') := by
  have hz := h.z
  have hD := h
  obtain ⟨b1, A, c, f, h⟩ := h
  cases hh : fndS (docB 0 S) x with
  | some q =>
    refine ⟨0, 9, S, by omega, (seadd_twice h hT.here x hx hh).mono ?_, fun U v hr => (r24add_twice hr hS x hh).mono ?_⟩
    · rintro e w' ⟨rfl, hb⟩
      exact ⟨rfl, (hD.below hb).mono (Nat.le_succ _), FB.of_below hb hz⟩
    · rintro e w' ⟨rfl, hb⟩
      exact ⟨rfl, ⟨v, hr.below hb⟩, Chg.of_g hr (Kept.of_below hb)⟩
  | none =>
    by_cases hf : ((docB 0 S).length : Int) ≥ most
    · refine ⟨0, 7, S, by omega, (seadd_full h hT.here x hx hh hf).mono ?_, fun U v hr => (r24add_full hr hS x hh hf).mono ?_⟩
      · rintro e w' ⟨rfl, hb⟩
        exact ⟨rfl, (hD.below hb).mono (Nat.le_succ _), FB.of_below hb hz⟩
      · rintro e w' ⟨rfl, hb⟩
        exact ⟨rfl, ⟨v, hr.below hb⟩, Chg.of_g hr (Kept.of_below hb)⟩
    · obtain ⟨p1, p2, p3, p4⟩ := insR_put h.free x
      refine ⟨f, 0, putS S f x, by rw [h.free.nput x]; exact Nat.le_refl _, (seadd_ok h hT x hx hh (by omega) hN).mono ?_, fun U v hr => (r24add_ok hr hS x hh (by omega) p2 p3 p4).mono ?_⟩
      · rintro e w' ⟨rfl, b1', A', c', f', h', fb⟩
        exact ⟨rfl, ⟨b1', A', c', f', h'⟩, fb⟩
      · rintro e w' ⟨rfl, v', hr', k'⟩
        rw [p1] at hr'
        exact ⟨rfl, ⟨v', hr'⟩, Chg.of_g hr k'⟩
theorem rem_both (h : TsE w B0 d t1 bm most S N) (hT : TB0 B0 w) (i : Int) (hN : N < maxLen) (hS : (docB 0 S).length ≤ 1000) : ∃ (a : Bool) (S' : List (Option Sd)), (docB 0 S').length ≤ (docB 0 S).length + 1 ∧
    Calls Tryd.prog 13 #[.pointer (some ⟨d, 0, none⟩), .int .i64 i] w (fun e w' => e = .returned (.bool a) ∧ TsE w' B0 d t1 bm most S' (N + 1) ∧ FB B0 w w') ∧
    (∀ (U : World) (v : Value), Rt U B0 g v most (docB 0 S) → Calls Tryd.prog 14 #[.pointer (some ⟨g, 0, none⟩), .int .i64 i] U fun e w' => e = .returned (.bool a) ∧ (∃ v', Rt w' B0 g v' most (docB 0 S')) ∧ Chg B0 U w') := by
  have hz := h.z
  have hD := h
  obtain ⟨b1, A, c, f, h⟩ := h
  cases ht : takB S i with
  | none =>
    refine ⟨false, S, by omega, (seremove_no h.m i ht).mono ?_, fun U v hr => (r24del hr hS i).mono ?_⟩
    · rintro e w' ⟨rfl, rfl⟩
      exact ⟨rfl, hD.mono (Nat.le_succ _), FB.of_below (Below.refl _ _) hz⟩
    · rintro e w' ⟨rfl, v', hr', k'⟩
      rw [outR_not ht] at hr' ⊢
      exact ⟨by rw [decide_eq_false (Nat.lt_irrefl _)], ⟨v', hr'⟩, Chg.of_g hr k'⟩
  | some x =>
    obtain ⟨k, rfl, hk⟩ := tak_atS ht
    obtain ⟨_, hl⟩ := docB_pull hk
    refine ⟨true, S.set k none, by omega, (seremove_yes h hT hk hN).mono ?_, fun U v hr => (r24del hr hS (k : Int)).mono ?_⟩
    · rintro e w' ⟨rfl, b1', A', c', f', h', fb⟩
      exact ⟨rfl, ⟨b1', A', c', f', h'⟩, fb⟩
    · rintro e w' ⟨rfl, v', hr', k'⟩
      rw [outR_set] at hr' ⊢
      exact ⟨by rw [decide_eq_true (by omega)], ⟨v', hr'⟩, Chg.of_g hr k'⟩
theorem set_both (h : TsE w B0 d t1 bm most S N) (i st un : Int) (hst : wfQ st) (hun : wfQ un) (hS : (docB 0 S).length ≤ 1000) : ∃ (a : Bool) (S' : List (Option Sd)), (docB 0 S').length ≤ (docB 0 S).length + 1 ∧
    Calls Tryd.prog 11 #[.pointer (some ⟨d, 0, none⟩), .int .i64 i, .int .i64 st, .int .i64 un] w (fun e w' => e = .returned (.bool a) ∧ TsE w' B0 d t1 bm most S' (N + 1) ∧ FB B0 w w') ∧
    (∀ (U : World) (v : Value), Rt U B0 g v most (docB 0 S) → Calls Tryd.prog 12 #[.pointer (some ⟨g, 0, none⟩), .int .i64 i, .int .i64 st, .int .i64 un] U fun e w' => e = .returned (.bool a) ∧ (∃ v', Rt w' B0 g v' most (docB 0 S')) ∧ Chg B0 U w') := by
  have hz := h.z
  have hD := h
  obtain ⟨b1, A, c, f, h⟩ := h
  cases ht : takB S i with
  | none =>
    refine ⟨false, S, by omega, (seset_no h.m i st un ht).mono ?_, fun U v hr => (r24set_no hr hS i st un (no_first ht)).mono ?_⟩
    · rintro e w' ⟨rfl, rfl⟩
      exact ⟨rfl, hD.mono (Nat.le_succ _), FB.of_below (Below.refl _ _) hz⟩
    · rintro e w' ⟨rfl, rfl⟩
      exact ⟨rfl, ⟨v, hr⟩, Chg.of_g hr (Kept.of_below (Below.refl _ _))⟩
  | some x =>
    obtain ⟨k, rfl, hk⟩ := tak_atS ht
    obtain ⟨j, hj, hfi, hse⟩ := chg_at hk
    refine ⟨true, S.set k (some (x.set st un)), by rw [← hse (x.set st un), List.length_set]; omega, (seset_yes h hk st un hst hun).mono ?_, fun U v hr => (r24set_yes hr hS hj hfi st un).mono ?_⟩
    · rintro e w' ⟨rfl, b1', A', c', f', h', fb⟩
      exact ⟨rfl, (show TsE w' B0 d t1 bm most _ N from ⟨b1', A', c', f', h'⟩).mono (Nat.le_succ _), fb⟩
    · rintro e w' ⟨rfl, ⟨v', hr'⟩, gs, hgs, ⟨cur, hcur⟩, k'⟩
      rw [hse] at hr'
      exact ⟨rfl, ⟨v', hr'⟩, gs, hgs, ⟨_, _, hcur, .inr rfl⟩, k'⟩
end
theorem dos_se {w : World} {p : Nat} {x : Dos} (h : w.heap[p]? = some (.cells (clDos x).toArray 36 (0, 0))) : w.rangeAt p 2 (clSe x.x) := fun j v hj => cells_at h (by
  have h9 : (clDos x).toArray[2 + j]? = (clSe x.x)[j]? := by rw [List.getElem?_toArray, show 2 + j = j + 1 + 1 from by omega]; rfl
  rw [h9]; exact hj)
theorem dos_re {w : World} {p : Nat} {x : Dos} (h : w.heap[p]? = some (.cells (clDos x).toArray 36 (0, 0))) : w.rangeAt p 5 (clR x.x) := fun j v hj => cells_at h (by
  match j, hj with
  | 0, h => exact h
  | 1, h => exact h)
/-- The code's sessions and the document's, side by side, in the law's loop. -/
structure SLw (B0 d t1 bm g : Nat) (most : Int) (S : List (Option Sd)) (k : Nat) (w U : World) : Prop where
  ts : TsE U B0 d t1 bm most S k
  rt : ∃ v, Rt U B0 g v most (docB 0 S)
  bel : Below w.heap.size w U
  tb : TB0 B0 U
  n : (docB 0 S).length ≤ k
  z : w.heap.size ≤ B0
section
variable {B0 d t1 bm g k : Nat} {most : Int} {S S' : List (Option Sd)} {w U V X : World}
theorem SLw.below (h : SLw B0 d t1 bm g most S k w U) (hb : Below U.heap.size U V) : SLw B0 d t1 bm g most S k w V := by
  obtain ⟨v, hr⟩ := h.rt
  exact ⟨h.ts.below hb, ⟨v, hr.below hb⟩, h.bel.trans (hb.mono h.bel.size), h.tb.step (hb.mono h.ts.z), h.n, h.z⟩
/-- A call of the code, then the document's. -/
theorem SLw.step (h : SLw B0 d t1 bm g most S k w U) (hd : TsE V B0 d t1 bm most S' (k + 1)) (hf : FB B0 U V) (hr : ∃ v, Rt X B0 g v most (docB 0 S')) (hk : Chg B0 V X) (hn : (docB 0 S').length ≤ (docB 0 S).length + 1) : SLw B0 d t1 bm g most S' (k + 1) w X := by
  have hx : Below B0 V X := hk.below hd.z
  exact ⟨hd.chg hk, hr, h.bel.trans ((hf.b.trans hx).mono h.z), h.tb.step (hf.b.trans hx), by have := h.n; omega, h.z⟩
theorem SLw.rtf (h : SLw B0 d t1 bm g most S k w U) (hf : FB B0 U V) : ∃ v, Rt V B0 g v most (docB 0 S) := by
  obtain ⟨v, h0⟩ := h.rt
  exact ⟨v, h0.fb hf⟩
end
end Go.Proofs.YtghbliabmecbcaaDoor
