/-
  For every config, address, protocol and state, goosepondlaw20.ConfigChecks answers true: whether the config may be, which softwire has the address, and how long a session waits, is what the document says.
  Conditions: none but the statement's own.
-/
import Derived.Test.YtogidfagkgccmaaRows
import Derived.WalkKit
import Derived.ProofKit
import Derived.OpenShut
import Derived.ChangeOld
import Derived.Below
import Derived.Test.YtogidfagkgccmaaCa2
import Derived.Test.YtogidfagkgccmaaCa8
namespace Go.Proofs.Ytogidfagkgccmaa.configChecks
open Go.ChangeShapes Go.WideShapes Go.ChangeAt Go.RowKit
set_option linter.unusedVariables false
attribute [local go_sem] Oper.semAt_some

theorem own : ownKnob Try.prog.godebug = none := by kernel_rfl
theorem laidOut : laidOutB Try.prog = true := by kernel_rfl

/-! ### The walk -/
set_option maxRecDepth 100000 in
set_option maxHeartbeats 4000000 in
theorem walk (q0 : Cfg) (b1 : List UInt8) (a2 : Int) (a3 : Int) (w : World) (h0 : MemC w w.heap.size q0) (s0 : q0.aftr.length = 16) (w0 : q0.sws.length ≤ 1000 → q0.pool.length ≤ 1000 → q0.stat.length ≤ 1000 → Fits q0) (h1 : b1.length = 16) (w2 : (Lit.int .i64 a2).wf = true) (w3 : (Lit.int .i64 a3).wf = true) :
    Calls Try.prog 7 #[.agg (cfa q0), .agg (cel b1), .int .i64 a2, .int .i64 a3] w fun e w' => e = .returned (.bool true) ∧ Below w.heap.size w w' := by
  have hW00 := BoxC.mk' w q0
  have hW01 : Below (w.alloc (.cells (cfa q0) 74)).heap.size (w.alloc (.cells (cfa q0) 74)) ((w.alloc (.cells (cfa q0) 74)).alloc (.cells (row b1).toArray 70)) := (Below.refl _ _).alloc (Nat.le_refl _) _
  have hS0 := AtNew (w := w.alloc (.cells (cfa q0) 74)) (cs := row b1) (t := 70)
  have hz1 : w.heap.size + 1 < ((w.alloc (.cells (cfa q0) 74)).alloc (.cells (row b1).toArray 70)).heap.size := by simp
  rw [World.size_alloc] at hS0
  have hW0 := hW00.more hW01
  clear hW00 hW01
  show Calls Try.prog 7 #[.agg (cfa q0), .agg (row b1).toArray, .int .i64 a2, .int .i64 a3] w _
  generalize hWW : (w.alloc (.cells (cfa q0) 74)).alloc (.cells (row b1).toArray 70) = W at hW0 hS0 hz1
  have hz := hW0.lt
  have a16 := s0
  have hra : (row b1).length = 16 := by rw [row_length]; exact h1
  have k1 : W.cell? ⟨w.heap.size, 16, none⟩ = some (.slice q0.A1 q0.sws.length q0.c1) := hW0.at_.at_ a16 (j := 0) rfl
  have k2 : W.cell? ⟨w.heap.size, 17, none⟩ = some (.slice q0.A2 q0.pool.length q0.c2) := hW0.at_.at_ a16 (j := 1) rfl
  have k3 : W.cell? ⟨w.heap.size, 35, none⟩ = some (.slice q0.A3 q0.stat.length q0.c3) := hW0.at_.at_ a16 (j := 19) rfl
  by_cases n1 : q0.sws.length ≤ 200
  rotate_left
  · have d1 : (200 : Int) < q0.sws.length := by omega
    go_enter Try.func7, Try.ntmps7
    go_upto_region 1 with fail
    try rw [hWW]
    clear hWW
    go_wp2_with (first
      | (go_at_call 34; refine (awake20 W).mono ?_; rintro e v1 ⟨rfl, y1⟩))
    go_ret
    exact ⟨rfl, hW0.bel.trans (y1.mono hW0.bel.size)⟩
  by_cases n2 : q0.pool.length ≤ 200
  rotate_left
  · have d2 : (200 : Int) < q0.pool.length := by omega
    have d1 : ¬ (200 : Int) < q0.sws.length := by omega
    go_enter Try.func7, Try.ntmps7
    go_upto_region 1 with fail
    try rw [hWW]
    clear hWW
    go_wp2_with (first
      | (go_at_call 34; refine (awake20 W).mono ?_; rintro e v1 ⟨rfl, y1⟩))
    go_ret
    exact ⟨rfl, hW0.bel.trans (y1.mono hW0.bel.size)⟩
  by_cases n3 : q0.stat.length ≤ 200
  rotate_left
  · have d3 : (200 : Int) < q0.stat.length := by omega
    have d2 : ¬ (200 : Int) < q0.pool.length := by omega
    have d1 : ¬ (200 : Int) < q0.sws.length := by omega
    go_enter Try.func7, Try.ntmps7
    go_upto_region 1 with fail
    try rw [hWW]
    clear hWW
    go_wp2_with (first
      | (go_at_call 34; refine (awake20 W).mono ?_; rintro e v1 ⟨rfl, y1⟩))
    go_ret
    exact ⟨rfl, hW0.bel.trans (y1.mono hW0.bel.size)⟩
  have hfit := w0 (by omega) (by omega) (by omega)
  have hcl : (cfl q0).length = 36 := cfl_len a16
  have hm := h0
  have d3 : ¬ (200 : Int) < q0.stat.length := by omega
  have d2 : ¬ (200 : Int) < q0.pool.length := by omega
  have d1 : ¬ (200 : Int) < q0.sws.length := by omega
  obtain ⟨C, hC⟩ : ∃ C, C = chkB q0 := ⟨_, rfl⟩
  have HC := Lib.hid hC
  obtain ⟨SI, hSI⟩ : ∃ C, C = softI q0 b1 := ⟨_, rfl⟩
  have HSI := Lib.hid hSI
  obtain ⟨SB, hSB⟩ : ∃ C, C = softB q0 b1 := ⟨_, rfl⟩
  have HSB := Lib.hid hSB
  obtain ⟨WT, hWT⟩ : ∃ C, C = waitB q0 a2 a3 := ⟨_, rfl⟩
  have HWT := Lib.hid hWT
  clear hC hSI hSB hWT
  go_enter Try.func7, Try.ntmps7
  go_upto_region 1 with fail
  try rw [hWW]
  clear hWW
  go_upto_region 5 with (first
    | ((with_reducible show wpList _ _ _ (Oper.mk (some 31) (Op.load 74 _) _ _ _ _ :: _) _ _); refine wpList_val rfl (ld_cfg rfl rfl hW0.at_ hcl) ?_)
    | ((with_reducible show wpList _ _ _ (Oper.mk (some 32) (Op.load 70 _) _ _ _ _ :: _) _ _); refine wpList_val rfl (ld_six rfl rfl hS0 hra) ?_)
    | (go_at_call 35; refine (c20soft b1 h1 q0 w.heap.size W hfit (hm.below hW0.bel) hW0.bel.size).mono ?_; rintro e v1 ⟨rfl, y1⟩; rw [← HSI.out, ← HSB.out]; have hW1 := hW0.more y1; have hS1 := range_below hS0 hz1 y1; have hz2 := Nat.lt_of_lt_of_le hz1 y1.size)
    | ((with_reducible show wpList _ _ _ (Oper.mk (some 37) (Op.load 74 _) _ _ _ _ :: _) _ _); refine wpList_val rfl (ld_cfg rfl rfl hW1.at_ hcl) ?_)
    | ((with_reducible show wpList _ _ _ (Oper.mk (some 38) (Op.load 70 _) _ _ _ _ :: _) _ _); refine wpList_val rfl (ld_six rfl rfl hS1 hra) ?_)
    | (go_at_call 36; refine (r20soft b1 h1 q0 w.heap.size v1 hfit (hm.below hW1.bel) hW1.bel.size).mono ?_; rintro e v2 ⟨rfl, y2⟩; rw [← HSI.out, ← HSB.out]; have hW2 := hW1.more y2))
  have hBx := hW2
  have cS := fun V (hV : Below v2.heap.size v2 V) => hW2.at_.below hV hW2.lt
  have mS := fun V (hV : Below v2.heap.size v2 V) => hm.below (hW2.bel.trans (hV.mono hW2.bel.size))
  have zS := fun V (hV : Below v2.heap.size v2 V) => Nat.le_trans hW2.bel.size hV.size
  refine wp_region_held_drew (S := fun w' => Below v2.heap.size v2 w') (by kernel_rfl) (Below.refl _ v2).drew (fun hS => ?_)
  refine held_pure (i := 0) (oi := ⟨some 42, _, _, _, _, _⟩) rfl (by kernel_rfl) (by kernel_rfl) (by kernel_rfl) (fun _ _ _ h => h) (by rfl) (fun w hSw => ld_cfg rfl rfl (cS _ hSw) hcl) hS (fun hS => ?_)
  try go_frame
  refine held_pure (i := 2) (oi := ⟨some 44, _, _, _, _, _⟩) rfl (by kernel_rfl) (by kernel_rfl) (by kernel_rfl) (fun _ _ _ h => h) (by rfl) (fun w hSw => ld_cfg rfl rfl (cS _ hSw) hcl) hS (fun hS => ?_)
  try go_frame
  refine wpAnyH_ready (rs := [1]) (by kernel_rfl) (by simp) (AllReadyH.cons (o := ⟨some 43, _, _, _, _, _⟩) rfl (fun K hK => ?_) AllReadyH.nil)
  rw [if_pos (by rfl)]
  go_simp
  refine (c20check q0 w.heap.size _ hfit (mS _ hS) (zS _ hS)).mono ?_
  rintro e z1 ⟨rfl, x1⟩
  rw [← HC.out]
  show K _ _
  refine hK.out _ _ (below_step hS x1) (fun hS => ?_)
  clear hK K
  try go_frame
  refine wpAnyH_ready (rs := [3]) (by kernel_rfl) (by simp) (AllReadyH.cons (o := ⟨some 45, _, _, _, _, _⟩) rfl (fun K hK => ?_) AllReadyH.nil)
  rw [if_pos (by rfl)]
  go_simp
  refine (r20check q0 w.heap.size _ hfit (mS _ hS) (zS _ hS)).mono ?_
  rintro e z3 ⟨rfl, x3⟩
  rw [← HC.out]
  show K _ _
  refine hK.out _ _ (below_step hS x3) (fun hS => ?_)
  clear hK K
  try go_frame
  refine held_pure (i := 4) (oi := ⟨some 46, _, _, _, _, _⟩) rfl (by kernel_rfl) (by kernel_rfl) (by kernel_rfl) (fun _ _ _ h => h) (by rfl) (v := .bool true) (fun w hSw => by go_simp) hS (fun hS => ?_)
  try go_frame
  refine held_pure (i := 5) (oi := ⟨some 47, _, _, _, _, _⟩) rfl (by kernel_rfl) (by kernel_rfl) (by kernel_rfl) (fun _ _ _ h => h) (by rfl) (v := ?_) (fun w hSw => ?_) hS (fun hS => ?_)
  rotate_left
  · go_simp; try with_reducible rfl
  try go_frame
  refine held_pure (i := 6) (oi := ⟨some 48, _, _, _, _, _⟩) rfl (by kernel_rfl) (by kernel_rfl) (by kernel_rfl) (fun _ _ _ h => h) (by rfl) (v := ?_) (fun w hSw => ?_) hS (fun hS => ?_)
  rotate_left
  · go_simp; try with_reducible rfl
  try go_frame
  refine held_pure (i := 7) (oi := ⟨some 49, _, _, _, _, _⟩) rfl (by kernel_rfl) (by kernel_rfl) (by kernel_rfl) (fun _ _ _ h => h) (by rfl) (v := ?_) (fun w hSw => ?_) hS (fun hS => ?_)
  rotate_left
  · go_simp; try with_reducible rfl
  try go_frame
  refine held_pure (i := 8) (oi := ⟨some 50, _, _, _, _, _⟩) rfl (by kernel_rfl) (by kernel_rfl) (by kernel_rfl) (fun _ _ _ h => h) (by rfl) (v := .bool true) (fun w hSw => by go_simp) hS (fun hS => ?_)
  try go_frame
  refine held_pure (i := 9) (oi := ⟨some 51, _, _, _, _, _⟩) rfl (by kernel_rfl) (by kernel_rfl) (by kernel_rfl) (fun _ _ _ h => h) (by rfl) (v := ?_) (fun w hSw => ?_) hS (fun hS => ?_)
  rotate_left
  · go_simp; try with_reducible rfl
  try go_frame
  refine held_pure (i := 10) (oi := ⟨some 52, _, _, _, _, _⟩) rfl (by kernel_rfl) (by kernel_rfl) (by kernel_rfl) (fun _ _ _ h => h) (by rfl) (v := ?_) (fun w hSw => ?_) hS (fun hS => ?_)
  rotate_left
  · go_simp; try with_reducible rfl
  try go_frame
  refine held_pure (i := 11) (oi := ⟨some 53, _, _, _, _, _⟩) rfl (by kernel_rfl) (by kernel_rfl) (by kernel_rfl) (fun _ _ _ h => h) (by rfl) (v := ?_) (fun w hSw => ?_) hS (fun hS => ?_)
  rotate_left
  · go_simp; try with_reducible rfl
  try go_frame
  refine held_pure (i := 12) (oi := ⟨some 54, _, _, _, _, _⟩) rfl (by kernel_rfl) (by kernel_rfl) (by kernel_rfl) (fun _ _ _ h => h) (by rfl) (v := ?_) (fun w hSw => ?_) hS (fun hS => ?_)
  rotate_left
  · go_simp; try with_reducible rfl
  try go_frame
  refine held_pure (i := 13) (oi := ⟨some 55, _, _, _, _, _⟩) rfl (by kernel_rfl) (by kernel_rfl) (by kernel_rfl) (fun _ _ _ h => h) (by rfl) (v := .bool true) (fun w hSw => by go_simp) hS (fun hS => ?_)
  try go_frame
  refine held_pure (i := 14) (oi := ⟨some 56, _, _, _, _, _⟩) rfl (by kernel_rfl) (by kernel_rfl) (by kernel_rfl) (fun _ _ _ h => h) (by rfl) (v := ?_) (fun w hSw => ?_) hS (fun hS => ?_)
  rotate_left
  · go_simp; try with_reducible rfl
  try go_frame
  refine held_pure (i := 15) (oi := ⟨some 57, _, _, _, _, _⟩) rfl (by kernel_rfl) (by kernel_rfl) (by kernel_rfl) (fun _ _ _ h => h) (by rfl) (v := ?_) (fun w hSw => ?_) hS (fun hS => ?_)
  rotate_left
  · go_simp; try with_reducible rfl
  try go_frame
  refine held_pure (i := 16) (oi := ⟨some 58, _, _, _, _, _⟩) rfl (by kernel_rfl) (by kernel_rfl) (by kernel_rfl) (fun _ _ _ h => h) (by rfl) (fun w hSw => ld_cfg rfl rfl (cS _ hSw) hcl) hS (fun hS => ?_)
  try go_frame
  refine held_pure (i := 17) (oi := ⟨some 59, _, _, _, _, _⟩) rfl (by kernel_rfl) (by kernel_rfl) (by kernel_rfl) (fun _ _ _ h => h) (by rfl) (v := ?_) (fun w hSw => ?_) hS (fun hS => ?_)
  rotate_left
  · go_simp; try with_reducible rfl
  try go_frame
  refine held_pure (i := 18) (oi := ⟨some 60, _, _, _, _, _⟩) rfl (by kernel_rfl) (by kernel_rfl) (by kernel_rfl) (fun _ _ _ h => h) (by rfl) (v := ?_) (fun w hSw => ?_) hS (fun hS => ?_)
  rotate_left
  · go_simp; try with_reducible rfl
  try go_frame
  refine held_pure (i := 20) (oi := ⟨some 62, _, _, _, _, _⟩) rfl (by kernel_rfl) (by kernel_rfl) (by kernel_rfl) (fun _ _ _ h => h) (by rfl) (fun w hSw => ld_cfg rfl rfl (cS _ hSw) hcl) hS (fun hS => ?_)
  try go_frame
  refine held_pure (i := 21) (oi := ⟨some 63, _, _, _, _, _⟩) rfl (by kernel_rfl) (by kernel_rfl) (by kernel_rfl) (fun _ _ _ h => h) (by rfl) (v := ?_) (fun w hSw => ?_) hS (fun hS => ?_)
  rotate_left
  · go_simp; try with_reducible rfl
  try go_frame
  refine held_pure (i := 22) (oi := ⟨some 64, _, _, _, _, _⟩) rfl (by kernel_rfl) (by kernel_rfl) (by kernel_rfl) (fun _ _ _ h => h) (by rfl) (v := ?_) (fun w hSw => ?_) hS (fun hS => ?_)
  rotate_left
  · go_simp; try with_reducible rfl
  try go_frame
  refine wpAnyH_ready (rs := [19]) (by kernel_rfl) (by simp) (AllReadyH.cons (o := ⟨some 61, _, _, _, _, _⟩) rfl (fun K hK => ?_) AllReadyH.nil)
  rw [if_pos (by rfl)]
  go_simp
  refine (c20wait a2 a3 q0 _ hfit).mono ?_
  rintro e z19 ⟨rfl, x19⟩
  rw [← HWT.out]
  show K _ _
  refine hK.out _ _ (below_step hS x19) (fun hS => ?_)
  clear hK K
  try go_frame
  refine wpAnyH_ready (rs := [23]) (by kernel_rfl) (by simp) (AllReadyH.cons (o := ⟨some 65, _, _, _, _, _⟩) rfl (fun K hK => ?_) AllReadyH.nil)
  rw [if_pos (by rfl)]
  go_simp
  refine (r20wait a2 a3 q0 _ hfit).mono ?_
  rintro e z23 ⟨rfl, x23⟩
  rw [← HWT.out]
  show K _ _
  refine hK.out _ _ (below_step hS x23) (fun hS => ?_)
  clear hK K
  try go_frame
  refine held_pure (i := 24) (oi := ⟨some 66, _, _, _, _, _⟩) rfl (by kernel_rfl) (by kernel_rfl) (by kernel_rfl) (fun _ _ _ h => h) (by rfl) (v := .bool true) (fun w hSw => by go_simp) hS (fun hS => ?_)
  try go_frame
  refine held_pure (i := 25) (oi := ⟨some 67, _, _, _, _, _⟩) rfl (by kernel_rfl) (by kernel_rfl) (by kernel_rfl) (fun _ _ _ h => h) (by rfl) (v := ?_) (fun w hSw => ?_) hS (fun hS => ?_)
  rotate_left
  · go_simp; try with_reducible rfl
  try go_frame
  refine held_pure (i := 26) (oi := ⟨some 68, _, _, _, _, _⟩) rfl (by kernel_rfl) (by kernel_rfl) (by kernel_rfl) (fun _ _ _ h => h) (by rfl) (v := ?_) (fun w hSw => ?_) hS (fun hS => ?_)
  rotate_left
  · go_simp; try with_reducible rfl
  try go_frame
  refine wpAnyH_ready (rs := [27]) (by kernel_rfl) (by simp) (AllReadyH.cons (o := ⟨some 69, _, _, _, _, _⟩) rfl (fun K hK => ?_) AllReadyH.nil)
  rw [if_pos (by rfl)]
  go_simp
  refine (awake20 _).mono ?_
  rintro e z27 ⟨rfl, x27⟩
  show K _ _
  refine hK.out _ _ (below_step hS x27) (fun hS => ?_)
  clear hK K
  try go_frame
  refine held_pure (i := 28) (oi := ⟨some 70, _, _, _, _, _⟩) rfl (by kernel_rfl) (by kernel_rfl) (by kernel_rfl) (fun _ _ _ h => h) (by rfl) (v := ?_) (fun w hSw => ?_) hS (fun hS => ?_)
  rotate_left
  · go_simp; try with_reducible rfl
  try go_frame
  refine held_pure (i := 29) (oi := ⟨some 8, _, _, _, _, _⟩) rfl (by kernel_rfl) (by kernel_rfl) (by kernel_rfl) (fun _ _ _ h => h) (by rfl) (v := ?_) (fun w hSw => ?_) hS (fun hS => ?_)
  rotate_left
  · go_simp; try with_reducible rfl
  try go_frame
  refine wpAnyH_done (by kernel_rfl) ?_ _
  go_wp2_with fail
  go_ret
  exact ⟨rfl, hW2.bel.trans (hS.mono hW2.bel.size)⟩

/-! ### The row's step -/
set_option maxRecDepth 100000 in
theorem lifted (os : Os) (started : os.Started) (H : Type) (enc : TypeId × Value → H) :
    ReturnsInHanded {} Try.checked os 7 .any (Rows.configChecksSpec.pre6 enc Try.prog Try.f7 Rows.configChecksRow.domain false) (Rows.configChecksSpec.post enc Try.prog Try.f7 false true false false) := by
  refine returnsInHanded_of_change (C := Try.checked) own started (by kernel_rfl) Try.func7
    (ChangeSpec.witness6 (enc := enc) (C := Try.checked) false ⟨#[], #[.agg #[.int .u8 0, .int .u8 0, .int .u8 0, .int .u8 0, .int .u8 0, .int .u8 0, .int .u8 0, .int .u8 0, .int .u8 0, .int .u8 0, .int .u8 0, .int .u8 0, .int .u8 0, .int .u8 0, .int .u8 0, .int .u8 0, .slice none 0 0, .slice none 0 0, .int .i64 0, .int .i64 0, .int .i64 0, .int .i64 0, .int .i64 0, .int .i64 0, .int .i64 0, .int .i64 0, .int .i64 0, .int .i64 0, .int .i64 0, .int .i64 0, .int .i64 0, .int .i64 0, .int .i64 0, .int .i64 0, .int .i64 0, .slice none 0 0], .agg #[.int .u8 0, .int .u8 0, .int .u8 0, .int .u8 0, .int .u8 0, .int .u8 0, .int .u8 0, .int .u8 0, .int .u8 0, .int .u8 0, .int .u8 0, .int .u8 0, .int .u8 0, .int .u8 0, .int .u8 0, .int .u8 0], .int .i64 0, .int .i64 0], []⟩ 8 (by kernel_rfl) (by kernel_rfl) (by kernel_rfl) (by kernel_rfl)) ?_
  intro W base args ds gs before hval0 hW hcnd _
  have hval : ∀ (j : Nat) t v, Try.f7.params[j]? = some t → args[j]? = some v → Value.okWide Try.prog W .any base t v := hval0
  have hW' := hW
  obtain ⟨p, q, hA0, hV, rfl, hfz, hnd⟩ := hW
  have hA : DataW.TrodAll enc Try.prog W 0 (fun _ => true) true Try.f7.params.toList args.toList ds p := hA0
  rw [Try.params7] at hA hval
  obtain ⟨v0, vs0, d0, ds0, p0, q0, hargs, rfl, rfl, t0, r0⟩ := trodAll_cons hA
  obtain ⟨v1, vs1, d1, ds1, p1, q1, rfl, rfl, rfl, t1, r1⟩ := trodAll_cons r0
  obtain ⟨v2, vs2, d2, ds2, p2, q2, rfl, rfl, rfl, t2, r2⟩ := trodAll_cons r1
  obtain ⟨v3, vs3, d3, ds3, p3, q3, rfl, rfl, rfl, t3, r3⟩ := trodAll_cons r2
  obtain ⟨rfl, rfl, rfl⟩ := trodAll_nil r3
  obtain rfl : args = #[v0, v1, v2, v3] := by cases args; simp_all
  obtain ⟨rfl, rfl⟩ := trodVars_none hV
  have k0 := t0
  have lt0 := Trod_lt t0
  have k1 := t1
  have lt1 := Trod_lt t1
  have k2 := t2
  have lt2 := Trod_lt t2
  have k3 := t3
  have lt3 := Trod_lt t3
  obtain ⟨q0, rfl, h0, s0, w0⟩ := get_cfg (hval 0 74 v0 rfl rfl) t0
  obtain ⟨b1, rfl, h1⟩ := get_six Try.underlying70 Try.underlying5 (by kernel_rfl) (by kernel_rfl) (hval 1 70 v1 rfl rfl) t1
  obtain ⟨a2, rfl, w2⟩ := get_int Try.underlying3 (hval 2 3 v2 rfl rfl) t2
  obtain ⟨a3, rfl, w3⟩ := get_int Try.underlying3 (hval 3 3 v3 rfl rfl) t3
  clear hA0 hval0
  refine (walk q0 b1 a2 a3 W h0 s0 w0 h1 w2 w3).mono fun e W' ⟨he, bel⟩ => ?_
  subst he
  exact ⟨_, rfl, _, _, _, [], _, [], hW', trodAll_mk1 (shut_bool Try.underlying4 _), (trodAll_cons_mk (Below.trod laidOut (by kernel_rfl) (of_decide_eq_true (by kernel_rfl)) k0 bel lt0) (trodAll_cons_mk (Below.trod laidOut (by kernel_rfl) (of_decide_eq_true (by kernel_rfl)) k1 bel lt1) (trodAll_cons_mk (Below.trod laidOut (by kernel_rfl) (of_decide_eq_true (by kernel_rfl)) k2 bel lt2) (trodAll_cons_mk (Below.trod laidOut (by kernel_rfl) (of_decide_eq_true (by kernel_rfl)) k3 bel lt3) trodAll_mk0)))), rfl, bel.frame _, fun h => by cases h⟩

theorem over : Rows.configChecksRow.holds Try.pinned (OpenSpec.ofChange Rows.configChecksSpec) :=
  OpenClaim.holds_of_wide 7 Try.f7 rfl rfl rfl rfl rfl rfl rfl ⟨rfl, rfl, rfl, rfl, rfl⟩ rfl rfl rfl rfl rfl (by kernel_rfl) Try.func7 (by kernel_rfl)
    (of_decide_eq_true (by kernel_rfl)) (by unfold Func.isWrapper; first | (rw [if_pos (by decide +kernel)]; kernel_rfl) | (rw [if_neg (by decide +kernel)]; exact ⟨rfl, rfl⟩))
    (fun os started H enc _ => lifted os started H enc)

theorem proved : Rows.ConfigChecksSaid := over
end Go.Proofs.Ytogidfagkgccmaa.configChecks
