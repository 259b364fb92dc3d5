/-
  For every config and every state, goosepondlaw20.ConfigWaits answers true: of a config that may be, no session waits shorter than the standards ask for.
  Conditions: none but the statement's own.
-/
import Derived.Test.YtogidfagkgccmaaRows
import Derived.WalkKit
import Derived.ProofKit
import Derived.OpenShut
import Derived.ChangeOld
import Derived.Below
import Derived.Test.YtogidfagkgccmaaCa2
import Derived.Test.YtogidfagkgccmaaCa8
namespace Go.Proofs.Ytogidfagkgccmaa.configWaits
open Go.ChangeShapes Go.WideShapes Go.ChangeAt Go.RowKit
set_option linter.unusedVariables false
attribute [local go_sem] Oper.semAt_some

theorem own : ownKnob Try.prog.godebug = none := by kernel_rfl
theorem laidOut : laidOutB Try.prog = true := by kernel_rfl

/-! ### The walk -/
set_option maxRecDepth 100000 in
set_option maxHeartbeats 4000000 in
theorem walk (q0 : Cfg) (a1 : Int) (w : World) (h0 : MemC w w.heap.size q0) (s0 : q0.aftr.length = 16) (w0 : q0.sws.length ≤ 1000 → q0.pool.length ≤ 1000 → q0.stat.length ≤ 1000 → Fits q0) (w1 : (Lit.int .i64 a1).wf = true) :
    Calls Try.prog 8 #[.agg (cfa q0), .int .i64 a1] w fun e w' => e = .returned (.bool true) ∧ Below w.heap.size w w' := by
  have hW0 := BoxC.mk' w q0
  generalize hWW : w.alloc (.cells (cfa q0) 74) = W at hW0
  have hz := hW0.lt
  have a16 := s0
  have k1 : W.cell? ⟨w.heap.size, 16, none⟩ = some (.slice q0.A1 q0.sws.length q0.c1) := hW0.at_.at_ a16 (j := 0) rfl
  have k2 : W.cell? ⟨w.heap.size, 17, none⟩ = some (.slice q0.A2 q0.pool.length q0.c2) := hW0.at_.at_ a16 (j := 1) rfl
  have k3 : W.cell? ⟨w.heap.size, 35, none⟩ = some (.slice q0.A3 q0.stat.length q0.c3) := hW0.at_.at_ a16 (j := 19) rfl
  by_cases n1 : q0.sws.length ≤ 200
  rotate_left
  · have d1 : (200 : Int) < q0.sws.length := by omega
    go_enter Try.func8, Try.ntmps8
    go_upto_region 1 with fail
    try rw [hWW]
    clear hWW
    go_wp2_with (first
      | (go_at_call 34; refine (awake20 W).mono ?_; rintro e v1 ⟨rfl, b1⟩))
    go_ret
    exact ⟨rfl, hW0.bel.trans (b1.mono hW0.bel.size)⟩
  by_cases n2 : q0.pool.length ≤ 200
  rotate_left
  · have d2 : (200 : Int) < q0.pool.length := by omega
    have d1 : ¬ (200 : Int) < q0.sws.length := by omega
    go_enter Try.func8, Try.ntmps8
    go_upto_region 1 with fail
    try rw [hWW]
    clear hWW
    go_wp2_with (first
      | (go_at_call 34; refine (awake20 W).mono ?_; rintro e v1 ⟨rfl, b1⟩))
    go_ret
    exact ⟨rfl, hW0.bel.trans (b1.mono hW0.bel.size)⟩
  by_cases n3 : q0.stat.length ≤ 200
  rotate_left
  · have d3 : (200 : Int) < q0.stat.length := by omega
    have d2 : ¬ (200 : Int) < q0.pool.length := by omega
    have d1 : ¬ (200 : Int) < q0.sws.length := by omega
    go_enter Try.func8, Try.ntmps8
    go_upto_region 1 with fail
    try rw [hWW]
    clear hWW
    go_wp2_with (first
      | (go_at_call 34; refine (awake20 W).mono ?_; rintro e v1 ⟨rfl, b1⟩))
    go_ret
    exact ⟨rfl, hW0.bel.trans (b1.mono hW0.bel.size)⟩
  have hfit := w0 (by omega) (by omega) (by omega)
  have hcl : (cfl q0).length = 36 := cfl_len a16
  have hm := h0
  have d3 : ¬ (200 : Int) < q0.stat.length := by omega
  have d2 : ¬ (200 : Int) < q0.pool.length := by omega
  have d1 : ¬ (200 : Int) < q0.sws.length := by omega
  obtain ⟨C, hC⟩ : ∃ C, C = chkB q0 := ⟨_, rfl⟩
  have HC := Lib.hid hC
  by_cases hc : C = 0
  rotate_left
  · have hc1 : (C == 0) = false := by simpa using hc
    have hc2 : (C != 0) = true := by simpa using hc
    clear hC
    go_enter Try.func8, Try.ntmps8
    go_upto_region 1 with fail
    try rw [hWW]
    clear hWW
    go_wp2_with (first
      | ((with_reducible show wpList _ _ _ (Oper.mk (some 22) (Op.load 74 _) _ _ _ _ :: _) _ _); refine wpList_gval (by rfl) (ld_cfg rfl rfl hW0.at_ hcl) ?_)
      | (go_at_call 37; refine (c20check q0 w.heap.size W hfit (hm.below hW0.bel) hW0.bel.size).mono ?_; rintro e v1 ⟨rfl, b1⟩; rw [← HC.out]; have hW1 := hW0.more b1)
      | (go_at_call 34; refine (awake20 v1).mono ?_; rintro e v2 ⟨rfl, b2⟩))
    go_ret
    exact ⟨rfl, hW1.bel.trans (b2.mono hW1.bel.size)⟩
  subst hc
  have hnum : numB q0 = true := by
    by_cases h : (numB q0 && lisB q0) = true
    · simp only [Bool.and_eq_true] at h; exact h.1
    · rw [chkB, if_neg h] at hC; cases hC
  clear hC
  have hU : 120 ≤ waitB q0 17 a1 := by
    simp only [numB, inn, Bool.and_eq_true, decide_eq_true_eq] at hnum
    simp [waitB]; omega
  have hT : 7440 ≤ waitB q0 6 3 := by
    simp only [numB, inn, Bool.and_eq_true, decide_eq_true_eq] at hnum
    simp [waitB]; omega
  have hV : 240 ≤ waitB q0 6 a1 := by
    simp only [numB, inn, Bool.and_eq_true, decide_eq_true_eq] at hnum
    by_cases e : a1 = 3
    · simp [waitB, e]; omega
    · simp [waitB, e]; omega
  have hY : 60 ≤ waitB q0 1 a1 := by
    simp only [numB, inn, Bool.and_eq_true, decide_eq_true_eq] at hnum
    simp [waitB]; omega
  clear hnum
  obtain ⟨U, hU1⟩ : ∃ x, x = waitB q0 17 a1 := ⟨_, rfl⟩
  rw [← hU1] at hU
  have HU := Lib.hid hU1
  clear hU1
  obtain ⟨T, hT1⟩ : ∃ x, x = waitB q0 6 3 := ⟨_, rfl⟩
  rw [← hT1] at hT
  have HT := Lib.hid hT1
  clear hT1
  obtain ⟨V, hV1⟩ : ∃ x, x = waitB q0 6 a1 := ⟨_, rfl⟩
  rw [← hV1] at hV
  have HV := Lib.hid hV1
  clear hV1
  obtain ⟨Y, hY1⟩ : ∃ x, x = waitB q0 1 a1 := ⟨_, rfl⟩
  rw [← hY1] at hY
  have HY := Lib.hid hY1
  clear hY1
  go_enter Try.func8, Try.ntmps8
  go_upto_region 1 with fail
  try rw [hWW]
  clear hWW
  go_wp2_with (first
    | ((with_reducible show wpList _ _ _ (Oper.mk (some 22) (Op.load 74 _) _ _ _ _ :: _) _ _); refine wpList_gval (by rfl) (ld_cfg rfl rfl hW0.at_ hcl) ?_)
    | (go_at_call 37; refine (c20check q0 w.heap.size W hfit (hm.below hW0.bel) hW0.bel.size).mono ?_; rintro e v1 ⟨rfl, b1⟩; rw [← HC.out]; have hW1 := hW0.more b1)
    | ((with_reducible show wpList _ _ _ (Oper.mk (some 27) (Op.load 74 _) _ _ _ _ :: _) _ _); refine wpList_val rfl (ld_cfg rfl rfl hW1.at_ hcl) ?_)
    | ((with_reducible show wpList _ _ _ (Oper.mk (some 32) (Op.load 74 _) _ _ _ _ :: _) _ _); refine wpList_gval (by rfl) (ld_cfg rfl rfl hW2.at_ hcl) ?_)
    | ((with_reducible show wpList _ _ _ (Oper.mk (some 37) (Op.load 74 _) _ _ _ _ :: _) _ _); refine wpList_gval (by rfl) (ld_cfg rfl rfl hW3.at_ hcl) ?_)
    | ((with_reducible show wpList _ _ _ (Oper.mk (some 43) (Op.load 74 _) _ _ _ _ :: _) _ _); refine wpList_gval (by rfl) (ld_cfg rfl rfl hW4.at_ hcl) ?_)
    | (go_at_call 39; (with_reducible show Calls _ 39 #[_, .int .i64 1, .int .i64 a1] _ _); refine (c20wait 1 a1 q0 _ hfit).mono ?_; rintro e v5 ⟨rfl, b5⟩; rw [← HY.out]; have hW5 := hW4.more b5)
    | (go_at_call 39; (with_reducible show Calls _ 39 #[_, .int .i64 6, .int .i64 a1] _ _); refine (c20wait 6 a1 q0 _ hfit).mono ?_; rintro e v4 ⟨rfl, b4⟩; rw [← HV.out]; have hW4 := hW3.more b4)
    | (go_at_call 39; (with_reducible show Calls _ 39 #[_, .int .i64 6, .int .i64 3] _ _); refine (c20wait 6 3 q0 _ hfit).mono ?_; rintro e v3 ⟨rfl, b3⟩; rw [← HT.out]; have hW3 := hW2.more b3)
    | (go_at_call 39; (with_reducible show Calls _ 39 #[_, .int .i64 17, .int .i64 a1] _ _); refine (c20wait 17 a1 q0 _ hfit).mono ?_; rintro e v2 ⟨rfl, b2⟩; rw [← HU.out]; have hW2 := hW1.more b2)
    | (go_at_call 34; refine (awake20 v5).mono ?_; rintro e v6 ⟨rfl, b6⟩))
  go_ret
  exact ⟨rfl, hW5.bel.trans (b6.mono hW5.bel.size)⟩

/-! ### The row's step -/
set_option maxRecDepth 100000 in
theorem lifted (os : Os) (started : os.Started) (H : Type) (enc : TypeId × Value → H) :
    ReturnsInHanded {} Try.checked os 8 .any (Rows.configWaitsSpec.pre6 enc Try.prog Try.f8 Rows.configWaitsRow.domain false) (Rows.configWaitsSpec.post enc Try.prog Try.f8 false true false false) := by
  refine returnsInHanded_of_change (C := Try.checked) own started (by kernel_rfl) Try.func8
    (ChangeSpec.witness6 (enc := enc) (C := Try.checked) false ⟨#[], #[.agg #[.int .u8 0, .int .u8 0, .int .u8 0, .int .u8 0, .int .u8 0, .int .u8 0, .int .u8 0, .int .u8 0, .int .u8 0, .int .u8 0, .int .u8 0, .int .u8 0, .int .u8 0, .int .u8 0, .int .u8 0, .int .u8 0, .slice none 0 0, .slice none 0 0, .int .i64 0, .int .i64 0, .int .i64 0, .int .i64 0, .int .i64 0, .int .i64 0, .int .i64 0, .int .i64 0, .int .i64 0, .int .i64 0, .int .i64 0, .int .i64 0, .int .i64 0, .int .i64 0, .int .i64 0, .int .i64 0, .int .i64 0, .slice none 0 0], .int .i64 0], []⟩ 8 (by kernel_rfl) (by kernel_rfl) (by kernel_rfl) (by kernel_rfl)) ?_
  intro W base args ds gs before hval0 hW hcnd _
  have hval : ∀ (j : Nat) t v, Try.f8.params[j]? = some t → args[j]? = some v → Value.okWide Try.prog W .any base t v := hval0
  have hW' := hW
  obtain ⟨p, q, hA0, hV, rfl, hfz, hnd⟩ := hW
  have hA : DataW.TrodAll enc Try.prog W 0 (fun _ => true) true Try.f8.params.toList args.toList ds p := hA0
  rw [Try.params8] at hA hval
  obtain ⟨v0, vs0, d0, ds0, p0, q0, hargs, rfl, rfl, t0, r0⟩ := trodAll_cons hA
  obtain ⟨v1, vs1, d1, ds1, p1, q1, rfl, rfl, rfl, t1, r1⟩ := trodAll_cons r0
  obtain ⟨rfl, rfl, rfl⟩ := trodAll_nil r1
  obtain rfl : args = #[v0, v1] := by cases args; simp_all
  obtain ⟨rfl, rfl⟩ := trodVars_none hV
  have k0 := t0
  have lt0 := Trod_lt t0
  have k1 := t1
  have lt1 := Trod_lt t1
  obtain ⟨q0, rfl, h0, s0, w0⟩ := get_cfg (hval 0 74 v0 rfl rfl) t0
  obtain ⟨a1, rfl, w1⟩ := get_int Try.underlying3 (hval 1 3 v1 rfl rfl) t1
  clear hA0 hval0
  refine (walk q0 a1 W h0 s0 w0 w1).mono fun e W' ⟨he, bel⟩ => ?_
  subst he
  exact ⟨_, rfl, _, _, _, [], _, [], hW', trodAll_mk1 (shut_bool Try.underlying4 _), (trodAll_cons_mk (Below.trod laidOut (by kernel_rfl) (of_decide_eq_true (by kernel_rfl)) k0 bel lt0) (trodAll_cons_mk (Below.trod laidOut (by kernel_rfl) (of_decide_eq_true (by kernel_rfl)) k1 bel lt1) trodAll_mk0)), rfl, bel.frame _, fun h => by cases h⟩

theorem over : Rows.configWaitsRow.holds Try.pinned (OpenSpec.ofChange Rows.configWaitsSpec) :=
  OpenClaim.holds_of_wide 8 Try.f8 rfl rfl rfl rfl rfl rfl rfl ⟨rfl, rfl, rfl, rfl, rfl⟩ rfl rfl rfl rfl rfl (by kernel_rfl) Try.func8 (by kernel_rfl)
    (of_decide_eq_true (by kernel_rfl)) (by unfold Func.isWrapper; first | (rw [if_pos (by decide +kernel)]; kernel_rfl) | (rw [if_neg (by decide +kernel)]; exact ⟨rfl, rfl⟩))
    (fun os started H enc _ => lifted os started H enc)

theorem proved : Rows.ConfigWaitsSaid := over
end Go.Proofs.Ytogidfagkgccmaa.configWaits
