/-
  For all messages, goosepondlaw09.IcmpBuilds answers true: any message's bytes are what the document says, or refused.
  Conditions: none but the statement's own.
-/
import Derived.Test.YtobkiffiapjhgaaRows
import Derived.WalkKit
import Derived.ProofKit
import Derived.OpenShut
import Derived.ChangeOld
import Derived.Below
import Derived.Test.YtobkiffiapjhgaaMa1
import Derived.Test.YtobkiffiapjhgaaMa8
namespace Go.Proofs.Ytobkiffiapjhgaa.icmpBuilds
open Go.ChangeShapes Go.WideShapes Go.ChangeAt Go.RowKit
set_option linter.unusedVariables false
attribute [local go_sem] Oper.semAt_some

theorem own : ownKnob Try.prog.godebug = none := by kernel_rfl
theorem laidOut : laidOutB Try.prog = true := by kernel_rfl

/-! ### The walk -/
set_option maxRecDepth 100000 in
set_option maxHeartbeats 4000000 in
theorem walk (x0 : PI) (A0 : Option Addr) (c0 : Nat) (x1 : PI) (A1 : Option Addr) (c1 : Nat) (w : World) (h0 : Arg w w.heap.size A0 c0 x0.dat) (m0 : c0 ≤ maxLen) (w0 : x0.fits) (h1 : Arg w w.heap.size A1 c1 x1.dat) (m1 : c1 ≤ maxLen) (w1 : x1.fits) :
    Calls Try.prog 3 #[isv x0 A0 c0, isv x1 A1 c1] w fun e w' => e = .returned (.bool true) ∧ Below w.heap.size w w' := by
  have hB0 : Below w.heap.size w ((w.alloc (.cells (isa x0 A0 c0) 24)).alloc (.cells (isa x1 A1 c1) 24)) := below_two w _ _
  have at0 : Atis ((w.alloc (.cells (isa x0 A0 c0) 24)).alloc (.cells (isa x1 A1 c1) 24)) w.heap.size x0 A0 c0 := (Atis.new w).below ((Below.refl (w.heap.size + 1) _).alloc (by simp) _) (by omega)
  have at1 : Atis ((w.alloc (.cells (isa x0 A0 c0) 24)).alloc (.cells (isa x1 A1 c1) 24)) (w.heap.size + 1) x1 A1 c1 := by
    have := Atis.new (q := x1) (A := A1) (c := c1) (w.alloc (.cells (isa x0 A0 c0) 24))
    rwa [show (w.alloc (.cells (isa x0 A0 c0) 24)).heap.size = w.heap.size + 1 from by simp] at this
  have hzF : w.heap.size + 1 < ((w.alloc (.cells (isa x0 A0 c0) 24)).alloc (.cells (isa x1 A1 c1) 24)).heap.size := by simp
  rw [isv_eq, isv_eq]
  go_enter Try.func3, Try.ntmps3
  go_upto_region 1 with fail
  generalize (w.alloc (.cells (isa x0 A0 c0) 24)).alloc (.cells (isa x1 A1 c1) 24) = W at *
  have k0dat := at0.dat
  have k1dat := at1.dat
  by_cases h0dat : 3000 < x0.dat.length
  · have d0dat : decide (3000 < (x0.dat.length : Int)) = true := by simp; omega
    go_wp2_with (first | (go_at_call 10; refine (awakeI_any _).mono ?_; rintro e w10 ⟨rfl, b10⟩))
    go_ret
    exact ⟨rfl, hB0.trans (b10.mono hB0.size)⟩
  · have d0dat : decide (3000 < (x0.dat.length : Int)) = false := by simp; omega
    have l0dat : x0.dat.length ≤ 3000 := by omega
    clear h0dat
    by_cases h1dat : 3000 < x1.dat.length
    · have d1dat : decide (3000 < (x1.dat.length : Int)) = true := by simp; omega
      go_wp2_with (first | (go_at_call 10; refine (awakeI_any _).mono ?_; rintro e w10 ⟨rfl, b10⟩))
      go_ret
      exact ⟨rfl, hB0.trans (b10.mono hB0.size)⟩
    · have d1dat : decide (3000 < (x1.dat.length : Int)) = false := by simp; omega
      have l1dat : x1.dat.length ≤ 3000 := by omega
      clear h1dat
      go_upto_region 4 with (first
        | ((with_reducible show wpList _ _ _ (Oper.mk _ (Op.load 24 _) _ _ _ _ :: _) _ _); refine wpList_valw (by rfl) (run_load_is rfl rfl at0 rfl) ?_)
        | (go_at_call 11; refine (cIbuild x0 A0 c0 _ w.heap.size (h0.below hB0) hB0.size (by omega)).mono ?_; rintro e w3 ⟨v1, rfl, n1⟩; obtain ⟨P1, q1, rfl, g1, y3⟩ := resI_shape n1))
      have hAt1 := at0.below y3 (by omega)
      have q1' := hB0.trans (y3.mono hB0.size)
      go_upto_region 5 with (first
        | ((with_reducible show wpList _ _ _ (Oper.mk _ (Op.load 24 _) _ _ _ _ :: _) _ _); refine wpList_valw (by rfl) (run_load_is rfl rfl hAt1 rfl) ?_)
        | (go_at_call 12; refine (rIbuild x0 A0 c0 _ w.heap.size (h0.below q1') q1'.size (by omega)).mono ?_; rintro e X ⟨v2, rfl, n2⟩; obtain ⟨P2, q2, rfl, f2, y4⟩ := resI_shape n2))
      have qx : Below w.heap.size w X := q1'.trans (y4.mono q1'.size)
      have x12 := y3.trans (y4.mono y3.size)
      have at0 := at0.below x12 (by omega)
      have at1 := at1.below x12 (by omega)
      have f1 := g1.below y4
      have zX := x12.size
      have zy := y4.size
      have hx1 : w.heap.size + 1 < X.heap.size := by omega
      clear n1 n2 g1 hAt1 y3 y4 q1' x12
      refine wp_region_held_drew (S := fun w' => Below X.heap.size X w') (by kernel_rfl) (Below.refl _ X).drew (fun hS => ?_)
      refine held_pure (i := 0) (oi := ⟨some 30, _, _, _, _, _⟩) rfl (by kernel_rfl) (by kernel_rfl) (by kernel_rfl) (fun _ _ _ h => h) (by rfl) (v := ?_) (fun w hSw => ?_) hS (fun hS => ?_)
      rotate_left
      · go_simp; try with_reducible rfl
      try go_frame
      refine held_pure (i := 1) (oi := ⟨some 31, _, _, _, _, _⟩) rfl (by kernel_rfl) (by kernel_rfl) (by kernel_rfl) (fun _ _ _ h => h) (by rfl) (v := ?_) (fun w hSw => ?_) hS (fun hS => ?_)
      rotate_left
      · go_simp; try with_reducible rfl
      try go_frame
      refine held_pure (i := 2) (oi := ⟨some 32, _, _, _, _, _⟩) rfl (by kernel_rfl) (by kernel_rfl) (by kernel_rfl) (fun _ _ _ h => h) (by rfl) (v := ?_) (fun w hSw => ?_) hS (fun hS => ?_)
      rotate_left
      · go_simp; try with_reducible rfl
      try go_frame
      refine held_pure (i := 3) (oi := ⟨some 33, _, _, _, _, _⟩) rfl (by kernel_rfl) (by kernel_rfl) (by kernel_rfl) (fun _ _ _ h => h) (by rfl) (v := ?_) (fun w hSw => ?_) hS (fun hS => ?_)
      rotate_left
      · go_simp; try with_reducible rfl
      try go_frame
      refine held_pure (i := 4) (oi := ⟨some 34, _, _, _, _, _⟩) rfl (by kernel_rfl) (by kernel_rfl) (by kernel_rfl) (fun _ _ _ h => h) (by rfl) (v := ?_) (fun w hSw => ?_) hS (fun hS => ?_)
      rotate_left
      · go_simp; try with_reducible rfl
      try go_frame
      refine held_pure (i := 5) (oi := ⟨some 35, _, _, _, _, _⟩) rfl (by kernel_rfl) (by kernel_rfl) (by kernel_rfl) (fun _ _ _ h => h) (by rfl) (v := ?_) (fun w hSw => ?_) hS (fun hS => ?_)
      rotate_left
      · go_simp; try with_reducible rfl
      try go_frame
      refine wpAnyH_ready (rs := [6]) (by kernel_rfl) (by simp) (AllReadyH.cons (o := ⟨some 36, _, _, _, _, _⟩) rfl (fun K hK => ?_) AllReadyH.nil)
      rw [if_pos (by rfl)]
      go_simp
      refine (equal_same P1 P2 (resI [] x0) _ _ _ _ _ (f1.below (hS.mono (by omega))) (f2.below (hS.mono (by omega)))).mono ?_
      rintro e u6 ⟨rfl, rfl⟩
      show K _ _
      refine hK.out _ _ hS (fun hS => ?_)
      clear hK K
      try go_frame
      refine held_pure (i := 7) (oi := ⟨some 37, _, _, _, _, _⟩) rfl (by kernel_rfl) (by kernel_rfl) (by kernel_rfl) (fun _ _ _ h => h) (by rfl) (v := ?_) (fun w hSw => ?_) hS (fun hS => ?_)
      rotate_left
      · go_simp; try with_reducible rfl
      try go_frame
      refine held_pure (i := 8) (oi := ⟨some 38, _, _, _, _, _⟩) rfl (by kernel_rfl) (by kernel_rfl) (by kernel_rfl) (fun _ _ _ h => h) (by rfl) (v := ?_) (fun w hSw => ?_) hS (fun hS => ?_)
      rotate_left
      · go_simp; try with_reducible rfl
      try go_frame
      refine held_pure (i := 9) (oi := ⟨some 39, _, _, _, _, _⟩) rfl (by kernel_rfl) (by kernel_rfl) (by kernel_rfl) (fun _ _ _ h => h) (by rfl) (fun w hSw => run_load_is rfl rfl (at0.below hSw (by omega)) rfl) hS (fun hS => ?_)
      try go_frame
      refine held_pure (i := 11) (oi := ⟨some 41, _, _, _, _, _⟩) rfl (by kernel_rfl) (by kernel_rfl) (by kernel_rfl) (fun _ _ _ h => h) (by rfl) (fun w hSw => run_load_is rfl rfl (at0.below hSw (by omega)) rfl) hS (fun hS => ?_)
      try go_frame
      refine wpAnyH_ready (rs := [10]) (by kernel_rfl) (by simp) (AllReadyH.cons (o := ⟨some 40, _, _, _, _, _⟩) rfl (fun K hK => ?_) AllReadyH.nil)
      rw [if_pos (by rfl)]
      go_simp
      refine (cIcheck x0 A0 c0 _ (by omega)).mono ?_
      rintro e w10 ⟨rfl, x10⟩
      show K _ _
      refine hK.out _ _ (below_step hS x10) (fun hS => ?_)
      clear hK K
      try go_frame
      refine wpAnyH_ready (rs := [12]) (by kernel_rfl) (by simp) (AllReadyH.cons (o := ⟨some 42, _, _, _, _, _⟩) rfl (fun K hK => ?_) AllReadyH.nil)
      rw [if_pos (by rfl)]
      go_simp
      refine (rIcheck x0 A0 c0 _ (by omega)).mono ?_
      rintro e w12 ⟨rfl, x12⟩
      show K _ _
      refine hK.out _ _ (below_step hS x12) (fun hS => ?_)
      clear hK K
      try go_frame
      refine held_pure (i := 13) (oi := ⟨some 43, _, _, _, _, _⟩) rfl (by kernel_rfl) (by kernel_rfl) (by kernel_rfl) (fun _ _ _ h => h) (by rfl) (v := ?_) (fun w hSw => ?_) hS (fun hS => ?_)
      rotate_left
      · go_simp; try with_reducible rfl
      try go_frame
      refine held_pure (i := 14) (oi := ⟨some 44, _, _, _, _, _⟩) rfl (by kernel_rfl) (by kernel_rfl) (by kernel_rfl) (fun _ _ _ h => h) (by rfl) (v := ?_) (fun w hSw => ?_) hS (fun hS => ?_)
      rotate_left
      · go_simp; try with_reducible rfl
      try go_frame
      refine held_pure (i := 15) (oi := ⟨some 45, _, _, _, _, _⟩) rfl (by kernel_rfl) (by kernel_rfl) (by kernel_rfl) (fun _ _ _ h => h) (by rfl) (v := ?_) (fun w hSw => ?_) hS (fun hS => ?_)
      rotate_left
      · go_simp; try with_reducible rfl
      try go_frame
      refine held_pure (i := 16) (oi := ⟨some 46, _, _, _, _, _⟩) rfl (by kernel_rfl) (by kernel_rfl) (by kernel_rfl) (fun _ _ _ h => h) (by rfl) (fun w hSw => run_load_is rfl rfl (at0.below hSw (by omega)) rfl) hS (fun hS => ?_)
      try go_frame
      refine held_pure (i := 17) (oi := ⟨some 47, _, _, _, _, _⟩) rfl (by kernel_rfl) (by kernel_rfl) (by kernel_rfl) (fun _ _ _ h => h) (by rfl) (fun w hSw => run_load_is rfl rfl (at1.below hSw (by omega)) rfl) hS (fun hS => ?_)
      try go_frame
      refine held_pure (i := 19) (oi := ⟨some 49, _, _, _, _, _⟩) rfl (by kernel_rfl) (by kernel_rfl) (by kernel_rfl) (fun _ _ _ h => h) (by rfl) (fun w hSw => run_load_is rfl rfl (at0.below hSw (by omega)) rfl) hS (fun hS => ?_)
      try go_frame
      refine held_pure (i := 20) (oi := ⟨some 50, _, _, _, _, _⟩) rfl (by kernel_rfl) (by kernel_rfl) (by kernel_rfl) (fun _ _ _ h => h) (by rfl) (fun w hSw => run_load_is rfl rfl (at1.below hSw (by omega)) rfl) hS (fun hS => ?_)
      try go_frame
      refine wpAnyH_ready (rs := [18]) (by kernel_rfl) (by simp) (AllReadyH.cons (o := ⟨some 48, _, _, _, _, _⟩) rfl (fun K hK => ?_) AllReadyH.nil)
      rw [if_pos (by rfl)]
      go_simp
      refine (cIsame x0 x1 A0 c0 A1 c1 w.heap.size _ (qx.trans (hS.mono qx.size)).size (h0.below (qx.trans (hS.mono qx.size))).rd (h1.below (qx.trans (hS.mono qx.size))).rd).mono ?_
      rintro e w18 ⟨rfl, x18⟩
      show K _ _
      refine hK.out _ _ (below_step hS x18) (fun hS => ?_)
      clear hK K
      try go_frame
      refine wpAnyH_ready (rs := [21]) (by kernel_rfl) (by simp) (AllReadyH.cons (o := ⟨some 51, _, _, _, _, _⟩) rfl (fun K hK => ?_) AllReadyH.nil)
      rw [if_pos (by rfl)]
      go_simp
      refine (rIsame x0 x1 A0 c0 A1 c1 w.heap.size _ (qx.trans (hS.mono qx.size)).size (h0.below (qx.trans (hS.mono qx.size))).rd (h1.below (qx.trans (hS.mono qx.size))).rd).mono ?_
      rintro e w21 ⟨rfl, x21⟩
      show K _ _
      refine hK.out _ _ (below_step hS x21) (fun hS => ?_)
      clear hK K
      try go_frame
      refine held_pure (i := 22) (oi := ⟨some 52, _, _, _, _, _⟩) rfl (by kernel_rfl) (by kernel_rfl) (by kernel_rfl) (fun _ _ _ h => h) (by rfl) (v := ?_) (fun w hSw => ?_) hS (fun hS => ?_)
      rotate_left
      · go_simp; try with_reducible rfl
      try go_frame
      refine held_pure (i := 23) (oi := ⟨some 53, _, _, _, _, _⟩) rfl (by kernel_rfl) (by kernel_rfl) (by kernel_rfl) (fun _ _ _ h => h) (by rfl) (v := ?_) (fun w hSw => ?_) hS (fun hS => ?_)
      rotate_left
      · go_simp; try with_reducible rfl
      try go_frame
      refine held_pure (i := 24) (oi := ⟨some 54, _, _, _, _, _⟩) rfl (by kernel_rfl) (by kernel_rfl) (by kernel_rfl) (fun _ _ _ h => h) (by rfl) (v := ?_) (fun w hSw => ?_) hS (fun hS => ?_)
      rotate_left
      · go_simp; try with_reducible rfl
      try go_frame
      refine wpAnyH_ready (rs := [25]) (by kernel_rfl) (by simp) (AllReadyH.cons (o := ⟨some 55, _, _, _, _, _⟩) rfl (fun K hK => ?_) AllReadyH.nil)
      rw [if_pos (by rfl)]
      go_simp
      refine (awakeI_any _).mono ?_
      rintro e w25 ⟨rfl, x25⟩
      show K _ _
      refine hK.out _ _ (below_step hS x25) (fun hS => ?_)
      clear hK K
      try go_frame
      refine held_pure (i := 26) (oi := ⟨some 56, _, _, _, _, _⟩) rfl (by kernel_rfl) (by kernel_rfl) (by kernel_rfl) (fun _ _ _ h => h) (by rfl) (v := ?_) (fun w hSw => ?_) hS (fun hS => ?_)
      rotate_left
      · go_simp; try with_reducible rfl
      try go_frame
      refine held_pure (i := 27) (oi := ⟨some 4, _, _, _, _, _⟩) rfl (by kernel_rfl) (by kernel_rfl) (by kernel_rfl) (fun _ _ _ h => h) (by rfl) (v := ?_) (fun w hSw => ?_) hS (fun hS => ?_)
      rotate_left
      · go_simp; try with_reducible rfl
      try go_frame
      refine wpAnyH_done (by kernel_rfl) ?_ _
      go_wp2_with fail
      go_ret
      exact ⟨rfl, qx.trans (hS.mono qx.size)⟩

/-! ### The row's step -/
set_option maxRecDepth 100000 in
theorem lifted (os : Os) (started : os.Started) (H : Type) (enc : TypeId × Value → H) :
    ReturnsInHanded {} Try.checked os 3 .any (Rows.icmpBuildsSpec.pre6 enc Try.prog Try.f3 Rows.icmpBuildsRow.domain false) (Rows.icmpBuildsSpec.post enc Try.prog Try.f3 false true false false) := by
  refine returnsInHanded_of_change (C := Try.checked) own started (by kernel_rfl) Try.func3
    (ChangeSpec.witness6 (enc := enc) (C := Try.checked) false ⟨#[], #[.agg #[.int .i64 0, .int .i64 0, .int .i64 0, .slice none 0 0], .agg #[.int .i64 0, .int .i64 0, .int .i64 0, .slice none 0 0]], []⟩ 8 (by kernel_rfl) (by kernel_rfl) (by kernel_rfl) (by kernel_rfl)) ?_
  intro W base args ds gs before hval0 hW hcnd _
  have hval : ∀ (j : Nat) t v, Try.f3.params[j]? = some t → args[j]? = some v → Value.okWide Try.prog W .any base t v := hval0
  have hW' := hW
  obtain ⟨p, q, hA0, hV, rfl, hfz, hnd⟩ := hW
  have hA : DataW.TrodAll enc Try.prog W 0 (fun _ => true) true Try.f3.params.toList args.toList ds p := hA0
  rw [Try.params3] at hA hval
  obtain ⟨v0, vs0, d0, ds0, p0, q0, hargs, rfl, rfl, t0, r0⟩ := trodAll_cons hA
  obtain ⟨v1, vs1, d1, ds1, p1, q1, rfl, rfl, rfl, t1, r1⟩ := trodAll_cons r0
  obtain ⟨rfl, rfl, rfl⟩ := trodAll_nil r1
  obtain rfl : args = #[v0, v1] := by cases args; simp_all
  obtain ⟨rfl, rfl⟩ := trodVars_none hV
  have k0 := t0
  have lt0 := Trod_lt t0
  have k1 := t1
  have lt1 := Trod_lt t1
  obtain ⟨x0, A0, c0, rfl, h0, m0, w0⟩ := get_is (hval 0 24 v0 rfl rfl) t0
  obtain ⟨x1, A1, c1, rfl, h1, m1, w1⟩ := get_is (hval 1 24 v1 rfl rfl) t1
  clear hA0 hval0
  refine (walk x0 A0 c0 x1 A1 c1 W h0 m0 w0 h1 m1 w1).mono fun e W' ⟨he, bel⟩ => ?_
  subst he
  exact ⟨_, rfl, _, _, _, [], _, [], hW', trodAll_mk1 (shut_bool Try.underlying4 _), (trodAll_cons_mk (Below.trod laidOut (by kernel_rfl) (of_decide_eq_true (by kernel_rfl)) k0 bel lt0) (trodAll_cons_mk (Below.trod laidOut (by kernel_rfl) (of_decide_eq_true (by kernel_rfl)) k1 bel lt1) trodAll_mk0)), rfl, bel.frame _, fun h => by cases h⟩

theorem over : Rows.icmpBuildsRow.holds Try.pinned (OpenSpec.ofChange Rows.icmpBuildsSpec) :=
  OpenClaim.holds_of_wide 3 Try.f3 rfl rfl rfl rfl rfl rfl rfl ⟨rfl, rfl, rfl, rfl, rfl⟩ rfl rfl rfl rfl rfl (by kernel_rfl) Try.func3 (by kernel_rfl)
    (of_decide_eq_true (by kernel_rfl)) (by unfold Func.isWrapper; first | (rw [if_pos (by decide +kernel)]; kernel_rfl) | (rw [if_neg (by decide +kernel)]; exact ⟨rfl, rfl⟩))
    (fun os started H enc _ => lifted os started H enc)

theorem proved : Rows.IcmpBuildsSaid := over
end Go.Proofs.Ytobkiffiapjhgaa.icmpBuilds
