/-
  For all addresses, messages and numbers, goosepondlaw10.Icmp6Builds answers true: any message's bytes, and what its sum is of, are what the document says, or refused.
  Conditions: none but the statement's own.
-/
import Derived.Test.YtobkiffiapjhgaaRows
import Derived.WalkKit
import Derived.ProofKit
import Derived.OpenShut
import Derived.ChangeOld
import Derived.Below
import Derived.Test.YtobkiffiapjhgaaMa1
import Derived.Test.YtobkiffiapjhgaaMb2
namespace Go.Proofs.Ytobkiffiapjhgaa.icmp6Builds
open Go.ChangeShapes Go.WideShapes Go.ChangeAt Go.RowKit
set_option linter.unusedVariables false
attribute [local go_sem] Oper.semAt_some

theorem own : ownKnob Try.prog.godebug = none := by kernel_rfl
theorem laidOut : laidOutB Try.prog = true := by kernel_rfl

/-! ### The walk -/
set_option maxRecDepth 100000 in
set_option maxHeartbeats 4000000 in
theorem walk (b0 : List UInt8) (b1 : List UInt8) (x2 : PI) (A2 : Option Addr) (c2 : Nat) (a3 : Int) (a4 : Int) (w : World) (h0 : b0.length = 16) (h1 : b1.length = 16) (h2 : Arg w w.heap.size A2 c2 x2.dat) (m2 : c2 ≤ maxLen) (w2 : x2.fits) (w3 : (Lit.int .i64 a3).wf = true) (w4 : (Lit.int .i64 a4).wf = true) :
    Calls Try.prog 7 #[.agg (cel b0), .agg (cel b1), isv x2 A2 c2, .int .i64 a3, .int .i64 a4] w fun e w' => e = .returned (.bool true) ∧ Below w.heap.size w w' := by
  have hB0 : Below w.heap.size w (((w.alloc (.cells (cel b0) 41)).alloc (.cells (cel b1) 41)).alloc (.cells (isa x2 A2 c2) 24)) := (below_two w _ _).alloc (by simp; omega) _
  have b3 : Below (w.heap.size + 2) ((w.alloc (.cells (cel b0) 41)).alloc (.cells (cel b1) 41)) (((w.alloc (.cells (cel b0) 41)).alloc (.cells (cel b1) 41)).alloc (.cells (isa x2 A2 c2) 24)) := (Below.refl _ _).alloc (by simp) _
  have at0 := range_below (six_first w (cel b0) (cel b1) 41 b0 rfl) (by omega) b3
  have at1 := range_below (six_second w (cel b0) (cel b1) 41 b1 rfl) (by omega) b3
  have hAt : Atis (((w.alloc (.cells (cel b0) 41)).alloc (.cells (cel b1) 41)).alloc (.cells (isa x2 A2 c2) 24)) (w.heap.size + 2) x2 A2 c2 := by
    have := Atis.new (q := x2) (A := A2) (c := c2) ((w.alloc (.cells (cel b0) 41)).alloc (.cells (cel b1) 41))
    rwa [show ((w.alloc (.cells (cel b0) 41)).alloc (.cells (cel b1) 41)).heap.size = w.heap.size + 2 from by simp] at this
  have hz0 : w.heap.size + 2 < (((w.alloc (.cells (cel b0) 41)).alloc (.cells (cel b1) 41)).alloc (.cells (isa x2 A2 c2) 24)).heap.size := by simp
  rw [isv_eq]
  clear b3
  go_enter Try.func7, Try.ntmps7
  go_upto_region 1 with fail
  generalize ((w.alloc (.cells (cel b0) 41)).alloc (.cells (cel b1) 41)).alloc (.cells (isa x2 A2 c2) 24) = W at *
  have k0dat := hAt.dat
  by_cases h3 : 3000 < x2.dat.length
  · have d3 : decide (3000 < (x2.dat.length : Int)) = true := by simp; omega
    go_wp2_with (go_at_call 28; refine (awakeJ_any _).mono ?_; rintro e w10 ⟨rfl, b10⟩)
    go_ret
    exact ⟨rfl, hB0.trans (b10.mono hB0.size)⟩
  · have d3 : decide (3000 < (x2.dat.length : Int)) = false := by simp; omega
    have l3 : x2.dat.length ≤ 3000 := by omega
    clear h3
    go_upto_region 4 with (first
      | ((with_reducible show wpList _ _ _ (Oper.mk (some 21) (Op.load 41 _) _ _ _ _ :: _) _ _); refine wpList_valw (by rfl) (run_load_six rfl rfl at0 h0) ?_)
      | ((with_reducible show wpList _ _ _ (Oper.mk (some 22) (Op.load 41 _) _ _ _ _ :: _) _ _); refine wpList_valw (by rfl) (run_load_six rfl rfl at1 h1) ?_)
      | ((with_reducible show wpList _ _ _ (Oper.mk (some 23) (Op.load 24 _) _ _ _ _ :: _) _ _); refine wpList_valw (by rfl) (run_load_is rfl rfl hAt rfl) ?_)
      | (go_at_call 29; refine (cJbuild b0 b1 _ x2 A2 c2 w.heap.size (h2.below hB0) hB0.size (by omega) h0 h1).mono ?_; rintro e w3 ⟨v1, rfl, n1⟩; obtain ⟨P1, q1, rfl, g1, y3⟩ := resJ_shape n1))
    have z3 := y3.size
    have at0' := range_below at0 (B := W.heap.size) (by omega) y3
    have at1' := range_below at1 (B := W.heap.size) (by omega) y3
    have hAt1 := hAt.below y3 (by omega)
    have q1' := hB0.trans (y3.mono hB0.size)
    go_upto_region 5 with (first
      | ((with_reducible show wpList _ _ _ (Oper.mk (some 28) (Op.load 41 _) _ _ _ _ :: _) _ _); refine wpList_valw (by rfl) (run_load_six rfl rfl at0' h0) ?_)
      | ((with_reducible show wpList _ _ _ (Oper.mk (some 29) (Op.load 41 _) _ _ _ _ :: _) _ _); refine wpList_valw (by rfl) (run_load_six rfl rfl at1' h1) ?_)
      | ((with_reducible show wpList _ _ _ (Oper.mk (some 30) (Op.load 24 _) _ _ _ _ :: _) _ _); refine wpList_valw (by rfl) (run_load_is rfl rfl hAt1 rfl) ?_)
      | (go_at_call 30; refine (rJbuild b0 b1 _ x2 A2 c2 w.heap.size (h2.below q1') q1'.size (by omega) h0 h1).mono ?_; rintro e X ⟨v2, rfl, n2⟩; obtain ⟨P2, q2, rfl, f2, y4⟩ := resJ_shape n2))
    have qx : Below w.heap.size w X := q1'.trans (y4.mono q1'.size)
    have x12 := y3.trans (y4.mono y3.size)
    have at0 := range_below at0 (B := W.heap.size) (by omega) x12
    have at1 := range_below at1 (B := W.heap.size) (by omega) x12
    have f1 := g1.below y4
    have zX := x12.size
    have zy := y4.size
    have hx0 : w.heap.size < X.heap.size := by omega
    have hx1 : w.heap.size + 1 < X.heap.size := by omega
    clear n1 n2 g1 hAt1 y3 y4 q1' x12 at0' at1' hAt
    obtain ⟨F, hF⟩ : ∃ F, fltJ a3 = F := ⟨_, rfl⟩
    have HF := Lib.hid hF
    clear hF
    refine wp_region_held_drew (S := fun w' => Below X.heap.size X w') (by kernel_rfl) (Below.refl _ X).drew (fun hS => ?_)
    refine held_pure (i := 0) (oi := ⟨some 34, _, _, _, _, _⟩) rfl (by kernel_rfl) (by kernel_rfl) (by kernel_rfl) (fun _ _ _ h => h) (by rfl) (v := ?_) (fun w hSw => ?_) hS (fun hS => ?_)
    rotate_left
    · go_simp; try with_reducible rfl
    try go_frame
    refine held_pure (i := 1) (oi := ⟨some 35, _, _, _, _, _⟩) rfl (by kernel_rfl) (by kernel_rfl) (by kernel_rfl) (fun _ _ _ h => h) (by rfl) (v := ?_) (fun w hSw => ?_) hS (fun hS => ?_)
    rotate_left
    · go_simp; try with_reducible rfl
    try go_frame
    refine held_pure (i := 2) (oi := ⟨some 36, _, _, _, _, _⟩) rfl (by kernel_rfl) (by kernel_rfl) (by kernel_rfl) (fun _ _ _ h => h) (by rfl) (v := ?_) (fun w hSw => ?_) hS (fun hS => ?_)
    rotate_left
    · go_simp; try with_reducible rfl
    try go_frame
    refine held_pure (i := 3) (oi := ⟨some 37, _, _, _, _, _⟩) rfl (by kernel_rfl) (by kernel_rfl) (by kernel_rfl) (fun _ _ _ h => h) (by rfl) (v := ?_) (fun w hSw => ?_) hS (fun hS => ?_)
    rotate_left
    · go_simp; try with_reducible rfl
    try go_frame
    refine held_pure (i := 4) (oi := ⟨some 38, _, _, _, _, _⟩) rfl (by kernel_rfl) (by kernel_rfl) (by kernel_rfl) (fun _ _ _ h => h) (by rfl) (v := ?_) (fun w hSw => ?_) hS (fun hS => ?_)
    rotate_left
    · go_simp; try with_reducible rfl
    try go_frame
    refine held_pure (i := 5) (oi := ⟨some 39, _, _, _, _, _⟩) rfl (by kernel_rfl) (by kernel_rfl) (by kernel_rfl) (fun _ _ _ h => h) (by rfl) (v := ?_) (fun w hSw => ?_) hS (fun hS => ?_)
    rotate_left
    · go_simp; try with_reducible rfl
    try go_frame
    refine wpAnyH_ready (rs := [6]) (by kernel_rfl) (by simp) (AllReadyH.cons (o := ⟨some 40, _, _, _, _, _⟩) rfl (fun K hK => ?_) AllReadyH.nil)
    rw [if_pos (by rfl)]
    go_simp
    refine (equal_same P1 P2 (resI (psJ b0 b1 58 (8 + (x2.dat.length : Int))) x2) _ _ _ _ _ (f1.below (hS.mono (by omega))) (f2.below (hS.mono (by omega)))).mono ?_
    rintro e u6 ⟨rfl, rfl⟩
    show K _ _
    refine hK.out _ _ hS (fun hS => ?_)
    clear hK K
    try go_frame
    refine held_pure (i := 7) (oi := ⟨some 41, _, _, _, _, _⟩) rfl (by kernel_rfl) (by kernel_rfl) (by kernel_rfl) (fun _ _ _ h => h) (by rfl) (v := ?_) (fun w hSw => ?_) hS (fun hS => ?_)
    rotate_left
    · go_simp; try with_reducible rfl
    try go_frame
    refine held_pure (i := 8) (oi := ⟨some 42, _, _, _, _, _⟩) rfl (by kernel_rfl) (by kernel_rfl) (by kernel_rfl) (fun _ _ _ h => h) (by rfl) (v := ?_) (fun w hSw => ?_) hS (fun hS => ?_)
    rotate_left
    · go_simp; try with_reducible rfl
    try go_frame
    refine held_pure (i := 9) (oi := ⟨some 43, _, _, _, _, _⟩) rfl (by kernel_rfl) (by kernel_rfl) (by kernel_rfl) (fun _ _ _ h => h) (by rfl) (fun w hSw => run_load_six rfl rfl (range_below at0 hx0 hSw) h0) hS (fun hS => ?_)
    try go_frame
    refine held_pure (i := 10) (oi := ⟨some 44, _, _, _, _, _⟩) rfl (by kernel_rfl) (by kernel_rfl) (by kernel_rfl) (fun _ _ _ h => h) (by rfl) (fun w hSw => run_load_six rfl rfl (range_below at1 hx1 hSw) h1) hS (fun hS => ?_)
    try go_frame
    refine held_pure (i := 11) (oi := ⟨some 45, _, _, _, _, _⟩) rfl (by kernel_rfl) (by kernel_rfl) (by kernel_rfl) (fun _ _ _ h => h) (by rfl) (v := ?_) (fun w hSw => ?_) hS (fun hS => ?_)
    rotate_left
    · go_simp; try with_reducible rfl
    try go_frame
    refine held_pure (i := 12) (oi := ⟨some 46, _, _, _, _, _⟩) rfl (by kernel_rfl) (by kernel_rfl) (by kernel_rfl) (fun _ _ _ h => h) (by rfl) (v := ?_) (fun w hSw => ?_) hS (fun hS => ?_)
    rotate_left
    · go_simp; try with_reducible rfl
    try go_frame
    refine held_pure (i := 14) (oi := ⟨some 48, _, _, _, _, _⟩) rfl (by kernel_rfl) (by kernel_rfl) (by kernel_rfl) (fun _ _ _ h => h) (by rfl) (fun w hSw => run_load_six rfl rfl (range_below at0 hx0 hSw) h0) hS (fun hS => ?_)
    try go_frame
    refine held_pure (i := 15) (oi := ⟨some 49, _, _, _, _, _⟩) rfl (by kernel_rfl) (by kernel_rfl) (by kernel_rfl) (fun _ _ _ h => h) (by rfl) (fun w hSw => run_load_six rfl rfl (range_below at1 hx1 hSw) h1) hS (fun hS => ?_)
    try go_frame
    refine held_pure (i := 16) (oi := ⟨some 50, _, _, _, _, _⟩) rfl (by kernel_rfl) (by kernel_rfl) (by kernel_rfl) (fun _ _ _ h => h) (by rfl) (v := ?_) (fun w hSw => ?_) hS (fun hS => ?_)
    rotate_left
    · go_simp; try with_reducible rfl
    try go_frame
    refine held_pure (i := 17) (oi := ⟨some 51, _, _, _, _, _⟩) rfl (by kernel_rfl) (by kernel_rfl) (by kernel_rfl) (fun _ _ _ h => h) (by rfl) (v := ?_) (fun w hSw => ?_) hS (fun hS => ?_)
    rotate_left
    · go_simp; try with_reducible rfl
    try go_frame
    refine wpAnyH_ready (rs := [13]) (by kernel_rfl) (by simp) (AllReadyH.cons (o := ⟨some 47, _, _, _, _, _⟩) rfl (fun K hK => ?_) AllReadyH.nil)
    rw [if_pos (by rfl)]
    go_simp
    refine (cJpsd b0 b1 _ a3 a4 h0 h1).mono ?_
    rintro e u13 ⟨v13, rfl, m13⟩
    obtain ⟨Q13, r13, rfl, e13, o13, z13⟩ := made_shape m13
    show K _ _
    refine hK.out _ _ (below_step hS z13) (fun hS => ?_)
    clear hK K
    try go_frame
    refine wpAnyH_ready (rs := [18]) (by kernel_rfl) (by simp) (AllReadyH.cons (o := ⟨some 52, _, _, _, _, _⟩) rfl (fun K hK => ?_) AllReadyH.nil)
    rw [if_pos (by rfl)]
    go_simp
    refine (rJpsd b0 b1 _ a3 a4 h0 h1).mono ?_
    rintro e u18 ⟨v18, rfl, m18⟩
    obtain ⟨Q18, r18, rfl, e18, o18, z18⟩ := made_shape m18
    show K _ _
    refine hK.out _ _ (below_step hS z18) (fun hS => ?_)
    clear hK K
    try go_frame
    refine wpAnyH_ready (rs := [19]) (by kernel_rfl) (by simp) (AllReadyH.cons (o := ⟨some 53, _, _, _, _, _⟩) rfl (fun K hK => ?_) AllReadyH.nil)
    rw [if_pos (by rfl)]
    go_simp
    refine (equal_same Q13 Q18 (psJ b0 b1 a3 a4) _ _ _ _ _ ((e13.below z18).rd) e18.rd).mono ?_
    rintro e u19 ⟨rfl, rfl⟩
    show K _ _
    refine hK.out _ _ hS (fun hS => ?_)
    clear hK K
    try go_frame
    refine held_pure (i := 20) (oi := ⟨some 54, _, _, _, _, _⟩) rfl (by kernel_rfl) (by kernel_rfl) (by kernel_rfl) (fun _ _ _ h => h) (by rfl) (v := ?_) (fun w hSw => ?_) hS (fun hS => ?_)
    rotate_left
    · go_simp; try with_reducible rfl
    try go_frame
    refine held_pure (i := 21) (oi := ⟨some 55, _, _, _, _, _⟩) rfl (by kernel_rfl) (by kernel_rfl) (by kernel_rfl) (fun _ _ _ h => h) (by rfl) (v := ?_) (fun w hSw => ?_) hS (fun hS => ?_)
    rotate_left
    · go_simp; try with_reducible rfl
    try go_frame
    refine held_pure (i := 22) (oi := ⟨some 56, _, _, _, _, _⟩) rfl (by kernel_rfl) (by kernel_rfl) (by kernel_rfl) (fun _ _ _ h => h) (by rfl) (v := ?_) (fun w hSw => ?_) hS (fun hS => ?_)
    rotate_left
    · go_simp; try with_reducible rfl
    try go_frame
    refine held_pure (i := 24) (oi := ⟨some 58, _, _, _, _, _⟩) rfl (by kernel_rfl) (by kernel_rfl) (by kernel_rfl) (fun _ _ _ h => h) (by rfl) (v := ?_) (fun w hSw => ?_) hS (fun hS => ?_)
    rotate_left
    · go_simp; try with_reducible rfl
    try go_frame
    refine wpAnyH_ready (rs := [23]) (by kernel_rfl) (by simp) (AllReadyH.cons (o := ⟨some 57, _, _, _, _, _⟩) rfl (fun K hK => ?_) AllReadyH.nil)
    rw [if_pos (by rfl)]
    go_simp
    refine (cJfault a3 _).mono ?_
    rintro e u23 ⟨rfl, rfl⟩
    rw [HF.out]
    show K _ _
    refine hK.out _ _ hS (fun hS => ?_)
    clear hK K
    try go_frame
    refine wpAnyH_ready (rs := [25]) (by kernel_rfl) (by simp) (AllReadyH.cons (o := ⟨some 59, _, _, _, _, _⟩) rfl (fun K hK => ?_) AllReadyH.nil)
    rw [if_pos (by rfl)]
    go_simp
    refine (rJfault a3 _).mono ?_
    rintro e u25 ⟨rfl, rfl⟩
    rw [HF.out]
    show K _ _
    refine hK.out _ _ hS (fun hS => ?_)
    clear hK K
    try go_frame
    refine held_pure (i := 26) (oi := ⟨some 60, _, _, _, _, _⟩) rfl (by kernel_rfl) (by kernel_rfl) (by kernel_rfl) (fun _ _ _ h => h) (by rfl) (v := ?_) (fun w hSw => ?_) hS (fun hS => ?_)
    rotate_left
    · go_simp; try with_reducible rfl
    try go_frame
    refine held_pure (i := 27) (oi := ⟨some 61, _, _, _, _, _⟩) rfl (by kernel_rfl) (by kernel_rfl) (by kernel_rfl) (fun _ _ _ h => h) (by rfl) (v := ?_) (fun w hSw => ?_) hS (fun hS => ?_)
    rotate_left
    · go_simp; try with_reducible rfl
    try go_frame
    refine held_pure (i := 28) (oi := ⟨some 62, _, _, _, _, _⟩) rfl (by kernel_rfl) (by kernel_rfl) (by kernel_rfl) (fun _ _ _ h => h) (by rfl) (v := ?_) (fun w hSw => ?_) hS (fun hS => ?_)
    rotate_left
    · go_simp; try with_reducible rfl
    try go_frame
    refine wpAnyH_ready (rs := [29]) (by kernel_rfl) (by simp) (AllReadyH.cons (o := ⟨some 63, _, _, _, _, _⟩) rfl (fun K hK => ?_) AllReadyH.nil)
    rw [if_pos (by rfl)]
    go_simp
    refine (awakeJ_any _).mono ?_
    rintro e u29 ⟨rfl, z29⟩
    show K _ _
    refine hK.out _ _ (below_step hS z29) (fun hS => ?_)
    clear hK K
    try go_frame
    refine held_pure (i := 30) (oi := ⟨some 64, _, _, _, _, _⟩) rfl (by kernel_rfl) (by kernel_rfl) (by kernel_rfl) (fun _ _ _ h => h) (by rfl) (v := ?_) (fun w hSw => ?_) hS (fun hS => ?_)
    rotate_left
    · go_simp; try with_reducible rfl
    try go_frame
    refine held_pure (i := 31) (oi := ⟨some 10, _, _, _, _, _⟩) rfl (by kernel_rfl) (by kernel_rfl) (by kernel_rfl) (fun _ _ _ h => h) (by rfl) (v := ?_) (fun w hSw => ?_) hS (fun hS => ?_)
    rotate_left
    · go_simp; try with_reducible rfl
    try go_frame
    refine wpAnyH_done (by kernel_rfl) ?_ _
    go_wp2_with fail
    go_ret
    exact ⟨rfl, qx.trans (hS.mono qx.size)⟩

/-! ### The row's step -/
set_option maxRecDepth 100000 in
theorem lifted (os : Os) (started : os.Started) (H : Type) (enc : TypeId × Value → H) :
    ReturnsInHanded {} Try.checked os 7 .any (Rows.icmp6BuildsSpec.pre6 enc Try.prog Try.f7 Rows.icmp6BuildsRow.domain false) (Rows.icmp6BuildsSpec.post enc Try.prog Try.f7 false true false false) := by
  refine returnsInHanded_of_change (C := Try.checked) own started (by kernel_rfl) Try.func7
    (ChangeSpec.witness6 (enc := enc) (C := Try.checked) false ⟨#[], #[.agg #[.int .u8 0, .int .u8 0, .int .u8 0, .int .u8 0, .int .u8 0, .int .u8 0, .int .u8 0, .int .u8 0, .int .u8 0, .int .u8 0, .int .u8 0, .int .u8 0, .int .u8 0, .int .u8 0, .int .u8 0, .int .u8 0], .agg #[.int .u8 0, .int .u8 0, .int .u8 0, .int .u8 0, .int .u8 0, .int .u8 0, .int .u8 0, .int .u8 0, .int .u8 0, .int .u8 0, .int .u8 0, .int .u8 0, .int .u8 0, .int .u8 0, .int .u8 0, .int .u8 0], .agg #[.int .i64 0, .int .i64 0, .int .i64 0, .slice none 0 0], .int .i64 0, .int .i64 0], []⟩ 8 (by kernel_rfl) (by kernel_rfl) (by kernel_rfl) (by kernel_rfl)) ?_
  intro W base args ds gs before hval0 hW hcnd _
  have hval : ∀ (j : Nat) t v, Try.f7.params[j]? = some t → args[j]? = some v → Value.okWide Try.prog W .any base t v := hval0
  have hW' := hW
  obtain ⟨p, q, hA0, hV, rfl, hfz, hnd⟩ := hW
  have hA : DataW.TrodAll enc Try.prog W 0 (fun _ => true) true Try.f7.params.toList args.toList ds p := hA0
  rw [Try.params7] at hA hval
  obtain ⟨v0, vs0, d0, ds0, p0, q0, hargs, rfl, rfl, t0, r0⟩ := trodAll_cons hA
  obtain ⟨v1, vs1, d1, ds1, p1, q1, rfl, rfl, rfl, t1, r1⟩ := trodAll_cons r0
  obtain ⟨v2, vs2, d2, ds2, p2, q2, rfl, rfl, rfl, t2, r2⟩ := trodAll_cons r1
  obtain ⟨v3, vs3, d3, ds3, p3, q3, rfl, rfl, rfl, t3, r3⟩ := trodAll_cons r2
  obtain ⟨v4, vs4, d4, ds4, p4, q4, rfl, rfl, rfl, t4, r4⟩ := trodAll_cons r3
  obtain ⟨rfl, rfl, rfl⟩ := trodAll_nil r4
  obtain rfl : args = #[v0, v1, v2, v3, v4] := by cases args; simp_all
  obtain ⟨rfl, rfl⟩ := trodVars_none hV
  have k0 := t0
  have lt0 := Trod_lt t0
  have k1 := t1
  have lt1 := Trod_lt t1
  have k2 := t2
  have lt2 := Trod_lt t2
  have k3 := t3
  have lt3 := Trod_lt t3
  have k4 := t4
  have lt4 := Trod_lt t4
  obtain ⟨b0, rfl, h0⟩ := get_six Try.underlying41 Try.underlying5 (by kernel_rfl) (by kernel_rfl) (hval 0 41 v0 rfl rfl) t0
  obtain ⟨b1, rfl, h1⟩ := get_six Try.underlying41 Try.underlying5 (by kernel_rfl) (by kernel_rfl) (hval 1 41 v1 rfl rfl) t1
  obtain ⟨x2, A2, c2, rfl, h2, m2, w2⟩ := get_is (hval 2 24 v2 rfl rfl) t2
  obtain ⟨a3, rfl, w3⟩ := get_int Try.underlying3 (hval 3 3 v3 rfl rfl) t3
  obtain ⟨a4, rfl, w4⟩ := get_int Try.underlying3 (hval 4 3 v4 rfl rfl) t4
  clear hA0 hval0
  refine (walk b0 b1 x2 A2 c2 a3 a4 W h0 h1 h2 m2 w2 w3 w4).mono fun e W' ⟨he, bel⟩ => ?_
  subst he
  exact ⟨_, rfl, _, _, _, [], _, [], hW', trodAll_mk1 (shut_bool Try.underlying4 _), (trodAll_cons_mk (Below.trod laidOut (by kernel_rfl) (of_decide_eq_true (by kernel_rfl)) k0 bel lt0) (trodAll_cons_mk (Below.trod laidOut (by kernel_rfl) (of_decide_eq_true (by kernel_rfl)) k1 bel lt1) (trodAll_cons_mk (Below.trod laidOut (by kernel_rfl) (of_decide_eq_true (by kernel_rfl)) k2 bel lt2) (trodAll_cons_mk (Below.trod laidOut (by kernel_rfl) (of_decide_eq_true (by kernel_rfl)) k3 bel lt3) (trodAll_cons_mk (Below.trod laidOut (by kernel_rfl) (of_decide_eq_true (by kernel_rfl)) k4 bel lt4) trodAll_mk0))))), rfl, bel.frame _, fun h => by cases h⟩

theorem over : Rows.icmp6BuildsRow.holds Try.pinned (OpenSpec.ofChange Rows.icmp6BuildsSpec) :=
  OpenClaim.holds_of_wide 7 Try.f7 rfl rfl rfl rfl rfl rfl rfl ⟨rfl, rfl, rfl, rfl, rfl⟩ rfl rfl rfl rfl rfl (by kernel_rfl) Try.func7 (by kernel_rfl)
    (of_decide_eq_true (by kernel_rfl)) (by unfold Func.isWrapper; first | (rw [if_pos (by decide +kernel)]; kernel_rfl) | (rw [if_neg (by decide +kernel)]; exact ⟨rfl, rfl⟩))
    (fun os started H enc _ => lifted os started H enc)

theorem proved : Rows.Icmp6BuildsSaid := over
end Go.Proofs.Ytobkiffiapjhgaa.icmp6Builds
