/-
  For all addresses and segments, goosepondlaw08.TcpBuilds answers true: any segment's bytes are what the document says, or refused.
  Conditions: none but the statement's own.
-/
import Derived.Test.YtggcjjcgiphjeaaRows
import Derived.WalkKit
import Derived.ProofKit
import Derived.OpenShut
import Derived.ChangeOld
import Derived.Below
import Derived.Test.YtggcjjcgiphjeaaMa1
import Derived.Test.YtggcjjcgiphjeaaMb6
namespace Go.Proofs.Ytggcjjcgiphjeaa.tcpBuilds
open Go.ChangeShapes Go.WideShapes Go.ChangeAt Go.RowKit
set_option linter.unusedVariables false
attribute [local go_sem] Oper.semAt_some

theorem own : ownKnob Try.prog.godebug = none := by kernel_rfl
theorem laidOut : laidOutB Try.prog = true := by kernel_rfl

/-! ### The walk -/
set_option maxRecDepth 100000 in
set_option maxHeartbeats 4000000 in
theorem walk (a0 : Int) (a1 : Int) (x2 : PT) (A2 : Option Addr) (c2 : Nat) (A2' : Option Addr) (c2' : Nat) (x3 : PT) (A3 : Option Addr) (c3 : Nat) (A3' : Option Addr) (c3' : Nat) (w : World) (w0 : (Lit.int .i64 a0).wf = true) (w1 : (Lit.int .i64 a1).wf = true) (h2 : Arg w w.heap.size A2 c2 x2.opt) (h2' : Arg w w.heap.size A2' c2' x2.dat) (m2 : c2 ≤ maxLen) (m2' : c2' ≤ maxLen) (w2 : x2.fits) (h3 : Arg w w.heap.size A3 c3 x3.opt) (h3' : Arg w w.heap.size A3' c3' x3.dat) (m3 : c3 ≤ maxLen) (m3' : c3' ≤ maxLen) (w3 : x3.fits) :
    Calls Try.prog 6 #[.int .i64 a0, .int .i64 a1, tsv x2 A2 c2 A2' c2', tsv x3 A3 c3 A3' c3'] w fun e w' => e = .returned (.bool true) ∧ Below w.heap.size w w' := by
  have hB0 : Below w.heap.size w ((w.alloc (.cells (tsa x2 A2 c2 A2' c2') 39)).alloc (.cells (tsa x3 A3 c3 A3' c3') 39)) := below_two w _ _
  have at0 : Atts ((w.alloc (.cells (tsa x2 A2 c2 A2' c2') 39)).alloc (.cells (tsa x3 A3 c3 A3' c3') 39)) w.heap.size x2 A2 c2 A2' c2' := (Atts.new w).below ((Below.refl (w.heap.size + 1) _).alloc (by simp) _) (by omega)
  have at1 : Atts ((w.alloc (.cells (tsa x2 A2 c2 A2' c2') 39)).alloc (.cells (tsa x3 A3 c3 A3' c3') 39)) (w.heap.size + 1) x3 A3 c3 A3' c3' := by
    have := Atts.new (q := x3) (A := A3) (c := c3) (A' := A3') (c' := c3') (w.alloc (.cells (tsa x2 A2 c2 A2' c2') 39))
    rwa [show (w.alloc (.cells (tsa x2 A2 c2 A2' c2') 39)).heap.size = w.heap.size + 1 from by simp] at this
  have hzF : w.heap.size + 1 < ((w.alloc (.cells (tsa x2 A2 c2 A2' c2') 39)).alloc (.cells (tsa x3 A3 c3 A3' c3') 39)).heap.size := by simp
  rw [tsv_eq, tsv_eq]
  go_enter Try.func6, Try.ntmps6
  go_upto_region 1 with fail
  generalize (w.alloc (.cells (tsa x2 A2 c2 A2' c2') 39)).alloc (.cells (tsa x3 A3 c3 A3' c3') 39) = W at *
  have k0dat := at0.dat
  have k1dat := at1.dat
  have k0opt := at0.opt
  have k1opt := at1.opt
  by_cases h2dat : 3000 < x2.dat.length
  · have d2dat : decide (3000 < (x2.dat.length : Int)) = true := by simp; omega
    go_wp2_with (first | (go_at_call 22; refine (awakeT_any _).mono ?_; rintro e w10 ⟨rfl, b10⟩))
    go_ret
    exact ⟨rfl, hB0.trans (b10.mono hB0.size)⟩
  · have d2dat : decide (3000 < (x2.dat.length : Int)) = false := by simp; omega
    have l2dat : x2.dat.length ≤ 3000 := by omega
    clear h2dat
    by_cases h3dat : 3000 < x3.dat.length
    · have d3dat : decide (3000 < (x3.dat.length : Int)) = true := by simp; omega
      go_wp2_with (first | (go_at_call 22; refine (awakeT_any _).mono ?_; rintro e w10 ⟨rfl, b10⟩))
      go_ret
      exact ⟨rfl, hB0.trans (b10.mono hB0.size)⟩
    · have d3dat : decide (3000 < (x3.dat.length : Int)) = false := by simp; omega
      have l3dat : x3.dat.length ≤ 3000 := by omega
      clear h3dat
      by_cases h2opt : 200 < x2.opt.length
      · have d2opt : decide (200 < (x2.opt.length : Int)) = true := by simp; omega
        go_wp2_with (first | (go_at_call 22; refine (awakeT_any _).mono ?_; rintro e w10 ⟨rfl, b10⟩))
        go_ret
        exact ⟨rfl, hB0.trans (b10.mono hB0.size)⟩
      · have d2opt : decide (200 < (x2.opt.length : Int)) = false := by simp; omega
        have l2opt : x2.opt.length ≤ 200 := by omega
        clear h2opt
        by_cases h3opt : 200 < x3.opt.length
        · have d3opt : decide (200 < (x3.opt.length : Int)) = true := by simp; omega
          go_wp2_with (first | (go_at_call 22; refine (awakeT_any _).mono ?_; rintro e w10 ⟨rfl, b10⟩))
          go_ret
          exact ⟨rfl, hB0.trans (b10.mono hB0.size)⟩
        · have d3opt : decide (200 < (x3.opt.length : Int)) = false := by simp; omega
          have l3opt : x3.opt.length ≤ 200 := by omega
          clear h3opt
          go_upto_region 4 with (first
            | ((with_reducible show wpList _ _ _ (Oper.mk _ (Op.load 39 _) _ _ _ _ :: _) _ _); refine wpList_valw (by rfl) (run_load_ts rfl rfl at0 rfl) ?_)
            | (go_at_call 23; refine (cTbuild x2 A2 c2 A2' c2' a0 a1 _ w.heap.size (h2.below hB0) (h2'.below hB0) hB0.size (by omega) (by omega)).mono ?_; rintro e w3 ⟨v1, rfl, n1⟩; obtain ⟨P1, q1, rfl, g1, y3⟩ := resT_shape n1))
          have hAt1 := at0.below y3 (by omega)
          have q1' := hB0.trans (y3.mono hB0.size)
          go_upto_region 5 with (first
            | ((with_reducible show wpList _ _ _ (Oper.mk _ (Op.load 39 _) _ _ _ _ :: _) _ _); refine wpList_valw (by rfl) (run_load_ts rfl rfl hAt1 rfl) ?_)
            | (go_at_call 24; refine (rTbuild x2 A2 c2 A2' c2' a0 a1 _ w.heap.size (h2.below q1') (h2'.below q1') q1'.size (by omega) (by omega)).mono ?_; rintro e X ⟨v2, rfl, n2⟩; obtain ⟨P2, q2, rfl, f2, y4⟩ := resT_shape n2))
          have qx : Below w.heap.size w X := q1'.trans (y4.mono q1'.size)
          have x12 := y3.trans (y4.mono y3.size)
          have at0 := at0.below x12 (by omega)
          have at1 := at1.below x12 (by omega)
          have f1 := g1.below y4
          have zX := x12.size
          have zy := y4.size
          have hx1 : w.heap.size + 1 < X.heap.size := by omega
          clear n1 n2 g1 hAt1 y3 y4 q1' x12
          refine wp_region_held_drew (S := fun w' => Below X.heap.size X w') (by kernel_rfl) (Below.refl _ X).drew (fun hS => ?_)
          refine held_pure (i := 0) (oi := ⟨some 50, _, _, _, _, _⟩) rfl (by kernel_rfl) (by kernel_rfl) (by kernel_rfl) (fun _ _ _ h => h) (by rfl) (v := ?_) (fun w hSw => ?_) hS (fun hS => ?_)
          rotate_left
          · go_simp; try with_reducible rfl
          try go_frame
          refine held_pure (i := 1) (oi := ⟨some 51, _, _, _, _, _⟩) rfl (by kernel_rfl) (by kernel_rfl) (by kernel_rfl) (fun _ _ _ h => h) (by rfl) (v := ?_) (fun w hSw => ?_) hS (fun hS => ?_)
          rotate_left
          · go_simp; try with_reducible rfl
          try go_frame
          refine held_pure (i := 2) (oi := ⟨some 52, _, _, _, _, _⟩) rfl (by kernel_rfl) (by kernel_rfl) (by kernel_rfl) (fun _ _ _ h => h) (by rfl) (v := ?_) (fun w hSw => ?_) hS (fun hS => ?_)
          rotate_left
          · go_simp; try with_reducible rfl
          try go_frame
          refine held_pure (i := 3) (oi := ⟨some 53, _, _, _, _, _⟩) rfl (by kernel_rfl) (by kernel_rfl) (by kernel_rfl) (fun _ _ _ h => h) (by rfl) (v := ?_) (fun w hSw => ?_) hS (fun hS => ?_)
          rotate_left
          · go_simp; try with_reducible rfl
          try go_frame
          refine held_pure (i := 4) (oi := ⟨some 54, _, _, _, _, _⟩) rfl (by kernel_rfl) (by kernel_rfl) (by kernel_rfl) (fun _ _ _ h => h) (by rfl) (v := ?_) (fun w hSw => ?_) hS (fun hS => ?_)
          rotate_left
          · go_simp; try with_reducible rfl
          try go_frame
          refine held_pure (i := 5) (oi := ⟨some 55, _, _, _, _, _⟩) rfl (by kernel_rfl) (by kernel_rfl) (by kernel_rfl) (fun _ _ _ h => h) (by rfl) (v := ?_) (fun w hSw => ?_) hS (fun hS => ?_)
          rotate_left
          · go_simp; try with_reducible rfl
          try go_frame
          refine wpAnyH_ready (rs := [6]) (by kernel_rfl) (by simp) (AllReadyH.cons (o := ⟨some 56, _, _, _, _, _⟩) rfl (fun K hK => ?_) AllReadyH.nil)
          rw [if_pos (by rfl)]
          go_simp
          refine (equal_same P1 P2 (resT a0 a1 x2) _ _ _ _ _ (f1.below (hS.mono (by omega))) (f2.below (hS.mono (by omega)))).mono ?_
          rintro e u6 ⟨rfl, rfl⟩
          show K _ _
          refine hK.out _ _ hS (fun hS => ?_)
          clear hK K
          try go_frame
          refine held_pure (i := 7) (oi := ⟨some 57, _, _, _, _, _⟩) rfl (by kernel_rfl) (by kernel_rfl) (by kernel_rfl) (fun _ _ _ h => h) (by rfl) (v := ?_) (fun w hSw => ?_) hS (fun hS => ?_)
          rotate_left
          · go_simp; try with_reducible rfl
          try go_frame
          refine held_pure (i := 8) (oi := ⟨some 58, _, _, _, _, _⟩) rfl (by kernel_rfl) (by kernel_rfl) (by kernel_rfl) (fun _ _ _ h => h) (by rfl) (v := ?_) (fun w hSw => ?_) hS (fun hS => ?_)
          rotate_left
          · go_simp; try with_reducible rfl
          try go_frame
          refine held_pure (i := 9) (oi := ⟨some 59, _, _, _, _, _⟩) rfl (by kernel_rfl) (by kernel_rfl) (by kernel_rfl) (fun _ _ _ h => h) (by rfl) (fun w hSw => run_load_ts rfl rfl (at0.below hSw (by omega)) rfl) hS (fun hS => ?_)
          try go_frame
          refine held_pure (i := 11) (oi := ⟨some 61, _, _, _, _, _⟩) rfl (by kernel_rfl) (by kernel_rfl) (by kernel_rfl) (fun _ _ _ h => h) (by rfl) (fun w hSw => run_load_ts rfl rfl (at0.below hSw (by omega)) rfl) hS (fun hS => ?_)
          try go_frame
          refine wpAnyH_ready (rs := [10]) (by kernel_rfl) (by simp) (AllReadyH.cons (o := ⟨some 60, _, _, _, _, _⟩) rfl (fun K hK => ?_) AllReadyH.nil)
          rw [if_pos (by rfl)]
          go_simp
          refine (cTcheck x2 A2 c2 A2' c2' _ (by omega) (by omega)).mono ?_
          rintro e w10 ⟨rfl, x10⟩
          show K _ _
          refine hK.out _ _ (below_step hS x10) (fun hS => ?_)
          clear hK K
          try go_frame
          refine wpAnyH_ready (rs := [12]) (by kernel_rfl) (by simp) (AllReadyH.cons (o := ⟨some 62, _, _, _, _, _⟩) rfl (fun K hK => ?_) AllReadyH.nil)
          rw [if_pos (by rfl)]
          go_simp
          refine (rTcheck x2 A2 c2 A2' c2' _ (by omega) (by omega)).mono ?_
          rintro e w12 ⟨rfl, x12⟩
          show K _ _
          refine hK.out _ _ (below_step hS x12) (fun hS => ?_)
          clear hK K
          try go_frame
          refine held_pure (i := 13) (oi := ⟨some 63, _, _, _, _, _⟩) rfl (by kernel_rfl) (by kernel_rfl) (by kernel_rfl) (fun _ _ _ h => h) (by rfl) (v := ?_) (fun w hSw => ?_) hS (fun hS => ?_)
          rotate_left
          · go_simp; try with_reducible rfl
          try go_frame
          refine held_pure (i := 14) (oi := ⟨some 64, _, _, _, _, _⟩) rfl (by kernel_rfl) (by kernel_rfl) (by kernel_rfl) (fun _ _ _ h => h) (by rfl) (v := ?_) (fun w hSw => ?_) hS (fun hS => ?_)
          rotate_left
          · go_simp; try with_reducible rfl
          try go_frame
          refine held_pure (i := 15) (oi := ⟨some 65, _, _, _, _, _⟩) rfl (by kernel_rfl) (by kernel_rfl) (by kernel_rfl) (fun _ _ _ h => h) (by rfl) (v := ?_) (fun w hSw => ?_) hS (fun hS => ?_)
          rotate_left
          · go_simp; try with_reducible rfl
          try go_frame
          refine held_pure (i := 16) (oi := ⟨some 66, _, _, _, _, _⟩) rfl (by kernel_rfl) (by kernel_rfl) (by kernel_rfl) (fun _ _ _ h => h) (by rfl) (fun w hSw => run_load_ts rfl rfl (at0.below hSw (by omega)) rfl) hS (fun hS => ?_)
          try go_frame
          refine held_pure (i := 17) (oi := ⟨some 67, _, _, _, _, _⟩) rfl (by kernel_rfl) (by kernel_rfl) (by kernel_rfl) (fun _ _ _ h => h) (by rfl) (fun w hSw => run_load_ts rfl rfl (at1.below hSw (by omega)) rfl) hS (fun hS => ?_)
          try go_frame
          refine held_pure (i := 19) (oi := ⟨some 69, _, _, _, _, _⟩) rfl (by kernel_rfl) (by kernel_rfl) (by kernel_rfl) (fun _ _ _ h => h) (by rfl) (fun w hSw => run_load_ts rfl rfl (at0.below hSw (by omega)) rfl) hS (fun hS => ?_)
          try go_frame
          refine held_pure (i := 20) (oi := ⟨some 70, _, _, _, _, _⟩) rfl (by kernel_rfl) (by kernel_rfl) (by kernel_rfl) (fun _ _ _ h => h) (by rfl) (fun w hSw => run_load_ts rfl rfl (at1.below hSw (by omega)) rfl) hS (fun hS => ?_)
          try go_frame
          refine wpAnyH_ready (rs := [18]) (by kernel_rfl) (by simp) (AllReadyH.cons (o := ⟨some 68, _, _, _, _, _⟩) rfl (fun K hK => ?_) AllReadyH.nil)
          rw [if_pos (by rfl)]
          go_simp
          refine (cTsame x2 x3 A2 c2 A2' c2' A3 c3 A3' c3' w.heap.size _ (qx.trans (hS.mono qx.size)).size (h2.below (qx.trans (hS.mono qx.size))).rd (h3.below (qx.trans (hS.mono qx.size))).rd (h2'.below (qx.trans (hS.mono qx.size))).rd (h3'.below (qx.trans (hS.mono qx.size))).rd).mono ?_
          rintro e w18 ⟨rfl, x18⟩
          show K _ _
          refine hK.out _ _ (below_step hS x18) (fun hS => ?_)
          clear hK K
          try go_frame
          refine wpAnyH_ready (rs := [21]) (by kernel_rfl) (by simp) (AllReadyH.cons (o := ⟨some 71, _, _, _, _, _⟩) rfl (fun K hK => ?_) AllReadyH.nil)
          rw [if_pos (by rfl)]
          go_simp
          refine (rTsame x2 x3 A2 c2 A2' c2' A3 c3 A3' c3' w.heap.size _ (qx.trans (hS.mono qx.size)).size (h2.below (qx.trans (hS.mono qx.size))).rd (h3.below (qx.trans (hS.mono qx.size))).rd (h2'.below (qx.trans (hS.mono qx.size))).rd (h3'.below (qx.trans (hS.mono qx.size))).rd).mono ?_
          rintro e w21 ⟨rfl, x21⟩
          show K _ _
          refine hK.out _ _ (below_step hS x21) (fun hS => ?_)
          clear hK K
          try go_frame
          refine held_pure (i := 22) (oi := ⟨some 72, _, _, _, _, _⟩) rfl (by kernel_rfl) (by kernel_rfl) (by kernel_rfl) (fun _ _ _ h => h) (by rfl) (v := ?_) (fun w hSw => ?_) hS (fun hS => ?_)
          rotate_left
          · go_simp; try with_reducible rfl
          try go_frame
          refine held_pure (i := 23) (oi := ⟨some 73, _, _, _, _, _⟩) rfl (by kernel_rfl) (by kernel_rfl) (by kernel_rfl) (fun _ _ _ h => h) (by rfl) (v := ?_) (fun w hSw => ?_) hS (fun hS => ?_)
          rotate_left
          · go_simp; try with_reducible rfl
          try go_frame
          refine held_pure (i := 24) (oi := ⟨some 74, _, _, _, _, _⟩) rfl (by kernel_rfl) (by kernel_rfl) (by kernel_rfl) (fun _ _ _ h => h) (by rfl) (v := ?_) (fun w hSw => ?_) hS (fun hS => ?_)
          rotate_left
          · go_simp; try with_reducible rfl
          try go_frame
          refine wpAnyH_ready (rs := [25]) (by kernel_rfl) (by simp) (AllReadyH.cons (o := ⟨some 75, _, _, _, _, _⟩) rfl (fun K hK => ?_) AllReadyH.nil)
          rw [if_pos (by rfl)]
          go_simp
          refine (awakeT_any _).mono ?_
          rintro e w25 ⟨rfl, x25⟩
          show K _ _
          refine hK.out _ _ (below_step hS x25) (fun hS => ?_)
          clear hK K
          try go_frame
          refine held_pure (i := 26) (oi := ⟨some 76, _, _, _, _, _⟩) rfl (by kernel_rfl) (by kernel_rfl) (by kernel_rfl) (fun _ _ _ h => h) (by rfl) (v := ?_) (fun w hSw => ?_) hS (fun hS => ?_)
          rotate_left
          · go_simp; try with_reducible rfl
          try go_frame
          refine held_pure (i := 27) (oi := ⟨some 8, _, _, _, _, _⟩) rfl (by kernel_rfl) (by kernel_rfl) (by kernel_rfl) (fun _ _ _ h => h) (by rfl) (v := ?_) (fun w hSw => ?_) hS (fun hS => ?_)
          rotate_left
          · go_simp; try with_reducible rfl
          try go_frame
          refine wpAnyH_done (by kernel_rfl) ?_ _
          go_wp2_with fail
          go_ret
          exact ⟨rfl, qx.trans (hS.mono qx.size)⟩

/-! ### The row's step -/
set_option maxRecDepth 100000 in
theorem lifted (os : Os) (started : os.Started) (H : Type) (enc : TypeId × Value → H) :
    ReturnsInHanded {} Try.checked os 6 .any (Rows.tcpBuildsSpec.pre6 enc Try.prog Try.f6 Rows.tcpBuildsRow.domain false) (Rows.tcpBuildsSpec.post enc Try.prog Try.f6 false true false false) := by
  refine returnsInHanded_of_change (C := Try.checked) own started (by kernel_rfl) Try.func6
    (ChangeSpec.witness6 (enc := enc) (C := Try.checked) false ⟨#[], #[.int .i64 0, .int .i64 0, .agg #[.int .i64 0, .int .i64 0, .int .i64 0, .int .i64 0, .int .i64 0, .int .i64 0, .int .i64 0, .int .i64 0, .slice none 0 0, .slice none 0 0], .agg #[.int .i64 0, .int .i64 0, .int .i64 0, .int .i64 0, .int .i64 0, .int .i64 0, .int .i64 0, .int .i64 0, .slice none 0 0, .slice none 0 0]], []⟩ 8 (by kernel_rfl) (by kernel_rfl) (by kernel_rfl) (by kernel_rfl)) ?_
  intro W base args ds gs before hval0 hW hcnd _
  have hval : ∀ (j : Nat) t v, Try.f6.params[j]? = some t → args[j]? = some v → Value.okWide Try.prog W .any base t v := hval0
  have hW' := hW
  obtain ⟨p, q, hA0, hV, rfl, hfz, hnd⟩ := hW
  have hA : DataW.TrodAll enc Try.prog W 0 (fun _ => true) true Try.f6.params.toList args.toList ds p := hA0
  rw [Try.params6] at hA hval
  obtain ⟨v0, vs0, d0, ds0, p0, q0, hargs, rfl, rfl, t0, r0⟩ := trodAll_cons hA
  obtain ⟨v1, vs1, d1, ds1, p1, q1, rfl, rfl, rfl, t1, r1⟩ := trodAll_cons r0
  obtain ⟨v2, vs2, d2, ds2, p2, q2, rfl, rfl, rfl, t2, r2⟩ := trodAll_cons r1
  obtain ⟨v3, vs3, d3, ds3, p3, q3, rfl, rfl, rfl, t3, r3⟩ := trodAll_cons r2
  obtain ⟨rfl, rfl, rfl⟩ := trodAll_nil r3
  obtain rfl : args = #[v0, v1, v2, v3] := by cases args; simp_all
  obtain ⟨rfl, rfl⟩ := trodVars_none hV
  have k0 := t0
  have lt0 := Trod_lt t0
  have k1 := t1
  have lt1 := Trod_lt t1
  have k2 := t2
  have lt2 := Trod_lt t2
  have k3 := t3
  have lt3 := Trod_lt t3
  obtain ⟨a0, rfl, w0⟩ := get_int Try.underlying3 (hval 0 3 v0 rfl rfl) t0
  obtain ⟨a1, rfl, w1⟩ := get_int Try.underlying3 (hval 1 3 v1 rfl rfl) t1
  obtain ⟨x2, A2, c2, A2', c2', rfl, h2, h2', m2, m2', w2⟩ := get_ts (hval 2 39 v2 rfl rfl) t2
  obtain ⟨x3, A3, c3, A3', c3', rfl, h3, h3', m3, m3', w3⟩ := get_ts (hval 3 39 v3 rfl rfl) t3
  clear hA0 hval0
  refine (walk a0 a1 x2 A2 c2 A2' c2' x3 A3 c3 A3' c3' W w0 w1 h2 h2' m2 m2' w2 h3 h3' m3 m3' w3).mono fun e W' ⟨he, bel⟩ => ?_
  subst he
  exact ⟨_, rfl, _, _, _, [], _, [], hW', trodAll_mk1 (shut_bool Try.underlying4 _), (trodAll_cons_mk (Below.trod laidOut (by kernel_rfl) (of_decide_eq_true (by kernel_rfl)) k0 bel lt0) (trodAll_cons_mk (Below.trod laidOut (by kernel_rfl) (of_decide_eq_true (by kernel_rfl)) k1 bel lt1) (trodAll_cons_mk (Below.trod laidOut (by kernel_rfl) (of_decide_eq_true (by kernel_rfl)) k2 bel lt2) (trodAll_cons_mk (Below.trod laidOut (by kernel_rfl) (of_decide_eq_true (by kernel_rfl)) k3 bel lt3) trodAll_mk0)))), rfl, bel.frame _, fun h => by cases h⟩

theorem over : Rows.tcpBuildsRow.holds Try.pinned (OpenSpec.ofChange Rows.tcpBuildsSpec) :=
  OpenClaim.holds_of_wide 6 Try.f6 rfl rfl rfl rfl rfl rfl rfl ⟨rfl, rfl, rfl, rfl, rfl⟩ rfl rfl rfl rfl rfl (by kernel_rfl) Try.func6 (by kernel_rfl)
    (of_decide_eq_true (by kernel_rfl)) (by unfold Func.isWrapper; first | (rw [if_pos (by decide +kernel)]; kernel_rfl) | (rw [if_neg (by decide +kernel)]; exact ⟨rfl, rfl⟩))
    (fun os started H enc _ => lifted os started H enc)

theorem proved : Rows.TcpBuildsSaid := over
end Go.Proofs.Ytggcjjcgiphjeaa.tcpBuilds
