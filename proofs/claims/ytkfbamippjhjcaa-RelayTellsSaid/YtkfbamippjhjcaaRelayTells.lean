/-
  For all addresses, messages and numbers goosepondlaw30.RelayTells answers true: what any message tells of what was sent, and to whom, is what the document says, or nothing. Conditions: none but the statement's own.
-/
import Derived.Test.YtkfbamippjhjcaaRows
import Derived.WalkKit
import Derived.ProofKit
import Derived.OpenShut
import Derived.ChangeOld
import Derived.Below
import Derived.Test.YtkfbamippjhjcaaRa2
import Derived.Test.YtkfbamippjhjcaaRa15
namespace Go.Proofs.Ytkfbamippjhjcaa.relayTells
open Go.ChangeShapes Go.WideShapes Go.ChangeAt Go.RowKit
set_option linter.unusedVariables false
attribute [local go_sem] Oper.semAt_some

theorem own : ownKnob Try.prog.godebug = none := by kernel_rfl
theorem laidOut : laidOutB Try.prog = true := by kernel_rfl

/-! ### The walk -/
set_option maxRecDepth 100000 in
set_option maxHeartbeats 4000000 in
theorem walk (b0 : List UInt8) (x1 : PI) (A1 : Option Addr) (c1 : Nat) (a2 : Int) (w : World) (h0 : b0.length = 16) (h1 : Arg w w.heap.size A1 c1 x1.dat) (m1 : c1 ≤ maxLen) (w1 : x1.fits) (w2 : (Lit.int .i64 a2).wf = true) :
    Calls Try.prog 5 #[.agg (cel b0), isv x1 A1 c1, .int .i64 a2] w fun e w' => e = .returned (.bool true) ∧ Below w.heap.size w w' := by
  have hrest : (Lit.int .i64 x1.rest).wf = true := w1 _ (by simp)
  have hfrom := w2
  by_cases hbig : 3000 < x1.dat.length
  · have d0 : decide (3000 < (x1.dat.length : Int)) = true := by simp; omega
    have kd := (Atis.of_heap (two_boxes w (.cells (cel b0) 23) (.cells (isa x1 A1 c1) 44)).2.2.1).dat
    rw [isv_eq]
    go_enter Try.func5, Try.ntmps5
    go_upto_region 1 with fail
    have hB := (two_boxes w (.cells (cel b0) 23) (.cells (isa x1 A1 c1) 44)).1
    generalize (w.alloc (.cells (cel b0) 23)).alloc (.cells (isa x1 A1 c1) 44) = W at *
    go_wp2_with (first
      | (go_at_call 21; refine (awake30 _).mono ?_; rintro e w10 ⟨rfl, b10⟩))
    go_ret
    exact ⟨rfl, hB.trans (b10.mono hB.size)⟩
  · have d0 : decide (3000 < (x1.dat.length : Int)) = false := by simp; omega
    have hl : x1.dat.length ≤ 3000 := by omega
    clear hbig
    obtain ⟨V, hV⟩ : ∃ x, x = ofV b0 x1.typ x1.rest x1.dat := ⟨_, rfl⟩
    obtain ⟨E, hE⟩ : ∃ x, x = ofE b0 x1.typ x1.dat := ⟨_, rfl⟩
    have hvp := ofV_peer b0 x1.typ x1.rest x1.dat
    have hvl := ofV_len b0 x1.typ x1.rest x1.dat
    rw [← hV] at hvp hvl
    have HV := Lib.hid hV
    have HE := Lib.hid hE
    have HVP := Lib.hid hvp
    have HVL : Hid (V.inner.length ≤ 900000) := Lib.hid (by omega)
    obtain ⟨R, hR⟩ : ∃ x, x = pkkV a2 V := ⟨_, rfl⟩
    obtain ⟨F, hF⟩ : ∃ x, x = pkkE a2 V := ⟨_, rfl⟩
    have HR := Lib.hid hR
    have HF := Lib.hid hF
    have HRO : Hid (R.opt = []) := Lib.hid (by rw [hR, pkkV, mkV]; split <;> rfl)
    have HS := Lib.hid (show same4 R R = true by simp [same4])
    have nE : (E != E) = false := by simp
    have nK : (V.kind != V.kind) = false := by simp
    have nC : (V.code != V.code) = false := by simp
    have nR : (V.rest != V.rest) = false := by simp
    have dF : (F == F) = true := beq_self_eq_true F
    have eS : ∀ w, (Op.equalIn 10000 23 (.agg (cel V.peer)) (.agg (cel V.peer))).run Try.prog w = .ok true w := fun w => by rw [six_eq _ _ HVP.out HVP.out]; simp
    clear hV hE hvp hvl hR hF
    rw [isv_eq]
    go_enter Try.func5, Try.ntmps5
    go_upto_region 1 with fail
    obtain ⟨hB, k1, k2, z2⟩ := (two_boxes w (.cells (cel b0) 23) (.cells (isa x1 A1 c1) 44))
    generalize (w.alloc (.cells (cel b0) 23)).alloc (.cells (isa x1 A1 c1) 44) = W at *
    have r1 : W.rangeAt w.heap.size 0 (row b0) := range_heap k1
    have atm := Atis.of_heap k2
    have kd := atm.dat
    have z1 : w.heap.size < W.heap.size := by omega
    have h1 := h1.below hB
    have hBs := hB.size
    clear k1 k2
    go_upto_region 4 with (first
      | ((with_reducible show wpList _ _ _ (Oper.mk (some 21) (Op.load 23 _) _ _ _ _ :: _) _ _); refine wpList_val rfl (run_load_six rfl rfl r1 h0) ?_)
      | ((with_reducible show wpList _ _ _ (Oper.mk (some 22) (Op.load 44 _) _ _ _ _ :: _) _ _); refine wpList_val rfl (run_load_is rfl rfl atm rfl) ?_)
      | (go_at_call 22; refine (cRof b0 x1 A1 c1 w.heap.size _ h0 hrest h1 hBs (by omega)).mono ?_; rintro e w3 ⟨P, p, rfl, m3⟩; rw [← HV.out] at m3; rw [← HV.out, ← HE.out])
      | ((with_reducible show wpList _ _ _ (Oper.mk _ (Op.store 46 _ _) _ _ _ _ :: _) _ _); refine tc_store_new (cs := tla V P p) rfl rfl rfl (tla_size HVP.out) (tla_one _ _ _) ?_))
    obtain ⟨_, _, e3, g3, _, x3⟩ := made_shape m3
    cases e3
    have kz3 := World.alloc_heap_new w3 (.cells (tla V P p) 46)
    have y3 : Below W.heap.size W (w3.alloc (.cells (tla V P p) 46)) := x3.trans (((Below.refl _ w3).alloc (Nat.le_refl _) _).mono x3.size)
    have u3 : Below w3.heap.size w3 (w3.alloc (.cells (tla V P p) 46)) := (Below.refl _ w3).alloc (Nat.le_refl _) _
    generalize w3.alloc (.cells (tla V P p) 46) = X at *
    have at3 : AtT X w3.heap.size V P p := range_heap kz3
    have g3 := g3.below u3
    have zu := u3.size
    have zk := heap_lt kz3
    have r1 := range_below r1 z1 y3
    have atm := Atis.below atm y3 z2
    have b3' := hB.trans (y3.mono hBs)
    have h1 := h1.below (y3.mono hBs)
    have zW := y3.size
    clear m3 x3 u3 y3 kz3 kd
    go_upto_region 5 with (first
      | ((with_reducible show wpList _ _ _ (Oper.mk (some 27) (Op.load 23 _) _ _ _ _ :: _) _ _); refine wpList_val rfl (run_load_six rfl rfl r1 h0) ?_)
      | ((with_reducible show wpList _ _ _ (Oper.mk (some 28) (Op.load 44 _) _ _ _ _ :: _) _ _); refine wpList_val rfl (run_load_is rfl rfl atm rfl) ?_)
      | (go_at_call 23; refine (rRof b0 x1 A1 c1 w.heap.size _ h0 hrest h1 b3'.size (by omega)).mono ?_; rintro e w4 ⟨P4, p4, rfl, m4⟩; rw [← HV.out] at m4; rw [← HV.out, ← HE.out])
      | ((with_reducible show wpList _ _ _ (Oper.mk _ (Op.store 49 _ _) _ _ _ _ :: _) _ _); refine tr_store_new (cs := tla V P4 p4) rfl rfl rfl (tla_size HVP.out) (tla_one _ _ _) ?_))
    obtain ⟨_, _, e4, g4, _, x4⟩ := made_shape m4
    cases e4
    have kz4 := World.alloc_heap_new w4 (.cells (tla V P4 p4) 49)
    have y4 : Below X.heap.size X (w4.alloc (.cells (tla V P4 p4) 49)) := x4.trans (((Below.refl _ w4).alloc (Nat.le_refl _) _).mono x4.size)
    have u4 : Below w4.heap.size w4 (w4.alloc (.cells (tla V P4 p4) 49)) := (Below.refl _ w4).alloc (Nat.le_refl _) _
    generalize w4.alloc (.cells (tla V P4 p4) 49) = Y at *
    have at4 : AtT Y w4.heap.size V P4 p4 := range_heap kz4
    have g4 := g4.below u4
    have zu4 := u4.size
    have zk4 := heap_lt kz4
    have at3 := at3.below y4 zk
    have g3 := (g3.more zu).below y4
    have b4' := b3'.trans (y4.mono b3'.size)
    have zX := y4.size
    clear m4 x4 u4 y4 kz4 atm r1
    have k16 := at3.kind HVP.out
    have k17 := at3.code HVP.out
    have k18 := at3.rest HVP.out
    have k19 := at3.inner HVP.out
    have j16 := at4.kind HVP.out
    have j17 := at4.code HVP.out
    have j18 := at4.rest HVP.out
    have j19 := at4.inner HVP.out
    go_upto_region 7 with (first
      | ((with_reducible show wpList _ _ _ (Oper.mk (some 37) (Op.load 23 _) _ _ _ _ :: _) _ _); refine wpList_valg (by rfl) (run_load_six rfl rfl at3.peer HVP.out) ?_)
      | ((with_reducible show wpList _ _ _ (Oper.mk (some 39) (Op.load 23 _) _ _ _ _ :: _) _ _); refine wpList_valg (by rfl) (run_load_six rfl rfl at4.peer HVP.out) ?_)
      | (go_at_call 17; refine (equal_any P P4 V.inner V.inner p p4 _ _ _ g3.rd g4.rd).mono ?_; rintro e w5 ⟨rfl, rfl⟩; rw [decide_eq_true (rfl : V.inner = V.inner)]))
    clear k16 k17 k18 k19 j16 j17 j18 j19
    go_upto_region 8 with (first
      | ((with_reducible show wpList _ _ _ (Oper.mk _ (Op.load 46 _) _ _ _ _ :: _) _ _); refine wpList_val rfl (run_load_tc rfl rfl at3 (tll_len HVP.out)) ?_)
      | (go_at_call 24; refine (cRpacket a2 V P p X.heap.size _ HVP.out g3 zX HVL.out).mono ?_; rintro e w6 ⟨P6, p6, rfl, m6⟩; rw [← HR.out] at m6; rw [← HR.out, ← HF.out])
      | ((with_reducible show wpList _ _ _ (Oper.mk _ (Op.store 28 _ _) _ _ _ _ :: _) _ _); refine v4_store_new (cs := v4a R none 0 P6 p6) rfl rfl rfl rfl (v4a_one _ _ _ _ _) ?_))
    obtain ⟨_, _, e6, g6, _, x6⟩ := made_shape m6
    cases e6
    have kz6 := World.alloc_heap_new w6 (.cells (v4a R none 0 P6 p6) 28)
    have y6 : Below Y.heap.size Y (w6.alloc (.cells (v4a R none 0 P6 p6) 28)) := x6.trans (((Below.refl _ w6).alloc (Nat.le_refl _) _).mono x6.size)
    have u6 : Below w6.heap.size w6 (w6.alloc (.cells (v4a R none 0 P6 p6) 28)) := (Below.refl _ w6).alloc (Nat.le_refl _) _
    generalize w6.alloc (.cells (v4a R none 0 P6 p6) 28) = Z at *
    have g6 := g6.below u6
    have zu6 := u6.size
    have zk6 := heap_lt kz6
    have at4 := at4.below y6 zk4
    have g4 := (g4.more zu4).below y6
    have b6' := b4'.trans (y6.mono b4'.size)
    have zY := y6.size
    clear m6 x6 u6 y6 at3 g3
    go_upto_region 9 with (first
      | ((with_reducible show wpList _ _ _ (Oper.mk _ (Op.load 49 _) _ _ _ _ :: _) _ _); refine wpList_val rfl (run_load_tr rfl rfl at4 (tll_len HVP.out)) ?_)
      | (go_at_call 25; refine (rRpacket a2 V P4 p4 Y.heap.size _ HVP.out g4 zY HVL.out).mono ?_; rintro e w7 ⟨P7, p7, rfl, m7⟩; rw [← HR.out] at m7; rw [← HR.out, ← HF.out])
      | ((with_reducible show wpList _ _ _ (Oper.mk _ (Op.store 28 _ _) _ _ _ _ :: _) _ _); refine v4_store_new (cs := v4a R none 0 P7 p7) rfl rfl rfl rfl (v4a_one _ _ _ _ _) ?_))
    obtain ⟨_, _, e7, g7, _, x7⟩ := made_shape m7
    cases e7
    have kz7 := World.alloc_heap_new w7 (.cells (v4a R none 0 P7 p7) 28)
    have y7 : Below Z.heap.size Z (w7.alloc (.cells (v4a R none 0 P7 p7) 28)) := x7.trans (((Below.refl _ w7).alloc (Nat.le_refl _) _).mono x7.size)
    have u7 : Below w7.heap.size w7 (w7.alloc (.cells (v4a R none 0 P7 p7) 28)) := (Below.refl _ w7).alloc (Nat.le_refl _) _
    generalize w7.alloc (.cells (v4a R none 0 P7 p7) 28) = U at *
    have g7 := g7.below u7
    have zu7 := u7.size
    have g6 := (g6.more zu6).below y7
    have at6 := ofhE ((y7.block _ zk6).trans kz6)
    have at7 := ofhE kz7
    have b7' := b6'.trans (y7.mono b6'.size)
    have zZ := y7.size
    have zz7 := x7.size
    clear m7 x7 u7 y7 at4 g4
    go_wp2_with (first
      | ((with_reducible show wpList _ _ _ (Oper.mk (some 87) (Op.load 28 _) _ _ _ _ :: _) _ _); refine wpList_valg (by rfl) (run_load_v4 rfl rfl at6 rfl) ?_)
      | ((with_reducible show wpList _ _ _ (Oper.mk (some 88) (Op.load 28 _) _ _ _ _ :: _) _ _); refine wpList_valg (by rfl) (run_load_v4 rfl rfl at7 rfl) ?_)
      | (go_at_call 18; refine (r5same R R none 0 P6 p6 none 0 P7 p7 U.heap.size _ (Nat.le_refl _) (by rw [HRO.out]; exact Rd.nil) (g6.rd.more zZ) (by rw [HRO.out]; exact Rd.nil) (g7.rd.more zu7)).mono ?_; rintro e w8 ⟨rfl, x8⟩; rw [HS.out])
      | (go_at_call 21; refine (awake30 _).mono ?_; rintro e w10 ⟨rfl, b10⟩))
    go_ret
    exact ⟨rfl, b7'.trans ((x8.trans (b10.mono x8.size)).mono b7'.size)⟩

/-! ### The row's step -/
set_option maxRecDepth 100000 in
theorem lifted (os : Os) (started : os.Started) (H : Type) (enc : TypeId × Value → H) :
    ReturnsInHanded {} Try.checked os 5 .any (Rows.relayTellsSpec.pre6 enc Try.prog Try.f5 Rows.relayTellsRow.domain false) (Rows.relayTellsSpec.post enc Try.prog Try.f5 false true false false) := by
  refine returnsInHanded_of_change (C := Try.checked) own started (by kernel_rfl) Try.func5
    (ChangeSpec.witness6 (enc := enc) (C := Try.checked) false ⟨#[], #[.agg #[.int .u8 0, .int .u8 0, .int .u8 0, .int .u8 0, .int .u8 0, .int .u8 0, .int .u8 0, .int .u8 0, .int .u8 0, .int .u8 0, .int .u8 0, .int .u8 0, .int .u8 0, .int .u8 0, .int .u8 0, .int .u8 0], .agg #[.int .i64 0, .int .i64 0, .int .i64 0, .slice none 0 0], .int .i64 0], []⟩ 8 (by kernel_rfl) (by kernel_rfl) (by kernel_rfl) (by kernel_rfl)) ?_
  intro W base args ds gs before hval0 hW hcnd _
  have hval : ∀ (j : Nat) t v, Try.f5.params[j]? = some t → args[j]? = some v → Value.okWide Try.prog W .any base t v := hval0
  have hW' := hW
  obtain ⟨p, q, hA0, hV, rfl, hfz, hnd⟩ := hW
  have hA : DataW.TrodAll enc Try.prog W 0 (fun _ => true) true Try.f5.params.toList args.toList ds p := hA0
  rw [Try.params5] at hA hval
  obtain ⟨v0, vs0, d0, ds0, p0, q0, hargs, rfl, rfl, t0, r0⟩ := trodAll_cons hA
  obtain ⟨v1, vs1, d1, ds1, p1, q1, rfl, rfl, rfl, t1, r1⟩ := trodAll_cons r0
  obtain ⟨v2, vs2, d2, ds2, p2, q2, rfl, rfl, rfl, t2, r2⟩ := trodAll_cons r1
  obtain ⟨rfl, rfl, rfl⟩ := trodAll_nil r2
  obtain rfl : args = #[v0, v1, v2] := by cases args; simp_all
  obtain ⟨rfl, rfl⟩ := trodVars_none hV
  have k0 := t0
  have lt0 := Trod_lt t0
  have k1 := t1
  have lt1 := Trod_lt t1
  have k2 := t2
  have lt2 := Trod_lt t2
  obtain ⟨b0, rfl, h0⟩ := get_six Try.underlying23 Try.underlying5 (by kernel_rfl) (by kernel_rfl) (hval 0 23 v0 rfl rfl) t0
  obtain ⟨x1, A1, c1, rfl, h1, m1, w1⟩ := get_is (hval 1 44 v1 rfl rfl) t1
  obtain ⟨a2, rfl, w2⟩ := get_int Try.underlying3 (hval 2 3 v2 rfl rfl) t2
  clear hA0 hval0
  refine (walk b0 x1 A1 c1 a2 W h0 h1 m1 w1 w2).mono fun e W' ⟨he, bel⟩ => ?_
  subst he
  exact ⟨_, rfl, _, _, _, [], _, [], hW', trodAll_mk1 (shut_bool Try.underlying4 _), (trodAll_cons_mk (Below.trod laidOut (by kernel_rfl) (of_decide_eq_true (by kernel_rfl)) k0 bel lt0) (trodAll_cons_mk (Below.trod laidOut (by kernel_rfl) (of_decide_eq_true (by kernel_rfl)) k1 bel lt1) (trodAll_cons_mk (Below.trod laidOut (by kernel_rfl) (of_decide_eq_true (by kernel_rfl)) k2 bel lt2) trodAll_mk0))), rfl, bel.frame _, fun h => by cases h⟩

theorem over : Rows.relayTellsRow.holds Try.pinned (OpenSpec.ofChange Rows.relayTellsSpec) :=
  OpenClaim.holds_of_wide 5 Try.f5 rfl rfl rfl rfl rfl rfl rfl ⟨rfl, rfl, rfl, rfl, rfl⟩ rfl rfl rfl rfl rfl (by kernel_rfl) Try.func5 (by kernel_rfl)
    (of_decide_eq_true (by kernel_rfl)) (by unfold Func.isWrapper; first | (rw [if_pos (by decide +kernel)]; kernel_rfl) | (rw [if_neg (by decide +kernel)]; exact ⟨rfl, rfl⟩))
    (fun os started H enc _ => lifted os started H enc)

theorem proved : Rows.RelayTellsSaid := over
end Go.Proofs.Ytkfbamippjhjcaa.relayTells
