/-
  For all addresses, ports, bytes and sizes goosepondlaw30.RelayReaches answers true: a message of a size, of a packet that was sent, is told to who sent what is within, with the size less what wraps it. Conditions: none but the statement's own.
-/
import Derived.Test.YtkfbamippjhjcaaRows
import Derived.WalkKit
import Derived.ProofKit
import Derived.OpenShut
import Derived.ChangeOld
import Derived.Below
import Derived.Test.YtkfbamippjhjcaaRa2
import Derived.Test.YtkfbamippjhjcaaRa15
namespace Go.Proofs.Ytkfbamippjhjcaa.relayReaches
open Go.ChangeShapes Go.WideShapes Go.ChangeAt Go.RowKit
set_option linter.unusedVariables false
attribute [local go_sem] Oper.semAt_some

theorem own : ownKnob Try.prog.godebug = none := by kernel_rfl
theorem laidOut : laidOutB Try.prog = true := by kernel_rfl

/-! ### The walk -/
set_option maxRecDepth 100000 in
set_option maxHeartbeats 4000000 in
theorem walk (b0 : List UInt8) (b1 : List UInt8) (e2a e2b : Int) (A3 : Option Addr) (c3 : Nat) (b3 : List UInt8) (a4 : Int) (a5 : Int) (w : World) (h0 : b0.length = 16) (h1 : b1.length = 16) (w2a : (Lit.int .u16 e2a).wf = true) (w2b : (Lit.int .u16 e2b).wf = true) (h3 : Arg w w.heap.size A3 c3 b3) (m3 : c3 ≤ maxLen) (w4 : (Lit.int .u16 a4).wf = true) (w5 : (Lit.int .u8 a5).wf = true) :
    Calls Try.prog 7 #[.agg (cel b0), .agg (cel b1), .agg #[.int .u16 e2a, .int .u16 e2b], .slice A3 b3.length c3, .int .u16 a4, .int .u8 a5] w fun e w' => e = .returned (.bool true) ∧ Below w.heap.size w w' := by
  by_cases hbig : 1000 < b3.length
  · have d0 : decide (1000 < (b3.length : Int)) = true := by simp; omega
    have hB := (three_boxes w (.cells (cel b0) 23) (.cells (cel b1) 23) (.cells #[.int .u16 e2a, .int .u16 e2b] 60)).1
    go_enter Try.func7, Try.ntmps7
    go_upto_region 1 with fail
    generalize ((w.alloc (.cells (cel b0) 23)).alloc (.cells (cel b1) 23)).alloc (.cells #[.int .u16 e2a, .int .u16 e2b] 60) = W at *
    go_wp2_with (first
      | (go_at_call 21; refine (awake30 _).mono ?_; rintro e w10 ⟨rfl, b10⟩))
    go_ret
    exact ⟨rfl, hB.trans (b10.mono hB.size)⟩
  · have d0 : decide (1000 < (b3.length : Int)) = false := by simp; omega
    have hl : b3.length ≤ 1000 := by omega
    clear hbig
    obtain ⟨ea0, ea1⟩ := u16_bdR w2a
    obtain ⟨eb0, eb1⟩ := u16_bdR w2b
    obtain ⟨sz0, sz1⟩ := u16_bdR w4
    obtain ⟨ct0, ct1⟩ := u8_bdR w5
    obtain ⟨m, hm⟩ : ∃ m : Nat, m = (max 68 ((68 + b3.length : Nat) - a5)).toNat := ⟨_, rfl⟩
    have hm1 : 68 ≤ m := by omega
    have hm2 : m ≤ 68 + b3.length := by omega
    obtain ⟨D0, hD0⟩ : ∃ l, l = bld4 (dgE (167772160 + e2a) (134217728 + e2b) 5 6 9 b3) := ⟨_, rfl⟩
    obtain ⟨hu, h4, hdl⟩ := dg_chk (s := 167772160 + e2a) (d := 134217728 + e2b) (b := b3) (by omega) (by omega) (by omega)
    obtain ⟨hc, hbl, hof, hop, hor, hpe, hpd⟩ := reach (own := b0) (peer := b1) (a := 3221225474) (r := a4) (b := b3) (m := m) h0 h1 hl (by omega) (by omega) (host_ten ea0 ea1) (host_eight eb0 eb1) hD0 hm1 hm2 (by decide) (by decide)
    have PD : Hid (∀ U, Below w.heap.size w U → Calls Try.prog 28 #[.int .i64 (167772160 + e2a), .int .i64 (134217728 + e2b), .int .i64 5, .int .i64 6, .int .i64 9, .slice A3 b3.length c3] U fun e w' => ∃ P p, e = .returned (.slice P D0.length p) ∧ Made U w' (.slice P D0.length p) D0) := Lib.hid (fun U hU => by
      rw [hD0]; exact plain_dgE _ _ 5 6 9 b3 A3 c3 U w.heap.size (h3.below hU) hU.size (by omega) hu h4)
    have HDL := Lib.hid (show D0.length ≤ 1000000 by rw [hD0, hdl]; omega)
    obtain ⟨q, hq⟩ : ∃ q, q = wrV b0 b1 64 D0 := ⟨_, rfl⟩
    have hq2 := hq.trans (wrV_ok hc)
    have HC := Lib.hid hc
    have HQ := Lib.hid hq
    have HCQ := Lib.hid (show chk6 q = 0 by rw [hq2]; exact hc)
    have HQS := Lib.hid (show q.src.length = 16 by rw [hq2]; exact h0)
    have HQD := Lib.hid (show q.dst.length = 16 by rw [hq2]; exact h1)
    have HQL := Lib.hid (show q.dat.length ≤ 1000000 by rw [hq2]; exact HDL.out)
    obtain ⟨T0, hT0⟩ : ∃ T, T = bld6 q := ⟨_, rfl⟩
    have HT0 := Lib.hid hT0
    rw [← hq2, ← hT0] at hbl hof hop hor hpe hpd
    obtain ⟨T, hT⟩ : ∃ T, T = T0.take m := ⟨_, rfl⟩
    have HT := Lib.hid hT
    have hTl : T.length = m := by rw [hT, List.length_take]; omega
    rw [← hT] at hof hop hor hpe hpd
    have n0 : T0.length ≤ 1068 := by omega
    have n1 : 68 ≤ T0.length := by omega
    have n2 : decide ((T0.length : Int) < 68) = false := by simp; omega
    have HM := Lib.hid (show (m : Int) = max 68 ((T0.length : Int) - a5) by omega)
    have HTL := Lib.hid hTl
    have HTM : Hid (T.length ≤ 1000000) := Lib.hid (by omega)
    have HTC : Hid (m ≤ T0.length) := Lib.hid (by omega)
    obtain ⟨V, hV⟩ : ∃ V, V = ofV b0 2 a4 T := ⟨_, rfl⟩
    have hvl := ofV_len b0 2 a4 T
    have hvp := ofV_peer b0 2 a4 T
    rw [← hV] at hop hor hpe hpd hvl hvp
    have HVP := Lib.hid hvp
    have HVQ := Lib.hid hop
    have HVR := Lib.hid (hor.trans (show roomR a4 = max (a4 - 40) 68 by unfold roomR; omega))
    have HVL : Hid (V.inner.length ≤ 900000) := Lib.hid (by omega)
    obtain ⟨R, hR⟩ : ∃ R, R = pkkV 3221225474 V := ⟨_, rfl⟩
    rw [← hR] at hpd
    have HR := Lib.hid hR
    have HRE := Lib.hid hpe
    have HRD := Lib.hid hpd
    have OF : Hid (∀ U P5 p5 B, Arg U B P5 p5 T → B ≤ U.heap.size → Calls Try.prog 22 #[.agg (cel b0), isv ⟨2, 0, a4, T⟩ P5 p5] U fun e w' => ∃ P p, e = .returned (.tuple #[tlv V P p, .int .i64 0]) ∧ Made U w' (.slice P V.inner.length p) V.inner) := Lib.hid (fun U P5 p5 B hA hB => by
      have := cRof b0 ⟨2, 0, a4, T⟩ P5 p5 B U h0 (by show (Lit.int .i64 a4).wf = true; simp [Lit.wf]; have e1 : IntKind.i64.min = -9223372036854775808 := by decide
                                                     have e2 : IntKind.i64.max = 9223372036854775807 := by decide
                                                     omega) hA hB HTM.out
      dsimp only at this
      rw [← hV, hof] at this
      exact this)
    have dM : (max (a4 - 40) 68 == max (a4 - 40) 68) = true := beq_self_eq_true _
    have dS : (167772160 + e2a == 167772160 + e2a) = true := beq_self_eq_true _
    clear hD0 hu h4 hdl hc hbl hof hop hor hpe hpd hq hq2 hT hT0 hTl hV hvl hvp hR hm hm1 hm2
    obtain ⟨hB, k1, k2, k3, z3⟩ := (three_boxes w (.cells (cel b0) 23) (.cells (cel b1) 23) (.cells #[.int .u16 e2a, .int .u16 e2b] 60))
    go_enter Try.func7, Try.ntmps7
    go_upto_region 1 with fail
    generalize ((w.alloc (.cells (cel b0) 23)).alloc (.cells (cel b1) 23)).alloc (.cells #[.int .u16 e2a, .int .u16 e2b] 60) = W at *
    have r1 : W.rangeAt w.heap.size 0 (row b0) := range_heap k1
    have r2 : W.rangeAt (w.heap.size + 1) 0 (row b1) := range_heap k2
    have ka : W.cell? ⟨w.heap.size + 2, 0, none⟩ = some (.int .u16 e2a) := by { rw [cell_of_row _ _ _ _ _ _ k3]; rfl }
    have kb : W.cell? ⟨w.heap.size + 2, 1, none⟩ = some (.int .u16 e2b) := by { rw [cell_of_row _ _ _ _ _ _ k3]; rfl }
    have z1 : w.heap.size < W.heap.size := by omega
    have z2 : w.heap.size + 1 < W.heap.size := by omega
    clear k1 k2 k3
    go_upto_region 4 with (go_at_call 28; refine (PD.out _ hB).mono ?_; rintro e w1 ⟨P, p, rfl, m1⟩; obtain ⟨_, _, e1, g1, _, x1⟩ := made_shape m1; cases e1)
    have r1 := range_below r1 z1 x1
    have r2 := range_below r2 z2 x1
    have ka := (x1.cell (p := ⟨w.heap.size + 2, 0, none⟩) z3).trans ka
    have b1' := hB.trans (x1.mono hB.size)
    have zz := x1.size
    have z1 := Nat.lt_of_lt_of_le z1 zz
    have z2 := Nat.lt_of_lt_of_le z2 zz
    have z3 := Nat.lt_of_lt_of_le z3 zz
    clear m1 kb x1 zz
    go_upto_region 5 with (first
      | ((with_reducible show wpList _ _ _ (Oper.mk (some 37) (Op.load 23 _) _ _ _ _ :: _) _ _); refine wpList_val rfl (run_load_six rfl rfl r1 h0) ?_)
      | ((with_reducible show wpList _ _ _ (Oper.mk (some 38) (Op.load 23 _) _ _ _ _ :: _) _ _); refine wpList_val rfl (run_load_six rfl rfl r2 h1) ?_)
      | (go_at_call 10; refine (cWwrap b0 b1 64 D0 P p w1.heap.size _ h0 h1 g1 (Nat.le_refl _) HDL.out).mono ?_; rintro e w2 ⟨P2, p2, rfl, m2⟩; rw [← HQ.out] at m2; rw [← HQ.out, HC.out])
      | ((with_reducible show wpList _ _ _ (Oper.mk _ (Op.store 26 _ _) _ _ _ _ :: _) _ _); refine v6_store_new (cs := v6a q P2 p2) rfl rfl rfl (by rw [v6a_size _ _ _ HQS.out HQD.out]) (v6a_one _ _ _) ?_))
    obtain ⟨_, _, e2, g2, _, x2⟩ := made_shape m2
    cases e2
    have kz2 := World.alloc_heap_new w2 (.cells (v6a q P2 p2) 26)
    have y2 : Below w1.heap.size w1 (w2.alloc (.cells (v6a q P2 p2) 26)) := x2.trans (((Below.refl _ w2).alloc (Nat.le_refl _) _).mono x2.size)
    have u2 : Below w2.heap.size w2 (w2.alloc (.cells (v6a q P2 p2) 26)) := (Below.refl _ w2).alloc (Nat.le_refl _) _
    generalize w2.alloc (.cells (v6a q P2 p2) 26) = X2 at *
    have g2 := (g2.below u2).more u2.size
    have r1 := range_below r1 z1 y2
    have r2 := range_below r2 z2 y2
    have b2' := b1'.trans (y2.mono b1'.size)
    have zz := y2.size
    have zk2 := heap_lt kz2
    have ka := (y2.cell (p := ⟨w.heap.size + 2, 0, none⟩) z3).trans ka
    have at2 : At6 X2 w2.heap.size q P2 p2 := range_heap kz2
    have z1 := Nat.lt_of_lt_of_le z1 zz
    have z2 := Nat.lt_of_lt_of_le z2 zz
    have z3 := Nat.lt_of_lt_of_le z3 zz
    clear m2 x2 u2 y2 kz2 g1 zz
    go_upto_region 6 with (first
      | ((with_reducible show wpList _ _ _ (Oper.mk _ (Op.load 26 _) _ _ _ _ :: _) _ _); refine wpList_val rfl (run_load_v6 rfl rfl at2 (v6l_len HQS.out HQD.out)) ?_)
      | (go_at_call 29; refine (c6build q P2 p2 _ X2.heap.size HQS.out HQD.out HQL.out g2 (Nat.le_refl _)).mono ?_; rintro e w3 ⟨v3, rfl, _, m3⟩; have m3 := m3 HCQ.out; rw [HCQ.out]; rw [← HT0.out] at m3; obtain ⟨P3, p3, rfl, g3, _, x3⟩ := made_shape m3))
    have r1 := range_below r1 z1 x3
    have r2 := range_below r2 z2 x3
    have ka := (x3.cell (p := ⟨w.heap.size + 2, 0, none⟩) z3).trans ka
    have b3' := b2'.trans (x3.mono b2'.size)
    have zz := x3.size
    have hcap := g3.cap
    have g3 := g3.cut_hi m HTC.out
    rw [← HT.out] at g3
    have z1 := Nat.lt_of_lt_of_le z1 zz
    have z2 := Nat.lt_of_lt_of_le z2 zz
    have z3 := Nat.lt_of_lt_of_le z3 zz
    clear m3 at2 g2 x3 zz
    go_upto_region 9 with (first
      | ((with_reducible show wpList _ _ _ (Oper.mk _ (Op.slice _ _ _ _ _) _ _ _ _ :: _) _ _); (refine wpList_val rfl (run_cut_h rfl rfl rfl (h := max 68 ((T0.length : Int) - a5)) (by omega) (by omega) (m := T.length) (by rw [HTL.out, ← HM.out]; rfl)) ?_)))
    go_upto_region 10 with (first
      | ((with_reducible show wpList _ _ _ (Oper.mk (some 68) (Op.load 23 _) _ _ _ _ :: _) _ _); refine wpList_val rfl (run_load_six rfl rfl r1 h0) ?_)
      | (go_at_call 22; refine (OF.out _ P3 p3 _ g3 (Nat.le_refl _)).mono ?_; rintro e w4 ⟨P4, p4, rfl, m4⟩)
      | ((with_reducible show wpList _ _ _ (Oper.mk _ (Op.store 46 _ _) _ _ _ _ :: _) _ _); refine tc_store_new (cs := tla V P4 p4) rfl rfl rfl (tla_size HVP.out) (tla_one _ _ _) ?_))
    obtain ⟨_, _, e4, g4, _, x4⟩ := made_shape m4
    cases e4
    have kz4 := World.alloc_heap_new w4 (.cells (tla V P4 p4) 46)
    have y4 : Below w3.heap.size w3 (w4.alloc (.cells (tla V P4 p4) 46)) := x4.trans (((Below.refl _ w4).alloc (Nat.le_refl _) _).mono x4.size)
    have u4 : Below w4.heap.size w4 (w4.alloc (.cells (tla V P4 p4) 46)) := (Below.refl _ w4).alloc (Nat.le_refl _) _
    generalize w4.alloc (.cells (tla V P4 p4) 46) = X4 at *
    have g4 := (g4.below u4).more u4.size
    have r1 := range_below r1 z1 y4
    have r2 := range_below r2 z2 y4
    have b4' := b3'.trans (y4.mono b3'.size)
    have zz := y4.size
    have zk4 := heap_lt kz4
    have ka := (y4.cell (p := ⟨w.heap.size + 2, 0, none⟩) z3).trans ka
    have at4 : AtT X4 w4.heap.size V P4 p4 := range_heap kz4
    have z1 := Nat.lt_of_lt_of_le z1 zz
    have z2 := Nat.lt_of_lt_of_le z2 zz
    have z3 := Nat.lt_of_lt_of_le z3 zz
    clear m4 x4 u4 y4 kz4 g3 zz
    go_upto_region 11 with (first
      | ((with_reducible show wpList _ _ _ (Oper.mk _ (Op.load 46 _) _ _ _ _ :: _) _ _); refine wpList_val rfl (run_load_tc rfl rfl at4 (tll_len HVP.out)) ?_)
      | (go_at_call 24; refine (cRpacket 3221225474 V P4 p4 X4.heap.size _ HVP.out g4 (Nat.le_refl _) HVL.out).mono ?_; rintro e w5 ⟨P5, p5, rfl, m5⟩; rw [← HR.out] at m5; rw [← HR.out, HRE.out])
      | ((with_reducible show wpList _ _ _ (Oper.mk _ (Op.store 28 _ _) _ _ _ _ :: _) _ _); refine v4_store_new (cs := v4a R none 0 P5 p5) rfl rfl rfl rfl (v4a_one _ _ _ _ _) ?_))
    obtain ⟨_, _, e5, g5, _, x5⟩ := made_shape m5
    cases e5
    have kz5 := World.alloc_heap_new w5 (.cells (v4a R none 0 P5 p5) 28)
    have y5 : Below X4.heap.size X4 (w5.alloc (.cells (v4a R none 0 P5 p5) 28)) := x5.trans (((Below.refl _ w5).alloc (Nat.le_refl _) _).mono x5.size)
    have u5 : Below w5.heap.size w5 (w5.alloc (.cells (v4a R none 0 P5 p5) 28)) := (Below.refl _ w5).alloc (Nat.le_refl _) _
    generalize w5.alloc (.cells (v4a R none 0 P5 p5) 28) = X5 at *
    have g5 := (g5.below u5).more u5.size
    have r1 := range_below r1 z1 y5
    have r2 := range_below r2 z2 y5
    have b5' := b4'.trans (y5.mono b4'.size)
    have zz := y5.size
    have zk5 := heap_lt kz5
    have ka := (y5.cell (p := ⟨w.heap.size + 2, 0, none⟩) z3).trans ka
    have at4 := at4.below y5 zk4
    have kd := (ofhE kz5).dst
    rw [HRD.out] at kd
    have kr := at4.rest HVP.out
    rw [HVR.out] at kr
    have eS : ∀ w, (Op.equalIn 10000 23 (.agg (cel V.peer)) (.agg (cel b1))).run Try.prog w = .ok true w := fun w => by rw [six_eq _ _ HVP.out h1, HVQ.out]; simp
    clear m5 x5 u5 y5 kz5 g4 zz r1
    go_wp2_with (first
      | ((with_reducible show wpList _ _ _ (Oper.mk (some 89) (Op.load 23 _) _ _ _ _ :: _) _ _); refine wpList_valg (by rfl) (run_load_six rfl rfl at4.peer HVP.out) ?_)
      | ((with_reducible show wpList _ _ _ (Oper.mk (some 90) (Op.load 23 _) _ _ _ _ :: _) _ _); refine wpList_valg (by rfl) (run_load_six rfl rfl r2 h1) ?_)
      | (go_at_call 21; refine (awake30 _).mono ?_; rintro e w10 ⟨rfl, b10⟩))
    go_ret
    exact ⟨rfl, b5'.trans (b10.mono b5'.size)⟩

/-! ### The row's step -/
set_option maxRecDepth 100000 in
theorem lifted (os : Os) (started : os.Started) (H : Type) (enc : TypeId × Value → H) :
    ReturnsInHanded {} Try.checked os 7 .any (Rows.relayReachesSpec.pre6 enc Try.prog Try.f7 Rows.relayReachesRow.domain false) (Rows.relayReachesSpec.post enc Try.prog Try.f7 false true false false) := by
  refine returnsInHanded_of_change (C := Try.checked) own started (by kernel_rfl) Try.func7
    (ChangeSpec.witness6 (enc := enc) (C := Try.checked) false ⟨#[], #[.agg #[.int .u8 0, .int .u8 0, .int .u8 0, .int .u8 0, .int .u8 0, .int .u8 0, .int .u8 0, .int .u8 0, .int .u8 0, .int .u8 0, .int .u8 0, .int .u8 0, .int .u8 0, .int .u8 0, .int .u8 0, .int .u8 0], .agg #[.int .u8 0, .int .u8 0, .int .u8 0, .int .u8 0, .int .u8 0, .int .u8 0, .int .u8 0, .int .u8 0, .int .u8 0, .int .u8 0, .int .u8 0, .int .u8 0, .int .u8 0, .int .u8 0, .int .u8 0, .int .u8 0], .agg #[.int .u16 0, .int .u16 0], .slice none 0 0, .int .u16 0, .int .u8 0], []⟩ 8 (by kernel_rfl) (by kernel_rfl) (by kernel_rfl) (by kernel_rfl)) ?_
  intro W base args ds gs before hval0 hW hcnd _
  have hval : ∀ (j : Nat) t v, Try.f7.params[j]? = some t → args[j]? = some v → Value.okWide Try.prog W .any base t v := hval0
  have hW' := hW
  obtain ⟨p, q, hA0, hV, rfl, hfz, hnd⟩ := hW
  have hA : DataW.TrodAll enc Try.prog W 0 (fun _ => true) true Try.f7.params.toList args.toList ds p := hA0
  rw [Try.params7] at hA hval
  obtain ⟨v0, vs0, d0, ds0, p0, q0, hargs, rfl, rfl, t0, r0⟩ := trodAll_cons hA
  obtain ⟨v1, vs1, d1, ds1, p1, q1, rfl, rfl, rfl, t1, r1⟩ := trodAll_cons r0
  obtain ⟨v2, vs2, d2, ds2, p2, q2, rfl, rfl, rfl, t2, r2⟩ := trodAll_cons r1
  obtain ⟨v3, vs3, d3, ds3, p3, q3, rfl, rfl, rfl, t3, r3⟩ := trodAll_cons r2
  obtain ⟨v4, vs4, d4, ds4, p4, q4, rfl, rfl, rfl, t4, r4⟩ := trodAll_cons r3
  obtain ⟨v5, vs5, d5, ds5, p5, q5, rfl, rfl, rfl, t5, r5⟩ := trodAll_cons r4
  obtain ⟨rfl, rfl, rfl⟩ := trodAll_nil r5
  obtain rfl : args = #[v0, v1, v2, v3, v4, v5] := by cases args; simp_all
  obtain ⟨rfl, rfl⟩ := trodVars_none hV
  have k0 := t0
  have lt0 := Trod_lt t0
  have k1 := t1
  have lt1 := Trod_lt t1
  have k2 := t2
  have lt2 := Trod_lt t2
  have k3 := t3
  have lt3 := Trod_lt t3
  have k4 := t4
  have lt4 := Trod_lt t4
  have k5 := t5
  have lt5 := Trod_lt t5
  obtain ⟨b0, rfl, h0⟩ := get_six Try.underlying23 Try.underlying5 (by kernel_rfl) (by kernel_rfl) (hval 0 23 v0 rfl rfl) t0
  obtain ⟨b1, rfl, h1⟩ := get_six Try.underlying23 Try.underlying5 (by kernel_rfl) (by kernel_rfl) (hval 1 23 v1 rfl rfl) t1
  obtain ⟨e2a, e2b, rfl, w2a, w2b⟩ := get_end2 Try.underlying60 Try.underlying59 (by kernel_rfl) (by kernel_rfl) (hval 2 60 v2 rfl rfl) t2
  obtain ⟨A3, c3, b3, rfl, h3, m3⟩ := get_bytes Try.underlying24 Try.underlying5 (by kernel_rfl) (hval 3 24 v3 rfl rfl) t3
  obtain ⟨a4, rfl, w4⟩ := get_int Try.underlying59 (hval 4 59 v4 rfl rfl) t4
  obtain ⟨a5, rfl, w5⟩ := get_int Try.underlying5 (hval 5 5 v5 rfl rfl) t5
  clear hA0 hval0
  refine (walk b0 b1 e2a e2b A3 c3 b3 a4 a5 W h0 h1 w2a w2b h3 m3 w4 w5).mono fun e W' ⟨he, bel⟩ => ?_
  subst he
  exact ⟨_, rfl, _, _, _, [], _, [], hW', trodAll_mk1 (shut_bool Try.underlying4 _), (trodAll_cons_mk (Below.trod laidOut (by kernel_rfl) (of_decide_eq_true (by kernel_rfl)) k0 bel lt0) (trodAll_cons_mk (Below.trod laidOut (by kernel_rfl) (of_decide_eq_true (by kernel_rfl)) k1 bel lt1) (trodAll_cons_mk (Below.trod laidOut (by kernel_rfl) (of_decide_eq_true (by kernel_rfl)) k2 bel lt2) (trodAll_cons_mk (Below.trod laidOut (by kernel_rfl) (of_decide_eq_true (by kernel_rfl)) k3 bel lt3) (trodAll_cons_mk (Below.trod laidOut (by kernel_rfl) (of_decide_eq_true (by kernel_rfl)) k4 bel lt4) (trodAll_cons_mk (Below.trod laidOut (by kernel_rfl) (of_decide_eq_true (by kernel_rfl)) k5 bel lt5) trodAll_mk0)))))), rfl, bel.frame _, fun h => by cases h⟩

theorem over : Rows.relayReachesRow.holds Try.pinned (OpenSpec.ofChange Rows.relayReachesSpec) :=
  OpenClaim.holds_of_wide 7 Try.f7 rfl rfl rfl rfl rfl rfl rfl ⟨rfl, rfl, rfl, rfl, rfl⟩ rfl rfl rfl rfl rfl (by kernel_rfl) Try.func7 (by kernel_rfl)
    (of_decide_eq_true (by kernel_rfl)) (by unfold Func.isWrapper; first | (rw [if_pos (by decide +kernel)]; kernel_rfl) | (rw [if_neg (by decide +kernel)]; exact ⟨rfl, rfl⟩))
    (fun os started H enc _ => lifted os started H enc)

theorem proved : Rows.RelayReachesSaid := over
end Go.Proofs.Ytkfbamippjhjcaa.relayReaches
