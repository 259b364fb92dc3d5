/-
  For all addresses, messages and kinds goosepondlaw30.RelayOnce answers true: nothing is told of what tells of a fault. Conditions: none but the statement's own.
-/
import Derived.Test.YtkfbamippjhjcaaRows
import Derived.WalkKit
import Derived.ProofKit
import Derived.OpenShut
import Derived.ChangeOld
import Derived.Below
import Derived.Test.YtkfbamippjhjcaaRa2
import Derived.Test.YtkfbamippjhjcaaRa15
namespace Go.Proofs.Ytkfbamippjhjcaa.relayOnce
open Go.ChangeShapes Go.WideShapes Go.ChangeAt Go.RowKit
set_option linter.unusedVariables false
attribute [local go_sem] Oper.semAt_some

theorem own : ownKnob Try.prog.godebug = none := by kernel_rfl
theorem laidOut : laidOutB Try.prog = true := by kernel_rfl

/-! ### The walk -/
set_option maxRecDepth 100000 in
set_option maxHeartbeats 4000000 in
theorem walk (b0 : List UInt8) (b1 : List UInt8) (x2 : PI) (A2 : Option Addr) (c2 : Nat) (a3 : Int) (w : World) (h0 : b0.length = 16) (h1 : b1.length = 16) (h2 : Arg w w.heap.size A2 c2 x2.dat) (m2 : c2 ≤ maxLen) (w2 : x2.fits) (w3 : (Lit.int .u8 a3).wf = true) :
    Calls Try.prog 8 #[.agg (cel b0), .agg (cel b1), isv x2 A2 c2, .int .u8 a3] w fun e w' => e = .returned (.bool true) ∧ Below w.heap.size w w' := by
  have hrest : (Lit.int .i64 x2.rest).wf = true := w2 _ (by simp)
  by_cases hbig : 1000 < x2.dat.length
  · have d0 : decide (1000 < (x2.dat.length : Int)) = true := by simp; omega
    have kd := (Atis.of_heap (three_boxes w (.cells (cel b0) 23) (.cells (cel b1) 23) (.cells (isa x2 A2 c2) 44)).2.2.2.1).dat
    have hB := (three_boxes w (.cells (cel b0) 23) (.cells (cel b1) 23) (.cells (isa x2 A2 c2) 44)).1
    rw [isv_eq]
    go_enter Try.func8, Try.ntmps8
    go_upto_region 1 with fail
    generalize ((w.alloc (.cells (cel b0) 23)).alloc (.cells (cel b1) 23)).alloc (.cells (isa x2 A2 c2) 44) = W at *
    go_wp2_with (first
      | (go_at_call 21; refine (awake30 _).mono ?_; rintro e w10 ⟨rfl, b10⟩))
    go_ret
    exact ⟨rfl, hB.trans (b10.mono hB.size)⟩
  · have d0 : decide (1000 < (x2.dat.length : Int)) = false := by simp; omega
    clear hbig
    obtain ⟨n0, n1⟩ := u8_bdR w3
    obtain ⟨D0, hD0⟩ : ∃ l, l = bld4 (dgE 167772162 134744072 5 6 9 []) := ⟨_, rfl⟩
    obtain ⟨hu, h4, hdl⟩ := dg_chk (s := 167772162) (d := 134744072) (b := []) (by omega) (by omega) (by decide)
    have PD : Hid (∀ U, Calls Try.prog 28 #[.int .i64 167772162, .int .i64 134744072, .int .i64 5, .int .i64 6, .int .i64 9, .slice none 0 0] U fun e w' => ∃ P p, e = .returned (.slice P D0.length p) ∧ Made U w' (.slice P D0.length p) D0) := Lib.hid (fun U => by
      rw [hD0]; exact plain_dgE 167772162 134744072 5 6 9 [] none 0 U 0 (Arg.nil _ _) (Nat.zero_le _) (by simp) hu h4)
    have HDL := Lib.hid (show D0.length ≤ 900000 by rw [hD0, hdl]; decide)
    have hmay : mayE D0 = true := by
      obtain ⟨e1, e2⟩ := back_quo h4
      rw [hD0]
      unfold mayE okE
      rw [e1, e2]
      have i1 : hostB (dgE 167772162 134744072 5 6 9 []).src = true := by show hostB 167772162 = true; decide
      have i2 : hostB (dgE 167772162 134744072 5 6 9 []).dst = true := by show hostB 134744072 = true; decide
      have i3 : ((dgE 167772162 134744072 5 6 9 []).off == 0) = true := rfl
      have i4 : ((dgE 167772162 134744072 5 6 9 []).proto != 1) = true := rfl
      rw [i1, i2, i3, i4]
      rfl
    have hmk : mkE 167772161 3 1 0 D0 = 0 := may_mk hmay (by decide) (by decide) (by decide) (by decide) (by decide) (by decide)
    have hqf := quote_facts hmk
    have hck := (once_may hmk (by decide)).1
    obtain ⟨R, hR⟩ : ∃ R, R = mkV 167772161 3 1 0 D0 := ⟨_, rfl⟩
    rw [← hR] at hqf hck
    have hRo : R.opt.length = 0 := hqf.2.2.2.2.2.2.2.2.2.2.2
    have hRd : R.dat.length ≤ 1000 := hqf.2.2.2.2.2.2.2.2.2.2.1
    have HR := Lib.hid (show pkkV 167772161 ⟨nul, 3, 1, 0, D0⟩ = R from hR.symm)
    have HRE := Lib.hid (show pkkE 167772161 ⟨nul, 3, 1, 0, D0⟩ = 0 from hmk)
    have HRC := Lib.hid hck
    have HRL := Lib.hid hRd
    have HRO : Hid (R.opt = []) := Lib.hid (List.eq_nil_of_length_eq_zero hRo)
    obtain ⟨F, hF⟩ : ∃ F, F = bld4 R := ⟨_, rfl⟩
    have hFl : F.length ≤ 1020 := by rw [hF, bld4_len]; omega
    have HF := Lib.hid hF
    have HFL : Hid (F.length ≤ 1000000) := Lib.hid (by omega)
    have hc := wr_chk (s := b0) (d := b1) (hop := 64) (b := F) (by decide) (by decide) (by omega)
    obtain ⟨q, hq⟩ : ∃ q, q = wrV b0 b1 64 F := ⟨_, rfl⟩
    have hq2 := hq.trans (wrV_ok hc)
    have HC := Lib.hid hc
    have HQ := Lib.hid hq
    have HCQ := Lib.hid (show chk6 q = 0 by rw [hq2]; exact hc)
    have HQS := Lib.hid (show q.src.length = 16 by rw [hq2]; exact h0)
    have HQD := Lib.hid (show q.dst.length = 16 by rw [hq2]; exact h1)
    have HQL := Lib.hid (show q.dat.length ≤ 1000000 by rw [hq2]; exact HFL.out)
    obtain ⟨T, hT⟩ : ∃ T, T = bld6 q := ⟨_, rfl⟩
    have HT := Lib.hid hT
    have hTl : T.length = 40 + F.length := by rw [hT, hq2, bld6_len _ h0 h1]; rfl
    have HTL : Hid (T.length ≤ 1000000) := Lib.hid (by omega)
    obtain ⟨V, hV⟩ : ∃ V, V = ofV b0 a3 x2.rest T := ⟨_, rfl⟩
    obtain ⟨E, hE⟩ : ∃ E, E = ofE b0 a3 T := ⟨_, rfl⟩
    obtain ⟨J, hJ⟩ : ∃ J, J = pkkE 3221225474 V := ⟨_, rfl⟩
    have HO : Hid (E = 0 → J = 11) := Lib.hid (fun h => by
      have := once_no (own := b0) (peer := b1) (k := a3) (r := x2.rest) (a := 3221225474) (F := F) (D := D0) (x := 167772161) h0 h1 hmk (by rw [hF, hR]) (by omega)
      rw [← hq2, ← hT, ← hE, ← hV, ← hJ] at this
      exact this h)
    have hvl := ofV_len b0 a3 x2.rest T
    have hvp := ofV_peer b0 a3 x2.rest T
    rw [← hV] at hvl hvp
    have HVP := Lib.hid hvp
    have HVL : Hid (V.inner.length ≤ 900000) := Lib.hid (by omega)
    obtain ⟨Y, hY⟩ : ∃ Y, Y = pkkV 3221225474 V := ⟨_, rfl⟩
    have HY := Lib.hid hY
    have HJ := Lib.hid hJ
    have OF : Hid (∀ U P5 p5 B, Arg U B P5 p5 T → B ≤ U.heap.size → Calls Try.prog 22 #[.agg (cel b0), isv ⟨a3, 0, x2.rest, T⟩ P5 p5] U fun e w' => ∃ P p, e = .returned (.tuple #[tlv V P p, .int .i64 E]) ∧ Made U w' (.slice P V.inner.length p) V.inner) := Lib.hid (fun U P5 p5 B hA hB => by
      have := cRof b0 ⟨a3, 0, x2.rest, T⟩ P5 p5 B U h0 hrest hA hB HTL.out
      dsimp only at this
      rw [← hV, ← hE] at this
      exact this)
    clear hD0 hu h4 hdl hmay hmk hqf hck hR hRo hRd hF hFl hc hq hq2 hT hTl hV hE hJ hvl hvp hY w2
    obtain ⟨hB, k1, k2, k3, z3⟩ := (three_boxes w (.cells (cel b0) 23) (.cells (cel b1) 23) (.cells (isa x2 A2 c2) 44))
    rw [isv_eq]
    go_enter Try.func8, Try.ntmps8
    go_upto_region 1 with fail
    generalize ((w.alloc (.cells (cel b0) 23)).alloc (.cells (cel b1) 23)).alloc (.cells (isa x2 A2 c2) 44) = W at *
    have r1 : W.rangeAt w.heap.size 0 (row b0) := range_heap k1
    have r2 : W.rangeAt (w.heap.size + 1) 0 (row b1) := range_heap k2
    have atm := Atis.of_heap k3
    have kd := atm.dat
    have kr := atm.rest
    have z1 : w.heap.size < W.heap.size := by omega
    have z2 : w.heap.size + 1 < W.heap.size := by omega
    clear k1 k2 k3 atm
    go_upto_region 4 with (first
      | (go_at_call 28; refine (PD.out _).mono ?_; rintro e w1 ⟨P, p, rfl, m1⟩; obtain ⟨_, _, e1, g1, _, x1⟩ := made_shape m1; cases e1)
      | (go_at_call 24; refine (cRpacket 167772161 ⟨nul, 3, 1, 0, D0⟩ P p w1.heap.size _ rfl g1 (Nat.le_refl _) HDL.out).mono ?_; rintro e w2 ⟨P2, p2, rfl, m2⟩; rw [HR.out] at m2; rw [HR.out, HRE.out])
      | ((with_reducible show wpList _ _ _ (Oper.mk _ (Op.store 28 _ _) _ _ _ _ :: _) _ _); refine v4_store_new (cs := v4a R none 0 P2 p2) rfl rfl rfl rfl (v4a_one _ _ _ _ _) ?_))
    have r1 := range_below r1 z1 x1
    have r2 := range_below r2 z2 x1
    have kr := (x1.cell (p := ⟨w.heap.size + 2, 2, none⟩) z3).trans kr
    have b1' := hB.trans (x1.mono hB.size)
    have zz := x1.size
    have z1 := Nat.lt_of_lt_of_le z1 zz
    have z2 := Nat.lt_of_lt_of_le z2 zz
    have z3 := Nat.lt_of_lt_of_le z3 zz
    clear m1 kd x1 zz g1
    obtain ⟨_, _, e2, g2, _, x2h⟩ := made_shape m2
    cases e2
    have kz2 := World.alloc_heap_new w2 (.cells (v4a R none 0 P2 p2) 28)
    have y2 : Below w1.heap.size w1 (w2.alloc (.cells (v4a R none 0 P2 p2) 28)) := x2h.trans (((Below.refl _ w2).alloc (Nat.le_refl _) _).mono x2h.size)
    have u2 : Below w2.heap.size w2 (w2.alloc (.cells (v4a R none 0 P2 p2) 28)) := (Below.refl _ w2).alloc (Nat.le_refl _) _
    generalize w2.alloc (.cells (v4a R none 0 P2 p2) 28) = X2 at *
    have g2 := (g2.below u2).more u2.size
    have r1 := range_below r1 z1 y2
    have r2 := range_below r2 z2 y2
    have b2' := b1'.trans (y2.mono b1'.size)
    have zz := y2.size
    have zk2 := heap_lt kz2
    have kr := (y2.cell (p := ⟨w.heap.size + 2, 2, none⟩) z3).trans kr
    have at2 := ofhE kz2
    have z1 := Nat.lt_of_lt_of_le z1 zz
    have z2 := Nat.lt_of_lt_of_le z2 zz
    have z3 := Nat.lt_of_lt_of_le z3 zz
    clear m2 x2h u2 y2 kz2 zz
    go_upto_region 5 with (first
      | ((with_reducible show wpList _ _ _ (Oper.mk _ (Op.load 28 _) _ _ _ _ :: _) _ _); refine wpList_val rfl (run_load_v4 rfl rfl at2 rfl) ?_)
      | (go_at_call 30; refine (r5build R none 0 P2 p2 _ X2.heap.size (by rw [HRO.out]; exact Arg.nil _ _) g2 (Nat.le_refl _) (by rw [HRO.out]; simp) (by have := HRL.out; omega)).mono ?_; rintro e w3 ⟨v3, rfl, _, m3⟩; have m3 := m3 HRC.out; rw [HRC.out]; rw [← HF.out] at m3; obtain ⟨P3, p3, rfl, g3, _, x3⟩ := made_shape m3))
    have r1 := range_below r1 z1 x3
    have r2 := range_below r2 z2 x3
    have kr := (x3.cell (p := ⟨w.heap.size + 2, 2, none⟩) z3).trans kr
    have b3' := b2'.trans (x3.mono b2'.size)
    have zz := x3.size
    have z1 := Nat.lt_of_lt_of_le z1 zz
    have z2 := Nat.lt_of_lt_of_le z2 zz
    have z3 := Nat.lt_of_lt_of_le z3 zz
    clear m3 at2 g2 x3 zz
    go_upto_region 6 with (first
      | ((with_reducible show wpList _ _ _ (Oper.mk (some 38) (Op.load 23 _) _ _ _ _ :: _) _ _); refine wpList_val rfl (run_load_six rfl rfl r1 h0) ?_)
      | ((with_reducible show wpList _ _ _ (Oper.mk (some 39) (Op.load 23 _) _ _ _ _ :: _) _ _); refine wpList_val rfl (run_load_six rfl rfl r2 h1) ?_)
      | (go_at_call 10; refine (cWwrap b0 b1 64 F P3 p3 w3.heap.size _ h0 h1 g3 (Nat.le_refl _) HFL.out).mono ?_; rintro e w4 ⟨P4, p4, rfl, m4⟩; rw [← HQ.out] at m4; rw [← HQ.out, HC.out])
      | ((with_reducible show wpList _ _ _ (Oper.mk _ (Op.store 26 _ _) _ _ _ _ :: _) _ _); refine v6_store_new (cs := v6a q P4 p4) rfl rfl rfl (by rw [v6a_size _ _ _ HQS.out HQD.out]) (v6a_one _ _ _) ?_))
    obtain ⟨_, _, e4, g4, _, x4⟩ := made_shape m4
    cases e4
    have kz4 := World.alloc_heap_new w4 (.cells (v6a q P4 p4) 26)
    have y4 : Below w3.heap.size w3 (w4.alloc (.cells (v6a q P4 p4) 26)) := x4.trans (((Below.refl _ w4).alloc (Nat.le_refl _) _).mono x4.size)
    have u4 : Below w4.heap.size w4 (w4.alloc (.cells (v6a q P4 p4) 26)) := (Below.refl _ w4).alloc (Nat.le_refl _) _
    generalize w4.alloc (.cells (v6a q P4 p4) 26) = X4 at *
    have g4 := (g4.below u4).more u4.size
    have r1 := range_below r1 z1 y4
    have r2 := range_below r2 z2 y4
    have b4' := b3'.trans (y4.mono b3'.size)
    have zz := y4.size
    have zk4 := heap_lt kz4
    have kr := (y4.cell (p := ⟨w.heap.size + 2, 2, none⟩) z3).trans kr
    have at4 : At6 X4 w4.heap.size q P4 p4 := range_heap kz4
    have z1 := Nat.lt_of_lt_of_le z1 zz
    have z2 := Nat.lt_of_lt_of_le z2 zz
    have z3 := Nat.lt_of_lt_of_le z3 zz
    clear m4 x4 u4 y4 kz4 g3 zz
    go_upto_region 7 with (first
      | ((with_reducible show wpList _ _ _ (Oper.mk _ (Op.load 26 _) _ _ _ _ :: _) _ _); refine wpList_val rfl (run_load_v6 rfl rfl at4 (v6l_len HQS.out HQD.out)) ?_)
      | (go_at_call 29; refine (c6build q P4 p4 _ X4.heap.size HQS.out HQD.out HQL.out g4 (Nat.le_refl _)).mono ?_; rintro e w5 ⟨v5, rfl, _, m5⟩; have m5 := m5 HCQ.out; rw [HCQ.out]; rw [← HT.out] at m5; obtain ⟨P5, p5, rfl, g5, _, x5⟩ := made_shape m5))
    have r1 := range_below r1 z1 x5
    have kr := (x5.cell (p := ⟨w.heap.size + 2, 2, none⟩) z3).trans kr
    have b5' := b4'.trans (x5.mono b4'.size)
    clear m5 at4 g4 x5 r2
    go_upto_region 10 with (first
      | ((with_reducible show wpList _ _ _ (Oper.mk (some 64) (Op.load 23 _) _ _ _ _ :: _) _ _); refine wpList_val rfl (run_load_six rfl rfl r1 h0) ?_)
      | (go_at_call 22; refine (OF.out _ P5 p5 _ g5 (Nat.le_refl _)).mono ?_; rintro e w6 ⟨P6, p6, rfl, m6⟩)
      | ((with_reducible show wpList _ _ _ (Oper.mk _ (Op.store 46 _ _) _ _ _ _ :: _) _ _); refine tc_store_new (cs := tla V P6 p6) rfl rfl rfl (tla_size HVP.out) (tla_one _ _ _) ?_))
    obtain ⟨_, _, e6, g6, _, x6⟩ := made_shape m6
    cases e6
    have kz6 := World.alloc_heap_new w6 (.cells (tla V P6 p6) 46)
    have y6 : Below w5.heap.size w5 (w6.alloc (.cells (tla V P6 p6) 46)) := x6.trans (((Below.refl _ w6).alloc (Nat.le_refl _) _).mono x6.size)
    have u6 : Below w6.heap.size w6 (w6.alloc (.cells (tla V P6 p6) 46)) := (Below.refl _ w6).alloc (Nat.le_refl _) _
    generalize w6.alloc (.cells (tla V P6 p6) 46) = X6 at *
    have g6 := (g6.below u6).more u6.size
    have b6' := b5'.trans (y6.mono b5'.size)
    have at6 : AtT X6 w6.heap.size V P6 p6 := range_heap kz6
    clear m6 x6 u6 y6 kz6 g5 kr r1
    go_upto_region 11 with (first
      | ((with_reducible show wpList _ _ _ (Oper.mk _ (Op.load 46 _) _ _ _ _ :: _) _ _); refine wpList_val rfl (run_load_tc rfl rfl at6 (tll_len HVP.out)) ?_)
      | (go_at_call 24; refine (cRpacket 3221225474 V P6 p6 X6.heap.size _ HVP.out g6 (Nat.le_refl _) HVL.out).mono ?_; rintro e w7 ⟨P7, p7, rfl, m7⟩; rw [← HY.out] at m7; rw [← HY.out, ← HJ.out])
      | ((with_reducible show wpList _ _ _ (Oper.mk _ (Op.store 28 _ _) _ _ _ _ :: _) _ _); refine v4_store_new (cs := v4a Y none 0 P7 p7) rfl rfl rfl rfl (v4a_one _ _ _ _ _) ?_))
    obtain ⟨_, _, e7, g7, _, x7⟩ := made_shape m7
    cases e7
    have kz7 := World.alloc_heap_new w7 (.cells (v4a Y none 0 P7 p7) 28)
    have y7 : Below X6.heap.size X6 (w7.alloc (.cells (v4a Y none 0 P7 p7) 28)) := x7.trans (((Below.refl _ w7).alloc (Nat.le_refl _) _).mono x7.size)
    have u7 : Below w7.heap.size w7 (w7.alloc (.cells (v4a Y none 0 P7 p7) 28)) := (Below.refl _ w7).alloc (Nat.le_refl _) _
    generalize w7.alloc (.cells (v4a Y none 0 P7 p7) 28) = X7 at *
    have b7' := b6'.trans (y7.mono b6'.size)
    clear m7 x7 u7 y7 kz7 g6 at6
    by_cases hE : E = 0
    · have dE : (E != 0) = false := by simp [hE]
      have dJ : (J == 11) = true := by rw [HO.out hE]; rfl
      clear hE
      go_wp2_with (go_at_call 21; refine (awake30 _).mono ?_; rintro e w10 ⟨rfl, b10⟩)
      go_ret
      exact ⟨rfl, b7'.trans (b10.mono b7'.size)⟩
    · have dE : (E != 0) = true := by simpa using hE
      clear hE
      go_wp2_with (go_at_call 21; refine (awake30 _).mono ?_; rintro e w10 ⟨rfl, b10⟩)
      go_ret
      exact ⟨rfl, b7'.trans (b10.mono b7'.size)⟩

/-! ### The row's step -/
set_option maxRecDepth 100000 in
theorem lifted (os : Os) (started : os.Started) (H : Type) (enc : TypeId × Value → H) :
    ReturnsInHanded {} Try.checked os 8 .any (Rows.relayOnceSpec.pre6 enc Try.prog Try.f8 Rows.relayOnceRow.domain false) (Rows.relayOnceSpec.post enc Try.prog Try.f8 false true false false) := by
  refine returnsInHanded_of_change (C := Try.checked) own started (by kernel_rfl) Try.func8
    (ChangeSpec.witness6 (enc := enc) (C := Try.checked) false ⟨#[], #[.agg #[.int .u8 0, .int .u8 0, .int .u8 0, .int .u8 0, .int .u8 0, .int .u8 0, .int .u8 0, .int .u8 0, .int .u8 0, .int .u8 0, .int .u8 0, .int .u8 0, .int .u8 0, .int .u8 0, .int .u8 0, .int .u8 0], .agg #[.int .u8 0, .int .u8 0, .int .u8 0, .int .u8 0, .int .u8 0, .int .u8 0, .int .u8 0, .int .u8 0, .int .u8 0, .int .u8 0, .int .u8 0, .int .u8 0, .int .u8 0, .int .u8 0, .int .u8 0, .int .u8 0], .agg #[.int .i64 0, .int .i64 0, .int .i64 0, .slice none 0 0], .int .u8 0], []⟩ 8 (by kernel_rfl) (by kernel_rfl) (by kernel_rfl) (by kernel_rfl)) ?_
  intro W base args ds gs before hval0 hW hcnd _
  have hval : ∀ (j : Nat) t v, Try.f8.params[j]? = some t → args[j]? = some v → Value.okWide Try.prog W .any base t v := hval0
  have hW' := hW
  obtain ⟨p, q, hA0, hV, rfl, hfz, hnd⟩ := hW
  have hA : DataW.TrodAll enc Try.prog W 0 (fun _ => true) true Try.f8.params.toList args.toList ds p := hA0
  rw [Try.params8] at hA hval
  obtain ⟨v0, vs0, d0, ds0, p0, q0, hargs, rfl, rfl, t0, r0⟩ := trodAll_cons hA
  obtain ⟨v1, vs1, d1, ds1, p1, q1, rfl, rfl, rfl, t1, r1⟩ := trodAll_cons r0
  obtain ⟨v2, vs2, d2, ds2, p2, q2, rfl, rfl, rfl, t2, r2⟩ := trodAll_cons r1
  obtain ⟨v3, vs3, d3, ds3, p3, q3, rfl, rfl, rfl, t3, r3⟩ := trodAll_cons r2
  obtain ⟨rfl, rfl, rfl⟩ := trodAll_nil r3
  obtain rfl : args = #[v0, v1, v2, v3] := by cases args; simp_all
  obtain ⟨rfl, rfl⟩ := trodVars_none hV
  have k0 := t0
  have lt0 := Trod_lt t0
  have k1 := t1
  have lt1 := Trod_lt t1
  have k2 := t2
  have lt2 := Trod_lt t2
  have k3 := t3
  have lt3 := Trod_lt t3
  obtain ⟨b0, rfl, h0⟩ := get_six Try.underlying23 Try.underlying5 (by kernel_rfl) (by kernel_rfl) (hval 0 23 v0 rfl rfl) t0
  obtain ⟨b1, rfl, h1⟩ := get_six Try.underlying23 Try.underlying5 (by kernel_rfl) (by kernel_rfl) (hval 1 23 v1 rfl rfl) t1
  obtain ⟨x2, A2, c2, rfl, h2, m2, w2⟩ := get_is (hval 2 44 v2 rfl rfl) t2
  obtain ⟨a3, rfl, w3⟩ := get_int Try.underlying5 (hval 3 5 v3 rfl rfl) t3
  clear hA0 hval0
  refine (walk b0 b1 x2 A2 c2 a3 W h0 h1 h2 m2 w2 w3).mono fun e W' ⟨he, bel⟩ => ?_
  subst he
  exact ⟨_, rfl, _, _, _, [], _, [], hW', trodAll_mk1 (shut_bool Try.underlying4 _), (trodAll_cons_mk (Below.trod laidOut (by kernel_rfl) (of_decide_eq_true (by kernel_rfl)) k0 bel lt0) (trodAll_cons_mk (Below.trod laidOut (by kernel_rfl) (of_decide_eq_true (by kernel_rfl)) k1 bel lt1) (trodAll_cons_mk (Below.trod laidOut (by kernel_rfl) (of_decide_eq_true (by kernel_rfl)) k2 bel lt2) (trodAll_cons_mk (Below.trod laidOut (by kernel_rfl) (of_decide_eq_true (by kernel_rfl)) k3 bel lt3) trodAll_mk0)))), rfl, bel.frame _, fun h => by cases h⟩

theorem over : Rows.relayOnceRow.holds Try.pinned (OpenSpec.ofChange Rows.relayOnceSpec) :=
  OpenClaim.holds_of_wide 8 Try.f8 rfl rfl rfl rfl rfl rfl rfl ⟨rfl, rfl, rfl, rfl, rfl⟩ rfl rfl rfl rfl rfl (by kernel_rfl) Try.func8 (by kernel_rfl)
    (of_decide_eq_true (by kernel_rfl)) (by unfold Func.isWrapper; first | (rw [if_pos (by decide +kernel)]; kernel_rfl) | (rw [if_neg (by decide +kernel)]; exact ⟨rfl, rfl⟩))
    (fun os started H enc _ => lifted os started H enc)

theorem proved : Rows.RelayOnceSaid := over
end Go.Proofs.Ytkfbamippjhjcaa.relayOnce
