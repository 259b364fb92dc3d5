/-
  For all addresses, numbers, bytes and packets goosepondlaw29.WrapTells answers true: any bytes wrapped, any packet unwrapped, and gone one further, and how much goes within any size, is what the document says, or refused. Conditions: none but the statement's own.
-/
import Derived.Test.YtkfbamippjhjcaaRows
import Derived.WalkKit
import Derived.ProofKit
import Derived.OpenShut
import Derived.ChangeOld
import Derived.Below
import Derived.Test.YtkfbamippjhjcaaRa2
import Derived.Test.YtkfbamippjhjcaaRa15
namespace Go.Proofs.Ytkfbamippjhjcaa.wrapTells
open Go.ChangeShapes Go.WideShapes Go.ChangeAt Go.RowKit
set_option linter.unusedVariables false
attribute [local go_sem] Oper.semAt_some

theorem own : ownKnob Try.prog.godebug = none := by kernel_rfl
theorem laidOut : laidOutB Try.prog = true := by kernel_rfl

/-! ### The walk -/
set_option maxRecDepth 100000 in
set_option maxHeartbeats 4000000 in
theorem walk (b0 : List UInt8) (b1 : List UInt8) (a2 : Int) (A3 : Option Addr) (c3 : Nat) (b3 : List UInt8) (x4 : P6) (A4 : Option Addr) (c4 : Nat) (x5 : P4) (A5 : Option Addr) (c5 : Nat) (A5' : Option Addr) (c5' : Nat) (w : World) (h0 : b0.length = 16) (h1 : b1.length = 16) (w2 : (Lit.int .i64 a2).wf = true) (h3 : Arg w w.heap.size A3 c3 b3) (m3 : c3 ≤ maxLen) (h4 : Arg w w.heap.size A4 c4 x4.dat) (m4 : c4 ≤ maxLen) (w4 : x4.fits) (s4 : x4.src.length = 16) (e4 : x4.dst.length = 16) (h5 : Arg w w.heap.size A5 c5 x5.opt) (h5' : Arg w w.heap.size A5' c5' x5.dat) (m5 : c5 ≤ maxLen) (m5' : c5' ≤ maxLen) (w5 : x5.fits) :
    Calls Try.prog 3 #[.agg (cel b0), .agg (cel b1), .int .i64 a2, .slice A3 b3.length c3, v6v x4 A4 c4, v4v x5 A5 c5 A5' c5'] w fun e w' => e = .returned (.bool true) ∧ Below w.heap.size w w' := by
  by_cases g3 : 3000 < b3.length
  · have d3 : decide (3000 < (b3.length : Int)) = true := by simp; omega
    have k6 : ((((w.alloc (.cells (cel b0) 23)).alloc (.cells (cel b1) 23)).alloc (.cells (v6a x4 A4 c4) 26)).alloc (.cells (v4a x5 A5 c5 A5' c5') 28)).cell? ⟨w.heap.size + 2, 36, none⟩ = some (.slice A4 x4.dat.length c4) := At6.dat (range_heap (four_boxes w (.cells (cel b0) 23) (.cells (cel b1) 23) (.cells (v6a x4 A4 c4) 26) (.cells (v4a x5 A5 c5 A5' c5') 28)).2.2.2.1) s4 e4
    have at4 := ofhE (four_boxes w (.cells (cel b0) 23) (.cells (cel b1) 23) (.cells (v6a x4 A4 c4) 26) (.cells (v4a x5 A5 c5 A5' c5') 28)).2.2.2.2.1
    have k9 := at4.opt
    have k10 := at4.dat
    have hB := (four_boxes w (.cells (cel b0) 23) (.cells (cel b1) 23) (.cells (v6a x4 A4 c4) 26) (.cells (v4a x5 A5 c5 A5' c5') 28)).1
    clear at4
    rw [v4q_eqR]
    unfold v6v
    rw [show (v6l x4 A4 c4).toArray = v6a x4 A4 c4 from rfl]
    go_enter Try.func3, Try.ntmps3
    go_upto_region 1 with fail
    generalize (((w.alloc (.cells (cel b0) 23)).alloc (.cells (cel b1) 23)).alloc (.cells (v6a x4 A4 c4) 26)).alloc (.cells (v4a x5 A5 c5 A5' c5') 28) = W at *
    go_wp2_with (go_at_call 9; refine (awake29 _).mono ?_; rintro e w10 ⟨rfl, b10⟩)
    go_ret
    exact ⟨rfl, hB.trans (b10.mono hB.size)⟩
  by_cases g4 : 3000 < x4.dat.length
  · have d3 : decide (3000 < (b3.length : Int)) = false := by simp; omega
    have d4 : decide (3000 < (x4.dat.length : Int)) = true := by simp; omega
    have k6 : ((((w.alloc (.cells (cel b0) 23)).alloc (.cells (cel b1) 23)).alloc (.cells (v6a x4 A4 c4) 26)).alloc (.cells (v4a x5 A5 c5 A5' c5') 28)).cell? ⟨w.heap.size + 2, 36, none⟩ = some (.slice A4 x4.dat.length c4) := At6.dat (range_heap (four_boxes w (.cells (cel b0) 23) (.cells (cel b1) 23) (.cells (v6a x4 A4 c4) 26) (.cells (v4a x5 A5 c5 A5' c5') 28)).2.2.2.1) s4 e4
    have at4 := ofhE (four_boxes w (.cells (cel b0) 23) (.cells (cel b1) 23) (.cells (v6a x4 A4 c4) 26) (.cells (v4a x5 A5 c5 A5' c5') 28)).2.2.2.2.1
    have k9 := at4.opt
    have k10 := at4.dat
    have hB := (four_boxes w (.cells (cel b0) 23) (.cells (cel b1) 23) (.cells (v6a x4 A4 c4) 26) (.cells (v4a x5 A5 c5 A5' c5') 28)).1
    clear at4
    rw [v4q_eqR]
    unfold v6v
    rw [show (v6l x4 A4 c4).toArray = v6a x4 A4 c4 from rfl]
    go_enter Try.func3, Try.ntmps3
    go_upto_region 1 with fail
    generalize (((w.alloc (.cells (cel b0) 23)).alloc (.cells (cel b1) 23)).alloc (.cells (v6a x4 A4 c4) 26)).alloc (.cells (v4a x5 A5 c5 A5' c5') 28) = W at *
    go_wp2_with (go_at_call 9; refine (awake29 _).mono ?_; rintro e w10 ⟨rfl, b10⟩)
    go_ret
    exact ⟨rfl, hB.trans (b10.mono hB.size)⟩
  by_cases g5 : 3000 < x5.dat.length
  · have d3 : decide (3000 < (b3.length : Int)) = false := by simp; omega
    have d4 : decide (3000 < (x4.dat.length : Int)) = false := by simp; omega
    have d5 : decide (3000 < (x5.dat.length : Int)) = true := by simp; omega
    have k6 : ((((w.alloc (.cells (cel b0) 23)).alloc (.cells (cel b1) 23)).alloc (.cells (v6a x4 A4 c4) 26)).alloc (.cells (v4a x5 A5 c5 A5' c5') 28)).cell? ⟨w.heap.size + 2, 36, none⟩ = some (.slice A4 x4.dat.length c4) := At6.dat (range_heap (four_boxes w (.cells (cel b0) 23) (.cells (cel b1) 23) (.cells (v6a x4 A4 c4) 26) (.cells (v4a x5 A5 c5 A5' c5') 28)).2.2.2.1) s4 e4
    have at4 := ofhE (four_boxes w (.cells (cel b0) 23) (.cells (cel b1) 23) (.cells (v6a x4 A4 c4) 26) (.cells (v4a x5 A5 c5 A5' c5') 28)).2.2.2.2.1
    have k9 := at4.opt
    have k10 := at4.dat
    have hB := (four_boxes w (.cells (cel b0) 23) (.cells (cel b1) 23) (.cells (v6a x4 A4 c4) 26) (.cells (v4a x5 A5 c5 A5' c5') 28)).1
    clear at4
    rw [v4q_eqR]
    unfold v6v
    rw [show (v6l x4 A4 c4).toArray = v6a x4 A4 c4 from rfl]
    go_enter Try.func3, Try.ntmps3
    go_upto_region 1 with fail
    generalize (((w.alloc (.cells (cel b0) 23)).alloc (.cells (cel b1) 23)).alloc (.cells (v6a x4 A4 c4) 26)).alloc (.cells (v4a x5 A5 c5 A5' c5') 28) = W at *
    go_wp2_with (go_at_call 9; refine (awake29 _).mono ?_; rintro e w10 ⟨rfl, b10⟩)
    go_ret
    exact ⟨rfl, hB.trans (b10.mono hB.size)⟩
  by_cases g6 : 200 < x5.opt.length
  · have d3 : decide (3000 < (b3.length : Int)) = false := by simp; omega
    have d4 : decide (3000 < (x4.dat.length : Int)) = false := by simp; omega
    have d5 : decide (3000 < (x5.dat.length : Int)) = false := by simp; omega
    have d6 : decide (200 < (x5.opt.length : Int)) = true := by simp; omega
    have k6 : ((((w.alloc (.cells (cel b0) 23)).alloc (.cells (cel b1) 23)).alloc (.cells (v6a x4 A4 c4) 26)).alloc (.cells (v4a x5 A5 c5 A5' c5') 28)).cell? ⟨w.heap.size + 2, 36, none⟩ = some (.slice A4 x4.dat.length c4) := At6.dat (range_heap (four_boxes w (.cells (cel b0) 23) (.cells (cel b1) 23) (.cells (v6a x4 A4 c4) 26) (.cells (v4a x5 A5 c5 A5' c5') 28)).2.2.2.1) s4 e4
    have at4 := ofhE (four_boxes w (.cells (cel b0) 23) (.cells (cel b1) 23) (.cells (v6a x4 A4 c4) 26) (.cells (v4a x5 A5 c5 A5' c5') 28)).2.2.2.2.1
    have k9 := at4.opt
    have k10 := at4.dat
    have hB := (four_boxes w (.cells (cel b0) 23) (.cells (cel b1) 23) (.cells (v6a x4 A4 c4) 26) (.cells (v4a x5 A5 c5 A5' c5') 28)).1
    clear at4
    rw [v4q_eqR]
    unfold v6v
    rw [show (v6l x4 A4 c4).toArray = v6a x4 A4 c4 from rfl]
    go_enter Try.func3, Try.ntmps3
    go_upto_region 1 with fail
    generalize (((w.alloc (.cells (cel b0) 23)).alloc (.cells (cel b1) 23)).alloc (.cells (v6a x4 A4 c4) 26)).alloc (.cells (v4a x5 A5 c5 A5' c5') 28) = W at *
    go_wp2_with (go_at_call 9; refine (awake29 _).mono ?_; rintro e w10 ⟨rfl, b10⟩)
    go_ret
    exact ⟨rfl, hB.trans (b10.mono hB.size)⟩
  have d3 : decide (3000 < (b3.length : Int)) = false := by simp; omega
  have d4 : decide (3000 < (x4.dat.length : Int)) = false := by simp; omega
  have d5 : decide (3000 < (x5.dat.length : Int)) = false := by simp; omega
  have d6 : decide (200 < (x5.opt.length : Int)) = false := by simp; omega
  have L3 := Lib.hid (show b3.length ≤ 1000000 by omega)
  have L4 := Lib.hid (show x4.dat.length ≤ 1000000 by omega)
  have L5 := Lib.hid (show x5.dat.length ≤ 900000 by omega)
  have L6 := Lib.hid (show x5.opt.length ≤ 1000000 by omega)
  have ht : (Lit.int .i64 x5.ttl).wf = true := w5 _ (by simp)
  have HT := Lib.hid ht
  clear g3 g4 g5 g6 ht
  obtain ⟨q, hq⟩ : ∃ x, x = wrV b0 b1 a2 b3 := ⟨_, rfl⟩
  obtain ⟨E, hE⟩ : ∃ x, x = chk6 (wrP b0 b1 a2 b3) := ⟨_, rfl⟩
  obtain ⟨u, hu⟩ : ∃ x, x = uwV x4 := ⟨_, rfl⟩
  obtain ⟨F, hF⟩ : ∃ x, x = uwE x4 := ⟨_, rfl⟩
  obtain ⟨r, hr⟩ : ∃ x, x = hpV x5 := ⟨_, rfl⟩
  obtain ⟨Z, hZ⟩ : ∃ x, x = hpB x5 := ⟨_, rfl⟩
  obtain ⟨M, hM⟩ : ∃ x, x = roomI a2 := ⟨_, rfl⟩
  have h16 := wrV_six (s := b0) (d := b1) a2 b3 h0 h1
  rw [← hq] at h16
  have HPS := Lib.hid h16.1
  have HPD := Lib.hid h16.2
  have HQ := Lib.hid hq
  have HE := Lib.hid hE
  have HU := Lib.hid hu
  have HF := Lib.hid hF
  have HR := Lib.hid hr
  have HZ := Lib.hid hZ
  have HM := Lib.hid hM
  have dE : (E == E) = true := beq_self_eq_true E
  have dF : (F == F) = true := beq_self_eq_true F
  have dZ : (Z == Z) = true := beq_self_eq_true Z
  have dM : (M == M) = true := beq_self_eq_true M
  have S6 := Lib.hid (same6_iff.2 (rfl : q = q))
  have S4 := Lib.hid (same4_iff.2 (rfl : r = r))
  clear hq hE hu hF hr hZ hM h16
  obtain ⟨hB, k1, k2, k3, k4, z4⟩ := (four_boxes w (.cells (cel b0) 23) (.cells (cel b1) 23) (.cells (v6a x4 A4 c4) 26) (.cells (v4a x5 A5 c5 A5' c5') 28))
  have HA2 := Lib.hid w2
  have H3 := Lib.hid h3
  have H4 := Lib.hid h4
  have H5 := Lib.hid h5
  have H6 := Lib.hid h5'
  clear h3 h4 h5 h5' w5 w4
  rw [v4q_eqR]
  unfold v6v
  rw [show (v6l x4 A4 c4).toArray = v6a x4 A4 c4 from rfl]
  go_enter Try.func3, Try.ntmps3
  go_upto_region 1 with fail
  generalize (((w.alloc (.cells (cel b0) 23)).alloc (.cells (cel b1) 23)).alloc (.cells (v6a x4 A4 c4) 26)).alloc (.cells (v4a x5 A5 c5 A5' c5') 28) = W at *
  have r1 : W.rangeAt w.heap.size 0 (row b0) := range_heap k1
  have r2 : W.rangeAt (w.heap.size + 1) 0 (row b1) := range_heap k2
  have r3 : At6 W (w.heap.size + 2) x4 A4 c4 := range_heap k3
  have r4 := ofhE k4
  have k6 := At6.dat r3 s4 e4
  have k9 := r4.opt
  have k10 := r4.dat
  have z1 : w.heap.size < W.heap.size := by omega
  have z2 : w.heap.size + 1 < W.heap.size := by omega
  have z3 : w.heap.size + 2 < W.heap.size := by omega
  clear k1 k2 k3 k4
  go_upto_region 4 with (first
    | ((with_reducible show wpList _ _ _ (Oper.mk (some 48) (Op.load 23 _) _ _ _ _ :: _) _ _); refine wpList_val rfl (run_load_six rfl rfl r1 h0) ?_)
    | ((with_reducible show wpList _ _ _ (Oper.mk (some 49) (Op.load 23 _) _ _ _ _ :: _) _ _); refine wpList_val rfl (run_load_six rfl rfl r2 h1) ?_)
    | (go_at_call 10; refine (cWwrap b0 b1 a2 b3 A3 c3 w.heap.size _ h0 h1 (H3.out.below hB) hB.size L3.out).mono ?_; rintro e w1 ⟨P, p, rfl, m1⟩; rw [← HQ.out] at m1; rw [← HQ.out, ← HE.out])
    | ((with_reducible show wpList _ _ _ (Oper.mk _ (Op.store 26 _ _) _ _ _ _ :: _) _ _); refine v6_store_new (cs := v6a q P p) rfl rfl rfl (by rw [v6a_size _ _ _ HPS.out HPD.out]) (v6a_one _ _ _) ?_))
  obtain ⟨_, _, e1, g1, _, x1⟩ := made_shape m1
  cases e1
  have kz1 := World.alloc_heap_new w1 (.cells (v6a q P p) 26)
  have y1 : Below W.heap.size W (w1.alloc (.cells (v6a q P p) 26)) := x1.trans (((Below.refl _ w1).alloc (Nat.le_refl _) _).mono x1.size)
  have u1 : Below w1.heap.size w1 (w1.alloc (.cells (v6a q P p) 26)) := (Below.refl _ w1).alloc (Nat.le_refl _) _
  generalize w1.alloc (.cells (v6a q P p) 26) = X1 at *
  have at1 : At6 X1 w1.heap.size q P p := range_heap kz1
  have g1 := (g1.below u1).more u1.size
  have zk1 := heap_lt kz1
  have j1 := y1
  have b1' := hB.trans (j1.mono hB.size)
  clear m1 x1 u1 y1 kz1 k6 k9 k10
  go_upto_region 5 with (first
    | ((with_reducible show wpList _ _ _ (Oper.mk (some 56) (Op.load 23 _) _ _ _ _ :: _) _ _); refine wpList_val rfl (run_load_six rfl rfl (range_below r1 z1 j1) h0) ?_)
    | ((with_reducible show wpList _ _ _ (Oper.mk (some 57) (Op.load 23 _) _ _ _ _ :: _) _ _); refine wpList_val rfl (run_load_six rfl rfl (range_below r2 z2 j1) h1) ?_)
    | (go_at_call 11; refine (rWwrap b0 b1 a2 b3 A3 c3 w.heap.size _ h0 h1 (H3.out.below b1') b1'.size L3.out).mono ?_; rintro e w2 ⟨Q, p2, rfl, m2⟩; rw [← HQ.out] at m2; rw [← HQ.out, ← HE.out])
    | ((with_reducible show wpList _ _ _ (Oper.mk _ (Op.store 26 _ _) _ _ _ _ :: _) _ _); refine v6_store_new (cs := v6a q Q p2) rfl rfl rfl (by rw [v6a_size _ _ _ HPS.out HPD.out]) (v6a_one _ _ _) ?_))
  obtain ⟨_, _, e2, g2, _, x2⟩ := made_shape m2
  cases e2
  have kz2 := World.alloc_heap_new w2 (.cells (v6a q Q p2) 26)
  have y2 : Below X1.heap.size X1 (w2.alloc (.cells (v6a q Q p2) 26)) := x2.trans (((Below.refl _ w2).alloc (Nat.le_refl _) _).mono x2.size)
  have u2 : Below w2.heap.size w2 (w2.alloc (.cells (v6a q Q p2) 26)) := (Below.refl _ w2).alloc (Nat.le_refl _) _
  generalize w2.alloc (.cells (v6a q Q p2) 26) = X2 at *
  have at2 : At6 X2 w2.heap.size q Q p2 := range_heap kz2
  have g2 := (g2.below u2).more u2.size
  have zk2 := heap_lt kz2
  have at1 := at1.below y2 zk1
  have zk1 := Nat.lt_of_lt_of_le zk1 y2.size
  have g1 := (g1.below y2).more y2.size
  have j2 := j1.trans (y2.mono j1.size)
  have b2' := hB.trans (j2.mono hB.size)
  clear m2 x2 u2 y2 kz2 b1' j1
  go_upto_region 6 with (first
    | ((with_reducible show wpList _ _ _ (Oper.mk (some 64) (Op.load 26 _) _ _ _ _ :: _) _ _); refine wpList_val rfl (run_load_v6 rfl rfl (At6.below r3 j2 z3) (v6l_len s4 e4)) ?_)
    | (go_at_call 12; refine (cWunwrap x4 A4 c4 w.heap.size _ s4 e4 (H4.out.below b2') b2'.size L4.out).mono ?_; rintro e w3 ⟨U, p3, rfl, m3⟩; rw [← HU.out] at m3; rw [← HU.out, ← HF.out]))
  obtain ⟨_, _, e3, g3, _, x3⟩ := made_shape m3
  cases e3
  have at1 := at1.below x3 zk1
  have at2 := at2.below x3 zk2
  have zk1 := Nat.lt_of_lt_of_le zk1 x3.size
  have zk2 := Nat.lt_of_lt_of_le zk2 x3.size
  have g1 := (g1.below x3).more x3.size
  have g2 := (g2.below x3).more x3.size
  have j3 := j2.trans (x3.mono j2.size)
  have b3' := hB.trans (j3.mono hB.size)
  clear m3 x3 b2' j2
  go_upto_region 7 with (first
    | ((with_reducible show wpList _ _ _ (Oper.mk (some 69) (Op.load 26 _) _ _ _ _ :: _) _ _); refine wpList_val rfl (run_load_v6 rfl rfl (At6.below r3 j3 z3) (v6l_len s4 e4)) ?_)
    | (go_at_call 13; refine (rWunwrap x4 A4 c4 w.heap.size _ s4 e4 (H4.out.below b3') b3'.size L4.out).mono ?_; rintro e w4 ⟨T, p4, rfl, m4⟩; rw [← HU.out] at m4; rw [← HU.out, ← HF.out]))
  obtain ⟨_, _, e4, g4, _, x4⟩ := made_shape m4
  cases e4
  have at1 := at1.below x4 zk1
  have at2 := at2.below x4 zk2
  have zk1 := Nat.lt_of_lt_of_le zk1 x4.size
  have zk2 := Nat.lt_of_lt_of_le zk2 x4.size
  have g1 := (g1.below x4).more x4.size
  have g2 := (g2.below x4).more x4.size
  have g3 := (g3.below x4).more x4.size
  have j4 := j3.trans (x4.mono j3.size)
  have b4' := hB.trans (j4.mono hB.size)
  clear m4 x4 b3' j3
  go_upto_region 8 with (first
    | ((with_reducible show wpList _ _ _ (Oper.mk (some 74) (Op.load 28 _) _ _ _ _ :: _) _ _); refine wpList_val rfl (run_load_v4 rfl rfl (At4.below r4 j4 z4) rfl) ?_)
    | (go_at_call 14; refine (cWhop x5 A5 c5 A5' c5' _ L6.out L5.out HT.out w.heap.size (H5.out.below b4') (H6.out.below b4') b4'.size).mono ?_; rintro e w5 ⟨O, o, D, d, rfl, mo, md⟩; rw [← HR.out] at mo md; rw [← HR.out, ← HZ.out])
    | ((with_reducible show wpList _ _ _ (Oper.mk _ (Op.store 28 _ _) _ _ _ _ :: _) _ _); refine v4_store_new (cs := v4a r O o D d) rfl rfl rfl rfl (v4a_one _ _ _ _ _) ?_))
  obtain ⟨_, _, eo, go5, _, x5h⟩ := made_shape mo
  cases eo
  obtain ⟨_, _, ed, gd5, _, _⟩ := made_shape md
  cases ed
  have kz5 := World.alloc_heap_new w5 (.cells (v4a r O o D d) 28)
  have y5 : Below w4.heap.size w4 (w5.alloc (.cells (v4a r O o D d) 28)) := x5h.trans (((Below.refl _ w5).alloc (Nat.le_refl _) _).mono x5h.size)
  have u5 : Below w5.heap.size w5 (w5.alloc (.cells (v4a r O o D d) 28)) := (Below.refl _ w5).alloc (Nat.le_refl _) _
  generalize w5.alloc (.cells (v4a r O o D d) 28) = X5 at *
  have go5 := (go5.below u5).more u5.size
  have gd5 := (gd5.below u5).more u5.size
  have zk5 := heap_lt kz5
  have at1 := at1.below y5 zk1
  have at2 := at2.below y5 zk2
  have zk1 := Nat.lt_of_lt_of_le zk1 y5.size
  have zk2 := Nat.lt_of_lt_of_le zk2 y5.size
  have g1 := (g1.below y5).more y5.size
  have g2 := (g2.below y5).more y5.size
  have g3 := (g3.below y5).more y5.size
  have g4 := (g4.below y5).more y5.size
  have j5 := j4.trans (y5.mono j4.size)
  have b5' := hB.trans (j5.mono hB.size)
  clear mo md x5h u5 y5 b4' j4
  go_upto_region 9 with (first
    | ((with_reducible show wpList _ _ _ (Oper.mk (some 79) (Op.load 28 _) _ _ _ _ :: _) _ _); refine wpList_val rfl (run_load_v4 rfl rfl (At4.below r4 j5 z4) rfl) ?_)
    | (go_at_call 15; refine (rWhop x5 A5 c5 A5' c5' _ L6.out L5.out HT.out w.heap.size (H5.out.below b5') (H6.out.below b5') b5'.size).mono ?_; rintro e w6 ⟨O6, o6, D6, d6, rfl, mo, md⟩; rw [← HR.out] at mo md; rw [← HR.out, ← HZ.out])
    | ((with_reducible show wpList _ _ _ (Oper.mk _ (Op.store 28 _ _) _ _ _ _ :: _) _ _); refine v4_store_new (cs := v4a r O6 o6 D6 d6) rfl rfl rfl rfl (v4a_one _ _ _ _ _) ?_))
  obtain ⟨_, _, eo, go6, _, x6⟩ := made_shape mo
  cases eo
  obtain ⟨_, _, ed, gd6, _, _⟩ := made_shape md
  cases ed
  have kz6 := World.alloc_heap_new w6 (.cells (v4a r O6 o6 D6 d6) 28)
  have y6 : Below X5.heap.size X5 (w6.alloc (.cells (v4a r O6 o6 D6 d6) 28)) := x6.trans (((Below.refl _ w6).alloc (Nat.le_refl _) _).mono x6.size)
  have u6 : Below w6.heap.size w6 (w6.alloc (.cells (v4a r O6 o6 D6 d6) 28)) := (Below.refl _ w6).alloc (Nat.le_refl _) _
  generalize w6.alloc (.cells (v4a r O6 o6 D6 d6) 28) = X6 at *
  have go6 := (go6.below u6).more u6.size
  have gd6 := (gd6.below u6).more u6.size
  have zk6 := heap_lt kz6
  have at1 := at1.below y6 zk1
  have at2 := at2.below y6 zk2
  have zk1 := Nat.lt_of_lt_of_le zk1 y6.size
  have zk2 := Nat.lt_of_lt_of_le zk2 y6.size
  have g1 := (g1.below y6).more y6.size
  have g2 := (g2.below y6).more y6.size
  have g3 := (g3.below y6).more y6.size
  have g4 := (g4.below y6).more y6.size
  have q6 := y6.size
  have at5 := ofhE ((y6.block _ zk5).trans kz5)
  have at6 := ofhE kz6
  have go5 := (go5.below y6).more y6.size
  have gd5 := (gd5.below y6).more y6.size
  have j6 := j5.trans (y6.mono j5.size)
  have b6' := hB.trans (j6.mono hB.size)
  clear mo md x6 u6 y6 b5' j5 r1 r2 r3 r4
  go_wp2_with (first
    | ((with_reducible show wpList _ _ _ (Oper.mk (some 87) (Op.load 26 _) _ _ _ _ :: _) _ _); refine wpList_valg (by rfl) (run_load_v6 rfl rfl at1 (v6l_len HPS.out HPD.out)) ?_)
    | ((with_reducible show wpList _ _ _ (Oper.mk (some 88) (Op.load 26 _) _ _ _ _ :: _) _ _); refine wpList_valg (by rfl) (run_load_v6 rfl rfl at2 (v6l_len HPS.out HPD.out)) ?_)
    | (go_at_call 16; refine (r6same q q P p Q p2 X6.heap.size _ HPS.out HPD.out HPS.out HPD.out (Nat.le_refl _) g1.rd g2.rd).mono ?_; rintro e w7 ⟨rfl, x7⟩; rw [S6.out]; have at5 := at5.below x7 (Nat.lt_of_lt_of_le zk5 q6); have at6 := at6.below x7 zk6; have b7 := b6'.trans (x7.mono b6'.size))
    | (go_at_call 17; refine (equal_any U T u u p3 p4 _ _ _ (g3.below x7).rd (g4.below x7).rd).mono ?_; rintro e w8 ⟨rfl, rfl⟩; rw [decide_eq_true (rfl : u = u)])
    | ((with_reducible show wpList _ _ _ (Oper.mk (some 107) (Op.load 28 _) _ _ _ _ :: _) _ _); refine wpList_valg (by rfl) (run_load_v4 rfl rfl at5 rfl) ?_)
    | ((with_reducible show wpList _ _ _ (Oper.mk (some 108) (Op.load 28 _) _ _ _ _ :: _) _ _); refine wpList_valg (by rfl) (run_load_v4 rfl rfl at6 rfl) ?_)
    | (go_at_call 18; refine (r5same r r O o D d O6 o6 D6 d6 X6.heap.size _ x7.size (go5.below x7).rd (gd5.below x7).rd (go6.below x7).rd (gd6.below x7).rd).mono ?_; rintro e w9 ⟨rfl, x9⟩; rw [S4.out]; have b9 := b7.trans (x9.mono b7.size))
    | (go_at_call 19; refine (cWroom a2 _ HA2.out).mono ?_; rintro e w11 ⟨rfl, x11⟩; rw [← HM.out]; have b11 := b9.trans (x11.mono b9.size))
    | (go_at_call 20; refine (rWroom a2 _ HA2.out).mono ?_; rintro e w12 ⟨rfl, x12⟩; rw [← HM.out]; have b12 := b11.trans (x12.mono b11.size))
    | (go_at_call 9; refine (awake29 _).mono ?_; rintro e w10 ⟨rfl, b10⟩))
  go_ret
  exact ⟨rfl, b12.trans (b10.mono b12.size)⟩

/-! ### The row's step -/
set_option maxRecDepth 100000 in
theorem lifted (os : Os) (started : os.Started) (H : Type) (enc : TypeId × Value → H) :
    ReturnsInHanded {} Try.checked os 3 .any (Rows.wrapTellsSpec.pre6 enc Try.prog Try.f3 Rows.wrapTellsRow.domain false) (Rows.wrapTellsSpec.post enc Try.prog Try.f3 false true false false) := by
  refine returnsInHanded_of_change (C := Try.checked) own started (by kernel_rfl) Try.func3
    (ChangeSpec.witness6 (enc := enc) (C := Try.checked) false ⟨#[], #[.agg #[.int .u8 0, .int .u8 0, .int .u8 0, .int .u8 0, .int .u8 0, .int .u8 0, .int .u8 0, .int .u8 0, .int .u8 0, .int .u8 0, .int .u8 0, .int .u8 0, .int .u8 0, .int .u8 0, .int .u8 0, .int .u8 0], .agg #[.int .u8 0, .int .u8 0, .int .u8 0, .int .u8 0, .int .u8 0, .int .u8 0, .int .u8 0, .int .u8 0, .int .u8 0, .int .u8 0, .int .u8 0, .int .u8 0, .int .u8 0, .int .u8 0, .int .u8 0, .int .u8 0], .int .i64 0, .slice none 0 0, .agg #[.int .i64 0, .int .i64 0, .int .i64 0, .int .i64 0, .int .u8 0, .int .u8 0, .int .u8 0, .int .u8 0, .int .u8 0, .int .u8 0, .int .u8 0, .int .u8 0, .int .u8 0, .int .u8 0, .int .u8 0, .int .u8 0, .int .u8 0, .int .u8 0, .int .u8 0, .int .u8 0, .int .u8 0, .int .u8 0, .int .u8 0, .int .u8 0, .int .u8 0, .int .u8 0, .int .u8 0, .int .u8 0, .int .u8 0, .int .u8 0, .int .u8 0, .int .u8 0, .int .u8 0, .int .u8 0, .int .u8 0, .int .u8 0, .slice none 0 0], .agg #[.int .i64 0, .int .i64 0, .int .i64 0, .int .i64 0, .int .i64 0, .int .i64 0, .int .i64 0, .bool false, .bool false, .slice none 0 0, .slice none 0 0]], []⟩ 8 (by kernel_rfl) (by kernel_rfl) (by kernel_rfl) (by kernel_rfl)) ?_
  intro W base args ds gs before hval0 hW hcnd _
  have hval : ∀ (j : Nat) t v, Try.f3.params[j]? = some t → args[j]? = some v → Value.okWide Try.prog W .any base t v := hval0
  have hW' := hW
  obtain ⟨p, q, hA0, hV, rfl, hfz, hnd⟩ := hW
  have hA : DataW.TrodAll enc Try.prog W 0 (fun _ => true) true Try.f3.params.toList args.toList ds p := hA0
  rw [Try.params3] at hA hval
  obtain ⟨v0, vs0, d0, ds0, p0, q0, hargs, rfl, rfl, t0, r0⟩ := trodAll_cons hA
  obtain ⟨v1, vs1, d1, ds1, p1, q1, rfl, rfl, rfl, t1, r1⟩ := trodAll_cons r0
  obtain ⟨v2, vs2, d2, ds2, p2, q2, rfl, rfl, rfl, t2, r2⟩ := trodAll_cons r1
  obtain ⟨v3, vs3, d3, ds3, p3, q3, rfl, rfl, rfl, t3, r3⟩ := trodAll_cons r2
  obtain ⟨v4, vs4, d4, ds4, p4, q4, rfl, rfl, rfl, t4, r4⟩ := trodAll_cons r3
  obtain ⟨v5, vs5, d5, ds5, p5, q5, rfl, rfl, rfl, t5, r5⟩ := trodAll_cons r4
  obtain ⟨rfl, rfl, rfl⟩ := trodAll_nil r5
  obtain rfl : args = #[v0, v1, v2, v3, v4, v5] := by cases args; simp_all
  obtain ⟨rfl, rfl⟩ := trodVars_none hV
  have k0 := t0
  have lt0 := Trod_lt t0
  have k1 := t1
  have lt1 := Trod_lt t1
  have k2 := t2
  have lt2 := Trod_lt t2
  have k3 := t3
  have lt3 := Trod_lt t3
  have k4 := t4
  have lt4 := Trod_lt t4
  have k5 := t5
  have lt5 := Trod_lt t5
  obtain ⟨b0, rfl, h0⟩ := get_six Try.underlying23 Try.underlying5 (by kernel_rfl) (by kernel_rfl) (hval 0 23 v0 rfl rfl) t0
  obtain ⟨b1, rfl, h1⟩ := get_six Try.underlying23 Try.underlying5 (by kernel_rfl) (by kernel_rfl) (hval 1 23 v1 rfl rfl) t1
  obtain ⟨a2, rfl, w2⟩ := get_int Try.underlying3 (hval 2 3 v2 rfl rfl) t2
  obtain ⟨A3, c3, b3, rfl, h3, m3⟩ := get_bytes Try.underlying24 Try.underlying5 (by kernel_rfl) (hval 3 24 v3 rfl rfl) t3
  obtain ⟨x4, A4, c4, rfl, h4, m4, w4, s4, e4⟩ := get_v6 (hval 4 26 v4 rfl rfl) t4
  obtain ⟨x5, A5, c5, A5', c5', rfl, h5, h5', m5, m5', w5⟩ := get_v4 (hval 5 28 v5 rfl rfl) t5
  clear hA0 hval0
  refine (walk b0 b1 a2 A3 c3 b3 x4 A4 c4 x5 A5 c5 A5' c5' W h0 h1 w2 h3 m3 h4 m4 w4 s4 e4 h5 h5' m5 m5' w5).mono fun e W' ⟨he, bel⟩ => ?_
  subst he
  exact ⟨_, rfl, _, _, _, [], _, [], hW', trodAll_mk1 (shut_bool Try.underlying4 _), (trodAll_cons_mk (Below.trod laidOut (by kernel_rfl) (of_decide_eq_true (by kernel_rfl)) k0 bel lt0) (trodAll_cons_mk (Below.trod laidOut (by kernel_rfl) (of_decide_eq_true (by kernel_rfl)) k1 bel lt1) (trodAll_cons_mk (Below.trod laidOut (by kernel_rfl) (of_decide_eq_true (by kernel_rfl)) k2 bel lt2) (trodAll_cons_mk (Below.trod laidOut (by kernel_rfl) (of_decide_eq_true (by kernel_rfl)) k3 bel lt3) (trodAll_cons_mk (Below.trod laidOut (by kernel_rfl) (of_decide_eq_true (by kernel_rfl)) k4 bel lt4) (trodAll_cons_mk (Below.trod laidOut (by kernel_rfl) (of_decide_eq_true (by kernel_rfl)) k5 bel lt5) trodAll_mk0)))))), rfl, bel.frame _, fun h => by cases h⟩

theorem over : Rows.wrapTellsRow.holds Try.pinned (OpenSpec.ofChange Rows.wrapTellsSpec) :=
  OpenClaim.holds_of_wide 3 Try.f3 rfl rfl rfl rfl rfl rfl rfl ⟨rfl, rfl, rfl, rfl, rfl⟩ rfl rfl rfl rfl rfl (by kernel_rfl) Try.func3 (by kernel_rfl)
    (of_decide_eq_true (by kernel_rfl)) (by unfold Func.isWrapper; first | (rw [if_pos (by decide +kernel)]; kernel_rfl) | (rw [if_neg (by decide +kernel)]; exact ⟨rfl, rfl⟩))
    (fun os started H enc _ => lifted os started H enc)

theorem proved : Rows.WrapTellsSaid := over
end Go.Proofs.Ytkfbamippjhjcaa.wrapTells
