/-
  For all numbers and bytes goosepondlaw28.ErrsQuote answers true: what is told goes to who sent, and quotes the beginning of what was sent. Conditions: none but the statement's own.
-/
import Derived.Test.YtjgcpaepaocigaaRows
import Derived.WalkKit
import Derived.ProofKit
import Derived.OpenShut
import Derived.ChangeOld
import Derived.Below
import Derived.Test.YtjgcpaepaocigaaEa2
import Derived.Test.YtjgcpaepaocigaaEa10
namespace Go.Proofs.Ytjgcpaepaocigaa.errsQuote
open Go.ChangeShapes Go.WideShapes Go.ChangeAt Go.RowKit
set_option linter.unusedVariables false
attribute [local go_sem] Oper.semAt_some

theorem own : ownKnob Try.prog.godebug = none := by kernel_rfl
theorem laidOut : laidOutB Try.prog = true := by kernel_rfl

/-! ### The walk -/
set_option maxRecDepth 100000 in
set_option maxHeartbeats 4000000 in
theorem walk (a0 : Int) (a1 : Int) (a2 : Int) (A3 : Option Addr) (c3 : Nat) (b3 : List UInt8) (w : World) (w0 : (Lit.int .u32 a0).wf = true) (w1 : (Lit.int .u8 a1).wf = true) (w2 : (Lit.int .u8 a2).wf = true) (h3 : Arg w w.heap.size A3 c3 b3) (m3 : c3 ≤ maxLen) :
    Calls Try.prog 6 #[.int .u32 a0, .int .u8 a1, .int .u8 a2, .slice A3 b3.length c3] w fun e w' => e = .returned (.bool true) ∧ Below w.heap.size w w' := by
  by_cases hbig : 3000 < b3.length
  · have d0 : decide (3000 < (b3.length : Int)) = true := by simp; omega
    go_enter Try.func6, Try.ntmps6
    go_wp2_with (go_at_call 12; refine (awake28 _).mono ?_; rintro e w10 ⟨rfl, b10⟩)
    go_ret
    exact ⟨rfl, b10⟩
  have d0 : decide (3000 < (b3.length : Int)) = false := by simp; omega
  have hl : b3.length ≤ 900000 := by omega
  clear hbig
  have r0 := u32_bdE w0
  have r1 := u8_bdE w1
  have r2 := u8_bdE w2
  have q0 : IntKind.i64.wrap a0 = a0 := IntWalk.i64_in a0 (by omega)
  have q1 : IntKind.i64.wrap a1 = a1 := IntWalk.i64_in a1 (by omega)
  have q2 : IntKind.i64.wrap a2 = a2 := IntWalk.i64_in a2 (by omega)
  have hmk : mayE b3 = true → mkE a0 a1 a2 0 b3 = 0 := fun h => may_mk h (by omega) (by omega) (by omega) (by omega) (by omega) (by omega)
  have hqf := quote_facts (a := a0) (k := a1) (c := a2) (r := 0) (b := b3)
  obtain ⟨q, hq⟩ : ∃ x, x = mkV a0 a1 a2 0 b3 := ⟨_, rfl⟩
  obtain ⟨E, hE⟩ : ∃ x, x = mkE a0 a1 a2 0 b3 := ⟨_, rfl⟩
  have hqo : q.opt = [] := by rw [hq, mkV]; split <;> rfl
  have HC : Hid (∀ U, Below w.heap.size w U → Calls Try.prog 13 #[.int .i64 a0, .int .i64 a1, .int .i64 a2, .int .i64 0, .slice A3 b3.length c3] U fun e w' => ∃ P' p', e = .returned (.tuple #[v4v q none 0 P' p', .int .i64 E]) ∧ Made U w' (.slice P' q.dat.length p') q.dat) := Lib.hid (fun U hU => by
    have := cEmake a0 a1 a2 0 b3 A3 c3 w.heap.size U (h3.below hU) hU.size hl
    rw [← hq, ← hE] at this
    exact this)
  by_cases h0 : E = 0
  · have e0 : (E == 0) = true := by simp [h0]
    have n0 : (E != 0) = false := by simp [h0]
    obtain ⟨fb, fm, fe, fd, fs, fl, f5, fmin, fn, fz, fdl, fo⟩ := hqf (by rw [← hE]; exact h0)
    rw [← hq] at fb fm fd fs fz fdl fo
    obtain ⟨Q, hQ⟩ : ∃ x, x = prsV b3 true := ⟨_, rfl⟩
    rw [← hQ] at fd fmin
    have hQs : Q.opt.length ≤ b3.length ∧ Q.dat.length ≤ b3.length := by rw [hQ]; exact raw_small
    obtain ⟨N, hN⟩ : ∃ x, x = nE b3 := ⟨_, rfl⟩
    rw [← hN] at fl f5 fmin fn
    obtain ⟨MS, hMS⟩ : ∃ x : PI, x = msE a1 a2 0 b3 := ⟨_, rfl⟩
    rw [← hMS] at fm
    have hMd : MS.dat = b3.take N := by rw [hMS, hN]; rfl
    have hMt : (MS.typ == a1) = true := by rw [hMS]; show (a1 == a1) = true; simp
    have hML : MS.dat.length = N := by rw [hMd]; exact fl
    have c11 : (q.dst == Q.src) = true := by rw [fd]; simp
    have c18 : (q.src == a0) = true := by rw [fs]; simp
    have c25 : decide ((MS.dat.length : Int) ≤ 548) = true := by rw [hML]; simp; omega
    have c34 : decide (min 28 (size4 Q) ≤ (MS.dat.length : Int)) = true := by rw [hML]; exact decide_eq_true fmin
    have c52 : decide (size4 q ≤ 576) = true := decide_eq_true fz
    have HQ := Lib.hid hQ
    have HFE := Lib.hid fe
    have HFB := Lib.hid fb
    have HFM := Lib.hid fm
    have HDT := Lib.hid hMd
    have hNb := fn
    have hQ1 := hQs.1
    have hQ2 := hQs.2
    have HQO := Lib.hid hqo
    clear hmk hqf hq hE h0 fb fm fe fd fs fl f5 fmin fn fz hQ hQs hN hMS hMd hML hqo
    go_enter Try.func6, Try.ntmps6
    go_upto_region 4 with (first
      | (go_at_call 13; refine (HC.out _ (Below.refl _ _)).mono ?_; rintro e w3 ⟨P1, p1, rfl, m1⟩)
      | ((with_reducible show wpList _ _ _ (Oper.mk _ (Op.store 36 _ _) _ _ _ _ :: _) _ _); refine v4_store_new (cs := v4a q none 0 P1 p1) rfl rfl rfl rfl (v4a_one _ _ _ _ _) ?_))
    have y1 : Below w.heap.size w (w3.alloc (.cells (v4a q none 0 P1 p1) 36)) := m1.below.alloc m1.below.size _
    obtain ⟨_, _, e1, g1, _, _⟩ := made_shape m1
    cases e1
    have hbox1 := World.alloc_heap_new w3 (.cells (v4a q none 0 P1 p1) 36)
    have g1 := g1.alloc (Nat.le_refl _) (.cells (v4a q none 0 P1 p1) 36)
    have z1 := heap_lt hbox1
    generalize w3.alloc (.cells (v4a q none 0 P1 p1) 36) = W1 at *
    have k1 := (ofhE hbox1).dat
    clear m1
    go_upto_region 6 with fail
    go_upto_region 7 with (first
      | (go_at_call 20; refine (cIparse q.dat P1 p1 W1 w3.heap.size g1 (Nat.le_of_lt z1) (by omega)).mono ?_; rintro e w4 ⟨P4, p4, rfl, m4⟩; rw [HFM.out] at m4; rw [HFM.out, HFB.out])
      | ((with_reducible show wpList _ _ _ (Oper.mk _ (Op.store 47 _ _) _ _ _ _ :: _) _ _); refine is_store_new (cs := isa MS P4 p4) rfl rfl rfl rfl (is_one _ _ _) ?_))
    have x4 : Below W1.heap.size W1 (w4.alloc (.cells (isa MS P4 p4) 47)) := m4.below.alloc m4.below.size _
    obtain ⟨_, _, e4, g4, _, _⟩ := made_shape m4
    cases e4
    have hbox4 := World.alloc_heap_new w4 (.cells (isa MS P4 p4) 47)
    have g4 := g4.alloc (Nat.le_refl _) (.cells (isa MS P4 p4) 47)
    have z4 := heap_lt hbox4
    generalize w4.alloc (.cells (isa MS P4 p4) 47) = W4 at *
    have hbox1 := (x4.block _ z1).trans hbox1
    have y4 := y1.trans (x4.mono y1.size)
    clear m4 k1 g1
    go_upto_region 8 with (first
      | (go_at_call 21; refine (c4quoted b3 A3 c3 W4 w.heap.size (h3.below y4) y4.size (by omega)).mono ?_; rintro e w5 ⟨P5, p5, P5', p5', rfl, m5, n5⟩; rw [← HQ.out] at m5; rw [← HQ.out, HFE.out])
      | ((with_reducible show wpList _ _ _ (Oper.mk _ (Op.store 36 _ _) _ _ _ _ :: _) _ _); refine v4_store_new (cs := v4a Q P5 p5 P5' p5') rfl rfl rfl rfl (v4a_one _ _ _ _ _) ?_))
    have x5 : Below W4.heap.size W4 (w5.alloc (.cells (v4a Q P5 p5 P5' p5') 36)) := m5.below.alloc m5.below.size _
    have hbox5 := World.alloc_heap_new w5 (.cells (v4a Q P5 p5 P5' p5') 36)
    have z5 := heap_lt hbox5
    generalize w5.alloc (.cells (v4a Q P5 p5 P5' p5') 36) = X at *
    have hbox1 := (x5.block _ (Nat.lt_of_lt_of_le z1 x4.size)).trans hbox1
    have hbox4 := (x5.block _ z4).trans hbox4
    have hb := y4.trans (x5.mono y4.size)
    have hw4 : w4.heap.size ≤ X.heap.size := Nat.le_trans (Nat.le_of_lt z4) x5.size
    have g4 := g4.below (x5.mono (Nat.le_of_lt z4))
    have l1 : w3.heap.size < X.heap.size := Nat.lt_of_lt_of_le (Nat.lt_of_lt_of_le z1 x4.size) x5.size
    have l4 : w4.heap.size < X.heap.size := Nat.lt_of_lt_of_le z4 x5.size
    have KP : Hid (∀ V, Below X.heap.size X V → At4 V w3.heap.size q none 0 P1 p1) := Lib.hid (fun V hV => ofhE ((hV.block _ l1).trans hbox1))
    have KQ : Hid (∀ V, Below X.heap.size X V → At4 V w5.heap.size Q P5 p5 P5' p5') := Lib.hid (fun V hV => ofhE ((hV.block _ z5).trans hbox5))
    have KMM : Hid (∀ V, Below X.heap.size X V → Atis V w4.heap.size MS P4 p4) := Lib.hid (fun V hV => Atis.of_heap ((hV.block _ l4).trans hbox4))
    have KD : Hid (∀ V, Below X.heap.size X V → V.cell? ⟨w3.heap.size, 6, none⟩ = some (.int .i64 q.dst)) := Lib.hid (fun V hV => (KP.out V hV).dst)
    have KS : Hid (∀ V, Below X.heap.size X V → V.cell? ⟨w3.heap.size, 5, none⟩ = some (.int .i64 q.src)) := Lib.hid (fun V hV => (KP.out V hV).src)
    have KQS : Hid (∀ V, Below X.heap.size X V → V.cell? ⟨w5.heap.size, 5, none⟩ = some (.int .i64 Q.src)) := Lib.hid (fun V hV => (KQ.out V hV).src)
    have KM : Hid (∀ V, Below X.heap.size X V → V.cell? ⟨w4.heap.size, 3, none⟩ = some (.slice P4 MS.dat.length p4)) := Lib.hid (fun V hV => (KMM.out V hV).dat)
    have KT : Hid (∀ V, Below X.heap.size X V → V.cell? ⟨w4.heap.size, 0, none⟩ = some (.int .i64 MS.typ)) := Lib.hid (fun V hV => (KMM.out V hV).typ)
    clear m5 n5 hbox1 hbox4 hbox5 x4 x5 y1 y4 z1 z4 z5 l1 l4
    refine wp_region_held_drew (S := fun w' => Below X.heap.size X w') (by kernel_rfl) (Below.refl _ X).drew (fun hS => ?_)
    refine held_pure (i := 0) (oi := ⟨some 53, _, _, _, _, _⟩) rfl (by kernel_rfl) (by kernel_rfl) (by kernel_rfl) (fun _ _ _ h => h) (by rfl) (v := ?_) (fun w hSw => ?_) hS (fun hS => ?_)
    rotate_left
    · go_simp; try with_reducible rfl
    try go_frame
    refine held_pure (i := 1) (oi := ⟨some 54, _, _, _, _, _⟩) rfl (by kernel_rfl) (by kernel_rfl) (by kernel_rfl) (fun _ _ _ h => h) (by rfl) (v := ?_) (fun w hSw => ?_) hS (fun hS => ?_)
    rotate_left
    · go_simp; try with_reducible rfl
    try go_frame
    refine held_pure (i := 2) (oi := ⟨some 55, _, _, _, _, _⟩) rfl (by kernel_rfl) (by kernel_rfl) (by kernel_rfl) (fun _ _ _ h => h) (by rfl) (v := ?_) (fun w hSw => ?_) hS (fun hS => ?_)
    rotate_left
    · go_simp; try with_reducible rfl
    try go_frame
    refine held_pure (i := 3) (oi := ⟨some 56, _, _, _, _, _⟩) rfl (by kernel_rfl) (by kernel_rfl) (by kernel_rfl) (fun _ _ _ h => h) (by rfl) (v := ?_) (fun w hSw => ?_) hS (fun hS => ?_)
    rotate_left
    · go_simp; try with_reducible rfl
    try go_frame
    refine held_pure (i := 4) (oi := ⟨some 57, _, _, _, _, _⟩) rfl (by kernel_rfl) (by kernel_rfl) (by kernel_rfl) (fun _ _ _ h => h) (by rfl) (v := ?_) (fun w hSw => ?_) hS (fun hS => ?_)
    rotate_left
    · go_simp; try with_reducible rfl
    try go_frame
    refine held_pure (i := 5) (oi := ⟨some 58, _, _, _, _, _⟩) rfl (by kernel_rfl) (by kernel_rfl) (by kernel_rfl) (fun _ _ _ h => h) (by rfl) (v := ?_) (fun w hSw => ?_) hS (fun hS => ?_)
    rotate_left
    · go_simp; try with_reducible rfl
    try go_frame
    refine held_pure (i := 6) (oi := ⟨some 59, _, _, _, _, _⟩) rfl (by kernel_rfl) (by kernel_rfl) (by kernel_rfl) (fun _ _ _ h => h) (by rfl) (v := ?_) (fun w hSw => ?_) hS (fun hS => ?_)
    rotate_left
    · go_simp; try with_reducible rfl
    try go_frame
    refine held_pure (i := 7) (oi := ⟨some 60, _, _, _, _, _⟩) rfl (by kernel_rfl) (by kernel_rfl) (by kernel_rfl) (fun _ _ _ h => h) (by rfl) (v := ?_) (fun w hSw => ?_) hS (fun hS => ?_)
    rotate_left
    · go_simp; try with_reducible rfl
    try go_frame
    refine held_pure (i := 8) (oi := ⟨some 61, _, _, _, _, _⟩) rfl (by kernel_rfl) (by kernel_rfl) (by kernel_rfl) (fun _ _ _ h => h) (by rfl) (fun w hSw => run_load_int rfl rfl (KD.out _ hSw)) hS (fun hS => ?_)
    try go_frame
    refine held_pure (i := 9) (oi := ⟨some 62, _, _, _, _, _⟩) rfl (by kernel_rfl) (by kernel_rfl) (by kernel_rfl) (fun _ _ _ h => h) (by rfl) (v := ?_) (fun w hSw => ?_) hS (fun hS => ?_)
    rotate_left
    · go_simp; try with_reducible rfl
    try go_frame
    refine held_pure (i := 10) (oi := ⟨some 63, _, _, _, _, _⟩) rfl (by kernel_rfl) (by kernel_rfl) (by kernel_rfl) (fun _ _ _ h => h) (by rfl) (fun w hSw => run_load_int rfl rfl (KQS.out _ hSw)) hS (fun hS => ?_)
    try go_frame
    refine held_pure (i := 11) (oi := ⟨some 64, _, _, _, _, _⟩) rfl (by kernel_rfl) (by kernel_rfl) (by kernel_rfl) (fun _ _ _ h => h) (by rfl) (v := .bool true) (fun w hSw => by go_simp) hS (fun hS => ?_)
    try go_frame
    refine held_pure (i := 12) (oi := ⟨some 65, _, _, _, _, _⟩) rfl (by kernel_rfl) (by kernel_rfl) (by kernel_rfl) (fun _ _ _ h => h) (by rfl) (v := ?_) (fun w hSw => ?_) hS (fun hS => ?_)
    rotate_left
    · go_simp; try with_reducible rfl
    try go_frame
    refine held_pure (i := 13) (oi := ⟨some 66, _, _, _, _, _⟩) rfl (by kernel_rfl) (by kernel_rfl) (by kernel_rfl) (fun _ _ _ h => h) (by rfl) (v := ?_) (fun w hSw => ?_) hS (fun hS => ?_)
    rotate_left
    · go_simp; try with_reducible rfl
    try go_frame
    refine held_pure (i := 14) (oi := ⟨some 67, _, _, _, _, _⟩) rfl (by kernel_rfl) (by kernel_rfl) (by kernel_rfl) (fun _ _ _ h => h) (by rfl) (v := ?_) (fun w hSw => ?_) hS (fun hS => ?_)
    rotate_left
    · go_simp; try with_reducible rfl
    try go_frame
    refine held_pure (i := 15) (oi := ⟨some 68, _, _, _, _, _⟩) rfl (by kernel_rfl) (by kernel_rfl) (by kernel_rfl) (fun _ _ _ h => h) (by rfl) (fun w hSw => run_load_int rfl rfl (KS.out _ hSw)) hS (fun hS => ?_)
    try go_frame
    refine held_pure (i := 16) (oi := ⟨some 69, _, _, _, _, _⟩) rfl (by kernel_rfl) (by kernel_rfl) (by kernel_rfl) (fun _ _ _ h => h) (by rfl) (v := ?_) (fun w hSw => ?_) hS (fun hS => ?_)
    rotate_left
    · go_simp; try with_reducible rfl
    try go_frame
    refine held_pure (i := 17) (oi := ⟨some 70, _, _, _, _, _⟩) rfl (by kernel_rfl) (by kernel_rfl) (by kernel_rfl) (fun _ _ _ h => h) (by rfl) (v := ?_) (fun w hSw => ?_) hS (fun hS => ?_)
    rotate_left
    · go_simp; try with_reducible rfl
    try go_frame
    refine held_pure (i := 18) (oi := ⟨some 71, _, _, _, _, _⟩) rfl (by kernel_rfl) (by kernel_rfl) (by kernel_rfl) (fun _ _ _ h => h) (by rfl) (v := .bool true) (fun w hSw => by go_simp) hS (fun hS => ?_)
    try go_frame
    refine held_pure (i := 19) (oi := ⟨some 72, _, _, _, _, _⟩) rfl (by kernel_rfl) (by kernel_rfl) (by kernel_rfl) (fun _ _ _ h => h) (by rfl) (v := ?_) (fun w hSw => ?_) hS (fun hS => ?_)
    rotate_left
    · go_simp; try with_reducible rfl
    try go_frame
    refine held_pure (i := 20) (oi := ⟨some 73, _, _, _, _, _⟩) rfl (by kernel_rfl) (by kernel_rfl) (by kernel_rfl) (fun _ _ _ h => h) (by rfl) (v := ?_) (fun w hSw => ?_) hS (fun hS => ?_)
    rotate_left
    · go_simp; try with_reducible rfl
    try go_frame
    refine held_pure (i := 21) (oi := ⟨some 74, _, _, _, _, _⟩) rfl (by kernel_rfl) (by kernel_rfl) (by kernel_rfl) (fun _ _ _ h => h) (by rfl) (v := ?_) (fun w hSw => ?_) hS (fun hS => ?_)
    rotate_left
    · go_simp; try with_reducible rfl
    try go_frame
    refine held_pure (i := 22) (oi := ⟨some 75, _, _, _, _, _⟩) rfl (by kernel_rfl) (by kernel_rfl) (by kernel_rfl) (fun _ _ _ h => h) (by rfl) (fun w hSw => run_load_sl rfl rfl (KM.out _ hSw)) hS (fun hS => ?_)
    try go_frame
    refine held_pure (i := 23) (oi := ⟨some 76, _, _, _, _, _⟩) rfl (by kernel_rfl) (by kernel_rfl) (by kernel_rfl) (fun _ _ _ h => h) (by rfl) (v := ?_) (fun w hSw => ?_) hS (fun hS => ?_)
    rotate_left
    · go_simp; try with_reducible rfl
    try go_frame
    refine wpAnyH_ready (rs := [24]) (by kernel_rfl) (by simp) (AllReadyH.cons (o := ⟨some 77, _, _, _, _, _⟩) rfl (fun K hK => ?_) AllReadyH.nil)
    rw [if_pos (by rfl)]
    go_simp
    refine (cEmost _).mono ?_
    rintro e u24 ⟨rfl, rfl⟩
    show K _ _
    refine hK.out _ _ hS (fun hS => ?_)
    clear hK K
    try go_frame
    refine held_pure (i := 25) (oi := ⟨some 78, _, _, _, _, _⟩) rfl (by kernel_rfl) (by kernel_rfl) (by kernel_rfl) (fun _ _ _ h => h) (by rfl) (v := .bool true) (fun w hSw => by go_simp) hS (fun hS => ?_)
    try go_frame
    refine held_pure (i := 26) (oi := ⟨some 79, _, _, _, _, _⟩) rfl (by kernel_rfl) (by kernel_rfl) (by kernel_rfl) (fun _ _ _ h => h) (by rfl) (v := ?_) (fun w hSw => ?_) hS (fun hS => ?_)
    rotate_left
    · go_simp; try with_reducible rfl
    try go_frame
    refine held_pure (i := 27) (oi := ⟨some 80, _, _, _, _, _⟩) rfl (by kernel_rfl) (by kernel_rfl) (by kernel_rfl) (fun _ _ _ h => h) (by rfl) (v := ?_) (fun w hSw => ?_) hS (fun hS => ?_)
    rotate_left
    · go_simp; try with_reducible rfl
    try go_frame
    refine held_pure (i := 28) (oi := ⟨some 81, _, _, _, _, _⟩) rfl (by kernel_rfl) (by kernel_rfl) (by kernel_rfl) (fun _ _ _ h => h) (by rfl) (v := ?_) (fun w hSw => ?_) hS (fun hS => ?_)
    rotate_left
    · go_simp; try with_reducible rfl
    try go_frame
    refine held_pure (i := 29) (oi := ⟨some 82, _, _, _, _, _⟩) rfl (by kernel_rfl) (by kernel_rfl) (by kernel_rfl) (fun _ _ _ h => h) (by rfl) (fun w hSw => run_load_sl rfl rfl (KM.out _ hSw)) hS (fun hS => ?_)
    try go_frame
    refine held_pure (i := 30) (oi := ⟨some 83, _, _, _, _, _⟩) rfl (by kernel_rfl) (by kernel_rfl) (by kernel_rfl) (fun _ _ _ h => h) (by rfl) (v := ?_) (fun w hSw => ?_) hS (fun hS => ?_)
    rotate_left
    · go_simp; try with_reducible rfl
    try go_frame
    refine held_pure (i := 31) (oi := ⟨some 84, _, _, _, _, _⟩) rfl (by kernel_rfl) (by kernel_rfl) (by kernel_rfl) (fun _ _ _ h => h) (by rfl) (fun w hSw => run_load_v4 rfl rfl (KQ.out _ hSw) rfl) hS (fun hS => ?_)
    try go_frame
    refine wpAnyH_ready (rs := [32]) (by kernel_rfl) (by simp) (AllReadyH.cons (o := ⟨some 85, _, _, _, _, _⟩) rfl (fun K hK => ?_) AllReadyH.nil)
    rw [if_pos (by rfl)]
    go_simp
    refine (c4size Q P5 p5 P5' p5' _ (by omega) (by omega)).mono ?_
    rintro e u32 ⟨rfl, z32⟩
    show K _ _
    refine hK.out _ _ (below_step hS z32) (fun hS => ?_)
    clear hK K
    try go_frame
    refine held_pure (i := 33) (oi := ⟨some 86, _, _, _, _, _⟩) rfl (by kernel_rfl) (by kernel_rfl) (by kernel_rfl) (fun _ _ _ h => h) (by rfl) (v := ?_) (fun w hSw => ?_) hS (fun hS => ?_)
    rotate_left
    · go_simp; try with_reducible rfl
    try go_frame
    refine held_pure (i := 34) (oi := ⟨some 87, _, _, _, _, _⟩) rfl (by kernel_rfl) (by kernel_rfl) (by kernel_rfl) (fun _ _ _ h => h) (by rfl) (v := .bool true) (fun w hSw => by go_simp) hS (fun hS => ?_)
    try go_frame
    refine held_pure (i := 35) (oi := ⟨some 88, _, _, _, _, _⟩) rfl (by kernel_rfl) (by kernel_rfl) (by kernel_rfl) (fun _ _ _ h => h) (by rfl) (v := ?_) (fun w hSw => ?_) hS (fun hS => ?_)
    rotate_left
    · go_simp; try with_reducible rfl
    try go_frame
    refine held_pure (i := 36) (oi := ⟨some 89, _, _, _, _, _⟩) rfl (by kernel_rfl) (by kernel_rfl) (by kernel_rfl) (fun _ _ _ h => h) (by rfl) (v := ?_) (fun w hSw => ?_) hS (fun hS => ?_)
    rotate_left
    · go_simp; try with_reducible rfl
    try go_frame
    refine held_pure (i := 37) (oi := ⟨some 90, _, _, _, _, _⟩) rfl (by kernel_rfl) (by kernel_rfl) (by kernel_rfl) (fun _ _ _ h => h) (by rfl) (v := ?_) (fun w hSw => ?_) hS (fun hS => ?_)
    rotate_left
    · go_simp; try with_reducible rfl
    try go_frame
    refine held_pure (i := 38) (oi := ⟨some 91, _, _, _, _, _⟩) rfl (by kernel_rfl) (by kernel_rfl) (by kernel_rfl) (fun _ _ _ h => h) (by rfl) (v := ?_) (fun w hSw => ?_) hS (fun hS => ?_)
    rotate_left
    · go_simp; try with_reducible rfl
    try go_frame
    refine held_pure (i := 39) (oi := ⟨some 92, _, _, _, _, _⟩) rfl (by kernel_rfl) (by kernel_rfl) (by kernel_rfl) (fun _ _ _ h => h) (by rfl) (fun w hSw => run_load_sl rfl rfl (KM.out _ hSw)) hS (fun hS => ?_)
    try go_frame
    refine wpAnyH_ready (rs := [40]) (by kernel_rfl) (by simp) (AllReadyH.cons (o := ⟨some 93, _, _, _, _, _⟩) rfl (fun K hK => ?_) AllReadyH.nil)
    rw [if_pos (by rfl)]
    go_simp
    refine (chasprefix b3 MS.dat A3 P4 c3 p4 w.heap.size w4.heap.size N _ (h3.below (hb.trans (hS.mono hb.size))) (g4.below (hS.mono hw4)) HDT.out hNb).mono ?_
    rintro e u40 ⟨rfl, rfl⟩
    show K _ _
    refine hK.out _ _ hS (fun hS => ?_)
    clear hK K
    try go_frame
    refine held_pure (i := 41) (oi := ⟨some 94, _, _, _, _, _⟩) rfl (by kernel_rfl) (by kernel_rfl) (by kernel_rfl) (fun _ _ _ h => h) (by rfl) (v := ?_) (fun w hSw => ?_) hS (fun hS => ?_)
    rotate_left
    · go_simp; try with_reducible rfl
    try go_frame
    refine held_pure (i := 42) (oi := ⟨some 95, _, _, _, _, _⟩) rfl (by kernel_rfl) (by kernel_rfl) (by kernel_rfl) (fun _ _ _ h => h) (by rfl) (v := ?_) (fun w hSw => ?_) hS (fun hS => ?_)
    rotate_left
    · go_simp; try with_reducible rfl
    try go_frame
    refine held_pure (i := 43) (oi := ⟨some 96, _, _, _, _, _⟩) rfl (by kernel_rfl) (by kernel_rfl) (by kernel_rfl) (fun _ _ _ h => h) (by rfl) (v := ?_) (fun w hSw => ?_) hS (fun hS => ?_)
    rotate_left
    · go_simp; try with_reducible rfl
    try go_frame
    refine held_pure (i := 44) (oi := ⟨some 97, _, _, _, _, _⟩) rfl (by kernel_rfl) (by kernel_rfl) (by kernel_rfl) (fun _ _ _ h => h) (by rfl) (fun w hSw => run_load_int rfl rfl (KT.out _ hSw)) hS (fun hS => ?_)
    try go_frame
    refine held_pure (i := 45) (oi := ⟨some 98, _, _, _, _, _⟩) rfl (by kernel_rfl) (by kernel_rfl) (by kernel_rfl) (fun _ _ _ h => h) (by rfl) (v := ?_) (fun w hSw => ?_) hS (fun hS => ?_)
    rotate_left
    · go_simp; try with_reducible rfl
    try go_frame
    refine held_pure (i := 46) (oi := ⟨some 99, _, _, _, _, _⟩) rfl (by kernel_rfl) (by kernel_rfl) (by kernel_rfl) (fun _ _ _ h => h) (by rfl) (v := ?_) (fun w hSw => ?_) hS (fun hS => ?_)
    rotate_left
    · go_simp; try with_reducible rfl
    try go_frame
    refine held_pure (i := 47) (oi := ⟨some 100, _, _, _, _, _⟩) rfl (by kernel_rfl) (by kernel_rfl) (by kernel_rfl) (fun _ _ _ h => h) (by rfl) (v := .bool true) (fun w hSw => by go_simp) hS (fun hS => ?_)
    try go_frame
    refine held_pure (i := 48) (oi := ⟨some 101, _, _, _, _, _⟩) rfl (by kernel_rfl) (by kernel_rfl) (by kernel_rfl) (fun _ _ _ h => h) (by rfl) (v := ?_) (fun w hSw => ?_) hS (fun hS => ?_)
    rotate_left
    · go_simp; try with_reducible rfl
    try go_frame
    refine held_pure (i := 49) (oi := ⟨some 102, _, _, _, _, _⟩) rfl (by kernel_rfl) (by kernel_rfl) (by kernel_rfl) (fun _ _ _ h => h) (by rfl) (v := ?_) (fun w hSw => ?_) hS (fun hS => ?_)
    rotate_left
    · go_simp; try with_reducible rfl
    try go_frame
    refine held_pure (i := 50) (oi := ⟨some 103, _, _, _, _, _⟩) rfl (by kernel_rfl) (by kernel_rfl) (by kernel_rfl) (fun _ _ _ h => h) (by rfl) (fun w hSw => run_load_v4 rfl rfl (KP.out _ hSw) rfl) hS (fun hS => ?_)
    try go_frame
    refine wpAnyH_ready (rs := [51]) (by kernel_rfl) (by simp) (AllReadyH.cons (o := ⟨some 104, _, _, _, _, _⟩) rfl (fun K hK => ?_) AllReadyH.nil)
    rw [if_pos (by rfl)]
    go_simp
    refine (c4size q none 0 P1 p1 _ (by omega) (by omega)).mono ?_
    rintro e u51 ⟨rfl, z51⟩
    show K _ _
    refine hK.out _ _ (below_step hS z51) (fun hS => ?_)
    clear hK K
    try go_frame
    refine held_pure (i := 52) (oi := ⟨some 105, _, _, _, _, _⟩) rfl (by kernel_rfl) (by kernel_rfl) (by kernel_rfl) (fun _ _ _ h => h) (by rfl) (v := .bool true) (fun w hSw => by go_simp) hS (fun hS => ?_)
    try go_frame
    refine held_pure (i := 53) (oi := ⟨some 106, _, _, _, _, _⟩) rfl (by kernel_rfl) (by kernel_rfl) (by kernel_rfl) (fun _ _ _ h => h) (by rfl) (v := ?_) (fun w hSw => ?_) hS (fun hS => ?_)
    rotate_left
    · go_simp; try with_reducible rfl
    try go_frame
    refine held_pure (i := 54) (oi := ⟨some 107, _, _, _, _, _⟩) rfl (by kernel_rfl) (by kernel_rfl) (by kernel_rfl) (fun _ _ _ h => h) (by rfl) (v := ?_) (fun w hSw => ?_) hS (fun hS => ?_)
    rotate_left
    · go_simp; try with_reducible rfl
    try go_frame
    refine wpAnyH_ready (rs := [55]) (by kernel_rfl) (by simp) (AllReadyH.cons (o := ⟨some 108, _, _, _, _, _⟩) rfl (fun K hK => ?_) AllReadyH.nil)
    rw [if_pos (by rfl)]
    go_simp
    refine (awake28 _).mono ?_
    rintro e u55 ⟨rfl, z55⟩
    show K _ _
    refine hK.out _ _ (below_step hS z55) (fun hS => ?_)
    clear hK K
    try go_frame
    refine held_pure (i := 56) (oi := ⟨some 109, _, _, _, _, _⟩) rfl (by kernel_rfl) (by kernel_rfl) (by kernel_rfl) (fun _ _ _ h => h) (by rfl) (v := ?_) (fun w hSw => ?_) hS (fun hS => ?_)
    rotate_left
    · go_simp; try with_reducible rfl
    try go_frame
    refine held_pure (i := 57) (oi := ⟨some 8, _, _, _, _, _⟩) rfl (by kernel_rfl) (by kernel_rfl) (by kernel_rfl) (fun _ _ _ h => h) (by rfl) (v := ?_) (fun w hSw => ?_) hS (fun hS => ?_)
    rotate_left
    · go_simp; try with_reducible rfl
    try go_frame
    refine wpAnyH_done (by kernel_rfl) ?_ _
    go_wp2_with fail
    go_ret
    exact ⟨rfl, hb.trans (hS.mono hb.size)⟩
  · have hM : mayE b3 = false := by
      cases h : mayE b3
      · rfl
      · exact absurd (hE.trans (hmk h)) h0
    have h11 : E = 11 := hE.trans (mk_not hM)
    have HM := Lib.hid hM
    clear hqf hmk hE h0 hM hq hqo
    subst h11
    go_enter Try.func6, Try.ntmps6
    go_upto_region 4 with (first
      | (go_at_call 13; refine (HC.out _ (Below.refl _ _)).mono ?_; rintro e w3 ⟨P1, p1, rfl, m1⟩)
      | ((with_reducible show wpList _ _ _ (Oper.mk _ (Op.store 36 _ _) _ _ _ _ :: _) _ _); refine v4_store_new (cs := v4a q none 0 P1 p1) rfl rfl rfl rfl (v4a_one _ _ _ _ _) ?_))
    have y1 : Below w.heap.size w (w3.alloc (.cells (v4a q none 0 P1 p1) 36)) := m1.below.alloc m1.below.size _
    generalize w3.alloc (.cells (v4a q none 0 P1 p1) 36) = W1 at *
    go_wp2_with (first
      | (go_at_call 15; refine (cEmay b3 A3 c3 w.heap.size _ (h3.below y1) y1.size (by omega)).mono ?_; rintro e w4 ⟨rfl, x4⟩; rw [HM.out]; have y4 := y1.trans (x4.mono y1.size))
      | (go_at_call 12; refine (awake28 _).mono ?_; rintro e w10 ⟨rfl, b10⟩))
    go_ret
    exact ⟨rfl, y4.trans (b10.mono y4.size)⟩

/-! ### The row's step -/
set_option maxRecDepth 100000 in
theorem lifted (os : Os) (started : os.Started) (H : Type) (enc : TypeId × Value → H) :
    ReturnsInHanded {} Try.checked os 6 .any (Rows.errsQuoteSpec.pre6 enc Try.prog Try.f6 Rows.errsQuoteRow.domain false) (Rows.errsQuoteSpec.post enc Try.prog Try.f6 false true false false) := by
  refine returnsInHanded_of_change (C := Try.checked) own started (by kernel_rfl) Try.func6
    (ChangeSpec.witness6 (enc := enc) (C := Try.checked) false ⟨#[], #[.int .u32 0, .int .u8 0, .int .u8 0, .slice none 0 0], []⟩ 8 (by kernel_rfl) (by kernel_rfl) (by kernel_rfl) (by kernel_rfl)) ?_
  intro W base args ds gs before hval0 hW hcnd _
  have hval : ∀ (j : Nat) t v, Try.f6.params[j]? = some t → args[j]? = some v → Value.okWide Try.prog W .any base t v := hval0
  have hW' := hW
  obtain ⟨p, q, hA0, hV, rfl, hfz, hnd⟩ := hW
  have hA : DataW.TrodAll enc Try.prog W 0 (fun _ => true) true Try.f6.params.toList args.toList ds p := hA0
  rw [Try.params6] at hA hval
  obtain ⟨v0, vs0, d0, ds0, p0, q0, hargs, rfl, rfl, t0, r0⟩ := trodAll_cons hA
  obtain ⟨v1, vs1, d1, ds1, p1, q1, rfl, rfl, rfl, t1, r1⟩ := trodAll_cons r0
  obtain ⟨v2, vs2, d2, ds2, p2, q2, rfl, rfl, rfl, t2, r2⟩ := trodAll_cons r1
  obtain ⟨v3, vs3, d3, ds3, p3, q3, rfl, rfl, rfl, t3, r3⟩ := trodAll_cons r2
  obtain ⟨rfl, rfl, rfl⟩ := trodAll_nil r3
  obtain rfl : args = #[v0, v1, v2, v3] := by cases args; simp_all
  obtain ⟨rfl, rfl⟩ := trodVars_none hV
  have k0 := t0
  have lt0 := Trod_lt t0
  have k1 := t1
  have lt1 := Trod_lt t1
  have k2 := t2
  have lt2 := Trod_lt t2
  have k3 := t3
  have lt3 := Trod_lt t3
  obtain ⟨a0, rfl, w0⟩ := get_int Try.underlying45 (hval 0 45 v0 rfl rfl) t0
  obtain ⟨a1, rfl, w1⟩ := get_int Try.underlying5 (hval 1 5 v1 rfl rfl) t1
  obtain ⟨a2, rfl, w2⟩ := get_int Try.underlying5 (hval 2 5 v2 rfl rfl) t2
  obtain ⟨A3, c3, b3, rfl, h3, m3⟩ := get_bytes Try.underlying34 Try.underlying5 (by kernel_rfl) (hval 3 34 v3 rfl rfl) t3
  clear hA0 hval0
  refine (walk a0 a1 a2 A3 c3 b3 W w0 w1 w2 h3 m3).mono fun e W' ⟨he, bel⟩ => ?_
  subst he
  exact ⟨_, rfl, _, _, _, [], _, [], hW', trodAll_mk1 (shut_bool Try.underlying4 _), (trodAll_cons_mk (Below.trod laidOut (by kernel_rfl) (of_decide_eq_true (by kernel_rfl)) k0 bel lt0) (trodAll_cons_mk (Below.trod laidOut (by kernel_rfl) (of_decide_eq_true (by kernel_rfl)) k1 bel lt1) (trodAll_cons_mk (Below.trod laidOut (by kernel_rfl) (of_decide_eq_true (by kernel_rfl)) k2 bel lt2) (trodAll_cons_mk (Below.trod laidOut (by kernel_rfl) (of_decide_eq_true (by kernel_rfl)) k3 bel lt3) trodAll_mk0)))), rfl, bel.frame _, fun h => by cases h⟩

theorem over : Rows.errsQuoteRow.holds Try.pinned (OpenSpec.ofChange Rows.errsQuoteSpec) :=
  OpenClaim.holds_of_wide 6 Try.f6 rfl rfl rfl rfl rfl rfl rfl ⟨rfl, rfl, rfl, rfl, rfl⟩ rfl rfl rfl rfl rfl (by kernel_rfl) Try.func6 (by kernel_rfl)
    (of_decide_eq_true (by kernel_rfl)) (by unfold Func.isWrapper; first | (rw [if_pos (by decide +kernel)]; kernel_rfl) | (rw [if_neg (by decide +kernel)]; exact ⟨rfl, rfl⟩))
    (fun os started H enc _ => lifted os started H enc)

theorem proved : Rows.ErrsQuoteSaid := over
end Go.Proofs.Ytjgcpaepaocigaa.errsQuote
