/-
  For all bytes, addresses and ports goosepondlaw26.QuotePorts answers true: what comes from another endpoint has its ports, and as many bytes; nothing but addresses, ports and sums is changed. Conditions: none but the statement's own.
-/
import Derived.Test.YtkgbjohadkbjaaaRows
import Derived.WalkKit
import Derived.ProofKit
import Derived.OpenShut
import Derived.ChangeOld
import Derived.Below
import Derived.Test.YtkgbjohadkbjaaaQa2
import Derived.Test.YtkgbjohadkbjaaaQa13
import Derived.Test.YtkgbjohadkbjaaaQa14
namespace Go.Proofs.Ytkgbjohadkbjaaa.quotePorts
open Go.ChangeShapes Go.WideShapes Go.ChangeAt Go.RowKit
set_option linter.unusedVariables false
attribute [local go_sem] Oper.semAt_some

theorem own : ownKnob Try.prog.godebug = none := by kernel_rfl
theorem laidOut : laidOutB Try.prog = true := by kernel_rfl

/-! ### The walk -/
set_option maxRecDepth 100000 in
set_option maxHeartbeats 4000000 in
theorem walk (A0 : Option Addr) (c0 : Nat) (b0 : List UInt8) (a1 : Int) (a2 : Int) (w : World) (h0 : Arg w w.heap.size A0 c0 b0) (m0 : c0 ≤ maxLen) (w1 : (Lit.int .i64 a1).wf = true) (w2 : (Lit.int .i64 a2).wf = true) :
    Calls Try.prog 9 #[.slice A0 b0.length c0, .int .i64 a1, .int .i64 a2] w fun e w' => e = .returned (.bool true) ∧ Below w.heap.size w w' := by
  by_cases hbig : 2000 < b0.length
  · have d0 : decide (2000 < (b0.length : Int)) = true := by simp; omega
    go_enter Try.func9, Try.ntmps9
    go_wp2_with (go_at_call 22; refine (awake26 _).mono ?_; rintro e w10 ⟨rfl, b10⟩)
    go_ret
    exact ⟨rfl, b10⟩
  · have d0 : decide (2000 < (b0.length : Int)) = false := by simp; omega
    have hl : b0.length ≤ 1000000 := by omega
    clear hbig
    obtain ⟨QV, hQV⟩ : ∃ x, x = qV b0 := ⟨_, rfl⟩
    obtain ⟨QE, hQE⟩ : ∃ x, x = qE b0 := ⟨_, rfl⟩
    obtain ⟨PQ, hPQ⟩ : ∃ x : Pq, x = ⟨poP b0, poN b0 true, poN b0 false⟩ := ⟨_, rfl⟩
    have hpo : poV b0 = .agg (pqa PQ) := by rw [hPQ]; rfl
    obtain ⟨FE, hFE⟩ : ∃ x, x = frE b0 a1 a2 := ⟨_, rfl⟩
    obtain ⟨FV, hFV⟩ : ∃ x, x = frV b0 true a1 a2 := ⟨_, rfl⟩
    obtain ⟨TV, hTV⟩ : ∃ x, x = frV b0 false a1 a2 := ⟨_, rfl⟩
    have HP : Hid (∀ U, Below w.heap.size w U → Calls Try.prog 24 #[.slice A0 b0.length c0] U fun e w' => ∃ P p P' p', e = .returned (.tuple #[v4v QV P p P' p', .agg (pqa PQ), .int .i64 QE]) ∧ Made U w' (.slice P (QV).opt.length p) (QV).opt ∧ Made U w' (.slice P' (QV).dat.length p') (QV).dat) := Lib.hid (fun U hU => by
      have := cqports b0 A0 c0 w.heap.size U (h0.below hU) hU.size hl
      rw [← hQV, ← hQE, hpo] at this
      exact this)
    have HF1 : Hid (∀ U, Below w.heap.size w U → Calls Try.prog 26 #[.slice A0 b0.length c0, .int .i64 a1, .int .i64 a2] U fun e w' => ∃ P p, e = .returned (.tuple #[.slice P FV.length p, .int .i64 FE]) ∧ Made U w' (.slice P FV.length p) FV) := Lib.hid (fun U hU => by
      have := cqfrom b0 A0 c0 w.heap.size a1 a2 U (h0.below hU) hU.size hl
      rw [← hFE, ← hFV] at this
      exact this)
    have HT1 : Hid (∀ U, Below w.heap.size w U → Calls Try.prog 28 #[.slice A0 b0.length c0, .int .i64 a1, .int .i64 a2] U fun e w' => ∃ P p, e = .returned (.tuple #[.slice P TV.length p, .int .i64 FE]) ∧ Made U w' (.slice P TV.length p) TV) := Lib.hid (fun U hU => by
      have := cqto b0 A0 c0 w.heap.size a1 a2 U (h0.below hU) hU.size hl
      rw [← hFE, ← hTV] at this
      exact this)
    have EFE := Lib.hid hFE
    have EFV := Lib.hid hFV
    have ETV := Lib.hid hTV
    have EQV := Lib.hid hQV
    have EPQ := Lib.hid hPQ
    have EFE2 := Lib.hid (show FE = if QE ≠ 0 then QE else if fitsB a1 4 = true ∧ fitsB a2 2 = true then 0 else 1 from by rw [hFE, frE, ← hQE])
    clear hQV hQE hPQ hpo hFE hFV hTV
    have hB0 := Below.refl w.heap.size w
    go_enter Try.func9, Try.ntmps9
    go_upto_region 4 with (first
      | (go_at_call 24; refine (HP.out w hB0).mono ?_; rintro e w1 ⟨P, p, P', p', rfl, m1o, m1d⟩)
      | ((with_reducible show wpList _ _ _ (Oper.mk _ (Op.store 48 _ _) _ _ _ _ :: _) _ _); refine v4_store (g := w1.heap.size) (cs := v4a QV P p P' p') rfl rfl (two_firstQ w1 _ _) rfl rfl (v4a_one _ _ _ _ _) ?_)
      | ((with_reducible show wpList _ _ _ (Oper.mk _ (Op.store 50 _ _) _ _ _ _ :: _) _ _); refine pq_store (g := w1.heap.size + 1) (cs := pqa PQ) rfl rfl ((setRow_other _ _ _ _ (by omega)).trans (two_heap w1 _ _)) rfl rfl (pq_one _) ?_))
    obtain ⟨x1, g1a, g1b⟩ := two_boxes2 w1 #[.int .i64 0, .int .i64 0, .int .i64 0, .int .i64 0, .int .i64 0, .int .i64 0, .int .i64 0, .bool false, .bool false, .slice none 0 0, .slice none 0 0] #[.int .i64 0, .int .i64 0, .int .i64 0] (v4a QV P p P' p') (pqa PQ) 48 50
    generalize (((w1.alloc (.cells #[.int .i64 0, .int .i64 0, .int .i64 0, .int .i64 0, .int .i64 0, .int .i64 0, .int .i64 0, .bool false, .bool false, .slice none 0 0, .slice none 0 0] 48)).alloc (.cells #[.int .i64 0, .int .i64 0, .int .i64 0] 50)).setRow w1.heap.size (v4a QV P p P' p')).setRow (w1.heap.size + 1) (pqa PQ) = V1 at *
    have hb1 := m1o.below.trans (x1.mono m1o.below.size)
    have at1 := At4.ofh g1a
    have ap1 := Atpq.of_heap g1b
    have l1a := heap_lt g1a
    have l1b := heap_lt g1b
    clear m1o m1d x1 g1a g1b
    go_upto_region 6 with (first
      | (go_at_call 26; refine (HF1.out V1 hb1).mono ?_; rintro e w2 ⟨P4, p4, rfl, m4⟩; obtain ⟨_, _, e4, g4, _, x4⟩ := made_shape m4; cases e4; clear m4; have hb2 := hb1.trans (x4.mono hb1.size))
      | (go_at_call 28; refine (HT1.out w2 hb2).mono ?_; rintro e w3 ⟨P5, p5, rfl, m5⟩; obtain ⟨_, _, e5, g5, _, x5⟩ := made_shape m5; cases e5; clear m5; have hb3 := hb2.trans (x5.mono hb2.size)))
    by_cases hF : FE = 0
    · subst hF
      obtain ⟨hE0, ha, hn⟩ := frE_zero EFE.out.symm
      obtain ⟨q, H, hq⟩ := qE_quo hE0
      have e1 : FV = putQ b0 q H true a1 a2 := by rw [EFV.out, frV_quo hq EFE.out.symm]
      have e2 : TV = putQ b0 q H false a1 a2 := by rw [ETV.out, frV_quo hq EFE.out.symm]
      have e3 : QV = q := by rw [EQV.out, hq.qv]
      have e4 : PQ = ⟨q.proto, n2 q.dat (ppQ q.proto true), n2 q.dat (ppQ q.proto false)⟩ := by rw [EPQ.out, hq.pp, hq.pn, hq.pn]
      obtain ⟨q1, hq1, r1, r2, r3, r4⟩ := putQ_quo hq true ha hn
      obtain ⟨q2, hq2, s1, s2, s3, s4⟩ := putQ_quo hq false ha hn
      rw [if_pos rfl] at r2
      rw [if_neg (by decide)] at s2
      rw [← e1] at hq1
      rw [← e2] at hq2
      have ll1 : FV.length = b0.length := by rw [e1]; exact putQ_len hq true a1 a2
      have ll2 : TV.length = b0.length := by rw [e2]; exact putQ_len hq false a1 a2
      have tk := putQ_ten hq true a1 a2
      rw [← e1] at tk
      have h20 := hq.h20
      have hle := hq.le
      obtain ⟨Z1, hZ1⟩ : ∃ x, x = n2 q1.dat (ppQ q.proto false) := ⟨_, rfl⟩
      obtain ⟨Z2, hZ2⟩ : ∃ x, x = n2 q2.dat (ppQ q.proto true) := ⟨_, rfl⟩
      obtain ⟨OS, hOS⟩ : ∃ x, x = n2 q.dat (ppQ q.proto true) := ⟨_, rfl⟩
      obtain ⟨OD, hOD⟩ : ∃ x, x = n2 q.dat (ppQ q.proto false) := ⟨_, rfl⟩
      have f1 : poV FV = .agg (pqa ⟨q.proto, a2, Z1⟩) := by
        rw [poV, hq1.pp, hq1.pn, hq1.pn, r1, r3, hZ1]; rfl
      have f2 : poV TV = .agg (pqa ⟨q.proto, Z2, a2⟩) := by
        rw [poV, hq2.pp, hq2.pn, hq2.pn, s1, s3, hZ2]; rfl
      rw [← hOS, ← hOD] at e4
      have hz1 : q.proto ≠ 1 → Z1 = OD := fun h => by rw [hZ1, hOD]; exact r4 h
      have hz2 : q.proto ≠ 1 → Z2 = OS := fun h => by rw [hZ2, hOS]; exact s4 h
      obtain ⟨r2a, r2b⟩ := r2
      obtain ⟨s2a, s2b⟩ := s2
      have HC : Hid (∀ U, Below w3.heap.size w3 U → Calls Try.prog 24 #[.slice P4 FV.length p4] U fun e w' => ∃ P p P' p', e = .returned (.tuple #[v4v q1 P p P' p', .agg (pqa ⟨q.proto, a2, Z1⟩), .int .i64 0]) ∧ Made U w' (.slice P (q1).opt.length p) (q1).opt ∧ Made U w' (.slice P' (q1).dat.length p') (q1).dat) := Lib.hid (fun U hU => by
        have := cqports FV P4 p4 w2.heap.size U ((g4.below x5).below (hU.mono x5.size)) (Nat.le_trans x5.size hU.size) (by omega)
        rw [f1, hq1.qv, hq1.qe] at this
        exact this)
      have HD : Hid (∀ U, Below w3.heap.size w3 U → Calls Try.prog 24 #[.slice P5 TV.length p5] U fun e w' => ∃ P p P' p', e = .returned (.tuple #[v4v q2 P p P' p', .agg (pqa ⟨q.proto, Z2, a2⟩), .int .i64 0]) ∧ Made U w' (.slice P (q2).opt.length p) (q2).opt ∧ Made U w' (.slice P' (q2).dat.length p') (q2).dat) := Lib.hid (fun U hU => by
        have := cqports TV P5 p5 w3.heap.size U (g5.below hU) hU.size (by omega)
        rw [f2, hq2.qv, hq2.qe] at this
        exact this)
      have at1 := (at1.below (x4.trans (x5.mono x4.size)) l1a)
      have ap1 := (ap1.below (x4.trans (x5.mono x4.size)) l1b)
      have z43 := x4.size
      have z53 := x5.size
      rw [e3] at at1
      rw [e4] at ap1
      have LL1 := Lib.hid ll1
      have dl1 : ((FV.length : Int) != (b0.length : Int)) = false := by rw [ll1]; simp
      have dl2 : ((TV.length : Int) != (b0.length : Int)) = false := by rw [ll2]; simp
      have TK := Lib.hid tk
      have HR2 := Lib.hid (And.intro r2a r2b)
      have HS2 := Lib.hid (And.intro s2a s2b)
      have HB3 := Below.refl w3.heap.size w3
      have hb20 : 20 ≤ b0.length := by omega
      clear e1 e2 e3 e4 r1 r2a r2b r3 r4 s1 s2a s2b s3 s4 ll1 ll2 tk hZ1 hZ2 hOS hOD f1 f2 hE0 hq1 hq2 x4
      go_upto_region 9 with (first
        | (go_at_call 24; refine (HC.out w3 HB3).mono ?_; rintro e w4 ⟨R, r, R', r', rfl, m4o, m4d⟩)
        | ((with_reducible show wpList _ _ _ (Oper.mk _ (Op.store 48 _ _) _ _ _ _ :: _) _ _); refine v4_store (g := w4.heap.size) (cs := v4a q1 R r R' r') rfl rfl (two_firstQ w4 _ _) rfl rfl (v4a_one _ _ _ _ _) ?_)
        | ((with_reducible show wpList _ _ _ (Oper.mk _ (Op.store 50 _ _) _ _ _ _ :: _) _ _); refine pq_store (g := w4.heap.size + 1) (cs := pqa ⟨q.proto, a2, Z1⟩) rfl rfl ((setRow_other _ _ _ _ (by omega)).trans (two_heap w4 _ _)) rfl rfl (pq_one _) ?_))
      obtain ⟨x4, g4a, g4b⟩ := two_boxes2 w4 #[.int .i64 0, .int .i64 0, .int .i64 0, .int .i64 0, .int .i64 0, .int .i64 0, .int .i64 0, .bool false, .bool false, .slice none 0 0, .slice none 0 0] #[.int .i64 0, .int .i64 0, .int .i64 0] (v4a q1 R r R' r') (pqa ⟨q.proto, a2, Z1⟩) 48 50
      generalize (((w4.alloc (.cells #[.int .i64 0, .int .i64 0, .int .i64 0, .int .i64 0, .int .i64 0, .int .i64 0, .int .i64 0, .bool false, .bool false, .slice none 0 0, .slice none 0 0] 48)).alloc (.cells #[.int .i64 0, .int .i64 0, .int .i64 0] 50)).setRow w4.heap.size (v4a q1 R r R' r')).setRow (w4.heap.size + 1) (pqa ⟨q.proto, a2, Z1⟩) = V4 at *
      have y4 : Below w3.heap.size w3 V4 := m4o.below.trans (x4.mono m4o.below.size)
      have at4 := At4.ofh g4a
      have ap4 := Atpq.of_heap g4b
      have l4a := heap_lt g4a
      have l4b := heap_lt g4b
      clear m4o m4d x4 g4a g4b
      go_upto_region 10 with (first
        | (go_at_call 24; refine (HD.out V4 y4).mono ?_; rintro e w5 ⟨S, s, S', s', rfl, m5o, m5d⟩)
        | ((with_reducible show wpList _ _ _ (Oper.mk _ (Op.store 48 _ _) _ _ _ _ :: _) _ _); refine v4_store (g := w5.heap.size) (cs := v4a q2 S s S' s') rfl rfl (two_firstQ w5 _ _) rfl rfl (v4a_one _ _ _ _ _) ?_)
        | ((with_reducible show wpList _ _ _ (Oper.mk _ (Op.store 50 _ _) _ _ _ _ :: _) _ _); refine pq_store (g := w5.heap.size + 1) (cs := pqa ⟨q.proto, Z2, a2⟩) rfl rfl ((setRow_other _ _ _ _ (by omega)).trans (two_heap w5 _ _)) rfl rfl (pq_one _) ?_))
      obtain ⟨x5b, g5a, g5b⟩ := two_boxes2 w5 #[.int .i64 0, .int .i64 0, .int .i64 0, .int .i64 0, .int .i64 0, .int .i64 0, .int .i64 0, .bool false, .bool false, .slice none 0 0, .slice none 0 0] #[.int .i64 0, .int .i64 0, .int .i64 0] (v4a q2 S s S' s') (pqa ⟨q.proto, Z2, a2⟩) 48 50
      generalize (((w5.alloc (.cells #[.int .i64 0, .int .i64 0, .int .i64 0, .int .i64 0, .int .i64 0, .int .i64 0, .int .i64 0, .bool false, .bool false, .slice none 0 0, .slice none 0 0] 48)).alloc (.cells #[.int .i64 0, .int .i64 0, .int .i64 0] 50)).setRow w5.heap.size (v4a q2 S s S' s')).setRow (w5.heap.size + 1) (pqa ⟨q.proto, Z2, a2⟩) = V5 at *
      have y5 : Below V4.heap.size V4 V5 := m5o.below.trans (x5b.mono m5o.below.size)
      have at5 := At4.ofh g5a
      have ap5 := Atpq.of_heap g5b
      have l5a := heap_lt g5a
      have l5b := heap_lt g5b
      clear m5o m5d x5b g5a g5b
      have z45 := y5.size
      have z34 := y4.size
      have y35 := y4.trans (y5.mono z34)
      have at1 := at1.below y35 (by omega)
      have ap1 := ap1.below y35 (by omega)
      have at4 := at4.below y5 l4a
      have ap4 := ap4.below y5 l4b
      have k1s := at1.src
      have k1d := at1.dst
      have k4s := at4.src
      have k4d := at4.dst
      have k5s := at5.src
      have k5d := at5.dst
      rw [HR2.out.1] at k4s
      rw [HR2.out.2] at k4d
      rw [HS2.out.1] at k5d
      rw [HS2.out.2] at k5s
      have hb5 := hb3.trans (y35.mono hb3.size)
      go_upto_region 12 with fail
      have F1 : ∀ U, Below V5.heap.size V5 U → U.cell? ⟨w4.heap.size + 1, 1, none⟩ = some (.int .i64 a2) := fun U h => (h.cell (p := ⟨w4.heap.size + 1, 1, none⟩) (by show w4.heap.size + 1 < _; omega)).trans ap4.src
      have F2 : ∀ U, Below V5.heap.size V5 U → U.cell? ⟨w5.heap.size + 1, 2, none⟩ = some (.int .i64 a2) := fun U h => (h.cell (p := ⟨w5.heap.size + 1, 2, none⟩) l5b).trans ap5.dst
      have F3 : ∀ U, Below V5.heap.size V5 U → U.cell? ⟨w1.heap.size, 4, none⟩ = some (.int .i64 q.proto) := fun U h => (h.cell (p := ⟨w1.heap.size, 4, none⟩) (by show w1.heap.size < _; omega)).trans at1.proto
      have F4 : ∀ U, Below V5.heap.size V5 U → U.cell? ⟨w4.heap.size + 1, 2, none⟩ = some (.int .i64 Z1) := fun U h => (h.cell (p := ⟨w4.heap.size + 1, 2, none⟩) (by show w4.heap.size + 1 < _; omega)).trans ap4.dst
      have F5 : ∀ U, Below V5.heap.size V5 U → U.cell? ⟨w1.heap.size + 1, 2, none⟩ = some (.int .i64 OD) := fun U h => (h.cell (p := ⟨w1.heap.size + 1, 2, none⟩) (by show w1.heap.size + 1 < _; omega)).trans ap1.dst
      have F6 : ∀ U, Below V5.heap.size V5 U → U.cell? ⟨w5.heap.size + 1, 1, none⟩ = some (.int .i64 Z2) := fun U h => (h.cell (p := ⟨w5.heap.size + 1, 1, none⟩) l5b).trans ap5.src
      have F7 : ∀ U, Below V5.heap.size V5 U → U.cell? ⟨w1.heap.size + 1, 1, none⟩ = some (.int .i64 OS) := fun U h => (h.cell (p := ⟨w1.heap.size + 1, 1, none⟩) (by show w1.heap.size + 1 < _; omega)).trans ap1.src
      have hc1 := g4.cap
      have hc0 := h0.cap
      have hlF : 10 ≤ FV.length := by rw [LL1.out]; omega
      have hX10 : (b0.take 10).length = 10 := by simp; omega
      have EQ : Hid (∀ U, Below V5.heap.size V5 U → Calls Try.prog 31 #[.slice P4 10 p4, .slice A0 10 c0] U fun e w' => e = .returned (.bool true) ∧ U = w') := Lib.hid (fun U hU => by
        have c1 := (((g4.below x5).below ((y35.trans (hU.mono y35.size)).mono z53)).cut_hi 10 hlF).rd
        have c2 := ((h0.below (hb5.trans (hU.mono hb5.size))).cut_hi 10 (by omega)).rd
        rw [TK.out] at c1
        have := equal_same P4 A0 (b0.take 10) p4 c0 _ _ U c1 c2
        rw [hX10] at this
        exact this)
      clear hX10 k1s k1d k4s k4d k5s k5d
      by_cases hp : q.proto = 1
      · have d1 : (q.proto == 1) = true := by simpa using hp
        clear hp hz1 hz2
        refine wp_region_held_drew (S := fun w' => Below V5.heap.size V5 w') (by kernel_rfl) (Below.refl _ V5).drew (fun hS => ?_)
        refine held_pure (i := 0) (oi := ⟨some 123, _, _, _, _, _⟩) rfl (by kernel_rfl) (by kernel_rfl) (by kernel_rfl) (fun _ _ _ h => h) (by rfl) (v := ?_) (fun w hSw => ?_) hS (fun hS => ?_)
        rotate_left
        · go_simp; try with_reducible rfl
        try go_frame
        refine held_pure (i := 1) (oi := ⟨some 124, _, _, _, _, _⟩) rfl (by kernel_rfl) (by kernel_rfl) (by kernel_rfl) (fun _ _ _ h => h) (by rfl) (fun w hSw => run_load_int rfl rfl (F1 _ hSw)) hS (fun hS => ?_)
        try go_frame
        refine held_pure (i := 2) (oi := ⟨some 125, _, _, _, _, _⟩) rfl (by kernel_rfl) (by kernel_rfl) (by kernel_rfl) (fun _ _ _ h => h) (by rfl) (v := ?_) (fun w hSw => ?_) hS (fun hS => ?_)
        rotate_left
        · go_simp; try with_reducible rfl
        try go_frame
        refine held_pure (i := 3) (oi := ⟨some 126, _, _, _, _, _⟩) rfl (by kernel_rfl) (by kernel_rfl) (by kernel_rfl) (fun _ _ _ h => h) (by rfl) (v := ?_) (fun w hSw => ?_) hS (fun hS => ?_)
        rotate_left
        · go_simp; try with_reducible rfl
        try go_frame
        refine held_pure (i := 4) (oi := ⟨some 127, _, _, _, _, _⟩) rfl (by kernel_rfl) (by kernel_rfl) (by kernel_rfl) (fun _ _ _ h => h) (by rfl) (v := ?_) (fun w hSw => ?_) hS (fun hS => ?_)
        rotate_left
        · go_simp; try with_reducible rfl
        try go_frame
        refine held_pure (i := 5) (oi := ⟨some 128, _, _, _, _, _⟩) rfl (by kernel_rfl) (by kernel_rfl) (by kernel_rfl) (fun _ _ _ h => h) (by rfl) (v := ?_) (fun w hSw => ?_) hS (fun hS => ?_)
        rotate_left
        · go_simp; try with_reducible rfl
        try go_frame
        refine held_pure (i := 6) (oi := ⟨some 129, _, _, _, _, _⟩) rfl (by kernel_rfl) (by kernel_rfl) (by kernel_rfl) (fun _ _ _ h => h) (by rfl) (fun w hSw => run_load_int rfl rfl (F2 _ hSw)) hS (fun hS => ?_)
        try go_frame
        refine held_pure (i := 7) (oi := ⟨some 130, _, _, _, _, _⟩) rfl (by kernel_rfl) (by kernel_rfl) (by kernel_rfl) (fun _ _ _ h => h) (by rfl) (v := ?_) (fun w hSw => ?_) hS (fun hS => ?_)
        rotate_left
        · go_simp; try with_reducible rfl
        try go_frame
        refine held_pure (i := 8) (oi := ⟨some 131, _, _, _, _, _⟩) rfl (by kernel_rfl) (by kernel_rfl) (by kernel_rfl) (fun _ _ _ h => h) (by rfl) (v := ?_) (fun w hSw => ?_) hS (fun hS => ?_)
        rotate_left
        · go_simp; try with_reducible rfl
        try go_frame
        refine held_pure (i := 9) (oi := ⟨some 132, _, _, _, _, _⟩) rfl (by kernel_rfl) (by kernel_rfl) (by kernel_rfl) (fun _ _ _ h => h) (by rfl) (v := ?_) (fun w hSw => ?_) hS (fun hS => ?_)
        rotate_left
        · go_simp; try with_reducible rfl
        try go_frame
        refine held_pure (i := 10) (oi := ⟨some 133, _, _, _, _, _⟩) rfl (by kernel_rfl) (by kernel_rfl) (by kernel_rfl) (fun _ _ _ h => h) (by rfl) (v := ?_) (fun w hSw => ?_) hS (fun hS => ?_)
        rotate_left
        · go_simp; try with_reducible rfl
        try go_frame
        refine held_pure (i := 11) (oi := ⟨some 134, _, _, _, _, _⟩) rfl (by kernel_rfl) (by kernel_rfl) (by kernel_rfl) (fun _ _ _ h => h) (by rfl) (v := ?_) (fun w hSw => ?_) hS (fun hS => ?_)
        rotate_left
        · go_simp; try with_reducible rfl
        try go_frame
        refine held_pure (i := 12) (oi := ⟨some 135, _, _, _, _, _⟩) rfl (by kernel_rfl) (by kernel_rfl) (by kernel_rfl) (fun _ _ _ h => h) (by rfl) (fun w hSw => run_load_int rfl rfl (F3 _ hSw)) hS (fun hS => ?_)
        try go_frame
        refine held_pure (i := 13) (oi := ⟨some 136, _, _, _, _, _⟩) rfl (by kernel_rfl) (by kernel_rfl) (by kernel_rfl) (fun _ _ _ h => h) (by rfl) (v := ?_) (fun w hSw => ?_) hS (fun hS => ?_)
        rotate_left
        · go_simp; try with_reducible rfl
        try go_frame
        refine held_pure (i := 14) (oi := ⟨some 137, _, _, _, _, _⟩) rfl (by kernel_rfl) (by kernel_rfl) (by kernel_rfl) (fun _ _ _ h => h) (by rfl) (v := ?_) (fun w hSw => ?_) hS (fun hS => ?_)
        rotate_left
        · go_simp; try with_reducible rfl
        try go_frame
        refine held_skip (i := 15) (oi := ⟨some 138, _, _, _, _, _⟩) rfl (by kernel_rfl) (by kernel_rfl) (by kernel_rfl) (fun _ _ _ h => h) (by rfl) hS (fun hS => ?_)
        try go_frame
        refine held_skip (i := 16) (oi := ⟨some 139, _, _, _, _, _⟩) rfl (by kernel_rfl) (by kernel_rfl) (by kernel_rfl) (fun _ _ _ h => h) (by rfl) hS (fun hS => ?_)
        try go_frame
        refine held_skip (i := 17) (oi := ⟨some 140, _, _, _, _, _⟩) rfl (by kernel_rfl) (by kernel_rfl) (by kernel_rfl) (fun _ _ _ h => h) (by rfl) hS (fun hS => ?_)
        try go_frame
        refine held_skip (i := 18) (oi := ⟨some 141, _, _, _, _, _⟩) rfl (by kernel_rfl) (by kernel_rfl) (by kernel_rfl) (fun _ _ _ h => h) (by rfl) hS (fun hS => ?_)
        try go_frame
        refine held_skip (i := 19) (oi := ⟨some 142, _, _, _, _, _⟩) rfl (by kernel_rfl) (by kernel_rfl) (by kernel_rfl) (fun _ _ _ h => h) (by rfl) hS (fun hS => ?_)
        try go_frame
        refine held_skip (i := 20) (oi := ⟨some 143, _, _, _, _, _⟩) rfl (by kernel_rfl) (by kernel_rfl) (by kernel_rfl) (fun _ _ _ h => h) (by rfl) hS (fun hS => ?_)
        try go_frame
        refine held_skip (i := 21) (oi := ⟨some 144, _, _, _, _, _⟩) rfl (by kernel_rfl) (by kernel_rfl) (by kernel_rfl) (fun _ _ _ h => h) (by rfl) hS (fun hS => ?_)
        try go_frame
        refine held_skip (i := 22) (oi := ⟨some 145, _, _, _, _, _⟩) rfl (by kernel_rfl) (by kernel_rfl) (by kernel_rfl) (fun _ _ _ h => h) (by rfl) hS (fun hS => ?_)
        try go_frame
        refine held_skip (i := 23) (oi := ⟨some 146, _, _, _, _, _⟩) rfl (by kernel_rfl) (by kernel_rfl) (by kernel_rfl) (fun _ _ _ h => h) (by rfl) hS (fun hS => ?_)
        try go_frame
        refine held_skip (i := 24) (oi := ⟨some 147, _, _, _, _, _⟩) rfl (by kernel_rfl) (by kernel_rfl) (by kernel_rfl) (fun _ _ _ h => h) (by rfl) hS (fun hS => ?_)
        try go_frame
        refine held_skip (i := 25) (oi := ⟨some 148, _, _, _, _, _⟩) rfl (by kernel_rfl) (by kernel_rfl) (by kernel_rfl) (fun _ _ _ h => h) (by rfl) hS (fun hS => ?_)
        try go_frame
        refine held_skip (i := 26) (oi := ⟨some 149, _, _, _, _, _⟩) rfl (by kernel_rfl) (by kernel_rfl) (by kernel_rfl) (fun _ _ _ h => h) (by rfl) hS (fun hS => ?_)
        try go_frame
        refine held_pure (i := 27) (oi := ⟨some 150, _, _, _, _, _⟩) rfl (by kernel_rfl) (by kernel_rfl) (by kernel_rfl) (fun _ _ _ h => h) (by rfl) (v := ?_) (fun w hSw => ?_) hS (fun hS => ?_)
        rotate_left
        · go_simp; try with_reducible rfl
        try go_frame
        refine held_pure (i := 28) (oi := ⟨some 151, _, _, _, _, _⟩) rfl (by kernel_rfl) (by kernel_rfl) (by kernel_rfl) (fun _ _ _ h => h) (by rfl) (v := ?_) (fun w hSw => ?_) hS (fun hS => ?_)
        rotate_left
        · go_simp; try with_reducible rfl
        try go_frame
        refine held_pure (i := 29) (oi := ⟨some 152, _, _, _, _, _⟩) rfl (by kernel_rfl) (by kernel_rfl) (by kernel_rfl) (fun _ _ _ h => h) (by rfl) (v := ?_) (fun w hSw => ?_) hS (fun hS => ?_)
        rotate_left
        · go_simp; try with_reducible rfl
        try go_frame
        refine held_pure (i := 30) (oi := ⟨some 153, _, _, _, _, _⟩) rfl (by kernel_rfl) (by kernel_rfl) (by kernel_rfl) (fun _ _ _ h => h) (by rfl) (v := ?_) (fun w hSw => ?_) hS (fun hS => ?_)
        rotate_left
        · go_simp; try with_reducible rfl
        try go_frame
        refine held_pure (i := 31) (oi := ⟨some 154, _, _, _, _, _⟩) rfl (by kernel_rfl) (by kernel_rfl) (by kernel_rfl) (fun _ _ _ h => h) (by rfl) (fun w hSw => run_cut_h rfl rfl rfl (by omega) (by omega) (m := 10) rfl) hS (fun hS => ?_)
        try go_frame
        refine held_pure (i := 32) (oi := ⟨some 155, _, _, _, _, _⟩) rfl (by kernel_rfl) (by kernel_rfl) (by kernel_rfl) (fun _ _ _ h => h) (by rfl) (v := ?_) (fun w hSw => ?_) hS (fun hS => ?_)
        rotate_left
        · go_simp; try with_reducible rfl
        try go_frame
        refine held_pure (i := 33) (oi := ⟨some 156, _, _, _, _, _⟩) rfl (by kernel_rfl) (by kernel_rfl) (by kernel_rfl) (fun _ _ _ h => h) (by rfl) (fun w hSw => run_cut_h rfl rfl rfl (by omega) (by omega) (m := 10) rfl) hS (fun hS => ?_)
        try go_frame
        refine wpAnyH_ready (rs := [34]) (by kernel_rfl) (by simp) (AllReadyH.cons (o := ⟨some 157, _, _, _, _, _⟩) rfl (fun K hK => ?_) AllReadyH.nil)
        rw [if_pos (by rfl)]
        go_simp
        refine (EQ.out _ hS).mono ?_
        rintro e y34 ⟨rfl, rfl⟩
        show K _ _
        refine hK.out _ _ hS (fun hS => ?_)
        clear hK K
        try go_frame
        refine held_pure (i := 35) (oi := ⟨some 158, _, _, _, _, _⟩) rfl (by kernel_rfl) (by kernel_rfl) (by kernel_rfl) (fun _ _ _ h => h) (by rfl) (v := ?_) (fun w hSw => ?_) hS (fun hS => ?_)
        rotate_left
        · go_simp; try with_reducible rfl
        try go_frame
        refine held_pure (i := 36) (oi := ⟨some 159, _, _, _, _, _⟩) rfl (by kernel_rfl) (by kernel_rfl) (by kernel_rfl) (fun _ _ _ h => h) (by rfl) (v := ?_) (fun w hSw => ?_) hS (fun hS => ?_)
        rotate_left
        · go_simp; try with_reducible rfl
        try go_frame
        refine wpAnyH_ready (rs := [37]) (by kernel_rfl) (by simp) (AllReadyH.cons (o := ⟨some 160, _, _, _, _, _⟩) rfl (fun K hK => ?_) AllReadyH.nil)
        rw [if_pos (by rfl)]
        go_simp
        refine (awake26 _).mono ?_
        rintro e y37 ⟨rfl, z37⟩
        show K _ _
        refine hK.out _ _ (below_step hS z37) (fun hS => ?_)
        clear hK K
        try go_frame
        refine held_pure (i := 38) (oi := ⟨some 161, _, _, _, _, _⟩) rfl (by kernel_rfl) (by kernel_rfl) (by kernel_rfl) (fun _ _ _ h => h) (by rfl) (v := ?_) (fun w hSw => ?_) hS (fun hS => ?_)
        rotate_left
        · go_simp; try with_reducible rfl
        try go_frame
        refine held_pure (i := 39) (oi := ⟨some 6, _, _, _, _, _⟩) rfl (by kernel_rfl) (by kernel_rfl) (by kernel_rfl) (fun _ _ _ h => h) (by rfl) (v := ?_) (fun w hSw => ?_) hS (fun hS => ?_)
        rotate_left
        · go_simp; try with_reducible rfl
        try go_frame
        refine wpAnyH_done (by kernel_rfl) ?_ _
        go_wp2_with fail
        go_ret
        exact ⟨rfl, hb5.trans (hS.mono hb5.size)⟩
      · have d1 : (q.proto == 1) = false := by simpa using hp
        obtain rfl := hz1 hp
        obtain rfl := hz2 hp
        clear hp hz1 hz2
        refine wp_region_held_drew (S := fun w' => Below V5.heap.size V5 w') (by kernel_rfl) (Below.refl _ V5).drew (fun hS => ?_)
        refine held_pure (i := 0) (oi := ⟨some 123, _, _, _, _, _⟩) rfl (by kernel_rfl) (by kernel_rfl) (by kernel_rfl) (fun _ _ _ h => h) (by rfl) (v := ?_) (fun w hSw => ?_) hS (fun hS => ?_)
        rotate_left
        · go_simp; try with_reducible rfl
        try go_frame
        refine held_pure (i := 1) (oi := ⟨some 124, _, _, _, _, _⟩) rfl (by kernel_rfl) (by kernel_rfl) (by kernel_rfl) (fun _ _ _ h => h) (by rfl) (fun w hSw => run_load_int rfl rfl (F1 _ hSw)) hS (fun hS => ?_)
        try go_frame
        refine held_pure (i := 2) (oi := ⟨some 125, _, _, _, _, _⟩) rfl (by kernel_rfl) (by kernel_rfl) (by kernel_rfl) (fun _ _ _ h => h) (by rfl) (v := ?_) (fun w hSw => ?_) hS (fun hS => ?_)
        rotate_left
        · go_simp; try with_reducible rfl
        try go_frame
        refine held_pure (i := 3) (oi := ⟨some 126, _, _, _, _, _⟩) rfl (by kernel_rfl) (by kernel_rfl) (by kernel_rfl) (fun _ _ _ h => h) (by rfl) (v := ?_) (fun w hSw => ?_) hS (fun hS => ?_)
        rotate_left
        · go_simp; try with_reducible rfl
        try go_frame
        refine held_pure (i := 4) (oi := ⟨some 127, _, _, _, _, _⟩) rfl (by kernel_rfl) (by kernel_rfl) (by kernel_rfl) (fun _ _ _ h => h) (by rfl) (v := ?_) (fun w hSw => ?_) hS (fun hS => ?_)
        rotate_left
        · go_simp; try with_reducible rfl
        try go_frame
        refine held_pure (i := 5) (oi := ⟨some 128, _, _, _, _, _⟩) rfl (by kernel_rfl) (by kernel_rfl) (by kernel_rfl) (fun _ _ _ h => h) (by rfl) (v := ?_) (fun w hSw => ?_) hS (fun hS => ?_)
        rotate_left
        · go_simp; try with_reducible rfl
        try go_frame
        refine held_pure (i := 6) (oi := ⟨some 129, _, _, _, _, _⟩) rfl (by kernel_rfl) (by kernel_rfl) (by kernel_rfl) (fun _ _ _ h => h) (by rfl) (fun w hSw => run_load_int rfl rfl (F2 _ hSw)) hS (fun hS => ?_)
        try go_frame
        refine held_pure (i := 7) (oi := ⟨some 130, _, _, _, _, _⟩) rfl (by kernel_rfl) (by kernel_rfl) (by kernel_rfl) (fun _ _ _ h => h) (by rfl) (v := ?_) (fun w hSw => ?_) hS (fun hS => ?_)
        rotate_left
        · go_simp; try with_reducible rfl
        try go_frame
        refine held_pure (i := 8) (oi := ⟨some 131, _, _, _, _, _⟩) rfl (by kernel_rfl) (by kernel_rfl) (by kernel_rfl) (fun _ _ _ h => h) (by rfl) (v := ?_) (fun w hSw => ?_) hS (fun hS => ?_)
        rotate_left
        · go_simp; try with_reducible rfl
        try go_frame
        refine held_pure (i := 9) (oi := ⟨some 132, _, _, _, _, _⟩) rfl (by kernel_rfl) (by kernel_rfl) (by kernel_rfl) (fun _ _ _ h => h) (by rfl) (v := ?_) (fun w hSw => ?_) hS (fun hS => ?_)
        rotate_left
        · go_simp; try with_reducible rfl
        try go_frame
        refine held_pure (i := 10) (oi := ⟨some 133, _, _, _, _, _⟩) rfl (by kernel_rfl) (by kernel_rfl) (by kernel_rfl) (fun _ _ _ h => h) (by rfl) (v := ?_) (fun w hSw => ?_) hS (fun hS => ?_)
        rotate_left
        · go_simp; try with_reducible rfl
        try go_frame
        refine held_pure (i := 11) (oi := ⟨some 134, _, _, _, _, _⟩) rfl (by kernel_rfl) (by kernel_rfl) (by kernel_rfl) (fun _ _ _ h => h) (by rfl) (v := ?_) (fun w hSw => ?_) hS (fun hS => ?_)
        rotate_left
        · go_simp; try with_reducible rfl
        try go_frame
        refine held_pure (i := 12) (oi := ⟨some 135, _, _, _, _, _⟩) rfl (by kernel_rfl) (by kernel_rfl) (by kernel_rfl) (fun _ _ _ h => h) (by rfl) (fun w hSw => run_load_int rfl rfl (F3 _ hSw)) hS (fun hS => ?_)
        try go_frame
        refine held_pure (i := 13) (oi := ⟨some 136, _, _, _, _, _⟩) rfl (by kernel_rfl) (by kernel_rfl) (by kernel_rfl) (fun _ _ _ h => h) (by rfl) (v := ?_) (fun w hSw => ?_) hS (fun hS => ?_)
        rotate_left
        · go_simp; try with_reducible rfl
        try go_frame
        refine held_pure (i := 14) (oi := ⟨some 137, _, _, _, _, _⟩) rfl (by kernel_rfl) (by kernel_rfl) (by kernel_rfl) (fun _ _ _ h => h) (by rfl) (v := ?_) (fun w hSw => ?_) hS (fun hS => ?_)
        rotate_left
        · go_simp; try with_reducible rfl
        try go_frame
        refine held_pure (i := 15) (oi := ⟨some 138, _, _, _, _, _⟩) rfl (by kernel_rfl) (by kernel_rfl) (by kernel_rfl) (fun _ _ _ h => h) (by rfl) (v := ?_) (fun w hSw => ?_) hS (fun hS => ?_)
        rotate_left
        · go_simp; try with_reducible rfl
        try go_frame
        refine held_pure (i := 16) (oi := ⟨some 139, _, _, _, _, _⟩) rfl (by kernel_rfl) (by kernel_rfl) (by kernel_rfl) (fun _ _ _ h => h) (by rfl) (fun w hSw => run_load_int rfl rfl (F4 _ hSw)) hS (fun hS => ?_)
        try go_frame
        refine held_pure (i := 17) (oi := ⟨some 140, _, _, _, _, _⟩) rfl (by kernel_rfl) (by kernel_rfl) (by kernel_rfl) (fun _ _ _ h => h) (by rfl) (v := ?_) (fun w hSw => ?_) hS (fun hS => ?_)
        rotate_left
        · go_simp; try with_reducible rfl
        try go_frame
        refine held_pure (i := 18) (oi := ⟨some 141, _, _, _, _, _⟩) rfl (by kernel_rfl) (by kernel_rfl) (by kernel_rfl) (fun _ _ _ h => h) (by rfl) (fun w hSw => run_load_int rfl rfl (F5 _ hSw)) hS (fun hS => ?_)
        try go_frame
        refine held_pure (i := 19) (oi := ⟨some 142, _, _, _, _, _⟩) rfl (by kernel_rfl) (by kernel_rfl) (by kernel_rfl) (fun _ _ _ h => h) (by rfl) (v := ?_) (fun w hSw => ?_) hS (fun hS => ?_)
        rotate_left
        · go_simp; try with_reducible rfl
        try go_frame
        refine held_pure (i := 20) (oi := ⟨some 143, _, _, _, _, _⟩) rfl (by kernel_rfl) (by kernel_rfl) (by kernel_rfl) (fun _ _ _ h => h) (by rfl) (v := ?_) (fun w hSw => ?_) hS (fun hS => ?_)
        rotate_left
        · go_simp; try with_reducible rfl
        try go_frame
        refine held_pure (i := 21) (oi := ⟨some 144, _, _, _, _, _⟩) rfl (by kernel_rfl) (by kernel_rfl) (by kernel_rfl) (fun _ _ _ h => h) (by rfl) (v := ?_) (fun w hSw => ?_) hS (fun hS => ?_)
        rotate_left
        · go_simp; try with_reducible rfl
        try go_frame
        refine held_pure (i := 22) (oi := ⟨some 145, _, _, _, _, _⟩) rfl (by kernel_rfl) (by kernel_rfl) (by kernel_rfl) (fun _ _ _ h => h) (by rfl) (fun w hSw => run_load_int rfl rfl (F6 _ hSw)) hS (fun hS => ?_)
        try go_frame
        refine held_pure (i := 23) (oi := ⟨some 146, _, _, _, _, _⟩) rfl (by kernel_rfl) (by kernel_rfl) (by kernel_rfl) (fun _ _ _ h => h) (by rfl) (v := ?_) (fun w hSw => ?_) hS (fun hS => ?_)
        rotate_left
        · go_simp; try with_reducible rfl
        try go_frame
        refine held_pure (i := 24) (oi := ⟨some 147, _, _, _, _, _⟩) rfl (by kernel_rfl) (by kernel_rfl) (by kernel_rfl) (fun _ _ _ h => h) (by rfl) (fun w hSw => run_load_int rfl rfl (F7 _ hSw)) hS (fun hS => ?_)
        try go_frame
        refine held_pure (i := 25) (oi := ⟨some 148, _, _, _, _, _⟩) rfl (by kernel_rfl) (by kernel_rfl) (by kernel_rfl) (fun _ _ _ h => h) (by rfl) (v := ?_) (fun w hSw => ?_) hS (fun hS => ?_)
        rotate_left
        · go_simp; try with_reducible rfl
        try go_frame
        refine held_pure (i := 26) (oi := ⟨some 149, _, _, _, _, _⟩) rfl (by kernel_rfl) (by kernel_rfl) (by kernel_rfl) (fun _ _ _ h => h) (by rfl) (v := ?_) (fun w hSw => ?_) hS (fun hS => ?_)
        rotate_left
        · go_simp; try with_reducible rfl
        try go_frame
        refine held_pure (i := 27) (oi := ⟨some 150, _, _, _, _, _⟩) rfl (by kernel_rfl) (by kernel_rfl) (by kernel_rfl) (fun _ _ _ h => h) (by rfl) (v := ?_) (fun w hSw => ?_) hS (fun hS => ?_)
        rotate_left
        · go_simp; try with_reducible rfl
        try go_frame
        refine held_pure (i := 28) (oi := ⟨some 151, _, _, _, _, _⟩) rfl (by kernel_rfl) (by kernel_rfl) (by kernel_rfl) (fun _ _ _ h => h) (by rfl) (v := ?_) (fun w hSw => ?_) hS (fun hS => ?_)
        rotate_left
        · go_simp; try with_reducible rfl
        try go_frame
        refine held_pure (i := 29) (oi := ⟨some 152, _, _, _, _, _⟩) rfl (by kernel_rfl) (by kernel_rfl) (by kernel_rfl) (fun _ _ _ h => h) (by rfl) (v := ?_) (fun w hSw => ?_) hS (fun hS => ?_)
        rotate_left
        · go_simp; try with_reducible rfl
        try go_frame
        refine held_pure (i := 30) (oi := ⟨some 153, _, _, _, _, _⟩) rfl (by kernel_rfl) (by kernel_rfl) (by kernel_rfl) (fun _ _ _ h => h) (by rfl) (v := ?_) (fun w hSw => ?_) hS (fun hS => ?_)
        rotate_left
        · go_simp; try with_reducible rfl
        try go_frame
        refine held_pure (i := 31) (oi := ⟨some 154, _, _, _, _, _⟩) rfl (by kernel_rfl) (by kernel_rfl) (by kernel_rfl) (fun _ _ _ h => h) (by rfl) (fun w hSw => run_cut_h rfl rfl rfl (by omega) (by omega) (m := 10) rfl) hS (fun hS => ?_)
        try go_frame
        refine held_pure (i := 32) (oi := ⟨some 155, _, _, _, _, _⟩) rfl (by kernel_rfl) (by kernel_rfl) (by kernel_rfl) (fun _ _ _ h => h) (by rfl) (v := ?_) (fun w hSw => ?_) hS (fun hS => ?_)
        rotate_left
        · go_simp; try with_reducible rfl
        try go_frame
        refine held_pure (i := 33) (oi := ⟨some 156, _, _, _, _, _⟩) rfl (by kernel_rfl) (by kernel_rfl) (by kernel_rfl) (fun _ _ _ h => h) (by rfl) (fun w hSw => run_cut_h rfl rfl rfl (by omega) (by omega) (m := 10) rfl) hS (fun hS => ?_)
        try go_frame
        refine wpAnyH_ready (rs := [34]) (by kernel_rfl) (by simp) (AllReadyH.cons (o := ⟨some 157, _, _, _, _, _⟩) rfl (fun K hK => ?_) AllReadyH.nil)
        rw [if_pos (by rfl)]
        go_simp
        refine (EQ.out _ hS).mono ?_
        rintro e y34 ⟨rfl, rfl⟩
        show K _ _
        refine hK.out _ _ hS (fun hS => ?_)
        clear hK K
        try go_frame
        refine held_pure (i := 35) (oi := ⟨some 158, _, _, _, _, _⟩) rfl (by kernel_rfl) (by kernel_rfl) (by kernel_rfl) (fun _ _ _ h => h) (by rfl) (v := ?_) (fun w hSw => ?_) hS (fun hS => ?_)
        rotate_left
        · go_simp; try with_reducible rfl
        try go_frame
        refine held_pure (i := 36) (oi := ⟨some 159, _, _, _, _, _⟩) rfl (by kernel_rfl) (by kernel_rfl) (by kernel_rfl) (fun _ _ _ h => h) (by rfl) (v := ?_) (fun w hSw => ?_) hS (fun hS => ?_)
        rotate_left
        · go_simp; try with_reducible rfl
        try go_frame
        refine wpAnyH_ready (rs := [37]) (by kernel_rfl) (by simp) (AllReadyH.cons (o := ⟨some 160, _, _, _, _, _⟩) rfl (fun K hK => ?_) AllReadyH.nil)
        rw [if_pos (by rfl)]
        go_simp
        refine (awake26 _).mono ?_
        rintro e y37 ⟨rfl, z37⟩
        show K _ _
        refine hK.out _ _ (below_step hS z37) (fun hS => ?_)
        clear hK K
        try go_frame
        refine held_pure (i := 38) (oi := ⟨some 161, _, _, _, _, _⟩) rfl (by kernel_rfl) (by kernel_rfl) (by kernel_rfl) (fun _ _ _ h => h) (by rfl) (v := ?_) (fun w hSw => ?_) hS (fun hS => ?_)
        rotate_left
        · go_simp; try with_reducible rfl
        try go_frame
        refine held_pure (i := 39) (oi := ⟨some 6, _, _, _, _, _⟩) rfl (by kernel_rfl) (by kernel_rfl) (by kernel_rfl) (fun _ _ _ h => h) (by rfl) (v := ?_) (fun w hSw => ?_) hS (fun hS => ?_)
        rotate_left
        · go_simp; try with_reducible rfl
        try go_frame
        refine wpAnyH_done (by kernel_rfl) ?_ _
        go_wp2_with fail
        go_ret
        exact ⟨rfl, hb5.trans (hS.mono hb5.size)⟩
    · have hFE2 := EFE2.out
      have hcase : (QE ≠ 0 ∧ FE = QE) ∨ (QE = 0 ∧ FE = 1) := by
        by_cases h : QE = 0
        · right
          refine ⟨h, ?_⟩
          rw [if_neg (by simp [h])] at hFE2
          split at hFE2
          · exact absurd hFE2 hF
          · exact hFE2
        · left
          exact ⟨h, by rw [hFE2, if_pos h]⟩
      have dF : (FE != 0) = true := by simpa using hF
      clear hFE2
      rcases hcase with ⟨h1, h2⟩ | ⟨h1, h2⟩
      · subst h2
        clear hF
        go_wp2_with (go_at_call 22; refine (awake26 _).mono ?_; rintro e w9 ⟨rfl, x9⟩)
        go_ret
        exact ⟨rfl, hb3.trans (x9.mono hb3.size)⟩
      · subst h1
        subst h2
        clear hF dF
        go_wp2_with (go_at_call 22; refine (awake26 _).mono ?_; rintro e w9 ⟨rfl, x9⟩)
        go_ret
        exact ⟨rfl, hb3.trans (x9.mono hb3.size)⟩

/-! ### The row's step -/
set_option maxRecDepth 100000 in
theorem lifted (os : Os) (started : os.Started) (H : Type) (enc : TypeId × Value → H) :
    ReturnsInHanded {} Try.checked os 9 .any (Rows.quotePortsSpec.pre6 enc Try.prog Try.f9 Rows.quotePortsRow.domain false) (Rows.quotePortsSpec.post enc Try.prog Try.f9 false true false false) := by
  refine returnsInHanded_of_change (C := Try.checked) own started (by kernel_rfl) Try.func9
    (ChangeSpec.witness6 (enc := enc) (C := Try.checked) false ⟨#[], #[.slice none 0 0, .int .i64 0, .int .i64 0], []⟩ 8 (by kernel_rfl) (by kernel_rfl) (by kernel_rfl) (by kernel_rfl)) ?_
  intro W base args ds gs before hval0 hW hcnd _
  have hval : ∀ (j : Nat) t v, Try.f9.params[j]? = some t → args[j]? = some v → Value.okWide Try.prog W .any base t v := hval0
  have hW' := hW
  obtain ⟨p, q, hA0, hV, rfl, hfz, hnd⟩ := hW
  have hA : DataW.TrodAll enc Try.prog W 0 (fun _ => true) true Try.f9.params.toList args.toList ds p := hA0
  rw [Try.params9] at hA hval
  obtain ⟨v0, vs0, d0, ds0, p0, q0, hargs, rfl, rfl, t0, r0⟩ := trodAll_cons hA
  obtain ⟨v1, vs1, d1, ds1, p1, q1, rfl, rfl, rfl, t1, r1⟩ := trodAll_cons r0
  obtain ⟨v2, vs2, d2, ds2, p2, q2, rfl, rfl, rfl, t2, r2⟩ := trodAll_cons r1
  obtain ⟨rfl, rfl, rfl⟩ := trodAll_nil r2
  obtain rfl : args = #[v0, v1, v2] := by cases args; simp_all
  obtain ⟨rfl, rfl⟩ := trodVars_none hV
  have k0 := t0
  have lt0 := Trod_lt t0
  have k1 := t1
  have lt1 := Trod_lt t1
  have k2 := t2
  have lt2 := Trod_lt t2
  obtain ⟨A0, c0, b0, rfl, h0, m0⟩ := get_bytes Try.underlying45 Try.underlying5 (by kernel_rfl) (hval 0 45 v0 rfl rfl) t0
  obtain ⟨a1, rfl, w1⟩ := get_int Try.underlying3 (hval 1 3 v1 rfl rfl) t1
  obtain ⟨a2, rfl, w2⟩ := get_int Try.underlying3 (hval 2 3 v2 rfl rfl) t2
  clear hA0 hval0
  refine (walk A0 c0 b0 a1 a2 W h0 m0 w1 w2).mono fun e W' ⟨he, bel⟩ => ?_
  subst he
  exact ⟨_, rfl, _, _, _, [], _, [], hW', trodAll_mk1 (shut_bool Try.underlying4 _), (trodAll_cons_mk (Below.trod laidOut (by kernel_rfl) (of_decide_eq_true (by kernel_rfl)) k0 bel lt0) (trodAll_cons_mk (Below.trod laidOut (by kernel_rfl) (of_decide_eq_true (by kernel_rfl)) k1 bel lt1) (trodAll_cons_mk (Below.trod laidOut (by kernel_rfl) (of_decide_eq_true (by kernel_rfl)) k2 bel lt2) trodAll_mk0))), rfl, bel.frame _, fun h => by cases h⟩

theorem over : Rows.quotePortsRow.holds Try.pinned (OpenSpec.ofChange Rows.quotePortsSpec) :=
  OpenClaim.holds_of_wide 9 Try.f9 rfl rfl rfl rfl rfl rfl rfl ⟨rfl, rfl, rfl, rfl, rfl⟩ rfl rfl rfl rfl rfl (by kernel_rfl) Try.func9 (by kernel_rfl)
    (of_decide_eq_true (by kernel_rfl)) (by unfold Func.isWrapper; first | (rw [if_pos (by decide +kernel)]; kernel_rfl) | (rw [if_neg (by decide +kernel)]; exact ⟨rfl, rfl⟩))
    (fun os started H enc _ => lifted os started H enc)

theorem proved : Rows.QuotePortsSaid := over
end Go.Proofs.Ytkgbjohadkbjaaa.quotePorts
