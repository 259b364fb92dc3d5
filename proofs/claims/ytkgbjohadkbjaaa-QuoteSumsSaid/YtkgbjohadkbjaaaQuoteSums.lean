/-
  For all ends, bytes, addresses and ports goosepondlaw26.QuoteSums answers true: a datagram that is quoted, from or to another endpoint, is a datagram with right sums. Conditions: none but the statement's own.
-/
import Derived.Test.YtkgbjohadkbjaaaRows
import Derived.WalkKit
import Derived.ProofKit
import Derived.OpenShut
import Derived.ChangeOld
import Derived.Below
import Derived.Test.YtkgbjohadkbjaaaQa2
import Derived.Test.YtkgbjohadkbjaaaQb1
namespace Go.Proofs.Ytkgbjohadkbjaaa.quoteSums
open Go.ChangeShapes Go.WideShapes Go.ChangeAt Go.RowKit
set_option linter.unusedVariables false
attribute [local go_sem] Oper.semAt_some

theorem own : ownKnob Try.prog.godebug = none := by kernel_rfl
theorem laidOut : laidOutB Try.prog = true := by kernel_rfl

/-! ### The walk -/
set_option maxRecDepth 100000 in
set_option maxHeartbeats 4000000 in
theorem walk (e0a e0b e0c e0d : Int) (A1 : Option Addr) (c1 : Nat) (b1 : List UInt8) (a2 : Int) (a3 : Int) (w : World) (w0a : (Lit.int .u16 e0a).wf = true) (w0b : (Lit.int .u16 e0b).wf = true) (w0c : (Lit.int .u16 e0c).wf = true) (w0d : (Lit.int .u16 e0d).wf = true) (h1 : Arg w w.heap.size A1 c1 b1) (m1 : c1 ≤ maxLen) (w2 : (Lit.int .u32 a2).wf = true) (w3 : (Lit.int .u16 a3).wf = true) :
    Calls Try.prog 10 #[.agg #[.int .u16 e0a, .int .u16 e0b, .int .u16 e0c, .int .u16 e0d], .slice A1 b1.length c1, .int .u32 a2, .int .u16 a3] w fun e w' => e = .returned (.bool true) ∧ Below w.heap.size w w' := by
  have b0a := u16_bdQ w0a; have b0b := u16_bdQ w0b; have b0c := u16_bdQ w0c; have b0d := u16_bdQ w0d; have bb2 := u32_bdQ w2; have bb3 := u16_bdQ w3
  have hB0 : Below w.heap.size w (w.alloc (.cells #[.int .u16 e0a, .int .u16 e0b, .int .u16 e0c, .int .u16 e0d] 64)) := (Below.refl _ w).alloc (Nat.le_refl _) _
  have k0 : (w.alloc (.cells #[.int .u16 e0a, .int .u16 e0b, .int .u16 e0c, .int .u16 e0d] 64)).cell? ⟨w.heap.size, 0, none⟩ = some (.int .u16 e0a) := by rw [World.cell?_alloc_new]; rfl
  have k1 : (w.alloc (.cells #[.int .u16 e0a, .int .u16 e0b, .int .u16 e0c, .int .u16 e0d] 64)).cell? ⟨w.heap.size, 1, none⟩ = some (.int .u16 e0b) := by rw [World.cell?_alloc_new]; rfl
  have k2 : (w.alloc (.cells #[.int .u16 e0a, .int .u16 e0b, .int .u16 e0c, .int .u16 e0d] 64)).cell? ⟨w.heap.size, 2, none⟩ = some (.int .u16 e0c) := by rw [World.cell?_alloc_new]; rfl
  have k3 : (w.alloc (.cells #[.int .u16 e0a, .int .u16 e0b, .int .u16 e0c, .int .u16 e0d] 64)).cell? ⟨w.heap.size, 3, none⟩ = some (.int .u16 e0d) := by rw [World.cell?_alloc_new]; rfl
  go_enter Try.func10, Try.ntmps10
  go_upto_region 1 with fail
  generalize w.alloc (.cells #[.int .u16 e0a, .int .u16 e0b, .int .u16 e0c, .int .u16 e0d] 64) = W at *
  by_cases hbig : 500 < b1.length
  · have d0 : decide (500 < (b1.length : Int)) = true := by simp; omega
    go_wp2_with (go_at_call 22; refine (awake26 _).mono ?_; rintro e w10 ⟨rfl, b10⟩)
    go_ret
    exact ⟨rfl, hB0.trans (b10.mono hB0.size)⟩
  · have d0 : decide (500 < (b1.length : Int)) = false := by simp; omega
    obtain ⟨S, hS⟩ : ∃ x, x = 167772160 + e0a := ⟨_, rfl⟩
    obtain ⟨D, hD⟩ : ∃ x, x = 3221225472 + e0b := ⟨_, rfl⟩
    have hw1 : IntKind.i64.wrap (167772160 + e0a) = S := by rw [IntWalk.i64_in _ (by omega), hS]
    have hw2 : IntKind.i64.wrap (3221225472 + e0b) = D := by rw [IntWalk.i64_in _ (by omega), hD]
    have hw3 : IntKind.i64.wrap e0a = e0a := IntWalk.i64_in _ (by omega)
    have hw4 : IntKind.i64.wrap e0b = e0b := IntWalk.i64_in _ (by omega)
    have hw5 : IntKind.i64.wrap e0c = e0c := IntWalk.i64_in _ (by omega)
    have hw6 : IntKind.i64.wrap e0d = e0d := IntWalk.i64_in _ (by omega)
    have hw7 : IntKind.i64.wrap a2 = a2 := IntWalk.i64_in _ (by omega)
    have hw8 : IntKind.i64.wrap a3 = a3 := IntWalk.i64_in _ (by omega)
    have H0 : DgOk S D e0c e0d 9 b1 := ⟨by omega, by omega, by omega, by omega, by omega, by omega, by omega, by omega, by decide, by decide, by omega⟩
    have H1 : DgOk a2 D a3 e0d 9 b1 := ⟨by omega, by omega, by omega, by omega, by omega, by omega, by omega, by omega, by decide, by decide, by omega⟩
    have H2 : DgOk S a2 e0c a3 9 b1 := ⟨by omega, by omega, by omega, by omega, by omega, by omega, by omega, by omega, by decide, by decide, by omega⟩
    have PD := fun (U : World) (hU : Below w.heap.size w U) => plain_dgQ S D e0c e0d 9 b1 A1 c1 U w.heap.size (h1.below hU) hU.size (by omega) (dg_uchk H0) (dg_chk H0)
    have hf0 := dg_fre H0 (a := a2) (n := a3) bb2 bb3
    have hf1 := dg_fr_true H0 (a := a2) (n := a3) bb2 bb3
    have hf2 := dg_fr_false H0 (a := a2) (n := a3) bb2 bb3
    have l0 : (bld4 (dgQ S D e0c e0d 9 b1)).length = 28 + b1.length := by obtain ⟨_, _, _, _, _, h⟩ := dg_again H0; exact h
    obtain ⟨q1, v1, f1, u1, n1, l1⟩ := dg_again H1
    obtain ⟨q2, v2, f2, u2, n2, l2⟩ := dg_again H2
    obtain ⟨X0, hX0⟩ : ∃ x, x = bld4 (dgQ S D e0c e0d 9 b1) := ⟨_, rfl⟩
    obtain ⟨X1, hX1⟩ : ∃ x, x = bld4 (dgQ a2 D a3 e0d 9 b1) := ⟨_, rfl⟩
    obtain ⟨X2, hX2⟩ : ∃ x, x = bld4 (dgQ S a2 e0c a3 9 b1) := ⟨_, rfl⟩
    rw [← hX0] at PD hf0 hf1 hf2 l0
    rw [← hX1] at hf1 v1 f1 l1
    rw [← hX2] at hf2 v2 f2 l2
    obtain ⟨y1, hy1⟩ : ∃ x, x = prsU q1.src q1.dst q1.dat := ⟨_, rfl⟩
    obtain ⟨y2, hy2⟩ : ∃ x, x = prsU q2.src q2.dst q2.dat := ⟨_, rfl⟩
    have PD := Lib.hid PD
    have HF0 := Lib.hid hf0; have HF1 := Lib.hid hf1; have HF2 := Lib.hid hf2
    have V1 := Lib.hid v1; have E1 := Lib.hid f1; have U1 := Lib.hid u1; have N1 := Lib.hid n1
    have V2 := Lib.hid v2; have E2 := Lib.hid f2; have U2 := Lib.hid u2; have N2 := Lib.hid n2
    have L0 := Lib.hid l0; have L1 := Lib.hid l1; have L2 := Lib.hid l2
    have Y1 := Lib.hid hy1; have Y2 := Lib.hid hy2
    have hbl : b1.length ≤ 500 := by omega
    clear hbig hS hD H0 H1 H2 hf0 hf1 hf2 l0 v1 f1 u1 n1 l1 v2 f2 u2 n2 l2 hX0 hX1 hX2 hy1 hy2
    go_upto_region 4 with (go_at_call 35; refine (PD.out W hB0).mono ?_; rintro e W0 ⟨P0, p0, rfl, m0⟩; obtain ⟨_, _, c0, g0, _, x0⟩ := made_shape m0; cases c0)
    clear k0 k1 k2 k3 m0 hw1 hw2 hw3 hw4 hw5 hw6
    go_upto_region 6 with (first
      | (go_at_call 26; refine (cqfrom X0 P0 p0 W0.heap.size a2 a3 W0 g0 (Nat.le_refl _) (by have := L0.out; omega)).mono ?_; rintro e W1 ⟨P1, p1, rfl, m1⟩; rw [HF1.out] at m1; rw [HF1.out, HF0.out]; obtain ⟨_, _, c1, g1, _, x1⟩ := made_shape m1; cases c1)
      | (go_at_call 28; refine (cqto X0 P0 p0 W0.heap.size a2 a3 W1 (g0.below x1) x1.size (by have := L0.out; omega)).mono ?_; rintro e W2 ⟨P2, p2, rfl, m2⟩; rw [HF2.out] at m2; rw [HF2.out, HF0.out]; obtain ⟨_, _, c2, g2, _, x2⟩ := made_shape m2; cases c2))
    clear m1 m2 hw7 hw8
    have g1 := (g1.below x2).more x2.size
    go_upto_region 7 with (first
      | (go_at_call 36; refine (r5parse X1 P1 p1 W2 W2.heap.size g1 (Nat.le_refl _) (by have := L1.out; omega)).mono ?_; rintro e W3 ⟨P3, p3, P3', p3', rfl, mo3, md3⟩; rw [V1.out] at mo3 md3; rw [V1.out, E1.out]; obtain ⟨_, _, c3, g3, _, x3⟩ := made_shape md3; cases c3)
      | ((with_reducible show wpList _ _ _ (Oper.mk _ (Op.store _ _ _) _ _ _ _ :: _) _ _); refine v4_store_new (cs := v4a q1 P3 p3 P3' p3') rfl rfl rfl rfl (v4a_one _ _ _ _ _) ?_))
    have at3 := At4.new (q := q1) (A := P3) (c := p3) (A' := P3') (c' := p3') W3
    have j3 : Below W3.heap.size W3 (W3.alloc (.cells (v4a q1 P3 p3 P3' p3') 48)) := (Below.refl _ W3).alloc (Nat.le_refl _) _
    have z3 : W3.heap.size < (W3.alloc (.cells (v4a q1 P3 p3 P3' p3') 48)).heap.size := by simp
    generalize W3.alloc (.cells (v4a q1 P3 p3 P3' p3') 48) = Z3 at *
    have x3 := x3.trans (j3.mono x3.size)
    have g3 := (g3.below j3).more j3.size
    have g2 := (g2.below x3).more x3.size
    clear mo3 md3 j3
    go_upto_region 8 with (first
      | (go_at_call 36; refine (r5parse X2 P2 p2 Z3 Z3.heap.size g2 (Nat.le_refl _) (by have := L2.out; omega)).mono ?_; rintro e W4 ⟨P4, p4, P4', p4', rfl, mo4, md4⟩; rw [V2.out] at mo4 md4; rw [V2.out, E2.out]; obtain ⟨_, _, c4, g4, _, x4⟩ := made_shape md4; cases c4)
      | ((with_reducible show wpList _ _ _ (Oper.mk _ (Op.store _ _ _) _ _ _ _ :: _) _ _); refine v4_store_new (cs := v4a q2 P4 p4 P4' p4') rfl rfl rfl rfl (v4a_one _ _ _ _ _) ?_))
    have at4 := At4.new (q := q2) (A := P4) (c := p4) (A' := P4') (c' := p4') W4
    have j4 : Below W4.heap.size W4 (W4.alloc (.cells (v4a q2 P4 p4 P4' p4') 48)) := (Below.refl _ W4).alloc (Nat.le_refl _) _
    have z4 : W4.heap.size < (W4.alloc (.cells (v4a q2 P4 p4 P4' p4') 48)).heap.size := by simp
    generalize W4.alloc (.cells (v4a q2 P4 p4 P4' p4') 48) = Z4 at *
    have x4 := x4.trans (j4.mono x4.size)
    have g4 := (g4.below j4).more j4.size
    have g3 := (g3.below x4).more x4.size
    have at3 := at3.below x4 z3
    clear mo4 md4 j4
    have k5 := at3.src
    have k6 := at3.dst
    have k7 := at3.dat
    go_upto_region 9 with (first
      | (go_at_call 37; refine (rUparse q1.dat P3' p3' q1.src q1.dst Z4 Z4.heap.size g3 (Nat.le_refl _) (by have := N1.out; omega)).mono ?_; rintro e W5 ⟨P5, p5, rfl, m5⟩; rw [← Y1.out] at m5; rw [← Y1.out, U1.out]; have x5 := m5.below)
      | ((with_reducible show wpList _ _ _ (Oper.mk _ (Op.store _ _ _) _ _ _ _ :: _) _ _); refine us_store_new (cs := usa y1 P5 p5) rfl rfl rfl rfl (us_one _ _ _) ?_))
    have j5 : Below W5.heap.size W5 (W5.alloc (.cells (usa y1 P5 p5) 69)) := (Below.refl _ W5).alloc (Nat.le_refl _) _
    generalize W5.alloc (.cells (usa y1 P5 p5) 69) = Z5 at *
    have x5 := x5.trans (j5.mono x5.size)
    have g4 := (g4.below x5).more x5.size
    have at4 := at4.below x5 z4
    clear m5 j5 k5 k6 k7
    have k5 := at4.src
    have k6 := at4.dst
    have k7 := at4.dat
    go_upto_region 10 with (first
      | (go_at_call 37; refine (rUparse q2.dat P4' p4' q2.src q2.dst Z5 Z5.heap.size g4 (Nat.le_refl _) (by have := N2.out; omega)).mono ?_; rintro e W6 ⟨P6, p6, rfl, m6⟩; rw [← Y2.out] at m6; rw [← Y2.out, U2.out]; have x6 := m6.below)
      | ((with_reducible show wpList _ _ _ (Oper.mk _ (Op.store _ _ _) _ _ _ _ :: _) _ _); refine us_store_new (cs := usa y2 P6 p6) rfl rfl rfl rfl (us_one _ _ _) ?_))
    have j6 : Below W6.heap.size W6 (W6.alloc (.cells (usa y2 P6 p6) 69)) := (Below.refl _ W6).alloc (Nat.le_refl _) _
    generalize W6.alloc (.cells (usa y2 P6 p6) 69) = Z6 at *
    have x6 := x6.trans (j6.mono x6.size)
    clear m6 j6 k5 k6 k7 at3 at4
    have h7 : Below W2.heap.size W2 Z6 := x3.trans ((x4.trans ((x5.trans (x6.mono x5.size)).mono x4.size)).mono x3.size)
    have h8 := hB0.trans ((x0.trans ((x1.trans ((x2.trans (h7.mono x2.size)).mono x1.size)).mono x0.size)).mono hB0.size)
    go_wp2_with (go_at_call 22; refine (awake26 _).mono ?_; rintro e w10 ⟨rfl, b10⟩)
    go_ret
    exact ⟨rfl, h8.trans (b10.mono h8.size)⟩

/-! ### The row's step -/
set_option maxRecDepth 100000 in
theorem lifted (os : Os) (started : os.Started) (H : Type) (enc : TypeId × Value → H) :
    ReturnsInHanded {} Try.checked os 10 .any (Rows.quoteSumsSpec.pre6 enc Try.prog Try.f10 Rows.quoteSumsRow.domain false) (Rows.quoteSumsSpec.post enc Try.prog Try.f10 false true false false) := by
  refine returnsInHanded_of_change (C := Try.checked) own started (by kernel_rfl) Try.func10
    (ChangeSpec.witness6 (enc := enc) (C := Try.checked) false ⟨#[], #[.agg #[.int .u16 0, .int .u16 0, .int .u16 0, .int .u16 0], .slice none 0 0, .int .u32 0, .int .u16 0], []⟩ 8 (by kernel_rfl) (by kernel_rfl) (by kernel_rfl) (by kernel_rfl)) ?_
  intro W base args ds gs before hval0 hW hcnd _
  have hval : ∀ (j : Nat) t v, Try.f10.params[j]? = some t → args[j]? = some v → Value.okWide Try.prog W .any base t v := hval0
  have hW' := hW
  obtain ⟨p, q, hA0, hV, rfl, hfz, hnd⟩ := hW
  have hA : DataW.TrodAll enc Try.prog W 0 (fun _ => true) true Try.f10.params.toList args.toList ds p := hA0
  rw [Try.params10] at hA hval
  obtain ⟨v0, vs0, d0, ds0, p0, q0, hargs, rfl, rfl, t0, r0⟩ := trodAll_cons hA
  obtain ⟨v1, vs1, d1, ds1, p1, q1, rfl, rfl, rfl, t1, r1⟩ := trodAll_cons r0
  obtain ⟨v2, vs2, d2, ds2, p2, q2, rfl, rfl, rfl, t2, r2⟩ := trodAll_cons r1
  obtain ⟨v3, vs3, d3, ds3, p3, q3, rfl, rfl, rfl, t3, r3⟩ := trodAll_cons r2
  obtain ⟨rfl, rfl, rfl⟩ := trodAll_nil r3
  obtain rfl : args = #[v0, v1, v2, v3] := by cases args; simp_all
  obtain ⟨rfl, rfl⟩ := trodVars_none hV
  have k0 := t0
  have lt0 := Trod_lt t0
  have k1 := t1
  have lt1 := Trod_lt t1
  have k2 := t2
  have lt2 := Trod_lt t2
  have k3 := t3
  have lt3 := Trod_lt t3
  obtain ⟨e0a, e0b, e0c, e0d, rfl, w0a, w0b, w0c, w0d⟩ := get_ends Try.underlying64 Try.underlying35 (by kernel_rfl) (by kernel_rfl) (hval 0 64 v0 rfl rfl) t0
  obtain ⟨A1, c1, b1, rfl, h1, m1⟩ := get_bytes Try.underlying45 Try.underlying5 (by kernel_rfl) (hval 1 45 v1 rfl rfl) t1
  obtain ⟨a2, rfl, w2⟩ := get_int Try.underlying22 (hval 2 22 v2 rfl rfl) t2
  obtain ⟨a3, rfl, w3⟩ := get_int Try.underlying35 (hval 3 35 v3 rfl rfl) t3
  clear hA0 hval0
  refine (walk e0a e0b e0c e0d A1 c1 b1 a2 a3 W w0a w0b w0c w0d h1 m1 w2 w3).mono fun e W' ⟨he, bel⟩ => ?_
  subst he
  exact ⟨_, rfl, _, _, _, [], _, [], hW', trodAll_mk1 (shut_bool Try.underlying4 _), (trodAll_cons_mk (Below.trod laidOut (by kernel_rfl) (of_decide_eq_true (by kernel_rfl)) k0 bel lt0) (trodAll_cons_mk (Below.trod laidOut (by kernel_rfl) (of_decide_eq_true (by kernel_rfl)) k1 bel lt1) (trodAll_cons_mk (Below.trod laidOut (by kernel_rfl) (of_decide_eq_true (by kernel_rfl)) k2 bel lt2) (trodAll_cons_mk (Below.trod laidOut (by kernel_rfl) (of_decide_eq_true (by kernel_rfl)) k3 bel lt3) trodAll_mk0)))), rfl, bel.frame _, fun h => by cases h⟩

theorem over : Rows.quoteSumsRow.holds Try.pinned (OpenSpec.ofChange Rows.quoteSumsSpec) :=
  OpenClaim.holds_of_wide 10 Try.f10 rfl rfl rfl rfl rfl rfl rfl ⟨rfl, rfl, rfl, rfl, rfl⟩ rfl rfl rfl rfl rfl (by kernel_rfl) Try.func10 (by kernel_rfl)
    (of_decide_eq_true (by kernel_rfl)) (by unfold Func.isWrapper; first | (rw [if_pos (by decide +kernel)]; kernel_rfl) | (rw [if_neg (by decide +kernel)]; exact ⟨rfl, rfl⟩))
    (fun os started H enc _ => lifted os started H enc)

theorem proved : Rows.QuoteSumsSaid := over
end Go.Proofs.Ytkgbjohadkbjaaa.quoteSums
