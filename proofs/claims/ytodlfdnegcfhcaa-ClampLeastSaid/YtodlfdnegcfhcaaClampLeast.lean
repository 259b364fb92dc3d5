/-
  For every segment and every size of 16 bits, goosepondlaw12.ClampLeast answers true: a segment that is held tells no greater size than it should, if it begins a connection, and no other one than it did else.
  Conditions: none but the statement's own.
-/
import Derived.Test.YtodlfdnegcfhcaaRows
import Derived.WalkKit
import Derived.ProofKit
import Derived.OpenShut
import Derived.ChangeOld
import Derived.Below
import Derived.Test.YtodlfdnegcfhcaaNa1
import Derived.Test.YtodlfdnegcfhcaaNc2
namespace Go.Proofs.Ytodlfdnegcfhcaa.clampLeast
open Go.ChangeShapes Go.WideShapes Go.ChangeAt Go.RowKit
set_option linter.unusedVariables false
attribute [local go_sem] Oper.semAt_some

theorem own : ownKnob Try.prog.godebug = none := by kernel_rfl
theorem laidOut : laidOutB Try.prog = true := by kernel_rfl

/-! ### The walk -/
set_option maxRecDepth 100000 in
set_option maxHeartbeats 4000000 in
theorem walk (x0 : PT) (A0 : Option Addr) (c0 : Nat) (A0' : Option Addr) (c0' : Nat) (a1 : Int) (w : World) (h0 : Arg w w.heap.size A0 c0 x0.opt) (h0' : Arg w w.heap.size A0' c0' x0.dat) (m0 : c0 ≤ maxLen) (m0' : c0' ≤ maxLen) (w0 : x0.fits) (w1 : (Lit.int .u16 a1).wf = true) :
    Calls Try.prog 4 #[tsv x0 A0 c0 A0' c0', .int .u16 a1] w fun e w' => e = .returned (.bool true) ∧ Below w.heap.size w w' := by
  have q0 : Below w.heap.size w (w.alloc (.cells (tsa x0 A0 c0 A0' c0') 37)) := (Below.refl _ w).alloc (Nat.le_refl _) _
  have at0 := Atts.of_heap (World.alloc_heap_new w (.cells (tsa x0 A0 c0 A0' c0') 37))
  have z0 : w.heap.size < (w.alloc (.cells (tsa x0 A0 c0 A0' c0') 37)).heap.size := by simp
  have hw : 0 ≤ a1 ∧ a1 ≤ 65535 := by have := w1; simp [Lit.wf, IntKind.min, IntKind.max, IntKind.bits, IntKind.signed] at this; omega
  obtain ⟨i1, i2, i3⟩ := sgO_mss x0.flags x0.opt a1
  obtain ⟨S, hS0⟩ : ∃ y, y = sgT x0 a1 := ⟨_, rfl⟩
  have eo : S.opt = sgO x0.flags x0.opt a1 := by rw [hS0]; rfl
  have el : S.opt.length = x0.opt.length := by rw [eo]; exact sgO_len _ _ _
  rw [← eo] at i1 i2 i3
  obtain ⟨N, hN⟩ : ∃ y, y = mssN x0.opt := ⟨_, rfl⟩
  obtain ⟨A, hA⟩ : ∃ y, y = mssA x0.opt := ⟨_, rfl⟩
  obtain ⟨K, hK⟩ : ∃ y, y = mssK x0.opt := ⟨_, rfl⟩
  obtain ⟨M, hM⟩ : ∃ y, y = mssN S.opt := ⟨_, rfl⟩
  have e1 : bits .and .i64 x0.flags 2 = 0 → M = N := fun h => by
    rw [hM, i3, if_neg (fun hc => hc.1 h), hN]
  have e2 : bits .and .i64 x0.flags 2 ≠ 0 → min N a1 = M := fun h => by
    rw [hM, i3]
    by_cases hk : K = true
    · by_cases hn : a1 < N
      · rw [if_pos ⟨h, hw.1, hw.2, by rw [← hK]; exact hk, by rw [← hN]; exact hn⟩]; omega
      · rw [if_neg (fun hc => hn (by rw [hN]; exact hc.2.2.2.2)), ← hN]; omega
    · have h0 : N = 0 := by rw [hN]; exact (mss_none (by rw [← hK]; simpa using hk)).1
      rw [if_neg (fun hc => hk (by rw [hK]; exact hc.2.2.2.1)), ← hN, h0]; omega
  have HS := Lib.hid hS0; have HN := Lib.hid hN; have HA := Lib.hid hA; have HK := Lib.hid hK
  have HM := Lib.hid hM; have HA2 := Lib.hid (show A = mssA S.opt by rw [hA, i2]); have HK2 := Lib.hid (show K = mssK S.opt by rw [hK, i1])
  have HEL := Lib.hid el
  have wr : IntKind.i64.wrap a1 = a1 := IntWalk.i64_in a1 (by omega)
  clear i1 i2 i3 hS0 eo el hN hA hK hM
  rw [tsv_eq]
  go_enter Try.func4, Try.ntmps4
  go_upto_region 1 with fail
  generalize w.alloc (.cells (tsa x0 A0 c0 A0' c0') 37) = X0 at *
  have kd := at0.dat; have ko := at0.opt; have kf := at0.flags
  by_cases f1 : 3000 < x0.dat.length
  · have df1 : decide (3000 < (x0.dat.length : Int)) = true := by simp; omega
    go_wp2_with (go_at_call 5; refine (awakeC_any _).mono ?_; rintro e w20 ⟨rfl, y20⟩)
    go_ret
    exact ⟨rfl, q0.trans (y20.mono q0.size)⟩
  have df1 : decide (3000 < (x0.dat.length : Int)) = false := by simp; omega
  by_cases f2 : 200 < x0.opt.length
  · have df2 : decide (200 < (x0.opt.length : Int)) = true := by simp; omega
    go_wp2_with (go_at_call 5; refine (awakeC_any _).mono ?_; rintro e w20 ⟨rfl, y20⟩)
    go_ret
    exact ⟨rfl, q0.trans (y20.mono q0.size)⟩
  have df2 : decide (200 < (x0.opt.length : Int)) = false := by simp; omega
  have lT1 : x0.opt.length ≤ 1000000 := by omega
  have lT2 : x0.dat.length ≤ 1000000 := by omega
  clear f1 f2
  go_upto_region 5 with (first
    | (go_at_call 10; refine (cTmss S P P' p p' _ X2.heap.size go2 (Nat.le_refl _) (by rw [HEL.out]; exact lT1)).mono ?_; rintro e X3 ⟨rfl, x3⟩; rw [← HM.out, ← HA2.out, ← HK2.out]; have q3 := q2.trans (x3.mono q2.size))
    | ((with_reducible show wpList _ _ _ (Oper.mk (some 24) (Op.load 37 _) _ _ _ _ :: _) _ _); refine wpList_valw (by rfl) (run_load_ts rfl rfl at0 rfl) ?_)
    | (go_at_call 10; refine (cTmss x0 A0 A0' c0 c0' _ w.heap.size (h0.below q0) q0.size lT1).mono ?_; rintro e X1 ⟨rfl, x1⟩; rw [← HN.out, ← HA.out, ← HK.out]; have at1 := at0.below x1 z0; have q1 := q0.trans (x1.mono q0.size))
    | ((with_reducible show wpList _ _ _ (Oper.mk (some 30) (Op.load 37 _) _ _ _ _ :: _) _ _); refine wpList_valw (by rfl) (run_load_ts rfl rfl at1 rfl) ?_)
    | (go_at_call 11; refine (c12seg x0 A0 c0 A0' c0' _ lT1 lT2 w.heap.size (h0.below q1) (h0'.below q1) q1.size a1).mono ?_; rintro e X2 ⟨P, p, P', p', rfl, mo, -⟩; rw [← HS.out] at mo; rw [← HS.out]; have x2 := mo.below; have go2 := made_arg mo; have q2 := q1.trans (x2.mono q1.size)))
  have x13 := x1.trans ((x2.trans (x3.mono x2.size)).mono x1.size)
  have kf3 := (at0.below x13 z0).flags
  clear kd ko kf at1 mo go2 df1 df2 x1 x2 x3
  by_cases c1 : bits .and .i64 x0.flags 2 = 0
  · have d1 : (bits .and .i64 x0.flags 2 != 0) = false := by simpa using c1
    have e1 := e1 c1
    clear e2 c1
    subst e1
    go_wp2_with (go_at_call 5; refine (awakeC_any _).mono ?_; rintro e w20 ⟨rfl, y20⟩)
    go_ret
    exact ⟨rfl, q3.trans (y20.mono q3.size)⟩
  have d1 : (bits .and .i64 x0.flags 2 != 0) = true := by simpa using c1
  have e2 := e2 c1
  clear e1 c1
  go_wp2_with (go_at_call 5; refine (awakeC_any _).mono ?_; rintro e w20 ⟨rfl, y20⟩)
  go_ret
  exact ⟨rfl, q3.trans (y20.mono q3.size)⟩

/-! ### The row's step -/
set_option maxRecDepth 100000 in
theorem lifted (os : Os) (started : os.Started) (H : Type) (enc : TypeId × Value → H) :
    ReturnsInHanded {} Try.checked os 4 .any (Rows.clampLeastSpec.pre6 enc Try.prog Try.f4 Rows.clampLeastRow.domain false) (Rows.clampLeastSpec.post enc Try.prog Try.f4 false true false false) := by
  refine returnsInHanded_of_change (C := Try.checked) own started (by kernel_rfl) Try.func4
    (ChangeSpec.witness6 (enc := enc) (C := Try.checked) false ⟨#[], #[.agg #[.int .i64 0, .int .i64 0, .int .i64 0, .int .i64 0, .int .i64 0, .int .i64 0, .int .i64 0, .int .i64 0, .slice none 0 0, .slice none 0 0], .int .u16 0], []⟩ 8 (by kernel_rfl) (by kernel_rfl) (by kernel_rfl) (by kernel_rfl)) ?_
  intro W base args ds gs before hval0 hW hcnd _
  have hval : ∀ (j : Nat) t v, Try.f4.params[j]? = some t → args[j]? = some v → Value.okWide Try.prog W .any base t v := hval0
  have hW' := hW
  obtain ⟨p, q, hA0, hV, rfl, hfz, hnd⟩ := hW
  have hA : DataW.TrodAll enc Try.prog W 0 (fun _ => true) true Try.f4.params.toList args.toList ds p := hA0
  rw [Try.params4] at hA hval
  obtain ⟨v0, vs0, d0, ds0, p0, q0, hargs, rfl, rfl, t0, r0⟩ := trodAll_cons hA
  obtain ⟨v1, vs1, d1, ds1, p1, q1, rfl, rfl, rfl, t1, r1⟩ := trodAll_cons r0
  obtain ⟨rfl, rfl, rfl⟩ := trodAll_nil r1
  obtain rfl : args = #[v0, v1] := by cases args; simp_all
  obtain ⟨rfl, rfl⟩ := trodVars_none hV
  have k0 := t0
  have lt0 := Trod_lt t0
  have k1 := t1
  have lt1 := Trod_lt t1
  obtain ⟨x0, A0, c0, A0', c0', rfl, h0, h0', m0, m0', w0⟩ := get_ts (hval 0 37 v0 rfl rfl) t0
  obtain ⟨a1, rfl, w1⟩ := get_int Try.underlying38 (hval 1 38 v1 rfl rfl) t1
  clear hA0 hval0
  refine (walk x0 A0 c0 A0' c0' a1 W h0 h0' m0 m0' w0 w1).mono fun e W' ⟨he, bel⟩ => ?_
  subst he
  exact ⟨_, rfl, _, _, _, [], _, [], hW', trodAll_mk1 (shut_bool Try.underlying4 _), (trodAll_cons_mk (Below.trod laidOut (by kernel_rfl) (of_decide_eq_true (by kernel_rfl)) k0 bel lt0) (trodAll_cons_mk (Below.trod laidOut (by kernel_rfl) (of_decide_eq_true (by kernel_rfl)) k1 bel lt1) trodAll_mk0)), rfl, bel.frame _, fun h => by cases h⟩

theorem over : Rows.clampLeastRow.holds Try.pinned (OpenSpec.ofChange Rows.clampLeastSpec) :=
  OpenClaim.holds_of_wide 4 Try.f4 rfl rfl rfl rfl rfl rfl rfl ⟨rfl, rfl, rfl, rfl, rfl⟩ rfl rfl rfl rfl rfl (by kernel_rfl) Try.func4 (by kernel_rfl)
    (of_decide_eq_true (by kernel_rfl)) (by unfold Func.isWrapper; first | (rw [if_pos (by decide +kernel)]; kernel_rfl) | (rw [if_neg (by decide +kernel)]; exact ⟨rfl, rfl⟩))
    (fun os started H enc _ => lifted os started H enc)

theorem proved : Rows.ClampLeastSaid := over
end Go.Proofs.Ytodlfdnegcfhcaa.clampLeast
