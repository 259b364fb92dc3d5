/-
  For all addresses, numbers and bytes goosepondlaw29.WrapBack answers true: what was wrapped is unwrapped, and stands between its addresses. Conditions: none but the statement's own.
-/
import Derived.Test.YtkfbamippjhjcaaRows
import Derived.WalkKit
import Derived.ProofKit
import Derived.OpenShut
import Derived.ChangeOld
import Derived.Below
import Derived.Test.YtkfbamippjhjcaaRa2
import Derived.Test.YtkfbamippjhjcaaRa15
namespace Go.Proofs.Ytkfbamippjhjcaa.wrapBack
open Go.ChangeShapes Go.WideShapes Go.ChangeAt Go.RowKit
set_option linter.unusedVariables false
attribute [local go_sem] Oper.semAt_some

theorem own : ownKnob Try.prog.godebug = none := by kernel_rfl
theorem laidOut : laidOutB Try.prog = true := by kernel_rfl

/-! ### The walk -/
set_option maxRecDepth 100000 in
set_option maxHeartbeats 4000000 in
theorem walk (b0 : List UInt8) (b1 : List UInt8) (a2 : Int) (A3 : Option Addr) (c3 : Nat) (b3 : List UInt8) (w : World) (h0 : b0.length = 16) (h1 : b1.length = 16) (w2 : (Lit.int .u8 a2).wf = true) (h3 : Arg w w.heap.size A3 c3 b3) (m3 : c3 ≤ maxLen) :
    Calls Try.prog 4 #[.agg (cel b0), .agg (cel b1), .int .u8 a2, .slice A3 b3.length c3] w fun e w' => e = .returned (.bool true) ∧ Below w.heap.size w w' := by
  by_cases hbig : 3000 < b3.length
  · have d0 : decide (3000 < (b3.length : Int)) = true := by simp; omega
    go_enter Try.func4, Try.ntmps4
    go_wp2_with (go_at_call 9; refine (awake29 _).mono ?_; rintro e w10 ⟨rfl, b10⟩)
    go_ret
    exact ⟨rfl, (two_boxes w (.cells (cel b0) 23) (.cells (cel b1) 23)).1.trans (b10.mono (two_boxes w (.cells (cel b0) 23) (.cells (cel b1) 23)).1.size)⟩
  · have d0 : decide (3000 < (b3.length : Int)) = false := by simp; omega
    have hl : b3.length ≤ 1000000 := by omega
    clear hbig
    obtain ⟨n0, n1⟩ := u8_bdR w2
    have hc := wr_chk (s := b0) (d := b1) n0 n1 (show b3.length ≤ 65535 by have := d0; simp at this; omega)
    obtain ⟨q, hq⟩ : ∃ q, q = wrV b0 b1 a2 b3 := ⟨_, rfl⟩
    have hq2 := hq.trans (wrV_ok hc)
    have HC := Lib.hid hc
    have HQ := Lib.hid hq
    have HQS := Lib.hid (show q.src.length = 16 by rw [hq2]; exact h0)
    have HQD := Lib.hid (show q.dst.length = 16 by rw [hq2]; exact h1)
    have HQL := Lib.hid (show q.dat.length ≤ 1000000 by rw [hq2]; exact hl)
    have HUE := Lib.hid (show uwE q = 0 by rw [hq2]; rfl)
    have HSR := Lib.hid (show q.src = b0 by rw [hq2]; rfl)
    have HDS := Lib.hid (show q.dst = b1 by rw [hq2]; rfl)
    have HHP := Lib.hid (show q.hop = a2 by rw [hq2]; rfl)
    obtain ⟨u, hu⟩ : ∃ u, u = uwV q := ⟨_, rfl⟩
    have HU := Lib.hid hu
    have HUB := Lib.hid (show u = b3 by rw [hu, hq2]; rfl)
    have dU : Hid (decide (b3 = u) = true) := Lib.hid (by rw [HUB.out]; simp)
    have dA : (a2 == a2) = true := beq_self_eq_true a2
    clear hc hq hq2 hu
    go_enter Try.func4, Try.ntmps4
    go_upto_region 1 with fail
    obtain ⟨hB, k1, k2, z2⟩ := two_boxes w (.cells (cel b0) 23) (.cells (cel b1) 23)
    generalize (w.alloc (.cells (cel b0) 23)).alloc (.cells (cel b1) 23) = W at *
    have r1 : W.rangeAt w.heap.size 0 (row b0) := range_heap k1
    have r2 : W.rangeAt (w.heap.size + 1) 0 (row b1) := range_heap k2
    have z1 : w.heap.size < W.heap.size := by omega
    have h3 := h3.below hB
    have hBs := hB.size
    clear k1 k2
    go_upto_region 4 with (first
      | ((with_reducible show wpList _ _ _ (Oper.mk (some 18) (Op.load 23 _) _ _ _ _ :: _) _ _); refine wpList_val rfl (run_load_six rfl rfl r1 h0) ?_)
      | ((with_reducible show wpList _ _ _ (Oper.mk (some 19) (Op.load 23 _) _ _ _ _ :: _) _ _); refine wpList_val rfl (run_load_six rfl rfl r2 h1) ?_)
      | (go_at_call 10; refine (cWwrap b0 b1 a2 b3 A3 c3 w.heap.size _ h0 h1 h3 hBs hl).mono ?_; rintro e w1 ⟨P, p, rfl, m1⟩; rw [← HQ.out] at m1; rw [← HQ.out, HC.out])
      | ((with_reducible show wpList _ _ _ (Oper.mk _ (Op.store 26 _ _) _ _ _ _ :: _) _ _); refine v6_store_new (cs := v6a q P p) rfl rfl rfl (by rw [v6a_size _ _ _ HQS.out HQD.out]) (v6a_one _ _ _) ?_))
    obtain ⟨_, _, e1, g1, _, x1⟩ := made_shape m1
    cases e1
    have kz1 := World.alloc_heap_new w1 (.cells (v6a q P p) 26)
    have y1 : Below W.heap.size W (w1.alloc (.cells (v6a q P p) 26)) := x1.trans (((Below.refl _ w1).alloc (Nat.le_refl _) _).mono x1.size)
    have u1 : Below w1.heap.size w1 (w1.alloc (.cells (v6a q P p) 26)) := (Below.refl _ w1).alloc (Nat.le_refl _) _
    generalize w1.alloc (.cells (v6a q P p) 26) = X at *
    have at1 : At6 X w1.heap.size q P p := range_heap kz1
    have g1 := g1.below u1
    have zu := u1.size
    have zk := heap_lt kz1
    have r1 := range_below r1 z1 y1
    have r2 := range_below r2 z2 y1
    have b1' := hB.trans (y1.mono hBs)
    have h3 := h3.below (y1.mono hBs)
    have zW := y1.size
    clear m1 x1 u1 y1 kz1
    go_upto_region 5 with (first
      | ((with_reducible show wpList _ _ _ (Oper.mk _ (Op.load 26 _) _ _ _ _ :: _) _ _); refine wpList_val rfl (run_load_v6 rfl rfl at1 (v6l_len HQS.out HQD.out)) ?_)
      | (go_at_call 12; refine (cWunwrap q P p w1.heap.size _ HQS.out HQD.out g1 zu HQL.out).mono ?_; rintro e w2 ⟨P2, p2, rfl, m2⟩; rw [← HU.out] at m2; rw [← HU.out, HUE.out]))
    obtain ⟨_, _, e2, g2, _, x2⟩ := made_shape m2
    cases e2
    have at2 := at1.below x2 zk
    have r1 := range_below r1 (Nat.lt_of_lt_of_le z1 zW) x2
    have r2 := range_below r2 (Nat.lt_of_lt_of_le z2 zW) x2
    have b2' := b1'.trans (x2.mono b1'.size)
    have h3 := h3.below (x2.mono b1'.size)
    have kh := at2.hop
    rw [HHP.out] at kh
    have eS : ∀ w, (Op.equalIn 10000 23 (.agg (cel q.src)) (.agg (cel b0))).run Try.prog w = .ok true w := fun w => by rw [six_eq _ _ HQS.out h0, HSR.out]; simp
    have eD : ∀ w, (Op.equalIn 10000 23 (.agg (cel q.dst)) (.agg (cel b1))).run Try.prog w = .ok true w := fun w => by rw [six_eq _ _ HQD.out h1, HDS.out]; simp
    clear m2 at1 g1 x2
    go_wp2_with (first
      | (go_at_call 17; refine (equal_any A3 P2 b3 u c3 p2 _ _ _ h3.rd g2.rd).mono ?_; rintro e w4 ⟨rfl, rfl⟩; rw [dU.out])
      | ((with_reducible show wpList _ _ _ (Oper.mk (some 44) (Op.load 23 _) _ _ _ _ :: _) _ _); refine wpList_valg (by rfl) (run_load_six rfl rfl at2.src HQS.out) ?_)
      | ((with_reducible show wpList _ _ _ (Oper.mk (some 45) (Op.load 23 _) _ _ _ _ :: _) _ _); refine wpList_valg (by rfl) (run_load_six rfl rfl r1 h0) ?_)
      | ((with_reducible show wpList _ _ _ (Oper.mk (some 50) (Op.load 23 _) _ _ _ _ :: _) _ _); refine wpList_valg (by rfl) (run_load_six rfl rfl (at2.dst HQS.out) HQD.out) ?_)
      | ((with_reducible show wpList _ _ _ (Oper.mk (some 51) (Op.load 23 _) _ _ _ _ :: _) _ _); refine wpList_valg (by rfl) (run_load_six rfl rfl r2 h1) ?_)
      | (go_at_call 9; refine (awake29 _).mono ?_; rintro e w10 ⟨rfl, b10⟩))
    go_ret
    exact ⟨rfl, b2'.trans (b10.mono b2'.size)⟩

/-! ### The row's step -/
set_option maxRecDepth 100000 in
theorem lifted (os : Os) (started : os.Started) (H : Type) (enc : TypeId × Value → H) :
    ReturnsInHanded {} Try.checked os 4 .any (Rows.wrapBackSpec.pre6 enc Try.prog Try.f4 Rows.wrapBackRow.domain false) (Rows.wrapBackSpec.post enc Try.prog Try.f4 false true false false) := by
  refine returnsInHanded_of_change (C := Try.checked) own started (by kernel_rfl) Try.func4
    (ChangeSpec.witness6 (enc := enc) (C := Try.checked) false ⟨#[], #[.agg #[.int .u8 0, .int .u8 0, .int .u8 0, .int .u8 0, .int .u8 0, .int .u8 0, .int .u8 0, .int .u8 0, .int .u8 0, .int .u8 0, .int .u8 0, .int .u8 0, .int .u8 0, .int .u8 0, .int .u8 0, .int .u8 0], .agg #[.int .u8 0, .int .u8 0, .int .u8 0, .int .u8 0, .int .u8 0, .int .u8 0, .int .u8 0, .int .u8 0, .int .u8 0, .int .u8 0, .int .u8 0, .int .u8 0, .int .u8 0, .int .u8 0, .int .u8 0, .int .u8 0], .int .u8 0, .slice none 0 0], []⟩ 8 (by kernel_rfl) (by kernel_rfl) (by kernel_rfl) (by kernel_rfl)) ?_
  intro W base args ds gs before hval0 hW hcnd _
  have hval : ∀ (j : Nat) t v, Try.f4.params[j]? = some t → args[j]? = some v → Value.okWide Try.prog W .any base t v := hval0
  have hW' := hW
  obtain ⟨p, q, hA0, hV, rfl, hfz, hnd⟩ := hW
  have hA : DataW.TrodAll enc Try.prog W 0 (fun _ => true) true Try.f4.params.toList args.toList ds p := hA0
  rw [Try.params4] at hA hval
  obtain ⟨v0, vs0, d0, ds0, p0, q0, hargs, rfl, rfl, t0, r0⟩ := trodAll_cons hA
  obtain ⟨v1, vs1, d1, ds1, p1, q1, rfl, rfl, rfl, t1, r1⟩ := trodAll_cons r0
  obtain ⟨v2, vs2, d2, ds2, p2, q2, rfl, rfl, rfl, t2, r2⟩ := trodAll_cons r1
  obtain ⟨v3, vs3, d3, ds3, p3, q3, rfl, rfl, rfl, t3, r3⟩ := trodAll_cons r2
  obtain ⟨rfl, rfl, rfl⟩ := trodAll_nil r3
  obtain rfl : args = #[v0, v1, v2, v3] := by cases args; simp_all
  obtain ⟨rfl, rfl⟩ := trodVars_none hV
  have k0 := t0
  have lt0 := Trod_lt t0
  have k1 := t1
  have lt1 := Trod_lt t1
  have k2 := t2
  have lt2 := Trod_lt t2
  have k3 := t3
  have lt3 := Trod_lt t3
  obtain ⟨b0, rfl, h0⟩ := get_six Try.underlying23 Try.underlying5 (by kernel_rfl) (by kernel_rfl) (hval 0 23 v0 rfl rfl) t0
  obtain ⟨b1, rfl, h1⟩ := get_six Try.underlying23 Try.underlying5 (by kernel_rfl) (by kernel_rfl) (hval 1 23 v1 rfl rfl) t1
  obtain ⟨a2, rfl, w2⟩ := get_int Try.underlying5 (hval 2 5 v2 rfl rfl) t2
  obtain ⟨A3, c3, b3, rfl, h3, m3⟩ := get_bytes Try.underlying24 Try.underlying5 (by kernel_rfl) (hval 3 24 v3 rfl rfl) t3
  clear hA0 hval0
  refine (walk b0 b1 a2 A3 c3 b3 W h0 h1 w2 h3 m3).mono fun e W' ⟨he, bel⟩ => ?_
  subst he
  exact ⟨_, rfl, _, _, _, [], _, [], hW', trodAll_mk1 (shut_bool Try.underlying4 _), (trodAll_cons_mk (Below.trod laidOut (by kernel_rfl) (of_decide_eq_true (by kernel_rfl)) k0 bel lt0) (trodAll_cons_mk (Below.trod laidOut (by kernel_rfl) (of_decide_eq_true (by kernel_rfl)) k1 bel lt1) (trodAll_cons_mk (Below.trod laidOut (by kernel_rfl) (of_decide_eq_true (by kernel_rfl)) k2 bel lt2) (trodAll_cons_mk (Below.trod laidOut (by kernel_rfl) (of_decide_eq_true (by kernel_rfl)) k3 bel lt3) trodAll_mk0)))), rfl, bel.frame _, fun h => by cases h⟩

theorem over : Rows.wrapBackRow.holds Try.pinned (OpenSpec.ofChange Rows.wrapBackSpec) :=
  OpenClaim.holds_of_wide 4 Try.f4 rfl rfl rfl rfl rfl rfl rfl ⟨rfl, rfl, rfl, rfl, rfl⟩ rfl rfl rfl rfl rfl (by kernel_rfl) Try.func4 (by kernel_rfl)
    (of_decide_eq_true (by kernel_rfl)) (by unfold Func.isWrapper; first | (rw [if_pos (by decide +kernel)]; kernel_rfl) | (rw [if_neg (by decide +kernel)]; exact ⟨rfl, rfl⟩))
    (fun os started H enc _ => lifted os started H enc)

theorem proved : Rows.WrapBackSaid := over
end Go.Proofs.Ytkfbamippjhjcaa.wrapBack
