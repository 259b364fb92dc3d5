/-
  For all bytes, goosepondlaw05.V4Again answers true: what is parsed is built again, but for the two bytes of the sum.
  Conditions: none but the statement's own.
-/
import Derived.Test.YtcfcmnhnijjehaaRows
import Derived.WalkKit
import Derived.ProofKit
import Derived.OpenShut
import Derived.ChangeOld
import Derived.Below
import Derived.Test.YtcfcmnhnijjehaaOpen
import Derived.Test.YtcfcmnhnijjehaaV4I
namespace Go.Proofs.Ytcfcmnhnijjehaa.v4Again
open Go.ChangeShapes Go.WideShapes Go.ChangeAt Go.RowKit
set_option linter.unusedVariables false
attribute [local go_sem] Oper.semAt_some

theorem own : ownKnob Try.prog.godebug = none := by kernel_rfl
theorem laidOut : laidOutB Try.prog = true := by kernel_rfl

/-! ### The walk -/
set_option maxRecDepth 100000 in
set_option maxHeartbeats 4000000 in
theorem walk (A0 : Option Addr) (c0 : Nat) (b0 : List UInt8) (w : World) (h0 : Arg w w.heap.size A0 c0 b0) (m0 : c0 ≤ maxLen) :
    Calls Try.prog 6 #[.slice A0 b0.length c0] w fun e w' => e = .returned (.bool true) ∧ Below w.heap.size w w' := by
  have hcap := h0.cap
  by_cases h : 3000 < b0.length
  · have hd : decide (3000 < (b0.length : Int)) = true := by simp; omega
    go_enter Try.func6, Try.ntmps6
    go_wp2_with (go_at_call 12; refine (awake5_any _).mono ?_; rintro e w5 ⟨rfl, b5⟩)
    go_ret
    exact ⟨rfl, b5⟩
  · have hd : decide (3000 < (b0.length : Int)) = false := by simp; omega
    obtain ⟨u, hu⟩ : ∃ q, q = prsV b0 false := ⟨_, rfl⟩
    obtain ⟨E, hE⟩ : ∃ n, n = prsE b0 false := ⟨_, rfl⟩
    have HU := Lib.hid hu
    have HE := Lib.hid hE
    go_enter Try.func6, Try.ntmps6
    clear hu hE
    go_upto_region 4 with (first
      | (go_at_call 26; refine (c4parse b0 A0 c0 _ w.heap.size h0 (Nat.le_refl _) (by omega)).mono ?_; rintro e w1 ⟨P, p, P', p', rfl, mo, md⟩; rw [← HU.out] at mo md; rw [← HU.out, ← HE.out])
      | ((with_reducible show wpList _ _ _ (Oper.mk _ (Op.store _ _ _) _ _ _ _ :: _) _ _); refine v4_store_new (cs := v4a u P p P' p') rfl rfl rfl rfl (v4a_one _ _ _ _ _) ?_))
    clear hd
    have hAt := At4.new (q := u) (A := P) (c := p) (A' := P') (c' := p') w1
    have x12 : Below w1.heap.size w1 (w1.alloc (.cells (v4a u P p P' p') 24)) := (Below.refl _ w1).alloc (Nat.le_refl _) _
    have hz2 : w1.heap.size < (w1.alloc (.cells (v4a u P p P' p') 24)).heap.size := by simp
    generalize w1.alloc (.cells (v4a u P p P' p') 24) = W at *
    obtain ⟨_, _, _, _, _, ow1, x01⟩ := id mo
    obtain ⟨_, _, _, _, _, ow2, _⟩ := id md
    by_cases hp : E = 0
    · subst hp
      obtain ⟨hV, hC, hL, hLb, hL20, hT, hU⟩ := again4 (b := b0) HE.out.symm
      rw [← HU.out] at hV
      rw [← hV] at hC hL hT hU
      obtain ⟨R, hR⟩ : ∃ l, l = bld4 u := ⟨_, rfl⟩
      rw [← hR] at hL hT hU
      obtain ⟨ha, hs0, hs1⟩ := chk4_zero hC
      have ho40 : u.opt.length ≤ 40 := by obtain ⟨_, _, _, _, _, _, _, _, _, _, _, _, _, _, _, h, _⟩ := ha; exact h
      have hdl : u.dat.length ≤ 1000000 := by unfold size4 head4 at hs1; omega
      have HC := Lib.hid hC
      have HR := Lib.hid hR
      obtain ⟨T, hTd⟩ : ∃ l, l = R.take 10 := ⟨_, rfl⟩
      obtain ⟨U, hUd⟩ : ∃ l, l = R.drop 12 := ⟨_, rfl⟩
      have HTl := Lib.hid (show T.length = 10 by rw [hTd, List.length_take]; omega)
      have HUl := Lib.hid (show U.length = R.length - 12 by rw [hUd, List.length_drop])
      have t2 : Rd w w.heap.size A0 T := by rw [hTd, hT]; exact (h0.cut_hi 10 (by omega)).rd
      have s2 : Rd w w.heap.size (cutA A0 c0 12) U := by rw [hUd, hU, ← hL]; exact (h0.cut 12 R.length (by omega)).rd
      have HTd := Lib.hid hTd
      have HUd := Lib.hid hUd
      have hRl : R.length ≤ b0.length := by omega
      have hR20 : 20 ≤ R.length := by omega
      have d1 : decide ((b0.length : Int) < (R.length : Int)) = false := by simp; omega
      have d2 : decide ((R.length : Int) < 20) = false := by simp; omega
      have hO := (arg_own ow1).below x12
      have hD := (arg_own ow2).below x12
      clear hV hC hL hLb hL20 hT hU hR ha hs0 hs1 hTd hUd
      go_upto_region 7 with (first
        | ((with_reducible show wpList _ _ _ (Oper.mk _ (Op.load 24 _) _ _ _ _ :: _) _ _); refine wpList_valw (by rfl) (run_load_v4 rfl rfl hAt rfl) ?_)
        | (go_at_call 13; refine (c4build u P p P' p' _ w1.heap.size hO hD x12.size (by omega) hdl).mono ?_; rintro e X ⟨v5, rfl, _, n5⟩; have n5 := n5 HC.out; rw [← HR.out] at n5; rw [HC.out]; obtain ⟨A5, c5, rfl, a5, o5, x5⟩ := made_shape n5))
      go_upto_region 9 with fail
      have hc5 := a5.cap
      have t1 : Rd X X.heap.size A5 T := by rw [HTd.out]; exact (a5.cut_hi 10 (by omega)).rd
      have s1 : Rd X X.heap.size (cutA A5 c5 12) U := by rw [HUd.out]; exact (a5.cut_lo 12).rd
      have qx : Below w.heap.size w X := (x01.trans (x12.mono x01.size)).trans (x5.mono (by have := x01.size; have := x12.size; omega))
      have t2 := t2.below qx
      have s2 := s2.below qx
      have hqx := qx.size
      clear d1 d2 n5 a5 o5 x5 x01 x12 hO hD ow1 ow2 mo md hAt
      refine wp_region_held_drew (S := fun w' => Below X.heap.size X w') (by kernel_rfl) (Below.refl _ X).drew (fun hS => ?_)
      refine held_pure (i := 0) (oi := ⟨some 38, _, _, _, _, _⟩) rfl (by kernel_rfl) (by kernel_rfl) (by kernel_rfl) (fun _ _ _ h => h) (by rfl) (v := ?_) (fun w hSw => ?_) hS (fun hS => ?_)
      rotate_left
      · go_simp; try with_reducible rfl
      try go_frame
      refine held_pure (i := 1) (oi := ⟨some 39, _, _, _, _, _⟩) rfl (by kernel_rfl) (by kernel_rfl) (by kernel_rfl) (fun _ _ _ h => h) (by rfl) (fun w hSw => run_cut_h rfl rfl rfl (h := (10 : Int)) (by omega) (by omega) (m := T.length) (by rw [HTl.out]; rfl)) hS (fun hS => ?_)
      try go_frame
      refine held_pure (i := 2) (oi := ⟨some 40, _, _, _, _, _⟩) rfl (by kernel_rfl) (by kernel_rfl) (by kernel_rfl) (fun _ _ _ h => h) (by rfl) (v := ?_) (fun w hSw => ?_) hS (fun hS => ?_)
      rotate_left
      · go_simp; try with_reducible rfl
      try go_frame
      refine held_pure (i := 3) (oi := ⟨some 41, _, _, _, _, _⟩) rfl (by kernel_rfl) (by kernel_rfl) (by kernel_rfl) (fun _ _ _ h => h) (by rfl) (fun w hSw => run_cut_h rfl rfl rfl (h := (10 : Int)) (by omega) (by omega) (m := T.length) (by rw [HTl.out]; rfl)) hS (fun hS => ?_)
      try go_frame
      refine wpAnyH_ready (rs := [4]) (by kernel_rfl) (by simp) (AllReadyH.cons (o := ⟨some 42, _, _, _, _, _⟩) rfl (fun K hK => ?_) AllReadyH.nil)
      rw [if_pos (by rfl)]
      go_simp
      refine (equal_same A5 A0 T _ _ _ _ _ (t1.below hS) (t2.below (hS.mono (by omega)))).mono ?_
      rintro e u4 ⟨rfl, rfl⟩
      show K _ _
      refine hK.out _ _ hS (fun hS => ?_)
      clear hK K
      try go_frame
      refine held_pure (i := 5) (oi := ⟨some 43, _, _, _, _, _⟩) rfl (by kernel_rfl) (by kernel_rfl) (by kernel_rfl) (fun _ _ _ h => h) (by rfl) (v := ?_) (fun w hSw => ?_) hS (fun hS => ?_)
      rotate_left
      · go_simp; try with_reducible rfl
      try go_frame
      refine held_pure (i := 6) (oi := ⟨some 44, _, _, _, _, _⟩) rfl (by kernel_rfl) (by kernel_rfl) (by kernel_rfl) (fun _ _ _ h => h) (by rfl) (v := ?_) (fun w hSw => ?_) hS (fun hS => ?_)
      rotate_left
      · go_simp; try with_reducible rfl
      try go_frame
      refine held_pure (i := 7) (oi := ⟨some 45, _, _, _, _, _⟩) rfl (by kernel_rfl) (by kernel_rfl) (by kernel_rfl) (fun _ _ _ h => h) (by rfl) (fun w hSw => run_cut_l rfl rfl (l := 12) rfl (by omega) (m := U.length) HUl.out) hS (fun hS => ?_)
      try go_frame
      refine held_pure (i := 8) (oi := ⟨some 46, _, _, _, _, _⟩) rfl (by kernel_rfl) (by kernel_rfl) (by kernel_rfl) (fun _ _ _ h => h) (by rfl) (v := ?_) (fun w hSw => ?_) hS (fun hS => ?_)
      rotate_left
      · go_simp; try with_reducible rfl
      try go_frame
      refine held_pure (i := 9) (oi := ⟨some 47, _, _, _, _, _⟩) rfl (by kernel_rfl) (by kernel_rfl) (by kernel_rfl) (fun _ _ _ h => h) (by rfl) (v := ?_) (fun w hSw => ?_) hS (fun hS => ?_)
      rotate_left
      · go_simp; try with_reducible rfl
      try go_frame
      refine held_pure (i := 10) (oi := ⟨some 48, _, _, _, _, _⟩) rfl (by kernel_rfl) (by kernel_rfl) (by kernel_rfl) (fun _ _ _ h => h) (by rfl) (v := ?_) (fun w hSw => ?_) hS (fun hS => ?_)
      rotate_left
      · go_simp; try with_reducible rfl
      try go_frame
      refine held_pure (i := 11) (oi := ⟨some 49, _, _, _, _, _⟩) rfl (by kernel_rfl) (by kernel_rfl) (by kernel_rfl) (fun _ _ _ h => h) (by rfl) (fun w hSw => run_cut_lh rfl rfl rfl rfl (l := 12) (h := (R.length : Int)) (by omega) (by omega) (by omega) (m := U.length) (by have := HUl.out; omega)) hS (fun hS => ?_)
      try go_frame
      refine wpAnyH_ready (rs := [12]) (by kernel_rfl) (by simp) (AllReadyH.cons (o := ⟨some 50, _, _, _, _, _⟩) rfl (fun K hK => ?_) AllReadyH.nil)
      rw [if_pos (by rfl)]
      go_simp
      refine (equal_same (cutA A5 c5 12) (cutA A0 c0 12) U _ _ _ _ _ (s1.below hS) (s2.below (hS.mono (by omega)))).mono ?_
      rintro e u12 ⟨rfl, rfl⟩
      show K _ _
      refine hK.out _ _ hS (fun hS => ?_)
      clear hK K
      try go_frame
      refine held_pure (i := 13) (oi := ⟨some 51, _, _, _, _, _⟩) rfl (by kernel_rfl) (by kernel_rfl) (by kernel_rfl) (fun _ _ _ h => h) (by rfl) (v := ?_) (fun w hSw => ?_) hS (fun hS => ?_)
      rotate_left
      · go_simp; try with_reducible rfl
      try go_frame
      refine held_pure (i := 14) (oi := ⟨some 52, _, _, _, _, _⟩) rfl (by kernel_rfl) (by kernel_rfl) (by kernel_rfl) (fun _ _ _ h => h) (by rfl) (v := ?_) (fun w hSw => ?_) hS (fun hS => ?_)
      rotate_left
      · go_simp; try with_reducible rfl
      try go_frame
      refine wpAnyH_ready (rs := [15]) (by kernel_rfl) (by simp) (AllReadyH.cons (o := ⟨some 53, _, _, _, _, _⟩) rfl (fun K hK => ?_) AllReadyH.nil)
      rw [if_pos (by rfl)]
      go_simp
      refine (awake5_any _).mono ?_
      rintro e u15 ⟨rfl, z15⟩
      show K _ _
      refine hK.out _ _ (below_step hS z15) (fun hS => ?_)
      clear hK K
      try go_frame
      refine held_pure (i := 16) (oi := ⟨some 54, _, _, _, _, _⟩) rfl (by kernel_rfl) (by kernel_rfl) (by kernel_rfl) (fun _ _ _ h => h) (by rfl) (v := ?_) (fun w hSw => ?_) hS (fun hS => ?_)
      rotate_left
      · go_simp; try with_reducible rfl
      try go_frame
      refine held_pure (i := 17) (oi := ⟨some 2, _, _, _, _, _⟩) rfl (by kernel_rfl) (by kernel_rfl) (by kernel_rfl) (fun _ _ _ h => h) (by rfl) (v := ?_) (fun w hSw => ?_) hS (fun hS => ?_)
      rotate_left
      · go_simp; try with_reducible rfl
      try go_frame
      refine wpAnyH_done (by kernel_rfl) ?_ _
      go_wp2_with fail
      go_ret
      exact ⟨rfl, qx.trans (hS.mono qx.size)⟩
    · have dE : (E != 0) = true := by simpa using hp
      go_wp2_with (go_at_call 12; refine (awake5_any _).mono ?_; rintro e w5 ⟨rfl, b5⟩)
      go_ret
      have q0 : Below w.heap.size w W := x01.trans (x12.mono x01.size)
      exact ⟨rfl, q0.trans (b5.mono q0.size)⟩

/-! ### The row's step -/
set_option maxRecDepth 100000 in
theorem lifted (os : Os) (started : os.Started) (H : Type) (enc : TypeId × Value → H) :
    ReturnsInHanded {} Try.checked os 6 .any (Rows.v4AgainSpec.pre6 enc Try.prog Try.f6 Rows.v4AgainRow.domain false) (Rows.v4AgainSpec.post enc Try.prog Try.f6 false true false false) := by
  refine returnsInHanded_of_change (C := Try.checked) own started (by kernel_rfl) Try.func6
    (ChangeSpec.witness6 (enc := enc) (C := Try.checked) false ⟨#[], #[.slice none 0 0], []⟩ 8 (by kernel_rfl) (by kernel_rfl) (by kernel_rfl) (by kernel_rfl)) ?_
  intro W base args ds gs before hval0 hW hcnd _
  have hval : ∀ (j : Nat) t v, Try.f6.params[j]? = some t → args[j]? = some v → Value.okWide Try.prog W .any base t v := hval0
  have hW' := hW
  obtain ⟨p, q, hA0, hV, rfl, hfz, hnd⟩ := hW
  have hA : DataW.TrodAll enc Try.prog W 0 (fun _ => true) true Try.f6.params.toList args.toList ds p := hA0
  rw [Try.params6] at hA hval
  obtain ⟨v0, vs0, d0, ds0, p0, q0, hargs, rfl, rfl, t0, r0⟩ := trodAll_cons hA
  obtain ⟨rfl, rfl, rfl⟩ := trodAll_nil r0
  obtain rfl : args = #[v0] := by cases args; simp_all
  obtain ⟨rfl, rfl⟩ := trodVars_none hV
  have k0 := t0
  have lt0 := Trod_lt t0
  obtain ⟨A0, c0, b0, rfl, h0, m0⟩ := get_bytes Try.underlying22 Try.underlying5 (by kernel_rfl) (hval 0 22 v0 rfl rfl) t0
  clear hA0 hval0
  refine (walk A0 c0 b0 W h0 m0).mono fun e W' ⟨he, bel⟩ => ?_
  subst he
  exact ⟨_, rfl, _, _, _, [], _, [], hW', trodAll_mk1 (shut_bool Try.underlying4 _), (trodAll_cons_mk (Below.trod laidOut (by kernel_rfl) (of_decide_eq_true (by kernel_rfl)) k0 bel lt0) trodAll_mk0), rfl, bel.frame _, fun h => by cases h⟩

theorem over : Rows.v4AgainRow.holds Try.pinned (OpenSpec.ofChange Rows.v4AgainSpec) :=
  OpenClaim.holds_of_wide 6 Try.f6 rfl rfl rfl rfl rfl rfl rfl ⟨rfl, rfl, rfl, rfl, rfl⟩ rfl rfl rfl rfl rfl (by kernel_rfl) Try.func6 (by kernel_rfl)
    (of_decide_eq_true (by kernel_rfl)) (by unfold Func.isWrapper; first | (rw [if_pos (by decide +kernel)]; kernel_rfl) | (rw [if_neg (by decide +kernel)]; exact ⟨rfl, rfl⟩))
    (fun os started H enc _ => lifted os started H enc)

theorem proved : Rows.V4AgainSaid := over
end Go.Proofs.Ytcfcmnhnijjehaa.v4Again
