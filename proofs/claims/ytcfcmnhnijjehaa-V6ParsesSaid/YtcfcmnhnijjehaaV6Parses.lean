/-
  For all bytes, goosepondlaw06.V6Parses answers true: any bytes are the packet, whole or quoted, that the document says, or refused.
  Conditions: none but the statement's own.
-/
import Derived.Test.YtcfcmnhnijjehaaRows
import Derived.WalkKit
import Derived.ProofKit
import Derived.OpenShut
import Derived.ChangeOld
import Derived.Below
import Derived.Test.YtcfcmnhnijjehaaOpen
import Derived.Test.YtcfcmnhnijjehaaV6P
import Derived.Test.YtcfcmnhnijjehaaV6W
import Derived.Test.YtcfcmnhnijjehaaV6J
namespace Go.Proofs.Ytcfcmnhnijjehaa.v6Parses
open Go.ChangeShapes Go.WideShapes Go.ChangeAt Go.RowKit
set_option linter.unusedVariables false
attribute [local go_sem] Oper.semAt_some

theorem own : ownKnob Try.prog.godebug = none := by kernel_rfl
theorem laidOut : laidOutB Try.prog = true := by kernel_rfl

/-! ### The walk -/
set_option maxRecDepth 100000 in
set_option maxHeartbeats 1500000 in
theorem walk (A0 : Option Addr) (c0 : Nat) (b0 : List UInt8) (w : World) (h0 : Arg w w.heap.size A0 c0 b0) (m0 : c0 ≤ maxLen) :
    Calls Try.prog 8 #[.slice A0 b0.length c0] w fun e w' => e = .returned (.bool true) ∧ Below w.heap.size w w' := by
  by_cases h : 3000 < b0.length
  · have hd : decide (3000 < (b0.length : Int)) = true := by simp; omega
    go_enter Try.func8, Try.ntmps8
    go_wp2_with (go_at_call 32; refine (awake6_any _).mono ?_; rintro e w5 ⟨rfl, b5⟩)
    go_ret
    exact ⟨rfl, b5⟩
  · have hd : decide (3000 < (b0.length : Int)) = false := by simp; omega
    obtain ⟨hs1, hd1⟩ := prs6_len b0 false
    obtain ⟨hs2, hd2⟩ := prs6_len b0 true
    obtain ⟨u, hu⟩ : ∃ q, q = prs6 b0 false := ⟨_, rfl⟩
    obtain ⟨v, hv⟩ : ∃ q, q = prs6 b0 true := ⟨_, rfl⟩
    rw [← hu] at hs1 hd1
    rw [← hv] at hs2 hd2
    have SU := Lib.hid hs1; have DU := Lib.hid hd1; have SV := Lib.hid hs2; have DV := Lib.hid hd2
    have HU := Lib.hid hu; have HV := Lib.hid hv
    have KU := Lib.hid (same6_iff.2 (rfl : u = u)); have KV := Lib.hid (same6_iff.2 (rfl : v = v))
    clear hs1 hd1 hs2 hd2 hu hv
    have q0 : Below w.heap.size w w := Below.refl _ _
    obtain ⟨X0, hX0⟩ : ∃ X, X = w := ⟨_, rfl⟩
    go_enter Try.func8, Try.ntmps8
    go_upto_region 3 with fail
    go_upto_region 4 with (first
      | (go_at_call 41; refine (c6parse b0 A0 c0 _ w.heap.size (h0.below q0) q0.size (by omega)).mono ?_; rintro e w1 ⟨P1, p1, rfl, n1⟩; rw [← HU.out] at n1 ⊢)
      | ((with_reducible show wpList _ _ _ (Oper.mk _ (Op.store _ _ _) _ _ _ _ :: _) _ _); refine v6_store_new (cs := v6a u P1 p1) rfl rfl rfl (by rw [v6a, List.size_toArray]; exact v6l_len SU.out DU.out) (v6a_one _ _ _) ?_))
    obtain ⟨A1', c1', hv1, g1, -, y1⟩ := made_shape n1
    have at1 := At6.new (q := u) (A := P1) (c := p1) w1
    have j1 : Below w1.heap.size w1 (w1.alloc (.cells (v6a u P1 p1) 44)) := (Below.refl _ w1).alloc (Nat.le_refl _) _
    have r1 : Rd (w1.alloc (.cells (v6a u P1 p1) 44)) w1.heap.size P1 u.dat := by
      injection hv1 with e1 _ _
      have g := g1.rd
      rw [← e1] at g; exact g.below j1
    have z1 : w1.heap.size < (w1.alloc (.cells (v6a u P1 p1) 44)).heap.size := by simp
    have q1 : Below w.heap.size w (w1.alloc (.cells (v6a u P1 p1) 44)) := q0.trans ((y1.trans (j1.mono y1.size)).mono q0.size)
    have x1 : Below w.heap.size w (w1.alloc (.cells (v6a u P1 p1) 44)) := y1.trans (j1.mono y1.size)
    have yy1 := y1.size
    clear n1 g1 hv1 y1 j1
    generalize w1.alloc (.cells (v6a u P1 p1) 44) = X1 at *
    go_upto_region 5 with (first
      | (go_at_call 42; refine (r6parse b0 A0 c0 _ w.heap.size (h0.below q1) q1.size (by omega)).mono ?_; rintro e w2 ⟨P2, p2, rfl, n2⟩; rw [← HU.out] at n2 ⊢)
      | ((with_reducible show wpList _ _ _ (Oper.mk _ (Op.store _ _ _) _ _ _ _ :: _) _ _); refine v6_store_new (cs := v6a u P2 p2) rfl rfl rfl (by rw [v6a, List.size_toArray]; exact v6l_len SU.out DU.out) (v6a_one _ _ _) ?_))
    obtain ⟨A2', c2', hv2, g2, -, y2⟩ := made_shape n2
    have at2 := At6.new (q := u) (A := P2) (c := p2) w2
    have j2 : Below w2.heap.size w2 (w2.alloc (.cells (v6a u P2 p2) 44)) := (Below.refl _ w2).alloc (Nat.le_refl _) _
    have r2 : Rd (w2.alloc (.cells (v6a u P2 p2) 44)) w2.heap.size P2 u.dat := by
      injection hv2 with e1 _ _
      have g := g2.rd
      rw [← e1] at g; exact g.below j2
    have z2 : w2.heap.size < (w2.alloc (.cells (v6a u P2 p2) 44)).heap.size := by simp
    have q2 : Below w.heap.size w (w2.alloc (.cells (v6a u P2 p2) 44)) := q1.trans ((y2.trans (j2.mono y2.size)).mono q1.size)
    have x2 : Below X1.heap.size X1 (w2.alloc (.cells (v6a u P2 p2) 44)) := y2.trans (j2.mono y2.size)
    have yy2 := y2.size
    clear n2 g2 hv2 y2 j2
    generalize w2.alloc (.cells (v6a u P2 p2) 44) = X2 at *
    go_upto_region 6 with (first
      | (go_at_call 43; refine (c6quoted b0 A0 c0 _ w.heap.size (h0.below q2) q2.size (by omega)).mono ?_; rintro e w3 ⟨P3, p3, rfl, n3⟩; rw [← HV.out] at n3 ⊢)
      | ((with_reducible show wpList _ _ _ (Oper.mk _ (Op.store _ _ _) _ _ _ _ :: _) _ _); refine v6_store_new (cs := v6a v P3 p3) rfl rfl rfl (by rw [v6a, List.size_toArray]; exact v6l_len SV.out DV.out) (v6a_one _ _ _) ?_))
    obtain ⟨A3', c3', hv3, g3, -, y3⟩ := made_shape n3
    have at3 := At6.new (q := v) (A := P3) (c := p3) w3
    have j3 : Below w3.heap.size w3 (w3.alloc (.cells (v6a v P3 p3) 44)) := (Below.refl _ w3).alloc (Nat.le_refl _) _
    have r3 : Rd (w3.alloc (.cells (v6a v P3 p3) 44)) w3.heap.size P3 v.dat := by
      injection hv3 with e1 _ _
      have g := g3.rd
      rw [← e1] at g; exact g.below j3
    have z3 : w3.heap.size < (w3.alloc (.cells (v6a v P3 p3) 44)).heap.size := by simp
    have q3 : Below w.heap.size w (w3.alloc (.cells (v6a v P3 p3) 44)) := q2.trans ((y3.trans (j3.mono y3.size)).mono q2.size)
    have x3 : Below X2.heap.size X2 (w3.alloc (.cells (v6a v P3 p3) 44)) := y3.trans (j3.mono y3.size)
    have yy3 := y3.size
    clear n3 g3 hv3 y3 j3
    generalize w3.alloc (.cells (v6a v P3 p3) 44) = X3 at *
    go_upto_region 7 with (first
      | (go_at_call 44; refine (r6quoted b0 A0 c0 _ w.heap.size (h0.below q3) q3.size (by omega)).mono ?_; rintro e w4 ⟨P4, p4, rfl, n4⟩; rw [← HV.out] at n4 ⊢)
      | ((with_reducible show wpList _ _ _ (Oper.mk _ (Op.store _ _ _) _ _ _ _ :: _) _ _); refine v6_store_new (cs := v6a v P4 p4) rfl rfl rfl (by rw [v6a, List.size_toArray]; exact v6l_len SV.out DV.out) (v6a_one _ _ _) ?_))
    obtain ⟨A4', c4', hv4, g4, -, y4⟩ := made_shape n4
    have at4 := At6.new (q := v) (A := P4) (c := p4) w4
    have j4 : Below w4.heap.size w4 (w4.alloc (.cells (v6a v P4 p4) 44)) := (Below.refl _ w4).alloc (Nat.le_refl _) _
    have r4 : Rd (w4.alloc (.cells (v6a v P4 p4) 44)) w4.heap.size P4 v.dat := by
      injection hv4 with e1 _ _
      have g := g4.rd
      rw [← e1] at g; exact g.below j4
    have z4 : w4.heap.size < (w4.alloc (.cells (v6a v P4 p4) 44)).heap.size := by simp
    have q4 : Below w.heap.size w (w4.alloc (.cells (v6a v P4 p4) 44)) := q3.trans ((y4.trans (j4.mono y4.size)).mono q3.size)
    have x4 : Below X3.heap.size X3 (w4.alloc (.cells (v6a v P4 p4) 44)) := y4.trans (j4.mono y4.size)
    have yy4 := y4.size
    clear n4 g4 hv4 y4 j4
    generalize w4.alloc (.cells (v6a v P4 p4) 44) = X4 at *
    have zz1 := x2.size; have zz2 := x3.size; have zz3 := x4.size
    have b13 := x2.trans (x3.mono x2.size)
    have b14 := b13.trans (x4.mono b13.size)
    have b24 := x3.trans (x4.mono x3.size)
    have a1 := at1.below b14 (by omega)
    have a2 := at2.below b24 (by omega)
    have a3 := at3.below x4 (by omega)
    have e1 := r1.below (b14.mono (by omega))
    have e2 := r2.below (b24.mono (by omega))
    have e3 := r3.below (x4.mono (by omega))
    clear at1 at2 at3 r1 r2 r3 x1 x2 x3 x4 b13 b14 b24 q1 q2 q3
    go_wp2_with (first
      | ((with_reducible show wpList _ _ _ (Oper.mk (some 39) (Op.load _ _) _ _ _ _ :: _) _ _); refine wpList_valg (by rfl) (run_load_v6 rfl rfl a1 (v6l_len SU.out DU.out)) ?_)
      | ((with_reducible show wpList _ _ _ (Oper.mk (some 40) (Op.load _ _) _ _ _ _ :: _) _ _); refine wpList_valg (by rfl) (run_load_v6 rfl rfl a2 (v6l_len SU.out DU.out)) ?_)
      | (go_at_call 40; refine (r6same v v P3 p3 P4 p4 X4.heap.size _ SV.out DV.out SV.out DV.out y6s ((e3.more (by omega)).below y6) ((r4.more (by omega)).below y6)).mono ?_; rintro e w7 ⟨rfl, y7⟩; rw [KV.out])
      | (go_at_call 40; refine (r6same u u P1 p1 P2 p2 X4.heap.size _ SU.out DU.out SU.out DU.out (Nat.le_refl _) (e1.more (by omega)) (e2.more (by omega))).mono ?_; rintro e w6 ⟨rfl, y6⟩; rw [KU.out]; have a3b := a3.below y6 (by omega); have a4b := at4.below y6 (by omega); have y6s := y6.size)
      | ((with_reducible show wpList _ _ _ (Oper.mk (some 49) (Op.load _ _) _ _ _ _ :: _) _ _); refine wpList_valg (by rfl) (run_load_v6 rfl rfl a3b (v6l_len SV.out DV.out)) ?_)
      | ((with_reducible show wpList _ _ _ (Oper.mk (some 50) (Op.load _ _) _ _ _ _ :: _) _ _); refine wpList_valg (by rfl) (run_load_v6 rfl rfl a4b (v6l_len SV.out DV.out)) ?_)
      | (go_at_call 32; refine (awake6_any _).mono ?_; rintro e w8 ⟨rfl, b8⟩))
    go_ret
    have y67 := y6.trans (y7.mono y6.size)
    exact ⟨rfl, q4.trans ((y67.trans (b8.mono y67.size)).mono q4.size)⟩

/-! ### The row's step -/
set_option maxRecDepth 100000 in
theorem lifted (os : Os) (started : os.Started) (H : Type) (enc : TypeId × Value → H) :
    ReturnsInHanded {} Try.checked os 8 .any (Rows.v6ParsesSpec.pre6 enc Try.prog Try.f8 Rows.v6ParsesRow.domain false) (Rows.v6ParsesSpec.post enc Try.prog Try.f8 false true false false) := by
  refine returnsInHanded_of_change (C := Try.checked) own started (by kernel_rfl) Try.func8
    (ChangeSpec.witness6 (enc := enc) (C := Try.checked) false ⟨#[], #[.slice none 0 0], []⟩ 8 (by kernel_rfl) (by kernel_rfl) (by kernel_rfl) (by kernel_rfl)) ?_
  intro W base args ds gs before hval0 hW hcnd _
  have hval : ∀ (j : Nat) t v, Try.f8.params[j]? = some t → args[j]? = some v → Value.okWide Try.prog W .any base t v := hval0
  have hW' := hW
  obtain ⟨p, q, hA0, hV, rfl, hfz, hnd⟩ := hW
  have hA : DataW.TrodAll enc Try.prog W 0 (fun _ => true) true Try.f8.params.toList args.toList ds p := hA0
  rw [Try.params8] at hA hval
  obtain ⟨v0, vs0, d0, ds0, p0, q0, hargs, rfl, rfl, t0, r0⟩ := trodAll_cons hA
  obtain ⟨rfl, rfl, rfl⟩ := trodAll_nil r0
  obtain rfl : args = #[v0] := by cases args; simp_all
  obtain ⟨rfl, rfl⟩ := trodVars_none hV
  have k0 := t0
  have lt0 := Trod_lt t0
  obtain ⟨A0, c0, b0, rfl, h0, m0⟩ := get_bytes Try.underlying22 Try.underlying5 (by kernel_rfl) (hval 0 22 v0 rfl rfl) t0
  clear hA0 hval0
  refine (walk A0 c0 b0 W h0 m0).mono fun e W' ⟨he, bel⟩ => ?_
  subst he
  exact ⟨_, rfl, _, _, _, [], _, [], hW', trodAll_mk1 (shut_bool Try.underlying4 _), (trodAll_cons_mk (Below.trod laidOut (by kernel_rfl) (of_decide_eq_true (by kernel_rfl)) k0 bel lt0) trodAll_mk0), rfl, bel.frame _, fun h => by cases h⟩

theorem over : Rows.v6ParsesRow.holds Try.pinned (OpenSpec.ofChange Rows.v6ParsesSpec) :=
  OpenClaim.holds_of_wide 8 Try.f8 rfl rfl rfl rfl rfl rfl rfl ⟨rfl, rfl, rfl, rfl, rfl⟩ rfl rfl rfl rfl rfl (by kernel_rfl) Try.func8 (by kernel_rfl)
    (of_decide_eq_true (by kernel_rfl)) (by unfold Func.isWrapper; first | (rw [if_pos (by decide +kernel)]; kernel_rfl) | (rw [if_neg (by decide +kernel)]; exact ⟨rfl, rfl⟩))
    (fun os started H enc _ => lifted os started H enc)

theorem proved : Rows.V6ParsesSaid := over
end Go.Proofs.Ytcfcmnhnijjehaa.v6Parses
