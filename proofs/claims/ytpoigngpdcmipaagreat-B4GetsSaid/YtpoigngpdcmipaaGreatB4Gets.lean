/-
  For all bytes and orders goosepondlaw32.B4Gets answers true: a datagram in fragments, in whatever order they come, comes to the hosts as it was sent. Conditions: none but the statement's own.
-/
import Derived.Test.YtpoigngpdcmipaaGreatRows
import Derived.WalkKit
import Derived.ProofKit
import Derived.OpenShut
import Derived.ChangeOld
import Derived.Below
import Derived.Test.YtpoigngpdcmipaaGreatMb1
import Derived.Test.YtpoigngpdcmipaaGreatMb22
namespace Go.Proofs.YtpoigngpdcmipaaGreat.b4Gets
open Go.ChangeShapes Go.WideShapes Go.ChangeAt Go.RowKit
set_option linter.unusedVariables false
attribute [local go_sem] Oper.semAt_some

theorem own : ownKnob Tryz.prog.godebug = none := by kernel_rfl
theorem laidOut : laidOutB Tryz.prog = true := by kernel_rfl

/-! ### The walk -/
set_option maxRecDepth 100000 in
set_option maxHeartbeats 4000000 in
theorem walk (A0 : Option Addr) (c0 : Nat) (b0 : List UInt8) (A1 : Option Addr) (c1 : Nat) (b1 : List UInt8) (w : World) (h0 : Arg w w.heap.size A0 c0 b0) (m0 : c0 ≤ maxLen) (h1 : Arg w w.heap.size A1 c1 b1) (m1 : c1 ≤ maxLen) :
    Calls Tryz.prog 4 #[.slice A0 b0.length c0, .slice A1 b1.length c1] w fun e w' => e = .returned (.bool true) ∧ Below w.heap.size w w' := by
  by_cases hbig : 3000 < b0.length
  · have d0 : decide (3000 < (b0.length : Int)) = true := by simp; omega
    go_enter Tryz.func4, Tryz.ntmps4
    go_wp2_with (go_at_call 6; refine (awake32 _).mono ?_; rintro e v1 ⟨rfl, x1⟩)
    go_ret
    exact ⟨rfl, x1⟩
  have d0 : decide (3000 < (b0.length : Int)) = false := by simp; omega
  obtain ⟨q, Q, hq, hQe, hG, hu, hbl⟩ := get_ok (show b0.length ≤ 3000 by omega)
  have HQ := Lib.hid hq
  have HQE := Lib.hid (show Q = wrP aftQ ownQ 9 (bld4 q) from hQe)
  have HG := Lib.hid hG
  have HU := Lib.hid hu
  have HBL := Lib.hid hbl
  have HL0 := Lib.hid (show b0.length ≤ 3000 by omega)
  have H0 := Lib.hid h0
  have H1 := Lib.hid h1
  have h6 : ok6 Q := hG.from_.h6
  obtain ⟨nb, hnb⟩ : ∃ nb, nb = b1.length := ⟨_, rfl⟩
  have HNB := Lib.hid hnb
  rw [← hnb]
  clear hq hQe hG hu hbl hbig h0 h1 hnb
  go_enter Tryz.func4, Tryz.ntmps4
  go_upto_region 4 with (first
    | (go_at_call 7; refine (bset w).mono ?_; rintro e v1 ⟨rfl, x1⟩)
    | (go_at_call 8; refine (bfnew 1280 (by decide) v1).mono ?_; rintro e v2 ⟨x, t, k, rfl, f2, x2⟩))
  have HF2 := Lib.hid f2
  have y2 := x1.trans (x2.mono x1.size)
  have hzB := x1.size
  have hd2 := H0.out.below y2
  clear f2 x1 x2
  go_upto_region 7 with (go_at_call 9; refine (plain_dgE 3221225985 167772161 5 6 9 b0 A0 c0 v2 w.heap.size hd2 y2.size (by have := HL0.out; omega) HU.out (by rw [← HQ.out]; exact HG.out.sq.chk)).mono ?_; rintro e v3 ⟨P3, p3, rfl, m3⟩; rw [← HQ.out] at m3 ⊢)
  obtain ⟨_, _, e3, g3, o3, x3⟩ := made_shape m3
  cases e3
  have y3 := y2.trans (x3.mono y2.size)
  have HF3 := Lib.hid (HF2.out.below x3)
  have HEE : Hid (cutE6 Q 77 1280 = 0) := Lib.hid HG.out.e
  clear m3 hd2
  go_upto_region 8 with (first
    | (go_at_call 7; (with_reducible refine (bset v3).mono ?_); rintro e v4 ⟨rfl, x4⟩)
    | (go_at_call 7; (with_reducible refine (bset v4).mono ?_); rintro e v5 ⟨rfl, x5⟩)
    | ((with_reducible show wpList _ _ _ (Oper.mk (some 38) (Op.field _ _ _) _ _ _ _ :: _) _ _); refine wpList_val rfl (run_field_aft rfl rfl) ?_)
    | ((with_reducible show wpList _ _ _ (Oper.mk (some 40) (Op.field _ _ _) _ _ _ _ :: _) _ _); refine wpList_val rfl (run_field_own rfl rfl) ?_)
    | ((with_reducible show wpList _ _ _ (Oper.mk _ (Op.build 38 _) _ _ _ _ :: _) _ _); refine wpList_val rfl (run_build_wr (q := Q) rfl rfl rfl rfl rfl rfl rfl rfl HQE.out) ?_)
    | (go_at_call 15; have g5 := g3.below (x4.trans (x5.mono x4.size)); refine (c14cut Q P3 p3 77 1280 v3.heap.size v5 h6 (by rw [HG.out.dat]; exact g5) (Nat.le_trans x4.size x5.size) (by rw [HG.out.dat, HBL.out]; have := HL0.out; omega)).mono ?_; rintro e v6 ⟨vl, l6, rfl, r6, q6, x6⟩; rw [HEE.out]))
  have HF5 := Lib.hid (HF3.out.below (x4.trans (x5.mono x4.size)))
  have HO5 := Lib.hid (own_below o3 (x4.trans (x5.mono x4.size)))
  have y5 := y3.trans ((x4.trans (x5.mono x4.size)).mono y3.size)
  obtain ⟨n, hn⟩ : ∃ n, n = l6.length := ⟨_, rfl⟩
  have hln : n = (cutL6 Q 77 1280).length := by rw [hn, ← q6, List.length_map]
  have hn1 : 0 < n := by
    rw [hln]
    rcases HG.out.ways with e | ⟨_, _, e⟩
    · rw [e]; simp
    · omega
  have hn4 : n ≤ 4000 := by rw [hln]; exact HG.out.many
  obtain ⟨g, c, ev⟩ : ∃ g c, vl = .slice (some ⟨g, 0, none⟩) n c := by
    rcases r6.1.2 with ⟨_, h0⟩ | ⟨g', cap, cur, hv, _⟩
    · omega
    · exact ⟨g', cap, by rw [hv, hn]⟩
  subst ev
  have HN := Lib.hid hn
  have HL6 := Lib.hid q6
  have HR6 := Lib.hid r6
  have hz5 := x6.size
  clear hn hln r6 q6 g3 x4 x5 o3 x3 y2 y3
  go_upto_region 10 with fail
  go_wp2
  go_loopw [50] (fun i wr => ∃ (j : Nat) (cur : List X6), j ≤ n ∧ i = .int .i64 (j : Int) ∧ Hid (cur.Perm l6) ∧ Hid (Row6 wr v5.heap.size (.slice (some ⟨g, 0, none⟩) n c) cur) ∧ Below v5.heap.size v5 wr) (fun i _ => n - (intOf i).toNat)
  case atStart => exact ⟨0, l6, Nat.zero_le _, rfl, Lib.hid (List.Perm.refl _), HR6, x6⟩
  case round =>
    obtain ⟨j, cur, hj, rfl, HP, HRW, hB⟩ := hrel
    have hz := hB.size
    clear HR6 hz5 x6
    by_cases hlt : j < n
    · by_cases hlb : j < nb
      · obtain ⟨b7, o7, e7, hb7, hc7⟩ := H1.out.rd (by rw [← HNB.out]; omega)
        subst e7
        have hc : wr.cell? ⟨b7, o7 + j, none⟩ = some (.int .u8 (byt b1 j)) := ((y5.trans (hB.mono y5.size)).cell (p := ⟨b7, o7 + j, none⟩) hb7).trans (hc7 j (by rw [← HNB.out]; exact hlb))
        obtain ⟨u, hu⟩ : ∃ u, u = byt b1 j := ⟨_, rfl⟩
        have hub : 0 ≤ u ∧ u ≤ 255 := by rw [hu]; exact byt_bound b1 j
        rw [← hu] at hc
        clear hu hc7 hb7
        go_upto_region 15 with fail
        obtain ⟨kk, hkk, hjk, hkn⟩ : ∃ kk : Nat, wrap64 ((j : Int) + u % ((n : Int) - (j : Int))) = (kk : Int) ∧ j ≤ kk ∧ kk < n := by
          have e1 : 0 ≤ u % ((n : Int) - (j : Int)) := Int.emod_nonneg _ (by omega)
          have e2 : u % ((n : Int) - (j : Int)) < (n : Int) - (j : Int) := Int.emod_lt_of_pos _ (by omega)
          refine ⟨((j : Int) + u % ((n : Int) - (j : Int))).toNat, ?_, by omega, by omega⟩
          have h2 : wrap64 ((j : Int) + u % ((n : Int) - (j : Int))) = (j : Int) + u % ((n : Int) - (j : Int)) := by
            have := IntWalk.i64_in ((j : Int) + u % ((n : Int) - (j : Int))) (by omega)
            simpa [wrap64, IntKind.wrap_i64] using this
          rw [h2]
          omega
        rw [hkk]
        have hcl : cur.length = n := by rw [HP.out.length_eq, HN.out]
        obtain ⟨xi, hxi⟩ : ∃ y, cur[j]? = some y := ⟨_, List.getElem?_eq_getElem (by omega)⟩
        obtain ⟨xk, hxk⟩ : ∃ y, cur[kk]? = some y := ⟨_, List.getElem?_eq_getElem (by omega)⟩
        have hRD := HRW.out.below (Below.refl _ wr).drew
        have ri := hRD.at_ hxi
        have rk := hRD.at_ hxk
        have oi := hRD.2 xi (List.mem_of_getElem? hxi)
        have ok_ := hRD.2 xk (List.mem_of_getElem? hxk)
        obtain ⟨s1, t1, hg0, kp1⟩ := hRD.set hcl.symm (i := j) (by omega) ok_
        obtain ⟨s2, t2, _, _⟩ := s1.set (by rw [List.length_set]; exact hcl.symm) (i := kk) (by rw [List.length_set]; omega) (kp1 xi oi)
        have hperm := (swap_perm hjk hxi hxk).trans HP.out
        have hkb : Below v5.heap.size v5 ((wr.drew.setCells g (j * 37) (cl6 xk)).setCells g (kk * 37) (cl6 xi)) := by
          have kp := (kept_setCells4 g (cl6 xk) (j * 37) wr.drew).trans (kept_setCells4 g (cl6 xi) (kk * 37) (wr.drew.setCells g (j * 37) (cl6 xk))) (fun _ _ h => h)
          exact (hB.trans ((Below.refl _ wr).drew.mono hz)).trans (kept_below4 kp hg0 hz)
        have RI := Lib.hid ri
        have RK := Lib.hid rk
        have T1 := Lib.hid t1
        have T2 := Lib.hid t2
        have S2 := Lib.hid s2
        have KB := Lib.hid hkb
        have HPM := Lib.hid hperm
        clear ri rk oi ok_ s1 t1 kp1 s2 t2 hperm hkb hRD hc hkk
        refine wp_region_held_drew (S := fun _ => True) (by kernel_rfl) trivial (fun hS => ?_)
        refine held_pure (i := 0) (oi := ⟨some 69, _, _, _, _, _⟩) rfl (by kernel_rfl) (by kernel_rfl) (by kernel_rfl) (fun _ _ _ h => h) (by rfl) (v := ?_) (fun w hSw => ?_) hS (fun hS => ?_)
        rotate_left
        · go_simp; try with_reducible rfl
        try go_frame
        refine held_pure (i := 1) (oi := ⟨some 70, _, _, _, _, _⟩) rfl (by kernel_rfl) (by kernel_rfl) (by kernel_rfl) (fun _ _ _ h => h) (by rfl) (v := ?_) (fun w hSw => ?_) hS (fun hS => ?_)
        rotate_left
        · go_simp; try with_reducible rfl
        try go_frame
        refine held_pure (i := 2) (oi := ⟨some 71, _, _, _, _, _⟩) rfl (by kernel_rfl) (by kernel_rfl) (by kernel_rfl) (fun _ _ _ h => h) (by rfl) (v := ?_) (fun w hSw => ?_) hS (fun hS => ?_)
        rotate_left
        · go_simp; try with_reducible rfl
        try go_frame
        refine held_pure (i := 3) (oi := ⟨some 72, _, _, _, _, _⟩) rfl (by kernel_rfl) (by kernel_rfl) (by kernel_rfl) (fun _ _ _ h => h) (by rfl) (v := ?_) (fun w hSw => ?_) hS (fun hS => ?_)
        rotate_left
        · go_simp; try with_reducible rfl
        try go_frame
        refine held_pure (i := 4) (oi := ⟨some 73, _, _, _, _, _⟩) rfl (by kernel_rfl) (by kernel_rfl) (by kernel_rfl) (fun _ _ _ h => h) (by rfl) (v := ?_) (fun w hSw => ?_) hS (fun hS => ?_)
        rotate_left
        · go_simp; try with_reducible rfl
        try go_frame
        refine held_pure (i := 5) (oi := ⟨some 74, _, _, _, _, _⟩) rfl (by kernel_rfl) (by kernel_rfl) (by kernel_rfl) (fun _ _ _ h => h) (by rfl) (v := ?_) (fun w hSw => ?_) hS (fun hS => ?_)
        rotate_left
        · go_simp; try with_reducible rfl
        try go_frame
        refine held_pure (i := 6) (oi := ⟨some 75, _, _, _, _, _⟩) rfl (by kernel_rfl) (by kernel_rfl) (by kernel_rfl) (fun _ _ _ h => h) (by rfl) (v := ?_) (fun w hSw => ?_) hS (fun hS => ?_)
        rotate_left
        · go_simp; try with_reducible rfl
        try go_frame
        refine held_pure (i := 8) (oi := ⟨some 77, _, _, _, _, _⟩) rfl (by kernel_rfl) (by kernel_rfl) (by kernel_rfl) (fun _ _ _ h => h) (by rfl) (v := ?_) (fun w hSw => ?_) hS (fun hS => ?_)
        rotate_left
        · go_simp; try with_reducible rfl
        try go_frame
        refine held_pure (i := 9) (oi := ⟨some 78, _, _, _, _, _⟩) rfl (by kernel_rfl) (by kernel_rfl) (by kernel_rfl) (fun _ _ _ h => h) (by rfl) (v := ?_) (fun w hSw => ?_) hS (fun hS => ?_)
        rotate_left
        · go_simp; try with_reducible rfl
        try go_frame
        refine held_pure (i := 10) (oi := ⟨some 79, _, _, _, _, _⟩) rfl (by kernel_rfl) (by kernel_rfl) (by kernel_rfl) (fun _ _ _ h => h) (by rfl) (v := ?_) (fun w hSw => ?_) hS (fun hS => ?_)
        rotate_left
        · go_simp; try with_reducible rfl
        try go_frame
        refine wpAnyH_ready (rs := [7, 11]) (by kernel_rfl) (by simp) (AllReadyH.cons (o := ⟨some 76, _, _, _, _, _⟩) rfl (fun K hK => ?_) (AllReadyH.cons (o := ⟨some 80, _, _, _, _, _⟩) rfl (fun K hK => ?_) AllReadyH.nil))
        · rw [if_pos (by rfl)]
          refine wp_valR (run_load_v6o rfl rfl (by first | exact RK.out | (rw [Nat.zero_add]; exact RK.out)) (cl6_len xk.h6)) ?_
          refine hK _ _ trivial (fun hS => ?_)
          clear hK K
          try go_frame
          refine wpAnyH_ready (rs := [11]) (by kernel_rfl) (by simp) (AllReadyH.cons (o := ⟨some 80, _, _, _, _, _⟩) rfl (fun K hK => ?_) AllReadyH.nil)
          rw [if_pos (by rfl)]
          refine wp_valR (run_load_v6o rfl rfl (by first | exact RI.out | (rw [Nat.zero_add]; exact RI.out)) (cl6_len xi.h6)) ?_
          refine hK _ _ trivial (fun hS => ?_)
          clear hK K
          try go_frame
          refine held_pure (i := 12) (oi := ⟨some 81, _, _, _, _, _⟩) rfl (by kernel_rfl) (by kernel_rfl) (by kernel_rfl) (fun _ _ _ h => h) (by rfl) (v := ?_) (fun w hSw => ?_) hS (fun hS => ?_)
          rotate_left
          · go_simp; try with_reducible rfl
          try go_frame
          refine wpAnyH_ready (rs := [13]) (by kernel_rfl) (by simp) (AllReadyH.cons (o := ⟨none, _, _, _, _, _⟩) rfl (fun K hK => ?_) AllReadyH.nil)
          rw [if_pos (by rfl)]
          refine wp_store_mid 38 _ _ rfl g (j * 37) (cl6 xk).toArray (by first | rfl | (rw [Nat.zero_add]; rfl)) rfl (by rw [List.size_toArray, cl6_len xk.h6]; exact T1.out) (by rw [List.size_toArray, cl6_len xk.h6]; kernel_rfl) (all_oneCell_toArray (cl6_one xk)) ?_
          refine hK _ _ trivial (fun hS => ?_)
          clear hK K
          try go_frame
          refine held_pure (i := 14) (oi := ⟨some 82, _, _, _, _, _⟩) rfl (by kernel_rfl) (by kernel_rfl) (by kernel_rfl) (fun _ _ _ h => h) (by rfl) (v := ?_) (fun w hSw => ?_) hS (fun hS => ?_)
          rotate_left
          · go_simp; try with_reducible rfl
          try go_frame
          refine wpAnyH_ready (rs := [15]) (by kernel_rfl) (by simp) (AllReadyH.cons (o := ⟨none, _, _, _, _, _⟩) rfl (fun K hK => ?_) AllReadyH.nil)
          rw [if_pos (by rfl)]
          refine wp_store_mid 38 _ _ rfl g (kk * 37) (cl6 xi).toArray (by first | rfl | (rw [Nat.zero_add]; rfl)) rfl (by rw [List.size_toArray, cl6_len xi.h6]; exact T2.out) (by rw [List.size_toArray, cl6_len xi.h6]; kernel_rfl) (all_oneCell_toArray (cl6_one xi)) ?_
          refine hK _ _ trivial (fun hS => ?_)
          clear hK K
          try go_frame
          refine wpAnyH_done (by kernel_rfl) ?_ _
          go_wp2_with fail
          go_roundw
          case rel => exact ⟨j + 1, _, by omega, by simp, HPM, S2, KB.out⟩
          case measure => simp [intOf]; omega
        · rw [if_pos (by rfl)]
          refine wp_valR (run_load_v6o rfl rfl (by first | exact RI.out | (rw [Nat.zero_add]; exact RI.out)) (cl6_len xi.h6)) ?_
          refine hK _ _ trivial (fun hS => ?_)
          clear hK K
          try go_frame
          refine wpAnyH_ready (rs := [7]) (by kernel_rfl) (by simp) (AllReadyH.cons (o := ⟨some 76, _, _, _, _, _⟩) rfl (fun K hK => ?_) AllReadyH.nil)
          rw [if_pos (by rfl)]
          refine wp_valR (run_load_v6o rfl rfl (by first | exact RK.out | (rw [Nat.zero_add]; exact RK.out)) (cl6_len xk.h6)) ?_
          refine hK _ _ trivial (fun hS => ?_)
          clear hK K
          try go_frame
          refine held_pure (i := 12) (oi := ⟨some 81, _, _, _, _, _⟩) rfl (by kernel_rfl) (by kernel_rfl) (by kernel_rfl) (fun _ _ _ h => h) (by rfl) (v := ?_) (fun w hSw => ?_) hS (fun hS => ?_)
          rotate_left
          · go_simp; try with_reducible rfl
          try go_frame
          refine wpAnyH_ready (rs := [13]) (by kernel_rfl) (by simp) (AllReadyH.cons (o := ⟨none, _, _, _, _, _⟩) rfl (fun K hK => ?_) AllReadyH.nil)
          rw [if_pos (by rfl)]
          refine wp_store_mid 38 _ _ rfl g (j * 37) (cl6 xk).toArray (by first | rfl | (rw [Nat.zero_add]; rfl)) rfl (by rw [List.size_toArray, cl6_len xk.h6]; exact T1.out) (by rw [List.size_toArray, cl6_len xk.h6]; kernel_rfl) (all_oneCell_toArray (cl6_one xk)) ?_
          refine hK _ _ trivial (fun hS => ?_)
          clear hK K
          try go_frame
          refine held_pure (i := 14) (oi := ⟨some 82, _, _, _, _, _⟩) rfl (by kernel_rfl) (by kernel_rfl) (by kernel_rfl) (fun _ _ _ h => h) (by rfl) (v := ?_) (fun w hSw => ?_) hS (fun hS => ?_)
          rotate_left
          · go_simp; try with_reducible rfl
          try go_frame
          refine wpAnyH_ready (rs := [15]) (by kernel_rfl) (by simp) (AllReadyH.cons (o := ⟨none, _, _, _, _, _⟩) rfl (fun K hK => ?_) AllReadyH.nil)
          rw [if_pos (by rfl)]
          refine wp_store_mid 38 _ _ rfl g (kk * 37) (cl6 xi).toArray (by first | rfl | (rw [Nat.zero_add]; rfl)) rfl (by rw [List.size_toArray, cl6_len xi.h6]; exact T2.out) (by rw [List.size_toArray, cl6_len xi.h6]; kernel_rfl) (all_oneCell_toArray (cl6_one xi)) ?_
          refine hK _ _ trivial (fun hS => ?_)
          clear hK K
          try go_frame
          refine wpAnyH_done (by kernel_rfl) ?_ _
          go_wp2_with fail
          go_roundw
          case rel => exact ⟨j + 1, _, by omega, by simp, HPM, S2, KB.out⟩
          case measure => simp [intOf]; omega
      · go_wp2
        go_roundw
        case rel => exact ⟨j + 1, cur, by omega, by simp, HP, HRW, hB⟩
        case measure => simp [intOf]; omega
    · obtain rfl : n = j := by omega
      have HFB := Lib.hid (HF5.out.below hB)
      have HOB := Lib.hid (own_below HO5.out hB)
      have yB := y5.trans (hB.mono y5.size)
      have hcl : cur.length = n := by rw [HP.out.length_eq, HN.out]
      have HCL := Lib.hid hcl
      have HPM : Hid (((cutL6 Q 77 1280).map pcOf).Perm (cur.map fun y => pcOf y.q)) := Lib.hid (by
        have h1 := HP.out.symm.map (fun y : X6 => pcOf y.q)
        rw [← HL6.out, List.map_map]
        exact h1)
      have HME : Hid (∀ y ∈ cur, y.q ∈ cutL6 Q 77 1280) := Lib.hid (fun y hy => by
        rw [← HL6.out]
        exact List.mem_map_of_mem (HP.out.mem_iff.1 hy))
      clear hj hlt HP HF5 HO5 hcl y5 hz hB
      go_upto_region 17 with fail
      go_wp2
      go_loopw [86] (fun i wr => ∃ (j : Nat), j ≤ n ∧ i = .int .i64 (j : Int) ∧ Hid (j < n → ∃ S', Bf4 v1.heap.size wr x t (t - 1) k 1280 0 1 (2 * j) S' (tblG keyK ((cur.take j).map fun y => pcOf y.q)) zeroC) ∧ Hid (Row6 wr v5.heap.size (.slice (some ⟨g, 0, none⟩) n c) cur) ∧
        Hid (wr.ownsRow v2.heap.size 5 1 (.slice P3 (bld4 q).length p3) (bld4 q).length (row (bld4 q))) ∧ Below w.heap.size w wr) (fun i _ => n - (intOf i).toNat)
      case atStart => exact ⟨0, Nat.zero_le _, rfl, Lib.hid (fun _ => ⟨[], HFB.out⟩), HRW, HOB, yB⟩
      case round =>
        clear HFB HOB yB HRW
        obtain ⟨j, hj, rfl, HF, HRW, HOB, yB⟩ := hrel
        have hz := yB.size
        by_cases hlt : j < n
        · obtain ⟨S', hbf⟩ := HF.out hlt
          have HFW := Lib.hid hbf
          obtain ⟨y, hy⟩ : ∃ y, cur[j]? = some y := ⟨_, List.getElem?_eq_getElem (by rw [HCL.out]; exact hlt)⟩
          have hri := HRW.out.at_ hy
          have hoi := HRW.out.2 y (List.mem_of_getElem? hy)
          have HMY := Lib.hid (HME.out y (List.mem_of_getElem? hy))
          have HDE : Hid (cur.map (fun y => pcOf y.q) = (cur.take j).map (fun y => pcOf y.q) ++ pcOf y.q :: (cur.drop (j + 1)).map (fun y => pcOf y.q)) := Lib.hid (by
            have h1 := List.take_append_drop j cur
            obtain ⟨h2, h3⟩ := List.getElem?_eq_some_iff.1 hy
            rw [List.drop_eq_getElem_cons h2, h3] at h1
            conv => lhs; rw [← h1]
            rw [List.map_append, List.map_cons])
          have HTK : Hid ((cur.take (j + 1)).map (fun y => pcOf y.q) = (cur.take j).map (fun y => pcOf y.q) ++ [pcOf y.q]) := Lib.hid (by rw [List.take_add_one, hy, List.map_append]; rfl)
          have h6y := y.h6
          have HY6 := Lib.hid y.h6
          have HCK : Hid (chk6 y.q = 0 ∧ FromA y.q) := Lib.hid (by
            rcases HG.out.ways with e | ⟨hf, _, _⟩
            · have h1 := HMY.out
              rw [e, List.mem_singleton] at h1
              rw [h1]; exact ⟨HG.out.from_.chk, HG.out.from_⟩
            · exact ⟨(hf _ HMY.out).chk, (hf _ HMY.out).from⟩)
          have HYL : Hid (y.q.dat.length ≤ 1000000) := Lib.hid (by have := (chk6_iff.1 HCK.out.1).2; omega)
          clear hy hbf
          go_upto_region 20 with (first
            | ((with_reducible show wpList _ _ _ (Oper.mk _ (Op.load 38 _) _ _ _ _ :: _) _ _); refine wpList_val rfl (run_load_v6o rfl rfl (by first | exact hri | (rw [Nat.zero_add]; exact hri)) (cl6_len y.h6)) ?_)
            | ((with_reducible show wpList _ _ _ (Oper.mk _ (Op.store 38 _ _) _ _ _ _ :: _) _ _); refine v6_store_new (cs := v6a y.q y.A y.c) rfl rfl rfl (by rw [v6a_szR _ _ _ HY6.out.1 HY6.out.2]) (v6a_one _ _ _) ?_))
          have kz := World.alloc_heap_new wr (.cells (v6a y.q y.A y.c) 38)
          have hV : Below wr.heap.size wr (wr.alloc (.cells (v6a y.q y.A y.c) 38)) := (Below.refl _ wr).alloc (Nat.le_refl _) _
          have hOV : Arg (wr.alloc (.cells (v6a y.q y.A y.c) 38)) wr.heap.size y.A y.c y.q.dat := (hoi.arg).below hV
          generalize wr.alloc (.cells (v6a y.q y.A y.c) 38) = V at *
          have atV : At6 V wr.heap.size y.q y.A y.c := range_hpR kz
          clear kz hri hoi
          go_upto_region 21 with (first
            | ((with_reducible show wpList _ _ _ (Oper.mk _ (Op.load 38 _) _ _ _ _ :: _) _ _); refine wpList_val rfl (run_load_v6 rfl rfl atV (v6l_len h6y.1 h6y.2)) ?_)
            | (go_at_call 16; refine (r6build y.q y.A y.c V wr.heap.size HY6.out.1 HY6.out.2 HYL.out hOV hV.size).mono ?_; rintro e w7 ⟨v7, rfl, _, m7⟩; rw [HCK.out.1]; have m7 := m7 HCK.out.1; obtain ⟨P7, p7, rfl, g7, _, x7⟩ := made_shape m7))
          have y7 : Below wr.heap.size wr w7 := hV.trans (x7.mono hV.size)
          have HF7 := Lib.hid (HFW.out.below y7)
          have HR7 := Lib.hid (HRW.out.below y7)
          have HO7 := Lib.hid (own_below HOB.out y7)
          have yB7 := yB.trans (y7.mono hz)
          have hN7 : 2 * j + 1 ≤ 100000 := by omega
          clear m7 atV hOV hV x7 y7 HFW HRW HOB hz HF
          by_cases hlast : j + 1 = n
          · have HTU : Hid (Calls Tryz.prog 17 #[.pointer (some ⟨x, 0, none⟩), .slice P7 (bld6 y.q).length p7] w7 fun e w' => ∃ v l, Hid (e = .returned (.tuple #[.slice none 0 0, v, .int .i64 0])) ∧ RowY w' w7.heap.size v l ∧ Hid (l.map (·.b) = [bld4 q]) ∧ KT v1.heap.size x k w7 w') := Lib.hid (by
              rcases HG.out.ways with e | ⟨hf, hch, h2⟩
              · have h1 := HMY.out
                rw [e, List.mem_singleton] at h1
                have hj0 : j = 0 := by
                  have := congrArg List.length HL6.out
                  rw [e, List.length_map] at this
                  have h3 := HN.out
                  simp at this
                  omega
                subst hj0
                refine (btun_whole HF7.out (by omega) y.q P7 p7 g7 HCK.out.2 (by rw [h1]; exact HG.out.nx) q (by rw [h1]; exact HG.out.dat) HG.out.sq).mono ?_
                rintro e w' ⟨v, l, a1, a2, a3, a4, _⟩
                exact ⟨v, l, a1, a2, a3, a4⟩
              · have hd0 : (cur.drop (j + 1)).map (fun y => pcOf y.q) = [] := by rw [List.drop_eq_nil_of_le (by rw [HCL.out]; omega)]; rfl
                have hpp := HPM.out
                rw [HDE.out, hd0] at hpp
                have hst := addJ_step (K := keyK) hch (by rw [HBL.out]; omega) (by rw [HBL.out]; have := HL0.out; omega) hpp
                rw [if_pos rfl] at hst
                refine (btun_last HF7.out (by omega) y.q P7 p7 g7 (hf _ HMY.out) q HG.out.sq hst).mono ?_
                rintro e w' ⟨v, l, a1, a2, a3, a4, _⟩
                exact ⟨v, l, a1, a2, a3, a4⟩)
            go_upto_region 22 with (go_at_call 17; refine HTU.out.mono ?_; rintro e w9 ⟨v9, l9, he, r9, q9, k9⟩; obtain rfl := he.out; clear he)
            have yB9 := yB7.trans (k9.below (Nat.le_trans hzB HF7.out.bx) (Nat.le_trans hzB HF7.out.bk) hzB yB7.size)
            have HR9 := Lib.hid (HR7.out.kt HF7.out k9)
            have HO9 := Lib.hid (HF7.out.ktO k9 HO7.out t32_no.2.2.2.1 tj32.2.2.2.2.1)
            obtain ⟨yh, rfl⟩ : ∃ yh, l9 = [yh] := by
              have := congrArg List.length q9.out
              rw [List.length_map] at this
              rcases l9 with _ | ⟨a, _ | ⟨b, l⟩⟩
              · cases this
              · exact ⟨a, rfl⟩
              · simp at this
            have hyb : yh.b = bld4 q := by have := q9.out; simpa using this
            obtain ⟨A9, c9, ev9, rd9, _⟩ := r9.shape
            obtain ⟨b8, o8, eA9, hb8, hc8⟩ := rd9 (by simp)
            have hc9 : w9.cell? ⟨b8, o8, none⟩ = some (.slice yh.A (bld4 q).length yh.c) := by
              have := hc8 0 yh rfl 0 _ rfl
              rw [hyb] at this
              simpa using this
            have hao : Arg w9 w9.heap.size yh.A yh.c (bld4 q) := by
              have := arg_own (r9.2 yh (List.mem_cons_self ..))
              rwa [hyb] at this
            subst eA9
            have ev9 : v9 = .slice (some ⟨b8, o8, none⟩) 1 c9 := ev9
            subst ev9
            have hpos : 0 < (bld4 q).length := by rw [HBL.out]; omega
            have KH : Hid (∀ X, Below w9.heap.size w9 X → X.cell? ⟨b8, o8, none⟩ = some (.slice yh.A (bld4 q).length yh.c)) := Lib.hid (fun X hX => (hX.cell (p := ⟨b8, o8, none⟩) hb8).trans hc9)
            have KHB : Hid (∀ X, Below w9.heap.size w9 X → Arg X w9.heap.size yh.A yh.c (bld4 q)) := Lib.hid (fun X hX => hao.below hX)
            have KD : Hid (∀ X, Below w9.heap.size w9 X → Arg X w9.heap.size P3 p3 (bld4 q)) := Lib.hid (fun X hX => (arg_own HO9.out).below hX)
            have HPS := Lib.hid hpos
            have dN : (((j : Int) + 1) == (n : Int)) = true := by simp; omega
            have HLA := Lib.hid hlast
            clear r9 q9 k9 hyb rd9 hb8 hc8 hc9 hao hpos HF7 HR7 HO7 yB7 g7 HTU
            refine wp_region_held_drew (S := fun X => Below w9.heap.size w9 X) (by kernel_rfl) (Below.refl _ w9).drew (fun hS => ?_)
            refine held_pure (i := 0) (oi := ⟨some 103, _, _, _, _, _⟩) rfl (by kernel_rfl) (by kernel_rfl) (by kernel_rfl) (fun _ _ _ h => h) (by rfl) (v := ?_) (fun w hSw => ?_) hS (fun hS => ?_)
            rotate_left
            · go_simp; try with_reducible rfl
            try go_frame
            refine held_pure (i := 1) (oi := ⟨some 104, _, _, _, _, _⟩) rfl (by kernel_rfl) (by kernel_rfl) (by kernel_rfl) (fun _ _ _ h => h) (by rfl) (v := ?_) (fun w hSw => ?_) hS (fun hS => ?_)
            rotate_left
            · go_simp; try with_reducible rfl
            try go_frame
            refine held_pure (i := 2) (oi := ⟨some 105, _, _, _, _, _⟩) rfl (by kernel_rfl) (by kernel_rfl) (by kernel_rfl) (fun _ _ _ h => h) (by rfl) (v := ?_) (fun w hSw => ?_) hS (fun hS => ?_)
            rotate_left
            · go_simp; try with_reducible rfl
            try go_frame
            refine held_pure (i := 3) (oi := ⟨some 106, _, _, _, _, _⟩) rfl (by kernel_rfl) (by kernel_rfl) (by kernel_rfl) (fun _ _ _ h => h) (by rfl) (v := ?_) (fun w hSw => ?_) hS (fun hS => ?_)
            rotate_left
            · go_simp; try with_reducible rfl
            try go_frame
            refine held_pure (i := 4) (oi := ⟨some 107, _, _, _, _, _⟩) rfl (by kernel_rfl) (by kernel_rfl) (by kernel_rfl) (fun _ _ _ h => h) (by rfl) (v := ?_) (fun w hSw => ?_) hS (fun hS => ?_)
            rotate_left
            · go_simp; try with_reducible rfl
            try go_frame
            refine held_pure (i := 5) (oi := ⟨some 108, _, _, _, _, _⟩) rfl (by kernel_rfl) (by kernel_rfl) (by kernel_rfl) (fun _ _ _ h => h) (by rfl) (v := ?_) (fun w hSw => ?_) hS (fun hS => ?_)
            rotate_left
            · go_simp; try with_reducible rfl
            try go_frame
            refine held_pure (i := 6) (oi := ⟨some 109, _, _, _, _, _⟩) rfl (by kernel_rfl) (by kernel_rfl) (by kernel_rfl) (fun _ _ _ h => h) (by rfl) (v := ?_) (fun w hSw => ?_) hS (fun hS => ?_)
            rotate_left
            · go_simp; try with_reducible rfl
            try go_frame
            refine held_pure (i := 7) (oi := ⟨some 110, _, _, _, _, _⟩) rfl (by kernel_rfl) (by kernel_rfl) (by kernel_rfl) (fun _ _ _ h => h) (by rfl) (v := ?_) (fun w hSw => ?_) hS (fun hS => ?_)
            rotate_left
            · go_simp; try with_reducible rfl
            try go_frame
            refine held_pure (i := 8) (oi := ⟨some 111, _, _, _, _, _⟩) rfl (by kernel_rfl) (by kernel_rfl) (by kernel_rfl) (fun _ _ _ h => h) (by rfl) (v := ?_) (fun w hSw => ?_) hS (fun hS => ?_)
            rotate_left
            · go_simp; try with_reducible rfl
            try go_frame
            refine held_pure (i := 9) (oi := ⟨some 112, _, _, _, _, _⟩) rfl (by kernel_rfl) (by kernel_rfl) (by kernel_rfl) (fun _ _ _ h => h) (by rfl) (v := .bool true) (fun w hSw => by (first | (go_simp; done) | (go_simp; simp [dN]; done) | (go_simp; rw [dN]; done) | (go_simp; rw [dN]; rfl))) hS (fun hS => ?_)
            try go_frame
            refine held_pure (i := 10) (oi := ⟨some 113, _, _, _, _, _⟩) rfl (by kernel_rfl) (by kernel_rfl) (by kernel_rfl) (fun _ _ _ h => h) (by rfl) (v := ?_) (fun w hSw => ?_) hS (fun hS => ?_)
            rotate_left
            · go_simp; try with_reducible rfl
            try go_frame
            refine held_pure (i := 11) (oi := ⟨some 114, _, _, _, _, _⟩) rfl (by kernel_rfl) (by kernel_rfl) (by kernel_rfl) (fun _ _ _ h => h) (by rfl) (v := .int .i64 ((j : Int) + 1)) (fun w hSw => by (have hw := IntWalk.i64_in ((j : Int) + 1) (by omega); go_simp; first | done | exact hw | simp [hw] | rw [hw])) hS (fun hS => ?_)
            try go_frame
            refine held_pure (i := 12) (oi := ⟨some 115, _, _, _, _, _⟩) rfl (by kernel_rfl) (by kernel_rfl) (by kernel_rfl) (fun _ _ _ h => h) (by rfl) (v := ?_) (fun w hSw => ?_) hS (fun hS => ?_)
            rotate_left
            · go_simp; try with_reducible rfl
            try go_frame
            refine held_pure (i := 13) (oi := ⟨some 116, _, _, _, _, _⟩) rfl (by kernel_rfl) (by kernel_rfl) (by kernel_rfl) (fun _ _ _ h => h) (by rfl) (v := ?_) (fun w hSw => ?_) hS (fun hS => ?_)
            rotate_left
            · go_simp; try with_reducible rfl
            try go_frame
            refine held_pure (i := 14) (oi := ⟨some 117, _, _, _, _, _⟩) rfl (by kernel_rfl) (by kernel_rfl) (by kernel_rfl) (fun _ _ _ h => h) (by rfl) (v := .bool true) (fun w hSw => by (first | (go_simp; done) | (go_simp; simp [dN]; done) | (go_simp; rw [dN]; done) | (go_simp; rw [dN]; rfl))) hS (fun hS => ?_)
            try go_frame
            refine held_pure (i := 15) (oi := ⟨some 118, _, _, _, _, _⟩) rfl (by kernel_rfl) (by kernel_rfl) (by kernel_rfl) (fun _ _ _ h => h) (by rfl) (v := .bool false) (fun w hSw => by (first | (go_simp; done) | (go_simp; simp [dN]; done) | (go_simp; rw [dN]; done) | (go_simp; rw [dN]; rfl))) hS (fun hS => ?_)
            try go_frame
            refine held_pure (i := 16) (oi := ⟨some 119, _, _, _, _, _⟩) rfl (by kernel_rfl) (by kernel_rfl) (by kernel_rfl) (fun _ _ _ h => h) (by rfl) (v := ?_) (fun w hSw => ?_) hS (fun hS => ?_)
            rotate_left
            · go_simp; try with_reducible rfl
            try go_frame
            refine held_pure (i := 17) (oi := ⟨some 120, _, _, _, _, _⟩) rfl (by kernel_rfl) (by kernel_rfl) (by kernel_rfl) (fun _ _ _ h => h) (by rfl) (v := ?_) (fun w hSw => ?_) hS (fun hS => ?_)
            rotate_left
            · go_simp; try with_reducible rfl
            try go_frame
            refine held_pure (i := 18) (oi := ⟨some 121, _, _, _, _, _⟩) rfl (by kernel_rfl) (by kernel_rfl) (by kernel_rfl) (fun _ _ _ h => h) (by rfl) (v := ?_) (fun w hSw => ?_) hS (fun hS => ?_)
            rotate_left
            · go_simp; try with_reducible rfl
            try go_frame
            refine held_pure (i := 19) (oi := ⟨some 122, _, _, _, _, _⟩) rfl (by kernel_rfl) (by kernel_rfl) (by kernel_rfl) (fun _ _ _ h => h) (by rfl) (v := ?_) (fun w hSw => ?_) hS (fun hS => ?_)
            rotate_left
            · go_simp; try with_reducible rfl
            try go_frame
            refine held_pure (i := 20) (oi := ⟨some 123, _, _, _, _, _⟩) rfl (by kernel_rfl) (by kernel_rfl) (by kernel_rfl) (fun _ _ _ h => h) (by rfl) (v := .bool true) (fun w hSw => by (first | (go_simp; done) | (go_simp; simp [dN]; done) | (go_simp; rw [dN]; done) | (go_simp; rw [dN]; rfl))) hS (fun hS => ?_)
            try go_frame
            refine held_pure (i := 21) (oi := ⟨some 124, _, _, _, _, _⟩) rfl (by kernel_rfl) (by kernel_rfl) (by kernel_rfl) (fun _ _ _ h => h) (by rfl) (v := ?_) (fun w hSw => ?_) hS (fun hS => ?_)
            rotate_left
            · go_simp; try with_reducible rfl
            try go_frame
            refine held_pure (i := 22) (oi := ⟨some 125, _, _, _, _, _⟩) rfl (by kernel_rfl) (by kernel_rfl) (by kernel_rfl) (fun _ _ _ h => h) (by rfl) (v := ?_) (fun w hSw => ?_) hS (fun hS => ?_)
            rotate_left
            · go_simp; try with_reducible rfl
            try go_frame
            refine held_pure (i := 23) (oi := ⟨some 126, _, _, _, _, _⟩) rfl (by kernel_rfl) (by kernel_rfl) (by kernel_rfl) (fun _ _ _ h => h) (by rfl) (v := ?_) (fun w hSw => ?_) hS (fun hS => ?_)
            rotate_left
            · go_simp; try with_reducible rfl
            try go_frame
            refine held_pure (i := 24) (oi := ⟨some 127, _, _, _, _, _⟩) rfl (by kernel_rfl) (by kernel_rfl) (by kernel_rfl) (fun _ _ _ h => h) (by rfl) (fun w hSw => run_load_sl rfl rfl (KH.out w hSw)) hS (fun hS => ?_)
            try go_frame
            refine held_pure (i := 25) (oi := ⟨some 128, _, _, _, _, _⟩) rfl (by kernel_rfl) (by kernel_rfl) (by kernel_rfl) (fun _ _ _ h => h) (by rfl) (fun w hSw => run_convB rfl rfl rfl (KHB.out w hSw) HPS.out) hS (fun hS => ?_)
            try go_frame
            refine held_pure (i := 26) (oi := ⟨some 129, _, _, _, _, _⟩) rfl (by kernel_rfl) (by kernel_rfl) (by kernel_rfl) (fun _ _ _ h => h) (by rfl) (v := ?_) (fun w hSw => ?_) hS (fun hS => ?_)
            rotate_left
            · go_simp; try with_reducible rfl
            try go_frame
            refine held_pure (i := 27) (oi := ⟨some 130, _, _, _, _, _⟩) rfl (by kernel_rfl) (by kernel_rfl) (by kernel_rfl) (fun _ _ _ h => h) (by rfl) (fun w hSw => run_convB rfl rfl rfl (KD.out w hSw) HPS.out) hS (fun hS => ?_)
            try go_frame
            refine held_pure (i := 28) (oi := ⟨some 131, _, _, _, _, _⟩) rfl (by kernel_rfl) (by kernel_rfl) (by kernel_rfl) (fun _ _ _ h => h) (by rfl) (v := .bool false) (fun w hSw => by (go_simp; unfold sq; go_simp; first | done | rfl | simp)) hS (fun hS => ?_)
            try go_frame
            refine held_pure (i := 29) (oi := ⟨some 132, _, _, _, _, _⟩) rfl (by kernel_rfl) (by kernel_rfl) (by kernel_rfl) (fun _ _ _ h => h) (by rfl) (v := ?_) (fun w hSw => ?_) hS (fun hS => ?_)
            rotate_left
            · go_simp; try with_reducible rfl
            try go_frame
            refine held_pure (i := 30) (oi := ⟨some 133, _, _, _, _, _⟩) rfl (by kernel_rfl) (by kernel_rfl) (by kernel_rfl) (fun _ _ _ h => h) (by rfl) (v := ?_) (fun w hSw => ?_) hS (fun hS => ?_)
            rotate_left
            · go_simp; try with_reducible rfl
            try go_frame
            refine wpAnyH_done (by kernel_rfl) ?_ _
            go_wp2_with fail
            go_roundw
            case rel => exact ⟨j + 1, by omega, by simp, Lib.hid (fun h => absurd h (by have := HLA.out; omega)), Lib.hid (HR9.out.below hS), Lib.hid (own_below HO9.out hS), yB9.trans (hS.mono yB9.size)⟩
            case measure => simp [intOf]; omega
          · have hfr : 1 < n := by omega
            have HTU : Hid (Calls Tryz.prog 17 #[.pointer (some ⟨x, 0, none⟩), .slice P7 (bld6 y.q).length p7] w7 fun e w' => Hid (e = .returned (.tuple #[.slice none 0 0, .slice none 0 0, .int .i64 0])) ∧ KT v1.heap.size x k w7 w' ∧ ∃ S', Bf4 v1.heap.size w' x t (t - 1) k 1280 0 1 (2 * (j + 1)) S' (tblG keyK ((cur.take (j + 1)).map fun y => pcOf y.q)) zeroC) := Lib.hid (by
              rcases HG.out.ways with e | ⟨hf, hch, h2⟩
              · exfalso
                have := congrArg List.length HL6.out
                rw [e, List.length_map] at this
                have h3 := HN.out
                simp at this
                omega
              · have hd0 : (cur.drop (j + 1)).map (fun y => pcOf y.q) ≠ [] := by
                  intro h
                  have := congrArg List.length h
                  rw [List.length_map, List.length_drop, HCL.out] at this
                  simp at this
                  omega
                have hpp := HPM.out
                rw [HDE.out] at hpp
                have hst := addJ_step (K := keyK) hch (by rw [HBL.out]; omega) (by rw [HBL.out]; have := HL0.out; omega) hpp
                rw [if_neg hd0, ← HTK.out] at hst
                exact btun_more HF7.out (by omega) y.q P7 p7 g7 (hf _ HMY.out) hst)
            go_upto_region 22 with (go_at_call 17; refine HTU.out.mono ?_; rintro e w9 ⟨he, k9, S9, f9⟩; obtain rfl := he.out; clear he)
            have yB9 := yB7.trans (k9.below (Nat.le_trans hzB HF7.out.bx) (Nat.le_trans hzB HF7.out.bk) hzB yB7.size)
            have HR9 := Lib.hid (HR7.out.kt HF7.out k9)
            have HO9 := Lib.hid (HF7.out.ktO k9 HO7.out t32_no.2.2.2.1 tj32.2.2.2.2.1)
            have HF9 := Lib.hid f9
            have dN : (((j : Int) + 1) == (n : Int)) = false := by simp; omega
            clear k9 f9 HF7 HR7 HO7 yB7 g7 HTU
            refine wp_region_held_drew (S := fun X => Below w9.heap.size w9 X) (by kernel_rfl) (Below.refl _ w9).drew (fun hS => ?_)
            refine held_pure (i := 0) (oi := ⟨some 103, _, _, _, _, _⟩) rfl (by kernel_rfl) (by kernel_rfl) (by kernel_rfl) (fun _ _ _ h => h) (by rfl) (v := ?_) (fun w hSw => ?_) hS (fun hS => ?_)
            rotate_left
            · go_simp; try with_reducible rfl
            try go_frame
            refine held_pure (i := 1) (oi := ⟨some 104, _, _, _, _, _⟩) rfl (by kernel_rfl) (by kernel_rfl) (by kernel_rfl) (fun _ _ _ h => h) (by rfl) (v := ?_) (fun w hSw => ?_) hS (fun hS => ?_)
            rotate_left
            · go_simp; try with_reducible rfl
            try go_frame
            refine held_pure (i := 2) (oi := ⟨some 105, _, _, _, _, _⟩) rfl (by kernel_rfl) (by kernel_rfl) (by kernel_rfl) (fun _ _ _ h => h) (by rfl) (v := ?_) (fun w hSw => ?_) hS (fun hS => ?_)
            rotate_left
            · go_simp; try with_reducible rfl
            try go_frame
            refine held_pure (i := 3) (oi := ⟨some 106, _, _, _, _, _⟩) rfl (by kernel_rfl) (by kernel_rfl) (by kernel_rfl) (fun _ _ _ h => h) (by rfl) (v := ?_) (fun w hSw => ?_) hS (fun hS => ?_)
            rotate_left
            · go_simp; try with_reducible rfl
            try go_frame
            refine held_pure (i := 4) (oi := ⟨some 107, _, _, _, _, _⟩) rfl (by kernel_rfl) (by kernel_rfl) (by kernel_rfl) (fun _ _ _ h => h) (by rfl) (v := ?_) (fun w hSw => ?_) hS (fun hS => ?_)
            rotate_left
            · go_simp; try with_reducible rfl
            try go_frame
            refine held_pure (i := 5) (oi := ⟨some 108, _, _, _, _, _⟩) rfl (by kernel_rfl) (by kernel_rfl) (by kernel_rfl) (fun _ _ _ h => h) (by rfl) (v := ?_) (fun w hSw => ?_) hS (fun hS => ?_)
            rotate_left
            · go_simp; try with_reducible rfl
            try go_frame
            refine held_pure (i := 6) (oi := ⟨some 109, _, _, _, _, _⟩) rfl (by kernel_rfl) (by kernel_rfl) (by kernel_rfl) (fun _ _ _ h => h) (by rfl) (v := ?_) (fun w hSw => ?_) hS (fun hS => ?_)
            rotate_left
            · go_simp; try with_reducible rfl
            try go_frame
            refine held_pure (i := 7) (oi := ⟨some 110, _, _, _, _, _⟩) rfl (by kernel_rfl) (by kernel_rfl) (by kernel_rfl) (fun _ _ _ h => h) (by rfl) (v := ?_) (fun w hSw => ?_) hS (fun hS => ?_)
            rotate_left
            · go_simp; try with_reducible rfl
            try go_frame
            refine held_pure (i := 8) (oi := ⟨some 111, _, _, _, _, _⟩) rfl (by kernel_rfl) (by kernel_rfl) (by kernel_rfl) (fun _ _ _ h => h) (by rfl) (v := ?_) (fun w hSw => ?_) hS (fun hS => ?_)
            rotate_left
            · go_simp; try with_reducible rfl
            try go_frame
            refine held_pure (i := 9) (oi := ⟨some 112, _, _, _, _, _⟩) rfl (by kernel_rfl) (by kernel_rfl) (by kernel_rfl) (fun _ _ _ h => h) (by rfl) (v := .bool false) (fun w hSw => by (first | (go_simp; done) | (go_simp; simp [dN]; done) | (go_simp; rw [dN]; done) | (go_simp; rw [dN]; rfl))) hS (fun hS => ?_)
            try go_frame
            refine held_pure (i := 10) (oi := ⟨some 113, _, _, _, _, _⟩) rfl (by kernel_rfl) (by kernel_rfl) (by kernel_rfl) (fun _ _ _ h => h) (by rfl) (v := ?_) (fun w hSw => ?_) hS (fun hS => ?_)
            rotate_left
            · go_simp; try with_reducible rfl
            try go_frame
            refine held_pure (i := 11) (oi := ⟨some 114, _, _, _, _, _⟩) rfl (by kernel_rfl) (by kernel_rfl) (by kernel_rfl) (fun _ _ _ h => h) (by rfl) (v := .int .i64 ((j : Int) + 1)) (fun w hSw => by (have hw := IntWalk.i64_in ((j : Int) + 1) (by omega); go_simp; first | done | exact hw | simp [hw] | rw [hw])) hS (fun hS => ?_)
            try go_frame
            refine held_pure (i := 12) (oi := ⟨some 115, _, _, _, _, _⟩) rfl (by kernel_rfl) (by kernel_rfl) (by kernel_rfl) (fun _ _ _ h => h) (by rfl) (v := ?_) (fun w hSw => ?_) hS (fun hS => ?_)
            rotate_left
            · go_simp; try with_reducible rfl
            try go_frame
            refine held_pure (i := 13) (oi := ⟨some 116, _, _, _, _, _⟩) rfl (by kernel_rfl) (by kernel_rfl) (by kernel_rfl) (fun _ _ _ h => h) (by rfl) (v := ?_) (fun w hSw => ?_) hS (fun hS => ?_)
            rotate_left
            · go_simp; try with_reducible rfl
            try go_frame
            refine held_pure (i := 14) (oi := ⟨some 117, _, _, _, _, _⟩) rfl (by kernel_rfl) (by kernel_rfl) (by kernel_rfl) (fun _ _ _ h => h) (by rfl) (v := .bool false) (fun w hSw => by (first | (go_simp; done) | (go_simp; simp [dN]; done) | (go_simp; rw [dN]; done) | (go_simp; rw [dN]; rfl))) hS (fun hS => ?_)
            try go_frame
            refine held_pure (i := 15) (oi := ⟨some 118, _, _, _, _, _⟩) rfl (by kernel_rfl) (by kernel_rfl) (by kernel_rfl) (fun _ _ _ h => h) (by rfl) (v := .bool false) (fun w hSw => by (first | (go_simp; done) | (go_simp; simp [dN]; done) | (go_simp; rw [dN]; done) | (go_simp; rw [dN]; rfl))) hS (fun hS => ?_)
            try go_frame
            refine held_pure (i := 16) (oi := ⟨some 119, _, _, _, _, _⟩) rfl (by kernel_rfl) (by kernel_rfl) (by kernel_rfl) (fun _ _ _ h => h) (by rfl) (v := ?_) (fun w hSw => ?_) hS (fun hS => ?_)
            rotate_left
            · go_simp; try with_reducible rfl
            try go_frame
            refine held_pure (i := 17) (oi := ⟨some 120, _, _, _, _, _⟩) rfl (by kernel_rfl) (by kernel_rfl) (by kernel_rfl) (fun _ _ _ h => h) (by rfl) (v := ?_) (fun w hSw => ?_) hS (fun hS => ?_)
            rotate_left
            · go_simp; try with_reducible rfl
            try go_frame
            refine held_pure (i := 18) (oi := ⟨some 121, _, _, _, _, _⟩) rfl (by kernel_rfl) (by kernel_rfl) (by kernel_rfl) (fun _ _ _ h => h) (by rfl) (v := ?_) (fun w hSw => ?_) hS (fun hS => ?_)
            rotate_left
            · go_simp; try with_reducible rfl
            try go_frame
            refine held_pure (i := 19) (oi := ⟨some 122, _, _, _, _, _⟩) rfl (by kernel_rfl) (by kernel_rfl) (by kernel_rfl) (fun _ _ _ h => h) (by rfl) (v := ?_) (fun w hSw => ?_) hS (fun hS => ?_)
            rotate_left
            · go_simp; try with_reducible rfl
            try go_frame
            refine held_pure (i := 20) (oi := ⟨some 123, _, _, _, _, _⟩) rfl (by kernel_rfl) (by kernel_rfl) (by kernel_rfl) (fun _ _ _ h => h) (by rfl) (v := .bool false) (fun w hSw => by (first | (go_simp; done) | (go_simp; simp [dN]; done) | (go_simp; rw [dN]; done) | (go_simp; rw [dN]; rfl))) hS (fun hS => ?_)
            try go_frame
            refine held_pure (i := 21) (oi := ⟨some 124, _, _, _, _, _⟩) rfl (by kernel_rfl) (by kernel_rfl) (by kernel_rfl) (fun _ _ _ h => h) (by rfl) (v := ?_) (fun w hSw => ?_) hS (fun hS => ?_)
            rotate_left
            · go_simp; try with_reducible rfl
            try go_frame
            refine held_skip (i := 22) (oi := ⟨some 125, _, _, _, _, _⟩) rfl (by kernel_rfl) (by kernel_rfl) (by kernel_rfl) (fun _ _ _ h => h) (by rfl) hS (fun hS => ?_)
            try go_frame
            refine held_skip (i := 23) (oi := ⟨some 126, _, _, _, _, _⟩) rfl (by kernel_rfl) (by kernel_rfl) (by kernel_rfl) (fun _ _ _ h => h) (by rfl) hS (fun hS => ?_)
            try go_frame
            refine held_skip (i := 24) (oi := ⟨some 127, _, _, _, _, _⟩) rfl (by kernel_rfl) (by kernel_rfl) (by kernel_rfl) (fun _ _ _ h => h) (by rfl) hS (fun hS => ?_)
            try go_frame
            refine held_skip (i := 25) (oi := ⟨some 128, _, _, _, _, _⟩) rfl (by kernel_rfl) (by kernel_rfl) (by kernel_rfl) (fun _ _ _ h => h) (by rfl) hS (fun hS => ?_)
            try go_frame
            refine held_skip (i := 26) (oi := ⟨some 129, _, _, _, _, _⟩) rfl (by kernel_rfl) (by kernel_rfl) (by kernel_rfl) (fun _ _ _ h => h) (by rfl) hS (fun hS => ?_)
            try go_frame
            refine held_skip (i := 27) (oi := ⟨some 130, _, _, _, _, _⟩) rfl (by kernel_rfl) (by kernel_rfl) (by kernel_rfl) (fun _ _ _ h => h) (by rfl) hS (fun hS => ?_)
            try go_frame
            refine held_skip (i := 28) (oi := ⟨some 131, _, _, _, _, _⟩) rfl (by kernel_rfl) (by kernel_rfl) (by kernel_rfl) (fun _ _ _ h => h) (by rfl) hS (fun hS => ?_)
            try go_frame
            refine held_pure (i := 29) (oi := ⟨some 132, _, _, _, _, _⟩) rfl (by kernel_rfl) (by kernel_rfl) (by kernel_rfl) (fun _ _ _ h => h) (by rfl) (v := ?_) (fun w hSw => ?_) hS (fun hS => ?_)
            rotate_left
            · go_simp; try with_reducible rfl
            try go_frame
            refine held_pure (i := 30) (oi := ⟨some 133, _, _, _, _, _⟩) rfl (by kernel_rfl) (by kernel_rfl) (by kernel_rfl) (fun _ _ _ h => h) (by rfl) (v := ?_) (fun w hSw => ?_) hS (fun hS => ?_)
            rotate_left
            · go_simp; try with_reducible rfl
            try go_frame
            refine wpAnyH_done (by kernel_rfl) ?_ _
            go_wp2_with fail
            go_roundw
            case rel => exact ⟨j + 1, by omega, by simp, Lib.hid (fun _ => ⟨S9, HF9.out.below hS⟩), Lib.hid (HR9.out.below hS), Lib.hid (own_below HO9.out hS), yB9.trans (hS.mono yB9.size)⟩
            case measure => simp [intOf]; omega
        · obtain rfl : n = j := by omega
          go_wp2_with (go_at_call 6; refine (awake32 _).mono ?_; rintro e v10 ⟨rfl, x10⟩)
          go_ret
          exact ⟨rfl, yB.trans (x10.mono hz)⟩

/-! ### The row's step -/
set_option maxRecDepth 100000 in
theorem lifted (os : Os) (started : os.Started) (H : Type) (enc : TypeId × Value → H) :
    ReturnsInHanded {} Tryz.checked os 4 .any (Rows.b4GetsSpec.pre6 enc Tryz.prog Tryz.f4 Rows.b4GetsRow.domain false) (Rows.b4GetsSpec.post enc Tryz.prog Tryz.f4 false true false false) := by
  refine returnsInHanded_of_change (C := Tryz.checked) own started (by kernel_rfl) Tryz.func4
    (ChangeSpec.witness6 (enc := enc) (C := Tryz.checked) false ⟨#[], #[.slice none 0 0, .slice none 0 0], []⟩ 8 (by kernel_rfl) (by kernel_rfl) (by kernel_rfl) (by kernel_rfl)) ?_
  intro W base args ds gs before hval0 hW hcnd _
  have hval : ∀ (j : Nat) t v, Tryz.f4.params[j]? = some t → args[j]? = some v → Value.okWide Tryz.prog W .any base t v := hval0
  have hW' := hW
  obtain ⟨p, q, hA0, hV, rfl, hfz, hnd⟩ := hW
  have hA : DataW.TrodAll enc Tryz.prog W 0 (fun _ => true) true Tryz.f4.params.toList args.toList ds p := hA0
  rw [Tryz.params4] at hA hval
  obtain ⟨v0, vs0, d0, ds0, p0, q0, hargs, rfl, rfl, t0, r0⟩ := trodAll_cons hA
  obtain ⟨v1, vs1, d1, ds1, p1, q1, rfl, rfl, rfl, t1, r1⟩ := trodAll_cons r0
  obtain ⟨rfl, rfl, rfl⟩ := trodAll_nil r1
  obtain rfl : args = #[v0, v1] := by cases args; simp_all
  obtain ⟨rfl, rfl⟩ := trodVars_none hV
  have k0 := t0
  have lt0 := Trod_lt t0
  have k1 := t1
  have lt1 := Trod_lt t1
  obtain ⟨A0, c0, b0, rfl, h0, m0⟩ := get_bytes Tryz.underlying22 Tryz.underlying5 (by kernel_rfl) (hval 0 22 v0 rfl rfl) t0
  obtain ⟨A1, c1, b1, rfl, h1, m1⟩ := get_bytes Tryz.underlying22 Tryz.underlying5 (by kernel_rfl) (hval 1 22 v1 rfl rfl) t1
  clear hA0 hval0
  refine (walk A0 c0 b0 A1 c1 b1 W h0 m0 h1 m1).mono fun e W' ⟨he, bel⟩ => ?_
  subst he
  exact ⟨_, rfl, _, _, _, [], _, [], hW', trodAll_mk1 (shut_bool Tryz.underlying4 _), (trodAll_cons_mk (Below.trod laidOut (by kernel_rfl) (of_decide_eq_true (by kernel_rfl)) k0 bel lt0) (trodAll_cons_mk (Below.trod laidOut (by kernel_rfl) (of_decide_eq_true (by kernel_rfl)) k1 bel lt1) trodAll_mk0)), rfl, bel.frame _, fun h => by cases h⟩

theorem over : Rows.b4GetsRow.holds Tryz.pinned (OpenSpec.ofChange Rows.b4GetsSpec) :=
  OpenClaim.holds_of_wide 4 Tryz.f4 rfl rfl rfl rfl rfl rfl rfl ⟨rfl, rfl, rfl, rfl, rfl⟩ rfl rfl rfl rfl rfl (by kernel_rfl) Tryz.func4 (by kernel_rfl)
    (of_decide_eq_true (by kernel_rfl)) (by unfold Func.isWrapper; first | (rw [if_pos (by decide +kernel)]; kernel_rfl) | (rw [if_neg (by decide +kernel)]; exact ⟨rfl, rfl⟩))
    (fun os started H enc _ => lifted os started H enc)

theorem proved : Rows.B4GetsSaid := over
end Go.Proofs.YtpoigngpdcmipaaGreat.b4Gets
