/-
  Whatever the calls, JoinLives answers true and its arguments read as they did: buffers do any calls in any order as the document says. No condition.
-/
import Derived.Test.YtghbliabmecbcaaRows
import Derived.WalkKit
import Derived.ProofKit
import Derived.OpenShut
import Derived.ChangeOld
import Derived.Below
import Derived.Test.YtghbliabmecbcaaMa2
import Derived.Test.YtghbliabmecbcaaMa16
namespace Go.Proofs.Ytghbliabmecbcaa.joinLives
open Go.ChangeShapes Go.WideShapes Go.ChangeAt Go.RowKit
set_option linter.unusedVariables false
attribute [local go_sem] Oper.semAt_some

theorem own : ownKnob Try.prog.godebug = none := by kernel_rfl
theorem laidOut : laidOutB Try.prog = true := by kernel_rfl

/-! ### The walk -/
set_option maxRecDepth 100000 in
set_option maxHeartbeats 4000000 in
theorem walk (a0 : Int) (a1 : Int) (a2 : Int) (A3 : Option Addr) (c3 : Nat) (l3 : List Dx) (w : World) (w0 : (Lit.int .i64 a0).wf = true) (w1 : (Lit.int .i64 a1).wf = true) (w2 : (Lit.int .i64 a2).wf = true) (h3 : RdS clD 7 w w.heap.size A3 l3) (e3 : ∀ y ∈ l3, Arg w w.heap.size y.A y.c y.b ∧ y.c ≤ maxLen ∧ (Lit.int .i64 y.off).wf = true ∧ (Lit.int .i64 y.now).wf = true ∧ y.key.length ≤ maxLen ∧ y.head.length ≤ maxLen) (n3 : l3.length ≤ c3) (m3 : c3 ≤ maxLen) :
    Calls Try.prog 3 #[.int .i64 a0, .int .i64 a1, .int .i64 a2, .slice A3 l3.length c3] w fun e w' => e = .returned (.bool true) ∧ Below w.heap.size w w' := by
  obtain ⟨n, hn⟩ : ∃ n, n = l3.length := ⟨_, rfl⟩
  have HN := Lib.hid hn
  have HE0 := Lib.hid e3
  have HR0 := Lib.hid h3
  have hcap : n ≤ c3 := by rw [hn]; exact n3
  rw [← hn]
  by_cases hok : newOk a0 a1 a2
  rotate_left
  · have HOK := Lib.hid hok
    clear hok hn e3 h3 n3
    go_enter Try.func3, Try.ntmps3
    go_wp2_with (first
      | (go_at_call 9; refine (jnew_bad a0 a1 a2 w HOK.out).mono ?_; rintro e w1 ⟨rfl, rfl⟩)
      | (go_at_call 10; refine (r16new_bad a0 a1 a2 w HOK.out).mono ?_; rintro e w2 ⟨rfl, rfl⟩)
      | (go_at_call 12; refine (awake16 w).mono ?_; rintro e v2 ⟨rfl, x2⟩))
    go_ret
    exact ⟨rfl, x2⟩
  · have HOK := Lib.hid hok
    cases hfar : farD 0 0 l3 with
    | true =>
      have HF := Lib.hid hfar
      clear hok hfar hn e3 h3 n3
      go_enter Try.func3, Try.ntmps3
      go_upto_region 2 with (go_at_call 9; refine (jnew_ok a0 a1 a2 w HOK.out).mono ?_; rintro e w1 ⟨rfl, hT1, x1⟩)
      go_upto_region 3 with (go_at_call 10; refine (r16new_ok a0 a1 a2 w1 HOK.out).mono ?_; rintro e w2 ⟨rfl, hR2, x2⟩)
      have b2 := x1.trans (x2.mono x1.size)
      have HRW := Lib.hid (rds_far HR0.out b2)
      clear hT1 hR2
      go_wp2_with (first
        | (go_at_call 12; refine (awake16 v3).mono ?_; rintro e v4 ⟨rfl, x4⟩)
        | (go_at_call 11; refine (far16 A3 c3 n w.heap.size l3 w2 HRW.out b2.size HN.out (fun y hy => ⟨(HE0.out y hy).1.cap, (HE0.out y hy).2.1, (HE0.out y hy).2.2.1⟩)).mono ?_; rintro e v3 ⟨rfl, x3⟩; rw [HF.out]))
      go_ret
      exact ⟨rfl, (b2.trans (x3.mono b2.size)).trans (x4.mono (Nat.le_trans b2.size x3.size))⟩
    | false =>
      have HF := Lib.hid hfar
      obtain ⟨hf1, hf2⟩ := farD_no hfar
      have hn60 : n ≤ 60 := by
        rw [hn]
        split at hf1 <;> omega
      have HF2 := Lib.hid hf2
      clear hok hfar hn e3 h3 n3 hf1 hf2
      go_enter Try.func3, Try.ntmps3
      go_upto_region 2 with (go_at_call 9; refine (jnew_ok a0 a1 a2 w HOK.out).mono ?_; rintro e w1 ⟨rfl, hT1, x1⟩)
      go_upto_region 3 with (go_at_call 10; refine (r16new_ok a0 a1 a2 w1 HOK.out).mono ?_; rintro e w2 ⟨rfl, hR2, x2⟩)
      have b2 := x1.trans (x2.mono x1.size)
      have HRW := Lib.hid (rds_far HR0.out b2)
      have HJ2 := Lib.hid (JLw.start HOK.out hT1 x1 hR2 x2)
      clear hT1 hR2
      go_upto_region 7 with (go_at_call 11; refine (far16 A3 c3 n w.heap.size l3 w2 HRW.out b2.size HN.out (fun y hy => ⟨(HE0.out y hy).1.cap, (HE0.out y hy).2.1, (HE0.out y hy).2.2.1⟩)).mono ?_; rintro e v3 ⟨rfl, x3⟩; rw [HF.out])
      have HJ3 := Lib.hid (HJ2.out.below x3)
      generalize w1.heap.size = g at *
      clear HJ2 HRW x1 x2 b2 x3
      go_wp2
      go_loopw [56] (fun i wr => ∃ (k : Nat) (S : List Bu) (T : List XB), k ≤ n ∧ i = .int .i64 (k : Int) ∧ Hid (JLw w.heap.size (w.heap.size + 1) w.heap.size g a0 a1 a2 k S T w wr))
        (fun i _ => n - (intOf i).toNat)
      case atStart => exact ⟨0, [], [], Nat.zero_le _, rfl, HJ3⟩
      case round =>
        obtain ⟨k, S, T, hk, rfl, HJ⟩ := hrel
        clear HJ3
        by_cases hlt : k < n
        · obtain ⟨x, hx⟩ : ∃ x, l3[k]? = some x := ⟨_, List.getElem?_eq_getElem (by rw [← HN.out]; exact hlt)⟩
          have hxm := List.mem_of_getElem? hx
          obtain ⟨ea, ec, eo, en, ek, eh⟩ := HE0.out x hxm
          have hbx := HF2.out x hxm
          obtain ⟨b9, o9, rfl, hb9, hrow9⟩ := row_ofD HR0.out hx
          have hrow := range_below hrow9 hb9 HJ.out.bel
          have hoff : -9223372036854775808 ≤ x.off ∧ x.off ≤ 9223372036854775807 := by have := eo; simp [Lit.wf, IntKind.min, IntKind.max, IntKind.bits, IntKind.signed] at this; omega
          have hnow : -9223372036854775808 ≤ x.now ∧ x.now ≤ 9223372036854775807 := by have := en; simp [Lit.wf, IntKind.min, IntKind.max, IntKind.bits, IntKind.signed] at this; omega
          obtain ⟨V, hV⟩ : ∃ V, V = wr.alloc (.cells (clD x).toArray 34) := ⟨_, rfl⟩
          have HV := Lib.hid hV
          have bV : Below wr.heap.size wr V := by rw [hV]; exact (Below.refl _ wr).alloc (Nat.le_refl _) _
          have hbV : V.heap[wr.heap.size]? = some (.cells (clD x).toArray 34 (0, 0)) := by rw [hV]; exact World.alloc_heap_new wr _
          have HBV := Lib.hid hbV
          have HLV := Lib.hid (HJ.out.below bV)
          have HARG := Lib.hid (ea.below HLV.out.bel)
          have hmy : a1 ≤ 1073741824 := HOK.out.2.1.2
          have hwt : 1 ≤ a2 ∧ a2 ≤ 1099511627776 := HOK.out.2.2
          have kx0 : V.cell? ⟨wr.heap.size, 0, none⟩ = some (.bool x.gone) := cells_at (i := 0) hbV rfl
          clear hx hrow9 hV ea eo en
          cases hgo : x.gone with
          | true =>
            rw [hgo] at kx0
            have HX1 : Hid (∀ X, X = V.drew → _) := Lib.hid (fun X hX => by subst hX; exact (HLV.out.below (Below.refl V.heap.size V).drew).exp hmy (by omega) hwt x.now hnow)
            clear hbV bV hmy hwt
            go_upto_region 11 with (first
              | ((with_reducible show wpList _ _ _ (Oper.mk _ (Op.load 34 _) _ _ _ _ :: _) _ _); refine wpList_val rfl (run_load_do rfl rfl hrow rfl) ?_)
              | ((with_reducible show wpList _ _ _ (Oper.mk _ (Op.store 34 _ _) _ _ _ _ :: _) _ _); refine do_store_new (cs := (clD x).toArray) rfl rfl rfl rfl (clD_one x) ?_; rw [← HV.out]))
            obtain ⟨bx, hbx0⟩ : ∃ bx, bx = wr.heap.size := ⟨_, rfl⟩
            rw [← hbx0] at HBV ⊢
            clear hbx0 hrow kx0
            refine wp_region_held_drew (S := fun X => X.heap[bx]? = some (.cells (clD x).toArray 34 (0, 0))) (by kernel_rfl) HBV.out (fun hS => ?_)
            refine held_pure (i := 0) (oi := ⟨some 62, _, _, _, _, _⟩) rfl (by kernel_rfl) (by kernel_rfl) (by kernel_rfl) (fun _ _ _ h => h) (by rfl) (v := ?_) (fun w hSw => ?_) hS (fun hS => ?_)
            rotate_left
            · go_simp; try with_reducible rfl
            try go_frame
            refine held_pure (i := 1) (oi := ⟨some 63, _, _, _, _, _⟩) rfl (by kernel_rfl) (by kernel_rfl) (by kernel_rfl) (fun _ _ _ h => h) (by rfl) (v := ?_) (fun w hSw => ?_) hS (fun hS => ?_)
            rotate_left
            · go_simp; try with_reducible rfl
            try go_frame
            refine held_pure (i := 2) (oi := ⟨some 64, _, _, _, _, _⟩) rfl (by kernel_rfl) (by kernel_rfl) (by kernel_rfl) (fun _ _ _ h => h) (by rfl) (fun w hSw => run_load_int rfl rfl (cells_at (i := 6) hSw rfl)) hS (fun hS => ?_)
            try go_frame
            refine held_pure (i := 4) (oi := ⟨some 66, _, _, _, _, _⟩) rfl (by kernel_rfl) (by kernel_rfl) (by kernel_rfl) (fun _ _ _ h => h) (by rfl) (v := ?_) (fun w hSw => ?_) hS (fun hS => ?_)
            rotate_left
            · go_simp; try with_reducible rfl
            try go_frame
            refine held_pure (i := 5) (oi := ⟨some 67, _, _, _, _, _⟩) rfl (by kernel_rfl) (by kernel_rfl) (by kernel_rfl) (fun _ _ _ h => h) (by rfl) (v := ?_) (fun w hSw => ?_) hS (fun hS => ?_)
            rotate_left
            · go_simp; try with_reducible rfl
            try go_frame
            refine held_pure (i := 6) (oi := ⟨some 68, _, _, _, _, _⟩) rfl (by kernel_rfl) (by kernel_rfl) (by kernel_rfl) (fun _ _ _ h => h) (by rfl) (fun w hSw => run_load_int rfl rfl (cells_at (i := 6) hSw rfl)) hS (fun hS => ?_)
            try go_frame
            refine wpAnyH_ready (rs := [3]) (by kernel_rfl) (by simp) (AllReadyH.cons (o := ⟨some 65, _, _, _, _, _⟩) rfl (fun K hK => ?_) AllReadyH.nil)
            rw [if_pos (by rfl)]
            go_simp
            refine (HX1.out V.drew rfl).mono ?_
            rintro e y1 ⟨v1, rfl, hb1, hc1⟩
            have hS1 := hb1 bx _ hS
            have HC1 := Lib.hid hc1
            clear hb1 hc1
            show K _ _
            refine hK.out _ _ hS1 (fun hS => ?_)
            clear hK K
            try go_frame
            refine wpAnyH_ready (rs := [7]) (by kernel_rfl) (by simp) (AllReadyH.cons (o := ⟨some 69, _, _, _, _, _⟩) rfl (fun K hK => ?_) AllReadyH.nil)
            rw [if_pos (by rfl)]
            go_simp
            refine HC1.out.mono ?_
            rintro e y2 ⟨v2, rfl, hb2, hc2, hj2⟩
            have hS2 := hb2 bx _ hS
            have HC2 := Lib.hid hc2
            have HJ2 := Lib.hid hj2
            clear hb2 hc2 hj2
            show K _ _
            refine hK.out _ _ hS2 (fun hS => ?_)
            clear hK K
            try go_frame
            refine wpAnyH_ready (rs := [8]) (by kernel_rfl) (by simp) (AllReadyH.cons (o := ⟨some 70, _, _, _, _, _⟩) rfl (fun K hK => ?_) AllReadyH.nil)
            rw [if_pos (by rfl)]
            go_simp
            refine HC2.out.mono ?_
            rintro e y3 ⟨rfl, z3⟩
            have hS3 := (z3.block bx (heap_lt hS)).trans hS
            show K _ _
            refine hK.out _ _ hS3 (fun hS => ?_)
            clear hK K
            try go_frame
            refine held_pure (i := 9) (oi := ⟨some 71, _, _, _, _, _⟩) rfl (by kernel_rfl) (by kernel_rfl) (by kernel_rfl) (fun _ _ _ h => h) (by rfl) (v := .bool false) (fun w hSw => by go_simp) hS (fun hS => ?_)
            try go_frame
            refine wpAnyH_done (by kernel_rfl) ?_ _
            go_wp2_with fail
            go_roundw
            case rel =>
              obtain ⟨S2, T2, hj⟩ := HJ2.out
              exact ⟨k + 1, S2, T2, by omega, by simp, Lib.hid (hj.below z3)⟩
            case measure => simp [intOf]; omega
          | false =>
            rw [hgo] at kx0
            obtain ⟨r1, r3, r4, hadd⟩ := HLV.out.add hmy (by omega) x.key x.head x.off x.now x.more x.A x.c x.b HARG.out ek hbx hoff
            have HA := Lib.hid hadd
            have kx1 : V.cell? ⟨wr.heap.size, 1, none⟩ = some (.string (strB x.key)) := cells_at (i := 1) hbV rfl
            have kx2 : V.cell? ⟨wr.heap.size, 2, none⟩ = some (.int .i64 x.off) := cells_at (i := 2) hbV rfl
            have kx3 : V.cell? ⟨wr.heap.size, 3, none⟩ = some (.bool x.more) := cells_at (i := 3) hbV rfl
            have kx4 : V.cell? ⟨wr.heap.size, 4, none⟩ = some (.slice x.A x.b.length x.c) := cells_at (i := 4) hbV rfl
            have kx5 : V.cell? ⟨wr.heap.size, 5, none⟩ = some (.string (strB x.head)) := cells_at (i := 5) hbV rfl
            have kx6 : V.cell? ⟨wr.heap.size, 6, none⟩ = some (.int .i64 x.now) := cells_at (i := 6) hbV rfl
            clear hbV bV hmy hwt hadd
            go_upto_region 14 with (first
              | ((with_reducible show wpList _ _ _ (Oper.mk _ (Op.load 34 _) _ _ _ _ :: _) _ _); refine wpList_val rfl (run_load_do rfl rfl hrow rfl) ?_)
              | ((with_reducible show wpList _ _ _ (Oper.mk _ (Op.store 34 _ _) _ _ _ _ :: _) _ _); refine do_store_new (cs := (clD x).toArray) rfl rfl rfl rfl (clD_one x) ?_; rw [← HV.out])
              | (go_at_call 16; refine HA.out.mono ?_; rintro e y1 ⟨v1, rfl, hb1, hc1⟩))
            have h1 := hb1 _ _ HBV.out
            have HC1 := Lib.hid hc1
            clear kx0 kx1 kx2 kx3 kx4 kx5 kx6 hrow hb1 hc1
            have kx1 : y1.cell? ⟨wr.heap.size, 1, none⟩ = some (.string (strB x.key)) := cells_at (i := 1) h1 rfl
            have kx2 : y1.cell? ⟨wr.heap.size, 2, none⟩ = some (.int .i64 x.off) := cells_at (i := 2) h1 rfl
            have kx3 : y1.cell? ⟨wr.heap.size, 3, none⟩ = some (.bool x.more) := cells_at (i := 3) h1 rfl
            have kx4 : y1.cell? ⟨wr.heap.size, 4, none⟩ = some (.slice x.A x.b.length x.c) := cells_at (i := 4) h1 rfl
            have kx5 : y1.cell? ⟨wr.heap.size, 5, none⟩ = some (.string (strB x.head)) := cells_at (i := 5) h1 rfl
            have kx6 : y1.cell? ⟨wr.heap.size, 6, none⟩ = some (.int .i64 x.now) := cells_at (i := 6) h1 rfl
            clear h1
            go_upto_region 15 with (go_at_call 17; refine HC1.out.mono ?_; rintro e U ⟨v2, rfl, hb2, heq, S2, T2, hj⟩)
            obtain ⟨nb, nl, hnl, q1, q2, q3, ⟨A8, c8, q4⟩, q5⟩ := hj.tail (by omega)
            have HEQ := Lib.hid heq
            have HJ2 := Lib.hid hj
            have HB1 := Lib.hid q1
            have HB2 := Lib.hid q2
            have HB3 := Lib.hid q3
            have HG := Lib.hid q4
            have HKY := Lib.hid q5
            have e1 : ((strB r1).toList == (strB r1).toList) = true := by simp
            have e3 : (r3 != r3) = false := by simp
            clear kx1 kx2 kx3 kx4 kx5 kx6 hb2 heq hj q1 q2 q3 q4 q5
            refine wp_region_held_drew (S := fun X => Below U.heap.size U X) (by kernel_rfl) (Below.refl _ U).drew (fun hS => ?_)
            refine held_pure (i := 0) (oi := ⟨some 110, _, _, _, _, _⟩) rfl (by kernel_rfl) (by kernel_rfl) (by kernel_rfl) (fun _ _ _ h => h) (by rfl) (v := ?_) (fun w hSw => ?_) hS (fun hS => ?_)
            rotate_left
            · go_simp; try with_reducible rfl
            try go_frame
            refine held_pure (i := 1) (oi := ⟨some 111, _, _, _, _, _⟩) rfl (by kernel_rfl) (by kernel_rfl) (by kernel_rfl) (fun _ _ _ h => h) (by rfl) (v := ?_) (fun w hSw => ?_) hS (fun hS => ?_)
            rotate_left
            · go_simp; try with_reducible rfl
            try go_frame
            refine held_pure (i := 2) (oi := ⟨some 112, _, _, _, _, _⟩) rfl (by kernel_rfl) (by kernel_rfl) (by kernel_rfl) (fun _ _ _ h => h) (by rfl) (v := .bool false) (fun w hSw => by go_simp) hS (fun hS => ?_)
            try go_frame
            refine held_pure (i := 3) (oi := ⟨some 113, _, _, _, _, _⟩) rfl (by kernel_rfl) (by kernel_rfl) (by kernel_rfl) (fun _ _ _ h => h) (by rfl) (v := ?_) (fun w hSw => ?_) hS (fun hS => ?_)
            rotate_left
            · go_simp; try with_reducible rfl
            try go_frame
            refine held_pure (i := 4) (oi := ⟨some 114, _, _, _, _, _⟩) rfl (by kernel_rfl) (by kernel_rfl) (by kernel_rfl) (fun _ _ _ h => h) (by rfl) (v := ?_) (fun w hSw => ?_) hS (fun hS => ?_)
            rotate_left
            · go_simp; try with_reducible rfl
            try go_frame
            refine held_pure (i := 5) (oi := ⟨some 115, _, _, _, _, _⟩) rfl (by kernel_rfl) (by kernel_rfl) (by kernel_rfl) (fun _ _ _ h => h) (by rfl) (v := ?_) (fun w hSw => ?_) hS (fun hS => ?_)
            rotate_left
            · go_simp; try with_reducible rfl
            try go_frame
            refine wpAnyH_ready (rs := [6]) (by kernel_rfl) (by simp) (AllReadyH.cons (o := ⟨some 116, _, _, _, _, _⟩) rfl (fun K hK => ?_) AllReadyH.nil)
            rw [if_pos (by rfl)]
            go_simp
            refine (HEQ.out _ hS).mono ?_
            rintro e u6 ⟨rfl, rfl⟩
            show K _ _
            refine hK.out _ _ hS (fun hS => ?_)
            clear hK K
            try go_frame
            refine held_pure (i := 7) (oi := ⟨some 117, _, _, _, _, _⟩) rfl (by kernel_rfl) (by kernel_rfl) (by kernel_rfl) (fun _ _ _ h => h) (by rfl) (v := ?_) (fun w hSw => ?_) hS (fun hS => ?_)
            rotate_left
            · go_simp; try with_reducible rfl
            try go_frame
            refine held_pure (i := 8) (oi := ⟨some 118, _, _, _, _, _⟩) rfl (by kernel_rfl) (by kernel_rfl) (by kernel_rfl) (fun _ _ _ h => h) (by rfl) (v := ?_) (fun w hSw => ?_) hS (fun hS => ?_)
            rotate_left
            · go_simp; try with_reducible rfl
            try go_frame
            refine held_pure (i := 9) (oi := ⟨some 119, _, _, _, _, _⟩) rfl (by kernel_rfl) (by kernel_rfl) (by kernel_rfl) (fun _ _ _ h => h) (by rfl) (v := ?_) (fun w hSw => ?_) hS (fun hS => ?_)
            rotate_left
            · go_simp; try with_reducible rfl
            try go_frame
            refine held_pure (i := 10) (oi := ⟨some 120, _, _, _, _, _⟩) rfl (by kernel_rfl) (by kernel_rfl) (by kernel_rfl) (fun _ _ _ h => h) (by rfl) (v := ?_) (fun w hSw => ?_) hS (fun hS => ?_)
            rotate_left
            · go_simp; try with_reducible rfl
            try go_frame
            refine held_pure (i := 11) (oi := ⟨some 121, _, _, _, _, _⟩) rfl (by kernel_rfl) (by kernel_rfl) (by kernel_rfl) (fun _ _ _ h => h) (by rfl) (v := ?_) (fun w hSw => ?_) hS (fun hS => ?_)
            rotate_left
            · go_simp; try with_reducible rfl
            try go_frame
            refine held_pure (i := 12) (oi := ⟨some 122, _, _, _, _, _⟩) rfl (by kernel_rfl) (by kernel_rfl) (by kernel_rfl) (fun _ _ _ h => h) (by rfl) (v := .bool false) (fun w hSw => by go_simp) hS (fun hS => ?_)
            try go_frame
            refine held_pure (i := 13) (oi := ⟨some 123, _, _, _, _, _⟩) rfl (by kernel_rfl) (by kernel_rfl) (by kernel_rfl) (fun _ _ _ h => h) (by rfl) (v := ?_) (fun w hSw => ?_) hS (fun hS => ?_)
            rotate_left
            · go_simp; try with_reducible rfl
            try go_frame
            refine held_pure (i := 14) (oi := ⟨some 124, _, _, _, _, _⟩) rfl (by kernel_rfl) (by kernel_rfl) (by kernel_rfl) (fun _ _ _ h => h) (by rfl) (v := ?_) (fun w hSw => ?_) hS (fun hS => ?_)
            rotate_left
            · go_simp; try with_reducible rfl
            try go_frame
            refine held_pure (i := 15) (oi := ⟨some 125, _, _, _, _, _⟩) rfl (by kernel_rfl) (by kernel_rfl) (by kernel_rfl) (fun _ _ _ h => h) (by rfl) (v := ?_) (fun w hSw => ?_) hS (fun hS => ?_)
            rotate_left
            · go_simp; try with_reducible rfl
            try go_frame
            refine held_pure (i := 16) (oi := ⟨some 126, _, _, _, _, _⟩) rfl (by kernel_rfl) (by kernel_rfl) (by kernel_rfl) (fun _ _ _ h => h) (by rfl) (v := ?_) (fun w hSw => ?_) hS (fun hS => ?_)
            rotate_left
            · go_simp; try with_reducible rfl
            try go_frame
            refine held_pure (i := 17) (oi := ⟨some 127, _, _, _, _, _⟩) rfl (by kernel_rfl) (by kernel_rfl) (by kernel_rfl) (fun _ _ _ h => h) (by rfl) (v := .bool false) (fun w hSw => by go_simp) hS (fun hS => ?_)
            try go_frame
            refine held_pure (i := 18) (oi := ⟨some 128, _, _, _, _, _⟩) rfl (by kernel_rfl) (by kernel_rfl) (by kernel_rfl) (fun _ _ _ h => h) (by rfl) (v := ?_) (fun w hSw => ?_) hS (fun hS => ?_)
            rotate_left
            · go_simp; try with_reducible rfl
            try go_frame
            refine held_pure (i := 19) (oi := ⟨some 129, _, _, _, _, _⟩) rfl (by kernel_rfl) (by kernel_rfl) (by kernel_rfl) (fun _ _ _ h => h) (by rfl) (v := ?_) (fun w hSw => ?_) hS (fun hS => ?_)
            rotate_left
            · go_simp; try with_reducible rfl
            try go_frame
            refine held_pure (i := 20) (oi := ⟨some 130, _, _, _, _, _⟩) rfl (by kernel_rfl) (by kernel_rfl) (by kernel_rfl) (fun _ _ _ h => h) (by rfl) (v := ?_) (fun w hSw => ?_) hS (fun hS => ?_)
            rotate_left
            · go_simp; try with_reducible rfl
            try go_frame
            refine held_pure (i := 22) (oi := ⟨some 132, _, _, _, _, _⟩) rfl (by kernel_rfl) (by kernel_rfl) (by kernel_rfl) (fun _ _ _ h => h) (by rfl) (v := ?_) (fun w hSw => ?_) hS (fun hS => ?_)
            rotate_left
            · go_simp; try with_reducible rfl
            try go_frame
            refine wpAnyH_ready (rs := [21]) (by kernel_rfl) (by simp) (AllReadyH.cons (o := ⟨some 131, _, _, _, _, _⟩) rfl (fun K hK => ?_) AllReadyH.nil)
            rw [if_pos (by rfl)]
            go_simp
            refine (HB1.out _ hS).mono ?_
            rintro e u21 ⟨rfl, rfl⟩
            show K _ _
            refine hK.out _ _ hS (fun hS => ?_)
            clear hK K
            try go_frame
            refine wpAnyH_ready (rs := [23]) (by kernel_rfl) (by simp) (AllReadyH.cons (o := ⟨some 133, _, _, _, _, _⟩) rfl (fun K hK => ?_) AllReadyH.nil)
            rw [if_pos (by rfl)]
            go_simp
            refine (HB2.out _ hS).mono ?_
            rintro e u23 ⟨rfl, z23⟩
            show K _ _
            refine hK.out _ _ (below_step hS z23) (fun hS => ?_)
            clear hK K
            try go_frame
            refine held_pure (i := 24) (oi := ⟨some 134, _, _, _, _, _⟩) rfl (by kernel_rfl) (by kernel_rfl) (by kernel_rfl) (fun _ _ _ h => h) (by rfl) (v := .bool false) (fun w hSw => by go_simp) hS (fun hS => ?_)
            try go_frame
            refine held_pure (i := 25) (oi := ⟨some 135, _, _, _, _, _⟩) rfl (by kernel_rfl) (by kernel_rfl) (by kernel_rfl) (fun _ _ _ h => h) (by rfl) (v := ?_) (fun w hSw => ?_) hS (fun hS => ?_)
            rotate_left
            · go_simp; try with_reducible rfl
            try go_frame
            refine held_pure (i := 26) (oi := ⟨some 136, _, _, _, _, _⟩) rfl (by kernel_rfl) (by kernel_rfl) (by kernel_rfl) (fun _ _ _ h => h) (by rfl) (v := ?_) (fun w hSw => ?_) hS (fun hS => ?_)
            rotate_left
            · go_simp; try with_reducible rfl
            try go_frame
            refine held_pure (i := 27) (oi := ⟨some 137, _, _, _, _, _⟩) rfl (by kernel_rfl) (by kernel_rfl) (by kernel_rfl) (fun _ _ _ h => h) (by rfl) (v := ?_) (fun w hSw => ?_) hS (fun hS => ?_)
            rotate_left
            · go_simp; try with_reducible rfl
            try go_frame
            refine held_pure (i := 29) (oi := ⟨some 139, _, _, _, _, _⟩) rfl (by kernel_rfl) (by kernel_rfl) (by kernel_rfl) (fun _ _ _ h => h) (by rfl) (v := ?_) (fun w hSw => ?_) hS (fun hS => ?_)
            rotate_left
            · go_simp; try with_reducible rfl
            try go_frame
            refine held_pure (i := 30) (oi := ⟨some 140, _, _, _, _, _⟩) rfl (by kernel_rfl) (by kernel_rfl) (by kernel_rfl) (fun _ _ _ h => h) (by rfl) (v := ?_) (fun w hSw => ?_) hS (fun hS => ?_)
            rotate_left
            · go_simp; try with_reducible rfl
            try go_frame
            refine held_pure (i := 31) (oi := ⟨some 141, _, _, _, _, _⟩) rfl (by kernel_rfl) (by kernel_rfl) (by kernel_rfl) (fun _ _ _ h => h) (by rfl) (v := ?_) (fun w hSw => ?_) hS (fun hS => ?_)
            rotate_left
            · go_simp; try with_reducible rfl
            try go_frame
            refine held_pure (i := 32) (oi := ⟨some 142, _, _, _, _, _⟩) rfl (by kernel_rfl) (by kernel_rfl) (by kernel_rfl) (fun _ _ _ h => h) (by rfl) (fun w hSw => run_load_slB16 rfl rfl (HG.out _ hSw)) hS (fun hS => ?_)
            try go_frame
            refine held_pure (i := 33) (oi := ⟨some 143, _, _, _, _, _⟩) rfl (by kernel_rfl) (by kernel_rfl) (by kernel_rfl) (fun _ _ _ h => h) (by rfl) (v := ?_) (fun w hSw => ?_) hS (fun hS => ?_)
            rotate_left
            · go_simp; try with_reducible rfl
            try go_frame
            refine wpAnyH_ready (rs := [28]) (by kernel_rfl) (by simp) (AllReadyH.cons (o := ⟨some 138, _, _, _, _, _⟩) rfl (fun K hK => ?_) AllReadyH.nil)
            rw [if_pos (by rfl)]
            go_simp
            refine (HB3.out _ hS).mono ?_
            rintro e u28 ⟨rfl, rfl⟩
            show K _ _
            refine hK.out _ _ hS (fun hS => ?_)
            clear hK K
            try go_frame
            refine held_pure (i := 34) (oi := ⟨some 144, _, _, _, _, _⟩) rfl (by kernel_rfl) (by kernel_rfl) (by kernel_rfl) (fun _ _ _ h => h) (by rfl) (v := .bool false) (fun w hSw => by go_simp) hS (fun hS => ?_)
            try go_frame
            refine held_pure (i := 35) (oi := ⟨some 145, _, _, _, _, _⟩) rfl (by kernel_rfl) (by kernel_rfl) (by kernel_rfl) (fun _ _ _ h => h) (by rfl) (v := ?_) (fun w hSw => ?_) hS (fun hS => ?_)
            rotate_left
            · go_simp; try with_reducible rfl
            try go_frame
            refine held_pure (i := 36) (oi := ⟨some 146, _, _, _, _, _⟩) rfl (by kernel_rfl) (by kernel_rfl) (by kernel_rfl) (fun _ _ _ h => h) (by rfl) (v := ?_) (fun w hSw => ?_) hS (fun hS => ?_)
            rotate_left
            · go_simp; try with_reducible rfl
            try go_frame
            refine held_pure (i := 37) (oi := ⟨some 147, _, _, _, _, _⟩) rfl (by kernel_rfl) (by kernel_rfl) (by kernel_rfl) (fun _ _ _ h => h) (by rfl) (v := ?_) (fun w hSw => ?_) hS (fun hS => ?_)
            rotate_left
            · go_simp; try with_reducible rfl
            try go_frame
            refine held_pure (i := 39) (oi := ⟨some 149, _, _, _, _, _⟩) rfl (by kernel_rfl) (by kernel_rfl) (by kernel_rfl) (fun _ _ _ h => h) (by rfl) (v := ?_) (fun w hSw => ?_) hS (fun hS => ?_)
            rotate_left
            · go_simp; try with_reducible rfl
            try go_frame
            refine wpAnyH_ready (rs := [38]) (by kernel_rfl) (by simp) (AllReadyH.cons (o := ⟨some 148, _, _, _, _, _⟩) rfl (fun K hK => ?_) AllReadyH.nil)
            rw [if_pos (by rfl)]
            go_simp
            refine (HKY.out _ hS).mono ?_
            rintro e u38 ⟨v38, rfl, z38, hc38⟩
            have HC38 := Lib.hid hc38
            clear hc38
            show K _ _
            refine hK.out _ _ (below_step hS z38) (fun hS => ?_)
            clear hK K
            try go_frame
            refine wpAnyH_ready (rs := [40]) (by kernel_rfl) (by simp) (AllReadyH.cons (o := ⟨some 150, _, _, _, _, _⟩) rfl (fun K hK => ?_) AllReadyH.nil)
            rw [if_pos (by rfl)]
            go_simp
            refine HC38.out.mono ?_
            rintro e u40 ⟨v40, rfl, z40, hc40⟩
            have HC40 := Lib.hid hc40
            clear hc40
            show K _ _
            refine hK.out _ _ (below_step hS z40) (fun hS => ?_)
            clear hK K
            try go_frame
            refine wpAnyH_ready (rs := [41]) (by kernel_rfl) (by simp) (AllReadyH.cons (o := ⟨some 151, _, _, _, _, _⟩) rfl (fun K hK => ?_) AllReadyH.nil)
            rw [if_pos (by rfl)]
            go_simp
            refine HC40.out.mono ?_
            rintro e u41 ⟨rfl, z41⟩
            show K _ _
            refine hK.out _ _ (below_step hS z41) (fun hS => ?_)
            clear hK K
            try go_frame
            refine held_pure (i := 42) (oi := ⟨some 152, _, _, _, _, _⟩) rfl (by kernel_rfl) (by kernel_rfl) (by kernel_rfl) (fun _ _ _ h => h) (by rfl) (v := ?_) (fun w hSw => ?_) hS (fun hS => ?_)
            rotate_left
            · go_simp; try with_reducible rfl
            try go_frame
            refine held_pure (i := 43) (oi := ⟨some 153, _, _, _, _, _⟩) rfl (by kernel_rfl) (by kernel_rfl) (by kernel_rfl) (fun _ _ _ h => h) (by rfl) (v := ?_) (fun w hSw => ?_) hS (fun hS => ?_)
            rotate_left
            · go_simp; try with_reducible rfl
            try go_frame
            refine wpAnyH_done (by kernel_rfl) ?_ _
            go_wp2_with fail
            go_roundw
            case rel => exact ⟨k + 1, S2, T2, by omega, by simp, Lib.hid (HJ2.out.below hS)⟩
            case measure => simp [intOf]; omega
        · obtain rfl : n = k := by omega
          go_wp2_with (go_at_call 12; refine (awake16 _).mono ?_; rintro e v9 ⟨rfl, x9⟩)
          go_ret
          exact ⟨rfl, HJ.out.bel.trans (x9.mono HJ.out.bel.size)⟩

/-! ### The row's step -/
set_option maxRecDepth 100000 in
theorem lifted (os : Os) (started : os.Started) (H : Type) (enc : TypeId × Value → H) :
    ReturnsInHanded {} Try.checked os 3 .any (Rows.joinLivesSpec.pre6 enc Try.prog Try.f3 Rows.joinLivesRow.domain false) (Rows.joinLivesSpec.post enc Try.prog Try.f3 false true false false) := by
  refine returnsInHanded_of_change (C := Try.checked) own started (by kernel_rfl) Try.func3
    (ChangeSpec.witness6 (enc := enc) (C := Try.checked) false ⟨#[], #[.int .i64 0, .int .i64 0, .int .i64 0, .slice none 0 0], []⟩ 8 (by kernel_rfl) (by kernel_rfl) (by kernel_rfl) (by kernel_rfl)) ?_
  intro W base args ds gs before hval0 hW hcnd _
  have hval : ∀ (j : Nat) t v, Try.f3.params[j]? = some t → args[j]? = some v → Value.okWide Try.prog W .any base t v := hval0
  have hW' := hW
  obtain ⟨p, q, hA0, hV, rfl, hfz, hnd⟩ := hW
  have hA : DataW.TrodAll enc Try.prog W 0 (fun _ => true) true Try.f3.params.toList args.toList ds p := hA0
  rw [Try.params3] at hA hval
  obtain ⟨v0, vs0, d0, ds0, p0, q0, hargs, rfl, rfl, t0, r0⟩ := trodAll_cons hA
  obtain ⟨v1, vs1, d1, ds1, p1, q1, rfl, rfl, rfl, t1, r1⟩ := trodAll_cons r0
  obtain ⟨v2, vs2, d2, ds2, p2, q2, rfl, rfl, rfl, t2, r2⟩ := trodAll_cons r1
  obtain ⟨v3, vs3, d3, ds3, p3, q3, rfl, rfl, rfl, t3, r3⟩ := trodAll_cons r2
  obtain ⟨rfl, rfl, rfl⟩ := trodAll_nil r3
  obtain rfl : args = #[v0, v1, v2, v3] := by cases args; simp_all
  obtain ⟨rfl, rfl⟩ := trodVars_none hV
  have k0 := t0
  have lt0 := Trod_lt t0
  have k1 := t1
  have lt1 := Trod_lt t1
  have k2 := t2
  have lt2 := Trod_lt t2
  have k3 := t3
  have lt3 := Trod_lt t3
  obtain ⟨a0, rfl, w0⟩ := get_int Try.underlying3 (hval 0 3 v0 rfl rfl) t0
  obtain ⟨a1, rfl, w1⟩ := get_int Try.underlying3 (hval 1 3 v1 rfl rfl) t1
  obtain ⟨a2, rfl, w2⟩ := get_int Try.underlying3 (hval 2 3 v2 rfl rfl) t2
  obtain ⟨A3, c3, l3, rfl, h3, e3, n3, m3⟩ := get_dos (hval 3 22 v3 rfl rfl) t3
  clear hA0 hval0
  refine (walk a0 a1 a2 A3 c3 l3 W w0 w1 w2 h3 e3 n3 m3).mono fun e W' ⟨he, bel⟩ => ?_
  subst he
  exact ⟨_, rfl, _, _, _, [], _, [], hW', trodAll_mk1 (shut_bool Try.underlying4 _), (trodAll_cons_mk (Below.trod laidOut (by kernel_rfl) (of_decide_eq_true (by kernel_rfl)) k0 bel lt0) (trodAll_cons_mk (Below.trod laidOut (by kernel_rfl) (of_decide_eq_true (by kernel_rfl)) k1 bel lt1) (trodAll_cons_mk (Below.trod laidOut (by kernel_rfl) (of_decide_eq_true (by kernel_rfl)) k2 bel lt2) (trodAll_cons_mk (Below.trod laidOut (by kernel_rfl) (of_decide_eq_true (by kernel_rfl)) k3 bel lt3) trodAll_mk0)))), rfl, bel.frame _, fun h => by cases h⟩

theorem over : Rows.joinLivesRow.holds Try.pinned (OpenSpec.ofChange Rows.joinLivesSpec) :=
  OpenClaim.holds_of_wide 3 Try.f3 rfl rfl rfl rfl rfl rfl rfl ⟨rfl, rfl, rfl, rfl, rfl⟩ rfl rfl rfl rfl rfl (by kernel_rfl) Try.func3 (by kernel_rfl)
    (of_decide_eq_true (by kernel_rfl)) (by unfold Func.isWrapper; first | (rw [if_pos (by decide +kernel)]; kernel_rfl) | (rw [if_neg (by decide +kernel)]; exact ⟨rfl, rfl⟩))
    (fun os started H enc _ => lifted os started H enc)

theorem proved : Rows.JoinLivesSaid := over
end Go.Proofs.Ytghbliabmecbcaa.joinLives
