/-
  Whatever the bound and the calls, HashLives answers true and its arguments read as they did: a table does any calls in any order as the document says. No condition.
-/
import Derived.Test.YthdaclbgandmcaaRows
import Derived.WalkKit
import Derived.ProofKit
import Derived.OpenShut
import Derived.ChangeOld
import Derived.Below
import Derived.Test.YthdaclbgandmcaaHa3
import Derived.Test.YthdaclbgandmcaaHc3
import Derived.Test.YthdaclbgandmcaaHa11
namespace Go.Proofs.Ythdaclbgandmcaa.hashLives
open Go.ChangeShapes Go.WideShapes Go.ChangeAt Go.RowKit
set_option linter.unusedVariables false
attribute [local go_sem] Oper.semAt_some

theorem own : ownKnob Try.prog.godebug = none := by kernel_rfl
theorem laidOut : laidOutB Try.prog = true := by kernel_rfl

/-! ### The walk -/
set_option maxRecDepth 100000 in
set_option maxHeartbeats 4000000 in
theorem walk (a0 : Int) (A1 : Option Addr) (c1 : Nat) (l1 : List Dh) (w : World) (w0 : (Lit.int .i64 a0).wf = true) (h1 : RdS clDh 3 w w.heap.size A1 l1) (e1 : ∀ y ∈ l1, (Lit.int .i64 y.op).wf = true ∧ y.key.length ≤ maxLen ∧ (Lit.int .i64 y.n).wf = true) (n1 : l1.length ≤ c1) (m1 : c1 ≤ maxLen) :
    Calls Try.prog 7 #[.int .i64 a0, .slice A1 l1.length c1] w fun e w' => e = .returned (.bool true) ∧ Below w.heap.size w w' := by
  obtain ⟨n, hn⟩ : ∃ n, n = l1.length := ⟨_, rfl⟩
  have HN := Lib.hid hn
  have HE0 := Lib.hid e1
  have HR0 := Lib.hid h1
  rw [← hn]
  by_cases hbad : a0 < 0 ∨ 65536 < a0
  · have HBAD := Lib.hid hbad
    clear hn e1 h1 n1 hbad
    go_enter Try.func7, Try.ntmps7
    go_wp2_with (first
      | (go_at_call 31; refine (awake18 w).mono ?_; rintro e v1 ⟨rfl, x1⟩)
      | (go_at_call 32; refine (hsnew_bad a0 v1 (by have := HBAD.out; omega)).mono ?_; rintro e v2 ⟨rfl, rfl⟩)
      | (go_at_call 33; refine (r18new_bad a0 v1 HBAD.out).mono ?_; rintro e v3 ⟨rfl, rfl⟩))
    go_loopw [40] (fun i wr => i = .int .i64 0 ∧ v1 = wr) (fun _ _ => 0)
    case atStart => exact ⟨rfl, rfl⟩
    case round =>
      obtain ⟨rfl, rfl⟩ := hrel
      by_cases hlt : 0 < n
      · obtain ⟨x, hx⟩ : ∃ x, l1[0]? = some x := ⟨_, List.getElem?_eq_getElem (by rw [← HN.out]; exact hlt)⟩
        obtain ⟨b9, o9, rfl, hb9, hrow9⟩ := row_ofDh HR0.out hx
        have hrow := range_below hrow9 hb9 x1
        rw [Nat.zero_mul, Nat.add_zero] at hrow
        obtain ⟨V, hV⟩ : ∃ V, V = v1.alloc (.cells (clDh x).toArray 68) := ⟨_, rfl⟩
        have HV := Lib.hid hV
        have bV : Below v1.heap.size v1 V := by rw [hV]; exact (Below.refl _ v1).alloc (Nat.le_refl _) _
        have bwV := x1.trans (bV.mono x1.size)
        clear hx hrow9 hV
        go_wp2_with (first
          | ((with_reducible show wpList _ _ _ (Oper.mk _ (Op.load 68 _) _ _ _ _ :: _) _ _); refine wpList_val rfl (run_load_dh rfl rfl hrow rfl) ?_)
          | ((with_reducible show wpList _ _ _ (Oper.mk _ (Op.store 68 _ _) _ _ _ _ :: _) _ _); refine dh_store_new (cs := (clDh x).toArray) rfl rfl rfl rfl (clDh_one x) ?_; rw [← HV.out])
          | (go_at_call 31; refine (awake18 _).mono ?_; rintro e y8 ⟨rfl, x8⟩))
        go_ret
        exact ⟨rfl, bwV.trans (x8.mono bwV.size)⟩
      · obtain rfl : n = 0 := by omega
        go_wp2_with (go_at_call 31; refine (awake18 _).mono ?_; rintro e y8 ⟨rfl, x8⟩)
        go_ret
        exact ⟨rfl, x1.trans (x8.mono x1.size)⟩
  · have hmin : 0 ≤ a0 := by omega
    have hmax : a0 ≤ 65536 := by omega
    have HMI := Lib.hid hmin
    have HMA := Lib.hid hmax
    clear hn e1 h1 n1 hbad hmin hmax
    go_enter Try.func7, Try.ntmps7
    go_wp2_with (first
      | (go_at_call 31; refine (awake18 w).mono ?_; rintro e v1 ⟨rfl, x1⟩; have z1 := x1.size)
      | (go_at_call 32; refine (hm_new a0 v1 HMI.out HMA.out w.heap.size z1).mono ?_; rintro e v2 ⟨rfl, h2, x2⟩; have z2 := x2.size; have HZ2 := Lib.hid h2.z; have H2 := Lib.hid h2; clear h2)
      | (go_at_call 33; refine (r18new_ok a0 v2 HMI.out HMA.out).mono ?_; rintro e v3 ⟨rfl, h3, x3⟩; have H3 := Lib.hid h3; have H3M := Lib.hid (H2.out.below x3); clear h3))
    have b3 := (x1.trans (x2.mono z1)).trans (x3.mono (Nat.le_trans z1 z2))
    have hgw : w.heap.size ≤ v2.heap.size := Nat.le_trans z1 z2
    generalize v1.heap.size + 1 = t at *
    generalize v2.heap.size = g at *
    go_loopw [40] (fun i wr => ∃ (k : Nat) (M S : List Ent) (v : Value), k ≤ n ∧ i = .int .i64 (k : Int) ∧ Hid (HM wr w.heap.size t a0 M) ∧ Hid (Rq wr g v a0 S) ∧ Hid (S.Perm M) ∧ Hid (Srt S) ∧ S.length ≤ k ∧ k ≤ 100 ∧ Below w.heap.size w wr)
      (fun i _ => n - (intOf i).toNat)
    case atStart => exact ⟨0, [], [], _, Nat.zero_le _, rfl, H3M, H3, Lib.hid (List.Perm.refl _), Lib.hid List.Pairwise.nil, Nat.le_refl _, Nat.zero_le _, b3⟩
    case round =>
      obtain ⟨k, M, S, v, hk, rfl, HMM, HRR, HSM, HSS, hsl, hk1, hbel⟩ := hrel
      clear b3 x1 x2 x3 H2 H3 H3M HZ2 z1 z2
      by_cases hlt : k < n
      · obtain ⟨x, hx⟩ : ∃ x, l1[k]? = some x := ⟨_, List.getElem?_eq_getElem (by rw [← HN.out]; exact hlt)⟩
        have hxm := List.mem_of_getElem? hx
        obtain ⟨eo, ek, en⟩ := HE0.out x hxm
        obtain ⟨b9, o9, rfl, hb9, hrow9⟩ := row_ofDh HR0.out hx
        have hrow := range_below hrow9 hb9 hbel
        obtain ⟨V, hV⟩ : ∃ V, V = wr.alloc (.cells (clDh x).toArray 68) := ⟨_, rfl⟩
        have HV := Lib.hid hV
        have bV : Below wr.heap.size wr V := by rw [hV]; exact (Below.refl _ wr).alloc (Nat.le_refl _) _
        have hbV : V.heap[wr.heap.size]? = some (.cells (clDh x).toArray 68 (0, 0)) := by rw [hV]; exact World.alloc_heap_new wr _
        have kx0 : V.cell? ⟨wr.heap.size, 0, none⟩ = some (.int .i64 x.op) := cells_at (i := 0) hbV rfl
        have kx1 : V.cell? ⟨wr.heap.size, 1, none⟩ = some (.string (strB x.key)) := cells_at (i := 1) hbV rfl
        have HMV := Lib.hid (HMM.out.below bV)
        have HRV := Lib.hid (HRR.out.below bV)
        have HDG : Hid (¬ wr.heap.size = g) := Lib.hid (by have := heap_lt HRR.out.tab; omega)
        have bwV := hbel.trans (bV.mono hbel.size)
        have hbwz := bwV.size
        have HBZ := Lib.hid hbwz
        have hxs := strB_size x.key
        clear hx hrow9 hV eo en ek
        by_cases h100 : 100 ≤ k
        · have d1 : decide (100 ≤ (k : Int)) = true := decide_eq_true (by omega)
          have d1' : decide (100 ≤ k) = true := decide_eq_true h100
          clear hxs
          have HBF := Lib.hid bwV
          go_wp2_with (first
            | ((with_reducible show wpList _ _ _ (Oper.mk _ (Op.load 68 _) _ _ _ _ :: _) _ _); refine wpList_val rfl (run_load_dh rfl rfl hrow rfl) ?_)
            | ((with_reducible show wpList _ _ _ (Oper.mk _ (Op.store 68 _ _) _ _ _ _ :: _) _ _); refine dh_store_new (cs := (clDh x).toArray) rfl rfl rfl rfl (clDh_one x) ?_; rw [← HV.out])
            | (go_at_call 40; refine (hsame HMV.out HRV.out HSM.out HSS.out (by omega)).mono ?_; rintro e y7 ⟨rfl, x7⟩; have z7 := x7.size)
            | (go_at_call 31; refine (awake18 y7).mono ?_; rintro e y8 ⟨rfl, x8⟩))
          go_ret
          exact ⟨rfl, (HBF.out.trans (x7.mono HBF.out.size)).trans (x8.mono (Nat.le_trans HBF.out.size z7))⟩
        · have d1 : decide (100 ≤ (k : Int)) = false := decide_eq_false (by omega)
          have d1' : decide (100 ≤ k) = false := decide_eq_false h100
          by_cases hl2 : x.key.length > 200
          · have d5 : decide (200 < (strB x.key).size) = true := decide_eq_true (by omega)
            have d6 : decide ((200 : Int) < ((strB x.key).size : Int)) = true := decide_eq_true (by omega)
            clear hxs
            have HBF := Lib.hid bwV
            go_wp2_with (first
              | ((with_reducible show wpList _ _ _ (Oper.mk _ (Op.load 68 _) _ _ _ _ :: _) _ _); refine wpList_val rfl (run_load_dh rfl rfl hrow rfl) ?_)
              | ((with_reducible show wpList _ _ _ (Oper.mk _ (Op.store 68 _ _) _ _ _ _ :: _) _ _); refine dh_store_new (cs := (clDh x).toArray) rfl rfl rfl rfl (clDh_one x) ?_; rw [← HV.out])
              | (go_at_call 40; refine (hsame HMV.out HRV.out HSM.out HSS.out (by omega)).mono ?_; rintro e y7 ⟨rfl, x7⟩; have z7 := x7.size)
              | (go_at_call 31; refine (awake18 y7).mono ?_; rintro e y8 ⟨rfl, x8⟩))
            go_ret
            exact ⟨rfl, (HBF.out.trans (x7.mono HBF.out.size)).trans (x8.mono (Nat.le_trans HBF.out.size z7))⟩
          · have d5 : decide (200 < (strB x.key).size) = false := decide_eq_false (by omega)
            have d6 : decide ((200 : Int) < ((strB x.key).size : Int)) = false := decide_eq_false (by omega)
            have hxl : x.key.length ≤ 1000000 := by omega
            have hS1000 : S.length ≤ 1000 := by omega
            clear hxs
            by_cases h0 : x.op = 0
            · obtain ⟨r, M2, S2, p1, p2, p3, p4, p5⟩ := put_both (most := a0) HSM.out HSS.out hS1000 x.key x.n hxl
              have HP1 := Lib.hid p4
              have HP2 := Lib.hid p5
              have HPM := Lib.hid p1
              have HPS := Lib.hid p2
              obtain ⟨ga, gb, g1, g2⟩ := get_both (most := a0) HPM.out (by omega) x.key hxl
              have HG1 := Lib.hid g1
              have HG2 := Lib.hid g2
              clear p1 p2 p4 p5 g1 g2
              have e0 : (x.op == 0) = true := by simp [h0]
              clear h0
              go_upto_region 16 with (first
                | ((with_reducible show wpList _ _ _ (Oper.mk _ (Op.load 68 _) _ _ _ _ :: _) _ _); refine wpList_val rfl (run_load_dh rfl rfl hrow rfl) ?_)
                | ((with_reducible show wpList _ _ _ (Oper.mk _ (Op.store 68 _ _) _ _ _ _ :: _) _ _); refine dh_store_new (cs := (clDh x).toArray) rfl rfl rfl rfl (clDh_one x) ?_; rw [← HV.out]))
              refine wp_region_held_drew (S := fun U => U.heap[wr.heap.size]? = some (.cells (clDh x).toArray 68 (0, 0))) (by kernel_rfl) hbV (fun hS => ?_)
              refine held_pure (i := 0) (oi := ⟨some 63, _, _, _, _, _⟩) rfl (by kernel_rfl) (by kernel_rfl) (by kernel_rfl) (fun _ _ _ h => h) (by rfl) (v := ?_) (fun w hSw => ?_) hS (fun hS => ?_)
              rotate_left
              · go_simp; try with_reducible rfl
              try go_frame
              refine held_pure (i := 1) (oi := ⟨some 64, _, _, _, _, _⟩) rfl (by kernel_rfl) (by kernel_rfl) (by kernel_rfl) (fun _ _ _ h => h) (by rfl) (v := ?_) (fun w hSw => ?_) hS (fun hS => ?_)
              rotate_left
              · go_simp; try with_reducible rfl
              try go_frame
              refine held_pure (i := 2) (oi := ⟨some 65, _, _, _, _, _⟩) rfl (by kernel_rfl) (by kernel_rfl) (by kernel_rfl) (fun _ _ _ h => h) (by rfl) (fun w hSw => run_load_strq rfl rfl (cells_at (i := 1) hSw rfl)) hS (fun hS => ?_)
              try go_frame
              refine held_pure (i := 3) (oi := ⟨some 66, _, _, _, _, _⟩) rfl (by kernel_rfl) (by kernel_rfl) (by kernel_rfl) (fun _ _ _ h => h) (by rfl) (v := ?_) (fun w hSw => ?_) hS (fun hS => ?_)
              rotate_left
              · go_simp; try with_reducible rfl
              try go_frame
              refine held_pure (i := 4) (oi := ⟨some 67, _, _, _, _, _⟩) rfl (by kernel_rfl) (by kernel_rfl) (by kernel_rfl) (fun _ _ _ h => h) (by rfl) (fun w hSw => run_load_int rfl rfl (cells_at (i := 2) hSw rfl)) hS (fun hS => ?_)
              try go_frame
              refine held_pure (i := 6) (oi := ⟨some 69, _, _, _, _, _⟩) rfl (by kernel_rfl) (by kernel_rfl) (by kernel_rfl) (fun _ _ _ h => h) (by rfl) (v := ?_) (fun w hSw => ?_) hS (fun hS => ?_)
              rotate_left
              · go_simp; try with_reducible rfl
              try go_frame
              refine held_pure (i := 7) (oi := ⟨some 70, _, _, _, _, _⟩) rfl (by kernel_rfl) (by kernel_rfl) (by kernel_rfl) (fun _ _ _ h => h) (by rfl) (v := ?_) (fun w hSw => ?_) hS (fun hS => ?_)
              rotate_left
              · go_simp; try with_reducible rfl
              try go_frame
              refine held_pure (i := 8) (oi := ⟨some 71, _, _, _, _, _⟩) rfl (by kernel_rfl) (by kernel_rfl) (by kernel_rfl) (fun _ _ _ h => h) (by rfl) (fun w hSw => run_load_strq rfl rfl (cells_at (i := 1) hSw rfl)) hS (fun hS => ?_)
              try go_frame
              refine held_pure (i := 9) (oi := ⟨some 72, _, _, _, _, _⟩) rfl (by kernel_rfl) (by kernel_rfl) (by kernel_rfl) (fun _ _ _ h => h) (by rfl) (v := ?_) (fun w hSw => ?_) hS (fun hS => ?_)
              rotate_left
              · go_simp; try with_reducible rfl
              try go_frame
              refine held_pure (i := 10) (oi := ⟨some 73, _, _, _, _, _⟩) rfl (by kernel_rfl) (by kernel_rfl) (by kernel_rfl) (fun _ _ _ h => h) (by rfl) (fun w hSw => run_load_int rfl rfl (cells_at (i := 2) hSw rfl)) hS (fun hS => ?_)
              try go_frame
              refine wpAnyH_ready (rs := [5]) (by kernel_rfl) (by simp) (AllReadyH.cons (o := ⟨some 68, _, _, _, _, _⟩) rfl (fun K hK => ?_) AllReadyH.nil)
              rw [if_pos (by rfl)]
              go_simp
              refine (HP1.out V.drew _ _ (HMV.out.below (Below.refl V.heap.size V).drew) HBZ.out).mono ?_
              rintro e y1 ⟨rfl, hm1, hb1, kh1⟩
              have HM1 := Lib.hid hm1
              have HB1 := Lib.hid hb1
              have HR1 := Lib.hid ((HRV.out.below (Below.refl V.heap.size V).drew).kh kh1)
              have hS1 := kh1.heap hS (nat_ne (by kernel_rfl)) (nat_ne (by kernel_rfl))
              clear hm1 hb1 kh1
              show K _ _
              refine hK.out _ _ hS1 (fun hS => ?_)
              clear hK K
              try go_frame
              refine wpAnyH_ready (rs := [11]) (by kernel_rfl) (by simp) (AllReadyH.cons (o := ⟨some 74, _, _, _, _, _⟩) rfl (fun K hK => ?_) AllReadyH.nil)
              rw [if_pos (by rfl)]
              go_simp
              refine (HP2.out y1 _ _ HR1.out).mono ?_
              rintro e y2 ⟨rfl, v9, q9, k9⟩
              have HM2 := Lib.hid (HM1.out.kept k9 HR1.out.tab neQ.2.1 neQ.2.2.1)
              have HR2 := Lib.hid q9
              have HB2 : Hid (Below w.heap.size w y2) := Lib.hid ((bwV.drew.trans HB1.out).trans (k9.below (Nat.le_trans (Nat.le_trans hbwz HB1.out.size) (Nat.le_refl _)) (fun k e => by have e' : k = g := e; rw [e']; exact hgw)))
              have hS2 := (k9.block _ (heap_lt hS1) HDG.out).trans hS1
              clear q9 k9
              show K _ _
              refine hK.out _ _ hS2 (fun hS => ?_)
              clear hK K
              try go_frame
              refine held_pure (i := 12) (oi := ⟨some 75, _, _, _, _, _⟩) rfl (by kernel_rfl) (by kernel_rfl) (by kernel_rfl) (fun _ _ _ h => h) (by rfl) (v := .bool true) (fun w hSw => by go_simp) hS (fun hS => ?_)
              try go_frame
              refine held_pure (i := 13) (oi := ⟨some 11, _, _, _, _, _⟩) rfl (by kernel_rfl) (by kernel_rfl) (by kernel_rfl) (fun _ _ _ h => h) (by rfl) (v := ?_) (fun w hSw => ?_) hS (fun hS => ?_)
              rotate_left
              · go_simp; try with_reducible rfl
              try go_frame
              refine wpAnyH_done (by kernel_rfl) ?_ _
              have kzz : y2.cell? ⟨wr.heap.size, 1, none⟩ = some (.string (strB x.key)) := cells_at (i := 1) hS2 rfl
              have HKZ := Lib.hid (show wr.heap.size < y2.heap.size ∧ y2.cell? ⟨wr.heap.size, 1, none⟩ = some (.string (strB x.key)) from ⟨heap_lt hS2, kzz⟩)
              go_wp2_with (first
                | (go_at_call 38; refine (HG1.out _ _ _ HM2.out).mono ?_; rintro e y3 ⟨rfl, x3⟩; have HM3 := Lib.hid (HM2.out.below x3); have HR3 := Lib.hid (HR2.out.below x3); have HB3 := Lib.hid (HB2.out.trans (x3.mono HB2.out.size)); have kz1 := (x3.cell (p := ⟨wr.heap.size, 1, none⟩) HKZ.out.1).trans HKZ.out.2; clear x3)
                | (go_at_call 39; refine (HG2.out _ _ _ HR3.out).mono ?_; rintro e y4 ⟨rfl, x4⟩; have HM4 := Lib.hid (HM3.out.below x4); have HR4 := Lib.hid (HR3.out.below x4); have HB4 := Lib.hid (HB3.out.trans (x4.mono HB3.out.size)); clear x4))
              go_roundw
              case rel => exact ⟨k + 1, M2, S2, _, by omega, by simp, HM4, HR4, HPM, HPS, by omega, by omega, HB4.out⟩
              case measure => simp [intOf]; omega
            · by_cases h1 : x.op = 1
              · obtain ⟨r, M2, S2, p1, p2, p3, p4, p5⟩ := put_both (most := a0) HSM.out HSS.out hS1000 x.key x.n hxl
                have HP1 := Lib.hid p4
                have HP2 := Lib.hid p5
                have HPM := Lib.hid p1
                have HPS := Lib.hid p2
                obtain ⟨ga, gb, g1, g2⟩ := get_both (most := a0) HPM.out (by omega) x.key hxl
                have HG1 := Lib.hid g1
                have HG2 := Lib.hid g2
                clear p1 p2 p4 p5 g1 g2
                have e0 : (x.op == 0) = false := by simp [h1]
                have e1 : (x.op == 1) = true := by simp [h1]
                clear h1
                go_upto_region 16 with (first
                  | ((with_reducible show wpList _ _ _ (Oper.mk _ (Op.load 68 _) _ _ _ _ :: _) _ _); refine wpList_val rfl (run_load_dh rfl rfl hrow rfl) ?_)
                  | ((with_reducible show wpList _ _ _ (Oper.mk _ (Op.store 68 _ _) _ _ _ _ :: _) _ _); refine dh_store_new (cs := (clDh x).toArray) rfl rfl rfl rfl (clDh_one x) ?_; rw [← HV.out]))
                refine wp_region_held_drew (S := fun U => U.heap[wr.heap.size]? = some (.cells (clDh x).toArray 68 (0, 0))) (by kernel_rfl) hbV (fun hS => ?_)
                refine held_pure (i := 0) (oi := ⟨some 63, _, _, _, _, _⟩) rfl (by kernel_rfl) (by kernel_rfl) (by kernel_rfl) (fun _ _ _ h => h) (by rfl) (v := ?_) (fun w hSw => ?_) hS (fun hS => ?_)
                rotate_left
                · go_simp; try with_reducible rfl
                try go_frame
                refine held_pure (i := 1) (oi := ⟨some 64, _, _, _, _, _⟩) rfl (by kernel_rfl) (by kernel_rfl) (by kernel_rfl) (fun _ _ _ h => h) (by rfl) (v := ?_) (fun w hSw => ?_) hS (fun hS => ?_)
                rotate_left
                · go_simp; try with_reducible rfl
                try go_frame
                refine held_pure (i := 2) (oi := ⟨some 65, _, _, _, _, _⟩) rfl (by kernel_rfl) (by kernel_rfl) (by kernel_rfl) (fun _ _ _ h => h) (by rfl) (fun w hSw => run_load_strq rfl rfl (cells_at (i := 1) hSw rfl)) hS (fun hS => ?_)
                try go_frame
                refine held_pure (i := 3) (oi := ⟨some 66, _, _, _, _, _⟩) rfl (by kernel_rfl) (by kernel_rfl) (by kernel_rfl) (fun _ _ _ h => h) (by rfl) (v := ?_) (fun w hSw => ?_) hS (fun hS => ?_)
                rotate_left
                · go_simp; try with_reducible rfl
                try go_frame
                refine held_pure (i := 4) (oi := ⟨some 67, _, _, _, _, _⟩) rfl (by kernel_rfl) (by kernel_rfl) (by kernel_rfl) (fun _ _ _ h => h) (by rfl) (fun w hSw => run_load_int rfl rfl (cells_at (i := 2) hSw rfl)) hS (fun hS => ?_)
                try go_frame
                refine held_pure (i := 6) (oi := ⟨some 69, _, _, _, _, _⟩) rfl (by kernel_rfl) (by kernel_rfl) (by kernel_rfl) (fun _ _ _ h => h) (by rfl) (v := ?_) (fun w hSw => ?_) hS (fun hS => ?_)
                rotate_left
                · go_simp; try with_reducible rfl
                try go_frame
                refine held_pure (i := 7) (oi := ⟨some 70, _, _, _, _, _⟩) rfl (by kernel_rfl) (by kernel_rfl) (by kernel_rfl) (fun _ _ _ h => h) (by rfl) (v := ?_) (fun w hSw => ?_) hS (fun hS => ?_)
                rotate_left
                · go_simp; try with_reducible rfl
                try go_frame
                refine held_pure (i := 8) (oi := ⟨some 71, _, _, _, _, _⟩) rfl (by kernel_rfl) (by kernel_rfl) (by kernel_rfl) (fun _ _ _ h => h) (by rfl) (fun w hSw => run_load_strq rfl rfl (cells_at (i := 1) hSw rfl)) hS (fun hS => ?_)
                try go_frame
                refine held_pure (i := 9) (oi := ⟨some 72, _, _, _, _, _⟩) rfl (by kernel_rfl) (by kernel_rfl) (by kernel_rfl) (fun _ _ _ h => h) (by rfl) (v := ?_) (fun w hSw => ?_) hS (fun hS => ?_)
                rotate_left
                · go_simp; try with_reducible rfl
                try go_frame
                refine held_pure (i := 10) (oi := ⟨some 73, _, _, _, _, _⟩) rfl (by kernel_rfl) (by kernel_rfl) (by kernel_rfl) (fun _ _ _ h => h) (by rfl) (fun w hSw => run_load_int rfl rfl (cells_at (i := 2) hSw rfl)) hS (fun hS => ?_)
                try go_frame
                refine wpAnyH_ready (rs := [5]) (by kernel_rfl) (by simp) (AllReadyH.cons (o := ⟨some 68, _, _, _, _, _⟩) rfl (fun K hK => ?_) AllReadyH.nil)
                rw [if_pos (by rfl)]
                go_simp
                refine (HP1.out V.drew _ _ (HMV.out.below (Below.refl V.heap.size V).drew) HBZ.out).mono ?_
                rintro e y1 ⟨rfl, hm1, hb1, kh1⟩
                have HM1 := Lib.hid hm1
                have HB1 := Lib.hid hb1
                have HR1 := Lib.hid ((HRV.out.below (Below.refl V.heap.size V).drew).kh kh1)
                have hS1 := kh1.heap hS (nat_ne (by kernel_rfl)) (nat_ne (by kernel_rfl))
                clear hm1 hb1 kh1
                show K _ _
                refine hK.out _ _ hS1 (fun hS => ?_)
                clear hK K
                try go_frame
                refine wpAnyH_ready (rs := [11]) (by kernel_rfl) (by simp) (AllReadyH.cons (o := ⟨some 74, _, _, _, _, _⟩) rfl (fun K hK => ?_) AllReadyH.nil)
                rw [if_pos (by rfl)]
                go_simp
                refine (HP2.out y1 _ _ HR1.out).mono ?_
                rintro e y2 ⟨rfl, v9, q9, k9⟩
                have HM2 := Lib.hid (HM1.out.kept k9 HR1.out.tab neQ.2.1 neQ.2.2.1)
                have HR2 := Lib.hid q9
                have HB2 : Hid (Below w.heap.size w y2) := Lib.hid ((bwV.drew.trans HB1.out).trans (k9.below (Nat.le_trans (Nat.le_trans hbwz HB1.out.size) (Nat.le_refl _)) (fun k e => by have e' : k = g := e; rw [e']; exact hgw)))
                have hS2 := (k9.block _ (heap_lt hS1) HDG.out).trans hS1
                clear q9 k9
                show K _ _
                refine hK.out _ _ hS2 (fun hS => ?_)
                clear hK K
                try go_frame
                refine held_pure (i := 12) (oi := ⟨some 75, _, _, _, _, _⟩) rfl (by kernel_rfl) (by kernel_rfl) (by kernel_rfl) (fun _ _ _ h => h) (by rfl) (v := .bool true) (fun w hSw => by go_simp) hS (fun hS => ?_)
                try go_frame
                refine held_pure (i := 13) (oi := ⟨some 11, _, _, _, _, _⟩) rfl (by kernel_rfl) (by kernel_rfl) (by kernel_rfl) (fun _ _ _ h => h) (by rfl) (v := ?_) (fun w hSw => ?_) hS (fun hS => ?_)
                rotate_left
                · go_simp; try with_reducible rfl
                try go_frame
                refine wpAnyH_done (by kernel_rfl) ?_ _
                have kzz : y2.cell? ⟨wr.heap.size, 1, none⟩ = some (.string (strB x.key)) := cells_at (i := 1) hS2 rfl
                have HKZ := Lib.hid (show wr.heap.size < y2.heap.size ∧ y2.cell? ⟨wr.heap.size, 1, none⟩ = some (.string (strB x.key)) from ⟨heap_lt hS2, kzz⟩)
                go_wp2_with (first
                  | (go_at_call 38; refine (HG1.out _ _ _ HM2.out).mono ?_; rintro e y3 ⟨rfl, x3⟩; have HM3 := Lib.hid (HM2.out.below x3); have HR3 := Lib.hid (HR2.out.below x3); have HB3 := Lib.hid (HB2.out.trans (x3.mono HB2.out.size)); have kz1 := (x3.cell (p := ⟨wr.heap.size, 1, none⟩) HKZ.out.1).trans HKZ.out.2; clear x3)
                  | (go_at_call 39; refine (HG2.out _ _ _ HR3.out).mono ?_; rintro e y4 ⟨rfl, x4⟩; have HM4 := Lib.hid (HM3.out.below x4); have HR4 := Lib.hid (HR3.out.below x4); have HB4 := Lib.hid (HB3.out.trans (x4.mono HB3.out.size)); clear x4))
                go_roundw
                case rel => exact ⟨k + 1, M2, S2, _, by omega, by simp, HM4, HR4, HPM, HPS, by omega, by omega, HB4.out⟩
                case measure => simp [intOf]; omega
              · by_cases h2 : x.op = 2
                · obtain ⟨r, M2, S2, p1, p2, p3, p4, p5⟩ := put_both (most := a0) HSM.out HSS.out hS1000 x.key x.n hxl
                  have HP1 := Lib.hid p4
                  have HP2 := Lib.hid p5
                  have HPM := Lib.hid p1
                  have HPS := Lib.hid p2
                  obtain ⟨ga, gb, g1, g2⟩ := get_both (most := a0) HPM.out (by omega) x.key hxl
                  have HG1 := Lib.hid g1
                  have HG2 := Lib.hid g2
                  clear p1 p2 p4 p5 g1 g2
                  have e0 : (x.op == 0) = false := by simp [h2]
                  have e1 : (x.op == 1) = false := by simp [h2]
                  have e2 : (x.op == 2) = true := by simp [h2]
                  clear h2
                  go_upto_region 16 with (first
                    | ((with_reducible show wpList _ _ _ (Oper.mk _ (Op.load 68 _) _ _ _ _ :: _) _ _); refine wpList_val rfl (run_load_dh rfl rfl hrow rfl) ?_)
                    | ((with_reducible show wpList _ _ _ (Oper.mk _ (Op.store 68 _ _) _ _ _ _ :: _) _ _); refine dh_store_new (cs := (clDh x).toArray) rfl rfl rfl rfl (clDh_one x) ?_; rw [← HV.out]))
                  refine wp_region_held_drew (S := fun U => U.heap[wr.heap.size]? = some (.cells (clDh x).toArray 68 (0, 0))) (by kernel_rfl) hbV (fun hS => ?_)
                  refine held_pure (i := 0) (oi := ⟨some 63, _, _, _, _, _⟩) rfl (by kernel_rfl) (by kernel_rfl) (by kernel_rfl) (fun _ _ _ h => h) (by rfl) (v := ?_) (fun w hSw => ?_) hS (fun hS => ?_)
                  rotate_left
                  · go_simp; try with_reducible rfl
                  try go_frame
                  refine held_pure (i := 1) (oi := ⟨some 64, _, _, _, _, _⟩) rfl (by kernel_rfl) (by kernel_rfl) (by kernel_rfl) (fun _ _ _ h => h) (by rfl) (v := ?_) (fun w hSw => ?_) hS (fun hS => ?_)
                  rotate_left
                  · go_simp; try with_reducible rfl
                  try go_frame
                  refine held_pure (i := 2) (oi := ⟨some 65, _, _, _, _, _⟩) rfl (by kernel_rfl) (by kernel_rfl) (by kernel_rfl) (fun _ _ _ h => h) (by rfl) (fun w hSw => run_load_strq rfl rfl (cells_at (i := 1) hSw rfl)) hS (fun hS => ?_)
                  try go_frame
                  refine held_pure (i := 3) (oi := ⟨some 66, _, _, _, _, _⟩) rfl (by kernel_rfl) (by kernel_rfl) (by kernel_rfl) (fun _ _ _ h => h) (by rfl) (v := ?_) (fun w hSw => ?_) hS (fun hS => ?_)
                  rotate_left
                  · go_simp; try with_reducible rfl
                  try go_frame
                  refine held_pure (i := 4) (oi := ⟨some 67, _, _, _, _, _⟩) rfl (by kernel_rfl) (by kernel_rfl) (by kernel_rfl) (fun _ _ _ h => h) (by rfl) (fun w hSw => run_load_int rfl rfl (cells_at (i := 2) hSw rfl)) hS (fun hS => ?_)
                  try go_frame
                  refine held_pure (i := 6) (oi := ⟨some 69, _, _, _, _, _⟩) rfl (by kernel_rfl) (by kernel_rfl) (by kernel_rfl) (fun _ _ _ h => h) (by rfl) (v := ?_) (fun w hSw => ?_) hS (fun hS => ?_)
                  rotate_left
                  · go_simp; try with_reducible rfl
                  try go_frame
                  refine held_pure (i := 7) (oi := ⟨some 70, _, _, _, _, _⟩) rfl (by kernel_rfl) (by kernel_rfl) (by kernel_rfl) (fun _ _ _ h => h) (by rfl) (v := ?_) (fun w hSw => ?_) hS (fun hS => ?_)
                  rotate_left
                  · go_simp; try with_reducible rfl
                  try go_frame
                  refine held_pure (i := 8) (oi := ⟨some 71, _, _, _, _, _⟩) rfl (by kernel_rfl) (by kernel_rfl) (by kernel_rfl) (fun _ _ _ h => h) (by rfl) (fun w hSw => run_load_strq rfl rfl (cells_at (i := 1) hSw rfl)) hS (fun hS => ?_)
                  try go_frame
                  refine held_pure (i := 9) (oi := ⟨some 72, _, _, _, _, _⟩) rfl (by kernel_rfl) (by kernel_rfl) (by kernel_rfl) (fun _ _ _ h => h) (by rfl) (v := ?_) (fun w hSw => ?_) hS (fun hS => ?_)
                  rotate_left
                  · go_simp; try with_reducible rfl
                  try go_frame
                  refine held_pure (i := 10) (oi := ⟨some 73, _, _, _, _, _⟩) rfl (by kernel_rfl) (by kernel_rfl) (by kernel_rfl) (fun _ _ _ h => h) (by rfl) (fun w hSw => run_load_int rfl rfl (cells_at (i := 2) hSw rfl)) hS (fun hS => ?_)
                  try go_frame
                  refine wpAnyH_ready (rs := [5]) (by kernel_rfl) (by simp) (AllReadyH.cons (o := ⟨some 68, _, _, _, _, _⟩) rfl (fun K hK => ?_) AllReadyH.nil)
                  rw [if_pos (by rfl)]
                  go_simp
                  refine (HP1.out V.drew _ _ (HMV.out.below (Below.refl V.heap.size V).drew) HBZ.out).mono ?_
                  rintro e y1 ⟨rfl, hm1, hb1, kh1⟩
                  have HM1 := Lib.hid hm1
                  have HB1 := Lib.hid hb1
                  have HR1 := Lib.hid ((HRV.out.below (Below.refl V.heap.size V).drew).kh kh1)
                  have hS1 := kh1.heap hS (nat_ne (by kernel_rfl)) (nat_ne (by kernel_rfl))
                  clear hm1 hb1 kh1
                  show K _ _
                  refine hK.out _ _ hS1 (fun hS => ?_)
                  clear hK K
                  try go_frame
                  refine wpAnyH_ready (rs := [11]) (by kernel_rfl) (by simp) (AllReadyH.cons (o := ⟨some 74, _, _, _, _, _⟩) rfl (fun K hK => ?_) AllReadyH.nil)
                  rw [if_pos (by rfl)]
                  go_simp
                  refine (HP2.out y1 _ _ HR1.out).mono ?_
                  rintro e y2 ⟨rfl, v9, q9, k9⟩
                  have HM2 := Lib.hid (HM1.out.kept k9 HR1.out.tab neQ.2.1 neQ.2.2.1)
                  have HR2 := Lib.hid q9
                  have HB2 : Hid (Below w.heap.size w y2) := Lib.hid ((bwV.drew.trans HB1.out).trans (k9.below (Nat.le_trans (Nat.le_trans hbwz HB1.out.size) (Nat.le_refl _)) (fun k e => by have e' : k = g := e; rw [e']; exact hgw)))
                  have hS2 := (k9.block _ (heap_lt hS1) HDG.out).trans hS1
                  clear q9 k9
                  show K _ _
                  refine hK.out _ _ hS2 (fun hS => ?_)
                  clear hK K
                  try go_frame
                  refine held_pure (i := 12) (oi := ⟨some 75, _, _, _, _, _⟩) rfl (by kernel_rfl) (by kernel_rfl) (by kernel_rfl) (fun _ _ _ h => h) (by rfl) (v := .bool true) (fun w hSw => by go_simp) hS (fun hS => ?_)
                  try go_frame
                  refine held_pure (i := 13) (oi := ⟨some 11, _, _, _, _, _⟩) rfl (by kernel_rfl) (by kernel_rfl) (by kernel_rfl) (fun _ _ _ h => h) (by rfl) (v := ?_) (fun w hSw => ?_) hS (fun hS => ?_)
                  rotate_left
                  · go_simp; try with_reducible rfl
                  try go_frame
                  refine wpAnyH_done (by kernel_rfl) ?_ _
                  have kzz : y2.cell? ⟨wr.heap.size, 1, none⟩ = some (.string (strB x.key)) := cells_at (i := 1) hS2 rfl
                  have HKZ := Lib.hid (show wr.heap.size < y2.heap.size ∧ y2.cell? ⟨wr.heap.size, 1, none⟩ = some (.string (strB x.key)) from ⟨heap_lt hS2, kzz⟩)
                  go_wp2_with (first
                    | (go_at_call 38; refine (HG1.out _ _ _ HM2.out).mono ?_; rintro e y3 ⟨rfl, x3⟩; have HM3 := Lib.hid (HM2.out.below x3); have HR3 := Lib.hid (HR2.out.below x3); have HB3 := Lib.hid (HB2.out.trans (x3.mono HB2.out.size)); have kz1 := (x3.cell (p := ⟨wr.heap.size, 1, none⟩) HKZ.out.1).trans HKZ.out.2; clear x3)
                    | (go_at_call 39; refine (HG2.out _ _ _ HR3.out).mono ?_; rintro e y4 ⟨rfl, x4⟩; have HM4 := Lib.hid (HM3.out.below x4); have HR4 := Lib.hid (HR3.out.below x4); have HB4 := Lib.hid (HB3.out.trans (x4.mono HB3.out.size)); clear x4))
                  go_roundw
                  case rel => exact ⟨k + 1, M2, S2, _, by omega, by simp, HM4, HR4, HPM, HPS, by omega, by omega, HB4.out⟩
                  case measure => simp [intOf]; omega
                · by_cases h3 : x.op = 3
                  · obtain ⟨r, M2, S2, p1, p2, p3, p4, p5⟩ := del_both (most := a0) HSM.out HSS.out hS1000 x.key hxl
                    have HP1 := Lib.hid p4
                    have HP2 := Lib.hid p5
                    have HPM := Lib.hid p1
                    have HPS := Lib.hid p2
                    obtain ⟨ga, gb, g1, g2⟩ := get_both (most := a0) HPM.out (by omega) x.key hxl
                    have HG1 := Lib.hid g1
                    have HG2 := Lib.hid g2
                    clear p1 p2 p4 p5 g1 g2
                    have e0 : (x.op == 0) = false := by simp [h3]
                    have e1 : (x.op == 1) = false := by simp [h3]
                    have e2 : (x.op == 2) = false := by simp [h3]
                    have e3 : (x.op == 3) = true := by simp [h3]
                    clear h3
                    go_upto_region 18 with (first
                      | ((with_reducible show wpList _ _ _ (Oper.mk _ (Op.load 68 _) _ _ _ _ :: _) _ _); refine wpList_val rfl (run_load_dh rfl rfl hrow rfl) ?_)
                      | ((with_reducible show wpList _ _ _ (Oper.mk _ (Op.store 68 _ _) _ _ _ _ :: _) _ _); refine dh_store_new (cs := (clDh x).toArray) rfl rfl rfl rfl (clDh_one x) ?_; rw [← HV.out]))
                    refine wp_region_held_drew (S := fun U => U.heap[wr.heap.size]? = some (.cells (clDh x).toArray 68 (0, 0))) (by kernel_rfl) hbV (fun hS => ?_)
                    refine held_pure (i := 0) (oi := ⟨some 78, _, _, _, _, _⟩) rfl (by kernel_rfl) (by kernel_rfl) (by kernel_rfl) (fun _ _ _ h => h) (by rfl) (v := ?_) (fun w hSw => ?_) hS (fun hS => ?_)
                    rotate_left
                    · go_simp; try with_reducible rfl
                    try go_frame
                    refine held_pure (i := 1) (oi := ⟨some 79, _, _, _, _, _⟩) rfl (by kernel_rfl) (by kernel_rfl) (by kernel_rfl) (fun _ _ _ h => h) (by rfl) (v := ?_) (fun w hSw => ?_) hS (fun hS => ?_)
                    rotate_left
                    · go_simp; try with_reducible rfl
                    try go_frame
                    refine held_pure (i := 2) (oi := ⟨some 80, _, _, _, _, _⟩) rfl (by kernel_rfl) (by kernel_rfl) (by kernel_rfl) (fun _ _ _ h => h) (by rfl) (fun w hSw => run_load_strq rfl rfl (cells_at (i := 1) hSw rfl)) hS (fun hS => ?_)
                    try go_frame
                    refine held_pure (i := 4) (oi := ⟨some 82, _, _, _, _, _⟩) rfl (by kernel_rfl) (by kernel_rfl) (by kernel_rfl) (fun _ _ _ h => h) (by rfl) (v := ?_) (fun w hSw => ?_) hS (fun hS => ?_)
                    rotate_left
                    · go_simp; try with_reducible rfl
                    try go_frame
                    refine held_pure (i := 5) (oi := ⟨some 83, _, _, _, _, _⟩) rfl (by kernel_rfl) (by kernel_rfl) (by kernel_rfl) (fun _ _ _ h => h) (by rfl) (v := ?_) (fun w hSw => ?_) hS (fun hS => ?_)
                    rotate_left
                    · go_simp; try with_reducible rfl
                    try go_frame
                    refine held_pure (i := 6) (oi := ⟨some 84, _, _, _, _, _⟩) rfl (by kernel_rfl) (by kernel_rfl) (by kernel_rfl) (fun _ _ _ h => h) (by rfl) (fun w hSw => run_load_strq rfl rfl (cells_at (i := 1) hSw rfl)) hS (fun hS => ?_)
                    try go_frame
                    refine wpAnyH_ready (rs := [3]) (by kernel_rfl) (by simp) (AllReadyH.cons (o := ⟨some 81, _, _, _, _, _⟩) rfl (fun K hK => ?_) AllReadyH.nil)
                    rw [if_pos (by rfl)]
                    go_simp
                    refine (HP1.out V.drew _ _ (HMV.out.below (Below.refl V.heap.size V).drew) HBZ.out).mono ?_
                    rintro e y1 ⟨rfl, hm1, hb1, kh1⟩
                    have HM1 := Lib.hid hm1
                    have HB1 := Lib.hid hb1
                    have HR1 := Lib.hid ((HRV.out.below (Below.refl V.heap.size V).drew).kh kh1)
                    have hS1 := kh1.heap hS (nat_ne (by kernel_rfl)) (nat_ne (by kernel_rfl))
                    clear hm1 hb1 kh1
                    show K _ _
                    refine hK.out _ _ hS1 (fun hS => ?_)
                    clear hK K
                    try go_frame
                    refine wpAnyH_ready (rs := [7]) (by kernel_rfl) (by simp) (AllReadyH.cons (o := ⟨some 85, _, _, _, _, _⟩) rfl (fun K hK => ?_) AllReadyH.nil)
                    rw [if_pos (by rfl)]
                    go_simp
                    refine (HP2.out y1 _ _ HR1.out).mono ?_
                    rintro e y2 ⟨rfl, v9, q9, k9⟩
                    have HM2 := Lib.hid (HM1.out.kept k9 HR1.out.tab neQ.2.1 neQ.2.2.1)
                    have HR2 := Lib.hid q9
                    have HB2 : Hid (Below w.heap.size w y2) := Lib.hid ((bwV.drew.trans HB1.out).trans (k9.below (Nat.le_trans (Nat.le_trans hbwz HB1.out.size) (Nat.le_refl _)) (fun k e => by have e' : k = g := e; rw [e']; exact hgw)))
                    have hS2 := (k9.block _ (heap_lt hS1) HDG.out).trans hS1
                    clear q9 k9
                    show K _ _
                    refine hK.out _ _ hS2 (fun hS => ?_)
                    clear hK K
                    try go_frame
                    refine held_pure (i := 8) (oi := ⟨some 86, _, _, _, _, _⟩) rfl (by kernel_rfl) (by kernel_rfl) (by kernel_rfl) (fun _ _ _ h => h) (by rfl) (v := .bool true) (fun w hSw => by go_simp) hS (fun hS => ?_)
                    try go_frame
                    refine held_pure (i := 9) (oi := ⟨some 11, _, _, _, _, _⟩) rfl (by kernel_rfl) (by kernel_rfl) (by kernel_rfl) (fun _ _ _ h => h) (by rfl) (v := ?_) (fun w hSw => ?_) hS (fun hS => ?_)
                    rotate_left
                    · go_simp; try with_reducible rfl
                    try go_frame
                    refine wpAnyH_done (by kernel_rfl) ?_ _
                    have kzz : y2.cell? ⟨wr.heap.size, 1, none⟩ = some (.string (strB x.key)) := cells_at (i := 1) hS2 rfl
                    have HKZ := Lib.hid (show wr.heap.size < y2.heap.size ∧ y2.cell? ⟨wr.heap.size, 1, none⟩ = some (.string (strB x.key)) from ⟨heap_lt hS2, kzz⟩)
                    go_wp2_with (first
                      | (go_at_call 38; refine (HG1.out _ _ _ HM2.out).mono ?_; rintro e y3 ⟨rfl, x3⟩; have HM3 := Lib.hid (HM2.out.below x3); have HR3 := Lib.hid (HR2.out.below x3); have HB3 := Lib.hid (HB2.out.trans (x3.mono HB2.out.size)); have kz1 := (x3.cell (p := ⟨wr.heap.size, 1, none⟩) HKZ.out.1).trans HKZ.out.2; clear x3)
                      | (go_at_call 39; refine (HG2.out _ _ _ HR3.out).mono ?_; rintro e y4 ⟨rfl, x4⟩; have HM4 := Lib.hid (HM3.out.below x4); have HR4 := Lib.hid (HR3.out.below x4); have HB4 := Lib.hid (HB3.out.trans (x4.mono HB3.out.size)); clear x4))
                    go_roundw
                    case rel => exact ⟨k + 1, M2, S2, _, by omega, by simp, HM4, HR4, HPM, HPS, by omega, by omega, HB4.out⟩
                    case measure => simp [intOf]; omega
                  · obtain ⟨M2, hM2⟩ : ∃ M2, M2 = M := ⟨_, rfl⟩
                    obtain ⟨S2, hS2⟩ : ∃ S2, S2 = S := ⟨_, rfl⟩
                    have HPM : Hid (S2.Perm M2) := Lib.hid (by rw [hM2, hS2]; exact HSM.out)
                    have HPS : Hid (Srt S2) := Lib.hid (by rw [hS2]; exact HSS.out)
                    have HMW : Hid (HM V w.heap.size t a0 M2) := Lib.hid (by rw [hM2]; exact HMV.out)
                    have HRW : Hid (Rq V g v a0 S2) := Lib.hid (by rw [hS2]; exact HRV.out)
                    have HBW := Lib.hid bwV
                    have p3 : S2.length ≤ S.length + 1 := by rw [hS2]; omega
                    obtain ⟨ga, gb, g1, g2⟩ := get_both (most := a0) HPM.out (by omega) x.key hxl
                    have HG1 := Lib.hid g1
                    have HG2 := Lib.hid g2
                    have HKZ := Lib.hid (show wr.heap.size < V.heap.size ∧ V.cell? ⟨wr.heap.size, 1, none⟩ = some (.string (strB x.key)) from ⟨heap_lt hbV, kx1⟩)
                    have e0 : (x.op == 0) = false := by simp; exact h0
                    have e1 : (x.op == 1) = false := by simp; exact h1
                    have e2 : (x.op == 2) = false := by simp; exact h2
                    have e3 : (x.op == 3) = false := by simp; exact h3
                    clear g1 g2 hM2 hS2 h0 h1 h2 h3
                    go_wp2_with (first
                      | ((with_reducible show wpList _ _ _ (Oper.mk _ (Op.load 68 _) _ _ _ _ :: _) _ _); refine wpList_val rfl (run_load_dh rfl rfl hrow rfl) ?_)
                      | ((with_reducible show wpList _ _ _ (Oper.mk _ (Op.store 68 _ _) _ _ _ _ :: _) _ _); refine dh_store_new (cs := (clDh x).toArray) rfl rfl rfl rfl (clDh_one x) ?_; rw [← HV.out])
                      | (go_at_call 38; refine (HG1.out _ _ _ HMW.out).mono ?_; rintro e y3 ⟨rfl, x3⟩; have HM3 := Lib.hid (HMW.out.below x3); have HR3 := Lib.hid (HRW.out.below x3); have HB3 := Lib.hid (HBW.out.trans (x3.mono HBW.out.size)); have kz1 := (x3.cell (p := ⟨wr.heap.size, 1, none⟩) HKZ.out.1).trans HKZ.out.2; clear x3)
                      | (go_at_call 39; refine (HG2.out _ _ _ HR3.out).mono ?_; rintro e y4 ⟨rfl, x4⟩; have HM4 := Lib.hid (HM3.out.below x4); have HR4 := Lib.hid (HR3.out.below x4); have HB4 := Lib.hid (HB3.out.trans (x4.mono HB3.out.size)); clear x4))
                    go_roundw
                    case rel => exact ⟨k + 1, M2, S2, _, by omega, by simp, HM4, HR4, HPM, HPS, by omega, by omega, HB4.out⟩
                    case measure => simp [intOf]; omega
      · obtain rfl : n = k := by omega
        have HBF := Lib.hid hbel
        go_wp2_with (first
          | (go_at_call 40; refine (hsame HMM.out HRR.out HSM.out HSS.out (by omega)).mono ?_; rintro e y7 ⟨rfl, x7⟩; have z7 := x7.size)
          | (go_at_call 31; refine (awake18 y7).mono ?_; rintro e y8 ⟨rfl, x8⟩))
        go_ret
        exact ⟨rfl, (HBF.out.trans (x7.mono HBF.out.size)).trans (x8.mono (Nat.le_trans HBF.out.size z7))⟩

/-! ### The row's step -/
set_option maxRecDepth 100000 in
theorem lifted (os : Os) (started : os.Started) (H : Type) (enc : TypeId × Value → H) :
    ReturnsInHanded {} Try.checked os 7 .any (Rows.hashLivesSpec.pre6 enc Try.prog Try.f7 Rows.hashLivesRow.domain false) (Rows.hashLivesSpec.post enc Try.prog Try.f7 false true false false) := by
  refine returnsInHanded_of_change (C := Try.checked) own started (by kernel_rfl) Try.func7
    (ChangeSpec.witness6 (enc := enc) (C := Try.checked) false ⟨#[], #[.int .i64 0, .slice none 0 0], []⟩ 8 (by kernel_rfl) (by kernel_rfl) (by kernel_rfl) (by kernel_rfl)) ?_
  intro W base args ds gs before hval0 hW hcnd _
  have hval : ∀ (j : Nat) t v, Try.f7.params[j]? = some t → args[j]? = some v → Value.okWide Try.prog W .any base t v := hval0
  have hW' := hW
  obtain ⟨p, q, hA0, hV, rfl, hfz, hnd⟩ := hW
  have hA : DataW.TrodAll enc Try.prog W 0 (fun _ => true) true Try.f7.params.toList args.toList ds p := hA0
  rw [Try.params7] at hA hval
  obtain ⟨v0, vs0, d0, ds0, p0, q0, hargs, rfl, rfl, t0, r0⟩ := trodAll_cons hA
  obtain ⟨v1, vs1, d1, ds1, p1, q1, rfl, rfl, rfl, t1, r1⟩ := trodAll_cons r0
  obtain ⟨rfl, rfl, rfl⟩ := trodAll_nil r1
  obtain rfl : args = #[v0, v1] := by cases args; simp_all
  obtain ⟨rfl, rfl⟩ := trodVars_none hV
  have k0 := t0
  have lt0 := Trod_lt t0
  have k1 := t1
  have lt1 := Trod_lt t1
  obtain ⟨a0, rfl, w0⟩ := get_int Try.underlying3 (hval 0 3 v0 rfl rfl) t0
  obtain ⟨A1, c1, l1, rfl, h1, e1, n1, m1⟩ := get_dhs (hval 1 60 v1 rfl rfl) t1
  clear hA0 hval0
  refine (walk a0 A1 c1 l1 W w0 h1 e1 n1 m1).mono fun e W' ⟨he, bel⟩ => ?_
  subst he
  exact ⟨_, rfl, _, _, _, [], _, [], hW', trodAll_mk1 (shut_bool Try.underlying4 _), (trodAll_cons_mk (Below.trod laidOut (by kernel_rfl) (of_decide_eq_true (by kernel_rfl)) k0 bel lt0) (trodAll_cons_mk (Below.trod laidOut (by kernel_rfl) (of_decide_eq_true (by kernel_rfl)) k1 bel lt1) trodAll_mk0)), rfl, bel.frame _, fun h => by cases h⟩

theorem over : Rows.hashLivesRow.holds Try.pinned (OpenSpec.ofChange Rows.hashLivesSpec) :=
  OpenClaim.holds_of_wide 7 Try.f7 rfl rfl rfl rfl rfl rfl rfl ⟨rfl, rfl, rfl, rfl, rfl⟩ rfl rfl rfl rfl rfl (by kernel_rfl) Try.func7 (by kernel_rfl)
    (of_decide_eq_true (by kernel_rfl)) (by unfold Func.isWrapper; first | (rw [if_pos (by decide +kernel)]; kernel_rfl) | (rw [if_neg (by decide +kernel)]; exact ⟨rfl, rfl⟩))
    (fun os started H enc _ => lifted os started H enc)

theorem proved : Rows.HashLivesSaid := over
end Go.Proofs.Ythdaclbgandmcaa.hashLives
