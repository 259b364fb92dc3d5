/-
  Whatever the calls, QuotaLives answers true and its arguments read as they did: a quota does any calls in any order as the document says. No condition.
-/
import Derived.Test.YtafidbjaeopciaaRows
import Derived.WalkKit
import Derived.ProofKit
import Derived.OpenShut
import Derived.ChangeOld
import Derived.Below
import Derived.Test.YtafidbjaeopciaaQa2
import Derived.Test.YtafidbjaeopciaaQa8
namespace Go.Proofs.Ytafidbjaeopciaa.quotaLives
open Go.ChangeShapes Go.WideShapes Go.ChangeAt Go.RowKit
set_option linter.unusedVariables false
attribute [local go_sem] Oper.semAt_some

theorem own : ownKnob Try.prog.godebug = none := by kernel_rfl
theorem laidOut : laidOutB Try.prog = true := by kernel_rfl

/-! ### The walk -/
set_option maxRecDepth 100000 in
set_option maxHeartbeats 4000000 in
theorem walk (a0 : Int) (a1 : Int) (A2 : Option Addr) (c2 : Nat) (l2 : List Dq) (w : World) (w0 : (Lit.int .i64 a0).wf = true) (w1 : (Lit.int .i64 a1).wf = true) (h2 : RdS clQ 2 w w.heap.size A2 l2) (e2 : ∀ y ∈ l2, (Lit.int .i64 y.i).wf = true) (n2 : l2.length ≤ c2) (m2 : c2 ≤ maxLen) :
    Calls Try.prog 6 #[.int .i64 a0, .int .i64 a1, .slice A2 l2.length c2] w fun e w' => e = .returned (.bool true) ∧ Below w.heap.size w w' := by
  obtain ⟨n, hn⟩ : ∃ n, n = l2.length := ⟨_, rfl⟩
  have HN := Lib.hid hn
  have HR0 := Lib.hid h2
  have hcap : n ≤ c2 := by rw [hn]; exact n2
  rw [← hn]
  clear hn e2 h2 n2
  by_cases hok : 1 ≤ a0 ∧ a0 ≤ 64 ∧ 0 ≤ a1 ∧ a1 ≤ 4096
  · obtain ⟨N, rfl⟩ : ∃ N : Nat, a0 = (N : Int) := ⟨a0.toNat, by omega⟩
    have HOK := Lib.hid hok
    clear hok
    go_enter Try.func6, Try.ntmps6
    go_upto_region 3 with (first
      | (go_at_call 28; refine (qnew_ok N a1 w (by have := HOK.out; omega) (by have := HOK.out; omega) HOK.out.2.2.1 HOK.out.2.2.2).mono ?_; rintro e w1 ⟨rfl, hq, x1, z1⟩)
      | (go_at_call 29; refine (rnew_ok N a1 w1 (by have := HOK.out; omega) (by have := HOK.out; omega) HOK.out.2.2.1 HOK.out.2.2.2).mono ?_; rintro e w2 ⟨rfl, hr, x2, z2⟩))
    have hq2 := hq.below x2
    have b2 := x1.trans (x2.mono x1.size)
    have hz1 : w.heap.size ≤ w1.heap.size := x1.size
    rw [z1] at hr
    skip
    obtain ⟨g, hg⟩ : ∃ g, g = w.heap.size + 1 := ⟨_, rfl⟩
    obtain ⟨b, hb⟩ : ∃ b, b = w.heap.size := ⟨_, rfl⟩
    obtain ⟨g', hg'⟩ : ∃ g', g' = w.heap.size + 2 + 1 := ⟨_, rfl⟩
    obtain ⟨b', hb'⟩ : ∃ b', b' = w.heap.size + 2 := ⟨_, rfl⟩
    have hap : (g ≠ b' ∧ b ≠ b') ∧ (g' ≠ b ∧ b' ≠ b) ∧ w.heap.size ≤ b ∧ w.heap.size ≤ b' := by omega
    rw [← hg] at hq2
    rw [← hb] at hq2
    rw [← hg'] at hr
    rw [← hb'] at hr
    rw [← hg, ← hg']
    have HQ := Lib.hid (show Qt 124 w2 g b a1 (List.replicate N 0) ∧ Qt 126 w2 g' b' a1 (List.replicate N 0) from ⟨hq2, hr⟩)
    have HAP := Lib.hid hap
    clear hq hq2 hr hg hb hg' hb' z1 z2 x1 x2 hap hz1
    go_wp2
    go_loopw [38] (fun i wr => ∃ (k : Nat) (L : List Int), k ≤ n ∧ i = .int .i64 (k : Int) ∧ Hid (Qt 124 wr g b a1 L ∧ Qt 126 wr g' b' a1 L) ∧ Below w.heap.size w wr)
      (fun i _ => n - (intOf i).toNat)
    case atStart => exact ⟨0, List.replicate N 0, Nat.zero_le _, rfl, HQ, b2⟩
    case round =>
      obtain ⟨k, L, hk, rfl, HQk, hbel⟩ := hrel
      clear HQ b2
      by_cases hlt : k < n
      · obtain ⟨x, hx⟩ : ∃ x, l2[k]? = some x := ⟨_, List.getElem?_eq_getElem (by rw [← HN.out]; exact hlt)⟩
        obtain ⟨b9, o9, rfl, hb9, hrow9⟩ := row_ofQ HR0.out hx
        have hrow := range_below hrow9 hb9 hbel
        obtain ⟨V, hV⟩ : ∃ V, V = wr.alloc (.cells (clQ x).toArray 68) := ⟨_, rfl⟩
        have HV := Lib.hid hV
        have bV : Below wr.heap.size wr V := by rw [hV]; exact (Below.refl _ wr).alloc (Nat.le_refl _) _
        have hbV : V.heap[wr.heap.size]? = some (.cells (clQ x).toArray 68 (0, 0)) := by rw [hV]; exact World.alloc_heap_new wr _
        have HBX := Lib.hid hbV
        have HQV := Lib.hid (show Qt 124 V g b a1 L ∧ Qt 126 V g' b' a1 L from ⟨HQk.out.1.below bV, HQk.out.2.below bV⟩)
        have bw := hbel.trans (bV.mono hbel.size)
        have kx0 : V.cell? ⟨wr.heap.size, 0, none⟩ = some (.bool x.give) := cells_at (i := 0) hbV rfl
        have hgb : wr.heap.size ≠ b ∧ wr.heap.size ≠ b' := ⟨(Nat.ne_of_lt (heap_lt HQk.out.1.row)).symm, (Nat.ne_of_lt (heap_lt HQk.out.2.row)).symm⟩
        clear hx hrow9 hV hbV
        by_cases h200 : k ≥ 200
        · have d200 : decide ((k : Int) ≥ 200) = true := decide_eq_true (by omega)
          have d201 : decide (200 ≤ (k : Int)) = true := d200
          go_wp2_with (first
            | ((with_reducible show wpList _ _ _ (Oper.mk _ (Op.load 68 _) _ _ _ _ :: _) _ _); refine wpList_val rfl (run_load_dq rfl rfl hrow rfl) ?_)
            | ((with_reducible show wpList _ _ _ (Oper.mk _ (Op.store 68 _ _) _ _ _ _ :: _) _ _); refine dq_store_new (cs := (clQ x).toArray) rfl rfl rfl rfl (clQ_one x) ?_; rw [← HV.out])
            | (go_at_call 38; refine (awake21 _).mono ?_; rintro e v9 ⟨rfl, x9⟩))
          go_ret
          exact ⟨rfl, bw.trans (x9.mono bw.size)⟩
        · have d200 : decide ((k : Int) ≥ 200) = false := decide_eq_false (by omega)
          have d201 : decide (200 ≤ (k : Int)) = false := d200
          -- what both calls answer and leave
          have hgo : ∃ (e1 : Int) (L2 : List Int), Hid (∀ U, Qt 124 U g b a1 L → Calls Try.prog (if x.give then 30 else 32) #[.pointer (some ⟨g, 0, none⟩), .int .i64 x.i] U fun e w' => e = .returned (.int .i64 e1) ∧ Qt 124 w' g b a1 L2 ∧ Kept (fun k => k = b) U w') ∧
              Hid (∀ U, Qt 126 U g' b' a1 L → Calls Try.prog (if x.give then 31 else 33) #[.pointer (some ⟨g', 0, none⟩), .int .i64 x.i] U fun e w' => e = .returned (.int .i64 e1) ∧ Qt 126 w' g' b' a1 L2 ∧ Kept (fun k => k = b') U w') := by
            cases hgv : x.give with
            | true => exact ⟨(gvQ L x.i).1, (gvQ L x.i).2, Lib.hid fun U h => qgive h x.i, Lib.hid fun U h => rgive h x.i⟩
            | false => exact ⟨(tkQ a1 L x.i).1, (tkQ a1 L x.i).2, Lib.hid fun U h => qtake h x.i, Lib.hid fun U h => rtake h x.i⟩
          obtain ⟨e1, L2, HCQ, HCR⟩ := hgo
          cases hgv : x.give with
          | true => 
            rw [hgv] at HCQ HCR kx0
            have HC1 : Hid (∀ U, Qt 124 U g b a1 L → Calls Try.prog 30 #[.pointer (some ⟨g, 0, none⟩), .int .i64 x.i] U fun e w' => e = .returned (.int .i64 e1) ∧ Qt 124 w' g b a1 L2 ∧ Kept (fun k => k = b) U w') := HCQ
            have HC2 : Hid (∀ U, Qt 126 U g' b' a1 L → Calls Try.prog 31 #[.pointer (some ⟨g', 0, none⟩), .int .i64 x.i] U fun e w' => e = .returned (.int .i64 e1) ∧ Qt 126 w' g' b' a1 L2 ∧ Kept (fun k => k = b') U w') := HCR
            clear HCQ HCR hgv
            have HI : Hid (∀ X, Kept (fun k => k = b ∨ k = b') V X → X.cell? ⟨wr.heap.size, 1, none⟩ = some (.int .i64 x.i)) := Lib.hid (fun X hX => by have := (hX.block wr.heap.size (by rw [HV.out]; simp) (by rintro (e | e); exact hgb.1 e; exact hgb.2 e)).trans HBX.out; exact cells_at (i := 1) this rfl)
            go_upto_region 11 with (first
              | ((with_reducible show wpList _ _ _ (Oper.mk _ (Op.load 68 _) _ _ _ _ :: _) _ _); refine wpList_val rfl (run_load_dq rfl rfl hrow rfl) ?_)
              | ((with_reducible show wpList _ _ _ (Oper.mk _ (Op.store 68 _ _) _ _ _ _ :: _) _ _); refine dq_store_new (cs := (clQ x).toArray) rfl rfl rfl rfl (clQ_one x) ?_; rw [← HV.out]))
            refine wp_region_held_drew (S := fun w' => Kept (fun k => k = b ∨ k = b') V w') (by kernel_rfl) (Kept.drew V) (fun hS => ?_)
            refine held_pure (i := 0) (oi := ⟨some 51, _, _, _, _, _⟩) rfl (by kernel_rfl) (by kernel_rfl) (by kernel_rfl) (fun _ _ _ h => h) (by rfl) (v := ?_) (fun w hSw => ?_) hS (fun hS => ?_)
            rotate_left
            · go_simp; try with_reducible rfl
            try go_frame
            refine held_pure (i := 1) (oi := ⟨some 52, _, _, _, _, _⟩) rfl (by kernel_rfl) (by kernel_rfl) (by kernel_rfl) (fun _ _ _ h => h) (by rfl) (v := ?_) (fun w hSw => ?_) hS (fun hS => ?_)
            rotate_left
            · go_simp; try with_reducible rfl
            try go_frame
            refine held_pure (i := 2) (oi := ⟨some 53, _, _, _, _, _⟩) rfl (by kernel_rfl) (by kernel_rfl) (by kernel_rfl) (fun _ _ _ h => h) (by rfl) (fun w hSw => run_load_int rfl rfl (HI.out _ hSw)) hS (fun hS => ?_)
            try go_frame
            refine held_pure (i := 4) (oi := ⟨some 55, _, _, _, _, _⟩) rfl (by kernel_rfl) (by kernel_rfl) (by kernel_rfl) (fun _ _ _ h => h) (by rfl) (v := ?_) (fun w hSw => ?_) hS (fun hS => ?_)
            rotate_left
            · go_simp; try with_reducible rfl
            try go_frame
            refine held_pure (i := 5) (oi := ⟨some 56, _, _, _, _, _⟩) rfl (by kernel_rfl) (by kernel_rfl) (by kernel_rfl) (fun _ _ _ h => h) (by rfl) (v := ?_) (fun w hSw => ?_) hS (fun hS => ?_)
            rotate_left
            · go_simp; try with_reducible rfl
            try go_frame
            refine held_pure (i := 6) (oi := ⟨some 57, _, _, _, _, _⟩) rfl (by kernel_rfl) (by kernel_rfl) (by kernel_rfl) (fun _ _ _ h => h) (by rfl) (fun w hSw => run_load_int rfl rfl (HI.out _ hSw)) hS (fun hS => ?_)
            try go_frame
            refine wpAnyH_ready (rs := [3]) (by kernel_rfl) (by simp) (AllReadyH.cons (o := ⟨some 54, _, _, _, _, _⟩) rfl (fun K hK => ?_) AllReadyH.nil)
            rw [if_pos (by rfl)]
            go_simp
            refine (HC1.out V.drew (HQV.out.1.below (Below.refl V.heap.size V).drew)).mono ?_
            rintro e y1 ⟨rfl, q1, k1⟩
            have Q1 := Lib.hid q1
            have R1 := Lib.hid ((HQV.out.2.below (Below.refl V.heap.size V).drew).kept k1 HAP.out.2.1.1 HAP.out.2.1.2)
            have hS1 : Kept (fun k => k = b ∨ k = b') V y1 := (Kept.drew V).trans k1 (fun _ _ e => .inl e)
            clear q1 k1
            show K _ _
            refine hK.out _ _ hS1 (fun hS => ?_)
            clear hK K
            try go_frame
            refine wpAnyH_ready (rs := [7]) (by kernel_rfl) (by simp) (AllReadyH.cons (o := ⟨some 58, _, _, _, _, _⟩) rfl (fun K hK => ?_) AllReadyH.nil)
            rw [if_pos (by rfl)]
            go_simp
            refine (HC2.out y1 R1.out).mono ?_
            rintro e y2 ⟨rfl, q2, k2⟩
            have R2 := Lib.hid q2
            have Q2 := Lib.hid (Q1.out.kept k2 HAP.out.1.1 HAP.out.1.2)
            have hS2 := hS1.trans k2 (fun _ _ e => .inr e)
            clear q2 k2
            show K _ _
            refine hK.out _ _ hS2 (fun hS => ?_)
            clear hK K
            try go_frame
            refine held_pure (i := 8) (oi := ⟨some 59, _, _, _, _, _⟩) rfl (by kernel_rfl) (by kernel_rfl) (by kernel_rfl) (fun _ _ _ h => h) (by rfl) (v := .bool true) (fun w hSw => by go_simp) hS (fun hS => ?_)
            try go_frame
            refine held_pure (i := 9) (oi := ⟨some 13, _, _, _, _, _⟩) rfl (by kernel_rfl) (by kernel_rfl) (by kernel_rfl) (fun _ _ _ h => h) (by rfl) (v := ?_) (fun w hSw => ?_) hS (fun hS => ?_)
            rotate_left
            · go_simp; try with_reducible rfl
            try go_frame
            refine wpAnyH_done (by kernel_rfl) ?_ _
            have hY : Kept (fun k => k = b ∨ k = b') V y2 := hS2
            have Q3 := Lib.hid (Q2.out.below (Below.refl y2.heap.size y2).drew)
            have R3 := Lib.hid (R2.out.below (Below.refl y2.heap.size y2).drew)
            clear hS hS1 hS2
            go_upto_region 13 with fail
            refine wp_region_held_drew (S := fun w' => Kept (fun k => k = b ∨ k = b') V w') (by kernel_rfl) (hY.trans (Kept.drew (S := fun _ => False) y2) (fun _ _ e => e.elim)) (fun hS => ?_)
            refine held_pure (i := 0) (oi := ⟨some 69, _, _, _, _, _⟩) rfl (by kernel_rfl) (by kernel_rfl) (by kernel_rfl) (fun _ _ _ h => h) (by rfl) (v := ?_) (fun w hSw => ?_) hS (fun hS => ?_)
            rotate_left
            · go_simp; try with_reducible rfl
            try go_frame
            refine held_pure (i := 1) (oi := ⟨some 70, _, _, _, _, _⟩) rfl (by kernel_rfl) (by kernel_rfl) (by kernel_rfl) (fun _ _ _ h => h) (by rfl) (v := ?_) (fun w hSw => ?_) hS (fun hS => ?_)
            rotate_left
            · go_simp; try with_reducible rfl
            try go_frame
            refine held_pure (i := 2) (oi := ⟨some 71, _, _, _, _, _⟩) rfl (by kernel_rfl) (by kernel_rfl) (by kernel_rfl) (fun _ _ _ h => h) (by rfl) (v := ?_) (fun w hSw => ?_) hS (fun hS => ?_)
            rotate_left
            · go_simp; try with_reducible rfl
            try go_frame
            refine held_pure (i := 3) (oi := ⟨some 72, _, _, _, _, _⟩) rfl (by kernel_rfl) (by kernel_rfl) (by kernel_rfl) (fun _ _ _ h => h) (by rfl) (v := ?_) (fun w hSw => ?_) hS (fun hS => ?_)
            rotate_left
            · go_simp; try with_reducible rfl
            try go_frame
            refine held_pure (i := 4) (oi := ⟨some 73, _, _, _, _, _⟩) rfl (by kernel_rfl) (by kernel_rfl) (by kernel_rfl) (fun _ _ _ h => h) (by rfl) (v := ?_) (fun w hSw => ?_) hS (fun hS => ?_)
            rotate_left
            · go_simp; try with_reducible rfl
            try go_frame
            refine held_pure (i := 5) (oi := ⟨some 74, _, _, _, _, _⟩) rfl (by kernel_rfl) (by kernel_rfl) (by kernel_rfl) (fun _ _ _ h => h) (by rfl) (fun w hSw => run_load_int rfl rfl (HI.out _ hSw)) hS (fun hS => ?_)
            try go_frame
            refine held_pure (i := 7) (oi := ⟨some 76, _, _, _, _, _⟩) rfl (by kernel_rfl) (by kernel_rfl) (by kernel_rfl) (fun _ _ _ h => h) (by rfl) (v := ?_) (fun w hSw => ?_) hS (fun hS => ?_)
            rotate_left
            · go_simp; try with_reducible rfl
            try go_frame
            refine held_pure (i := 8) (oi := ⟨some 77, _, _, _, _, _⟩) rfl (by kernel_rfl) (by kernel_rfl) (by kernel_rfl) (fun _ _ _ h => h) (by rfl) (v := ?_) (fun w hSw => ?_) hS (fun hS => ?_)
            rotate_left
            · go_simp; try with_reducible rfl
            try go_frame
            refine held_pure (i := 9) (oi := ⟨some 78, _, _, _, _, _⟩) rfl (by kernel_rfl) (by kernel_rfl) (by kernel_rfl) (fun _ _ _ h => h) (by rfl) (fun w hSw => run_load_int rfl rfl (HI.out _ hSw)) hS (fun hS => ?_)
            try go_frame
            refine wpAnyH_ready (rs := [6]) (by kernel_rfl) (by simp) (AllReadyH.cons (o := ⟨some 75, _, _, _, _, _⟩) rfl (fun K hK => ?_) AllReadyH.nil)
            rw [if_pos (by rfl)]
            go_simp
            refine (qcount Q3.out x.i).mono ?_
            rintro e u6 ⟨rfl, rfl⟩
            show K _ _
            refine hK.out _ _ hS (fun hS => ?_)
            clear hK K
            try go_frame
            refine wpAnyH_ready (rs := [10]) (by kernel_rfl) (by simp) (AllReadyH.cons (o := ⟨some 79, _, _, _, _, _⟩) rfl (fun K hK => ?_) AllReadyH.nil)
            rw [if_pos (by rfl)]
            go_simp
            refine (rcount R3.out x.i).mono ?_
            rintro e u10 ⟨rfl, rfl⟩
            show K _ _
            refine hK.out _ _ hS (fun hS => ?_)
            clear hK K
            try go_frame
            refine held_pure (i := 11) (oi := ⟨some 80, _, _, _, _, _⟩) rfl (by kernel_rfl) (by kernel_rfl) (by kernel_rfl) (fun _ _ _ h => h) (by rfl) (v := .bool false) (fun w hSw => by go_simp) hS (fun hS => ?_)
            try go_frame
            refine held_pure (i := 12) (oi := ⟨some 81, _, _, _, _, _⟩) rfl (by kernel_rfl) (by kernel_rfl) (by kernel_rfl) (fun _ _ _ h => h) (by rfl) (v := ?_) (fun w hSw => ?_) hS (fun hS => ?_)
            rotate_left
            · go_simp; try with_reducible rfl
            try go_frame
            refine held_pure (i := 13) (oi := ⟨some 82, _, _, _, _, _⟩) rfl (by kernel_rfl) (by kernel_rfl) (by kernel_rfl) (fun _ _ _ h => h) (by rfl) (v := ?_) (fun w hSw => ?_) hS (fun hS => ?_)
            rotate_left
            · go_simp; try with_reducible rfl
            try go_frame
            refine held_pure (i := 14) (oi := ⟨some 83, _, _, _, _, _⟩) rfl (by kernel_rfl) (by kernel_rfl) (by kernel_rfl) (fun _ _ _ h => h) (by rfl) (v := ?_) (fun w hSw => ?_) hS (fun hS => ?_)
            rotate_left
            · go_simp; try with_reducible rfl
            try go_frame
            refine held_pure (i := 16) (oi := ⟨some 85, _, _, _, _, _⟩) rfl (by kernel_rfl) (by kernel_rfl) (by kernel_rfl) (fun _ _ _ h => h) (by rfl) (v := ?_) (fun w hSw => ?_) hS (fun hS => ?_)
            rotate_left
            · go_simp; try with_reducible rfl
            try go_frame
            refine wpAnyH_ready (rs := [15]) (by kernel_rfl) (by simp) (AllReadyH.cons (o := ⟨some 84, _, _, _, _, _⟩) rfl (fun K hK => ?_) AllReadyH.nil)
            rw [if_pos (by rfl)]
            go_simp
            refine (qtotal Q3.out).mono ?_
            rintro e u15 ⟨rfl, rfl⟩
            show K _ _
            refine hK.out _ _ hS (fun hS => ?_)
            clear hK K
            try go_frame
            refine wpAnyH_ready (rs := [17]) (by kernel_rfl) (by simp) (AllReadyH.cons (o := ⟨some 86, _, _, _, _, _⟩) rfl (fun K hK => ?_) AllReadyH.nil)
            rw [if_pos (by rfl)]
            go_simp
            refine (rtotal R3.out).mono ?_
            rintro e u17 ⟨rfl, rfl⟩
            show K _ _
            refine hK.out _ _ hS (fun hS => ?_)
            clear hK K
            try go_frame
            refine held_pure (i := 18) (oi := ⟨some 87, _, _, _, _, _⟩) rfl (by kernel_rfl) (by kernel_rfl) (by kernel_rfl) (fun _ _ _ h => h) (by rfl) (v := .bool false) (fun w hSw => by go_simp) hS (fun hS => ?_)
            try go_frame
            refine held_pure (i := 19) (oi := ⟨some 88, _, _, _, _, _⟩) rfl (by kernel_rfl) (by kernel_rfl) (by kernel_rfl) (fun _ _ _ h => h) (by rfl) (v := ?_) (fun w hSw => ?_) hS (fun hS => ?_)
            rotate_left
            · go_simp; try with_reducible rfl
            try go_frame
            refine wpAnyH_done (by kernel_rfl) ?_ _
            go_wp2_with fail
            go_roundw
            case rel => exact ⟨k + 1, L2, by omega, by simp, Lib.hid ⟨Q3.out, R3.out⟩, bw.trans (hS.below (Nat.le_trans hbel.size bV.size) (fun i e => by rcases e with e | e; rw [e]; exact HAP.out.2.2.1; rw [e]; exact HAP.out.2.2.2))⟩
            case measure => simp [intOf]; omega
          | false => 
            rw [hgv] at HCQ HCR kx0
            have HC1 : Hid (∀ U, Qt 124 U g b a1 L → Calls Try.prog 32 #[.pointer (some ⟨g, 0, none⟩), .int .i64 x.i] U fun e w' => e = .returned (.int .i64 e1) ∧ Qt 124 w' g b a1 L2 ∧ Kept (fun k => k = b) U w') := HCQ
            have HC2 : Hid (∀ U, Qt 126 U g' b' a1 L → Calls Try.prog 33 #[.pointer (some ⟨g', 0, none⟩), .int .i64 x.i] U fun e w' => e = .returned (.int .i64 e1) ∧ Qt 126 w' g' b' a1 L2 ∧ Kept (fun k => k = b') U w') := HCR
            clear HCQ HCR hgv
            have HI : Hid (∀ X, Kept (fun k => k = b ∨ k = b') V X → X.cell? ⟨wr.heap.size, 1, none⟩ = some (.int .i64 x.i)) := Lib.hid (fun X hX => by have := (hX.block wr.heap.size (by rw [HV.out]; simp) (by rintro (e | e); exact hgb.1 e; exact hgb.2 e)).trans HBX.out; exact cells_at (i := 1) this rfl)
            go_upto_region 12 with (first
              | ((with_reducible show wpList _ _ _ (Oper.mk _ (Op.load 68 _) _ _ _ _ :: _) _ _); refine wpList_val rfl (run_load_dq rfl rfl hrow rfl) ?_)
              | ((with_reducible show wpList _ _ _ (Oper.mk _ (Op.store 68 _ _) _ _ _ _ :: _) _ _); refine dq_store_new (cs := (clQ x).toArray) rfl rfl rfl rfl (clQ_one x) ?_; rw [← HV.out]))
            refine wp_region_held_drew (S := fun w' => Kept (fun k => k = b ∨ k = b') V w') (by kernel_rfl) (Kept.drew V) (fun hS => ?_)
            refine held_pure (i := 0) (oi := ⟨some 60, _, _, _, _, _⟩) rfl (by kernel_rfl) (by kernel_rfl) (by kernel_rfl) (fun _ _ _ h => h) (by rfl) (v := ?_) (fun w hSw => ?_) hS (fun hS => ?_)
            rotate_left
            · go_simp; try with_reducible rfl
            try go_frame
            refine held_pure (i := 1) (oi := ⟨some 61, _, _, _, _, _⟩) rfl (by kernel_rfl) (by kernel_rfl) (by kernel_rfl) (fun _ _ _ h => h) (by rfl) (v := ?_) (fun w hSw => ?_) hS (fun hS => ?_)
            rotate_left
            · go_simp; try with_reducible rfl
            try go_frame
            refine held_pure (i := 2) (oi := ⟨some 62, _, _, _, _, _⟩) rfl (by kernel_rfl) (by kernel_rfl) (by kernel_rfl) (fun _ _ _ h => h) (by rfl) (fun w hSw => run_load_int rfl rfl (HI.out _ hSw)) hS (fun hS => ?_)
            try go_frame
            refine held_pure (i := 4) (oi := ⟨some 64, _, _, _, _, _⟩) rfl (by kernel_rfl) (by kernel_rfl) (by kernel_rfl) (fun _ _ _ h => h) (by rfl) (v := ?_) (fun w hSw => ?_) hS (fun hS => ?_)
            rotate_left
            · go_simp; try with_reducible rfl
            try go_frame
            refine held_pure (i := 5) (oi := ⟨some 65, _, _, _, _, _⟩) rfl (by kernel_rfl) (by kernel_rfl) (by kernel_rfl) (fun _ _ _ h => h) (by rfl) (v := ?_) (fun w hSw => ?_) hS (fun hS => ?_)
            rotate_left
            · go_simp; try with_reducible rfl
            try go_frame
            refine held_pure (i := 6) (oi := ⟨some 66, _, _, _, _, _⟩) rfl (by kernel_rfl) (by kernel_rfl) (by kernel_rfl) (fun _ _ _ h => h) (by rfl) (fun w hSw => run_load_int rfl rfl (HI.out _ hSw)) hS (fun hS => ?_)
            try go_frame
            refine wpAnyH_ready (rs := [3]) (by kernel_rfl) (by simp) (AllReadyH.cons (o := ⟨some 63, _, _, _, _, _⟩) rfl (fun K hK => ?_) AllReadyH.nil)
            rw [if_pos (by rfl)]
            go_simp
            refine (HC1.out V.drew (HQV.out.1.below (Below.refl V.heap.size V).drew)).mono ?_
            rintro e y1 ⟨rfl, q1, k1⟩
            have Q1 := Lib.hid q1
            have R1 := Lib.hid ((HQV.out.2.below (Below.refl V.heap.size V).drew).kept k1 HAP.out.2.1.1 HAP.out.2.1.2)
            have hS1 : Kept (fun k => k = b ∨ k = b') V y1 := (Kept.drew V).trans k1 (fun _ _ e => .inl e)
            clear q1 k1
            show K _ _
            refine hK.out _ _ hS1 (fun hS => ?_)
            clear hK K
            try go_frame
            refine wpAnyH_ready (rs := [7]) (by kernel_rfl) (by simp) (AllReadyH.cons (o := ⟨some 67, _, _, _, _, _⟩) rfl (fun K hK => ?_) AllReadyH.nil)
            rw [if_pos (by rfl)]
            go_simp
            refine (HC2.out y1 R1.out).mono ?_
            rintro e y2 ⟨rfl, q2, k2⟩
            have R2 := Lib.hid q2
            have Q2 := Lib.hid (Q1.out.kept k2 HAP.out.1.1 HAP.out.1.2)
            have hS2 := hS1.trans k2 (fun _ _ e => .inr e)
            clear q2 k2
            show K _ _
            refine hK.out _ _ hS2 (fun hS => ?_)
            clear hK K
            try go_frame
            refine held_pure (i := 8) (oi := ⟨some 68, _, _, _, _, _⟩) rfl (by kernel_rfl) (by kernel_rfl) (by kernel_rfl) (fun _ _ _ h => h) (by rfl) (v := .bool true) (fun w hSw => by go_simp) hS (fun hS => ?_)
            try go_frame
            refine held_pure (i := 9) (oi := ⟨some 13, _, _, _, _, _⟩) rfl (by kernel_rfl) (by kernel_rfl) (by kernel_rfl) (fun _ _ _ h => h) (by rfl) (v := ?_) (fun w hSw => ?_) hS (fun hS => ?_)
            rotate_left
            · go_simp; try with_reducible rfl
            try go_frame
            refine wpAnyH_done (by kernel_rfl) ?_ _
            have hY : Kept (fun k => k = b ∨ k = b') V y2 := hS2
            have Q3 := Lib.hid (Q2.out.below (Below.refl y2.heap.size y2).drew)
            have R3 := Lib.hid (R2.out.below (Below.refl y2.heap.size y2).drew)
            clear hS hS1 hS2
            go_upto_region 13 with fail
            refine wp_region_held_drew (S := fun w' => Kept (fun k => k = b ∨ k = b') V w') (by kernel_rfl) (hY.trans (Kept.drew (S := fun _ => False) y2) (fun _ _ e => e.elim)) (fun hS => ?_)
            refine held_pure (i := 0) (oi := ⟨some 69, _, _, _, _, _⟩) rfl (by kernel_rfl) (by kernel_rfl) (by kernel_rfl) (fun _ _ _ h => h) (by rfl) (v := ?_) (fun w hSw => ?_) hS (fun hS => ?_)
            rotate_left
            · go_simp; try with_reducible rfl
            try go_frame
            refine held_pure (i := 1) (oi := ⟨some 70, _, _, _, _, _⟩) rfl (by kernel_rfl) (by kernel_rfl) (by kernel_rfl) (fun _ _ _ h => h) (by rfl) (v := ?_) (fun w hSw => ?_) hS (fun hS => ?_)
            rotate_left
            · go_simp; try with_reducible rfl
            try go_frame
            refine held_pure (i := 2) (oi := ⟨some 71, _, _, _, _, _⟩) rfl (by kernel_rfl) (by kernel_rfl) (by kernel_rfl) (fun _ _ _ h => h) (by rfl) (v := ?_) (fun w hSw => ?_) hS (fun hS => ?_)
            rotate_left
            · go_simp; try with_reducible rfl
            try go_frame
            refine held_pure (i := 3) (oi := ⟨some 72, _, _, _, _, _⟩) rfl (by kernel_rfl) (by kernel_rfl) (by kernel_rfl) (fun _ _ _ h => h) (by rfl) (v := ?_) (fun w hSw => ?_) hS (fun hS => ?_)
            rotate_left
            · go_simp; try with_reducible rfl
            try go_frame
            refine held_pure (i := 4) (oi := ⟨some 73, _, _, _, _, _⟩) rfl (by kernel_rfl) (by kernel_rfl) (by kernel_rfl) (fun _ _ _ h => h) (by rfl) (v := ?_) (fun w hSw => ?_) hS (fun hS => ?_)
            rotate_left
            · go_simp; try with_reducible rfl
            try go_frame
            refine held_pure (i := 5) (oi := ⟨some 74, _, _, _, _, _⟩) rfl (by kernel_rfl) (by kernel_rfl) (by kernel_rfl) (fun _ _ _ h => h) (by rfl) (fun w hSw => run_load_int rfl rfl (HI.out _ hSw)) hS (fun hS => ?_)
            try go_frame
            refine held_pure (i := 7) (oi := ⟨some 76, _, _, _, _, _⟩) rfl (by kernel_rfl) (by kernel_rfl) (by kernel_rfl) (fun _ _ _ h => h) (by rfl) (v := ?_) (fun w hSw => ?_) hS (fun hS => ?_)
            rotate_left
            · go_simp; try with_reducible rfl
            try go_frame
            refine held_pure (i := 8) (oi := ⟨some 77, _, _, _, _, _⟩) rfl (by kernel_rfl) (by kernel_rfl) (by kernel_rfl) (fun _ _ _ h => h) (by rfl) (v := ?_) (fun w hSw => ?_) hS (fun hS => ?_)
            rotate_left
            · go_simp; try with_reducible rfl
            try go_frame
            refine held_pure (i := 9) (oi := ⟨some 78, _, _, _, _, _⟩) rfl (by kernel_rfl) (by kernel_rfl) (by kernel_rfl) (fun _ _ _ h => h) (by rfl) (fun w hSw => run_load_int rfl rfl (HI.out _ hSw)) hS (fun hS => ?_)
            try go_frame
            refine wpAnyH_ready (rs := [6]) (by kernel_rfl) (by simp) (AllReadyH.cons (o := ⟨some 75, _, _, _, _, _⟩) rfl (fun K hK => ?_) AllReadyH.nil)
            rw [if_pos (by rfl)]
            go_simp
            refine (qcount Q3.out x.i).mono ?_
            rintro e u6 ⟨rfl, rfl⟩
            show K _ _
            refine hK.out _ _ hS (fun hS => ?_)
            clear hK K
            try go_frame
            refine wpAnyH_ready (rs := [10]) (by kernel_rfl) (by simp) (AllReadyH.cons (o := ⟨some 79, _, _, _, _, _⟩) rfl (fun K hK => ?_) AllReadyH.nil)
            rw [if_pos (by rfl)]
            go_simp
            refine (rcount R3.out x.i).mono ?_
            rintro e u10 ⟨rfl, rfl⟩
            show K _ _
            refine hK.out _ _ hS (fun hS => ?_)
            clear hK K
            try go_frame
            refine held_pure (i := 11) (oi := ⟨some 80, _, _, _, _, _⟩) rfl (by kernel_rfl) (by kernel_rfl) (by kernel_rfl) (fun _ _ _ h => h) (by rfl) (v := .bool false) (fun w hSw => by go_simp) hS (fun hS => ?_)
            try go_frame
            refine held_pure (i := 12) (oi := ⟨some 81, _, _, _, _, _⟩) rfl (by kernel_rfl) (by kernel_rfl) (by kernel_rfl) (fun _ _ _ h => h) (by rfl) (v := ?_) (fun w hSw => ?_) hS (fun hS => ?_)
            rotate_left
            · go_simp; try with_reducible rfl
            try go_frame
            refine held_pure (i := 13) (oi := ⟨some 82, _, _, _, _, _⟩) rfl (by kernel_rfl) (by kernel_rfl) (by kernel_rfl) (fun _ _ _ h => h) (by rfl) (v := ?_) (fun w hSw => ?_) hS (fun hS => ?_)
            rotate_left
            · go_simp; try with_reducible rfl
            try go_frame
            refine held_pure (i := 14) (oi := ⟨some 83, _, _, _, _, _⟩) rfl (by kernel_rfl) (by kernel_rfl) (by kernel_rfl) (fun _ _ _ h => h) (by rfl) (v := ?_) (fun w hSw => ?_) hS (fun hS => ?_)
            rotate_left
            · go_simp; try with_reducible rfl
            try go_frame
            refine held_pure (i := 16) (oi := ⟨some 85, _, _, _, _, _⟩) rfl (by kernel_rfl) (by kernel_rfl) (by kernel_rfl) (fun _ _ _ h => h) (by rfl) (v := ?_) (fun w hSw => ?_) hS (fun hS => ?_)
            rotate_left
            · go_simp; try with_reducible rfl
            try go_frame
            refine wpAnyH_ready (rs := [15]) (by kernel_rfl) (by simp) (AllReadyH.cons (o := ⟨some 84, _, _, _, _, _⟩) rfl (fun K hK => ?_) AllReadyH.nil)
            rw [if_pos (by rfl)]
            go_simp
            refine (qtotal Q3.out).mono ?_
            rintro e u15 ⟨rfl, rfl⟩
            show K _ _
            refine hK.out _ _ hS (fun hS => ?_)
            clear hK K
            try go_frame
            refine wpAnyH_ready (rs := [17]) (by kernel_rfl) (by simp) (AllReadyH.cons (o := ⟨some 86, _, _, _, _, _⟩) rfl (fun K hK => ?_) AllReadyH.nil)
            rw [if_pos (by rfl)]
            go_simp
            refine (rtotal R3.out).mono ?_
            rintro e u17 ⟨rfl, rfl⟩
            show K _ _
            refine hK.out _ _ hS (fun hS => ?_)
            clear hK K
            try go_frame
            refine held_pure (i := 18) (oi := ⟨some 87, _, _, _, _, _⟩) rfl (by kernel_rfl) (by kernel_rfl) (by kernel_rfl) (fun _ _ _ h => h) (by rfl) (v := .bool false) (fun w hSw => by go_simp) hS (fun hS => ?_)
            try go_frame
            refine held_pure (i := 19) (oi := ⟨some 88, _, _, _, _, _⟩) rfl (by kernel_rfl) (by kernel_rfl) (by kernel_rfl) (fun _ _ _ h => h) (by rfl) (v := ?_) (fun w hSw => ?_) hS (fun hS => ?_)
            rotate_left
            · go_simp; try with_reducible rfl
            try go_frame
            refine wpAnyH_done (by kernel_rfl) ?_ _
            go_wp2_with fail
            go_roundw
            case rel => exact ⟨k + 1, L2, by omega, by simp, Lib.hid ⟨Q3.out, R3.out⟩, bw.trans (hS.below (Nat.le_trans hbel.size bV.size) (fun i e => by rcases e with e | e; rw [e]; exact HAP.out.2.2.1; rw [e]; exact HAP.out.2.2.2))⟩
            case measure => simp [intOf]; omega
      · obtain rfl : n = k := by omega
        go_wp2_with (go_at_call 38; refine (awake21 _).mono ?_; rintro e v9 ⟨rfl, x9⟩)
        go_ret
        exact ⟨rfl, hbel.trans (x9.mono hbel.size)⟩
  · have HOK := Lib.hid hok
    clear hok
    go_enter Try.func6, Try.ntmps6
    go_upto_region 5 with (first
      | (go_at_call 28; refine (qnew_bad a0 a1 w HOK.out).mono ?_; rintro e w1 ⟨rfl, rfl⟩)
      | (go_at_call 29; refine (rnew_bad a0 a1 w HOK.out).mono ?_; rintro e w2 ⟨rfl, rfl⟩))
    by_cases h0 : n = 0
    · subst h0
      go_wp2
      refine wp_loop_rounds 1 ?_
      rw [rounds_succ]
      go_wp2_with (go_at_call 38; refine (awake21 _).mono ?_; rintro e v9 ⟨rfl, x9⟩)
      go_ret
      exact ⟨rfl, x9⟩
    · obtain ⟨x, hx⟩ : ∃ x, l2[0]? = some x := ⟨_, List.getElem?_eq_getElem (by rw [← HN.out]; omega)⟩
      obtain ⟨b9, o9, rfl, hb9, hrow9⟩ := row_ofQ HR0.out hx
      have hrow : w.rangeAt b9 o9 (clQ x) := by simpa using hrow9
      obtain ⟨V, hV⟩ : ∃ V, V = w.alloc (.cells (clQ x).toArray 68) := ⟨_, rfl⟩
      have HV := Lib.hid hV
      have bV : Below w.heap.size w V := by rw [hV]; exact (Below.refl _ w).alloc (Nat.le_refl _) _
      have hn0 : decide ((0 : Int) < (n : Int)) = true := decide_eq_true (by omega)
      have hn1 : 0 < n := by omega
      clear hx hrow9 hV h0
      go_wp2
      refine wp_loop_rounds 1 ?_
      rw [rounds_succ]
      go_wp2_with (first
        | ((with_reducible show wpList _ _ _ (Oper.mk _ (Op.load 68 _) _ _ _ _ :: _) _ _); refine wpList_val rfl (run_load_dq rfl rfl hrow rfl) ?_)
        | ((with_reducible show wpList _ _ _ (Oper.mk _ (Op.store 68 _ _) _ _ _ _ :: _) _ _); refine dq_store_new (cs := (clQ x).toArray) rfl rfl rfl rfl (clQ_one x) ?_; rw [← HV.out])
        | (go_at_call 38; refine (awake21 _).mono ?_; rintro e v9 ⟨rfl, x9⟩))
      go_ret
      exact ⟨rfl, bV.trans (x9.mono bV.size)⟩

/-! ### The row's step -/
set_option maxRecDepth 100000 in
theorem lifted (os : Os) (started : os.Started) (H : Type) (enc : TypeId × Value → H) :
    ReturnsInHanded {} Try.checked os 6 .any (Rows.quotaLivesSpec.pre6 enc Try.prog Try.f6 Rows.quotaLivesRow.domain false) (Rows.quotaLivesSpec.post enc Try.prog Try.f6 false true false false) := by
  refine returnsInHanded_of_change (C := Try.checked) own started (by kernel_rfl) Try.func6
    (ChangeSpec.witness6 (enc := enc) (C := Try.checked) false ⟨#[], #[.int .i64 0, .int .i64 0, .slice none 0 0], []⟩ 8 (by kernel_rfl) (by kernel_rfl) (by kernel_rfl) (by kernel_rfl)) ?_
  intro W base args ds gs before hval0 hW hcnd _
  have hval : ∀ (j : Nat) t v, Try.f6.params[j]? = some t → args[j]? = some v → Value.okWide Try.prog W .any base t v := hval0
  have hW' := hW
  obtain ⟨p, q, hA0, hV, rfl, hfz, hnd⟩ := hW
  have hA : DataW.TrodAll enc Try.prog W 0 (fun _ => true) true Try.f6.params.toList args.toList ds p := hA0
  rw [Try.params6] at hA hval
  obtain ⟨v0, vs0, d0, ds0, p0, q0, hargs, rfl, rfl, t0, r0⟩ := trodAll_cons hA
  obtain ⟨v1, vs1, d1, ds1, p1, q1, rfl, rfl, rfl, t1, r1⟩ := trodAll_cons r0
  obtain ⟨v2, vs2, d2, ds2, p2, q2, rfl, rfl, rfl, t2, r2⟩ := trodAll_cons r1
  obtain ⟨rfl, rfl, rfl⟩ := trodAll_nil r2
  obtain rfl : args = #[v0, v1, v2] := by cases args; simp_all
  obtain ⟨rfl, rfl⟩ := trodVars_none hV
  have k0 := t0
  have lt0 := Trod_lt t0
  have k1 := t1
  have lt1 := Trod_lt t1
  have k2 := t2
  have lt2 := Trod_lt t2
  obtain ⟨a0, rfl, w0⟩ := get_int Try.underlying3 (hval 0 3 v0 rfl rfl) t0
  obtain ⟨a1, rfl, w1⟩ := get_int Try.underlying3 (hval 1 3 v1 rfl rfl) t1
  obtain ⟨A2, c2, l2, rfl, h2, e2, n2, m2⟩ := get_dqs (hval 2 60 v2 rfl rfl) t2
  clear hA0 hval0
  refine (walk a0 a1 A2 c2 l2 W w0 w1 h2 e2 n2 m2).mono fun e W' ⟨he, bel⟩ => ?_
  subst he
  exact ⟨_, rfl, _, _, _, [], _, [], hW', trodAll_mk1 (shut_bool Try.underlying4 _), (trodAll_cons_mk (Below.trod laidOut (by kernel_rfl) (of_decide_eq_true (by kernel_rfl)) k0 bel lt0) (trodAll_cons_mk (Below.trod laidOut (by kernel_rfl) (of_decide_eq_true (by kernel_rfl)) k1 bel lt1) (trodAll_cons_mk (Below.trod laidOut (by kernel_rfl) (of_decide_eq_true (by kernel_rfl)) k2 bel lt2) trodAll_mk0))), rfl, bel.frame _, fun h => by cases h⟩

theorem over : Rows.quotaLivesRow.holds Try.pinned (OpenSpec.ofChange Rows.quotaLivesSpec) :=
  OpenClaim.holds_of_wide 6 Try.f6 rfl rfl rfl rfl rfl rfl rfl ⟨rfl, rfl, rfl, rfl, rfl⟩ rfl rfl rfl rfl rfl (by kernel_rfl) Try.func6 (by kernel_rfl)
    (of_decide_eq_true (by kernel_rfl)) (by unfold Func.isWrapper; first | (rw [if_pos (by decide +kernel)]; kernel_rfl) | (rw [if_neg (by decide +kernel)]; exact ⟨rfl, rfl⟩))
    (fun os started H enc _ => lifted os started H enc)

theorem proved : Rows.QuotaLivesSaid := over
end Go.Proofs.Ytafidbjaeopciaa.quotaLives
