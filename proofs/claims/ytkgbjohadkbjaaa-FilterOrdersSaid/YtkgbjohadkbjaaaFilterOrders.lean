/-
  For all endpoints and lists of them goosepondlaw25.FilterOrders answers true: what ports let in, addresses do, and what these do everybody; who was sent to is let in by each. No condition.
-/
import Derived.Test.YtkgbjohadkbjaaaRows
import Derived.WalkKit
import Derived.ProofKit
import Derived.OpenShut
import Derived.ChangeOld
import Derived.Below
import Derived.Test.YtkgbjohadkbjaaaFa2
import Derived.Test.YtkgbjohadkbjaaaFa4
namespace Go.Proofs.Ytkgbjohadkbjaaa.filterOrders
open Go.ChangeShapes Go.WideShapes Go.ChangeAt Go.RowKit
set_option linter.unusedVariables false
attribute [local go_sem] Oper.semAt_some

theorem own : ownKnob Try.prog.godebug = none := by kernel_rfl
theorem laidOut : laidOutB Try.prog = true := by kernel_rfl

/-! ### The walk -/
set_option maxRecDepth 100000 in
set_option maxHeartbeats 4000000 in
theorem walk (x0 : Rm) (A1 : Option Addr) (c1 : Nat) (l1 : List Rm) (w : World) (h0 : x0.fits) (h1 : RdS clM 2 w w.heap.size A1 l1) (e1 : ∀ y ∈ l1, y.fits) (n1 : l1.length ≤ c1) (m1 : c1 ≤ maxLen) :
    Calls Try.prog 6 #[rmV x0, .slice A1 l1.length c1] w fun e w' => e = .returned (.bool true) ∧ Below w.heap.size w w' := by
  have hW := (Below.refl w.heap.size w).alloc (Nat.le_refl _) (.cells #[.int .i64 x0.addr, .int .i64 x0.port] 38)
  have kf := rm_box w x0
  have hz : w.heap.size < (w.alloc (.cells #[.int .i64 x0.addr, .int .i64 x0.port] 38)).heap.size := by simp
  have hr := h1.below hW
  obtain ⟨W, hWe⟩ : ∃ W, W = w.alloc (.cells #[.int .i64 x0.addr, .int .i64 x0.port] 38) := ⟨_, rfl⟩
  rw [← hWe] at hW kf hz hr
  rw [rmV]
  have hws := hW.size
  go_enter Try.func6, Try.ntmps6
  go_upto_region 1 with fail
  rw [← hWe]
  clear hWe
  by_cases hbig : 300 < l1.length
  · have d2 : decide (300 < (l1.length : Int)) = true := by simp; omega
    go_wp2_with (first | (go_at_call 16; refine (awake25 _).mono ?_; rintro e w10 ⟨rfl, b10⟩))
    go_ret
    exact ⟨rfl, hW.trans (b10.mono hW.size)⟩
  · have d2 : decide (300 < (l1.length : Int)) = false := by simp; omega
    have hl : l1.length ≤ 1000 := by omega
    have LR : ∀ V : World, Below W.heap.size W V → V.rangeAt w.heap.size 0 (clM x0) := fun V hV => range_below kf hz hV
    have LS : ∀ V : World, Below W.heap.size W V → RdS clM 2 V w.heap.size A1 l1 := fun V hV => hr.below (hV.mono hws)
    clear hbig
    go_upto_region 3 with fail
    have H0 : Hid (alwF 0 x0 l1 = true) := Lib.hid rfl
    obtain ⟨P, hP⟩ : ∃ R, alwF 1 x0 l1 = R := ⟨_, rfl⟩
    obtain ⟨Q, hQ⟩ : ∃ R, alwF 2 x0 l1 = R := ⟨_, rfl⟩
    obtain ⟨C, hC⟩ : ∃ R, (l1.any fun x => sameR x0 x) = R := ⟨_, rfl⟩
    have hPQ : Q = true → P = true := fun h => by
      rw [← hP, alwF, if_neg (by decide)]
      rw [← hQ, alwF, if_neg (by decide)] at h
      obtain ⟨x, hx, hx2⟩ := List.any_eq_true.1 h
      refine List.any_eq_true.2 ⟨x, hx, ?_⟩
      simp [hitF, sameR] at hx2 ⊢
      exact hx2.1
    have hCQ : C = true → Q = true := fun h => by
      rw [← hQ, alwF, if_neg (by decide)]
      rw [← hC] at h
      obtain ⟨x, hx, hx2⟩ := List.any_eq_true.1 h
      refine List.any_eq_true.2 ⟨x, hx, ?_⟩
      simp [hitF, sameR] at hx2 ⊢
      exact ⟨hx2.1.symm, hx2.2.symm⟩
    have HP := Lib.hid hP
    have HQ := Lib.hid hQ
    have HC := Lib.hid hC
    clear hP hQ hC
    cases P <;> cases Q
    · have hc : C = false := by cases C; rfl; exact absurd (hCQ rfl) (by decide)
      subst hc
      clear hPQ hCQ
      refine wp_region_held_drew (S := fun w' => Below W.heap.size W w') (by kernel_rfl) (Below.refl _ W).drew (fun hS => ?_)
      refine held_pure (i := 0) (oi := ⟨some 12, _, _, _, _, _⟩) rfl (by kernel_rfl) (by kernel_rfl) (by kernel_rfl) (fun _ _ _ h => h) (by rfl) (fun w hSw => run_load_rm rfl rfl (LR _ hSw)) hS (fun hS => ?_)
      try go_frame
      refine held_pure (i := 1) (oi := ⟨some 13, _, _, _, _, _⟩) rfl (by kernel_rfl) (by kernel_rfl) (by kernel_rfl) (fun _ _ _ h => h) (by rfl) (v := ?_) (fun w hSw => ?_) hS (fun hS => ?_)
      rotate_left
      · go_simp; try with_reducible rfl
      try go_frame
      refine held_pure (i := 3) (oi := ⟨some 15, _, _, _, _, _⟩) rfl (by kernel_rfl) (by kernel_rfl) (by kernel_rfl) (fun _ _ _ h => h) (by rfl) (fun w hSw => run_load_rm rfl rfl (LR _ hSw)) hS (fun hS => ?_)
      try go_frame
      refine held_pure (i := 4) (oi := ⟨some 16, _, _, _, _, _⟩) rfl (by kernel_rfl) (by kernel_rfl) (by kernel_rfl) (fun _ _ _ h => h) (by rfl) (v := ?_) (fun w hSw => ?_) hS (fun hS => ?_)
      rotate_left
      · go_simp; try with_reducible rfl
      try go_frame
      refine held_pure (i := 6) (oi := ⟨some 18, _, _, _, _, _⟩) rfl (by kernel_rfl) (by kernel_rfl) (by kernel_rfl) (fun _ _ _ h => h) (by rfl) (fun w hSw => run_load_rm rfl rfl (LR _ hSw)) hS (fun hS => ?_)
      try go_frame
      refine held_pure (i := 7) (oi := ⟨some 19, _, _, _, _, _⟩) rfl (by kernel_rfl) (by kernel_rfl) (by kernel_rfl) (fun _ _ _ h => h) (by rfl) (v := ?_) (fun w hSw => ?_) hS (fun hS => ?_)
      rotate_left
      · go_simp; try with_reducible rfl
      try go_frame
      refine wpAnyH_ready (rs := [2]) (by kernel_rfl) (by simp) (AllReadyH.cons (o := ⟨some 14, _, _, _, _, _⟩) rfl (fun K hK => ?_) AllReadyH.nil)
      rw [if_pos (by rfl)]
      go_simp
      refine (callow 0 x0 A1 c1 l1 w.heap.size _ (LS _ hS) (Nat.le_trans hws hS.size) hl).mono ?_
      rintro e u2 ⟨rfl, z2⟩
      rw [H0.out]
      show K _ _
      refine hK.out _ _ (below_step hS z2) (fun hS => ?_)
      clear hK K
      try go_frame
      refine wpAnyH_ready (rs := [5]) (by kernel_rfl) (by simp) (AllReadyH.cons (o := ⟨some 17, _, _, _, _, _⟩) rfl (fun K hK => ?_) AllReadyH.nil)
      rw [if_pos (by rfl)]
      go_simp
      refine (callow 1 x0 A1 c1 l1 w.heap.size _ (LS _ hS) (Nat.le_trans hws hS.size) hl).mono ?_
      rintro e u5 ⟨rfl, z5⟩
      rw [HP.out]
      show K _ _
      refine hK.out _ _ (below_step hS z5) (fun hS => ?_)
      clear hK K
      try go_frame
      refine wpAnyH_ready (rs := [8]) (by kernel_rfl) (by simp) (AllReadyH.cons (o := ⟨some 20, _, _, _, _, _⟩) rfl (fun K hK => ?_) AllReadyH.nil)
      rw [if_pos (by rfl)]
      go_simp
      refine (callow 2 x0 A1 c1 l1 w.heap.size _ (LS _ hS) (Nat.le_trans hws hS.size) hl).mono ?_
      rintro e u8 ⟨rfl, z8⟩
      rw [HQ.out]
      show K _ _
      refine hK.out _ _ (below_step hS z8) (fun hS => ?_)
      clear hK K
      try go_frame
      refine held_pure (i := 9) (oi := ⟨some 5, _, _, _, _, _⟩) rfl (by kernel_rfl) (by kernel_rfl) (by kernel_rfl) (fun _ _ _ h => h) (by rfl) (v := ?_) (fun w hSw => ?_) hS (fun hS => ?_)
      rotate_left
      · go_simp; try with_reducible rfl
      try go_frame
      refine held_pure (i := 10) (oi := ⟨some 6, _, _, _, _, _⟩) rfl (by kernel_rfl) (by kernel_rfl) (by kernel_rfl) (fun _ _ _ h => h) (by rfl) (v := ?_) (fun w hSw => ?_) hS (fun hS => ?_)
      rotate_left
      · go_simp; try with_reducible rfl
      try go_frame
      refine held_pure (i := 11) (oi := ⟨some 7, _, _, _, _, _⟩) rfl (by kernel_rfl) (by kernel_rfl) (by kernel_rfl) (fun _ _ _ h => h) (by rfl) (v := ?_) (fun w hSw => ?_) hS (fun hS => ?_)
      rotate_left
      · go_simp; try with_reducible rfl
      try go_frame
      refine wpAnyH_done (by kernel_rfl) ?_ _
      have k0 := (LR _ hS) 0 (.int .i64 x0.addr) rfl
      rw [Nat.zero_add] at k0
      have k1 := (LR _ hS) 1 (.int .i64 x0.port) rfl
      rw [Nat.zero_add] at k1
      go_wp2_with (first
        | (go_at_call 21; refine (rmcont x0 A1 c1 l1 w.heap.size _ (LS _ hS) (Nat.le_trans hws hS.size) hl).mono ?_; rintro e w2 ⟨rfl, b2⟩; rw [HC.out]; have hS := hS.trans (b2.mono hS.size))
        | (go_at_call 16; refine (awake25 _).mono ?_; rintro e w3 ⟨rfl, b3⟩))
      go_ret
      exact ⟨rfl, hW.trans ((hS.trans (b3.mono hS.size)).mono hW.size)⟩
    · exact absurd (hPQ rfl) (by decide)
    · have hc : C = false := by cases C; rfl; exact absurd (hCQ rfl) (by decide)
      subst hc
      clear hPQ hCQ
      refine wp_region_held_drew (S := fun w' => Below W.heap.size W w') (by kernel_rfl) (Below.refl _ W).drew (fun hS => ?_)
      refine held_pure (i := 0) (oi := ⟨some 12, _, _, _, _, _⟩) rfl (by kernel_rfl) (by kernel_rfl) (by kernel_rfl) (fun _ _ _ h => h) (by rfl) (fun w hSw => run_load_rm rfl rfl (LR _ hSw)) hS (fun hS => ?_)
      try go_frame
      refine held_pure (i := 1) (oi := ⟨some 13, _, _, _, _, _⟩) rfl (by kernel_rfl) (by kernel_rfl) (by kernel_rfl) (fun _ _ _ h => h) (by rfl) (v := ?_) (fun w hSw => ?_) hS (fun hS => ?_)
      rotate_left
      · go_simp; try with_reducible rfl
      try go_frame
      refine held_pure (i := 3) (oi := ⟨some 15, _, _, _, _, _⟩) rfl (by kernel_rfl) (by kernel_rfl) (by kernel_rfl) (fun _ _ _ h => h) (by rfl) (fun w hSw => run_load_rm rfl rfl (LR _ hSw)) hS (fun hS => ?_)
      try go_frame
      refine held_pure (i := 4) (oi := ⟨some 16, _, _, _, _, _⟩) rfl (by kernel_rfl) (by kernel_rfl) (by kernel_rfl) (fun _ _ _ h => h) (by rfl) (v := ?_) (fun w hSw => ?_) hS (fun hS => ?_)
      rotate_left
      · go_simp; try with_reducible rfl
      try go_frame
      refine held_pure (i := 6) (oi := ⟨some 18, _, _, _, _, _⟩) rfl (by kernel_rfl) (by kernel_rfl) (by kernel_rfl) (fun _ _ _ h => h) (by rfl) (fun w hSw => run_load_rm rfl rfl (LR _ hSw)) hS (fun hS => ?_)
      try go_frame
      refine held_pure (i := 7) (oi := ⟨some 19, _, _, _, _, _⟩) rfl (by kernel_rfl) (by kernel_rfl) (by kernel_rfl) (fun _ _ _ h => h) (by rfl) (v := ?_) (fun w hSw => ?_) hS (fun hS => ?_)
      rotate_left
      · go_simp; try with_reducible rfl
      try go_frame
      refine wpAnyH_ready (rs := [2]) (by kernel_rfl) (by simp) (AllReadyH.cons (o := ⟨some 14, _, _, _, _, _⟩) rfl (fun K hK => ?_) AllReadyH.nil)
      rw [if_pos (by rfl)]
      go_simp
      refine (callow 0 x0 A1 c1 l1 w.heap.size _ (LS _ hS) (Nat.le_trans hws hS.size) hl).mono ?_
      rintro e u2 ⟨rfl, z2⟩
      rw [H0.out]
      show K _ _
      refine hK.out _ _ (below_step hS z2) (fun hS => ?_)
      clear hK K
      try go_frame
      refine wpAnyH_ready (rs := [5]) (by kernel_rfl) (by simp) (AllReadyH.cons (o := ⟨some 17, _, _, _, _, _⟩) rfl (fun K hK => ?_) AllReadyH.nil)
      rw [if_pos (by rfl)]
      go_simp
      refine (callow 1 x0 A1 c1 l1 w.heap.size _ (LS _ hS) (Nat.le_trans hws hS.size) hl).mono ?_
      rintro e u5 ⟨rfl, z5⟩
      rw [HP.out]
      show K _ _
      refine hK.out _ _ (below_step hS z5) (fun hS => ?_)
      clear hK K
      try go_frame
      refine wpAnyH_ready (rs := [8]) (by kernel_rfl) (by simp) (AllReadyH.cons (o := ⟨some 20, _, _, _, _, _⟩) rfl (fun K hK => ?_) AllReadyH.nil)
      rw [if_pos (by rfl)]
      go_simp
      refine (callow 2 x0 A1 c1 l1 w.heap.size _ (LS _ hS) (Nat.le_trans hws hS.size) hl).mono ?_
      rintro e u8 ⟨rfl, z8⟩
      rw [HQ.out]
      show K _ _
      refine hK.out _ _ (below_step hS z8) (fun hS => ?_)
      clear hK K
      try go_frame
      refine held_pure (i := 9) (oi := ⟨some 5, _, _, _, _, _⟩) rfl (by kernel_rfl) (by kernel_rfl) (by kernel_rfl) (fun _ _ _ h => h) (by rfl) (v := ?_) (fun w hSw => ?_) hS (fun hS => ?_)
      rotate_left
      · go_simp; try with_reducible rfl
      try go_frame
      refine held_pure (i := 10) (oi := ⟨some 6, _, _, _, _, _⟩) rfl (by kernel_rfl) (by kernel_rfl) (by kernel_rfl) (fun _ _ _ h => h) (by rfl) (v := ?_) (fun w hSw => ?_) hS (fun hS => ?_)
      rotate_left
      · go_simp; try with_reducible rfl
      try go_frame
      refine held_pure (i := 11) (oi := ⟨some 7, _, _, _, _, _⟩) rfl (by kernel_rfl) (by kernel_rfl) (by kernel_rfl) (fun _ _ _ h => h) (by rfl) (v := ?_) (fun w hSw => ?_) hS (fun hS => ?_)
      rotate_left
      · go_simp; try with_reducible rfl
      try go_frame
      refine wpAnyH_done (by kernel_rfl) ?_ _
      have k0 := (LR _ hS) 0 (.int .i64 x0.addr) rfl
      rw [Nat.zero_add] at k0
      have k1 := (LR _ hS) 1 (.int .i64 x0.port) rfl
      rw [Nat.zero_add] at k1
      go_wp2_with (first
        | (go_at_call 21; refine (rmcont x0 A1 c1 l1 w.heap.size _ (LS _ hS) (Nat.le_trans hws hS.size) hl).mono ?_; rintro e w2 ⟨rfl, b2⟩; rw [HC.out]; have hS := hS.trans (b2.mono hS.size))
        | (go_at_call 16; refine (awake25 _).mono ?_; rintro e w3 ⟨rfl, b3⟩))
      go_ret
      exact ⟨rfl, hW.trans ((hS.trans (b3.mono hS.size)).mono hW.size)⟩
    · clear hPQ hCQ
      refine wp_region_held_drew (S := fun w' => Below W.heap.size W w') (by kernel_rfl) (Below.refl _ W).drew (fun hS => ?_)
      refine held_pure (i := 0) (oi := ⟨some 12, _, _, _, _, _⟩) rfl (by kernel_rfl) (by kernel_rfl) (by kernel_rfl) (fun _ _ _ h => h) (by rfl) (fun w hSw => run_load_rm rfl rfl (LR _ hSw)) hS (fun hS => ?_)
      try go_frame
      refine held_pure (i := 1) (oi := ⟨some 13, _, _, _, _, _⟩) rfl (by kernel_rfl) (by kernel_rfl) (by kernel_rfl) (fun _ _ _ h => h) (by rfl) (v := ?_) (fun w hSw => ?_) hS (fun hS => ?_)
      rotate_left
      · go_simp; try with_reducible rfl
      try go_frame
      refine held_pure (i := 3) (oi := ⟨some 15, _, _, _, _, _⟩) rfl (by kernel_rfl) (by kernel_rfl) (by kernel_rfl) (fun _ _ _ h => h) (by rfl) (fun w hSw => run_load_rm rfl rfl (LR _ hSw)) hS (fun hS => ?_)
      try go_frame
      refine held_pure (i := 4) (oi := ⟨some 16, _, _, _, _, _⟩) rfl (by kernel_rfl) (by kernel_rfl) (by kernel_rfl) (fun _ _ _ h => h) (by rfl) (v := ?_) (fun w hSw => ?_) hS (fun hS => ?_)
      rotate_left
      · go_simp; try with_reducible rfl
      try go_frame
      refine held_pure (i := 6) (oi := ⟨some 18, _, _, _, _, _⟩) rfl (by kernel_rfl) (by kernel_rfl) (by kernel_rfl) (fun _ _ _ h => h) (by rfl) (fun w hSw => run_load_rm rfl rfl (LR _ hSw)) hS (fun hS => ?_)
      try go_frame
      refine held_pure (i := 7) (oi := ⟨some 19, _, _, _, _, _⟩) rfl (by kernel_rfl) (by kernel_rfl) (by kernel_rfl) (fun _ _ _ h => h) (by rfl) (v := ?_) (fun w hSw => ?_) hS (fun hS => ?_)
      rotate_left
      · go_simp; try with_reducible rfl
      try go_frame
      refine wpAnyH_ready (rs := [2]) (by kernel_rfl) (by simp) (AllReadyH.cons (o := ⟨some 14, _, _, _, _, _⟩) rfl (fun K hK => ?_) AllReadyH.nil)
      rw [if_pos (by rfl)]
      go_simp
      refine (callow 0 x0 A1 c1 l1 w.heap.size _ (LS _ hS) (Nat.le_trans hws hS.size) hl).mono ?_
      rintro e u2 ⟨rfl, z2⟩
      rw [H0.out]
      show K _ _
      refine hK.out _ _ (below_step hS z2) (fun hS => ?_)
      clear hK K
      try go_frame
      refine wpAnyH_ready (rs := [5]) (by kernel_rfl) (by simp) (AllReadyH.cons (o := ⟨some 17, _, _, _, _, _⟩) rfl (fun K hK => ?_) AllReadyH.nil)
      rw [if_pos (by rfl)]
      go_simp
      refine (callow 1 x0 A1 c1 l1 w.heap.size _ (LS _ hS) (Nat.le_trans hws hS.size) hl).mono ?_
      rintro e u5 ⟨rfl, z5⟩
      rw [HP.out]
      show K _ _
      refine hK.out _ _ (below_step hS z5) (fun hS => ?_)
      clear hK K
      try go_frame
      refine wpAnyH_ready (rs := [8]) (by kernel_rfl) (by simp) (AllReadyH.cons (o := ⟨some 20, _, _, _, _, _⟩) rfl (fun K hK => ?_) AllReadyH.nil)
      rw [if_pos (by rfl)]
      go_simp
      refine (callow 2 x0 A1 c1 l1 w.heap.size _ (LS _ hS) (Nat.le_trans hws hS.size) hl).mono ?_
      rintro e u8 ⟨rfl, z8⟩
      rw [HQ.out]
      show K _ _
      refine hK.out _ _ (below_step hS z8) (fun hS => ?_)
      clear hK K
      try go_frame
      refine held_pure (i := 9) (oi := ⟨some 5, _, _, _, _, _⟩) rfl (by kernel_rfl) (by kernel_rfl) (by kernel_rfl) (fun _ _ _ h => h) (by rfl) (v := ?_) (fun w hSw => ?_) hS (fun hS => ?_)
      rotate_left
      · go_simp; try with_reducible rfl
      try go_frame
      refine held_pure (i := 10) (oi := ⟨some 6, _, _, _, _, _⟩) rfl (by kernel_rfl) (by kernel_rfl) (by kernel_rfl) (fun _ _ _ h => h) (by rfl) (v := ?_) (fun w hSw => ?_) hS (fun hS => ?_)
      rotate_left
      · go_simp; try with_reducible rfl
      try go_frame
      refine held_pure (i := 11) (oi := ⟨some 7, _, _, _, _, _⟩) rfl (by kernel_rfl) (by kernel_rfl) (by kernel_rfl) (fun _ _ _ h => h) (by rfl) (v := ?_) (fun w hSw => ?_) hS (fun hS => ?_)
      rotate_left
      · go_simp; try with_reducible rfl
      try go_frame
      refine wpAnyH_done (by kernel_rfl) ?_ _
      go_wp2_with (first
        | (go_at_call 21; refine (rmcont x0 A1 c1 l1 w.heap.size _ (LS _ hS) (Nat.le_trans hws hS.size) hl).mono ?_; rintro e w2 ⟨rfl, b2⟩; rw [HC.out]; have hS := hS.trans (b2.mono hS.size))
        | (go_at_call 16; refine (awake25 _).mono ?_; rintro e w3 ⟨rfl, b3⟩))
      go_ret
      exact ⟨rfl, hW.trans ((hS.trans (b3.mono hS.size)).mono hW.size)⟩

/-! ### The row's step -/
set_option maxRecDepth 100000 in
theorem lifted (os : Os) (started : os.Started) (H : Type) (enc : TypeId × Value → H) :
    ReturnsInHanded {} Try.checked os 6 .any (Rows.filterOrdersSpec.pre6 enc Try.prog Try.f6 Rows.filterOrdersRow.domain false) (Rows.filterOrdersSpec.post enc Try.prog Try.f6 false true false false) := by
  refine returnsInHanded_of_change (C := Try.checked) own started (by kernel_rfl) Try.func6
    (ChangeSpec.witness6 (enc := enc) (C := Try.checked) false ⟨#[], #[.agg #[.int .i64 0, .int .i64 0], .slice none 0 0], []⟩ 8 (by kernel_rfl) (by kernel_rfl) (by kernel_rfl) (by kernel_rfl)) ?_
  intro W base args ds gs before hval0 hW hcnd _
  have hval : ∀ (j : Nat) t v, Try.f6.params[j]? = some t → args[j]? = some v → Value.okWide Try.prog W .any base t v := hval0
  have hW' := hW
  obtain ⟨p, q, hA0, hV, rfl, hfz, hnd⟩ := hW
  have hA : DataW.TrodAll enc Try.prog W 0 (fun _ => true) true Try.f6.params.toList args.toList ds p := hA0
  rw [Try.params6] at hA hval
  obtain ⟨v0, vs0, d0, ds0, p0, q0, hargs, rfl, rfl, t0, r0⟩ := trodAll_cons hA
  obtain ⟨v1, vs1, d1, ds1, p1, q1, rfl, rfl, rfl, t1, r1⟩ := trodAll_cons r0
  obtain ⟨rfl, rfl, rfl⟩ := trodAll_nil r1
  obtain rfl : args = #[v0, v1] := by cases args; simp_all
  obtain ⟨rfl, rfl⟩ := trodVars_none hV
  have k0 := t0
  have lt0 := Trod_lt t0
  have k1 := t1
  have lt1 := Trod_lt t1
  obtain ⟨x0, rfl, h0⟩ := get_rm (hval 0 38 v0 rfl rfl) t0
  obtain ⟨A1, c1, l1, rfl, h1, e1, n1, m1⟩ := get_rms (hval 1 39 v1 rfl rfl) t1
  clear hA0 hval0
  refine (walk x0 A1 c1 l1 W h0 h1 e1 n1 m1).mono fun e W' ⟨he, bel⟩ => ?_
  subst he
  exact ⟨_, rfl, _, _, _, [], _, [], hW', trodAll_mk1 (shut_bool Try.underlying4 _), (trodAll_cons_mk (Below.trod laidOut (by kernel_rfl) (of_decide_eq_true (by kernel_rfl)) k0 bel lt0) (trodAll_cons_mk (Below.trod laidOut (by kernel_rfl) (of_decide_eq_true (by kernel_rfl)) k1 bel lt1) trodAll_mk0)), rfl, bel.frame _, fun h => by cases h⟩

theorem over : Rows.filterOrdersRow.holds Try.pinned (OpenSpec.ofChange Rows.filterOrdersSpec) :=
  OpenClaim.holds_of_wide 6 Try.f6 rfl rfl rfl rfl rfl rfl rfl ⟨rfl, rfl, rfl, rfl, rfl⟩ rfl rfl rfl rfl rfl (by kernel_rfl) Try.func6 (by kernel_rfl)
    (of_decide_eq_true (by kernel_rfl)) (by unfold Func.isWrapper; first | (rw [if_pos (by decide +kernel)]; kernel_rfl) | (rw [if_neg (by decide +kernel)]; exact ⟨rfl, rfl⟩))
    (fun os started H enc _ => lifted os started H enc)

theorem proved : Rows.FilterOrdersSaid := over
end Go.Proofs.Ytkgbjohadkbjaaa.filterOrders
