/-
  For every two packets of IPv6, goosepondlaw06.V6Builds answers true: any packet's bytes are what the document says, or refused.
  Conditions: none but the statement's own.
-/
import Derived.Test.YtcfcmnhnijjehaaRows
import Derived.WalkKit
import Derived.ProofKit
import Derived.OpenShut
import Derived.ChangeOld
import Derived.Below
import Derived.Test.YtcfcmnhnijjehaaOpen
import Derived.Test.YtcfcmnhnijjehaaV6L
namespace Go.Proofs.Ytcfcmnhnijjehaa.v6Builds
open Go.ChangeShapes Go.WideShapes Go.ChangeAt Go.RowKit
set_option linter.unusedVariables false
attribute [local go_sem] Oper.semAt_some

theorem own : ownKnob Try.prog.godebug = none := by kernel_rfl
theorem laidOut : laidOutB Try.prog = true := by kernel_rfl

/-! ### The walk -/
set_option maxRecDepth 100000 in
set_option maxHeartbeats 1500000 in
theorem walk (x0 : P6) (A0 : Option Addr) (c0 : Nat) (x1 : P6) (A1 : Option Addr) (c1 : Nat) (w : World) (h0 : Arg w w.heap.size A0 c0 x0.dat) (m0 : c0 ≤ maxLen) (w0 : x0.fits) (s0 : x0.src.length = 16) (e0 : x0.dst.length = 16) (h1 : Arg w w.heap.size A1 c1 x1.dat) (m1 : c1 ≤ maxLen) (w1 : x1.fits) (s1 : x1.src.length = 16) (e1 : x1.dst.length = 16) :
    Calls Try.prog 7 #[v6v x0 A0 c0, v6v x1 A1 c1] w fun e w' => e = .returned (.bool true) ∧ Below w.heap.size w w' := by
  have hB0 : Below w.heap.size w ((w.alloc (.cells (v6a x0 A0 c0) 44)).alloc (.cells (v6a x1 A1 c1) 44)) := below_two w _ _
  have hAt : At6 ((w.alloc (.cells (v6a x0 A0 c0) 44)).alloc (.cells (v6a x1 A1 c1) 44)) w.heap.size x0 A0 c0 := (At6.new w).below ((Below.refl (w.heap.size + 1) _).alloc (by simp) _) (by omega)
  have hAt2 : At6 ((w.alloc (.cells (v6a x0 A0 c0) 44)).alloc (.cells (v6a x1 A1 c1) 44)) (w.heap.size + 1) x1 A1 c1 := by
    have := At6.new (q := x1) (A := A1) (c := c1) (w.alloc (.cells (v6a x0 A0 c0) 44))
    rwa [show (w.alloc (.cells (v6a x0 A0 c0) 44)).heap.size = w.heap.size + 1 from by simp] at this
  have hzF : w.heap.size + 1 < ((w.alloc (.cells (v6a x0 A0 c0) 44)).alloc (.cells (v6a x1 A1 c1) 44)).heap.size := by simp
  have kd := hAt.dat s0 e0
  have kd2 := hAt2.dat s1 e1
  unfold v6v
  rw [show (v6l x0 A0 c0).toArray = v6a x0 A0 c0 from rfl, show (v6l x1 A1 c1).toArray = v6a x1 A1 c1 from rfl]
  by_cases h : 3000 < x0.dat.length
  · have hd : decide (3000 < (x0.dat.length : Int)) = true := by simp; omega
    go_enter Try.func7, Try.ntmps7
    go_wp2_with (go_at_call 32; refine (awake6_any _).mono ?_; rintro e w5 ⟨rfl, b5⟩)
    go_ret
    exact ⟨rfl, hB0.trans (b5.mono hB0.size)⟩
  · have hd : decide (3000 < (x0.dat.length : Int)) = false := by simp; omega
    by_cases h' : 3000 < x1.dat.length
    · have hd' : decide (3000 < (x1.dat.length : Int)) = true := by simp; omega
      go_enter Try.func7, Try.ntmps7
      go_wp2_with (go_at_call 32; refine (awake6_any _).mono ?_; rintro e w5 ⟨rfl, b5⟩)
      go_ret
      exact ⟨rfl, hB0.trans (b5.mono hB0.size)⟩
    · have hd' : decide (3000 < (x1.dat.length : Int)) = false := by simp; omega
      go_enter Try.func7, Try.ntmps7
      go_upto_region 3 with fail
      clear hd hd' kd kd2
      generalize (w.alloc (.cells (v6a x0 A0 c0) 44)).alloc (.cells (v6a x1 A1 c1) 44) = W at *
      have hz0 : w.heap.size < W.heap.size := by omega
      go_upto_region 4 with (first
        | ((with_reducible show wpList _ _ _ (Oper.mk _ (Op.load _ _) _ _ _ _ :: _) _ _); refine wpList_val rfl (run_load_v6 rfl rfl hAt (v6l_len s0 e0)) ?_)
        | (go_at_call 33; refine (c6build x0 A0 c0 _ w.heap.size s0 e0 (by omega) (h0.below hB0) hB0.size).mono ?_; rintro e w1 ⟨v1, rfl, n1⟩; obtain ⟨P1, k1, rfl, g1, y1⟩ := res6_shape n1))
      have hAt1 := hAt.below y1 hz0
      have q1 := hB0.trans (y1.mono hB0.size)
      go_upto_region 5 with (first
        | ((with_reducible show wpList _ _ _ (Oper.mk _ (Op.load _ _) _ _ _ _ :: _) _ _); refine wpList_val rfl (run_load_v6 rfl rfl hAt1 (v6l_len s0 e0)) ?_)
        | (go_at_call 34; refine (r6build x0 A0 c0 _ w.heap.size s0 e0 (by omega) (h0.below q1) q1.size).mono ?_; rintro e X ⟨v2, rfl, n2⟩; obtain ⟨P2, k2, rfl, f2, y2⟩ := res6_shape n2))
      have qx : Below w.heap.size w X := q1.trans (y2.mono q1.size)
      have x12 := y1.trans (y2.mono y1.size)
      have at0 := hAt.below x12 (by omega)
      have at1 := hAt2.below x12 (by omega)
      have f1 := g1.below y2
      have zX := x12.size
      have z12 := y2.size
      have hx1 : w.heap.size + 1 < X.heap.size := by omega
      clear n1 n2 g1 hAt hAt2 hAt1 y1 y2 q1 x12
      refine wp_region_held_drew (S := fun w' => Below X.heap.size X w') (by kernel_rfl) (Below.refl _ X).drew (fun hS => ?_)
      refine held_pure (i := 0) (oi := ⟨some 30, _, _, _, _, _⟩) rfl (by kernel_rfl) (by kernel_rfl) (by kernel_rfl) (fun _ _ _ h => h) (by rfl) (v := ?_) (fun w hSw => ?_) hS (fun hS => ?_)
      rotate_left
      · go_simp; try with_reducible rfl
      try go_frame
      refine held_pure (i := 1) (oi := ⟨some 31, _, _, _, _, _⟩) rfl (by kernel_rfl) (by kernel_rfl) (by kernel_rfl) (fun _ _ _ h => h) (by rfl) (v := ?_) (fun w hSw => ?_) hS (fun hS => ?_)
      rotate_left
      · go_simp; try with_reducible rfl
      try go_frame
      refine held_pure (i := 2) (oi := ⟨some 32, _, _, _, _, _⟩) rfl (by kernel_rfl) (by kernel_rfl) (by kernel_rfl) (fun _ _ _ h => h) (by rfl) (v := ?_) (fun w hSw => ?_) hS (fun hS => ?_)
      rotate_left
      · go_simp; try with_reducible rfl
      try go_frame
      refine held_pure (i := 3) (oi := ⟨some 33, _, _, _, _, _⟩) rfl (by kernel_rfl) (by kernel_rfl) (by kernel_rfl) (fun _ _ _ h => h) (by rfl) (v := ?_) (fun w hSw => ?_) hS (fun hS => ?_)
      rotate_left
      · go_simp; try with_reducible rfl
      try go_frame
      refine held_pure (i := 4) (oi := ⟨some 34, _, _, _, _, _⟩) rfl (by kernel_rfl) (by kernel_rfl) (by kernel_rfl) (fun _ _ _ h => h) (by rfl) (v := ?_) (fun w hSw => ?_) hS (fun hS => ?_)
      rotate_left
      · go_simp; try with_reducible rfl
      try go_frame
      refine held_pure (i := 5) (oi := ⟨some 35, _, _, _, _, _⟩) rfl (by kernel_rfl) (by kernel_rfl) (by kernel_rfl) (fun _ _ _ h => h) (by rfl) (v := ?_) (fun w hSw => ?_) hS (fun hS => ?_)
      rotate_left
      · go_simp; try with_reducible rfl
      try go_frame
      refine wpAnyH_ready (rs := [6]) (by kernel_rfl) (by simp) (AllReadyH.cons (o := ⟨some 36, _, _, _, _, _⟩) rfl (fun K hK => ?_) AllReadyH.nil)
      rw [if_pos (by rfl)]
      go_simp
      refine (equal_same P1 P2 (res6 x0) _ _ _ _ _ (f1.below (hS.mono (by omega))) (f2.below (hS.mono (by omega)))).mono ?_
      rintro e w6 ⟨rfl, rfl⟩
      show K _ _
      refine hK.out _ _ hS (fun hS => ?_)
      clear hK K
      try go_frame
      refine held_pure (i := 7) (oi := ⟨some 37, _, _, _, _, _⟩) rfl (by kernel_rfl) (by kernel_rfl) (by kernel_rfl) (fun _ _ _ h => h) (by rfl) (v := ?_) (fun w hSw => ?_) hS (fun hS => ?_)
      rotate_left
      · go_simp; try with_reducible rfl
      try go_frame
      refine held_pure (i := 8) (oi := ⟨some 38, _, _, _, _, _⟩) rfl (by kernel_rfl) (by kernel_rfl) (by kernel_rfl) (fun _ _ _ h => h) (by rfl) (v := ?_) (fun w hSw => ?_) hS (fun hS => ?_)
      rotate_left
      · go_simp; try with_reducible rfl
      try go_frame
      refine held_pure (i := 9) (oi := ⟨some 39, _, _, _, _, _⟩) rfl (by kernel_rfl) (by kernel_rfl) (by kernel_rfl) (fun _ _ _ h => h) (by rfl) (fun w hSw => run_load_v6 rfl rfl (at0.below hSw (by omega)) (v6l_len s0 e0)) hS (fun hS => ?_)
      try go_frame
      refine held_pure (i := 11) (oi := ⟨some 41, _, _, _, _, _⟩) rfl (by kernel_rfl) (by kernel_rfl) (by kernel_rfl) (fun _ _ _ h => h) (by rfl) (fun w hSw => run_load_v6 rfl rfl (at0.below hSw (by omega)) (v6l_len s0 e0)) hS (fun hS => ?_)
      try go_frame
      refine wpAnyH_ready (rs := [10]) (by kernel_rfl) (by simp) (AllReadyH.cons (o := ⟨some 40, _, _, _, _, _⟩) rfl (fun K hK => ?_) AllReadyH.nil)
      rw [if_pos (by rfl)]
      go_simp
      refine (c6size x0 A0 c0 _ s0 e0 (by omega)).mono ?_
      rintro e w10 ⟨rfl, x10⟩
      show K _ _
      refine hK.out _ _ (below_step hS x10) (fun hS => ?_)
      clear hK K
      try go_frame
      refine wpAnyH_ready (rs := [12]) (by kernel_rfl) (by simp) (AllReadyH.cons (o := ⟨some 42, _, _, _, _, _⟩) rfl (fun K hK => ?_) AllReadyH.nil)
      rw [if_pos (by rfl)]
      go_simp
      refine (r6size x0 A0 c0 _ s0 e0 (by omega)).mono ?_
      rintro e w12 ⟨rfl, x12⟩
      show K _ _
      refine hK.out _ _ (below_step hS x12) (fun hS => ?_)
      clear hK K
      try go_frame
      refine held_pure (i := 13) (oi := ⟨some 43, _, _, _, _, _⟩) rfl (by kernel_rfl) (by kernel_rfl) (by kernel_rfl) (fun _ _ _ h => h) (by rfl) (v := ?_) (fun w hSw => ?_) hS (fun hS => ?_)
      rotate_left
      · go_simp; try with_reducible rfl
      try go_frame
      refine held_pure (i := 14) (oi := ⟨some 44, _, _, _, _, _⟩) rfl (by kernel_rfl) (by kernel_rfl) (by kernel_rfl) (fun _ _ _ h => h) (by rfl) (v := ?_) (fun w hSw => ?_) hS (fun hS => ?_)
      rotate_left
      · go_simp; try with_reducible rfl
      try go_frame
      refine held_pure (i := 15) (oi := ⟨some 45, _, _, _, _, _⟩) rfl (by kernel_rfl) (by kernel_rfl) (by kernel_rfl) (fun _ _ _ h => h) (by rfl) (v := ?_) (fun w hSw => ?_) hS (fun hS => ?_)
      rotate_left
      · go_simp; try with_reducible rfl
      try go_frame
      refine held_pure (i := 16) (oi := ⟨some 46, _, _, _, _, _⟩) rfl (by kernel_rfl) (by kernel_rfl) (by kernel_rfl) (fun _ _ _ h => h) (by rfl) (fun w hSw => run_load_v6 rfl rfl (at0.below hSw (by omega)) (v6l_len s0 e0)) hS (fun hS => ?_)
      try go_frame
      refine held_pure (i := 18) (oi := ⟨some 48, _, _, _, _, _⟩) rfl (by kernel_rfl) (by kernel_rfl) (by kernel_rfl) (fun _ _ _ h => h) (by rfl) (fun w hSw => run_load_v6 rfl rfl (at0.below hSw (by omega)) (v6l_len s0 e0)) hS (fun hS => ?_)
      try go_frame
      refine wpAnyH_ready (rs := [17]) (by kernel_rfl) (by simp) (AllReadyH.cons (o := ⟨some 47, _, _, _, _, _⟩) rfl (fun K hK => ?_) AllReadyH.nil)
      rw [if_pos (by rfl)]
      go_simp
      refine (c6check x0 A0 c0 _ s0 e0 (by omega)).mono ?_
      rintro e w17 ⟨rfl, x17⟩
      show K _ _
      refine hK.out _ _ (below_step hS x17) (fun hS => ?_)
      clear hK K
      try go_frame
      refine wpAnyH_ready (rs := [19]) (by kernel_rfl) (by simp) (AllReadyH.cons (o := ⟨some 49, _, _, _, _, _⟩) rfl (fun K hK => ?_) AllReadyH.nil)
      rw [if_pos (by rfl)]
      go_simp
      refine (r6check x0 A0 c0 _ s0 e0 (by omega)).mono ?_
      rintro e w19 ⟨rfl, x19⟩
      show K _ _
      refine hK.out _ _ (below_step hS x19) (fun hS => ?_)
      clear hK K
      try go_frame
      refine held_pure (i := 20) (oi := ⟨some 50, _, _, _, _, _⟩) rfl (by kernel_rfl) (by kernel_rfl) (by kernel_rfl) (fun _ _ _ h => h) (by rfl) (v := ?_) (fun w hSw => ?_) hS (fun hS => ?_)
      rotate_left
      · go_simp; try with_reducible rfl
      try go_frame
      refine held_pure (i := 21) (oi := ⟨some 51, _, _, _, _, _⟩) rfl (by kernel_rfl) (by kernel_rfl) (by kernel_rfl) (fun _ _ _ h => h) (by rfl) (v := ?_) (fun w hSw => ?_) hS (fun hS => ?_)
      rotate_left
      · go_simp; try with_reducible rfl
      try go_frame
      refine held_pure (i := 22) (oi := ⟨some 52, _, _, _, _, _⟩) rfl (by kernel_rfl) (by kernel_rfl) (by kernel_rfl) (fun _ _ _ h => h) (by rfl) (v := ?_) (fun w hSw => ?_) hS (fun hS => ?_)
      rotate_left
      · go_simp; try with_reducible rfl
      try go_frame
      refine held_pure (i := 23) (oi := ⟨some 53, _, _, _, _, _⟩) rfl (by kernel_rfl) (by kernel_rfl) (by kernel_rfl) (fun _ _ _ h => h) (by rfl) (fun w hSw => run_load_v6 rfl rfl (at0.below hSw (by omega)) (v6l_len s0 e0)) hS (fun hS => ?_)
      try go_frame
      refine held_pure (i := 24) (oi := ⟨some 54, _, _, _, _, _⟩) rfl (by kernel_rfl) (by kernel_rfl) (by kernel_rfl) (fun _ _ _ h => h) (by rfl) (fun w hSw => run_load_v6 rfl rfl (at1.below hSw (by omega)) (v6l_len s1 e1)) hS (fun hS => ?_)
      try go_frame
      refine held_pure (i := 26) (oi := ⟨some 56, _, _, _, _, _⟩) rfl (by kernel_rfl) (by kernel_rfl) (by kernel_rfl) (fun _ _ _ h => h) (by rfl) (fun w hSw => run_load_v6 rfl rfl (at0.below hSw (by omega)) (v6l_len s0 e0)) hS (fun hS => ?_)
      try go_frame
      refine held_pure (i := 27) (oi := ⟨some 57, _, _, _, _, _⟩) rfl (by kernel_rfl) (by kernel_rfl) (by kernel_rfl) (fun _ _ _ h => h) (by rfl) (fun w hSw => run_load_v6 rfl rfl (at1.below hSw (by omega)) (v6l_len s1 e1)) hS (fun hS => ?_)
      try go_frame
      refine wpAnyH_ready (rs := [25]) (by kernel_rfl) (by simp) (AllReadyH.cons (o := ⟨some 55, _, _, _, _, _⟩) rfl (fun K hK => ?_) AllReadyH.nil)
      rw [if_pos (by rfl)]
      go_simp
      refine (c6same x0 x1 A0 c0 A1 c1 w.heap.size _ s0 e0 s1 e1 ((qx.trans (hS.mono qx.size))).size (h0.below (qx.trans (hS.mono qx.size))).rd (h1.below (qx.trans (hS.mono qx.size))).rd).mono ?_
      rintro e w25 ⟨rfl, x25⟩
      show K _ _
      refine hK.out _ _ (below_step hS x25) (fun hS => ?_)
      clear hK K
      try go_frame
      refine wpAnyH_ready (rs := [28]) (by kernel_rfl) (by simp) (AllReadyH.cons (o := ⟨some 58, _, _, _, _, _⟩) rfl (fun K hK => ?_) AllReadyH.nil)
      rw [if_pos (by rfl)]
      go_simp
      refine (r6same x0 x1 A0 c0 A1 c1 w.heap.size _ s0 e0 s1 e1 ((qx.trans (hS.mono qx.size))).size (h0.below (qx.trans (hS.mono qx.size))).rd (h1.below (qx.trans (hS.mono qx.size))).rd).mono ?_
      rintro e w28 ⟨rfl, x28⟩
      show K _ _
      refine hK.out _ _ (below_step hS x28) (fun hS => ?_)
      clear hK K
      try go_frame
      refine held_pure (i := 29) (oi := ⟨some 59, _, _, _, _, _⟩) rfl (by kernel_rfl) (by kernel_rfl) (by kernel_rfl) (fun _ _ _ h => h) (by rfl) (v := ?_) (fun w hSw => ?_) hS (fun hS => ?_)
      rotate_left
      · go_simp; try with_reducible rfl
      try go_frame
      refine held_pure (i := 30) (oi := ⟨some 60, _, _, _, _, _⟩) rfl (by kernel_rfl) (by kernel_rfl) (by kernel_rfl) (fun _ _ _ h => h) (by rfl) (v := ?_) (fun w hSw => ?_) hS (fun hS => ?_)
      rotate_left
      · go_simp; try with_reducible rfl
      try go_frame
      refine held_pure (i := 31) (oi := ⟨some 61, _, _, _, _, _⟩) rfl (by kernel_rfl) (by kernel_rfl) (by kernel_rfl) (fun _ _ _ h => h) (by rfl) (v := ?_) (fun w hSw => ?_) hS (fun hS => ?_)
      rotate_left
      · go_simp; try with_reducible rfl
      try go_frame
      refine wpAnyH_ready (rs := [32]) (by kernel_rfl) (by simp) (AllReadyH.cons (o := ⟨some 62, _, _, _, _, _⟩) rfl (fun K hK => ?_) AllReadyH.nil)
      rw [if_pos (by rfl)]
      go_simp
      refine (awake6_any _).mono ?_
      rintro e w32 ⟨rfl, x32⟩
      show K _ _
      refine hK.out _ _ (below_step hS x32) (fun hS => ?_)
      clear hK K
      try go_frame
      refine held_pure (i := 33) (oi := ⟨some 63, _, _, _, _, _⟩) rfl (by kernel_rfl) (by kernel_rfl) (by kernel_rfl) (fun _ _ _ h => h) (by rfl) (v := ?_) (fun w hSw => ?_) hS (fun hS => ?_)
      rotate_left
      · go_simp; try with_reducible rfl
      try go_frame
      refine held_pure (i := 34) (oi := ⟨some 4, _, _, _, _, _⟩) rfl (by kernel_rfl) (by kernel_rfl) (by kernel_rfl) (fun _ _ _ h => h) (by rfl) (v := ?_) (fun w hSw => ?_) hS (fun hS => ?_)
      rotate_left
      · go_simp; try with_reducible rfl
      try go_frame
      refine wpAnyH_done (by kernel_rfl) ?_ _
      go_wp2_with fail
      go_ret
      exact ⟨rfl, qx.trans (hS.mono qx.size)⟩

/-! ### The row's step -/
set_option maxRecDepth 100000 in
theorem lifted (os : Os) (started : os.Started) (H : Type) (enc : TypeId × Value → H) :
    ReturnsInHanded {} Try.checked os 7 .any (Rows.v6BuildsSpec.pre6 enc Try.prog Try.f7 Rows.v6BuildsRow.domain false) (Rows.v6BuildsSpec.post enc Try.prog Try.f7 false true false false) := by
  refine returnsInHanded_of_change (C := Try.checked) own started (by kernel_rfl) Try.func7
    (ChangeSpec.witness6 (enc := enc) (C := Try.checked) false ⟨#[], #[.agg #[.int .i64 0, .int .i64 0, .int .i64 0, .int .i64 0, .int .u8 0, .int .u8 0, .int .u8 0, .int .u8 0, .int .u8 0, .int .u8 0, .int .u8 0, .int .u8 0, .int .u8 0, .int .u8 0, .int .u8 0, .int .u8 0, .int .u8 0, .int .u8 0, .int .u8 0, .int .u8 0, .int .u8 0, .int .u8 0, .int .u8 0, .int .u8 0, .int .u8 0, .int .u8 0, .int .u8 0, .int .u8 0, .int .u8 0, .int .u8 0, .int .u8 0, .int .u8 0, .int .u8 0, .int .u8 0, .int .u8 0, .int .u8 0, .slice none 0 0], .agg #[.int .i64 0, .int .i64 0, .int .i64 0, .int .i64 0, .int .u8 0, .int .u8 0, .int .u8 0, .int .u8 0, .int .u8 0, .int .u8 0, .int .u8 0, .int .u8 0, .int .u8 0, .int .u8 0, .int .u8 0, .int .u8 0, .int .u8 0, .int .u8 0, .int .u8 0, .int .u8 0, .int .u8 0, .int .u8 0, .int .u8 0, .int .u8 0, .int .u8 0, .int .u8 0, .int .u8 0, .int .u8 0, .int .u8 0, .int .u8 0, .int .u8 0, .int .u8 0, .int .u8 0, .int .u8 0, .int .u8 0, .int .u8 0, .slice none 0 0]], []⟩ 8 (by kernel_rfl) (by kernel_rfl) (by kernel_rfl) (by kernel_rfl)) ?_
  intro W base args ds gs before hval0 hW hcnd _
  have hval : ∀ (j : Nat) t v, Try.f7.params[j]? = some t → args[j]? = some v → Value.okWide Try.prog W .any base t v := hval0
  have hW' := hW
  obtain ⟨p, q, hA0, hV, rfl, hfz, hnd⟩ := hW
  have hA : DataW.TrodAll enc Try.prog W 0 (fun _ => true) true Try.f7.params.toList args.toList ds p := hA0
  rw [Try.params7] at hA hval
  obtain ⟨v0, vs0, d0, ds0, p0, q0, hargs, rfl, rfl, t0, r0⟩ := trodAll_cons hA
  obtain ⟨v1, vs1, d1, ds1, p1, q1, rfl, rfl, rfl, t1, r1⟩ := trodAll_cons r0
  obtain ⟨rfl, rfl, rfl⟩ := trodAll_nil r1
  obtain rfl : args = #[v0, v1] := by cases args; simp_all
  obtain ⟨rfl, rfl⟩ := trodVars_none hV
  have k0 := t0
  have lt0 := Trod_lt t0
  have k1 := t1
  have lt1 := Trod_lt t1
  obtain ⟨x0, A0, c0, rfl, h0, m0, w0, s0, e0⟩ := get_v6 (hval 0 44 v0 rfl rfl) t0
  obtain ⟨x1, A1, c1, rfl, h1, m1, w1, s1, e1⟩ := get_v6 (hval 1 44 v1 rfl rfl) t1
  clear hA0 hval0
  refine (walk x0 A0 c0 x1 A1 c1 W h0 m0 w0 s0 e0 h1 m1 w1 s1 e1).mono fun e W' ⟨he, bel⟩ => ?_
  subst he
  exact ⟨_, rfl, _, _, _, [], _, [], hW', trodAll_mk1 (shut_bool Try.underlying4 _), (trodAll_cons_mk (Below.trod laidOut (by kernel_rfl) (of_decide_eq_true (by kernel_rfl)) k0 bel lt0) (trodAll_cons_mk (Below.trod laidOut (by kernel_rfl) (of_decide_eq_true (by kernel_rfl)) k1 bel lt1) trodAll_mk0)), rfl, bel.frame _, fun h => by cases h⟩

theorem over : Rows.v6BuildsRow.holds Try.pinned (OpenSpec.ofChange Rows.v6BuildsSpec) :=
  OpenClaim.holds_of_wide 7 Try.f7 rfl rfl rfl rfl rfl rfl rfl ⟨rfl, rfl, rfl, rfl, rfl⟩ rfl rfl rfl rfl rfl (by kernel_rfl) Try.func7 (by kernel_rfl)
    (of_decide_eq_true (by kernel_rfl)) (by unfold Func.isWrapper; first | (rw [if_pos (by decide +kernel)]; kernel_rfl) | (rw [if_neg (by decide +kernel)]; exact ⟨rfl, rfl⟩))
    (fun os started H enc _ => lifted os started H enc)

theorem proved : Rows.V6BuildsSaid := over
end Go.Proofs.Ytcfcmnhnijjehaa.v6Builds
