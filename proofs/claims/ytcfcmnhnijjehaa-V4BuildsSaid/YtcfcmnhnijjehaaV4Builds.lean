/-
  For every two packets of IPv4, goosepondlaw05.V4Builds answers true: any packet's bytes are what the document says, or refused.
  Conditions: none but the statement's own.
-/
import Derived.Test.YtcfcmnhnijjehaaRows
import Derived.WalkKit
import Derived.ProofKit
import Derived.OpenShut
import Derived.ChangeOld
import Derived.Below
import Derived.Test.YtcfcmnhnijjehaaOpen
import Derived.Test.YtcfcmnhnijjehaaV4I
import Derived.Test.YtcfcmnhnijjehaaV4W
import Derived.Test.YtcfcmnhnijjehaaV4T
import Derived.Test.YtcfcmnhnijjehaaV4S
import Derived.Test.YtcfcmnhnijjehaaV4R
namespace Go.Proofs.Ytcfcmnhnijjehaa.v4Builds
open Go.ChangeShapes Go.WideShapes Go.ChangeAt Go.RowKit
set_option linter.unusedVariables false
attribute [local go_sem] Oper.semAt_some

theorem own : ownKnob Try.prog.godebug = none := by kernel_rfl
theorem laidOut : laidOutB Try.prog = true := by kernel_rfl

/-! ### The walk -/
set_option maxRecDepth 100000 in
set_option maxHeartbeats 4000000 in
theorem walk (x0 : P4) (A0 : Option Addr) (c0 : Nat) (A0' : Option Addr) (c0' : Nat) (x1 : P4) (A1 : Option Addr) (c1 : Nat) (A1' : Option Addr) (c1' : Nat) (w : World) (h0 : Arg w w.heap.size A0 c0 x0.opt) (h0' : Arg w w.heap.size A0' c0' x0.dat) (m0 : c0 ≤ maxLen) (m0' : c0' ≤ maxLen) (w0 : x0.fits) (h1 : Arg w w.heap.size A1 c1 x1.opt) (h1' : Arg w w.heap.size A1' c1' x1.dat) (m1 : c1 ≤ maxLen) (m1' : c1' ≤ maxLen) (w1 : x1.fits) :
    Calls Try.prog 3 #[v4v x0 A0 c0 A0' c0', v4v x1 A1 c1 A1' c1'] w fun e w' => e = .returned (.bool true) ∧ Below w.heap.size w w' := by
  have hB0 : Below w.heap.size w ((w.alloc (.cells (v4a x0 A0 c0 A0' c0') 24)).alloc (.cells (v4a x1 A1 c1 A1' c1') 24)) := below_two w _ _
  have hAt : At4 ((w.alloc (.cells (v4a x0 A0 c0 A0' c0') 24)).alloc (.cells (v4a x1 A1 c1 A1' c1') 24)) w.heap.size x0 A0 c0 A0' c0' := (At4.new w).below ((Below.refl (w.heap.size + 1) _).alloc (by simp) _) (by omega)
  have hAt2 : At4 ((w.alloc (.cells (v4a x0 A0 c0 A0' c0') 24)).alloc (.cells (v4a x1 A1 c1 A1' c1') 24)) (w.heap.size + 1) x1 A1 c1 A1' c1' := by
    have := At4.new (q := x1) (A := A1) (c := c1) (A' := A1') (c' := c1') (w.alloc (.cells (v4a x0 A0 c0 A0' c0') 24))
    rwa [show (w.alloc (.cells (v4a x0 A0 c0 A0' c0') 24)).heap.size = w.heap.size + 1 from by simp] at this
  have hzF : w.heap.size + 1 < ((w.alloc (.cells (v4a x0 A0 c0 A0' c0') 24)).alloc (.cells (v4a x1 A1 c1 A1' c1') 24)).heap.size := by simp
  unfold v4v
  rw [show #[Value.int .i64 x0.tos, .int .i64 x0.id, .int .i64 x0.off, .int .i64 x0.ttl, .int .i64 x0.proto, .int .i64 x0.src, .int .i64 x0.dst, .bool x0.df, .bool x0.mf, .slice A0 x0.opt.length c0, .slice A0' x0.dat.length c0'] = v4a x0 A0 c0 A0' c0' from rfl, show #[Value.int .i64 x1.tos, .int .i64 x1.id, .int .i64 x1.off, .int .i64 x1.ttl, .int .i64 x1.proto, .int .i64 x1.src, .int .i64 x1.dst, .bool x1.df, .bool x1.mf, .slice A1 x1.opt.length c1, .slice A1' x1.dat.length c1'] = v4a x1 A1 c1 A1' c1' from rfl]
  go_enter Try.func3, Try.ntmps3
  go_upto_region 1 with fail
  generalize (w.alloc (.cells (v4a x0 A0 c0 A0' c0') 24)).alloc (.cells (v4a x1 A1 c1 A1' c1') 24) = W at *
  have hz0 : w.heap.size < W.heap.size := by omega
  rcases hf0 : (decide (3000 < x0.dat.length) || decide (200 < x0.opt.length)) with _ | _
  · have HF0 := Lib.hid hf0
    have hd0 : x0.dat.length ≤ 3000 := by simp at hf0; omega
    have ho0 : x0.opt.length ≤ 200 := by simp at hf0; omega
    clear hf0
    rcases hf1 : (decide (3000 < x1.dat.length) || decide (200 < x1.opt.length)) with _ | _
    · have HF1 := Lib.hid hf1
      clear hf1
      go_upto_region 3 with (first
        | ((with_reducible show wpList _ _ _ (Oper.mk _ (Op.load 24 _) _ _ _ _ :: _) _ _); refine wpList_valw (by rfl) (run_load_v4 rfl rfl hAt rfl) ?_)
        | (go_at_call 11; with_reducible refine (far_arr x0 A0 c0 A0' c0' _).mono ?_; rintro e w1 ⟨rfl, y1⟩; rw [HF0.out]; have hAtb := hAt2.below y1 (by omega))
        | ((with_reducible show wpList _ _ _ (Oper.mk _ (Op.load 24 _) _ _ _ _ :: _) _ _); refine wpList_valw (by rfl) (run_load_v4 rfl rfl hAtb rfl) ?_)
        | (go_at_call 11; with_reducible refine (far_arr x1 A1 c1 A1' c1' _).mono ?_; rintro e w2 ⟨rfl, y2⟩; rw [HF1.out]))
      have yW := y1.trans (y2.mono y1.size)
      have hAt0 := hAt.below yW hz0
      have q0 := hB0.trans (yW.mono hB0.size)
      go_upto_region 4 with (first
        | ((with_reducible show wpList _ _ _ (Oper.mk _ (Op.load 24 _) _ _ _ _ :: _) _ _); refine wpList_valw (by rfl) (run_load_v4 rfl rfl hAt0 rfl) ?_)
        | (go_at_call 13; refine (c4build x0 A0 c0 A0' c0' _ w.heap.size (h0.below q0) (h0'.below q0) q0.size (by omega) (by omega)).mono ?_; rintro e w3 ⟨v1, rfl, n1⟩; obtain ⟨P1, k1, rfl, g1, y3⟩ := res4_shape n1))
      have hAt1 := hAt0.below y3 (by have := yW.size; omega)
      have q1 := q0.trans (y3.mono q0.size)
      go_upto_region 5 with (first
        | ((with_reducible show wpList _ _ _ (Oper.mk _ (Op.load 24 _) _ _ _ _ :: _) _ _); refine wpList_valw (by rfl) (run_load_v4 rfl rfl hAt1 rfl) ?_)
        | (go_at_call 14; refine (r5build x0 A0 c0 A0' c0' _ w.heap.size (h0.below q1) (h0'.below q1) q1.size (by omega) (by omega)).mono ?_; rintro e X ⟨v2, rfl, n2⟩; obtain ⟨P2, k2, rfl, f2, y4⟩ := res4_shape n2))
      have qx : Below w.heap.size w X := q1.trans (y4.mono q1.size)
      have x12 := yW.trans ((y3.trans (y4.mono y3.size)).mono yW.size)
      have at0 := hAt.below x12 (by omega)
      have at1 := hAt2.below x12 (by omega)
      have f1 := g1.below y4
      have zX := x12.size
      have z12 := y4.size
      have hx1 : w.heap.size + 1 < X.heap.size := by omega
      clear n1 n2 g1 hAt hAt2 hAt0 hAt1 hAtb y1 y2 y3 y4 q0 q1 x12 yW
      refine wp_region_held_drew (S := fun w' => Below X.heap.size X w') (by kernel_rfl) (Below.refl _ X).drew (fun hS => ?_)
      refine held_pure (i := 0) (oi := ⟨some 27, _, _, _, _, _⟩) rfl (by kernel_rfl) (by kernel_rfl) (by kernel_rfl) (fun _ _ _ h => h) (by rfl) (fun w hSw => run_load_v4 rfl rfl (at0.below hSw (by omega)) rfl) hS (fun hS => ?_)
      try go_frame
      refine held_pure (i := 2) (oi := ⟨some 29, _, _, _, _, _⟩) rfl (by kernel_rfl) (by kernel_rfl) (by kernel_rfl) (fun _ _ _ h => h) (by rfl) (fun w hSw => run_load_v4 rfl rfl (at0.below hSw (by omega)) rfl) hS (fun hS => ?_)
      try go_frame
      refine wpAnyH_ready (rs := [1]) (by kernel_rfl) (by simp) (AllReadyH.cons (o := ⟨some 28, _, _, _, _, _⟩) rfl (fun K hK => ?_) AllReadyH.nil)
      rw [if_pos (by rfl)]
      go_simp
      refine (c4head x0 A0 c0 A0' c0' _ (by omega)).mono ?_
      rintro e u1 ⟨rfl, z1⟩
      show K _ _
      refine hK.out _ _ (below_step hS z1) (fun hS => ?_)
      clear hK K
      try go_frame
      refine wpAnyH_ready (rs := [3]) (by kernel_rfl) (by simp) (AllReadyH.cons (o := ⟨some 30, _, _, _, _, _⟩) rfl (fun K hK => ?_) AllReadyH.nil)
      rw [if_pos (by rfl)]
      go_simp
      refine (r5head x0 A0 c0 A0' c0' _ (by omega)).mono ?_
      rintro e u3 ⟨rfl, z3⟩
      show K _ _
      refine hK.out _ _ (below_step hS z3) (fun hS => ?_)
      clear hK K
      try go_frame
      refine held_pure (i := 4) (oi := ⟨some 31, _, _, _, _, _⟩) rfl (by kernel_rfl) (by kernel_rfl) (by kernel_rfl) (fun _ _ _ h => h) (by rfl) (v := ?_) (fun w hSw => ?_) hS (fun hS => ?_)
      rotate_left
      · go_simp; try with_reducible rfl
      try go_frame
      refine held_pure (i := 5) (oi := ⟨some 32, _, _, _, _, _⟩) rfl (by kernel_rfl) (by kernel_rfl) (by kernel_rfl) (fun _ _ _ h => h) (by rfl) (v := ?_) (fun w hSw => ?_) hS (fun hS => ?_)
      rotate_left
      · go_simp; try with_reducible rfl
      try go_frame
      refine held_pure (i := 6) (oi := ⟨some 33, _, _, _, _, _⟩) rfl (by kernel_rfl) (by kernel_rfl) (by kernel_rfl) (fun _ _ _ h => h) (by rfl) (fun w hSw => run_load_v4 rfl rfl (at0.below hSw (by omega)) rfl) hS (fun hS => ?_)
      try go_frame
      refine held_pure (i := 8) (oi := ⟨some 35, _, _, _, _, _⟩) rfl (by kernel_rfl) (by kernel_rfl) (by kernel_rfl) (fun _ _ _ h => h) (by rfl) (fun w hSw => run_load_v4 rfl rfl (at0.below hSw (by omega)) rfl) hS (fun hS => ?_)
      try go_frame
      refine wpAnyH_ready (rs := [7]) (by kernel_rfl) (by simp) (AllReadyH.cons (o := ⟨some 34, _, _, _, _, _⟩) rfl (fun K hK => ?_) AllReadyH.nil)
      rw [if_pos (by rfl)]
      go_simp
      refine (c4size x0 A0 c0 A0' c0' _ (by omega) (by omega)).mono ?_
      rintro e u7 ⟨rfl, z7⟩
      show K _ _
      refine hK.out _ _ (below_step hS z7) (fun hS => ?_)
      clear hK K
      try go_frame
      refine wpAnyH_ready (rs := [9]) (by kernel_rfl) (by simp) (AllReadyH.cons (o := ⟨some 36, _, _, _, _, _⟩) rfl (fun K hK => ?_) AllReadyH.nil)
      rw [if_pos (by rfl)]
      go_simp
      refine (r5size x0 A0 c0 A0' c0' _ (by omega) (by omega)).mono ?_
      rintro e u9 ⟨rfl, z9⟩
      show K _ _
      refine hK.out _ _ (below_step hS z9) (fun hS => ?_)
      clear hK K
      try go_frame
      refine held_pure (i := 10) (oi := ⟨some 37, _, _, _, _, _⟩) rfl (by kernel_rfl) (by kernel_rfl) (by kernel_rfl) (fun _ _ _ h => h) (by rfl) (v := ?_) (fun w hSw => ?_) hS (fun hS => ?_)
      rotate_left
      · go_simp; try with_reducible rfl
      try go_frame
      refine held_pure (i := 11) (oi := ⟨some 38, _, _, _, _, _⟩) rfl (by kernel_rfl) (by kernel_rfl) (by kernel_rfl) (fun _ _ _ h => h) (by rfl) (v := ?_) (fun w hSw => ?_) hS (fun hS => ?_)
      rotate_left
      · go_simp; try with_reducible rfl
      try go_frame
      refine held_pure (i := 12) (oi := ⟨some 39, _, _, _, _, _⟩) rfl (by kernel_rfl) (by kernel_rfl) (by kernel_rfl) (fun _ _ _ h => h) (by rfl) (v := ?_) (fun w hSw => ?_) hS (fun hS => ?_)
      rotate_left
      · go_simp; try with_reducible rfl
      try go_frame
      refine held_pure (i := 13) (oi := ⟨some 40, _, _, _, _, _⟩) rfl (by kernel_rfl) (by kernel_rfl) (by kernel_rfl) (fun _ _ _ h => h) (by rfl) (fun w hSw => run_load_v4 rfl rfl (at0.below hSw (by omega)) rfl) hS (fun hS => ?_)
      try go_frame
      refine held_pure (i := 15) (oi := ⟨some 42, _, _, _, _, _⟩) rfl (by kernel_rfl) (by kernel_rfl) (by kernel_rfl) (fun _ _ _ h => h) (by rfl) (fun w hSw => run_load_v4 rfl rfl (at0.below hSw (by omega)) rfl) hS (fun hS => ?_)
      try go_frame
      refine wpAnyH_ready (rs := [14]) (by kernel_rfl) (by simp) (AllReadyH.cons (o := ⟨some 41, _, _, _, _, _⟩) rfl (fun K hK => ?_) AllReadyH.nil)
      rw [if_pos (by rfl)]
      go_simp
      refine (c4whole x0 A0 c0 A0' c0' _).mono ?_
      rintro e u14 ⟨rfl, z14⟩
      show K _ _
      refine hK.out _ _ (below_step hS z14) (fun hS => ?_)
      clear hK K
      try go_frame
      refine wpAnyH_ready (rs := [16]) (by kernel_rfl) (by simp) (AllReadyH.cons (o := ⟨some 43, _, _, _, _, _⟩) rfl (fun K hK => ?_) AllReadyH.nil)
      rw [if_pos (by rfl)]
      go_simp
      refine (r5whole x0 A0 c0 A0' c0' _).mono ?_
      rintro e u16 ⟨rfl, z16⟩
      show K _ _
      refine hK.out _ _ (below_step hS z16) (fun hS => ?_)
      clear hK K
      try go_frame
      refine held_pure (i := 17) (oi := ⟨some 44, _, _, _, _, _⟩) rfl (by kernel_rfl) (by kernel_rfl) (by kernel_rfl) (fun _ _ _ h => h) (by rfl) (v := ?_) (fun w hSw => ?_) hS (fun hS => ?_)
      rotate_left
      · go_simp; try with_reducible rfl
      try go_frame
      refine held_pure (i := 18) (oi := ⟨some 45, _, _, _, _, _⟩) rfl (by kernel_rfl) (by kernel_rfl) (by kernel_rfl) (fun _ _ _ h => h) (by rfl) (v := ?_) (fun w hSw => ?_) hS (fun hS => ?_)
      rotate_left
      · go_simp; try with_reducible rfl
      try go_frame
      refine held_pure (i := 19) (oi := ⟨some 9, _, _, _, _, _⟩) rfl (by kernel_rfl) (by kernel_rfl) (by kernel_rfl) (fun _ _ _ h => h) (by rfl) (v := ?_) (fun w hSw => ?_) hS (fun hS => ?_)
      rotate_left
      · go_simp; try with_reducible rfl
      try go_frame
      refine wpAnyH_done (by kernel_rfl) ?_ _
      go_wp2_with fail
      refine wp_region_held_drew (S := fun w' => Below X.heap.size X w') (by kernel_rfl) hS.drew (fun hS => ?_)
      refine held_pure (i := 0) (oi := ⟨some 46, _, _, _, _, _⟩) rfl (by kernel_rfl) (by kernel_rfl) (by kernel_rfl) (fun _ _ _ h => h) (by rfl) (v := ?_) (fun w hSw => ?_) hS (fun hS => ?_)
      rotate_left
      · go_simp; try with_reducible rfl
      try go_frame
      refine held_pure (i := 1) (oi := ⟨some 47, _, _, _, _, _⟩) rfl (by kernel_rfl) (by kernel_rfl) (by kernel_rfl) (fun _ _ _ h => h) (by rfl) (v := ?_) (fun w hSw => ?_) hS (fun hS => ?_)
      rotate_left
      · go_simp; try with_reducible rfl
      try go_frame
      refine held_pure (i := 2) (oi := ⟨some 48, _, _, _, _, _⟩) rfl (by kernel_rfl) (by kernel_rfl) (by kernel_rfl) (fun _ _ _ h => h) (by rfl) (v := ?_) (fun w hSw => ?_) hS (fun hS => ?_)
      rotate_left
      · go_simp; try with_reducible rfl
      try go_frame
      refine held_pure (i := 3) (oi := ⟨some 49, _, _, _, _, _⟩) rfl (by kernel_rfl) (by kernel_rfl) (by kernel_rfl) (fun _ _ _ h => h) (by rfl) (v := ?_) (fun w hSw => ?_) hS (fun hS => ?_)
      rotate_left
      · go_simp; try with_reducible rfl
      try go_frame
      refine held_pure (i := 4) (oi := ⟨some 50, _, _, _, _, _⟩) rfl (by kernel_rfl) (by kernel_rfl) (by kernel_rfl) (fun _ _ _ h => h) (by rfl) (v := ?_) (fun w hSw => ?_) hS (fun hS => ?_)
      rotate_left
      · go_simp; try with_reducible rfl
      try go_frame
      refine held_pure (i := 5) (oi := ⟨some 51, _, _, _, _, _⟩) rfl (by kernel_rfl) (by kernel_rfl) (by kernel_rfl) (fun _ _ _ h => h) (by rfl) (v := ?_) (fun w hSw => ?_) hS (fun hS => ?_)
      rotate_left
      · go_simp; try with_reducible rfl
      try go_frame
      refine wpAnyH_ready (rs := [6]) (by kernel_rfl) (by simp) (AllReadyH.cons (o := ⟨some 52, _, _, _, _, _⟩) rfl (fun K hK => ?_) AllReadyH.nil)
      rw [if_pos (by rfl)]
      go_simp
      refine (equal_same P1 P2 (res4 x0) _ _ _ _ _ (f1.below (hS.mono (by omega))) (f2.below (hS.mono (by omega)))).mono ?_
      rintro e u6 ⟨rfl, rfl⟩
      show K _ _
      refine hK.out _ _ hS (fun hS => ?_)
      clear hK K
      try go_frame
      refine held_pure (i := 7) (oi := ⟨some 53, _, _, _, _, _⟩) rfl (by kernel_rfl) (by kernel_rfl) (by kernel_rfl) (fun _ _ _ h => h) (by rfl) (v := ?_) (fun w hSw => ?_) hS (fun hS => ?_)
      rotate_left
      · go_simp; try with_reducible rfl
      try go_frame
      refine held_pure (i := 8) (oi := ⟨some 54, _, _, _, _, _⟩) rfl (by kernel_rfl) (by kernel_rfl) (by kernel_rfl) (fun _ _ _ h => h) (by rfl) (v := ?_) (fun w hSw => ?_) hS (fun hS => ?_)
      rotate_left
      · go_simp; try with_reducible rfl
      try go_frame
      refine held_pure (i := 9) (oi := ⟨some 55, _, _, _, _, _⟩) rfl (by kernel_rfl) (by kernel_rfl) (by kernel_rfl) (fun _ _ _ h => h) (by rfl) (v := ?_) (fun w hSw => ?_) hS (fun hS => ?_)
      rotate_left
      · go_simp; try with_reducible rfl
      try go_frame
      refine held_pure (i := 10) (oi := ⟨some 56, _, _, _, _, _⟩) rfl (by kernel_rfl) (by kernel_rfl) (by kernel_rfl) (fun _ _ _ h => h) (by rfl) (v := ?_) (fun w hSw => ?_) hS (fun hS => ?_)
      rotate_left
      · go_simp; try with_reducible rfl
      try go_frame
      refine held_pure (i := 11) (oi := ⟨some 57, _, _, _, _, _⟩) rfl (by kernel_rfl) (by kernel_rfl) (by kernel_rfl) (fun _ _ _ h => h) (by rfl) (v := ?_) (fun w hSw => ?_) hS (fun hS => ?_)
      rotate_left
      · go_simp; try with_reducible rfl
      try go_frame
      refine held_pure (i := 12) (oi := ⟨some 58, _, _, _, _, _⟩) rfl (by kernel_rfl) (by kernel_rfl) (by kernel_rfl) (fun _ _ _ h => h) (by rfl) (fun w hSw => run_load_v4 rfl rfl (at0.below hSw (by omega)) rfl) hS (fun hS => ?_)
      try go_frame
      refine held_pure (i := 14) (oi := ⟨some 60, _, _, _, _, _⟩) rfl (by kernel_rfl) (by kernel_rfl) (by kernel_rfl) (fun _ _ _ h => h) (by rfl) (fun w hSw => run_load_v4 rfl rfl (at0.below hSw (by omega)) rfl) hS (fun hS => ?_)
      try go_frame
      refine wpAnyH_ready (rs := [13]) (by kernel_rfl) (by simp) (AllReadyH.cons (o := ⟨some 59, _, _, _, _, _⟩) rfl (fun K hK => ?_) AllReadyH.nil)
      rw [if_pos (by rfl)]
      go_simp
      refine (c4check x0 A0 c0 A0' c0' _ (by omega) (by omega)).mono ?_
      rintro e u13 ⟨rfl, z13⟩
      show K _ _
      refine hK.out _ _ (below_step hS z13) (fun hS => ?_)
      clear hK K
      try go_frame
      refine wpAnyH_ready (rs := [15]) (by kernel_rfl) (by simp) (AllReadyH.cons (o := ⟨some 61, _, _, _, _, _⟩) rfl (fun K hK => ?_) AllReadyH.nil)
      rw [if_pos (by rfl)]
      go_simp
      refine (r5check x0 A0 c0 A0' c0' _ (by omega) (by omega)).mono ?_
      rintro e u15 ⟨rfl, z15⟩
      show K _ _
      refine hK.out _ _ (below_step hS z15) (fun hS => ?_)
      clear hK K
      try go_frame
      refine held_pure (i := 16) (oi := ⟨some 62, _, _, _, _, _⟩) rfl (by kernel_rfl) (by kernel_rfl) (by kernel_rfl) (fun _ _ _ h => h) (by rfl) (v := ?_) (fun w hSw => ?_) hS (fun hS => ?_)
      rotate_left
      · go_simp; try with_reducible rfl
      try go_frame
      refine held_pure (i := 17) (oi := ⟨some 63, _, _, _, _, _⟩) rfl (by kernel_rfl) (by kernel_rfl) (by kernel_rfl) (fun _ _ _ h => h) (by rfl) (v := ?_) (fun w hSw => ?_) hS (fun hS => ?_)
      rotate_left
      · go_simp; try with_reducible rfl
      try go_frame
      refine held_pure (i := 18) (oi := ⟨some 64, _, _, _, _, _⟩) rfl (by kernel_rfl) (by kernel_rfl) (by kernel_rfl) (fun _ _ _ h => h) (by rfl) (v := ?_) (fun w hSw => ?_) hS (fun hS => ?_)
      rotate_left
      · go_simp; try with_reducible rfl
      try go_frame
      refine held_pure (i := 19) (oi := ⟨some 65, _, _, _, _, _⟩) rfl (by kernel_rfl) (by kernel_rfl) (by kernel_rfl) (fun _ _ _ h => h) (by rfl) (fun w hSw => run_load_v4 rfl rfl (at0.below hSw (by omega)) rfl) hS (fun hS => ?_)
      try go_frame
      refine held_pure (i := 20) (oi := ⟨some 66, _, _, _, _, _⟩) rfl (by kernel_rfl) (by kernel_rfl) (by kernel_rfl) (fun _ _ _ h => h) (by rfl) (fun w hSw => run_load_v4 rfl rfl (at1.below hSw (by omega)) rfl) hS (fun hS => ?_)
      try go_frame
      refine held_pure (i := 22) (oi := ⟨some 68, _, _, _, _, _⟩) rfl (by kernel_rfl) (by kernel_rfl) (by kernel_rfl) (fun _ _ _ h => h) (by rfl) (fun w hSw => run_load_v4 rfl rfl (at0.below hSw (by omega)) rfl) hS (fun hS => ?_)
      try go_frame
      refine held_pure (i := 23) (oi := ⟨some 69, _, _, _, _, _⟩) rfl (by kernel_rfl) (by kernel_rfl) (by kernel_rfl) (fun _ _ _ h => h) (by rfl) (fun w hSw => run_load_v4 rfl rfl (at1.below hSw (by omega)) rfl) hS (fun hS => ?_)
      try go_frame
      refine wpAnyH_ready (rs := [21]) (by kernel_rfl) (by simp) (AllReadyH.cons (o := ⟨some 67, _, _, _, _, _⟩) rfl (fun K hK => ?_) AllReadyH.nil)
      rw [if_pos (by rfl)]
      go_simp
      refine (c4same x0 x1 A0 c0 A0' c0' A1 c1 A1' c1' w.heap.size _ ((qx.trans (hS.mono qx.size))).size (h0.below (qx.trans (hS.mono qx.size))).rd (h0'.below (qx.trans (hS.mono qx.size))).rd (h1.below (qx.trans (hS.mono qx.size))).rd (h1'.below (qx.trans (hS.mono qx.size))).rd).mono ?_
      rintro e u21 ⟨rfl, z21⟩
      show K _ _
      refine hK.out _ _ (below_step hS z21) (fun hS => ?_)
      clear hK K
      try go_frame
      refine wpAnyH_ready (rs := [24]) (by kernel_rfl) (by simp) (AllReadyH.cons (o := ⟨some 70, _, _, _, _, _⟩) rfl (fun K hK => ?_) AllReadyH.nil)
      rw [if_pos (by rfl)]
      go_simp
      refine (r5same x0 x1 A0 c0 A0' c0' A1 c1 A1' c1' w.heap.size _ ((qx.trans (hS.mono qx.size))).size (h0.below (qx.trans (hS.mono qx.size))).rd (h0'.below (qx.trans (hS.mono qx.size))).rd (h1.below (qx.trans (hS.mono qx.size))).rd (h1'.below (qx.trans (hS.mono qx.size))).rd).mono ?_
      rintro e u24 ⟨rfl, z24⟩
      show K _ _
      refine hK.out _ _ (below_step hS z24) (fun hS => ?_)
      clear hK K
      try go_frame
      refine held_pure (i := 25) (oi := ⟨some 71, _, _, _, _, _⟩) rfl (by kernel_rfl) (by kernel_rfl) (by kernel_rfl) (fun _ _ _ h => h) (by rfl) (v := ?_) (fun w hSw => ?_) hS (fun hS => ?_)
      rotate_left
      · go_simp; try with_reducible rfl
      try go_frame
      refine held_pure (i := 26) (oi := ⟨some 72, _, _, _, _, _⟩) rfl (by kernel_rfl) (by kernel_rfl) (by kernel_rfl) (fun _ _ _ h => h) (by rfl) (v := ?_) (fun w hSw => ?_) hS (fun hS => ?_)
      rotate_left
      · go_simp; try with_reducible rfl
      try go_frame
      refine held_pure (i := 27) (oi := ⟨some 73, _, _, _, _, _⟩) rfl (by kernel_rfl) (by kernel_rfl) (by kernel_rfl) (fun _ _ _ h => h) (by rfl) (v := ?_) (fun w hSw => ?_) hS (fun hS => ?_)
      rotate_left
      · go_simp; try with_reducible rfl
      try go_frame
      refine wpAnyH_ready (rs := [28]) (by kernel_rfl) (by simp) (AllReadyH.cons (o := ⟨some 74, _, _, _, _, _⟩) rfl (fun K hK => ?_) AllReadyH.nil)
      rw [if_pos (by rfl)]
      go_simp
      refine (awake5_any _).mono ?_
      rintro e u28 ⟨rfl, z28⟩
      show K _ _
      refine hK.out _ _ (below_step hS z28) (fun hS => ?_)
      clear hK K
      try go_frame
      refine held_pure (i := 29) (oi := ⟨some 75, _, _, _, _, _⟩) rfl (by kernel_rfl) (by kernel_rfl) (by kernel_rfl) (fun _ _ _ h => h) (by rfl) (v := ?_) (fun w hSw => ?_) hS (fun hS => ?_)
      rotate_left
      · go_simp; try with_reducible rfl
      try go_frame
      refine held_pure (i := 30) (oi := ⟨some 4, _, _, _, _, _⟩) rfl (by kernel_rfl) (by kernel_rfl) (by kernel_rfl) (fun _ _ _ h => h) (by rfl) (v := ?_) (fun w hSw => ?_) hS (fun hS => ?_)
      rotate_left
      · go_simp; try with_reducible rfl
      try go_frame
      refine wpAnyH_done (by kernel_rfl) ?_ _
      go_wp2_with fail
      go_ret
      exact ⟨rfl, qx.trans (hS.mono qx.size)⟩
    · have HF1 := Lib.hid hf1
      clear hf1
      go_wp2_with (first
        | ((with_reducible show wpList _ _ _ (Oper.mk _ (Op.load 24 _) _ _ _ _ :: _) _ _); refine wpList_valw (by rfl) (run_load_v4 rfl rfl hAt rfl) ?_)
        | (go_at_call 11; with_reducible refine (far_arr x0 A0 c0 A0' c0' _).mono ?_; rintro e w1 ⟨rfl, y1⟩; rw [HF0.out]; have hAtb := hAt2.below y1 (by omega))
        | ((with_reducible show wpList _ _ _ (Oper.mk _ (Op.load 24 _) _ _ _ _ :: _) _ _); refine wpList_valw (by rfl) (run_load_v4 rfl rfl hAtb rfl) ?_)
        | (go_at_call 11; with_reducible refine (far_arr x1 A1 c1 A1' c1' _).mono ?_; rintro e w2 ⟨rfl, y2⟩; rw [HF1.out])
        | (go_at_call 12; refine (awake5_any _).mono ?_; rintro e w5 ⟨rfl, b5⟩))
      go_ret
      have yW := y1.trans (y2.mono y1.size)
      have q0 := hB0.trans (yW.mono hB0.size)
      exact ⟨rfl, q0.trans (b5.mono q0.size)⟩
  · have HF0 := Lib.hid hf0
    clear hf0
    go_wp2_with (first
      | ((with_reducible show wpList _ _ _ (Oper.mk _ (Op.load 24 _) _ _ _ _ :: _) _ _); refine wpList_valw (by rfl) (run_load_v4 rfl rfl hAt rfl) ?_)
      | (go_at_call 11; with_reducible refine (far_arr x0 A0 c0 A0' c0' _).mono ?_; rintro e w1 ⟨rfl, y1⟩; rw [HF0.out]; have hAtb := hAt2.below y1 (by omega))
      | (go_at_call 12; refine (awake5_any _).mono ?_; rintro e w5 ⟨rfl, b5⟩))
    go_ret
    have q0 := hB0.trans (y1.mono hB0.size)
    exact ⟨rfl, q0.trans (b5.mono q0.size)⟩

/-! ### The row's step -/
set_option maxRecDepth 100000 in
theorem lifted (os : Os) (started : os.Started) (H : Type) (enc : TypeId × Value → H) :
    ReturnsInHanded {} Try.checked os 3 .any (Rows.v4BuildsSpec.pre6 enc Try.prog Try.f3 Rows.v4BuildsRow.domain false) (Rows.v4BuildsSpec.post enc Try.prog Try.f3 false true false false) := by
  refine returnsInHanded_of_change (C := Try.checked) own started (by kernel_rfl) Try.func3
    (ChangeSpec.witness6 (enc := enc) (C := Try.checked) false ⟨#[], #[.agg #[.int .i64 0, .int .i64 0, .int .i64 0, .int .i64 0, .int .i64 0, .int .i64 0, .int .i64 0, .bool false, .bool false, .slice none 0 0, .slice none 0 0], .agg #[.int .i64 0, .int .i64 0, .int .i64 0, .int .i64 0, .int .i64 0, .int .i64 0, .int .i64 0, .bool false, .bool false, .slice none 0 0, .slice none 0 0]], []⟩ 8 (by kernel_rfl) (by kernel_rfl) (by kernel_rfl) (by kernel_rfl)) ?_
  intro W base args ds gs before hval0 hW hcnd _
  have hval : ∀ (j : Nat) t v, Try.f3.params[j]? = some t → args[j]? = some v → Value.okWide Try.prog W .any base t v := hval0
  have hW' := hW
  obtain ⟨p, q, hA0, hV, rfl, hfz, hnd⟩ := hW
  have hA : DataW.TrodAll enc Try.prog W 0 (fun _ => true) true Try.f3.params.toList args.toList ds p := hA0
  rw [Try.params3] at hA hval
  obtain ⟨v0, vs0, d0, ds0, p0, q0, hargs, rfl, rfl, t0, r0⟩ := trodAll_cons hA
  obtain ⟨v1, vs1, d1, ds1, p1, q1, rfl, rfl, rfl, t1, r1⟩ := trodAll_cons r0
  obtain ⟨rfl, rfl, rfl⟩ := trodAll_nil r1
  obtain rfl : args = #[v0, v1] := by cases args; simp_all
  obtain ⟨rfl, rfl⟩ := trodVars_none hV
  have k0 := t0
  have lt0 := Trod_lt t0
  have k1 := t1
  have lt1 := Trod_lt t1
  obtain ⟨x0, A0, c0, A0', c0', rfl, h0, h0', m0, m0', w0⟩ := get_v4 (hval 0 24 v0 rfl rfl) t0
  obtain ⟨x1, A1, c1, A1', c1', rfl, h1, h1', m1, m1', w1⟩ := get_v4 (hval 1 24 v1 rfl rfl) t1
  clear hA0 hval0
  refine (walk x0 A0 c0 A0' c0' x1 A1 c1 A1' c1' W h0 h0' m0 m0' w0 h1 h1' m1 m1' w1).mono fun e W' ⟨he, bel⟩ => ?_
  subst he
  exact ⟨_, rfl, _, _, _, [], _, [], hW', trodAll_mk1 (shut_bool Try.underlying4 _), (trodAll_cons_mk (Below.trod laidOut (by kernel_rfl) (of_decide_eq_true (by kernel_rfl)) k0 bel lt0) (trodAll_cons_mk (Below.trod laidOut (by kernel_rfl) (of_decide_eq_true (by kernel_rfl)) k1 bel lt1) trodAll_mk0)), rfl, bel.frame _, fun h => by cases h⟩

theorem over : Rows.v4BuildsRow.holds Try.pinned (OpenSpec.ofChange Rows.v4BuildsSpec) :=
  OpenClaim.holds_of_wide 3 Try.f3 rfl rfl rfl rfl rfl rfl rfl ⟨rfl, rfl, rfl, rfl, rfl⟩ rfl rfl rfl rfl rfl (by kernel_rfl) Try.func3 (by kernel_rfl)
    (of_decide_eq_true (by kernel_rfl)) (by unfold Func.isWrapper; first | (rw [if_pos (by decide +kernel)]; kernel_rfl) | (rw [if_neg (by decide +kernel)]; exact ⟨rfl, rfl⟩))
    (fun os started H enc _ => lifted os started H enc)

theorem proved : Rows.V4BuildsSaid := over
end Go.Proofs.Ytcfcmnhnijjehaa.v4Builds
