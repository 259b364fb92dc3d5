/-
  Contracts and lemmas on which the proofs of this seat stand (several texts in one). Conditions are each theorem's own.
-/
import Derived.Test.YtogidfagkgccmaaPa1
import Derived.Maps.OwnSet
import Derived.Test.YtogidfagkgccmaaCa3
import Derived.Test.YtogidfagkgccmaaCa2
import Derived.Deep.Cut
import Derived.Deep.CutRange
import Derived.Laws.CopyOwn

/-
  Contracts of runs of layer 19, of TCP and UDP. Conditions are each theorem's own.
-/
namespace Go.Proofs.Ytogidfagkgccmaa
open Go.RowKit Go.Shelf
theorem wrapM (n : Int) (h0 : -1 ≤ n) (h1 : n ≤ 100000) : IntKind.i64.wrap n = n := by rw [IntKind.wrap_i64]; omega
theorem clR_lit (r : Rn) : Value.agg (clR r).toArray = .agg #[.int .i64 r.lo, .int .i64 r.hi, .int .i64 r.st] := rfl
set_option maxRecDepth 100000 in
set_option maxHeartbeats 4000000 in
theorem p19runs (slo shi p pr : Int) (hs : 0 ≤ slo ∧ slo ≤ 65535) (hp : 0 ≤ p ∧ p ≤ 65535) (hpr : pr = 6 ∨ pr = 17) (w : World) : Calls Try.prog 118 #[.agg #[.int .i64 slo, .int .i64 shi], .int .i64 pr, .int .i64 p] w fun e w' =>
    (∃ g, e = .returned (.slice (some ⟨g, 0, none⟩) 5 5) ∧ w.heap.size ≤ g ∧ w'.heap[g]? = some (.cells ((runs6 slo shi p).flatMap clR).toArray 180 (0, 0))) ∧ Below w.heap.size w w' := by
  obtain ⟨W0, hW0⟩ : ∃ W, W = w.alloc (.cells #[.int .i64 slo, .int .i64 shi] 136) := ⟨_, rfl⟩
  have hb0 : Below w.heap.size w W0 := by rw [hW0]; exact (Below.refl _ w).alloc (Nat.le_refl _) _
  have k0 : W0.cell? ⟨w.heap.size, 0, none⟩ = some (.int .i64 slo) := by rw [hW0, World.cell?_alloc_new]; rfl
  have k1 : W0.cell? ⟨w.heap.size, 1, none⟩ = some (.int .i64 shi) := by rw [hW0, World.cell?_alloc_new]; rfl
  have hz0 : w.heap.size < W0.heap.size := by rw [hW0]; simp
  have hW0' := hW0.symm
  clear hW0
  have hnb : 0 ≤ nearL p ∧ nearL p ≤ 1024 := by unfold nearL; split <;> omega
  have hfb : 0 ≤ farL p ∧ farL p ≤ 1024 := by unfold farL; split <;> omega
  obtain ⟨E1, hE1⟩ : ∃ E, E = eachR slo shi p p := ⟨_, rfl⟩
  obtain ⟨E2, hE2⟩ : ∃ E, E = alikeR slo shi (p + 1) (nearH p) p := ⟨_, rfl⟩
  obtain ⟨E3, hE3⟩ : ∃ E, E = alikeR slo shi (nearL p) (p - 1) p := ⟨_, rfl⟩
  obtain ⟨E4, hE4⟩ : ∃ E, E = alikeR slo shi (farL p) (farH p) p := ⟨_, rfl⟩
  obtain ⟨E5, hE5⟩ : ∃ E, E = alikeR slo shi 0 65535 (p + 1) := ⟨_, rfl⟩
  have HR : Hid (((runs6 slo shi p).flatMap clR).toArray = #[.int .i64 E1.lo, .int .i64 E1.hi, .int .i64 E1.st, .int .i64 E2.lo, .int .i64 E2.hi, .int .i64 E2.st, .int .i64 E3.lo, .int .i64 E3.hi, .int .i64 E3.st, .int .i64 E4.lo, .int .i64 E4.hi, .int .i64 E4.st, .int .i64 E5.lo, .int .i64 E5.hi, .int .i64 E5.st]) := Lib.hid (by rw [hE1, hE2, hE3, hE4, hE5]; rfl)
  have H1 := Lib.hid hE1
  have H2 := Lib.hid hE2
  have H3 := Lib.hid hE3
  have H4 := Lib.hid hE4
  have H5 := Lib.hid hE5
  clear hE1 hE2 hE3 hE4 hE5
  have HNB : Hid (nearL p = nearL p) := Lib.hid rfl
  obtain ⟨nl, hnl⟩ : ∃ x, x = nearL p := ⟨_, rfl⟩
  obtain ⟨nh, hnh⟩ : ∃ x, x = nearH p := ⟨_, rfl⟩
  obtain ⟨fl, hfl⟩ : ∃ x, x = farL p := ⟨_, rfl⟩
  obtain ⟨fh, hfh⟩ : ∃ x, x = farH p := ⟨_, rfl⟩
  have hcls := p19classes p
  rw [← hnl, ← hnh, ← hfl, ← hfh] at hcls
  rw [← hnl] at hnb H3
  rw [← hnh] at H2
  rw [← hfl] at hfb H4
  rw [← hfh] at H4
  have HCL := Lib.hid hcls
  clear hcls hnl hnh hfl hfh HNB
  have e6 : (pr == 6) = true ∨ ((pr == 6) = false ∧ (pr == 17) = true) := by rcases hpr with rfl | rfl <;> simp
  rcases e6 with e6 | ⟨e6, e17⟩
  · go_enter Try.func118, Try.ntmps118
    go_upto_region 4 with fail
    try rw [hW0']
    clear hW0'
    go_upto_region 5 with (first
      | (go_at_call 163; refine (HCL.out _).mono ?_; rintro e w1 ⟨rfl, b1⟩)
      | ((with_reducible show wpList _ _ _ (Oper.mk none (Op.store 136 (Operand.tmp 7) _) _ _ _ _ :: _) _ _); (refine str_span (g := w1.heap.size) (t := 136) (old := #[.int .i64 0, .int .i64 0]) rfl rfl (by rw [Below.heap_alloc _ _ _ (by simp), World.alloc_heap_new]) rfl rfl (by simp [Value.oneCell']) ?_))
      | ((with_reducible show wpList _ _ _ (Oper.mk none (Op.store 136 (Operand.tmp 8) _) _ _ _ _ :: _) _ _); (refine str_span (g := w1.heap.size + 1) (t := 136) (old := #[.int .i64 0, .int .i64 0]) rfl rfl (by rw [setRow_o _ _ _ _ (by omega)]; have := World.alloc_heap_new (w1.alloc (.cells #[.int .i64 0, .int .i64 0] 136)) (.cells #[.int .i64 0, .int .i64 0] 136); rw [World.size_alloc] at this; exact this) rfl rfl (by simp [Value.oneCell']) ?_)))
    obtain ⟨W, hW⟩ : ∃ W, W = ((((w1.alloc (.cells #[.int .i64 0, .int .i64 0] 136)).alloc (.cells #[.int .i64 0, .int .i64 0] 136)).setRow w1.heap.size #[.int .i64 nl, .int .i64 nh]).setRow (w1.heap.size + 1) #[.int .i64 fl, .int .i64 fh]) := ⟨_, rfl⟩
    have h7 : W.heap[w1.heap.size]? = some (.cells #[.int .i64 nl, .int .i64 nh] 136 (0, 0)) := by
      rw [hW, setRow_o _ _ _ _ (by omega)]
      exact setRow_heap _ _ #[.int .i64 0, .int .i64 0] _ _ _ (by rw [Below.heap_alloc _ _ _ (by simp), World.alloc_heap_new])
    have h8 : W.heap[w1.heap.size + 1]? = some (.cells #[.int .i64 fl, .int .i64 fh] 136 (0, 0)) := by
      rw [hW]
      exact setRow_heap _ _ #[.int .i64 0, .int .i64 0] _ _ _ (by rw [setRow_o _ _ _ _ (by omega)]; have := World.alloc_heap_new (w1.alloc (.cells #[.int .i64 0, .int .i64 0] 136)) (.cells #[.int .i64 0, .int .i64 0] 136); rw [World.size_alloc] at this; exact this)
    have bW : Below w1.heap.size w1 W := by
      rw [hW]
      exact below_setRow (below_setRow (((Below.refl _ w1).alloc (Nat.le_refl _) _).alloc (by simp) _) (Nat.le_refl _) _) (by omega) _
    rw [← hW]
    clear hW
    have z1 := b1.size
    have b0W : Below w.heap.size w W := hb0.trans ((b1.trans (bW.mono z1)).mono hb0.size)
    have j0 := ((b1.trans (bW.mono z1)).cell (p := ⟨w.heap.size, 0, none⟩) hz0).trans k0
    have j1 := ((b1.trans (bW.mono z1)).cell (p := ⟨w.heap.size, 1, none⟩) hz0).trans k1
    have zz := bW.size
    have rS := fun V (hV : Below W.heap.size W V) => (range_below (cs := [.int .i64 slo, .int .i64 shi]) (b := w.heap.size) (o := 0) (fun j v hj => by
      match j, hj with
      | 0, hj => simp at hj; subst hj; exact j0
      | 1, hj => simp at hj; subst hj; exact j1) (by omega) hV : V.rangeAt w.heap.size 0 [.int .i64 slo, .int .i64 shi])
    have c70 := fun V (hV : Below W.heap.size W V) => (hV.cell (p := ⟨w1.heap.size, 0, none⟩) (heap_lt h7)).trans (show W.cell? ⟨w1.heap.size, 0, none⟩ = some (.int .i64 nl) by rw [cell_of_row W _ _ _ _ _ h7]; rfl)
    have c71 := fun V (hV : Below W.heap.size W V) => (hV.cell (p := ⟨w1.heap.size, 1, none⟩) (heap_lt h7)).trans (show W.cell? ⟨w1.heap.size, 1, none⟩ = some (.int .i64 nh) by rw [cell_of_row W _ _ _ _ _ h7]; rfl)
    have c80 := fun V (hV : Below W.heap.size W V) => (hV.cell (p := ⟨w1.heap.size + 1, 0, none⟩) (heap_lt h8)).trans (show W.cell? ⟨w1.heap.size + 1, 0, none⟩ = some (.int .i64 fl) by rw [cell_of_row W _ _ _ _ _ h8]; rfl)
    have c81 := fun V (hV : Below W.heap.size W V) => (hV.cell (p := ⟨w1.heap.size + 1, 1, none⟩) (heap_lt h8)).trans (show W.cell? ⟨w1.heap.size + 1, 1, none⟩ = some (.int .i64 fh) by rw [cell_of_row W _ _ _ _ _ h8]; rfl)
    clear k0 k1 j0 j1
    refine wp_region_held_drew (S := fun w' => Below W.heap.size W w') (by kernel_rfl) (Below.refl _ W).drew (fun hS => ?_)
    refine held_pure (i := 0) (oi := ⟨some 18, _, _, _, _, _⟩) rfl (by kernel_rfl) (by kernel_rfl) (by kernel_rfl) (fun _ _ _ h => h) (by rfl) (fun w hSw => ld_span rfl rfl (rS _ hSw) rfl) hS (fun hS => ?_)
    try go_frame
    refine held_pure (i := 1) (oi := ⟨some 19, _, _, _, _, _⟩) rfl (by kernel_rfl) (by kernel_rfl) (by kernel_rfl) (fun _ _ _ h => h) (by rfl) (v := ?_) (fun w hSw => ?_) hS (fun hS => ?_)
    rotate_left
    · go_simp; try with_reducible rfl
    try go_frame
    refine held_pure (i := 2) (oi := ⟨some 20, _, _, _, _, _⟩) rfl (by kernel_rfl) (by kernel_rfl) (by kernel_rfl) (fun _ _ _ h => h) (by rfl) (v := ?_) (fun w hSw => ?_) hS (fun hS => ?_)
    rotate_left
    · go_simp; try with_reducible rfl
    try go_frame
    refine held_pure (i := 4) (oi := ⟨some 22, _, _, _, _, _⟩) rfl (by kernel_rfl) (by kernel_rfl) (by kernel_rfl) (fun _ _ _ h => h) (by rfl) (fun w hSw => ld_span rfl rfl (rS _ hSw) rfl) hS (fun hS => ?_)
    try go_frame
    refine held_pure (i := 5) (oi := ⟨some 23, _, _, _, _, _⟩) rfl (by kernel_rfl) (by kernel_rfl) (by kernel_rfl) (fun _ _ _ h => h) (by rfl) (v := ?_) (fun w hSw => ?_) hS (fun hS => ?_)
    rotate_left
    · go_simp; try with_reducible rfl
    try go_frame
    refine held_pure (i := 6) (oi := ⟨some 24, _, _, _, _, _⟩) rfl (by kernel_rfl) (by kernel_rfl) (by kernel_rfl) (fun _ _ _ h => h) (by rfl) (v := .int .i64 (p + 1)) (fun w hSw => by go_simp; try exact wrapS _ (by omega) (by omega)) hS (fun hS => ?_)
    try go_frame
    refine held_pure (i := 7) (oi := ⟨some 25, _, _, _, _, _⟩) rfl (by kernel_rfl) (by kernel_rfl) (by kernel_rfl) (fun _ _ _ h => h) (by rfl) (v := ?_) (fun w hSw => ?_) hS (fun hS => ?_)
    rotate_left
    · go_simp; try with_reducible rfl
    try go_frame
    refine held_pure (i := 8) (oi := ⟨some 26, _, _, _, _, _⟩) rfl (by kernel_rfl) (by kernel_rfl) (by kernel_rfl) (fun _ _ _ h => h) (by rfl) (fun w hSw => run_load_int rfl rfl (c71 _ hSw)) hS (fun hS => ?_)
    try go_frame
    refine held_pure (i := 9) (oi := ⟨some 27, _, _, _, _, _⟩) rfl (by kernel_rfl) (by kernel_rfl) (by kernel_rfl) (fun _ _ _ h => h) (by rfl) (v := ?_) (fun w hSw => ?_) hS (fun hS => ?_)
    rotate_left
    · go_simp; try with_reducible rfl
    try go_frame
    refine held_pure (i := 11) (oi := ⟨some 29, _, _, _, _, _⟩) rfl (by kernel_rfl) (by kernel_rfl) (by kernel_rfl) (fun _ _ _ h => h) (by rfl) (fun w hSw => ld_span rfl rfl (rS _ hSw) rfl) hS (fun hS => ?_)
    try go_frame
    refine held_pure (i := 12) (oi := ⟨some 30, _, _, _, _, _⟩) rfl (by kernel_rfl) (by kernel_rfl) (by kernel_rfl) (fun _ _ _ h => h) (by rfl) (v := ?_) (fun w hSw => ?_) hS (fun hS => ?_)
    rotate_left
    · go_simp; try with_reducible rfl
    try go_frame
    refine held_pure (i := 13) (oi := ⟨some 31, _, _, _, _, _⟩) rfl (by kernel_rfl) (by kernel_rfl) (by kernel_rfl) (fun _ _ _ h => h) (by rfl) (fun w hSw => run_load_int rfl rfl (c70 _ hSw)) hS (fun hS => ?_)
    try go_frame
    refine held_pure (i := 14) (oi := ⟨some 32, _, _, _, _, _⟩) rfl (by kernel_rfl) (by kernel_rfl) (by kernel_rfl) (fun _ _ _ h => h) (by rfl) (v := ?_) (fun w hSw => ?_) hS (fun hS => ?_)
    rotate_left
    · go_simp; try with_reducible rfl
    try go_frame
    refine held_pure (i := 15) (oi := ⟨some 33, _, _, _, _, _⟩) rfl (by kernel_rfl) (by kernel_rfl) (by kernel_rfl) (fun _ _ _ h => h) (by rfl) (v := .int .i64 (p - 1)) (fun w hSw => by go_simp; try exact wrapM _ (by omega) (by omega)) hS (fun hS => ?_)
    try go_frame
    refine held_pure (i := 16) (oi := ⟨some 34, _, _, _, _, _⟩) rfl (by kernel_rfl) (by kernel_rfl) (by kernel_rfl) (fun _ _ _ h => h) (by rfl) (v := ?_) (fun w hSw => ?_) hS (fun hS => ?_)
    rotate_left
    · go_simp; try with_reducible rfl
    try go_frame
    refine held_pure (i := 18) (oi := ⟨some 36, _, _, _, _, _⟩) rfl (by kernel_rfl) (by kernel_rfl) (by kernel_rfl) (fun _ _ _ h => h) (by rfl) (fun w hSw => ld_span rfl rfl (rS _ hSw) rfl) hS (fun hS => ?_)
    try go_frame
    refine held_pure (i := 19) (oi := ⟨some 37, _, _, _, _, _⟩) rfl (by kernel_rfl) (by kernel_rfl) (by kernel_rfl) (fun _ _ _ h => h) (by rfl) (v := ?_) (fun w hSw => ?_) hS (fun hS => ?_)
    rotate_left
    · go_simp; try with_reducible rfl
    try go_frame
    refine held_pure (i := 20) (oi := ⟨some 38, _, _, _, _, _⟩) rfl (by kernel_rfl) (by kernel_rfl) (by kernel_rfl) (fun _ _ _ h => h) (by rfl) (fun w hSw => run_load_int rfl rfl (c80 _ hSw)) hS (fun hS => ?_)
    try go_frame
    refine held_pure (i := 21) (oi := ⟨some 39, _, _, _, _, _⟩) rfl (by kernel_rfl) (by kernel_rfl) (by kernel_rfl) (fun _ _ _ h => h) (by rfl) (v := ?_) (fun w hSw => ?_) hS (fun hS => ?_)
    rotate_left
    · go_simp; try with_reducible rfl
    try go_frame
    refine held_pure (i := 22) (oi := ⟨some 40, _, _, _, _, _⟩) rfl (by kernel_rfl) (by kernel_rfl) (by kernel_rfl) (fun _ _ _ h => h) (by rfl) (fun w hSw => run_load_int rfl rfl (c81 _ hSw)) hS (fun hS => ?_)
    try go_frame
    refine held_pure (i := 23) (oi := ⟨some 41, _, _, _, _, _⟩) rfl (by kernel_rfl) (by kernel_rfl) (by kernel_rfl) (fun _ _ _ h => h) (by rfl) (v := ?_) (fun w hSw => ?_) hS (fun hS => ?_)
    rotate_left
    · go_simp; try with_reducible rfl
    try go_frame
    refine held_pure (i := 25) (oi := ⟨some 43, _, _, _, _, _⟩) rfl (by kernel_rfl) (by kernel_rfl) (by kernel_rfl) (fun _ _ _ h => h) (by rfl) (fun w hSw => ld_span rfl rfl (rS _ hSw) rfl) hS (fun hS => ?_)
    try go_frame
    refine held_pure (i := 26) (oi := ⟨some 44, _, _, _, _, _⟩) rfl (by kernel_rfl) (by kernel_rfl) (by kernel_rfl) (fun _ _ _ h => h) (by rfl) (v := ?_) (fun w hSw => ?_) hS (fun hS => ?_)
    rotate_left
    · go_simp; try with_reducible rfl
    try go_frame
    refine held_pure (i := 27) (oi := ⟨some 45, _, _, _, _, _⟩) rfl (by kernel_rfl) (by kernel_rfl) (by kernel_rfl) (fun _ _ _ h => h) (by rfl) (v := .int .i64 (p + 1)) (fun w hSw => by go_simp; try exact wrapS _ (by omega) (by omega)) hS (fun hS => ?_)
    try go_frame
    refine wpAnyH_ready (rs := [3]) (by kernel_rfl) (by simp) (AllReadyH.cons (o := ⟨some 21, _, _, _, _, _⟩) rfl (fun K hK => ?_) AllReadyH.nil)
    rw [if_pos (by rfl)]
    go_simp
    refine (p19each slo shi p p _).mono ?_
    rintro e w3 ⟨rfl, x3⟩
    rw [← H1.out, clR_lit]
    show K _ _
    refine hK.out _ _ (below_step hS x3) (fun hS => ?_)
    clear hK K
    try go_frame
    refine wpAnyH_ready (rs := [10]) (by kernel_rfl) (by simp) (AllReadyH.cons (o := ⟨some 28, _, _, _, _, _⟩) rfl (fun K hK => ?_) AllReadyH.nil)
    rw [if_pos (by rfl)]
    go_simp
    refine (p19alike slo shi (p + 1) nh p (by omega) (by omega) (by omega) _).mono ?_
    rintro e w10 ⟨rfl, x10⟩
    rw [← H2.out, clR_lit]
    show K _ _
    refine hK.out _ _ (below_step hS x10) (fun hS => ?_)
    clear hK K
    try go_frame
    refine wpAnyH_ready (rs := [17]) (by kernel_rfl) (by simp) (AllReadyH.cons (o := ⟨some 35, _, _, _, _, _⟩) rfl (fun K hK => ?_) AllReadyH.nil)
    rw [if_pos (by rfl)]
    go_simp
    refine (p19alike slo shi nl (p - 1) p (by omega) (by omega) (by omega) _).mono ?_
    rintro e w17 ⟨rfl, x17⟩
    rw [← H3.out, clR_lit]
    show K _ _
    refine hK.out _ _ (below_step hS x17) (fun hS => ?_)
    clear hK K
    try go_frame
    refine wpAnyH_ready (rs := [24]) (by kernel_rfl) (by simp) (AllReadyH.cons (o := ⟨some 42, _, _, _, _, _⟩) rfl (fun K hK => ?_) AllReadyH.nil)
    rw [if_pos (by rfl)]
    go_simp
    refine (p19alike slo shi fl fh p (by omega) (by omega) (by omega) _).mono ?_
    rintro e w24 ⟨rfl, x24⟩
    rw [← H4.out, clR_lit]
    show K _ _
    refine hK.out _ _ (below_step hS x24) (fun hS => ?_)
    clear hK K
    try go_frame
    refine wpAnyH_ready (rs := [28]) (by kernel_rfl) (by simp) (AllReadyH.cons (o := ⟨some 46, _, _, _, _, _⟩) rfl (fun K hK => ?_) AllReadyH.nil)
    rw [if_pos (by rfl)]
    go_simp
    refine (p19alike slo shi 0 65535 (p + 1) (by omega) (by omega) (by omega) _).mono ?_
    rintro e w28 ⟨rfl, x28⟩
    rw [← H5.out, clR_lit]
    show K _ _
    refine hK.out _ _ (below_step hS x28) (fun hS => ?_)
    clear hK K
    try go_frame
    refine wpAnyH_ready (rs := [29]) (by kernel_rfl) (by simp) (AllReadyH.cons (o := ⟨some 47, _, _, _, _, _⟩) rfl (fun K hK => ?_) AllReadyH.nil)
    rw [if_pos (by rfl)]
    have hS0 := hS
    go_simp
    refine hK.out _ _ (hS.alloc hS.size _) (fun hS => ?_)
    clear hK K
    try go_frame
    refine held_pure (i := 30) (oi := ⟨some 6, _, _, _, _, _⟩) rfl (by kernel_rfl) (by kernel_rfl) (by kernel_rfl) (fun _ _ _ h => h) (by rfl) (v := ?_) (fun w hSw => ?_) hS (fun hS => ?_)
    rotate_left
    · go_simp; try with_reducible rfl
    try go_frame
    refine wpAnyH_done (by kernel_rfl) ?_ _
    go_wp2_with fail
    go_ret
    exact ⟨⟨_, rfl, Nat.le_trans b0W.size hS0.size, by rw [HR.out]; exact World.alloc_heap_new _ _⟩, b0W.trans (hS.mono b0W.size)⟩
  · go_enter Try.func118, Try.ntmps118
    go_upto_region 4 with fail
    try rw [hW0']
    clear hW0'
    go_upto_region 5 with (first
      | (go_at_call 163; refine (HCL.out _).mono ?_; rintro e w1 ⟨rfl, b1⟩)
      | ((with_reducible show wpList _ _ _ (Oper.mk none (Op.store 136 (Operand.tmp 7) _) _ _ _ _ :: _) _ _); (refine str_span (g := w1.heap.size) (t := 136) (old := #[.int .i64 0, .int .i64 0]) rfl rfl (by rw [Below.heap_alloc _ _ _ (by simp), World.alloc_heap_new]) rfl rfl (by simp [Value.oneCell']) ?_))
      | ((with_reducible show wpList _ _ _ (Oper.mk none (Op.store 136 (Operand.tmp 8) _) _ _ _ _ :: _) _ _); (refine str_span (g := w1.heap.size + 1) (t := 136) (old := #[.int .i64 0, .int .i64 0]) rfl rfl (by rw [setRow_o _ _ _ _ (by omega)]; have := World.alloc_heap_new (w1.alloc (.cells #[.int .i64 0, .int .i64 0] 136)) (.cells #[.int .i64 0, .int .i64 0] 136); rw [World.size_alloc] at this; exact this) rfl rfl (by simp [Value.oneCell']) ?_)))
    obtain ⟨W, hW⟩ : ∃ W, W = ((((w1.alloc (.cells #[.int .i64 0, .int .i64 0] 136)).alloc (.cells #[.int .i64 0, .int .i64 0] 136)).setRow w1.heap.size #[.int .i64 nl, .int .i64 nh]).setRow (w1.heap.size + 1) #[.int .i64 fl, .int .i64 fh]) := ⟨_, rfl⟩
    have h7 : W.heap[w1.heap.size]? = some (.cells #[.int .i64 nl, .int .i64 nh] 136 (0, 0)) := by
      rw [hW, setRow_o _ _ _ _ (by omega)]
      exact setRow_heap _ _ #[.int .i64 0, .int .i64 0] _ _ _ (by rw [Below.heap_alloc _ _ _ (by simp), World.alloc_heap_new])
    have h8 : W.heap[w1.heap.size + 1]? = some (.cells #[.int .i64 fl, .int .i64 fh] 136 (0, 0)) := by
      rw [hW]
      exact setRow_heap _ _ #[.int .i64 0, .int .i64 0] _ _ _ (by rw [setRow_o _ _ _ _ (by omega)]; have := World.alloc_heap_new (w1.alloc (.cells #[.int .i64 0, .int .i64 0] 136)) (.cells #[.int .i64 0, .int .i64 0] 136); rw [World.size_alloc] at this; exact this)
    have bW : Below w1.heap.size w1 W := by
      rw [hW]
      exact below_setRow (below_setRow (((Below.refl _ w1).alloc (Nat.le_refl _) _).alloc (by simp) _) (Nat.le_refl _) _) (by omega) _
    rw [← hW]
    clear hW
    have z1 := b1.size
    have b0W : Below w.heap.size w W := hb0.trans ((b1.trans (bW.mono z1)).mono hb0.size)
    have j0 := ((b1.trans (bW.mono z1)).cell (p := ⟨w.heap.size, 0, none⟩) hz0).trans k0
    have j1 := ((b1.trans (bW.mono z1)).cell (p := ⟨w.heap.size, 1, none⟩) hz0).trans k1
    have zz := bW.size
    have rS := fun V (hV : Below W.heap.size W V) => (range_below (cs := [.int .i64 slo, .int .i64 shi]) (b := w.heap.size) (o := 0) (fun j v hj => by
      match j, hj with
      | 0, hj => simp at hj; subst hj; exact j0
      | 1, hj => simp at hj; subst hj; exact j1) (by omega) hV : V.rangeAt w.heap.size 0 [.int .i64 slo, .int .i64 shi])
    have c70 := fun V (hV : Below W.heap.size W V) => (hV.cell (p := ⟨w1.heap.size, 0, none⟩) (heap_lt h7)).trans (show W.cell? ⟨w1.heap.size, 0, none⟩ = some (.int .i64 nl) by rw [cell_of_row W _ _ _ _ _ h7]; rfl)
    have c71 := fun V (hV : Below W.heap.size W V) => (hV.cell (p := ⟨w1.heap.size, 1, none⟩) (heap_lt h7)).trans (show W.cell? ⟨w1.heap.size, 1, none⟩ = some (.int .i64 nh) by rw [cell_of_row W _ _ _ _ _ h7]; rfl)
    have c80 := fun V (hV : Below W.heap.size W V) => (hV.cell (p := ⟨w1.heap.size + 1, 0, none⟩) (heap_lt h8)).trans (show W.cell? ⟨w1.heap.size + 1, 0, none⟩ = some (.int .i64 fl) by rw [cell_of_row W _ _ _ _ _ h8]; rfl)
    have c81 := fun V (hV : Below W.heap.size W V) => (hV.cell (p := ⟨w1.heap.size + 1, 1, none⟩) (heap_lt h8)).trans (show W.cell? ⟨w1.heap.size + 1, 1, none⟩ = some (.int .i64 fh) by rw [cell_of_row W _ _ _ _ _ h8]; rfl)
    clear k0 k1 j0 j1
    refine wp_region_held_drew (S := fun w' => Below W.heap.size W w') (by kernel_rfl) (Below.refl _ W).drew (fun hS => ?_)
    refine held_pure (i := 0) (oi := ⟨some 18, _, _, _, _, _⟩) rfl (by kernel_rfl) (by kernel_rfl) (by kernel_rfl) (fun _ _ _ h => h) (by rfl) (fun w hSw => ld_span rfl rfl (rS _ hSw) rfl) hS (fun hS => ?_)
    try go_frame
    refine held_pure (i := 1) (oi := ⟨some 19, _, _, _, _, _⟩) rfl (by kernel_rfl) (by kernel_rfl) (by kernel_rfl) (fun _ _ _ h => h) (by rfl) (v := ?_) (fun w hSw => ?_) hS (fun hS => ?_)
    rotate_left
    · go_simp; try with_reducible rfl
    try go_frame
    refine held_pure (i := 2) (oi := ⟨some 20, _, _, _, _, _⟩) rfl (by kernel_rfl) (by kernel_rfl) (by kernel_rfl) (fun _ _ _ h => h) (by rfl) (v := ?_) (fun w hSw => ?_) hS (fun hS => ?_)
    rotate_left
    · go_simp; try with_reducible rfl
    try go_frame
    refine held_pure (i := 4) (oi := ⟨some 22, _, _, _, _, _⟩) rfl (by kernel_rfl) (by kernel_rfl) (by kernel_rfl) (fun _ _ _ h => h) (by rfl) (fun w hSw => ld_span rfl rfl (rS _ hSw) rfl) hS (fun hS => ?_)
    try go_frame
    refine held_pure (i := 5) (oi := ⟨some 23, _, _, _, _, _⟩) rfl (by kernel_rfl) (by kernel_rfl) (by kernel_rfl) (fun _ _ _ h => h) (by rfl) (v := ?_) (fun w hSw => ?_) hS (fun hS => ?_)
    rotate_left
    · go_simp; try with_reducible rfl
    try go_frame
    refine held_pure (i := 6) (oi := ⟨some 24, _, _, _, _, _⟩) rfl (by kernel_rfl) (by kernel_rfl) (by kernel_rfl) (fun _ _ _ h => h) (by rfl) (v := .int .i64 (p + 1)) (fun w hSw => by go_simp; try exact wrapS _ (by omega) (by omega)) hS (fun hS => ?_)
    try go_frame
    refine held_pure (i := 7) (oi := ⟨some 25, _, _, _, _, _⟩) rfl (by kernel_rfl) (by kernel_rfl) (by kernel_rfl) (fun _ _ _ h => h) (by rfl) (v := ?_) (fun w hSw => ?_) hS (fun hS => ?_)
    rotate_left
    · go_simp; try with_reducible rfl
    try go_frame
    refine held_pure (i := 8) (oi := ⟨some 26, _, _, _, _, _⟩) rfl (by kernel_rfl) (by kernel_rfl) (by kernel_rfl) (fun _ _ _ h => h) (by rfl) (fun w hSw => run_load_int rfl rfl (c71 _ hSw)) hS (fun hS => ?_)
    try go_frame
    refine held_pure (i := 9) (oi := ⟨some 27, _, _, _, _, _⟩) rfl (by kernel_rfl) (by kernel_rfl) (by kernel_rfl) (fun _ _ _ h => h) (by rfl) (v := ?_) (fun w hSw => ?_) hS (fun hS => ?_)
    rotate_left
    · go_simp; try with_reducible rfl
    try go_frame
    refine held_pure (i := 11) (oi := ⟨some 29, _, _, _, _, _⟩) rfl (by kernel_rfl) (by kernel_rfl) (by kernel_rfl) (fun _ _ _ h => h) (by rfl) (fun w hSw => ld_span rfl rfl (rS _ hSw) rfl) hS (fun hS => ?_)
    try go_frame
    refine held_pure (i := 12) (oi := ⟨some 30, _, _, _, _, _⟩) rfl (by kernel_rfl) (by kernel_rfl) (by kernel_rfl) (fun _ _ _ h => h) (by rfl) (v := ?_) (fun w hSw => ?_) hS (fun hS => ?_)
    rotate_left
    · go_simp; try with_reducible rfl
    try go_frame
    refine held_pure (i := 13) (oi := ⟨some 31, _, _, _, _, _⟩) rfl (by kernel_rfl) (by kernel_rfl) (by kernel_rfl) (fun _ _ _ h => h) (by rfl) (fun w hSw => run_load_int rfl rfl (c70 _ hSw)) hS (fun hS => ?_)
    try go_frame
    refine held_pure (i := 14) (oi := ⟨some 32, _, _, _, _, _⟩) rfl (by kernel_rfl) (by kernel_rfl) (by kernel_rfl) (fun _ _ _ h => h) (by rfl) (v := ?_) (fun w hSw => ?_) hS (fun hS => ?_)
    rotate_left
    · go_simp; try with_reducible rfl
    try go_frame
    refine held_pure (i := 15) (oi := ⟨some 33, _, _, _, _, _⟩) rfl (by kernel_rfl) (by kernel_rfl) (by kernel_rfl) (fun _ _ _ h => h) (by rfl) (v := .int .i64 (p - 1)) (fun w hSw => by go_simp; try exact wrapM _ (by omega) (by omega)) hS (fun hS => ?_)
    try go_frame
    refine held_pure (i := 16) (oi := ⟨some 34, _, _, _, _, _⟩) rfl (by kernel_rfl) (by kernel_rfl) (by kernel_rfl) (fun _ _ _ h => h) (by rfl) (v := ?_) (fun w hSw => ?_) hS (fun hS => ?_)
    rotate_left
    · go_simp; try with_reducible rfl
    try go_frame
    refine held_pure (i := 18) (oi := ⟨some 36, _, _, _, _, _⟩) rfl (by kernel_rfl) (by kernel_rfl) (by kernel_rfl) (fun _ _ _ h => h) (by rfl) (fun w hSw => ld_span rfl rfl (rS _ hSw) rfl) hS (fun hS => ?_)
    try go_frame
    refine held_pure (i := 19) (oi := ⟨some 37, _, _, _, _, _⟩) rfl (by kernel_rfl) (by kernel_rfl) (by kernel_rfl) (fun _ _ _ h => h) (by rfl) (v := ?_) (fun w hSw => ?_) hS (fun hS => ?_)
    rotate_left
    · go_simp; try with_reducible rfl
    try go_frame
    refine held_pure (i := 20) (oi := ⟨some 38, _, _, _, _, _⟩) rfl (by kernel_rfl) (by kernel_rfl) (by kernel_rfl) (fun _ _ _ h => h) (by rfl) (fun w hSw => run_load_int rfl rfl (c80 _ hSw)) hS (fun hS => ?_)
    try go_frame
    refine held_pure (i := 21) (oi := ⟨some 39, _, _, _, _, _⟩) rfl (by kernel_rfl) (by kernel_rfl) (by kernel_rfl) (fun _ _ _ h => h) (by rfl) (v := ?_) (fun w hSw => ?_) hS (fun hS => ?_)
    rotate_left
    · go_simp; try with_reducible rfl
    try go_frame
    refine held_pure (i := 22) (oi := ⟨some 40, _, _, _, _, _⟩) rfl (by kernel_rfl) (by kernel_rfl) (by kernel_rfl) (fun _ _ _ h => h) (by rfl) (fun w hSw => run_load_int rfl rfl (c81 _ hSw)) hS (fun hS => ?_)
    try go_frame
    refine held_pure (i := 23) (oi := ⟨some 41, _, _, _, _, _⟩) rfl (by kernel_rfl) (by kernel_rfl) (by kernel_rfl) (fun _ _ _ h => h) (by rfl) (v := ?_) (fun w hSw => ?_) hS (fun hS => ?_)
    rotate_left
    · go_simp; try with_reducible rfl
    try go_frame
    refine held_pure (i := 25) (oi := ⟨some 43, _, _, _, _, _⟩) rfl (by kernel_rfl) (by kernel_rfl) (by kernel_rfl) (fun _ _ _ h => h) (by rfl) (fun w hSw => ld_span rfl rfl (rS _ hSw) rfl) hS (fun hS => ?_)
    try go_frame
    refine held_pure (i := 26) (oi := ⟨some 44, _, _, _, _, _⟩) rfl (by kernel_rfl) (by kernel_rfl) (by kernel_rfl) (fun _ _ _ h => h) (by rfl) (v := ?_) (fun w hSw => ?_) hS (fun hS => ?_)
    rotate_left
    · go_simp; try with_reducible rfl
    try go_frame
    refine held_pure (i := 27) (oi := ⟨some 45, _, _, _, _, _⟩) rfl (by kernel_rfl) (by kernel_rfl) (by kernel_rfl) (fun _ _ _ h => h) (by rfl) (v := .int .i64 (p + 1)) (fun w hSw => by go_simp; try exact wrapS _ (by omega) (by omega)) hS (fun hS => ?_)
    try go_frame
    refine wpAnyH_ready (rs := [3]) (by kernel_rfl) (by simp) (AllReadyH.cons (o := ⟨some 21, _, _, _, _, _⟩) rfl (fun K hK => ?_) AllReadyH.nil)
    rw [if_pos (by rfl)]
    go_simp
    refine (p19each slo shi p p _).mono ?_
    rintro e w3 ⟨rfl, x3⟩
    rw [← H1.out, clR_lit]
    show K _ _
    refine hK.out _ _ (below_step hS x3) (fun hS => ?_)
    clear hK K
    try go_frame
    refine wpAnyH_ready (rs := [10]) (by kernel_rfl) (by simp) (AllReadyH.cons (o := ⟨some 28, _, _, _, _, _⟩) rfl (fun K hK => ?_) AllReadyH.nil)
    rw [if_pos (by rfl)]
    go_simp
    refine (p19alike slo shi (p + 1) nh p (by omega) (by omega) (by omega) _).mono ?_
    rintro e w10 ⟨rfl, x10⟩
    rw [← H2.out, clR_lit]
    show K _ _
    refine hK.out _ _ (below_step hS x10) (fun hS => ?_)
    clear hK K
    try go_frame
    refine wpAnyH_ready (rs := [17]) (by kernel_rfl) (by simp) (AllReadyH.cons (o := ⟨some 35, _, _, _, _, _⟩) rfl (fun K hK => ?_) AllReadyH.nil)
    rw [if_pos (by rfl)]
    go_simp
    refine (p19alike slo shi nl (p - 1) p (by omega) (by omega) (by omega) _).mono ?_
    rintro e w17 ⟨rfl, x17⟩
    rw [← H3.out, clR_lit]
    show K _ _
    refine hK.out _ _ (below_step hS x17) (fun hS => ?_)
    clear hK K
    try go_frame
    refine wpAnyH_ready (rs := [24]) (by kernel_rfl) (by simp) (AllReadyH.cons (o := ⟨some 42, _, _, _, _, _⟩) rfl (fun K hK => ?_) AllReadyH.nil)
    rw [if_pos (by rfl)]
    go_simp
    refine (p19alike slo shi fl fh p (by omega) (by omega) (by omega) _).mono ?_
    rintro e w24 ⟨rfl, x24⟩
    rw [← H4.out, clR_lit]
    show K _ _
    refine hK.out _ _ (below_step hS x24) (fun hS => ?_)
    clear hK K
    try go_frame
    refine wpAnyH_ready (rs := [28]) (by kernel_rfl) (by simp) (AllReadyH.cons (o := ⟨some 46, _, _, _, _, _⟩) rfl (fun K hK => ?_) AllReadyH.nil)
    rw [if_pos (by rfl)]
    go_simp
    refine (p19alike slo shi 0 65535 (p + 1) (by omega) (by omega) (by omega) _).mono ?_
    rintro e w28 ⟨rfl, x28⟩
    rw [← H5.out, clR_lit]
    show K _ _
    refine hK.out _ _ (below_step hS x28) (fun hS => ?_)
    clear hK K
    try go_frame
    refine wpAnyH_ready (rs := [29]) (by kernel_rfl) (by simp) (AllReadyH.cons (o := ⟨some 47, _, _, _, _, _⟩) rfl (fun K hK => ?_) AllReadyH.nil)
    rw [if_pos (by rfl)]
    have hS0 := hS
    go_simp
    refine hK.out _ _ (hS.alloc hS.size _) (fun hS => ?_)
    clear hK K
    try go_frame
    refine held_pure (i := 30) (oi := ⟨some 6, _, _, _, _, _⟩) rfl (by kernel_rfl) (by kernel_rfl) (by kernel_rfl) (fun _ _ _ h => h) (by rfl) (v := ?_) (fun w hSw => ?_) hS (fun hS => ?_)
    rotate_left
    · go_simp; try with_reducible rfl
    try go_frame
    refine wpAnyH_done (by kernel_rfl) ?_ _
    go_wp2_with fail
    go_ret
    exact ⟨⟨_, rfl, Nat.le_trans b0W.size hS0.size, by rw [HR.out]; exact World.alloc_heap_new _ _⟩, b0W.trans (hS.mono b0W.size)⟩
end Go.Proofs.Ytogidfagkgccmaa

/-
  What a pool has given out (layer 19): the map as a list; isMade, isGiven, give, Free, Used. Conditions are each theorem's own.
-/
namespace Go.Proofs.Ytogidfagkgccmaa
open Go.RowKit Go.Shelf Go.Maps Go.WideMaps
theorem eqin_mapG {P : Program} (w : World) (d : Nat) (t k e : TypeId) (r : Option Nat) (h : P.underlying t = some (.map k e)) : (Op.equalIn (d + 1) t (.map r) (.map none)).run P w = .ok r.isNone w := by
  cases r <;> simp [Op.equalIn, run_underlying h]
theorem neq_mapG {P : Program} (w : World) (t k e : TypeId) (r : Option Nat) (h : P.underlying t = some (.map k e)) : (binOp .neq t (.map r) (.map none)).run P w = .ok (.bool (!r.isNone)) w := by
  simp only [binOp]
  simp [Op.equal, Op.maxDepth, eqin_mapG w 9999 t k e r h]
def gk (x : List Int) : Value := .agg (clI x).toArray
theorem zeroUnit (w : World) : (zeroValue 181).run Try.prog w = .ok (.agg #[]) w := by kernel_rfl
theorem famOut : KeyFam 65 gk (wfL 3) := famOuter
/-- Block b of w holds what is given out. -/
def Giv (w : World) (b n : Nat) (L : List (List Int)) : Prop :=
  ∃ D : DataW Unit, w.ownsMap Try.prog 65 (unitElem (H := Unit)) b n D ∧ (∀ x l, wfL 3 x → keyOf Try.prog 65 (gk x) = some l → Maps.has D l = L.contains x) ∧ Maps.size D = L.length
section
variable {w : World} {b n : Nat} {L : List (List Int)}
theorem Giv.made (w : World) : Giv (w.alloc (.map #[] 0)) w.heap.size 0 [] := ⟨_, World.ownsMap_made w _ _ _, fun _ _ _ _ => rfl, rfl⟩
theorem Giv.of_block {w' : World} (h : Giv w b n L) (e : w'.heap[b]? = w.heap[b]?) : Giv w' b n L := by
  obtain ⟨D, ⟨es, clock, hb, F, hs, hD⟩, hc⟩ := h
  exact ⟨D, ⟨es, clock, e.trans hb, F, hs, hD⟩, hc⟩
theorem Giv.lt (h : Giv w b n L) : b < w.heap.size := by
  obtain ⟨D, ho, _⟩ := h
  exact ho.lt
theorem Giv.look (h : Giv w b n L) {x : List Int} (hx : wfL 3 x) :
    (Instr.lookup 138 (.map (some b)) (gk x) true).run Try.prog w = .ok (.tuple #[.agg #[], .bool (L.contains x)]) w := by
  obtain ⟨D, ho, hc, _⟩ := h
  obtain ⟨l, hl⟩ := famOut.has x hx
  obtain ⟨v, ps, hrun, hv⟩ := ho.look_ok famOut.K Try.underlying138 (zeroUnit w) unitElem_mk hl
  obtain ⟨rfl, _⟩ := unitElem_inv hv
  rw [hrun, hc x l hx hl]
theorem Giv.put (h : Giv w b n L) (hn : n < maxLen) {x : List Int} (hx : wfL 3 x) (hno : L.contains x = false) :
    ∃ w', (Instr.mapUpdate 138 (.map (some b)) (gk x) (.agg #[])).run Try.prog w = .ok () w' ∧ Giv w' b (n + 1) (L ++ [x]) ∧ w.grownBy w' (some b) := by
  obtain ⟨D, ho, hc, hz⟩ := h
  obtain ⟨l, hl⟩ := famOut.has x hx
  obtain ⟨w', hrun, ho', hg⟩ := ho.update famOut.K Try.underlying138 hn hl (unitElem_mk (H := Unit))
  refine ⟨w', hrun, ⟨_, ho', fun y m hy hm => ?_, ?_⟩, hg⟩
  · have hM := ho.isMap
    by_cases e : x = y
    · subst e
      obtain rfl : l = m := Option.some.inj (hl.symm.trans hm)
      rw [has_put_same hM (famOut.K.key hl)]
      simp
    · have hne : m ≠ l := fun e2 => e (famOut.inj x y hx hy (famOut.K.inj hl (e2 ▸ hm)))
      rw [has_put_other hne, hc y m hy hm]
      simp
      exact fun e3 => absurd e3.symm e
  · rw [size_put (ho.tidy famOut.K), hc x l hx hl, hno, hz]; simp
theorem Giv.drop (h : Giv w b n L) {x : List Int} (hx : wfL 3 x) (ty : TypeId) : ∃ w', (Builtin.delete_ #[138, 65] ty #[.map (some b), gk x]).run Try.prog w = .ok (.tuple #[]) w' ∧ w.grownBy w' (some b) := by
  obtain ⟨D, ho, hc, hz⟩ := h
  obtain ⟨l, hl⟩ := famOut.has x hx
  obtain ⟨w', hrun, _, hg⟩ := ho.drop famOut.K Try.underlying138 hl ty
  exact ⟨w', hrun, hg.grown⟩
theorem Giv.len (h : Giv w b n L) (ty : TypeId) : (Builtin.len_ #[138] ty #[.map (some b)]).run Try.prog w = .ok (.int .i64 (L.length : Nat)) w := by
  obtain ⟨D, ho, hc, hz⟩ := h
  rw [ho.len Try.underlying138 ty, hz]
end
/-- A pool that New made lies at g. -/
def PoolAt (W : World) (g bm : Nat) (lo hi : Int) (A : Option Addr) (n c : Nat) : Prop := W.heap[g]? = some (.cells #[.int .i64 lo, .int .i64 hi, .slice A n c, .map (some bm)] 140 (0, 0))
section
variable {W w : World} {g bm n c : Nat} {lo hi : Int} {A : Option Addr}
theorem PoolAt.cells (h : PoolAt W g bm lo hi A n c) : W.cell? ⟨g, 0, none⟩ = some (.int .i64 lo) ∧ W.cell? ⟨g, 1, none⟩ = some (.int .i64 hi) ∧ W.cell? ⟨g, 2, none⟩ = some (.slice A n c) ∧ W.cell? ⟨g, 3, none⟩ = some (.map (some bm)) := by
  refine ⟨?_, ?_, ?_, ?_⟩ <;> (rw [cell_of_row W g _ _ _ _ h]; rfl)
theorem PoolAt.span (h : PoolAt W g bm lo hi A n c) : W.rangeAt g 0 [.int .i64 lo, .int .i64 hi] := fun j v hj => by
  match j, hj with
  | 0, hj => simp at hj; subst hj; exact h.cells.1
  | 1, hj => simp at hj; subst hj; exact h.cells.2.1
theorem PoolAt.lt (h : PoolAt W g bm lo hi A n c) : g < W.heap.size := heap_lt h
theorem PoolAt.of_block (h : PoolAt w g bm lo hi A n c) (e : W.heap[g]? = w.heap[g]?) : PoolAt W g bm lo hi A n c := e.trans h
theorem nmP (W : World) (r : Option Nat) : (binOp .neq 138 (.map r) (.map none)).run Try.prog W = .ok (.bool (!r.isNone)) W := neq_mapG W _ _ _ r Try.underlying138
set_option maxRecDepth 100000 in
theorem p19made (h : PoolAt W g bm lo hi A n c) : Calls Try.prog 75 #[.pointer (some ⟨g, 0, none⟩)] W fun e w' => e = .returned (.bool true) ∧ W = w' := by
  have k3 := h.cells.2.2.2
  have qT := nmP W
  clear h
  go_enter Try.func75, Try.ntmps75
  go_wp2
  go_ret
  exact ⟨rfl, rfl⟩
set_option maxRecDepth 100000 in
theorem p19used (h : PoolAt W g bm lo hi A n c) {m : Nat} {L : List (List Int)} (hG : Giv W bm m L) : Calls Try.prog 33 #[.pointer (some ⟨g, 0, none⟩)] W fun e w' => e = .returned (.int .i64 (L.length : Nat)) ∧ W = w' := by
  have k3 := h.cells.2.2.2
  have hl := hG.len
  have HM := Lib.hid (p19made h)
  clear hG h
  go_enter Try.func33, Try.ntmps33
  go_wp2_with (go_at_call 75; refine HM.out.mono ?_; rintro e w1 ⟨rfl, rfl⟩)
  go_ret
  exact ⟨rfl, rfl⟩
theorem ld_mapG {o : Oper} {a : Act} {w : World} {x : Operand} {p : Addr} {r : Option Nat} (ho : o.op = .load 138 x) (hx : a.eval x = .pointer (some p)) (hc : w.cell? p = some (.map r)) :
    (execOp a.eval o).run Try.prog w = .ok (.value (.map r)) w := by
  unfold execOp
  simp only [ho, hx, Instr.loadAt, Instr.sureAddr, Sem.run_bind, Sem.run_pure, Result.andThen_ok]
  go_simp
theorem run_lookT {o : Oper} {a : Act} {w : World} {T : TypeId} {m x : Operand} {b : Nat} {key c : Value} (ho : o.op = .lookup T m x true) (hm : a.eval m = .map (some b)) (hx : a.eval x = key)
    (h : (Instr.lookup T (.map (some b)) key true).run Try.prog w = .ok c w) : (execOp a.eval o).run Try.prog w = .ok (.value c) w := by
  unfold execOp
  simp only [ho, hm, hx, Sem.run_bind, Sem.run_pure, h, Result.andThen_ok]
set_option maxRecDepth 100000 in
set_option maxHeartbeats 1000000 in
theorem p19given (h : PoolAt w g bm lo hi A n c) {m : Nat} {L : List (List Int)} (hG : Giv w bm m L) (x : List Int) (hx : wfL 3 x) :
    Calls Try.prog 113 #[.pointer (some ⟨g, 0, none⟩), gk x] w fun e w' => e = .returned (.bool (L.contains x)) ∧ Below w.heap.size w w' := by
  obtain ⟨V, hV⟩ : ∃ V, V = w.alloc (.cells (clI x).toArray 65) := ⟨_, rfl⟩
  have hbV : Below w.heap.size w V := by rw [hV]; exact (Below.refl _ w).alloc (Nat.le_refl _) _
  have hrV : V.rangeAt w.heap.size 0 (clI x) := by rw [hV]; exact AtNew
  have hzV : w.heap.size < V.heap.size := by rw [hV]; simp
  have hgl := h.lt
  have hGl := hG.lt
  have k3 := (hbV.cell (p := ⟨g, 3, none⟩) hgl).trans h.cells.2.2.2
  have hG2 := hG.of_block (hbV.block _ hGl)
  have hl3 : (clI x).length = 3 := by simp [clI, hx.1]
  have hV' := hV.symm
  clear hV hG h
  have k3S := fun U (hU : Below V.heap.size V U) => (hU.cell (p := ⟨g, 3, none⟩) (Nat.lt_trans hgl hzV)).trans k3
  have rS := fun U (hU : Below V.heap.size V U) => range_below hrV hzV hU
  have gS := fun U (hU : Below V.heap.size V U) => (hG2.of_block (hU.block _ (Nat.lt_trans hGl hzV))).look hx
  unfold gk at gS ⊢
  obtain ⟨R, hR⟩ : ∃ R, R = L.contains x := ⟨_, rfl⟩
  rw [← hR] at gS ⊢
  clear hR k3 hG2 hrV
  go_enter Try.func113, Try.ntmps113
  go_upto_region 1 with fail
  try rw [hV']
  clear hV'
  refine wp_region_held_drew (S := fun U => Below V.heap.size V U) (by kernel_rfl) (Below.refl _ V).drew (fun hS => ?_)
  refine held_pure (i := 0) (oi := ⟨some 8, _, _, _, _, _⟩) rfl (by kernel_rfl) (by kernel_rfl) (by kernel_rfl) (fun _ _ _ h => h) (by rfl) (v := ?_) (fun w hSw => ?_) hS (fun hS => ?_)
  rotate_left
  · go_simp; try with_reducible rfl
  try go_frame
  refine held_pure (i := 1) (oi := ⟨some 9, _, _, _, _, _⟩) rfl (by kernel_rfl) (by kernel_rfl) (by kernel_rfl) (fun _ _ _ h => h) (by rfl) (v := ?_) (fun w hSw => ?_) hS (fun hS => ?_)
  rotate_left
  · go_simp; try with_reducible rfl
  try go_frame
  refine held_pure (i := 2) (oi := ⟨some 10, _, _, _, _, _⟩) rfl (by kernel_rfl) (by kernel_rfl) (by kernel_rfl) (fun _ _ _ h => h) (by rfl) (v := ?_) (fun w hSw => ?_) hS (fun hS => ?_)
  rotate_left
  · go_simp; try with_reducible rfl
  try go_frame
  refine held_pure (i := 3) (oi := ⟨some 11, _, _, _, _, _⟩) rfl (by kernel_rfl) (by kernel_rfl) (by kernel_rfl) (fun _ _ _ h => h) (by rfl) (fun w hSw => ld_mapG rfl rfl (k3S _ hSw)) hS (fun hS => ?_)
  try go_frame
  refine held_pure (i := 4) (oi := ⟨some 12, _, _, _, _, _⟩) rfl (by kernel_rfl) (by kernel_rfl) (by kernel_rfl) (fun _ _ _ h => h) (by rfl) (fun w hSw => ld_outer rfl rfl (rS _ hSw) hl3) hS (fun hS => ?_)
  try go_frame
  refine held_pure (i := 5) (oi := ⟨some 13, _, _, _, _, _⟩) rfl (by kernel_rfl) (by kernel_rfl) (by kernel_rfl) (fun _ _ _ h => h) (by rfl) (v := .tuple #[.agg #[], .bool R]) (fun w hSw => by exact run_lookT rfl rfl rfl (gS _ hSw)) hS (fun hS => ?_)
  try go_frame
  refine held_pure (i := 6) (oi := ⟨some 7, _, _, _, _, _⟩) rfl (by kernel_rfl) (by kernel_rfl) (by kernel_rfl) (fun _ _ _ h => h) (by rfl) (v := ?_) (fun w hSw => ?_) hS (fun hS => ?_)
  rotate_left
  · go_simp; try with_reducible rfl
  try go_frame
  refine held_pure (i := 7) (oi := ⟨some 14, _, _, _, _, _⟩) rfl (by kernel_rfl) (by kernel_rfl) (by kernel_rfl) (fun _ _ _ h => h) (by rfl) (v := ?_) (fun w hSw => ?_) hS (fun hS => ?_)
  rotate_left
  · go_simp; try with_reducible rfl
  try go_frame
  refine held_pure (i := 8) (oi := ⟨some 15, _, _, _, _, _⟩) rfl (by kernel_rfl) (by kernel_rfl) (by kernel_rfl) (fun _ _ _ h => h) (by rfl) (v := ?_) (fun w hSw => ?_) hS (fun hS => ?_)
  rotate_left
  · go_simp; try with_reducible rfl
  try go_frame
  refine wpAnyH_ready (rs := [9]) (by kernel_rfl) (by simp) (AllReadyH.cons (o := ⟨some 5, _, _, _, _, _⟩) rfl (fun K hK => ?_) AllReadyH.nil)
  rw [if_pos (by rfl)]
  go_simp
  refine hK.out _ _ (hS.alloc hS.size _) (fun hS => ?_)
  clear hK K
  try go_frame
  refine wpAnyH_ready (rs := [10]) (by kernel_rfl) (by simp) (AllReadyH.cons (o := ⟨none, _, _, _, _, _⟩) rfl (fun K hK => ?_) AllReadyH.nil)
  rw [if_pos (by rfl)]
  go_simp
  refine hK.out _ _ hS (fun hS => ?_)
  clear hK K
  try go_frame
  refine held_pure (i := 11) (oi := ⟨some 6, _, _, _, _, _⟩) rfl (by kernel_rfl) (by kernel_rfl) (by kernel_rfl) (fun _ _ _ h => h) (by rfl) (v := ?_) (fun w hSw => ?_) hS (fun hS => ?_)
  rotate_left
  · go_simp; try with_reducible rfl
  try go_frame
  refine wpAnyH_done (by kernel_rfl) ?_ _
  go_wp2_with fail
  go_ret
  exact ⟨rfl, hbV.trans (hS.mono hbV.size)⟩
end
end Go.Proofs.Ytogidfagkgccmaa

/-
  The iterator of Wants (layer 19): the ports of its runs, one behind the other. Conditions are each theorem's own.
-/
namespace Go.Proofs.Ytogidfagkgccmaa
open Go.RowKit Go.Shelf
attribute [local go_sem] Oper.semAt_some
/-- Each block of cells lies as it lay. -/
structure KA (X Y : World) : Prop where
  size : X.heap.size ≤ Y.heap.size
  block : ∀ (k : Nat) (cs : Array Value) (ty : TypeId) (fr : Nat × Nat), X.heap[k]? = some (.cells cs ty fr) → Y.heap[k]? = X.heap[k]?
theorem KA.refl (X : World) : KA X X := ⟨Nat.le_refl _, fun _ _ _ _ _ => rfl⟩
theorem KA.trans {X Y Z : World} (h : KA X Y) (k : KA Y Z) : KA X Z := ⟨Nat.le_trans h.size k.size, fun i cs ty fr hi => (k.block i cs ty fr ((h.block i cs ty fr hi).trans hi)).trans (h.block i cs ty fr hi)⟩
theorem KA.of_below {X Y : World} (h : Below X.heap.size X Y) : KA X Y := ⟨h.size, fun _ _ _ _ hi => h.block _ (heap_lt hi)⟩
theorem KA.loop {X : World} {l : Nat} {r r' : Loop} (hl : X.heap[l]? = some (.loop r)) : KA X (X.putObj l (.loop r')) :=
  ⟨by simp, fun k cs ty fr hk => World.putObj_heap_other (fun e => by rw [e, hl] at hk; cases hk)⟩
theorem KA.heap {X Y : World} {k : Nat} {cs : Array Value} {ty : TypeId} {fr : Nat × Nat} (h : KA X Y) (hk : X.heap[k]? = some (.cells cs ty fr)) : Y.heap[k]? = some (.cells cs ty fr) := (h.block k cs ty fr hk).trans hk
def GT (T : List Int) (pre : List Int) (x : Int) (_ : World) : Prop := ∃ post, T = pre ++ x :: post
def encT (x : Int) : Array Value := #[.int .i64 x]
/-- A run that may be walked. -/
def okR (r : Rn) : Prop := (r.st = 1 ∨ r.st = 2) ∧ 0 ≤ r.lo ∧ r.lo ≤ 70000 ∧ r.hi ≤ 65535
theorem take_flat {rs : List Rn} {k : Nat} {r : Rn} (h : rs[k]? = some r) : (rs.take (k + 1)).flatMap rp = (rs.take k).flatMap rp ++ rp r := by
  have hk := (List.getElem?_eq_some_iff.1 h).1
  rw [List.take_succ_eq_append_getElem hk, List.flatMap_append]
  rw [List.getElem?_eq_getElem hk] at h
  rw [Option.some.inj h]; simp
theorem flat_split {rs : List Rn} {k : Nat} {r : Rn} (h : rs[k]? = some r) : rs.flatMap rp = (rs.take k).flatMap rp ++ (rp r ++ (rs.drop (k + 1)).flatMap rp) := by
  have hk := (List.getElem?_eq_some_iff.1 h).1
  have e : rs = rs.take k ++ rs.drop k := (List.take_append_drop k rs).symm
  rw [List.getElem?_eq_getElem hk] at h
  have e2 : rs.drop k = r :: rs.drop (k + 1) := by rw [List.drop_eq_getElem_cons hk, Option.some.inj h]
  conv => lhs; rw [e, e2]
  simp
set_option maxRecDepth 100000 in
set_option maxHeartbeats 4000000 in
theorem wants1_in (m : Nat) (hm : 1 ≤ m) (l bx gr n : Nat) (rs : List Rn) (hn : Hid (rs.length = n)) (hnl : n ≤ 1000) (hok : ∀ r ∈ rs, okR r) (J Jx : List Int → World → Prop) (W : World) (hJA : AbidesFrom W.heap.size J)
    (hY : ∀ pre x X, J pre X → GT (rs.flatMap rp) pre x X → YieldAt Fence.wide (m - 1) Try.prog l (encT x) X fun e Y =>
      (e = .returned (.bool true) ∧ J (pre ++ [x]) Y ∧ KA X Y) ∨ (e = .returned (.bool false) ∧ Jx (pre ++ [x]) Y))
    (hb : W.heap[bx]? = some (.cells #[.slice (some ⟨gr, 0, none⟩) n n] 177 (0, 0))) (hg : W.heap[gr]? = some (.cells (rs.flatMap clR).toArray 180 (0, 0))) (hJ : J [] W) :
    CallsIn Fence.wide m Try.prog 119 #[.func (.yield l) #[] #[], .pointer (some ⟨bx, 0, none⟩)] W fun e W' => (∃ v, e = .returned v) ∧
      ((∃ xs : List Int, xs = rs.flatMap rp ∧ J xs W') ∨ (∃ pre : List Int, (∃ more, rs.flatMap rp = pre ++ more) ∧ Jx pre W')) := by
  have kb : W.cell? ⟨bx, 0, none⟩ = some (.slice (some ⟨gr, 0, none⟩) n n) := by rw [cell_of_row W bx _ _ _ _ hb]; rfl
  have HG := Lib.hid hg
  have HOK := Lib.hid hok
  have HY := Lib.hid hY
  have HJA := Lib.hid hJA
  clear hg hok hb hJA hY
  refine callsIn_of_wp Try.func119 rfl trivial ?_ rfl
  simp only [Try.ntmps119, List.size_toArray, List.length_cons, List.length_nil, Nat.reduceAdd, Nat.reduceSub, Array.replicate_succ, Array.replicate_zero, List.push_toArray, List.append_toArray, List.nil_append, List.cons_append]
  refine wpIn_wide.2 (wp_scope_straight ((wpIn_wide (n := m)).1 ?_))
  gi_wp2
  refine wpIn_wide.2 (wp_label ?_)
  gi_wp2
  gi_loopw [8] (fun i wr => ∃ k : Nat, k ≤ n ∧ i = .int .i64 (k : Int) ∧ Hid (J ((rs.take k).flatMap rp) wr) ∧ Hid (KA W wr)) (fun i _ => n - (intOf i).toNat)
  case atStart => exact ⟨0, Nat.zero_le _, rfl, Lib.hid hJ, Lib.hid (KA.refl W)⟩
  case round =>
    obtain ⟨k, hk, rfl, HJ, HK⟩ := hrel
    by_cases hlt : k < n
    · obtain ⟨r, hr⟩ : ∃ r, rs[k]? = some r := ⟨_, List.getElem?_eq_getElem (by rw [hn.out]; exact hlt)⟩
      obtain ⟨hst, hlo0, hlo1, hhi⟩ := HOK.out r (List.mem_of_getElem? hr)
      have hgw := HK.out.heap HG.out
      have hrow : wr.rangeAt gr (k * 3) (clR r) := fun j v hj => by
        rw [cell_of_row wr gr _ _ _ _ hgw, List.getElem?_toArray]
        exact flat_at (cl := clR) (sz := 3) rs (fun _ _ => rfl) k r hr j v hj
      have c0 : wr.cell? ⟨gr, k * 3, none⟩ = some (.int .i64 r.lo) := hrow 0 _ rfl
      have c1 : wr.cell? ⟨gr, k * 3 + 1, none⟩ = some (.int .i64 r.hi) := hrow 1 _ rfl
      have c2 : wr.cell? ⟨gr, k * 3 + 2, none⟩ = some (.int .i64 r.st) := hrow 2 _ rfl
      have HR := Lib.hid hr
      have hb4 := AtNew (w := wr) (cs := clR r) (t := 180)
      have hz4 := World.alloc_heap_new wr (.cells (clR r).toArray 180)
      have HKA4 : Hid (KA W (wr.alloc (.cells (clR r).toArray 180))) := Lib.hid (HK.out.trans (KA.of_below ((Below.refl _ wr).alloc (Nat.le_refl _) _)))
      have HJ4 : Hid (J ((rs.take k).flatMap rp) (wr.alloc (.cells (clR r).toArray 180))) := Lib.hid (HJA.out _ wr _ none HJ.out (World.grownBy_alloc wr _ none) (fun r e => by cases e))
      have HF := Lib.hid (flat_split hr)
      have HT := Lib.hid (take_flat hr)
      clear hr hgw hrow
      have hlit : (clR r).toArray = #[.int .i64 r.lo, .int .i64 r.hi, .int .i64 r.st] := rfl
      rw [hlit] at hz4 HKA4 HJ4
      clear hlit hb4
      obtain ⟨w4, hw4⟩ : ∃ x, x = wr := ⟨_, rfl⟩
      subst hw4
      gi_wp2
      gi_loopw [5] (fun s5 w5 => ∃ (q : Int) (pre : List Int), s5 = .int .i64 q ∧ (0 ≤ q ∧ q ≤ 70002) ∧ Hid (rp r = pre ++ rp ⟨q, r.hi, r.st⟩) ∧ Hid (J ((rs.take k).flatMap rp ++ pre) w5) ∧ Hid (KA W w5) ∧ Hid (w5.heap[w4.heap.size]? = some (.cells #[.int .i64 r.lo, .int .i64 r.hi, .int .i64 r.st] 180 (0, 0)))) (fun i _ => (r.hi + 1 - intOf i).toNat)
      case atStart => exact ⟨r.lo, [], rfl, ⟨hlo0, by omega⟩, Lib.hid rfl, Lib.hid (by rw [List.append_nil]; exact HJ4.out), HKA4, Lib.hid hz4⟩
      case round =>
        obtain ⟨q, pre, rfl, ⟨hq0, hq1⟩, HP, HJ5, HK5, HB5⟩ := hrel
        have hst2 : 1 ≤ r.st ∧ r.st ≤ 2 := by omega
        have q0 : wr.cell? ⟨w4.heap.size, 0, none⟩ = some (.int .i64 r.lo) := by rw [cell_of_row wr _ _ _ _ _ HB5.out]; rfl
        have q1 : wr.cell? ⟨w4.heap.size, 1, none⟩ = some (.int .i64 r.hi) := by rw [cell_of_row wr _ _ _ _ _ HB5.out]; rfl
        have q2 : wr.cell? ⟨w4.heap.size, 2, none⟩ = some (.int .i64 r.st) := by rw [cell_of_row wr _ _ _ _ _ HB5.out]; rfl
        by_cases hgt : r.hi < q
        · have HE : Hid (rp r = pre) := Lib.hid (by have := HP.out; rw [rp_nil hgt, List.append_nil] at this; exact this)
          gi_wp2
          go_roundw
          case rel => exact ⟨k + 1, by omega, by simp, Lib.hid (by rw [HT.out, HE.out]; exact HJ5.out), HK5⟩
          case measure => simp [intOf]; omega
        · have hle : q ≤ r.hi := by omega
          have HC : Hid (rp ⟨q, r.hi, r.st⟩ = q :: rp ⟨q + r.st, r.hi, r.st⟩) := Lib.hid (rp_cons hst hle)
          have HGT : Hid (∃ post, rs.flatMap rp = ((rs.take k).flatMap rp ++ pre) ++ q :: post) := Lib.hid ⟨rp ⟨q + r.st, r.hi, r.st⟩ ++ (rs.drop (k + 1)).flatMap rp, by rw [HF.out, HP.out, HC.out]; simp⟩
          have hy0 := HY.out ((rs.take k).flatMap rp ++ pre) q wr HJ5.out HGT.out
          obtain ⟨fn, tmps, assign, body, hy, hR⟩ := hy0
          dsimp only [encT] at hy
          gi_wp2
          refine hR.mono ?_
          rintro e W3 (⟨rfl, hJ3, hk3⟩ | ⟨rfl, hJx3⟩)
          · have hb3 := hk3.heap HB5.out
            have p2 : W3.cell? ⟨w4.heap.size, 2, none⟩ = some (.int .i64 r.st) := by rw [cell_of_row W3 _ _ _ _ _ hb3]; rfl
            have HB3 := Lib.hid hb3
            have HJ3 := Lib.hid hJ3
            clear q0 q1 q2 hb3 hJ3 hy hR
            gi_wp2
            go_roundw
            case rel => exact ⟨q + r.st, pre ++ [q], rfl, ⟨by omega, by omega⟩, Lib.hid (by rw [HP.out, HC.out]; simp), Lib.hid (by rw [← List.append_assoc]; exact HJ3.out), Lib.hid (HK5.out.trans hk3), HB3⟩
            case measure => simp [intOf]; omega
          · have HJX := Lib.hid hJx3
            clear q0 q1 q2 hJx3 hy hR
            gi_wp2
            try rw [Exit.noGoto_normal]
            go_end0
            exact ⟨⟨_, rfl⟩, .inr ⟨_, by obtain ⟨post, hp⟩ := HGT.out; exact ⟨post, by rw [hp]; simp⟩, HJX.out⟩⟩
    · obtain rfl : n = k := by omega
      gi_wp2
      try rw [Exit.noGoto_normal]
      go_end0
      exact ⟨⟨_, rfl⟩, .inl ⟨_, by rw [List.take_of_length_le (by rw [hn.out]; exact Nat.le_refl _)], HJ.out⟩⟩
end Go.Proofs.Ytogidfagkgccmaa

/-
  Wants and give of layer 19. Conditions are each theorem's own.
-/
namespace Go.Proofs.Ytogidfagkgccmaa
open Go.RowKit Go.Shelf Go.Maps
attribute [local go_sem] Oper.semAt_some
theorem ok_each {slo shi lo hi : Int} (h1 : 1 ≤ slo ∧ slo ≤ 65535) (h2 : lo ≤ 65536) (h3 : shi ≤ 65535) : okR (eachR slo shi lo hi) := ⟨.inl rfl, by simp only [eachR]; omega, by simp only [eachR]; omega, by simp only [eachR]; omega⟩
theorem ok_alike {slo shi lo hi p : Int} (h1 : 1 ≤ slo ∧ slo ≤ 65535) (h2 : lo ≤ 65536) (h3 : shi ≤ 65535) : okR (alikeR slo shi lo hi p) := ⟨.inr rfl, by simp only [alikeR]; omega, by simp only [alikeR]; omega, by simp only [alikeR]; omega⟩
theorem near_b (p : Int) : nearL p ≤ 65536 ∧ farL p ≤ 65536 := by unfold nearL farL; by_cases hc : p < 1024 <;> simp only [hc, if_true, if_false] <;> omega
theorem runs_ok {lo hi p : Int} (h1 : 1 ≤ lo) (h2 : lo ≤ 65535) (h3 : hi ≤ 65535) (hp : 0 ≤ p ∧ p ≤ 65535) : ∀ r ∈ runs6 lo hi p, okR r := by
  intro r hr
  simp only [runs6, List.mem_cons, List.not_mem_nil, or_false] at hr
  rcases hr with rfl | rfl | rfl | rfl | rfl
  · exact ok_each ⟨h1, h2⟩ (by omega) h3
  · exact ok_alike ⟨h1, h2⟩ (by omega) h3
  · exact ok_alike ⟨h1, h2⟩ (near_b p).1 h3
  · exact ok_alike ⟨h1, h2⟩ (near_b p).2 h3
  · exact ok_alike ⟨h1, h2⟩ (by omega) h3
/-- The iterator that Wants hands back lies in w. -/
structure WantsAt (w : World) (bx gr : Nat) (lo hi p : Int) : Prop where
  b : w.heap[bx]? = some (.cells #[.slice (some ⟨gr, 0, none⟩) 5 5] 177 (0, 0))
  g : w.heap[gr]? = some (.cells ((runs6 lo hi p).flatMap clR).toArray 180 (0, 0))
theorem WantsAt.seq {w : World} {bx gr : Nat} {lo hi p : Int} (h : WantsAt w bx gr lo hi p) (h1 : 1 ≤ lo) (h2 : lo ≤ 65535) (h3 : hi ≤ 65535) (hp : 0 ≤ p ∧ p ≤ 65535) (m : Nat) (hm : 1 ≤ m) :
    SeqTold m Try.prog 119 #[.pointer (some ⟨bx, 0, none⟩)] encT (GT (tri lo hi p)) KA (fun xs => xs = tri lo hi p) (fun pre => ∃ more, tri lo hi p = pre ++ more) w := by
  intro l J Jx W hW hJ _ hY h0
  exact wants1_in m hm l bx gr 5 (runs6 lo hi p) (Lib.hid rfl) (by omega) (runs_ok h1 h2 h3 hp) J Jx W hJ hY ((hW.block _ (heap_lt h.b)).trans h.b) ((hW.block _ (heap_lt h.g)).trans h.g) h0
section
variable {w : World} {g bm n c m : Nat} {lo hi : Int} {A : Option Addr} {L : List (List Int)}
set_option maxRecDepth 100000 in
set_option maxHeartbeats 1000000 in
theorem p19wants (h : PoolAt w g bm lo hi A n c) (h1 : 1 ≤ lo) (h2 : lo ≤ 65535) (pr p : Int) (hpr : pr = 6 ∨ pr = 17) (hp : 0 ≤ p ∧ p ≤ 65535) :
    Calls Try.prog 77 #[.pointer (some ⟨g, 0, none⟩), .int .i64 pr, .int .i64 p] w fun e w' => (∃ bx gr, e = .returned (.func (.func 119) #[] #[.pointer (some ⟨bx, 0, none⟩)]) ∧ WantsAt w' bx gr lo hi p) ∧ Below w.heap.size w w' := by
  obtain ⟨V, hV⟩ : ∃ V, V = w.alloc (.cells #[.slice none 0 0] 177) := ⟨_, rfl⟩
  have hbV : Below w.heap.size w V := by rw [hV]; exact (Below.refl _ w).alloc (Nat.le_refl _) _
  have hx : Boxed V w.heap.size 177 (.slice none 0 0) := by rw [hV]; exact Boxed.new w _ _
  have hzV : w.heap.size < V.heap.size := by rw [hV]; simp
  have hP := h.of_block (hbV.block _ h.lt)
  have hspan := hP.span
  have HMd := Lib.hid (p19made hP)
  have hmask : bits .and .i64 p 65535 = p := by
    have := bits_mask .i64 63 (by decide) wraps63 16 (by decide) p hp.1 (by omega)
    rw [show (2 : Int) ^ 16 - 1 = 65535 by decide] at this
    rw [this]; omega
  have hV' := hV.symm
  clear hV h hP
  go_enter Try.func77, Try.ntmps77
  go_upto_region 2 with fail
  try rw [hV']
  clear hV'
  go_wp2_with (first
    | (go_at_call 75; refine HMd.out.mono ?_; rintro e w1 ⟨rfl, rfl⟩)
    | ((with_reducible show wpList _ _ _ (Oper.mk _ (Op.load 136 _) _ _ _ _ :: _) _ _); refine wpList_val rfl (ld_span rfl rfl hspan rfl) ?_)
    | (go_at_call 118; refine (p19runs lo hi p pr ⟨by omega, h2⟩ hp hpr V).mono ?_; rintro e w2 ⟨⟨gr, rfl, hgr, hcr⟩, x2⟩; have hx2 := Boxed.below hx x2 hzV; have kx2 := Boxed.cell hx2; have fx2 := heap_frozen (show w2.heap[w.heap.size]? = _ from hx2) 0))
  go_ret
  have hne : gr ≠ w.heap.size := by omega
  exact ⟨⟨w.heap.size, gr, rfl, ⟨Boxed.set _ hx2, (Below.heap_setCell _ _ _ _ hne).trans hcr⟩⟩, (hbV.trans (x2.mono hbV.size)).setCell (Nat.le_refl _) _⟩
/-- All but block b lies as it lay. -/
structure KM (b : Nat) (w w' : World) : Prop where
  size : w.heap.size ≤ w'.heap.size
  os : w'.os = w.os
  tape : w'.tape = w.tape
  output : w'.output = w.output
  block : ∀ k, k ≠ b → k < w.heap.size → w'.heap[k]? = w.heap[k]?
theorem KM.below {b B : Nat} {w w' : World} (h : KM b w w') (hB : B ≤ b) (hw : B ≤ w.heap.size) : Below B w w' := ⟨h.os, h.tape, h.output, h.size, fun k hk => h.block k (by omega) (by omega)⟩
theorem KM.of_below {b : Nat} {w w' : World} (h : Below w.heap.size w w') : KM b w w' := ⟨h.size, h.os, h.tape, h.output, fun k _ hk => h.block k hk⟩
theorem KM.trans {b : Nat} {x y z : World} (h : KM b x y) (k : KM b y z) : KM b x z := ⟨Nat.le_trans h.size k.size, k.os.trans h.os, k.tape.trans h.tape, k.output.trans h.output, fun i hi hx => (k.block i hi (Nat.lt_of_lt_of_le hx h.size)).trans (h.block i hi hx)⟩
theorem KM.of_grown {b : Nat} {w w' : World} (h : w.grownBy w' (some b)) : KM b w w' := ⟨h.size, h.os, h.tape, h.output, fun k hk hl => h.block k hl (fun e => hk (Option.some.inj e))⟩
set_option maxRecDepth 100000 in
set_option maxHeartbeats 1000000 in
theorem p19give (h : PoolAt w g bm lo hi A n c) (hG : Giv w bm m L) (hm : m < 100000) (x : List Int) (hx : wfL 3 x) :
    Calls Try.prog 78 #[.pointer (some ⟨g, 0, none⟩), gk x] w fun e w' => (L.contains x = true ∧ e = .returned (.bool false) ∧ Below w.heap.size w w') ∨ (L.contains x = false ∧ e = .returned (.bool true) ∧ Giv w' bm (m + 1) (L ++ [x]) ∧ KM bm w w') := by
  obtain ⟨V, hV⟩ : ∃ V, V = w.alloc (.cells (clI x).toArray 65) := ⟨_, rfl⟩
  have hbV : Below w.heap.size w V := by rw [hV]; exact (Below.refl _ w).alloc (Nat.le_refl _) _
  have hrV : V.rangeAt w.heap.size 0 (clI x) := by rw [hV]; exact AtNew
  have hzV : w.heap.size < V.heap.size := by rw [hV]; simp
  have hPV := h.of_block (hbV.block _ h.lt)
  have hGV := hG.of_block (hbV.block _ hG.lt)
  have HGiv := Lib.hid (p19given hPV hGV x hx)
  have hl3 : (clI x).length = 3 := by simp [clI, hx.1]
  have HP := Lib.hid hPV
  have HG := Lib.hid hGV
  have HX := Lib.hid hx
  have hV' := hV.symm
  have hgl := h.lt
  have hGl := hG.lt
  clear hV hG h hPV hGV hx
  unfold gk at HGiv ⊢
  rcases hR : L.contains x with _ | _
  · rw [hR] at HGiv
    have HRR := Lib.hid hR
    clear hR
    go_enter Try.func78, Try.ntmps78
    go_upto_region 1 with fail
    try rw [hV']
    clear hV'
    go_upto_region 3 with (first
      | ((with_reducible show wpList _ _ _ (Oper.mk _ (Op.load 65 _) _ _ _ _ :: _) _ _); refine wpList_val rfl (ld_outer rfl rfl hrV hl3) ?_)
      | (go_at_call 113; refine HGiv.out.mono ?_; rintro e w1 ⟨rfl, b1⟩))
    have hP1 := HP.out.of_block (b1.block _ (Nat.lt_trans hgl hzV))
    have hG1 := HG.out.of_block (b1.block _ (Nat.lt_trans hGl hzV))
    have k3 : w1.drew.cell? ⟨g, 3, none⟩ = some (.map (some bm)) := hP1.cells.2.2.2
    have hr1 : w1.drew.rangeAt w.heap.size 0 (clI x) := range_below hrV hzV b1.drew
    obtain ⟨w2, hu, hG2, hg2⟩ := Giv.put (w := w1.drew) (hG1.of_block rfl) (by unfold maxLen; omega) HX.out HRR.out
    unfold gk at hu
    refine wp_region_held_drew (S := fun _ => True) (by kernel_rfl) trivial (fun hS => ?_)
    refine held_pure (i := 0) (oi := ⟨some 8, _, _, _, _, _⟩) rfl (by kernel_rfl) (by kernel_rfl) (by kernel_rfl) (fun _ _ _ h => h) (by rfl) (v := ?_) (fun w hSw => ?_) hS (fun hS => ?_)
    rotate_left
    · go_simp; try with_reducible rfl
    try go_frame
    refine held_pure (i := 1) (oi := ⟨some 9, _, _, _, _, _⟩) rfl (by kernel_rfl) (by kernel_rfl) (by kernel_rfl) (fun _ _ _ h => h) (by rfl) (v := ?_) (fun w hSw => ?_) hS (fun hS => ?_)
    rotate_left
    · go_simp; try with_reducible rfl
    try go_frame
    refine held_pure (i := 2) (oi := ⟨some 10, _, _, _, _, _⟩) rfl (by kernel_rfl) (by kernel_rfl) (by kernel_rfl) (fun _ _ _ h => h) (by rfl) (v := ?_) (fun w hSw => ?_) hS (fun hS => ?_)
    rotate_left
    · go_simp; try with_reducible rfl
    try go_frame
    refine held_pure (i := 5) (oi := ⟨some 13, _, _, _, _, _⟩) rfl (by kernel_rfl) (by kernel_rfl) (by kernel_rfl) (fun _ _ _ h => h) (by rfl) (v := .agg #[]) (fun w hSw => by go_simp) hS (fun hS => ?_)
    try go_frame
    refine wpAnyH_ready (rs := [3, 4]) (by kernel_rfl) (by simp) (AllReadyH.cons (o := ⟨some 11, _, _, _, _, _⟩) rfl (fun K hK => ?_) (AllReadyH.cons (o := ⟨some 12, _, _, _, _, _⟩) rfl (fun K hK => ?_) AllReadyH.nil))
    · rw [if_pos (by rfl)]
      refine wp_turn (v := .map (some bm)) (ld_mapG rfl rfl k3) ?_
      refine hK.out _ _ trivial (fun hS => ?_)
      clear hK K
      try go_frame
      refine wpAnyH_ready (rs := [4]) (by kernel_rfl) (by simp) (AllReadyH.cons (o := ⟨some 12, _, _, _, _, _⟩) rfl (fun K hK => ?_) AllReadyH.nil)
      rw [if_pos (by rfl)]
      refine wp_turn (v := .agg (clI x).toArray) (ld_outer rfl rfl hr1 hl3) ?_
      refine hK.out _ _ trivial (fun hS => ?_)
      clear hK K
      try go_frame
      refine wpAnyH_ready (rs := [6]) (by kernel_rfl) (by simp) (AllReadyH.cons (o := ⟨none, _, _, _, _, _⟩) rfl (fun K hK => ?_) AllReadyH.nil)
      rw [if_pos (by rfl)]
      refine wp_skip (w' := w2) (run_mupd rfl rfl rfl rfl hu) ?_
      refine hK.out _ _ trivial (fun hS => ?_)
      clear hK K
      try go_frame
      refine wpAnyH_done (by kernel_rfl) ?_ _
      go_wp2_with fail
      go_ret
      exact .inr ⟨trivial, rfl, hG2, (KM.of_below (hbV.trans (b1.drew.mono hbV.size))).trans (KM.of_grown hg2)⟩
    · rw [if_pos (by rfl)]
      refine wp_turn (v := .agg (clI x).toArray) (ld_outer rfl rfl hr1 hl3) ?_
      refine hK.out _ _ trivial (fun hS => ?_)
      clear hK K
      try go_frame
      refine wpAnyH_ready (rs := [3]) (by kernel_rfl) (by simp) (AllReadyH.cons (o := ⟨some 11, _, _, _, _, _⟩) rfl (fun K hK => ?_) AllReadyH.nil)
      rw [if_pos (by rfl)]
      refine wp_turn (v := .map (some bm)) (ld_mapG rfl rfl k3) ?_
      refine hK.out _ _ trivial (fun hS => ?_)
      clear hK K
      try go_frame
      refine wpAnyH_ready (rs := [6]) (by kernel_rfl) (by simp) (AllReadyH.cons (o := ⟨none, _, _, _, _, _⟩) rfl (fun K hK => ?_) AllReadyH.nil)
      rw [if_pos (by rfl)]
      refine wp_skip (w' := w2) (run_mupd rfl rfl rfl rfl hu) ?_
      refine hK.out _ _ trivial (fun hS => ?_)
      clear hK K
      try go_frame
      refine wpAnyH_done (by kernel_rfl) ?_ _
      go_wp2_with fail
      go_ret
      exact .inr ⟨trivial, rfl, hG2, (KM.of_below (hbV.trans (b1.drew.mono hbV.size))).trans (KM.of_grown hg2)⟩
  · rw [hR] at HGiv
    have HRR := Lib.hid hR
    clear hR
    go_enter Try.func78, Try.ntmps78
    go_upto_region 1 with fail
    try rw [hV']
    clear hV'
    go_wp2_with (first
      | ((with_reducible show wpList _ _ _ (Oper.mk _ (Op.load 65 _) _ _ _ _ :: _) _ _); refine wpList_val rfl (ld_outer rfl rfl hrV hl3) ?_)
      | (go_at_call 113; refine HGiv.out.mono ?_; rintro e w1 ⟨rfl, b1⟩))
    go_ret
    exact .inl ⟨trivial, rfl, hbV.trans (b1.mono hbV.size)⟩
end
end Go.Proofs.Ytogidfagkgccmaa

/-
  Packets of IPv6 in a block of their own; laws for loads out of it. Conditions are each theorem's own.
-/
namespace Go.Proofs.Ytogidfagkgccmaa
open Go.RowKit

def v6a (q : P6) (A : Option Addr) (c : Nat) : Array Value := (v6l q A c).toArray
def At6 (W : World) (g : Nat) (q : P6) (A : Option Addr) (c : Nat) : Prop := W.rangeAt g 0 (v6l q A c)
section
variable {W : World} {g : Nat} {q : P6} {A : Option Addr} {c : Nat}
theorem At6.below {w : World} {B : Nat} (h : At6 W g q A c) (hb : Below B W w) (hg : g < B) : At6 w g q A c := range_below h hg hb
theorem At6.traffic (h : At6 W g q A c) : W.cell? ⟨g, 0, none⟩ = some (.int .i64 q.traffic) := h 0 _ rfl
theorem At6.flow (h : At6 W g q A c) : W.cell? ⟨g, 1, none⟩ = some (.int .i64 q.flow) := h 1 _ rfl
theorem At6.next (h : At6 W g q A c) : W.cell? ⟨g, 2, none⟩ = some (.int .i64 q.next) := h 2 _ rfl
theorem At6.hop (h : At6 W g q A c) : W.cell? ⟨g, 3, none⟩ = some (.int .i64 q.hop) := h 3 _ rfl
theorem v6l_src (j : Nat) (v : Value) (hj : (row q.src)[j]? = some v) : (v6l q A c)[4 + j]? = some v := by
  have hl : j < (row q.src).length := (List.getElem?_eq_some_iff.1 hj).1
  rw [v6l, List.append_assoc, List.append_assoc, List.getElem?_append_right (by simp)]
  rw [show 4 + j - [Value.int .i64 q.traffic, .int .i64 q.flow, .int .i64 q.next, .int .i64 q.hop].length = j from by simp]
  rw [List.getElem?_append_left hl]; exact hj
theorem v6l_dst (hs : q.src.length = 16) (j : Nat) (v : Value) (hj : (row q.dst)[j]? = some v) : (v6l q A c)[20 + j]? = some v := by
  have hl : j < (row q.dst).length := (List.getElem?_eq_some_iff.1 hj).1
  have e : ([Value.int .i64 q.traffic, .int .i64 q.flow, .int .i64 q.next, .int .i64 q.hop] ++ row q.src).length = 20 := by simp [row_length, hs]
  rw [v6l, List.append_assoc, List.getElem?_append_right (by rw [e]; omega), e, show 20 + j - 20 = j from by omega, List.getElem?_append_left hl]; exact hj
theorem v6l_dat (hs : q.src.length = 16) (hd : q.dst.length = 16) : (v6l q A c)[36]? = some (.slice A q.dat.length c) := by
  have e : ([Value.int .i64 q.traffic, .int .i64 q.flow, .int .i64 q.next, .int .i64 q.hop] ++ row q.src ++ row q.dst).length = 36 := by simp [row_length, hs, hd]
  rw [v6l, List.getElem?_append_right (by rw [e]; omega), e]; rfl
theorem v6l_len (hs : q.src.length = 16) (hd : q.dst.length = 16) : (v6l q A c).length = 37 := by simp [v6l, row_length, hs, hd]
theorem At6.src (h : At6 W g q A c) : W.rangeAt g 4 (row q.src) := fun j v hj => by
  have := h (4 + j) v (v6l_src j v hj); rwa [Nat.zero_add] at this
theorem At6.dst (h : At6 W g q A c) (hs : q.src.length = 16) : W.rangeAt g 20 (row q.dst) := fun j v hj => by
  have := h (20 + j) v (v6l_dst hs j v hj); rwa [Nat.zero_add] at this
theorem At6.dat (h : At6 W g q A c) (hs : q.src.length = 16) (hd : q.dst.length = 16) : W.cell? ⟨g, 36, none⟩ = some (.slice A q.dat.length c) := h 36 _ (v6l_dat hs hd)
end
theorem run_load_six {o : Oper} {a : Act} {w : World} {x : Operand} {g i : Nat} {cs : List UInt8} (ho : o.op = .load 70 x) (hx : a.eval x = .pointer (some ⟨g, i, none⟩)) (hr : w.rangeAt g i (row cs)) (hl : cs.length = 16) :
    (execOp a.eval o).run Try.prog w = .ok (.value (.agg (cel cs))) w := by
  have h := run_loadVar_mid (P := Try.prog) w g i 70 (row cs) _ hr Try.underlying70 rfl (by rw [row_length, hl]; kernel_rfl)
  unfold execOp
  simp only [ho, hx, Instr.loadAt, Instr.sureAddr, Sem.run_bind, Sem.run_pure, Result.andThen_ok, h, cel]
/-- An operation that yields a value and is wanted. -/
theorem wpList_valg {P : Program} {ops : Array Oper} {rest : List Oper} {o : Oper} {a : Act} {w : World} {Q : Exit → Act → World → Prop} {v : Value} (hw : Region.wanted o (yielded ops a.tmps) = true) (hrun : (execOp a.eval o).run P w = .ok (.value v) w)
    (h : wpList P ops Q rest (a.put o.dst v) w) : wpList P ops Q (o :: rest) a w :=
  wpList_step fun K hK => by rw [if_pos hw]; unfold Oper.wp; rw [hrun]; exact hK _ _ h
def flowB (q : P6) : Bool := decide (0 ≤ q.flow) && decide (q.flow < 1048576)
theorem arg6_iff (q : P6) : arg6 q ↔ (fitsB q.traffic 1 = true ∧ fitsB q.next 1 = true ∧ fitsB q.hop 1 = true ∧ flowB q = true) := by
  unfold arg6 flowB
  simp only [Bool.and_eq_true, fitsB_iff, decide_eq_true_eq, pw]
  constructor
  · rintro ⟨a1, a2, a3, a4, a5, a6, a7, a8⟩
    refine ⟨⟨?_, ?_, ?_, ?_⟩, ⟨?_, ?_, ?_, ?_⟩, ⟨?_, ?_, ?_, ?_⟩, ?_, ?_⟩ <;> (try simp) <;> omega
  · rintro ⟨⟨_, _, f1, f2⟩, ⟨_, _, g1, g2⟩, ⟨_, _, h1, h2⟩, m1, m2⟩
    simp at f2 g2 h2
    refine ⟨?_, ?_, ?_, ?_, ?_, ?_, ?_, ?_⟩ <;> omega
section
variable (q : P6) (A : Option Addr) (c : Nat) (w : World)
end
end Go.Proofs.Ytogidfagkgccmaa

/-
  Contracts of Check, numbers and Same of layer 6, the program's and the document's. Conditions are each theorem's own.
-/
namespace Go.Proofs.Ytogidfagkgccmaa
open Go.RowKit

/-- Integers in an array. -/
def zat (zs : List Int) (i : Nat) : Int := zs.getD i 0
def ivs (zs : List Int) : Array Value := (zs.map (Value.int .i64)).toArray
theorem ivs_get (zs : List Int) {j : Nat} (h : j < zs.length) : (ivs zs)[j]? = some (.int .i64 (zat zs j)) := by
  simp [ivs, zat, h]
theorem ints_items (a b : List Int) (d : Nat) (w : World) : ∀ is : List Nat, (∀ i ∈ is, i < a.length ∧ i < b.length) →
    (Op.eqItems (d + 1) 3 1 (ivs a) (ivs b) is).run Try.prog w = .ok (decide (∀ i ∈ is, zat a i = zat b i)) w
  | [], _ => by simp [Op.eqItems]
  | i :: is, h => by
    have hp : Try.prog.plainKey 3 = true := by kernel_rfl
    obtain ⟨h1, h2⟩ := h i (by simp)
    have p1 := run_part_plain (P := Try.prog) w hp (off := i * 1) (by rw [Nat.mul_one]; exact ivs_get a h1)
    have p2 := run_part_plain (P := Try.prog) w hp (off := i * 1) (by rw [Nat.mul_one]; exact ivs_get b h2)
    have p3 := run_equalIn_int w d 3 .i64 .i64 (zat a i) (zat b i) Try.underlying3
    have ih := ints_items a b d w is (fun j hj => h j (by simp [hj]))
    simp only [Op.eqItems, Sem.run_bind, p1, p2, p3, Result.andThen_ok]
    by_cases he : zat a i = zat b i
    · simp [he, ih]
    · simp [he]
set_option maxRecDepth 100000 in
theorem ints_eq (T : TypeId) (n : Nat) (hT : Try.prog.underlying T = some (.array n 3)) (a b : List Int) (ha : a.length = n) (hb : b.length = n) (w : World) :
    (Op.equalIn 10000 T (.agg (ivs a)) (.agg (ivs b))).run Try.prog w = .ok (decide (a = b)) w := by
  have hi : ∃ i, Try.prog.info? 3 = some i := Option.isSome_iff_exists.1 (by kernel_rfl)
  obtain ⟨i, hi⟩ := hi
  have hc : Try.prog.cellsOf 3 = 1 := by kernel_rfl
  rw [show (10000 : Nat) = 9998 + 1 + 1 from rfl, run_equalIn_array w 9999 (ivs a) (ivs b) hT hi, hc, ints_items a b 9998 w _ (by simp; omega)]
  congr 1
  rw [decide_eq_decide]
  constructor
  · intro h
    refine List.ext_getElem (by omega) fun i h1 h2 => ?_
    have := h i (by simp; omega)
    simpa [zat, List.getD_eq_getElem?_getD, h1, h2] using this
  · rintro rfl i _; rfl
section
variable (q : P6) (A : Option Addr) (c : Nat) (w : World)
end
end Go.Proofs.Ytogidfagkgccmaa

/-
  Contracts of numbers and Same of layer 6, the program's and the document's. Conditions are each theorem's own.
-/
namespace Go.Proofs.Ytogidfagkgccmaa
open Go.RowKit

section
variable (q r : P6) (A : Option Addr) (c : Nat) (X : Option Addr) (d B : Nat) (w : World)
end
end Go.Proofs.Ytogidfagkgccmaa

/-
  Laws for copy into a row of bytes of the call's own, and for slices of arrays. Conditions are each theorem's own.
-/
namespace Go.Proofs.Ytogidfagkgccmaa
open Go.RowKit

theorem row_splice (cur bs : List UInt8) (off : Nat) : splice (row cur) off (row bs) = row (splice cur off bs) := by
  simp [splice, row, List.map_take, List.map_drop]
theorem Rd.of_range {w : World} {g i B : Nat} {bs : List UInt8} (h : w.rangeAt g i (row bs)) (hg : g < B) : Rd w B (some ⟨g, i, none⟩) bs := fun _ =>
  ⟨g, i, rfl, hg, fun j hj => h j _ (row_get bs hj)⟩
section
variable {ops : Array Oper} {o : Oper} {a : Act} {w : World} {Q : Exit → Act → World → Prop}
theorem copy_wp {K : Act → World → Prop} (d s : Operand) (ho : o.op = .call { callee := .builtin .copy, args := #[d, s], argTypes := #[32, 32] })
    (g off dLen dCap : Nat) (dp A : Option Addr) (bs : List UInt8) (c B : Nat) (hd : a.eval d = .slice dp dLen dCap) (hdp : 0 < bs.length → dp = some ⟨g, off, none⟩) (hs : a.eval s = .slice A bs.length c)
    (cur : List UInt8) (hg : w.heap[g]? = some (.cells (row cur).toArray 5 (0, 0))) (hn : bs.length ≤ dLen) (hr : Rd w B A bs) (hfit : off + bs.length ≤ cur.length)
    (w0 : World) (B0 : Nat) (hb : Below B0 w0 w) (hBg : B0 ≤ g) (cur' : List UInt8) (hc' : cur' = splice cur off bs)
    (h : ∀ w', Hid (w'.heap[g]? = some (.cells (row cur').toArray 5 (0, 0))) → Below B0 w0 w' → w'.heap.size = w.heap.size → K (a.put o.dst (goInt bs.length)) w') : Oper.wp Try.prog o a w K Q := by
  subst hc'
  by_cases h0 : bs.length = 0
  · obtain rfl : bs = [] := List.eq_nil_of_length_eq_zero h0
    have hrun := run_copy_none (P := Try.prog) w 32 32 o.type 5 dp A dLen dCap 0 c Try.underlying32 size_u8 (Nat.zero_min _)
    unfold Oper.wp
    simp [execOp, ho, resolve, invoke, builtin, hd, hs, hrun, Result.andThen]
    exact h w (Lib.hid (by rw [hg]; simp [splice])) hb rfl
  · obtain ⟨b, of, rfl, hbB, hc⟩ := hr (by omega)
    have hrun := run_copy_row (P := Try.prog) w 32 32 o.type 5 g off dLen dCap ⟨b, of, none⟩ bs.length c (row cur).toArray 5 (row bs) Try.underlying32 size_u8 hg (by rw [row_length]; exact (Nat.min_eq_left hn).symm)
      (fun j v hj => by
        have hj' : j < bs.length := by have := (List.getElem?_eq_some_iff.1 hj).1; rwa [row_length] at this
        rw [row_getD bs hj' hj, add_off]; exact hc j hj') (by simp [row_length]; omega) (row_one bs)
    have hdp' := hdp (by omega)
    subst hdp'
    rw [row_length] at hrun
    unfold Oper.wp
    simp [execOp, ho, resolve, invoke, builtin, hd, hs, hrun, Result.andThen]
    change K (a.put o.dst (goInt (bs.length : Int))) _
    refine h _ (Lib.hid ?_) (below_setRow hb hBg _) (by simp)
    rw [setRow_heap _ _ _ _ _ _ hg, ← row_splice, splice, row_length]
theorem copy_wl {rest : List Oper} (hgd : o.guard = none) (d s : Operand) (ho : o.op = .call { callee := .builtin .copy, args := #[d, s], argTypes := #[32, 32] })
    (g off dLen dCap : Nat) (dp A : Option Addr) (bs : List UInt8) (c B : Nat) (hd : a.eval d = .slice dp dLen dCap) (hdp : 0 < bs.length → dp = some ⟨g, off, none⟩) (hs : a.eval s = .slice A bs.length c)
    (cur : List UInt8) (hg : w.heap[g]? = some (.cells (row cur).toArray 5 (0, 0))) (hn : bs.length ≤ dLen) (hr : Rd w B A bs) (hfit : off + bs.length ≤ cur.length)
    (w0 : World) (B0 : Nat) (hb : Below B0 w0 w) (hBg : B0 ≤ g) (cur' : List UInt8) (hc' : cur' = splice cur off bs)
    (h : ∀ w', Hid (w'.heap[g]? = some (.cells (row cur').toArray 5 (0, 0))) → Below B0 w0 w' → w'.heap.size = w.heap.size → wpList Try.prog ops Q rest (a.put o.dst (goInt bs.length)) w') : wpList Try.prog ops Q (o :: rest) a w :=
  wpList_plain hgd fun _ hK => copy_wp d s ho g off dLen dCap dp A bs c B hd hdp hs cur hg hn hr hfit w0 B0 hb hBg cur' hc' (fun w' h1 h2 h3 => hK _ _ (h w' h1 h2 h3))
theorem splice_mid4 {α : Type} (a z bs : List α) (k : Nat) (hk : a.length = k) : splice (a ++ z) k bs = (a ++ bs) ++ z.drop bs.length := by
  subst hk
  simp [splice]
theorem splice_mid (a z bs : List UInt8) (k : Nat) (hk : a.length = k) : splice (a ++ z) k bs = (a ++ bs) ++ z.drop bs.length := by
  subst hk
  simp [splice]
theorem out6 (q : P6) (hs : q.src.length = 16) (hd : q.dst.length = 16) (n : Nat) (hn : n = 40 + q.dat.length) : ∃ C5 C7 C8 : List UInt8, C5 = splice (List.replicate n 0) 0 (hd6 q) ∧ C7 = splice C5 8 q.src ∧ C8 = splice C7 24 q.dst ∧ bld6 q = splice C8 40 q.dat ∧ C5.length = n ∧ C7.length = n ∧ C8.length = n := by
  have h8 := hd6_len q
  have e5 := splice_mid [] (List.replicate n 0) (hd6 q) 0 rfl
  have e7 := splice_mid (hd6 q) ((List.replicate n 0).drop 8) q.src 8 h8
  have e8 := splice_mid (hd6 q ++ q.src) (((List.replicate n 0).drop 8).drop 16) q.dst 24 (by simp [h8, hs])
  have e9 := splice_mid (hd6 q ++ q.src ++ q.dst) ((((List.replicate n 0).drop 8).drop 16).drop 16) q.dat 40 (by simp [h8, hs, hd])
  rw [h8] at e5; rw [hs] at e7; rw [hd] at e8
  simp only [List.nil_append] at e5
  refine ⟨_, _, _, rfl, rfl, rfl, ?_, ?_, ?_, ?_⟩
  · rw [e5, e7, e8, e9, bld6]
    simp [hn]; omega
  · rw [e5]; simp [h8]; omega
  · rw [e5, e7]; simp [h8, hs]; omega
  · rw [e5, e7, e8]; simp [h8, hs, hd]; omega
theorem putL_6 (q : P6) (n : Int) (h : arg6 q) (hl : (q.dat.length : Int) ≤ 65535) (hn : n = fst6 q) : putL [(n, 4), ((q.dat.length : Int), 2), (q.next, 1), (q.hop, 1)] = hd6 q := by
  obtain ⟨a1, a2, a3, a4, a5, a6, a7, a8⟩ := h
  have hf : fst6 q = 1610612736 + q.traffic * 1048576 + q.flow := rfl
  subst hn
  simp only [putL, List.foldl_cons, List.foldl_nil]
  rw [put_four (by omega) (by omega), put_two (by omega) hl, put_one a3 a4, put_one a5 a6, hd6]
  simp
theorem fst6_bits (q : P6) (h : arg6 q) : bits .or .i64 (wrap64 (bits .or .i64 1536 q.traffic * 1048576)) q.flow = fst6 q := by
  obtain ⟨a1, a2, a3, a4, a5, a6, a7, a8⟩ := h
  have e1 := or_byte 6 q.traffic (by omega) (by omega) a1 a2
  have e1' : bits .or .i64 1536 q.traffic = 1536 + q.traffic := by simpa using e1
  have e2 : wrap64 ((1536 + q.traffic) * 1048576) = (1536 + q.traffic) * 1048576 := by
    have := IntWalk.i64_in ((1536 + q.traffic) * 1048576) (by omega)
    simpa [wrap64, IntKind.wrap_i64] using this
  have e3 := bits_join .i64 62 (by decide) wraps_i64 20 ((1536 + q.traffic) * 1048576) q.flow (by omega) (by omega) (by omega) a7 (by omega) (by omega)
  have hf : fst6 q = 1610612736 + q.traffic * 1048576 + q.flow := rfl
  rw [e1', e2, e3, hf]; omega
theorem run_slice_six {x : Operand} {g i : Nat} (ho : o.op = .slice 70 x none none none) (hx : a.eval x = .pointer (some ⟨g, i, none⟩)) :
    (execOp a.eval o).run Try.prog w = .ok (.value (.slice (some ⟨g, i, none⟩) 16 16)) w := by
  unfold execOp
  simp only [ho, hx, Option.map]
  go_simp
end
end Go.Proofs.Ytogidfagkgccmaa

/-
  Contract of v6.Build. Conditions are each theorem's own.
-/
namespace Go.Proofs.Ytogidfagkgccmaa
open Go.RowKit

theorem chk6_zero {q : P6} (h : chk6 q = 0) : arg6 q ∧ (q.dat.length : Int) ≤ 65535 := by
  have ha : arg6 q := by
    rcases Decidable.em (arg6 q) with h' | h'
    · exact h'
    · rw [chk6, if_neg h'] at h; omega
  refine ⟨ha, ?_⟩
  rcases Int.lt_or_le 65535 (q.dat.length : Int) with h' | h'
  · rw [chk6, if_pos ha, if_pos h'] at h; omega
  · exact h'
section
variable (q : P6) (A : Option Addr) (c : Nat) (w : World)
end
end Go.Proofs.Ytogidfagkgccmaa

/-
  Contract of v6.Quoted. Conditions are each theorem's own.
-/
namespace Go.Proofs.Ytogidfagkgccmaa
open Go.RowKit

theorem Made.later {W w1 w2 : World} {v : Value} {bs : List UInt8} (h : Made W w1 v bs) (hb : Below w1.heap.size w1 w2) : Made W w2 v bs := by
  obtain ⟨A, c, rfl, hl, hr, ho, hB⟩ := h
  exact Made.of_own (own_below ho hb) (hB.trans (hb.mono hB.size))
theorem v6a_one (q : P6) (A : Option Addr) (c : Nat) : (v6a q A c).all (·.oneCell') = true := by
  refine Array.all_eq_true_iff_forall_mem.2 fun v hv => ?_
  have hv' : v ∈ v6l q A c := by simpa [v6a] using hv
  simp only [v6l, List.mem_append, List.mem_cons, List.not_mem_nil, or_false] at hv'
  rcases hv' with (((h | h | h | h) | h) | h) | h
  · subst h; rfl
  · subst h; rfl
  · subst h; rfl
  · subst h; rfl
  · exact row_one _ v h
  · exact row_one _ v h
  · subst h; rfl
theorem six_cells (q : P6) (A : Option Addr) (c : Nat) (ss dd : List UInt8) (hs : ss.length = 16) (hd : dd.length = 16) :
    splice (splice (v6l ⟨q.traffic, q.flow, q.next, q.hop, nul, nul, q.dat⟩ A c) 4 (row ss)) 20 (row dd) = v6l ⟨q.traffic, q.flow, q.next, q.hop, ss, dd, q.dat⟩ A c := by
  have e0 : (row nul).length = 16 := by rw [row_length]; rfl
  have es : (row ss).length = 16 := by rw [row_length, hs]
  have ed : (row dd).length = 16 := by rw [row_length, hd]
  simp only [v6l]
  rw [List.append_assoc, List.append_assoc, splice_mid4 _ _ _ 4 rfl, es, List.drop_append_of_le_length (by omega), List.drop_of_length_le (by omega), List.nil_append,
    splice_mid4 _ _ _ 20 (by simp [es]), ed, List.drop_append_of_le_length (by omega), List.drop_of_length_le (by omega), List.nil_append]
section
variable (b : List UInt8) (A : Option Addr) (c : Nat) (w : World)
end
end Go.Proofs.Ytogidfagkgccmaa

/-
  Contract of v6.Parse. Conditions are each theorem's own.
-/
namespace Go.Proofs.Ytogidfagkgccmaa
open Go.RowKit

theorem end6_len (b : List UInt8) (h : ¬ b.length < 40) : ((b.take (end6 b)).drop 40).length = end6 b - 40 := by
  have : end6 b ≤ b.length := by unfold end6; omega
  simp; omega
theorem prs6_len (b : List UInt8) (u : Bool) : (prs6 b u).src.length = 16 ∧ (prs6 b u).dst.length = 16 := by
  unfold prs6
  by_cases h : bad6 b u = 0
  · rw [if_pos h]
    have h40 : ¬ b.length < 40 := fun h' => by rw [bad6, if_pos h'] at h; omega
    simp only [raw6, List.length_take, List.length_drop]
    omega
  · rw [if_neg h]; exact ⟨rfl, rfl⟩
section
variable (b : List UInt8) (A : Option Addr) (c : Nat) (w : World)
end
end Go.Proofs.Ytogidfagkgccmaa

/-
  Single cells stored into a block of the call's own, as operations; a packet of IPv6 that is filled cell by cell. Conditions are each theorem's own.
-/
namespace Go.Proofs.Ytogidfagkgccmaa
open Go.RowKit

section
variable {o : Oper} {a : Act} {w : World} {K : Act → World → Prop} {Q : Exit → Act → World → Prop} {x y : Operand} {p : Addr} {v0 : Value}
theorem store_int_wp {n : Int} (ho : o.op = .store 3 x y) (hx : a.eval x = .pointer (some p)) (hy : a.eval y = .int .i64 n) (hc : w.cell? p = some v0) (hf : w.frozen? p = false) (h : K (a.put o.dst undef) (w.setCell p (.int .i64 n))) : o.wp Try.prog a w K Q := by
  unfold Oper.wp execOp
  simp only [ho, hx, hy]
  go_simp
  exact h
theorem store_u8_wp {n : Int} (ho : o.op = .store 5 x y) (hx : a.eval x = .pointer (some p)) (hy : a.eval y = .int .u8 n) (hc : w.cell? p = some v0) (hf : w.frozen? p = false) (h : K (a.put o.dst undef) (w.setCell p (.int .u8 n))) : o.wp Try.prog a w K Q := by
  unfold Oper.wp execOp
  simp only [ho, hx, hy]
  go_simp
  exact h
end
theorem OwnR.row_other {w0 w : World} {t n g : Nat} {cs : Array Value} (h : OwnR w0 t n w) (hg : w0.heap.size < g) : OwnR w0 t n (w.setRow g cs) := by
  obtain ⟨hB, c0, hn, h0⟩ := h
  exact ⟨below_row hB (by omega), c0, hn, (setRow_other w g _ cs (by omega)).trans h0⟩
theorem OwnR.set {w0 w : World} {t n g i : Nat} {v : Value} (h : OwnR w0 t n w) (hg : w0.heap.size < g) : OwnR w0 t n (w.setCell ⟨g, i, none⟩ v) := by
  obtain ⟨hB, c0, hn, h0⟩ := h
  exact ⟨hB.setCell (p := ⟨g, i, none⟩) (by show _ ≤ g; omega) v, c0, hn, (heap_setCell_other w ⟨g, i, none⟩ _ v (by show _ ≠ g; omega)).trans h0⟩
section
variable {w w' : World} {g i : Nat} {q q' : P6} {A A' : Option Addr} {c c' : Nat} {v : Value}
end
/-- The first k bytes, and noughts up to 16. -/
def fil (l : List UInt8) (k : Nat) : List UInt8 := l.take k ++ List.replicate (16 - k) 0
theorem fil_len (l : List UInt8) {k : Nat} (hk : k ≤ 16) (hl : 16 ≤ l.length) : (fil l k).length = 16 := by simp [fil]; omega
theorem fil_zero (l : List UInt8) : fil l 0 = nul := rfl
theorem fil_all (l : List UInt8) : fil l 16 = l.take 16 := by simp [fil]
theorem fil_set (l : List UInt8) {k : Nat} (hk : k < 16) (hl : 16 ≤ l.length) : (fil l k).set k l[k] = fil l (k + 1) := by
  unfold fil
  have e : (l.take k).length = k := by simp; omega
  rw [List.set_append_right _ _ (by omega), e, Nat.sub_self, show 16 - k = (16 - (k + 1)) + 1 from by omega, List.replicate_succ, List.set_cons_zero, List.take_succ_eq_append_getElem (by omega), List.append_assoc]
  rfl
theorem row_setb (l : List UInt8) (k : Nat) (x : UInt8) : (row l).set k (.int .u8 (x.toNat : Int)) = row (l.set k x) := by simp [row, List.map_set]
theorem set_src (q : P6) (A : Option Addr) (c k : Nat) (x : UInt8) (hk : k < 16) (hs : q.src.length = 16) : (v6a q A c).setIfInBounds (4 + k) (.int .u8 (x.toNat : Int)) = v6a ⟨q.traffic, q.flow, q.next, q.hop, q.src.set k x, q.dst, q.dat⟩ A c := by
  have h4 : ([Value.int .i64 q.traffic, .int .i64 q.flow, .int .i64 q.next, .int .i64 q.hop]).length = 4 := rfl
  rw [v6a, v6a, List.setIfInBounds_toArray, v6l, v6l]
  congr 1
  simp only [List.append_assoc]
  rw [List.set_append_right _ _ (by rw [h4]; omega), h4, show 4 + k - 4 = k from by omega, List.set_append_left _ _ (by rw [row_length]; omega), row_setb]
theorem set_dst (q : P6) (A : Option Addr) (c k : Nat) (x : UInt8) (hk : k < 16) (hs : q.src.length = 16) (hd : q.dst.length = 16) : (v6a q A c).setIfInBounds (20 + k) (.int .u8 (x.toNat : Int)) = v6a ⟨q.traffic, q.flow, q.next, q.hop, q.src, q.dst.set k x, q.dat⟩ A c := by
  have h4 : ([Value.int .i64 q.traffic, .int .i64 q.flow, .int .i64 q.next, .int .i64 q.hop] ++ row q.src).length = 20 := by simp [row_length, hs]
  rw [v6a, v6a, List.setIfInBounds_toArray, v6l, v6l]
  congr 1
  rw [List.append_assoc, List.append_assoc (_ ++ row q.src), List.set_append_right _ _ (by rw [h4]; omega), h4, show 20 + k - 20 = k from by omega, List.set_append_left _ _ (by rw [row_length]; omega), row_setb]
theorem set_dat (q : P6) (A P : Option Addr) (c p : Nat) (D : List UInt8) (hs : q.src.length = 16) (hd : q.dst.length = 16) : (v6a q A c).setIfInBounds 36 (.slice P D.length p) = v6a ⟨q.traffic, q.flow, q.next, q.hop, q.src, q.dst, D⟩ P p := by
  have h4 : ([Value.int .i64 q.traffic, .int .i64 q.flow, .int .i64 q.next, .int .i64 q.hop] ++ row q.src ++ row q.dst).length = 36 := by simp [row_length, hs, hd]
  rw [v6a, v6a, List.setIfInBounds_toArray, v6l, v6l]
  congr 1
  rw [List.set_append_right _ _ (by rw [h4]; omega), h4]; rfl
end Go.Proofs.Ytogidfagkgccmaa
