/-
  For every address and number, goosepondlaw20.ConfigBase answers true: the ordinary config is what the document says, each time new, and may be.
  Conditions: none but the statement's own.
-/
import Derived.Test.YtogidfagkgccmaaRows
import Derived.WalkKit
import Derived.ProofKit
import Derived.OpenShut
import Derived.ChangeOld
import Derived.Below
import Derived.Test.YtogidfagkgccmaaCa2
import Derived.Test.YtogidfagkgccmaaCa8
namespace Go.Proofs.Ytogidfagkgccmaa.configBase
open Go.ChangeShapes Go.WideShapes Go.ChangeAt Go.RowKit
set_option linter.unusedVariables false
attribute [local go_sem] Oper.semAt_some

theorem own : ownKnob Try.prog.godebug = none := by kernel_rfl
theorem laidOut : laidOutB Try.prog = true := by kernel_rfl

/-! ### The walk -/
set_option maxRecDepth 100000 in
set_option maxHeartbeats 4000000 in
theorem walk (b0 : List UInt8) (a1 : Int) (w : World) (h0 : b0.length = 16) (w1 : (Lit.int .i64 a1).wf = true) :
    Calls Try.prog 9 #[.agg (cel b0), .int .i64 a1] w fun e w' => e = .returned (.bool true) ∧ Below w.heap.size w w' := by
  have hra : (row b0).length = 16 := by rw [row_length]; exact h0
  have hrs : (row b0).toArray.size = 16 := by simpa using hra
  have hone := six_one b0
  show Calls Try.prog 9 #[.agg (row b0).toArray, .int .i64 a1] w _
  obtain ⟨W0, hW0⟩ : ∃ W0, W0 = w.alloc (.cells (row b0).toArray 70) := ⟨_, rfl⟩
  have hb0 : Below w.heap.size w W0 := by rw [hW0]; exact (Below.refl _ w).alloc (Nat.le_refl _) _
  have hS0 : W0.rangeAt w.heap.size 0 (row b0) := by rw [hW0]; exact AtNew
  have hz0 : w.heap.size < W0.heap.size := by rw [hW0]; simp
  have hW0' := hW0.symm
  clear hW0
  go_enter Try.func9, Try.ntmps9
  go_upto_region 1 with fail
  try rw [hW0']
  clear hW0'
  go_upto_region 2 with (first
    | (go_at_call 41; refine (c20base W0).mono ?_; rintro e u0 ⟨⟨g1, g2, rfl, hb⟩, y0⟩)
    | ((with_reducible show wpList _ _ _ (Oper.mk none (Op.store 74 _ _) _ _ _ _ :: _) _ _); refine strn_cfg rfl rfl rfl (by rw [cfa_base]; rfl) (cfa_one _) ?_))
  obtain ⟨W, hW⟩ : ∃ W, W = u0.alloc (.cells (cfa (cfb (some ⟨g1, 0, none⟩) (some ⟨g2, 0, none⟩))) 74) := ⟨_, rfl⟩
  have hbW : Below u0.heap.size u0 W := by rw [hW]; exact (Below.refl _ u0).alloc (Nat.le_refl _) _
  have hAt : AtC W u0.heap.size (cfb (some ⟨g1, 0, none⟩) (some ⟨g2, 0, none⟩)) := by rw [hW]; exact AtC.new _ _ _
  have hzW : u0.heap.size < W.heap.size := by rw [hW]; simp
  rw [← hW]
  clear hW
  have hB2 := hb.below hbW
  have k1 : W.cell? ⟨u0.heap.size, 16, none⟩ = some (.slice (some ⟨g1, 0, none⟩) 2 2) := hAt.at_ rfl (j := 0) rfl
  have k2 : W.cell? ⟨u0.heap.size, 17, none⟩ = some (.slice (some ⟨g2, 0, none⟩) 1 1) := hAt.at_ rfl (j := 1) rfl
  have hg1 := heap_lt hb.h1
  have hg2 := heap_lt hb.h2
  have lo1 := hb.lo1
  have lo2 := hb.lo2
  have bw0 : Below w.heap.size w u0 := hb0.trans (y0.mono hb0.size)
  have bwW : Below w.heap.size w W := bw0.trans (hbW.mono bw0.size)
  have hS1 : W.rangeAt w.heap.size 0 (row b0) := range_below hS0 hz0 (y0.trans (hbW.mono y0.size))
  have hSt : Stored w W W g1 g2 := ⟨bwW, Nat.le_refl _, fun _ _ _ _ => rfl, there_of_heap hB2.h1 (by show 16 ≤ 32; omega), there_of_heap hB2.h2 (Nat.le_refl _)⟩
  have zW := Nat.lt_of_lt_of_le hz0 (Nat.le_trans y0.size hbW.size)
  have kS1 := fun V (hV : Stored w W V g1 g2) => (World.cell?_of_block (a := ⟨u0.heap.size, 16, none⟩) (hV.same u0.heap.size (by omega) (by omega) hzW)).trans k1
  have kS2 := fun V (hV : Stored w W V g1 g2) => (World.cell?_of_block (a := ⟨u0.heap.size, 17, none⟩) (hV.same u0.heap.size (by omega) (by omega) hzW)).trans k2
  have rS := fun V (hV : Stored w W V g1 g2) => (fun (j : Nat) (v : Value) (hj : (row b0)[j]? = some v) => (World.cell?_of_block (a := ⟨w.heap.size, 0 + j, none⟩) (hV.same w.heap.size (by omega) (by omega) zW)).trans (hS1 j v hj) : V.rangeAt w.heap.size 0 (row b0))
  go_upto_region 4 with fail
  clear k1 k2
  refine wp_region_held_drew (S := fun V => Stored w W V g1 g2) (by kernel_rfl) hSt.drew (fun hS => ?_)
  refine held_pure (i := 0) (oi := ⟨some 22, _, _, _, _, _⟩) rfl (by kernel_rfl) (by kernel_rfl) (by kernel_rfl) (fun _ _ _ h => h) (by rfl) (v := ?_) (fun w hSw => ?_) hS (fun hS => ?_)
  rotate_left
  · go_simp; try with_reducible rfl
  try go_frame
  refine held_pure (i := 1) (oi := ⟨some 23, _, _, _, _, _⟩) rfl (by kernel_rfl) (by kernel_rfl) (by kernel_rfl) (fun _ _ _ h => h) (by rfl) (fun w hSw => ld_slX rfl rfl (kS1 _ hSw)) hS (fun hS => ?_)
  try go_frame
  refine held_pure (i := 2) (oi := ⟨some 24, _, _, _, _, _⟩) rfl (by kernel_rfl) (by kernel_rfl) (by kernel_rfl) (fun _ _ _ h => h) (by rfl) (v := ?_) (fun w hSw => ?_) hS (fun hS => ?_)
  rotate_left
  · go_simp; try with_reducible rfl
  try go_frame
  refine held_pure (i := 3) (oi := ⟨some 25, _, _, _, _, _⟩) rfl (by kernel_rfl) (by kernel_rfl) (by kernel_rfl) (fun _ _ _ h => h) (by rfl) (fun w hSw => ld_slI rfl rfl (kS2 _ hSw)) hS (fun hS => ?_)
  try go_frame
  refine held_pure (i := 4) (oi := ⟨some 26, _, _, _, _, _⟩) rfl (by kernel_rfl) (by kernel_rfl) (by kernel_rfl) (fun _ _ _ h => h) (by rfl) (fun w hSw => ld_six rfl rfl (rS _ hSw) hra) hS (fun hS => ?_)
  try go_frame
  refine held_pure (i := 5) (oi := ⟨some 27, _, _, _, _, _⟩) rfl (by kernel_rfl) (by kernel_rfl) (by kernel_rfl) (fun _ _ _ h => h) (by rfl) (v := ?_) (fun w hSw => ?_) hS (fun hS => ?_)
  rotate_left
  · go_simp; try with_reducible rfl
  try go_frame
  refine held_pure (i := 6) (oi := ⟨some 28, _, _, _, _, _⟩) rfl (by kernel_rfl) (by kernel_rfl) (by kernel_rfl) (fun _ _ _ h => h) (by rfl) (v := ?_) (fun w hSw => ?_) hS (fun hS => ?_)
  rotate_left
  · go_simp; try with_reducible rfl
  try go_frame
  refine wpAnyH_ready (rs := [7]) (by kernel_rfl) (by simp) (AllReadyH.cons (o := ⟨none, _, _, _, _, _⟩) rfl (fun K hK => ?_) AllReadyH.nil)
  rw [if_pos (by rfl)]
  refine wp_store_mid 70 _ _ rfl g1 0 (row b0).toArray rfl rfl (by rw [hrs]; exact hS.t1) (by rw [hrs]; kernel_rfl) hone ?_
  refine hK.out _ _ (hS.set (by omega) (.inl rfl) 0 _) (fun hS => ?_)
  clear hK K
  try go_frame
  refine held_pure (i := 8) (oi := ⟨some 29, _, _, _, _, _⟩) rfl (by kernel_rfl) (by kernel_rfl) (by kernel_rfl) (fun _ _ _ h => h) (by rfl) (v := ?_) (fun w hSw => ?_) hS (fun hS => ?_)
  rotate_left
  · go_simp; try with_reducible rfl
  try go_frame
  refine wpAnyH_ready (rs := [9]) (by kernel_rfl) (by simp) (AllReadyH.cons (o := ⟨none, _, _, _, _, _⟩) rfl (fun K hK => ?_) AllReadyH.nil)
  rw [if_pos (by rfl)]
  obtain ⟨v0, hv0⟩ := Option.isSome_iff_exists.1 (hS.t2 0 (by omega)).1
  refine store_int_wp (p := ⟨g2, 0, none⟩) rfl rfl rfl hv0 (hS.t2 0 (by omega)).2 ?_
  refine hK.out _ _ (hS.set (by omega) (.inr rfl) 0 [.int .i64 a1]) (fun hS => ?_)
  clear hK K
  try go_frame
  refine wpAnyH_done (by kernel_rfl) ?_ _
  obtain ⟨U, hU⟩ : ∃ U : World, U = ((W.drew.setCells g1 0 (row b0).toArray.toList).setCell ⟨g2, 0, none⟩ (.int .i64 a1)) := ⟨_, rfl⟩
  rw [← hU] at hS ⊢
  clear hU
  go_upto_region 6 with (first
    | (go_at_call 41; refine (c20base U).mono ?_; rintro e u1 ⟨⟨g3, g4, rfl, hbb⟩, y1⟩)
    | (go_at_call 42; refine (r20base u1).mono ?_; rintro e u2 ⟨⟨g5, g6, rfl, hbx⟩, y2⟩)
    | ((with_reducible show wpList _ _ _ (Oper.mk none (Op.store 74 (Operand.tmp 6) _) _ _ _ _ :: _) _ _); go_loud (refine str_cfg (g := u2.heap.size) (t := 74) (old := #[.int .u8 0, .int .u8 0, .int .u8 0, .int .u8 0, .int .u8 0, .int .u8 0, .int .u8 0, .int .u8 0, .int .u8 0, .int .u8 0, .int .u8 0, .int .u8 0, .int .u8 0, .int .u8 0, .int .u8 0, .int .u8 0, .slice none 0 0, .slice none 0 0, .int .i64 0, .int .i64 0, .int .i64 0, .int .i64 0, .int .i64 0, .int .i64 0, .int .i64 0, .int .i64 0, .int .i64 0, .int .i64 0, .int .i64 0, .int .i64 0, .int .i64 0, .int .i64 0, .int .i64 0, .int .i64 0, .int .i64 0, .slice none 0 0]) rfl rfl (by rw [Below.heap_alloc _ _ _ (by simp), World.alloc_heap_new]) rfl (by rw [cfa_base]; rfl) (cfa_one _) ?_))
    | ((with_reducible show wpList _ _ _ (Oper.mk none (Op.store 74 (Operand.tmp 7) _) _ _ _ _ :: _) _ _); go_loud (refine str_cfg (g := u2.heap.size + 1) (t := 74) (old := #[.int .u8 0, .int .u8 0, .int .u8 0, .int .u8 0, .int .u8 0, .int .u8 0, .int .u8 0, .int .u8 0, .int .u8 0, .int .u8 0, .int .u8 0, .int .u8 0, .int .u8 0, .int .u8 0, .int .u8 0, .int .u8 0, .slice none 0 0, .slice none 0 0, .int .i64 0, .int .i64 0, .int .i64 0, .int .i64 0, .int .i64 0, .int .i64 0, .int .i64 0, .int .i64 0, .int .i64 0, .int .i64 0, .int .i64 0, .int .i64 0, .int .i64 0, .int .i64 0, .int .i64 0, .int .i64 0, .int .i64 0, .slice none 0 0]) rfl rfl (by rw [setRow_other _ _ _ _ (by omega)]; have := World.alloc_heap_new (u2.alloc (.cells #[.int .u8 0, .int .u8 0, .int .u8 0, .int .u8 0, .int .u8 0, .int .u8 0, .int .u8 0, .int .u8 0, .int .u8 0, .int .u8 0, .int .u8 0, .int .u8 0, .int .u8 0, .int .u8 0, .int .u8 0, .int .u8 0, .slice none 0 0, .slice none 0 0, .int .i64 0, .int .i64 0, .int .i64 0, .int .i64 0, .int .i64 0, .int .i64 0, .int .i64 0, .int .i64 0, .int .i64 0, .int .i64 0, .int .i64 0, .int .i64 0, .int .i64 0, .int .i64 0, .int .i64 0, .int .i64 0, .int .i64 0, .slice none 0 0] 74)) (.cells #[.int .u8 0, .int .u8 0, .int .u8 0, .int .u8 0, .int .u8 0, .int .u8 0, .int .u8 0, .int .u8 0, .int .u8 0, .int .u8 0, .int .u8 0, .int .u8 0, .int .u8 0, .int .u8 0, .int .u8 0, .int .u8 0, .slice none 0 0, .slice none 0 0, .int .i64 0, .int .i64 0, .int .i64 0, .int .i64 0, .int .i64 0, .int .i64 0, .int .i64 0, .int .i64 0, .int .i64 0, .int .i64 0, .int .i64 0, .int .i64 0, .int .i64 0, .int .i64 0, .int .i64 0, .int .i64 0, .int .i64 0, .slice none 0 0] 74); rw [World.size_alloc] at this; exact this) rfl (by rw [cfa_base]; rfl) (cfa_one _) ?_)))
  have z12 := y2.size
  have q3 := heap_lt hbb.h1
  have q4 := heap_lt hbb.h2
  have q5 := heap_lt hbx.h1
  have q6 := heap_lt hbx.h2
  have zU := hS.bel.size
  have zU1 := y1.size
  obtain ⟨qb, hqb⟩ : ∃ q, q = cfb (some ⟨g3, 0, none⟩) (some ⟨g4, 0, none⟩) := ⟨_, rfl⟩
  obtain ⟨qx, hqx⟩ : ∃ q, q = cfb (some ⟨g5, 0, none⟩) (some ⟨g6, 0, none⟩) := ⟨_, rfl⟩
  rw [← hqb, ← hqx]
  obtain ⟨V, hV⟩ : ∃ V, V = (((u2.alloc (.cells #[.int .u8 0, .int .u8 0, .int .u8 0, .int .u8 0, .int .u8 0, .int .u8 0, .int .u8 0, .int .u8 0, .int .u8 0, .int .u8 0, .int .u8 0, .int .u8 0, .int .u8 0, .int .u8 0, .int .u8 0, .int .u8 0, .slice none 0 0, .slice none 0 0, .int .i64 0, .int .i64 0, .int .i64 0, .int .i64 0, .int .i64 0, .int .i64 0, .int .i64 0, .int .i64 0, .int .i64 0, .int .i64 0, .int .i64 0, .int .i64 0, .int .i64 0, .int .i64 0, .int .i64 0, .int .i64 0, .int .i64 0, .slice none 0 0] 74)).alloc (.cells #[.int .u8 0, .int .u8 0, .int .u8 0, .int .u8 0, .int .u8 0, .int .u8 0, .int .u8 0, .int .u8 0, .int .u8 0, .int .u8 0, .int .u8 0, .int .u8 0, .int .u8 0, .int .u8 0, .int .u8 0, .int .u8 0, .slice none 0 0, .slice none 0 0, .int .i64 0, .int .i64 0, .int .i64 0, .int .i64 0, .int .i64 0, .int .i64 0, .int .i64 0, .int .i64 0, .int .i64 0, .int .i64 0, .int .i64 0, .int .i64 0, .int .i64 0, .int .i64 0, .int .i64 0, .int .i64 0, .int .i64 0, .slice none 0 0] 74)).setRow u2.heap.size (cfa qb)).setRow (u2.heap.size + 1) (cfa qx) := ⟨_, rfl⟩
  have hx6 : V.heap[u2.heap.size]? = some (.cells (cfa qb) 74 (0, 0)) := by
    rw [hV, setRow_other _ _ _ _ (by omega)]
    exact setRow_heap _ _ #[.int .u8 0, .int .u8 0, .int .u8 0, .int .u8 0, .int .u8 0, .int .u8 0, .int .u8 0, .int .u8 0, .int .u8 0, .int .u8 0, .int .u8 0, .int .u8 0, .int .u8 0, .int .u8 0, .int .u8 0, .int .u8 0, .slice none 0 0, .slice none 0 0, .int .i64 0, .int .i64 0, .int .i64 0, .int .i64 0, .int .i64 0, .int .i64 0, .int .i64 0, .int .i64 0, .int .i64 0, .int .i64 0, .int .i64 0, .int .i64 0, .int .i64 0, .int .i64 0, .int .i64 0, .int .i64 0, .int .i64 0, .slice none 0 0] _ _ _ (by rw [Below.heap_alloc _ _ _ (by simp), World.alloc_heap_new])
  have hx7 : V.heap[u2.heap.size + 1]? = some (.cells (cfa qx) 74 (0, 0)) := by
    rw [hV]
    exact setRow_heap _ _ #[.int .u8 0, .int .u8 0, .int .u8 0, .int .u8 0, .int .u8 0, .int .u8 0, .int .u8 0, .int .u8 0, .int .u8 0, .int .u8 0, .int .u8 0, .int .u8 0, .int .u8 0, .int .u8 0, .int .u8 0, .int .u8 0, .slice none 0 0, .slice none 0 0, .int .i64 0, .int .i64 0, .int .i64 0, .int .i64 0, .int .i64 0, .int .i64 0, .int .i64 0, .int .i64 0, .int .i64 0, .int .i64 0, .int .i64 0, .int .i64 0, .int .i64 0, .int .i64 0, .int .i64 0, .int .i64 0, .int .i64 0, .slice none 0 0] _ _ _ (by rw [setRow_other _ _ _ _ (by omega)]; have := World.alloc_heap_new (u2.alloc (.cells #[.int .u8 0, .int .u8 0, .int .u8 0, .int .u8 0, .int .u8 0, .int .u8 0, .int .u8 0, .int .u8 0, .int .u8 0, .int .u8 0, .int .u8 0, .int .u8 0, .int .u8 0, .int .u8 0, .int .u8 0, .int .u8 0, .slice none 0 0, .slice none 0 0, .int .i64 0, .int .i64 0, .int .i64 0, .int .i64 0, .int .i64 0, .int .i64 0, .int .i64 0, .int .i64 0, .int .i64 0, .int .i64 0, .int .i64 0, .int .i64 0, .int .i64 0, .int .i64 0, .int .i64 0, .int .i64 0, .int .i64 0, .slice none 0 0] 74)) (.cells #[.int .u8 0, .int .u8 0, .int .u8 0, .int .u8 0, .int .u8 0, .int .u8 0, .int .u8 0, .int .u8 0, .int .u8 0, .int .u8 0, .int .u8 0, .int .u8 0, .int .u8 0, .int .u8 0, .int .u8 0, .int .u8 0, .slice none 0 0, .slice none 0 0, .int .i64 0, .int .i64 0, .int .i64 0, .int .i64 0, .int .i64 0, .int .i64 0, .int .i64 0, .int .i64 0, .int .i64 0, .int .i64 0, .int .i64 0, .int .i64 0, .int .i64 0, .int .i64 0, .int .i64 0, .int .i64 0, .int .i64 0, .slice none 0 0] 74); rw [World.size_alloc] at this; exact this)
  have low : ∀ k, k < u2.heap.size → V.heap[k]? = u2.heap[k]? := fun k hk => by
    rw [hV, setRow_other _ _ _ _ (by omega), setRow_other _ _ _ _ (by omega), Below.heap_alloc _ _ _ (by simp; omega), Below.heap_alloc _ _ _ hk]
  have bV : Below u2.heap.size u2 V := by
    rw [hV]
    exact below_setRow (below_setRow (((Below.refl _ u2).alloc (Nat.le_refl _) _).alloc (by simp) _) (Nat.le_refl _) _) (by omega) _
  rw [← hV]
  clear hV
  have hBb : BaseAt V U.heap.size g3 g4 := (hbb.below y2).of_heap (low _ (by omega)) (low _ (by omega))
  have hBx : BaseAt V u1.heap.size g5 g6 := hbx.of_heap (low _ q5) (low _ q6)
  have bU : Below w.heap.size w V := hS.bel.trans ((y1.trans ((y2.trans (bV.mono z12)).mono zU1)).mono zU)
  have hA6 : AtC V u2.heap.size qb := AtC.of_heap hx6
  have hA7 : AtC V (u2.heap.size + 1) qx := AtC.of_heap hx7
  have hz6 := heap_lt hx6
  have hz7 := heap_lt hx7
  have f6 : qb.aftr = bA := by rw [hqb]; rfl
  have f7 : qx.aftr = bA := by rw [hqx]; rfl
  have f6' : qb.aftr.length = 16 := by rw [f6]; rfl
  have f7' : qx.aftr.length = 16 := by rw [f7]; rfl
  have b0 : V.cell? ⟨u2.heap.size, 16, none⟩ = some (.slice (some ⟨g3, 0, none⟩) 2 2) := hA6.at_ f6' (j := 0) (by rw [hqb]; rfl)
  have b1 : V.cell? ⟨u2.heap.size, 17, none⟩ = some (.slice (some ⟨g4, 0, none⟩) 1 1) := hA6.at_ f6' (j := 1) (by rw [hqb]; rfl)
  have b2 : V.cell? ⟨u2.heap.size, 18, none⟩ = some (.int .i64 1024) := hA6.at_ f6' (j := 2) (by rw [hqb]; rfl)
  have b3 : V.cell? ⟨u2.heap.size, 19, none⟩ = some (.int .i64 65535) := hA6.at_ f6' (j := 3) (by rw [hqb]; rfl)
  have b4 : V.cell? ⟨u2.heap.size, 20, none⟩ = some (.int .i64 16) := hA6.at_ f6' (j := 4) (by rw [hqb]; rfl)
  have b5 : V.cell? ⟨u2.heap.size, 21, none⟩ = some (.int .i64 64) := hA6.at_ f6' (j := 5) (by rw [hqb]; rfl)
  have b6 : V.cell? ⟨u2.heap.size, 22, none⟩ = some (.int .i64 128) := hA6.at_ f6' (j := 6) (by rw [hqb]; rfl)
  have b7 : V.cell? ⟨u2.heap.size, 23, none⟩ = some (.int .i64 8) := hA6.at_ f6' (j := 7) (by rw [hqb]; rfl)
  have b8 : V.cell? ⟨u2.heap.size, 24, none⟩ = some (.int .i64 1048576) := hA6.at_ f6' (j := 8) (by rw [hqb]; rfl)
  have b9 : V.cell? ⟨u2.heap.size, 25, none⟩ = some (.int .i64 1500) := hA6.at_ f6' (j := 9) (by rw [hqb]; rfl)
  have b10 : V.cell? ⟨u2.heap.size, 26, none⟩ = some (.int .i64 1500) := hA6.at_ f6' (j := 10) (by rw [hqb]; rfl)
  have b11 : V.cell? ⟨u2.heap.size, 27, none⟩ = some (.int .i64 64) := hA6.at_ f6' (j := 11) (by rw [hqb]; rfl)
  have b12 : V.cell? ⟨u2.heap.size, 28, none⟩ = some (.int .i64 0) := hA6.at_ f6' (j := 12) (by rw [hqb]; rfl)
  have b13 : V.cell? ⟨u2.heap.size, 29, none⟩ = some (.int .i64 2) := hA6.at_ f6' (j := 13) (by rw [hqb]; rfl)
  have b14 : V.cell? ⟨u2.heap.size, 30, none⟩ = some (.int .i64 300) := hA6.at_ f6' (j := 14) (by rw [hqb]; rfl)
  have b15 : V.cell? ⟨u2.heap.size, 31, none⟩ = some (.int .i64 7440) := hA6.at_ f6' (j := 15) (by rw [hqb]; rfl)
  have b16 : V.cell? ⟨u2.heap.size, 32, none⟩ = some (.int .i64 240) := hA6.at_ f6' (j := 16) (by rw [hqb]; rfl)
  have b17 : V.cell? ⟨u2.heap.size, 33, none⟩ = some (.int .i64 60) := hA6.at_ f6' (j := 17) (by rw [hqb]; rfl)
  have b18 : V.cell? ⟨u2.heap.size, 34, none⟩ = some (.int .i64 60) := hA6.at_ f6' (j := 18) (by rw [hqb]; rfl)
  have b19 : V.cell? ⟨u2.heap.size, 35, none⟩ = some (.slice none 0 0) := hA6.at_ f6' (j := 19) (by rw [hqb]; rfl)
  have x0 : V.cell? ⟨u2.heap.size + 1, 16, none⟩ = some (.slice (some ⟨g5, 0, none⟩) 2 2) := hA7.at_ f7' (j := 0) (by rw [hqx]; rfl)
  have x1 : V.cell? ⟨u2.heap.size + 1, 17, none⟩ = some (.slice (some ⟨g6, 0, none⟩) 1 1) := hA7.at_ f7' (j := 1) (by rw [hqx]; rfl)
  have x2 : V.cell? ⟨u2.heap.size + 1, 18, none⟩ = some (.int .i64 1024) := hA7.at_ f7' (j := 2) (by rw [hqx]; rfl)
  have x3 : V.cell? ⟨u2.heap.size + 1, 19, none⟩ = some (.int .i64 65535) := hA7.at_ f7' (j := 3) (by rw [hqx]; rfl)
  have x4 : V.cell? ⟨u2.heap.size + 1, 20, none⟩ = some (.int .i64 16) := hA7.at_ f7' (j := 4) (by rw [hqx]; rfl)
  have x5 : V.cell? ⟨u2.heap.size + 1, 21, none⟩ = some (.int .i64 64) := hA7.at_ f7' (j := 5) (by rw [hqx]; rfl)
  have x6 : V.cell? ⟨u2.heap.size + 1, 22, none⟩ = some (.int .i64 128) := hA7.at_ f7' (j := 6) (by rw [hqx]; rfl)
  have x7 : V.cell? ⟨u2.heap.size + 1, 23, none⟩ = some (.int .i64 8) := hA7.at_ f7' (j := 7) (by rw [hqx]; rfl)
  have x8 : V.cell? ⟨u2.heap.size + 1, 24, none⟩ = some (.int .i64 1048576) := hA7.at_ f7' (j := 8) (by rw [hqx]; rfl)
  have x9 : V.cell? ⟨u2.heap.size + 1, 25, none⟩ = some (.int .i64 1500) := hA7.at_ f7' (j := 9) (by rw [hqx]; rfl)
  have x10 : V.cell? ⟨u2.heap.size + 1, 26, none⟩ = some (.int .i64 1500) := hA7.at_ f7' (j := 10) (by rw [hqx]; rfl)
  have x11 : V.cell? ⟨u2.heap.size + 1, 27, none⟩ = some (.int .i64 64) := hA7.at_ f7' (j := 11) (by rw [hqx]; rfl)
  have x12 : V.cell? ⟨u2.heap.size + 1, 28, none⟩ = some (.int .i64 0) := hA7.at_ f7' (j := 12) (by rw [hqx]; rfl)
  have x13 : V.cell? ⟨u2.heap.size + 1, 29, none⟩ = some (.int .i64 2) := hA7.at_ f7' (j := 13) (by rw [hqx]; rfl)
  have x14 : V.cell? ⟨u2.heap.size + 1, 30, none⟩ = some (.int .i64 300) := hA7.at_ f7' (j := 14) (by rw [hqx]; rfl)
  have x15 : V.cell? ⟨u2.heap.size + 1, 31, none⟩ = some (.int .i64 7440) := hA7.at_ f7' (j := 15) (by rw [hqx]; rfl)
  have x16 : V.cell? ⟨u2.heap.size + 1, 32, none⟩ = some (.int .i64 240) := hA7.at_ f7' (j := 16) (by rw [hqx]; rfl)
  have x17 : V.cell? ⟨u2.heap.size + 1, 33, none⟩ = some (.int .i64 60) := hA7.at_ f7' (j := 17) (by rw [hqx]; rfl)
  have x18 : V.cell? ⟨u2.heap.size + 1, 34, none⟩ = some (.int .i64 60) := hA7.at_ f7' (j := 18) (by rw [hqx]; rfl)
  have x19 : V.cell? ⟨u2.heap.size + 1, 35, none⟩ = some (.slice none 0 0) := hA7.at_ f7' (j := 19) (by rw [hqx]; rfl)
  have r6 := hA6.six f6'
  have r7 := hA7.six f7'
  rw [f6] at r6
  rw [f7] at r7
  have rb := hBb.rB
  have rc := hBb.rC
  have rp := hBb.rP
  have xb := hBx.rB
  have xc := hBx.rC
  have xp := hBx.rP
  have eA := eq_six bA rfl
  have eB := eq_six bB rfl
  have eC := eq_six bC rfl
  have hl6 : (row bA).length = 16 := rfl
  have hl7 : (row bB).length = 16 := rfl
  have hl8 : (row bC).length = 16 := rfl
  have q3V := heap_lt hBb.h1
  have q4V := heap_lt hBb.h2
  have q5V := heap_lt hBx.h1
  have q6V := heap_lt hBx.h2
  go_upto_region 8 with fail
  generalize row bA = RA at r6 r7 eA hl6
  generalize row bB = RB at rb xb eB hl7
  generalize row bC = RC at rc xc eC hl8
  have CS := fun (p : Addr) (v : Value) (X : World) (hX : Below V.heap.size V X) (hp : p.block < V.heap.size) (h : V.cell? p = some v) => (hX.cell hp).trans h
  refine wp_region_held_drew (S := fun w' => Below V.heap.size V w') (by kernel_rfl) (Below.refl _ V).drew (fun hS => ?_)
  refine held_pure (i := 0) (oi := ⟨some 42, _, _, _, _, _⟩) rfl (by kernel_rfl) (by kernel_rfl) (by kernel_rfl) (fun _ _ _ h => h) (by rfl) (v := ?_) (fun w hSw => ?_) hS (fun hS => ?_)
  rotate_left
  · go_simp; try with_reducible rfl
  try go_frame
  refine held_pure (i := 1) (oi := ⟨some 43, _, _, _, _, _⟩) rfl (by kernel_rfl) (by kernel_rfl) (by kernel_rfl) (fun _ _ _ h => h) (by rfl) (fun w hSw => ld_six rfl rfl (range_below r6 hz6 hSw) hl6) hS (fun hS => ?_)
  try go_frame
  refine held_pure (i := 2) (oi := ⟨some 44, _, _, _, _, _⟩) rfl (by kernel_rfl) (by kernel_rfl) (by kernel_rfl) (fun _ _ _ h => h) (by rfl) (v := ?_) (fun w hSw => ?_) hS (fun hS => ?_)
  rotate_left
  · go_simp; try with_reducible rfl
  try go_frame
  refine held_pure (i := 3) (oi := ⟨some 45, _, _, _, _, _⟩) rfl (by kernel_rfl) (by kernel_rfl) (by kernel_rfl) (fun _ _ _ h => h) (by rfl) (fun w hSw => ld_six rfl rfl (range_below r7 hz7 hSw) hl6) hS (fun hS => ?_)
  try go_frame
  refine held_pure (i := 4) (oi := ⟨some 46, _, _, _, _, _⟩) rfl (by kernel_rfl) (by kernel_rfl) (by kernel_rfl) (fun _ _ _ h => h) (by rfl) (v := .bool true) (fun w hSw => by go_simp) hS (fun hS => ?_)
  try go_frame
  refine held_pure (i := 5) (oi := ⟨some 47, _, _, _, _, _⟩) rfl (by kernel_rfl) (by kernel_rfl) (by kernel_rfl) (fun _ _ _ h => h) (by rfl) (v := ?_) (fun w hSw => ?_) hS (fun hS => ?_)
  rotate_left
  · go_simp; try with_reducible rfl
  try go_frame
  refine held_pure (i := 6) (oi := ⟨some 48, _, _, _, _, _⟩) rfl (by kernel_rfl) (by kernel_rfl) (by kernel_rfl) (fun _ _ _ h => h) (by rfl) (v := ?_) (fun w hSw => ?_) hS (fun hS => ?_)
  rotate_left
  · go_simp; try with_reducible rfl
  try go_frame
  refine held_pure (i := 7) (oi := ⟨some 49, _, _, _, _, _⟩) rfl (by kernel_rfl) (by kernel_rfl) (by kernel_rfl) (fun _ _ _ h => h) (by rfl) (fun w hSw => ld_slX rfl rfl (CS ⟨u2.heap.size, 16, none⟩ _ _ hSw hz6 b0)) hS (fun hS => ?_)
  try go_frame
  refine held_pure (i := 8) (oi := ⟨some 50, _, _, _, _, _⟩) rfl (by kernel_rfl) (by kernel_rfl) (by kernel_rfl) (fun _ _ _ h => h) (by rfl) (v := ?_) (fun w hSw => ?_) hS (fun hS => ?_)
  rotate_left
  · go_simp; try with_reducible rfl
  try go_frame
  refine held_pure (i := 9) (oi := ⟨some 51, _, _, _, _, _⟩) rfl (by kernel_rfl) (by kernel_rfl) (by kernel_rfl) (fun _ _ _ h => h) (by rfl) (fun w hSw => ld_six rfl rfl (range_below rb q3V hSw) hl7) hS (fun hS => ?_)
  try go_frame
  refine held_pure (i := 10) (oi := ⟨some 52, _, _, _, _, _⟩) rfl (by kernel_rfl) (by kernel_rfl) (by kernel_rfl) (fun _ _ _ h => h) (by rfl) (v := ?_) (fun w hSw => ?_) hS (fun hS => ?_)
  rotate_left
  · go_simp; try with_reducible rfl
  try go_frame
  refine held_pure (i := 11) (oi := ⟨some 53, _, _, _, _, _⟩) rfl (by kernel_rfl) (by kernel_rfl) (by kernel_rfl) (fun _ _ _ h => h) (by rfl) (fun w hSw => ld_slX rfl rfl (CS ⟨u2.heap.size + 1, 16, none⟩ _ _ hSw hz7 x0)) hS (fun hS => ?_)
  try go_frame
  refine held_pure (i := 12) (oi := ⟨some 54, _, _, _, _, _⟩) rfl (by kernel_rfl) (by kernel_rfl) (by kernel_rfl) (fun _ _ _ h => h) (by rfl) (v := ?_) (fun w hSw => ?_) hS (fun hS => ?_)
  rotate_left
  · go_simp; try with_reducible rfl
  try go_frame
  refine held_pure (i := 13) (oi := ⟨some 55, _, _, _, _, _⟩) rfl (by kernel_rfl) (by kernel_rfl) (by kernel_rfl) (fun _ _ _ h => h) (by rfl) (fun w hSw => ld_six rfl rfl (range_below xb q5V hSw) hl7) hS (fun hS => ?_)
  try go_frame
  refine held_pure (i := 14) (oi := ⟨some 56, _, _, _, _, _⟩) rfl (by kernel_rfl) (by kernel_rfl) (by kernel_rfl) (fun _ _ _ h => h) (by rfl) (v := .bool true) (fun w hSw => by go_simp) hS (fun hS => ?_)
  try go_frame
  refine held_pure (i := 15) (oi := ⟨some 57, _, _, _, _, _⟩) rfl (by kernel_rfl) (by kernel_rfl) (by kernel_rfl) (fun _ _ _ h => h) (by rfl) (v := ?_) (fun w hSw => ?_) hS (fun hS => ?_)
  rotate_left
  · go_simp; try with_reducible rfl
  try go_frame
  refine held_pure (i := 16) (oi := ⟨some 58, _, _, _, _, _⟩) rfl (by kernel_rfl) (by kernel_rfl) (by kernel_rfl) (fun _ _ _ h => h) (by rfl) (v := ?_) (fun w hSw => ?_) hS (fun hS => ?_)
  rotate_left
  · go_simp; try with_reducible rfl
  try go_frame
  refine held_pure (i := 17) (oi := ⟨some 59, _, _, _, _, _⟩) rfl (by kernel_rfl) (by kernel_rfl) (by kernel_rfl) (fun _ _ _ h => h) (by rfl) (v := ?_) (fun w hSw => ?_) hS (fun hS => ?_)
  rotate_left
  · go_simp; try with_reducible rfl
  try go_frame
  refine held_pure (i := 18) (oi := ⟨some 60, _, _, _, _, _⟩) rfl (by kernel_rfl) (by kernel_rfl) (by kernel_rfl) (fun _ _ _ h => h) (by rfl) (fun w hSw => ld_slX rfl rfl (CS ⟨u2.heap.size, 16, none⟩ _ _ hSw hz6 b0)) hS (fun hS => ?_)
  try go_frame
  refine held_pure (i := 19) (oi := ⟨some 61, _, _, _, _, _⟩) rfl (by kernel_rfl) (by kernel_rfl) (by kernel_rfl) (fun _ _ _ h => h) (by rfl) (v := ?_) (fun w hSw => ?_) hS (fun hS => ?_)
  rotate_left
  · go_simp; try with_reducible rfl
  try go_frame
  refine held_pure (i := 20) (oi := ⟨some 62, _, _, _, _, _⟩) rfl (by kernel_rfl) (by kernel_rfl) (by kernel_rfl) (fun _ _ _ h => h) (by rfl) (fun w hSw => ld_six rfl rfl (range_below rc q3V hSw) hl8) hS (fun hS => ?_)
  try go_frame
  refine held_pure (i := 21) (oi := ⟨some 63, _, _, _, _, _⟩) rfl (by kernel_rfl) (by kernel_rfl) (by kernel_rfl) (fun _ _ _ h => h) (by rfl) (v := ?_) (fun w hSw => ?_) hS (fun hS => ?_)
  rotate_left
  · go_simp; try with_reducible rfl
  try go_frame
  refine held_pure (i := 22) (oi := ⟨some 64, _, _, _, _, _⟩) rfl (by kernel_rfl) (by kernel_rfl) (by kernel_rfl) (fun _ _ _ h => h) (by rfl) (fun w hSw => ld_slX rfl rfl (CS ⟨u2.heap.size + 1, 16, none⟩ _ _ hSw hz7 x0)) hS (fun hS => ?_)
  try go_frame
  refine held_pure (i := 23) (oi := ⟨some 65, _, _, _, _, _⟩) rfl (by kernel_rfl) (by kernel_rfl) (by kernel_rfl) (fun _ _ _ h => h) (by rfl) (v := ?_) (fun w hSw => ?_) hS (fun hS => ?_)
  rotate_left
  · go_simp; try with_reducible rfl
  try go_frame
  refine held_pure (i := 24) (oi := ⟨some 66, _, _, _, _, _⟩) rfl (by kernel_rfl) (by kernel_rfl) (by kernel_rfl) (fun _ _ _ h => h) (by rfl) (fun w hSw => ld_six rfl rfl (range_below xc q5V hSw) hl8) hS (fun hS => ?_)
  try go_frame
  refine held_pure (i := 25) (oi := ⟨some 67, _, _, _, _, _⟩) rfl (by kernel_rfl) (by kernel_rfl) (by kernel_rfl) (fun _ _ _ h => h) (by rfl) (v := .bool true) (fun w hSw => by go_simp) hS (fun hS => ?_)
  try go_frame
  refine held_pure (i := 26) (oi := ⟨some 68, _, _, _, _, _⟩) rfl (by kernel_rfl) (by kernel_rfl) (by kernel_rfl) (fun _ _ _ h => h) (by rfl) (v := ?_) (fun w hSw => ?_) hS (fun hS => ?_)
  rotate_left
  · go_simp; try with_reducible rfl
  try go_frame
  refine held_pure (i := 27) (oi := ⟨some 69, _, _, _, _, _⟩) rfl (by kernel_rfl) (by kernel_rfl) (by kernel_rfl) (fun _ _ _ h => h) (by rfl) (v := ?_) (fun w hSw => ?_) hS (fun hS => ?_)
  rotate_left
  · go_simp; try with_reducible rfl
  try go_frame
  refine held_pure (i := 28) (oi := ⟨some 70, _, _, _, _, _⟩) rfl (by kernel_rfl) (by kernel_rfl) (by kernel_rfl) (fun _ _ _ h => h) (by rfl) (v := ?_) (fun w hSw => ?_) hS (fun hS => ?_)
  rotate_left
  · go_simp; try with_reducible rfl
  try go_frame
  refine held_pure (i := 29) (oi := ⟨some 71, _, _, _, _, _⟩) rfl (by kernel_rfl) (by kernel_rfl) (by kernel_rfl) (fun _ _ _ h => h) (by rfl) (fun w hSw => ld_slI rfl rfl (CS ⟨u2.heap.size, 17, none⟩ _ _ hSw hz6 b1)) hS (fun hS => ?_)
  try go_frame
  refine held_pure (i := 30) (oi := ⟨some 72, _, _, _, _, _⟩) rfl (by kernel_rfl) (by kernel_rfl) (by kernel_rfl) (fun _ _ _ h => h) (by rfl) (v := ?_) (fun w hSw => ?_) hS (fun hS => ?_)
  rotate_left
  · go_simp; try with_reducible rfl
  try go_frame
  refine held_pure (i := 31) (oi := ⟨some 73, _, _, _, _, _⟩) rfl (by kernel_rfl) (by kernel_rfl) (by kernel_rfl) (fun _ _ _ h => h) (by rfl) (fun w hSw => run_load_int rfl rfl (CS ⟨g4, 0, none⟩ _ _ hSw q4V rp)) hS (fun hS => ?_)
  try go_frame
  refine held_pure (i := 32) (oi := ⟨some 74, _, _, _, _, _⟩) rfl (by kernel_rfl) (by kernel_rfl) (by kernel_rfl) (fun _ _ _ h => h) (by rfl) (v := ?_) (fun w hSw => ?_) hS (fun hS => ?_)
  rotate_left
  · go_simp; try with_reducible rfl
  try go_frame
  refine held_pure (i := 33) (oi := ⟨some 75, _, _, _, _, _⟩) rfl (by kernel_rfl) (by kernel_rfl) (by kernel_rfl) (fun _ _ _ h => h) (by rfl) (fun w hSw => ld_slI rfl rfl (CS ⟨u2.heap.size + 1, 17, none⟩ _ _ hSw hz7 x1)) hS (fun hS => ?_)
  try go_frame
  refine held_pure (i := 34) (oi := ⟨some 76, _, _, _, _, _⟩) rfl (by kernel_rfl) (by kernel_rfl) (by kernel_rfl) (fun _ _ _ h => h) (by rfl) (v := ?_) (fun w hSw => ?_) hS (fun hS => ?_)
  rotate_left
  · go_simp; try with_reducible rfl
  try go_frame
  refine held_pure (i := 35) (oi := ⟨some 77, _, _, _, _, _⟩) rfl (by kernel_rfl) (by kernel_rfl) (by kernel_rfl) (fun _ _ _ h => h) (by rfl) (fun w hSw => run_load_int rfl rfl (CS ⟨g6, 0, none⟩ _ _ hSw q6V xp)) hS (fun hS => ?_)
  try go_frame
  refine held_pure (i := 36) (oi := ⟨some 78, _, _, _, _, _⟩) rfl (by kernel_rfl) (by kernel_rfl) (by kernel_rfl) (fun _ _ _ h => h) (by rfl) (v := .bool true) (fun w hSw => by go_simp) hS (fun hS => ?_)
  try go_frame
  refine held_pure (i := 37) (oi := ⟨some 79, _, _, _, _, _⟩) rfl (by kernel_rfl) (by kernel_rfl) (by kernel_rfl) (fun _ _ _ h => h) (by rfl) (v := ?_) (fun w hSw => ?_) hS (fun hS => ?_)
  rotate_left
  · go_simp; try with_reducible rfl
  try go_frame
  refine held_pure (i := 38) (oi := ⟨some 80, _, _, _, _, _⟩) rfl (by kernel_rfl) (by kernel_rfl) (by kernel_rfl) (fun _ _ _ h => h) (by rfl) (v := ?_) (fun w hSw => ?_) hS (fun hS => ?_)
  rotate_left
  · go_simp; try with_reducible rfl
  try go_frame
  refine held_pure (i := 39) (oi := ⟨some 81, _, _, _, _, _⟩) rfl (by kernel_rfl) (by kernel_rfl) (by kernel_rfl) (fun _ _ _ h => h) (by rfl) (v := ?_) (fun w hSw => ?_) hS (fun hS => ?_)
  rotate_left
  · go_simp; try with_reducible rfl
  try go_frame
  refine held_pure (i := 40) (oi := ⟨some 82, _, _, _, _, _⟩) rfl (by kernel_rfl) (by kernel_rfl) (by kernel_rfl) (fun _ _ _ h => h) (by rfl) (fun w hSw => ld_slS rfl rfl (CS ⟨u2.heap.size, 35, none⟩ _ _ hSw hz6 b19)) hS (fun hS => ?_)
  try go_frame
  refine held_pure (i := 41) (oi := ⟨some 83, _, _, _, _, _⟩) rfl (by kernel_rfl) (by kernel_rfl) (by kernel_rfl) (fun _ _ _ h => h) (by rfl) (v := ?_) (fun w hSw => ?_) hS (fun hS => ?_)
  rotate_left
  · go_simp; try with_reducible rfl
  try go_frame
  refine held_pure (i := 42) (oi := ⟨some 84, _, _, _, _, _⟩) rfl (by kernel_rfl) (by kernel_rfl) (by kernel_rfl) (fun _ _ _ h => h) (by rfl) (v := .bool true) (fun w hSw => by go_simp) hS (fun hS => ?_)
  try go_frame
  refine held_pure (i := 43) (oi := ⟨some 85, _, _, _, _, _⟩) rfl (by kernel_rfl) (by kernel_rfl) (by kernel_rfl) (fun _ _ _ h => h) (by rfl) (v := ?_) (fun w hSw => ?_) hS (fun hS => ?_)
  rotate_left
  · go_simp; try with_reducible rfl
  try go_frame
  refine held_pure (i := 44) (oi := ⟨some 8, _, _, _, _, _⟩) rfl (by kernel_rfl) (by kernel_rfl) (by kernel_rfl) (fun _ _ _ h => h) (by rfl) (v := ?_) (fun w hSw => ?_) hS (fun hS => ?_)
  rotate_left
  · go_simp; try with_reducible rfl
  try go_frame
  refine wpAnyH_done (by kernel_rfl) ?_ _
  obtain ⟨Y, hY⟩ : ∃ Y : World, Y = V.drew := ⟨_, rfl⟩
  rw [← hY] at hS ⊢
  clear hY
  have bY : Below w.heap.size w Y := bU.trans (hS.mono bU.size)
  replace b2 := (hS.cell (p := ⟨u2.heap.size, 18, none⟩) hz6).trans b2
  replace x2 := (hS.cell (p := ⟨u2.heap.size + 1, 18, none⟩) hz7).trans x2
  replace b3 := (hS.cell (p := ⟨u2.heap.size, 19, none⟩) hz6).trans b3
  replace x3 := (hS.cell (p := ⟨u2.heap.size + 1, 19, none⟩) hz7).trans x3
  replace b4 := (hS.cell (p := ⟨u2.heap.size, 20, none⟩) hz6).trans b4
  replace x4 := (hS.cell (p := ⟨u2.heap.size + 1, 20, none⟩) hz7).trans x4
  replace b5 := (hS.cell (p := ⟨u2.heap.size, 21, none⟩) hz6).trans b5
  replace x5 := (hS.cell (p := ⟨u2.heap.size + 1, 21, none⟩) hz7).trans x5
  replace b6 := (hS.cell (p := ⟨u2.heap.size, 22, none⟩) hz6).trans b6
  replace x6 := (hS.cell (p := ⟨u2.heap.size + 1, 22, none⟩) hz7).trans x6
  replace b7 := (hS.cell (p := ⟨u2.heap.size, 23, none⟩) hz6).trans b7
  replace x7 := (hS.cell (p := ⟨u2.heap.size + 1, 23, none⟩) hz7).trans x7
  replace b8 := (hS.cell (p := ⟨u2.heap.size, 24, none⟩) hz6).trans b8
  replace x8 := (hS.cell (p := ⟨u2.heap.size + 1, 24, none⟩) hz7).trans x8
  replace b9 := (hS.cell (p := ⟨u2.heap.size, 25, none⟩) hz6).trans b9
  replace x9 := (hS.cell (p := ⟨u2.heap.size + 1, 25, none⟩) hz7).trans x9
  replace b10 := (hS.cell (p := ⟨u2.heap.size, 26, none⟩) hz6).trans b10
  replace x10 := (hS.cell (p := ⟨u2.heap.size + 1, 26, none⟩) hz7).trans x10
  replace b11 := (hS.cell (p := ⟨u2.heap.size, 27, none⟩) hz6).trans b11
  replace x11 := (hS.cell (p := ⟨u2.heap.size + 1, 27, none⟩) hz7).trans x11
  replace b12 := (hS.cell (p := ⟨u2.heap.size, 28, none⟩) hz6).trans b12
  replace x12 := (hS.cell (p := ⟨u2.heap.size + 1, 28, none⟩) hz7).trans x12
  replace b13 := (hS.cell (p := ⟨u2.heap.size, 29, none⟩) hz6).trans b13
  replace x13 := (hS.cell (p := ⟨u2.heap.size + 1, 29, none⟩) hz7).trans x13
  replace b14 := (hS.cell (p := ⟨u2.heap.size, 30, none⟩) hz6).trans b14
  replace x14 := (hS.cell (p := ⟨u2.heap.size + 1, 30, none⟩) hz7).trans x14
  replace b15 := (hS.cell (p := ⟨u2.heap.size, 31, none⟩) hz6).trans b15
  replace x15 := (hS.cell (p := ⟨u2.heap.size + 1, 31, none⟩) hz7).trans x15
  replace b16 := (hS.cell (p := ⟨u2.heap.size, 32, none⟩) hz6).trans b16
  replace x16 := (hS.cell (p := ⟨u2.heap.size + 1, 32, none⟩) hz7).trans x16
  replace b17 := (hS.cell (p := ⟨u2.heap.size, 33, none⟩) hz6).trans b17
  replace x17 := (hS.cell (p := ⟨u2.heap.size + 1, 33, none⟩) hz7).trans x17
  replace b18 := (hS.cell (p := ⟨u2.heap.size, 34, none⟩) hz6).trans b18
  replace x18 := (hS.cell (p := ⟨u2.heap.size + 1, 34, none⟩) hz7).trans x18
  have hfit : Fits qb := by rw [hqb]; exact cfb_fits _ _ (by simp)
  have hcl : (cfl qb).length = 36 := cfl_len hfit.aftr
  have hmb : MemC V V.heap.size qb := by rw [hqb]; exact hBb.mem
  have hmY := hmb.below hS
  have hAY := hA6.below hS hz6
  have hchk : chkB qb = 0 := by rw [hqb]; exact chk_base _ _
  clear hqb hqx
  go_upto_region 11 with fail
  go_wp2_with (first
    | ((with_reducible show wpList _ _ _ (Oper.mk _ (Op.load 74 _) _ _ _ _ :: _) _ _); go_loud (refine wpList_gval (by rfl) (ld_cfg rfl rfl hAY hcl) ?_))
    | (go_at_call 37; go_loud (refine (c20check qb V.heap.size Y hfit hmY hS.size).mono ?_; rintro e v8 ⟨rfl, y8⟩; rw [hchk]))
    | (go_at_call 34; refine (awake20 _).mono ?_; rintro e v9 ⟨rfl, y9⟩))
  go_ret
  exact ⟨rfl, bY.trans ((y8.trans (y9.mono y8.size)).mono bY.size)⟩

/-! ### The row's step -/
set_option maxRecDepth 100000 in
theorem lifted (os : Os) (started : os.Started) (H : Type) (enc : TypeId × Value → H) :
    ReturnsInHanded {} Try.checked os 9 .any (Rows.configBaseSpec.pre6 enc Try.prog Try.f9 Rows.configBaseRow.domain false) (Rows.configBaseSpec.post enc Try.prog Try.f9 false true false false) := by
  refine returnsInHanded_of_change (C := Try.checked) own started (by kernel_rfl) Try.func9
    (ChangeSpec.witness6 (enc := enc) (C := Try.checked) false ⟨#[], #[.agg #[.int .u8 0, .int .u8 0, .int .u8 0, .int .u8 0, .int .u8 0, .int .u8 0, .int .u8 0, .int .u8 0, .int .u8 0, .int .u8 0, .int .u8 0, .int .u8 0, .int .u8 0, .int .u8 0, .int .u8 0, .int .u8 0], .int .i64 0], []⟩ 8 (by kernel_rfl) (by kernel_rfl) (by kernel_rfl) (by kernel_rfl)) ?_
  intro W base args ds gs before hval0 hW hcnd _
  have hval : ∀ (j : Nat) t v, Try.f9.params[j]? = some t → args[j]? = some v → Value.okWide Try.prog W .any base t v := hval0
  have hW' := hW
  obtain ⟨p, q, hA0, hV, rfl, hfz, hnd⟩ := hW
  have hA : DataW.TrodAll enc Try.prog W 0 (fun _ => true) true Try.f9.params.toList args.toList ds p := hA0
  rw [Try.params9] at hA hval
  obtain ⟨v0, vs0, d0, ds0, p0, q0, hargs, rfl, rfl, t0, r0⟩ := trodAll_cons hA
  obtain ⟨v1, vs1, d1, ds1, p1, q1, rfl, rfl, rfl, t1, r1⟩ := trodAll_cons r0
  obtain ⟨rfl, rfl, rfl⟩ := trodAll_nil r1
  obtain rfl : args = #[v0, v1] := by cases args; simp_all
  obtain ⟨rfl, rfl⟩ := trodVars_none hV
  have k0 := t0
  have lt0 := Trod_lt t0
  have k1 := t1
  have lt1 := Trod_lt t1
  obtain ⟨b0, rfl, h0⟩ := get_six Try.underlying70 Try.underlying5 (by kernel_rfl) (by kernel_rfl) (hval 0 70 v0 rfl rfl) t0
  obtain ⟨a1, rfl, w1⟩ := get_int Try.underlying3 (hval 1 3 v1 rfl rfl) t1
  clear hA0 hval0
  refine (walk b0 a1 W h0 w1).mono fun e W' ⟨he, bel⟩ => ?_
  subst he
  exact ⟨_, rfl, _, _, _, [], _, [], hW', trodAll_mk1 (shut_bool Try.underlying4 _), (trodAll_cons_mk (Below.trod laidOut (by kernel_rfl) (of_decide_eq_true (by kernel_rfl)) k0 bel lt0) (trodAll_cons_mk (Below.trod laidOut (by kernel_rfl) (of_decide_eq_true (by kernel_rfl)) k1 bel lt1) trodAll_mk0)), rfl, bel.frame _, fun h => by cases h⟩

theorem over : Rows.configBaseRow.holds Try.pinned (OpenSpec.ofChange Rows.configBaseSpec) :=
  OpenClaim.holds_of_wide 9 Try.f9 rfl rfl rfl rfl rfl rfl rfl ⟨rfl, rfl, rfl, rfl, rfl⟩ rfl rfl rfl rfl rfl (by kernel_rfl) Try.func9 (by kernel_rfl)
    (of_decide_eq_true (by kernel_rfl)) (by unfold Func.isWrapper; first | (rw [if_pos (by decide +kernel)]; kernel_rfl) | (rw [if_neg (by decide +kernel)]; exact ⟨rfl, rfl⟩))
    (fun os started H enc _ => lifted os started H enc)

theorem proved : Rows.ConfigBaseSaid := over
end Go.Proofs.Ytogidfagkgccmaa.configBase
