/-
  What layer 4's statements share: awake; a drawn region whose operations and callees leave what was there as it was. Conditions are each theorem's own.
-/
import Derived.Test.YtokcelbpiglieaaDoorSixC
import Derived.Test.YtokcelbpiglieaaDoorHeld
namespace Go.Proofs.YtokcelbpiglieaaDoor
open Go.RowKit

theorem tabs_step {w w' : World} (hb : Below w.heap.size w w') (h : Tabs w) : Tabs w' := h.step hb
theorem tabs_heap {w w' : World} (h : Tabs w) (e : w'.heap = w.heap) : Tabs w' := by
  unfold Tabs Lib.TabIs World.var? at h ⊢
  rw [e]; exact h
/-- 2001:db8:0:0:0:0:0:1. -/
def adr1 : List UInt8 := [32, 1, 13, 184, 0, 0, 0, 0, 0, 0, 0, 0, 0, 0, 0, 1]
theorem range_new (w : World) (a : List UInt8) (t : TypeId) : (w.alloc (.cells (cel a) t)).rangeAt w.heap.size 0 (row a) := fun j v hj => by
  rw [Nat.zero_add, World.cell?_alloc_new, cel, List.getElem?_toArray]; exact hj
theorem range_two0 (w : World) (a b : List UInt8) (t u : TypeId) : ((w.alloc (.cells (cel a) t)).alloc (.cells (cel b) u)).rangeAt w.heap.size 0 (row a) := fun j v hj => by
  rw [World.cell?_alloc_lt _ _ _ (by simp)]; exact range_new w a t j v hj
theorem range_two1 (w : World) (a b : List UInt8) (t u : TypeId) : ((w.alloc (.cells (cel a) t)).alloc (.cells (cel b) u)).rangeAt (w.heap.size + 1) 0 (row b) := by
  have h := range_new (w.alloc (.cells (cel a) t)) b u
  rwa [show (w.alloc (.cells (cel a) t)).heap.size = w.heap.size + 1 from by simp] at h
theorem run_load_six {o : Oper} {a : Act} {w : World} {x : Operand} {g : Nat} {cs : List UInt8} (ho : o.op = .load 31 x) (hx : a.eval x = .pointer (some ⟨g, 0, none⟩)) (hr : w.rangeAt g 0 (row cs)) (hl : cs.length = 16) :
    (execOp a.eval o).run Tryd.prog w = .ok (.value (.agg (cel cs))) w := by
  have h := run_loadVar_mid (P := Tryd.prog) w g 0 31 (row cs) _ hr Tryd.underlying31 rfl (by rw [row_length, hl]; kernel_rfl)
  unfold execOp
  simp only [ho, hx, Instr.loadAt, Instr.sureAddr, Sem.run_bind, Sem.run_pure, Result.andThen_ok, h, cel]
set_option maxRecDepth 100000 in
set_option maxHeartbeats 2000000 in
theorem awake4_any (w : World) (hTab : Tabs w) : Calls Tryd.prog 20 #[] w fun e w' => e = .returned (.bool true) ∧ Below w.heap.size w w' := by
  have hP := par6_yes (s := [50, 48, 48, 49, 58, 100, 98, 56, 58, 48, 58, 48, 58, 48, 58, 48, 58, 48, 58, 49]) (a := adr1) rfl (by decide)
  have hP1 := Lib.hid hP
  clear hP
  have hO : of6 [8193, 3512, 0, 0, 0, 0, 0, 1] = adr1 := by decide
  have hT : tx6 adr1 8 = [50, 48, 48, 49, 58, 100, 98, 56, 58, 48, 58, 48, 58, 48, 58, 48, 58, 48, 58, 49] := by decide
  have h5 : ((strB [50, 48, 48, 49, 58, 100, 98, 56, 58, 48, 58, 48, 58, 48, 58, 48, 58, 48, 58, 49]).toList == [50, 48, 48, 49, 58, 100, 98, 56, 58, 48, 58, 48, 58, 48, 58, 48, 58, 48, 58, 49]) = true := by rw [strB, ByteArray.toList_mk]; decide
  have hH : host6 adr1 = true := by decide
  go_enter Tryd.func20, Tryd.ntmps20
  go_wp2_with (first
    | (go_at_call 29; refine (c4parse _ _ (by decide)).mono ?_; rintro e w1 ⟨rfl, b1⟩; rw [hP1.out.1, hP1.out.2])
    | ((with_reducible show wpList _ _ _ (Oper.mk _ (Op.store _ _ _) _ _ _ _ :: _) _ _); refine six_store_new (cs := adr1) rfl rfl rfl rfl ?_))
  have hR := ints_new (w1.alloc (.cells (cel adr1) 31)) [8193, 3512, 0, 0, 0, 0, 0, 1] 3
  have hz : (w1.alloc (.cells (cel adr1) 31)).heap.size = w1.heap.size + 1 := by simp
  rw [hz] at hR
  have HR := Lib.hid hR
  clear hR hz
  have hr0 := range_new w1 adr1 31
  have hE : ∀ w, (Op.equalIn 10000 31 (.agg (cel adr1)) (.agg (cel adr1))).run Tryd.prog w = .ok true w := fun w => by
    have := six_eq adr1 adr1 rfl rfl w
    rw [show decide (adr1 = adr1) = true from by simp] at this
    exact this
  refine wp_region_held_drew (S := fun w' => w'.rangeAt w1.heap.size 0 (row adr1)) (by kernel_rfl) hr0 (fun hS => ?_)
  refine held_pure (i := 0) rfl (by kernel_rfl) (by kernel_rfl) (by kernel_rfl) (fun _ _ _ h => h) (by rfl) (v := (.int .i64 0)) (fun w hSw => by go_simp) hS (fun hS => ?_)
  try go_frame
  refine held_pure (i := 1) rfl (by kernel_rfl) (by kernel_rfl) (by kernel_rfl) (fun _ _ _ h => h) (by rfl) (v := (.bool true)) (fun w hSw => by go_simp) hS (fun hS => ?_)
  try go_frame
  refine held_pure (i := 2) rfl (by kernel_rfl) (by kernel_rfl) (by kernel_rfl) (fun _ _ _ h => h) (by rfl) (v := (.bool true)) (fun w hSw => by go_simp) hS (fun hS => ?_)
  try go_frame
  refine held_pure (i := 3) rfl (by kernel_rfl) (by kernel_rfl) (by kernel_rfl) (fun _ _ _ h => h) (by rfl) (fun w hSw => run_load_six rfl rfl hSw rfl) hS (fun hS => ?_)
  try go_frame
  refine wpAnyH_ready (rs := [4]) (by kernel_rfl) (by simp) (AllReadyH.cons rfl (fun K hK => ?_) AllReadyH.nil)
  rw [if_pos (by rfl)]
  go_simp
  refine hK.out _ _ (range_below hS (by simp) ((Below.refl _ _).alloc (Nat.le_refl _) _)) (fun hS => ?_)
  clear hK K
  try go_frame
  refine wpAnyH_ready (rs := [5]) (by kernel_rfl) (by simp) (AllReadyH.cons rfl (fun K hK => ?_) AllReadyH.nil)
  rw [if_pos (by rfl)]
  go_simp
  refine (c4of _ [8193, 3512, 0, 0, 0, 0, 0, 1] 8 _ _ HR.out (by simp) (by simp) (by simp)).mono ?_
  rintro e w2 ⟨rfl, b2⟩
  have hT2 : Tabs w2 := tabs_step b2 (by first | exact ((hTab.step b1).alloc _).alloc _ | exact tabs_heap (((hTab.step b1).alloc _).alloc _) rfl)
  rw [hO]
  have hs2 : w1.heap.size < w2.heap.size := by have h2 := b2.size; simp at h2; omega
  show K _ _
  refine hK.out _ _ (range_below hS (by simp; omega) b2) (fun hS => ?_)
  clear hK K
  try go_frame
  refine held_pure (i := 6) rfl (by kernel_rfl) (by kernel_rfl) (by kernel_rfl) (fun _ _ _ h => h) (by rfl) (v := (.bool true)) (fun w hSw => by go_simp) hS (fun hS => ?_)
  try go_frame
  refine held_pure (i := 7) rfl (by kernel_rfl) (by kernel_rfl) (by kernel_rfl) (fun _ _ _ h => h) (by rfl) (v := (.bool true)) (fun w hSw => by go_simp) hS (fun hS => ?_)
  try go_frame
  refine held_pure (i := 8) rfl (by kernel_rfl) (by kernel_rfl) (by kernel_rfl) (fun _ _ _ h => h) (by rfl) (v := (.bool true)) (fun w hSw => by go_simp) hS (fun hS => ?_)
  try go_frame
  refine held_pure (i := 9) rfl (by kernel_rfl) (by kernel_rfl) (by kernel_rfl) (fun _ _ _ h => h) (by rfl) (fun w hSw => run_load_six rfl rfl hSw rfl) hS (fun hS => ?_)
  try go_frame
  refine wpAnyH_ready (rs := [10]) (by kernel_rfl) (by simp) (AllReadyH.cons rfl (fun K hK => ?_) AllReadyH.nil)
  rw [if_pos (by rfl)]
  go_simp
  refine (c4text adr1 rfl _ hT2).mono ?_
  rintro e w3 ⟨rfl, b3⟩
  rw [hT]
  have hs3 : w1.heap.size < w3.heap.size := Nat.lt_of_lt_of_le hs2 b3.size
  show K _ _
  refine hK.out _ _ (range_below hS hs2 b3) (fun hS => ?_)
  clear hK K
  try go_frame
  refine held_pure (i := 11) rfl (by kernel_rfl) (by kernel_rfl) (by kernel_rfl) (fun _ _ _ h => h) (by rfl) (v := (.bool true)) (fun w hSw => by go_simp) hS (fun hS => ?_)
  try go_frame
  refine held_pure (i := 12) rfl (by kernel_rfl) (by kernel_rfl) (by kernel_rfl) (fun _ _ _ h => h) (by rfl) (v := (.bool true)) (fun w hSw => by go_simp) hS (fun hS => ?_)
  try go_frame
  refine held_pure (i := 13) rfl (by kernel_rfl) (by kernel_rfl) (by kernel_rfl) (fun _ _ _ h => h) (by rfl) (v := (.bool true)) (fun w hSw => by go_simp) hS (fun hS => ?_)
  try go_frame
  refine held_pure (i := 14) rfl (by kernel_rfl) (by kernel_rfl) (by kernel_rfl) (fun _ _ _ h => h) (by rfl) (fun w hSw => run_load_six rfl rfl hSw rfl) hS (fun hS => ?_)
  try go_frame
  refine wpAnyH_ready (rs := [15]) (by kernel_rfl) (by simp) (AllReadyH.cons rfl (fun K hK => ?_) AllReadyH.nil)
  rw [if_pos (by rfl)]
  go_simp
  refine (c4host adr1 rfl _).mono ?_
  rintro e w4 ⟨rfl, b4⟩
  rw [hH]
  show K _ _
  refine hK.out _ _ (range_below hS hs3 b4) (fun hS => ?_)
  clear hK K
  try go_frame
  refine held_pure (i := 16) (oi := ⟨some 23, _, _, _, _, _⟩) rfl (by kernel_rfl) (by kernel_rfl) (by kernel_rfl) (fun _ _ _ h => h) (by rfl) (v := (.bool true)) (fun w hSw => by go_simp) hS (fun hS => ?_)
  try go_frame
  refine held_pure (i := 17) (oi := ⟨some 0, _, _, _, _, _⟩) rfl (by kernel_rfl) (by kernel_rfl) (by kernel_rfl) (fun _ _ _ h => h) (by rfl) (v := (.bool true)) (fun w hSw => by go_simp) hS (fun hS => ?_)
  try go_frame
  refine wpAnyH_done (by kernel_rfl) ?_ _
  go_wp2
  go_ret
  exact ⟨rfl, chain4 b1 b2 b3 b4⟩
end Go.Proofs.YtokcelbpiglieaaDoor
