/-
  Contracts and lemmas on which the proofs of this seat stand (several texts in one). Conditions are each theorem's own.
-/
import Derived.Test.YtpoigngpdcmipaaGreatMb18
import Derived.Test.YtpoigngpdcmipaaGreatMb9
import Derived.Test.YtpoigngpdcmipaaGreatMb7
import Derived.Test.YtpoigngpdcmipaaGreatMb13
import Derived.Test.YtpoigngpdcmipaaGreatMb2
import Derived.Laws.AppendOwn
namespace Go.Proofs.YtpoigngpdcmipaaGreat
open Go.RowKit
theorem baddr (w : World) : Calls Tryz.prog 21 #[] w fun e w' => e = .returned (.int .i64 3221225474) ∧ w = w' := by
  go_enter Tryz.func21, Tryz.ntmps21
  go_wp2
  go_ret
  exact ⟨rfl, rfl⟩
set_option maxRecDepth 100000 in
set_option maxHeartbeats 4000000 in
theorem bbuilt (q : P4) (A : Option Addr) (c : Nat) (A' : Option Addr) (c' B : Nat) (w : World) (hO : Arg w B A c q.opt) (hD : Arg w B A' c' q.dat) (hB0 : B ≤ w.heap.size) (ho : q.opt.length ≤ 1000000) (hd : q.dat.length ≤ 1000000) (h4 : chk4 q = 0) :
    Calls Tryz.prog 88 #[.agg (v4a q A c A' c')] w fun e w' => ∃ P p, e = .returned (.slice P (bld4 q).length p) ∧ Made w w' (.slice P (bld4 q).length p) (bld4 q) := by
  have hb := (Below.refl _ w).alloc (Nat.le_refl _) (.cells (v4a q A c A' c') 46)
  have k0 := World.alloc_heap_new w (.cells (v4a q A c A' c') 46)
  have HC := Lib.hid h4
  clear h4
  go_enter Tryz.func88, Tryz.ntmps88
  go_upto_region 1 with fail
  generalize w.alloc (.cells (v4a q A c A' c') 46) = W at *
  have at0 := ofhE k0
  have hO := hO.below (hb.mono hB0)
  have hD := hD.below (hb.mono hB0)
  go_wp2_with (first
    | ((with_reducible show wpList _ _ _ (Oper.mk _ (Op.load 46 _) _ _ _ _ :: _) _ _); refine wpList_val rfl (run_load_v4 rfl rfl at0 rfl) ?_)
    | (go_at_call 116; refine (c4build q A c A' c' W B hO hD (Nat.le_trans hB0 hb.size) ho hd).mono ?_; rintro e w1 ⟨v, rfl, _, m1⟩; rw [HC.out]; have m1 := m1 HC.out; obtain ⟨P, p, rfl, g1, o1, x1⟩ := made_shape m1))
  go_ret
  exact ⟨P, p, rfl, Made.of_own (own_base o1 hb.size) (hb.trans (x1.mono hb.size))⟩
set_option maxRecDepth 100000 in
set_option maxHeartbeats 4000000 in
theorem bover (q0 : P4) (A : Option Addr) (c : Nat) (A' : Option Addr) (c' : Nat) (w : World) (hO0 : Arg w w.heap.size A c q0.opt) (hD0 : Arg w w.heap.size A' c' q0.dat) (ho0 : q0.opt.length ≤ 1000000) (hd0 : q0.dat.length ≤ 1000000) (h40 : chk4 q0 = 0) (hl : (bld4 q0).length ≤ 900000)
    (hm : mkE 3221225474 11 0 0 (bld4 q0) = 0) (h4 : chk4 (mkV 3221225474 11 0 0 (bld4 q0)) = 0) (hd : (mkV 3221225474 11 0 0 (bld4 q0)).dat.length ≤ 1000000) :
    Calls Tryz.prog 57 #[.agg (v4a q0 A c A' c')] w fun e w' => ∃ g, e = .returned (.slice (some ⟨g, 0, none⟩) 1 1) ∧ Below w.heap.size w w' := by
  have hb := (Below.refl _ w).alloc (Nat.le_refl _) (.cells (v4a q0 A c A' c') 46)
  have k0 := World.alloc_heap_new w (.cells (v4a q0 A c A' c') 46)
  have zg := heap_lt k0
  obtain ⟨q, hq⟩ : ∃ q, q = mkV 3221225474 11 0 0 (bld4 q0) := ⟨_, rfl⟩
  have hqo : q.opt = [] := by rw [hq, mkV]; split <;> rfl
  have HM := Lib.hid hm
  have HQ := Lib.hid hq
  have HC := Lib.hid (show chk4 q = 0 by rw [hq]; exact h4)
  have HL := Lib.hid (show q.dat.length ≤ 1000000 by rw [hq]; exact hd)
  have HO := Lib.hid hqo
  have HC0 := Lib.hid h40
  have HL0 := Lib.hid hl
  have hO : Arg (w.alloc (.cells (v4a q0 A c A' c') 46)) w.heap.size A c q0.opt := hO0.below hb
  have hD : Arg (w.alloc (.cells (v4a q0 A c A' c') 46)) w.heap.size A' c' q0.dat := hD0.below hb
  clear hm hq h4 hd hqo h40 hl hO0 hD0
  go_enter Tryz.func57, Tryz.ntmps57
  go_upto_region 1 with fail
  generalize w.alloc (.cells (v4a q0 A c A' c') 46) = W at *
  have KQ : Hid (∀ V, Below W.heap.size W V → At4 V w.heap.size q0 A c A' c') := Lib.hid (fun V hV => ofhE ((hV.block _ zg).trans k0))
  refine wp_region_held_drew (S := fun V => Below W.heap.size W V) (by kernel_rfl) (Below.refl _ W).drew (fun hS => ?_)
  have yZ := hS
  generalize W.drew = Z at *
  refine held_pure (i := 1) (oi := ⟨some 7, _, _, _, _, _⟩) rfl (by kernel_rfl) (by kernel_rfl) (by kernel_rfl) (fun _ _ _ h => h) (by rfl) (fun w hSw => run_load_v4 rfl rfl (KQ.out w hSw) rfl) hS (fun hS => ?_)
  try go_frame
  refine wpAnyH_ready (rs := [0, 7]) (by kernel_rfl) (by simp) (AllReadyH.cons (o := ⟨some 6, _, _, _, _, _⟩) rfl (fun K hK => ?_) (AllReadyH.cons (o := ⟨some 3, _, _, _, _, _⟩) rfl (fun K hK => ?_) AllReadyH.nil))
  · rw [if_pos (by rfl)]
    go_simp
    refine (baddr _).mono ?_
    rintro e Z0 ⟨rfl, rfl⟩
    show K _ _
    refine hK.out _ _ yZ (fun hS => ?_)
    clear hK K
    try go_frame
    refine wpAnyH_ready (rs := [2, 7]) (by kernel_rfl) (by simp) (AllReadyH.cons (o := ⟨some 8, _, _, _, _, _⟩) rfl (fun K hK => ?_) (AllReadyH.cons (o := ⟨some 3, _, _, _, _, _⟩) rfl (fun K hK => ?_) AllReadyH.nil))
    · rw [if_pos (by rfl)]
      go_simp
      refine (bbuilt q0 A c A' c' w.heap.size Z (hO.below (yZ.mono hb.size)) (hD.below (yZ.mono hb.size)) (Nat.le_trans hb.size yZ.size) ho0 hd0 HC0.out).mono ?_
      rintro e Z ⟨P1, p1, rfl, m1⟩
      obtain ⟨_, _, e1, g1, o1, x1⟩ := made_shape m1
      cases e1
      try have kz := (x1.block gB (heap_lt kz)).trans kz
      have yZ := yZ.trans (x1.mono yZ.size)
      clear m1 o1 x1
      show K _ _
      refine hK.out _ _ yZ (fun hS => ?_)
      clear hK K
      try go_frame
      refine wpAnyH_ready (rs := [3, 7]) (by kernel_rfl) (by simp) (AllReadyH.cons (o := ⟨some 9, _, _, _, _, _⟩) rfl (fun K hK => ?_) (AllReadyH.cons (o := ⟨some 3, _, _, _, _, _⟩) rfl (fun K hK => ?_) AllReadyH.nil))
      · rw [if_pos (by rfl)]
        go_simp
        refine (cEmake 3221225474 11 0 0 (bld4 q0) P1 p1 Z.heap.size Z g1 (Nat.le_refl _) HL0.out).mono ?_
        rintro e Z ⟨P2, p2, rfl, m2⟩
        rw [HM.out]
        rw [← HQ.out] at m2 ⊢
        obtain ⟨_, _, e2, g2, o2, x2⟩ := made_shape m2
        cases e2
        have o2 := own_base o2 yZ.size
        try have kz := (x2.block gB (heap_lt kz)).trans kz
        have yZ := yZ.trans (x2.mono yZ.size)
        clear m2 x2 g2
        show K _ _
        refine hK.out _ _ yZ (fun hS => ?_)
        clear hK K
        try go_frame
        refine held_pure (i := 4) (oi := ⟨some 5, _, _, _, _, _⟩) rfl (by kernel_rfl) (by kernel_rfl) (by kernel_rfl) (fun _ _ _ h => h) (by rfl) (v := ?_) (fun w hSw => ?_) hS (fun hS => ?_)
        rotate_left
        · go_simp; try with_reducible rfl
        try go_frame
        refine held_pure (i := 5) (oi := ⟨some 10, _, _, _, _, _⟩) rfl (by kernel_rfl) (by kernel_rfl) (by kernel_rfl) (fun _ _ _ h => h) (by rfl) (v := ?_) (fun w hSw => ?_) hS (fun hS => ?_)
        rotate_left
        · go_simp; try with_reducible rfl
        try go_frame
        refine held_pure (i := 6) (oi := ⟨some 11, _, _, _, _, _⟩) rfl (by kernel_rfl) (by kernel_rfl) (by kernel_rfl) (fun _ _ _ h => h) (by rfl) (v := ?_) (fun w hSw => ?_) hS (fun hS => ?_)
        rotate_left
        · go_simp; try with_reducible rfl
        try go_frame
        refine wpAnyH_ready (rs := [7]) (by kernel_rfl) (by simp) (AllReadyH.cons (o := ⟨some 3, _, _, _, _, _⟩) rfl (fun K hK => ?_) AllReadyH.nil)
        rw [if_pos (by rfl)]
        go_simp
        have kz := World.alloc_heap_new Z (.cells (v4a p4z none 0 none 0) 46)
        have a1 : Below Z.heap.size Z (Z.alloc (.cells (v4a p4z none 0 none 0) 46)) := (Below.refl _ Z).alloc (Nat.le_refl _) _
        try have g1 := (g1.below a1).more a1.size
        try have o2 := own_below o2 a1
        have zB : W.heap.size ≤ Z.heap.size := yZ.size
        have yZ := yZ.alloc yZ.size (.cells (v4a p4z none 0 none 0) 46)
        show K _ (Z.alloc (.cells (v4a p4z none 0 none 0) 46))
        refine hK.out _ _ yZ (fun hS => ?_)
        clear hK K a1
        generalize Z.heap.size = gB at *
        generalize Z.alloc (.cells (v4a p4z none 0 none 0) 46) = Z at *
        try go_frame
        refine wpAnyH_ready (rs := [8]) (by kernel_rfl) (by simp) (AllReadyH.cons (o := ⟨none, _, _, _, _, _⟩) rfl (fun K hK => ?_) AllReadyH.nil)
        rw [if_pos (by rfl)]
        refine wp_store_row 46 _ _ rfl gB (v4a q none 0 P2 p2) rfl rfl 46 _ kz (by kernel_rfl) rfl (v4a_one _ _ _ _ _) ?_
        have kq := setRow_heap Z gB _ (v4a q none 0 P2 p2) _ _ kz
        have o4 := own_setRowR (cs' := v4a q none 0 P2 p2) o2 kz (by decide)
        have y4 : Below W.heap.size W (Z.setRow gB (v4a q none 0 P2 p2)) := below_row yZ zB
        refine hK _ _ y4 (fun hS => ?_)
        clear hK K kz o2 yZ
        try clear g1
        generalize Z.setRow gB (v4a q none 0 P2 p2) = X at *
        try go_frame
        refine held_pure (i := 9) (oi := ⟨some 4, _, _, _, _, _⟩) rfl (by kernel_rfl) (by kernel_rfl) (by kernel_rfl) (fun _ _ _ h => h) (by rfl) (v := ?_) (fun w hSw => ?_) hS (fun hS => ?_)
        rotate_left
        · go_simp; try with_reducible rfl
        try go_frame
        refine wpAnyH_done (by kernel_rfl) ?_ _
        have at1 := ofhE kq
        have hn : Arg X X.heap.size none 0 q.opt := by rw [HO.out]; exact Arg.nil _ _
        have hn0 : q.opt.length ≤ 1000000 := by rw [HO.out]; decide
        have g1 := arg_own o4
        go_wp2_with (first
          | ((with_reducible show wpList _ _ _ (Oper.mk _ (Op.load 46 _) _ _ _ _ :: _) _ _); refine wpList_val rfl (run_load_v4 rfl rfl at1 rfl) ?_)
          | (go_at_call 88; refine (bbuilt q none 0 P2 p2 X.heap.size X hn g1 (Nat.le_refl _) hn0 HL.out HC.out).mono ?_; rintro e w2 ⟨P, p, rfl, m2⟩; obtain ⟨_, _, e2, g2, _, x2⟩ := made_shape m2; cases e2; clear m2))
        go_ret
        exact ⟨_, rfl, hb.trans (((y4.trans (x2.mono y4.size)).alloc (Nat.le_trans y4.size x2.size) _).mono hb.size)⟩
      · rw [if_pos (by rfl)]
        go_simp
        have kz := World.alloc_heap_new Z (.cells (v4a p4z none 0 none 0) 46)
        have a1 : Below Z.heap.size Z (Z.alloc (.cells (v4a p4z none 0 none 0) 46)) := (Below.refl _ Z).alloc (Nat.le_refl _) _
        try have g1 := (g1.below a1).more a1.size
        try have o2 := own_below o2 a1
        have zB : W.heap.size ≤ Z.heap.size := yZ.size
        have yZ := yZ.alloc yZ.size (.cells (v4a p4z none 0 none 0) 46)
        show K _ (Z.alloc (.cells (v4a p4z none 0 none 0) 46))
        refine hK.out _ _ yZ (fun hS => ?_)
        clear hK K a1
        generalize Z.heap.size = gB at *
        generalize Z.alloc (.cells (v4a p4z none 0 none 0) 46) = Z at *
        try go_frame
        refine wpAnyH_ready (rs := [3]) (by kernel_rfl) (by simp) (AllReadyH.cons (o := ⟨some 9, _, _, _, _, _⟩) rfl (fun K hK => ?_) AllReadyH.nil)
        rw [if_pos (by rfl)]
        go_simp
        refine (cEmake 3221225474 11 0 0 (bld4 q0) P1 p1 Z.heap.size Z g1 (Nat.le_refl _) HL0.out).mono ?_
        rintro e Z ⟨P2, p2, rfl, m2⟩
        rw [HM.out]
        rw [← HQ.out] at m2 ⊢
        obtain ⟨_, _, e2, g2, o2, x2⟩ := made_shape m2
        cases e2
        have o2 := own_base o2 yZ.size
        try have kz := (x2.block gB (heap_lt kz)).trans kz
        have yZ := yZ.trans (x2.mono yZ.size)
        clear m2 x2 g2
        show K _ _
        refine hK.out _ _ yZ (fun hS => ?_)
        clear hK K
        try go_frame
        refine held_pure (i := 4) (oi := ⟨some 5, _, _, _, _, _⟩) rfl (by kernel_rfl) (by kernel_rfl) (by kernel_rfl) (fun _ _ _ h => h) (by rfl) (v := ?_) (fun w hSw => ?_) hS (fun hS => ?_)
        rotate_left
        · go_simp; try with_reducible rfl
        try go_frame
        refine held_pure (i := 5) (oi := ⟨some 10, _, _, _, _, _⟩) rfl (by kernel_rfl) (by kernel_rfl) (by kernel_rfl) (fun _ _ _ h => h) (by rfl) (v := ?_) (fun w hSw => ?_) hS (fun hS => ?_)
        rotate_left
        · go_simp; try with_reducible rfl
        try go_frame
        refine held_pure (i := 6) (oi := ⟨some 11, _, _, _, _, _⟩) rfl (by kernel_rfl) (by kernel_rfl) (by kernel_rfl) (fun _ _ _ h => h) (by rfl) (v := ?_) (fun w hSw => ?_) hS (fun hS => ?_)
        rotate_left
        · go_simp; try with_reducible rfl
        try go_frame
        refine wpAnyH_ready (rs := [8]) (by kernel_rfl) (by simp) (AllReadyH.cons (o := ⟨none, _, _, _, _, _⟩) rfl (fun K hK => ?_) AllReadyH.nil)
        rw [if_pos (by rfl)]
        refine wp_store_row 46 _ _ rfl gB (v4a q none 0 P2 p2) rfl rfl 46 _ kz (by kernel_rfl) rfl (v4a_one _ _ _ _ _) ?_
        have kq := setRow_heap Z gB _ (v4a q none 0 P2 p2) _ _ kz
        have o4 := own_setRowR (cs' := v4a q none 0 P2 p2) o2 kz (by decide)
        have y4 : Below W.heap.size W (Z.setRow gB (v4a q none 0 P2 p2)) := below_row yZ zB
        refine hK _ _ y4 (fun hS => ?_)
        clear hK K kz o2 yZ
        try clear g1
        generalize Z.setRow gB (v4a q none 0 P2 p2) = X at *
        try go_frame
        refine held_pure (i := 9) (oi := ⟨some 4, _, _, _, _, _⟩) rfl (by kernel_rfl) (by kernel_rfl) (by kernel_rfl) (fun _ _ _ h => h) (by rfl) (v := ?_) (fun w hSw => ?_) hS (fun hS => ?_)
        rotate_left
        · go_simp; try with_reducible rfl
        try go_frame
        refine wpAnyH_done (by kernel_rfl) ?_ _
        have at1 := ofhE kq
        have hn : Arg X X.heap.size none 0 q.opt := by rw [HO.out]; exact Arg.nil _ _
        have hn0 : q.opt.length ≤ 1000000 := by rw [HO.out]; decide
        have g1 := arg_own o4
        go_wp2_with (first
          | ((with_reducible show wpList _ _ _ (Oper.mk _ (Op.load 46 _) _ _ _ _ :: _) _ _); refine wpList_val rfl (run_load_v4 rfl rfl at1 rfl) ?_)
          | (go_at_call 88; refine (bbuilt q none 0 P2 p2 X.heap.size X hn g1 (Nat.le_refl _) hn0 HL.out HC.out).mono ?_; rintro e w2 ⟨P, p, rfl, m2⟩; obtain ⟨_, _, e2, g2, _, x2⟩ := made_shape m2; cases e2; clear m2))
        go_ret
        exact ⟨_, rfl, hb.trans (((y4.trans (x2.mono y4.size)).alloc (Nat.le_trans y4.size x2.size) _).mono hb.size)⟩
    · rw [if_pos (by rfl)]
      go_simp
      have kz := World.alloc_heap_new Z (.cells (v4a p4z none 0 none 0) 46)
      have a1 : Below Z.heap.size Z (Z.alloc (.cells (v4a p4z none 0 none 0) 46)) := (Below.refl _ Z).alloc (Nat.le_refl _) _
      try have g1 := (g1.below a1).more a1.size
      try have o2 := own_below o2 a1
      have zB : W.heap.size ≤ Z.heap.size := yZ.size
      have yZ := yZ.alloc yZ.size (.cells (v4a p4z none 0 none 0) 46)
      show K _ (Z.alloc (.cells (v4a p4z none 0 none 0) 46))
      refine hK.out _ _ yZ (fun hS => ?_)
      clear hK K a1
      generalize Z.heap.size = gB at *
      generalize Z.alloc (.cells (v4a p4z none 0 none 0) 46) = Z at *
      try go_frame
      refine wpAnyH_ready (rs := [2]) (by kernel_rfl) (by simp) (AllReadyH.cons (o := ⟨some 8, _, _, _, _, _⟩) rfl (fun K hK => ?_) AllReadyH.nil)
      rw [if_pos (by rfl)]
      go_simp
      refine (bbuilt q0 A c A' c' w.heap.size Z (hO.below (yZ.mono hb.size)) (hD.below (yZ.mono hb.size)) (Nat.le_trans hb.size yZ.size) ho0 hd0 HC0.out).mono ?_
      rintro e Z ⟨P1, p1, rfl, m1⟩
      obtain ⟨_, _, e1, g1, o1, x1⟩ := made_shape m1
      cases e1
      try have kz := (x1.block gB (heap_lt kz)).trans kz
      have yZ := yZ.trans (x1.mono yZ.size)
      clear m1 o1 x1
      show K _ _
      refine hK.out _ _ yZ (fun hS => ?_)
      clear hK K
      try go_frame
      refine wpAnyH_ready (rs := [3]) (by kernel_rfl) (by simp) (AllReadyH.cons (o := ⟨some 9, _, _, _, _, _⟩) rfl (fun K hK => ?_) AllReadyH.nil)
      rw [if_pos (by rfl)]
      go_simp
      refine (cEmake 3221225474 11 0 0 (bld4 q0) P1 p1 Z.heap.size Z g1 (Nat.le_refl _) HL0.out).mono ?_
      rintro e Z ⟨P2, p2, rfl, m2⟩
      rw [HM.out]
      rw [← HQ.out] at m2 ⊢
      obtain ⟨_, _, e2, g2, o2, x2⟩ := made_shape m2
      cases e2
      have o2 := own_base o2 yZ.size
      try have kz := (x2.block gB (heap_lt kz)).trans kz
      have yZ := yZ.trans (x2.mono yZ.size)
      clear m2 x2 g2
      show K _ _
      refine hK.out _ _ yZ (fun hS => ?_)
      clear hK K
      try go_frame
      refine held_pure (i := 4) (oi := ⟨some 5, _, _, _, _, _⟩) rfl (by kernel_rfl) (by kernel_rfl) (by kernel_rfl) (fun _ _ _ h => h) (by rfl) (v := ?_) (fun w hSw => ?_) hS (fun hS => ?_)
      rotate_left
      · go_simp; try with_reducible rfl
      try go_frame
      refine held_pure (i := 5) (oi := ⟨some 10, _, _, _, _, _⟩) rfl (by kernel_rfl) (by kernel_rfl) (by kernel_rfl) (fun _ _ _ h => h) (by rfl) (v := ?_) (fun w hSw => ?_) hS (fun hS => ?_)
      rotate_left
      · go_simp; try with_reducible rfl
      try go_frame
      refine held_pure (i := 6) (oi := ⟨some 11, _, _, _, _, _⟩) rfl (by kernel_rfl) (by kernel_rfl) (by kernel_rfl) (fun _ _ _ h => h) (by rfl) (v := ?_) (fun w hSw => ?_) hS (fun hS => ?_)
      rotate_left
      · go_simp; try with_reducible rfl
      try go_frame
      refine wpAnyH_ready (rs := [8]) (by kernel_rfl) (by simp) (AllReadyH.cons (o := ⟨none, _, _, _, _, _⟩) rfl (fun K hK => ?_) AllReadyH.nil)
      rw [if_pos (by rfl)]
      refine wp_store_row 46 _ _ rfl gB (v4a q none 0 P2 p2) rfl rfl 46 _ kz (by kernel_rfl) rfl (v4a_one _ _ _ _ _) ?_
      have kq := setRow_heap Z gB _ (v4a q none 0 P2 p2) _ _ kz
      have o4 := own_setRowR (cs' := v4a q none 0 P2 p2) o2 kz (by decide)
      have y4 : Below W.heap.size W (Z.setRow gB (v4a q none 0 P2 p2)) := below_row yZ zB
      refine hK _ _ y4 (fun hS => ?_)
      clear hK K kz o2 yZ
      try clear g1
      generalize Z.setRow gB (v4a q none 0 P2 p2) = X at *
      try go_frame
      refine held_pure (i := 9) (oi := ⟨some 4, _, _, _, _, _⟩) rfl (by kernel_rfl) (by kernel_rfl) (by kernel_rfl) (fun _ _ _ h => h) (by rfl) (v := ?_) (fun w hSw => ?_) hS (fun hS => ?_)
      rotate_left
      · go_simp; try with_reducible rfl
      try go_frame
      refine wpAnyH_done (by kernel_rfl) ?_ _
      have at1 := ofhE kq
      have hn : Arg X X.heap.size none 0 q.opt := by rw [HO.out]; exact Arg.nil _ _
      have hn0 : q.opt.length ≤ 1000000 := by rw [HO.out]; decide
      have g1 := arg_own o4
      go_wp2_with (first
        | ((with_reducible show wpList _ _ _ (Oper.mk _ (Op.load 46 _) _ _ _ _ :: _) _ _); refine wpList_val rfl (run_load_v4 rfl rfl at1 rfl) ?_)
        | (go_at_call 88; refine (bbuilt q none 0 P2 p2 X.heap.size X hn g1 (Nat.le_refl _) hn0 HL.out HC.out).mono ?_; rintro e w2 ⟨P, p, rfl, m2⟩; obtain ⟨_, _, e2, g2, _, x2⟩ := made_shape m2; cases e2; clear m2))
      go_ret
      exact ⟨_, rfl, hb.trans (((y4.trans (x2.mono y4.size)).alloc (Nat.le_trans y4.size x2.size) _).mono hb.size)⟩
  · rw [if_pos (by rfl)]
    go_simp
    have kz := World.alloc_heap_new Z (.cells (v4a p4z none 0 none 0) 46)
    have a1 : Below Z.heap.size Z (Z.alloc (.cells (v4a p4z none 0 none 0) 46)) := (Below.refl _ Z).alloc (Nat.le_refl _) _
    try have g1 := (g1.below a1).more a1.size
    try have o2 := own_below o2 a1
    have zB : W.heap.size ≤ Z.heap.size := yZ.size
    have yZ := yZ.alloc yZ.size (.cells (v4a p4z none 0 none 0) 46)
    show K _ (Z.alloc (.cells (v4a p4z none 0 none 0) 46))
    refine hK.out _ _ yZ (fun hS => ?_)
    clear hK K a1
    generalize Z.heap.size = gB at *
    generalize Z.alloc (.cells (v4a p4z none 0 none 0) 46) = Z at *
    try go_frame
    refine wpAnyH_ready (rs := [0]) (by kernel_rfl) (by simp) (AllReadyH.cons (o := ⟨some 6, _, _, _, _, _⟩) rfl (fun K hK => ?_) AllReadyH.nil)
    rw [if_pos (by rfl)]
    go_simp
    refine (baddr _).mono ?_
    rintro e Z0 ⟨rfl, rfl⟩
    show K _ _
    refine hK.out _ _ yZ (fun hS => ?_)
    clear hK K
    try go_frame
    refine wpAnyH_ready (rs := [2]) (by kernel_rfl) (by simp) (AllReadyH.cons (o := ⟨some 8, _, _, _, _, _⟩) rfl (fun K hK => ?_) AllReadyH.nil)
    rw [if_pos (by rfl)]
    go_simp
    refine (bbuilt q0 A c A' c' w.heap.size Z (hO.below (yZ.mono hb.size)) (hD.below (yZ.mono hb.size)) (Nat.le_trans hb.size yZ.size) ho0 hd0 HC0.out).mono ?_
    rintro e Z ⟨P1, p1, rfl, m1⟩
    obtain ⟨_, _, e1, g1, o1, x1⟩ := made_shape m1
    cases e1
    try have kz := (x1.block gB (heap_lt kz)).trans kz
    have yZ := yZ.trans (x1.mono yZ.size)
    clear m1 o1 x1
    show K _ _
    refine hK.out _ _ yZ (fun hS => ?_)
    clear hK K
    try go_frame
    refine wpAnyH_ready (rs := [3]) (by kernel_rfl) (by simp) (AllReadyH.cons (o := ⟨some 9, _, _, _, _, _⟩) rfl (fun K hK => ?_) AllReadyH.nil)
    rw [if_pos (by rfl)]
    go_simp
    refine (cEmake 3221225474 11 0 0 (bld4 q0) P1 p1 Z.heap.size Z g1 (Nat.le_refl _) HL0.out).mono ?_
    rintro e Z ⟨P2, p2, rfl, m2⟩
    rw [HM.out]
    rw [← HQ.out] at m2 ⊢
    obtain ⟨_, _, e2, g2, o2, x2⟩ := made_shape m2
    cases e2
    have o2 := own_base o2 yZ.size
    try have kz := (x2.block gB (heap_lt kz)).trans kz
    have yZ := yZ.trans (x2.mono yZ.size)
    clear m2 x2 g2
    show K _ _
    refine hK.out _ _ yZ (fun hS => ?_)
    clear hK K
    try go_frame
    refine held_pure (i := 4) (oi := ⟨some 5, _, _, _, _, _⟩) rfl (by kernel_rfl) (by kernel_rfl) (by kernel_rfl) (fun _ _ _ h => h) (by rfl) (v := ?_) (fun w hSw => ?_) hS (fun hS => ?_)
    rotate_left
    · go_simp; try with_reducible rfl
    try go_frame
    refine held_pure (i := 5) (oi := ⟨some 10, _, _, _, _, _⟩) rfl (by kernel_rfl) (by kernel_rfl) (by kernel_rfl) (fun _ _ _ h => h) (by rfl) (v := ?_) (fun w hSw => ?_) hS (fun hS => ?_)
    rotate_left
    · go_simp; try with_reducible rfl
    try go_frame
    refine held_pure (i := 6) (oi := ⟨some 11, _, _, _, _, _⟩) rfl (by kernel_rfl) (by kernel_rfl) (by kernel_rfl) (fun _ _ _ h => h) (by rfl) (v := ?_) (fun w hSw => ?_) hS (fun hS => ?_)
    rotate_left
    · go_simp; try with_reducible rfl
    try go_frame
    refine wpAnyH_ready (rs := [8]) (by kernel_rfl) (by simp) (AllReadyH.cons (o := ⟨none, _, _, _, _, _⟩) rfl (fun K hK => ?_) AllReadyH.nil)
    rw [if_pos (by rfl)]
    refine wp_store_row 46 _ _ rfl gB (v4a q none 0 P2 p2) rfl rfl 46 _ kz (by kernel_rfl) rfl (v4a_one _ _ _ _ _) ?_
    have kq := setRow_heap Z gB _ (v4a q none 0 P2 p2) _ _ kz
    have o4 := own_setRowR (cs' := v4a q none 0 P2 p2) o2 kz (by decide)
    have y4 : Below W.heap.size W (Z.setRow gB (v4a q none 0 P2 p2)) := below_row yZ zB
    refine hK _ _ y4 (fun hS => ?_)
    clear hK K kz o2 yZ
    try clear g1
    generalize Z.setRow gB (v4a q none 0 P2 p2) = X at *
    try go_frame
    refine held_pure (i := 9) (oi := ⟨some 4, _, _, _, _, _⟩) rfl (by kernel_rfl) (by kernel_rfl) (by kernel_rfl) (fun _ _ _ h => h) (by rfl) (v := ?_) (fun w hSw => ?_) hS (fun hS => ?_)
    rotate_left
    · go_simp; try with_reducible rfl
    try go_frame
    refine wpAnyH_done (by kernel_rfl) ?_ _
    have at1 := ofhE kq
    have hn : Arg X X.heap.size none 0 q.opt := by rw [HO.out]; exact Arg.nil _ _
    have hn0 : q.opt.length ≤ 1000000 := by rw [HO.out]; decide
    have g1 := arg_own o4
    go_wp2_with (first
      | ((with_reducible show wpList _ _ _ (Oper.mk _ (Op.load 46 _) _ _ _ _ :: _) _ _); refine wpList_val rfl (run_load_v4 rfl rfl at1 rfl) ?_)
      | (go_at_call 88; refine (bbuilt q none 0 P2 p2 X.heap.size X hn g1 (Nat.le_refl _) hn0 HL.out HC.out).mono ?_; rintro e w2 ⟨P, p, rfl, m2⟩; obtain ⟨_, _, e2, g2, _, x2⟩ := made_shape m2; cases e2; clear m2))
    go_ret
    exact ⟨_, rfl, hb.trans (((y4.trans (x2.mono y4.size)).alloc (Nat.le_trans y4.size x2.size) _).mono hb.size)⟩
end Go.Proofs.YtpoigngpdcmipaaGreat
namespace Go.Proofs.YtpoigngpdcmipaaGreat
open Go.RowKit
theorem fg6_mem (q : P6) (id mtu : Int) : ∀ (f off : Nat), ∀ p ∈ fg6 q id mtu f off, ∃ d, p = { q with next := 44, dat := d }
  | 0, off, p, hp => by cases hp
  | f + 1, off, p, hp => by
    rw [fg6] at hp
    split at hp
    · rcases List.mem_cons.1 hp with rfl | hp
      · exact ⟨_, rfl⟩
      · exact fg6_mem q id mtu f _ p hp
    · rcases List.mem_singleton.1 hp with rfl
      exact ⟨_, rfl⟩
def cutB (m id : Int) (q : P6) : List P6 := if size6 q ≤ m then [q] else cutL6 q id m
def pieceB (p : P6) : List UInt8 := if prtO p = true then prtB p else p.dat
theorem chk6_iff {q : P6} : chk6 q = 0 ↔ arg6 q ∧ (q.dat.length : Int) ≤ 65535 := by
  unfold chk6
  split
  · rename_i ha
    split
    · constructor
      · intro h; cases h
      · intro h; omega
    · exact ⟨fun _ => ⟨ha, by omega⟩, fun _ => rfl⟩
  · rename_i ha
    exact ⟨fun h => (by cases h), fun h => absurd h.1 ha⟩
theorem cutE6_zero {q : P6} {id m : Int} (hm : 1280 ≤ m ∧ m ≤ 65535) (hi : 0 ≤ id ∧ id < 4294967296) (hc : chk6 q = 0) : cutE6 q id m = 0 := by
  rw [cutE6, if_neg (by omega), hc]
structure CutOk (m : Int) (q p : P6) : Prop where
  chk : chk6 p = 0
  src : p.src = q.src
  dst : p.dst = q.dst
  hop : p.hop = q.hop
  size : size6 p ≤ m
theorem cutB_all {q : P6} {id m : Int} (hm : 1280 ≤ m ∧ m ≤ 65535) (hi : 0 ≤ id ∧ id < 4294967296) (hc : chk6 q = 0) (hn : q.next = 4) :
    (∀ p ∈ cutB m id q, CutOk m q p) ∧ (cutB m id q).flatMap pieceB = q.dat ∧ (size6 q ≤ m → cutB m id q = [q]) := by
  have hE := cutE6_zero hm hi hc
  unfold cutB
  by_cases hs : size6 q ≤ m
  · rw [if_pos hs]
    refine ⟨fun p hp => ?_, ?_, fun _ => rfl⟩
    · rw [List.mem_singleton.1 hp]; exact ⟨hc, rfl, rfl, rfl, hs⟩
    · rw [List.flatMap_cons, List.flatMap_nil, List.append_nil, pieceB, if_neg (by rw [prtO, hn]; simp)]
  · rw [if_neg hs]
    have hl : (cutL6 q id m).length ≠ 1 := fun h => hs (cut6_one hE h).2
    have hF := cut6_many hE hl
    have hrst : cutL6 q id m = rst6 q id m 0 := by rw [cutL6, if_pos hE, if_neg hs]
    refine ⟨fun p hp => ?_, ?_, fun h => absurd h hs⟩
    · have hp2 := hp
      rw [hrst] at hp2
      obtain ⟨d, hd⟩ := fg6_mem q id m _ _ p hp2
      clear hp2
      obtain ⟨i, hi', rfl⟩ := List.getElem_of_mem hp
      obtain ⟨g1, g2, g3, g4, g5, g6, g7, g8, g9⟩ := hF.at_ i hi'
      refine ⟨chk6_iff.2 ⟨?_, ?_⟩, g7, g8, g9, g2⟩
      · obtain ⟨a0, a1, _, _, a4, a5, a6, a7⟩ := (chk6_iff.1 hc).1
        rw [hd]
        exact ⟨a0, a1, (by show (0 : Int) ≤ 44; decide), (by show (44 : Int) ≤ 255; decide), a4, a5, a6, a7⟩
      · have := g2
        unfold size6 at this
        omega
    · have e : ∀ l : List P6, (∀ p ∈ l, prtO p = true) → l.flatMap pieceB = behs l := by
        intro l
        induction l with
        | nil => intro _; rfl
        | cons p l ih =>
          intro h
          rw [List.flatMap_cons, ih (fun x hx => h x (List.mem_cons_of_mem _ hx)), pieceB, if_pos (h p (List.mem_cons_self ..))]
          rfl
      rw [e _ (fun p hp => by obtain ⟨i, hi', rfl⟩ := List.getElem_of_mem hp; exact (hF.at_ i hi').1), hF.all, List.drop_zero]
theorem cutB_len {q : P6} {id m : Int} (h : q.dat.length ≤ 65535) : (cutB m id q).length ≤ 1000000 := by
  unfold cutB cutL6
  have := rst6_len q id m 0
  repeat' split
  all_goals first | (simp; done) | omega
end Go.Proofs.YtpoigngpdcmipaaGreat
namespace Go.Proofs.YtpoigngpdcmipaaGreat
open Go.RowKit
structure YB where
  A : Option Addr
  c : Nat
  b : List UInt8
def clY (y : YB) : List Value := [.slice y.A y.b.length y.c]
def Own1 (W : World) (base : Nat) (y : YB) : Prop := W.ownsRow base 5 1 (.slice y.A y.b.length y.c) y.b.length (row y.b)
def RowY (W : World) (base : Nat) (v : Value) (l : List YB) : Prop := W.ownsRow base 22 1 v l.length (l.flatMap clY) ∧ ∀ y ∈ l, Own1 W base y
theorem RowY.base {V : World} {base b' : Nat} {v : Value} {l : List YB} (h : RowY V base v l) (hb : b' ≤ base) : RowY V b' v l := ⟨own_base h.1 hb, fun y hy => own_base (h.2 y hy) hb⟩
theorem own_beside {W W' : World} {b1 e1 s1 n1 b2 e2 s2 n2 : Nat} {v1 v2 : Value} {xs1 xs2 : List Value} (h1 : W.ownsRow b1 e1 s1 v1 n1 xs1) (h2 : W.ownsRow b2 e2 s2 v2 n2 xs2) (he : e1 ≠ e2) (hg : W.grownBy W' v2.ownBlock) : W'.ownsRow b1 e1 s1 v1 n1 xs1 := by
  refine h1.kept hg ?_
  rcases h1.2 with ⟨rfl, _⟩ | ⟨g1, cap1, cur1, rfl, _, hh1, _⟩
  · exact .inl rfl
  · refine .inr fun e => ?_
    rcases h2.2 with ⟨rfl, _⟩ | ⟨g2, cap2, cur2, rfl, _, hh2, _⟩
    · simp [Value.ownBlock] at e
    · have e' : g1 = g2 := by simpa [Value.ownBlock] using e
      subst e'
      rw [hh1] at hh2
      injection hh2 with hh2
      injection hh2 with _ e2 _
      exact he e2
theorem info_sb : (Tryz.prog.info? 22).map (fun i => (i.zero, i.size, i.bytes)) = some (some (.slice none 0 0), 1, 24) := by kernel_rfl
theorem run_bsY {o : Oper} {a : Act} {w : World} {x : Operand} {A : Option Addr} {n c : Nat} (ho : o.op = .buildSlice 34 1 #[(0, x)]) (hx : a.eval x = .slice A n c) :
    (execOp a.eval o).run Tryz.prog w = .ok (.value (.slice (some ⟨w.heap.size, 0, none⟩) 1 1)) (w.alloc (.cells #[.slice A n c] 22)) := by
  unfold execOp
  simp only [ho, List.map_toArray, List.map_cons, List.map_nil, hx]
  go_simp
theorem append_by {w : World} {ops : Array Oper} {rest : List Oper} {o : Oper} {a : Act} {Q : Exit → Act → World → Prop} (hgd : o.guard = none) (s x : Operand)
    (ho : o.op = .call { callee := .builtin .append, args := #[s, x], argTypes := #[34, 34] })
    (base : Nat) (v : Value) (S : List YB) (hs : a.eval s = v) (hown : w.ownsRow base 22 1 v S.length (S.flatMap clY))
    (g : Nat) (y : YB) (hx : a.eval x = .slice (some ⟨g, 0, none⟩) 1 1) (hy : w.cell? ⟨g, 0, none⟩ = some (.slice y.A y.b.length y.c))
    (hlen : S.length ≤ 1000000) (hbase : base ≤ w.heap.size)
    (h : ∀ v' w', w'.ownsRow base 22 1 v' (S ++ [y]).length ((S ++ [y]).flatMap clY) → w.grownBy w' v.ownBlock → wpList Tryz.prog ops Q rest (a.put o.dst v') w') : wpList Tryz.prog ops Q (o :: rest) a w := by
  obtain ⟨i0, hi, hz0, hz1, hz2⟩ := info_parts info_sb
  refine wpList_append_own w hgd s x 34 ho base 22 i0 _ 1 24 Tryz.underlying34 hi hz0 hz1 hz2 rfl (by decide) v S.length (S.flatMap clY) hs hown ⟨g, 0, none⟩ 1 1 (clY y) hx
      rfl (fun j u hu => ?_) (fun u hu => by simp [clY] at hu; subst hu; rfl) (by unfold maxLen; omega) (by omega) hbase (fun v' w' h1 h2 _ => h v' w' ?_ h2)
  · have hj : j = 0 := by have := (List.getElem?_eq_some_iff.1 hu).1; simpa [clY] using this
    subst hj
    simp [clY] at hu
    subst hu
    rw [add_off]; exact hy
  · rw [List.length_append, List.flatMap_append]
    simpa using h1
theorem Row6.parts {V : World} {base : Nat} {v : Value} {l : List X6} (h : Row6 V base v l) {i : Nat} {y : X6} (hy : l[i]? = some y) : ∃ b o c, v = .slice (some ⟨b, o, none⟩) l.length c ∧ V.rangeAt b (o + i * 37) (cl6 y) ∧ b < V.heap.size := by
  obtain ⟨A, c, e, hl, hc⟩ := h.l6
  obtain ⟨b, o, e2, hb, hr⟩ := hl.rd (by have := (List.getElem?_eq_some_iff.1 hy).1; omega)
  exact ⟨b, o, c, by rw [e, e2], hr i y hy, hb⟩
theorem cutB_eq {q : P6} {id m : Int} (hE : cutE6 q id m = 0) : cutB m id q = cutL6 q id m := by
  unfold cutB
  split
  · rename_i h
    rw [cutL6, if_pos hE, if_pos h]
  · rfl
set_option maxRecDepth 100000 in
set_option maxHeartbeats 4000000 in
theorem tncut (P : P6) (A : Option Addr) (c : Nat) (id m : Int) (w : World) (h6 : ok6 P) (hA : Arg w w.heap.size A c P.dat) (hl : P.dat.length ≤ 65535) (hm : 1280 ≤ m ∧ m ≤ 65535) (hid : 0 ≤ id ∧ id < 4294967296) (hc : chk6 P = 0) (hn : P.next = 4) :
    Calls Tryz.prog 90 #[.agg (v6a P A c), .int .i64 id, .int .i64 m] w fun e w' => ∃ v l id', Hid (e = .returned (.tuple #[v, .int .i64 id', .int .i64 0])) ∧ RowY w' w.heap.size v l ∧ Hid (l.map (·.b) = (cutB m id P).map bld6) ∧ (0 ≤ id' ∧ id' < 4294967296) ∧ Below w.heap.size w w' := by
  have hb := (Below.refl _ w).alloc (Nat.le_refl _) (.cells (v6a P A c) 38)
  have k0 := World.alloc_heap_new w (.cells (v6a P A c) 38)
  have hE := cutE6_zero hm hid hc
  have HEE := Lib.hid hE
  have HCB := Lib.hid (cutB_eq hE)
  have HMM := Lib.hid hm
  have HII := Lib.hid hid
  have HLEN := Lib.hid hl
  have HL := Lib.hid (cutB_all hm hid hc hn).1
  have hD : Arg (w.alloc (.cells (v6a P A c) 38)) w.heap.size A c P.dat := hA.below hb
  have hdl : P.dat.length ≤ 1000000 := by omega
  have q3' : IntKind.i64.wrap (id + 1) = id + 1 := IntWalk.i64_in _ (by omega)
  have hm3 : (id + 1).tmod 4294967296 = (id + 1) % 4294967296 := Int.tmod_eq_emod_of_nonneg (by omega)
  have Q3 := Lib.hid q3'
  have HM3 := Lib.hid hm3
  clear hA hl hm hid hc hn hE q3' hm3
  go_enter Tryz.func90, Tryz.ntmps90
  go_upto_region 1 with fail
  generalize w.alloc (.cells (v6a P A c) 38) = W at *
  have at0 : At6 W w.heap.size P A c := range_hpR k0
  go_upto_region 4 with (first
    | ((with_reducible show wpList _ _ _ (Oper.mk _ (Op.load 38 _) _ _ _ _ :: _) _ _); refine wpList_val rfl (run_load_v6 rfl rfl at0 (v6l_len h6.1 h6.2)) ?_)
    | (go_at_call 15; refine (c14cut P A c id m w.heap.size W h6 hD hb.size hdl).mono ?_; rintro e w5 ⟨v5, l5, rfl, r5, q5, x5⟩; rw [HEE.out]))
  have HQ5 : Hid (l5.map (·.q) = cutB m id P) := Lib.hid (by rw [HCB.out]; exact q5)
  have b5 := hb.trans (x5.mono hb.size)
  have HR5 := Lib.hid (show Row6 w5 w.heap.size v5 l5 from ⟨own_base r5.1 hb.size, fun y hy => ⟨(r5.2 y hy).1, own_base (r5.2 y hy).2 hb.size⟩⟩)
  have hz5 : w.heap.size ≤ w5.heap.size := b5.size
  obtain ⟨n, hn⟩ : ∃ n, n = l5.length := ⟨_, rfl⟩
  have HN := Lib.hid hn
  obtain ⟨A5, c5, hv5⟩ : ∃ A5 c5, v5 = .slice A5 n c5 := by
    obtain ⟨A, c, e, _, _⟩ := HR5.out.l6
    exact ⟨A, c, by rw [hn]; exact e⟩
  subst hv5
  have hn6 : n ≤ 1000000 := by
    have h1 : n = (cutB m id P).length := by rw [hn, ← HQ5.out, List.length_map]
    rw [h1]; exact cutB_len HLEN.out
  clear q5 r5 hn x5 at0 k0 hD
  go_wp2
  go_loopw [11, 28] (fun v i wr => ∃ (vv : Value) (j : Nat) (pre : List YB), vv = v ∧ j ≤ n ∧ i = .int .i64 (j : Int) ∧ Hid (wr.ownsRow w5.heap.size 22 1 v pre.length (pre.flatMap clY)) ∧ Hid (pre.length = j) ∧ Hid (∀ y ∈ pre, Own1 wr w5.heap.size y) ∧ Hid (pre.map (·.b) = (l5.take j).map (fun y => bld6 y.q)) ∧ Below w5.heap.size w5 wr) (fun _ i _ => n - (intOf i).toNat)
  case atStart => exact ⟨_, 0, [], rfl, Nat.zero_le _, rfl, Lib.hid (World.ownsRow_nil _ _ _ _), Lib.hid rfl, Lib.hid (fun y h => by cases h), Lib.hid rfl, Below.refl _ _⟩
  case round =>
    obtain ⟨vv, j, pre, rfl, hj, rfl, HRW, HPR, HBY, HMP, hB⟩ := hrel
    by_cases hlt : j < n
    · obtain ⟨y, hy⟩ : ∃ y, l5[j]? = some y := ⟨_, List.getElem?_eq_getElem (by rw [← HN.out]; exact hlt)⟩
      have hmem : y ∈ l5 := List.mem_of_getElem? hy
      have hCO : CutOk m P y.q := HL.out y.q (by rw [← HQ5.out]; exact List.mem_map_of_mem hmem)
      have HCK := Lib.hid hCO.chk
      have hyl : y.q.dat.length ≤ 1000000 := by have := (chk6_iff.1 hCO.chk).2; omega
      have HR := Lib.hid (show Row6 wr w.heap.size (.slice A5 n c5) l5 from HR5.out.below hB)
      obtain ⟨bb, oo, cc, ee, hr, hbb⟩ := HR.out.parts hy
      obtain ⟨rfl, hnn, rfl⟩ := Value.slice.inj ee
      have HYY := Lib.hid hy
      have HOY := Lib.hid (HR.out.2 y hmem)
      have HY6 := Lib.hid y.h6
      have hz := hB.size
      clear hmem hCO hy ee hj hnn
      go_upto_region 8 with (first
        | ((with_reducible show wpList _ _ _ (Oper.mk _ (Op.load 38 _) _ _ _ _ :: _) _ _); refine wpList_val rfl (run_load_v6o rfl rfl hr (cl6_len y.h6)) ?_)
        | ((with_reducible show wpList _ _ _ (Oper.mk _ (Op.store 38 _ _) _ _ _ _ :: _) _ _); refine v6_store_new (cs := v6a y.q y.A y.c) rfl rfl rfl (by rw [v6a_szR _ _ _ HY6.out.1 HY6.out.2]) (v6a_one _ _ _) ?_))
      have kz := World.alloc_heap_new wr (.cells (v6a y.q y.A y.c) 38)
      have hV : Below wr.heap.size wr (wr.alloc (.cells (v6a y.q y.A y.c) 38)) := (Below.refl _ wr).alloc (Nat.le_refl _) _
      have hOV : Arg (wr.alloc (.cells (v6a y.q y.A y.c) 38)) wr.heap.size y.A y.c y.q.dat := (HOY.out.arg).below hV
      generalize wr.alloc (.cells (v6a y.q y.A y.c) 38) = V at *
      have atV : At6 V wr.heap.size y.q y.A y.c := range_hpR kz
      have h6y := y.h6
      clear kz hr
      go_wp2_with (first
        | ((with_reducible show wpList _ _ _ (Oper.mk _ (Op.load 38 _) _ _ _ _ :: _) _ _); refine wpList_val rfl (run_load_v6 rfl rfl atV (v6l_len h6y.1 h6y.2)) ?_)
        | (go_at_call 117; refine (c6build y.q y.A y.c V wr.heap.size HY6.out.1 HY6.out.2 hyl hOV hV.size).mono ?_; rintro e w7 ⟨v7, rfl, _, m7⟩; rw [HCK.out]; have m7 := m7 HCK.out; obtain ⟨P7, p7, rfl, g7, o7, x7⟩ := made_shape m7; have y7 : Below wr.heap.size wr w7 := hV.trans (x7.mono hV.size))
        | ((with_reducible show wpList _ _ _ (Oper.mk _ (Op.buildSlice _ _ _) _ _ _ _ :: _) _ _); refine wpList_growU rfl (run_bsY rfl rfl) ?_)
        | (at_builtin; refine append_by rfl _ _ rfl w5.heap.size _ pre rfl (own_below (own_below HRW.out y7) ((Below.refl _ w7).alloc (Nat.le_refl _) _)) w7.heap.size ⟨P7, p7, bld6 y.q⟩ rfl (cellC (World.alloc_heap_new w7 _) rfl) (by rw [HPR.out]; omega) (by have := y7.size; simp; omega) ?_; intro v8 w8 own8 grow8))
      have a7 := (Below.refl _ w7).alloc (Nat.le_refl _) (.cells #[.slice P7 (bld6 y.q).length p7] 22)
      have r7 := own_below (own_below HRW.out y7) a7
      have b7 : Below w5.heap.size w5 (w7.alloc (.cells #[.slice P7 (bld6 y.q).length p7] 22)) := (hB.trans (y7.mono hz)).trans (a7.mono (Nat.le_trans hz y7.size))
      have b8 : Below w5.heap.size w5 w8 := b7.grown grow8 (Nat.le_trans hz (Nat.le_trans y7.size a7.size)) (fun k hk => own_block_ge r7 k hk)
      have HO8 : Hid (∀ z ∈ pre ++ [(⟨P7, p7, bld6 y.q⟩ : YB)], Own1 w8 w5.heap.size z) := Lib.hid (fun z hzz => by
        have ho : Own1 (w7.alloc (.cells #[.slice P7 (bld6 y.q).length p7] 22)) w5.heap.size z := by
          rcases List.mem_append.1 hzz with h1 | h1
          · exact own_below (own_below (HBY.out z h1) y7) a7
          · rw [List.mem_singleton.1 h1]
            exact own_below (own_base o7 (Nat.le_trans hz hV.size)) a7
        exact own_beside ho r7 (nat_ne (by kernel_rfl)) grow8)
      have H8 := Lib.hid own8
      clear own8 m7 o7 g7 r7 b7 a7 grow8
      go_roundw
      case rel =>
        exact ⟨_, j + 1, pre ++ [⟨P7, p7, bld6 y.q⟩], rfl, by omega, by simp, H8, Lib.hid (by rw [List.length_append, HPR.out]; rfl), HO8, Lib.hid (by rw [List.map_append, HMP.out, List.take_add_one, HYY.out, List.map_append, List.map_take]; rfl), b8⟩
      case measure => simp [intOf]; omega
    · obtain rfl : n = j := by omega
      have hRY : RowY wr w5.heap.size vv pre := ⟨HRW.out, HBY.out⟩
      have HRY := Lib.hid (hRY.base hz5)
      have HMAP : Hid (pre.map (·.b) = (cutB m id P).map bld6) := Lib.hid (by
        rw [HMP.out, List.take_of_length_le (by have := HN.out; omega), ← HQ5.out, List.map_map]
        rfl)
      have bR := b5.trans (hB.mono hz5)
      by_cases h1 : 1 < n
      · have d1 : decide ((n : Int) > 1) = true := by simp; omega
        have d1' : decide ((1 : Int) < (n : Int)) = true := d1
        have q3' := Q3.out
        have hm3 := HM3.out
        have HID : 0 ≤ (id + 1) % 4294967296 ∧ (id + 1) % 4294967296 < 4294967296 := by omega
        clear h1 hRY
        go_wp2
        refine bodyPost_ret (results_tmp3 rfl _ _ _) rfl ?_
        exact ⟨_, pre, _, Lib.hid rfl, HRY.out, HMAP, HID, bR⟩
      · have d1 : decide ((n : Int) > 1) = false := by simp; omega
        have d1' : decide ((1 : Int) < (n : Int)) = false := d1
        clear h1 hRY
        go_wp2
        refine bodyPost_ret (results_tmp3 rfl _ _ _) rfl ?_
        exact ⟨_, pre, _, Lib.hid rfl, HRY.out, HMAP, HII.out, bR⟩
end Go.Proofs.YtpoigngpdcmipaaGreat
namespace Go.Proofs.YtpoigngpdcmipaaGreat
open Go.RowKit
theorem OneC.kept {k : Nat} {w w' : World} (h : OneC k w w') : Kept (fun i => i = k) w w' := by
  obtain ⟨v, hv, rfl | ⟨q, u, rfl⟩⟩ := h
  · exact Kept.of_below hv
  · exact (Kept.of_below hv).trans (Kept.setCell v k q u) (fun _ _ h => h)
def T32 (ty : TypeId) : Prop := ty = 60 ∨ ty = 97
theorem t32_no : ¬ T32 94 ∧ ¬ T32 179 ∧ ¬ T32 225 ∧ ¬ T32 5 ∧ ¬ T32 124 ∧ ¬ T32 38 ∧ ¬ T32 22 := by
  refine ⟨?_, ?_, ?_, ?_, ?_, ?_, ?_⟩ <;> (rintro (h | h) <;> exact absurd h (nat_ne (by kernel_rfl)))
theorem away32 {w : World} {x : Nat} {cs : Array Value} {ty : TypeId} {fr : Nat × Nat} (hx : w.heap[x]? = some (.cells cs ty fr)) (ht : T32 ty) : AwayT w (fun i => i = x) T32 := fun j hj cs' ty' fr' hg => by
  subst hj
  rw [hx] at hg
  injection hg with hg
  injection hg with _ e2 _
  rw [← e2]; exact ht
theorem Jv.one {w w' : World} {B0 t bm : Nat} {mb my wt : Int} {N : Nat} {S : List Bu} (h : Jv w B0 t bm mb my wt N S) {x : Nat} {cs : Array Value} {ty : TypeId} {fr : Nat × Nat} (hx : w.heap[x]? = some (.cells cs ty fr)) (ht : T32 ty) (k : Kept (fun i => i = x) w w') : Jv w' B0 t bm mb my wt N S := by
  refine ⟨h.tx.awayP k (away32 hx ht) t32_no.1 t32_no.2.1 t32_no.2.2.1 t32_no.2.2.2.1 t32_no.2.2.2.2.1 (fun e => ?_), h.z, h.by_, h.n, h.l⟩
  obtain ⟨es, hm, _⟩ := h.tx.map
  rw [← e] at hx
  exact map_is hm hx
theorem own_one {w w' : World} {base e sz n : Nat} {v : Value} {xs : List Value} (h : w.ownsRow base e sz v n xs) {x : Nat} {cs : Array Value} {ty : TypeId} {fr : Nat × Nat} (hx : w.heap[x]? = some (.cells cs ty fr)) (ht : T32 ty) (he : ¬ T32 e) (k : Kept (fun i => i = x) w w') : w'.ownsRow base e sz v n xs :=
  own_keptA h k (away32 hx ht) he
section
variable {B0 : Nat} {w w' : World} {x t bm k N : Nat} {m now id : Int} {S : List Bu} {T : List Bf} {L : List Int}
theorem Bf4.setId (h : Bf4 B0 w x t bm k m now id N S T L) (id' : Int) : Bf4 B0 (w.setCell ⟨x, 40, none⟩ (.int .i64 id')) x t bm k m now id' N S T L := by
  have hx := h.obj
  refine ⟨?_, h.jv.one hx (.inl rfl) (Kept.setCell w x 40 _), h.sm, h.cn.keep (heap_setCell_other w ⟨x, 40, none⟩ k _ (Ne.symm h.ne)), h.bd, h.bx, h.bk, by simpa using h.be⟩
  have := heap_setCell_same w x 40 _ _ (.int .i64 id') hx
  rw [this]
  rfl
end
end Go.Proofs.YtpoigngpdcmipaaGreat
namespace Go.Proofs.YtpoigngpdcmipaaGreat
open Go.RowKit
set_option maxRecDepth 100000 in
set_option maxHeartbeats 4000000 in
theorem binto {B0 : Nat} {w : World} {x t bm k N : Nat} {m now id : Int} {S : List Bu} {T : List Bf} {L : List Int} (h : Bf4 B0 w x t bm k m now id N S T L) (q : P4) (A : Option Addr) (c : Nat) (A' : Option Addr) (c' : Nat) (hO0 : Arg w w.heap.size A c q.opt) (hD0 : Arg w w.heap.size A' c' q.dat)
    (ho : q.opt.length ≤ 1000000) (hd : q.dat.length ≤ 1000000) (h4 : chk4 q = 0) (hl : (bld4 q).length ≤ 65535) (hm : 1280 ≤ m ∧ m ≤ 65535) (hid : 0 ≤ id ∧ id < 4294967296) (P : P6) (hP : P = wrV ownQ aftQ 64 (bld4 q)) :
    Calls Tryz.prog 58 #[.pointer (some ⟨x, 0, none⟩), .agg (v4a q A c A' c')] w fun e w' => ∃ v l, Hid (e = .returned (.tuple #[v, .int .i64 0])) ∧ RowY w' w.heap.size v l ∧ Hid (l.map (·.b) = (cutB m id P).map bld6) ∧ Kept (fun i => i = x) w w' ∧ ∃ id', (0 ≤ id' ∧ id' < 4294967296) ∧ Bf4 B0 w' x t bm k m now id' N S T L := by
  have hb := (Below.refl _ w).alloc (Nat.le_refl _) (.cells (v4a q A c A' c') 46)
  have k0 := World.alloc_heap_new w (.cells (v4a q A c A' c') 46)
  have zg := heap_lt k0
  have hck : chk6 (wrP ownQ aftQ 64 (bld4 q)) = 0 := wr_chk (by decide) (by decide) hl
  have HP := Lib.hid hP
  have hPe : P = wrP ownQ aftQ 64 (bld4 q) := by rw [hP, wrV_ok hck]
  have HPK := Lib.hid hck
  have HPC : Hid (chk6 P = 0) := Lib.hid (by rw [hPe]; exact hck)
  have HPS : Hid (P.src.length = 16) := Lib.hid (by rw [hPe]; rfl)
  have HPD : Hid (P.dst.length = 16) := Lib.hid (by rw [hPe]; rfl)
  have h6 : ok6 P := ⟨HPS.out, HPD.out⟩
  have HPN : Hid (P.next = 4) := Lib.hid (by rw [hPe]; rfl)
  have HPL : Hid (P.dat.length ≤ 1000000) := Lib.hid (by rw [hPe]; show (bld4 q).length ≤ 1000000; omega)
  have HLEN : Hid (P.dat.length ≤ 65535) := Lib.hid (by rw [hPe]; exact hl)
  have HLB : Hid ((bld4 q).length ≤ 1000000) := Lib.hid (by omega)
  have HC := Lib.hid h4
  have HMM := Lib.hid hm
  have HII := Lib.hid hid
  have HX := Lib.hid (heap_lt h.obj)
  have hO : Arg (w.alloc (.cells (v4a q A c A' c') 46)) w.heap.size A c q.opt := hO0.below hb
  have hD : Arg (w.alloc (.cells (v4a q A c A' c') 46)) w.heap.size A' c' q.dat := hD0.below hb
  have HF := Lib.hid (h.below hb)
  clear h hck hP hPe hl h4 hm hid hO0 hD0
  go_enter Tryz.func58, Tryz.ntmps58
  go_upto_region 1 with fail
  generalize w.alloc (.cells (v4a q A c A' c') 46) = W at *
  have KO : Hid (∀ V, Below W.heap.size W V → V.rangeAt x 0 (row ownQ)) := Lib.hid (fun V hV => st_own (HF.out.below hV).rng)
  have KA : Hid (∀ V, Below W.heap.size W V → V.rangeAt x 16 (row aftQ)) := Lib.hid (fun V hV => st_aft (HF.out.below hV).rng)
  have KH : Hid (∀ V, Below W.heap.size W V → V.cell? ⟨x, 33, none⟩ = some (.int .i64 64)) := Lib.hid (fun V hV => (HF.out.below hV).cell 33 _ rfl)
  have KQ : Hid (∀ V, Below W.heap.size W V → At4 V w.heap.size q A c A' c') := Lib.hid (fun V hV => ofhE ((hV.block _ zg).trans k0))
  refine wp_region_held_drew (S := fun V => Below W.heap.size W V) (by kernel_rfl) (Below.refl _ W).drew (fun hS => ?_)
  have yZ := hS
  generalize W.drew = Z at *
  refine held_pure (i := 0) (oi := ⟨some 11, _, _, _, _, _⟩) rfl (by kernel_rfl) (by kernel_rfl) (by kernel_rfl) (fun _ _ _ h => h) (by rfl) (v := ?_) (fun w hSw => ?_) hS (fun hS => ?_)
  rotate_left
  · go_simp; try with_reducible rfl
  try go_frame
  refine held_pure (i := 1) (oi := ⟨some 12, _, _, _, _, _⟩) rfl (by kernel_rfl) (by kernel_rfl) (by kernel_rfl) (fun _ _ _ h => h) (by rfl) (v := ?_) (fun w hSw => ?_) hS (fun hS => ?_)
  rotate_left
  · go_simp; try with_reducible rfl
  try go_frame
  refine held_pure (i := 2) (oi := ⟨some 13, _, _, _, _, _⟩) rfl (by kernel_rfl) (by kernel_rfl) (by kernel_rfl) (fun _ _ _ h => h) (by rfl) (v := ?_) (fun w hSw => ?_) hS (fun hS => ?_)
  rotate_left
  · go_simp; try with_reducible rfl
  try go_frame
  refine held_pure (i := 3) (oi := ⟨some 14, _, _, _, _, _⟩) rfl (by kernel_rfl) (by kernel_rfl) (by kernel_rfl) (fun _ _ _ h => h) (by rfl) (v := ?_) (fun w hSw => ?_) hS (fun hS => ?_)
  rotate_left
  · go_simp; try with_reducible rfl
  try go_frame
  refine held_pure (i := 4) (oi := ⟨some 15, _, _, _, _, _⟩) rfl (by kernel_rfl) (by kernel_rfl) (by kernel_rfl) (fun _ _ _ h => h) (by rfl) (fun w hSw => run_load_six rfl rfl (KO.out w hSw) own_len) hS (fun hS => ?_)
  try go_frame
  refine held_pure (i := 5) (oi := ⟨some 16, _, _, _, _, _⟩) rfl (by kernel_rfl) (by kernel_rfl) (by kernel_rfl) (fun _ _ _ h => h) (by rfl) (v := ?_) (fun w hSw => ?_) hS (fun hS => ?_)
  rotate_left
  · go_simp; try with_reducible rfl
  try go_frame
  refine held_pure (i := 6) (oi := ⟨some 17, _, _, _, _, _⟩) rfl (by kernel_rfl) (by kernel_rfl) (by kernel_rfl) (fun _ _ _ h => h) (by rfl) (v := ?_) (fun w hSw => ?_) hS (fun hS => ?_)
  rotate_left
  · go_simp; try with_reducible rfl
  try go_frame
  refine held_pure (i := 7) (oi := ⟨some 18, _, _, _, _, _⟩) rfl (by kernel_rfl) (by kernel_rfl) (by kernel_rfl) (fun _ _ _ h => h) (by rfl) (v := ?_) (fun w hSw => ?_) hS (fun hS => ?_)
  rotate_left
  · go_simp; try with_reducible rfl
  try go_frame
  refine held_pure (i := 8) (oi := ⟨some 19, _, _, _, _, _⟩) rfl (by kernel_rfl) (by kernel_rfl) (by kernel_rfl) (fun _ _ _ h => h) (by rfl) (v := ?_) (fun w hSw => ?_) hS (fun hS => ?_)
  rotate_left
  · go_simp; try with_reducible rfl
  try go_frame
  refine held_pure (i := 9) (oi := ⟨some 20, _, _, _, _, _⟩) rfl (by kernel_rfl) (by kernel_rfl) (by kernel_rfl) (fun _ _ _ h => h) (by rfl) (fun w hSw => run_load_six rfl rfl (KA.out w hSw) aft_len) hS (fun hS => ?_)
  try go_frame
  refine held_pure (i := 10) (oi := ⟨some 21, _, _, _, _, _⟩) rfl (by kernel_rfl) (by kernel_rfl) (by kernel_rfl) (fun _ _ _ h => h) (by rfl) (v := ?_) (fun w hSw => ?_) hS (fun hS => ?_)
  rotate_left
  · go_simp; try with_reducible rfl
  try go_frame
  refine held_pure (i := 11) (oi := ⟨some 22, _, _, _, _, _⟩) rfl (by kernel_rfl) (by kernel_rfl) (by kernel_rfl) (fun _ _ _ h => h) (by rfl) (v := ?_) (fun w hSw => ?_) hS (fun hS => ?_)
  rotate_left
  · go_simp; try with_reducible rfl
  try go_frame
  refine held_pure (i := 12) (oi := ⟨some 23, _, _, _, _, _⟩) rfl (by kernel_rfl) (by kernel_rfl) (by kernel_rfl) (fun _ _ _ h => h) (by rfl) (v := ?_) (fun w hSw => ?_) hS (fun hS => ?_)
  rotate_left
  · go_simp; try with_reducible rfl
  try go_frame
  refine held_pure (i := 13) (oi := ⟨some 24, _, _, _, _, _⟩) rfl (by kernel_rfl) (by kernel_rfl) (by kernel_rfl) (fun _ _ _ h => h) (by rfl) (v := ?_) (fun w hSw => ?_) hS (fun hS => ?_)
  rotate_left
  · go_simp; try with_reducible rfl
  try go_frame
  refine held_pure (i := 14) (oi := ⟨some 25, _, _, _, _, _⟩) rfl (by kernel_rfl) (by kernel_rfl) (by kernel_rfl) (fun _ _ _ h => h) (by rfl) (fun w hSw => run_load_int rfl rfl (KH.out w hSw)) hS (fun hS => ?_)
  try go_frame
  refine held_pure (i := 15) (oi := ⟨some 26, _, _, _, _, _⟩) rfl (by kernel_rfl) (by kernel_rfl) (by kernel_rfl) (fun _ _ _ h => h) (by rfl) (fun w hSw => run_load_v4 rfl rfl (KQ.out w hSw) rfl) hS (fun hS => ?_)
  try go_frame
  refine wpAnyH_ready (rs := [16, 21]) (by kernel_rfl) (by simp) (AllReadyH.cons (o := ⟨some 27, _, _, _, _, _⟩) rfl (fun K hK => ?_) (AllReadyH.cons (o := ⟨some 6, _, _, _, _, _⟩) rfl (fun K hK => ?_) AllReadyH.nil))
  · rw [if_pos (by rfl)]
    go_simp
    refine (bbuilt q A c A' c' w.heap.size Z (hO.below (yZ.mono hb.size)) (hD.below (yZ.mono hb.size)) (Nat.le_trans hb.size yZ.size) ho hd HC.out).mono ?_
    rintro e Z ⟨P1, p1, rfl, m1⟩
    obtain ⟨_, _, e1, g1, o1, x1⟩ := made_shape m1
    cases e1
    try have kz := (x1.block gB (heap_lt kz)).trans kz
    have yZ := yZ.trans (x1.mono yZ.size)
    clear m1 o1 x1
    show K _ _
    refine hK.out _ _ yZ (fun hS => ?_)
    clear hK K
    try go_frame
    refine wpAnyH_ready (rs := [17, 21]) (by kernel_rfl) (by simp) (AllReadyH.cons (o := ⟨some 28, _, _, _, _, _⟩) rfl (fun K hK => ?_) (AllReadyH.cons (o := ⟨some 6, _, _, _, _, _⟩) rfl (fun K hK => ?_) AllReadyH.nil))
    · rw [if_pos (by rfl)]
      go_simp
      refine (cWwrap ownQ aftQ 64 (bld4 q) P1 p1 Z.heap.size Z own_len aft_len g1 (Nat.le_refl _) HLB.out).mono ?_
      rintro e Z ⟨P2, p2, rfl, m2⟩
      rw [HPK.out]
      rw [← HP.out] at m2 ⊢
      obtain ⟨_, _, e2, g2, o2, x2⟩ := made_shape m2
      cases e2
      have o2 := own_base o2 yZ.size
      try have kz := (x2.block gB (heap_lt kz)).trans kz
      have yZ := yZ.trans (x2.mono yZ.size)
      clear m2 x2 g2
      show K _ _
      refine hK.out _ _ yZ (fun hS => ?_)
      clear hK K
      try go_frame
      refine held_pure (i := 18) (oi := ⟨some 10, _, _, _, _, _⟩) rfl (by kernel_rfl) (by kernel_rfl) (by kernel_rfl) (fun _ _ _ h => h) (by rfl) (v := ?_) (fun w hSw => ?_) hS (fun hS => ?_)
      rotate_left
      · go_simp; try with_reducible rfl
      try go_frame
      refine held_pure (i := 19) (oi := ⟨some 29, _, _, _, _, _⟩) rfl (by kernel_rfl) (by kernel_rfl) (by kernel_rfl) (fun _ _ _ h => h) (by rfl) (v := ?_) (fun w hSw => ?_) hS (fun hS => ?_)
      rotate_left
      · go_simp; try with_reducible rfl
      try go_frame
      refine held_pure (i := 20) (oi := ⟨some 30, _, _, _, _, _⟩) rfl (by kernel_rfl) (by kernel_rfl) (by kernel_rfl) (fun _ _ _ h => h) (by rfl) (v := ?_) (fun w hSw => ?_) hS (fun hS => ?_)
      rotate_left
      · go_simp; try with_reducible rfl
      try go_frame
      refine wpAnyH_ready (rs := [21]) (by kernel_rfl) (by simp) (AllReadyH.cons (o := ⟨some 6, _, _, _, _, _⟩) rfl (fun K hK => ?_) AllReadyH.nil)
      rw [if_pos (by rfl)]
      go_simp
      have kz := World.alloc_heap_new Z (.cells (v6a p6z none 0) 38)
      have a1 : Below Z.heap.size Z (Z.alloc (.cells (v6a p6z none 0) 38)) := (Below.refl _ Z).alloc (Nat.le_refl _) _
      try have g1 := (g1.below a1).more a1.size
      try have o2 := own_below o2 a1
      have zB : W.heap.size ≤ Z.heap.size := yZ.size
      have yZ := yZ.alloc yZ.size (.cells (v6a p6z none 0) 38)
      show K _ (Z.alloc (.cells (v6a p6z none 0) 38))
      refine hK.out _ _ yZ (fun hS => ?_)
      clear hK K a1
      generalize Z.heap.size = gB at *
      generalize Z.alloc (.cells (v6a p6z none 0) 38) = Z at *
      try go_frame
      refine wpAnyH_ready (rs := [22]) (by kernel_rfl) (by simp) (AllReadyH.cons (o := ⟨none, _, _, _, _, _⟩) rfl (fun K hK => ?_) AllReadyH.nil)
      rw [if_pos (by rfl)]
      refine wp_store_row 38 _ _ rfl gB (v6a P P2 p2) rfl rfl 38 _ kz (by rw [v6a_szR _ _ _ HPS.out HPD.out]; kernel_rfl) (by rw [v6a_szR _ _ _ HPS.out HPD.out]; rfl) (v6a_one _ _ _) ?_
      have kq := setRow_heap Z gB _ (v6a P P2 p2) _ _ kz
      have o4 := own_setRowR (cs' := v6a P P2 p2) o2 kz (by decide)
      have zq := heap_lt kq
      have y4 : Below W.heap.size W (Z.setRow gB (v6a P P2 p2)) := below_row yZ zB
      refine hK _ _ y4 (fun hS => ?_)
      clear hK K kz o2 yZ
      try clear g1
      generalize Z.setRow gB (v6a P P2 p2) = X at *
      try go_frame
      refine held_pure (i := 23) (oi := ⟨some 7, _, _, _, _, _⟩) rfl (by kernel_rfl) (by kernel_rfl) (by kernel_rfl) (fun _ _ _ h => h) (by rfl) (v := ?_) (fun w hSw => ?_) hS (fun hS => ?_)
      rotate_left
      · go_simp; try with_reducible rfl
      try go_frame
      refine wpAnyH_done (by kernel_rfl) ?_ _
      have b4 := hb.trans (y4.mono hb.size)
      have HF4 := Lib.hid (HF.out.below y4)
      have hA5 : Arg X.drew X.drew.heap.size P2 p2 P.dat := (arg_own o4).below (Below.refl _ X).drew
      have KQ2 : Hid (∀ V, Below X.heap.size X V → At6 V gB P P2 p2) := Lib.hid (fun V hV => range_hpR ((hV.block _ zq).trans kq))
      have KM2 : Hid (∀ V, Below X.heap.size X V → V.cell? ⟨x, 32, none⟩ = some (.int .i64 m)) := Lib.hid (fun V hV => (HF4.out.below hV).cell 32 _ rfl)
      have KI : Hid (∀ V, Below X.heap.size X V → V.cell? ⟨x, 40, none⟩ = some (.int .i64 id)) := Lib.hid (fun V hV => (HF4.out.below hV).cell 40 _ rfl)
      clear KO KA KH KQ HF kq o4 y4 zB
      go_upto_region 4 with fail
      refine wp_region_held_drew (S := fun V => Below X.heap.size X V) (by kernel_rfl) (Below.refl _ X).drew (fun hS => ?_)
      refine held_pure (i := 0) (oi := ⟨some 35, _, _, _, _, _⟩) rfl (by kernel_rfl) (by kernel_rfl) (by kernel_rfl) (fun _ _ _ h => h) (by rfl) (fun w hSw => run_load_v6 rfl rfl (KQ2.out w hSw) (v6l_len h6.1 h6.2)) hS (fun hS => ?_)
      try go_frame
      refine held_pure (i := 1) (oi := ⟨some 36, _, _, _, _, _⟩) rfl (by kernel_rfl) (by kernel_rfl) (by kernel_rfl) (fun _ _ _ h => h) (by rfl) (v := ?_) (fun w hSw => ?_) hS (fun hS => ?_)
      rotate_left
      · go_simp; try with_reducible rfl
      try go_frame
      refine held_pure (i := 2) (oi := ⟨some 37, _, _, _, _, _⟩) rfl (by kernel_rfl) (by kernel_rfl) (by kernel_rfl) (fun _ _ _ h => h) (by rfl) (v := ?_) (fun w hSw => ?_) hS (fun hS => ?_)
      rotate_left
      · go_simp; try with_reducible rfl
      try go_frame
      refine held_pure (i := 3) (oi := ⟨some 38, _, _, _, _, _⟩) rfl (by kernel_rfl) (by kernel_rfl) (by kernel_rfl) (fun _ _ _ h => h) (by rfl) (v := ?_) (fun w hSw => ?_) hS (fun hS => ?_)
      rotate_left
      · go_simp; try with_reducible rfl
      try go_frame
      refine held_pure (i := 4) (oi := ⟨some 39, _, _, _, _, _⟩) rfl (by kernel_rfl) (by kernel_rfl) (by kernel_rfl) (fun _ _ _ h => h) (by rfl) (fun w hSw => run_load_int rfl rfl (KI.out w hSw)) hS (fun hS => ?_)
      try go_frame
      refine held_pure (i := 5) (oi := ⟨some 40, _, _, _, _, _⟩) rfl (by kernel_rfl) (by kernel_rfl) (by kernel_rfl) (fun _ _ _ h => h) (by rfl) (v := ?_) (fun w hSw => ?_) hS (fun hS => ?_)
      rotate_left
      · go_simp; try with_reducible rfl
      try go_frame
      refine held_pure (i := 6) (oi := ⟨some 41, _, _, _, _, _⟩) rfl (by kernel_rfl) (by kernel_rfl) (by kernel_rfl) (fun _ _ _ h => h) (by rfl) (v := ?_) (fun w hSw => ?_) hS (fun hS => ?_)
      rotate_left
      · go_simp; try with_reducible rfl
      try go_frame
      refine held_pure (i := 7) (oi := ⟨some 42, _, _, _, _, _⟩) rfl (by kernel_rfl) (by kernel_rfl) (by kernel_rfl) (fun _ _ _ h => h) (by rfl) (v := ?_) (fun w hSw => ?_) hS (fun hS => ?_)
      rotate_left
      · go_simp; try with_reducible rfl
      try go_frame
      refine held_pure (i := 8) (oi := ⟨some 43, _, _, _, _, _⟩) rfl (by kernel_rfl) (by kernel_rfl) (by kernel_rfl) (fun _ _ _ h => h) (by rfl) (v := ?_) (fun w hSw => ?_) hS (fun hS => ?_)
      rotate_left
      · go_simp; try with_reducible rfl
      try go_frame
      refine held_pure (i := 9) (oi := ⟨some 44, _, _, _, _, _⟩) rfl (by kernel_rfl) (by kernel_rfl) (by kernel_rfl) (fun _ _ _ h => h) (by rfl) (fun w hSw => run_load_int rfl rfl (KM2.out w hSw)) hS (fun hS => ?_)
      try go_frame
      refine wpAnyH_ready (rs := [10]) (by kernel_rfl) (by simp) (AllReadyH.cons (o := ⟨some 45, _, _, _, _, _⟩) rfl (fun K hK => ?_) AllReadyH.nil)
      rw [if_pos (by rfl)]
      go_simp
      refine (tncut P P2 p2 id m X.drew h6 hA5 HLEN.out HMM.out HII.out HPC.out HPN.out).mono ?_
      rintro e w5 ⟨v5, l5, id5, he, r5, q5, hid5, x5⟩
      obtain rfl := he.out
      clear he
      have y5 : Below X.heap.size X w5 := ((Below.refl _ X).drew).trans x5
      show K _ _
      refine hK.out _ _ y5 (fun hS => ?_)
      clear hK K
      try go_frame
      refine held_pure (i := 11) (oi := ⟨some 34, _, _, _, _, _⟩) rfl (by kernel_rfl) (by kernel_rfl) (by kernel_rfl) (fun _ _ _ h => h) (by rfl) (v := ?_) (fun w hSw => ?_) hS (fun hS => ?_)
      rotate_left
      · go_simp; try with_reducible rfl
      try go_frame
      refine held_pure (i := 12) (oi := ⟨some 46, _, _, _, _, _⟩) rfl (by kernel_rfl) (by kernel_rfl) (by kernel_rfl) (fun _ _ _ h => h) (by rfl) (v := ?_) (fun w hSw => ?_) hS (fun hS => ?_)
      rotate_left
      · go_simp; try with_reducible rfl
      try go_frame
      refine held_pure (i := 13) (oi := ⟨some 47, _, _, _, _, _⟩) rfl (by kernel_rfl) (by kernel_rfl) (by kernel_rfl) (fun _ _ _ h => h) (by rfl) (v := ?_) (fun w hSw => ?_) hS (fun hS => ?_)
      rotate_left
      · go_simp; try with_reducible rfl
      try go_frame
      refine held_pure (i := 14) (oi := ⟨some 48, _, _, _, _, _⟩) rfl (by kernel_rfl) (by kernel_rfl) (by kernel_rfl) (fun _ _ _ h => h) (by rfl) (v := ?_) (fun w hSw => ?_) hS (fun hS => ?_)
      rotate_left
      · go_simp; try with_reducible rfl
      try go_frame
      refine held_pure (i := 15) (oi := ⟨some 8, _, _, _, _, _⟩) rfl (by kernel_rfl) (by kernel_rfl) (by kernel_rfl) (fun _ _ _ h => h) (by rfl) (v := ?_) (fun w hSw => ?_) hS (fun hS => ?_)
      rotate_left
      · go_simp; try with_reducible rfl
      try go_frame
      refine held_pure (i := 16) (oi := ⟨some 9, _, _, _, _, _⟩) rfl (by kernel_rfl) (by kernel_rfl) (by kernel_rfl) (fun _ _ _ h => h) (by rfl) (v := ?_) (fun w hSw => ?_) hS (fun hS => ?_)
      rotate_left
      · go_simp; try with_reducible rfl
      try go_frame
      refine held_pure (i := 17) (oi := ⟨some 7, _, _, _, _, _⟩) rfl (by kernel_rfl) (by kernel_rfl) (by kernel_rfl) (fun _ _ _ h => h) (by rfl) (v := ?_) (fun w hSw => ?_) hS (fun hS => ?_)
      rotate_left
      · go_simp; try with_reducible rfl
      try go_frame
      refine wpAnyH_done (by kernel_rfl) ?_ _
      have HF5 := Lib.hid (HF4.out.below y5)
      have k40 := HF5.out.cell 40 _ rfl
      have f40 := HF5.out.fr 40
      have hz5 : w.heap.size ≤ X.drew.heap.size := b4.size
      have HR5 := Lib.hid (r5.base hz5)
      have b5 := b4.trans (y5.mono b4.size)
      clear r5
      go_wp2_with fail
      refine bodyPost_ret (results_tmp2 rfl _ _ _) rfl ?_
      exact ⟨_, l5, Lib.hid rfl, ⟨own_setCell HR5.out.1 (p := ⟨x, 40, none⟩) HX.out, fun y hy => own_setCell (HR5.out.2 y hy) (p := ⟨x, 40, none⟩) HX.out⟩, q5, (Kept.of_below b5).trans (Kept.setCell w5 x 40 _) (fun _ _ h => h), id5, hid5, HF5.out.setId _⟩
    · rw [if_pos (by rfl)]
      go_simp
      have kz := World.alloc_heap_new Z (.cells (v6a p6z none 0) 38)
      have a1 : Below Z.heap.size Z (Z.alloc (.cells (v6a p6z none 0) 38)) := (Below.refl _ Z).alloc (Nat.le_refl _) _
      try have g1 := (g1.below a1).more a1.size
      try have o2 := own_below o2 a1
      have zB : W.heap.size ≤ Z.heap.size := yZ.size
      have yZ := yZ.alloc yZ.size (.cells (v6a p6z none 0) 38)
      show K _ (Z.alloc (.cells (v6a p6z none 0) 38))
      refine hK.out _ _ yZ (fun hS => ?_)
      clear hK K a1
      generalize Z.heap.size = gB at *
      generalize Z.alloc (.cells (v6a p6z none 0) 38) = Z at *
      try go_frame
      refine wpAnyH_ready (rs := [17]) (by kernel_rfl) (by simp) (AllReadyH.cons (o := ⟨some 28, _, _, _, _, _⟩) rfl (fun K hK => ?_) AllReadyH.nil)
      rw [if_pos (by rfl)]
      go_simp
      refine (cWwrap ownQ aftQ 64 (bld4 q) P1 p1 Z.heap.size Z own_len aft_len g1 (Nat.le_refl _) HLB.out).mono ?_
      rintro e Z ⟨P2, p2, rfl, m2⟩
      rw [HPK.out]
      rw [← HP.out] at m2 ⊢
      obtain ⟨_, _, e2, g2, o2, x2⟩ := made_shape m2
      cases e2
      have o2 := own_base o2 yZ.size
      try have kz := (x2.block gB (heap_lt kz)).trans kz
      have yZ := yZ.trans (x2.mono yZ.size)
      clear m2 x2 g2
      show K _ _
      refine hK.out _ _ yZ (fun hS => ?_)
      clear hK K
      try go_frame
      refine held_pure (i := 18) (oi := ⟨some 10, _, _, _, _, _⟩) rfl (by kernel_rfl) (by kernel_rfl) (by kernel_rfl) (fun _ _ _ h => h) (by rfl) (v := ?_) (fun w hSw => ?_) hS (fun hS => ?_)
      rotate_left
      · go_simp; try with_reducible rfl
      try go_frame
      refine held_pure (i := 19) (oi := ⟨some 29, _, _, _, _, _⟩) rfl (by kernel_rfl) (by kernel_rfl) (by kernel_rfl) (fun _ _ _ h => h) (by rfl) (v := ?_) (fun w hSw => ?_) hS (fun hS => ?_)
      rotate_left
      · go_simp; try with_reducible rfl
      try go_frame
      refine held_pure (i := 20) (oi := ⟨some 30, _, _, _, _, _⟩) rfl (by kernel_rfl) (by kernel_rfl) (by kernel_rfl) (fun _ _ _ h => h) (by rfl) (v := ?_) (fun w hSw => ?_) hS (fun hS => ?_)
      rotate_left
      · go_simp; try with_reducible rfl
      try go_frame
      refine wpAnyH_ready (rs := [22]) (by kernel_rfl) (by simp) (AllReadyH.cons (o := ⟨none, _, _, _, _, _⟩) rfl (fun K hK => ?_) AllReadyH.nil)
      rw [if_pos (by rfl)]
      refine wp_store_row 38 _ _ rfl gB (v6a P P2 p2) rfl rfl 38 _ kz (by rw [v6a_szR _ _ _ HPS.out HPD.out]; kernel_rfl) (by rw [v6a_szR _ _ _ HPS.out HPD.out]; rfl) (v6a_one _ _ _) ?_
      have kq := setRow_heap Z gB _ (v6a P P2 p2) _ _ kz
      have o4 := own_setRowR (cs' := v6a P P2 p2) o2 kz (by decide)
      have zq := heap_lt kq
      have y4 : Below W.heap.size W (Z.setRow gB (v6a P P2 p2)) := below_row yZ zB
      refine hK _ _ y4 (fun hS => ?_)
      clear hK K kz o2 yZ
      try clear g1
      generalize Z.setRow gB (v6a P P2 p2) = X at *
      try go_frame
      refine held_pure (i := 23) (oi := ⟨some 7, _, _, _, _, _⟩) rfl (by kernel_rfl) (by kernel_rfl) (by kernel_rfl) (fun _ _ _ h => h) (by rfl) (v := ?_) (fun w hSw => ?_) hS (fun hS => ?_)
      rotate_left
      · go_simp; try with_reducible rfl
      try go_frame
      refine wpAnyH_done (by kernel_rfl) ?_ _
      have b4 := hb.trans (y4.mono hb.size)
      have HF4 := Lib.hid (HF.out.below y4)
      have hA5 : Arg X.drew X.drew.heap.size P2 p2 P.dat := (arg_own o4).below (Below.refl _ X).drew
      have KQ2 : Hid (∀ V, Below X.heap.size X V → At6 V gB P P2 p2) := Lib.hid (fun V hV => range_hpR ((hV.block _ zq).trans kq))
      have KM2 : Hid (∀ V, Below X.heap.size X V → V.cell? ⟨x, 32, none⟩ = some (.int .i64 m)) := Lib.hid (fun V hV => (HF4.out.below hV).cell 32 _ rfl)
      have KI : Hid (∀ V, Below X.heap.size X V → V.cell? ⟨x, 40, none⟩ = some (.int .i64 id)) := Lib.hid (fun V hV => (HF4.out.below hV).cell 40 _ rfl)
      clear KO KA KH KQ HF kq o4 y4 zB
      go_upto_region 4 with fail
      refine wp_region_held_drew (S := fun V => Below X.heap.size X V) (by kernel_rfl) (Below.refl _ X).drew (fun hS => ?_)
      refine held_pure (i := 0) (oi := ⟨some 35, _, _, _, _, _⟩) rfl (by kernel_rfl) (by kernel_rfl) (by kernel_rfl) (fun _ _ _ h => h) (by rfl) (fun w hSw => run_load_v6 rfl rfl (KQ2.out w hSw) (v6l_len h6.1 h6.2)) hS (fun hS => ?_)
      try go_frame
      refine held_pure (i := 1) (oi := ⟨some 36, _, _, _, _, _⟩) rfl (by kernel_rfl) (by kernel_rfl) (by kernel_rfl) (fun _ _ _ h => h) (by rfl) (v := ?_) (fun w hSw => ?_) hS (fun hS => ?_)
      rotate_left
      · go_simp; try with_reducible rfl
      try go_frame
      refine held_pure (i := 2) (oi := ⟨some 37, _, _, _, _, _⟩) rfl (by kernel_rfl) (by kernel_rfl) (by kernel_rfl) (fun _ _ _ h => h) (by rfl) (v := ?_) (fun w hSw => ?_) hS (fun hS => ?_)
      rotate_left
      · go_simp; try with_reducible rfl
      try go_frame
      refine held_pure (i := 3) (oi := ⟨some 38, _, _, _, _, _⟩) rfl (by kernel_rfl) (by kernel_rfl) (by kernel_rfl) (fun _ _ _ h => h) (by rfl) (v := ?_) (fun w hSw => ?_) hS (fun hS => ?_)
      rotate_left
      · go_simp; try with_reducible rfl
      try go_frame
      refine held_pure (i := 4) (oi := ⟨some 39, _, _, _, _, _⟩) rfl (by kernel_rfl) (by kernel_rfl) (by kernel_rfl) (fun _ _ _ h => h) (by rfl) (fun w hSw => run_load_int rfl rfl (KI.out w hSw)) hS (fun hS => ?_)
      try go_frame
      refine held_pure (i := 5) (oi := ⟨some 40, _, _, _, _, _⟩) rfl (by kernel_rfl) (by kernel_rfl) (by kernel_rfl) (fun _ _ _ h => h) (by rfl) (v := ?_) (fun w hSw => ?_) hS (fun hS => ?_)
      rotate_left
      · go_simp; try with_reducible rfl
      try go_frame
      refine held_pure (i := 6) (oi := ⟨some 41, _, _, _, _, _⟩) rfl (by kernel_rfl) (by kernel_rfl) (by kernel_rfl) (fun _ _ _ h => h) (by rfl) (v := ?_) (fun w hSw => ?_) hS (fun hS => ?_)
      rotate_left
      · go_simp; try with_reducible rfl
      try go_frame
      refine held_pure (i := 7) (oi := ⟨some 42, _, _, _, _, _⟩) rfl (by kernel_rfl) (by kernel_rfl) (by kernel_rfl) (fun _ _ _ h => h) (by rfl) (v := ?_) (fun w hSw => ?_) hS (fun hS => ?_)
      rotate_left
      · go_simp; try with_reducible rfl
      try go_frame
      refine held_pure (i := 8) (oi := ⟨some 43, _, _, _, _, _⟩) rfl (by kernel_rfl) (by kernel_rfl) (by kernel_rfl) (fun _ _ _ h => h) (by rfl) (v := ?_) (fun w hSw => ?_) hS (fun hS => ?_)
      rotate_left
      · go_simp; try with_reducible rfl
      try go_frame
      refine held_pure (i := 9) (oi := ⟨some 44, _, _, _, _, _⟩) rfl (by kernel_rfl) (by kernel_rfl) (by kernel_rfl) (fun _ _ _ h => h) (by rfl) (fun w hSw => run_load_int rfl rfl (KM2.out w hSw)) hS (fun hS => ?_)
      try go_frame
      refine wpAnyH_ready (rs := [10]) (by kernel_rfl) (by simp) (AllReadyH.cons (o := ⟨some 45, _, _, _, _, _⟩) rfl (fun K hK => ?_) AllReadyH.nil)
      rw [if_pos (by rfl)]
      go_simp
      refine (tncut P P2 p2 id m X.drew h6 hA5 HLEN.out HMM.out HII.out HPC.out HPN.out).mono ?_
      rintro e w5 ⟨v5, l5, id5, he, r5, q5, hid5, x5⟩
      obtain rfl := he.out
      clear he
      have y5 : Below X.heap.size X w5 := ((Below.refl _ X).drew).trans x5
      show K _ _
      refine hK.out _ _ y5 (fun hS => ?_)
      clear hK K
      try go_frame
      refine held_pure (i := 11) (oi := ⟨some 34, _, _, _, _, _⟩) rfl (by kernel_rfl) (by kernel_rfl) (by kernel_rfl) (fun _ _ _ h => h) (by rfl) (v := ?_) (fun w hSw => ?_) hS (fun hS => ?_)
      rotate_left
      · go_simp; try with_reducible rfl
      try go_frame
      refine held_pure (i := 12) (oi := ⟨some 46, _, _, _, _, _⟩) rfl (by kernel_rfl) (by kernel_rfl) (by kernel_rfl) (fun _ _ _ h => h) (by rfl) (v := ?_) (fun w hSw => ?_) hS (fun hS => ?_)
      rotate_left
      · go_simp; try with_reducible rfl
      try go_frame
      refine held_pure (i := 13) (oi := ⟨some 47, _, _, _, _, _⟩) rfl (by kernel_rfl) (by kernel_rfl) (by kernel_rfl) (fun _ _ _ h => h) (by rfl) (v := ?_) (fun w hSw => ?_) hS (fun hS => ?_)
      rotate_left
      · go_simp; try with_reducible rfl
      try go_frame
      refine held_pure (i := 14) (oi := ⟨some 48, _, _, _, _, _⟩) rfl (by kernel_rfl) (by kernel_rfl) (by kernel_rfl) (fun _ _ _ h => h) (by rfl) (v := ?_) (fun w hSw => ?_) hS (fun hS => ?_)
      rotate_left
      · go_simp; try with_reducible rfl
      try go_frame
      refine held_pure (i := 15) (oi := ⟨some 8, _, _, _, _, _⟩) rfl (by kernel_rfl) (by kernel_rfl) (by kernel_rfl) (fun _ _ _ h => h) (by rfl) (v := ?_) (fun w hSw => ?_) hS (fun hS => ?_)
      rotate_left
      · go_simp; try with_reducible rfl
      try go_frame
      refine held_pure (i := 16) (oi := ⟨some 9, _, _, _, _, _⟩) rfl (by kernel_rfl) (by kernel_rfl) (by kernel_rfl) (fun _ _ _ h => h) (by rfl) (v := ?_) (fun w hSw => ?_) hS (fun hS => ?_)
      rotate_left
      · go_simp; try with_reducible rfl
      try go_frame
      refine held_pure (i := 17) (oi := ⟨some 7, _, _, _, _, _⟩) rfl (by kernel_rfl) (by kernel_rfl) (by kernel_rfl) (fun _ _ _ h => h) (by rfl) (v := ?_) (fun w hSw => ?_) hS (fun hS => ?_)
      rotate_left
      · go_simp; try with_reducible rfl
      try go_frame
      refine wpAnyH_done (by kernel_rfl) ?_ _
      have HF5 := Lib.hid (HF4.out.below y5)
      have k40 := HF5.out.cell 40 _ rfl
      have f40 := HF5.out.fr 40
      have hz5 : w.heap.size ≤ X.drew.heap.size := b4.size
      have HR5 := Lib.hid (r5.base hz5)
      have b5 := b4.trans (y5.mono b4.size)
      clear r5
      go_wp2_with fail
      refine bodyPost_ret (results_tmp2 rfl _ _ _) rfl ?_
      exact ⟨_, l5, Lib.hid rfl, ⟨own_setCell HR5.out.1 (p := ⟨x, 40, none⟩) HX.out, fun y hy => own_setCell (HR5.out.2 y hy) (p := ⟨x, 40, none⟩) HX.out⟩, q5, (Kept.of_below b5).trans (Kept.setCell w5 x 40 _) (fun _ _ h => h), id5, hid5, HF5.out.setId _⟩
  · rw [if_pos (by rfl)]
    go_simp
    have kz := World.alloc_heap_new Z (.cells (v6a p6z none 0) 38)
    have a1 : Below Z.heap.size Z (Z.alloc (.cells (v6a p6z none 0) 38)) := (Below.refl _ Z).alloc (Nat.le_refl _) _
    try have g1 := (g1.below a1).more a1.size
    try have o2 := own_below o2 a1
    have zB : W.heap.size ≤ Z.heap.size := yZ.size
    have yZ := yZ.alloc yZ.size (.cells (v6a p6z none 0) 38)
    show K _ (Z.alloc (.cells (v6a p6z none 0) 38))
    refine hK.out _ _ yZ (fun hS => ?_)
    clear hK K a1
    generalize Z.heap.size = gB at *
    generalize Z.alloc (.cells (v6a p6z none 0) 38) = Z at *
    try go_frame
    refine wpAnyH_ready (rs := [16]) (by kernel_rfl) (by simp) (AllReadyH.cons (o := ⟨some 27, _, _, _, _, _⟩) rfl (fun K hK => ?_) AllReadyH.nil)
    rw [if_pos (by rfl)]
    go_simp
    refine (bbuilt q A c A' c' w.heap.size Z (hO.below (yZ.mono hb.size)) (hD.below (yZ.mono hb.size)) (Nat.le_trans hb.size yZ.size) ho hd HC.out).mono ?_
    rintro e Z ⟨P1, p1, rfl, m1⟩
    obtain ⟨_, _, e1, g1, o1, x1⟩ := made_shape m1
    cases e1
    try have kz := (x1.block gB (heap_lt kz)).trans kz
    have yZ := yZ.trans (x1.mono yZ.size)
    clear m1 o1 x1
    show K _ _
    refine hK.out _ _ yZ (fun hS => ?_)
    clear hK K
    try go_frame
    refine wpAnyH_ready (rs := [17]) (by kernel_rfl) (by simp) (AllReadyH.cons (o := ⟨some 28, _, _, _, _, _⟩) rfl (fun K hK => ?_) AllReadyH.nil)
    rw [if_pos (by rfl)]
    go_simp
    refine (cWwrap ownQ aftQ 64 (bld4 q) P1 p1 Z.heap.size Z own_len aft_len g1 (Nat.le_refl _) HLB.out).mono ?_
    rintro e Z ⟨P2, p2, rfl, m2⟩
    rw [HPK.out]
    rw [← HP.out] at m2 ⊢
    obtain ⟨_, _, e2, g2, o2, x2⟩ := made_shape m2
    cases e2
    have o2 := own_base o2 yZ.size
    try have kz := (x2.block gB (heap_lt kz)).trans kz
    have yZ := yZ.trans (x2.mono yZ.size)
    clear m2 x2 g2
    show K _ _
    refine hK.out _ _ yZ (fun hS => ?_)
    clear hK K
    try go_frame
    refine held_pure (i := 18) (oi := ⟨some 10, _, _, _, _, _⟩) rfl (by kernel_rfl) (by kernel_rfl) (by kernel_rfl) (fun _ _ _ h => h) (by rfl) (v := ?_) (fun w hSw => ?_) hS (fun hS => ?_)
    rotate_left
    · go_simp; try with_reducible rfl
    try go_frame
    refine held_pure (i := 19) (oi := ⟨some 29, _, _, _, _, _⟩) rfl (by kernel_rfl) (by kernel_rfl) (by kernel_rfl) (fun _ _ _ h => h) (by rfl) (v := ?_) (fun w hSw => ?_) hS (fun hS => ?_)
    rotate_left
    · go_simp; try with_reducible rfl
    try go_frame
    refine held_pure (i := 20) (oi := ⟨some 30, _, _, _, _, _⟩) rfl (by kernel_rfl) (by kernel_rfl) (by kernel_rfl) (fun _ _ _ h => h) (by rfl) (v := ?_) (fun w hSw => ?_) hS (fun hS => ?_)
    rotate_left
    · go_simp; try with_reducible rfl
    try go_frame
    refine wpAnyH_ready (rs := [22]) (by kernel_rfl) (by simp) (AllReadyH.cons (o := ⟨none, _, _, _, _, _⟩) rfl (fun K hK => ?_) AllReadyH.nil)
    rw [if_pos (by rfl)]
    refine wp_store_row 38 _ _ rfl gB (v6a P P2 p2) rfl rfl 38 _ kz (by rw [v6a_szR _ _ _ HPS.out HPD.out]; kernel_rfl) (by rw [v6a_szR _ _ _ HPS.out HPD.out]; rfl) (v6a_one _ _ _) ?_
    have kq := setRow_heap Z gB _ (v6a P P2 p2) _ _ kz
    have o4 := own_setRowR (cs' := v6a P P2 p2) o2 kz (by decide)
    have zq := heap_lt kq
    have y4 : Below W.heap.size W (Z.setRow gB (v6a P P2 p2)) := below_row yZ zB
    refine hK _ _ y4 (fun hS => ?_)
    clear hK K kz o2 yZ
    try clear g1
    generalize Z.setRow gB (v6a P P2 p2) = X at *
    try go_frame
    refine held_pure (i := 23) (oi := ⟨some 7, _, _, _, _, _⟩) rfl (by kernel_rfl) (by kernel_rfl) (by kernel_rfl) (fun _ _ _ h => h) (by rfl) (v := ?_) (fun w hSw => ?_) hS (fun hS => ?_)
    rotate_left
    · go_simp; try with_reducible rfl
    try go_frame
    refine wpAnyH_done (by kernel_rfl) ?_ _
    have b4 := hb.trans (y4.mono hb.size)
    have HF4 := Lib.hid (HF.out.below y4)
    have hA5 : Arg X.drew X.drew.heap.size P2 p2 P.dat := (arg_own o4).below (Below.refl _ X).drew
    have KQ2 : Hid (∀ V, Below X.heap.size X V → At6 V gB P P2 p2) := Lib.hid (fun V hV => range_hpR ((hV.block _ zq).trans kq))
    have KM2 : Hid (∀ V, Below X.heap.size X V → V.cell? ⟨x, 32, none⟩ = some (.int .i64 m)) := Lib.hid (fun V hV => (HF4.out.below hV).cell 32 _ rfl)
    have KI : Hid (∀ V, Below X.heap.size X V → V.cell? ⟨x, 40, none⟩ = some (.int .i64 id)) := Lib.hid (fun V hV => (HF4.out.below hV).cell 40 _ rfl)
    clear KO KA KH KQ HF kq o4 y4 zB
    go_upto_region 4 with fail
    refine wp_region_held_drew (S := fun V => Below X.heap.size X V) (by kernel_rfl) (Below.refl _ X).drew (fun hS => ?_)
    refine held_pure (i := 0) (oi := ⟨some 35, _, _, _, _, _⟩) rfl (by kernel_rfl) (by kernel_rfl) (by kernel_rfl) (fun _ _ _ h => h) (by rfl) (fun w hSw => run_load_v6 rfl rfl (KQ2.out w hSw) (v6l_len h6.1 h6.2)) hS (fun hS => ?_)
    try go_frame
    refine held_pure (i := 1) (oi := ⟨some 36, _, _, _, _, _⟩) rfl (by kernel_rfl) (by kernel_rfl) (by kernel_rfl) (fun _ _ _ h => h) (by rfl) (v := ?_) (fun w hSw => ?_) hS (fun hS => ?_)
    rotate_left
    · go_simp; try with_reducible rfl
    try go_frame
    refine held_pure (i := 2) (oi := ⟨some 37, _, _, _, _, _⟩) rfl (by kernel_rfl) (by kernel_rfl) (by kernel_rfl) (fun _ _ _ h => h) (by rfl) (v := ?_) (fun w hSw => ?_) hS (fun hS => ?_)
    rotate_left
    · go_simp; try with_reducible rfl
    try go_frame
    refine held_pure (i := 3) (oi := ⟨some 38, _, _, _, _, _⟩) rfl (by kernel_rfl) (by kernel_rfl) (by kernel_rfl) (fun _ _ _ h => h) (by rfl) (v := ?_) (fun w hSw => ?_) hS (fun hS => ?_)
    rotate_left
    · go_simp; try with_reducible rfl
    try go_frame
    refine held_pure (i := 4) (oi := ⟨some 39, _, _, _, _, _⟩) rfl (by kernel_rfl) (by kernel_rfl) (by kernel_rfl) (fun _ _ _ h => h) (by rfl) (fun w hSw => run_load_int rfl rfl (KI.out w hSw)) hS (fun hS => ?_)
    try go_frame
    refine held_pure (i := 5) (oi := ⟨some 40, _, _, _, _, _⟩) rfl (by kernel_rfl) (by kernel_rfl) (by kernel_rfl) (fun _ _ _ h => h) (by rfl) (v := ?_) (fun w hSw => ?_) hS (fun hS => ?_)
    rotate_left
    · go_simp; try with_reducible rfl
    try go_frame
    refine held_pure (i := 6) (oi := ⟨some 41, _, _, _, _, _⟩) rfl (by kernel_rfl) (by kernel_rfl) (by kernel_rfl) (fun _ _ _ h => h) (by rfl) (v := ?_) (fun w hSw => ?_) hS (fun hS => ?_)
    rotate_left
    · go_simp; try with_reducible rfl
    try go_frame
    refine held_pure (i := 7) (oi := ⟨some 42, _, _, _, _, _⟩) rfl (by kernel_rfl) (by kernel_rfl) (by kernel_rfl) (fun _ _ _ h => h) (by rfl) (v := ?_) (fun w hSw => ?_) hS (fun hS => ?_)
    rotate_left
    · go_simp; try with_reducible rfl
    try go_frame
    refine held_pure (i := 8) (oi := ⟨some 43, _, _, _, _, _⟩) rfl (by kernel_rfl) (by kernel_rfl) (by kernel_rfl) (fun _ _ _ h => h) (by rfl) (v := ?_) (fun w hSw => ?_) hS (fun hS => ?_)
    rotate_left
    · go_simp; try with_reducible rfl
    try go_frame
    refine held_pure (i := 9) (oi := ⟨some 44, _, _, _, _, _⟩) rfl (by kernel_rfl) (by kernel_rfl) (by kernel_rfl) (fun _ _ _ h => h) (by rfl) (fun w hSw => run_load_int rfl rfl (KM2.out w hSw)) hS (fun hS => ?_)
    try go_frame
    refine wpAnyH_ready (rs := [10]) (by kernel_rfl) (by simp) (AllReadyH.cons (o := ⟨some 45, _, _, _, _, _⟩) rfl (fun K hK => ?_) AllReadyH.nil)
    rw [if_pos (by rfl)]
    go_simp
    refine (tncut P P2 p2 id m X.drew h6 hA5 HLEN.out HMM.out HII.out HPC.out HPN.out).mono ?_
    rintro e w5 ⟨v5, l5, id5, he, r5, q5, hid5, x5⟩
    obtain rfl := he.out
    clear he
    have y5 : Below X.heap.size X w5 := ((Below.refl _ X).drew).trans x5
    show K _ _
    refine hK.out _ _ y5 (fun hS => ?_)
    clear hK K
    try go_frame
    refine held_pure (i := 11) (oi := ⟨some 34, _, _, _, _, _⟩) rfl (by kernel_rfl) (by kernel_rfl) (by kernel_rfl) (fun _ _ _ h => h) (by rfl) (v := ?_) (fun w hSw => ?_) hS (fun hS => ?_)
    rotate_left
    · go_simp; try with_reducible rfl
    try go_frame
    refine held_pure (i := 12) (oi := ⟨some 46, _, _, _, _, _⟩) rfl (by kernel_rfl) (by kernel_rfl) (by kernel_rfl) (fun _ _ _ h => h) (by rfl) (v := ?_) (fun w hSw => ?_) hS (fun hS => ?_)
    rotate_left
    · go_simp; try with_reducible rfl
    try go_frame
    refine held_pure (i := 13) (oi := ⟨some 47, _, _, _, _, _⟩) rfl (by kernel_rfl) (by kernel_rfl) (by kernel_rfl) (fun _ _ _ h => h) (by rfl) (v := ?_) (fun w hSw => ?_) hS (fun hS => ?_)
    rotate_left
    · go_simp; try with_reducible rfl
    try go_frame
    refine held_pure (i := 14) (oi := ⟨some 48, _, _, _, _, _⟩) rfl (by kernel_rfl) (by kernel_rfl) (by kernel_rfl) (fun _ _ _ h => h) (by rfl) (v := ?_) (fun w hSw => ?_) hS (fun hS => ?_)
    rotate_left
    · go_simp; try with_reducible rfl
    try go_frame
    refine held_pure (i := 15) (oi := ⟨some 8, _, _, _, _, _⟩) rfl (by kernel_rfl) (by kernel_rfl) (by kernel_rfl) (fun _ _ _ h => h) (by rfl) (v := ?_) (fun w hSw => ?_) hS (fun hS => ?_)
    rotate_left
    · go_simp; try with_reducible rfl
    try go_frame
    refine held_pure (i := 16) (oi := ⟨some 9, _, _, _, _, _⟩) rfl (by kernel_rfl) (by kernel_rfl) (by kernel_rfl) (fun _ _ _ h => h) (by rfl) (v := ?_) (fun w hSw => ?_) hS (fun hS => ?_)
    rotate_left
    · go_simp; try with_reducible rfl
    try go_frame
    refine held_pure (i := 17) (oi := ⟨some 7, _, _, _, _, _⟩) rfl (by kernel_rfl) (by kernel_rfl) (by kernel_rfl) (fun _ _ _ h => h) (by rfl) (v := ?_) (fun w hSw => ?_) hS (fun hS => ?_)
    rotate_left
    · go_simp; try with_reducible rfl
    try go_frame
    refine wpAnyH_done (by kernel_rfl) ?_ _
    have HF5 := Lib.hid (HF4.out.below y5)
    have k40 := HF5.out.cell 40 _ rfl
    have f40 := HF5.out.fr 40
    have hz5 : w.heap.size ≤ X.drew.heap.size := b4.size
    have HR5 := Lib.hid (r5.base hz5)
    have b5 := b4.trans (y5.mono b4.size)
    clear r5
    go_wp2_with fail
    refine bodyPost_ret (results_tmp2 rfl _ _ _) rfl ?_
    exact ⟨_, l5, Lib.hid rfl, ⟨own_setCell HR5.out.1 (p := ⟨x, 40, none⟩) HX.out, fun y hy => own_setCell (HR5.out.2 y hy) (p := ⟨x, 40, none⟩) HX.out⟩, q5, (Kept.of_below b5).trans (Kept.setCell w5 x 40 _) (fun _ _ h => h), id5, hid5, HF5.out.setId _⟩
end Go.Proofs.YtpoigngpdcmipaaGreat
