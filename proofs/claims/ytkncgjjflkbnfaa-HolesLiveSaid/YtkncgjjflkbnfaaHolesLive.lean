/-
  Whatever the parts, HolesLive answers true and its argument reads as it did: parts that come in any order are answered, and put together, as the document says. No condition.
-/
import Derived.Test.YtkncgjjflkbnfaaRows
import Derived.WalkKit
import Derived.ProofKit
import Derived.OpenShut
import Derived.ChangeOld
import Derived.Below
import Derived.Test.YtkncgjjflkbnfaaMa2
import Derived.Test.YtkncgjjflkbnfaaMb1
namespace Go.Proofs.Ytkncgjjflkbnfaa.holesLive
open Go.ChangeShapes Go.WideShapes Go.ChangeAt Go.RowKit
set_option linter.unusedVariables false
attribute [local go_sem] Oper.semAt_some

theorem own : ownKnob Try.prog.godebug = none := by kernel_rfl
theorem laidOut : laidOutB Try.prog = true := by kernel_rfl

/-! ### The walk -/
set_option maxRecDepth 100000 in
set_option maxHeartbeats 4000000 in
theorem walk (A0 : Option Addr) (c0 : Nat) (l0 : List XP) (w : World) (h0 : RdS clP 3 w w.heap.size A0 l0) (e0 : ∀ y ∈ l0, Arg w w.heap.size y.A y.c y.p.b ∧ y.c ≤ maxLen ∧ (Lit.int .i64 y.p.off).wf = true) (n0 : l0.length ≤ c0) (m0 : c0 ≤ maxLen) :
    Calls Try.prog 3 #[.slice A0 l0.length c0] w fun e w' => e = .returned (.bool true) ∧ Below w.heap.size w w' := by
  obtain ⟨n, hn⟩ : ∃ n, n = l0.length := ⟨_, rfl⟩
  have HN := Lib.hid hn
  have HE0 := Lib.hid e0
  have HR0 := Lib.hid h0
  have hcap : n ≤ c0 := by rw [hn]; exact n0
  rw [← hn]
  cases hfar : farN 0 0 (piE l0) with
  | true =>
    have HF := Lib.hid hfar
    clear hfar hn e0 h0 n0
    go_enter Try.func3, Try.ntmps3
    go_wp2_with (first
      | (go_at_call 11; refine (awake15 w2).mono ?_; rintro e w3 ⟨rfl, x3⟩)
      | (go_at_call 12; refine (far15 A0 c0 n w.heap.size l0 w1 (HR0.out.below x1) x1.size HN.out (fun y hy => ⟨(HE0.out y hy).1.cap, (HE0.out y hy).2.1, (HE0.out y hy).2.2⟩)).mono ?_; rintro e w2 ⟨rfl, x2⟩; rw [HF.out])
      | (go_at_call 11; refine (awake15 w).mono ?_; rintro e w1 ⟨rfl, x1⟩))
    go_ret
    exact ⟨rfl, (x1.trans (x2.mono x1.size)).trans (x3.mono (Nat.le_trans x1.size x2.size))⟩
  | false =>
    have HF := Lib.hid hfar
    obtain ⟨hf1, hf2⟩ := farN_no hfar
    have hn60 : n ≤ 60 := by
      rw [hn]
      have : (piE l0).length = l0.length := by simp [piE]
      split at hf1 <;> omega
    have HF2 : Hid (∀ y ∈ l0, y.p.b.length ≤ 2000) := Lib.hid (fun y hy => by
      have := (hf2 y.p (List.mem_map.2 ⟨y, hy, rfl⟩)).1
      have h9 : y.p.len = (y.p.b.length : Int) := rfl
      omega)
    clear hfar hn e0 h0 n0 hf1 hf2
    go_enter Try.func3, Try.ntmps3
    go_wp2_with (first
      | (go_at_call 13; refine (hcnew w2).mono ?_; rintro e w3 ⟨rfl, hx3, x3, -⟩)
      | (go_at_call 12; refine (far15 A0 c0 n w.heap.size l0 w1 (HR0.out.below x1) x1.size HN.out (fun y hy => ⟨(HE0.out y hy).1.cap, (HE0.out y hy).2.1, (HE0.out y hy).2.2⟩)).mono ?_; rintro e w2 ⟨rfl, x2⟩; rw [HF.out])
      | (go_at_call 11; refine (awake15 w).mono ?_; rintro e w1 ⟨rfl, x1⟩))
    have b2 := x1.trans (x2.mono x1.size)
    have b3 := b2.trans (x3.mono b2.size)
    have hown0 : Own0 w.heap.size w2.heap.size (.slice none 0 0) := ⟨b2.size, fun k h => by cases h⟩
    have rx4 : Rx (w3.alloc (.cells #[.slice none 0 0] 29)) w3.heap.size none 0 [] := ⟨World.alloc_heap_new w3 _, World.ownsRow_nil _ _ _ _, fun y h => (by cases h), fun y h => (by cases h), Nat.zero_le _⟩
    have hx4 := hx3.alloc (.cells #[.slice none 0 0] 29)
    have b4 := b3.alloc b3.size (.cells #[.slice none 0 0] 29)
    have hgx := b3.size
    generalize w3.alloc (.cells #[.slice none 0 0] 29) = w4 at *
    clear hx3
    generalize hgg : w2.heap.size = g at *
    generalize hggx : w3.heap.size = gx at *
    have HGG := Lib.hid hgg
    have HGX := Lib.hid hggx
    clear hgg hggx
    go_loopw [19] (fun i wr => ∃ (k : Nat) (A : Option Addr) (c : Nat) (L : List XP) (Ax : Option Addr) (cx : Nat) (lx : List XP), k ≤ n ∧ i = .int .i64 (k : Int) ∧ Hx wr g A c L ∧ Rx wr gx Ax cx lx ∧ Hid (Same (piE L) (piE lx)) ∧ (L.length ≤ k ∧ lx.length ≤ k) ∧ Own0 w.heap.size g (.slice A L.length c) ∧ Below w.heap.size w wr)
      (fun i _ => n - (intOf i).toNat)
    case atStart => exact ⟨0, none, 0, [], none, 0, [], Nat.zero_le _, rfl, hx4, rx4, Lib.hid Same.nil, ⟨Nat.le_refl _, Nat.le_refl _⟩, hown0, b4⟩
    case round =>
      obtain ⟨k, A, c, L, Ax, cx, lx, hk, rfl, hxr, rxr, HSM, ⟨hL, hlx⟩, hown, hbel⟩ := hrel
      clear hx4 rx4 hown0 b4 b3 b2 x1 x2 x3
      by_cases hlt : k < n
      · obtain ⟨x, hx⟩ : ∃ x, l0[k]? = some x := ⟨_, List.getElem?_eq_getElem (by rw [← HN.out]; exact hlt)⟩
        have hxm := List.mem_of_getElem? hx
        have HX0 := Lib.hid (HE0.out x hxm)
        have hbl := HF2.out x hxm
        have hoff : -9223372036854775808 ≤ x.p.off ∧ x.p.off ≤ 9223372036854775807 := by
          have := HX0.out.2.2
          simp [Lit.wf, IntKind.min, IntKind.max, IntKind.bits, IntKind.signed] at this
          omega
        obtain ⟨b1, o1, e1, hb1, hrow1⟩ := row_of HR0.out hx
        have hrow := range_below hrow1 hb1 hbel
        obtain ⟨V, hV⟩ : ∃ V, V = wr.alloc (.cells (clP x).toArray 32) := ⟨_, rfl⟩
        have HVV := Lib.hid hV
        have bV : Below wr.heap.size wr V := by rw [hV]; exact (Below.refl _ wr).alloc (Nat.le_refl _) _
        have hbV : V.heap[wr.heap.size]? = some (.cells (clP x).toArray 32 (0, 0)) := by rw [hV]; exact World.alloc_heap_new wr _
        have hxV := hxr.below bV
        have rxV := rxr.below bV
        have BV := hbel.trans (bV.mono hbel.size)
        have zBV := BV.size
        have HRM : Hid ((if (nearP (piE L) x.p.off).any (alikeP ⟨x.p.off, false, x.p.b⟩) then (0 : Int) else (x.p.b.length : Int)) = roomP (piE lx) x.p.off x.p.b) := Lib.hid (HSM.out.room x.p.off x.p.b false)
        obtain ⟨RR, hRR⟩ : ∃ RR, RR = roomP (piE lx) x.p.off x.p.b := ⟨_, rfl⟩
        rw [← hRR] at HRM
        have HRR := Lib.hid hRR.symm
        obtain ⟨E, hE⟩ : ∃ E, E = addE (piE lx) ⟨x.p.off, x.p.more, x.p.b⟩ := ⟨_, rfl⟩
        have HE2 := Lib.hid hE.symm
        have HE1 : Hid (addC (piE L) ⟨x.p.off, x.p.more, x.p.b⟩ = E) := Lib.hid (by rw [hE]; exact HSM.out.addE _)
        have dV : Below V.heap.size V V.drew := (Below.refl _ V).drew
        have aV : Hid (Arg V.drew V.drew.heap.size x.A x.c x.p.b) := Lib.hid ((HX0.out.1.below (BV.trans (dV.mono zBV))).more (Nat.le_trans zBV dV.size))
        subst e1
        clear hV hx hxm hrow1 hb1 hRR hE
        go_upto_region 10 with (first
          | ((with_reducible show wpList _ _ _ (Oper.mk _ (Op.load 32 _) _ _ _ _ :: _) _ _); refine wpList_val rfl (run_load_lp rfl rfl hrow rfl) ?_)
          | ((with_reducible show wpList _ _ _ (Oper.mk _ (Op.store 32 _ _) _ _ _ _ :: _) _ _); refine lp_store_new (cs := (clP x).toArray) rfl rfl rfl rfl (clP_one x) ?_; rw [← HVV.out]))
        refine wp_region_held_drew (S := fun w' => KP V w') (by kernel_rfl) (KP.of_below dV) (fun hS => ?_)
        refine held_pure (i := 0) (oi := ⟨some 23, _, _, _, _, _⟩) rfl (by kernel_rfl) (by kernel_rfl) (by kernel_rfl) (fun _ _ _ h => h) (by rfl) (v := ?_) (fun w hSw => ?_) hS (fun hS => ?_)
        rotate_left
        · go_simp; try with_reducible rfl
        try go_frame
        refine held_pure (i := 1) (oi := ⟨some 24, _, _, _, _, _⟩) rfl (by kernel_rfl) (by kernel_rfl) (by kernel_rfl) (fun _ _ _ h => h) (by rfl) (v := ?_) (fun w hSw => ?_) hS (fun hS => ?_)
        rotate_left
        · go_simp; try with_reducible rfl
        try go_frame
        refine held_pure (i := 2) (oi := ⟨some 25, _, _, _, _, _⟩) rfl (by kernel_rfl) (by kernel_rfl) (by kernel_rfl) (fun _ _ _ h => h) (by rfl) (fun w hSw => run_load_int rfl rfl (cells_at (i := 0) ((hSw.block _ _ _ hbV).trans hbV) rfl)) hS (fun hS => ?_)
        try go_frame
        refine held_pure (i := 3) (oi := ⟨some 26, _, _, _, _, _⟩) rfl (by kernel_rfl) (by kernel_rfl) (by kernel_rfl) (fun _ _ _ h => h) (by rfl) (v := ?_) (fun w hSw => ?_) hS (fun hS => ?_)
        rotate_left
        · go_simp; try with_reducible rfl
        try go_frame
        refine held_pure (i := 4) (oi := ⟨some 27, _, _, _, _, _⟩) rfl (by kernel_rfl) (by kernel_rfl) (by kernel_rfl) (fun _ _ _ h => h) (by rfl) (fun w hSw => run_load_sl rfl rfl (cells_at (i := 2) ((hSw.block _ _ _ hbV).trans hbV) rfl)) hS (fun hS => ?_)
        try go_frame
        refine held_pure (i := 6) (oi := ⟨some 29, _, _, _, _, _⟩) rfl (by kernel_rfl) (by kernel_rfl) (by kernel_rfl) (fun _ _ _ h => h) (by rfl) (v := ?_) (fun w hSw => ?_) hS (fun hS => ?_)
        rotate_left
        · go_simp; try with_reducible rfl
        try go_frame
        refine held_pure (i := 7) (oi := ⟨some 30, _, _, _, _, _⟩) rfl (by kernel_rfl) (by kernel_rfl) (by kernel_rfl) (fun _ _ _ h => h) (by rfl) (fun w hSw => run_load_int rfl rfl (cells_at (i := 0) ((hSw.block _ _ _ hbV).trans hbV) rfl)) hS (fun hS => ?_)
        try go_frame
        refine held_pure (i := 8) (oi := ⟨some 31, _, _, _, _, _⟩) rfl (by kernel_rfl) (by kernel_rfl) (by kernel_rfl) (fun _ _ _ h => h) (by rfl) (v := ?_) (fun w hSw => ?_) hS (fun hS => ?_)
        rotate_left
        · go_simp; try with_reducible rfl
        try go_frame
        refine held_pure (i := 9) (oi := ⟨some 32, _, _, _, _, _⟩) rfl (by kernel_rfl) (by kernel_rfl) (by kernel_rfl) (fun _ _ _ h => h) (by rfl) (fun w hSw => run_load_sl rfl rfl (cells_at (i := 2) ((hSw.block _ _ _ hbV).trans hbV) rfl)) hS (fun hS => ?_)
        try go_frame
        refine wpAnyH_ready (rs := [5]) (by kernel_rfl) (by simp) (AllReadyH.cons (o := ⟨some 28, _, _, _, _, _⟩) rfl (fun K hK => ?_) AllReadyH.nil)
        rw [if_pos (by rfl)]
        go_simp
        refine (hcroom g A c L x.p.off x.A x.p.b x.c _ (hxV.below dV) aV.out).mono ?_
        rintro e w5 ⟨rfl, x5⟩
        rw [HRM.out]
        have y5 := dV.trans x5
        have z5 := y5.size
        show K _ _
        refine hK.out _ _ (KP.of_below y5) (fun hS => ?_)
        clear hK K
        try go_frame
        refine wpAnyH_ready (rs := [10]) (by kernel_rfl) (by simp) (AllReadyH.cons (o := ⟨some 33, _, _, _, _, _⟩) rfl (fun K hK => ?_) AllReadyH.nil)
        rw [if_pos (by rfl)]
        go_simp
        refine (rxroom gx Ax cx lx x.p.off x.A x.p.b x.c w5 (rxV.below y5) ((aV.out.rd.below x5).more x5.size)).mono ?_
        rintro e w10 ⟨rfl, x10⟩
        rw [HRR.out]
        have y10 := y5.trans (x10.mono z5)
        have z10 := y10.size
        have hx10 := hxV.below y10
        have rx10 := rxV.below y10
        have B10 := BV.trans (y10.mono zBV)
        have zB10 := B10.size
        show K _ _
        refine hK.out _ _ (KP.of_below y10) (fun hS => ?_)
        clear hK K
        try go_frame
        refine held_pure (i := 11) (oi := ⟨some 34, _, _, _, _, _⟩) rfl (by kernel_rfl) (by kernel_rfl) (by kernel_rfl) (fun _ _ _ h => h) (by rfl) (v := .bool false) (fun w hSw => by go_simp) hS (fun hS => ?_)
        try go_frame
        refine held_pure (i := 12) (oi := ⟨some 35, _, _, _, _, _⟩) rfl (by kernel_rfl) (by kernel_rfl) (by kernel_rfl) (fun _ _ _ h => h) (by rfl) (v := ?_) (fun w hSw => ?_) hS (fun hS => ?_)
        rotate_left
        · go_simp; try with_reducible rfl
        try go_frame
        refine held_pure (i := 13) (oi := ⟨some 36, _, _, _, _, _⟩) rfl (by kernel_rfl) (by kernel_rfl) (by kernel_rfl) (fun _ _ _ h => h) (by rfl) (v := ?_) (fun w hSw => ?_) hS (fun hS => ?_)
        rotate_left
        · go_simp; try with_reducible rfl
        try go_frame
        refine held_pure (i := 14) (oi := ⟨some 37, _, _, _, _, _⟩) rfl (by kernel_rfl) (by kernel_rfl) (by kernel_rfl) (fun _ _ _ h => h) (by rfl) (v := ?_) (fun w hSw => ?_) hS (fun hS => ?_)
        rotate_left
        · go_simp; try with_reducible rfl
        try go_frame
        refine held_pure (i := 15) (oi := ⟨some 38, _, _, _, _, _⟩) rfl (by kernel_rfl) (by kernel_rfl) (by kernel_rfl) (fun _ _ _ h => h) (by rfl) (fun w hSw => run_load_int rfl rfl (cells_at (i := 0) ((hSw.block _ _ _ hbV).trans hbV) rfl)) hS (fun hS => ?_)
        try go_frame
        refine held_pure (i := 16) (oi := ⟨some 39, _, _, _, _, _⟩) rfl (by kernel_rfl) (by kernel_rfl) (by kernel_rfl) (fun _ _ _ h => h) (by rfl) (v := ?_) (fun w hSw => ?_) hS (fun hS => ?_)
        rotate_left
        · go_simp; try with_reducible rfl
        try go_frame
        refine held_pure (i := 17) (oi := ⟨some 40, _, _, _, _, _⟩) rfl (by kernel_rfl) (by kernel_rfl) (by kernel_rfl) (fun _ _ _ h => h) (by rfl) (fun w hSw => run_load_bool rfl rfl (cells_at (i := 1) ((hSw.block _ _ _ hbV).trans hbV) rfl)) hS (fun hS => ?_)
        try go_frame
        refine held_pure (i := 18) (oi := ⟨some 41, _, _, _, _, _⟩) rfl (by kernel_rfl) (by kernel_rfl) (by kernel_rfl) (fun _ _ _ h => h) (by rfl) (v := ?_) (fun w hSw => ?_) hS (fun hS => ?_)
        rotate_left
        · go_simp; try with_reducible rfl
        try go_frame
        refine held_pure (i := 19) (oi := ⟨some 42, _, _, _, _, _⟩) rfl (by kernel_rfl) (by kernel_rfl) (by kernel_rfl) (fun _ _ _ h => h) (by rfl) (fun w hSw => run_load_sl rfl rfl (cells_at (i := 2) ((hSw.block _ _ _ hbV).trans hbV) rfl)) hS (fun hS => ?_)
        try go_frame
        refine held_pure (i := 21) (oi := ⟨some 44, _, _, _, _, _⟩) rfl (by kernel_rfl) (by kernel_rfl) (by kernel_rfl) (fun _ _ _ h => h) (by rfl) (v := ?_) (fun w hSw => ?_) hS (fun hS => ?_)
        rotate_left
        · go_simp; try with_reducible rfl
        try go_frame
        refine held_pure (i := 22) (oi := ⟨some 45, _, _, _, _, _⟩) rfl (by kernel_rfl) (by kernel_rfl) (by kernel_rfl) (fun _ _ _ h => h) (by rfl) (fun w hSw => run_load_int rfl rfl (cells_at (i := 0) ((hSw.block _ _ _ hbV).trans hbV) rfl)) hS (fun hS => ?_)
        try go_frame
        refine held_pure (i := 23) (oi := ⟨some 46, _, _, _, _, _⟩) rfl (by kernel_rfl) (by kernel_rfl) (by kernel_rfl) (fun _ _ _ h => h) (by rfl) (v := ?_) (fun w hSw => ?_) hS (fun hS => ?_)
        rotate_left
        · go_simp; try with_reducible rfl
        try go_frame
        refine held_pure (i := 24) (oi := ⟨some 47, _, _, _, _, _⟩) rfl (by kernel_rfl) (by kernel_rfl) (by kernel_rfl) (fun _ _ _ h => h) (by rfl) (fun w hSw => run_load_bool rfl rfl (cells_at (i := 1) ((hSw.block _ _ _ hbV).trans hbV) rfl)) hS (fun hS => ?_)
        try go_frame
        refine held_pure (i := 25) (oi := ⟨some 48, _, _, _, _, _⟩) rfl (by kernel_rfl) (by kernel_rfl) (by kernel_rfl) (fun _ _ _ h => h) (by rfl) (v := ?_) (fun w hSw => ?_) hS (fun hS => ?_)
        rotate_left
        · go_simp; try with_reducible rfl
        try go_frame
        refine held_pure (i := 26) (oi := ⟨some 49, _, _, _, _, _⟩) rfl (by kernel_rfl) (by kernel_rfl) (by kernel_rfl) (fun _ _ _ h => h) (by rfl) (fun w hSw => run_load_sl rfl rfl (cells_at (i := 2) ((hSw.block _ _ _ hbV).trans hbV) rfl)) hS (fun hS => ?_)
        try go_frame
        refine wpAnyH_ready (rs := [20]) (by kernel_rfl) (by simp) (AllReadyH.cons (o := ⟨some 43, _, _, _, _, _⟩) rfl (fun K hK => ?_) AllReadyH.nil)
        rw [if_pos (by rfl)]
        go_simp
        refine (hcadd g A c L x.p.off x.p.more x.A x.p.b x.c w10 hx10 ((HX0.out.1.below B10).more zB10) (by omega) hoff (by omega)).mono ?_
        rintro e w20 ⟨rfl, A2, c2, L2, hx20, hp20, k20, ob20, ln20⟩
        rw [HE1.out]
        have rx20 := rx10.kept k20 hx10.ofT th_no.1 th_no.2.1 th_no.2.2.1
        have kp20 := (KP.of_below y10).trans (KP.of_kept k20 hx10.ofT th_no.2.2.2)
        have B20 := hown.kept B10 zB10 k20
        have own20 := hown.next zB10 ob20
        have zB20 := B20.size
        show K _ _
        refine hK.out _ _ kp20 (fun hS => ?_)
        clear hK K
        try go_frame
        refine wpAnyH_ready (rs := [27]) (by kernel_rfl) (by simp) (AllReadyH.cons (o := ⟨some 50, _, _, _, _, _⟩) rfl (fun K hK => ?_) AllReadyH.nil)
        rw [if_pos (by rfl)]
        go_simp
        refine (rxadd gx Ax cx lx x.p.off x.p.more x.A x.p.b x.c w20 rx20 ((HX0.out.1.below B20).more zB20) (by omega) hoff (by omega)).mono ?_
        rintro e w27 ⟨rfl, Ax2, cx2, lx2, rx27, hq27, k27, lq27⟩
        rw [HE2.out]
        have hx27 := hx20.kept k27 rx20.ofT tr_no.1 tr_no.2.1 tr_no.2.2.1
        have kp27 := kp20.trans (KP.of_kept k27 rx20.ofT tr_no.2.2.2)
        have B27 := B20.trans (k27.below zB20 (fun i hi => hi ▸ hgx))
        have HSM2 : Hid (Same (piE L2) (piE lx2)) := Lib.hid (by rw [hp20, hq27]; exact HSM.out.addL _)
        clear hp20 hq27
        show K _ _
        refine hK.out _ _ kp27 (fun hS => ?_)
        clear hK K
        try go_frame
        refine held_pure (i := 28) (oi := ⟨some 51, _, _, _, _, _⟩) rfl (by kernel_rfl) (by kernel_rfl) (by kernel_rfl) (fun _ _ _ h => h) (by rfl) (v := .bool false) (fun w hSw => by go_simp) hS (fun hS => ?_)
        try go_frame
        refine held_pure (i := 29) (oi := ⟨some 52, _, _, _, _, _⟩) rfl (by kernel_rfl) (by kernel_rfl) (by kernel_rfl) (fun _ _ _ h => h) (by rfl) (v := ?_) (fun w hSw => ?_) hS (fun hS => ?_)
        rotate_left
        · go_simp; try with_reducible rfl
        try go_frame
        refine held_pure (i := 30) (oi := ⟨some 53, _, _, _, _, _⟩) rfl (by kernel_rfl) (by kernel_rfl) (by kernel_rfl) (fun _ _ _ h => h) (by rfl) (v := ?_) (fun w hSw => ?_) hS (fun hS => ?_)
        rotate_left
        · go_simp; try with_reducible rfl
        try go_frame
        refine held_pure (i := 31) (oi := ⟨some 54, _, _, _, _, _⟩) rfl (by kernel_rfl) (by kernel_rfl) (by kernel_rfl) (fun _ _ _ h => h) (by rfl) (v := ?_) (fun w hSw => ?_) hS (fun hS => ?_)
        rotate_left
        · go_simp; try with_reducible rfl
        try go_frame
        refine wpAnyH_ready (rs := [32]) (by kernel_rfl) (by simp) (AllReadyH.cons (o := ⟨some 55, _, _, _, _, _⟩) rfl (fun K hK => ?_) AllReadyH.nil)
        rw [if_pos (by rfl)]
        go_simp
        refine (hcbytes g A2 c2 L2 w27 hx27).mono ?_
        rintro e w32 ⟨rfl, rfl⟩
        rw [HSM2.out.bytes]
        show K _ _
        refine hK.out _ _ kp27 (fun hS => ?_)
        clear hK K
        try go_frame
        refine wpAnyH_ready (rs := [33]) (by kernel_rfl) (by simp) (AllReadyH.cons (o := ⟨some 56, _, _, _, _, _⟩) rfl (fun K hK => ?_) AllReadyH.nil)
        rw [if_pos (by rfl)]
        go_simp
        refine (rxbytes gx Ax2 cx2 lx2 w27 rx27).mono ?_
        rintro e w33 ⟨rfl, x33⟩
        show K _ _
        refine hK.out _ _ (kp27.trans (KP.of_below x33)) (fun hS => ?_)
        clear hK K
        try go_frame
        refine held_pure (i := 34) (oi := ⟨some 57, _, _, _, _, _⟩) rfl (by kernel_rfl) (by kernel_rfl) (by kernel_rfl) (fun _ _ _ h => h) (by rfl) (v := .bool false) (fun w hSw => by go_simp) hS (fun hS => ?_)
        try go_frame
        refine held_pure (i := 35) (oi := ⟨some 58, _, _, _, _, _⟩) rfl (by kernel_rfl) (by kernel_rfl) (by kernel_rfl) (fun _ _ _ h => h) (by rfl) (v := ?_) (fun w hSw => ?_) hS (fun hS => ?_)
        rotate_left
        · go_simp; try with_reducible rfl
        try go_frame
        refine wpAnyH_done (by kernel_rfl) ?_ _
        go_wp2_with fail
        go_roundw
        case rel => exact ⟨k + 1, A2, c2, L2, Ax2, cx2, lx2, by omega, by simp, hx27.below x33, rx27.below x33, HSM2, ⟨by omega, by omega⟩, own20, B27.trans (x33.mono B27.size)⟩
        case measure => simp [intOf]; omega
      · obtain rfl : n = k := by omega
        have HSD := Lib.hid HSM.out.done
        obtain ⟨Q, hQ⟩ : ∃ Q, Q = doneB (piE lx) := ⟨_, rfl⟩
        obtain ⟨DD, hDD⟩ : ∃ DD, DD = doneP (piE lx) := ⟨_, rfl⟩
        have HQ : Hid ((endedP (piE L) && decide (gapsS 0 (piE L) = [])) = Q) := Lib.hid (by rw [hQ]; exact HSD.out.1.symm)
        have HQ2 := Lib.hid hQ.symm
        have HDD : Hid ((if Q then catP (piE L) else []) = DD) := Lib.hid (by
          rw [hDD, hQ]
          by_cases hd : doneB (piE lx) = true
          · rw [if_pos hd, HSD.out.2 hd]
          · rw [if_neg hd, doneP, if_neg hd])
        have HD2 := Lib.hid hDD.symm
        have HWF := Lib.hid HSM.out.wf
        clear hQ hDD hlt
        go_wp2_with (first
          | (go_at_call 22; refine (equal_any P5 P6 DD DD p5 p6 w6.heap.size w6.heap.size w6 ((a5.below y6).more y6.size).rd a6.rd).mono ?_; rintro e w7 ⟨rfl, rfl⟩)
          | (go_at_call 11; refine (awake15 _).mono ?_; rintro e w8 ⟨rfl, x8⟩)
          | (go_at_call 21; refine (rxdone gx Ax cx lx w5 (rxr.below y5) HWF.out).mono ?_; rintro e w6 ⟨v6, rfl, m6⟩; rw [HQ2.out]; rw [HD2.out] at m6; obtain ⟨P6, p6, rfl, a6, o6, y6⟩ := made_shape m6; clear m6 o6)
          | (go_at_call 20; refine (hcdone g A c L wr hxr).mono ?_; rintro e w5 ⟨v5, rfl, m5⟩; rw [HQ.out]; rw [HQ.out, HDD.out] at m5; obtain ⟨P5, p5, rfl, a5, o5, y5⟩ := made_shape m5; clear m5 o5))
        go_ret
        exact ⟨rfl, ((hbel.trans (y5.mono hbel.size)).trans (y6.mono (Nat.le_trans hbel.size y5.size))).trans (x8.mono (Nat.le_trans hbel.size (Nat.le_trans y5.size y6.size)))⟩

/-! ### The row's step -/
set_option maxRecDepth 100000 in
theorem lifted (os : Os) (started : os.Started) (H : Type) (enc : TypeId × Value → H) :
    ReturnsInHanded {} Try.checked os 3 .any (Rows.holesLiveSpec.pre6 enc Try.prog Try.f3 Rows.holesLiveRow.domain false) (Rows.holesLiveSpec.post enc Try.prog Try.f3 false true false false) := by
  refine returnsInHanded_of_change (C := Try.checked) own started (by kernel_rfl) Try.func3
    (ChangeSpec.witness6 (enc := enc) (C := Try.checked) false ⟨#[], #[.slice none 0 0], []⟩ 8 (by kernel_rfl) (by kernel_rfl) (by kernel_rfl) (by kernel_rfl)) ?_
  intro W base args ds gs before hval0 hW hcnd _
  have hval : ∀ (j : Nat) t v, Try.f3.params[j]? = some t → args[j]? = some v → Value.okWide Try.prog W .any base t v := hval0
  have hW' := hW
  obtain ⟨p, q, hA0, hV, rfl, hfz, hnd⟩ := hW
  have hA : DataW.TrodAll enc Try.prog W 0 (fun _ => true) true Try.f3.params.toList args.toList ds p := hA0
  rw [Try.params3] at hA hval
  obtain ⟨v0, vs0, d0, ds0, p0, q0, hargs, rfl, rfl, t0, r0⟩ := trodAll_cons hA
  obtain ⟨rfl, rfl, rfl⟩ := trodAll_nil r0
  obtain rfl : args = #[v0] := by cases args; simp_all
  obtain ⟨rfl, rfl⟩ := trodVars_none hV
  have k0 := t0
  have lt0 := Trod_lt t0
  obtain ⟨A0, c0, l0, rfl, h0, e0, n0, m0⟩ := get_hps (hval 0 22 v0 rfl rfl) t0
  clear hA0 hval0
  refine (walk A0 c0 l0 W h0 e0 n0 m0).mono fun e W' ⟨he, bel⟩ => ?_
  subst he
  exact ⟨_, rfl, _, _, _, [], _, [], hW', trodAll_mk1 (shut_bool Try.underlying4 _), (trodAll_cons_mk (Below.trod laidOut (by kernel_rfl) (of_decide_eq_true (by kernel_rfl)) k0 bel lt0) trodAll_mk0), rfl, bel.frame _, fun h => by cases h⟩

theorem over : Rows.holesLiveRow.holds Try.pinned (OpenSpec.ofChange Rows.holesLiveSpec) :=
  OpenClaim.holds_of_wide 3 Try.f3 rfl rfl rfl rfl rfl rfl rfl ⟨rfl, rfl, rfl, rfl, rfl⟩ rfl rfl rfl rfl rfl (by kernel_rfl) Try.func3 (by kernel_rfl)
    (of_decide_eq_true (by kernel_rfl)) (by unfold Func.isWrapper; first | (rw [if_pos (by decide +kernel)]; kernel_rfl) | (rw [if_neg (by decide +kernel)]; exact ⟨rfl, rfl⟩))
    (fun os started H enc _ => lifted os started H enc)

theorem proved : Rows.HolesLiveSaid := over
end Go.Proofs.Ytkncgjjflkbnfaa.holesLive
