/-
  Contracts and lemmas on which the proofs of this seat stand (several texts in one). Conditions are each theorem's own.
-/
import Derived.Test.YtjgcpaepaocigaaEa9
import Derived.Test.YtjgcpaepaocigaaEa4
import Derived.Test.YtjgcpaepaocigaaEa5
import Derived.Test.YtjgcpaepaocigaaEa3
import Derived.Test.YtjgcpaepaocigaaEa7

/-
  Contracts of layer 28: what is told, of the code and of the document. Conditions are each theorem's own.
-/
namespace Go.Proofs.Ytjgcpaepaocigaa
open Go.RowKit
theorem cEmost (w : World) : Calls Try.prog 22 #[] w fun e w' => e = .returned (.int .i64 548) ∧ w = w' := by
  go_enter Try.func22, Try.ntmps22
  go_wp2_with fail
  go_ret
  exact ⟨rfl, rfl⟩
set_option maxRecDepth 100000 in
set_option maxHeartbeats 4000000 in
theorem cEmake (a k c r : Int) (b : List UInt8) (A : Option Addr) (cc B : Nat) (w : World) (hA : Arg w B A cc b) (hB : B ≤ w.heap.size) (hl : b.length ≤ 900000) :
    Calls Try.prog 13 #[.int .i64 a, .int .i64 k, .int .i64 c, .int .i64 r, .slice A b.length cc] w fun e w' => ∃ P' p', e = .returned (.tuple #[v4v (mkV a k c r b) none 0 P' p', .int .i64 (mkE a k c r b)]) ∧ Made w w' (.slice P' (mkV a k c r b).dat.length p') (mkV a k c r b).dat := by
  have hcap := hA.cap
  have hR0 := World.alloc_heap_new w (.cells #[.int .i64 0, .int .i64 0, .int .i64 0, .int .i64 0, .int .i64 0, .int .i64 0, .int .i64 0, .bool false, .bool false, .slice none 0 0, .slice none 0 0] 36)
  have hb0 : Below w.heap.size w (w.alloc (.cells #[.int .i64 0, .int .i64 0, .int .i64 0, .int .i64 0, .int .i64 0, .int .i64 0, .int .i64 0, .bool false, .bool false, .slice none 0 0, .slice none 0 0] 36)) := (Below.refl w.heap.size w).alloc (Nat.le_refl _) _
  have hz0 : w.heap.size < (w.alloc (.cells #[.int .i64 0, .int .i64 0, .int .i64 0, .int .i64 0, .int .i64 0, .int .i64 0, .int .i64 0, .bool false, .bool false, .slice none 0 0, .slice none 0 0] 36)).heap.size := by simp
  go_enter Try.func13, Try.ntmps13
  go_upto_region 1 with fail
  generalize w.alloc (.cells #[.int .i64 0, .int .i64 0, .int .i64 0, .int .i64 0, .int .i64 0, .int .i64 0, .int .i64 0, .bool false, .bool false, .slice none 0 0, .slice none 0 0] 36) = W at *
  have hA0 := hA.below (hb0.mono hB)
  clear hA
  cases hM : mayE b
  · have HM := Lib.hid hM
    have HE : Hid (mkE a k c r b = 11) := Lib.hid (by rw [mkE, if_neg (by rw [hM]; simp)])
    have HV : Hid (mkV a k c r b = p4z) := Lib.hid (by rw [mkV, if_neg (by rw [HE.out]; decide)])
    clear hM
    go_wp2_with (first
      | (go_at_call 15; refine (cEmay b A cc B W hA0 (Nat.le_trans hB hb0.size) (by omega)).mono ?_; rintro e w1 ⟨rfl, x1⟩; rw [HM.out]; have hR1 := (x1.block w.heap.size hz0).trans hR0; have hb1 := hb0.trans (x1.mono hb0.size))
      | ((with_reducible show wpList _ _ _ (Oper.mk _ (Op.store _ _ _) _ _ _ _ :: _) _ _); refine v4_store (g := w.heap.size) (cs := v4a p4z none 0 none 0) rfl rfl hR1 rfl rfl (v4a_one _ _ _ _ _) ?_))
    exact bodyPost_ret (res2 rfl rfl (run_loadVar_row _ _ _ 36 (v4a p4z none 0 none 0) _ _ (setRow_heap _ _ _ _ _ _ hR1) Try.underlying36 rfl (by kernel_rfl))) rfl ⟨none, 0, by rw [HE.out, HV.out]; rfl, by rw [HV.out]; exact Made.nil _ _ (below_row hb1 (Nat.le_refl _))⟩
  · have HM := Lib.hid hM
    have hE0 := may_ok hM
    obtain ⟨n0, n1, n2, n3⟩ := raw_len hE0
    have hnE := nE_le hM
    have hN : ((nE b : Nat) : Int) = min (size4 (prsV b true)) 548 := by unfold nE; omega
    obtain ⟨N, hNe⟩ : ∃ x, x = nE b := ⟨_, rfl⟩
    obtain ⟨D, hD⟩ : ∃ x, x = b.take (nE b) := ⟨_, rfl⟩
    have hDl : D.length = N := by rw [hD, hNe, List.length_take]; omega
    have hAD := hA0.cut_hi N (by omega)
    rw [hNe, ← hD] at hAD
    obtain ⟨q, hq⟩ : ∃ x, x = prsV b true := ⟨_, rfl⟩
    obtain ⟨MS, hMS⟩ : ∃ x : PI, x = ⟨k, c, r, D⟩ := ⟨_, rfl⟩
    have hMS' : MS = msE k c r b := by rw [hMS, msE, hD]
    rw [← hNe, ← hq] at hN
    have HN := Lib.hid hN
    have HQ := Lib.hid hq
    have HDL := Lib.hid hDl
    have hNb : N ≤ b.length := by omega
    have hN5 : N ≤ 548 := by omega
    rw [← hq] at n0 n1 n2 n3
    go_upto_region 2 with (go_at_call 15; refine (cEmay b A cc B W hA0 (Nat.le_trans hB hb0.size) (by omega)).mono ?_; rintro e w1 ⟨rfl, x1⟩; rw [HM.out])
    have hR1 := (x1.block w.heap.size hz0).trans hR0
    have hb1 := hb0.trans (x1.mono hb0.size)
    have hz1 := Nat.lt_of_lt_of_le hz0 x1.size
    have hA1 := hA0.below (x1.mono (Nat.le_trans hB hb0.size))
    have hD1 := hAD.below (x1.mono (Nat.le_trans hB hb0.size))
    have hE00 := Lib.hid hE0
    clear hM hE0 hnE hNe hDl hA0 hAD hq hN hD
    go_upto_region 4 with (first
      | (go_at_call 21; refine (c4quoted b A cc w1 B hA1 (Nat.le_trans hB hb1.size) (by omega)).mono ?_; rintro e w2 ⟨P, p, P', p', rfl, mo, md⟩; rw [← HQ.out, hE00.out])
      | ((with_reducible show wpList _ _ _ (Oper.mk _ (Op.store _ _ _) _ _ _ _ :: _) _ _); refine v4_store_new (cs := v4a q P p P' p') rfl rfl rfl rfl (v4a_one _ _ _ _ _) ?_))
    have hbox := World.alloc_heap_new w2 (.cells (v4a q P p P' p') 36)
    have x2 : Below w1.heap.size w1 (w2.alloc (.cells (v4a q P p P' p') 36)) := mo.below.alloc mo.below.size _
    have hz2 : w2.heap.size < (w2.alloc (.cells (v4a q P p P' p') 36)).heap.size := by simp
    have hg2 : w1.heap.size ≤ w2.heap.size := mo.below.size
    generalize w2.alloc (.cells (v4a q P p P' p') 36) = W2 at *
    have hR2 := (x2.block w.heap.size hz1).trans hR1
    have hb2 := hb1.trans (x2.mono hb1.size)
    have hD2 := hD1.below (x2.mono (Nat.le_trans hB hb1.size))
    have at2 := ofhE hbox
    clear mo md hA1 hD1 hR1 hR0
    go_upto_region 5 with (first
      | ((with_reducible show wpList _ _ _ (Oper.mk _ (Op.load 36 _) _ _ _ _ :: _) _ _); refine wpList_val rfl (run_load_v4 rfl rfl at2 rfl) ?_)
      | (go_at_call 23; refine (c4size q P p P' p' _ (by omega) (by omega)).mono ?_; rintro e w3 ⟨rfl, x3⟩)
      | (go_at_call 22; refine (cEmost _).mono ?_; rintro e w3b ⟨rfl, rfl⟩)
      | ((with_reducible show wpList _ _ _ (Oper.mk _ (Op.slice _ _ _ _ _) _ _ _ _ :: _) _ _); (refine wpList_val rfl (run_cut_h rfl rfl rfl (h := min (size4 q) 548) (by omega) (by omega) (m := D.length) (by have := HN.out; have := HDL.out; omega)) ?_)))
    have hR3 := (x3.block w.heap.size (by omega)).trans hR2
    have hb3 := hb2.trans (x3.mono hb2.size)
    have hD3 := hD2.below (x3.mono (Nat.le_trans hB hb2.size))
    have hbox3 := (x3.block w2.heap.size hz2).trans hbox
    have hz3 := Nat.lt_of_lt_of_le hz2 x3.size
    clear hR2 hD2 hbox at2
    by_cases hC : chkI MS = 0
    · have HC := Lib.hid hC
      rw [hMS] at hC
      have HCx := Lib.hid hC
      obtain ⟨BS, hBS⟩ : ∃ x, x = bldI [] (⟨k, c, r, D⟩ : PI) := ⟨_, rfl⟩
      have HBS := Lib.hid hBS
      have hBSl : BS.length = 8 + D.length := by rw [hBS, bldI_len]
      have HBL := Lib.hid hBSl
      clear hC hBS hBSl
      go_upto_region 6 with (first
        | (go_at_call 36; refine (cIbuild ⟨k, c, r, D⟩ A cc _ B hD3 (Nat.le_trans hB hb3.size) (by have := HDL.out; show D.length ≤ _; omega)).mono ?_; rintro e w4 ⟨v4, rfl, n4, m4⟩; have m4 := m4 HCx.out; rw [HCx.out]; rw [← HBS.out] at m4; obtain ⟨PB, p4, rfl, g4, o4, x4⟩ := made_shape m4))
      have hR4 := (x4.block w.heap.size (by omega)).trans hR3
      have hb4 := hb3.trans (x4.mono hb3.size)
      have at4 := ofhE ((x4.block w2.heap.size hz3).trans hbox3)
      have ksrc := at4.src
      obtain ⟨PK, hPK⟩ : ∃ x : P4, x = ⟨0, 0, 0, 64, 1, a, q.src, false, false, [], BS⟩ := ⟨_, rfl⟩
      have HPK := Lib.hid (show pkE a b (msE k c r b) = PK by rw [hPK, pkE, ← hMS', hMS, ← HBS.out, ← HQ.out])
      have hPo : PK.opt.length = 0 := by rw [hPK]; rfl
      have hPd : PK.dat = BS := by rw [hPK]
      have hpl : PK.dat.length ≤ 1000000 := by rw [hPd, HBL.out, HDL.out]; omega
      have hPV : v4a PK none 0 PB p4 = #[.int .i64 0, .int .i64 0, .int .i64 0, .int .i64 64, .int .i64 1, .int .i64 a, .int .i64 q.src, .bool false, .bool false, .slice none 0 0, .slice PB BS.length p4] := by rw [hPK]; rfl
      have HPV := Lib.hid hPV
      have HMSE := Lib.hid hMS'
      clear hMS hMS' hPK at4 hPV
      go_upto_region 9 with (first
        | ((with_reducible show wpList _ _ _ (Oper.mk _ (Op.store _ _ _) _ _ _ _ :: _) _ _); refine v4_store_new (cs := v4a PK none 0 PB p4) rfl (by rw [HPV.out]; rfl) rfl rfl (v4a_one _ _ _ _ _) ?_))
      have x5 : Below w4.heap.size w4 (w4.alloc (.cells (v4a PK none 0 PB p4) 36)) := (Below.refl _ w4).alloc (Nat.le_refl _) _
      have hbox5 := World.alloc_heap_new w4 (.cells (v4a PK none 0 PB p4) 36)
      have hz5 : w4.heap.size < (w4.alloc (.cells (v4a PK none 0 PB p4) 36)).heap.size := by simp
      generalize w4.alloc (.cells (v4a PK none 0 PB p4) 36) = W5 at *
      have at5 := ofhE hbox5
      have hR5 := (x5.block w.heap.size (by have := x4.size; omega)).trans hR4
      have hb5 := hb4.trans (x5.mono hb4.size)
      obtain ⟨CK, hCK⟩ : ∃ x, x = chk4 PK := ⟨_, rfl⟩
      have HCK := Lib.hid hCK
      by_cases hk0 : CK = 0
      · have HE : Hid (mkE a k c r b = 0) := Lib.hid (by rw [mkE, if_pos HM.out, if_pos (by rw [← HMSE.out]; exact HC.out), if_pos (by rw [HPK.out, ← hCK]; exact hk0)])
        have HV : Hid (mkV a k c r b = PK) := Lib.hid (by rw [mkV, if_pos HE.out, HPK.out])
        have HK0 := Lib.hid hk0
        clear hk0 hCK
        go_wp2_with (first
          | ((with_reducible show wpList _ _ _ (Oper.mk _ (Op.load 36 _) _ _ _ _ :: _) _ _); refine wpList_val rfl (run_load_v4 rfl rfl at5 rfl) ?_)
          | (go_at_call 37; refine (c4check PK none 0 PB p4 _ (by omega) hpl).mono ?_; rintro e w6 ⟨rfl, x6⟩; rw [← HCK.out, HK0.out]; have at5 := at5.below x6 hz5; have hR6 := (x6.block w.heap.size (by have := x4.size; have := x5.size; omega)).trans hR5)
          | ((with_reducible show wpList _ _ _ (Oper.mk _ (Op.store _ _ _) _ _ _ _ :: _) _ _); refine v4_store (g := w.heap.size) (cs := v4a PK none 0 PB p4) rfl rfl hR6 rfl rfl (v4a_one _ _ _ _ _) ?_))
        exact bodyPost_ret (res2 rfl rfl (run_loadVar_row _ _ _ 36 (v4a PK none 0 PB p4) _ _ (setRow_heap _ _ _ _ _ _ hR6) Try.underlying36 rfl (by kernel_rfl))) rfl ⟨PB, p4, by rw [HE.out, HV.out]; rfl, by rw [HV.out, hPd]; exact ((m4.later (x5.trans (x6.mono x5.size))).row hb3 (by omega))⟩
      · have HE : Hid (mkE a k c r b = 1) := Lib.hid (by rw [mkE, if_pos HM.out, if_pos (by rw [← HMSE.out]; exact HC.out), if_neg (by rw [HPK.out, ← hCK]; exact hk0)])
        have HV : Hid (mkV a k c r b = p4z) := Lib.hid (by rw [mkV, if_neg (by rw [HE.out]; decide)])
        have dK : (CK != 0) = true := by simpa using hk0
        clear hk0 hCK
        go_wp2_with (first
          | ((with_reducible show wpList _ _ _ (Oper.mk _ (Op.load 36 _) _ _ _ _ :: _) _ _); refine wpList_val rfl (run_load_v4 rfl rfl at5 rfl) ?_)
          | (go_at_call 37; refine (c4check PK none 0 PB p4 _ (by omega) hpl).mono ?_; rintro e w6 ⟨rfl, x6⟩; rw [← HCK.out]; have hR6 := (x6.block w.heap.size (by have := x4.size; have := x5.size; omega)).trans hR5; have hb6 := hb5.trans (x6.mono hb5.size))
          | ((with_reducible show wpList _ _ _ (Oper.mk _ (Op.store _ _ _) _ _ _ _ :: _) _ _); refine v4_store (g := w.heap.size) (cs := v4a p4z none 0 none 0) rfl rfl hR6 rfl rfl (v4a_one _ _ _ _ _) ?_))
        exact bodyPost_ret (res2 rfl rfl (run_loadVar_row _ _ _ 36 (v4a p4z none 0 none 0) _ _ (setRow_heap _ _ _ _ _ _ hR6) Try.underlying36 rfl (by kernel_rfl))) rfl ⟨none, 0, by rw [HE.out, HV.out]; rfl, by rw [HV.out]; exact Made.nil _ _ (below_row hb6 (Nat.le_refl _))⟩
    · have HE : Hid (mkE a k c r b = 1) := Lib.hid (by rw [mkE, if_pos HM.out, if_neg (by rw [← hMS']; exact hC)])
      have HV : Hid (mkV a k c r b = p4z) := Lib.hid (by rw [mkV, if_neg (by rw [HE.out]; decide)])
      rw [hMS] at hC
      obtain ⟨CK, hCK⟩ : ∃ x, x = chkI (⟨k, c, r, D⟩ : PI) := ⟨_, rfl⟩
      rw [← hCK] at hC
      have HCK := Lib.hid hCK
      have HC := Lib.hid hC
      have dK : (CK != 0) = true := by simpa using hC
      clear hC hCK hMS hMS'
      go_wp2_with (first
        | (go_at_call 36; refine (cIbuild ⟨k, c, r, D⟩ A cc _ B hD3 (Nat.le_trans hB hb3.size) (by have := HDL.out; show D.length ≤ _; omega)).mono ?_; rintro e w4 ⟨v4, rfl, n4, m4⟩; have n4 := n4 (by rw [← HCK.out]; exact HC.out); rw [← HCK.out]; obtain ⟨rfl, x4⟩ := n4; have hR4 := (x4.block w.heap.size (by omega)).trans hR3; have hb4 := hb3.trans (x4.mono hb3.size))
        | ((with_reducible show wpList _ _ _ (Oper.mk _ (Op.store _ _ _) _ _ _ _ :: _) _ _); refine v4_store (g := w.heap.size) (cs := v4a p4z none 0 none 0) rfl rfl hR4 rfl rfl (v4a_one _ _ _ _ _) ?_))
      exact bodyPost_ret (res2 rfl rfl (run_loadVar_row _ _ _ 36 (v4a p4z none 0 none 0) _ _ (setRow_heap _ _ _ _ _ _ hR4) Try.underlying36 rfl (by kernel_rfl))) rfl ⟨none, 0, by rw [HE.out, HV.out]; rfl, by rw [HV.out]; exact Made.nil _ _ (below_row hb4 (Nat.le_refl _))⟩
set_option maxRecDepth 100000 in
set_option maxHeartbeats 4000000 in
theorem rEmake (a k c r : Int) (b : List UInt8) (A : Option Addr) (cc B : Nat) (w : World) (hA : Arg w B A cc b) (hB : B ≤ w.heap.size) (hl : b.length ≤ 900000) :
    Calls Try.prog 14 #[.int .i64 a, .int .i64 k, .int .i64 c, .int .i64 r, .slice A b.length cc] w fun e w' => ∃ P' p', e = .returned (.tuple #[v4v (mkV a k c r b) none 0 P' p', .int .i64 (mkE a k c r b)]) ∧ Made w w' (.slice P' (mkV a k c r b).dat.length p') (mkV a k c r b).dat := by
  have hcap := hA.cap
  have hR0 := World.alloc_heap_new w (.cells #[.int .i64 0, .int .i64 0, .int .i64 0, .int .i64 0, .int .i64 0, .int .i64 0, .int .i64 0, .bool false, .bool false, .slice none 0 0, .slice none 0 0] 36)
  have hb0 : Below w.heap.size w (w.alloc (.cells #[.int .i64 0, .int .i64 0, .int .i64 0, .int .i64 0, .int .i64 0, .int .i64 0, .int .i64 0, .bool false, .bool false, .slice none 0 0, .slice none 0 0] 36)) := (Below.refl w.heap.size w).alloc (Nat.le_refl _) _
  have hz0 : w.heap.size < (w.alloc (.cells #[.int .i64 0, .int .i64 0, .int .i64 0, .int .i64 0, .int .i64 0, .int .i64 0, .int .i64 0, .bool false, .bool false, .slice none 0 0, .slice none 0 0] 36)).heap.size := by simp
  go_enter Try.func14, Try.ntmps14
  go_upto_region 1 with fail
  generalize w.alloc (.cells #[.int .i64 0, .int .i64 0, .int .i64 0, .int .i64 0, .int .i64 0, .int .i64 0, .int .i64 0, .bool false, .bool false, .slice none 0 0, .slice none 0 0] 36) = W at *
  have hA0 := hA.below (hb0.mono hB)
  clear hA
  cases hM : mayE b
  · have HM := Lib.hid hM
    have HE : Hid (mkE a k c r b = 11) := Lib.hid (by rw [mkE, if_neg (by rw [hM]; simp)])
    have HV : Hid (mkV a k c r b = p4z) := Lib.hid (by rw [mkV, if_neg (by rw [HE.out]; decide)])
    clear hM
    go_wp2_with (first
      | (go_at_call 16; refine (rEmay b A cc B W hA0 (Nat.le_trans hB hb0.size) (by omega)).mono ?_; rintro e w1 ⟨rfl, x1⟩; rw [HM.out]; have hR1 := (x1.block w.heap.size hz0).trans hR0; have hb1 := hb0.trans (x1.mono hb0.size))
      | ((with_reducible show wpList _ _ _ (Oper.mk _ (Op.store _ _ _) _ _ _ _ :: _) _ _); refine v4_store (g := w.heap.size) (cs := v4a p4z none 0 none 0) rfl rfl hR1 rfl rfl (v4a_one _ _ _ _ _) ?_))
    exact bodyPost_ret (res2 rfl rfl (run_loadVar_row _ _ _ 36 (v4a p4z none 0 none 0) _ _ (setRow_heap _ _ _ _ _ _ hR1) Try.underlying36 rfl (by kernel_rfl))) rfl ⟨none, 0, by rw [HE.out, HV.out]; rfl, by rw [HV.out]; exact Made.nil _ _ (below_row hb1 (Nat.le_refl _))⟩
  · have HM := Lib.hid hM
    have hE0 := may_ok hM
    obtain ⟨n0, n1, n2, n3⟩ := raw_len hE0
    have hnE := nE_le hM
    have hN : ((nE b : Nat) : Int) = min (size4 (prsV b true)) 548 := by unfold nE; omega
    obtain ⟨N, hNe⟩ : ∃ x, x = nE b := ⟨_, rfl⟩
    obtain ⟨D, hD⟩ : ∃ x, x = b.take (nE b) := ⟨_, rfl⟩
    have hDl : D.length = N := by rw [hD, hNe, List.length_take]; omega
    have hAD := hA0.cut_hi N (by omega)
    rw [hNe, ← hD] at hAD
    obtain ⟨q, hq⟩ : ∃ x, x = prsV b true := ⟨_, rfl⟩
    obtain ⟨MS, hMS⟩ : ∃ x : PI, x = ⟨k, c, r, D⟩ := ⟨_, rfl⟩
    have hMS' : MS = msE k c r b := by rw [hMS, msE, hD]
    rw [← hNe, ← hq] at hN
    have HN := Lib.hid hN
    have HQ := Lib.hid hq
    have HDL := Lib.hid hDl
    have hNb : N ≤ b.length := by omega
    have hN5 : N ≤ 548 := by omega
    rw [← hq] at n0 n1 n2 n3
    go_upto_region 2 with (go_at_call 16; refine (rEmay b A cc B W hA0 (Nat.le_trans hB hb0.size) (by omega)).mono ?_; rintro e w1 ⟨rfl, x1⟩; rw [HM.out])
    have hR1 := (x1.block w.heap.size hz0).trans hR0
    have hb1 := hb0.trans (x1.mono hb0.size)
    have hz1 := Nat.lt_of_lt_of_le hz0 x1.size
    have hA1 := hA0.below (x1.mono (Nat.le_trans hB hb0.size))
    have hD1 := hAD.below (x1.mono (Nat.le_trans hB hb0.size))
    have hE00 := Lib.hid hE0
    clear hM hE0 hnE hNe hDl hA0 hAD hq hN hD
    go_upto_region 4 with (first
      | (go_at_call 38; refine (r5quoted b A cc w1 B hA1 (Nat.le_trans hB hb1.size) (by omega)).mono ?_; rintro e w2 ⟨P, p, P', p', rfl, mo, md⟩; rw [← HQ.out, hE00.out])
      | ((with_reducible show wpList _ _ _ (Oper.mk _ (Op.store _ _ _) _ _ _ _ :: _) _ _); refine v4_store_new (cs := v4a q P p P' p') rfl rfl rfl rfl (v4a_one _ _ _ _ _) ?_))
    have hbox := World.alloc_heap_new w2 (.cells (v4a q P p P' p') 36)
    have x2 : Below w1.heap.size w1 (w2.alloc (.cells (v4a q P p P' p') 36)) := mo.below.alloc mo.below.size _
    have hz2 : w2.heap.size < (w2.alloc (.cells (v4a q P p P' p') 36)).heap.size := by simp
    have hg2 : w1.heap.size ≤ w2.heap.size := mo.below.size
    generalize w2.alloc (.cells (v4a q P p P' p') 36) = W2 at *
    have hR2 := (x2.block w.heap.size hz1).trans hR1
    have hb2 := hb1.trans (x2.mono hb1.size)
    have hD2 := hD1.below (x2.mono (Nat.le_trans hB hb1.size))
    have at2 := ofhE hbox
    clear mo md hA1 hD1 hR1 hR0
    go_upto_region 5 with (first
      | ((with_reducible show wpList _ _ _ (Oper.mk _ (Op.load 36 _) _ _ _ _ :: _) _ _); refine wpList_val rfl (run_load_v4 rfl rfl at2 rfl) ?_)
      | (go_at_call 39; refine (r5size q P p P' p' _ (by omega) (by omega)).mono ?_; rintro e w3 ⟨rfl, x3⟩))
    have hR3 := (x3.block w.heap.size (by omega)).trans hR2
    have hb3 := hb2.trans (x3.mono hb2.size)
    have hD3 := hD2.below (x3.mono (Nat.le_trans hB hb2.size))
    have hbox3 := (x3.block w2.heap.size hz2).trans hbox
    have hz3 := Nat.lt_of_lt_of_le hz2 x3.size
    clear hR2 hD2 hbox at2
    by_cases hC : chkI MS = 0
    · have HC := Lib.hid hC
      rw [hMS] at hC
      have HCx := Lib.hid hC
      obtain ⟨BS, hBS⟩ : ∃ x, x = bldI [] (⟨k, c, r, D⟩ : PI) := ⟨_, rfl⟩
      have HBS := Lib.hid hBS
      have hBSl : BS.length = 8 + D.length := by rw [hBS, bldI_len]
      have HBL := Lib.hid hBSl
      clear hC hBS hBSl
      go_upto_region 6 with (first
      | ((with_reducible show wpList _ _ _ (Oper.mk _ (Op.slice _ _ _ _ _) _ _ _ _ :: _) _ _); (refine wpList_val rfl (run_cut_h rfl rfl rfl (h := min (size4 q) 548) (by omega) (by omega) (m := D.length) (by have := HN.out; have := HDL.out; omega)) ?_))
        | (go_at_call 40; refine (rIbuild ⟨k, c, r, D⟩ A cc _ B hD3 (Nat.le_trans hB hb3.size) (by have := HDL.out; show D.length ≤ _; omega)).mono ?_; rintro e w4 ⟨v4, rfl, n4, m4⟩; have m4 := m4 HCx.out; rw [HCx.out]; rw [← HBS.out] at m4; obtain ⟨PB, p4, rfl, g4, o4, x4⟩ := made_shape m4))
      have hR4 := (x4.block w.heap.size (by omega)).trans hR3
      have hb4 := hb3.trans (x4.mono hb3.size)
      have at4 := ofhE ((x4.block w2.heap.size hz3).trans hbox3)
      have ksrc := at4.src
      obtain ⟨PK, hPK⟩ : ∃ x : P4, x = ⟨0, 0, 0, 64, 1, a, q.src, false, false, [], BS⟩ := ⟨_, rfl⟩
      have HPK := Lib.hid (show pkE a b (msE k c r b) = PK by rw [hPK, pkE, ← hMS', hMS, ← HBS.out, ← HQ.out])
      have hPo : PK.opt.length = 0 := by rw [hPK]; rfl
      have hPd : PK.dat = BS := by rw [hPK]
      have hpl : PK.dat.length ≤ 1000000 := by rw [hPd, HBL.out, HDL.out]; omega
      have hPV : v4a PK none 0 PB p4 = #[.int .i64 0, .int .i64 0, .int .i64 0, .int .i64 64, .int .i64 1, .int .i64 a, .int .i64 q.src, .bool false, .bool false, .slice none 0 0, .slice PB BS.length p4] := by rw [hPK]; rfl
      have HPV := Lib.hid hPV
      have HMSE := Lib.hid hMS'
      clear hMS hMS' hPK at4 hPV
      go_upto_region 9 with (first
        | ((with_reducible show wpList _ _ _ (Oper.mk _ (Op.store _ _ _) _ _ _ _ :: _) _ _); refine v4_store_new (cs := v4a PK none 0 PB p4) rfl (by rw [HPV.out]; rfl) rfl rfl (v4a_one _ _ _ _ _) ?_))
      have x5 : Below w4.heap.size w4 (w4.alloc (.cells (v4a PK none 0 PB p4) 36)) := (Below.refl _ w4).alloc (Nat.le_refl _) _
      have hbox5 := World.alloc_heap_new w4 (.cells (v4a PK none 0 PB p4) 36)
      have hz5 : w4.heap.size < (w4.alloc (.cells (v4a PK none 0 PB p4) 36)).heap.size := by simp
      generalize w4.alloc (.cells (v4a PK none 0 PB p4) 36) = W5 at *
      have at5 := ofhE hbox5
      have hR5 := (x5.block w.heap.size (by have := x4.size; omega)).trans hR4
      have hb5 := hb4.trans (x5.mono hb4.size)
      obtain ⟨CK, hCK⟩ : ∃ x, x = chk4 PK := ⟨_, rfl⟩
      have HCK := Lib.hid hCK
      by_cases hk0 : CK = 0
      · have HE : Hid (mkE a k c r b = 0) := Lib.hid (by rw [mkE, if_pos HM.out, if_pos (by rw [← HMSE.out]; exact HC.out), if_pos (by rw [HPK.out, ← hCK]; exact hk0)])
        have HV : Hid (mkV a k c r b = PK) := Lib.hid (by rw [mkV, if_pos HE.out, HPK.out])
        have HK0 := Lib.hid hk0
        clear hk0 hCK
        go_wp2_with (first
          | ((with_reducible show wpList _ _ _ (Oper.mk _ (Op.load 36 _) _ _ _ _ :: _) _ _); refine wpList_val rfl (run_load_v4 rfl rfl at5 rfl) ?_)
          | (go_at_call 41; refine (r5check PK none 0 PB p4 _ (by omega) hpl).mono ?_; rintro e w6 ⟨rfl, x6⟩; rw [← HCK.out, HK0.out]; have at5 := at5.below x6 hz5; have hR6 := (x6.block w.heap.size (by have := x4.size; have := x5.size; omega)).trans hR5)
          | ((with_reducible show wpList _ _ _ (Oper.mk _ (Op.store _ _ _) _ _ _ _ :: _) _ _); refine v4_store (g := w.heap.size) (cs := v4a PK none 0 PB p4) rfl rfl hR6 rfl rfl (v4a_one _ _ _ _ _) ?_))
        exact bodyPost_ret (res2 rfl rfl (run_loadVar_row _ _ _ 36 (v4a PK none 0 PB p4) _ _ (setRow_heap _ _ _ _ _ _ hR6) Try.underlying36 rfl (by kernel_rfl))) rfl ⟨PB, p4, by rw [HE.out, HV.out]; rfl, by rw [HV.out, hPd]; exact ((m4.later (x5.trans (x6.mono x5.size))).row hb3 (by omega))⟩
      · have HE : Hid (mkE a k c r b = 1) := Lib.hid (by rw [mkE, if_pos HM.out, if_pos (by rw [← HMSE.out]; exact HC.out), if_neg (by rw [HPK.out, ← hCK]; exact hk0)])
        have HV : Hid (mkV a k c r b = p4z) := Lib.hid (by rw [mkV, if_neg (by rw [HE.out]; decide)])
        have dK : (CK != 0) = true := by simpa using hk0
        clear hk0 hCK
        go_wp2_with (first
          | ((with_reducible show wpList _ _ _ (Oper.mk _ (Op.load 36 _) _ _ _ _ :: _) _ _); refine wpList_val rfl (run_load_v4 rfl rfl at5 rfl) ?_)
          | (go_at_call 41; refine (r5check PK none 0 PB p4 _ (by omega) hpl).mono ?_; rintro e w6 ⟨rfl, x6⟩; rw [← HCK.out]; have hR6 := (x6.block w.heap.size (by have := x4.size; have := x5.size; omega)).trans hR5; have hb6 := hb5.trans (x6.mono hb5.size))
          | ((with_reducible show wpList _ _ _ (Oper.mk _ (Op.store _ _ _) _ _ _ _ :: _) _ _); refine v4_store (g := w.heap.size) (cs := v4a p4z none 0 none 0) rfl rfl hR6 rfl rfl (v4a_one _ _ _ _ _) ?_))
        exact bodyPost_ret (res2 rfl rfl (run_loadVar_row _ _ _ 36 (v4a p4z none 0 none 0) _ _ (setRow_heap _ _ _ _ _ _ hR6) Try.underlying36 rfl (by kernel_rfl))) rfl ⟨none, 0, by rw [HE.out, HV.out]; rfl, by rw [HV.out]; exact Made.nil _ _ (below_row hb6 (Nat.le_refl _))⟩
    · have HE : Hid (mkE a k c r b = 1) := Lib.hid (by rw [mkE, if_pos HM.out, if_neg (by rw [← hMS']; exact hC)])
      have HV : Hid (mkV a k c r b = p4z) := Lib.hid (by rw [mkV, if_neg (by rw [HE.out]; decide)])
      rw [hMS] at hC
      obtain ⟨CK, hCK⟩ : ∃ x, x = chkI (⟨k, c, r, D⟩ : PI) := ⟨_, rfl⟩
      rw [← hCK] at hC
      have HCK := Lib.hid hCK
      have HC := Lib.hid hC
      have dK : (CK != 0) = true := by simpa using hC
      clear hC hCK hMS hMS'
      go_wp2_with (first
      | ((with_reducible show wpList _ _ _ (Oper.mk _ (Op.slice _ _ _ _ _) _ _ _ _ :: _) _ _); (refine wpList_val rfl (run_cut_h rfl rfl rfl (h := min (size4 q) 548) (by omega) (by omega) (m := D.length) (by have := HN.out; have := HDL.out; omega)) ?_))
        | (go_at_call 40; refine (rIbuild ⟨k, c, r, D⟩ A cc _ B hD3 (Nat.le_trans hB hb3.size) (by have := HDL.out; show D.length ≤ _; omega)).mono ?_; rintro e w4 ⟨v4, rfl, n4, m4⟩; have n4 := n4 (by rw [← HCK.out]; exact HC.out); rw [← HCK.out]; obtain ⟨rfl, x4⟩ := n4; have hR4 := (x4.block w.heap.size (by omega)).trans hR3; have hb4 := hb3.trans (x4.mono hb3.size))
        | ((with_reducible show wpList _ _ _ (Oper.mk _ (Op.store _ _ _) _ _ _ _ :: _) _ _); refine v4_store (g := w.heap.size) (cs := v4a p4z none 0 none 0) rfl rfl hR4 rfl rfl (v4a_one _ _ _ _ _) ?_))
      exact bodyPost_ret (res2 rfl rfl (run_loadVar_row _ _ _ 36 (v4a p4z none 0 none 0) _ _ (setRow_heap _ _ _ _ _ _ hR4) Try.underlying36 rfl (by kernel_rfl))) rfl ⟨none, 0, by rw [HE.out, HV.out]; rfl, by rw [HV.out]; exact Made.nil _ _ (below_row hb4 (Nat.le_refl _))⟩
end Go.Proofs.Ytjgcpaepaocigaa

/-
  Contracts of layer 9's Parse, the program's and the document's, and of its Read. Conditions are each theorem's own.
-/
namespace Go.Proofs.Ytjgcpaepaocigaa
open Go.RowKit

section
variable (b : List UInt8) (A : Option Addr) (c : Nat) (w : World)
set_option maxRecDepth 100000 in
set_option maxHeartbeats 2000000 in
theorem cIparse (B : Nat) (hR : Arg w B A c b) (hB : B ≤ w.heap.size) (hl : b.length ≤ 1000000) :
    Calls Try.prog 20 #[.slice A b.length c] w fun e w' => ∃ P p, e = .returned (.tuple #[isv (prsI [] b) P p, .int .i64 (badI [] b)]) ∧ Made w w' (.slice P (prsI [] b).dat.length p) (prsI [] b).dat := by
  have hcap := hR.cap
  have hOR0 := OwnR.new w (isa isz none 0) 47
  by_cases h8 : b.length < 8
  · have d8 : decide ((b.length : Int) < 8) = true := by simp; omega
    have HE := Lib.hid (show badI [] b = 3 by rw [badI, if_pos h8])
    have HV := Lib.hid (show prsI [] b = isz by rw [prsI, HE.out]; rfl)
    go_enter Try.func20, Try.ntmps20
    go_upto_region 1 with fail
    have hOR : OwnR w 47 4 (w.alloc (.cells #[.int .i64 0, .int .i64 0, .int .i64 0, .slice none 0 0] 47)) := hOR0
    clear hOR0
    generalize w.alloc (.cells #[.int .i64 0, .int .i64 0, .int .i64 0, .slice none 0 0] 47) = W at *
    obtain ⟨old, hold, hgo⟩ := id hOR.2
    go_wp2_with (first | ((with_reducible show wpList _ _ _ (Oper.mk _ (Op.store 47 _ _) _ _ _ _ :: _) _ _); refine is_store (g := w.heap.size) (cs := isa isz none 0) rfl rfl hgo hold rfl (is_one _ _ _) ?_))
    exact bodyPost_ret (res2 rfl rfl (is_load_run (setRow_heap _ _ _ _ _ _ hgo) rfl)) rfl ⟨none, 0, by rw [HV.out, HE.out]; rfl, by rw [HV.out]; exact Made.nil _ _ (below_row hOR.b (by omega))⟩
  · have d8 : decide ((b.length : Int) < 8) = false := by simp; omega
    obtain ⟨b0, off, rfl, hbB, hcell⟩ := hR.rd (by omega)
    have kc0 := hcell 0 (by omega)
    have kc1 := hcell 1 (by omega)
    clear hcell
    have G4 := Lib.hid (show getV b 4 4 = n4 b 4 from get_four (b := b) (i := 4) (by omega))
    obtain ⟨X0, e0⟩ : ∃ x, x = byt b 0 := ⟨_, rfl⟩
    obtain ⟨X1, e1⟩ : ∃ x, x = byt b 1 := ⟨_, rfl⟩
    obtain ⟨X4, e4⟩ : ∃ x, x = n4 b 4 := ⟨_, rfl⟩
    obtain ⟨D, eD⟩ : ∃ l, l = b.drop 8 := ⟨_, rfl⟩
    have HDl := Lib.hid (show D.length = b.length - 8 by rw [eD]; simp)
    have hDD : Arg w B (cutA (some ⟨b0, off, none⟩) c 8) (c - 8) D := by rw [eD]; exact hR.cut_lo 8
    have HR := Lib.hid (show rawI b = ⟨X0, X1, X4, D⟩ by rw [rawI, e0, e1, e4, eD])
    have HW0 := Lib.hid (IntWalk.i64_in X0 (by have := byt_lo b 0; have := byt_hi b 0; omega))
    have HW1 := Lib.hid (IntWalk.i64_in X1 (by have := byt_lo b 1; have := byt_hi b 1; omega))
    rw [← e0] at kc0; rw [← e1] at kc1; rw [← e4] at G4
    clear e0 e1 e4 eD
    go_enter Try.func20, Try.ntmps20
    go_upto_region 1 with fail
    have hOR : OwnR w 47 4 (w.alloc (.cells #[.int .i64 0, .int .i64 0, .int .i64 0, .slice none 0 0] 47)) := hOR0
    clear hOR0
    generalize w.alloc (.cells #[.int .i64 0, .int .i64 0, .int .i64 0, .slice none 0 0] 47) = W at *
    obtain ⟨old, hold, hgo⟩ := id hOR.2
    have hzW := hOR.lt
    have hR1 := hR.below (hOR.b.mono hB)
    by_cases hM : 65535 < b.length
    · have dM : decide (65535 < (b.length : Int)) = true := by simp; omega
      have HE := Lib.hid (show badI [] b = 6 by rw [badI, if_neg h8, if_pos hM])
      have HV := Lib.hid (show prsI [] b = isz by rw [prsI, HE.out]; rfl)
      go_wp2_with (first | ((with_reducible show wpList _ _ _ (Oper.mk _ (Op.store 47 _ _) _ _ _ _ :: _) _ _); refine is_store (g := w.heap.size) (cs := isa isz none 0) rfl rfl hgo hold rfl (is_one _ _ _) ?_))
      exact bodyPost_ret (res2 rfl rfl (is_load_run (setRow_heap _ _ _ _ _ _ hgo) rfl)) rfl ⟨none, 0, by rw [HV.out, HE.out]; rfl, by rw [HV.out]; exact Made.nil _ _ (below_row hOR.b (by omega))⟩
    · have dM : decide (65535 < (b.length : Int)) = false := by simp; omega
      obtain ⟨RB, hRB⟩ : ∃ r, rightB [b] = r := ⟨_, rfl⟩
      have HN := Lib.hid hRB
      clear hRB
      cases RB
      · skip
        have HE := Lib.hid (show badI [] b = 5 by rw [badI, if_neg h8, if_neg hM, rightB_nil, HN.out]; rfl)
        have HV := Lib.hid (show prsI [] b = isz by rw [prsI, HE.out]; rfl)
        go_wp2_with (first | ((with_reducible show wpList _ _ _ (Oper.mk _ (Op.store 47 _ _) _ _ _ _ :: _) _ _); refine is_store (g := w.heap.size) (cs := isa isz none 0) rfl rfl hgo2 hold2 rfl (is_one _ _ _) ?_) | (go_at_call 49; refine (right_one (some ⟨W.heap.size, 0, none⟩) b 1 (W.heap.size + 1) _ (Rd2.one (World.alloc_heap_new W _) (Nat.lt_succ_self _) ((hR1.alloc (by omega) _).more (by omega))) (by simp) (by omega)).mono ?_; rintro e wq ⟨rfl, xq⟩; rw [HN.out]; have hOq := (hOR.alloc (.cells #[.slice (some ⟨b0, off, none⟩) b.length c] 34)).step xq; obtain ⟨old2, hold2, hgo2⟩ := id hOq.2))
        exact bodyPost_ret (res2 rfl rfl (is_load_run (setRow_heap _ _ _ _ _ _ hgo2) rfl)) rfl ⟨none, 0, by rw [HV.out, HE.out]; rfl, by rw [HV.out]; exact Made.nil _ _ (below_row hOq.b (by omega))⟩
      · have HE := Lib.hid (show badI [] b = 0 by rw [badI, if_neg h8, if_neg hM, rightB_nil, HN.out]; rfl)
        have HV := Lib.hid (show prsI [] b = ⟨X0, X1, X4, D⟩ by rw [prsI, if_pos HE.out, HR.out])
        go_upto_region 8 with (first
          | (go_at_call 49; refine (right_one (some ⟨W.heap.size, 0, none⟩) b 1 (W.heap.size + 1) _ (Rd2.one (World.alloc_heap_new W _) (Nat.lt_succ_self _) ((hR1.alloc (by omega) _).more (by omega))) (by simp) (by omega)).mono ?_; rintro e wq ⟨rfl, xq⟩; rw [HN.out]; have hOq := (hOR.alloc (.cells #[.slice (some ⟨b0, off, none⟩) b.length c] 34)).step xq; obtain ⟨old2, hold2, hgo2⟩ := id hOq.2)
          | (go_at_call 50; refine (get_any (some ⟨b0, off, none⟩) b c B 4 4 _ (hR.below (hOq.b.mono hB)).rd (by omega) hcap).mono ?_; rintro e w' ⟨rfl, rfl⟩; rw [show getV b 4 4 = X4 from G4.out]))
        have kc0 := kc0; have kc1 := kc1
        refine wp_region_held_drew (S := OwnR w 47 4) (by kernel_rfl) hOq.drew (fun hS => ?_)
        refine held_pure (i := 0) (oi := ⟨some 27, _, _, _, _, _⟩) rfl (by kernel_rfl) (by kernel_rfl) (by kernel_rfl) (fun _ _ _ h => h) (by rfl) (v := ?_) (fun w hSw => ?_) hS (fun hS => ?_)
        rotate_left
        · go_simp; try with_reducible rfl
        try go_frame
        refine held_pure (i := 1) (oi := ⟨some 28, _, _, _, _, _⟩) rfl (by kernel_rfl) (by kernel_rfl) (by kernel_rfl) (fun _ _ _ h => h) (by rfl) (v := Value.pointer (some ⟨b0, off, none⟩)) (fun w hSw => by go_simp; (intro hx; exfalso; first | omega | (subst hx; simp at *))) hS (fun hS => ?_)
        try go_frame
        refine held_pure (i := 2) (oi := ⟨some 29, _, _, _, _, _⟩) rfl (by kernel_rfl) (by kernel_rfl) (by kernel_rfl) (fun _ _ _ h => h) (by rfl) (fun w hSw => run_load_byte rfl rfl ((hSw.b.cell (Nat.lt_of_lt_of_le hbB hB)).trans kc0)) hS (fun hS => ?_)
        try go_frame
        refine held_pure (i := 3) (oi := ⟨some 30, _, _, _, _, _⟩) rfl (by kernel_rfl) (by kernel_rfl) (by kernel_rfl) (fun _ _ _ h => h) (by rfl) (v := .int .i64 X0) (fun w hSw => by go_simp; exact HW0.out) hS (fun hS => ?_)
        try go_frame
        refine held_pure (i := 4) (oi := ⟨some 31, _, _, _, _, _⟩) rfl (by kernel_rfl) (by kernel_rfl) (by kernel_rfl) (fun _ _ _ h => h) (by rfl) (v := ?_) (fun w hSw => ?_) hS (fun hS => ?_)
        rotate_left
        · go_simp; try with_reducible rfl
        try go_frame
        refine held_pure (i := 5) (oi := ⟨some 32, _, _, _, _, _⟩) rfl (by kernel_rfl) (by kernel_rfl) (by kernel_rfl) (fun _ _ _ h => h) (by rfl) (v := Value.pointer (some ⟨b0, off + 1, none⟩)) (fun w hSw => by go_simp; exact fun hx => absurd hx (by omega)) hS (fun hS => ?_)
        try go_frame
        refine held_pure (i := 6) (oi := ⟨some 33, _, _, _, _, _⟩) rfl (by kernel_rfl) (by kernel_rfl) (by kernel_rfl) (fun _ _ _ h => h) (by rfl) (fun w hSw => run_load_byte rfl rfl ((hSw.b.cell (Nat.lt_of_lt_of_le hbB hB)).trans kc1)) hS (fun hS => ?_)
        try go_frame
        refine held_pure (i := 7) (oi := ⟨some 34, _, _, _, _, _⟩) rfl (by kernel_rfl) (by kernel_rfl) (by kernel_rfl) (fun _ _ _ h => h) (by rfl) (v := .int .i64 X1) (fun w hSw => by go_simp; exact HW1.out) hS (fun hS => ?_)
        try go_frame
        refine held_pure (i := 8) (oi := ⟨some 35, _, _, _, _, _⟩) rfl (by kernel_rfl) (by kernel_rfl) (by kernel_rfl) (fun _ _ _ h => h) (by rfl) (v := ?_) (fun w hSw => ?_) hS (fun hS => ?_)
        rotate_left
        · go_simp; try with_reducible rfl
        try go_frame
        refine held_pure (i := 9) (oi := ⟨some 36, _, _, _, _, _⟩) rfl (by kernel_rfl) (by kernel_rfl) (by kernel_rfl) (fun _ _ _ h => h) (by rfl) (v := ?_) (fun w hSw => ?_) hS (fun hS => ?_)
        rotate_left
        · go_simp; try with_reducible rfl
        try go_frame
        refine held_pure (i := 10) (oi := ⟨some 37, _, _, _, _, _⟩) rfl (by kernel_rfl) (by kernel_rfl) (by kernel_rfl) (fun _ _ _ h => h) (by rfl) (fun w hSw => run_cut_l rfl rfl (l := 8) rfl (by omega) (m := D.length) (by have := HDl.out; omega)) hS (fun hS => ?_)
        try go_frame
        refine wpAnyH_ready (rs := [11]) (by kernel_rfl) (by simp) (AllReadyH.cons (o := ⟨some 38, _, _, _, _, _⟩) rfl (fun K hK => ?_) AllReadyH.nil)
        rw [if_pos (by rfl)]
        go_simp
        refine (freshI_any (cutA (some ⟨b0, off, none⟩) c 8) D (c - 8) B _ (hDD.below (hS.b.mono hB)) (by have := HDl.out; omega)).mono ?_
        rintro e y5 ⟨v5, rfl, m5⟩
        obtain ⟨P5, p5, rfl, g5, owm5, x5⟩ := made_shape m5
        have owm5 := own_base owm5 hS.lt
        show K _ _
        refine hK.out _ _ (hS.step x5) (fun hS => ?_)
        clear hK K
        try go_frame
        refine held_pure (i := 12) (oi := ⟨some 39, _, _, _, _, _⟩) rfl (by kernel_rfl) (by kernel_rfl) (by kernel_rfl) (fun _ _ _ h => h) (by rfl) (v := ?_) (fun w hSw => ?_) hS (fun hS => ?_)
        rotate_left
        · go_simp; try with_reducible rfl
        try go_frame
        refine wpAnyH_ready (rs := [13]) (by kernel_rfl) (by simp) (AllReadyH.cons (o := ⟨none, _, _, _, _, _⟩) rfl (fun K hK => ?_) AllReadyH.nil)
        rw [if_pos (by rfl)]
        obtain ⟨old, hold, hgo⟩ := hS.2
        have hrow := hS.row (isa ⟨X0, X1, X4, D⟩ P5 p5) rfl
        refine wp_store_row 47 _ _ rfl w.heap.size (isa ⟨X0, X1, X4, D⟩ P5 p5) rfl rfl 47 old hgo (by kernel_rfl) hold (is_one _ _ _) ?_
        have hgz := setRow_heap _ _ _ (isa ⟨X0, X1, X4, D⟩ P5 p5) _ _ hgo
        refine hK.out _ _ hrow (fun hS => ?_)
        clear hK K
        try go_frame
        refine held_pure (i := 14) (oi := ⟨some 3, _, _, _, _, _⟩) rfl (by kernel_rfl) (by kernel_rfl) (by kernel_rfl) (fun _ _ _ h => h) (by rfl) (v := ?_) (fun w hSw => ?_) hS (fun hS => ?_)
        rotate_left
        · go_simp; try with_reducible rfl
        try go_frame
        refine wpAnyH_done (by kernel_rfl) ?_ _
        go_wp2_with fail
        have oz5 := own_setRow owm5 (g := w.heap.size) (cs := isa ⟨X0, X1, X4, D⟩ P5 p5) (by omega)
        exact bodyPost_ret (res2 rfl rfl (is_load_run hgz rfl)) rfl ⟨P5, p5, by rw [HV.out, HE.out]; rfl, by rw [HV.out]; exact Made.of_own (own_base oz5 (by omega)) hS.b⟩
end
end Go.Proofs.Ytjgcpaepaocigaa

/-
  What layer 28's laws call, and what is told in answer to what tells of a fault. Conditions are each theorem's own.
-/
namespace Go.Proofs.Ytjgcpaepaocigaa
open Go.RowKit
def dgE (s d f t ttl : Int) (b : List UInt8) : P4 := ⟨0, 0, 0, ttl, 17, s, d, false, false, [], bldU s d ⟨f, t, false, b⟩⟩
theorem quoted_ofE {b : List UInt8} (h : prsE b false = 0) : prsE b true = 0 ∧ prsV b true = prsV b false := by
  have hb : bad4 b false = 0 := by
    unfold prsE at h
    split at h
    · assumption
    · exact h
  have hb2 : bad4 b true = 0 := by
    unfold bad4 at hb ⊢
    split at hb
    · cases hb
    · rename_i g0
      rw [if_neg g0]
      split at hb
      · cases hb
      · rename_i g1
        rw [if_neg g1]
        split at hb
        · cases hb
        · rename_i g2
          rw [if_neg (by rintro (g | ⟨g, _⟩); exact g2 (.inl g); cases g)]
          split at hb
          · cases hb
          · rename_i g3
            rw [if_neg g3, if_neg (by rintro ⟨g, _⟩; cases g)]
  have he : prsE b true = 0 := by
    unfold prsE
    rw [if_pos hb2, if_neg (by rintro ⟨g, _⟩; cases g)]
  exact ⟨he, by rw [prsV, prsV, if_pos he, if_pos h]⟩
set_option maxRecDepth 100000 in
set_option maxHeartbeats 2000000 in
theorem plain_dgE (s d f t ttl : Int) (b : List UInt8) (A : Option Addr) (c : Nat) (w : World) (B : Nat) (hD : Arg w B A c b) (hB0 : B ≤ w.heap.size) (hl : b.length ≤ 900000) (hu : chkU ⟨f, t, false, b⟩ = 0) (h4 : chk4 (dgE s d f t ttl b) = 0) :
    Calls Try.prog 35 #[.int .i64 s, .int .i64 d, .int .i64 f, .int .i64 t, .int .i64 ttl, .slice A b.length c] w fun e w' => ∃ P p, e = .returned (.slice P (bld4 (dgE s d f t ttl b)).length p) ∧ Made w w' (.slice P (bld4 (dgE s d f t ttl b)).length p) (bld4 (dgE s d f t ttl b)) := by
  have HU := Lib.hid hu
  have H4 := Lib.hid h4
  obtain ⟨D, hDD⟩ : ∃ l, l = bldU s d ⟨f, t, false, b⟩ := ⟨_, rfl⟩
  have hDl : D.length = 8 + b.length := by rw [hDD, bldU_len]
  have HP := Lib.hid (show dgE s d f t ttl b = ⟨0, 0, 0, ttl, 17, s, d, false, false, [], D⟩ by rw [dgE, hDD])
  have HD := Lib.hid hDD
  obtain ⟨R, hR⟩ : ∃ l, l = bld4 (dgE s d f t ttl b) := ⟨_, rfl⟩
  have HR := Lib.hid hR
  rw [← hR]
  have hDL := Lib.hid hDl
  clear hu h4 hDD hR hDl
  go_enter Try.func35, Try.ntmps35
  go_wp2_with (first
    | (go_at_call 58; refine (rUbuild ⟨f, t, false, b⟩ A c s d w B hD hB0 (by show b.length ≤ _; omega)).mono ?_; rintro e w1 ⟨v1, rfl, _, m1⟩; have m1 := m1 HU.out; rw [← HD.out] at m1; obtain ⟨P, p, rfl, g1, o1, y1⟩ := made_shape m1; have x1 := m1.below)
    | (go_at_call 59; refine (r5build ⟨0, 0, 0, ttl, 17, s, d, false, false, [], D⟩ none 0 P p w1 w1.heap.size (Arg.nil _ _) g1 (Nat.le_refl _) (by simp) (by have := hDL.out; show D.length ≤ _; omega)).mono ?_; rintro e w2 ⟨v2, rfl, _, m2⟩; have m2 := m2 (by have h := H4.out; rwa [HP.out] at h); rw [← HP.out, ← HR.out] at m2; obtain ⟨P2, p2, rfl, g2, o2, y2⟩ := made_shape m2))
  go_ret
  exact ⟨P2, p2, rfl, m2.after x1⟩
theorem back_quo {q : P4} (h : chk4 q = 0) : prsE (bld4 q) true = 0 ∧ prsV (bld4 q) true = q := by
  have hk := back_ok (more := []) h
  rw [List.append_nil] at hk
  obtain ⟨h1, h2⟩ := quoted_ofE hk.1
  exact ⟨h1, h2.trans hk.2⟩
theorem typ_first {m : PI} (h : chkI m = 0) : byt (bldI [] m) 0 = m.typ := by
  obtain ⟨⟨a1, a2, _⟩, _⟩ := chkI_ok h
  have e : byt (bldI [] m) 0 = m.typ % 256 := u8_val m.typ
  omega
theorem may_parts {b : List UInt8} (h : mayE b = true) : prsE b true = 0 ∧ (prsV b true).off = 0 ∧ hostB (prsV b true).src = true ∧ hostB (prsV b true).dst = true := by
  unfold mayE okE at h
  simp only [Bool.and_eq_true, beq_iff_eq] at h
  exact ⟨h.1.1.1.1, h.1.1.1.2, h.1.1.2, h.1.2⟩
theorem once_may {a k c r : Int} {b : List UInt8} (h : mkE a k c r b = 0) (hf : fltI k = true) : chk4 (mkV a k c r b) = 0 ∧ mayE (bld4 (mkV a k c r b)) = false := by
  obtain ⟨h1, h2, h3⟩ := mkE_may h
  have hv : mkV a k c r b = pkE a b (msE k c r b) := by rw [mkV, if_pos h]
  rw [hv]
  refine ⟨h3, ?_⟩
  obtain ⟨e1, e2⟩ := back_quo h3
  have ht : tnE (pkE a b (msE k c r b)).dat = false := by
    show tnE (bldI [] (msE k c r b)) = false
    rw [tnE, typ_first h2]
    show (_ && !fltI k) = false
    rw [hf]; simp
  unfold mayE okE
  rw [e2, ht]
  have : ((pkE a b (msE k c r b)).proto != 1) = false := rfl
  rw [this]
  simp
theorem may_mk {a k c : Int} {b : List UInt8} (h : mayE b = true) (a0 : 0 ≤ a) (a1 : a < 4294967296) (k0 : 0 ≤ k) (k1 : k ≤ 255) (c0 : 0 ≤ c) (c1 : c ≤ 255) : mkE a k c 0 b = 0 := by
  obtain ⟨_, _, hs, _⟩ := may_parts h
  have hn : (b.take (nE b)).length ≤ 548 := by rw [List.length_take]; unfold nE; omega
  have hI : chkI (msE k c 0 b) = 0 := by
    rw [chkI, if_pos ⟨k0, k1, c0, c1, Int.le_refl _, (by show (0 : Int) < 4294967296; decide)⟩, if_neg (by show ¬ (b.take (nE b)).length > 65527; omega)]
  unfold hostB at hs
  rw [decide_eq_true_eq] at hs
  have hl : (bldI [] (msE k c 0 b)).length ≤ 556 := by rw [bldI_len]; show 8 + (b.take (nE b)).length ≤ _; omega
  have h4 : chk4 (pkE a b (msE k c 0 b)) = 0 := by
    have h0 : arg4 (pkE a b (msE k c 0 b)) := ⟨Int.le_refl _, (by show (0 : Int) ≤ 255; decide), (by show (0 : Int) ≤ 64; decide), (by show (64 : Int) ≤ 255; decide), (by show (0 : Int) ≤ 1; decide), (by show (1 : Int) ≤ 255; decide), Int.le_refl _, (by show (0 : Int) ≤ 65535; decide), a0, a1, (by show 0 ≤ (prsV b true).src; omega), (by show (prsV b true).src < _; omega), Int.le_refl _, (by show (0 : Int) ≤ 65528; decide), (by show (0 : Int) % 8 = 0; decide), (by show 0 ≤ 40; decide), (by show 0 % 4 = 0; decide), fun h => by cases h⟩
    rw [chk4, if_pos h0, if_neg]
    rintro (g | g)
    · have : size4 (pkE a b (msE k c 0 b)) = 20 + ((bldI [] (msE k c 0 b)).length : Int) := rfl
      omega
    · have e1 : (pkE a b (msE k c 0 b)).off = 0 := rfl
      have e2 : (pkE a b (msE k c 0 b)).dat = bldI [] (msE k c 0 b) := rfl
      rw [e1, e2] at g
      omega
  rw [mkE, if_pos h, if_pos hI, if_pos h4]
theorem mk_not {a k c r : Int} {b : List UInt8} (h : mayE b = false) : mkE a k c r b = 11 := by rw [mkE, if_neg (by rw [h]; simp)]
/-- What is told: how long, whose, what is quoted. -/
theorem quote_facts {a k c r : Int} {b : List UInt8} (h : mkE a k c r b = 0) :
    badI [] (mkV a k c r b).dat = 0 ∧ prsI [] (mkV a k c r b).dat = msE k c r b ∧ prsE b true = 0 ∧ (mkV a k c r b).dst = (prsV b true).src ∧ (mkV a k c r b).src = a ∧ (b.take (nE b)).length = nE b ∧ nE b ≤ 548 ∧ min 28 (size4 (prsV b true)) ≤ ((nE b : Nat) : Int) ∧ nE b ≤ b.length ∧ size4 (mkV a k c r b) ≤ 576 ∧ (mkV a k c r b).dat.length ≤ 1000 ∧ (mkV a k c r b).opt.length = 0 := by
  obtain ⟨h1, h2, h3⟩ := mkE_may h
  have hv : mkV a k c r b = pkE a b (msE k c r b) := by rw [mkV, if_pos h]
  obtain ⟨n0, n1, _, _⟩ := raw_len (may_ok h1)
  have hn := nE_le h1
  have hbk := backI (p := []) h2
  have hn5 : nE b ≤ 548 := by unfold nE; omega
  have hm : min 28 (size4 (prsV b true)) ≤ ((nE b : Nat) : Int) := by unfold nE; omega
  have ht : (b.take (nE b)).length = nE b := by rw [List.length_take]; omega
  have hd : (bldI [] (msE k c r b)).length = 8 + nE b := by rw [bldI_len]; show 8 + (b.take (nE b)).length = _; omega
  rw [hv]
  have hs : size4 (pkE a b (msE k c r b)) = 20 + ((bldI [] (msE k c r b)).length : Int) := rfl
  exact ⟨hbk.1, hbk.2, may_ok h1, rfl, rfl, ht, hn5, hm, hn, by rw [hs, hd]; omega, by show (bldI [] (msE k c r b)).length ≤ _; omega, rfl⟩
set_option maxRecDepth 100000 in
set_option maxHeartbeats 1000000 in
theorem chasprefix (b d : List UInt8) (A A' : Option Addr) (c c' B B' n : Nat) (w : World) (hA : Arg w B A c b) (hA' : Arg w B' A' c' d) (hd : d = b.take n) (hn : n ≤ b.length) :
    Calls Try.prog 24 #[.slice A b.length c, .slice A' d.length c'] w fun e w' => e = .returned (.bool true) ∧ w = w' := by
  have hl : d.length = n := by rw [hd, List.length_take]; omega
  have hle : decide ((d.length : Int) ≤ (b.length : Int)) = true := by simp; omega
  have hcut := hA.cut_hi n hn
  rw [← hd] at hcut
  have HC := Lib.hid hcut.rd
  have HC' := Lib.hid hA'.rd
  have hcap := hA.cap
  have hdb : d.length ≤ b.length := by omega
  clear hd hl hn hcut hA hA'
  go_enter Try.func24, Try.ntmps24
  go_wp2_with (first
    | ((with_reducible show wpList _ _ _ (Oper.mk _ (Op.slice _ _ _ _ _) _ _ _ _ :: _) _ _); (refine wpList_valw (by rfl) (run_cut_h rfl rfl rfl (h := (d.length : Int)) (by omega) (by omega) (m := d.length) (by omega)) ?_))
    | (go_at_call 54; refine (equal_any A A' d d c c' B B' _ HC.out HC'.out).mono ?_; rintro e w1 ⟨rfl, rfl⟩; rw [decide_eq_true rfl]))
  go_ret
  exact ⟨rfl, rfl⟩
theorem u8_bdE {a : Int} (h : (Lit.int .u8 a).wf = true) : 0 ≤ a ∧ a ≤ 255 := by
  have := h
  simp [Lit.wf] at this
  have e1 : IntKind.u8.min = 0 := by decide
  have e2 : IntKind.u8.max = 255 := by decide
  omega
theorem u32_bdE {a : Int} (h : (Lit.int .u32 a).wf = true) : 0 ≤ a ∧ a < 4294967296 := by
  have := h
  simp [Lit.wf] at this
  have e1 : IntKind.u32.min = 0 := by decide
  have e2 : IntKind.u32.max = 4294967295 := by decide
  omega
/-! ### The small example -/
def exE : List UInt8 := bld4 (dgE 167772161 3221225985 5 6 1 [])
theorem ex_uchk : chkU ⟨5, 6, false, []⟩ = 0 := by decide
theorem ex_len : exE.length = 28 := by rw [exE, bld4_len]; show 20 + 0 + (bldU _ _ _).length = 28; rw [bldU_len]; rfl
theorem ex_chk : chk4 (dgE 167772161 3221225985 5 6 1 []) = 0 := by
  have hl : (dgE 167772161 3221225985 5 6 1 []).dat.length = 8 := by show (bldU _ _ _).length = _; rw [bldU_len]; rfl
  have h0 : arg4 (dgE 167772161 3221225985 5 6 1 []) := by
    refine ⟨?_, ?_, ?_, ?_, ?_, ?_, ?_, ?_, ?_, ?_, ?_, ?_, ?_, ?_, ?_, ?_, ?_, fun h => by cases h⟩ <;> simp [dgE]
  rw [chk4, if_pos h0, if_neg]
  rintro (g | g)
  · have : size4 (dgE 167772161 3221225985 5 6 1 []) = 20 + ((dgE 167772161 3221225985 5 6 1 []).dat.length : Int) := rfl
    omega
  · have : (dgE 167772161 3221225985 5 6 1 []).off = 0 := rfl
    omega
theorem ex_may : mayE exE = true := by
  obtain ⟨e1, e2⟩ := back_quo ex_chk
  unfold mayE exE okE
  rw [e1, e2]
  have h1 : hostB (dgE 167772161 3221225985 5 6 1 []).src = true := by show hostB 167772161 = true; decide
  have h2 : hostB (dgE 167772161 3221225985 5 6 1 []).dst = true := by show hostB 3221225985 = true; decide
  have h3 : ((dgE 167772161 3221225985 5 6 1 []).off == 0) = true := rfl
  have h4 : ((dgE 167772161 3221225985 5 6 1 []).proto != 1) = true := rfl
  rw [h1, h2, h3, h4]
  rfl
theorem ex_mk : mkE 3221225473 11 0 0 exE = 0 := may_mk ex_may (by decide) (by decide) (by decide) (by decide) (by decide) (by decide)
theorem ex_dst : (mkV 3221225473 11 0 0 exE).dst = 167772161 := by
  rw [(quote_facts ex_mk).2.2.2.1]
  have := (back_quo ex_chk).2
  unfold exE
  rw [this]; rfl
theorem ex_dat : (mkV 3221225473 11 0 0 exE).dat.length = 36 := by
  obtain ⟨h1, h2, h3⟩ := mkE_may ex_mk
  have hv : mkV 3221225473 11 0 0 exE = pkE 3221225473 exE (msE 11 0 0 exE) := by rw [mkV, if_pos ex_mk]
  have hn : nE exE = 28 := by
    unfold nE
    have := (back_quo ex_chk).2
    unfold exE
    rw [this]
    have hl : (dgE 167772161 3221225985 5 6 1 []).dat.length = 8 := by show (bldU _ _ _).length = _; rw [bldU_len]; rfl
    have : size4 (dgE 167772161 3221225985 5 6 1 []) = 20 + ((dgE 167772161 3221225985 5 6 1 []).dat.length : Int) := rfl
    rw [this, hl]; rfl
  rw [hv]
  show (bldI [] (msE 11 0 0 exE)).length = 36
  rw [bldI_len]
  show 8 + (exE.take (nE exE)).length = 36
  rw [hn, List.length_take, ex_len]
  rfl
set_option maxRecDepth 100000 in
set_option maxHeartbeats 8000000 in
theorem awake28 (w : World) : Calls Try.prog 12 #[] w fun e w' => e = .returned (.bool true) ∧ Below w.heap.size w w' := by
  have PD := plain_dgE 167772161 3221225985 5 6 1 [] none 0 w 0 (Arg.nil _ _) (Nat.zero_le _) (by simp) ex_uchk ex_chk
  rw [show bld4 (dgE 167772161 3221225985 5 6 1 []) = exE from rfl] at PD
  have PD := Lib.hid PD
  have LB := Lib.hid ex_len
  have MY := Lib.hid ex_may
  have ME := Lib.hid ex_mk
  have hd := ex_dst
  have hl := ex_dat
  obtain ⟨B0, hB0⟩ : ∃ l, l = exE := ⟨_, rfl⟩
  rw [← hB0] at PD LB MY ME hd hl
  obtain ⟨q, hq⟩ : ∃ l, l = mkV 3221225473 11 0 0 B0 := ⟨_, rfl⟩
  rw [← hq] at hd hl
  have HQ := Lib.hid hq
  have HD := Lib.hid hd
  have HL := Lib.hid hl
  clear hB0 hq hd hl
  go_enter Try.func12, Try.ntmps12
  go_upto_region 3 with (first
    | (go_at_call 35; refine PD.out.mono ?_; rintro e w1 ⟨Pa, pa, rfl, m1⟩; obtain ⟨_, _, e1, g1, _, x1⟩ := made_shape m1; cases e1)
    | (go_at_call 13; refine (cEmake 3221225473 11 0 0 B0 Pa pa w1.heap.size w1 g1 (Nat.le_refl _) (by rw [LB.out]; omega)).mono ?_; rintro e w2 ⟨Pb, pb, rfl, m2⟩; rw [← HQ.out] at m2; rw [← HQ.out, ME.out])
    | ((with_reducible show wpList _ _ _ (Oper.mk _ (Op.store 36 _ _) _ _ _ _ :: _) _ _); refine v4_store_new (cs := v4a q none 0 Pb pb) rfl rfl rfl rfl (v4a_one _ _ _ _ _) ?_))
  have x2 := m2.below
  have x3 : Below w1.heap.size w1 (w2.alloc (.cells (v4a q none 0 Pb pb) 36)) := x2.alloc x2.size _
  have hbox := World.alloc_heap_new w2 (.cells (v4a q none 0 Pb pb) 36)
  have hz := heap_lt hbox
  generalize w2.alloc (.cells (v4a q none 0 Pb pb) 36) = W at *
  have g3 := g1.below x3
  have hb := x1.trans (x3.mono x1.size)
  have hs1 := x3.size
  have HB1 := Lib.hid LB.out
  have e28 : (8 + (B0.length : Int)) = 36 := by rw [LB.out]; rfl
  go_wp2_with (first
    | (go_at_call 15; refine (cEmay B0 Pa pa w1.heap.size _ g3 hs1 (by rw [LB.out]; omega)).mono ?_; rintro e w4 ⟨rfl, x4⟩; rw [MY.out]; have hb4 := hb.trans (x4.mono hb.size); have at5 := ofhE ((x4.block _ hz).trans hbox); have k5 := at5.dst; have k6 := at5.dat; rw [HD.out] at k5; rw [HL.out] at k6)
    | (go_at_call 22; refine (cEmost _).mono ?_; rintro e w5 ⟨rfl, rfl⟩))
  go_ret
  exact ⟨rfl, hb4⟩
end Go.Proofs.Ytjgcpaepaocigaa
