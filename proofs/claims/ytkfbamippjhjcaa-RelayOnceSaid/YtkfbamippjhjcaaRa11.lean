/-
  Contracts and lemmas on which the proofs of this seat stand (several texts in one). Conditions are each theorem's own.
-/
import Derived.Test.YtkfbamippjhjcaaRa10
import Derived.Test.YtkfbamippjhjcaaRa5
import Derived.Test.YtkfbamippjhjcaaRa6
import Derived.Test.YtkfbamippjhjcaaRa3
import Derived.Test.YtkfbamippjhjcaaRa8
import Derived.Test.YtkfbamippjhjcaaRa4
import Derived.Deep.Cut
import Derived.Deep.CutRange
import Derived.Test.YtkfbamippjhjcaaRa7

/-
  Contracts of layer 28: what is told, of the code and of the document. Conditions are each theorem's own.
-/
namespace Go.Proofs.Ytkfbamippjhjcaa
open Go.RowKit
theorem cEmost (w : World) : Calls Try.prog 63 #[] w fun e w' => e = .returned (.int .i64 548) ∧ w = w' := by
  go_enter Try.func63, Try.ntmps63
  go_wp2_with fail
  go_ret
  exact ⟨rfl, rfl⟩
set_option maxRecDepth 100000 in
set_option maxHeartbeats 4000000 in
theorem cEmake (a k c r : Int) (b : List UInt8) (A : Option Addr) (cc B : Nat) (w : World) (hA : Arg w B A cc b) (hB : B ≤ w.heap.size) (hl : b.length ≤ 900000) :
    Calls Try.prog 41 #[.int .i64 a, .int .i64 k, .int .i64 c, .int .i64 r, .slice A b.length cc] w fun e w' => ∃ P' p', e = .returned (.tuple #[v4v (mkV a k c r b) none 0 P' p', .int .i64 (mkE a k c r b)]) ∧ Made w w' (.slice P' (mkV a k c r b).dat.length p') (mkV a k c r b).dat := by
  have hcap := hA.cap
  have hR0 := World.alloc_heap_new w (.cells #[.int .i64 0, .int .i64 0, .int .i64 0, .int .i64 0, .int .i64 0, .int .i64 0, .int .i64 0, .bool false, .bool false, .slice none 0 0, .slice none 0 0] 28)
  have hb0 : Below w.heap.size w (w.alloc (.cells #[.int .i64 0, .int .i64 0, .int .i64 0, .int .i64 0, .int .i64 0, .int .i64 0, .int .i64 0, .bool false, .bool false, .slice none 0 0, .slice none 0 0] 28)) := (Below.refl w.heap.size w).alloc (Nat.le_refl _) _
  have hz0 : w.heap.size < (w.alloc (.cells #[.int .i64 0, .int .i64 0, .int .i64 0, .int .i64 0, .int .i64 0, .int .i64 0, .int .i64 0, .bool false, .bool false, .slice none 0 0, .slice none 0 0] 28)).heap.size := by simp
  go_enter Try.func41, Try.ntmps41
  go_upto_region 1 with fail
  generalize w.alloc (.cells #[.int .i64 0, .int .i64 0, .int .i64 0, .int .i64 0, .int .i64 0, .int .i64 0, .int .i64 0, .bool false, .bool false, .slice none 0 0, .slice none 0 0] 28) = W at *
  have hA0 := hA.below (hb0.mono hB)
  clear hA
  cases hM : mayE b
  · have HM := Lib.hid hM
    have HE : Hid (mkE a k c r b = 11) := Lib.hid (by rw [mkE, if_neg (by rw [hM]; simp)])
    have HV : Hid (mkV a k c r b = p4z) := Lib.hid (by rw [mkV, if_neg (by rw [HE.out]; decide)])
    clear hM
    go_wp2_with (first
      | (go_at_call 61; refine (cEmay b A cc B W hA0 (Nat.le_trans hB hb0.size) (by omega)).mono ?_; rintro e w1 ⟨rfl, x1⟩; rw [HM.out]; have hR1 := (x1.block w.heap.size hz0).trans hR0; have hb1 := hb0.trans (x1.mono hb0.size))
      | ((with_reducible show wpList _ _ _ (Oper.mk _ (Op.store _ _ _) _ _ _ _ :: _) _ _); refine v4_store (g := w.heap.size) (cs := v4a p4z none 0 none 0) rfl rfl hR1 rfl rfl (v4a_one _ _ _ _ _) ?_))
    exact bodyPost_ret (res2 rfl rfl (run_loadVar_row _ _ _ 28 (v4a p4z none 0 none 0) _ _ (setRow_heap _ _ _ _ _ _ hR1) Try.underlying28 rfl (by kernel_rfl))) rfl ⟨none, 0, by rw [HE.out, HV.out]; rfl, by rw [HV.out]; exact Made.nil _ _ (below_row hb1 (Nat.le_refl _))⟩
  · have HM := Lib.hid hM
    have hE0 := may_ok hM
    obtain ⟨n0, n1, n2, n3⟩ := raw_len hE0
    have hnE := nE_le hM
    have hN : ((nE b : Nat) : Int) = min (size4 (prsV b true)) 548 := by unfold nE; omega
    obtain ⟨N, hNe⟩ : ∃ x, x = nE b := ⟨_, rfl⟩
    obtain ⟨D, hD⟩ : ∃ x, x = b.take (nE b) := ⟨_, rfl⟩
    have hDl : D.length = N := by rw [hD, hNe, List.length_take]; omega
    have hAD := hA0.cut_hi N (by omega)
    rw [hNe, ← hD] at hAD
    obtain ⟨q, hq⟩ : ∃ x, x = prsV b true := ⟨_, rfl⟩
    obtain ⟨MS, hMS⟩ : ∃ x : PI, x = ⟨k, c, r, D⟩ := ⟨_, rfl⟩
    have hMS' : MS = msE k c r b := by rw [hMS, msE, hD]
    rw [← hNe, ← hq] at hN
    have HN := Lib.hid hN
    have HQ := Lib.hid hq
    have HDL := Lib.hid hDl
    have hNb : N ≤ b.length := by omega
    have hN5 : N ≤ 548 := by omega
    rw [← hq] at n0 n1 n2 n3
    go_upto_region 2 with (go_at_call 61; refine (cEmay b A cc B W hA0 (Nat.le_trans hB hb0.size) (by omega)).mono ?_; rintro e w1 ⟨rfl, x1⟩; rw [HM.out])
    have hR1 := (x1.block w.heap.size hz0).trans hR0
    have hb1 := hb0.trans (x1.mono hb0.size)
    have hz1 := Nat.lt_of_lt_of_le hz0 x1.size
    have hA1 := hA0.below (x1.mono (Nat.le_trans hB hb0.size))
    have hD1 := hAD.below (x1.mono (Nat.le_trans hB hb0.size))
    have hE00 := Lib.hid hE0
    clear hM hE0 hnE hNe hDl hA0 hAD hq hN hD
    go_upto_region 4 with (first
      | (go_at_call 37; refine (c4quoted b A cc w1 B hA1 (Nat.le_trans hB hb1.size) (by omega)).mono ?_; rintro e w2 ⟨P, p, P', p', rfl, mo, md⟩; rw [← HQ.out, hE00.out])
      | ((with_reducible show wpList _ _ _ (Oper.mk _ (Op.store _ _ _) _ _ _ _ :: _) _ _); refine v4_store_new (cs := v4a q P p P' p') rfl rfl rfl rfl (v4a_one _ _ _ _ _) ?_))
    have hbox := World.alloc_heap_new w2 (.cells (v4a q P p P' p') 28)
    have x2 : Below w1.heap.size w1 (w2.alloc (.cells (v4a q P p P' p') 28)) := mo.below.alloc mo.below.size _
    have hz2 : w2.heap.size < (w2.alloc (.cells (v4a q P p P' p') 28)).heap.size := by simp
    have hg2 : w1.heap.size ≤ w2.heap.size := mo.below.size
    generalize w2.alloc (.cells (v4a q P p P' p') 28) = W2 at *
    have hR2 := (x2.block w.heap.size hz1).trans hR1
    have hb2 := hb1.trans (x2.mono hb1.size)
    have hD2 := hD1.below (x2.mono (Nat.le_trans hB hb1.size))
    have at2 := ofhE hbox
    clear mo md hA1 hD1 hR1 hR0
    go_upto_region 5 with (first
      | ((with_reducible show wpList _ _ _ (Oper.mk _ (Op.load 28 _) _ _ _ _ :: _) _ _); refine wpList_val rfl (run_load_v4 rfl rfl at2 rfl) ?_)
      | (go_at_call 62; refine (c4size q P p P' p' _ (by omega) (by omega)).mono ?_; rintro e w3 ⟨rfl, x3⟩)
      | (go_at_call 63; refine (cEmost _).mono ?_; rintro e w3b ⟨rfl, rfl⟩)
      | ((with_reducible show wpList _ _ _ (Oper.mk _ (Op.slice _ _ _ _ _) _ _ _ _ :: _) _ _); (refine wpList_val rfl (run_cut_h rfl rfl rfl (h := min (size4 q) 548) (by omega) (by omega) (m := D.length) (by have := HN.out; have := HDL.out; omega)) ?_)))
    have hR3 := (x3.block w.heap.size (by omega)).trans hR2
    have hb3 := hb2.trans (x3.mono hb2.size)
    have hD3 := hD2.below (x3.mono (Nat.le_trans hB hb2.size))
    have hbox3 := (x3.block w2.heap.size hz2).trans hbox
    have hz3 := Nat.lt_of_lt_of_le hz2 x3.size
    clear hR2 hD2 hbox at2
    by_cases hC : chkI MS = 0
    · have HC := Lib.hid hC
      rw [hMS] at hC
      have HCx := Lib.hid hC
      obtain ⟨BS, hBS⟩ : ∃ x, x = bldI [] (⟨k, c, r, D⟩ : PI) := ⟨_, rfl⟩
      have HBS := Lib.hid hBS
      have hBSl : BS.length = 8 + D.length := by rw [hBS, bldI_len]
      have HBL := Lib.hid hBSl
      clear hC hBS hBSl
      go_upto_region 6 with (first
        | (go_at_call 64; refine (cIbuild ⟨k, c, r, D⟩ A cc _ B hD3 (Nat.le_trans hB hb3.size) (by have := HDL.out; show D.length ≤ _; omega)).mono ?_; rintro e w4 ⟨v4, rfl, n4, m4⟩; have m4 := m4 HCx.out; rw [HCx.out]; rw [← HBS.out] at m4; obtain ⟨PB, p4, rfl, g4, o4, x4⟩ := made_shape m4))
      have hR4 := (x4.block w.heap.size (by omega)).trans hR3
      have hb4 := hb3.trans (x4.mono hb3.size)
      have at4 := ofhE ((x4.block w2.heap.size hz3).trans hbox3)
      have ksrc := at4.src
      obtain ⟨PK, hPK⟩ : ∃ x : P4, x = ⟨0, 0, 0, 64, 1, a, q.src, false, false, [], BS⟩ := ⟨_, rfl⟩
      have HPK := Lib.hid (show pkE a b (msE k c r b) = PK by rw [hPK, pkE, ← hMS', hMS, ← HBS.out, ← HQ.out])
      have hPo : PK.opt.length = 0 := by rw [hPK]; rfl
      have hPd : PK.dat = BS := by rw [hPK]
      have hpl : PK.dat.length ≤ 1000000 := by rw [hPd, HBL.out, HDL.out]; omega
      have hPV : v4a PK none 0 PB p4 = #[.int .i64 0, .int .i64 0, .int .i64 0, .int .i64 64, .int .i64 1, .int .i64 a, .int .i64 q.src, .bool false, .bool false, .slice none 0 0, .slice PB BS.length p4] := by rw [hPK]; rfl
      have HPV := Lib.hid hPV
      have HMSE := Lib.hid hMS'
      clear hMS hMS' hPK at4 hPV
      go_upto_region 9 with (first
        | ((with_reducible show wpList _ _ _ (Oper.mk _ (Op.store _ _ _) _ _ _ _ :: _) _ _); refine v4_store_new (cs := v4a PK none 0 PB p4) rfl (by rw [HPV.out]; rfl) rfl rfl (v4a_one _ _ _ _ _) ?_))
      have x5 : Below w4.heap.size w4 (w4.alloc (.cells (v4a PK none 0 PB p4) 28)) := (Below.refl _ w4).alloc (Nat.le_refl _) _
      have hbox5 := World.alloc_heap_new w4 (.cells (v4a PK none 0 PB p4) 28)
      have hz5 : w4.heap.size < (w4.alloc (.cells (v4a PK none 0 PB p4) 28)).heap.size := by simp
      generalize w4.alloc (.cells (v4a PK none 0 PB p4) 28) = W5 at *
      have at5 := ofhE hbox5
      have hR5 := (x5.block w.heap.size (by have := x4.size; omega)).trans hR4
      have hb5 := hb4.trans (x5.mono hb4.size)
      obtain ⟨CK, hCK⟩ : ∃ x, x = chk4 PK := ⟨_, rfl⟩
      have HCK := Lib.hid hCK
      by_cases hk0 : CK = 0
      · have HE : Hid (mkE a k c r b = 0) := Lib.hid (by rw [mkE, if_pos HM.out, if_pos (by rw [← HMSE.out]; exact HC.out), if_pos (by rw [HPK.out, ← hCK]; exact hk0)])
        have HV : Hid (mkV a k c r b = PK) := Lib.hid (by rw [mkV, if_pos HE.out, HPK.out])
        have HK0 := Lib.hid hk0
        clear hk0 hCK
        go_wp2_with (first
          | ((with_reducible show wpList _ _ _ (Oper.mk _ (Op.load 28 _) _ _ _ _ :: _) _ _); refine wpList_val rfl (run_load_v4 rfl rfl at5 rfl) ?_)
          | (go_at_call 65; refine (c4check PK none 0 PB p4 _ (by omega) hpl).mono ?_; rintro e w6 ⟨rfl, x6⟩; rw [← HCK.out, HK0.out]; have at5 := at5.below x6 hz5; have hR6 := (x6.block w.heap.size (by have := x4.size; have := x5.size; omega)).trans hR5)
          | ((with_reducible show wpList _ _ _ (Oper.mk _ (Op.store _ _ _) _ _ _ _ :: _) _ _); refine v4_store (g := w.heap.size) (cs := v4a PK none 0 PB p4) rfl rfl hR6 rfl rfl (v4a_one _ _ _ _ _) ?_))
        exact bodyPost_ret (res2 rfl rfl (run_loadVar_row _ _ _ 28 (v4a PK none 0 PB p4) _ _ (setRow_heap _ _ _ _ _ _ hR6) Try.underlying28 rfl (by kernel_rfl))) rfl ⟨PB, p4, by rw [HE.out, HV.out]; rfl, by rw [HV.out, hPd]; exact ((m4.later (x5.trans (x6.mono x5.size))).row hb3 (by omega))⟩
      · have HE : Hid (mkE a k c r b = 1) := Lib.hid (by rw [mkE, if_pos HM.out, if_pos (by rw [← HMSE.out]; exact HC.out), if_neg (by rw [HPK.out, ← hCK]; exact hk0)])
        have HV : Hid (mkV a k c r b = p4z) := Lib.hid (by rw [mkV, if_neg (by rw [HE.out]; decide)])
        have dK : (CK != 0) = true := by simpa using hk0
        clear hk0 hCK
        go_wp2_with (first
          | ((with_reducible show wpList _ _ _ (Oper.mk _ (Op.load 28 _) _ _ _ _ :: _) _ _); refine wpList_val rfl (run_load_v4 rfl rfl at5 rfl) ?_)
          | (go_at_call 65; refine (c4check PK none 0 PB p4 _ (by omega) hpl).mono ?_; rintro e w6 ⟨rfl, x6⟩; rw [← HCK.out]; have hR6 := (x6.block w.heap.size (by have := x4.size; have := x5.size; omega)).trans hR5; have hb6 := hb5.trans (x6.mono hb5.size))
          | ((with_reducible show wpList _ _ _ (Oper.mk _ (Op.store _ _ _) _ _ _ _ :: _) _ _); refine v4_store (g := w.heap.size) (cs := v4a p4z none 0 none 0) rfl rfl hR6 rfl rfl (v4a_one _ _ _ _ _) ?_))
        exact bodyPost_ret (res2 rfl rfl (run_loadVar_row _ _ _ 28 (v4a p4z none 0 none 0) _ _ (setRow_heap _ _ _ _ _ _ hR6) Try.underlying28 rfl (by kernel_rfl))) rfl ⟨none, 0, by rw [HE.out, HV.out]; rfl, by rw [HV.out]; exact Made.nil _ _ (below_row hb6 (Nat.le_refl _))⟩
    · have HE : Hid (mkE a k c r b = 1) := Lib.hid (by rw [mkE, if_pos HM.out, if_neg (by rw [← hMS']; exact hC)])
      have HV : Hid (mkV a k c r b = p4z) := Lib.hid (by rw [mkV, if_neg (by rw [HE.out]; decide)])
      rw [hMS] at hC
      obtain ⟨CK, hCK⟩ : ∃ x, x = chkI (⟨k, c, r, D⟩ : PI) := ⟨_, rfl⟩
      rw [← hCK] at hC
      have HCK := Lib.hid hCK
      have HC := Lib.hid hC
      have dK : (CK != 0) = true := by simpa using hC
      clear hC hCK hMS hMS'
      go_wp2_with (first
        | (go_at_call 64; refine (cIbuild ⟨k, c, r, D⟩ A cc _ B hD3 (Nat.le_trans hB hb3.size) (by have := HDL.out; show D.length ≤ _; omega)).mono ?_; rintro e w4 ⟨v4, rfl, n4, m4⟩; have n4 := n4 (by rw [← HCK.out]; exact HC.out); rw [← HCK.out]; obtain ⟨rfl, x4⟩ := n4; have hR4 := (x4.block w.heap.size (by omega)).trans hR3; have hb4 := hb3.trans (x4.mono hb3.size))
        | ((with_reducible show wpList _ _ _ (Oper.mk _ (Op.store _ _ _) _ _ _ _ :: _) _ _); refine v4_store (g := w.heap.size) (cs := v4a p4z none 0 none 0) rfl rfl hR4 rfl rfl (v4a_one _ _ _ _ _) ?_))
      exact bodyPost_ret (res2 rfl rfl (run_loadVar_row _ _ _ 28 (v4a p4z none 0 none 0) _ _ (setRow_heap _ _ _ _ _ _ hR4) Try.underlying28 rfl (by kernel_rfl))) rfl ⟨none, 0, by rw [HE.out, HV.out]; rfl, by rw [HV.out]; exact Made.nil _ _ (below_row hb4 (Nat.le_refl _))⟩
set_option maxRecDepth 100000 in
set_option maxHeartbeats 4000000 in
theorem rEmake (a k c r : Int) (b : List UInt8) (A : Option Addr) (cc B : Nat) (w : World) (hA : Arg w B A cc b) (hB : B ≤ w.heap.size) (hl : b.length ≤ 900000) :
    Calls Try.prog 42 #[.int .i64 a, .int .i64 k, .int .i64 c, .int .i64 r, .slice A b.length cc] w fun e w' => ∃ P' p', e = .returned (.tuple #[v4v (mkV a k c r b) none 0 P' p', .int .i64 (mkE a k c r b)]) ∧ Made w w' (.slice P' (mkV a k c r b).dat.length p') (mkV a k c r b).dat := by
  have hcap := hA.cap
  have hR0 := World.alloc_heap_new w (.cells #[.int .i64 0, .int .i64 0, .int .i64 0, .int .i64 0, .int .i64 0, .int .i64 0, .int .i64 0, .bool false, .bool false, .slice none 0 0, .slice none 0 0] 28)
  have hb0 : Below w.heap.size w (w.alloc (.cells #[.int .i64 0, .int .i64 0, .int .i64 0, .int .i64 0, .int .i64 0, .int .i64 0, .int .i64 0, .bool false, .bool false, .slice none 0 0, .slice none 0 0] 28)) := (Below.refl w.heap.size w).alloc (Nat.le_refl _) _
  have hz0 : w.heap.size < (w.alloc (.cells #[.int .i64 0, .int .i64 0, .int .i64 0, .int .i64 0, .int .i64 0, .int .i64 0, .int .i64 0, .bool false, .bool false, .slice none 0 0, .slice none 0 0] 28)).heap.size := by simp
  go_enter Try.func42, Try.ntmps42
  go_upto_region 1 with fail
  generalize w.alloc (.cells #[.int .i64 0, .int .i64 0, .int .i64 0, .int .i64 0, .int .i64 0, .int .i64 0, .int .i64 0, .bool false, .bool false, .slice none 0 0, .slice none 0 0] 28) = W at *
  have hA0 := hA.below (hb0.mono hB)
  clear hA
  cases hM : mayE b
  · have HM := Lib.hid hM
    have HE : Hid (mkE a k c r b = 11) := Lib.hid (by rw [mkE, if_neg (by rw [hM]; simp)])
    have HV : Hid (mkV a k c r b = p4z) := Lib.hid (by rw [mkV, if_neg (by rw [HE.out]; decide)])
    clear hM
    go_wp2_with (first
      | (go_at_call 66; refine (rEmay b A cc B W hA0 (Nat.le_trans hB hb0.size) (by omega)).mono ?_; rintro e w1 ⟨rfl, x1⟩; rw [HM.out]; have hR1 := (x1.block w.heap.size hz0).trans hR0; have hb1 := hb0.trans (x1.mono hb0.size))
      | ((with_reducible show wpList _ _ _ (Oper.mk _ (Op.store _ _ _) _ _ _ _ :: _) _ _); refine v4_store (g := w.heap.size) (cs := v4a p4z none 0 none 0) rfl rfl hR1 rfl rfl (v4a_one _ _ _ _ _) ?_))
    exact bodyPost_ret (res2 rfl rfl (run_loadVar_row _ _ _ 28 (v4a p4z none 0 none 0) _ _ (setRow_heap _ _ _ _ _ _ hR1) Try.underlying28 rfl (by kernel_rfl))) rfl ⟨none, 0, by rw [HE.out, HV.out]; rfl, by rw [HV.out]; exact Made.nil _ _ (below_row hb1 (Nat.le_refl _))⟩
  · have HM := Lib.hid hM
    have hE0 := may_ok hM
    obtain ⟨n0, n1, n2, n3⟩ := raw_len hE0
    have hnE := nE_le hM
    have hN : ((nE b : Nat) : Int) = min (size4 (prsV b true)) 548 := by unfold nE; omega
    obtain ⟨N, hNe⟩ : ∃ x, x = nE b := ⟨_, rfl⟩
    obtain ⟨D, hD⟩ : ∃ x, x = b.take (nE b) := ⟨_, rfl⟩
    have hDl : D.length = N := by rw [hD, hNe, List.length_take]; omega
    have hAD := hA0.cut_hi N (by omega)
    rw [hNe, ← hD] at hAD
    obtain ⟨q, hq⟩ : ∃ x, x = prsV b true := ⟨_, rfl⟩
    obtain ⟨MS, hMS⟩ : ∃ x : PI, x = ⟨k, c, r, D⟩ := ⟨_, rfl⟩
    have hMS' : MS = msE k c r b := by rw [hMS, msE, hD]
    rw [← hNe, ← hq] at hN
    have HN := Lib.hid hN
    have HQ := Lib.hid hq
    have HDL := Lib.hid hDl
    have hNb : N ≤ b.length := by omega
    have hN5 : N ≤ 548 := by omega
    rw [← hq] at n0 n1 n2 n3
    go_upto_region 2 with (go_at_call 66; refine (rEmay b A cc B W hA0 (Nat.le_trans hB hb0.size) (by omega)).mono ?_; rintro e w1 ⟨rfl, x1⟩; rw [HM.out])
    have hR1 := (x1.block w.heap.size hz0).trans hR0
    have hb1 := hb0.trans (x1.mono hb0.size)
    have hz1 := Nat.lt_of_lt_of_le hz0 x1.size
    have hA1 := hA0.below (x1.mono (Nat.le_trans hB hb0.size))
    have hD1 := hAD.below (x1.mono (Nat.le_trans hB hb0.size))
    have hE00 := Lib.hid hE0
    clear hM hE0 hnE hNe hDl hA0 hAD hq hN hD
    go_upto_region 4 with (first
      | (go_at_call 40; refine (r5quoted b A cc w1 B hA1 (Nat.le_trans hB hb1.size) (by omega)).mono ?_; rintro e w2 ⟨P, p, P', p', rfl, mo, md⟩; rw [← HQ.out, hE00.out])
      | ((with_reducible show wpList _ _ _ (Oper.mk _ (Op.store _ _ _) _ _ _ _ :: _) _ _); refine v4_store_new (cs := v4a q P p P' p') rfl rfl rfl rfl (v4a_one _ _ _ _ _) ?_))
    have hbox := World.alloc_heap_new w2 (.cells (v4a q P p P' p') 28)
    have x2 : Below w1.heap.size w1 (w2.alloc (.cells (v4a q P p P' p') 28)) := mo.below.alloc mo.below.size _
    have hz2 : w2.heap.size < (w2.alloc (.cells (v4a q P p P' p') 28)).heap.size := by simp
    have hg2 : w1.heap.size ≤ w2.heap.size := mo.below.size
    generalize w2.alloc (.cells (v4a q P p P' p') 28) = W2 at *
    have hR2 := (x2.block w.heap.size hz1).trans hR1
    have hb2 := hb1.trans (x2.mono hb1.size)
    have hD2 := hD1.below (x2.mono (Nat.le_trans hB hb1.size))
    have at2 := ofhE hbox
    clear mo md hA1 hD1 hR1 hR0
    go_upto_region 5 with (first
      | ((with_reducible show wpList _ _ _ (Oper.mk _ (Op.load 28 _) _ _ _ _ :: _) _ _); refine wpList_val rfl (run_load_v4 rfl rfl at2 rfl) ?_)
      | (go_at_call 49; refine (r5size q P p P' p' _ (by omega) (by omega)).mono ?_; rintro e w3 ⟨rfl, x3⟩))
    have hR3 := (x3.block w.heap.size (by omega)).trans hR2
    have hb3 := hb2.trans (x3.mono hb2.size)
    have hD3 := hD2.below (x3.mono (Nat.le_trans hB hb2.size))
    have hbox3 := (x3.block w2.heap.size hz2).trans hbox
    have hz3 := Nat.lt_of_lt_of_le hz2 x3.size
    clear hR2 hD2 hbox at2
    by_cases hC : chkI MS = 0
    · have HC := Lib.hid hC
      rw [hMS] at hC
      have HCx := Lib.hid hC
      obtain ⟨BS, hBS⟩ : ∃ x, x = bldI [] (⟨k, c, r, D⟩ : PI) := ⟨_, rfl⟩
      have HBS := Lib.hid hBS
      have hBSl : BS.length = 8 + D.length := by rw [hBS, bldI_len]
      have HBL := Lib.hid hBSl
      clear hC hBS hBSl
      go_upto_region 6 with (first
      | ((with_reducible show wpList _ _ _ (Oper.mk _ (Op.slice _ _ _ _ _) _ _ _ _ :: _) _ _); (refine wpList_val rfl (run_cut_h rfl rfl rfl (h := min (size4 q) 548) (by omega) (by omega) (m := D.length) (by have := HN.out; have := HDL.out; omega)) ?_))
        | (go_at_call 67; refine (rIbuild ⟨k, c, r, D⟩ A cc _ B hD3 (Nat.le_trans hB hb3.size) (by have := HDL.out; show D.length ≤ _; omega)).mono ?_; rintro e w4 ⟨v4, rfl, n4, m4⟩; have m4 := m4 HCx.out; rw [HCx.out]; rw [← HBS.out] at m4; obtain ⟨PB, p4, rfl, g4, o4, x4⟩ := made_shape m4))
      have hR4 := (x4.block w.heap.size (by omega)).trans hR3
      have hb4 := hb3.trans (x4.mono hb3.size)
      have at4 := ofhE ((x4.block w2.heap.size hz3).trans hbox3)
      have ksrc := at4.src
      obtain ⟨PK, hPK⟩ : ∃ x : P4, x = ⟨0, 0, 0, 64, 1, a, q.src, false, false, [], BS⟩ := ⟨_, rfl⟩
      have HPK := Lib.hid (show pkE a b (msE k c r b) = PK by rw [hPK, pkE, ← hMS', hMS, ← HBS.out, ← HQ.out])
      have hPo : PK.opt.length = 0 := by rw [hPK]; rfl
      have hPd : PK.dat = BS := by rw [hPK]
      have hpl : PK.dat.length ≤ 1000000 := by rw [hPd, HBL.out, HDL.out]; omega
      have hPV : v4a PK none 0 PB p4 = #[.int .i64 0, .int .i64 0, .int .i64 0, .int .i64 64, .int .i64 1, .int .i64 a, .int .i64 q.src, .bool false, .bool false, .slice none 0 0, .slice PB BS.length p4] := by rw [hPK]; rfl
      have HPV := Lib.hid hPV
      have HMSE := Lib.hid hMS'
      clear hMS hMS' hPK at4 hPV
      go_upto_region 9 with (first
        | ((with_reducible show wpList _ _ _ (Oper.mk _ (Op.store _ _ _) _ _ _ _ :: _) _ _); refine v4_store_new (cs := v4a PK none 0 PB p4) rfl (by rw [HPV.out]; rfl) rfl rfl (v4a_one _ _ _ _ _) ?_))
      have x5 : Below w4.heap.size w4 (w4.alloc (.cells (v4a PK none 0 PB p4) 28)) := (Below.refl _ w4).alloc (Nat.le_refl _) _
      have hbox5 := World.alloc_heap_new w4 (.cells (v4a PK none 0 PB p4) 28)
      have hz5 : w4.heap.size < (w4.alloc (.cells (v4a PK none 0 PB p4) 28)).heap.size := by simp
      generalize w4.alloc (.cells (v4a PK none 0 PB p4) 28) = W5 at *
      have at5 := ofhE hbox5
      have hR5 := (x5.block w.heap.size (by have := x4.size; omega)).trans hR4
      have hb5 := hb4.trans (x5.mono hb4.size)
      obtain ⟨CK, hCK⟩ : ∃ x, x = chk4 PK := ⟨_, rfl⟩
      have HCK := Lib.hid hCK
      by_cases hk0 : CK = 0
      · have HE : Hid (mkE a k c r b = 0) := Lib.hid (by rw [mkE, if_pos HM.out, if_pos (by rw [← HMSE.out]; exact HC.out), if_pos (by rw [HPK.out, ← hCK]; exact hk0)])
        have HV : Hid (mkV a k c r b = PK) := Lib.hid (by rw [mkV, if_pos HE.out, HPK.out])
        have HK0 := Lib.hid hk0
        clear hk0 hCK
        go_wp2_with (first
          | ((with_reducible show wpList _ _ _ (Oper.mk _ (Op.load 28 _) _ _ _ _ :: _) _ _); refine wpList_val rfl (run_load_v4 rfl rfl at5 rfl) ?_)
          | (go_at_call 46; refine (r5check PK none 0 PB p4 _ (by omega) hpl).mono ?_; rintro e w6 ⟨rfl, x6⟩; rw [← HCK.out, HK0.out]; have at5 := at5.below x6 hz5; have hR6 := (x6.block w.heap.size (by have := x4.size; have := x5.size; omega)).trans hR5)
          | ((with_reducible show wpList _ _ _ (Oper.mk _ (Op.store _ _ _) _ _ _ _ :: _) _ _); refine v4_store (g := w.heap.size) (cs := v4a PK none 0 PB p4) rfl rfl hR6 rfl rfl (v4a_one _ _ _ _ _) ?_))
        exact bodyPost_ret (res2 rfl rfl (run_loadVar_row _ _ _ 28 (v4a PK none 0 PB p4) _ _ (setRow_heap _ _ _ _ _ _ hR6) Try.underlying28 rfl (by kernel_rfl))) rfl ⟨PB, p4, by rw [HE.out, HV.out]; rfl, by rw [HV.out, hPd]; exact ((m4.later (x5.trans (x6.mono x5.size))).row hb3 (by omega))⟩
      · have HE : Hid (mkE a k c r b = 1) := Lib.hid (by rw [mkE, if_pos HM.out, if_pos (by rw [← HMSE.out]; exact HC.out), if_neg (by rw [HPK.out, ← hCK]; exact hk0)])
        have HV : Hid (mkV a k c r b = p4z) := Lib.hid (by rw [mkV, if_neg (by rw [HE.out]; decide)])
        have dK : (CK != 0) = true := by simpa using hk0
        clear hk0 hCK
        go_wp2_with (first
          | ((with_reducible show wpList _ _ _ (Oper.mk _ (Op.load 28 _) _ _ _ _ :: _) _ _); refine wpList_val rfl (run_load_v4 rfl rfl at5 rfl) ?_)
          | (go_at_call 46; refine (r5check PK none 0 PB p4 _ (by omega) hpl).mono ?_; rintro e w6 ⟨rfl, x6⟩; rw [← HCK.out]; have hR6 := (x6.block w.heap.size (by have := x4.size; have := x5.size; omega)).trans hR5; have hb6 := hb5.trans (x6.mono hb5.size))
          | ((with_reducible show wpList _ _ _ (Oper.mk _ (Op.store _ _ _) _ _ _ _ :: _) _ _); refine v4_store (g := w.heap.size) (cs := v4a p4z none 0 none 0) rfl rfl hR6 rfl rfl (v4a_one _ _ _ _ _) ?_))
        exact bodyPost_ret (res2 rfl rfl (run_loadVar_row _ _ _ 28 (v4a p4z none 0 none 0) _ _ (setRow_heap _ _ _ _ _ _ hR6) Try.underlying28 rfl (by kernel_rfl))) rfl ⟨none, 0, by rw [HE.out, HV.out]; rfl, by rw [HV.out]; exact Made.nil _ _ (below_row hb6 (Nat.le_refl _))⟩
    · have HE : Hid (mkE a k c r b = 1) := Lib.hid (by rw [mkE, if_pos HM.out, if_neg (by rw [← hMS']; exact hC)])
      have HV : Hid (mkV a k c r b = p4z) := Lib.hid (by rw [mkV, if_neg (by rw [HE.out]; decide)])
      rw [hMS] at hC
      obtain ⟨CK, hCK⟩ : ∃ x, x = chkI (⟨k, c, r, D⟩ : PI) := ⟨_, rfl⟩
      rw [← hCK] at hC
      have HCK := Lib.hid hCK
      have HC := Lib.hid hC
      have dK : (CK != 0) = true := by simpa using hC
      clear hC hCK hMS hMS'
      go_wp2_with (first
      | ((with_reducible show wpList _ _ _ (Oper.mk _ (Op.slice _ _ _ _ _) _ _ _ _ :: _) _ _); (refine wpList_val rfl (run_cut_h rfl rfl rfl (h := min (size4 q) 548) (by omega) (by omega) (m := D.length) (by have := HN.out; have := HDL.out; omega)) ?_))
        | (go_at_call 67; refine (rIbuild ⟨k, c, r, D⟩ A cc _ B hD3 (Nat.le_trans hB hb3.size) (by have := HDL.out; show D.length ≤ _; omega)).mono ?_; rintro e w4 ⟨v4, rfl, n4, m4⟩; have n4 := n4 (by rw [← HCK.out]; exact HC.out); rw [← HCK.out]; obtain ⟨rfl, x4⟩ := n4; have hR4 := (x4.block w.heap.size (by omega)).trans hR3; have hb4 := hb3.trans (x4.mono hb3.size))
        | ((with_reducible show wpList _ _ _ (Oper.mk _ (Op.store _ _ _) _ _ _ _ :: _) _ _); refine v4_store (g := w.heap.size) (cs := v4a p4z none 0 none 0) rfl rfl hR4 rfl rfl (v4a_one _ _ _ _ _) ?_))
      exact bodyPost_ret (res2 rfl rfl (run_loadVar_row _ _ _ 28 (v4a p4z none 0 none 0) _ _ (setRow_heap _ _ _ _ _ _ hR4) Try.underlying28 rfl (by kernel_rfl))) rfl ⟨none, 0, by rw [HE.out, HV.out]; rfl, by rw [HV.out]; exact Made.nil _ _ (below_row hb4 (Nat.le_refl _))⟩
end Go.Proofs.Ytkfbamippjhjcaa

/-
  Contracts of layer 9's Parse, the program's and the document's, and of its Read. Conditions are each theorem's own.
-/
namespace Go.Proofs.Ytkfbamippjhjcaa
open Go.RowKit

section
variable (b : List UInt8) (A : Option Addr) (c : Nat) (w : World)
end
end Go.Proofs.Ytkfbamippjhjcaa

/-
  What layer 28's laws call, and what is told in answer to what tells of a fault. Conditions are each theorem's own.
-/
namespace Go.Proofs.Ytkfbamippjhjcaa
open Go.RowKit
def dgE (s d f t ttl : Int) (b : List UInt8) : P4 := ⟨0, 0, 0, ttl, 17, s, d, false, false, [], bldU s d ⟨f, t, false, b⟩⟩
theorem quoted_ofE {b : List UInt8} (h : prsE b false = 0) : prsE b true = 0 ∧ prsV b true = prsV b false := by
  have hb : bad4 b false = 0 := by
    unfold prsE at h
    split at h
    · assumption
    · exact h
  have hb2 : bad4 b true = 0 := by
    unfold bad4 at hb ⊢
    split at hb
    · cases hb
    · rename_i g0
      rw [if_neg g0]
      split at hb
      · cases hb
      · rename_i g1
        rw [if_neg g1]
        split at hb
        · cases hb
        · rename_i g2
          rw [if_neg (by rintro (g | ⟨g, _⟩); exact g2 (.inl g); cases g)]
          split at hb
          · cases hb
          · rename_i g3
            rw [if_neg g3, if_neg (by rintro ⟨g, _⟩; cases g)]
  have he : prsE b true = 0 := by
    unfold prsE
    rw [if_pos hb2, if_neg (by rintro ⟨g, _⟩; cases g)]
  exact ⟨he, by rw [prsV, prsV, if_pos he, if_pos h]⟩
set_option maxRecDepth 100000 in
set_option maxHeartbeats 2000000 in
theorem plain_dgE (s d f t ttl : Int) (b : List UInt8) (A : Option Addr) (c : Nat) (w : World) (B : Nat) (hD : Arg w B A c b) (hB0 : B ≤ w.heap.size) (hl : b.length ≤ 900000) (hu : chkU ⟨f, t, false, b⟩ = 0) (h4 : chk4 (dgE s d f t ttl b) = 0) :
    Calls Try.prog 28 #[.int .i64 s, .int .i64 d, .int .i64 f, .int .i64 t, .int .i64 ttl, .slice A b.length c] w fun e w' => ∃ P p, e = .returned (.slice P (bld4 (dgE s d f t ttl b)).length p) ∧ Made w w' (.slice P (bld4 (dgE s d f t ttl b)).length p) (bld4 (dgE s d f t ttl b)) := by
  have HU := Lib.hid hu
  have H4 := Lib.hid h4
  obtain ⟨D, hDD⟩ : ∃ l, l = bldU s d ⟨f, t, false, b⟩ := ⟨_, rfl⟩
  have hDl : D.length = 8 + b.length := by rw [hDD, bldU_len]
  have HP := Lib.hid (show dgE s d f t ttl b = ⟨0, 0, 0, ttl, 17, s, d, false, false, [], D⟩ by rw [dgE, hDD])
  have HD := Lib.hid hDD
  obtain ⟨R, hR⟩ : ∃ l, l = bld4 (dgE s d f t ttl b) := ⟨_, rfl⟩
  have HR := Lib.hid hR
  rw [← hR]
  have hDL := Lib.hid hDl
  clear hu h4 hDD hR hDl
  go_enter Try.func28, Try.ntmps28
  go_wp2_with (first
    | (go_at_call 44; refine (rUbuild ⟨f, t, false, b⟩ A c s d w B hD hB0 (by show b.length ≤ _; omega)).mono ?_; rintro e w1 ⟨v1, rfl, _, m1⟩; have m1 := m1 HU.out; rw [← HD.out] at m1; obtain ⟨P, p, rfl, g1, o1, y1⟩ := made_shape m1; have x1 := m1.below)
    | (go_at_call 30; refine (r5build ⟨0, 0, 0, ttl, 17, s, d, false, false, [], D⟩ none 0 P p w1 w1.heap.size (Arg.nil _ _) g1 (Nat.le_refl _) (by simp) (by have := hDL.out; show D.length ≤ _; omega)).mono ?_; rintro e w2 ⟨v2, rfl, _, m2⟩; have m2 := m2 (by have h := H4.out; rwa [HP.out] at h); rw [← HP.out, ← HR.out] at m2; obtain ⟨P2, p2, rfl, g2, o2, y2⟩ := made_shape m2))
  go_ret
  exact ⟨P2, p2, rfl, m2.after x1⟩
theorem back_quo {q : P4} (h : chk4 q = 0) : prsE (bld4 q) true = 0 ∧ prsV (bld4 q) true = q := by
  have hk := back_ok (more := []) h
  rw [List.append_nil] at hk
  obtain ⟨h1, h2⟩ := quoted_ofE hk.1
  exact ⟨h1, h2.trans hk.2⟩
theorem typ_first {m : PI} (h : chkI m = 0) : byt (bldI [] m) 0 = m.typ := by
  obtain ⟨⟨a1, a2, _⟩, _⟩ := chkI_ok h
  have e : byt (bldI [] m) 0 = m.typ % 256 := u8_val m.typ
  omega
theorem may_parts {b : List UInt8} (h : mayE b = true) : prsE b true = 0 ∧ (prsV b true).off = 0 ∧ hostB (prsV b true).src = true ∧ hostB (prsV b true).dst = true := by
  unfold mayE okE at h
  simp only [Bool.and_eq_true, beq_iff_eq] at h
  exact ⟨h.1.1.1.1, h.1.1.1.2, h.1.1.2, h.1.2⟩
theorem once_may {a k c r : Int} {b : List UInt8} (h : mkE a k c r b = 0) (hf : fltI k = true) : chk4 (mkV a k c r b) = 0 ∧ mayE (bld4 (mkV a k c r b)) = false := by
  obtain ⟨h1, h2, h3⟩ := mkE_may h
  have hv : mkV a k c r b = pkE a b (msE k c r b) := by rw [mkV, if_pos h]
  rw [hv]
  refine ⟨h3, ?_⟩
  obtain ⟨e1, e2⟩ := back_quo h3
  have ht : tnE (pkE a b (msE k c r b)).dat = false := by
    show tnE (bldI [] (msE k c r b)) = false
    rw [tnE, typ_first h2]
    show (_ && !fltI k) = false
    rw [hf]; simp
  unfold mayE okE
  rw [e2, ht]
  have : ((pkE a b (msE k c r b)).proto != 1) = false := rfl
  rw [this]
  simp
theorem may_mk {a k c : Int} {b : List UInt8} (h : mayE b = true) (a0 : 0 ≤ a) (a1 : a < 4294967296) (k0 : 0 ≤ k) (k1 : k ≤ 255) (c0 : 0 ≤ c) (c1 : c ≤ 255) : mkE a k c 0 b = 0 := by
  obtain ⟨_, _, hs, _⟩ := may_parts h
  have hn : (b.take (nE b)).length ≤ 548 := by rw [List.length_take]; unfold nE; omega
  have hI : chkI (msE k c 0 b) = 0 := by
    rw [chkI, if_pos ⟨k0, k1, c0, c1, Int.le_refl _, (by show (0 : Int) < 4294967296; decide)⟩, if_neg (by show ¬ (b.take (nE b)).length > 65527; omega)]
  unfold hostB at hs
  rw [decide_eq_true_eq] at hs
  have hl : (bldI [] (msE k c 0 b)).length ≤ 556 := by rw [bldI_len]; show 8 + (b.take (nE b)).length ≤ _; omega
  have h4 : chk4 (pkE a b (msE k c 0 b)) = 0 := by
    have h0 : arg4 (pkE a b (msE k c 0 b)) := ⟨Int.le_refl _, (by show (0 : Int) ≤ 255; decide), (by show (0 : Int) ≤ 64; decide), (by show (64 : Int) ≤ 255; decide), (by show (0 : Int) ≤ 1; decide), (by show (1 : Int) ≤ 255; decide), Int.le_refl _, (by show (0 : Int) ≤ 65535; decide), a0, a1, (by show 0 ≤ (prsV b true).src; omega), (by show (prsV b true).src < _; omega), Int.le_refl _, (by show (0 : Int) ≤ 65528; decide), (by show (0 : Int) % 8 = 0; decide), (by show 0 ≤ 40; decide), (by show 0 % 4 = 0; decide), fun h => by cases h⟩
    rw [chk4, if_pos h0, if_neg]
    rintro (g | g)
    · have : size4 (pkE a b (msE k c 0 b)) = 20 + ((bldI [] (msE k c 0 b)).length : Int) := rfl
      omega
    · have e1 : (pkE a b (msE k c 0 b)).off = 0 := rfl
      have e2 : (pkE a b (msE k c 0 b)).dat = bldI [] (msE k c 0 b) := rfl
      rw [e1, e2] at g
      omega
  rw [mkE, if_pos h, if_pos hI, if_pos h4]
theorem mk_not {a k c r : Int} {b : List UInt8} (h : mayE b = false) : mkE a k c r b = 11 := by rw [mkE, if_neg (by rw [h]; simp)]
/-- What is told: how long, whose, what is quoted. -/
theorem quote_facts {a k c r : Int} {b : List UInt8} (h : mkE a k c r b = 0) :
    badI [] (mkV a k c r b).dat = 0 ∧ prsI [] (mkV a k c r b).dat = msE k c r b ∧ prsE b true = 0 ∧ (mkV a k c r b).dst = (prsV b true).src ∧ (mkV a k c r b).src = a ∧ (b.take (nE b)).length = nE b ∧ nE b ≤ 548 ∧ min 28 (size4 (prsV b true)) ≤ ((nE b : Nat) : Int) ∧ nE b ≤ b.length ∧ size4 (mkV a k c r b) ≤ 576 ∧ (mkV a k c r b).dat.length ≤ 1000 ∧ (mkV a k c r b).opt.length = 0 := by
  obtain ⟨h1, h2, h3⟩ := mkE_may h
  have hv : mkV a k c r b = pkE a b (msE k c r b) := by rw [mkV, if_pos h]
  obtain ⟨n0, n1, _, _⟩ := raw_len (may_ok h1)
  have hn := nE_le h1
  have hbk := backI (p := []) h2
  have hn5 : nE b ≤ 548 := by unfold nE; omega
  have hm : min 28 (size4 (prsV b true)) ≤ ((nE b : Nat) : Int) := by unfold nE; omega
  have ht : (b.take (nE b)).length = nE b := by rw [List.length_take]; omega
  have hd : (bldI [] (msE k c r b)).length = 8 + nE b := by rw [bldI_len]; show 8 + (b.take (nE b)).length = _; omega
  rw [hv]
  have hs : size4 (pkE a b (msE k c r b)) = 20 + ((bldI [] (msE k c r b)).length : Int) := rfl
  exact ⟨hbk.1, hbk.2, may_ok h1, rfl, rfl, ht, hn5, hm, hn, by rw [hs, hd]; omega, by show (bldI [] (msE k c r b)).length ≤ _; omega, rfl⟩
theorem u8_bdE {a : Int} (h : (Lit.int .u8 a).wf = true) : 0 ≤ a ∧ a ≤ 255 := by
  have := h
  simp [Lit.wf] at this
  have e1 : IntKind.u8.min = 0 := by decide
  have e2 : IntKind.u8.max = 255 := by decide
  omega
theorem u32_bdE {a : Int} (h : (Lit.int .u32 a).wf = true) : 0 ≤ a ∧ a < 4294967296 := by
  have := h
  simp [Lit.wf] at this
  have e1 : IntKind.u32.min = 0 := by decide
  have e2 : IntKind.u32.max = 4294967295 := by decide
  omega
/-! ### The small example -/
def exE : List UInt8 := bld4 (dgE 167772161 3221225985 5 6 1 [])
theorem ex_uchk : chkU ⟨5, 6, false, []⟩ = 0 := by decide
theorem ex_len : exE.length = 28 := by rw [exE, bld4_len]; show 20 + 0 + (bldU _ _ _).length = 28; rw [bldU_len]; rfl
theorem ex_chk : chk4 (dgE 167772161 3221225985 5 6 1 []) = 0 := by
  have hl : (dgE 167772161 3221225985 5 6 1 []).dat.length = 8 := by show (bldU _ _ _).length = _; rw [bldU_len]; rfl
  have h0 : arg4 (dgE 167772161 3221225985 5 6 1 []) := by
    refine ⟨?_, ?_, ?_, ?_, ?_, ?_, ?_, ?_, ?_, ?_, ?_, ?_, ?_, ?_, ?_, ?_, ?_, fun h => by cases h⟩ <;> simp [dgE]
  rw [chk4, if_pos h0, if_neg]
  rintro (g | g)
  · have : size4 (dgE 167772161 3221225985 5 6 1 []) = 20 + ((dgE 167772161 3221225985 5 6 1 []).dat.length : Int) := rfl
    omega
  · have : (dgE 167772161 3221225985 5 6 1 []).off = 0 := rfl
    omega
theorem ex_may : mayE exE = true := by
  obtain ⟨e1, e2⟩ := back_quo ex_chk
  unfold mayE exE okE
  rw [e1, e2]
  have h1 : hostB (dgE 167772161 3221225985 5 6 1 []).src = true := by show hostB 167772161 = true; decide
  have h2 : hostB (dgE 167772161 3221225985 5 6 1 []).dst = true := by show hostB 3221225985 = true; decide
  have h3 : ((dgE 167772161 3221225985 5 6 1 []).off == 0) = true := rfl
  have h4 : ((dgE 167772161 3221225985 5 6 1 []).proto != 1) = true := rfl
  rw [h1, h2, h3, h4]
  rfl
theorem ex_mk : mkE 3221225473 11 0 0 exE = 0 := may_mk ex_may (by decide) (by decide) (by decide) (by decide) (by decide) (by decide)
theorem ex_dst : (mkV 3221225473 11 0 0 exE).dst = 167772161 := by
  rw [(quote_facts ex_mk).2.2.2.1]
  have := (back_quo ex_chk).2
  unfold exE
  rw [this]; rfl
theorem ex_dat : (mkV 3221225473 11 0 0 exE).dat.length = 36 := by
  obtain ⟨h1, h2, h3⟩ := mkE_may ex_mk
  have hv : mkV 3221225473 11 0 0 exE = pkE 3221225473 exE (msE 11 0 0 exE) := by rw [mkV, if_pos ex_mk]
  have hn : nE exE = 28 := by
    unfold nE
    have := (back_quo ex_chk).2
    unfold exE
    rw [this]
    have hl : (dgE 167772161 3221225985 5 6 1 []).dat.length = 8 := by show (bldU _ _ _).length = _; rw [bldU_len]; rfl
    have : size4 (dgE 167772161 3221225985 5 6 1 []) = 20 + ((dgE 167772161 3221225985 5 6 1 []).dat.length : Int) := rfl
    rw [this, hl]; rfl
  rw [hv]
  show (bldI [] (msE 11 0 0 exE)).length = 36
  rw [bldI_len]
  show 8 + (exE.take (nE exE)).length = 36
  rw [hn, List.length_take, ex_len]
  rfl
end Go.Proofs.Ytkfbamippjhjcaa

/-
  Layers 29 and 30 in plain lists of bytes: what is wrapped, what a message tells of it. No program. Conditions are each theorem's own.
-/
namespace Go.Proofs.Ytkfbamippjhjcaa
open Go.RowKit
/-! ### Layer 29 -/
def wrP (s d : List UInt8) (hop : Int) (b : List UInt8) : P6 := ⟨0, 0, 4, hop, s, d, b⟩
def wrV (s d : List UInt8) (hop : Int) (b : List UInt8) : P6 := if chk6 (wrP s d hop b) = 0 then wrP s d hop b else p6z
def uwV (q : P6) : List UInt8 := if q.next = 4 then q.dat else []
def uwE (q : P6) : Int := if q.next = 4 then 0 else 4
def hpB (q : P4) : Bool := decide (1 < q.ttl)
def hpV (q : P4) : P4 := if 1 < q.ttl then { q with ttl := q.ttl - 1 } else p4z
theorem wrV_ok {s d : List UInt8} {hop : Int} {b : List UInt8} (h : chk6 (wrP s d hop b) = 0) : wrV s d hop b = wrP s d hop b := by rw [wrV, if_pos h]
theorem wrV_six {s d : List UInt8} (hop : Int) (b : List UInt8) (hs : s.length = 16) (hd : d.length = 16) : (wrV s d hop b).src.length = 16 ∧ (wrV s d hop b).dst.length = 16 := by
  unfold wrV
  split
  · exact ⟨hs, hd⟩
  · exact ⟨rfl, rfl⟩
theorem wr_chk {s d : List UInt8} {hop : Int} {b : List UInt8} (h0 : 0 ≤ hop) (h1 : hop ≤ 255) (hl : b.length ≤ 65535) : chk6 (wrP s d hop b) = 0 := by
  have ha : arg6 (wrP s d hop b) := ⟨Int.le_refl _, (by show (0 : Int) ≤ 255; decide), (by show (0 : Int) ≤ 4; decide), (by show (4 : Int) ≤ 255; decide), h0, h1, Int.le_refl _, (by show (0 : Int) < 1048576; decide)⟩
  rw [chk6, if_pos ha, if_neg (by show ¬ (b.length : Int) > 65535; omega)]
/-! ### Layer 30 -/
structure Tl where
  peer : List UInt8
  kind : Int
  code : Int
  rest : Int
  inner : List UInt8
def tlz : Tl := ⟨nul, 0, 0, 0, []⟩
def knB (k : Int) : Bool := (k == 1) || (k == 2) || (k == 3) || (k == 4)
def tbK (k : Int) : Int := if knB k = true then 3 else 0
def tbC (k : Int) : Int := if k = 2 then 4 else if knB k = true then 1 else 0
def roomR (r : Int) : Int := min (max (r - 40) 68) 65535
def tbR (k r : Int) : Int := if k = 2 then roomR r else 0
def frB (q : P6) : Bool := ((prsF q.dat).off == 0) && ((prsF q.dat).next == 4)
def inE (q : P6) : Int := if q.next = 4 then 0 else if q.next = 44 then (if prsG q.dat = 0 then (if frB q = true then 0 else 4) else prsG q.dat) else 4
def inV (q : P6) : List UInt8 := if q.next = 4 then q.dat else if q.next = 44 ∧ prsG q.dat = 0 ∧ frB q = true then rstF q.dat else []
/-- What is wrong with what is within. -/
def tdE (b : List UInt8) : Int := if prsE b true = 0 then (if (prsV b true).dat.length < 8 then 3 else 0) else prsE b true
def tpE (own : List UInt8) (q : P6) : Int := if q.src = own then (if inE q = 0 then tdE (inV q) else inE q) else 8
def ofE (own : List UInt8) (k : Int) (b : List UInt8) : Int := if knB k = true then (if bad6 b true = 0 then tpE own (prs6 b true) else bad6 b true) else 8
def ofV (own : List UInt8) (k r : Int) (b : List UInt8) : Tl := if ofE own k b = 0 then ⟨(prs6 b true).dst, tbK k, tbC k, tbR k r, inV (prs6 b true)⟩ else tlz
def pkkE (a : Int) (t : Tl) : Int := mkE a t.kind t.code t.rest t.inner
def pkkV (a : Int) (t : Tl) : P4 := mkV a t.kind t.code t.rest t.inner
theorem ofV_no {own : List UInt8} {k r : Int} {b : List UInt8} (h : ofE own k b ≠ 0) : ofV own k r b = tlz := by rw [ofV, if_neg h]
theorem rstF_len (b : List UInt8) : (rstF b).length ≤ b.length := by
  unfold rstF
  split
  · exact Nat.zero_le _
  · rw [List.length_drop]; omega
theorem inV_len (q : P6) : (inV q).length ≤ q.dat.length := by
  unfold inV
  split
  · exact Nat.le_refl _
  · split
    · exact rstF_len _
    · exact Nat.zero_le _
theorem prs6_dat (b : List UInt8) (u : Bool) : (prs6 b u).dat.length ≤ b.length := by
  unfold prs6
  split
  · show ((b.take (end6 b)).drop 40).length ≤ _
    rw [List.length_drop, List.length_take]; omega
  · exact Nat.zero_le _
theorem ofV_len (own : List UInt8) (k r : Int) (b : List UInt8) : (ofV own k r b).inner.length ≤ b.length := by
  unfold ofV
  split
  · exact Nat.le_trans (inV_len _) (prs6_dat _ _)
  · exact Nat.zero_le _
theorem ofV_peer (own : List UInt8) (k r : Int) (b : List UInt8) : (ofV own k r b).peer.length = 16 := by
  unfold ofV
  split
  · unfold prs6
    split
    · rename_i hh
      show ((b.drop 24).take 16).length = 16
      have : ¬ b.length < 40 := fun h => by rw [bad6, if_pos h] at hh; cases hh
      rw [List.length_take, List.length_drop]; omega
    · rfl
  · rfl
theorem byt_cutR (b : List UInt8) {n j : Nat} (h : j < n) : byt (b.take n) j = byt b j := by simp [byt, h]
/-- The first bytes of a packet of IPv6 that is built, quoted. -/
theorem six_cut {q : P6} {m : Nat} (hs : q.src.length = 16) (hd : q.dst.length = 16) (h : chk6 q = 0) (h1 : 40 ≤ m) (h2 : m ≤ (bld6 q).length) :
    bad6 ((bld6 q).take m) true = 0 ∧ raw6 ((bld6 q).take m) = { q with dat := q.dat.take (m - 40) } := by
  have hb := back6 q [] hs hd h
  rw [List.append_nil] at hb
  obtain ⟨hb0, hr⟩ := hb
  have hl := bld6_len q hs hd
  generalize bld6 q = b at *
  have hl' : (b.take m).length = m := by rw [List.length_take]; omega
  have e0 : byt b 0 / 16 = 6 ∧ ¬ (n2 b 4 > (b.length : Int) - 40) := by
    unfold bad6 at hb0
    rw [if_neg (by omega)] at hb0
    split at hb0
    · cases hb0
    · rename_i g
      split at hb0
      · cases hb0
      · rename_i g2
        exact ⟨by omega, fun g3 => g2 ⟨rfl, g3⟩⟩
  have hd2 : q.dat = (b.take (end6 b)).drop 40 := by rw [← hr]; rfl
  have hn4 : n2 b 4 = (q.dat.length : Int) := by
    have h3 : q.dat.length = end6 b - 40 := by rw [hd2, List.length_drop, List.length_take]; unfold end6; omega
    have := byt_lo b 4; have := byt_lo b (4 + 1)
    have : 0 ≤ n2 b 4 := by unfold n2; omega
    unfold end6 at h3
    omega
  have n4' : n2 (b.take m) 4 = n2 b 4 := by unfold n2; rw [byt_cutR b (by omega), byt_cutR b (by omega)]
  have he : end6 (b.take m) = m := by unfold end6; rw [n4', hl', hn4]; omega
  have he2 : end6 b = b.length := by unfold end6; rw [hn4, hl]; omega
  refine ⟨?_, ?_⟩
  · rw [bad6, if_neg (by omega), byt_cutR b (by omega), if_neg (by omega), if_neg (by rintro ⟨g, _⟩; cases g)]
  · have t1 : ((b.take m).drop 8).take 16 = (b.drop 8).take 16 := by rw [List.drop_take, List.take_take]; congr 1; omega
    have t2 : ((b.take m).drop 24).take 16 = (b.drop 24).take 16 := by rw [List.drop_take, List.take_take]; congr 1; omega
    have t3 : ((b.take m).take (end6 (b.take m))).drop 40 = q.dat.take (m - 40) := by
      rw [he, List.take_take, Nat.min_self, List.drop_take, hd2, he2, List.take_length]
    rw [← hr] at t3 ⊢
    show raw6 (b.take m) = { raw6 b with dat := (raw6 b).dat.take (m - 40) }
    unfold raw6
    rw [t1, t2, byt_cutR b (by omega), byt_cutR b (by omega), byt_cutR b (by omega), byt_cutR b (by omega), byt_cutR b (by omega), byt_cutR b (by omega)]
    show P6.mk _ _ _ _ _ _ (((b.take m).take (end6 (b.take m))).drop 40) = _
    rw [t3]
    rfl
/-- The first bytes of a packet of IPv4 without options that is built, quoted. -/
theorem quo_cut {q : P4} {k : Nat} (h : chk4 q = 0) (ho : q.opt = []) (h1 : 20 ≤ k) (h2 : k ≤ (bld4 q).length) :
    prsE ((bld4 q).take k) true = 0 ∧ prsV ((bld4 q).take k) true = { q with dat := q.dat.take (k - 20) } := by
  have hf := back_fields (more := []) h
  have hr := back_raw (more := []) h
  have hq := (back_quo h).1
  have hl := bld4_len q
  rw [List.append_nil] at hf hr
  obtain ⟨f0, f1, f2, f3, f4, f5, f6, f7, f8, f9⟩ := hf
  have hh : head4 q = 20 := by unfold head4; rw [ho]; rfl
  have hz : size4 q = 20 + (q.dat.length : Int) := by unfold size4; rw [hh]
  rw [ho] at hl
  have hl0 : (bld4 q).length = 20 + q.dat.length := by rw [hl]; simp
  have hdq : q.dat = (bld4 q).drop 20 := by
    have : q.dat = (raw4 (bld4 q)).dat := by rw [hr]
    rw [this]
    show ((bld4 q).take (min (n2 (bld4 q) 2) ((bld4 q).length : Int)).toNat).drop (hlen (bld4 q)).toNat = _
    rw [f0, f2, hh, hz, show (min (20 + (q.dat.length : Int)) ((bld4 q).length : Int)).toNat = (bld4 q).length from by omega, List.take_length]
    rfl
  have hb0 : bad4 (bld4 q) true = 0 := by
    unfold prsE at hq
    split at hq
    · assumption
    · exact hq
  have f3b : ¬ (n2 (bld4 q) 6 ≥ 32768) := by
    unfold bad4 at hb0
    rw [if_neg (by omega), if_neg (by rw [f1, f0, hh]; simp), if_neg (by rw [f0, hh]; rintro (g | ⟨g, _⟩); omega; cases g)] at hb0
    intro g
    rw [if_pos (.inr g)] at hb0
    cases hb0
  generalize bld4 q = b at *
  have hl' : (b.take k).length = k := by rw [List.length_take]; omega
  have bt : ∀ i, i < 20 → byt (b.take k) i = byt b i := fun i hi => byt_cutR b (by omega)
  have n2t : ∀ i, i + 1 < 20 → n2 (b.take k) i = n2 b i := fun i hi => by unfold n2; rw [bt _ (by omega), bt _ (by omega)]
  have n4t : ∀ i, i + 3 < 20 → n4 (b.take k) i = n4 b i := fun i hi => by unfold n4; rw [bt _ (by omega), bt _ (by omega), bt _ (by omega), bt _ (by omega)]
  have ht : hlen (b.take k) = 20 := by unfold hlen; rw [bt 0 (by omega)]; rw [← hh, ← f0]; rfl
  have g0 : bad4 (b.take k) true = 0 := by
    unfold bad4
    rw [if_neg (by omega), ht, bt 0 (by omega), f1, if_neg (by simp), if_neg (by rintro (g | ⟨g, _⟩); omega; cases g), n2t 2 (by omega), n2t 6 (by omega), f2, hz, if_neg (by rintro (g | g); omega; exact f3b g), if_neg (by rintro ⟨g, _⟩; cases g)]
  have ge : prsE (b.take k) true = 0 := by
    unfold prsE
    rw [if_pos g0, if_neg (by rintro ⟨g, _⟩; cases g)]
  refine ⟨ge, ?_⟩
  rw [prsV, if_pos ge]
  have hd : ((b.take k).take (min (n2 (b.take k) 2) ((b.take k).length : Int)).toNat).drop (hlen (b.take k)).toNat = q.dat.take (k - 20) := by
    rw [ht, n2t 2 (by omega), f2, hz, hl', show (min (20 + (q.dat.length : Int)) (k : Int)).toNat = k from by omega, List.take_take, Nat.min_self, List.drop_take, hdq]
    rfl
  have hraw : raw4 (b.take k) = fl4 (b.take k) (q.dat.take (k - 20)) := by unfold raw4; rw [hd]
  have hop : ((b.take k).take (hlen (b.take k)).toNat).drop 20 = (b.take (hlen b).toNat).drop 20 := by
    rw [ht, f0, hh, List.take_take, show min (20 : Int).toNat k = (20 : Int).toNat from by show min 20 k = 20; omega]
  have hfl : ∀ d, fl4 (b.take k) d = fl4 b d := fun d => by
    unfold fl4
    rw [bt 1 (by omega), n2t 4 (by omega), n2t 6 (by omega), bt 8 (by omega), bt 9 (by omega), n4t 12 (by omega), n4t 16 (by omega), hop]
  rw [hraw, hfl]
  have h9 : fl4 b q.dat = q := by
    have : q.dat = (raw4 b).dat := by rw [hr]
    rw [this]
    exact hr
  clear hdq hd hraw
  generalize q.dat.take (k - 20) = X
  conv => rhs; rw [← h9]
  rfl
/-! ### What is told of a packet that was sent, of which enough is quoted -/
theorem host_ten {n : Int} (h0 : 0 ≤ n) (h1 : n ≤ 65535) : hostB (167772160 + n) = true := by unfold hostB; rw [decide_eq_true_eq]; omega
theorem host_eight {n : Int} (h0 : 0 ≤ n) (h1 : n ≤ 65535) : hostB (134217728 + n) = true := by unfold hostB; rw [decide_eq_true_eq]; omega
theorem dg_chk {s d : Int} {b : List UInt8} (hs : 0 ≤ s ∧ s < 4294967296) (hd : 0 ≤ d ∧ d < 4294967296) (hb : b.length ≤ 60000) : chkU ⟨5, 6, false, b⟩ = 0 ∧ chk4 (dgE s d 5 6 9 b) = 0 ∧ (bld4 (dgE s d 5 6 9 b)).length = 28 + b.length := by
  have hl : (dgE s d 5 6 9 b).dat.length = 8 + b.length := by show (bldU _ _ _).length = _; rw [bldU_len]
  have h0 : arg4 (dgE s d 5 6 9 b) := by
    refine ⟨?_, ?_, ?_, ?_, ?_, ?_, ?_, ?_, hs.1, hs.2, hd.1, hd.2, ?_, ?_, ?_, ?_, ?_, fun h => by cases h⟩ <;> simp [dgE]
  have hz : size4 (dgE s d 5 6 9 b) = 20 + ((dgE s d 5 6 9 b).dat.length : Int) := rfl
  have ho : (dgE s d 5 6 9 b).off = 0 := rfl
  refine ⟨?_, ?_, ?_⟩
  · rw [chkU, if_pos ⟨by show (0 : Int) ≤ 5; decide, by show (5 : Int) ≤ 65535; decide, by show (0 : Int) ≤ 6; decide, by show (6 : Int) ≤ 65535; decide⟩, if_neg]
    show ¬ (b.length > 65527)
    omega
  · rw [chk4, if_pos h0, if_neg]
    rintro (g | g) <;> omega
  · rw [bld4_len, hl]
    show 20 + 0 + _ = _
    omega
theorem mk_rest {a c r : Int} {b : List UInt8} (h : mayE b = true) (a0 : 0 ≤ a) (a1 : a < 4294967296) (c0 : 0 ≤ c) (c1 : c ≤ 255) (r0 : 0 ≤ r) (r1 : r < 4294967296) : mkE a 3 c r b = 0 := by
  obtain ⟨_, _, hs, _⟩ := may_parts h
  have hn : (b.take (nE b)).length ≤ 548 := by rw [List.length_take]; unfold nE; omega
  have hI : chkI (msE 3 c r b) = 0 := by
    rw [chkI, if_pos ⟨by show (0 : Int) ≤ 3; decide, by show (3 : Int) ≤ 255; decide, c0, c1, r0, r1⟩, if_neg (by show ¬ (b.take (nE b)).length > 65527; omega)]
  unfold hostB at hs
  rw [decide_eq_true_eq] at hs
  have hl : (bldI [] (msE 3 c r b)).length ≤ 556 := by rw [bldI_len]; show 8 + (b.take (nE b)).length ≤ _; omega
  have h4 : chk4 (pkE a b (msE 3 c r b)) = 0 := by
    have h0 : arg4 (pkE a b (msE 3 c r b)) := ⟨Int.le_refl _, (by show (0 : Int) ≤ 255; decide), (by show (0 : Int) ≤ 64; decide), (by show (64 : Int) ≤ 255; decide), (by show (0 : Int) ≤ 1; decide), (by show (1 : Int) ≤ 255; decide), Int.le_refl _, (by show (0 : Int) ≤ 65535; decide), a0, a1, (by show 0 ≤ (prsV b true).src; omega), (by show (prsV b true).src < _; omega), Int.le_refl _, (by show (0 : Int) ≤ 65528; decide), (by show (0 : Int) % 8 = 0; decide), (by show 0 ≤ 40; decide), (by show 0 % 4 = 0; decide), fun h => by cases h⟩
    rw [chk4, if_pos h0, if_neg]
    rintro (g | g)
    · have : size4 (pkE a b (msE 3 c r b)) = 20 + ((bldI [] (msE 3 c r b)).length : Int) := rfl
      omega
    · have e1 : (pkE a b (msE 3 c r b)).off = 0 := rfl
      have e2 : (pkE a b (msE 3 c r b)).dat = bldI [] (msE 3 c r b) := rfl
      rw [e1, e2] at g
      omega
  rw [mkE, if_pos h, if_pos hI, if_pos h4]
/-- A message of a size, of the first bytes of what was sent. -/
theorem reach {own peer D : List UInt8} {s d a r : Int} {b : List UInt8} {m : Nat} (ho : own.length = 16) (hp : peer.length = 16) (hb : b.length ≤ 1000)
    (hs : 0 ≤ s ∧ s < 4294967296) (hd : 0 ≤ d ∧ d < 4294967296) (h1 : hostB s = true) (h2 : hostB d = true) (hD : D = bld4 (dgE s d 5 6 9 b)) (hm : 68 ≤ m) (hm2 : m ≤ 68 + b.length) (a0 : 0 ≤ a) (a1 : a < 4294967296) :
    chk6 (wrP own peer 64 D) = 0 ∧ (bld6 (wrP own peer 64 D)).length = 68 + b.length ∧
      ofE own 2 ((bld6 (wrP own peer 64 D)).take m) = 0 ∧ (ofV own 2 r ((bld6 (wrP own peer 64 D)).take m)).peer = peer ∧ (ofV own 2 r ((bld6 (wrP own peer 64 D)).take m)).rest = roomR r ∧
      pkkE a (ofV own 2 r ((bld6 (wrP own peer 64 D)).take m)) = 0 ∧ (pkkV a (ofV own 2 r ((bld6 (wrP own peer 64 D)).take m))).dst = s := by
  obtain ⟨_, c4, l4⟩ := dg_chk hs hd (show b.length ≤ 60000 by omega)
  rw [← hD] at l4
  have hc : chk6 (wrP own peer 64 D) = 0 := wr_chk (by decide) (by decide) (by omega)
  have hbl : (bld6 (wrP own peer 64 D)).length = 68 + b.length := by
    rw [bld6_len _ ho hp]
    show 40 + D.length = _
    omega
  obtain ⟨z1, z2⟩ := six_cut (q := wrP own peer 64 D) (m := m) ho hp hc (by omega) (by omega)
  have z3 : prs6 ((bld6 (wrP own peer 64 D)).take m) true = { wrP own peer 64 D with dat := D.take (m - 40) } := by rw [prs6, if_pos z1, z2]; rfl
  generalize hT : (bld6 (wrP own peer 64 D)).take m = T at *
  obtain ⟨y1, y2⟩ := quo_cut (k := m - 40) c4 rfl (by omega) (by rw [← hD]; omega)
  rw [← hD] at y1 y2
  have dl : (dgE s d 5 6 9 b).dat.length = 8 + b.length := by show (bldU _ _ _).length = _; rw [bldU_len]
  have iE : inE (prs6 T true) = 0 := by rw [z3]; rfl
  have iV : inV (prs6 T true) = D.take (m - 40) := by rw [z3]; rfl
  have hsrc : (prs6 T true).src = own := by rw [z3]; rfl
  have htd : tdE (D.take (m - 40)) = 0 := by
    rw [tdE, if_pos y1, if_neg]
    rw [y2]
    show ¬ ((dgE s d 5 6 9 b).dat.take (m - 40 - 20)).length < 8
    rw [List.length_take, dl]; omega
  have hof : ofE own 2 T = 0 := by rw [ofE, if_pos (show knB 2 = true from rfl), if_pos z1, tpE, if_pos hsrc, if_pos iE, iV, htd]
  have hov : ofV own 2 r T = ⟨(prs6 T true).dst, tbK 2, tbC 2, tbR 2 r, inV (prs6 T true)⟩ := by rw [ofV, if_pos hof]
  have hmay : mayE (D.take (m - 40)) = true := by
    unfold mayE okE
    rw [y1, y2]
    have e1 : ((0 : Int) == 0) = true := rfl
    have e2 : (({ dgE s d 5 6 9 b with dat := (dgE s d 5 6 9 b).dat.take (m - 40 - 20) } : P4).off == 0) = true := rfl
    have e3 : (({ dgE s d 5 6 9 b with dat := (dgE s d 5 6 9 b).dat.take (m - 40 - 20) } : P4).proto != 1) = true := rfl
    rw [e1, e2, e3]
    show (true && true && hostB s && hostB d && (true || _)) = true
    rw [h1, h2]
    rfl
  have hr : 0 ≤ roomR r ∧ roomR r < 4294967296 := by unfold roomR; omega
  have hmk : mkE a 3 4 (roomR r) (D.take (m - 40)) = 0 := mk_rest hmay a0 a1 (by decide) (by decide) hr.1 hr.2
  refine ⟨hc, hbl, hof, ?_, ?_, ?_, ?_⟩
  · rw [hov, z3]; rfl
  · rw [hov]; rfl
  · rw [pkkE, hov, iV]; exact hmk
  · rw [pkkV, hov, iV]
    show (mkV a 3 4 (roomR r) (D.take (m - 40))).dst = s
    rw [(quote_facts hmk).2.2.2.1, y2]
    rfl
/-- What tells of a fault, wrapped and quoted whole, is told of by nothing. -/
theorem once_no {own peer : List UInt8} {k r a : Int} {F D : List UInt8} {x : Int} (ho : own.length = 16) (hp : peer.length = 16) (hm : mkE x 3 1 0 D = 0) (hF : F = bld4 (mkV x 3 1 0 D)) (hl : F.length ≤ 65535)
    (h : ofE own k (bld6 (wrP own peer 64 F)) = 0) : pkkE a (ofV own k r (bld6 (wrP own peer 64 F))) = 11 := by
  have hc : chk6 (wrP own peer 64 F) = 0 := wr_chk (by decide) (by decide) hl
  obtain ⟨z1, z2⟩ := back6 (wrP own peer 64 F) [] ho hp hc
  rw [List.append_nil] at z1 z2
  have z1' : bad6 (bld6 (wrP own peer 64 F)) true = 0 := by
    unfold bad6 at z1 ⊢
    split at z1
    · cases z1
    · rename_i g
      rw [if_neg g]
      split at z1
      · cases z1
      · rename_i g2
        rw [if_neg g2, if_neg (by rintro ⟨g, _⟩; cases g)]
  have z3 : prs6 (bld6 (wrP own peer 64 F)) true = wrP own peer 64 F := by rw [prs6, if_pos z1', z2]
  have hov : ofV own k r (bld6 (wrP own peer 64 F)) = ⟨peer, tbK k, tbC k, tbR k r, F⟩ := by rw [ofV, if_pos h, z3]; rfl
  rw [pkkE, hov]
  show mkE a _ _ _ F = 11
  apply mk_not
  rw [hF]
  exact (once_may hm (by decide)).2
end Go.Proofs.Ytkfbamippjhjcaa

/-
  Contracts of BuildFrag, the program's and the document's. Conditions are each theorem's own.
-/
namespace Go.Proofs.Ytkfbamippjhjcaa
open Go.RowKit

section
variable (f : F6) (w : World)
end
end Go.Proofs.Ytkfbamippjhjcaa

/-
  Contracts of ParseFrag, the program's and the document's. Conditions are each theorem's own.
-/
namespace Go.Proofs.Ytkfbamippjhjcaa
open Go.RowKit

set_option maxRecDepth 100000 in
set_option maxHeartbeats 1000000 in
theorem c6pfrag (A : Option Addr) (b : List UInt8) (c B : Nat) (w : World) (hR : Arg w B A c b) (hB : B ≤ w.heap.size) (hl : b.length ≤ 1000000) :
    Calls Try.prog 55 #[.slice A b.length c] w fun e w' => ∃ v, e = .returned (.tuple #[frv (prsF b), v, .int .i64 (prsG b)]) ∧ Made w w' v (rstF b) := by
  have hOR := OwnR.new w (fra frz) 87
  have hg0 := World.alloc_heap_new w (.cells (fra frz) 87)
  have hcap := hR.cap
  go_enter Try.func55, Try.ntmps55
  by_cases h8 : b.length < 8
  · have HE1 := Lib.hid (show prsF b = frz by rw [prsF, if_pos h8])
    have HE2 := Lib.hid (show rstF b = [] by rw [rstF, if_pos h8])
    have HE3 := Lib.hid (show prsG b = 3 by rw [prsG, if_pos h8])
    go_wp2_with fail
    exact bodyPost_ret (res3 rfl rfl (run_loadVar_row _ _ _ 87 (fra frz) _ _ hg0 Try.underlying87 rfl (by kernel_rfl))) rfl ⟨.slice none 0 0, by rw [HE1.out, HE3.out]; rfl, by rw [HE2.out]; exact Made.nil _ _ hOR.b⟩
  · have h8' : ¬ (b.length : Int) < 8 := by omega
    have HE1 := Lib.hid (show prsF b = rawF b by rw [prsF, if_neg h8])
    have HE2 := Lib.hid (show rstF b = b.drop 8 by rw [rstF, if_neg h8])
    have HE3 := Lib.hid (show prsG b = 0 by rw [prsG, if_neg h8])
    obtain ⟨D, hD⟩ : ∃ D, D = b.drop 8 := ⟨_, rfl⟩
    have HDl := Lib.hid (show D.length = b.length - 8 by rw [hD]; simp)
    have G0 := Lib.hid (get_one (b := b) (i := 0) (by omega))
    have G2 := Lib.hid (get_two (b := b) (i := 2) (by omega))
    have G4 := Lib.hid (get_four (b := b) (i := 4) (by omega))
    obtain ⟨F, hF⟩ : ∃ F, F = n2 b 2 := ⟨_, rfl⟩
    have hFb := n2_bd b 2
    rw [← hF] at hFb G2
    have HA := Lib.hid (show #[Value.int .i64 (byt b 0), .int .i64 (F / 8 * 8), .int .i64 (n4 b 4), .bool (decide (F % 2 = 1))] = fra (rawF b) by rw [hF]; rfl)
    have HM := Lib.hid (show bits .and .i64 F 1 = F % 2 from by have := and_mask 1 F (by omega) (by omega) (by omega); simpa using this)
    have HN := Lib.hid (show ((F % 2) != 0) = decide (F % 2 = 1) from by rw [Bool.eq_iff_iff]; simp; omega)
    have HD := Lib.hid hD
    clear hD hF h8
    have hOR' : OwnR w 87 4 (w.alloc (.cells #[.int .i64 0, .int .i64 0, .int .i64 0, .bool false] 87)) := hOR
    go_upto_region 4 with (go_at_call 53; refine (get6_any A b c B 2 2 _ (hR.below (hOR'.b.mono hB)).rd (by omega) hR.cap).mono ?_; rintro e w' ⟨rfl, rfl⟩; rw [show getV b 2 2 = F from G2.out])
    generalize w.alloc (.cells #[.int .i64 0, .int .i64 0, .int .i64 0, .bool false] 87) = W at *
    have HX := Lib.hid (show Int.tmod F 8 = F % 8 from Int.tmod_eq_emod_of_nonneg hFb.1)
    have HY := Lib.hid (show IntKind.i64.wrap (F - F % 8) = F / 8 * 8 from by rw [IntWalk.i64_in _ (by omega)]; omega)
    refine wp_region_held_drew (S := OwnR w 87 4) (by kernel_rfl) hOR'.drew (fun hS => ?_)
    refine held_pure (i := 0) (oi := ⟨some 12, _, _, _, _, _⟩) rfl (by kernel_rfl) (by kernel_rfl) (by kernel_rfl) (fun _ _ _ h => h) (by rfl) (v := ?_) (fun w hSw => ?_) hS (fun hS => ?_)
    rotate_left
    · go_simp; try with_reducible rfl
    try go_frame
    refine held_pure (i := 2) (oi := ⟨some 14, _, _, _, _, _⟩) rfl (by kernel_rfl) (by kernel_rfl) (by kernel_rfl) (fun _ _ _ h => h) (by rfl) (v := ?_) (fun w hSw => ?_) hS (fun hS => ?_)
    rotate_left
    · go_simp; try with_reducible rfl
    try go_frame
    refine held_pure (i := 3) (oi := ⟨some 15, _, _, _, _, _⟩) rfl (by kernel_rfl) (by kernel_rfl) (by kernel_rfl) (fun _ _ _ h => h) (by rfl) (v := ?_) (fun w hSw => ?_) hS (fun hS => ?_)
    rotate_left
    · go_simp; try with_reducible rfl
    try go_frame
    refine held_pure (i := 4) (oi := ⟨some 16, _, _, _, _, _⟩) rfl (by kernel_rfl) (by kernel_rfl) (by kernel_rfl) (fun _ _ _ h => h) (by rfl) (v := ?_) (fun w hSw => ?_) hS (fun hS => ?_)
    rotate_left
    · go_simp; try with_reducible rfl
    try go_frame
    refine held_pure (i := 5) (oi := ⟨some 17, _, _, _, _, _⟩) rfl (by kernel_rfl) (by kernel_rfl) (by kernel_rfl) (fun _ _ _ h => h) (by rfl) (v := .int .i64 (F / 8 * 8)) (fun w hSw => by go_simp; rw [HX.out]; exact HY.out) hS (fun hS => ?_)
    try go_frame
    refine held_pure (i := 6) (oi := ⟨some 18, _, _, _, _, _⟩) rfl (by kernel_rfl) (by kernel_rfl) (by kernel_rfl) (fun _ _ _ h => h) (by rfl) (v := ?_) (fun w hSw => ?_) hS (fun hS => ?_)
    rotate_left
    · go_simp; try with_reducible rfl
    try go_frame
    refine held_pure (i := 8) (oi := ⟨some 20, _, _, _, _, _⟩) rfl (by kernel_rfl) (by kernel_rfl) (by kernel_rfl) (fun _ _ _ h => h) (by rfl) (v := ?_) (fun w hSw => ?_) hS (fun hS => ?_)
    rotate_left
    · go_simp; try with_reducible rfl
    try go_frame
    refine held_pure (i := 9) (oi := ⟨some 21, _, _, _, _, _⟩) rfl (by kernel_rfl) (by kernel_rfl) (by kernel_rfl) (fun _ _ _ h => h) (by rfl) (v := .int .i64 (F % 2)) (fun w hSw => by go_simp; exact HM.out) hS (fun hS => ?_)
    try go_frame
    refine held_pure (i := 10) (oi := ⟨some 22, _, _, _, _, _⟩) rfl (by kernel_rfl) (by kernel_rfl) (by kernel_rfl) (fun _ _ _ h => h) (by rfl) (v := .bool (decide (F % 2 = 1))) (fun w hSw => by go_simp; exact HN.out) hS (fun hS => ?_)
    try go_frame
    refine held_pure (i := 12) (oi := ⟨some 24, _, _, _, _, _⟩) rfl (by kernel_rfl) (by kernel_rfl) (by kernel_rfl) (fun _ _ _ h => h) (by rfl) (v := ?_) (fun w hSw => ?_) hS (fun hS => ?_)
    rotate_left
    · go_simp; try with_reducible rfl
    try go_frame
    refine held_pure (i := 13) (oi := ⟨some 25, _, _, _, _, _⟩) rfl (by kernel_rfl) (by kernel_rfl) (by kernel_rfl) (fun _ _ _ h => h) (by rfl) (fun w hSw => run_cut_l rfl rfl (l := 8) rfl (by omega) HDl.out) hS (fun hS => ?_)
    try go_frame
    refine wpAnyH_ready (rs := [1]) (by kernel_rfl) (by simp) (AllReadyH.cons (o := ⟨some 13, _, _, _, _, _⟩) rfl (fun K hK => ?_) AllReadyH.nil)
    rw [if_pos (by rfl)]
    go_simp
    refine (get6_any A b c B 0 1 _ (hR.below (hS.b.mono hB)).rd (by omega) hR.cap).mono ?_
    rintro e w1 ⟨rfl, rfl⟩
    rw [show getV b 0 1 = byt b 0 from G0.out]
    show K _ _
    refine hK.out _ _ hS (fun hS => ?_)
    clear hK K
    try go_frame
    refine wpAnyH_ready (rs := [7]) (by kernel_rfl) (by simp) (AllReadyH.cons (o := ⟨some 19, _, _, _, _, _⟩) rfl (fun K hK => ?_) AllReadyH.nil)
    rw [if_pos (by rfl)]
    go_simp
    refine (get6_any A b c B 4 4 _ (hR.below (hS.b.mono hB)).rd (by omega) hR.cap).mono ?_
    rintro e w7 ⟨rfl, rfl⟩
    rw [show getV b 4 4 = n4 b 4 from G4.out]
    show K _ _
    refine hK.out _ _ hS (fun hS => ?_)
    clear hK K
    try go_frame
    refine held_pure (i := 11) (oi := ⟨some 23, _, _, _, _, _⟩) rfl (by kernel_rfl) (by kernel_rfl) (by kernel_rfl) (fun _ _ _ h => h) (by rfl) (v := .agg (fra (rawF b))) (fun w hSw => by go_simp; exact HA.out) hS (fun hS => ?_)
    try go_frame
    refine wpAnyH_ready (rs := [14]) (by kernel_rfl) (by simp) (AllReadyH.cons (o := ⟨some 26, _, _, _, _, _⟩) rfl (fun K hK => ?_) AllReadyH.nil)
    rw [if_pos (by rfl)]
    go_simp
    have y14 := hS
    refine (fresh_any _ D _ B _ (by rw [HD.out]; exact (hR.below (hS.b.mono hB)).cut_lo 8) (by rw [HDl.out]; omega)).mono ?_
    rintro e w14 ⟨v14, rfl, m14⟩
    show K _ _
    refine hK.out _ _ (hS.step m14.below) (fun hS => ?_)
    clear hK K
    try go_frame
    refine wpAnyH_ready (rs := [15]) (by kernel_rfl) (by simp) (AllReadyH.cons (o := ⟨none, _, _, _, _, _⟩) rfl (fun K hK => ?_) AllReadyH.nil)
    rw [if_pos (by rfl)]
    obtain ⟨old, ho4, hgo⟩ := hS.2
    refine wp_store_row 87 _ _ rfl w.heap.size (fra (rawF b)) rfl rfl 87 old hgo (by kernel_rfl) ho4 (by simp [fra, Value.oneCell']) ?_
    have hgz := setRow_heap _ _ _ (fra (rawF b)) _ _ hgo
    refine hK.out _ _ (hS.row _ rfl) (fun hS => ?_)
    clear hK K
    try go_frame
    refine held_pure (i := 16) (oi := ⟨some 3, _, _, _, _, _⟩) rfl (by kernel_rfl) (by kernel_rfl) (by kernel_rfl) (fun _ _ _ h => h) (by rfl) (v := ?_) (fun w hSw => ?_) hS (fun hS => ?_)
    rotate_left
    · go_simp; try with_reducible rfl
    try go_frame
    refine held_pure (i := 17) (oi := ⟨some 4, _, _, _, _, _⟩) rfl (by kernel_rfl) (by kernel_rfl) (by kernel_rfl) (fun _ _ _ h => h) (by rfl) (v := ?_) (fun w hSw => ?_) hS (fun hS => ?_)
    rotate_left
    · go_simp; try with_reducible rfl
    try go_frame
    refine wpAnyH_done (by kernel_rfl) ?_ _
    go_wp2_with fail
    exact bodyPost_ret (res3 rfl rfl (run_loadVar_row _ _ _ 87 _ _ _ hgz Try.underlying87 rfl (by kernel_rfl))) rfl ⟨v14, by rw [HE1.out, HE3.out]; rfl, by rw [HE2.out]; exact (show Made w _ v14 (b.drop 8) from HD.out ▸ m14.row y14.b y14.lt)⟩
set_option maxRecDepth 100000 in
set_option maxHeartbeats 1000000 in
theorem r6pfrag (A : Option Addr) (b : List UInt8) (c B : Nat) (w : World) (hR : Arg w B A c b) (hB : B ≤ w.heap.size) (hl : b.length ≤ 1000000) :
    Calls Try.prog 59 #[.slice A b.length c] w fun e w' => ∃ v, e = .returned (.tuple #[frv (prsF b), v, .int .i64 (prsG b)]) ∧ Made w w' v (rstF b) := by
  have hOR := OwnR.new w (fra frz) 87
  have hg0 := World.alloc_heap_new w (.cells (fra frz) 87)
  have hcap := hR.cap
  go_enter Try.func59, Try.ntmps59
  by_cases h8 : b.length < 8
  · have HE1 := Lib.hid (show prsF b = frz by rw [prsF, if_pos h8])
    have HE2 := Lib.hid (show rstF b = [] by rw [rstF, if_pos h8])
    have HE3 := Lib.hid (show prsG b = 3 by rw [prsG, if_pos h8])
    go_wp2_with fail
    exact bodyPost_ret (res3 rfl rfl (run_loadVar_row _ _ _ 87 (fra frz) _ _ hg0 Try.underlying87 rfl (by kernel_rfl))) rfl ⟨.slice none 0 0, by rw [HE1.out, HE3.out]; rfl, by rw [HE2.out]; exact Made.nil _ _ hOR.b⟩
  · have h8' : ¬ (b.length : Int) < 8 := by omega
    have HE1 := Lib.hid (show prsF b = rawF b by rw [prsF, if_neg h8])
    have HE2 := Lib.hid (show rstF b = b.drop 8 by rw [rstF, if_neg h8])
    have HE3 := Lib.hid (show prsG b = 0 by rw [prsG, if_neg h8])
    obtain ⟨D, hD⟩ : ∃ D, D = b.drop 8 := ⟨_, rfl⟩
    have HDl := Lib.hid (show D.length = b.length - 8 by rw [hD]; simp)
    have G0 := Lib.hid (get_one (b := b) (i := 0) (by omega))
    have G2 := Lib.hid (get_two (b := b) (i := 2) (by omega))
    have G4 := Lib.hid (get_four (b := b) (i := 4) (by omega))
    obtain ⟨F, hF⟩ : ∃ F, F = n2 b 2 := ⟨_, rfl⟩
    have hFb := n2_bd b 2
    rw [← hF] at hFb G2
    have HA := Lib.hid (show #[Value.int .i64 (byt b 0), .int .i64 (F / 8 * 8), .int .i64 (n4 b 4), .bool (decide (F % 2 = 1))] = fra (rawF b) by rw [hF]; rfl)
    have HN := Lib.hid (show (Int.tmod F 2 == 1) = decide (F % 2 = 1) from by rw [Int.tmod_eq_emod_of_nonneg hFb.1, Bool.eq_iff_iff]; simp)
    have EQ := Lib.hid (show IntKind.i64.wrap (IntKind.i64.wrap (Int.tdiv F 8) * 8) = F / 8 * 8 from by rw [Int.tdiv_eq_ediv_of_nonneg hFb.1, IntWalk.i64_in (F / 8) (by omega)]; exact IntWalk.i64_in _ (by omega))
    have E0 := Lib.hid (IntWalk.i64_in (byt b 0) (by have := byt_lo b 0; have := byt_hi b 0; omega))
    have HD := Lib.hid hD
    have hRD : Arg w B (cutA A c 8) (c - 8) D := by rw [hD]; exact hR.cut_lo 8
    obtain ⟨b0, off, rfl, hbB, hcell⟩ := hR.rd (by omega)
    have kc := hcell 0 (by omega)
    have hb0 : b0 < w.heap.size := by omega
    clear hD hF h8 hcell
    have hOR' : OwnR w 87 4 (w.alloc (.cells #[.int .i64 0, .int .i64 0, .int .i64 0, .bool false] 87)) := hOR
    go_upto_region 4 with (go_at_call 81; refine (rget_any _ b c B 2 2 _ (hR.below (hOR'.b.mono hB)).rd (by omega)).mono ?_; rintro e w' ⟨rfl, rfl⟩; rw [show getV b 2 2 = F from G2.out])
    go_upto_region 5 with (go_at_call 81; refine (rget_any _ b c B 4 4 _ (hR.below (hOR'.b.mono hB)).rd (by omega)).mono ?_; rintro e w' ⟨rfl, rfl⟩; rw [show getV b 4 4 = n4 b 4 from G4.out])
    generalize w.alloc (.cells #[.int .i64 0, .int .i64 0, .int .i64 0, .bool false] 87) = W at *
    refine wp_region_held_drew (S := OwnR w 87 4) (by kernel_rfl) hOR'.drew (fun hS => ?_)
    refine held_pure (i := 0) (oi := ⟨some 23, _, _, _, _, _⟩) rfl (by kernel_rfl) (by kernel_rfl) (by kernel_rfl) (fun _ _ _ h => h) (by rfl) (v := ?_) (fun w hSw => ?_) hS (fun hS => ?_)
    rotate_left
    · go_simp; try with_reducible rfl
    try go_frame
    refine held_pure (i := 1) (oi := ⟨some 24, _, _, _, _, _⟩) rfl (by kernel_rfl) (by kernel_rfl) (by kernel_rfl) (fun _ _ _ h => h) (by rfl) (v := .pointer (some ⟨b0, off, none⟩)) (fun w hSw => by go_simp; exact fun hx => absurd (congrArg List.length hx) (by rw [List.length_nil]; omega)) hS (fun hS => ?_)
    try go_frame
    refine held_pure (i := 2) (oi := ⟨some 25, _, _, _, _, _⟩) rfl (by kernel_rfl) (by kernel_rfl) (by kernel_rfl) (fun _ _ _ h => h) (by rfl) (fun w hSw => run_load_byte rfl rfl ((hSw.b.cell hb0).trans kc)) hS (fun hS => ?_)
    try go_frame
    refine held_pure (i := 3) (oi := ⟨some 26, _, _, _, _, _⟩) rfl (by kernel_rfl) (by kernel_rfl) (by kernel_rfl) (fun _ _ _ h => h) (by rfl) (v := .int .i64 (byt b 0)) (fun w hSw => by go_simp; exact E0.out) hS (fun hS => ?_)
    try go_frame
    refine held_pure (i := 4) (oi := ⟨some 27, _, _, _, _, _⟩) rfl (by kernel_rfl) (by kernel_rfl) (by kernel_rfl) (fun _ _ _ h => h) (by rfl) (v := ?_) (fun w hSw => ?_) hS (fun hS => ?_)
    rotate_left
    · go_simp; try with_reducible rfl
    try go_frame
    refine held_pure (i := 5) (oi := ⟨some 28, _, _, _, _, _⟩) rfl (by kernel_rfl) (by kernel_rfl) (by kernel_rfl) (fun _ _ _ h => h) (by rfl) (v := ?_) (fun w hSw => ?_) hS (fun hS => ?_)
    rotate_left
    · go_simp; try with_reducible rfl
    try go_frame
    refine held_pure (i := 6) (oi := ⟨some 29, _, _, _, _, _⟩) rfl (by kernel_rfl) (by kernel_rfl) (by kernel_rfl) (fun _ _ _ h => h) (by rfl) (v := .int .i64 (F / 8 * 8)) (fun w hSw => by go_simp; exact EQ.out) hS (fun hS => ?_)
    try go_frame
    refine held_pure (i := 7) (oi := ⟨some 30, _, _, _, _, _⟩) rfl (by kernel_rfl) (by kernel_rfl) (by kernel_rfl) (fun _ _ _ h => h) (by rfl) (v := ?_) (fun w hSw => ?_) hS (fun hS => ?_)
    rotate_left
    · go_simp; try with_reducible rfl
    try go_frame
    refine held_pure (i := 8) (oi := ⟨some 31, _, _, _, _, _⟩) rfl (by kernel_rfl) (by kernel_rfl) (by kernel_rfl) (fun _ _ _ h => h) (by rfl) (v := ?_) (fun w hSw => ?_) hS (fun hS => ?_)
    rotate_left
    · go_simp; try with_reducible rfl
    try go_frame
    refine held_pure (i := 9) (oi := ⟨some 32, _, _, _, _, _⟩) rfl (by kernel_rfl) (by kernel_rfl) (by kernel_rfl) (fun _ _ _ h => h) (by rfl) (v := ?_) (fun w hSw => ?_) hS (fun hS => ?_)
    rotate_left
    · go_simp; try with_reducible rfl
    try go_frame
    refine held_pure (i := 10) (oi := ⟨some 33, _, _, _, _, _⟩) rfl (by kernel_rfl) (by kernel_rfl) (by kernel_rfl) (fun _ _ _ h => h) (by rfl) (v := .bool (decide (F % 2 = 1))) (fun w hSw => by go_simp; exact HN.out) hS (fun hS => ?_)
    try go_frame
    refine held_pure (i := 11) (oi := ⟨some 34, _, _, _, _, _⟩) rfl (by kernel_rfl) (by kernel_rfl) (by kernel_rfl) (fun _ _ _ h => h) (by rfl) (v := .agg (fra (rawF b))) (fun w hSw => by go_simp; exact HA.out) hS (fun hS => ?_)
    try go_frame
    refine held_pure (i := 12) (oi := ⟨some 35, _, _, _, _, _⟩) rfl (by kernel_rfl) (by kernel_rfl) (by kernel_rfl) (fun _ _ _ h => h) (by rfl) (v := ?_) (fun w hSw => ?_) hS (fun hS => ?_)
    rotate_left
    · go_simp; try with_reducible rfl
    try go_frame
    refine held_pure (i := 13) (oi := ⟨some 36, _, _, _, _, _⟩) rfl (by kernel_rfl) (by kernel_rfl) (by kernel_rfl) (fun _ _ _ h => h) (by rfl) (fun w hSw => run_cut_l rfl rfl (l := 8) rfl (by omega) HDl.out) hS (fun hS => ?_)
    try go_frame
    refine wpAnyH_ready (rs := [14]) (by kernel_rfl) (by simp) (AllReadyH.cons (o := ⟨some 37, _, _, _, _, _⟩) rfl (fun K hK => ?_) AllReadyH.nil)
    rw [if_pos (by rfl)]
    have y14 := hS
    refine append_wp _ _ rfl (w.heap.size + 1) (.slice none 0 0) 0 [] rfl (World.ownsRow_nil _ _ _ _) B _ (c - 8) D rfl (hRD.below (hS.b.mono hB)).none_ (hRD.below (hS.b.mono hB)).rd (by have := HDl.out; omega) hS.lt ?_
    intro v14 w14 own14 grow14
    obtain ⟨A14, c14, rfl, owm14⟩ := own_made (bs := D) own14 (by simp) (by simp)
    refine hK.out _ _ (hS.step ((Below.refl _ _).grown grow14 (Nat.le_refl _) (fun k hk => by cases hk))) (fun hS => ?_)
    clear hK K
    try go_frame
    refine wpAnyH_ready (rs := [15]) (by kernel_rfl) (by simp) (AllReadyH.cons (o := ⟨none, _, _, _, _, _⟩) rfl (fun K hK => ?_) AllReadyH.nil)
    rw [if_pos (by rfl)]
    obtain ⟨old, ho4, hgo⟩ := hS.2
    refine wp_store_row 87 _ _ rfl w.heap.size (fra (rawF b)) rfl rfl 87 old hgo (by kernel_rfl) ho4 (by simp [fra, Value.oneCell']) ?_
    have hgz := setRow_heap _ _ _ (fra (rawF b)) _ _ hgo
    refine hK.out _ _ (hS.row _ rfl) (fun hS => ?_)
    clear hK K
    try go_frame
    refine held_pure (i := 16) (oi := ⟨some 3, _, _, _, _, _⟩) rfl (by kernel_rfl) (by kernel_rfl) (by kernel_rfl) (fun _ _ _ h => h) (by rfl) (v := ?_) (fun w hSw => ?_) hS (fun hS => ?_)
    rotate_left
    · go_simp; try with_reducible rfl
    try go_frame
    refine held_pure (i := 17) (oi := ⟨some 4, _, _, _, _, _⟩) rfl (by kernel_rfl) (by kernel_rfl) (by kernel_rfl) (fun _ _ _ h => h) (by rfl) (v := ?_) (fun w hSw => ?_) hS (fun hS => ?_)
    rotate_left
    · go_simp; try with_reducible rfl
    try go_frame
    refine wpAnyH_done (by kernel_rfl) ?_ _
    go_wp2_with fail
    have mm : Made w _ (.slice A14 D.length c14) D := Made.of_own (own_base (own_setRow (g := w.heap.size) (cs := fra (rawF b)) owm14 (Nat.lt_succ_self _)) (Nat.le_succ _)) hS.b
    exact bodyPost_ret (res3 rfl rfl (run_loadVar_row _ _ _ 87 _ _ _ hgz Try.underlying87 rfl (by kernel_rfl))) rfl ⟨.slice A14 D.length c14, by rw [HE1.out, HE3.out]; rfl, by rw [HE2.out]; exact (show Made w _ _ (b.drop 8) from HD.out ▸ mm)⟩
end Go.Proofs.Ytkfbamippjhjcaa

/-
  Contract of layer 6's awake: it answers true, and turns nothing that was there. Conditions: none.
-/
namespace Go.Proofs.Ytkfbamippjhjcaa
open Go.RowKit

def qa6 : P6 := ⟨0, 0, 4, 9, nul, nul, [7]⟩
theorem build6_awake (g : Nat) (w : World) (hg : w.heap[g]? = some (.cells #[.int .u8 7] 5 (0, 0))) :
    Calls Try.prog 29 #[v6v qa6 (some ⟨g, 0, none⟩) 1] w fun e w' => ∃ b o c, e = .returned (.tuple #[.slice (some ⟨b, o, none⟩) 41 c, .int .i64 0]) ∧ w'.cell? ⟨b, o, none⟩ = some (.int .u8 96) ∧ Below w.heap.size w w' := by
  have hc : chk6 qa6 = 0 := by decide
  have hlen : (bld6 qa6).length = 41 := by decide
  have h0 : byt (bld6 qa6) 0 = 96 := by decide
  refine (c6build qa6 (some ⟨g, 0, none⟩) 1 w w.heap.size rfl rfl (by decide) ⟨Rd.of_block hg (heap_lt hg) 0 (fun j hj => by
    have : j = 0 := by simpa [qa6] using hj
    subst this; rfl), by decide, fun e => by cases e⟩ (Nat.le_refl _)).mono ?_
  rintro e w' ⟨v, rfl, _, hm⟩
  obtain ⟨A, c, rfl, hl, hr, ho, hb⟩ := hm hc
  obtain ⟨b, o, rfl, hbB, hcell⟩ := hr (by rw [hlen]; omega)
  refine ⟨b, o, c, by rw [hc, hlen], ?_, hb⟩
  rw [← h0]; exact hcell 0 (by rw [hlen]; omega)
theorem equal8_awake (A A' : Option Addr) (c c' B B' : Nat) (w : World) (h : Rd w B A [4, 0, 0, 9, 0, 0, 0, 1]) (h' : Rd w B' A' [4, 0, 0, 9, 0, 0, 0, 1]) :
    Calls Try.prog 17 #[.slice A 8 c, .slice A' 8 c'] w fun e w' => e = .returned (.bool true) ∧ w = w' := by
  have := equal_any A A' [4, 0, 0, 9, 0, 0, 0, 1] [4, 0, 0, 9, 0, 0, 0, 1] c c' B B' w h h'
  rw [show decide ([(4 : UInt8), 0, 0, 9, 0, 0, 0, 1] = [4, 0, 0, 9, 0, 0, 0, 1]) = true from by decide] at this
  exact this
theorem Rd.eight (W : World) (t : TypeId) : Rd (W.alloc (.cells #[.int .u8 4, .int .u8 0, .int .u8 0, .int .u8 9, .int .u8 0, .int .u8 0, .int .u8 0, .int .u8 1] t)) (W.heap.size + 1) (some ⟨W.heap.size, 0, none⟩) [4, 0, 0, 9, 0, 0, 0, 1] :=
  Rd.of_block (g := W.heap.size) (World.alloc_heap_new W _) (Nat.lt_succ_self _) 0 (fun j hj => by
    have : j = 0 ∨ j = 1 ∨ j = 2 ∨ j = 3 ∨ j = 4 ∨ j = 5 ∨ j = 6 ∨ j = 7 := by simp at hj; omega
    rcases this with rfl | rfl | rfl | rfl | rfl | rfl | rfl | rfl <;> rfl)
theorem run_load_fr {o : Oper} {a : Act} {w : World} {x : Operand} {g : Nat} {f : F6} (ho : o.op = .load 87 x) (hx : a.eval x = .pointer (some ⟨g, 0, none⟩)) (hr : AtF w g f) :
    (execOp a.eval o).run Try.prog w = .ok (.value (frv f)) w := by
  have h := run_loadVar_mid (P := Try.prog) w g 0 87 (fra f).toList _ hr Try.underlying87 rfl (by kernel_rfl)
  unfold execOp
  simp only [ho, hx, Instr.loadAt, Instr.sureAddr, Sem.run_bind, Sem.run_pure, Result.andThen_ok, h]
  rfl
end Go.Proofs.Ytkfbamippjhjcaa
