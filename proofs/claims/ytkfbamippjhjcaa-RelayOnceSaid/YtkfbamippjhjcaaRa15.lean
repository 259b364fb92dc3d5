/-
  Contracts and lemmas on which the proofs of this seat stand (several texts in one). Conditions are each theorem's own.
-/
import Derived.Test.YtkfbamippjhjcaaRa13
import Derived.Test.YtkfbamippjhjcaaRa14
import Derived.Test.YtkfbamippjhjcaaRa6

/-
  Layer 30: Of and Packet, of the program and of the document. Conditions are each theorem's own.
-/
namespace Go.Proofs.Ytkfbamippjhjcaa
open Go.RowKit
set_option maxRecDepth 100000 in
set_option maxHeartbeats 4000000 in
theorem cRof (own : List UInt8) (m : PI) (A : Option Addr) (c B : Nat) (w : World) (h16 : own.length = 16) (hm : (Lit.int .i64 m.rest).wf = true) (hD : Arg w B A c m.dat) (hB : B ≤ w.heap.size) (hl : m.dat.length ≤ 1000000) :
    Calls Try.prog 22 #[.agg (cel own), isv m A c] w fun e w' => ∃ P p, e = .returned (.tuple #[tlv (ofV own m.typ m.rest m.dat) P p, .int .i64 (ofE own m.typ m.dat)]) ∧ Made w w' (.slice P (ofV own m.typ m.rest m.dat).inner.length p) (ofV own m.typ m.rest m.dat).inner := by
  obtain ⟨V, hV⟩ : ∃ x, x = ofV own m.typ m.rest m.dat := ⟨_, rfl⟩
  obtain ⟨E, hE⟩ : ∃ x, x = ofE own m.typ m.dat := ⟨_, rfl⟩
  rw [← hV, ← hE]
  have HEV : Hid (E ≠ 0 → V = tlz) := Lib.hid (fun h => by rw [hV]; exact ofV_no (by rw [← hE]; exact h))
  have HE := Lib.hid hE
  have HV : Hid (E = 0 → V = ⟨(prs6 m.dat true).dst, tbK m.typ, tbC m.typ, tbR m.typ m.rest, inV (prs6 m.dat true)⟩) := Lib.hid (fun h => by rw [hV, ofV, if_pos (by rw [← hE]; exact h)])
  clear hV hE
  obtain ⟨KN, hKN⟩ : ∃ x, x = knB m.typ := ⟨_, rfl⟩
  have HK : Hid (knB m.typ = KN) := Lib.hid hKN.symm
  clear hKN
  rw [isv_eq]
  go_enter Try.func22, Try.ntmps22
  go_upto_region 1 with fail
  rw [show #[.int .u8 0, .int .u8 0, .int .u8 0, .int .u8 0, .int .u8 0, .int .u8 0, .int .u8 0, .int .u8 0, .int .u8 0, .int .u8 0, .int .u8 0, .int .u8 0, .int .u8 0, .int .u8 0, .int .u8 0, .int .u8 0, .int .i64 0, .int .i64 0, .int .i64 0, .slice none 0 0] = tla tlz none 0 from rfl]
  obtain ⟨hB3, k1, k2, k3, z3⟩ := three_boxes w (.cells (cel own) 23) (.cells (isa m A c) 44) (.cells (tla tlz none 0) 46)
  generalize ((w.alloc (.cells (cel own) 23)).alloc (.cells (isa m A c) 44)).alloc (.cells (tla tlz none 0) 46) = W at *
  have rS : W.rangeAt w.heap.size 0 (row own) := range_heap k1
  have zS : w.heap.size < W.heap.size := by omega
  have atm := Atis.of_heap k2
  have kt := atm.typ
  have kc := atm.code
  have kr := atm.rest
  have kd := atm.dat
  have hDW := hD.below (hB3.mono hB)
  have hBW := Nat.le_trans hB hB3.size
  clear atm k1 k2
  go_upto_region 2 with (go_at_call 26; refine (cRtable m.typ m.code m.rest _ hm).mono ?_; rintro e w1 ⟨rfl, rfl⟩; rw [HK.out])
  obtain ⟨TK, hTK⟩ : ∃ x, x = tbK m.typ := ⟨_, rfl⟩
  obtain ⟨TC, hTC⟩ : ∃ x, x = tbC m.typ := ⟨_, rfl⟩
  obtain ⟨TR, hTR⟩ : ∃ x, x = tbR m.typ m.rest := ⟨_, rfl⟩
  rw [← hTK, ← hTC, ← hTR] at HV ⊢
  clear hTK hTC hTR kt kc kr
  by_cases hk : KN = true
  rotate_left
  · have dk : KN = false := by simpa using hk
    have HE2 : Hid (E = 8) := Lib.hid (by rw [HE.out, ofE, if_neg (by rw [HK.out]; exact hk)])
    have HV2 : Hid (V = tlz) := Lib.hid (HEV.out (by rw [HE2.out]; decide))
    clear hk
    go_wp2_with (first | ((with_reducible show wpList _ _ _ (Oper.mk _ (Op.store 46 _ _) _ _ _ _ :: _) _ _); refine tc_store (g := w.heap.size + 2) (cs := tla tlz none 0) rfl rfl k3 rfl rfl (tla_one _ _ _) ?_))
    exact bodyPost_ret (res2 rfl rfl (run_loadVar_row _ _ _ 46 (tla tlz none 0) _ _ (setRow_heap _ _ _ _ _ _ k3) Try.underlying46 rfl (by kernel_rfl))) rfl ⟨none, 0, by rw [HE2.out, HV2.out]; rfl, by rw [HV2.out]; exact Made.nil _ _ (below_row hB3 (by omega))⟩
  · have dk : KN = true := hk
    obtain ⟨hqs, hqd⟩ := prs6_len m.dat true
    have hql := prs6_dat m.dat true
    obtain ⟨Q, hQ⟩ : ∃ x, x = prs6 m.dat true := ⟨_, rfl⟩
    obtain ⟨BD, hBD⟩ : ∃ x, x = bad6 m.dat true := ⟨_, rfl⟩
    rw [← hQ] at hqs hqd hql HV
    have HQ := Lib.hid hQ
    have HBD := Lib.hid hBD
    have HQS := Lib.hid hqs
    have HQD := Lib.hid hqd
    have HQL : Hid (Q.dat.length ≤ 1000000) := Lib.hid (by omega)
    clear hQ hBD hqs hqd hql
    go_upto_region 5 with (first
      | (go_at_call 35; refine (c6quoted m.dat A c _ B hDW hBW hl).mono ?_; rintro e w2 ⟨P, p, rfl, m2⟩; rw [← HQ.out] at m2; rw [← HQ.out, ← HBD.out])
      | ((with_reducible show wpList _ _ _ (Oper.mk _ (Op.store 26 _ _) _ _ _ _ :: _) _ _); refine v6_store_new (cs := v6a Q P p) rfl rfl rfl (by rw [v6a_size _ _ _ HQS.out HQD.out]) (v6a_one _ _ _) ?_))
    obtain ⟨_, _, e2, g2, o2, x2⟩ := made_shape m2
    cases e2
    have y2 : Below w2.heap.size w2 (w2.alloc (.cells (v6a Q P p) 26)) := (Below.refl _ w2).alloc (Nat.le_refl _) _
    have k6 := World.alloc_heap_new w2 (.cells (v6a Q P p) 26)
    have z6 := heap_lt k6
    have oX := own_below o2 y2
    have xX : Below W.heap.size W (w2.alloc (.cells (v6a Q P p) 26)) := x2.trans (y2.mono x2.size)
    clear m2 g2 o2 y2
    generalize w2.alloc (.cells (v6a Q P p) 26) = X at *
    have at6 : At6 X w2.heap.size Q P p := range_heap k6
    have rS2 : X.rangeAt w.heap.size 0 (row own) := range_below rS zS xX
    have k32 := (xX.block (w.heap.size + 2) z3).trans k3
    have b2 := hB3.trans (xX.mono hB3.size)
    have kd := kd
    clear kd k3 rS x2
    by_cases hb : BD = 0
    rotate_left
    · have db : (BD != 0) = true := by simpa using hb
      have HE2 : Hid (E = BD) := Lib.hid (by rw [HE.out, ofE, if_pos (by rw [HK.out, hk]), ← HBD.out, if_neg hb])
      have HV2 : Hid (V = tlz) := Lib.hid (HEV.out (by rw [HE2.out]; assumption))
      clear hk hb
      go_wp2_with (first | ((with_reducible show wpList _ _ _ (Oper.mk _ (Op.store 46 _ _) _ _ _ _ :: _) _ _); refine tc_store (g := w.heap.size + 2) (cs := tla tlz none 0) rfl rfl k32 rfl rfl (tla_one _ _ _) ?_))
      exact bodyPost_ret (res2 rfl rfl (run_loadVar_row _ _ _ 46 (tla tlz none 0) _ _ (setRow_heap _ _ _ _ _ _ k32) Try.underlying46 rfl (by kernel_rfl))) rfl ⟨none, 0, by rw [HE2.out, HV2.out]; rfl, by rw [HV2.out]; exact Made.nil _ _ (below_row b2 (by omega))⟩
    · have db : (BD != 0) = false := by simp [hb]
      obtain ⟨S, hS0⟩ : ∃ S, S = decide (Q.src = own) := ⟨_, rfl⟩
      have eS : ∀ w, (Op.equalIn 10000 23 (.agg (cel Q.src)) (.agg (cel own))).run Try.prog w = .ok S w := fun w => by rw [hS0]; exact six_eq _ _ HQS.out h16 w
      by_cases hso : Q.src = own
      rotate_left
      · have dS : S = false := by rw [hS0]; simpa using hso
        clear hS0
        subst dS
        have HE2 : Hid (E = 8) := Lib.hid (by rw [HE.out, ofE, if_pos (by rw [HK.out, hk]), ← HBD.out, if_pos hb, ← HQ.out, tpE, if_neg hso])
        have HV2 : Hid (V = tlz) := Lib.hid (HEV.out (by rw [HE2.out]; decide))
        clear hk hb hso
        go_wp2_with (first
          | ((with_reducible show wpList _ _ _ (Oper.mk (some 40) (Op.load 23 _) _ _ _ _ :: _) _ _); refine wpList_val rfl (run_load_six rfl rfl (At6.src at6) HQS.out) ?_)
          | ((with_reducible show wpList _ _ _ (Oper.mk (some 41) (Op.load 23 _) _ _ _ _ :: _) _ _); refine wpList_val rfl (run_load_six rfl rfl rS2 h16) ?_)
          | ((with_reducible show wpList _ _ _ (Oper.mk _ (Op.store 46 _ _) _ _ _ _ :: _) _ _); refine tc_store (g := w.heap.size + 2) (cs := tla tlz none 0) rfl rfl k32 rfl rfl (tla_one _ _ _) ?_))
        exact bodyPost_ret (res2 rfl rfl (run_loadVar_row _ _ _ 46 (tla tlz none 0) _ _ (setRow_heap _ _ _ _ _ _ k32) Try.underlying46 rfl (by kernel_rfl))) rfl ⟨none, 0, by rw [HE2.out, HV2.out]; rfl, by rw [HV2.out]; exact Made.nil _ _ (below_row b2 (by omega))⟩
      · have dS : S = true := by rw [hS0]; simpa using hso
        have HSO := Lib.hid hso
        clear hS0 hso
        subst dS
        obtain ⟨IN, hIN⟩ : ∃ x, x = inV Q := ⟨_, rfl⟩
        obtain ⟨IE, hIE⟩ : ∃ x, x = inE Q := ⟨_, rfl⟩
        have hil := inV_len Q
        rw [← hIN] at HV hil
        have HIN := Lib.hid hIN
        have HIE := Lib.hid hIE
        have HIL : Hid (IN.length ≤ 1000000) := Lib.hid (by have := HQL.out; omega)
        clear hIN hIE hil
        go_upto_region 10 with (first
          | ((with_reducible show wpList _ _ _ (Oper.mk (some 40) (Op.load 23 _) _ _ _ _ :: _) _ _); refine wpList_val rfl (run_load_six rfl rfl (At6.src at6) HQS.out) ?_)
          | ((with_reducible show wpList _ _ _ (Oper.mk (some 41) (Op.load 23 _) _ _ _ _ :: _) _ _); refine wpList_val rfl (run_load_six rfl rfl rS2 h16) ?_)
          | ((with_reducible show wpList _ _ _ (Oper.mk _ (Op.load 26 _) _ _ _ _ :: _) _ _); refine wpList_val rfl (run_load_v6 rfl rfl at6 (v6l_len HQS.out HQD.out)) ?_)
          | (go_at_call 36; refine (cRwithin Q P p W.heap.size _ HQS.out HQD.out oX xX.size HQL.out).mono ?_; rintro e w3 ⟨P3, p3, rfl, o3, x3⟩; rw [← HIN.out] at o3; rw [← HIN.out, ← HIE.out]))
        have k63 := (x3.block w2.heap.size z6).trans k6
        have xX3 := xX.trans (x3.mono xX.size)
        have k33 := (x3.block (w.heap.size + 2) (heap_lt k32)).trans k32
        have b3 := b2.trans (x3.mono b2.size)
        have a3 := arg_own o3
        clear at6 rS2 eS k32 k6 oX
        by_cases hi : IE = 0
        rotate_left
        · have di : (IE != 0) = true := by simpa using hi
          have HE2 : Hid (E = IE) := Lib.hid (by rw [HE.out, ofE, if_pos (by rw [HK.out, hk]), ← HBD.out, if_pos hb, ← HQ.out, tpE, if_pos HSO.out, ← HIE.out, if_neg hi])
          have HV2 : Hid (V = tlz) := Lib.hid (HEV.out (by rw [HE2.out]; assumption))
          clear hk hb hi
          go_wp2_with (first | ((with_reducible show wpList _ _ _ (Oper.mk _ (Op.store 46 _ _) _ _ _ _ :: _) _ _); refine tc_store (g := w.heap.size + 2) (cs := tla tlz none 0) rfl rfl k33 rfl rfl (tla_one _ _ _) ?_))
          exact bodyPost_ret (res2 rfl rfl (run_loadVar_row _ _ _ 46 (tla tlz none 0) _ _ (setRow_heap _ _ _ _ _ _ k33) Try.underlying46 rfl (by kernel_rfl))) rfl ⟨none, 0, by rw [HE2.out, HV2.out]; rfl, by rw [HV2.out]; exact Made.nil _ _ (below_row b3 (by omega))⟩
        · have di : (IE != 0) = false := by simp [hi]
          obtain ⟨q, hq⟩ : ∃ x, x = prsV IN true := ⟨_, rfl⟩
          obtain ⟨PE, hPE⟩ : ∃ x, x = prsE IN true := ⟨_, rfl⟩
          have HQ4 := Lib.hid hq
          have HPE := Lib.hid hPE
          clear hq hPE
          go_upto_region 13 with (first
            | (go_at_call 37; refine (c4quoted IN P3 p3 _ w3.heap.size a3 (Nat.le_refl _) HIL.out).mono ?_; rintro e w4 ⟨O, o, D, d, rfl, mo, md⟩; rw [← HQ4.out] at mo md; rw [← HQ4.out, ← HPE.out])
            | ((with_reducible show wpList _ _ _ (Oper.mk _ (Op.store 28 _ _) _ _ _ _ :: _) _ _); refine v4_store_new (cs := v4a q O o D d) rfl rfl rfl rfl (v4a_one _ _ _ _ _) ?_))
          have y4 : Below w4.heap.size w4 (w4.alloc (.cells (v4a q O o D d) 28)) := (Below.refl _ w4).alloc (Nat.le_refl _) _
          have k10 := (ofhE (World.alloc_heap_new w4 (.cells (v4a q O o D d) 28))).dat
          have x4 : Below w3.heap.size w3 (w4.alloc (.cells (v4a q O o D d) 28)) := mo.below.trans (y4.mono mo.below.size)
          clear mo md y4
          generalize w4.alloc (.cells (v4a q O o D d) 28) = Y at *
          have k34 := (x4.block (w.heap.size + 2) (heap_lt k33)).trans k33
          have k64 := (x4.block w2.heap.size (heap_lt k63)).trans k63
          have b4 := b3.trans (x4.mono b3.size)
          have o4 := own_below o3 x4
          have at7 : At6 Y w2.heap.size Q P p := range_heap k64
          clear k33 k63 a3 o3
          by_cases hp : PE = 0
          rotate_left
          · have dp : (PE != 0) = true := by simpa using hp
            have HE2 : Hid (E = PE) := Lib.hid (by rw [HE.out, ofE, if_pos (by rw [HK.out, hk]), ← HBD.out, if_pos hb, ← HQ.out, tpE, if_pos HSO.out, ← HIE.out, if_pos hi, ← HIN.out, tdE, ← HPE.out, if_neg hp])
            have HV2 : Hid (V = tlz) := Lib.hid (HEV.out (by rw [HE2.out]; assumption))
            clear hk hb hi hp
            go_wp2_with (first | ((with_reducible show wpList _ _ _ (Oper.mk _ (Op.store 46 _ _) _ _ _ _ :: _) _ _); refine tc_store (g := w.heap.size + 2) (cs := tla tlz none 0) rfl rfl k34 rfl rfl (tla_one _ _ _) ?_))
            exact bodyPost_ret (res2 rfl rfl (run_loadVar_row _ _ _ 46 (tla tlz none 0) _ _ (setRow_heap _ _ _ _ _ _ k34) Try.underlying46 rfl (by kernel_rfl))) rfl ⟨none, 0, by rw [HE2.out, HV2.out]; rfl, by rw [HV2.out]; exact Made.nil _ _ (below_row b4 (by omega))⟩
          · have dp : (PE != 0) = false := by simp [hp]
            by_cases h8 : q.dat.length < 8
            · have d8 : decide ((q.dat.length : Int) < 8) = true := by simp; omega
              clear at7 k64
              have HE2 : Hid (E = 3) := Lib.hid (by rw [HE.out, ofE, if_pos (by rw [HK.out, hk]), ← HBD.out, if_pos hb, ← HQ.out, tpE, if_pos HSO.out, ← HIE.out, if_pos hi, ← HIN.out, tdE, ← HPE.out, if_pos hp, ← HQ4.out, if_pos h8])
              have HV2 : Hid (V = tlz) := Lib.hid (HEV.out (by rw [HE2.out]; decide))
              clear hk hb hi hp h8
              go_wp2_with (first | ((with_reducible show wpList _ _ _ (Oper.mk _ (Op.store 46 _ _) _ _ _ _ :: _) _ _); refine tc_store (g := w.heap.size + 2) (cs := tla tlz none 0) rfl rfl k34 rfl rfl (tla_one _ _ _) ?_))
              exact bodyPost_ret (res2 rfl rfl (run_loadVar_row _ _ _ 46 (tla tlz none 0) _ _ (setRow_heap _ _ _ _ _ _ k34) Try.underlying46 rfl (by kernel_rfl))) rfl ⟨none, 0, by rw [HE2.out, HV2.out]; rfl, by rw [HV2.out]; exact Made.nil _ _ (below_row b4 (by omega))⟩
            · have d8 : decide ((q.dat.length : Int) < 8) = false := by simp; omega
              have HE2 : Hid (E = 0) := Lib.hid (by rw [HE.out, ofE, if_pos (by rw [HK.out, hk]), ← HBD.out, if_pos hb, ← HQ.out, tpE, if_pos HSO.out, ← HIE.out, if_pos hi, ← HIN.out, tdE, ← HPE.out, if_pos hp, ← HQ4.out, if_neg h8])
              have HV2 := Lib.hid (HV.out HE2.out)
              clear hk hb hi hp h8
              go_wp2_with (first
                | ((with_reducible show wpList _ _ _ (Oper.mk _ (Op.load 23 _) _ _ _ _ :: _) _ _); refine wpList_val rfl (run_load_six rfl rfl (At6.dst at7 HQS.out) HQD.out) ?_)
                | ((with_reducible show wpList _ _ _ (Oper.mk _ (Op.build 46 _) _ _ _ _ :: _) _ _); refine wpList_val rfl (run_build_tc (t := ⟨Q.dst, TK, TC, TR, IN⟩) (A := P3) (c := p3) rfl rfl rfl rfl rfl rfl HQD.out) ?_)
                | ((with_reducible show wpList _ _ _ (Oper.mk _ (Op.store 46 _ _) _ _ _ _ :: _) _ _); refine tc_store (g := w.heap.size + 2) (cs := tla ⟨Q.dst, TK, TC, TR, IN⟩ P3 p3) rfl rfl k34 rfl (tla_size HQD.out) (tla_one _ _ _) ?_))
              have oR := own_setRow o4 (g := w.heap.size + 2) (cs := tla ⟨Q.dst, TK, TC, TR, IN⟩ P3 p3) z3
              exact bodyPost_ret (res2 rfl rfl (run_loadVar_row _ _ _ 46 (tla ⟨Q.dst, TK, TC, TR, IN⟩ P3 p3) _ _ (setRow_heap _ _ _ _ _ _ k34) Try.underlying46 rfl (by rw [tla_size HQD.out]; kernel_rfl))) rfl ⟨P3, p3, by rw [HE2.out, HV2.out]; rfl, by rw [HV2.out]; exact Made.of_own (own_base oR hB3.size) (below_row b4 (by omega))⟩
set_option maxRecDepth 100000 in
set_option maxHeartbeats 4000000 in
theorem rRof (own : List UInt8) (m : PI) (A : Option Addr) (c B : Nat) (w : World) (h16 : own.length = 16) (hm : (Lit.int .i64 m.rest).wf = true) (hD : Arg w B A c m.dat) (hB : B ≤ w.heap.size) (hl : m.dat.length ≤ 1000000) :
    Calls Try.prog 23 #[.agg (cel own), isv m A c] w fun e w' => ∃ P p, e = .returned (.tuple #[tlv (ofV own m.typ m.rest m.dat) P p, .int .i64 (ofE own m.typ m.dat)]) ∧ Made w w' (.slice P (ofV own m.typ m.rest m.dat).inner.length p) (ofV own m.typ m.rest m.dat).inner := by
  obtain ⟨V, hV⟩ : ∃ x, x = ofV own m.typ m.rest m.dat := ⟨_, rfl⟩
  obtain ⟨E, hE⟩ : ∃ x, x = ofE own m.typ m.dat := ⟨_, rfl⟩
  rw [← hV, ← hE]
  have HEV : Hid (E ≠ 0 → V = tlz) := Lib.hid (fun h => by rw [hV]; exact ofV_no (by rw [← hE]; exact h))
  have HE := Lib.hid hE
  have HV : Hid (E = 0 → V = ⟨(prs6 m.dat true).dst, tbK m.typ, tbC m.typ, tbR m.typ m.rest, inV (prs6 m.dat true)⟩) := Lib.hid (fun h => by rw [hV, ofV, if_pos (by rw [← hE]; exact h)])
  clear hV hE
  obtain ⟨KN, hKN⟩ : ∃ x, x = knB m.typ := ⟨_, rfl⟩
  have HK : Hid (knB m.typ = KN) := Lib.hid hKN.symm
  clear hKN
  rw [isv_eq]
  go_enter Try.func23, Try.ntmps23
  go_upto_region 1 with fail
  rw [show #[.int .u8 0, .int .u8 0, .int .u8 0, .int .u8 0, .int .u8 0, .int .u8 0, .int .u8 0, .int .u8 0, .int .u8 0, .int .u8 0, .int .u8 0, .int .u8 0, .int .u8 0, .int .u8 0, .int .u8 0, .int .u8 0, .int .i64 0, .int .i64 0, .int .i64 0, .slice none 0 0] = tla tlz none 0 from rfl]
  obtain ⟨hB3, k1, k2, k3, z3⟩ := three_boxes w (.cells (cel own) 23) (.cells (isa m A c) 44) (.cells (tla tlz none 0) 49)
  generalize ((w.alloc (.cells (cel own) 23)).alloc (.cells (isa m A c) 44)).alloc (.cells (tla tlz none 0) 49) = W at *
  have rS : W.rangeAt w.heap.size 0 (row own) := range_heap k1
  have zS : w.heap.size < W.heap.size := by omega
  have atm := Atis.of_heap k2
  have kt := atm.typ
  have kc := atm.code
  have kr := atm.rest
  have kd := atm.dat
  have hDW := hD.below (hB3.mono hB)
  have hBW := Nat.le_trans hB hB3.size
  clear atm k1 k2
  go_upto_region 2 with (go_at_call 27; refine (rRtable m.typ m.code m.rest _ hm).mono ?_; rintro e w1 ⟨rfl, rfl⟩; rw [HK.out])
  obtain ⟨TK, hTK⟩ : ∃ x, x = tbK m.typ := ⟨_, rfl⟩
  obtain ⟨TC, hTC⟩ : ∃ x, x = tbC m.typ := ⟨_, rfl⟩
  obtain ⟨TR, hTR⟩ : ∃ x, x = tbR m.typ m.rest := ⟨_, rfl⟩
  rw [← hTK, ← hTC, ← hTR] at HV ⊢
  clear hTK hTC hTR kt kc kr
  by_cases hk : KN = true
  rotate_left
  · have dk : KN = false := by simpa using hk
    have HE2 : Hid (E = 8) := Lib.hid (by rw [HE.out, ofE, if_neg (by rw [HK.out]; exact hk)])
    have HV2 : Hid (V = tlz) := Lib.hid (HEV.out (by rw [HE2.out]; decide))
    clear hk
    go_wp2_with (first | ((with_reducible show wpList _ _ _ (Oper.mk _ (Op.store 49 _ _) _ _ _ _ :: _) _ _); refine tr_store (g := w.heap.size + 2) (cs := tla tlz none 0) rfl rfl k3 rfl rfl (tla_one _ _ _) ?_))
    exact bodyPost_ret (res2 rfl rfl (run_loadVar_row _ _ _ 49 (tla tlz none 0) _ _ (setRow_heap _ _ _ _ _ _ k3) Try.underlying49 rfl (by kernel_rfl))) rfl ⟨none, 0, by rw [HE2.out, HV2.out]; rfl, by rw [HV2.out]; exact Made.nil _ _ (below_row hB3 (by omega))⟩
  · have dk : KN = true := hk
    obtain ⟨hqs, hqd⟩ := prs6_len m.dat true
    have hql := prs6_dat m.dat true
    obtain ⟨Q, hQ⟩ : ∃ x, x = prs6 m.dat true := ⟨_, rfl⟩
    obtain ⟨BD, hBD⟩ : ∃ x, x = bad6 m.dat true := ⟨_, rfl⟩
    rw [← hQ] at hqs hqd hql HV
    have HQ := Lib.hid hQ
    have HBD := Lib.hid hBD
    have HQS := Lib.hid hqs
    have HQD := Lib.hid hqd
    have HQL : Hid (Q.dat.length ≤ 1000000) := Lib.hid (by omega)
    clear hQ hBD hqs hqd hql
    go_upto_region 5 with (first
      | (go_at_call 38; refine (r6quoted m.dat A c _ B hDW hBW hl).mono ?_; rintro e w2 ⟨P, p, rfl, m2⟩; rw [← HQ.out] at m2; rw [← HQ.out, ← HBD.out])
      | ((with_reducible show wpList _ _ _ (Oper.mk _ (Op.store 26 _ _) _ _ _ _ :: _) _ _); refine v6_store_new (cs := v6a Q P p) rfl rfl rfl (by rw [v6a_size _ _ _ HQS.out HQD.out]) (v6a_one _ _ _) ?_))
    obtain ⟨_, _, e2, g2, o2, x2⟩ := made_shape m2
    cases e2
    have y2 : Below w2.heap.size w2 (w2.alloc (.cells (v6a Q P p) 26)) := (Below.refl _ w2).alloc (Nat.le_refl _) _
    have k6 := World.alloc_heap_new w2 (.cells (v6a Q P p) 26)
    have z6 := heap_lt k6
    have oX := own_below o2 y2
    have xX : Below W.heap.size W (w2.alloc (.cells (v6a Q P p) 26)) := x2.trans (y2.mono x2.size)
    clear m2 g2 o2 y2
    generalize w2.alloc (.cells (v6a Q P p) 26) = X at *
    have at6 : At6 X w2.heap.size Q P p := range_heap k6
    have rS2 : X.rangeAt w.heap.size 0 (row own) := range_below rS zS xX
    have k32 := (xX.block (w.heap.size + 2) z3).trans k3
    have b2 := hB3.trans (xX.mono hB3.size)
    have kd := kd
    clear kd k3 rS x2
    by_cases hb : BD = 0
    rotate_left
    · have db : (BD != 0) = true := by simpa using hb
      have HE2 : Hid (E = BD) := Lib.hid (by rw [HE.out, ofE, if_pos (by rw [HK.out, hk]), ← HBD.out, if_neg hb])
      have HV2 : Hid (V = tlz) := Lib.hid (HEV.out (by rw [HE2.out]; assumption))
      clear hk hb
      go_wp2_with (first | ((with_reducible show wpList _ _ _ (Oper.mk _ (Op.store 49 _ _) _ _ _ _ :: _) _ _); refine tr_store (g := w.heap.size + 2) (cs := tla tlz none 0) rfl rfl k32 rfl rfl (tla_one _ _ _) ?_))
      exact bodyPost_ret (res2 rfl rfl (run_loadVar_row _ _ _ 49 (tla tlz none 0) _ _ (setRow_heap _ _ _ _ _ _ k32) Try.underlying49 rfl (by kernel_rfl))) rfl ⟨none, 0, by rw [HE2.out, HV2.out]; rfl, by rw [HV2.out]; exact Made.nil _ _ (below_row b2 (by omega))⟩
    · have db : (BD != 0) = false := by simp [hb]
      obtain ⟨S, hS0⟩ : ∃ S, S = decide (Q.src = own) := ⟨_, rfl⟩
      have eS : ∀ w, (Op.equalIn 10000 23 (.agg (cel Q.src)) (.agg (cel own))).run Try.prog w = .ok S w := fun w => by rw [hS0]; exact six_eq _ _ HQS.out h16 w
      by_cases hso : Q.src = own
      rotate_left
      · have dS : S = false := by rw [hS0]; simpa using hso
        clear hS0
        subst dS
        have HE2 : Hid (E = 8) := Lib.hid (by rw [HE.out, ofE, if_pos (by rw [HK.out, hk]), ← HBD.out, if_pos hb, ← HQ.out, tpE, if_neg hso])
        have HV2 : Hid (V = tlz) := Lib.hid (HEV.out (by rw [HE2.out]; decide))
        clear hk hb hso
        go_wp2_with (first
          | ((with_reducible show wpList _ _ _ (Oper.mk (some 40) (Op.load 23 _) _ _ _ _ :: _) _ _); refine wpList_val rfl (run_load_six rfl rfl (At6.src at6) HQS.out) ?_)
          | ((with_reducible show wpList _ _ _ (Oper.mk (some 41) (Op.load 23 _) _ _ _ _ :: _) _ _); refine wpList_val rfl (run_load_six rfl rfl rS2 h16) ?_)
          | ((with_reducible show wpList _ _ _ (Oper.mk _ (Op.store 49 _ _) _ _ _ _ :: _) _ _); refine tr_store (g := w.heap.size + 2) (cs := tla tlz none 0) rfl rfl k32 rfl rfl (tla_one _ _ _) ?_))
        exact bodyPost_ret (res2 rfl rfl (run_loadVar_row _ _ _ 49 (tla tlz none 0) _ _ (setRow_heap _ _ _ _ _ _ k32) Try.underlying49 rfl (by kernel_rfl))) rfl ⟨none, 0, by rw [HE2.out, HV2.out]; rfl, by rw [HV2.out]; exact Made.nil _ _ (below_row b2 (by omega))⟩
      · have dS : S = true := by rw [hS0]; simpa using hso
        have HSO := Lib.hid hso
        clear hS0 hso
        subst dS
        obtain ⟨IN, hIN⟩ : ∃ x, x = inV Q := ⟨_, rfl⟩
        obtain ⟨IE, hIE⟩ : ∃ x, x = inE Q := ⟨_, rfl⟩
        have hil := inV_len Q
        rw [← hIN] at HV hil
        have HIN := Lib.hid hIN
        have HIE := Lib.hid hIE
        have HIL : Hid (IN.length ≤ 1000000) := Lib.hid (by have := HQL.out; omega)
        clear hIN hIE hil
        go_upto_region 10 with (first
          | ((with_reducible show wpList _ _ _ (Oper.mk (some 40) (Op.load 23 _) _ _ _ _ :: _) _ _); refine wpList_val rfl (run_load_six rfl rfl (At6.src at6) HQS.out) ?_)
          | ((with_reducible show wpList _ _ _ (Oper.mk (some 41) (Op.load 23 _) _ _ _ _ :: _) _ _); refine wpList_val rfl (run_load_six rfl rfl rS2 h16) ?_)
          | ((with_reducible show wpList _ _ _ (Oper.mk _ (Op.load 26 _) _ _ _ _ :: _) _ _); refine wpList_val rfl (run_load_v6 rfl rfl at6 (v6l_len HQS.out HQD.out)) ?_)
          | (go_at_call 39; refine (rRwithin Q P p W.heap.size _ HQS.out HQD.out oX xX.size HQL.out).mono ?_; rintro e w3 ⟨P3, p3, rfl, o3, x3⟩; rw [← HIN.out] at o3; rw [← HIN.out, ← HIE.out]))
        have k63 := (x3.block w2.heap.size z6).trans k6
        have xX3 := xX.trans (x3.mono xX.size)
        have k33 := (x3.block (w.heap.size + 2) (heap_lt k32)).trans k32
        have b3 := b2.trans (x3.mono b2.size)
        have a3 := arg_own o3
        clear at6 rS2 eS k32 k6 oX
        by_cases hi : IE = 0
        rotate_left
        · have di : (IE != 0) = true := by simpa using hi
          have HE2 : Hid (E = IE) := Lib.hid (by rw [HE.out, ofE, if_pos (by rw [HK.out, hk]), ← HBD.out, if_pos hb, ← HQ.out, tpE, if_pos HSO.out, ← HIE.out, if_neg hi])
          have HV2 : Hid (V = tlz) := Lib.hid (HEV.out (by rw [HE2.out]; assumption))
          clear hk hb hi
          go_wp2_with (first | ((with_reducible show wpList _ _ _ (Oper.mk _ (Op.store 49 _ _) _ _ _ _ :: _) _ _); refine tr_store (g := w.heap.size + 2) (cs := tla tlz none 0) rfl rfl k33 rfl rfl (tla_one _ _ _) ?_))
          exact bodyPost_ret (res2 rfl rfl (run_loadVar_row _ _ _ 49 (tla tlz none 0) _ _ (setRow_heap _ _ _ _ _ _ k33) Try.underlying49 rfl (by kernel_rfl))) rfl ⟨none, 0, by rw [HE2.out, HV2.out]; rfl, by rw [HV2.out]; exact Made.nil _ _ (below_row b3 (by omega))⟩
        · have di : (IE != 0) = false := by simp [hi]
          obtain ⟨q, hq⟩ : ∃ x, x = prsV IN true := ⟨_, rfl⟩
          obtain ⟨PE, hPE⟩ : ∃ x, x = prsE IN true := ⟨_, rfl⟩
          have HQ4 := Lib.hid hq
          have HPE := Lib.hid hPE
          clear hq hPE
          go_upto_region 13 with (first
            | (go_at_call 40; refine (r5quoted IN P3 p3 _ w3.heap.size a3 (Nat.le_refl _) HIL.out).mono ?_; rintro e w4 ⟨O, o, D, d, rfl, mo, md⟩; rw [← HQ4.out] at mo md; rw [← HQ4.out, ← HPE.out])
            | ((with_reducible show wpList _ _ _ (Oper.mk _ (Op.store 28 _ _) _ _ _ _ :: _) _ _); refine v4_store_new (cs := v4a q O o D d) rfl rfl rfl rfl (v4a_one _ _ _ _ _) ?_))
          have y4 : Below w4.heap.size w4 (w4.alloc (.cells (v4a q O o D d) 28)) := (Below.refl _ w4).alloc (Nat.le_refl _) _
          have k10 := (ofhE (World.alloc_heap_new w4 (.cells (v4a q O o D d) 28))).dat
          have x4 : Below w3.heap.size w3 (w4.alloc (.cells (v4a q O o D d) 28)) := mo.below.trans (y4.mono mo.below.size)
          clear mo md y4
          generalize w4.alloc (.cells (v4a q O o D d) 28) = Y at *
          have k34 := (x4.block (w.heap.size + 2) (heap_lt k33)).trans k33
          have k64 := (x4.block w2.heap.size (heap_lt k63)).trans k63
          have b4 := b3.trans (x4.mono b3.size)
          have o4 := own_below o3 x4
          have at7 : At6 Y w2.heap.size Q P p := range_heap k64
          clear k33 k63 a3 o3
          by_cases hp : PE = 0
          rotate_left
          · have dp : (PE != 0) = true := by simpa using hp
            have HE2 : Hid (E = PE) := Lib.hid (by rw [HE.out, ofE, if_pos (by rw [HK.out, hk]), ← HBD.out, if_pos hb, ← HQ.out, tpE, if_pos HSO.out, ← HIE.out, if_pos hi, ← HIN.out, tdE, ← HPE.out, if_neg hp])
            have HV2 : Hid (V = tlz) := Lib.hid (HEV.out (by rw [HE2.out]; assumption))
            clear hk hb hi hp
            go_wp2_with (first | ((with_reducible show wpList _ _ _ (Oper.mk _ (Op.store 49 _ _) _ _ _ _ :: _) _ _); refine tr_store (g := w.heap.size + 2) (cs := tla tlz none 0) rfl rfl k34 rfl rfl (tla_one _ _ _) ?_))
            exact bodyPost_ret (res2 rfl rfl (run_loadVar_row _ _ _ 49 (tla tlz none 0) _ _ (setRow_heap _ _ _ _ _ _ k34) Try.underlying49 rfl (by kernel_rfl))) rfl ⟨none, 0, by rw [HE2.out, HV2.out]; rfl, by rw [HV2.out]; exact Made.nil _ _ (below_row b4 (by omega))⟩
          · have dp : (PE != 0) = false := by simp [hp]
            by_cases h8 : q.dat.length < 8
            · have d8 : decide ((q.dat.length : Int) < 8) = true := by simp; omega
              clear at7 k64
              have HE2 : Hid (E = 3) := Lib.hid (by rw [HE.out, ofE, if_pos (by rw [HK.out, hk]), ← HBD.out, if_pos hb, ← HQ.out, tpE, if_pos HSO.out, ← HIE.out, if_pos hi, ← HIN.out, tdE, ← HPE.out, if_pos hp, ← HQ4.out, if_pos h8])
              have HV2 : Hid (V = tlz) := Lib.hid (HEV.out (by rw [HE2.out]; decide))
              clear hk hb hi hp h8
              go_wp2_with (first | ((with_reducible show wpList _ _ _ (Oper.mk _ (Op.store 49 _ _) _ _ _ _ :: _) _ _); refine tr_store (g := w.heap.size + 2) (cs := tla tlz none 0) rfl rfl k34 rfl rfl (tla_one _ _ _) ?_))
              exact bodyPost_ret (res2 rfl rfl (run_loadVar_row _ _ _ 49 (tla tlz none 0) _ _ (setRow_heap _ _ _ _ _ _ k34) Try.underlying49 rfl (by kernel_rfl))) rfl ⟨none, 0, by rw [HE2.out, HV2.out]; rfl, by rw [HV2.out]; exact Made.nil _ _ (below_row b4 (by omega))⟩
            · have d8 : decide ((q.dat.length : Int) < 8) = false := by simp; omega
              have HE2 : Hid (E = 0) := Lib.hid (by rw [HE.out, ofE, if_pos (by rw [HK.out, hk]), ← HBD.out, if_pos hb, ← HQ.out, tpE, if_pos HSO.out, ← HIE.out, if_pos hi, ← HIN.out, tdE, ← HPE.out, if_pos hp, ← HQ4.out, if_neg h8])
              have HV2 := Lib.hid (HV.out HE2.out)
              clear hk hb hi hp h8
              go_wp2_with (first
                | ((with_reducible show wpList _ _ _ (Oper.mk _ (Op.load 23 _) _ _ _ _ :: _) _ _); refine wpList_val rfl (run_load_six rfl rfl (At6.dst at7 HQS.out) HQD.out) ?_)
                | ((with_reducible show wpList _ _ _ (Oper.mk _ (Op.build 49 _) _ _ _ _ :: _) _ _); refine wpList_val rfl (run_build_tr (t := ⟨Q.dst, TK, TC, TR, IN⟩) (A := P3) (c := p3) rfl rfl rfl rfl rfl rfl HQD.out) ?_)
                | ((with_reducible show wpList _ _ _ (Oper.mk _ (Op.store 49 _ _) _ _ _ _ :: _) _ _); refine tr_store (g := w.heap.size + 2) (cs := tla ⟨Q.dst, TK, TC, TR, IN⟩ P3 p3) rfl rfl k34 rfl (tla_size HQD.out) (tla_one _ _ _) ?_))
              have oR := own_setRow o4 (g := w.heap.size + 2) (cs := tla ⟨Q.dst, TK, TC, TR, IN⟩ P3 p3) z3
              exact bodyPost_ret (res2 rfl rfl (run_loadVar_row _ _ _ 49 (tla ⟨Q.dst, TK, TC, TR, IN⟩ P3 p3) _ _ (setRow_heap _ _ _ _ _ _ k34) Try.underlying49 rfl (by rw [tla_size HQD.out]; kernel_rfl))) rfl ⟨P3, p3, by rw [HE2.out, HV2.out]; rfl, by rw [HV2.out]; exact Made.of_own (own_base oR hB3.size) (below_row b4 (by omega))⟩
set_option maxRecDepth 100000 in
set_option maxHeartbeats 4000000 in
theorem cRpacket (a : Int) (t : Tl) (A : Option Addr) (c B : Nat) (w : World) (hp : t.peer.length = 16) (hD : Arg w B A c t.inner) (hB : B ≤ w.heap.size) (hl : t.inner.length ≤ 900000) :
    Calls Try.prog 24 #[.int .i64 a, tlv t A c] w fun e w' => ∃ P' p', e = .returned (.tuple #[v4v (pkkV a t) none 0 P' p', .int .i64 (pkkE a t)]) ∧ Made w w' (.slice P' (pkkV a t).dat.length p') (pkkV a t).dat := by
  have hBW : Below w.heap.size w ((w.alloc (.cells (tla t A c) 46)).alloc (.cells (v4a p4z none 0 none 0) 28)) := below_two w _ _
  have k0 : ((w.alloc (.cells (tla t A c) 46)).alloc (.cells (v4a p4z none 0 none 0) 28)).heap[w.heap.size]? = some (.cells (tla t A c) 46 (0, 0)) := (Below.heap_alloc (w.alloc (.cells (tla t A c) 46)) _ w.heap.size (by simp)).trans (World.alloc_heap_new w _)
  have k1 : ((w.alloc (.cells (tla t A c) 46)).alloc (.cells (v4a p4z none 0 none 0) 28)).heap[w.heap.size + 1]? = some (.cells (v4a p4z none 0 none 0) 28 (0, 0)) := by
    have := World.alloc_heap_new (w.alloc (.cells (tla t A c) 46)) (.cells (v4a p4z none 0 none 0) 28)
    rwa [World.size_alloc] at this
  obtain ⟨q, hq⟩ : ∃ x, x = pkkV a t := ⟨_, rfl⟩
  obtain ⟨E, hE⟩ : ∃ x, x = pkkE a t := ⟨_, rfl⟩
  rw [← hq, ← hE]
  have HQ : Hid (mkV a t.kind t.code t.rest t.inner = q) := Lib.hid hq.symm
  have HE : Hid (mkE a t.kind t.code t.rest t.inner = E) := Lib.hid hE.symm
  clear hq hE
  unfold tlv
  go_enter Try.func24, Try.ntmps24
  go_upto_region 1 with fail
  rw [show #[.int .i64 0, .int .i64 0, .int .i64 0, .int .i64 0, .int .i64 0, .int .i64 0, .int .i64 0, .bool false, .bool false, .slice none 0 0, .slice none 0 0] = v4a p4z none 0 none 0 from rfl]
  generalize (w.alloc (.cells (tla t A c) 46)).alloc (.cells (v4a p4z none 0 none 0) 28) = W at *
  have att : AtT W w.heap.size t A c := range_heap k0
  have kk := att.kind hp
  have kc := att.code hp
  have kr := att.rest hp
  have ki := att.inner hp
  have zR := heap_lt k1
  have hDW := hD.below (hBW.mono hB)
  clear att k0
  go_wp2_with (first
    | (go_at_call 41; refine (cEmake a t.kind t.code t.rest t.inner A c B _ hDW (Nat.le_trans hB hBW.size) hl).mono ?_; rintro e w1 ⟨P, p, rfl, m1⟩; rw [HQ.out] at m1; rw [HQ.out, HE.out]; have x1 := m1.below; have k11 := (x1.block _ zR).trans k1)
    | ((with_reducible show wpList _ _ _ (Oper.mk _ (Op.store 28 _ _) _ _ _ _ :: _) _ _); refine v4_store (g := w.heap.size + 1) (cs := v4a q none 0 P p) rfl rfl k11 rfl rfl (v4a_one _ _ _ _ _) ?_))
  obtain ⟨_, _, e1, _, o1, _⟩ := made_shape m1
  cases e1
  have oR := own_setRow o1 (g := w.heap.size + 1) (cs := v4a q none 0 P p) zR
  exact bodyPost_ret (res2 rfl rfl (run_loadVar_row _ _ _ 28 (v4a q none 0 P p) _ _ (setRow_heap _ _ _ _ _ _ k11) Try.underlying28 rfl (by kernel_rfl))) rfl ⟨P, p, rfl, Made.of_own (own_base oR hBW.size) (below_row (hBW.trans (x1.mono hBW.size)) (by omega))⟩
set_option maxRecDepth 100000 in
set_option maxHeartbeats 4000000 in
theorem rRpacket (a : Int) (t : Tl) (A : Option Addr) (c B : Nat) (w : World) (hp : t.peer.length = 16) (hD : Arg w B A c t.inner) (hB : B ≤ w.heap.size) (hl : t.inner.length ≤ 900000) :
    Calls Try.prog 25 #[.int .i64 a, tlv t A c] w fun e w' => ∃ P' p', e = .returned (.tuple #[v4v (pkkV a t) none 0 P' p', .int .i64 (pkkE a t)]) ∧ Made w w' (.slice P' (pkkV a t).dat.length p') (pkkV a t).dat := by
  have hBW : Below w.heap.size w ((w.alloc (.cells (tla t A c) 49)).alloc (.cells (v4a p4z none 0 none 0) 28)) := below_two w _ _
  have k0 : ((w.alloc (.cells (tla t A c) 49)).alloc (.cells (v4a p4z none 0 none 0) 28)).heap[w.heap.size]? = some (.cells (tla t A c) 49 (0, 0)) := (Below.heap_alloc (w.alloc (.cells (tla t A c) 49)) _ w.heap.size (by simp)).trans (World.alloc_heap_new w _)
  have k1 : ((w.alloc (.cells (tla t A c) 49)).alloc (.cells (v4a p4z none 0 none 0) 28)).heap[w.heap.size + 1]? = some (.cells (v4a p4z none 0 none 0) 28 (0, 0)) := by
    have := World.alloc_heap_new (w.alloc (.cells (tla t A c) 49)) (.cells (v4a p4z none 0 none 0) 28)
    rwa [World.size_alloc] at this
  obtain ⟨q, hq⟩ : ∃ x, x = pkkV a t := ⟨_, rfl⟩
  obtain ⟨E, hE⟩ : ∃ x, x = pkkE a t := ⟨_, rfl⟩
  rw [← hq, ← hE]
  have HQ : Hid (mkV a t.kind t.code t.rest t.inner = q) := Lib.hid hq.symm
  have HE : Hid (mkE a t.kind t.code t.rest t.inner = E) := Lib.hid hE.symm
  clear hq hE
  unfold tlv
  go_enter Try.func25, Try.ntmps25
  go_upto_region 1 with fail
  rw [show #[.int .i64 0, .int .i64 0, .int .i64 0, .int .i64 0, .int .i64 0, .int .i64 0, .int .i64 0, .bool false, .bool false, .slice none 0 0, .slice none 0 0] = v4a p4z none 0 none 0 from rfl]
  generalize (w.alloc (.cells (tla t A c) 49)).alloc (.cells (v4a p4z none 0 none 0) 28) = W at *
  have att : AtT W w.heap.size t A c := range_heap k0
  have kk := att.kind hp
  have kc := att.code hp
  have kr := att.rest hp
  have ki := att.inner hp
  have zR := heap_lt k1
  have hDW := hD.below (hBW.mono hB)
  clear att k0
  go_wp2_with (first
    | (go_at_call 42; refine (rEmake a t.kind t.code t.rest t.inner A c B _ hDW (Nat.le_trans hB hBW.size) hl).mono ?_; rintro e w1 ⟨P, p, rfl, m1⟩; rw [HQ.out] at m1; rw [HQ.out, HE.out]; have x1 := m1.below; have k11 := (x1.block _ zR).trans k1)
    | ((with_reducible show wpList _ _ _ (Oper.mk _ (Op.store 28 _ _) _ _ _ _ :: _) _ _); refine v4_store (g := w.heap.size + 1) (cs := v4a q none 0 P p) rfl rfl k11 rfl rfl (v4a_one _ _ _ _ _) ?_))
  obtain ⟨_, _, e1, _, o1, _⟩ := made_shape m1
  cases e1
  have oR := own_setRow o1 (g := w.heap.size + 1) (cs := v4a q none 0 P p) zR
  exact bodyPost_ret (res2 rfl rfl (run_loadVar_row _ _ _ 28 (v4a q none 0 P p) _ _ (setRow_heap _ _ _ _ _ _ k11) Try.underlying28 rfl (by kernel_rfl))) rfl ⟨P, p, rfl, Made.of_own (own_base oR hBW.size) (below_row (hBW.trans (x1.mono hBW.size)) (by omega))⟩
end Go.Proofs.Ytkfbamippjhjcaa

/-
  What layers 29's and 30's laws call: their small examples; two numbers that came in. Conditions are each theorem's own.
-/
namespace Go.Proofs.Ytkfbamippjhjcaa
open Go.RowKit Go.ChangeShapes Go.WideShapes
def s1R : List UInt8 := 1 :: List.replicate 15 0
def s2R : List UInt8 := 2 :: List.replicate 15 0
theorem sevenR (W : World) : Arg (W.alloc (.cells #[.int .u8 7] 5)) (W.heap.size + 1) (some ⟨W.heap.size, 0, none⟩) 1 [7] :=
  ⟨Rd.of_block (World.alloc_heap_new W _) (Nat.lt_succ_self _) 0 (fun j hj => by
    have : j = 0 := by simpa using hj
    subst this; rfl), by decide, fun e => by cases e⟩
section
variable {H : Type} {enc : TypeId × Value → H} {P : Program} {w : World} {base : Nat} {t e : TypeId} {v : Value} {d : DataW H} {p : List MemPlace}
theorem get_end2 (ht : P.underlying t = some (.array 2 e)) (he : P.underlying e = some (.int .u16)) (hc : P.cellsOf e = 1) (hm : P.cellsOf t = 2) (hv : Value.okWide P w .any base t v) (h : DataW.Trod enc P w 0 (fun _ => true) true t v d p) :
    ∃ a b : Int, v = .agg #[.int .u16 a, .int .u16 b] ∧ (Lit.int .u16 a).wf = true ∧ (Lit.int .u16 b).wf = true := by
  obtain ⟨cs, rfl, _⟩ : ∃ cs, v = .agg cs ∧ True := by
    have := hv
    simp only [Value.okWide, ht] at this
    cases v <;> simp_all
  obtain ⟨fuel, hf⟩ := h
  obtain ⟨xs, k, _, _, hl, hxs, hall⟩ := DataW.trod_array ht hf
  rw [hm] at hl
  simp only [Value.cells] at hl hall
  have each : ∀ i, i < 2 → ∃ n : Int, cs.toList[i]? = some (.int .u16 n) ∧ (Lit.int .u16 n).wf = true := by
    intro i hi
    have h1 := hall i hi
    rw [hc, Nat.mul_one, List.getElem?_eq_getElem (by omega)] at h1
    obtain ⟨n, hn, _, hw⟩ := DataW.trod_int he h1
    have h0 := congrArg (·[0]?) hn
    simp only [List.getElem?_take, List.getElem?_drop, List.getElem?_cons_zero, Nat.zero_lt_one, if_true, Nat.add_zero] at h0
    exact ⟨n, h0, hw⟩
  obtain ⟨n0, e0, f0⟩ := each 0 (by decide)
  obtain ⟨n1, e1, f1⟩ := each 1 (by decide)
  clear hall hxs each hf hv
  refine ⟨n0, n1, ?_, f0, f1⟩
  obtain ⟨l⟩ := cs
  match l, hl with
  | [x0, x1], _ => simp at e0 e1; simp [e0, e1]
end
theorem four_boxes (w : World) (x y z u : Obj) : Below w.heap.size w ((((w.alloc x).alloc y).alloc z).alloc u) ∧ ((((w.alloc x).alloc y).alloc z).alloc u).heap[w.heap.size]? = some x ∧ ((((w.alloc x).alloc y).alloc z).alloc u).heap[w.heap.size + 1]? = some y ∧ ((((w.alloc x).alloc y).alloc z).alloc u).heap[w.heap.size + 2]? = some z ∧ ((((w.alloc x).alloc y).alloc z).alloc u).heap[w.heap.size + 3]? = some u ∧ w.heap.size + 3 < ((((w.alloc x).alloc y).alloc z).alloc u).heap.size := by
  obtain ⟨h, k1, k2, k3, z3⟩ := three_boxes w x y z
  have e3 : (((w.alloc x).alloc y).alloc z).heap.size = w.heap.size + 3 := by simp
  refine ⟨h.alloc h.size u, (Below.heap_alloc _ _ _ (by omega)).trans k1, (Below.heap_alloc _ _ _ (by omega)).trans k2, (Below.heap_alloc _ _ _ (by omega)).trans k3, ?_, by simp⟩
  have := World.alloc_heap_new (((w.alloc x).alloc y).alloc z) u
  rwa [e3] at this
theorem u16_bdR {a : Int} (h : (Lit.int .u16 a).wf = true) : 0 ≤ a ∧ a ≤ 65535 := by
  have := h
  simp [Lit.wf] at this
  have e1 : IntKind.u16.min = 0 := by decide
  have e2 : IntKind.u16.max = 65535 := by decide
  omega
theorem u8_bdR {a : Int} (h : (Lit.int .u8 a).wf = true) : 0 ≤ a ∧ a ≤ 255 := by
  have := h
  simp [Lit.wf] at this
  have e1 : IntKind.u8.min = 0 := by decide
  have e2 : IntKind.u8.max = 255 := by decide
  omega
set_option maxRecDepth 100000 in
set_option maxHeartbeats 4000000 in
theorem awake29 (w : World) : Calls Try.prog 9 #[] w fun e w' => e = .returned (.bool true) ∧ Below w.heap.size w w' := by
  obtain ⟨q, hq⟩ : ∃ q, q = wrV s1R s2R 64 [7] := ⟨_, rfl⟩
  have HC := Lib.hid (show chk6 (wrP s1R s2R 64 [7]) = 0 by decide)
  have HX := Lib.hid (hq.trans (wrV_ok HC.out))
  have HQ := Lib.hid hq
  have HU := Lib.hid (show uwV q = [7] by rw [HX.out]; rfl)
  have HE := Lib.hid (show uwE q = 0 by rw [HX.out]; rfl)
  have HQS := Lib.hid (show q.src.length = 16 by rw [HX.out]; rfl)
  have HQD := Lib.hid (show q.dst.length = 16 by rw [HX.out]; rfl)
  have HQL := Lib.hid (show q.dat.length ≤ 1000000 by rw [HX.out]; decide)
  obtain ⟨u, hu⟩ : ∃ u, u = uwV q := ⟨_, rfl⟩
  have HUU := Lib.hid hu
  have HU7 := Lib.hid (show u = [7] by rw [hu, HU.out])
  obtain ⟨r, hr⟩ : ∃ r, r = hpV (⟨0, 0, 0, 2, 0, 0, 0, false, false, [], []⟩ : P4) := ⟨_, rfl⟩
  have HR := Lib.hid hr
  have hrt : r.ttl = 1 := by rw [hr]; rfl
  have HRT := Lib.hid hrt
  clear hq hu hr hrt
  go_enter Try.func9, Try.ntmps9
  go_upto_region 2 with (first
    | (go_at_call 10; refine (cWwrap s1R s2R 64 [7] (some ⟨w.heap.size, 0, none⟩) 1 (w.heap.size + 1) _ rfl rfl (sevenR w) (by simp) (by decide)).mono ?_; rintro e w1 ⟨P, p, rfl, m1⟩; rw [← HQ.out] at m1; rw [← HQ.out, HC.out])
    | ((with_reducible show wpList _ _ _ (Oper.mk _ (Op.store 26 _ _) _ _ _ _ :: _) _ _); refine v6_store_new (cs := v6a q P p) rfl rfl rfl (by rw [v6a_size _ _ _ HQS.out HQD.out]) (v6a_one _ _ _) ?_))
  obtain ⟨_, _, e1, g1, _, x1⟩ := made_shape m1
  cases e1
  have x1 : Below w.heap.size w w1 := ((Below.refl w.heap.size w).alloc (Nat.le_refl _) (.cells #[.int .u8 7] 5)).trans (x1.mono (by simp))
  have k1 := World.alloc_heap_new w1 (.cells (v6a q P p) 26)
  have y1 : Below w1.heap.size w1 (w1.alloc (.cells (v6a q P p) 26)) := (Below.refl _ w1).alloc (Nat.le_refl _) _
  have b1 := x1.trans (y1.mono x1.size)
  have g1 := g1.below y1
  have z1 := y1.size
  clear m1 x1 y1
  generalize w1.alloc (.cells (v6a q P p) 26) = W1 at *
  have at1 : At6 W1 w1.heap.size q P p := range_heap k1
  go_upto_region 3 with (first
    | ((with_reducible show wpList _ _ _ (Oper.mk _ (Op.load 26 _) _ _ _ _ :: _) _ _); refine wpList_val rfl (run_load_v6 rfl rfl at1 (v6l_len HQS.out HQD.out)) ?_)
    | (go_at_call 12; refine (cWunwrap q P p w1.heap.size _ HQS.out HQD.out g1 z1 HQL.out).mono ?_; rintro e w2 ⟨P2, p2, rfl, m2⟩; rw [← HUU.out] at m2; rw [← HUU.out, HE.out]))
  obtain ⟨_, _, e2, g2, _, x2⟩ := made_shape m2
  cases e2
  have b2 := b1.trans (x2.mono b1.size)
  clear m2 at1 k1 g1 x2 z1
  go_upto_region 4 with (first
    | (go_at_call 14; refine (cWhop (⟨0, 0, 0, 2, 0, 0, 0, false, false, [], []⟩ : P4) none 0 none 0 w2 (by decide) (by decide) (by decide) 0 (Arg.nil _ _) (Arg.nil _ _) (Nat.zero_le _)).mono ?_; rintro e w3 ⟨O, o, D, d, rfl, mo, md⟩; rw [← HR.out] at mo; rw [← HR.out])
    | ((with_reducible show wpList _ _ _ (Oper.mk _ (Op.store 28 _ _) _ _ _ _ :: _) _ _); refine v4_store_new (cs := v4a r O o D d) rfl rfl rfl rfl (v4a_one _ _ _ _ _) ?_))
  have x3 := mo.below
  have k3 := World.alloc_heap_new w3 (.cells (v4a r O o D d) 28)
  have y3 : Below w3.heap.size w3 (w3.alloc (.cells (v4a r O o D d) 28)) := (Below.refl _ w3).alloc (Nat.le_refl _) _
  have x3 := x3.trans (y3.mono x3.size)
  have b3 := b2.trans (x3.mono b2.size)
  have g2 := g2.below x3
  have z3 := x3.size
  have zk := heap_lt k3
  clear mo md y3
  generalize w3.alloc (.cells (v4a r O o D d) 28) = W3 at *
  have kt := (ofhE k3).ttl
  rw [HRT.out] at kt
  have sv := sevenR W3
  have jv : Below W3.heap.size W3 (W3.alloc (.cells #[.int .u8 7] 5)) := (Below.refl _ W3).alloc (Nat.le_refl _) _
  have dU : Hid (decide (u = [7]) = true) := Lib.hid (by rw [HU7.out]; rfl)
  have bv := b3.trans (jv.mono b3.size)
  have g2 := (g2.more z3).below jv
  have kt := (jv.cell (p := ⟨w3.heap.size, 3, none⟩) zk).trans kt
  have HP := Lib.hid (show hpB (⟨0, 0, 0, 2, 0, 0, 0, false, false, [], []⟩ : P4) = true from rfl)
  have HM := Lib.hid (show roomI 1500 = 1460 from rfl)
  rw [HP.out]
  go_wp2_with (first
    | (go_at_call 17; refine (equal_any P2 (some ⟨W3.heap.size, 0, none⟩) u [7] p2 1 _ _ _ g2.rd sv.rd).mono ?_; rintro e w4 ⟨rfl, rfl⟩; rw [dU.out])
    | (go_at_call 19; refine (cWroom 1500 _ (by decide)).mono ?_; rintro e w5 ⟨rfl, x5⟩; rw [HM.out]))
  go_ret
  exact ⟨rfl, bv.trans (x5.mono bv.size)⟩
theorem two_boxes (w : World) (x y : Obj) : Below w.heap.size w ((w.alloc x).alloc y) ∧ ((w.alloc x).alloc y).heap[w.heap.size]? = some x ∧ ((w.alloc x).alloc y).heap[w.heap.size + 1]? = some y ∧ w.heap.size + 1 < ((w.alloc x).alloc y).heap.size := by
  have e1 : (w.alloc x).heap.size = w.heap.size + 1 := by simp
  refine ⟨((Below.refl _ w).alloc (Nat.le_refl _) x).alloc (by omega) y, ?_, ?_, by simp⟩
  · exact (Below.heap_alloc _ _ _ (by omega)).trans (World.alloc_heap_new w x)
  · have := World.alloc_heap_new (w.alloc x) y
    rwa [e1] at this
set_option maxRecDepth 100000 in
set_option maxHeartbeats 4000000 in
theorem awake30 (w : World) : Calls Try.prog 21 #[] w fun e w' => e = .returned (.bool true) ∧ Below w.heap.size w w' := by
  obtain ⟨D0, hD0⟩ : ∃ l, l = bld4 (dgE 167772161 3221225985 5 6 9 []) := ⟨_, rfl⟩
  obtain ⟨hu, h4, hdl⟩ := dg_chk (s := 167772161) (d := 3221225985) (b := []) (by omega) (by omega) (by decide)
  obtain ⟨hc, hbl, hof, hop, hor, hpe, hpd⟩ := reach (own := s1R) (peer := s2R) (a := 3221225474) (r := 1400) (b := []) (m := 68) rfl rfl (by decide) ⟨by decide, by decide⟩ ⟨by decide, by decide⟩ (by decide) (by decide) hD0 (by decide) (by decide) (by decide) (by decide)
  rw [show (68 + ([] : List UInt8).length) = 68 from rfl] at hbl
  rw [List.take_of_length_le (by rw [hbl]; exact Nat.le_refl _)] at hof hop hor hpe hpd
  have PD : Hid (∀ U, Calls Try.prog 28 #[.int .i64 167772161, .int .i64 3221225985, .int .i64 5, .int .i64 6, .int .i64 9, .slice none 0 0] U fun e w' => ∃ P p, e = .returned (.slice P D0.length p) ∧ Made U w' (.slice P D0.length p) D0) := Lib.hid (fun U => by
    rw [hD0]; exact plain_dgE 167772161 3221225985 5 6 9 [] none 0 U 0 (Arg.nil _ _) (Nat.zero_le _) (by simp) hu h4)
  have HDL := Lib.hid (show D0.length = 28 by rw [hD0, hdl]; rfl)
  obtain ⟨q, hq⟩ : ∃ q, q = wrV s1R s2R 64 D0 := ⟨_, rfl⟩
  have hq2 := hq.trans (wrV_ok hc)
  have HC := Lib.hid hc
  have HQ := Lib.hid hq
  have HCQ := Lib.hid (show chk6 q = 0 by rw [hq2]; exact hc)
  have HQS := Lib.hid (show q.src.length = 16 by rw [hq2]; rfl)
  have HQD := Lib.hid (show q.dst.length = 16 by rw [hq2]; rfl)
  have HQL := Lib.hid (show q.dat.length ≤ 1000000 by rw [hq2]; show D0.length ≤ _; rw [HDL.out]; decide)
  obtain ⟨T, hT⟩ : ∃ T, T = bld6 q := ⟨_, rfl⟩
  have HT := Lib.hid hT
  rw [← hq2, ← hT] at hbl hof hop hor hpe hpd
  have HTL := Lib.hid hbl
  obtain ⟨V, hV⟩ : ∃ V, V = ofV s1R 2 1400 T := ⟨_, rfl⟩
  have hvl := ofV_len s1R 2 1400 T
  have hvp := ofV_peer s1R 2 1400 T
  rw [← hV] at hop hor hpe hpd hvl hvp
  rw [hbl] at hvl
  have HV := Lib.hid hV
  have HE := Lib.hid hof
  have HVP := Lib.hid hvp
  have HVQ := Lib.hid hop
  have HVR := Lib.hid (hor.trans (show roomR 1400 = 1360 from rfl))
  have HVL := Lib.hid hvl
  obtain ⟨R, hR⟩ : ∃ R, R = pkkV 3221225474 V := ⟨_, rfl⟩
  rw [← hR] at hpd
  have HR := Lib.hid hR
  have HRE := Lib.hid hpe
  have HRD := Lib.hid hpd
  have OF : Hid (∀ U P5 p5 B, Arg U B P5 p5 T → B ≤ U.heap.size → Calls Try.prog 22 #[.agg (cel s1R), isv ⟨2, 0, 1400, T⟩ P5 p5] U fun e w' => ∃ P p, e = .returned (.tuple #[tlv V P p, .int .i64 0]) ∧ Made U w' (.slice P V.inner.length p) V.inner) := Lib.hid (fun U P5 p5 B hA hB => by
    have := cRof s1R ⟨2, 0, 1400, T⟩ P5 p5 B U rfl (by show (Lit.int .i64 1400).wf = true; decide) hA hB (by show T.length ≤ _; rw [hbl]; decide)
    dsimp only at this
    rw [← hV, hof] at this
    exact this)
  clear hD0 hu h4 hdl hc hbl hof hop hor hpe hpd hq hq2 hT hV hvl hvp hR
  go_enter Try.func21, Try.ntmps21
  go_upto_region 2 with (first
    | ((with_reducible show wpList _ _ _ (Oper.mk _ (Op.store 23 (.tmp 1) _) _ _ _ _ :: _) _ _); refine six_store (g := w.heap.size) (cs := s1R) rfl rfl (two_boxes w _ _).2.1 rfl rfl ?_; have t2 := (setRow_other _ w.heap.size (w.heap.size + 1) (cel s1R) (by omega)).trans (two_boxes w (.cells #[.int .u8 0, .int .u8 0, .int .u8 0, .int .u8 0, .int .u8 0, .int .u8 0, .int .u8 0, .int .u8 0, .int .u8 0, .int .u8 0, .int .u8 0, .int .u8 0, .int .u8 0, .int .u8 0, .int .u8 0, .int .u8 0] 23) (.cells #[.int .u8 0, .int .u8 0, .int .u8 0, .int .u8 0, .int .u8 0, .int .u8 0, .int .u8 0, .int .u8 0, .int .u8 0, .int .u8 0, .int .u8 0, .int .u8 0, .int .u8 0, .int .u8 0, .int .u8 0, .int .u8 0] 23)).2.2.1)
    | ((with_reducible show wpList _ _ _ (Oper.mk _ (Op.store 23 (.tmp 2) _) _ _ _ _ :: _) _ _); refine six_store (g := w.heap.size + 1) (cs := s2R) rfl rfl t2 rfl rfl ?_))
  have hB2 : Below w.heap.size w ((((w.alloc (.cells #[.int .u8 0, .int .u8 0, .int .u8 0, .int .u8 0, .int .u8 0, .int .u8 0, .int .u8 0, .int .u8 0, .int .u8 0, .int .u8 0, .int .u8 0, .int .u8 0, .int .u8 0, .int .u8 0, .int .u8 0, .int .u8 0] 23)).alloc (.cells #[.int .u8 0, .int .u8 0, .int .u8 0, .int .u8 0, .int .u8 0, .int .u8 0, .int .u8 0, .int .u8 0, .int .u8 0, .int .u8 0, .int .u8 0, .int .u8 0, .int .u8 0, .int .u8 0, .int .u8 0, .int .u8 0] 23)).setRow w.heap.size (cel s1R)).setRow (w.heap.size + 1) (cel s2R)) := below_row (below_row (two_boxes w _ _).1 (Nat.le_refl _)) (by omega)
  have k1 := (setRow_other (((w.alloc (.cells #[.int .u8 0, .int .u8 0, .int .u8 0, .int .u8 0, .int .u8 0, .int .u8 0, .int .u8 0, .int .u8 0, .int .u8 0, .int .u8 0, .int .u8 0, .int .u8 0, .int .u8 0, .int .u8 0, .int .u8 0, .int .u8 0] 23)).alloc (.cells #[.int .u8 0, .int .u8 0, .int .u8 0, .int .u8 0, .int .u8 0, .int .u8 0, .int .u8 0, .int .u8 0, .int .u8 0, .int .u8 0, .int .u8 0, .int .u8 0, .int .u8 0, .int .u8 0, .int .u8 0, .int .u8 0] 23)).setRow w.heap.size (cel s1R)) (w.heap.size + 1) w.heap.size (cel s2R) (by omega)).trans (setRow_heap _ w.heap.size _ (cel s1R) _ _ (two_boxes w (.cells #[.int .u8 0, .int .u8 0, .int .u8 0, .int .u8 0, .int .u8 0, .int .u8 0, .int .u8 0, .int .u8 0, .int .u8 0, .int .u8 0, .int .u8 0, .int .u8 0, .int .u8 0, .int .u8 0, .int .u8 0, .int .u8 0] 23) (.cells #[.int .u8 0, .int .u8 0, .int .u8 0, .int .u8 0, .int .u8 0, .int .u8 0, .int .u8 0, .int .u8 0, .int .u8 0, .int .u8 0, .int .u8 0, .int .u8 0, .int .u8 0, .int .u8 0, .int .u8 0, .int .u8 0] 23)).2.1)
  have k2 := setRow_heap _ (w.heap.size + 1) _ (cel s2R) _ _ t2
  have z2 := heap_lt k2
  clear t2
  generalize (((w.alloc (.cells #[.int .u8 0, .int .u8 0, .int .u8 0, .int .u8 0, .int .u8 0, .int .u8 0, .int .u8 0, .int .u8 0, .int .u8 0, .int .u8 0, .int .u8 0, .int .u8 0, .int .u8 0, .int .u8 0, .int .u8 0, .int .u8 0] 23)).alloc (.cells #[.int .u8 0, .int .u8 0, .int .u8 0, .int .u8 0, .int .u8 0, .int .u8 0, .int .u8 0, .int .u8 0, .int .u8 0, .int .u8 0, .int .u8 0, .int .u8 0, .int .u8 0, .int .u8 0, .int .u8 0, .int .u8 0] 23)).setRow w.heap.size (cel s1R)).setRow (w.heap.size + 1) (cel s2R) = W at *
  have r1 : W.rangeAt w.heap.size 0 (row s1R) := range_heap k1
  have r2 : W.rangeAt (w.heap.size + 1) 0 (row s2R) := range_heap k2
  have z1 : w.heap.size < W.heap.size := by omega
  clear k1 k2
  refine wp_region_held_drew (S := Below W.heap.size W) (by kernel_rfl) (Below.refl _ W).drew (fun hS => ?_)
  refine held_pure (i := 0) (oi := ⟨some 14, _, _, _, _, _⟩) rfl (by kernel_rfl) (by kernel_rfl) (by kernel_rfl) (fun _ _ _ h => h) (by rfl) (fun w hSw => run_load_six rfl rfl (range_below r1 z1 hSw) rfl) hS (fun hS => ?_)
  try go_frame
  refine held_pure (i := 1) (oi := ⟨some 15, _, _, _, _, _⟩) rfl (by kernel_rfl) (by kernel_rfl) (by kernel_rfl) (fun _ _ _ h => h) (by rfl) (fun w hSw => run_load_six rfl rfl (range_below r2 z2 hSw) rfl) hS (fun hS => ?_)
  try go_frame
  refine wpAnyH_ready (rs := [2, 7]) (by kernel_rfl) (by simp) (AllReadyH.cons (o := ⟨some 16, _, _, _, _, _⟩) rfl (fun K hK => ?_) (AllReadyH.cons (o := ⟨some 3, _, _, _, _, _⟩) rfl (fun K hK => ?_) AllReadyH.nil))
  · rw [if_pos (by rfl)]
    go_simp
    refine (PD.out _).mono ?_
    rintro e w2 ⟨Pa, pa, rfl, m2⟩
    obtain ⟨_, _, e2, g2, _, x2⟩ := made_shape m2
    cases e2
    have xx2 : Below W.heap.size W w2 := hS.trans (x2.mono hS.size)
    clear m2 hS
    show K _ _
    refine hK.out _ _ xx2 (fun hS => ?_)
    clear hK K
    try go_frame
    refine wpAnyH_ready (rs := [3, 7]) (by kernel_rfl) (by simp) (AllReadyH.cons (o := ⟨some 17, _, _, _, _, _⟩) rfl (fun K hK => ?_) (AllReadyH.cons (o := ⟨some 3, _, _, _, _, _⟩) rfl (fun K hK => ?_) AllReadyH.nil))
    · rw [if_pos (by rfl)]
      go_simp
      refine (cWwrap s1R s2R 64 D0 Pa pa _ _ rfl rfl g2 (Nat.le_refl _) (by rw [HDL.out]; decide)).mono ?_
      rintro e w3 ⟨P, p, rfl, m3⟩
      rw [← HQ.out] at m3
      rw [← HQ.out, HC.out]
      obtain ⟨_, _, e3, _, o3, x3⟩ := made_shape m3
      cases e3
      have o3 := own_base o3 hS.size
      have xx3 : Below W.heap.size W w3 := hS.trans (x3.mono hS.size)
      clear m3 hS x3
      show K _ _
      refine hK.out _ _ xx3 (fun hS => ?_)
      clear hK K
      try go_frame
      refine held_pure (i := 4) (oi := ⟨some 13, _, _, _, _, _⟩) rfl (by kernel_rfl) (by kernel_rfl) (by kernel_rfl) (fun _ _ _ h => h) (by rfl) (v := ?_) (fun w hSw => ?_) hS (fun hS => ?_)
      rotate_left
      · go_simp; try with_reducible rfl
      try go_frame
      refine held_pure (i := 5) (oi := ⟨some 18, _, _, _, _, _⟩) rfl (by kernel_rfl) (by kernel_rfl) (by kernel_rfl) (fun _ _ _ h => h) (by rfl) (v := ?_) (fun w hSw => ?_) hS (fun hS => ?_)
      rotate_left
      · go_simp; try with_reducible rfl
      try go_frame
      refine held_pure (i := 6) (oi := ⟨some 19, _, _, _, _, _⟩) rfl (by kernel_rfl) (by kernel_rfl) (by kernel_rfl) (fun _ _ _ h => h) (by rfl) (v := ?_) (fun w hSw => ?_) hS (fun hS => ?_)
      rotate_left
      · go_simp; try with_reducible rfl
      try go_frame
      refine wpAnyH_ready (rs := [7]) (by kernel_rfl) (by simp) (AllReadyH.cons (o := ⟨some 3, _, _, _, _, _⟩) rfl (fun K hK => ?_) AllReadyH.nil)
      rw [if_pos (by rfl)]
      go_simp
      change K _ (w3.alloc (.cells (v6a p6z none 0) 26))
      have kz : (w3.alloc (.cells (v6a p6z none 0) 26)).heap[w3.heap.size]? = _ := World.alloc_heap_new w3 (.cells (v6a p6z none 0) 26)
      have zB : W.heap.size ≤ w3.heap.size := hS.size
      have o3 := own_below o3 ((Below.refl _ w3).alloc (Nat.le_refl _) (.cells (v6a p6z none 0) 26))
      have yV : Below W.heap.size W (w3.alloc (.cells (v6a p6z none 0) 26)) := hS.alloc hS.size _
      refine hK.out _ _ yV (fun hS => ?_)
      clear hK K yV
      try go_frame
      refine wpAnyH_ready (rs := [8]) (by kernel_rfl) (by simp) (AllReadyH.cons (o := ⟨none, _, _, _, _, _⟩) rfl (fun K hK => ?_) AllReadyH.nil)
      rw [if_pos (by rfl)]
      refine wp_store_row 26 _ _ rfl (w3.heap.size) (v6a q P p) rfl rfl 26 _ kz (by rw [v6a_size _ _ _ HQS.out HQD.out]; kernel_rfl) (by rw [v6a_size _ _ _ HQS.out HQD.out]; rfl) (v6a_one _ _ _) ?_
      have kq := setRow_heap (w3.alloc (.cells (v6a p6z none 0) 26)) (w3.heap.size) _ (v6a q P p) _ _ kz
      have oQ := own_setRowR (cs' := v6a q P p) o3 kz (by decide)
      have j4 : Below W.heap.size W ((w3.alloc (.cells (v6a p6z none 0) 26)).setRow (w3.heap.size) (v6a q P p)) := below_row hS zB
      refine hK.out _ _ j4 (fun hS => ?_)
      clear hK K kz
      generalize (w3.alloc (.cells (v6a p6z none 0) 26)).setRow (w3.heap.size) (v6a q P p) = X at *
      try go_frame
      refine held_pure (i := 9) (oi := ⟨some 4, _, _, _, _, _⟩) rfl (by kernel_rfl) (by kernel_rfl) (by kernel_rfl) (fun _ _ _ h => h) (by rfl) (v := ?_) (fun w hSw => ?_) hS (fun hS => ?_)
      rotate_left
      · go_simp; try with_reducible rfl
      try go_frame
      refine wpAnyH_done (by kernel_rfl) ?_ _
      have at4 : At6 X (w3.heap.size) q P p := range_heap kq
      have gq := arg_own oQ
      clear kq oQ
      go_upto_region 4 with (first
        | ((with_reducible show wpList _ _ _ (Oper.mk _ (Op.load 26 _) _ _ _ _ :: _) _ _); refine wpList_val rfl (run_load_v6 rfl rfl at4 (v6l_len HQS.out HQD.out)) ?_)
        | (go_at_call 29; refine (c6build q P p _ X.heap.size HQS.out HQD.out HQL.out gq (Nat.le_refl _)).mono ?_; rintro e w5 ⟨v5, rfl, _, m5⟩; have m5 := m5 HCQ.out; rw [HCQ.out]; rw [← HT.out] at m5; obtain ⟨P5, p5, rfl, g5, _, x5⟩ := made_shape m5))
      have j5 := j4.trans (x5.mono j4.size)
      have r1 := range_below r1 z1 j5
      have r2 := range_below r2 z2 j5
      have b5 := hB2.trans (j5.mono hB2.size)
      have z5 := j5.size
      clear at4 gq j4 x5 m5
      go_upto_region 5 with (first
        | ((with_reducible show wpList _ _ _ (Oper.mk (some 26) (Op.load 23 _) _ _ _ _ :: _) _ _); refine wpList_val rfl (run_load_six rfl rfl r1 rfl) ?_)
        | (go_at_call 22; refine (OF.out _ P5 p5 _ g5 (Nat.le_refl _)).mono ?_; rintro e w6 ⟨P6, p6, rfl, m6⟩)
        | ((with_reducible show wpList _ _ _ (Oper.mk _ (Op.store 46 _ _) _ _ _ _ :: _) _ _); refine tc_store_new (cs := tla V P6 p6) rfl rfl rfl (tla_size HVP.out) (tla_one _ _ _) ?_))
      obtain ⟨_, _, e6, g6, _, x6⟩ := made_shape m6
      cases e6
      have k6 := World.alloc_heap_new w6 (.cells (tla V P6 p6) 46)
      have y6 : Below w6.heap.size w6 (w6.alloc (.cells (tla V P6 p6) 46)) := (Below.refl _ w6).alloc (Nat.le_refl _) _
      have j6 := x6.trans (y6.mono x6.size)
      have g6 := g6.below y6
      have z6 := heap_lt k6
      have zz6 := y6.size
      clear m6 x6 y6
      generalize w6.alloc (.cells (tla V P6 p6) 46) = X6 at *
      have r1 := range_below r1 (Nat.lt_of_lt_of_le z1 z5) j6
      have r2 := range_below r2 (Nat.lt_of_lt_of_le z2 z5) j6
      have b6 := b5.trans (j6.mono b5.size)
      have zz := j6.size
      have at6 : AtT X6 w6.heap.size V P6 p6 := range_heap k6
      clear k6
      go_upto_region 6 with (first
        | ((with_reducible show wpList _ _ _ (Oper.mk _ (Op.load 46 _) _ _ _ _ :: _) _ _); refine wpList_val rfl (run_load_tc rfl rfl at6 (tll_len HVP.out)) ?_)
        | (go_at_call 24; go_loud (refine (cRpacket 3221225474 V P6 p6 w6.heap.size _ HVP.out g6 zz6 (by have := HVL.out; omega)).mono ?_; rintro e w7 ⟨P7, p7, rfl, m7⟩; rw [← HR.out] at m7; rw [← HR.out, HRE.out]))
        | ((with_reducible show wpList _ _ _ (Oper.mk _ (Op.store 28 _ _) _ _ _ _ :: _) _ _); refine v4_store_new (cs := v4a R none 0 P7 p7) rfl rfl rfl rfl (v4a_one _ _ _ _ _) ?_))
      have x7 := m7.below
      have k7 := World.alloc_heap_new w7 (.cells (v4a R none 0 P7 p7) 28)
      have j7 : Below X6.heap.size X6 (w7.alloc (.cells (v4a R none 0 P7 p7) 28)) := x7.trans (((Below.refl _ w7).alloc (Nat.le_refl _) _).mono x7.size)
      clear m7 x7
      generalize w7.alloc (.cells (v4a R none 0 P7 p7) 28) = X7 at *
      have kd := (ofhE k7).dst
      rw [HRD.out] at kd
      have at7 := at6.below j7 z6
      have kr := at7.rest HVP.out
      rw [HVR.out] at kr
      have r2 := range_below r2 (Nat.lt_of_lt_of_le (Nat.lt_of_lt_of_le z2 z5) zz) j7
      have b7 := b6.trans (j7.mono b6.size)
      clear at6 k7 g6 r1
      have eS : ∀ w, (Op.equalIn 10000 23 (.agg (cel V.peer)) (.agg (cel s2R))).run Try.prog w = .ok true w := fun w => by rw [six_eq _ _ HVP.out rfl, HVQ.out]; simp
      go_wp2_with (first
        | ((with_reducible show wpList _ _ _ (Oper.mk (some 45) (Op.load 23 _) _ _ _ _ :: _) _ _); refine wpList_valg (by rfl) (run_load_six rfl rfl at7.peer HVP.out) ?_)
        | ((with_reducible show wpList _ _ _ (Oper.mk (some 46) (Op.load 23 _) _ _ _ _ :: _) _ _); refine wpList_valg (by rfl) (run_load_six rfl rfl r2 rfl) ?_))
      go_ret
      exact ⟨rfl, b7⟩
    · rw [if_pos (by rfl)]
      go_simp
      change K _ (w2.alloc (.cells (v6a p6z none 0) 26))
      have kz : (w2.alloc (.cells (v6a p6z none 0) 26)).heap[w2.heap.size]? = _ := World.alloc_heap_new w2 (.cells (v6a p6z none 0) 26)
      have zB : W.heap.size ≤ w2.heap.size := hS.size
      have g2 : Arg (w2.alloc (.cells (v6a p6z none 0) 26)) (w2.alloc (.cells (v6a p6z none 0) 26)).heap.size Pa pa D0 := (g2.below ((Below.refl _ w2).alloc (Nat.le_refl _) _)).more (by simp)
      have yV : Below W.heap.size W (w2.alloc (.cells (v6a p6z none 0) 26)) := hS.alloc hS.size _
      refine hK.out _ _ yV (fun hS => ?_)
      clear hK K yV
      try go_frame
      refine wpAnyH_ready (rs := [3]) (by kernel_rfl) (by simp) (AllReadyH.cons (o := ⟨some 17, _, _, _, _, _⟩) rfl (fun K hK => ?_) AllReadyH.nil)
      rw [if_pos (by rfl)]
      go_simp
      refine (cWwrap s1R s2R 64 D0 Pa pa _ _ rfl rfl g2 (Nat.le_refl _) (by rw [HDL.out]; decide)).mono ?_
      rintro e w3 ⟨P, p, rfl, m3⟩
      rw [← HQ.out] at m3
      rw [← HQ.out, HC.out]
      obtain ⟨_, _, e3, _, o3, x3⟩ := made_shape m3
      cases e3
      have o3 := own_base o3 hS.size
      have xx3 : Below W.heap.size W w3 := hS.trans (x3.mono hS.size)
      have kz := (x3.block (w2.heap.size) (heap_lt kz)).trans kz
      clear m3 hS x3
      show K _ _
      refine hK.out _ _ xx3 (fun hS => ?_)
      clear hK K
      try go_frame
      refine held_pure (i := 4) (oi := ⟨some 13, _, _, _, _, _⟩) rfl (by kernel_rfl) (by kernel_rfl) (by kernel_rfl) (fun _ _ _ h => h) (by rfl) (v := ?_) (fun w hSw => ?_) hS (fun hS => ?_)
      rotate_left
      · go_simp; try with_reducible rfl
      try go_frame
      refine held_pure (i := 5) (oi := ⟨some 18, _, _, _, _, _⟩) rfl (by kernel_rfl) (by kernel_rfl) (by kernel_rfl) (fun _ _ _ h => h) (by rfl) (v := ?_) (fun w hSw => ?_) hS (fun hS => ?_)
      rotate_left
      · go_simp; try with_reducible rfl
      try go_frame
      refine held_pure (i := 6) (oi := ⟨some 19, _, _, _, _, _⟩) rfl (by kernel_rfl) (by kernel_rfl) (by kernel_rfl) (fun _ _ _ h => h) (by rfl) (v := ?_) (fun w hSw => ?_) hS (fun hS => ?_)
      rotate_left
      · go_simp; try with_reducible rfl
      try go_frame
      refine wpAnyH_ready (rs := [8]) (by kernel_rfl) (by simp) (AllReadyH.cons (o := ⟨none, _, _, _, _, _⟩) rfl (fun K hK => ?_) AllReadyH.nil)
      rw [if_pos (by rfl)]
      refine wp_store_row 26 _ _ rfl (w2.heap.size) (v6a q P p) rfl rfl 26 _ kz (by rw [v6a_size _ _ _ HQS.out HQD.out]; kernel_rfl) (by rw [v6a_size _ _ _ HQS.out HQD.out]; rfl) (v6a_one _ _ _) ?_
      have kq := setRow_heap w3 (w2.heap.size) _ (v6a q P p) _ _ kz
      have oQ := own_setRowR (cs' := v6a q P p) o3 kz (by decide)
      have j4 : Below W.heap.size W (w3.setRow (w2.heap.size) (v6a q P p)) := below_row hS zB
      refine hK.out _ _ j4 (fun hS => ?_)
      clear hK K kz
      generalize w3.setRow (w2.heap.size) (v6a q P p) = X at *
      try go_frame
      refine held_pure (i := 9) (oi := ⟨some 4, _, _, _, _, _⟩) rfl (by kernel_rfl) (by kernel_rfl) (by kernel_rfl) (fun _ _ _ h => h) (by rfl) (v := ?_) (fun w hSw => ?_) hS (fun hS => ?_)
      rotate_left
      · go_simp; try with_reducible rfl
      try go_frame
      refine wpAnyH_done (by kernel_rfl) ?_ _
      have at4 : At6 X (w2.heap.size) q P p := range_heap kq
      have gq := arg_own oQ
      clear kq oQ
      go_upto_region 4 with (first
        | ((with_reducible show wpList _ _ _ (Oper.mk _ (Op.load 26 _) _ _ _ _ :: _) _ _); refine wpList_val rfl (run_load_v6 rfl rfl at4 (v6l_len HQS.out HQD.out)) ?_)
        | (go_at_call 29; refine (c6build q P p _ X.heap.size HQS.out HQD.out HQL.out gq (Nat.le_refl _)).mono ?_; rintro e w5 ⟨v5, rfl, _, m5⟩; have m5 := m5 HCQ.out; rw [HCQ.out]; rw [← HT.out] at m5; obtain ⟨P5, p5, rfl, g5, _, x5⟩ := made_shape m5))
      have j5 := j4.trans (x5.mono j4.size)
      have r1 := range_below r1 z1 j5
      have r2 := range_below r2 z2 j5
      have b5 := hB2.trans (j5.mono hB2.size)
      have z5 := j5.size
      clear at4 gq j4 x5 m5
      go_upto_region 5 with (first
        | ((with_reducible show wpList _ _ _ (Oper.mk (some 26) (Op.load 23 _) _ _ _ _ :: _) _ _); refine wpList_val rfl (run_load_six rfl rfl r1 rfl) ?_)
        | (go_at_call 22; refine (OF.out _ P5 p5 _ g5 (Nat.le_refl _)).mono ?_; rintro e w6 ⟨P6, p6, rfl, m6⟩)
        | ((with_reducible show wpList _ _ _ (Oper.mk _ (Op.store 46 _ _) _ _ _ _ :: _) _ _); refine tc_store_new (cs := tla V P6 p6) rfl rfl rfl (tla_size HVP.out) (tla_one _ _ _) ?_))
      obtain ⟨_, _, e6, g6, _, x6⟩ := made_shape m6
      cases e6
      have k6 := World.alloc_heap_new w6 (.cells (tla V P6 p6) 46)
      have y6 : Below w6.heap.size w6 (w6.alloc (.cells (tla V P6 p6) 46)) := (Below.refl _ w6).alloc (Nat.le_refl _) _
      have j6 := x6.trans (y6.mono x6.size)
      have g6 := g6.below y6
      have z6 := heap_lt k6
      have zz6 := y6.size
      clear m6 x6 y6
      generalize w6.alloc (.cells (tla V P6 p6) 46) = X6 at *
      have r1 := range_below r1 (Nat.lt_of_lt_of_le z1 z5) j6
      have r2 := range_below r2 (Nat.lt_of_lt_of_le z2 z5) j6
      have b6 := b5.trans (j6.mono b5.size)
      have zz := j6.size
      have at6 : AtT X6 w6.heap.size V P6 p6 := range_heap k6
      clear k6
      go_upto_region 6 with (first
        | ((with_reducible show wpList _ _ _ (Oper.mk _ (Op.load 46 _) _ _ _ _ :: _) _ _); refine wpList_val rfl (run_load_tc rfl rfl at6 (tll_len HVP.out)) ?_)
        | (go_at_call 24; go_loud (refine (cRpacket 3221225474 V P6 p6 w6.heap.size _ HVP.out g6 zz6 (by have := HVL.out; omega)).mono ?_; rintro e w7 ⟨P7, p7, rfl, m7⟩; rw [← HR.out] at m7; rw [← HR.out, HRE.out]))
        | ((with_reducible show wpList _ _ _ (Oper.mk _ (Op.store 28 _ _) _ _ _ _ :: _) _ _); refine v4_store_new (cs := v4a R none 0 P7 p7) rfl rfl rfl rfl (v4a_one _ _ _ _ _) ?_))
      have x7 := m7.below
      have k7 := World.alloc_heap_new w7 (.cells (v4a R none 0 P7 p7) 28)
      have j7 : Below X6.heap.size X6 (w7.alloc (.cells (v4a R none 0 P7 p7) 28)) := x7.trans (((Below.refl _ w7).alloc (Nat.le_refl _) _).mono x7.size)
      clear m7 x7
      generalize w7.alloc (.cells (v4a R none 0 P7 p7) 28) = X7 at *
      have kd := (ofhE k7).dst
      rw [HRD.out] at kd
      have at7 := at6.below j7 z6
      have kr := at7.rest HVP.out
      rw [HVR.out] at kr
      have r2 := range_below r2 (Nat.lt_of_lt_of_le (Nat.lt_of_lt_of_le z2 z5) zz) j7
      have b7 := b6.trans (j7.mono b6.size)
      clear at6 k7 g6 r1
      have eS : ∀ w, (Op.equalIn 10000 23 (.agg (cel V.peer)) (.agg (cel s2R))).run Try.prog w = .ok true w := fun w => by rw [six_eq _ _ HVP.out rfl, HVQ.out]; simp
      go_wp2_with (first
        | ((with_reducible show wpList _ _ _ (Oper.mk (some 45) (Op.load 23 _) _ _ _ _ :: _) _ _); refine wpList_valg (by rfl) (run_load_six rfl rfl at7.peer HVP.out) ?_)
        | ((with_reducible show wpList _ _ _ (Oper.mk (some 46) (Op.load 23 _) _ _ _ _ :: _) _ _); refine wpList_valg (by rfl) (run_load_six rfl rfl r2 rfl) ?_))
      go_ret
      exact ⟨rfl, b7⟩
  · rw [if_pos (by rfl)]
    go_simp
    change K _ (W.drew.alloc (.cells (v6a p6z none 0) 26))
    have kz : (W.drew.alloc (.cells (v6a p6z none 0) 26)).heap[W.heap.size]? = _ := World.alloc_heap_new W.drew (.cells (v6a p6z none 0) 26)
    have zB : W.heap.size ≤ W.heap.size := Nat.le_refl _
    have yV : Below W.heap.size W (W.drew.alloc (.cells (v6a p6z none 0) 26)) := hS.alloc hS.size _
    refine hK.out _ _ yV (fun hS => ?_)
    clear hK K yV
    try go_frame
    refine wpAnyH_ready (rs := [2]) (by kernel_rfl) (by simp) (AllReadyH.cons (o := ⟨some 16, _, _, _, _, _⟩) rfl (fun K hK => ?_) AllReadyH.nil)
    rw [if_pos (by rfl)]
    go_simp
    refine (PD.out _).mono ?_
    rintro e w2 ⟨Pa, pa, rfl, m2⟩
    obtain ⟨_, _, e2, g2, _, x2⟩ := made_shape m2
    cases e2
    have xx2 : Below W.heap.size W w2 := hS.trans (x2.mono hS.size)
    have kz := (x2.block (W.heap.size) (heap_lt kz)).trans kz
    clear m2 hS
    show K _ _
    refine hK.out _ _ xx2 (fun hS => ?_)
    clear hK K
    try go_frame
    refine wpAnyH_ready (rs := [3]) (by kernel_rfl) (by simp) (AllReadyH.cons (o := ⟨some 17, _, _, _, _, _⟩) rfl (fun K hK => ?_) AllReadyH.nil)
    rw [if_pos (by rfl)]
    go_simp
    refine (cWwrap s1R s2R 64 D0 Pa pa _ _ rfl rfl g2 (Nat.le_refl _) (by rw [HDL.out]; decide)).mono ?_
    rintro e w3 ⟨P, p, rfl, m3⟩
    rw [← HQ.out] at m3
    rw [← HQ.out, HC.out]
    obtain ⟨_, _, e3, _, o3, x3⟩ := made_shape m3
    cases e3
    have o3 := own_base o3 hS.size
    have xx3 : Below W.heap.size W w3 := hS.trans (x3.mono hS.size)
    have kz := (x3.block (W.heap.size) (heap_lt kz)).trans kz
    clear m3 hS x3
    show K _ _
    refine hK.out _ _ xx3 (fun hS => ?_)
    clear hK K
    try go_frame
    refine held_pure (i := 4) (oi := ⟨some 13, _, _, _, _, _⟩) rfl (by kernel_rfl) (by kernel_rfl) (by kernel_rfl) (fun _ _ _ h => h) (by rfl) (v := ?_) (fun w hSw => ?_) hS (fun hS => ?_)
    rotate_left
    · go_simp; try with_reducible rfl
    try go_frame
    refine held_pure (i := 5) (oi := ⟨some 18, _, _, _, _, _⟩) rfl (by kernel_rfl) (by kernel_rfl) (by kernel_rfl) (fun _ _ _ h => h) (by rfl) (v := ?_) (fun w hSw => ?_) hS (fun hS => ?_)
    rotate_left
    · go_simp; try with_reducible rfl
    try go_frame
    refine held_pure (i := 6) (oi := ⟨some 19, _, _, _, _, _⟩) rfl (by kernel_rfl) (by kernel_rfl) (by kernel_rfl) (fun _ _ _ h => h) (by rfl) (v := ?_) (fun w hSw => ?_) hS (fun hS => ?_)
    rotate_left
    · go_simp; try with_reducible rfl
    try go_frame
    refine wpAnyH_ready (rs := [8]) (by kernel_rfl) (by simp) (AllReadyH.cons (o := ⟨none, _, _, _, _, _⟩) rfl (fun K hK => ?_) AllReadyH.nil)
    rw [if_pos (by rfl)]
    refine wp_store_row 26 _ _ rfl (W.heap.size) (v6a q P p) rfl rfl 26 _ kz (by rw [v6a_size _ _ _ HQS.out HQD.out]; kernel_rfl) (by rw [v6a_size _ _ _ HQS.out HQD.out]; rfl) (v6a_one _ _ _) ?_
    have kq := setRow_heap w3 (W.heap.size) _ (v6a q P p) _ _ kz
    have oQ := own_setRowR (cs' := v6a q P p) o3 kz (by decide)
    have j4 : Below W.heap.size W (w3.setRow (W.heap.size) (v6a q P p)) := below_row hS zB
    refine hK.out _ _ j4 (fun hS => ?_)
    clear hK K kz
    generalize w3.setRow (W.heap.size) (v6a q P p) = X at *
    try go_frame
    refine held_pure (i := 9) (oi := ⟨some 4, _, _, _, _, _⟩) rfl (by kernel_rfl) (by kernel_rfl) (by kernel_rfl) (fun _ _ _ h => h) (by rfl) (v := ?_) (fun w hSw => ?_) hS (fun hS => ?_)
    rotate_left
    · go_simp; try with_reducible rfl
    try go_frame
    refine wpAnyH_done (by kernel_rfl) ?_ _
    have at4 : At6 X (W.heap.size) q P p := range_heap kq
    have gq := arg_own oQ
    clear kq oQ
    go_upto_region 4 with (first
      | ((with_reducible show wpList _ _ _ (Oper.mk _ (Op.load 26 _) _ _ _ _ :: _) _ _); refine wpList_val rfl (run_load_v6 rfl rfl at4 (v6l_len HQS.out HQD.out)) ?_)
      | (go_at_call 29; refine (c6build q P p _ X.heap.size HQS.out HQD.out HQL.out gq (Nat.le_refl _)).mono ?_; rintro e w5 ⟨v5, rfl, _, m5⟩; have m5 := m5 HCQ.out; rw [HCQ.out]; rw [← HT.out] at m5; obtain ⟨P5, p5, rfl, g5, _, x5⟩ := made_shape m5))
    have j5 := j4.trans (x5.mono j4.size)
    have r1 := range_below r1 z1 j5
    have r2 := range_below r2 z2 j5
    have b5 := hB2.trans (j5.mono hB2.size)
    have z5 := j5.size
    clear at4 gq j4 x5 m5
    go_upto_region 5 with (first
      | ((with_reducible show wpList _ _ _ (Oper.mk (some 26) (Op.load 23 _) _ _ _ _ :: _) _ _); refine wpList_val rfl (run_load_six rfl rfl r1 rfl) ?_)
      | (go_at_call 22; refine (OF.out _ P5 p5 _ g5 (Nat.le_refl _)).mono ?_; rintro e w6 ⟨P6, p6, rfl, m6⟩)
      | ((with_reducible show wpList _ _ _ (Oper.mk _ (Op.store 46 _ _) _ _ _ _ :: _) _ _); refine tc_store_new (cs := tla V P6 p6) rfl rfl rfl (tla_size HVP.out) (tla_one _ _ _) ?_))
    obtain ⟨_, _, e6, g6, _, x6⟩ := made_shape m6
    cases e6
    have k6 := World.alloc_heap_new w6 (.cells (tla V P6 p6) 46)
    have y6 : Below w6.heap.size w6 (w6.alloc (.cells (tla V P6 p6) 46)) := (Below.refl _ w6).alloc (Nat.le_refl _) _
    have j6 := x6.trans (y6.mono x6.size)
    have g6 := g6.below y6
    have z6 := heap_lt k6
    have zz6 := y6.size
    clear m6 x6 y6
    generalize w6.alloc (.cells (tla V P6 p6) 46) = X6 at *
    have r1 := range_below r1 (Nat.lt_of_lt_of_le z1 z5) j6
    have r2 := range_below r2 (Nat.lt_of_lt_of_le z2 z5) j6
    have b6 := b5.trans (j6.mono b5.size)
    have zz := j6.size
    have at6 : AtT X6 w6.heap.size V P6 p6 := range_heap k6
    clear k6
    go_upto_region 6 with (first
      | ((with_reducible show wpList _ _ _ (Oper.mk _ (Op.load 46 _) _ _ _ _ :: _) _ _); refine wpList_val rfl (run_load_tc rfl rfl at6 (tll_len HVP.out)) ?_)
      | (go_at_call 24; go_loud (refine (cRpacket 3221225474 V P6 p6 w6.heap.size _ HVP.out g6 zz6 (by have := HVL.out; omega)).mono ?_; rintro e w7 ⟨P7, p7, rfl, m7⟩; rw [← HR.out] at m7; rw [← HR.out, HRE.out]))
      | ((with_reducible show wpList _ _ _ (Oper.mk _ (Op.store 28 _ _) _ _ _ _ :: _) _ _); refine v4_store_new (cs := v4a R none 0 P7 p7) rfl rfl rfl rfl (v4a_one _ _ _ _ _) ?_))
    have x7 := m7.below
    have k7 := World.alloc_heap_new w7 (.cells (v4a R none 0 P7 p7) 28)
    have j7 : Below X6.heap.size X6 (w7.alloc (.cells (v4a R none 0 P7 p7) 28)) := x7.trans (((Below.refl _ w7).alloc (Nat.le_refl _) _).mono x7.size)
    clear m7 x7
    generalize w7.alloc (.cells (v4a R none 0 P7 p7) 28) = X7 at *
    have kd := (ofhE k7).dst
    rw [HRD.out] at kd
    have at7 := at6.below j7 z6
    have kr := at7.rest HVP.out
    rw [HVR.out] at kr
    have r2 := range_below r2 (Nat.lt_of_lt_of_le (Nat.lt_of_lt_of_le z2 z5) zz) j7
    have b7 := b6.trans (j7.mono b6.size)
    clear at6 k7 g6 r1
    have eS : ∀ w, (Op.equalIn 10000 23 (.agg (cel V.peer)) (.agg (cel s2R))).run Try.prog w = .ok true w := fun w => by rw [six_eq _ _ HVP.out rfl, HVQ.out]; simp
    go_wp2_with (first
      | ((with_reducible show wpList _ _ _ (Oper.mk (some 45) (Op.load 23 _) _ _ _ _ :: _) _ _); refine wpList_valg (by rfl) (run_load_six rfl rfl at7.peer HVP.out) ?_)
      | ((with_reducible show wpList _ _ _ (Oper.mk (some 46) (Op.load 23 _) _ _ _ _ :: _) _ _); refine wpList_valg (by rfl) (run_load_six rfl rfl r2 rfl) ?_))
    go_ret
    exact ⟨rfl, b7⟩
end Go.Proofs.Ytkfbamippjhjcaa

/-
  Contract of the document's Same of layer 6. Conditions are each theorem's own.
-/
namespace Go.Proofs.Ytkfbamippjhjcaa
open Go.RowKit

set_option maxRecDepth 100000 in
set_option maxHeartbeats 4000000 in
theorem r6same (q r : P6) (A : Option Addr) (c : Nat) (X : Option Addr) (d B : Nat) (w : World) (hs : q.src.length = 16) (hd : q.dst.length = 16) (hs2 : r.src.length = 16) (hd2 : r.dst.length = 16) (hB : B ≤ w.heap.size) (hQ : Rd w B A q.dat) (hR : Rd w B X r.dat) :
    Calls Try.prog 16 #[v6v q A c, v6v r X d] w fun e w' => e = .returned (.bool (same6 q r)) ∧ Below w.heap.size w w' := by
  have hBl : ∀ o1 o2, Below w.heap.size w ((w.alloc o1).alloc o2) := fun o1 o2 => ((Below.refl w.heap.size w).alloc (Nat.le_refl _) o1).alloc (by simp) o2
  have at1 : At6 ((w.alloc (.cells (v6a q A c) 26)).alloc (.cells (v6a r X d) 26)) w.heap.size q A c := (At6.new w).below ((Below.refl (w.heap.size + 1) _).alloc (by simp) _) (by omega)
  have at2 : At6 ((w.alloc (.cells (v6a q A c) 26)).alloc (.cells (v6a r X d) 26)) (w.heap.size + 1) r X d := by
    have := At6.new (q := r) (A := X) (c := d) (w.alloc (.cells (v6a q A c) 26))
    rwa [show (w.alloc (.cells (v6a q A c) 26)).heap.size = w.heap.size + 1 from by simp] at this
  have hBW := hBl (.cells (v6a q A c) 26) (.cells (v6a r X d) 26)
  have hz : w.heap.size + 1 < ((w.alloc (.cells (v6a q A c) 26)).alloc (.cells (v6a r X d) 26)).heap.size := by simp
  clear hBl
  have HS : Hid (same6 q r = ((q.traffic == r.traffic) && (q.flow == r.flow) && (q.next == r.next) && (q.hop == r.hop) && decide (q.src = r.src) && decide (q.dst = r.dst) && decide (q.dat = r.dat))) := Lib.hid rfl
  unfold v6v
  rw [show (v6l q A c).toArray = v6a q A c from rfl, show (v6l r X d).toArray = v6a r X d from rfl]
  go_enter Try.func16, Try.ntmps16
  go_upto_region 1 with fail
  generalize (w.alloc (.cells (v6a q A c) 26)).alloc (.cells (v6a r X d) 26) = W at *
  have c2 := conv_any A q.dat c B W (hQ.below (hBW.mono hB))
  have c4 := conv_any X r.dat d B W (hR.below (hBW.mono hB))
  have x0 := at1.traffic; have x1 := at1.flow; have x2 := at1.next; have x3 := at1.hop; have x6 := at1.dat hs hd
  have y0 := at2.traffic; have y1 := at2.flow; have y2 := at2.next; have y3 := at2.hop; have y6 := at2.dat hs2 hd2
  obtain ⟨S, hS0⟩ : ∃ S, S = decide (q.src = r.src) := ⟨_, rfl⟩
  obtain ⟨D, hD0⟩ : ∃ D, D = decide (q.dst = r.dst) := ⟨_, rfl⟩
  have eS : ∀ w, (Op.equalIn 10000 23 (.agg (cel q.src)) (.agg (cel r.src))).run Try.prog w = .ok S w := fun w => by rw [hS0]; exact six_eq _ _ hs hs2 w
  have eD : ∀ w, (Op.equalIn 10000 23 (.agg (cel q.dst)) (.agg (cel r.dst))).run Try.prog w = .ok D w := fun w => by rw [hD0]; exact six_eq _ _ hd hd2 w
  rw [← hS0, ← hD0] at HS
  clear hS0 hD0 hQ hR
  have q2 := strB_eq q.dat r.dat
  cases e0 : (q.traffic == r.traffic)
  · skip
    go_wp2_with (first
      | ((with_reducible show wpList _ _ _ (Oper.mk (some 33) (Op.load _ _) _ _ _ _ :: _) _ _); refine wpList_valg (by rfl) (run_load_six rfl rfl at1.src hs) ?_)
      | ((with_reducible show wpList _ _ _ (Oper.mk (some 35) (Op.load _ _) _ _ _ _ :: _) _ _); refine wpList_valg (by rfl) (run_load_six rfl rfl at2.src hs2) ?_)
      | ((with_reducible show wpList _ _ _ (Oper.mk (some 40) (Op.load _ _) _ _ _ _ :: _) _ _); refine wpList_valg (by rfl) (run_load_six rfl rfl (at1.dst hs) hd) ?_)
      | ((with_reducible show wpList _ _ _ (Oper.mk (some 42) (Op.load _ _) _ _ _ _ :: _) _ _); refine wpList_valg (by rfl) (run_load_six rfl rfl (at2.dst hs2) hd2) ?_))
    go_ret
    exact ⟨ret_bool (by rw [HS.out, e0]; rfl), hBW⟩
  · skip
    cases e1 : (q.flow == r.flow)
    · skip
      go_wp2_with (first
        | ((with_reducible show wpList _ _ _ (Oper.mk (some 33) (Op.load _ _) _ _ _ _ :: _) _ _); refine wpList_valg (by rfl) (run_load_six rfl rfl at1.src hs) ?_)
        | ((with_reducible show wpList _ _ _ (Oper.mk (some 35) (Op.load _ _) _ _ _ _ :: _) _ _); refine wpList_valg (by rfl) (run_load_six rfl rfl at2.src hs2) ?_)
        | ((with_reducible show wpList _ _ _ (Oper.mk (some 40) (Op.load _ _) _ _ _ _ :: _) _ _); refine wpList_valg (by rfl) (run_load_six rfl rfl (at1.dst hs) hd) ?_)
        | ((with_reducible show wpList _ _ _ (Oper.mk (some 42) (Op.load _ _) _ _ _ _ :: _) _ _); refine wpList_valg (by rfl) (run_load_six rfl rfl (at2.dst hs2) hd2) ?_))
      go_ret
      exact ⟨ret_bool (by rw [HS.out, e0, e1]; rfl), hBW⟩
    · skip
      cases e2 : (q.next == r.next)
      · skip
        go_wp2_with (first
          | ((with_reducible show wpList _ _ _ (Oper.mk (some 33) (Op.load _ _) _ _ _ _ :: _) _ _); refine wpList_valg (by rfl) (run_load_six rfl rfl at1.src hs) ?_)
          | ((with_reducible show wpList _ _ _ (Oper.mk (some 35) (Op.load _ _) _ _ _ _ :: _) _ _); refine wpList_valg (by rfl) (run_load_six rfl rfl at2.src hs2) ?_)
          | ((with_reducible show wpList _ _ _ (Oper.mk (some 40) (Op.load _ _) _ _ _ _ :: _) _ _); refine wpList_valg (by rfl) (run_load_six rfl rfl (at1.dst hs) hd) ?_)
          | ((with_reducible show wpList _ _ _ (Oper.mk (some 42) (Op.load _ _) _ _ _ _ :: _) _ _); refine wpList_valg (by rfl) (run_load_six rfl rfl (at2.dst hs2) hd2) ?_))
        go_ret
        exact ⟨ret_bool (by rw [HS.out, e0, e1, e2]; rfl), hBW⟩
      · skip
        cases e3 : (q.hop == r.hop)
        · skip
          go_wp2_with (first
            | ((with_reducible show wpList _ _ _ (Oper.mk (some 33) (Op.load _ _) _ _ _ _ :: _) _ _); refine wpList_valg (by rfl) (run_load_six rfl rfl at1.src hs) ?_)
            | ((with_reducible show wpList _ _ _ (Oper.mk (some 35) (Op.load _ _) _ _ _ _ :: _) _ _); refine wpList_valg (by rfl) (run_load_six rfl rfl at2.src hs2) ?_)
            | ((with_reducible show wpList _ _ _ (Oper.mk (some 40) (Op.load _ _) _ _ _ _ :: _) _ _); refine wpList_valg (by rfl) (run_load_six rfl rfl (at1.dst hs) hd) ?_)
            | ((with_reducible show wpList _ _ _ (Oper.mk (some 42) (Op.load _ _) _ _ _ _ :: _) _ _); refine wpList_valg (by rfl) (run_load_six rfl rfl (at2.dst hs2) hd2) ?_))
          go_ret
          exact ⟨ret_bool (by rw [HS.out, e0, e1, e2, e3]; rfl), hBW⟩
        · skip
          cases S
          · skip
            go_wp2_with (first
              | ((with_reducible show wpList _ _ _ (Oper.mk (some 33) (Op.load _ _) _ _ _ _ :: _) _ _); refine wpList_valg (by rfl) (run_load_six rfl rfl at1.src hs) ?_)
              | ((with_reducible show wpList _ _ _ (Oper.mk (some 35) (Op.load _ _) _ _ _ _ :: _) _ _); refine wpList_valg (by rfl) (run_load_six rfl rfl at2.src hs2) ?_)
              | ((with_reducible show wpList _ _ _ (Oper.mk (some 40) (Op.load _ _) _ _ _ _ :: _) _ _); refine wpList_valg (by rfl) (run_load_six rfl rfl (at1.dst hs) hd) ?_)
              | ((with_reducible show wpList _ _ _ (Oper.mk (some 42) (Op.load _ _) _ _ _ _ :: _) _ _); refine wpList_valg (by rfl) (run_load_six rfl rfl (at2.dst hs2) hd2) ?_))
            go_ret
            exact ⟨ret_bool (by rw [HS.out, e0, e1, e2, e3]; rfl), hBW⟩
          · skip
            cases D
            · skip
              go_wp2_with (first
                | ((with_reducible show wpList _ _ _ (Oper.mk (some 33) (Op.load _ _) _ _ _ _ :: _) _ _); refine wpList_valg (by rfl) (run_load_six rfl rfl at1.src hs) ?_)
                | ((with_reducible show wpList _ _ _ (Oper.mk (some 35) (Op.load _ _) _ _ _ _ :: _) _ _); refine wpList_valg (by rfl) (run_load_six rfl rfl at2.src hs2) ?_)
                | ((with_reducible show wpList _ _ _ (Oper.mk (some 40) (Op.load _ _) _ _ _ _ :: _) _ _); refine wpList_valg (by rfl) (run_load_six rfl rfl (at1.dst hs) hd) ?_)
                | ((with_reducible show wpList _ _ _ (Oper.mk (some 42) (Op.load _ _) _ _ _ _ :: _) _ _); refine wpList_valg (by rfl) (run_load_six rfl rfl (at2.dst hs2) hd2) ?_))
              go_ret
              exact ⟨ret_bool (by rw [HS.out, e0, e1, e2, e3]; rfl), hBW⟩
            · skip
              cases e6 : decide (q.dat = r.dat)
              · skip
                rw [e6] at q2
                go_wp2_with (first
                  | ((with_reducible show wpList _ _ _ (Oper.mk (some 33) (Op.load _ _) _ _ _ _ :: _) _ _); refine wpList_valg (by rfl) (run_load_six rfl rfl at1.src hs) ?_)
                  | ((with_reducible show wpList _ _ _ (Oper.mk (some 35) (Op.load _ _) _ _ _ _ :: _) _ _); refine wpList_valg (by rfl) (run_load_six rfl rfl at2.src hs2) ?_)
                  | ((with_reducible show wpList _ _ _ (Oper.mk (some 40) (Op.load _ _) _ _ _ _ :: _) _ _); refine wpList_valg (by rfl) (run_load_six rfl rfl (at1.dst hs) hd) ?_)
                  | ((with_reducible show wpList _ _ _ (Oper.mk (some 42) (Op.load _ _) _ _ _ _ :: _) _ _); refine wpList_valg (by rfl) (run_load_six rfl rfl (at2.dst hs2) hd2) ?_))
                go_ret
                exact ⟨ret_bool (by rw [HS.out, e0, e1, e2, e3, e6]; rfl), hBW⟩
              · skip
                rw [e6] at q2
                go_wp2_with (first
                  | ((with_reducible show wpList _ _ _ (Oper.mk (some 33) (Op.load _ _) _ _ _ _ :: _) _ _); refine wpList_valg (by rfl) (run_load_six rfl rfl at1.src hs) ?_)
                  | ((with_reducible show wpList _ _ _ (Oper.mk (some 35) (Op.load _ _) _ _ _ _ :: _) _ _); refine wpList_valg (by rfl) (run_load_six rfl rfl at2.src hs2) ?_)
                  | ((with_reducible show wpList _ _ _ (Oper.mk (some 40) (Op.load _ _) _ _ _ _ :: _) _ _); refine wpList_valg (by rfl) (run_load_six rfl rfl (at1.dst hs) hd) ?_)
                  | ((with_reducible show wpList _ _ _ (Oper.mk (some 42) (Op.load _ _) _ _ _ _ :: _) _ _); refine wpList_valg (by rfl) (run_load_six rfl rfl (at2.dst hs2) hd2) ?_))
                go_ret
                exact ⟨ret_bool (by rw [HS.out, e0, e1, e2, e3, e6]; rfl), hBW⟩
end Go.Proofs.Ytkfbamippjhjcaa
