/-
  For all bytes and numbers goosepondlaw32.B4Sends answers true: what goes into the softwire of a datagram is as small as was asked, goes from the element to the AFTR, and is, put together, the datagram with a TTL of one less. Conditions: none but the statement's own.
-/
import Derived.Test.YtpoigngpdcmipaaGreatRows
import Derived.WalkKit
import Derived.ProofKit
import Derived.OpenShut
import Derived.ChangeOld
import Derived.Below
import Derived.Test.YtpoigngpdcmipaaGreatMa1
import Derived.Test.YtpoigngpdcmipaaGreatMa14
namespace Go.Proofs.YtpoigngpdcmipaaGreat.b4Sends
open Go.ChangeShapes Go.WideShapes Go.ChangeAt Go.RowKit
set_option linter.unusedVariables false
attribute [local go_sem] Oper.semAt_some

theorem own : ownKnob Tryz.prog.godebug = none := by kernel_rfl
theorem laidOut : laidOutB Tryz.prog = true := by kernel_rfl

/-! ### The walk -/
set_option maxRecDepth 100000 in
set_option maxHeartbeats 4000000 in
theorem walk (A0 : Option Addr) (c0 : Nat) (b0 : List UInt8) (a1 : Int) (a2 : Int) (w : World) (h0 : Arg w w.heap.size A0 c0 b0) (m0 : c0 ≤ maxLen) (w1 : (Lit.int .u8 a1).wf = true) (w2 : (Lit.int .u8 a2).wf = true) :
    Calls Tryz.prog 3 #[.slice A0 b0.length c0, .int .u8 a1, .int .u8 a2] w fun e w' => e = .returned (.bool true) ∧ Below w.heap.size w w' := by
  obtain ⟨u1, u2⟩ := u8_bdE w1
  obtain ⟨u3, u4⟩ := u8_bdE w2
  clear w1 w2
  by_cases hbig : 4000 < b0.length
  · have d0 : decide (4000 < (b0.length : Int)) = true := by simp; omega
    go_enter Tryz.func3, Tryz.ntmps3
    go_wp2_with (go_at_call 6; refine (awake32 _).mono ?_; rintro e v1 ⟨rfl, x1⟩)
    go_ret
    exact ⟨rfl, x1⟩
  have d0 : decide (4000 < (b0.length : Int)) = false := by simp; omega
  obtain ⟨m, hm⟩ : ∃ m : Int, m = 1280 + a2 := ⟨_, rfl⟩
  obtain ⟨T, hT⟩ : ∃ T : Int, T = 2 + a1 % 200 := ⟨_, rfl⟩
  have hm1 : 1280 ≤ m ∧ m ≤ 65535 := by omega
  have hm2 : 1280 ≤ m ∧ m ≤ 65535 := by omega
  obtain ⟨q, r, P, hq, hS, hu⟩ := send_ok (b := b0) hm1 (show 2 ≤ T ∧ T ≤ 255 by omega) (by omega)
  have HM := Lib.hid hm
  have HT := Lib.hid hT
  have HQ := Lib.hid hq
  have HS := Lib.hid hS
  have HU := Lib.hid hu
  have HMM := Lib.hid hm1
  have HL0 := Lib.hid (show b0.length ≤ 4000 by omega)
  have H0 := Lib.hid h0
  clear hm hT hq hS hu hm1 hm2 hbig h0
  go_enter Tryz.func3, Tryz.ntmps3
  go_upto_region 4 with (first
    | (go_at_call 7; refine (bset w).mono ?_; rintro e v1 ⟨rfl, x1⟩)
    | ((with_reducible show wpList _ _ _ (Oper.mk _ (Op.store 27 _ _) _ _ _ _ :: _) _ _); refine st_store_new (m := 1280) rfl rfl rfl ?_))
  have ks := World.alloc_heap_new v1 (.cells (stl 1280).toArray 27)
  have y1 : Below w.heap.size w (v1.alloc (.cells (stl 1280).toArray 27)) := x1.alloc x1.size _
  generalize v1.alloc (.cells (stl 1280).toArray 27) = V1 at *
  have zs : w.heap.size ≤ v1.heap.size := x1.size
  generalize v1.heap.size = gs at *
  have zl := heap_lt ks
  have k32 : V1.cell? ⟨gs, 32, none⟩ = some (.int .i64 1280) := cellC ks rfl
  have f32 := heap_frozen ks 32
  clear x1
  go_upto_region 5 with fail
  have ks2 := heap_setCell_same V1 gs 32 _ _ (.int .i64 (1280 + a2)) ks
  rw [show (stl 1280).toArray.setIfInBounds 32 (.int .i64 (1280 + a2)) = (stl (1280 + a2)).toArray from rfl, ← HM.out] at ks2
  have y2 : Below w.heap.size w (V1.setCell ⟨gs, 32, none⟩ (.int .i64 (1280 + a2))) := y1.setCell (p := ⟨gs, 32, none⟩) zs _
  rw [← HM.out] at y2 ⊢
  clear ks k32 f32 y1 zl
  generalize V1.setCell ⟨gs, 32, none⟩ (.int .i64 m) = V2 at *
  have zl := heap_lt ks2
  have KS : Hid (∀ V, Below V2.heap.size V2 V → V.rangeAt gs 0 (stl m ++ [])) := Lib.hid (fun V hV => by rw [List.append_nil]; exact range_hpR ((hV.block gs zl).trans ks2))
  have kl : V2.rangeAt gs 0 (stl m) := by have := KS.out V2 (Below.refl _ _); rwa [List.append_nil] at this
  go_upto_region 8 with (first
    | ((with_reducible show wpList _ _ _ (Oper.mk _ (Op.load 27 _) _ _ _ _ :: _) _ _); refine wpList_val rfl (run_load_st rfl rfl kl (stl_len m)) ?_)
    | (go_at_call 8; refine (bfnew m HMM.out V2).mono ?_; rintro e v3 ⟨x, t, k, rfl, f3, x3⟩))
  have HF3 := Lib.hid f3
  clear f3 kl ks2
  have hd3 := H0.out.below (y2.trans (x3.mono y2.size))
  have z3 := Nat.le_trans y2.size x3.size
  go_upto_region 9 with (go_at_call 9; refine (plain_dgE 167772161 3221225985 5 6 (2 + a1 % 200) b0 A0 c0 v3 w.heap.size hd3 z3 (by have := HL0.out; omega) HU.out (by rw [← HT.out, ← HQ.out]; exact HS.out.sq.chk)).mono ?_; rintro e v4 ⟨P4, p4, rfl, m4⟩; rw [← HT.out, ← HQ.out] at m4 ⊢)
  obtain ⟨_, _, e4, g4, o4, x4⟩ := made_shape m4
  cases e4
  clear m4 hd3
  go_upto_region 10 with (go_at_call 10; refine (bhost (HF3.out.below x4) (by decide) q P4 p4 g4 HS.out.sq HS.out.wf HS.out.one HMM.out (by decide)).mono ?_; rintro e v5 ⟨vu, l5, he, r5, q5, k5, id5, hid5, f5⟩; obtain rfl := he.out; clear he)
  have y4 : Below V2.heap.size V2 v4 := x3.trans (x4.mono x3.size)
  have o5 := KB.own (HF3.out.below x4) k5 o4 t32_no.2.2.2.1
  have y5 : Below V2.heap.size V2 v5 := y4.trans (k5.below HF3.out.bx HF3.out.bk y4.size)
  have HQ5 : Hid (l5.map (·.b) = (cutB m 1 P).map bld6) := Lib.hid (by rw [q5.out, HS.out.pe, HS.out.eq])
  obtain ⟨A5, c5, ev5, rd5, hc5⟩ := r5.shape
  obtain ⟨n, hn⟩ : ∃ n, n = l5.length := ⟨_, rfl⟩
  rw [← hn] at ev5
  subst ev5
  have HN := Lib.hid hn
  have HCA := Lib.hid (HS.out.all 1 (by decide)).1
  have HFL := Lib.hid (HS.out.all 1 (by decide)).2
  have HRY := Lib.hid r5.2
  have HRD := Lib.hid rd5
  have HO5 := Lib.hid o5
  have hn6 : n ≤ 1000000 := by
    have h1 := congrArg List.length HQ5.out
    rw [List.length_map, List.length_map] at h1
    rw [hn, h1]
    refine cutB_len ?_
    have h2 := HS.out.sr.bl
    have h3 := HS.out.sr.len
    rw [HS.out.pe, wrV]
    split
    · show (bld4 r).length ≤ 65535; omega
    · show [].length ≤ 65535; decide
  clear hn f5 k5 q5 hid5 r5 rd5 o4 o5 g4 hc5 x4 x3 z3 y4
  go_upto_region 13 with fail
  go_wp2
  go_loopw [14, 63] (fun v i wr => ∃ (vv : Value) (j : Nat) (F : List UInt8), vv = v ∧ j ≤ n ∧ i = .int .i64 (j : Int) ∧ Hid (wr.ownsRow v5.heap.size 5 1 v F.length (row F)) ∧ Hid (F = ((cutB m 1 P).take j).flatMap pieceB) ∧ Below v5.heap.size v5 wr) (fun _ i _ => n - (intOf i).toNat)
  case atStart => exact ⟨_, 0, [], rfl, Nat.zero_le _, rfl, Lib.hid (World.ownsRow_nil _ _ _ _), Lib.hid rfl, Below.refl _ _⟩
  case round =>
    obtain ⟨v, j, F, rfl, hj, rfl, HF, HFE, hB⟩ := hrel
    have hz := hB.size
    by_cases hlt : j < n
    · have hlen : n = (cutB m 1 P).length := by
        have h1 := congrArg List.length HQ5.out
        rw [List.length_map, List.length_map] at h1
        rw [HN.out, h1]
      obtain ⟨p, hp⟩ : ∃ p, (cutB m 1 P)[j]? = some p := ⟨_, List.getElem?_eq_getElem (by rw [← hlen]; exact hlt)⟩
      obtain ⟨y, hy⟩ : ∃ y, l5[j]? = some y := ⟨_, List.getElem?_eq_getElem (by rw [← HN.out]; exact hlt)⟩
      have hyb : y.b = bld6 p := by
        have h1 := congrArg (·[j]?) HQ5.out
        simpa [hp, hy] using h1
      have hco := HCA.out p (List.mem_of_getElem? hp)
      have hps : p.src = ownQ := hco.src.trans HS.out.src
      have hpd : p.dst = aftQ := hco.dst.trans HS.out.dst
      have hph : p.hop = 64 := hco.hop.trans HS.out.hop
      have h6 : ok6 p := ⟨by rw [hps]; rfl, by rw [hpd]; rfl⟩
      obtain ⟨pb1, pb2⟩ := prs6_bld h6.1 h6.2 hco.chk
      have HPB := Lib.hid pb1
      have HBB := Lib.hid pb2
      have hpl : (bld6 p).length = 40 + p.dat.length := bld6_len p h6.1 h6.2
      have hsz : (40 : Int) + (p.dat.length : Int) ≤ m := hco.size
      have HDL : Hid (p.dat.length ≤ 1000000) := Lib.hid (by have := HMM.out; omega)
      have HBL : Hid ((bld6 p).length ≤ 1000000) := Lib.hid (by have := HMM.out; omega)
      have dL : decide (m < ((bld6 p).length : Int)) = false := decide_eq_false (by omega)
      have dL2 : decide (((bld6 p).length : Int) > m) = false := dL
      have eS : ∀ w, (Op.equalIn 10000 25 (.agg (cel p.src)) (.agg (cel ownQ))).run Tryz.prog w = .ok true w := fun w => six_eqT h6.1 rfl hps w
      have eD : ∀ w, (Op.equalIn 10000 25 (.agg (cel p.dst)) (.agg (cel aftQ))).run Tryz.prog w = .ok true w := fun w => six_eqT h6.2 rfl hpd w
      obtain ⟨b1, o1, eA, hb1, hr⟩ := HRD.out (by rw [← HN.out]; omega)
      have hc0 : wr.cell? ⟨b1, o1 + j, none⟩ = some (.slice y.A (bld6 p).length y.c) := by
        have h1 := hr j y hy 0 _ rfl
        rw [Nat.mul_one, Nat.add_zero, hyb] at h1
        exact (hB.cell (p := ⟨b1, o1 + j, none⟩) hb1).trans h1
      have hAy : Arg wr v5.heap.size y.A y.c (bld6 p) := by
        have h1 := (arg_own (HRY.out y (List.mem_of_getElem? hy))).below hB
        rwa [hyb] at h1
      have HPJ := Lib.hid hp
      have HH := Lib.hid hph
      subst eA
      clear hr hb1 hp hy hyb hco hps hpd hph pb1 pb2 hpl hsz hlen
      go_upto_region 17 with (first
        | (go_at_call 11; refine (c6parse (bld6 p) y.A y.c wr v5.heap.size hAy hz HBL.out).mono ?_; rintro e v6 ⟨P6, p6, rfl, m6⟩; rw [HPB.out] at m6; rw [HPB.out, HBB.out])
        | ((with_reducible show wpList _ _ _ (Oper.mk _ (Op.store 38 _ _) _ _ _ _ :: _) _ _); refine v6_store_new (cs := v6a p P6 p6) rfl rfl rfl (by rw [v6a_szR _ _ _ h6.1 h6.2]) (v6a_one _ _ _) ?_))
      obtain ⟨_, _, e6, g6, _, x6⟩ := made_shape m6
      cases e6
      have kz := World.alloc_heap_new v6 (.cells (v6a p P6 p6) 38)
      have a6 : Below v6.heap.size v6 (v6.alloc (.cells (v6a p P6 p6) 38)) := (Below.refl _ v6).alloc (Nat.le_refl _) _
      have g6 := g6.below a6
      have y6 : Below wr.heap.size wr (v6.alloc (.cells (v6a p P6 p6) 38)) := x6.trans (a6.mono x6.size)
      generalize v6.alloc (.cells (v6a p P6 p6) 38) = W6 at *
      generalize v6.heap.size = g at *
      have zg := heap_lt kz
      have at6 : At6 W6 g p P6 p6 := range_hpR kz
      have kh : W6.cell? ⟨g, 3, none⟩ = some (.int .i64 64) := by rw [← HH.out]; exact at6.hop
      have kd := at6.dat h6.1 h6.2
      have s6 := at6.src
      have t6 := at6.dst h6.1
      have yV : Below V2.heap.size V2 W6 := y5.trans ((hB.mono y5.size).trans (y6.mono (Nat.le_trans y5.size hz)))
      have KSW := KS.out W6 yV
      have so := st_own KSW
      have sa := st_aft KSW
      have c32 := st_cell KSW 32 _ rfl
      have c33 := st_cell KSW 33 _ rfl
      clear m6 a6 x6 kz hAy hc0
      go_upto_region 20 with (first
        | ((with_reducible show wpList _ _ _ (Oper.mk (some 83) (Op.load 25 _) _ _ _ _ :: _) _ _); refine wpList_valg (by rfl) (run_load_six rfl rfl (s6) h6.1) ?_)
        | ((with_reducible show wpList _ _ _ (Oper.mk (some 85) (Op.load 25 _) _ _ _ _ :: _) _ _); refine wpList_valg (by rfl) (run_load_six rfl rfl (so) own_len) ?_)
        | ((with_reducible show wpList _ _ _ (Oper.mk (some 90) (Op.load 25 _) _ _ _ _ :: _) _ _); refine wpList_valg (by rfl) (run_load_six rfl rfl (t6) h6.2) ?_)
        | ((with_reducible show wpList _ _ _ (Oper.mk (some 92) (Op.load 25 _) _ _ _ _ :: _) _ _); refine wpList_valg (by rfl) (run_load_six rfl rfl (sa) aft_len) ?_)
        | ((with_reducible show wpList _ _ _ (Oper.mk _ (Op.load 38 _) _ _ _ _ :: _) _ _); refine wpList_val rfl (run_load_v6 rfl rfl at6 (v6l_len h6.1 h6.2)) ?_)
        | (go_at_call 12; refine (c14part p P6 p6 g W6 h6 g6 (Nat.le_of_lt zg) HDL.out).mono ?_; rintro e v7 ⟨P7, p7, rfl, g7, x7⟩)
        | ((with_reducible show wpList _ _ _ (Oper.mk _ (Op.store 42 _ _) _ _ _ _ :: _) _ _); refine fr_store_new (cs := fra (prtF p)) rfl rfl rfl rfl (fra_one _) ?_))
      have a7 : Below v7.heap.size v7 (v7.alloc (.cells (fra (prtF p)) 42)) := (Below.refl _ v7).alloc (Nat.le_refl _) _
      have y7 : Below W6.heap.size W6 (v7.alloc (.cells (fra (prtF p)) 42)) := x7.trans (a7.mono x7.size)
      have g7 := (g7.below a7).more a7.size
      generalize v7.alloc (.cells (fra (prtF p)) 42) = W7 at *
      have k36 : W7.cell? ⟨g, 36, none⟩ = some (.slice P6 p.dat.length p6) := (y7.cell (p := ⟨g, 36, none⟩) zg).trans kd
      have g6' := (g6.below (y7.mono (Nat.le_of_lt zg))).more (Nat.le_trans (Nat.le_of_lt zg) y7.size)
      have yW : Below wr.heap.size wr W7 := y6.trans (y7.mono y6.size)
      have HF7 := Lib.hid (own_below HF.out yW)
      have hB7 := hB.trans (yW.mono hz)
      have hz7 := hB7.size
      have HFN : Hid (F.length ≤ 2000000) := Lib.hid (by
        have h1 := congrArg List.length HFL.out
        have h2 : F.length ≤ ((cutB m 1 P).flatMap pieceB).length := by
          rw [HFE.out]
          conv => rhs; rw [← List.take_append_drop j (cutB m 1 P)]
          rw [List.flatMap_append, List.length_append]; omega
        have h3 := HS.out.sr.bl
        have h4 := HS.out.sr.len
        omega)
      have HPL : Hid ((pieceB p).length ≤ 1000000) := Lib.hid (by
        have h1 := congrArg List.length HFL.out
        have h2 : (pieceB p).length ≤ ((cutB m 1 P).flatMap pieceB).length := by
          have : p ∈ cutB m 1 P := List.mem_of_getElem? HPJ.out
          obtain ⟨A1, A2, e⟩ := List.append_of_mem this
          rw [e]
          simp only [List.flatMap_append, List.flatMap_cons, List.length_append]; omega
        have h3 := HS.out.sr.bl
        have h4 := HS.out.sr.len
        omega)
      have HFJ : Hid (F ++ pieceB p = ((cutB m 1 P).take (j + 1)).flatMap pieceB) := Lib.hid (by rw [HFE.out, List.take_add_one, HPJ.out, List.flatMap_append]; simp)
      clear at6 kh kd s6 t6 so sa c32 c33 KSW eS eD dL dL2 g6 y6 x7 a7 y7 HPB HBB
      by_cases hZ : prtO p = true
      · have HPE : Hid (pieceB p = prtB p) := Lib.hid (by rw [pieceB, if_pos hZ])
        go_wp2_with (at_builtin; refine append_rd rfl _ _ rfl v5.heap.size v F.length (row F) rfl HF7.out W7.heap.size P7 p7 (prtB p) rfl g7.none_ g7.rd (by have h1 := HFN.out; have h2 := HPL.out; rw [HPE.out] at h2; omega) hz7 ?_; intro v' w' own8 grow8)
        have b8 : Below v5.heap.size v5 w' := hB7.grown grow8 hz7 (fun k hk => own_block_ge HF7.out k hk)
        have H8 : Hid (w'.ownsRow v5.heap.size 5 1 v' (F ++ pieceB p).length (row (F ++ pieceB p))) := Lib.hid (by rw [HPE.out, List.length_append, row_append]; exact own8)
        clear own8 grow8
        go_roundw
        case rel => exact ⟨_, j + 1, _, rfl, by omega, by simp, H8, HFJ, b8⟩
        case measure => simp [intOf]; omega
      · have HPE : Hid (pieceB p = p.dat) := Lib.hid (by rw [pieceB, if_neg hZ])
        have hZ' : prtO p = false := by simpa using hZ
        go_wp2_with (at_builtin; refine append_rd rfl _ _ rfl v5.heap.size v F.length (row F) rfl HF7.out W7.heap.size P6 p6 p.dat rfl g6'.none_ g6'.rd (by have h1 := HFN.out; have h2 := HPL.out; rw [HPE.out] at h2; omega) hz7 ?_; intro v' w' own8 grow8)
        have b8 : Below v5.heap.size v5 w' := hB7.grown grow8 hz7 (fun k hk => own_block_ge HF7.out k hk)
        have H8 : Hid (w'.ownsRow v5.heap.size 5 1 v' (F ++ pieceB p).length (row (F ++ pieceB p))) := Lib.hid (by rw [HPE.out, List.length_append, row_append]; exact own8)
        clear own8 grow8
        go_roundw
        case rel => exact ⟨_, j + 1, _, rfl, by omega, by simp, H8, HFJ, b8⟩
        case measure => simp [intOf]; omega
    · obtain rfl : n = j := by omega
      have HFT : Hid (F = bld4 r) := Lib.hid (by
        have hlen : n = (cutB m 1 P).length := by
          have h1 := congrArg List.length HQ5.out
          rw [List.length_map, List.length_map] at h1
          rw [HN.out, h1]
        rw [HFE.out, hlen, List.take_length, HFL.out])
      have hoF : wr.ownsRow v5.heap.size 5 1 v (bld4 r).length (row (bld4 r)) := by rw [← HFT.out]; exact HF.out
      obtain ⟨A8, c8, ev8⟩ := own_slice hoF
      subst ev8
      have HOF := Lib.hid hoF
      have HOB := Lib.hid (own_below HO5.out hB)
      have HBQ := Lib.hid HS.out.sq.back
      have HBR := Lib.hid HS.out.sr.back
      clear hoF HF HFE
      have HTB : 0 ≤ q.ttl ∧ q.ttl ≤ 255 := by
        obtain ⟨⟨_, _, t0, t1, _⟩, _⟩ := chk4_zero HS.out.sq.chk
        exact ⟨t0, t1⟩
      have HLQ : Hid ((bld4 q).length ≤ 1000000) := Lib.hid (by have h1 := HS.out.sq.bl; have h2 := HS.out.sq.len; omega)
      have HLR : Hid ((bld4 r).length ≤ 1000000) := Lib.hid (by have h1 := HS.out.sr.bl; have h2 := HS.out.sr.len; omega)
      have gq := arg_own HOB.out
      have gr := arg_own HOF.out
      go_upto_region 25 with (first
        | (go_at_call 13; refine (r5parse (bld4 q) P4 p4 wr wr.heap.size gq (Nat.le_refl _) HLQ.out).mono ?_; rintro e v6 ⟨Pa, pa, Pb, pb, rfl, ma, mb⟩; rw [HBQ.out.1]; rw [HBQ.out.2] at ma mb ⊢)
        | ((with_reducible show wpList _ _ _ (Oper.mk _ (Op.store 46 _ _) _ _ _ _ :: _) _ _); refine v4_store_new (cs := v4a q Pa pa Pb pb) rfl rfl rfl rfl (v4a_one _ _ _ _ _) ?_))
      obtain ⟨_, _, ea, ga, _, xa⟩ := made_shape ma
      obtain ⟨_, _, eb, gb, _, _⟩ := made_shape mb
      cases ea
      cases eb
      have kz := World.alloc_heap_new v6 (.cells (v4a q Pa pa Pb pb) 46)
      have a6 : Below v6.heap.size v6 (v6.alloc (.cells (v4a q Pa pa Pb pb) 46)) := (Below.refl _ v6).alloc (Nat.le_refl _) _
      have y6 : Below wr.heap.size wr (v6.alloc (.cells (v4a q Pa pa Pb pb) 46)) := xa.alloc xa.size _
      have ga := ga.below a6
      have gb := gb.below a6
      have zw6 : wr.heap.size ≤ v6.heap.size := xa.size
      generalize v6.alloc (.cells (v4a q Pa pa Pb pb) 46) = W6 at *
      generalize v6.heap.size = g at *
      have zg := heap_lt kz
      have gr6 := gr.below y6
      clear ma mb xa a6 gq gr
      go_upto_region 26 with (first
        | (go_at_call 13; refine (r5parse (bld4 r) A8 c8 W6 wr.heap.size gr6 y6.size HLR.out).mono ?_; rintro e v7 ⟨Pc, pc, Pd, pd, rfl, mc, md⟩; rw [HBR.out.1]; rw [HBR.out.2] at mc md ⊢)
        | ((with_reducible show wpList _ _ _ (Oper.mk _ (Op.store 46 _ _) _ _ _ _ :: _) _ _); refine v4_store_new (cs := v4a r Pc pc Pd pd) rfl rfl rfl rfl (v4a_one _ _ _ _ _) ?_))
      obtain ⟨_, _, ec, gc, _, xc⟩ := made_shape mc
      obtain ⟨_, _, ed, gd, od, _⟩ := made_shape md
      cases ec
      cases ed
      have kz2 := World.alloc_heap_new v7 (.cells (v4a r Pc pc Pd pd) 46)
      have a7 : Below v7.heap.size v7 (v7.alloc (.cells (v4a r Pc pc Pd pd) 46)) := (Below.refl _ v7).alloc (Nat.le_refl _) _
      have y7 : Below W6.heap.size W6 (v7.alloc (.cells (v4a r Pc pc Pd pd) 46)) := xc.alloc xc.size _
      have gc := gc.below a7
      have od7 := own_below od a7
      have zw7 : W6.heap.size ≤ v7.heap.size := xc.size
      generalize v7.alloc (.cells (v4a r Pc pc Pd pd) 46) = W7 at *
      generalize v7.heap.size = g' at *
      have zg' := heap_lt kz2
      have kz7 := (y7.block g zg).trans kz
      have ga7 := ga.below (y7.mono (Nat.le_of_lt zg))
      have gb7 := gb.below (y7.mono (Nat.le_of_lt zg))
      have at7 := ofhE kz7
      have k3 := at7.ttl
      have f3 := heap_frozen kz7 3
      have q3 : IntKind.i64.wrap (q.ttl - 1) = q.ttl - 1 := IntWalk.i64_in _ (by omega)
      have hne : g ≠ g' := by omega
      have y67 := y6.trans (y7.mono y6.size)
      clear mc md xc a7 kz ga gb gr6 gd od
      go_upto_region 27 with fail
      have ks3 := heap_setCell_same W7 g 3 _ _ (.int .i64 (q.ttl - 1)) kz7
      rw [show (v4a q Pa pa Pb pb).setIfInBounds 3 (.int .i64 (q.ttl - 1)) = v4a r Pa pa Pb pb by rw [HS.out.eq]; rfl] at ks3
      have ks4 := (heap_setCell_other W7 ⟨g, 3, none⟩ g' (.int .i64 (q.ttl - 1)) (Ne.symm hne)).trans kz2
      have y8 : Below wr.heap.size wr (W7.setCell ⟨g, 3, none⟩ (.int .i64 (q.ttl - 1))) := y67.setCell (p := ⟨g, 3, none⟩) zw6 _
      have hs8 : (W7.setCell ⟨g, 3, none⟩ (.int .i64 (q.ttl - 1))).heap.size = W7.heap.size := by simp
      have hro : r.opt = [] := HS.out.sr.opt
      have hb8 : Below g W7 (W7.setCell ⟨g, 3, none⟩ (.int .i64 (q.ttl - 1))) := (Below.refl g W7).setCell (p := ⟨g, 3, none⟩) (Nat.le_refl _) _
      have rb : Rd (W7.setCell ⟨g, 3, none⟩ (.int .i64 (q.ttl - 1))) W7.heap.size Pb r.dat := by
        rw [HS.out.eq]
        exact (gb7.below hb8).rd.more (Nat.le_of_lt (heap_lt kz7))
      have rd : Rd (W7.setCell ⟨g, 3, none⟩ (.int .i64 (q.ttl - 1))) W7.heap.size Pd r.dat := by
        have h9 := (arg_own (own_setCell od7 (p := ⟨g, 3, none⟩) (u := .int .i64 (q.ttl - 1)) zg)).rd
        rwa [hs8] at h9
      clear k3 f3 kz7 at7 ga7 gb7 q3 hb8 y67 y6 y7 hne kz2
      generalize W7.setCell ⟨g, 3, none⟩ (.int .i64 (q.ttl - 1)) = W8 at *
      have at1 := ofhE ks3
      have at2 := ofhE ks4
      have HSM := Lib.hid (same4_iff.2 (rfl : r = r))
      have HRO := Lib.hid hro
      have HRB := Lib.hid rb
      have HRD2 := Lib.hid rd
      have yF : Below w.heap.size w W8 := (y2.trans (y5.mono y2.size)).trans ((hB.mono (Nat.le_trans y2.size y5.size)).trans (y8.mono (Nat.le_trans (Nat.le_trans y2.size y5.size) hz)))
      clear hro rb rd ks3 ks4 od7
      go_wp2_with (first
        | ((with_reducible show wpList _ _ _ (Oper.mk (some 137) (Op.load 46 _) _ _ _ _ :: _) _ _); refine wpList_valg (by rfl) (run_load_v4 rfl rfl at1 rfl) ?_)
        | ((with_reducible show wpList _ _ _ (Oper.mk (some 138) (Op.load 46 _) _ _ _ _ :: _) _ _); refine wpList_valg (by rfl) (run_load_v4 rfl rfl at2 rfl) ?_)
        | (go_at_call 14; refine (r5same_arr r r Pa pa Pb pb Pc pc Pd pd W7.heap.size W8 (by rw [hs8]; exact Nat.le_refl _) (by rw [HRO.out]; exact Rd.nil) HRB.out (by rw [HRO.out]; exact Rd.nil) HRD2.out).mono ?_; rintro e v9 ⟨rfl, x9⟩; rw [HSM.out])
        | (go_at_call 6; refine (awake32 _).mono ?_; rintro e v10 ⟨rfl, x10⟩))
      go_ret
      exact ⟨rfl, (yF.trans (x9.mono yF.size)).trans (x10.mono (Nat.le_trans yF.size x9.size))⟩

/-! ### The row's step -/
set_option maxRecDepth 100000 in
theorem lifted (os : Os) (started : os.Started) (H : Type) (enc : TypeId × Value → H) :
    ReturnsInHanded {} Tryz.checked os 3 .any (Rows.b4SendsSpec.pre6 enc Tryz.prog Tryz.f3 Rows.b4SendsRow.domain false) (Rows.b4SendsSpec.post enc Tryz.prog Tryz.f3 false true false false) := by
  refine returnsInHanded_of_change (C := Tryz.checked) own started (by kernel_rfl) Tryz.func3
    (ChangeSpec.witness6 (enc := enc) (C := Tryz.checked) false ⟨#[], #[.slice none 0 0, .int .u8 0, .int .u8 0], []⟩ 8 (by kernel_rfl) (by kernel_rfl) (by kernel_rfl) (by kernel_rfl)) ?_
  intro W base args ds gs before hval0 hW hcnd _
  have hval : ∀ (j : Nat) t v, Tryz.f3.params[j]? = some t → args[j]? = some v → Value.okWide Tryz.prog W .any base t v := hval0
  have hW' := hW
  obtain ⟨p, q, hA0, hV, rfl, hfz, hnd⟩ := hW
  have hA : DataW.TrodAll enc Tryz.prog W 0 (fun _ => true) true Tryz.f3.params.toList args.toList ds p := hA0
  rw [Tryz.params3] at hA hval
  obtain ⟨v0, vs0, d0, ds0, p0, q0, hargs, rfl, rfl, t0, r0⟩ := trodAll_cons hA
  obtain ⟨v1, vs1, d1, ds1, p1, q1, rfl, rfl, rfl, t1, r1⟩ := trodAll_cons r0
  obtain ⟨v2, vs2, d2, ds2, p2, q2, rfl, rfl, rfl, t2, r2⟩ := trodAll_cons r1
  obtain ⟨rfl, rfl, rfl⟩ := trodAll_nil r2
  obtain rfl : args = #[v0, v1, v2] := by cases args; simp_all
  obtain ⟨rfl, rfl⟩ := trodVars_none hV
  have k0 := t0
  have lt0 := Trod_lt t0
  have k1 := t1
  have lt1 := Trod_lt t1
  have k2 := t2
  have lt2 := Trod_lt t2
  obtain ⟨A0, c0, b0, rfl, h0, m0⟩ := get_bytes Tryz.underlying22 Tryz.underlying5 (by kernel_rfl) (hval 0 22 v0 rfl rfl) t0
  obtain ⟨a1, rfl, w1⟩ := get_int Tryz.underlying5 (hval 1 5 v1 rfl rfl) t1
  obtain ⟨a2, rfl, w2⟩ := get_int Tryz.underlying5 (hval 2 5 v2 rfl rfl) t2
  clear hA0 hval0
  refine (walk A0 c0 b0 a1 a2 W h0 m0 w1 w2).mono fun e W' ⟨he, bel⟩ => ?_
  subst he
  exact ⟨_, rfl, _, _, _, [], _, [], hW', trodAll_mk1 (shut_bool Tryz.underlying4 _), (trodAll_cons_mk (Below.trod laidOut (by kernel_rfl) (of_decide_eq_true (by kernel_rfl)) k0 bel lt0) (trodAll_cons_mk (Below.trod laidOut (by kernel_rfl) (of_decide_eq_true (by kernel_rfl)) k1 bel lt1) (trodAll_cons_mk (Below.trod laidOut (by kernel_rfl) (of_decide_eq_true (by kernel_rfl)) k2 bel lt2) trodAll_mk0))), rfl, bel.frame _, fun h => by cases h⟩

theorem over : Rows.b4SendsRow.holds Tryz.pinned (OpenSpec.ofChange Rows.b4SendsSpec) :=
  OpenClaim.holds_of_wide 3 Tryz.f3 rfl rfl rfl rfl rfl rfl rfl ⟨rfl, rfl, rfl, rfl, rfl⟩ rfl rfl rfl rfl rfl (by kernel_rfl) Tryz.func3 (by kernel_rfl)
    (of_decide_eq_true (by kernel_rfl)) (by unfold Func.isWrapper; first | (rw [if_pos (by decide +kernel)]; kernel_rfl) | (rw [if_neg (by decide +kernel)]; exact ⟨rfl, rfl⟩))
    (fun os started H enc _ => lifted os started H enc)

theorem proved : Rows.B4SendsSaid := over
end Go.Proofs.YtpoigngpdcmipaaGreat.b4Sends
