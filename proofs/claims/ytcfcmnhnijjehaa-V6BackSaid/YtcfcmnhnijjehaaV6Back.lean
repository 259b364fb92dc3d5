/-
  For every packet of IPv6, every fragment header and all bytes, goosepondlaw06.V6Back answers true: a packet, and a fragment header, are parsed from their bytes, whatever stands behind.
  Conditions: none but the statement's own.
-/
import Derived.Test.YtcfcmnhnijjehaaRows
import Derived.WalkKit
import Derived.ProofKit
import Derived.OpenShut
import Derived.ChangeOld
import Derived.Below
import Derived.Test.YtcfcmnhnijjehaaOpen
import Derived.Test.YtcfcmnhnijjehaaV6W
import Derived.Test.YtcfcmnhnijjehaaV6I
namespace Go.Proofs.Ytcfcmnhnijjehaa.v6Back
open Go.ChangeShapes Go.WideShapes Go.ChangeAt Go.RowKit
set_option linter.unusedVariables false
attribute [local go_sem] Oper.semAt_some

theorem own : ownKnob Try.prog.godebug = none := by kernel_rfl
theorem laidOut : laidOutB Try.prog = true := by kernel_rfl

/-! ### The walk -/
set_option maxRecDepth 100000 in
set_option maxHeartbeats 1500000 in
theorem walk (x0 : P6) (A0 : Option Addr) (c0 : Nat) (f1 : F6) (A2 : Option Addr) (c2 : Nat) (b2 : List UInt8) (w : World) (h0 : Arg w w.heap.size A0 c0 x0.dat) (m0 : c0 ≤ maxLen) (w0 : x0.fits) (s0 : x0.src.length = 16) (e0 : x0.dst.length = 16) (w1 : f1.fits) (h2 : Arg w w.heap.size A2 c2 b2) (m2 : c2 ≤ maxLen) :
    Calls Try.prog 10 #[v6v x0 A0 c0, frv f1, .slice A2 b2.length c2] w fun e w' => e = .returned (.bool true) ∧ Below w.heap.size w w' := by
  have hB0 : Below w.heap.size w ((w.alloc (.cells (v6a x0 A0 c0) 44)).alloc (.cells (fra f1) 52)) := below_two w _ _
  have hAt : At6 ((w.alloc (.cells (v6a x0 A0 c0) 44)).alloc (.cells (fra f1) 52)) w.heap.size x0 A0 c0 := (At6.new w).below ((Below.refl (w.heap.size + 1) _).alloc (by simp) _) (by omega)
  have hAtF : AtF ((w.alloc (.cells (v6a x0 A0 c0) 44)).alloc (.cells (fra f1) 52)) (w.heap.size + 1) f1 := by
    have := AtF.new (f := f1) (w.alloc (.cells (v6a x0 A0 c0) 44))
    rwa [show (w.alloc (.cells (v6a x0 A0 c0) 44)).heap.size = w.heap.size + 1 from by simp] at this
  have hzF : w.heap.size + 1 < ((w.alloc (.cells (v6a x0 A0 c0) 44)).alloc (.cells (fra f1) 52)).heap.size := by simp
  have kd := hAt.dat s0 e0
  unfold frv v6v
  rw [show #[Value.int .i64 f1.next, .int .i64 f1.off, .int .i64 f1.id, .bool f1.more] = fra f1 from rfl, show (v6l x0 A0 c0).toArray = v6a x0 A0 c0 from rfl]
  by_cases h : 3000 < x0.dat.length
  · have hd : decide (3000 < (x0.dat.length : Int)) = true := by simp; omega
    go_enter Try.func10, Try.ntmps10
    go_wp2_with (go_at_call 32; refine (awake6_any _).mono ?_; rintro e w5 ⟨rfl, b5⟩)
    go_ret
    exact ⟨rfl, hB0.trans (b5.mono hB0.size)⟩
  · have hd : decide (3000 < (x0.dat.length : Int)) = false := by simp; omega
    by_cases h' : 500 < b2.length
    · have hd' : decide (500 < (b2.length : Int)) = true := by simp; omega
      go_enter Try.func10, Try.ntmps10
      go_wp2_with (go_at_call 32; refine (awake6_any _).mono ?_; rintro e w5 ⟨rfl, b5⟩)
      go_ret
      exact ⟨rfl, hB0.trans (b5.mono hB0.size)⟩
    · have hd' : decide (500 < (b2.length : Int)) = false := by simp; omega
      go_enter Try.func10, Try.ntmps10
      go_upto_region 3 with fail
      clear hd hd' kd
      generalize (w.alloc (.cells (v6a x0 A0 c0) 44)).alloc (.cells (fra f1) 52) = W at *
      have hz0 : w.heap.size < W.heap.size := by omega
      by_cases hc : chk6 x0 = 0
      · have HC := Lib.hid hc
        obtain ⟨kp1, kp2⟩ := back6 x0 b2 s0 e0 hc
        obtain ⟨BB, hBB⟩ : ∃ B, B = bld6 x0 ++ b2 := ⟨_, rfl⟩
        rw [← hBB] at kp1 kp2
        have HBB := Lib.hid hBB
        have KP := Lib.hid (show prs6 BB false = x0 by rw [prs6, if_pos kp1]; exact kp2)
        have KE := Lib.hid kp1
        have KS := Lib.hid (same6_iff.2 (rfl : x0 = x0))
        have HL := Lib.hid (bld6_len x0 s0 e0)
        have HZ := Lib.hid (show (((bld6 x0).length : Int) != size6 x0) = false by rw [HL.out, size6]; simp)
        clear hc kp1 kp2 hBB
        go_upto_region 5 with (first
          | ((with_reducible show wpList _ _ _ (Oper.mk _ (Op.load _ _) _ _ _ _ :: _) _ _); refine wpList_val rfl (run_load_v6 rfl rfl hAt (v6l_len s0 e0)) ?_)
          | (go_at_call 33; refine (c6build x0 A0 c0 _ w.heap.size s0 e0 (by omega) (h0.below hB0) hB0.size).mono ?_; rintro e w1 ⟨v1, rfl, -, n1⟩; rw [HC.out]; obtain ⟨P1, k1, rfl, g1, o1, y1⟩ := made_shape (n1 HC.out)))
        have q1 := hB0.trans (y1.mono hB0.size)
        have z1 := q1.size
        have j1 := h2.below q1
        go_upto_region 6 with (first
          | (go_at_call 30; refine (clone_any P1 (bld6 x0) k1 _ _ g1 (Nat.le_refl _) (by have := HL.out; omega)).mono ?_; rintro e w2 ⟨v2, rfl, n2⟩; obtain ⟨P2, k2, rfl, g2, o2, y2⟩ := made_shape n2)
          | (at_builtin; refine append_rd rfl _ _ rfl w1.heap.size _ _ _ rfl o2 w.heap.size A2 c2 b2 rfl h2.none_ (j1.below (y2.mono z1)).rd (by have := HL.out; omega) y2.size ?_; intro v3 w3 own3 grow3; obtain ⟨P3, k3, rfl, owm3⟩ := own_made (bs := BB) own3 (by rw [HBB.out]; simp) (by rw [HBB.out, row_append]))
          | (go_at_call 41; refine (c6parse BB P3 k3 _ _ (arg_own owm3) (Nat.le_refl _) (by have := HL.out; rw [HBB.out, List.length_append]; omega)).mono ?_; rintro e w4 ⟨P4, k4, rfl, n4⟩; rw [KP.out, KE.out]; rw [KP.out] at n4; have y4 := n4.below)
          | ((with_reducible show wpList _ _ _ (Oper.mk _ (Op.store _ _ _) _ _ _ _ :: _) _ _); refine v6_store_new (cs := v6a x0 P4 k4) rfl rfl rfl (by rw [v6a, List.size_toArray]; exact v6l_len s0 e0) (v6a_one _ _ _) ?_))
        have x3 : Below w1.heap.size w1 w3 := y2.grown grow3 y2.size (fun k hk => own_block_ge o2 k hk)
        have x14 : Below W.heap.size W w4 := (y1.trans (x3.mono y1.size)).trans (y4.mono (Nat.le_trans y1.size x3.size))
        have x15 : Below W.heap.size W (w4.alloc (.cells (v6a x0 P4 k4) 44)) := x14.alloc x14.size _
        have at9 := At6.new (q := x0) (A := P4) (c := k4) w4
        have ja : Below w4.heap.size w4 (w4.alloc (.cells (v6a x0 P4 k4) 44)) := (Below.refl _ w4).alloc (Nat.le_refl _) _
        obtain ⟨A5, c5, hv5, g5, -, -⟩ := made_shape n4
        have at0 := hAt.below x15 hz0
        have q5 := hB0.trans (x15.mono hB0.size)
        have r0 := (h0.below q5).rd
        have r4 : Rd (w4.alloc (.cells (v6a x0 P4 k4) 44)) w4.heap.size P4 x0.dat := by
          injection hv5 with e1 _ _
          have g := g5.rd
          rw [← e1] at g; exact g.below ja
        have hz5 : w4.heap.size < (w4.alloc (.cells (v6a x0 P4 k4) 44)).heap.size := by simp
        have hzw : w.heap.size ≤ w4.heap.size := (hB0.trans (x14.mono hB0.size)).size
        clear g1 g2 o1 o2 n1 n2 n4 own3 owm3 grow3 y1 y2 y4 x3 x14 ja hv5 g5 j1 q1 z1
        generalize w4.alloc (.cells (v6a x0 P4 k4) 44) = W5 at *
        go_upto_region 8 with (first
          | ((with_reducible show wpList _ _ _ (Oper.mk (some 44) (Op.load _ _) _ _ _ _ :: _) _ _); refine wpList_valg (by rfl) (run_load_v6 rfl rfl at0 (v6l_len s0 e0)) ?_)
          | ((with_reducible show wpList _ _ _ (Oper.mk (some 45) (Op.load _ _) _ _ _ _ :: _) _ _); refine wpList_valg (by rfl) (run_load_v6 rfl rfl at9 (v6l_len s0 e0)) ?_)
          | (go_at_call 39; refine (c6same x0 x0 A0 c0 P4 k4 w4.heap.size _ s0 e0 s0 e0 (by omega) (r0.more hzw) r4).mono ?_; rintro e w6 ⟨rfl, y6⟩; rw [KS.out]; have at6 := at0.below y6 (by omega))
          | ((with_reducible show wpList _ _ _ (Oper.mk (some 52) (Op.load _ _) _ _ _ _ :: _) _ _); refine wpList_valg (by rfl) (run_load_v6 rfl rfl at6 (v6l_len s0 e0)) ?_)
          | (go_at_call 35; refine (c6size x0 A0 c0 _ s0 e0 (by omega)).mono ?_; rintro e w7 ⟨rfl, y7⟩; have hz7 := HZ.out))
        have x17 : Below W.heap.size W w7 := (x15.trans (y6.mono x15.size)).trans (y7.mono (Nat.le_trans x15.size y6.size))
        have q7 := hB0.trans (x17.mono hB0.size)
        clear hz7 at0 at6 at9 r0 r4 y6 y7 x15 q5
        -- the tail, at the world w7
        have zt := q7.size
        have atF := hAtF.below x17 hzF
        have j2 := h2.below q7
        by_cases hok : okF f1
        · have HE := Lib.hid (show errF f1 = 0 by rw [errF, if_pos hok])
          obtain ⟨kb1, kb2, kb3⟩ := backF f1 b2 hok
          obtain ⟨FF, hFF⟩ : ∃ B, B = bldF f1 ++ b2 := ⟨_, rfl⟩
          rw [← hFF] at kb1 kb2 kb3
          have HFF := Lib.hid hFF
          have KB := Lib.hid (show frv (prsF FF) = .agg #[.int .i64 f1.next, .int .i64 f1.off, .int .i64 f1.id, .bool f1.more] by rw [kb1]; rfl)
          have KR := Lib.hid kb2; have KG := Lib.hid kb3
          have HF8 := Lib.hid (bldF_len f1)
          clear kb1 kb2 kb3 hok hFF
          go_upto_region 9 with (first
            | ((with_reducible show wpList _ _ _ (Oper.mk _ (Op.load _ _) _ _ _ _ :: _) _ _); refine wpList_val rfl (run_load_fr rfl rfl atF) ?_)
            | (go_at_call 45; refine (c6bfrag f1 _).mono ?_; rintro e wb1 ⟨vb1, rfl, nb1⟩; rw [HE.out]; obtain ⟨R1, r1, rfl, gb1, ob1, yb1⟩ := made_shape nb1))
          have qb1 := q7.trans (yb1.mono zt)
          have zb1 := qb1.size
          go_upto_region 12 with (first
            | (go_at_call 30; refine (clone_any R1 (bldF f1) r1 _ _ gb1 (Nat.le_refl _) (by have := HF8.out; omega)).mono ?_; rintro e wb2 ⟨vb2, rfl, nb2⟩; obtain ⟨R2, r2, rfl, gb2, ob2, yb2⟩ := made_shape nb2)
            | (at_builtin; refine append_rd rfl _ _ rfl wb1.heap.size _ _ _ rfl ob2 w.heap.size A2 c2 b2 rfl h2.none_ ((j2.below (yb1.mono zt)).below (yb2.mono zb1)).rd (by have := HF8.out; omega) yb2.size ?_; intro v3 w3 own3 grow3; obtain ⟨R3, r3, rfl, owm3⟩ := own_made (bs := FF) own3 (by rw [HFF.out]; simp) (by rw [HFF.out, row_append]))
            | (go_at_call 47; refine (c6pfrag R3 FF r3 _ _ (arg_own owm3) (Nat.le_refl _) (by have := HF8.out; rw [HFF.out, List.length_append]; omega)).mono ?_; rintro e w4 ⟨v4, rfl, n4⟩; rw [KB.out, KG.out]; rw [KR.out] at n4; obtain ⟨R4, r4, rfl, gb4, ob4, yb4⟩ := made_shape n4))
          have x3 : Below wb1.heap.size wb1 w3 := yb2.grown grow3 yb2.size (fun k hk => own_block_ge ob2 k hk)
          have q4 : Below w.heap.size w w4 := (qb1.trans (x3.mono zb1)).trans (yb4.mono (Nat.le_trans zb1 x3.size))
          have atF4 := (atF.below yb1 (by have := x17.size; omega)).below (x3.trans (yb4.mono x3.size)) (by have := x17.size; have := yb1.size; omega)
          have ja : Below w4.heap.size w4 (w4.alloc (.cells #[.int .i64 f1.next, .int .i64 f1.off, .int .i64 f1.id, .bool f1.more] 52)) := (Below.refl _ w4).alloc (Nat.le_refl _) _
          have at13 : AtF (w4.alloc (.cells #[.int .i64 f1.next, .int .i64 f1.off, .int .i64 f1.id, .bool f1.more] 52)) w4.heap.size f1 := AtF.new (f := f1) w4
          have hz4 : w.heap.size + 1 < w4.heap.size := by have := x17.size; have := yb1.size; have := x3.size; have := yb4.size; omega
          have at4 := atF4.below ja hz4
          have c0 := at13.next; have c1 := at13.off; have c2' := at13.id; have c3 := at13.more
          have d0 := at4.next; have d1 := at4.off; have d2 := at4.id; have d3 := at4.more
          have e1 := gb4.rd.below ja
          have qx := q4.trans (ja.mono q4.size)
          have e2 := (h2.below qx).rd
          clear at13 at4 atF4 atF gb1 gb2 gb4 ob1 ob2 ob4 nb1 nb2 n4 own3 owm3 grow3 yb1 yb2 yb4 x3 q4 ja j2 qb1 zb1 zt
          generalize w4.alloc (.cells #[.int .i64 f1.next, .int .i64 f1.off, .int .i64 f1.id, .bool f1.more] 52) = X at *
          have zx := qx.size
          go_wp2_with (first
            | (go_at_call 21; refine (equal_same R4 A2 b2 _ _ _ _ _ e1 e2).mono ?_; rintro e w' ⟨rfl, rfl⟩)
            | (go_at_call 32; refine (awake6_any _).mono ?_; rintro e w5 ⟨rfl, b5⟩))
          go_ret
          exact ⟨rfl, qx.trans (b5.mono zx)⟩
        · have HE := Lib.hid (show errF f1 = 1 by rw [errF, if_neg hok])
          have HN := Lib.hid (show (bldF f1).length = 0 by rw [bldF, if_neg hok]; rfl)
          clear hok
          go_wp2_with (first
            | ((with_reducible show wpList _ _ _ (Oper.mk _ (Op.load _ _) _ _ _ _ :: _) _ _); refine wpList_val rfl (run_load_fr rfl rfl atF) ?_)
            | (go_at_call 45; refine (c6bfrag f1 _).mono ?_; rintro e wb1 ⟨vb1, rfl, nb1⟩; rw [HE.out]; obtain ⟨R1, r1, rfl, gb1, ob1, yb1⟩ := made_shape nb1; rw [HN.out])
            | (go_at_call 32; refine (awake6_any _).mono ?_; rintro e w5 ⟨rfl, b5⟩))
          go_ret
          exact ⟨rfl, (q7.trans (yb1.mono zt)).trans (b5.mono (Nat.le_trans zt yb1.size))⟩
      · have hne : (chk6 x0 == 0) = false := by simpa using hc
        clear hc
        go_upto_region 8 with (first
          | ((with_reducible show wpList _ _ _ (Oper.mk _ (Op.load _ _) _ _ _ _ :: _) _ _); refine wpList_val rfl (run_load_v6 rfl rfl hAt (v6l_len s0 e0)) ?_)
          | (go_at_call 33; refine (c6build x0 A0 c0 _ w.heap.size s0 e0 (by omega) (h0.below hB0) hB0.size).mono ?_; rintro e w1 ⟨v1, rfl, n1, -⟩; obtain ⟨rfl, x17⟩ := n1 (by simpa using hne)))
        have q7 := hB0.trans (x17.mono hB0.size)
        -- the tail, at the world w1
        have zt := q7.size
        have atF := hAtF.below x17 hzF
        have j2 := h2.below q7
        by_cases hok : okF f1
        · have HE := Lib.hid (show errF f1 = 0 by rw [errF, if_pos hok])
          obtain ⟨kb1, kb2, kb3⟩ := backF f1 b2 hok
          obtain ⟨FF, hFF⟩ : ∃ B, B = bldF f1 ++ b2 := ⟨_, rfl⟩
          rw [← hFF] at kb1 kb2 kb3
          have HFF := Lib.hid hFF
          have KB := Lib.hid (show frv (prsF FF) = .agg #[.int .i64 f1.next, .int .i64 f1.off, .int .i64 f1.id, .bool f1.more] by rw [kb1]; rfl)
          have KR := Lib.hid kb2; have KG := Lib.hid kb3
          have HF8 := Lib.hid (bldF_len f1)
          clear kb1 kb2 kb3 hok hFF
          go_upto_region 9 with (first
            | ((with_reducible show wpList _ _ _ (Oper.mk _ (Op.load _ _) _ _ _ _ :: _) _ _); refine wpList_val rfl (run_load_fr rfl rfl atF) ?_)
            | (go_at_call 45; refine (c6bfrag f1 _).mono ?_; rintro e wb1 ⟨vb1, rfl, nb1⟩; rw [HE.out]; obtain ⟨R1, r1, rfl, gb1, ob1, yb1⟩ := made_shape nb1))
          have qb1 := q7.trans (yb1.mono zt)
          have zb1 := qb1.size
          go_upto_region 12 with (first
            | (go_at_call 30; refine (clone_any R1 (bldF f1) r1 _ _ gb1 (Nat.le_refl _) (by have := HF8.out; omega)).mono ?_; rintro e wb2 ⟨vb2, rfl, nb2⟩; obtain ⟨R2, r2, rfl, gb2, ob2, yb2⟩ := made_shape nb2)
            | (at_builtin; refine append_rd rfl _ _ rfl wb1.heap.size _ _ _ rfl ob2 w.heap.size A2 c2 b2 rfl h2.none_ ((j2.below (yb1.mono zt)).below (yb2.mono zb1)).rd (by have := HF8.out; omega) yb2.size ?_; intro v3 w3 own3 grow3; obtain ⟨R3, r3, rfl, owm3⟩ := own_made (bs := FF) own3 (by rw [HFF.out]; simp) (by rw [HFF.out, row_append]))
            | (go_at_call 47; refine (c6pfrag R3 FF r3 _ _ (arg_own owm3) (Nat.le_refl _) (by have := HF8.out; rw [HFF.out, List.length_append]; omega)).mono ?_; rintro e w4 ⟨v4, rfl, n4⟩; rw [KB.out, KG.out]; rw [KR.out] at n4; obtain ⟨R4, r4, rfl, gb4, ob4, yb4⟩ := made_shape n4))
          have x3 : Below wb1.heap.size wb1 w3 := yb2.grown grow3 yb2.size (fun k hk => own_block_ge ob2 k hk)
          have q4 : Below w.heap.size w w4 := (qb1.trans (x3.mono zb1)).trans (yb4.mono (Nat.le_trans zb1 x3.size))
          have atF4 := (atF.below yb1 (by have := x17.size; omega)).below (x3.trans (yb4.mono x3.size)) (by have := x17.size; have := yb1.size; omega)
          have ja : Below w4.heap.size w4 (w4.alloc (.cells #[.int .i64 f1.next, .int .i64 f1.off, .int .i64 f1.id, .bool f1.more] 52)) := (Below.refl _ w4).alloc (Nat.le_refl _) _
          have at13 : AtF (w4.alloc (.cells #[.int .i64 f1.next, .int .i64 f1.off, .int .i64 f1.id, .bool f1.more] 52)) w4.heap.size f1 := AtF.new (f := f1) w4
          have hz4 : w.heap.size + 1 < w4.heap.size := by have := x17.size; have := yb1.size; have := x3.size; have := yb4.size; omega
          have at4 := atF4.below ja hz4
          have c0 := at13.next; have c1 := at13.off; have c2' := at13.id; have c3 := at13.more
          have d0 := at4.next; have d1 := at4.off; have d2 := at4.id; have d3 := at4.more
          have e1 := gb4.rd.below ja
          have qx := q4.trans (ja.mono q4.size)
          have e2 := (h2.below qx).rd
          clear at13 at4 atF4 atF gb1 gb2 gb4 ob1 ob2 ob4 nb1 nb2 n4 own3 owm3 grow3 yb1 yb2 yb4 x3 q4 ja j2 qb1 zb1 zt
          generalize w4.alloc (.cells #[.int .i64 f1.next, .int .i64 f1.off, .int .i64 f1.id, .bool f1.more] 52) = X at *
          have zx := qx.size
          go_wp2_with (first
            | (go_at_call 21; refine (equal_same R4 A2 b2 _ _ _ _ _ e1 e2).mono ?_; rintro e w' ⟨rfl, rfl⟩)
            | (go_at_call 32; refine (awake6_any _).mono ?_; rintro e w5 ⟨rfl, b5⟩))
          go_ret
          exact ⟨rfl, qx.trans (b5.mono zx)⟩
        · have HE := Lib.hid (show errF f1 = 1 by rw [errF, if_neg hok])
          have HN := Lib.hid (show (bldF f1).length = 0 by rw [bldF, if_neg hok]; rfl)
          clear hok
          go_wp2_with (first
            | ((with_reducible show wpList _ _ _ (Oper.mk _ (Op.load _ _) _ _ _ _ :: _) _ _); refine wpList_val rfl (run_load_fr rfl rfl atF) ?_)
            | (go_at_call 45; refine (c6bfrag f1 _).mono ?_; rintro e wb1 ⟨vb1, rfl, nb1⟩; rw [HE.out]; obtain ⟨R1, r1, rfl, gb1, ob1, yb1⟩ := made_shape nb1; rw [HN.out])
            | (go_at_call 32; refine (awake6_any _).mono ?_; rintro e w5 ⟨rfl, b5⟩))
          go_ret
          exact ⟨rfl, (q7.trans (yb1.mono zt)).trans (b5.mono (Nat.le_trans zt yb1.size))⟩

/-! ### The row's step -/
set_option maxRecDepth 100000 in
theorem lifted (os : Os) (started : os.Started) (H : Type) (enc : TypeId × Value → H) :
    ReturnsInHanded {} Try.checked os 10 .any (Rows.v6BackSpec.pre6 enc Try.prog Try.f10 Rows.v6BackRow.domain false) (Rows.v6BackSpec.post enc Try.prog Try.f10 false true false false) := by
  refine returnsInHanded_of_change (C := Try.checked) own started (by kernel_rfl) Try.func10
    (ChangeSpec.witness6 (enc := enc) (C := Try.checked) false ⟨#[], #[.agg #[.int .i64 0, .int .i64 0, .int .i64 0, .int .i64 0, .int .u8 0, .int .u8 0, .int .u8 0, .int .u8 0, .int .u8 0, .int .u8 0, .int .u8 0, .int .u8 0, .int .u8 0, .int .u8 0, .int .u8 0, .int .u8 0, .int .u8 0, .int .u8 0, .int .u8 0, .int .u8 0, .int .u8 0, .int .u8 0, .int .u8 0, .int .u8 0, .int .u8 0, .int .u8 0, .int .u8 0, .int .u8 0, .int .u8 0, .int .u8 0, .int .u8 0, .int .u8 0, .int .u8 0, .int .u8 0, .int .u8 0, .int .u8 0, .slice none 0 0], .agg #[.int .i64 0, .int .i64 0, .int .i64 0, .bool false], .slice none 0 0], []⟩ 8 (by kernel_rfl) (by kernel_rfl) (by kernel_rfl) (by kernel_rfl)) ?_
  intro W base args ds gs before hval0 hW hcnd _
  have hval : ∀ (j : Nat) t v, Try.f10.params[j]? = some t → args[j]? = some v → Value.okWide Try.prog W .any base t v := hval0
  have hW' := hW
  obtain ⟨p, q, hA0, hV, rfl, hfz, hnd⟩ := hW
  have hA : DataW.TrodAll enc Try.prog W 0 (fun _ => true) true Try.f10.params.toList args.toList ds p := hA0
  rw [Try.params10] at hA hval
  obtain ⟨v0, vs0, d0, ds0, p0, q0, hargs, rfl, rfl, t0, r0⟩ := trodAll_cons hA
  obtain ⟨v1, vs1, d1, ds1, p1, q1, rfl, rfl, rfl, t1, r1⟩ := trodAll_cons r0
  obtain ⟨v2, vs2, d2, ds2, p2, q2, rfl, rfl, rfl, t2, r2⟩ := trodAll_cons r1
  obtain ⟨rfl, rfl, rfl⟩ := trodAll_nil r2
  obtain rfl : args = #[v0, v1, v2] := by cases args; simp_all
  obtain ⟨rfl, rfl⟩ := trodVars_none hV
  have k0 := t0
  have lt0 := Trod_lt t0
  have k1 := t1
  have lt1 := Trod_lt t1
  have k2 := t2
  have lt2 := Trod_lt t2
  obtain ⟨x0, A0, c0, rfl, h0, m0, w0, s0, e0⟩ := get_v6 (hval 0 44 v0 rfl rfl) t0
  obtain ⟨f1, rfl, w1⟩ := get_frag (hval 1 52 v1 rfl rfl) t1
  obtain ⟨A2, c2, b2, rfl, h2, m2⟩ := get_bytes Try.underlying22 Try.underlying5 (by kernel_rfl) (hval 2 22 v2 rfl rfl) t2
  clear hA0 hval0
  refine (walk x0 A0 c0 f1 A2 c2 b2 W h0 m0 w0 s0 e0 w1 h2 m2).mono fun e W' ⟨he, bel⟩ => ?_
  subst he
  exact ⟨_, rfl, _, _, _, [], _, [], hW', trodAll_mk1 (shut_bool Try.underlying4 _), (trodAll_cons_mk (Below.trod laidOut (by kernel_rfl) (of_decide_eq_true (by kernel_rfl)) k0 bel lt0) (trodAll_cons_mk (Below.trod laidOut (by kernel_rfl) (of_decide_eq_true (by kernel_rfl)) k1 bel lt1) (trodAll_cons_mk (Below.trod laidOut (by kernel_rfl) (of_decide_eq_true (by kernel_rfl)) k2 bel lt2) trodAll_mk0))), rfl, bel.frame _, fun h => by cases h⟩

theorem over : Rows.v6BackRow.holds Try.pinned (OpenSpec.ofChange Rows.v6BackSpec) :=
  OpenClaim.holds_of_wide 10 Try.f10 rfl rfl rfl rfl rfl rfl rfl ⟨rfl, rfl, rfl, rfl, rfl⟩ rfl rfl rfl rfl rfl (by kernel_rfl) Try.func10 (by kernel_rfl)
    (of_decide_eq_true (by kernel_rfl)) (by unfold Func.isWrapper; first | (rw [if_pos (by decide +kernel)]; kernel_rfl) | (rw [if_neg (by decide +kernel)]; exact ⟨rfl, rfl⟩))
    (fun os started H enc _ => lifted os started H enc)

theorem proved : Rows.V6BackSaid := over
end Go.Proofs.Ytcfcmnhnijjehaa.v6Back
