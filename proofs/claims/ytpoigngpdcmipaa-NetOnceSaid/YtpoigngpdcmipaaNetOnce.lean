/-
  For all numbers goosepondlaw34.NetOnce answers true: what is put is taken just once, whatever the order in which it is taken. Conditions: none but the statement's own.
-/
import Derived.Test.YtpoigngpdcmipaaRows
import Derived.WalkKit
import Derived.ProofKit
import Derived.OpenShut
import Derived.ChangeOld
import Derived.Below
import Derived.Test.YtpoigngpdcmipaaNa2
import Derived.Test.YtpoigngpdcmipaaNa8
namespace Go.Proofs.Ytpoigngpdcmipaa.netOnce
open Go.ChangeShapes Go.WideShapes Go.ChangeAt Go.RowKit
set_option linter.unusedVariables false
attribute [local go_sem] Oper.semAt_some

theorem own : ownKnob Try.prog.godebug = none := by kernel_rfl
theorem laidOut : laidOutB Try.prog = true := by kernel_rfl

/-! ### The walk -/
set_option maxRecDepth 100000 in
set_option maxHeartbeats 4000000 in
theorem walk (a0 : Int) (A1 : Option Addr) (c1 : Nat) (z1 : List Int) (w : World) (w0 : (Lit.int .u8 a0).wf = true) (h1 : RdI w w.heap.size A1 z1) (l1 : z1.length ≤ c1) (m1 : c1 ≤ maxLen) (w1 : ∀ n ∈ z1, (Lit.int .i64 n).wf = true) :
    Calls Try.prog 4 #[.int .u8 a0, .slice A1 z1.length c1] w fun e w' => e = .returned (.bool true) ∧ Below w.heap.size w w' := by
  have hb0 : 0 ≤ a0 ∧ a0 ≤ 255 := by have := w0; simp [Lit.wf, IntKind.min, IntKind.max, IntKind.bits, IntKind.signed] at this; omega
  obtain ⟨m, hm⟩ : ∃ m : Nat, a0 = (m : Int) := ⟨a0.toNat, by omega⟩
  have hm5 : m ≤ 255 := by omega
  subst hm
  have ewm : IntKind.i64.wrap (m : Int) = (m : Int) := IntWalk.i64_in _ (by omega)
  have H1 := Lib.hid h1
  obtain ⟨n1, hn1⟩ : ∃ n, n = z1.length := ⟨_, rfl⟩
  have HN1 := Lib.hid hn1
  clear w0 h1 w1 hb0
  rw [← hn1]
  clear hn1
  go_enter Try.func4, Try.ntmps4
  go_wp2_with (first
    | (go_at_call 6; (with_reducible refine (awake34 w).mono ?_); rintro e v1 ⟨rfl, x1⟩; have z1' := x1.size)
    | (go_at_call 7; refine (ntnew 300 (by decide) v1).mono ?_; rintro e v2 ⟨rfl, h2, x2⟩; have H2 := Lib.hid h2; clear h2))
  have b2 := x1.trans (x2.mono z1')
  have HG := Lib.hid z1'
  have H2' : Hid (∃ v, Nt v2 v1.heap.size v1.heap.size v 300 []) := Lib.hid ⟨_, H2.out⟩
  clear x1 x2 z1'
  generalize v1.heap.size = g at *
  go_loopw [29] (fun i wr => ∃ j : Nat, j ≤ m ∧ i = .int .i64 (j : Int) ∧ Hid (∃ v L, Nt wr g g v 300 L ∧ L.map (·.x) = (List.range j).map mkN) ∧ Below w.heap.size w wr) (fun i _ => m - (intOf i).toNat)
  case atStart => exact ⟨0, Nat.zero_le _, rfl, Lib.hid ⟨_, [], H2.out, rfl⟩, b2⟩
  case round =>
    obtain ⟨j, hj, rfl, HI, hbel⟩ := hrel
    have hz := hbel.size
    by_cases hlt : j < m
    · obtain ⟨v, L, hN, hL⟩ := HI.out
      have hlen : L.length = j := by have := congrArg List.length hL; simpa using this
      have e8 : ((UInt8.ofNat j).toNat : Int) = (j : Int) := by
        have h1 : (UInt8.ofNat j).toNat = j % 256 := UInt8.toNat_ofNat'
        rw [h1]; omega
      have a3 := (Below.refl wr.heap.size wr).alloc (Nat.le_refl _) (.cells #[.int .u8 (j : Int)] 5)
      have hA3 := arg_lit (w := wr) (UInt8.ofNat j) (fr := (0, 0))
      rw [e8] at hA3
      have HP : Hid (Calls Try.prog 14 #[.pointer (some ⟨g, 0, none⟩), .agg #[.int .i64 0, .bool false, .slice (some ⟨wr.heap.size, 0, none⟩) 1 1]] (wr.alloc (.cells #[.int .u8 (j : Int)] 5)) fun e w' => e = .returned (.int .i64 0) ∧ ∃ v' P p, Nt w' g g v' 300 (L ++ [⟨mkN j, P, p⟩]) ∧ Kept (NNb TNc g (wr.alloc (.cells #[.int .u8 (j : Int)] 5))) (wr.alloc (.cells #[.int .u8 (j : Int)] 5)) w') :=
        Lib.hid (ntput (hN.below a3) ⟨mkN j, some ⟨wr.heap.size, 0, none⟩, 1⟩ hA3 (by show (0 : Int) ≤ 0 ∧ (0 : Int) < 64; decide) (by show 1 ≤ 65575; decide) (by rw [hlen]; omega))
      have HA3 := Lib.hid a3
      have HLL := Lib.hid hL
      have HG2 := Lib.hid (hN.gB)
      clear hN hL hlen a3 hA3 e8
      go_wp2_with (go_at_call 14; (with_reducible refine HP.out.mono ?_); rintro e w3 ⟨rfl, v3, P3, p3, n3, k3⟩; have H3 := Lib.hid n3; have K3 := Lib.hid k3; clear n3 k3)
      go_roundw
      case rel =>
        refine ⟨j + 1, by omega, by simp, Lib.hid ⟨v3, _, H3.out, by rw [List.map_append, HLL.out, List.range_succ, List.map_append]; rfl⟩, ?_⟩
        have q1 := hbel.trans (HA3.out.mono hz)
        exact q1.trans (kept_nb K3.out HG.out q1.size)
      case measure => simp [intOf]; omega
    · obtain rfl : m = j := by omega
      obtain ⟨v, L, hN, hL⟩ := HI.out
      have HN0 := Lib.hid hN
      have HL0 := Lib.hid (left_all m hm5 L hL)
      have HLN : Hid (L.length = m) := Lib.hid (by have := congrArg List.length hL; simpa using this)
      clear hN hL H2 b2 HI
      go_upto_region 13 with (first
        | ((with_reducible show wpList _ _ _ (Oper.mk _ (Op.build 53 _) _ _ _ _ :: _) _ _); refine wpList_val rfl (run_build_256 rfl) ?_)
        | ((with_reducible show wpList _ _ _ (Oper.mk _ (Op.alloc 53) _ _ _ _ :: _) _ _); refine wpList_growU rfl (run_alloc_256 rfl) ?_)
        | ((with_reducible show wpList _ _ _ (Oper.mk _ (Op.store 53 _ _) _ _ _ _ :: _) _ _); refine store_256 rfl rfl ?_))
      have a4 := (Below.refl wr.heap.size wr).alloc (Nat.le_refl _) (.cells z256 53)
      have HM0 := Lib.hid (mk8_zero wr)
      have HN4 := Lib.hid (HN0.out.below a4)
      have b4 := hbel.trans (a4.mono hz)
      clear a4 hbel
      generalize wr.alloc (.cells z256 53) = W4 at *
      have HGS := Lib.hid hz
      generalize wr.heap.size = gs at *
      go_wp2
      go_loopw [43] (fun i wr => ∃ j : Nat, j ≤ m ∧ i = .int .i64 (j : Int) ∧ Hid (∃ v L R S, Nt wr g g v 300 L ∧ Mk8 wr gs S ∧ LeftN L R S ∧ L.length = m - j) ∧ Below w.heap.size w wr) (fun i _ => m - (intOf i).toNat)
      case atStart => exact ⟨0, Nat.zero_le _, rfl, Lib.hid ⟨_, L, _, _, HN4.out, HM0.out, HL0.out, HLN.out⟩, b4⟩
      case round =>
        clear HN4 HM0 HL0 HLN b4 HN0 hz hlt
        obtain ⟨j, hj, rfl, HI, hbel⟩ := hrel
        have hz := hbel.size
        by_cases hlt : j < m
        · obtain ⟨v, L, R, S, hN, hM, hLf, hlen⟩ := HI.out
          obtain ⟨k, hk⟩ : ∃ k : Int, k = (if j < n1 then z1.getD j 0 else 0) := ⟨_, rfl⟩
          have hp := (plN_eq k (show 0 < L.length by omega)).2.1
          obtain ⟨y, r, hy, hr, hyx⟩ := mkN_map hLf.m hp
          have hr256 : r < 256 := hLf.lt r (List.mem_of_getElem? hr)
          have hyb : y.x.b = [UInt8.ofNat r] := by rw [hyx]; rfl
          have HTK := Lib.hid (nttake hN (show 0 < L.length by omega) k hy (by rw [hyb]; show 1 ≤ 1000000; decide))
          have HNG := Lib.hid hN.gB
          have HMM := Lib.hid hM
          have HLT := Lib.hid (hLf.take hr)
          have HUN := Lib.hid (hLf.un r (List.mem_of_getElem? hr))
          have HEL : Hid ((L.eraseIdx (plN k L.length)).length = m - (j + 1)) := Lib.hid (by rw [List.length_eraseIdx, if_pos hp]; omega)
          have HYB := Lib.hid hyb
          have HKK := Lib.hid hk
          have er8 : ((UInt8.ofNat r).toNat : Int) = (r : Int) := by
            have h1 : (UInt8.ofNat r).toNat = r % 256 := UInt8.toNat_ofNat'
            rw [h1]; omega
          have HR8 := Lib.hid er8
          have hyl : (y.x.b.length : Int) = 1 := by rw [hyb]; rfl
          clear hN hM hLf hlen hp hy hr hyx hk er8
          clear hyb
          by_cases hjn : j < n1
          · have dj : decide ((j : Int) < (n1 : Int)) = true := by simp; omega
            obtain ⟨b1, o1, rfl, hb1, hc1⟩ := H1.out (by rw [← HN1.out]; omega)
            have kz : wr.cell? ⟨b1, o1 + j, none⟩ = some (.int .i64 k) := by
              rw [HKK.out, if_pos hjn]
              exact (hbel.cell (p := ⟨b1, o1 + j, none⟩) hb1).trans (hc1 j (by rw [← HN1.out]; exact hjn))
            clear hc1 hb1
            go_upto_region 19 with fail
            go_wp2_with fail
            go_at_call 12
            refine HTK.out.mono ?_
            rintro e w5 ⟨P5, p5, he, o5, ⟨v5, n5⟩, k5⟩
            obtain rfl := he.out
            clear he
            go_upto_region 20 with ((with_reducible show wpList _ _ _ (Oper.mk _ (Op.store 33 _ _) _ _ _ _ :: _) _ _); refine nis_store_new (cs := (clI ⟨y.x, P5, p5⟩).toArray) rfl rfl rfl rfl (clI_all _) ?_)
            have kN := World.alloc_heap_new w5 (.cells (clI ⟨y.x, P5, p5⟩).toArray 33)
            have a6 := (Below.refl w5.heap.size w5).alloc (Nat.le_refl _) (.cells (clI ⟨y.x, P5, p5⟩).toArray 33)
            have g6 := arg_own (own_below o5 a6)
            have HNT := Lib.hid (n5.below a6)
            have HMT := Lib.hid ((HMM.out.kept k5).below a6)
            have q5 := hbel.trans (kept_nb k5 HG.out hz)
            have b5 := q5.trans (a6.mono q5.size)
            generalize w5.alloc (.cells (clI ⟨y.x, P5, p5⟩).toArray 33) = X at *
            have c2 : X.cell? ⟨w5.heap.size, 2, none⟩ = some (.slice P5 y.x.b.length p5) := cells_at (i := 2) kN rfl
            obtain ⟨bb, oo, rfl, _, hcc⟩ := g6.rd (by show 0 < y.x.b.length; omega)
            have cb : X.cell? ⟨bb, oo, none⟩ = some (.int .u8 (r : Int)) := by
              have h1 := hcc 0 (by show 0 < y.x.b.length; omega)
              rw [Nat.add_zero] at h1
              rw [h1, HYB.out, ← HR8.out]; rfl
            obtain ⟨cs8, fs8⟩ := HMT.out.at_ HUN.out
            have HM6 := Lib.hid (HMT.out.set r)
            have HN6 := Lib.hid (HNT.out.away (Kept.setCell X gs r (.bool true)) (mk8_away HMT.out) t8_no.1 t8_no.2.1 t8_no.2.2.1)
            have b6 : Below w.heap.size w (X.setCell ⟨gs, r, none⟩ (.bool true)) := b5.setCell (p := ⟨gs, r, none⟩) HGS.out _
            clear o5 n5 k5 a6 kN hcc g6 q5
            go_wp2
            go_roundw
            case rel => exact ⟨j + 1, by omega, by simp, Lib.hid ⟨_, _, _, _, HN6.out, HM6.out, HLT.out, HEL.out⟩, b6⟩
            case measure => simp [intOf]; omega
          · have dj : decide ((j : Int) < (n1 : Int)) = false := by simp; omega
            obtain rfl : k = 0 := by rw [HKK.out, if_neg hjn]
            go_upto_region 20 with (first
              | ((with_reducible show wpList _ _ _ (Oper.mk _ (Op.store 33 _ _) _ _ _ _ :: _) _ _); refine nis_store_new (cs := (clI ⟨y.x, P5, p5⟩).toArray) rfl rfl rfl rfl (clI_all _) ?_)
              | (go_at_call 12; refine HTK.out.mono ?_; rintro e w5 ⟨P5, p5, he, o5, ⟨v5, n5⟩, k5⟩; obtain rfl := he.out; clear he))
            have kN := World.alloc_heap_new w5 (.cells (clI ⟨y.x, P5, p5⟩).toArray 33)
            have a6 := (Below.refl w5.heap.size w5).alloc (Nat.le_refl _) (.cells (clI ⟨y.x, P5, p5⟩).toArray 33)
            have g6 := arg_own (own_below o5 a6)
            have HNT := Lib.hid (n5.below a6)
            have HMT := Lib.hid ((HMM.out.kept k5).below a6)
            have q5 := hbel.trans (kept_nb k5 HG.out hz)
            have b5 := q5.trans (a6.mono q5.size)
            generalize w5.alloc (.cells (clI ⟨y.x, P5, p5⟩).toArray 33) = X at *
            have c2 : X.cell? ⟨w5.heap.size, 2, none⟩ = some (.slice P5 y.x.b.length p5) := cells_at (i := 2) kN rfl
            obtain ⟨bb, oo, rfl, _, hcc⟩ := g6.rd (by show 0 < y.x.b.length; omega)
            have cb : X.cell? ⟨bb, oo, none⟩ = some (.int .u8 (r : Int)) := by
              have h1 := hcc 0 (by show 0 < y.x.b.length; omega)
              rw [Nat.add_zero] at h1
              rw [h1, HYB.out, ← HR8.out]; rfl
            obtain ⟨cs8, fs8⟩ := HMT.out.at_ HUN.out
            have HM6 := Lib.hid (HMT.out.set r)
            have HN6 := Lib.hid (HNT.out.away (Kept.setCell X gs r (.bool true)) (mk8_away HMT.out) t8_no.1 t8_no.2.1 t8_no.2.2.1)
            have b6 : Below w.heap.size w (X.setCell ⟨gs, r, none⟩ (.bool true)) := b5.setCell (p := ⟨gs, r, none⟩) HGS.out _
            clear o5 n5 k5 a6 kN hcc g6 q5
            go_wp2
            go_roundw
            case rel => exact ⟨j + 1, by omega, by simp, Lib.hid ⟨_, _, _, _, HN6.out, HM6.out, HLT.out, HEL.out⟩, b6⟩
            case measure => simp [intOf]; omega
        · obtain rfl : m = j := by omega
          obtain ⟨v, L, R, S, hN, _, _, hlen⟩ := HI.out
          have h0 : L.length = 0 := by omega
          have HT0 := Lib.hid (nttake_none hN h0 0)
          have HN5 := Lib.hid hN
          have HL5 := Lib.hid h0
          clear hN hlen h0 HI
          go_wp2_with (first
            | (go_at_call 12; refine HT0.out.mono ?_; rintro e w5 ⟨rfl, x5⟩; have hlen5 := ntlen (HN5.out.below x5); rw [HL5.out] at hlen5; have HLE := Lib.hid hlen5; clear hlen5)
            | ((with_reducible show wpList _ _ _ (Oper.mk _ (Op.store 33 _ _) _ _ _ _ :: _) _ _); refine nis_store_new (cs := #[.int .i64 0, .bool false, .slice none 0 0]) rfl rfl rfl rfl (by simp [Value.oneCell']) ?_; have a6 := (Below.refl w5.heap.size w5).alloc (Nat.le_refl _) (.cells #[.int .i64 0, .bool false, .slice none 0 0] 33); have hlen6 := ntlen ((HN5.out.below x5).below a6); rw [HL5.out] at hlen6; have HLE6 := Lib.hid hlen6; clear hlen6)
            | (go_at_call 16; refine HLE6.out.mono ?_; rintro e w6 ⟨rfl, rfl⟩)
            | (go_at_call 6; refine (awake34 _).mono ?_; rintro e w7 ⟨rfl, x7⟩))
          go_ret
          have q1 := hbel.trans ((x5.trans (a6.mono x5.size)).mono hz)
          exact ⟨rfl, q1.trans (x7.mono q1.size)⟩

/-! ### The row's step -/
set_option maxRecDepth 100000 in
theorem lifted (os : Os) (started : os.Started) (H : Type) (enc : TypeId × Value → H) :
    ReturnsInHanded {} Try.checked os 4 .any (Rows.netOnceSpec.pre6 enc Try.prog Try.f4 Rows.netOnceRow.domain false) (Rows.netOnceSpec.post enc Try.prog Try.f4 false true false false) := by
  refine returnsInHanded_of_change (C := Try.checked) own started (by kernel_rfl) Try.func4
    (ChangeSpec.witness6 (enc := enc) (C := Try.checked) false ⟨#[], #[.int .u8 0, .slice none 0 0], []⟩ 8 (by kernel_rfl) (by kernel_rfl) (by kernel_rfl) (by kernel_rfl)) ?_
  intro W base args ds gs before hval0 hW hcnd _
  have hval : ∀ (j : Nat) t v, Try.f4.params[j]? = some t → args[j]? = some v → Value.okWide Try.prog W .any base t v := hval0
  have hW' := hW
  obtain ⟨p, q, hA0, hV, rfl, hfz, hnd⟩ := hW
  have hA : DataW.TrodAll enc Try.prog W 0 (fun _ => true) true Try.f4.params.toList args.toList ds p := hA0
  rw [Try.params4] at hA hval
  obtain ⟨v0, vs0, d0, ds0, p0, q0, hargs, rfl, rfl, t0, r0⟩ := trodAll_cons hA
  obtain ⟨v1, vs1, d1, ds1, p1, q1, rfl, rfl, rfl, t1, r1⟩ := trodAll_cons r0
  obtain ⟨rfl, rfl, rfl⟩ := trodAll_nil r1
  obtain rfl : args = #[v0, v1] := by cases args; simp_all
  obtain ⟨rfl, rfl⟩ := trodVars_none hV
  have k0 := t0
  have lt0 := Trod_lt t0
  have k1 := t1
  have lt1 := Trod_lt t1
  obtain ⟨a0, rfl, w0⟩ := get_int Try.underlying5 (hval 0 5 v0 rfl rfl) t0
  obtain ⟨A1, c1, z1, rfl, h1, l1, m1, w1⟩ := get_ints Try.underlying52 Try.underlying3 (by kernel_rfl) (hval 1 52 v1 rfl rfl) t1
  clear hA0 hval0
  refine (walk a0 A1 c1 z1 W w0 h1 l1 m1 w1).mono fun e W' ⟨he, bel⟩ => ?_
  subst he
  exact ⟨_, rfl, _, _, _, [], _, [], hW', trodAll_mk1 (shut_bool Try.underlying4 _), (trodAll_cons_mk (Below.trod laidOut (by kernel_rfl) (of_decide_eq_true (by kernel_rfl)) k0 bel lt0) (trodAll_cons_mk (Below.trod laidOut (by kernel_rfl) (of_decide_eq_true (by kernel_rfl)) k1 bel lt1) trodAll_mk0)), rfl, bel.frame _, fun h => by cases h⟩

theorem over : Rows.netOnceRow.holds Try.pinned (OpenSpec.ofChange Rows.netOnceSpec) :=
  OpenClaim.holds_of_wide 4 Try.f4 rfl rfl rfl rfl rfl rfl rfl ⟨rfl, rfl, rfl, rfl, rfl⟩ rfl rfl rfl rfl rfl (by kernel_rfl) Try.func4 (by kernel_rfl)
    (of_decide_eq_true (by kernel_rfl)) (by unfold Func.isWrapper; first | (rw [if_pos (by decide +kernel)]; kernel_rfl) | (rw [if_neg (by decide +kernel)]; exact ⟨rfl, rfl⟩))
    (fun os started H enc _ => lifted os started H enc)

theorem proved : Rows.NetOnceSaid := over
end Go.Proofs.Ytpoigngpdcmipaa.netOnce
