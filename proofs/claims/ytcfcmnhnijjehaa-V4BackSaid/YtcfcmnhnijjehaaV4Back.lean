/-
  For every packet of IPv4 and all bytes, goosepondlaw05.V4Back answers true: a packet is parsed from its bytes, whatever stands behind.
  Conditions: none but the statement's own.
-/
import Derived.Test.YtcfcmnhnijjehaaRows
import Derived.WalkKit
import Derived.ProofKit
import Derived.OpenShut
import Derived.ChangeOld
import Derived.Below
import Derived.Test.YtcfcmnhnijjehaaOpen
import Derived.Test.YtcfcmnhnijjehaaV4J
namespace Go.Proofs.Ytcfcmnhnijjehaa.v4Back
open Go.ChangeShapes Go.WideShapes Go.ChangeAt Go.RowKit
set_option linter.unusedVariables false
attribute [local go_sem] Oper.semAt_some

theorem own : ownKnob Try.prog.godebug = none := by kernel_rfl
theorem laidOut : laidOutB Try.prog = true := by kernel_rfl

/-! ### The walk -/
set_option maxRecDepth 100000 in
set_option maxHeartbeats 4000000 in
theorem walk (x0 : P4) (A0 : Option Addr) (c0 : Nat) (A0' : Option Addr) (c0' : Nat) (A1 : Option Addr) (c1 : Nat) (b1 : List UInt8) (w : World) (h0 : Arg w w.heap.size A0 c0 x0.opt) (h0' : Arg w w.heap.size A0' c0' x0.dat) (m0 : c0 ≤ maxLen) (m0' : c0' ≤ maxLen) (w0 : x0.fits) (h1 : Arg w w.heap.size A1 c1 b1) (m1 : c1 ≤ maxLen) :
    Calls Try.prog 5 #[v4v x0 A0 c0 A0' c0', .slice A1 b1.length c1] w fun e w' => e = .returned (.bool true) ∧ Below w.heap.size w w' := by
  have hB0 : Below w.heap.size w (w.alloc (.cells (v4a x0 A0 c0 A0' c0') 24)) := (Below.refl _ w).alloc (Nat.le_refl _) _
  have hAt := At4.new (q := x0) (A := A0) (c := c0) (A' := A0') (c' := c0') w
  have hz0 : w.heap.size < (w.alloc (.cells (v4a x0 A0 c0 A0' c0') 24)).heap.size := by simp
  unfold v4v
  rw [show #[Value.int .i64 x0.tos, .int .i64 x0.id, .int .i64 x0.off, .int .i64 x0.ttl, .int .i64 x0.proto, .int .i64 x0.src, .int .i64 x0.dst, .bool x0.df, .bool x0.mf, .slice A0 x0.opt.length c0, .slice A0' x0.dat.length c0'] = v4a x0 A0 c0 A0' c0' from rfl]
  go_enter Try.func5, Try.ntmps5
  go_upto_region 1 with fail
  generalize w.alloc (.cells (v4a x0 A0 c0 A0' c0') 24) = W at *
  rcases hf0 : (decide (3000 < x0.dat.length) || decide (200 < x0.opt.length)) with _ | _
  · have HF0 := Lib.hid hf0
    have hd0 : x0.dat.length ≤ 3000 := by simp at hf0; omega
    have ho0 : x0.opt.length ≤ 200 := by simp at hf0; omega
    clear hf0
    by_cases h' : 500 < b1.length
    · have hd' : decide (500 < (b1.length : Int)) = true := by simp; omega
      go_wp2_with (first
        | ((with_reducible show wpList _ _ _ (Oper.mk _ (Op.load 24 _) _ _ _ _ :: _) _ _); refine wpList_valw (by rfl) (run_load_v4 rfl rfl hAt rfl) ?_)
        | (go_at_call 11; with_reducible refine (far_arr x0 A0 c0 A0' c0' _).mono ?_; rintro e w1 ⟨rfl, y1⟩; rw [HF0.out]; have hAt1 := hAt.below y1 hz0)
        | (go_at_call 12; refine (awake5_any _).mono ?_; rintro e w10 ⟨rfl, b10⟩))
      go_ret
      have q1 := hB0.trans (y1.mono hB0.size)
      exact ⟨rfl, q1.trans (b10.mono q1.size)⟩
    · have hd' : decide (500 < (b1.length : Int)) = false := by simp; omega
      by_cases hc : chk4 x0 = 0
      · have HC := Lib.hid hc
        obtain ⟨kp1, kp2⟩ := back_ok (q := x0) (more := b1) hc
        obtain ⟨R, hR⟩ : ∃ l, l = bld4 x0 := ⟨_, rfl⟩
        obtain ⟨BB, hBB⟩ : ∃ B, B = R ++ b1 := ⟨_, rfl⟩
        rw [← hR, ← hBB] at kp1 kp2
        have HBB := Lib.hid hBB
        have HR := Lib.hid hR
        have KV := Lib.hid kp2
        have KE := Lib.hid kp1
        have KS := Lib.hid (same4_iff.2 (rfl : x0 = x0))
        have hRl : R.length = 20 + x0.opt.length + x0.dat.length := by rw [hR, bld4_len]
        have HS := Lib.hid (show size4 x0 = (R.length : Int) by rw [hRl, size4, head4]; omega)
        obtain ⟨H, hH⟩ : ∃ n, n = 20 + x0.opt.length := ⟨_, rfl⟩
        have HH := Lib.hid (show head4 x0 = (H : Int) by rw [head4, hH]; omega)
        obtain ⟨HB, hHB⟩ : ∃ l, l = R.take H := ⟨_, rfl⟩
        have HHl := Lib.hid (show HB.length = H by rw [hHB, List.length_take]; omega)
        have HHB := Lib.hid hHB
        have HRT := Lib.hid (show rightB [HB] = true by rw [hHB, hR, back_head hH]; exact head_right x0)
        have hHR : H ≤ R.length := by omega
        have hRm : R.length ≤ 4000 := by omega
        have hBm : BB.length ≤ 5000 := by rw [hBB, List.length_append]; omega
        clear hc kp1 kp2 hBB hR hRl hH hHB
        go_upto_region 6 with (first
          | ((with_reducible show wpList _ _ _ (Oper.mk (some 9) (Op.load 24 _) _ _ _ _ :: _) _ _); refine wpList_valw (by rfl) (run_load_v4 rfl rfl hAt rfl) ?_)
          | (go_at_call 11; with_reducible refine (far_arr x0 A0 c0 A0' c0' _).mono ?_; rintro e w1 ⟨rfl, y1⟩; rw [HF0.out]; have hAt1 := hAt.below y1 hz0)
          | ((with_reducible show wpList _ _ _ (Oper.mk (some 18) (Op.load 24 _) _ _ _ _ :: _) _ _); refine wpList_valw (by rfl) (run_load_v4 rfl rfl hAt1 rfl) ?_)
          | (go_at_call 13; refine (c4build x0 A0 c0 A0' c0' _ w.heap.size (h0.below (hB0.trans (y1.mono hB0.size))) (h0'.below (hB0.trans (y1.mono hB0.size))) (hB0.trans (y1.mono hB0.size)).size (by omega) (by omega)).mono ?_; rintro e w2 ⟨v2, rfl, _, n2⟩; have n2 := n2 HC.out; rw [← HR.out] at n2; rw [HC.out]; obtain ⟨P2, k2, rfl, g2, o2, y2⟩ := made_shape n2))
        have q1 := hB0.trans (y1.mono hB0.size)
        have q2 := q1.trans (y2.mono q1.size)
        have z2 := q2.size
        have j2 := h1.below q2
        have x02 : Below W.heap.size W w2 := y1.trans (y2.mono y1.size)
        clear y1 y2 q1 hd' hAt1 n2
        go_upto_region 7 with (first
          | (go_at_call 30; refine (clone_any P2 R k2 _ _ g2 (Nat.le_refl _) (by omega)).mono ?_; rintro e w3 ⟨v3, rfl, n3⟩; obtain ⟨P3, k3, rfl, g3, o3, y3⟩ := made_shape n3)
          | (at_builtin; refine append_rd rfl _ _ rfl w2.heap.size _ _ _ rfl o3 w.heap.size A1 c1 b1 rfl h1.none_ (j2.below (y3.mono z2)).rd (by omega) y3.size ?_; intro v4 w4 own4 grow4; obtain ⟨P4, k4, rfl, owm4⟩ := own_made (bs := BB) own4 (by rw [HBB.out]; simp) (by rw [HBB.out, row_append]))
          | (go_at_call 26; refine (c4parse BB P4 k4 _ _ (arg_own owm4) (Nat.le_refl _) (by omega)).mono ?_; rintro e w5 ⟨P5, p5, P5', p5', rfl, mo, md⟩; rw [KV.out, KE.out]; rw [KV.out] at mo md)
          | ((with_reducible show wpList _ _ _ (Oper.mk _ (Op.store _ _ _) _ _ _ _ :: _) _ _); refine v4_store_new (cs := v4a x0 P5 p5 P5' p5') rfl rfl rfl rfl (v4a_one _ _ _ _ _) ?_))
        obtain ⟨_, _, _, _, _, ow5, y5⟩ := id mo
        obtain ⟨_, _, _, _, _, ow5', _⟩ := id md
        have x24 : Below w2.heap.size w2 w4 := y3.grown grow4 y3.size (fun k hk => own_block_ge o3 k hk)
        have ja : Below w5.heap.size w5 (w5.alloc (.cells (v4a x0 P5 p5 P5' p5') 24)) := (Below.refl _ w5).alloc (Nat.le_refl _) _
        have x25 : Below w2.heap.size w2 w5 := x24.trans (y5.mono x24.size)
        have x2X : Below w2.heap.size w2 (w5.alloc (.cells (v4a x0 P5 p5 P5' p5') 24)) := x25.alloc x25.size _
        have at9 := At4.new (q := x0) (A := P5) (c := p5) (A' := P5') (c' := p5') w5
        have hz5 : w5.heap.size < (w5.alloc (.cells (v4a x0 P5 p5 P5' p5') 24)).heap.size := by simp
        have r9 := ((arg_own ow5).below ja).rd
        have r9' := ((arg_own ow5').below ja).rd
        have qX := q2.trans (x2X.mono z2)
        have at0 := hAt.below (x02.trans (x2X.mono x02.size)) hz0
        have r0 := (h0.below qX).rd
        have r0' := (h0'.below qX).rd
        have hk2 := g2.cap
        have gH : Arg w2 w2.heap.size P2 k2 HB := by rw [HHB.out]; exact g2.cut_hi H hHR
        have gH := gH.below x2X
        have hzw : w.heap.size ≤ w5.heap.size := by have := x25.size; omega
        have hzX := x2X.size
        have h25 := x25.size
        clear g2 o2 n3 g3 o3 y3 own4 grow4 owm4 mo md ow5 ow5' y5 x24 x25 x2X ja j2 q2 x02 hAt
        generalize w5.alloc (.cells (v4a x0 P5 p5 P5' p5') 24) = X at *
        go_wp2_with (first
          | ((with_reducible show wpList _ _ _ (Oper.mk (some 41) (Op.load 24 _) _ _ _ _ :: _) _ _); refine wpList_valw (by rfl) (run_load_v4 rfl rfl at0 rfl) ?_)
          | ((with_reducible show wpList _ _ _ (Oper.mk (some 42) (Op.load 24 _) _ _ _ _ :: _) _ _); refine wpList_valw (by rfl) (run_load_v4 rfl rfl at9 rfl) ?_)
          | (go_at_call 24; refine (c4same x0 x0 A0 c0 A0' c0' P5 p5 P5' p5' w5.heap.size _ (by omega) (r0.more hzw) (r0'.more hzw) r9 r9').mono ?_; rintro e w6 ⟨rfl, y6⟩; rw [KS.out]; have at6 := at0.below y6 (by omega))
          | ((with_reducible show wpList _ _ _ (Oper.mk (some 48) (Op.load 24 _) _ _ _ _ :: _) _ _); refine wpList_valw (by rfl) (run_load_v4 rfl rfl at6 rfl) ?_)
          | (go_at_call 17; refine (c4size x0 A0 c0 A0' c0' _ (by omega) (by omega)).mono ?_; rintro e w7 ⟨rfl, y7⟩; rw [HS.out]; have at7 := at6.below y7 (by have := y6.size; omega))
          | ((with_reducible show wpList _ _ _ (Oper.mk (some 54) (Op.load 24 _) _ _ _ _ :: _) _ _); refine wpList_valw (by rfl) (run_load_v4 rfl rfl at7 rfl) ?_)
          | (go_at_call 15; refine (c4head x0 A0 c0 A0' c0' _ (by omega)).mono ?_; rintro e w8 ⟨rfl, y8⟩; rw [HH.out]; have y78 := y7.trans (y8.mono y7.size); have gX := gH.below (((y6.trans (y78.mono y6.size)).mono (by omega) : Below w2.heap.size X w8)))
          | ((with_reducible show wpList _ _ _ (Oper.mk _ (Op.slice _ _ _ _ _) _ _ _ _ :: _) _ _); refine wpList_valw (by rfl) (run_cut_h rfl rfl rfl (h := (H : Int)) (by omega) (by omega) (m := HB.length) (by have := HHl.out; omega)) ?_)
          | (go_at_call 31; refine (rright_one (some ⟨w8.heap.size, 0, none⟩) HB 1 _ _ (Rd2.one (World.alloc_heap_new w8 _) (Nat.lt_succ_self _) ((gX.alloc (by have := y6.size; have := y78.size; omega) _).more (by have := y6.size; have := y78.size; omega))) (by have := HHl.out; omega)).mono ?_; rintro e w9 ⟨rfl, n9, rfl⟩; rw [HRT.out])
          | (go_at_call 12; refine (awake5_any _).mono ?_; rintro e w10 ⟨rfl, b10⟩))
        go_ret
        have x8 : Below X.heap.size X w8 := y6.trans (y78.mono y6.size)
        have q8 := qX.trans (x8.mono qX.size)
        have q9 := below_drewN (q8.alloc q8.size (.cells #[.slice P2 HB.length k2] 22)) n9
        exact ⟨rfl, q9.trans (b10.mono q9.size)⟩
      · have HN := Lib.hid hc
        have dC : (chk4 x0 != 0) = true := by simpa using hc
        clear hc
        go_wp2_with (first
          | ((with_reducible show wpList _ _ _ (Oper.mk (some 9) (Op.load 24 _) _ _ _ _ :: _) _ _); refine wpList_valw (by rfl) (run_load_v4 rfl rfl hAt rfl) ?_)
          | (go_at_call 11; with_reducible refine (far_arr x0 A0 c0 A0' c0' _).mono ?_; rintro e w1 ⟨rfl, y1⟩; rw [HF0.out]; have hAt1 := hAt.below y1 hz0)
          | ((with_reducible show wpList _ _ _ (Oper.mk (some 18) (Op.load 24 _) _ _ _ _ :: _) _ _); refine wpList_valw (by rfl) (run_load_v4 rfl rfl hAt1 rfl) ?_)
          | (go_at_call 13; refine (c4build x0 A0 c0 A0' c0' _ w.heap.size (h0.below (hB0.trans (y1.mono hB0.size))) (h0'.below (hB0.trans (y1.mono hB0.size))) (hB0.trans (y1.mono hB0.size)).size (by omega) (by omega)).mono ?_; rintro e w2 ⟨v2, rfl, n2, _⟩; obtain ⟨rfl, y2⟩ := n2 HN.out)
          | (go_at_call 12; refine (awake5_any _).mono ?_; rintro e w10 ⟨rfl, b10⟩))
        go_ret
        have q1 := hB0.trans (y1.mono hB0.size)
        have q2 := q1.trans (y2.mono q1.size)
        exact ⟨rfl, q2.trans (b10.mono q2.size)⟩
  · have HF0 := Lib.hid hf0
    clear hf0
    go_wp2_with (first
      | ((with_reducible show wpList _ _ _ (Oper.mk _ (Op.load 24 _) _ _ _ _ :: _) _ _); refine wpList_valw (by rfl) (run_load_v4 rfl rfl hAt rfl) ?_)
      | (go_at_call 11; with_reducible refine (far_arr x0 A0 c0 A0' c0' _).mono ?_; rintro e w1 ⟨rfl, y1⟩; rw [HF0.out]; have hAt1 := hAt.below y1 hz0)
      | (go_at_call 12; refine (awake5_any _).mono ?_; rintro e w10 ⟨rfl, b10⟩))
    go_ret
    have q1 := hB0.trans (y1.mono hB0.size)
    exact ⟨rfl, q1.trans (b10.mono q1.size)⟩

/-! ### The row's step -/
set_option maxRecDepth 100000 in
theorem lifted (os : Os) (started : os.Started) (H : Type) (enc : TypeId × Value → H) :
    ReturnsInHanded {} Try.checked os 5 .any (Rows.v4BackSpec.pre6 enc Try.prog Try.f5 Rows.v4BackRow.domain false) (Rows.v4BackSpec.post enc Try.prog Try.f5 false true false false) := by
  refine returnsInHanded_of_change (C := Try.checked) own started (by kernel_rfl) Try.func5
    (ChangeSpec.witness6 (enc := enc) (C := Try.checked) false ⟨#[], #[.agg #[.int .i64 0, .int .i64 0, .int .i64 0, .int .i64 0, .int .i64 0, .int .i64 0, .int .i64 0, .bool false, .bool false, .slice none 0 0, .slice none 0 0], .slice none 0 0], []⟩ 8 (by kernel_rfl) (by kernel_rfl) (by kernel_rfl) (by kernel_rfl)) ?_
  intro W base args ds gs before hval0 hW hcnd _
  have hval : ∀ (j : Nat) t v, Try.f5.params[j]? = some t → args[j]? = some v → Value.okWide Try.prog W .any base t v := hval0
  have hW' := hW
  obtain ⟨p, q, hA0, hV, rfl, hfz, hnd⟩ := hW
  have hA : DataW.TrodAll enc Try.prog W 0 (fun _ => true) true Try.f5.params.toList args.toList ds p := hA0
  rw [Try.params5] at hA hval
  obtain ⟨v0, vs0, d0, ds0, p0, q0, hargs, rfl, rfl, t0, r0⟩ := trodAll_cons hA
  obtain ⟨v1, vs1, d1, ds1, p1, q1, rfl, rfl, rfl, t1, r1⟩ := trodAll_cons r0
  obtain ⟨rfl, rfl, rfl⟩ := trodAll_nil r1
  obtain rfl : args = #[v0, v1] := by cases args; simp_all
  obtain ⟨rfl, rfl⟩ := trodVars_none hV
  have k0 := t0
  have lt0 := Trod_lt t0
  have k1 := t1
  have lt1 := Trod_lt t1
  obtain ⟨x0, A0, c0, A0', c0', rfl, h0, h0', m0, m0', w0⟩ := get_v4 (hval 0 24 v0 rfl rfl) t0
  obtain ⟨A1, c1, b1, rfl, h1, m1⟩ := get_bytes Try.underlying22 Try.underlying5 (by kernel_rfl) (hval 1 22 v1 rfl rfl) t1
  clear hA0 hval0
  refine (walk x0 A0 c0 A0' c0' A1 c1 b1 W h0 h0' m0 m0' w0 h1 m1).mono fun e W' ⟨he, bel⟩ => ?_
  subst he
  exact ⟨_, rfl, _, _, _, [], _, [], hW', trodAll_mk1 (shut_bool Try.underlying4 _), (trodAll_cons_mk (Below.trod laidOut (by kernel_rfl) (of_decide_eq_true (by kernel_rfl)) k0 bel lt0) (trodAll_cons_mk (Below.trod laidOut (by kernel_rfl) (of_decide_eq_true (by kernel_rfl)) k1 bel lt1) trodAll_mk0)), rfl, bel.frame _, fun h => by cases h⟩

theorem over : Rows.v4BackRow.holds Try.pinned (OpenSpec.ofChange Rows.v4BackSpec) :=
  OpenClaim.holds_of_wide 5 Try.f5 rfl rfl rfl rfl rfl rfl rfl ⟨rfl, rfl, rfl, rfl, rfl⟩ rfl rfl rfl rfl rfl (by kernel_rfl) Try.func5 (by kernel_rfl)
    (of_decide_eq_true (by kernel_rfl)) (by unfold Func.isWrapper; first | (rw [if_pos (by decide +kernel)]; kernel_rfl) | (rw [if_neg (by decide +kernel)]; exact ⟨rfl, rfl⟩))
    (fun os started H enc _ => lifted os started H enc)

theorem proved : Rows.V4BackSaid := over
end Go.Proofs.Ytcfcmnhnijjehaa.v4Back
