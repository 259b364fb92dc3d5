/-
  For all addresses and messages, goosepondlaw10.Icmp6Back answers true: a message is parsed from its bytes, of the same addresses.
  Conditions: none but the statement's own.
-/
import Derived.Test.YtobkiffiapjhgaaRows
import Derived.WalkKit
import Derived.ProofKit
import Derived.OpenShut
import Derived.ChangeOld
import Derived.Below
import Derived.Test.YtobkiffiapjhgaaMa1
import Derived.Test.YtobkiffiapjhgaaMb2
namespace Go.Proofs.Ytobkiffiapjhgaa.icmp6Back
open Go.ChangeShapes Go.WideShapes Go.ChangeAt Go.RowKit
set_option linter.unusedVariables false
attribute [local go_sem] Oper.semAt_some

theorem own : ownKnob Try.prog.godebug = none := by kernel_rfl
theorem laidOut : laidOutB Try.prog = true := by kernel_rfl

/-! ### The walk -/
set_option maxRecDepth 100000 in
set_option maxHeartbeats 4000000 in
theorem walk (b0 : List UInt8) (b1 : List UInt8) (x2 : PI) (A2 : Option Addr) (c2 : Nat) (w : World) (h0 : b0.length = 16) (h1 : b1.length = 16) (h2 : Arg w w.heap.size A2 c2 x2.dat) (m2 : c2 ≤ maxLen) (w2 : x2.fits) :
    Calls Try.prog 9 #[.agg (cel b0), .agg (cel b1), isv x2 A2 c2] w fun e w' => e = .returned (.bool true) ∧ Below w.heap.size w w' := by
  have hB0 : Below w.heap.size w (((w.alloc (.cells (cel b0) 41)).alloc (.cells (cel b1) 41)).alloc (.cells (isa x2 A2 c2) 24)) := (below_two w _ _).alloc (by simp; omega) _
  have b3 : Below (w.heap.size + 2) ((w.alloc (.cells (cel b0) 41)).alloc (.cells (cel b1) 41)) (((w.alloc (.cells (cel b0) 41)).alloc (.cells (cel b1) 41)).alloc (.cells (isa x2 A2 c2) 24)) := (Below.refl _ _).alloc (by simp) _
  have at0 := range_below (six_first w (cel b0) (cel b1) 41 b0 rfl) (by omega) b3
  have at1 := range_below (six_second w (cel b0) (cel b1) 41 b1 rfl) (by omega) b3
  have hAt : Atis (((w.alloc (.cells (cel b0) 41)).alloc (.cells (cel b1) 41)).alloc (.cells (isa x2 A2 c2) 24)) (w.heap.size + 2) x2 A2 c2 := by
    have := Atis.new (q := x2) (A := A2) (c := c2) ((w.alloc (.cells (cel b0) 41)).alloc (.cells (cel b1) 41))
    rwa [show ((w.alloc (.cells (cel b0) 41)).alloc (.cells (cel b1) 41)).heap.size = w.heap.size + 2 from by simp] at this
  have hz0 : w.heap.size + 2 < (((w.alloc (.cells (cel b0) 41)).alloc (.cells (cel b1) 41)).alloc (.cells (isa x2 A2 c2) 24)).heap.size := by simp
  rw [isv_eq]
  clear b3
  go_enter Try.func9, Try.ntmps9
  go_upto_region 1 with fail
  generalize ((w.alloc (.cells (cel b0) 41)).alloc (.cells (cel b1) 41)).alloc (.cells (isa x2 A2 c2) 24) = W at *
  have k0dat := hAt.dat
  by_cases h3 : 3000 < x2.dat.length
  · have d3 : decide (3000 < (x2.dat.length : Int)) = true := by simp; omega
    go_wp2_with (go_at_call 28; refine (awakeJ_any _).mono ?_; rintro e w10 ⟨rfl, b10⟩)
    go_ret
    exact ⟨rfl, hB0.trans (b10.mono hB0.size)⟩
  · have d3 : decide (3000 < (x2.dat.length : Int)) = false := by simp; omega
    have l3 : x2.dat.length ≤ 3000 := by omega
    clear h3
    by_cases hc : chkI x2 = 0
    · have HC := Lib.hid hc
      obtain ⟨kp1, kp2⟩ := backJ (src := b0) (dst := b1) (q := x2) hc
      obtain ⟨R, hR⟩ : ∃ l, l = bldJ b0 b1 x2 := ⟨_, rfl⟩
      rw [← hR] at kp1 kp2
      have HR := Lib.hid hR
      have KV := Lib.hid kp2
      have KE := Lib.hid kp1
      have KS := Lib.hid (sameI_iff.2 (rfl : x2 = x2))
      have hRl : R.length ≤ 4000 := by rw [hR, bldJ_len]; omega
      clear hc kp1 kp2 hR
      go_upto_region 6 with (first
        | ((with_reducible show wpList _ _ _ (Oper.mk (some 17) (Op.load 41 _) _ _ _ _ :: _) _ _); refine wpList_valw (by rfl) (run_load_six rfl rfl at0 h0) ?_)
        | ((with_reducible show wpList _ _ _ (Oper.mk (some 18) (Op.load 41 _) _ _ _ _ :: _) _ _); refine wpList_valw (by rfl) (run_load_six rfl rfl at1 h1) ?_)
        | ((with_reducible show wpList _ _ _ (Oper.mk (some 19) (Op.load 24 _) _ _ _ _ :: _) _ _); refine wpList_valw (by rfl) (run_load_is rfl rfl hAt rfl) ?_)
        | (go_at_call 29; refine (cJbuild b0 b1 _ x2 A2 c2 w.heap.size (h2.below hB0) hB0.size (by omega) h0 h1).mono ?_; rintro e w2 ⟨v2, rfl, -, n2⟩; have n2 := n2 HC.out; rw [← HR.out] at n2; rw [HC.out]; obtain ⟨P2, k2, rfl, g2, o2, y2⟩ := made_shape n2))
      have at0' := range_below at0 (B := W.heap.size) (by omega) y2
      have at1' := range_below at1 (B := W.heap.size) (by omega) y2
      go_upto_region 7 with (first
        | ((with_reducible show wpList _ _ _ (Oper.mk (some 32) (Op.load 41 _) _ _ _ _ :: _) _ _); refine wpList_valw (by rfl) (run_load_six rfl rfl at0' h0) ?_)
        | ((with_reducible show wpList _ _ _ (Oper.mk (some 33) (Op.load 41 _) _ _ _ _ :: _) _ _); refine wpList_valw (by rfl) (run_load_six rfl rfl at1' h1) ?_)
        | (go_at_call 35; refine (cJparse b0 b1 R P2 k2 _ _ g2 (Nat.le_refl _) (by omega) h0 h1).mono ?_; rintro e w5 ⟨P5, p5, rfl, m5⟩; rw [KV.out, KE.out]; rw [KV.out] at m5)
        | ((with_reducible show wpList _ _ _ (Oper.mk _ (Op.store _ _ _) _ _ _ _ :: _) _ _); refine is_store_new (cs := isa x2 P5 p5) rfl rfl rfl rfl (is_one _ _ _) ?_))
      have y5 := m5.below
      have ja : Below w5.heap.size w5 (w5.alloc (.cells (isa x2 P5 p5) 24)) := (Below.refl _ w5).alloc (Nat.le_refl _) _
      have at9 := Atis.new (q := x2) (A := P5) (c := p5) w5
      have r5 := (((made_arg m5).below ja).more ja.size).rd
      have x0X : Below W.heap.size W (w5.alloc (.cells (isa x2 P5 p5) 24)) := (y2.trans (y5.mono y2.size)).trans (ja.mono (by have := y2.size; have := y5.size; omega))
      have qX := hB0.trans (x0X.mono hB0.size)
      have hA9 := hAt.below x0X (by omega)
      have r0 := ((h2.below qX).rd).more qX.size
      clear m5 ja y2 y5 x0X g2 o2 n2 hAt at0 at1 at0' at1'
      generalize w5.alloc (.cells (isa x2 P5 p5) 24) = X at *
      go_wp2_with (first
        | ((with_reducible show wpList _ _ _ (Oper.mk (some 41) (Op.load 24 _) _ _ _ _ :: _) _ _); refine wpList_valw (by rfl) (run_load_is rfl rfl hA9 rfl) ?_)
        | ((with_reducible show wpList _ _ _ (Oper.mk (some 42) (Op.load 24 _) _ _ _ _ :: _) _ _); refine wpList_valw (by rfl) (run_load_is rfl rfl at9 rfl) ?_)
        | (go_at_call 17; refine (rIsame x2 x2 A2 c2 P5 p5 X.heap.size _ (Nat.le_refl _) r0 r5).mono ?_; rintro e w6 ⟨rfl, y6⟩; rw [KS.out])
        | (go_at_call 28; refine (awakeJ_any _).mono ?_; rintro e w10 ⟨rfl, b10⟩))
      go_ret
      have q6 := qX.trans (y6.mono qX.size)
      exact ⟨rfl, q6.trans (b10.mono q6.size)⟩
    · have HN := Lib.hid hc
      have dC : (chkI x2 != 0) = true := by simpa using hc
      clear hc
      go_wp2_with (first
        | ((with_reducible show wpList _ _ _ (Oper.mk (some 17) (Op.load 41 _) _ _ _ _ :: _) _ _); refine wpList_valw (by rfl) (run_load_six rfl rfl at0 h0) ?_)
        | ((with_reducible show wpList _ _ _ (Oper.mk (some 18) (Op.load 41 _) _ _ _ _ :: _) _ _); refine wpList_valw (by rfl) (run_load_six rfl rfl at1 h1) ?_)
        | ((with_reducible show wpList _ _ _ (Oper.mk (some 19) (Op.load 24 _) _ _ _ _ :: _) _ _); refine wpList_valw (by rfl) (run_load_is rfl rfl hAt rfl) ?_)
        | (go_at_call 29; refine (cJbuild b0 b1 _ x2 A2 c2 w.heap.size (h2.below hB0) hB0.size (by omega) h0 h1).mono ?_; rintro e w2 ⟨v2, rfl, n2, -⟩; obtain ⟨rfl, y2⟩ := n2 HN.out)
        | (go_at_call 28; refine (awakeJ_any _).mono ?_; rintro e w10 ⟨rfl, b10⟩))
      go_ret
      have q2 := hB0.trans (y2.mono hB0.size)
      exact ⟨rfl, q2.trans (b10.mono q2.size)⟩

/-! ### The row's step -/
set_option maxRecDepth 100000 in
theorem lifted (os : Os) (started : os.Started) (H : Type) (enc : TypeId × Value → H) :
    ReturnsInHanded {} Try.checked os 9 .any (Rows.icmp6BackSpec.pre6 enc Try.prog Try.f9 Rows.icmp6BackRow.domain false) (Rows.icmp6BackSpec.post enc Try.prog Try.f9 false true false false) := by
  refine returnsInHanded_of_change (C := Try.checked) own started (by kernel_rfl) Try.func9
    (ChangeSpec.witness6 (enc := enc) (C := Try.checked) false ⟨#[], #[.agg #[.int .u8 0, .int .u8 0, .int .u8 0, .int .u8 0, .int .u8 0, .int .u8 0, .int .u8 0, .int .u8 0, .int .u8 0, .int .u8 0, .int .u8 0, .int .u8 0, .int .u8 0, .int .u8 0, .int .u8 0, .int .u8 0], .agg #[.int .u8 0, .int .u8 0, .int .u8 0, .int .u8 0, .int .u8 0, .int .u8 0, .int .u8 0, .int .u8 0, .int .u8 0, .int .u8 0, .int .u8 0, .int .u8 0, .int .u8 0, .int .u8 0, .int .u8 0, .int .u8 0], .agg #[.int .i64 0, .int .i64 0, .int .i64 0, .slice none 0 0]], []⟩ 8 (by kernel_rfl) (by kernel_rfl) (by kernel_rfl) (by kernel_rfl)) ?_
  intro W base args ds gs before hval0 hW hcnd _
  have hval : ∀ (j : Nat) t v, Try.f9.params[j]? = some t → args[j]? = some v → Value.okWide Try.prog W .any base t v := hval0
  have hW' := hW
  obtain ⟨p, q, hA0, hV, rfl, hfz, hnd⟩ := hW
  have hA : DataW.TrodAll enc Try.prog W 0 (fun _ => true) true Try.f9.params.toList args.toList ds p := hA0
  rw [Try.params9] at hA hval
  obtain ⟨v0, vs0, d0, ds0, p0, q0, hargs, rfl, rfl, t0, r0⟩ := trodAll_cons hA
  obtain ⟨v1, vs1, d1, ds1, p1, q1, rfl, rfl, rfl, t1, r1⟩ := trodAll_cons r0
  obtain ⟨v2, vs2, d2, ds2, p2, q2, rfl, rfl, rfl, t2, r2⟩ := trodAll_cons r1
  obtain ⟨rfl, rfl, rfl⟩ := trodAll_nil r2
  obtain rfl : args = #[v0, v1, v2] := by cases args; simp_all
  obtain ⟨rfl, rfl⟩ := trodVars_none hV
  have k0 := t0
  have lt0 := Trod_lt t0
  have k1 := t1
  have lt1 := Trod_lt t1
  have k2 := t2
  have lt2 := Trod_lt t2
  obtain ⟨b0, rfl, h0⟩ := get_six Try.underlying41 Try.underlying5 (by kernel_rfl) (by kernel_rfl) (hval 0 41 v0 rfl rfl) t0
  obtain ⟨b1, rfl, h1⟩ := get_six Try.underlying41 Try.underlying5 (by kernel_rfl) (by kernel_rfl) (hval 1 41 v1 rfl rfl) t1
  obtain ⟨x2, A2, c2, rfl, h2, m2, w2⟩ := get_is (hval 2 24 v2 rfl rfl) t2
  clear hA0 hval0
  refine (walk b0 b1 x2 A2 c2 W h0 h1 h2 m2 w2).mono fun e W' ⟨he, bel⟩ => ?_
  subst he
  exact ⟨_, rfl, _, _, _, [], _, [], hW', trodAll_mk1 (shut_bool Try.underlying4 _), (trodAll_cons_mk (Below.trod laidOut (by kernel_rfl) (of_decide_eq_true (by kernel_rfl)) k0 bel lt0) (trodAll_cons_mk (Below.trod laidOut (by kernel_rfl) (of_decide_eq_true (by kernel_rfl)) k1 bel lt1) (trodAll_cons_mk (Below.trod laidOut (by kernel_rfl) (of_decide_eq_true (by kernel_rfl)) k2 bel lt2) trodAll_mk0))), rfl, bel.frame _, fun h => by cases h⟩

theorem over : Rows.icmp6BackRow.holds Try.pinned (OpenSpec.ofChange Rows.icmp6BackSpec) :=
  OpenClaim.holds_of_wide 9 Try.f9 rfl rfl rfl rfl rfl rfl rfl ⟨rfl, rfl, rfl, rfl, rfl⟩ rfl rfl rfl rfl rfl (by kernel_rfl) Try.func9 (by kernel_rfl)
    (of_decide_eq_true (by kernel_rfl)) (by unfold Func.isWrapper; first | (rw [if_pos (by decide +kernel)]; kernel_rfl) | (rw [if_neg (by decide +kernel)]; exact ⟨rfl, rfl⟩))
    (fun os started H enc _ => lifted os started H enc)

theorem proved : Rows.Icmp6BackSaid := over
end Go.Proofs.Ytobkiffiapjhgaa.icmp6Back
