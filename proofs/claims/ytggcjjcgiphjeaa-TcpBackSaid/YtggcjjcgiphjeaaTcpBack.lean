/-
  For all addresses and segments, goosepondlaw08.TcpBack answers true: a segment that may be is parsed from its bytes.
  Conditions: none but the statement's own.
-/
import Derived.Test.YtggcjjcgiphjeaaRows
import Derived.WalkKit
import Derived.ProofKit
import Derived.OpenShut
import Derived.ChangeOld
import Derived.Below
import Derived.Test.YtggcjjcgiphjeaaMa1
import Derived.Test.YtggcjjcgiphjeaaMb6
namespace Go.Proofs.Ytggcjjcgiphjeaa.tcpBack
open Go.ChangeShapes Go.WideShapes Go.ChangeAt Go.RowKit
set_option linter.unusedVariables false
attribute [local go_sem] Oper.semAt_some

theorem own : ownKnob Try.prog.godebug = none := by kernel_rfl
theorem laidOut : laidOutB Try.prog = true := by kernel_rfl

/-! ### The walk -/
set_option maxRecDepth 100000 in
set_option maxHeartbeats 4000000 in
theorem walk (a0 : Int) (a1 : Int) (x2 : PT) (A2 : Option Addr) (c2 : Nat) (A2' : Option Addr) (c2' : Nat) (w : World) (w0 : (Lit.int .i64 a0).wf = true) (w1 : (Lit.int .i64 a1).wf = true) (h2 : Arg w w.heap.size A2 c2 x2.opt) (h2' : Arg w w.heap.size A2' c2' x2.dat) (m2 : c2 ≤ maxLen) (m2' : c2' ≤ maxLen) (w2 : x2.fits) :
    Calls Try.prog 9 #[.int .i64 a0, .int .i64 a1, tsv x2 A2 c2 A2' c2'] w fun e w' => e = .returned (.bool true) ∧ Below w.heap.size w w' := by
  have hB0 : Below w.heap.size w (w.alloc (.cells (tsa x2 A2 c2 A2' c2') 39)) := (Below.refl _ w).alloc (Nat.le_refl _) _
  have hAt := Atts.new (q := x2) (A := A2) (c := c2) (A' := A2') (c' := c2') w
  have hz0 : w.heap.size < (w.alloc (.cells (tsa x2 A2 c2 A2' c2') 39)).heap.size := by simp
  rw [tsv_eq]
  go_enter Try.func9, Try.ntmps9
  go_upto_region 1 with fail
  generalize w.alloc (.cells (tsa x2 A2 c2 A2' c2') 39) = W at *
  have k0dat := hAt.dat
  have k0opt := hAt.opt
  by_cases h2dat : 3000 < x2.dat.length
  · have d2dat : decide (3000 < (x2.dat.length : Int)) = true := by simp; omega
    go_wp2_with (first | (go_at_call 22; refine (awakeT_any _).mono ?_; rintro e w10 ⟨rfl, b10⟩))
    go_ret
    exact ⟨rfl, hB0.trans (b10.mono hB0.size)⟩
  · have d2dat : decide (3000 < (x2.dat.length : Int)) = false := by simp; omega
    have l2dat : x2.dat.length ≤ 3000 := by omega
    clear h2dat
    by_cases h2opt : 200 < x2.opt.length
    · have d2opt : decide (200 < (x2.opt.length : Int)) = true := by simp; omega
      go_wp2_with (first | (go_at_call 22; refine (awakeT_any _).mono ?_; rintro e w10 ⟨rfl, b10⟩))
      go_ret
      exact ⟨rfl, hB0.trans (b10.mono hB0.size)⟩
    · have d2opt : decide (200 < (x2.opt.length : Int)) = false := by simp; omega
      have l2opt : x2.opt.length ≤ 200 := by omega
      clear h2opt
      by_cases hc : chkT x2 = 0
      · have HC := Lib.hid hc
        obtain ⟨kp1, kp2⟩ := backT (src := a0) (dst := a1) (q := x2) hc
        obtain ⟨R, hR⟩ : ∃ l, l = bldT a0 a1 x2 := ⟨_, rfl⟩
        rw [← hR] at kp1 kp2
        have HR := Lib.hid hR
        have KV := Lib.hid kp2
        have KE := Lib.hid kp1
        have KS := Lib.hid (sameT_iff.2 (rfl : x2 = x2))
        have hRl : R.length ≤ 4000 := by rw [hR, bldT_len]; omega
        clear hc kp1 kp2 hR
        go_upto_region 7 with (first
          | ((with_reducible show wpList _ _ _ (Oper.mk _ (Op.load 39 _) _ _ _ _ :: _) _ _); refine wpList_valw (by rfl) (run_load_ts rfl rfl hAt rfl) ?_)
          | (go_at_call 23; refine (cTbuild x2 A2 c2 A2' c2' a0 a1 _ w.heap.size (h2.below hB0) (h2'.below hB0) hB0.size (by omega) (by omega)).mono ?_; rintro e w2 ⟨v2, rfl, _, n2⟩; have n2 := n2 HC.out; rw [← HR.out] at n2; rw [HC.out]; obtain ⟨P2, k2, rfl, g2, o2, y2⟩ := made_shape n2)
          | (go_at_call 29; refine (cTparse R P2 k2 a0 a1 _ _ g2 (Nat.le_refl _) (by omega)).mono ?_; rintro e w5 ⟨P5, p5, P5', p5', rfl, mopt, mdat⟩; rw [KV.out, KE.out]; rw [KV.out] at mopt mdat)
          | ((with_reducible show wpList _ _ _ (Oper.mk _ (Op.store _ _ _) _ _ _ _ :: _) _ _); refine ts_store_new (cs := tsa x2 P5 p5 P5' p5') rfl rfl rfl rfl (ts_one _ _ _ _ _) ?_))
        have y5 := mopt.below
        have ja : Below w5.heap.size w5 (w5.alloc (.cells (tsa x2 P5 p5 P5' p5') 39)) := (Below.refl _ w5).alloc (Nat.le_refl _) _
        have at9 := Atts.new (q := x2) (A := P5) (c := p5) (A' := P5') (c' := p5') w5
        have r5 : Rd (w5.alloc (.cells (tsa x2 P5 p5 P5' p5') 39)) (w5.alloc (.cells (tsa x2 P5 p5 P5' p5') 39)).heap.size P5 x2.opt := by { obtain ⟨_, _, e1, _, e3, _, _⟩ := id mopt; cases e1; exact (e3.below ja).more ja.size }
        have r5' : Rd (w5.alloc (.cells (tsa x2 P5 p5 P5' p5') 39)) (w5.alloc (.cells (tsa x2 P5 p5 P5' p5') 39)).heap.size P5' x2.dat := by { obtain ⟨_, _, e1, _, e3, _, _⟩ := id mdat; cases e1; exact (e3.below ja).more ja.size }
        have hz5 : w5.heap.size < (w5.alloc (.cells (tsa x2 P5 p5 P5' p5') 39)).heap.size := by simp
        have x0X : Below W.heap.size W (w5.alloc (.cells (tsa x2 P5 p5 P5' p5') 39)) := (y2.trans (y5.mono y2.size)).trans (ja.mono (by have := y2.size; have := y5.size; omega))
        have qX := hB0.trans (x0X.mono hB0.size)
        have at0 := hAt.below x0X hz0
        have r0 := ((h2.below qX).rd).more qX.size
        have r0' := ((h2'.below qX).rd).more qX.size
        clear mopt mdat ja y2 y5 x0X g2 o2 n2 hAt
        generalize w5.alloc (.cells (tsa x2 P5 p5 P5' p5') 39) = X at *
        go_wp2_with (first
          | ((with_reducible show wpList _ _ _ (Oper.mk (some 47) (Op.load 39 _) _ _ _ _ :: _) _ _); refine wpList_valw (by rfl) (run_load_ts rfl rfl at0 rfl) ?_)
          | ((with_reducible show wpList _ _ _ (Oper.mk (some 48) (Op.load 39 _) _ _ _ _ :: _) _ _); refine wpList_valw (by rfl) (run_load_ts rfl rfl at9 rfl) ?_)
          | (go_at_call 27; refine (cTsame x2 x2 A2 c2 A2' c2' P5 p5 P5' p5' X.heap.size _ (Nat.le_refl _) r0 r5 r0' r5').mono ?_; rintro e w6 ⟨rfl, y6⟩; rw [KS.out])
          | (go_at_call 22; refine (awakeT_any _).mono ?_; rintro e w10 ⟨rfl, b10⟩))
        go_ret
        have q6 := qX.trans (y6.mono qX.size)
        exact ⟨rfl, q6.trans (b10.mono q6.size)⟩
      · have HN := Lib.hid hc
        have dC : (chkT x2 != 0) = true := by simpa using hc
        clear hc
        go_wp2_with (first
          | ((with_reducible show wpList _ _ _ (Oper.mk _ (Op.load 39 _) _ _ _ _ :: _) _ _); refine wpList_valw (by rfl) (run_load_ts rfl rfl hAt rfl) ?_)
          | (go_at_call 23; refine (cTbuild x2 A2 c2 A2' c2' a0 a1 _ w.heap.size (h2.below hB0) (h2'.below hB0) hB0.size (by omega) (by omega)).mono ?_; rintro e w2 ⟨v2, rfl, n2, _⟩; obtain ⟨rfl, y2⟩ := n2 HN.out)
          | (go_at_call 22; refine (awakeT_any _).mono ?_; rintro e w10 ⟨rfl, b10⟩))
        go_ret
        have q2 := hB0.trans (y2.mono hB0.size)
        exact ⟨rfl, q2.trans (b10.mono q2.size)⟩

/-! ### The row's step -/
set_option maxRecDepth 100000 in
theorem lifted (os : Os) (started : os.Started) (H : Type) (enc : TypeId × Value → H) :
    ReturnsInHanded {} Try.checked os 9 .any (Rows.tcpBackSpec.pre6 enc Try.prog Try.f9 Rows.tcpBackRow.domain false) (Rows.tcpBackSpec.post enc Try.prog Try.f9 false true false false) := by
  refine returnsInHanded_of_change (C := Try.checked) own started (by kernel_rfl) Try.func9
    (ChangeSpec.witness6 (enc := enc) (C := Try.checked) false ⟨#[], #[.int .i64 0, .int .i64 0, .agg #[.int .i64 0, .int .i64 0, .int .i64 0, .int .i64 0, .int .i64 0, .int .i64 0, .int .i64 0, .int .i64 0, .slice none 0 0, .slice none 0 0]], []⟩ 8 (by kernel_rfl) (by kernel_rfl) (by kernel_rfl) (by kernel_rfl)) ?_
  intro W base args ds gs before hval0 hW hcnd _
  have hval : ∀ (j : Nat) t v, Try.f9.params[j]? = some t → args[j]? = some v → Value.okWide Try.prog W .any base t v := hval0
  have hW' := hW
  obtain ⟨p, q, hA0, hV, rfl, hfz, hnd⟩ := hW
  have hA : DataW.TrodAll enc Try.prog W 0 (fun _ => true) true Try.f9.params.toList args.toList ds p := hA0
  rw [Try.params9] at hA hval
  obtain ⟨v0, vs0, d0, ds0, p0, q0, hargs, rfl, rfl, t0, r0⟩ := trodAll_cons hA
  obtain ⟨v1, vs1, d1, ds1, p1, q1, rfl, rfl, rfl, t1, r1⟩ := trodAll_cons r0
  obtain ⟨v2, vs2, d2, ds2, p2, q2, rfl, rfl, rfl, t2, r2⟩ := trodAll_cons r1
  obtain ⟨rfl, rfl, rfl⟩ := trodAll_nil r2
  obtain rfl : args = #[v0, v1, v2] := by cases args; simp_all
  obtain ⟨rfl, rfl⟩ := trodVars_none hV
  have k0 := t0
  have lt0 := Trod_lt t0
  have k1 := t1
  have lt1 := Trod_lt t1
  have k2 := t2
  have lt2 := Trod_lt t2
  obtain ⟨a0, rfl, w0⟩ := get_int Try.underlying3 (hval 0 3 v0 rfl rfl) t0
  obtain ⟨a1, rfl, w1⟩ := get_int Try.underlying3 (hval 1 3 v1 rfl rfl) t1
  obtain ⟨x2, A2, c2, A2', c2', rfl, h2, h2', m2, m2', w2⟩ := get_ts (hval 2 39 v2 rfl rfl) t2
  clear hA0 hval0
  refine (walk a0 a1 x2 A2 c2 A2' c2' W w0 w1 h2 h2' m2 m2' w2).mono fun e W' ⟨he, bel⟩ => ?_
  subst he
  exact ⟨_, rfl, _, _, _, [], _, [], hW', trodAll_mk1 (shut_bool Try.underlying4 _), (trodAll_cons_mk (Below.trod laidOut (by kernel_rfl) (of_decide_eq_true (by kernel_rfl)) k0 bel lt0) (trodAll_cons_mk (Below.trod laidOut (by kernel_rfl) (of_decide_eq_true (by kernel_rfl)) k1 bel lt1) (trodAll_cons_mk (Below.trod laidOut (by kernel_rfl) (of_decide_eq_true (by kernel_rfl)) k2 bel lt2) trodAll_mk0))), rfl, bel.frame _, fun h => by cases h⟩

theorem over : Rows.tcpBackRow.holds Try.pinned (OpenSpec.ofChange Rows.tcpBackSpec) :=
  OpenClaim.holds_of_wide 9 Try.f9 rfl rfl rfl rfl rfl rfl rfl ⟨rfl, rfl, rfl, rfl, rfl⟩ rfl rfl rfl rfl rfl (by kernel_rfl) Try.func9 (by kernel_rfl)
    (of_decide_eq_true (by kernel_rfl)) (by unfold Func.isWrapper; first | (rw [if_pos (by decide +kernel)]; kernel_rfl) | (rw [if_neg (by decide +kernel)]; exact ⟨rfl, rfl⟩))
    (fun os started H enc _ => lifted os started H enc)

theorem proved : Rows.TcpBackSaid := over
end Go.Proofs.Ytggcjjcgiphjeaa.tcpBack
