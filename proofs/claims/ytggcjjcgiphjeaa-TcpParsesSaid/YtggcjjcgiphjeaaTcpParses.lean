/-
  For all addresses and bytes, goosepondlaw08.TcpParses answers true: any bytes are the segment that the document says, or refused.
  Conditions: none but the statement's own.
-/
import Derived.Test.YtggcjjcgiphjeaaRows
import Derived.WalkKit
import Derived.ProofKit
import Derived.OpenShut
import Derived.ChangeOld
import Derived.Below
import Derived.Test.YtggcjjcgiphjeaaMa1
import Derived.Test.YtggcjjcgiphjeaaMb6
namespace Go.Proofs.Ytggcjjcgiphjeaa.tcpParses
open Go.ChangeShapes Go.WideShapes Go.ChangeAt Go.RowKit
set_option linter.unusedVariables false
attribute [local go_sem] Oper.semAt_some

theorem own : ownKnob Try.prog.godebug = none := by kernel_rfl
theorem laidOut : laidOutB Try.prog = true := by kernel_rfl

/-! ### The walk -/
set_option maxRecDepth 100000 in
set_option maxHeartbeats 4000000 in
theorem walk (a0 : Int) (a1 : Int) (A2 : Option Addr) (c2 : Nat) (b2 : List UInt8) (w : World) (w0 : (Lit.int .i64 a0).wf = true) (w1 : (Lit.int .i64 a1).wf = true) (h2 : Arg w w.heap.size A2 c2 b2) (m2 : c2 ≤ maxLen) :
    Calls Try.prog 7 #[.int .i64 a0, .int .i64 a1, .slice A2 b2.length c2] w fun e w' => e = .returned (.bool true) ∧ Below w.heap.size w w' := by
  by_cases h : 3000 < b2.length
  · have hd : decide (3000 < (b2.length : Int)) = true := by simp; omega
    go_enter Try.func7, Try.ntmps7
    go_wp2_with (go_at_call 22; refine (awakeT_any _).mono ?_; rintro e w10 ⟨rfl, b10⟩)
    go_ret
    exact ⟨rfl, b10⟩
  · have hd : decide (3000 < (b2.length : Int)) = false := by simp; omega
    obtain ⟨u, hu⟩ : ∃ q, q = prsT a0 a1 b2 := ⟨_, rfl⟩
    obtain ⟨E, hE⟩ : ∃ q, q = badT a0 a1 b2 := ⟨_, rfl⟩
    have HU := Lib.hid hu; have HE := Lib.hid hE
    have KU := Lib.hid (sameT_iff.2 (rfl : u = u))
    clear hu hE
    have q0 : Below w.heap.size w w := Below.refl _ _
    go_enter Try.func7, Try.ntmps7
    go_upto_region 3 with fail
    clear hd
    go_upto_region 4 with (first
      | (go_at_call 29; refine (cTparse b2 A2 c2 a0 a1 _ w.heap.size (h2.below q0) q0.size (by omega)).mono ?_; rintro e w1 ⟨P1, p1, P1', p1', rfl, mopt, mdat⟩; rw [← HU.out] at mopt mdat; rw [← HU.out, ← HE.out])
      | ((with_reducible show wpList _ _ _ (Oper.mk _ (Op.store _ _ _) _ _ _ _ :: _) _ _); refine ts_store_new (cs := tsa u P1 p1 P1' p1') rfl rfl rfl rfl (ts_one _ _ _ _ _) ?_))
    have y1 := mopt.below
    have at1 := Atts.new (q := u) (A := P1) (c := p1) (A' := P1') (c' := p1') w1
    have ja : Below w1.heap.size w1 (w1.alloc (.cells (tsa u P1 p1 P1' p1') 39)) := (Below.refl _ w1).alloc (Nat.le_refl _) _
    have r1 : Rd (w1.alloc (.cells (tsa u P1 p1 P1' p1') 39)) (w1.alloc (.cells (tsa u P1 p1 P1' p1') 39)).heap.size P1 u.opt := by { obtain ⟨_, _, e1, _, e3, _, _⟩ := id mopt; cases e1; exact (e3.below ja).more ja.size }
    have r1' : Rd (w1.alloc (.cells (tsa u P1 p1 P1' p1') 39)) (w1.alloc (.cells (tsa u P1 p1 P1' p1') 39)).heap.size P1' u.dat := by { obtain ⟨_, _, e1, _, e3, _, _⟩ := id mdat; cases e1; exact (e3.below ja).more ja.size }
    have z1 : w1.heap.size < (w1.alloc (.cells (tsa u P1 p1 P1' p1') 39)).heap.size := by simp
    have x1 := y1.trans (ja.mono y1.size)
    have q1 := q0.trans (x1.mono q0.size)
    clear mopt mdat ja y1
    generalize w1.alloc (.cells (tsa u P1 p1 P1' p1') 39) = X1 at *
    go_upto_region 5 with (first
      | (go_at_call 30; refine (rTparse b2 A2 c2 a0 a1 _ w.heap.size (h2.below q1) q1.size (by omega)).mono ?_; rintro e w2 ⟨P2, p2, P2', p2', rfl, mopt, mdat⟩; rw [← HU.out] at mopt mdat; rw [← HU.out, ← HE.out])
      | ((with_reducible show wpList _ _ _ (Oper.mk _ (Op.store _ _ _) _ _ _ _ :: _) _ _); refine ts_store_new (cs := tsa u P2 p2 P2' p2') rfl rfl rfl rfl (ts_one _ _ _ _ _) ?_))
    have y2 := mopt.below
    have at2 := Atts.new (q := u) (A := P2) (c := p2) (A' := P2') (c' := p2') w2
    have ja : Below w2.heap.size w2 (w2.alloc (.cells (tsa u P2 p2 P2' p2') 39)) := (Below.refl _ w2).alloc (Nat.le_refl _) _
    have r2 : Rd (w2.alloc (.cells (tsa u P2 p2 P2' p2') 39)) (w2.alloc (.cells (tsa u P2 p2 P2' p2') 39)).heap.size P2 u.opt := by { obtain ⟨_, _, e1, _, e3, _, _⟩ := id mopt; cases e1; exact (e3.below ja).more ja.size }
    have r2' : Rd (w2.alloc (.cells (tsa u P2 p2 P2' p2') 39)) (w2.alloc (.cells (tsa u P2 p2 P2' p2') 39)).heap.size P2' u.dat := by { obtain ⟨_, _, e1, _, e3, _, _⟩ := id mdat; cases e1; exact (e3.below ja).more ja.size }
    have z2 : w2.heap.size < (w2.alloc (.cells (tsa u P2 p2 P2' p2') 39)).heap.size := by simp
    have x2 := y2.trans (ja.mono y2.size)
    have q2 := q1.trans (x2.mono q1.size)
    clear mopt mdat ja y2
    generalize w2.alloc (.cells (tsa u P2 p2 P2' p2') 39) = X2 at *
    have k1 := at1.below x2 z1
    have e2 := x2.size
    have r1 := (r1.below x2).more e2
    have r1' := (r1'.below x2).more e2
    clear at1 x1 x2 q1
    go_wp2_with (first
      | ((with_reducible show wpList _ _ _ (Oper.mk (some 33) (Op.load 39 _) _ _ _ _ :: _) _ _); refine wpList_valw (by rfl) (run_load_ts rfl rfl k1 rfl) ?_)
      | ((with_reducible show wpList _ _ _ (Oper.mk (some 34) (Op.load 39 _) _ _ _ _ :: _) _ _); refine wpList_valw (by rfl) (run_load_ts rfl rfl at2 rfl) ?_)
      | (go_at_call 28; refine (rTsame u u P1 p1 P1' p1' P2 p2 P2' p2' X2.heap.size _ (Nat.le_refl _) r1 r2 r1' r2').mono ?_; rintro e w5 ⟨rfl, y5⟩; rw [KU.out])
      | (go_at_call 22; refine (awakeT_any _).mono ?_; rintro e w10 ⟨rfl, b10⟩))
    go_ret
    have q5 := q2.trans (y5.mono q2.size)
    exact ⟨rfl, q5.trans (b10.mono q5.size)⟩

/-! ### The row's step -/
set_option maxRecDepth 100000 in
theorem lifted (os : Os) (started : os.Started) (H : Type) (enc : TypeId × Value → H) :
    ReturnsInHanded {} Try.checked os 7 .any (Rows.tcpParsesSpec.pre6 enc Try.prog Try.f7 Rows.tcpParsesRow.domain false) (Rows.tcpParsesSpec.post enc Try.prog Try.f7 false true false false) := by
  refine returnsInHanded_of_change (C := Try.checked) own started (by kernel_rfl) Try.func7
    (ChangeSpec.witness6 (enc := enc) (C := Try.checked) false ⟨#[], #[.int .i64 0, .int .i64 0, .slice none 0 0], []⟩ 8 (by kernel_rfl) (by kernel_rfl) (by kernel_rfl) (by kernel_rfl)) ?_
  intro W base args ds gs before hval0 hW hcnd _
  have hval : ∀ (j : Nat) t v, Try.f7.params[j]? = some t → args[j]? = some v → Value.okWide Try.prog W .any base t v := hval0
  have hW' := hW
  obtain ⟨p, q, hA0, hV, rfl, hfz, hnd⟩ := hW
  have hA : DataW.TrodAll enc Try.prog W 0 (fun _ => true) true Try.f7.params.toList args.toList ds p := hA0
  rw [Try.params7] at hA hval
  obtain ⟨v0, vs0, d0, ds0, p0, q0, hargs, rfl, rfl, t0, r0⟩ := trodAll_cons hA
  obtain ⟨v1, vs1, d1, ds1, p1, q1, rfl, rfl, rfl, t1, r1⟩ := trodAll_cons r0
  obtain ⟨v2, vs2, d2, ds2, p2, q2, rfl, rfl, rfl, t2, r2⟩ := trodAll_cons r1
  obtain ⟨rfl, rfl, rfl⟩ := trodAll_nil r2
  obtain rfl : args = #[v0, v1, v2] := by cases args; simp_all
  obtain ⟨rfl, rfl⟩ := trodVars_none hV
  have k0 := t0
  have lt0 := Trod_lt t0
  have k1 := t1
  have lt1 := Trod_lt t1
  have k2 := t2
  have lt2 := Trod_lt t2
  obtain ⟨a0, rfl, w0⟩ := get_int Try.underlying3 (hval 0 3 v0 rfl rfl) t0
  obtain ⟨a1, rfl, w1⟩ := get_int Try.underlying3 (hval 1 3 v1 rfl rfl) t1
  obtain ⟨A2, c2, b2, rfl, h2, m2⟩ := get_bytes Try.underlying22 Try.underlying5 (by kernel_rfl) (hval 2 22 v2 rfl rfl) t2
  clear hA0 hval0
  refine (walk a0 a1 A2 c2 b2 W w0 w1 h2 m2).mono fun e W' ⟨he, bel⟩ => ?_
  subst he
  exact ⟨_, rfl, _, _, _, [], _, [], hW', trodAll_mk1 (shut_bool Try.underlying4 _), (trodAll_cons_mk (Below.trod laidOut (by kernel_rfl) (of_decide_eq_true (by kernel_rfl)) k0 bel lt0) (trodAll_cons_mk (Below.trod laidOut (by kernel_rfl) (of_decide_eq_true (by kernel_rfl)) k1 bel lt1) (trodAll_cons_mk (Below.trod laidOut (by kernel_rfl) (of_decide_eq_true (by kernel_rfl)) k2 bel lt2) trodAll_mk0))), rfl, bel.frame _, fun h => by cases h⟩

theorem over : Rows.tcpParsesRow.holds Try.pinned (OpenSpec.ofChange Rows.tcpParsesSpec) :=
  OpenClaim.holds_of_wide 7 Try.f7 rfl rfl rfl rfl rfl rfl rfl ⟨rfl, rfl, rfl, rfl, rfl⟩ rfl rfl rfl rfl rfl (by kernel_rfl) Try.func7 (by kernel_rfl)
    (of_decide_eq_true (by kernel_rfl)) (by unfold Func.isWrapper; first | (rw [if_pos (by decide +kernel)]; kernel_rfl) | (rw [if_neg (by decide +kernel)]; exact ⟨rfl, rfl⟩))
    (fun os started H enc _ => lifted os started H enc)

theorem proved : Rows.TcpParsesSaid := over
end Go.Proofs.Ytggcjjcgiphjeaa.tcpParses
