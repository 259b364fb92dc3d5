/-
  Whatever the calls, QuotaBounds answers true and its arguments read as they did: nobody ever has more than each may, nor less than none. No condition.
-/
import Derived.Test.YtafidbjaeopciaaRows
import Derived.WalkKit
import Derived.ProofKit
import Derived.OpenShut
import Derived.ChangeOld
import Derived.Below
import Derived.Test.YtafidbjaeopciaaQa2
import Derived.Test.YtafidbjaeopciaaQa8
namespace Go.Proofs.Ytafidbjaeopciaa.quotaBounds
open Go.ChangeShapes Go.WideShapes Go.ChangeAt Go.RowKit
set_option linter.unusedVariables false
attribute [local go_sem] Oper.semAt_some

theorem own : ownKnob Try.prog.godebug = none := by kernel_rfl
theorem laidOut : laidOutB Try.prog = true := by kernel_rfl

/-! ### The walk -/
set_option maxRecDepth 100000 in
set_option maxHeartbeats 4000000 in
theorem walk (a0 : Int) (a1 : Int) (A2 : Option Addr) (c2 : Nat) (l2 : List Dq) (w : World) (w0 : (Lit.int .u8 a0).wf = true) (w1 : (Lit.int .u8 a1).wf = true) (h2 : RdS clQ 2 w w.heap.size A2 l2) (e2 : ∀ y ∈ l2, (Lit.int .i64 y.i).wf = true) (n2 : l2.length ≤ c2) (m2 : c2 ≤ maxLen) :
    Calls Try.prog 7 #[.int .u8 a0, .int .u8 a1, .slice A2 l2.length c2] w fun e w' => e = .returned (.bool true) ∧ Below w.heap.size w w' := by
  obtain ⟨n, hn⟩ : ∃ n, n = l2.length := ⟨_, rfl⟩
  have HN := Lib.hid hn
  have HR0 := Lib.hid h2
  have hcap : n ≤ c2 := by rw [hn]; exact n2
  have hb0 : 0 ≤ a0 ∧ a0 ≤ 255 := by have := w0; simp [Lit.wf, IntKind.min, IntKind.max, IntKind.bits, IntKind.signed] at this; omega
  have hb1 : 0 ≤ a1 ∧ a1 ≤ 255 := by have := w1; simp [Lit.wf, IntKind.min, IntKind.max, IntKind.bits, IntKind.signed] at this; omega
  rw [← hn]
  obtain ⟨N, hN⟩ : ∃ N : Nat, (N : Int) = 1 + a0 % 64 := ⟨(1 + a0 % 64).toNat, by omega⟩
  obtain ⟨M, hM⟩ : ∃ M : Int, M = a1 % 9 := ⟨_, rfl⟩
  have hN1 : 1 ≤ N ∧ N ≤ 64 := by omega
  have hM1 : 0 ≤ M ∧ M ≤ 8 := by omega
  have hnew := qnew_ok N M w hN1.1 hN1.2 hM1.1 (by omega)
  rw [hN] at hnew
  rw [show (Value.int .i64 M) = Value.int .i64 (a1 % 9) from by rw [hM]] at hnew
  have HNEW := Lib.hid hnew
  have HNN := Lib.hid hN
  have HMM := Lib.hid hM
  clear hn e2 h2 n2 hnew hN hM
  go_enter Try.func7, Try.ntmps7
  go_upto_region 3 with (go_at_call 28; refine HNEW.out.mono ?_; rintro e w1 ⟨rfl, hq, x1, z1⟩)
  rw [← HNN.out, ← HMM.out]
  obtain ⟨g, hg⟩ : ∃ g, g = w.heap.size + 1 := ⟨_, rfl⟩
  obtain ⟨b, hb⟩ : ∃ b, b = w.heap.size := ⟨_, rfl⟩
  rw [← hg] at hq ⊢
  rw [← hb] at hq
  have hbb : w.heap.size ≤ b := Nat.le_of_eq hb.symm
  have HQ := Lib.hid hq
  clear hq hg hb z1 hb0 hb1 HNEW
  go_wp2
  go_loopw [34] (fun i wr => ∃ (k : Nat) (L : List Int), k ≤ n ∧ i = .int .i64 (k : Int) ∧ Hid (Qt 124 wr g b M L) ∧ L.length = N ∧ Below w.heap.size w wr)
    (fun i _ => n - (intOf i).toNat)
  case atStart => exact ⟨0, List.replicate N 0, Nat.zero_le _, rfl, HQ, List.length_replicate .., x1⟩
  case round =>
    obtain ⟨k, L, hk, rfl, HQk, hLN, hbel⟩ := hrel
    clear HQ x1
    by_cases hlt : k < n
    · obtain ⟨x, hx⟩ : ∃ x, l2[k]? = some x := ⟨_, List.getElem?_eq_getElem (by rw [← HN.out]; exact hlt)⟩
      obtain ⟨b9, o9, rfl, hb9, hrow9⟩ := row_ofQ HR0.out hx
      have hrow := range_below hrow9 hb9 hbel
      obtain ⟨V, hV⟩ : ∃ V, V = wr.alloc (.cells (clQ x).toArray 68) := ⟨_, rfl⟩
      have HV := Lib.hid hV
      have bV : Below wr.heap.size wr V := by rw [hV]; exact (Below.refl _ wr).alloc (Nat.le_refl _) _
      have hbV : V.heap[wr.heap.size]? = some (.cells (clQ x).toArray 68 (0, 0)) := by rw [hV]; exact World.alloc_heap_new wr _
      have HBX := Lib.hid hbV
      have HQV := Lib.hid (HQk.out.below bV)
      have bw := hbel.trans (bV.mono hbel.size)
      have kx0 : V.cell? ⟨wr.heap.size, 0, none⟩ = some (.bool x.give) := cells_at (i := 0) hbV rfl
      have kx1 : V.cell? ⟨wr.heap.size, 1, none⟩ = some (.int .i64 x.i) := cells_at (i := 1) hbV rfl
      have hgb : b ≠ wr.heap.size := Nat.ne_of_lt (heap_lt HQk.out.row)
      clear hx hrow9 hV hbV
      by_cases h200 : k ≥ 200
      · have d200 : decide ((k : Int) ≥ 200) = true := decide_eq_true (by omega)
        have d201 : decide (200 ≤ (k : Int)) = true := d200
        go_wp2_with (first
          | ((with_reducible show wpList _ _ _ (Oper.mk _ (Op.load 68 _) _ _ _ _ :: _) _ _); refine wpList_val rfl (run_load_dq rfl rfl hrow rfl) ?_)
          | ((with_reducible show wpList _ _ _ (Oper.mk _ (Op.store 68 _ _) _ _ _ _ :: _) _ _); refine dq_store_new (cs := (clQ x).toArray) rfl rfl rfl rfl (clQ_one x) ?_; rw [← HV.out])
          | (go_at_call 38; refine (awake21 _).mono ?_; rintro e v9 ⟨rfl, x9⟩))
        go_ret
        exact ⟨rfl, bw.trans (x9.mono bw.size)⟩
      · have d200 : decide ((k : Int) ≥ 200) = false := decide_eq_false (by omega)
        have d201 : decide (200 ≤ (k : Int)) = false := d200
        have hgo : ∃ (e1 : Int) (L2 : List Int), L2.length = N ∧ Hid (Calls Try.prog (if x.give then 30 else 32) #[.pointer (some ⟨g, 0, none⟩), .int .i64 x.i] V fun e w' => e = .returned (.int .i64 e1) ∧ Qt 124 w' g b M L2 ∧ Kept (fun k => k = b) V w') := by
          cases hgv : x.give with
          | true => exact ⟨_, _, by unfold gvQ; split <;> (try split) <;> simp [hLN], Lib.hid (qgive HQV.out x.i)⟩
          | false => exact ⟨_, _, by unfold tkQ; split <;> (try split) <;> simp [hLN], Lib.hid (qtake HQV.out x.i)⟩
        obtain ⟨e1, L2, hL2, HCALL⟩ := hgo
        have hfin : ∀ (U : World), Qt 124 U g b M L2 → Kept (fun k => k = b) V U → ∃ c s : Int, ctQ L2 x.i = c ∧ sumQ L2 = s ∧ (0 ≤ c ∧ c ≤ M) ∧ (0 ≤ s ∧ s ≤ (N : Int) * M) ∧ U.cell? ⟨wr.heap.size, 1, none⟩ = some (.int .i64 x.i) ∧ Below w.heap.size w U := fun U hU kU =>
          ⟨_, _, rfl, rfl, ctQ_bd hU.bd hM1.1 x.i, (by have := sumQ_bd hU.bd; rw [hL2] at this; exact this), (by have := (kU.block wr.heap.size (by rw [HV.out]; simp) hgb.symm).trans HBX.out; exact cells_at (i := 1) this rfl), bw.trans (kU.below (Nat.le_trans hbel.size bV.size) (fun i e => by rw [e]; exact hbb))⟩
        have HFIN := Lib.hid hfin
        have hNM : 0 ≤ (N : Int) * M ∧ (N : Int) * M ≤ 64 * 8 := ⟨Int.mul_nonneg (by omega) hM1.1, Int.mul_le_mul (by omega) hM1.2 hM1.1 (by decide)⟩
        obtain ⟨T, hT⟩ : ∃ T, T = (N : Int) * M := ⟨_, rfl⟩
        have hwr : IntKind.i64.wrap ((N : Int) * M) = T := by rw [hT]; exact IntWalk.i64_in _ (by omega)
        have HT := Lib.hid hT
        have HWR := Lib.hid hwr
        clear hfin hT hwr hgb
        cases hgv : x.give with
        | true => 
          rw [hgv] at HCALL kx0
          have HC2 : Hid (Calls Try.prog 30 #[.pointer (some ⟨g, 0, none⟩), .int .i64 x.i] V fun e w' => e = .returned (.int .i64 e1) ∧ Qt 124 w' g b M L2 ∧ Kept (fun k => k = b) V w') := HCALL
          clear HCALL hgv
          go_upto_region 12 with (first
            | ((with_reducible show wpList _ _ _ (Oper.mk _ (Op.load 68 _) _ _ _ _ :: _) _ _); refine wpList_val rfl (run_load_dq rfl rfl hrow rfl) ?_)
            | ((with_reducible show wpList _ _ _ (Oper.mk _ (Op.store 68 _ _) _ _ _ _ :: _) _ _); refine dq_store_new (cs := (clQ x).toArray) rfl rfl rfl rfl (clQ_one x) ?_; rw [← HV.out])
            | (go_at_call 30; refine HC2.out.mono ?_; rintro e U ⟨rfl, hU, kU⟩))
          obtain ⟨c, s, hc, hs, hcb, hsb, kc, bU⟩ := HFIN.out U hU kU
          have HQU := Lib.hid hU
          have HCC := Lib.hid hc
          have HSS := Lib.hid hs
          rw [← HT.out] at hsb
          have d1 : decide (c < 0) = false := decide_eq_false (by omega)
          have d2 : decide (c > M) = false := decide_eq_false (by omega)
          have d3 : decide (M < c) = false := d2
          have d4 : decide (s < 0) = false := decide_eq_false (by omega)
          have d5 : decide (s > T) = false := decide_eq_false (by omega)
          have d6 : decide (T < s) = false := d5
          have q9 := HWR.out
          clear hU kU hc hs hcb hsb hNM kx0 kx1
          go_wp2_with (first
            | (go_at_call 34; refine (qcount HQU.out x.i).mono ?_; rintro e u1 ⟨rfl, rfl⟩; rw [HCC.out])
            | (go_at_call 36; refine (qtotal HQU.out).mono ?_; rintro e u1 ⟨rfl, rfl⟩; rw [HSS.out]))
          go_roundw
          case rel => exact ⟨k + 1, L2, by omega, by simp, HQU, hL2, bU⟩
          case measure => simp [intOf]; omega
        | false => 
          rw [hgv] at HCALL kx0
          have HC2 : Hid (Calls Try.prog 32 #[.pointer (some ⟨g, 0, none⟩), .int .i64 x.i] V fun e w' => e = .returned (.int .i64 e1) ∧ Qt 124 w' g b M L2 ∧ Kept (fun k => k = b) V w') := HCALL
          clear HCALL hgv
          go_upto_region 12 with (first
            | ((with_reducible show wpList _ _ _ (Oper.mk _ (Op.load 68 _) _ _ _ _ :: _) _ _); refine wpList_val rfl (run_load_dq rfl rfl hrow rfl) ?_)
            | ((with_reducible show wpList _ _ _ (Oper.mk _ (Op.store 68 _ _) _ _ _ _ :: _) _ _); refine dq_store_new (cs := (clQ x).toArray) rfl rfl rfl rfl (clQ_one x) ?_; rw [← HV.out])
            | (go_at_call 32; refine HC2.out.mono ?_; rintro e U ⟨rfl, hU, kU⟩))
          obtain ⟨c, s, hc, hs, hcb, hsb, kc, bU⟩ := HFIN.out U hU kU
          have HQU := Lib.hid hU
          have HCC := Lib.hid hc
          have HSS := Lib.hid hs
          rw [← HT.out] at hsb
          have d1 : decide (c < 0) = false := decide_eq_false (by omega)
          have d2 : decide (c > M) = false := decide_eq_false (by omega)
          have d3 : decide (M < c) = false := d2
          have d4 : decide (s < 0) = false := decide_eq_false (by omega)
          have d5 : decide (s > T) = false := decide_eq_false (by omega)
          have d6 : decide (T < s) = false := d5
          have q9 := HWR.out
          clear hU kU hc hs hcb hsb hNM kx0 kx1
          go_wp2_with (first
            | (go_at_call 34; refine (qcount HQU.out x.i).mono ?_; rintro e u1 ⟨rfl, rfl⟩; rw [HCC.out])
            | (go_at_call 36; refine (qtotal HQU.out).mono ?_; rintro e u1 ⟨rfl, rfl⟩; rw [HSS.out]))
          go_roundw
          case rel => exact ⟨k + 1, L2, by omega, by simp, HQU, hL2, bU⟩
          case measure => simp [intOf]; omega
    · obtain rfl : n = k := by omega
      go_wp2_with (go_at_call 38; refine (awake21 _).mono ?_; rintro e v9 ⟨rfl, x9⟩)
      go_ret
      exact ⟨rfl, hbel.trans (x9.mono hbel.size)⟩

/-! ### The row's step -/
set_option maxRecDepth 100000 in
theorem lifted (os : Os) (started : os.Started) (H : Type) (enc : TypeId × Value → H) :
    ReturnsInHanded {} Try.checked os 7 .any (Rows.quotaBoundsSpec.pre6 enc Try.prog Try.f7 Rows.quotaBoundsRow.domain false) (Rows.quotaBoundsSpec.post enc Try.prog Try.f7 false true false false) := by
  refine returnsInHanded_of_change (C := Try.checked) own started (by kernel_rfl) Try.func7
    (ChangeSpec.witness6 (enc := enc) (C := Try.checked) false ⟨#[], #[.int .u8 0, .int .u8 0, .slice none 0 0], []⟩ 8 (by kernel_rfl) (by kernel_rfl) (by kernel_rfl) (by kernel_rfl)) ?_
  intro W base args ds gs before hval0 hW hcnd _
  have hval : ∀ (j : Nat) t v, Try.f7.params[j]? = some t → args[j]? = some v → Value.okWide Try.prog W .any base t v := hval0
  have hW' := hW
  obtain ⟨p, q, hA0, hV, rfl, hfz, hnd⟩ := hW
  have hA : DataW.TrodAll enc Try.prog W 0 (fun _ => true) true Try.f7.params.toList args.toList ds p := hA0
  rw [Try.params7] at hA hval
  obtain ⟨v0, vs0, d0, ds0, p0, q0, hargs, rfl, rfl, t0, r0⟩ := trodAll_cons hA
  obtain ⟨v1, vs1, d1, ds1, p1, q1, rfl, rfl, rfl, t1, r1⟩ := trodAll_cons r0
  obtain ⟨v2, vs2, d2, ds2, p2, q2, rfl, rfl, rfl, t2, r2⟩ := trodAll_cons r1
  obtain ⟨rfl, rfl, rfl⟩ := trodAll_nil r2
  obtain rfl : args = #[v0, v1, v2] := by cases args; simp_all
  obtain ⟨rfl, rfl⟩ := trodVars_none hV
  have k0 := t0
  have lt0 := Trod_lt t0
  have k1 := t1
  have lt1 := Trod_lt t1
  have k2 := t2
  have lt2 := Trod_lt t2
  obtain ⟨a0, rfl, w0⟩ := get_int Try.underlying5 (hval 0 5 v0 rfl rfl) t0
  obtain ⟨a1, rfl, w1⟩ := get_int Try.underlying5 (hval 1 5 v1 rfl rfl) t1
  obtain ⟨A2, c2, l2, rfl, h2, e2, n2, m2⟩ := get_dqs (hval 2 60 v2 rfl rfl) t2
  clear hA0 hval0
  refine (walk a0 a1 A2 c2 l2 W w0 w1 h2 e2 n2 m2).mono fun e W' ⟨he, bel⟩ => ?_
  subst he
  exact ⟨_, rfl, _, _, _, [], _, [], hW', trodAll_mk1 (shut_bool Try.underlying4 _), (trodAll_cons_mk (Below.trod laidOut (by kernel_rfl) (of_decide_eq_true (by kernel_rfl)) k0 bel lt0) (trodAll_cons_mk (Below.trod laidOut (by kernel_rfl) (of_decide_eq_true (by kernel_rfl)) k1 bel lt1) (trodAll_cons_mk (Below.trod laidOut (by kernel_rfl) (of_decide_eq_true (by kernel_rfl)) k2 bel lt2) trodAll_mk0))), rfl, bel.frame _, fun h => by cases h⟩

theorem over : Rows.quotaBoundsRow.holds Try.pinned (OpenSpec.ofChange Rows.quotaBoundsSpec) :=
  OpenClaim.holds_of_wide 7 Try.f7 rfl rfl rfl rfl rfl rfl rfl ⟨rfl, rfl, rfl, rfl, rfl⟩ rfl rfl rfl rfl rfl (by kernel_rfl) Try.func7 (by kernel_rfl)
    (of_decide_eq_true (by kernel_rfl)) (by unfold Func.isWrapper; first | (rw [if_pos (by decide +kernel)]; kernel_rfl) | (rw [if_neg (by decide +kernel)]; exact ⟨rfl, rfl⟩))
    (fun os started H enc _ => lifted os started H enc)

theorem proved : Rows.QuotaBoundsSaid := over
end Go.Proofs.Ytafidbjaeopciaa.quotaBounds
