/-
  Whatever the calls, JoinBounds answers true and its arguments read as they did: there are never more bytes, nor more buffers, than are allowed. No condition.
-/
import Derived.Test.YtkncgjjflkbnfaaRows
import Derived.WalkKit
import Derived.ProofKit
import Derived.OpenShut
import Derived.ChangeOld
import Derived.Below
import Derived.Test.YtkncgjjflkbnfaaMa2
import Derived.Test.YtkncgjjflkbnfaaMe1
namespace Go.Proofs.Ytkncgjjflkbnfaa.joinBounds
open Go.ChangeShapes Go.WideShapes Go.ChangeAt Go.RowKit
set_option linter.unusedVariables false
attribute [local go_sem] Oper.semAt_some

theorem own : ownKnob Try.prog.godebug = none := by kernel_rfl
theorem laidOut : laidOutB Try.prog = true := by kernel_rfl

/-! ### The walk -/
set_option maxRecDepth 100000 in
set_option maxHeartbeats 4000000 in
theorem walk (a0 : Int) (a1 : Int) (A2 : Option Addr) (c2 : Nat) (l2 : List Dx) (w : World) (w0 : (Lit.int .u8 a0).wf = true) (w1 : (Lit.int .u8 a1).wf = true) (h2 : RdS clD 7 w w.heap.size A2 l2) (e2 : ∀ y ∈ l2, Arg w w.heap.size y.A y.c y.b ∧ y.c ≤ maxLen ∧ (Lit.int .i64 y.off).wf = true ∧ (Lit.int .i64 y.now).wf = true ∧ y.key.length ≤ maxLen ∧ y.head.length ≤ maxLen) (n2 : l2.length ≤ c2) (m2 : c2 ≤ maxLen) :
    Calls Try.prog 8 #[.int .u8 a0, .int .u8 a1, .slice A2 l2.length c2] w fun e w' => e = .returned (.bool true) ∧ Below w.heap.size w w' := by
  obtain ⟨n, hn⟩ : ∃ n, n = l2.length := ⟨_, rfl⟩
  have HN := Lib.hid hn
  have HE0 := Lib.hid e2
  have HR0 := Lib.hid h2
  have hcap : n ≤ c2 := by rw [hn]; exact n2
  have hb0 : 0 ≤ a0 ∧ a0 ≤ 255 := by have := w0; simp [Lit.wf, IntKind.min, IntKind.max, IntKind.bits, IntKind.signed] at this; omega
  have hb1 : 0 ≤ a1 ∧ a1 ≤ 255 := by have := w1; simp [Lit.wf, IntKind.min, IntKind.max, IntKind.bits, IntKind.signed] at this; omega
  rw [← hn]
  cases hfar : farD 0 0 l2 with
  | true =>
    have HF := Lib.hid hfar
    clear hfar hn e2 h2 n2
    go_enter Try.func8, Try.ntmps8
    go_wp2_with (first
      | (go_at_call 28; refine (awake16 v1).mono ?_; rintro e v2 ⟨rfl, x2⟩)
      | (go_at_call 27; refine (far16 A2 c2 n w.heap.size l2 w HR0.out (Nat.le_refl _) HN.out (fun y hy => ⟨(HE0.out y hy).1.cap, (HE0.out y hy).2.1, (HE0.out y hy).2.2.1⟩)).mono ?_; rintro e v1 ⟨rfl, x1⟩; rw [HF.out]))
    go_ret
    exact ⟨rfl, x1.trans (x2.mono x1.size)⟩
  | false =>
    have HF := Lib.hid hfar
    obtain ⟨hf1, hf2⟩ := farD_no hfar
    have hn60 : n ≤ 60 := by
      rw [hn]
      split at hf1 <;> omega
    have HF2 := Lib.hid hf2
    clear hfar hn e2 h2 n2 hf1 hf2
    go_enter Try.func8, Try.ntmps8
    go_wp2_with (first
      | (go_at_call 25; go_loud (refine (jnew_ok a0 a1 60 v1 ⟨by omega, by omega, by omega⟩).mono ?_; rintro e v2 ⟨rfl, hT2, x2⟩))
      | (go_at_call 27; refine (far16 A2 c2 n w.heap.size l2 w HR0.out (Nat.le_refl _) HN.out (fun y hy => ⟨(HE0.out y hy).1.cap, (HE0.out y hy).2.1, (HE0.out y hy).2.2.1⟩)).mono ?_; rintro e v1 ⟨rfl, x1⟩; rw [HF.out]))
    have b2 := x1.trans (x2.mono x1.size)
    have hJ : Jv v2 w.heap.size (v1.heap.size + 1) v1.heap.size a0 a1 60 0 [] := ⟨hT2, ⟨Nat.le_succ_of_le x1.size, x1.size, fun s h => by cases h⟩, hb1.1, hb0.1, fun s h => by cases h⟩
    clear hT2
    generalize v1.heap.size + 1 = t at *
    generalize v1.heap.size = bm at *
    go_loopw [30] (fun i wr => ∃ (k : Nat) (S : List Bu), k ≤ n ∧ i = .int .i64 (k : Int) ∧ Hid (Jv wr w.heap.size t bm a0 a1 60 k S) ∧ S.length ≤ k ∧ Below w.heap.size w wr)
      (fun i _ => n - (intOf i).toNat)
    case atStart => exact ⟨0, [], Nat.zero_le _, rfl, Lib.hid hJ, Nat.le_refl _, b2⟩
    case round =>
      obtain ⟨k, S, hk, rfl, HJ, hSk, hbel⟩ := hrel
      clear hJ b2 x1 x2
      by_cases hlt : k < n
      · obtain ⟨x, hx⟩ : ∃ x, l2[k]? = some x := ⟨_, List.getElem?_eq_getElem (by rw [← HN.out]; exact hlt)⟩
        have hxm := List.mem_of_getElem? hx
        obtain ⟨ea, ec, eo, en, ek, eh⟩ := HE0.out x hxm
        have hbx := HF2.out x hxm
        obtain ⟨b9, o9, rfl, hb9, hrow9⟩ := row_ofD HR0.out hx
        have hrow := range_below hrow9 hb9 hbel
        have hoff : -9223372036854775808 ≤ x.off ∧ x.off ≤ 9223372036854775807 := by have := eo; simp [Lit.wf, IntKind.min, IntKind.max, IntKind.bits, IntKind.signed] at this; omega
        obtain ⟨V, hV⟩ : ∃ V, V = wr.alloc (.cells (clD x).toArray 55) := ⟨_, rfl⟩
        have HV := Lib.hid hV
        have bV : Below wr.heap.size wr V := by rw [hV]; exact (Below.refl _ wr).alloc (Nat.le_refl _) _
        have hbV : V.heap[wr.heap.size]? = some (.cells (clD x).toArray 55 (0, 0)) := by rw [hV]; exact World.alloc_heap_new wr _
        have kx1 : V.cell? ⟨wr.heap.size, 1, none⟩ = some (.string (strB x.key)) := cells_at (i := 1) hbV rfl
        have kx2 : V.cell? ⟨wr.heap.size, 2, none⟩ = some (.int .i64 x.off) := cells_at (i := 2) hbV rfl
        have kx3 : V.cell? ⟨wr.heap.size, 3, none⟩ = some (.bool x.more) := cells_at (i := 3) hbV rfl
        have kx4 : V.cell? ⟨wr.heap.size, 4, none⟩ = some (.slice x.A x.b.length x.c) := cells_at (i := 4) hbV rfl
        have kx5 : V.cell? ⟨wr.heap.size, 5, none⟩ = some (.string (strB x.head)) := cells_at (i := 5) hbV rfl
        have kx6 : V.cell? ⟨wr.heap.size, 6, none⟩ = some (.int .i64 x.now) := cells_at (i := 6) hbV rfl
        have HJV := Lib.hid (HJ.out.below bV)
        have HARG := Lib.hid ((((ea.below hbel).more hbel.size).below bV).more bV.size)
        have bw := hbel.trans (bV.mono hbel.size)
        clear hx hrow9 hV hbV ea eo en
        go_wp2_with (first
          | ((with_reducible show wpList _ _ _ (Oper.mk _ (Op.load 55 _) _ _ _ _ :: _) _ _); refine wpList_val rfl (run_load_do rfl rfl hrow rfl) ?_)
          | ((with_reducible show wpList _ _ _ (Oper.mk _ (Op.store 55 _ _) _ _ _ _ :: _) _ _); refine do_store_new (cs := (clD x).toArray) rfl rfl rfl rfl (clD_one x) ?_; rw [← HV.out])
          | (go_at_call 37; go_loud (refine (jkeys_len HJ2.out.tx (by rw [HMN.out]; omega)).mono ?_; rintro e y2 ⟨⟨P2, p2, rfl⟩, x2⟩; rw [HMN.out]))
          | (go_at_call 36; go_loud (refine (jbufs HJ2.out.tx).mono ?_; rintro e y5 ⟨rfl, rfl⟩; rw [HMN.out]))
          | (go_at_call 34; go_loud (refine (jbytes HJ2.out.tx).mono ?_; rintro e y5 ⟨rfl, rfl⟩))
          | (go_at_call 32; go_loud (refine (jadd_any HJV.out (by omega) x.key x.head x.off x.now x.more x.A x.c x.b HARG.out ek (by omega) hoff (by omega) (by omega) (Nat.le_trans hbel.size bV.size) (fun _ => True) (fun _ _ => trivial) trivial).mono ?_; rintro e y1 ⟨r1, r2, r3, r4, S2, rfl, hJ2, hb2, hl2, -⟩; have HJ2 := Lib.hid hJ2; obtain ⟨q, hq⟩ : ∃ q, q = S2.length := ⟨_, rfl⟩; have HMN : Hid ((S2.map Bu.kg).length = q) := Lib.hid ((List.length_map ..).trans hq.symm); have dB : decide (sumB S2 > a1) = false := decide_eq_false (Int.not_lt.2 hJ2.by_); have dB' : decide (a1 < sumB S2) = false := dB; have dU : decide ((q : Int) > a0) = false := decide_eq_false (Int.not_lt.2 (hq ▸ hJ2.n)); have dU' : decide (a0 < (q : Int)) = false := dU; have hq2 : q ≤ k + 1 := (by omega); have HQ := Lib.hid hq; clear hJ2 hq)))
        go_roundw
        case rel => exact ⟨k + 1, S2, by omega, by simp, Lib.hid (HJ2.out.below x2), by rw [← HQ.out]; exact hq2, (bw.trans hb2).trans (x2.mono (Nat.le_trans bw.size hb2.size))⟩
        case measure => simp [intOf]; omega
      · obtain rfl : n = k := by omega
        go_wp2_with (go_at_call 28; refine (awake16 _).mono ?_; rintro e v9 ⟨rfl, x9⟩)
        go_ret
        exact ⟨rfl, hbel.trans (x9.mono hbel.size)⟩

/-! ### The row's step -/
set_option maxRecDepth 100000 in
theorem lifted (os : Os) (started : os.Started) (H : Type) (enc : TypeId × Value → H) :
    ReturnsInHanded {} Try.checked os 8 .any (Rows.joinBoundsSpec.pre6 enc Try.prog Try.f8 Rows.joinBoundsRow.domain false) (Rows.joinBoundsSpec.post enc Try.prog Try.f8 false true false false) := by
  refine returnsInHanded_of_change (C := Try.checked) own started (by kernel_rfl) Try.func8
    (ChangeSpec.witness6 (enc := enc) (C := Try.checked) false ⟨#[], #[.int .u8 0, .int .u8 0, .slice none 0 0], []⟩ 8 (by kernel_rfl) (by kernel_rfl) (by kernel_rfl) (by kernel_rfl)) ?_
  intro W base args ds gs before hval0 hW hcnd _
  have hval : ∀ (j : Nat) t v, Try.f8.params[j]? = some t → args[j]? = some v → Value.okWide Try.prog W .any base t v := hval0
  have hW' := hW
  obtain ⟨p, q, hA0, hV, rfl, hfz, hnd⟩ := hW
  have hA : DataW.TrodAll enc Try.prog W 0 (fun _ => true) true Try.f8.params.toList args.toList ds p := hA0
  rw [Try.params8] at hA hval
  obtain ⟨v0, vs0, d0, ds0, p0, q0, hargs, rfl, rfl, t0, r0⟩ := trodAll_cons hA
  obtain ⟨v1, vs1, d1, ds1, p1, q1, rfl, rfl, rfl, t1, r1⟩ := trodAll_cons r0
  obtain ⟨v2, vs2, d2, ds2, p2, q2, rfl, rfl, rfl, t2, r2⟩ := trodAll_cons r1
  obtain ⟨rfl, rfl, rfl⟩ := trodAll_nil r2
  obtain rfl : args = #[v0, v1, v2] := by cases args; simp_all
  obtain ⟨rfl, rfl⟩ := trodVars_none hV
  have k0 := t0
  have lt0 := Trod_lt t0
  have k1 := t1
  have lt1 := Trod_lt t1
  have k2 := t2
  have lt2 := Trod_lt t2
  obtain ⟨a0, rfl, w0⟩ := get_int Try.underlying5 (hval 0 5 v0 rfl rfl) t0
  obtain ⟨a1, rfl, w1⟩ := get_int Try.underlying5 (hval 1 5 v1 rfl rfl) t1
  obtain ⟨A2, c2, l2, rfl, h2, e2, n2, m2⟩ := get_dos (hval 2 46 v2 rfl rfl) t2
  clear hA0 hval0
  refine (walk a0 a1 A2 c2 l2 W w0 w1 h2 e2 n2 m2).mono fun e W' ⟨he, bel⟩ => ?_
  subst he
  exact ⟨_, rfl, _, _, _, [], _, [], hW', trodAll_mk1 (shut_bool Try.underlying4 _), (trodAll_cons_mk (Below.trod laidOut (by kernel_rfl) (of_decide_eq_true (by kernel_rfl)) k0 bel lt0) (trodAll_cons_mk (Below.trod laidOut (by kernel_rfl) (of_decide_eq_true (by kernel_rfl)) k1 bel lt1) (trodAll_cons_mk (Below.trod laidOut (by kernel_rfl) (of_decide_eq_true (by kernel_rfl)) k2 bel lt2) trodAll_mk0))), rfl, bel.frame _, fun h => by cases h⟩

theorem over : Rows.joinBoundsRow.holds Try.pinned (OpenSpec.ofChange Rows.joinBoundsSpec) :=
  OpenClaim.holds_of_wide 8 Try.f8 rfl rfl rfl rfl rfl rfl rfl ⟨rfl, rfl, rfl, rfl, rfl⟩ rfl rfl rfl rfl rfl (by kernel_rfl) Try.func8 (by kernel_rfl)
    (of_decide_eq_true (by kernel_rfl)) (by unfold Func.isWrapper; first | (rw [if_pos (by decide +kernel)]; kernel_rfl) | (rw [if_neg (by decide +kernel)]; exact ⟨rfl, rfl⟩))
    (fun os started H enc _ => lifted os started H enc)

theorem proved : Rows.JoinBoundsSaid := over
end Go.Proofs.Ytkncgjjflkbnfaa.joinBounds
