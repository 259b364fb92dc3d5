/-
  Whatever the calls, JoinGone answers true and its argument reads as it did: behind the wait nothing is left, and what came in time is there again from its beginning. No condition.
-/
import Derived.Test.YthdaclbgandmcaaRows
import Derived.WalkKit
import Derived.ProofKit
import Derived.OpenShut
import Derived.ChangeOld
import Derived.Below
import Derived.Test.YthdaclbgandmcaaMa2
import Derived.Test.YthdaclbgandmcaaMe2
import Derived.Test.YthdaclbgandmcaaMe1
namespace Go.Proofs.Ythdaclbgandmcaa.joinGone
open Go.ChangeShapes Go.WideShapes Go.ChangeAt Go.RowKit
set_option linter.unusedVariables false
attribute [local go_sem] Oper.semAt_some

theorem own : ownKnob Try.prog.godebug = none := by kernel_rfl
theorem laidOut : laidOutB Try.prog = true := by kernel_rfl

/-! ### The walk -/
set_option maxRecDepth 100000 in
set_option maxHeartbeats 4000000 in
theorem walk (A0 : Option Addr) (c0 : Nat) (l0 : List Dx) (w : World) (h0 : RdS clD 7 w w.heap.size A0 l0) (e0 : ∀ y ∈ l0, Arg w w.heap.size y.A y.c y.b ∧ y.c ≤ maxLen ∧ (Lit.int .i64 y.off).wf = true ∧ (Lit.int .i64 y.now).wf = true ∧ y.key.length ≤ maxLen ∧ y.head.length ≤ maxLen) (n0 : l0.length ≤ c0) (m0 : c0 ≤ maxLen) :
    Calls Try.prog 4 #[.slice A0 l0.length c0] w fun e w' => e = .returned (.bool true) ∧ Below w.heap.size w w' := by
  obtain ⟨n, hn⟩ : ∃ n, n = l0.length := ⟨_, rfl⟩
  have HN := Lib.hid hn
  have HE0 := Lib.hid e0
  have HR0 := Lib.hid h0
  have hcap : n ≤ c0 := by rw [hn]; exact n0
  rw [← hn]
  cases hfar : farD 0 0 l0 with
  | true =>
    have HF := Lib.hid hfar
    clear hfar hn e0 h0 n0
    go_enter Try.func4, Try.ntmps4
    go_wp2_with (first
      | (go_at_call 14; refine (awake16 v1).mono ?_; rintro e v2 ⟨rfl, x2⟩)
      | (go_at_call 13; refine (far16 A0 c0 n w.heap.size l0 w HR0.out (Nat.le_refl _) HN.out (fun y hy => ⟨(HE0.out y hy).1.cap, (HE0.out y hy).2.1, (HE0.out y hy).2.2.1⟩)).mono ?_; rintro e v1 ⟨rfl, x1⟩; rw [HF.out]))
    go_ret
    exact ⟨rfl, x1.trans (x2.mono x1.size)⟩
  | false =>
    have HF := Lib.hid hfar
    obtain ⟨hf1, hf2⟩ := farD_no hfar
    have hn60 : n ≤ 60 := by
      rw [hn]
      split at hf1 <;> omega
    have HF2 := Lib.hid hf2
    clear hfar hn e0 h0 n0 hf1 hf2
    go_enter Try.func4, Try.ntmps4
    go_wp2_with (first
      | (go_at_call 11; (refine (jnew_ok 100 100000 60 v1 ⟨by omega, by omega, by omega⟩).mono ?_; rintro e v2 ⟨rfl, hT2, x2⟩))
      | (go_at_call 13; refine (far16 A0 c0 n w.heap.size l0 w HR0.out (Nat.le_refl _) HN.out (fun y hy => ⟨(HE0.out y hy).1.cap, (HE0.out y hy).2.1, (HE0.out y hy).2.2.1⟩)).mono ?_; rintro e v1 ⟨rfl, x1⟩; rw [HF.out]))
    have b2 := x1.trans (x2.mono x1.size)
    have hJ : Jv v2 w.heap.size (v1.heap.size + 1) v1.heap.size 100 100000 60 0 [] := ⟨hT2, ⟨Nat.le_succ_of_le x1.size, x1.size, fun s h => by cases h⟩, (by decide), (by decide), fun s h => by cases h⟩
    clear hT2
    generalize v1.heap.size + 1 = t at *
    generalize v1.heap.size = bm at *
    go_loopw [23] (fun i wr => ∃ (k : Nat) (S : List Bu), k ≤ n ∧ i = .int .i64 (k : Int) ∧ Hid (Jv wr w.heap.size t bm 100 100000 60 k S) ∧ Hid (∀ s ∈ S, s.began = 5) ∧ S.length ≤ k ∧ Below w.heap.size w wr)
      (fun i _ => n - (intOf i).toNat)
    case atStart => exact ⟨0, [], Nat.zero_le _, rfl, Lib.hid hJ, Lib.hid (fun s h => (by cases h)), Nat.le_refl _, b2⟩
    case round =>
      obtain ⟨k, S, hk, rfl, HJ, H5, hSk, hbel⟩ := hrel
      clear hJ b2 x1 x2
      by_cases hlt : k < n
      · obtain ⟨x, hx⟩ : ∃ x, l0[k]? = some x := ⟨_, List.getElem?_eq_getElem (by rw [← HN.out]; exact hlt)⟩
        have hxm := List.mem_of_getElem? hx
        obtain ⟨ea, ec, eo, en, ek, eh⟩ := HE0.out x hxm
        have hbx := HF2.out x hxm
        obtain ⟨b9, o9, rfl, hb9, hrow9⟩ := row_ofD HR0.out hx
        have hrow := range_below hrow9 hb9 hbel
        have hoff : -9223372036854775808 ≤ x.off ∧ x.off ≤ 9223372036854775807 := by have := eo; simp [Lit.wf, IntKind.min, IntKind.max, IntKind.bits, IntKind.signed] at this; omega
        obtain ⟨V, hV⟩ : ∃ V, V = wr.alloc (.cells (clD x).toArray 34) := ⟨_, rfl⟩
        have HV := Lib.hid hV
        have bV : Below wr.heap.size wr V := by rw [hV]; exact (Below.refl _ wr).alloc (Nat.le_refl _) _
        have hbV : V.heap[wr.heap.size]? = some (.cells (clD x).toArray 34 (0, 0)) := by rw [hV]; exact World.alloc_heap_new wr _
        have kx1 : V.cell? ⟨wr.heap.size, 1, none⟩ = some (.string (strB x.key)) := cells_at (i := 1) hbV rfl
        have kx2 : V.cell? ⟨wr.heap.size, 2, none⟩ = some (.int .i64 x.off) := cells_at (i := 2) hbV rfl
        have kx3 : V.cell? ⟨wr.heap.size, 3, none⟩ = some (.bool x.more) := cells_at (i := 3) hbV rfl
        have kx4 : V.cell? ⟨wr.heap.size, 4, none⟩ = some (.slice x.A x.b.length x.c) := cells_at (i := 4) hbV rfl
        have kx5 : V.cell? ⟨wr.heap.size, 5, none⟩ = some (.string (strB x.head)) := cells_at (i := 5) hbV rfl
        have kx6 : V.cell? ⟨wr.heap.size, 6, none⟩ = some (.int .i64 x.now) := cells_at (i := 6) hbV rfl
        have HJV := Lib.hid (HJ.out.below bV)
        have HARG := Lib.hid ((((ea.below hbel).more hbel.size).below bV).more bV.size)
        have bw := hbel.trans (bV.mono hbel.size)
        clear hx hrow9 hV hbV ea eo en
        go_wp2_with (first
          | ((with_reducible show wpList _ _ _ (Oper.mk _ (Op.load 34 _) _ _ _ _ :: _) _ _); refine wpList_val rfl (run_load_do rfl rfl hrow rfl) ?_)
          | ((with_reducible show wpList _ _ _ (Oper.mk _ (Op.store 34 _ _) _ _ _ _ :: _) _ _); refine do_store_new (cs := (clD x).toArray) rfl rfl rfl rfl (clD_one x) ?_; rw [← HV.out])
          | (go_at_call 18; (refine (jadd_any HJV.out (by omega) x.key x.head x.off 5 x.more x.A x.c x.b HARG.out ek (by omega) hoff (by omega) (by omega) (Nat.le_trans hbel.size bV.size) (fun z => z = 5) H5.out (by decide)).mono ?_; rintro e y1 ⟨r1, r2, r3, r4, S2, rfl, hJ2, hb2, hl2, h52⟩; have HJ2 := Lib.hid hJ2; have H52 := Lib.hid h52; clear hJ2 h52)))
        go_roundw
        case rel => exact ⟨k + 1, S2, by omega, by simp, HJ2, H52, by omega, bw.trans hb2⟩
        case measure => simp [intOf]; omega
      · obtain rfl : n = k := by omega
        obtain ⟨q, hq⟩ : ∃ q, q = S.length := ⟨_, rfl⟩
        have HMN : Hid ((S.map Bu.kg).length = q) := Lib.hid ((List.length_map ..).trans hq.symm)
        have hq6 : q ≤ 60 := by omega
        have HQ := Lib.hid hq
        have H5a : Hid (∀ s ∈ S, (64 : Int) - 60 < s.began) := Lib.hid fun s hs => by rw [H5.out s hs]; decide
        have hbz := hbel.size
        clear hq
        go_wp2_with (first
          | (go_at_call 14; refine (awake16 _).mono ?_; rintro e v9 ⟨rfl, x9⟩)
          | (go_at_call 21; (with_reducible refine (jbytes HJ4.out.tx).mono ?_); rintro e y6 ⟨rfl, rfl⟩)
          | (go_at_call 23; (with_reducible refine (jbufs HJ4.out.tx).mono ?_); rintro e y6 ⟨rfl, rfl⟩)
          | (go_at_call 23; (with_reducible refine (jbufs HJ3.out.tx).mono ?_); rintro e y6 ⟨rfl, rfl⟩; rw [HMR.out])
          | (go_at_call 23; (with_reducible refine (jbufs HJ.out.tx).mono ?_); rintro e y6 ⟨rfl, rfl⟩; rw [HMN.out])
          | (go_at_call 16; (with_reducible show Calls _ _ #[_, .int .i64 65] _ _); (refine (jexp_all HJ3.out (by decide) (by omega) (by decide) (by decide) (by omega) H65.out).mono ?_; rintro e w8 ⟨⟨Q1, Q2, rfl⟩, hJ4, hb4⟩; have HJ4 := Lib.hid hJ4; clear hJ4; rw [HRL.out]))
          | (go_at_call 16; (with_reducible show Calls _ _ #[_, .int .i64 64] _ _); (refine (jexp_none HJ.out (by decide) (by omega) (by decide) (by decide) hbz H5a.out).mono ?_; rintro e w7 ⟨⟨P1, P2, rfl⟩, R, hJ3, hb3, hpm⟩; have HJ3 := Lib.hid hJ3; have HRL : Hid (R.length = q) := Lib.hid (hpm.length_eq.symm.trans HQ.out.symm); have HMR : Hid ((R.map Bu.kg).length = q) := Lib.hid ((List.length_map ..).trans HRL.out); have hR6 : R.length ≤ 60 := (by rw [HRL.out]; exact hq6); have hb7 : w.heap.size ≤ w7.heap.size := (hbel.trans hb3).size; have H65 : Hid (∀ s ∈ R, s.began ≤ (65 : Int) - 60) := Lib.hid (fun s hs => by rw [H5.out s (hpm.mem_iff.2 hs)]; decide); clear hJ3 hpm)))
        go_ret
        exact ⟨rfl, ((hbel.trans hb3).trans hb4).trans (x9.mono (Nat.le_trans hb7 hb4.size))⟩

/-! ### The row's step -/
set_option maxRecDepth 100000 in
theorem lifted (os : Os) (started : os.Started) (H : Type) (enc : TypeId × Value → H) :
    ReturnsInHanded {} Try.checked os 4 .any (Rows.joinGoneSpec.pre6 enc Try.prog Try.f4 Rows.joinGoneRow.domain false) (Rows.joinGoneSpec.post enc Try.prog Try.f4 false true false false) := by
  refine returnsInHanded_of_change (C := Try.checked) own started (by kernel_rfl) Try.func4
    (ChangeSpec.witness6 (enc := enc) (C := Try.checked) false ⟨#[], #[.slice none 0 0], []⟩ 8 (by kernel_rfl) (by kernel_rfl) (by kernel_rfl) (by kernel_rfl)) ?_
  intro W base args ds gs before hval0 hW hcnd _
  have hval : ∀ (j : Nat) t v, Try.f4.params[j]? = some t → args[j]? = some v → Value.okWide Try.prog W .any base t v := hval0
  have hW' := hW
  obtain ⟨p, q, hA0, hV, rfl, hfz, hnd⟩ := hW
  have hA : DataW.TrodAll enc Try.prog W 0 (fun _ => true) true Try.f4.params.toList args.toList ds p := hA0
  rw [Try.params4] at hA hval
  obtain ⟨v0, vs0, d0, ds0, p0, q0, hargs, rfl, rfl, t0, r0⟩ := trodAll_cons hA
  obtain ⟨rfl, rfl, rfl⟩ := trodAll_nil r0
  obtain rfl : args = #[v0] := by cases args; simp_all
  obtain ⟨rfl, rfl⟩ := trodVars_none hV
  have k0 := t0
  have lt0 := Trod_lt t0
  obtain ⟨A0, c0, l0, rfl, h0, e0, n0, m0⟩ := get_dos (hval 0 22 v0 rfl rfl) t0
  clear hA0 hval0
  refine (walk A0 c0 l0 W h0 e0 n0 m0).mono fun e W' ⟨he, bel⟩ => ?_
  subst he
  exact ⟨_, rfl, _, _, _, [], _, [], hW', trodAll_mk1 (shut_bool Try.underlying4 _), (trodAll_cons_mk (Below.trod laidOut (by kernel_rfl) (of_decide_eq_true (by kernel_rfl)) k0 bel lt0) trodAll_mk0), rfl, bel.frame _, fun h => by cases h⟩

theorem over : Rows.joinGoneRow.holds Try.pinned (OpenSpec.ofChange Rows.joinGoneSpec) :=
  OpenClaim.holds_of_wide 4 Try.f4 rfl rfl rfl rfl rfl rfl rfl ⟨rfl, rfl, rfl, rfl, rfl⟩ rfl rfl rfl rfl rfl (by kernel_rfl) Try.func4 (by kernel_rfl)
    (of_decide_eq_true (by kernel_rfl)) (by unfold Func.isWrapper; first | (rw [if_pos (by decide +kernel)]; kernel_rfl) | (rw [if_neg (by decide +kernel)]; exact ⟨rfl, rfl⟩))
    (fun os started H enc _ => lifted os started H enc)

theorem proved : Rows.JoinGoneSaid := over
end Go.Proofs.Ythdaclbgandmcaa.joinGone
