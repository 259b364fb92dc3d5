/-
  For all lists of packets, goosepondlaw13.Cut4Glues answers true: any fragments are the packet that the document says, or refused.
  Conditions: none but the statement's own.
-/
import Derived.Test.YtcebobcakiljhaaRows
import Derived.WalkKit
import Derived.ProofKit
import Derived.OpenShut
import Derived.ChangeOld
import Derived.Below
import Derived.Test.YtcebobcakiljhaaNa1
import Derived.Test.YtcebobcakiljhaaNb1
import Derived.Test.YtcebobcakiljhaaNa10
namespace Go.Proofs.Ytcebobcakiljhaa.cut4Glues
open Go.ChangeShapes Go.WideShapes Go.ChangeAt Go.RowKit
set_option linter.unusedVariables false
attribute [local go_sem] Oper.semAt_some

theorem own : ownKnob Try.prog.godebug = none := by kernel_rfl
theorem laidOut : laidOutB Try.prog = true := by kernel_rfl

/-! ### The walk -/
set_option maxRecDepth 100000 in
set_option maxHeartbeats 4000000 in
theorem walk (A0 : Option Addr) (c0 : Nat) (l0 : List X4) (w : World) (h0 : L4 w w.heap.size A0 l0) (n0 : l0.length ≤ c0) (m0 : c0 ≤ maxLen) :
    Calls Try.prog 4 #[.slice A0 l0.length c0] w fun e w' => e = .returned (.bool true) ∧ Below w.heap.size w w' := by
  obtain ⟨n, hn⟩ : ∃ n, n = l0.length := ⟨_, rfl⟩
  have HN := Lib.hid hn
  have HL := Lib.hid h0
  rw [← hn] at n0 ⊢
  obtain ⟨Q, hQ⟩ : ∃ Q, Q = l0.map (·.q) := ⟨_, rfl⟩
  have HQ := Lib.hid hQ
  have HQn : Hid (Q.length = n) := Lib.hid (by rw [hQ, List.length_map, hn])
  clear hn h0 hQ
  go_enter Try.func4, Try.ntmps4
  by_cases h1 : 40 < n
  · have d1 : decide (40 < (n : Int)) = true := by simp; omega
    go_wp2_with (go_at_call 8; refine (awake13_any _).mono ?_; rintro e w10 ⟨rfl, b10⟩)
    go_ret
    exact ⟨rfl, b10⟩
  · have d1 : decide (40 < (n : Int)) = false := by simp; omega
    go_wp2
    go_loopw [15] (fun i wr => ∃ k : Nat, k ≤ n ∧ i = .int .i64 (k : Int) ∧ Hid (∀ i, i < k → (Q.getD i p4z).dat.length ≤ 2000 ∧ (Q.getD i p4z).opt.length ≤ 200) ∧ Below w.heap.size w wr)
      (fun i _ => n - (intOf i).toNat)
    case atStart => exact ⟨0, Nat.zero_le _, rfl, Lib.hid (fun i h => absurd h (Nat.not_lt_zero _)), Below.refl _ _⟩
    case round =>
      obtain ⟨k, hk, rfl, HC, hbel⟩ := hrel
      by_cases hlt : k < n
      · obtain ⟨x, hx⟩ : ∃ x, l0[k]? = some x := ⟨_, List.getElem?_eq_getElem (by rw [← HN.out]; exact hlt)⟩
        have HXQ : Hid (Q.getD k p4z = x.q) := Lib.hid (by rw [HQ.out, List.getD_eq_getElem?_getD, List.getElem?_map, hx]; rfl)
        obtain ⟨b1, o1, e1, hb1', hr1'⟩ := HL.out.rd (by rw [← HN.out]; omega)
        obtain rfl := e1
        have hrx := range_below (hr1' k x hx) hb1' hbel
        have hzr := hbel.size
        have hb1 : b1 < wr.heap.size := by omega
        have hbx : Below w.heap.size w (wr.alloc (.cells (v4a x.q x.A x.c x.A' x.c') 24)) := hbel.trans ((Below.refl wr.heap.size wr).alloc (Nat.le_refl _) _ |>.mono hzr)
        clear hr1' hx
        go_upto_region 6 with (first
          | ((with_reducible show wpList _ _ _ (Oper.mk _ (Op.load 24 _) _ _ _ _ :: _) _ _); refine wpList_val (v := .agg (v4a x.q x.A x.c x.A' x.c')) rfl (run_load_v4o rfl rfl hrx rfl) ?_)
          | ((with_reducible show wpList _ _ _ (Oper.mk _ (Op.store 24 _ _) _ _ _ _ :: _) _ _); refine v4_store_new (cs := v4a x.q x.A x.c x.A' x.c') rfl rfl rfl rfl (v4a_one _ _ _ _ _) ?_))
        have hAt := At4.new (q := x.q) (A := x.A) (c := x.c) (A' := x.A') (c' := x.c') wr
        have k10 := hAt.dat
        have k9 := hAt.opt
        clear hAt hrx
        generalize wr.alloc (.cells (v4a x.q x.A x.c x.A' x.c') 24) = X at *
        by_cases h2 : 2000 < x.q.dat.length
        · have d2 : decide (2000 < (x.q.dat.length : Int)) = true := by simp; omega
          go_wp2_with (go_at_call 8; refine (awake13_any _).mono ?_; rintro e w10 ⟨rfl, b10⟩)
          go_ret
          exact ⟨rfl, hbx.trans (b10.mono hbx.size)⟩
        · have d2 : decide (2000 < (x.q.dat.length : Int)) = false := by simp; omega
          by_cases h3 : 200 < x.q.opt.length
          · have d3 : decide (200 < (x.q.opt.length : Int)) = true := by simp; omega
            go_wp2_with (go_at_call 8; refine (awake13_any _).mono ?_; rintro e w10 ⟨rfl, b10⟩)
            go_ret
            exact ⟨rfl, hbx.trans (b10.mono hbx.size)⟩
          · have d3 : decide (200 < (x.q.opt.length : Int)) = false := by simp; omega
            go_wp2
            go_roundw
            case rel =>
              refine ⟨k + 1, by omega, by simp, Lib.hid (fun i hi => ?_), hbx⟩
              rcases Nat.lt_or_ge i k with h | h
              · exact HC.out i h
              · rw [show i = k by omega, HXQ.out]; omega
            case measure => simp [intOf]; omega
      · obtain rfl : n = k := by omega
        have hb : ∀ q ∈ Q, q.dat.length ≤ 2000 ∧ q.opt.length ≤ 200 := fun q hq => by
          obtain ⟨i, hi, rfl⟩ := List.mem_iff_getElem.1 hq
          have := HC.out i (by rw [← HQn.out]; exact hi)
          rwa [List.getD_eq_getElem?_getD, List.getElem?_eq_getElem hi] at this
        have hdd : (datas Q).length ≤ 1000000 := by
          have h1 := datas_le Q 2000 (fun q hq => (hb q hq).1)
          have h2 := HQn.out
          rw [h2] at h1
          omega
        have hoo : ∀ x ∈ l0, x.q.opt.length ≤ 1000000 := fun x hx => by have := (hb x.q (by rw [HQ.out]; exact List.mem_map.2 ⟨x, hx, rfl⟩)).2; omega
        obtain ⟨G, hG⟩ : ∃ G, G = glV Q := ⟨_, rfl⟩
        obtain ⟨E, hE⟩ : ∃ E, E = glE Q := ⟨_, rfl⟩
        have K1 : Hid (∀ V, Below w.heap.size w V → Calls Try.prog 15 #[.slice A0 n c0] V fun e w' => ∃ P p P' p', e = .returned (.tuple #[.agg (v4a G P p P' p'), .int .i64 E]) ∧ Arg w' w'.heap.size P p G.opt ∧ Arg w' w'.heap.size P' p' G.dat ∧ Below V.heap.size V w') := Lib.hid (fun V hV => by
          have := c13glue A0 c0 l0 w.heap.size V (HL.out.below hV) hV.size (by rw [← HN.out]; exact n0) (by rw [← HN.out]; omega) (by rw [← HQ.out]; exact hdd) hoo
          rw [← HQ.out, ← hG, ← hE, ← HN.out] at this
          exact this)
        have K2 : Hid (∀ V, Below w.heap.size w V → Calls Try.prog 16 #[.slice A0 n c0] V fun e w' => ∃ P p P' p', e = .returned (.tuple #[.agg (v4a G P p P' p'), .int .i64 E]) ∧ Arg w' w'.heap.size P p G.opt ∧ Arg w' w'.heap.size P' p' G.dat ∧ Below V.heap.size V w') := Lib.hid (fun V hV => by
          have := r13glue A0 c0 l0 w.heap.size V (HL.out.below hV) hV.size (by rw [← HN.out]; exact n0) (by rw [← HN.out]; omega) (by rw [← HQ.out]; exact hdd) hoo
          rw [← HQ.out, ← hG, ← hE, ← HN.out] at this
          exact this)
        clear hb hdd hoo hG hE HC
        have HSM : Hid (same4 G G = true) := Lib.hid (same4_iff.2 rfl)
        rename World => V0
        have hz0 := hbel.size
        go_upto_region 10 with (first
          | (go_at_call 15; refine (K1.out V0 hbel).mono ?_; rintro e w1 ⟨P1, p1, P1', p1', rfl, a1, a1', y1⟩)
          | ((with_reducible show wpList _ _ _ (Oper.mk _ (Op.store 24 _ _) _ _ _ _ :: _) _ _); refine v4_store_new (cs := v4a G P1 p1 P1' p1') rfl rfl rfl rfl (v4a_one _ _ _ _ _) ?_))
        have hB1 : Below w.heap.size w (w1.alloc (.cells (v4a G P1 p1 P1' p1') 24)) := (hbel.trans (y1.mono hz0)).trans ((Below.refl w1.heap.size w1).alloc (Nat.le_refl _) _ |>.mono (Nat.le_trans hz0 y1.size))
        have hat1 := At4.new (q := G) (A := P1) (c := p1) (A' := P1') (c' := p1') w1
        have hX1 : Below w1.heap.size w1 (w1.alloc (.cells (v4a G P1 p1 P1' p1') 24)) := (Below.refl w1.heap.size w1).alloc (Nat.le_refl _) _
        have hz1 : w1.heap.size < (w1.alloc (.cells (v4a G P1 p1 P1' p1') 24)).heap.size := by simp
        have a2 := (a1.below hX1).more (Nat.le_of_lt hz1)
        have a2' := (a1'.below hX1).more (Nat.le_of_lt hz1)
        obtain ⟨g1, hg1⟩ : ∃ g, g = w1.heap.size := ⟨_, rfl⟩
        rw [← hg1] at hat1 hz1 ⊢
        clear hX1 a1 a1' y1 hg1
        generalize w1.alloc (.cells (v4a G P1 p1 P1' p1') 24) = X1 at *
        have hzB := hB1.size
        go_upto_region 11 with (first
          | (go_at_call 16; refine (K2.out X1 hB1).mono ?_; rintro e w2 ⟨P2, p2, P2', p2', rfl, a3, a3', y2⟩)
          | ((with_reducible show wpList _ _ _ (Oper.mk _ (Op.store 24 _ _) _ _ _ _ :: _) _ _); refine v4_store_new (cs := v4a G P2 p2 P2' p2') rfl rfl rfl rfl (v4a_one _ _ _ _ _) ?_))
        have hX2 : Below w2.heap.size w2 (w2.alloc (.cells (v4a G P2 p2 P2' p2') 24)) := (Below.refl w2.heap.size w2).alloc (Nat.le_refl _) _
        have hB2 : Below w.heap.size w (w2.alloc (.cells (v4a G P2 p2 P2' p2') 24)) := (hB1.trans (y2.mono hzB)).trans (hX2.mono (Nat.le_trans hzB y2.size))
        have hat3 := (hat1.below y2 hz1).below hX2 (Nat.lt_of_lt_of_le hz1 y2.size)
        have hat2 := At4.new (q := G) (A := P2) (c := p2) (A' := P2') (c' := p2') w2
        have hz2 : w2.heap.size < (w2.alloc (.cells (v4a G P2 p2 P2' p2') 24)).heap.size := by simp
        have q1 := (((a2.below y2).below (hX2.mono y2.size)).more (Nat.le_trans y2.size (Nat.le_of_lt hz2))).rd
        have q2 := (((a2'.below y2).below (hX2.mono y2.size)).more (Nat.le_trans y2.size (Nat.le_of_lt hz2))).rd
        have q3 := ((a3.below hX2).more (Nat.le_of_lt hz2)).rd
        have q4 := ((a3'.below hX2).more (Nat.le_of_lt hz2)).rd
        obtain ⟨g2, hg2⟩ : ∃ g, g = w2.heap.size := ⟨_, rfl⟩
        rw [← hg2] at hat2 ⊢
        clear hX2 a3 a3' y2 hz2 hg2 hat1 hz1 a2 a2'
        generalize w2.alloc (.cells (v4a G P2 p2 P2' p2') 24) = X2 at *
        go_wp2_with (first
          | ((with_reducible show wpList _ _ _ (Oper.mk _ (Op.load 24 _) _ _ _ _ :: _) _ _); refine wpList_valw (by rfl) (run_load_v4 rfl rfl hat3 rfl) ?_)
          | ((with_reducible show wpList _ _ _ (Oper.mk _ (Op.load 24 _) _ _ _ _ :: _) _ _); refine wpList_valw (by rfl) (run_load_v4 rfl rfl hat2 rfl) ?_)
          | (go_at_call 17; refine (r5same G G P1 p1 P1' p1' P2 p2 P2' p2' X2.heap.size X2 (Nat.le_refl _) q1 q2 q3 q4).mono ?_; rintro e w9 ⟨rfl, y9⟩; rw [HSM.out])
          | (go_at_call 8; refine (awake13_any _).mono ?_; rintro e w10 ⟨rfl, b10⟩))
        go_ret
        have hB9 := hB2.trans (y9.mono hB2.size)
        exact ⟨rfl, hB9.trans (b10.mono hB9.size)⟩

/-! ### The row's step -/
set_option maxRecDepth 100000 in
theorem lifted (os : Os) (started : os.Started) (H : Type) (enc : TypeId × Value → H) :
    ReturnsInHanded {} Try.checked os 4 .any (Rows.cut4GluesSpec.pre6 enc Try.prog Try.f4 Rows.cut4GluesRow.domain false) (Rows.cut4GluesSpec.post enc Try.prog Try.f4 false true false false) := by
  refine returnsInHanded_of_change (C := Try.checked) own started (by kernel_rfl) Try.func4
    (ChangeSpec.witness6 (enc := enc) (C := Try.checked) false ⟨#[], #[.slice none 0 0], []⟩ 8 (by kernel_rfl) (by kernel_rfl) (by kernel_rfl) (by kernel_rfl)) ?_
  intro W base args ds gs before hval0 hW hcnd _
  have hval : ∀ (j : Nat) t v, Try.f4.params[j]? = some t → args[j]? = some v → Value.okWide Try.prog W .any base t v := hval0
  have hW' := hW
  obtain ⟨p, q, hA0, hV, rfl, hfz, hnd⟩ := hW
  have hA : DataW.TrodAll enc Try.prog W 0 (fun _ => true) true Try.f4.params.toList args.toList ds p := hA0
  rw [Try.params4] at hA hval
  obtain ⟨v0, vs0, d0, ds0, p0, q0, hargs, rfl, rfl, t0, r0⟩ := trodAll_cons hA
  obtain ⟨rfl, rfl, rfl⟩ := trodAll_nil r0
  obtain rfl : args = #[v0] := by cases args; simp_all
  obtain ⟨rfl, rfl⟩ := trodVars_none hV
  have k0 := t0
  have lt0 := Trod_lt t0
  obtain ⟨A0, c0, l0, rfl, h0, n0, m0⟩ := get_v4s (hval 0 26 v0 rfl rfl) t0
  clear hA0 hval0
  refine (walk A0 c0 l0 W h0 n0 m0).mono fun e W' ⟨he, bel⟩ => ?_
  subst he
  exact ⟨_, rfl, _, _, _, [], _, [], hW', trodAll_mk1 (shut_bool Try.underlying4 _), (trodAll_cons_mk (Below.trod laidOut (by kernel_rfl) (of_decide_eq_true (by kernel_rfl)) k0 bel lt0) trodAll_mk0), rfl, bel.frame _, fun h => by cases h⟩

theorem over : Rows.cut4GluesRow.holds Try.pinned (OpenSpec.ofChange Rows.cut4GluesSpec) :=
  OpenClaim.holds_of_wide 4 Try.f4 rfl rfl rfl rfl rfl rfl rfl ⟨rfl, rfl, rfl, rfl, rfl⟩ rfl rfl rfl rfl rfl (by kernel_rfl) Try.func4 (by kernel_rfl)
    (of_decide_eq_true (by kernel_rfl)) (by unfold Func.isWrapper; first | (rw [if_pos (by decide +kernel)]; kernel_rfl) | (rw [if_neg (by decide +kernel)]; exact ⟨rfl, rfl⟩))
    (fun os started H enc _ => lifted os started H enc)

theorem proved : Rows.Cut4GluesSaid := over
end Go.Proofs.Ytcebobcakiljhaa.cut4Glues
