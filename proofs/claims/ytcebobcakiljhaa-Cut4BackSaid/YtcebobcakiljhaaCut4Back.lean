/-
  For all packets and sizes, goosepondlaw13.Cut4Back answers true: fragments are the packet again, each is as small as was asked, and may be.
  Conditions: none but the statement's own.
-/
import Derived.Test.YtcebobcakiljhaaRows
import Derived.WalkKit
import Derived.ProofKit
import Derived.OpenShut
import Derived.ChangeOld
import Derived.Below
import Derived.Test.YtcebobcakiljhaaNa1
import Derived.Test.YtcebobcakiljhaaNb1
import Derived.Test.YtcebobcakiljhaaNa10
namespace Go.Proofs.Ytcebobcakiljhaa.cut4Back
open Go.ChangeShapes Go.WideShapes Go.ChangeAt Go.RowKit
set_option linter.unusedVariables false
attribute [local go_sem] Oper.semAt_some

theorem own : ownKnob Try.prog.godebug = none := by kernel_rfl
theorem laidOut : laidOutB Try.prog = true := by kernel_rfl

/-! ### The walk -/
set_option maxRecDepth 100000 in
set_option maxHeartbeats 4000000 in
theorem walk (x0 : P4) (A0 : Option Addr) (c0 : Nat) (A0' : Option Addr) (c0' : Nat) (a1 : Int) (w : World) (h0 : Arg w w.heap.size A0 c0 x0.opt) (h0' : Arg w w.heap.size A0' c0' x0.dat) (m0 : c0 ≤ maxLen) (m0' : c0' ≤ maxLen) (w0 : x0.fits) (w1 : (Lit.int .i64 a1).wf = true) :
    Calls Try.prog 5 #[v4v x0 A0 c0 A0' c0', .int .i64 a1] w fun e w' => e = .returned (.bool true) ∧ Below w.heap.size w w' := by
  have hB : Below w.heap.size w (w.alloc (.cells (v4a x0 A0 c0 A0' c0') 24)) := (Below.refl w.heap.size w).alloc (Nat.le_refl _) _
  have hAt := At4.new (q := x0) (A := A0) (c := c0) (A' := A0') (c' := c0') w
  have hz : w.heap.size < (w.alloc (.cells (v4a x0 A0 c0 A0' c0') 24)).heap.size := by simp
  rw [v4v_eq4]
  go_enter Try.func5, Try.ntmps5
  go_upto_region 1 with fail
  obtain ⟨g, hg⟩ : ∃ g, g = w.heap.size := ⟨_, rfl⟩
  rw [← hg] at hAt ⊢
  generalize w.alloc (.cells (v4a x0 A0 c0 A0' c0') 24) = W at *
  have hgW : g < W.heap.size := by omega
  clear hg
  have kd := hAt.dat
  have ko := hAt.opt
  by_cases h1 : 3000 < x0.dat.length
  · have d1 : decide (3000 < (x0.dat.length : Int)) = true := by simp; omega
    go_wp2_with (go_at_call 8; refine (awake13_any _).mono ?_; rintro e w10 ⟨rfl, b10⟩)
    go_ret
    exact ⟨rfl, hB.trans (b10.mono hB.size)⟩
  · have d1 : decide (3000 < (x0.dat.length : Int)) = false := by simp; omega
    by_cases h3 : 200 < x0.opt.length
    · have d2 : decide (200 < (x0.opt.length : Int)) = true := by simp; omega
      go_wp2_with (go_at_call 8; refine (awake13_any _).mono ?_; rintro e w10 ⟨rfl, b10⟩)
      go_ret
      exact ⟨rfl, hB.trans (b10.mono hB.size)⟩
    · have d2 : decide (200 < (x0.opt.length : Int)) = false := by simp; omega
      have ho : x0.opt.length ≤ 1000000 := by omega
      have hd : x0.dat.length ≤ 1000000 := by omega
      by_cases hE : cutE x0 a1 = 0
      · have HE := Lib.hid hE
        clear hE
        go_upto_region 6 with (first
          | ((with_reducible show wpList _ _ _ (Oper.mk _ (Op.load 24 _) _ _ _ _ :: _) _ _); refine wpList_val rfl (run_load_v4 rfl rfl hAt rfl) ?_)
          | (go_at_call 9; refine (c13cut x0 A0 c0 A0' c0' a1 w.heap.size W (h0.below hB) (h0'.below hB) hB.size ho hd).mono ?_; rintro e w1 ⟨v1, l1, rfl, r1, e1, y1⟩; obtain ⟨P1, p1, rfl, q1, z1⟩ := r1.l4; rw [HE.out]))
        have hAt1 := hAt.below y1 hgW
        have hB1 := hB.trans (y1.mono hB.size)
        have HF : Hid (Frags a1 x0.mf x0 (l1.map (·.q))) := Lib.hid (by
          obtain ⟨hc, hk, hco⟩ := cutE_ok HE.out
          obtain ⟨⟨_, _, _, _, _, _, _, _, _, _, _, _, _, _, _, _, _, a18⟩, _, _⟩ := chk4_ok hk
          rw [e1, cutL, if_pos HE.out]
          exact frags_of hco x0 hc a18)
        have HK : Hid (chk4 x0 = 0) := Lib.hid (cutE_ok HE.out).2.1
        have hl1 : l1.length ≤ 1000000 := by
          have h := cutL_len x0 a1
          rw [← e1, List.length_map] at h
          omega
        obtain ⟨n, hn⟩ : ∃ n, n = l1.length := ⟨_, rfl⟩
        have HN := Lib.hid hn
        have HL := Lib.hid q1
        rw [← hn] at z1 hl1 ⊢
        have hAD : Hid (∀ V, Below w1.heap.size w1 V → Arg V V.heap.size A0 c0 x0.opt ∧ Arg V V.heap.size A0' c0' x0.dat ∧ At4 V g x0 A0 c0 A0' c0') := Lib.hid fun V hV => by
          have h1 := hB1.trans (hV.mono hB1.size)
          exact ⟨(h0.below h1).more h1.size, (h0'.below h1).more h1.size, hAt1.below hV (Nat.lt_of_lt_of_le hgW y1.size)⟩
        clear hn q1 hAt kd ko d1 d2 r1 e1 hgW hAt1 h1 h3 y1 hz hB
        go_wp2
        go_loopw [38] (fun i wr => ∃ k : Nat, k ≤ n ∧ i = .int .i64 (k : Int) ∧ Below w1.heap.size w1 wr)
          (fun i _ => n - (intOf i).toNat)
        case atStart => exact ⟨0, Nat.zero_le _, rfl, Below.refl _ _⟩
        case round =>
          obtain ⟨k, hk, rfl, hbel⟩ := hrel
          by_cases hlt : k < n
          · obtain ⟨x, hx⟩ : ∃ x, l1[k]? = some x := ⟨_, List.getElem?_eq_getElem (by rw [← HN.out]; exact hlt)⟩
            have hxm := List.mem_of_getElem? hx
            obtain ⟨hsz, hck⟩ := HF.out.all x.q (List.mem_map.2 ⟨x, hxm, rfl⟩)
            have hxd : x.q.dat.length ≤ 1000000 := by
              have h1 := mem_datas (List.mem_map.2 ⟨x, hxm, rfl⟩ : x.q ∈ l1.map (·.q))
              rw [HF.out.dat] at h1
              omega
            have hxo : x.q.opt.length ≤ 1000000 := by
              obtain ⟨⟨_, _, _, _, _, _, _, _, _, _, _, _, _, _, _, a16, _, _⟩, _, _⟩ := chk4_ok hck
              omega
            obtain ⟨b1, o1, e1, hb1', hr1'⟩ := HL.out.rd (by rw [← HN.out]; omega)
            obtain rfl := e1
            have hrx := range_below (hr1' k x hx) hb1' hbel
            have hzr := hbel.size
            have hb1 : b1 < wr.heap.size := by omega
            have hX : Below w1.heap.size w1 (wr.alloc (.cells (v4a x.q x.A x.c x.A' x.c') 24)) := hbel.trans ((Below.refl wr.heap.size wr).alloc (Nat.le_refl _) _ |>.mono hzr)
            have hAtx := At4.new (q := x.q) (A := x.A) (c := x.c) (A' := x.A') (c' := x.c') wr
            have hzx : wr.heap.size < (wr.alloc (.cells (v4a x.q x.A x.c x.A' x.c') 24)).heap.size := by simp
            have HSZ := Lib.hid hsz
            have HCX := Lib.hid hck
            have dS : decide (size4 x.q > a1) = false := decide_eq_false (by omega)
            have dS' : decide (a1 < size4 x.q) = false := decide_eq_false (by omega)
            clear hr1' hx hxm hsz hck
            go_upto_region 9 with (first
              | ((with_reducible show wpList _ _ _ (Oper.mk _ (Op.load 24 _) _ _ _ _ :: _) _ _); refine wpList_val (v := .agg (v4a x.q x.A x.c x.A' x.c')) rfl (run_load_v4o rfl rfl hrx rfl) ?_)
              | ((with_reducible show wpList _ _ _ (Oper.mk _ (Op.store 24 _ _) _ _ _ _ :: _) _ _); refine v4_store_new (cs := v4a x.q x.A x.c x.A' x.c') rfl rfl rfl rfl (v4a_one _ _ _ _ _) ?_))
            obtain ⟨b, hb⟩ : ∃ b, b = wr.heap.size := ⟨_, rfl⟩
            rw [← hb] at hAtx hzx ⊢
            clear hb hrx
            generalize wr.alloc (.cells (v4a x.q x.A x.c x.A' x.c') 24) = X at *
            go_wp2_with (first
              | ((with_reducible show wpList _ _ _ (Oper.mk _ (Op.load 24 _) _ _ _ _ :: _) _ _); refine wpList_valw (by rfl) (run_load_v4 rfl rfl hAtx3 rfl) ?_)
              | ((with_reducible show wpList _ _ _ (Oper.mk _ (Op.load 24 _) _ _ _ _ :: _) _ _); refine wpList_val rfl (run_load_v4 rfl rfl hAtx rfl) ?_)
              | (go_at_call 18; refine (c4size x.q x.A x.c x.A' x.c' _ hxo hxd).mono ?_; rintro e w3 ⟨rfl, x3⟩; have hAtx3 := hAtx.below x3 hzx)
              | (go_at_call 19; refine (c4check x.q x.A x.c x.A' x.c' _ hxo hxd).mono ?_; rintro e w4 ⟨rfl, x4⟩; rw [HCX.out]))
            go_roundw
            case rel => exact ⟨k + 1, by omega, by simp, (hX.trans (x3.mono hX.size)).trans (x4.mono (Nat.le_trans hX.size x3.size))⟩
            case measure => simp [intOf]; omega
          · obtain rfl : n = k := by omega
            have hgl := glue_back HF.out HK.out
            have hdd : (datas (l1.map (·.q))).length ≤ 1000000 := by rw [HF.out.dat]; omega
            have hoo : ∀ x ∈ l1, x.q.opt.length ≤ 1000000 := fun x hx => by
              obtain ⟨_, hck⟩ := HF.out.all x.q (List.mem_map.2 ⟨x, hx, rfl⟩)
              obtain ⟨⟨_, _, _, _, _, _, _, _, _, _, _, _, _, _, _, a16, _, _⟩, _, _⟩ := chk4_ok hck
              omega
            have K1 : Hid (∀ V, Below w1.heap.size w1 V → Calls Try.prog 15 #[.slice P1 n p1] V fun e w' => ∃ P p P' p', e = .returned (.tuple #[.agg (v4a x0 P p P' p'), .int .i64 0]) ∧ Arg w' w'.heap.size P p x0.opt ∧ Arg w' w'.heap.size P' p' x0.dat ∧ Below V.heap.size V w') := Lib.hid (fun V hV => by
              have := c13glue P1 p1 l1 w1.heap.size V (HL.out.below hV) hV.size (by rw [← HN.out]; exact z1) (by rw [← HN.out]; omega) hdd hoo
              rw [hgl.1, hgl.2, ← HN.out] at this
              exact this)
            clear hdd hoo hgl
            have HSM : Hid (same4 x0 x0 = true) := Lib.hid (same4_iff.2 rfl)
            rename World => V0
            have hz0 := hbel.size
            go_upto_region 13 with (first
              | (go_at_call 15; refine (K1.out V0 hbel).mono ?_; rintro e w2 ⟨P2, p2, P2', p2', rfl, a2, a2', y2⟩)
              | ((with_reducible show wpList _ _ _ (Oper.mk _ (Op.store 24 _ _) _ _ _ _ :: _) _ _); refine v4_store_new (cs := v4a x0 P2 p2 P2' p2') rfl rfl rfl rfl (v4a_one _ _ _ _ _) ?_))
            have hX2 : Below w2.heap.size w2 (w2.alloc (.cells (v4a x0 P2 p2 P2' p2') 24)) := (Below.refl w2.heap.size w2).alloc (Nat.le_refl _) _
            have hB2 : Below w1.heap.size w1 (w2.alloc (.cells (v4a x0 P2 p2 P2' p2') 24)) := (hbel.trans (y2.mono hz0)).trans (hX2.mono (Nat.le_trans hz0 y2.size))
            have hat2 := At4.new (q := x0) (A := P2) (c := p2) (A' := P2') (c' := p2') w2
            have hz2 : w2.heap.size < (w2.alloc (.cells (v4a x0 P2 p2 P2' p2') 24)).heap.size := by simp
            have q3 := ((a2.below hX2).more (Nat.le_of_lt hz2)).rd
            have q4 := ((a2'.below hX2).more (Nat.le_of_lt hz2)).rd
            obtain ⟨a3, a3', hat3⟩ := hAD.out _ hB2
            have q1 := a3.rd
            have q2 := a3'.rd
            obtain ⟨g2, hg2⟩ : ∃ g, g = w2.heap.size := ⟨_, rfl⟩
            rw [← hg2] at hat2 ⊢
            clear hX2 a2 a2' y2 hz2 hg2 a3 a3'
            generalize w2.alloc (.cells (v4a x0 P2 p2 P2' p2') 24) = X2 at *
            have hB3 := hB1.trans (hB2.mono hB1.size)
            go_wp2_with (first
              | ((with_reducible show wpList _ _ _ (Oper.mk _ (Op.load 24 _) _ _ _ _ :: _) _ _); refine wpList_valw (by rfl) (run_load_v4 rfl rfl hat3 rfl) ?_)
              | ((with_reducible show wpList _ _ _ (Oper.mk _ (Op.load 24 _) _ _ _ _ :: _) _ _); refine wpList_valw (by rfl) (run_load_v4 rfl rfl hat2 rfl) ?_)
              | (go_at_call 20; refine (c4same (q := x0) (r := x0) (A := A0) (c := c0) (A' := A0') (c' := c0') (X := P2) (d := p2) (X' := P2') (d' := p2') (B := X2.heap.size) (w := X2) (Nat.le_refl _) q1 q2 q3 q4).mono ?_; rintro e w9 ⟨rfl, y9⟩; rw [HSM.out])
              | (go_at_call 8; refine (awake13_any _).mono ?_; rintro e w10 ⟨rfl, b10⟩))
            go_ret
            have hB9 := hB3.trans (y9.mono hB3.size)
            exact ⟨rfl, hB9.trans (b10.mono hB9.size)⟩
      · have dE : (cutE x0 a1 != 0) = true := by simpa using hE
        have HLE := Lib.hid (show cutL x0 a1 = [] by rw [cutL, if_neg hE])
        obtain ⟨ce, hce⟩ : ∃ z, z = cutE x0 a1 := ⟨_, rfl⟩
        rw [← hce] at dE
        have HCE := Lib.hid hce
        clear hE hce
        go_upto_region 5 with (first
          | ((with_reducible show wpList _ _ _ (Oper.mk _ (Op.load 24 _) _ _ _ _ :: _) _ _); refine wpList_val rfl (run_load_v4 rfl rfl hAt rfl) ?_)
          | (go_at_call 9; refine (c13cut x0 A0 c0 A0' c0' a1 w.heap.size W (h0.below hB) (h0'.below hB) hB.size ho hd).mono ?_; rintro e w1 ⟨v1, l1, rfl, r1, e1, y1⟩; obtain ⟨P1, p1, rfl, q1, z1⟩ := r1.l4; rw [← HCE.out]))
        have hB1 := hB.trans (y1.mono hB.size)
        have hl : l1.length = 0 := by rw [← List.length_map (f := fun x : X4 => x.q), e1, HLE.out]; rfl
        rw [hl]
        go_wp2_with (go_at_call 8; refine (awake13_any _).mono ?_; rintro e w10 ⟨rfl, b10⟩)
        go_ret
        exact ⟨rfl, hB1.trans (b10.mono hB1.size)⟩

/-! ### The row's step -/
set_option maxRecDepth 100000 in
theorem lifted (os : Os) (started : os.Started) (H : Type) (enc : TypeId × Value → H) :
    ReturnsInHanded {} Try.checked os 5 .any (Rows.cut4BackSpec.pre6 enc Try.prog Try.f5 Rows.cut4BackRow.domain false) (Rows.cut4BackSpec.post enc Try.prog Try.f5 false true false false) := by
  refine returnsInHanded_of_change (C := Try.checked) own started (by kernel_rfl) Try.func5
    (ChangeSpec.witness6 (enc := enc) (C := Try.checked) false ⟨#[], #[.agg #[.int .i64 0, .int .i64 0, .int .i64 0, .int .i64 0, .int .i64 0, .int .i64 0, .int .i64 0, .bool false, .bool false, .slice none 0 0, .slice none 0 0], .int .i64 0], []⟩ 8 (by kernel_rfl) (by kernel_rfl) (by kernel_rfl) (by kernel_rfl)) ?_
  intro W base args ds gs before hval0 hW hcnd _
  have hval : ∀ (j : Nat) t v, Try.f5.params[j]? = some t → args[j]? = some v → Value.okWide Try.prog W .any base t v := hval0
  have hW' := hW
  obtain ⟨p, q, hA0, hV, rfl, hfz, hnd⟩ := hW
  have hA : DataW.TrodAll enc Try.prog W 0 (fun _ => true) true Try.f5.params.toList args.toList ds p := hA0
  rw [Try.params5] at hA hval
  obtain ⟨v0, vs0, d0, ds0, p0, q0, hargs, rfl, rfl, t0, r0⟩ := trodAll_cons hA
  obtain ⟨v1, vs1, d1, ds1, p1, q1, rfl, rfl, rfl, t1, r1⟩ := trodAll_cons r0
  obtain ⟨rfl, rfl, rfl⟩ := trodAll_nil r1
  obtain rfl : args = #[v0, v1] := by cases args; simp_all
  obtain ⟨rfl, rfl⟩ := trodVars_none hV
  have k0 := t0
  have lt0 := Trod_lt t0
  have k1 := t1
  have lt1 := Trod_lt t1
  obtain ⟨x0, A0, c0, A0', c0', rfl, h0, h0', m0, m0', w0⟩ := get_v4 (hval 0 24 v0 rfl rfl) t0
  obtain ⟨a1, rfl, w1⟩ := get_int Try.underlying3 (hval 1 3 v1 rfl rfl) t1
  clear hA0 hval0
  refine (walk x0 A0 c0 A0' c0' a1 W h0 h0' m0 m0' w0 w1).mono fun e W' ⟨he, bel⟩ => ?_
  subst he
  exact ⟨_, rfl, _, _, _, [], _, [], hW', trodAll_mk1 (shut_bool Try.underlying4 _), (trodAll_cons_mk (Below.trod laidOut (by kernel_rfl) (of_decide_eq_true (by kernel_rfl)) k0 bel lt0) (trodAll_cons_mk (Below.trod laidOut (by kernel_rfl) (of_decide_eq_true (by kernel_rfl)) k1 bel lt1) trodAll_mk0)), rfl, bel.frame _, fun h => by cases h⟩

theorem over : Rows.cut4BackRow.holds Try.pinned (OpenSpec.ofChange Rows.cut4BackSpec) :=
  OpenClaim.holds_of_wide 5 Try.f5 rfl rfl rfl rfl rfl rfl rfl ⟨rfl, rfl, rfl, rfl, rfl⟩ rfl rfl rfl rfl rfl (by kernel_rfl) Try.func5 (by kernel_rfl)
    (of_decide_eq_true (by kernel_rfl)) (by unfold Func.isWrapper; first | (rw [if_pos (by decide +kernel)]; kernel_rfl) | (rw [if_neg (by decide +kernel)]; exact ⟨rfl, rfl⟩))
    (fun os started H enc _ => lifted os started H enc)

theorem proved : Rows.Cut4BackSaid := over
end Go.Proofs.Ytcebobcakiljhaa.cut4Back
