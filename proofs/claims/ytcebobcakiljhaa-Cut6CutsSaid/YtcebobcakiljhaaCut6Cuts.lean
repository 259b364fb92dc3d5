/-
  For all packets of IPv6, identifiers and sizes, goosepondlaw14.Cut6Cuts answers true: any packet's fragments, for any size, and what any packet has of a fragment, are what the document says, or refused.
  Conditions: none but the statement's own.
-/
import Derived.Test.YtcebobcakiljhaaRows
import Derived.WalkKit
import Derived.ProofKit
import Derived.OpenShut
import Derived.ChangeOld
import Derived.Below
import Derived.Test.YtcebobcakiljhaaNa1
import Derived.Test.YtcebobcakiljhaaNc2
namespace Go.Proofs.Ytcebobcakiljhaa.cut6Cuts
open Go.ChangeShapes Go.WideShapes Go.ChangeAt Go.RowKit
set_option linter.unusedVariables false
attribute [local go_sem] Oper.semAt_some

theorem own : ownKnob Try.prog.godebug = none := by kernel_rfl
theorem laidOut : laidOutB Try.prog = true := by kernel_rfl

/-! ### The walk -/
set_option maxRecDepth 100000 in
set_option maxHeartbeats 4000000 in
theorem walk (x0 : P6) (A0 : Option Addr) (c0 : Nat) (a1 : Int) (a2 : Int) (w : World) (h0 : Arg w w.heap.size A0 c0 x0.dat) (m0 : c0 ≤ maxLen) (w0 : x0.fits) (s0 : x0.src.length = 16) (e0 : x0.dst.length = 16) (w1 : (Lit.int .i64 a1).wf = true) (w2 : (Lit.int .i64 a2).wf = true) :
    Calls Try.prog 6 #[v6v x0 A0 c0, .int .i64 a1, .int .i64 a2] w fun e w' => e = .returned (.bool true) ∧ Below w.heap.size w w' := by
  have h6 : ok6 x0 := ⟨s0, e0⟩
  have hB : Below w.heap.size w (w.alloc (.cells (v6a x0 A0 c0) 45)) := (Below.refl w.heap.size w).alloc (Nat.le_refl _) _
  have hrow := World.alloc_heap_new w (.cells (v6a x0 A0 c0) 45)
  rw [v6v_eq]
  go_enter Try.func6, Try.ntmps6
  go_upto_region 1 with fail
  obtain ⟨g, hg⟩ : ∃ g, g = w.heap.size := ⟨_, rfl⟩
  rw [← hg] at hrow ⊢
  generalize w.alloc (.cells (v6a x0 A0 c0) 45) = W at *
  have hgW := heap_lt hrow
  clear hg
  have kd := (at6_of hrow).dat s0 e0
  by_cases h1 : 6000 < x0.dat.length
  · have d1 : decide (6000 < (x0.dat.length : Int)) = true := by simp; omega
    go_wp2_with (go_at_call 21; refine (awake14_any _).mono ?_; rintro e w10 ⟨rfl, b10⟩)
    go_ret
    exact ⟨rfl, hB.trans (b10.mono hB.size)⟩
  · have d1 : decide (6000 < (x0.dat.length : Int)) = false := by simp; omega
    have hd : x0.dat.length ≤ 1000000 := by omega
    have HDX : Hid (x0.dat.length ≤ 6000) := Lib.hid (by omega)
    obtain ⟨E, hE⟩ : ∃ E, E = cutE6 x0 a1 a2 := ⟨_, rfl⟩
    have HE := Lib.hid hE
    clear h1 hE
    go_upto_region 5 with (first
      | ((with_reducible show wpList _ _ _ (Oper.mk _ (Op.load 45 _) _ _ _ _ :: _) _ _); refine wpList_val rfl (run_load_v6 rfl rfl (at6_of hrow1) (v6l_len s0 e0)) ?_)
      | ((with_reducible show wpList _ _ _ (Oper.mk _ (Op.load 45 _) _ _ _ _ :: _) _ _); refine wpList_val rfl (run_load_v6 rfl rfl (at6_of hrow) (v6l_len s0 e0)) ?_)
      | (go_at_call 22; refine (c14cut x0 A0 c0 a1 a2 w.heap.size W h6 (h0.below hB) hB.size hd).mono ?_; rintro e w1 ⟨v1, l1, rfl, r1, q1, y1⟩; rw [← HE.out]; obtain ⟨P1, p1, rfl, t1, z1⟩ := r1.l6; have hrow1 := (y1.block g hgW).trans hrow; have hB1 := hB.trans (y1.mono hB.size))
      | (go_at_call 23; refine (r14cut x0 A0 c0 a1 a2 w.heap.size w1 h6 (h0.below hB1) hB1.size hd).mono ?_; rintro e w2 ⟨v2, l2, rfl, r2, q2, y2⟩; rw [← HE.out]; obtain ⟨P2, p2, rfl, t2, z2⟩ := r2.l6))
    have hB2 := hB1.trans (y2.mono hB1.size)
    have hrow2 := (y2.block g (heap_lt hrow1)).trans hrow1
    have t12 := (t1.below y2).more y2.size
    have hm : l1.map (·.q) = l2.map (·.q) := q1.trans q2.symm
    have hll : l2.length = l1.length := by have := congrArg List.length hm; rw [List.length_map, List.length_map] at this; exact this.symm
    have hl1 : l1.length ≤ 1000000 := by
      have h1 : l1.length = (cutL6 x0 a1 a2).length := by rw [← q1, List.length_map]
      rw [h1, cutL6]
      split
      · split
        · simp
        · have := rst6_len x0 a1 a2 0; have := HDX.out; omega
      · simp
    rw [hll] at z2 ⊢
    obtain ⟨n, hn⟩ : ∃ n, n = l1.length := ⟨_, rfl⟩
    have HN := Lib.hid hn
    have HN2 : Hid (n = l2.length) := Lib.hid (hn.trans hll.symm)
    have HM := Lib.hid hm
    have HL1 := Lib.hid t12
    have HL2 := Lib.hid t2
    rw [← hn] at z1 z2 hl1 ⊢
    have hgw2 := heap_lt hrow2
    clear hn hll hm t12 t2 t1 r1 r2 q1 q2 y1 y2 hrow hrow1 hB hB1 kd d1 hgW
    go_wp2
    go_loopw [49] (fun i wr => ∃ k : Nat, k ≤ n ∧ i = .int .i64 (k : Int) ∧ Below w2.heap.size w2 wr)
      (fun i _ => n - (intOf i).toNat)
    case atStart => exact ⟨0, Nat.zero_le _, rfl, Below.refl _ _⟩
    case round =>
      obtain ⟨k, hk, rfl, hbel⟩ := hrel
      by_cases hlt : k < n
      · obtain ⟨x, hx⟩ : ∃ x, l1[k]? = some x := ⟨_, List.getElem?_eq_getElem (by rw [← HN.out]; exact hlt)⟩
        obtain ⟨y, hy⟩ : ∃ y, l2[k]? = some y := ⟨_, List.getElem?_eq_getElem (by rw [← HN2.out]; exact hlt)⟩
        have hxm := List.mem_of_getElem? hx
        have hym := List.mem_of_getElem? hy
        have hxy : x.q = y.q := by
          have h1 : (l1.map (·.q))[k]? = some x.q := by rw [List.getElem?_map, hx]; rfl
          rw [HM.out, List.getElem?_map, hy] at h1
          simpa using h1.symm
        have HSM : Hid (same6 x.q y.q = true) := Lib.hid (same6_iff.2 hxy)
        obtain ⟨b1, o1, f1, hb1', hr1'⟩ := HL1.out.rd (by rw [← HN.out]; omega)
        obtain ⟨b2, o2, f2, hb2', hr2'⟩ := HL2.out.rd (by rw [← HN2.out]; omega)
        obtain rfl := f1
        obtain rfl := f2
        have hr1 := range_below (hr1' k x hx) hb1' hbel
        have hr2 := range_below (hr2' k y hy) hb2' hbel
        have hzr := hbel.size
        have hb1 : b1 < wr.heap.size := by omega
        have hb2 : b2 < wr.heap.size := by omega
        have HX : Hid (∀ V, Below wr.heap.size wr V → Rd V wr.heap.size x.A x.q.dat) := Lib.hid fun V hV => ((HL1.out.arg x hxm).below (hbel.trans (hV.mono hzr))).rd.more hzr
        have HY : Hid (∀ V, Below wr.heap.size wr V → Rd V wr.heap.size y.A y.q.dat) := Lib.hid fun V hV => ((HL2.out.arg y hym).below (hbel.trans (hV.mono hzr))).rd.more hzr
        clear hr1' hr2' hx hy hxm hym hxy
        go_upto_region 10 with fail
        refine wp_region_held_drew (S := fun w' => Below wr.heap.size wr w') (by kernel_rfl) (Below.refl _ wr).drew (fun hS => ?_)
        refine held_pure (i := 0) (oi := ⟨some 52, _, _, _, _, _⟩) rfl (by kernel_rfl) (by kernel_rfl) (by kernel_rfl) (fun _ _ _ h => h) (by rfl) (v := ?_) (fun w hSw => ?_) hS (fun hS => ?_)
        rotate_left
        · go_simp; try with_reducible rfl
        try go_frame
        refine held_pure (i := 1) (oi := ⟨some 53, _, _, _, _, _⟩) rfl (by kernel_rfl) (by kernel_rfl) (by kernel_rfl) (fun _ _ _ h => h) (by rfl) (v := ?_) (fun w hSw => ?_) hS (fun hS => ?_)
        rotate_left
        · go_simp; try with_reducible rfl
        try go_frame
        refine held_pure (i := 2) (oi := ⟨some 54, _, _, _, _, _⟩) rfl (by kernel_rfl) (by kernel_rfl) (by kernel_rfl) (fun _ _ _ h => h) (by rfl) (v := Value.pointer (some ⟨b1, o1 + k * 37, none⟩)) (fun w hSw => by go_simp) hS (fun hS => ?_)
        try go_frame
        refine held_pure (i := 3) (oi := ⟨some 55, _, _, _, _, _⟩) rfl (by kernel_rfl) (by kernel_rfl) (by kernel_rfl) (fun _ _ _ h => h) (by rfl) (fun w hSw => run_load_v6o rfl rfl (range_below hr1 hb1 hSw) (cl6_len x.h6)) hS (fun hS => ?_)
        try go_frame
        refine held_pure (i := 4) (oi := ⟨some 56, _, _, _, _, _⟩) rfl (by kernel_rfl) (by kernel_rfl) (by kernel_rfl) (fun _ _ _ h => h) (by rfl) (v := ?_) (fun w hSw => ?_) hS (fun hS => ?_)
        rotate_left
        · go_simp; try with_reducible rfl
        try go_frame
        refine held_pure (i := 5) (oi := ⟨some 57, _, _, _, _, _⟩) rfl (by kernel_rfl) (by kernel_rfl) (by kernel_rfl) (fun _ _ _ h => h) (by rfl) (v := ?_) (fun w hSw => ?_) hS (fun hS => ?_)
        rotate_left
        · go_simp; try with_reducible rfl
        try go_frame
        refine held_pure (i := 6) (oi := ⟨some 58, _, _, _, _, _⟩) rfl (by kernel_rfl) (by kernel_rfl) (by kernel_rfl) (fun _ _ _ h => h) (by rfl) (v := Value.pointer (some ⟨b2, o2 + k * 37, none⟩)) (fun w hSw => by go_simp) hS (fun hS => ?_)
        try go_frame
        refine held_pure (i := 7) (oi := ⟨some 59, _, _, _, _, _⟩) rfl (by kernel_rfl) (by kernel_rfl) (by kernel_rfl) (fun _ _ _ h => h) (by rfl) (fun w hSw => run_load_v6o rfl rfl (range_below hr2 hb2 hSw) (cl6_len y.h6)) hS (fun hS => ?_)
        try go_frame
        refine wpAnyH_ready (rs := [8]) (by kernel_rfl) (by simp) (AllReadyH.cons (o := ⟨some 60, _, _, _, _, _⟩) rfl (fun K hK => ?_) AllReadyH.nil)
        rw [if_pos (by rfl)]
        go_simp
        refine (r6same x.q y.q x.A x.c y.A y.c wr.heap.size _ x.h6.1 x.h6.2 y.h6.1 y.h6.2 hS.size (HX.out _ hS) (HY.out _ hS)).mono ?_
        rintro e w8 ⟨rfl, x8⟩
        rw [HSM.out]
        show K _ _
        refine hK.out _ _ (below_step hS x8) (fun hS => ?_)
        clear hK K
        try go_frame
        refine held_pure (i := 9) (oi := ⟨some 61, _, _, _, _, _⟩) rfl (by kernel_rfl) (by kernel_rfl) (by kernel_rfl) (fun _ _ _ h => h) (by rfl) (v := .bool false) (fun w hSw => by go_simp) hS (fun hS => ?_)
        try go_frame
        refine wpAnyH_done (by kernel_rfl) ?_ _
        go_wp2_with fail
        go_roundw
        case rel => exact ⟨k + 1, by omega, by simp, hbel.trans (hS.mono hbel.size)⟩
        case measure => simp [intOf]; omega
      · obtain rfl : n = k := by omega
        rename World => V0
        have hBV := hB2.trans (hbel.mono hB2.size)
        have hrowV := (hbel.block g hgw2).trans hrow2
        obtain ⟨⟨u1, u2, u3, u4⟩, hu⟩ : ∃ u, u = prtF x0 := ⟨_, rfl⟩
        obtain ⟨D6, hD6⟩ : ∃ D, D = prtB x0 := ⟨_, rfl⟩
        obtain ⟨O, hO⟩ : ∃ O, O = prtO x0 := ⟨_, rfl⟩
        have K1 : Hid (∀ V, Below w.heap.size w V → Calls Try.prog 25 #[v6v x0 A0 c0] V fun e w' => ∃ P p, e = .returned (.tuple #[.agg #[.int .i64 u1, .int .i64 u2, .int .i64 u3, .bool u4], .slice P D6.length p, .bool O]) ∧ Arg w' w'.heap.size P p D6 ∧ Below V.heap.size V w') := Lib.hid (fun V hV => by
          have := c14part x0 A0 c0 w.heap.size V h6 (h0.below hV) hV.size hd
          rw [← hu, ← hD6, ← hO] at this
          exact this)
        have K2 : Hid (∀ V, Below w.heap.size w V → Calls Try.prog 26 #[v6v x0 A0 c0] V fun e w' => ∃ P p, e = .returned (.tuple #[.agg #[.int .i64 u1, .int .i64 u2, .int .i64 u3, .bool u4], .slice P D6.length p, .bool O]) ∧ Arg w' w'.heap.size P p D6 ∧ Below V.heap.size V w') := Lib.hid (fun V hV => by
          have := r14part x0 A0 c0 w.heap.size V h6 (h0.below hV) hV.size hd
          rw [← hu, ← hD6, ← hO] at this
          exact this)
        clear hu hD6 hO HL1 HL2 HM hbel hrow2 hB2
        go_upto_region 14 with (first
          | ((with_reducible show wpList _ _ _ (Oper.mk _ (Op.load 45 _) _ _ _ _ :: _) _ _); refine wpList_val rfl (run_load_v6 rfl rfl (at6_of hrowV) (v6l_len s0 e0)) ?_)
          | (go_at_call 25; refine (K1.out V0 hBV).mono ?_; rintro e w21 ⟨P21, p21, rfl, a21, x21⟩)
          | ((with_reducible show wpList _ _ _ (Oper.mk _ (Op.store 51 _ _) _ _ _ _ :: _) _ _); refine fr_store_new (cs := #[.int .i64 u1, .int .i64 u2, .int .i64 u3, .bool u4]) rfl rfl rfl rfl (fra_one ⟨u1, u2, u3, u4⟩) ?_))
        have hX1 : Below w21.heap.size w21 (w21.alloc (.cells #[.int .i64 u1, .int .i64 u2, .int .i64 u3, .bool u4] 51)) := (Below.refl _ _).alloc (Nat.le_refl _) _
        have hB1 := (hBV.trans (x21.mono hBV.size)).trans (hX1.mono (Nat.le_trans hBV.size x21.size))
        have hrow1 := (hX1.block g (Nat.lt_of_lt_of_le (heap_lt hrowV) x21.size)).trans ((x21.block g (heap_lt hrowV)).trans hrowV)
        have hf1 := World.alloc_heap_new w21 (.cells #[.int .i64 u1, .int .i64 u2, .int .i64 u3, .bool u4] 51)
        have e1 := (a21.below hX1).more hX1.size
        obtain ⟨g1, hg1⟩ : ∃ g, g = w21.heap.size := ⟨_, rfl⟩
        rw [← hg1] at hf1 ⊢
        clear hX1 a21 x21 hg1 hrowV hBV
        generalize w21.alloc (.cells #[.int .i64 u1, .int .i64 u2, .int .i64 u3, .bool u4] 51) = X1 at *
        go_upto_region 15 with (first
          | ((with_reducible show wpList _ _ _ (Oper.mk _ (Op.load 45 _) _ _ _ _ :: _) _ _); refine wpList_val rfl (run_load_v6 rfl rfl (at6_of hrow1) (v6l_len s0 e0)) ?_)
          | (go_at_call 26; refine (K2.out X1 hB1).mono ?_; rintro e w22 ⟨P22, p22, rfl, a22, x22⟩)
          | ((with_reducible show wpList _ _ _ (Oper.mk _ (Op.store 51 _ _) _ _ _ _ :: _) _ _); refine fr_store_new (cs := #[.int .i64 u1, .int .i64 u2, .int .i64 u3, .bool u4]) rfl rfl rfl rfl (fra_one ⟨u1, u2, u3, u4⟩) ?_))
        have hX2 : Below w22.heap.size w22 (w22.alloc (.cells #[.int .i64 u1, .int .i64 u2, .int .i64 u3, .bool u4] 51)) := (Below.refl _ _).alloc (Nat.le_refl _) _
        have hB2 := (hB1.trans (x22.mono hB1.size)).trans (hX2.mono (Nat.le_trans hB1.size x22.size))
        have hf2 : AtF (w22.alloc (.cells #[.int .i64 u1, .int .i64 u2, .int .i64 u3, .bool u4] 51)) w22.heap.size ⟨u1, u2, u3, u4⟩ := atF_of (World.alloc_heap_new w22 (.cells #[.int .i64 u1, .int .i64 u2, .int .i64 u3, .bool u4] 51))
        have hf1 : AtF (w22.alloc (.cells #[.int .i64 u1, .int .i64 u2, .int .i64 u3, .bool u4] 51)) g1 ⟨u1, u2, u3, u4⟩ := ((show AtF X1 g1 ⟨u1, u2, u3, u4⟩ from atF_of hf1).below x22 (heap_lt hf1)).below hX2 (Nat.lt_of_lt_of_le (heap_lt hf1) x22.size)
        have e2 := (a22.below hX2).more hX2.size
        have e1 := ((e1.below x22).more x22.size).below hX2
        have e1 := e1.more hX2.size
        obtain ⟨g2, hg2⟩ : ∃ g, g = w22.heap.size := ⟨_, rfl⟩
        rw [← hg2] at hf2 ⊢
        clear hX2 a22 x22 hg2 hrow1 hB1
        generalize w22.alloc (.cells #[.int .i64 u1, .int .i64 u2, .int .i64 u3, .bool u4] 51) = X2 at *
        have c0 := hf1.next; have c1' := hf1.off; have c2 := hf1.id; have c3 := hf1.more
        have d0 := hf2.next; have d1 := hf2.off; have d2 := hf2.id; have d3 := hf2.more
        clear hf1 hf2
        go_wp2_with (first
          | (go_at_call 12; refine (equal_any P21 P22 D6 D6 p21 p22 X2.heap.size X2.heap.size X2 e1.rd e2.rd).mono ?_; rintro e w6 ⟨rfl, rfl⟩; rw [decide_eq_true (rfl : D6 = D6)])
          | (go_at_call 21; refine (awake14_any _).mono ?_; rintro e w10 ⟨rfl, b10⟩))
        go_ret
        exact ⟨rfl, hB2.trans (b10.mono hB2.size)⟩

/-! ### The row's step -/
set_option maxRecDepth 100000 in
theorem lifted (os : Os) (started : os.Started) (H : Type) (enc : TypeId × Value → H) :
    ReturnsInHanded {} Try.checked os 6 .any (Rows.cut6CutsSpec.pre6 enc Try.prog Try.f6 Rows.cut6CutsRow.domain false) (Rows.cut6CutsSpec.post enc Try.prog Try.f6 false true false false) := by
  refine returnsInHanded_of_change (C := Try.checked) own started (by kernel_rfl) Try.func6
    (ChangeSpec.witness6 (enc := enc) (C := Try.checked) false ⟨#[], #[.agg #[.int .i64 0, .int .i64 0, .int .i64 0, .int .i64 0, .int .u8 0, .int .u8 0, .int .u8 0, .int .u8 0, .int .u8 0, .int .u8 0, .int .u8 0, .int .u8 0, .int .u8 0, .int .u8 0, .int .u8 0, .int .u8 0, .int .u8 0, .int .u8 0, .int .u8 0, .int .u8 0, .int .u8 0, .int .u8 0, .int .u8 0, .int .u8 0, .int .u8 0, .int .u8 0, .int .u8 0, .int .u8 0, .int .u8 0, .int .u8 0, .int .u8 0, .int .u8 0, .int .u8 0, .int .u8 0, .int .u8 0, .int .u8 0, .slice none 0 0], .int .i64 0, .int .i64 0], []⟩ 8 (by kernel_rfl) (by kernel_rfl) (by kernel_rfl) (by kernel_rfl)) ?_
  intro W base args ds gs before hval0 hW hcnd _
  have hval : ∀ (j : Nat) t v, Try.f6.params[j]? = some t → args[j]? = some v → Value.okWide Try.prog W .any base t v := hval0
  have hW' := hW
  obtain ⟨p, q, hA0, hV, rfl, hfz, hnd⟩ := hW
  have hA : DataW.TrodAll enc Try.prog W 0 (fun _ => true) true Try.f6.params.toList args.toList ds p := hA0
  rw [Try.params6] at hA hval
  obtain ⟨v0, vs0, d0, ds0, p0, q0, hargs, rfl, rfl, t0, r0⟩ := trodAll_cons hA
  obtain ⟨v1, vs1, d1, ds1, p1, q1, rfl, rfl, rfl, t1, r1⟩ := trodAll_cons r0
  obtain ⟨v2, vs2, d2, ds2, p2, q2, rfl, rfl, rfl, t2, r2⟩ := trodAll_cons r1
  obtain ⟨rfl, rfl, rfl⟩ := trodAll_nil r2
  obtain rfl : args = #[v0, v1, v2] := by cases args; simp_all
  obtain ⟨rfl, rfl⟩ := trodVars_none hV
  have k0 := t0
  have lt0 := Trod_lt t0
  have k1 := t1
  have lt1 := Trod_lt t1
  have k2 := t2
  have lt2 := Trod_lt t2
  obtain ⟨x0, A0, c0, rfl, h0, m0, w0, s0, e0⟩ := get_v6 (hval 0 45 v0 rfl rfl) t0
  obtain ⟨a1, rfl, w1⟩ := get_int Try.underlying3 (hval 1 3 v1 rfl rfl) t1
  obtain ⟨a2, rfl, w2⟩ := get_int Try.underlying3 (hval 2 3 v2 rfl rfl) t2
  clear hA0 hval0
  refine (walk x0 A0 c0 a1 a2 W h0 m0 w0 s0 e0 w1 w2).mono fun e W' ⟨he, bel⟩ => ?_
  subst he
  exact ⟨_, rfl, _, _, _, [], _, [], hW', trodAll_mk1 (shut_bool Try.underlying4 _), (trodAll_cons_mk (Below.trod laidOut (by kernel_rfl) (of_decide_eq_true (by kernel_rfl)) k0 bel lt0) (trodAll_cons_mk (Below.trod laidOut (by kernel_rfl) (of_decide_eq_true (by kernel_rfl)) k1 bel lt1) (trodAll_cons_mk (Below.trod laidOut (by kernel_rfl) (of_decide_eq_true (by kernel_rfl)) k2 bel lt2) trodAll_mk0))), rfl, bel.frame _, fun h => by cases h⟩

theorem over : Rows.cut6CutsRow.holds Try.pinned (OpenSpec.ofChange Rows.cut6CutsSpec) :=
  OpenClaim.holds_of_wide 6 Try.f6 rfl rfl rfl rfl rfl rfl rfl ⟨rfl, rfl, rfl, rfl, rfl⟩ rfl rfl rfl rfl rfl (by kernel_rfl) Try.func6 (by kernel_rfl)
    (of_decide_eq_true (by kernel_rfl)) (by unfold Func.isWrapper; first | (rw [if_pos (by decide +kernel)]; kernel_rfl) | (rw [if_neg (by decide +kernel)]; exact ⟨rfl, rfl⟩))
    (fun os started H enc _ => lifted os started H enc)

theorem proved : Rows.Cut6CutsSaid := over
end Go.Proofs.Ytcebobcakiljhaa.cut6Cuts
