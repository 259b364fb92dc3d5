/-
  For any number and any calls goosepondlaw34.NetLives answers true: what is on its way is put and taken, in any order, as the document says. Conditions: none but the statement's own.
-/
import Derived.Test.YtpoigngpdcmipaaRows
import Derived.WalkKit
import Derived.ProofKit
import Derived.OpenShut
import Derived.ChangeOld
import Derived.Below
import Derived.Test.YtpoigngpdcmipaaNc2
import Derived.Test.YtpoigngpdcmipaaNc9
namespace Go.Proofs.Ytpoigngpdcmipaa.netLives
open Go.ChangeShapes Go.WideShapes Go.ChangeAt Go.RowKit
set_option linter.unusedVariables false
attribute [local go_sem] Oper.semAt_some

theorem own : ownKnob Try.prog.godebug = none := by kernel_rfl
theorem laidOut : laidOutB Try.prog = true := by kernel_rfl

/-! ### The walk -/
set_option maxRecDepth 100000 in
set_option maxHeartbeats 4000000 in
theorem walk (a0 : Int) (A1 : Option Addr) (c1 : Nat) (l1 : List Dn) (w : World) (w0 : (Lit.int .i64 a0).wf = true) (h1 : RdS clDn 5 w w.heap.size A1 l1) (e1 : ∀ y ∈ l1, dnFit w y) (n1 : l1.length ≤ c1) (m1 : c1 ≤ maxLen) :
    Calls Try.prog 3 #[.int .i64 a0, .slice A1 l1.length c1] w fun e w' => e = .returned (.bool true) ∧ Below w.heap.size w w' := by
  obtain ⟨V, hV⟩ : ∃ V, V = w.alloc (.cells #[.bool false] 4) := ⟨_, rfl⟩
  have hb0 : Below w.heap.size w V := by rw [hV]; exact (Below.refl w.heap.size w).alloc (Nat.le_refl _) _
  have hx0 : Boxed V w.heap.size 4 (.bool false) := by rw [hV]; exact Boxed.new w 4 (.bool false)
  have HV := Lib.hid hV
  have HB0 := Lib.hid hb0
  have HX0 := Lib.hid hx0
  have H1 := Lib.hid h1
  have HE1 := Lib.hid e1
  obtain ⟨n, hn⟩ : ∃ n, n = l1.length := ⟨_, rfl⟩
  have HN := Lib.hid hn
  rw [← hn]
  clear hV hb0 hx0 h1 e1 hn n1 m1 w0
  refine (callsIn_wide (n := 4)).1 ?_
  refine callsIn_of_wp_marks Try.func3 rfl trivial ?_ rfl
  simp only [Try.ntmps3, List.size_toArray, List.length_cons, List.length_nil, Nat.reduceAdd, Nat.reduceSub, Array.replicate_succ, Array.replicate_zero, List.push_toArray, List.append_toArray, List.nil_append, List.cons_append]
  gi_upto_region 1 with fail
  rw [← HV.out]
  gi_upto_region 3 with (refine ⟨trivial, ?_⟩; gi_at_call 6; refine (callsIn_wide.2 (awake34 _)).mono ?_; rintro e w1 ⟨rfl, x1⟩)
  have hx1 := Boxed.below HX0.out x1 (Boxed.lt HX0.out)
  have b1 := HB0.out.trans (x1.mono HB0.out.size)
  have HB1 := Lib.hid b1
  have HX1 := Lib.hid hx1
  clear x1 hx1 b1 HV HB0 HX0
  by_cases hbad : a0 < 0 ∨ 4096 < a0
  · refine wpIn_wide.2 ?_
    go_wp2_with (go_at_call 7; refine (ntnew_bad a0 hbad w1).mono ?_; rintro e v2 ⟨rfl, rfl⟩)
    gi_upto_region 4 with fail
    refine wpIn_wide.2 ?_
    go_wp2_with (go_at_call 8; refine (nrnew_bad a0 hbad w1).mono ?_; rintro e v3 ⟨rfl, rfl⟩)
    have bX : Below w1.heap.size w1 (w1.alloc (.cells #[.pointer none] 28)) := (Below.refl _ w1).alloc (Nat.le_refl _) _
    have HB0 : Hid (BxL w w1.heap.size (.pointer none) (w1.alloc (.cells #[.pointer none] 28))) := Lib.hid ⟨Boxed.below HX1.out bX (Boxed.lt HX1.out), Boxed.new w1 _ _, HB1.out.trans (bX.mono HB1.out.size), Boxed.lt HX1.out⟩
    clear bX HX1 HB1
    gi_upto_region 7 with fail
    generalize w1.alloc (.cells #[.pointer none] 28) = X0 at *
    generalize w1.heap.size = b7 at *
    gi_wp2
    gi_loopw [41] (fun i wr => i = .int .i64 0 ∧ Hid (BxL w b7 (.pointer none) wr)) (fun _ _ => 0)
    case atStart => exact ⟨rfl, HB0⟩
    case round =>
      clear HB0
      obtain ⟨rfl, HB⟩ := hrel
      by_cases hlt : 0 < n
      · obtain ⟨x, hx⟩ : ∃ x, l1[0]? = some x := ⟨_, List.getElem?_eq_getElem (by rw [← HN.out]; exact hlt)⟩
        obtain ⟨b1, o1, rfl, hb1, hrow⟩ := row_ofDn H1.out hx
        have hrow2 := range_below hrow hb1 HB.out.bel
        rw [Nat.zero_mul, Nat.add_zero] at hrow2
        have HRW := Lib.hid hrow2
        obtain ⟨W, hW⟩ : ∃ W, W = wr.alloc (.cells (clDn x).toArray 35) := ⟨_, rfl⟩
        have bW : Below wr.heap.size wr W := by rw [hW]; exact (Below.refl _ wr).alloc (Nat.le_refl _) _
        have HW := Lib.hid hW
        have HBW := Lib.hid (HB.out.below bW)
        clear hx hrow hrow2 hW bW HB
        gi_upto_region 9 with fail
        refine wpIn_wide.2 ?_
        go_wp2_with (first
          | ((with_reducible show wpList _ _ _ (Oper.mk _ (Op.load 35 _) _ _ _ _ :: _) _ _); refine wpList_val rfl (run_load_dn rfl rfl HRW.out rfl) ?_)
          | ((with_reducible show wpList _ _ _ (Oper.mk _ (Op.store 35 _ _) _ _ _ _ :: _) _ _); refine dn_store_new (cs := (clDn x).toArray) rfl rfl rfl rfl (clDn_all _) ?_; rw [← HW.out]))
        have kb7 := Boxed.cell HBW.out.ref
        clear HW HRW
        gi_wp2_with (refine ⟨trivial, ?_⟩; gi_at_call 6; refine (callsIn_wide.2 (awake34 _)).mono ?_; rintro e y3 ⟨rfl, x3⟩; have hb3 := HBW.out.below x3; have kr3 := hb3.res; have cr3 := kr3.cell; have fr3 := kr3.frozen)
        exact ⟨_, cell1n rfl rfl (Boxed.set _ kr3), rfl, hb3.bel.setCell (p := ⟨w.heap.size, 0, none⟩) (Nat.le_refl _) _⟩
      · obtain rfl : n = 0 := by omega
        have kb7 := Boxed.cell HB.out.ref
        have HBW := HB
        clear HB
        gi_wp2_with (refine ⟨trivial, ?_⟩; gi_at_call 6; refine (callsIn_wide.2 (awake34 _)).mono ?_; rintro e y3 ⟨rfl, x3⟩; have hb3 := HBW.out.below x3; have kr3 := hb3.res; have cr3 := kr3.cell; have fr3 := kr3.frozen)
        exact ⟨_, cell1n rfl rfl (Boxed.set _ kr3), rfl, hb3.bel.setCell (p := ⟨w.heap.size, 0, none⟩) (Nat.le_refl _) _⟩
  · have hroom : 0 ≤ a0 ∧ a0 ≤ 4096 := by omega
    clear hbad
    refine wpIn_wide.2 ?_
    go_wp2_with (go_at_call 7; refine (ntnew a0 hroom w1).mono ?_; rintro e v2 ⟨rfl, h2, x2⟩)
    have HNC := Lib.hid h2
    have HX2 := Lib.hid x2
    clear h2 x2
    gi_upto_region 4 with fail
    refine wpIn_wide.2 ?_
    go_wp2_with (go_at_call 8; refine (nrnew a0 hroom v2).mono ?_; rintro e v3 ⟨rfl, h3, x3⟩)
    have hz7 := x3.size
    have hlz := HX2.out.size
    have bX : Below v3.heap.size v3 (v3.alloc (.cells #[.pointer (some ⟨v2.heap.size, 0, none⟩)] 28)) := (Below.refl _ v3).alloc (Nat.le_refl _) _
    have q2 : Below w1.heap.size w1 v3 := HX2.out.trans (x3.mono hlz)
    have hN3 := (HNC.out.below x3).below bX
    have HC : Hid (CsN (fun _ => True) (v3.alloc (.cells #[.pointer (some ⟨v2.heap.size, 0, none⟩)] 28)) w1.heap.size a0 []) := Lib.hid ⟨_, _, hN3, rfl, fun _ _ => trivial⟩
    have HR : Hid (RsN (fun _ => True) (v3.alloc (.cells #[.pointer (some ⟨v2.heap.size, 0, none⟩)] 28)) v2.heap.size a0 []) := Lib.hid ⟨_, _, h3.below bX, rfl, fun _ _ => trivial⟩
    have HB : Hid (BxL w v3.heap.size (.pointer (some ⟨v2.heap.size, 0, none⟩)) (v3.alloc (.cells #[.pointer (some ⟨v2.heap.size, 0, none⟩)] 28))) := by
      have c1 := q2.trans (bX.mono q2.size)
      have l1 := Boxed.lt HX1.out
      exact Lib.hid ⟨Boxed.below HX1.out c1 (Boxed.lt HX1.out), Boxed.new v3 _ _, HB1.out.trans (c1.mono HB1.out.size), by have := q2.size; omega⟩
    have hg : w.heap.size < w1.heap.size := Boxed.lt HX1.out
    have hgr : w.heap.size < v2.heap.size := Nat.lt_of_lt_of_le hg hlz
    have hgb7 : v2.heap.size < v3.heap.size := heap_lt h3.ob
    clear bX q2 hN3 x3 h3 HX2 HNC HX1 HB1
    gi_upto_region 7 with fail
    generalize v3.alloc (.cells #[.pointer (some ⟨v2.heap.size, 0, none⟩)] 28) = X0 at *
    clear hz7
    clear hlz
    generalize w1.heap.size = g at *
    generalize v2.heap.size = gr at *
    generalize v3.heap.size = b7 at *
    have HM : Hid (SmI []) := Lib.hid (fun x hx => by cases hx)
    gi_wp2
    gi_loopw [41] (fun i wr => ∃ (k : Nat) (M : List PI34), k ≤ n ∧ i = .int .i64 (k : Int) ∧ Hid (CsN (fun _ => True) wr g a0 M) ∧ Hid (RsN (fun _ => True) wr gr a0 M) ∧ Hid (SmI M) ∧ Hid (BxL w b7 (.pointer (some ⟨gr, 0, none⟩)) wr))
      (fun i _ => n - (intOf i).toNat)
    case atStart => exact ⟨0, [], Nat.zero_le _, rfl, HC, HR, HM, HB⟩
    case round =>
      clear HC HR HM HB
      obtain ⟨k, M, hk, rfl, HC, HR, HM, HB⟩ := hrel
      by_cases hlt : k < n
      · have HML := Lib.hid HC.out.len
        obtain ⟨x, hx⟩ : ∃ x, l1[k]? = some x := ⟨_, List.getElem?_eq_getElem (by rw [← HN.out]; exact hlt)⟩
        have hfit := HE1.out x (List.mem_of_getElem? hx)
        obtain ⟨b1, o1, rfl, hb1, hrow⟩ := row_ofDn H1.out hx
        have HRW := Lib.hid (range_below hrow hb1 HB.out.bel)
        obtain ⟨W, hW⟩ : ∃ W, W = wr.alloc (.cells (clDn x).toArray 35) := ⟨_, rfl⟩
        have bW : Below wr.heap.size wr W := by rw [hW]; exact (Below.refl _ wr).alloc (Nat.le_refl _) _
        have hd : W.heap[wr.heap.size]? = some (.cells (clDn x).toArray 35 (0, 0)) := by rw [hW]; exact World.alloc_heap_new wr _
        have HW := Lib.hid hW
        have HXA : Hid (Arg W w.heap.size x.y.A x.y.c x.y.x.b) := Lib.hid (hfit.2.2.1.below (HB.out.bel.trans (bW.mono HB.out.bel.size)))
        have HD := Lib.hid hd
        have hbd : w.heap.size < wr.heap.size := Boxed.lt HB.out.res
        have hb7d : b7 < wr.heap.size := Boxed.lt HB.out.ref
        have HCW := Lib.hid (HC.out.below bW)
        have HRV := Lib.hid (HR.out.below bW)
        have HBW := Lib.hid (HB.out.below bW)
        clear hx hrow hW bW hd hfit HC HR HB
        gi_upto_region 9 with fail
        refine wpIn_wide.2 ?_
        go_wp2_with (first
          | ((with_reducible show wpList _ _ _ (Oper.mk _ (Op.load 35 _) _ _ _ _ :: _) _ _); refine wpList_val rfl (run_load_dn rfl rfl HRW.out rfl) ?_)
          | ((with_reducible show wpList _ _ _ (Oper.mk _ (Op.store 35 _ _) _ _ _ _ :: _) _ _); refine dn_store_new (cs := (clDn x).toArray) rfl rfl rfl rfl (clDn_all _) ?_; rw [← HW.out]))
        generalize wr.heap.size = bd at *
        have HC := HCW
        have HR := HRV
        have HB := HBW
        clear HCW HRV HBW HW HRW
        have kd0 : W.cell? ⟨bd, 0, none⟩ = some (.bool x.take) := cells_at (i := 0) HD.out rfl
        have kd1 : W.cell? ⟨bd, 1, none⟩ = some (.int .i64 x.at_) := cells_at (i := 1) HD.out rfl
        have kd4 : W.cell? ⟨bd, 4, none⟩ = some (.slice x.y.A x.y.x.b.length x.y.c) := cells_at (i := 4) HD.out rfl
        have kb7 := Boxed.cell HB.out.ref
        by_cases h100 : 100 ≤ k
        · have d100 : decide ((k : Int) ≥ 100) = true := decide_eq_true (by omega)
          have d101 : decide (100 ≤ (k : Int)) = true := d100
          clear kb7
          have kb7 := Boxed.cell HB.out.ref
          obtain ⟨W1, hW1⟩ : ∃ W1, W1 = W.alloc (.cells #[.int .i64 0] 3) := ⟨_, rfl⟩
          have bW1 : Below W.heap.size W W1 := by rw [hW1]; exact (Below.refl _ W).alloc (Nat.le_refl _) _
          have hi1 : Boxed W1 W.heap.size 3 (.int .i64 0) := by rw [hW1]; exact Boxed.new W _ _
          have HW1 := Lib.hid hW1
          have HALL := Lib.hid (cs_all (HC.out.below bW1) HM.out)
          have HR1 := Lib.hid (HR.out.below bW1)
          have HB1 := Lib.hid (HB.out.below bW1)
          have HI1 := Lib.hid hi1
          have hlw : w.heap.size < W.heap.size := Boxed.lt HB.out.res
          have hb7i : b7 < W.heap.size := Boxed.lt HB.out.ref
          clear hW1 bW1 hi1 HC HR HB
          gi_wp2_with (refine ⟨trivial, ?_⟩; rw [← HW1.out]; gi_at_call 17; refine (callsIn_wide.2 HALL.out).mono ?_; rintro e W2 ⟨B, rfl, hseq, x2⟩)
          have HB2 := Lib.hid (HB1.out.below x2)
          have HR2 := Lib.hid (HR1.out.below x2)
          have HI2 := Lib.hid (Boxed.below HI1.out x2 (Boxed.lt HI1.out))
          generalize W.heap.size = bi at *
          have hbi : bi < W2.heap.size := Boxed.lt HI2.out
          clear HW1 HALL HB1 HR1 HI1 x2 kb7
          refine wpIn_actN (fun ac hac => ?_)
          refine range_toldA (by omega) (gf := 24) (lb := #[.pointer (some ⟨B, 0, none⟩)]) (by subst hac; rfl) (enters_of Try.func24 (by kernel_rfl) rfl)
            (hseq (4 - 1) (by omega)) KeepS.trans (fun V l r r' hl hr => KeepS.loop hr) (Below.refl _ _) (fun _ => rfl)
            (fun pre X => BxL w b7 (.pointer (some ⟨gr, 0, none⟩)) X ∧ Boxed X bi 3 (.int .i64 (pre.length : Int)) ∧ RsN (fun _ => True) X gr a0 M)
            (fun _ _ _ => False)
            (fun pre X Y r hs hg hr => ⟨hs.1.grown hg hr (by omega), box_keep hs.2.1 hg hr, hs.2.2.grown hg hr⟩)
            (fun cd pre X Y r hs hg hr => hs)
            ⟨HB2.out, HI2.out, HR2.out⟩
            (fun pre y c X => GY M pre y X ∧ ∃ b16, c = { tmps := (ac.tmps.setIfInBounds 138 (.agg (clI y).toArray)).setIfInBounds 16 (.pointer (some ⟨b16, 0, none⟩)), defers := [] } ∧ X.heap[b16]? = some (.cells (clI y).toArray 33 (0, 0)))
            (fun X Y h => KeepS.of_below h)
            (fun pre x c W l r r' h hlo hl => ⟨GY.turn h.1 hl, by
              obtain ⟨_, b16, e, h2⟩ := h
              exact ⟨b16, e, (World.putObj_heap_other (by intro e; subst e; rw [hl] at h2; cases h2)).trans h2⟩⟩)
            ?assign ?body ?done ?stop
          case assign =>
            intro l pre y X K _ hG hK
            have hz9 := (Below.refl X.heap.size X).alloc (Nat.le_refl _) (.cells (clI y).toArray 33)
            have hKK := hK _ _ hz9 ⟨⟨hG.1, (hG.2.below hz9).more hz9.size⟩, X.heap.size, rfl, World.alloc_heap_new X _⟩
            subst hac
            clear hK
            dsimp only [encY]
            gi_wp2_with (first
              | ((with_reducible show wpListIn _ _ _ _ _ (Oper.mk _ (Op.store 33 _ _) _ _ _ _ :: _) _ _); refine listN_skip rfl (fun c h => by cases h) (run_store_nisN (cs := (clI y).toArray) rfl rfl rfl (World.alloc_heap_new X _) rfl rfl (clI_all _)) ?_; rw [World.setRow_alloc_new]))
            first | exact hKK | simpa using hKK
          case stop =>
            rintro D cd pre X hD _ hf hK
            exact hf.elim
          case body =>
            rintro l pre y cc X ⟨hBX, hiX, hRX⟩ ⟨⟨⟨more, hmore⟩, hAy⟩, b16, rfl, h16⟩
            subst hac
            have hxm : M[pre.length]? = some y.x := by rw [hmore, List.getElem?_append_right (by rw [List.length_map]; exact Nat.le_refl _), List.length_map, Nat.sub_self]; rfl
            obtain ⟨m, hm⟩ : ∃ m, m = pre.length := ⟨_, rfl⟩
            rw [← hm] at hxm hiX
            have HMM := Lib.hid hm
            obtain ⟨b9, o9, c9, A9, p9, hg9, hr9, hb9, ha9⟩ := hRX.item hxm
            have hml : m < M.length := (List.getElem?_eq_some_iff.1 hxm).1
            have hMl : M.length ≤ 4096 := HML.out
            obtain ⟨ml, hmll⟩ : ∃ ml, ml = M.length := ⟨_, rfl⟩
            rw [← hmll] at hg9 hml hMl
            have HBX := Lib.hid hBX
            have HIX := Lib.hid hiX
            have HRX := Lib.hid hRX
            have K16 : Hid (∀ V, Below X.heap.size X V → V.rangeAt b16 0 (clI y)) := Lib.hid fun V hV => range_heap ((hV.block _ (heap_lt h16)).trans h16)
            have KN : Hid (∀ V, Below X.heap.size X V → V.cell? ⟨bi, 0, none⟩ = some (.int .i64 (m : Int))) := Lib.hid fun V hV => Boxed.cell (Boxed.below HIX.out hV (Boxed.lt HIX.out))
            have K7 : Hid (∀ V, Below X.heap.size X V → V.cell? ⟨b7, 0, none⟩ = some (.pointer (some ⟨gr, 0, none⟩))) := Lib.hid fun V hV => Boxed.cell (Boxed.below HBX.out.ref hV (Boxed.lt HBX.out.ref))
            have KL : Hid (∀ V, Below X.heap.size X V → V.cell? ⟨gr, 0, none⟩ = some (.slice (some ⟨b9, o9, none⟩) ml c9)) := Lib.hid fun V hV => cells_at (i := 0) ((hV.block _ (heap_lt hg9)).trans hg9) rfl
            have KI : Hid (∀ V, Below X.heap.size X V → V.rangeAt b9 (o9 + m * 3) (clI ⟨y.x, A9, p9⟩)) := Lib.hid fun V hV => range_below hr9 hb9 hV
            have HSAME : Hid (∀ V, Below X.heap.size X V → Calls Try.prog 11 #[.agg (clI y).toArray, .agg (clI ⟨y.x, A9, p9⟩).toArray] V fun e w' => e = .returned (.bool true) ∧ Below V.heap.size V w') := Lib.hid fun V hV => by
              have q := hV
              exact ntsame y ⟨y.x, A9, p9⟩ rfl ((hAy.below q).more q.size) ((ha9.below q).more q.size)
            have dm : decide ((ml : Int) ≤ (m : Int)) = false := decide_eq_false (by omega)
            have dm' : decide ((m : Int) ≥ (ml : Int)) = false := dm
            have KIS : Hid (∀ V, Below X.heap.size X V → V.frozen? ⟨bi, 0, none⟩ = false) := Lib.hid fun V hV => Boxed.frozen (Boxed.below HIX.out hV (Boxed.lt HIX.out))
            clear hmore hAy hxm hm hg9 hr9 ha9 h16 hBX hiX hRX hmll hseq HB2 HR2 HI2
            gi_upto_region 30 with fail
            refine region_roundA (S := fun V => Below X.heap.size X V) (by kernel_rfl) (by kernel_rfl) (fun h => by obtain ⟨_, _, h⟩ := h; exact h) (Below.refl _ X).drew (fun hS => ?_)
            refine held_pure (i := 0) (oi := ⟨some 139, _, _, _, _, _⟩) rfl (by kernel_rfl) (by kernel_rfl) (by kernel_rfl) (fun _ _ _ h => h) (by rfl) (fun w hSw => run_load_int rfl rfl (KN.out _ hSw)) hS (fun hS => ?_)
            try go_frame
            refine held_pure (i := 1) (oi := ⟨some 140, _, _, _, _, _⟩) rfl (by kernel_rfl) (by kernel_rfl) (by kernel_rfl) (fun _ _ _ h => h) (by rfl) (fun w hSw => run_load_pR rfl rfl (K7.out _ hSw)) hS (fun hS => ?_)
            try go_frame
            refine held_pure (i := 2) (oi := ⟨some 141, _, _, _, _, _⟩) rfl (by kernel_rfl) (by kernel_rfl) (by kernel_rfl) (fun _ _ _ h => h) (by rfl) (v := ?_) (fun w hSw => ?_) hS (fun hS => ?_)
            rotate_left
            · go_simp; try with_reducible rfl
            try go_frame
            refine held_pure (i := 3) (oi := ⟨some 142, _, _, _, _, _⟩) rfl (by kernel_rfl) (by kernel_rfl) (by kernel_rfl) (fun _ _ _ h => h) (by rfl) (v := ?_) (fun w hSw => ?_) hS (fun hS => ?_)
            rotate_left
            · go_simp; try with_reducible rfl
            try go_frame
            refine held_pure (i := 4) (oi := ⟨some 143, _, _, _, _, _⟩) rfl (by kernel_rfl) (by kernel_rfl) (by kernel_rfl) (fun _ _ _ h => h) (by rfl) (fun w hSw => run_load_itR rfl rfl (KL.out _ hSw)) hS (fun hS => ?_)
            try go_frame
            refine held_pure (i := 5) (oi := ⟨some 144, _, _, _, _, _⟩) rfl (by kernel_rfl) (by kernel_rfl) (by kernel_rfl) (fun _ _ _ h => h) (by rfl) (v := ?_) (fun w hSw => ?_) hS (fun hS => ?_)
            rotate_left
            · go_simp; try with_reducible rfl
            try go_frame
            refine held_pure (i := 6) (oi := ⟨some 145, _, _, _, _, _⟩) rfl (by kernel_rfl) (by kernel_rfl) (by kernel_rfl) (fun _ _ _ h => h) (by rfl) (v := .bool false) (fun w hSw => by go_simp; (try rw [dm]); (try rfl)) hS (fun hS => ?_)
            try go_frame
            refine held_pure (i := 7) (oi := ⟨some 146, _, _, _, _, _⟩) rfl (by kernel_rfl) (by kernel_rfl) (by kernel_rfl) (fun _ _ _ h => h) (by rfl) (v := ?_) (fun w hSw => ?_) hS (fun hS => ?_)
            rotate_left
            · go_simp; try with_reducible rfl
            try go_frame
            refine held_pure (i := 8) (oi := ⟨some 147, _, _, _, _, _⟩) rfl (by kernel_rfl) (by kernel_rfl) (by kernel_rfl) (fun _ _ _ h => h) (by rfl) (fun w hSw => run_load_nis rfl rfl (K16.out _ hSw) rfl) hS (fun hS => ?_)
            try go_frame
            refine held_pure (i := 9) (oi := ⟨some 148, _, _, _, _, _⟩) rfl (by kernel_rfl) (by kernel_rfl) (by kernel_rfl) (fun _ _ _ h => h) (by rfl) (fun w hSw => run_load_pR rfl rfl (K7.out _ hSw)) hS (fun hS => ?_)
            try go_frame
            refine held_pure (i := 10) (oi := ⟨some 149, _, _, _, _, _⟩) rfl (by kernel_rfl) (by kernel_rfl) (by kernel_rfl) (fun _ _ _ h => h) (by rfl) (v := ?_) (fun w hSw => ?_) hS (fun hS => ?_)
            rotate_left
            · go_simp; try with_reducible rfl
            try go_frame
            refine held_pure (i := 11) (oi := ⟨some 150, _, _, _, _, _⟩) rfl (by kernel_rfl) (by kernel_rfl) (by kernel_rfl) (fun _ _ _ h => h) (by rfl) (v := ?_) (fun w hSw => ?_) hS (fun hS => ?_)
            rotate_left
            · go_simp; try with_reducible rfl
            try go_frame
            refine held_pure (i := 12) (oi := ⟨some 151, _, _, _, _, _⟩) rfl (by kernel_rfl) (by kernel_rfl) (by kernel_rfl) (fun _ _ _ h => h) (by rfl) (fun w hSw => run_load_itR rfl rfl (KL.out _ hSw)) hS (fun hS => ?_)
            try go_frame
            refine held_pure (i := 13) (oi := ⟨some 152, _, _, _, _, _⟩) rfl (by kernel_rfl) (by kernel_rfl) (by kernel_rfl) (fun _ _ _ h => h) (by rfl) (fun w hSw => run_load_int rfl rfl (KN.out _ hSw)) hS (fun hS => ?_)
            try go_frame
            refine held_pure (i := 14) (oi := ⟨some 153, _, _, _, _, _⟩) rfl (by kernel_rfl) (by kernel_rfl) (by kernel_rfl) (fun _ _ _ h => h) (by rfl) (v := Value.pointer (some ⟨b9, o9 + m * 3, none⟩)) (fun w hSw => by go_simp) hS (fun hS => ?_)
            try go_frame
            refine held_pure (i := 15) (oi := ⟨some 154, _, _, _, _, _⟩) rfl (by kernel_rfl) (by kernel_rfl) (by kernel_rfl) (fun _ _ _ h => h) (by rfl) (fun w hSw => run_load_nirA rfl rfl (KI.out _ hSw) rfl) hS (fun hS => ?_)
            try go_frame
            refine wpAnyH_ready (rs := [16]) (by kernel_rfl) (by simp) (AllReadyH.cons (o := ⟨some 155, _, _, _, _, _⟩) rfl (fun K hK => ?_) AllReadyH.nil)
            rw [if_pos (by rfl)]
            go_simp
            refine (HSAME.out _ hS).mono ?_
            rintro e u16 ⟨rfl, x16⟩
            show K _ _
            refine hK.out _ _ (hS.trans (x16.mono hS.size)) (fun hS => ?_)
            clear hK K
            try go_frame
            refine held_pure (i := 17) (oi := ⟨some 156, _, _, _, _, _⟩) rfl (by kernel_rfl) (by kernel_rfl) (by kernel_rfl) (fun _ _ _ h => h) (by rfl) (v := ?_) (fun w hSw => ?_) hS (fun hS => ?_)
            rotate_left
            · go_simp; try with_reducible rfl
            try go_frame
            refine held_pure (i := 18) (oi := ⟨some 157, _, _, _, _, _⟩) rfl (by kernel_rfl) (by kernel_rfl) (by kernel_rfl) (fun _ _ _ h => h) (by rfl) (v := ?_) (fun w hSw => ?_) hS (fun hS => ?_)
            rotate_left
            · go_simp; try with_reducible rfl
            try go_frame
            refine wpAnyH_done (by kernel_rfl) ?_ _
            have kn := KN.out _ hS
            have fn_ := KIS.out _ hS
            gi_wp2
            have hXu := Boxed.below HIX.out hS (Boxed.lt HIX.out)
            have kS : Kept (fun i => i = bi) u16 (u16.setCell ⟨bi, 0, none⟩ (.int .i64 ((m : Int) + 1))) := Kept.setCell u16 bi 0 _
            refine ⟨keepsFrom_kN ((Kept.of_below hS).trans kS (fun _ _ e => e)) (fun i e => .inl (by subst e; exact ⟨_, _, _, HIX.out⟩)), KeepS.trans (KeepS.of_below hS) (KeepS.set hXu rfl), (HBX.out.below hS).kept kS (fun i e => by subst e; exact ⟨hlw, by omega⟩), ?_, (HRX.out.below hS).setInt hXu⟩
            rw [show ((pre ++ [y]).length : Int) = (m : Int) + 1 from by rw [HMM.out]; simp]
            exact Boxed.set _ hXu
          case done =>
            rintro D xs X hD hxs ⟨hBX, hiX, hRX⟩ hK
            subst hac
            have hlen : xs.length = M.length := by rw [← hxs, List.length_map]
            rw [hlen] at hiX
            obtain ⟨ml, hmll⟩ : ∃ ml, ml = M.length := ⟨_, rfl⟩
            obtain ⟨A9, c9, hg9⟩ := hRX.head
            rw [← hmll] at hg9 hiX
            have hm1 : Marks W2.heap.size X.heap.size [{ target := .collected D, args := #[] }] X := (Marks.push (hi := D) (ds := []) trivial (Nat.le_refl _) hD hK).more (heap_lt hK)
            have HBX := Lib.hid hBX
            have KN : Hid (∀ V, Kept (fun i => i = w.heap.size) X V → V.cell? ⟨bi, 0, none⟩ = some (.int .i64 (ml : Int))) := Lib.hid fun V hV => Boxed.cell ((hV.block bi (heap_lt hiX) (by omega)).trans hiX)
            have K7 : Hid (∀ V, Kept (fun i => i = w.heap.size) X V → V.cell? ⟨b7, 0, none⟩ = some (.pointer (some ⟨gr, 0, none⟩))) := Lib.hid fun V hV => Boxed.cell ((hV.block b7 (heap_lt hBX.ref) (by have := hBX.lt; omega)).trans hBX.ref)
            have KL : Hid (∀ V, Kept (fun i => i = w.heap.size) X V → V.cell? ⟨gr, 0, none⟩ = some (.slice A9 ml c9)) := Lib.hid fun V hV => cells_at (i := 0) ((hV.block gr (heap_lt hg9) (by omega)).trans hg9) rfl
            have hml : ml ≤ 4096 := by rw [hmll]; exact HML.out
            have hS0 : Kept (fun i => i = w.heap.size) X X.drew ∧ ∃ b, Boxed X.drew w.heap.size 4 (.bool b) := ⟨Kept.drew X, false, hBX.res⟩
            clear hRX hBX hg9 hiX hxs hlen hmll hseq HB2 HR2 HI2 hK
            gi_upto_region 33 with fail
            refine wpIn_calmN ?_
            refine wpIn_wide.2 ?_
            refine wp_region_held_drew (S := fun V => Kept (fun i => i = w.heap.size) X V ∧ ∃ b, Boxed V w.heap.size 4 (.bool b)) (by kernel_rfl) hS0 (fun hS => ?_)
            refine held_pure (i := 0) (oi := ⟨some 160, _, _, _, _, _⟩) rfl (by kernel_rfl) (by kernel_rfl) (by kernel_rfl) (fun _ _ _ h => h) (by rfl) (fun w hSw => run_load_int rfl rfl (KN.out _ hSw.1)) hS (fun hS => ?_)
            try go_frame
            refine held_pure (i := 1) (oi := ⟨some 161, _, _, _, _, _⟩) rfl (by kernel_rfl) (by kernel_rfl) (by kernel_rfl) (fun _ _ _ h => h) (by rfl) (fun w hSw => run_load_pR rfl rfl (K7.out _ hSw.1)) hS (fun hS => ?_)
            try go_frame
            refine held_pure (i := 2) (oi := ⟨some 162, _, _, _, _, _⟩) rfl (by kernel_rfl) (by kernel_rfl) (by kernel_rfl) (fun _ _ _ h => h) (by rfl) (v := ?_) (fun w hSw => ?_) hS (fun hS => ?_)
            rotate_left
            · go_simp; try with_reducible rfl
            try go_frame
            refine held_pure (i := 3) (oi := ⟨some 163, _, _, _, _, _⟩) rfl (by kernel_rfl) (by kernel_rfl) (by kernel_rfl) (fun _ _ _ h => h) (by rfl) (v := ?_) (fun w hSw => ?_) hS (fun hS => ?_)
            rotate_left
            · go_simp; try with_reducible rfl
            try go_frame
            refine held_pure (i := 4) (oi := ⟨some 164, _, _, _, _, _⟩) rfl (by kernel_rfl) (by kernel_rfl) (by kernel_rfl) (fun _ _ _ h => h) (by rfl) (fun w hSw => run_load_itR rfl rfl (KL.out _ hSw.1)) hS (fun hS => ?_)
            try go_frame
            refine held_pure (i := 5) (oi := ⟨some 165, _, _, _, _, _⟩) rfl (by kernel_rfl) (by kernel_rfl) (by kernel_rfl) (fun _ _ _ h => h) (by rfl) (v := ?_) (fun w hSw => ?_) hS (fun hS => ?_)
            rotate_left
            · go_simp; try with_reducible rfl
            try go_frame
            refine held_pure (i := 6) (oi := ⟨some 166, _, _, _, _, _⟩) rfl (by kernel_rfl) (by kernel_rfl) (by kernel_rfl) (fun _ _ _ h => h) (by rfl) (v := .bool true) (fun w hSw => by go_simp) hS (fun hS => ?_)
            try go_frame
            refine held_pure (i := 7) (oi := ⟨some 167, _, _, _, _, _⟩) rfl (by kernel_rfl) (by kernel_rfl) (by kernel_rfl) (fun _ _ _ h => h) (by rfl) (v := ?_) (fun w hSw => ?_) hS (fun hS => ?_)
            rotate_left
            · go_simp; try with_reducible rfl
            try go_frame
            refine wpAnyH_ready (rs := [8]) (by kernel_rfl) (by simp) (AllReadyH.cons (o := ⟨some 168, _, _, _, _, _⟩) rfl (fun K hK => ?_) AllReadyH.nil)
            rw [if_pos (by rfl)]
            go_simp
            refine (awake34 _).mono ?_
            rintro e u8 ⟨rfl, x8⟩
            obtain ⟨b8, hb8⟩ := hS.2
            have hb9 := Boxed.below hb8 x8 (Boxed.lt hb8)
            have k9 := Boxed.cell hb9
            have f9 := Boxed.frozen hb9
            show K _ _
            refine hK.out _ _ ⟨hS.1.then_below x8, b8, hb9⟩ (fun hS => ?_)
            clear hK K
            try go_frame
            refine held_pure (i := 9) (oi := ⟨some 169, _, _, _, _, _⟩) rfl (by kernel_rfl) (by kernel_rfl) (by kernel_rfl) (fun _ _ _ h => h) (by rfl) (v := ?_) (fun w hSw => ?_) hS (fun hS => ?_)
            rotate_left
            · go_simp; try with_reducible rfl
            try go_frame
            refine wpAnyH_ready (rs := [10]) (by kernel_rfl) (by simp) (AllReadyH.cons (o := ⟨none, _, _, _, _, _⟩) rfl (fun K hK => ?_) AllReadyH.nil)
            rw [if_pos (by rfl)]
            go_simp
            refine hK.out _ _ ⟨hS.1.trans (Kept.setCell _ _ 0 _) (fun _ _ e => e), _, Boxed.set _ hb9⟩ (fun hS => ?_)
            clear hK K
            try go_frame
            refine wpAnyH_done (by kernel_rfl) ?_ _
            gi_wp2
            refine leaves_marks W2.heap.size (fun Y => Boxed Y w.heap.size 4 (.bool true) ∧ Below w.heap.size w Y)
              (fun Y D hY h1 h2 => ⟨box_keep (n := W2.heap.size) hY.1 (grownBy_putObj' Y D _) (fun k e => by cases e; exact ⟨h1, _, h2, rfl⟩), hY.2.trans (belowK_b (w := w) (Nat.le_refl _) Y D _ _ (by omega) h2 rfl rfl)⟩)
              (fun Y hY => ⟨_, cell1n rfl rfl hY.1, rfl, hY.2⟩) _ _ _ (hm1.keep (fun k h1 h2 => hS.1.block k h2 (by omega))) ⟨Boxed.set _ hb9, HBX.out.fin hS.1⟩
        · have d100 : decide ((k : Int) ≥ 100) = false := decide_eq_false (by omega)
          have d101 : decide (100 ≤ (k : Int)) = false := d100
          by_cases h2000 : 2000 < x.y.x.b.length
          · have d200 : decide ((x.y.x.b.length : Int) > 2000) = true := decide_eq_true (by omega)
            have d201 : decide (2000 < (x.y.x.b.length : Int)) = true := d200
            have kb7 := Boxed.cell HB.out.ref
            obtain ⟨W1, hW1⟩ : ∃ W1, W1 = W.alloc (.cells #[.int .i64 0] 3) := ⟨_, rfl⟩
            have bW1 : Below W.heap.size W W1 := by rw [hW1]; exact (Below.refl _ W).alloc (Nat.le_refl _) _
            have hi1 : Boxed W1 W.heap.size 3 (.int .i64 0) := by rw [hW1]; exact Boxed.new W _ _
            have HW1 := Lib.hid hW1
            have HALL := Lib.hid (cs_all (HC.out.below bW1) HM.out)
            have HR1 := Lib.hid (HR.out.below bW1)
            have HB1 := Lib.hid (HB.out.below bW1)
            have HI1 := Lib.hid hi1
            have hlw : w.heap.size < W.heap.size := Boxed.lt HB.out.res
            have hb7i : b7 < W.heap.size := Boxed.lt HB.out.ref
            clear hW1 bW1 hi1 HC HR HB
            gi_wp2_with (refine ⟨trivial, ?_⟩; rw [← HW1.out]; gi_at_call 17; refine (callsIn_wide.2 HALL.out).mono ?_; rintro e W2 ⟨B, rfl, hseq, x2⟩)
            have HB2 := Lib.hid (HB1.out.below x2)
            have HR2 := Lib.hid (HR1.out.below x2)
            have HI2 := Lib.hid (Boxed.below HI1.out x2 (Boxed.lt HI1.out))
            generalize W.heap.size = bi at *
            have hbi : bi < W2.heap.size := Boxed.lt HI2.out
            clear HW1 HALL HB1 HR1 HI1 x2 kb7
            refine wpIn_actN (fun ac hac => ?_)
            refine range_toldA (by omega) (gf := 24) (lb := #[.pointer (some ⟨B, 0, none⟩)]) (by subst hac; rfl) (enters_of Try.func24 (by kernel_rfl) rfl)
              (hseq (4 - 1) (by omega)) KeepS.trans (fun V l r r' hl hr => KeepS.loop hr) (Below.refl _ _) (fun _ => rfl)
              (fun pre X => BxL w b7 (.pointer (some ⟨gr, 0, none⟩)) X ∧ Boxed X bi 3 (.int .i64 (pre.length : Int)) ∧ RsN (fun _ => True) X gr a0 M)
              (fun _ _ _ => False)
              (fun pre X Y r hs hg hr => ⟨hs.1.grown hg hr (by omega), box_keep hs.2.1 hg hr, hs.2.2.grown hg hr⟩)
              (fun cd pre X Y r hs hg hr => hs)
              ⟨HB2.out, HI2.out, HR2.out⟩
              (fun pre y c X => GY M pre y X ∧ ∃ b16, c = { tmps := (ac.tmps.setIfInBounds 138 (.agg (clI y).toArray)).setIfInBounds 16 (.pointer (some ⟨b16, 0, none⟩)), defers := [] } ∧ X.heap[b16]? = some (.cells (clI y).toArray 33 (0, 0)))
              (fun X Y h => KeepS.of_below h)
              (fun pre x c W l r r' h hlo hl => ⟨GY.turn h.1 hl, by
                obtain ⟨_, b16, e, h2⟩ := h
                exact ⟨b16, e, (World.putObj_heap_other (by intro e; subst e; rw [hl] at h2; cases h2)).trans h2⟩⟩)
              ?assign ?body ?done ?stop
            case assign =>
              intro l pre y X K _ hG hK
              have hz9 := (Below.refl X.heap.size X).alloc (Nat.le_refl _) (.cells (clI y).toArray 33)
              have hKK := hK _ _ hz9 ⟨⟨hG.1, (hG.2.below hz9).more hz9.size⟩, X.heap.size, rfl, World.alloc_heap_new X _⟩
              subst hac
              clear hK
              dsimp only [encY]
              gi_wp2_with (first
                | ((with_reducible show wpListIn _ _ _ _ _ (Oper.mk _ (Op.store 33 _ _) _ _ _ _ :: _) _ _); refine listN_skip rfl (fun c h => by cases h) (run_store_nisN (cs := (clI y).toArray) rfl rfl rfl (World.alloc_heap_new X _) rfl rfl (clI_all _)) ?_; rw [World.setRow_alloc_new]))
              first | exact hKK | simpa using hKK
            case stop =>
              rintro D cd pre X hD _ hf hK
              exact hf.elim
            case body =>
              rintro l pre y cc X ⟨hBX, hiX, hRX⟩ ⟨⟨⟨more, hmore⟩, hAy⟩, b16, rfl, h16⟩
              subst hac
              have hxm : M[pre.length]? = some y.x := by rw [hmore, List.getElem?_append_right (by rw [List.length_map]; exact Nat.le_refl _), List.length_map, Nat.sub_self]; rfl
              obtain ⟨m, hm⟩ : ∃ m, m = pre.length := ⟨_, rfl⟩
              rw [← hm] at hxm hiX
              have HMM := Lib.hid hm
              obtain ⟨b9, o9, c9, A9, p9, hg9, hr9, hb9, ha9⟩ := hRX.item hxm
              have hml : m < M.length := (List.getElem?_eq_some_iff.1 hxm).1
              have hMl : M.length ≤ 4096 := HML.out
              obtain ⟨ml, hmll⟩ : ∃ ml, ml = M.length := ⟨_, rfl⟩
              rw [← hmll] at hg9 hml hMl
              have HBX := Lib.hid hBX
              have HIX := Lib.hid hiX
              have HRX := Lib.hid hRX
              have K16 : Hid (∀ V, Below X.heap.size X V → V.rangeAt b16 0 (clI y)) := Lib.hid fun V hV => range_heap ((hV.block _ (heap_lt h16)).trans h16)
              have KN : Hid (∀ V, Below X.heap.size X V → V.cell? ⟨bi, 0, none⟩ = some (.int .i64 (m : Int))) := Lib.hid fun V hV => Boxed.cell (Boxed.below HIX.out hV (Boxed.lt HIX.out))
              have K7 : Hid (∀ V, Below X.heap.size X V → V.cell? ⟨b7, 0, none⟩ = some (.pointer (some ⟨gr, 0, none⟩))) := Lib.hid fun V hV => Boxed.cell (Boxed.below HBX.out.ref hV (Boxed.lt HBX.out.ref))
              have KL : Hid (∀ V, Below X.heap.size X V → V.cell? ⟨gr, 0, none⟩ = some (.slice (some ⟨b9, o9, none⟩) ml c9)) := Lib.hid fun V hV => cells_at (i := 0) ((hV.block _ (heap_lt hg9)).trans hg9) rfl
              have KI : Hid (∀ V, Below X.heap.size X V → V.rangeAt b9 (o9 + m * 3) (clI ⟨y.x, A9, p9⟩)) := Lib.hid fun V hV => range_below hr9 hb9 hV
              have HSAME : Hid (∀ V, Below X.heap.size X V → Calls Try.prog 11 #[.agg (clI y).toArray, .agg (clI ⟨y.x, A9, p9⟩).toArray] V fun e w' => e = .returned (.bool true) ∧ Below V.heap.size V w') := Lib.hid fun V hV => by
                have q := hV
                exact ntsame y ⟨y.x, A9, p9⟩ rfl ((hAy.below q).more q.size) ((ha9.below q).more q.size)
              have dm : decide ((ml : Int) ≤ (m : Int)) = false := decide_eq_false (by omega)
              have dm' : decide ((m : Int) ≥ (ml : Int)) = false := dm
              have KIS : Hid (∀ V, Below X.heap.size X V → V.frozen? ⟨bi, 0, none⟩ = false) := Lib.hid fun V hV => Boxed.frozen (Boxed.below HIX.out hV (Boxed.lt HIX.out))
              clear hmore hAy hxm hm hg9 hr9 ha9 h16 hBX hiX hRX hmll hseq HB2 HR2 HI2
              gi_upto_region 30 with fail
              refine region_roundA (S := fun V => Below X.heap.size X V) (by kernel_rfl) (by kernel_rfl) (fun h => by obtain ⟨_, _, h⟩ := h; exact h) (Below.refl _ X).drew (fun hS => ?_)
              refine held_pure (i := 0) (oi := ⟨some 139, _, _, _, _, _⟩) rfl (by kernel_rfl) (by kernel_rfl) (by kernel_rfl) (fun _ _ _ h => h) (by rfl) (fun w hSw => run_load_int rfl rfl (KN.out _ hSw)) hS (fun hS => ?_)
              try go_frame
              refine held_pure (i := 1) (oi := ⟨some 140, _, _, _, _, _⟩) rfl (by kernel_rfl) (by kernel_rfl) (by kernel_rfl) (fun _ _ _ h => h) (by rfl) (fun w hSw => run_load_pR rfl rfl (K7.out _ hSw)) hS (fun hS => ?_)
              try go_frame
              refine held_pure (i := 2) (oi := ⟨some 141, _, _, _, _, _⟩) rfl (by kernel_rfl) (by kernel_rfl) (by kernel_rfl) (fun _ _ _ h => h) (by rfl) (v := ?_) (fun w hSw => ?_) hS (fun hS => ?_)
              rotate_left
              · go_simp; try with_reducible rfl
              try go_frame
              refine held_pure (i := 3) (oi := ⟨some 142, _, _, _, _, _⟩) rfl (by kernel_rfl) (by kernel_rfl) (by kernel_rfl) (fun _ _ _ h => h) (by rfl) (v := ?_) (fun w hSw => ?_) hS (fun hS => ?_)
              rotate_left
              · go_simp; try with_reducible rfl
              try go_frame
              refine held_pure (i := 4) (oi := ⟨some 143, _, _, _, _, _⟩) rfl (by kernel_rfl) (by kernel_rfl) (by kernel_rfl) (fun _ _ _ h => h) (by rfl) (fun w hSw => run_load_itR rfl rfl (KL.out _ hSw)) hS (fun hS => ?_)
              try go_frame
              refine held_pure (i := 5) (oi := ⟨some 144, _, _, _, _, _⟩) rfl (by kernel_rfl) (by kernel_rfl) (by kernel_rfl) (fun _ _ _ h => h) (by rfl) (v := ?_) (fun w hSw => ?_) hS (fun hS => ?_)
              rotate_left
              · go_simp; try with_reducible rfl
              try go_frame
              refine held_pure (i := 6) (oi := ⟨some 145, _, _, _, _, _⟩) rfl (by kernel_rfl) (by kernel_rfl) (by kernel_rfl) (fun _ _ _ h => h) (by rfl) (v := .bool false) (fun w hSw => by go_simp; (try rw [dm]); (try rfl)) hS (fun hS => ?_)
              try go_frame
              refine held_pure (i := 7) (oi := ⟨some 146, _, _, _, _, _⟩) rfl (by kernel_rfl) (by kernel_rfl) (by kernel_rfl) (fun _ _ _ h => h) (by rfl) (v := ?_) (fun w hSw => ?_) hS (fun hS => ?_)
              rotate_left
              · go_simp; try with_reducible rfl
              try go_frame
              refine held_pure (i := 8) (oi := ⟨some 147, _, _, _, _, _⟩) rfl (by kernel_rfl) (by kernel_rfl) (by kernel_rfl) (fun _ _ _ h => h) (by rfl) (fun w hSw => run_load_nis rfl rfl (K16.out _ hSw) rfl) hS (fun hS => ?_)
              try go_frame
              refine held_pure (i := 9) (oi := ⟨some 148, _, _, _, _, _⟩) rfl (by kernel_rfl) (by kernel_rfl) (by kernel_rfl) (fun _ _ _ h => h) (by rfl) (fun w hSw => run_load_pR rfl rfl (K7.out _ hSw)) hS (fun hS => ?_)
              try go_frame
              refine held_pure (i := 10) (oi := ⟨some 149, _, _, _, _, _⟩) rfl (by kernel_rfl) (by kernel_rfl) (by kernel_rfl) (fun _ _ _ h => h) (by rfl) (v := ?_) (fun w hSw => ?_) hS (fun hS => ?_)
              rotate_left
              · go_simp; try with_reducible rfl
              try go_frame
              refine held_pure (i := 11) (oi := ⟨some 150, _, _, _, _, _⟩) rfl (by kernel_rfl) (by kernel_rfl) (by kernel_rfl) (fun _ _ _ h => h) (by rfl) (v := ?_) (fun w hSw => ?_) hS (fun hS => ?_)
              rotate_left
              · go_simp; try with_reducible rfl
              try go_frame
              refine held_pure (i := 12) (oi := ⟨some 151, _, _, _, _, _⟩) rfl (by kernel_rfl) (by kernel_rfl) (by kernel_rfl) (fun _ _ _ h => h) (by rfl) (fun w hSw => run_load_itR rfl rfl (KL.out _ hSw)) hS (fun hS => ?_)
              try go_frame
              refine held_pure (i := 13) (oi := ⟨some 152, _, _, _, _, _⟩) rfl (by kernel_rfl) (by kernel_rfl) (by kernel_rfl) (fun _ _ _ h => h) (by rfl) (fun w hSw => run_load_int rfl rfl (KN.out _ hSw)) hS (fun hS => ?_)
              try go_frame
              refine held_pure (i := 14) (oi := ⟨some 153, _, _, _, _, _⟩) rfl (by kernel_rfl) (by kernel_rfl) (by kernel_rfl) (fun _ _ _ h => h) (by rfl) (v := Value.pointer (some ⟨b9, o9 + m * 3, none⟩)) (fun w hSw => by go_simp) hS (fun hS => ?_)
              try go_frame
              refine held_pure (i := 15) (oi := ⟨some 154, _, _, _, _, _⟩) rfl (by kernel_rfl) (by kernel_rfl) (by kernel_rfl) (fun _ _ _ h => h) (by rfl) (fun w hSw => run_load_nirA rfl rfl (KI.out _ hSw) rfl) hS (fun hS => ?_)
              try go_frame
              refine wpAnyH_ready (rs := [16]) (by kernel_rfl) (by simp) (AllReadyH.cons (o := ⟨some 155, _, _, _, _, _⟩) rfl (fun K hK => ?_) AllReadyH.nil)
              rw [if_pos (by rfl)]
              go_simp
              refine (HSAME.out _ hS).mono ?_
              rintro e u16 ⟨rfl, x16⟩
              show K _ _
              refine hK.out _ _ (hS.trans (x16.mono hS.size)) (fun hS => ?_)
              clear hK K
              try go_frame
              refine held_pure (i := 17) (oi := ⟨some 156, _, _, _, _, _⟩) rfl (by kernel_rfl) (by kernel_rfl) (by kernel_rfl) (fun _ _ _ h => h) (by rfl) (v := ?_) (fun w hSw => ?_) hS (fun hS => ?_)
              rotate_left
              · go_simp; try with_reducible rfl
              try go_frame
              refine held_pure (i := 18) (oi := ⟨some 157, _, _, _, _, _⟩) rfl (by kernel_rfl) (by kernel_rfl) (by kernel_rfl) (fun _ _ _ h => h) (by rfl) (v := ?_) (fun w hSw => ?_) hS (fun hS => ?_)
              rotate_left
              · go_simp; try with_reducible rfl
              try go_frame
              refine wpAnyH_done (by kernel_rfl) ?_ _
              have kn := KN.out _ hS
              have fn_ := KIS.out _ hS
              gi_wp2
              have hXu := Boxed.below HIX.out hS (Boxed.lt HIX.out)
              have kS : Kept (fun i => i = bi) u16 (u16.setCell ⟨bi, 0, none⟩ (.int .i64 ((m : Int) + 1))) := Kept.setCell u16 bi 0 _
              refine ⟨keepsFrom_kN ((Kept.of_below hS).trans kS (fun _ _ e => e)) (fun i e => .inl (by subst e; exact ⟨_, _, _, HIX.out⟩)), KeepS.trans (KeepS.of_below hS) (KeepS.set hXu rfl), (HBX.out.below hS).kept kS (fun i e => by subst e; exact ⟨hlw, by omega⟩), ?_, (HRX.out.below hS).setInt hXu⟩
              rw [show ((pre ++ [y]).length : Int) = (m : Int) + 1 from by rw [HMM.out]; simp]
              exact Boxed.set _ hXu
            case done =>
              rintro D xs X hD hxs ⟨hBX, hiX, hRX⟩ hK
              subst hac
              have hlen : xs.length = M.length := by rw [← hxs, List.length_map]
              rw [hlen] at hiX
              obtain ⟨ml, hmll⟩ : ∃ ml, ml = M.length := ⟨_, rfl⟩
              obtain ⟨A9, c9, hg9⟩ := hRX.head
              rw [← hmll] at hg9 hiX
              have hm1 : Marks W2.heap.size X.heap.size [{ target := .collected D, args := #[] }] X := (Marks.push (hi := D) (ds := []) trivial (Nat.le_refl _) hD hK).more (heap_lt hK)
              have HBX := Lib.hid hBX
              have KN : Hid (∀ V, Kept (fun i => i = w.heap.size) X V → V.cell? ⟨bi, 0, none⟩ = some (.int .i64 (ml : Int))) := Lib.hid fun V hV => Boxed.cell ((hV.block bi (heap_lt hiX) (by omega)).trans hiX)
              have K7 : Hid (∀ V, Kept (fun i => i = w.heap.size) X V → V.cell? ⟨b7, 0, none⟩ = some (.pointer (some ⟨gr, 0, none⟩))) := Lib.hid fun V hV => Boxed.cell ((hV.block b7 (heap_lt hBX.ref) (by have := hBX.lt; omega)).trans hBX.ref)
              have KL : Hid (∀ V, Kept (fun i => i = w.heap.size) X V → V.cell? ⟨gr, 0, none⟩ = some (.slice A9 ml c9)) := Lib.hid fun V hV => cells_at (i := 0) ((hV.block gr (heap_lt hg9) (by omega)).trans hg9) rfl
              have hml : ml ≤ 4096 := by rw [hmll]; exact HML.out
              have hS0 : Kept (fun i => i = w.heap.size) X X.drew ∧ ∃ b, Boxed X.drew w.heap.size 4 (.bool b) := ⟨Kept.drew X, false, hBX.res⟩
              clear hRX hBX hg9 hiX hxs hlen hmll hseq HB2 HR2 HI2 hK
              gi_upto_region 33 with fail
              refine wpIn_calmN ?_
              refine wpIn_wide.2 ?_
              refine wp_region_held_drew (S := fun V => Kept (fun i => i = w.heap.size) X V ∧ ∃ b, Boxed V w.heap.size 4 (.bool b)) (by kernel_rfl) hS0 (fun hS => ?_)
              refine held_pure (i := 0) (oi := ⟨some 160, _, _, _, _, _⟩) rfl (by kernel_rfl) (by kernel_rfl) (by kernel_rfl) (fun _ _ _ h => h) (by rfl) (fun w hSw => run_load_int rfl rfl (KN.out _ hSw.1)) hS (fun hS => ?_)
              try go_frame
              refine held_pure (i := 1) (oi := ⟨some 161, _, _, _, _, _⟩) rfl (by kernel_rfl) (by kernel_rfl) (by kernel_rfl) (fun _ _ _ h => h) (by rfl) (fun w hSw => run_load_pR rfl rfl (K7.out _ hSw.1)) hS (fun hS => ?_)
              try go_frame
              refine held_pure (i := 2) (oi := ⟨some 162, _, _, _, _, _⟩) rfl (by kernel_rfl) (by kernel_rfl) (by kernel_rfl) (fun _ _ _ h => h) (by rfl) (v := ?_) (fun w hSw => ?_) hS (fun hS => ?_)
              rotate_left
              · go_simp; try with_reducible rfl
              try go_frame
              refine held_pure (i := 3) (oi := ⟨some 163, _, _, _, _, _⟩) rfl (by kernel_rfl) (by kernel_rfl) (by kernel_rfl) (fun _ _ _ h => h) (by rfl) (v := ?_) (fun w hSw => ?_) hS (fun hS => ?_)
              rotate_left
              · go_simp; try with_reducible rfl
              try go_frame
              refine held_pure (i := 4) (oi := ⟨some 164, _, _, _, _, _⟩) rfl (by kernel_rfl) (by kernel_rfl) (by kernel_rfl) (fun _ _ _ h => h) (by rfl) (fun w hSw => run_load_itR rfl rfl (KL.out _ hSw.1)) hS (fun hS => ?_)
              try go_frame
              refine held_pure (i := 5) (oi := ⟨some 165, _, _, _, _, _⟩) rfl (by kernel_rfl) (by kernel_rfl) (by kernel_rfl) (fun _ _ _ h => h) (by rfl) (v := ?_) (fun w hSw => ?_) hS (fun hS => ?_)
              rotate_left
              · go_simp; try with_reducible rfl
              try go_frame
              refine held_pure (i := 6) (oi := ⟨some 166, _, _, _, _, _⟩) rfl (by kernel_rfl) (by kernel_rfl) (by kernel_rfl) (fun _ _ _ h => h) (by rfl) (v := .bool true) (fun w hSw => by go_simp) hS (fun hS => ?_)
              try go_frame
              refine held_pure (i := 7) (oi := ⟨some 167, _, _, _, _, _⟩) rfl (by kernel_rfl) (by kernel_rfl) (by kernel_rfl) (fun _ _ _ h => h) (by rfl) (v := ?_) (fun w hSw => ?_) hS (fun hS => ?_)
              rotate_left
              · go_simp; try with_reducible rfl
              try go_frame
              refine wpAnyH_ready (rs := [8]) (by kernel_rfl) (by simp) (AllReadyH.cons (o := ⟨some 168, _, _, _, _, _⟩) rfl (fun K hK => ?_) AllReadyH.nil)
              rw [if_pos (by rfl)]
              go_simp
              refine (awake34 _).mono ?_
              rintro e u8 ⟨rfl, x8⟩
              obtain ⟨b8, hb8⟩ := hS.2
              have hb9 := Boxed.below hb8 x8 (Boxed.lt hb8)
              have k9 := Boxed.cell hb9
              have f9 := Boxed.frozen hb9
              show K _ _
              refine hK.out _ _ ⟨hS.1.then_below x8, b8, hb9⟩ (fun hS => ?_)
              clear hK K
              try go_frame
              refine held_pure (i := 9) (oi := ⟨some 169, _, _, _, _, _⟩) rfl (by kernel_rfl) (by kernel_rfl) (by kernel_rfl) (fun _ _ _ h => h) (by rfl) (v := ?_) (fun w hSw => ?_) hS (fun hS => ?_)
              rotate_left
              · go_simp; try with_reducible rfl
              try go_frame
              refine wpAnyH_ready (rs := [10]) (by kernel_rfl) (by simp) (AllReadyH.cons (o := ⟨none, _, _, _, _, _⟩) rfl (fun K hK => ?_) AllReadyH.nil)
              rw [if_pos (by rfl)]
              go_simp
              refine hK.out _ _ ⟨hS.1.trans (Kept.setCell _ _ 0 _) (fun _ _ e => e), _, Boxed.set _ hb9⟩ (fun hS => ?_)
              clear hK K
              try go_frame
              refine wpAnyH_done (by kernel_rfl) ?_ _
              gi_wp2
              refine leaves_marks W2.heap.size (fun Y => Boxed Y w.heap.size 4 (.bool true) ∧ Below w.heap.size w Y)
                (fun Y D hY h1 h2 => ⟨box_keep (n := W2.heap.size) hY.1 (grownBy_putObj' Y D _) (fun k e => by cases e; exact ⟨h1, _, h2, rfl⟩), hY.2.trans (belowK_b (w := w) (Nat.le_refl _) Y D _ _ (by omega) h2 rfl rfl)⟩)
                (fun Y hY => ⟨_, cell1n rfl rfl hY.1, rfl, hY.2⟩) _ _ _ (hm1.keep (fun k h1 h2 => hS.1.block k h2 (by omega))) ⟨Boxed.set _ hb9, HBX.out.fin hS.1⟩
          · have d200 : decide ((x.y.x.b.length : Int) > 2000) = false := decide_eq_false (by omega)
            have d201 : decide (2000 < (x.y.x.b.length : Int)) = false := d200
            have hk100 : k < 100 := by omega
            gi_upto_region 11 with fail
            have hl2 : x.y.x.b.length ≤ 2000 := by omega
            clear d100 d101 d200 d201 kd4 h2000 kb7
            have HLK := Lib.hid (cs_look HC.out HM.out x.at_)
            refine wpIn_wide.2 ?_
            go_wp2_with (first
              | (go_at_call 9; (with_reducible refine HLK.out.mono ?_); rintro e w5 ⟨P5, p5, he, ow5, x5⟩; obtain rfl := he.out; clear he)
              | ((with_reducible show wpList _ _ _ (Oper.mk _ (Op.store 33 _ _) _ _ _ _ :: _) _ _); refine nis_store_new (cs := (clI ⟨lkI x.at_ M, P5, p5⟩).toArray) rfl rfl rfl rfl (clI_all _) ?_))
            have h11 := World.alloc_heap_new w5 (.cells (clI ⟨lkI x.at_ M, P5, p5⟩).toArray 33)
            have b5 : Below w5.heap.size w5 (w5.alloc (.cells (clI ⟨lkI x.at_ M, P5, p5⟩).toArray 33)) := (Below.refl _ w5).alloc (Nat.le_refl _) _
            have z5 : w5.heap.size < (w5.alloc (.cells (clI ⟨lkI x.at_ M, P5, p5⟩).toArray 33)).heap.size := by simp
            have HC5 := Lib.hid (((HC.out.below x5).now).below b5)
            have HR5 := Lib.hid ((HR.out.below x5).below b5)
            have HB5 := Lib.hid ((HB.out.below x5).below b5)
            have HD5 := Lib.hid ((b5.block bd (Nat.lt_of_lt_of_le (heap_lt HD.out) x5.size)).trans ((x5.block bd (heap_lt HD.out)).trans HD.out))
            have HO5 := Lib.hid (OwnI.below ow5 b5)
            have HXA5 := Lib.hid (HXA.out.below ((x5.trans (b5.mono x5.size)).mono (Nat.le_of_lt (Boxed.lt HB.out.res))))
            have hgK : g < w5.heap.size := Nat.lt_of_lt_of_le HC.out.glt x5.size
            have hbd5 : bd < w5.heap.size := Nat.lt_of_lt_of_le (heap_lt HD.out) x5.size
            have H11 := Lib.hid h11
            clear ow5 x5 b5 h11 HLK kd0 kd1
            generalize w5.alloc (.cells (clI ⟨lkI x.at_ M, P5, p5⟩).toArray 33) = W5 at *
            generalize w5.heap.size = b11 at *
            clear HC HR HB HD HXA
            have kd1 : W5.cell? ⟨bd, 1, none⟩ = some (.int .i64 x.at_) := cells_at (i := 1) HD5.out rfl
            have kb7 := Boxed.cell HB5.out.ref
            have HLR := Lib.hid (rs_look HR5.out x.at_)
            gi_upto_region 12 with fail
            refine wpIn_wide.2 ?_
            go_wp2_with (first
              | (go_at_call 10; (with_reducible refine HLR.out.mono ?_); rintro e w6 ⟨P6, p6, he, ow6, x6⟩; obtain rfl := he.out; clear he)
              | ((with_reducible show wpList _ _ _ (Oper.mk _ (Op.store 38 _ _) _ _ _ _ :: _) _ _); refine nir_store_new (cs := (clI ⟨lkI x.at_ M, P6, p6⟩).toArray) rfl rfl rfl rfl (clI_all _) ?_))
            have h13 := World.alloc_heap_new w6 (.cells (clI ⟨lkI x.at_ M, P6, p6⟩).toArray 38)
            have b6 : Below w6.heap.size w6 (w6.alloc (.cells (clI ⟨lkI x.at_ M, P6, p6⟩).toArray 38)) := (Below.refl _ w6).alloc (Nat.le_refl _) _
            have z6 : w6.heap.size < (w6.alloc (.cells (clI ⟨lkI x.at_ M, P6, p6⟩).toArray 38)).heap.size := by simp
            have q6 := x6.trans (b6.mono x6.size)
            have HC6 := Lib.hid (HC5.out.below q6)
            have HR6 := Lib.hid (((HR5.out.below x6).now).below b6)
            have HB6 := Lib.hid (HB5.out.below q6)
            have HD6 := Lib.hid ((q6.block bd (heap_lt HD5.out)).trans HD5.out)
            have HO6 := Lib.hid (OwnI.below HO5.out q6)
            have HP6 := Lib.hid (OwnI.below ow6 b6)
            have H116 := Lib.hid ((q6.block b11 (heap_lt H11.out)).trans H11.out)
            have HXA6 := Lib.hid (HXA5.out.below (q6.mono (Nat.le_of_lt (Boxed.lt HB5.out.res))))
            have h1113 : b11 < w6.heap.size := Nat.lt_of_lt_of_le (heap_lt H11.out) x6.size
            have hgr6 : gr < w6.heap.size := Nat.lt_of_lt_of_le HR5.out.glt x6.size
            have H13 := Lib.hid h13
            clear ow6 x6 b6 h13 HLR kd1 kb7 q6 z5
            generalize w6.alloc (.cells (clI ⟨lkI x.at_ M, P6, p6⟩).toArray 38) = W6 at *
            generalize w6.heap.size = b13 at *
            clear HC5 HR5 HB5 HD5 HXA5 HO5 H11
            gi_upto_region 13 with fail
            refine wpIn_wide.2 ?_
            go_wp2_with (first
              | ((with_reducible show wpList _ _ _ (Oper.mk _ (Op.load 33 _) _ _ _ _ :: _) _ _); refine wpList_valw (by rfl) (run_load_nis rfl rfl (range_heap H116.out) rfl) ?_)
              | ((with_reducible show wpList _ _ _ (Oper.mk _ (Op.load 38 _) _ _ _ _ :: _) _ _); refine wpList_valw (by rfl) (run_load_nir rfl rfl (range_heap H13.out) rfl) ?_)
              | (go_at_call 11; (with_reducible refine (ntsame ⟨lkI x.at_ M, P5, p5⟩ ⟨lkI x.at_ M, P6, p6⟩ rfl HO6.out.arg HP6.out.arg).mono ?_); rintro e w7 ⟨rfl, x7⟩))
            have HC7 := Lib.hid (HC6.out.below x7)
            have HR7 := Lib.hid (HR6.out.below x7)
            have HB7 := Lib.hid (HB6.out.below x7)
            have HD7 := Lib.hid ((x7.block bd (heap_lt HD6.out)).trans HD6.out)
            have H117 := Lib.hid ((x7.block b11 (heap_lt H116.out)).trans H116.out)
            have H137 := Lib.hid ((x7.block b13 (heap_lt H13.out)).trans H13.out)
            have HXA7 := Lib.hid (HXA6.out.below (x7.mono (Nat.le_of_lt (Boxed.lt HB6.out.res))))
            have z7 : b13 < w7.heap.size := Nat.lt_of_lt_of_le z6 x7.size
            clear x7 HC6 HR6 HB6 HD6 H116 H13 HXA6 HO6 HP6 z6
            have kd0 : w7.cell? ⟨bd, 0, none⟩ = some (.bool x.take) := cells_at (i := 0) HD7.out rfl
            rcases htk : x.take with _ | _
            · rw [htk] at kd0
              have bQ := (Below.refl w7.heap.size w7).drew
              have HCQ := Lib.hid (HC7.out.below bQ)
              have HRQ := Lib.hid (HR7.out.below bQ)
              have HBQ := Lib.hid (HB7.out.below bQ)
              have hDQ : w7.drew.heap[bd]? = some (.cells (clDn x).toArray 35 (0, 0)) := (bQ.block bd (heap_lt HD7.out)).trans HD7.out
              have HXQ := Lib.hid (HXA7.out.below (bQ.mono (Nat.le_of_lt (Boxed.lt HB7.out.res))))
              have hzQ : w.heap.size ≤ w7.drew.heap.size := Nat.le_of_lt (Boxed.lt HBQ.out.res)
              have HPC := Lib.hid (cs_put HCQ.out x.y (HXQ.out.more hzQ) hl2)
              have hS0 : w7.drew.heap[bd]? = some (.cells (clDn x).toArray 35 (0, 0)) ∧ Boxed w7.drew b7 28 (.pointer (some ⟨gr, 0, none⟩)) := ⟨hDQ, HBQ.out.ref⟩
              clear bQ HC7 HR7 HB7 HD7 H117 H137 HXA7 hDQ
              gi_upto_region 20 with fail
              refine wpIn_calmN ?_
              refine wpIn_wide.2 ?_
              refine wp_region_held_drew (S := fun V => V.heap[bd]? = some (.cells (clDn x).toArray 35 (0, 0)) ∧ Boxed V b7 28 (.pointer (some ⟨gr, 0, none⟩))) (by kernel_rfl) hS0 (fun hS => ?_)
              refine held_pure (i := 0) (oi := ⟨some 107, _, _, _, _, _⟩) rfl (by kernel_rfl) (by kernel_rfl) (by kernel_rfl) (fun _ _ _ h => h) (by rfl) (v := ?_) (fun w hSw => ?_) hS (fun hS => ?_)
              rotate_left
              · go_simp; try with_reducible rfl
              try go_frame
              refine held_pure (i := 1) (oi := ⟨some 108, _, _, _, _, _⟩) rfl (by kernel_rfl) (by kernel_rfl) (by kernel_rfl) (fun _ _ _ h => h) (by rfl) (v := ?_) (fun w hSw => ?_) hS (fun hS => ?_)
              rotate_left
              · go_simp; try with_reducible rfl
              try go_frame
              refine held_pure (i := 2) (oi := ⟨some 109, _, _, _, _, _⟩) rfl (by kernel_rfl) (by kernel_rfl) (by kernel_rfl) (fun _ _ _ h => h) (by rfl) (fun w hSw => run_load_nisA rfl rfl (do_item hSw.1) rfl) hS (fun hS => ?_)
              try go_frame
              refine held_pure (i := 4) (oi := ⟨some 111, _, _, _, _, _⟩) rfl (by kernel_rfl) (by kernel_rfl) (by kernel_rfl) (fun _ _ _ h => h) (by rfl) (fun w hSw => run_load_pR rfl rfl (Boxed.cell hSw.2)) hS (fun hS => ?_)
              try go_frame
              refine held_pure (i := 5) (oi := ⟨some 112, _, _, _, _, _⟩) rfl (by kernel_rfl) (by kernel_rfl) (by kernel_rfl) (fun _ _ _ h => h) (by rfl) (v := ?_) (fun w hSw => ?_) hS (fun hS => ?_)
              rotate_left
              · go_simp; try with_reducible rfl
              try go_frame
              refine held_pure (i := 6) (oi := ⟨some 113, _, _, _, _, _⟩) rfl (by kernel_rfl) (by kernel_rfl) (by kernel_rfl) (fun _ _ _ h => h) (by rfl) (v := ?_) (fun w hSw => ?_) hS (fun hS => ?_)
              rotate_left
              · go_simp; try with_reducible rfl
              try go_frame
              refine held_pure (i := 7) (oi := ⟨some 114, _, _, _, _, _⟩) rfl (by kernel_rfl) (by kernel_rfl) (by kernel_rfl) (fun _ _ _ h => h) (by rfl) (fun w hSw => run_load_int rfl rfl (cells_at (i := 2) hSw.1 rfl)) hS (fun hS => ?_)
              try go_frame
              refine held_pure (i := 8) (oi := ⟨some 115, _, _, _, _, _⟩) rfl (by kernel_rfl) (by kernel_rfl) (by kernel_rfl) (fun _ _ _ h => h) (by rfl) (v := ?_) (fun w hSw => ?_) hS (fun hS => ?_)
              rotate_left
              · go_simp; try with_reducible rfl
              try go_frame
              refine held_pure (i := 9) (oi := ⟨some 116, _, _, _, _, _⟩) rfl (by kernel_rfl) (by kernel_rfl) (by kernel_rfl) (fun _ _ _ h => h) (by rfl) (v := ?_) (fun w hSw => ?_) hS (fun hS => ?_)
              rotate_left
              · go_simp; try with_reducible rfl
              try go_frame
              refine held_pure (i := 10) (oi := ⟨some 117, _, _, _, _, _⟩) rfl (by kernel_rfl) (by kernel_rfl) (by kernel_rfl) (fun _ _ _ h => h) (by rfl) (fun w hSw => run_load_bool rfl rfl (cells_at (i := 3) hSw.1 rfl)) hS (fun hS => ?_)
              try go_frame
              refine held_pure (i := 11) (oi := ⟨some 118, _, _, _, _, _⟩) rfl (by kernel_rfl) (by kernel_rfl) (by kernel_rfl) (fun _ _ _ h => h) (by rfl) (v := ?_) (fun w hSw => ?_) hS (fun hS => ?_)
              rotate_left
              · go_simp; try with_reducible rfl
              try go_frame
              refine held_pure (i := 12) (oi := ⟨some 119, _, _, _, _, _⟩) rfl (by kernel_rfl) (by kernel_rfl) (by kernel_rfl) (fun _ _ _ h => h) (by rfl) (v := ?_) (fun w hSw => ?_) hS (fun hS => ?_)
              rotate_left
              · go_simp; try with_reducible rfl
              try go_frame
              refine held_pure (i := 13) (oi := ⟨some 120, _, _, _, _, _⟩) rfl (by kernel_rfl) (by kernel_rfl) (by kernel_rfl) (fun _ _ _ h => h) (by rfl) (fun w hSw => run_load_sl rfl rfl (cells_at (i := 4) hSw.1 rfl)) hS (fun hS => ?_)
              try go_frame
              refine held_pure (i := 14) (oi := ⟨some 121, _, _, _, _, _⟩) rfl (by kernel_rfl) (by kernel_rfl) (by kernel_rfl) (fun _ _ _ h => h) (by rfl) (v := ?_) (fun w hSw => ?_) hS (fun hS => ?_)
              rotate_left
              · go_simp; try with_reducible rfl
              try go_frame
              refine wpAnyH_ready (rs := [3]) (by kernel_rfl) (by simp) (AllReadyH.cons (o := ⟨some 110, _, _, _, _, _⟩) rfl (fun K hK => ?_) AllReadyH.nil)
              rw [if_pos (by rfl)]
              go_simp
              refine HPC.out.mono ?_
              rintro e u3 ⟨rfl, c3, k3⟩
              have HC3 := Lib.hid c3
              have HK3 := Lib.hid k3
              clear c3 k3
              show K _ _
              refine hK.out _ _ ⟨blkN hS.1 HK3.out (nnb_no hS.1 tnc_do.1), blkN hS.2 HK3.out (nnb_no hS.2 tn_ptr.1)⟩ (fun hS => ?_)
              clear hK K
              try go_frame
              refine wpAnyH_ready (rs := [15]) (by kernel_rfl) (by simp) (AllReadyH.cons (o := ⟨some 122, _, _, _, _, _⟩) rfl (fun K hK => ?_) AllReadyH.nil)
              rw [if_pos (by rfl)]
              go_simp
              refine (rs_put (HRQ.out.kept HK3.out) x.y ((HXQ.out.below (kept_nb HK3.out (Nat.le_of_lt hg) hzQ)).more (Nat.le_trans hzQ HK3.out.size)) hl2).mono ?_
              rintro e u15 ⟨rfl, r15, k15⟩
              have HR15 := Lib.hid r15
              have HK15 := Lib.hid k15
              clear r15 k15
              show K _ _
              refine hK.out _ _ ⟨blkN hS.1 HK15.out (nnb_no hS.1 tnc_do.2), blkN hS.2 HK15.out (nnb_no hS.2 tn_ptr.2)⟩ (fun hS => ?_)
              clear hK K
              try go_frame
              refine held_pure (i := 16) (oi := ⟨some 123, _, _, _, _, _⟩) rfl (by kernel_rfl) (by kernel_rfl) (by kernel_rfl) (fun _ _ _ h => h) (by rfl) (v := .bool false) (fun w hSw => by go_simp) hS (fun hS => ?_)
              try go_frame
              refine wpAnyH_done (by kernel_rfl) ?_ _
              have hcz := HC3.out.kept HK15.out
              have hrz := HR15.out
              have hb3 := HBQ.out.kept HK3.out (HBQ.out.no hg tn_ptr.1)
              have hbz := hb3.kept HK15.out (hb3.no hgr tn_ptr.2)
              have hmz : SmI (ptM a0 M x.y.x) := SmI.pt HM.out a0 hl2
              clear hb3 HC3 HK3 HR15 HK15 HCQ HRQ HBQ HXQ HPC hS0
              have bZ := (Below.refl u15.heap.size u15).drew
              have HCZ := Lib.hid (hcz.below bZ)
              have HRZ := Lib.hid (hrz.below bZ)
              have HBZ := Lib.hid (hbz.below bZ)
              obtain ⟨AZ, cZ, hgZ⟩ := HRZ.out.head
              obtain ⟨mz, emz⟩ : ∃ mz, mz = (ptM a0 M x.y.x).length := ⟨_, rfl⟩
              have hlen9 := cs_len HCZ.out
              rw [← emz] at hlen9 hgZ
              have HLEN := Lib.hid hlen9
              have KL : Hid (u15.drew.cell? ⟨gr, 0, none⟩ = some (.slice AZ mz cZ)) := Lib.hid (cells_at (i := 0) hgZ rfl)
              have K7 := Lib.hid (Boxed.cell HBZ.out.ref)
              clear bZ hcz hrz hbz hgZ emz hlen9
              gi_upto_region 22 with fail
              refine wpIn_calmN ?_
              refine wpIn_wide.2 ?_
              refine wp_region_held_drew (S := fun V => Hid (V = u15.drew)) (by kernel_rfl) (Lib.hid rfl) (fun hS => ?_)
              refine held_pure (i := 0) (oi := ⟨some 124, _, _, _, _, _⟩) rfl (by kernel_rfl) (by kernel_rfl) (by kernel_rfl) (fun _ _ _ h => h) (by rfl) (v := ?_) (fun w hSw => ?_) hS (fun hS => ?_)
              rotate_left
              · go_simp; try with_reducible rfl
              try go_frame
              refine held_pure (i := 2) (oi := ⟨some 126, _, _, _, _, _⟩) rfl (by kernel_rfl) (by kernel_rfl) (by kernel_rfl) (fun _ _ _ h => h) (by rfl) (fun w hSw => run_load_pR rfl rfl (by rw [hSw.out]; exact K7.out)) hS (fun hS => ?_)
              try go_frame
              refine held_pure (i := 3) (oi := ⟨some 127, _, _, _, _, _⟩) rfl (by kernel_rfl) (by kernel_rfl) (by kernel_rfl) (fun _ _ _ h => h) (by rfl) (v := ?_) (fun w hSw => ?_) hS (fun hS => ?_)
              rotate_left
              · go_simp; try with_reducible rfl
              try go_frame
              refine held_pure (i := 4) (oi := ⟨some 128, _, _, _, _, _⟩) rfl (by kernel_rfl) (by kernel_rfl) (by kernel_rfl) (fun _ _ _ h => h) (by rfl) (v := ?_) (fun w hSw => ?_) hS (fun hS => ?_)
              rotate_left
              · go_simp; try with_reducible rfl
              try go_frame
              refine held_pure (i := 5) (oi := ⟨some 129, _, _, _, _, _⟩) rfl (by kernel_rfl) (by kernel_rfl) (by kernel_rfl) (fun _ _ _ h => h) (by rfl) (fun w hSw => run_load_itR rfl rfl (by rw [hSw.out]; exact KL.out)) hS (fun hS => ?_)
              try go_frame
              refine held_pure (i := 6) (oi := ⟨some 130, _, _, _, _, _⟩) rfl (by kernel_rfl) (by kernel_rfl) (by kernel_rfl) (fun _ _ _ h => h) (by rfl) (v := ?_) (fun w hSw => ?_) hS (fun hS => ?_)
              rotate_left
              · go_simp; try with_reducible rfl
              try go_frame
              refine wpAnyH_ready (rs := [1]) (by kernel_rfl) (by simp) (AllReadyH.cons (o := ⟨some 125, _, _, _, _, _⟩) rfl (fun K hK => ?_) AllReadyH.nil)
              rw [if_pos (by rfl)]
              go_simp
              refine HLEN.out.mono ?_
              rintro e u1 ⟨rfl, hu1⟩
              have HU := Lib.hid hu1.symm
              clear hu1
              show K _ _
              refine hK.out _ _ HU (fun hS => ?_)
              clear hK K
              try go_frame
              refine held_pure (i := 7) (oi := ⟨some 131, _, _, _, _, _⟩) rfl (by kernel_rfl) (by kernel_rfl) (by kernel_rfl) (fun _ _ _ h => h) (by rfl) (v := .bool false) (fun w hSw => by go_simp) hS (fun hS => ?_)
              try go_frame
              refine wpAnyH_done (by kernel_rfl) ?_ _
              gi_wp2
              go_roundw
              case rel =>
                have eu := hS.out
                subst eu
                exact ⟨k + 1, ptM a0 M x.y.x, by omega, by simp, Lib.hid (csn_any HCZ.out), Lib.hid (rsn_any HRZ.out), Lib.hid hmz, HBZ⟩
              case measure => simp [intOf]; omega
            · rw [htk] at kd0
              have kd1 : w7.cell? ⟨bd, 1, none⟩ = some (.int .i64 x.at_) := cells_at (i := 1) HD7.out rfl
              have HTC := Lib.hid (cs_take HC7.out hgK HM.out x.at_)
              gi_upto_region 16 with fail
              refine wpIn_wide.2 ?_
              go_wp2_with (first
                | (go_at_call 12; (with_reducible refine HTC.out.mono ?_); rintro e w8 ⟨P8, p8, he, ow8, c8, k8⟩; obtain rfl := he.out; clear he; have h8 := blkN H117.out k8 (fun e => Nat.lt_irrefl _ e.1))
                | ((with_reducible show wpList _ _ _ (Oper.mk _ (Op.store 33 _ _) _ _ _ _ :: _) _ _); refine nis_store (cs := (clI ⟨lkI x.at_ M, P8, p8⟩).toArray) rfl rfl h8 rfl rfl (clI_all _) ?_))
              have kr8 : Kept (fun i => i = b11) w8 (w8.setRow b11 (clI ⟨lkI x.at_ M, P8, p8⟩).toArray) := Kept.setRow w8 b11 _
              have HC8 := Lib.hid (c8.box h8 (fun h => Nat.lt_irrefl _ h) kr8)
              have HR8 := Lib.hid ((HR7.out.kept (k8.mono (fun i _ h => h.2))).keptT kr8 (away_of h8) (nat_ne (by kernel_rfl)) (nat_ne (by kernel_rfl)) (nat_ne (by kernel_rfl)))
              have HB8 := Lib.hid ((HB7.out.kept k8 (fun i h => HB7.out.no hg tn_ptr.1 i h.2)).kept kr8 (fun i e => by subst e; exact ⟨by omega, by omega⟩))
              have HD8 := Lib.hid (blkN (blkN HD7.out k8 (fun h => nnb_no HD7.out tnc_do.1 h.2)) kr8 (by omega))
              have H138 := Lib.hid (blkN (blkN H137.out k8 (fun h => nnb_no H137.out tnc_no.2.1 h.2)) kr8 (by omega))
              have HO8 := Lib.hid (OwnI.keptT ow8 kr8 (away_of h8) (nat_ne (by kernel_rfl)))
              have H118 := Lib.hid (setRow_heap w8 b11 _ (clI ⟨lkI x.at_ M, P8, p8⟩).toArray _ _ h8)
              have z8 : b13 < (w8.setRow b11 (clI ⟨lkI x.at_ M, P8, p8⟩).toArray).heap.size := Nat.lt_of_lt_of_le z7 (Nat.le_trans k8.size kr8.size)
              clear c8 k8 ow8 h8 kr8 HTC kd1 kd0 HC7 HR7 HB7 HD7 H117 H137 HXA7 z7
              generalize w8.setRow b11 (clI ⟨lkI x.at_ M, P8, p8⟩).toArray = W8 at *
              have kd1 : W8.cell? ⟨bd, 1, none⟩ = some (.int .i64 x.at_) := cells_at (i := 1) HD8.out rfl
              have kb7 := Boxed.cell HB8.out.ref
              have HTR := Lib.hid (rs_take HR8.out x.at_)
              gi_upto_region 17 with fail
              refine wpIn_wide.2 ?_
              go_wp2_with (first
                | (go_at_call 13; (with_reducible refine HTR.out.mono ?_); rintro e w9 ⟨P9, p9, he, ow9, c9, k9⟩; obtain rfl := he.out; clear he; have h9 := blkN H138.out k9 (by omega))
                | ((with_reducible show wpList _ _ _ (Oper.mk _ (Op.store 38 _ _) _ _ _ _ :: _) _ _); refine nir_store (cs := (clI ⟨lkI x.at_ M, P9, p9⟩).toArray) rfl rfl h9 rfl rfl (clI_all _) ?_))
              have kr9 : Kept (fun i => i = b13) w9 (w9.setRow b13 (clI ⟨lkI x.at_ M, P9, p9⟩).toArray) := Kept.setRow w9 b13 _
              have HR9 := Lib.hid (c9.box h9 (fun h => by rcases h with h | h <;> omega) kr9)
              have HC9 := Lib.hid ((HC8.out.keptT k9 HR8.out.away (nat_ne (by kernel_rfl)) (nat_ne (by kernel_rfl)) (nat_ne (by kernel_rfl))).keptT kr9 (away_of h9) (nat_ne (by kernel_rfl)) (nat_ne (by kernel_rfl)) (nat_ne (by kernel_rfl)))
              have HB9 := Lib.hid ((HB8.out.kept k9 (fun i e => by subst e; exact ⟨hgr, by omega⟩)).kept kr9 (fun i e => by subst e; exact ⟨by omega, by omega⟩))
              have H119 := Lib.hid (blkN (blkN H118.out k9 (fun e => by obtain ⟨A0, c0, h0⟩ := HR8.out.head; have h1 := H118.out; rw [e, h0] at h1; injection h1 with h1; injection h1 with _ h1 _; exact absurd h1 (nat_ne (by kernel_rfl)))) kr9 (by omega))
              have HO9 := Lib.hid (OwnI.keptT (OwnI.keptT HO8.out k9 HR8.out.away (nat_ne (by kernel_rfl))) kr9 (away_of h9) (nat_ne (by kernel_rfl)))
              have HP9 := Lib.hid (OwnI.keptT ow9 kr9 (away_of h9) (nat_ne (by kernel_rfl)))
              have H139 := Lib.hid (setRow_heap w9 b13 _ (clI ⟨lkI x.at_ M, P9, p9⟩).toArray _ _ h9)
              clear c9 k9 ow9 h9 kr9 HTR kd1 kb7 HC8 HR8 HB8 HD8 H118 H138 HO8 z8
              generalize w9.setRow b13 (clI ⟨lkI x.at_ M, P9, p9⟩).toArray = W9 at *
              gi_upto_region 18 with fail
              refine wpIn_wide.2 ?_
              go_wp2_with (first
                | ((with_reducible show wpList _ _ _ (Oper.mk _ (Op.load 33 _) _ _ _ _ :: _) _ _); refine wpList_valw (by rfl) (run_load_nis rfl rfl (range_heap H119.out) rfl) ?_)
                | ((with_reducible show wpList _ _ _ (Oper.mk _ (Op.load 38 _) _ _ _ _ :: _) _ _); refine wpList_valw (by rfl) (run_load_nir rfl rfl (range_heap H139.out) rfl) ?_)
                | (go_at_call 11; (with_reducible refine (ntsame ⟨lkI x.at_ M, P8, p8⟩ ⟨lkI x.at_ M, P9, p9⟩ rfl HO9.out.arg HP9.out.arg).mono ?_); rintro e w10 ⟨rfl, x10⟩))
              have hcz := HC9.out.below x10
              have hrz := HR9.out.below x10
              have hbz := HB9.out.below x10
              have hmz : SmI (tkI x.at_ M) := SmI.tk HM.out x.at_
              clear x10 HC9 HR9 HB9 H119 H139 HO9 HP9
              have bZ := (Below.refl w10.heap.size w10).drew
              have HCZ := Lib.hid (hcz.below bZ)
              have HRZ := Lib.hid (hrz.below bZ)
              have HBZ := Lib.hid (hbz.below bZ)
              obtain ⟨AZ, cZ, hgZ⟩ := HRZ.out.head
              obtain ⟨mz, emz⟩ : ∃ mz, mz = (tkI x.at_ M).length := ⟨_, rfl⟩
              have hlen9 := cs_len HCZ.out
              rw [← emz] at hlen9 hgZ
              have HLEN := Lib.hid hlen9
              have KL : Hid (w10.drew.cell? ⟨gr, 0, none⟩ = some (.slice AZ mz cZ)) := Lib.hid (cells_at (i := 0) hgZ rfl)
              have K7 := Lib.hid (Boxed.cell HBZ.out.ref)
              clear bZ hcz hrz hbz hgZ emz hlen9
              gi_upto_region 22 with fail
              refine wpIn_calmN ?_
              refine wpIn_wide.2 ?_
              refine wp_region_held_drew (S := fun V => Hid (V = w10.drew)) (by kernel_rfl) (Lib.hid rfl) (fun hS => ?_)
              refine held_pure (i := 0) (oi := ⟨some 124, _, _, _, _, _⟩) rfl (by kernel_rfl) (by kernel_rfl) (by kernel_rfl) (fun _ _ _ h => h) (by rfl) (v := ?_) (fun w hSw => ?_) hS (fun hS => ?_)
              rotate_left
              · go_simp; try with_reducible rfl
              try go_frame
              refine held_pure (i := 2) (oi := ⟨some 126, _, _, _, _, _⟩) rfl (by kernel_rfl) (by kernel_rfl) (by kernel_rfl) (fun _ _ _ h => h) (by rfl) (fun w hSw => run_load_pR rfl rfl (by rw [hSw.out]; exact K7.out)) hS (fun hS => ?_)
              try go_frame
              refine held_pure (i := 3) (oi := ⟨some 127, _, _, _, _, _⟩) rfl (by kernel_rfl) (by kernel_rfl) (by kernel_rfl) (fun _ _ _ h => h) (by rfl) (v := ?_) (fun w hSw => ?_) hS (fun hS => ?_)
              rotate_left
              · go_simp; try with_reducible rfl
              try go_frame
              refine held_pure (i := 4) (oi := ⟨some 128, _, _, _, _, _⟩) rfl (by kernel_rfl) (by kernel_rfl) (by kernel_rfl) (fun _ _ _ h => h) (by rfl) (v := ?_) (fun w hSw => ?_) hS (fun hS => ?_)
              rotate_left
              · go_simp; try with_reducible rfl
              try go_frame
              refine held_pure (i := 5) (oi := ⟨some 129, _, _, _, _, _⟩) rfl (by kernel_rfl) (by kernel_rfl) (by kernel_rfl) (fun _ _ _ h => h) (by rfl) (fun w hSw => run_load_itR rfl rfl (by rw [hSw.out]; exact KL.out)) hS (fun hS => ?_)
              try go_frame
              refine held_pure (i := 6) (oi := ⟨some 130, _, _, _, _, _⟩) rfl (by kernel_rfl) (by kernel_rfl) (by kernel_rfl) (fun _ _ _ h => h) (by rfl) (v := ?_) (fun w hSw => ?_) hS (fun hS => ?_)
              rotate_left
              · go_simp; try with_reducible rfl
              try go_frame
              refine wpAnyH_ready (rs := [1]) (by kernel_rfl) (by simp) (AllReadyH.cons (o := ⟨some 125, _, _, _, _, _⟩) rfl (fun K hK => ?_) AllReadyH.nil)
              rw [if_pos (by rfl)]
              go_simp
              refine HLEN.out.mono ?_
              rintro e u1 ⟨rfl, hu1⟩
              have HU := Lib.hid hu1.symm
              clear hu1
              show K _ _
              refine hK.out _ _ HU (fun hS => ?_)
              clear hK K
              try go_frame
              refine held_pure (i := 7) (oi := ⟨some 131, _, _, _, _, _⟩) rfl (by kernel_rfl) (by kernel_rfl) (by kernel_rfl) (fun _ _ _ h => h) (by rfl) (v := .bool false) (fun w hSw => by go_simp) hS (fun hS => ?_)
              try go_frame
              refine wpAnyH_done (by kernel_rfl) ?_ _
              gi_wp2
              go_roundw
              case rel =>
                have eu := hS.out
                subst eu
                exact ⟨k + 1, tkI x.at_ M, by omega, by simp, Lib.hid (csn_any HCZ.out), Lib.hid (rsn_any HRZ.out), Lib.hid hmz, HBZ⟩
              case measure => simp [intOf]; omega
      · obtain rfl : n = k := by omega
        have HML := Lib.hid HC.out.len
        have kb7 := Boxed.cell HB.out.ref
        obtain ⟨W1, hW1⟩ : ∃ W1, W1 = wr.alloc (.cells #[.int .i64 0] 3) := ⟨_, rfl⟩
        have bW1 : Below wr.heap.size wr W1 := by rw [hW1]; exact (Below.refl _ wr).alloc (Nat.le_refl _) _
        have hi1 : Boxed W1 wr.heap.size 3 (.int .i64 0) := by rw [hW1]; exact Boxed.new wr _ _
        have HW1 := Lib.hid hW1
        have HALL := Lib.hid (cs_all (HC.out.below bW1) HM.out)
        have HR1 := Lib.hid (HR.out.below bW1)
        have HB1 := Lib.hid (HB.out.below bW1)
        have HI1 := Lib.hid hi1
        have hlw : w.heap.size < wr.heap.size := Boxed.lt HB.out.res
        have hb7i : b7 < wr.heap.size := Boxed.lt HB.out.ref
        clear hW1 bW1 hi1 HC HR HB
        gi_wp2_with (refine ⟨trivial, ?_⟩; rw [← HW1.out]; gi_at_call 17; refine (callsIn_wide.2 HALL.out).mono ?_; rintro e W2 ⟨B, rfl, hseq, x2⟩)
        have HB2 := Lib.hid (HB1.out.below x2)
        have HR2 := Lib.hid (HR1.out.below x2)
        have HI2 := Lib.hid (Boxed.below HI1.out x2 (Boxed.lt HI1.out))
        generalize wr.heap.size = bi at *
        have hbi : bi < W2.heap.size := Boxed.lt HI2.out
        clear HW1 HALL HB1 HR1 HI1 x2 kb7
        refine wpIn_actN (fun ac hac => ?_)
        refine range_toldA (by omega) (gf := 24) (lb := #[.pointer (some ⟨B, 0, none⟩)]) (by subst hac; rfl) (enters_of Try.func24 (by kernel_rfl) rfl)
          (hseq (4 - 1) (by omega)) KeepS.trans (fun V l r r' hl hr => KeepS.loop hr) (Below.refl _ _) (fun _ => rfl)
          (fun pre X => BxL w b7 (.pointer (some ⟨gr, 0, none⟩)) X ∧ Boxed X bi 3 (.int .i64 (pre.length : Int)) ∧ RsN (fun _ => True) X gr a0 M)
          (fun _ _ _ => False)
          (fun pre X Y r hs hg hr => ⟨hs.1.grown hg hr (by omega), box_keep hs.2.1 hg hr, hs.2.2.grown hg hr⟩)
          (fun cd pre X Y r hs hg hr => hs)
          ⟨HB2.out, HI2.out, HR2.out⟩
          (fun pre y c X => GY M pre y X ∧ ∃ b16, c = { tmps := (ac.tmps.setIfInBounds 138 (.agg (clI y).toArray)).setIfInBounds 16 (.pointer (some ⟨b16, 0, none⟩)), defers := [] } ∧ X.heap[b16]? = some (.cells (clI y).toArray 33 (0, 0)))
          (fun X Y h => KeepS.of_below h)
          (fun pre x c W l r r' h hlo hl => ⟨GY.turn h.1 hl, by
            obtain ⟨_, b16, e, h2⟩ := h
            exact ⟨b16, e, (World.putObj_heap_other (by intro e; subst e; rw [hl] at h2; cases h2)).trans h2⟩⟩)
          ?assign ?body ?done ?stop
        case assign =>
          intro l pre y X K _ hG hK
          have hz9 := (Below.refl X.heap.size X).alloc (Nat.le_refl _) (.cells (clI y).toArray 33)
          have hKK := hK _ _ hz9 ⟨⟨hG.1, (hG.2.below hz9).more hz9.size⟩, X.heap.size, rfl, World.alloc_heap_new X _⟩
          subst hac
          clear hK
          dsimp only [encY]
          gi_wp2_with (first
            | ((with_reducible show wpListIn _ _ _ _ _ (Oper.mk _ (Op.store 33 _ _) _ _ _ _ :: _) _ _); refine listN_skip rfl (fun c h => by cases h) (run_store_nisN (cs := (clI y).toArray) rfl rfl rfl (World.alloc_heap_new X _) rfl rfl (clI_all _)) ?_; rw [World.setRow_alloc_new]))
          first | exact hKK | simpa using hKK
        case stop =>
          rintro D cd pre X hD _ hf hK
          exact hf.elim
        case body =>
          rintro l pre y cc X ⟨hBX, hiX, hRX⟩ ⟨⟨⟨more, hmore⟩, hAy⟩, b16, rfl, h16⟩
          subst hac
          have hxm : M[pre.length]? = some y.x := by rw [hmore, List.getElem?_append_right (by rw [List.length_map]; exact Nat.le_refl _), List.length_map, Nat.sub_self]; rfl
          obtain ⟨m, hm⟩ : ∃ m, m = pre.length := ⟨_, rfl⟩
          rw [← hm] at hxm hiX
          have HMM := Lib.hid hm
          obtain ⟨b9, o9, c9, A9, p9, hg9, hr9, hb9, ha9⟩ := hRX.item hxm
          have hml : m < M.length := (List.getElem?_eq_some_iff.1 hxm).1
          have hMl : M.length ≤ 4096 := HML.out
          obtain ⟨ml, hmll⟩ : ∃ ml, ml = M.length := ⟨_, rfl⟩
          rw [← hmll] at hg9 hml hMl
          have HBX := Lib.hid hBX
          have HIX := Lib.hid hiX
          have HRX := Lib.hid hRX
          have K16 : Hid (∀ V, Below X.heap.size X V → V.rangeAt b16 0 (clI y)) := Lib.hid fun V hV => range_heap ((hV.block _ (heap_lt h16)).trans h16)
          have KN : Hid (∀ V, Below X.heap.size X V → V.cell? ⟨bi, 0, none⟩ = some (.int .i64 (m : Int))) := Lib.hid fun V hV => Boxed.cell (Boxed.below HIX.out hV (Boxed.lt HIX.out))
          have K7 : Hid (∀ V, Below X.heap.size X V → V.cell? ⟨b7, 0, none⟩ = some (.pointer (some ⟨gr, 0, none⟩))) := Lib.hid fun V hV => Boxed.cell (Boxed.below HBX.out.ref hV (Boxed.lt HBX.out.ref))
          have KL : Hid (∀ V, Below X.heap.size X V → V.cell? ⟨gr, 0, none⟩ = some (.slice (some ⟨b9, o9, none⟩) ml c9)) := Lib.hid fun V hV => cells_at (i := 0) ((hV.block _ (heap_lt hg9)).trans hg9) rfl
          have KI : Hid (∀ V, Below X.heap.size X V → V.rangeAt b9 (o9 + m * 3) (clI ⟨y.x, A9, p9⟩)) := Lib.hid fun V hV => range_below hr9 hb9 hV
          have HSAME : Hid (∀ V, Below X.heap.size X V → Calls Try.prog 11 #[.agg (clI y).toArray, .agg (clI ⟨y.x, A9, p9⟩).toArray] V fun e w' => e = .returned (.bool true) ∧ Below V.heap.size V w') := Lib.hid fun V hV => by
            have q := hV
            exact ntsame y ⟨y.x, A9, p9⟩ rfl ((hAy.below q).more q.size) ((ha9.below q).more q.size)
          have dm : decide ((ml : Int) ≤ (m : Int)) = false := decide_eq_false (by omega)
          have dm' : decide ((m : Int) ≥ (ml : Int)) = false := dm
          have KIS : Hid (∀ V, Below X.heap.size X V → V.frozen? ⟨bi, 0, none⟩ = false) := Lib.hid fun V hV => Boxed.frozen (Boxed.below HIX.out hV (Boxed.lt HIX.out))
          clear hmore hAy hxm hm hg9 hr9 ha9 h16 hBX hiX hRX hmll hseq HB2 HR2 HI2
          gi_upto_region 30 with fail
          refine region_roundA (S := fun V => Below X.heap.size X V) (by kernel_rfl) (by kernel_rfl) (fun h => by obtain ⟨_, _, h⟩ := h; exact h) (Below.refl _ X).drew (fun hS => ?_)
          refine held_pure (i := 0) (oi := ⟨some 139, _, _, _, _, _⟩) rfl (by kernel_rfl) (by kernel_rfl) (by kernel_rfl) (fun _ _ _ h => h) (by rfl) (fun w hSw => run_load_int rfl rfl (KN.out _ hSw)) hS (fun hS => ?_)
          try go_frame
          refine held_pure (i := 1) (oi := ⟨some 140, _, _, _, _, _⟩) rfl (by kernel_rfl) (by kernel_rfl) (by kernel_rfl) (fun _ _ _ h => h) (by rfl) (fun w hSw => run_load_pR rfl rfl (K7.out _ hSw)) hS (fun hS => ?_)
          try go_frame
          refine held_pure (i := 2) (oi := ⟨some 141, _, _, _, _, _⟩) rfl (by kernel_rfl) (by kernel_rfl) (by kernel_rfl) (fun _ _ _ h => h) (by rfl) (v := ?_) (fun w hSw => ?_) hS (fun hS => ?_)
          rotate_left
          · go_simp; try with_reducible rfl
          try go_frame
          refine held_pure (i := 3) (oi := ⟨some 142, _, _, _, _, _⟩) rfl (by kernel_rfl) (by kernel_rfl) (by kernel_rfl) (fun _ _ _ h => h) (by rfl) (v := ?_) (fun w hSw => ?_) hS (fun hS => ?_)
          rotate_left
          · go_simp; try with_reducible rfl
          try go_frame
          refine held_pure (i := 4) (oi := ⟨some 143, _, _, _, _, _⟩) rfl (by kernel_rfl) (by kernel_rfl) (by kernel_rfl) (fun _ _ _ h => h) (by rfl) (fun w hSw => run_load_itR rfl rfl (KL.out _ hSw)) hS (fun hS => ?_)
          try go_frame
          refine held_pure (i := 5) (oi := ⟨some 144, _, _, _, _, _⟩) rfl (by kernel_rfl) (by kernel_rfl) (by kernel_rfl) (fun _ _ _ h => h) (by rfl) (v := ?_) (fun w hSw => ?_) hS (fun hS => ?_)
          rotate_left
          · go_simp; try with_reducible rfl
          try go_frame
          refine held_pure (i := 6) (oi := ⟨some 145, _, _, _, _, _⟩) rfl (by kernel_rfl) (by kernel_rfl) (by kernel_rfl) (fun _ _ _ h => h) (by rfl) (v := .bool false) (fun w hSw => by go_simp; (try rw [dm]); (try rfl)) hS (fun hS => ?_)
          try go_frame
          refine held_pure (i := 7) (oi := ⟨some 146, _, _, _, _, _⟩) rfl (by kernel_rfl) (by kernel_rfl) (by kernel_rfl) (fun _ _ _ h => h) (by rfl) (v := ?_) (fun w hSw => ?_) hS (fun hS => ?_)
          rotate_left
          · go_simp; try with_reducible rfl
          try go_frame
          refine held_pure (i := 8) (oi := ⟨some 147, _, _, _, _, _⟩) rfl (by kernel_rfl) (by kernel_rfl) (by kernel_rfl) (fun _ _ _ h => h) (by rfl) (fun w hSw => run_load_nis rfl rfl (K16.out _ hSw) rfl) hS (fun hS => ?_)
          try go_frame
          refine held_pure (i := 9) (oi := ⟨some 148, _, _, _, _, _⟩) rfl (by kernel_rfl) (by kernel_rfl) (by kernel_rfl) (fun _ _ _ h => h) (by rfl) (fun w hSw => run_load_pR rfl rfl (K7.out _ hSw)) hS (fun hS => ?_)
          try go_frame
          refine held_pure (i := 10) (oi := ⟨some 149, _, _, _, _, _⟩) rfl (by kernel_rfl) (by kernel_rfl) (by kernel_rfl) (fun _ _ _ h => h) (by rfl) (v := ?_) (fun w hSw => ?_) hS (fun hS => ?_)
          rotate_left
          · go_simp; try with_reducible rfl
          try go_frame
          refine held_pure (i := 11) (oi := ⟨some 150, _, _, _, _, _⟩) rfl (by kernel_rfl) (by kernel_rfl) (by kernel_rfl) (fun _ _ _ h => h) (by rfl) (v := ?_) (fun w hSw => ?_) hS (fun hS => ?_)
          rotate_left
          · go_simp; try with_reducible rfl
          try go_frame
          refine held_pure (i := 12) (oi := ⟨some 151, _, _, _, _, _⟩) rfl (by kernel_rfl) (by kernel_rfl) (by kernel_rfl) (fun _ _ _ h => h) (by rfl) (fun w hSw => run_load_itR rfl rfl (KL.out _ hSw)) hS (fun hS => ?_)
          try go_frame
          refine held_pure (i := 13) (oi := ⟨some 152, _, _, _, _, _⟩) rfl (by kernel_rfl) (by kernel_rfl) (by kernel_rfl) (fun _ _ _ h => h) (by rfl) (fun w hSw => run_load_int rfl rfl (KN.out _ hSw)) hS (fun hS => ?_)
          try go_frame
          refine held_pure (i := 14) (oi := ⟨some 153, _, _, _, _, _⟩) rfl (by kernel_rfl) (by kernel_rfl) (by kernel_rfl) (fun _ _ _ h => h) (by rfl) (v := Value.pointer (some ⟨b9, o9 + m * 3, none⟩)) (fun w hSw => by go_simp) hS (fun hS => ?_)
          try go_frame
          refine held_pure (i := 15) (oi := ⟨some 154, _, _, _, _, _⟩) rfl (by kernel_rfl) (by kernel_rfl) (by kernel_rfl) (fun _ _ _ h => h) (by rfl) (fun w hSw => run_load_nirA rfl rfl (KI.out _ hSw) rfl) hS (fun hS => ?_)
          try go_frame
          refine wpAnyH_ready (rs := [16]) (by kernel_rfl) (by simp) (AllReadyH.cons (o := ⟨some 155, _, _, _, _, _⟩) rfl (fun K hK => ?_) AllReadyH.nil)
          rw [if_pos (by rfl)]
          go_simp
          refine (HSAME.out _ hS).mono ?_
          rintro e u16 ⟨rfl, x16⟩
          show K _ _
          refine hK.out _ _ (hS.trans (x16.mono hS.size)) (fun hS => ?_)
          clear hK K
          try go_frame
          refine held_pure (i := 17) (oi := ⟨some 156, _, _, _, _, _⟩) rfl (by kernel_rfl) (by kernel_rfl) (by kernel_rfl) (fun _ _ _ h => h) (by rfl) (v := ?_) (fun w hSw => ?_) hS (fun hS => ?_)
          rotate_left
          · go_simp; try with_reducible rfl
          try go_frame
          refine held_pure (i := 18) (oi := ⟨some 157, _, _, _, _, _⟩) rfl (by kernel_rfl) (by kernel_rfl) (by kernel_rfl) (fun _ _ _ h => h) (by rfl) (v := ?_) (fun w hSw => ?_) hS (fun hS => ?_)
          rotate_left
          · go_simp; try with_reducible rfl
          try go_frame
          refine wpAnyH_done (by kernel_rfl) ?_ _
          have kn := KN.out _ hS
          have fn_ := KIS.out _ hS
          gi_wp2
          have hXu := Boxed.below HIX.out hS (Boxed.lt HIX.out)
          have kS : Kept (fun i => i = bi) u16 (u16.setCell ⟨bi, 0, none⟩ (.int .i64 ((m : Int) + 1))) := Kept.setCell u16 bi 0 _
          refine ⟨keepsFrom_kN ((Kept.of_below hS).trans kS (fun _ _ e => e)) (fun i e => .inl (by subst e; exact ⟨_, _, _, HIX.out⟩)), KeepS.trans (KeepS.of_below hS) (KeepS.set hXu rfl), (HBX.out.below hS).kept kS (fun i e => by subst e; exact ⟨hlw, by omega⟩), ?_, (HRX.out.below hS).setInt hXu⟩
          rw [show ((pre ++ [y]).length : Int) = (m : Int) + 1 from by rw [HMM.out]; simp]
          exact Boxed.set _ hXu
        case done =>
          rintro D xs X hD hxs ⟨hBX, hiX, hRX⟩ hK
          subst hac
          have hlen : xs.length = M.length := by rw [← hxs, List.length_map]
          rw [hlen] at hiX
          obtain ⟨ml, hmll⟩ : ∃ ml, ml = M.length := ⟨_, rfl⟩
          obtain ⟨A9, c9, hg9⟩ := hRX.head
          rw [← hmll] at hg9 hiX
          have hm1 : Marks W2.heap.size X.heap.size [{ target := .collected D, args := #[] }] X := (Marks.push (hi := D) (ds := []) trivial (Nat.le_refl _) hD hK).more (heap_lt hK)
          have HBX := Lib.hid hBX
          have KN : Hid (∀ V, Kept (fun i => i = w.heap.size) X V → V.cell? ⟨bi, 0, none⟩ = some (.int .i64 (ml : Int))) := Lib.hid fun V hV => Boxed.cell ((hV.block bi (heap_lt hiX) (by omega)).trans hiX)
          have K7 : Hid (∀ V, Kept (fun i => i = w.heap.size) X V → V.cell? ⟨b7, 0, none⟩ = some (.pointer (some ⟨gr, 0, none⟩))) := Lib.hid fun V hV => Boxed.cell ((hV.block b7 (heap_lt hBX.ref) (by have := hBX.lt; omega)).trans hBX.ref)
          have KL : Hid (∀ V, Kept (fun i => i = w.heap.size) X V → V.cell? ⟨gr, 0, none⟩ = some (.slice A9 ml c9)) := Lib.hid fun V hV => cells_at (i := 0) ((hV.block gr (heap_lt hg9) (by omega)).trans hg9) rfl
          have hml : ml ≤ 4096 := by rw [hmll]; exact HML.out
          have hS0 : Kept (fun i => i = w.heap.size) X X.drew ∧ ∃ b, Boxed X.drew w.heap.size 4 (.bool b) := ⟨Kept.drew X, false, hBX.res⟩
          clear hRX hBX hg9 hiX hxs hlen hmll hseq HB2 HR2 HI2 hK
          gi_upto_region 33 with fail
          refine wpIn_calmN ?_
          refine wpIn_wide.2 ?_
          refine wp_region_held_drew (S := fun V => Kept (fun i => i = w.heap.size) X V ∧ ∃ b, Boxed V w.heap.size 4 (.bool b)) (by kernel_rfl) hS0 (fun hS => ?_)
          refine held_pure (i := 0) (oi := ⟨some 160, _, _, _, _, _⟩) rfl (by kernel_rfl) (by kernel_rfl) (by kernel_rfl) (fun _ _ _ h => h) (by rfl) (fun w hSw => run_load_int rfl rfl (KN.out _ hSw.1)) hS (fun hS => ?_)
          try go_frame
          refine held_pure (i := 1) (oi := ⟨some 161, _, _, _, _, _⟩) rfl (by kernel_rfl) (by kernel_rfl) (by kernel_rfl) (fun _ _ _ h => h) (by rfl) (fun w hSw => run_load_pR rfl rfl (K7.out _ hSw.1)) hS (fun hS => ?_)
          try go_frame
          refine held_pure (i := 2) (oi := ⟨some 162, _, _, _, _, _⟩) rfl (by kernel_rfl) (by kernel_rfl) (by kernel_rfl) (fun _ _ _ h => h) (by rfl) (v := ?_) (fun w hSw => ?_) hS (fun hS => ?_)
          rotate_left
          · go_simp; try with_reducible rfl
          try go_frame
          refine held_pure (i := 3) (oi := ⟨some 163, _, _, _, _, _⟩) rfl (by kernel_rfl) (by kernel_rfl) (by kernel_rfl) (fun _ _ _ h => h) (by rfl) (v := ?_) (fun w hSw => ?_) hS (fun hS => ?_)
          rotate_left
          · go_simp; try with_reducible rfl
          try go_frame
          refine held_pure (i := 4) (oi := ⟨some 164, _, _, _, _, _⟩) rfl (by kernel_rfl) (by kernel_rfl) (by kernel_rfl) (fun _ _ _ h => h) (by rfl) (fun w hSw => run_load_itR rfl rfl (KL.out _ hSw.1)) hS (fun hS => ?_)
          try go_frame
          refine held_pure (i := 5) (oi := ⟨some 165, _, _, _, _, _⟩) rfl (by kernel_rfl) (by kernel_rfl) (by kernel_rfl) (fun _ _ _ h => h) (by rfl) (v := ?_) (fun w hSw => ?_) hS (fun hS => ?_)
          rotate_left
          · go_simp; try with_reducible rfl
          try go_frame
          refine held_pure (i := 6) (oi := ⟨some 166, _, _, _, _, _⟩) rfl (by kernel_rfl) (by kernel_rfl) (by kernel_rfl) (fun _ _ _ h => h) (by rfl) (v := .bool true) (fun w hSw => by go_simp) hS (fun hS => ?_)
          try go_frame
          refine held_pure (i := 7) (oi := ⟨some 167, _, _, _, _, _⟩) rfl (by kernel_rfl) (by kernel_rfl) (by kernel_rfl) (fun _ _ _ h => h) (by rfl) (v := ?_) (fun w hSw => ?_) hS (fun hS => ?_)
          rotate_left
          · go_simp; try with_reducible rfl
          try go_frame
          refine wpAnyH_ready (rs := [8]) (by kernel_rfl) (by simp) (AllReadyH.cons (o := ⟨some 168, _, _, _, _, _⟩) rfl (fun K hK => ?_) AllReadyH.nil)
          rw [if_pos (by rfl)]
          go_simp
          refine (awake34 _).mono ?_
          rintro e u8 ⟨rfl, x8⟩
          obtain ⟨b8, hb8⟩ := hS.2
          have hb9 := Boxed.below hb8 x8 (Boxed.lt hb8)
          have k9 := Boxed.cell hb9
          have f9 := Boxed.frozen hb9
          show K _ _
          refine hK.out _ _ ⟨hS.1.then_below x8, b8, hb9⟩ (fun hS => ?_)
          clear hK K
          try go_frame
          refine held_pure (i := 9) (oi := ⟨some 169, _, _, _, _, _⟩) rfl (by kernel_rfl) (by kernel_rfl) (by kernel_rfl) (fun _ _ _ h => h) (by rfl) (v := ?_) (fun w hSw => ?_) hS (fun hS => ?_)
          rotate_left
          · go_simp; try with_reducible rfl
          try go_frame
          refine wpAnyH_ready (rs := [10]) (by kernel_rfl) (by simp) (AllReadyH.cons (o := ⟨none, _, _, _, _, _⟩) rfl (fun K hK => ?_) AllReadyH.nil)
          rw [if_pos (by rfl)]
          go_simp
          refine hK.out _ _ ⟨hS.1.trans (Kept.setCell _ _ 0 _) (fun _ _ e => e), _, Boxed.set _ hb9⟩ (fun hS => ?_)
          clear hK K
          try go_frame
          refine wpAnyH_done (by kernel_rfl) ?_ _
          gi_wp2
          refine leaves_marks W2.heap.size (fun Y => Boxed Y w.heap.size 4 (.bool true) ∧ Below w.heap.size w Y)
            (fun Y D hY h1 h2 => ⟨box_keep (n := W2.heap.size) hY.1 (grownBy_putObj' Y D _) (fun k e => by cases e; exact ⟨h1, _, h2, rfl⟩), hY.2.trans (belowK_b (w := w) (Nat.le_refl _) Y D _ _ (by omega) h2 rfl rfl)⟩)
            (fun Y hY => ⟨_, cell1n rfl rfl hY.1, rfl, hY.2⟩) _ _ _ (hm1.keep (fun k h1 h2 => hS.1.block k h2 (by omega))) ⟨Boxed.set _ hb9, HBX.out.fin hS.1⟩

/-! ### The row's step -/
set_option maxRecDepth 100000 in
theorem lifted (os : Os) (started : os.Started) (H : Type) (enc : TypeId × Value → H) :
    ReturnsInHanded {} Try.checked os 3 .any (Rows.netLivesSpec.pre6 enc Try.prog Try.f3 Rows.netLivesRow.domain false) (Rows.netLivesSpec.post enc Try.prog Try.f3 false true false false) := by
  refine returnsInHanded_of_change (C := Try.checked) own started (by kernel_rfl) Try.func3
    (ChangeSpec.witness6 (enc := enc) (C := Try.checked) false ⟨#[], #[.int .i64 0, .slice none 0 0], []⟩ 8 (by kernel_rfl) (by kernel_rfl) (by kernel_rfl) (by kernel_rfl)) ?_
  intro W base args ds gs before hval0 hW hcnd _
  have hval : ∀ (j : Nat) t v, Try.f3.params[j]? = some t → args[j]? = some v → Value.okWide Try.prog W .any base t v := hval0
  have hW' := hW
  obtain ⟨p, q, hA0, hV, rfl, hfz, hnd⟩ := hW
  have hA : DataW.TrodAll enc Try.prog W 0 (fun _ => true) true Try.f3.params.toList args.toList ds p := hA0
  rw [Try.params3] at hA hval
  obtain ⟨v0, vs0, d0, ds0, p0, q0, hargs, rfl, rfl, t0, r0⟩ := trodAll_cons hA
  obtain ⟨v1, vs1, d1, ds1, p1, q1, rfl, rfl, rfl, t1, r1⟩ := trodAll_cons r0
  obtain ⟨rfl, rfl, rfl⟩ := trodAll_nil r1
  obtain rfl : args = #[v0, v1] := by cases args; simp_all
  obtain ⟨rfl, rfl⟩ := trodVars_none hV
  have k0 := t0
  have lt0 := Trod_lt t0
  have k1 := t1
  have lt1 := Trod_lt t1
  obtain ⟨a0, rfl, w0⟩ := get_int Try.underlying3 (hval 0 3 v0 rfl rfl) t0
  obtain ⟨A1, c1, l1, rfl, h1, e1, n1, m1⟩ := get_dns (hval 1 22 v1 rfl rfl) t1
  clear hA0 hval0
  refine (walk a0 A1 c1 l1 W w0 h1 e1 n1 m1).mono fun e W' ⟨he, bel⟩ => ?_
  subst he
  exact ⟨_, rfl, _, _, _, [], _, [], hW', trodAll_mk1 (shut_bool Try.underlying4 _), (trodAll_cons_mk (Below.trod laidOut (by kernel_rfl) (of_decide_eq_true (by kernel_rfl)) k0 bel lt0) (trodAll_cons_mk (Below.trod laidOut (by kernel_rfl) (of_decide_eq_true (by kernel_rfl)) k1 bel lt1) trodAll_mk0)), rfl, bel.frame _, fun h => by cases h⟩

theorem over : Rows.netLivesRow.holds Try.pinned (OpenSpec.ofChange Rows.netLivesSpec) :=
  OpenClaim.holds_of_wide 3 Try.f3 rfl rfl rfl rfl rfl rfl rfl ⟨rfl, rfl, rfl, rfl, rfl⟩ rfl rfl rfl rfl rfl (by kernel_rfl) Try.func3 (by kernel_rfl)
    (of_decide_eq_true (by kernel_rfl)) (by unfold Func.isWrapper; first | (rw [if_pos (by decide +kernel)]; kernel_rfl) | (rw [if_neg (by decide +kernel)]; exact ⟨rfl, rfl⟩))
    (fun os started H enc _ => lifted os started H enc)

theorem proved : Rows.NetLivesSaid := over
end Go.Proofs.Ytpoigngpdcmipaa.netLives
