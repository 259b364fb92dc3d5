/-
  Whatever the calls, SessionLives answers true and its arguments read as they did: sessions do any calls in any order as the document says. No condition.
-/
import Derived.Test.YtghbliabmecbcaaDoorRows
import Derived.WalkKit
import Derived.ProofKit
import Derived.OpenShut
import Derived.ChangeOld
import Derived.Below
import Derived.Test.YtghbliabmecbcaaDoorMc2
import Derived.Test.YtghbliabmecbcaaDoorMd3
import Derived.Test.YtghbliabmecbcaaDoorMc13
import Derived.Test.YtghbliabmecbcaaDoorCards
import Derived.LaidMore
import Derived.SevenTiedAt
import Derived.Stop.Joined
namespace Go.Proofs.YtghbliabmecbcaaDoor.sessionLives
open Go.ChangeShapes Go.WideShapes Go.ChangeAt Go.RowKit
set_option linter.unusedVariables false
attribute [local go_sem] Oper.semAt_some

theorem own : ownKnob Tryd.prog.godebug = none := by kernel_rfl
theorem laidOut : laidOutB Tryd.prog = true := by kernel_rfl

/-! ### The walk -/
set_option maxRecDepth 100000 in
set_option maxHeartbeats 4000000 in
theorem walk (a0 : Int) (A1 : Option Addr) (c1 : Nat) (l1 : List Dos) (w : World) (w0 : (Lit.int .i64 a0).wf = true) (h1 : RdS clDos 7 w w.heap.size A1 l1) (e1 : ∀ y ∈ l1, dosFit y) (n1 : l1.length ≤ c1) (m1 : c1 ≤ maxLen) (hT : Tabs w) :
    Calls Tryd.prog 3 #[.int .i64 a0, .slice A1 l1.length c1] w fun e w' => e = .returned (.bool true) ∧ Below w.heap.size w w' := by
  obtain ⟨n, hn⟩ : ∃ n, n = l1.length := ⟨_, rfl⟩
  have HN := Lib.hid hn
  have HE0 := Lib.hid e1
  have HR0 := Lib.hid h1
  have hcap : n ≤ c1 := by rw [hn]; exact n1
  rw [← hn]
  clear hn e1 h1 n1
  by_cases hok : 0 ≤ a0 ∧ a0 ≤ 4096
  · have HOK := Lib.hid hok
    clear hok
    go_enter Tryd.func3, Tryd.ntmps3
    go_upto_region 3 with (go_at_call 6; refine (awake24 w hT).mono ?_; rintro e w1 ⟨rfl, x1⟩)
    go_upto_region 4 with (go_at_call 7; refine (senew_ok a0 w1 HOK.out.1 HOK.out.2 w1.heap.size (Nat.le_refl _)).mono ?_; rintro e w2 ⟨d, t1, bm, rfl, hd2, x2, _, _⟩)
    go_upto_region 5 with (go_at_call 8; refine (r24new_ok (B0 := w1.heap.size) a0 w2 HOK.out.1 HOK.out.2 x2.size).mono ?_; rintro e w3 ⟨rfl, hr3, x3⟩)
    have hI : SLw w1.heap.size d t1 bm w2.heap.size a0 [] 0 w w3 :=
      ⟨hd2.below x3, ⟨_, hr3⟩, x1.trans ((x2.trans (x3.mono x2.size)).mono x1.size), (TB0.of (hT.step x1) (Nat.le_refl _) x2).step (x3.mono x2.size), Nat.le_refl _, x1.size⟩
    generalize w1.heap.size = B0 at *
    generalize w2.heap.size = g at *
    have HL0 := Lib.hid hI
    clear hI x1 x2 x3 hd2 hr3
    go_wp2
    go_loopw [48] (fun i wr => ∃ (k : Nat) (S : List (Option Sd)), k ≤ n ∧ i = .int .i64 (k : Int) ∧ Hid (SLw B0 d t1 bm g a0 S k w wr))
      (fun i _ => n - (intOf i).toNat)
    case atStart => exact ⟨0, [], Nat.zero_le _, rfl, HL0⟩
    case round =>
      obtain ⟨k, S, hk, rfl, HLk⟩ := hrel
      clear HL0
      by_cases hlt : k < n
      · obtain ⟨x, hx⟩ : ∃ x, l1[k]? = some x := ⟨_, List.getElem?_eq_getElem (by rw [← HN.out]; exact hlt)⟩
        have HXF := Lib.hid (HE0.out x (List.mem_of_getElem? hx))
        obtain ⟨b9, o9, rfl, hb9, hrow9⟩ := row_ofDos HR0.out hx
        have hrow := range_below hrow9 hb9 HLk.out.bel
        obtain ⟨V, hV⟩ : ∃ V, V = wr.alloc (.cells (clDos x).toArray 36) := ⟨_, rfl⟩
        have HV := Lib.hid hV
        have bV : Below wr.heap.size wr V := by rw [hV]; exact (Below.refl _ wr).alloc (Nat.le_refl _) _
        have hbV : V.heap[wr.heap.size]? = some (.cells (clDos x).toArray 36 (0, 0)) := by rw [hV]; exact World.alloc_heap_new wr _
        have HLV := Lib.hid (HLk.out.below bV)
        have kx0 : V.cell? ⟨wr.heap.size, 0, none⟩ = some (.int .i64 x.op) := cells_at (i := 0) hbV rfl
        have hrx : V.rangeAt wr.heap.size 2 (clSe x.x) := dos_se hbV
        have HBV := Lib.hid hbV
        clear hx hrow9 hV hbV
        by_cases h60 : k ≥ 60
        · have d60 : decide ((k : Int) ≥ 60) = true := decide_eq_true (by omega)
          have d61 : decide (60 ≤ (k : Int)) = true := d60
          go_wp2_with (first
            | ((with_reducible show wpList _ _ _ (Oper.mk _ (Op.load 36 _) _ _ _ _ :: _) _ _); refine wpList_val rfl (run_load_dos rfl rfl hrow) ?_)
            | ((with_reducible show wpList _ _ _ (Oper.mk _ (Op.store 36 _ _) _ _ _ _ :: _) _ _); refine dos_store_new (cs := (clDos x).toArray) rfl rfl rfl rfl (clDos_one x) ?_; rw [← HV.out])
            | (go_at_call 6; refine (awake24 _ HLV.out.tb.here).mono ?_; rintro e v9 ⟨rfl, x9⟩))
          go_ret
          exact ⟨rfl, HLV.out.bel.trans (x9.mono HLV.out.bel.size)⟩
        · have d60 : decide ((k : Int) ≥ 60) = false := decide_eq_false (by omega)
          have d61 : decide (60 ≤ (k : Int)) = false := d60
          have hS : (docB 0 S).length ≤ 1000 := by have := HLk.out.n; omega
          have hkN : k < maxLen := by unfold maxLen; omega
          by_cases h0 : x.op = 0
          · have d0 : (x.op == 0) = true := by simp [h0]
            clear h0
            obtain ⟨ra, re, S2, hle, hA, hB⟩ := add_both (g := g) HLV.out.ts HLV.out.tb x.x HXF.out.2.2 hkN hS
            have HA := Lib.hid hA
            have HB2 := Lib.hid hB
            have HLE := Lib.hid hle
            clear hA hB hle
            go_upto_region 18 with (first
              | ((with_reducible show wpList _ _ _ (Oper.mk _ (Op.load 36 _) _ _ _ _ :: _) _ _); refine wpList_val rfl (run_load_dos rfl rfl hrow) ?_)
              | ((with_reducible show wpList _ _ _ (Oper.mk _ (Op.store 36 _ _) _ _ _ _ :: _) _ _); refine dos_store_new (cs := (clDos x).toArray) rfl rfl rfl rfl (clDos_one x) ?_; rw [← HV.out])
              | ((with_reducible show wpList _ _ _ (Oper.mk _ (Op.load 34 _) _ _ _ _ :: _) _ _); refine wpList_val rfl (run_load_se (x := x.x) rfl rfl hrx) ?_)
              | (go_at_call 9; refine HA.out.mono ?_; rintro e y1 ⟨rfl, hd1, f1⟩))
            have hb1 := f1.heap HBV.out t4_no.2.2.2
            obtain ⟨vr, hr1⟩ := HLV.out.rtf f1
            have hrx1 := dos_se hb1
            have HB1 := Lib.hid hb1
            have D1 := Lib.hid hd1
            have F1 := Lib.hid f1
            have R1 := Lib.hid hr1
            clear hd1 f1 hr1 hb1 hrx kx0 hrow
            go_upto_region 19 with (first
              | ((with_reducible show wpList _ _ _ (Oper.mk _ (Op.load 34 _) _ _ _ _ :: _) _ _); refine wpList_val rfl (run_load_se (x := x.x) rfl rfl hrx1) ?_)
              | (go_at_call 10; refine (HB2.out y1 vr R1.out).mono ?_; rintro e U ⟨rfl, hr2, k2⟩))
            have HBU0 := Lib.hid (k2.heap HB1.out (nat_ne (by kernel_rfl)) (nat_ne (by kernel_rfl)))
            have HLU := Lib.hid (HLV.out.step D1.out F1.out hr2 k2 HLE.out)
            clear hr2 k2 hrx1
            go_upto_region 22 with fail
            obtain ⟨bx, hbx⟩ : ∃ bx, bx = wr.heap.size := ⟨_, rfl⟩
            rw [← hbx]
            have HBU : Hid (U.heap[bx]? = some (.cells (clDos x).toArray 36 (0, 0))) := Lib.hid (by rw [hbx]; exact HBU0.out)
            clear hbx HBU0 HB1 D1 F1 R1 HA HB2 HLE HBV HV HLk HLV bV
            -- what every later world keeps
            have HB : Hid (∀ X, Below U.heap.size U X → X.cell? ⟨bx, 1, none⟩ = some (.int .i64 x.id) ∧ X.cell? ⟨bx, 2, none⟩ = some (.int .i64 x.x.b) ∧ X.rangeAt bx 5 (clR x.x)) := Lib.hid (fun X hX => by
              have h9 := (hX.block bx (heap_lt HBU.out)).trans HBU.out
              exact ⟨cells_at (i := 1) h9 rfl, cells_at (i := 2) h9 rfl, dos_re h9⟩)
            have HD : Hid (∀ X, Below U.heap.size U X → TsE X B0 d t1 bm a0 S2 (k + 1) ∧ (∃ v, Rt X B0 g v a0 (docB 0 S2)) ∧ Tabs X) := Lib.hid (fun X hX => ⟨(HLU.out.below hX).ts, (HLU.out.below hX).rt, (HLU.out.below hX).tb.here⟩)
            have HS60 : Hid ((docB 0 S2).length ≤ 1000) := Lib.hid (by have := HLU.out.n; omega)
            obtain ⟨Y, hY⟩ : ∃ Y, Y = (takB S2 x.id).getD sd0 := ⟨_, rfl⟩
            obtain ⟨yb, hyb⟩ : ∃ yb, yb = (takB S2 x.id).isSome := ⟨_, rfl⟩
            have HG1 : Hid (∀ X, Below U.heap.size U X → Calls Tryd.prog 15 #[.pointer (some ⟨d, 0, none⟩), .int .i64 x.id] X fun e w' => e = .returned (.tuple #[seV Y, .bool yb]) ∧ Below X.heap.size X w') := Lib.hid (fun X hX => by
              obtain ⟨b1, A, c, f, h9⟩ := (HD.out X hX).1
              rw [hY, hyb]; exact seget h9.m x.id)
            have HG2 : Hid (∀ X, Below U.heap.size U X → Calls Tryd.prog 16 #[.pointer (some ⟨g, 0, none⟩), .int .i64 x.id] X fun e w' => e = .returned (.tuple #[seV Y, .bool yb]) ∧ Below X.heap.size X w') := Lib.hid (fun X hX => by
              obtain ⟨v, h9⟩ := (HD.out X hX).2.1
              rw [hY, hyb, ← fndN_some, ← fndN_tak]; exact r24get h9 HS60.out x.id)
            clear hY hyb
            have HF1 : Hid (∀ X, Below U.heap.size U X → Calls Tryd.prog 17 #[.pointer (some ⟨d, 0, none⟩), .int .i64 x.x.b, reV x.x] X fun e w' => e = .returned (.tuple #[.int .i64 (numS (fndS (docB 0 S2) x.x)), .bool (fndS (docB 0 S2) x.x).isSome]) ∧ Below X.heap.size X w') := Lib.hid (fun X hX => by
              obtain ⟨b1, A, c, f, h9⟩ := (HD.out X hX).1
              exact sefind h9.m (HD.out X hX).2.2 x.x HXF.out.2.2)
            have HF2 : Hid (∀ X, Below U.heap.size U X → Calls Tryd.prog 18 #[.pointer (some ⟨g, 0, none⟩), .int .i64 x.x.b, reV x.x] X fun e w' => e = .returned (.tuple #[.int .i64 (numS (fndS (docB 0 S2) x.x)), .bool (fndS (docB 0 S2) x.x).isSome]) ∧ Below X.heap.size X w') := Lib.hid (fun X hX => by
              obtain ⟨v, h9⟩ := (HD.out X hX).2.1
              exact r24find h9 HS60.out x.x)
            have HSM : Hid (∀ X, Below U.heap.size U X → Calls Tryd.prog 19 #[.pointer (some ⟨d, 0, none⟩), .pointer (some ⟨g, 0, none⟩), .int .i64 x.x.b] X fun e w' => e = .returned (.bool true) ∧ Below X.heap.size X w') := Lib.hid (fun X hX => by
              obtain ⟨b1, A, c, f, h9⟩ := (HD.out X hX).1
              obtain ⟨v, h8⟩ := (HD.out X hX).2.1
              exact ssame h9 h8 HS60.out (HXF.out.2.2 _ (by simp)))
            generalize numS (fndS (docB 0 S2) x.x) = nI at *
            generalize (fndS (docB 0 S2) x.x).isSome = bI at *
            have kx1 := (HB.out U (Below.refl _ _)).1
            clear HD
            go_upto_region 23 with (first
              | ((with_reducible show wpList _ _ _ (Oper.mk _ (Op.store 34 _ _) _ _ _ _ :: _) _ _); refine se_store_new (cs := (clSe Y).toArray) rfl rfl rfl rfl (clSe_one _) ?_)
              | (go_at_call 15; refine (HG1.out U (Below.refl _ _)).mono ?_; rintro e y3 ⟨rfl, x3⟩))
            have e3 := x3.trans ((Below.refl y3.heap.size y3).alloc (Nat.le_refl _) (.cells (clSe Y).toArray 34) |>.mono x3.size)
            have hb3 : (y3.alloc (.cells (clSe Y).toArray 34)).heap[y3.heap.size]? = some (.cells (clSe Y).toArray 34 (0, 0)) := World.alloc_heap_new y3 _
            generalize y3.alloc (.cells (clSe Y).toArray 34) = Y3 at *
            obtain ⟨v3, hv3⟩ : ∃ v3, v3 = y3.heap.size := ⟨_, rfl⟩
            rw [← hv3] at hb3 ⊢
            clear hv3 kx1 x3
            have kx1 := (HB.out Y3 e3).1
            go_upto_region 24 with (first
              | ((with_reducible show wpList _ _ _ (Oper.mk _ (Op.store 34 _ _) _ _ _ _ :: _) _ _); refine se_store_new (cs := (clSe Y).toArray) rfl rfl rfl rfl (clSe_one _) ?_)
              | (go_at_call 16; refine (HG2.out Y3 e3).mono ?_; rintro e y4 ⟨rfl, x4⟩))
            have f4 := x4.trans ((Below.refl y4.heap.size y4).alloc (Nat.le_refl _) (.cells (clSe Y).toArray 34) |>.mono x4.size)
            have e4 := e3.trans (f4.mono e3.size)
            have hb4 : (y4.alloc (.cells (clSe Y).toArray 34)).heap[y4.heap.size]? = some (.cells (clSe Y).toArray 34 (0, 0)) := World.alloc_heap_new y4 _
            have hb3' := (f4.block v3 (heap_lt hb3)).trans hb3
            generalize y4.alloc (.cells (clSe Y).toArray 34) = Y4 at *
            obtain ⟨v4, hv4⟩ : ∃ v4, v4 = y4.heap.size := ⟨_, rfl⟩
            rw [← hv4] at hb4 ⊢
            have HR34 : Hid (∀ X, Below Y4.heap.size Y4 X → X.rangeAt v3 0 (clSe Y) ∧ X.rangeAt v4 0 (clSe Y)) := Lib.hid (fun X hX => ⟨range_belowR (box_se hb3') (heap_lt hb3') hX, range_belowR (box_se hb4) (heap_lt hb4) hX⟩)
            have E4 := Lib.hid e4
            have kb4 := (HB.out Y4 e4).2.1
            have hri := (HB.out Y4 e4).2.2
            clear hv4 kx1 x4 f4 hb3 hb3' hb4 e3 e4
            go_upto_region 25 with (first
              | ((with_reducible show wpList _ _ _ (Oper.mk _ (Op.load 32 _) _ _ _ _ :: _) _ _); refine wpList_val rfl (run_load_re (x := x.x) rfl rfl hri) ?_)
              | (go_at_call 17; refine (HF1.out Y4 E4.out).mono ?_; rintro e y5 ⟨rfl, x5⟩))
            have kb5 := (HB.out y5 (E4.out.trans (x5.mono E4.out.size))).2.1
            have hri := (HB.out y5 (E4.out.trans (x5.mono E4.out.size))).2.2
            clear kb4
            go_upto_region 26 with (first
              | ((with_reducible show wpList _ _ _ (Oper.mk _ (Op.load 32 _) _ _ _ _ :: _) _ _); refine wpList_val rfl (run_load_re (x := x.x) rfl rfl hri) ?_)
              | (go_at_call 18; refine (HF2.out y5 (E4.out.trans (x5.mono E4.out.size))).mono ?_; rintro e y8 ⟨rfl, x8⟩))
            have x8 := x5.trans (x8.mono x5.size)
            have e8 := E4.out.trans (x8.mono E4.out.size)
            have kb8 := (HB.out y8 e8).2.1
            have hr34 := HR34.out y8 x8
            have hr3 := hr34.1
            have hr4 := hr34.2
            have hl8 : (clSe Y).length = 5 := rfl
            have eS : ∀ w, (Op.equalIn 10000 34 (.agg (clSe Y).toArray) (.agg (clSe Y).toArray)).run Tryd.prog w = .ok true w := eqR_se Y
            clear x5 hri hr34 kb5
            unfold seV
            generalize clSe Y = LY at *
            go_wp2_with (first
              | ((with_reducible show wpList _ _ _ (Oper.mk _ (Op.load 34 _) _ _ _ _ :: _) _ _); first | refine wpList_valw (by rfl) (ld_seR (L := LY) rfl rfl hr3 hl8) ?_ | refine wpList_valw (by rfl) (ld_seR (L := LY) rfl rfl hr4 hl8) ?_)
              | (go_at_call 19; refine (HSM.out y8 e8).mono ?_; rintro e y9 ⟨rfl, x9⟩))
            go_roundw
            case rel => exact ⟨k + 1, S2, by omega, by simp, Lib.hid (HLU.out.below (e8.trans (x9.mono e8.size)))⟩
            case measure => simp [intOf]; omega
          by_cases h1 : x.op = 1
          · have d0 : (x.op == 0) = false := by simp [h0]
            have d1 : (x.op == 1) = true := by simp [h1]
            clear h0 h1
            obtain ⟨ra, re, S2, hle, hA, hB⟩ := add_both (g := g) HLV.out.ts HLV.out.tb x.x HXF.out.2.2 hkN hS
            have HA := Lib.hid hA
            have HB2 := Lib.hid hB
            have HLE := Lib.hid hle
            clear hA hB hle
            go_upto_region 18 with (first
              | ((with_reducible show wpList _ _ _ (Oper.mk _ (Op.load 36 _) _ _ _ _ :: _) _ _); refine wpList_val rfl (run_load_dos rfl rfl hrow) ?_)
              | ((with_reducible show wpList _ _ _ (Oper.mk _ (Op.store 36 _ _) _ _ _ _ :: _) _ _); refine dos_store_new (cs := (clDos x).toArray) rfl rfl rfl rfl (clDos_one x) ?_; rw [← HV.out])
              | ((with_reducible show wpList _ _ _ (Oper.mk _ (Op.load 34 _) _ _ _ _ :: _) _ _); refine wpList_val rfl (run_load_se (x := x.x) rfl rfl hrx) ?_)
              | (go_at_call 9; refine HA.out.mono ?_; rintro e y1 ⟨rfl, hd1, f1⟩))
            have hb1 := f1.heap HBV.out t4_no.2.2.2
            obtain ⟨vr, hr1⟩ := HLV.out.rtf f1
            have hrx1 := dos_se hb1
            have HB1 := Lib.hid hb1
            have D1 := Lib.hid hd1
            have F1 := Lib.hid f1
            have R1 := Lib.hid hr1
            clear hd1 f1 hr1 hb1 hrx kx0 hrow
            go_upto_region 19 with (first
              | ((with_reducible show wpList _ _ _ (Oper.mk _ (Op.load 34 _) _ _ _ _ :: _) _ _); refine wpList_val rfl (run_load_se (x := x.x) rfl rfl hrx1) ?_)
              | (go_at_call 10; refine (HB2.out y1 vr R1.out).mono ?_; rintro e U ⟨rfl, hr2, k2⟩))
            have HBU0 := Lib.hid (k2.heap HB1.out (nat_ne (by kernel_rfl)) (nat_ne (by kernel_rfl)))
            have HLU := Lib.hid (HLV.out.step D1.out F1.out hr2 k2 HLE.out)
            clear hr2 k2 hrx1
            go_upto_region 22 with fail
            obtain ⟨bx, hbx⟩ : ∃ bx, bx = wr.heap.size := ⟨_, rfl⟩
            rw [← hbx]
            have HBU : Hid (U.heap[bx]? = some (.cells (clDos x).toArray 36 (0, 0))) := Lib.hid (by rw [hbx]; exact HBU0.out)
            clear hbx HBU0 HB1 D1 F1 R1 HA HB2 HLE HBV HV HLk HLV bV
            -- what every later world keeps
            have HB : Hid (∀ X, Below U.heap.size U X → X.cell? ⟨bx, 1, none⟩ = some (.int .i64 x.id) ∧ X.cell? ⟨bx, 2, none⟩ = some (.int .i64 x.x.b) ∧ X.rangeAt bx 5 (clR x.x)) := Lib.hid (fun X hX => by
              have h9 := (hX.block bx (heap_lt HBU.out)).trans HBU.out
              exact ⟨cells_at (i := 1) h9 rfl, cells_at (i := 2) h9 rfl, dos_re h9⟩)
            have HD : Hid (∀ X, Below U.heap.size U X → TsE X B0 d t1 bm a0 S2 (k + 1) ∧ (∃ v, Rt X B0 g v a0 (docB 0 S2)) ∧ Tabs X) := Lib.hid (fun X hX => ⟨(HLU.out.below hX).ts, (HLU.out.below hX).rt, (HLU.out.below hX).tb.here⟩)
            have HS60 : Hid ((docB 0 S2).length ≤ 1000) := Lib.hid (by have := HLU.out.n; omega)
            obtain ⟨Y, hY⟩ : ∃ Y, Y = (takB S2 x.id).getD sd0 := ⟨_, rfl⟩
            obtain ⟨yb, hyb⟩ : ∃ yb, yb = (takB S2 x.id).isSome := ⟨_, rfl⟩
            have HG1 : Hid (∀ X, Below U.heap.size U X → Calls Tryd.prog 15 #[.pointer (some ⟨d, 0, none⟩), .int .i64 x.id] X fun e w' => e = .returned (.tuple #[seV Y, .bool yb]) ∧ Below X.heap.size X w') := Lib.hid (fun X hX => by
              obtain ⟨b1, A, c, f, h9⟩ := (HD.out X hX).1
              rw [hY, hyb]; exact seget h9.m x.id)
            have HG2 : Hid (∀ X, Below U.heap.size U X → Calls Tryd.prog 16 #[.pointer (some ⟨g, 0, none⟩), .int .i64 x.id] X fun e w' => e = .returned (.tuple #[seV Y, .bool yb]) ∧ Below X.heap.size X w') := Lib.hid (fun X hX => by
              obtain ⟨v, h9⟩ := (HD.out X hX).2.1
              rw [hY, hyb, ← fndN_some, ← fndN_tak]; exact r24get h9 HS60.out x.id)
            clear hY hyb
            have HF1 : Hid (∀ X, Below U.heap.size U X → Calls Tryd.prog 17 #[.pointer (some ⟨d, 0, none⟩), .int .i64 x.x.b, reV x.x] X fun e w' => e = .returned (.tuple #[.int .i64 (numS (fndS (docB 0 S2) x.x)), .bool (fndS (docB 0 S2) x.x).isSome]) ∧ Below X.heap.size X w') := Lib.hid (fun X hX => by
              obtain ⟨b1, A, c, f, h9⟩ := (HD.out X hX).1
              exact sefind h9.m (HD.out X hX).2.2 x.x HXF.out.2.2)
            have HF2 : Hid (∀ X, Below U.heap.size U X → Calls Tryd.prog 18 #[.pointer (some ⟨g, 0, none⟩), .int .i64 x.x.b, reV x.x] X fun e w' => e = .returned (.tuple #[.int .i64 (numS (fndS (docB 0 S2) x.x)), .bool (fndS (docB 0 S2) x.x).isSome]) ∧ Below X.heap.size X w') := Lib.hid (fun X hX => by
              obtain ⟨v, h9⟩ := (HD.out X hX).2.1
              exact r24find h9 HS60.out x.x)
            have HSM : Hid (∀ X, Below U.heap.size U X → Calls Tryd.prog 19 #[.pointer (some ⟨d, 0, none⟩), .pointer (some ⟨g, 0, none⟩), .int .i64 x.x.b] X fun e w' => e = .returned (.bool true) ∧ Below X.heap.size X w') := Lib.hid (fun X hX => by
              obtain ⟨b1, A, c, f, h9⟩ := (HD.out X hX).1
              obtain ⟨v, h8⟩ := (HD.out X hX).2.1
              exact ssame h9 h8 HS60.out (HXF.out.2.2 _ (by simp)))
            generalize numS (fndS (docB 0 S2) x.x) = nI at *
            generalize (fndS (docB 0 S2) x.x).isSome = bI at *
            have kx1 := (HB.out U (Below.refl _ _)).1
            clear HD
            go_upto_region 23 with (first
              | ((with_reducible show wpList _ _ _ (Oper.mk _ (Op.store 34 _ _) _ _ _ _ :: _) _ _); refine se_store_new (cs := (clSe Y).toArray) rfl rfl rfl rfl (clSe_one _) ?_)
              | (go_at_call 15; refine (HG1.out U (Below.refl _ _)).mono ?_; rintro e y3 ⟨rfl, x3⟩))
            have e3 := x3.trans ((Below.refl y3.heap.size y3).alloc (Nat.le_refl _) (.cells (clSe Y).toArray 34) |>.mono x3.size)
            have hb3 : (y3.alloc (.cells (clSe Y).toArray 34)).heap[y3.heap.size]? = some (.cells (clSe Y).toArray 34 (0, 0)) := World.alloc_heap_new y3 _
            generalize y3.alloc (.cells (clSe Y).toArray 34) = Y3 at *
            obtain ⟨v3, hv3⟩ : ∃ v3, v3 = y3.heap.size := ⟨_, rfl⟩
            rw [← hv3] at hb3 ⊢
            clear hv3 kx1 x3
            have kx1 := (HB.out Y3 e3).1
            go_upto_region 24 with (first
              | ((with_reducible show wpList _ _ _ (Oper.mk _ (Op.store 34 _ _) _ _ _ _ :: _) _ _); refine se_store_new (cs := (clSe Y).toArray) rfl rfl rfl rfl (clSe_one _) ?_)
              | (go_at_call 16; refine (HG2.out Y3 e3).mono ?_; rintro e y4 ⟨rfl, x4⟩))
            have f4 := x4.trans ((Below.refl y4.heap.size y4).alloc (Nat.le_refl _) (.cells (clSe Y).toArray 34) |>.mono x4.size)
            have e4 := e3.trans (f4.mono e3.size)
            have hb4 : (y4.alloc (.cells (clSe Y).toArray 34)).heap[y4.heap.size]? = some (.cells (clSe Y).toArray 34 (0, 0)) := World.alloc_heap_new y4 _
            have hb3' := (f4.block v3 (heap_lt hb3)).trans hb3
            generalize y4.alloc (.cells (clSe Y).toArray 34) = Y4 at *
            obtain ⟨v4, hv4⟩ : ∃ v4, v4 = y4.heap.size := ⟨_, rfl⟩
            rw [← hv4] at hb4 ⊢
            have HR34 : Hid (∀ X, Below Y4.heap.size Y4 X → X.rangeAt v3 0 (clSe Y) ∧ X.rangeAt v4 0 (clSe Y)) := Lib.hid (fun X hX => ⟨range_belowR (box_se hb3') (heap_lt hb3') hX, range_belowR (box_se hb4) (heap_lt hb4) hX⟩)
            have E4 := Lib.hid e4
            have kb4 := (HB.out Y4 e4).2.1
            have hri := (HB.out Y4 e4).2.2
            clear hv4 kx1 x4 f4 hb3 hb3' hb4 e3 e4
            go_upto_region 25 with (first
              | ((with_reducible show wpList _ _ _ (Oper.mk _ (Op.load 32 _) _ _ _ _ :: _) _ _); refine wpList_val rfl (run_load_re (x := x.x) rfl rfl hri) ?_)
              | (go_at_call 17; refine (HF1.out Y4 E4.out).mono ?_; rintro e y5 ⟨rfl, x5⟩))
            have kb5 := (HB.out y5 (E4.out.trans (x5.mono E4.out.size))).2.1
            have hri := (HB.out y5 (E4.out.trans (x5.mono E4.out.size))).2.2
            clear kb4
            go_upto_region 26 with (first
              | ((with_reducible show wpList _ _ _ (Oper.mk _ (Op.load 32 _) _ _ _ _ :: _) _ _); refine wpList_val rfl (run_load_re (x := x.x) rfl rfl hri) ?_)
              | (go_at_call 18; refine (HF2.out y5 (E4.out.trans (x5.mono E4.out.size))).mono ?_; rintro e y8 ⟨rfl, x8⟩))
            have x8 := x5.trans (x8.mono x5.size)
            have e8 := E4.out.trans (x8.mono E4.out.size)
            have kb8 := (HB.out y8 e8).2.1
            have hr34 := HR34.out y8 x8
            have hr3 := hr34.1
            have hr4 := hr34.2
            have hl8 : (clSe Y).length = 5 := rfl
            have eS : ∀ w, (Op.equalIn 10000 34 (.agg (clSe Y).toArray) (.agg (clSe Y).toArray)).run Tryd.prog w = .ok true w := eqR_se Y
            clear x5 hri hr34 kb5
            unfold seV
            generalize clSe Y = LY at *
            go_wp2_with (first
              | ((with_reducible show wpList _ _ _ (Oper.mk _ (Op.load 34 _) _ _ _ _ :: _) _ _); first | refine wpList_valw (by rfl) (ld_seR (L := LY) rfl rfl hr3 hl8) ?_ | refine wpList_valw (by rfl) (ld_seR (L := LY) rfl rfl hr4 hl8) ?_)
              | (go_at_call 19; refine (HSM.out y8 e8).mono ?_; rintro e y9 ⟨rfl, x9⟩))
            go_roundw
            case rel => exact ⟨k + 1, S2, by omega, by simp, Lib.hid (HLU.out.below (e8.trans (x9.mono e8.size)))⟩
            case measure => simp [intOf]; omega
          by_cases h2 : x.op = 2
          · have d0 : (x.op == 0) = false := by simp [h0]
            have d1 : (x.op == 1) = false := by simp [h1]
            have d2 : (x.op == 2) = true := by simp [h2]
            clear h0 h1 h2
            obtain ⟨ra, re, S2, hle, hA, hB⟩ := add_both (g := g) HLV.out.ts HLV.out.tb x.x HXF.out.2.2 hkN hS
            have HA := Lib.hid hA
            have HB2 := Lib.hid hB
            have HLE := Lib.hid hle
            clear hA hB hle
            go_upto_region 18 with (first
              | ((with_reducible show wpList _ _ _ (Oper.mk _ (Op.load 36 _) _ _ _ _ :: _) _ _); refine wpList_val rfl (run_load_dos rfl rfl hrow) ?_)
              | ((with_reducible show wpList _ _ _ (Oper.mk _ (Op.store 36 _ _) _ _ _ _ :: _) _ _); refine dos_store_new (cs := (clDos x).toArray) rfl rfl rfl rfl (clDos_one x) ?_; rw [← HV.out])
              | ((with_reducible show wpList _ _ _ (Oper.mk _ (Op.load 34 _) _ _ _ _ :: _) _ _); refine wpList_val rfl (run_load_se (x := x.x) rfl rfl hrx) ?_)
              | (go_at_call 9; refine HA.out.mono ?_; rintro e y1 ⟨rfl, hd1, f1⟩))
            have hb1 := f1.heap HBV.out t4_no.2.2.2
            obtain ⟨vr, hr1⟩ := HLV.out.rtf f1
            have hrx1 := dos_se hb1
            have HB1 := Lib.hid hb1
            have D1 := Lib.hid hd1
            have F1 := Lib.hid f1
            have R1 := Lib.hid hr1
            clear hd1 f1 hr1 hb1 hrx kx0 hrow
            go_upto_region 19 with (first
              | ((with_reducible show wpList _ _ _ (Oper.mk _ (Op.load 34 _) _ _ _ _ :: _) _ _); refine wpList_val rfl (run_load_se (x := x.x) rfl rfl hrx1) ?_)
              | (go_at_call 10; refine (HB2.out y1 vr R1.out).mono ?_; rintro e U ⟨rfl, hr2, k2⟩))
            have HBU0 := Lib.hid (k2.heap HB1.out (nat_ne (by kernel_rfl)) (nat_ne (by kernel_rfl)))
            have HLU := Lib.hid (HLV.out.step D1.out F1.out hr2 k2 HLE.out)
            clear hr2 k2 hrx1
            go_upto_region 22 with fail
            obtain ⟨bx, hbx⟩ : ∃ bx, bx = wr.heap.size := ⟨_, rfl⟩
            rw [← hbx]
            have HBU : Hid (U.heap[bx]? = some (.cells (clDos x).toArray 36 (0, 0))) := Lib.hid (by rw [hbx]; exact HBU0.out)
            clear hbx HBU0 HB1 D1 F1 R1 HA HB2 HLE HBV HV HLk HLV bV
            -- what every later world keeps
            have HB : Hid (∀ X, Below U.heap.size U X → X.cell? ⟨bx, 1, none⟩ = some (.int .i64 x.id) ∧ X.cell? ⟨bx, 2, none⟩ = some (.int .i64 x.x.b) ∧ X.rangeAt bx 5 (clR x.x)) := Lib.hid (fun X hX => by
              have h9 := (hX.block bx (heap_lt HBU.out)).trans HBU.out
              exact ⟨cells_at (i := 1) h9 rfl, cells_at (i := 2) h9 rfl, dos_re h9⟩)
            have HD : Hid (∀ X, Below U.heap.size U X → TsE X B0 d t1 bm a0 S2 (k + 1) ∧ (∃ v, Rt X B0 g v a0 (docB 0 S2)) ∧ Tabs X) := Lib.hid (fun X hX => ⟨(HLU.out.below hX).ts, (HLU.out.below hX).rt, (HLU.out.below hX).tb.here⟩)
            have HS60 : Hid ((docB 0 S2).length ≤ 1000) := Lib.hid (by have := HLU.out.n; omega)
            obtain ⟨Y, hY⟩ : ∃ Y, Y = (takB S2 x.id).getD sd0 := ⟨_, rfl⟩
            obtain ⟨yb, hyb⟩ : ∃ yb, yb = (takB S2 x.id).isSome := ⟨_, rfl⟩
            have HG1 : Hid (∀ X, Below U.heap.size U X → Calls Tryd.prog 15 #[.pointer (some ⟨d, 0, none⟩), .int .i64 x.id] X fun e w' => e = .returned (.tuple #[seV Y, .bool yb]) ∧ Below X.heap.size X w') := Lib.hid (fun X hX => by
              obtain ⟨b1, A, c, f, h9⟩ := (HD.out X hX).1
              rw [hY, hyb]; exact seget h9.m x.id)
            have HG2 : Hid (∀ X, Below U.heap.size U X → Calls Tryd.prog 16 #[.pointer (some ⟨g, 0, none⟩), .int .i64 x.id] X fun e w' => e = .returned (.tuple #[seV Y, .bool yb]) ∧ Below X.heap.size X w') := Lib.hid (fun X hX => by
              obtain ⟨v, h9⟩ := (HD.out X hX).2.1
              rw [hY, hyb, ← fndN_some, ← fndN_tak]; exact r24get h9 HS60.out x.id)
            clear hY hyb
            have HF1 : Hid (∀ X, Below U.heap.size U X → Calls Tryd.prog 17 #[.pointer (some ⟨d, 0, none⟩), .int .i64 x.x.b, reV x.x] X fun e w' => e = .returned (.tuple #[.int .i64 (numS (fndS (docB 0 S2) x.x)), .bool (fndS (docB 0 S2) x.x).isSome]) ∧ Below X.heap.size X w') := Lib.hid (fun X hX => by
              obtain ⟨b1, A, c, f, h9⟩ := (HD.out X hX).1
              exact sefind h9.m (HD.out X hX).2.2 x.x HXF.out.2.2)
            have HF2 : Hid (∀ X, Below U.heap.size U X → Calls Tryd.prog 18 #[.pointer (some ⟨g, 0, none⟩), .int .i64 x.x.b, reV x.x] X fun e w' => e = .returned (.tuple #[.int .i64 (numS (fndS (docB 0 S2) x.x)), .bool (fndS (docB 0 S2) x.x).isSome]) ∧ Below X.heap.size X w') := Lib.hid (fun X hX => by
              obtain ⟨v, h9⟩ := (HD.out X hX).2.1
              exact r24find h9 HS60.out x.x)
            have HSM : Hid (∀ X, Below U.heap.size U X → Calls Tryd.prog 19 #[.pointer (some ⟨d, 0, none⟩), .pointer (some ⟨g, 0, none⟩), .int .i64 x.x.b] X fun e w' => e = .returned (.bool true) ∧ Below X.heap.size X w') := Lib.hid (fun X hX => by
              obtain ⟨b1, A, c, f, h9⟩ := (HD.out X hX).1
              obtain ⟨v, h8⟩ := (HD.out X hX).2.1
              exact ssame h9 h8 HS60.out (HXF.out.2.2 _ (by simp)))
            generalize numS (fndS (docB 0 S2) x.x) = nI at *
            generalize (fndS (docB 0 S2) x.x).isSome = bI at *
            have kx1 := (HB.out U (Below.refl _ _)).1
            clear HD
            go_upto_region 23 with (first
              | ((with_reducible show wpList _ _ _ (Oper.mk _ (Op.store 34 _ _) _ _ _ _ :: _) _ _); refine se_store_new (cs := (clSe Y).toArray) rfl rfl rfl rfl (clSe_one _) ?_)
              | (go_at_call 15; refine (HG1.out U (Below.refl _ _)).mono ?_; rintro e y3 ⟨rfl, x3⟩))
            have e3 := x3.trans ((Below.refl y3.heap.size y3).alloc (Nat.le_refl _) (.cells (clSe Y).toArray 34) |>.mono x3.size)
            have hb3 : (y3.alloc (.cells (clSe Y).toArray 34)).heap[y3.heap.size]? = some (.cells (clSe Y).toArray 34 (0, 0)) := World.alloc_heap_new y3 _
            generalize y3.alloc (.cells (clSe Y).toArray 34) = Y3 at *
            obtain ⟨v3, hv3⟩ : ∃ v3, v3 = y3.heap.size := ⟨_, rfl⟩
            rw [← hv3] at hb3 ⊢
            clear hv3 kx1 x3
            have kx1 := (HB.out Y3 e3).1
            go_upto_region 24 with (first
              | ((with_reducible show wpList _ _ _ (Oper.mk _ (Op.store 34 _ _) _ _ _ _ :: _) _ _); refine se_store_new (cs := (clSe Y).toArray) rfl rfl rfl rfl (clSe_one _) ?_)
              | (go_at_call 16; refine (HG2.out Y3 e3).mono ?_; rintro e y4 ⟨rfl, x4⟩))
            have f4 := x4.trans ((Below.refl y4.heap.size y4).alloc (Nat.le_refl _) (.cells (clSe Y).toArray 34) |>.mono x4.size)
            have e4 := e3.trans (f4.mono e3.size)
            have hb4 : (y4.alloc (.cells (clSe Y).toArray 34)).heap[y4.heap.size]? = some (.cells (clSe Y).toArray 34 (0, 0)) := World.alloc_heap_new y4 _
            have hb3' := (f4.block v3 (heap_lt hb3)).trans hb3
            generalize y4.alloc (.cells (clSe Y).toArray 34) = Y4 at *
            obtain ⟨v4, hv4⟩ : ∃ v4, v4 = y4.heap.size := ⟨_, rfl⟩
            rw [← hv4] at hb4 ⊢
            have HR34 : Hid (∀ X, Below Y4.heap.size Y4 X → X.rangeAt v3 0 (clSe Y) ∧ X.rangeAt v4 0 (clSe Y)) := Lib.hid (fun X hX => ⟨range_belowR (box_se hb3') (heap_lt hb3') hX, range_belowR (box_se hb4) (heap_lt hb4) hX⟩)
            have E4 := Lib.hid e4
            have kb4 := (HB.out Y4 e4).2.1
            have hri := (HB.out Y4 e4).2.2
            clear hv4 kx1 x4 f4 hb3 hb3' hb4 e3 e4
            go_upto_region 25 with (first
              | ((with_reducible show wpList _ _ _ (Oper.mk _ (Op.load 32 _) _ _ _ _ :: _) _ _); refine wpList_val rfl (run_load_re (x := x.x) rfl rfl hri) ?_)
              | (go_at_call 17; refine (HF1.out Y4 E4.out).mono ?_; rintro e y5 ⟨rfl, x5⟩))
            have kb5 := (HB.out y5 (E4.out.trans (x5.mono E4.out.size))).2.1
            have hri := (HB.out y5 (E4.out.trans (x5.mono E4.out.size))).2.2
            clear kb4
            go_upto_region 26 with (first
              | ((with_reducible show wpList _ _ _ (Oper.mk _ (Op.load 32 _) _ _ _ _ :: _) _ _); refine wpList_val rfl (run_load_re (x := x.x) rfl rfl hri) ?_)
              | (go_at_call 18; refine (HF2.out y5 (E4.out.trans (x5.mono E4.out.size))).mono ?_; rintro e y8 ⟨rfl, x8⟩))
            have x8 := x5.trans (x8.mono x5.size)
            have e8 := E4.out.trans (x8.mono E4.out.size)
            have kb8 := (HB.out y8 e8).2.1
            have hr34 := HR34.out y8 x8
            have hr3 := hr34.1
            have hr4 := hr34.2
            have hl8 : (clSe Y).length = 5 := rfl
            have eS : ∀ w, (Op.equalIn 10000 34 (.agg (clSe Y).toArray) (.agg (clSe Y).toArray)).run Tryd.prog w = .ok true w := eqR_se Y
            clear x5 hri hr34 kb5
            unfold seV
            generalize clSe Y = LY at *
            go_wp2_with (first
              | ((with_reducible show wpList _ _ _ (Oper.mk _ (Op.load 34 _) _ _ _ _ :: _) _ _); first | refine wpList_valw (by rfl) (ld_seR (L := LY) rfl rfl hr3 hl8) ?_ | refine wpList_valw (by rfl) (ld_seR (L := LY) rfl rfl hr4 hl8) ?_)
              | (go_at_call 19; refine (HSM.out y8 e8).mono ?_; rintro e y9 ⟨rfl, x9⟩))
            go_roundw
            case rel => exact ⟨k + 1, S2, by omega, by simp, Lib.hid (HLU.out.below (e8.trans (x9.mono e8.size)))⟩
            case measure => simp [intOf]; omega
          have d0 : (x.op == 0) = false := by simp [h0]
          have d1 : (x.op == 1) = false := by simp [h1]
          have d2 : (x.op == 2) = false := by simp [h2]
          clear h0 h1 h2
          by_cases h3 : x.op = 3
          · have d3 : (x.op == 3) = true := by simp [h3]
            clear h3
            obtain ⟨ra, S2, hle, hA, hB⟩ := set_both (g := g) (HLV.out.below (Below.refl V.heap.size V).drew).ts x.id x.x.t x.x.u (HXF.out.2.2 _ (by simp)) (HXF.out.2.2 _ (by simp)) hS
            have HC1 : Hid (∀ X, X = V.drew → _) := Lib.hid (fun X hX => by subst hX; exact hA)
            have HC2 := Lib.hid hB
            have HLE := Lib.hid hle
            clear hA hB hle
            go_upto_region 21 with (first
              | ((with_reducible show wpList _ _ _ (Oper.mk _ (Op.load 36 _) _ _ _ _ :: _) _ _); refine wpList_val rfl (run_load_dos rfl rfl hrow) ?_)
              | ((with_reducible show wpList _ _ _ (Oper.mk _ (Op.store 36 _ _) _ _ _ _ :: _) _ _); refine dos_store_new (cs := (clDos x).toArray) rfl rfl rfl rfl (clDos_one x) ?_; rw [← HV.out]))
            obtain ⟨bx, hbx⟩ : ∃ bx, bx = wr.heap.size := ⟨_, rfl⟩
            rw [← hbx] at HBV ⊢
            clear hbx hrow kx0 hrx
            refine wp_region_held_drew (S := fun X => X.heap[bx]? = some (.cells (clDos x).toArray 36 (0, 0))) (by kernel_rfl) HBV.out (fun hS => ?_)
            refine held_pure (i := 0) (oi := ⟨some 98, _, _, _, _, _⟩) rfl (by kernel_rfl) (by kernel_rfl) (by kernel_rfl) (fun _ _ _ h => h) (by rfl) (v := ?_) (fun w hSw => ?_) hS (fun hS => ?_)
            rotate_left
            · go_simp; try with_reducible rfl
            try go_frame
            refine held_pure (i := 1) (oi := ⟨some 99, _, _, _, _, _⟩) rfl (by kernel_rfl) (by kernel_rfl) (by kernel_rfl) (fun _ _ _ h => h) (by rfl) (v := ?_) (fun w hSw => ?_) hS (fun hS => ?_)
            rotate_left
            · go_simp; try with_reducible rfl
            try go_frame
            refine held_pure (i := 2) (oi := ⟨some 100, _, _, _, _, _⟩) rfl (by kernel_rfl) (by kernel_rfl) (by kernel_rfl) (fun _ _ _ h => h) (by rfl) (fun w hSw => run_load_int rfl rfl (cells_at (i := 1) hSw rfl)) hS (fun hS => ?_)
            try go_frame
            refine held_pure (i := 3) (oi := ⟨some 101, _, _, _, _, _⟩) rfl (by kernel_rfl) (by kernel_rfl) (by kernel_rfl) (fun _ _ _ h => h) (by rfl) (v := ?_) (fun w hSw => ?_) hS (fun hS => ?_)
            rotate_left
            · go_simp; try with_reducible rfl
            try go_frame
            refine held_pure (i := 4) (oi := ⟨some 102, _, _, _, _, _⟩) rfl (by kernel_rfl) (by kernel_rfl) (by kernel_rfl) (fun _ _ _ h => h) (by rfl) (v := ?_) (fun w hSw => ?_) hS (fun hS => ?_)
            rotate_left
            · go_simp; try with_reducible rfl
            try go_frame
            refine held_pure (i := 5) (oi := ⟨some 103, _, _, _, _, _⟩) rfl (by kernel_rfl) (by kernel_rfl) (by kernel_rfl) (fun _ _ _ h => h) (by rfl) (fun w hSw => run_load_int rfl rfl (cells_at (i := 3) hSw rfl)) hS (fun hS => ?_)
            try go_frame
            refine held_pure (i := 6) (oi := ⟨some 104, _, _, _, _, _⟩) rfl (by kernel_rfl) (by kernel_rfl) (by kernel_rfl) (fun _ _ _ h => h) (by rfl) (v := ?_) (fun w hSw => ?_) hS (fun hS => ?_)
            rotate_left
            · go_simp; try with_reducible rfl
            try go_frame
            refine held_pure (i := 7) (oi := ⟨some 105, _, _, _, _, _⟩) rfl (by kernel_rfl) (by kernel_rfl) (by kernel_rfl) (fun _ _ _ h => h) (by rfl) (v := ?_) (fun w hSw => ?_) hS (fun hS => ?_)
            rotate_left
            · go_simp; try with_reducible rfl
            try go_frame
            refine held_pure (i := 8) (oi := ⟨some 106, _, _, _, _, _⟩) rfl (by kernel_rfl) (by kernel_rfl) (by kernel_rfl) (fun _ _ _ h => h) (by rfl) (fun w hSw => run_load_int rfl rfl (cells_at (i := 4) hSw rfl)) hS (fun hS => ?_)
            try go_frame
            refine held_pure (i := 10) (oi := ⟨some 108, _, _, _, _, _⟩) rfl (by kernel_rfl) (by kernel_rfl) (by kernel_rfl) (fun _ _ _ h => h) (by rfl) (v := ?_) (fun w hSw => ?_) hS (fun hS => ?_)
            rotate_left
            · go_simp; try with_reducible rfl
            try go_frame
            refine held_pure (i := 11) (oi := ⟨some 109, _, _, _, _, _⟩) rfl (by kernel_rfl) (by kernel_rfl) (by kernel_rfl) (fun _ _ _ h => h) (by rfl) (v := ?_) (fun w hSw => ?_) hS (fun hS => ?_)
            rotate_left
            · go_simp; try with_reducible rfl
            try go_frame
            refine held_pure (i := 12) (oi := ⟨some 110, _, _, _, _, _⟩) rfl (by kernel_rfl) (by kernel_rfl) (by kernel_rfl) (fun _ _ _ h => h) (by rfl) (fun w hSw => run_load_int rfl rfl (cells_at (i := 1) hSw rfl)) hS (fun hS => ?_)
            try go_frame
            refine held_pure (i := 13) (oi := ⟨some 111, _, _, _, _, _⟩) rfl (by kernel_rfl) (by kernel_rfl) (by kernel_rfl) (fun _ _ _ h => h) (by rfl) (v := ?_) (fun w hSw => ?_) hS (fun hS => ?_)
            rotate_left
            · go_simp; try with_reducible rfl
            try go_frame
            refine held_pure (i := 14) (oi := ⟨some 112, _, _, _, _, _⟩) rfl (by kernel_rfl) (by kernel_rfl) (by kernel_rfl) (fun _ _ _ h => h) (by rfl) (v := ?_) (fun w hSw => ?_) hS (fun hS => ?_)
            rotate_left
            · go_simp; try with_reducible rfl
            try go_frame
            refine held_pure (i := 15) (oi := ⟨some 113, _, _, _, _, _⟩) rfl (by kernel_rfl) (by kernel_rfl) (by kernel_rfl) (fun _ _ _ h => h) (by rfl) (fun w hSw => run_load_int rfl rfl (cells_at (i := 3) hSw rfl)) hS (fun hS => ?_)
            try go_frame
            refine held_pure (i := 16) (oi := ⟨some 114, _, _, _, _, _⟩) rfl (by kernel_rfl) (by kernel_rfl) (by kernel_rfl) (fun _ _ _ h => h) (by rfl) (v := ?_) (fun w hSw => ?_) hS (fun hS => ?_)
            rotate_left
            · go_simp; try with_reducible rfl
            try go_frame
            refine held_pure (i := 17) (oi := ⟨some 115, _, _, _, _, _⟩) rfl (by kernel_rfl) (by kernel_rfl) (by kernel_rfl) (fun _ _ _ h => h) (by rfl) (v := ?_) (fun w hSw => ?_) hS (fun hS => ?_)
            rotate_left
            · go_simp; try with_reducible rfl
            try go_frame
            refine held_pure (i := 18) (oi := ⟨some 116, _, _, _, _, _⟩) rfl (by kernel_rfl) (by kernel_rfl) (by kernel_rfl) (fun _ _ _ h => h) (by rfl) (fun w hSw => run_load_int rfl rfl (cells_at (i := 4) hSw rfl)) hS (fun hS => ?_)
            try go_frame
            refine wpAnyH_ready (rs := [9]) (by kernel_rfl) (by simp) (AllReadyH.cons (o := ⟨some 107, _, _, _, _, _⟩) rfl (fun K hK => ?_) AllReadyH.nil)
            rw [if_pos (by rfl)]
            go_simp
            refine (HC1.out V.drew rfl).mono ?_
            rintro e y1 ⟨rfl, hd1, f1⟩
            have hS1 : y1.heap[bx]? = some (.cells (clDos x).toArray 36 (0, 0)) := f1.heap hS t4_no.2.2.2
            obtain ⟨vr, hr1⟩ := (HLV.out.below (Below.refl V.heap.size V).drew).rtf f1
            have HLD := Lib.hid (HLV.out.below (Below.refl V.heap.size V).drew)
            have F1 := Lib.hid f1
            have D1 := Lib.hid hd1
            have R1 := Lib.hid hr1
            clear hd1 f1 hr1
            show K _ _
            refine hK.out _ _ hS1 (fun hS => ?_)
            clear hK K
            try go_frame
            refine wpAnyH_ready (rs := [19]) (by kernel_rfl) (by simp) (AllReadyH.cons (o := ⟨some 117, _, _, _, _, _⟩) rfl (fun K hK => ?_) AllReadyH.nil)
            rw [if_pos (by rfl)]
            go_simp
            refine (HC2.out y1 vr R1.out).mono ?_
            rintro e y2 ⟨rfl, hr2, k2⟩
            have hS2 : y2.heap[bx]? = some (.cells (clDos x).toArray 36 (0, 0)) := k2.heap hS1 (nat_ne (by kernel_rfl)) (nat_ne (by kernel_rfl))
            have HL2 := Lib.hid (HLD.out.step D1.out F1.out hr2 k2 HLE.out)
            clear hr2 k2
            show K _ _
            refine hK.out _ _ hS2 (fun hS => ?_)
            clear hK K
            try go_frame
            refine held_pure (i := 20) (oi := ⟨some 118, _, _, _, _, _⟩) rfl (by kernel_rfl) (by kernel_rfl) (by kernel_rfl) (fun _ _ _ h => h) (by rfl) (v := .bool true) (fun w hSw => by go_simp) hS (fun hS => ?_)
            try go_frame
            refine held_pure (i := 21) (oi := ⟨some 11, _, _, _, _, _⟩) rfl (by kernel_rfl) (by kernel_rfl) (by kernel_rfl) (fun _ _ _ h => h) (by rfl) (v := ?_) (fun w hSw => ?_) hS (fun hS => ?_)
            rotate_left
            · go_simp; try with_reducible rfl
            try go_frame
            refine wpAnyH_done (by kernel_rfl) ?_ _
            go_upto_region 22 with fail
            have HLU := HL2
            have HBU : Hid (y2.heap[bx]? = some (.cells (clDos x).toArray 36 (0, 0))) := Lib.hid hS
            generalize y2 = U at *
            -- what every later world keeps
            have HB : Hid (∀ X, Below U.heap.size U X → X.cell? ⟨bx, 1, none⟩ = some (.int .i64 x.id) ∧ X.cell? ⟨bx, 2, none⟩ = some (.int .i64 x.x.b) ∧ X.rangeAt bx 5 (clR x.x)) := Lib.hid (fun X hX => by
              have h9 := (hX.block bx (heap_lt HBU.out)).trans HBU.out
              exact ⟨cells_at (i := 1) h9 rfl, cells_at (i := 2) h9 rfl, dos_re h9⟩)
            have HD : Hid (∀ X, Below U.heap.size U X → TsE X B0 d t1 bm a0 S2 (k + 1) ∧ (∃ v, Rt X B0 g v a0 (docB 0 S2)) ∧ Tabs X) := Lib.hid (fun X hX => ⟨(HLU.out.below hX).ts, (HLU.out.below hX).rt, (HLU.out.below hX).tb.here⟩)
            have HS60 : Hid ((docB 0 S2).length ≤ 1000) := Lib.hid (by have := HLU.out.n; omega)
            obtain ⟨Y, hY⟩ : ∃ Y, Y = (takB S2 x.id).getD sd0 := ⟨_, rfl⟩
            obtain ⟨yb, hyb⟩ : ∃ yb, yb = (takB S2 x.id).isSome := ⟨_, rfl⟩
            have HG1 : Hid (∀ X, Below U.heap.size U X → Calls Tryd.prog 15 #[.pointer (some ⟨d, 0, none⟩), .int .i64 x.id] X fun e w' => e = .returned (.tuple #[seV Y, .bool yb]) ∧ Below X.heap.size X w') := Lib.hid (fun X hX => by
              obtain ⟨b1, A, c, f, h9⟩ := (HD.out X hX).1
              rw [hY, hyb]; exact seget h9.m x.id)
            have HG2 : Hid (∀ X, Below U.heap.size U X → Calls Tryd.prog 16 #[.pointer (some ⟨g, 0, none⟩), .int .i64 x.id] X fun e w' => e = .returned (.tuple #[seV Y, .bool yb]) ∧ Below X.heap.size X w') := Lib.hid (fun X hX => by
              obtain ⟨v, h9⟩ := (HD.out X hX).2.1
              rw [hY, hyb, ← fndN_some, ← fndN_tak]; exact r24get h9 HS60.out x.id)
            clear hY hyb
            have HF1 : Hid (∀ X, Below U.heap.size U X → Calls Tryd.prog 17 #[.pointer (some ⟨d, 0, none⟩), .int .i64 x.x.b, reV x.x] X fun e w' => e = .returned (.tuple #[.int .i64 (numS (fndS (docB 0 S2) x.x)), .bool (fndS (docB 0 S2) x.x).isSome]) ∧ Below X.heap.size X w') := Lib.hid (fun X hX => by
              obtain ⟨b1, A, c, f, h9⟩ := (HD.out X hX).1
              exact sefind h9.m (HD.out X hX).2.2 x.x HXF.out.2.2)
            have HF2 : Hid (∀ X, Below U.heap.size U X → Calls Tryd.prog 18 #[.pointer (some ⟨g, 0, none⟩), .int .i64 x.x.b, reV x.x] X fun e w' => e = .returned (.tuple #[.int .i64 (numS (fndS (docB 0 S2) x.x)), .bool (fndS (docB 0 S2) x.x).isSome]) ∧ Below X.heap.size X w') := Lib.hid (fun X hX => by
              obtain ⟨v, h9⟩ := (HD.out X hX).2.1
              exact r24find h9 HS60.out x.x)
            have HSM : Hid (∀ X, Below U.heap.size U X → Calls Tryd.prog 19 #[.pointer (some ⟨d, 0, none⟩), .pointer (some ⟨g, 0, none⟩), .int .i64 x.x.b] X fun e w' => e = .returned (.bool true) ∧ Below X.heap.size X w') := Lib.hid (fun X hX => by
              obtain ⟨b1, A, c, f, h9⟩ := (HD.out X hX).1
              obtain ⟨v, h8⟩ := (HD.out X hX).2.1
              exact ssame h9 h8 HS60.out (HXF.out.2.2 _ (by simp)))
            generalize numS (fndS (docB 0 S2) x.x) = nI at *
            generalize (fndS (docB 0 S2) x.x).isSome = bI at *
            have kx1 := (HB.out U (Below.refl _ _)).1
            clear HD
            go_upto_region 23 with (first
              | ((with_reducible show wpList _ _ _ (Oper.mk _ (Op.store 34 _ _) _ _ _ _ :: _) _ _); refine se_store_new (cs := (clSe Y).toArray) rfl rfl rfl rfl (clSe_one _) ?_)
              | (go_at_call 15; refine (HG1.out U (Below.refl _ _)).mono ?_; rintro e y3 ⟨rfl, x3⟩))
            have e3 := x3.trans ((Below.refl y3.heap.size y3).alloc (Nat.le_refl _) (.cells (clSe Y).toArray 34) |>.mono x3.size)
            have hb3 : (y3.alloc (.cells (clSe Y).toArray 34)).heap[y3.heap.size]? = some (.cells (clSe Y).toArray 34 (0, 0)) := World.alloc_heap_new y3 _
            generalize y3.alloc (.cells (clSe Y).toArray 34) = Y3 at *
            obtain ⟨v3, hv3⟩ : ∃ v3, v3 = y3.heap.size := ⟨_, rfl⟩
            rw [← hv3] at hb3 ⊢
            clear hv3 kx1 x3
            have kx1 := (HB.out Y3 e3).1
            go_upto_region 24 with (first
              | ((with_reducible show wpList _ _ _ (Oper.mk _ (Op.store 34 _ _) _ _ _ _ :: _) _ _); refine se_store_new (cs := (clSe Y).toArray) rfl rfl rfl rfl (clSe_one _) ?_)
              | (go_at_call 16; refine (HG2.out Y3 e3).mono ?_; rintro e y4 ⟨rfl, x4⟩))
            have f4 := x4.trans ((Below.refl y4.heap.size y4).alloc (Nat.le_refl _) (.cells (clSe Y).toArray 34) |>.mono x4.size)
            have e4 := e3.trans (f4.mono e3.size)
            have hb4 : (y4.alloc (.cells (clSe Y).toArray 34)).heap[y4.heap.size]? = some (.cells (clSe Y).toArray 34 (0, 0)) := World.alloc_heap_new y4 _
            have hb3' := (f4.block v3 (heap_lt hb3)).trans hb3
            generalize y4.alloc (.cells (clSe Y).toArray 34) = Y4 at *
            obtain ⟨v4, hv4⟩ : ∃ v4, v4 = y4.heap.size := ⟨_, rfl⟩
            rw [← hv4] at hb4 ⊢
            have HR34 : Hid (∀ X, Below Y4.heap.size Y4 X → X.rangeAt v3 0 (clSe Y) ∧ X.rangeAt v4 0 (clSe Y)) := Lib.hid (fun X hX => ⟨range_belowR (box_se hb3') (heap_lt hb3') hX, range_belowR (box_se hb4) (heap_lt hb4) hX⟩)
            have E4 := Lib.hid e4
            have kb4 := (HB.out Y4 e4).2.1
            have hri := (HB.out Y4 e4).2.2
            clear hv4 kx1 x4 f4 hb3 hb3' hb4 e3 e4
            go_upto_region 25 with (first
              | ((with_reducible show wpList _ _ _ (Oper.mk _ (Op.load 32 _) _ _ _ _ :: _) _ _); refine wpList_val rfl (run_load_re (x := x.x) rfl rfl hri) ?_)
              | (go_at_call 17; refine (HF1.out Y4 E4.out).mono ?_; rintro e y5 ⟨rfl, x5⟩))
            have kb5 := (HB.out y5 (E4.out.trans (x5.mono E4.out.size))).2.1
            have hri := (HB.out y5 (E4.out.trans (x5.mono E4.out.size))).2.2
            clear kb4
            go_upto_region 26 with (first
              | ((with_reducible show wpList _ _ _ (Oper.mk _ (Op.load 32 _) _ _ _ _ :: _) _ _); refine wpList_val rfl (run_load_re (x := x.x) rfl rfl hri) ?_)
              | (go_at_call 18; refine (HF2.out y5 (E4.out.trans (x5.mono E4.out.size))).mono ?_; rintro e y8 ⟨rfl, x8⟩))
            have x8 := x5.trans (x8.mono x5.size)
            have e8 := E4.out.trans (x8.mono E4.out.size)
            have kb8 := (HB.out y8 e8).2.1
            have hr34 := HR34.out y8 x8
            have hr3 := hr34.1
            have hr4 := hr34.2
            have hl8 : (clSe Y).length = 5 := rfl
            have eS : ∀ w, (Op.equalIn 10000 34 (.agg (clSe Y).toArray) (.agg (clSe Y).toArray)).run Tryd.prog w = .ok true w := eqR_se Y
            clear x5 hri hr34 kb5
            unfold seV
            generalize clSe Y = LY at *
            go_wp2_with (first
              | ((with_reducible show wpList _ _ _ (Oper.mk _ (Op.load 34 _) _ _ _ _ :: _) _ _); first | refine wpList_valw (by rfl) (ld_seR (L := LY) rfl rfl hr3 hl8) ?_ | refine wpList_valw (by rfl) (ld_seR (L := LY) rfl rfl hr4 hl8) ?_)
              | (go_at_call 19; refine (HSM.out y8 e8).mono ?_; rintro e y9 ⟨rfl, x9⟩))
            go_roundw
            case rel => exact ⟨k + 1, S2, by omega, by simp, Lib.hid (HLU.out.below (e8.trans (x9.mono e8.size)))⟩
            case measure => simp [intOf]; omega
          · have d3 : (x.op == 3) = false := by simp [h3]
            clear h3
            obtain ⟨ra, S2, hle, hA, hB⟩ := rem_both (g := g) (HLV.out.below (Below.refl V.heap.size V).drew).ts (HLV.out.below (Below.refl V.heap.size V).drew).tb x.id hkN hS
            have HC1 : Hid (∀ X, X = V.drew → _) := Lib.hid (fun X hX => by subst hX; exact hA)
            have HC2 := Lib.hid hB
            have HLE := Lib.hid hle
            clear hA hB hle
            go_upto_region 13 with (first
              | ((with_reducible show wpList _ _ _ (Oper.mk _ (Op.load 36 _) _ _ _ _ :: _) _ _); refine wpList_val rfl (run_load_dos rfl rfl hrow) ?_)
              | ((with_reducible show wpList _ _ _ (Oper.mk _ (Op.store 36 _ _) _ _ _ _ :: _) _ _); refine dos_store_new (cs := (clDos x).toArray) rfl rfl rfl rfl (clDos_one x) ?_; rw [← HV.out]))
            obtain ⟨bx, hbx⟩ : ∃ bx, bx = wr.heap.size := ⟨_, rfl⟩
            rw [← hbx] at HBV ⊢
            clear hbx hrow kx0 hrx
            refine wp_region_held_drew (S := fun X => X.heap[bx]? = some (.cells (clDos x).toArray 36 (0, 0))) (by kernel_rfl) HBV.out (fun hS => ?_)
            refine held_pure (i := 0) (oi := ⟨some 61, _, _, _, _, _⟩) rfl (by kernel_rfl) (by kernel_rfl) (by kernel_rfl) (fun _ _ _ h => h) (by rfl) (v := ?_) (fun w hSw => ?_) hS (fun hS => ?_)
            rotate_left
            · go_simp; try with_reducible rfl
            try go_frame
            refine held_pure (i := 1) (oi := ⟨some 62, _, _, _, _, _⟩) rfl (by kernel_rfl) (by kernel_rfl) (by kernel_rfl) (fun _ _ _ h => h) (by rfl) (v := ?_) (fun w hSw => ?_) hS (fun hS => ?_)
            rotate_left
            · go_simp; try with_reducible rfl
            try go_frame
            refine held_pure (i := 2) (oi := ⟨some 63, _, _, _, _, _⟩) rfl (by kernel_rfl) (by kernel_rfl) (by kernel_rfl) (fun _ _ _ h => h) (by rfl) (fun w hSw => run_load_int rfl rfl (cells_at (i := 1) hSw rfl)) hS (fun hS => ?_)
            try go_frame
            refine held_pure (i := 4) (oi := ⟨some 65, _, _, _, _, _⟩) rfl (by kernel_rfl) (by kernel_rfl) (by kernel_rfl) (fun _ _ _ h => h) (by rfl) (v := ?_) (fun w hSw => ?_) hS (fun hS => ?_)
            rotate_left
            · go_simp; try with_reducible rfl
            try go_frame
            refine held_pure (i := 5) (oi := ⟨some 66, _, _, _, _, _⟩) rfl (by kernel_rfl) (by kernel_rfl) (by kernel_rfl) (fun _ _ _ h => h) (by rfl) (v := ?_) (fun w hSw => ?_) hS (fun hS => ?_)
            rotate_left
            · go_simp; try with_reducible rfl
            try go_frame
            refine held_pure (i := 6) (oi := ⟨some 67, _, _, _, _, _⟩) rfl (by kernel_rfl) (by kernel_rfl) (by kernel_rfl) (fun _ _ _ h => h) (by rfl) (fun w hSw => run_load_int rfl rfl (cells_at (i := 1) hSw rfl)) hS (fun hS => ?_)
            try go_frame
            refine wpAnyH_ready (rs := [3]) (by kernel_rfl) (by simp) (AllReadyH.cons (o := ⟨some 64, _, _, _, _, _⟩) rfl (fun K hK => ?_) AllReadyH.nil)
            rw [if_pos (by rfl)]
            go_simp
            refine (HC1.out V.drew rfl).mono ?_
            rintro e y1 ⟨rfl, hd1, f1⟩
            have hS1 : y1.heap[bx]? = some (.cells (clDos x).toArray 36 (0, 0)) := f1.heap hS t4_no.2.2.2
            obtain ⟨vr, hr1⟩ := (HLV.out.below (Below.refl V.heap.size V).drew).rtf f1
            have HLD := Lib.hid (HLV.out.below (Below.refl V.heap.size V).drew)
            have F1 := Lib.hid f1
            have D1 := Lib.hid hd1
            have R1 := Lib.hid hr1
            clear hd1 f1 hr1
            show K _ _
            refine hK.out _ _ hS1 (fun hS => ?_)
            clear hK K
            try go_frame
            refine wpAnyH_ready (rs := [7]) (by kernel_rfl) (by simp) (AllReadyH.cons (o := ⟨some 68, _, _, _, _, _⟩) rfl (fun K hK => ?_) AllReadyH.nil)
            rw [if_pos (by rfl)]
            go_simp
            refine (HC2.out y1 vr R1.out).mono ?_
            rintro e y2 ⟨rfl, hr2, k2⟩
            have hS2 : y2.heap[bx]? = some (.cells (clDos x).toArray 36 (0, 0)) := k2.heap hS1 (nat_ne (by kernel_rfl)) (nat_ne (by kernel_rfl))
            have HL2 := Lib.hid (HLD.out.step D1.out F1.out hr2 k2 HLE.out)
            clear hr2 k2
            show K _ _
            refine hK.out _ _ hS2 (fun hS => ?_)
            clear hK K
            try go_frame
            refine held_pure (i := 8) (oi := ⟨some 69, _, _, _, _, _⟩) rfl (by kernel_rfl) (by kernel_rfl) (by kernel_rfl) (fun _ _ _ h => h) (by rfl) (v := .bool true) (fun w hSw => by go_simp) hS (fun hS => ?_)
            try go_frame
            refine held_pure (i := 9) (oi := ⟨some 11, _, _, _, _, _⟩) rfl (by kernel_rfl) (by kernel_rfl) (by kernel_rfl) (fun _ _ _ h => h) (by rfl) (v := ?_) (fun w hSw => ?_) hS (fun hS => ?_)
            rotate_left
            · go_simp; try with_reducible rfl
            try go_frame
            refine wpAnyH_done (by kernel_rfl) ?_ _
            go_upto_region 22 with fail
            have HLU := HL2
            have HBU : Hid (y2.heap[bx]? = some (.cells (clDos x).toArray 36 (0, 0))) := Lib.hid hS
            generalize y2 = U at *
            -- what every later world keeps
            have HB : Hid (∀ X, Below U.heap.size U X → X.cell? ⟨bx, 1, none⟩ = some (.int .i64 x.id) ∧ X.cell? ⟨bx, 2, none⟩ = some (.int .i64 x.x.b) ∧ X.rangeAt bx 5 (clR x.x)) := Lib.hid (fun X hX => by
              have h9 := (hX.block bx (heap_lt HBU.out)).trans HBU.out
              exact ⟨cells_at (i := 1) h9 rfl, cells_at (i := 2) h9 rfl, dos_re h9⟩)
            have HD : Hid (∀ X, Below U.heap.size U X → TsE X B0 d t1 bm a0 S2 (k + 1) ∧ (∃ v, Rt X B0 g v a0 (docB 0 S2)) ∧ Tabs X) := Lib.hid (fun X hX => ⟨(HLU.out.below hX).ts, (HLU.out.below hX).rt, (HLU.out.below hX).tb.here⟩)
            have HS60 : Hid ((docB 0 S2).length ≤ 1000) := Lib.hid (by have := HLU.out.n; omega)
            obtain ⟨Y, hY⟩ : ∃ Y, Y = (takB S2 x.id).getD sd0 := ⟨_, rfl⟩
            obtain ⟨yb, hyb⟩ : ∃ yb, yb = (takB S2 x.id).isSome := ⟨_, rfl⟩
            have HG1 : Hid (∀ X, Below U.heap.size U X → Calls Tryd.prog 15 #[.pointer (some ⟨d, 0, none⟩), .int .i64 x.id] X fun e w' => e = .returned (.tuple #[seV Y, .bool yb]) ∧ Below X.heap.size X w') := Lib.hid (fun X hX => by
              obtain ⟨b1, A, c, f, h9⟩ := (HD.out X hX).1
              rw [hY, hyb]; exact seget h9.m x.id)
            have HG2 : Hid (∀ X, Below U.heap.size U X → Calls Tryd.prog 16 #[.pointer (some ⟨g, 0, none⟩), .int .i64 x.id] X fun e w' => e = .returned (.tuple #[seV Y, .bool yb]) ∧ Below X.heap.size X w') := Lib.hid (fun X hX => by
              obtain ⟨v, h9⟩ := (HD.out X hX).2.1
              rw [hY, hyb, ← fndN_some, ← fndN_tak]; exact r24get h9 HS60.out x.id)
            clear hY hyb
            have HF1 : Hid (∀ X, Below U.heap.size U X → Calls Tryd.prog 17 #[.pointer (some ⟨d, 0, none⟩), .int .i64 x.x.b, reV x.x] X fun e w' => e = .returned (.tuple #[.int .i64 (numS (fndS (docB 0 S2) x.x)), .bool (fndS (docB 0 S2) x.x).isSome]) ∧ Below X.heap.size X w') := Lib.hid (fun X hX => by
              obtain ⟨b1, A, c, f, h9⟩ := (HD.out X hX).1
              exact sefind h9.m (HD.out X hX).2.2 x.x HXF.out.2.2)
            have HF2 : Hid (∀ X, Below U.heap.size U X → Calls Tryd.prog 18 #[.pointer (some ⟨g, 0, none⟩), .int .i64 x.x.b, reV x.x] X fun e w' => e = .returned (.tuple #[.int .i64 (numS (fndS (docB 0 S2) x.x)), .bool (fndS (docB 0 S2) x.x).isSome]) ∧ Below X.heap.size X w') := Lib.hid (fun X hX => by
              obtain ⟨v, h9⟩ := (HD.out X hX).2.1
              exact r24find h9 HS60.out x.x)
            have HSM : Hid (∀ X, Below U.heap.size U X → Calls Tryd.prog 19 #[.pointer (some ⟨d, 0, none⟩), .pointer (some ⟨g, 0, none⟩), .int .i64 x.x.b] X fun e w' => e = .returned (.bool true) ∧ Below X.heap.size X w') := Lib.hid (fun X hX => by
              obtain ⟨b1, A, c, f, h9⟩ := (HD.out X hX).1
              obtain ⟨v, h8⟩ := (HD.out X hX).2.1
              exact ssame h9 h8 HS60.out (HXF.out.2.2 _ (by simp)))
            generalize numS (fndS (docB 0 S2) x.x) = nI at *
            generalize (fndS (docB 0 S2) x.x).isSome = bI at *
            have kx1 := (HB.out U (Below.refl _ _)).1
            clear HD
            go_upto_region 23 with (first
              | ((with_reducible show wpList _ _ _ (Oper.mk _ (Op.store 34 _ _) _ _ _ _ :: _) _ _); refine se_store_new (cs := (clSe Y).toArray) rfl rfl rfl rfl (clSe_one _) ?_)
              | (go_at_call 15; refine (HG1.out U (Below.refl _ _)).mono ?_; rintro e y3 ⟨rfl, x3⟩))
            have e3 := x3.trans ((Below.refl y3.heap.size y3).alloc (Nat.le_refl _) (.cells (clSe Y).toArray 34) |>.mono x3.size)
            have hb3 : (y3.alloc (.cells (clSe Y).toArray 34)).heap[y3.heap.size]? = some (.cells (clSe Y).toArray 34 (0, 0)) := World.alloc_heap_new y3 _
            generalize y3.alloc (.cells (clSe Y).toArray 34) = Y3 at *
            obtain ⟨v3, hv3⟩ : ∃ v3, v3 = y3.heap.size := ⟨_, rfl⟩
            rw [← hv3] at hb3 ⊢
            clear hv3 kx1 x3
            have kx1 := (HB.out Y3 e3).1
            go_upto_region 24 with (first
              | ((with_reducible show wpList _ _ _ (Oper.mk _ (Op.store 34 _ _) _ _ _ _ :: _) _ _); refine se_store_new (cs := (clSe Y).toArray) rfl rfl rfl rfl (clSe_one _) ?_)
              | (go_at_call 16; refine (HG2.out Y3 e3).mono ?_; rintro e y4 ⟨rfl, x4⟩))
            have f4 := x4.trans ((Below.refl y4.heap.size y4).alloc (Nat.le_refl _) (.cells (clSe Y).toArray 34) |>.mono x4.size)
            have e4 := e3.trans (f4.mono e3.size)
            have hb4 : (y4.alloc (.cells (clSe Y).toArray 34)).heap[y4.heap.size]? = some (.cells (clSe Y).toArray 34 (0, 0)) := World.alloc_heap_new y4 _
            have hb3' := (f4.block v3 (heap_lt hb3)).trans hb3
            generalize y4.alloc (.cells (clSe Y).toArray 34) = Y4 at *
            obtain ⟨v4, hv4⟩ : ∃ v4, v4 = y4.heap.size := ⟨_, rfl⟩
            rw [← hv4] at hb4 ⊢
            have HR34 : Hid (∀ X, Below Y4.heap.size Y4 X → X.rangeAt v3 0 (clSe Y) ∧ X.rangeAt v4 0 (clSe Y)) := Lib.hid (fun X hX => ⟨range_belowR (box_se hb3') (heap_lt hb3') hX, range_belowR (box_se hb4) (heap_lt hb4) hX⟩)
            have E4 := Lib.hid e4
            have kb4 := (HB.out Y4 e4).2.1
            have hri := (HB.out Y4 e4).2.2
            clear hv4 kx1 x4 f4 hb3 hb3' hb4 e3 e4
            go_upto_region 25 with (first
              | ((with_reducible show wpList _ _ _ (Oper.mk _ (Op.load 32 _) _ _ _ _ :: _) _ _); refine wpList_val rfl (run_load_re (x := x.x) rfl rfl hri) ?_)
              | (go_at_call 17; refine (HF1.out Y4 E4.out).mono ?_; rintro e y5 ⟨rfl, x5⟩))
            have kb5 := (HB.out y5 (E4.out.trans (x5.mono E4.out.size))).2.1
            have hri := (HB.out y5 (E4.out.trans (x5.mono E4.out.size))).2.2
            clear kb4
            go_upto_region 26 with (first
              | ((with_reducible show wpList _ _ _ (Oper.mk _ (Op.load 32 _) _ _ _ _ :: _) _ _); refine wpList_val rfl (run_load_re (x := x.x) rfl rfl hri) ?_)
              | (go_at_call 18; refine (HF2.out y5 (E4.out.trans (x5.mono E4.out.size))).mono ?_; rintro e y8 ⟨rfl, x8⟩))
            have x8 := x5.trans (x8.mono x5.size)
            have e8 := E4.out.trans (x8.mono E4.out.size)
            have kb8 := (HB.out y8 e8).2.1
            have hr34 := HR34.out y8 x8
            have hr3 := hr34.1
            have hr4 := hr34.2
            have hl8 : (clSe Y).length = 5 := rfl
            have eS : ∀ w, (Op.equalIn 10000 34 (.agg (clSe Y).toArray) (.agg (clSe Y).toArray)).run Tryd.prog w = .ok true w := eqR_se Y
            clear x5 hri hr34 kb5
            unfold seV
            generalize clSe Y = LY at *
            go_wp2_with (first
              | ((with_reducible show wpList _ _ _ (Oper.mk _ (Op.load 34 _) _ _ _ _ :: _) _ _); first | refine wpList_valw (by rfl) (ld_seR (L := LY) rfl rfl hr3 hl8) ?_ | refine wpList_valw (by rfl) (ld_seR (L := LY) rfl rfl hr4 hl8) ?_)
              | (go_at_call 19; refine (HSM.out y8 e8).mono ?_; rintro e y9 ⟨rfl, x9⟩))
            go_roundw
            case rel => exact ⟨k + 1, S2, by omega, by simp, Lib.hid (HLU.out.below (e8.trans (x9.mono e8.size)))⟩
            case measure => simp [intOf]; omega
      · obtain rfl : n = k := by omega
        go_wp2_with (go_at_call 6; refine (awake24 _ HLk.out.tb.here).mono ?_; rintro e v9 ⟨rfl, x9⟩)
        go_ret
        exact ⟨rfl, HLk.out.bel.trans (x9.mono HLk.out.bel.size)⟩
  · have HOK := Lib.hid hok
    clear hok
    go_enter Tryd.func3, Tryd.ntmps3
    go_upto_region 3 with (go_at_call 6; refine (awake24 w hT).mono ?_; rintro e w1 ⟨rfl, x1⟩)
    go_upto_region 4 with (go_at_call 7; refine (senew_bad a0 w1 HOK.out).mono ?_; rintro e w2 ⟨rfl, rfl⟩)
    go_upto_region 5 with (go_at_call 8; refine (r24new_bad a0 w1 HOK.out).mono ?_; rintro e w3 ⟨rfl, rfl⟩)
    have HX1 := Lib.hid x1
    have HT1 := Lib.hid (hT.step x1)
    clear x1
    go_wp2
    go_loopw [48] (fun i wr => ∃ (k : Nat), k ≤ n ∧ i = .int .i64 (k : Int) ∧ Hid (w1 = wr))
      (fun i _ => n - (intOf i).toNat)
    case atStart => exact ⟨0, Nat.zero_le _, rfl, Lib.hid rfl⟩
    case round =>
      obtain ⟨k, hk, rfl, HW⟩ := hrel
      obtain rfl := HW.out
      by_cases hlt : k < n
      · obtain ⟨x, hx⟩ : ∃ x, l1[k]? = some x := ⟨_, List.getElem?_eq_getElem (by rw [← HN.out]; exact hlt)⟩
        obtain ⟨b9, o9, rfl, hb9, hrow9⟩ := row_ofDos HR0.out hx
        have hrow := range_below hrow9 hb9 HX1.out
        obtain ⟨V, hV⟩ : ∃ V, V = w1.alloc (.cells (clDos x).toArray 36) := ⟨_, rfl⟩
        have HV := Lib.hid hV
        have bV : Below w1.heap.size w1 V := by rw [hV]; exact (Below.refl _ w1).alloc (Nat.le_refl _) _
        have BV := Lib.hid bV
        clear hx hrow9 hV bV
        cases d60 : decide ((k : Int) ≥ 60) with
        | true =>
          have d61 : decide (60 ≤ (k : Int)) = true := d60
          go_wp2_with (first
            | ((with_reducible show wpList _ _ _ (Oper.mk _ (Op.load 36 _) _ _ _ _ :: _) _ _); refine wpList_val rfl (run_load_dos rfl rfl hrow) ?_)
            | ((with_reducible show wpList _ _ _ (Oper.mk _ (Op.store 36 _ _) _ _ _ _ :: _) _ _); refine dos_store_new (cs := (clDos x).toArray) rfl rfl rfl rfl (clDos_one x) ?_; rw [← HV.out])
            | (go_at_call 6; refine (awake24 _ (HT1.out.step BV.out)).mono ?_; rintro e v9 ⟨rfl, x9⟩))
          go_ret
          exact ⟨rfl, (HX1.out.trans (BV.out.mono HX1.out.size)).trans (x9.mono (Nat.le_trans HX1.out.size BV.out.size))⟩
        | false =>
          have d61 : decide (60 ≤ (k : Int)) = false := d60
          go_wp2_with (first
            | ((with_reducible show wpList _ _ _ (Oper.mk _ (Op.load 36 _) _ _ _ _ :: _) _ _); refine wpList_val rfl (run_load_dos rfl rfl hrow) ?_)
            | ((with_reducible show wpList _ _ _ (Oper.mk _ (Op.store 36 _ _) _ _ _ _ :: _) _ _); refine dos_store_new (cs := (clDos x).toArray) rfl rfl rfl rfl (clDos_one x) ?_; rw [← HV.out])
            | (go_at_call 6; refine (awake24 _ (HT1.out.step BV.out)).mono ?_; rintro e v9 ⟨rfl, x9⟩))
          go_ret
          exact ⟨rfl, (HX1.out.trans (BV.out.mono HX1.out.size)).trans (x9.mono (Nat.le_trans HX1.out.size BV.out.size))⟩
      · obtain rfl : n = k := by omega
        go_wp2_with (go_at_call 6; refine (awake24 _ HT1.out).mono ?_; rintro e v9 ⟨rfl, x9⟩)
        go_ret
        exact ⟨rfl, HX1.out.trans (x9.mono HX1.out.size)⟩

/-! ### The row's step -/
set_option maxRecDepth 100000 in
theorem lifted (os : Os) (started : os.Started) (H : Type) (enc : TypeId × Value → H) :
    ReturnsInHanded {} Tryd.checked os 3 .any (fun w args => (Rows.sessionLivesSpec.pre enc Tryd.prog Tryd.f3 [] false w args ∧ laidMetH Tryd.prog laidAll w) ∧ sizedMet enc Tryd.prog Tryd.f3 (OpenSpec.ofChange Rows.sessionLivesSpec) false w args) (Rows.sessionLivesSpec.post enc Tryd.prog Tryd.f3 false true false false) := by
  refine returnsInHanded_of_change_and (C := Tryd.checked) (X := fun w _ => laidMetH Tryd.prog laidAll w) (fun _ _ _ hh h => h.of_heap hh) own started (by kernel_rfl) Tryd.func3
    (ChangeSpec.witness_shaped (enc := enc) (C := Tryd.checked) (os := os) (X := fun w _ => laidMetH Tryd.prog laidAll w) false (World.doorLaid Tryd.prog 24 os) #[.int .i64 0, .slice none 0 0] 8 rfl (door_shaped os _) (by kernel_rfl) (by kernel_rfl) (by kernel_rfl) (door_met os _)) ?_
  intro W base args ds gs before hval0 hW _ _ hL _
  have hval : ∀ (j : Nat) t v, Tryd.f3.params[j]? = some t → args[j]? = some v → Value.okWide Tryd.prog W .any base t v := hval0
  have hW' := hW
  obtain ⟨p, q, hA0, hV, rfl, hfz, hnd⟩ := hW
  have hA : DataW.TrodAll enc Tryd.prog W 0 (fun _ => true) true Tryd.f3.params.toList args.toList ds p := hA0
  rw [Tryd.params3] at hA hval
  obtain ⟨v0, vs0, d0, ds0, p0, q0, hargs, rfl, rfl, t0, r0⟩ := trodAll_cons hA
  obtain ⟨v1, vs1, d1, ds1, p1, q1, rfl, rfl, rfl, t1, r1⟩ := trodAll_cons r0
  obtain ⟨rfl, rfl, rfl⟩ := trodAll_nil r1
  obtain rfl : args = #[v0, v1] := by cases args; simp_all
  obtain ⟨rfl, rfl⟩ := trodVars_none hV
  have k0 := t0
  have lt0 := Trod_lt t0
  have k1 := t1
  have lt1 := Trod_lt t1
  obtain ⟨a0, rfl, w0⟩ := get_int Tryd.underlying3 (hval 0 3 v0 rfl rfl) t0
  obtain ⟨A1, c1, l1, rfl, h1, e1, n1, m1⟩ := get_doss (hval 1 22 v1 rfl rfl) t1
  clear hA0 hval0
  refine (walk a0 A1 c1 l1 W w0 h1 e1 n1 m1 (tabs_of_laid hL)).mono fun e W' ⟨he, bel⟩ => ?_
  subst he
  exact ⟨_, rfl, _, _, _, [], _, [], hW', trodAll_mk1 (shut_bool Tryd.underlying4 _), (trodAll_cons_mk (Below.trod laidOut (by kernel_rfl) (of_decide_eq_true (by kernel_rfl)) k0 bel lt0) (trodAll_cons_mk (Below.trod laidOut (by kernel_rfl) (of_decide_eq_true (by kernel_rfl)) k1 bel lt1) trodAll_mk0)), rfl, bel.frame _, fun h => by cases h⟩

theorem over : Rows.sessionLivesRow.holds Tryd.pinned (OpenSpec.ofChange Rows.sessionLivesSpec) :=
  OpenClaim.holds_of_wide 3 Tryd.f3 rfl rfl rfl rfl rfl rfl rfl ⟨rfl, rfl, rfl, rfl, rfl⟩ rfl rfl rfl rfl rfl (by kernel_rfl) Tryd.func3 (by kernel_rfl)
    (of_decide_eq_true (by kernel_rfl)) (by unfold Func.isWrapper; first | (rw [if_pos (by decide +kernel)]; kernel_rfl) | (rw [if_neg (by decide +kernel)]; exact ⟨rfl, rfl⟩))
    (fun os started H enc _ => lifted os started H enc)

theorem proved : Rows.SessionLivesCardSaid :=
  Claim7.holds_tied_plain_at .later [] Rows.sessionLivesCard.laidKinds true Rows.sessionLivesCard.stood.harness false
    over (fun _ h => by cases h) (by kernel_rfl) (fun _ h => by cases h) sessionLives_row_tie rfl ⟨rfl, rfl⟩ (by kernel_rfl) rfl
    (fun f fn hf hfn => by
      obtain rfl : f = 3 := Option.some.inj ((show Tryd.prog.funcNamed "goosepond/goosepondlaw24.SessionLives" = some 3 by kernel_rfl).symm.trans hf) |>.symm
      obtain rfl : fn = Tryd.f3 := (Option.some.inj (Tryd.func3.symm.trans hfn)).symm
      exact ⟨by kernel_rfl, fun j t ht => by
        have hall : (Tryd.f3.params.toList.all fun u => !Tryd.prog.wantsStandIn u) = true := by kernel_rfl
        have hm : t ∈ Tryd.f3.params.toList := by simpa using Array.mem_of_getElem? ht
        exact (show Tryd.prog.wantsStandIn t = false by simpa using List.all_eq_true.1 hall t hm)⟩)
    (by kernel_rfl)
end Go.Proofs.YtghbliabmecbcaaDoor.sessionLives
