/-
  For all bytes and segments, goosepondlaw08.TcpOptions answers true: the options, where they begin, and the greatest size that they tell, are what the document says.
  Conditions: none but the statement's own.
-/
import Derived.Test.YtggcjjcgiphjeaaRows
import Derived.WalkKit
import Derived.ProofKit
import Derived.OpenShut
import Derived.ChangeOld
import Derived.Below
import Derived.Test.YtggcjjcgiphjeaaMa1
import Derived.Test.YtggcjjcgiphjeaaMc1
namespace Go.Proofs.Ytggcjjcgiphjeaa.tcpOptions
open Go.ChangeShapes Go.WideShapes Go.ChangeAt Go.RowKit
set_option linter.unusedVariables false
attribute [local go_sem] Oper.semAt_some

theorem own : ownKnob Try.prog.godebug = none := by kernel_rfl
theorem laidOut : laidOutB Try.prog = true := by kernel_rfl

/-! ### The walk -/
set_option maxRecDepth 100000 in
set_option maxHeartbeats 4000000 in
theorem walk (A0 : Option Addr) (c0 : Nat) (b0 : List UInt8) (x1 : PT) (A1 : Option Addr) (c1 : Nat) (A1' : Option Addr) (c1' : Nat) (w : World) (h0 : Arg w w.heap.size A0 c0 b0) (m0 : c0 ≤ maxLen) (h1 : Arg w w.heap.size A1 c1 x1.opt) (h1' : Arg w w.heap.size A1' c1' x1.dat) (m1 : c1 ≤ maxLen) (m1' : c1' ≤ maxLen) (w1 : x1.fits) :
    Calls Try.prog 8 #[.slice A0 b0.length c0, tsv x1 A1 c1 A1' c1'] w fun e w' => e = .returned (.bool true) ∧ Below w.heap.size w w' := by
  have hcap := h0.cap
  have hb1 : Below w.heap.size w (((w.alloc (.cells #[.slice A0 b0.length c0] 22)).alloc (.cells (tsa x1 A1 c1 A1' c1') 39)).alloc (.cells #[.bool false] 4)) := (((Below.refl w.heap.size w).alloc (Nat.le_refl _) _).alloc (by simp) _).alloc (by simp; omega) _
  have hs : (((w.alloc (.cells #[.slice A0 b0.length c0] 22)).alloc (.cells (tsa x1 A1 c1 A1' c1') 39)).alloc (.cells #[.bool false] 4)).heap.size = w.heap.size + 3 := by simp
  have kb : Boxed (((w.alloc (.cells #[.slice A0 b0.length c0] 22)).alloc (.cells (tsa x1 A1 c1 A1' c1') 39)).alloc (.cells #[.bool false] 4)) w.heap.size 22 (.slice A0 b0.length c0) := ((Boxed.new w 22 (.slice A0 b0.length c0)).alloc _).alloc _
  have hAt : Atts (((w.alloc (.cells #[.slice A0 b0.length c0] 22)).alloc (.cells (tsa x1 A1 c1 A1' c1') 39)).alloc (.cells #[.bool false] 4)) (w.heap.size + 1) x1 A1 c1 A1' c1' := by
    have := Atts.new (q := x1) (A := A1) (c := c1) (A' := A1') (c' := c1') (w.alloc (.cells #[.slice A0 b0.length c0] 22))
    rw [show (w.alloc (.cells #[.slice A0 b0.length c0] 22)).heap.size = w.heap.size + 1 from by simp] at this
    exact this.below ((Below.refl (w.heap.size + 1 + 1) _).alloc (by simp) _) (by omega)
  have kr : Boxed (((w.alloc (.cells #[.slice A0 b0.length c0] 22)).alloc (.cells (tsa x1 A1 c1 A1' c1') 39)).alloc (.cells #[.bool false] 4)) (w.heap.size + 1 + 1) 4 (.bool false) := by
    have := Boxed.new ((w.alloc (.cells #[.slice A0 b0.length c0] 22)).alloc (.cells (tsa x1 A1 c1 A1' c1') 39)) 4 (.bool false)
    rwa [show ((w.alloc (.cells #[.slice A0 b0.length c0] 22)).alloc (.cells (tsa x1 A1 c1 A1' c1') 39)).heap.size = w.heap.size + 1 + 1 from by simp] at this
  rw [tsv_eq]
  refine (callsIn_wide (n := 4)).1 ?_
  refine callsIn_of_wp_marks Try.func8 rfl trivial ?_ rfl
  simp only [Try.ntmps8, List.size_toArray, List.length_cons, List.length_nil, Nat.reduceAdd, Nat.reduceSub, Array.replicate_succ, Array.replicate_zero, List.push_toArray, List.append_toArray, List.nil_append, List.cons_append]
  gi_upto_region 1 with fail
  generalize ((w.alloc (.cells #[.slice A0 b0.length c0] 22)).alloc (.cells (tsa x1 A1 c1 A1' c1') 39)).alloc (.cells #[.bool false] 4) = W at *
  have HS := Lib.hid hs
  clear hs
  gi_upto_region 3 with (refine ⟨trivial, ?_⟩; gi_at_call 22; refine (callsIn_wide.2 (awakeT_any _)).mono ?_; rintro e w2 ⟨rfl, x2⟩)
  have kb2 := (Boxed.below kb x2 (by have := HS.out; omega)).cell
  have k82 := (hAt.below x2 (by have := HS.out; omega)).opt
  have q2 := hb1.trans (x2.mono (by have := HS.out; omega))
  by_cases l0 : 1000 < b0.length
  · have d0 : decide (1000 < (b0.length : Int)) = true := by simp; omega
    have kr2 := Boxed.below kr x2 (by have := HS.out; omega)
    gi_upto_region 4 with fail
    gi_wp2_with (refine ⟨trivial, ?_⟩; gi_at_call 22; refine (callsIn_wide.2 (awakeT_any _)).mono ?_; rintro e w3 ⟨rfl, x3⟩; have kr3 := Boxed.below kr2 x3 (Boxed.lt kr2); have cr3 := kr3.cell; have fr3 := kr3.frozen)
    exact ⟨_, cell1 rfl rfl (Boxed.set _ kr3), rfl, (q2.trans (x3.mono q2.size)).setCell (p := ⟨w.heap.size + 1 + 1, 0, none⟩) (by simp; omega) _⟩
  · have d0 : decide (1000 < (b0.length : Int)) = false := by simp; omega
    by_cases l1 : 1000 < x1.opt.length
    · have d1 : decide (1000 < (x1.opt.length : Int)) = true := by simp; omega
      have kr2 := Boxed.below kr x2 (by have := HS.out; omega)
      gi_upto_region 4 with fail
      gi_wp2_with (refine ⟨trivial, ?_⟩; gi_at_call 22; refine (callsIn_wide.2 (awakeT_any _)).mono ?_; rintro e w3 ⟨rfl, x3⟩; have kr3 := Boxed.below kr2 x3 (Boxed.lt kr2); have cr3 := kr3.cell; have fr3 := kr3.frozen)
      exact ⟨_, cell1 rfl rfl (Boxed.set _ kr3), rfl, (q2.trans (x3.mono q2.size)).setCell (p := ⟨w.heap.size + 1 + 1, 0, none⟩) (by simp; omega) _⟩
    · have d1 : decide (1000 < (x1.opt.length : Int)) = false := by simp; omega
      gi_upto_region 5 with fail
      gi_upto_region 7 with (refine ⟨trivial, ?_⟩; gi_at_call 31; refine (callsIn_wide.2 (rPlaces A0 b0 c0 w.heap.size w2 (h0.below q2) q2.size (by omega))).mono ?_; rintro e X ⟨v, rfl, hown, x3⟩; obtain ⟨P, pc, rfl, hP⟩ := own_pv hown)
      have hb0l : b0.length ≤ 1000 := by omega
      have hol : x1.opt.length ≤ 1000 := by omega
      have q3 := q2.trans (x3.mono q2.size)
      have x4 : Below X.heap.size X ((X.alloc (.cells #[.slice P (places b0).length pc] 46)).alloc (.cells #[.int .i64 0] 3)) := ((Below.refl _ X).alloc (Nat.le_refl _) _).alloc (by simp) _
      have kp : Boxed ((X.alloc (.cells #[.slice P (places b0).length pc] 46)).alloc (.cells #[.int .i64 0] 3)) X.heap.size 46 (.slice P (places b0).length pc) := (Boxed.new X 46 (.slice P (places b0).length pc)).alloc _
      have kn : Boxed ((X.alloc (.cells #[.slice P (places b0).length pc] 46)).alloc (.cells #[.int .i64 0] 3)) (X.heap.size + 1) 3 (.int .i64 0) := by
        have := Boxed.new (X.alloc (.cells #[.slice P (places b0).length pc] 46)) 3 (.int .i64 0)
        rwa [show (X.alloc (.cells #[.slice P (places b0).length pc] 46)).heap.size = X.heap.size + 1 from by simp] at this
      have zV : ((X.alloc (.cells #[.slice P (places b0).length pc] 46)).alloc (.cells #[.int .i64 0] 3)).heap.size = X.heap.size + 2 := by simp
      have HPL := Lib.hid (places_len b0)
      obtain ⟨ps, hps⟩ : ∃ ps, ps = places b0 := ⟨_, rfl⟩
      have HPS := Lib.hid hps
      rw [← hps] at hP
      obtain ⟨n, hn⟩ : ∃ n, n = ps.length := ⟨_, rfl⟩
      rw [show (places b0).length = n from by rw [hn, hps]] at x4 kp kn zV ⊢
      have HPL := Lib.hid (show n ≤ 1001 by have := HPL.out; rw [← hps, ← hn] at this; omega)
      have HN := Lib.hid hn
      rw [← hn] at hP
      clear hn hps hown
      generalize (X.alloc (.cells #[.slice P n pc] 46)).alloc (.cells #[.int .i64 0] 3) = V0 at *
      have x2V : Below W.heap.size W V0 := x2.trans ((x3.trans (x4.mono x3.size)).mono x2.size)
      have z2 := x2.size
      have z3 := x3.size
      have hW3 : w.heap.size + 3 ≤ W.heap.size := by have := HS.out; omega
      have hzV : X.heap.size + 2 ≤ V0.heap.size := by omega
      clear zV
      have qV := q3.trans (x4.mono q3.size)
      have kbV := (Boxed.below kb x2V (by omega)).cell
      gi_wp2_with (refine ⟨trivial, ?_⟩; gi_at_call 32; refine (callsIn_wide.2 (opts_any A0 b0 c0 w.heap.size V0 (h0.below qV) (by omega))).mono ?_; rintro e V1 ⟨Bs, rfl, x5, hseq⟩)
      have x2W : Below W.heap.size W V1 := x2V.trans (x5.mono x2V.size)
      have kp1 := Boxed.below kp x5 (by omega)
      have kn1 := Boxed.below kn x5 (by omega)
      have x35 : Below X.heap.size X V1 := x4.trans (x5.mono x4.size)
      have z5 := x5.size
      have HPG : Hid (∀ j, j < n → ∃ g, P = some ⟨g, 0, none⟩ ∧ g < X.heap.size ∧ V1.cell? ⟨g, j, none⟩ = some (.int .i64 ((ps.getD j 0 : Nat) : Int))) := Lib.hid fun j hj => by
        obtain ⟨g, e1, e2, e3⟩ := hP j hj
        exact ⟨g, e1, e2, (x35.cell (p := ⟨g, j, none⟩) e2).trans e3⟩
      have q5 : Below w.heap.size w V1 := qV.trans (x5.mono qV.size)
      have kb1 := Boxed.below kb x2W (by omega)
      have hAt1 := hAt.below x2W (by omega)
      have kr1 := Boxed.below kr x2W (by omega)
      have HQ := Lib.hid hseq
      clear hP kp kn kbV x4 x5 x35 x2V qV hseq kb2 k82 x3
      refine range_told (by omega) (gf := 59) (lb := #[.pointer (some ⟨Bs, 0, none⟩)]) rfl (enters_of Try.func59 (by kernel_rfl) rfl)
        (HQ.out (4 - 1) (by omega)) Holds.trans (fun V l r r' hl hr => Holds.b (Nat.le_refl _) V l _ _ hl hr rfl rfl) (Below.refl _ _) (fun _ => rfl)
        (fun pre x V l r r' h _ hl => GO.turn h hl)
        (fun pre Y => Boxed Y (X.heap.size + 1) 3 (.int .i64 (pre.length : Int)) ∧ Kept V1 (X.heap.size + 1) Y ∧ Below W.heap.size W Y)
        (fun _ _ _ => False)
        (fun pre Y Z r hs hg hr => ⟨box_keep hs.1 hg hr, hs.2.1.turn hg hr (Nat.le_refl _), below_keep hs.2.2 hg hr (by omega) (Nat.le_refl _)⟩)
        (fun _ _ _ _ _ hs _ _ => hs)
        ⟨kn1, Kept.refl _ _, x2W⟩
        (fun x => { tmps := #[.slice A0 b0.length c0, .agg (tsa x1 A1 c1 A1' c1'), .pointer (some ⟨w.heap.size, 0, none⟩), .pointer (some ⟨w.heap.size + 1, 0, none⟩), .pointer (some ⟨w.heap.size + 1 + 1, 0, none⟩), .pointer (some ⟨X.heap.size, 0, none⟩), .pointer (some ⟨X.heap.size + 1, 0, none⟩), .int .i64 (x.at_ : Int), .slice x.A x.n x.c, undef, undef, undef, undef, undef, undef, .bool true, .bool false, .slice A0 b0.length c0, .int .i64 (b0.length : Int), .bool false, .bool false, .pointer (some ⟨w.heap.size + 1, 8, none⟩), .slice A1 x1.opt.length c1, .int .i64 (x1.opt.length : Int), .bool false, .bool false, undef, .slice A0 b0.length c0, .slice P n pc, .slice A0 b0.length c0, .func (.func 59) #[] #[.pointer (some ⟨Bs, 0, none⟩)], .int .i64 (x.at_ : Int), .slice x.A x.n x.c, undef, undef, undef, undef, undef, undef, undef, undef, undef, undef, undef, undef, undef, undef, undef, undef, undef, undef, undef, undef, undef, undef, undef, undef, undef, undef, undef, undef, undef, undef, undef, undef, undef, undef, undef, undef, undef, undef, undef, undef, undef, undef, undef, undef, undef, undef, undef, undef, undef, undef, undef, undef, undef, undef, undef, undef, undef, undef, undef, undef, undef], defers := [] }) ?assign ?body ?done ?stop
      case assign =>
        intro l x Y K hK
        dsimp only [encO]
        gi_wp2
        exact hK
      case body =>
        rintro l pre ⟨k, xA, xc, z⟩ Y ⟨hcY, hKY, hBY⟩ ⟨hpl, hz, hAX⟩
        dsimp only at hpl hz hAX ⊢
        obtain ⟨more, hmore⟩ := hpl
        have hz0 : 0 < optL b0 k := places_mem (by rw [hmore]; simp)
        have hle := optL_le hz0
        obtain ⟨m, hm⟩ : ∃ m, m = pre.length := ⟨_, rfl⟩
        rw [← HPS.out] at hmore
        have hmn : m < n := by rw [hm, HN.out, hmore]; simp
        have hget : ps.getD m 0 = k := by rw [hmore, hm]; simp [List.getD_eq_getElem?_getD]
        obtain ⟨g, eP, hg, hgc⟩ := HPG.out m hmn
        obtain rfl := eP
        rw [hget] at hgc
        rw [← hm] at hcY
        have zY := hKY.size
        have KN : Hid (∀ V, Below Y.heap.size Y V → V.cell? ⟨X.heap.size + 1, 0, none⟩ = some (.int .i64 (m : Int))) := Lib.hid fun V hV => (hV.cell (p := ⟨X.heap.size + 1, 0, none⟩) (Boxed.lt hcY)).trans hcY.cell
        have KP : Hid (∀ V, Below Y.heap.size Y V → V.cell? ⟨X.heap.size, 0, none⟩ = some (.slice (some ⟨g, 0, none⟩) n pc)) := Lib.hid fun V hV => (hV.cell (p := ⟨X.heap.size, 0, none⟩) (by show X.heap.size < _; omega)).trans ((hKY.cell (p := ⟨X.heap.size, 0, none⟩) (by show X.heap.size < _; omega) (by show X.heap.size ≠ _; omega)).trans kp1.cell)
        have KG : Hid (∀ V, Below Y.heap.size Y V → V.cell? ⟨g, m, none⟩ = some (.int .i64 (k : Int))) := Lib.hid fun V hV => (hV.cell (p := ⟨g, m, none⟩) (by show g < _; omega)).trans ((hKY.cell (p := ⟨g, m, none⟩) (by show g < _; omega) (by show g ≠ _; omega)).trans hgc)
        have KB : Hid (∀ V, Below Y.heap.size Y V → V.cell? ⟨w.heap.size, 0, none⟩ = some (.slice A0 b0.length c0)) := Lib.hid fun V hV => (hV.cell (p := ⟨w.heap.size, 0, none⟩) (by show w.heap.size < _; omega)).trans ((hKY.cell (p := ⟨w.heap.size, 0, none⟩) (by show w.heap.size < _; omega) (by show w.heap.size ≠ _; omega)).trans kb1.cell)
        have qY : Below w.heap.size w Y := hb1.trans (hBY.mono (by omega))
        have HRV : Hid (∀ V, Below Y.heap.size Y V → Arg V w.heap.size A0 c0 b0) := Lib.hid fun V hV => h0.below (qY.trans (hV.mono qY.size))
        have HOPT : Hid (∀ V, Below Y.heap.size Y V → Calls Try.prog 33 #[.slice A0 b0.length c0, .int .i64 (k : Int)] V fun e w' => e = .returned (.int .i64 (z : Int)) ∧ V = w') := Lib.hid fun V hV => by
          rw [hz]; exact rOpt A0 b0 c0 w.heap.size k V (HRV.out V hV).rd (by omega) (by omega)
        rw [← hz] at hz0 hle
        have hD : ((b0.drop k).take z).length = z := by rw [List.length_take, List.length_drop]; omega
        have HEQ : Hid (∀ V, Below Y.heap.size Y V → Calls Try.prog 13 #[.slice xA z xc, .slice (cutA A0 c0 k) z (c0 - k)] V fun e w' => e = .returned (.bool true) ∧ V = w') := Lib.hid fun V hV => by
          have h2 := (HRV.out V hV).cut k (k + z) (by omega)
          rw [show (b0.take (k + z)).drop k = (b0.drop k).take z from by rw [List.drop_take]; congr 1; omega] at h2
          have := equal_same xA (cutA A0 c0 k) ((b0.drop k).take z) xc (c0 - k) Y.heap.size w.heap.size V (hAX.below hV).rd h2.rd
          rwa [hD] at this
        have HM := Lib.hid hm
        have dm : decide (n ≤ m) = false := by simp; omega
        have dm' : decide ((n : Int) ≤ (m : Int)) = false := by simp; omega
        have hnl : n ≤ 1001 := HPL.out
        have cn : Y.drew.cell? ⟨X.heap.size + 1, 0, none⟩ = some (.int .i64 (m : Int)) := hcY.cell
        have fn_ : Y.drew.frozen? ⟨X.heap.size + 1, 0, none⟩ = false := hcY.frozen
        have hcD : Boxed Y.drew (X.heap.size + 1) 3 (.int .i64 (m : Int)) := hcY
        clear hmore hget hgc hD hz hm
        gi_upto_region 10 with fail
        refine region_round (S := fun w' => Below Y.heap.size Y w') (by kernel_rfl) (by kernel_rfl) (fun h => by obtain ⟨_, _, h⟩ := h; exact h) (Below.refl _ Y).drew (fun hS => ?_)
        refine held_pure (i := 0) (oi := ⟨some 33, _, _, _, _, _⟩) rfl (by kernel_rfl) (by kernel_rfl) (by kernel_rfl) (fun _ _ _ h => h) (by rfl) (fun w hSw => run_load_int rfl rfl (KN.out _ hSw)) hS (fun hS => ?_)
        try go_frame
        refine held_pure (i := 1) (oi := ⟨some 34, _, _, _, _, _⟩) rfl (by kernel_rfl) (by kernel_rfl) (by kernel_rfl) (fun _ _ _ h => h) (by rfl) (fun w hSw => run_load_is rfl rfl (KP.out _ hSw)) hS (fun hS => ?_)
        try go_frame
        refine held_pure (i := 2) (oi := ⟨some 35, _, _, _, _, _⟩) rfl (by kernel_rfl) (by kernel_rfl) (by kernel_rfl) (fun _ _ _ h => h) (by rfl) (v := ?_) (fun w hSw => ?_) hS (fun hS => ?_)
        rotate_left
        · go_simp; try with_reducible rfl
        try go_frame
        refine held_pure (i := 3) (oi := ⟨some 36, _, _, _, _, _⟩) rfl (by kernel_rfl) (by kernel_rfl) (by kernel_rfl) (fun _ _ _ h => h) (by rfl) (v := ?_) (fun w hSw => ?_) hS (fun hS => ?_)
        rotate_left
        · go_simp; try with_reducible rfl
        try go_frame
        refine held_pure (i := 4) (oi := ⟨some 37, _, _, _, _, _⟩) rfl (by kernel_rfl) (by kernel_rfl) (by kernel_rfl) (fun _ _ _ h => h) (by rfl) (v := ?_) (fun w hSw => ?_) hS (fun hS => ?_)
        rotate_left
        · go_simp; try with_reducible rfl
        try go_frame
        refine held_pure (i := 5) (oi := ⟨some 38, _, _, _, _, _⟩) rfl (by kernel_rfl) (by kernel_rfl) (by kernel_rfl) (fun _ _ _ h => h) (by rfl) (v := ?_) (fun w hSw => ?_) hS (fun hS => ?_)
        rotate_left
        · go_simp; try with_reducible rfl
        try go_frame
        refine held_pure (i := 6) (oi := ⟨some 39, _, _, _, _, _⟩) rfl (by kernel_rfl) (by kernel_rfl) (by kernel_rfl) (fun _ _ _ h => h) (by rfl) (fun w hSw => run_load_is rfl rfl (KP.out _ hSw)) hS (fun hS => ?_)
        try go_frame
        refine held_pure (i := 7) (oi := ⟨some 40, _, _, _, _, _⟩) rfl (by kernel_rfl) (by kernel_rfl) (by kernel_rfl) (fun _ _ _ h => h) (by rfl) (fun w hSw => run_load_int rfl rfl (KN.out _ hSw)) hS (fun hS => ?_)
        try go_frame
        refine held_pure (i := 8) (oi := ⟨some 41, _, _, _, _, _⟩) rfl (by kernel_rfl) (by kernel_rfl) (by kernel_rfl) (fun _ _ _ h => h) (by rfl) (v := Value.pointer (some ⟨g, m, none⟩)) (fun w hSw => by go_simp) hS (fun hS => ?_)
        try go_frame
        refine held_pure (i := 9) (oi := ⟨some 42, _, _, _, _, _⟩) rfl (by kernel_rfl) (by kernel_rfl) (by kernel_rfl) (fun _ _ _ h => h) (by rfl) (fun w hSw => run_load_int rfl rfl (KG.out _ hSw)) hS (fun hS => ?_)
        try go_frame
        refine held_pure (i := 10) (oi := ⟨some 43, _, _, _, _, _⟩) rfl (by kernel_rfl) (by kernel_rfl) (by kernel_rfl) (fun _ _ _ h => h) (by rfl) (v := ?_) (fun w hSw => ?_) hS (fun hS => ?_)
        rotate_left
        · go_simp; try with_reducible rfl
        try go_frame
        refine held_pure (i := 11) (oi := ⟨some 44, _, _, _, _, _⟩) rfl (by kernel_rfl) (by kernel_rfl) (by kernel_rfl) (fun _ _ _ h => h) (by rfl) (v := ?_) (fun w hSw => ?_) hS (fun hS => ?_)
        rotate_left
        · go_simp; try with_reducible rfl
        try go_frame
        refine held_pure (i := 12) (oi := ⟨some 45, _, _, _, _, _⟩) rfl (by kernel_rfl) (by kernel_rfl) (by kernel_rfl) (fun _ _ _ h => h) (by rfl) (v := ?_) (fun w hSw => ?_) hS (fun hS => ?_)
        rotate_left
        · go_simp; try with_reducible rfl
        try go_frame
        refine held_pure (i := 13) (oi := ⟨some 46, _, _, _, _, _⟩) rfl (by kernel_rfl) (by kernel_rfl) (by kernel_rfl) (fun _ _ _ h => h) (by rfl) (v := ?_) (fun w hSw => ?_) hS (fun hS => ?_)
        rotate_left
        · go_simp; try with_reducible rfl
        try go_frame
        refine held_pure (i := 14) (oi := ⟨some 47, _, _, _, _, _⟩) rfl (by kernel_rfl) (by kernel_rfl) (by kernel_rfl) (fun _ _ _ h => h) (by rfl) (fun w hSw => run_load_sl rfl rfl (KB.out _ hSw)) hS (fun hS => ?_)
        try go_frame
        refine held_pure (i := 15) (oi := ⟨some 48, _, _, _, _, _⟩) rfl (by kernel_rfl) (by kernel_rfl) (by kernel_rfl) (fun _ _ _ h => h) (by rfl) (v := ?_) (fun w hSw => ?_) hS (fun hS => ?_)
        rotate_left
        · go_simp; try with_reducible rfl
        try go_frame
        refine held_pure (i := 16) (oi := ⟨some 49, _, _, _, _, _⟩) rfl (by kernel_rfl) (by kernel_rfl) (by kernel_rfl) (fun _ _ _ h => h) (by rfl) (v := ?_) (fun w hSw => ?_) hS (fun hS => ?_)
        rotate_left
        · go_simp; try with_reducible rfl
        try go_frame
        refine held_pure (i := 17) (oi := ⟨some 50, _, _, _, _, _⟩) rfl (by kernel_rfl) (by kernel_rfl) (by kernel_rfl) (fun _ _ _ h => h) (by rfl) (fun w hSw => run_load_sl rfl rfl (KB.out _ hSw)) hS (fun hS => ?_)
        try go_frame
        refine held_pure (i := 18) (oi := ⟨some 51, _, _, _, _, _⟩) rfl (by kernel_rfl) (by kernel_rfl) (by kernel_rfl) (fun _ _ _ h => h) (by rfl) (v := ?_) (fun w hSw => ?_) hS (fun hS => ?_)
        rotate_left
        · go_simp; try with_reducible rfl
        try go_frame
        refine wpAnyH_ready (rs := [19]) (by kernel_rfl) (by simp) (AllReadyH.cons (o := ⟨some 52, _, _, _, _, _⟩) rfl (fun K hK => ?_) AllReadyH.nil)
        rw [if_pos (by rfl)]
        go_simp
        refine (HOPT.out _ hS).mono ?_
        rintro e u19 ⟨rfl, rfl⟩
        show K _ _
        refine hK.out _ _ hS (fun hS => ?_)
        clear hK K
        try go_frame
        refine held_pure (i := 20) (oi := ⟨some 53, _, _, _, _, _⟩) rfl (by kernel_rfl) (by kernel_rfl) (by kernel_rfl) (fun _ _ _ h => h) (by rfl) (v := .int .i64 ((k : Int) + (z : Int))) (fun w hSw => by go_simp; exact IntWalk.i64_in _ (by omega)) hS (fun hS => ?_)
        try go_frame
        refine held_pure (i := 21) (oi := ⟨some 54, _, _, _, _, _⟩) rfl (by kernel_rfl) (by kernel_rfl) (by kernel_rfl) (fun _ _ _ h => h) (by rfl) (fun w hSw => run_cut_lh rfl rfl rfl rfl (l := (k : Int)) (h := (k : Int) + (z : Int)) (by omega) (by omega) (by omega) (m := z) (by omega)) hS (fun hS => ?_)
        try go_frame
        refine wpAnyH_ready (rs := [22]) (by kernel_rfl) (by simp) (AllReadyH.cons (o := ⟨some 55, _, _, _, _, _⟩) rfl (fun K hK => ?_) AllReadyH.nil)
        rw [if_pos (by rfl)]
        go_simp
        refine (HEQ.out _ hS).mono ?_
        rintro e u22 ⟨rfl, rfl⟩
        show K _ _
        refine hK.out _ _ hS (fun hS => ?_)
        clear hK K
        try go_frame
        refine held_pure (i := 23) (oi := ⟨some 56, _, _, _, _, _⟩) rfl (by kernel_rfl) (by kernel_rfl) (by kernel_rfl) (fun _ _ _ h => h) (by rfl) (v := ?_) (fun w hSw => ?_) hS (fun hS => ?_)
        rotate_left
        · go_simp; try with_reducible rfl
        try go_frame
        refine held_pure (i := 24) (oi := ⟨some 57, _, _, _, _, _⟩) rfl (by kernel_rfl) (by kernel_rfl) (by kernel_rfl) (fun _ _ _ h => h) (by rfl) (v := ?_) (fun w hSw => ?_) hS (fun hS => ?_)
        rotate_left
        · go_simp; try with_reducible rfl
        try go_frame
        refine wpAnyH_done (by kernel_rfl) ?_ _
        gi_wp2
        have hk := (KeepsOthers.setCell Y ⟨X.heap.size + 1, 0, none⟩ (.int .i64 ((m : Int) + 1))).from V1.heap.size
        refine ⟨⟨hk.size, hk.same⟩, (show Holds _ _ Y (Y.setCell ⟨X.heap.size + 1, 0, none⟩ (.int .i64 ((m : Int) + 1))) from Holds.setCell (.inl (by show X.heap.size + 1 < _; omega)) _), ?_, hKY.set 0 _, (hBY.setCell (p := ⟨X.heap.size + 1, 0, none⟩) (by show W.heap.size ≤ X.heap.size + 1; omega) _).drew⟩
        rw [show ((pre ++ [(⟨k, xA, xc, z⟩ : OI)]).length : Int) = (m : Int) + 1 from by rw [HM.out]; simp]
        exact Boxed.set _ hcY
      case done =>
        rintro D xs Y hD hS ⟨hcY, hKY, hBY⟩ hK
        have hlen : xs.length = n := by rw [HN.out, HPS.out, ← hS, List.length_map]
        rw [hlen] at hcY
        have zY := hKY.size
        have qY : Below w.heap.size w Y := hb1.trans (hBY.mono (by omega))
        have atY := hAt.below hBY (by omega)
        have kpY : Boxed Y X.heap.size 46 (.slice P n pc) := (hKY.block X.heap.size (by omega) (by omega)).trans kp1
        have krY := Boxed.below kr hBY (by omega)
        have hm1 : Marks V1.heap.size Y.heap.size [{ target := .collected D, args := #[] }] Y := (Marks.push (hi := D) (ds := []) trivial (Nat.le_refl _) hD hK).more (heap_lt hK)
        have hnl : n ≤ 1001 := HPL.out
        clear hS hlen hKY hBY HQ HPG hK kb1 hAt1 kr1 kn1 kp1 x2W
        gi_upto_region 13 with fail
        refine wpIn_wide.2 ?_
        go_wp2_with (first
          | ((with_reducible show wpList _ _ _ (Oper.mk _ (Op.load 39 _) _ _ _ _ :: _) _ _); refine wpList_valw (by rfl) (run_load_ts rfl rfl atY rfl) ?_)
          | (go_at_call 34; refine (cTmss x1 A1 A1' c1 c1' _ w.heap.size (h1.below qY) qY.size (by omega)).mono ?_; rintro e y1 ⟨rfl, e1⟩))
        have q1 := qY.trans (e1.mono qY.size)
        have at1 := atY.below e1 (by omega)
        have z1 := e1.size
        refine wpIn_wide.2 ?_
        go_wp2_with (first
          | ((with_reducible show wpList _ _ _ (Oper.mk _ (Op.load 39 _) _ _ _ _ :: _) _ _); refine wpList_valw (by rfl) (run_load_ts rfl rfl at1 rfl) ?_)
          | (go_at_call 35; refine (rTmss x1 A1 c1 A1' c1' _ w.heap.size (h1.below q1) q1.size (by omega)).mono ?_; rintro e y2 ⟨rfl, e2⟩; have e12 := e1.trans (e2.mono e1.size); have kc2 := (Boxed.below hcY e12 (Boxed.lt hcY)).cell; have kp2 := (Boxed.below kpY e12 (Boxed.lt kpY)).cell; have kr2 := Boxed.below krY e12 (Boxed.lt krY))
          | (go_at_call 22; refine (awakeT_any _).mono ?_; rintro e y3 ⟨rfl, e3⟩; have e13 := e12.trans (e3.mono e12.size); have kr3 := Boxed.below krY e13 (Boxed.lt krY); have cr3 := kr3.cell; have fr3 := kr3.frozen))
        refine leaves_marks V1.heap.size (fun Z => Boxed Z (w.heap.size + 1 + 1) 4 (.bool true) ∧ Below w.heap.size w Z) (fun Z D hZ h1 h2 => ⟨box_keep (n := V1.heap.size) hZ.1 (grownBy_putObj' Z D _) (fun k e => by cases e; exact ⟨h1, _, h2, rfl⟩), hZ.2.trans (belowK_b (w := w) (Nat.le_refl _) Z D _ _ (by omega) h2 rfl rfl)⟩)
          (fun Z hZ => ⟨_, cell1 rfl rfl hZ.1, rfl, hZ.2⟩) _ _ _ (hm1.keep (fun k h1 h2 => (Below.heap_setCell _ _ _ _ (by simp; omega)).trans (e13.block k h2)))
          ⟨Boxed.set _ kr3, (qY.trans (e13.mono qY.size)).setCell (p := ⟨w.heap.size + 1 + 1, 0, none⟩) (by simp; omega) _⟩
      case stop =>
        rintro D c pre X _ _ h _
        exact h.elim

/-! ### The row's step -/
set_option maxRecDepth 100000 in
theorem lifted (os : Os) (started : os.Started) (H : Type) (enc : TypeId × Value → H) :
    ReturnsInHanded {} Try.checked os 8 .any (Rows.tcpOptionsSpec.pre6 enc Try.prog Try.f8 Rows.tcpOptionsRow.domain false) (Rows.tcpOptionsSpec.post enc Try.prog Try.f8 false true false false) := by
  refine returnsInHanded_of_change (C := Try.checked) own started (by kernel_rfl) Try.func8
    (ChangeSpec.witness6 (enc := enc) (C := Try.checked) false ⟨#[], #[.slice none 0 0, .agg #[.int .i64 0, .int .i64 0, .int .i64 0, .int .i64 0, .int .i64 0, .int .i64 0, .int .i64 0, .int .i64 0, .slice none 0 0, .slice none 0 0]], []⟩ 8 (by kernel_rfl) (by kernel_rfl) (by kernel_rfl) (by kernel_rfl)) ?_
  intro W base args ds gs before hval0 hW hcnd _
  have hval : ∀ (j : Nat) t v, Try.f8.params[j]? = some t → args[j]? = some v → Value.okWide Try.prog W .any base t v := hval0
  have hW' := hW
  obtain ⟨p, q, hA0, hV, rfl, hfz, hnd⟩ := hW
  have hA : DataW.TrodAll enc Try.prog W 0 (fun _ => true) true Try.f8.params.toList args.toList ds p := hA0
  rw [Try.params8] at hA hval
  obtain ⟨v0, vs0, d0, ds0, p0, q0, hargs, rfl, rfl, t0, r0⟩ := trodAll_cons hA
  obtain ⟨v1, vs1, d1, ds1, p1, q1, rfl, rfl, rfl, t1, r1⟩ := trodAll_cons r0
  obtain ⟨rfl, rfl, rfl⟩ := trodAll_nil r1
  obtain rfl : args = #[v0, v1] := by cases args; simp_all
  obtain ⟨rfl, rfl⟩ := trodVars_none hV
  have k0 := t0
  have lt0 := Trod_lt t0
  have k1 := t1
  have lt1 := Trod_lt t1
  obtain ⟨A0, c0, b0, rfl, h0, m0⟩ := get_bytes Try.underlying22 Try.underlying5 (by kernel_rfl) (hval 0 22 v0 rfl rfl) t0
  obtain ⟨x1, A1, c1, A1', c1', rfl, h1, h1', m1, m1', w1⟩ := get_ts (hval 1 39 v1 rfl rfl) t1
  clear hA0 hval0
  refine (walk A0 c0 b0 x1 A1 c1 A1' c1' W h0 m0 h1 h1' m1 m1' w1).mono fun e W' ⟨he, bel⟩ => ?_
  subst he
  exact ⟨_, rfl, _, _, _, [], _, [], hW', trodAll_mk1 (shut_bool Try.underlying4 _), (trodAll_cons_mk (Below.trod laidOut (by kernel_rfl) (of_decide_eq_true (by kernel_rfl)) k0 bel lt0) (trodAll_cons_mk (Below.trod laidOut (by kernel_rfl) (of_decide_eq_true (by kernel_rfl)) k1 bel lt1) trodAll_mk0)), rfl, bel.frame _, fun h => by cases h⟩

theorem over : Rows.tcpOptionsRow.holds Try.pinned (OpenSpec.ofChange Rows.tcpOptionsSpec) :=
  OpenClaim.holds_of_wide 8 Try.f8 rfl rfl rfl rfl rfl rfl rfl ⟨rfl, rfl, rfl, rfl, rfl⟩ rfl rfl rfl rfl rfl (by kernel_rfl) Try.func8 (by kernel_rfl)
    (of_decide_eq_true (by kernel_rfl)) (by unfold Func.isWrapper; first | (rw [if_pos (by decide +kernel)]; kernel_rfl) | (rw [if_neg (by decide +kernel)]; exact ⟨rfl, rfl⟩))
    (fun os started H enc _ => lifted os started H enc)

theorem proved : Rows.TcpOptionsSaid := over
end Go.Proofs.Ytggcjjcgiphjeaa.tcpOptions
