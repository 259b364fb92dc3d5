/-
  Contracts and lemmas on which the proofs of this seat stand (several texts in one). Conditions are each theorem's own.
-/
import Derived.Test.YtcebobcakiljhaaNa8
import Derived.Test.YtcebobcakiljhaaNa2

/-
  Contract of layer 13's helper of the statements: same. Conditions are each theorem's own.
-/
namespace Go.Proofs.Ytcebobcakiljhaa
open Go.RowKit Go.Shelf

instance : DecidableEq P4 := fun q r => decidable_of_iff (same4 q r = true) same4_iff
theorem run_load_v4o {o : Oper} {a : Act} {w : World} {x : Operand} {g i : Nat} {cs : List Value} (ho : o.op = .load 24 x) (hx : a.eval x = .pointer (some ⟨g, i, none⟩)) (hr : w.rangeAt g i cs) (hl : cs.length = 11) :
    (execOp a.eval o).run Try.prog w = .ok (.value (.agg cs.toArray)) w := by
  have h := run_loadVar_mid (P := Try.prog) w g i 24 cs _ hr Try.underlying24 rfl (by rw [hl]; kernel_rfl)
  unfold execOp
  simp only [ho, hx, Instr.loadAt, Instr.sureAddr, Sem.run_bind, Sem.run_pure, Result.andThen_ok, h]
/-- A slice of packets at A, whose cells, and whose lists' cells, lie below block B. -/
structure L4 (w : World) (B : Nat) (A : Option Addr) (l : List X4) : Prop where
  rd : RdS cl4 11 w B A l
  arg : ∀ x ∈ l, Arg w B x.A x.c x.q.opt ∧ Arg w B x.A' x.c' x.q.dat
theorem L4.below {w w' : World} {B : Nat} {A : Option Addr} {l : List X4} (h : L4 w B A l) (hb : Below B w w') : L4 w' B A l := ⟨h.rd.below hb, fun x hx => ⟨(h.arg x hx).1.below hb, (h.arg x hx).2.below hb⟩⟩
theorem L4.more {w : World} {B B' : Nat} {A : Option Addr} {l : List X4} (h : L4 w B A l) (hB : B ≤ B') : L4 w B' A l := ⟨h.rd.more hB, fun x hx => ⟨(h.arg x hx).1.more hB, (h.arg x hx).2.more hB⟩⟩
theorem Row4.l4 {V : World} {base : Nat} {v : Value} {l : List X4} (h : Row4 V base v l) : ∃ A c, v = .slice A l.length c ∧ L4 V V.heap.size A l ∧ l.length ≤ c := by
  obtain ⟨A, c, e, hr, hc⟩ := own_rds (cl := cl4) h.1 rfl rfl (fun x _ => cl4_len x)
  exact ⟨A, c, e, ⟨hr, fun x hx => ⟨(h.2 x hx).arg, (h.2 x hx).arg'⟩⟩, hc⟩
set_option maxRecDepth 100000 in
set_option maxHeartbeats 1000000 in
theorem s13same (A A' : Option Addr) (c c' : Nat) (la lb : List X4) (B : Nat) (w : World) (ha : L4 w B A la) (hb : L4 w B A' lb) (hB : B ≤ w.heap.size) (hca : la.length ≤ c) (hcb : lb.length ≤ c') (hl : la.length ≤ 1000000) :
    Calls Try.prog 11 #[.slice A la.length c, .slice A' lb.length c'] w fun e w' => e = .returned (.bool (decide (la.map (·.q) = lb.map (·.q)))) ∧ Below w.heap.size w w' := by
  obtain ⟨n, hn⟩ : ∃ n, n = la.length := ⟨_, rfl⟩
  obtain ⟨m, hm⟩ : ∃ m, m = lb.length := ⟨_, rfl⟩
  have HN := Lib.hid hn
  have HM := Lib.hid hm
  rw [← hn] at hca hl ⊢
  rw [← hm] at hcb ⊢
  have HA := Lib.hid ha
  have HB := Lib.hid hb
  clear hn hm ha hb
  go_enter Try.func11, Try.ntmps11
  by_cases hnm : n = m
  · have HNM := Lib.hid hnm
    subst hnm
    go_wp2
    go_loopw [13] (fun i wr => ∃ k : Nat, k ≤ n ∧ i = .int .i64 (k : Int) ∧ Hid ((la.map (·.q)).take k = (lb.map (·.q)).take k) ∧ Below w.heap.size w wr)
      (fun i _ => n - (intOf i).toNat)
    case atStart => exact ⟨0, Nat.zero_le _, rfl, Lib.hid rfl, Below.refl _ _⟩
    case round =>
      obtain ⟨k, hk, rfl, HT, hbel⟩ := hrel
      by_cases hlt : k < n
      · obtain ⟨x, hx⟩ : ∃ x, la[k]? = some x := ⟨_, List.getElem?_eq_getElem (by rw [← HN.out]; exact hlt)⟩
        obtain ⟨y, hy⟩ : ∃ y, lb[k]? = some y := ⟨_, List.getElem?_eq_getElem (by rw [← HM.out]; exact hlt)⟩
        have hxm := List.mem_of_getElem? hx
        have hym := List.mem_of_getElem? hy
        obtain ⟨b1, o1, e1, hb1', hr1'⟩ := HA.out.rd (by rw [← HN.out]; omega)
        obtain ⟨b2, o2, e2, hb2', hr2'⟩ := HB.out.rd (by rw [← HM.out]; omega)
        obtain rfl := e1
        obtain rfl := e2
        have hr1 := range_below (hr1' k x hx) (show b1 < w.heap.size by omega) hbel
        have hr2 := range_below (hr2' k y hy) (show b2 < w.heap.size by omega) hbel
        have hzr := hbel.size
        have hb1 : b1 < wr.heap.size := by omega
        have hb2 : b2 < wr.heap.size := by omega
        have hBr : B ≤ wr.heap.size := by omega
        have HX1 : Hid (∀ V, Below wr.heap.size wr V → Rd V wr.heap.size x.A x.q.opt) := Lib.hid fun V hV => ((HA.out.arg x hxm).1.below ((hbel.trans (hV.mono hzr)).mono hB)).rd.more hBr
        have HX2 : Hid (∀ V, Below wr.heap.size wr V → Rd V wr.heap.size x.A' x.q.dat) := Lib.hid fun V hV => ((HA.out.arg x hxm).2.below ((hbel.trans (hV.mono hzr)).mono hB)).rd.more hBr
        have HY1 : Hid (∀ V, Below wr.heap.size wr V → Rd V wr.heap.size y.A y.q.opt) := Lib.hid fun V hV => ((HB.out.arg y hym).1.below ((hbel.trans (hV.mono hzr)).mono hB)).rd.more hBr
        have HY2 : Hid (∀ V, Below wr.heap.size wr V → Rd V wr.heap.size y.A' y.q.dat) := Lib.hid fun V hV => ((HB.out.arg y hym).2.below ((hbel.trans (hV.mono hzr)).mono hB)).rd.more hBr
        have HXk : Hid ((la.map (·.q))[k]? = some x.q) := Lib.hid (by rw [List.getElem?_map, hx]; rfl)
        have HYk : Hid ((lb.map (·.q))[k]? = some y.q) := Lib.hid (by rw [List.getElem?_map, hy]; rfl)
        clear hr1' hr2' hx hy hxm hym
        go_upto_region 6 with fail
        cases hsm : same4 x.q y.q with
        | true =>
          have HSM := Lib.hid hsm
          clear hsm
          refine wp_region_held_drew (S := fun w' => Below wr.heap.size wr w') (by kernel_rfl) (Below.refl _ wr).drew (fun hS => ?_)
          refine held_pure (i := 0) (oi := ⟨some 16, _, _, _, _, _⟩) rfl (by kernel_rfl) (by kernel_rfl) (by kernel_rfl) (fun _ _ _ h => h) (by rfl) (v := ?_) (fun w hSw => ?_) hS (fun hS => ?_)
          rotate_left
          · go_simp; try with_reducible rfl
          try go_frame
          refine held_pure (i := 1) (oi := ⟨some 17, _, _, _, _, _⟩) rfl (by kernel_rfl) (by kernel_rfl) (by kernel_rfl) (fun _ _ _ h => h) (by rfl) (v := ?_) (fun w hSw => ?_) hS (fun hS => ?_)
          rotate_left
          · go_simp; try with_reducible rfl
          try go_frame
          refine held_pure (i := 2) (oi := ⟨some 18, _, _, _, _, _⟩) rfl (by kernel_rfl) (by kernel_rfl) (by kernel_rfl) (fun _ _ _ h => h) (by rfl) (v := Value.pointer (some ⟨b1, o1 + k * 11, none⟩)) (fun w hSw => by go_simp) hS (fun hS => ?_)
          try go_frame
          refine held_pure (i := 3) (oi := ⟨some 19, _, _, _, _, _⟩) rfl (by kernel_rfl) (by kernel_rfl) (by kernel_rfl) (fun _ _ _ h => h) (by rfl) (fun w hSw => run_load_v4o rfl rfl (range_below hr1 hb1 hSw) rfl) hS (fun hS => ?_)
          try go_frame
          refine held_pure (i := 4) (oi := ⟨some 20, _, _, _, _, _⟩) rfl (by kernel_rfl) (by kernel_rfl) (by kernel_rfl) (fun _ _ _ h => h) (by rfl) (v := ?_) (fun w hSw => ?_) hS (fun hS => ?_)
          rotate_left
          · go_simp; try with_reducible rfl
          try go_frame
          refine held_pure (i := 5) (oi := ⟨some 21, _, _, _, _, _⟩) rfl (by kernel_rfl) (by kernel_rfl) (by kernel_rfl) (fun _ _ _ h => h) (by rfl) (v := ?_) (fun w hSw => ?_) hS (fun hS => ?_)
          rotate_left
          · go_simp; try with_reducible rfl
          try go_frame
          refine held_pure (i := 6) (oi := ⟨some 22, _, _, _, _, _⟩) rfl (by kernel_rfl) (by kernel_rfl) (by kernel_rfl) (fun _ _ _ h => h) (by rfl) (v := Value.pointer (some ⟨b2, o2 + k * 11, none⟩)) (fun w hSw => by go_simp) hS (fun hS => ?_)
          try go_frame
          refine held_pure (i := 7) (oi := ⟨some 23, _, _, _, _, _⟩) rfl (by kernel_rfl) (by kernel_rfl) (by kernel_rfl) (fun _ _ _ h => h) (by rfl) (fun w hSw => run_load_v4o rfl rfl (range_below hr2 hb2 hSw) rfl) hS (fun hS => ?_)
          try go_frame
          refine wpAnyH_ready (rs := [8]) (by kernel_rfl) (by simp) (AllReadyH.cons (o := ⟨some 24, _, _, _, _, _⟩) rfl (fun K hK => ?_) AllReadyH.nil)
          rw [if_pos (by rfl)]
          go_simp
          refine (r5same x.q y.q x.A x.c x.A' x.c' y.A y.c y.A' y.c' wr.heap.size _ hS.size (HX1.out _ hS) (HX2.out _ hS) (HY1.out _ hS) (HY2.out _ hS)).mono ?_
          rintro e w8 ⟨rfl, x8⟩
          rw [HSM.out]
          show K _ _
          refine hK.out _ _ (below_step hS x8) (fun hS => ?_)
          clear hK K
          try go_frame
          refine held_pure (i := 9) (oi := ⟨some 25, _, _, _, _, _⟩) rfl (by kernel_rfl) (by kernel_rfl) (by kernel_rfl) (fun _ _ _ h => h) (by rfl) (v := ?_) (fun w hSw => ?_) hS (fun hS => ?_)
          rotate_left
          · go_simp; try with_reducible rfl
          try go_frame
          refine wpAnyH_done (by kernel_rfl) ?_ _
          go_wp2_with fail
          go_roundw
          case rel => exact ⟨k + 1, by omega, by simp, Lib.hid (by
            rw [List.take_add_one, List.take_add_one, HT.out, HXk.out, HYk.out, same4_iff.1 HSM.out]), hbel.trans (hS.mono hbel.size)⟩
          case measure => simp [intOf]; omega
        | false =>
          have HSM := Lib.hid hsm
          clear hsm
          refine wp_region_held_drew (S := fun w' => Below wr.heap.size wr w') (by kernel_rfl) (Below.refl _ wr).drew (fun hS => ?_)
          refine held_pure (i := 0) (oi := ⟨some 16, _, _, _, _, _⟩) rfl (by kernel_rfl) (by kernel_rfl) (by kernel_rfl) (fun _ _ _ h => h) (by rfl) (v := ?_) (fun w hSw => ?_) hS (fun hS => ?_)
          rotate_left
          · go_simp; try with_reducible rfl
          try go_frame
          refine held_pure (i := 1) (oi := ⟨some 17, _, _, _, _, _⟩) rfl (by kernel_rfl) (by kernel_rfl) (by kernel_rfl) (fun _ _ _ h => h) (by rfl) (v := ?_) (fun w hSw => ?_) hS (fun hS => ?_)
          rotate_left
          · go_simp; try with_reducible rfl
          try go_frame
          refine held_pure (i := 2) (oi := ⟨some 18, _, _, _, _, _⟩) rfl (by kernel_rfl) (by kernel_rfl) (by kernel_rfl) (fun _ _ _ h => h) (by rfl) (v := Value.pointer (some ⟨b1, o1 + k * 11, none⟩)) (fun w hSw => by go_simp) hS (fun hS => ?_)
          try go_frame
          refine held_pure (i := 3) (oi := ⟨some 19, _, _, _, _, _⟩) rfl (by kernel_rfl) (by kernel_rfl) (by kernel_rfl) (fun _ _ _ h => h) (by rfl) (fun w hSw => run_load_v4o rfl rfl (range_below hr1 hb1 hSw) rfl) hS (fun hS => ?_)
          try go_frame
          refine held_pure (i := 4) (oi := ⟨some 20, _, _, _, _, _⟩) rfl (by kernel_rfl) (by kernel_rfl) (by kernel_rfl) (fun _ _ _ h => h) (by rfl) (v := ?_) (fun w hSw => ?_) hS (fun hS => ?_)
          rotate_left
          · go_simp; try with_reducible rfl
          try go_frame
          refine held_pure (i := 5) (oi := ⟨some 21, _, _, _, _, _⟩) rfl (by kernel_rfl) (by kernel_rfl) (by kernel_rfl) (fun _ _ _ h => h) (by rfl) (v := ?_) (fun w hSw => ?_) hS (fun hS => ?_)
          rotate_left
          · go_simp; try with_reducible rfl
          try go_frame
          refine held_pure (i := 6) (oi := ⟨some 22, _, _, _, _, _⟩) rfl (by kernel_rfl) (by kernel_rfl) (by kernel_rfl) (fun _ _ _ h => h) (by rfl) (v := Value.pointer (some ⟨b2, o2 + k * 11, none⟩)) (fun w hSw => by go_simp) hS (fun hS => ?_)
          try go_frame
          refine held_pure (i := 7) (oi := ⟨some 23, _, _, _, _, _⟩) rfl (by kernel_rfl) (by kernel_rfl) (by kernel_rfl) (fun _ _ _ h => h) (by rfl) (fun w hSw => run_load_v4o rfl rfl (range_below hr2 hb2 hSw) rfl) hS (fun hS => ?_)
          try go_frame
          refine wpAnyH_ready (rs := [8]) (by kernel_rfl) (by simp) (AllReadyH.cons (o := ⟨some 24, _, _, _, _, _⟩) rfl (fun K hK => ?_) AllReadyH.nil)
          rw [if_pos (by rfl)]
          go_simp
          refine (r5same x.q y.q x.A x.c x.A' x.c' y.A y.c y.A' y.c' wr.heap.size _ hS.size (HX1.out _ hS) (HX2.out _ hS) (HY1.out _ hS) (HY2.out _ hS)).mono ?_
          rintro e w8 ⟨rfl, x8⟩
          rw [HSM.out]
          show K _ _
          refine hK.out _ _ (below_step hS x8) (fun hS => ?_)
          clear hK K
          try go_frame
          refine held_pure (i := 9) (oi := ⟨some 25, _, _, _, _, _⟩) rfl (by kernel_rfl) (by kernel_rfl) (by kernel_rfl) (fun _ _ _ h => h) (by rfl) (v := ?_) (fun w hSw => ?_) hS (fun hS => ?_)
          rotate_left
          · go_simp; try with_reducible rfl
          try go_frame
          refine wpAnyH_done (by kernel_rfl) ?_ _
          go_wp2_with fail
          have hD : decide (la.map (·.q) = lb.map (·.q)) = false := decide_eq_false fun e => by
            have h1 := HXk.out
            rw [e, HYk.out] at h1
            injection h1 with h1
            have := HSM.out
            rw [same4_iff.2 h1.symm] at this
            cases this
          exact bodyPost_ret (results_tmp rfl _ _ _) rfl ⟨by rw [hD]; rfl, hbel.trans (hS.mono hbel.size)⟩
      · obtain rfl : k = n := by omega
        go_wp2
        have hD : decide (la.map (·.q) = lb.map (·.q)) = true := decide_eq_true (by
          have h := HT.out
          rw [List.take_of_length_le (by rw [List.length_map, ← HN.out]; exact Nat.le_refl _), List.take_of_length_le (by rw [List.length_map, ← HM.out]; exact Nat.le_refl _)] at h
          exact h)
        go_ret
        exact ⟨by rw [hD]; rfl, hbel⟩
  · have d1 : ((n : Int) != (m : Int)) = true := by simp; omega
    have hD : decide (la.map (·.q) = lb.map (·.q)) = false := decide_eq_false fun e => hnm (by
      have := congrArg List.length e
      rw [List.length_map, List.length_map] at this
      rw [HN.out, HM.out]; exact this)
    have HD := Lib.hid hD
    clear hD
    go_wp2
    go_ret
    exact ⟨by rw [HD.out]; rfl, Below.refl _ _⟩
end Go.Proofs.Ytcebobcakiljhaa

/-
  Contract of layer 13's helper of the statements: awake. Conditions are each theorem's own.
-/
namespace Go.Proofs.Ytcebobcakiljhaa
open Go.RowKit Go.Shelf

def qa13 : P4 := ⟨0, 0, 0, 9, 17, 0, 0, false, false, [], List.replicate 100 0⟩
theorem cutL_len (q : P4) (mtu : Int) : (cutL q mtu).length ≤ q.dat.length + 1 := by
  unfold cutL; split
  · exact rst4_len _ _ _ _
  · simp
theorem three_of {l : List X4} (h : l.length = 3) : ∃ x0 x1 x2, l = [x0, x1, x2] := by
  rcases l with _ | ⟨a, _ | ⟨b, _ | ⟨c, _ | ⟨d, l⟩⟩⟩⟩
  · cases h
  · cases h
  · cases h
  · exact ⟨a, b, c, rfl⟩
  · simp only [List.length_cons] at h; omega
theorem byt_rep (n j : Nat) : byt (List.replicate n 0) j = 0 := by unfold byt; rw [List.getElem?_replicate]; split <;> rfl
theorem qa13_cut : cutE qa13 68 = 0 ∧ (cutL qa13 68).length = 3 ∧ (cutL qa13 68).map (·.dat.length) = [48, 48, 4] ∧ (cutL qa13 68).map (·.mf) = [true, true, false] ∧ (cutL qa13 68).map (·.off) = [0, 48, 96] := by decide +kernel
theorem cut13_awake (g : Nat) (w : World) (hg : w.heap[g]? = some (.cells (List.replicate 100 (.int .u8 0)).toArray 5 (0, 0))) :
    Calls Try.prog 9 #[.agg #[.int .i64 0, .int .i64 0, .int .i64 0, .int .i64 9, .int .i64 17, .int .i64 0, .int .i64 0, .bool false, .bool false, .slice none 0 0, .slice (some ⟨g, 0, none⟩) 100 100], .int .i64 68] w fun e w' =>
      ∃ b c A0 c0 A2 c2, e = .returned (.tuple #[.slice (some ⟨b, 0, none⟩) 3 c, .int .i64 0]) ∧ w'.cell? ⟨b, 10, none⟩ = some (.slice A0 48 c0) ∧ w'.cell? ⟨b, 32, none⟩ = some (.slice A2 4 c2) ∧ w'.cell? ⟨b, 19, none⟩ = some (.bool true) ∧ w'.cell? ⟨b, 13, none⟩ = some (.int .i64 48) ∧ 3 ≤ c ∧ Below w.heap.size w w' := by
  obtain ⟨h0, h1, h2, h3, h4⟩ := qa13_cut
  have hlen : qa13.dat.length = 100 := List.length_replicate
  have hD : Arg w w.heap.size (some ⟨g, 0, none⟩) 100 qa13.dat := ⟨Rd.of_block hg (heap_lt hg) 0 (fun j hj => by
    rw [hlen] at hj
    rw [show byt qa13.dat j = 0 from byt_rep 100 j, Nat.zero_add, List.getElem?_toArray, List.getElem?_replicate, if_pos hj]), Nat.le_of_eq hlen, fun e => by cases e⟩
  have key := c13cut qa13 none 0 (some ⟨g, 0, none⟩) 100 68 w.heap.size w (Arg.nil _ _) hD (Nat.le_refl _) (by decide) (by rw [hlen]; decide)
  have hv : v4v qa13 none 0 (some ⟨g, 0, none⟩) 100 = .agg #[.int .i64 0, .int .i64 0, .int .i64 0, .int .i64 9, .int .i64 17, .int .i64 0, .int .i64 0, .bool false, .bool false, .slice none 0 0, .slice (some ⟨g, 0, none⟩) 100 100] := by
    unfold v4v
    rw [hlen]; rfl
  rw [hv] at key
  refine key.mono ?_
  rintro e w' ⟨v, l, rfl, ⟨ho, _⟩, hl, hb⟩
  rw [h0]
  rw [← hl] at h1 h2 h3 h4
  clear hl h0 hD key
  rw [List.length_map] at h1
  obtain ⟨x0, x1, x2, rfl⟩ := three_of h1
  simp only [List.map_cons, List.map_nil, List.cons.injEq, and_true] at h2 h3 h4
  obtain ⟨d0, _, d2⟩ := h2
  obtain ⟨b, c, rfl⟩ := ownsRow_succ (k := 2) ho
  have cell : ∀ j, j < 33 → w'.cell? ⟨b, j, none⟩ = ([x0, x1, x2].flatMap cl4)[j]? := fun j hj => World.ownsRow.cellAt ho j hj
  refine ⟨b, c, x0.A', x0.c', x2.A', x2.c', rfl, ?_, ?_, ?_, ?_, ?_, hb⟩
  · rw [cell 10 (by decide)]; show some (Value.slice x0.A' x0.q.dat.length x0.c') = _; rw [d0]
  · rw [cell 32 (by decide)]; show some (Value.slice x2.A' x2.q.dat.length x2.c') = _; rw [d2]
  · rw [cell 19 (by decide)]; show some (Value.bool x1.q.mf) = _; rw [h3.2.1]
  · rw [cell 13 (by decide)]; show some (Value.int .i64 x1.q.off) = _; rw [h4.2.1]
  · rcases ho.2 with ⟨e, _⟩ | ⟨g', cap, cur, e, _, _, hle, _⟩
    · cases e
    · cases e; exact hle
set_option maxRecDepth 100000 in
set_option maxHeartbeats 1000000 in
theorem awake13_any (w : World) : Calls Try.prog 8 #[] w fun e w' => e = .returned (.bool true) ∧ Below w.heap.size w w' := by
  have hmk : ∀ W : World, (Instr.makeSlice 22 (.int .i64 100) (.int .i64 100)).run Try.prog W = .ok (.slice (some ⟨W.heap.size, 0, none⟩) 100 100) (W.alloc (.cells (List.replicate 100 (.int .u8 0)).toArray 5)) := fun W => by
    rw [← made_rep]; exact run_make_row' 22 5 (.int .u8 0) 1 Try.underlying22 info_u8 rfl .i64 .i64 100 (by omega) (by omega) W
  have hB : Below w.heap.size w (w.alloc (.cells (List.replicate 100 (.int .u8 0)).toArray 5)) := (Below.refl _ w).alloc (Nat.le_refl _) _
  go_enter Try.func8, Try.ntmps8
  go_wp2_with (go_at_call 9; refine (cut13_awake w.heap.size _ (World.alloc_heap_new w _)).mono ?_; rintro e w1 ⟨b, c, A0, c0, A2, c2, rfl, k1, k2, k3, k4, hc, x1⟩)
  go_ret
  exact ⟨rfl, hB.trans (x1.mono hB.size)⟩
end Go.Proofs.Ytcebobcakiljhaa
