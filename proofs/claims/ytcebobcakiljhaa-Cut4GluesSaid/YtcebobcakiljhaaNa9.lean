/-
  Contracts and lemmas on which the proofs of this seat stand (several texts in one). Conditions are each theorem's own.
-/
import Derived.Test.YtcebobcakiljhaaNa8
import Derived.Test.YtcebobcakiljhaaNa2

/-
  Contract of the document's Cut of layer 13. Conditions are each theorem's own.
-/
namespace Go.Proofs.Ytcebobcakiljhaa
open Go.RowKit Go.Shelf

section
variable {n : Nat} {Q : Exit → Act → World → Prop} {K : Act → World → Prop} {o : Oper} {a : Act} {w : World}
theorem growI {v : Value} {w' : World} (hrun : (execOp a.eval o).run Try.prog w = .ok (.value v) w') (h : K (a.put o.dst v) w') : o.wpIn Fence.wide n Try.prog a w K Q :=
  ⟨fun _ _ => trivial, by rw [show Fence.wide.round = none from rfl, Oper.semAt_none, hrun]; exact h⟩
theorem skipI {w' : World} (hrun : (execOp a.eval o).run Try.prog w = .ok .skip w') (h : K (a.put o.dst undef) w') : o.wpIn Fence.wide n Try.prog a w K Q :=
  ⟨fun _ _ => trivial, by rw [show Fence.wide.round = none from rfl, Oper.semAt_none, hrun]; exact h⟩
theorem appendI (s x : Operand) (ho : o.op = .call { callee := .builtin .append, args := #[s, x], argTypes := #[22, 22] })
    (base : Nat) (v : Value) (m : Nat) (xs : List Value) (hs : a.eval s = v) (hown : w.ownsRow base 5 1 v m xs)
    (B : Nat) (A : Option Addr) (c : Nat) (bs : List UInt8) (hx : a.eval x = .slice A bs.length c) (hA : A = none → c = 0) (hr : Rd w B A bs)
    (hlen : m + bs.length ≤ 2199023255552) (hbase : base ≤ w.heap.size)
    (h : ∀ v' w', w'.ownsRow base 5 1 v' (m + bs.length) (xs ++ row bs) → w.grownBy w' v.ownBlock → K (a.put o.dst v') w') : o.wpIn Fence.wide n Try.prog a w K Q := by
  obtain ⟨i0, hi, hz0, hz1, hz2⟩ := info_parts info_u8
  rcases A with _ | ad
  · have h0 : bs = [] := by
      rcases Nat.eq_zero_or_pos bs.length with e | e
      · exact List.eq_nil_of_length_eq_zero e
      · obtain ⟨_, _, e', _⟩ := hr e; cases e'
    subst h0
    obtain rfl := hA rfl
    have hrun := run_append_owned_none (P := Try.prog) (w := w) base 22 o.type 5 i0 1 Try.underlying22 hi v m xs hown
    refine growI (v := v) (w' := w) ?_ (h v w (by simpa [row] using hown) (World.grownBy.refl w _))
    simp [execOp, ho, resolve, invoke, builtin, hs, hx, hrun, Result.andThen]
  · obtain ⟨v', w', hrun, h1, h2, _⟩ := run_append_own (P := Try.prog) w base 22 o.type 5 i0 (.int .u8 0) 1 1 Try.underlying22 hi hz0 hz1 hz2 rfl (by decide) v m xs hown ad bs.length c (row bs)
      (by rw [row_length, Nat.mul_one]) hr.src (row_one bs) (by unfold maxLen; omega) (by omega) hbase
    refine growI (v := v') (w' := w') ?_ (h v' w' h1 h2)
    simp [execOp, ho, resolve, invoke, builtin, hs, hx, hrun, Result.andThen]
theorem store_slI {x y : Operand} {p : Addr} {v0 : Value} {A : Option Addr} {m c : Nat} (ho : o.op = .store 22 x y) (hx : a.eval x = .pointer (some p)) (hy : a.eval y = .slice A m c) (hc : w.cell? p = some v0) (hf : w.frozen? p = false)
    (h : K (a.put o.dst undef) (w.setCell p (.slice A m c))) : o.wpIn Fence.wide n Try.prog a w K Q := by
  refine skipI (w' := w.setCell p (.slice A m c)) ?_ h
  unfold execOp
  simp only [ho, hx, hy, Instr.storeAt, Instr.sureAddr, Sem.run_bind, Sem.run_pure, Result.andThen_ok]
  go_simp
end
theorem wpList_growU {ops : Array Oper} {rest : List Oper} {o : Oper} {a : Act} {w w' : World} {Q : Exit → Act → World → Prop} {v : Value} (hg : o.guard = none) (hrun : (execOp a.eval o).run Try.prog w = .ok (.value v) w') (h : wpList Try.prog ops Q rest (a.put o.dst v) w') : wpList Try.prog ops Q (o :: rest) a w :=
  wpList_plain hg fun K hK => by unfold Oper.wp; rw [hrun]; exact hK _ _ h
/-- The length of a slice. -/
def lenV (v : Value) : Nat := match v with | .slice _ n _ => n | _ => 0
theorem own_keepT {w w' : World} {base base' n n' s s' e e' : Nat} {v v' : Value} {xs xs' : List Value} (h : w.ownsRow base e s v n xs) (hv : w.ownsRow base' e' s' v' n' xs') (hg : w.grownBy w' v'.ownBlock) (hne : e' ≠ e) : w'.ownsRow base e s v n xs := by
  refine h.kept hg ?_
  rcases h.2 with ⟨rfl, _⟩ | ⟨g, cap, cur, rfl, _, hgb, _⟩
  · exact .inl rfl
  · refine .inr fun e1 => ?_
    rcases hv.2 with ⟨rfl, _⟩ | ⟨g2, cap2, cur2, rfl, _, hgb2, _⟩
    · simp [Value.ownBlock] at e1
    · have e2 : g = g2 := by simpa [Value.ownBlock] using e1
      subst e2
      rw [hgb] at hgb2
      cases hgb2
      exact hne rfl
theorem KeepR.below {r B : Nat} {X Y Z : World} (k : KeepR r Y Z) (h : Below B X Y) (hr : B ≤ r) : Below B X Z :=
  ⟨k.2.1.trans h.os, k.2.2.1.trans h.tape, k.2.2.2.1.trans h.output, by rw [k.1]; exact h.size, fun i hi => (k.2.2.2.2 i (by omega)).trans (h.block i hi)⟩
set_option maxRecDepth 100000 in
set_option maxHeartbeats 20000000 in
theorem r13cut (q : P4) (A : Option Addr) (c : Nat) (A' : Option Addr) (c' : Nat) (mtu : Int) (B : Nat) (w : World) (hO : Arg w B A c q.opt) (hD : Arg w B A' c' q.dat) (hB0 : B ≤ w.heap.size) (hol : q.opt.length ≤ 1000000) (hdl : q.dat.length ≤ 1000000) :
    Calls Try.prog 10 #[v4v q A c A' c', .int .i64 mtu] w fun e w' => ∃ v l, e = .returned (.tuple #[v, .int .i64 (cutE q mtu)]) ∧ Row4 w' w.heap.size v l ∧ l.map (·.q) = cutL q mtu ∧ Below w.heap.size w w' := by
  have hTu : 24 ≠ 5 := nat_ne (by kernel_rfl)
  have hB : Below w.heap.size w (w.alloc (.cells (v4a q A c A' c') 24)) := (Below.refl w.heap.size w).alloc (Nat.le_refl _) _
  have hrow : (w.alloc (.cells (v4a q A c A' c') 24)).heap[w.heap.size]? = some (.cells (v4a q A c A' c') 24 (0, 0)) := World.alloc_heap_new w _
  obtain ⟨g, hg⟩ : ∃ g, g = w.heap.size := ⟨_, rfl⟩
  rw [v4v_eq4]
  go_enter Try.func10, Try.ntmps10
  go_upto_region 1 with fail
  generalize w.alloc (.cells (v4a q A c A' c') 24) = W at *
  rw [← hg] at hrow ⊢
  have HG := Lib.hid hg
  have hz := heap_lt hrow
  have hAt := at4_of hrow
  clear hg
  by_cases h1 : mtu < 68
  · have d1 : decide (mtu < 68) = true := by simpa using h1
    have HE := Lib.hid (show cutE q mtu = 1 by rw [cutE, if_pos (.inl h1)])
    clear h1
    go_wp2
    exact bodyPost_ret (results_tmp2 rfl _ _ _) rfl ⟨.slice none 0 0, [], by rw [HE.out]; rfl, Row4.nil _ _, by rw [cutL, if_neg (by rw [HE.out]; decide)]; rfl, hB⟩
  · have d1 : decide (mtu < 68) = false := by simpa using h1
    by_cases h2 : mtu > 65535
    · have d2 : decide (mtu > 65535) = true := by simpa using h2
      have HE := Lib.hid (show cutE q mtu = 1 by rw [cutE, if_pos (.inr h2)])
      clear h1 h2
      go_wp2
      exact bodyPost_ret (results_tmp2 rfl _ _ _) rfl ⟨.slice none 0 0, [], by rw [HE.out]; rfl, Row4.nil _ _, by rw [cutL, if_neg (by rw [HE.out]; decide)]; rfl, hB⟩
    · have d2 : decide (mtu > 65535) = false := by simpa using h2
      have HM : Hid (¬ (mtu < 68 ∨ mtu > 65535)) := Lib.hid (by omega)
      have hmtu : 68 ≤ mtu ∧ mtu ≤ 65535 := by omega
      by_cases hk : chk4 q = 0
      · have HK := Lib.hid hk
        clear h1 h2 hk
        go_upto_region 6 with (first
          | ((with_reducible show wpList _ _ _ (Oper.mk _ (Op.load 24 _) _ _ _ _ :: _) _ _); refine wpList_val rfl (run_load_v4 rfl rfl hAt rfl) ?_)
          | (go_at_call 30; refine (r5check q A c A' c' _ hol hdl).mono ?_; rintro e w1 ⟨rfl, x1⟩; rw [HK.out]))
        have hrow1 := (x1.block g hz).trans hrow
        have hg1 := Nat.lt_of_lt_of_le hz x1.size
        have hB1 := hB.trans (x1.mono hB.size)
        have hO1 := (hO.below (hB1.mono hB0)).more (show B ≤ w1.heap.size by have := hB1.size; omega)
        have hD1 := (hD.below (hB1.mono hB0)).more (show B ≤ w1.heap.size by have := hB1.size; omega)
        clear hrow hAt hz
        refine regionY 7 (fun V => Below w1.heap.size w1 V ∧ V.heap[g]? = some (.cells (v4a q A c A' c') 24 (0, 0))) (by kernel_rfl) ?_
        have hS : Below w1.heap.size w1 w1.drew ∧ w1.drew.heap[g]? = some (.cells (v4a q A c A' c') 24 (0, 0)) := ⟨(Below.refl _ w1).drew, hrow1⟩
        refine pureY (i := 0) (oi := ⟨some 25, _, _, _, _, _⟩) rfl (by kernel_rfl) (by kernel_rfl) (by kernel_rfl) (by kernel_rfl) (by kernel_rfl) (fun _ _ _ h => h) (by rfl) (v := ?_) (fun w hSw => ?_) hS ?_
        rotate_left
        · go_simp; try with_reducible rfl
        try go_frame
        refine pureY (i := 1) (oi := ⟨some 26, _, _, _, _, _⟩) rfl (by kernel_rfl) (by kernel_rfl) (by kernel_rfl) (by kernel_rfl) (by kernel_rfl) (fun _ _ _ h => h) (by rfl) (fun w hSw => run_load_sl rfl rfl (at4_of hSw.2).opt) hS ?_
        try go_frame
        refine pureY (i := 3) (oi := ⟨some 28, _, _, _, _, _⟩) rfl (by kernel_rfl) (by kernel_rfl) (by kernel_rfl) (by kernel_rfl) (by kernel_rfl) (fun _ _ _ h => h) (by rfl) (v := ?_) (fun w hSw => ?_) hS ?_
        rotate_left
        · go_simp; try with_reducible rfl
        try go_frame
        refine pureY (i := 4) (oi := ⟨some 29, _, _, _, _, _⟩) rfl (by kernel_rfl) (by kernel_rfl) (by kernel_rfl) (by kernel_rfl) (by kernel_rfl) (fun _ _ _ h => h) (by rfl) (fun w hSw => run_load_sl rfl rfl (at4_of hSw.2).dat) hS ?_
        try go_frame
        refine oneY (i := 2) (oi := ⟨some 27, _, _, _, _, _⟩) (by kernel_rfl) rfl (by rfl) (fun K hK => ?_)
        refine appendI _ _ rfl w1.drew.heap.size (.slice none 0 0) 0 [] rfl (World.ownsRow_nil _ _ _ _) w1.heap.size A c q.opt rfl hO1.none_ (hO1.below hS.1).rd (by omega) (Nat.le_refl _) ?_
        intro v2 w2 own2 grow2
        have y2 := (Below.refl w1.drew.heap.size w1.drew).grown grow2 (Nat.le_refl _) (fun k hk => by cases hk)
        obtain ⟨P2, p2, rfl, o2⟩ := own_made (bs := q.opt) own2 (Nat.zero_add _) (List.nil_append _)
        have hS2 := hS
        have hS : Below w1.heap.size w1 w2 ∧ w2.heap[g]? = some (.cells (v4a q A c A' c') 24 (0, 0)) := ⟨hS.1.trans (y2.mono hS.1.size), (y2.block g (by have := hS.1.size; have := hg1; omega)).trans hS.2⟩
        refine hK _ _ (fun _ => hS) ?_
        clear hK K
        try go_frame
        refine pureY (i := 6) (oi := ⟨some 31, _, _, _, _, _⟩) rfl (by kernel_rfl) (by kernel_rfl) (by kernel_rfl) (by kernel_rfl) (by kernel_rfl) (fun _ _ _ h => h) (by rfl) (v := ?_) (fun w hSw => ?_) hS ?_
        rotate_left
        · go_simp; try with_reducible rfl
        try go_frame
        refine oneY (i := 5) (oi := ⟨some 30, _, _, _, _, _⟩) (by kernel_rfl) rfl (by rfl) (fun K hK => ?_)
        refine appendI _ _ rfl w2.heap.size (.slice none 0 0) 0 [] rfl (World.ownsRow_nil _ _ _ _) w1.heap.size A' c' q.dat rfl hD1.none_ (hD1.below hS.1).rd (by omega) (Nat.le_refl _) ?_
        intro v5 w5 own5 grow5
        have y5 := (Below.refl w2.heap.size w2).grown grow5 (Nat.le_refl _) (fun k hk => by cases hk)
        obtain ⟨P5, p5, rfl, o5⟩ := own_made (bs := q.dat) own5 (Nat.zero_add _) (List.nil_append _)
        have hS5 := hS
        have hS : Below w1.heap.size w1 w5 ∧ w5.heap[g]? = some (.cells (v4a q A c A' c') 24 (0, 0)) := ⟨hS.1.trans (y5.mono hS.1.size), (y5.block g (by have := hS.1.size; have := hg1; omega)).trans hS.2⟩
        refine hK _ _ (fun _ => hS) ?_
        clear hK K
        try go_frame
        refine oneY (i := 7) (oi := ⟨none, _, _, _, _, _⟩) (by kernel_rfl) rfl (by rfl) (fun K hK => ?_)
        have k7 := (at4_of hS.2).opt
        have f7 := heap_frozen hS.2 9
        refine store_slI rfl rfl rfl k7 f7 ?_
        have hrow7 : (w5.setCell ⟨g, 9, none⟩ (.slice P2 q.opt.length p2)).heap[g]? = some (.cells (v4a q P2 p2 A' c') 24 (0, 0)) := heap_setCell_same w5 g 9 _ _ (.slice P2 q.opt.length p2) hS.2
        have o27 := own_setCellB (i := 9) (u := .slice P2 q.opt.length p2) (own_below o2 y5) hS.2 hTu
        have o57 := own_setCellB (i := 9) (u := .slice P2 q.opt.length p2) o5 hS.2 hTu
        have hS7 := hS.1
        have hz7 : (w5.setCell ⟨g, 9, none⟩ (.slice P2 q.opt.length p2)).heap.size = w5.heap.size := by simp
        have hk7 : KeepR g w5 (w5.setCell ⟨g, 9, none⟩ (.slice P2 q.opt.length p2)) := KeepR.set2 _ _ _
        clear k7 f7 hS
        refine hK _ _ (fun h => absurd h (by decide)) ?_
        clear hK K
        generalize w5.setCell ⟨g, 9, none⟩ (.slice P2 q.opt.length p2) = w7 at *
        try go_frame
        refine oneY (i := 8) (oi := ⟨some 32, _, _, _, _, _⟩) (by kernel_rfl) rfl (by rfl) (fun K hK => ?_)
        refine valI (v := ?_) ?_ ?_
        rotate_left
        · go_simp; try with_reducible rfl
        refine hK _ _ (fun h => absurd h (by decide)) ?_
        clear hK K
        try go_frame
        refine oneY (i := 9) (oi := ⟨none, _, _, _, _, _⟩) (by kernel_rfl) rfl (by rfl) (fun K hK => ?_)
        have k9 := (at4_of hrow7).dat
        have f9 := heap_frozen hrow7 10
        refine store_slI rfl rfl rfl k9 f9 ?_
        have hrow9 : (w7.setCell ⟨g, 10, none⟩ (.slice P5 q.dat.length p5)).heap[g]? = some (.cells (v4a q P2 p2 P5 p5) 24 (0, 0)) := heap_setCell_same w7 g 10 _ _ (.slice P5 q.dat.length p5) hrow7
        have o29 := own_setCellB (i := 10) (u := .slice P5 q.dat.length p5) o27 hrow7 hTu
        have o59 := own_setCellB (i := 10) (u := .slice P5 q.dat.length p5) o57 hrow7 hTu
        have hk9 : KeepR g w5 (w7.setCell ⟨g, 10, none⟩ (.slice P5 q.dat.length p5)) := (KeepR.set2 _ _ _).trans hk7
        clear k9 f9 hrow7 o27 o57 hk7 hz7
        refine hK _ _ (fun h => absurd h (by decide)) ?_
        clear hK K
        generalize w7.setCell ⟨g, 10, none⟩ (.slice P5 q.dat.length p5) = V at *
        try go_frame
        refine doneY (by kernel_rfl) ?_ _
        have hz5 := hS7.size
        have hgV : g < V.heap.size := heap_lt hrow9
        have hBV : Below w.heap.size w V := hk9.below (hB1.trans (hS7.mono hB1.size)) (by have := HG.out; omega)
        have ownO : V.ownsRow (g + 1) 5 1 (.slice P2 q.opt.length p2) q.opt.length (row q.opt) := own_base o29 hg1
        have ownD : V.ownsRow (g + 1) 5 1 (.slice P5 q.dat.length p5) q.dat.length (row q.dat) := own_base o59 (by have := y2.size; have : w1.drew.heap.size = w1.heap.size := rfl; omega)
        clear o29 o59 hk9 hS7 y2 y5 o2 o5 own2 grow2 own5 grow5 hS2 hS5 hO1 hD1 hrow1 hB1 x1
        by_cases hs : size4 q > mtu
        · have s1 : decide (size4 q ≤ mtu) = false := by simpa using hs
          cases hdf : q.df with
          | true =>
            have HE := Lib.hid (show cutE q mtu = 6 by rw [cutE, if_neg HM.out, if_pos HK.out, if_pos ⟨hdf, hs⟩])
            clear hs
            go_upto_region 9 with (first
              | ((with_reducible show wpList _ _ _ (Oper.mk _ (Op.load 24 _) _ _ _ _ :: _) _ _); refine wpList_val rfl (run_load_v4 rfl rfl (at4_of hrow9) rfl) ?_)
              | (go_at_call 31; refine (r5size q P2 p2 P5 p5 _ hol hdl).mono ?_; rintro e V2 ⟨rfl, x2⟩; have hAtV2 := (at4_of hrow9).below x2 hgV))
            have kdf := hAtV2.df
            rw [hdf] at kdf
            clear hdf
            go_wp2_with fail
            exact bodyPost_ret (results_tmp2 rfl _ _ _) rfl ⟨.slice none 0 0, [], by rw [HE.out]; rfl, Row4.nil _ _, by rw [cutL, if_neg (by rw [HE.out]; decide)]; rfl, hBV.trans (x2.mono hBV.size)⟩
          | false =>
            have HE0 := Lib.hid (show cutE q mtu = 0 by rw [cutE, if_neg HM.out, if_pos HK.out, if_neg (fun h => by rw [hdf] at h; exact absurd h.1 (by decide))])
            have HS0 := Lib.hid hs
            clear hs
            go_upto_region 9 with (first
              | ((with_reducible show wpList _ _ _ (Oper.mk _ (Op.load 24 _) _ _ _ _ :: _) _ _); refine wpList_val rfl (run_load_v4 rfl rfl (at4_of hrow9) rfl) ?_)
              | (go_at_call 31; refine (r5size q P2 p2 P5 p5 _ hol hdl).mono ?_; rintro e V2 ⟨rfl, x2⟩; have hAtV2 := (at4_of hrow9).below x2 hgV))
            have hgV2 := Nat.lt_of_lt_of_le hgV x2.size
            have kdf := hAtV2.df
            rw [hdf] at kdf
            have hBV2 := hBV.trans (x2.mono hBV.size)
            have ownO2 := own_below ownO x2
            have ownD2 := own_below ownD x2
            have hrowV2 := (x2.block g hgV).trans hrow9
            clear hdf
            go_wp2_with fail
            refine wp_region_held_drew (S := fun w' => Below V2.heap.size V2 w') (by kernel_rfl) (Below.refl _ V2).drew (fun hS => ?_)
            refine held_pure (i := 0) (oi := ⟨some 41, _, _, _, _, _⟩) rfl (by kernel_rfl) (by kernel_rfl) (by kernel_rfl) (fun _ _ _ h => h) (by rfl) (v := ?_) (fun w hSw => ?_) hS (fun hS => ?_)
            rotate_left
            · go_simp; try with_reducible rfl
            try go_frame
            refine held_pure (i := 1) (oi := ⟨some 42, _, _, _, _, _⟩) rfl (by kernel_rfl) (by kernel_rfl) (by kernel_rfl) (fun _ _ _ h => h) (by rfl) (fun w hSw => run_load_sl rfl rfl (hAtV2.below hSw hgV2).dat) hS (fun hS => ?_)
            try go_frame
            refine held_pure (i := 2) (oi := ⟨some 43, _, _, _, _, _⟩) rfl (by kernel_rfl) (by kernel_rfl) (by kernel_rfl) (fun _ _ _ h => h) (by rfl) (v := ?_) (fun w hSw => ?_) hS (fun hS => ?_)
            rotate_left
            · go_simp; try with_reducible rfl
            try go_frame
            refine held_pure (i := 3) (oi := ⟨some 44, _, _, _, _, _⟩) rfl (by kernel_rfl) (by kernel_rfl) (by kernel_rfl) (fun _ _ _ h => h) (by rfl) (fun w hSw => run_load_bool rfl rfl (hAtV2.below hSw hgV2).mf) hS (fun hS => ?_)
            try go_frame
            refine held_pure (i := 4) (oi := ⟨some 45, _, _, _, _, _⟩) rfl (by kernel_rfl) (by kernel_rfl) (by kernel_rfl) (fun _ _ _ h => h) (by rfl) (v := ?_) (fun w hSw => ?_) hS (fun hS => ?_)
            rotate_left
            · go_simp; try with_reducible rfl
            try go_frame
            refine held_pure (i := 5) (oi := ⟨some 46, _, _, _, _, _⟩) rfl (by kernel_rfl) (by kernel_rfl) (by kernel_rfl) (fun _ _ _ h => h) (by rfl) (fun w hSw => run_load_sl rfl rfl (hAtV2.below hSw hgV2).opt) hS (fun hS => ?_)
            try go_frame
            refine held_pure (i := 6) (oi := ⟨some 8, _, _, _, _, _⟩) rfl (by kernel_rfl) (by kernel_rfl) (by kernel_rfl) (fun _ _ _ h => h) (by rfl) (v := ?_) (fun w hSw => ?_) hS (fun hS => ?_)
            rotate_left
            · go_simp; try with_reducible rfl
            try go_frame
            refine held_pure (i := 7) (oi := ⟨some 9, _, _, _, _, _⟩) rfl (by kernel_rfl) (by kernel_rfl) (by kernel_rfl) (fun _ _ _ h => h) (by rfl) (v := ?_) (fun w hSw => ?_) hS (fun hS => ?_)
            rotate_left
            · go_simp; try with_reducible rfl
            try go_frame
            refine held_pure (i := 8) (oi := ⟨some 10, _, _, _, _, _⟩) rfl (by kernel_rfl) (by kernel_rfl) (by kernel_rfl) (fun _ _ _ h => h) (by rfl) (v := ?_) (fun w hSw => ?_) hS (fun hS => ?_)
            rotate_left
            · go_simp; try with_reducible rfl
            try go_frame
            refine wpAnyH_done (by kernel_rfl) ?_ _
            go_wp2_with fail
            have hBX : Below w.heap.size w V2.drew := hBV2.drew
            have hrowX : V2.drew.heap[g]? = some (.cells (v4a q P2 p2 P5 p5) 24 (0, 0)) := hrowV2
            have ownOX := own_below ownO2 (Below.refl V2.heap.size V2).drew
            have ownDX := own_below ownD2 (Below.refl V2.heap.size V2).drew
            clear hS hrowV2 ownO2 ownD2 hAtV2 hgV2 kdf hBV2 x2 ownO ownD hBV hgV hrow9
            generalize V2.drew = X at *
            obtain ⟨M, hM⟩ : ∃ M, M = q.mf := ⟨_, rfl⟩
            rw [← hM]
            have HMM := Lib.hid hM
            clear hM
            obtain ⟨o, ho⟩ : ∃ o, o = copied q.opt := ⟨_, rfl⟩
            have HOO := Lib.hid ho
            have HCT := Lib.hid (cutE_ok HE0.out)
            have hco : o.length ≤ 40 ∧ o.length % 4 = 0 := by rw [ho]; exact HCT.out.2.2
            obtain ⟨L, hL⟩ : ∃ L, L = rst4 mtu o q.mf q := ⟨_, rfl⟩
            have HL0 := Lib.hid hL
            have HLC : Hid (cutL q mtu = L) := Lib.hid (by rw [cutL, if_pos HE0.out, hL, ho])
            have hd0 : 0 < q.dat.length := by
              have h1 := room_bd HCT.out.1
              have h2 := room_lt HCT.out.1 HS0.out
              omega
            have hcapD := (arg_own ownDX).cap
            clear ho hL
            go_loopw [7, 8, 10, 11] (fun t7 t8 t10 t11 wr => ∃ (vv : Value) (f : Int) (Oc Dc : List UInt8) (Ao : Option Addr) (co : Nat) (Ad : Option Addr) (cd k : Nat) (pre : List X4) (fst : Bool), vv = t7 ∧ t8 = .slice Ad Dc.length cd ∧ t10 = .slice Ao Oc.length co ∧ t11 = .bool fst ∧
                Below w.heap.size w wr ∧ wr.heap[g]? = some (.cells (v4a { q with off := f } P2 p2 P5 p5) 24 (0, 0)) ∧ wr.ownsRow (g + 1) 24 11 vv pre.length (pre.flatMap cl4) ∧ (∀ x ∈ pre, Own4 wr (g + 1) x) ∧
                wr.ownsRow (g + 1) 5 1 (.slice Ao Oc.length co) Oc.length (row Oc) ∧ wr.ownsRow (g + 1) 5 1 (.slice P2 q.opt.length p2) q.opt.length (row q.opt) ∧ wr.ownsRow (g + 1) 5 1 (.slice P5 q.dat.length p5) q.dat.length (row q.dat) ∧
                k + Dc.length = q.dat.length ∧ Hid (Dc = q.dat.drop k) ∧ Hid (cd + k = p5) ∧ Dc.length ≤ cd ∧ (0 < Dc.length → ∃ g', P5 = some ⟨g', 0, none⟩ ∧ Ad = some ⟨g', k, none⟩) ∧
                ((Hid (L = pre.map (·.q) ++ rst4 mtu o q.mf { q with off := f, opt := Oc, dat := Dc }) ∧ Hid (Cuttable mtu { q with off := f, opt := Oc, dat := Dc }) ∧ 0 < Dc.length) ∨ (Hid (L = pre.map (·.q)) ∧ Dc.length = 0 ∧ fst = false)))
              (fun _ t8 _ _ _ => lenV t8)
            case atStart =>
              refine ⟨_, q.off, q.opt, q.dat, P2, p2, P5, p5, 0, [], true, rfl, rfl, rfl, rfl, hBX, hrowX, World.ownsRow_nil _ _ _ _, (fun x hx => by cases hx), ownOX, ownOX, ownDX, by omega, Lib.hid rfl, Lib.hid rfl, hcapD, fun h0 => ?_, .inl ⟨HL0, Lib.hid HCT.out.1, hd0⟩⟩
              rcases ownDX.2 with ⟨e, h1⟩ | ⟨g', cap, cur, e, _⟩
              · omega
              · injection e with e; exact ⟨g', e, e⟩
            case round =>
              obtain ⟨vv, f, Oc, Dc, Ao, co, Ad, cd, k, pre, fst, rfl, rfl, rfl, rfl, hbel, hrowp, hor, hax, hoc, ownO, ownD, hk, HDc, Hcd, hDcap, hAdp, hrun⟩ := hrel
              have hgw := heap_lt hrowp
              rcases hrun with ⟨HLL, HCC, hN0⟩ | ⟨HLF, hN0, rfl⟩
              · have hAtp := at4_of hrowp
                have hod : Oc.length ≤ 40 := HCC.out.opt.1
                obtain ⟨H, hH⟩ : ∃ H, H = head4 { q with off := f, opt := Oc } := ⟨_, rfl⟩
                have HH := Lib.hid hH.symm
                have hHb : 20 ≤ H ∧ H ≤ 60 := by have e : head4 { q with off := f, opt := Oc } = 20 + (Oc.length : Int) := rfl; omega
                have hArgD : Arg wr wr.heap.size Ad cd Dc := by
                  obtain ⟨g', e1, e2⟩ := hAdp hN0
                  have hD := (arg_own ownD).cut_lo k
                  have hcd := Hcd.out
                  rw [← HDc.out, e1, cutA, if_neg (by omega), show p5 - k = cd from by omega] at hD
                  rw [e2]; simpa [add_off] using hD
                have hpl : pre.length < 65537 := by
                  have h1 := rst4_len mtu o q.mf q
                  have h2 := congrArg List.length HLL.out
                  rw [List.length_append, List.length_map, HL0.out] at h2
                  have : q.dat.length ≤ 65535 := by obtain ⟨_, _, b3, _⟩ := HCT.out.1.off; have := HCT.out.1.off.1; omega
                  omega
                have hNb : Dc.length ≤ 65535 := by obtain ⟨b1, _, b3, _⟩ := HCC.out.off; have b4 : f + (Dc.length : Int) ≤ 65535 := b3; have b5 : 0 ≤ f := b1; omega
                have dN : decide (0 < Dc.length) = true := by simpa using hN0
                have hAdk := hAdp
                clear hH
                cases fst with
                | true =>
                  go_upto_region 17 with (first
                    | ((with_reducible show wpList _ _ _ (Oper.mk _ (Op.load 24 _) _ _ _ _ :: _) _ _); refine wpList_val rfl (run_load_v4 rfl rfl hAtp rfl) ?_)
                    | ((with_reducible show wpList _ _ _ (Oper.mk _ (Op.store 24 _ _) _ _ _ _ :: _) _ _); refine v4_store_new (cs := v4a { q with off := f } P2 p2 P5 p5) rfl rfl rfl rfl (v4a_one _ _ _ _ _) ?_))
                  have row16 : (wr.alloc (.cells (v4a { q with off := f } P2 p2 P5 p5) 24)).heap[wr.heap.size]? = some (.cells (v4a { q with off := f } P2 p2 P5 p5) 24 (0, 0)) := World.alloc_heap_new wr _
                  have hZ16 : Below wr.heap.size wr (wr.alloc (.cells (v4a { q with off := f } P2 p2 P5 p5) 24)) := (Below.refl _ wr).alloc (Nat.le_refl _) _
                  obtain ⟨b, hb⟩ : ∃ b, b = wr.heap.size := ⟨_, rfl⟩
                  rw [← hb] at row16 ⊢
                  have hbw : wr.heap.size ≤ b := by rw [hb]; exact Nat.le_refl _
                  have hgb : g < b := by rw [hb]; exact hgw
                  generalize wr.alloc (.cells (v4a { q with off := f } P2 p2 P5 p5) 24) = Z16 at *
                  clear hb
                  have hbz16 := heap_lt row16
                  have hAO16 := arg_own (own_below hoc hZ16)
                  go_upto_region 18 with (at_builtin; refine append_rd rfl _ _ rfl Z16.heap.size (.slice none 0 0) 0 [] rfl (World.ownsRow_nil _ _ _ _) Z16.heap.size Ao co Oc rfl hAO16.none_ hAO16.rd (by omega) (Nat.le_refl _) ?_; intro v17 w17 own17 grow17; obtain ⟨P17, p17, rfl, o17⟩ := own_made (bs := Oc) own17 (Nat.zero_add _) (List.nil_append _); have y17 := (Below.refl Z16.heap.size Z16).grown grow17 (Nat.le_refl _) (fun k hk => by cases hk); have row17 := (y17.block b hbz16).trans row16; have k9 := (at4_of row17).opt; have f9 := heap_frozen row17 9)
                  have row18 : (w17.setCell ⟨b, 9, none⟩ (.slice P17 Oc.length p17)).heap[b]? = some (.cells (v4a { q with off := f, opt := Oc } P17 p17 P5 p5) 24 (0, 0)) := heap_setCell_same w17 b 9 _ _ (.slice P17 Oc.length p17) row17
                  have o18 := own_base (base := g + 1) (own_setCellB (i := 9) (u := .slice P17 Oc.length p17) o17 row17 hTu) (by have := hZ16.size; omega)
                  have hZ18 := (hZ16.trans (y17.mono hZ16.size)).setCell (p := ⟨b, 9, none⟩) hbw (.slice P17 Oc.length p17)
                  have hbz18 := heap_lt row18
                  clear row16 row17 o17 own17 grow17 y17 k9 f9 hAO16 hZ16
                  generalize w17.setCell ⟨b, 9, none⟩ (.slice P17 Oc.length p17) = V18 at *
                  by_cases hs : size4 { q with off := f, opt := Oc, dat := Dc } > mtu
                  · have HSS := Lib.hid hs
                    have hrb := room_bd HCC.out
                    have hrl := room_lt HCC.out hs
                    have hsz : size4 { q with off := f, opt := Oc, dat := Dc } = H + (Dc.length : Int) := by rw [← HH.out]; rfl
                    obtain ⟨DZ, hDZ⟩ : ∃ DZ, DZ = Dc.take (room mtu { q with off := f, opt := Oc, dat := Dc }).toNat := ⟨_, rfl⟩
                    have hrl' : room mtu { q with off := f, opt := Oc, dat := Dc } < (Dc.length : Int) := hrl
                    have hzz : (DZ.length : Int) = room mtu { q with off := f, opt := Oc, dat := Dc } := by rw [hDZ, List.length_take]; omega
                    obtain ⟨D0, hD0⟩ : ∃ D0, D0 = mtu - H := ⟨_, rfl⟩
                    have hrz : (DZ.length : Int) = D0 - D0 % 8 := by
                      rw [hzz, hD0, ← HH.out]; rfl
                    have hD0b : 8 ≤ D0 ∧ D0 ≤ 65535 := by omega
                    have e7 : wrap64 (mtu - H) = D0 := by rw [hD0]; unfold wrap64; omega
                    have e7' : mtu - H = D0 := hD0.symm
                    have e8 : D0.tdiv 8 = D0 / 8 := Int.tdiv_eq_ediv_of_nonneg (by omega)
                    have e9 : D0 / 8 * 8 = (DZ.length : Int) := by omega
                    have e10 : wrap64 (D0 / 8 * 8) = (DZ.length : Int) := by rw [e9]; unfold wrap64; omega
                    have hzN : DZ.length < Dc.length := by omega
                    have hz8 : 8 ≤ DZ.length := by omega
                    have HP1 : Hid (part1 mtu { q with off := f, opt := Oc, dat := Dc } = { q with off := f, opt := Oc, mf := true, dat := DZ }) := Lib.hid (by rw [hDZ]; rfl)
                    obtain ⟨DR, hDR⟩ : ∃ DR, DR = Dc.drop DZ.length := ⟨_, rfl⟩
                    have HDR := Lib.hid hDR
                    have HDRl : Hid (DR.length = Dc.length - DZ.length) := Lib.hid (by rw [hDR, List.length_drop])
                    obtain ⟨O1, hO1⟩ : ∃ O1, O1 = f + (DZ.length : Int) := ⟨_, rfl⟩
                    have hfb : 0 ≤ f ∧ f + (Dc.length : Int) ≤ 65535 := by obtain ⟨b1, _, b3, _⟩ := HCC.out.off; exact ⟨b1, b3⟩
                    have e11 : wrap64 (f + (DZ.length : Int)) = O1 := by rw [hO1]; unfold wrap64; omega
                    have e12 : f + (DZ.length : Int) = O1 := hO1.symm
                    have HR1 : Hid (rest1 mtu o { q with off := f, opt := Oc, dat := Dc } = { q with off := O1, opt := o, dat := DR }) := Lib.hid (by
                      have hz2 : (room mtu { q with off := f, opt := Oc, dat := Dc }).toNat = DZ.length := by omega
                      rw [hDR, hO1, rest1, hz2, ← hzz])
                    have HRS := Lib.hid (rst4_more (o := o) (mf := q.mf) HCC.out hco hs)
                    have HDZ2 : Hid (DZ = Dc.take DZ.length) := Lib.hid (by
                      have hz2 : (room mtu { q with off := f, opt := Oc, dat := Dc }).toNat = DZ.length := by omega
                      conv => lhs; rw [hDZ, hz2])
                    have hAD : Arg wr wr.heap.size Ad cd DZ := by have := hArgD.cut_hi DZ.length (by omega); rwa [← HDZ2.out] at this
                    have hsm : mtu < H + (Dc.length : Int) := by rw [← hsz]; exact hs
                    clear hs hrb hrl hrl' hDZ hD0 hDR hO1 hzz hrz hsz
                    have n1 : decide (H + (Dc.length : Int) > mtu) = true := by simp; omega
                    have n2 : decide (mtu < H + (Dc.length : Int)) = true := by simp; omega
                    go_upto_region 21 with (first
                      | ((with_reducible show wpList _ _ _ (Oper.mk _ (Op.load 24 _) _ _ _ _ :: _) _ _); refine wpList_val rfl (run_load_v4 rfl rfl hat19 rfl) ?_)
                      | ((with_reducible show wpList _ _ _ (Oper.mk _ (Op.load 24 _) _ _ _ _ :: _) _ _); refine wpList_val rfl (run_load_v4 rfl rfl (at4_of row18) rfl) ?_)
                      | (go_at_call 32; refine (r5head { q with off := f, opt := Oc } P17 p17 P5 p5 V19 (by show Oc.length ≤ 1000000; omega)).mono ?_; rintro e V20 ⟨rfl, x20⟩; rw [HH.out])
                      | (go_at_call 32; refine (r5head { q with off := f, opt := Oc } P17 p17 P5 p5 V18 (by show Oc.length ≤ 1000000; omega)).mono ?_; rintro e V19 ⟨rfl, x19⟩; rw [HH.out]; have hat19 := (at4_of row18).below x19 hbz18))
                    have row20 := (x20.block b (Nat.lt_of_lt_of_le hbz18 x19.size)).trans ((x19.block b hbz18).trans row18)
                    have o20 := own_below (own_below o18 x19) x20
                    have hZ20 := (hZ18.trans (x19.mono hZ18.size)).trans (x20.mono (by have := hZ18.size; have := x19.size; omega))
                    clear row18 o18 hZ18 x19 x20
                    have hne : ¬ cd = DZ.length := by omega
                    have hnl : ¬ cd < DZ.length := by omega
                    have hlt1 : decide (DZ.length < Dc.length) = true := by simp; omega
                    have hlt2 : decide ((DZ.length : Int) < (Dc.length : Int)) = true := by simp; omega
                    have k8 := (at4_of row20).mf
                    have f8 := heap_frozen row20 8
                    cases M with
                    | true =>
                      go_upto_region 22 with fail
                      have row21 : (V20.setCell ⟨b, 8, none⟩ (.bool true)).heap[b]? = some (.cells (v4a { q with off := f, opt := Oc, mf := true } P17 p17 P5 p5) 24 (0, 0)) := heap_setCell_same V20 b 8 _ _ (.bool true) row20
                      have o21 := own_setCellB (i := 8) (u := .bool true) o20 row20 hTu
                      have hZ21 := hZ20.setCell (p := ⟨b, 8, none⟩) hbw (.bool true)
                      have hbz21 := heap_lt row21
                      clear row20 o20 hZ20 k8 f8
                      generalize V20.setCell ⟨b, 8, none⟩ (.bool true) = V21 at *
                      have hAD21 := (hAD.below hZ21).more hZ21.size
                      go_upto_region 23 with (at_builtin; refine append_rd rfl _ _ rfl V21.heap.size (.slice none 0 0) 0 [] rfl (World.ownsRow_nil _ _ _ _) V21.heap.size Ad cd DZ rfl hAD21.none_ hAD21.rd (by omega) (Nat.le_refl _) ?_; intro v22 w22 own22 grow22; obtain ⟨P22, p22, rfl, o22⟩ := own_made (bs := DZ) own22 (Nat.zero_add _) (List.nil_append _); have y22 := (Below.refl V21.heap.size V21).grown grow22 (Nat.le_refl _) (fun k hk => by cases hk); have row22 := (y22.block b hbz21).trans row21; have k10 := (at4_of row22).dat; have f10 := heap_frozen row22 10)
                      have row23 : (w22.setCell ⟨b, 10, none⟩ (.slice P22 DZ.length p22)).heap[b]? = some (.cells (v4a { q with off := f, opt := Oc, mf := true, dat := DZ } P17 p17 P22 p22) 24 (0, 0)) := heap_setCell_same w22 b 10 _ _ (.slice P22 DZ.length p22) row22
                      have hx23 : Own4 (w22.setCell ⟨b, 10, none⟩ (.slice P22 DZ.length p22)) (g + 1) ⟨{ q with off := f, opt := Oc, mf := true, dat := DZ }, P17, p17, P22, p22⟩ := ⟨own_setCellB (own_below o21 y22) row22 hTu, own_setCellB (own_base o22 (by have := hZ21.size; omega)) row22 hTu⟩
                      have hZ23 := (hZ21.trans (y22.mono hZ21.size)).setCell (p := ⟨b, 10, none⟩) hbw (.slice P22 DZ.length p22)
                      clear row22 row21 o21 o22 own22 grow22 y22 hZ21 k10 f10 hAD21
                      generalize w22.setCell ⟨b, 10, none⟩ (.slice P22 DZ.length p22) = V23 at *
                      have hat23 := at4_of row23
                      have hor23 := own_below hor hZ23
                      have hax23 : ∀ x ∈ pre, Own4 V23 (g + 1) x := fun x hx => (hax x hx).below hZ23
                      have hO23 := own_below ownO hZ23
                      have hD23 := own_below ownD hZ23
                      have hrp23 := (hZ23.block g hgw).trans hrowp
                      have hgz := hZ23.size
                      obtain ⟨i0, hi, hz0, hz1, hz2'⟩ := info_parts info_v4
                      go_upto_region 24 with (first
                        | ((with_reducible show wpList _ _ _ (Oper.mk _ (Op.load 24 _) _ _ _ _ :: _) _ _); refine wpList_val rfl (run_load_v4 rfl rfl hat23 rfl) ?_)
                        | ((with_reducible show wpList _ _ _ (Oper.mk _ (Op.buildSlice _ _ _) _ _ _ _ :: _) _ _); refine wpList_growU rfl (run_bs4 (cs := v4a { q with off := f, opt := Oc, mf := true, dat := DZ } P17 p17 P22 p22) rfl rfl rfl) ?_)
                        | (at_builtin; refine wpList_append_own _ rfl _ _ 26 rfl (g + 1) 24 i0 (v4v p4z none 0 none 0) 11 112 Try.underlying26 hi hz0 hz1 hz2' rfl (by decide) _ pre.length (pre.flatMap cl4) rfl (hor23.alloc _) ⟨V23.heap.size, 0, none⟩ 1 1 (cl4 ⟨{ q with off := f, opt := Oc, mf := true, dat := DZ }, P17, p17, P22, p22⟩) rfl rfl (cells_new4 V23 _) (cl4_one _) (by unfold maxLen; omega) (by omega) (by simp; omega) ?_; intro v24 w24 hown24 hgrow24 hnil24))
                      have hTn : 24 ≠ 5 := hTu
                      have y23 : Below V23.heap.size V23 (V23.alloc (.cells (v4a { q with off := f, opt := Oc, mf := true, dat := DZ } P17 p17 P22 p22) 24)) := (Below.refl _ _).alloc (Nat.le_refl _) _
                      have hO24 := own_keepT (own_below hO23 y23) (hor23.alloc _) hgrow24 hTn
                      have hD24 := own_keepT (own_below hD23 y23) (hor23.alloc _) hgrow24 hTn
                      have hax24 : ∀ x ∈ pre ++ [⟨{ q with off := f, opt := Oc, mf := true, dat := DZ }, P17, p17, P22, p22⟩], Own4 w24 (g + 1) x := fun x hx => by
                        rcases List.mem_append.1 hx with hx | hx
                        · exact ⟨own_keepT (own_below (hax23 x hx).1 y23) (hor23.alloc _) hgrow24 hTn, own_keepT (own_below (hax23 x hx).2 y23) (hor23.alloc _) hgrow24 hTn⟩
                        · rw [List.mem_singleton.1 hx]; exact ⟨own_keepT (own_below hx23.1 y23) (hor23.alloc _) hgrow24 hTn, own_keepT (own_below hx23.2 y23) (hor23.alloc _) hgrow24 hTn⟩
                      have hrp24 : w24.heap[g]? = some (.cells (v4a { q with off := f } P2 p2 P5 p5) 24 (0, 0)) := (hgrow24.block g (by simp; omega) (fun e => by have := own_block_ge hor g e.symm; omega)).trans ((y23.block g (by omega)).trans hrp23)
                      have hB24 : Below w.heap.size w w24 := ((hbel.trans (hZ23.mono hbel.size)).trans (y23.mono (by have := hbel.size; omega))).grown hgrow24 (by have := hbel.size; simp; omega) (fun k hk => by have := own_block_ge hor k hk; have := HG.out; omega)
                      have hrow24 : w24.ownsRow (g + 1) 24 11 v24 (pre.length + 1) ((pre ++ [(⟨{ q with off := f, opt := Oc, mf := true, dat := DZ }, P17, p17, P22, p22⟩ : X4)]).flatMap cl4) := by
                        rw [List.flatMap_append, List.flatMap_cons, List.flatMap_nil, List.append_nil]; exact hown24
                      clear hown24 hgrow24 hnil24 y23 hor23 hax23 hO23 hD23 hrp23 hx23 row23 hat23
                      obtain ⟨A24, c24, rfl⟩ := own_slice hrow24
                      have k2 := (at4_of hrp24).off
                      have f2 := heap_frozen hrp24 2
                      go_upto_region 26 with fail
                      have row26 : (w24.setCell ⟨g, 2, none⟩ (.int .i64 O1)).heap[g]? = some (.cells (v4a { q with off := O1 } P2 p2 P5 p5) 24 (0, 0)) := heap_setCell_same w24 g 2 _ _ (.int .i64 O1) hrp24
                      have hO26 := own_setCellB (i := 2) (u := .int .i64 O1) hO24 hrp24 hTu
                      have hD26 := own_setCellB (i := 2) (u := .int .i64 O1) hD24 hrp24 hTu
                      have hB26 := hB24.setCell (p := ⟨g, 2, none⟩) (by have := HG.out; show w.heap.size ≤ g; omega) (.int .i64 O1)
                      have hax26 : ∀ x ∈ pre ++ [⟨{ q with off := f, opt := Oc, mf := true, dat := DZ }, P17, p17, P22, p22⟩], Own4 (w24.setCell ⟨g, 2, none⟩ (.int .i64 O1)) (g + 1) x := fun x hx => ⟨own_setCellB (hax24 x hx).1 hrp24 hTu, own_setCellB (hax24 x hx).2 hrp24 hTu⟩
                      have hor26 := own_setCell hrow24 (p := ⟨g, 2, none⟩) (u := .int .i64 O1) (Nat.lt_succ_self g)
                      clear hrow24 hax24 hO24 hD24 hrp24 k2 f2
                      generalize w24.setCell ⟨g, 2, none⟩ (.int .i64 O1) = V26 at *
                      have kp9 := (at4_of row26).opt
                      have hcp := r13copied P2 q.opt p2 V26.heap.size V26 (arg_own hO26) (Nat.le_refl _) hol
                      rw [← HOO.out] at hcp
                      go_wp2_with (go_at_call 14; refine hcp.mono ?_; rintro e w27 ⟨v27, rfl, m27⟩; obtain ⟨P27, p27, rfl, g27, o27, x27⟩ := made_shape m27)
                      have hz26 := hB26.size
                      refine ⟨?rel, ?measure⟩
                      case rel =>
                        refine ⟨_, O1, o, DR, P27, p27, Ad.map (fun x => x.add DZ.length), cd - DZ.length, k + DZ.length, pre ++ [⟨{ q with off := f, opt := Oc, mf := true, dat := DZ }, P17, p17, P22, p22⟩], false, rfl, ?dsl, rfl, rfl, hB26.trans (x27.mono hz26), (x27.block g (heap_lt row26)).trans row26, (by rw [List.length_append]; exact own_below hor26 x27), (fun x hx => (hax26 x hx).below x27), own_base o27 (by have := heap_lt row26; omega), own_below hO26 x27, own_below hD26 x27, ?_, ?_, ?_, ?_, ?_, ?_⟩
                        case dsl => rw [HDRl.out]
                        · have := HDRl.out; omega
                        · exact Lib.hid (by rw [HDR.out, HDc.out, List.drop_drop])
                        · exact Lib.hid (by have := Hcd.out; omega)
                        · have := HDRl.out; omega
                        · intro h0
                          obtain ⟨g', e1, e2⟩ := hAdp hN0
                          exact ⟨g', e1, by rw [e2]; simp [add_off]⟩
                        · refine .inl ⟨Lib.hid ?_, Lib.hid ?_, by have := HDRl.out; omega⟩
                          · rw [HLL.out, HRS.out, HP1.out, HR1.out, List.map_append, List.append_assoc]; rfl
                          · rw [← HR1.out]; exact HCC.out.rest HSS.out hco
                      case measure => show Dc.length - DZ.length < Dc.length; omega
                    | false =>
                      go_upto_region 22 with fail
                      have row21 : (V20.setCell ⟨b, 8, none⟩ (.bool true)).heap[b]? = some (.cells (v4a { q with off := f, opt := Oc, mf := true } P17 p17 P5 p5) 24 (0, 0)) := heap_setCell_same V20 b 8 _ _ (.bool true) row20
                      have o21 := own_setCellB (i := 8) (u := .bool true) o20 row20 hTu
                      have hZ21 := hZ20.setCell (p := ⟨b, 8, none⟩) hbw (.bool true)
                      have hbz21 := heap_lt row21
                      clear row20 o20 hZ20 k8 f8
                      generalize V20.setCell ⟨b, 8, none⟩ (.bool true) = V21 at *
                      have hAD21 := (hAD.below hZ21).more hZ21.size
                      go_upto_region 23 with (at_builtin; refine append_rd rfl _ _ rfl V21.heap.size (.slice none 0 0) 0 [] rfl (World.ownsRow_nil _ _ _ _) V21.heap.size Ad cd DZ rfl hAD21.none_ hAD21.rd (by omega) (Nat.le_refl _) ?_; intro v22 w22 own22 grow22; obtain ⟨P22, p22, rfl, o22⟩ := own_made (bs := DZ) own22 (Nat.zero_add _) (List.nil_append _); have y22 := (Below.refl V21.heap.size V21).grown grow22 (Nat.le_refl _) (fun k hk => by cases hk); have row22 := (y22.block b hbz21).trans row21; have k10 := (at4_of row22).dat; have f10 := heap_frozen row22 10)
                      have row23 : (w22.setCell ⟨b, 10, none⟩ (.slice P22 DZ.length p22)).heap[b]? = some (.cells (v4a { q with off := f, opt := Oc, mf := true, dat := DZ } P17 p17 P22 p22) 24 (0, 0)) := heap_setCell_same w22 b 10 _ _ (.slice P22 DZ.length p22) row22
                      have hx23 : Own4 (w22.setCell ⟨b, 10, none⟩ (.slice P22 DZ.length p22)) (g + 1) ⟨{ q with off := f, opt := Oc, mf := true, dat := DZ }, P17, p17, P22, p22⟩ := ⟨own_setCellB (own_below o21 y22) row22 hTu, own_setCellB (own_base o22 (by have := hZ21.size; omega)) row22 hTu⟩
                      have hZ23 := (hZ21.trans (y22.mono hZ21.size)).setCell (p := ⟨b, 10, none⟩) hbw (.slice P22 DZ.length p22)
                      clear row22 row21 o21 o22 own22 grow22 y22 hZ21 k10 f10 hAD21
                      generalize w22.setCell ⟨b, 10, none⟩ (.slice P22 DZ.length p22) = V23 at *
                      have hat23 := at4_of row23
                      have hor23 := own_below hor hZ23
                      have hax23 : ∀ x ∈ pre, Own4 V23 (g + 1) x := fun x hx => (hax x hx).below hZ23
                      have hO23 := own_below ownO hZ23
                      have hD23 := own_below ownD hZ23
                      have hrp23 := (hZ23.block g hgw).trans hrowp
                      have hgz := hZ23.size
                      obtain ⟨i0, hi, hz0, hz1, hz2'⟩ := info_parts info_v4
                      go_upto_region 24 with (first
                        | ((with_reducible show wpList _ _ _ (Oper.mk _ (Op.load 24 _) _ _ _ _ :: _) _ _); refine wpList_val rfl (run_load_v4 rfl rfl hat23 rfl) ?_)
                        | ((with_reducible show wpList _ _ _ (Oper.mk _ (Op.buildSlice _ _ _) _ _ _ _ :: _) _ _); refine wpList_growU rfl (run_bs4 (cs := v4a { q with off := f, opt := Oc, mf := true, dat := DZ } P17 p17 P22 p22) rfl rfl rfl) ?_)
                        | (at_builtin; refine wpList_append_own _ rfl _ _ 26 rfl (g + 1) 24 i0 (v4v p4z none 0 none 0) 11 112 Try.underlying26 hi hz0 hz1 hz2' rfl (by decide) _ pre.length (pre.flatMap cl4) rfl (hor23.alloc _) ⟨V23.heap.size, 0, none⟩ 1 1 (cl4 ⟨{ q with off := f, opt := Oc, mf := true, dat := DZ }, P17, p17, P22, p22⟩) rfl rfl (cells_new4 V23 _) (cl4_one _) (by unfold maxLen; omega) (by omega) (by simp; omega) ?_; intro v24 w24 hown24 hgrow24 hnil24))
                      have hTn : 24 ≠ 5 := hTu
                      have y23 : Below V23.heap.size V23 (V23.alloc (.cells (v4a { q with off := f, opt := Oc, mf := true, dat := DZ } P17 p17 P22 p22) 24)) := (Below.refl _ _).alloc (Nat.le_refl _) _
                      have hO24 := own_keepT (own_below hO23 y23) (hor23.alloc _) hgrow24 hTn
                      have hD24 := own_keepT (own_below hD23 y23) (hor23.alloc _) hgrow24 hTn
                      have hax24 : ∀ x ∈ pre ++ [⟨{ q with off := f, opt := Oc, mf := true, dat := DZ }, P17, p17, P22, p22⟩], Own4 w24 (g + 1) x := fun x hx => by
                        rcases List.mem_append.1 hx with hx | hx
                        · exact ⟨own_keepT (own_below (hax23 x hx).1 y23) (hor23.alloc _) hgrow24 hTn, own_keepT (own_below (hax23 x hx).2 y23) (hor23.alloc _) hgrow24 hTn⟩
                        · rw [List.mem_singleton.1 hx]; exact ⟨own_keepT (own_below hx23.1 y23) (hor23.alloc _) hgrow24 hTn, own_keepT (own_below hx23.2 y23) (hor23.alloc _) hgrow24 hTn⟩
                      have hrp24 : w24.heap[g]? = some (.cells (v4a { q with off := f } P2 p2 P5 p5) 24 (0, 0)) := (hgrow24.block g (by simp; omega) (fun e => by have := own_block_ge hor g e.symm; omega)).trans ((y23.block g (by omega)).trans hrp23)
                      have hB24 : Below w.heap.size w w24 := ((hbel.trans (hZ23.mono hbel.size)).trans (y23.mono (by have := hbel.size; omega))).grown hgrow24 (by have := hbel.size; simp; omega) (fun k hk => by have := own_block_ge hor k hk; have := HG.out; omega)
                      have hrow24 : w24.ownsRow (g + 1) 24 11 v24 (pre.length + 1) ((pre ++ [(⟨{ q with off := f, opt := Oc, mf := true, dat := DZ }, P17, p17, P22, p22⟩ : X4)]).flatMap cl4) := by
                        rw [List.flatMap_append, List.flatMap_cons, List.flatMap_nil, List.append_nil]; exact hown24
                      clear hown24 hgrow24 hnil24 y23 hor23 hax23 hO23 hD23 hrp23 hx23 row23 hat23
                      obtain ⟨A24, c24, rfl⟩ := own_slice hrow24
                      have k2 := (at4_of hrp24).off
                      have f2 := heap_frozen hrp24 2
                      go_upto_region 26 with fail
                      have row26 : (w24.setCell ⟨g, 2, none⟩ (.int .i64 O1)).heap[g]? = some (.cells (v4a { q with off := O1 } P2 p2 P5 p5) 24 (0, 0)) := heap_setCell_same w24 g 2 _ _ (.int .i64 O1) hrp24
                      have hO26 := own_setCellB (i := 2) (u := .int .i64 O1) hO24 hrp24 hTu
                      have hD26 := own_setCellB (i := 2) (u := .int .i64 O1) hD24 hrp24 hTu
                      have hB26 := hB24.setCell (p := ⟨g, 2, none⟩) (by have := HG.out; show w.heap.size ≤ g; omega) (.int .i64 O1)
                      have hax26 : ∀ x ∈ pre ++ [⟨{ q with off := f, opt := Oc, mf := true, dat := DZ }, P17, p17, P22, p22⟩], Own4 (w24.setCell ⟨g, 2, none⟩ (.int .i64 O1)) (g + 1) x := fun x hx => ⟨own_setCellB (hax24 x hx).1 hrp24 hTu, own_setCellB (hax24 x hx).2 hrp24 hTu⟩
                      have hor26 := own_setCell hrow24 (p := ⟨g, 2, none⟩) (u := .int .i64 O1) (Nat.lt_succ_self g)
                      clear hrow24 hax24 hO24 hD24 hrp24 k2 f2
                      generalize w24.setCell ⟨g, 2, none⟩ (.int .i64 O1) = V26 at *
                      have kp9 := (at4_of row26).opt
                      have hcp := r13copied P2 q.opt p2 V26.heap.size V26 (arg_own hO26) (Nat.le_refl _) hol
                      rw [← HOO.out] at hcp
                      go_wp2_with (go_at_call 14; refine hcp.mono ?_; rintro e w27 ⟨v27, rfl, m27⟩; obtain ⟨P27, p27, rfl, g27, o27, x27⟩ := made_shape m27)
                      have hz26 := hB26.size
                      refine ⟨?rel, ?measure⟩
                      case rel =>
                        refine ⟨_, O1, o, DR, P27, p27, Ad.map (fun x => x.add DZ.length), cd - DZ.length, k + DZ.length, pre ++ [⟨{ q with off := f, opt := Oc, mf := true, dat := DZ }, P17, p17, P22, p22⟩], false, rfl, ?dsl, rfl, rfl, hB26.trans (x27.mono hz26), (x27.block g (heap_lt row26)).trans row26, (by rw [List.length_append]; exact own_below hor26 x27), (fun x hx => (hax26 x hx).below x27), own_base o27 (by have := heap_lt row26; omega), own_below hO26 x27, own_below hD26 x27, ?_, ?_, ?_, ?_, ?_, ?_⟩
                        case dsl => rw [HDRl.out]
                        · have := HDRl.out; omega
                        · exact Lib.hid (by rw [HDR.out, HDc.out, List.drop_drop])
                        · exact Lib.hid (by have := Hcd.out; omega)
                        · have := HDRl.out; omega
                        · intro h0
                          obtain ⟨g', e1, e2⟩ := hAdp hN0
                          exact ⟨g', e1, by rw [e2]; simp [add_off]⟩
                        · refine .inl ⟨Lib.hid ?_, Lib.hid ?_, by have := HDRl.out; omega⟩
                          · rw [HLL.out, HRS.out, HP1.out, HR1.out, List.map_append, List.append_assoc]; rfl
                          · rw [← HR1.out]; exact HCC.out.rest HSS.out hco
                      case measure => show Dc.length - DZ.length < Dc.length; omega
                  · have HSS := Lib.hid hs
                    have hsz : size4 { q with off := f, opt := Oc, dat := Dc } = H + (Dc.length : Int) := by rw [← HH.out]; rfl
                    obtain ⟨DR, hDR⟩ : ∃ DR, DR = Dc.drop Dc.length := ⟨_, rfl⟩
                    have HDR := Lib.hid hDR
                    have HDRl : Hid (DR.length = Dc.length - Dc.length) := Lib.hid (by rw [hDR, List.length_drop])
                    obtain ⟨O1, hO1⟩ : ∃ O1, O1 = f + (Dc.length : Int) := ⟨_, rfl⟩
                    have hfb : 0 ≤ f ∧ f + (Dc.length : Int) ≤ 65535 := by obtain ⟨b1, _, b3, _⟩ := HCC.out.off; exact ⟨b1, b3⟩
                    have e11 : wrap64 (f + (Dc.length : Int)) = O1 := by rw [hO1]; unfold wrap64; omega
                    have e12 : f + (Dc.length : Int) = O1 := hO1.symm
                    have HRS := Lib.hid (show rst4 mtu o q.mf { q with off := f, opt := Oc, dat := Dc } = [{ q with off := f, opt := Oc, dat := Dc }] from rst4_last hs)
                    have hAD := hArgD
                    have hnl : ¬ cd < Dc.length := by omega
                    have hlt1 : decide (Dc.length < Dc.length) = false := by simp
                    have hlt2 : decide ((Dc.length : Int) < (Dc.length : Int)) = false := by simp
                    clear hDR hO1
                    have hsm : H + (Dc.length : Int) ≤ mtu := by omega
                    clear hs hsz
                    have n1 : decide (H + (Dc.length : Int) > mtu) = false := by simp; omega
                    have n2 : decide (mtu < H + (Dc.length : Int)) = false := by simp; omega
                    go_upto_region 21 with (first
                      | ((with_reducible show wpList _ _ _ (Oper.mk _ (Op.load 24 _) _ _ _ _ :: _) _ _); refine wpList_val rfl (run_load_v4 rfl rfl (at4_of row18) rfl) ?_)
                      | (go_at_call 32; refine (r5head { q with off := f, opt := Oc } P17 p17 P5 p5 V18 (by show Oc.length ≤ 1000000; omega)).mono ?_; rintro e V20 ⟨rfl, x19⟩; rw [HH.out]))
                    have row20 := (x19.block b hbz18).trans row18
                    have o20 := own_below o18 x19
                    have hZ20 := hZ18.trans (x19.mono hZ18.size)
                    clear row18 o18 hZ18 x19
                    have k8 := (at4_of row20).mf
                    have f8 := heap_frozen row20 8
                    cases M with
                    | true =>
                      go_upto_region 22 with fail
                      have HX : Hid (({ q with off := f, opt := Oc, dat := Dc } : P4) = { q with off := f, opt := Oc, mf := true, dat := Dc }) := Lib.hid (by have e := HMM.out; rw [e])
                      have row21 : (V20.setCell ⟨b, 8, none⟩ (.bool true)).heap[b]? = some (.cells (v4a { q with off := f, opt := Oc, mf := true } P17 p17 P5 p5) 24 (0, 0)) := heap_setCell_same V20 b 8 _ _ (.bool true) row20
                      have o21 := own_setCellB (i := 8) (u := .bool true) o20 row20 hTu
                      have hZ21 := hZ20.setCell (p := ⟨b, 8, none⟩) hbw (.bool true)
                      have hbz21 := heap_lt row21
                      clear row20 o20 hZ20 k8 f8
                      generalize V20.setCell ⟨b, 8, none⟩ (.bool true) = V21 at *
                      have hAD21 := (hAD.below hZ21).more hZ21.size
                      go_upto_region 23 with (at_builtin; refine append_rd rfl _ _ rfl V21.heap.size (.slice none 0 0) 0 [] rfl (World.ownsRow_nil _ _ _ _) V21.heap.size Ad cd Dc rfl hAD21.none_ hAD21.rd (by omega) (Nat.le_refl _) ?_; intro v22 w22 own22 grow22; obtain ⟨P22, p22, rfl, o22⟩ := own_made (bs := Dc) own22 (Nat.zero_add _) (List.nil_append _); have y22 := (Below.refl V21.heap.size V21).grown grow22 (Nat.le_refl _) (fun k hk => by cases hk); have row22 := (y22.block b hbz21).trans row21; have k10 := (at4_of row22).dat; have f10 := heap_frozen row22 10)
                      have row23 : (w22.setCell ⟨b, 10, none⟩ (.slice P22 Dc.length p22)).heap[b]? = some (.cells (v4a { q with off := f, opt := Oc, mf := true, dat := Dc } P17 p17 P22 p22) 24 (0, 0)) := heap_setCell_same w22 b 10 _ _ (.slice P22 Dc.length p22) row22
                      have hx23 : Own4 (w22.setCell ⟨b, 10, none⟩ (.slice P22 Dc.length p22)) (g + 1) ⟨{ q with off := f, opt := Oc, mf := true, dat := Dc }, P17, p17, P22, p22⟩ := ⟨own_setCellB (own_below o21 y22) row22 hTu, own_setCellB (own_base o22 (by have := hZ21.size; omega)) row22 hTu⟩
                      have hZ23 := (hZ21.trans (y22.mono hZ21.size)).setCell (p := ⟨b, 10, none⟩) hbw (.slice P22 Dc.length p22)
                      clear row22 row21 o21 o22 own22 grow22 y22 hZ21 k10 f10 hAD21
                      generalize w22.setCell ⟨b, 10, none⟩ (.slice P22 Dc.length p22) = V23 at *
                      have hat23 := at4_of row23
                      have hor23 := own_below hor hZ23
                      have hax23 : ∀ x ∈ pre, Own4 V23 (g + 1) x := fun x hx => (hax x hx).below hZ23
                      have hO23 := own_below ownO hZ23
                      have hD23 := own_below ownD hZ23
                      have hrp23 := (hZ23.block g hgw).trans hrowp
                      have hgz := hZ23.size
                      obtain ⟨i0, hi, hz0, hz1, hz2'⟩ := info_parts info_v4
                      go_upto_region 24 with (first
                        | ((with_reducible show wpList _ _ _ (Oper.mk _ (Op.load 24 _) _ _ _ _ :: _) _ _); refine wpList_val rfl (run_load_v4 rfl rfl hat23 rfl) ?_)
                        | ((with_reducible show wpList _ _ _ (Oper.mk _ (Op.buildSlice _ _ _) _ _ _ _ :: _) _ _); refine wpList_growU rfl (run_bs4 (cs := v4a { q with off := f, opt := Oc, mf := true, dat := Dc } P17 p17 P22 p22) rfl rfl rfl) ?_)
                        | (at_builtin; refine wpList_append_own _ rfl _ _ 26 rfl (g + 1) 24 i0 (v4v p4z none 0 none 0) 11 112 Try.underlying26 hi hz0 hz1 hz2' rfl (by decide) _ pre.length (pre.flatMap cl4) rfl (hor23.alloc _) ⟨V23.heap.size, 0, none⟩ 1 1 (cl4 ⟨{ q with off := f, opt := Oc, mf := true, dat := Dc }, P17, p17, P22, p22⟩) rfl rfl (cells_new4 V23 _) (cl4_one _) (by unfold maxLen; omega) (by omega) (by simp; omega) ?_; intro v24 w24 hown24 hgrow24 hnil24))
                      have hTn : 24 ≠ 5 := hTu
                      have y23 : Below V23.heap.size V23 (V23.alloc (.cells (v4a { q with off := f, opt := Oc, mf := true, dat := Dc } P17 p17 P22 p22) 24)) := (Below.refl _ _).alloc (Nat.le_refl _) _
                      have hO24 := own_keepT (own_below hO23 y23) (hor23.alloc _) hgrow24 hTn
                      have hD24 := own_keepT (own_below hD23 y23) (hor23.alloc _) hgrow24 hTn
                      have hax24 : ∀ x ∈ pre ++ [⟨{ q with off := f, opt := Oc, mf := true, dat := Dc }, P17, p17, P22, p22⟩], Own4 w24 (g + 1) x := fun x hx => by
                        rcases List.mem_append.1 hx with hx | hx
                        · exact ⟨own_keepT (own_below (hax23 x hx).1 y23) (hor23.alloc _) hgrow24 hTn, own_keepT (own_below (hax23 x hx).2 y23) (hor23.alloc _) hgrow24 hTn⟩
                        · rw [List.mem_singleton.1 hx]; exact ⟨own_keepT (own_below hx23.1 y23) (hor23.alloc _) hgrow24 hTn, own_keepT (own_below hx23.2 y23) (hor23.alloc _) hgrow24 hTn⟩
                      have hrp24 : w24.heap[g]? = some (.cells (v4a { q with off := f } P2 p2 P5 p5) 24 (0, 0)) := (hgrow24.block g (by simp; omega) (fun e => by have := own_block_ge hor g e.symm; omega)).trans ((y23.block g (by omega)).trans hrp23)
                      have hB24 : Below w.heap.size w w24 := ((hbel.trans (hZ23.mono hbel.size)).trans (y23.mono (by have := hbel.size; omega))).grown hgrow24 (by have := hbel.size; simp; omega) (fun k hk => by have := own_block_ge hor k hk; have := HG.out; omega)
                      have hrow24 : w24.ownsRow (g + 1) 24 11 v24 (pre.length + 1) ((pre ++ [(⟨{ q with off := f, opt := Oc, mf := true, dat := Dc }, P17, p17, P22, p22⟩ : X4)]).flatMap cl4) := by
                        rw [List.flatMap_append, List.flatMap_cons, List.flatMap_nil, List.append_nil]; exact hown24
                      clear hown24 hgrow24 hnil24 y23 hor23 hax23 hO23 hD23 hrp23 hx23 row23 hat23
                      obtain ⟨A24, c24, rfl⟩ := own_slice hrow24
                      have k2 := (at4_of hrp24).off
                      have f2 := heap_frozen hrp24 2
                      by_cases hce : cd = Dc.length
                      · subst hce
                        go_upto_region 26 with fail
                        have row26 : (w24.setCell ⟨g, 2, none⟩ (.int .i64 O1)).heap[g]? = some (.cells (v4a { q with off := O1 } P2 p2 P5 p5) 24 (0, 0)) := heap_setCell_same w24 g 2 _ _ (.int .i64 O1) hrp24
                        have hO26 := own_setCellB (i := 2) (u := .int .i64 O1) hO24 hrp24 hTu
                        have hD26 := own_setCellB (i := 2) (u := .int .i64 O1) hD24 hrp24 hTu
                        have hB26 := hB24.setCell (p := ⟨g, 2, none⟩) (by have := HG.out; show w.heap.size ≤ g; omega) (.int .i64 O1)
                        have hax26 : ∀ x ∈ pre ++ [⟨{ q with off := f, opt := Oc, mf := true, dat := Dc }, P17, p17, P22, p22⟩], Own4 (w24.setCell ⟨g, 2, none⟩ (.int .i64 O1)) (g + 1) x := fun x hx => ⟨own_setCellB (hax24 x hx).1 hrp24 hTu, own_setCellB (hax24 x hx).2 hrp24 hTu⟩
                        have hor26 := own_setCell hrow24 (p := ⟨g, 2, none⟩) (u := .int .i64 O1) (Nat.lt_succ_self g)
                        clear hrow24 hax24 hO24 hD24 hrp24 k2 f2
                        generalize w24.setCell ⟨g, 2, none⟩ (.int .i64 O1) = V26 at *
                        have kp9 := (at4_of row26).opt
                        have hcp := r13copied P2 q.opt p2 V26.heap.size V26 (arg_own hO26) (Nat.le_refl _) hol
                        rw [← HOO.out] at hcp
                        go_wp2_with (go_at_call 14; refine hcp.mono ?_; rintro e w27 ⟨v27, rfl, m27⟩; obtain ⟨P27, p27, rfl, g27, o27, x27⟩ := made_shape m27)
                        have hz26 := hB26.size
                        refine ⟨?rel, ?measure⟩
                        case rel =>
                          refine ⟨_, O1, o, DR, P27, p27, Ad, 0, k + Dc.length, pre ++ [⟨{ q with off := f, opt := Oc, mf := true, dat := Dc }, P17, p17, P22, p22⟩], false, rfl, ?dsl, rfl, rfl, hB26.trans (x27.mono hz26), (x27.block g (heap_lt row26)).trans row26, (by rw [List.length_append]; exact own_below hor26 x27), (fun x hx => (hax26 x hx).below x27), own_base o27 (by have := heap_lt row26; omega), own_below hO26 x27, own_below hD26 x27, ?_, ?_, ?_, ?_, ?_, ?_⟩
                          case dsl => rw [HDRl.out, Nat.sub_self]
                          · have := HDRl.out; omega
                          · exact Lib.hid (by rw [HDR.out, HDc.out, List.drop_drop])
                          · exact Lib.hid (by have := Hcd.out; omega)
                          · have := HDRl.out; omega
                          · intro h0; have := HDRl.out; omega
                          · refine .inr ⟨Lib.hid ?_, by have := HDRl.out; omega, rfl⟩
                            rw [HLL.out, HRS.out, HX.out, List.map_append]; rfl
                        case measure => show 0 < Dc.length; exact hN0
                      · have hne : ¬ cd = Dc.length := hce
                        go_upto_region 26 with fail
                        have row26 : (w24.setCell ⟨g, 2, none⟩ (.int .i64 O1)).heap[g]? = some (.cells (v4a { q with off := O1 } P2 p2 P5 p5) 24 (0, 0)) := heap_setCell_same w24 g 2 _ _ (.int .i64 O1) hrp24
                        have hO26 := own_setCellB (i := 2) (u := .int .i64 O1) hO24 hrp24 hTu
                        have hD26 := own_setCellB (i := 2) (u := .int .i64 O1) hD24 hrp24 hTu
                        have hB26 := hB24.setCell (p := ⟨g, 2, none⟩) (by have := HG.out; show w.heap.size ≤ g; omega) (.int .i64 O1)
                        have hax26 : ∀ x ∈ pre ++ [⟨{ q with off := f, opt := Oc, mf := true, dat := Dc }, P17, p17, P22, p22⟩], Own4 (w24.setCell ⟨g, 2, none⟩ (.int .i64 O1)) (g + 1) x := fun x hx => ⟨own_setCellB (hax24 x hx).1 hrp24 hTu, own_setCellB (hax24 x hx).2 hrp24 hTu⟩
                        have hor26 := own_setCell hrow24 (p := ⟨g, 2, none⟩) (u := .int .i64 O1) (Nat.lt_succ_self g)
                        clear hrow24 hax24 hO24 hD24 hrp24 k2 f2
                        generalize w24.setCell ⟨g, 2, none⟩ (.int .i64 O1) = V26 at *
                        have kp9 := (at4_of row26).opt
                        have hcp := r13copied P2 q.opt p2 V26.heap.size V26 (arg_own hO26) (Nat.le_refl _) hol
                        rw [← HOO.out] at hcp
                        go_wp2_with (go_at_call 14; refine hcp.mono ?_; rintro e w27 ⟨v27, rfl, m27⟩; obtain ⟨P27, p27, rfl, g27, o27, x27⟩ := made_shape m27)
                        have hz26 := hB26.size
                        refine ⟨?rel, ?measure⟩
                        case rel =>
                          refine ⟨_, O1, o, DR, P27, p27, Ad.map (fun x => x.add Dc.length), cd - Dc.length, k + Dc.length, pre ++ [⟨{ q with off := f, opt := Oc, mf := true, dat := Dc }, P17, p17, P22, p22⟩], false, rfl, ?dsl, rfl, rfl, hB26.trans (x27.mono hz26), (x27.block g (heap_lt row26)).trans row26, (by rw [List.length_append]; exact own_below hor26 x27), (fun x hx => (hax26 x hx).below x27), own_base o27 (by have := heap_lt row26; omega), own_below hO26 x27, own_below hD26 x27, ?_, ?_, ?_, ?_, ?_, ?_⟩
                          case dsl => rw [HDRl.out, Nat.sub_self]
                          · have := HDRl.out; omega
                          · exact Lib.hid (by rw [HDR.out, HDc.out, List.drop_drop])
                          · exact Lib.hid (by have := Hcd.out; omega)
                          · have := HDRl.out; omega
                          · intro h0; have := HDRl.out; omega
                          · refine .inr ⟨Lib.hid ?_, by have := HDRl.out; omega, rfl⟩
                            rw [HLL.out, HRS.out, HX.out, List.map_append]; rfl
                        case measure => show 0 < Dc.length; exact hN0
                    | false =>
                      go_upto_region 22 with fail
                      have HX : Hid (({ q with off := f, opt := Oc, dat := Dc } : P4) = { q with off := f, opt := Oc, mf := false, dat := Dc }) := Lib.hid (by have e := HMM.out; rw [e])
                      have row21 : (V20.setCell ⟨b, 8, none⟩ (.bool false)).heap[b]? = some (.cells (v4a { q with off := f, opt := Oc, mf := false } P17 p17 P5 p5) 24 (0, 0)) := heap_setCell_same V20 b 8 _ _ (.bool false) row20
                      have o21 := own_setCellB (i := 8) (u := .bool false) o20 row20 hTu
                      have hZ21 := hZ20.setCell (p := ⟨b, 8, none⟩) hbw (.bool false)
                      have hbz21 := heap_lt row21
                      clear row20 o20 hZ20 k8 f8
                      generalize V20.setCell ⟨b, 8, none⟩ (.bool false) = V21 at *
                      have hAD21 := (hAD.below hZ21).more hZ21.size
                      go_upto_region 23 with (at_builtin; refine append_rd rfl _ _ rfl V21.heap.size (.slice none 0 0) 0 [] rfl (World.ownsRow_nil _ _ _ _) V21.heap.size Ad cd Dc rfl hAD21.none_ hAD21.rd (by omega) (Nat.le_refl _) ?_; intro v22 w22 own22 grow22; obtain ⟨P22, p22, rfl, o22⟩ := own_made (bs := Dc) own22 (Nat.zero_add _) (List.nil_append _); have y22 := (Below.refl V21.heap.size V21).grown grow22 (Nat.le_refl _) (fun k hk => by cases hk); have row22 := (y22.block b hbz21).trans row21; have k10 := (at4_of row22).dat; have f10 := heap_frozen row22 10)
                      have row23 : (w22.setCell ⟨b, 10, none⟩ (.slice P22 Dc.length p22)).heap[b]? = some (.cells (v4a { q with off := f, opt := Oc, mf := false, dat := Dc } P17 p17 P22 p22) 24 (0, 0)) := heap_setCell_same w22 b 10 _ _ (.slice P22 Dc.length p22) row22
                      have hx23 : Own4 (w22.setCell ⟨b, 10, none⟩ (.slice P22 Dc.length p22)) (g + 1) ⟨{ q with off := f, opt := Oc, mf := false, dat := Dc }, P17, p17, P22, p22⟩ := ⟨own_setCellB (own_below o21 y22) row22 hTu, own_setCellB (own_base o22 (by have := hZ21.size; omega)) row22 hTu⟩
                      have hZ23 := (hZ21.trans (y22.mono hZ21.size)).setCell (p := ⟨b, 10, none⟩) hbw (.slice P22 Dc.length p22)
                      clear row22 row21 o21 o22 own22 grow22 y22 hZ21 k10 f10 hAD21
                      generalize w22.setCell ⟨b, 10, none⟩ (.slice P22 Dc.length p22) = V23 at *
                      have hat23 := at4_of row23
                      have hor23 := own_below hor hZ23
                      have hax23 : ∀ x ∈ pre, Own4 V23 (g + 1) x := fun x hx => (hax x hx).below hZ23
                      have hO23 := own_below ownO hZ23
                      have hD23 := own_below ownD hZ23
                      have hrp23 := (hZ23.block g hgw).trans hrowp
                      have hgz := hZ23.size
                      obtain ⟨i0, hi, hz0, hz1, hz2'⟩ := info_parts info_v4
                      go_upto_region 24 with (first
                        | ((with_reducible show wpList _ _ _ (Oper.mk _ (Op.load 24 _) _ _ _ _ :: _) _ _); refine wpList_val rfl (run_load_v4 rfl rfl hat23 rfl) ?_)
                        | ((with_reducible show wpList _ _ _ (Oper.mk _ (Op.buildSlice _ _ _) _ _ _ _ :: _) _ _); refine wpList_growU rfl (run_bs4 (cs := v4a { q with off := f, opt := Oc, mf := false, dat := Dc } P17 p17 P22 p22) rfl rfl rfl) ?_)
                        | (at_builtin; refine wpList_append_own _ rfl _ _ 26 rfl (g + 1) 24 i0 (v4v p4z none 0 none 0) 11 112 Try.underlying26 hi hz0 hz1 hz2' rfl (by decide) _ pre.length (pre.flatMap cl4) rfl (hor23.alloc _) ⟨V23.heap.size, 0, none⟩ 1 1 (cl4 ⟨{ q with off := f, opt := Oc, mf := false, dat := Dc }, P17, p17, P22, p22⟩) rfl rfl (cells_new4 V23 _) (cl4_one _) (by unfold maxLen; omega) (by omega) (by simp; omega) ?_; intro v24 w24 hown24 hgrow24 hnil24))
                      have hTn : 24 ≠ 5 := hTu
                      have y23 : Below V23.heap.size V23 (V23.alloc (.cells (v4a { q with off := f, opt := Oc, mf := false, dat := Dc } P17 p17 P22 p22) 24)) := (Below.refl _ _).alloc (Nat.le_refl _) _
                      have hO24 := own_keepT (own_below hO23 y23) (hor23.alloc _) hgrow24 hTn
                      have hD24 := own_keepT (own_below hD23 y23) (hor23.alloc _) hgrow24 hTn
                      have hax24 : ∀ x ∈ pre ++ [⟨{ q with off := f, opt := Oc, mf := false, dat := Dc }, P17, p17, P22, p22⟩], Own4 w24 (g + 1) x := fun x hx => by
                        rcases List.mem_append.1 hx with hx | hx
                        · exact ⟨own_keepT (own_below (hax23 x hx).1 y23) (hor23.alloc _) hgrow24 hTn, own_keepT (own_below (hax23 x hx).2 y23) (hor23.alloc _) hgrow24 hTn⟩
                        · rw [List.mem_singleton.1 hx]; exact ⟨own_keepT (own_below hx23.1 y23) (hor23.alloc _) hgrow24 hTn, own_keepT (own_below hx23.2 y23) (hor23.alloc _) hgrow24 hTn⟩
                      have hrp24 : w24.heap[g]? = some (.cells (v4a { q with off := f } P2 p2 P5 p5) 24 (0, 0)) := (hgrow24.block g (by simp; omega) (fun e => by have := own_block_ge hor g e.symm; omega)).trans ((y23.block g (by omega)).trans hrp23)
                      have hB24 : Below w.heap.size w w24 := ((hbel.trans (hZ23.mono hbel.size)).trans (y23.mono (by have := hbel.size; omega))).grown hgrow24 (by have := hbel.size; simp; omega) (fun k hk => by have := own_block_ge hor k hk; have := HG.out; omega)
                      have hrow24 : w24.ownsRow (g + 1) 24 11 v24 (pre.length + 1) ((pre ++ [(⟨{ q with off := f, opt := Oc, mf := false, dat := Dc }, P17, p17, P22, p22⟩ : X4)]).flatMap cl4) := by
                        rw [List.flatMap_append, List.flatMap_cons, List.flatMap_nil, List.append_nil]; exact hown24
                      clear hown24 hgrow24 hnil24 y23 hor23 hax23 hO23 hD23 hrp23 hx23 row23 hat23
                      obtain ⟨A24, c24, rfl⟩ := own_slice hrow24
                      have k2 := (at4_of hrp24).off
                      have f2 := heap_frozen hrp24 2
                      by_cases hce : cd = Dc.length
                      · subst hce
                        go_upto_region 26 with fail
                        have row26 : (w24.setCell ⟨g, 2, none⟩ (.int .i64 O1)).heap[g]? = some (.cells (v4a { q with off := O1 } P2 p2 P5 p5) 24 (0, 0)) := heap_setCell_same w24 g 2 _ _ (.int .i64 O1) hrp24
                        have hO26 := own_setCellB (i := 2) (u := .int .i64 O1) hO24 hrp24 hTu
                        have hD26 := own_setCellB (i := 2) (u := .int .i64 O1) hD24 hrp24 hTu
                        have hB26 := hB24.setCell (p := ⟨g, 2, none⟩) (by have := HG.out; show w.heap.size ≤ g; omega) (.int .i64 O1)
                        have hax26 : ∀ x ∈ pre ++ [⟨{ q with off := f, opt := Oc, mf := false, dat := Dc }, P17, p17, P22, p22⟩], Own4 (w24.setCell ⟨g, 2, none⟩ (.int .i64 O1)) (g + 1) x := fun x hx => ⟨own_setCellB (hax24 x hx).1 hrp24 hTu, own_setCellB (hax24 x hx).2 hrp24 hTu⟩
                        have hor26 := own_setCell hrow24 (p := ⟨g, 2, none⟩) (u := .int .i64 O1) (Nat.lt_succ_self g)
                        clear hrow24 hax24 hO24 hD24 hrp24 k2 f2
                        generalize w24.setCell ⟨g, 2, none⟩ (.int .i64 O1) = V26 at *
                        have kp9 := (at4_of row26).opt
                        have hcp := r13copied P2 q.opt p2 V26.heap.size V26 (arg_own hO26) (Nat.le_refl _) hol
                        rw [← HOO.out] at hcp
                        go_wp2_with (go_at_call 14; refine hcp.mono ?_; rintro e w27 ⟨v27, rfl, m27⟩; obtain ⟨P27, p27, rfl, g27, o27, x27⟩ := made_shape m27)
                        have hz26 := hB26.size
                        refine ⟨?rel, ?measure⟩
                        case rel =>
                          refine ⟨_, O1, o, DR, P27, p27, Ad, 0, k + Dc.length, pre ++ [⟨{ q with off := f, opt := Oc, mf := false, dat := Dc }, P17, p17, P22, p22⟩], false, rfl, ?dsl, rfl, rfl, hB26.trans (x27.mono hz26), (x27.block g (heap_lt row26)).trans row26, (by rw [List.length_append]; exact own_below hor26 x27), (fun x hx => (hax26 x hx).below x27), own_base o27 (by have := heap_lt row26; omega), own_below hO26 x27, own_below hD26 x27, ?_, ?_, ?_, ?_, ?_, ?_⟩
                          case dsl => rw [HDRl.out, Nat.sub_self]
                          · have := HDRl.out; omega
                          · exact Lib.hid (by rw [HDR.out, HDc.out, List.drop_drop])
                          · exact Lib.hid (by have := Hcd.out; omega)
                          · have := HDRl.out; omega
                          · intro h0; have := HDRl.out; omega
                          · refine .inr ⟨Lib.hid ?_, by have := HDRl.out; omega, rfl⟩
                            rw [HLL.out, HRS.out, HX.out, List.map_append]; rfl
                        case measure => show 0 < Dc.length; exact hN0
                      · have hne : ¬ cd = Dc.length := hce
                        go_upto_region 26 with fail
                        have row26 : (w24.setCell ⟨g, 2, none⟩ (.int .i64 O1)).heap[g]? = some (.cells (v4a { q with off := O1 } P2 p2 P5 p5) 24 (0, 0)) := heap_setCell_same w24 g 2 _ _ (.int .i64 O1) hrp24
                        have hO26 := own_setCellB (i := 2) (u := .int .i64 O1) hO24 hrp24 hTu
                        have hD26 := own_setCellB (i := 2) (u := .int .i64 O1) hD24 hrp24 hTu
                        have hB26 := hB24.setCell (p := ⟨g, 2, none⟩) (by have := HG.out; show w.heap.size ≤ g; omega) (.int .i64 O1)
                        have hax26 : ∀ x ∈ pre ++ [⟨{ q with off := f, opt := Oc, mf := false, dat := Dc }, P17, p17, P22, p22⟩], Own4 (w24.setCell ⟨g, 2, none⟩ (.int .i64 O1)) (g + 1) x := fun x hx => ⟨own_setCellB (hax24 x hx).1 hrp24 hTu, own_setCellB (hax24 x hx).2 hrp24 hTu⟩
                        have hor26 := own_setCell hrow24 (p := ⟨g, 2, none⟩) (u := .int .i64 O1) (Nat.lt_succ_self g)
                        clear hrow24 hax24 hO24 hD24 hrp24 k2 f2
                        generalize w24.setCell ⟨g, 2, none⟩ (.int .i64 O1) = V26 at *
                        have kp9 := (at4_of row26).opt
                        have hcp := r13copied P2 q.opt p2 V26.heap.size V26 (arg_own hO26) (Nat.le_refl _) hol
                        rw [← HOO.out] at hcp
                        go_wp2_with (go_at_call 14; refine hcp.mono ?_; rintro e w27 ⟨v27, rfl, m27⟩; obtain ⟨P27, p27, rfl, g27, o27, x27⟩ := made_shape m27)
                        have hz26 := hB26.size
                        refine ⟨?rel, ?measure⟩
                        case rel =>
                          refine ⟨_, O1, o, DR, P27, p27, Ad.map (fun x => x.add Dc.length), cd - Dc.length, k + Dc.length, pre ++ [⟨{ q with off := f, opt := Oc, mf := false, dat := Dc }, P17, p17, P22, p22⟩], false, rfl, ?dsl, rfl, rfl, hB26.trans (x27.mono hz26), (x27.block g (heap_lt row26)).trans row26, (by rw [List.length_append]; exact own_below hor26 x27), (fun x hx => (hax26 x hx).below x27), own_base o27 (by have := heap_lt row26; omega), own_below hO26 x27, own_below hD26 x27, ?_, ?_, ?_, ?_, ?_, ?_⟩
                          case dsl => rw [HDRl.out, Nat.sub_self]
                          · have := HDRl.out; omega
                          · exact Lib.hid (by rw [HDR.out, HDc.out, List.drop_drop])
                          · exact Lib.hid (by have := Hcd.out; omega)
                          · have := HDRl.out; omega
                          · intro h0; have := HDRl.out; omega
                          · refine .inr ⟨Lib.hid ?_, by have := HDRl.out; omega, rfl⟩
                            rw [HLL.out, HRS.out, HX.out, List.map_append]; rfl
                        case measure => show 0 < Dc.length; exact hN0
                | false =>
                  go_upto_region 17 with (first
                    | ((with_reducible show wpList _ _ _ (Oper.mk _ (Op.load 24 _) _ _ _ _ :: _) _ _); refine wpList_val rfl (run_load_v4 rfl rfl hAtp rfl) ?_)
                    | ((with_reducible show wpList _ _ _ (Oper.mk _ (Op.store 24 _ _) _ _ _ _ :: _) _ _); refine v4_store_new (cs := v4a { q with off := f } P2 p2 P5 p5) rfl rfl rfl rfl (v4a_one _ _ _ _ _) ?_))
                  have row16 : (wr.alloc (.cells (v4a { q with off := f } P2 p2 P5 p5) 24)).heap[wr.heap.size]? = some (.cells (v4a { q with off := f } P2 p2 P5 p5) 24 (0, 0)) := World.alloc_heap_new wr _
                  have hZ16 : Below wr.heap.size wr (wr.alloc (.cells (v4a { q with off := f } P2 p2 P5 p5) 24)) := (Below.refl _ wr).alloc (Nat.le_refl _) _
                  obtain ⟨b, hb⟩ : ∃ b, b = wr.heap.size := ⟨_, rfl⟩
                  rw [← hb] at row16 ⊢
                  have hbw : wr.heap.size ≤ b := by rw [hb]; exact Nat.le_refl _
                  have hgb : g < b := by rw [hb]; exact hgw
                  generalize wr.alloc (.cells (v4a { q with off := f } P2 p2 P5 p5) 24) = Z16 at *
                  clear hb
                  have hbz16 := heap_lt row16
                  have hAO16 := arg_own (own_below hoc hZ16)
                  go_upto_region 18 with (at_builtin; refine append_rd rfl _ _ rfl Z16.heap.size (.slice none 0 0) 0 [] rfl (World.ownsRow_nil _ _ _ _) Z16.heap.size Ao co Oc rfl hAO16.none_ hAO16.rd (by omega) (Nat.le_refl _) ?_; intro v17 w17 own17 grow17; obtain ⟨P17, p17, rfl, o17⟩ := own_made (bs := Oc) own17 (Nat.zero_add _) (List.nil_append _); have y17 := (Below.refl Z16.heap.size Z16).grown grow17 (Nat.le_refl _) (fun k hk => by cases hk); have row17 := (y17.block b hbz16).trans row16; have k9 := (at4_of row17).opt; have f9 := heap_frozen row17 9)
                  have row18 : (w17.setCell ⟨b, 9, none⟩ (.slice P17 Oc.length p17)).heap[b]? = some (.cells (v4a { q with off := f, opt := Oc } P17 p17 P5 p5) 24 (0, 0)) := heap_setCell_same w17 b 9 _ _ (.slice P17 Oc.length p17) row17
                  have o18 := own_base (base := g + 1) (own_setCellB (i := 9) (u := .slice P17 Oc.length p17) o17 row17 hTu) (by have := hZ16.size; omega)
                  have hZ18 := (hZ16.trans (y17.mono hZ16.size)).setCell (p := ⟨b, 9, none⟩) hbw (.slice P17 Oc.length p17)
                  have hbz18 := heap_lt row18
                  clear row16 row17 o17 own17 grow17 y17 k9 f9 hAO16 hZ16
                  generalize w17.setCell ⟨b, 9, none⟩ (.slice P17 Oc.length p17) = V18 at *
                  by_cases hs : size4 { q with off := f, opt := Oc, dat := Dc } > mtu
                  · have HSS := Lib.hid hs
                    have hrb := room_bd HCC.out
                    have hrl := room_lt HCC.out hs
                    have hsz : size4 { q with off := f, opt := Oc, dat := Dc } = H + (Dc.length : Int) := by rw [← HH.out]; rfl
                    obtain ⟨DZ, hDZ⟩ : ∃ DZ, DZ = Dc.take (room mtu { q with off := f, opt := Oc, dat := Dc }).toNat := ⟨_, rfl⟩
                    have hrl' : room mtu { q with off := f, opt := Oc, dat := Dc } < (Dc.length : Int) := hrl
                    have hzz : (DZ.length : Int) = room mtu { q with off := f, opt := Oc, dat := Dc } := by rw [hDZ, List.length_take]; omega
                    obtain ⟨D0, hD0⟩ : ∃ D0, D0 = mtu - H := ⟨_, rfl⟩
                    have hrz : (DZ.length : Int) = D0 - D0 % 8 := by
                      rw [hzz, hD0, ← HH.out]; rfl
                    have hD0b : 8 ≤ D0 ∧ D0 ≤ 65535 := by omega
                    have e7 : wrap64 (mtu - H) = D0 := by rw [hD0]; unfold wrap64; omega
                    have e7' : mtu - H = D0 := hD0.symm
                    have e8 : D0.tdiv 8 = D0 / 8 := Int.tdiv_eq_ediv_of_nonneg (by omega)
                    have e9 : D0 / 8 * 8 = (DZ.length : Int) := by omega
                    have e10 : wrap64 (D0 / 8 * 8) = (DZ.length : Int) := by rw [e9]; unfold wrap64; omega
                    have hzN : DZ.length < Dc.length := by omega
                    have hz8 : 8 ≤ DZ.length := by omega
                    have HP1 : Hid (part1 mtu { q with off := f, opt := Oc, dat := Dc } = { q with off := f, opt := Oc, mf := true, dat := DZ }) := Lib.hid (by rw [hDZ]; rfl)
                    obtain ⟨DR, hDR⟩ : ∃ DR, DR = Dc.drop DZ.length := ⟨_, rfl⟩
                    have HDR := Lib.hid hDR
                    have HDRl : Hid (DR.length = Dc.length - DZ.length) := Lib.hid (by rw [hDR, List.length_drop])
                    obtain ⟨O1, hO1⟩ : ∃ O1, O1 = f + (DZ.length : Int) := ⟨_, rfl⟩
                    have hfb : 0 ≤ f ∧ f + (Dc.length : Int) ≤ 65535 := by obtain ⟨b1, _, b3, _⟩ := HCC.out.off; exact ⟨b1, b3⟩
                    have e11 : wrap64 (f + (DZ.length : Int)) = O1 := by rw [hO1]; unfold wrap64; omega
                    have e12 : f + (DZ.length : Int) = O1 := hO1.symm
                    have HR1 : Hid (rest1 mtu o { q with off := f, opt := Oc, dat := Dc } = { q with off := O1, opt := o, dat := DR }) := Lib.hid (by
                      have hz2 : (room mtu { q with off := f, opt := Oc, dat := Dc }).toNat = DZ.length := by omega
                      rw [hDR, hO1, rest1, hz2, ← hzz])
                    have HRS := Lib.hid (rst4_more (o := o) (mf := q.mf) HCC.out hco hs)
                    have HDZ2 : Hid (DZ = Dc.take DZ.length) := Lib.hid (by
                      have hz2 : (room mtu { q with off := f, opt := Oc, dat := Dc }).toNat = DZ.length := by omega
                      conv => lhs; rw [hDZ, hz2])
                    have hAD : Arg wr wr.heap.size Ad cd DZ := by have := hArgD.cut_hi DZ.length (by omega); rwa [← HDZ2.out] at this
                    have hsm : mtu < H + (Dc.length : Int) := by rw [← hsz]; exact hs
                    clear hs hrb hrl hrl' hDZ hD0 hDR hO1 hzz hrz hsz
                    have n1 : decide (H + (Dc.length : Int) > mtu) = true := by simp; omega
                    have n2 : decide (mtu < H + (Dc.length : Int)) = true := by simp; omega
                    go_upto_region 21 with (first
                      | ((with_reducible show wpList _ _ _ (Oper.mk _ (Op.load 24 _) _ _ _ _ :: _) _ _); refine wpList_val rfl (run_load_v4 rfl rfl hat19 rfl) ?_)
                      | ((with_reducible show wpList _ _ _ (Oper.mk _ (Op.load 24 _) _ _ _ _ :: _) _ _); refine wpList_val rfl (run_load_v4 rfl rfl (at4_of row18) rfl) ?_)
                      | (go_at_call 32; refine (r5head { q with off := f, opt := Oc } P17 p17 P5 p5 V19 (by show Oc.length ≤ 1000000; omega)).mono ?_; rintro e V20 ⟨rfl, x20⟩; rw [HH.out])
                      | (go_at_call 32; refine (r5head { q with off := f, opt := Oc } P17 p17 P5 p5 V18 (by show Oc.length ≤ 1000000; omega)).mono ?_; rintro e V19 ⟨rfl, x19⟩; rw [HH.out]; have hat19 := (at4_of row18).below x19 hbz18))
                    have row20 := (x20.block b (Nat.lt_of_lt_of_le hbz18 x19.size)).trans ((x19.block b hbz18).trans row18)
                    have o20 := own_below (own_below o18 x19) x20
                    have hZ20 := (hZ18.trans (x19.mono hZ18.size)).trans (x20.mono (by have := hZ18.size; have := x19.size; omega))
                    clear row18 o18 hZ18 x19 x20
                    have hne : ¬ cd = DZ.length := by omega
                    have hnl : ¬ cd < DZ.length := by omega
                    have hlt1 : decide (DZ.length < Dc.length) = true := by simp; omega
                    have hlt2 : decide ((DZ.length : Int) < (Dc.length : Int)) = true := by simp; omega
                    have k8 := (at4_of row20).mf
                    have f8 := heap_frozen row20 8
                    cases M with
                    | true =>
                      go_upto_region 22 with fail
                      have row21 : (V20.setCell ⟨b, 8, none⟩ (.bool true)).heap[b]? = some (.cells (v4a { q with off := f, opt := Oc, mf := true } P17 p17 P5 p5) 24 (0, 0)) := heap_setCell_same V20 b 8 _ _ (.bool true) row20
                      have o21 := own_setCellB (i := 8) (u := .bool true) o20 row20 hTu
                      have hZ21 := hZ20.setCell (p := ⟨b, 8, none⟩) hbw (.bool true)
                      have hbz21 := heap_lt row21
                      clear row20 o20 hZ20 k8 f8
                      generalize V20.setCell ⟨b, 8, none⟩ (.bool true) = V21 at *
                      have hAD21 := (hAD.below hZ21).more hZ21.size
                      go_upto_region 23 with (at_builtin; refine append_rd rfl _ _ rfl V21.heap.size (.slice none 0 0) 0 [] rfl (World.ownsRow_nil _ _ _ _) V21.heap.size Ad cd DZ rfl hAD21.none_ hAD21.rd (by omega) (Nat.le_refl _) ?_; intro v22 w22 own22 grow22; obtain ⟨P22, p22, rfl, o22⟩ := own_made (bs := DZ) own22 (Nat.zero_add _) (List.nil_append _); have y22 := (Below.refl V21.heap.size V21).grown grow22 (Nat.le_refl _) (fun k hk => by cases hk); have row22 := (y22.block b hbz21).trans row21; have k10 := (at4_of row22).dat; have f10 := heap_frozen row22 10)
                      have row23 : (w22.setCell ⟨b, 10, none⟩ (.slice P22 DZ.length p22)).heap[b]? = some (.cells (v4a { q with off := f, opt := Oc, mf := true, dat := DZ } P17 p17 P22 p22) 24 (0, 0)) := heap_setCell_same w22 b 10 _ _ (.slice P22 DZ.length p22) row22
                      have hx23 : Own4 (w22.setCell ⟨b, 10, none⟩ (.slice P22 DZ.length p22)) (g + 1) ⟨{ q with off := f, opt := Oc, mf := true, dat := DZ }, P17, p17, P22, p22⟩ := ⟨own_setCellB (own_below o21 y22) row22 hTu, own_setCellB (own_base o22 (by have := hZ21.size; omega)) row22 hTu⟩
                      have hZ23 := (hZ21.trans (y22.mono hZ21.size)).setCell (p := ⟨b, 10, none⟩) hbw (.slice P22 DZ.length p22)
                      clear row22 row21 o21 o22 own22 grow22 y22 hZ21 k10 f10 hAD21
                      generalize w22.setCell ⟨b, 10, none⟩ (.slice P22 DZ.length p22) = V23 at *
                      have hat23 := at4_of row23
                      have hor23 := own_below hor hZ23
                      have hax23 : ∀ x ∈ pre, Own4 V23 (g + 1) x := fun x hx => (hax x hx).below hZ23
                      have hO23 := own_below ownO hZ23
                      have hD23 := own_below ownD hZ23
                      have hrp23 := (hZ23.block g hgw).trans hrowp
                      have hgz := hZ23.size
                      obtain ⟨i0, hi, hz0, hz1, hz2'⟩ := info_parts info_v4
                      go_upto_region 24 with (first
                        | ((with_reducible show wpList _ _ _ (Oper.mk _ (Op.load 24 _) _ _ _ _ :: _) _ _); refine wpList_val rfl (run_load_v4 rfl rfl hat23 rfl) ?_)
                        | ((with_reducible show wpList _ _ _ (Oper.mk _ (Op.buildSlice _ _ _) _ _ _ _ :: _) _ _); refine wpList_growU rfl (run_bs4 (cs := v4a { q with off := f, opt := Oc, mf := true, dat := DZ } P17 p17 P22 p22) rfl rfl rfl) ?_)
                        | (at_builtin; refine wpList_append_own _ rfl _ _ 26 rfl (g + 1) 24 i0 (v4v p4z none 0 none 0) 11 112 Try.underlying26 hi hz0 hz1 hz2' rfl (by decide) _ pre.length (pre.flatMap cl4) rfl (hor23.alloc _) ⟨V23.heap.size, 0, none⟩ 1 1 (cl4 ⟨{ q with off := f, opt := Oc, mf := true, dat := DZ }, P17, p17, P22, p22⟩) rfl rfl (cells_new4 V23 _) (cl4_one _) (by unfold maxLen; omega) (by omega) (by simp; omega) ?_; intro v24 w24 hown24 hgrow24 hnil24))
                      have hTn : 24 ≠ 5 := hTu
                      have y23 : Below V23.heap.size V23 (V23.alloc (.cells (v4a { q with off := f, opt := Oc, mf := true, dat := DZ } P17 p17 P22 p22) 24)) := (Below.refl _ _).alloc (Nat.le_refl _) _
                      have hO24 := own_keepT (own_below hO23 y23) (hor23.alloc _) hgrow24 hTn
                      have hD24 := own_keepT (own_below hD23 y23) (hor23.alloc _) hgrow24 hTn
                      have hax24 : ∀ x ∈ pre ++ [⟨{ q with off := f, opt := Oc, mf := true, dat := DZ }, P17, p17, P22, p22⟩], Own4 w24 (g + 1) x := fun x hx => by
                        rcases List.mem_append.1 hx with hx | hx
                        · exact ⟨own_keepT (own_below (hax23 x hx).1 y23) (hor23.alloc _) hgrow24 hTn, own_keepT (own_below (hax23 x hx).2 y23) (hor23.alloc _) hgrow24 hTn⟩
                        · rw [List.mem_singleton.1 hx]; exact ⟨own_keepT (own_below hx23.1 y23) (hor23.alloc _) hgrow24 hTn, own_keepT (own_below hx23.2 y23) (hor23.alloc _) hgrow24 hTn⟩
                      have hrp24 : w24.heap[g]? = some (.cells (v4a { q with off := f } P2 p2 P5 p5) 24 (0, 0)) := (hgrow24.block g (by simp; omega) (fun e => by have := own_block_ge hor g e.symm; omega)).trans ((y23.block g (by omega)).trans hrp23)
                      have hB24 : Below w.heap.size w w24 := ((hbel.trans (hZ23.mono hbel.size)).trans (y23.mono (by have := hbel.size; omega))).grown hgrow24 (by have := hbel.size; simp; omega) (fun k hk => by have := own_block_ge hor k hk; have := HG.out; omega)
                      have hrow24 : w24.ownsRow (g + 1) 24 11 v24 (pre.length + 1) ((pre ++ [(⟨{ q with off := f, opt := Oc, mf := true, dat := DZ }, P17, p17, P22, p22⟩ : X4)]).flatMap cl4) := by
                        rw [List.flatMap_append, List.flatMap_cons, List.flatMap_nil, List.append_nil]; exact hown24
                      clear hown24 hgrow24 hnil24 y23 hor23 hax23 hO23 hD23 hrp23 hx23 row23 hat23
                      obtain ⟨A24, c24, rfl⟩ := own_slice hrow24
                      have k2 := (at4_of hrp24).off
                      have f2 := heap_frozen hrp24 2
                      go_upto_region 26 with fail
                      have row26 : (w24.setCell ⟨g, 2, none⟩ (.int .i64 O1)).heap[g]? = some (.cells (v4a { q with off := O1 } P2 p2 P5 p5) 24 (0, 0)) := heap_setCell_same w24 g 2 _ _ (.int .i64 O1) hrp24
                      have hO26 := own_setCellB (i := 2) (u := .int .i64 O1) hO24 hrp24 hTu
                      have hD26 := own_setCellB (i := 2) (u := .int .i64 O1) hD24 hrp24 hTu
                      have hB26 := hB24.setCell (p := ⟨g, 2, none⟩) (by have := HG.out; show w.heap.size ≤ g; omega) (.int .i64 O1)
                      have hax26 : ∀ x ∈ pre ++ [⟨{ q with off := f, opt := Oc, mf := true, dat := DZ }, P17, p17, P22, p22⟩], Own4 (w24.setCell ⟨g, 2, none⟩ (.int .i64 O1)) (g + 1) x := fun x hx => ⟨own_setCellB (hax24 x hx).1 hrp24 hTu, own_setCellB (hax24 x hx).2 hrp24 hTu⟩
                      have hor26 := own_setCell hrow24 (p := ⟨g, 2, none⟩) (u := .int .i64 O1) (Nat.lt_succ_self g)
                      clear hrow24 hax24 hO24 hD24 hrp24 k2 f2
                      generalize w24.setCell ⟨g, 2, none⟩ (.int .i64 O1) = V26 at *
                      have kp9 := (at4_of row26).opt
                      have hcp := r13copied P2 q.opt p2 V26.heap.size V26 (arg_own hO26) (Nat.le_refl _) hol
                      rw [← HOO.out] at hcp
                      go_wp2_with (go_at_call 14; refine hcp.mono ?_; rintro e w27 ⟨v27, rfl, m27⟩; obtain ⟨P27, p27, rfl, g27, o27, x27⟩ := made_shape m27)
                      have hz26 := hB26.size
                      refine ⟨?rel, ?measure⟩
                      case rel =>
                        refine ⟨_, O1, o, DR, P27, p27, Ad.map (fun x => x.add DZ.length), cd - DZ.length, k + DZ.length, pre ++ [⟨{ q with off := f, opt := Oc, mf := true, dat := DZ }, P17, p17, P22, p22⟩], false, rfl, ?dsl, rfl, rfl, hB26.trans (x27.mono hz26), (x27.block g (heap_lt row26)).trans row26, (by rw [List.length_append]; exact own_below hor26 x27), (fun x hx => (hax26 x hx).below x27), own_base o27 (by have := heap_lt row26; omega), own_below hO26 x27, own_below hD26 x27, ?_, ?_, ?_, ?_, ?_, ?_⟩
                        case dsl => rw [HDRl.out]
                        · have := HDRl.out; omega
                        · exact Lib.hid (by rw [HDR.out, HDc.out, List.drop_drop])
                        · exact Lib.hid (by have := Hcd.out; omega)
                        · have := HDRl.out; omega
                        · intro h0
                          obtain ⟨g', e1, e2⟩ := hAdp hN0
                          exact ⟨g', e1, by rw [e2]; simp [add_off]⟩
                        · refine .inl ⟨Lib.hid ?_, Lib.hid ?_, by have := HDRl.out; omega⟩
                          · rw [HLL.out, HRS.out, HP1.out, HR1.out, List.map_append, List.append_assoc]; rfl
                          · rw [← HR1.out]; exact HCC.out.rest HSS.out hco
                      case measure => show Dc.length - DZ.length < Dc.length; omega
                    | false =>
                      go_upto_region 22 with fail
                      have row21 : (V20.setCell ⟨b, 8, none⟩ (.bool true)).heap[b]? = some (.cells (v4a { q with off := f, opt := Oc, mf := true } P17 p17 P5 p5) 24 (0, 0)) := heap_setCell_same V20 b 8 _ _ (.bool true) row20
                      have o21 := own_setCellB (i := 8) (u := .bool true) o20 row20 hTu
                      have hZ21 := hZ20.setCell (p := ⟨b, 8, none⟩) hbw (.bool true)
                      have hbz21 := heap_lt row21
                      clear row20 o20 hZ20 k8 f8
                      generalize V20.setCell ⟨b, 8, none⟩ (.bool true) = V21 at *
                      have hAD21 := (hAD.below hZ21).more hZ21.size
                      go_upto_region 23 with (at_builtin; refine append_rd rfl _ _ rfl V21.heap.size (.slice none 0 0) 0 [] rfl (World.ownsRow_nil _ _ _ _) V21.heap.size Ad cd DZ rfl hAD21.none_ hAD21.rd (by omega) (Nat.le_refl _) ?_; intro v22 w22 own22 grow22; obtain ⟨P22, p22, rfl, o22⟩ := own_made (bs := DZ) own22 (Nat.zero_add _) (List.nil_append _); have y22 := (Below.refl V21.heap.size V21).grown grow22 (Nat.le_refl _) (fun k hk => by cases hk); have row22 := (y22.block b hbz21).trans row21; have k10 := (at4_of row22).dat; have f10 := heap_frozen row22 10)
                      have row23 : (w22.setCell ⟨b, 10, none⟩ (.slice P22 DZ.length p22)).heap[b]? = some (.cells (v4a { q with off := f, opt := Oc, mf := true, dat := DZ } P17 p17 P22 p22) 24 (0, 0)) := heap_setCell_same w22 b 10 _ _ (.slice P22 DZ.length p22) row22
                      have hx23 : Own4 (w22.setCell ⟨b, 10, none⟩ (.slice P22 DZ.length p22)) (g + 1) ⟨{ q with off := f, opt := Oc, mf := true, dat := DZ }, P17, p17, P22, p22⟩ := ⟨own_setCellB (own_below o21 y22) row22 hTu, own_setCellB (own_base o22 (by have := hZ21.size; omega)) row22 hTu⟩
                      have hZ23 := (hZ21.trans (y22.mono hZ21.size)).setCell (p := ⟨b, 10, none⟩) hbw (.slice P22 DZ.length p22)
                      clear row22 row21 o21 o22 own22 grow22 y22 hZ21 k10 f10 hAD21
                      generalize w22.setCell ⟨b, 10, none⟩ (.slice P22 DZ.length p22) = V23 at *
                      have hat23 := at4_of row23
                      have hor23 := own_below hor hZ23
                      have hax23 : ∀ x ∈ pre, Own4 V23 (g + 1) x := fun x hx => (hax x hx).below hZ23
                      have hO23 := own_below ownO hZ23
                      have hD23 := own_below ownD hZ23
                      have hrp23 := (hZ23.block g hgw).trans hrowp
                      have hgz := hZ23.size
                      obtain ⟨i0, hi, hz0, hz1, hz2'⟩ := info_parts info_v4
                      go_upto_region 24 with (first
                        | ((with_reducible show wpList _ _ _ (Oper.mk _ (Op.load 24 _) _ _ _ _ :: _) _ _); refine wpList_val rfl (run_load_v4 rfl rfl hat23 rfl) ?_)
                        | ((with_reducible show wpList _ _ _ (Oper.mk _ (Op.buildSlice _ _ _) _ _ _ _ :: _) _ _); refine wpList_growU rfl (run_bs4 (cs := v4a { q with off := f, opt := Oc, mf := true, dat := DZ } P17 p17 P22 p22) rfl rfl rfl) ?_)
                        | (at_builtin; refine wpList_append_own _ rfl _ _ 26 rfl (g + 1) 24 i0 (v4v p4z none 0 none 0) 11 112 Try.underlying26 hi hz0 hz1 hz2' rfl (by decide) _ pre.length (pre.flatMap cl4) rfl (hor23.alloc _) ⟨V23.heap.size, 0, none⟩ 1 1 (cl4 ⟨{ q with off := f, opt := Oc, mf := true, dat := DZ }, P17, p17, P22, p22⟩) rfl rfl (cells_new4 V23 _) (cl4_one _) (by unfold maxLen; omega) (by omega) (by simp; omega) ?_; intro v24 w24 hown24 hgrow24 hnil24))
                      have hTn : 24 ≠ 5 := hTu
                      have y23 : Below V23.heap.size V23 (V23.alloc (.cells (v4a { q with off := f, opt := Oc, mf := true, dat := DZ } P17 p17 P22 p22) 24)) := (Below.refl _ _).alloc (Nat.le_refl _) _
                      have hO24 := own_keepT (own_below hO23 y23) (hor23.alloc _) hgrow24 hTn
                      have hD24 := own_keepT (own_below hD23 y23) (hor23.alloc _) hgrow24 hTn
                      have hax24 : ∀ x ∈ pre ++ [⟨{ q with off := f, opt := Oc, mf := true, dat := DZ }, P17, p17, P22, p22⟩], Own4 w24 (g + 1) x := fun x hx => by
                        rcases List.mem_append.1 hx with hx | hx
                        · exact ⟨own_keepT (own_below (hax23 x hx).1 y23) (hor23.alloc _) hgrow24 hTn, own_keepT (own_below (hax23 x hx).2 y23) (hor23.alloc _) hgrow24 hTn⟩
                        · rw [List.mem_singleton.1 hx]; exact ⟨own_keepT (own_below hx23.1 y23) (hor23.alloc _) hgrow24 hTn, own_keepT (own_below hx23.2 y23) (hor23.alloc _) hgrow24 hTn⟩
                      have hrp24 : w24.heap[g]? = some (.cells (v4a { q with off := f } P2 p2 P5 p5) 24 (0, 0)) := (hgrow24.block g (by simp; omega) (fun e => by have := own_block_ge hor g e.symm; omega)).trans ((y23.block g (by omega)).trans hrp23)
                      have hB24 : Below w.heap.size w w24 := ((hbel.trans (hZ23.mono hbel.size)).trans (y23.mono (by have := hbel.size; omega))).grown hgrow24 (by have := hbel.size; simp; omega) (fun k hk => by have := own_block_ge hor k hk; have := HG.out; omega)
                      have hrow24 : w24.ownsRow (g + 1) 24 11 v24 (pre.length + 1) ((pre ++ [(⟨{ q with off := f, opt := Oc, mf := true, dat := DZ }, P17, p17, P22, p22⟩ : X4)]).flatMap cl4) := by
                        rw [List.flatMap_append, List.flatMap_cons, List.flatMap_nil, List.append_nil]; exact hown24
                      clear hown24 hgrow24 hnil24 y23 hor23 hax23 hO23 hD23 hrp23 hx23 row23 hat23
                      obtain ⟨A24, c24, rfl⟩ := own_slice hrow24
                      have k2 := (at4_of hrp24).off
                      have f2 := heap_frozen hrp24 2
                      go_upto_region 26 with fail
                      have row26 : (w24.setCell ⟨g, 2, none⟩ (.int .i64 O1)).heap[g]? = some (.cells (v4a { q with off := O1 } P2 p2 P5 p5) 24 (0, 0)) := heap_setCell_same w24 g 2 _ _ (.int .i64 O1) hrp24
                      have hO26 := own_setCellB (i := 2) (u := .int .i64 O1) hO24 hrp24 hTu
                      have hD26 := own_setCellB (i := 2) (u := .int .i64 O1) hD24 hrp24 hTu
                      have hB26 := hB24.setCell (p := ⟨g, 2, none⟩) (by have := HG.out; show w.heap.size ≤ g; omega) (.int .i64 O1)
                      have hax26 : ∀ x ∈ pre ++ [⟨{ q with off := f, opt := Oc, mf := true, dat := DZ }, P17, p17, P22, p22⟩], Own4 (w24.setCell ⟨g, 2, none⟩ (.int .i64 O1)) (g + 1) x := fun x hx => ⟨own_setCellB (hax24 x hx).1 hrp24 hTu, own_setCellB (hax24 x hx).2 hrp24 hTu⟩
                      have hor26 := own_setCell hrow24 (p := ⟨g, 2, none⟩) (u := .int .i64 O1) (Nat.lt_succ_self g)
                      clear hrow24 hax24 hO24 hD24 hrp24 k2 f2
                      generalize w24.setCell ⟨g, 2, none⟩ (.int .i64 O1) = V26 at *
                      have kp9 := (at4_of row26).opt
                      have hcp := r13copied P2 q.opt p2 V26.heap.size V26 (arg_own hO26) (Nat.le_refl _) hol
                      rw [← HOO.out] at hcp
                      go_wp2_with (go_at_call 14; refine hcp.mono ?_; rintro e w27 ⟨v27, rfl, m27⟩; obtain ⟨P27, p27, rfl, g27, o27, x27⟩ := made_shape m27)
                      have hz26 := hB26.size
                      refine ⟨?rel, ?measure⟩
                      case rel =>
                        refine ⟨_, O1, o, DR, P27, p27, Ad.map (fun x => x.add DZ.length), cd - DZ.length, k + DZ.length, pre ++ [⟨{ q with off := f, opt := Oc, mf := true, dat := DZ }, P17, p17, P22, p22⟩], false, rfl, ?dsl, rfl, rfl, hB26.trans (x27.mono hz26), (x27.block g (heap_lt row26)).trans row26, (by rw [List.length_append]; exact own_below hor26 x27), (fun x hx => (hax26 x hx).below x27), own_base o27 (by have := heap_lt row26; omega), own_below hO26 x27, own_below hD26 x27, ?_, ?_, ?_, ?_, ?_, ?_⟩
                        case dsl => rw [HDRl.out]
                        · have := HDRl.out; omega
                        · exact Lib.hid (by rw [HDR.out, HDc.out, List.drop_drop])
                        · exact Lib.hid (by have := Hcd.out; omega)
                        · have := HDRl.out; omega
                        · intro h0
                          obtain ⟨g', e1, e2⟩ := hAdp hN0
                          exact ⟨g', e1, by rw [e2]; simp [add_off]⟩
                        · refine .inl ⟨Lib.hid ?_, Lib.hid ?_, by have := HDRl.out; omega⟩
                          · rw [HLL.out, HRS.out, HP1.out, HR1.out, List.map_append, List.append_assoc]; rfl
                          · rw [← HR1.out]; exact HCC.out.rest HSS.out hco
                      case measure => show Dc.length - DZ.length < Dc.length; omega
                  · have HSS := Lib.hid hs
                    have hsz : size4 { q with off := f, opt := Oc, dat := Dc } = H + (Dc.length : Int) := by rw [← HH.out]; rfl
                    obtain ⟨DR, hDR⟩ : ∃ DR, DR = Dc.drop Dc.length := ⟨_, rfl⟩
                    have HDR := Lib.hid hDR
                    have HDRl : Hid (DR.length = Dc.length - Dc.length) := Lib.hid (by rw [hDR, List.length_drop])
                    obtain ⟨O1, hO1⟩ : ∃ O1, O1 = f + (Dc.length : Int) := ⟨_, rfl⟩
                    have hfb : 0 ≤ f ∧ f + (Dc.length : Int) ≤ 65535 := by obtain ⟨b1, _, b3, _⟩ := HCC.out.off; exact ⟨b1, b3⟩
                    have e11 : wrap64 (f + (Dc.length : Int)) = O1 := by rw [hO1]; unfold wrap64; omega
                    have e12 : f + (Dc.length : Int) = O1 := hO1.symm
                    have HRS := Lib.hid (show rst4 mtu o q.mf { q with off := f, opt := Oc, dat := Dc } = [{ q with off := f, opt := Oc, dat := Dc }] from rst4_last hs)
                    have hAD := hArgD
                    have hnl : ¬ cd < Dc.length := by omega
                    have hlt1 : decide (Dc.length < Dc.length) = false := by simp
                    have hlt2 : decide ((Dc.length : Int) < (Dc.length : Int)) = false := by simp
                    clear hDR hO1
                    have hsm : H + (Dc.length : Int) ≤ mtu := by omega
                    clear hs hsz
                    have n1 : decide (H + (Dc.length : Int) > mtu) = false := by simp; omega
                    have n2 : decide (mtu < H + (Dc.length : Int)) = false := by simp; omega
                    go_upto_region 21 with (first
                      | ((with_reducible show wpList _ _ _ (Oper.mk _ (Op.load 24 _) _ _ _ _ :: _) _ _); refine wpList_val rfl (run_load_v4 rfl rfl (at4_of row18) rfl) ?_)
                      | (go_at_call 32; refine (r5head { q with off := f, opt := Oc } P17 p17 P5 p5 V18 (by show Oc.length ≤ 1000000; omega)).mono ?_; rintro e V20 ⟨rfl, x19⟩; rw [HH.out]))
                    have row20 := (x19.block b hbz18).trans row18
                    have o20 := own_below o18 x19
                    have hZ20 := hZ18.trans (x19.mono hZ18.size)
                    clear row18 o18 hZ18 x19
                    have k8 := (at4_of row20).mf
                    have f8 := heap_frozen row20 8
                    cases M with
                    | true =>
                      go_upto_region 22 with fail
                      have HX : Hid (({ q with off := f, opt := Oc, dat := Dc } : P4) = { q with off := f, opt := Oc, mf := true, dat := Dc }) := Lib.hid (by have e := HMM.out; rw [e])
                      have row21 : (V20.setCell ⟨b, 8, none⟩ (.bool true)).heap[b]? = some (.cells (v4a { q with off := f, opt := Oc, mf := true } P17 p17 P5 p5) 24 (0, 0)) := heap_setCell_same V20 b 8 _ _ (.bool true) row20
                      have o21 := own_setCellB (i := 8) (u := .bool true) o20 row20 hTu
                      have hZ21 := hZ20.setCell (p := ⟨b, 8, none⟩) hbw (.bool true)
                      have hbz21 := heap_lt row21
                      clear row20 o20 hZ20 k8 f8
                      generalize V20.setCell ⟨b, 8, none⟩ (.bool true) = V21 at *
                      have hAD21 := (hAD.below hZ21).more hZ21.size
                      go_upto_region 23 with (at_builtin; refine append_rd rfl _ _ rfl V21.heap.size (.slice none 0 0) 0 [] rfl (World.ownsRow_nil _ _ _ _) V21.heap.size Ad cd Dc rfl hAD21.none_ hAD21.rd (by omega) (Nat.le_refl _) ?_; intro v22 w22 own22 grow22; obtain ⟨P22, p22, rfl, o22⟩ := own_made (bs := Dc) own22 (Nat.zero_add _) (List.nil_append _); have y22 := (Below.refl V21.heap.size V21).grown grow22 (Nat.le_refl _) (fun k hk => by cases hk); have row22 := (y22.block b hbz21).trans row21; have k10 := (at4_of row22).dat; have f10 := heap_frozen row22 10)
                      have row23 : (w22.setCell ⟨b, 10, none⟩ (.slice P22 Dc.length p22)).heap[b]? = some (.cells (v4a { q with off := f, opt := Oc, mf := true, dat := Dc } P17 p17 P22 p22) 24 (0, 0)) := heap_setCell_same w22 b 10 _ _ (.slice P22 Dc.length p22) row22
                      have hx23 : Own4 (w22.setCell ⟨b, 10, none⟩ (.slice P22 Dc.length p22)) (g + 1) ⟨{ q with off := f, opt := Oc, mf := true, dat := Dc }, P17, p17, P22, p22⟩ := ⟨own_setCellB (own_below o21 y22) row22 hTu, own_setCellB (own_base o22 (by have := hZ21.size; omega)) row22 hTu⟩
                      have hZ23 := (hZ21.trans (y22.mono hZ21.size)).setCell (p := ⟨b, 10, none⟩) hbw (.slice P22 Dc.length p22)
                      clear row22 row21 o21 o22 own22 grow22 y22 hZ21 k10 f10 hAD21
                      generalize w22.setCell ⟨b, 10, none⟩ (.slice P22 Dc.length p22) = V23 at *
                      have hat23 := at4_of row23
                      have hor23 := own_below hor hZ23
                      have hax23 : ∀ x ∈ pre, Own4 V23 (g + 1) x := fun x hx => (hax x hx).below hZ23
                      have hO23 := own_below ownO hZ23
                      have hD23 := own_below ownD hZ23
                      have hrp23 := (hZ23.block g hgw).trans hrowp
                      have hgz := hZ23.size
                      obtain ⟨i0, hi, hz0, hz1, hz2'⟩ := info_parts info_v4
                      go_upto_region 24 with (first
                        | ((with_reducible show wpList _ _ _ (Oper.mk _ (Op.load 24 _) _ _ _ _ :: _) _ _); refine wpList_val rfl (run_load_v4 rfl rfl hat23 rfl) ?_)
                        | ((with_reducible show wpList _ _ _ (Oper.mk _ (Op.buildSlice _ _ _) _ _ _ _ :: _) _ _); refine wpList_growU rfl (run_bs4 (cs := v4a { q with off := f, opt := Oc, mf := true, dat := Dc } P17 p17 P22 p22) rfl rfl rfl) ?_)
                        | (at_builtin; refine wpList_append_own _ rfl _ _ 26 rfl (g + 1) 24 i0 (v4v p4z none 0 none 0) 11 112 Try.underlying26 hi hz0 hz1 hz2' rfl (by decide) _ pre.length (pre.flatMap cl4) rfl (hor23.alloc _) ⟨V23.heap.size, 0, none⟩ 1 1 (cl4 ⟨{ q with off := f, opt := Oc, mf := true, dat := Dc }, P17, p17, P22, p22⟩) rfl rfl (cells_new4 V23 _) (cl4_one _) (by unfold maxLen; omega) (by omega) (by simp; omega) ?_; intro v24 w24 hown24 hgrow24 hnil24))
                      have hTn : 24 ≠ 5 := hTu
                      have y23 : Below V23.heap.size V23 (V23.alloc (.cells (v4a { q with off := f, opt := Oc, mf := true, dat := Dc } P17 p17 P22 p22) 24)) := (Below.refl _ _).alloc (Nat.le_refl _) _
                      have hO24 := own_keepT (own_below hO23 y23) (hor23.alloc _) hgrow24 hTn
                      have hD24 := own_keepT (own_below hD23 y23) (hor23.alloc _) hgrow24 hTn
                      have hax24 : ∀ x ∈ pre ++ [⟨{ q with off := f, opt := Oc, mf := true, dat := Dc }, P17, p17, P22, p22⟩], Own4 w24 (g + 1) x := fun x hx => by
                        rcases List.mem_append.1 hx with hx | hx
                        · exact ⟨own_keepT (own_below (hax23 x hx).1 y23) (hor23.alloc _) hgrow24 hTn, own_keepT (own_below (hax23 x hx).2 y23) (hor23.alloc _) hgrow24 hTn⟩
                        · rw [List.mem_singleton.1 hx]; exact ⟨own_keepT (own_below hx23.1 y23) (hor23.alloc _) hgrow24 hTn, own_keepT (own_below hx23.2 y23) (hor23.alloc _) hgrow24 hTn⟩
                      have hrp24 : w24.heap[g]? = some (.cells (v4a { q with off := f } P2 p2 P5 p5) 24 (0, 0)) := (hgrow24.block g (by simp; omega) (fun e => by have := own_block_ge hor g e.symm; omega)).trans ((y23.block g (by omega)).trans hrp23)
                      have hB24 : Below w.heap.size w w24 := ((hbel.trans (hZ23.mono hbel.size)).trans (y23.mono (by have := hbel.size; omega))).grown hgrow24 (by have := hbel.size; simp; omega) (fun k hk => by have := own_block_ge hor k hk; have := HG.out; omega)
                      have hrow24 : w24.ownsRow (g + 1) 24 11 v24 (pre.length + 1) ((pre ++ [(⟨{ q with off := f, opt := Oc, mf := true, dat := Dc }, P17, p17, P22, p22⟩ : X4)]).flatMap cl4) := by
                        rw [List.flatMap_append, List.flatMap_cons, List.flatMap_nil, List.append_nil]; exact hown24
                      clear hown24 hgrow24 hnil24 y23 hor23 hax23 hO23 hD23 hrp23 hx23 row23 hat23
                      obtain ⟨A24, c24, rfl⟩ := own_slice hrow24
                      have k2 := (at4_of hrp24).off
                      have f2 := heap_frozen hrp24 2
                      by_cases hce : cd = Dc.length
                      · subst hce
                        go_upto_region 26 with fail
                        have row26 : (w24.setCell ⟨g, 2, none⟩ (.int .i64 O1)).heap[g]? = some (.cells (v4a { q with off := O1 } P2 p2 P5 p5) 24 (0, 0)) := heap_setCell_same w24 g 2 _ _ (.int .i64 O1) hrp24
                        have hO26 := own_setCellB (i := 2) (u := .int .i64 O1) hO24 hrp24 hTu
                        have hD26 := own_setCellB (i := 2) (u := .int .i64 O1) hD24 hrp24 hTu
                        have hB26 := hB24.setCell (p := ⟨g, 2, none⟩) (by have := HG.out; show w.heap.size ≤ g; omega) (.int .i64 O1)
                        have hax26 : ∀ x ∈ pre ++ [⟨{ q with off := f, opt := Oc, mf := true, dat := Dc }, P17, p17, P22, p22⟩], Own4 (w24.setCell ⟨g, 2, none⟩ (.int .i64 O1)) (g + 1) x := fun x hx => ⟨own_setCellB (hax24 x hx).1 hrp24 hTu, own_setCellB (hax24 x hx).2 hrp24 hTu⟩
                        have hor26 := own_setCell hrow24 (p := ⟨g, 2, none⟩) (u := .int .i64 O1) (Nat.lt_succ_self g)
                        clear hrow24 hax24 hO24 hD24 hrp24 k2 f2
                        generalize w24.setCell ⟨g, 2, none⟩ (.int .i64 O1) = V26 at *
                        have kp9 := (at4_of row26).opt
                        have hcp := r13copied P2 q.opt p2 V26.heap.size V26 (arg_own hO26) (Nat.le_refl _) hol
                        rw [← HOO.out] at hcp
                        go_wp2_with (go_at_call 14; refine hcp.mono ?_; rintro e w27 ⟨v27, rfl, m27⟩; obtain ⟨P27, p27, rfl, g27, o27, x27⟩ := made_shape m27)
                        have hz26 := hB26.size
                        refine ⟨?rel, ?measure⟩
                        case rel =>
                          refine ⟨_, O1, o, DR, P27, p27, Ad, 0, k + Dc.length, pre ++ [⟨{ q with off := f, opt := Oc, mf := true, dat := Dc }, P17, p17, P22, p22⟩], false, rfl, ?dsl, rfl, rfl, hB26.trans (x27.mono hz26), (x27.block g (heap_lt row26)).trans row26, (by rw [List.length_append]; exact own_below hor26 x27), (fun x hx => (hax26 x hx).below x27), own_base o27 (by have := heap_lt row26; omega), own_below hO26 x27, own_below hD26 x27, ?_, ?_, ?_, ?_, ?_, ?_⟩
                          case dsl => rw [HDRl.out, Nat.sub_self]
                          · have := HDRl.out; omega
                          · exact Lib.hid (by rw [HDR.out, HDc.out, List.drop_drop])
                          · exact Lib.hid (by have := Hcd.out; omega)
                          · have := HDRl.out; omega
                          · intro h0; have := HDRl.out; omega
                          · refine .inr ⟨Lib.hid ?_, by have := HDRl.out; omega, rfl⟩
                            rw [HLL.out, HRS.out, HX.out, List.map_append]; rfl
                        case measure => show 0 < Dc.length; exact hN0
                      · have hne : ¬ cd = Dc.length := hce
                        go_upto_region 26 with fail
                        have row26 : (w24.setCell ⟨g, 2, none⟩ (.int .i64 O1)).heap[g]? = some (.cells (v4a { q with off := O1 } P2 p2 P5 p5) 24 (0, 0)) := heap_setCell_same w24 g 2 _ _ (.int .i64 O1) hrp24
                        have hO26 := own_setCellB (i := 2) (u := .int .i64 O1) hO24 hrp24 hTu
                        have hD26 := own_setCellB (i := 2) (u := .int .i64 O1) hD24 hrp24 hTu
                        have hB26 := hB24.setCell (p := ⟨g, 2, none⟩) (by have := HG.out; show w.heap.size ≤ g; omega) (.int .i64 O1)
                        have hax26 : ∀ x ∈ pre ++ [⟨{ q with off := f, opt := Oc, mf := true, dat := Dc }, P17, p17, P22, p22⟩], Own4 (w24.setCell ⟨g, 2, none⟩ (.int .i64 O1)) (g + 1) x := fun x hx => ⟨own_setCellB (hax24 x hx).1 hrp24 hTu, own_setCellB (hax24 x hx).2 hrp24 hTu⟩
                        have hor26 := own_setCell hrow24 (p := ⟨g, 2, none⟩) (u := .int .i64 O1) (Nat.lt_succ_self g)
                        clear hrow24 hax24 hO24 hD24 hrp24 k2 f2
                        generalize w24.setCell ⟨g, 2, none⟩ (.int .i64 O1) = V26 at *
                        have kp9 := (at4_of row26).opt
                        have hcp := r13copied P2 q.opt p2 V26.heap.size V26 (arg_own hO26) (Nat.le_refl _) hol
                        rw [← HOO.out] at hcp
                        go_wp2_with (go_at_call 14; refine hcp.mono ?_; rintro e w27 ⟨v27, rfl, m27⟩; obtain ⟨P27, p27, rfl, g27, o27, x27⟩ := made_shape m27)
                        have hz26 := hB26.size
                        refine ⟨?rel, ?measure⟩
                        case rel =>
                          refine ⟨_, O1, o, DR, P27, p27, Ad.map (fun x => x.add Dc.length), cd - Dc.length, k + Dc.length, pre ++ [⟨{ q with off := f, opt := Oc, mf := true, dat := Dc }, P17, p17, P22, p22⟩], false, rfl, ?dsl, rfl, rfl, hB26.trans (x27.mono hz26), (x27.block g (heap_lt row26)).trans row26, (by rw [List.length_append]; exact own_below hor26 x27), (fun x hx => (hax26 x hx).below x27), own_base o27 (by have := heap_lt row26; omega), own_below hO26 x27, own_below hD26 x27, ?_, ?_, ?_, ?_, ?_, ?_⟩
                          case dsl => rw [HDRl.out, Nat.sub_self]
                          · have := HDRl.out; omega
                          · exact Lib.hid (by rw [HDR.out, HDc.out, List.drop_drop])
                          · exact Lib.hid (by have := Hcd.out; omega)
                          · have := HDRl.out; omega
                          · intro h0; have := HDRl.out; omega
                          · refine .inr ⟨Lib.hid ?_, by have := HDRl.out; omega, rfl⟩
                            rw [HLL.out, HRS.out, HX.out, List.map_append]; rfl
                        case measure => show 0 < Dc.length; exact hN0
                    | false =>
                      go_upto_region 22 with fail
                      have HX : Hid (({ q with off := f, opt := Oc, dat := Dc } : P4) = { q with off := f, opt := Oc, mf := false, dat := Dc }) := Lib.hid (by have e := HMM.out; rw [e])
                      have row21 : (V20.setCell ⟨b, 8, none⟩ (.bool false)).heap[b]? = some (.cells (v4a { q with off := f, opt := Oc, mf := false } P17 p17 P5 p5) 24 (0, 0)) := heap_setCell_same V20 b 8 _ _ (.bool false) row20
                      have o21 := own_setCellB (i := 8) (u := .bool false) o20 row20 hTu
                      have hZ21 := hZ20.setCell (p := ⟨b, 8, none⟩) hbw (.bool false)
                      have hbz21 := heap_lt row21
                      clear row20 o20 hZ20 k8 f8
                      generalize V20.setCell ⟨b, 8, none⟩ (.bool false) = V21 at *
                      have hAD21 := (hAD.below hZ21).more hZ21.size
                      go_upto_region 23 with (at_builtin; refine append_rd rfl _ _ rfl V21.heap.size (.slice none 0 0) 0 [] rfl (World.ownsRow_nil _ _ _ _) V21.heap.size Ad cd Dc rfl hAD21.none_ hAD21.rd (by omega) (Nat.le_refl _) ?_; intro v22 w22 own22 grow22; obtain ⟨P22, p22, rfl, o22⟩ := own_made (bs := Dc) own22 (Nat.zero_add _) (List.nil_append _); have y22 := (Below.refl V21.heap.size V21).grown grow22 (Nat.le_refl _) (fun k hk => by cases hk); have row22 := (y22.block b hbz21).trans row21; have k10 := (at4_of row22).dat; have f10 := heap_frozen row22 10)
                      have row23 : (w22.setCell ⟨b, 10, none⟩ (.slice P22 Dc.length p22)).heap[b]? = some (.cells (v4a { q with off := f, opt := Oc, mf := false, dat := Dc } P17 p17 P22 p22) 24 (0, 0)) := heap_setCell_same w22 b 10 _ _ (.slice P22 Dc.length p22) row22
                      have hx23 : Own4 (w22.setCell ⟨b, 10, none⟩ (.slice P22 Dc.length p22)) (g + 1) ⟨{ q with off := f, opt := Oc, mf := false, dat := Dc }, P17, p17, P22, p22⟩ := ⟨own_setCellB (own_below o21 y22) row22 hTu, own_setCellB (own_base o22 (by have := hZ21.size; omega)) row22 hTu⟩
                      have hZ23 := (hZ21.trans (y22.mono hZ21.size)).setCell (p := ⟨b, 10, none⟩) hbw (.slice P22 Dc.length p22)
                      clear row22 row21 o21 o22 own22 grow22 y22 hZ21 k10 f10 hAD21
                      generalize w22.setCell ⟨b, 10, none⟩ (.slice P22 Dc.length p22) = V23 at *
                      have hat23 := at4_of row23
                      have hor23 := own_below hor hZ23
                      have hax23 : ∀ x ∈ pre, Own4 V23 (g + 1) x := fun x hx => (hax x hx).below hZ23
                      have hO23 := own_below ownO hZ23
                      have hD23 := own_below ownD hZ23
                      have hrp23 := (hZ23.block g hgw).trans hrowp
                      have hgz := hZ23.size
                      obtain ⟨i0, hi, hz0, hz1, hz2'⟩ := info_parts info_v4
                      go_upto_region 24 with (first
                        | ((with_reducible show wpList _ _ _ (Oper.mk _ (Op.load 24 _) _ _ _ _ :: _) _ _); refine wpList_val rfl (run_load_v4 rfl rfl hat23 rfl) ?_)
                        | ((with_reducible show wpList _ _ _ (Oper.mk _ (Op.buildSlice _ _ _) _ _ _ _ :: _) _ _); refine wpList_growU rfl (run_bs4 (cs := v4a { q with off := f, opt := Oc, mf := false, dat := Dc } P17 p17 P22 p22) rfl rfl rfl) ?_)
                        | (at_builtin; refine wpList_append_own _ rfl _ _ 26 rfl (g + 1) 24 i0 (v4v p4z none 0 none 0) 11 112 Try.underlying26 hi hz0 hz1 hz2' rfl (by decide) _ pre.length (pre.flatMap cl4) rfl (hor23.alloc _) ⟨V23.heap.size, 0, none⟩ 1 1 (cl4 ⟨{ q with off := f, opt := Oc, mf := false, dat := Dc }, P17, p17, P22, p22⟩) rfl rfl (cells_new4 V23 _) (cl4_one _) (by unfold maxLen; omega) (by omega) (by simp; omega) ?_; intro v24 w24 hown24 hgrow24 hnil24))
                      have hTn : 24 ≠ 5 := hTu
                      have y23 : Below V23.heap.size V23 (V23.alloc (.cells (v4a { q with off := f, opt := Oc, mf := false, dat := Dc } P17 p17 P22 p22) 24)) := (Below.refl _ _).alloc (Nat.le_refl _) _
                      have hO24 := own_keepT (own_below hO23 y23) (hor23.alloc _) hgrow24 hTn
                      have hD24 := own_keepT (own_below hD23 y23) (hor23.alloc _) hgrow24 hTn
                      have hax24 : ∀ x ∈ pre ++ [⟨{ q with off := f, opt := Oc, mf := false, dat := Dc }, P17, p17, P22, p22⟩], Own4 w24 (g + 1) x := fun x hx => by
                        rcases List.mem_append.1 hx with hx | hx
                        · exact ⟨own_keepT (own_below (hax23 x hx).1 y23) (hor23.alloc _) hgrow24 hTn, own_keepT (own_below (hax23 x hx).2 y23) (hor23.alloc _) hgrow24 hTn⟩
                        · rw [List.mem_singleton.1 hx]; exact ⟨own_keepT (own_below hx23.1 y23) (hor23.alloc _) hgrow24 hTn, own_keepT (own_below hx23.2 y23) (hor23.alloc _) hgrow24 hTn⟩
                      have hrp24 : w24.heap[g]? = some (.cells (v4a { q with off := f } P2 p2 P5 p5) 24 (0, 0)) := (hgrow24.block g (by simp; omega) (fun e => by have := own_block_ge hor g e.symm; omega)).trans ((y23.block g (by omega)).trans hrp23)
                      have hB24 : Below w.heap.size w w24 := ((hbel.trans (hZ23.mono hbel.size)).trans (y23.mono (by have := hbel.size; omega))).grown hgrow24 (by have := hbel.size; simp; omega) (fun k hk => by have := own_block_ge hor k hk; have := HG.out; omega)
                      have hrow24 : w24.ownsRow (g + 1) 24 11 v24 (pre.length + 1) ((pre ++ [(⟨{ q with off := f, opt := Oc, mf := false, dat := Dc }, P17, p17, P22, p22⟩ : X4)]).flatMap cl4) := by
                        rw [List.flatMap_append, List.flatMap_cons, List.flatMap_nil, List.append_nil]; exact hown24
                      clear hown24 hgrow24 hnil24 y23 hor23 hax23 hO23 hD23 hrp23 hx23 row23 hat23
                      obtain ⟨A24, c24, rfl⟩ := own_slice hrow24
                      have k2 := (at4_of hrp24).off
                      have f2 := heap_frozen hrp24 2
                      by_cases hce : cd = Dc.length
                      · subst hce
                        go_upto_region 26 with fail
                        have row26 : (w24.setCell ⟨g, 2, none⟩ (.int .i64 O1)).heap[g]? = some (.cells (v4a { q with off := O1 } P2 p2 P5 p5) 24 (0, 0)) := heap_setCell_same w24 g 2 _ _ (.int .i64 O1) hrp24
                        have hO26 := own_setCellB (i := 2) (u := .int .i64 O1) hO24 hrp24 hTu
                        have hD26 := own_setCellB (i := 2) (u := .int .i64 O1) hD24 hrp24 hTu
                        have hB26 := hB24.setCell (p := ⟨g, 2, none⟩) (by have := HG.out; show w.heap.size ≤ g; omega) (.int .i64 O1)
                        have hax26 : ∀ x ∈ pre ++ [⟨{ q with off := f, opt := Oc, mf := false, dat := Dc }, P17, p17, P22, p22⟩], Own4 (w24.setCell ⟨g, 2, none⟩ (.int .i64 O1)) (g + 1) x := fun x hx => ⟨own_setCellB (hax24 x hx).1 hrp24 hTu, own_setCellB (hax24 x hx).2 hrp24 hTu⟩
                        have hor26 := own_setCell hrow24 (p := ⟨g, 2, none⟩) (u := .int .i64 O1) (Nat.lt_succ_self g)
                        clear hrow24 hax24 hO24 hD24 hrp24 k2 f2
                        generalize w24.setCell ⟨g, 2, none⟩ (.int .i64 O1) = V26 at *
                        have kp9 := (at4_of row26).opt
                        have hcp := r13copied P2 q.opt p2 V26.heap.size V26 (arg_own hO26) (Nat.le_refl _) hol
                        rw [← HOO.out] at hcp
                        go_wp2_with (go_at_call 14; refine hcp.mono ?_; rintro e w27 ⟨v27, rfl, m27⟩; obtain ⟨P27, p27, rfl, g27, o27, x27⟩ := made_shape m27)
                        have hz26 := hB26.size
                        refine ⟨?rel, ?measure⟩
                        case rel =>
                          refine ⟨_, O1, o, DR, P27, p27, Ad, 0, k + Dc.length, pre ++ [⟨{ q with off := f, opt := Oc, mf := false, dat := Dc }, P17, p17, P22, p22⟩], false, rfl, ?dsl, rfl, rfl, hB26.trans (x27.mono hz26), (x27.block g (heap_lt row26)).trans row26, (by rw [List.length_append]; exact own_below hor26 x27), (fun x hx => (hax26 x hx).below x27), own_base o27 (by have := heap_lt row26; omega), own_below hO26 x27, own_below hD26 x27, ?_, ?_, ?_, ?_, ?_, ?_⟩
                          case dsl => rw [HDRl.out, Nat.sub_self]
                          · have := HDRl.out; omega
                          · exact Lib.hid (by rw [HDR.out, HDc.out, List.drop_drop])
                          · exact Lib.hid (by have := Hcd.out; omega)
                          · have := HDRl.out; omega
                          · intro h0; have := HDRl.out; omega
                          · refine .inr ⟨Lib.hid ?_, by have := HDRl.out; omega, rfl⟩
                            rw [HLL.out, HRS.out, HX.out, List.map_append]; rfl
                        case measure => show 0 < Dc.length; exact hN0
                      · have hne : ¬ cd = Dc.length := hce
                        go_upto_region 26 with fail
                        have row26 : (w24.setCell ⟨g, 2, none⟩ (.int .i64 O1)).heap[g]? = some (.cells (v4a { q with off := O1 } P2 p2 P5 p5) 24 (0, 0)) := heap_setCell_same w24 g 2 _ _ (.int .i64 O1) hrp24
                        have hO26 := own_setCellB (i := 2) (u := .int .i64 O1) hO24 hrp24 hTu
                        have hD26 := own_setCellB (i := 2) (u := .int .i64 O1) hD24 hrp24 hTu
                        have hB26 := hB24.setCell (p := ⟨g, 2, none⟩) (by have := HG.out; show w.heap.size ≤ g; omega) (.int .i64 O1)
                        have hax26 : ∀ x ∈ pre ++ [⟨{ q with off := f, opt := Oc, mf := false, dat := Dc }, P17, p17, P22, p22⟩], Own4 (w24.setCell ⟨g, 2, none⟩ (.int .i64 O1)) (g + 1) x := fun x hx => ⟨own_setCellB (hax24 x hx).1 hrp24 hTu, own_setCellB (hax24 x hx).2 hrp24 hTu⟩
                        have hor26 := own_setCell hrow24 (p := ⟨g, 2, none⟩) (u := .int .i64 O1) (Nat.lt_succ_self g)
                        clear hrow24 hax24 hO24 hD24 hrp24 k2 f2
                        generalize w24.setCell ⟨g, 2, none⟩ (.int .i64 O1) = V26 at *
                        have kp9 := (at4_of row26).opt
                        have hcp := r13copied P2 q.opt p2 V26.heap.size V26 (arg_own hO26) (Nat.le_refl _) hol
                        rw [← HOO.out] at hcp
                        go_wp2_with (go_at_call 14; refine hcp.mono ?_; rintro e w27 ⟨v27, rfl, m27⟩; obtain ⟨P27, p27, rfl, g27, o27, x27⟩ := made_shape m27)
                        have hz26 := hB26.size
                        refine ⟨?rel, ?measure⟩
                        case rel =>
                          refine ⟨_, O1, o, DR, P27, p27, Ad.map (fun x => x.add Dc.length), cd - Dc.length, k + Dc.length, pre ++ [⟨{ q with off := f, opt := Oc, mf := false, dat := Dc }, P17, p17, P22, p22⟩], false, rfl, ?dsl, rfl, rfl, hB26.trans (x27.mono hz26), (x27.block g (heap_lt row26)).trans row26, (by rw [List.length_append]; exact own_below hor26 x27), (fun x hx => (hax26 x hx).below x27), own_base o27 (by have := heap_lt row26; omega), own_below hO26 x27, own_below hD26 x27, ?_, ?_, ?_, ?_, ?_, ?_⟩
                          case dsl => rw [HDRl.out, Nat.sub_self]
                          · have := HDRl.out; omega
                          · exact Lib.hid (by rw [HDR.out, HDc.out, List.drop_drop])
                          · exact Lib.hid (by have := Hcd.out; omega)
                          · have := HDRl.out; omega
                          · intro h0; have := HDRl.out; omega
                          · refine .inr ⟨Lib.hid ?_, by have := HDRl.out; omega, rfl⟩
                            rw [HLL.out, HRS.out, HX.out, List.map_append]; rfl
                        case measure => show 0 < Dc.length; exact hN0
              · have dN : decide (0 < Dc.length) = false := decide_eq_false (by omega)
                obtain ⟨A9, c9, rfl⟩ := own_slice hor
                go_wp2_with fail
                exact bodyPost_ret (results_tmp2 rfl _ _ _) rfl ⟨_, pre, by rw [HE0.out]; rfl, ⟨own_base hor (by have := HG.out; omega), fun x hx => (hax x hx).base_ (by have := HG.out; omega)⟩, by rw [HLC.out]; exact HLF.out.symm, hbel⟩
        · have s1 : decide (size4 q ≤ mtu) = true := by simpa using hs
          have HE0 := Lib.hid (show cutE q mtu = 0 by rw [cutE, if_neg HM.out, if_pos HK.out, if_neg (fun h => hs h.2)])
          have HL := Lib.hid (show cutL q mtu = [q] by rw [cutL, if_pos HE0.out, rst4_last hs])
          clear hs
          go_wp2_with (first
            | ((with_reducible show wpList _ _ _ (Oper.mk _ (Op.load 24 _) _ _ _ _ :: _) _ _); refine wpList_val rfl (run_load_v4 rfl rfl hAtV2 rfl) ?_)
            | ((with_reducible show wpList _ _ _ (Oper.mk _ (Op.load 24 _) _ _ _ _ :: _) _ _); refine wpList_val rfl (run_load_v4 rfl rfl (at4_of hrow9) rfl) ?_)
            | (go_at_call 31; refine (r5size q P2 p2 P5 p5 _ hol hdl).mono ?_; rintro e V2 ⟨rfl, x2⟩; have hAtV2 := (at4_of hrow9).below x2 hgV)
            | ((with_reducible show wpList _ _ _ (Oper.mk _ (Op.buildSlice _ _ _) _ _ _ _ :: _) _ _); refine wpList_growU rfl (run_bs4 (cs := v4a q P2 p2 P5 p5) rfl rfl rfl) ?_))
          have hBV2 := hBV.trans (x2.mono hBV.size)
          have hNew : Below V2.heap.size V2 (V2.alloc (.cells (v4a q P2 p2 P5 p5) 24)) := (Below.refl _ _).alloc (Nat.le_refl _) _
          have rowN := World.ownsRow_lit (base := w.heap.size) (e := 24) (size := 11) V2 (v4a q P2 p2 P5 p5) 1 hBV2.size (by decide) rfl
          exact bodyPost_ret (results_tmp2 rfl _ _ _) rfl ⟨_, [⟨q, P2, p2, P5, p5⟩], by rw [HE0.out]; rfl, ⟨rowN, fun x hx => by rw [List.mem_singleton.1 hx]; exact ⟨own_base (own_below (own_below ownO x2) hNew) (by have := HG.out; omega), own_base (own_below (own_below ownD x2) hNew) (by have := HG.out; omega)⟩⟩, by rw [HL.out]; rfl, hBV2.trans (hNew.mono hBV2.size)⟩
      · have HE := Lib.hid (show cutE q mtu = chk4 q by rw [cutE, if_neg HM.out, if_neg hk])
        have HN := Lib.hid hk
        have dk : (chk4 q != 0) = true := by simpa using hk
        clear h1 h2 hk
        go_wp2_with (first
          | ((with_reducible show wpList _ _ _ (Oper.mk _ (Op.load 24 _) _ _ _ _ :: _) _ _); refine wpList_val rfl (run_load_v4 rfl rfl hAt rfl) ?_)
          | (go_at_call 30; refine (r5check q A c A' c' _ hol hdl).mono ?_; rintro e w1 ⟨rfl, x1⟩))
        exact bodyPost_ret (results_tmp2 rfl _ _ _) rfl ⟨.slice none 0 0, [], by rw [HE.out]; rfl, Row4.nil _ _, by rw [cutL, if_neg (by rw [HE.out]; exact HN.out)]; rfl, (hB.trans (x1.mono hB.size))⟩

end Go.Proofs.Ytcebobcakiljhaa
