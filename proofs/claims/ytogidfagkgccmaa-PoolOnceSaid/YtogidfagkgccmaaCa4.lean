/-
  Contracts and lemmas on which the proofs of this seat stand (several texts in one). Conditions are each theorem's own.
-/
import Derived.Test.YtogidfagkgccmaaCa3

/-
  How many of a list are alike, by a mark (layer 20), at five types. Conditions are each theorem's own.
-/
namespace Go.Proofs.Ytogidfagkgccmaa
open Go.RowKit Go.Maps Go.WideMaps Go.ChangeMaps Go.Shelf
theorem wrapS (n : Int) (h0 : 0 ≤ n) (h1 : n ≤ 100000) : IntKind.i64.wrap n = n := by
  have hm : n % 18446744073709551616 = n := by omega
  unfold IntKind.wrap
  simp [IntKind.bits, IntKind.signed, hm]
  omega
theorem cnt_le {K : Type} [DecidableEq K] (k : K) (l : List K) : l.count k ≤ l.length := List.count_le_length
theorem row_inj {a b : List UInt8} (h : row a = row b) : a = b := by
  refine List.ext_getElem? fun i => ?_
  have h1 := congrArg (·[i]?) h
  simp only [row, List.getElem?_map] at h1
  cases ha : a[i]? with
  | none => cases hb : b[i]? with
    | none => rfl
    | some y => simp [ha, hb] at h1
  | some x => cases hb : b[i]? with
    | none => simp [ha, hb] at h1
    | some y =>
      simp only [ha, hb, Option.map_some, Option.some.injEq, Value.int.injEq, true_and] at h1
      congr 1; exact UInt8.toNat_inj.1 (by omega)
theorem clI_inj {a b : List Int} (h : clI a = clI b) : a = b := by
  refine List.map_inj_right (f := Value.int .i64) ?_ |>.1 h
  intro x y hxy; simpa using hxy
theorem famSix : KeyFam 70 (fun b : List UInt8 => .agg (row b).toArray) (fun b => b.length = 16) := ⟨Keyed.of_law lawSix, fun x hx => keySix x hx, fun x y _ _ h => row_inj (by simpa using h)⟩
def wfI (a : Int) : Prop := (Lit.int .i64 a).wf = true
theorem famInt : KeyFam 3 (fun a : Int => .int .i64 a) wfI := ⟨int_keyed Try.underlying3, fun x hx => ⟨_, keyOf_int_mk Try.underlying3 hx⟩, fun x y _ _ h => by simpa using h⟩
def wfL (n : Nat) (l : List Int) : Prop := l.length = n ∧ ∀ x ∈ l, (Lit.int .i64 x).wf = true
theorem famInner : KeyFam 189 (fun l : List Int => .agg (clI l).toArray) (wfL 4) := ⟨Keyed.of_law lawInner, fun x hx => keyInner x hx.1 hx.2, fun x y _ _ h => clI_inj (by simpa using h)⟩
theorem famOuter : KeyFam 65 (fun l : List Int => .agg (clI l).toArray) (wfL 3) := ⟨Keyed.of_law lawOuter, fun x hx => keyOuter x hx.1 hx.2, fun x y _ _ h => clI_inj (by simpa using h)⟩
theorem below_setBlock {B b : Nat} (w : World) (h : B ≤ b) (o : Obj) : Below B w (setBlock w b o) :=
  ⟨rfl, rfl, rfl, by simp [setBlock], fun i hi => by simp only [setBlock]; rw [Array.getElem?_setIfInBounds_ne (by omega)]⟩
theorem run_look {o : Oper} {a : Act} {w : World} {T : TypeId} {m x : Operand} {b : Nat} {key c : Value} (ho : o.op = .lookup T m x false) (hm : a.eval m = .map (some b)) (hx : a.eval x = key)
    (h : (Instr.lookup T (.map (some b)) key false).run Try.prog w = .ok c w) : (execOp a.eval o).run Try.prog w = .ok (.value c) w := by
  unfold execOp
  simp only [ho, hm, hx, Sem.run_bind, Sem.run_pure, h, Result.andThen_ok]
theorem run_entry {o : Oper} {a : Act} {w w' : World} {T : TypeId} {m x : Operand} {b : Nat} {key c : Value} (ho : o.op = .mapEntry T m x) (hm : a.eval m = .map (some b)) (hx : a.eval x = key)
    (h : (Instr.mapEntry T (.map (some b)) key).run Try.prog w = .ok c w') : (execOp a.eval o).run Try.prog w = .ok (.value c) w' := by
  unfold execOp
  simp only [ho, hm, hx, Sem.run_bind, Sem.run_pure, h, Result.andThen_ok]
theorem run_estore {o : Oper} {a : Act} {w w' : World} {T : TypeId} {m x y : Operand} {b : Nat} {st v : Value} (ho : o.op = .entryStore T m x y) (hm : a.eval m = .map (some b)) (hx : a.eval x = st) (hy : a.eval y = v)
    (h : (Instr.entryStore T (.map (some b)) st v).run Try.prog w = .ok () w') : (execOp a.eval o).run Try.prog w = .ok .skip w' := by
  unfold execOp
  simp only [ho, hm, hx, hy, Sem.run_bind, Sem.run_pure, h, Result.andThen_ok]
theorem run_mupd {o : Oper} {a : Act} {w w' : World} {T : TypeId} {m x y : Operand} {b : Nat} {k v : Value} (ho : o.op = .mapUpdate T m x y) (hm : a.eval m = .map (some b)) (hx : a.eval x = k) (hy : a.eval y = v)
    (h : (Instr.mapUpdate T (.map (some b)) k v).run Try.prog w = .ok () w') : (execOp a.eval o).run Try.prog w = .ok .skip w' := by
  unfold execOp
  simp only [ho, hm, hx, hy, Sem.run_bind, Sem.run_pure, h, Result.andThen_ok]
theorem wp_skip {o : Oper} {a : Act} {w w' : World} {K : Act → World → Prop} {Q : Exit → Act → World → Prop} (hrun : (execOp a.eval o).run Try.prog w = .ok .skip w') (h : K (a.put o.dst undef) w') : o.wp Try.prog a w K Q := by
  unfold Oper.wp; rw [hrun]; exact h
theorem wpList_skip {ops : Array Oper} {rest : List Oper} {o : Oper} {a : Act} {w w' : World} {Q : Exit → Act → World → Prop} (hg : o.guard = none) (hrun : (execOp a.eval o).run Try.prog w = .ok .skip w')
    (h : wpList Try.prog ops Q rest (a.put o.dst undef) w') : wpList Try.prog ops Q (o :: rest) a w :=
  wpList_plain hg fun _ hK => wp_skip hrun (hK _ _ h)
theorem wpList_turn {ops : Array Oper} {rest : List Oper} {o : Oper} {a : Act} {w w' : World} {Q : Exit → Act → World → Prop} {v : Value} (hg : o.guard = none) (hrun : (execOp a.eval o).run Try.prog w = .ok (.value v) w')
    (h : wpList Try.prog ops Q rest (a.put o.dst v) w') : wpList Try.prog ops Q (o :: rest) a w :=
  wpList_plain hg fun _ hK => wp_turn hrun (hK _ _ h)
theorem int_row {w : World} {B : Nat} {A : Option Addr} {zs : List Int} (h : RdI w B A zs) {k : Nat} {x : Int} (hx : zs[k]? = some x) : ∃ b o, A = some ⟨b, o, none⟩ ∧ b < B ∧ w.cell? ⟨b, o + k, none⟩ = some (.int .i64 x) := by
  have hk := (List.getElem?_eq_some_iff.1 hx).1
  obtain ⟨b, o, e, hb, hr⟩ := h (by omega)
  refine ⟨b, o, e, hb, ?_⟩
  rw [hr k hk, List.getD_eq_getElem?_getD, hx]; rfl
theorem rds_row {α : Type} {cl : α → List Value} {sz : Nat} {w : World} {B : Nat} {A : Option Addr} {l : List α} (h : RdS cl sz w B A l) {k : Nat} {x : α} (hx : l[k]? = some x) : ∃ b o, A = some ⟨b, o, none⟩ ∧ b < B ∧ w.rangeAt b (o + k * sz) (cl x) := by
  obtain ⟨b, o, e, hb, hr⟩ := h (by have := (List.getElem?_eq_some_iff.1 hx).1; omega)
  exact ⟨b, o, e, hb, hr k x hx⟩
set_option maxRecDepth 100000 in
set_option maxHeartbeats 2000000 in
theorem alkSix (A : Option Addr) (c : Nat) (l : List (List UInt8)) (B : Nat) (w : World) (hr : RdS row 16 w B A l) (hB : B ≤ w.heap.size) (hl : l.length ≤ 1001) (hv : ∀ x ∈ l, x.length = 16) :
    Calls Try.prog 127 #[.slice A l.length c, .func (.func 128) #[] #[]] w fun e w' => e = .returned (.int .i64 (mx (l.map id) : Nat)) ∧ Below w.heap.size w w' := by
  obtain ⟨n, hn⟩ : ∃ n, n = l.length := ⟨_, rfl⟩
  have HN := Lib.hid hn
  have HR := Lib.hid hr
  have HV := Lib.hid hv
  rw [← hn] at hl ⊢
  clear hn hr hv
  have hmm := @run_makeMap Try.prog
  have hB0 := (Below.refl w.heap.size w).alloc (Nat.le_refl _) (.map #[] 0)
  have HE : Hid (mx (l.map id) = mx ((l.map id).take n)) := Lib.hid (by rw [HN.out, List.take_of_length_le (by simp)])
  go_enter Try.func127, Try.ntmps127
  go_wp2
  go_loopw [6, 13] (fun s6 s13 wr => ∃ kk : Nat, kk ≤ n ∧ s6 = .int .i64 (mx ((l.map id).take kk) : Nat) ∧ s13 = .int .i64 kk ∧ Hid (Hist 70 (fun b : List UInt8 => Value.agg (row b).toArray) (fun b : List UInt8 => b.length = 16) wr w.heap.size kk ((l.map id).take kk)) ∧ Below w.heap.size w wr) (fun _ i _ => n - (intOf i).toNat)
  case atStart => exact ⟨0, Nat.zero_le _, rfl, rfl, Lib.hid (Hist.made w), hB0⟩
  case round =>
    obtain ⟨kk, hkk, rfl, rfl, HH, hbel⟩ := hrel
    by_cases hlt : kk < n
    · obtain ⟨x, hx⟩ : ∃ x, l[kk]? = some x := ⟨_, List.getElem?_eq_getElem (by rw [← HN.out]; exact hlt)⟩
      have hvx := HV.out x (List.mem_of_getElem? hx)
      obtain ⟨b1, o1, rfl, hb1, hr1⟩ := rds_row HR.out hx
      have hrow := range_below hr1 hb1 (hbel.mono hB)
      have HXD : Hid ((l.map id).take (kk + 1) = (l.map id).take kk ++ [x]) := Lib.hid (by
        have hk : kk < l.length := by rw [← HN.out]; exact hlt
        rw [List.getElem?_eq_getElem hk] at hx
        have e := Option.some.inj hx
        rw [List.take_succ_eq_append_getElem (by simpa using hk), List.getElem_map, e]; try rfl)
      have HLT : Hid (w.heap.size < wr.heap.size) := Lib.hid HH.out.lt
      have hcn : @List.count (List UInt8) instBEqOfDecidableEq (x) ((l.map id).take kk) ≤ kk := Nat.le_trans (cnt_le _ _) (by simp; omega)
      have hmx : mx ((l.map id).take kk) ≤ kk := Nat.le_trans (mx_le _) (by simp; omega)
      clear hx hr1
      generalize (l.map id).take kk = ds at *
      obtain ⟨cn, hc⟩ : ∃ cn, cn = @List.count (List UInt8) instBEqOfDecidableEq (x) ds := ⟨_, rfl⟩
      obtain ⟨m0, hm0⟩ : ∃ m0, m0 = mx ds := ⟨_, rfl⟩
      have HC := Lib.hid hc
      have hcn' : cn ≤ kk := by rw [hc]; exact hcn
      have HM : Hid (max m0 (cn + 1) = mx (ds ++ [x])) := Lib.hid (by rw [mx_snoc, hm0, hc]; simp)
      have HC2 : Hid (cn + 1 = @List.count (List UInt8) instBEqOfDecidableEq (x) (ds ++ [x])) := Lib.hid (by rw [hc]; simp)
      have hm1 : m0 ≤ kk := by rw [hm0]; exact hmx
      rw [← hm0]
      have hw : (Lit.int .i64 ((@List.count (List UInt8) instBEqOfDecidableEq (x) ds : Int) + 1)).wf = true := WalkArith.wf_i64 (by rw [← hc]; omega)
      clear hm0 hcn hmx
      have hxl : (row x).length = 16 := by first | rfl | (rw [row_length]; exact hvx)
      have hxs : (row x).toArray.size = 16 := by simpa using hxl
      have hone1 := six_one x
      have hb8 := AtNew (w := wr) (cs := row x) (t := 70)
      have hbu : Below w.heap.size w (wr.alloc (.cells (row x).toArray 70)) := hbel.alloc hbel.size _
      have HLU : Hid (w.heap.size < (wr.alloc (.cells (row x).toArray 70)).heap.size) := Lib.hid (by have := HLT.out; simp; omega)
      have HHU : Hid (Hist 70 (fun b : List UInt8 => Value.agg (row b).toArray) (fun b : List UInt8 => b.length = 16) (wr.alloc (.cells (row x).toArray 70)) w.heap.size kk ds) := Lib.hid (HH.out.of_block (Below.heap_alloc _ _ _ HLT.out))
      have hT : Try.prog.underlying 235 = some (.map 70 3) := Try.underlying235
      clear hB0
      have hone2 := six_one x
      have hml : (row x).length = 16 := by first | rfl | exact hxl
      have hms : (row x).toArray.size = 16 := by simpa using hml
      go_upto_region 7 with (first
        | ((with_reducible show wpList _ _ _ (Oper.mk (some 16) (Op.load 70 _) _ _ _ _ :: _) _ _); refine wpList_val rfl (ld_six rfl rfl hrow hxl) ?_)
        | ((with_reducible show wpList _ _ _ (Oper.mk none (Op.store 70 (Operand.tmp 8) _) _ _ _ _ :: _) _ _); refine strn_six rfl rfl rfl hxs hone1 ?_)
        | ((with_reducible show wpList _ _ _ (Oper.mk (some 18) (Op.load 70 _) _ _ _ _ :: _) _ _); refine wpList_val rfl (ld_six rfl rfl hb8 hxl) ?_)
        | (go_at_call 128; refine (mkSix x hvx _).mono ?_; rintro e w3 ⟨rfl, b3⟩)
        | ((with_reducible show wpList _ _ _ (Oper.mk none (Op.store 70 (Operand.tmp 9) _) _ _ _ _ :: _) _ _); refine strn_six rfl rfl rfl hms hone2 ?_))
      have b4 : Below (wr.alloc (.cells (row x).toArray 70)).heap.size (wr.alloc (.cells (row x).toArray 70)) (w3.alloc (.cells (row x).toArray 70)) := b3.alloc b3.size _
      have hb9 := AtNew (w := w3) (cs := row x) (t := 70)
      have z9 : w3.heap.size < (w3.alloc (.cells (row x).toArray 70)).heap.size := by simp
      have y9 : w.heap.size < w3.heap.size := Nat.lt_of_lt_of_le HLU.out b3.size
      obtain ⟨W, hW⟩ : ∃ W, W = w3.alloc (.cells (row x).toArray 70) := ⟨_, rfl⟩
      rw [← hW] at b4 hb9 z9 ⊢
      clear hW
      have hH0 : Hist 70 (fun b : List UInt8 => Value.agg (row b).toArray) (fun b : List UInt8 => b.length = 16) W.drew w.heap.size kk ds := HHU.out.of_block (b4.block _ HLU.out)
      have hk0 := hH0.look famSix hT (x := x) hvx
      obtain ⟨v0, st, o1, o2, hE, hL, hS2, hHist⟩ := hH0.entry lawSix famSix hT (by unfold maxLen; omega) (x := x) hvx hw
      rw [← hc] at hk0 hL hS2
      have hlt0 := hH0.lt
      have hs1 : (setBlock W.drew w.heap.size o1).heap[w.heap.size]? = some o1 := by simp only [setBlock]; rw [Array.getElem?_setIfInBounds_self_of_lt hlt0]
      have hk1 := hL _ hs1
      have hS3 := hS2 _ hs1
      have hs2 : (setBlock (setBlock W.drew w.heap.size o1) w.heap.size o2).heap[w.heap.size]? = some o2 := by
        show (((W.heap.setIfInBounds w.heap.size o1).setIfInBounds w.heap.size o2))[w.heap.size]? = _
        rw [Array.getElem?_setIfInBounds_self_of_lt (by simpa using hlt0)]
      have hH2 := hHist _ hs2
      have hk2 := hH2.look famSix hT (x := x) hvx
      rw [← HC2.out] at hk2
      have bB2 : Below w.heap.size w (setBlock (setBlock W.drew w.heap.size o1) w.heap.size o2) :=
        ((hbu.trans (b4.mono hbu.size)).drew.trans (below_setBlock _ (Nat.le_refl _) o1)).trans (below_setBlock _ (Nat.le_refl _) o2)
      have hr9 : (setBlock (setBlock W.drew w.heap.size o1) w.heap.size o2).rangeAt w3.heap.size 0 (row x) := fun j v hj => by
        rw [← hb9 j v hj]
        refine World.cell?_of_block ?_
        show (((W.heap.setIfInBounds w.heap.size o1).setIfInBounds w.heap.size o2))[w3.heap.size]? = _
        rw [Array.getElem?_setIfInBounds_ne (by omega), Array.getElem?_setIfInBounds_ne (by omega)]
      clear hS2 hL hHist hH0 hc hw
      have hL0 : cn + 1 ≤ 1100 := by omega
      refine wp_region_held_drew (S := fun _ => True) (by kernel_rfl) trivial (fun hS => ?_)
      refine held_pure (i := 0) (oi := ⟨some 20, _, _, _, _, _⟩) rfl (by kernel_rfl) (by kernel_rfl) (by kernel_rfl) (fun _ _ _ h => h) (by rfl) (v := ?_) (fun w hSw => ?_) hS (fun hS => ?_)
      rotate_left
      · go_simp; try with_reducible rfl
      try go_frame
      refine wpAnyH_ready (rs := [1]) (by kernel_rfl) (by simp) (AllReadyH.cons (o := ⟨some 21, _, _, _, _, _⟩) rfl (fun K hK => ?_) AllReadyH.nil)
      rw [if_pos (by rfl)]
      refine wp_turn (v := .agg (row x).toArray) (ld_six rfl rfl hb9 hml) ?_
      refine hK.out _ _ trivial (fun hS => ?_)
      clear hK K
      try go_frame
      refine wpAnyH_ready (rs := [2, 4]) (by kernel_rfl) (by simp) (AllReadyH.cons (o := ⟨some 22, _, _, _, _, _⟩) rfl (fun K hK => ?_) (AllReadyH.cons (o := ⟨some 24, _, _, _, _, _⟩) rfl (fun K hK => ?_) AllReadyH.nil))
      · rw [if_pos (by rfl)]
        refine wp_turn (v := .int .i64 (cn : Int)) (by first | exact run_look rfl rfl rfl hk0 | exact run_look rfl rfl rfl hk1) ?_
        refine hK.out _ _ trivial (fun hS => ?_)
        clear hK K
        try go_frame
        refine held_pure (i := 3) (oi := ⟨some 23, _, _, _, _, _⟩) rfl (by kernel_rfl) (by kernel_rfl) (by kernel_rfl) (fun _ _ _ h => h) (by rfl) (v := .int .i64 ((cn : Int) + 1)) (fun w hSw => by go_simp; exact wrapS _ (by omega) (by omega)) hS (fun hS => ?_)
        try go_frame
        refine wpAnyH_ready (rs := [4]) (by kernel_rfl) (by simp) (AllReadyH.cons (o := ⟨some 24, _, _, _, _, _⟩) rfl (fun K hK => ?_) AllReadyH.nil)
        rw [if_pos (by rfl)]
        refine wp_turn (v := .tuple #[v0, goInt st]) (w' := setBlock W.drew w.heap.size o1) (run_entry rfl rfl rfl hE) ?_
        refine hK.out _ _ trivial (fun hS => ?_)
        clear hK K
        try go_frame
        refine held_pure (i := 5) (oi := ⟨some 25, _, _, _, _, _⟩) rfl (by kernel_rfl) (by kernel_rfl) (by kernel_rfl) (fun _ _ _ h => h) (by rfl) (v := ?_) (fun w hSw => ?_) hS (fun hS => ?_)
        rotate_left
        · go_simp; try with_reducible rfl
        try go_frame
        refine wpAnyH_ready (rs := [6]) (by kernel_rfl) (by simp) (AllReadyH.cons (o := ⟨none, _, _, _, _, _⟩) rfl (fun K hK => ?_) AllReadyH.nil)
        rw [if_pos (by rfl)]
        refine wp_skip (w' := setBlock (setBlock W.drew w.heap.size o1) w.heap.size o2) (run_estore rfl rfl rfl rfl hS3) ?_
        refine hK.out _ _ trivial (fun hS => ?_)
        clear hK K
        try go_frame
        refine wpAnyH_done (by kernel_rfl) ?_ _
        obtain ⟨W2, hW2⟩ : ∃ W2, W2 = setBlock (setBlock W.drew w.heap.size o1) w.heap.size o2 := ⟨_, rfl⟩
        rw [← hW2] at hH2 hk2 bB2 hr9 ⊢
        clear hW2 hk0 hk1 hE hS3
        go_wp2_with (first
          | ((with_reducible show wpList _ _ _ (Oper.mk (some 28) (Op.load 70 _) _ _ _ _ :: _) _ _); refine wpList_val rfl (ld_six rfl rfl hr9 hml) ?_)
          | (at_lookup; refine wpList_val rfl (run_look rfl rfl rfl hk2) ?_))
        go_roundw
        case rel => exact ⟨kk + 1, by omega, congrArg (Value.int .i64) (by rw [HXD.out, ← HM.out]; omega), by simp, Lib.hid (by rw [HXD.out]; exact hH2), bB2⟩
        case measure => simp [intOf]; omega
      · rw [if_pos (by rfl)]
        refine wp_turn (v := .tuple #[v0, goInt st]) (w' := setBlock W.drew w.heap.size o1) (run_entry rfl rfl rfl hE) ?_
        refine hK.out _ _ trivial (fun hS => ?_)
        clear hK K
        try go_frame
        refine held_pure (i := 5) (oi := ⟨some 25, _, _, _, _, _⟩) rfl (by kernel_rfl) (by kernel_rfl) (by kernel_rfl) (fun _ _ _ h => h) (by rfl) (v := ?_) (fun w hSw => ?_) hS (fun hS => ?_)
        rotate_left
        · go_simp; try with_reducible rfl
        try go_frame
        refine wpAnyH_ready (rs := [2]) (by kernel_rfl) (by simp) (AllReadyH.cons (o := ⟨some 22, _, _, _, _, _⟩) rfl (fun K hK => ?_) AllReadyH.nil)
        rw [if_pos (by rfl)]
        refine wp_turn (v := .int .i64 (cn : Int)) (by first | exact run_look rfl rfl rfl hk0 | exact run_look rfl rfl rfl hk1) ?_
        refine hK.out _ _ trivial (fun hS => ?_)
        clear hK K
        try go_frame
        refine held_pure (i := 3) (oi := ⟨some 23, _, _, _, _, _⟩) rfl (by kernel_rfl) (by kernel_rfl) (by kernel_rfl) (fun _ _ _ h => h) (by rfl) (v := .int .i64 ((cn : Int) + 1)) (fun w hSw => by go_simp; exact wrapS _ (by omega) (by omega)) hS (fun hS => ?_)
        try go_frame
        refine wpAnyH_ready (rs := [6]) (by kernel_rfl) (by simp) (AllReadyH.cons (o := ⟨none, _, _, _, _, _⟩) rfl (fun K hK => ?_) AllReadyH.nil)
        rw [if_pos (by rfl)]
        refine wp_skip (w' := setBlock (setBlock W.drew w.heap.size o1) w.heap.size o2) (run_estore rfl rfl rfl rfl hS3) ?_
        refine hK.out _ _ trivial (fun hS => ?_)
        clear hK K
        try go_frame
        refine wpAnyH_done (by kernel_rfl) ?_ _
        obtain ⟨W2, hW2⟩ : ∃ W2, W2 = setBlock (setBlock W.drew w.heap.size o1) w.heap.size o2 := ⟨_, rfl⟩
        rw [← hW2] at hH2 hk2 bB2 hr9 ⊢
        clear hW2 hk0 hk1 hE hS3
        go_wp2_with (first
          | ((with_reducible show wpList _ _ _ (Oper.mk (some 28) (Op.load 70 _) _ _ _ _ :: _) _ _); refine wpList_val rfl (ld_six rfl rfl hr9 hml) ?_)
          | (at_lookup; refine wpList_val rfl (run_look rfl rfl rfl hk2) ?_))
        go_roundw
        case rel => exact ⟨kk + 1, by omega, congrArg (Value.int .i64) (by rw [HXD.out, ← HM.out]; omega), by simp, Lib.hid (by rw [HXD.out]; exact hH2), bB2⟩
        case measure => simp [intOf]; omega
    · obtain rfl : n = kk := by omega
      rw [← HE.out]
      go_wp2
      go_ret
      exact ⟨rfl, hbel⟩
set_option maxRecDepth 100000 in
set_option maxHeartbeats 2000000 in
theorem alkInt (A : Option Addr) (c : Nat) (l : List (Int)) (B : Nat) (w : World) (hr : RdI w B A l) (hB : B ≤ w.heap.size) (hl : l.length ≤ 1001) (hv : ∀ x ∈ l, wfI x) :
    Calls Try.prog 129 #[.slice A l.length c, .func (.func 130) #[] #[]] w fun e w' => e = .returned (.int .i64 (mx (l.map id) : Nat)) ∧ Below w.heap.size w w' := by
  obtain ⟨n, hn⟩ : ∃ n, n = l.length := ⟨_, rfl⟩
  have HN := Lib.hid hn
  have HR := Lib.hid hr
  have HV := Lib.hid hv
  rw [← hn] at hl ⊢
  clear hn hr hv
  have hmm := @run_makeMap Try.prog
  have hB0 := (Below.refl w.heap.size w).alloc (Nat.le_refl _) (.map #[] 0)
  have HE : Hid (mx (l.map id) = mx ((l.map id).take n)) := Lib.hid (by rw [HN.out, List.take_of_length_le (by simp)])
  go_enter Try.func129, Try.ntmps129
  go_wp2
  go_loopw [6, 13] (fun s6 s13 wr => ∃ kk : Nat, kk ≤ n ∧ s6 = .int .i64 (mx ((l.map id).take kk) : Nat) ∧ s13 = .int .i64 kk ∧ Hid (Hist 3 (fun a : Int => Value.int .i64 a) (wfI) wr w.heap.size kk ((l.map id).take kk)) ∧ Below w.heap.size w wr) (fun _ i _ => n - (intOf i).toNat)
  case atStart => exact ⟨0, Nat.zero_le _, rfl, rfl, Lib.hid (Hist.made w), hB0⟩
  case round =>
    obtain ⟨kk, hkk, rfl, rfl, HH, hbel⟩ := hrel
    by_cases hlt : kk < n
    · obtain ⟨x, hx⟩ : ∃ x, l[kk]? = some x := ⟨_, List.getElem?_eq_getElem (by rw [← HN.out]; exact hlt)⟩
      have hvx := HV.out x (List.mem_of_getElem? hx)
      obtain ⟨b1, o1, rfl, hb1, hr1⟩ := int_row HR.out hx
      have hrow := ((hbel.mono hB).cell (p := ⟨b1, o1 + kk, none⟩) hb1).trans hr1
      have HXD : Hid ((l.map id).take (kk + 1) = (l.map id).take kk ++ [x]) := Lib.hid (by
        have hk : kk < l.length := by rw [← HN.out]; exact hlt
        rw [List.getElem?_eq_getElem hk] at hx
        have e := Option.some.inj hx
        rw [List.take_succ_eq_append_getElem (by simpa using hk), List.getElem_map, e]; try rfl)
      have HLT : Hid (w.heap.size < wr.heap.size) := Lib.hid HH.out.lt
      have hcn : @List.count (Int) instBEqOfDecidableEq (x) ((l.map id).take kk) ≤ kk := Nat.le_trans (cnt_le _ _) (by simp; omega)
      have hmx : mx ((l.map id).take kk) ≤ kk := Nat.le_trans (mx_le _) (by simp; omega)
      clear hx hr1
      generalize (l.map id).take kk = ds at *
      obtain ⟨cn, hc⟩ : ∃ cn, cn = @List.count (Int) instBEqOfDecidableEq (x) ds := ⟨_, rfl⟩
      obtain ⟨m0, hm0⟩ : ∃ m0, m0 = mx ds := ⟨_, rfl⟩
      have HC := Lib.hid hc
      have hcn' : cn ≤ kk := by rw [hc]; exact hcn
      have HM : Hid (max m0 (cn + 1) = mx (ds ++ [x])) := Lib.hid (by rw [mx_snoc, hm0, hc]; simp)
      have HC2 : Hid (cn + 1 = @List.count (Int) instBEqOfDecidableEq (x) (ds ++ [x])) := Lib.hid (by rw [hc]; simp)
      have hm1 : m0 ≤ kk := by rw [hm0]; exact hmx
      rw [← hm0]
      have hw : (Lit.int .i64 ((@List.count (Int) instBEqOfDecidableEq (x) ds : Int) + 1)).wf = true := WalkArith.wf_i64 (by rw [← hc]; omega)
      clear hm0 hcn hmx
      have hbu := hbel
      have HLU := HLT
      have HHU := HH
      have hT : Try.prog.underlying 236 = some (.map 3 3) := Try.underlying236
      clear hB0
      have PUT : Hid (∀ w3, Below wr.heap.size wr w3 → ∃ w4, (Instr.lookup 236 (.map (some w.heap.size)) (.int .i64 (x)) false).run Try.prog w3 = .ok (.int .i64 (cn : Int)) w3 ∧ (Instr.mapUpdate 236 (.map (some w.heap.size)) (.int .i64 (x)) (.int .i64 ((cn : Int) + 1))).run Try.prog w3 = .ok () w4 ∧ Hist 3 (fun a : Int => Value.int .i64 a) (wfI) w4 w.heap.size (kk + 1) (ds ++ [x]) ∧ Below w.heap.size w w4 ∧ (Instr.lookup 236 (.map (some w.heap.size)) (.int .i64 (x)) false).run Try.prog w4 = .ok (.int .i64 ((cn : Int) + 1)) w4) := Lib.hid (by
        intro w3 b3
        have h3 := HHU.out.of_block (b3.block _ HLU.out)
        obtain ⟨w4, hu, hh, hg⟩ := h3.put famInt hT (by unfold maxLen; omega) (x := x) hvx hw
        have hk2 := hh.look famInt hT (x := x) hvx
        rw [← HC2.out] at hk2
        have hb3 := hbu.trans (b3.mono hbu.size)
        refine ⟨w4, ?_, ?_, hh, hb3.grown hg hb3.size (fun j hj => by cases hj; exact Nat.le_refl _), hk2⟩
        · rw [hc]; exact h3.look famInt hT hvx
        · rw [hc]; exact hu)
      have hL0 : cn + 1 ≤ 1100 := by omega
      clear hw hc
      go_wp2_with (first
        | (go_at_call 130; refine (mkInt x _).mono ?_; rintro e w3 ⟨rfl, b3⟩; obtain ⟨w4, hk0, hu, hh, hb4, hk2⟩ := PUT.out w3 b3; have HH4 := Lib.hid hh; clear hh)
        | (at_mapUpdate; refine wpList_skip rfl (run_mupd rfl rfl rfl rfl hu) ?_)
        | ((with_reducible show wpList _ _ _ (Oper.mk (some 22) (Op.lookup _ _ _ _) _ _ _ _ :: _) _ _); refine wpList_val rfl (run_look rfl rfl rfl hk0) ?_)
        | ((with_reducible show wpList _ _ _ (Oper.mk _ (Op.lookup _ _ _ _) _ _ _ _ :: _) _ _); refine wpList_val rfl (run_look rfl rfl rfl hk2) ?_))
      go_roundw
      case rel => exact ⟨kk + 1, by omega, by rw [HXD.out, ← HM.out]; congr 1; omega, by simp, Lib.hid (by rw [HXD.out]; exact HH4.out), hb4⟩
      case measure => simp [intOf]; omega
    · obtain rfl : n = kk := by omega
      rw [← HE.out]
      go_wp2
      go_ret
      exact ⟨rfl, hbel⟩
set_option maxRecDepth 100000 in
set_option maxHeartbeats 2000000 in
theorem alkInner (A : Option Addr) (c : Nat) (l : List (Sta)) (B : Nat) (w : World) (hr : RdS clS 7 w B A l) (hB : B ≤ w.heap.size) (hl : l.length ≤ 1001) (hv : ∀ x ∈ l, staFit x) :
    Calls Try.prog 131 #[.slice A l.length c, .func (.func 132) #[] #[]] w fun e w' => e = .returned (.int .i64 (mx (l.map inS) : Nat)) ∧ Below w.heap.size w w' := by
  obtain ⟨n, hn⟩ : ∃ n, n = l.length := ⟨_, rfl⟩
  have HN := Lib.hid hn
  have HR := Lib.hid hr
  have HV := Lib.hid hv
  rw [← hn] at hl ⊢
  clear hn hr hv
  have hmm := @run_makeMap Try.prog
  have hB0 := (Below.refl w.heap.size w).alloc (Nat.le_refl _) (.map #[] 0)
  have HE : Hid (mx (l.map inS) = mx ((l.map inS).take n)) := Lib.hid (by rw [HN.out, List.take_of_length_le (by simp)])
  go_enter Try.func131, Try.ntmps131
  go_wp2
  go_loopw [6, 13] (fun s6 s13 wr => ∃ kk : Nat, kk ≤ n ∧ s6 = .int .i64 (mx ((l.map inS).take kk) : Nat) ∧ s13 = .int .i64 kk ∧ Hid (Hist 189 (fun l : List Int => Value.agg (clI l).toArray) (wfL 4) wr w.heap.size kk ((l.map inS).take kk)) ∧ Below w.heap.size w wr) (fun _ i _ => n - (intOf i).toNat)
  case atStart => exact ⟨0, Nat.zero_le _, rfl, rfl, Lib.hid (Hist.made w), hB0⟩
  case round =>
    obtain ⟨kk, hkk, rfl, rfl, HH, hbel⟩ := hrel
    by_cases hlt : kk < n
    · obtain ⟨x, hx⟩ : ∃ x, l[kk]? = some x := ⟨_, List.getElem?_eq_getElem (by rw [← HN.out]; exact hlt)⟩
      have hvx := HV.out x (List.mem_of_getElem? hx)
      obtain ⟨b1, o1, rfl, hb1, hr1⟩ := rds_row HR.out hx
      have hrow := range_below hr1 hb1 (hbel.mono hB)
      have HXD : Hid ((l.map inS).take (kk + 1) = (l.map inS).take kk ++ [inS x]) := Lib.hid (by
        have hk : kk < l.length := by rw [← HN.out]; exact hlt
        rw [List.getElem?_eq_getElem hk] at hx
        have e := Option.some.inj hx
        rw [List.take_succ_eq_append_getElem (by simpa using hk), List.getElem_map, e]; try rfl)
      have HLT : Hid (w.heap.size < wr.heap.size) := Lib.hid HH.out.lt
      have hcn : @List.count (List Int) instBEqOfDecidableEq (inS x) ((l.map inS).take kk) ≤ kk := Nat.le_trans (cnt_le _ _) (by simp; omega)
      have hmx : mx ((l.map inS).take kk) ≤ kk := Nat.le_trans (mx_le _) (by simp; omega)
      clear hx hr1
      generalize (l.map inS).take kk = ds at *
      obtain ⟨cn, hc⟩ : ∃ cn, cn = @List.count (List Int) instBEqOfDecidableEq (inS x) ds := ⟨_, rfl⟩
      obtain ⟨m0, hm0⟩ : ∃ m0, m0 = mx ds := ⟨_, rfl⟩
      have HC := Lib.hid hc
      have hcn' : cn ≤ kk := by rw [hc]; exact hcn
      have HM : Hid (max m0 (cn + 1) = mx (ds ++ [inS x])) := Lib.hid (by rw [mx_snoc, hm0, hc]; simp)
      have HC2 : Hid (cn + 1 = @List.count (List Int) instBEqOfDecidableEq (inS x) (ds ++ [inS x])) := Lib.hid (by rw [hc]; simp)
      have hm1 : m0 ≤ kk := by rw [hm0]; exact hmx
      rw [← hm0]
      have hw : (Lit.int .i64 ((@List.count (List Int) instBEqOfDecidableEq (inS x) ds : Int) + 1)).wf = true := WalkArith.wf_i64 (by rw [← hc]; omega)
      clear hm0 hcn hmx
      have hxl : (clS x).length = 7 := by first | rfl | (rw [row_length]; exact hvx)
      have hxs : (clS x).toArray.size = 7 := by simpa using hxl
      have hone1 := sta_one x
      have hb8 := AtNew (w := wr) (cs := clS x) (t := 191)
      have hbu : Below w.heap.size w (wr.alloc (.cells (clS x).toArray 191)) := hbel.alloc hbel.size _
      have HLU : Hid (w.heap.size < (wr.alloc (.cells (clS x).toArray 191)).heap.size) := Lib.hid (by have := HLT.out; simp; omega)
      have HHU : Hid (Hist 189 (fun l : List Int => Value.agg (clI l).toArray) (wfL 4) (wr.alloc (.cells (clS x).toArray 191)) w.heap.size kk ds) := Lib.hid (HH.out.of_block (Below.heap_alloc _ _ _ HLT.out))
      have hT : Try.prog.underlying 237 = some (.map 189 3) := Try.underlying237
      clear hB0
      have hone2 := ints_one (inS x)
      have hml : (clI (inS x)).length = 4 := by first | rfl | exact hxl
      have hms : (clI (inS x)).toArray.size = 4 := by simpa using hml
      go_upto_region 7 with (first
        | ((with_reducible show wpList _ _ _ (Oper.mk (some 16) (Op.load 191 _) _ _ _ _ :: _) _ _); refine wpList_val rfl (ld_sta rfl rfl hrow hxl) ?_)
        | ((with_reducible show wpList _ _ _ (Oper.mk none (Op.store 191 (Operand.tmp 8) _) _ _ _ _ :: _) _ _); refine strn_sta rfl rfl rfl hxs hone1 ?_)
        | ((with_reducible show wpList _ _ _ (Oper.mk (some 18) (Op.load 191 _) _ _ _ _ :: _) _ _); refine wpList_val rfl (ld_sta rfl rfl hb8 hxl) ?_)
        | (go_at_call 132; refine (mkInner x _).mono ?_; rintro e w3 ⟨rfl, b3⟩)
        | ((with_reducible show wpList _ _ _ (Oper.mk none (Op.store 189 (Operand.tmp 9) _) _ _ _ _ :: _) _ _); refine strn_inner rfl rfl rfl hms hone2 ?_))
      have b4 : Below (wr.alloc (.cells (clS x).toArray 191)).heap.size (wr.alloc (.cells (clS x).toArray 191)) (w3.alloc (.cells (clI (inS x)).toArray 189)) := b3.alloc b3.size _
      have hb9 := AtNew (w := w3) (cs := clI (inS x)) (t := 189)
      have z9 : w3.heap.size < (w3.alloc (.cells (clI (inS x)).toArray 189)).heap.size := by simp
      have y9 : w.heap.size < w3.heap.size := Nat.lt_of_lt_of_le HLU.out b3.size
      obtain ⟨W, hW⟩ : ∃ W, W = w3.alloc (.cells (clI (inS x)).toArray 189) := ⟨_, rfl⟩
      rw [← hW] at b4 hb9 z9 ⊢
      clear hW
      have hH0 : Hist 189 (fun l : List Int => Value.agg (clI l).toArray) (wfL 4) W.drew w.heap.size kk ds := HHU.out.of_block (b4.block _ HLU.out)
      have hk0 := hH0.look famInner hT (x := inS x) ⟨rfl, hvx.1⟩
      obtain ⟨v0, st, o1, o2, hE, hL, hS2, hHist⟩ := hH0.entry lawInner famInner hT (by unfold maxLen; omega) (x := inS x) ⟨rfl, hvx.1⟩ hw
      rw [← hc] at hk0 hL hS2
      have hlt0 := hH0.lt
      have hs1 : (setBlock W.drew w.heap.size o1).heap[w.heap.size]? = some o1 := by simp only [setBlock]; rw [Array.getElem?_setIfInBounds_self_of_lt hlt0]
      have hk1 := hL _ hs1
      have hS3 := hS2 _ hs1
      have hs2 : (setBlock (setBlock W.drew w.heap.size o1) w.heap.size o2).heap[w.heap.size]? = some o2 := by
        show (((W.heap.setIfInBounds w.heap.size o1).setIfInBounds w.heap.size o2))[w.heap.size]? = _
        rw [Array.getElem?_setIfInBounds_self_of_lt (by simpa using hlt0)]
      have hH2 := hHist _ hs2
      have hk2 := hH2.look famInner hT (x := inS x) ⟨rfl, hvx.1⟩
      rw [← HC2.out] at hk2
      have bB2 : Below w.heap.size w (setBlock (setBlock W.drew w.heap.size o1) w.heap.size o2) :=
        ((hbu.trans (b4.mono hbu.size)).drew.trans (below_setBlock _ (Nat.le_refl _) o1)).trans (below_setBlock _ (Nat.le_refl _) o2)
      have hr9 : (setBlock (setBlock W.drew w.heap.size o1) w.heap.size o2).rangeAt w3.heap.size 0 (clI (inS x)) := fun j v hj => by
        rw [← hb9 j v hj]
        refine World.cell?_of_block ?_
        show (((W.heap.setIfInBounds w.heap.size o1).setIfInBounds w.heap.size o2))[w3.heap.size]? = _
        rw [Array.getElem?_setIfInBounds_ne (by omega), Array.getElem?_setIfInBounds_ne (by omega)]
      clear hS2 hL hHist hH0 hc hw
      have hL0 : cn + 1 ≤ 1100 := by omega
      refine wp_region_held_drew (S := fun _ => True) (by kernel_rfl) trivial (fun hS => ?_)
      refine held_pure (i := 0) (oi := ⟨some 20, _, _, _, _, _⟩) rfl (by kernel_rfl) (by kernel_rfl) (by kernel_rfl) (fun _ _ _ h => h) (by rfl) (v := ?_) (fun w hSw => ?_) hS (fun hS => ?_)
      rotate_left
      · go_simp; try with_reducible rfl
      try go_frame
      refine wpAnyH_ready (rs := [1]) (by kernel_rfl) (by simp) (AllReadyH.cons (o := ⟨some 21, _, _, _, _, _⟩) rfl (fun K hK => ?_) AllReadyH.nil)
      rw [if_pos (by rfl)]
      refine wp_turn (v := .agg (clI (inS x)).toArray) (ld_inner rfl rfl hb9 hml) ?_
      refine hK.out _ _ trivial (fun hS => ?_)
      clear hK K
      try go_frame
      refine wpAnyH_ready (rs := [2, 4]) (by kernel_rfl) (by simp) (AllReadyH.cons (o := ⟨some 22, _, _, _, _, _⟩) rfl (fun K hK => ?_) (AllReadyH.cons (o := ⟨some 24, _, _, _, _, _⟩) rfl (fun K hK => ?_) AllReadyH.nil))
      · rw [if_pos (by rfl)]
        refine wp_turn (v := .int .i64 (cn : Int)) (by first | exact run_look rfl rfl rfl hk0 | exact run_look rfl rfl rfl hk1) ?_
        refine hK.out _ _ trivial (fun hS => ?_)
        clear hK K
        try go_frame
        refine held_pure (i := 3) (oi := ⟨some 23, _, _, _, _, _⟩) rfl (by kernel_rfl) (by kernel_rfl) (by kernel_rfl) (fun _ _ _ h => h) (by rfl) (v := .int .i64 ((cn : Int) + 1)) (fun w hSw => by go_simp; exact wrapS _ (by omega) (by omega)) hS (fun hS => ?_)
        try go_frame
        refine wpAnyH_ready (rs := [4]) (by kernel_rfl) (by simp) (AllReadyH.cons (o := ⟨some 24, _, _, _, _, _⟩) rfl (fun K hK => ?_) AllReadyH.nil)
        rw [if_pos (by rfl)]
        refine wp_turn (v := .tuple #[v0, goInt st]) (w' := setBlock W.drew w.heap.size o1) (run_entry rfl rfl rfl hE) ?_
        refine hK.out _ _ trivial (fun hS => ?_)
        clear hK K
        try go_frame
        refine held_pure (i := 5) (oi := ⟨some 25, _, _, _, _, _⟩) rfl (by kernel_rfl) (by kernel_rfl) (by kernel_rfl) (fun _ _ _ h => h) (by rfl) (v := ?_) (fun w hSw => ?_) hS (fun hS => ?_)
        rotate_left
        · go_simp; try with_reducible rfl
        try go_frame
        refine wpAnyH_ready (rs := [6]) (by kernel_rfl) (by simp) (AllReadyH.cons (o := ⟨none, _, _, _, _, _⟩) rfl (fun K hK => ?_) AllReadyH.nil)
        rw [if_pos (by rfl)]
        refine wp_skip (w' := setBlock (setBlock W.drew w.heap.size o1) w.heap.size o2) (run_estore rfl rfl rfl rfl hS3) ?_
        refine hK.out _ _ trivial (fun hS => ?_)
        clear hK K
        try go_frame
        refine wpAnyH_done (by kernel_rfl) ?_ _
        obtain ⟨W2, hW2⟩ : ∃ W2, W2 = setBlock (setBlock W.drew w.heap.size o1) w.heap.size o2 := ⟨_, rfl⟩
        rw [← hW2] at hH2 hk2 bB2 hr9 ⊢
        clear hW2 hk0 hk1 hE hS3
        go_wp2_with (first
          | ((with_reducible show wpList _ _ _ (Oper.mk (some 28) (Op.load 189 _) _ _ _ _ :: _) _ _); refine wpList_val rfl (ld_inner rfl rfl hr9 hml) ?_)
          | (at_lookup; refine wpList_val rfl (run_look rfl rfl rfl hk2) ?_))
        go_roundw
        case rel => exact ⟨kk + 1, by omega, congrArg (Value.int .i64) (by rw [HXD.out, ← HM.out]; omega), by simp, Lib.hid (by rw [HXD.out]; exact hH2), bB2⟩
        case measure => simp [intOf]; omega
      · rw [if_pos (by rfl)]
        refine wp_turn (v := .tuple #[v0, goInt st]) (w' := setBlock W.drew w.heap.size o1) (run_entry rfl rfl rfl hE) ?_
        refine hK.out _ _ trivial (fun hS => ?_)
        clear hK K
        try go_frame
        refine held_pure (i := 5) (oi := ⟨some 25, _, _, _, _, _⟩) rfl (by kernel_rfl) (by kernel_rfl) (by kernel_rfl) (fun _ _ _ h => h) (by rfl) (v := ?_) (fun w hSw => ?_) hS (fun hS => ?_)
        rotate_left
        · go_simp; try with_reducible rfl
        try go_frame
        refine wpAnyH_ready (rs := [2]) (by kernel_rfl) (by simp) (AllReadyH.cons (o := ⟨some 22, _, _, _, _, _⟩) rfl (fun K hK => ?_) AllReadyH.nil)
        rw [if_pos (by rfl)]
        refine wp_turn (v := .int .i64 (cn : Int)) (by first | exact run_look rfl rfl rfl hk0 | exact run_look rfl rfl rfl hk1) ?_
        refine hK.out _ _ trivial (fun hS => ?_)
        clear hK K
        try go_frame
        refine held_pure (i := 3) (oi := ⟨some 23, _, _, _, _, _⟩) rfl (by kernel_rfl) (by kernel_rfl) (by kernel_rfl) (fun _ _ _ h => h) (by rfl) (v := .int .i64 ((cn : Int) + 1)) (fun w hSw => by go_simp; exact wrapS _ (by omega) (by omega)) hS (fun hS => ?_)
        try go_frame
        refine wpAnyH_ready (rs := [6]) (by kernel_rfl) (by simp) (AllReadyH.cons (o := ⟨none, _, _, _, _, _⟩) rfl (fun K hK => ?_) AllReadyH.nil)
        rw [if_pos (by rfl)]
        refine wp_skip (w' := setBlock (setBlock W.drew w.heap.size o1) w.heap.size o2) (run_estore rfl rfl rfl rfl hS3) ?_
        refine hK.out _ _ trivial (fun hS => ?_)
        clear hK K
        try go_frame
        refine wpAnyH_done (by kernel_rfl) ?_ _
        obtain ⟨W2, hW2⟩ : ∃ W2, W2 = setBlock (setBlock W.drew w.heap.size o1) w.heap.size o2 := ⟨_, rfl⟩
        rw [← hW2] at hH2 hk2 bB2 hr9 ⊢
        clear hW2 hk0 hk1 hE hS3
        go_wp2_with (first
          | ((with_reducible show wpList _ _ _ (Oper.mk (some 28) (Op.load 189 _) _ _ _ _ :: _) _ _); refine wpList_val rfl (ld_inner rfl rfl hr9 hml) ?_)
          | (at_lookup; refine wpList_val rfl (run_look rfl rfl rfl hk2) ?_))
        go_roundw
        case rel => exact ⟨kk + 1, by omega, congrArg (Value.int .i64) (by rw [HXD.out, ← HM.out]; omega), by simp, Lib.hid (by rw [HXD.out]; exact hH2), bB2⟩
        case measure => simp [intOf]; omega
    · obtain rfl : n = kk := by omega
      rw [← HE.out]
      go_wp2
      go_ret
      exact ⟨rfl, hbel⟩
set_option maxRecDepth 100000 in
set_option maxHeartbeats 2000000 in
theorem alkOuter (A : Option Addr) (c : Nat) (l : List (Sta)) (B : Nat) (w : World) (hr : RdS clS 7 w B A l) (hB : B ≤ w.heap.size) (hl : l.length ≤ 1001) (hv : ∀ x ∈ l, staFit x) :
    Calls Try.prog 133 #[.slice A l.length c, .func (.func 134) #[] #[]] w fun e w' => e = .returned (.int .i64 (mx (l.map ouS) : Nat)) ∧ Below w.heap.size w w' := by
  obtain ⟨n, hn⟩ : ∃ n, n = l.length := ⟨_, rfl⟩
  have HN := Lib.hid hn
  have HR := Lib.hid hr
  have HV := Lib.hid hv
  rw [← hn] at hl ⊢
  clear hn hr hv
  have hmm := @run_makeMap Try.prog
  have hB0 := (Below.refl w.heap.size w).alloc (Nat.le_refl _) (.map #[] 0)
  have HE : Hid (mx (l.map ouS) = mx ((l.map ouS).take n)) := Lib.hid (by rw [HN.out, List.take_of_length_le (by simp)])
  go_enter Try.func133, Try.ntmps133
  go_wp2
  go_loopw [6, 13] (fun s6 s13 wr => ∃ kk : Nat, kk ≤ n ∧ s6 = .int .i64 (mx ((l.map ouS).take kk) : Nat) ∧ s13 = .int .i64 kk ∧ Hid (Hist 65 (fun l : List Int => Value.agg (clI l).toArray) (wfL 3) wr w.heap.size kk ((l.map ouS).take kk)) ∧ Below w.heap.size w wr) (fun _ i _ => n - (intOf i).toNat)
  case atStart => exact ⟨0, Nat.zero_le _, rfl, rfl, Lib.hid (Hist.made w), hB0⟩
  case round =>
    obtain ⟨kk, hkk, rfl, rfl, HH, hbel⟩ := hrel
    by_cases hlt : kk < n
    · obtain ⟨x, hx⟩ : ∃ x, l[kk]? = some x := ⟨_, List.getElem?_eq_getElem (by rw [← HN.out]; exact hlt)⟩
      have hvx := HV.out x (List.mem_of_getElem? hx)
      obtain ⟨b1, o1, rfl, hb1, hr1⟩ := rds_row HR.out hx
      have hrow := range_below hr1 hb1 (hbel.mono hB)
      have HXD : Hid ((l.map ouS).take (kk + 1) = (l.map ouS).take kk ++ [ouS x]) := Lib.hid (by
        have hk : kk < l.length := by rw [← HN.out]; exact hlt
        rw [List.getElem?_eq_getElem hk] at hx
        have e := Option.some.inj hx
        rw [List.take_succ_eq_append_getElem (by simpa using hk), List.getElem_map, e]; try rfl)
      have HLT : Hid (w.heap.size < wr.heap.size) := Lib.hid HH.out.lt
      have hcn : @List.count (List Int) instBEqOfDecidableEq (ouS x) ((l.map ouS).take kk) ≤ kk := Nat.le_trans (cnt_le _ _) (by simp; omega)
      have hmx : mx ((l.map ouS).take kk) ≤ kk := Nat.le_trans (mx_le _) (by simp; omega)
      clear hx hr1
      generalize (l.map ouS).take kk = ds at *
      obtain ⟨cn, hc⟩ : ∃ cn, cn = @List.count (List Int) instBEqOfDecidableEq (ouS x) ds := ⟨_, rfl⟩
      obtain ⟨m0, hm0⟩ : ∃ m0, m0 = mx ds := ⟨_, rfl⟩
      have HC := Lib.hid hc
      have hcn' : cn ≤ kk := by rw [hc]; exact hcn
      have HM : Hid (max m0 (cn + 1) = mx (ds ++ [ouS x])) := Lib.hid (by rw [mx_snoc, hm0, hc]; simp)
      have HC2 : Hid (cn + 1 = @List.count (List Int) instBEqOfDecidableEq (ouS x) (ds ++ [ouS x])) := Lib.hid (by rw [hc]; simp)
      have hm1 : m0 ≤ kk := by rw [hm0]; exact hmx
      rw [← hm0]
      have hw : (Lit.int .i64 ((@List.count (List Int) instBEqOfDecidableEq (ouS x) ds : Int) + 1)).wf = true := WalkArith.wf_i64 (by rw [← hc]; omega)
      clear hm0 hcn hmx
      have hxl : (clS x).length = 7 := by first | rfl | (rw [row_length]; exact hvx)
      have hxs : (clS x).toArray.size = 7 := by simpa using hxl
      have hone1 := sta_one x
      have hb8 := AtNew (w := wr) (cs := clS x) (t := 191)
      have hbu : Below w.heap.size w (wr.alloc (.cells (clS x).toArray 191)) := hbel.alloc hbel.size _
      have HLU : Hid (w.heap.size < (wr.alloc (.cells (clS x).toArray 191)).heap.size) := Lib.hid (by have := HLT.out; simp; omega)
      have HHU : Hid (Hist 65 (fun l : List Int => Value.agg (clI l).toArray) (wfL 3) (wr.alloc (.cells (clS x).toArray 191)) w.heap.size kk ds) := Lib.hid (HH.out.of_block (Below.heap_alloc _ _ _ HLT.out))
      have hT : Try.prog.underlying 238 = some (.map 65 3) := Try.underlying238
      clear hB0
      have hone2 := ints_one (ouS x)
      have hml : (clI (ouS x)).length = 3 := by first | rfl | exact hxl
      have hms : (clI (ouS x)).toArray.size = 3 := by simpa using hml
      go_upto_region 7 with (first
        | ((with_reducible show wpList _ _ _ (Oper.mk (some 16) (Op.load 191 _) _ _ _ _ :: _) _ _); refine wpList_val rfl (ld_sta rfl rfl hrow hxl) ?_)
        | ((with_reducible show wpList _ _ _ (Oper.mk none (Op.store 191 (Operand.tmp 8) _) _ _ _ _ :: _) _ _); refine strn_sta rfl rfl rfl hxs hone1 ?_)
        | ((with_reducible show wpList _ _ _ (Oper.mk (some 18) (Op.load 191 _) _ _ _ _ :: _) _ _); refine wpList_val rfl (ld_sta rfl rfl hb8 hxl) ?_)
        | (go_at_call 134; refine (mkOuter x _).mono ?_; rintro e w3 ⟨rfl, b3⟩)
        | ((with_reducible show wpList _ _ _ (Oper.mk none (Op.store 65 (Operand.tmp 9) _) _ _ _ _ :: _) _ _); refine strn_outer rfl rfl rfl hms hone2 ?_))
      have b4 : Below (wr.alloc (.cells (clS x).toArray 191)).heap.size (wr.alloc (.cells (clS x).toArray 191)) (w3.alloc (.cells (clI (ouS x)).toArray 65)) := b3.alloc b3.size _
      have hb9 := AtNew (w := w3) (cs := clI (ouS x)) (t := 65)
      have z9 : w3.heap.size < (w3.alloc (.cells (clI (ouS x)).toArray 65)).heap.size := by simp
      have y9 : w.heap.size < w3.heap.size := Nat.lt_of_lt_of_le HLU.out b3.size
      obtain ⟨W, hW⟩ : ∃ W, W = w3.alloc (.cells (clI (ouS x)).toArray 65) := ⟨_, rfl⟩
      rw [← hW] at b4 hb9 z9 ⊢
      clear hW
      have hH0 : Hist 65 (fun l : List Int => Value.agg (clI l).toArray) (wfL 3) W.drew w.heap.size kk ds := HHU.out.of_block (b4.block _ HLU.out)
      have hk0 := hH0.look famOuter hT (x := ouS x) ⟨rfl, hvx.2⟩
      obtain ⟨v0, st, o1, o2, hE, hL, hS2, hHist⟩ := hH0.entry lawOuter famOuter hT (by unfold maxLen; omega) (x := ouS x) ⟨rfl, hvx.2⟩ hw
      rw [← hc] at hk0 hL hS2
      have hlt0 := hH0.lt
      have hs1 : (setBlock W.drew w.heap.size o1).heap[w.heap.size]? = some o1 := by simp only [setBlock]; rw [Array.getElem?_setIfInBounds_self_of_lt hlt0]
      have hk1 := hL _ hs1
      have hS3 := hS2 _ hs1
      have hs2 : (setBlock (setBlock W.drew w.heap.size o1) w.heap.size o2).heap[w.heap.size]? = some o2 := by
        show (((W.heap.setIfInBounds w.heap.size o1).setIfInBounds w.heap.size o2))[w.heap.size]? = _
        rw [Array.getElem?_setIfInBounds_self_of_lt (by simpa using hlt0)]
      have hH2 := hHist _ hs2
      have hk2 := hH2.look famOuter hT (x := ouS x) ⟨rfl, hvx.2⟩
      rw [← HC2.out] at hk2
      have bB2 : Below w.heap.size w (setBlock (setBlock W.drew w.heap.size o1) w.heap.size o2) :=
        ((hbu.trans (b4.mono hbu.size)).drew.trans (below_setBlock _ (Nat.le_refl _) o1)).trans (below_setBlock _ (Nat.le_refl _) o2)
      have hr9 : (setBlock (setBlock W.drew w.heap.size o1) w.heap.size o2).rangeAt w3.heap.size 0 (clI (ouS x)) := fun j v hj => by
        rw [← hb9 j v hj]
        refine World.cell?_of_block ?_
        show (((W.heap.setIfInBounds w.heap.size o1).setIfInBounds w.heap.size o2))[w3.heap.size]? = _
        rw [Array.getElem?_setIfInBounds_ne (by omega), Array.getElem?_setIfInBounds_ne (by omega)]
      clear hS2 hL hHist hH0 hc hw
      have hL0 : cn + 1 ≤ 1100 := by omega
      refine wp_region_held_drew (S := fun _ => True) (by kernel_rfl) trivial (fun hS => ?_)
      refine held_pure (i := 0) (oi := ⟨some 20, _, _, _, _, _⟩) rfl (by kernel_rfl) (by kernel_rfl) (by kernel_rfl) (fun _ _ _ h => h) (by rfl) (v := ?_) (fun w hSw => ?_) hS (fun hS => ?_)
      rotate_left
      · go_simp; try with_reducible rfl
      try go_frame
      refine wpAnyH_ready (rs := [1]) (by kernel_rfl) (by simp) (AllReadyH.cons (o := ⟨some 21, _, _, _, _, _⟩) rfl (fun K hK => ?_) AllReadyH.nil)
      rw [if_pos (by rfl)]
      refine wp_turn (v := .agg (clI (ouS x)).toArray) (ld_outer rfl rfl hb9 hml) ?_
      refine hK.out _ _ trivial (fun hS => ?_)
      clear hK K
      try go_frame
      refine wpAnyH_ready (rs := [2, 4]) (by kernel_rfl) (by simp) (AllReadyH.cons (o := ⟨some 22, _, _, _, _, _⟩) rfl (fun K hK => ?_) (AllReadyH.cons (o := ⟨some 24, _, _, _, _, _⟩) rfl (fun K hK => ?_) AllReadyH.nil))
      · rw [if_pos (by rfl)]
        refine wp_turn (v := .int .i64 (cn : Int)) (by first | exact run_look rfl rfl rfl hk0 | exact run_look rfl rfl rfl hk1) ?_
        refine hK.out _ _ trivial (fun hS => ?_)
        clear hK K
        try go_frame
        refine held_pure (i := 3) (oi := ⟨some 23, _, _, _, _, _⟩) rfl (by kernel_rfl) (by kernel_rfl) (by kernel_rfl) (fun _ _ _ h => h) (by rfl) (v := .int .i64 ((cn : Int) + 1)) (fun w hSw => by go_simp; exact wrapS _ (by omega) (by omega)) hS (fun hS => ?_)
        try go_frame
        refine wpAnyH_ready (rs := [4]) (by kernel_rfl) (by simp) (AllReadyH.cons (o := ⟨some 24, _, _, _, _, _⟩) rfl (fun K hK => ?_) AllReadyH.nil)
        rw [if_pos (by rfl)]
        refine wp_turn (v := .tuple #[v0, goInt st]) (w' := setBlock W.drew w.heap.size o1) (run_entry rfl rfl rfl hE) ?_
        refine hK.out _ _ trivial (fun hS => ?_)
        clear hK K
        try go_frame
        refine held_pure (i := 5) (oi := ⟨some 25, _, _, _, _, _⟩) rfl (by kernel_rfl) (by kernel_rfl) (by kernel_rfl) (fun _ _ _ h => h) (by rfl) (v := ?_) (fun w hSw => ?_) hS (fun hS => ?_)
        rotate_left
        · go_simp; try with_reducible rfl
        try go_frame
        refine wpAnyH_ready (rs := [6]) (by kernel_rfl) (by simp) (AllReadyH.cons (o := ⟨none, _, _, _, _, _⟩) rfl (fun K hK => ?_) AllReadyH.nil)
        rw [if_pos (by rfl)]
        refine wp_skip (w' := setBlock (setBlock W.drew w.heap.size o1) w.heap.size o2) (run_estore rfl rfl rfl rfl hS3) ?_
        refine hK.out _ _ trivial (fun hS => ?_)
        clear hK K
        try go_frame
        refine wpAnyH_done (by kernel_rfl) ?_ _
        obtain ⟨W2, hW2⟩ : ∃ W2, W2 = setBlock (setBlock W.drew w.heap.size o1) w.heap.size o2 := ⟨_, rfl⟩
        rw [← hW2] at hH2 hk2 bB2 hr9 ⊢
        clear hW2 hk0 hk1 hE hS3
        go_wp2_with (first
          | ((with_reducible show wpList _ _ _ (Oper.mk (some 28) (Op.load 65 _) _ _ _ _ :: _) _ _); refine wpList_val rfl (ld_outer rfl rfl hr9 hml) ?_)
          | (at_lookup; refine wpList_val rfl (run_look rfl rfl rfl hk2) ?_))
        go_roundw
        case rel => exact ⟨kk + 1, by omega, congrArg (Value.int .i64) (by rw [HXD.out, ← HM.out]; omega), by simp, Lib.hid (by rw [HXD.out]; exact hH2), bB2⟩
        case measure => simp [intOf]; omega
      · rw [if_pos (by rfl)]
        refine wp_turn (v := .tuple #[v0, goInt st]) (w' := setBlock W.drew w.heap.size o1) (run_entry rfl rfl rfl hE) ?_
        refine hK.out _ _ trivial (fun hS => ?_)
        clear hK K
        try go_frame
        refine held_pure (i := 5) (oi := ⟨some 25, _, _, _, _, _⟩) rfl (by kernel_rfl) (by kernel_rfl) (by kernel_rfl) (fun _ _ _ h => h) (by rfl) (v := ?_) (fun w hSw => ?_) hS (fun hS => ?_)
        rotate_left
        · go_simp; try with_reducible rfl
        try go_frame
        refine wpAnyH_ready (rs := [2]) (by kernel_rfl) (by simp) (AllReadyH.cons (o := ⟨some 22, _, _, _, _, _⟩) rfl (fun K hK => ?_) AllReadyH.nil)
        rw [if_pos (by rfl)]
        refine wp_turn (v := .int .i64 (cn : Int)) (by first | exact run_look rfl rfl rfl hk0 | exact run_look rfl rfl rfl hk1) ?_
        refine hK.out _ _ trivial (fun hS => ?_)
        clear hK K
        try go_frame
        refine held_pure (i := 3) (oi := ⟨some 23, _, _, _, _, _⟩) rfl (by kernel_rfl) (by kernel_rfl) (by kernel_rfl) (fun _ _ _ h => h) (by rfl) (v := .int .i64 ((cn : Int) + 1)) (fun w hSw => by go_simp; exact wrapS _ (by omega) (by omega)) hS (fun hS => ?_)
        try go_frame
        refine wpAnyH_ready (rs := [6]) (by kernel_rfl) (by simp) (AllReadyH.cons (o := ⟨none, _, _, _, _, _⟩) rfl (fun K hK => ?_) AllReadyH.nil)
        rw [if_pos (by rfl)]
        refine wp_skip (w' := setBlock (setBlock W.drew w.heap.size o1) w.heap.size o2) (run_estore rfl rfl rfl rfl hS3) ?_
        refine hK.out _ _ trivial (fun hS => ?_)
        clear hK K
        try go_frame
        refine wpAnyH_done (by kernel_rfl) ?_ _
        obtain ⟨W2, hW2⟩ : ∃ W2, W2 = setBlock (setBlock W.drew w.heap.size o1) w.heap.size o2 := ⟨_, rfl⟩
        rw [← hW2] at hH2 hk2 bB2 hr9 ⊢
        clear hW2 hk0 hk1 hE hS3
        go_wp2_with (first
          | ((with_reducible show wpList _ _ _ (Oper.mk (some 28) (Op.load 65 _) _ _ _ _ :: _) _ _); refine wpList_val rfl (ld_outer rfl rfl hr9 hml) ?_)
          | (at_lookup; refine wpList_val rfl (run_look rfl rfl rfl hk2) ?_))
        go_roundw
        case rel => exact ⟨kk + 1, by omega, congrArg (Value.int .i64) (by rw [HXD.out, ← HM.out]; omega), by simp, Lib.hid (by rw [HXD.out]; exact hH2), bB2⟩
        case measure => simp [intOf]; omega
    · obtain rfl : n = kk := by omega
      rw [← HE.out]
      go_wp2
      go_ret
      exact ⟨rfl, hbel⟩
set_option maxRecDepth 100000 in
set_option maxHeartbeats 2000000 in
theorem alkSw (A : Option Addr) (c : Nat) (l : List (Sta)) (B : Nat) (w : World) (hr : RdS clS 7 w B A l) (hB : B ≤ w.heap.size) (hl : l.length ≤ 1001) (hv : ∀ x ∈ l, staFit x) :
    Calls Try.prog 135 #[.slice A l.length c, .func (.func 136) #[] #[]] w fun e w' => e = .returned (.int .i64 (mx (l.map Sta.sw) : Nat)) ∧ Below w.heap.size w w' := by
  obtain ⟨n, hn⟩ : ∃ n, n = l.length := ⟨_, rfl⟩
  have HN := Lib.hid hn
  have HR := Lib.hid hr
  have HV := Lib.hid hv
  rw [← hn] at hl ⊢
  clear hn hr hv
  have hmm := @run_makeMap Try.prog
  have hB0 := (Below.refl w.heap.size w).alloc (Nat.le_refl _) (.map #[] 0)
  have HE : Hid (mx (l.map Sta.sw) = mx ((l.map Sta.sw).take n)) := Lib.hid (by rw [HN.out, List.take_of_length_le (by simp)])
  go_enter Try.func135, Try.ntmps135
  go_wp2
  go_loopw [6, 13] (fun s6 s13 wr => ∃ kk : Nat, kk ≤ n ∧ s6 = .int .i64 (mx ((l.map Sta.sw).take kk) : Nat) ∧ s13 = .int .i64 kk ∧ Hid (Hist 3 (fun a : Int => Value.int .i64 a) (wfI) wr w.heap.size kk ((l.map Sta.sw).take kk)) ∧ Below w.heap.size w wr) (fun _ i _ => n - (intOf i).toNat)
  case atStart => exact ⟨0, Nat.zero_le _, rfl, rfl, Lib.hid (Hist.made w), hB0⟩
  case round =>
    obtain ⟨kk, hkk, rfl, rfl, HH, hbel⟩ := hrel
    by_cases hlt : kk < n
    · obtain ⟨x, hx⟩ : ∃ x, l[kk]? = some x := ⟨_, List.getElem?_eq_getElem (by rw [← HN.out]; exact hlt)⟩
      have hvx := HV.out x (List.mem_of_getElem? hx)
      obtain ⟨b1, o1, rfl, hb1, hr1⟩ := rds_row HR.out hx
      have hrow := range_below hr1 hb1 (hbel.mono hB)
      have HXD : Hid ((l.map Sta.sw).take (kk + 1) = (l.map Sta.sw).take kk ++ [Sta.sw x]) := Lib.hid (by
        have hk : kk < l.length := by rw [← HN.out]; exact hlt
        rw [List.getElem?_eq_getElem hk] at hx
        have e := Option.some.inj hx
        rw [List.take_succ_eq_append_getElem (by simpa using hk), List.getElem_map, e]; try rfl)
      have HLT : Hid (w.heap.size < wr.heap.size) := Lib.hid HH.out.lt
      have hcn : @List.count (Int) instBEqOfDecidableEq (Sta.sw x) ((l.map Sta.sw).take kk) ≤ kk := Nat.le_trans (cnt_le _ _) (by simp; omega)
      have hmx : mx ((l.map Sta.sw).take kk) ≤ kk := Nat.le_trans (mx_le _) (by simp; omega)
      clear hx hr1
      generalize (l.map Sta.sw).take kk = ds at *
      obtain ⟨cn, hc⟩ : ∃ cn, cn = @List.count (Int) instBEqOfDecidableEq (Sta.sw x) ds := ⟨_, rfl⟩
      obtain ⟨m0, hm0⟩ : ∃ m0, m0 = mx ds := ⟨_, rfl⟩
      have HC := Lib.hid hc
      have hcn' : cn ≤ kk := by rw [hc]; exact hcn
      have HM : Hid (max m0 (cn + 1) = mx (ds ++ [Sta.sw x])) := Lib.hid (by rw [mx_snoc, hm0, hc]; simp)
      have HC2 : Hid (cn + 1 = @List.count (Int) instBEqOfDecidableEq (Sta.sw x) (ds ++ [Sta.sw x])) := Lib.hid (by rw [hc]; simp)
      have hm1 : m0 ≤ kk := by rw [hm0]; exact hmx
      rw [← hm0]
      have hw : (Lit.int .i64 ((@List.count (Int) instBEqOfDecidableEq (Sta.sw x) ds : Int) + 1)).wf = true := WalkArith.wf_i64 (by rw [← hc]; omega)
      clear hm0 hcn hmx
      have hxl : (clS x).length = 7 := by first | rfl | (rw [row_length]; exact hvx)
      have hxs : (clS x).toArray.size = 7 := by simpa using hxl
      have hone1 := sta_one x
      have hb8 := AtNew (w := wr) (cs := clS x) (t := 191)
      have hbu : Below w.heap.size w (wr.alloc (.cells (clS x).toArray 191)) := hbel.alloc hbel.size _
      have HLU : Hid (w.heap.size < (wr.alloc (.cells (clS x).toArray 191)).heap.size) := Lib.hid (by have := HLT.out; simp; omega)
      have HHU : Hid (Hist 3 (fun a : Int => Value.int .i64 a) (wfI) (wr.alloc (.cells (clS x).toArray 191)) w.heap.size kk ds) := Lib.hid (HH.out.of_block (Below.heap_alloc _ _ _ HLT.out))
      have hT : Try.prog.underlying 236 = some (.map 3 3) := Try.underlying236
      clear hB0
      have PUT : Hid (∀ w3, Below (wr.alloc (.cells (clS x).toArray 191)).heap.size (wr.alloc (.cells (clS x).toArray 191)) w3 → ∃ w4, (Instr.lookup 236 (.map (some w.heap.size)) (.int .i64 (Sta.sw x)) false).run Try.prog w3 = .ok (.int .i64 (cn : Int)) w3 ∧ (Instr.mapUpdate 236 (.map (some w.heap.size)) (.int .i64 (Sta.sw x)) (.int .i64 ((cn : Int) + 1))).run Try.prog w3 = .ok () w4 ∧ Hist 3 (fun a : Int => Value.int .i64 a) (wfI) w4 w.heap.size (kk + 1) (ds ++ [Sta.sw x]) ∧ Below w.heap.size w w4 ∧ (Instr.lookup 236 (.map (some w.heap.size)) (.int .i64 (Sta.sw x)) false).run Try.prog w4 = .ok (.int .i64 ((cn : Int) + 1)) w4) := Lib.hid (by
        intro w3 b3
        have h3 := HHU.out.of_block (b3.block _ HLU.out)
        obtain ⟨w4, hu, hh, hg⟩ := h3.put famInt hT (by unfold maxLen; omega) (x := Sta.sw x) (hvx.1 x.sw (by simp [inS])) hw
        have hk2 := hh.look famInt hT (x := Sta.sw x) (hvx.1 x.sw (by simp [inS]))
        rw [← HC2.out] at hk2
        have hb3 := hbu.trans (b3.mono hbu.size)
        refine ⟨w4, ?_, ?_, hh, hb3.grown hg hb3.size (fun j hj => by cases hj; exact Nat.le_refl _), hk2⟩
        · rw [hc]; exact h3.look famInt hT (hvx.1 x.sw (by simp [inS]))
        · rw [hc]; exact hu)
      have hL0 : cn + 1 ≤ 1100 := by omega
      clear hw hc
      go_wp2_with (first
        | ((with_reducible show wpList _ _ _ (Oper.mk (some 16) (Op.load 191 _) _ _ _ _ :: _) _ _); refine wpList_val rfl (ld_sta rfl rfl hrow hxl) ?_)
        | ((with_reducible show wpList _ _ _ (Oper.mk none (Op.store 191 (Operand.tmp 8) _) _ _ _ _ :: _) _ _); refine strn_sta rfl rfl rfl hxs hone1 ?_)
        | ((with_reducible show wpList _ _ _ (Oper.mk (some 18) (Op.load 191 _) _ _ _ _ :: _) _ _); refine wpList_val rfl (ld_sta rfl rfl hb8 hxl) ?_)
        | (go_at_call 136; refine (mkSw x _).mono ?_; rintro e w3 ⟨rfl, b3⟩; obtain ⟨w4, hk0, hu, hh, hb4, hk2⟩ := PUT.out w3 b3; have HH4 := Lib.hid hh; clear hh)
        | (at_mapUpdate; refine wpList_skip rfl (run_mupd rfl rfl rfl rfl hu) ?_)
        | ((with_reducible show wpList _ _ _ (Oper.mk (some 22) (Op.lookup _ _ _ _) _ _ _ _ :: _) _ _); refine wpList_val rfl (run_look rfl rfl rfl hk0) ?_)
        | ((with_reducible show wpList _ _ _ (Oper.mk _ (Op.lookup _ _ _ _) _ _ _ _ :: _) _ _); refine wpList_val rfl (run_look rfl rfl rfl hk2) ?_))
      go_roundw
      case rel => exact ⟨kk + 1, by omega, by rw [HXD.out, ← HM.out]; congr 1; omega, by simp, Lib.hid (by rw [HXD.out]; exact HH4.out), hb4⟩
      case measure => simp [intOf]; omega
    · obtain rfl : n = kk := by omega
      rw [← HE.out]
      go_wp2
      go_ret
      exact ⟨rfl, hbel⟩
end Go.Proofs.Ytogidfagkgccmaa

/-
  Are all right? all, ContainsFunc, IndexFunc at bounds, addresses, numbers, bindings (layer 20). Conditions are each theorem's own.
-/
namespace Go.Proofs.Ytogidfagkgccmaa
open Go.RowKit Go.Shelf
set_option maxRecDepth 100000 in
set_option maxHeartbeats 1000000 in
theorem idxBnd (g : Nat) (caps : Array Value) (f : Bnd → Bool) (A : Option Addr) (c : Nat) (l : List (Bnd)) (B : Nat) (w : World) (eg : ∀ args w, (callFunc g args).run Try.prog w = .ok (.enter g args) w)
    (hr : RdS clB 3 w B A l) (hB : B ≤ w.heap.size) (hl : l.length ≤ 100000) 
    (hp : ∀ (W : World) (x : Bnd), x ∈ l → Below w.heap.size w W → Calls Try.prog g (#[.agg (clB x).toArray] ++ caps) W fun e w' => e = .returned (.bool (f x)) ∧ Below w.heap.size w w') :
    Calls Try.prog 193 #[.slice A l.length c, .func (.func g) #[] caps] w fun e w' => (∃ k : Int, e = .returned (.int .i64 k) ∧ decide (0 ≤ k) = l.any f ∧ (-1 ≤ k ∧ k ≤ 100000)) ∧ Below w.heap.size w w' := by
  obtain ⟨n, hn⟩ : ∃ n, n = l.length := ⟨_, rfl⟩
  have HN := Lib.hid hn
  have HP := Lib.hid hp
  have HR := Lib.hid hr
  rw [← hn] at hl ⊢
  clear hn hp hr
  go_enter Try.func193, Try.ntmps193
  go_wp2
  go_loopw [5, 8] (fun _ s8 wr => ∃ kk : Nat, kk ≤ n ∧ s8 = .int .i64 kk ∧ Hid (l.any f = (l.drop kk).any f) ∧ Below w.heap.size w wr) (fun _ i _ => n - (intOf i).toNat)
  case atStart => exact ⟨0, Nat.zero_le _, rfl, Lib.hid rfl, Below.refl _ w⟩
  case round =>
    obtain ⟨kk, hkk, rfl, HE, hbel⟩ := hrel
    by_cases hlt : kk < n
    · obtain ⟨x, hx⟩ : ∃ x, l[kk]? = some x := ⟨_, List.getElem?_eq_getElem (by rw [← HN.out]; exact hlt)⟩
      have hcall := Lib.hid (HP.out wr x (List.mem_of_getElem? hx) hbel)
      obtain ⟨b1, o1, rfl, hb1, hr1⟩ := rds_row HR.out hx
      have hrow := range_below hr1 hb1 (hbel.mono hB)
      have hxl : (clB x).length = 3 := rfl
      have HXD : Hid (l.drop kk = x :: l.drop (kk + 1)) := Lib.hid (by
        have hk : kk < l.length := by rw [← HN.out]; exact hlt
        rw [List.drop_eq_getElem_cons hk]
        rw [List.getElem?_eq_getElem hk] at hx
        rw [Option.some.inj hx])
      clear hx hr1
      cases hq : f x with
      | true =>
        have HQ := Lib.hid hq
        clear hq
        go_wp2_with (first
          | ((with_reducible show wpList _ _ _ (Oper.mk _ (Op.load 185 _) _ _ _ _ :: _) _ _); refine wpList_val rfl (ld_bnd rfl rfl hrow hxl) ?_)
          | (go_at_fn g; refine hcall.out.mono ?_; rintro e w' ⟨rfl, hb'⟩; rw [HQ.out]))
        go_ret
        exact ⟨⟨kk, rfl, by rw [HE.out, HXD.out, List.any_cons, HQ.out, Bool.true_or]; exact decide_eq_true (by omega), by omega, by omega⟩, hb'⟩
      | false =>
        have HQ := Lib.hid hq
        clear hq
        go_wp2_with (first
          | ((with_reducible show wpList _ _ _ (Oper.mk _ (Op.load 185 _) _ _ _ _ :: _) _ _); refine wpList_val rfl (ld_bnd rfl rfl hrow hxl) ?_)
          | (go_at_fn g; refine hcall.out.mono ?_; rintro e w' ⟨rfl, hb'⟩; rw [HQ.out]))
        go_roundw
        case rel => exact ⟨kk + 1, by omega, by simp, Lib.hid (by rw [HE.out, HXD.out, List.any_cons, HQ.out, Bool.false_or]), hb'⟩
        case measure => simp [intOf]; omega
    · obtain rfl : n = kk := by omega
      go_wp2
      go_ret
      exact ⟨⟨-1, rfl, by rw [HE.out, List.drop_eq_nil_of_le (by rw [← HN.out]; exact Nat.le_refl _)]; rfl, by omega, by omega⟩, hbel⟩
set_option maxRecDepth 100000 in
theorem conBnd (g : Nat) (caps : Array Value) (f : Bnd → Bool) (A : Option Addr) (c : Nat) (l : List (Bnd)) (B : Nat) (w : World) (eg : ∀ args w, (callFunc g args).run Try.prog w = .ok (.enter g args) w)
    (hr : RdS clB 3 w B A l) (hB : B ≤ w.heap.size) (hl : l.length ≤ 100000) 
    (hp : ∀ (W : World) (x : Bnd), x ∈ l → Below w.heap.size w W → Calls Try.prog g (#[.agg (clB x).toArray] ++ caps) W fun e w' => e = .returned (.bool (f x)) ∧ Below w.heap.size w w') :
    Calls Try.prog 186 #[.slice A l.length c, .func (.func g) #[] caps] w fun e w' => e = .returned (.bool (l.any f)) ∧ Below w.heap.size w w' := by
  have hcall := Lib.hid (idxBnd g caps f A c l B w eg hr hB hl hp)
  generalize hR : l.any f = R at hcall ⊢
  clear hp hr hR
  go_enter Try.func186, Try.ntmps186
  go_wp2_with (go_at_call 193; refine hcall.out.mono ?_; rintro e w' ⟨⟨k, rfl, hk, hk0, hk1⟩, hb'⟩; have HK := Lib.hid hk; clear hk)
  go_ret
  exact ⟨by rw [← HK.out]; rfl, hb'⟩
set_option maxRecDepth 100000 in
theorem notBnd (g : Nat) (caps : Array Value) (f : Bool) (x : Bnd) (bx : Nat) (w : World) (eg : ∀ args w, (callFunc g args).run Try.prog w = .ok (.enter g args) w) (hb : w.cell? ⟨bx, 0, none⟩ = some (.func (.func g) #[] caps)) (_hlt : bx < w.heap.size) 
    (hp : ∀ (W : World), Below w.heap.size w W → Calls Try.prog g (#[.agg (clB x).toArray] ++ caps) W fun e w' => e = .returned (.bool f) ∧ Below w.heap.size w w') :
    Calls Try.prog 187 (#[.agg (clB x).toArray] ++ #[.pointer (some ⟨bx, 0, none⟩)]) w fun e w' => e = .returned (.bool (!f)) ∧ Below w.heap.size w w' := by
  have hxl : (clB x).length = 3 := rfl
  have h0 := AtNew (w := w) (cs := clB x) (t := 185)
  have hbx := (World.cell?_alloc_lt w (.cells (clB x).toArray 185) ⟨bx, 0, none⟩ _hlt).trans hb
  have hB1 : Below w.heap.size w (w.alloc (.cells (clB x).toArray 185)) := (Below.refl _ w).alloc (Nat.le_refl _) _
  have HP := Lib.hid (hp _ hB1)
  clear hp hb
  show Calls Try.prog 187 #[.agg (clB x).toArray, .pointer (some ⟨bx, 0, none⟩)] w _
  go_enter Try.func187, Try.ntmps187
  go_wp2_with (first
    | ((with_reducible show wpList _ _ _ (Oper.mk _ (Op.load 185 _) _ _ _ _ :: _) _ _); refine wpList_val rfl (ld_bnd rfl rfl h0 hxl) ?_)
    | (go_at_fn g; refine HP.out.mono ?_; rintro e w' ⟨rfl, hb'⟩))
  go_ret
  exact ⟨rfl, hb'⟩
set_option maxRecDepth 100000 in
theorem allBnd (g : Nat) (caps : Array Value) (f : Bnd → Bool) (A : Option Addr) (c : Nat) (l : List (Bnd)) (B : Nat) (w : World) (eg : ∀ args w, (callFunc g args).run Try.prog w = .ok (.enter g args) w)
    (hr : RdS clB 3 w B A l) (hB : B ≤ w.heap.size) (hl : l.length ≤ 100000) 
    (hp : ∀ (W : World) (x : Bnd), x ∈ l → Below w.heap.size w W → Calls Try.prog g (#[.agg (clB x).toArray] ++ caps) W fun e w' => e = .returned (.bool (f x)) ∧ Below W.heap.size W w') :
    Calls Try.prog 166 #[.slice A l.length c, .func (.func g) #[] caps] w fun e w' => e = .returned (.bool (l.all f)) ∧ Below w.heap.size w w' := by
  obtain ⟨W, hW⟩ : ∃ W, W = w.alloc (.cells #[.func (.func g) #[] caps] 234) := ⟨_, rfl⟩
  have hB1 : Below w.heap.size w W := by rw [hW]; exact (Below.refl _ w).alloc (Nat.le_refl _) _
  have hc : W.cell? ⟨w.heap.size, 0, none⟩ = some (.func (.func g) #[] caps) := by rw [hW, World.cell?_alloc_new]; rfl
  have hz : w.heap.size < W.heap.size := by rw [hW]; simp
  have hcall := Lib.hid (conBnd 187 #[.pointer (some ⟨w.heap.size, 0, none⟩)] (fun x => !(f x)) A c l B W (fun _ _ => rfl) (hr.below (hB1.mono hB)) (Nat.le_trans hB hB1.size) hl (fun U x hx hU =>
    (notBnd g caps (f x) x w.heap.size U eg ((hU.cell (p := ⟨w.heap.size, 0, none⟩) hz).trans hc) (Nat.lt_of_lt_of_le hz hU.size) (fun V hV => (hp V x hx (hB1.trans ((hU.trans (hV.mono hU.size)).mono hB1.size))).mono (by
      rintro e w' ⟨rfl, hb'⟩
      exact ⟨rfl, hV.trans (hb'.mono hV.size)⟩))).mono (by
      rintro e w' ⟨rfl, hb'⟩
      exact ⟨rfl, hU.trans (hb'.mono hU.size)⟩)))
  have HA : Hid ((!(l.any fun x => !(f x))) = l.all f) := Lib.hid (by rw [List.all_eq_not_any_not])
  generalize (l.any fun x => !(f x)) = R at hcall HA
  clear hp hr
  go_enter Try.func166, Try.ntmps166
  go_wp2_with (first
    | (go_at_call 186; rw [← hW]; refine hcall.out.mono ?_; rintro e w' ⟨rfl, hb'⟩))
  go_ret
  exact ⟨by rw [← HA.out]; rfl, hB1.trans (hb'.mono hB1.size)⟩
set_option maxRecDepth 100000 in
set_option maxHeartbeats 1000000 in
theorem idxSix (g : Nat) (caps : Array Value) (f : List UInt8 → Bool) (A : Option Addr) (c : Nat) (l : List (List UInt8)) (B : Nat) (w : World) (eg : ∀ args w, (callFunc g args).run Try.prog w = .ok (.enter g args) w)
    (hr : RdS row 16 w B A l) (hB : B ≤ w.heap.size) (hl : l.length ≤ 100000) (hv : ∀ x ∈ l, x.length = 16) 
    (hp : ∀ (W : World) (x : List UInt8), x ∈ l → Below w.heap.size w W → Calls Try.prog g (#[.agg (row x).toArray] ++ caps) W fun e w' => e = .returned (.bool (f x)) ∧ Below w.heap.size w w') :
    Calls Try.prog 188 #[.slice A l.length c, .func (.func g) #[] caps] w fun e w' => (∃ k : Int, e = .returned (.int .i64 k) ∧ decide (0 ≤ k) = l.any f ∧ (-1 ≤ k ∧ k ≤ 100000)) ∧ Below w.heap.size w w' := by
  obtain ⟨n, hn⟩ : ∃ n, n = l.length := ⟨_, rfl⟩
  have HN := Lib.hid hn
  have HP := Lib.hid hp
  have HR := Lib.hid hr
  rw [← hn] at hl ⊢
  clear hn hp hr
  have HV := Lib.hid hv
  clear hv
  go_enter Try.func188, Try.ntmps188
  go_wp2
  go_loopw [5, 8] (fun _ s8 wr => ∃ kk : Nat, kk ≤ n ∧ s8 = .int .i64 kk ∧ Hid (l.any f = (l.drop kk).any f) ∧ Below w.heap.size w wr) (fun _ i _ => n - (intOf i).toNat)
  case atStart => exact ⟨0, Nat.zero_le _, rfl, Lib.hid rfl, Below.refl _ w⟩
  case round =>
    obtain ⟨kk, hkk, rfl, HE, hbel⟩ := hrel
    by_cases hlt : kk < n
    · obtain ⟨x, hx⟩ : ∃ x, l[kk]? = some x := ⟨_, List.getElem?_eq_getElem (by rw [← HN.out]; exact hlt)⟩
      have hcall := Lib.hid (HP.out wr x (List.mem_of_getElem? hx) hbel)
      obtain ⟨b1, o1, rfl, hb1, hr1⟩ := rds_row HR.out hx
      have hrow := range_below hr1 hb1 (hbel.mono hB)
      have hxv := HV.out x (List.mem_of_getElem? hx)
      have hxl : (row x).length = 16 := by rw [row_length]; exact hxv
      have HXD : Hid (l.drop kk = x :: l.drop (kk + 1)) := Lib.hid (by
        have hk : kk < l.length := by rw [← HN.out]; exact hlt
        rw [List.drop_eq_getElem_cons hk]
        rw [List.getElem?_eq_getElem hk] at hx
        rw [Option.some.inj hx])
      clear hx hr1
      cases hq : f x with
      | true =>
        have HQ := Lib.hid hq
        clear hq
        go_wp2_with (first
          | ((with_reducible show wpList _ _ _ (Oper.mk _ (Op.load 70 _) _ _ _ _ :: _) _ _); refine wpList_val rfl (ld_six rfl rfl hrow hxl) ?_)
          | (go_at_fn g; refine hcall.out.mono ?_; rintro e w' ⟨rfl, hb'⟩; rw [HQ.out]))
        go_ret
        exact ⟨⟨kk, rfl, by rw [HE.out, HXD.out, List.any_cons, HQ.out, Bool.true_or]; exact decide_eq_true (by omega), by omega, by omega⟩, hb'⟩
      | false =>
        have HQ := Lib.hid hq
        clear hq
        go_wp2_with (first
          | ((with_reducible show wpList _ _ _ (Oper.mk _ (Op.load 70 _) _ _ _ _ :: _) _ _); refine wpList_val rfl (ld_six rfl rfl hrow hxl) ?_)
          | (go_at_fn g; refine hcall.out.mono ?_; rintro e w' ⟨rfl, hb'⟩; rw [HQ.out]))
        go_roundw
        case rel => exact ⟨kk + 1, by omega, by simp, Lib.hid (by rw [HE.out, HXD.out, List.any_cons, HQ.out, Bool.false_or]), hb'⟩
        case measure => simp [intOf]; omega
    · obtain rfl : n = kk := by omega
      go_wp2
      go_ret
      exact ⟨⟨-1, rfl, by rw [HE.out, List.drop_eq_nil_of_le (by rw [← HN.out]; exact Nat.le_refl _)]; rfl, by omega, by omega⟩, hbel⟩
set_option maxRecDepth 100000 in
theorem conSix (g : Nat) (caps : Array Value) (f : List UInt8 → Bool) (A : Option Addr) (c : Nat) (l : List (List UInt8)) (B : Nat) (w : World) (eg : ∀ args w, (callFunc g args).run Try.prog w = .ok (.enter g args) w)
    (hr : RdS row 16 w B A l) (hB : B ≤ w.heap.size) (hl : l.length ≤ 100000) (hv : ∀ x ∈ l, x.length = 16) 
    (hp : ∀ (W : World) (x : List UInt8), x ∈ l → Below w.heap.size w W → Calls Try.prog g (#[.agg (row x).toArray] ++ caps) W fun e w' => e = .returned (.bool (f x)) ∧ Below w.heap.size w w') :
    Calls Try.prog 168 #[.slice A l.length c, .func (.func g) #[] caps] w fun e w' => e = .returned (.bool (l.any f)) ∧ Below w.heap.size w w' := by
  have hcall := Lib.hid (idxSix g caps f A c l B w eg hr hB hl hv hp)
  generalize hR : l.any f = R at hcall ⊢
  clear hp hr hR
  go_enter Try.func168, Try.ntmps168
  go_wp2_with (go_at_call 188; refine hcall.out.mono ?_; rintro e w' ⟨⟨k, rfl, hk, hk0, hk1⟩, hb'⟩; have HK := Lib.hid hk; clear hk)
  go_ret
  exact ⟨by rw [← HK.out]; rfl, hb'⟩
set_option maxRecDepth 100000 in
theorem notSix (g : Nat) (caps : Array Value) (f : Bool) (x : List UInt8) (bx : Nat) (w : World) (eg : ∀ args w, (callFunc g args).run Try.prog w = .ok (.enter g args) w) (hb : w.cell? ⟨bx, 0, none⟩ = some (.func (.func g) #[] caps)) (_hlt : bx < w.heap.size) (hx : x.length = 16) 
    (hp : ∀ (W : World), Below w.heap.size w W → Calls Try.prog g (#[.agg (row x).toArray] ++ caps) W fun e w' => e = .returned (.bool f) ∧ Below w.heap.size w w') :
    Calls Try.prog 169 (#[.agg (row x).toArray] ++ #[.pointer (some ⟨bx, 0, none⟩)]) w fun e w' => e = .returned (.bool (!f)) ∧ Below w.heap.size w w' := by
  have hxl : (row x).length = 16 := by rw [row_length]; exact hx
  have h0 := AtNew (w := w) (cs := row x) (t := 70)
  have hbx := (World.cell?_alloc_lt w (.cells (row x).toArray 70) ⟨bx, 0, none⟩ _hlt).trans hb
  have hB1 : Below w.heap.size w (w.alloc (.cells (row x).toArray 70)) := (Below.refl _ w).alloc (Nat.le_refl _) _
  have HP := Lib.hid (hp _ hB1)
  clear hp hb
  show Calls Try.prog 169 #[.agg (row x).toArray, .pointer (some ⟨bx, 0, none⟩)] w _
  go_enter Try.func169, Try.ntmps169
  go_wp2_with (first
    | ((with_reducible show wpList _ _ _ (Oper.mk _ (Op.load 70 _) _ _ _ _ :: _) _ _); refine wpList_val rfl (ld_six rfl rfl h0 hxl) ?_)
    | (go_at_fn g; refine HP.out.mono ?_; rintro e w' ⟨rfl, hb'⟩))
  go_ret
  exact ⟨rfl, hb'⟩
set_option maxRecDepth 100000 in
theorem allSix (g : Nat) (caps : Array Value) (f : List UInt8 → Bool) (A : Option Addr) (c : Nat) (l : List (List UInt8)) (B : Nat) (w : World) (eg : ∀ args w, (callFunc g args).run Try.prog w = .ok (.enter g args) w)
    (hr : RdS row 16 w B A l) (hB : B ≤ w.heap.size) (hl : l.length ≤ 100000) (hv : ∀ x ∈ l, x.length = 16) 
    (hp : ∀ (W : World) (x : List UInt8), x ∈ l → Below w.heap.size w W → Calls Try.prog g (#[.agg (row x).toArray] ++ caps) W fun e w' => e = .returned (.bool (f x)) ∧ Below W.heap.size W w') :
    Calls Try.prog 122 #[.slice A l.length c, .func (.func g) #[] caps] w fun e w' => e = .returned (.bool (l.all f)) ∧ Below w.heap.size w w' := by
  obtain ⟨W, hW⟩ : ∃ W, W = w.alloc (.cells #[.func (.func g) #[] caps] 182) := ⟨_, rfl⟩
  have hB1 : Below w.heap.size w W := by rw [hW]; exact (Below.refl _ w).alloc (Nat.le_refl _) _
  have hc : W.cell? ⟨w.heap.size, 0, none⟩ = some (.func (.func g) #[] caps) := by rw [hW, World.cell?_alloc_new]; rfl
  have hz : w.heap.size < W.heap.size := by rw [hW]; simp
  have hcall := Lib.hid (conSix 169 #[.pointer (some ⟨w.heap.size, 0, none⟩)] (fun x => !(f x)) A c l B W (fun _ _ => rfl) (hr.below (hB1.mono hB)) (Nat.le_trans hB hB1.size) hl hv (fun U x hx hU =>
    (notSix g caps (f x) x w.heap.size U eg ((hU.cell (p := ⟨w.heap.size, 0, none⟩) hz).trans hc) (Nat.lt_of_lt_of_le hz hU.size) (hv x hx) (fun V hV => (hp V x hx (hB1.trans ((hU.trans (hV.mono hU.size)).mono hB1.size))).mono (by
      rintro e w' ⟨rfl, hb'⟩
      exact ⟨rfl, hV.trans (hb'.mono hV.size)⟩))).mono (by
      rintro e w' ⟨rfl, hb'⟩
      exact ⟨rfl, hU.trans (hb'.mono hU.size)⟩)))
  have HA : Hid ((!(l.any fun x => !(f x))) = l.all f) := Lib.hid (by rw [List.all_eq_not_any_not])
  generalize (l.any fun x => !(f x)) = R at hcall HA
  clear hp hr
  go_enter Try.func122, Try.ntmps122
  go_wp2_with (first
    | (go_at_call 168; rw [← hW]; refine hcall.out.mono ?_; rintro e w' ⟨rfl, hb'⟩))
  go_ret
  exact ⟨by rw [← HA.out]; rfl, hB1.trans (hb'.mono hB1.size)⟩
set_option maxRecDepth 100000 in
set_option maxHeartbeats 1000000 in
theorem idxSta (g : Nat) (caps : Array Value) (f : Sta → Bool) (A : Option Addr) (c : Nat) (l : List (Sta)) (B : Nat) (w : World) (eg : ∀ args w, (callFunc g args).run Try.prog w = .ok (.enter g args) w)
    (hr : RdS clS 7 w B A l) (hB : B ≤ w.heap.size) (hl : l.length ≤ 100000) 
    (hp : ∀ (W : World) (x : Sta), x ∈ l → Below w.heap.size w W → Calls Try.prog g (#[.agg (clS x).toArray] ++ caps) W fun e w' => e = .returned (.bool (f x)) ∧ Below w.heap.size w w') :
    Calls Try.prog 189 #[.slice A l.length c, .func (.func g) #[] caps] w fun e w' => (∃ k : Int, e = .returned (.int .i64 k) ∧ decide (0 ≤ k) = l.any f ∧ (-1 ≤ k ∧ k ≤ 100000)) ∧ Below w.heap.size w w' := by
  obtain ⟨n, hn⟩ : ∃ n, n = l.length := ⟨_, rfl⟩
  have HN := Lib.hid hn
  have HP := Lib.hid hp
  have HR := Lib.hid hr
  rw [← hn] at hl ⊢
  clear hn hp hr
  go_enter Try.func189, Try.ntmps189
  go_wp2
  go_loopw [5, 8] (fun _ s8 wr => ∃ kk : Nat, kk ≤ n ∧ s8 = .int .i64 kk ∧ Hid (l.any f = (l.drop kk).any f) ∧ Below w.heap.size w wr) (fun _ i _ => n - (intOf i).toNat)
  case atStart => exact ⟨0, Nat.zero_le _, rfl, Lib.hid rfl, Below.refl _ w⟩
  case round =>
    obtain ⟨kk, hkk, rfl, HE, hbel⟩ := hrel
    by_cases hlt : kk < n
    · obtain ⟨x, hx⟩ : ∃ x, l[kk]? = some x := ⟨_, List.getElem?_eq_getElem (by rw [← HN.out]; exact hlt)⟩
      have hcall := Lib.hid (HP.out wr x (List.mem_of_getElem? hx) hbel)
      obtain ⟨b1, o1, rfl, hb1, hr1⟩ := rds_row HR.out hx
      have hrow := range_below hr1 hb1 (hbel.mono hB)
      have hxl : (clS x).length = 7 := rfl
      have HXD : Hid (l.drop kk = x :: l.drop (kk + 1)) := Lib.hid (by
        have hk : kk < l.length := by rw [← HN.out]; exact hlt
        rw [List.drop_eq_getElem_cons hk]
        rw [List.getElem?_eq_getElem hk] at hx
        rw [Option.some.inj hx])
      clear hx hr1
      cases hq : f x with
      | true =>
        have HQ := Lib.hid hq
        clear hq
        go_wp2_with (first
          | ((with_reducible show wpList _ _ _ (Oper.mk _ (Op.load 191 _) _ _ _ _ :: _) _ _); refine wpList_val rfl (ld_sta rfl rfl hrow hxl) ?_)
          | (go_at_fn g; refine hcall.out.mono ?_; rintro e w' ⟨rfl, hb'⟩; rw [HQ.out]))
        go_ret
        exact ⟨⟨kk, rfl, by rw [HE.out, HXD.out, List.any_cons, HQ.out, Bool.true_or]; exact decide_eq_true (by omega), by omega, by omega⟩, hb'⟩
      | false =>
        have HQ := Lib.hid hq
        clear hq
        go_wp2_with (first
          | ((with_reducible show wpList _ _ _ (Oper.mk _ (Op.load 191 _) _ _ _ _ :: _) _ _); refine wpList_val rfl (ld_sta rfl rfl hrow hxl) ?_)
          | (go_at_fn g; refine hcall.out.mono ?_; rintro e w' ⟨rfl, hb'⟩; rw [HQ.out]))
        go_roundw
        case rel => exact ⟨kk + 1, by omega, by simp, Lib.hid (by rw [HE.out, HXD.out, List.any_cons, HQ.out, Bool.false_or]), hb'⟩
        case measure => simp [intOf]; omega
    · obtain rfl : n = kk := by omega
      go_wp2
      go_ret
      exact ⟨⟨-1, rfl, by rw [HE.out, List.drop_eq_nil_of_le (by rw [← HN.out]; exact Nat.le_refl _)]; rfl, by omega, by omega⟩, hbel⟩
set_option maxRecDepth 100000 in
theorem conSta (g : Nat) (caps : Array Value) (f : Sta → Bool) (A : Option Addr) (c : Nat) (l : List (Sta)) (B : Nat) (w : World) (eg : ∀ args w, (callFunc g args).run Try.prog w = .ok (.enter g args) w)
    (hr : RdS clS 7 w B A l) (hB : B ≤ w.heap.size) (hl : l.length ≤ 100000) 
    (hp : ∀ (W : World) (x : Sta), x ∈ l → Below w.heap.size w W → Calls Try.prog g (#[.agg (clS x).toArray] ++ caps) W fun e w' => e = .returned (.bool (f x)) ∧ Below w.heap.size w w') :
    Calls Try.prog 171 #[.slice A l.length c, .func (.func g) #[] caps] w fun e w' => e = .returned (.bool (l.any f)) ∧ Below w.heap.size w w' := by
  have hcall := Lib.hid (idxSta g caps f A c l B w eg hr hB hl hp)
  generalize hR : l.any f = R at hcall ⊢
  clear hp hr hR
  go_enter Try.func171, Try.ntmps171
  go_wp2_with (go_at_call 189; refine hcall.out.mono ?_; rintro e w' ⟨⟨k, rfl, hk, hk0, hk1⟩, hb'⟩; have HK := Lib.hid hk; clear hk)
  go_ret
  exact ⟨by rw [← HK.out]; rfl, hb'⟩
set_option maxRecDepth 100000 in
theorem notSta (g : Nat) (caps : Array Value) (f : Bool) (x : Sta) (bx : Nat) (w : World) (eg : ∀ args w, (callFunc g args).run Try.prog w = .ok (.enter g args) w) (hb : w.cell? ⟨bx, 0, none⟩ = some (.func (.func g) #[] caps)) (_hlt : bx < w.heap.size) 
    (hp : ∀ (W : World), Below w.heap.size w W → Calls Try.prog g (#[.agg (clS x).toArray] ++ caps) W fun e w' => e = .returned (.bool f) ∧ Below w.heap.size w w') :
    Calls Try.prog 172 (#[.agg (clS x).toArray] ++ #[.pointer (some ⟨bx, 0, none⟩)]) w fun e w' => e = .returned (.bool (!f)) ∧ Below w.heap.size w w' := by
  have hxl : (clS x).length = 7 := rfl
  have h0 := AtNew (w := w) (cs := clS x) (t := 191)
  have hbx := (World.cell?_alloc_lt w (.cells (clS x).toArray 191) ⟨bx, 0, none⟩ _hlt).trans hb
  have hB1 : Below w.heap.size w (w.alloc (.cells (clS x).toArray 191)) := (Below.refl _ w).alloc (Nat.le_refl _) _
  have HP := Lib.hid (hp _ hB1)
  clear hp hb
  show Calls Try.prog 172 #[.agg (clS x).toArray, .pointer (some ⟨bx, 0, none⟩)] w _
  go_enter Try.func172, Try.ntmps172
  go_wp2_with (first
    | ((with_reducible show wpList _ _ _ (Oper.mk _ (Op.load 191 _) _ _ _ _ :: _) _ _); refine wpList_val rfl (ld_sta rfl rfl h0 hxl) ?_)
    | (go_at_fn g; refine HP.out.mono ?_; rintro e w' ⟨rfl, hb'⟩))
  go_ret
  exact ⟨rfl, hb'⟩
set_option maxRecDepth 100000 in
theorem allSta (g : Nat) (caps : Array Value) (f : Sta → Bool) (A : Option Addr) (c : Nat) (l : List (Sta)) (B : Nat) (w : World) (eg : ∀ args w, (callFunc g args).run Try.prog w = .ok (.enter g args) w)
    (hr : RdS clS 7 w B A l) (hB : B ≤ w.heap.size) (hl : l.length ≤ 100000) 
    (hp : ∀ (W : World) (x : Sta), x ∈ l → Below w.heap.size w W → Calls Try.prog g (#[.agg (clS x).toArray] ++ caps) W fun e w' => e = .returned (.bool (f x)) ∧ Below W.heap.size W w') :
    Calls Try.prog 124 #[.slice A l.length c, .func (.func g) #[] caps] w fun e w' => e = .returned (.bool (l.all f)) ∧ Below w.heap.size w w' := by
  obtain ⟨W, hW⟩ : ∃ W, W = w.alloc (.cells #[.func (.func g) #[] caps] 193) := ⟨_, rfl⟩
  have hB1 : Below w.heap.size w W := by rw [hW]; exact (Below.refl _ w).alloc (Nat.le_refl _) _
  have hc : W.cell? ⟨w.heap.size, 0, none⟩ = some (.func (.func g) #[] caps) := by rw [hW, World.cell?_alloc_new]; rfl
  have hz : w.heap.size < W.heap.size := by rw [hW]; simp
  have hcall := Lib.hid (conSta 172 #[.pointer (some ⟨w.heap.size, 0, none⟩)] (fun x => !(f x)) A c l B W (fun _ _ => rfl) (hr.below (hB1.mono hB)) (Nat.le_trans hB hB1.size) hl (fun U x hx hU =>
    (notSta g caps (f x) x w.heap.size U eg ((hU.cell (p := ⟨w.heap.size, 0, none⟩) hz).trans hc) (Nat.lt_of_lt_of_le hz hU.size) (fun V hV => (hp V x hx (hB1.trans ((hU.trans (hV.mono hU.size)).mono hB1.size))).mono (by
      rintro e w' ⟨rfl, hb'⟩
      exact ⟨rfl, hV.trans (hb'.mono hV.size)⟩))).mono (by
      rintro e w' ⟨rfl, hb'⟩
      exact ⟨rfl, hU.trans (hb'.mono hU.size)⟩)))
  have HA : Hid ((!(l.any fun x => !(f x))) = l.all f) := Lib.hid (by rw [List.all_eq_not_any_not])
  generalize (l.any fun x => !(f x)) = R at hcall HA
  clear hp hr
  go_enter Try.func124, Try.ntmps124
  go_wp2_with (first
    | (go_at_call 171; rw [← hW]; refine hcall.out.mono ?_; rintro e w' ⟨rfl, hb'⟩))
  go_ret
  exact ⟨by rw [← HA.out]; rfl, hB1.trans (hb'.mono hB1.size)⟩
set_option maxRecDepth 100000 in
set_option maxHeartbeats 1000000 in
theorem idxInt (g : Nat) (caps : Array Value) (f : Int → Bool) (A : Option Addr) (c : Nat) (l : List (Int)) (B : Nat) (w : World) (eg : ∀ args w, (callFunc g args).run Try.prog w = .ok (.enter g args) w)
    (hr : RdI w B A l) (hB : B ≤ w.heap.size) (hl : l.length ≤ 100000) 
    (hp : ∀ (W : World) (x : Int), x ∈ l → Below w.heap.size w W → Calls Try.prog g (#[.int .i64 x] ++ caps) W fun e w' => e = .returned (.bool (f x)) ∧ Below w.heap.size w w') :
    Calls Try.prog 160 #[.slice A l.length c, .func (.func g) #[] caps] w fun e w' => (∃ k : Int, e = .returned (.int .i64 k) ∧ decide (0 ≤ k) = l.any f ∧ (-1 ≤ k ∧ k ≤ 100000)) ∧ Below w.heap.size w w' := by
  obtain ⟨n, hn⟩ : ∃ n, n = l.length := ⟨_, rfl⟩
  have HN := Lib.hid hn
  have HP := Lib.hid hp
  have HR := Lib.hid hr
  rw [← hn] at hl ⊢
  clear hn hp hr
  go_enter Try.func160, Try.ntmps160
  go_wp2
  go_loopw [5, 8] (fun _ s8 wr => ∃ kk : Nat, kk ≤ n ∧ s8 = .int .i64 kk ∧ Hid (l.any f = (l.drop kk).any f) ∧ Below w.heap.size w wr) (fun _ i _ => n - (intOf i).toNat)
  case atStart => exact ⟨0, Nat.zero_le _, rfl, Lib.hid rfl, Below.refl _ w⟩
  case round =>
    obtain ⟨kk, hkk, rfl, HE, hbel⟩ := hrel
    by_cases hlt : kk < n
    · obtain ⟨x, hx⟩ : ∃ x, l[kk]? = some x := ⟨_, List.getElem?_eq_getElem (by rw [← HN.out]; exact hlt)⟩
      have hcall := Lib.hid (HP.out wr x (List.mem_of_getElem? hx) hbel)
      obtain ⟨b1, o1, rfl, hb1, hr1⟩ := int_row HR.out hx
      have hrow := ((hbel.mono hB).cell (p := ⟨b1, o1 + kk, none⟩) hb1).trans hr1
      have HXD : Hid (l.drop kk = x :: l.drop (kk + 1)) := Lib.hid (by
        have hk : kk < l.length := by rw [← HN.out]; exact hlt
        rw [List.drop_eq_getElem_cons hk]
        rw [List.getElem?_eq_getElem hk] at hx
        rw [Option.some.inj hx])
      clear hx hr1
      cases hq : f x with
      | true =>
        have HQ := Lib.hid hq
        clear hq
        go_wp2_with (first
          | (go_at_fn g; refine hcall.out.mono ?_; rintro e w' ⟨rfl, hb'⟩; rw [HQ.out]))
        go_ret
        exact ⟨⟨kk, rfl, by rw [HE.out, HXD.out, List.any_cons, HQ.out, Bool.true_or]; exact decide_eq_true (by omega), by omega, by omega⟩, hb'⟩
      | false =>
        have HQ := Lib.hid hq
        clear hq
        go_wp2_with (first
          | (go_at_fn g; refine hcall.out.mono ?_; rintro e w' ⟨rfl, hb'⟩; rw [HQ.out]))
        go_roundw
        case rel => exact ⟨kk + 1, by omega, by simp, Lib.hid (by rw [HE.out, HXD.out, List.any_cons, HQ.out, Bool.false_or]), hb'⟩
        case measure => simp [intOf]; omega
    · obtain rfl : n = kk := by omega
      go_wp2
      go_ret
      exact ⟨⟨-1, rfl, by rw [HE.out, List.drop_eq_nil_of_le (by rw [← HN.out]; exact Nat.le_refl _)]; rfl, by omega, by omega⟩, hbel⟩
set_option maxRecDepth 100000 in
theorem conInt (g : Nat) (caps : Array Value) (f : Int → Bool) (A : Option Addr) (c : Nat) (l : List (Int)) (B : Nat) (w : World) (eg : ∀ args w, (callFunc g args).run Try.prog w = .ok (.enter g args) w)
    (hr : RdI w B A l) (hB : B ≤ w.heap.size) (hl : l.length ≤ 100000) 
    (hp : ∀ (W : World) (x : Int), x ∈ l → Below w.heap.size w W → Calls Try.prog g (#[.int .i64 x] ++ caps) W fun e w' => e = .returned (.bool (f x)) ∧ Below w.heap.size w w') :
    Calls Try.prog 114 #[.slice A l.length c, .func (.func g) #[] caps] w fun e w' => e = .returned (.bool (l.any f)) ∧ Below w.heap.size w w' := by
  have hcall := Lib.hid (idxInt g caps f A c l B w eg hr hB hl hp)
  generalize hR : l.any f = R at hcall ⊢
  clear hp hr hR
  go_enter Try.func114, Try.ntmps114
  go_wp2_with (go_at_call 160; refine hcall.out.mono ?_; rintro e w' ⟨⟨k, rfl, hk, hk0, hk1⟩, hb'⟩; have HK := Lib.hid hk; clear hk)
  go_ret
  exact ⟨by rw [← HK.out]; rfl, hb'⟩
set_option maxRecDepth 100000 in
theorem notInt (g : Nat) (caps : Array Value) (f : Bool) (x : Int) (bx : Nat) (w : World) (eg : ∀ args w, (callFunc g args).run Try.prog w = .ok (.enter g args) w) (hb : w.cell? ⟨bx, 0, none⟩ = some (.func (.func g) #[] caps)) (_hlt : bx < w.heap.size) 
    (hp : ∀ (W : World), Below w.heap.size w W → Calls Try.prog g (#[.int .i64 x] ++ caps) W fun e w' => e = .returned (.bool f) ∧ Below w.heap.size w w') :
    Calls Try.prog 170 (#[.int .i64 x] ++ #[.pointer (some ⟨bx, 0, none⟩)]) w fun e w' => e = .returned (.bool (!f)) ∧ Below w.heap.size w w' := by
  have hbx := hb
  have HP := Lib.hid (hp _ (Below.refl _ w))
  clear hp hb
  show Calls Try.prog 170 #[.int .i64 x, .pointer (some ⟨bx, 0, none⟩)] w _
  go_enter Try.func170, Try.ntmps170
  go_wp2_with (first
    | (go_at_fn g; refine HP.out.mono ?_; rintro e w' ⟨rfl, hb'⟩))
  go_ret
  exact ⟨rfl, hb'⟩
set_option maxRecDepth 100000 in
theorem allInt (g : Nat) (caps : Array Value) (f : Int → Bool) (A : Option Addr) (c : Nat) (l : List (Int)) (B : Nat) (w : World) (eg : ∀ args w, (callFunc g args).run Try.prog w = .ok (.enter g args) w)
    (hr : RdI w B A l) (hB : B ≤ w.heap.size) (hl : l.length ≤ 100000) 
    (hp : ∀ (W : World) (x : Int), x ∈ l → Below w.heap.size w W → Calls Try.prog g (#[.int .i64 x] ++ caps) W fun e w' => e = .returned (.bool (f x)) ∧ Below W.heap.size W w') :
    Calls Try.prog 123 #[.slice A l.length c, .func (.func g) #[] caps] w fun e w' => e = .returned (.bool (l.all f)) ∧ Below w.heap.size w w' := by
  obtain ⟨W, hW⟩ : ∃ W, W = w.alloc (.cells #[.func (.func g) #[] caps] 141) := ⟨_, rfl⟩
  have hB1 : Below w.heap.size w W := by rw [hW]; exact (Below.refl _ w).alloc (Nat.le_refl _) _
  have hc : W.cell? ⟨w.heap.size, 0, none⟩ = some (.func (.func g) #[] caps) := by rw [hW, World.cell?_alloc_new]; rfl
  have hz : w.heap.size < W.heap.size := by rw [hW]; simp
  have hcall := Lib.hid (conInt 170 #[.pointer (some ⟨w.heap.size, 0, none⟩)] (fun x => !(f x)) A c l B W (fun _ _ => rfl) (hr.below (hB1.mono hB)) (Nat.le_trans hB hB1.size) hl (fun U x hx hU =>
    (notInt g caps (f x) x w.heap.size U eg ((hU.cell (p := ⟨w.heap.size, 0, none⟩) hz).trans hc) (Nat.lt_of_lt_of_le hz hU.size) (fun V hV => (hp V x hx (hB1.trans ((hU.trans (hV.mono hU.size)).mono hB1.size))).mono (by
      rintro e w' ⟨rfl, hb'⟩
      exact ⟨rfl, hV.trans (hb'.mono hV.size)⟩))).mono (by
      rintro e w' ⟨rfl, hb'⟩
      exact ⟨rfl, hU.trans (hb'.mono hU.size)⟩)))
  have HA : Hid ((!(l.any fun x => !(f x))) = l.all f) := Lib.hid (by rw [List.all_eq_not_any_not])
  generalize (l.any fun x => !(f x)) = R at hcall HA
  clear hp hr
  go_enter Try.func123, Try.ntmps123
  go_wp2_with (first
    | (go_at_call 114; rw [← hW]; refine hcall.out.mono ?_; rintro e w' ⟨rfl, hb'⟩))
  go_ret
  exact ⟨by rw [← HA.out]; rfl, hB1.trans (hb'.mono hB1.size)⟩
end Go.Proofs.Ytogidfagkgccmaa
