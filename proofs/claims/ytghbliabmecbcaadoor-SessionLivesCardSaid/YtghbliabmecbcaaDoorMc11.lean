/-
  Contracts and lemmas on which the proofs of this seat stand (several texts in one). Conditions are each theorem's own.
-/
import Derived.Test.YtghbliabmecbcaaDoorMc10

/-
  Add of layer 24's code. Conditions are each theorem's own.
-/
namespace Go.Proofs.YtghbliabmecbcaaDoor
open Go.RowKit Go.Shelf Go.Maps
theorem info_slt : (Tryd.prog.info? 65).map (fun i => (i.zero, i.size, i.bytes)) = some (some (.agg (clSl none).toArray), 6, 48) := by kernel_rfl
set_option maxRecDepth 100000 in
theorem run_storeSl {o : Oper} {a : Act} {w : World} {x y : Operand} {b i : Nat} {cs : List Value} (ho : o.op = .store 65 x y) (hx : a.eval x = .pointer (some ⟨b, i, none⟩)) (hy : a.eval y = .agg cs.toArray) (ht : w.there b i 6) (hl : cs.length = 6) (h1 : cs.toArray.all (·.oneCell') = true) :
    (execOp a.eval o).run Tryd.prog w = .ok .skip (w.setCells b i cs) := by
  have hst := run_storeVar_mid (P := Tryd.prog) w b i 65 cs.toArray (by rw [List.size_toArray, hl]; exact ht) (by rw [List.size_toArray, hl]; kernel_rfl) h1
  unfold execOp
  simp only [ho, hx, hy, Instr.storeAt, Instr.sureAddr, Sem.run_bind, Sem.run_pure, Result.andThen_ok, hst]
theorem store_slt_wp {o : Oper} {a : Act} {w : World} {K : Act → World → Prop} {Q : Exit → Act → World → Prop} {x y : Operand} {b i : Nat} {cs : List Value} (ho : o.op = .store 65 x y) (hx : a.eval x = .pointer (some ⟨b, i, none⟩)) (hy : a.eval y = .agg cs.toArray) (ht : w.there b i 6) (hl : cs.length = 6) (h1 : cs.toArray.all (·.oneCell') = true) (h : K (a.put o.dst undef) (w.setCells b i cs)) : o.wp Tryd.prog a w K Q := by
  unfold Oper.wp; rw [run_storeSl ho hx hy ht hl h1]; exact h
set_option maxRecDepth 100000 in
theorem run_bsSl {o : Oper} {a : Act} {w : World} {x : Operand} {cs : Array Value} (ho : o.op = .buildSlice 52 1 #[(0, x)]) (hx : a.eval x = .agg cs) (hl : cs.size = 6) :
    (execOp a.eval o).run Tryd.prog w = .ok (.value (.slice (some ⟨w.heap.size, 0, none⟩) 1 1)) (w.alloc (.cells cs 65)) := by
  obtain ⟨i0, hi, hz0, hz1, hz2⟩ := info_parts info_slt
  have h := run_lit1 (P := Tryd.prog) w 52 65 i0 _ cs 6 Tryd.underlying52 hi hz0 hz1 hl (by decide) (by decide)
  unfold execOp
  simp only [ho, List.map_toArray, List.map_cons, List.map_nil, hx, Sem.run_bind, h, Result.andThen_ok]
  rfl
theorem list_growB {P : Program} {ops : Array Oper} {rest : List Oper} {o : Oper} {a : Act} {w w' : World} {Q : Exit → Act → World → Prop} {v : Value} (hg : o.guard = none) (hrun : (execOp a.eval o).run P w = .ok (.value v) w')
    (h : wpList P ops Q rest (a.put o.dst v) w') : wpList P ops Q (o :: rest) a w :=
  wpList_plain hg fun _ hK => by unfold Oper.wp; rw [hrun]; exact hK _ _ h
theorem append_slt {w : World} {ops : Array Oper} {rest : List Oper} {o : Oper} {a : Act} {Q : Exit → Act → World → Prop} (hgd : o.guard = none) (s x : Operand)
    (ho : o.op = .call { callee := .builtin .append, args := #[s, x], argTypes := #[52, 52] })
    (base : Nat) (v : Value) (n : Nat) (S : List (Option Sd)) (hs : a.eval s = v) (hown : w.ownsRow base 65 6 v n (S.flatMap clSl)) (hn : n = S.length)
    (g : Nat) (y : Option Sd) (hx : a.eval x = .slice (some ⟨g, 0, none⟩) 1 1) (hy : w.rangeAt g 0 (clSl y))
    (hlen : n ≤ 1000000) (hbase : base ≤ w.heap.size)
    (h : ∀ v' w', w'.ownsRow base 65 6 v' (n + 1) ((S ++ [y]).flatMap clSl) → w.grownBy w' v.ownBlock → wpList Tryd.prog ops Q rest (a.put o.dst v') w') : wpList Tryd.prog ops Q (o :: rest) a w := by
  subst hn
  obtain ⟨i0, hi, hz0, hz1, hz2⟩ := info_parts info_slt
  refine wpList_append_own w hgd s x 52 ho base 65 i0 _ 6 48 Tryd.underlying52 hi hz0 hz1 hz2 rfl (by decide) v S.length (S.flatMap clSl) hs hown ⟨g, 0, none⟩ 1 1 (clSl y) hx
      (clSl_len y) (fun j u hu => ?_) (clSl_own y) (by unfold maxLen; omega) (by omega) hbase (fun v' w' h1 h2 _ => h v' w' ?_ h2)
  · rw [add_off, Nat.zero_add]; have := hy j u hu; rwa [Nat.zero_add] at this
  · rw [List.flatMap_append]
    simpa using h1
theorem own_at {w : World} {base e sz n : Nat} {v : Value} {xs : List Value} (h : w.ownsRow base e sz v n xs) (hn : 0 < n) : ∃ g c, v = .slice (some ⟨g, 0, none⟩) n c := by
  rcases h.2 with ⟨_, h0⟩ | ⟨g, cap, cur, hv, _⟩
  · omega
  · exact ⟨g, cap, hv⟩
theorem tak_some {S : List (Option Sd)} {k : Nat} (h : (takB S (k : Int)).isSome = true) : ∃ y, S[k]? = some (some y) := by
  unfold takB at h
  rw [if_neg (by omega), Int.toNat_natCast] at h
  cases hg : S[k]? with
  | none => rw [hg] at h; cases h
  | some o =>
    cases o with
    | none => rw [hg] at h; cases h
    | some y => exact ⟨y, rfl⟩
theorem tak_of {S : List (Option Sd)} {k : Nat} {y : Sd} (h : S[k]? = some (some y)) : (takB S (k : Int)).isSome = true := by
  unfold takB
  rw [if_neg (by omega), Int.toNat_natCast, h]; rfl
theorem t4_no : ¬ T4 34 ∧ ¬ T4 63 ∧ ¬ T4 71 ∧ ¬ T4 36 := by
  refine ⟨?_, ?_, ?_, ?_⟩ <;> (rintro (h | h | h | h | h) <;> exact absurd h (nat_ne (by kernel_rfl)))
theorem kt_apart {w : World} {B0 t b g : Nat} {most : Int} {M : List Ent} {cs : Array Value} {ty : TypeId} {fr : Nat × Nat} (h : HQ w B0 t b most M) (hg : w.heap[g]? = some (.cells cs ty fr)) (n1 : ty ≠ 83) (n2 : ty ≠ 88) : ¬ (g = t ∨ g = b) := by
  obtain ⟨⟨c1, i1⟩, c2, i2⟩ := h.tab
  rintro (e | e)
  · exact heap_ty hg i1 n1 e
  · exact heap_ty hg i2 n2 e
theorem box_re {w : World} {p : Nat} {x : Sd} (h : w.heap[p]? = some (.cells (clSe x).toArray 34 (0, 0))) : w.rangeAt p 3 (clR x) := fun j v hj => cells_at h (by
    match j, hj with
    | 0, h => exact h
    | 1, h => exact h)
theorem box_se {w : World} {p : Nat} {x : Sd} (h : w.heap[p]? = some (.cells (clSe x).toArray 34 (0, 0))) : w.rangeAt p 0 (clSe x) := range_heap h
theorem put_pure {S : List (Option Sd)} {f : Nat} {most : Int} {x : Sd} (p : (0 ≤ most ∧ most ≤ 4096) ∧ ((docB 0 S).length : Int) < most ∧ (S.length : Int) ≤ most ∧ FreeB S f ∧ (∀ e ∈ docB 0 S, e.2.fits) ∧ (docB 0 S).Pairwise (fun a b => a.2.inn ≠ b.2.inn))
    (hx : x.fits) (hh : fndS (docB 0 S) x = none) :
    (∀ e ∈ docB 0 S, e.2.inn ≠ x.inn) ∧ (∀ e ∈ docB 0 (putS S f x), e.2.fits) ∧ (docB 0 (putS S f x)).Pairwise (fun a b => a.2.inn ≠ b.2.inn) ∧ ((putS S f x).length : Int) ≤ most := by
  obtain ⟨p1, p2, p3, p4, p5, p6⟩ := p
  have n1 := fndS_none hh
  have hp := p4.pput x
  refine ⟨n1, fun e he => ?_, hp.symm.pairwise (List.pairwise_cons.2 ⟨fun e he h => n1 e he h.symm, p6⟩) (fun h => h.symm), ?_⟩
  · rcases List.mem_cons.1 (hp.mem_iff.1 he) with rfl | h
    · exact hx
    · exact p5 e h
  · rw [putS_len]
    split
    · rename_i e
      have := p4.len e
      omega
    · exact p3
theorem idsD_put {S : List (Option Sd)} {f k : Nat} {x : Sd} (hf : FreeB S f) (hat : AtI (idsD (docB 0 S) x.b) (f : Int) k) (b : Int) : putR (idsD (docB 0 S)) x.b (insI (idsD (docB 0 S) x.b) k (f : Int)) b = idsD (docB 0 (putS S f x)) b := by
  obtain ⟨h1, h2⟩ := idsD_more (hf.pput x) (docB_ids 0 _) (docB_ids 0 S)
  unfold putR
  by_cases e : b = x.b
  · rw [if_pos e, e]
    refine (h1 k hat.lo (fun y hy => ?_)).symm
    have h3 := hat.hi y hy
    have h4 : y ≠ (f : Int) := fun e2 => by
      have h5 := List.mem_of_mem_drop hy
      rw [e2] at h5
      obtain ⟨z, hz, _, hz2⟩ := idsD_in.1 h5
      have h6 := (docB_mem.1 hz).2
      rw [Nat.sub_zero, show z.1 = f by omega] at h6
      exact hf.not _ h6
    omega
  · rw [if_neg e]; exact (h2 b e).symm
theorem Sm.appended {w w' : World} {B0 d t1 b1 bm : Nat} {A : Option Addr} {c : Nat} {most : Int} {S : List (Option Sd)} {f N : Nat} {M : List Ent} {R : Int → List Int} (h : Sm w B0 d t1 b1 bm A c most S f N M R) {A' : Option Addr} {n' c' : Nat} {S' : List (Option Sd)}
    (ho : w'.ownsRow B0 65 6 (.slice A' n' c') n' (S'.flatMap clSl)) (hn : n' = S'.length) (hg : w.grownBy w' (Value.slice A S.length c).ownBlock) :
    (w'.cell? ⟨d, 0, none⟩ = some (.slice A S.length c) ∧ w'.frozen? ⟨d, 0, none⟩ = false) ∧ Sm (w'.setCell ⟨d, 0, none⟩ (.slice A' n' c')) B0 d t1 b1 bm A' c' most S' f N M R ∧ FB B0 w (w'.setCell ⟨d, 0, none⟩ (.slice A' n' c')) := by
  subst hn
  have k := Kept.of_grown hg
  have hS : ∀ i, some i = (Value.slice A S.length c).ownBlock → B0 ≤ i ∧ ∃ cs, w.heap[i]? = some (.cells cs 65 (0, 0)) := fun i hi => by
    rcases h.own.2 with ⟨hv, _⟩ | ⟨g, cap, cur, hv, hb, hh, _⟩
    · rw [hv] at hi; cases hi
    · rw [hv] at hi
      obtain rfl : i = g := by injection hi
      exact ⟨hb, cur, hh⟩
  have ho1 : Only w (fun i => some i = (Value.slice A S.length c).ownBlock) (fun u => u = 65) := fun i hi => by
    obtain ⟨_, cs, h1⟩ := hS i hi
    exact .inl ⟨cs, _, h1, rfl⟩
  obtain ⟨⟨c1, i1⟩, c2, i2⟩ := h.inn.tab
  have hd : w'.heap[d]? = _ := (k.block d (heap_lt h.obj) (ho1.cells h.obj (nat_ne (by kernel_rfl)))).trans h.obj
  have q1 := h.inn.kept k (ho1.cells i1 (nat_ne (by kernel_rfl))) (ho1.cells i2 (nat_ne (by kernel_rfl)))
  have q2 := h.mp.only k ho1 (nat_ne (by kernel_rfl))
  have f1 : FB B0 w w' := FB.of_kept k h.bz (fun i hi => by
    obtain ⟨a1, cs', a2⟩ := hS i hi
    refine ⟨a1, fun cs ty fr hg => ?_⟩
    rw [a2] at hg; injection hg with hg; injection hg with _ e2 _; rw [← e2]; exact .inr (.inl rfl))
  have k2 := Kept.setCell w' d 0 (.slice A' S'.length c')
  have ho2 := Only.one hd
  obtain ⟨⟨c1', i1'⟩, c2', i2'⟩ := q1.tab
  refine ⟨⟨cells_at hd rfl, heap_frozen hd 0⟩, ⟨heap_setCell_same w' d 0 _ _ _ hd, own_only ho k2 ho2 (nat_ne (by kernel_rfl)), q1.kept k2 (ho2.cells i1' (nat_ne (by kernel_rfl))) (ho2.cells i2' (nat_ne (by kernel_rfl))), q2.only k2 ho2 (nat_ne (by kernel_rfl)), h.z⟩,
    f1.trans (FB.of_one k2 (Nat.le_trans h.bz f1.size) h.z hd (.inl rfl))⟩
/-- What Add leaves. -/
def AddS (w : World) (B0 d t1 bm : Nat) (most : Int) (S : List (Option Sd)) (N : Nat) (w' : World) : Prop :=
  ∃ b1 A c f, Ts w' B0 d t1 b1 bm A c most S f N ∧ FB B0 w w'
section
variable {w w' : World} {B0 d t1 b1 bm : Nat} {A : Option Addr} {c : Nat} {most : Int} {S : List (Option Sd)} {f N : Nat}
set_option maxRecDepth 100000 in
theorem seadd_twice (h : Ts w B0 d t1 b1 bm A c most S f N) (hT : Tabs w) (x : Sd) (hx : x.fits) {q : Nat × Sd} (hh : fndS (docB 0 S) x = some q) : Calls Tryd.prog 9 #[.pointer (some ⟨d, 0, none⟩), seV x] w fun e w' => e = .returned (.tuple #[.int .i64 0, .int .i64 9]) ∧ Below w.heap.size w w' := by
  obtain ⟨V, hV⟩ : ∃ V, V = w.alloc (.cells (clSe x).toArray 34) := ⟨_, rfl⟩
  have bV : Below w.heap.size w V := by rw [hV]; exact (Below.refl _ w).alloc (Nat.le_refl _) _
  have hbV : V.heap[w.heap.size]? = some (.cells (clSe x).toArray 34 (0, 0)) := by rw [hV]; exact World.alloc_heap_new w _
  have HBX := Lib.hid hbV
  have kb0 : V.cell? ⟨w.heap.size, 0, none⟩ = some (.int .i64 x.b) := cells_at (i := 0) hbV rfl
  have hre : V.rangeAt w.heap.size 3 (clR x) := box_re hbV
  have HK := Lib.hid (h.below bV)
  have k1 := HK.out.m.c1
  have HTV := Lib.hid (hT.step bV)
  have HF := Lib.hid hx
  have HV := Lib.hid (show w.alloc (.cells #[.int .i64 x.b, .int .i64 x.t, .int .i64 x.u, .int .i64 x.a, .int .i64 x.p] 34) = V from hV.symm)
  have HFD := Lib.hid hh
  clear h hT hx hV hbV hh
  unfold seV clSe
  go_enter Tryd.func9, Tryd.ntmps9
  go_upto_region 1 with fail
  rw [HV.out]
  go_wp2_with (first
    | ((with_reducible show wpList _ _ _ (Oper.mk _ (Op.load 32 _) _ _ _ _ :: _) _ _); refine wpList_val rfl (run_load_re rfl rfl hre) ?_)
    | (go_at_call 24; refine (semade k1).mono ?_; rintro e w2 ⟨rfl, rfl⟩)
    | (go_at_call 17; refine (sefind HK.out.m HTV.out x HF.out).mono ?_; rintro e w3 ⟨rfl, x3⟩; rw [HFD.out]))
  exact bodyPost_ret (results_tmp2 rfl _ _ _) rfl ⟨rfl, bV.trans (x3.mono bV.size)⟩
set_option maxRecDepth 100000 in
theorem seadd_full (h : Ts w B0 d t1 b1 bm A c most S f N) (hT : Tabs w) (x : Sd) (hx : x.fits) (hh : fndS (docB 0 S) x = none) (hfu : ((docB 0 S).length : Int) ≥ most) : Calls Tryd.prog 9 #[.pointer (some ⟨d, 0, none⟩), seV x] w fun e w' => e = .returned (.tuple #[.int .i64 0, .int .i64 7]) ∧ Below w.heap.size w w' := by
  obtain ⟨V, hV⟩ : ∃ V, V = w.alloc (.cells (clSe x).toArray 34) := ⟨_, rfl⟩
  have bV : Below w.heap.size w V := by rw [hV]; exact (Below.refl _ w).alloc (Nat.le_refl _) _
  have hbV : V.heap[w.heap.size]? = some (.cells (clSe x).toArray 34 (0, 0)) := by rw [hV]; exact World.alloc_heap_new w _
  have HBX := Lib.hid hbV
  have kb0 : V.cell? ⟨w.heap.size, 0, none⟩ = some (.int .i64 x.b) := cells_at (i := 0) hbV rfl
  have hre : V.rangeAt w.heap.size 3 (clR x) := box_re hbV
  have HK := Lib.hid (h.below bV)
  have k1 := HK.out.m.c1
  have HTV := Lib.hid (hT.step bV)
  have HF := Lib.hid hx
  have HV := Lib.hid (show w.alloc (.cells #[.int .i64 x.b, .int .i64 x.t, .int .i64 x.u, .int .i64 x.a, .int .i64 x.p] 34) = V from hV.symm)
  have HFD := Lib.hid hh
  have HFU := Lib.hid hfu
  clear h hT hx hV hbV hh hfu
  unfold seV clSe
  go_enter Tryd.func9, Tryd.ntmps9
  go_upto_region 1 with fail
  rw [HV.out]
  go_upto_region 6 with (first
    | ((with_reducible show wpList _ _ _ (Oper.mk _ (Op.load 32 _) _ _ _ _ :: _) _ _); refine wpList_val rfl (run_load_re rfl rfl hre) ?_)
    | (go_at_call 24; refine (semade k1).mono ?_; rintro e w2 ⟨rfl, rfl⟩)
    | (go_at_call 17; refine (sefind HK.out.m HTV.out x HF.out).mono ?_; rintro e w3 ⟨rfl, x3⟩; rw [HFD.out]))
  have HD3 := Lib.hid (HK.out.below x3)
  have HLE : Hid ((inE (docB 0 S)).length = (docB 0 S).length) := Lib.hid (by simp [inE])
  have HC3 : Hid (∀ U, Below w3.heap.size w3 U → U.cell? ⟨d, 3, none⟩ = some (.int .i64 most)) := Lib.hid (fun U hU => (HD3.out.below hU).m.c3)
  refine wp_region_held_drew (S := fun w' => Below w3.heap.size w3 w') (by kernel_rfl) (Below.refl _ w3).drew (fun hS => ?_)
  refine held_pure (i := 0) (oi := ⟨some 22, _, _, _, _, _⟩) rfl (by kernel_rfl) (by kernel_rfl) (by kernel_rfl) (fun _ _ _ h => h) (by rfl) (v := ?_) (fun w hSw => ?_) hS (fun hS => ?_)
  rotate_left
  · go_simp; try with_reducible rfl
  try go_frame
  refine held_pure (i := 2) (oi := ⟨some 24, _, _, _, _, _⟩) rfl (by kernel_rfl) (by kernel_rfl) (by kernel_rfl) (fun _ _ _ h => h) (by rfl) (v := ?_) (fun w hSw => ?_) hS (fun hS => ?_)
  rotate_left
  · go_simp; try with_reducible rfl
  try go_frame
  refine held_pure (i := 3) (oi := ⟨some 25, _, _, _, _, _⟩) rfl (by kernel_rfl) (by kernel_rfl) (by kernel_rfl) (fun _ _ _ h => h) (by rfl) (v := ?_) (fun w hSw => ?_) hS (fun hS => ?_)
  rotate_left
  · go_simp; try with_reducible rfl
  try go_frame
  refine held_pure (i := 4) (oi := ⟨some 26, _, _, _, _, _⟩) rfl (by kernel_rfl) (by kernel_rfl) (by kernel_rfl) (fun _ _ _ h => h) (by rfl) (v := ?_) (fun w hSw => ?_) hS (fun hS => ?_)
  rotate_left
  · go_simp; try with_reducible rfl
  try go_frame
  refine held_pure (i := 5) (oi := ⟨some 27, _, _, _, _, _⟩) rfl (by kernel_rfl) (by kernel_rfl) (by kernel_rfl) (fun _ _ _ h => h) (by rfl) (fun w hSw => run_load_int rfl rfl (HC3.out _ hSw)) hS (fun hS => ?_)
  try go_frame
  refine wpAnyH_ready (rs := [1]) (by kernel_rfl) (by simp) (AllReadyH.cons (o := ⟨some 23, _, _, _, _, _⟩) rfl (fun K hK => ?_) AllReadyH.nil)
  rw [if_pos (by rfl)]
  go_simp
  refine (selen (HD3.out.m.below (Below.refl w3.heap.size w3).drew)).mono ?_
  rintro e u1 ⟨rfl, rfl⟩
  rw [HLE.out]
  show K _ _
  refine hK.out _ _ hS (fun hS => ?_)
  clear hK K
  try go_frame
  refine held_pure (i := 6) (oi := ⟨some 28, _, _, _, _, _⟩) rfl (by kernel_rfl) (by kernel_rfl) (by kernel_rfl) (fun _ _ _ h => h) (by rfl) (v := .bool true) (fun w hSw => by go_simp; (have hh := HFU.out; omega)) hS (fun hS => ?_)
  try go_frame
  refine wpAnyH_done (by kernel_rfl) ?_ _
  go_wp2_with fail
  exact bodyPost_ret (results_tmp2 rfl _ _ _) rfl ⟨rfl, bV.trans ((x3.trans (hS.mono x3.size)).mono bV.size)⟩
set_option maxRecDepth 100000 in
set_option maxHeartbeats 4000000 in
theorem seadd_ok (h : Ts w B0 d t1 b1 bm A c most S f N) (hTB : TB0 B0 w) (x : Sd) (hx : x.fits) (hh : fndS (docB 0 S) x = none) (hfu : ((docB 0 S).length : Int) < most) (hN : N < maxLen) : Calls Tryd.prog 9 #[.pointer (some ⟨d, 0, none⟩), seV x] w fun e w' => e = .returned (.tuple #[.int .i64 (f : Int), .int .i64 0]) ∧ AddS w B0 d t1 bm most (putS S f x) (N + 1) w' := by
  have hT := hTB.here
  obtain ⟨V, hV⟩ : ∃ V, V = w.alloc (.cells (clSe x).toArray 34) := ⟨_, rfl⟩
  have bV : Below w.heap.size w V := by rw [hV]; exact (Below.refl _ w).alloc (Nat.le_refl _) _
  have hbV : V.heap[w.heap.size]? = some (.cells (clSe x).toArray 34 (0, 0)) := by rw [hV]; exact World.alloc_heap_new w _
  have HBX := Lib.hid hbV
  have kb0 : V.cell? ⟨w.heap.size, 0, none⟩ = some (.int .i64 x.b) := cells_at (i := 0) hbV rfl
  have hre : V.rangeAt w.heap.size 3 (clR x) := box_re hbV
  have HK := Lib.hid (h.below bV)
  have k1 := HK.out.m.c1
  have HTV := Lib.hid (hT.step bV)
  have HF := Lib.hid hx
  have HV := Lib.hid (show w.alloc (.cells #[.int .i64 x.b, .int .i64 x.t, .int .i64 x.u, .int .i64 x.a, .int .i64 x.p] 34) = V from hV.symm)
  have HFD := Lib.hid hh
  have HNM := Lib.hid hN
  have HFU : Hid (¬ ((docB 0 S).length : Int) ≥ most) := Lib.hid (by omega)
  have HPU := Lib.hid (show (0 ≤ most ∧ most ≤ 4096) ∧ ((docB 0 S).length : Int) < most ∧ (S.length : Int) ≤ most ∧ FreeB S f ∧ (∀ e ∈ docB 0 S, e.2.fits) ∧ (docB 0 S).Pairwise (fun a b => a.2.inn ≠ b.2.inn) from ⟨h.mst, hfu, h.n, h.free, h.fit, h.ni⟩)
  have hzz : B0 ≤ w.heap.size := h.m.bz
  clear h hT hx hV hbV hh hfu hN
  unfold seV clSe
  go_enter Tryd.func9, Tryd.ntmps9
  go_upto_region 1 with fail
  rw [HV.out]
  go_upto_region 6 with (first
    | ((with_reducible show wpList _ _ _ (Oper.mk _ (Op.load 32 _) _ _ _ _ :: _) _ _); refine wpList_val rfl (run_load_re rfl rfl hre) ?_)
    | (go_at_call 24; refine (semade k1).mono ?_; rintro e w2 ⟨rfl, rfl⟩)
    | (go_at_call 17; refine (sefind HK.out.m HTV.out x HF.out).mono ?_; rintro e w3 ⟨rfl, x3⟩; rw [HFD.out]))
  have HD3 := Lib.hid (HK.out.below x3)
  have HLE : Hid ((inE (docB 0 S)).length = (docB 0 S).length) := Lib.hid (by simp [inE])
  have HC3 : Hid (∀ U, Below w3.heap.size w3 U → U.cell? ⟨d, 3, none⟩ = some (.int .i64 most)) := Lib.hid (fun U hU => (HD3.out.below hU).m.c3)
  refine wp_region_held_drew (S := fun w' => Below w3.heap.size w3 w') (by kernel_rfl) (Below.refl _ w3).drew (fun hS => ?_)
  refine held_pure (i := 0) (oi := ⟨some 22, _, _, _, _, _⟩) rfl (by kernel_rfl) (by kernel_rfl) (by kernel_rfl) (fun _ _ _ h => h) (by rfl) (v := ?_) (fun w hSw => ?_) hS (fun hS => ?_)
  rotate_left
  · go_simp; try with_reducible rfl
  try go_frame
  refine held_pure (i := 2) (oi := ⟨some 24, _, _, _, _, _⟩) rfl (by kernel_rfl) (by kernel_rfl) (by kernel_rfl) (fun _ _ _ h => h) (by rfl) (v := ?_) (fun w hSw => ?_) hS (fun hS => ?_)
  rotate_left
  · go_simp; try with_reducible rfl
  try go_frame
  refine held_pure (i := 3) (oi := ⟨some 25, _, _, _, _, _⟩) rfl (by kernel_rfl) (by kernel_rfl) (by kernel_rfl) (fun _ _ _ h => h) (by rfl) (v := ?_) (fun w hSw => ?_) hS (fun hS => ?_)
  rotate_left
  · go_simp; try with_reducible rfl
  try go_frame
  refine held_pure (i := 4) (oi := ⟨some 26, _, _, _, _, _⟩) rfl (by kernel_rfl) (by kernel_rfl) (by kernel_rfl) (fun _ _ _ h => h) (by rfl) (v := ?_) (fun w hSw => ?_) hS (fun hS => ?_)
  rotate_left
  · go_simp; try with_reducible rfl
  try go_frame
  refine held_pure (i := 5) (oi := ⟨some 27, _, _, _, _, _⟩) rfl (by kernel_rfl) (by kernel_rfl) (by kernel_rfl) (fun _ _ _ h => h) (by rfl) (fun w hSw => run_load_int rfl rfl (HC3.out _ hSw)) hS (fun hS => ?_)
  try go_frame
  refine wpAnyH_ready (rs := [1]) (by kernel_rfl) (by simp) (AllReadyH.cons (o := ⟨some 23, _, _, _, _, _⟩) rfl (fun K hK => ?_) AllReadyH.nil)
  rw [if_pos (by rfl)]
  go_simp
  refine (selen (HD3.out.m.below (Below.refl w3.heap.size w3).drew)).mono ?_
  rintro e u1 ⟨rfl, rfl⟩
  rw [HLE.out]
  show K _ _
  refine hK.out _ _ hS (fun hS => ?_)
  clear hK K
  try go_frame
  refine held_pure (i := 6) (oi := ⟨some 28, _, _, _, _, _⟩) rfl (by kernel_rfl) (by kernel_rfl) (by kernel_rfl) (fun _ _ _ h => h) (by rfl) (v := .bool false) (fun w hSw => by go_simp; (have hh := HFU.out; omega)) hS (fun hS => ?_)
  try go_frame
  refine wpAnyH_done (by kernel_rfl) ?_ _
  have b4 := bV.trans ((x3.trans (hS.mono x3.size)).mono bV.size)
  have HBOX : Hid (w3.drew.heap[w.heap.size]? = some (.cells (clSe x).toArray 34 (0, 0))) := Lib.hid (((x3.trans (hS.mono x3.size)).block w.heap.size (heap_lt HBX.out)).trans HBX.out)
  have HM := Lib.hid (HD3.out.m.below hS)
  generalize w3.drew = W at *
  have HBW : Hid (B0 ≤ W.heap.size) := Lib.hid (Nat.le_trans hzz b4.size)
  have HF4 := Lib.hid (FB.of_below b4 hzz)
  have HT4 := Lib.hid (hTB.step HF4.out.b)
  clear hTB kb0 hre k1
  clear hS x3 HD3 HC3 HK HTV
  by_cases hg : f = S.length
  · have kc4 := HM.out.c4
    have kc0 := HM.out.c0
    obtain ⟨n, hn⟩ : ∃ n, n = S.length := ⟨_, rfl⟩
    rw [← hn] at kc0
    have HN := Lib.hid hn
    have hfn : n = f := by rw [hn, hg]
    subst hfn
    have hd0 : decide (n = n) = true := by simp
    have kf0 := HM.out.fr 0
    have HO := Lib.hid HM.out.own
    rw [← hn] at HO
    obtain ⟨W1, hW1⟩ : ∃ W1, W1 = W.alloc (.cells (clSl none).toArray 65) := ⟨_, rfl⟩
    have HW1 := Lib.hid hW1
    have bW1 : Below W.heap.size W W1 := by rw [hW1]; exact (Below.refl _ W).alloc (Nat.le_refl _) _
    have hrz : W1.rangeAt W.heap.size 0 (clSl none) := by rw [hW1]; exact range_heap (World.alloc_heap_new W _)
    have HO1 := Lib.hid (own_below HO.out bW1)
    have HM1 := Lib.hid (HM.out.below bW1)
    have HNL : Hid (n ≤ 1000000) := Lib.hid (by have := HPU.out.2.2.1; have := HPU.out.1; omega)
    clear hn hg hW1
    go_upto_region 11 with (first
      | ((with_reducible show wpList _ _ _ (Oper.mk _ (Op.buildSlice _ _ _) _ _ _ _ :: _) _ _); refine list_growB rfl (run_bsSl (cs := (clSl none).toArray) rfl rfl rfl) ?_; rw [← HW1.out])
      | (at_builtin; go_loud (refine append_slt rfl _ _ rfl B0 _ n S rfl HO1.out HN.out W.heap.size none rfl hrz HNL.out (Nat.le_trans HBW.out bW1.size) ?_; intro v2 W2 hown2 hgrow2; obtain ⟨g2, c2', rfl⟩ := own_at hown2 (Nat.succ_pos n); have HG2 := Lib.hid (HM1.out.appended (n' := n + 1) (S' := S ++ [none]) hown2 (by rw [List.length_append, ← HN.out]; rfl) (by have hgx := hgrow2; rw [HN.out] at hgx; exact hgx)); have kd2 : W2.cell? ⟨d, 0, none⟩ = some (.slice A n c) := (by rw [HN.out]; exact HG2.out.1.1); have kf2 := HG2.out.1.2; clear hown2 hgrow2)))
    have q1 := HG2.out.2.1
    have HM6 := Lib.hid q1
    have HB6 := Lib.hid ((FB.of_below bW1 HBW.out).trans HG2.out.2.2)
    have kt6 : (W2.setCell ⟨d, 0, none⟩ (.slice (some ⟨g2, 0, none⟩) (n + 1) c2')).cell? ⟨d, 0, none⟩ = some (.slice (some ⟨g2, 0, none⟩) (n + 1) c2') := by have := q1.c0; rw [List.length_append, ← HN.out] at this; exact this
    have hlt6 : n < (S ++ [none]).length := by rw [List.length_append, ← HN.out]; simp
    have hpe : (S ++ [none]).set n (some x) = putS S n x := by rw [putS, if_pos HN.out, HN.out]; simp
    have HPE := Lib.hid hpe
    clear q1 kd2 kf2 hd0 hpe HG2 kc0 kc4 kf0
    generalize W2.setCell ⟨d, 0, none⟩ (.slice (some ⟨g2, 0, none⟩) (n + 1) c2') = W6 at *
    obtain ⟨S6, hS6⟩ : ∃ S6, S6 = S ++ [none] := ⟨_, rfl⟩
    obtain ⟨L6, hL6⟩ : ∃ L6, L6 = n + 1 := ⟨_, rfl⟩
    rw [← hS6] at HM6 hlt6 HPE
    have hkt : W6.cell? ⟨d, 0, none⟩ = some (.slice (some ⟨g2, 0, none⟩) L6 c2') := by rw [hL6]; exact kt6
    have hLS : L6 = S6.length := by rw [hL6, hS6, List.length_append, ← HN.out]; rfl
    clear kt6 hS6 hL6
    have bd6 := (Below.refl W6.heap.size W6).drew
    obtain ⟨gs, hgs, hth, hdm7, hfb7, hk7, hdg, cur7, hcur7⟩ := (HM6.out.below bd6).slot hlt6 (some x)
    obtain rfl : gs = g2 := by injection hgs with e1; injection e1 with e2 _ _; exact e2.symm
    have HBOX6 : Hid (W6.heap[w.heap.size]? = some (.cells (clSe x).toArray 34 (0, 0))) := Lib.hid (HB6.out.heap HBOX.out t4_no.1)
    have hbx6 := (bd6.block w.heap.size (heap_lt HBOX6.out)).trans HBOX6.out
    have hbne : w.heap.size ≠ gs := heap_ty hbx6 hcur7 (nat_ne (by kernel_rfl))
    have HS0 : Hid (∀ U, Kept (fun k => k = gs) W6 U → U.cell? ⟨d, 0, none⟩ = some (.slice (some ⟨gs, 0, none⟩) L6 c2')) := Lib.hid (fun U hU => (World.cell?_of_block (hU.block d (heap_lt HM6.out.obj) hdg)).trans hkt)
    have HSB : Hid (∀ U, Kept (fun k => k = gs) W6 U → U.rangeAt w.heap.size 0 (clSe x)) := Lib.hid (fun U hU => range_heap ((hU.block w.heap.size (heap_lt HBOX6.out) hbne).trans HBOX6.out))
    have HIX : Hid (n < L6) := Lib.hid (by rw [hLS]; exact hlt6)
    have HTH := Lib.hid hth
    have HD7 := Lib.hid hdm7
    have HF7 := Lib.hid ((HB6.out.trans (FB.of_below bd6 (Nat.le_trans HBW.out HB6.out.size))).trans hfb7)
    have HBOX7 : Hid ((W6.drew.setCells gs (n * 6) (clSl (some x))).heap[w.heap.size]? = some (.cells (clSe x).toArray 34 (0, 0))) := Lib.hid ((hk7.block w.heap.size (heap_lt hbx6) hbne).trans hbx6)
    clear hgs hth hdm7 hfb7 hk7 hcur7 hbx6 bd6
    refine wp_region_held_drew (S := fun w' => Kept (fun k => k = gs) W6 w') (by kernel_rfl) (Kept.drew W6) (fun hS => ?_)
    refine held_pure (i := 0) (oi := ⟨some 50, _, _, _, _, _⟩) rfl (by kernel_rfl) (by kernel_rfl) (by kernel_rfl) (fun _ _ _ h => h) (by rfl) (v := ?_) (fun w hSw => ?_) hS (fun hS => ?_)
    rotate_left
    · go_simp; try with_reducible rfl
    try go_frame
    refine held_pure (i := 1) (oi := ⟨some 51, _, _, _, _, _⟩) rfl (by kernel_rfl) (by kernel_rfl) (by kernel_rfl) (fun _ _ _ h => h) (by rfl) (v := ?_) (fun w hSw => ?_) hS (fun hS => ?_)
    rotate_left
    · go_simp; try with_reducible rfl
    try go_frame
    refine held_pure (i := 2) (oi := ⟨some 52, _, _, _, _, _⟩) rfl (by kernel_rfl) (by kernel_rfl) (by kernel_rfl) (fun _ _ _ h => h) (by rfl) (v := ?_) (fun w hSw => ?_) hS (fun hS => ?_)
    rotate_left
    · go_simp; try with_reducible rfl
    try go_frame
    refine held_pure (i := 3) (oi := ⟨some 53, _, _, _, _, _⟩) rfl (by kernel_rfl) (by kernel_rfl) (by kernel_rfl) (fun _ _ _ h => h) (by rfl) (fun w hSw => run_load_sls rfl rfl (HS0.out _ hSw)) hS (fun hS => ?_)
    try go_frame
    refine held_pure (i := 4) (oi := ⟨some 54, _, _, _, _, _⟩) rfl (by kernel_rfl) (by kernel_rfl) (by kernel_rfl) (fun _ _ _ h => h) (by rfl) (v := ?_) (fun w hSw => ?_) hS (fun hS => ?_)
    rotate_left
    · go_simp; try with_reducible rfl
    try go_frame
    refine held_pure (i := 5) (oi := ⟨some 55, _, _, _, _, _⟩) rfl (by kernel_rfl) (by kernel_rfl) (by kernel_rfl) (fun _ _ _ h => h) (by rfl) (fun w hSw => run_load_se rfl rfl (HSB.out _ hSw)) hS (fun hS => ?_)
    try go_frame
    refine held_pure (i := 6) (oi := ⟨some 56, _, _, _, _, _⟩) rfl (by kernel_rfl) (by kernel_rfl) (by kernel_rfl) (fun _ _ _ h => h) (by rfl) (v := .agg (clSl (some x)).toArray) (fun w hSw => by unfold seV clSe clSl; go_simp; try rfl) hS (fun hS => ?_)
    try go_frame
    refine held_pure (i := 7) (oi := ⟨some 57, _, _, _, _, _⟩) rfl (by kernel_rfl) (by kernel_rfl) (by kernel_rfl) (fun _ _ _ h => h) (by rfl) (v := .pointer (some ⟨gs, n * 6, none⟩)) (fun w hSw => by go_simp; try (have hh := HIX.out; rw [if_pos ⟨by omega, by omega⟩]; simp)) hS (fun hS => ?_)
    try go_frame
    refine wpAnyH_ready (rs := [8]) (by kernel_rfl) (by simp) (AllReadyH.cons (o := ⟨none, _, _, _, _, _⟩) rfl (fun K hK => ?_) AllReadyH.nil)
    rw [if_pos (by rfl)]
    refine store_slt_wp (cs := clSl (some x)) rfl rfl rfl HTH.out rfl (clSl_one _) ?_
    refine hK.out _ _ ((Kept.drew W6).trans (Kept.setCells gs _ _ _) (fun _ _ e => e)) (fun hS => ?_)
    clear hK K
    try go_frame
    refine wpAnyH_done (by kernel_rfl) ?_ _
    generalize hW7 : W6.drew.setCells gs (n * 6) (clSl (some x)) = W7 at *
    clear hW7
    have HZ7 : Hid (B0 ≤ W7.heap.size) := Lib.hid (Nat.le_trans HBW.out HF7.out.size)
    have HT7 := Lib.hid (HT4.out.step HF7.out.b)
    have HPP := Lib.hid (put_pure HPU.out HF.out HFD.out)
    have HLI : Hid (((inE (docB 0 S)).length : Int) < most) := Lib.hid (by have h9 := HPU.out.2.1; simpa [inE] using h9)
    have HLX : Hid ((txtN x.inn).length ≤ 1000000) := Lib.hid (by have h7 := txtN_len HF.out.inn; have e7 : x.inn.length ≤ 4 := (by simp [Sd.inn]); omega)
    have hbt := kt_apart HD7.out.inn HBOX7.out (nat_ne (by kernel_rfl)) (nat_ne (by kernel_rfl))
    have hdt := kt_apart HD7.out.inn HD7.out.obj (nat_ne (by kernel_rfl)) (nat_ne (by kernel_rfl))
    have HC1 : Hid (∀ U, KT t1 b1 W7 U → U.cell? ⟨d, 1, none⟩ = some (.pointer (some ⟨t1, 0, none⟩))) := Lib.hid (fun U hU => (World.cell?_of_block (hU.block d (heap_lt HD7.out.obj) hdt)).trans HD7.out.c1)
    have HBI : Hid (∀ U, KT t1 b1 W7 U → U.cell? ⟨w.heap.size, 0, none⟩ = some (.int .i64 x.b) ∧ U.rangeAt w.heap.size 3 (clR x)) := Lib.hid (fun U hU => by
      have h9 := (hU.block w.heap.size (heap_lt HBOX7.out) hbt).trans HBOX7.out
      exact ⟨cells_at (i := 0) h9 rfl, box_re h9⟩)
    clear hbt hdt
    go_upto_region 12 with fail
    refine wp_region_held_drew (S := fun w' => KT t1 b1 W7 w') (by kernel_rfl) (KT.of_below (Below.refl W7.heap.size W7).drew) (fun hS => ?_)
    refine held_pure (i := 0) (oi := ⟨some 58, _, _, _, _, _⟩) rfl (by kernel_rfl) (by kernel_rfl) (by kernel_rfl) (fun _ _ _ h => h) (by rfl) (v := ?_) (fun w hSw => ?_) hS (fun hS => ?_)
    rotate_left
    · go_simp; try with_reducible rfl
    try go_frame
    refine held_pure (i := 1) (oi := ⟨some 59, _, _, _, _, _⟩) rfl (by kernel_rfl) (by kernel_rfl) (by kernel_rfl) (fun _ _ _ h => h) (by rfl) (v := ?_) (fun w hSw => ?_) hS (fun hS => ?_)
    rotate_left
    · go_simp; try with_reducible rfl
    try go_frame
    refine held_pure (i := 2) (oi := ⟨some 60, _, _, _, _, _⟩) rfl (by kernel_rfl) (by kernel_rfl) (by kernel_rfl) (fun _ _ _ h => h) (by rfl) (v := ?_) (fun w hSw => ?_) hS (fun hS => ?_)
    rotate_left
    · go_simp; try with_reducible rfl
    try go_frame
    refine held_pure (i := 3) (oi := ⟨some 61, _, _, _, _, _⟩) rfl (by kernel_rfl) (by kernel_rfl) (by kernel_rfl) (fun _ _ _ h => h) (by rfl) (fun w hSw => run_load_pse rfl rfl (HC1.out _ hSw)) hS (fun hS => ?_)
    try go_frame
    refine held_pure (i := 4) (oi := ⟨some 62, _, _, _, _, _⟩) rfl (by kernel_rfl) (by kernel_rfl) (by kernel_rfl) (fun _ _ _ h => h) (by rfl) (v := ?_) (fun w hSw => ?_) hS (fun hS => ?_)
    rotate_left
    · go_simp; try with_reducible rfl
    try go_frame
    refine held_pure (i := 5) (oi := ⟨some 63, _, _, _, _, _⟩) rfl (by kernel_rfl) (by kernel_rfl) (by kernel_rfl) (fun _ _ _ h => h) (by rfl) (fun w hSw => run_load_int rfl rfl (HBI.out _ hSw).1) hS (fun hS => ?_)
    try go_frame
    refine held_pure (i := 6) (oi := ⟨some 64, _, _, _, _, _⟩) rfl (by kernel_rfl) (by kernel_rfl) (by kernel_rfl) (fun _ _ _ h => h) (by rfl) (v := ?_) (fun w hSw => ?_) hS (fun hS => ?_)
    rotate_left
    · go_simp; try with_reducible rfl
    try go_frame
    refine held_pure (i := 7) (oi := ⟨some 65, _, _, _, _, _⟩) rfl (by kernel_rfl) (by kernel_rfl) (by kernel_rfl) (fun _ _ _ h => h) (by rfl) (fun w hSw => run_load_re rfl rfl (HBI.out _ hSw).2) hS (fun hS => ?_)
    try go_frame
    refine held_pure (i := 9) (oi := ⟨some 67, _, _, _, _, _⟩) rfl (by kernel_rfl) (by kernel_rfl) (by kernel_rfl) (fun _ _ _ h => h) (by rfl) (v := ?_) (fun w hSw => ?_) hS (fun hS => ?_)
    rotate_left
    · go_simp; try with_reducible rfl
    try go_frame
    refine wpAnyH_ready (rs := [8]) (by kernel_rfl) (by simp) (AllReadyH.cons (o := ⟨some 66, _, _, _, _, _⟩) rfl (fun K hK => ?_) AllReadyH.nil)
    rw [if_pos (by rfl)]
    go_simp
    refine (setext x W7.drew HF.out (HT7.out.here.step (Below.refl W7.heap.size W7).drew)).mono ?_
    rintro e w5 ⟨rfl, x5⟩
    have x6 : Below W7.heap.size W7 w5 := (Below.refl W7.heap.size W7).drew.trans x5
    have z6 := Nat.le_trans HZ7.out x6.size
    show K _ _
    refine hK.out _ _ (KT.of_below x6) (fun hS => ?_)
    clear hK K
    try go_frame
    refine wpAnyH_ready (rs := [10]) (by kernel_rfl) (by simp) (AllReadyH.cons (o := ⟨some 68, _, _, _, _, _⟩) rfl (fun K hK => ?_) AllReadyH.nil)
    rw [if_pos (by rfl)]
    go_simp
    refine (hq_put_new (key := txtN x.inn) (HD7.out.inn.below x6) (inE_key HPP.out.1) HLI.out (n : Int) HLX.out z6).mono ?_
    rintro e W8 ⟨b1', rfl, q8, -, k8, e8⟩
    have HQ8 := Lib.hid (show _ ∧ _ from (HD7.out.below x6).tin q8 k8 e8)
    have hF8 := (FB.of_below x6 HZ7.out).trans HQ8.out.2
    have hKT := (KT.of_below x6).trans k8
    clear q8 e8
    show K _ _
    refine hK.out _ _ hKT (fun hS => ?_)
    clear hK K
    try go_frame
    refine wpAnyH_done (by kernel_rfl) ?_ _
    have HD8 := Lib.hid HQ8.out.1
    have HF8 := Lib.hid (HF7.out.trans hF8)
    have HZ8 : Hid (B0 ≤ W8.heap.size) := Lib.hid (Nat.le_trans HBW.out HF8.out.size)
    have HBOX8 := Lib.hid (hF8.heap HBOX7.out t4_no.1)
    have kb8 : W8.cell? ⟨w.heap.size, 0, none⟩ = some (.int .i64 x.b) := cells_at (i := 0) HBOX8.out rfl
    have HWB : Hid (wfQ x.b) := Lib.hid (HF.out x.b (by simp))
    have HIL : Hid ((idsD (docB 0 S) x.b).length ≤ 100000) := Lib.hid (by have h1 := idsD_len (docB 0 S) x.b; have h2 := HPU.out.2.1; have h3 := HPU.out.1; omega)
    have HJN := Lib.hid (sejoin HD8.out.mp HD8.out.c2 ⟨_, HD8.out.obj⟩ HWB.out n (idsD_srt (docB_ids 0 S) x.b) HIL.out HNM.out HZ8.out)
    clear hF8 hKT hS
    go_upto_region 14 with (go_at_call 27; refine HJN.out.mono ?_; rintro e W9 ⟨rfl, kj, hat, hjo, QJ, hkj, hoj, hzj⟩; have HAT := Lib.hid hat; have HJ9 := Lib.hid (show _ ∧ _ from HD8.out.tmp hjo hkj hoj hzj); clear hat hjo hkj hoj hzj)
    clear kb8
    have HD9 := Lib.hid HJ9.out.1
    have HF9 := Lib.hid (HF4.out.trans (HF8.out.trans HJ9.out.2))
    obtain ⟨PS, hPS⟩ : ∃ PS, PS = putS S n x := ⟨_, rfl⟩
    rw [HPE.out, ← hPS] at HD9
    have HPS := Lib.hid hPS
    have HNF : Hid (n ≤ S.length) := Lib.hid HPU.out.2.2.2.1.le
    have HPL : Hid (PS.length ≤ 100000) := Lib.hid (by have h1 := HPP.out.2.2.2; have h2 := HPU.out.1; rw [hPS]; omega)
    have HFL : Hid (n ≤ PS.length) := Lib.hid (by rw [hPS, putS_len]; have h1 := HNF.out; split <;> omega)
    have HTK : Hid (∀ j, j < n → ∃ y, PS[j]? = some (some y)) := Lib.hid (fun j hj => by obtain ⟨y, hy⟩ := HPU.out.2.2.2.1.all j hj; exact ⟨y, by rw [hPS, putS_at HNF.out, if_neg (by omega)]; exact hy⟩)
    clear hPS
    have kc9 := HD9.out.c4
    have kf9 := HD9.out.fr 4
    go_upto_region 15 with (go_at_call 28; refine (sefreefrom HD9.out n HFL.out HPL.out).mono ?_; rintro e W10 ⟨kk, rfl, q1, q2, q3, q4, x10⟩; have HQ10 := Lib.hid (show _ ∧ _ ∧ _ ∧ _ from ⟨q1, q2, q3, q4⟩); have HD10 := Lib.hid (HD9.out.below x10); have kc10 := HD10.out.c4; have kf10 := HD10.out.fr 4; clear q1 q2 q3 q4)
    have HSE := Lib.hid (HD10.out.seti (f' := kk))
    have HFX := Lib.hid ((HF9.out.trans (FB.of_below x10 (Nat.le_trans hzz HF9.out.size))).trans HSE.out.2)
    have HFR : Hid (FreeB PS kk) := Lib.hid ⟨HQ10.out.2.1, fun j hj => by by_cases hjf : j < n; exact HTK.out j hjf; exact HQ10.out.2.2.1 j (by omega) hj, HQ10.out.2.2.2⟩
    go_wp2_with fail
    refine bodyPost_ret (results_tmp2 rfl _ _ _) rfl ⟨rfl, b1', some ⟨gs, 0, none⟩, c2', kk, ?_, HFX.out⟩
    have hpp := HPU.out.2.2.2.1.pput x
    have hs9 := HSE.out.1
    rw [← HPS.out]
    refine ⟨⟨hs9.obj, hs9.own, ?_, ?_, hs9.z⟩, HFR.out, ?_, ?_, HPU.out.1, ?_⟩
    · refine hs9.inn.perm ?_
      rw [HPS.out]; exact (hpp.map (fun e : Nat × Sd => (⟨txtN e.2.inn, (e.1 : Int)⟩ : Ent))).symm
    · refine hs9.mp.congr (fun z _ => ?_)
      rw [HPS.out]; exact idsD_put HPU.out.2.2.2.1 HAT.out z
    · rw [HPS.out]; exact HPP.out.2.1
    · rw [HPS.out]; exact HPP.out.2.2.1
    · rw [HPS.out]; exact HPP.out.2.2.2
  · have kc4 := HM.out.c4
    have kc0 := HM.out.c0
    obtain ⟨n, hn⟩ : ∃ n, n = S.length := ⟨_, rfl⟩
    rw [← hn] at kc0
    have HN := Lib.hid hn
    have hfn : f ≠ n := by rw [hn]; exact hg
    have hd0 : ((f : Int) == (n : Int)) = false := by simp; omega
    have hd1 : decide (f = n) = false := decide_eq_false hfn
    have hlt6 : f < S.length := by have := HPU.out.2.2.2.1.le; omega
    have hpe : S.set f (some x) = putS S f x := by rw [putS, if_neg hg]
    have HPE := Lib.hid hpe
    obtain ⟨gg, hAg, _⟩ := HM.out.slot hlt6 (some x)
    subst hAg
    have hLS := hn
    clear hpe hn hfn
    go_upto_region 11 with fail
    obtain ⟨W6, hW6⟩ : ∃ W6, W6 = W := ⟨_, rfl⟩
    have HM6 : Hid (Sm W6 B0 d t1 b1 bm (some ⟨gg, 0, none⟩) c most S f N (inE (docB 0 S)) (idsD (docB 0 S))) := Lib.hid (by rw [hW6]; exact HM.out)
    have HB6 : Hid (FB B0 W W6) := Lib.hid (by rw [hW6]; exact FB.of_below (Below.refl _ W) HBW.out)
    have hkt : W6.cell? ⟨d, 0, none⟩ = some (.slice (some ⟨gg, 0, none⟩) n c) := by rw [hW6]; exact kc0
    rw [← hW6]
    clear kc0 kc4 hd0 hd1 hW6
    have bd6 := (Below.refl W6.heap.size W6).drew
    obtain ⟨gs, hgs, hth, hdm7, hfb7, hk7, hdg, cur7, hcur7⟩ := (HM6.out.below bd6).slot hlt6 (some x)
    obtain rfl : gs = gg := by injection hgs with e1; injection e1 with e2 _ _; exact e2.symm
    have HBOX6 : Hid (W6.heap[w.heap.size]? = some (.cells (clSe x).toArray 34 (0, 0))) := Lib.hid (HB6.out.heap HBOX.out t4_no.1)
    have hbx6 := (bd6.block w.heap.size (heap_lt HBOX6.out)).trans HBOX6.out
    have hbne : w.heap.size ≠ gs := heap_ty hbx6 hcur7 (nat_ne (by kernel_rfl))
    have HS0 : Hid (∀ U, Kept (fun k => k = gs) W6 U → U.cell? ⟨d, 0, none⟩ = some (.slice (some ⟨gs, 0, none⟩) n c)) := Lib.hid (fun U hU => (World.cell?_of_block (hU.block d (heap_lt HM6.out.obj) hdg)).trans hkt)
    have HSB : Hid (∀ U, Kept (fun k => k = gs) W6 U → U.rangeAt w.heap.size 0 (clSe x)) := Lib.hid (fun U hU => range_heap ((hU.block w.heap.size (heap_lt HBOX6.out) hbne).trans HBOX6.out))
    have HIX : Hid (f < n) := Lib.hid (by rw [hLS]; exact hlt6)
    have HTH := Lib.hid hth
    have HD7 := Lib.hid hdm7
    have HF7 := Lib.hid ((HB6.out.trans (FB.of_below bd6 (Nat.le_trans HBW.out HB6.out.size))).trans hfb7)
    have HBOX7 : Hid ((W6.drew.setCells gs (f * 6) (clSl (some x))).heap[w.heap.size]? = some (.cells (clSe x).toArray 34 (0, 0))) := Lib.hid ((hk7.block w.heap.size (heap_lt hbx6) hbne).trans hbx6)
    clear hgs hth hdm7 hfb7 hk7 hcur7 hbx6 bd6
    refine wp_region_held_drew (S := fun w' => Kept (fun k => k = gs) W6 w') (by kernel_rfl) (Kept.drew W6) (fun hS => ?_)
    refine held_pure (i := 0) (oi := ⟨some 50, _, _, _, _, _⟩) rfl (by kernel_rfl) (by kernel_rfl) (by kernel_rfl) (fun _ _ _ h => h) (by rfl) (v := ?_) (fun w hSw => ?_) hS (fun hS => ?_)
    rotate_left
    · go_simp; try with_reducible rfl
    try go_frame
    refine held_pure (i := 1) (oi := ⟨some 51, _, _, _, _, _⟩) rfl (by kernel_rfl) (by kernel_rfl) (by kernel_rfl) (fun _ _ _ h => h) (by rfl) (v := ?_) (fun w hSw => ?_) hS (fun hS => ?_)
    rotate_left
    · go_simp; try with_reducible rfl
    try go_frame
    refine held_pure (i := 2) (oi := ⟨some 52, _, _, _, _, _⟩) rfl (by kernel_rfl) (by kernel_rfl) (by kernel_rfl) (fun _ _ _ h => h) (by rfl) (v := ?_) (fun w hSw => ?_) hS (fun hS => ?_)
    rotate_left
    · go_simp; try with_reducible rfl
    try go_frame
    refine held_pure (i := 3) (oi := ⟨some 53, _, _, _, _, _⟩) rfl (by kernel_rfl) (by kernel_rfl) (by kernel_rfl) (fun _ _ _ h => h) (by rfl) (fun w hSw => run_load_sls rfl rfl (HS0.out _ hSw)) hS (fun hS => ?_)
    try go_frame
    refine held_pure (i := 4) (oi := ⟨some 54, _, _, _, _, _⟩) rfl (by kernel_rfl) (by kernel_rfl) (by kernel_rfl) (fun _ _ _ h => h) (by rfl) (v := ?_) (fun w hSw => ?_) hS (fun hS => ?_)
    rotate_left
    · go_simp; try with_reducible rfl
    try go_frame
    refine held_pure (i := 5) (oi := ⟨some 55, _, _, _, _, _⟩) rfl (by kernel_rfl) (by kernel_rfl) (by kernel_rfl) (fun _ _ _ h => h) (by rfl) (fun w hSw => run_load_se rfl rfl (HSB.out _ hSw)) hS (fun hS => ?_)
    try go_frame
    refine held_pure (i := 6) (oi := ⟨some 56, _, _, _, _, _⟩) rfl (by kernel_rfl) (by kernel_rfl) (by kernel_rfl) (fun _ _ _ h => h) (by rfl) (v := .agg (clSl (some x)).toArray) (fun w hSw => by unfold seV clSe clSl; go_simp; try rfl) hS (fun hS => ?_)
    try go_frame
    refine held_pure (i := 7) (oi := ⟨some 57, _, _, _, _, _⟩) rfl (by kernel_rfl) (by kernel_rfl) (by kernel_rfl) (fun _ _ _ h => h) (by rfl) (v := .pointer (some ⟨gs, f * 6, none⟩)) (fun w hSw => by go_simp; try (have hh := HIX.out; rw [if_pos ⟨by omega, by omega⟩]; simp)) hS (fun hS => ?_)
    try go_frame
    refine wpAnyH_ready (rs := [8]) (by kernel_rfl) (by simp) (AllReadyH.cons (o := ⟨none, _, _, _, _, _⟩) rfl (fun K hK => ?_) AllReadyH.nil)
    rw [if_pos (by rfl)]
    refine store_slt_wp (cs := clSl (some x)) rfl rfl rfl HTH.out rfl (clSl_one _) ?_
    refine hK.out _ _ ((Kept.drew W6).trans (Kept.setCells gs _ _ _) (fun _ _ e => e)) (fun hS => ?_)
    clear hK K
    try go_frame
    refine wpAnyH_done (by kernel_rfl) ?_ _
    generalize hW7 : W6.drew.setCells gs (f * 6) (clSl (some x)) = W7 at *
    clear hW7
    have HZ7 : Hid (B0 ≤ W7.heap.size) := Lib.hid (Nat.le_trans HBW.out HF7.out.size)
    have HT7 := Lib.hid (HT4.out.step HF7.out.b)
    have HPP := Lib.hid (put_pure HPU.out HF.out HFD.out)
    have HLI : Hid (((inE (docB 0 S)).length : Int) < most) := Lib.hid (by have h9 := HPU.out.2.1; simpa [inE] using h9)
    have HLX : Hid ((txtN x.inn).length ≤ 1000000) := Lib.hid (by have h7 := txtN_len HF.out.inn; have e7 : x.inn.length ≤ 4 := (by simp [Sd.inn]); omega)
    have hbt := kt_apart HD7.out.inn HBOX7.out (nat_ne (by kernel_rfl)) (nat_ne (by kernel_rfl))
    have hdt := kt_apart HD7.out.inn HD7.out.obj (nat_ne (by kernel_rfl)) (nat_ne (by kernel_rfl))
    have HC1 : Hid (∀ U, KT t1 b1 W7 U → U.cell? ⟨d, 1, none⟩ = some (.pointer (some ⟨t1, 0, none⟩))) := Lib.hid (fun U hU => (World.cell?_of_block (hU.block d (heap_lt HD7.out.obj) hdt)).trans HD7.out.c1)
    have HBI : Hid (∀ U, KT t1 b1 W7 U → U.cell? ⟨w.heap.size, 0, none⟩ = some (.int .i64 x.b) ∧ U.rangeAt w.heap.size 3 (clR x)) := Lib.hid (fun U hU => by
      have h9 := (hU.block w.heap.size (heap_lt HBOX7.out) hbt).trans HBOX7.out
      exact ⟨cells_at (i := 0) h9 rfl, box_re h9⟩)
    clear hbt hdt
    go_upto_region 12 with fail
    refine wp_region_held_drew (S := fun w' => KT t1 b1 W7 w') (by kernel_rfl) (KT.of_below (Below.refl W7.heap.size W7).drew) (fun hS => ?_)
    refine held_pure (i := 0) (oi := ⟨some 58, _, _, _, _, _⟩) rfl (by kernel_rfl) (by kernel_rfl) (by kernel_rfl) (fun _ _ _ h => h) (by rfl) (v := ?_) (fun w hSw => ?_) hS (fun hS => ?_)
    rotate_left
    · go_simp; try with_reducible rfl
    try go_frame
    refine held_pure (i := 1) (oi := ⟨some 59, _, _, _, _, _⟩) rfl (by kernel_rfl) (by kernel_rfl) (by kernel_rfl) (fun _ _ _ h => h) (by rfl) (v := ?_) (fun w hSw => ?_) hS (fun hS => ?_)
    rotate_left
    · go_simp; try with_reducible rfl
    try go_frame
    refine held_pure (i := 2) (oi := ⟨some 60, _, _, _, _, _⟩) rfl (by kernel_rfl) (by kernel_rfl) (by kernel_rfl) (fun _ _ _ h => h) (by rfl) (v := ?_) (fun w hSw => ?_) hS (fun hS => ?_)
    rotate_left
    · go_simp; try with_reducible rfl
    try go_frame
    refine held_pure (i := 3) (oi := ⟨some 61, _, _, _, _, _⟩) rfl (by kernel_rfl) (by kernel_rfl) (by kernel_rfl) (fun _ _ _ h => h) (by rfl) (fun w hSw => run_load_pse rfl rfl (HC1.out _ hSw)) hS (fun hS => ?_)
    try go_frame
    refine held_pure (i := 4) (oi := ⟨some 62, _, _, _, _, _⟩) rfl (by kernel_rfl) (by kernel_rfl) (by kernel_rfl) (fun _ _ _ h => h) (by rfl) (v := ?_) (fun w hSw => ?_) hS (fun hS => ?_)
    rotate_left
    · go_simp; try with_reducible rfl
    try go_frame
    refine held_pure (i := 5) (oi := ⟨some 63, _, _, _, _, _⟩) rfl (by kernel_rfl) (by kernel_rfl) (by kernel_rfl) (fun _ _ _ h => h) (by rfl) (fun w hSw => run_load_int rfl rfl (HBI.out _ hSw).1) hS (fun hS => ?_)
    try go_frame
    refine held_pure (i := 6) (oi := ⟨some 64, _, _, _, _, _⟩) rfl (by kernel_rfl) (by kernel_rfl) (by kernel_rfl) (fun _ _ _ h => h) (by rfl) (v := ?_) (fun w hSw => ?_) hS (fun hS => ?_)
    rotate_left
    · go_simp; try with_reducible rfl
    try go_frame
    refine held_pure (i := 7) (oi := ⟨some 65, _, _, _, _, _⟩) rfl (by kernel_rfl) (by kernel_rfl) (by kernel_rfl) (fun _ _ _ h => h) (by rfl) (fun w hSw => run_load_re rfl rfl (HBI.out _ hSw).2) hS (fun hS => ?_)
    try go_frame
    refine held_pure (i := 9) (oi := ⟨some 67, _, _, _, _, _⟩) rfl (by kernel_rfl) (by kernel_rfl) (by kernel_rfl) (fun _ _ _ h => h) (by rfl) (v := ?_) (fun w hSw => ?_) hS (fun hS => ?_)
    rotate_left
    · go_simp; try with_reducible rfl
    try go_frame
    refine wpAnyH_ready (rs := [8]) (by kernel_rfl) (by simp) (AllReadyH.cons (o := ⟨some 66, _, _, _, _, _⟩) rfl (fun K hK => ?_) AllReadyH.nil)
    rw [if_pos (by rfl)]
    go_simp
    refine (setext x W7.drew HF.out (HT7.out.here.step (Below.refl W7.heap.size W7).drew)).mono ?_
    rintro e w5 ⟨rfl, x5⟩
    have x6 : Below W7.heap.size W7 w5 := (Below.refl W7.heap.size W7).drew.trans x5
    have z6 := Nat.le_trans HZ7.out x6.size
    show K _ _
    refine hK.out _ _ (KT.of_below x6) (fun hS => ?_)
    clear hK K
    try go_frame
    refine wpAnyH_ready (rs := [10]) (by kernel_rfl) (by simp) (AllReadyH.cons (o := ⟨some 68, _, _, _, _, _⟩) rfl (fun K hK => ?_) AllReadyH.nil)
    rw [if_pos (by rfl)]
    go_simp
    refine (hq_put_new (key := txtN x.inn) (HD7.out.inn.below x6) (inE_key HPP.out.1) HLI.out (f : Int) HLX.out z6).mono ?_
    rintro e W8 ⟨b1', rfl, q8, -, k8, e8⟩
    have HQ8 := Lib.hid (show _ ∧ _ from (HD7.out.below x6).tin q8 k8 e8)
    have hF8 := (FB.of_below x6 HZ7.out).trans HQ8.out.2
    have hKT := (KT.of_below x6).trans k8
    clear q8 e8
    show K _ _
    refine hK.out _ _ hKT (fun hS => ?_)
    clear hK K
    try go_frame
    refine wpAnyH_done (by kernel_rfl) ?_ _
    have HD8 := Lib.hid HQ8.out.1
    have HF8 := Lib.hid (HF7.out.trans hF8)
    have HZ8 : Hid (B0 ≤ W8.heap.size) := Lib.hid (Nat.le_trans HBW.out HF8.out.size)
    have HBOX8 := Lib.hid (hF8.heap HBOX7.out t4_no.1)
    have kb8 : W8.cell? ⟨w.heap.size, 0, none⟩ = some (.int .i64 x.b) := cells_at (i := 0) HBOX8.out rfl
    have HWB : Hid (wfQ x.b) := Lib.hid (HF.out x.b (by simp))
    have HIL : Hid ((idsD (docB 0 S) x.b).length ≤ 100000) := Lib.hid (by have h1 := idsD_len (docB 0 S) x.b; have h2 := HPU.out.2.1; have h3 := HPU.out.1; omega)
    have HJN := Lib.hid (sejoin HD8.out.mp HD8.out.c2 ⟨_, HD8.out.obj⟩ HWB.out f (idsD_srt (docB_ids 0 S) x.b) HIL.out HNM.out HZ8.out)
    clear hF8 hKT hS
    go_upto_region 14 with (go_at_call 27; refine HJN.out.mono ?_; rintro e W9 ⟨rfl, kj, hat, hjo, QJ, hkj, hoj, hzj⟩; have HAT := Lib.hid hat; have HJ9 := Lib.hid (show _ ∧ _ from HD8.out.tmp hjo hkj hoj hzj); clear hat hjo hkj hoj hzj)
    clear kb8
    have HD9 := Lib.hid HJ9.out.1
    have HF9 := Lib.hid (HF4.out.trans (HF8.out.trans HJ9.out.2))
    obtain ⟨PS, hPS⟩ : ∃ PS, PS = putS S f x := ⟨_, rfl⟩
    rw [HPE.out, ← hPS] at HD9
    have HPS := Lib.hid hPS
    have HNF : Hid (f ≤ S.length) := Lib.hid HPU.out.2.2.2.1.le
    have HPL : Hid (PS.length ≤ 100000) := Lib.hid (by have h1 := HPP.out.2.2.2; have h2 := HPU.out.1; rw [hPS]; omega)
    have HFL : Hid (f ≤ PS.length) := Lib.hid (by rw [hPS, putS_len]; have h1 := HNF.out; split <;> omega)
    have HTK : Hid (∀ j, j < f → ∃ y, PS[j]? = some (some y)) := Lib.hid (fun j hj => by obtain ⟨y, hy⟩ := HPU.out.2.2.2.1.all j hj; exact ⟨y, by rw [hPS, putS_at HNF.out, if_neg (by omega)]; exact hy⟩)
    clear hPS
    have kc9 := HD9.out.c4
    have kf9 := HD9.out.fr 4
    go_upto_region 15 with (go_at_call 28; refine (sefreefrom HD9.out f HFL.out HPL.out).mono ?_; rintro e W10 ⟨kk, rfl, q1, q2, q3, q4, x10⟩; have HQ10 := Lib.hid (show _ ∧ _ ∧ _ ∧ _ from ⟨q1, q2, q3, q4⟩); have HD10 := Lib.hid (HD9.out.below x10); have kc10 := HD10.out.c4; have kf10 := HD10.out.fr 4; clear q1 q2 q3 q4)
    have HSE := Lib.hid (HD10.out.seti (f' := kk))
    have HFX := Lib.hid ((HF9.out.trans (FB.of_below x10 (Nat.le_trans hzz HF9.out.size))).trans HSE.out.2)
    have HFR : Hid (FreeB PS kk) := Lib.hid ⟨HQ10.out.2.1, fun j hj => by by_cases hjf : j < f; exact HTK.out j hjf; exact HQ10.out.2.2.1 j (by omega) hj, HQ10.out.2.2.2⟩
    go_wp2_with fail
    refine bodyPost_ret (results_tmp2 rfl _ _ _) rfl ⟨rfl, b1', some ⟨gs, 0, none⟩, c, kk, ?_, HFX.out⟩
    have hpp := HPU.out.2.2.2.1.pput x
    have hs9 := HSE.out.1
    rw [← HPS.out]
    refine ⟨⟨hs9.obj, hs9.own, ?_, ?_, hs9.z⟩, HFR.out, ?_, ?_, HPU.out.1, ?_⟩
    · refine hs9.inn.perm ?_
      rw [HPS.out]; exact (hpp.map (fun e : Nat × Sd => (⟨txtN e.2.inn, (e.1 : Int)⟩ : Ent))).symm
    · refine hs9.mp.congr (fun z _ => ?_)
      rw [HPS.out]; exact idsD_put HPU.out.2.2.2.1 HAT.out z
    · rw [HPS.out]; exact HPP.out.2.1
    · rw [HPS.out]; exact HPP.out.2.2.1
    · rw [HPS.out]; exact HPP.out.2.2.2
end
end Go.Proofs.YtghbliabmecbcaaDoor

/-
  New, Get, Remove, Set of layer 24's code. Conditions are each theorem's own.
-/
namespace Go.Proofs.YtghbliabmecbcaaDoor
open Go.RowKit Go.Shelf Go.Maps
def sd0 : Sd := ⟨0, 0, 0, 0, 0⟩
set_option maxRecDepth 100000 in
theorem se_store_new {ops : Array Oper} {rest : List Oper} {x y : Operand} {ty : TypeId} {pos : String} {af : Array Edge} {a : Act} {w : World} {Q : Exit → Act → World → Prop}
    {t : TypeId} {cs old : Array Value} (hx : a.eval x = .pointer (some ⟨w.heap.size, 0, none⟩)) (hy : a.eval y = .agg cs) (ho : old.size = 5) (hl : cs.size = 5) (h1 : cs.all (·.oneCell') = true)
    (h : wpList Tryd.prog ops Q rest (a.put none undef) (w.alloc (.cells cs t))) : wpList Tryd.prog ops Q (⟨none, .store 34 x y, ty, pos, af, none⟩ :: rest) a (w.alloc (.cells old t)) :=
  wpList_plain rfl fun _ hK => wp_store_row 34 x y rfl w.heap.size cs hx hy t old (World.alloc_heap_new w _) (by rw [hl]; kernel_rfl) (by rw [ho, hl]) h1 (by rw [World.setRow_alloc_new]; exact hK _ _ h)
set_option maxRecDepth 100000 in
theorem se_result2 {fn : Func} {p q : Tmp} {tmps : Array Value} {w : World} {g : Nat} {t : TypeId} {cs : Array Value} {fr : Nat × Nat} (h : fn.results = #[.cell p 34, .tmp q])
    (hp : tmps.getD p undef = .pointer (some ⟨g, 0, none⟩)) (hg : w.heap[g]? = some (.cells cs t fr)) (hl : cs.size = 5) :
    (results fn tmps).run Tryd.prog w = .ok (.tuple #[.agg cs, tmps.getD q undef]) w := by
  have hp' : tmps[p]?.getD undef = .pointer (some ⟨g, 0, none⟩) := by simpa using hp
  have hr := run_loadVar_row (P := Tryd.prog) w g t 34 cs fr _ hg Tryd.underlying34 rfl (by rw [hl]; kernel_rfl)
  simp [results, h, hp', asAddr, hr]
section
variable {w w' : World} {B0 d t1 b1 bm : Nat} {A : Option Addr} {c : Nat} {most : Int} {S : List (Option Sd)} {f N : Nat} {M : List Ent} {R : Int → List Int}
set_option maxRecDepth 100000 in
theorem seget (h : Sm w B0 d t1 b1 bm A c most S f N M R) (i : Int) : Calls Tryd.prog 15 #[.pointer (some ⟨d, 0, none⟩), .int .i64 i] w fun e w' =>
    e = .returned (.tuple #[seV ((takB S i).getD sd0), .bool (takB S i).isSome]) ∧ Below w.heap.size w w' := by
  have b1' := (Below.refl w.heap.size w).alloc (Nat.le_refl _) (.cells (clSe sd0).toArray 34)
  have HK := Lib.hid (h.below b1')
  have k1 := HK.out.c1
  cases htk : takB S i with
  | none =>
    have HQ := Lib.hid (show (takB S i).isSome = false by rw [htk]; rfl)
    have HB := Lib.hid b1'
    clear h b1' htk
    go_enter Tryd.func15, Tryd.ntmps15
    go_wp2_with (first
      | ((with_reducible show wpList _ _ _ (Oper.mk _ (Op.store 34 _ _) _ _ _ _ :: _) _ _); refine se_store_new (cs := (clSe sd0).toArray) rfl rfl rfl rfl (clSe_one _) ?_)
      | (go_at_call 24; refine (semade k1).mono ?_; rintro e w1 ⟨rfl, rfl⟩)
      | (go_at_call 29; refine (setaken HK.out i).mono ?_; rintro e w1 ⟨rfl, rfl⟩; rw [HQ.out]))
    exact bodyPost_ret (se_result2 rfl rfl (World.alloc_heap_new w _) rfl) rfl ⟨rfl, (Below.refl _ w).alloc (Nat.le_refl _) _⟩
  | some x =>
    have HQ := Lib.hid (show (takB S i).isSome = true by rw [htk]; rfl)
    obtain ⟨k, rfl, hk⟩ : ∃ k : Nat, i = (k : Int) ∧ S[k]? = some (some x) := by
      unfold takB at htk
      split at htk
      · cases htk
      · refine ⟨i.toNat, by omega, ?_⟩
        cases hg : S[i.toNat]? with
        | none => rw [hg] at htk; cases htk
        | some o => rw [hg] at htk; simp at htk; rw [htk]
    obtain ⟨g, q, rfl, hg, hr0⟩ := HK.out.rds (by have := (List.getElem?_eq_some_iff.1 hk).1; omega)
    have hr := hr0 k _ hk
    have hr2 : (w.alloc (.cells (clSe sd0).toArray 34)).rangeAt g (q + k * 6) (clSe x) := fun j v hj => hr j v (by show (clSe x ++ [.bool true])[j]? = some v; rw [List.getElem?_append_left (List.getElem?_eq_some_iff.1 hj).1]; exact hj)
    have k0 := HK.out.c0
    obtain ⟨n, hn⟩ : ∃ n, n = S.length := ⟨_, rfl⟩
    rw [← hn] at k0
    have hkn : k < n := by rw [hn]; exact (List.getElem?_eq_some_iff.1 hk).1
    clear h b1' htk hn hk hr hr0
    go_enter Tryd.func15, Tryd.ntmps15
    go_wp2_with (first
      | ((with_reducible show wpList _ _ _ (Oper.mk _ (Op.load 34 _) _ _ _ _ :: _) _ _); refine wpList_val rfl (run_load_se rfl rfl hr2) ?_)
      | ((with_reducible show wpList _ _ _ (Oper.mk _ (Op.store 34 _ _) _ _ _ _ :: _) _ _); refine se_store_new (cs := (clSe x).toArray) rfl rfl rfl rfl (clSe_one _) ?_)
      | (go_at_call 24; refine (semade k1).mono ?_; rintro e w1 ⟨rfl, rfl⟩)
      | (go_at_call 29; refine (setaken HK.out (k : Int)).mono ?_; rintro e w1 ⟨rfl, rfl⟩; rw [HQ.out]))
    exact bodyPost_ret (se_result2 rfl rfl (World.alloc_heap_new w _) rfl) rfl ⟨rfl, (Below.refl _ w).alloc (Nat.le_refl _) _⟩
end
set_option maxRecDepth 100000 in
theorem senew_bad (most : Int) (w : World) (h : ¬ (0 ≤ most ∧ most ≤ 4096)) : Calls Tryd.prog 7 #[.int .i64 most] w fun e w' => e = .returned (.tuple #[.pointer none, .int .i64 1]) ∧ w = w' := by
  by_cases h1 : most < 0
  · have d1 : decide (most < 0) = true := decide_eq_true h1
    clear h h1
    go_enter Tryd.func7, Tryd.ntmps7
    go_wp2_with fail
    exact bodyPost_ret (results_tmp2 rfl _ _ _) rfl ⟨rfl, rfl⟩
  · have d1 : decide (most < 0) = false := decide_eq_false h1
    have d2 : decide (most > 4096) = true := decide_eq_true (by omega)
    have d3 : decide (4096 < most) = true := d2
    clear h h1
    go_enter Tryd.func7, Tryd.ntmps7
    go_wp2_with fail
    exact bodyPost_ret (results_tmp2 rfl _ _ _) rfl ⟨rfl, rfl⟩
/-- Sessions that New made lie at block d, and all that they own at B0 or behind it. -/
def TsE (w : World) (B0 d t1 bm : Nat) (most : Int) (S : List (Option Sd)) (N : Nat) : Prop := ∃ b1 A c f, Ts w B0 d t1 b1 bm A c most S f N
set_option maxRecDepth 100000 in
theorem senew_ok (most : Int) (w : World) (h0 : 0 ≤ most) (h1 : most ≤ 4096) (B0 : Nat) (hB : B0 ≤ w.heap.size) : Calls Tryd.prog 7 #[.int .i64 most] w fun e w' =>
    ∃ d t1 bm, e = .returned (.tuple #[.pointer (some ⟨d, 0, none⟩), .int .i64 0]) ∧ TsE w' B0 d t1 bm most [] 0 ∧ Below w.heap.size w w' ∧ w.heap.size ≤ d ∧ d < w'.heap.size := by
  have d1 : decide (most < 0) = false := decide_eq_false (by omega)
  have d2 : decide (most > 4096) = false := decide_eq_false (by omega)
  have d3 : decide (4096 < most) = false := d2
  have hmm := @run_makeMap Tryd.prog
  go_enter Tryd.func7, Tryd.ntmps7
  go_upto_region 6 with (go_at_call 23; refine (hq_new most w h0 (by omega) B0 hB).mono ?_; rintro e w1 ⟨rfl, q1, x1⟩)
  have hz1 := x1.size
  have b2 := (Below.refl w1.heap.size w1).alloc (Nat.le_refl _) (.map #[] 0)
  have hmp : Mp (w1.alloc (.map #[] 0)) B0 w1.heap.size 0 (fun _ => []) := Mp.made w1 (Nat.le_trans hB hz1)
  have hzz : (w1.alloc (.map #[] 0)).heap.size = w1.heap.size + 1 := by simp
  have HMP := Lib.hid hmp
  have HZZ := Lib.hid hzz
  clear hmp hzz
  go_wp2_with fail
  have b3 := x1.trans (b2.mono x1.size)
  have bA := (Below.refl (w1.alloc (.map #[] 0)).heap.size (w1.alloc (.map #[] 0))).alloc (Nat.le_refl _) (.cells #[.slice none 0 0, .pointer (some ⟨w.heap.size + 1, 0, none⟩), .map (some w1.heap.size), .int .i64 most, .int .i64 0] 56)
  have bB := b2.trans (bA.mono b2.size)
  refine bodyPost_ret (results_tmp2 rfl _ _ _) rfl ⟨w1.heap.size + 1, w.heap.size + 1, w1.heap.size, rfl, ⟨w.heap.size, none, 0, 0, ?_⟩, x1.trans (bB.mono x1.size), by omega, by simp⟩
  refine ⟨⟨by rw [← HZZ.out]; exact World.alloc_heap_new _ _, World.ownsRow_nil _ _ _ _, q1.below bB, HMP.out.below bA, by omega⟩, ⟨Nat.zero_le _, fun j hj => absurd hj (Nat.not_lt_zero _), fun x hx => (by simp at hx)⟩, (fun e he => by cases he), List.Pairwise.nil, ⟨h0, h1⟩, by simpa using h0⟩
theorem idsD_pull {S : List (Option Sd)} {k j : Nat} {x : Sd} (hk : S[k]? = some (some x)) (hj : (idsD (docB 0 S) x.b)[j]? = some (k : Int)) (b : Int) : putR (idsD (docB 0 S)) x.b ((idsD (docB 0 S) x.b).eraseIdx j) b = idsD (docB 0 (S.set k none)) b := by
  obtain ⟨h1, _, h2⟩ := idsD_less (docB_pull hk).1 (docB_ids 0 S) (docB_ids 0 _)
  unfold putR
  by_cases e : b = x.b
  · rw [if_pos e, e]; exact (h1 j hj).symm
  · rw [if_neg e]; exact (h2 b e).symm
section
variable {w w' : World} {B0 d t1 b1 bm : Nat} {A : Option Addr} {c : Nat} {most : Int} {S : List (Option Sd)} {f N : Nat} {M : List Ent} {R : Int → List Int}
set_option maxRecDepth 100000 in
theorem seremove_no (h : Sm w B0 d t1 b1 bm A c most S f N M R) (i : Int) (hn : takB S i = none) : Calls Tryd.prog 13 #[.pointer (some ⟨d, 0, none⟩), .int .i64 i] w fun e w' => e = .returned (.bool false) ∧ w = w' := by
  have HK := Lib.hid h
  have k1 := h.c1
  have HQ := Lib.hid (show (takB S i).isSome = false by rw [hn]; rfl)
  clear h hn
  go_enter Tryd.func13, Tryd.ntmps13
  go_wp2_with (first
    | (go_at_call 24; refine (semade k1).mono ?_; rintro e w1 ⟨rfl, rfl⟩)
    | (go_at_call 29; refine (setaken HK.out i).mono ?_; rintro e w1 ⟨rfl, rfl⟩; rw [HQ.out]))
  go_ret
  exact ⟨rfl, rfl⟩
set_option maxRecDepth 100000 in
theorem slo_store_new {ops : Array Oper} {rest : List Oper} {x y : Operand} {ty : TypeId} {pos : String} {af : Array Edge} {a : Act} {w : World} {Q : Exit → Act → World → Prop}
    {t : TypeId} {cs old : Array Value} (hx : a.eval x = .pointer (some ⟨w.heap.size, 0, none⟩)) (hy : a.eval y = .agg cs) (ho : old.size = 6) (hl : cs.size = 6) (h1 : cs.all (·.oneCell') = true)
    (h : wpList Tryd.prog ops Q rest (a.put none undef) (w.alloc (.cells cs t))) : wpList Tryd.prog ops Q (⟨none, .store 65 x y, ty, pos, af, none⟩ :: rest) a (w.alloc (.cells old t)) :=
  wpList_plain rfl fun _ hK => wp_store_row 65 x y rfl w.heap.size cs hx hy t old (World.alloc_heap_new w _) (by rw [hl]; kernel_rfl) (by rw [ho, hl]) h1 (by rw [World.setRow_alloc_new]; exact hK _ _ h)
set_option maxRecDepth 100000 in
set_option maxHeartbeats 4000000 in
theorem seremove_yes (h : Ts w B0 d t1 b1 bm A c most S f N) (hTB : TB0 B0 w) {k : Nat} {x : Sd} (hk : S[k]? = some (some x)) (hN : N < maxLen) : Calls Tryd.prog 13 #[.pointer (some ⟨d, 0, none⟩), .int .i64 (k : Int)] w fun e w' =>
    e = .returned (.bool true) ∧ AddS w B0 d t1 bm most (S.set k none) (N + 1) w' := by
  have HK := Lib.hid h
  have k1 := h.m.c1
  have HQ : Hid ((takB S (k : Int)).isSome = true) := Lib.hid (tak_of hk)
  have hkl : k < S.length := (List.getElem?_eq_some_iff.1 hk).1
  have hm : (k, x) ∈ docB 0 S := docB_mem.2 ⟨Nat.zero_le _, by simpa using hk⟩
  have HF : Hid x.fits := Lib.hid (h.fit _ hm)
  have hpl := docB_pull hk
  have HPI : Hid ((inE (docB 0 S)).Perm (⟨txtN x.inn, (k : Int)⟩ :: inE (docB 0 (S.set k none)))) := Lib.hid (hpl.1.map (fun e : Nat × Sd => (⟨txtN e.2.inn, (e.1 : Int)⟩ : Ent)))
  have HPL := Lib.hid hpl
  have HHK := Lib.hid hk
  have HFR := Lib.hid (h.free.pull hk)
  have HLX : Hid ((txtN x.inn).length ≤ 1000000) := Lib.hid (by have h7 := txtN_len HF.out.inn; have e7 : x.inn.length ≤ 4 := (by simp [Sd.inn]); omega)
  have HZ : Hid (B0 ≤ w.heap.size) := Lib.hid h.m.bz
  have HWB : Hid (wfQ x.b) := Lib.hid (HF.out x.b (by simp))
  have HIL : Hid ((idsD (docB 0 S) x.b).length ≤ 100000) := Lib.hid (by have h1 := idsD_len (docB 0 S) x.b; have h2 := docB_len 0 S; have h3 := h.n; have h4 := h.mst; omega)
  have HIM : Hid ((k : Int) ∈ idsD (docB 0 S) x.b) := Lib.hid (idsD_in.2 ⟨(k, x), hm, rfl, rfl⟩)
  have HNM := Lib.hid hN
  have HTB := Lib.hid hTB
  have k0 := h.m.c0
  obtain ⟨n, hn⟩ : ∃ n, n = S.length := ⟨_, rfl⟩
  rw [← hn] at k0
  have hkn : k < n := by rw [hn]; exact hkl
  have HKL := Lib.hid hkl
  obtain ⟨gs, hgs, _, _, _, _, hdg, cur, hcur⟩ := h.m.slot hkl none
  subst hgs
  have hro : w.rangeAt gs (k * 6) (clSl (some x)) := by
    obtain ⟨g', q', e', _, hr⟩ := h.m.rds (by omega)
    injection e' with e1
    injection e1 with e2 e3 _
    subst e2; subst e3
    have := hr k _ hk
    rwa [Nat.zero_add] at this
  obtain ⟨V, hV⟩ : ∃ V, V = w.alloc (.cells (clSl (some x)).toArray 65) := ⟨_, rfl⟩
  have bV : Below w.heap.size w V := by rw [hV]; exact (Below.refl _ w).alloc (Nat.le_refl _) _
  have hbV : V.heap[w.heap.size]? = some (.cells (clSl (some x)).toArray 65 (0, 0)) := by rw [hV]; exact World.alloc_heap_new w _
  have HV := Lib.hid hV
  have HMV := Lib.hid (h.m.below bV)
  have HZV : Hid (B0 ≤ V.heap.size) := Lib.hid (Nat.le_trans HZ.out bV.size)
  have HTV := Lib.hid (hTB.step (bV.mono HZ.out))
  have HBV := Lib.hid bV
  have HBX := Lib.hid hbV
  have hdt := kt_apart HMV.out.inn HMV.out.obj (nat_ne (by kernel_rfl)) (nat_ne (by kernel_rfl))
  have hgt := kt_apart HMV.out.inn hbV (nat_ne (by kernel_rfl)) (nat_ne (by kernel_rfl))
  have HC1 : Hid (∀ U, KT t1 b1 V U → U.cell? ⟨d, 1, none⟩ = some (.pointer (some ⟨t1, 0, none⟩))) := Lib.hid (fun U hU => (World.cell?_of_block (hU.block d (heap_lt HMV.out.obj) hdt)).trans HMV.out.c1)
  have HBI : Hid (∀ U, KT t1 b1 V U → U.cell? ⟨w.heap.size, 0, none⟩ = some (.int .i64 x.b) ∧ U.rangeAt w.heap.size 3 (clR x)) := Lib.hid (fun U hU => by
    have h9 := (hU.block w.heap.size (heap_lt HBX.out) hgt).trans HBX.out
    exact ⟨cells_at (i := 0) h9 rfl, fun j v hj => cells_at h9 (by
      match j, hj with
      | 0, h => exact h
      | 1, h => exact h)⟩)
  clear h hTB hk hm hpl hn hkl hcur hdt hgt hV bV hbV hN
  go_enter Tryd.func13, Tryd.ntmps13
  go_upto_region 4 with (first
    | ((with_reducible show wpList _ _ _ (Oper.mk _ (Op.load 65 _) _ _ _ _ :: _) _ _); refine wpList_val rfl (run_load_slo rfl rfl hro) ?_)
    | ((with_reducible show wpList _ _ _ (Oper.mk _ (Op.store 65 _ _) _ _ _ _ :: _) _ _); refine slo_store_new (cs := (clSl (some x)).toArray) rfl rfl rfl rfl (clSl_one _) ?_; rw [← HV.out])
    | (go_at_call 24; refine (semade k1).mono ?_; rintro e w1 ⟨rfl, rfl⟩)
    | (go_at_call 29; refine (setaken HK.out.m (k : Int)).mono ?_; rintro e w1 ⟨rfl, rfl⟩; rw [HQ.out]))
  refine wp_region_held_drew (S := fun w' => KT t1 b1 V w') (by kernel_rfl) (KT.of_below (Below.refl V.heap.size V).drew) (fun hS => ?_)
  refine held_pure (i := 0) (oi := ⟨some 22, _, _, _, _, _⟩) rfl (by kernel_rfl) (by kernel_rfl) (by kernel_rfl) (fun _ _ _ h => h) (by rfl) (v := ?_) (fun w hSw => ?_) hS (fun hS => ?_)
  rotate_left
  · go_simp; try with_reducible rfl
  try go_frame
  refine held_pure (i := 1) (oi := ⟨some 23, _, _, _, _, _⟩) rfl (by kernel_rfl) (by kernel_rfl) (by kernel_rfl) (fun _ _ _ h => h) (by rfl) (v := ?_) (fun w hSw => ?_) hS (fun hS => ?_)
  rotate_left
  · go_simp; try with_reducible rfl
  try go_frame
  refine held_pure (i := 2) (oi := ⟨some 24, _, _, _, _, _⟩) rfl (by kernel_rfl) (by kernel_rfl) (by kernel_rfl) (fun _ _ _ h => h) (by rfl) (v := ?_) (fun w hSw => ?_) hS (fun hS => ?_)
  rotate_left
  · go_simp; try with_reducible rfl
  try go_frame
  refine held_pure (i := 3) (oi := ⟨some 25, _, _, _, _, _⟩) rfl (by kernel_rfl) (by kernel_rfl) (by kernel_rfl) (fun _ _ _ h => h) (by rfl) (fun w hSw => run_load_pse rfl rfl (HC1.out _ hSw)) hS (fun hS => ?_)
  try go_frame
  refine held_pure (i := 4) (oi := ⟨some 26, _, _, _, _, _⟩) rfl (by kernel_rfl) (by kernel_rfl) (by kernel_rfl) (fun _ _ _ h => h) (by rfl) (v := ?_) (fun w hSw => ?_) hS (fun hS => ?_)
  rotate_left
  · go_simp; try with_reducible rfl
  try go_frame
  refine held_pure (i := 5) (oi := ⟨some 27, _, _, _, _, _⟩) rfl (by kernel_rfl) (by kernel_rfl) (by kernel_rfl) (fun _ _ _ h => h) (by rfl) (v := ?_) (fun w hSw => ?_) hS (fun hS => ?_)
  rotate_left
  · go_simp; try with_reducible rfl
  try go_frame
  refine held_pure (i := 6) (oi := ⟨some 28, _, _, _, _, _⟩) rfl (by kernel_rfl) (by kernel_rfl) (by kernel_rfl) (fun _ _ _ h => h) (by rfl) (fun w hSw => run_load_int rfl rfl (HBI.out _ hSw).1) hS (fun hS => ?_)
  try go_frame
  refine held_pure (i := 7) (oi := ⟨some 29, _, _, _, _, _⟩) rfl (by kernel_rfl) (by kernel_rfl) (by kernel_rfl) (fun _ _ _ h => h) (by rfl) (v := ?_) (fun w hSw => ?_) hS (fun hS => ?_)
  rotate_left
  · go_simp; try with_reducible rfl
  try go_frame
  refine held_pure (i := 8) (oi := ⟨some 30, _, _, _, _, _⟩) rfl (by kernel_rfl) (by kernel_rfl) (by kernel_rfl) (fun _ _ _ h => h) (by rfl) (v := ?_) (fun w hSw => ?_) hS (fun hS => ?_)
  rotate_left
  · go_simp; try with_reducible rfl
  try go_frame
  refine held_pure (i := 9) (oi := ⟨some 31, _, _, _, _, _⟩) rfl (by kernel_rfl) (by kernel_rfl) (by kernel_rfl) (fun _ _ _ h => h) (by rfl) (fun w hSw => run_load_re rfl rfl (HBI.out _ hSw).2) hS (fun hS => ?_)
  try go_frame
  refine wpAnyH_ready (rs := [10]) (by kernel_rfl) (by simp) (AllReadyH.cons (o := ⟨some 32, _, _, _, _, _⟩) rfl (fun K hK => ?_) AllReadyH.nil)
  rw [if_pos (by rfl)]
  go_simp
  refine (setext x V.drew HF.out (HTV.out.here.step (Below.refl V.heap.size V).drew)).mono ?_
  rintro e w5 ⟨rfl, x5⟩
  have x6 : Below V.heap.size V w5 := (Below.refl V.heap.size V).drew.trans x5
  have z6 := Nat.le_trans HZV.out x6.size
  show K _ _
  refine hK.out _ _ (KT.of_below x6) (fun hS => ?_)
  clear hK K
  try go_frame
  refine wpAnyH_ready (rs := [11]) (by kernel_rfl) (by simp) (AllReadyH.cons (o := ⟨some 33, _, _, _, _, _⟩) rfl (fun K hK => ?_) AllReadyH.nil)
  rw [if_pos (by rfl)]
  go_simp
  refine (hq_del_yes (x := ⟨txtN x.inn, (k : Int)⟩) (HMV.out.inn.below x6) HPI.out HLX.out z6).mono ?_
  rintro e W1 ⟨rfl, q8, -, k8⟩
  have HQ8 := Lib.hid (show _ ∧ _ from (HMV.out.below x6).tin q8 k8 (.inl rfl))
  have hF8 := (FB.of_below x6 HZV.out).trans HQ8.out.2
  have hKT := (KT.of_below x6).trans k8
  clear q8
  show K _ _
  refine hK.out _ _ hKT (fun hS => ?_)
  clear hK K
  try go_frame
  refine wpAnyH_done (by kernel_rfl) ?_ _
  have HM1 := Lib.hid HQ8.out.1
  have HF1 := Lib.hid ((FB.of_below HBV.out HZ.out).trans hF8)
  have HZ1 : Hid (B0 ≤ W1.heap.size) := Lib.hid (Nat.le_trans HZV.out hF8.size)
  have kb1 := (HBI.out W1 hKT).1
  have HJN := Lib.hid (seleave HM1.out.mp HM1.out.c2 ⟨_, HM1.out.obj⟩ HWB.out k (idsD_srt (docB_ids 0 S) x.b) HIM.out HIL.out HNM.out)
  clear hF8 hKT hS hro k0
  go_upto_region 6 with (go_at_call 31; refine HJN.out.mono ?_; rintro e W2 ⟨rfl, kj, hat, hjo, QJ, hkj, hoj, hzj⟩; have HAT := Lib.hid hat; have HJ9 := Lib.hid (show _ ∧ _ from HM1.out.tmp hjo hkj hoj hzj); clear hat hjo hkj hoj hzj)
  clear kb1
  have HM2 := Lib.hid HJ9.out.1
  have HF2 := Lib.hid (HF1.out.trans HJ9.out.2)
  obtain ⟨gs', hgs', hth2, hdm2, hfb2, hk2, hdg2, cur2, hcur2⟩ := HM2.out.slot HKL.out none
  obtain rfl : gs = gs' := by injection hgs' with e1; injection e1
  have HTH2 := Lib.hid hth2
  have HM3 := Lib.hid hdm2
  have HF3 := Lib.hid (HF2.out.trans hfb2)
  have k0 := HM2.out.c0
  have kc4 := hdm2.c4
  have kf4 := hdm2.fr 4
  clear hgs' hth2 hdm2 hfb2 hk2 hcur2
  have hmin : ∀ M : Nat, M = min f k → ∀ U, Sm U B0 d t1 b1 bm (some ⟨gs, 0, none⟩) c most (S.set k none) M (N + 1) (inE (docB 0 (S.set k none))) (putR (idsD (docB 0 S)) x.b ((idsD (docB 0 S) x.b).eraseIdx kj)) → FB B0 w U → AddS w B0 d t1 bm most (S.set k none) (N + 1) U := fun M hM U hU fU => by
    subst hM
    refine ⟨b1, _, c, _, ⟨⟨hU.obj, hU.own, hU.inn, hU.mp.congr (fun z _ => idsD_pull HHK.out HAT.out z), hU.z⟩, HFR.out, ?_, ?_, HK.out.mst, by rw [List.length_set]; exact HK.out.n⟩, fU⟩
    · intro e he
      exact HK.out.fit e (HPL.out.1.mem_iff.2 (List.mem_cons_of_mem _ he))
    · exact (List.pairwise_cons.1 (HPL.out.1.pairwise HK.out.ni (fun h => h.symm))).2
  have HMIN := Lib.hid hmin
  obtain ⟨n2, hn2⟩ : ∃ n2, n2 = S.length := ⟨_, rfl⟩
  rw [← hn2] at k0
  have hkn2 : k < n2 := by rw [hn2]; exact HKL.out
  clear hmin hn2
  by_cases hfk : k < f
  · have HS1 := Lib.hid (HM3.out.seti (f' := k))
    have d1 : decide ((k : Int) < (f : Int)) = true := decide_eq_true (by omega)
    have d2 : decide (k < f) = true := decide_eq_true hfk
    have HMK := Lib.hid (show k = min f k by omega)
    have e9 : min (f : Int) (k : Int) = (k : Int) := by omega
    clear hfk
    go_wp2_with (first
      | ((with_reducible show wpList _ _ _ (Oper.mk _ (Op.store 65 _ _) _ _ _ _ :: _) _ _); refine wpList_plain rfl fun _ hK => store_slt_wp (cs := clSl none) rfl rfl rfl HTH2.out rfl (clSl_one _) (hK _ _ ?_)))
    go_ret
    exact ⟨rfl, HMIN.out k HMK.out _ HS1.out.1 (HF3.out.trans HS1.out.2)⟩
  · have HS1 := Lib.hid (HM3.out.seti (f' := f))
    have d1 : decide ((k : Int) < (f : Int)) = false := decide_eq_false (by omega)
    have d2 : decide (k < f) = false := decide_eq_false hfk
    have HMK := Lib.hid (show f = min f k by omega)
    have e9 : min (f : Int) (k : Int) = (f : Int) := by omega
    clear hfk
    go_wp2_with (first
      | ((with_reducible show wpList _ _ _ (Oper.mk _ (Op.store 65 _ _) _ _ _ _ :: _) _ _); refine wpList_plain rfl fun _ hK => store_slt_wp (cs := clSl none) rfl rfl rfl HTH2.out rfl (clSl_one _) (hK _ _ ?_)))
    go_ret
    exact ⟨rfl, HMIN.out f HMK.out _ HS1.out.1 (HF3.out.trans HS1.out.2)⟩
end
end Go.Proofs.YtghbliabmecbcaaDoor

/-
  Set of layer 24's code. Conditions are each theorem's own.
-/
namespace Go.Proofs.YtghbliabmecbcaaDoor
open Go.RowKit Go.Shelf Go.Maps
def Sd.set (x : Sd) (t u : Int) : Sd := ⟨x.b, t, u, x.a, x.p⟩
theorem Sd.set_inn (x : Sd) (t u : Int) : (x.set t u).inn = x.inn := rfl
/-- The list of numbers with one session changed. -/
def chgD (l : List (Nat × Sd)) (k : Nat) (y : Sd) : List (Nat × Sd) := l.map (fun e => if e.1 = k then (e.1, y) else e)
theorem docB_set : ∀ (i : Nat) (S : List (Option Sd)) (k : Nat) (x y : Sd), S[k]? = some (some x) → docB i (S.set k (some y)) = chgD (docB i S) (i + k) y
  | _, [], _, _, _, h => by simp at h
  | i, o :: S, 0, x, y, h => by
    obtain rfl : o = some x := by simpa using h
    rw [List.set_cons_zero, docB, docB, chgD, List.map_cons]
    simp only [Nat.add_zero, if_true]
    congr 1
    symm
    rw [List.map_congr_left (g := id) (fun e he => ?_), List.map_id]
    have := (docB_mem.1 he).1
    rw [if_neg (by omega)]; rfl
  | i, none :: S, k + 1, x, y, h => by
    rw [List.getElem?_cons_succ] at h
    rw [List.set_cons_succ, docB, docB, docB_set (i + 1) S k x y h, show i + 1 + k = i + (k + 1) by omega]
  | i, some z :: S, k + 1, x, y, h => by
    rw [List.getElem?_cons_succ] at h
    rw [List.set_cons_succ, docB, docB, docB_set (i + 1) S k x y h, show i + 1 + k = i + (k + 1) by omega, chgD, chgD, List.map_cons]
    simp only
    rw [if_neg (by omega)]
section
variable {S : List (Option Sd)} {k : Nat} {x y : Sd}
theorem doc_k (hk : S[k]? = some (some x)) {e : Nat × Sd} (he : e ∈ docB 0 S) (h : e.1 = k) : e.2 = x := by
  have h1 := (docB_mem.1 he).2
  rw [Nat.sub_zero, h, hk] at h1
  simpa using h1.symm
/-- What is told of sessions by their bindings and remote endpoints alone stays. -/
theorem chg_map {β : Type} (hk : S[k]? = some (some x)) (g : Nat × Sd → β) (hg : g (k, y) = g (k, x)) : (docB 0 (S.set k (some y))).map g = (docB 0 S).map g := by
  rw [docB_set 0 S k x y hk, Nat.zero_add, chgD, List.map_map]
  refine List.map_congr_left (fun e he => ?_)
  show g (if e.1 = k then (e.1, y) else e) = g e
  split
  · rename_i h
    have h2 := doc_k hk he h
    obtain ⟨e1, e2⟩ := e
    simp only at h h2
    rw [h2, h]; exact hg
  · rfl
theorem chg_inE (hk : S[k]? = some (some x)) (hi : y.inn = x.inn) : inE (docB 0 (S.set k (some y))) = inE (docB 0 S) := chg_map hk (fun e => (⟨txtN e.2.inn, (e.1 : Int)⟩ : Ent)) (by simp only [hi])
theorem chg_ids (hk : S[k]? = some (some x)) (hi : y.b = x.b) (b : Int) : idsD (docB 0 (S.set k (some y))) b = idsD (docB 0 S) b := by
  have h1 : ∀ l : List (Nat × Sd), idsD l b = ((l.map (fun e => (e.1, e.2.b))).filter (fun p => decide (p.2 = b))).map (fun p => (p.1 : Int)) := fun l => by
    unfold idsD
    rw [List.filter_map, List.map_map]; rfl
  rw [h1, h1, chg_map hk (fun e => (e.1, e.2.b)) (by simp only [hi])]
theorem chg_ni (hk : S[k]? = some (some x)) (hi : y.inn = x.inn) (h : (docB 0 S).Pairwise (fun a b => a.2.inn ≠ b.2.inn)) : (docB 0 (S.set k (some y))).Pairwise (fun a b => a.2.inn ≠ b.2.inn) := by
  have h1 : ∀ l : List (Nat × Sd), l.Pairwise (fun a b => a.2.inn ≠ b.2.inn) ↔ (l.map (fun e => e.2.inn)).Pairwise (fun a b => a ≠ b) := fun l => by rw [List.pairwise_map]
  rw [h1, chg_map hk (fun e => e.2.inn) (by simp only [hi]), ← h1]; exact h
theorem chg_free {f : Nat} (hk : S[k]? = some (some x)) (h : FreeB S f) : FreeB (S.set k (some y)) f := by
  refine ⟨by rw [List.length_set]; exact h.le, fun j hj => ?_, fun z hz => ?_⟩
  · obtain ⟨z, hz⟩ := h.all j hj
    by_cases e : k = j
    · exact ⟨y, by rw [List.getElem?_set, if_pos e, if_pos (by have := (List.getElem?_eq_some_iff.1 hk).1; omega)]⟩
    · exact ⟨z, by rw [List.getElem?_set, if_neg e]; exact hz⟩
  · rw [List.getElem?_set] at hz
    by_cases e : k = f
    · subst e; exact h.not x hk
    · rw [if_neg e] at hz; exact h.not z hz
theorem chg_fit (hk : S[k]? = some (some x)) (hy : y.fits) (h : ∀ e ∈ docB 0 S, e.2.fits) : ∀ e ∈ docB 0 (S.set k (some y)), e.2.fits := fun e he => by
  rw [docB_set 0 S k x y hk, Nat.zero_add, chgD] at he
  obtain ⟨e0, h0, rfl⟩ := List.mem_map.1 he
  show (if e0.1 = k then (e0.1, y) else e0).2.fits
  split
  · exact hy
  · exact h e0 h0
end
/-- Two cells of a slot set: the slot with another state and another time. -/
theorem splL_part {L : List Value} {o : Nat} {x : Sd} {t u : Int} (h : ∀ j v, (clSl (some x))[j]? = some v → L[o + j]? = some v) : splL L (o + 1) [.int .i64 t, .int .i64 u] = splL L o (clSl (some (x.set t u))) := by
  have hl : o + 6 ≤ L.length := by
    have := h 5 (.bool true) rfl
    have := (List.getElem?_eq_some_iff.1 this).1
    omega
  apply List.ext_getElem?
  intro j
  rw [splL_get _ _ _ _ (by simp; omega), splL_get _ _ _ _ (by rw [clSl_len]; omega), clSl_len]
  have e2 : ([Value.int .i64 t, .int .i64 u] : List Value).length = 2 := rfl
  rw [e2]
  by_cases h1 : o ≤ j ∧ j < o + 6
  · rw [if_pos h1]
    obtain ⟨i, rfl⟩ : ∃ i, j = o + i := ⟨j - o, by omega⟩
    have hi : i < 6 := by omega
    rw [show o + i - o = i by omega]
    have h6 : i = 0 ∨ i = 1 ∨ i = 2 ∨ i = 3 ∨ i = 4 ∨ i = 5 := by omega
    rcases h6 with rfl | rfl | rfl | rfl | rfl | rfl
    · rw [if_neg (by omega)]; exact h 0 _ rfl
    · rw [if_pos (by omega), show o + 1 - (o + 1) = 0 by omega]; rfl
    · rw [if_pos (by omega), show o + 2 - (o + 1) = 1 by omega]; rfl
    · rw [if_neg (by omega)]; exact h 3 _ rfl
    · rw [if_neg (by omega)]; exact h 4 _ rfl
    · rw [if_neg (by omega)]; exact h 5 _ rfl
  · rw [if_neg h1, if_neg (by omega)]
theorem own_setW {α : Type} {cl : α → List Value} {sz : Nat} {w W : World} {base e g n c : Nat} {S : List α} (hl : ∀ x, (cl x).length = sz) (hz : 0 < sz) (h : w.ownsRow base e sz (.slice (some ⟨g, 0, none⟩) n c) n (S.flatMap cl)) (hn : n = S.length) {i : Nat} (hi : i < S.length) (x : α)
    {cur : Array Value} (hc : w.heap[g]? = some (.cells cur e (0, 0))) (hW : W.heap[g]? = some (.cells (splL cur.toList (i * sz) (cl x)).toArray e (0, 0))) : W.ownsRow base e sz (.slice (some ⟨g, 0, none⟩) n c) n ((S.set i x).flatMap cl) := by
  rcases h.2 with ⟨h0, _⟩ | ⟨k, cap, cur', hv, hb, hh, hle, hm, hs, ht⟩
  · cases h0
  · cases hv
    rw [hc] at hh
    injection hh with hh
    injection hh with hh _ _
    subst hh
    have hlen := flat_len (cl := cl) (S.set i x) (fun y _ => hl y)
    rw [List.length_set] at hlen
    refine ⟨by rw [hlen, hn], .inr ⟨g, c, _, rfl, hb, hW, hle, hm, by rw [List.size_toArray, splL_len, Array.length_toList, hs], ?_⟩⟩
    show (splL cur.toList (i * sz) (cl x)).take (n * sz) = _
    rw [splL_take, ht, flat_set hl hz S i x hi]
section
variable {w w' : World} {B0 d t1 b1 bm : Nat} {A : Option Addr} {c : Nat} {most : Int} {S : List (Option Sd)} {f N : Nat} {M : List Ent} {R : Int → List Int}
set_option maxRecDepth 100000 in
theorem seset_no (h : Sm w B0 d t1 b1 bm A c most S f N M R) (i st un : Int) (hn : takB S i = none) : Calls Tryd.prog 11 #[.pointer (some ⟨d, 0, none⟩), .int .i64 i, .int .i64 st, .int .i64 un] w fun e w' => e = .returned (.bool false) ∧ w = w' := by
  have HK := Lib.hid h
  have k1 := h.c1
  have HQ := Lib.hid (show (takB S i).isSome = false by rw [hn]; rfl)
  clear h hn
  go_enter Tryd.func11, Tryd.ntmps11
  go_wp2_with (first
    | (go_at_call 24; refine (semade k1).mono ?_; rintro e w1 ⟨rfl, rfl⟩)
    | (go_at_call 29; refine (setaken HK.out i).mono ?_; rintro e w1 ⟨rfl, rfl⟩; rw [HQ.out]))
  go_ret
  exact ⟨rfl, rfl⟩
set_option maxRecDepth 100000 in
set_option maxHeartbeats 2000000 in
theorem seset_yes (h : Ts w B0 d t1 b1 bm A c most S f N) {k : Nat} {x : Sd} (hk : S[k]? = some (some x)) (st un : Int) (hst : wfQ st) (hun : wfQ un) : Calls Tryd.prog 11 #[.pointer (some ⟨d, 0, none⟩), .int .i64 (k : Int), .int .i64 st, .int .i64 un] w fun e w' =>
    e = .returned (.bool true) ∧ AddS w B0 d t1 bm most (S.set k (some (x.set st un))) N w' := by
  have HK := Lib.hid h
  have k1 := h.m.c1
  have HQ : Hid ((takB S (k : Int)).isSome = true) := Lib.hid (tak_of hk)
  have hkl : k < S.length := (List.getElem?_eq_some_iff.1 hk).1
  have hm : (k, x) ∈ docB 0 S := docB_mem.2 ⟨Nat.zero_le _, by simpa using hk⟩
  have HF : Hid x.fits := Lib.hid (h.fit _ hm)
  have HHK := Lib.hid hk
  have k0 := h.m.c0
  obtain ⟨n, hn⟩ : ∃ n, n = S.length := ⟨_, rfl⟩
  rw [← hn] at k0
  have hkn : k < n := by rw [hn]; exact hkl
  have HN := Lib.hid hn
  have HKL := Lib.hid hkl
  have HST := Lib.hid (And.intro hst hun)
  obtain ⟨gs, hgs, _, _, _, _, hdg, cur, hcur⟩ := h.m.slot hkl none
  subst hgs
  have hro : w.rangeAt gs (k * 6) (clSl (some x)) := by
    obtain ⟨g', q', e', _, hr⟩ := h.m.rds (by omega)
    injection e' with e1
    injection e1 with e2 e3 _
    subst e2; subst e3
    have := hr k _ hk
    rwa [Nat.zero_add] at this
  have HCU := Lib.hid hcur
  have HRC : Hid (∀ j v, (clSl (some x))[j]? = some v → cur.toList[k * 6 + j]? = some v) := Lib.hid (fun j v hj => by
    have h9 := hro j v hj
    rw [cell_of_row _ _ _ _ _ _ hcur] at h9
    simpa using h9)
  have HS0 : Hid (∀ U, Kept (fun k => k = gs) w U → U.cell? ⟨d, 0, none⟩ = some (.slice (some ⟨gs, 0, none⟩) n c)) := Lib.hid (fun U hU => (World.cell?_of_block (hU.block d (heap_lt HK.out.m.obj) hdg)).trans k0)
  have hW1 := heap_setCell_same w.drew gs (k * 6 + 1) cur _ (.int .i64 st) hcur
  have HC1 : Hid (w.drew.cell? ⟨gs, k * 6 + 1, none⟩ = some (.int .i64 x.t)) := Lib.hid (hro 1 _ rfl)
  have HC2 : Hid ((w.drew.setCell ⟨gs, k * 6 + 1, none⟩ (.int .i64 st)).cell? ⟨gs, k * 6 + 2, none⟩ = some (.int .i64 x.u)) := Lib.hid (by
    rw [cell_of_row _ _ _ _ _ _ hW1]
    have h9 := HRC.out 2 (.int .i64 x.u) rfl
    rw [Array.getElem?_setIfInBounds_ne (by omega)]
    simpa using h9)
  have HC3 : Hid ((w.drew.setCell ⟨gs, k * 6 + 1, none⟩ (.int .i64 st)).frozen? ⟨gs, k * 6 + 2, none⟩ = false) := Lib.hid (heap_frozen hW1 _)
  have HW2 : Hid (((w.drew.setCell ⟨gs, k * 6 + 1, none⟩ (.int .i64 st)).setCell ⟨gs, k * 6 + 2, none⟩ (.int .i64 un)).heap[gs]? = some (.cells (splL cur.toList (k * 6) (clSl (some (x.set st un)))).toArray 65 (0, 0))) := Lib.hid (by
    have h9 := heap_setCellsL gs [.int .i64 st, .int .i64 un] (k * 6 + 1) w.drew cur hcur
    rw [splL_part HRC.out] at h9
    exact h9)
  clear h hk hm hn hkl hst hun hcur hro hW1
  go_enter Tryd.func11, Tryd.ntmps11
  go_upto_region 3 with (first
    | (go_at_call 24; refine (semade k1).mono ?_; rintro e w1 ⟨rfl, rfl⟩)
    | (go_at_call 29; refine (setaken HK.out.m (k : Int)).mono ?_; rintro e w1 ⟨rfl, rfl⟩; rw [HQ.out]))
  clear k0
  refine wp_region_held_drew (S := fun w' => Kept (fun k => k = gs) w w') (by kernel_rfl) (Kept.drew w) (fun hS => ?_)
  refine held_pure (i := 0) (oi := ⟨some 18, _, _, _, _, _⟩) rfl (by kernel_rfl) (by kernel_rfl) (by kernel_rfl) (fun _ _ _ h => h) (by rfl) (v := ?_) (fun w hSw => ?_) hS (fun hS => ?_)
  rotate_left
  · go_simp; try with_reducible rfl
  try go_frame
  refine held_pure (i := 1) (oi := ⟨some 19, _, _, _, _, _⟩) rfl (by kernel_rfl) (by kernel_rfl) (by kernel_rfl) (fun _ _ _ h => h) (by rfl) (v := ?_) (fun w hSw => ?_) hS (fun hS => ?_)
  rotate_left
  · go_simp; try with_reducible rfl
  try go_frame
  refine held_pure (i := 2) (oi := ⟨some 20, _, _, _, _, _⟩) rfl (by kernel_rfl) (by kernel_rfl) (by kernel_rfl) (fun _ _ _ h => h) (by rfl) (v := ?_) (fun w hSw => ?_) hS (fun hS => ?_)
  rotate_left
  · go_simp; try with_reducible rfl
  try go_frame
  refine held_pure (i := 3) (oi := ⟨some 21, _, _, _, _, _⟩) rfl (by kernel_rfl) (by kernel_rfl) (by kernel_rfl) (fun _ _ _ h => h) (by rfl) (fun w hSw => run_load_sls rfl rfl (HS0.out _ hSw)) hS (fun hS => ?_)
  try go_frame
  refine held_pure (i := 4) (oi := ⟨some 22, _, _, _, _, _⟩) rfl (by kernel_rfl) (by kernel_rfl) (by kernel_rfl) (fun _ _ _ h => h) (by rfl) (v := ?_) (fun w hSw => ?_) hS (fun hS => ?_)
  rotate_left
  · go_simp; try with_reducible rfl
  try go_frame
  refine held_pure (i := 5) (oi := ⟨some 23, _, _, _, _, _⟩) rfl (by kernel_rfl) (by kernel_rfl) (by kernel_rfl) (fun _ _ _ h => h) (by rfl) (v := ?_) (fun w hSw => ?_) hS (fun hS => ?_)
  rotate_left
  · go_simp; try with_reducible rfl
  try go_frame
  refine held_pure (i := 6) (oi := ⟨some 24, _, _, _, _, _⟩) rfl (by kernel_rfl) (by kernel_rfl) (by kernel_rfl) (fun _ _ _ h => h) (by rfl) (v := ?_) (fun w hSw => ?_) hS (fun hS => ?_)
  rotate_left
  · go_simp; try with_reducible rfl
  try go_frame
  refine held_pure (i := 7) (oi := ⟨some 25, _, _, _, _, _⟩) rfl (by kernel_rfl) (by kernel_rfl) (by kernel_rfl) (fun _ _ _ h => h) (by rfl) (v := ?_) (fun w hSw => ?_) hS (fun hS => ?_)
  rotate_left
  · go_simp; try with_reducible rfl
  try go_frame
  refine held_pure (i := 8) (oi := ⟨some 26, _, _, _, _, _⟩) rfl (by kernel_rfl) (by kernel_rfl) (by kernel_rfl) (fun _ _ _ h => h) (by rfl) (fun w hSw => run_load_sls rfl rfl (HS0.out _ hSw)) hS (fun hS => ?_)
  try go_frame
  refine held_pure (i := 9) (oi := ⟨some 27, _, _, _, _, _⟩) rfl (by kernel_rfl) (by kernel_rfl) (by kernel_rfl) (fun _ _ _ h => h) (by rfl) (v := ?_) (fun w hSw => ?_) hS (fun hS => ?_)
  rotate_left
  · go_simp; try with_reducible rfl
  try go_frame
  refine held_pure (i := 10) (oi := ⟨some 28, _, _, _, _, _⟩) rfl (by kernel_rfl) (by kernel_rfl) (by kernel_rfl) (fun _ _ _ h => h) (by rfl) (v := ?_) (fun w hSw => ?_) hS (fun hS => ?_)
  rotate_left
  · go_simp; try with_reducible rfl
  try go_frame
  refine held_pure (i := 11) (oi := ⟨some 29, _, _, _, _, _⟩) rfl (by kernel_rfl) (by kernel_rfl) (by kernel_rfl) (fun _ _ _ h => h) (by rfl) (v := ?_) (fun w hSw => ?_) hS (fun hS => ?_)
  rotate_left
  · go_simp; try with_reducible rfl
  try go_frame
  refine held_pure (i := 12) (oi := ⟨some 30, _, _, _, _, _⟩) rfl (by kernel_rfl) (by kernel_rfl) (by kernel_rfl) (fun _ _ _ h => h) (by rfl) (v := .pointer (some ⟨gs, k * 6, none⟩)) (fun w hSw => by go_simp; try (rw [if_pos ⟨by omega, by omega⟩]; simp)) hS (fun hS => ?_)
  try go_frame
  refine held_pure (i := 13) (oi := ⟨some 31, _, _, _, _, _⟩) rfl (by kernel_rfl) (by kernel_rfl) (by kernel_rfl) (fun _ _ _ h => h) (by rfl) (v := ?_) (fun w hSw => ?_) hS (fun hS => ?_)
  rotate_left
  · go_simp; try with_reducible rfl
  try go_frame
  refine held_pure (i := 14) (oi := ⟨some 32, _, _, _, _, _⟩) rfl (by kernel_rfl) (by kernel_rfl) (by kernel_rfl) (fun _ _ _ h => h) (by rfl) (v := ?_) (fun w hSw => ?_) hS (fun hS => ?_)
  rotate_left
  · go_simp; try with_reducible rfl
  try go_frame
  refine wpAnyH_ready (rs := [15]) (by kernel_rfl) (by simp) (AllReadyH.cons (o := ⟨none, _, _, _, _, _⟩) rfl (fun K hK => ?_) AllReadyH.nil)
  rw [if_pos (by rfl)]
  refine store_int_wp rfl rfl rfl HC1.out (heap_frozen (W := w.drew) HCU.out _) ?_
  refine hK.out _ _ ((Kept.drew w).trans (Kept.setCell w.drew gs (k * 6 + 1) _) (fun _ _ e => e)) (fun hS => ?_)
  clear hK K
  try go_frame
  refine held_pure (i := 16) (oi := ⟨some 33, _, _, _, _, _⟩) rfl (by kernel_rfl) (by kernel_rfl) (by kernel_rfl) (fun _ _ _ h => h) (by rfl) (v := .pointer (some ⟨gs, k * 6, none⟩)) (fun w hSw => by go_simp; try (rw [if_pos ⟨by omega, by omega⟩]; simp)) hS (fun hS => ?_)
  try go_frame
  refine held_pure (i := 17) (oi := ⟨some 34, _, _, _, _, _⟩) rfl (by kernel_rfl) (by kernel_rfl) (by kernel_rfl) (fun _ _ _ h => h) (by rfl) (v := ?_) (fun w hSw => ?_) hS (fun hS => ?_)
  rotate_left
  · go_simp; try with_reducible rfl
  try go_frame
  refine held_pure (i := 18) (oi := ⟨some 35, _, _, _, _, _⟩) rfl (by kernel_rfl) (by kernel_rfl) (by kernel_rfl) (fun _ _ _ h => h) (by rfl) (v := ?_) (fun w hSw => ?_) hS (fun hS => ?_)
  rotate_left
  · go_simp; try with_reducible rfl
  try go_frame
  refine wpAnyH_ready (rs := [19]) (by kernel_rfl) (by simp) (AllReadyH.cons (o := ⟨none, _, _, _, _, _⟩) rfl (fun K hK => ?_) AllReadyH.nil)
  rw [if_pos (by rfl)]
  refine store_int_wp rfl rfl rfl HC2.out HC3.out ?_
  refine hK.out _ _ (hS.trans (Kept.setCell _ gs (k * 6 + 2) _) (fun _ _ e => e)) (fun hS => ?_)
  clear hK K
  try go_frame
  refine wpAnyH_done (by kernel_rfl) ?_ _
  go_wp2_with fail
  go_ret
  refine ⟨rfl, b1, some ⟨gs, 0, none⟩, c, f, ?_, FB.of_one hS HK.out.m.bz ?_ HCU.out (.inr (.inl rfl))⟩
  · have ho := Only.one HCU.out
    have hy : (x.set st un).fits := fun n hn => by
      have := HF.out
      simp only [Sd.set, List.mem_cons, List.not_mem_nil, or_false] at hn
      rcases hn with rfl | rfl | rfl | rfl | rfl
      · exact this _ (by simp)
      · exact HST.out.1
      · exact HST.out.2
      · exact this _ (by simp)
      · exact this _ (by simp)
    obtain ⟨⟨c1, i1⟩, c2, i2⟩ := HK.out.m.inn.tab
    refine ⟨⟨?_, ?_, ?_, ?_, HK.out.m.z⟩, chg_free HHK.out HK.out.free, chg_fit HHK.out hy HK.out.fit, chg_ni (y := x.set st un) HHK.out rfl HK.out.ni, HK.out.mst, by rw [List.length_set]; exact HK.out.n⟩
    · rw [List.length_set]
      exact (hS.block d (heap_lt HK.out.m.obj) hdg).trans HK.out.m.obj
    · rw [List.length_set]
      exact own_setW clSl_len (by decide) HK.out.m.own rfl HKL.out _ HCU.out HW2.out
    · rw [chg_inE (y := x.set st un) HHK.out rfl]
      exact HK.out.m.inn.kept hS (ho.cells i1 (nat_ne (by kernel_rfl))) (ho.cells i2 (nat_ne (by kernel_rfl)))
    · exact (HK.out.m.mp.only hS ho (nat_ne (by kernel_rfl))).congr (fun z _ => (chg_ids (y := x.set st un) HHK.out rfl z).symm)
  · rcases HK.out.m.own.2 with ⟨hv, _⟩ | ⟨g, cap, cur', hv, hb, _⟩
    · cases hv
    · injection hv with e1
      injection e1 with e1
      injection e1 with e1
      rw [e1]; exact hb
end
end Go.Proofs.YtghbliabmecbcaaDoor
