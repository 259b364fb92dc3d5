/-
  Contracts and lemmas on which the proofs of this seat stand (several texts in one). Conditions are each theorem's own.
-/
import Derived.Test.YtafidbjaeopciaaDoorBb9

/-
  Add of layer 22's code. Conditions are each theorem's own.
-/
namespace Go.Proofs.YtafidbjaeopciaaDoor
open Go.RowKit Go.Shelf
theorem info_slt : (Tryd.prog.info? 68).map (fun i => (i.zero, i.size, i.bytes)) = some (some (.agg (clSl none).toArray), 9, 72) := by kernel_rfl
set_option maxRecDepth 100000 in
theorem run_storeSl {o : Oper} {a : Act} {w : World} {x y : Operand} {b i : Nat} {cs : List Value} (ho : o.op = .store 68 x y) (hx : a.eval x = .pointer (some ⟨b, i, none⟩)) (hy : a.eval y = .agg cs.toArray) (ht : w.there b i 9) (hl : cs.length = 9) (h1 : cs.toArray.all (·.oneCell') = true) :
    (execOp a.eval o).run Tryd.prog w = .ok .skip (w.setCells b i cs) := by
  have hst := run_storeVar_mid (P := Tryd.prog) w b i 68 cs.toArray (by rw [List.size_toArray, hl]; exact ht) (by rw [List.size_toArray, hl]; kernel_rfl) h1
  unfold execOp
  simp only [ho, hx, hy, Instr.storeAt, Instr.sureAddr, Sem.run_bind, Sem.run_pure, Result.andThen_ok, hst]
theorem store_slt_wp {o : Oper} {a : Act} {w : World} {K : Act → World → Prop} {Q : Exit → Act → World → Prop} {x y : Operand} {b i : Nat} {cs : List Value} (ho : o.op = .store 68 x y) (hx : a.eval x = .pointer (some ⟨b, i, none⟩)) (hy : a.eval y = .agg cs.toArray) (ht : w.there b i 9) (hl : cs.length = 9) (h1 : cs.toArray.all (·.oneCell') = true) (h : K (a.put o.dst undef) (w.setCells b i cs)) : o.wp Tryd.prog a w K Q := by
  unfold Oper.wp; rw [run_storeSl ho hx hy ht hl h1]; exact h
set_option maxRecDepth 100000 in
theorem run_bsSl {o : Oper} {a : Act} {w : World} {x : Operand} {cs : Array Value} (ho : o.op = .buildSlice 56 1 #[(0, x)]) (hx : a.eval x = .agg cs) (hl : cs.size = 9) :
    (execOp a.eval o).run Tryd.prog w = .ok (.value (.slice (some ⟨w.heap.size, 0, none⟩) 1 1)) (w.alloc (.cells cs 68)) := by
  obtain ⟨i0, hi, hz0, hz1, hz2⟩ := info_parts info_slt
  have h := run_lit1 (P := Tryd.prog) w 56 68 i0 _ cs 9 Tryd.underlying56 hi hz0 hz1 hl (by decide) (by decide)
  unfold execOp
  simp only [ho, List.map_toArray, List.map_cons, List.map_nil, hx, Sem.run_bind, h, Result.andThen_ok]
  rfl
theorem list_growB {P : Program} {ops : Array Oper} {rest : List Oper} {o : Oper} {a : Act} {w w' : World} {Q : Exit → Act → World → Prop} {v : Value} (hg : o.guard = none) (hrun : (execOp a.eval o).run P w = .ok (.value v) w')
    (h : wpList P ops Q rest (a.put o.dst v) w') : wpList P ops Q (o :: rest) a w :=
  wpList_plain hg fun _ hK => by unfold Oper.wp; rw [hrun]; exact hK _ _ h
theorem append_slt {w : World} {ops : Array Oper} {rest : List Oper} {o : Oper} {a : Act} {Q : Exit → Act → World → Prop} (hgd : o.guard = none) (s x : Operand)
    (ho : o.op = .call { callee := .builtin .append, args := #[s, x], argTypes := #[56, 56] })
    (base : Nat) (v : Value) (n : Nat) (S : List (Option Bd)) (hs : a.eval s = v) (hown : w.ownsRow base 68 9 v n (S.flatMap clSl)) (hn : n = S.length)
    (g : Nat) (y : Option Bd) (hx : a.eval x = .slice (some ⟨g, 0, none⟩) 1 1) (hy : w.rangeAt g 0 (clSl y))
    (hlen : n ≤ 1000000) (hbase : base ≤ w.heap.size)
    (h : ∀ v' w', w'.ownsRow base 68 9 v' (n + 1) ((S ++ [y]).flatMap clSl) → w.grownBy w' v.ownBlock → wpList Tryd.prog ops Q rest (a.put o.dst v') w') : wpList Tryd.prog ops Q (o :: rest) a w := by
  subst hn
  obtain ⟨i0, hi, hz0, hz1, hz2⟩ := info_parts info_slt
  refine wpList_append_own w hgd s x 56 ho base 68 i0 _ 9 72 Tryd.underlying56 hi hz0 hz1 hz2 rfl (by decide) v S.length (S.flatMap clSl) hs hown ⟨g, 0, none⟩ 1 1 (clSl y) hx
      (clSl_len y) (fun j u hu => ?_) (clSl_own y) (by unfold maxLen; omega) (by omega) hbase (fun v' w' h1 h2 _ => h v' w' ?_ h2)
  · rw [add_off, Nat.zero_add]; have := hy j u hu; rwa [Nat.zero_add] at this
  · rw [List.flatMap_append]
    simpa using h1
theorem own_at {w : World} {base e sz n : Nat} {v : Value} {xs : List Value} (h : w.ownsRow base e sz v n xs) (hn : 0 < n) : ∃ g c, v = .slice (some ⟨g, 0, none⟩) n c := by
  rcases h.2 with ⟨_, h0⟩ | ⟨g, cap, cur, hv, _⟩
  · omega
  · exact ⟨g, cap, hv⟩
theorem Dm.appended {w w' : World} {B0 d t1 b1 t2 b2 : Nat} {A : Option Addr} {c : Nat} {most : Int} {S : List (Option Bd)} {f : Nat} {M1 M2 : List Ent} (h : Dm w B0 d t1 b1 t2 b2 A c most S f M1 M2) {A' : Option Addr} {n' c' : Nat} {S' : List (Option Bd)}
    (ho : w'.ownsRow B0 68 9 (.slice A' n' c') n' (S'.flatMap clSl)) (hn : n' = S'.length) (hg : w.grownBy w' (Value.slice A S.length c).ownBlock) :
    (w'.cell? ⟨d, 0, none⟩ = some (.slice A S.length c) ∧ w'.frozen? ⟨d, 0, none⟩ = false) ∧ Dm (w'.setCell ⟨d, 0, none⟩ (.slice A' n' c')) B0 d t1 b1 t2 b2 A' c' most S' f M1 M2 ∧ FB B0 w (w'.setCell ⟨d, 0, none⟩ (.slice A' n' c')) := by
  subst hn
  have k := Kept.of_grown hg
  have hS : ∀ i, some i = (Value.slice A S.length c).ownBlock → B0 ≤ i ∧ ∃ cs ty, w.heap[i]? = some (.cells cs ty (0, 0)) ∧ ty = 68 := fun i hi => by
    rcases h.own.2 with ⟨hv, _⟩ | ⟨g, cap, cur, hv, hb, hh, _⟩
    · rw [hv] at hi; cases hi
    · rw [hv] at hi
      obtain rfl : i = g := by injection hi
      exact ⟨hb, cur, _, hh, rfl⟩
  have hne : ∀ {i cs ty}, w.heap[i]? = some (.cells cs ty (0, 0)) → ty ≠ 68 → ¬ some i = (Value.slice A S.length c).ownBlock := fun {i cs ty} hi hty e => by
    obtain ⟨_, cs', ty', h1, h2⟩ := hS i e
    exact heap_ty hi h1 (h2 ▸ hty) rfl
  obtain ⟨⟨c1, i1⟩, c2, i2⟩ := h.inn.tab
  obtain ⟨⟨c3, i3⟩, c4, i4⟩ := h.out.tab
  have n1 := hne h.obj (nat_ne (by kernel_rfl))
  have hd : w'.heap[d]? = _ := (k.block d (heap_lt h.obj) n1).trans h.obj
  have q1 := h.inn.kept k (hne i1 (nat_ne (by kernel_rfl))) (hne i2 (nat_ne (by kernel_rfl)))
  have q2 := h.out.kept k (hne i3 (nat_ne (by kernel_rfl))) (hne i4 (nat_ne (by kernel_rfl)))
  have hB := Nat.le_trans h.z (Nat.le_of_lt (heap_lt h.obj))
  have f1 : FB B0 w w' := FB.of_kept k hB (fun i hi => by obtain ⟨a1, cs', ty', a2, a3⟩ := hS i hi; exact ⟨a1, cs', ty', a2, .inr (.inl a3)⟩)
  have k2 := Kept.setCell w' d 0 (.slice A' S'.length c')
  obtain ⟨⟨c1', i1'⟩, c2', i2'⟩ := q1.tab
  obtain ⟨⟨c3', i3'⟩, c4', i4'⟩ := q2.tab
  refine ⟨⟨cells_at hd rfl, heap_frozen hd 0⟩, ⟨heap_setCell_same w' d 0 _ _ _ hd, own_kept1 ho k2 hd (nat_ne (by kernel_rfl)), q1.kept k2 (heap_ty i1' hd (nat_ne (by kernel_rfl))) (heap_ty i2' hd (nat_ne (by kernel_rfl))), q2.kept k2 (heap_ty i3' hd (nat_ne (by kernel_rfl))) (heap_ty i4' hd (nat_ne (by kernel_rfl))), h.z, h.ap⟩,
    f1.trans (FB.of_one k2 (Nat.le_trans hB f1.size) h.z hd (.inl rfl))⟩
theorem Db.of {w : World} {B0 d t1 b1 t2 b2 : Nat} {A : Option Addr} {c : Nat} {most : Int} {S : List (Option Bd)} {f : Nat} {M1 M2 : List Ent} (h : Dm w B0 d t1 b1 t2 b2 A c most S f M1 M2) (p1 : M1.Perm (inE (docB 0 S))) (p2 : M2.Perm (ouE (docB 0 S)))
    (hf : FreeB S f) (h1 : ∀ e ∈ docB 0 S, e.2.fits) (h2 : (docB 0 S).Pairwise (fun a b => a.2.inn ≠ b.2.inn)) (h3 : (docB 0 S).Pairwise (fun a b => a.2.out ≠ b.2.out)) (h4 : 0 ≤ most ∧ most ≤ 4096) (h5 : (S.length : Int) ≤ most) : Db w B0 d t1 b1 t2 b2 A c most S f :=
  ⟨h.obj, h.own, h.inn.perm p1, h.out.perm p2, hf, h1, h2, h3, h4, h5, h.z, h.ap⟩
theorem kt_apart {w : World} {B0 t b g : Nat} {most : Int} {M : List Ent} {cs : Array Value} {ty : TypeId} {fr : Nat × Nat} (h : HQ w B0 t b most M) (hg : w.heap[g]? = some (.cells cs ty fr)) (n1 : ty ≠ 80) (n2 : ty ≠ 85) : ¬ (g = t ∨ g = b) := by
  obtain ⟨⟨c1, i1⟩, c2, i2⟩ := h.tab
  rintro (e | e)
  · exact heap_ty hg i1 n1 e
  · exact heap_ty hg i2 n2 e
theorem box_inn {w : World} {p : Nat} {x : Bd} (h : w.heap[p]? = some (.cells (clBd x).toArray 36 (0, 0))) : w.rangeAt p 0 (clI x.inn) := fun j v hj => range_heap h j v (by
  match j, hj with
  | 0, h => exact h
  | 1, h => exact h
  | 2, h => exact h
  | 3, h => exact h)
theorem box_out {w : World} {p : Nat} {x : Bd} (h : w.heap[p]? = some (.cells (clBd x).toArray 36 (0, 0))) : w.rangeAt p 4 (clI x.out) := fun j v hj => cells_at h (by
  match j, hj with
  | 0, h => exact h
  | 1, h => exact h
  | 2, h => exact h)
theorem tak_some {S : List (Option Bd)} {k : Nat} (h : (takB S (k : Int)).isSome = true) : ∃ y, S[k]? = some (some y) := by
  unfold takB at h
  rw [if_neg (by omega), Int.toNat_natCast] at h
  cases hg : S[k]? with
  | none => rw [hg] at h; cases h
  | some o =>
    cases o with
    | none => rw [hg] at h; cases h
    | some y => exact ⟨y, rfl⟩
theorem tak_of {S : List (Option Bd)} {k : Nat} {y : Bd} (h : S[k]? = some (some y)) : (takB S (k : Int)).isSome = true := by
  unfold takB
  rw [if_neg (by omega), Int.toNat_natCast, h]; rfl
theorem put_pure {S : List (Option Bd)} {f : Nat} {most : Int} {x : Bd} (p : (0 ≤ most ∧ most ≤ 4096) ∧ ((docB 0 S).length : Int) < most ∧ (S.length : Int) ≤ most ∧ FreeB S f ∧ (∀ e ∈ docB 0 S, e.2.fits) ∧ (docB 0 S).Pairwise (fun a b => a.2.inn ≠ b.2.inn) ∧ (docB 0 S).Pairwise (fun a b => a.2.out ≠ b.2.out))
    (hx : x.fits) (hh : ((fndI (docB 0 S) x).isSome || (fndO (docB 0 S) x).isSome) = false) :
    (∀ e ∈ docB 0 S, e.2.inn ≠ x.inn) ∧ (∀ e ∈ docB 0 S, e.2.out ≠ x.out) ∧ (∀ e ∈ docB 0 (putS S f x), e.2.fits) ∧ (docB 0 (putS S f x)).Pairwise (fun a b => a.2.inn ≠ b.2.inn) ∧ (docB 0 (putS S f x)).Pairwise (fun a b => a.2.out ≠ b.2.out) ∧ ((putS S f x).length : Int) ≤ most := by
  obtain ⟨p1, p2, p3, p4, p5, p6, p7⟩ := p
  have h1 : fndI (docB 0 S) x = none := by cases h : fndI (docB 0 S) x with
    | none => rfl
    | some y => rw [h] at hh; simp at hh
  have h2 : fndO (docB 0 S) x = none := by cases h : fndO (docB 0 S) x with
    | none => rfl
    | some y => rw [h] at hh; simp at hh
  have n1 := fndI_none h1
  have n2 := fndO_none h2
  have hp := p4.pput x
  refine ⟨n1, n2, fun e he => ?_, hp.symm.pairwise (List.pairwise_cons.2 ⟨fun e he h => n1 e he h.symm, p6⟩) (fun h => h.symm), hp.symm.pairwise (List.pairwise_cons.2 ⟨fun e he h => n2 e he h.symm, p7⟩) (fun h => h.symm), ?_⟩
  · rcases List.mem_cons.1 (hp.mem_iff.1 he) with rfl | h
    · exact hx
    · exact p5 e h
  · rw [putS_len]
    split
    · rename_i e
      have := p4.len e
      omega
    · exact p3
/-- What Add leaves. -/
def AddB (w : World) (B0 d t1 t2 : Nat) (most : Int) (S : List (Option Bd)) (w' : World) : Prop :=
  ∃ b1 b2 A c f, Db w' B0 d t1 b1 t2 b2 A c most S f ∧ FB B0 w w'
section
variable {w w' : World} {B0 d t1 b1 t2 b2 : Nat} {A : Option Addr} {c : Nat} {most : Int} {S : List (Option Bd)} {f : Nat}
set_option maxRecDepth 100000 in
theorem badd_twice (h : Db w B0 d t1 b1 t2 b2 A c most S f) (hT : Tabs w) (x : Bd) (hx : x.fits) (hh : ((fndI (docB 0 S) x).isSome || (fndO (docB 0 S) x).isSome) = true) : Calls Tryd.prog 9 #[.pointer (some ⟨d, 0, none⟩), bdV x] w fun e w' => e = .returned (.tuple #[.int .i64 0, .int .i64 9]) ∧ Below w.heap.size w w' := by
  obtain ⟨V, hV⟩ : ∃ V, V = w.alloc (.cells (clBd x).toArray 36) := ⟨_, rfl⟩
  have bV : Below w.heap.size w V := by rw [hV]; exact (Below.refl _ w).alloc (Nat.le_refl _) _
  have hbV : V.heap[w.heap.size]? = some (.cells (clBd x).toArray 36 (0, 0)) := by rw [hV]; exact World.alloc_heap_new w _
  have HBX := Lib.hid hbV
  have hr0 : V.rangeAt w.heap.size 0 (clBd x) := range_heap hbV
  have HK := Lib.hid (h.below bV)
  have HTV := Lib.hid (hT.step bV)
  have HF := Lib.hid hx
  have HV := Lib.hid (show w.alloc (.cells #[.int .i64 x.s, .int .i64 x.p, .int .i64 x.a, .int .i64 x.o, .int .i64 x.q, .int .i64 x.b, .int .i64 x.r, .bool x.st] 36) = V from hV.symm)
  obtain ⟨H, hH⟩ : ∃ H, H = ((fndI (docB 0 S) x).isSome || (fndO (docB 0 S) x).isSome) := ⟨_, rfl⟩
  have HH := Lib.hid hH
  rw [← hH] at hh
  subst hh
  clear h hT hx hV hbV hH
  unfold bdV clBd
  go_enter Tryd.func9, Tryd.ntmps9
  go_upto_region 1 with fail
  rw [HV.out]
  go_wp2_with (first
    | ((with_reducible show wpList _ _ _ (Oper.mk _ (Op.load 36 _) _ _ _ _ :: _) _ _); refine wpList_val rfl (run_load_bd rfl rfl hr0) ?_)
    | (go_at_call 23; refine (bmade HK.out).mono ?_; rintro e w2 ⟨rfl, rfl⟩)
    | (go_at_call 24; refine (bhas HK.out HTV.out x HF.out).mono ?_; rintro e w3 ⟨rfl, x3⟩; rw [← HH.out]))
  exact bodyPost_ret (results_tmp2 rfl _ _ _) rfl ⟨rfl, bV.trans (x3.mono bV.size)⟩
set_option maxRecDepth 100000 in
theorem badd_full (h : Db w B0 d t1 b1 t2 b2 A c most S f) (hT : Tabs w) (x : Bd) (hx : x.fits) (hh : ((fndI (docB 0 S) x).isSome || (fndO (docB 0 S) x).isSome) = false) (hfu : ((docB 0 S).length : Int) ≥ most) : Calls Tryd.prog 9 #[.pointer (some ⟨d, 0, none⟩), bdV x] w fun e w' => e = .returned (.tuple #[.int .i64 0, .int .i64 7]) ∧ Below w.heap.size w w' := by
  obtain ⟨V, hV⟩ : ∃ V, V = w.alloc (.cells (clBd x).toArray 36) := ⟨_, rfl⟩
  have bV : Below w.heap.size w V := by rw [hV]; exact (Below.refl _ w).alloc (Nat.le_refl _) _
  have hbV : V.heap[w.heap.size]? = some (.cells (clBd x).toArray 36 (0, 0)) := by rw [hV]; exact World.alloc_heap_new w _
  have HBX := Lib.hid hbV
  have hr0 : V.rangeAt w.heap.size 0 (clBd x) := range_heap hbV
  have HK := Lib.hid (h.below bV)
  have HTV := Lib.hid (hT.step bV)
  have HF := Lib.hid hx
  have HV := Lib.hid (show w.alloc (.cells #[.int .i64 x.s, .int .i64 x.p, .int .i64 x.a, .int .i64 x.o, .int .i64 x.q, .int .i64 x.b, .int .i64 x.r, .bool x.st] 36) = V from hV.symm)
  obtain ⟨H, hH⟩ : ∃ H, H = ((fndI (docB 0 S) x).isSome || (fndO (docB 0 S) x).isSome) := ⟨_, rfl⟩
  have HH := Lib.hid hH
  rw [← hH] at hh
  subst hh
  have HFU := Lib.hid hfu
  clear h hT hx hV hbV hH hfu
  unfold bdV clBd
  go_enter Tryd.func9, Tryd.ntmps9
  go_upto_region 1 with fail
  rw [HV.out]
  go_upto_region 5 with (first
    | ((with_reducible show wpList _ _ _ (Oper.mk _ (Op.load 36 _) _ _ _ _ :: _) _ _); refine wpList_val rfl (run_load_bd rfl rfl hr0) ?_)
    | (go_at_call 23; refine (bmade HK.out).mono ?_; rintro e w2 ⟨rfl, rfl⟩)
    | (go_at_call 24; refine (bhas HK.out HTV.out x HF.out).mono ?_; rintro e w3 ⟨rfl, x3⟩; rw [← HH.out]))
  have HD3 := Lib.hid (HK.out.below x3)
  have HC3 : Hid (∀ U, Below w3.heap.size w3 U → U.cell? ⟨d, 3, none⟩ = some (.int .i64 most)) := Lib.hid (fun U hU => (HD3.out.below hU).c3)
  refine wp_region_held_drew (S := fun w' => Below w3.heap.size w3 w') (by kernel_rfl) (Below.refl _ w3).drew (fun hS => ?_)
  refine held_pure (i := 0) (oi := ⟨some 16, _, _, _, _, _⟩) rfl (by kernel_rfl) (by kernel_rfl) (by kernel_rfl) (fun _ _ _ h => h) (by rfl) (v := ?_) (fun w hSw => ?_) hS (fun hS => ?_)
  rotate_left
  · go_simp; try with_reducible rfl
  try go_frame
  refine held_pure (i := 2) (oi := ⟨some 18, _, _, _, _, _⟩) rfl (by kernel_rfl) (by kernel_rfl) (by kernel_rfl) (fun _ _ _ h => h) (by rfl) (v := ?_) (fun w hSw => ?_) hS (fun hS => ?_)
  rotate_left
  · go_simp; try with_reducible rfl
  try go_frame
  refine held_pure (i := 3) (oi := ⟨some 19, _, _, _, _, _⟩) rfl (by kernel_rfl) (by kernel_rfl) (by kernel_rfl) (fun _ _ _ h => h) (by rfl) (v := ?_) (fun w hSw => ?_) hS (fun hS => ?_)
  rotate_left
  · go_simp; try with_reducible rfl
  try go_frame
  refine held_pure (i := 4) (oi := ⟨some 20, _, _, _, _, _⟩) rfl (by kernel_rfl) (by kernel_rfl) (by kernel_rfl) (fun _ _ _ h => h) (by rfl) (v := ?_) (fun w hSw => ?_) hS (fun hS => ?_)
  rotate_left
  · go_simp; try with_reducible rfl
  try go_frame
  refine held_pure (i := 5) (oi := ⟨some 21, _, _, _, _, _⟩) rfl (by kernel_rfl) (by kernel_rfl) (by kernel_rfl) (fun _ _ _ h => h) (by rfl) (fun w hSw => run_load_int rfl rfl (HC3.out _ hSw)) hS (fun hS => ?_)
  try go_frame
  refine wpAnyH_ready (rs := [1]) (by kernel_rfl) (by simp) (AllReadyH.cons (o := ⟨some 17, _, _, _, _, _⟩) rfl (fun K hK => ?_) AllReadyH.nil)
  rw [if_pos (by rfl)]
  go_simp
  refine (blen (HD3.out.below (Below.refl w3.heap.size w3).drew)).mono ?_
  rintro e u1 ⟨rfl, rfl⟩
  show K _ _
  refine hK.out _ _ hS (fun hS => ?_)
  clear hK K
  try go_frame
  refine held_pure (i := 6) (oi := ⟨some 22, _, _, _, _, _⟩) rfl (by kernel_rfl) (by kernel_rfl) (by kernel_rfl) (fun _ _ _ h => h) (by rfl) (v := .bool true) (fun w hSw => by go_simp; (have hh := HFU.out; omega)) hS (fun hS => ?_)
  try go_frame
  refine held_pure (i := 7) (oi := ⟨some 15, _, _, _, _, _⟩) rfl (by kernel_rfl) (by kernel_rfl) (by kernel_rfl) (fun _ _ _ h => h) (by rfl) (v := ?_) (fun w hSw => ?_) hS (fun hS => ?_)
  rotate_left
  · go_simp; try with_reducible rfl
  try go_frame
  refine wpAnyH_done (by kernel_rfl) ?_ _
  go_wp2_with fail
  exact bodyPost_ret (results_tmp2 rfl _ _ _) rfl ⟨rfl, bV.trans ((x3.trans (hS.mono x3.size)).mono bV.size)⟩
set_option maxRecDepth 100000 in
set_option maxHeartbeats 4000000 in
theorem badd_ok (h : Db w B0 d t1 b1 t2 b2 A c most S f) (hTB : TB0 B0 w) (x : Bd) (hx : x.fits) (hh : ((fndI (docB 0 S) x).isSome || (fndO (docB 0 S) x).isSome) = false) (hfu : ((docB 0 S).length : Int) < most) : Calls Tryd.prog 9 #[.pointer (some ⟨d, 0, none⟩), bdV x] w fun e w' => e = .returned (.tuple #[.int .i64 (f : Int), .int .i64 0]) ∧ AddB w B0 d t1 t2 most (putS S f x) w' := by
  have hT := hTB.here
  obtain ⟨V, hV⟩ : ∃ V, V = w.alloc (.cells (clBd x).toArray 36) := ⟨_, rfl⟩
  have bV : Below w.heap.size w V := by rw [hV]; exact (Below.refl _ w).alloc (Nat.le_refl _) _
  have hbV : V.heap[w.heap.size]? = some (.cells (clBd x).toArray 36 (0, 0)) := by rw [hV]; exact World.alloc_heap_new w _
  have HBX := Lib.hid hbV
  have hr0 : V.rangeAt w.heap.size 0 (clBd x) := range_heap hbV
  have HK := Lib.hid (h.below bV)
  have HTV := Lib.hid (hT.step bV)
  have HF := Lib.hid hx
  have HV := Lib.hid (show w.alloc (.cells #[.int .i64 x.s, .int .i64 x.p, .int .i64 x.a, .int .i64 x.o, .int .i64 x.q, .int .i64 x.b, .int .i64 x.r, .bool x.st] 36) = V from hV.symm)
  obtain ⟨H, hH⟩ : ∃ H, H = ((fndI (docB 0 S) x).isSome || (fndO (docB 0 S) x).isSome) := ⟨_, rfl⟩
  have HH := Lib.hid hH
  rw [← hH] at hh
  subst hh
  have HFU : Hid (¬ ((docB 0 S).length : Int) ≥ most) := Lib.hid (by omega)
  have HPU := Lib.hid (show (0 ≤ most ∧ most ≤ 4096) ∧ ((docB 0 S).length : Int) < most ∧ (S.length : Int) ≤ most ∧ FreeB S f ∧ (∀ e ∈ docB 0 S, e.2.fits) ∧ (docB 0 S).Pairwise (fun a b => a.2.inn ≠ b.2.inn) ∧ (docB 0 S).Pairwise (fun a b => a.2.out ≠ b.2.out) from ⟨h.mst, hfu, h.n, h.free, h.fit, h.ni, h.no⟩)
  have hzz : B0 ≤ w.heap.size := Nat.le_trans h.z (Nat.le_of_lt (heap_lt h.obj))
  clear h hT hx hV hbV hH hfu
  unfold bdV clBd
  go_enter Tryd.func9, Tryd.ntmps9
  go_upto_region 1 with fail
  rw [HV.out]
  go_upto_region 5 with (first
    | ((with_reducible show wpList _ _ _ (Oper.mk _ (Op.load 36 _) _ _ _ _ :: _) _ _); refine wpList_val rfl (run_load_bd rfl rfl hr0) ?_)
    | (go_at_call 23; refine (bmade HK.out).mono ?_; rintro e w2 ⟨rfl, rfl⟩)
    | (go_at_call 24; refine (bhas HK.out HTV.out x HF.out).mono ?_; rintro e w3 ⟨rfl, x3⟩; rw [← HH.out]))
  have HD3 := Lib.hid (HK.out.below x3)
  have HC3 : Hid (∀ U, Below w3.heap.size w3 U → U.cell? ⟨d, 3, none⟩ = some (.int .i64 most)) := Lib.hid (fun U hU => (HD3.out.below hU).c3)
  refine wp_region_held_drew (S := fun w' => Below w3.heap.size w3 w') (by kernel_rfl) (Below.refl _ w3).drew (fun hS => ?_)
  refine held_pure (i := 0) (oi := ⟨some 16, _, _, _, _, _⟩) rfl (by kernel_rfl) (by kernel_rfl) (by kernel_rfl) (fun _ _ _ h => h) (by rfl) (v := ?_) (fun w hSw => ?_) hS (fun hS => ?_)
  rotate_left
  · go_simp; try with_reducible rfl
  try go_frame
  refine held_pure (i := 2) (oi := ⟨some 18, _, _, _, _, _⟩) rfl (by kernel_rfl) (by kernel_rfl) (by kernel_rfl) (fun _ _ _ h => h) (by rfl) (v := ?_) (fun w hSw => ?_) hS (fun hS => ?_)
  rotate_left
  · go_simp; try with_reducible rfl
  try go_frame
  refine held_pure (i := 3) (oi := ⟨some 19, _, _, _, _, _⟩) rfl (by kernel_rfl) (by kernel_rfl) (by kernel_rfl) (fun _ _ _ h => h) (by rfl) (v := ?_) (fun w hSw => ?_) hS (fun hS => ?_)
  rotate_left
  · go_simp; try with_reducible rfl
  try go_frame
  refine held_pure (i := 4) (oi := ⟨some 20, _, _, _, _, _⟩) rfl (by kernel_rfl) (by kernel_rfl) (by kernel_rfl) (fun _ _ _ h => h) (by rfl) (v := ?_) (fun w hSw => ?_) hS (fun hS => ?_)
  rotate_left
  · go_simp; try with_reducible rfl
  try go_frame
  refine held_pure (i := 5) (oi := ⟨some 21, _, _, _, _, _⟩) rfl (by kernel_rfl) (by kernel_rfl) (by kernel_rfl) (fun _ _ _ h => h) (by rfl) (fun w hSw => run_load_int rfl rfl (HC3.out _ hSw)) hS (fun hS => ?_)
  try go_frame
  refine wpAnyH_ready (rs := [1]) (by kernel_rfl) (by simp) (AllReadyH.cons (o := ⟨some 17, _, _, _, _, _⟩) rfl (fun K hK => ?_) AllReadyH.nil)
  rw [if_pos (by rfl)]
  go_simp
  refine (blen (HD3.out.below (Below.refl w3.heap.size w3).drew)).mono ?_
  rintro e u1 ⟨rfl, rfl⟩
  show K _ _
  refine hK.out _ _ hS (fun hS => ?_)
  clear hK K
  try go_frame
  refine held_pure (i := 6) (oi := ⟨some 22, _, _, _, _, _⟩) rfl (by kernel_rfl) (by kernel_rfl) (by kernel_rfl) (fun _ _ _ h => h) (by rfl) (v := .bool false) (fun w hSw => by go_simp; (have hh := HFU.out; omega)) hS (fun hS => ?_)
  try go_frame
  refine held_pure (i := 7) (oi := ⟨some 15, _, _, _, _, _⟩) rfl (by kernel_rfl) (by kernel_rfl) (by kernel_rfl) (fun _ _ _ h => h) (by rfl) (v := ?_) (fun w hSw => ?_) hS (fun hS => ?_)
  rotate_left
  · go_simp; try with_reducible rfl
  try go_frame
  refine wpAnyH_done (by kernel_rfl) ?_ _
  have b4 := bV.trans ((x3.trans (hS.mono x3.size)).mono bV.size)
  have HBOX : Hid (w3.drew.heap[w.heap.size]? = some (.cells (clBd x).toArray 36 (0, 0))) := Lib.hid (((x3.trans (hS.mono x3.size)).block w.heap.size (heap_lt HBX.out)).trans HBX.out)
  have HM := Lib.hid (HD3.out.below hS).dm
  generalize w3.drew = W at *
  have HBW : Hid (B0 ≤ W.heap.size) := Lib.hid (Nat.le_trans hzz b4.size)
  have HF4 := Lib.hid (FB.of_below b4 hzz)
  have HT4 := Lib.hid (hTB.step HF4.out.b)
  clear hTB
  clear hS x3 HD3 HC3 HK HTV
  by_cases hg : f = S.length
  · have kc4 := HM.out.c4
    have kc0 := HM.out.c0
    obtain ⟨n, hn⟩ : ∃ n, n = S.length := ⟨_, rfl⟩
    rw [← hn] at kc0
    have HN := Lib.hid hn
    have hfn : n = f := by rw [hn, hg]
    subst hfn
    have hd0 : decide (n = n) = true := by simp
    have kf0 := HM.out.fr 0
    have HO := Lib.hid HM.out.own
    rw [← hn] at HO
    obtain ⟨W1, hW1⟩ : ∃ W1, W1 = W.alloc (.cells (clSl none).toArray 68) := ⟨_, rfl⟩
    have HW1 := Lib.hid hW1
    have bW1 : Below W.heap.size W W1 := by rw [hW1]; exact (Below.refl _ W).alloc (Nat.le_refl _) _
    have hrz : W1.rangeAt W.heap.size 0 (clSl none) := by rw [hW1]; exact range_heap (World.alloc_heap_new W _)
    have HO1 := Lib.hid (own_below HO.out bW1)
    have HM1 := Lib.hid (HM.out.below bW1)
    have HNL : Hid (n ≤ 1000000) := Lib.hid (by have := HPU.out.2.2.1; have := HPU.out.1; omega)
    clear hn hg hW1
    go_upto_region 10 with (first
      | ((with_reducible show wpList _ _ _ (Oper.mk _ (Op.buildSlice _ _ _) _ _ _ _ :: _) _ _); refine list_growB rfl (run_bsSl (cs := (clSl none).toArray) rfl rfl rfl) ?_; rw [← HW1.out])
      | (at_builtin; go_loud (refine append_slt rfl _ _ rfl B0 _ n S rfl HO1.out HN.out W.heap.size none rfl hrz HNL.out (Nat.le_trans HBW.out bW1.size) ?_; intro v2 W2 hown2 hgrow2; obtain ⟨g2, c2', rfl⟩ := own_at hown2 (Nat.succ_pos n); have HG2 := Lib.hid (HM1.out.appended (n' := n + 1) (S' := S ++ [none]) hown2 (by rw [List.length_append, ← HN.out]; rfl) (by have hgx := hgrow2; rw [HN.out] at hgx; exact hgx)); have kd2 : W2.cell? ⟨d, 0, none⟩ = some (.slice A n c) := (by rw [HN.out]; exact HG2.out.1.1); have kf2 := HG2.out.1.2; clear hown2 hgrow2)))
    have q1 := HG2.out.2.1
    have HM6 := Lib.hid q1
    have HB6 := Lib.hid ((FB.of_below bW1 HBW.out).trans HG2.out.2.2)
    have kt6 : (W2.setCell ⟨d, 0, none⟩ (.slice (some ⟨g2, 0, none⟩) (n + 1) c2')).cell? ⟨d, 0, none⟩ = some (.slice (some ⟨g2, 0, none⟩) (n + 1) c2') := by have := q1.c0; rw [List.length_append, ← HN.out] at this; exact this
    have hlt6 : n < (S ++ [none]).length := by rw [List.length_append, ← HN.out]; simp
    have hpe : (S ++ [none]).set n (some x) = putS S n x := by rw [putS, if_pos HN.out, HN.out]; simp
    have HPE := Lib.hid hpe
    clear q1 kd2 kf2 hd0 hpe HG2 kc0 kc4 kf0
    generalize W2.setCell ⟨d, 0, none⟩ (.slice (some ⟨g2, 0, none⟩) (n + 1) c2') = W6 at *
    obtain ⟨S6, hS6⟩ : ∃ S6, S6 = S ++ [none] := ⟨_, rfl⟩
    obtain ⟨L6, hL6⟩ : ∃ L6, L6 = n + 1 := ⟨_, rfl⟩
    rw [← hS6] at HM6 hlt6 HPE
    have hkt : W6.cell? ⟨d, 0, none⟩ = some (.slice (some ⟨g2, 0, none⟩) L6 c2') := by rw [hL6]; exact kt6
    have hLS : L6 = S6.length := by rw [hL6, hS6, List.length_append, ← HN.out]; rfl
    clear kt6 hS6 hL6
    have bd6 := (Below.refl W6.heap.size W6).drew
    obtain ⟨gs, hgs, hth, hdm7, hfb7, hk7, hdg, cur7, hcur7⟩ := (HM6.out.below bd6).slot hlt6 (some x)
    obtain rfl : gs = g2 := by injection hgs with e1; injection e1 with e2 _ _; exact e2.symm
    have HBOX6 : Hid (W6.heap[w.heap.size]? = some (.cells (clBd x).toArray 36 (0, 0))) := Lib.hid (HB6.out.heap HBOX.out t4_no.1)
    have hbx6 := (bd6.block w.heap.size (heap_lt HBOX6.out)).trans HBOX6.out
    have hbne : w.heap.size ≠ gs := heap_ty hbx6 hcur7 (nat_ne (by kernel_rfl))
    have HS0 : Hid (∀ U, Kept (fun k => k = gs) W6 U → U.cell? ⟨d, 0, none⟩ = some (.slice (some ⟨gs, 0, none⟩) L6 c2')) := Lib.hid (fun U hU => (World.cell?_of_block (hU.block d (heap_lt HM6.out.obj) hdg)).trans hkt)
    have HSB : Hid (∀ U, Kept (fun k => k = gs) W6 U → U.rangeAt w.heap.size 0 (clBd x)) := Lib.hid (fun U hU => range_heap ((hU.block w.heap.size (heap_lt HBOX6.out) hbne).trans HBOX6.out))
    have HIX : Hid (n < L6) := Lib.hid (by rw [hLS]; exact hlt6)
    have HTH := Lib.hid hth
    have HD7 := Lib.hid hdm7
    have HF7 := Lib.hid ((HB6.out.trans (FB.of_below bd6 (Nat.le_trans HBW.out HB6.out.size))).trans hfb7)
    have HBOX7 : Hid ((W6.drew.setCells gs (n * 9) (clSl (some x))).heap[w.heap.size]? = some (.cells (clBd x).toArray 36 (0, 0))) := Lib.hid ((hk7.block w.heap.size (heap_lt hbx6) hbne).trans hbx6)
    clear hgs hth hdm7 hfb7 hk7 hcur7 hbx6 bd6
    refine wp_region_held_drew (S := fun w' => Kept (fun k => k = gs) W6 w') (by kernel_rfl) (Kept.drew W6) (fun hS => ?_)
    refine held_pure (i := 0) (oi := ⟨some 44, _, _, _, _, _⟩) rfl (by kernel_rfl) (by kernel_rfl) (by kernel_rfl) (fun _ _ _ h => h) (by rfl) (v := ?_) (fun w hSw => ?_) hS (fun hS => ?_)
    rotate_left
    · go_simp; try with_reducible rfl
    try go_frame
    refine held_pure (i := 1) (oi := ⟨some 45, _, _, _, _, _⟩) rfl (by kernel_rfl) (by kernel_rfl) (by kernel_rfl) (fun _ _ _ h => h) (by rfl) (v := ?_) (fun w hSw => ?_) hS (fun hS => ?_)
    rotate_left
    · go_simp; try with_reducible rfl
    try go_frame
    refine held_pure (i := 2) (oi := ⟨some 46, _, _, _, _, _⟩) rfl (by kernel_rfl) (by kernel_rfl) (by kernel_rfl) (fun _ _ _ h => h) (by rfl) (v := ?_) (fun w hSw => ?_) hS (fun hS => ?_)
    rotate_left
    · go_simp; try with_reducible rfl
    try go_frame
    refine held_pure (i := 3) (oi := ⟨some 47, _, _, _, _, _⟩) rfl (by kernel_rfl) (by kernel_rfl) (by kernel_rfl) (fun _ _ _ h => h) (by rfl) (fun w hSw => run_load_slt rfl rfl (HS0.out _ hSw)) hS (fun hS => ?_)
    try go_frame
    refine held_pure (i := 4) (oi := ⟨some 48, _, _, _, _, _⟩) rfl (by kernel_rfl) (by kernel_rfl) (by kernel_rfl) (fun _ _ _ h => h) (by rfl) (v := ?_) (fun w hSw => ?_) hS (fun hS => ?_)
    rotate_left
    · go_simp; try with_reducible rfl
    try go_frame
    refine held_pure (i := 5) (oi := ⟨some 49, _, _, _, _, _⟩) rfl (by kernel_rfl) (by kernel_rfl) (by kernel_rfl) (fun _ _ _ h => h) (by rfl) (fun w hSw => run_load_bd rfl rfl (HSB.out _ hSw)) hS (fun hS => ?_)
    try go_frame
    refine held_pure (i := 6) (oi := ⟨some 50, _, _, _, _, _⟩) rfl (by kernel_rfl) (by kernel_rfl) (by kernel_rfl) (fun _ _ _ h => h) (by rfl) (v := .agg (clSl (some x)).toArray) (fun w hSw => by unfold bdV clBd clSl; go_simp; try rfl) hS (fun hS => ?_)
    try go_frame
    refine held_pure (i := 7) (oi := ⟨some 51, _, _, _, _, _⟩) rfl (by kernel_rfl) (by kernel_rfl) (by kernel_rfl) (fun _ _ _ h => h) (by rfl) (v := .pointer (some ⟨gs, n * 9, none⟩)) (fun w hSw => by go_simp; try (have hh := HIX.out; rw [if_pos ⟨by omega, by omega⟩]; simp)) hS (fun hS => ?_)
    try go_frame
    refine wpAnyH_ready (rs := [8]) (by kernel_rfl) (by simp) (AllReadyH.cons (o := ⟨none, _, _, _, _, _⟩) rfl (fun K hK => ?_) AllReadyH.nil)
    rw [if_pos (by rfl)]
    refine store_slt_wp (cs := clSl (some x)) rfl rfl rfl HTH.out rfl (clSl_one _) ?_
    refine hK.out _ _ ((Kept.drew W6).trans (Kept.setCells gs _ _ _) (fun _ _ e => e)) (fun hS => ?_)
    clear hK K
    try go_frame
    refine wpAnyH_done (by kernel_rfl) ?_ _
    generalize hW7 : W6.drew.setCells gs (n * 9) (clSl (some x)) = W7 at *
    clear hW7
    have HZ7 : Hid (B0 ≤ W7.heap.size) := Lib.hid (Nat.le_trans HBW.out HF7.out.size)
    have HT7 := Lib.hid (HT4.out.step HF7.out.b)
    have HPP := Lib.hid (put_pure HPU.out HF.out HH.out.symm)
    have HLI : Hid (((inE (docB 0 S)).length : Int) < most) := Lib.hid (by have h9 := HPU.out.2.1; simpa [inE] using h9)
    have HLO : Hid (((ouE (docB 0 S)).length : Int) < most) := Lib.hid (by have h9 := HPU.out.2.1; simpa [ouE] using h9)
    have HLX : Hid ((txtN x.inn).length ≤ 1000000) := Lib.hid (by have h7 := txtN_len HF.out.inn; have e7 : x.inn.length ≤ 4 := (by simp [Bd.inn]); omega)
    have HLY : Hid ((txtN x.out).length ≤ 1000000) := Lib.hid (by have h7 := txtN_len HF.out.out; have e7 : x.out.length ≤ 4 := (by simp [Bd.out]); omega)
    have hbt := kt_apart HD7.out.inn HBOX7.out (nat_ne (by kernel_rfl)) (nat_ne (by kernel_rfl))
    have hdt := kt_apart HD7.out.inn HD7.out.obj (nat_ne (by kernel_rfl)) (nat_ne (by kernel_rfl))
    have HC1 : Hid (∀ U, KT t1 b1 W7 U → U.cell? ⟨d, 1, none⟩ = some (.pointer (some ⟨t1, 0, none⟩))) := Lib.hid (fun U hU => (World.cell?_of_block (hU.block d (heap_lt HD7.out.obj) hdt)).trans HD7.out.c1)
    have HBI : Hid (∀ U, KT t1 b1 W7 U → U.rangeAt w.heap.size 0 (clI x.inn)) := Lib.hid (fun U hU => box_inn ((hU.block w.heap.size (heap_lt HBOX7.out) hbt).trans HBOX7.out))
    clear hbt hdt
    go_upto_region 11 with fail
    refine wp_region_held_drew (S := fun w' => KT t1 b1 W7 w') (by kernel_rfl) (KT.of_below (Below.refl W7.heap.size W7).drew) (fun hS => ?_)
    refine held_pure (i := 0) (oi := ⟨some 52, _, _, _, _, _⟩) rfl (by kernel_rfl) (by kernel_rfl) (by kernel_rfl) (fun _ _ _ h => h) (by rfl) (v := ?_) (fun w hSw => ?_) hS (fun hS => ?_)
    rotate_left
    · go_simp; try with_reducible rfl
    try go_frame
    refine held_pure (i := 1) (oi := ⟨some 53, _, _, _, _, _⟩) rfl (by kernel_rfl) (by kernel_rfl) (by kernel_rfl) (fun _ _ _ h => h) (by rfl) (v := ?_) (fun w hSw => ?_) hS (fun hS => ?_)
    rotate_left
    · go_simp; try with_reducible rfl
    try go_frame
    refine held_pure (i := 2) (oi := ⟨some 54, _, _, _, _, _⟩) rfl (by kernel_rfl) (by kernel_rfl) (by kernel_rfl) (fun _ _ _ h => h) (by rfl) (v := ?_) (fun w hSw => ?_) hS (fun hS => ?_)
    rotate_left
    · go_simp; try with_reducible rfl
    try go_frame
    refine held_pure (i := 3) (oi := ⟨some 55, _, _, _, _, _⟩) rfl (by kernel_rfl) (by kernel_rfl) (by kernel_rfl) (fun _ _ _ h => h) (by rfl) (fun w hSw => run_load_pdb rfl rfl (HC1.out _ hSw)) hS (fun hS => ?_)
    try go_frame
    refine held_pure (i := 4) (oi := ⟨some 56, _, _, _, _, _⟩) rfl (by kernel_rfl) (by kernel_rfl) (by kernel_rfl) (fun _ _ _ h => h) (by rfl) (v := ?_) (fun w hSw => ?_) hS (fun hS => ?_)
    rotate_left
    · go_simp; try with_reducible rfl
    try go_frame
    refine held_pure (i := 5) (oi := ⟨some 57, _, _, _, _, _⟩) rfl (by kernel_rfl) (by kernel_rfl) (by kernel_rfl) (fun _ _ _ h => h) (by rfl) (fun w hSw => run_load_inn rfl rfl (HBI.out _ hSw)) hS (fun hS => ?_)
    try go_frame
    refine held_pure (i := 7) (oi := ⟨some 59, _, _, _, _, _⟩) rfl (by kernel_rfl) (by kernel_rfl) (by kernel_rfl) (fun _ _ _ h => h) (by rfl) (v := ?_) (fun w hSw => ?_) hS (fun hS => ?_)
    rotate_left
    · go_simp; try with_reducible rfl
    try go_frame
    refine wpAnyH_ready (rs := [6]) (by kernel_rfl) (by simp) (AllReadyH.cons (o := ⟨some 58, _, _, _, _, _⟩) rfl (fun K hK => ?_) AllReadyH.nil)
    rw [if_pos (by rfl)]
    go_simp
    refine (binner x W7.drew HF.out (HT7.out.here.step (Below.refl W7.heap.size W7).drew)).mono ?_
    rintro e w5 ⟨rfl, x5⟩
    have x6 : Below W7.heap.size W7 w5 := (Below.refl W7.heap.size W7).drew.trans x5
    have z6 := Nat.le_trans HZ7.out x6.size
    show K _ _
    refine hK.out _ _ (KT.of_below x6) (fun hS => ?_)
    clear hK K
    try go_frame
    refine wpAnyH_ready (rs := [8]) (by kernel_rfl) (by simp) (AllReadyH.cons (o := ⟨some 60, _, _, _, _, _⟩) rfl (fun K hK => ?_) AllReadyH.nil)
    rw [if_pos (by rfl)]
    go_simp
    refine (hq_put_new (key := txtN x.inn) (HD7.out.inn.below x6) (inE_key HPP.out.1) HLI.out (n : Int) HLX.out z6).mono ?_
    rintro e W8 ⟨b1', rfl, q8, -, k8, e8⟩
    have HQ8 := Lib.hid (show _ ∧ _ from (HD7.out.below x6).tin q8 k8 e8)
    have hF8 := (FB.of_below x6 HZ7.out).trans HQ8.out.2
    have hKT := (KT.of_below x6).trans k8
    clear q8 e8
    show K _ _
    refine hK.out _ _ hKT (fun hS => ?_)
    clear hK K
    try go_frame
    refine wpAnyH_done (by kernel_rfl) ?_ _
    have HD8 := Lib.hid HQ8.out.1
    have HF8 := Lib.hid (HF7.out.trans hF8)
    have HZ8 : Hid (B0 ≤ W8.heap.size) := Lib.hid (Nat.le_trans HBW.out HF8.out.size)
    have HT8 := Lib.hid (HT4.out.step HF8.out.b)
    have HBOX8 := Lib.hid (hF8.heap HBOX7.out t4_no.1)
    have hbt := kt_apart HD8.out.out HBOX8.out (nat_ne (by kernel_rfl)) (nat_ne (by kernel_rfl))
    have hdt := kt_apart HD8.out.out HD8.out.obj (nat_ne (by kernel_rfl)) (nat_ne (by kernel_rfl))
    have HC2 : Hid (∀ U, KT t2 b2 W8 U → U.cell? ⟨d, 2, none⟩ = some (.pointer (some ⟨t2, 0, none⟩))) := Lib.hid (fun U hU => (World.cell?_of_block (hU.block d (heap_lt HD8.out.obj) hdt)).trans HD8.out.c2)
    have HBO : Hid (∀ U, KT t2 b2 W8 U → U.rangeAt w.heap.size 4 (clI x.out)) := Lib.hid (fun U hU => box_out ((hU.block w.heap.size (heap_lt HBOX8.out) hbt).trans HBOX8.out))
    clear hbt hdt hF8 hKT hS
    go_upto_region 12 with fail
    refine wp_region_held_drew (S := fun w' => KT t2 b2 W8 w') (by kernel_rfl) (KT.of_below (Below.refl W8.heap.size W8).drew) (fun hS => ?_)
    refine held_pure (i := 0) (oi := ⟨some 61, _, _, _, _, _⟩) rfl (by kernel_rfl) (by kernel_rfl) (by kernel_rfl) (fun _ _ _ h => h) (by rfl) (v := ?_) (fun w hSw => ?_) hS (fun hS => ?_)
    rotate_left
    · go_simp; try with_reducible rfl
    try go_frame
    refine held_pure (i := 1) (oi := ⟨some 62, _, _, _, _, _⟩) rfl (by kernel_rfl) (by kernel_rfl) (by kernel_rfl) (fun _ _ _ h => h) (by rfl) (v := ?_) (fun w hSw => ?_) hS (fun hS => ?_)
    rotate_left
    · go_simp; try with_reducible rfl
    try go_frame
    refine held_pure (i := 2) (oi := ⟨some 63, _, _, _, _, _⟩) rfl (by kernel_rfl) (by kernel_rfl) (by kernel_rfl) (fun _ _ _ h => h) (by rfl) (v := ?_) (fun w hSw => ?_) hS (fun hS => ?_)
    rotate_left
    · go_simp; try with_reducible rfl
    try go_frame
    refine held_pure (i := 3) (oi := ⟨some 64, _, _, _, _, _⟩) rfl (by kernel_rfl) (by kernel_rfl) (by kernel_rfl) (fun _ _ _ h => h) (by rfl) (fun w hSw => run_load_pdb rfl rfl (HC2.out _ hSw)) hS (fun hS => ?_)
    try go_frame
    refine held_pure (i := 4) (oi := ⟨some 65, _, _, _, _, _⟩) rfl (by kernel_rfl) (by kernel_rfl) (by kernel_rfl) (fun _ _ _ h => h) (by rfl) (v := ?_) (fun w hSw => ?_) hS (fun hS => ?_)
    rotate_left
    · go_simp; try with_reducible rfl
    try go_frame
    refine held_pure (i := 5) (oi := ⟨some 66, _, _, _, _, _⟩) rfl (by kernel_rfl) (by kernel_rfl) (by kernel_rfl) (fun _ _ _ h => h) (by rfl) (fun w hSw => run_load_out rfl rfl (HBO.out _ hSw)) hS (fun hS => ?_)
    try go_frame
    refine held_pure (i := 7) (oi := ⟨some 68, _, _, _, _, _⟩) rfl (by kernel_rfl) (by kernel_rfl) (by kernel_rfl) (fun _ _ _ h => h) (by rfl) (v := ?_) (fun w hSw => ?_) hS (fun hS => ?_)
    rotate_left
    · go_simp; try with_reducible rfl
    try go_frame
    refine wpAnyH_ready (rs := [6]) (by kernel_rfl) (by simp) (AllReadyH.cons (o := ⟨some 67, _, _, _, _, _⟩) rfl (fun K hK => ?_) AllReadyH.nil)
    rw [if_pos (by rfl)]
    go_simp
    refine (bouter x W8.drew HF.out (HT8.out.here.step (Below.refl W8.heap.size W8).drew)).mono ?_
    rintro e w5 ⟨rfl, x5⟩
    have x6 : Below W8.heap.size W8 w5 := (Below.refl W8.heap.size W8).drew.trans x5
    have z6 := Nat.le_trans HZ8.out x6.size
    show K _ _
    refine hK.out _ _ (KT.of_below x6) (fun hS => ?_)
    clear hK K
    try go_frame
    refine wpAnyH_ready (rs := [8]) (by kernel_rfl) (by simp) (AllReadyH.cons (o := ⟨some 69, _, _, _, _, _⟩) rfl (fun K hK => ?_) AllReadyH.nil)
    rw [if_pos (by rfl)]
    go_simp
    refine (hq_put_new (key := txtN x.out) (HD8.out.out.below x6) (ouE_key HPP.out.2.1) HLO.out (n : Int) HLY.out z6).mono ?_
    rintro e W9 ⟨b2', rfl, q9, -, k9, e9⟩
    have HQ9 := Lib.hid (show _ ∧ _ from (HD8.out.below x6).tout q9 k9 e9)
    have hF9 := (FB.of_below x6 HZ8.out).trans HQ9.out.2
    have hKT := (KT.of_below x6).trans k9
    clear q9 e9
    show K _ _
    refine hK.out _ _ hKT (fun hS => ?_)
    clear hK K
    try go_frame
    refine wpAnyH_done (by kernel_rfl) ?_ _
    have HD9 := Lib.hid HQ9.out.1
    have HF9 := Lib.hid (HF4.out.trans (HF8.out.trans hF9))
    clear hF9 hKT hS
    obtain ⟨PS, hPS⟩ : ∃ PS, PS = putS S n x := ⟨_, rfl⟩
    rw [HPE.out, ← hPS] at HD9
    have HPS := Lib.hid hPS
    have HNF : Hid (n ≤ S.length) := Lib.hid HPU.out.2.2.2.1.le
    have HPL : Hid ((PS.length : Int) ≤ 4096) := Lib.hid (by have h1 := HPP.out.2.2.2.2.2; have h2 := HPU.out.1; rw [hPS]; omega)
    have HTK : Hid (∀ j, j < n → ∃ y, PS[j]? = some (some y)) := Lib.hid (fun j hj => by obtain ⟨y, hy⟩ := HPU.out.2.2.2.1.all j hj; exact ⟨y, by rw [hPS, putS_at HNF.out, if_neg (by omega)]; exact hy⟩)
    have HFL : Hid (n ≤ PS.length) := Lib.hid (by rw [hPS, putS_len]; have h1 := HNF.out; split <;> omega)
    clear hPS
    go_wp2_with fail
    go_loopw [74] (fun _ wr => ∃ k : Nat, k ≤ PS.length ∧ Hid (Dm wr B0 d t1 b1' t2 b2' (some ⟨gs, 0, none⟩) c2' most PS k (⟨txtN x.inn, (n : Int)⟩ :: inE (docB 0 S)) (⟨txtN x.out, (n : Int)⟩ :: ouE (docB 0 S))) ∧ Hid (∀ j, j < k → ∃ y, PS[j]? = some (some y)) ∧ Hid (FB B0 w wr))
      (fun _ wr => PS.length - (intOf ((wr.cell? ⟨d, 4, none⟩).getD undef)).toNat)
    case atStart => exact ⟨n, HFL.out, HD9, HTK, HF9⟩
    case round =>
      obtain ⟨k, hk, HDk, HAk, HFk⟩ := hrel
      have kc4 := HDk.out.c4
      have kf4 := HDk.out.fr 4
      by_cases htk : (takB PS (k : Int)).isSome = true
      · have HTQ := Lib.hid htk
        obtain ⟨y, hy⟩ : ∃ y, PS[k]? = some (some y) := tak_some htk
        have hkl : k < PS.length := (List.getElem?_eq_some_iff.1 hy).1
        have hk9 := HPL.out
        have hw9 : IntKind.i64.wrap ((k : Int) + 1) = (k : Int) + 1 := IntWalk.i64_in _ (by omega)
        have HSET := Lib.hid (HDk.out.seti (f' := k + 1))
        have HY := Lib.hid hy
        clear htk hy hk9
        go_wp2_with (go_at_call 28; refine (btakenR HDk.out.c0 HDk.out.rds (k : Int)).mono ?_; rintro e u1 ⟨rfl, rfl⟩; rw [HTQ.out])
        go_roundw
        case rel => exact ⟨k + 1, by omega, HSET.1, Lib.hid (fun j hj => by by_cases hjk : j = k; exact ⟨y, by rw [hjk]; exact HY.out⟩; exact HAk.out j (by omega)), Lib.hid (HFk.out.trans HSET.out.2)⟩
        case measure =>
          have e2 : (wr.setCell ⟨d, 4, none⟩ (.int .i64 ((k : Int) + 1))).cell? ⟨d, 4, none⟩ = some (.int .i64 ((k : Int) + 1)) := HSET.out.1.c4
          rw [e2, kc4]; simp [intOf]; omega
      · have HTQ := Lib.hid (Bool.eq_false_iff.2 htk)
        have HFR : Hid (FreeB PS k) := Lib.hid ⟨hk, HAk.out, fun y hy => htk (tak_of hy)⟩
        clear htk
        go_wp2_with (go_at_call 28; refine (btakenR HDk.out.c0 HDk.out.rds (k : Int)).mono ?_; rintro e u1 ⟨rfl, rfl⟩; rw [HTQ.out])
        refine bodyPost_ret (results_tmp2 rfl _ _ _) rfl ⟨rfl, b1', b2', some ⟨gs, 0, none⟩, c2', k, ?_, HFk.out⟩
        have hpp := HPU.out.2.2.2.1.pput x
        rw [← HPS.out]
        refine Db.of HDk.out ?_ ?_ HFR.out ?_ ?_ ?_ HPU.out.1 ?_
        · rw [HPS.out]; exact (hpp.map (fun e : Nat × Bd => (⟨txtN e.2.inn, (e.1 : Int)⟩ : Ent))).symm
        · rw [HPS.out]; exact (hpp.map (fun e : Nat × Bd => (⟨txtN e.2.out, (e.1 : Int)⟩ : Ent))).symm
        · rw [HPS.out]; exact HPP.out.2.2.1
        · rw [HPS.out]; exact HPP.out.2.2.2.1
        · rw [HPS.out]; exact HPP.out.2.2.2.2.1
        · rw [HPS.out]; exact HPP.out.2.2.2.2.2
  · have kc4 := HM.out.c4
    have kc0 := HM.out.c0
    obtain ⟨n, hn⟩ : ∃ n, n = S.length := ⟨_, rfl⟩
    rw [← hn] at kc0
    have HN := Lib.hid hn
    have hfn : f ≠ n := by rw [hn]; exact hg
    have hd0 : ((f : Int) == (n : Int)) = false := by simp; omega
    have hd1 : decide (f = n) = false := decide_eq_false hfn
    have hlt6 : f < S.length := by have := HPU.out.2.2.2.1.le; omega
    have hpe : S.set f (some x) = putS S f x := by rw [putS, if_neg hg]
    have HPE := Lib.hid hpe
    obtain ⟨gg, hAg, _⟩ := HM.out.slot hlt6 (some x)
    subst hAg
    have hLS := hn
    clear hpe hn hfn
    go_upto_region 10 with fail
    obtain ⟨W6, hW6⟩ : ∃ W6, W6 = W := ⟨_, rfl⟩
    have HM6 : Hid (Dm W6 B0 d t1 b1 t2 b2 (some ⟨gg, 0, none⟩) c most S f (inE (docB 0 S)) (ouE (docB 0 S))) := Lib.hid (by rw [hW6]; exact HM.out)
    have HB6 : Hid (FB B0 W W6) := Lib.hid (by rw [hW6]; exact FB.of_below (Below.refl _ W) HBW.out)
    have hkt : W6.cell? ⟨d, 0, none⟩ = some (.slice (some ⟨gg, 0, none⟩) n c) := by rw [hW6]; exact kc0
    rw [← hW6]
    clear kc0 kc4 hd0 hd1 hW6
    have bd6 := (Below.refl W6.heap.size W6).drew
    obtain ⟨gs, hgs, hth, hdm7, hfb7, hk7, hdg, cur7, hcur7⟩ := (HM6.out.below bd6).slot hlt6 (some x)
    obtain rfl : gs = gg := by injection hgs with e1; injection e1 with e2 _ _; exact e2.symm
    have HBOX6 : Hid (W6.heap[w.heap.size]? = some (.cells (clBd x).toArray 36 (0, 0))) := Lib.hid (HB6.out.heap HBOX.out t4_no.1)
    have hbx6 := (bd6.block w.heap.size (heap_lt HBOX6.out)).trans HBOX6.out
    have hbne : w.heap.size ≠ gs := heap_ty hbx6 hcur7 (nat_ne (by kernel_rfl))
    have HS0 : Hid (∀ U, Kept (fun k => k = gs) W6 U → U.cell? ⟨d, 0, none⟩ = some (.slice (some ⟨gs, 0, none⟩) n c)) := Lib.hid (fun U hU => (World.cell?_of_block (hU.block d (heap_lt HM6.out.obj) hdg)).trans hkt)
    have HSB : Hid (∀ U, Kept (fun k => k = gs) W6 U → U.rangeAt w.heap.size 0 (clBd x)) := Lib.hid (fun U hU => range_heap ((hU.block w.heap.size (heap_lt HBOX6.out) hbne).trans HBOX6.out))
    have HIX : Hid (f < n) := Lib.hid (by rw [hLS]; exact hlt6)
    have HTH := Lib.hid hth
    have HD7 := Lib.hid hdm7
    have HF7 := Lib.hid ((HB6.out.trans (FB.of_below bd6 (Nat.le_trans HBW.out HB6.out.size))).trans hfb7)
    have HBOX7 : Hid ((W6.drew.setCells gs (f * 9) (clSl (some x))).heap[w.heap.size]? = some (.cells (clBd x).toArray 36 (0, 0))) := Lib.hid ((hk7.block w.heap.size (heap_lt hbx6) hbne).trans hbx6)
    clear hgs hth hdm7 hfb7 hk7 hcur7 hbx6 bd6
    refine wp_region_held_drew (S := fun w' => Kept (fun k => k = gs) W6 w') (by kernel_rfl) (Kept.drew W6) (fun hS => ?_)
    refine held_pure (i := 0) (oi := ⟨some 44, _, _, _, _, _⟩) rfl (by kernel_rfl) (by kernel_rfl) (by kernel_rfl) (fun _ _ _ h => h) (by rfl) (v := ?_) (fun w hSw => ?_) hS (fun hS => ?_)
    rotate_left
    · go_simp; try with_reducible rfl
    try go_frame
    refine held_pure (i := 1) (oi := ⟨some 45, _, _, _, _, _⟩) rfl (by kernel_rfl) (by kernel_rfl) (by kernel_rfl) (fun _ _ _ h => h) (by rfl) (v := ?_) (fun w hSw => ?_) hS (fun hS => ?_)
    rotate_left
    · go_simp; try with_reducible rfl
    try go_frame
    refine held_pure (i := 2) (oi := ⟨some 46, _, _, _, _, _⟩) rfl (by kernel_rfl) (by kernel_rfl) (by kernel_rfl) (fun _ _ _ h => h) (by rfl) (v := ?_) (fun w hSw => ?_) hS (fun hS => ?_)
    rotate_left
    · go_simp; try with_reducible rfl
    try go_frame
    refine held_pure (i := 3) (oi := ⟨some 47, _, _, _, _, _⟩) rfl (by kernel_rfl) (by kernel_rfl) (by kernel_rfl) (fun _ _ _ h => h) (by rfl) (fun w hSw => run_load_slt rfl rfl (HS0.out _ hSw)) hS (fun hS => ?_)
    try go_frame
    refine held_pure (i := 4) (oi := ⟨some 48, _, _, _, _, _⟩) rfl (by kernel_rfl) (by kernel_rfl) (by kernel_rfl) (fun _ _ _ h => h) (by rfl) (v := ?_) (fun w hSw => ?_) hS (fun hS => ?_)
    rotate_left
    · go_simp; try with_reducible rfl
    try go_frame
    refine held_pure (i := 5) (oi := ⟨some 49, _, _, _, _, _⟩) rfl (by kernel_rfl) (by kernel_rfl) (by kernel_rfl) (fun _ _ _ h => h) (by rfl) (fun w hSw => run_load_bd rfl rfl (HSB.out _ hSw)) hS (fun hS => ?_)
    try go_frame
    refine held_pure (i := 6) (oi := ⟨some 50, _, _, _, _, _⟩) rfl (by kernel_rfl) (by kernel_rfl) (by kernel_rfl) (fun _ _ _ h => h) (by rfl) (v := .agg (clSl (some x)).toArray) (fun w hSw => by unfold bdV clBd clSl; go_simp; try rfl) hS (fun hS => ?_)
    try go_frame
    refine held_pure (i := 7) (oi := ⟨some 51, _, _, _, _, _⟩) rfl (by kernel_rfl) (by kernel_rfl) (by kernel_rfl) (fun _ _ _ h => h) (by rfl) (v := .pointer (some ⟨gs, f * 9, none⟩)) (fun w hSw => by go_simp; try (have hh := HIX.out; rw [if_pos ⟨by omega, by omega⟩]; simp)) hS (fun hS => ?_)
    try go_frame
    refine wpAnyH_ready (rs := [8]) (by kernel_rfl) (by simp) (AllReadyH.cons (o := ⟨none, _, _, _, _, _⟩) rfl (fun K hK => ?_) AllReadyH.nil)
    rw [if_pos (by rfl)]
    refine store_slt_wp (cs := clSl (some x)) rfl rfl rfl HTH.out rfl (clSl_one _) ?_
    refine hK.out _ _ ((Kept.drew W6).trans (Kept.setCells gs _ _ _) (fun _ _ e => e)) (fun hS => ?_)
    clear hK K
    try go_frame
    refine wpAnyH_done (by kernel_rfl) ?_ _
    generalize hW7 : W6.drew.setCells gs (f * 9) (clSl (some x)) = W7 at *
    clear hW7
    have HZ7 : Hid (B0 ≤ W7.heap.size) := Lib.hid (Nat.le_trans HBW.out HF7.out.size)
    have HT7 := Lib.hid (HT4.out.step HF7.out.b)
    have HPP := Lib.hid (put_pure HPU.out HF.out HH.out.symm)
    have HLI : Hid (((inE (docB 0 S)).length : Int) < most) := Lib.hid (by have h9 := HPU.out.2.1; simpa [inE] using h9)
    have HLO : Hid (((ouE (docB 0 S)).length : Int) < most) := Lib.hid (by have h9 := HPU.out.2.1; simpa [ouE] using h9)
    have HLX : Hid ((txtN x.inn).length ≤ 1000000) := Lib.hid (by have h7 := txtN_len HF.out.inn; have e7 : x.inn.length ≤ 4 := (by simp [Bd.inn]); omega)
    have HLY : Hid ((txtN x.out).length ≤ 1000000) := Lib.hid (by have h7 := txtN_len HF.out.out; have e7 : x.out.length ≤ 4 := (by simp [Bd.out]); omega)
    have hbt := kt_apart HD7.out.inn HBOX7.out (nat_ne (by kernel_rfl)) (nat_ne (by kernel_rfl))
    have hdt := kt_apart HD7.out.inn HD7.out.obj (nat_ne (by kernel_rfl)) (nat_ne (by kernel_rfl))
    have HC1 : Hid (∀ U, KT t1 b1 W7 U → U.cell? ⟨d, 1, none⟩ = some (.pointer (some ⟨t1, 0, none⟩))) := Lib.hid (fun U hU => (World.cell?_of_block (hU.block d (heap_lt HD7.out.obj) hdt)).trans HD7.out.c1)
    have HBI : Hid (∀ U, KT t1 b1 W7 U → U.rangeAt w.heap.size 0 (clI x.inn)) := Lib.hid (fun U hU => box_inn ((hU.block w.heap.size (heap_lt HBOX7.out) hbt).trans HBOX7.out))
    clear hbt hdt
    go_upto_region 11 with fail
    refine wp_region_held_drew (S := fun w' => KT t1 b1 W7 w') (by kernel_rfl) (KT.of_below (Below.refl W7.heap.size W7).drew) (fun hS => ?_)
    refine held_pure (i := 0) (oi := ⟨some 52, _, _, _, _, _⟩) rfl (by kernel_rfl) (by kernel_rfl) (by kernel_rfl) (fun _ _ _ h => h) (by rfl) (v := ?_) (fun w hSw => ?_) hS (fun hS => ?_)
    rotate_left
    · go_simp; try with_reducible rfl
    try go_frame
    refine held_pure (i := 1) (oi := ⟨some 53, _, _, _, _, _⟩) rfl (by kernel_rfl) (by kernel_rfl) (by kernel_rfl) (fun _ _ _ h => h) (by rfl) (v := ?_) (fun w hSw => ?_) hS (fun hS => ?_)
    rotate_left
    · go_simp; try with_reducible rfl
    try go_frame
    refine held_pure (i := 2) (oi := ⟨some 54, _, _, _, _, _⟩) rfl (by kernel_rfl) (by kernel_rfl) (by kernel_rfl) (fun _ _ _ h => h) (by rfl) (v := ?_) (fun w hSw => ?_) hS (fun hS => ?_)
    rotate_left
    · go_simp; try with_reducible rfl
    try go_frame
    refine held_pure (i := 3) (oi := ⟨some 55, _, _, _, _, _⟩) rfl (by kernel_rfl) (by kernel_rfl) (by kernel_rfl) (fun _ _ _ h => h) (by rfl) (fun w hSw => run_load_pdb rfl rfl (HC1.out _ hSw)) hS (fun hS => ?_)
    try go_frame
    refine held_pure (i := 4) (oi := ⟨some 56, _, _, _, _, _⟩) rfl (by kernel_rfl) (by kernel_rfl) (by kernel_rfl) (fun _ _ _ h => h) (by rfl) (v := ?_) (fun w hSw => ?_) hS (fun hS => ?_)
    rotate_left
    · go_simp; try with_reducible rfl
    try go_frame
    refine held_pure (i := 5) (oi := ⟨some 57, _, _, _, _, _⟩) rfl (by kernel_rfl) (by kernel_rfl) (by kernel_rfl) (fun _ _ _ h => h) (by rfl) (fun w hSw => run_load_inn rfl rfl (HBI.out _ hSw)) hS (fun hS => ?_)
    try go_frame
    refine held_pure (i := 7) (oi := ⟨some 59, _, _, _, _, _⟩) rfl (by kernel_rfl) (by kernel_rfl) (by kernel_rfl) (fun _ _ _ h => h) (by rfl) (v := ?_) (fun w hSw => ?_) hS (fun hS => ?_)
    rotate_left
    · go_simp; try with_reducible rfl
    try go_frame
    refine wpAnyH_ready (rs := [6]) (by kernel_rfl) (by simp) (AllReadyH.cons (o := ⟨some 58, _, _, _, _, _⟩) rfl (fun K hK => ?_) AllReadyH.nil)
    rw [if_pos (by rfl)]
    go_simp
    refine (binner x W7.drew HF.out (HT7.out.here.step (Below.refl W7.heap.size W7).drew)).mono ?_
    rintro e w5 ⟨rfl, x5⟩
    have x6 : Below W7.heap.size W7 w5 := (Below.refl W7.heap.size W7).drew.trans x5
    have z6 := Nat.le_trans HZ7.out x6.size
    show K _ _
    refine hK.out _ _ (KT.of_below x6) (fun hS => ?_)
    clear hK K
    try go_frame
    refine wpAnyH_ready (rs := [8]) (by kernel_rfl) (by simp) (AllReadyH.cons (o := ⟨some 60, _, _, _, _, _⟩) rfl (fun K hK => ?_) AllReadyH.nil)
    rw [if_pos (by rfl)]
    go_simp
    refine (hq_put_new (key := txtN x.inn) (HD7.out.inn.below x6) (inE_key HPP.out.1) HLI.out (f : Int) HLX.out z6).mono ?_
    rintro e W8 ⟨b1', rfl, q8, -, k8, e8⟩
    have HQ8 := Lib.hid (show _ ∧ _ from (HD7.out.below x6).tin q8 k8 e8)
    have hF8 := (FB.of_below x6 HZ7.out).trans HQ8.out.2
    have hKT := (KT.of_below x6).trans k8
    clear q8 e8
    show K _ _
    refine hK.out _ _ hKT (fun hS => ?_)
    clear hK K
    try go_frame
    refine wpAnyH_done (by kernel_rfl) ?_ _
    have HD8 := Lib.hid HQ8.out.1
    have HF8 := Lib.hid (HF7.out.trans hF8)
    have HZ8 : Hid (B0 ≤ W8.heap.size) := Lib.hid (Nat.le_trans HBW.out HF8.out.size)
    have HT8 := Lib.hid (HT4.out.step HF8.out.b)
    have HBOX8 := Lib.hid (hF8.heap HBOX7.out t4_no.1)
    have hbt := kt_apart HD8.out.out HBOX8.out (nat_ne (by kernel_rfl)) (nat_ne (by kernel_rfl))
    have hdt := kt_apart HD8.out.out HD8.out.obj (nat_ne (by kernel_rfl)) (nat_ne (by kernel_rfl))
    have HC2 : Hid (∀ U, KT t2 b2 W8 U → U.cell? ⟨d, 2, none⟩ = some (.pointer (some ⟨t2, 0, none⟩))) := Lib.hid (fun U hU => (World.cell?_of_block (hU.block d (heap_lt HD8.out.obj) hdt)).trans HD8.out.c2)
    have HBO : Hid (∀ U, KT t2 b2 W8 U → U.rangeAt w.heap.size 4 (clI x.out)) := Lib.hid (fun U hU => box_out ((hU.block w.heap.size (heap_lt HBOX8.out) hbt).trans HBOX8.out))
    clear hbt hdt hF8 hKT hS
    go_upto_region 12 with fail
    refine wp_region_held_drew (S := fun w' => KT t2 b2 W8 w') (by kernel_rfl) (KT.of_below (Below.refl W8.heap.size W8).drew) (fun hS => ?_)
    refine held_pure (i := 0) (oi := ⟨some 61, _, _, _, _, _⟩) rfl (by kernel_rfl) (by kernel_rfl) (by kernel_rfl) (fun _ _ _ h => h) (by rfl) (v := ?_) (fun w hSw => ?_) hS (fun hS => ?_)
    rotate_left
    · go_simp; try with_reducible rfl
    try go_frame
    refine held_pure (i := 1) (oi := ⟨some 62, _, _, _, _, _⟩) rfl (by kernel_rfl) (by kernel_rfl) (by kernel_rfl) (fun _ _ _ h => h) (by rfl) (v := ?_) (fun w hSw => ?_) hS (fun hS => ?_)
    rotate_left
    · go_simp; try with_reducible rfl
    try go_frame
    refine held_pure (i := 2) (oi := ⟨some 63, _, _, _, _, _⟩) rfl (by kernel_rfl) (by kernel_rfl) (by kernel_rfl) (fun _ _ _ h => h) (by rfl) (v := ?_) (fun w hSw => ?_) hS (fun hS => ?_)
    rotate_left
    · go_simp; try with_reducible rfl
    try go_frame
    refine held_pure (i := 3) (oi := ⟨some 64, _, _, _, _, _⟩) rfl (by kernel_rfl) (by kernel_rfl) (by kernel_rfl) (fun _ _ _ h => h) (by rfl) (fun w hSw => run_load_pdb rfl rfl (HC2.out _ hSw)) hS (fun hS => ?_)
    try go_frame
    refine held_pure (i := 4) (oi := ⟨some 65, _, _, _, _, _⟩) rfl (by kernel_rfl) (by kernel_rfl) (by kernel_rfl) (fun _ _ _ h => h) (by rfl) (v := ?_) (fun w hSw => ?_) hS (fun hS => ?_)
    rotate_left
    · go_simp; try with_reducible rfl
    try go_frame
    refine held_pure (i := 5) (oi := ⟨some 66, _, _, _, _, _⟩) rfl (by kernel_rfl) (by kernel_rfl) (by kernel_rfl) (fun _ _ _ h => h) (by rfl) (fun w hSw => run_load_out rfl rfl (HBO.out _ hSw)) hS (fun hS => ?_)
    try go_frame
    refine held_pure (i := 7) (oi := ⟨some 68, _, _, _, _, _⟩) rfl (by kernel_rfl) (by kernel_rfl) (by kernel_rfl) (fun _ _ _ h => h) (by rfl) (v := ?_) (fun w hSw => ?_) hS (fun hS => ?_)
    rotate_left
    · go_simp; try with_reducible rfl
    try go_frame
    refine wpAnyH_ready (rs := [6]) (by kernel_rfl) (by simp) (AllReadyH.cons (o := ⟨some 67, _, _, _, _, _⟩) rfl (fun K hK => ?_) AllReadyH.nil)
    rw [if_pos (by rfl)]
    go_simp
    refine (bouter x W8.drew HF.out (HT8.out.here.step (Below.refl W8.heap.size W8).drew)).mono ?_
    rintro e w5 ⟨rfl, x5⟩
    have x6 : Below W8.heap.size W8 w5 := (Below.refl W8.heap.size W8).drew.trans x5
    have z6 := Nat.le_trans HZ8.out x6.size
    show K _ _
    refine hK.out _ _ (KT.of_below x6) (fun hS => ?_)
    clear hK K
    try go_frame
    refine wpAnyH_ready (rs := [8]) (by kernel_rfl) (by simp) (AllReadyH.cons (o := ⟨some 69, _, _, _, _, _⟩) rfl (fun K hK => ?_) AllReadyH.nil)
    rw [if_pos (by rfl)]
    go_simp
    refine (hq_put_new (key := txtN x.out) (HD8.out.out.below x6) (ouE_key HPP.out.2.1) HLO.out (f : Int) HLY.out z6).mono ?_
    rintro e W9 ⟨b2', rfl, q9, -, k9, e9⟩
    have HQ9 := Lib.hid (show _ ∧ _ from (HD8.out.below x6).tout q9 k9 e9)
    have hF9 := (FB.of_below x6 HZ8.out).trans HQ9.out.2
    have hKT := (KT.of_below x6).trans k9
    clear q9 e9
    show K _ _
    refine hK.out _ _ hKT (fun hS => ?_)
    clear hK K
    try go_frame
    refine wpAnyH_done (by kernel_rfl) ?_ _
    have HD9 := Lib.hid HQ9.out.1
    have HF9 := Lib.hid (HF4.out.trans (HF8.out.trans hF9))
    clear hF9 hKT hS
    obtain ⟨PS, hPS⟩ : ∃ PS, PS = putS S f x := ⟨_, rfl⟩
    rw [HPE.out, ← hPS] at HD9
    have HPS := Lib.hid hPS
    have HNF : Hid (f ≤ S.length) := Lib.hid HPU.out.2.2.2.1.le
    have HPL : Hid ((PS.length : Int) ≤ 4096) := Lib.hid (by have h1 := HPP.out.2.2.2.2.2; have h2 := HPU.out.1; rw [hPS]; omega)
    have HTK : Hid (∀ j, j < f → ∃ y, PS[j]? = some (some y)) := Lib.hid (fun j hj => by obtain ⟨y, hy⟩ := HPU.out.2.2.2.1.all j hj; exact ⟨y, by rw [hPS, putS_at HNF.out, if_neg (by omega)]; exact hy⟩)
    have HFL : Hid (f ≤ PS.length) := Lib.hid (by rw [hPS, putS_len]; have h1 := HNF.out; split <;> omega)
    clear hPS
    go_wp2_with fail
    go_loopw [74] (fun _ wr => ∃ k : Nat, k ≤ PS.length ∧ Hid (Dm wr B0 d t1 b1' t2 b2' (some ⟨gs, 0, none⟩) c most PS k (⟨txtN x.inn, (f : Int)⟩ :: inE (docB 0 S)) (⟨txtN x.out, (f : Int)⟩ :: ouE (docB 0 S))) ∧ Hid (∀ j, j < k → ∃ y, PS[j]? = some (some y)) ∧ Hid (FB B0 w wr))
      (fun _ wr => PS.length - (intOf ((wr.cell? ⟨d, 4, none⟩).getD undef)).toNat)
    case atStart => exact ⟨f, HFL.out, HD9, HTK, HF9⟩
    case round =>
      obtain ⟨k, hk, HDk, HAk, HFk⟩ := hrel
      have kc4 := HDk.out.c4
      have kf4 := HDk.out.fr 4
      by_cases htk : (takB PS (k : Int)).isSome = true
      · have HTQ := Lib.hid htk
        obtain ⟨y, hy⟩ : ∃ y, PS[k]? = some (some y) := tak_some htk
        have hkl : k < PS.length := (List.getElem?_eq_some_iff.1 hy).1
        have hk9 := HPL.out
        have hw9 : IntKind.i64.wrap ((k : Int) + 1) = (k : Int) + 1 := IntWalk.i64_in _ (by omega)
        have HSET := Lib.hid (HDk.out.seti (f' := k + 1))
        have HY := Lib.hid hy
        clear htk hy hk9
        go_wp2_with (go_at_call 28; refine (btakenR HDk.out.c0 HDk.out.rds (k : Int)).mono ?_; rintro e u1 ⟨rfl, rfl⟩; rw [HTQ.out])
        go_roundw
        case rel => exact ⟨k + 1, by omega, HSET.1, Lib.hid (fun j hj => by by_cases hjk : j = k; exact ⟨y, by rw [hjk]; exact HY.out⟩; exact HAk.out j (by omega)), Lib.hid (HFk.out.trans HSET.out.2)⟩
        case measure =>
          have e2 : (wr.setCell ⟨d, 4, none⟩ (.int .i64 ((k : Int) + 1))).cell? ⟨d, 4, none⟩ = some (.int .i64 ((k : Int) + 1)) := HSET.out.1.c4
          rw [e2, kc4]; simp [intOf]; omega
      · have HTQ := Lib.hid (Bool.eq_false_iff.2 htk)
        have HFR : Hid (FreeB PS k) := Lib.hid ⟨hk, HAk.out, fun y hy => htk (tak_of hy)⟩
        clear htk
        go_wp2_with (go_at_call 28; refine (btakenR HDk.out.c0 HDk.out.rds (k : Int)).mono ?_; rintro e u1 ⟨rfl, rfl⟩; rw [HTQ.out])
        refine bodyPost_ret (results_tmp2 rfl _ _ _) rfl ⟨rfl, b1', b2', some ⟨gs, 0, none⟩, c, k, ?_, HFk.out⟩
        have hpp := HPU.out.2.2.2.1.pput x
        rw [← HPS.out]
        refine Db.of HDk.out ?_ ?_ HFR.out ?_ ?_ ?_ HPU.out.1 ?_
        · rw [HPS.out]; exact (hpp.map (fun e : Nat × Bd => (⟨txtN e.2.inn, (e.1 : Int)⟩ : Ent))).symm
        · rw [HPS.out]; exact (hpp.map (fun e : Nat × Bd => (⟨txtN e.2.out, (e.1 : Int)⟩ : Ent))).symm
        · rw [HPS.out]; exact HPP.out.2.2.1
        · rw [HPS.out]; exact HPP.out.2.2.2.1
        · rw [HPS.out]; exact HPP.out.2.2.2.2.1
        · rw [HPS.out]; exact HPP.out.2.2.2.2.2
end
end Go.Proofs.YtafidbjaeopciaaDoor

/-
  New, Get, Remove of layer 22's code. Conditions are each theorem's own.
-/
namespace Go.Proofs.YtafidbjaeopciaaDoor
open Go.RowKit Go.Shelf
def bd0 : Bd := ⟨0, 0, 0, 0, 0, 0, 0, false⟩
theorem clBd_one (x : Bd) : (clBd x).toArray.all (·.oneCell') = true := by simp [clBd, Value.oneCell']
set_option maxRecDepth 100000 in
theorem bd_store_new {ops : Array Oper} {rest : List Oper} {x y : Operand} {ty : TypeId} {pos : String} {af : Array Edge} {a : Act} {w : World} {Q : Exit → Act → World → Prop}
    {t : TypeId} {cs old : Array Value} (hx : a.eval x = .pointer (some ⟨w.heap.size, 0, none⟩)) (hy : a.eval y = .agg cs) (ho : old.size = 8) (hl : cs.size = 8) (h1 : cs.all (·.oneCell') = true)
    (h : wpList Tryd.prog ops Q rest (a.put none undef) (w.alloc (.cells cs t))) : wpList Tryd.prog ops Q (⟨none, .store 36 x y, ty, pos, af, none⟩ :: rest) a (w.alloc (.cells old t)) :=
  wpList_plain rfl fun _ hK => wp_store_row 36 x y rfl w.heap.size cs hx hy t old (World.alloc_heap_new w _) (by rw [hl]; kernel_rfl) (by rw [ho, hl]) h1 (by rw [World.setRow_alloc_new]; exact hK _ _ h)
set_option maxRecDepth 100000 in
theorem bd_result2 {fn : Func} {p q : Tmp} {tmps : Array Value} {w : World} {g : Nat} {t : TypeId} {cs : Array Value} {fr : Nat × Nat} (h : fn.results = #[.cell p 36, .tmp q])
    (hp : tmps.getD p undef = .pointer (some ⟨g, 0, none⟩)) (hg : w.heap[g]? = some (.cells cs t fr)) (hl : cs.size = 8) :
    (results fn tmps).run Tryd.prog w = .ok (.tuple #[.agg cs, tmps.getD q undef]) w := by
  have hp' : tmps[p]?.getD undef = .pointer (some ⟨g, 0, none⟩) := by simpa using hp
  have hr := run_loadVar_row (P := Tryd.prog) w g t 36 cs fr _ hg Tryd.underlying36 rfl (by rw [hl]; kernel_rfl)
  simp [results, h, hp', asAddr, hr]
section
variable {w w' : World} {B0 d t1 b1 t2 b2 : Nat} {A : Option Addr} {c : Nat} {most : Int} {S : List (Option Bd)} {f : Nat}
set_option maxRecDepth 100000 in
theorem bget (h : Db w B0 d t1 b1 t2 b2 A c most S f) (i : Int) : Calls Tryd.prog 13 #[.pointer (some ⟨d, 0, none⟩), .int .i64 i] w fun e w' =>
    e = .returned (.tuple #[bdV ((takB S i).getD bd0), .bool (takB S i).isSome]) ∧ Below w.heap.size w w' := by
  have b1' := (Below.refl w.heap.size w).alloc (Nat.le_refl _) (.cells (clBd bd0).toArray 36)
  have HK := Lib.hid (h.below b1')
  have HTK : Hid (∃ B, B = (takB S i).isSome) := Lib.hid ⟨_, rfl⟩
  cases htk : takB S i with
  | none =>
    have HQ := Lib.hid (show (takB S i).isSome = false by rw [htk]; rfl)
    have HB := Lib.hid b1'
    clear h b1' htk
    go_enter Tryd.func13, Tryd.ntmps13
    go_wp2_with (first
      | ((with_reducible show wpList _ _ _ (Oper.mk _ (Op.store 36 _ _) _ _ _ _ :: _) _ _); refine bd_store_new (cs := (clBd bd0).toArray) rfl rfl rfl rfl (clBd_one _) ?_)
      | (go_at_call 23; refine (bmade HK.out).mono ?_; rintro e w1 ⟨rfl, rfl⟩)
      | (go_at_call 28; refine (btaken HK.out i).mono ?_; rintro e w1 ⟨rfl, rfl⟩; rw [HQ.out]))
    exact bodyPost_ret (bd_result2 rfl rfl (World.alloc_heap_new w _) rfl) rfl ⟨rfl, (Below.refl _ w).alloc (Nat.le_refl _) _⟩
  | some x =>
    have HQ := Lib.hid (show (takB S i).isSome = true by rw [htk]; rfl)
    obtain ⟨k, rfl, hk⟩ : ∃ k : Nat, i = (k : Int) ∧ S[k]? = some (some x) := by
      unfold takB at htk
      split at htk
      · cases htk
      · refine ⟨i.toNat, by omega, ?_⟩
        cases hg : S[i.toNat]? with
        | none => rw [hg] at htk; cases htk
        | some o => rw [hg] at htk; simp at htk; rw [htk]
    obtain ⟨g, q, rfl, hg, hr⟩ := HK.out.at_ hk
    have hr2 : (w.alloc (.cells (clBd bd0).toArray 36)).rangeAt g (q + k * 9) (clBd x) := fun j v hj => hr j v (by show (clBd x ++ [.bool true])[j]? = some v; rw [List.getElem?_append_left (List.getElem?_eq_some_iff.1 hj).1]; exact hj)
    have k0 := HK.out.c0
    obtain ⟨n, hn⟩ : ∃ n, n = S.length := ⟨_, rfl⟩
    rw [← hn] at k0
    have hkn : k < n := by rw [hn]; exact (List.getElem?_eq_some_iff.1 hk).1
    clear h b1' htk hn hk hr
    go_enter Tryd.func13, Tryd.ntmps13
    go_wp2_with (first
      | ((with_reducible show wpList _ _ _ (Oper.mk _ (Op.load 36 _) _ _ _ _ :: _) _ _); refine wpList_val rfl (run_load_bd rfl rfl hr2) ?_)
      | ((with_reducible show wpList _ _ _ (Oper.mk _ (Op.store 36 _ _) _ _ _ _ :: _) _ _); refine bd_store_new (cs := (clBd x).toArray) rfl rfl rfl rfl (clBd_one _) ?_)
      | (go_at_call 23; refine (bmade HK.out).mono ?_; rintro e w1 ⟨rfl, rfl⟩)
      | (go_at_call 28; refine (btaken HK.out (k : Int)).mono ?_; rintro e w1 ⟨rfl, rfl⟩; rw [HQ.out]))
    exact bodyPost_ret (bd_result2 rfl rfl (World.alloc_heap_new w _) rfl) rfl ⟨rfl, (Below.refl _ w).alloc (Nat.le_refl _) _⟩
end
set_option maxRecDepth 100000 in
theorem bnew_bad (most : Int) (w : World) (h : ¬ (0 ≤ most ∧ most ≤ 4096)) : Calls Tryd.prog 7 #[.int .i64 most] w fun e w' => e = .returned (.tuple #[.pointer none, .int .i64 1]) ∧ w = w' := by
  by_cases h1 : most < 0
  · have d1 : decide (most < 0) = true := decide_eq_true h1
    clear h h1
    go_enter Tryd.func7, Tryd.ntmps7
    go_wp2_with fail
    exact bodyPost_ret (results_tmp2 rfl _ _ _) rfl ⟨rfl, rfl⟩
  · have d1 : decide (most < 0) = false := decide_eq_false h1
    have d2 : decide (most > 4096) = true := decide_eq_true (by omega)
    have d3 : decide (4096 < most) = true := d2
    clear h h1
    go_enter Tryd.func7, Tryd.ntmps7
    go_wp2_with fail
    exact bodyPost_ret (results_tmp2 rfl _ _ _) rfl ⟨rfl, rfl⟩
/-- Bindings that New made lie at block d, and all that they own at B0 or behind it. -/
def DbE (w : World) (B0 d t1 t2 : Nat) (most : Int) (S : List (Option Bd)) : Prop := ∃ b1 b2 A c f, Db w B0 d t1 b1 t2 b2 A c most S f
set_option maxRecDepth 100000 in
theorem bnew_ok (most : Int) (w : World) (h0 : 0 ≤ most) (h1 : most ≤ 4096) (B0 : Nat) (hB : B0 ≤ w.heap.size) : Calls Tryd.prog 7 #[.int .i64 most] w fun e w' =>
    ∃ d t1 t2, e = .returned (.tuple #[.pointer (some ⟨d, 0, none⟩), .int .i64 0]) ∧ DbE w' B0 d t1 t2 most [] ∧ Below w.heap.size w w' ∧ w.heap.size ≤ d ∧ d < w'.heap.size := by
  have d1 : decide (most < 0) = false := decide_eq_false (by omega)
  have d2 : decide (most > 4096) = false := decide_eq_false (by omega)
  have d3 : decide (4096 < most) = false := d2
  go_enter Tryd.func7, Tryd.ntmps7
  go_upto_region 6 with (go_at_call 22; refine (hq_new most w h0 (by omega) B0 hB).mono ?_; rintro e w1 ⟨rfl, q1, x1⟩)
  have hz1 := x1.size
  go_upto_region 9 with (go_at_call 22; refine (hq_new most w1 h0 (by omega) B0 (Nat.le_trans hB hz1)).mono ?_; rintro e w2 ⟨rfl, q2, x2⟩)
  have q1' := q1.below x2
  have l1 := q1.lt
  have hz2 := x2.size
  have bb := x1.trans (x2.mono x1.size)
  go_wp2_with fail
  refine bodyPost_ret (results_tmp2 rfl _ _ _) rfl ⟨w2.heap.size, w.heap.size + 1, w1.heap.size + 1, rfl, ⟨w.heap.size, w1.heap.size, none, 0, 0, ?_⟩, bb.alloc bb.size _, bb.size, by simp⟩
  have bA := (Below.refl w2.heap.size w2).alloc (Nat.le_refl _) (.cells #[.slice none 0 0, .pointer (some ⟨w.heap.size + 1, 0, none⟩), .pointer (some ⟨w1.heap.size + 1, 0, none⟩), .int .i64 most, .int .i64 0] 59)
  exact ⟨World.alloc_heap_new w2 _, World.ownsRow_nil _ _ _ _, q1'.below bA, q2.below bA, ⟨Nat.zero_le _, fun j hj => absurd hj (Nat.not_lt_zero _), fun x hx => (by simp at hx)⟩, (fun e he => by cases he), List.Pairwise.nil, List.Pairwise.nil, ⟨h0, h1⟩, by simpa using h0, by omega, by omega, by omega⟩
section
variable {w w' : World} {B0 d t1 b1 t2 b2 : Nat} {A : Option Addr} {c : Nat} {most : Int} {S : List (Option Bd)} {f : Nat}
set_option maxRecDepth 100000 in
theorem bremove_no (h : Db w B0 d t1 b1 t2 b2 A c most S f) (i : Int) (hn : takB S i = none) : Calls Tryd.prog 11 #[.pointer (some ⟨d, 0, none⟩), .int .i64 i] w fun e w' => e = .returned (.bool false) ∧ w = w' := by
  have HK := Lib.hid h
  have HQ := Lib.hid (show (takB S i).isSome = false by rw [hn]; rfl)
  clear h hn
  go_enter Tryd.func11, Tryd.ntmps11
  go_wp2_with (first
    | (go_at_call 23; refine (bmade HK.out).mono ?_; rintro e w1 ⟨rfl, rfl⟩)
    | (go_at_call 28; refine (btaken HK.out i).mono ?_; rintro e w1 ⟨rfl, rfl⟩; rw [HQ.out]))
  go_ret
  exact ⟨rfl, rfl⟩
set_option maxRecDepth 100000 in
set_option maxHeartbeats 4000000 in
theorem bremove_yes (h : Db w B0 d t1 b1 t2 b2 A c most S f) (hTB : TB0 B0 w) {k : Nat} {x : Bd} (hk : S[k]? = some (some x)) : Calls Tryd.prog 11 #[.pointer (some ⟨d, 0, none⟩), .int .i64 (k : Int)] w fun e w' =>
    e = .returned (.bool true) ∧ AddB w B0 d t1 t2 most (S.set k none) w' := by
  have HK := Lib.hid h
  have HM := Lib.hid h.dm
  have HQ : Hid ((takB S (k : Int)).isSome = true) := Lib.hid (tak_of hk)
  have hkl : k < S.length := (List.getElem?_eq_some_iff.1 hk).1
  have hm : (k, x) ∈ docB 0 S := docB_mem.2 ⟨Nat.zero_le _, by simpa using hk⟩
  have HF : Hid x.fits := Lib.hid (h.fit _ hm)
  have hpl := docB_pull hk
  have HPI : Hid ((inE (docB 0 S)).Perm (⟨txtN x.inn, (k : Int)⟩ :: inE (docB 0 (S.set k none)))) := Lib.hid (hpl.1.map (fun e : Nat × Bd => (⟨txtN e.2.inn, (e.1 : Int)⟩ : Ent)))
  have HPO : Hid ((ouE (docB 0 S)).Perm (⟨txtN x.out, (k : Int)⟩ :: ouE (docB 0 (S.set k none)))) := Lib.hid (hpl.1.map (fun e : Nat × Bd => (⟨txtN e.2.out, (e.1 : Int)⟩ : Ent)))
  have HPL := Lib.hid hpl
  have HFR := Lib.hid (h.free.pull hk)
  have HLX : Hid ((txtN x.inn).length ≤ 1000000) := Lib.hid (by have h7 := txtN_len HF.out.inn; have e7 : x.inn.length ≤ 4 := (by simp [Bd.inn]); omega)
  have HLY : Hid ((txtN x.out).length ≤ 1000000) := Lib.hid (by have h7 := txtN_len HF.out.out; have e7 : x.out.length ≤ 4 := (by simp [Bd.out]); omega)
  have HZ : Hid (B0 ≤ w.heap.size) := Lib.hid (Nat.le_trans h.z (Nat.le_of_lt (heap_lt h.obj)))
  have HTB := Lib.hid hTB
  have k0 := h.c0
  obtain ⟨n, hn⟩ : ∃ n, n = S.length := ⟨_, rfl⟩
  rw [← hn] at k0
  have hkn : k < n := by rw [hn]; exact hkl
  have HKL := Lib.hid hkl
  obtain ⟨gs, hgs, _, _, _, _, hdg, cur, hcur⟩ := h.dm.slot hkl none
  subst hgs
  have hro : w.rangeAt gs (k * 9) (clSl (some x)) := by
    obtain ⟨g', q', e', _, hr⟩ := h.at_ hk
    injection e' with e1
    injection e1 with e2 e3 _
    subst e2; subst e3
    rwa [Nat.zero_add] at hr
  have HRO := Lib.hid hro
  have HCU := Lib.hid hcur
  have hdt := kt_apart h.inn h.obj (nat_ne (by kernel_rfl)) (nat_ne (by kernel_rfl))
  have hgt := kt_apart h.inn hcur (nat_ne (by kernel_rfl)) (nat_ne (by kernel_rfl))
  have HC1 : Hid (∀ U, KT t1 b1 w U → U.cell? ⟨d, 1, none⟩ = some (.pointer (some ⟨t1, 0, none⟩))) := Lib.hid (fun U hU => (World.cell?_of_block (hU.block d (heap_lt HM.out.obj) hdt)).trans HM.out.c1)
  have HBI : Hid (∀ U, KT t1 b1 w U → U.rangeAt gs (k * 9) (clI x.inn)) := Lib.hid (fun U hU j v hj => (World.cell?_of_block (hU.block gs (heap_lt HCU.out) hgt)).trans (HRO.out j v (by
    match j, hj with
    | 0, h => exact h
    | 1, h => exact h
    | 2, h => exact h
    | 3, h => exact h)))
  clear h hTB hk hm hpl hn hkl hro hcur hdt hgt
  go_enter Tryd.func11, Tryd.ntmps11
  go_upto_region 4 with (first
    | (go_at_call 23; refine (bmade HK.out).mono ?_; rintro e w1 ⟨rfl, rfl⟩)
    | (go_at_call 28; refine (btaken HK.out (k : Int)).mono ?_; rintro e w1 ⟨rfl, rfl⟩; rw [HQ.out]))
  refine wp_region_held_drew (S := fun w' => KT t1 b1 w w') (by kernel_rfl) (KT.of_below (Below.refl w.heap.size w).drew) (fun hS => ?_)
  refine held_pure (i := 0) (oi := ⟨some 21, _, _, _, _, _⟩) rfl (by kernel_rfl) (by kernel_rfl) (by kernel_rfl) (fun _ _ _ h => h) (by rfl) (v := ?_) (fun w hSw => ?_) hS (fun hS => ?_)
  rotate_left
  · go_simp; try with_reducible rfl
  try go_frame
  refine held_pure (i := 1) (oi := ⟨some 22, _, _, _, _, _⟩) rfl (by kernel_rfl) (by kernel_rfl) (by kernel_rfl) (fun _ _ _ h => h) (by rfl) (v := ?_) (fun w hSw => ?_) hS (fun hS => ?_)
  rotate_left
  · go_simp; try with_reducible rfl
  try go_frame
  refine held_pure (i := 2) (oi := ⟨some 23, _, _, _, _, _⟩) rfl (by kernel_rfl) (by kernel_rfl) (by kernel_rfl) (fun _ _ _ h => h) (by rfl) (v := ?_) (fun w hSw => ?_) hS (fun hS => ?_)
  rotate_left
  · go_simp; try with_reducible rfl
  try go_frame
  refine held_pure (i := 3) (oi := ⟨some 24, _, _, _, _, _⟩) rfl (by kernel_rfl) (by kernel_rfl) (by kernel_rfl) (fun _ _ _ h => h) (by rfl) (fun w hSw => run_load_pdb rfl rfl (HC1.out _ hSw)) hS (fun hS => ?_)
  try go_frame
  refine held_pure (i := 4) (oi := ⟨some 25, _, _, _, _, _⟩) rfl (by kernel_rfl) (by kernel_rfl) (by kernel_rfl) (fun _ _ _ h => h) (by rfl) (v := ?_) (fun w hSw => ?_) hS (fun hS => ?_)
  rotate_left
  · go_simp; try with_reducible rfl
  try go_frame
  refine held_pure (i := 5) (oi := ⟨some 26, _, _, _, _, _⟩) rfl (by kernel_rfl) (by kernel_rfl) (by kernel_rfl) (fun _ _ _ h => h) (by rfl) (v := ?_) (fun w hSw => ?_) hS (fun hS => ?_)
  rotate_left
  · go_simp; try with_reducible rfl
  try go_frame
  refine held_pure (i := 6) (oi := ⟨some 27, _, _, _, _, _⟩) rfl (by kernel_rfl) (by kernel_rfl) (by kernel_rfl) (fun _ _ _ h => h) (by rfl) (v := ?_) (fun w hSw => ?_) hS (fun hS => ?_)
  rotate_left
  · go_simp; try with_reducible rfl
  try go_frame
  refine held_pure (i := 7) (oi := ⟨some 28, _, _, _, _, _⟩) rfl (by kernel_rfl) (by kernel_rfl) (by kernel_rfl) (fun _ _ _ h => h) (by rfl) (v := ?_) (fun w hSw => ?_) hS (fun hS => ?_)
  rotate_left
  · go_simp; try with_reducible rfl
  try go_frame
  refine held_pure (i := 8) (oi := ⟨some 29, _, _, _, _, _⟩) rfl (by kernel_rfl) (by kernel_rfl) (by kernel_rfl) (fun _ _ _ h => h) (by rfl) (fun w hSw => run_load_inn rfl rfl (HBI.out _ hSw)) hS (fun hS => ?_)
  try go_frame
  refine wpAnyH_ready (rs := [9]) (by kernel_rfl) (by simp) (AllReadyH.cons (o := ⟨some 30, _, _, _, _, _⟩) rfl (fun K hK => ?_) AllReadyH.nil)
  rw [if_pos (by rfl)]
  go_simp
  refine (binner x w.drew HF.out (HTB.out.here.step (Below.refl w.heap.size w).drew)).mono ?_
  rintro e w5 ⟨rfl, x5⟩
  have x6 : Below w.heap.size w w5 := (Below.refl w.heap.size w).drew.trans x5
  have z6 := Nat.le_trans HZ.out x6.size
  show K _ _
  refine hK.out _ _ (KT.of_below x6) (fun hS => ?_)
  clear hK K
  try go_frame
  refine wpAnyH_ready (rs := [10]) (by kernel_rfl) (by simp) (AllReadyH.cons (o := ⟨some 31, _, _, _, _, _⟩) rfl (fun K hK => ?_) AllReadyH.nil)
  rw [if_pos (by rfl)]
  go_simp
  refine (hq_del_yes (x := ⟨txtN x.inn, (k : Int)⟩) (HM.out.inn.below x6) HPI.out HLX.out z6).mono ?_
  rintro e W1 ⟨rfl, q8, -, k8⟩
  have HQ8 := Lib.hid (show _ ∧ _ from (HM.out.below x6).tin q8 k8 (.inl rfl))
  have hF8 := (FB.of_below x6 HZ.out).trans HQ8.out.2
  have hKT := (KT.of_below x6).trans k8
  clear q8
  show K _ _
  refine hK.out _ _ hKT (fun hS => ?_)
  clear hK K
  try go_frame
  refine wpAnyH_done (by kernel_rfl) ?_ _
  have HM1 := Lib.hid HQ8.out.1
  have HF1 := Lib.hid hF8
  have HZ1 : Hid (B0 ≤ W1.heap.size) := Lib.hid (Nat.le_trans HZ.out hF8.size)
  have HT1 := Lib.hid (HTB.out.step hF8.b)
  obtain ⟨gs', hgs', hth1, hdm1, hfb1, hk1, hdg1, cur1, hcur1⟩ := HM1.out.slot HKL.out none
  obtain rfl : gs = gs' := by injection hgs' with e1; injection e1
  have HCU1 := Lib.hid hcur1
  have hdt := kt_apart HM1.out.out HM1.out.obj (nat_ne (by kernel_rfl)) (nat_ne (by kernel_rfl))
  have hgt := kt_apart HM1.out.out hcur1 (nat_ne (by kernel_rfl)) (nat_ne (by kernel_rfl))
  have hro1 : W1.rangeAt gs (k * 9 + 4) (clI x.out) := fun j v hj => (World.cell?_of_block (hKT.block gs (heap_lt HCU.out) (kt_apart HM.out.inn HCU.out (nat_ne (by kernel_rfl)) (nat_ne (by kernel_rfl))))).trans (by
    have h9 := HRO.out (4 + j) v (by
      match j, hj with
      | 0, h => exact h
      | 1, h => exact h
      | 2, h => exact h)
    rwa [show k * 9 + (4 + j) = k * 9 + 4 + j from by omega] at h9)
  have HC2 : Hid (∀ U, KT t2 b2 W1 U → U.cell? ⟨d, 2, none⟩ = some (.pointer (some ⟨t2, 0, none⟩))) := Lib.hid (fun U hU => (World.cell?_of_block (hU.block d (heap_lt HM1.out.obj) hdt)).trans HM1.out.c2)
  have HBO : Hid (∀ U, KT t2 b2 W1 U → U.rangeAt gs (k * 9 + 4) (clI x.out)) := Lib.hid (fun U hU j v hj => (World.cell?_of_block (hU.block gs (heap_lt HCU1.out) hgt)).trans (hro1 j v hj))
  clear hF8 hKT hS hgs' hth1 hdm1 hfb1 hk1 hcur1 hdt hgt k0
  go_upto_region 5 with fail
  refine wp_region_held_drew (S := fun w' => KT t2 b2 W1 w') (by kernel_rfl) (KT.of_below (Below.refl W1.heap.size W1).drew) (fun hS => ?_)
  refine held_pure (i := 0) (oi := ⟨some 32, _, _, _, _, _⟩) rfl (by kernel_rfl) (by kernel_rfl) (by kernel_rfl) (fun _ _ _ h => h) (by rfl) (v := ?_) (fun w hSw => ?_) hS (fun hS => ?_)
  rotate_left
  · go_simp; try with_reducible rfl
  try go_frame
  refine held_pure (i := 1) (oi := ⟨some 33, _, _, _, _, _⟩) rfl (by kernel_rfl) (by kernel_rfl) (by kernel_rfl) (fun _ _ _ h => h) (by rfl) (v := ?_) (fun w hSw => ?_) hS (fun hS => ?_)
  rotate_left
  · go_simp; try with_reducible rfl
  try go_frame
  refine held_pure (i := 2) (oi := ⟨some 34, _, _, _, _, _⟩) rfl (by kernel_rfl) (by kernel_rfl) (by kernel_rfl) (fun _ _ _ h => h) (by rfl) (v := ?_) (fun w hSw => ?_) hS (fun hS => ?_)
  rotate_left
  · go_simp; try with_reducible rfl
  try go_frame
  refine held_pure (i := 3) (oi := ⟨some 35, _, _, _, _, _⟩) rfl (by kernel_rfl) (by kernel_rfl) (by kernel_rfl) (fun _ _ _ h => h) (by rfl) (fun w hSw => run_load_pdb rfl rfl (HC2.out _ hSw)) hS (fun hS => ?_)
  try go_frame
  refine held_pure (i := 4) (oi := ⟨some 36, _, _, _, _, _⟩) rfl (by kernel_rfl) (by kernel_rfl) (by kernel_rfl) (fun _ _ _ h => h) (by rfl) (v := ?_) (fun w hSw => ?_) hS (fun hS => ?_)
  rotate_left
  · go_simp; try with_reducible rfl
  try go_frame
  refine held_pure (i := 5) (oi := ⟨some 37, _, _, _, _, _⟩) rfl (by kernel_rfl) (by kernel_rfl) (by kernel_rfl) (fun _ _ _ h => h) (by rfl) (v := ?_) (fun w hSw => ?_) hS (fun hS => ?_)
  rotate_left
  · go_simp; try with_reducible rfl
  try go_frame
  refine held_pure (i := 6) (oi := ⟨some 38, _, _, _, _, _⟩) rfl (by kernel_rfl) (by kernel_rfl) (by kernel_rfl) (fun _ _ _ h => h) (by rfl) (v := ?_) (fun w hSw => ?_) hS (fun hS => ?_)
  rotate_left
  · go_simp; try with_reducible rfl
  try go_frame
  refine held_pure (i := 7) (oi := ⟨some 39, _, _, _, _, _⟩) rfl (by kernel_rfl) (by kernel_rfl) (by kernel_rfl) (fun _ _ _ h => h) (by rfl) (v := ?_) (fun w hSw => ?_) hS (fun hS => ?_)
  rotate_left
  · go_simp; try with_reducible rfl
  try go_frame
  refine held_pure (i := 8) (oi := ⟨some 40, _, _, _, _, _⟩) rfl (by kernel_rfl) (by kernel_rfl) (by kernel_rfl) (fun _ _ _ h => h) (by rfl) (fun w hSw => run_load_out rfl rfl (HBO.out _ hSw)) hS (fun hS => ?_)
  try go_frame
  refine wpAnyH_ready (rs := [9]) (by kernel_rfl) (by simp) (AllReadyH.cons (o := ⟨some 41, _, _, _, _, _⟩) rfl (fun K hK => ?_) AllReadyH.nil)
  rw [if_pos (by rfl)]
  go_simp
  refine (bouter x W1.drew HF.out (HT1.out.here.step (Below.refl W1.heap.size W1).drew)).mono ?_
  rintro e w5 ⟨rfl, x5⟩
  have x6 : Below W1.heap.size W1 w5 := (Below.refl W1.heap.size W1).drew.trans x5
  have z6 := Nat.le_trans HZ1.out x6.size
  show K _ _
  refine hK.out _ _ (KT.of_below x6) (fun hS => ?_)
  clear hK K
  try go_frame
  refine wpAnyH_ready (rs := [10]) (by kernel_rfl) (by simp) (AllReadyH.cons (o := ⟨some 42, _, _, _, _, _⟩) rfl (fun K hK => ?_) AllReadyH.nil)
  rw [if_pos (by rfl)]
  go_simp
  refine (hq_del_yes (x := ⟨txtN x.out, (k : Int)⟩) (HM1.out.out.below x6) HPO.out HLY.out z6).mono ?_
  rintro e W2 ⟨rfl, q9, -, k9⟩
  have HQ9 := Lib.hid (show _ ∧ _ from (HM1.out.below x6).tout q9 k9 (.inl rfl))
  have hF9 := (FB.of_below x6 HZ1.out).trans HQ9.out.2
  have hKT := (KT.of_below x6).trans k9
  clear q9
  show K _ _
  refine hK.out _ _ hKT (fun hS => ?_)
  clear hK K
  try go_frame
  refine wpAnyH_done (by kernel_rfl) ?_ _
  have HM2 := Lib.hid HQ9.out.1
  have HF2 := Lib.hid (HF1.out.trans hF9)
  obtain ⟨gs', hgs', hth2, hdm2, hfb2, hk2, hdg2, cur2, hcur2⟩ := HM2.out.slot HKL.out none
  obtain rfl : gs = gs' := by injection hgs' with e1; injection e1
  have HTH2 := Lib.hid hth2
  have HM3 := Lib.hid hdm2
  have HF3 := Lib.hid (HF2.out.trans hfb2)
  have kc4 := hdm2.c4
  have kf4 := hdm2.fr 4
  clear hF9 hKT hS hgs' hth2 hdm2 hfb2 hk2 hcur2
  have hmin : ∀ M : Nat, M = min f k → ∀ U, Dm U B0 d t1 b1 t2 b2 (some ⟨gs, 0, none⟩) c most (S.set k none) M (inE (docB 0 (S.set k none))) (ouE (docB 0 (S.set k none))) → FB B0 w U → AddB w B0 d t1 t2 most (S.set k none) U := fun M hM U hU fU => by
    subst hM
    refine ⟨b1, b2, _, c, _, Db.of hU (List.Perm.refl _) (List.Perm.refl _) HFR.out ?_ ?_ ?_ HK.out.mst (by rw [List.length_set]; exact HK.out.n), fU⟩
    · intro e he
      exact HK.out.fit e (HPL.out.1.mem_iff.2 (List.mem_cons_of_mem _ he))
    · exact (List.pairwise_cons.1 (HPL.out.1.pairwise HK.out.ni (fun h => h.symm))).2
    · exact (List.pairwise_cons.1 (HPL.out.1.pairwise HK.out.no (fun h => h.symm))).2
  have HMIN := Lib.hid hmin
  clear hmin
  by_cases hfk : k < f
  · have HS1 := Lib.hid (HM3.out.seti (f' := k))
    have d1 : decide ((k : Int) < (f : Int)) = true := decide_eq_true (by omega)
    have d2 : decide (k < f) = true := decide_eq_true hfk
    have HMK := Lib.hid (show k = min f k by omega)
    have e9 : min (f : Int) (k : Int) = (k : Int) := by omega
    clear hfk
    go_wp2_with (first
      | ((with_reducible show wpList _ _ _ (Oper.mk _ (Op.store 68 _ _) _ _ _ _ :: _) _ _); refine wpList_plain rfl fun _ hK => store_slt_wp (cs := clSl none) rfl rfl rfl HTH2.out rfl (clSl_one _) (hK _ _ ?_)))
    go_ret
    exact ⟨rfl, HMIN.out k HMK.out _ HS1.out.1 (HF3.out.trans HS1.out.2)⟩
  · have HS1 := Lib.hid (HM3.out.seti (f' := f))
    have d1 : decide ((k : Int) < (f : Int)) = false := decide_eq_false (by omega)
    have d2 : decide (k < f) = false := decide_eq_false hfk
    have HMK := Lib.hid (show f = min f k by omega)
    have e9 : min (f : Int) (k : Int) = (f : Int) := by omega
    clear hfk
    go_wp2_with (first
      | ((with_reducible show wpList _ _ _ (Oper.mk _ (Op.store 68 _ _) _ _ _ _ :: _) _ _); refine wpList_plain rfl fun _ hK => store_slt_wp (cs := clSl none) rfl rfl rfl HTH2.out rfl (clSl_one _) (hK _ _ ?_)))
    go_ret
    exact ⟨rfl, HMIN.out f HMK.out _ HS1.out.1 (HF3.out.trans HS1.out.2)⟩
end
end Go.Proofs.YtafidbjaeopciaaDoor
