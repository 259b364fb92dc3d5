/-
  Contracts and lemmas on which the proofs of this seat stand (several texts in one). Conditions are each theorem's own.
-/
import Derived.Test.YtpoigngpdcmipaaNc6
import Derived.Test.YtpoigngpdcmipaaNc5
import Derived.Deep.RegionLaw
import Derived.Lib.SliceRun

/-
  Layer 34: rows of items that grow and are cut; Put of both sides. Conditions are each theorem's own.
-/
namespace Go.Proofs.Ytpoigngpdcmipaa
open Go.RowKit Go.Shelf
theorem clI_flat (l : List IT) : (l.flatMap clI).length = l.length * 3 := flat_len l (fun x _ => clI_len x)
theorem rds_srcI {w : World} {B : Nat} {ad : Addr} {l : List IT} (hr : RdS clI 3 w B (some ad) l) : ∀ j u, (l.flatMap clI)[j]? = some u → w.cell? (ad.add j) = some u := fun j u hj => by
  have hj3 : j < l.length * 3 := by have := (List.getElem?_eq_some_iff.1 hj).1; rwa [clI_flat] at this
  obtain ⟨b, off, e, _, hc⟩ := hr (by omega)
  injection e with e
  subst e
  obtain ⟨y, hy⟩ : ∃ y, l[j / 3]? = some y := ⟨_, List.getElem?_eq_getElem (by omega)⟩
  have h2 : j % 3 < (clI y).length := by rw [clI_len]; omega
  have hf := flat_at (cl := clI) (sz := 3) l (fun x _ => clI_len x) (j / 3) y hy (j % 3) _ (List.getElem?_eq_getElem h2)
  rw [show j / 3 * 3 + j % 3 = j from by omega, hj] at hf
  injection hf with hf
  have h8 := hc (j / 3) y hy (j % 3) _ (List.getElem?_eq_getElem h2)
  rw [← hf, show off + j / 3 * 3 + j % 3 = off + j from by omega] at h8
  rw [add_off]; exact h8
theorem ones_I (l : List IT) : ∀ u ∈ l.flatMap clI, u.oneCell' = true := fun u hu => by
  obtain ⟨y, _, h⟩ := List.mem_flatMap.1 hu
  exact clI_one y u h
def cutI (A : Option Addr) (c k : Nat) : Option Addr := if c = k then A else A.map (·.add (k * 3))
theorem cutI_none {A : Option Addr} {c k : Nat} (h : A = none → c = 0) : cutI A c k = none → c - k = 0 := fun e => by
  unfold cutI at e
  split at e
  · omega
  · cases A with
    | none => have := h rfl; omega
    | some a => cases e
theorem rds_takeI {w : World} {B k : Nat} {A : Option Addr} {l : List IT} (h : RdS clI 3 w B A l) : RdS clI 3 w B A (l.take k) := fun hn => by
  rw [List.length_take] at hn
  obtain ⟨b', off', e, hb, hc⟩ := h (by omega)
  refine ⟨_, _, e, hb, fun j x hx => hc j x ?_⟩
  rw [List.getElem?_take] at hx
  split at hx
  · exact hx
  · cases hx
theorem rds_cutI {w : World} {B k c : Nat} {A : Option Addr} {l : List IT} (h : RdS clI 3 w B A l) (hc : l.length ≤ c) : RdS clI 3 w B (cutI A c k) (l.drop k) := fun hn => by
  rw [List.length_drop] at hn
  obtain ⟨b', off', e, hb, hr⟩ := h (by omega)
  refine ⟨b', off' + k * 3, by rw [cutI, if_neg (by omega), e]; show some (Addr.add ⟨b', off', none⟩ (k * 3)) = _; rw [add_off], hb, fun j x hx => ?_⟩
  rw [List.getElem?_drop] at hx
  have := hr (k + j) x hx
  rwa [show off' + (k + j) * 3 = off' + k * 3 + j * 3 by omega] at this
theorem rds_oneI {w : World} {g : Nat} {y : IT} {t : TypeId} {fr : Nat × Nat} (h : w.heap[g]? = some (.cells (clI y).toArray t fr)) : RdS clI 3 w w.heap.size (some ⟨g, 0, none⟩) [y] := fun _ => by
  refine ⟨_, _, rfl, heap_lt h, fun j x hx => ?_⟩
  have hj : j = 0 := by have := (List.getElem?_eq_some_iff.1 hx).1; simpa using this
  subst hj
  simp only [List.getElem?_cons_zero, Option.some.injEq] at hx
  subst hx
  rw [Nat.zero_mul, Nat.add_zero]
  exact range_heap h
theorem info_itC : (Try.prog.info? 33).map (fun i => (i.zero, i.size, i.bytes)) = some (some (.agg #[.int .i64 0, .bool false, .slice none 0 0]), 3, 40) := by kernel_rfl
theorem slice_itC : Try.prog.underlying 55 = some (.slice (Try.prog.elem 55)) := by kernel_rfl
theorem run_load_itC {o : Oper} {a : Act} {w : World} {x : Operand} {p : Addr} {A : Option Addr} {n c : Nat} (ho : o.op = .load 55 x) (hx : a.eval x = .pointer (some p)) (hc : w.cell? p = some (.slice A n c)) :
    (execOp a.eval o).run Try.prog w = .ok (.value (.slice A n c)) w := by
  unfold execOp
  simp only [ho, hx, Instr.loadAt, Instr.sureAddr, Sem.run_bind, Sem.run_pure, Result.andThen_ok]
  go_simp
theorem run_bs_itC {o : Oper} {a : Act} {w : World} {x : Operand} {cs : Array Value} (ho : o.op = .buildSlice 55 1 #[(0, x)]) (hx : a.eval x = .agg cs) (hl : cs.size = 3) :
    (execOp a.eval o).run Try.prog w = .ok (.value (.slice (some ⟨w.heap.size, 0, none⟩) 1 1)) (w.alloc (.cells cs 33)) := by
  obtain ⟨i0, hi, hz0, hz1, hz2⟩ := info_parts info_itC
  have h := run_lit1 (P := Try.prog) w 55 33 i0 _ cs 3 Try.underlying55 hi hz0 hz1 hl (by decide) (by decide)
  unfold execOp
  simp only [ho, List.map_toArray, List.map_cons, List.map_nil, hx, Sem.run_bind, h, Result.andThen_ok]
  rfl
theorem run_cutC_l {o : Oper} {a : Act} {w : World} {x lo : Operand} {A : Option Addr} {n c l m : Nat} (ho : o.op = .slice 55 x (some lo) none none) (hx : a.eval x = .slice A n c) (hl : a.eval lo = .int .i64 (l : Int)) (hn : l ≤ n) (hm : m = n - l) :
    (execOp a.eval o).run Try.prog w = .ok (.value (.slice (cutI A c l) m (c - l))) w := by
  subst hm
  have h1 := run_slice_l (P := Try.prog) (w := w) 55 A n c slice_itC .i64 (l : Int) (by omega) (by omega)
  unfold execOp
  simp only [ho, hx, hl, Option.map, Sem.run_bind, run_sliceAt_slice _ _ _ _ _ _ slice_itC, h1]
  go_simp
  rfl
theorem run_cutC_h {o : Oper} {a : Act} {w : World} {x hi : Operand} {A : Option Addr} {n c m : Nat} {h : Int} (ho : o.op = .slice 55 x none (some hi) none) (hx : a.eval x = .slice A n c) (hh : a.eval hi = .int .i64 h)
    (h0 : 0 ≤ h) (h2 : h ≤ (c : Int)) (hm : m = h.toNat) :
    (execOp a.eval o).run Try.prog w = .ok (.value (.slice A m c)) w := by
  subst hm
  have h1 := run_slice_h (P := Try.prog) (w := w) 55 A n c slice_itC .i64 h h0 h2
  unfold execOp
  simp only [ho, hx, hh, Option.map, Sem.run_bind, run_sliceAt_slice _ _ _ _ _ _ slice_itC, h1]
  go_simp
section
variable {n : Nat} {o : Oper} {a : Act} {w : World} {K : Act → World → Prop} {Q : Exit → Act → World → Prop}
theorem store_itC {x y : Operand} {p : Addr} {v0 : Value} {A : Option Addr} {m c : Nat} (ho : o.op = .store 55 x y) (hx : a.eval x = .pointer (some p)) (hy : a.eval y = .slice A m c) (hc : w.cell? p = some v0) (hf : w.frozen? p = false)
    (h : K (a.put o.dst undef) (w.setCell p (.slice A m c))) : o.wpIn Fence.wide n Try.prog a w K Q := by
  refine skipI (w' := w.setCell p (.slice A m c)) ?_ h
  unfold execOp
  simp only [ho, hx, hy, Instr.storeAt, Instr.sureAddr, Sem.run_bind, Sem.run_pure, Result.andThen_ok]
  go_simp
theorem append_itC (s x : Operand) (ho : o.op = .call { callee := .builtin .append, args := #[s, x], argTypes := #[55, 55] })
    (base : Nat) (v : Value) (m : Nat) (xs : List Value) (hs : a.eval s = v) (hown : w.ownsRow base 33 3 v m xs)
    (B : Nat) (A : Option Addr) (k c : Nat) (l : List IT) (hx : a.eval x = .slice A k c) (hk : k = l.length) (hA : A = none → c = 0) (hr : RdS clI 3 w B A l)
    (hlen : m + k ≤ 1000000) (hbase : base ≤ w.heap.size)
    (h : ∀ v' w', w'.ownsRow base 33 3 v' (m + k) (xs ++ l.flatMap clI) → w.grownBy w' v.ownBlock → K (a.put o.dst v') w') : o.wpIn Fence.wide n Try.prog a w K Q := by
  obtain ⟨i0, hi, hz0, hz1, hz2⟩ := info_parts info_itC
  subst hk
  rcases A with _ | ad
  · have h0 : l = [] := by
      rcases Nat.eq_zero_or_pos l.length with e | e
      · exact List.eq_nil_of_length_eq_zero e
      · obtain ⟨_, _, e', _⟩ := hr e; cases e'
    subst h0
    obtain rfl := hA rfl
    have hrun := run_append_owned_none (P := Try.prog) (w := w) base 55 o.type 33 i0 3 Try.underlying55 hi v m xs hown
    refine growI (v := v) (w' := w) ?_ (h v w (by simpa using hown) (World.grownBy.refl w _))
    simp [execOp, ho, resolve, invoke, builtin, hs, hx, hrun, Result.andThen]
  · obtain ⟨v', w', hrun, h1, h2, _⟩ := run_append_own (P := Try.prog) w base 55 o.type 33 i0 _ 3 40 Try.underlying55 hi hz0 hz1 hz2 rfl (by decide) v m xs hown ad l.length c (l.flatMap clI)
      (clI_flat l) (rds_srcI hr) (ones_I l) (by unfold maxLen; omega) (by omega) hbase
    refine growI (v := v') (w' := w') ?_ (h v' w' h1 h2)
    simp [execOp, ho, resolve, invoke, builtin, hs, hx, hrun, Result.andThen]
end
theorem info_itR : (Try.prog.info? 38).map (fun i => (i.zero, i.size, i.bytes)) = some (some (.agg #[.int .i64 0, .bool false, .slice none 0 0]), 3, 40) := by kernel_rfl
theorem slice_itR : Try.prog.underlying 45 = some (.slice (Try.prog.elem 45)) := by kernel_rfl
theorem run_load_itR {o : Oper} {a : Act} {w : World} {x : Operand} {p : Addr} {A : Option Addr} {n c : Nat} (ho : o.op = .load 45 x) (hx : a.eval x = .pointer (some p)) (hc : w.cell? p = some (.slice A n c)) :
    (execOp a.eval o).run Try.prog w = .ok (.value (.slice A n c)) w := by
  unfold execOp
  simp only [ho, hx, Instr.loadAt, Instr.sureAddr, Sem.run_bind, Sem.run_pure, Result.andThen_ok]
  go_simp
theorem run_bs_itR {o : Oper} {a : Act} {w : World} {x : Operand} {cs : Array Value} (ho : o.op = .buildSlice 45 1 #[(0, x)]) (hx : a.eval x = .agg cs) (hl : cs.size = 3) :
    (execOp a.eval o).run Try.prog w = .ok (.value (.slice (some ⟨w.heap.size, 0, none⟩) 1 1)) (w.alloc (.cells cs 38)) := by
  obtain ⟨i0, hi, hz0, hz1, hz2⟩ := info_parts info_itR
  have h := run_lit1 (P := Try.prog) w 45 38 i0 _ cs 3 Try.underlying45 hi hz0 hz1 hl (by decide) (by decide)
  unfold execOp
  simp only [ho, List.map_toArray, List.map_cons, List.map_nil, hx, Sem.run_bind, h, Result.andThen_ok]
  rfl
theorem run_cutR_l {o : Oper} {a : Act} {w : World} {x lo : Operand} {A : Option Addr} {n c l m : Nat} (ho : o.op = .slice 45 x (some lo) none none) (hx : a.eval x = .slice A n c) (hl : a.eval lo = .int .i64 (l : Int)) (hn : l ≤ n) (hm : m = n - l) :
    (execOp a.eval o).run Try.prog w = .ok (.value (.slice (cutI A c l) m (c - l))) w := by
  subst hm
  have h1 := run_slice_l (P := Try.prog) (w := w) 45 A n c slice_itR .i64 (l : Int) (by omega) (by omega)
  unfold execOp
  simp only [ho, hx, hl, Option.map, Sem.run_bind, run_sliceAt_slice _ _ _ _ _ _ slice_itR, h1]
  go_simp
  rfl
theorem run_cutR_h {o : Oper} {a : Act} {w : World} {x hi : Operand} {A : Option Addr} {n c m : Nat} {h : Int} (ho : o.op = .slice 45 x none (some hi) none) (hx : a.eval x = .slice A n c) (hh : a.eval hi = .int .i64 h)
    (h0 : 0 ≤ h) (h2 : h ≤ (c : Int)) (hm : m = h.toNat) :
    (execOp a.eval o).run Try.prog w = .ok (.value (.slice A m c)) w := by
  subst hm
  have h1 := run_slice_h (P := Try.prog) (w := w) 45 A n c slice_itR .i64 h h0 h2
  unfold execOp
  simp only [ho, hx, hh, Option.map, Sem.run_bind, run_sliceAt_slice _ _ _ _ _ _ slice_itR, h1]
  go_simp
section
variable {n : Nat} {o : Oper} {a : Act} {w : World} {K : Act → World → Prop} {Q : Exit → Act → World → Prop}
theorem store_itR {x y : Operand} {p : Addr} {v0 : Value} {A : Option Addr} {m c : Nat} (ho : o.op = .store 45 x y) (hx : a.eval x = .pointer (some p)) (hy : a.eval y = .slice A m c) (hc : w.cell? p = some v0) (hf : w.frozen? p = false)
    (h : K (a.put o.dst undef) (w.setCell p (.slice A m c))) : o.wpIn Fence.wide n Try.prog a w K Q := by
  refine skipI (w' := w.setCell p (.slice A m c)) ?_ h
  unfold execOp
  simp only [ho, hx, hy, Instr.storeAt, Instr.sureAddr, Sem.run_bind, Sem.run_pure, Result.andThen_ok]
  go_simp
theorem append_itR (s x : Operand) (ho : o.op = .call { callee := .builtin .append, args := #[s, x], argTypes := #[45, 45] })
    (base : Nat) (v : Value) (m : Nat) (xs : List Value) (hs : a.eval s = v) (hown : w.ownsRow base 38 3 v m xs)
    (B : Nat) (A : Option Addr) (k c : Nat) (l : List IT) (hx : a.eval x = .slice A k c) (hk : k = l.length) (hA : A = none → c = 0) (hr : RdS clI 3 w B A l)
    (hlen : m + k ≤ 1000000) (hbase : base ≤ w.heap.size)
    (h : ∀ v' w', w'.ownsRow base 38 3 v' (m + k) (xs ++ l.flatMap clI) → w.grownBy w' v.ownBlock → K (a.put o.dst v') w') : o.wpIn Fence.wide n Try.prog a w K Q := by
  obtain ⟨i0, hi, hz0, hz1, hz2⟩ := info_parts info_itR
  subst hk
  rcases A with _ | ad
  · have h0 : l = [] := by
      rcases Nat.eq_zero_or_pos l.length with e | e
      · exact List.eq_nil_of_length_eq_zero e
      · obtain ⟨_, _, e', _⟩ := hr e; cases e'
    subst h0
    obtain rfl := hA rfl
    have hrun := run_append_owned_none (P := Try.prog) (w := w) base 45 o.type 38 i0 3 Try.underlying45 hi v m xs hown
    refine growI (v := v) (w' := w) ?_ (h v w (by simpa using hown) (World.grownBy.refl w _))
    simp [execOp, ho, resolve, invoke, builtin, hs, hx, hrun, Result.andThen]
  · obtain ⟨v', w', hrun, h1, h2, _⟩ := run_append_own (P := Try.prog) w base 45 o.type 38 i0 _ 3 40 Try.underlying45 hi hz0 hz1 hz2 rfl (by decide) v m xs hown ad l.length c (l.flatMap clI)
      (clI_flat l) (rds_srcI hr) (ones_I l) (by unfold maxLen; omega) (by omega) hbase
    refine growI (v := v') (w' := w') ?_ (h v' w' h1 h2)
    simp [execOp, ho, resolve, invoke, builtin, hs, hx, hrun, Result.andThen]
end
section
variable {w w' : World} {B0 g : Nat} {v : Value} {room : Int} {L : List IT}
theorem Nt.put (h : Nt w B0 g v room L) {y : IT} {W : World} {v' : Value} (hr : (L.length : Int) < room) (hk : Kept (fun i => some i = v.ownBlock) w W) (hrow : W.ownsRow B0 33 3 v' (L ++ [y]).length ((L ++ [y]).flatMap clI)) (hy : OwnI W B0 y) :
    Nt (W.setCell ⟨g, 2, none⟩ v') B0 g v' room (L ++ [y]) ∧ Kept (NNb TNc B0 w) w (W.setCell ⟨g, 2, none⟩ v') := by
  have hvo : ∀ i, some i = v.ownBlock → NNb TNc B0 w i := fun i hi => by
    rcases h.row.r.2 with ⟨e, _⟩ | ⟨g', cap, cur, e, hb, hh, _⟩
    · rw [e] at hi; simp [Value.ownBlock] at hi
    · rw [e] at hi
      have e' : i = g' := by simpa [Value.ownBlock] using hi
      subst e'
      exact ⟨hb, _, _, _, hh, .inr rfl⟩
  have hg : NNb TNc B0 w g := ⟨h.gB, _, _, _, h.ob, .inl rfl⟩
  have hkN : Kept (NNb TNc B0 w) w W := hk.mono (fun i _ hi => hvo i hi)
  have hgg : W.heap[g]? = some (.cells #[.bool true, .int .i64 room, v] 57 (0, 0)) := (hk.block g (heap_lt h.ob) (fun e => by
    obtain ⟨_, cs, ty, fr, e1, e2⟩ := hvo g e
    rcases h.row.r.2 with ⟨e3, _⟩ | ⟨g', cap, cur, e3, hb, hh, _⟩
    · rw [e3] at e; simp [Value.ownBlock] at e
    · rw [e3] at e
      have e' : g = g' := by simpa [Value.ownBlock] using e
      subst e'
      rw [h.ob] at hh
      injection hh with hh
      injection hh with _ hh _
      exact absurd hh (nat_ne (by kernel_rfl)))).trans h.ob
  have hown : ∀ z ∈ L ++ [y], OwnI W B0 z := fun z hz => by
    rcases List.mem_append.1 hz with h1 | h1
    · exact own_keptA (h.row.o z h1) hkN nnb_away tnc_no.2.2
    · rw [List.mem_singleton.1 h1]; exact hy
  have kg : Kept (fun i => i = g) W (W.setCell ⟨g, 2, none⟩ v') := Kept.setCell W g 2 v'
  have hT : AwayT W (fun i => i = g) (fun ty => ty = 57) := fun j hj cs ty fr hjj => by
    subst hj
    rw [hgg] at hjj
    injection hjj with hjj
    injection hjj with _ e _
    exact e.symm
  refine ⟨⟨?_, ⟨own_keptA hrow kg hT (nat_ne (by kernel_rfl)), fun z hz => own_keptA (hown z hz) kg hT (nat_ne (by kernel_rfl))⟩, h.gB, by rw [List.length_append]; simp; omega, h.m⟩, hkN.trans kg (fun i hi e => by subst e; exact hg)⟩
  have := heap_setCell_same W g 2 _ _ v' hgg
  rw [this]; rfl
set_option maxRecDepth 100000 in
set_option maxHeartbeats 4000000 in
theorem ntput_nil {w : World} (y : IT) : Calls Try.prog 14 #[.pointer none, .agg (clI y).toArray] w fun e w' => e = .returned (.int .i64 2) ∧ Below w.heap.size w w' := by
  obtain ⟨V, hV⟩ : ∃ V, V = w.alloc (.cells (clI y).toArray 33) := ⟨_, rfl⟩
  have bV : Below w.heap.size w V := by rw [hV]; exact (Below.refl _ w).alloc (Nat.le_refl _) _
  have hbV : V.heap[w.heap.size]? = some (.cells (clI y).toArray 33 (0, 0)) := by rw [hV]; exact World.alloc_heap_new w _
  have HV : w.alloc (.cells (clI y).toArray 33) = V := hV.symm
  have kb0 : V.cell? ⟨w.heap.size, 0, none⟩ = some (.int .i64 y.x.n) := cells_at (i := 0) hbV rfl
  have kb2 : V.cell? ⟨w.heap.size, 2, none⟩ = some (.slice y.A y.x.b.length y.c) := cells_at (i := 2) hbV rfl
  have HM := Lib.hid (ntmade_nil (w := V))
  clear hV hbV kb0 kb2
  go_enter Try.func14, Try.ntmps14
  go_upto_region 1 with fail
  try rw [HV]
  clear HV
  go_wp2_with (go_at_call 22; refine HM.out.mono ?_; rintro e w1 ⟨rfl, rfl⟩)
  go_ret
  exact ⟨rfl, bV⟩
set_option maxRecDepth 100000 in
set_option maxHeartbeats 4000000 in
theorem ntput_zero {w : World} {g : Nat} (k0 : w.cell? ⟨g, 0, none⟩ = some (.bool false)) (y : IT) : Calls Try.prog 14 #[.pointer (some ⟨g, 0, none⟩), .agg (clI y).toArray] w fun e w' => e = .returned (.int .i64 2) ∧ Below w.heap.size w w' := by
  obtain ⟨V, hV⟩ : ∃ V, V = w.alloc (.cells (clI y).toArray 33) := ⟨_, rfl⟩
  have bV : Below w.heap.size w V := by rw [hV]; exact (Below.refl _ w).alloc (Nat.le_refl _) _
  have hbV : V.heap[w.heap.size]? = some (.cells (clI y).toArray 33 (0, 0)) := by rw [hV]; exact World.alloc_heap_new w _
  have HV : w.alloc (.cells (clI y).toArray 33) = V := hV.symm
  have kb0 : V.cell? ⟨w.heap.size, 0, none⟩ = some (.int .i64 y.x.n) := cells_at (i := 0) hbV rfl
  have kb2 : V.cell? ⟨w.heap.size, 2, none⟩ = some (.slice y.A y.x.b.length y.c) := cells_at (i := 2) hbV rfl
  have HM := Lib.hid (ntmade_zero (w := V) ((bV.cell (p := ⟨g, 0, none⟩) (cell_block k0)).trans k0))
  clear hV hbV kb0 kb2
  go_enter Try.func14, Try.ntmps14
  go_upto_region 1 with fail
  try rw [HV]
  clear HV
  go_wp2_with (go_at_call 22; refine HM.out.mono ?_; rintro e w1 ⟨rfl, rfl⟩)
  go_ret
  exact ⟨rfl, bV⟩
set_option maxRecDepth 100000 in
set_option maxHeartbeats 4000000 in
theorem ntput_arg (h : Nt w B0 g v room L) (y : IT) (hy : y.x.n < 0 ∨ 64 ≤ y.x.n) : Calls Try.prog 14 #[.pointer (some ⟨g, 0, none⟩), .agg (clI y).toArray] w fun e w' => e = .returned (.int .i64 1) ∧ Below w.heap.size w w' := by
  obtain ⟨V, hV⟩ : ∃ V, V = w.alloc (.cells (clI y).toArray 33) := ⟨_, rfl⟩
  have bV : Below w.heap.size w V := by rw [hV]; exact (Below.refl _ w).alloc (Nat.le_refl _) _
  have hbV : V.heap[w.heap.size]? = some (.cells (clI y).toArray 33 (0, 0)) := by rw [hV]; exact World.alloc_heap_new w _
  have HV : w.alloc (.cells (clI y).toArray 33) = V := hV.symm
  have kb0 : V.cell? ⟨w.heap.size, 0, none⟩ = some (.int .i64 y.x.n) := cells_at (i := 0) hbV rfl
  have kb2 : V.cell? ⟨w.heap.size, 2, none⟩ = some (.slice y.A y.x.b.length y.c) := cells_at (i := 2) hbV rfl
  have HM := Lib.hid (ntmade (h.below bV))
  clear hV hbV h kb2
  by_cases h1 : y.x.n < 0
  · have d1 : decide (y.x.n < 0) = true := decide_eq_true h1
    clear h1 hy
    go_enter Try.func14, Try.ntmps14
    go_upto_region 1 with fail
    try rw [HV]
    clear HV
    go_wp2_with (go_at_call 22; refine HM.out.mono ?_; rintro e w1 ⟨rfl, rfl⟩)
    go_ret
    exact ⟨rfl, bV⟩
  · have d1 : decide (y.x.n < 0) = false := decide_eq_false h1
    have d2 : decide (y.x.n ≥ 64) = true := decide_eq_true (by omega)
    have d2' : decide (64 ≤ y.x.n) = true := d2
    clear h1 hy
    go_enter Try.func14, Try.ntmps14
    go_upto_region 1 with fail
    try rw [HV]
    clear HV
    go_wp2_with (go_at_call 22; refine HM.out.mono ?_; rintro e w1 ⟨rfl, rfl⟩)
    go_ret
    exact ⟨rfl, bV⟩
set_option maxRecDepth 100000 in
set_option maxHeartbeats 4000000 in
theorem ntput_long (h : Nt w B0 g v room L) (y : IT) (hy : 0 ≤ y.x.n ∧ y.x.n < 64) (hl : 65575 < y.x.b.length) : Calls Try.prog 14 #[.pointer (some ⟨g, 0, none⟩), .agg (clI y).toArray] w fun e w' => e = .returned (.int .i64 6) ∧ Below w.heap.size w w' := by
  obtain ⟨V, hV⟩ : ∃ V, V = w.alloc (.cells (clI y).toArray 33) := ⟨_, rfl⟩
  have bV : Below w.heap.size w V := by rw [hV]; exact (Below.refl _ w).alloc (Nat.le_refl _) _
  have hbV : V.heap[w.heap.size]? = some (.cells (clI y).toArray 33 (0, 0)) := by rw [hV]; exact World.alloc_heap_new w _
  have HV : w.alloc (.cells (clI y).toArray 33) = V := hV.symm
  have kb0 : V.cell? ⟨w.heap.size, 0, none⟩ = some (.int .i64 y.x.n) := cells_at (i := 0) hbV rfl
  have kb2 : V.cell? ⟨w.heap.size, 2, none⟩ = some (.slice y.A y.x.b.length y.c) := cells_at (i := 2) hbV rfl
  have HM := Lib.hid (ntmade (h.below bV))
  clear hV hbV h
  have d1 : decide (y.x.n < 0) = false := decide_eq_false (by omega)
  have d2 : decide (y.x.n ≥ 64) = false := decide_eq_false (by omega)
  have d2' : decide (64 ≤ y.x.n) = false := d2
  have d3 : decide ((y.x.b.length : Int) > 65575) = true := decide_eq_true (by omega)
  have d3' : decide ((65575 : Int) < (y.x.b.length : Int)) = true := d3
  clear hy hl
  go_enter Try.func14, Try.ntmps14
  go_upto_region 1 with fail
  try rw [HV]
  clear HV
  go_wp2_with (go_at_call 22; refine HM.out.mono ?_; rintro e w1 ⟨rfl, rfl⟩)
  go_ret
  exact ⟨rfl, bV⟩
set_option maxRecDepth 100000 in
set_option maxHeartbeats 4000000 in
theorem ntput_full (h : Nt w B0 g v room L) (y : IT) (hy : 0 ≤ y.x.n ∧ y.x.n < 64) (hl : y.x.b.length ≤ 65575) (hr : room ≤ (L.length : Int)) : Calls Try.prog 14 #[.pointer (some ⟨g, 0, none⟩), .agg (clI y).toArray] w fun e w' => e = .returned (.int .i64 7) ∧ Below w.heap.size w w' := by
  obtain ⟨V, hV⟩ : ∃ V, V = w.alloc (.cells (clI y).toArray 33) := ⟨_, rfl⟩
  have bV : Below w.heap.size w V := by rw [hV]; exact (Below.refl _ w).alloc (Nat.le_refl _) _
  have hbV : V.heap[w.heap.size]? = some (.cells (clI y).toArray 33 (0, 0)) := by rw [hV]; exact World.alloc_heap_new w _
  have HV : w.alloc (.cells (clI y).toArray 33) = V := hV.symm
  have kb0 : V.cell? ⟨w.heap.size, 0, none⟩ = some (.int .i64 y.x.n) := cells_at (i := 0) hbV rfl
  have kb2 : V.cell? ⟨w.heap.size, 2, none⟩ = some (.slice y.A y.x.b.length y.c) := cells_at (i := 2) hbV rfl
  have HM := Lib.hid (ntmade (h.below bV))
  have hNV := h.below bV
  obtain ⟨A, c, rfl, hc⟩ := h.row.len
  have HL := Lib.hid (h.row.len)
  have gV := heap_lt hNV.ob
  have KT0 : ∀ V', Below V.heap.size V V' → V'.heap[g]? = some (.cells #[.bool true, .int .i64 room, .slice A L.length c] 57 (0, 0)) := fun V' hV' => (hV'.block g gV).trans hNV.ob
  have KT : Hid (∀ V', Below V.heap.size V V' → V'.cell? ⟨g, 2, none⟩ = some (.slice A L.length c)) := Lib.hid fun V' hV' => cells_at (i := 2) (KT0 V' hV') rfl
  have KR : Hid (∀ V', Below V.heap.size V V' → V'.cell? ⟨g, 1, none⟩ = some (.int .i64 room)) := Lib.hid fun V' hV' => cells_at (i := 1) (KT0 V' hV') rfl
  have HN := Lib.hid hNV
  have HRM := Lib.hid (show (L.length : Int) ≤ 4096 by have := h.n; have := h.m; omega)
  clear KT0 hNV hV
  have d1 : decide (y.x.n < 0) = false := decide_eq_false (by omega)
  have d2 : decide (y.x.n ≥ 64) = false := decide_eq_false (by omega)
  have d2' : decide (64 ≤ y.x.n) = false := d2
  have d3 : decide ((y.x.b.length : Int) > 65575) = false := decide_eq_false (by omega)
  have d3' : decide ((65575 : Int) < (y.x.b.length : Int)) = false := d3
  have dF : decide ((L.length : Int) ≥ room) = true := decide_eq_true hr
  have dF' : decide (room ≤ (L.length : Int)) = true := dF
  clear hy hl hr h hbV
  go_enter Try.func14, Try.ntmps14
  go_upto_region 1 with fail
  try rw [HV]
  clear HV
  go_upto_region 7 with (go_at_call 22; refine HM.out.mono ?_; rintro e w1 ⟨rfl, rfl⟩)
  refine wp_region_held_drew (S := fun V' => Below V.heap.size V V') (by kernel_rfl) (Below.refl _ V).drew (fun hS => ?_)
  refine held_pure (i := 0) (oi := ⟨some 24, _, _, _, _, _⟩) rfl (by kernel_rfl) (by kernel_rfl) (by kernel_rfl) (fun _ _ _ h => h) (by rfl) (v := ?_) (fun w hSw => ?_) hS (fun hS => ?_)
  rotate_left
  · go_simp; try with_reducible rfl
  try go_frame
  refine held_pure (i := 1) (oi := ⟨some 25, _, _, _, _, _⟩) rfl (by kernel_rfl) (by kernel_rfl) (by kernel_rfl) (fun _ _ _ h => h) (by rfl) (v := ?_) (fun w hSw => ?_) hS (fun hS => ?_)
  rotate_left
  · go_simp; try with_reducible rfl
  try go_frame
  refine held_pure (i := 2) (oi := ⟨some 26, _, _, _, _, _⟩) rfl (by kernel_rfl) (by kernel_rfl) (by kernel_rfl) (fun _ _ _ h => h) (by rfl) (v := ?_) (fun w hSw => ?_) hS (fun hS => ?_)
  rotate_left
  · go_simp; try with_reducible rfl
  try go_frame
  refine held_pure (i := 3) (oi := ⟨some 27, _, _, _, _, _⟩) rfl (by kernel_rfl) (by kernel_rfl) (by kernel_rfl) (fun _ _ _ h => h) (by rfl) (fun w hSw => run_load_itC rfl rfl (KT.out w hSw)) hS (fun hS => ?_)
  try go_frame
  refine held_pure (i := 4) (oi := ⟨some 28, _, _, _, _, _⟩) rfl (by kernel_rfl) (by kernel_rfl) (by kernel_rfl) (fun _ _ _ h => h) (by rfl) (v := ?_) (fun w hSw => ?_) hS (fun hS => ?_)
  rotate_left
  · go_simp; try with_reducible rfl
  try go_frame
  refine held_pure (i := 5) (oi := ⟨some 29, _, _, _, _, _⟩) rfl (by kernel_rfl) (by kernel_rfl) (by kernel_rfl) (fun _ _ _ h => h) (by rfl) (v := ?_) (fun w hSw => ?_) hS (fun hS => ?_)
  rotate_left
  · go_simp; try with_reducible rfl
  try go_frame
  refine held_pure (i := 6) (oi := ⟨some 30, _, _, _, _, _⟩) rfl (by kernel_rfl) (by kernel_rfl) (by kernel_rfl) (fun _ _ _ h => h) (by rfl) (v := ?_) (fun w hSw => ?_) hS (fun hS => ?_)
  rotate_left
  · go_simp; try with_reducible rfl
  try go_frame
  refine held_pure (i := 7) (oi := ⟨some 31, _, _, _, _, _⟩) rfl (by kernel_rfl) (by kernel_rfl) (by kernel_rfl) (fun _ _ _ h => h) (by rfl) (v := ?_) (fun w hSw => ?_) hS (fun hS => ?_)
  rotate_left
  · go_simp; try with_reducible rfl
  try go_frame
  refine held_pure (i := 8) (oi := ⟨some 32, _, _, _, _, _⟩) rfl (by kernel_rfl) (by kernel_rfl) (by kernel_rfl) (fun _ _ _ h => h) (by rfl) (fun w hSw => run_load_int rfl rfl (KR.out w hSw)) hS (fun hS => ?_)
  try go_frame
  refine held_pure (i := 9) (oi := ⟨some 33, _, _, _, _, _⟩) rfl (by kernel_rfl) (by kernel_rfl) (by kernel_rfl) (fun _ _ _ h => h) (by rfl) (v := .bool true) (fun w hSw => by go_simp; try exact dF) hS (fun hS => ?_)
  try go_frame
  refine held_pure (i := 10) (oi := ⟨some 23, _, _, _, _, _⟩) rfl (by kernel_rfl) (by kernel_rfl) (by kernel_rfl) (fun _ _ _ h => h) (by rfl) (v := .bool true) (fun w hSw => by go_simp) hS (fun hS => ?_)
  try go_frame
  refine wpAnyH_done (by kernel_rfl) ?_ _
  go_wp2
  go_ret
  exact ⟨rfl, bV.trans (((Below.refl _ V).drew).mono bV.size)⟩
theorem nnb_trans {T : TypeId → Prop} {B : Nat} {a b c : World} (h : Below a.heap.size a b) (k : Kept (NNb T B b) b c) : Kept (NNb T B a) a c :=
  (Kept.of_below h).trans k (fun i hi e => by obtain ⟨e1, cs, ty, fr, e2, e3⟩ := e; exact ⟨e1, cs, ty, fr, (h.block i hi).symm.trans e2, e3⟩)
theorem nt_apart (h : Nt w B0 g v room L) : some g ≠ v.ownBlock := fun e => by
  rcases h.row.r.2 with ⟨e3, _⟩ | ⟨g', cap, cur, e3, hb, hh, _⟩
  · rw [e3] at e; simp [Value.ownBlock] at e
  · rw [e3] at e
    have e' : g = g' := by simpa [Value.ownBlock] using e
    subst e'
    rw [h.ob] at hh
    injection hh with hh
    injection hh with _ hh _
    exact absurd hh (nat_ne (by kernel_rfl))
theorem nr_apart (h : Nr w B0 g v room L) : some g ≠ v.ownBlock := fun e => by
  rcases h.row.r.2 with ⟨e3, _⟩ | ⟨g', cap, cur, e3, hb, hh, _⟩
  · rw [e3] at e; simp [Value.ownBlock] at e
  · rw [e3] at e
    have e' : g = g' := by simpa [Value.ownBlock] using e
    subst e'
    rw [h.ob] at hh
    injection hh with hh
    injection hh with _ hh _
    exact absurd hh (nat_ne (by kernel_rfl))
theorem Nr.put (h : Nr w B0 g v room L) {y : IT} {W : World} {v' : Value} (hr : (L.length : Int) < room) (hk : Kept (fun i => some i = v.ownBlock) w W) (hrow : W.ownsRow B0 38 3 v' (L ++ [y]).length ((L ++ [y]).flatMap clI)) (hy : OwnI W B0 y) :
    Nr (W.setCell ⟨g, 0, none⟩ v') B0 g v' room (L ++ [y]) ∧ Kept (NNb TNr B0 w) w (W.setCell ⟨g, 0, none⟩ v') := by
  have hvo : ∀ i, some i = v.ownBlock → NNb TNr B0 w i := fun i hi => by
    rcases h.row.r.2 with ⟨e, _⟩ | ⟨g', cap, cur, e, hb, hh, _⟩
    · rw [e] at hi; simp [Value.ownBlock] at hi
    · rw [e] at hi
      have e' : i = g' := by simpa [Value.ownBlock] using hi
      subst e'
      exact ⟨hb, _, _, _, hh, .inr rfl⟩
  have hg : NNb TNr B0 w g := ⟨h.gB, _, _, _, h.ob, .inl rfl⟩
  have hkN : Kept (NNb TNr B0 w) w W := hk.mono (fun i _ hi => hvo i hi)
  have hgg : W.heap[g]? = some (.cells #[v, .int .i64 room] 47 (0, 0)) := (hk.block g (heap_lt h.ob) (nr_apart h)).trans h.ob
  have hown : ∀ z ∈ L ++ [y], OwnI W B0 z := fun z hz => by
    rcases List.mem_append.1 hz with h1 | h1
    · exact own_keptA (h.row.o z h1) hkN nnb_away tnr_no.2.2
    · rw [List.mem_singleton.1 h1]; exact hy
  have kg : Kept (fun i => i = g) W (W.setCell ⟨g, 0, none⟩ v') := Kept.setCell W g 0 v'
  have hT : AwayT W (fun i => i = g) (fun ty => ty = 47) := fun j hj cs ty fr hjj => by
    subst hj
    rw [hgg] at hjj
    injection hjj with hjj
    injection hjj with _ e _
    exact e.symm
  refine ⟨⟨?_, ⟨own_keptA hrow kg hT (nat_ne (by kernel_rfl)), fun z hz => own_keptA (hown z hz) kg hT (nat_ne (by kernel_rfl))⟩, h.gB, by rw [List.length_append]; simp; omega, h.m⟩, hkN.trans kg (fun i hi e => by subst e; exact hg)⟩
  have := heap_setCell_same W g 0 _ _ v' hgg
  rw [this]; rfl
set_option maxRecDepth 100000 in
set_option maxHeartbeats 4000000 in
theorem ntput (h : Nt w B0 g v room L) (y : IT) (hA : Arg w w.heap.size y.A y.c y.x.b) (hy : 0 ≤ y.x.n ∧ y.x.n < 64) (hl : y.x.b.length ≤ 65575) (hr : (L.length : Int) < room) : Calls Try.prog 14 #[.pointer (some ⟨g, 0, none⟩), .agg (clI y).toArray] w fun e w' => e = .returned (.int .i64 0) ∧ ∃ v' P p, Nt w' B0 g v' room (L ++ [⟨y.x, P, p⟩]) ∧ Kept (NNb TNc B0 w) w w' := by
  obtain ⟨V, hV⟩ : ∃ V, V = w.alloc (.cells (clI y).toArray 33) := ⟨_, rfl⟩
  have bV : Below w.heap.size w V := by rw [hV]; exact (Below.refl _ w).alloc (Nat.le_refl _) _
  have hbV : V.heap[w.heap.size]? = some (.cells (clI y).toArray 33 (0, 0)) := by rw [hV]; exact World.alloc_heap_new w _
  have HV : w.alloc (.cells (clI y).toArray 33) = V := hV.symm
  have kb0 : V.cell? ⟨w.heap.size, 0, none⟩ = some (.int .i64 y.x.n) := cells_at (i := 0) hbV rfl
  have kb2 : V.cell? ⟨w.heap.size, 2, none⟩ = some (.slice y.A y.x.b.length y.c) := cells_at (i := 2) hbV rfl
  have HM := Lib.hid (ntmade (h.below bV))
  have hNV := h.below bV
  obtain ⟨A, c, rfl, hc⟩ := h.row.len
  have HL := Lib.hid (h.row.len)
  have gV := heap_lt hNV.ob
  have KT0 : ∀ V', Below V.heap.size V V' → V'.heap[g]? = some (.cells #[.bool true, .int .i64 room, .slice A L.length c] 57 (0, 0)) := fun V' hV' => (hV'.block g gV).trans hNV.ob
  have KT : Hid (∀ V', Below V.heap.size V V' → V'.cell? ⟨g, 2, none⟩ = some (.slice A L.length c)) := Lib.hid fun V' hV' => cells_at (i := 2) (KT0 V' hV') rfl
  have KR : Hid (∀ V', Below V.heap.size V V' → V'.cell? ⟨g, 1, none⟩ = some (.int .i64 room)) := Lib.hid fun V' hV' => cells_at (i := 1) (KT0 V' hV') rfl
  have HRM := Lib.hid (show (L.length : Int) ≤ 4096 by have := h.n; have := h.m; omega)
  obtain ⟨n, hn⟩ : ∃ n, n = L.length := ⟨_, rfl⟩
  rw [← hn] at KT HRM hc hr
  have HNL := Lib.hid hn
  have HA := Lib.hid (hA.below bV)
  have bVz := bV.size
  have HOB : Hid (V.heap[g]? = some (.cells #[.bool true, .int .i64 room, .slice A n c] 57 (0, 0))) := Lib.hid (by rw [hn]; exact hNV.ob)
  have HROW : Hid (V.ownsRow B0 33 3 (.slice A n c) n (L.flatMap clI)) := Lib.hid (by rw [hn]; exact hNV.row.r)
  have HNE : Hid (¬ some g = (Value.slice A n c).ownBlock) := Lib.hid (by rw [hn]; exact nt_apart hNV)
  have hBw : B0 ≤ w.heap.size := Nat.le_trans h.gB (Nat.le_of_lt (heap_lt h.ob))
  have hBV := Nat.le_trans hBw bVz
  have HN0 : Hid (Nt V B0 g (.slice A n c) room L) := Lib.hid (by rw [hn]; exact hNV)
  have HBX : Hid (¬ some w.heap.size = (Value.slice A n c).ownBlock) := Lib.hid (fun e => by
    rw [hn] at e
    rcases h.row.r.2 with ⟨e3, _⟩ | ⟨g', cap, cur, e3, hb, hh, _⟩
    · rw [e3] at e; simp [Value.ownBlock] at e
    · rw [e3] at e
      have e' : w.heap.size = g' := by simpa [Value.ownBlock] using e
      have := heap_lt hh
      omega)
  have KT2 : Hid (∀ V', Kept (fun i => some i = (Value.slice A n c).ownBlock) V V' → V'.cell? ⟨g, 2, none⟩ = some (.slice A n c)) := Lib.hid fun V' hV' => cells_at (i := 2) ((hV'.block g gV HNE.out).trans HOB.out) rfl
  have KY : Hid (∀ V', Kept (fun i => some i = (Value.slice A n c).ownBlock) V V' → V'.rangeAt w.heap.size 0 (clI y)) := Lib.hid fun V' hV' => range_heap ((hV'.block _ (heap_lt hbV) (fun e => HBX.out e)).trans hbV)
  clear KT0 hNV hV hn
  have d1 : decide (y.x.n < 0) = false := decide_eq_false (by omega)
  have d2 : decide (y.x.n ≥ 64) = false := decide_eq_false (by omega)
  have d2' : decide (64 ≤ y.x.n) = false := d2
  have d3 : decide ((y.x.b.length : Int) > 65575) = false := decide_eq_false (by omega)
  have d3' : decide ((65575 : Int) < (y.x.b.length : Int)) = false := d3
  have dF : decide ((n : Int) ≥ room) = false := decide_eq_false (by omega)
  have dF' : decide (room ≤ (n : Int)) = false := dF
  have HRR := Lib.hid hr
  have HRM2 : n ≤ 4096 := by have := HRM.out; omega
  clear hy hr h hbV hA
  go_enter Try.func14, Try.ntmps14
  go_upto_region 1 with fail
  try rw [HV]
  clear HV
  go_upto_region 7 with (go_at_call 22; refine HM.out.mono ?_; rintro e w1 ⟨rfl, rfl⟩)
  refine wp_region_held_drew (S := fun V' => Below V.heap.size V V') (by kernel_rfl) (Below.refl _ V).drew (fun hS => ?_)
  refine held_pure (i := 0) (oi := ⟨some 24, _, _, _, _, _⟩) rfl (by kernel_rfl) (by kernel_rfl) (by kernel_rfl) (fun _ _ _ h => h) (by rfl) (v := ?_) (fun w hSw => ?_) hS (fun hS => ?_)
  rotate_left
  · go_simp; try with_reducible rfl
  try go_frame
  refine held_pure (i := 1) (oi := ⟨some 25, _, _, _, _, _⟩) rfl (by kernel_rfl) (by kernel_rfl) (by kernel_rfl) (fun _ _ _ h => h) (by rfl) (v := ?_) (fun w hSw => ?_) hS (fun hS => ?_)
  rotate_left
  · go_simp; try with_reducible rfl
  try go_frame
  refine held_pure (i := 2) (oi := ⟨some 26, _, _, _, _, _⟩) rfl (by kernel_rfl) (by kernel_rfl) (by kernel_rfl) (fun _ _ _ h => h) (by rfl) (v := ?_) (fun w hSw => ?_) hS (fun hS => ?_)
  rotate_left
  · go_simp; try with_reducible rfl
  try go_frame
  refine held_pure (i := 3) (oi := ⟨some 27, _, _, _, _, _⟩) rfl (by kernel_rfl) (by kernel_rfl) (by kernel_rfl) (fun _ _ _ h => h) (by rfl) (fun w hSw => run_load_itC rfl rfl (KT.out w hSw)) hS (fun hS => ?_)
  try go_frame
  refine held_pure (i := 4) (oi := ⟨some 28, _, _, _, _, _⟩) rfl (by kernel_rfl) (by kernel_rfl) (by kernel_rfl) (fun _ _ _ h => h) (by rfl) (v := ?_) (fun w hSw => ?_) hS (fun hS => ?_)
  rotate_left
  · go_simp; try with_reducible rfl
  try go_frame
  refine held_pure (i := 5) (oi := ⟨some 29, _, _, _, _, _⟩) rfl (by kernel_rfl) (by kernel_rfl) (by kernel_rfl) (fun _ _ _ h => h) (by rfl) (v := ?_) (fun w hSw => ?_) hS (fun hS => ?_)
  rotate_left
  · go_simp; try with_reducible rfl
  try go_frame
  refine held_pure (i := 6) (oi := ⟨some 30, _, _, _, _, _⟩) rfl (by kernel_rfl) (by kernel_rfl) (by kernel_rfl) (fun _ _ _ h => h) (by rfl) (v := ?_) (fun w hSw => ?_) hS (fun hS => ?_)
  rotate_left
  · go_simp; try with_reducible rfl
  try go_frame
  refine held_pure (i := 7) (oi := ⟨some 31, _, _, _, _, _⟩) rfl (by kernel_rfl) (by kernel_rfl) (by kernel_rfl) (fun _ _ _ h => h) (by rfl) (v := ?_) (fun w hSw => ?_) hS (fun hS => ?_)
  rotate_left
  · go_simp; try with_reducible rfl
  try go_frame
  refine held_pure (i := 8) (oi := ⟨some 32, _, _, _, _, _⟩) rfl (by kernel_rfl) (by kernel_rfl) (by kernel_rfl) (fun _ _ _ h => h) (by rfl) (fun w hSw => run_load_int rfl rfl (KR.out w hSw)) hS (fun hS => ?_)
  try go_frame
  refine held_pure (i := 9) (oi := ⟨some 33, _, _, _, _, _⟩) rfl (by kernel_rfl) (by kernel_rfl) (by kernel_rfl) (fun _ _ _ h => h) (by rfl) (v := .bool false) (fun w hSw => by go_simp; try exact dF) hS (fun hS => ?_)
  try go_frame
  refine held_pure (i := 10) (oi := ⟨some 23, _, _, _, _, _⟩) rfl (by kernel_rfl) (by kernel_rfl) (by kernel_rfl) (fun _ _ _ h => h) (by rfl) (v := .bool false) (fun w hSw => by go_simp) hS (fun hS => ?_)
  try go_frame
  refine wpAnyH_done (by kernel_rfl) ?_ _
  go_upto_region 9 with fail
  refine regionY 9 (fun V' => Kept (fun i => some i = (Value.slice A n c).ownBlock) V V') (by kernel_rfl) ?_
  have b0 : Below V.heap.size V V.drew.drew := (Below.refl _ V).drew.drew
  have hS : Kept (fun i => some i = (Value.slice A n c).ownBlock) V V.drew.drew := Kept.of_below b0
  generalize V.drew.drew = X0 at *
  refine pureY (i := 0) (oi := ⟨some 34, _, _, _, _, _⟩) rfl (by kernel_rfl) (by kernel_rfl) (by kernel_rfl) (by kernel_rfl) (by kernel_rfl) (fun _ _ _ h => h) (by rfl) (v := ?_) (fun w hSw => ?_) hS ?_
  rotate_left
  · go_simp; try with_reducible rfl
  try go_frame
  refine pureY (i := 1) (oi := ⟨some 35, _, _, _, _, _⟩) rfl (by kernel_rfl) (by kernel_rfl) (by kernel_rfl) (by kernel_rfl) (by kernel_rfl) (fun _ _ _ h => h) (by rfl) (v := ?_) (fun w hSw => ?_) hS ?_
  rotate_left
  · go_simp; try with_reducible rfl
  try go_frame
  refine pureY (i := 2) (oi := ⟨some 36, _, _, _, _, _⟩) rfl (by kernel_rfl) (by kernel_rfl) (by kernel_rfl) (by kernel_rfl) (by kernel_rfl) (fun _ _ _ h => h) (by rfl) (v := ?_) (fun w hSw => ?_) hS ?_
  rotate_left
  · go_simp; try with_reducible rfl
  try go_frame
  refine pureY (i := 3) (oi := ⟨some 37, _, _, _, _, _⟩) rfl (by kernel_rfl) (by kernel_rfl) (by kernel_rfl) (by kernel_rfl) (by kernel_rfl) (fun _ _ _ h => h) (by rfl) (v := ?_) (fun w hSw => ?_) hS ?_
  rotate_left
  · go_simp; try with_reducible rfl
  try go_frame
  refine pureY (i := 4) (oi := ⟨some 38, _, _, _, _, _⟩) rfl (by kernel_rfl) (by kernel_rfl) (by kernel_rfl) (by kernel_rfl) (by kernel_rfl) (fun _ _ _ h => h) (by rfl) (fun w hSw => run_load_itC rfl rfl (KT2.out _ hSw)) hS ?_
  try go_frame
  refine pureY (i := 5) (oi := ⟨some 39, _, _, _, _, _⟩) rfl (by kernel_rfl) (by kernel_rfl) (by kernel_rfl) (by kernel_rfl) (by kernel_rfl) (fun _ _ _ h => h) (by rfl) (fun w hSw => run_load_nis rfl rfl (KY.out _ hSw) rfl) hS ?_
  try go_frame
  refine oneY (i := 6) (oi := ⟨some 40, _, _, _, _, _⟩) (by kernel_rfl) rfl (by rfl) (fun K hK => ?_)
  refine callI (f := 19) (args := #[.agg (clI y).toArray]) (by go_simp; try rfl) ?_
  refine (ntclone y w.heap.size X0 (HA.out.below (b0.mono bVz)) (Nat.le_trans bVz b0.size) (by omega)).mono ?_
  rintro e w6 ⟨P, p, rfl, o6, x6⟩
  have b6 := b0.trans (x6.mono b0.size)
  have o6 := own_base o6 (Nat.le_trans hBV b0.size)
  have hS : Kept (fun i => some i = (Value.slice A n c).ownBlock) V w6 := Kept.of_below b6
  refine ⟨_, rfl, hK _ _ (fun _ => hS) ?_⟩
  clear hK K x6
  try go_frame
  try go_frame
  refine oneY (i := 7) (oi := ⟨some 41, _, _, _, _, _⟩) (by kernel_rfl) rfl (by rfl) (fun K hK => ?_)
  refine valGI (run_bs_itC (cs := (clI ⟨y.x, P, p⟩).toArray) rfl rfl rfl) ?_
  have b7 := b6.alloc b6.size (.cells (clI ⟨y.x, P, p⟩).toArray 33)
  have k7 := World.alloc_heap_new w6 (.cells (clI ⟨y.x, P, p⟩).toArray 33)
  have o7 : OwnI (w6.alloc (.cells (clI ⟨y.x, P, p⟩).toArray 33)) B0 ⟨y.x, P, p⟩ := own_below o6 ((Below.refl _ w6).alloc (Nat.le_refl _) _)
  have hS : Kept (fun i => some i = (Value.slice A n c).ownBlock) V (w6.alloc (.cells (clI ⟨y.x, P, p⟩).toArray 33)) := Kept.of_below b7
  refine hK _ _ (fun _ => hS) ?_
  clear hK K o6 b6
  generalize w6.alloc (.cells (clI ⟨y.x, P, p⟩).toArray 33) = w7 at *
  generalize w6.heap.size = vb at *
  try go_frame
  try go_frame
  refine oneY (i := 8) (oi := ⟨some 42, _, _, _, _, _⟩) (by kernel_rfl) rfl (by rfl) (fun K hK => ?_)
  have hown7 := own_below HROW.out b7
  refine append_itC _ _ rfl B0 (.slice A n c) n (L.flatMap clI) rfl hown7 w7.heap.size (some ⟨vb, 0, none⟩) 1 1 [⟨y.x, P, p⟩] rfl rfl (fun e => by cases e) (rds_oneI k7) (by omega) (Nat.le_trans hBV b7.size) ?_
  intro v8 w8 own8 grow8
  have k8 : Kept (fun i => some i = (Value.slice A n c).ownBlock) V w8 := (Kept.of_below b7).trans (Kept.of_grown grow8) (fun _ _ e => e)
  have o8 : OwnI w8 B0 ⟨y.x, P, p⟩ := own_keepT o7 hown7 grow8 (nat_ne (by kernel_rfl))
  obtain ⟨A8, c8, rfl⟩ := own_slice own8
  have hS := k8
  refine hK _ _ (fun _ => hS) ?_
  clear hK K grow8
  try go_frame
  try go_frame
  refine oneY (i := 9) (oi := ⟨some 43, _, _, _, _, _⟩) (by kernel_rfl) rfl (by rfl) (fun K hK => ?_)
  refine valI (v := ?_) ?_ ?_
  rotate_left
  · go_simp; try with_reducible rfl
  refine hK _ _ (fun h => absurd h (by decide)) ?_
  clear hK K
  try go_frame
  refine oneY (i := 10) (oi := ⟨some 44, _, _, _, _, _⟩) (by kernel_rfl) rfl (by rfl) (fun K hK => ?_)
  refine valI (v := ?_) ?_ ?_
  rotate_left
  · go_simp; try with_reducible rfl
  refine hK _ _ (fun h => absurd h (by decide)) ?_
  clear hK K
  try go_frame
  refine oneY (i := 11) (oi := ⟨none, _, _, _, _, _⟩) (by kernel_rfl) rfl (by rfl) (fun K hK => ?_)
  have ht := (k8.block g gV HNE.out).trans HOB.out
  refine store_itC rfl rfl rfl (cells_at (i := 2) ht rfl) (heap_frozen ht 2) ?_
  refine hK _ _ (fun h => absurd h (by decide)) ?_
  clear hK K
  try go_frame
  try go_frame
  refine doneY (by kernel_rfl) ?_ _
  go_wp2
  go_ret
  have own9 : w8.ownsRow B0 33 3 (.slice A8 (n + 1) c8) (L ++ [(⟨y.x, P, p⟩ : IT)]).length ((L ++ [(⟨y.x, P, p⟩ : IT)]).flatMap clI) := by
    rw [List.length_append, List.flatMap_append, ← HNL.out]
    exact own8
  obtain ⟨q1, q2⟩ := HN0.out.put (by rw [← HNL.out]; exact HRR.out) k8 own9 o8
  exact ⟨rfl, _, P, p, q1, nnb_trans bV q2⟩
end
section
variable {w w' : World} {B0 g : Nat} {v : Value} {room : Int} {L : List IT}
set_option maxRecDepth 100000 in
set_option maxHeartbeats 4000000 in
theorem nrput_arg (y : IT) (g : Nat) (w : World) (hy : y.x.n < 0 ∨ 64 ≤ y.x.n) : Calls Try.prog 15 #[.pointer (some ⟨g, 0, none⟩), .agg (clI y).toArray] w fun e w' => e = .returned (.int .i64 1) ∧ Below w.heap.size w w' := by
  obtain ⟨V, hV⟩ : ∃ V, V = w.alloc (.cells (clI y).toArray 38) := ⟨_, rfl⟩
  have bV : Below w.heap.size w V := by rw [hV]; exact (Below.refl _ w).alloc (Nat.le_refl _) _
  have hbV : V.heap[w.heap.size]? = some (.cells (clI y).toArray 38 (0, 0)) := by rw [hV]; exact World.alloc_heap_new w _
  have HV : w.alloc (.cells (clI y).toArray 38) = V := hV.symm
  have kb0 : V.cell? ⟨w.heap.size, 0, none⟩ = some (.int .i64 y.x.n) := cells_at (i := 0) hbV rfl
  have kb2 : V.cell? ⟨w.heap.size, 2, none⟩ = some (.slice y.A y.x.b.length y.c) := cells_at (i := 2) hbV rfl
  clear hV hbV kb2
  by_cases h1 : y.x.n < 0
  · have d1 : decide (y.x.n < 0) = true := decide_eq_true h1
    clear h1 hy
    go_enter Try.func15, Try.ntmps15
    go_upto_region 1 with fail
    try rw [HV]
    clear HV
    go_wp2
    go_ret
    exact ⟨rfl, bV⟩
  · have d1 : decide (y.x.n < 0) = false := decide_eq_false h1
    have d2 : decide (y.x.n ≥ 64) = true := decide_eq_true (by omega)
    have d2' : decide (64 ≤ y.x.n) = true := d2
    clear h1 hy
    go_enter Try.func15, Try.ntmps15
    go_upto_region 1 with fail
    try rw [HV]
    clear HV
    go_wp2
    go_ret
    exact ⟨rfl, bV⟩
set_option maxRecDepth 100000 in
set_option maxHeartbeats 4000000 in
theorem nrput_long (y : IT) (g : Nat) (w : World) (hy : 0 ≤ y.x.n ∧ y.x.n < 64) (hl : 65575 < y.x.b.length) : Calls Try.prog 15 #[.pointer (some ⟨g, 0, none⟩), .agg (clI y).toArray] w fun e w' => e = .returned (.int .i64 6) ∧ Below w.heap.size w w' := by
  obtain ⟨V, hV⟩ : ∃ V, V = w.alloc (.cells (clI y).toArray 38) := ⟨_, rfl⟩
  have bV : Below w.heap.size w V := by rw [hV]; exact (Below.refl _ w).alloc (Nat.le_refl _) _
  have hbV : V.heap[w.heap.size]? = some (.cells (clI y).toArray 38 (0, 0)) := by rw [hV]; exact World.alloc_heap_new w _
  have HV : w.alloc (.cells (clI y).toArray 38) = V := hV.symm
  have kb0 : V.cell? ⟨w.heap.size, 0, none⟩ = some (.int .i64 y.x.n) := cells_at (i := 0) hbV rfl
  have kb2 : V.cell? ⟨w.heap.size, 2, none⟩ = some (.slice y.A y.x.b.length y.c) := cells_at (i := 2) hbV rfl
  clear hV hbV
  have d1 : decide (y.x.n < 0) = false := decide_eq_false (by omega)
  have d2 : decide (y.x.n ≥ 64) = false := decide_eq_false (by omega)
  have d2' : decide (64 ≤ y.x.n) = false := d2
  have d3 : decide ((y.x.b.length : Int) > 65575) = true := decide_eq_true (by omega)
  have d3' : decide ((65575 : Int) < (y.x.b.length : Int)) = true := d3
  clear hy hl
  go_enter Try.func15, Try.ntmps15
  go_upto_region 1 with fail
  try rw [HV]
  clear HV
  go_wp2
  go_ret
  exact ⟨rfl, bV⟩
set_option maxRecDepth 100000 in
set_option maxHeartbeats 4000000 in
theorem nrput_full (h : Nr w B0 g v room L) (y : IT) (hy : 0 ≤ y.x.n ∧ y.x.n < 64) (hl : y.x.b.length ≤ 65575) (hr : room ≤ (L.length : Int)) : Calls Try.prog 15 #[.pointer (some ⟨g, 0, none⟩), .agg (clI y).toArray] w fun e w' => e = .returned (.int .i64 7) ∧ Below w.heap.size w w' := by
  obtain ⟨V, hV⟩ : ∃ V, V = w.alloc (.cells (clI y).toArray 38) := ⟨_, rfl⟩
  have bV : Below w.heap.size w V := by rw [hV]; exact (Below.refl _ w).alloc (Nat.le_refl _) _
  have hbV : V.heap[w.heap.size]? = some (.cells (clI y).toArray 38 (0, 0)) := by rw [hV]; exact World.alloc_heap_new w _
  have HV : w.alloc (.cells (clI y).toArray 38) = V := hV.symm
  have kb0 : V.cell? ⟨w.heap.size, 0, none⟩ = some (.int .i64 y.x.n) := cells_at (i := 0) hbV rfl
  have kb2 : V.cell? ⟨w.heap.size, 2, none⟩ = some (.slice y.A y.x.b.length y.c) := cells_at (i := 2) hbV rfl
  have hNV := h.below bV
  obtain ⟨A, c, rfl, hc⟩ := h.row.len
  have gV := heap_lt hNV.ob
  have KT0 : ∀ V', Below V.heap.size V V' → V'.heap[g]? = some (.cells #[.slice A L.length c, .int .i64 room] 47 (0, 0)) := fun V' hV' => (hV'.block g gV).trans hNV.ob
  have KT : Hid (∀ V', Below V.heap.size V V' → V'.cell? ⟨g, 0, none⟩ = some (.slice A L.length c)) := Lib.hid fun V' hV' => cells_at (i := 0) (KT0 V' hV') rfl
  have KR : Hid (∀ V', Below V.heap.size V V' → V'.cell? ⟨g, 1, none⟩ = some (.int .i64 room)) := Lib.hid fun V' hV' => cells_at (i := 1) (KT0 V' hV') rfl
  have HRM := Lib.hid (show (L.length : Int) ≤ 4096 by have := h.n; have := h.m; omega)
  clear KT0 hNV hV
  have d1 : decide (y.x.n < 0) = false := decide_eq_false (by omega)
  have d2 : decide (y.x.n ≥ 64) = false := decide_eq_false (by omega)
  have d2' : decide (64 ≤ y.x.n) = false := d2
  have d3 : decide ((y.x.b.length : Int) > 65575) = false := decide_eq_false (by omega)
  have d3' : decide ((65575 : Int) < (y.x.b.length : Int)) = false := d3
  have dF : decide ((L.length : Int) ≥ room) = true := decide_eq_true hr
  have dF' : decide (room ≤ (L.length : Int)) = true := dF
  clear hy hl hr h hbV
  go_enter Try.func15, Try.ntmps15
  go_upto_region 1 with fail
  try rw [HV]
  clear HV
  go_upto_region 5 with fail
  refine wp_region_held_drew (S := fun V' => Below V.heap.size V V') (by kernel_rfl) (Below.refl _ V).drew (fun hS => ?_)
  refine held_pure (i := 0) (oi := ⟨some 20, _, _, _, _, _⟩) rfl (by kernel_rfl) (by kernel_rfl) (by kernel_rfl) (fun _ _ _ h => h) (by rfl) (v := ?_) (fun w hSw => ?_) hS (fun hS => ?_)
  rotate_left
  · go_simp; try with_reducible rfl
  try go_frame
  refine held_pure (i := 1) (oi := ⟨some 21, _, _, _, _, _⟩) rfl (by kernel_rfl) (by kernel_rfl) (by kernel_rfl) (fun _ _ _ h => h) (by rfl) (v := ?_) (fun w hSw => ?_) hS (fun hS => ?_)
  rotate_left
  · go_simp; try with_reducible rfl
  try go_frame
  refine held_pure (i := 2) (oi := ⟨some 22, _, _, _, _, _⟩) rfl (by kernel_rfl) (by kernel_rfl) (by kernel_rfl) (fun _ _ _ h => h) (by rfl) (v := ?_) (fun w hSw => ?_) hS (fun hS => ?_)
  rotate_left
  · go_simp; try with_reducible rfl
  try go_frame
  refine held_pure (i := 3) (oi := ⟨some 23, _, _, _, _, _⟩) rfl (by kernel_rfl) (by kernel_rfl) (by kernel_rfl) (fun _ _ _ h => h) (by rfl) (fun w hSw => run_load_itR rfl rfl (KT.out w hSw)) hS (fun hS => ?_)
  try go_frame
  refine held_pure (i := 4) (oi := ⟨some 24, _, _, _, _, _⟩) rfl (by kernel_rfl) (by kernel_rfl) (by kernel_rfl) (fun _ _ _ h => h) (by rfl) (v := ?_) (fun w hSw => ?_) hS (fun hS => ?_)
  rotate_left
  · go_simp; try with_reducible rfl
  try go_frame
  refine held_pure (i := 5) (oi := ⟨some 25, _, _, _, _, _⟩) rfl (by kernel_rfl) (by kernel_rfl) (by kernel_rfl) (fun _ _ _ h => h) (by rfl) (v := ?_) (fun w hSw => ?_) hS (fun hS => ?_)
  rotate_left
  · go_simp; try with_reducible rfl
  try go_frame
  refine held_pure (i := 6) (oi := ⟨some 26, _, _, _, _, _⟩) rfl (by kernel_rfl) (by kernel_rfl) (by kernel_rfl) (fun _ _ _ h => h) (by rfl) (v := ?_) (fun w hSw => ?_) hS (fun hS => ?_)
  rotate_left
  · go_simp; try with_reducible rfl
  try go_frame
  refine held_pure (i := 7) (oi := ⟨some 27, _, _, _, _, _⟩) rfl (by kernel_rfl) (by kernel_rfl) (by kernel_rfl) (fun _ _ _ h => h) (by rfl) (v := ?_) (fun w hSw => ?_) hS (fun hS => ?_)
  rotate_left
  · go_simp; try with_reducible rfl
  try go_frame
  refine held_pure (i := 8) (oi := ⟨some 28, _, _, _, _, _⟩) rfl (by kernel_rfl) (by kernel_rfl) (by kernel_rfl) (fun _ _ _ h => h) (by rfl) (fun w hSw => run_load_int rfl rfl (KR.out w hSw)) hS (fun hS => ?_)
  try go_frame
  refine held_pure (i := 9) (oi := ⟨some 29, _, _, _, _, _⟩) rfl (by kernel_rfl) (by kernel_rfl) (by kernel_rfl) (fun _ _ _ h => h) (by rfl) (v := .bool true) (fun w hSw => by go_simp; try exact dF) hS (fun hS => ?_)
  try go_frame
  refine held_pure (i := 10) (oi := ⟨some 19, _, _, _, _, _⟩) rfl (by kernel_rfl) (by kernel_rfl) (by kernel_rfl) (fun _ _ _ h => h) (by rfl) (v := .bool true) (fun w hSw => by go_simp) hS (fun hS => ?_)
  try go_frame
  refine wpAnyH_done (by kernel_rfl) ?_ _
  go_wp2
  go_ret
  exact ⟨rfl, bV.trans (((Below.refl _ V).drew).mono bV.size)⟩
set_option maxRecDepth 100000 in
set_option maxHeartbeats 4000000 in
theorem nrput (h : Nr w B0 g v room L) (y : IT) (hA : Arg w w.heap.size y.A y.c y.x.b) (hy : 0 ≤ y.x.n ∧ y.x.n < 64) (hl : y.x.b.length ≤ 65575) (hr : (L.length : Int) < room) : Calls Try.prog 15 #[.pointer (some ⟨g, 0, none⟩), .agg (clI y).toArray] w fun e w' => e = .returned (.int .i64 0) ∧ ∃ v' P p, Nr w' B0 g v' room (L ++ [⟨y.x, P, p⟩]) ∧ Kept (NNb TNr B0 w) w w' := by
  obtain ⟨V, hV⟩ : ∃ V, V = w.alloc (.cells (clI y).toArray 38) := ⟨_, rfl⟩
  have bV : Below w.heap.size w V := by rw [hV]; exact (Below.refl _ w).alloc (Nat.le_refl _) _
  have hbV : V.heap[w.heap.size]? = some (.cells (clI y).toArray 38 (0, 0)) := by rw [hV]; exact World.alloc_heap_new w _
  have HV : w.alloc (.cells (clI y).toArray 38) = V := hV.symm
  have kb0 : V.cell? ⟨w.heap.size, 0, none⟩ = some (.int .i64 y.x.n) := cells_at (i := 0) hbV rfl
  have kb2 : V.cell? ⟨w.heap.size, 2, none⟩ = some (.slice y.A y.x.b.length y.c) := cells_at (i := 2) hbV rfl
  have hNV := h.below bV
  obtain ⟨A, c, rfl, hc⟩ := h.row.len
  have gV := heap_lt hNV.ob
  have KT0 : ∀ V', Below V.heap.size V V' → V'.heap[g]? = some (.cells #[.slice A L.length c, .int .i64 room] 47 (0, 0)) := fun V' hV' => (hV'.block g gV).trans hNV.ob
  have KT : Hid (∀ V', Below V.heap.size V V' → V'.cell? ⟨g, 0, none⟩ = some (.slice A L.length c)) := Lib.hid fun V' hV' => cells_at (i := 0) (KT0 V' hV') rfl
  have KR : Hid (∀ V', Below V.heap.size V V' → V'.cell? ⟨g, 1, none⟩ = some (.int .i64 room)) := Lib.hid fun V' hV' => cells_at (i := 1) (KT0 V' hV') rfl
  have HRM := Lib.hid (show (L.length : Int) ≤ 4096 by have := h.n; have := h.m; omega)
  obtain ⟨n, hn⟩ : ∃ n, n = L.length := ⟨_, rfl⟩
  rw [← hn] at KT HRM hc hr
  have HNL := Lib.hid hn
  have HA := Lib.hid (hA.below bV)
  have bVz := bV.size
  have HOB : Hid (V.heap[g]? = some (.cells #[.slice A n c, .int .i64 room] 47 (0, 0))) := Lib.hid (by rw [hn]; exact hNV.ob)
  have HROW : Hid (V.ownsRow B0 38 3 (.slice A n c) n (L.flatMap clI)) := Lib.hid (by rw [hn]; exact hNV.row.r)
  have HNE : Hid (¬ some g = (Value.slice A n c).ownBlock) := Lib.hid (by rw [hn]; exact nr_apart hNV)
  have hBw : B0 ≤ w.heap.size := Nat.le_trans h.gB (Nat.le_of_lt (heap_lt h.ob))
  have hBV := Nat.le_trans hBw bVz
  have HN0 : Hid (Nr V B0 g (.slice A n c) room L) := Lib.hid (by rw [hn]; exact hNV)
  have HBX : Hid (¬ some w.heap.size = (Value.slice A n c).ownBlock) := Lib.hid (fun e => by
    rw [hn] at e
    rcases h.row.r.2 with ⟨e3, _⟩ | ⟨g', cap, cur, e3, hb, hh, _⟩
    · rw [e3] at e; simp [Value.ownBlock] at e
    · rw [e3] at e
      have e' : w.heap.size = g' := by simpa [Value.ownBlock] using e
      have := heap_lt hh
      omega)
  have KT2 : Hid (∀ V', Kept (fun i => some i = (Value.slice A n c).ownBlock) V V' → V'.cell? ⟨g, 0, none⟩ = some (.slice A n c)) := Lib.hid fun V' hV' => cells_at (i := 0) ((hV'.block g gV HNE.out).trans HOB.out) rfl
  have KY : Hid (∀ V', Kept (fun i => some i = (Value.slice A n c).ownBlock) V V' → V'.rangeAt w.heap.size 0 (clI y)) := Lib.hid fun V' hV' => range_heap ((hV'.block _ (heap_lt hbV) (fun e => HBX.out e)).trans hbV)
  have KY0 : Hid (∀ V', Kept (fun i => some i = (Value.slice A n c).ownBlock) V V' → V'.cell? ⟨w.heap.size, 0, none⟩ = some (.int .i64 y.x.n)) := Lib.hid fun V' hV' => cells_at (i := 0) ((hV'.block _ (heap_lt hbV) (fun e => HBX.out e)).trans hbV) rfl
  have KY1 : Hid (∀ V', Kept (fun i => some i = (Value.slice A n c).ownBlock) V V' → V'.cell? ⟨w.heap.size, 1, none⟩ = some (.bool y.x.up)) := Lib.hid fun V' hV' => cells_at (i := 1) ((hV'.block _ (heap_lt hbV) (fun e => HBX.out e)).trans hbV) rfl
  have KY2 : Hid (∀ V', Kept (fun i => some i = (Value.slice A n c).ownBlock) V V' → V'.cell? ⟨w.heap.size, 2, none⟩ = some (.slice y.A y.x.b.length y.c)) := Lib.hid fun V' hV' => cells_at (i := 2) ((hV'.block _ (heap_lt hbV) (fun e => HBX.out e)).trans hbV) rfl
  clear KT0 hNV hV hn
  have d1 : decide (y.x.n < 0) = false := decide_eq_false (by omega)
  have d2 : decide (y.x.n ≥ 64) = false := decide_eq_false (by omega)
  have d2' : decide (64 ≤ y.x.n) = false := d2
  have d3 : decide ((y.x.b.length : Int) > 65575) = false := decide_eq_false (by omega)
  have d3' : decide ((65575 : Int) < (y.x.b.length : Int)) = false := d3
  have dF : decide ((n : Int) ≥ room) = false := decide_eq_false (by omega)
  have dF' : decide (room ≤ (n : Int)) = false := dF
  have HRR := Lib.hid hr
  have HRM2 : n ≤ 4096 := by have := HRM.out; omega
  clear hy hr h hbV hA
  go_enter Try.func15, Try.ntmps15
  go_upto_region 1 with fail
  try rw [HV]
  clear HV
  go_upto_region 5 with fail
  refine wp_region_held_drew (S := fun V' => Below V.heap.size V V') (by kernel_rfl) (Below.refl _ V).drew (fun hS => ?_)
  refine held_pure (i := 0) (oi := ⟨some 20, _, _, _, _, _⟩) rfl (by kernel_rfl) (by kernel_rfl) (by kernel_rfl) (fun _ _ _ h => h) (by rfl) (v := ?_) (fun w hSw => ?_) hS (fun hS => ?_)
  rotate_left
  · go_simp; try with_reducible rfl
  try go_frame
  refine held_pure (i := 1) (oi := ⟨some 21, _, _, _, _, _⟩) rfl (by kernel_rfl) (by kernel_rfl) (by kernel_rfl) (fun _ _ _ h => h) (by rfl) (v := ?_) (fun w hSw => ?_) hS (fun hS => ?_)
  rotate_left
  · go_simp; try with_reducible rfl
  try go_frame
  refine held_pure (i := 2) (oi := ⟨some 22, _, _, _, _, _⟩) rfl (by kernel_rfl) (by kernel_rfl) (by kernel_rfl) (fun _ _ _ h => h) (by rfl) (v := ?_) (fun w hSw => ?_) hS (fun hS => ?_)
  rotate_left
  · go_simp; try with_reducible rfl
  try go_frame
  refine held_pure (i := 3) (oi := ⟨some 23, _, _, _, _, _⟩) rfl (by kernel_rfl) (by kernel_rfl) (by kernel_rfl) (fun _ _ _ h => h) (by rfl) (fun w hSw => run_load_itR rfl rfl (KT.out w hSw)) hS (fun hS => ?_)
  try go_frame
  refine held_pure (i := 4) (oi := ⟨some 24, _, _, _, _, _⟩) rfl (by kernel_rfl) (by kernel_rfl) (by kernel_rfl) (fun _ _ _ h => h) (by rfl) (v := ?_) (fun w hSw => ?_) hS (fun hS => ?_)
  rotate_left
  · go_simp; try with_reducible rfl
  try go_frame
  refine held_pure (i := 5) (oi := ⟨some 25, _, _, _, _, _⟩) rfl (by kernel_rfl) (by kernel_rfl) (by kernel_rfl) (fun _ _ _ h => h) (by rfl) (v := ?_) (fun w hSw => ?_) hS (fun hS => ?_)
  rotate_left
  · go_simp; try with_reducible rfl
  try go_frame
  refine held_pure (i := 6) (oi := ⟨some 26, _, _, _, _, _⟩) rfl (by kernel_rfl) (by kernel_rfl) (by kernel_rfl) (fun _ _ _ h => h) (by rfl) (v := ?_) (fun w hSw => ?_) hS (fun hS => ?_)
  rotate_left
  · go_simp; try with_reducible rfl
  try go_frame
  refine held_pure (i := 7) (oi := ⟨some 27, _, _, _, _, _⟩) rfl (by kernel_rfl) (by kernel_rfl) (by kernel_rfl) (fun _ _ _ h => h) (by rfl) (v := ?_) (fun w hSw => ?_) hS (fun hS => ?_)
  rotate_left
  · go_simp; try with_reducible rfl
  try go_frame
  refine held_pure (i := 8) (oi := ⟨some 28, _, _, _, _, _⟩) rfl (by kernel_rfl) (by kernel_rfl) (by kernel_rfl) (fun _ _ _ h => h) (by rfl) (fun w hSw => run_load_int rfl rfl (KR.out w hSw)) hS (fun hS => ?_)
  try go_frame
  refine held_pure (i := 9) (oi := ⟨some 29, _, _, _, _, _⟩) rfl (by kernel_rfl) (by kernel_rfl) (by kernel_rfl) (fun _ _ _ h => h) (by rfl) (v := .bool false) (fun w hSw => by go_simp; try exact dF) hS (fun hS => ?_)
  try go_frame
  refine held_pure (i := 10) (oi := ⟨some 19, _, _, _, _, _⟩) rfl (by kernel_rfl) (by kernel_rfl) (by kernel_rfl) (fun _ _ _ h => h) (by rfl) (v := .bool false) (fun w hSw => by go_simp) hS (fun hS => ?_)
  try go_frame
  refine wpAnyH_done (by kernel_rfl) ?_ _
  go_upto_region 7 with fail
  refine regionY 15 (fun V' => Kept (fun i => some i = (Value.slice A n c).ownBlock) V V') (by kernel_rfl) ?_
  have b0 : Below V.heap.size V V.drew.drew := (Below.refl _ V).drew.drew
  have hS : Kept (fun i => some i = (Value.slice A n c).ownBlock) V V.drew.drew := Kept.of_below b0
  generalize V.drew.drew = X0 at *
  refine pureY (i := 0) (oi := ⟨some 30, _, _, _, _, _⟩) rfl (by kernel_rfl) (by kernel_rfl) (by kernel_rfl) (by kernel_rfl) (by kernel_rfl) (fun _ _ _ h => h) (by rfl) (v := ?_) (fun w hSw => ?_) hS ?_
  rotate_left
  · go_simp; try with_reducible rfl
  try go_frame
  refine pureY (i := 1) (oi := ⟨some 31, _, _, _, _, _⟩) rfl (by kernel_rfl) (by kernel_rfl) (by kernel_rfl) (by kernel_rfl) (by kernel_rfl) (fun _ _ _ h => h) (by rfl) (v := ?_) (fun w hSw => ?_) hS ?_
  rotate_left
  · go_simp; try with_reducible rfl
  try go_frame
  refine pureY (i := 2) (oi := ⟨some 32, _, _, _, _, _⟩) rfl (by kernel_rfl) (by kernel_rfl) (by kernel_rfl) (by kernel_rfl) (by kernel_rfl) (fun _ _ _ h => h) (by rfl) (v := ?_) (fun w hSw => ?_) hS ?_
  rotate_left
  · go_simp; try with_reducible rfl
  try go_frame
  refine pureY (i := 3) (oi := ⟨some 33, _, _, _, _, _⟩) rfl (by kernel_rfl) (by kernel_rfl) (by kernel_rfl) (by kernel_rfl) (by kernel_rfl) (fun _ _ _ h => h) (by rfl) (v := ?_) (fun w hSw => ?_) hS ?_
  rotate_left
  · go_simp; try with_reducible rfl
  try go_frame
  refine pureY (i := 4) (oi := ⟨some 34, _, _, _, _, _⟩) rfl (by kernel_rfl) (by kernel_rfl) (by kernel_rfl) (by kernel_rfl) (by kernel_rfl) (fun _ _ _ h => h) (by rfl) (fun w hSw => run_load_itR rfl rfl (KT2.out _ hSw)) hS ?_
  try go_frame
  refine pureY (i := 5) (oi := ⟨some 35, _, _, _, _, _⟩) rfl (by kernel_rfl) (by kernel_rfl) (by kernel_rfl) (by kernel_rfl) (by kernel_rfl) (fun _ _ _ h => h) (by rfl) (v := ?_) (fun w hSw => ?_) hS ?_
  rotate_left
  · go_simp; try with_reducible rfl
  try go_frame
  refine pureY (i := 6) (oi := ⟨some 36, _, _, _, _, _⟩) rfl (by kernel_rfl) (by kernel_rfl) (by kernel_rfl) (by kernel_rfl) (by kernel_rfl) (fun _ _ _ h => h) (by rfl) (fun w hSw => run_load_int rfl rfl (KY0.out _ hSw)) hS ?_
  try go_frame
  refine pureY (i := 7) (oi := ⟨some 37, _, _, _, _, _⟩) rfl (by kernel_rfl) (by kernel_rfl) (by kernel_rfl) (by kernel_rfl) (by kernel_rfl) (fun _ _ _ h => h) (by rfl) (v := ?_) (fun w hSw => ?_) hS ?_
  rotate_left
  · go_simp; try with_reducible rfl
  try go_frame
  refine pureY (i := 8) (oi := ⟨some 38, _, _, _, _, _⟩) rfl (by kernel_rfl) (by kernel_rfl) (by kernel_rfl) (by kernel_rfl) (by kernel_rfl) (fun _ _ _ h => h) (by rfl) (fun w hSw => run_load_bool rfl rfl (KY1.out _ hSw)) hS ?_
  try go_frame
  refine pureY (i := 9) (oi := ⟨some 39, _, _, _, _, _⟩) rfl (by kernel_rfl) (by kernel_rfl) (by kernel_rfl) (by kernel_rfl) (by kernel_rfl) (fun _ _ _ h => h) (by rfl) (v := ?_) (fun w hSw => ?_) hS ?_
  rotate_left
  · go_simp; try with_reducible rfl
  try go_frame
  refine pureY (i := 10) (oi := ⟨some 40, _, _, _, _, _⟩) rfl (by kernel_rfl) (by kernel_rfl) (by kernel_rfl) (by kernel_rfl) (by kernel_rfl) (fun _ _ _ h => h) (by rfl) (fun w hSw => run_load_sl rfl rfl (KY2.out _ hSw)) hS ?_
  try go_frame
  refine oneY (i := 11) (oi := ⟨some 41, _, _, _, _, _⟩) (by kernel_rfl) rfl (by rfl) (fun K hK => ?_)
  refine appendI _ _ rfl w.heap.size (.slice none 0 0) 0 [] rfl (World.ownsRow_nil _ _ _ _) w.heap.size y.A y.c y.x.b rfl (HA.out.none_) ((HA.out.below (b0.mono bVz)).rd) (by omega) (Nat.le_trans bVz b0.size) ?_
  intro v6 w6 own6 grow6
  obtain ⟨P, p, rfl, o6⟩ := own_made (bs := y.x.b) own6 (Nat.zero_add _) (List.nil_append _)
  have b6 := b0.grown grow6 b0.size (fun _ hk => by cases hk)
  have o6 := own_base o6 hBw
  have hS : Kept (fun i => some i = (Value.slice A n c).ownBlock) V w6 := Kept.of_below b6
  refine hK _ _ (fun _ => hS) ?_
  clear hK K grow6 own6
  try go_frame
  try go_frame
  refine pureY (i := 12) (oi := ⟨some 42, _, _, _, _, _⟩) rfl (by kernel_rfl) (by kernel_rfl) (by kernel_rfl) (by kernel_rfl) (by kernel_rfl) (fun _ _ _ h => h) (by rfl) (v := .agg (clI ⟨y.x, P, p⟩).toArray) (fun w hSw => by go_simp; try rfl) hS ?_
  try go_frame
  refine oneY (i := 13) (oi := ⟨some 43, _, _, _, _, _⟩) (by kernel_rfl) rfl (by rfl) (fun K hK => ?_)
  refine valGI (run_bs_itR (cs := (clI ⟨y.x, P, p⟩).toArray) rfl rfl rfl) ?_
  have b7 := b6.alloc b6.size (.cells (clI ⟨y.x, P, p⟩).toArray 38)
  have k7 := World.alloc_heap_new w6 (.cells (clI ⟨y.x, P, p⟩).toArray 38)
  have o7 : OwnI (w6.alloc (.cells (clI ⟨y.x, P, p⟩).toArray 38)) B0 ⟨y.x, P, p⟩ := own_below o6 ((Below.refl _ w6).alloc (Nat.le_refl _) _)
  have hS : Kept (fun i => some i = (Value.slice A n c).ownBlock) V (w6.alloc (.cells (clI ⟨y.x, P, p⟩).toArray 38)) := Kept.of_below b7
  refine hK _ _ (fun _ => hS) ?_
  clear hK K o6 b6
  generalize w6.alloc (.cells (clI ⟨y.x, P, p⟩).toArray 38) = w7 at *
  generalize w6.heap.size = vb at *
  try go_frame
  try go_frame
  refine oneY (i := 14) (oi := ⟨some 44, _, _, _, _, _⟩) (by kernel_rfl) rfl (by rfl) (fun K hK => ?_)
  have hown7 := own_below HROW.out b7
  refine append_itR _ _ rfl B0 (.slice A n c) n (L.flatMap clI) rfl hown7 w7.heap.size (some ⟨vb, 0, none⟩) 1 1 [⟨y.x, P, p⟩] rfl rfl (fun e => by cases e) (rds_oneI k7) (by omega) (Nat.le_trans hBV b7.size) ?_
  intro v8 w8 own8 grow8
  have k8 : Kept (fun i => some i = (Value.slice A n c).ownBlock) V w8 := (Kept.of_below b7).trans (Kept.of_grown grow8) (fun _ _ e => e)
  have o8 : OwnI w8 B0 ⟨y.x, P, p⟩ := own_keepT o7 hown7 grow8 (nat_ne (by kernel_rfl))
  obtain ⟨A8, c8, rfl⟩ := own_slice own8
  have hS := k8
  refine hK _ _ (fun _ => hS) ?_
  clear hK K grow8
  try go_frame
  try go_frame
  refine oneY (i := 15) (oi := ⟨some 45, _, _, _, _, _⟩) (by kernel_rfl) rfl (by rfl) (fun K hK => ?_)
  refine valI (v := ?_) ?_ ?_
  rotate_left
  · go_simp; try with_reducible rfl
  refine hK _ _ (fun h => absurd h (by decide)) ?_
  clear hK K
  try go_frame
  refine oneY (i := 16) (oi := ⟨some 46, _, _, _, _, _⟩) (by kernel_rfl) rfl (by rfl) (fun K hK => ?_)
  refine valI (v := ?_) ?_ ?_
  rotate_left
  · go_simp; try with_reducible rfl
  refine hK _ _ (fun h => absurd h (by decide)) ?_
  clear hK K
  try go_frame
  refine oneY (i := 17) (oi := ⟨none, _, _, _, _, _⟩) (by kernel_rfl) rfl (by rfl) (fun K hK => ?_)
  have ht := (k8.block g gV HNE.out).trans HOB.out
  refine store_itR rfl rfl rfl (cells_at (i := 0) ht rfl) (heap_frozen ht 0) ?_
  refine hK _ _ (fun h => absurd h (by decide)) ?_
  clear hK K
  try go_frame
  try go_frame
  refine doneY (by kernel_rfl) ?_ _
  go_wp2
  go_ret
  have own9 : w8.ownsRow B0 38 3 (.slice A8 (n + 1) c8) (L ++ [(⟨y.x, P, p⟩ : IT)]).length ((L ++ [(⟨y.x, P, p⟩ : IT)]).flatMap clI) := by
    rw [List.length_append, List.flatMap_append, ← HNL.out]
    exact own8
  obtain ⟨q1, q2⟩ := HN0.out.put (by rw [← HNL.out]; exact HRR.out) k8 own9 o8
  exact ⟨rfl, _, P, p, q1, nnb_trans bV q2⟩
end
end Go.Proofs.Ytpoigngpdcmipaa

/-
  Layer 34: an item deleted from a row in place; Look and Take of both sides. Conditions are each theorem's own.
-/
namespace Go.Proofs.Ytpoigngpdcmipaa
open Go.RowKit Go.Shelf
def splLI : List Value → Nat → List Value → List Value
  | l, _, [] => l
  | l, o, v :: vs => splLI (l.set o v) (o + 1) vs
theorem splI_len : ∀ (vs l : List Value) (o : Nat), (splLI l o vs).length = l.length
  | [], _, _ => rfl
  | v :: vs, l, o => by rw [splLI, splI_len vs]; simp
theorem splI_get : ∀ (vs l : List Value) (o j : Nat), o + vs.length ≤ l.length → (splLI l o vs)[j]? = if o ≤ j ∧ j < o + vs.length then vs[j - o]? else l[j]?
  | [], l, o, j, _ => by rw [splLI, if_neg (by simp)]
  | v :: vs, l, o, j, h => by
    rw [List.length_cons] at h
    rw [splLI, splI_get vs (l.set o v) (o + 1) j (by rw [List.length_set]; omega), List.length_cons]
    by_cases h1 : o + 1 ≤ j ∧ j < o + 1 + vs.length
    · rw [if_pos h1, if_pos (by omega), show j - o = (j - (o + 1)) + 1 from by omega, List.getElem?_cons_succ]
    · rw [if_neg h1]
      by_cases h2 : j = o
      · subst h2
        rw [if_pos (by omega), Nat.sub_self, List.getElem?_cons_zero, List.getElem?_set, if_pos rfl, if_pos (by omega)]
      · rw [if_neg (by omega), List.getElem?_set, if_neg (by omega)]
theorem splI_take : ∀ (vs l : List Value) (o m : Nat), (splLI l o vs).take m = splLI (l.take m) o vs
  | [], _, _, _ => rfl
  | v :: vs, l, o, m => by rw [splLI, splLI, splI_take vs, List.take_set]
theorem heap_setCellsLI {T : TypeId} (b : Nat) : ∀ (vs : List Value) (o : Nat) (w : World) (cur : Array Value), w.heap[b]? = some (.cells cur T (0, 0)) → (w.setCells b o vs).heap[b]? = some (.cells (splLI cur.toList o vs).toArray T (0, 0))
  | [], _, _, cur, h => by rw [splLI, Array.toArray_toList]; exact h
  | v :: vs, o, w, cur, h => by
    have h1 := heap_setCellsLI b vs (o + 1) (w.setCell ⟨b, o, none⟩ v) _ (heap_setCell_same w b o cur T v h)
    rw [splLI]
    rw [Array.toList_setIfInBounds] at h1
    exact h1
theorem kept_setCellsI (g : Nat) : ∀ (vs : List Value) (o : Nat) (w : World), Kept (fun i => i = g) w (w.setCells g o vs)
  | [], _, w => Kept.of_below (Below.refl _ w)
  | v :: vs, o, w => (Kept.setCell w g o v).trans (kept_setCellsI g vs (o + 1) (w.setCell ⟨g, o, none⟩ v)) (fun _ _ h => h)
theorem zero_it (w : World) : (zeroValue 33).run Try.prog w = .ok (.agg #[.int .i64 0, .bool false, .slice none 0 0]) w := by kernel_rfl
def zIt : List Value := [.int .i64 0, .bool false, .slice none 0 0]
/-- clear of one item. -/
theorem run_clear_it (w : World) (g o c k : Nat) (ty : TypeId) (cur : Array Value) (t : TypeId) (hg : w.heap[g]? = some (.cells cur t (0, 0))) (hfit : o + 3 ≤ cur.size) (hk : k = 1) :
    (Builtin.clear_ #[55] ty #[.slice (some ⟨g, o, none⟩) k c]).run Try.prog w = .ok (.tuple #[]) (w.setRow g (splice cur.toList o zIt).toArray) := by
  subst hk
  have hst := run_storeCells_at Try.prog g o t zIt 0 cur w hg (by simpa [zIt] using hfit) (by intro u hu; simp [zIt] at hu; rcases hu with rfl | rfl | rfl <;> rfl)
  have hz : (Builtin.zeroCells (Value.agg #[.int .i64 0, .bool false, .slice none 0 0]).cells 1).toList = zIt := by kernel_rfl
  simp only [Nat.add_zero] at hst
  have hzv := zero_it w
  simp [Builtin.clear_, run_underlying Try.underlying55, hzv, hz, hst, splice]
theorem splice_take {α : Type} (L cs : List α) (k m : Nat) (h : k + cs.length ≤ L.length) (hm : m ≤ k) : (splice L k cs).take m = L.take m := by
  apply List.ext_getElem?
  intro j
  rw [List.getElem?_take, List.getElem?_take]
  by_cases hj : j < m
  · rw [if_pos hj, if_pos hj, splice_get h, if_neg (by omega)]
  · rw [if_neg hj, if_neg hj]
theorem flat_take (L : List IT) (i : Nat) : (L.take i).flatMap clI = (L.flatMap clI).take (i * 3) ∧ (L.drop i).flatMap clI = (L.flatMap clI).drop (i * 3) := by
  induction L generalizing i with
  | nil => simp
  | cons a L ih =>
    cases i with
    | zero => simp
    | succ i =>
      obtain ⟨h1, h2⟩ := ih i
      rw [List.take_succ_cons, List.drop_succ_cons, List.flatMap_cons, List.flatMap_cons, h1, h2]
      have e : (i + 1) * 3 = (clI a).length + i * 3 := by show _ = 3 + i * 3; omega
      rw [e, List.take_length_add_append, List.drop_length_add_append]
      exact ⟨rfl, rfl⟩
theorem erase_flat (L : List IT) (k : Nat) : (L.eraseIdx k).flatMap clI = (L.flatMap clI).take (k * 3) ++ (L.flatMap clI).drop ((k + 1) * 3) := by
  rw [List.eraseIdx_eq_take_drop_succ, List.flatMap_append, (flat_take L k).1, (flat_take L (k + 1)).2]
theorem run_cutC_lx {o : Oper} {a : Act} {w : World} {x lo : Operand} {A C : Option Addr} {n c l m : Nat} (ho : o.op = .slice 55 x (some lo) none none) (hx : a.eval x = .slice A n c) (hl : a.eval lo = .int .i64 (l : Int)) (hn : l ≤ n) (hm : m = n - l) (hC : cutI A c l = C) :
    (execOp a.eval o).run Try.prog w = .ok (.value (.slice C m (c - l))) w := by
  subst hC
  exact run_cutC_l ho hx hl hn hm
set_option maxRecDepth 100000 in
set_option maxHeartbeats 4000000 in
theorem ntdelete (w : World) (g c k : Nat) (L : List IT) (B : Nat) (h : w.ownsRow B 33 3 (.slice (some ⟨g, 0, none⟩) L.length c) L.length (L.flatMap clI)) (hk : k < L.length) :
    Calls Try.prog 21 #[.slice (some ⟨g, 0, none⟩) L.length c, .int .i64 (k : Int), .int .i64 ((k : Int) + 1)] w fun e w' => e = .returned (.slice (some ⟨g, 0, none⟩) (L.length - 1) c) ∧ w'.ownsRow B 33 3 (.slice (some ⟨g, 0, none⟩) (L.length - 1) c) (L.length - 1) ((L.eraseIdx k).flatMap clI) ∧ Kept (fun i => i = g) w w' := by
  rcases h.2 with ⟨hv, _⟩ | ⟨g', cap, cur, hv, hb, hh, hle, hm, hs, ht⟩
  · cases hv
  injection hv with e1 _ e3
  injection e1 with e1
  injection e1 with e1
  subst e1; subst e3
  obtain ⟨n, hn⟩ : ∃ n, n = L.length := ⟨_, rfl⟩
  obtain ⟨xs, hxs⟩ : ∃ xs, xs = L.flatMap clI := ⟨_, rfl⟩
  have hxl : xs.length = n * 3 := by rw [hxs, hn]; exact clI_flat L
  rw [← hxs] at ht
  rw [← hn] at hle ht hk ⊢
  obtain ⟨i0, hi, hz0, hz1, hz2⟩ := info_parts info_itC
  obtain ⟨news, hnews⟩ : ∃ news, news = xs.drop ((k + 1) * 3) := ⟨_, rfl⟩
  have hnl : news.length = (n - (k + 1)) * 3 := by rw [hnews, List.length_drop, hxl]; omega
  have hcu : ∀ j u, xs[j]? = some u → cur[j]? = some u := fun j u hj => by
    rw [← ht, List.getElem?_take] at hj
    split at hj
    · rw [← Array.getElem?_toList]; exact hj
    · cases hj
  have hne : ∀ j u, news[j]? = some u → w.drew.cell? ⟨g, (k + 1) * 3 + j, none⟩ = some u := fun j u hj => by
    rw [hnews, List.getElem?_drop] at hj
    exact cell_of_row w.drew g _ cur _ _ hh |>.trans (hcu _ _ hj)
  obtain ⟨ad, had, hsrc⟩ : ∃ ad : Addr, cutI (some ⟨g, 0, none⟩) c (k + 1) = some ad ∧ Hid (∀ j u, news[j]? = some u → w.drew.cell? (ad.add j) = some u) := by
    by_cases hc : c = k + 1
    · refine ⟨⟨g, 0, none⟩, by rw [cutI, if_pos hc], Lib.hid fun j u hj => ?_⟩
      have : news.length = 0 := by rw [hnl]; omega
      rw [List.length_eq_zero_iff.1 this] at hj
      cases hj
    · refine ⟨⟨g, (k + 1) * 3, none⟩, by rw [cutI, if_neg hc]; show some (Addr.add ⟨g, 0, none⟩ ((k + 1) * 3)) = _; rw [add_off, Nat.zero_add], Lib.hid fun j u hj => ?_⟩
      rw [add_off]; exact hne j u hj
  have s0 := hsrc
  have s1 : Hid (news.length = (n - (k + 1)) * 3) := Lib.hid hnl
  have s2 : Hid (∀ u ∈ news, u.oneCell' = true) := Lib.hid (fun u hu => by
    rw [hnews, hxs] at hu
    exact ones_I L u (List.mem_of_mem_drop hu))
  have s3 : Hid (∀ j, j < news.length → (w.drew.cell? ⟨g, 0 + k * 3 + j, none⟩).isSome = true ∧ w.drew.frozen? ⟨g, 0 + k * 3 + j, none⟩ = false) := Lib.hid (fun j hj => by
    have hlt : 0 + k * 3 + j < cur.size := by
      rw [hnl] at hj
      have h1 := Nat.mul_le_mul_right 3 hle
      rw [hs]; omega
    refine ⟨?_, heap_frozen (show w.drew.heap[g]? = _ from hh) _⟩
    rw [cell_of_row w.drew g _ cur _ _ hh, Array.getElem?_eq_getElem hlt]
    rfl)
  have dk : ((k : Int) == (k : Int) + 1) = false := beq_eq_false_iff_ne.2 (by omega)
  have hmx : maxLen = 9223372036854775807 := rfl
  have hkk : ((k : Int) + 1) = ((k + 1 : Nat) : Int) := by push_cast; rfl
  have HHH := Lib.hid hh
  have HTT := Lib.hid ht
  have HSZ := Lib.hid hs
  have HNW := Lib.hid hnews
  have HXS := Lib.hid hxs
  have HXL := Lib.hid hxl
  have HNN := Lib.hid hn
  have HNL := Lib.hid hnl
  have HBB := Lib.hid hb
  have HMC := Lib.hid hm
  have hkn : (n : Int) - ((k : Int) + 1) = ((n - (k + 1) : Nat) : Int) := by omega
  clear h hh ht hs hnews hxs hxl hcu hne hsrc hn hnl hb hz0 hz2
  rw [hkk]
  rw [hkk] at dk
  clear hkk
  go_enter Try.func21, Try.ntmps21
  go_upto_region 5 with fail
  refine wp_region_held_drew (S := fun _ => True) (by kernel_rfl) trivial (fun hS => ?_)
  refine held_pure (i := 0) (oi := ⟨some 20, _, _, _, _, _⟩) rfl (by kernel_rfl) (by kernel_rfl) (by kernel_rfl) (fun _ _ _ h => h) (by rfl) (v := ?_) (fun w hSw => ?_) hS (fun hS => ?_)
  rotate_left
  · go_simp; try with_reducible rfl
  try go_frame
  refine held_pure (i := 1) (oi := ⟨some 21, _, _, _, _, _⟩) rfl (by kernel_rfl) (by kernel_rfl) (by kernel_rfl) (fun _ _ _ h => h) (by rfl) (v := ?_) (fun w hSw => ?_) hS (fun hS => ?_)
  rotate_left
  · go_simp; try with_reducible rfl
  try go_frame
  refine held_pure (i := 2) (oi := ⟨some 22, _, _, _, _, _⟩) rfl (by kernel_rfl) (by kernel_rfl) (by kernel_rfl) (fun _ _ _ h => h) (by rfl) (fun w hSw => run_cutC_h (h := (k : Int)) rfl rfl rfl (by omega) (by omega) (m := k) (by omega)) hS (fun hS => ?_)
  try go_frame
  refine held_pure (i := 3) (oi := ⟨some 23, _, _, _, _, _⟩) rfl (by kernel_rfl) (by kernel_rfl) (by kernel_rfl) (fun _ _ _ h => h) (by rfl) (v := ?_) (fun w hSw => ?_) hS (fun hS => ?_)
  rotate_left
  · go_simp; try with_reducible rfl
  try go_frame
  refine held_pure (i := 4) (oi := ⟨some 24, _, _, _, _, _⟩) rfl (by kernel_rfl) (by kernel_rfl) (by kernel_rfl) (fun _ _ _ h => h) (by rfl) (v := ?_) (fun w hSw => ?_) hS (fun hS => ?_)
  rotate_left
  · go_simp; try with_reducible rfl
  try go_frame
  refine held_pure (i := 5) (oi := ⟨some 25, _, _, _, _, _⟩) rfl (by kernel_rfl) (by kernel_rfl) (by kernel_rfl) (fun _ _ _ h => h) (by rfl) (fun w hSw => run_cutC_lx rfl rfl (l := k + 1) rfl (by omega) (m := n - (k + 1)) rfl had) hS (fun hS => ?_)
  try go_frame
  refine wpAnyH_ready (rs := [6]) (by kernel_rfl) (by simp) (AllReadyH.cons (o := ⟨some 26, _, _, _, _, _⟩) rfl (fun K hK => ?_) AllReadyH.nil)
  refine step_append_room rfl (.tmp 22) (.tmp 25) 55 rfl 33 i0 3 Try.underlying55 hi hz1 g 0 k c rfl ad (n - (k + 1)) (c - (k + 1)) news rfl s1.out s0.out s2.out (by omega) s3.out ?_
  refine hK _ _ trivial (fun hS => ?_)
  clear hK K
  try go_frame
  refine held_pure (i := 7) (oi := ⟨some 0, _, _, _, _, _⟩) rfl (by kernel_rfl) (by kernel_rfl) (by kernel_rfl) (fun _ _ _ h => h) (by rfl) (v := ?_) (fun w hSw => ?_) hS (fun hS => ?_)
  rotate_left
  · go_simp; try with_reducible rfl
  try go_frame
  refine wpAnyH_done (by kernel_rfl) ?_ _

  have hg1 : (w.drew.setCells g (0 + k * 3) news).heap[g]? = some (.cells (splLI cur.toList (k * 3) news).toArray 33 (0, 0)) := by
    rw [Nat.zero_add]
    exact heap_setCellsLI g news (k * 3) w.drew cur HHH.out
  have hfit : k * 3 + news.length ≤ cur.toList.length := by
    have h9 := Nat.mul_le_mul_right 3 hle
    have h8 := HSZ.out
    have h7 := HNL.out
    have h6 : cur.toList.length = cur.size := Array.length_toList
    omega
  have hsz1 : (splLI cur.toList (k * 3) news).toArray.size = cur.size := by
    rw [List.size_toArray, splI_len, Array.length_toList]
  have hcl : ∀ ty, (Builtin.clear_ #[55] ty #[.slice (some ⟨g, (n - 1) * 3, none⟩) (n - (n - 1)) (c - (n - 1))]).run Try.prog (w.drew.setCells g (0 + k * 3) news) = .ok (.tuple #[]) ((w.drew.setCells g (0 + k * 3) news).setRow g (splice (splLI cur.toList (k * 3) news).toArray.toList ((n - 1) * 3) zIt).toArray) := fun ty =>
    run_clear_it _ g ((n - 1) * 3) (c - (n - 1)) (n - (n - 1)) ty _ _ hg1 (by rw [hsz1, HSZ.out]; have := Nat.mul_le_mul_right 3 hle; omega) (by omega)
  have hkept : Kept (fun i => i = g) w (w.drew.setCells g (0 + k * 3) news) := (Kept.drew w).trans (kept_setCellsI g news (0 + k * 3) w.drew) (fun _ _ h => h)
  have HFIN : Hid (((splice (splLI cur.toList (k * 3) news).toArray.toList ((n - 1) * 3) zIt).take ((n - 1) * 3)) = (L.eraseIdx k).flatMap clI) := Lib.hid (by
    have hz3 : zIt.length = 3 := rfl
    have h9 := Nat.mul_le_mul_right 3 hle
    have h7 := HNL.out
    have hl1 : (splLI cur.toList (k * 3) news).toArray.toList.length = c * 3 := by rw [List.toList_toArray, splI_len, Array.length_toList, HSZ.out]
    rw [splice_take _ _ _ _ (by rw [hl1, hz3]; omega) (Nat.le_refl _), List.toList_toArray, erase_flat, ← HXS.out]
    apply List.ext_getElem?
    intro j
    rw [List.getElem?_take]
    by_cases hj : j < (n - 1) * 3
    · rw [if_pos hj, splI_get _ _ _ _ hfit]
      have hx3 := HXL.out
      by_cases h1 : k * 3 ≤ j
      · rw [if_pos ⟨h1, by omega⟩, List.getElem?_append_right (by simp; omega), HNW.out, List.getElem?_drop, List.getElem?_drop, List.length_take, Nat.min_eq_left (by omega)]
      · rw [if_neg (by omega), List.getElem?_append_left (by simp; omega), List.getElem?_take, if_pos (by omega), ← HTT.out, List.getElem?_take, if_pos (by omega)]
    · rw [if_neg hj, List.getElem?_eq_none]
      have hx3 := HXL.out
      rw [List.length_append, List.length_take, List.length_drop, hx3]; omega)
  have HX := Lib.hid hg1
  have HS1 := Lib.hid hsz1
  have HKP := Lib.hid hkept
  have hkn1 : k + (n - (k + 1)) = n - 1 := by omega
  have hcn : ¬ c = n - 1 := by omega
  have hn1 : n - 1 ≤ n := Nat.sub_le _ _
  have hnc : n - 1 ≤ c := by omega
  rw [hkn1]
  clear hkept hg1 hsz1 hkn1 s0 s1 s2 s3 had hfit dk hkn
  generalize w.drew.setCells g (0 + k * 3) news = X at *
  go_wp2
  go_ret
  have hlt : n - 1 ≤ c := hnc
  have hq := setRow_heap X g _ (splice (splLI cur.toList (k * 3) news).toArray.toList ((n - 1) * 3) zIt).toArray _ _ HX.out
  have hspl : (splice (splLI cur.toList (k * 3) news).toArray.toList ((n - 1) * 3) zIt).toArray.size = c * 3 := by
    have h9 := Nat.mul_le_mul_right 3 hle
    have hl1 : (splLI cur.toList (k * 3) news).toArray.toList.length = c * 3 := by rw [Array.length_toList, HS1.out, HSZ.out]
    unfold splice
    simp only [List.size_toArray, List.length_append, List.length_take, List.length_drop, hl1]
    have hz3 : zIt.length = 3 := rfl
    rw [hz3]; omega
  have hel : ((L.eraseIdx k).flatMap clI).length = (n - 1) * 3 := by rw [clI_flat, List.length_eraseIdx, if_pos (by rw [← HNN.out]; exact hk), HNN.out]
  refine ⟨rfl, ⟨hel, .inr ⟨g, c, _, rfl, HBB.out, hq, hlt, HMC.out, hspl, ?_⟩⟩, HKP.out.trans (Kept.setRow X g _) (fun _ _ h => h)⟩
  rw [List.toList_toArray]; exact HFIN.out
end Go.Proofs.Ytpoigngpdcmipaa
