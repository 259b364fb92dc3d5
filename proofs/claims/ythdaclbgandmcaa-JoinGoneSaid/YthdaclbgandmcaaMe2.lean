/-
  Contracts and lemmas on which the proofs of this seat stand (several texts in one). Conditions are each theorem's own.
-/
import Derived.Test.YthdaclbgandmcaaMe1
import Derived.Maps.RangeWalk
import Derived.Sort.OwnSorted

/-
  Expire of layer 16's code. Conditions are each theorem's own.
-/
namespace Go.Proofs.Ythdaclbgandmcaa
open Go.RowKit Go.Shelf Go.Maps Go.Sort
theorem pw_eqK : ∀ {l : List Bu}, l.Pairwise (fun a b => a.key ≠ b.key) → ∀ {a b : Bu}, a ∈ l → b ∈ l → a.key = b.key → a = b
  | [], _, _, _, ha, _, _ => by cases ha
  | x :: l, h, a, b, ha, hb, e => by
    obtain ⟨h1, h2⟩ := List.pairwise_cons.1 h
    rcases List.mem_cons.1 ha with rfl | ha'
    · rcases List.mem_cons.1 hb with rfl | hb'
      · rfl
      · exact absurd e (h1 b hb')
    · rcases List.mem_cons.1 hb with rfl | hb'
      · exact absurd e.symm (h1 a ha')
      · exact pw_eqK h2 ha' hb' e
theorem own_det {w : World} {b n n' : Nat} {D D' : DataW Unit} {k : TypeId} {R : Value → Option (DataW Unit × List MemPlace)} (h : w.ownsMap Try.prog k R b n D) (h' : w.ownsMap Try.prog k R b n' D') : D = D' := by
  obtain ⟨es, c, hb, F, hs, hD⟩ := h
  obtain ⟨es', c', hb', F', hs', hD'⟩ := h'
  rw [hb] at hb'
  simp only [Option.some.injEq, Obj.map.injEq] at hb'
  obtain ⟨rfl, rfl⟩ := hb'
  rw [hD, hD']
theorem ranges_kept {Z : Nat → Prop} {w w' : World} {b r n cnt : Nat} {D : DataW Unit} {k : TypeId} {R : Value → Option (DataW Unit × List MemPlace)} {left : Lit → Bool} (h : w.ranges Try.prog k R b r n D left cnt) (hk : Kept Z w w') (hb : ¬ Z b) (hr : ¬ Z r) : w'.ranges Try.prog k R b r n D left cnt := by
  have h1 := h.owns.lt
  have h2 := h.lt
  obtain ⟨es, clock, since, seen, c0, hb', F, hs, hD, hr', rest⟩ := h
  exact ⟨es, clock, since, seen, c0, (hk.block b h1 hb).trans hb', F, hs, hD, (hk.block r h2 hr).trans hr', rest⟩
theorem keyOf_sq {key : Value} {kl : Lit} (h : keyOf Try.prog 9 key = some kl) : ∃ x : List UInt8, key = sq x ∧ kl = .string x ∧ x.length ≤ maxLen := by
  cases key <;> simp [keyOf, Try.underlying9, mapKey] at h
  rename_i s
  refine ⟨s.data.toList, ?_, h.2.symm, ?_⟩
  · unfold sq strB; simp
  · simpa using h.1
theorem ptr_any {v : Value} {y : DataW Unit × List MemPlace} (h : ptrElem v = some y) : ∃ o : Option Nat, v = .pointer (o.map fun g => ⟨g, 0, none⟩) := by
  unfold ptrElem at h
  split at h
  · exact ⟨none, rfl⟩
  · exact ⟨some _, rfl⟩
  · cases h
/-- A table, while blocks that are none of its own are written. -/
theorem Tx.awayP {Z : Nat → Prop} {U : TypeId → Prop} {w w' : World} {t bm : Nat} {tot mb my wt : Int} {M : List (List UInt8 × Nat)} {S : List Bu} (h : Tx w t bm tot mb my wt M S) (k : Kept Z w w') (ha : AwayT w Z U)
    (h0 : ¬ U 89) (h1 : ¬ U 163) (h2 : ¬ U 158) (h3 : ¬ U 5) (h4 : ¬ U 93) (hb : ¬ Z bm) : Tx w' t bm tot mb my wt M S := by
  obtain ⟨es, hm, hp⟩ := h.map
  exact ⟨(k.block t (heap_lt h.obj) (fun s => h0 (ha t s _ _ _ h.obj))).trans h.obj, ⟨es, own_map_kept hm k hb, hp⟩, h.ndm, h.nd, h.len,
    fun s hs => (h.bx s hs).keptA k ha h1 h2 h3 (fun z => h4 (ha s.g z _ _ _ (h.bx s hs).obj)), h.ap⟩
def TStr (t : TypeId) : Prop := t = 9
theorem ts_no : ¬ TStr 89 ∧ ¬ TStr 163 ∧ ¬ TStr 158 ∧ ¬ TStr 5 ∧ ¬ TStr 93 := by
  refine ⟨?_, ?_, ?_, ?_, ?_⟩ <;> (intro h; exact absurd h (nat_ne (by kernel_rfl)))
theorem tt_str : ¬ TT 9 := fun h => absurd h (nat_ne (by kernel_rfl))
theorem info_sq : (Try.prog.info? 9).map (fun i => (i.zero, i.size, i.bytes)) = some (some (.string ByteArray.empty), 1, 16) := by kernel_rfl
theorem append_sq {w : World} {ops : Array Oper} {rest : List Oper} {o : Oper} {a : Act} {Q : Exit → Act → World → Prop} (hgd : o.guard = none) (s x : Operand)
    (ho : o.op = .call { callee := .builtin .append, args := #[s, x], argTypes := #[36, 36] })
    (base : Nat) (v : Value) (n : Nat) (ls : List (List UInt8)) (hs : a.eval s = v) (hown : w.ownsRow base 9 1 v n (ls.map sq))
    (g : Nat) (y : List UInt8) (hx : a.eval x = .slice (some ⟨g, 0, none⟩) 1 1) (hy : w.cell? ⟨g, 0, none⟩ = some (sq y))
    (hlen : n ≤ 1000000) (hbase : base ≤ w.heap.size)
    (h : ∀ v' w', w'.ownsRow base 9 1 v' (n + 1) ((ls ++ [y]).map sq) → w.grownBy w' v.ownBlock → wpList Try.prog ops Q rest (a.put o.dst v') w') : wpList Try.prog ops Q (o :: rest) a w := by
  obtain ⟨i0, hi, hz0, hz1, hz2⟩ := info_parts info_sq
  refine wpList_append_own w hgd s x 36 ho base 9 i0 (.string ByteArray.empty) 1 16 Try.underlying36 hi hz0 hz1 hz2 rfl (by decide) v n (ls.map sq) hs hown ⟨g, 0, none⟩ 1 1 [sq y] hx
      rfl (fun j u hu => ?_) (by intro u hu; simp only [List.mem_singleton] at hu; subst hu; rfl) (by unfold maxLen; omega) (by omega) hbase (fun v' w' h1 h2 _ => h v' w' (by simpa using h1) h2)
  have hj : j = 0 := by have := (List.getElem?_eq_some_iff.1 hu).1; simp at this; exact this
  subst hj
  simp only [List.getElem?_cons_zero, Option.some.injEq] at hu
  rw [← hu, add_off]; exact hy

/-- The step of a range over a table's map: a buffer comes. -/
theorem wpList_next_buf {w : World} {ops : Array Oper} {rest : List Oper} {o : Oper} {a : Act} {Q : Exit → Act → World → Prop} (hg : o.guard = none) (it : Operand) (hop : o.op = Op.next it false)
    {t bm r n cnt : Nat} {tot mb my wt : Int} {R S : List Bu} {D : DataW Unit} {left : Lit → Bool} (hT : Tx w t bm tot mb my wt (R.map Bu.kg) S) (h : w.ranges Try.prog 9 ptrElem bm r n D left cnt)
    (hit : a.eval it = .pointer (some ⟨r, 0, none⟩))
    (hDone : cnt = 0 → (∀ kl, left kl = false) → wpList Try.prog ops Q rest (a.put o.dst (.tuple #[.bool false])) w)
    (hMore : ∀ (s : Bu) (w' : World) (cnt' : Nat), s ∈ R → left (.string s.key) = true → w'.ranges Try.prog 9 ptrElem bm r n D (fun z => left z && !z.sameKey (.string s.key)) cnt' → cnt' < cnt →
      w.grownBy w' (some r) → w'.heap.size = w.heap.size → (Instr.entry (.pointer (some ⟨r, 0, none⟩))).run Try.prog w' = .ok (.tuple #[sq s.key, .pointer (some ⟨s.g, 0, none⟩)]) w' →
      wpList Try.prog ops Q rest (a.put o.dst (.tuple #[.bool true, sq s.key, .pointer (some ⟨s.g, 0, none⟩)])) w') :
    wpList Try.prog ops Q (o :: rest) a w := by
  refine wpList_next_ranges w hg it hop 9 klaw ptrElem sq (fun o : Option Nat => .pointer (o.map fun g => ⟨g, 0, none⟩)) (fun key kl hk => by obtain ⟨x, e, _⟩ := keyOf_sq hk; exact ⟨x, e⟩) (fun v y hv => ptr_any hv) bm r n D left cnt hit h hDone
    (fun x c kl y w' cnt' hkx hlx hR hat hrg hlt hgr hsz hen => ?_)
  obtain ⟨x', ex, ekl, _⟩ := keyOf_sq hkx
  have e1 : x = x' := by
    have e2 : strB x = strB x' := by unfold sq at ex; injection ex
    have e3 := congrArg (fun b => b.data.toList) e2
    simpa [strB] using e3
  subst e1
  subst ekl
  obtain ⟨es, hm, hp⟩ := hT.map
  obtain rfl : D = .map es := own_det h.owns hm
  by_cases hin : ∃ p ∈ R.map Bu.kg, p.1 = x
  · obtain ⟨p, hpm, hpx⟩ := hin
    obtain ⟨s, hs, rfl⟩ := List.mem_map.1 hpm
    have h1 := en_at hp hT.ndm hpm (.lit (.int .i64 0))
    rw [hpx, hat] at h1
    have hc : (Value.pointer (c.map fun g => ⟨g, 0, none⟩)) = .pointer (some ⟨s.g, 0, none⟩) := by
      obtain ⟨y1, y2⟩ := y
      simp only at h1
      rw [h1] at hR
      exact ptr_inv hR
    have hsx : s.key = x := hpx
    subst hsx
    rw [hc] at hen ⊢
    exact hMore s w' cnt' hs hlx hrg hlt hgr hsz hen
  · exfalso
    have hno : ∀ p ∈ R.map Bu.kg, p.1 ≠ x := fun p hp' e => hin ⟨p, hp', e⟩
    have h1 := en_none hp hno (.lit (.int .i64 0))
    have h2 := en_none hp hno (.lit (.int .i64 1))
    rw [hat] at h1 h2
    rw [h1] at h2
    simp at h2

section
variable {w : World} {t bm : Nat} {tot mb my wt : Int} {M : List (List UInt8 × Nat)} {S : List Bu}
set_option maxRecDepth 100000 in
theorem jdropR {r n cnt : Nat} {D : DataW Unit} {left : Lit → Bool} (hrg : w.ranges Try.prog 9 ptrElem bm r n D left cnt) (hT : Tx w t bm tot mb my wt M S) (s : Bu) (hb : Bx w s) (hk : s.key.length ≤ maxLen) (ht0 : 0 ≤ tot ∧ tot ≤ 1000000000000) (hs0 : 0 ≤ s.by ∧ s.by ≤ 1000000000000) :
    Calls Try.prog 46 #[.pointer (some ⟨t, 0, none⟩), sq s.key, .pointer (some ⟨s.g, 0, none⟩)] w fun e w' =>
      e = .returned (.tuple #[]) ∧ Tx w' t bm (tot - s.by) mb my wt (withoutM s.key M) S ∧ Kept (fun k => k = t ∨ k = bm) w w' ∧ ∃ cnt', w'.ranges Try.prog 9 ptrElem bm r n (D.del (.string s.key)) (fun z => left z && !z.sameKey (.string s.key)) cnt' ∧ cnt' ≤ cnt := by
  have HRG := Lib.hid hrg
  clear hrg
  have ht := hT.obj
  have htz := heap_lt ht
  have hg := hb.obj
  have hgz := heap_lt hg
  have HW : Hid (IntKind.i64.wrap (tot - s.by) = tot - s.by) := Lib.hid (IntWalk.i64_in _ (by omega))
  have HT := Lib.hid hT
  clear hT
  unfold sq
  go_enter Try.func46, Try.ntmps46
  go_upto_region 0 with fail
  refine regionY 10 (fun w' => Below w.heap.size w w') (by kernel_rfl) ?_
  have hS := (Below.refl w.heap.size w).drew
  generalize w.drew = w8 at *
  refine pureY (i := 0) (oi := ⟨some 6, _, _, _, _, _⟩) rfl (by kernel_rfl) (by kernel_rfl) (by kernel_rfl) (by kernel_rfl) (by kernel_rfl) (fun _ _ _ h => h) (by rfl) (v := ?_) (fun w hSw => ?_) hS ?_
  rotate_left
  · go_simp; try with_reducible rfl
  try go_frame
  refine pureY (i := 1) (oi := ⟨some 7, _, _, _, _, _⟩) rfl (by kernel_rfl) (by kernel_rfl) (by kernel_rfl) (by kernel_rfl) (by kernel_rfl) (fun _ _ _ h => h) (by rfl) (v := ?_) (fun w hSw => ?_) hS ?_
  rotate_left
  · go_simp; try with_reducible rfl
  try go_frame
  refine pureY (i := 2) (oi := ⟨some 8, _, _, _, _, _⟩) rfl (by kernel_rfl) (by kernel_rfl) (by kernel_rfl) (by kernel_rfl) (by kernel_rfl) (fun _ _ _ h => h) (by rfl) (v := ?_) (fun w hSw => ?_) hS ?_
  rotate_left
  · go_simp; try with_reducible rfl
  try go_frame
  refine pureY (i := 3) (oi := ⟨some 9, _, _, _, _, _⟩) rfl (by kernel_rfl) (by kernel_rfl) (by kernel_rfl) (by kernel_rfl) (by kernel_rfl) (fun _ _ _ h => h) (by rfl) (fun w hSw => run_load_int rfl rfl (cells_at (i := 1) ((hSw.block t htz).trans ht) rfl)) hS ?_
  try go_frame
  refine pureY (i := 4) (oi := ⟨some 10, _, _, _, _, _⟩) rfl (by kernel_rfl) (by kernel_rfl) (by kernel_rfl) (by kernel_rfl) (by kernel_rfl) (fun _ _ _ h => h) (by rfl) (v := ?_) (fun w hSw => ?_) hS ?_
  rotate_left
  · go_simp; try with_reducible rfl
  try go_frame
  refine pureY (i := 5) (oi := ⟨some 11, _, _, _, _, _⟩) rfl (by kernel_rfl) (by kernel_rfl) (by kernel_rfl) (by kernel_rfl) (by kernel_rfl) (fun _ _ _ h => h) (by rfl) (v := ?_) (fun w hSw => ?_) hS ?_
  rotate_left
  · go_simp; try with_reducible rfl
  try go_frame
  refine pureY (i := 6) (oi := ⟨some 12, _, _, _, _, _⟩) rfl (by kernel_rfl) (by kernel_rfl) (by kernel_rfl) (by kernel_rfl) (by kernel_rfl) (fun _ _ _ h => h) (by rfl) (v := ?_) (fun w hSw => ?_) hS ?_
  rotate_left
  · go_simp; try with_reducible rfl
  try go_frame
  refine pureY (i := 7) (oi := ⟨some 13, _, _, _, _, _⟩) rfl (by kernel_rfl) (by kernel_rfl) (by kernel_rfl) (by kernel_rfl) (by kernel_rfl) (fun _ _ _ h => h) (by rfl) (fun w hSw => run_load_hptr rfl rfl (cells_at (i := 0) ((hSw.block s.g hgz).trans hg) rfl)) hS ?_
  try go_frame
  refine oneY (i := 8) (oi := ⟨some 14, _, _, _, _, _⟩) (by kernel_rfl) rfl (by rfl) (fun K hK => ?_)
  refine callI (f := 83) (args := #[.pointer (some ⟨s.h, 0, none⟩)]) (by go_simp; try rfl) ?_
  refine (hcbytes s.h s.A s.c s.L _ (hb.hx.below hS)).mono ?_
  rintro e w8 ⟨rfl, rfl⟩
  refine ⟨_, rfl, ?_⟩
  refine hK _ _ (fun _ => hS) ?_
  clear hK K
  try go_frame
  try go_frame
  refine pureY (i := 9) (oi := ⟨some 15, _, _, _, _, _⟩) rfl (by kernel_rfl) (by kernel_rfl) (by kernel_rfl) (by kernel_rfl) (by kernel_rfl) (fun _ _ _ h => h) (by rfl) (v := .int .i64 (tot - s.by)) (fun w hSw => by go_simp; try exact HW.out) hS ?_
  try go_frame
  refine oneY (i := 10) (oi := ⟨some 16, _, _, _, _, _⟩) (by kernel_rfl) rfl (by rfl) (fun K hK => ?_)
  refine valI (v := ?_) ?_ ?_
  rotate_left
  · go_simp; try with_reducible rfl
  refine hK _ _ (fun h => absurd h (by decide)) ?_
  clear hK K
  try go_frame
  refine oneY (i := 11) (oi := ⟨some 17, _, _, _, _, _⟩) (by kernel_rfl) rfl (by rfl) (fun K hK => ?_)
  refine valI (v := ?_) ?_ ?_
  rotate_left
  · go_simp; try with_reducible rfl
  refine hK _ _ (fun h => absurd h (by decide)) ?_
  clear hK K
  try go_frame
  refine oneY (i := 12) (oi := ⟨none, _, _, _, _, _⟩) (by kernel_rfl) rfl (by rfl) (fun K hK => ?_)
  have hht := ((hS.block t htz).trans ht)
  have kk := cells_at (i := 1) hht rfl
  have ff := heap_frozen hht 1
  refine store_intI rfl rfl rfl kk ff ?_
  have h2 : (w8.setCell ⟨t, 1, none⟩ (.int .i64 (tot - s.by))).heap[t]? = some (.cells #[.map (some bm), .int .i64 (tot - s.by), .int .i64 mb, .int .i64 my, .int .i64 wt] 89 (0, 0)) := heap_setCell_same _ t 1 _ _ (.int .i64 (tot - s.by)) hht
  have K1 : Kept (fun k => k = t) w (w8.setCell ⟨t, 1, none⟩ (.int .i64 (tot - s.by))) := (Kept.of_below hS).trans (Kept.setCell w8 t 1 _) (fun _ _ h => h)
  clear kk ff hht
  refine hK _ _ (fun h => absurd h (by decide)) ?_
  clear hK K
  generalize w8.setCell ⟨t, 1, none⟩ (.int .i64 (tot - s.by)) = W2 at *
  try go_frame
  try go_frame
  refine doneY (by kernel_rfl) ?_ _
  obtain ⟨es, hown0, hp⟩ := HT.out.map
  have hrg0 := HRG.out
  obtain rfl : D = .map es := own_det hrg0.owns hown0
  have hrT : r ≠ t := fun e => by
    obtain ⟨_, _, _, _, _, _, _, _, _, hr, _⟩ := hrg0
    rw [e, ht] at hr
    cases hr
  have hrg := ranges_kept hrg0 K1 (fun e => HT.out.ne e) hrT
  have k0 : W2.cell? ⟨t, 0, none⟩ = some (.map (some bm)) := cells_at h2 rfl
  obtain ⟨es', hdel, hp'⟩ := en_delW hp s.key
  have HDEL := Lib.hid hdel
  clear hdel hp hown0
  go_wp2_with (at_delete; refine wpList_delete_ranges _ rfl _ _ 87 9 rfl 90 klaw Try.underlying87 ptrElem bm r n _ left cnt rfl hrg _ _ rfl (kkey s.key hk) ?_; intro w3 cnt3 hrg3 hle3 hturn3; go_frame)
  have hK3 := Kept.of_turned hturn3
  have hKK : Kept (fun k => k = t ∨ k = bm) w w3 := ((K1.mono (T := fun k => k = t ∨ k = bm) (fun _ _ h => .inl h)).trans hK3 (fun _ _ h => .inr h))
  have hown3 := hrg3.owns
  rw [HDEL.out] at hown3
  refine bodyPost_end (results_none rfl _ _ _) rfl ⟨rfl, HT.out.turn hKK ((hK3.block t (heap_lt h2) (fun e => HT.out.ne e.symm)).trans h2) ⟨es', ?_, hp'⟩ (withoutM_nd HT.out.ndm), hKK, cnt3, hrg3, hle3⟩
  have := own_exact hown3
  rwa [hp'.length_eq, List.length_map] at this

end
/-- How far a round of Expire has come: G have gone, R are there. -/
structure ExI (w wr : World) (t bm r : Nat) (mb my wt lim : Int) (S : List Bu) (v : Value) (left : Lit → Bool) (cnt : Nat) (ks : List (List UInt8)) (G R : List Bu) : Prop where
  tx : Tx wr t bm (sumB R) mb my wt (R.map Bu.kg) S
  rg : ∃ n D, wr.ranges Try.prog 9 ptrElem bm r n D left cnt
  pm : S.Perm (G ++ R)
  ex : ∀ s ∈ G, s.began ≤ lim
  al : ∀ s ∈ R, s.began ≤ lim → left (.string s.key) = true
  row : wr.ownsRow r 9 1 v ks.length (ks.map sq)
  kk : ks = G.map (·.key)
  kp : Kept (fun k => k = t ∨ k = bm) w wr
theorem iter_not_cells {w : World} {b r n cnt : Nat} {D : DataW Unit} {k : TypeId} {R : Value → Option (DataW Unit × List MemPlace)} {left : Lit → Bool} (h : w.ranges Try.prog k R b r n D left cnt) {cs : Array Value} {ty : TypeId} {fr : Nat × Nat} : w.heap[r]? ≠ some (.cells cs ty fr) := by
  obtain ⟨_, _, _, _, _, _, _, _, _, hr, _⟩ := h
  intro h2
  rw [hr] at h2
  cases h2
section
variable {w wr w1 : World} {t bm r : Nat} {mb my wt lim : Int} {S G R : List Bu} {v : Value} {left : Lit → Bool} {cnt : Nat} {ks : List (List UInt8)}
/-- The iterator alone has turned. -/
theorem ExI.step (h : ExI w wr t bm r mb my wt lim S v left cnt ks G R) (hr : w.heap.size ≤ r) {n : Nat} {D : DataW Unit} {left' : Lit → Bool} {cnt' : Nat} (_ : w1.ranges Try.prog 9 ptrElem bm r n D left' cnt') (hg : wr.grownBy w1 (some r)) (hbm : bm ≠ r) :
    Tx w1 t bm (sumB R) mb my wt (R.map Bu.kg) S ∧ w1.ownsRow r 9 1 v ks.length (ks.map sq) ∧ Kept (fun k => k = t ∨ k = bm) w w1 := by
  obtain ⟨n0, D0, hrg0⟩ := h.rg
  have hk := Kept.of_grown hg
  have ha : AwayT wr (fun k => some k = some r) (fun _ => False) := fun k hk cs ty fr hg => by
    injection hk with hk
    rw [hk] at hg
    exact absurd hg (iter_not_cells hrg0)
  refine ⟨h.tx.awayP hk ha id id id id id (fun e => hbm (by injection e)), own_keptA h.row hk ha id, h.kp.trans hk (fun i hi e => ?_)⟩
  injection e with e
  omega
end
theorem own_nil_str (w : World) (B : Nat) : w.ownsRow B 9 1 (.slice none 0 0) ([] : List (List UInt8)).length (([] : List (List UInt8)).map sq) := ⟨rfl, .inl ⟨rfl, rfl⟩⟩
theorem own_away {V : World} {base n : Nat} {v : Value} {xs : List Value} (h : V.ownsRow base 9 1 v n xs) : AwayT V (fun k => some k = v.ownBlock) TStr := fun k hk cs ty fr hg => by
  rcases h.2 with ⟨e1, _⟩ | ⟨g, cap, cur, e1, _, hgb, _⟩
  · rw [e1] at hk; cases hk
  · rw [e1] at hk
    injection hk with hk
    rw [hk] at hg
    have := hgb.symm.trans hg
    simp only [Option.some.injEq, Obj.cells.injEq] at this
    exact this.2.1.symm
theorem own_cells {V : World} {base n : Nat} {v : Value} {xs : List Value} (h : V.ownsRow base 9 1 v n xs) {k : Nat} (hk : some k = v.ownBlock) : (∃ cs ty fr, V.heap[k]? = some (.cells cs ty fr)) ∧ base ≤ k := by
  rcases h.2 with ⟨e1, _⟩ | ⟨g, cap, cur, e1, hb, hgb, _⟩
  · rw [e1] at hk; cases hk
  · rw [e1] at hk
    injection hk with hk
    rw [hk]
    exact ⟨⟨_, _, _, hgb⟩, hb⟩
theorem Tx.awayTT {w : World} {t bm : Nat} {tot mb my wt : Int} {M : List (List UInt8 × Nat)} {S : List Bu} (h : Tx w t bm tot mb my wt M S) : AwayT w (fun k => k = t ∨ k = bm) TT := fun k hk cs ty fr hg => by
  rcases hk with rfl | rfl
  · have := h.obj.symm.trans hg
    simp only [Option.some.injEq, Obj.cells.injEq] at this
    exact this.2.1.symm
  · obtain ⟨es, hm', _⟩ := h.map
    exact absurd hg (map_is hm')
theorem sq_enc : (sq : List UInt8 → Value) = encStr := by funext x; rfl
theorem sumB_app : ∀ G R : List Bu, sumB (G ++ R) = sumB G + sumB R
  | [], R => by show sumB R = 0 + sumB R; omega
  | s :: G, R => by rw [List.cons_append, sumB, sumB, sumB_app G R]; omega
section
variable {w wr : World} {B0 t bm N r : Nat} {mb my wt lim : Int} {S G R : List Bu} {v : Value} {left : Lit → Bool} {cnt : Nat} {ks : List (List UInt8)}
/-- A table without those that have gone. -/
theorem Jv.gone (h : Jv w B0 t bm mb my wt N S) (hp : S.Perm (G ++ R)) (hT : Tx wr t bm (sumB R) mb my wt (R.map Bu.kg) S) : Jv wr B0 t bm mb my wt N R := by
  have hs : ∀ s ∈ R, s ∈ S := fun s hs => hp.mem_iff.2 (List.mem_append.2 (.inr hs))
  have h1 := sumB_perm hp
  rw [sumB_app] at h1
  have h2 := sumB_nn G
  have h3 := h.by_
  have h4 := h.n
  have h5 := hp.length_eq
  rw [List.length_append] at h5
  exact ⟨(hT.perm (List.Perm.refl _) hp).sub (List.sublist_append_right G R), ⟨h.z.1, h.z.2.1, fun s hm => h.z.2.2 s (hs s hm)⟩, by omega, by omega, fun s hm => h.l s (hs s hm)⟩
theorem ExI.nd (h : ExI w wr t bm r mb my wt lim S v left cnt ks G R) : R.Pairwise (fun a b => a.key ≠ b.key) :=
  (h.pm.pairwise h.tx.nd (fun e => e.symm)).sublist (List.sublist_append_right G R)
/-- One that is there stays. -/
theorem ExI.stay (h : ExI w wr t bm r mb my wt lim S v left cnt ks G R) {s : Bu} (hs : s ∈ R) (hb : ¬ s.began ≤ lim) : ∀ x ∈ R, x.began ≤ lim → (left (.string x.key) && !(Lit.string x.key).sameKey (.string s.key)) = true := fun x hx hxb => by
  have hne : x.key ≠ s.key := fun e => by
    have := pw_eqK h.nd hx hs e
    rw [this] at hxb
    exact hb hxb
  rw [h.al x hx hxb, same_str, decide_eq_false hne]
  rfl
/-- One that is there goes. -/
theorem ExI.goes (h : ExI w wr t bm r mb my wt lim S v left cnt ks G R) {s : Bu} (hs : s ∈ R) : ∃ R', R.Perm (s :: R') ∧ S.Perm ((G ++ [s]) ++ R') ∧ sumB R - s.by = sumB R' ∧ (withoutM s.key (R.map Bu.kg)).Perm (R'.map Bu.kg) ∧
    (∀ x ∈ R', x.began ≤ lim → (left (.string x.key) && !(Lit.string x.key).sameKey (.string s.key)) = true) := by
  obtain ⟨R1, R2, e⟩ := List.append_of_mem hs
  have hp : R.Perm (s :: (R1 ++ R2)) := by rw [e]; exact List.perm_middle
  have nd := hp.pairwise h.nd (fun e => e.symm)
  refine ⟨R1 ++ R2, hp, ?_, ?_, withoutM_perm (List.Perm.refl _) hp rfl nd, fun x hx hxb => ?_⟩
  · rw [List.append_assoc]
    exact h.pm.trans (List.Perm.append_left G hp)
  · rw [sumB_perm hp, sumB]; omega
  · have hne : x.key ≠ s.key := fun e => (List.pairwise_cons.1 nd).1 x hx e.symm
    rw [h.al x (hp.mem_iff.2 (List.mem_cons_of_mem _ hx)) hxb, same_str, decide_eq_false hne]
    rfl
end
/-- What Expire leaves. -/
def ExpOut (w : World) (B0 t bm : Nat) (mb my wt now : Int) (N : Nat) (S : List Bu) (e : Ending) (w' : World) : Prop :=
  ∃ (v : Value) (ks : List (List UInt8)) (G R : List Bu), e = .returned v ∧ ks = G.map (·.key) ∧ S.Perm (G ++ R) ∧ (∀ s ∈ G, s.began ≤ now - wt) ∧ (∀ s ∈ R, ¬ s.began ≤ now - wt) ∧
      w'.ownsRow w.heap.size 9 1 v ks.length ((ks.mergeSort (fun x y => decide (x ≤ y))).map sq) ∧ Jv w' B0 t bm mb my wt N R ∧ Below B0 w w'
set_option maxHeartbeats 1000000 in
set_option maxRecDepth 100000 in
theorem jexpire {w : World} {B0 t bm N : Nat} {mb my wt now : Int} {S : List Bu} (h : Jv w B0 t bm mb my wt N S) (hmy : my ≤ 10000000000) (hS : S.length ≤ 1000000) (hwt : 0 ≤ wt ∧ wt ≤ now) (hnow : now ≤ 9223372036854775807) (hB0 : B0 ≤ w.heap.size) :
    Calls Try.prog 16 #[.pointer (some ⟨t, 0, none⟩), .int .i64 now] w fun e w' => ExpOut w B0 t bm mb my wt now N S e w' := by
  have HJ := Lib.hid h
  have hT := h.tx
  have k0 := hT.c0
  have ht := hT.obj
  have kw : w.cell? ⟨t, 4, none⟩ = some (.int .i64 wt) := cells_at (i := 4) ht rfl
  obtain ⟨es, hown, hp⟩ := hT.map
  have HWR : Hid (IntKind.i64.wrap (now - wt) = now - wt) := Lib.hid (IntWalk.i64_in _ (by omega))
  have hno : decide (now < wt) = false := decide_eq_false (by omega)
  have hbl := hown.lt
  have hsum := sumB_nn S
  have hby := h.by_
  obtain ⟨W, hW⟩ : ∃ W, W = w.heap.size := ⟨_, rfl⟩
  have HWz := Lib.hid hW
  have hW1 : W ≤ w.heap.size := by omega
  have hW2 : w.heap.size ≤ W := by omega
  have HT := Lib.hid hT
  have HP := Lib.hid hp
  clear h hT hp hW
  go_enter Try.func16, Try.ntmps16
  go_wp2_with (first
    | (go_at_call 45; refine (jmade t bm _ k0).mono ?_; rintro e w1 ⟨rfl, rfl⟩)
    | (at_range; refine wpList_range_own _ rfl _ 87 rfl 9 90 klaw Try.underlying87 ptrElem bm (S.map Bu.kg).length _ rfl hown ?_; intro w0 hrg0 hg0 hs0)
    | go_in)
  go_frame
  rw [← HWz.out] at hrg0 ⊢
  have hbmW : bm ≠ W := by omega
  go_loopw [5] (fun v wr => ∃ left cnt ks G R, Hid (ExI w wr t bm W mb my wt (now - wt) S v left cnt ks G R)) (fun _ wr => wr.rangeLeft bm W)
  case atStart =>
    refine ⟨_, _, [], [], S, Lib.hid ⟨HT.out.below ((Below.refl _ _).grown hg0 (Nat.le_refl _) (fun k e => (by cases e))), ⟨_, _, hrg0⟩, List.Perm.refl _, (fun s hs => (by cases hs)), (fun s hs _ => ?_), own_nil_str _ _, rfl, Kept.of_below ((Below.refl _ _).grown hg0 (Nat.le_refl _) (fun k e => (by cases e)))⟩⟩
    rw [en_has HP.out]
    exact List.any_eq_true.2 ⟨s.kg, List.mem_map.2 ⟨s, hs, rfl⟩, by simp [Bu.kg]⟩
  case round =>
    clear hrg0 hg0 hs0
    obtain ⟨left, cnt, ks, G, R, HE⟩ := hrel
    obtain ⟨n1, D1, hrg⟩ := HE.out.rg
    have hTr := HE.out.tx
    go_wp2_with (first
      | (at_next; refine wpList_next_buf rfl _ rfl hTr hrg rfl ?_ ?_)
      | go_in)
    · -- nothing is left
      intro _ hl0
      have hal : ∀ s ∈ R, ¬ s.began ≤ now - wt := fun s hs hb => by
        have := HE.out.al s hs hb
        rw [hl0] at this
        cases this
      have HA := Lib.hid hal
      rcases HE.out.row.2 with ⟨e1, h0⟩ | ⟨gb, cap, cur, e1, hbase, hgb, r1, r2, r3, r4⟩
      · subst e1
        have cS := AnyM.slices_Sort_string_none Try.sortA none 0 wr
        change Calls Try.prog 47 _ _ _ at cS
        go_wp2_with (go_at_call 47; refine cS.mono ?_; rintro e w' ⟨rfl, rfl⟩)
        go_ret
        have hks : ks = [] := List.eq_nil_of_length_eq_zero h0
        refine ⟨_, ks, G, R, rfl, HE.out.kk, HE.out.pm, HE.out.ex, (fun s hs => by have := HA.out s hs; omega), ?_, HJ.out.gone HE.out.pm hTr, HE.out.kp.below hB0 (fun i hi => by rcases hi with rfl | rfl; exact HJ.out.z.1; exact HJ.out.z.2.1)⟩
        rw [hks, List.mergeSort_nil, ← HWz.out]
        exact own_nil_str _ _
      · subst e1
        have hH : Go.Sort.Holds encStr wr gb 0 ks.toArray := holds_of_block hgb (by rw [sq_enc] at r4; simpa using r4)
        have hgl : gb < wr.heap.size := heap_lt hgb
        have hkl : ks.length ≤ 1000000 := by
          have h1 := HE.out.kk
          have h2 := HE.out.pm.length_eq
          rw [List.length_append] at h2
          rw [h1, List.length_map]; omega
        have cS := AnyM.slices_Sort_string Try.sortA gb 0 cap ks wr hH hgl (by omega)
        change Calls Try.prog 47 _ _ _ at cS
        go_wp2_with (go_at_call 47; refine cS.mono ?_; rintro e w' ⟨rfl, nn, os, rfl⟩)
        go_ret
        have hg := grownBy_sorted (w := wr) (g := gb) (n := nn) (os := os) (ks.mergeSort fun x y => decide (x ≤ y)).toArray
        have hZ := Kept.of_grown hg
        have haw := own_away HE.out.row
        have hbmg : ¬ some bm = some gb := fun e => by
          injection e with e
          rw [e] at hown
          obtain ⟨es8, hm8, _⟩ := hTr.map
          rw [e] at hm8
          exact map_is hm8 hgb
        refine ⟨_, ks, G, R, rfl, HE.out.kk, HE.out.pm, HE.out.ex, (fun s hs => by have := HA.out s hs; omega), ?_, HJ.out.gone HE.out.pm (hTr.awayP hZ haw ts_no.1 ts_no.2.1 ts_no.2.2.1 ts_no.2.2.2.1 ts_no.2.2.2.2 hbmg), ?_⟩
        · rw [← HWz.out, sq_enc]
          exact ownsRow_sorted (by simp) hbase hgb r1 r2 r3
        · exact (HE.out.kp.trans hZ (fun i hi e => by injection e with e; omega)).below hB0 (fun i hi => by rcases hi with rfl | rfl; exact HJ.out.z.1; exact HJ.out.z.2.1)
    · intro s w1 cnt1 hsR hlx hrg1 hlt hg1 hs1 hen
      obtain ⟨hT1, hrow1, hk1⟩ := HE.out.step (by omega) hrg1 hg1 hbmW
      have hSm : s ∈ S := HE.out.pm.mem_iff.2 (List.mem_append.2 (.inr hsR))
      have hbx := hT1.bx s hSm
      have hgz := heap_lt hbx.obj
      have htz := heap_lt hT1.obj
      have KB : Hid (∀ V, Below w1.heap.size w1 V → V.cell? ⟨s.g, 1, none⟩ = some (.int .i64 s.began)) := Lib.hid fun V hV => (hV.cell (p := ⟨s.g, 1, none⟩) hgz).trans (cells_at (i := 1) hbx.obj rfl)
      have KW : Hid (∀ V, Below w1.heap.size w1 V → V.cell? ⟨t, 4, none⟩ = some (.int .i64 wt)) := Lib.hid fun V hV => (hV.cell (p := ⟨t, 4, none⟩) htz).trans (cells_at (i := 4) hT1.obj rfl)
      go_upto_region 7 with fail
      refine wp_region_held_drew (S := fun w' => Below w1.heap.size w1 w') (by kernel_rfl) (Below.refl _ _).drew (fun hS => ?_)
      refine held_pure (i := 0) (oi := ⟨some 29, _, _, _, _, _⟩) rfl (by kernel_rfl) (by kernel_rfl) (by kernel_rfl) (fun _ _ _ h => h) (by rfl) (v := ?_) (fun w hSw => ?_) hS (fun hS => ?_)
      rotate_left
      · go_simp; try with_reducible rfl
      try go_frame
      refine held_pure (i := 1) (oi := ⟨some 30, _, _, _, _, _⟩) rfl (by kernel_rfl) (by kernel_rfl) (by kernel_rfl) (fun _ _ _ h => h) (by rfl) (v := ?_) (fun w hSw => ?_) hS (fun hS => ?_)
      rotate_left
      · go_simp; try with_reducible rfl
      try go_frame
      refine held_pure (i := 2) (oi := ⟨some 31, _, _, _, _, _⟩) rfl (by kernel_rfl) (by kernel_rfl) (by kernel_rfl) (fun _ _ _ h => h) (by rfl) (v := ?_) (fun w hSw => ?_) hS (fun hS => ?_)
      rotate_left
      · go_simp; try with_reducible rfl
      try go_frame
      refine held_pure (i := 3) (oi := ⟨some 32, _, _, _, _, _⟩) rfl (by kernel_rfl) (by kernel_rfl) (by kernel_rfl) (fun _ _ _ h => h) (by rfl) (fun w hSw => run_load_int rfl rfl (KB.out _ hSw)) hS (fun hS => ?_)
      try go_frame
      refine held_pure (i := 4) (oi := ⟨some 33, _, _, _, _, _⟩) rfl (by kernel_rfl) (by kernel_rfl) (by kernel_rfl) (fun _ _ _ h => h) (by rfl) (v := ?_) (fun w hSw => ?_) hS (fun hS => ?_)
      rotate_left
      · go_simp; try with_reducible rfl
      try go_frame
      refine held_pure (i := 5) (oi := ⟨some 34, _, _, _, _, _⟩) rfl (by kernel_rfl) (by kernel_rfl) (by kernel_rfl) (fun _ _ _ h => h) (by rfl) (v := ?_) (fun w hSw => ?_) hS (fun hS => ?_)
      rotate_left
      · go_simp; try with_reducible rfl
      try go_frame
      refine held_pure (i := 6) (oi := ⟨some 35, _, _, _, _, _⟩) rfl (by kernel_rfl) (by kernel_rfl) (by kernel_rfl) (fun _ _ _ h => h) (by rfl) (v := ?_) (fun w hSw => ?_) hS (fun hS => ?_)
      rotate_left
      · go_simp; try with_reducible rfl
      try go_frame
      refine held_pure (i := 7) (oi := ⟨some 36, _, _, _, _, _⟩) rfl (by kernel_rfl) (by kernel_rfl) (by kernel_rfl) (fun _ _ _ h => h) (by rfl) (v := ?_) (fun w hSw => ?_) hS (fun hS => ?_)
      rotate_left
      · go_simp; try with_reducible rfl
      try go_frame
      refine held_pure (i := 8) (oi := ⟨some 37, _, _, _, _, _⟩) rfl (by kernel_rfl) (by kernel_rfl) (by kernel_rfl) (fun _ _ _ h => h) (by rfl) (fun w hSw => run_load_int rfl rfl (KW.out _ hSw)) hS (fun hS => ?_)
      try go_frame
      refine held_pure (i := 9) (oi := ⟨some 38, _, _, _, _, _⟩) rfl (by kernel_rfl) (by kernel_rfl) (by kernel_rfl) (fun _ _ _ h => h) (by rfl) (v := .int .i64 (now - wt)) (fun w hSw => by go_simp; try exact HWR.out) hS (fun hS => ?_)
      try go_frame
      refine held_pure (i := 10) (oi := ⟨some 39, _, _, _, _, _⟩) rfl (by kernel_rfl) (by kernel_rfl) (by kernel_rfl) (fun _ _ _ h => h) (by rfl) (v := ?_) (fun w hSw => ?_) hS (fun hS => ?_)
      rotate_left
      · go_simp; try with_reducible rfl
      try go_frame
      refine wpAnyH_done (by kernel_rfl) ?_ _
      have hTd := hT1.below hS
      have hrowd : w1.drew.ownsRow W 9 1 u5 ks.length (ks.map sq) := hrow1
      have hrgd := ranges_kept hrg1 (Kept.of_below hS (S := fun _ => False)) id id
      have hkd : Kept (fun k => k = t ∨ k = bm) w w1.drew := hk1.then_below hS
      have hzd : w1.heap.size = w1.drew.heap.size := rfl
      have hWz1 : W ≤ w1.heap.size := by have := hk1.size; omega
      rw [hzd] at hWz1
      clear hT1 hrow1 hrg1 hk1 hS KB KW hbx hgz htz hg1 hs1 hen hzd
      generalize w1.drew = V at *
      have hkl : ks.length ≤ 1000000 := by
        have h1 := HE.out.kk
        have h2 := HE.out.pm.length_eq
        rw [List.length_append] at h2
        rw [h1, List.length_map]; omega
      by_cases hbe : s.began ≤ now - wt
      · have d1 : decide (s.began ≤ now - wt) = true := decide_eq_true hbe
        obtain ⟨V2, hV2⟩ : ∃ V2, V2 = V.alloc (.cells #[.string (strB s.key)] 9) := ⟨_, rfl⟩
        have HV2 := Lib.hid hV2
        have bV2 : Below V.heap.size V V2 := by rw [hV2]; exact (Below.refl _ V).alloc (Nat.le_refl _) _
        have kV2 : V2.cell? ⟨V.heap.size, 0, none⟩ = some (sq s.key) := cells_at (i := 0) (by rw [hV2]; exact World.alloc_heap_new V _) rfl
        have rowV2 : V2.ownsRow W 9 1 u5 ks.length (ks.map sq) := by rw [hV2]; exact hrowd.alloc _
        have rgV2 : V2.ranges Try.prog 9 ptrElem bm W n1 D1 _ cnt1 := ranges_kept hrgd (Kept.of_below bV2 (S := fun _ => False)) id id
        have TV2 := hTd.below bV2
        have szV2 := bV2.size
        have hlk := TV2.len s hSm
        have hby2 : 0 ≤ s.by ∧ s.by ≤ 1000000000000 := by
          have h1 := by_nn s
          have h2 := sum_part hSm
          omega
        have hsR2 : 0 ≤ sumB R ∧ sumB R ≤ 1000000000000 := by
          have h1 := sumB_perm HE.out.pm
          rw [sumB_app] at h1
          have h2 := sumB_nn G
          have h3 := sumB_nn R
          omega
        clear hV2
        unfold sq
        go_wp2_with (first
          | (at_builtin; (rw [← HV2.out]; refine append_sq rfl _ _ rfl W _ _ ks rfl rowV2 V.heap.size s.key rfl kV2 hkl (by omega) ?_); intro v' w2 hrow2 hg2)
          | (go_at_call 46; (refine (jdropR (ranges_kept rgV2 (Kept.of_grown hg2) (fun e => by obtain ⟨⟨_, _, _, hc⟩, _⟩ := own_cells rowV2 e; obtain ⟨es8, hm8, _⟩ := TV2.map; exact map_is hm8 hc) (fun e => by obtain ⟨⟨_, _, _, hc⟩, _⟩ := own_cells rowV2 e; exact iter_not_cells rgV2 hc)) (TV2.awayP (Kept.of_grown hg2) (own_away rowV2) ts_no.1 ts_no.2.1 ts_no.2.2.1 ts_no.2.2.2.1 ts_no.2.2.2.2 (fun e => by obtain ⟨⟨_, _, _, hc⟩, _⟩ := own_cells rowV2 e; obtain ⟨es8, hm8, _⟩ := TV2.map; exact map_is hm8 hc)) s ((TV2.awayP (Kept.of_grown hg2) (own_away rowV2) ts_no.1 ts_no.2.1 ts_no.2.2.1 ts_no.2.2.2.1 ts_no.2.2.2.2 (fun e => by obtain ⟨⟨_, _, _, hc⟩, _⟩ := own_cells rowV2 e; obtain ⟨es8, hm8, _⟩ := TV2.map; exact map_is hm8 hc)).bx s hSm) hlk hsR2 hby2).mono ?_; rintro e w3 ⟨rfl, hT3, hk3, cnt3, hrg3, hle3⟩)))
        rw [strike_twice] at hrg3
        obtain ⟨R', q1, q2, q3, q4, q5⟩ := HE.out.goes hsR
        have hTa := TV2.awayP (Kept.of_grown hg2) (own_away rowV2) ts_no.1 ts_no.2.1 ts_no.2.2.1 ts_no.2.2.2.1 ts_no.2.2.2.2 (fun e => by obtain ⟨⟨_, _, _, hc⟩, _⟩ := own_cells rowV2 e; obtain ⟨es8, hm8, _⟩ := TV2.map; exact map_is hm8 hc)
        have hkk3 : Kept (fun k => k = t ∨ k = bm) w w3 := (((hkd.then_below bV2).trans (Kept.of_grown hg2) (fun i hi e => by have := (own_cells rowV2 e).2; omega)).trans hk3 (fun _ _ h => h))
        go_roundw
        case rel =>
          refine ⟨_, cnt3, ks ++ [s.key], G ++ [s], R', Lib.hid ⟨?_, ⟨_, _, hrg3⟩, q2, ?_, q5, ?_, ?_, hkk3⟩⟩
          · rw [← q3]; exact hT3.perm q4 (List.Perm.refl _)
          · intro x hx
            rcases List.mem_append.1 hx with hx | hx
            · exact HE.out.ex x hx
            · rw [List.mem_singleton] at hx; rw [hx]; exact hbe
          · rw [List.length_append]; exact own_keptA hrow2 hk3 hTa.awayTT tt_str
          · rw [HE.out.kk]; simp
        case measure => rw [hrg3.left_eq, hrg.left_eq]; omega
      · have d1 : decide (s.began ≤ now - wt) = false := decide_eq_false hbe
        go_wp2
        go_roundw
        case rel => exact ⟨_, cnt1, ks, G, R, Lib.hid ⟨hTd, ⟨_, _, hrgd⟩, HE.out.pm, HE.out.ex, HE.out.stay hsR (by omega), hrowd, HE.out.kk, hkd⟩⟩
        case measure => rw [hrgd.left_eq, hrg.left_eq]; exact hlt
end Go.Proofs.Ythdaclbgandmcaa

/-
  Expire of layer 16's code, where none has waited for as long as it may, and where all have. Conditions are each theorem's own.
-/
namespace Go.Proofs.Ythdaclbgandmcaa
open Go.RowKit Go.Shelf Go.Maps Go.Sort
theorem own_sliceJ {w : World} {base e sz n : Nat} {v : Value} {xs : List Value} (h : w.ownsRow base e sz v n xs) : ∃ A c, v = .slice A n c := by
  rcases h.2 with ⟨rfl, h0⟩ | ⟨g, cap, cur, rfl, _⟩
  · exact ⟨none, 0, by rw [h0]⟩
  · exact ⟨_, _, rfl⟩
theorem jexp_none {w : World} {B0 t bm N : Nat} {mb my wt now : Int} {S : List Bu} (h : Jv w B0 t bm mb my wt N S) (hmy : my ≤ 10000000000) (hS : S.length ≤ 1000000) (hwt : 0 ≤ wt ∧ wt ≤ now) (hnow : now ≤ 9223372036854775807) (hB0 : B0 ≤ w.heap.size)
    (hn : ∀ s ∈ S, now - wt < s.began) : Calls Try.prog 16 #[.pointer (some ⟨t, 0, none⟩), .int .i64 now] w fun e w' =>
      (∃ A c, e = .returned (.slice A 0 c)) ∧ ∃ R, Jv w' B0 t bm mb my wt N R ∧ Below B0 w w' ∧ S.Perm R := by
  refine (jexpire h hmy hS hwt hnow hB0).mono ?_
  rintro e w' ⟨v, ks, G, R, rfl, hk, hp, hG, hR, hrow, hJ, hb⟩
  have hG0 : G = [] := by
    cases G with
    | nil => rfl
    | cons s G =>
      have h1 := hG s (List.mem_cons_self ..)
      have h2 := hn s (hp.mem_iff.2 (by simp))
      omega
  subst hG0
  have hks : ks = [] := hk
  obtain ⟨A, c, rfl⟩ := own_sliceJ hrow
  exact ⟨⟨A, c, by rw [hks]; rfl⟩, R, hJ, hb, by simpa using hp⟩
theorem jexp_all {w : World} {B0 t bm N : Nat} {mb my wt now : Int} {S : List Bu} (h : Jv w B0 t bm mb my wt N S) (hmy : my ≤ 10000000000) (hS : S.length ≤ 1000000) (hwt : 0 ≤ wt ∧ wt ≤ now) (hnow : now ≤ 9223372036854775807) (hB0 : B0 ≤ w.heap.size)
    (hn : ∀ s ∈ S, s.began ≤ now - wt) : Calls Try.prog 16 #[.pointer (some ⟨t, 0, none⟩), .int .i64 now] w fun e w' =>
      (∃ A c, e = .returned (.slice A S.length c)) ∧ Jv w' B0 t bm mb my wt N [] ∧ Below B0 w w' := by
  refine (jexpire h hmy hS hwt hnow hB0).mono ?_
  rintro e w' ⟨v, ks, G, R, rfl, hk, hp, hG, hR, hrow, hJ, hb⟩
  have hR0 : R = [] := by
    cases R with
    | nil => rfl
    | cons s R => exact absurd (hn s (hp.mem_iff.2 (by simp))) (hR s (List.mem_cons_self ..))
  subst hR0
  obtain ⟨A, c, rfl⟩ := own_sliceJ hrow
  have hl := hp.length_eq
  rw [List.append_nil] at hl
  exact ⟨⟨A, c, by rw [hk, List.length_map, hl]⟩, hJ, hb⟩
end Go.Proofs.Ythdaclbgandmcaa
