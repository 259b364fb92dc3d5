/-
  Contracts and lemmas on which the proofs of this seat stand (several texts in one). Conditions are each theorem's own.
-/
import Derived.Test.YtghbliabmecbcaaMa9
import Derived.Deep.Slices

/-
  find, tell and drop of layer 16's code. Conditions are each theorem's own.
-/
namespace Go.Proofs.Ytghbliabmecbcaa
open Go.RowKit Go.Shelf Go.Maps
theorem run_load_mp {o : Oper} {a : Act} {w : World} {x : Operand} {p : Addr} {m : Option Nat} (ho : o.op = .load 69 x) (hx : a.eval x = .pointer (some p)) (hc : w.cell? p = some (.map m)) :
    (execOp a.eval o).run Try.prog w = .ok (.value (.map m)) w := by
  unfold execOp
  simp only [ho, hx, Instr.loadAt, Instr.sureAddr, Sem.run_bind, Sem.run_pure, Result.andThen_ok]
  go_simp
theorem own_map_below0 {w w' : World} {b n : Nat} {D : DataW Unit} {k : TypeId} {R : Value → Option (DataW Unit × List MemPlace)} (h : w.ownsMap Try.prog k R b n D) (hb : Below w.heap.size w w') : w'.ownsMap Try.prog k R b n D := own_map_below h hb
theorem run_mlen {o : Oper} {a : Act} {w : World} {x : Operand} {b n N : Nat} {D : DataW Unit} (ho : o.op = .call { callee := .builtin .len, args := #[x], argTypes := #[69] }) (hx : a.eval x = .map (some b)) (hown : w.ownsMap Try.prog 9 ptrElem b n D) (hz : Maps.size D = N) :
    (execOp a.eval o).run Try.prog w = .ok (.value (.int .i64 (N : Int))) w := by
  subst hz
  simp [execOp, ho, resolve, invoke, builtin, hx, hown.len Try.underlying69 o.type, Result.andThen]
def withoutM (k : List UInt8) (M : List (List UInt8 × Nat)) : List (List UInt8 × Nat) := M.filter (fun p => decide (p.1 ≠ k))
theorem en_delW {es : List (Lit × DataW Unit)} {M : List (List UInt8 × Nat)} (hp : es.Perm (M.map enM)) (k : List UInt8) : ∃ es', (DataW.map es).del (.string k) = .map es' ∧ es'.Perm ((withoutM k M).map enM) := en_del hp k
theorem withoutM_nd {k : List UInt8} {M : List (List UInt8 × Nat)} (h : M.Pairwise (fun a b => a.1 ≠ b.1)) : (withoutM k M).Pairwise (fun a b => a.1 ≠ b.1) := h.filter _
theorem own_exact {w : World} {b n : Nat} {es : List (Lit × DataW Unit)} {k : TypeId} {R : Value → Option (DataW Unit × List MemPlace)} (h : w.ownsMap Try.prog k R b n (.map es)) : w.ownsMap Try.prog k R b es.length (.map es) := by
  obtain ⟨a, clock, hb, F, hs, hD⟩ := h
  refine ⟨a, clock, hb, F, ?_, hD⟩
  injection hD with e
  rw [e, length_sorted]
  simp
theorem Kept.of_turned {w w' : World} {b : Nat} (h : w.mapTurned w' b) : Kept (fun k => k = b) w w' := by
  have g := h.grown
  exact ⟨g.os, g.tape, g.output, g.size, fun k hk hn => g.block k hk (fun e => hn (by injection e))⟩
section
variable {w : World} {t bm : Nat} {tot mb my wt : Int} {M : List (List UInt8 × Nat)} {S : List Bu}
set_option maxRecDepth 100000 in
theorem jfind_hit (hT : Tx w t bm tot mb my wt M S) (g : Nat) (key : List UInt8) (now : Int) (hk : key.length ≤ maxLen) (hm : (key, g) ∈ M) :
    Calls Try.prog 40 #[.pointer (some ⟨t, 0, none⟩), sq key, .int .i64 now] w fun e w' => e = .returned (.tuple #[.pointer (some ⟨g, 0, none⟩), .int .i64 0]) ∧ w = w' := by
  have k0 := hT.c0
  obtain ⟨es, hown, hp⟩ := hT.map
  have HAT := Lib.hid (en_at hp hT.ndm hm (.lit (.int .i64 (-1))))
  have HHAS : Hid (Maps.has (.map es) (.string key) = true) := Lib.hid (by rw [en_has hp, List.any_eq_true]; exact ⟨_, hm, by simp⟩)
  clear hp hT hm
  unfold sq
  go_enter Try.func40, Try.ntmps40
  go_wp2_with (at_lookup; refine wpList_lookup_own_ok _ rfl _ _ 69 rfl 9 72 klaw Try.underlying69 ptrElem (zeroBf _) (.lit (.int .i64 (-1))) [] rfl bm M.length _ rfl hown _ _ rfl (kkey key hk) ?_; intro v ps hv; rw [HAT.out] at hv; obtain rfl := ptr_inv hv; rw [HHAS.out])
  exact bodyPost_ret (results_tmp2 rfl _ _ _) rfl ⟨rfl, rfl⟩
set_option maxRecDepth 100000 in
theorem jfind_full (hT : Tx w t bm tot mb my wt M S) (key : List UInt8) (now : Int) (hk : key.length ≤ maxLen) (hm : ∀ p ∈ M, p.1 ≠ key) (hge : (M.length : Int) ≥ mb) :
    Calls Try.prog 40 #[.pointer (some ⟨t, 0, none⟩), sq key, .int .i64 now] w fun e w' => e = .returned (.tuple #[.pointer none, .int .i64 7]) ∧ Below w.heap.size w w' := by
  have k0 := hT.c0
  have ht := hT.obj
  have htz := heap_lt ht
  obtain ⟨es, hown, hp⟩ := hT.map
  have hz := Lib.hid (en_size hp)
  have HAT := Lib.hid (en_none hp hm (.lit (.int .i64 (-1))))
  have HHAS : Hid (Maps.has (.map es) (.string key) = false) := Lib.hid (by rw [en_has hp, List.any_eq_false]; intro p hp'; simpa using hm p hp')
  have d1 : decide ((M.length : Int) ≥ mb) = true := decide_eq_true hge
  clear hp hT hm
  unfold sq
  go_enter Try.func40, Try.ntmps40
  go_upto_region 4 with (at_lookup; refine wpList_lookup_own_ok _ rfl _ _ 69 rfl 9 72 klaw Try.underlying69 ptrElem (zeroBf _) (.lit (.int .i64 (-1))) [] rfl bm M.length _ rfl hown _ _ rfl (kkey key hk) ?_; intro v ps hv; rw [HAT.out] at hv; obtain rfl := ptr_none hv; rw [HHAS.out])
  refine wp_region_held_drew (S := fun w' => Below w.heap.size w w') (by kernel_rfl) (Below.refl _ w).drew (fun hS => ?_)
  refine held_pure (i := 0) (oi := ⟨some 21, _, _, _, _, _⟩) rfl (by kernel_rfl) (by kernel_rfl) (by kernel_rfl) (fun _ _ _ h => h) (by rfl) (v := ?_) (fun w hSw => ?_) hS (fun hS => ?_)
  rotate_left
  · go_simp; try with_reducible rfl
  try go_frame
  refine held_pure (i := 1) (oi := ⟨some 22, _, _, _, _, _⟩) rfl (by kernel_rfl) (by kernel_rfl) (by kernel_rfl) (fun _ _ _ h => h) (by rfl) (v := ?_) (fun w hSw => ?_) hS (fun hS => ?_)
  rotate_left
  · go_simp; try with_reducible rfl
  try go_frame
  refine held_pure (i := 2) (oi := ⟨some 23, _, _, _, _, _⟩) rfl (by kernel_rfl) (by kernel_rfl) (by kernel_rfl) (fun _ _ _ h => h) (by rfl) (v := ?_) (fun w hSw => ?_) hS (fun hS => ?_)
  rotate_left
  · go_simp; try with_reducible rfl
  try go_frame
  refine held_pure (i := 3) (oi := ⟨some 24, _, _, _, _, _⟩) rfl (by kernel_rfl) (by kernel_rfl) (by kernel_rfl) (fun _ _ _ h => h) (by rfl) (fun w hSw => run_load_mp rfl rfl (cells_at (i := 0) ((hSw.block t htz).trans ht) rfl)) hS (fun hS => ?_)
  try go_frame
  refine held_pure (i := 4) (oi := ⟨some 25, _, _, _, _, _⟩) rfl (by kernel_rfl) (by kernel_rfl) (by kernel_rfl) (fun _ _ _ h => h) (by rfl) (fun w hSw => run_mlen rfl rfl (own_map_below0 hown hSw) hz.out) hS (fun hS => ?_)
  try go_frame
  refine held_pure (i := 5) (oi := ⟨some 26, _, _, _, _, _⟩) rfl (by kernel_rfl) (by kernel_rfl) (by kernel_rfl) (fun _ _ _ h => h) (by rfl) (v := ?_) (fun w hSw => ?_) hS (fun hS => ?_)
  rotate_left
  · go_simp; try with_reducible rfl
  try go_frame
  refine held_pure (i := 6) (oi := ⟨some 27, _, _, _, _, _⟩) rfl (by kernel_rfl) (by kernel_rfl) (by kernel_rfl) (fun _ _ _ h => h) (by rfl) (v := ?_) (fun w hSw => ?_) hS (fun hS => ?_)
  rotate_left
  · go_simp; try with_reducible rfl
  try go_frame
  refine held_pure (i := 7) (oi := ⟨some 28, _, _, _, _, _⟩) rfl (by kernel_rfl) (by kernel_rfl) (by kernel_rfl) (fun _ _ _ h => h) (by rfl) (v := ?_) (fun w hSw => ?_) hS (fun hS => ?_)
  rotate_left
  · go_simp; try with_reducible rfl
  try go_frame
  refine held_pure (i := 8) (oi := ⟨some 29, _, _, _, _, _⟩) rfl (by kernel_rfl) (by kernel_rfl) (by kernel_rfl) (fun _ _ _ h => h) (by rfl) (fun w hSw => run_load_int rfl rfl (cells_at (i := 2) ((hSw.block t htz).trans ht) rfl)) hS (fun hS => ?_)
  try go_frame
  refine held_pure (i := 9) (oi := ⟨some 30, _, _, _, _, _⟩) rfl (by kernel_rfl) (by kernel_rfl) (by kernel_rfl) (fun _ _ _ h => h) (by rfl) (v := .bool (decide ((M.length : Int) ≥ mb))) (fun w hSw => by go_simp) hS (fun hS => ?_)
  try go_frame
  refine wpAnyH_done (by kernel_rfl) ?_ _
  go_wp2_with fail
  exact bodyPost_ret (results_tmp2 rfl _ _ _) rfl ⟨rfl, hS⟩
set_option maxRecDepth 100000 in
theorem jfind_new (hT : Tx w t bm tot mb my wt M S) (key : List UInt8) (now : Int) (hk : key.length ≤ maxLen) (hm : ∀ p ∈ M, p.1 ≠ key) (hge : ¬ (M.length : Int) ≥ mb) :
    Calls Try.prog 40 #[.pointer (some ⟨t, 0, none⟩), sq key, .int .i64 now] w fun e w' =>
      ∃ g h, e = .returned (.tuple #[.pointer (some ⟨g, 0, none⟩), .int .i64 0]) ∧ Bx w' ⟨key, g, h, none, 0, [], min (max now 0) 1099511627776, [], false⟩ ∧ Below w.heap.size w w' ∧ w.heap.size ≤ g ∧ w.heap.size ≤ h := by
  have k0 := hT.c0
  have ht := hT.obj
  have htz := heap_lt ht
  obtain ⟨es, hown, hp⟩ := hT.map
  have hz := Lib.hid (en_size hp)
  have HAT := Lib.hid (en_none hp hm (.lit (.int .i64 (-1))))
  have HHAS : Hid (Maps.has (.map es) (.string key) = false) := Lib.hid (by rw [en_has hp, List.any_eq_false]; intro p hp'; simpa using hm p hp')
  have d1 : decide ((M.length : Int) ≥ mb) = false := decide_eq_false hge
  clear hp hT hm
  unfold sq
  go_enter Try.func40, Try.ntmps40
  go_upto_region 4 with (at_lookup; refine wpList_lookup_own_ok _ rfl _ _ 69 rfl 9 72 klaw Try.underlying69 ptrElem (zeroBf _) (.lit (.int .i64 (-1))) [] rfl bm M.length _ rfl hown _ _ rfl (kkey key hk) ?_; intro v ps hv; rw [HAT.out] at hv; obtain rfl := ptr_none hv; rw [HHAS.out])
  refine wp_region_held_drew (S := fun w' => Below w.heap.size w w') (by kernel_rfl) (Below.refl _ w).drew (fun hS => ?_)
  refine held_pure (i := 0) (oi := ⟨some 21, _, _, _, _, _⟩) rfl (by kernel_rfl) (by kernel_rfl) (by kernel_rfl) (fun _ _ _ h => h) (by rfl) (v := ?_) (fun w hSw => ?_) hS (fun hS => ?_)
  rotate_left
  · go_simp; try with_reducible rfl
  try go_frame
  refine held_pure (i := 1) (oi := ⟨some 22, _, _, _, _, _⟩) rfl (by kernel_rfl) (by kernel_rfl) (by kernel_rfl) (fun _ _ _ h => h) (by rfl) (v := ?_) (fun w hSw => ?_) hS (fun hS => ?_)
  rotate_left
  · go_simp; try with_reducible rfl
  try go_frame
  refine held_pure (i := 2) (oi := ⟨some 23, _, _, _, _, _⟩) rfl (by kernel_rfl) (by kernel_rfl) (by kernel_rfl) (fun _ _ _ h => h) (by rfl) (v := ?_) (fun w hSw => ?_) hS (fun hS => ?_)
  rotate_left
  · go_simp; try with_reducible rfl
  try go_frame
  refine held_pure (i := 3) (oi := ⟨some 24, _, _, _, _, _⟩) rfl (by kernel_rfl) (by kernel_rfl) (by kernel_rfl) (fun _ _ _ h => h) (by rfl) (fun w hSw => run_load_mp rfl rfl (cells_at (i := 0) ((hSw.block t htz).trans ht) rfl)) hS (fun hS => ?_)
  try go_frame
  refine held_pure (i := 4) (oi := ⟨some 25, _, _, _, _, _⟩) rfl (by kernel_rfl) (by kernel_rfl) (by kernel_rfl) (fun _ _ _ h => h) (by rfl) (fun w hSw => run_mlen rfl rfl (own_map_below0 hown hSw) hz.out) hS (fun hS => ?_)
  try go_frame
  refine held_pure (i := 5) (oi := ⟨some 26, _, _, _, _, _⟩) rfl (by kernel_rfl) (by kernel_rfl) (by kernel_rfl) (fun _ _ _ h => h) (by rfl) (v := ?_) (fun w hSw => ?_) hS (fun hS => ?_)
  rotate_left
  · go_simp; try with_reducible rfl
  try go_frame
  refine held_pure (i := 6) (oi := ⟨some 27, _, _, _, _, _⟩) rfl (by kernel_rfl) (by kernel_rfl) (by kernel_rfl) (fun _ _ _ h => h) (by rfl) (v := ?_) (fun w hSw => ?_) hS (fun hS => ?_)
  rotate_left
  · go_simp; try with_reducible rfl
  try go_frame
  refine held_pure (i := 7) (oi := ⟨some 28, _, _, _, _, _⟩) rfl (by kernel_rfl) (by kernel_rfl) (by kernel_rfl) (fun _ _ _ h => h) (by rfl) (v := ?_) (fun w hSw => ?_) hS (fun hS => ?_)
  rotate_left
  · go_simp; try with_reducible rfl
  try go_frame
  refine held_pure (i := 8) (oi := ⟨some 29, _, _, _, _, _⟩) rfl (by kernel_rfl) (by kernel_rfl) (by kernel_rfl) (fun _ _ _ h => h) (by rfl) (fun w hSw => run_load_int rfl rfl (cells_at (i := 2) ((hSw.block t htz).trans ht) rfl)) hS (fun hS => ?_)
  try go_frame
  refine held_pure (i := 9) (oi := ⟨some 30, _, _, _, _, _⟩) rfl (by kernel_rfl) (by kernel_rfl) (by kernel_rfl) (fun _ _ _ h => h) (by rfl) (v := .bool (decide ((M.length : Int) ≥ mb))) (fun w hSw => by go_simp) hS (fun hS => ?_)
  try go_frame
  refine wpAnyH_done (by kernel_rfl) ?_ _
  go_wp2_with (go_at_call 70; refine (hcnew _).mono ?_; rintro e w1 ⟨rfl, h1, b1, z1⟩)
  have z2 : w1.heap.size = w.heap.size + 1 := z1
  have ho := World.alloc_heap_new w1 (.cells #[.pointer (some ⟨w.heap.size, 0, none⟩), .int .i64 (min (max now 0) 1099511627776), sq [], .bool false] 75)
  rw [z2] at ho
  have b2 : Below w.heap.size w w1 := (Below.refl _ w).drew.trans b1
  exact bodyPost_ret (results_tmp2 rfl _ _ _) rfl ⟨w.heap.size + 1, w.heap.size, rfl, ⟨ho, h1.alloc _⟩, b2.alloc b2.size _, Nat.le_succ _, Nat.le_refl _⟩
set_option maxRecDepth 100000 in
theorem jdrop (hT : Tx w t bm tot mb my wt M S) (s : Bu) (hb : Bx w s) (hk : s.key.length ≤ maxLen) (ht0 : 0 ≤ tot ∧ tot ≤ 1000000000000) (hs0 : 0 ≤ s.by ∧ s.by ≤ 1000000000000) :
    Calls Try.prog 37 #[.pointer (some ⟨t, 0, none⟩), sq s.key, .pointer (some ⟨s.g, 0, none⟩)] w fun e w' =>
      e = .returned (.tuple #[]) ∧ Tx w' t bm (tot - s.by) mb my wt (withoutM s.key M) S ∧ Kept (fun k => k = t ∨ k = bm) w w' := by
  have ht := hT.obj
  have htz := heap_lt ht
  have hg := hb.obj
  have hgz := heap_lt hg
  have HW : Hid (IntKind.i64.wrap (tot - s.by) = tot - s.by) := Lib.hid (IntWalk.i64_in _ (by omega))
  have HT := Lib.hid hT
  clear hT
  unfold sq
  go_enter Try.func37, Try.ntmps37
  go_upto_region 0 with fail
  refine regionY 10 (fun w' => Below w.heap.size w w') (by kernel_rfl) ?_
  have hS := (Below.refl w.heap.size w).drew
  generalize w.drew = w8 at *
  refine pureY (i := 0) (oi := ⟨some 6, _, _, _, _, _⟩) rfl (by kernel_rfl) (by kernel_rfl) (by kernel_rfl) (by kernel_rfl) (by kernel_rfl) (fun _ _ _ h => h) (by rfl) (v := ?_) (fun w hSw => ?_) hS ?_
  rotate_left
  · go_simp; try with_reducible rfl
  try go_frame
  refine pureY (i := 1) (oi := ⟨some 7, _, _, _, _, _⟩) rfl (by kernel_rfl) (by kernel_rfl) (by kernel_rfl) (by kernel_rfl) (by kernel_rfl) (fun _ _ _ h => h) (by rfl) (v := ?_) (fun w hSw => ?_) hS ?_
  rotate_left
  · go_simp; try with_reducible rfl
  try go_frame
  refine pureY (i := 2) (oi := ⟨some 8, _, _, _, _, _⟩) rfl (by kernel_rfl) (by kernel_rfl) (by kernel_rfl) (by kernel_rfl) (by kernel_rfl) (fun _ _ _ h => h) (by rfl) (v := ?_) (fun w hSw => ?_) hS ?_
  rotate_left
  · go_simp; try with_reducible rfl
  try go_frame
  refine pureY (i := 3) (oi := ⟨some 9, _, _, _, _, _⟩) rfl (by kernel_rfl) (by kernel_rfl) (by kernel_rfl) (by kernel_rfl) (by kernel_rfl) (fun _ _ _ h => h) (by rfl) (fun w hSw => run_load_int rfl rfl (cells_at (i := 1) ((hSw.block t htz).trans ht) rfl)) hS ?_
  try go_frame
  refine pureY (i := 4) (oi := ⟨some 10, _, _, _, _, _⟩) rfl (by kernel_rfl) (by kernel_rfl) (by kernel_rfl) (by kernel_rfl) (by kernel_rfl) (fun _ _ _ h => h) (by rfl) (v := ?_) (fun w hSw => ?_) hS ?_
  rotate_left
  · go_simp; try with_reducible rfl
  try go_frame
  refine pureY (i := 5) (oi := ⟨some 11, _, _, _, _, _⟩) rfl (by kernel_rfl) (by kernel_rfl) (by kernel_rfl) (by kernel_rfl) (by kernel_rfl) (fun _ _ _ h => h) (by rfl) (v := ?_) (fun w hSw => ?_) hS ?_
  rotate_left
  · go_simp; try with_reducible rfl
  try go_frame
  refine pureY (i := 6) (oi := ⟨some 12, _, _, _, _, _⟩) rfl (by kernel_rfl) (by kernel_rfl) (by kernel_rfl) (by kernel_rfl) (by kernel_rfl) (fun _ _ _ h => h) (by rfl) (v := ?_) (fun w hSw => ?_) hS ?_
  rotate_left
  · go_simp; try with_reducible rfl
  try go_frame
  refine pureY (i := 7) (oi := ⟨some 13, _, _, _, _, _⟩) rfl (by kernel_rfl) (by kernel_rfl) (by kernel_rfl) (by kernel_rfl) (by kernel_rfl) (fun _ _ _ h => h) (by rfl) (fun w hSw => run_load_hptr rfl rfl (cells_at (i := 0) ((hSw.block s.g hgz).trans hg) rfl)) hS ?_
  try go_frame
  refine oneY (i := 8) (oi := ⟨some 14, _, _, _, _, _⟩) (by kernel_rfl) rfl (by rfl) (fun K hK => ?_)
  refine callI (f := 67) (args := #[.pointer (some ⟨s.h, 0, none⟩)]) (by go_simp; try rfl) ?_
  refine (hcbytes s.h s.A s.c s.L _ (hb.hx.below hS)).mono ?_
  rintro e w8 ⟨rfl, rfl⟩
  refine ⟨_, rfl, ?_⟩
  refine hK _ _ (fun _ => hS) ?_
  clear hK K
  try go_frame
  try go_frame
  refine pureY (i := 9) (oi := ⟨some 15, _, _, _, _, _⟩) rfl (by kernel_rfl) (by kernel_rfl) (by kernel_rfl) (by kernel_rfl) (by kernel_rfl) (fun _ _ _ h => h) (by rfl) (v := .int .i64 (tot - s.by)) (fun w hSw => by go_simp; try exact HW.out) hS ?_
  try go_frame
  refine oneY (i := 10) (oi := ⟨some 16, _, _, _, _, _⟩) (by kernel_rfl) rfl (by rfl) (fun K hK => ?_)
  refine valI (v := ?_) ?_ ?_
  rotate_left
  · go_simp; try with_reducible rfl
  refine hK _ _ (fun h => absurd h (by decide)) ?_
  clear hK K
  try go_frame
  refine oneY (i := 11) (oi := ⟨some 17, _, _, _, _, _⟩) (by kernel_rfl) rfl (by rfl) (fun K hK => ?_)
  refine valI (v := ?_) ?_ ?_
  rotate_left
  · go_simp; try with_reducible rfl
  refine hK _ _ (fun h => absurd h (by decide)) ?_
  clear hK K
  try go_frame
  refine oneY (i := 12) (oi := ⟨none, _, _, _, _, _⟩) (by kernel_rfl) rfl (by rfl) (fun K hK => ?_)
  have hht := ((hS.block t htz).trans ht)
  have kk := cells_at (i := 1) hht rfl
  have ff := heap_frozen hht 1
  refine store_intI rfl rfl rfl kk ff ?_
  have h2 : (w8.setCell ⟨t, 1, none⟩ (.int .i64 (tot - s.by))).heap[t]? = some (.cells #[.map (some bm), .int .i64 (tot - s.by), .int .i64 mb, .int .i64 my, .int .i64 wt] 71 (0, 0)) := heap_setCell_same _ t 1 _ _ (.int .i64 (tot - s.by)) hht
  have K1 : Kept (fun k => k = t) w (w8.setCell ⟨t, 1, none⟩ (.int .i64 (tot - s.by))) := (Kept.of_below hS).trans (Kept.setCell w8 t 1 _) (fun _ _ h => h)
  clear kk ff hht
  refine hK _ _ (fun h => absurd h (by decide)) ?_
  clear hK K
  generalize w8.setCell ⟨t, 1, none⟩ (.int .i64 (tot - s.by)) = W2 at *
  try go_frame
  try go_frame
  refine doneY (by kernel_rfl) ?_ _
  obtain ⟨es, hown0, hp⟩ := HT.out.map
  have hown := own_map_kept hown0 K1 (fun e => HT.out.ne e)
  have k0 : W2.cell? ⟨t, 0, none⟩ = some (.map (some bm)) := cells_at h2 rfl
  obtain ⟨es', hdel, hp'⟩ := en_delW hp s.key
  have HDEL := Lib.hid hdel
  clear hdel hp hown0
  go_wp2_with (at_delete; refine wpList_delete_own _ rfl _ _ 69 9 rfl 72 klaw Try.underlying69 ptrElem bm M.length _ rfl hown _ _ rfl (kkey s.key hk) ?_; intro w3 hown3 hturn3; rw [HDEL.out] at hown3)
  have hK3 := Kept.of_turned hturn3
  have hKK : Kept (fun k => k = t ∨ k = bm) w w3 := ((K1.mono (T := fun k => k = t ∨ k = bm) (fun _ _ h => .inl h)).trans hK3 (fun _ _ h => .inr h))
  refine bodyPost_end (results_none rfl _ _ _) rfl ⟨rfl, HT.out.turn hKK ((hK3.block t (heap_lt h2) (fun e => HT.out.ne e.symm)).trans h2) ⟨es', ?_, hp'⟩ (withoutM_nd HT.out.ndm), hKK⟩
  have := own_exact hown3
  rwa [hp'.length_eq, List.length_map] at this

end
end Go.Proofs.Ytghbliabmecbcaa

/-
  tell of layer 16's code; find, whether the key is there or not. Conditions are each theorem's own.
-/
namespace Go.Proofs.Ytghbliabmecbcaa
open Go.RowKit Go.Shelf Go.Maps
/-- The head that came with a part, if it is the first one with off 0. -/
def tellB (s : Bu) (off : Int) (head : List UInt8) : Bu := if off = 0 ∧ s.headed = false then { s with head := head, headed := true } else s
theorem tellB_key (s : Bu) (off : Int) (head : List UInt8) : (tellB s off head).key = s.key := by unfold tellB; split <;> rfl
theorem tellB_g (s : Bu) (off : Int) (head : List UInt8) : (tellB s off head).g = s.g := by unfold tellB; split <;> rfl
theorem tellB_h (s : Bu) (off : Int) (head : List UInt8) : (tellB s off head).h = s.h := by unfold tellB; split <;> rfl
theorem tellB_L (s : Bu) (off : Int) (head : List UInt8) : (tellB s off head).L = s.L := by unfold tellB; split <;> rfl
theorem tellB_v (s : Bu) (off : Int) (head : List UInt8) : (tellB s off head).v = s.v := by unfold tellB; split <;> rfl
set_option maxRecDepth 100000 in
theorem jtell {w : World} (s : Bu) (hb : Bx w s) (off : Int) (head : List UInt8) : Calls Try.prog 43 #[.pointer (some ⟨s.g, 0, none⟩), .int .i64 off, sq head] w fun e w' =>
    e = .returned (.tuple #[]) ∧ Bx w' (tellB s off head) ∧ Kept (fun k => k = s.g) w w' := by
  obtain ⟨key, g, h, A, c, L, began, hd, headed⟩ := s
  have ho := hb.obj
  have k2 : w.cell? ⟨g, 2, none⟩ = some (sq hd) := cells_at (i := 2) ho rfl
  have k3 : w.cell? ⟨g, 3, none⟩ = some (.bool headed) := cells_at (i := 3) ho rfl
  have f2 : w.frozen? ⟨g, 2, none⟩ = false := heap_frozen ho 2
  have f3 : w.frozen? ⟨g, 3, none⟩ = false := heap_frozen ho 3
  have HB := Lib.hid hb
  have HO := Lib.hid ho
  clear hb ho
  unfold sq at k2 ⊢
  by_cases h0 : off = 0
  · subst h0
    cases headed with
    | false =>
      go_enter Try.func43, Try.ntmps43
      go_wp2
      have h2 := heap_setCell_same w g 2 _ _ (.string (strB head)) HO.out
      have h3 := heap_setCell_same _ g 3 _ _ (.bool true) h2
      have K : Kept (fun k => k = g) w ((w.setCell ⟨g, 2, none⟩ (.string (strB head))).setCell ⟨g, 3, none⟩ (.bool true)) := (Kept.setCell w g 2 _).trans (Kept.setCell _ g 3 _) (fun _ _ h => h)
      refine bodyPost_end (results_none rfl _ _ _) rfl ⟨rfl, ?_, K⟩
      have e : tellB ⟨key, g, h, A, c, L, began, hd, false⟩ 0 head = ⟨key, g, h, A, c, L, began, head, true⟩ := by unfold tellB; rw [if_pos ⟨rfl, rfl⟩]
      rw [e]
      refine ⟨h3, HB.out.hx.keptA K (T := TB) (fun k hk cs ty fr hg => ?_) tb_no.1 tb_no.2.1 tb_no.2.2.1⟩
      subst hk
      have := HO.out.symm.trans hg
      simp only [Option.some.injEq, Obj.cells.injEq] at this
      exact this.2.1.symm
    | true =>
      have e : tellB ⟨key, g, h, A, c, L, began, hd, true⟩ 0 head = ⟨key, g, h, A, c, L, began, hd, true⟩ := by unfold tellB; rw [if_neg (fun h => by cases h.2)]
      rw [e]
      go_enter Try.func43, Try.ntmps43
      go_wp2
      exact bodyPost_end (results_none rfl _ _ _) rfl ⟨rfl, HB.out, Kept.of_below (Below.refl _ w)⟩
  · have d0 : decide (off = 0) = false := decide_eq_false h0
    have e : tellB ⟨key, g, h, A, c, L, began, hd, headed⟩ off head = ⟨key, g, h, A, c, L, began, hd, headed⟩ := by unfold tellB; rw [if_neg (fun h => h0 h.1)]
    rw [e]
    go_enter Try.func43, Try.ntmps43
    go_wp2
    exact bodyPost_end (results_none rfl _ _ _) rfl ⟨rfl, HB.out, Kept.of_below (Below.refl _ w)⟩
/-- A buffer without parts that begins now. -/
def Fresh (s : Bu) (key : List UInt8) (now : Int) : Prop := s.key = key ∧ s.A = none ∧ s.c = 0 ∧ s.L = [] ∧ s.began = min (max now 0) 1099511627776 ∧ s.head = [] ∧ s.headed = false
section
variable {w : World} {t bm : Nat} {tot mb my wt : Int} {M : List (List UInt8 × Nat)} {S : List Bu}
/-- One buffer more lies about, in blocks of its own. -/
theorem Tx.cons (h : Tx w t bm tot mb my wt M S) {s : Bu} (hb : Bx w s) (hk : s.key.length ≤ maxLen) (hn : ∀ x ∈ S, s.key ≠ x.key) (ha : ∀ x ∈ S, ApB s x) : Tx w t bm tot mb my wt M (s :: S) :=
  ⟨h.obj, h.map, h.ndm, List.pairwise_cons.2 ⟨hn, h.nd⟩, fun x hx => by rcases List.mem_cons.1 hx with rfl | hx; exact hk; exact h.len x hx, fun x hx => by rcases List.mem_cons.1 hx with rfl | hx; exact hb; exact h.bx x hx, List.pairwise_cons.2 ⟨ha, h.ap⟩⟩
theorem jfind_ok (hT : Tx w t bm tot mb my wt M S) (hMS : M.Perm (S.map Bu.kg)) (key : List UInt8) (now : Int) (hk : key.length ≤ maxLen) (hf : (∃ s ∈ S, s.key = key) ∨ ¬ (M.length : Int) ≥ mb) :
    Calls Try.prog 40 #[.pointer (some ⟨t, 0, none⟩), sq key, .int .i64 now] w fun e w' =>
      ∃ s R, e = .returned (.tuple #[.pointer (some ⟨s.g, 0, none⟩), .int .i64 0]) ∧ Tx w' t bm tot mb my wt M (s :: R) ∧ s.key = key ∧ Below w.heap.size w w' ∧ ((S.Perm (s :: R) ∧ w = w') ∨ (S = R ∧ Fresh s key now ∧ w.heap.size ≤ s.g ∧ w.heap.size ≤ s.h ∧ ∀ x ∈ S, x.key ≠ key)) := by
  by_cases hx : ∃ s ∈ S, s.key = key
  · obtain ⟨s, hs, hsk⟩ := hx
    have hm : (key, s.g) ∈ M := hMS.mem_iff.2 (List.mem_map.2 ⟨s, hs, by rw [← hsk]; rfl⟩)
    refine (jfind_hit hT s.g key now hk hm).mono ?_
    rintro e w' ⟨rfl, rfl⟩
    obtain ⟨S1, S2, hR0⟩ := List.append_of_mem hs
    obtain ⟨R, hR⟩ : ∃ R, S.Perm (s :: R) := ⟨S1 ++ S2, by rw [hR0]; exact List.perm_middle⟩
    exact ⟨s, R, rfl, hT.perm (List.Perm.refl _) hR, hsk, Below.refl _ _, .inl ⟨hR, rfl⟩⟩
  · have hge : ¬ (M.length : Int) ≥ mb := by rcases hf with h | h; exact absurd h hx; exact h
    have hno : ∀ x ∈ S, x.key ≠ key := fun x hx' e => hx ⟨x, hx', e⟩
    have hm : ∀ p ∈ M, p.1 ≠ key := fun p hp e => by
      obtain ⟨s, hs, rfl⟩ := List.mem_map.1 (hMS.mem_iff.1 hp)
      exact hno s hs e
    refine (jfind_new hT key now hk hm hge).mono ?_
    rintro e w' ⟨g, h, rfl, hb, hbl, hg, hh⟩
    refine ⟨_, S, rfl, (hT.below hbl).cons hb hk (fun x hx' e => hno x hx' e.symm) (fun x hx' => ⟨?_, ?_, fun k hk' => by cases hk'⟩), rfl, hbl, .inr ⟨rfl, ⟨rfl, rfl, rfl, rfl, rfl, rfl, rfl⟩, hg, hh, hno⟩⟩
    · have := heap_lt (hT.bx x hx').obj
      show g ≠ x.g
      omega
    · have := heap_lt (hT.bx x hx').hx.obj
      show h ≠ x.h
      omega
end
end Go.Proofs.Ytghbliabmecbcaa

/-
  What a step of Add of layer 16 leaves of a table. Conditions are each theorem's own.
-/
namespace Go.Proofs.Ytghbliabmecbcaa
open Go.RowKit Go.Shelf Go.Maps
/-- A buffer, its parts anew. -/
def Bu.with_ (s : Bu) (A : Option Addr) (c : Nat) (L : List XP) : Bu := { s with A := A, c := c, L := L }
section
variable {w w' : World} {t bm : Nat} {tot mb my wt : Int} {M : List (List UInt8 × Nat)} {R : List Bu} {s : Bu}
theorem own_in {w : World} {s : Bu} (h : Bx w s) {k : Nat} (hk : k = s.h ∨ s.v.ownBlock = some k) : ∃ cs ty, w.heap[k]? = some (.cells cs ty (0, 0)) ∧ TH ty := h.hx.ofT k hk
theorem Tx.add (h : Tx w t bm tot mb my wt M (s :: R)) {A2 : Option Addr} {c2 : Nat} {L2 : List XP} (hx : Hx w' s.h A2 c2 L2) (k : Kept (fun k => k = s.h ∨ s.v.ownBlock = some k) w w')
    (ob : ∀ k, (Value.slice A2 L2.length c2).ownBlock = some k → s.v.ownBlock = some k ∨ w.heap.size ≤ k) : Tx w' t bm tot mb my wt M (s.with_ A2 c2 L2 :: R) := by
  have hb := h.bx s (List.mem_cons_self ..)
  have hof := hb.hx.ofT
  obtain ⟨es, hm, hp⟩ := h.map
  obtain ⟨ha1, ha2⟩ := List.pairwise_cons.1 h.ap
  obtain ⟨hn1, hn2⟩ := List.pairwise_cons.1 h.nd
  have thn : ¬ TH 75 ∧ ¬ TH 71 := by
    refine ⟨?_, ?_⟩ <;> (rintro (h | h) <;> exact absurd h (nat_ne (by kernel_rfl)))
  have hgk : ∀ x ∈ s :: R, w'.heap[x.g]? = w.heap[x.g]? := fun x hx' => k.block x.g (heap_lt (h.bx x hx').obj) (fun e => thn.1 (hof.not e (h.bx x hx').obj))
  refine ⟨(k.block t (heap_lt h.obj) (fun e => thn.2 (hof.not e h.obj))).trans h.obj, ⟨es, own_map_kept hm k (fun e => ?_), hp⟩, h.ndm, List.pairwise_cons.2 ⟨hn1, hn2⟩, ?_, ?_, List.pairwise_cons.2 ⟨?_, ha2⟩⟩
  · obtain ⟨cs, ty, h1, _⟩ := hof bm e
    exact map_is hm h1
  · intro x hx'
    rcases List.mem_cons.1 hx' with rfl | hx'
    · exact h.len s (List.mem_cons_self ..)
    · exact h.len x (List.mem_cons_of_mem _ hx')
  · intro x hx'
    rcases List.mem_cons.1 hx' with rfl | hx'
    · exact ⟨(hgk s (List.mem_cons_self ..)).trans hb.obj, hx⟩
    · have hbx := h.bx x (List.mem_cons_of_mem _ hx')
      exact ⟨(hgk x (List.mem_cons_of_mem _ hx')).trans hbx.obj, hb.hx.beside hbx.hx k (ha1 x hx').2.1 (ha1 x hx').2.2⟩
  · intro x hx'
    have hbx := h.bx x (List.mem_cons_of_mem _ hx')
    refine ⟨(ha1 x hx').1, (ha1 x hx').2.1, fun k' hk' hx2 => ?_⟩
    rcases ob k' hk' with h1 | h1
    · exact (ha1 x hx').2.2 k' h1 hx2
    · have := own_lt hbx.hx k' hx2
      omega
theorem Tx.tell (h : Tx w t bm tot mb my wt M (s :: R)) {off : Int} {head : List UInt8} (hb : Bx w' (tellB s off head)) (k : Kept (fun k => k = s.g) w w') : Tx w' t bm tot mb my wt M (tellB s off head :: R) := by
  have hb0 := h.bx s (List.mem_cons_self ..)
  obtain ⟨es, hm, hp⟩ := h.map
  obtain ⟨ha1, ha2⟩ := List.pairwise_cons.1 h.ap
  obtain ⟨hn1, hn2⟩ := List.pairwise_cons.1 h.nd
  have hof : AwayT w (fun k => k = s.g) TB := fun k hk cs ty fr hg => by
    subst hk
    have := hb0.obj.symm.trans hg
    simp only [Option.some.injEq, Obj.cells.injEq] at this
    exact this.2.1.symm
  refine ⟨(k.block t (heap_lt h.obj) (fun e => tb_no.2.2.2 (hof t e _ _ _ h.obj))).trans h.obj, ⟨es, own_map_kept hm k (fun e => ?_), hp⟩, h.ndm, List.pairwise_cons.2 ⟨?_, hn2⟩, ?_, ?_, List.pairwise_cons.2 ⟨?_, ha2⟩⟩
  · rw [e] at hm; exact map_is hm hb0.obj
  · intro x hx; rw [tellB_key]; exact hn1 x hx
  · intro x hx'
    rcases List.mem_cons.1 hx' with rfl | hx'
    · rw [tellB_key]; exact h.len s (List.mem_cons_self ..)
    · exact h.len x (List.mem_cons_of_mem _ hx')
  · intro x hx'
    rcases List.mem_cons.1 hx' with rfl | hx'
    · exact hb
    · exact (h.bx x (List.mem_cons_of_mem _ hx')).keptA k hof tb_no.1 tb_no.2.1 tb_no.2.2.1 (fun e => (ha1 x hx').1 e.symm)
  · intro x hx
    refine ⟨?_, ?_, ?_⟩
    · rw [tellB_g]; exact (ha1 x hx).1
    · rw [tellB_h]; exact (ha1 x hx).2.1
    · rw [tellB_v]; exact (ha1 x hx).2.2
theorem Tx.setTot (h : Tx w t bm tot mb my wt M R) (n : Int) : Tx (w.setCell ⟨t, 1, none⟩ (.int .i64 n)) t bm n mb my wt M R := by
  obtain ⟨es, hm, hp⟩ := h.map
  have K1 : Kept (fun k => k = t ∨ k = bm) w (w.setCell ⟨t, 1, none⟩ (.int .i64 n)) := (Kept.setCell w t 1 _).mono (fun _ _ h => .inl h)
  exact h.turn K1 (heap_setCell_same _ t 1 _ _ (.int .i64 n) h.obj) ⟨es, own_map_kept hm (Kept.setCell w t 1 _) (fun e => h.ne e), hp⟩ h.ndm
theorem en_putW {es : List (Lit × DataW Unit)} (hp : es.Perm (M.map enM)) (p : List UInt8 × Nat) : ∃ es', (DataW.map es).put (.string p.1) (.lit (.int .i64 (p.2 : Int))) = .map es' ∧ es'.Perm ((p :: withoutM p.1 M).map enM) := en_put hp p
theorem Tx.put (h : Tx w t bm tot mb my wt M R) {key : List UInt8} {g : Nat} {es' : List (Lit × DataW Unit)} (hp' : es'.Perm (((key, g) :: withoutM key M).map enM)) {n : Nat}
    (ho : w'.ownsMap Try.prog 9 ptrElem bm n (.map es')) (ht : w.mapTurned w' bm) : Tx w' t bm tot mb my wt ((key, g) :: withoutM key M) R := by
  have hK := Kept.of_turned ht
  have h1 := own_exact ho
  rw [hp'.length_eq, List.length_map] at h1
  refine h.turn (hK.mono (fun _ _ h => .inr h)) ((hK.block t (heap_lt h.obj) (fun e => h.ne e.symm)).trans h.obj) ⟨es', h1, hp'⟩ (List.pairwise_cons.2 ⟨fun p hp => ?_, withoutM_nd h.ndm⟩)
  have := (List.mem_filter.1 hp).2
  exact fun e => (of_decide_eq_true this) e.symm
end
end Go.Proofs.Ytghbliabmecbcaa

/-
  Add of layer 16's code, where the part is taken. Conditions are each theorem's own.
-/
namespace Go.Proofs.Ytghbliabmecbcaa
open Go.RowKit Go.Shelf Go.Maps
/-- How much room a part wants among the parts that are there. -/
def roomC (L : List Pc) (a : Int) (b : List UInt8) : Int := if (nearP L a).any (alikeP ⟨a, false, b⟩) then 0 else (b.length : Int)
/-- The parts of a key. -/
def partsOf (S : List Bu) (key : List UInt8) : List Pc := match S.find? (fun s => decide (s.key = key)) with | some s => piE s.L | none => []
/-- The key has a buffer, or there may be one more. -/
def Takes (M : List (List UInt8 × Nat)) (S : List Bu) (mb : Int) (key : List UInt8) : Prop := (∃ s ∈ S, s.key = key) ∨ ¬ (M.length : Int) ≥ mb
theorem partsOf_hit {S R : List Bu} {s : Bu} {key : List UInt8} (hp : S.Perm (s :: R)) (hk : s.key = key) (nd : (s :: R).Pairwise (fun a b => a.key ≠ b.key)) : partsOf S key = piE s.L := by
  unfold partsOf
  obtain ⟨h1, h2⟩ := List.pairwise_cons.1 nd
  cases hf : S.find? (fun s => decide (s.key = key)) with
  | none =>
    have := List.find?_eq_none.1 hf s (hp.mem_iff.2 (List.mem_cons_self ..))
    simp [hk] at this
  | some x =>
    have hx := hp.mem_iff.1 (List.mem_of_find?_eq_some hf)
    have hxk : x.key = key := by simpa using List.find?_some hf
    rcases List.mem_cons.1 hx with rfl | hx
    · rfl
    · exact absurd (hk.trans hxk.symm) (h1 x hx)
theorem partsOf_none {S : List Bu} {key : List UInt8} (h : ∀ x ∈ S, x.key ≠ key) : partsOf S key = [] := by
  unfold partsOf
  rw [List.find?_eq_none.2 (fun x hx => by simpa using h x hx)]
theorem partsOf_find {S R : List Bu} {s : Bu} {key : List UInt8} {now : Int} {w w' : World} (h : (S.Perm (s :: R) ∧ w = w') ∨ (S = R ∧ Fresh s key now ∧ w.heap.size ≤ s.g ∧ w.heap.size ≤ s.h ∧ ∀ x ∈ S, x.key ≠ key)) (hk : s.key = key) (nd : (s :: R).Pairwise (fun a b => a.key ≠ b.key)) : partsOf S key = piE s.L := by
  rcases h with ⟨hp, _⟩ | ⟨hSR, hfr, _, _, hno⟩
  · exact partsOf_hit hp hk nd
  · rw [partsOf_none hno, hfr.2.2.2.1]; rfl
theorem jroom (g : Nat) (A : Option Addr) (c : Nat) (L : List XP) (a : Int) (A' : Option Addr) (b : List UInt8) (c' : Nat) (w : World) (h : Hx w g A c L) (hA' : Arg w w.heap.size A' c' b) :
    Calls Try.prog 41 #[.pointer (some ⟨g, 0, none⟩), .int .i64 a, .slice A' b.length c'] w fun e w' => e = .returned (.int .i64 (roomC (piE L) a b)) ∧ Below w.heap.size w w' := hcroom g A c L a A' b c' w h hA'
theorem tellB_hx {w : World} {s : Bu} {off : Int} {head : List UInt8} (h : Bx w (tellB s off head)) : Hx w s.h s.A s.c s.L := by
  have := h.hx
  unfold tellB at this
  split at this <;> exact this
theorem tellB_c0 {w : World} {s : Bu} {off : Int} {head : List UInt8} (h : Bx w (tellB s off head)) : w.cell? ⟨s.g, 0, none⟩ = some (.pointer (some ⟨s.h, 0, none⟩)) := by
  have ho := h.obj
  rw [tellB_g, tellB_h] at ho
  exact cells_at (i := 0) ho rfl
/-- All that a table has lies from block B on. -/
def Tz (B t bm : Nat) (S : List Bu) : Prop := B ≤ t ∧ B ≤ bm ∧ ∀ s ∈ S, B ≤ s.g ∧ B ≤ s.h ∧ ∀ k, s.v.ownBlock = some k → B ≤ k
theorem find_z {B t bm : Nat} {S R : List Bu} {s : Bu} {key : List UInt8} {now : Int} {w w' : World} (h : (S.Perm (s :: R) ∧ w = w') ∨ (S = R ∧ Fresh s key now ∧ w.heap.size ≤ s.g ∧ w.heap.size ≤ s.h ∧ ∀ x ∈ S, x.key ≠ key)) (hB : B ≤ w.heap.size) (hz : Tz B t bm S) : Tz B t bm (s :: R) := by
  refine ⟨hz.1, hz.2.1, fun x hx => ?_⟩
  rcases h with ⟨hp, _⟩ | ⟨rfl, hf, h1, h2, _⟩
  · exact hz.2.2 x (hp.mem_iff.2 hx)
  · rcases List.mem_cons.1 hx with rfl | hx
    · refine ⟨Nat.le_trans hB h1, Nat.le_trans hB h2, fun k hk => ?_⟩
      unfold Bu.v at hk
      rw [hf.2.1] at hk
      cases hk
    · exact hz.2.2 x hx
theorem Tz.with_ {B t bm : Nat} {R : List Bu} {s : Bu} {A2 : Option Addr} {c2 : Nat} {L2 : List XP} {w : World} (hz : Tz B t bm (s :: R)) (hB : B ≤ w.heap.size) (ob : ∀ k, (Value.slice A2 L2.length c2).ownBlock = some k → s.v.ownBlock = some k ∨ w.heap.size ≤ k) : Tz B t bm (s.with_ A2 c2 L2 :: R) := by
  refine ⟨hz.1, hz.2.1, fun x hx => ?_⟩
  obtain ⟨h1, h2, h3⟩ := hz.2.2 s (List.mem_cons_self ..)
  rcases List.mem_cons.1 hx with rfl | hx
  · refine ⟨h1, h2, fun k hk => ?_⟩
    rcases ob k hk with h | h
    · exact h3 k h
    · omega
  · exact hz.2.2 x (List.mem_cons_of_mem _ hx)
theorem Tz.tell {B t bm : Nat} {R : List Bu} {s : Bu} {off : Int} {head : List UInt8} (hz : Tz B t bm (s :: R)) : Tz B t bm (tellB s off head :: R) := by
  refine ⟨hz.1, hz.2.1, fun x hx => ?_⟩
  obtain ⟨h1, h2, h3⟩ := hz.2.2 s (List.mem_cons_self ..)
  rcases List.mem_cons.1 hx with rfl | hx
  · rw [tellB_g, tellB_h, tellB_v]; exact ⟨h1, h2, h3⟩
  · exact hz.2.2 x (List.mem_cons_of_mem _ hx)
/-- What Add leaves where the part was the last that was missing. -/
def DoneLeaves (w w' : World) (t bm : Nat) (tot mb my wt : Int) (M : List (List UInt8 × Nat)) (S : List Bu) (key : List UInt8) (off now : Int) (more : Bool) (b : List UInt8) (B0 : Nat) (v : Value) : Prop :=
  ∃ (s : Bu) (R : List Bu), Tx w' t bm (tot + roomC (partsOf S key) off b - bytesP (addCL (partsOf S key) ⟨off, more, b⟩)) mb my wt (withoutM key M) R ∧ s.key = key ∧
    (S.Perm (s :: R) ∨ (S = R ∧ Fresh s key now ∧ ∀ x ∈ S, x.key ≠ key)) ∧ Tz B0 t bm R ∧ Below B0 w w' ∧
    ∃ P p, v = .slice P (catP (addCL (partsOf S key) ⟨off, more, b⟩)).length p ∧ Arg w' w'.heap.size P p (catP (addCL (partsOf S key) ⟨off, more, b⟩))
/-- The head of a key, once such a part was told. -/
def headOf (S : List Bu) (key : List UInt8) (off : Int) (head : List UInt8) : List UInt8 := match S.find? (fun s => decide (s.key = key)) with | some s => (tellB s off head).head | none => if off = 0 then head else []
theorem find_hit {S R : List Bu} {s : Bu} {key : List UInt8} (hp : S.Perm (s :: R)) (hk : s.key = key) (nd : (s :: R).Pairwise (fun a b => a.key ≠ b.key)) : S.find? (fun s => decide (s.key = key)) = some s := by
  obtain ⟨h1, h2⟩ := List.pairwise_cons.1 nd
  cases hf : S.find? (fun s => decide (s.key = key)) with
  | none =>
    have := List.find?_eq_none.1 hf s (hp.mem_iff.2 (List.mem_cons_self ..))
    simp [hk] at this
  | some x =>
    have hx := hp.mem_iff.1 (List.mem_of_find?_eq_some hf)
    have hxk : x.key = key := by simpa using List.find?_some hf
    rcases List.mem_cons.1 hx with rfl | hx
    · rfl
    · exact absurd (hk.trans hxk.symm) (h1 x hx)
theorem headOf_eq {S R : List Bu} {s : Bu} {key head : List UInt8} {now off : Int} {w w' : World} {A2 : Option Addr} {c2 : Nat} {L2 : List XP} (h : (S.Perm (s :: R) ∧ w = w') ∨ (S = R ∧ Fresh s key now ∧ w.heap.size ≤ s.g ∧ w.heap.size ≤ s.h ∧ ∀ x ∈ S, x.key ≠ key)) (hk : s.key = key)
    (nd : (s :: R).Pairwise (fun a b => a.key ≠ b.key)) : (tellB (s.with_ A2 c2 L2) off head).head = headOf S key off head := by
  rcases h with ⟨hp, _⟩ | ⟨hSR, hfr, _, _, hno⟩
  · unfold headOf
    rw [find_hit hp hk nd]
    show _ = (tellB s off head).head
    unfold tellB Bu.with_
    by_cases hc : off = 0 ∧ s.headed = false
    · rw [if_pos hc, if_pos hc]
    · rw [if_neg hc, if_neg hc]
  · unfold headOf
    rw [List.find?_eq_none.2 (fun x hx => by simpa using hno x hx)]
    show _ = if off = 0 then head else []
    unfold tellB Bu.with_
    by_cases hc : off = 0
    · rw [if_pos ⟨hc, hfr.2.2.2.2.2.2⟩, if_pos hc]
    · rw [if_neg (fun h => hc h.1), if_neg hc]; exact hfr.2.2.2.2.2.1
theorem jdropK {w : World} {t bm : Nat} {tot mb my wt : Int} {M : List (List UInt8 × Nat)} {S : List Bu} (hT : Tx w t bm tot mb my wt M S) (s : Bu) (hb : Bx w s) (key : List UInt8) (g : Nat) (he : s.key = key) (hg : s.g = g) (by_ : Int) (hby : s.by = by_) (hk : key.length ≤ maxLen) (ht0 : 0 ≤ tot ∧ tot ≤ 1000000000000) (hs0 : 0 ≤ by_ ∧ by_ ≤ 1000000000000) :
    Calls Try.prog 37 #[.pointer (some ⟨t, 0, none⟩), sq key, .pointer (some ⟨g, 0, none⟩)] w fun e w' =>
      e = .returned (.tuple #[]) ∧ Tx w' t bm (tot - by_) mb my wt (withoutM key M) S ∧ Kept (fun k => k = t ∨ k = bm) w w' := by
  subst he; subst hg; subst hby
  exact jdrop hT s hb hk ht0 hs0
theorem Tx.away {w : World} {t bm : Nat} {tot mb my wt : Int} {M : List (List UInt8 × Nat)} {S : List Bu} (h : Tx w t bm tot mb my wt M S) : AwayT w (fun k => k = t ∨ k = bm) TT := fun k hk cs ty fr hg => by
  rcases hk with rfl | rfl
  · have := h.obj.symm.trans hg
    simp only [Option.some.injEq, Obj.cells.injEq] at this
    exact this.2.1.symm
  · obtain ⟨es, hm', _⟩ := h.map
    exact absurd hg (map_is hm')
theorem Bx.c2 {w : World} {s : Bu} {g : Nat} (h : Bx w s) (hg : s.g = g) : w.cell? ⟨g, 2, none⟩ = some (sq s.head) := by subst hg; exact cells_at (i := 2) h.obj rfl
/-- What Add leaves where the part was taken, and the buffer is still there. -/
def AddLeaves (w w' : World) (t bm : Nat) (tot mb my wt : Int) (M : List (List UInt8 × Nat)) (S : List Bu) (key head : List UInt8) (off now : Int) (more : Bool) (b : List UInt8) (B0 : Nat) : Prop :=
  ∃ (s : Bu) (R : List Bu) (A2 : Option Addr) (c2 : Nat) (L2 : List XP), Tx w' t bm (tot + roomC (partsOf S key) off b) mb my wt ((key, s.g) :: withoutM key M) (tellB (s.with_ A2 c2 L2) off head :: R) ∧ s.key = key ∧
    (S.Perm (s :: R) ∨ (S = R ∧ Fresh s key now ∧ ∀ x ∈ S, x.key ≠ key)) ∧ piE L2 = addCL (partsOf S key) ⟨off, more, b⟩ ∧ L2.length ≤ s.L.length + 1 ∧ Tz B0 t bm (tellB (s.with_ A2 c2 L2) off head :: R) ∧ Below B0 w w'
section
variable {w : World} {t bm : Nat} {tot mb my wt : Int} {M : List (List UInt8 × Nat)} {S : List Bu}
set_option maxRecDepth 100000 in
set_option maxHeartbeats 2000000 in
theorem jadd_open (hT0 : Tx w t bm tot mb my wt M S) (hMS : M.Perm (S.map Bu.kg)) (key head : List UInt8) (off now : Int) (more : Bool) (A' : Option Addr) (c' : Nat) (b : List UInt8) (hA' : Arg w w.heap.size A' c' b) (hk : key.length ≤ maxLen) (hbl : b.length ≤ 1000000)
    (hoff : -9223372036854775808 ≤ off ∧ off ≤ 9223372036854775807) (hL : ∀ s ∈ S, s.L.length + 1 ≤ 100000) (htot : 0 ≤ tot ∧ tot ≤ 100000000000) (hf : Takes M S mb key) (hM : M.length < 1000000) (B0 : Nat) (hB0 : B0 ≤ w.heap.size) (hZ : Tz B0 t bm S)
    (hroom : ¬ tot + roomC (partsOf S key) off b > my) (hadd : addC (partsOf S key) ⟨off, more, b⟩ = 0)
    (hnd : (endedP (addCL (partsOf S key) ⟨off, more, b⟩) && decide (gapsS 0 (addCL (partsOf S key) ⟨off, more, b⟩) = [])) = false) :
    Calls Try.prog 16 #[.pointer (some ⟨t, 0, none⟩), sq key, .int .i64 off, .bool more, .slice A' b.length c', sq head, .int .i64 now] w fun e w' =>
      e = .returned (.tuple #[.string ByteArray.empty, .slice none 0 0, .bool false, .int .i64 0]) ∧ AddLeaves w w' t bm tot mb my wt M S key head off now more b B0 := by
  have k0 := hT0.c0
  obtain ⟨RM, hRM⟩ : ∃ RM, RM = roomC (partsOf S key) off b := ⟨_, rfl⟩
  have hrm0 : 0 ≤ RM ∧ RM ≤ 1000000 := by rw [hRM]; unfold roomC; split <;> omega
  rw [← hRM] at hroom
  have HW1 : Hid (IntKind.i64.wrap (tot + RM) = tot + RM) := Lib.hid (IntWalk.i64_in _ (by omega))
  have HROOM : Hid (tot + RM ≤ my) := Lib.hid (by omega)
  have HRM := Lib.hid hRM
  have hT := Lib.hid hT0
  have HMS := Lib.hid hMS
  have HF := Lib.hid hf
  have HARG := Lib.hid hA'
  have HADD := Lib.hid hadd
  have HND := Lib.hid hnd
  have HL := Lib.hid hL
  have HZ := Lib.hid hZ
  clear hT0 hMS hf hA' hadd hnd hL hroom hRM hZ
  unfold sq at *
  go_enter Try.func16, Try.ntmps16
  go_upto_region 7 with (first
    | (go_at_call 36; refine (jmade t bm _ k0).mono ?_; rintro e w1 ⟨rfl, rfl⟩)
    | (go_at_call 41; go_loud (refine (jroom s.h s.A s.c s.L off A' b c' _ (HT1.out.bx s (List.mem_cons_self ..)).hx ((HARG.out.below b1).more b1.size)).mono ?_; rintro e w2 ⟨rfl, b2⟩; rw [← HRV.out]))
    | (go_at_call 40; go_loud (refine (jfind_ok hT.out HMS.out key now hk HF.out).mono ?_; rintro e w1 ⟨s, R, rfl, hT1, hsk, b1, hcs⟩; have HT1 := Lib.hid hT1; have HSK := Lib.hid hsk; have HCS := Lib.hid hcs; have kg1 : w1.cell? ⟨s.g, 0, none⟩ = some (.pointer (some ⟨s.h, 0, none⟩)) := cells_at (i := 0) (HT1.out.bx s (List.mem_cons_self ..)).obj rfl; clear hT1 hsk hcs; have HPO := Lib.hid (partsOf_find HCS.out HSK.out HT1.out.nd); have HRV := Lib.hid (HRM.out.trans (congrArg (fun z => roomC z off b) HPO.out)))))
  have HT2 := Lib.hid (HT1.out.below b2)
  have ht := HT2.out.obj
  have htz := heap_lt ht
  refine wp_region_held_drew (S := fun w' => Below w2.heap.size w2 w') (by kernel_rfl) (Below.refl _ w2).drew (fun hS => ?_)
  refine held_pure (i := 0) (oi := ⟨some 44, _, _, _, _, _⟩) rfl (by kernel_rfl) (by kernel_rfl) (by kernel_rfl) (fun _ _ _ h => h) (by rfl) (v := ?_) (fun w hSw => ?_) hS (fun hS => ?_)
  rotate_left
  · go_simp; try with_reducible rfl
  try go_frame
  refine held_pure (i := 1) (oi := ⟨some 45, _, _, _, _, _⟩) rfl (by kernel_rfl) (by kernel_rfl) (by kernel_rfl) (fun _ _ _ h => h) (by rfl) (v := ?_) (fun w hSw => ?_) hS (fun hS => ?_)
  rotate_left
  · go_simp; try with_reducible rfl
  try go_frame
  refine held_pure (i := 2) (oi := ⟨some 46, _, _, _, _, _⟩) rfl (by kernel_rfl) (by kernel_rfl) (by kernel_rfl) (fun _ _ _ h => h) (by rfl) (v := ?_) (fun w hSw => ?_) hS (fun hS => ?_)
  rotate_left
  · go_simp; try with_reducible rfl
  try go_frame
  refine held_pure (i := 3) (oi := ⟨some 47, _, _, _, _, _⟩) rfl (by kernel_rfl) (by kernel_rfl) (by kernel_rfl) (fun _ _ _ h => h) (by rfl) (fun w hSw => run_load_int rfl rfl (cells_at (i := 1) ((hSw.block t htz).trans ht) rfl)) hS (fun hS => ?_)
  try go_frame
  refine held_pure (i := 4) (oi := ⟨some 48, _, _, _, _, _⟩) rfl (by kernel_rfl) (by kernel_rfl) (by kernel_rfl) (fun _ _ _ h => h) (by rfl) (v := ?_) (fun w hSw => ?_) hS (fun hS => ?_)
  rotate_left
  · go_simp; try with_reducible rfl
  try go_frame
  refine held_pure (i := 5) (oi := ⟨some 49, _, _, _, _, _⟩) rfl (by kernel_rfl) (by kernel_rfl) (by kernel_rfl) (fun _ _ _ h => h) (by rfl) (v := .int .i64 (tot + RM)) (fun w hSw => by go_simp; try exact HW1.out) hS (fun hS => ?_)
  try go_frame
  refine held_pure (i := 6) (oi := ⟨some 50, _, _, _, _, _⟩) rfl (by kernel_rfl) (by kernel_rfl) (by kernel_rfl) (fun _ _ _ h => h) (by rfl) (v := ?_) (fun w hSw => ?_) hS (fun hS => ?_)
  rotate_left
  · go_simp; try with_reducible rfl
  try go_frame
  refine held_pure (i := 7) (oi := ⟨some 51, _, _, _, _, _⟩) rfl (by kernel_rfl) (by kernel_rfl) (by kernel_rfl) (fun _ _ _ h => h) (by rfl) (v := ?_) (fun w hSw => ?_) hS (fun hS => ?_)
  rotate_left
  · go_simp; try with_reducible rfl
  try go_frame
  refine held_pure (i := 8) (oi := ⟨some 52, _, _, _, _, _⟩) rfl (by kernel_rfl) (by kernel_rfl) (by kernel_rfl) (fun _ _ _ h => h) (by rfl) (v := ?_) (fun w hSw => ?_) hS (fun hS => ?_)
  rotate_left
  · go_simp; try with_reducible rfl
  try go_frame
  refine held_pure (i := 9) (oi := ⟨some 53, _, _, _, _, _⟩) rfl (by kernel_rfl) (by kernel_rfl) (by kernel_rfl) (fun _ _ _ h => h) (by rfl) (fun w hSw => run_load_int rfl rfl (cells_at (i := 3) ((hSw.block t htz).trans ht) rfl)) hS (fun hS => ?_)
  try go_frame
  refine held_pure (i := 10) (oi := ⟨some 54, _, _, _, _, _⟩) rfl (by kernel_rfl) (by kernel_rfl) (by kernel_rfl) (fun _ _ _ h => h) (by rfl) (v := .bool false) (fun w hSw => by go_simp; try (exact HROOM.out)) hS (fun hS => ?_)
  try go_frame
  refine wpAnyH_done (by kernel_rfl) ?_ _
  have b3 := hS
  generalize w2.drew = w3 at *
  have HT3 := Lib.hid (HT2.out.below b3)
  have hb3 := HT3.out.bx s (List.mem_cons_self ..)
  have kg3 : w3.cell? ⟨s.g, 0, none⟩ = some (.pointer (some ⟨s.h, 0, none⟩)) := cells_at (i := 0) hb3.obj rfl
  have HX3 := Lib.hid hb3.hx
  have b13 : Below w.heap.size w w3 := (b1.trans (b2.mono b1.size)).trans (b3.mono (Nat.le_trans b1.size b2.size))
  have HAR3 := Lib.hid ((HARG.out.below b13).more b13.size)
  have HE3 : Hid (addC (piE s.L) ⟨off, more, b⟩ = 0) := Lib.hid (by rw [← HPO.out]; exact HADD.out)
  have hsl : s.L.length + 1 ≤ 100000 := by
    rcases HCS.out with ⟨hp, _⟩ | ⟨_, hfr, _⟩
    · exact HL.out s (hp.mem_iff.2 (List.mem_cons_self ..))
    · rw [hfr.2.2.2.1]; decide
  clear hS hb3 kg1 ht htz
  have HZ3 := Lib.hid (find_z HCS.out hB0 HZ.out)
  have HS3 : Hid (∀ i, (i = s.h ∨ s.v.ownBlock = some i) → B0 ≤ i) := Lib.hid (fun i hi => by
    obtain ⟨_, h2, h3⟩ := HZ3.out.2.2 s (List.mem_cons_self ..)
    rcases hi with rfl | hi
    · exact h2
    · exact h3 i hi)
  have hw1 := HW1.out
  go_wp2_with (first
    | (go_at_call 42; go_loud (refine (hcadd s.h s.A s.c s.L off more A' b c' _ HX3.out HAR3.out hbl hoff hsl).mono ?_; rintro e w4 ⟨rfl, A2, c2, L2, hx4, hp4, k4, ob4, ln4⟩; rw [HE3.out]; have HT4 := Lib.hid (HT3.out.add hx4 k4 ob4); have HZ4 := Lib.hid (HZ3.out.with_ (Nat.le_trans hB0 b13.size) ob4); have HB4 := Lib.hid (k4.below (Nat.le_trans hB0 b13.size) HS3.out); have kt4 := HT4.out.c0; have HP4 := Lib.hid hp4; obtain ⟨es4, hown4, hpe4⟩ := HT4.out.map; obtain ⟨es5, hput5, hpe5⟩ := en_putW hpe4 (key, s.g); have HPUT := Lib.hid hput5; have HPE := Lib.hid hpe5; clear hx4 hp4 k4 ob4 hpe4 hput5 hpe5))
    | (at_mapUpdate; go_loud (refine wpList_mapUpdate_in _ rfl _ _ _ 69 rfl 9 72 klaw Try.underlying69 ptrElem bm M.length _ rfl hown4 (by unfold maxLen; omega) _ _ _ rfl rfl (kkey key hk) (.lit (.int .i64 (s.g : Int))) [] rfl ?_; intro w5 hown5 hturn5; rw [HPUT.out] at hown5; have HT5 := Lib.hid (HT4.out.put HPE.out hown5 hturn5); have kt5 := HT5.out.c1; have ft5 := heap_frozen HT5.out.obj 1; have HT6 := Lib.hid (HT5.out.setTot (tot + RM)); have HB5 := Lib.hid ((Kept.of_turned hturn5).below (B := B0) (Nat.le_trans hB0 (Nat.le_trans b13.size HB4.out.size)) (fun k hk => by rw [hk]; exact HZ.out.2.1)); have HK6 := Lib.hid (Kept.setCell w5 t 1 (.int .i64 (tot + RM))); clear hown4 hown5 hturn5))
    | (go_at_call 43; go_loud (refine (jtell (s.with_ A2 c2 L2) (HT6.out.bx _ (List.mem_cons_self ..)) off head).mono ?_; rintro e w7 ⟨rfl, hb7, k7⟩; have HT7 := Lib.hid (HT6.out.tell hb7 k7); have HX7 : Hid (Hx w7 s.h A2 c2 L2) := Lib.hid (tellB_hx (s := s.with_ A2 c2 L2) hb7); have kg7 : w7.cell? ⟨s.g, 0, none⟩ = some (.pointer (some ⟨s.h, 0, none⟩)) := tellB_c0 (s := s.with_ A2 c2 L2) hb7; have HK7 := Lib.hid k7; clear hb7 k7))
    | (go_at_call 44; go_loud (refine (hcdone s.h A2 c2 L2 _ HX7.out).mono ?_; rintro e w8 ⟨v8, rfl, m8⟩; have HND8 : Hid ((endedP (piE L2) && decide (gapsS 0 (piE L2) = [])) = false) := Lib.hid (by rw [HP4.out, ← HPO.out]; exact HND.out); rw [HND8.out]; have HM8 := Lib.hid m8; clear m8)))
  obtain ⟨_, _, _, _, _, y8⟩ := made_shape HM8.out
  have z3 := Nat.le_trans hB0 b13.size
  have z4 := Nat.le_trans z3 HB4.out.size
  have z5 := Nat.le_trans z4 HB5.out.size
  have B6 := HK6.out.below (B := B0) z5 (fun k hk => by rw [hk]; exact HZ.out.1)
  have z6 := Nat.le_trans z5 B6.size
  have B7 := HK7.out.below (B := B0) z6 (fun k hk => by rw [hk]; exact (HZ3.out.2.2 s (List.mem_cons_self ..)).1)
  have z7 := Nat.le_trans z6 B7.size
  refine bodyPost_ret (results_tmp4 rfl _ _ _) rfl ⟨rfl, s, R, A2, c2, L2, ?_, HSK.out, ?_, ?_, ln4, HZ4.out.tell, ?_⟩
  · rw [← HRM.out]; exact HT7.out.below y8
  · rcases HCS.out with ⟨h, _⟩ | ⟨h1, h2, _, _, h5⟩
    · exact .inl h
    · exact .inr ⟨h1, h2, h5⟩
  · rw [HP4.out, HPO.out]
  · exact (((((b13.mono hB0).trans HB4.out).trans HB5.out).trans B6).trans B7).trans (y8.mono z7)
set_option maxRecDepth 100000 in
set_option maxHeartbeats 2000000 in
theorem jadd_done (hT0 : Tx w t bm tot mb my wt M S) (hMS : M.Perm (S.map Bu.kg)) (key head : List UInt8) (off now : Int) (more : Bool) (A' : Option Addr) (c' : Nat) (b : List UInt8) (hA' : Arg w w.heap.size A' c' b) (hk : key.length ≤ maxLen) (hbl : b.length ≤ 1000000)
    (hoff : -9223372036854775808 ≤ off ∧ off ≤ 9223372036854775807) (hL : ∀ s ∈ S, s.L.length + 1 ≤ 100000) (htot : 0 ≤ tot ∧ tot ≤ 100000000000) (hf : Takes M S mb key) (hM : M.length < 1000000) (B0 : Nat) (hB0 : B0 ≤ w.heap.size) (hZ : Tz B0 t bm S)
    (hroom : ¬ tot + roomC (partsOf S key) off b > my) (hadd : addC (partsOf S key) ⟨off, more, b⟩ = 0)
    (hnd : (endedP (addCL (partsOf S key) ⟨off, more, b⟩) && decide (gapsS 0 (addCL (partsOf S key) ⟨off, more, b⟩) = [])) = true) (hbp : 0 ≤ bytesP (addCL (partsOf S key) ⟨off, more, b⟩) ∧ bytesP (addCL (partsOf S key) ⟨off, more, b⟩) ≤ 1000000000000) :
    Calls Try.prog 16 #[.pointer (some ⟨t, 0, none⟩), sq key, .int .i64 off, .bool more, .slice A' b.length c', sq head, .int .i64 now] w fun e w' =>
      ∃ v, e = .returned (.tuple #[sq (headOf S key off head), v, .bool true, .int .i64 0]) ∧ DoneLeaves w w' t bm tot mb my wt M S key off now more b B0 v := by
  have k0 := hT0.c0
  obtain ⟨RM, hRM⟩ : ∃ RM, RM = roomC (partsOf S key) off b := ⟨_, rfl⟩
  have hrm0 : 0 ≤ RM ∧ RM ≤ 1000000 := by rw [hRM]; unfold roomC; split <;> omega
  rw [← hRM] at hroom
  have HW1 : Hid (IntKind.i64.wrap (tot + RM) = tot + RM) := Lib.hid (IntWalk.i64_in _ (by omega))
  have HROOM : Hid (tot + RM ≤ my) := Lib.hid (by omega)
  have HRM := Lib.hid hRM
  have hT := Lib.hid hT0
  have HMS := Lib.hid hMS
  have HF := Lib.hid hf
  have HARG := Lib.hid hA'
  have HADD := Lib.hid hadd
  have HND := Lib.hid hnd
  have HBP := Lib.hid hbp
  have HL := Lib.hid hL
  have HZ := Lib.hid hZ
  clear hT0 hMS hf hA' hadd hnd hbp hL hroom hRM hZ
  unfold sq at *
  go_enter Try.func16, Try.ntmps16
  go_upto_region 7 with (first
    | (go_at_call 36; refine (jmade t bm _ k0).mono ?_; rintro e w1 ⟨rfl, rfl⟩)
    | (go_at_call 41; go_loud (refine (jroom s.h s.A s.c s.L off A' b c' _ (HT1.out.bx s (List.mem_cons_self ..)).hx ((HARG.out.below b1).more b1.size)).mono ?_; rintro e w2 ⟨rfl, b2⟩; rw [← HRV.out]))
    | (go_at_call 40; go_loud (refine (jfind_ok hT.out HMS.out key now hk HF.out).mono ?_; rintro e w1 ⟨s, R, rfl, hT1, hsk, b1, hcs⟩; have HT1 := Lib.hid hT1; have HSK := Lib.hid hsk; have HCS := Lib.hid hcs; have kg1 : w1.cell? ⟨s.g, 0, none⟩ = some (.pointer (some ⟨s.h, 0, none⟩)) := cells_at (i := 0) (HT1.out.bx s (List.mem_cons_self ..)).obj rfl; clear hT1 hsk hcs; have HPO := Lib.hid (partsOf_find HCS.out HSK.out HT1.out.nd); have HRV := Lib.hid (HRM.out.trans (congrArg (fun z => roomC z off b) HPO.out)))))
  have HT2 := Lib.hid (HT1.out.below b2)
  have ht := HT2.out.obj
  have htz := heap_lt ht
  refine wp_region_held_drew (S := fun w' => Below w2.heap.size w2 w') (by kernel_rfl) (Below.refl _ w2).drew (fun hS => ?_)
  refine held_pure (i := 0) (oi := ⟨some 44, _, _, _, _, _⟩) rfl (by kernel_rfl) (by kernel_rfl) (by kernel_rfl) (fun _ _ _ h => h) (by rfl) (v := ?_) (fun w hSw => ?_) hS (fun hS => ?_)
  rotate_left
  · go_simp; try with_reducible rfl
  try go_frame
  refine held_pure (i := 1) (oi := ⟨some 45, _, _, _, _, _⟩) rfl (by kernel_rfl) (by kernel_rfl) (by kernel_rfl) (fun _ _ _ h => h) (by rfl) (v := ?_) (fun w hSw => ?_) hS (fun hS => ?_)
  rotate_left
  · go_simp; try with_reducible rfl
  try go_frame
  refine held_pure (i := 2) (oi := ⟨some 46, _, _, _, _, _⟩) rfl (by kernel_rfl) (by kernel_rfl) (by kernel_rfl) (fun _ _ _ h => h) (by rfl) (v := ?_) (fun w hSw => ?_) hS (fun hS => ?_)
  rotate_left
  · go_simp; try with_reducible rfl
  try go_frame
  refine held_pure (i := 3) (oi := ⟨some 47, _, _, _, _, _⟩) rfl (by kernel_rfl) (by kernel_rfl) (by kernel_rfl) (fun _ _ _ h => h) (by rfl) (fun w hSw => run_load_int rfl rfl (cells_at (i := 1) ((hSw.block t htz).trans ht) rfl)) hS (fun hS => ?_)
  try go_frame
  refine held_pure (i := 4) (oi := ⟨some 48, _, _, _, _, _⟩) rfl (by kernel_rfl) (by kernel_rfl) (by kernel_rfl) (fun _ _ _ h => h) (by rfl) (v := ?_) (fun w hSw => ?_) hS (fun hS => ?_)
  rotate_left
  · go_simp; try with_reducible rfl
  try go_frame
  refine held_pure (i := 5) (oi := ⟨some 49, _, _, _, _, _⟩) rfl (by kernel_rfl) (by kernel_rfl) (by kernel_rfl) (fun _ _ _ h => h) (by rfl) (v := .int .i64 (tot + RM)) (fun w hSw => by go_simp; try exact HW1.out) hS (fun hS => ?_)
  try go_frame
  refine held_pure (i := 6) (oi := ⟨some 50, _, _, _, _, _⟩) rfl (by kernel_rfl) (by kernel_rfl) (by kernel_rfl) (fun _ _ _ h => h) (by rfl) (v := ?_) (fun w hSw => ?_) hS (fun hS => ?_)
  rotate_left
  · go_simp; try with_reducible rfl
  try go_frame
  refine held_pure (i := 7) (oi := ⟨some 51, _, _, _, _, _⟩) rfl (by kernel_rfl) (by kernel_rfl) (by kernel_rfl) (fun _ _ _ h => h) (by rfl) (v := ?_) (fun w hSw => ?_) hS (fun hS => ?_)
  rotate_left
  · go_simp; try with_reducible rfl
  try go_frame
  refine held_pure (i := 8) (oi := ⟨some 52, _, _, _, _, _⟩) rfl (by kernel_rfl) (by kernel_rfl) (by kernel_rfl) (fun _ _ _ h => h) (by rfl) (v := ?_) (fun w hSw => ?_) hS (fun hS => ?_)
  rotate_left
  · go_simp; try with_reducible rfl
  try go_frame
  refine held_pure (i := 9) (oi := ⟨some 53, _, _, _, _, _⟩) rfl (by kernel_rfl) (by kernel_rfl) (by kernel_rfl) (fun _ _ _ h => h) (by rfl) (fun w hSw => run_load_int rfl rfl (cells_at (i := 3) ((hSw.block t htz).trans ht) rfl)) hS (fun hS => ?_)
  try go_frame
  refine held_pure (i := 10) (oi := ⟨some 54, _, _, _, _, _⟩) rfl (by kernel_rfl) (by kernel_rfl) (by kernel_rfl) (fun _ _ _ h => h) (by rfl) (v := .bool false) (fun w hSw => by go_simp; try (exact HROOM.out)) hS (fun hS => ?_)
  try go_frame
  refine wpAnyH_done (by kernel_rfl) ?_ _
  have b3 := hS
  generalize w2.drew = w3 at *
  have HT3 := Lib.hid (HT2.out.below b3)
  have hb3 := HT3.out.bx s (List.mem_cons_self ..)
  have kg3 : w3.cell? ⟨s.g, 0, none⟩ = some (.pointer (some ⟨s.h, 0, none⟩)) := cells_at (i := 0) hb3.obj rfl
  have HX3 := Lib.hid hb3.hx
  have b13 : Below w.heap.size w w3 := (b1.trans (b2.mono b1.size)).trans (b3.mono (Nat.le_trans b1.size b2.size))
  have HAR3 := Lib.hid ((HARG.out.below b13).more b13.size)
  have HE3 : Hid (addC (piE s.L) ⟨off, more, b⟩ = 0) := Lib.hid (by rw [← HPO.out]; exact HADD.out)
  have hsl : s.L.length + 1 ≤ 100000 := by
    rcases HCS.out with ⟨hp, _⟩ | ⟨_, hfr, _⟩
    · exact HL.out s (hp.mem_iff.2 (List.mem_cons_self ..))
    · rw [hfr.2.2.2.1]; decide
  clear hS hb3 kg1 ht htz
  have HZ3 := Lib.hid (find_z HCS.out hB0 HZ.out)
  have HS3 : Hid (∀ i, (i = s.h ∨ s.v.ownBlock = some i) → B0 ≤ i) := Lib.hid (fun i hi => by
    obtain ⟨_, h2, h3⟩ := HZ3.out.2.2 s (List.mem_cons_self ..)
    rcases hi with rfl | hi
    · exact h2
    · exact h3 i hi)
  have hw1 := HW1.out
  go_wp2_with (first
    | (go_at_call 42; go_loud (refine (hcadd s.h s.A s.c s.L off more A' b c' _ HX3.out HAR3.out hbl hoff hsl).mono ?_; rintro e w4 ⟨rfl, A2, c2, L2, hx4, hp4, k4, ob4, ln4⟩; rw [HE3.out]; have HT4 := Lib.hid (HT3.out.add hx4 k4 ob4); have HZ4 := Lib.hid (HZ3.out.with_ (Nat.le_trans hB0 b13.size) ob4); have HB4 := Lib.hid (k4.below (Nat.le_trans hB0 b13.size) HS3.out); have kt4 := HT4.out.c0; have HP4 := Lib.hid hp4; obtain ⟨es4, hown4, hpe4⟩ := HT4.out.map; obtain ⟨es5, hput5, hpe5⟩ := en_putW hpe4 (key, s.g); have HPUT := Lib.hid hput5; have HPE := Lib.hid hpe5; clear hx4 hp4 k4 ob4 hpe4 hput5 hpe5))
    | (at_mapUpdate; go_loud (refine wpList_mapUpdate_in _ rfl _ _ _ 69 rfl 9 72 klaw Try.underlying69 ptrElem bm M.length _ rfl hown4 (by unfold maxLen; omega) _ _ _ rfl rfl (kkey key hk) (.lit (.int .i64 (s.g : Int))) [] rfl ?_; intro w5 hown5 hturn5; rw [HPUT.out] at hown5; have HT5 := Lib.hid (HT4.out.put HPE.out hown5 hturn5); have kt5 := HT5.out.c1; have ft5 := heap_frozen HT5.out.obj 1; have HT6 := Lib.hid (HT5.out.setTot (tot + RM)); have HB5 := Lib.hid ((Kept.of_turned hturn5).below (B := B0) (Nat.le_trans hB0 (Nat.le_trans b13.size HB4.out.size)) (fun k hk => by rw [hk]; exact HZ.out.2.1)); have HK6 := Lib.hid (Kept.setCell w5 t 1 (.int .i64 (tot + RM))); clear hown4 hown5 hturn5))
    | (go_at_call 43; go_loud (refine (jtell (s.with_ A2 c2 L2) (HT6.out.bx _ (List.mem_cons_self ..)) off head).mono ?_; rintro e w7 ⟨rfl, hb7, k7⟩; have HT7 := Lib.hid (HT6.out.tell hb7 k7); have HX7 : Hid (Hx w7 s.h A2 c2 L2) := Lib.hid (tellB_hx (s := s.with_ A2 c2 L2) hb7); have kg7 : w7.cell? ⟨s.g, 0, none⟩ = some (.pointer (some ⟨s.h, 0, none⟩)) := tellB_c0 (s := s.with_ A2 c2 L2) hb7; have HK7 := Lib.hid k7; clear hb7 k7))
    | (go_at_call 44; go_loud (refine (hcdone s.h A2 c2 L2 _ HX7.out).mono ?_; rintro e w8 ⟨v8, rfl, m8⟩; have HND8 : Hid ((endedP (piE L2) && decide (gapsS 0 (piE L2) = [])) = true) := Lib.hid (by rw [HP4.out, ← HPO.out]; exact HND.out); rw [HND8.out]; rw [HND8.out, if_pos rfl] at m8; obtain ⟨P8, p8, rfl, a8, o8, y8⟩ := made_shape m8; have HT8 := Lib.hid (HT7.out.below y8); clear m8 a8))
    | (go_at_call 37; go_loud (refine (jdropK HT8.out (tellB (s.with_ A2 c2 L2) off head) (HT8.out.bx _ (List.mem_cons_self ..)) key s.g ((tellB_key _ _ _).trans HSK.out) (tellB_g _ _ _) (bytesP (piE L2)) (by unfold Bu.by; rw [tellB_L]; rfl) hk (by omega) (by rw [HP4.out, ← HPO.out]; exact HBP.out)).mono ?_; rintro e w9 ⟨rfl, hT9, hK9⟩; have HT9 := Lib.hid hT9; have HK9 := Lib.hid hK9; have kh9 : w9.cell? ⟨s.g, 2, none⟩ = some (.string (strB (tellB (s.with_ A2 c2 L2) off head).head)) := (HT9.out.bx _ (List.mem_cons_self ..)).c2 (tellB_g _ _ _); clear hT9 hK9)))
  have z3 := Nat.le_trans hB0 b13.size
  have z4 := Nat.le_trans z3 HB4.out.size
  have z5 := Nat.le_trans z4 HB5.out.size
  have B6 := HK6.out.below (B := B0) z5 (fun k hk => by rw [hk]; exact HZ.out.1)
  have z6 := Nat.le_trans z5 B6.size
  have B7 := HK7.out.below (B := B0) z6 (fun k hk => by rw [hk]; exact (HZ3.out.2.2 s (List.mem_cons_self ..)).1)
  have z7 := Nat.le_trans z6 B7.size
  have z8 := Nat.le_trans z7 y8.size
  have B9 := HK9.out.below (B := B0) z8 (fun k hk => by rcases hk with rfl | rfl; exact HZ.out.1; exact HZ.out.2.1)
  have hhd : (tellB (s.with_ A2 c2 L2) off head).head = headOf S key off head := headOf_eq HCS.out HSK.out HT1.out.nd
  refine bodyPost_ret (results_tmp4 rfl _ _ _) rfl ⟨_, by rw [← hhd]; rfl, s, R, ?_, HSK.out, ?_, ⟨HZ.out.1, HZ.out.2.1, fun x hx => HZ3.out.2.2 x (List.mem_cons_of_mem _ hx)⟩, ?_, ?_⟩
  · have h9 := HT9.out.sub (List.sublist_cons_self _ _)
    rw [← HRM.out]
    have e1 : withoutM key ((key, s.g) :: withoutM key M) = withoutM key M := by
      unfold withoutM
      rw [List.filter_cons_of_neg (by simp), List.filter_filter]
      simp
    rw [e1] at h9
    rw [HPO.out, ← HP4.out]
    exact h9
  · rcases HCS.out with ⟨h, _⟩ | ⟨h1, h2, _, _, h5⟩
    · exact .inl h
    · exact .inr ⟨h1, h2, h5⟩
  · exact ((((((b13.mono hB0).trans HB4.out).trans HB5.out).trans B6).trans B7).trans (y8.mono z7)).trans B9
  · rw [HPO.out, ← HP4.out]
    exact ⟨_, _, rfl, arg_own (own_keptA o8 HK9.out (HT8.out.away) tt_no.2.2.1)⟩
end
end Go.Proofs.Ytghbliabmecbcaa

/-
  Add of layer 16's code, where the part is refused. Conditions are each theorem's own.
-/
namespace Go.Proofs.Ytghbliabmecbcaa
open Go.RowKit Go.Shelf Go.Maps
/-- What Add leaves where the part was refused for what it is: the key's buffer is gone. -/
def ErrLeaves (w w' : World) (t bm : Nat) (tot mb my wt : Int) (M : List (List UInt8 × Nat)) (S : List Bu) (key : List UInt8) (now : Int) (B0 : Nat) : Prop :=
  ∃ (s : Bu) (R : List Bu), Tx w' t bm (tot - bytesP (partsOf S key)) mb my wt (withoutM key M) R ∧ s.key = key ∧ (S.Perm (s :: R) ∨ (S = R ∧ Fresh s key now ∧ ∀ x ∈ S, x.key ≠ key)) ∧ Tz B0 t bm R ∧ Below B0 w w'
def fail16 (n : Int) : Ending := .returned (.tuple #[.string ByteArray.empty, .slice none 0 0, .bool false, .int .i64 n])
section
variable {w : World} {t bm : Nat} {tot mb my wt : Int} {M : List (List UInt8 × Nat)} {S : List Bu}
set_option maxRecDepth 100000 in
theorem jadd_full (hT : Tx w t bm tot mb my wt M S) (key head : List UInt8) (off now : Int) (more : Bool) (v : Value) (hk : key.length ≤ maxLen) (hm : ∀ p ∈ M, p.1 ≠ key) (hge : (M.length : Int) ≥ mb) :
    Calls Try.prog 16 #[.pointer (some ⟨t, 0, none⟩), sq key, .int .i64 off, .bool more, v, sq head, .int .i64 now] w fun e w' => e = fail16 7 ∧ Tx w' t bm tot mb my wt M S ∧ Below w.heap.size w w' := by
  have k0 := hT.c0
  have HT := Lib.hid hT
  have HM := Lib.hid hm
  have HG := Lib.hid hge
  clear hT hm hge
  unfold sq
  go_enter Try.func16, Try.ntmps16
  go_wp2_with (first
    | (go_at_call 36; refine (jmade t bm _ k0).mono ?_; rintro e w1 ⟨rfl, rfl⟩)
    | (go_at_call 40; go_loud (refine (jfind_full HT.out key now hk HM.out HG.out).mono ?_; rintro e w1 ⟨rfl, b1⟩)))
  exact bodyPost_ret (results_tmp4 rfl _ _ _) rfl ⟨rfl, HT.out.below b1, b1⟩
set_option maxRecDepth 100000 in
set_option maxHeartbeats 2000000 in
theorem jadd_room (hT0 : Tx w t bm tot mb my wt M S) (hMS : M.Perm (S.map Bu.kg)) (key head : List UInt8) (off now : Int) (more : Bool) (A' : Option Addr) (c' : Nat) (b : List UInt8) (hA' : Arg w w.heap.size A' c' b) (hk : key.length ≤ maxLen) (hbl : b.length ≤ 1000000)
    (htot : 0 ≤ tot ∧ tot ≤ 100000000000) (hf : Takes M S mb key)
    (hroom : tot + roomC (partsOf S key) off b > my) :
    Calls Try.prog 16 #[.pointer (some ⟨t, 0, none⟩), sq key, .int .i64 off, .bool more, .slice A' b.length c', sq head, .int .i64 now] w fun e w' => e = fail16 7 ∧ Tx w' t bm tot mb my wt M S ∧ Below w.heap.size w w' := by
  have k0 := hT0.c0
  obtain ⟨RM, hRM⟩ : ∃ RM, RM = roomC (partsOf S key) off b := ⟨_, rfl⟩
  have hrm0 : 0 ≤ RM ∧ RM ≤ 1000000 := by rw [hRM]; unfold roomC; split <;> omega
  rw [← hRM] at hroom
  have HW1 : Hid (IntKind.i64.wrap (tot + RM) = tot + RM) := Lib.hid (IntWalk.i64_in _ (by omega))
  have HROOM : Hid (¬ tot + RM ≤ my) := Lib.hid (by omega)
  have HRM := Lib.hid hRM
  have hT := Lib.hid hT0
  have HMS := Lib.hid hMS
  have HF := Lib.hid hf
  have HARG := Lib.hid hA'
  clear hT0 hMS hf hA' hroom hRM
  unfold sq at *
  go_enter Try.func16, Try.ntmps16
  go_upto_region 7 with (first
    | (go_at_call 36; refine (jmade t bm _ k0).mono ?_; rintro e w1 ⟨rfl, rfl⟩)
    | (go_at_call 41; go_loud (refine (jroom s.h s.A s.c s.L off A' b c' _ (HT1.out.bx s (List.mem_cons_self ..)).hx ((HARG.out.below b1).more b1.size)).mono ?_; rintro e w2 ⟨rfl, b2⟩; rw [← HRV.out]))
    | (go_at_call 40; go_loud (refine (jfind_ok hT.out HMS.out key now hk HF.out).mono ?_; rintro e w1 ⟨s, R, rfl, hT1, hsk, b1, hcs⟩; have HT1 := Lib.hid hT1; have HSK := Lib.hid hsk; have HCS := Lib.hid hcs; have kg1 : w1.cell? ⟨s.g, 0, none⟩ = some (.pointer (some ⟨s.h, 0, none⟩)) := cells_at (i := 0) (HT1.out.bx s (List.mem_cons_self ..)).obj rfl; clear hT1 hsk hcs; have HPO := Lib.hid (partsOf_find HCS.out HSK.out HT1.out.nd); have HRV := Lib.hid (HRM.out.trans (congrArg (fun z => roomC z off b) HPO.out)))))
  have HT2 := Lib.hid (HT1.out.below b2)
  have ht := HT2.out.obj
  have htz := heap_lt ht
  refine wp_region_held_drew (S := fun w' => Below w2.heap.size w2 w') (by kernel_rfl) (Below.refl _ w2).drew (fun hS => ?_)
  refine held_pure (i := 0) (oi := ⟨some 44, _, _, _, _, _⟩) rfl (by kernel_rfl) (by kernel_rfl) (by kernel_rfl) (fun _ _ _ h => h) (by rfl) (v := ?_) (fun w hSw => ?_) hS (fun hS => ?_)
  rotate_left
  · go_simp; try with_reducible rfl
  try go_frame
  refine held_pure (i := 1) (oi := ⟨some 45, _, _, _, _, _⟩) rfl (by kernel_rfl) (by kernel_rfl) (by kernel_rfl) (fun _ _ _ h => h) (by rfl) (v := ?_) (fun w hSw => ?_) hS (fun hS => ?_)
  rotate_left
  · go_simp; try with_reducible rfl
  try go_frame
  refine held_pure (i := 2) (oi := ⟨some 46, _, _, _, _, _⟩) rfl (by kernel_rfl) (by kernel_rfl) (by kernel_rfl) (fun _ _ _ h => h) (by rfl) (v := ?_) (fun w hSw => ?_) hS (fun hS => ?_)
  rotate_left
  · go_simp; try with_reducible rfl
  try go_frame
  refine held_pure (i := 3) (oi := ⟨some 47, _, _, _, _, _⟩) rfl (by kernel_rfl) (by kernel_rfl) (by kernel_rfl) (fun _ _ _ h => h) (by rfl) (fun w hSw => run_load_int rfl rfl (cells_at (i := 1) ((hSw.block t htz).trans ht) rfl)) hS (fun hS => ?_)
  try go_frame
  refine held_pure (i := 4) (oi := ⟨some 48, _, _, _, _, _⟩) rfl (by kernel_rfl) (by kernel_rfl) (by kernel_rfl) (fun _ _ _ h => h) (by rfl) (v := ?_) (fun w hSw => ?_) hS (fun hS => ?_)
  rotate_left
  · go_simp; try with_reducible rfl
  try go_frame
  refine held_pure (i := 5) (oi := ⟨some 49, _, _, _, _, _⟩) rfl (by kernel_rfl) (by kernel_rfl) (by kernel_rfl) (fun _ _ _ h => h) (by rfl) (v := .int .i64 (tot + RM)) (fun w hSw => by go_simp; try exact HW1.out) hS (fun hS => ?_)
  try go_frame
  refine held_pure (i := 6) (oi := ⟨some 50, _, _, _, _, _⟩) rfl (by kernel_rfl) (by kernel_rfl) (by kernel_rfl) (fun _ _ _ h => h) (by rfl) (v := ?_) (fun w hSw => ?_) hS (fun hS => ?_)
  rotate_left
  · go_simp; try with_reducible rfl
  try go_frame
  refine held_pure (i := 7) (oi := ⟨some 51, _, _, _, _, _⟩) rfl (by kernel_rfl) (by kernel_rfl) (by kernel_rfl) (fun _ _ _ h => h) (by rfl) (v := ?_) (fun w hSw => ?_) hS (fun hS => ?_)
  rotate_left
  · go_simp; try with_reducible rfl
  try go_frame
  refine held_pure (i := 8) (oi := ⟨some 52, _, _, _, _, _⟩) rfl (by kernel_rfl) (by kernel_rfl) (by kernel_rfl) (fun _ _ _ h => h) (by rfl) (v := ?_) (fun w hSw => ?_) hS (fun hS => ?_)
  rotate_left
  · go_simp; try with_reducible rfl
  try go_frame
  refine held_pure (i := 9) (oi := ⟨some 53, _, _, _, _, _⟩) rfl (by kernel_rfl) (by kernel_rfl) (by kernel_rfl) (fun _ _ _ h => h) (by rfl) (fun w hSw => run_load_int rfl rfl (cells_at (i := 3) ((hSw.block t htz).trans ht) rfl)) hS (fun hS => ?_)
  try go_frame
  refine held_pure (i := 10) (oi := ⟨some 54, _, _, _, _, _⟩) rfl (by kernel_rfl) (by kernel_rfl) (by kernel_rfl) (fun _ _ _ h => h) (by rfl) (v := .bool true) (fun w hSw => by go_simp; try (exact HROOM.out)) hS (fun hS => ?_)
  try go_frame
  refine wpAnyH_done (by kernel_rfl) ?_ _
  have b3 := hS
  generalize w2.drew = w3 at *
  have HT3 := Lib.hid (HT2.out.below b3)
  have b13 : Below w.heap.size w w3 := (b1.trans (b2.mono b1.size)).trans (b3.mono (Nat.le_trans b1.size b2.size))
  go_wp2_with fail
  refine bodyPost_ret (results_tmp4 rfl _ _ _) rfl ⟨rfl, ?_, b13⟩
  rcases HCS.out with ⟨h, _⟩ | ⟨h1, _⟩
  · exact HT3.out.perm (List.Perm.refl _) h.symm
  · rw [h1]; exact HT3.out.sub (List.sublist_cons_self _ _)
set_option maxRecDepth 100000 in
set_option maxHeartbeats 2000000 in
theorem jadd_err (hT0 : Tx w t bm tot mb my wt M S) (hMS : M.Perm (S.map Bu.kg)) (key head : List UInt8) (off now : Int) (more : Bool) (A' : Option Addr) (c' : Nat) (b : List UInt8) (hA' : Arg w w.heap.size A' c' b) (hk : key.length ≤ maxLen) (hbl : b.length ≤ 1000000)
    (hoff : -9223372036854775808 ≤ off ∧ off ≤ 9223372036854775807) (hL : ∀ s ∈ S, s.L.length + 1 ≤ 100000) (htot : 0 ≤ tot ∧ tot ≤ 100000000000) (hf : Takes M S mb key) (B0 : Nat) (hB0 : B0 ≤ w.heap.size) (hZ : Tz B0 t bm S)
    (hroom : ¬ tot + roomC (partsOf S key) off b > my) (E : Int) (hadd : E = addC (partsOf S key) ⟨off, more, b⟩) (hE : E ≠ 0) (hbp : 0 ≤ bytesP (partsOf S key) ∧ bytesP (partsOf S key) ≤ 1000000000000) :
    Calls Try.prog 16 #[.pointer (some ⟨t, 0, none⟩), sq key, .int .i64 off, .bool more, .slice A' b.length c', sq head, .int .i64 now] w fun e w' => e = fail16 E ∧ ErrLeaves w w' t bm tot mb my wt M S key now B0 := by
  have HADD := Lib.hid hadd
  have HBP := Lib.hid hbp
  have HZ := Lib.hid hZ
  clear hadd hbp hZ
  have k0 := hT0.c0
  obtain ⟨RM, hRM⟩ : ∃ RM, RM = roomC (partsOf S key) off b := ⟨_, rfl⟩
  have hrm0 : 0 ≤ RM ∧ RM ≤ 1000000 := by rw [hRM]; unfold roomC; split <;> omega
  rw [← hRM] at hroom
  have HW1 : Hid (IntKind.i64.wrap (tot + RM) = tot + RM) := Lib.hid (IntWalk.i64_in _ (by omega))
  have HROOM : Hid (tot + RM ≤ my) := Lib.hid (by omega)
  have HRM := Lib.hid hRM
  have hT := Lib.hid hT0
  have HMS := Lib.hid hMS
  have HF := Lib.hid hf
  have HARG := Lib.hid hA'
  have HL := Lib.hid hL
  clear hT0 hMS hf hA' hL hroom hRM
  unfold sq at *
  go_enter Try.func16, Try.ntmps16
  go_upto_region 7 with (first
    | (go_at_call 36; refine (jmade t bm _ k0).mono ?_; rintro e w1 ⟨rfl, rfl⟩)
    | (go_at_call 41; go_loud (refine (jroom s.h s.A s.c s.L off A' b c' _ (HT1.out.bx s (List.mem_cons_self ..)).hx ((HARG.out.below b1).more b1.size)).mono ?_; rintro e w2 ⟨rfl, b2⟩; rw [← HRV.out]))
    | (go_at_call 40; go_loud (refine (jfind_ok hT.out HMS.out key now hk HF.out).mono ?_; rintro e w1 ⟨s, R, rfl, hT1, hsk, b1, hcs⟩; have HT1 := Lib.hid hT1; have HSK := Lib.hid hsk; have HCS := Lib.hid hcs; have kg1 : w1.cell? ⟨s.g, 0, none⟩ = some (.pointer (some ⟨s.h, 0, none⟩)) := cells_at (i := 0) (HT1.out.bx s (List.mem_cons_self ..)).obj rfl; clear hT1 hsk hcs; have HPO := Lib.hid (partsOf_find HCS.out HSK.out HT1.out.nd); have HRV := Lib.hid (HRM.out.trans (congrArg (fun z => roomC z off b) HPO.out)))))
  have HT2 := Lib.hid (HT1.out.below b2)
  have ht := HT2.out.obj
  have htz := heap_lt ht
  refine wp_region_held_drew (S := fun w' => Below w2.heap.size w2 w') (by kernel_rfl) (Below.refl _ w2).drew (fun hS => ?_)
  refine held_pure (i := 0) (oi := ⟨some 44, _, _, _, _, _⟩) rfl (by kernel_rfl) (by kernel_rfl) (by kernel_rfl) (fun _ _ _ h => h) (by rfl) (v := ?_) (fun w hSw => ?_) hS (fun hS => ?_)
  rotate_left
  · go_simp; try with_reducible rfl
  try go_frame
  refine held_pure (i := 1) (oi := ⟨some 45, _, _, _, _, _⟩) rfl (by kernel_rfl) (by kernel_rfl) (by kernel_rfl) (fun _ _ _ h => h) (by rfl) (v := ?_) (fun w hSw => ?_) hS (fun hS => ?_)
  rotate_left
  · go_simp; try with_reducible rfl
  try go_frame
  refine held_pure (i := 2) (oi := ⟨some 46, _, _, _, _, _⟩) rfl (by kernel_rfl) (by kernel_rfl) (by kernel_rfl) (fun _ _ _ h => h) (by rfl) (v := ?_) (fun w hSw => ?_) hS (fun hS => ?_)
  rotate_left
  · go_simp; try with_reducible rfl
  try go_frame
  refine held_pure (i := 3) (oi := ⟨some 47, _, _, _, _, _⟩) rfl (by kernel_rfl) (by kernel_rfl) (by kernel_rfl) (fun _ _ _ h => h) (by rfl) (fun w hSw => run_load_int rfl rfl (cells_at (i := 1) ((hSw.block t htz).trans ht) rfl)) hS (fun hS => ?_)
  try go_frame
  refine held_pure (i := 4) (oi := ⟨some 48, _, _, _, _, _⟩) rfl (by kernel_rfl) (by kernel_rfl) (by kernel_rfl) (fun _ _ _ h => h) (by rfl) (v := ?_) (fun w hSw => ?_) hS (fun hS => ?_)
  rotate_left
  · go_simp; try with_reducible rfl
  try go_frame
  refine held_pure (i := 5) (oi := ⟨some 49, _, _, _, _, _⟩) rfl (by kernel_rfl) (by kernel_rfl) (by kernel_rfl) (fun _ _ _ h => h) (by rfl) (v := .int .i64 (tot + RM)) (fun w hSw => by go_simp; try exact HW1.out) hS (fun hS => ?_)
  try go_frame
  refine held_pure (i := 6) (oi := ⟨some 50, _, _, _, _, _⟩) rfl (by kernel_rfl) (by kernel_rfl) (by kernel_rfl) (fun _ _ _ h => h) (by rfl) (v := ?_) (fun w hSw => ?_) hS (fun hS => ?_)
  rotate_left
  · go_simp; try with_reducible rfl
  try go_frame
  refine held_pure (i := 7) (oi := ⟨some 51, _, _, _, _, _⟩) rfl (by kernel_rfl) (by kernel_rfl) (by kernel_rfl) (fun _ _ _ h => h) (by rfl) (v := ?_) (fun w hSw => ?_) hS (fun hS => ?_)
  rotate_left
  · go_simp; try with_reducible rfl
  try go_frame
  refine held_pure (i := 8) (oi := ⟨some 52, _, _, _, _, _⟩) rfl (by kernel_rfl) (by kernel_rfl) (by kernel_rfl) (fun _ _ _ h => h) (by rfl) (v := ?_) (fun w hSw => ?_) hS (fun hS => ?_)
  rotate_left
  · go_simp; try with_reducible rfl
  try go_frame
  refine held_pure (i := 9) (oi := ⟨some 53, _, _, _, _, _⟩) rfl (by kernel_rfl) (by kernel_rfl) (by kernel_rfl) (fun _ _ _ h => h) (by rfl) (fun w hSw => run_load_int rfl rfl (cells_at (i := 3) ((hSw.block t htz).trans ht) rfl)) hS (fun hS => ?_)
  try go_frame
  refine held_pure (i := 10) (oi := ⟨some 54, _, _, _, _, _⟩) rfl (by kernel_rfl) (by kernel_rfl) (by kernel_rfl) (fun _ _ _ h => h) (by rfl) (v := .bool false) (fun w hSw => by go_simp; try (exact HROOM.out)) hS (fun hS => ?_)
  try go_frame
  refine wpAnyH_done (by kernel_rfl) ?_ _
  have b3 := hS
  generalize w2.drew = w3 at *
  have HT3 := Lib.hid (HT2.out.below b3)
  have hb3 := HT3.out.bx s (List.mem_cons_self ..)
  have kg3 : w3.cell? ⟨s.g, 0, none⟩ = some (.pointer (some ⟨s.h, 0, none⟩)) := cells_at (i := 0) hb3.obj rfl
  have HX3 := Lib.hid hb3.hx
  have b13 : Below w.heap.size w w3 := (b1.trans (b2.mono b1.size)).trans (b3.mono (Nat.le_trans b1.size b2.size))
  have HAR3 := Lib.hid ((HARG.out.below b13).more b13.size)
  have HE3 : Hid (E = addC (piE s.L) ⟨off, more, b⟩) := Lib.hid (by rw [← HPO.out]; exact HADD.out)
  have HLE : Hid (addCL (piE s.L) ⟨off, more, b⟩ = piE s.L) := Lib.hid (by unfold addCL; rw [if_neg (by rw [← HE3.out]; exact hE)])
  have hsl : s.L.length + 1 ≤ 100000 := by
    rcases HCS.out with ⟨hp, _⟩ | ⟨_, hfr, _⟩
    · exact HL.out s (hp.mem_iff.2 (List.mem_cons_self ..))
    · rw [hfr.2.2.2.1]; decide
  clear hS hb3 kg1 ht htz
  have HZ3 := Lib.hid (find_z HCS.out hB0 HZ.out)
  have HS3 : Hid (∀ i, (i = s.h ∨ s.v.ownBlock = some i) → B0 ≤ i) := Lib.hid (fun i hi => by
    obtain ⟨_, h2, h3⟩ := HZ3.out.2.2 s (List.mem_cons_self ..)
    rcases hi with rfl | hi
    · exact h2
    · exact h3 i hi)
  have dE : decide (E = 0) = false := decide_eq_false hE
  go_wp2_with (first
    | (go_at_call 42; go_loud (refine (hcadd s.h s.A s.c s.L off more A' b c' _ HX3.out HAR3.out hbl hoff hsl).mono ?_; rintro e w4 ⟨rfl, A2, c2, L2, hx4, hp4, k4, ob4, ln4⟩; rw [← HE3.out]; have HT4 := Lib.hid (HT3.out.add hx4 k4 ob4); have HB4 := Lib.hid (k4.below (Nat.le_trans hB0 b13.size) HS3.out); have HP4 := Lib.hid (hp4.trans HLE.out); clear hx4 hp4 k4 ob4))
    | (go_at_call 37; go_loud (refine (jdropK HT4.out (s.with_ A2 c2 L2) (HT4.out.bx _ (List.mem_cons_self ..)) key s.g HSK.out rfl (bytesP (piE L2)) rfl hk (by omega) (by rw [HP4.out, ← HPO.out]; exact HBP.out)).mono ?_; rintro e w9 ⟨rfl, hT9, hK9⟩; have HT9 := Lib.hid hT9; have HK9 := Lib.hid hK9; clear hT9 hK9)))
  have z3 := Nat.le_trans hB0 b13.size
  have z4 := Nat.le_trans z3 HB4.out.size
  have B9 := HK9.out.below (B := B0) z4 (fun k hk => by rcases hk with rfl | rfl; exact HZ.out.1; exact HZ.out.2.1)
  refine bodyPost_ret (results_tmp4 rfl _ _ _) rfl ⟨rfl, s, R, ?_, HSK.out, ?_, ⟨HZ.out.1, HZ.out.2.1, fun x hx => HZ3.out.2.2 x (List.mem_cons_of_mem _ hx)⟩, ((b13.mono hB0).trans HB4.out).trans B9⟩
  · have h9 := HT9.out.sub (List.sublist_cons_self _ _)
    rw [HPO.out, ← HP4.out]
    exact h9
  · rcases HCS.out with ⟨h, _⟩ | ⟨h1, h2, _, _, h5⟩
    · exact .inl h
    · exact .inr ⟨h1, h2, h5⟩
end
end Go.Proofs.Ytghbliabmecbcaa

/-
  A slice of calls of a table that came in, opened. Conditions are each theorem's own.
-/
namespace Go.Proofs.Ytghbliabmecbcaa
open Go.RowKit Go.ChangeShapes Go.WideShapes
/-- A call of a table, and where its bytes lie. -/
structure Dx where
  gone : Bool
  key : List UInt8
  off : Int
  more : Bool
  A : Option Addr
  c : Nat
  b : List UInt8
  head : List UInt8
  now : Int
def clD (y : Dx) : List Value := [.bool y.gone, sq y.key, .int .i64 y.off, .bool y.more, .slice y.A y.b.length y.c, sq y.head, .int .i64 y.now]
section
variable {H : Type} {enc : TypeId × Value → H} {w : World} {base : Nat} {v : Value} {d : DataW H} {p : List MemPlace}
theorem cell_strv {P : Program} {t : TypeId} {x : DataW H × List MemPlace} {n : Nat} {l : List Value} (ht : P.underlying t = some .string) (h : DataW.trod enc P w 0 (fun _ => true) true n t l = some x) : ∃ s : List UInt8, l = [sq s] ∧ s.length ≤ maxLen := by
  obtain ⟨s, hs, _, hw⟩ := DataW.trod_string ht h
  refine ⟨s.data.toList, ?_, by rw [Array.length_toList]; exact hw⟩
  rw [hs]
  rfl
set_option maxRecDepth 100000 in
theorem cell_do {x : DataW H × List MemPlace} {fuel : Nat} {l : List Value} (hf : DataW.trod enc Try.prog w 0 (fun _ => true) true fuel 34 l = some x) :
    ∃ y : Dx, l = clD y ∧ Arg w w.heap.size y.A y.c y.b ∧ y.c ≤ maxLen ∧ (Lit.int .i64 y.off).wf = true ∧ (Lit.int .i64 y.now).wf = true ∧ y.key.length ≤ maxLen ∧ y.head.length ≤ maxLen := by
  obtain ⟨xs, n, _, _, hl, hxs, hall⟩ := DataW.trod_struct Try.underlying34 hf
  have hci : Try.prog.cellsOf 3 = 1 := by kernel_rfl
  have hcb : Try.prog.cellsOf 4 = 1 := by kernel_rfl
  have hcy : Try.prog.cellsOf 32 = 1 := by kernel_rfl
  have hcu : Try.prog.cellsOf 5 = 1 := by kernel_rfl
  have hcs : Try.prog.cellsOf 9 = 1 := by kernel_rfl
  have hcn : Try.prog.cellsOf 34 = 7 := by kernel_rfl
  have hl' : l.length = 7 := by rw [← hcn]; exact hl
  have hall' : ∀ (i : Nat) (f : Field), _ → DataW.trod enc Try.prog w 0 (fun _ => true) true n f.type ((l.drop f.offset).take (Try.prog.cellsOf f.type)) = xs[i]? := hall
  match xs, hxs with
  | [y0, y1, y2, y3, y4, y5, y6], _ =>
    have h0 : DataW.trod enc Try.prog w 0 (fun _ => true) true n 4 ((l.drop 0).take (Try.prog.cellsOf 4)) = some y0 := hall' 0 _ rfl
    rw [hcb] at h0
    obtain ⟨a0, e0⟩ := cell_bool Try.underlying4 h0
    have h1 : DataW.trod enc Try.prog w 0 (fun _ => true) true n 9 ((l.drop 1).take (Try.prog.cellsOf 9)) = some y1 := hall' 1 _ rfl
    rw [hcs] at h1
    obtain ⟨a1, e1, f1⟩ := cell_strv Try.underlying9 h1
    have h2 : DataW.trod enc Try.prog w 0 (fun _ => true) true n 3 ((l.drop 2).take (Try.prog.cellsOf 3)) = some y2 := hall' 2 _ rfl
    rw [hci] at h2
    obtain ⟨a2, e2, f2⟩ := cell_int Try.underlying3 h2
    have h3 : DataW.trod enc Try.prog w 0 (fun _ => true) true n 4 ((l.drop 3).take (Try.prog.cellsOf 4)) = some y3 := hall' 3 _ rfl
    rw [hcb] at h3
    obtain ⟨a3, e3⟩ := cell_bool Try.underlying4 h3
    have h4 : DataW.trod enc Try.prog w 0 (fun _ => true) true n 32 ((l.drop 4).take (Try.prog.cellsOf 32)) = some y4 := hall' 4 _ rfl
    rw [hcy] at h4
    obtain ⟨A4, c4, a4, e4, f4, g4⟩ := cell_bytes Try.underlying32 Try.underlying5 hcu h4
    have h5 : DataW.trod enc Try.prog w 0 (fun _ => true) true n 9 ((l.drop 5).take (Try.prog.cellsOf 9)) = some y5 := hall' 5 _ rfl
    rw [hcs] at h5
    obtain ⟨a5, e5, f5⟩ := cell_strv Try.underlying9 h5
    have h6 : DataW.trod enc Try.prog w 0 (fun _ => true) true n 3 ((l.drop 6).take (Try.prog.cellsOf 3)) = some y6 := hall' 6 _ rfl
    rw [hci] at h6
    obtain ⟨a6, e6, f6⟩ := cell_int Try.underlying3 h6
    have k0 := piece_get e0
    have k1 := piece_get e1
    have k2 := piece_get e2
    have k3 := piece_get e3
    have k4 := piece_get e4
    have k5 := piece_get e5
    have k6 := piece_get e6
    have el : l = [.bool a0, sq a1, .int .i64 a2, .bool a3, .slice A4 a4.length c4, sq a5, .int .i64 a6] := by
      match l, hl' with
      | [x0, x1, x2, x3, x4, x5, x6], _ => simp at k0 k1 k2 k3 k4 k5 k6; simp [k0, k1, k2, k3, k4, k5, k6]
    exact ⟨⟨a0, a1, a2, a3, A4, c4, a4, a5, a6⟩, el, f4, g4, f2, f6, f1, f5⟩
set_option maxRecDepth 100000 in
theorem get_dos (hv : Value.okWide Try.prog w .any base 22 v) (h : DataW.Trod enc Try.prog w 0 (fun _ => true) true 22 v d p) :
    ∃ A c l, v = .slice A l.length c ∧ RdS clD 7 w w.heap.size A l ∧ (∀ y ∈ l, Arg w w.heap.size y.A y.c y.b ∧ y.c ≤ maxLen ∧ (Lit.int .i64 y.off).wf = true ∧ (Lit.int .i64 y.now).wf = true ∧ y.key.length ≤ maxLen ∧ y.head.length ≤ maxLen) ∧ l.length ≤ c ∧ c ≤ maxLen := by
  obtain ⟨A, len, cap, rfl⟩ := okWide_slice Try.underlying22 hv
  obtain ⟨fuel, hf⟩ := h
  rcases Deep.open_slice Try.underlying22 hf with ⟨hcs, _⟩ | ⟨a, len', cap', m, n, D, Pl, hcs, _, hl, hm, hmm, _, hall⟩
  · simp [Value.cells] at hcs
    obtain ⟨rfl, rfl, rfl⟩ := hcs
    exact ⟨none, 0, [], rfl, fun hn => absurd hn (by simp), fun x hx => (by cases hx), Nat.le_refl _, Nat.zero_le _⟩
  · simp [Value.cells] at hcs
    obtain ⟨rfl, rfl, rfl⟩ := hcs
    have hcn : Try.prog.cellsOf 34 = 7 := by kernel_rfl
    rw [hcn] at hall
    have hmm' : m = cap := by simpa using hmm
    subst hmm'
    have key : ∀ i, ∃ y : Dx, i < len → w.cells? 0 (a.add (i * 7)) 7 = some (clD y) ∧ Arg w w.heap.size y.A y.c y.b ∧ y.c ≤ maxLen ∧ (Lit.int .i64 y.off).wf = true ∧ (Lit.int .i64 y.now).wf = true ∧ y.key.length ≤ maxLen ∧ y.head.length ≤ maxLen := fun i => by
      by_cases hi : i < len
      · obtain ⟨cs', h1, h2⟩ := hall i (by omega)
        obtain ⟨y, rfl, h3⟩ := cell_do h2
        exact ⟨y, fun _ => ⟨h1, h3⟩⟩
      · exact ⟨⟨false, [], 0, false, none, 0, [], [], 0⟩, fun h => absurd h hi⟩
    obtain ⟨X, hX⟩ := Classical.skolem.1 key
    have el : ((List.range len).map X).length = len := by simp
    refine ⟨some a, m, (List.range len).map X, by rw [el], fun hn => ?_, fun x hx => ?_, by rw [el]; exact hl, hm⟩
    · rw [el] at hn
      obtain ⟨b, off, spot⟩ := a
      have h0 := (hX 0 hn).1
      have hc0 : World.cell? w ((Addr.mk b off spot).add (0 * 7) |>.add 0) = (clD (X 0))[0]? := (World.cells?_some h0).2.2 0 (by decide)
      have hspot : spot = none := by simpa [Addr.add] using World.cell?_spot (hc0.trans rfl)
      subst hspot
      have hb : b < w.heap.size := by simpa [Addr.add] using World.cells?_block h0 (by decide)
      refine ⟨b, off, rfl, hb, fun j x hx => ?_⟩
      have hj : j < len := by
        have := (List.getElem?_eq_some_iff.1 hx).1
        rwa [el] at this
      have e : x = X j := by
        rw [List.getElem?_map, List.getElem?_range hj] at hx
        simpa using hx.symm
      have h1 := (hX j hj).1
      rw [add_off] at h1
      rw [e]
      exact cells_at9 h1
    · obtain ⟨i, hi, rfl⟩ := List.mem_map.1 hx
      exact (hX i (List.mem_range.1 hi)).2
end
end Go.Proofs.Ytghbliabmecbcaa
