/-
  Contracts and lemmas on which the proofs of this seat stand (several texts in one). Conditions are each theorem's own.
-/
import Derived.Test.YtghbliabmecbcaaMa6
import Derived.Laws.CopyOwn
import Derived.Lib.AppendZerosOnto
import Derived.Lib.Overlaps
import Derived.Laws.Externs
import Derived.Laws.NewBlocks
import Derived.Test.YtghbliabmecbcaaMa5

/-
  A part put into a row of parts: the library's Insert, read off its text. What is kept where some blocks are written. Conditions are each theorem's own.
-/
namespace Go.Proofs.Ytghbliabmecbcaa
open Go.RowKit Go.Shelf

/-- All blocks but some lie as they lay. -/
structure Kept (S : Nat → Prop) (w w' : World) : Prop where
  os : w'.os = w.os
  tape : w'.tape = w.tape
  output : w'.output = w.output
  size : w.heap.size ≤ w'.heap.size
  block : ∀ k, k < w.heap.size → ¬ S k → w'.heap[k]? = w.heap[k]?
section
variable {S T : Nat → Prop} {a b c : World}
theorem Kept.of_below (h : Below a.heap.size a b) : Kept S a b := ⟨h.os, h.tape, h.output, h.size, fun k hk _ => h.block k hk⟩
theorem Kept.refl (a : World) : Kept S a a := Kept.of_below (Below.refl _ a)
theorem Kept.trans (h : Kept S a b) (k : Kept T b c) (hT : ∀ i, i < a.heap.size → T i → S i) : Kept S a c :=
  ⟨k.os.trans h.os, k.tape.trans h.tape, k.output.trans h.output, Nat.le_trans h.size k.size,
   fun i hi hs => (k.block i (Nat.lt_of_lt_of_le hi h.size) (fun t => hs (hT i hi t))).trans (h.block i hi hs)⟩
theorem Kept.then_below (h : Kept S a b) (k : Below b.heap.size b c) : Kept S a c := h.trans (T := fun _ => False) (Kept.of_below k) (fun _ _ f => f.elim)
theorem Kept.mono (h : Kept S a b) (hS : ∀ i, i < a.heap.size → S i → T i) : Kept T a b := ⟨h.os, h.tape, h.output, h.size, fun k hk hn => h.block k hk (fun s => hn (hS k hk s))⟩
theorem Kept.below {B : Nat} (h : Kept S a b) (hB : B ≤ a.heap.size) (hS : ∀ i, S i → B ≤ i) : Below B a b := ⟨h.os, h.tape, h.output, h.size, fun k hk => h.block k (by omega) (fun s => by have := hS k s; omega)⟩
theorem Kept.of_grown {r : Option Nat} (h : a.grownBy b r) : Kept (fun k => some k = r) a b := ⟨h.os, h.tape, h.output, h.size, fun k hk hn => h.block k hk hn⟩
theorem Kept.setRow (w : World) (g : Nat) (cs : Array Value) : Kept (fun k => k = g) w (w.setRow g cs) := ⟨rfl, rfl, rfl, by simp [World.setRow], fun k _ hn => setRow_other w g k cs hn⟩
theorem Kept.drew (w : World) : Kept S w w.drew := Kept.of_below (Below.refl _ w).drew
end
theorem splice_get {α : Type} {L cs : List α} {k : Nat} (h : k + cs.length ≤ L.length) (j : Nat) : (splice L k cs)[j]? = if k ≤ j ∧ j < k + cs.length then cs[j - k]? else L[j]? := by
  unfold splice
  by_cases h1 : j < k
  · rw [if_neg (by omega), List.getElem?_append_left (by simp; omega), List.getElem?_take, if_pos h1]
  · rw [List.getElem?_append_right (by simp; omega), List.length_take, Nat.min_eq_left (by omega)]
    by_cases h2 : j < k + cs.length
    · rw [if_pos ⟨by omega, h2⟩, List.getElem?_append_left (by omega)]
    · rw [if_neg (by omega), List.getElem?_append_right (by omega), List.getElem?_drop]
      congr 1; omega
/-- What the two copies leave, in either order: the cells ahead of the place, the new ones, the others. -/
theorem ins_take {α : Type} {R xs C : List α} {i n : Nat} (hi : i ≤ n) (hx : xs.length = n * 3) (hC : C.length = 3) (hp : ∀ j, j < i * 3 → R[j]? = xs[j]?) (R' : List α)
    (hR' : ∀ j, j < n * 3 + 3 → R'[j]? = if j < i * 3 then R[j]? else if j < i * 3 + 3 then C[j - i * 3]? else xs[j - 3]?) : R'.take (n * 3 + 3) = xs.take (i * 3) ++ (C ++ xs.drop (i * 3)) := by
  refine List.ext_getElem? fun j => ?_
  rw [List.getElem?_take]
  by_cases hj : j < n * 3 + 3
  · rw [if_pos hj, hR' j hj]
    by_cases h1 : j < i * 3
    · rw [if_pos h1, List.getElem?_append_left (by simp; omega), List.getElem?_take, if_pos h1, hp j h1]
    · rw [if_neg h1, List.getElem?_append_right (by simp; omega), List.length_take, Nat.min_eq_left (by omega)]
      by_cases h2 : j < i * 3 + 3
      · rw [if_pos h2, List.getElem?_append_left (by omega)]
      · rw [if_neg h2, List.getElem?_append_right (by omega), List.getElem?_drop]
        congr 1; omega
  · rw [if_neg hj, List.getElem?_eq_none]
    simp; omega
theorem info_hp : (Try.prog.info? 128).map (fun i => (i.zero, i.size, i.bytes)) = some (some (.agg #[.int .i64 0, .bool false, .slice none 0 0]), 3, 40) := by kernel_rfl
/-- copy, over rows of elements of three cells. -/
theorem run_copy3 (w : World) (dT sT ty elem : TypeId) (g o dLen dCap : Nat) (a : Addr) (sLen sCap : Nat) (cur : Array Value) (t : TypeId) (cs : List Value) (k : Nat)
    (hu : Try.prog.underlying dT = some (.slice elem)) (hs : (Try.prog.info? elem).map (·.size) = some 3) (hk : k = Nat.min sLen dLen)
    (hg : w.heap[g]? = some (.cells cur t (0, 0))) (hn : cs.length = k * 3)
    (hsrc : ∀ j v, cs[j]? = some v → w.cell? (a.add j) = some v) (hfit : o + cs.length ≤ cur.size) (h1 : ∀ v ∈ cs, v.oneCell' = true) :
    (Builtin.copy_ #[dT, sT] ty #[.slice (some ⟨g, o, none⟩) dLen dCap, .slice (some a) sLen sCap]).run Try.prog w =
      .ok (goInt k) (w.setRow g (splice cur.toList o cs).toArray) := by
  have hl := run_loadCells_list (P := Try.prog) w a cs hsrc
  have hst := run_storeCells_at Try.prog g o t cs 0 cur w hg (by simpa using hfit) h1
  cases hq : Try.prog.info? elem with
  | none => simp [hq] at hs
  | some i =>
    have hi : i.size = 3 := by simpa [hq] using hs
    rw [hn] at hl
    subst hk
    simp [Builtin.copy_, run_underlying hu, Builtin.lenOf, Builtin.firstCells, sizeOf, typeInfo, hq, hi, hl, hst, splice]
theorem wpList_copy_eq {P : Program} {w : World} {ops : Array Oper} {rest : List Oper} {o : Oper} {a : Act} {Q : Exit → Act → World → Prop} (hgd : o.guard = none) (d s : Operand) (t t' : TypeId)
    (ho : o.op = .call { callee := .builtin .copy, args := #[d, s], argTypes := #[t, t'] }) (v u : Value) (hd : a.eval d = v) (hs : a.eval s = u) {v' : Value} {w1 : World}
    (hr : (Builtin.copy_ #[t, t'] o.type #[v, u]).run P w = .ok v' w1) (h : ∀ w', w' = w1 → wpList P ops Q rest (a.put o.dst v') w') : wpList P ops Q (o :: rest) a w :=
  wpList_plain hgd fun K hK => by
    unfold Oper.wp execOp
    simp only [ho, resolve, invoke, builtin, Sem.run_bind, Sem.run_pure, Result.andThen_ok, List.map_toArray, List.map_cons, List.map_nil, hd, hs, hr]
    exact hK _ _ (h _ rfl)
theorem step_copy_eq {P : Program} {ops : Array Oper} {o : Oper} {a : Act} {w : World} {K : Act → World → Prop} {Q : Exit → Act → World → Prop} {E : Prop}
    (hg : o.guard = none) (d x : Operand) (dT sT : TypeId) (hop : o.op = Op.call { callee := Callee.builtin Builtin.copy, args := #[d, x], argTypes := #[dT, sT] })
    (v u : Value) (hd : a.eval d = v) (hx : a.eval x = u) {v' : Value} {w1 : World} (hr : (Builtin.copy_ #[dT, sT] o.type #[v, u]).run P w = .ok v' w1) (hK : ∀ w', w' = w1 → K (a.put o.dst v') w') :
    if Region.wanted o (yielded ops a.tmps) = true then Oper.wp P o a w K Q else E := by
  have hw : Region.wanted o (yielded ops a.tmps) = true := by simp [Region.wanted, hg]
  rw [if_pos hw]
  unfold Oper.wp
  simp [execOp, hop, resolve, invoke, builtin, hd, hx, hr, Result.andThen]
  exact hK _ rfl
theorem clP_oneM {L : List XP} : ∀ u ∈ L.flatMap clP, u.oneCell' = true := fun u hu => by
  obtain ⟨y, _, hy⟩ := List.mem_flatMap.1 hu
  exact clP_ones y u hy
def putX (L : List XP) (i : Nat) (x : XP) : List XP := L.take i ++ x :: L.drop i
theorem putX_cells (L : List XP) (i : Nat) (x : XP) : (putX L i x).flatMap clP = (L.flatMap clP).take (i * 3) ++ (clP x ++ (L.flatMap clP).drop (i * 3)) := by
  have h : ∀ (L : List XP) (i : Nat), (L.take i).flatMap clP = (L.flatMap clP).take (i * 3) ∧ (L.drop i).flatMap clP = (L.flatMap clP).drop (i * 3) := fun L => by
    induction L with
    | nil => intro i; simp
    | cons a L ih =>
      intro i
      cases i with
      | zero => simp
      | succ i =>
        obtain ⟨h1, h2⟩ := ih i
        rw [List.take_succ_cons, List.drop_succ_cons, List.flatMap_cons, List.flatMap_cons, h1, h2]
        have e : (i + 1) * 3 = (clP a).length + i * 3 := by show _ = 3 + i * 3; omega
        rw [e, List.take_length_add_append, List.drop_length_add_append]
        exact ⟨rfl, rfl⟩
  rw [putX, List.flatMap_append, List.flatMap_cons, (h L i).1, (h L i).2]
theorem overlaps_no (w : World) (vb g la ca lb cb o kA kB : Nat) (tA tB : TypeId) (hne : vb ≠ g) (hsa : w.shape? vb = some (tA, kA)) (hsb : w.shape? g = some (tB, kB)) (hkB : kB ≠ 0) (hfa : w.frozen? ⟨vb, 0, none⟩ = false) (hfe : w.frozen? ⟨vb, kA, none⟩ = false) :
    (callFunc 118 #[.slice (some ⟨vb, 0, none⟩) la ca, .slice (some ⟨g, o, none⟩) lb cb]).run Try.prog w = .ok (.value (.bool false)) w := by
  have hov : (callFunc 118 #[.slice (some ⟨vb, 0, none⟩) la ca, .slice (some ⟨g, o, none⟩) lb cb]).run Try.prog w = _ :=
    run_callFunc_extern Try.func118 (by kernel_rfl) (by kernel_rfl) (by kernel_rfl) (e := Extern.SlicesOverlaps.overlaps #[126, 126] #[4]) (by kernel_rfl) _ w
  rw [hov, Lib.run_overlaps_apart w 126 4 128 Try.underlying126 3 (fun w => by have := sizeOf_hpart w; rwa [show Try.prog.elem 126 = 128 by kernel_rfl] at this) ⟨vb, 0, none⟩ ⟨g, o, none⟩ la ca lb cb hne tA tB kA kB hsa hsb hkB hfa hfe]
  rfl
set_option maxRecDepth 100000 in
set_option maxHeartbeats 1000000 in
/-- Insert where there is room, ahead of the end: in place. -/
theorem hcins_shift (g c i vb : Nat) (cur : Array Value) (L : List XP) (x : XP) (w : World) (hg : w.heap[g]? = some (.cells cur 128 (0, 0))) (hi : i < L.length) (hn : L.length ≤ 100000) (hc : L.length + 1 ≤ c) (hs : cur.size = c * 3)
    (ht : cur.toList.take (L.length * 3) = L.flatMap clP) (hv : w.heap[vb]? = some (.cells (clP x).toArray 128 (0, 0))) (hne : vb ≠ g) :
    Calls Try.prog 105 #[.slice (some ⟨g, 0, none⟩) L.length c, .int .i64 i, .slice (some ⟨vb, 0, none⟩) 1 1] w fun e w' =>
      e = .returned (.slice (some ⟨g, 0, none⟩) (L.length + 1) c) ∧ (∃ cur', w'.heap[g]? = some (.cells cur' 128 (0, 0)) ∧ cur'.size = c * 3 ∧ cur'.toList.take ((L.length + 1) * 3) = (putX L i x).flatMap clP) ∧ Kept (fun k => k = g) w w' := by
  obtain ⟨n, hnn⟩ : ∃ n, n = L.length := ⟨_, rfl⟩
  obtain ⟨xs, hxs⟩ : ∃ xs, xs = L.flatMap clP := ⟨_, rfl⟩
  have hxl : xs.length = n * 3 := by rw [hxs, hnn]; exact flat3 L
  have hx1 : ∀ u ∈ xs, u.oneCell' = true := by rw [hxs]; exact clP_oneM
  have HPX := Lib.hid (putX_cells L i x)
  rw [← hxs] at HPX
  have hcl : (clP x).length = 3 := rfl
  have hc1x := clP_ones x
  rw [← hnn] at hi hn hc ht ⊢
  rw [← hxs] at ht
  have hcpA : ∀ ty dc sc, (Builtin.copy_ #[126, 126] ty #[.slice (some ⟨g, (i + 1) * 3, none⟩) (n - i) dc, .slice (some ⟨g, i * 3, none⟩) (n + 1 - i) sc]).run Try.prog w.drew = .ok (goInt (n - i : Nat)) (w.drew.setRow g (splice cur.toList ((i + 1) * 3) (xs.drop (i * 3))).toArray) := fun ty dc sc =>
    run_copy3 w.drew _ _ ty 128 g ((i + 1) * 3) _ dc ⟨g, i * 3, none⟩ _ sc cur 128 (xs.drop (i * 3)) (n - i) Try.underlying126 (by kernel_rfl) (by simp only [Nat.min_def]; split <;> omega) hg (by simp; omega)
      (fun j v hj => by
        rw [List.getElem?_drop, ← ht, List.getElem?_take] at hj
        split at hj
        · rw [add_off]; exact cells_at hg (by simpa using hj)
        · cases hj)
      (by simp; omega) (fun v hv => hx1 v (List.mem_of_mem_drop hv))
  have hi3 : i * 3 + 3 ≤ n * 3 := by omega
  have HT := Lib.hid ht
  clear hnn hxs ht
  have hz2 : ¬ ((i : Int) = (n : Int)) := by omega
  have hz3 : ¬ ((c : Int) < (n : Int) + 1) := by omega
  have hb2 : ¬ (c = i + 1) := by omega
  have hb4 : ¬ (c = i) := by omega
  have htn : ((i : Int) + 1).toNat = i + 1 := by omega
  have htm : ((n : Int) + 1).toNat = n + 1 := by omega
  have hov := fun la ca lb cb o => overlaps_no w vb g la ca lb cb o 3 cur.size 128 128 hne (by simp [World.shape?, hv, clP]) (by simp [World.shape?, hg]) (by omega) (heap_frozen hv _) (heap_frozen hv _)
  go_enter Try.func105, Try.ntmps105
  go_wp2_with (simp only [hov])
  have hw1 : IntKind.i64.wrap ((i : Int) + 1) = (i : Int) + 1 := IntWalk.i64_in _ (by omega)
  have hb1 : (0 : Int) ≤ (i : Int) + 1 := by omega
  have hb3 : (i : Int) ≤ (n : Int) := by omega
  have hb5 : (i : Int) ≤ (n : Int) + 1 := by omega
  have hb6 : (i : Int) + 1 ≤ (n : Int) + 1 := by omega
  obtain ⟨cur1, hc1⟩ : ∃ cur1, cur1 = (splice cur.toList ((i + 1) * 3) (xs.drop (i * 3))).toArray := ⟨_, rfl⟩
  have HC1 := Lib.hid hc1.symm
  have hl1 : cur1.toList.length = c * 3 := by rw [hc1, List.toList_toArray, length_splice _ _ _ (by simp; omega)]; simpa using hs
  have hl2 : cur1.size = c * 3 := by simpa using hl1
  clear hc1
  have hcpB : ∀ (W : World), W.heap[g]? = some (.cells cur1 128 (0, 0)) → W.heap[vb]? = some (.cells (clP x).toArray 128 (0, 0)) → ∀ ty dc sc, (Builtin.copy_ #[126, 126] ty #[.slice (some ⟨g, i * 3, none⟩) (n + 1 - i) dc, .slice (some ⟨vb, 0, none⟩) 1 sc]).run Try.prog W = .ok (goInt (1 : Nat)) (W.setRow g (splice cur1.toList (i * 3) (clP x)).toArray) := fun W h1 h2 ty dc sc =>
    run_copy3 W _ _ ty 128 g (i * 3) (n + 1 - i) dc ⟨vb, 0, none⟩ 1 sc cur1 128 (clP x) 1 Try.underlying126 (by kernel_rfl) (by simp only [Nat.min_def]; split <;> omega) h1 (by rw [hcl]) (fun j v hj => by rw [add_off, Nat.zero_add]; exact cells_at h2 (by simpa using hj)) (by rw [hcl]; omega) hc1x
  go_region_law (refine step_copy_eq rfl _ _ 126 126 rfl (.slice (some ⟨g, (i + 1) * 3, none⟩) (n - i) (c - (i + 1))) (.slice (some ⟨g, i * 3, none⟩) (n + 1 - i) (c - i)) (by simp [Act.eval, Act.put]) (by simp [Act.eval, Act.put]) (hcpA _ _ _) ?_; intro w1 hd0; have hd1 := Lib.hid hd0; clear hd0)
  all_goals (
    have hg1 : w1.heap[g]? = some (.cells cur1 128 (0, 0)) := by rw [hd1.out, HC1.out]; exact setRow_heap _ _ _ _ _ _ hg
    have hv1 : w1.heap[vb]? = some (.cells (clP x).toArray 128 (0, 0)) := by rw [hd1.out]; exact (setRow_other _ g vb _ hne).trans hv
    have K1 : Kept (fun k => k = g) w w1 := by rw [hd1.out]; exact (Kept.drew w).trans (Kept.setRow _ g _) (fun _ _ h => h)
    clear hd1 hcpA
    go_wp2
    go_ret
    refine ⟨rfl, ⟨(splice cur1.toList (i * 3) (clP x)).toArray, by exact setRow_heap _ _ _ _ _ _ hg1, by simp [splice, hcl]; omega, ?_⟩, K1.trans (by exact Kept.setRow _ g _) (fun _ _ h => h)⟩
    rw [HPX.out, show (n + 1) * 3 = n * 3 + 3 by omega]
    refine ins_take (R := cur.toList) (by omega) hxl hcl (fun j hj => ?_) _ (fun j hj => ?_)
    · rw [← HT.out, List.getElem?_take, if_pos (by omega)]
    · rw [List.toList_toArray, splice_get (by rw [hcl, hl1]; omega)]
      by_cases c1 : j < i * 3
      · rw [if_neg (by omega), if_pos c1, ← HC1.out, List.toList_toArray, splice_get (by simp; omega), if_neg (by omega)]
      · rw [if_neg c1]
        by_cases c2 : j < i * 3 + 3
        · rw [if_pos ⟨by omega, by omega⟩, if_pos c2]
        · rw [if_neg (by omega), if_neg c2, ← HC1.out, List.toList_toArray, splice_get (by simp; omega), if_pos ⟨by omega, by simp; omega⟩, List.getElem?_drop]
          congr 1; omega)
end Go.Proofs.Ytghbliabmecbcaa

/-
  A part put into a row of parts: the library's Insert where there is no room, and at the end. Conditions are each theorem's own.
-/
namespace Go.Proofs.Ytghbliabmecbcaa
open Go.RowKit Go.Shelf
set_option maxRecDepth 100000 in
set_option maxHeartbeats 1000000 in
/-- Insert where there is no room, ahead of the end: a new row. -/
theorem hcins_grow (g c i vb : Nat) (cur : Array Value) (L : List XP) (x : XP) (w : World) (hg : w.heap[g]? = some (.cells cur 128 (0, 0))) (hi : i < L.length) (hn : L.length ≤ 100000) (hc0 : L.length ≤ c) (hc : c < L.length + 1)
    (ht : cur.toList.take (L.length * 3) = L.flatMap clP) (hv : w.heap[vb]? = some (.cells (clP x).toArray 128 (0, 0))) :
    Calls Try.prog 105 #[.slice (some ⟨g, 0, none⟩) L.length c, .int .i64 i, .slice (some ⟨vb, 0, none⟩) 1 1] w fun e w' =>
      ∃ c', e = .returned (.slice (some ⟨w.heap.size, 0, none⟩) (L.length + 1) c') ∧ (∃ cur', w'.heap[w.heap.size]? = some (.cells cur' 128 (0, 0)) ∧ cur'.size = c' * 3 ∧ cur'.toList.take ((L.length + 1) * 3) = (putX L i x).flatMap clP) ∧
        (L.length + 1 ≤ c' ∧ c' ≤ maxLen) ∧ Below w.heap.size w w' := by
  obtain ⟨n, hnn⟩ : ∃ n, n = L.length := ⟨_, rfl⟩
  obtain ⟨xs, hxs⟩ : ∃ xs, xs = L.flatMap clP := ⟨_, rfl⟩
  have hxl : xs.length = n * 3 := by rw [hxs, hnn]; exact flat3 L
  have hx1 : ∀ u ∈ xs, u.oneCell' = true := by rw [hxs]; exact clP_oneM
  have HPX := Lib.hid (putX_cells L i x)
  rw [← hxs] at HPX
  have hcl : (clP x).length = 3 := rfl
  have hc1x := clP_ones x
  rw [← hnn] at hi hn hc hc0 ht ⊢
  rw [← hxs] at ht
  have hgz : g < w.heap.size := heap_lt hg
  have hvz : vb < w.heap.size := heap_lt hv
  obtain ⟨i0, hi0, hz0, hzs, hzb⟩ := info_parts info_hp
  have hkk : (n : Int) + 1 - (i : Int) = ((n + 1 - i : Nat) : Int) := by omega
  have hik : i + (n + 1 - i) = n + 1 := by omega
  have hold : (Builtin.firstCells i0.size i (.slice (some ⟨g, 0, none⟩) i c)).run Try.prog w.drew = .ok (xs.take (i * 3)).toArray w.drew := by
    rw [hzs]
    exact run_firstCells_some w.drew 3 i ⟨g, 0, none⟩ i c (xs.take (i * 3)) (by rw [List.length_take]; omega) (fun j v hj => by
      rw [add_off, Nat.zero_add]
      rw [List.getElem?_take] at hj
      split at hj
      · refine cells_at (w := w.drew) hg ?_
        rw [← ht, List.getElem?_take] at hj
        split at hj
        · simpa using hj
        · cases hj
      · cases hj)
  have hrz : ∀ ty, (Builtin.append_ #[126, 3] ty #[.slice (some ⟨g, 0, none⟩) i c, .int .i64 ((n : Int) + 1 - (i : Int))]).run Try.prog w =
      .ok (.slice (some ⟨w.heap.size, 0, none⟩) (n + 1) (grownCap w (n + 1) c 128)) (w.drew.alloc (.cells ((xs.take (i * 3)).toArray ++ Builtin.zeroCells (Value.agg #[.int .i64 0, .bool false, .slice none 0 0]).cells (n + 1 - i) ++ Builtin.zeroCells (Value.agg #[.int .i64 0, .bool false, .slice none 0 0]).cells (grownCap w (n + 1) c 128 - (n + 1))) 128)) := fun ty => by
    have h := Lib.run_append_grow_zeros w 126 3 ty 128 i0 _ .i64 .i64 Try.underlying126 Try.underlying3 hi0 hz0 (some ⟨g, 0, none⟩) i c (xs.take (i * 3)) hold (n + 1 - i) (by omega) (by omega) (by omega) (by omega) (by rw [hzb]; omega) (by rw [hzb, hik]; exact growslice_fits (by omega) (by omega))
    rw [hik] at h
    rw [hkk]
    exact h
  obtain ⟨G, hG⟩ : ∃ G, G = grownCap w (n + 1) c 128 := ⟨_, rfl⟩
  obtain ⟨ROW, hROW⟩ : ∃ ROW : Array Value, ROW = (xs.take (i * 3)).toArray ++ Builtin.zeroCells (Value.agg #[.int .i64 0, .bool false, .slice none 0 0]).cells (n + 1 - i) ++ Builtin.zeroCells (Value.agg #[.int .i64 0, .bool false, .slice none 0 0]).cells (G - (n + 1)) := ⟨_, rfl⟩
  rw [← hG] at hrz
  rw [← hROW] at hrz
  have hGn : n + 1 ≤ G := by rw [hG]; exact grownCap_ge w _ _ _
  have hGm : G ≤ maxLen := by
    have := grownCap_le_maxLen w (n + 1) c 128 (by unfold maxLen; omega)
    rwa [← hG] at this
  have hRl : ROW.size = G * 3 := by
    rw [hROW]
    simp [Builtin.zeroCells, Value.cells]
    omega
  have hRp : ∀ j, j < i * 3 → ROW.toList[j]? = xs[j]? := fun j hj => by
    rw [hROW]
    simp only [Array.toList_append]
    rw [List.append_assoc, List.getElem?_append_left (by simp; omega), List.getElem?_take, if_pos hj]
  have HRP := Lib.hid hRp
  have HT := Lib.hid ht
  obtain ⟨W1, hW1⟩ : ∃ W1, W1 = w.drew.alloc (.cells ROW 128) := ⟨_, rfl⟩
  rw [← hW1] at hrz
  have h1N : W1.heap[w.heap.size]? = some (.cells ROW 128 (0, 0)) := by rw [hW1]; exact World.alloc_heap_new w.drew _
  have B1 : Below w.heap.size w W1 := by rw [hW1]; exact ((Below.refl _ w).drew).alloc (Nat.le_refl _) _
  have h1v := (B1.block vb hvz).trans hv
  obtain ⟨R2, hR2⟩ : ∃ R2, R2 = (splice ROW.toList (i * 3) (clP x)).toArray := ⟨_, rfl⟩
  obtain ⟨W2, hW2⟩ : ∃ W2, W2 = W1.setRow w.heap.size R2 := ⟨_, rfl⟩
  have hcpA : ∀ ty dc sc, (Builtin.copy_ #[126, 126] ty #[.slice (some ⟨w.heap.size, i * 3, none⟩) (n + 1 - i) dc, .slice (some ⟨vb, 0, none⟩) 1 sc]).run Try.prog W1 = .ok (goInt (1 : Nat)) W2 := fun ty dc sc => by
    rw [hW2, hR2]
    exact run_copy3 W1 _ _ ty 128 w.heap.size (i * 3) (n + 1 - i) dc ⟨vb, 0, none⟩ 1 sc ROW 128 (clP x) 1 Try.underlying126 (by kernel_rfl) (by simp only [Nat.min_def]; split <;> omega) h1N (by rw [hcl]) (fun j v hj => by rw [add_off, Nat.zero_add]; exact cells_at h1v (by simpa using hj)) (by rw [hcl]; omega) hc1x
  have h2N : W2.heap[w.heap.size]? = some (.cells R2 128 (0, 0)) := by rw [hW2]; exact setRow_heap _ _ _ _ _ _ h1N
  have B2 : Below w.heap.size w W2 := by rw [hW2]; exact below_setRow B1 (Nat.le_refl _) _
  have h2g := (B2.block g hgz).trans hg
  have hl2 : R2.toList.length = G * 3 := by rw [hR2, List.toList_toArray, length_splice _ _ _ (by rw [hcl]; simp; omega)]; simpa using hRl
  have hl3 : R2.size = G * 3 := by simpa using hl2
  obtain ⟨R3, hR3⟩ : ∃ R3, R3 = (splice R2.toList ((i + 1) * 3) (xs.drop (i * 3))).toArray := ⟨_, rfl⟩
  have hcpB : ∀ ty dc sc, (Builtin.copy_ #[126, 126] ty #[.slice (some ⟨w.heap.size, (i + 1) * 3, none⟩) (n - i) dc, .slice (some ⟨g, i * 3, none⟩) (n - i) sc]).run Try.prog W2.drew = .ok (goInt (n - i : Nat)) (W2.drew.setRow w.heap.size R3) := fun ty dc sc => by
    rw [hR3]
    exact run_copy3 W2.drew _ _ ty 128 w.heap.size ((i + 1) * 3) (n - i) dc ⟨g, i * 3, none⟩ (n - i) sc R2 128 (xs.drop (i * 3)) (n - i) Try.underlying126 (by kernel_rfl) (by simp only [Nat.min_def]; split <;> omega) h2N (by simp; omega)
      (fun j v hj => by
        rw [List.getElem?_drop, ← HT.out, List.getElem?_take] at hj
        split at hj
        · rw [add_off]; exact cells_at (w := W2.drew) h2g (by simpa using hj)
        · cases hj)
      (by simp; omega) (fun v hv => hx1 v (List.mem_of_mem_drop hv))
  have HR2 := Lib.hid hR2
  have HR3 := Lib.hid hR3
  have H2N := Lib.hid h2N
  have HBB := Lib.hid hcpB
  have hi3 : i * 3 + 3 ≤ n * 3 := by omega
  clear hkk hik hold hROW hG hnn hxs ht hW1 hW2 hR2 hR3 hRp h1N h1v h2N h2g hcpB hi0 hz0 hzs hzb
  have hz2 : ¬ ((i : Int) = (n : Int)) := by omega
  have hz3 : (c : Int) < (n : Int) + 1 := by omega
  have hci : ¬ (c = i) := by omega
  have hGi : ¬ (G = i) := by omega
  have hGim : ¬ (G = i + 1) := by omega
  have htn : ((i : Int) + 1).toNat = i + 1 := by omega
  go_enter Try.func105, Try.ntmps105
  go_wp2_with (at_builtin; refine Lib.wpList_append_run _ rfl _ _ _ _ rfl _ _ rfl rfl _ _ (hrz _) ?_)
  have hw1 : IntKind.i64.wrap ((i : Int) + 1) = (i : Int) + 1 := IntWalk.i64_in _ (by omega)
  have hb1 : (0 : Int) ≤ (i : Int) + 1 := by omega
  have hb3 : (i : Int) ≤ (n : Int) := by omega
  have hb6 : (i : Int) + 1 ≤ (n : Int) + 1 := by omega
  go_region_law (refine step_copy_eq rfl _ _ 126 126 rfl (.slice (some ⟨w.heap.size, (i + 1) * 3, none⟩) (n - i) (G - (i + 1))) (.slice (some ⟨g, i * 3, none⟩) (n - i) (c - i)) (by simp [Act.eval, Act.put]) (by simp [Act.eval, Act.put]) (HBB.out _ _ _) ?_; intro w1 hd0; have hd1 := Lib.hid hd0; clear hd0)
  all_goals (
    go_wp2
    go_ret
    have e3 : R3.size = G * 3 := by rw [HR3.out]; simp only [List.size_toArray]; rw [length_splice _ _ _ (by simp; omega)]; simpa using hl2
    refine ⟨G, rfl, ⟨R3, by rw [hd1.out]; exact setRow_heap _ _ _ _ _ _ H2N.out, e3, ?_⟩, ⟨hGn, hGm⟩, by rw [hd1.out]; exact below_setRow B2.drew (Nat.le_refl _) _⟩
    rw [HPX.out, show (n + 1) * 3 = n * 3 + 3 by omega]
    refine ins_take (R := ROW.toList) (by omega) hxl hcl HRP.out _ (fun j hj => ?_)
    rw [HR3.out, List.toList_toArray, splice_get (by simp; omega)]
    by_cases c1 : j < i * 3
    · rw [if_neg (by omega), if_pos c1, HR2.out, List.toList_toArray, splice_get (by rw [hcl]; simp; omega), if_neg (by omega)]
    · rw [if_neg c1]
      by_cases c2 : j < i * 3 + 3
      · rw [if_neg (by omega), if_pos c2, HR2.out, List.toList_toArray, splice_get (by rw [hcl]; simp; omega), if_pos ⟨by omega, by omega⟩]
      · rw [if_pos ⟨by omega, by simp; omega⟩, if_neg c2, List.getElem?_drop]
        congr 1; omega)
/-- append of one part, and where the row lies then. -/
theorem wpList_append_one {w : World} {ops : Array Oper} {rest : List Oper} {o : Oper} {a : Act} {Q : Exit → Act → World → Prop}
    (hg : o.guard = none) (s x : Operand) (hop : o.op = Op.call { callee := Callee.builtin Builtin.append, args := #[s, x], argTypes := #[126, 126] })
    (v : Value) (k : Nat) (xs : List Value) (hs : a.eval s = v) (hown : w.ownsRow 0 128 3 v k xs) (hv : v = .slice none 0 0 ∨ 0 < k) (ad : Addr) (c : Nat) (news : List Value) (hx : a.eval x = .slice (some ad) 1 c) (hn : news.length = 3)
    (hc : ∀ j u, news[j]? = some u → w.cell? (ad.add j) = some u) (h1c : ∀ u ∈ news, u.oneCell' = true) (b1 : k ≤ 1000000)
    (hK : ∀ v' w', w'.ownsRow 0 128 3 v' (k + 1) (xs ++ news) → w.grownBy w' v.ownBlock → (v'.ownBlock = v.ownBlock ∨ v'.ownBlock = some w.heap.size) → wpList Try.prog ops Q rest (a.put o.dst v') w') :
    wpList Try.prog ops Q (o :: rest) a w := by
  obtain ⟨i0, hi, hz0, hz1, hz2⟩ := info_parts info_hp
  refine wpList_plain hg fun K hK' => ?_
  obtain ⟨v', w', hrun, r1, r2, r3⟩ := run_append_own (P := Try.prog) w 0 126 o.type 128 i0 _ 3 40 Try.underlying126 hi hz0 hz1 hz2 rfl (by decide) v k xs hown ad 1 c news (by omega) hc h1c (by unfold maxLen; omega) (by omega) (Nat.zero_le _)
  have r4 := append_keeps (P := Try.prog) w 0 126 o.type 128 i0 _ 3 40 Try.underlying126 hi hz0 hz1 hz2 (by decide) v k xs hown hv ad c news hn hc h1c (by unfold maxLen; omega) (by omega) hrun
  unfold Oper.wp
  simp [execOp, hop, resolve, invoke, builtin, hs, hx, hrun, Result.andThen]
  exact hK' _ _ (hK v' w' r1 r2 r4.2)
set_option maxRecDepth 100000 in
set_option maxHeartbeats 1000000 in
theorem hcins_end (A : Option Addr) (c vb : Nat) (L : List XP) (x : XP) (w : World) (own : w.ownsRow 0 128 3 (.slice A L.length c) L.length (L.flatMap clP)) (hnil : Value.slice A L.length c = .slice none 0 0 ∨ 0 < L.length) (hn : L.length ≤ 100000) (hcap : L.length ≤ c)
    (hv : w.heap[vb]? = some (.cells (clP x).toArray 128 (0, 0))) :
    Calls Try.prog 105 #[.slice A L.length c, .int .i64 L.length, .slice (some ⟨vb, 0, none⟩) 1 1] w fun e w' =>
      ∃ A' c', e = .returned (.slice A' (L.length + 1) c') ∧ w'.ownsRow 0 128 3 (.slice A' (L.length + 1) c') (L.length + 1) (L.flatMap clP ++ clP x) ∧ w.grownBy w' (Value.slice A L.length c).ownBlock ∧
        ((Value.slice A' (L.length + 1) c').ownBlock = (Value.slice A L.length c).ownBlock ∨ (Value.slice A' (L.length + 1) c').ownBlock = some w.heap.size) := by
  obtain ⟨n, hnn⟩ : ∃ n, n = L.length := ⟨_, rfl⟩
  obtain ⟨xs, hxs⟩ : ∃ xs, xs = L.flatMap clP := ⟨_, rfl⟩
  rw [← hxs, ← hnn] at own ⊢
  rw [← hnn] at hnil hn hcap
  have HO := Lib.hid own
  have HNI := Lib.hid hnil
  clear hnn hxs own hnil
  go_enter Try.func105, Try.ntmps105
  go_wp2_with (at_builtin; refine wpList_append_one rfl _ _ rfl (.slice A n c) n xs rfl HO.out HNI.out ⟨vb, 0, none⟩ 1 (clP x) rfl rfl (fun j u hj => by rw [add_off, Nat.zero_add]; exact cells_at hv (by simpa using hj)) (clP_ones x) (by omega) ?_; intro v1 w1 own1 grow1 blk1; obtain ⟨A1, c1, rfl⟩ := own_slice own1; have G1 := Lib.hid (And.intro grow1 blk1); clear grow1 blk1)
  all_goals (go_ret; first | exact ⟨A1, c1, rfl, own1, G1.out.1, G1.out.2⟩ | (obtain rfl : c = n := (by assumption); exact ⟨A1, c1, rfl, own1, G1.out.1, G1.out.2⟩))
/-- Insert of one part, wherever. -/
theorem hcinsert (A : Option Addr) (c i vb : Nat) (L : List XP) (x : XP) (w : World) (own : w.ownsRow 0 128 3 (.slice A L.length c) L.length (L.flatMap clP)) (hnil : Value.slice A L.length c = .slice none 0 0 ∨ 0 < L.length) (hi : i ≤ L.length) (hn : L.length ≤ 100000)
    (hv : w.heap[vb]? = some (.cells (clP x).toArray 128 (0, 0))) (hne : (Value.slice A L.length c).ownBlock ≠ some vb) :
    Calls Try.prog 105 #[.slice A L.length c, .int .i64 i, .slice (some ⟨vb, 0, none⟩) 1 1] w fun e w' =>
      ∃ A' c', e = .returned (.slice A' (L.length + 1) c') ∧ w'.ownsRow 0 128 3 (.slice A' (L.length + 1) c') (L.length + 1) ((putX L i x).flatMap clP) ∧ Kept (fun k => (Value.slice A L.length c).ownBlock = some k) w w' ∧
        ((Value.slice A' (L.length + 1) c').ownBlock = (Value.slice A L.length c).ownBlock ∨ (Value.slice A' (L.length + 1) c').ownBlock = some w.heap.size) := by
  rcases Nat.lt_or_ge i L.length with h1 | h1
  · rcases own.2 with ⟨_, h0⟩ | ⟨g, cap, cur, hv2, _, hg, hnc, hcm, hcs, ht⟩
    · omega
    · injection hv2 with e1 e2 e3
      subst e1; subst e3
      have hb : (Value.slice (some ⟨g, 0, none⟩) L.length c).ownBlock = some g := rfl
      rw [hb] at hne ⊢
      have hne' : vb ≠ g := fun e => hne (by rw [e])
      have hxl := flat3 (putX L i x)
      have hpl : (putX L i x).length = L.length + 1 := by simp [putX]; omega
      rcases Nat.lt_or_ge c (L.length + 1) with h2 | h2
      · refine (hcins_grow g c i vb cur L x w hg h1 hn hnc h2 ht hv).mono ?_
        rintro e w' ⟨c', rfl, ⟨cur', g1, g2, g3⟩, ⟨g4, g5⟩, g6⟩
        exact ⟨_, c', rfl, ⟨by rw [hxl, hpl], .inr ⟨_, c', cur', rfl, Nat.zero_le _, g1, g4, g5, g2, g3⟩⟩, Kept.of_below g6, .inr rfl⟩
      · refine (hcins_shift g c i vb cur L x w hg h1 hn h2 hcs ht hv hne').mono ?_
        rintro e w' ⟨rfl, ⟨cur', g1, g2, g3⟩, g6⟩
        exact ⟨_, c, rfl, ⟨by rw [hxl, hpl], .inr ⟨_, c, cur', rfl, Nat.zero_le _, g1, h2, hcm, g2, g3⟩⟩, g6.mono (fun _ _ e => by rw [e]), .inl rfl⟩
  · obtain rfl : i = L.length := by omega
    have hcap : L.length ≤ c := by
      rcases own.2 with ⟨h2, h0⟩ | ⟨g, cap, cur, hv2, _, hg, hnc, _⟩
      · omega
      · injection hv2 with e1 e2 e3
        omega
    refine (hcins_end A c vb L x w own hnil hn hcap hv).mono ?_
    rintro e w' ⟨A', c', rfl, g1, g2, g3⟩
    refine ⟨A', c', rfl, ?_, (Kept.of_grown g2).mono (fun _ _ e => e.symm), g3⟩
    rw [putX, List.take_length, List.drop_length, List.flatMap_append]
    simpa using g1
end Go.Proofs.Ytghbliabmecbcaa

/-
  A region that draws its order and stores last: two operations may come up; the walk's moves. Conditions are each theorem's own.
-/
namespace Go.Proofs.Ytghbliabmecbcaa
open Go.RowKit
section
variable {n : Nat} {P : Program} {ops : Array Oper} {Q : Exit → Act → World → Prop} {md : Region.Mode} {S : World → Prop} {y : Nat}
theorem twoY {i j : Nat} {oi oj : Oper} {fuel : Nat} {listed : Array Bool} {a : Act} {w : World} (hr : Region.ready md ops listed = [i, j]) (hi : ops[i]? = some oi) (hj : ops[j]? = some oj) (hwi : Region.wanted oi (yielded ops a.tmps) = true) (hwj : Region.wanted oj (yielded ops a.tmps) = true)
    (h1 : ∀ K : Act → World → Prop, (∀ a w, ((listed.setIfInBounds i true).getD y true = false → S w) → anyHY n P md ops Q y S fuel (listed.setIfInBounds i true) a w → K a w) → oi.wpIn Fence.wide n P a w K Q)
    (h2 : ∀ K : Act → World → Prop, (∀ a w, ((listed.setIfInBounds j true).getD y true = false → S w) → anyHY n P md ops Q y S fuel (listed.setIfInBounds j true) a w → K a w) → oj.wpIn Fence.wide n P a w K Q) : anyHY n P md ops Q y S (fuel + 1) listed a w := by
  refine ⟨fun h0 => (by rw [hr] at h0; cases h0), fun k hk => ?_⟩
  rw [hr] at hk
  rcases List.mem_cons.1 hk with rfl | hk
  · unfold wpOpIn
    simp only [hi]
    rw [if_pos hwi]
    exact h1 _ (fun a w hS hW => ⟨hS, hW⟩)
  · rw [List.mem_singleton] at hk
    subst hk
    unfold wpOpIn
    simp only [hj]
    rw [if_pos hwj]
    exact h2 _ (fun a w hS hW => ⟨hS, hW⟩)
theorem valGI {o : Oper} {a : Act} {w w' : World} {K : Act → World → Prop} {v : Value} (hrun : (execOp a.eval o).run P w = .ok (.value v) w') (h : K (a.put o.dst v) w') : o.wpIn Fence.wide n P a w K Q :=
  ⟨fun _ _ => trivial, by rw [show Fence.wide.round = none from rfl, Oper.semAt_none, hrun]; exact h⟩
end
section
variable {n : Nat} {o : Oper} {a : Act} {w : World} {K : Act → World → Prop} {Q : Exit → Act → World → Prop}
theorem store_hpsI {x y : Operand} {p : Addr} {v0 : Value} {A : Option Addr} {m c : Nat} (ho : o.op = .store 126 x y) (hx : a.eval x = .pointer (some p)) (hy : a.eval y = .slice A m c) (hc : w.cell? p = some v0) (hf : w.frozen? p = false)
    (h : K (a.put o.dst undef) (w.setCell p (.slice A m c))) : o.wpIn Fence.wide n Try.prog a w K Q := by
  refine skipI (w' := w.setCell p (.slice A m c)) ?_ h
  unfold execOp
  simp only [ho, hx, hy, Instr.storeAt, Instr.sureAddr, Sem.run_bind, Sem.run_pure, Result.andThen_ok]
  go_simp
theorem store_intI {x y : Operand} {p : Addr} {v0 : Value} {i : Int} (ho : o.op = .store 3 x y) (hx : a.eval x = .pointer (some p)) (hy : a.eval y = .int .i64 i) (hc : w.cell? p = some v0) (hf : w.frozen? p = false)
    (h : K (a.put o.dst undef) (w.setCell p (.int .i64 i))) : o.wpIn Fence.wide n Try.prog a w K Q := by
  refine skipI (w' := w.setCell p (.int .i64 i)) ?_ h
  unfold execOp
  simp only [ho, hx, hy, Instr.storeAt, Instr.sureAddr, Sem.run_bind, Sem.run_pure, Result.andThen_ok]
  go_simp
end
end Go.Proofs.Ytghbliabmecbcaa

/-
  One part more is kept: what keep of layer 15 leaves. Conditions are each theorem's own.
-/
namespace Go.Proofs.Ytghbliabmecbcaa
open Go.RowKit Go.Shelf
theorem Kept.setCell (w : World) (g i : Nat) (v : Value) : Kept (fun k => k = g) w (w.setCell ⟨g, i, none⟩ v) := ⟨rfl, rfl, rfl, by simp, fun k _ hn => heap_setCell_other w ⟨g, i, none⟩ k v hn⟩
theorem range_heap {w : World} {u : Nat} {cs : List Value} {t : TypeId} {fr : Nat × Nat} (h : w.heap[u]? = some (.cells cs.toArray t fr)) : w.rangeAt u 0 cs := fun j v hj => cells_at h (by rw [Nat.zero_add, List.getElem?_toArray]; exact hj)
theorem own_keptT {S : Nat → Prop} {w w' : World} {b e s n : Nat} {v : Value} {xs : List Value} (h : w.ownsRow b e s v n xs) (k : Kept S w w') (hS : ∀ g, S g → ∀ cs fr, w.heap[g]? ≠ some (.cells cs e fr)) : w'.ownsRow b e s v n xs := by
  refine ⟨h.1, ?_⟩
  rcases h.2 with hn | ⟨g, cap, cur, hv, hb, hg, rest⟩
  · exact .inl hn
  · exact .inr ⟨g, cap, cur, hv, hb, (k.block g (heap_lt hg) (fun s => hS g s _ _ hg)).trans hg, rest⟩
theorem own_base0 {w : World} {b e s n : Nat} {v : Value} {xs : List Value} (h : w.ownsRow b e s v n xs) : w.ownsRow 0 e s v n xs := by
  refine ⟨h.1, ?_⟩
  rcases h.2 with hn | ⟨g, cap, cur, hv, hb, rest⟩
  · exact .inl hn
  · exact .inr ⟨g, cap, cur, hv, Nat.zero_le _, rest⟩
/-- While one part more is kept: its box, the row of the parts, the bytes of each. -/
structure Ks (w : World) (u : Nat) (x : XP) (v : Value) (n : Nat) (L' Lb : List XP) : Prop where
  box : w.heap[u]? = some (.cells (clP x).toArray 128 (0, 0))
  own : w.ownsRow 0 128 3 v n (L'.flatMap clP)
  byt : ∀ y ∈ Lb, w.ownsRow 0 5 1 (.slice y.A y.p.b.length y.c) y.p.b.length (row y.p.b)
theorem Ks.below {w w' : World} {u : Nat} {x : XP} {v : Value} {n : Nat} {L' Lb : List XP} (h : Ks w u x v n L' Lb) (hb : Below w.heap.size w w') : Ks w' u x v n L' Lb :=
  ⟨(hb.block u (heap_lt h.box)).trans h.box, own_below h.own hb, fun y hy => own_below (h.byt y hy) hb⟩
theorem Ks.set {w : World} {u g i : Nat} {x : XP} {v u' : Value} {n : Nat} {L' Lb : List XP} {cs : Array Value} (h : Ks w u x v n L' Lb) (hg : w.heap[g]? = some (.cells cs 133 (0, 0))) : Ks (w.setCell ⟨g, i, none⟩ u') u x v n L' Lb :=
  ⟨(heap_setCell_other w ⟨g, i, none⟩ u u' (fun e => by
    have e' : u = g := e
    subst e'
    have h2 := h.box.symm.trans hg
    simp only [Option.some.injEq, Obj.cells.injEq] at h2
    exact absurd h2.2.1 (nat_ne (by kernel_rfl)))).trans h.box, own_setCellB h.own hg (nat_ne (by kernel_rfl)), fun y hy => own_setCellB (h.byt y hy) hg (nat_ne (by kernel_rfl))⟩
theorem run_bshp {o : Oper} {a : Act} {w : World} {x : Operand} {cs : Array Value} (ho : o.op = .buildSlice 126 1 #[(0, x)]) (hx : a.eval x = .agg cs) (hl : cs.size = 3) :
    (execOp a.eval o).run Try.prog w = .ok (.value (.slice (some ⟨w.heap.size, 0, none⟩) 1 1)) (w.alloc (.cells cs 128)) := by
  obtain ⟨i0, hi, hz0, hz1, hz2⟩ := info_parts info_hp
  have h := run_lit1 (P := Try.prog) w 126 128 i0 (.agg #[.int .i64 0, .bool false, .slice none 0 0]) cs 3 Try.underlying126 hi hz0 hz1 hl (by decide) (by decide)
  unfold execOp
  simp only [ho, List.map_toArray, List.map_cons, List.map_nil, hx, Sem.run_bind, h, Result.andThen_ok]
  rfl
theorem hcinsert_n (A : Option Addr) (c i vb n : Nat) (L : List XP) (x : XP) (w : World) (hnn : n = L.length) (own : w.ownsRow 0 128 3 (.slice A n c) n (L.flatMap clP)) (hnil : Value.slice A n c = .slice none 0 0 ∨ 0 < n) (hi : i ≤ n) (hn : n ≤ 100000)
    (hv : w.heap[vb]? = some (.cells (clP x).toArray 128 (0, 0))) (hne : (Value.slice A n c).ownBlock ≠ some vb) :
    Calls Try.prog 105 #[.slice A n c, .int .i64 i, .slice (some ⟨vb, 0, none⟩) 1 1] w fun e w' =>
      ∃ A' c', e = .returned (.slice A' (n + 1) c') ∧ w'.ownsRow 0 128 3 (.slice A' (n + 1) c') (n + 1) ((putX L i x).flatMap clP) ∧ Kept (fun k => (Value.slice A n c).ownBlock = some k) w w' ∧
        ((Value.slice A' (n + 1) c').ownBlock = (Value.slice A n c).ownBlock ∨ (Value.slice A' (n + 1) c').ownBlock = some w.heap.size) := by
  subst hnn; exact hcinsert A c i vb L x w own hnil hi hn hv hne
set_option maxRecDepth 100000 in
set_option maxHeartbeats 2000000 in
/-- keep, behind its own copy of the bytes. -/
theorem hckeep (g : Nat) (A : Option Addr) (c n : Nat) (L : List XP) (q : XP) (by0 far0 : Int) (end0 : Bool) (w : World) (hV : Hv w g A c L) (hN : n = L.length) (hg0 : w.heap[g]? = some (.cells #[.bool true, .slice A n c, .int .i64 by0, .int .i64 far0, .bool end0] 133 (0, 0)))
    (hO : w.ownsRow 0 128 3 (.slice A n c) n (L.flatMap clP)) (hNI : Value.slice A n c = .slice none 0 0 ∨ 0 < n) (hB : ∀ y ∈ L, w.ownsRow 0 5 1 (.slice y.A y.p.b.length y.c) y.p.b.length (row y.p.b))
    (hq : Arg w w.heap.size q.A q.c q.p.b) (hx0 : 0 ≤ q.p.off) (hx1 : q.p.stop ≤ 65535) (hby : 0 ≤ by0 ∧ by0 ≤ 100000000000) :
    Calls Try.prog 79 #[.pointer (some ⟨g, 0, none⟩), .agg (clP q).toArray] w fun e w' =>
      e = .returned (.tuple #[]) ∧ ∃ A2 c2 P p, w'.heap[g]? = some (.cells #[.bool true, .slice A2 (n + 1) c2, .int .i64 (by0 + q.p.len), .int .i64 (max far0 q.p.stop), .bool (end0 || !q.p.more)] 133 (0, 0)) ∧
        w'.ownsRow 0 128 3 (.slice A2 (n + 1) c2) (n + 1) ((putX L (atP (piE L) q.p.off) ⟨q.p, P, p⟩).flatMap clP) ∧
        (∀ y ∈ XP.mk q.p P p :: L, w'.ownsRow 0 5 1 (.slice y.A y.p.b.length y.c) y.p.b.length (row y.p.b)) ∧
        Kept (fun k => k = g ∨ (Value.slice A n c).ownBlock = some k) w w' ∧ (∀ k, (Value.slice A2 (n + 1) c2).ownBlock = some k → (Value.slice A n c).ownBlock = some k ∨ w.heap.size ≤ k) := by
  obtain ⟨m, hm0⟩ : ∃ m, m = atP (piE L) q.p.off := ⟨_, rfl⟩
  have hm : m ≤ n := by
    have := atP_le (piE L) q.p.off
    rw [hm0, hN]; simpa [piE] using this
  have hn1 : n ≤ 100000 := by rw [hN]; exact hV.n
  have HN := Lib.hid hN
  have HM := Lib.hid hm0
  have HNI := Lib.hid hNI
  have HB0 := Lib.hid hB
  have HO0 := Lib.hid hO
  have HV0 := Lib.hid hV
  have hgw : g < w.heap.size := heap_lt hg0
  have hrw : ∀ k, (Value.slice A n c).ownBlock = some k → ∃ cur, w.heap[k]? = some (.cells cur 128 (0, 0)) := fun k e => by
    rcases hO.2 with ⟨e1, _⟩ | ⟨k', _, cur, e1, _, hk, _⟩
    · rw [e1] at e; cases e
    · rw [e1] at e
      have : k' = k := by simpa [Value.ownBlock] using e
      exact ⟨cur, this ▸ hk⟩
  have HRW := Lib.hid hrw
  rw [← hm0]
  clear hm0 hN hNI hB hO hV hrw
  have eq0 : clP q = [.int .i64 q.p.off, .bool q.p.more, .slice q.A q.p.b.length q.c] := rfl
  rw [eq0]
  go_enter Try.func79, Try.ntmps79
  go_upto_region 2 with (go_at_call 104; refine (clone_any q.A q.p.b q.c w.heap.size _ (hq.alloc (Nat.le_refl _) _) (by simp) (by have h9 : q.p.stop = q.p.off + (q.p.b.length : Int) := rfl; omega)).mono ?_; rintro e w1 ⟨v1, rfl, m1⟩; obtain ⟨P1, p1, rfl, a1, o1, y1⟩ := made_shape m1; have hu1 := (y1.block w.heap.size (by simp)).trans (World.alloc_heap_new w _); have k1 := cells_at (i := 2) hu1 rfl; have f1 := heap_frozen hu1 2)
  obtain ⟨x, hx⟩ : ∃ x, x = XP.mk q.p P1 p1 := ⟨_, rfl⟩
  have hxp : x.p = q.p := by rw [hx]
  have hxA : x.A = P1 := by rw [hx]
  have hxc : x.c = p1 := by rw [hx]
  have hu : (w1.setCell ⟨w.heap.size, 2, none⟩ (.slice P1 q.p.b.length p1)).heap[w.heap.size]? = some (.cells (clP x).toArray 128 (0, 0)) := by rw [hx]; exact heap_setCell_same w1 w.heap.size 2 _ _ (.slice P1 q.p.b.length p1) hu1
  have b1 : Below w.heap.size w w1 := ((Below.refl _ w).alloc (Nat.le_refl _) _).trans (y1.mono (by simp))
  have bW := b1.setCell (p := ⟨w.heap.size, 2, none⟩) (Nat.le_refl _) (.slice P1 q.p.b.length p1)
  have ox : (w1.setCell ⟨w.heap.size, 2, none⟩ (.slice P1 q.p.b.length p1)).ownsRow 0 5 1 (.slice x.A x.p.b.length x.c) x.p.b.length (row x.p.b) := by
    rw [hxp, hxA, hxc]
    exact own_base0 (own_setCellB (i := 2) (u := .slice P1 q.p.b.length p1) o1 hu1 (nat_ne (by kernel_rfl)))
  generalize w1.setCell ⟨w.heap.size, 2, none⟩ (.slice P1 q.p.b.length p1) = W at *
  have HX := Lib.hid hx
  rw [← hxp] at hx0 hx1 HM ⊢
  clear hx hxp hxA hxc hu1 k1 f1 m1 a1 o1 y1 b1 hq eq0
  have hg := (bW.block g hgw).trans hg0
  have HO := Lib.hid (own_below HO0.out bW)
  have HV := Lib.hid (HV0.out.below bW)
  have HB : Hid (∀ y ∈ x :: L, W.ownsRow 0 5 1 (.slice y.A y.p.b.length y.c) y.p.b.length (row y.p.b)) := Lib.hid (fun y hy => by
    rcases List.mem_cons.1 hy with rfl | hy
    · exact ox
    · exact own_below (HB0.out y hy) bW)
  have HW1 : Hid (IntKind.i64.wrap (by0 + (x.p.b.length : Int)) = by0 + (x.p.b.length : Int)) := Lib.hid (by have h9 : x.p.stop = x.p.off + (x.p.b.length : Int) := rfl; exact IntWalk.i64_in _ (by omega))
  have hrz : ∀ k, (Value.slice A n c).ownBlock = some k → k < W.heap.size := fun k e => (HO.out.lt k e).2
  have hrT : ∀ k, (Value.slice A n c).ownBlock = some k → ∀ cs fr, W.heap[k]? ≠ some (.cells cs 5 fr) := fun k e cs fr h9 => by
    obtain ⟨cur, h8⟩ := HRW.out k e
    have h7 := ((bW.block k (heap_lt h8)).trans h8).symm.trans h9
    simp only [Option.some.injEq, Obj.cells.injEq] at h7
    exact absurd h7.2.1 (nat_ne (by kernel_rfl))
  have hgr : ¬ (Value.slice A n c).ownBlock = some g := fun e => by
    obtain ⟨cur, h8⟩ := HRW.out g e
    have h7 := h8.symm.trans hg0
    simp only [Option.some.injEq, Obj.cells.injEq] at h7
    exact absurd h7.2.1 (nat_ne (by kernel_rfl))
  have hur : ¬ (Value.slice A n c).ownBlock = some w.heap.size := fun e => by
    have := (HO0.out.lt _ e).2; omega
  have hgz := heap_lt hg
  have huz := heap_lt hu
  have hzw := bW.size
  have HBW := Lib.hid bW
  clear bW hg0 ox
  generalize hu0 : w.heap.size = u at *
  have HU := Lib.hid hu0
  clear hu0
  refine regionY 13 (fun w' => Kept (fun k => (Value.slice A n c).ownBlock = some k) W w') (by kernel_rfl) ?_
  have b0 : Below W.heap.size W W.drew := (Below.refl _ W).drew
  have hS : Kept (fun k => (Value.slice A n c).ownBlock = some k) W W.drew := Kept.drew W
  generalize W.drew = X0 at *
  refine pureY (i := 0) (oi := ⟨some 8, _, _, _, _, _⟩) rfl (by kernel_rfl) (by kernel_rfl) (by kernel_rfl) (by kernel_rfl) (by kernel_rfl) (fun _ _ _ h => h) (by rfl) (v := ?_) (fun w hSw => ?_) hS ?_
  rotate_left
  · go_simp; try with_reducible rfl
  try go_frame
  refine pureY (i := 1) (oi := ⟨some 9, _, _, _, _, _⟩) rfl (by kernel_rfl) (by kernel_rfl) (by kernel_rfl) (by kernel_rfl) (by kernel_rfl) (fun _ _ _ h => h) (by rfl) (v := ?_) (fun w hSw => ?_) hS ?_
  rotate_left
  · go_simp; try with_reducible rfl
  try go_frame
  refine pureY (i := 2) (oi := ⟨some 10, _, _, _, _, _⟩) rfl (by kernel_rfl) (by kernel_rfl) (by kernel_rfl) (by kernel_rfl) (by kernel_rfl) (fun _ _ _ h => h) (by rfl) (v := ?_) (fun w hSw => ?_) hS ?_
  rotate_left
  · go_simp; try with_reducible rfl
  try go_frame
  refine pureY (i := 3) (oi := ⟨some 11, _, _, _, _, _⟩) rfl (by kernel_rfl) (by kernel_rfl) (by kernel_rfl) (by kernel_rfl) (by kernel_rfl) (fun _ _ _ h => h) (by rfl) (v := ?_) (fun w hSw => ?_) hS ?_
  rotate_left
  · go_simp; try with_reducible rfl
  try go_frame
  refine pureY (i := 4) (oi := ⟨some 12, _, _, _, _, _⟩) rfl (by kernel_rfl) (by kernel_rfl) (by kernel_rfl) (by kernel_rfl) (by kernel_rfl) (fun _ _ _ h => h) (by rfl) (fun w hSw => run_load_hps rfl rfl (cells_at (i := 1) ((hSw.block g hgz hgr).trans hg) rfl)) hS ?_
  try go_frame
  refine pureY (i := 5) (oi := ⟨some 13, _, _, _, _, _⟩) rfl (by kernel_rfl) (by kernel_rfl) (by kernel_rfl) (by kernel_rfl) (by kernel_rfl) (fun _ _ _ h => h) (by rfl) (v := ?_) (fun w hSw => ?_) hS ?_
  rotate_left
  · go_simp; try with_reducible rfl
  try go_frame
  refine pureY (i := 6) (oi := ⟨some 14, _, _, _, _, _⟩) rfl (by kernel_rfl) (by kernel_rfl) (by kernel_rfl) (by kernel_rfl) (by kernel_rfl) (fun _ _ _ h => h) (by rfl) (v := ?_) (fun w hSw => ?_) hS ?_
  rotate_left
  · go_simp; try with_reducible rfl
  try go_frame
  refine pureY (i := 7) (oi := ⟨some 15, _, _, _, _, _⟩) rfl (by kernel_rfl) (by kernel_rfl) (by kernel_rfl) (by kernel_rfl) (by kernel_rfl) (fun _ _ _ h => h) (by rfl) (fun w hSw => run_load_int rfl rfl (cells_at (i := 0) ((hSw.block u huz hur).trans hu) rfl)) hS ?_
  try go_frame
  refine pureY (i := 9) (oi := ⟨some 17, _, _, _, _, _⟩) rfl (by kernel_rfl) (by kernel_rfl) (by kernel_rfl) (by kernel_rfl) (by kernel_rfl) (fun _ _ _ h => h) (by rfl) (fun w hSw => run_load_hp rfl rfl (range_heap ((hSw.block u huz hur).trans hu)) rfl) hS ?_
  try go_frame
  refine twoY (i := 8) (j := 10) (oi := ⟨some 16, _, _, _, _, _⟩) (oj := ⟨some 18, _, _, _, _, _⟩) (by kernel_rfl) rfl rfl (by rfl) (by rfl) (fun K hK => ?_) (fun K hK => ?_)
  · refine callI (f := 103) (args := #[.pointer (some ⟨g, 0, none⟩), .int .i64 x.p.off]) (by go_simp; try rfl) ?_
    refine (hcplace g x.p.off A c L _ (HV.out.below b0)).mono ?_
    rintro e w8 ⟨rfl, x8⟩
    rw [← HM.out]
    have b8 := b0.trans (x8.mono b0.size)
    have hS : Kept (fun k => (Value.slice A n c).ownBlock = some k) W w8 := Kept.of_below b8
    refine ⟨_, rfl, ?_⟩
    refine hK _ _ (fun _ => hS) ?_
    clear hK K
    try go_frame
    refine oneY (i := 10) (oi := ⟨some 18, _, _, _, _, _⟩) (by kernel_rfl) rfl (by rfl) (fun K hK => ?_)
    refine valGI (run_bshp (cs := (clP x).toArray) rfl rfl rfl) ?_
    have b10 := b8.alloc b8.size (.cells (clP x).toArray 128)
    have hv : (w8.alloc (.cells (clP x).toArray 128)).heap[w8.heap.size]? = some (.cells (clP x).toArray 128 (0, 0)) := World.alloc_heap_new _ _
    have hvW : W.heap.size ≤ w8.heap.size := b8.size
    have hS : Kept (fun k => (Value.slice A n c).ownBlock = some k) W (w8.alloc (.cells (clP x).toArray 128)) := Kept.of_below b10
    refine hK _ _ (fun _ => hS) ?_
    clear hK K
    generalize w8.alloc (.cells (clP x).toArray 128) = w10 at *
    obtain ⟨vb, hvb⟩ : ∃ vb, vb = w8.heap.size := ⟨_, rfl⟩
    rw [← hvb] at hv hvW ⊢
    clear hvb
    have hvz := heap_lt hv
    try go_frame
    try go_frame
    refine oneY (i := 11) (oi := ⟨some 19, _, _, _, _, _⟩) (by kernel_rfl) rfl (by rfl) (fun K hK => ?_)
    refine callI (f := 105) (args := #[.slice A n c, .int .i64 m, .slice (some ⟨vb, 0, none⟩) 1 1]) (by go_simp; try rfl) ?_
    refine (hcinsert_n A c m vb n L x _ HN.out (own_below HO.out b10) HNI.out hm hn1 hv (fun e => by have := hrz vb e; omega)).mono ?_
    rintro e w11 ⟨A2, c2, rfl, own11, k11, bl11⟩
    have HBL : Hid (∀ k, (Value.slice A2 (n + 1) c2).ownBlock = some k → (Value.slice A n c).ownBlock = some k ∨ u ≤ k) := Lib.hid (fun k e9 => by
      rcases bl11 with h9 | h9
      · exact .inl (h9.symm.trans e9)
      · right
        have e8 := Option.some.inj (h9.symm.trans e9)
        have := b10.size
        omega)
    clear bl11
    have hK11 : Kept (fun k => (Value.slice A n c).ownBlock = some k) W w11 := (Kept.of_below b10).trans k11 (fun _ _ h => h)
    have hS := hK11
    refine ⟨_, rfl, ?_⟩
    refine hK _ _ (fun _ => hS) ?_
    clear hK K
    try go_frame
    try go_frame
    refine pureY (i := 12) (oi := ⟨some 20, _, _, _, _, _⟩) rfl (by kernel_rfl) (by kernel_rfl) (by kernel_rfl) (by kernel_rfl) (by kernel_rfl) (fun _ _ _ h => h) (by rfl) (v := ?_) (fun w hSw => ?_) hS ?_
    rotate_left
    · go_simp; try with_reducible rfl
    try go_frame
    refine oneY (i := 13) (oi := ⟨some 21, _, _, _, _, _⟩) (by kernel_rfl) rfl (by rfl) (fun K hK => ?_)
    refine valI (v := ?_) ?_ ?_
    rotate_left
    · go_simp; try with_reducible rfl
    refine hK _ _ (fun h => absurd h (by decide)) ?_
    clear hK K
    try go_frame
    refine oneY (i := 14) (oi := ⟨none, _, _, _, _, _⟩) (by kernel_rfl) rfl (by rfl) (fun K hK => ?_)
    have hg11 := (hK11.block g hgz hgr).trans hg
    have k14 := cells_at (i := 1) hg11 rfl
    have f14 := heap_frozen hg11 1
    refine store_hpsI rfl rfl rfl k14 f14 ?_
    have hg2 : (w11.setCell ⟨g, 1, none⟩ (.slice A2 (n + 1) c2)).heap[g]? = some (.cells #[.bool true, .slice A2 (n + 1) c2, .int .i64 by0, .int .i64 far0, .bool end0] 133 (0, 0)) := heap_setCell_same w11 g 1 _ _ (.slice A2 (n + 1) c2) hg11
    have hs11 : Ks w11 u x (.slice A2 (n + 1) c2) (n + 1) (putX L m x) (x :: L) := ⟨(hK11.block u huz hur).trans hu, own11, fun y hy => own_keptT (HB.out y hy) hK11 (fun k e => hrT k e)⟩
    have hs2 := hs11.set (i := 1) (u' := .slice A2 (n + 1) c2) hg11
    have K2 : Kept (fun k => k = g ∨ (Value.slice A n c).ownBlock = some k) W (w11.setCell ⟨g, 1, none⟩ (.slice A2 (n + 1) c2)) := (hK11.mono (fun _ _ h => .inr h)).trans (Kept.setCell w11 g 1 _) (fun _ _ h => .inl h)
    clear k14 f14 hg11 hs11
    refine hK _ _ (fun h => absurd h (by decide)) ?_
    clear hK K
    generalize w11.setCell ⟨g, 1, none⟩ (.slice A2 (n + 1) c2) = W2 at *
    try go_frame
    try go_frame
    refine doneY (by kernel_rfl) ?_ _
    clear b0 b8 b10 hv hvW hvz hgz huz hgr hur hrT hrz hS hK11 k11 own11 hu
    go_upto_region 3 with fail
    have hg2z := heap_lt hg2
    have hu2z := heap_lt hs2.box
    refine regionY 9 (fun w' => Below W2.heap.size W2 w') (by kernel_rfl) ?_
    have hS := (Below.refl W2.heap.size W2).drew
    refine pureY (i := 0) (oi := ⟨some 22, _, _, _, _, _⟩) rfl (by kernel_rfl) (by kernel_rfl) (by kernel_rfl) (by kernel_rfl) (by kernel_rfl) (fun _ _ _ h => h) (by rfl) (v := ?_) (fun w hSw => ?_) hS ?_
    rotate_left
    · go_simp; try with_reducible rfl
    try go_frame
    refine pureY (i := 1) (oi := ⟨some 23, _, _, _, _, _⟩) rfl (by kernel_rfl) (by kernel_rfl) (by kernel_rfl) (by kernel_rfl) (by kernel_rfl) (fun _ _ _ h => h) (by rfl) (v := ?_) (fun w hSw => ?_) hS ?_
    rotate_left
    · go_simp; try with_reducible rfl
    try go_frame
    refine pureY (i := 2) (oi := ⟨some 24, _, _, _, _, _⟩) rfl (by kernel_rfl) (by kernel_rfl) (by kernel_rfl) (by kernel_rfl) (by kernel_rfl) (fun _ _ _ h => h) (by rfl) (v := ?_) (fun w hSw => ?_) hS ?_
    rotate_left
    · go_simp; try with_reducible rfl
    try go_frame
    refine pureY (i := 3) (oi := ⟨some 25, _, _, _, _, _⟩) rfl (by kernel_rfl) (by kernel_rfl) (by kernel_rfl) (by kernel_rfl) (by kernel_rfl) (fun _ _ _ h => h) (by rfl) (fun w hSw => run_load_int rfl rfl (cells_at (i := 2) ((hSw.block g hg2z).trans hg2) rfl)) hS ?_
    try go_frame
    refine pureY (i := 4) (oi := ⟨some 26, _, _, _, _, _⟩) rfl (by kernel_rfl) (by kernel_rfl) (by kernel_rfl) (by kernel_rfl) (by kernel_rfl) (fun _ _ _ h => h) (by rfl) (v := ?_) (fun w hSw => ?_) hS ?_
    rotate_left
    · go_simp; try with_reducible rfl
    try go_frame
    refine pureY (i := 5) (oi := ⟨some 27, _, _, _, _, _⟩) rfl (by kernel_rfl) (by kernel_rfl) (by kernel_rfl) (by kernel_rfl) (by kernel_rfl) (fun _ _ _ h => h) (by rfl) (fun w hSw => run_load_sl rfl rfl (cells_at (i := 2) ((hSw.block u hu2z).trans hs2.box) rfl)) hS ?_
    try go_frame
    refine pureY (i := 6) (oi := ⟨some 28, _, _, _, _, _⟩) rfl (by kernel_rfl) (by kernel_rfl) (by kernel_rfl) (by kernel_rfl) (by kernel_rfl) (fun _ _ _ h => h) (by rfl) (v := ?_) (fun w hSw => ?_) hS ?_
    rotate_left
    · go_simp; try with_reducible rfl
    try go_frame
    refine pureY (i := 7) (oi := ⟨some 29, _, _, _, _, _⟩) rfl (by kernel_rfl) (by kernel_rfl) (by kernel_rfl) (by kernel_rfl) (by kernel_rfl) (fun _ _ _ h => h) (by rfl) (v := .int .i64 (by0 + (x.p.b.length : Int))) (fun w hSw => by go_simp; try exact HW1.out) hS ?_
    try go_frame
    refine pureY (i := 8) (oi := ⟨some 30, _, _, _, _, _⟩) rfl (by kernel_rfl) (by kernel_rfl) (by kernel_rfl) (by kernel_rfl) (by kernel_rfl) (fun _ _ _ h => h) (by rfl) (v := ?_) (fun w hSw => ?_) hS ?_
    rotate_left
    · go_simp; try with_reducible rfl
    try go_frame
    refine oneY (i := 9) (oi := ⟨some 31, _, _, _, _, _⟩) (by kernel_rfl) rfl (by rfl) (fun K hK => ?_)
    refine valI (v := ?_) ?_ ?_
    rotate_left
    · go_simp; try with_reducible rfl
    refine hK _ _ (fun h => absurd h (by decide)) ?_
    clear hK K
    try go_frame
    refine oneY (i := 10) (oi := ⟨none, _, _, _, _, _⟩) (by kernel_rfl) rfl (by rfl) (fun K hK => ?_)
    have kk := cells_at (i := 2) ((hS.block g hg2z).trans hg2) rfl
    have ff := heap_frozen ((hS.block g hg2z).trans hg2) 2
    refine store_intI rfl rfl rfl kk ff ?_
    have hg3 : (W2.drew.setCell ⟨g, 2, none⟩ (.int .i64 (by0 + (x.p.b.length : Int)))).heap[g]? = some (.cells #[.bool true, .slice A2 (n + 1) c2, .int .i64 (by0 + (x.p.b.length : Int)), .int .i64 far0, .bool end0] 133 (0, 0)) := heap_setCell_same _ g 2 _ _ (.int .i64 (by0 + (x.p.b.length : Int))) ((hS.block g hg2z).trans hg2)
    have hs3 := (hs2.below hS).set (i := 2) (u' := .int .i64 (by0 + (x.p.b.length : Int))) ((hS.block g hg2z).trans hg2)
    have K3 := (K2.then_below hS).trans (Kept.setCell W2.drew g 2 (.int .i64 (by0 + (x.p.b.length : Int)))) (fun _ _ h => .inl h)
    clear kk ff
    refine hK _ _ (fun h => absurd h (by decide)) ?_
    clear hK K
    generalize W2.drew.setCell ⟨g, 2, none⟩ (.int .i64 (by0 + (x.p.b.length : Int))) = W3 at *
    try go_frame
    try go_frame
    refine doneY (by kernel_rfl) ?_ _
    go_upto_region 4 with fail
    have hg3z := heap_lt hg3
    have hu3z := heap_lt hs3.box
    refine regionY 9 (fun w' => Below W3.heap.size W3 w') (by kernel_rfl) ?_
    have hS := (Below.refl W3.heap.size W3).drew
    refine pureY (i := 0) (oi := ⟨some 32, _, _, _, _, _⟩) rfl (by kernel_rfl) (by kernel_rfl) (by kernel_rfl) (by kernel_rfl) (by kernel_rfl) (fun _ _ _ h => h) (by rfl) (v := ?_) (fun w hSw => ?_) hS ?_
    rotate_left
    · go_simp; try with_reducible rfl
    try go_frame
    refine pureY (i := 1) (oi := ⟨some 33, _, _, _, _, _⟩) rfl (by kernel_rfl) (by kernel_rfl) (by kernel_rfl) (by kernel_rfl) (by kernel_rfl) (fun _ _ _ h => h) (by rfl) (v := ?_) (fun w hSw => ?_) hS ?_
    rotate_left
    · go_simp; try with_reducible rfl
    try go_frame
    refine pureY (i := 2) (oi := ⟨some 34, _, _, _, _, _⟩) rfl (by kernel_rfl) (by kernel_rfl) (by kernel_rfl) (by kernel_rfl) (by kernel_rfl) (fun _ _ _ h => h) (by rfl) (v := ?_) (fun w hSw => ?_) hS ?_
    rotate_left
    · go_simp; try with_reducible rfl
    try go_frame
    refine pureY (i := 3) (oi := ⟨some 35, _, _, _, _, _⟩) rfl (by kernel_rfl) (by kernel_rfl) (by kernel_rfl) (by kernel_rfl) (by kernel_rfl) (fun _ _ _ h => h) (by rfl) (v := ?_) (fun w hSw => ?_) hS ?_
    rotate_left
    · go_simp; try with_reducible rfl
    try go_frame
    refine pureY (i := 4) (oi := ⟨some 36, _, _, _, _, _⟩) rfl (by kernel_rfl) (by kernel_rfl) (by kernel_rfl) (by kernel_rfl) (by kernel_rfl) (fun _ _ _ h => h) (by rfl) (fun w hSw => run_load_int rfl rfl (cells_at (i := 3) ((hSw.block g hg3z).trans hg3) rfl)) hS ?_
    try go_frame
    refine pureY (i := 5) (oi := ⟨some 37, _, _, _, _, _⟩) rfl (by kernel_rfl) (by kernel_rfl) (by kernel_rfl) (by kernel_rfl) (by kernel_rfl) (fun _ _ _ h => h) (by rfl) (fun w hSw => run_load_hp rfl rfl (range_heap ((hSw.block u hu3z).trans hs3.box)) rfl) hS ?_
    try go_frame
    refine oneY (i := 6) (oi := ⟨some 38, _, _, _, _, _⟩) (by kernel_rfl) rfl (by rfl) (fun K hK => ?_)
    refine callI (f := 78) (args := #[.agg (clP x).toArray]) (by go_simp; try rfl) ?_
    refine (hcend x _ hx0 (by omega)).mono ?_
    rintro e w6 ⟨rfl, x6⟩
    have hS : Below W3.heap.size W3 w6 := (Below.refl W3.heap.size W3).drew.trans x6
    refine ⟨_, rfl, ?_⟩
    refine hK _ _ (fun _ => hS) ?_
    clear hK K
    try go_frame
    try go_frame
    refine pureY (i := 7) (oi := ⟨some 39, _, _, _, _, _⟩) rfl (by kernel_rfl) (by kernel_rfl) (by kernel_rfl) (by kernel_rfl) (by kernel_rfl) (fun _ _ _ h => h) (by rfl) (v := .int .i64 (max far0 x.p.stop)) (fun w hSw => by go_simp) hS ?_
    try go_frame
    refine pureY (i := 8) (oi := ⟨some 40, _, _, _, _, _⟩) rfl (by kernel_rfl) (by kernel_rfl) (by kernel_rfl) (by kernel_rfl) (by kernel_rfl) (fun _ _ _ h => h) (by rfl) (v := ?_) (fun w hSw => ?_) hS ?_
    rotate_left
    · go_simp; try with_reducible rfl
    try go_frame
    refine oneY (i := 9) (oi := ⟨some 41, _, _, _, _, _⟩) (by kernel_rfl) rfl (by rfl) (fun K hK => ?_)
    refine valI (v := ?_) ?_ ?_
    rotate_left
    · go_simp; try with_reducible rfl
    refine hK _ _ (fun h => absurd h (by decide)) ?_
    clear hK K
    try go_frame
    refine oneY (i := 10) (oi := ⟨none, _, _, _, _, _⟩) (by kernel_rfl) rfl (by rfl) (fun K hK => ?_)
    have kk := cells_at (i := 3) ((hS.block g hg3z).trans hg3) rfl
    have ff := heap_frozen ((hS.block g hg3z).trans hg3) 3
    refine store_intI rfl rfl rfl kk ff ?_
    have hg4 : (w6.setCell ⟨g, 3, none⟩ (.int .i64 (max far0 x.p.stop))).heap[g]? = some (.cells #[.bool true, .slice A2 (n + 1) c2, .int .i64 (by0 + (x.p.b.length : Int)), .int .i64 (max far0 x.p.stop), .bool end0] 133 (0, 0)) := heap_setCell_same _ g 3 _ _ (.int .i64 (max far0 x.p.stop)) ((hS.block g hg3z).trans hg3)
    have hs4 := (hs3.below hS).set (i := 3) (u' := .int .i64 (max far0 x.p.stop)) ((hS.block g hg3z).trans hg3)
    have K4 := (K3.then_below hS).trans (Kept.setCell w6 g 3 (.int .i64 (max far0 x.p.stop))) (fun _ _ h => .inl h)
    clear kk ff
    refine hK _ _ (fun h => absurd h (by decide)) ?_
    clear hK K
    generalize w6.setCell ⟨g, 3, none⟩ (.int .i64 (max far0 x.p.stop)) = W4 at *
    try go_frame
    try go_frame
    refine doneY (by kernel_rfl) ?_ _
    have kk4 : W4.cell? ⟨g, 4, none⟩ = some (.bool end0) := cells_at (i := 4) hg4 rfl
    have ff4 := heap_frozen hg4 4
    have kx4 : W4.cell? ⟨u, 1, none⟩ = some (.bool x.p.more) := cells_at (i := 1) hs4.box rfl
    have hKW : Kept (fun k => k = g ∨ (Value.slice A n c).ownBlock = some k) w W4 := (Kept.of_below (HBW.out.mono (Nat.le_of_eq HU.out))).trans K4 (fun _ _ h => h)
    rw [HX.out] at hs4
    cases end0 with
    | true =>
      go_wp2_with fail
      refine bodyPost_end (results_none rfl _ _ _) rfl ?_
      have hg5 := heap_setCell_same W4 g 4 _ _ (.bool true) hg4
      have hs5 := hs4.set (i := 4) (u' := .bool true) hg4
      have K5 := hKW.trans (Kept.setCell W4 g 4 (.bool true)) (fun _ _ h => .inl h)
      rw [HX.out] at hg5
      exact ⟨rfl, A2, c2, P1, p1, hg5, hs5.own, hs5.byt, K5, fun k e => by rw [HU.out]; exact HBL.out k e⟩
    | false =>
      cases hmo : x.p.more with
      | true =>
        rw [hmo] at kx4
        go_wp2_with fail
        refine bodyPost_end (results_none rfl _ _ _) rfl ?_
        have hg5 := heap_setCell_same W4 g 4 _ _ (.bool false) hg4
        have hs5 := hs4.set (i := 4) (u' := .bool false) hg4
        have K5 := hKW.trans (Kept.setCell W4 g 4 (.bool false)) (fun _ _ h => .inl h)
        rw [HX.out] at hg5 hmo
        have e9 : (false || !q.p.more) = false := by rw [show q.p.more = true from hmo]; rfl
        rw [e9]
        exact ⟨rfl, A2, c2, P1, p1, hg5, hs5.own, hs5.byt, K5, fun k e => by rw [HU.out]; exact HBL.out k e⟩
      | false =>
        rw [hmo] at kx4
        go_wp2_with fail
        refine bodyPost_end (results_none rfl _ _ _) rfl ?_
        have hg5 := heap_setCell_same W4 g 4 _ _ (.bool true) hg4
        have hs5 := hs4.set (i := 4) (u' := .bool true) hg4
        have K5 := hKW.trans (Kept.setCell W4 g 4 (.bool true)) (fun _ _ h => .inl h)
        rw [HX.out] at hg5 hmo
        have e9 : (false || !q.p.more) = true := by rw [show q.p.more = false from hmo]; rfl
        rw [e9]
        exact ⟨rfl, A2, c2, P1, p1, hg5, hs5.own, hs5.byt, K5, fun k e => by rw [HU.out]; exact HBL.out k e⟩
  · refine valGI (run_bshp (cs := (clP x).toArray) rfl rfl rfl) ?_
    have b10 := b0.alloc b0.size (.cells (clP x).toArray 128)
    have hv : (X0.alloc (.cells (clP x).toArray 128)).heap[X0.heap.size]? = some (.cells (clP x).toArray 128 (0, 0)) := World.alloc_heap_new _ _
    have hvW : W.heap.size ≤ X0.heap.size := b0.size
    have hS : Kept (fun k => (Value.slice A n c).ownBlock = some k) W (X0.alloc (.cells (clP x).toArray 128)) := Kept.of_below b10
    refine hK _ _ (fun _ => hS) ?_
    clear hK K
    generalize X0.alloc (.cells (clP x).toArray 128) = w10 at *
    obtain ⟨vb, hvb⟩ : ∃ vb, vb = X0.heap.size := ⟨_, rfl⟩
    rw [← hvb] at hv hvW ⊢
    clear hvb
    have hvz := heap_lt hv
    try go_frame
    refine oneY (i := 8) (oi := ⟨some 16, _, _, _, _, _⟩) (by kernel_rfl) rfl (by rfl) (fun K hK => ?_)
    refine callI (f := 103) (args := #[.pointer (some ⟨g, 0, none⟩), .int .i64 x.p.off]) (by go_simp; try rfl) ?_
    refine (hcplace g x.p.off A c L _ (HV.out.below b10)).mono ?_
    rintro e w8 ⟨rfl, x8⟩
    rw [← HM.out]
    have b8 := b10.trans (x8.mono b10.size)
    have hv8 := (x8.block vb hvz).trans hv
    have hS : Kept (fun k => (Value.slice A n c).ownBlock = some k) W w8 := Kept.of_below b8
    refine ⟨_, rfl, ?_⟩
    refine hK _ _ (fun _ => hS) ?_
    clear hK K
    try go_frame
    try go_frame
    refine oneY (i := 11) (oi := ⟨some 19, _, _, _, _, _⟩) (by kernel_rfl) rfl (by rfl) (fun K hK => ?_)
    refine callI (f := 105) (args := #[.slice A n c, .int .i64 m, .slice (some ⟨vb, 0, none⟩) 1 1]) (by go_simp; try rfl) ?_
    refine (hcinsert_n A c m vb n L x _ HN.out (own_below HO.out b8) HNI.out hm hn1 hv8 (fun e => by have := hrz vb e; omega)).mono ?_
    rintro e w11 ⟨A2, c2, rfl, own11, k11, bl11⟩
    have HBL : Hid (∀ k, (Value.slice A2 (n + 1) c2).ownBlock = some k → (Value.slice A n c).ownBlock = some k ∨ u ≤ k) := Lib.hid (fun k e9 => by
      rcases bl11 with h9 | h9
      · exact .inl (h9.symm.trans e9)
      · right
        have e8 := Option.some.inj (h9.symm.trans e9)
        have := b8.size
        omega)
    clear bl11
    have hK11 : Kept (fun k => (Value.slice A n c).ownBlock = some k) W w11 := (Kept.of_below b8).trans k11 (fun _ _ h => h)
    have hS := hK11
    refine ⟨_, rfl, ?_⟩
    refine hK _ _ (fun _ => hS) ?_
    clear hK K
    try go_frame
    try go_frame
    refine pureY (i := 12) (oi := ⟨some 20, _, _, _, _, _⟩) rfl (by kernel_rfl) (by kernel_rfl) (by kernel_rfl) (by kernel_rfl) (by kernel_rfl) (fun _ _ _ h => h) (by rfl) (v := ?_) (fun w hSw => ?_) hS ?_
    rotate_left
    · go_simp; try with_reducible rfl
    try go_frame
    refine oneY (i := 13) (oi := ⟨some 21, _, _, _, _, _⟩) (by kernel_rfl) rfl (by rfl) (fun K hK => ?_)
    refine valI (v := ?_) ?_ ?_
    rotate_left
    · go_simp; try with_reducible rfl
    refine hK _ _ (fun h => absurd h (by decide)) ?_
    clear hK K
    try go_frame
    refine oneY (i := 14) (oi := ⟨none, _, _, _, _, _⟩) (by kernel_rfl) rfl (by rfl) (fun K hK => ?_)
    have hg11 := (hK11.block g hgz hgr).trans hg
    have k14 := cells_at (i := 1) hg11 rfl
    have f14 := heap_frozen hg11 1
    refine store_hpsI rfl rfl rfl k14 f14 ?_
    have hg2 : (w11.setCell ⟨g, 1, none⟩ (.slice A2 (n + 1) c2)).heap[g]? = some (.cells #[.bool true, .slice A2 (n + 1) c2, .int .i64 by0, .int .i64 far0, .bool end0] 133 (0, 0)) := heap_setCell_same w11 g 1 _ _ (.slice A2 (n + 1) c2) hg11
    have hs11 : Ks w11 u x (.slice A2 (n + 1) c2) (n + 1) (putX L m x) (x :: L) := ⟨(hK11.block u huz hur).trans hu, own11, fun y hy => own_keptT (HB.out y hy) hK11 (fun k e => hrT k e)⟩
    have hs2 := hs11.set (i := 1) (u' := .slice A2 (n + 1) c2) hg11
    have K2 : Kept (fun k => k = g ∨ (Value.slice A n c).ownBlock = some k) W (w11.setCell ⟨g, 1, none⟩ (.slice A2 (n + 1) c2)) := (hK11.mono (fun _ _ h => .inr h)).trans (Kept.setCell w11 g 1 _) (fun _ _ h => .inl h)
    clear k14 f14 hg11 hs11
    refine hK _ _ (fun h => absurd h (by decide)) ?_
    clear hK K
    generalize w11.setCell ⟨g, 1, none⟩ (.slice A2 (n + 1) c2) = W2 at *
    try go_frame
    try go_frame
    refine doneY (by kernel_rfl) ?_ _
    clear b0 b8 b10 hv hvW hvz hgz huz hgr hur hrT hrz hS hK11 k11 own11 hu
    go_upto_region 3 with fail
    have hg2z := heap_lt hg2
    have hu2z := heap_lt hs2.box
    refine regionY 9 (fun w' => Below W2.heap.size W2 w') (by kernel_rfl) ?_
    have hS := (Below.refl W2.heap.size W2).drew
    refine pureY (i := 0) (oi := ⟨some 22, _, _, _, _, _⟩) rfl (by kernel_rfl) (by kernel_rfl) (by kernel_rfl) (by kernel_rfl) (by kernel_rfl) (fun _ _ _ h => h) (by rfl) (v := ?_) (fun w hSw => ?_) hS ?_
    rotate_left
    · go_simp; try with_reducible rfl
    try go_frame
    refine pureY (i := 1) (oi := ⟨some 23, _, _, _, _, _⟩) rfl (by kernel_rfl) (by kernel_rfl) (by kernel_rfl) (by kernel_rfl) (by kernel_rfl) (fun _ _ _ h => h) (by rfl) (v := ?_) (fun w hSw => ?_) hS ?_
    rotate_left
    · go_simp; try with_reducible rfl
    try go_frame
    refine pureY (i := 2) (oi := ⟨some 24, _, _, _, _, _⟩) rfl (by kernel_rfl) (by kernel_rfl) (by kernel_rfl) (by kernel_rfl) (by kernel_rfl) (fun _ _ _ h => h) (by rfl) (v := ?_) (fun w hSw => ?_) hS ?_
    rotate_left
    · go_simp; try with_reducible rfl
    try go_frame
    refine pureY (i := 3) (oi := ⟨some 25, _, _, _, _, _⟩) rfl (by kernel_rfl) (by kernel_rfl) (by kernel_rfl) (by kernel_rfl) (by kernel_rfl) (fun _ _ _ h => h) (by rfl) (fun w hSw => run_load_int rfl rfl (cells_at (i := 2) ((hSw.block g hg2z).trans hg2) rfl)) hS ?_
    try go_frame
    refine pureY (i := 4) (oi := ⟨some 26, _, _, _, _, _⟩) rfl (by kernel_rfl) (by kernel_rfl) (by kernel_rfl) (by kernel_rfl) (by kernel_rfl) (fun _ _ _ h => h) (by rfl) (v := ?_) (fun w hSw => ?_) hS ?_
    rotate_left
    · go_simp; try with_reducible rfl
    try go_frame
    refine pureY (i := 5) (oi := ⟨some 27, _, _, _, _, _⟩) rfl (by kernel_rfl) (by kernel_rfl) (by kernel_rfl) (by kernel_rfl) (by kernel_rfl) (fun _ _ _ h => h) (by rfl) (fun w hSw => run_load_sl rfl rfl (cells_at (i := 2) ((hSw.block u hu2z).trans hs2.box) rfl)) hS ?_
    try go_frame
    refine pureY (i := 6) (oi := ⟨some 28, _, _, _, _, _⟩) rfl (by kernel_rfl) (by kernel_rfl) (by kernel_rfl) (by kernel_rfl) (by kernel_rfl) (fun _ _ _ h => h) (by rfl) (v := ?_) (fun w hSw => ?_) hS ?_
    rotate_left
    · go_simp; try with_reducible rfl
    try go_frame
    refine pureY (i := 7) (oi := ⟨some 29, _, _, _, _, _⟩) rfl (by kernel_rfl) (by kernel_rfl) (by kernel_rfl) (by kernel_rfl) (by kernel_rfl) (fun _ _ _ h => h) (by rfl) (v := .int .i64 (by0 + (x.p.b.length : Int))) (fun w hSw => by go_simp; try exact HW1.out) hS ?_
    try go_frame
    refine pureY (i := 8) (oi := ⟨some 30, _, _, _, _, _⟩) rfl (by kernel_rfl) (by kernel_rfl) (by kernel_rfl) (by kernel_rfl) (by kernel_rfl) (fun _ _ _ h => h) (by rfl) (v := ?_) (fun w hSw => ?_) hS ?_
    rotate_left
    · go_simp; try with_reducible rfl
    try go_frame
    refine oneY (i := 9) (oi := ⟨some 31, _, _, _, _, _⟩) (by kernel_rfl) rfl (by rfl) (fun K hK => ?_)
    refine valI (v := ?_) ?_ ?_
    rotate_left
    · go_simp; try with_reducible rfl
    refine hK _ _ (fun h => absurd h (by decide)) ?_
    clear hK K
    try go_frame
    refine oneY (i := 10) (oi := ⟨none, _, _, _, _, _⟩) (by kernel_rfl) rfl (by rfl) (fun K hK => ?_)
    have kk := cells_at (i := 2) ((hS.block g hg2z).trans hg2) rfl
    have ff := heap_frozen ((hS.block g hg2z).trans hg2) 2
    refine store_intI rfl rfl rfl kk ff ?_
    have hg3 : (W2.drew.setCell ⟨g, 2, none⟩ (.int .i64 (by0 + (x.p.b.length : Int)))).heap[g]? = some (.cells #[.bool true, .slice A2 (n + 1) c2, .int .i64 (by0 + (x.p.b.length : Int)), .int .i64 far0, .bool end0] 133 (0, 0)) := heap_setCell_same _ g 2 _ _ (.int .i64 (by0 + (x.p.b.length : Int))) ((hS.block g hg2z).trans hg2)
    have hs3 := (hs2.below hS).set (i := 2) (u' := .int .i64 (by0 + (x.p.b.length : Int))) ((hS.block g hg2z).trans hg2)
    have K3 := (K2.then_below hS).trans (Kept.setCell W2.drew g 2 (.int .i64 (by0 + (x.p.b.length : Int)))) (fun _ _ h => .inl h)
    clear kk ff
    refine hK _ _ (fun h => absurd h (by decide)) ?_
    clear hK K
    generalize W2.drew.setCell ⟨g, 2, none⟩ (.int .i64 (by0 + (x.p.b.length : Int))) = W3 at *
    try go_frame
    try go_frame
    refine doneY (by kernel_rfl) ?_ _
    go_upto_region 4 with fail
    have hg3z := heap_lt hg3
    have hu3z := heap_lt hs3.box
    refine regionY 9 (fun w' => Below W3.heap.size W3 w') (by kernel_rfl) ?_
    have hS := (Below.refl W3.heap.size W3).drew
    refine pureY (i := 0) (oi := ⟨some 32, _, _, _, _, _⟩) rfl (by kernel_rfl) (by kernel_rfl) (by kernel_rfl) (by kernel_rfl) (by kernel_rfl) (fun _ _ _ h => h) (by rfl) (v := ?_) (fun w hSw => ?_) hS ?_
    rotate_left
    · go_simp; try with_reducible rfl
    try go_frame
    refine pureY (i := 1) (oi := ⟨some 33, _, _, _, _, _⟩) rfl (by kernel_rfl) (by kernel_rfl) (by kernel_rfl) (by kernel_rfl) (by kernel_rfl) (fun _ _ _ h => h) (by rfl) (v := ?_) (fun w hSw => ?_) hS ?_
    rotate_left
    · go_simp; try with_reducible rfl
    try go_frame
    refine pureY (i := 2) (oi := ⟨some 34, _, _, _, _, _⟩) rfl (by kernel_rfl) (by kernel_rfl) (by kernel_rfl) (by kernel_rfl) (by kernel_rfl) (fun _ _ _ h => h) (by rfl) (v := ?_) (fun w hSw => ?_) hS ?_
    rotate_left
    · go_simp; try with_reducible rfl
    try go_frame
    refine pureY (i := 3) (oi := ⟨some 35, _, _, _, _, _⟩) rfl (by kernel_rfl) (by kernel_rfl) (by kernel_rfl) (by kernel_rfl) (by kernel_rfl) (fun _ _ _ h => h) (by rfl) (v := ?_) (fun w hSw => ?_) hS ?_
    rotate_left
    · go_simp; try with_reducible rfl
    try go_frame
    refine pureY (i := 4) (oi := ⟨some 36, _, _, _, _, _⟩) rfl (by kernel_rfl) (by kernel_rfl) (by kernel_rfl) (by kernel_rfl) (by kernel_rfl) (fun _ _ _ h => h) (by rfl) (fun w hSw => run_load_int rfl rfl (cells_at (i := 3) ((hSw.block g hg3z).trans hg3) rfl)) hS ?_
    try go_frame
    refine pureY (i := 5) (oi := ⟨some 37, _, _, _, _, _⟩) rfl (by kernel_rfl) (by kernel_rfl) (by kernel_rfl) (by kernel_rfl) (by kernel_rfl) (fun _ _ _ h => h) (by rfl) (fun w hSw => run_load_hp rfl rfl (range_heap ((hSw.block u hu3z).trans hs3.box)) rfl) hS ?_
    try go_frame
    refine oneY (i := 6) (oi := ⟨some 38, _, _, _, _, _⟩) (by kernel_rfl) rfl (by rfl) (fun K hK => ?_)
    refine callI (f := 78) (args := #[.agg (clP x).toArray]) (by go_simp; try rfl) ?_
    refine (hcend x _ hx0 (by omega)).mono ?_
    rintro e w6 ⟨rfl, x6⟩
    have hS : Below W3.heap.size W3 w6 := (Below.refl W3.heap.size W3).drew.trans x6
    refine ⟨_, rfl, ?_⟩
    refine hK _ _ (fun _ => hS) ?_
    clear hK K
    try go_frame
    try go_frame
    refine pureY (i := 7) (oi := ⟨some 39, _, _, _, _, _⟩) rfl (by kernel_rfl) (by kernel_rfl) (by kernel_rfl) (by kernel_rfl) (by kernel_rfl) (fun _ _ _ h => h) (by rfl) (v := .int .i64 (max far0 x.p.stop)) (fun w hSw => by go_simp) hS ?_
    try go_frame
    refine pureY (i := 8) (oi := ⟨some 40, _, _, _, _, _⟩) rfl (by kernel_rfl) (by kernel_rfl) (by kernel_rfl) (by kernel_rfl) (by kernel_rfl) (fun _ _ _ h => h) (by rfl) (v := ?_) (fun w hSw => ?_) hS ?_
    rotate_left
    · go_simp; try with_reducible rfl
    try go_frame
    refine oneY (i := 9) (oi := ⟨some 41, _, _, _, _, _⟩) (by kernel_rfl) rfl (by rfl) (fun K hK => ?_)
    refine valI (v := ?_) ?_ ?_
    rotate_left
    · go_simp; try with_reducible rfl
    refine hK _ _ (fun h => absurd h (by decide)) ?_
    clear hK K
    try go_frame
    refine oneY (i := 10) (oi := ⟨none, _, _, _, _, _⟩) (by kernel_rfl) rfl (by rfl) (fun K hK => ?_)
    have kk := cells_at (i := 3) ((hS.block g hg3z).trans hg3) rfl
    have ff := heap_frozen ((hS.block g hg3z).trans hg3) 3
    refine store_intI rfl rfl rfl kk ff ?_
    have hg4 : (w6.setCell ⟨g, 3, none⟩ (.int .i64 (max far0 x.p.stop))).heap[g]? = some (.cells #[.bool true, .slice A2 (n + 1) c2, .int .i64 (by0 + (x.p.b.length : Int)), .int .i64 (max far0 x.p.stop), .bool end0] 133 (0, 0)) := heap_setCell_same _ g 3 _ _ (.int .i64 (max far0 x.p.stop)) ((hS.block g hg3z).trans hg3)
    have hs4 := (hs3.below hS).set (i := 3) (u' := .int .i64 (max far0 x.p.stop)) ((hS.block g hg3z).trans hg3)
    have K4 := (K3.then_below hS).trans (Kept.setCell w6 g 3 (.int .i64 (max far0 x.p.stop))) (fun _ _ h => .inl h)
    clear kk ff
    refine hK _ _ (fun h => absurd h (by decide)) ?_
    clear hK K
    generalize w6.setCell ⟨g, 3, none⟩ (.int .i64 (max far0 x.p.stop)) = W4 at *
    try go_frame
    try go_frame
    refine doneY (by kernel_rfl) ?_ _
    have kk4 : W4.cell? ⟨g, 4, none⟩ = some (.bool end0) := cells_at (i := 4) hg4 rfl
    have ff4 := heap_frozen hg4 4
    have kx4 : W4.cell? ⟨u, 1, none⟩ = some (.bool x.p.more) := cells_at (i := 1) hs4.box rfl
    have hKW : Kept (fun k => k = g ∨ (Value.slice A n c).ownBlock = some k) w W4 := (Kept.of_below (HBW.out.mono (Nat.le_of_eq HU.out))).trans K4 (fun _ _ h => h)
    rw [HX.out] at hs4
    cases end0 with
    | true =>
      go_wp2_with fail
      refine bodyPost_end (results_none rfl _ _ _) rfl ?_
      have hg5 := heap_setCell_same W4 g 4 _ _ (.bool true) hg4
      have hs5 := hs4.set (i := 4) (u' := .bool true) hg4
      have K5 := hKW.trans (Kept.setCell W4 g 4 (.bool true)) (fun _ _ h => .inl h)
      rw [HX.out] at hg5
      exact ⟨rfl, A2, c2, P1, p1, hg5, hs5.own, hs5.byt, K5, fun k e => by rw [HU.out]; exact HBL.out k e⟩
    | false =>
      cases hmo : x.p.more with
      | true =>
        rw [hmo] at kx4
        go_wp2_with fail
        refine bodyPost_end (results_none rfl _ _ _) rfl ?_
        have hg5 := heap_setCell_same W4 g 4 _ _ (.bool false) hg4
        have hs5 := hs4.set (i := 4) (u' := .bool false) hg4
        have K5 := hKW.trans (Kept.setCell W4 g 4 (.bool false)) (fun _ _ h => .inl h)
        rw [HX.out] at hg5 hmo
        have e9 : (false || !q.p.more) = false := by rw [show q.p.more = true from hmo]; rfl
        rw [e9]
        exact ⟨rfl, A2, c2, P1, p1, hg5, hs5.own, hs5.byt, K5, fun k e => by rw [HU.out]; exact HBL.out k e⟩
      | false =>
        rw [hmo] at kx4
        go_wp2_with fail
        refine bodyPost_end (results_none rfl _ _ _) rfl ?_
        have hg5 := heap_setCell_same W4 g 4 _ _ (.bool true) hg4
        have hs5 := hs4.set (i := 4) (u' := .bool true) hg4
        have K5 := hKW.trans (Kept.setCell W4 g 4 (.bool true)) (fun _ _ h => .inl h)
        rw [HX.out] at hg5 hmo
        have e9 : (false || !q.p.more) = true := by rw [show q.p.more = false from hmo]; rfl
        rw [e9]
        exact ⟨rfl, A2, c2, P1, p1, hg5, hs5.own, hs5.byt, K5, fun k e => by rw [HU.out]; exact HBL.out k e⟩
end Go.Proofs.Ytghbliabmecbcaa

/-
  Contracts of New, Bytes, Room and Add of layer 15's code. Conditions are each theorem's own.
-/
namespace Go.Proofs.Ytghbliabmecbcaa
open Go.RowKit Go.Shelf
/-- At block g lies what the code of layer 15 keeps, and owns. -/
structure Hx (w : World) (g : Nat) (A : Option Addr) (c : Nat) (L : List XP) : Prop where
  obj : w.heap[g]? = some (.cells #[.bool true, .slice A L.length c, .int .i64 (bytesP (piE L)), .int .i64 (farP (piE L)), .bool (endedP (piE L))] 133 (0, 0))
  own : w.ownsRow 0 128 3 (.slice A L.length c) L.length (L.flatMap clP)
  nil_ : Value.slice A L.length c = .slice none 0 0 ∨ 0 < L.length
  byt : ∀ y ∈ L, w.ownsRow 0 5 1 (.slice y.A y.p.b.length y.c) y.p.b.length (row y.p.b)
  ris : Ris (piE L)
  n : L.length ≤ 100000
theorem Hx.view {w : World} {g : Nat} {A : Option Addr} {c : Nat} {L : List XP} (h : Hx w g A c L) : Hv w g A c L := by
  obtain ⟨A', c', e, hr, hc⟩ := own_rds h.own rfl rfl (fun _ _ => rfl)
  injection e with e1 e2 e3
  subst e1; subst e3
  refine ⟨cells_at h.obj rfl, cells_at h.obj rfl, cells_at h.obj rfl, cells_at h.obj rfl, cells_at h.obj rfl, hr, fun x hx => arg_own (h.byt x hx), hc, fun e => ?_, h.ris, h.n⟩
  subst e
  rcases h.own.2 with ⟨e, _⟩ | ⟨g', cap, cur, e, _⟩
  · injection e with _ _ e3
  · injection e with e1; cases e1
theorem Hx.below {w w' : World} {g : Nat} {A : Option Addr} {c : Nat} {L : List XP} (h : Hx w g A c L) (hb : Below w.heap.size w w') : Hx w' g A c L :=
  ⟨(hb.block g (heap_lt h.obj)).trans h.obj, own_below h.own hb, h.nil_, fun y hy => own_below (h.byt y hy) hb, h.ris, h.n⟩
theorem hcmade1 (g : Nat) (w : World) (h : w.cell? ⟨g, 0, none⟩ = some (.bool true)) : Calls Try.prog 71 #[.pointer (some ⟨g, 0, none⟩)] w fun e w' => e = .returned (.bool true) ∧ w = w' := (hcmade g w h).mono fun _ _ h => ⟨h.1, h.2.symm⟩
theorem hccheck1 (a n : Int) (m : Bool) (w : World) (h0 : 0 ≤ n) (h1 : n ≤ 1000000) (ha : -9223372036854775808 ≤ a ∧ a ≤ 9223372036854775807) :
    Calls Try.prog 75 #[.int .i64 a, .bool m, .int .i64 n] w fun e w' =>
      e = .returned (.int .i64 (if a < 0 ∨ (m = true ∧ (n = 0 ∨ n % 8 ≠ 0)) then 4 else if a > 65535 - n then 6 else 0)) ∧ w = w' := (hccheck a n m w h0 h1 ha).mono fun _ _ h => ⟨h.1, h.2.symm⟩
theorem hcnew (w : World) : Calls Try.prog 70 #[] w fun e w' => e = .returned (.pointer (some ⟨w.heap.size, 0, none⟩)) ∧ Hx w' w.heap.size none 0 [] ∧ Below w.heap.size w w' ∧ w'.heap.size = w.heap.size + 1 := by
  go_enter Try.func70, Try.ntmps70
  go_wp2
  go_ret
  exact ⟨rfl, ⟨World.alloc_heap_new w _, World.ownsRow_nil _ _ _ _, .inl rfl, fun y h => (by cases h), Ris.nil, by simp⟩, (Below.refl _ w).alloc (Nat.le_refl _) _, by simp⟩
theorem hcbytes (g : Nat) (A : Option Addr) (c : Nat) (L : List XP) (w : World) (h : Hx w g A c L) :
    Calls Try.prog 67 #[.pointer (some ⟨g, 0, none⟩)] w fun e w' => e = .returned (.int .i64 (bytesP (piE L))) ∧ w = w' := by
  have hm := h.view.made
  have hb := h.view.bytes
  clear h
  go_enter Try.func67, Try.ntmps67
  go_wp2_with (go_at_call 71; refine (hcmade1 g _ hm).mono ?_; rintro e w1 ⟨rfl, rfl⟩)
  go_ret
  exact ⟨rfl, rfl⟩
theorem nearX_le (L : List XP) (off : Int) {n : Nat} (hn : n = L.length) (h : n ≤ 100000) : (nearX L off).length ≤ 100000 := by
  rw [nearX_len]; omega
theorem nearX_any (L : List XP) (off : Int) (f : Pc → Bool) : (nearX L off).any (fun y => f y.p) = (nearP (piE L) off).any f := by
  rw [← nearX_p, piE, List.any_map]; rfl
theorem putX_len {L : List XP} {n : Nat} (hn : n = L.length) (a : Int) (x : XP) : (putX L (atP (piE L) a) x).length = n + 1 := by
  have := atP_le (piE L) a
  have hl : (piE L).length = L.length := by simp [piE]
  simp [putX]; omega
theorem putX_pure (L : List XP) (a : Int) (x : XP) (hx : x.p.off = a := by rfl) : piE (putX L (atP (piE L) a) x) = putP (piE L) x.p := by
  subst hx
  simp only [putX, putP, piE, List.map_append, List.map_cons, List.map_take, List.map_drop]
theorem hp_store_new {ops : Array Oper} {rest : List Oper} {x y : Operand} {ty : TypeId} {pos : String} {af : Array Edge} {a : Act} {w : World} {Q : Exit → Act → World → Prop}
    {t : TypeId} {cs old : Array Value} (hx : a.eval x = .pointer (some ⟨w.heap.size, 0, none⟩)) (hy : a.eval y = .agg cs) (ho : old.size = 3) (hl : cs.size = 3) (h1 : cs.all (·.oneCell') = true)
    (h : wpList Try.prog ops Q rest (a.put none undef) (w.alloc (.cells cs t))) : wpList Try.prog ops Q (⟨none, .store 128 x y, ty, pos, af, none⟩ :: rest) a (w.alloc (.cells old t)) :=
  wpList_plain rfl fun _ hK => wp_store_row 128 x y rfl w.heap.size cs hx hy t old (World.alloc_heap_new w _) (by rw [hl]; kernel_rfl) (by rw [ho, hl]) h1 (by rw [World.setRow_alloc_new]; exact hK _ _ h)
theorem hx_put {L : List XP} {n : Nat} {a : Int} {m : Bool} {b : List UInt8} {P : Option Addr} {p : Nat} {g : Nat} {A2 : Option Addr} {c2 : Nat} {w : World} (hr : Ris (piE L)) (hn : n = L.length) (hb2 : n + 1 ≤ 100000)
    (hbad : ¬ badP ⟨a, m, b⟩) (hlong : ¬ a > 65535 - (b.length : Int)) (h1 : (nearP (piE L) a).any (fun x => decide (x = ⟨a, m, b⟩)) = false) (h2 : (nearP (piE L) a).any (meetsP ⟨a, m, b⟩) = false)
    (hl : ¬ ((endedP (piE L) = true ∧ (m = false ∨ (Pc.mk a m b).stop > farP (piE L))) ∨ (m = false ∧ (Pc.mk a m b).stop < farP (piE L))))
    (hg : w.heap[g]? = some (.cells #[.bool true, .slice A2 (n + 1) c2, .int .i64 (bytesP (piE L) + (Pc.mk a m b).len), .int .i64 (max (farP (piE L)) (Pc.mk a m b).stop), .bool (endedP (piE L) || !m)] 133 (0, 0)))
    (ho : w.ownsRow 0 128 3 (.slice A2 (n + 1) c2) (n + 1) ((putX L (atP (piE L) a) ⟨⟨a, m, b⟩, P, p⟩).flatMap clP))
    (hy : ∀ y ∈ XP.mk ⟨a, m, b⟩ P p :: L, w.ownsRow 0 5 1 (.slice y.A y.p.b.length y.c) y.p.b.length (row y.p.b)) (_hn1 : n ≤ 100000) : Hx w g A2 c2 (putX L (atP (piE L) a) ⟨⟨a, m, b⟩, P, p⟩) := by
  have e1 := putX_pure L a ⟨⟨a, m, b⟩, P, p⟩
  have e2 := putX_len hn a ⟨⟨a, m, b⟩, P, p⟩
  have hp := putP_perm (piE L) ⟨a, m, b⟩
  have hnot : ¬ Pc.mk a m b ∈ piE L := fun h => by
    have h3 := near_same hr (Pc.mk a m b) (fun x => decide (x = ⟨a, m, b⟩)) (fun x _ g => by rw [of_decide_eq_true g])
    rw [show (Pc.mk a m b).off = a from rfl, h1] at h3
    have := List.any_eq_false.1 h3.symm _ h
    simp at this
  have hs : ¬ sharesP (piE L) ⟨a, m, b⟩ = true := by
    rw [shares_meets hr hbad hnot, ← near_meets hr ⟨a, m, b⟩]
    show ¬ (nearP (piE L) a).any (meetsP ⟨a, m, b⟩) = true
    rw [h2]; decide
  refine ⟨?_, by rw [e2]; exact ho, .inr (by omega), fun y h => hy y ?_, ?_, by omega⟩
  · rw [e1, e2, bytesP_perm hp, farP_perm hp, show endedP (putP (piE L) ⟨a, m, b⟩) = endedP (piE L ++ [⟨a, m, b⟩]) from any_perm hp _]
    have b1 : ∀ (l : List Pc) (q : Pc), bytesP (l ++ [q]) = bytesP l + q.len := fun l q => by
      induction l with
      | nil => simp [bytesP]
      | cons x l ih => rw [List.cons_append, bytesP, bytesP, ih]; omega
    have f1 : ∀ (l : List Pc) (q : Pc), 0 ≤ q.stop → farP (l ++ [q]) = max (farP l) q.stop := fun l q h0 => by
      induction l with
      | nil => simp [farP]; omega
      | cons x l ih => rw [List.cons_append, farP, farP, ih]; omega
    have hst : 0 ≤ (Pc.mk a m b).stop := by
      have h0 : ¬ a < 0 := fun h => hbad (.inl h)
      have h5 : (Pc.mk a m b).stop = a + (b.length : Int) := rfl
      omega
    rw [b1, f1 _ _ hst]
    have e3 : endedP (piE L ++ [⟨a, m, b⟩]) = (endedP (piE L) || !m) := by simp [endedP]
    rw [e3]; exact hg
  · rcases List.mem_append.1 h with h | h
    · exact List.mem_cons_of_mem _ (List.mem_of_mem_take h)
    · rcases List.mem_cons.1 h with rfl | h
      · exact List.mem_cons_self ..
      · exact List.mem_cons_of_mem _ (List.mem_of_mem_drop h)
  · rw [e1]; exact ris_put hr hbad hlong hs (fun h => hl ((ris_late hr _).1 h))
theorem eg45 : ∀ args w, (callFunc 76 args).run Try.prog w = .ok (.enter 76 args) w := enters_of Try.func76 (by kernel_rfl) rfl
theorem eg46 : ∀ args w, (callFunc 77 args).run Try.prog w = .ok (.enter 77 args) w := enters_of Try.func77 (by kernel_rfl) rfl
theorem eg42 : ∀ args w, (callFunc 74 args).run Try.prog w = .ok (.enter 74 args) w := enters_of Try.func74 (by kernel_rfl) rfl
set_option maxRecDepth 100000 in
set_option maxHeartbeats 1000000 in
theorem hcroom (g : Nat) (A : Option Addr) (c : Nat) (L : List XP) (a : Int) (A' : Option Addr) (b : List UInt8) (c' : Nat) (w : World) (h : Hx w g A c L) (hA' : Arg w w.heap.size A' c' b) :
    Calls Try.prog 41 #[.pointer (some ⟨g, 0, none⟩), .int .i64 a, .slice A' b.length c'] w fun e w' => e = .returned (.int .i64 (if (nearP (piE L) a).any (alikeP ⟨a, false, b⟩) then 0 else (b.length : Int))) ∧ Below w.heap.size w w' := by
  have HV := Lib.hid h.view
  have hA := Lib.hid hA'
  obtain ⟨xp, hxp⟩ : ∃ xp, xp = XP.mk ⟨a, false, b⟩ A' c' := ⟨_, rfl⟩
  have HP : Hid (∀ (V : World) (y : XP), y ∈ L → Below w.heap.size w V → Calls Try.prog 74 #[.agg (clP xp).toArray, .agg (clP y).toArray] V fun e w' => e = .returned (.bool (alikeP xp.p y.p)) ∧ Below V.heap.size V w') := Lib.hid (fun V y hy hV =>
    hcalike xp y w.heap.size w.heap.size V (by rw [hxp]; exact (hA.out.rd).below hV) ((HV.out.arg y hy).rd.below hV) hV.size hV.size)
  have e1 : (nearX L a).any (fun y => alikeP xp.p y.p) = (nearP (piE L) a).any (alikeP ⟨a, false, b⟩) := by rw [hxp]; exact nearX_any L a _
  have hn1 := h.n
  obtain ⟨R, hR⟩ : ∃ R, R = (nearP (piE L) a).any (alikeP ⟨a, false, b⟩) := ⟨_, rfl⟩
  rw [← hR]
  rw [← hR] at e1
  have E1 := Lib.hid e1
  have hcl : (Value.agg #[.int .i64 a, .bool false, .slice A' b.length c']) = .agg (clP xp).toArray := by rw [hxp]; rfl
  have HCL := Lib.hid hcl
  clear h hA' hxp e1 hR hcl
  go_enter Try.func41, Try.ntmps41
  cases R with
  | true =>
    go_wp2_with (first
      | (go_at_call 72; rw [HCL.out]; refine (hccontains 74 (.agg (clP xp).toArray) (fun y => alikeP xp.p y.p) A1 c1 (nearX L a) w.heap.size w2 eg42 RD1.out x2.size (nearX_le _ _ rfl hn1) (fun V y hy hV => (HP.out V y (nearX_sub y hy) (x2.trans (hV.mono x2.size))).mono fun e w' h9 => ⟨h9.1, hV.trans (h9.2.mono hV.size)⟩)).mono ?_; rintro e w3 ⟨rfl, x3⟩; rw [E1.out])
      | (go_at_call 73; refine (hcnear g a A c L _ HV.out).mono ?_; rintro e w2 ⟨⟨A1, c1, rfl, rd1⟩, x2⟩; have RD1 := Lib.hid rd1; clear rd1)
      | (go_at_call 71; refine (hcmade1 g _ HV.out.made).mono ?_; rintro e w1 ⟨rfl, rfl⟩))
    go_ret
    exact ⟨rfl, x2.trans (x3.mono x2.size)⟩
  | false =>
    go_wp2_with (first
      | (go_at_call 72; rw [HCL.out]; refine (hccontains 74 (.agg (clP xp).toArray) (fun y => alikeP xp.p y.p) A1 c1 (nearX L a) w.heap.size w2 eg42 RD1.out x2.size (nearX_le _ _ rfl hn1) (fun V y hy hV => (HP.out V y (nearX_sub y hy) (x2.trans (hV.mono x2.size))).mono fun e w' h9 => ⟨h9.1, hV.trans (h9.2.mono hV.size)⟩)).mono ?_; rintro e w3 ⟨rfl, x3⟩; rw [E1.out])
      | (go_at_call 73; refine (hcnear g a A c L _ HV.out).mono ?_; rintro e w2 ⟨⟨A1, c1, rfl, rd1⟩, x2⟩; have RD1 := Lib.hid rd1; clear rd1)
      | (go_at_call 71; refine (hcmade1 g _ HV.out.made).mono ?_; rintro e w1 ⟨rfl, rfl⟩))
    go_ret
    exact ⟨rfl, x2.trans (x3.mono x2.size)⟩
end Go.Proofs.Ytghbliabmecbcaa
