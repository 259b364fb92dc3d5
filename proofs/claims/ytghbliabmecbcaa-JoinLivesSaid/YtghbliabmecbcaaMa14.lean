/-
  Contracts and lemmas on which the proofs of this seat stand (several texts in one). Conditions are each theorem's own.
-/
import Derived.Test.YtghbliabmecbcaaMa13

/-
  The document's table of layer 16: one cell of one buffer changed. Conditions are each theorem's own.
-/
namespace Go.Proofs.Ytghbliabmecbcaa
open Go.RowKit Go.Shelf
section
variable {w w' : World} {g b : Nat} {v u : Value} {t : List XB} {most mb wait : Int}
theorem own_setn {base n c i e sz : Nat} {xs : List Value} (h : w.ownsRow base e sz (.slice (some ⟨g, 0, none⟩) n c) n xs) :
    (w.setCell ⟨g, i, none⟩ u).ownsRow base e sz (.slice (some ⟨g, 0, none⟩) n c) n (xs.set i u) := by
  rcases h.2 with ⟨h0, _⟩ | ⟨k, cap, cur, hv, hb, hh, hle, hm, hs, ht⟩
  · cases h0
  · cases hv
    refine ⟨by rw [List.length_set]; exact h.1, .inr ⟨g, c, cur.setIfInBounds i u, rfl, hb, heap_set hh i _, hle, hm, by simp [hs], ?_⟩⟩
    rw [Array.toList_setIfInBounds, List.take_set, ht]
theorem flatB_set {i : Nat} (hi : i < 5) : ∀ (t : List XB) (k : Nat) (x x' : XB), t[k]? = some x → clB x' = (clB x).set i u → (t.set k x').flatMap clB = (t.flatMap clB).set (k * 5 + i) u
  | [], k, x, x', hx, _ => by simp at hx
  | y :: t, 0, x, x', hx, hc => by
    simp only [List.getElem?_cons_zero, Option.some.injEq] at hx
    subst hx
    rw [List.set_cons_zero, List.flatMap_cons, List.flatMap_cons, Nat.zero_mul, Nat.zero_add, List.set_append_left _ _ (by rw [clB_len]; exact hi), hc]
  | y :: t, k + 1, x, x', hx, hc => by
    rw [List.set_cons_succ, List.flatMap_cons, List.flatMap_cons, List.set_append_right _ _ (by rw [clB_len]; omega), clB_len, show (k + 1) * 5 + i - 5 = k * 5 + i from by omega]
    rw [flatB_set hi t k x x' (by simpa using hx) hc]
theorem own_setO {e sz base n i : Nat} {cur : Array Value} {xs : List Value} (hb : w.heap[b]? = some (.cells cur 82 (0, 0))) (h : w.ownsRow base e sz v n xs) (hne : e ≠ 82) : (w.setCell ⟨b, i, none⟩ u).ownsRow base e sz v n xs := by
  refine ⟨h.1, ?_⟩
  rcases h.2 with hn | ⟨k, cap, cur', hv, hk, hh, rest⟩
  · exact .inl hn
  · refine .inr ⟨k, cap, cur', hv, hk, (heap_setCell_other w ⟨b, i, none⟩ k u (fun e1 => ?_)).trans hh, rest⟩
    have e1 : k = b := by first | exact e1 | exact e1.symm
    rw [e1, hb] at hh
    injection hh with hh
    injection hh with _ e2 _
    exact hne e2.symm
theorem neP : 142 ≠ 82 ∧ 5 ≠ 82 := ⟨nat_ne (by kernel_rfl), nat_ne (by kernel_rfl)⟩
theorem XO.setO {i : Nat} {cur : Array Value} {x : XB} (h : XO w x) (hb : w.heap[b]? = some (.cells cur 82 (0, 0))) : XO (w.setCell ⟨b, i, none⟩ u) x :=
  ⟨own_setO hb h.own neP.1, fun y hy => own_setO hb (h.byt y hy) neP.2, h.ok, h.n⟩
theorem Rj.row {n c k : Nat} {x : XB} (h : Rj w g (.slice (some ⟨b, 0, none⟩) n c) t most mb wait) (hx : t[k]? = some x) : ∃ cur, w.heap[b]? = some (.cells cur 82 (0, 0)) := by
  have hk := (List.getElem?_eq_some_iff.1 hx).1
  rcases h.own.2 with ⟨e, _⟩ | ⟨b', cap, cur, hv, _, hh, _⟩
  · injection e with e; cases e
  · injection hv with e1
    injection e1 with e1
    injection e1 with e1 _ _
    subst e1
    exact ⟨cur, hh⟩
theorem Rj.cell {n c k i : Nat} {x x' : XB} (h : Rj w g (.slice (some ⟨b, 0, none⟩) n c) t most mb wait) (hn : n = t.length) (hx : t[k]? = some x) (hi : i < 5) (hc : clB x' = (clB x).set i u) (hX : XO w x') :
    Rj (w.setCell ⟨b, k * 5 + i, none⟩ u) g (.slice (some ⟨b, 0, none⟩) n c) (t.set k x') most mb wait := by
  obtain ⟨cur, hb⟩ := h.row hx
  have hgb : g ≠ b := fun e => by
    have h1 := h.tab
    rw [e, hb] at h1
    injection h1 with h1
    injection h1 with _ e2 _
    exact neB.1 e2
  refine ⟨(heap_setCell_other w ⟨b, k * 5 + i, none⟩ g u (by first | exact hgb | exact hgb.symm)).trans h.tab, ?_, fun y hy => ?_, by rw [List.length_set]; exact h.n⟩
  · have h1 := h.own
    subst hn
    rw [List.length_set, flatB_set hi t k x x' hx hc]
    exact own_setn h1
  · rcases List.mem_or_eq_of_mem_set hy with h1 | h1
    · exact (h.parts y h1).setO hb
    · subst h1; exact hX.setO hb
end
end Go.Proofs.Ytghbliabmecbcaa

/-
  The parts of one buffer of the document's table of layer 16, where they lie in the row: Room, Add, Done. Conditions are each theorem's own.
-/
namespace Go.Proofs.Ytghbliabmecbcaa
open Go.RowKit Go.Shelf
section
variable {w w' : World} {g b n c k : Nat} {t : List XB} {x : XB} {most mb wait : Int}
theorem Rj.ho (h : Rj w g (.slice (some ⟨b, 0, none⟩) n c) t most mb wait) (hx : t[k]? = some x) : Ho w w.heap.size b (k * 5 + 2) x.A x.c x.l := by
  obtain ⟨b', e, hr⟩ := h.at_ hx
  injection e with e
  injection e with e _ _
  subst e
  obtain ⟨cur, hb⟩ := h.row hx
  have ho := (h.parts x (List.mem_of_getElem? hx)).okX
  exact ⟨hr 2 _ rfl, heap_lt hb, ho.cap, ho.rd, ho.arg, ho.ok, by have := ho.n; omega, ho.none_⟩
theorem r16room (h : Rj w g (.slice (some ⟨b, 0, none⟩) n c) t most mb wait) (hx : t[k]? = some x) (a : Int) (A' : Option Addr) (s : List UInt8) (c' : Nat) (hA' : Rd w w.heap.size A' s) :
    Calls Try.prog 46 #[.pointer (some ⟨b, k * 5 + 2, none⟩), .int .i64 a, .slice A' s.length c'] w fun e w' => e = .returned (.int .i64 (roomP (piE x.l) a s)) ∧ Below w.heap.size w w' :=
  r15room x.A x.c x.l w.heap.size b (k * 5 + 2) a A' s c' w (h.ho hx) (Nat.le_refl _) hA'
theorem r16done (h : Rj w g (.slice (some ⟨b, 0, none⟩) n c) t most mb wait) (hx : t[k]? = some x) (hwf : wfP (piE x.l)) :
    Calls Try.prog 49 #[.pointer (some ⟨b, k * 5 + 2, none⟩)] w fun e w' => ∃ v, e = .returned (.tuple #[v, .bool (doneB (piE x.l))]) ∧ Made w w' v (doneP (piE x.l)) :=
  r15done x.A x.c x.l w.heap.size b (k * 5 + 2) w (h.ho hx) (Nat.le_refl _) hwf
theorem set_self {k : Nat} {x : XB} (hx : t[k]? = some x) : t.set k x = t := by
  obtain ⟨hk, rfl⟩ := List.getElem?_eq_some_iff.1 hx
  exact List.set_getElem_self hk
/-- What a part that is added leaves. -/
theorem r16part (h : Rj w g (.slice (some ⟨b, 0, none⟩) n c) t most mb wait) (hn : n = t.length) (hx : t[k]? = some x) (a : Int) (m : Bool) (A' : Option Addr) (s : List UInt8) (c' : Nat) (hA' : Arg w w.heap.size A' c' s) (hsl : s.length ≤ 1000000)
    (ha : -9223372036854775808 ≤ a ∧ a ≤ 9223372036854775807) (hxn : x.l.length + 1 ≤ 1000) :
    Calls Try.prog 48 #[.pointer (some ⟨b, k * 5 + 2, none⟩), .int .i64 a, .bool m, .slice A' s.length c'] w fun e w' => e = .returned (.int .i64 (addE (piE x.l) ⟨a, m, s⟩)) ∧
      ∃ x1, Rj w' g (.slice (some ⟨b, 0, none⟩) n c) (t.set k x1) most mb wait ∧ bfE x1 = { bfE x with l := addL (piE x.l) ⟨a, m, s⟩ } ∧ x1.l.length ≤ x.l.length + 1 ∧ Kept (fun k => k = b) w w' := by
  obtain ⟨cur, hb⟩ := h.row hx
  have hXO := h.parts x (List.mem_of_getElem? hx)
  refine (r15add x.A x.c x.l w.heap.size b (k * 5 + 2) cur _ a m A' s c' w (h.ho hx) (Nat.le_refl _) hb hA' hsl ha).mono ?_
  rintro e w' ⟨rfl, ⟨hbl, hl⟩ | ⟨hl, w1, P, p, A3, c3, hbl, rfl, o1, o2⟩⟩
  · refine ⟨rfl, x, ?_, by rw [hl]; rfl, Nat.le_succ _, Kept.of_below hbl⟩
    rw [set_self hx]; exact h.below hbl
  · have hlen : (x.l ++ [XP.mk ⟨a, m, s⟩ A3 c3]).length = x.l.length + 1 := by simp
    have hok : okP ⟨a, m, s⟩ := by
      rcases addL_cases (piE x.l) ⟨a, m, s⟩ with e | ⟨_, _, h1, h2, _, _⟩
      · rw [e] at hl
        have := congrArg List.length hl
        simp at this
      · have h3 : ¬ a < 0 := fun h => h1 (.inl h)
        have h4 : ¬ a > 65535 - (s.length : Int) := h2
        have h5 : (Pc.mk a m s).stop = a + (s.length : Int) := rfl
        exact ⟨by show 0 ≤ a; omega, by rw [h5]; omega⟩
    have hw1 := h.below hbl
    have hx1 : XO w1 { x with A := P, c := p, l := x.l ++ [XP.mk ⟨a, m, s⟩ A3 c3] } := by
      have hX1 := hXO.below hbl
      refine ⟨?_, fun y hy => ?_, fun y hy => ?_, by show (x.l ++ [XP.mk ⟨a, m, s⟩ A3 c3]).length ≤ 1000; rw [hlen]; exact hxn⟩
      · show w1.ownsRow 0 _ 3 (.slice P (x.l ++ [XP.mk ⟨a, m, s⟩ A3 c3]).length p) (x.l ++ [XP.mk ⟨a, m, s⟩ A3 c3]).length _
        rw [hlen]; exact own_base0 o1
      · rcases List.mem_append.1 hy with hy | hy
        · exact hX1.byt y hy
        · rw [List.mem_singleton.1 hy]; exact own_base0 o2
      · rcases List.mem_append.1 hy with hy | hy
        · exact hXO.ok y hy
        · rw [List.mem_singleton.1 hy]; exact hok
    refine ⟨rfl, _, hw1.cell hn hx (i := 2) (by omega) (x' := { x with A := P, c := p, l := x.l ++ [XP.mk ⟨a, m, s⟩ A3 c3] }) ?_ hx1, ?_, by show (x.l ++ [XP.mk ⟨a, m, s⟩ A3 c3]).length ≤ _; rw [hlen]; exact Nat.le_refl _, (Kept.of_below hbl).trans (Kept.setCell w1 b _ _) (fun _ _ h => h)⟩
    · show [_, _, Value.slice P (x.l ++ [XP.mk ⟨a, m, s⟩ A3 c3]).length p, _, _] = _
      rw [hlen]; rfl
    · show Bf.mk _ _ (piE (x.l ++ [XP.mk ⟨a, m, s⟩ A3 c3])) _ _ = _
      rw [hl, piE, List.map_append]; rfl
end
end Go.Proofs.Ytghbliabmecbcaa

/-
  The document's Add of layer 16, where the key's buffer is there. Conditions are each theorem's own.
-/
namespace Go.Proofs.Ytghbliabmecbcaa
open Go.RowKit Go.Shelf
theorem own_baseU {w : World} {b b' n : Nat} {v : Value} {xs : List Value} (h : w.ownsRow b 5 1 v n xs) (hb : b' ≤ b) : w.ownsRow b' 5 1 v n xs := by
  refine ⟨h.1, ?_⟩
  rcases h.2 with hn | ⟨g, cap, cur, hv, hg, rest⟩
  · exact .inl hn
  · exact .inr ⟨g, cap, cur, hv, Nat.le_trans hb hg, rest⟩
theorem results_tmp4r {fn : Func} {t u v z : Tmp} (h : fn.results = #[.tmp t, .tmp u, .tmp v, .tmp z]) (tmps : Array Value) (P : Program) (w : World) :
    (results fn tmps).run P w = .ok (.tuple #[tmps.getD t undef, tmps.getD u undef, tmps.getD v undef, tmps.getD z undef]) w := by
  simp [results, h]
theorem erase_map {α β : Type} {f : α → β} : ∀ {l : List α} {k : Nat}, (l.eraseIdx k).map f = (l.map f).eraseIdx k
  | [], _ => rfl
  | _ :: _, 0 => rfl
  | x :: l, k + 1 => by simp only [List.eraseIdx_cons_succ, List.map_cons]; rw [erase_map]
/-- What Add answers, and leaves. -/
def AddOut16 (w : World) (g : Nat) (v : Value) (most mb wait : Int) (t : List XB) (key : List UInt8) (p : Pc) (head : List UInt8) (now : Int) (e : Ending) (w' : World) : Prop :=
  ∃ v' t' V, e = .returned (.tuple #[.string (strB (addJ most mb (tbE t) key p head now).2.1), V, .bool (addJ most mb (tbE t) key p head now).2.2.2.1, .int .i64 (addJ most mb (tbE t) key p head now).2.2.2.2]) ∧
    Rj w' g v' t' most mb wait ∧ tbE t' = (addJ most mb (tbE t) key p head now).1 ∧
    w'.ownsRow w.heap.size 5 1 V (addJ most mb (tbE t) key p head now).2.2.1.length (row (addJ most mb (tbE t) key p head now).2.2.1) ∧
    Kept (fun j => j = g ∨ v.ownBlock = some j) w w' ∧ ∀ j, v'.ownBlock = some j → v.ownBlock = some j ∨ w.heap.size ≤ j
/-- Add at a buffer that is there: its four answers. -/
theorem putJ_ways {mb : Int} {t0 T : List Bf} {k : Nat} {x : Bf} {p : Pc} {head : List UInt8} :
    (bytesJ T + roomP x.l p.off p.b > mb → putJ mb t0 T k x p head = (t0, [], [], false, 7)) ∧
    (¬ bytesJ T + roomP x.l p.off p.b > mb → addE x.l p ≠ 0 → putJ mb t0 T k x p head = (T.eraseIdx k, [], [], false, addE x.l p)) ∧
    (¬ bytesJ T + roomP x.l p.off p.b > mb → addE x.l p = 0 → doneB (addL x.l p) = true → putJ mb t0 T k x p head = (T.eraseIdx k, (upJ x p head).head, doneP (addL x.l p), true, 0)) ∧
    (¬ bytesJ T + roomP x.l p.off p.b > mb → addE x.l p = 0 → doneB (addL x.l p) = false → putJ mb t0 T k x p head = (T.set k (upJ x p head), [], [], false, 0)) := by
  have e : (upJ x p head).l = addL x.l p := rfl
  refine ⟨fun h => by rw [putJ, if_pos h], fun h h2 => by rw [putJ, if_neg h, if_pos h2], fun h h2 h3 => ?_, fun h h2 h3 => ?_⟩
  · rw [putJ, if_neg h, if_neg (by simpa using h2), e, if_pos h3]
  · rw [putJ, if_neg h, if_neg (by simpa using h2), e, if_neg (by rw [h3]; decide)]
section
variable {w : World} {g n c b k : Nat} {t : List XB} {x : XB} {most mb wait : Int}
set_option maxRecDepth 100000 in
set_option maxHeartbeats 8000000 in
theorem r16add_hit (h : Rj w g (.slice (some ⟨b, 0, none⟩) n c) t most mb wait) (hn : n = t.length) (key : List UInt8) (off : Int) (more : Bool) (A' : Option Addr) (c' : Nat) (s head : List UInt8) (now : Int)
    (hx : t[k]? = some x) (hf : findJ (tbE t) key = k) (hA' : Arg w w.heap.size A' c' s) (hsl : s.length ≤ 1000000) (ho : -9223372036854775808 ≤ off ∧ off ≤ 9223372036854775807)
    (hxn : x.l.length + 1 ≤ 1000) (hwf : wfP (piE x.l)) (hby : bytesJ (tbE t) ≤ 1073741824) (hrm : 0 ≤ roomP (piE x.l) off s ∧ roomP (piE x.l) off s ≤ 1000000) :
    Calls Try.prog 17 #[.pointer (some ⟨g, 0, none⟩), .string (strB key), .int .i64 off, .bool more, .slice A' s.length c', .string (strB head), .int .i64 now] w
      fun e w' => AddOut16 w g (.slice (some ⟨b, 0, none⟩) n c) most mb wait t key ⟨off, more, s⟩ head now e w' := by
  have hkn : k < n := by rw [hn]; exact (List.getElem?_eq_some_iff.1 hx).1
  have hn1 : n ≤ 1000 := by rw [hn]; exact h.n
  have HN := Lib.hid hn
  have HADD : Hid _ := Lib.hid (show (bytesJ (tbE t) + roomP (piE x.l) off s > mb → addJ most mb (tbE t) key ⟨off, more, s⟩ head now = (tbE t, [], [], false, 7)) ∧
      (¬ bytesJ (tbE t) + roomP (piE x.l) off s > mb → addE (piE x.l) ⟨off, more, s⟩ ≠ 0 → addJ most mb (tbE t) key ⟨off, more, s⟩ head now = ((tbE t).eraseIdx k, [], [], false, addE (piE x.l) ⟨off, more, s⟩)) ∧
      (¬ bytesJ (tbE t) + roomP (piE x.l) off s > mb → addE (piE x.l) ⟨off, more, s⟩ = 0 → doneB (addL (piE x.l) ⟨off, more, s⟩) = true → addJ most mb (tbE t) key ⟨off, more, s⟩ head now = ((tbE t).eraseIdx k, (upJ (bfE x) ⟨off, more, s⟩ head).head, doneP (addL (piE x.l) ⟨off, more, s⟩), true, 0)) ∧
      (¬ bytesJ (tbE t) + roomP (piE x.l) off s > mb → addE (piE x.l) ⟨off, more, s⟩ = 0 → doneB (addL (piE x.l) ⟨off, more, s⟩) = false → addJ most mb (tbE t) key ⟨off, more, s⟩ head now = ((tbE t).set k (upJ (bfE x) ⟨off, more, s⟩ head), [], [], false, 0)) from by
    have e : addJ most mb (tbE t) key ⟨off, more, s⟩ head now = putJ mb (tbE t) (tbE t) k (bfE x) ⟨off, more, s⟩ head := by
      rw [addJ, hf, show (tbE t)[k]? = some (bfE x) from by rw [tbE, List.getElem?_map, hx]; rfl]
    rw [e]
    exact putJ_ways (mb := mb) (t0 := tbE t) (T := tbE t) (k := k) (x := bfE x) (p := ⟨off, more, s⟩) (head := head))
  have hfi : fndI (tbE t) key = (k : Int) := by rw [fndI, hf, if_pos (by rw [tbE, List.length_map, ← hn]; exact hkn)]
  obtain ⟨A0, c0, e0, hTb, _⟩ := h.sh
  injection e0 with e1 e2 e3
  subst e1; subst e3
  have hfd := r16find _ c t w.heap.size g 0 most mb wait key w hTb (Nat.le_refl _)
  rw [hfi] at hfd
  have HFD := Lib.hid hfd
  obtain ⟨BY, hBY⟩ : ∃ z, z = bytesJ (tbE t) := ⟨_, rfl⟩
  obtain ⟨RO, hRO⟩ : ∃ z, z = roomP (piE x.l) off s := ⟨_, rfl⟩
  obtain ⟨E, hEE⟩ : ∃ z, z = addE (piE x.l) ⟨off, more, s⟩ := ⟨_, rfl⟩
  rw [← hBY, ← hRO, ← hEE] at HADD
  have hBY0 : 0 ≤ BY := by rw [hBY]; exact bytesJ_nn _
  have HBY : Hid (∀ {W V : World}, Below w.heap.size w W → Below W.heap.size W V → Calls Try.prog 20 #[.pointer (some ⟨g, 0, none⟩)] V fun e w' => e = .returned (.int .i64 BY) ∧ Below V.heap.size V w') := Lib.hid fun hW hV => by
    rw [hBY]
    obtain ⟨A9, c9, e9, hT9, _⟩ := ((h.below hW).below hV).sh
    exact r16bytes _ _ _ _ _ _ _ _ _ _ hT9 (Nat.le_refl _)
  have HRO : Hid (∀ {W V : World}, Below w.heap.size w W → Below W.heap.size W V → Calls Try.prog 46 #[.pointer (some ⟨b, k * 5 + 2, none⟩), .int .i64 off, .slice A' s.length c'] V fun e w' => e = .returned (.int .i64 RO) ∧ Below V.heap.size V w') := Lib.hid fun hW hV => by
    rw [hRO]
    have hV' := hW.trans (hV.mono hW.size)
    exact r16room ((h.below hW).below hV) hx off A' s c' ((hA'.below hV').more hV'.size).rd
  have HPART : Hid (∀ {V : World}, Below w.heap.size w V → Calls Try.prog 48 #[.pointer (some ⟨b, k * 5 + 2, none⟩), .int .i64 off, .bool more, .slice A' s.length c'] V fun e w' => e = .returned (.int .i64 E) ∧
      ∃ x1, Rj w' g (.slice (some ⟨b, 0, none⟩) n c) (t.set k x1) most mb wait ∧ bfE x1 = { bfE x with l := addL (piE x.l) ⟨off, more, s⟩ } ∧ x1.l.length ≤ x.l.length + 1 ∧ Kept (fun k => k = b) V w') := Lib.hid fun hV => by
    rw [hEE]
    exact r16part (h.below hV) hn hx off more A' s c' ((hA'.below hV).more hV.size) hsl ho hxn
  have HQ : Hid (∀ {V : World}, Below w.heap.size w V → Rj V g (.slice (some ⟨b, 0, none⟩) n c) t most mb wait) := Lib.hid fun hV => h.below hV
  have HWF := Lib.hid (addL_wf (p := ⟨off, more, s⟩) hwf)
  have hRO0 : 0 ≤ RO ∧ RO ≤ 1000000 := by rw [hRO]; exact hrm
  rw [← hBY] at hby
  have HWS := Lib.hid (IntWalk.i64_in (BY + RO) (by omega))
  have hgz := heap_lt h.tab
  have HTW := Lib.hid h.tab
  have hcn : n ≤ c := by rw [hn]; exact hTb.cap
  clear h hn hx hf hfi hfd hTb hA' hwf hrm hBY hRO hEE e2
  go_enter Try.func17, Try.ntmps17
  go_upto_region 9 with (go_at_call 45; refine HFD.out.mono ?_; rintro e w1 ⟨rfl, x1⟩; have kt := cells_at (i := 0) ((x1.block g hgz).trans HTW.out) rfl)
  have hTW1 := (x1.block g hgz).trans HTW.out
  have hgz1 := heap_lt hTW1
  have HT1 := Lib.hid hTW1
  have KM : Hid (∀ V, Below w1.heap.size w1 V → V.cell? ⟨g, 2, none⟩ = some (.int .i64 mb)) := Lib.hid fun V hV => cells_at (i := 2) ((hV.block g hgz1).trans HT1.out) rfl
  have HBY := Lib.hid (fun (V : World) (hV : Below w1.heap.size w1 V) => HBY.out x1 hV)
  have HRO := Lib.hid (fun (V : World) (hV : Below w1.heap.size w1 V) => HRO.out x1 hV)
  clear hTW1
  by_cases hroom : BY + RO > mb
  · have dm : decide (mb < BY + RO) = true := decide_eq_true (by omega)
    refine wp_region_held_drew (S := fun w' => Below w1.heap.size w1 w') (by kernel_rfl) (Below.refl _ _).drew (fun hS => ?_)
    refine held_pure (i := 0) (oi := ⟨some 68, _, _, _, _, _⟩) rfl (by kernel_rfl) (by kernel_rfl) (by kernel_rfl) (fun _ _ _ h => h) (by rfl) (v := ?_) (fun w hSw => ?_) hS (fun hS => ?_)
    rotate_left
    · go_simp; try with_reducible rfl
    try go_frame
    refine held_pure (i := 2) (oi := ⟨some 70, _, _, _, _, _⟩) rfl (by kernel_rfl) (by kernel_rfl) (by kernel_rfl) (fun _ _ _ h => h) (by rfl) (v := ?_) (fun w hSw => ?_) hS (fun hS => ?_)
    rotate_left
    · go_simp; try with_reducible rfl
    try go_frame
    refine held_pure (i := 3) (oi := ⟨some 71, _, _, _, _, _⟩) rfl (by kernel_rfl) (by kernel_rfl) (by kernel_rfl) (fun _ _ _ h => h) (by rfl) (v := ?_) (fun w hSw => ?_) hS (fun hS => ?_)
    rotate_left
    · go_simp; try with_reducible rfl
    try go_frame
    refine held_pure (i := 4) (oi := ⟨some 72, _, _, _, _, _⟩) rfl (by kernel_rfl) (by kernel_rfl) (by kernel_rfl) (fun _ _ _ h => h) (by rfl) (v := ?_) (fun w hSw => ?_) hS (fun hS => ?_)
    rotate_left
    · go_simp; try with_reducible rfl
    try go_frame
    refine held_pure (i := 5) (oi := ⟨some 73, _, _, _, _, _⟩) rfl (by kernel_rfl) (by kernel_rfl) (by kernel_rfl) (fun _ _ _ h => h) (by rfl) (v := ?_) (fun w hSw => ?_) hS (fun hS => ?_)
    rotate_left
    · go_simp; try with_reducible rfl
    try go_frame
    refine held_pure (i := 6) (oi := ⟨some 74, _, _, _, _, _⟩) rfl (by kernel_rfl) (by kernel_rfl) (by kernel_rfl) (fun _ _ _ h => h) (by rfl) (v := ?_) (fun w hSw => ?_) hS (fun hS => ?_)
    rotate_left
    · go_simp; try with_reducible rfl
    try go_frame
    refine held_pure (i := 9) (oi := ⟨some 77, _, _, _, _, _⟩) rfl (by kernel_rfl) (by kernel_rfl) (by kernel_rfl) (fun _ _ _ h => h) (by rfl) (v := ?_) (fun w hSw => ?_) hS (fun hS => ?_)
    rotate_left
    · go_simp; try with_reducible rfl
    try go_frame
    refine held_pure (i := 10) (oi := ⟨some 78, _, _, _, _, _⟩) rfl (by kernel_rfl) (by kernel_rfl) (by kernel_rfl) (fun _ _ _ h => h) (by rfl) (v := ?_) (fun w hSw => ?_) hS (fun hS => ?_)
    rotate_left
    · go_simp; try with_reducible rfl
    try go_frame
    refine held_pure (i := 11) (oi := ⟨some 79, _, _, _, _, _⟩) rfl (by kernel_rfl) (by kernel_rfl) (by kernel_rfl) (fun _ _ _ h => h) (by rfl) (v := ?_) (fun w hSw => ?_) hS (fun hS => ?_)
    rotate_left
    · go_simp; try with_reducible rfl
    try go_frame
    refine held_pure (i := 12) (oi := ⟨some 80, _, _, _, _, _⟩) rfl (by kernel_rfl) (by kernel_rfl) (by kernel_rfl) (fun _ _ _ h => h) (by rfl) (fun w hSw => run_load_int rfl rfl (KM.out _ hSw)) hS (fun hS => ?_)
    try go_frame
    refine wpAnyH_ready (rs := [1]) (by kernel_rfl) (by simp) (AllReadyH.cons (o := ⟨some 69, _, _, _, _, _⟩) rfl (fun K hK => ?_) AllReadyH.nil)
    rw [if_pos (by rfl)]
    go_simp
    refine (HBY.out _ hS).mono ?_
    rintro e y1 ⟨rfl, s1⟩
    show K _ _
    refine hK.out _ _ (below_step hS s1) (fun hS => ?_)
    clear hK K
    try go_frame
    refine wpAnyH_ready (rs := [7]) (by kernel_rfl) (by simp) (AllReadyH.cons (o := ⟨some 75, _, _, _, _, _⟩) rfl (fun K hK => ?_) AllReadyH.nil)
    rw [if_pos (by rfl)]
    go_simp
    refine (HRO.out _ hS).mono ?_
    rintro e y7 ⟨rfl, s7⟩
    show K _ _
    refine hK.out _ _ (below_step hS s7) (fun hS => ?_)
    clear hK K
    try go_frame
    refine held_pure (i := 8) (oi := ⟨some 76, _, _, _, _, _⟩) rfl (by kernel_rfl) (by kernel_rfl) (by kernel_rfl) (fun _ _ _ h => h) (by rfl) (v := .int .i64 (BY + RO)) (fun w hSw => by go_simp; try exact HWS.out) hS (fun hS => ?_)
    try go_frame
    refine held_pure (i := 13) (oi := ⟨some 81, _, _, _, _, _⟩) rfl (by kernel_rfl) (by kernel_rfl) (by kernel_rfl) (fun _ _ _ h => h) (by rfl) (v := .bool true) (fun w hSw => by go_simp; try exact dm) hS (fun hS => ?_)
    try go_frame
    refine wpAnyH_done (by kernel_rfl) ?_ _
    go_wp2
    refine bodyPost_ret (results_tmp4r rfl _ _ _) rfl ?_
    exact ⟨_, t, .slice none 0 0, by rw [HADD.out.1 hroom]; rfl, HQ.out (x1.trans (hS.mono x1.size)), by rw [HADD.out.1 hroom], by rw [HADD.out.1 hroom]; exact World.ownsRow_nil _ _ _ _, Kept.of_below (x1.trans (hS.mono x1.size)), fun j hj => .inl hj⟩

  · have dm : decide (mb < BY + RO) = false := decide_eq_false (by omega)
    refine wp_region_held_drew (S := fun w' => Below w1.heap.size w1 w') (by kernel_rfl) (Below.refl _ _).drew (fun hS => ?_)
    refine held_pure (i := 0) (oi := ⟨some 68, _, _, _, _, _⟩) rfl (by kernel_rfl) (by kernel_rfl) (by kernel_rfl) (fun _ _ _ h => h) (by rfl) (v := ?_) (fun w hSw => ?_) hS (fun hS => ?_)
    rotate_left
    · go_simp; try with_reducible rfl
    try go_frame
    refine held_pure (i := 2) (oi := ⟨some 70, _, _, _, _, _⟩) rfl (by kernel_rfl) (by kernel_rfl) (by kernel_rfl) (fun _ _ _ h => h) (by rfl) (v := ?_) (fun w hSw => ?_) hS (fun hS => ?_)
    rotate_left
    · go_simp; try with_reducible rfl
    try go_frame
    refine held_pure (i := 3) (oi := ⟨some 71, _, _, _, _, _⟩) rfl (by kernel_rfl) (by kernel_rfl) (by kernel_rfl) (fun _ _ _ h => h) (by rfl) (v := ?_) (fun w hSw => ?_) hS (fun hS => ?_)
    rotate_left
    · go_simp; try with_reducible rfl
    try go_frame
    refine held_pure (i := 4) (oi := ⟨some 72, _, _, _, _, _⟩) rfl (by kernel_rfl) (by kernel_rfl) (by kernel_rfl) (fun _ _ _ h => h) (by rfl) (v := ?_) (fun w hSw => ?_) hS (fun hS => ?_)
    rotate_left
    · go_simp; try with_reducible rfl
    try go_frame
    refine held_pure (i := 5) (oi := ⟨some 73, _, _, _, _, _⟩) rfl (by kernel_rfl) (by kernel_rfl) (by kernel_rfl) (fun _ _ _ h => h) (by rfl) (v := ?_) (fun w hSw => ?_) hS (fun hS => ?_)
    rotate_left
    · go_simp; try with_reducible rfl
    try go_frame
    refine held_pure (i := 6) (oi := ⟨some 74, _, _, _, _, _⟩) rfl (by kernel_rfl) (by kernel_rfl) (by kernel_rfl) (fun _ _ _ h => h) (by rfl) (v := ?_) (fun w hSw => ?_) hS (fun hS => ?_)
    rotate_left
    · go_simp; try with_reducible rfl
    try go_frame
    refine held_pure (i := 9) (oi := ⟨some 77, _, _, _, _, _⟩) rfl (by kernel_rfl) (by kernel_rfl) (by kernel_rfl) (fun _ _ _ h => h) (by rfl) (v := ?_) (fun w hSw => ?_) hS (fun hS => ?_)
    rotate_left
    · go_simp; try with_reducible rfl
    try go_frame
    refine held_pure (i := 10) (oi := ⟨some 78, _, _, _, _, _⟩) rfl (by kernel_rfl) (by kernel_rfl) (by kernel_rfl) (fun _ _ _ h => h) (by rfl) (v := ?_) (fun w hSw => ?_) hS (fun hS => ?_)
    rotate_left
    · go_simp; try with_reducible rfl
    try go_frame
    refine held_pure (i := 11) (oi := ⟨some 79, _, _, _, _, _⟩) rfl (by kernel_rfl) (by kernel_rfl) (by kernel_rfl) (fun _ _ _ h => h) (by rfl) (v := ?_) (fun w hSw => ?_) hS (fun hS => ?_)
    rotate_left
    · go_simp; try with_reducible rfl
    try go_frame
    refine held_pure (i := 12) (oi := ⟨some 80, _, _, _, _, _⟩) rfl (by kernel_rfl) (by kernel_rfl) (by kernel_rfl) (fun _ _ _ h => h) (by rfl) (fun w hSw => run_load_int rfl rfl (KM.out _ hSw)) hS (fun hS => ?_)
    try go_frame
    refine wpAnyH_ready (rs := [1]) (by kernel_rfl) (by simp) (AllReadyH.cons (o := ⟨some 69, _, _, _, _, _⟩) rfl (fun K hK => ?_) AllReadyH.nil)
    rw [if_pos (by rfl)]
    go_simp
    refine (HBY.out _ hS).mono ?_
    rintro e y1 ⟨rfl, s1⟩
    show K _ _
    refine hK.out _ _ (below_step hS s1) (fun hS => ?_)
    clear hK K
    try go_frame
    refine wpAnyH_ready (rs := [7]) (by kernel_rfl) (by simp) (AllReadyH.cons (o := ⟨some 75, _, _, _, _, _⟩) rfl (fun K hK => ?_) AllReadyH.nil)
    rw [if_pos (by rfl)]
    go_simp
    refine (HRO.out _ hS).mono ?_
    rintro e y7 ⟨rfl, s7⟩
    show K _ _
    refine hK.out _ _ (below_step hS s7) (fun hS => ?_)
    clear hK K
    try go_frame
    refine held_pure (i := 8) (oi := ⟨some 76, _, _, _, _, _⟩) rfl (by kernel_rfl) (by kernel_rfl) (by kernel_rfl) (fun _ _ _ h => h) (by rfl) (v := .int .i64 (BY + RO)) (fun w hSw => by go_simp; try exact HWS.out) hS (fun hS => ?_)
    try go_frame
    refine held_pure (i := 13) (oi := ⟨some 81, _, _, _, _, _⟩) rfl (by kernel_rfl) (by kernel_rfl) (by kernel_rfl) (fun _ _ _ h => h) (by rfl) (v := .bool false) (fun w hSw => by go_simp; try exact dm) hS (fun hS => ?_)
    try go_frame
    refine wpAnyH_done (by kernel_rfl) ?_ _

    have HB7 : Hid (Below w.heap.size w y7) := Lib.hid (x1.trans (hS.mono x1.size))
    have HPT := Lib.hid (HPART.out HB7.out)
    by_cases hE : E = 0
    · have dE : (E == 0) = true := by simpa using hE
      have dE' : (E != 0) = false := by simpa using hE
      by_cases h0 : off = 0
      · cases hh : x.has with
        | true =>
          have d0 : (off == 0) = true := by simpa using h0
          have H0 := Lib.hid h0
          have HHS := Lib.hid hh
          clear h0 hh
          go_upto_region 17 with (go_at_call 48; refine HPT.out.mono ?_; rintro e z1 ⟨rfl, xx, p1, p2, p3, p4⟩)
          obtain ⟨cur1, hb1⟩ := p1.row (List.getElem?_set_self (by rw [← HN.out]; exact hkn))
          have hhas : xx.has = x.has := congrArg Bf.has p2
          have hhead : xx.head = x.head := congrArg Bf.head p2
          have HP1 := Lib.hid p1
          have HP2 := Lib.hid p2
          have HXG1 : Hid ((t.set k xx)[k]? = some xx) := Lib.hid (List.getElem?_set_self (by rw [← HN.out]; exact hkn))
          have kr1 : z1.rangeAt b (k * 5) (clB xx) := by
            obtain ⟨b9, e9, r9⟩ := p1.at_ HXG1.out
            injection e9 with e9
            injection e9 with e9 _ _
            rw [e9]; exact r9
          have k13 : z1.cell? ⟨b, k * 5 + 3, none⟩ = some (.string (strB xx.head)) := by simpa using kr1 3 _ rfl
          have k14 : z1.cell? ⟨b, k * 5 + 4, none⟩ = some (.bool xx.has) := by simpa using kr1 4 _ rfl
          have f13 := heap_frozen hb1 (k * 5 + 3)
          have f14 := heap_frozen hb1 (k * 5 + 4)
          have K1 : Hid (Kept (fun j => j = g ∨ (Value.slice (some ⟨b, 0, none⟩) n c).ownBlock = some j) w z1) := Lib.hid ((Kept.of_below HB7.out).trans p4 (fun _ _ h => .inr (by rw [h]; rfl)))
          clear p1 p2 p3 p4 kr1 hb1
          rw [hhas, HHS.out] at k14
          go_upto_region 19 with fail
          have hu : bfE xx = upJ (bfE x) ⟨off, more, s⟩ head := by
            rw [HP2.out, upJ]
            show Bf.mk _ _ _ _ _ = Bf.mk _ _ _ _ _
            have : (bfE x).has = true := HHS.out
            have h0 := H0.out
            simp [h0, this]; rfl
          have q2 := HP1.out
          have K2 := K1.out
          clear K1 k13 k14 f13 f14 hhas hhead
          generalize xx = x2 at *
          generalize z1 = z2 at *
          have HQ2 := Lib.hid q2
          have HU := Lib.hid hu
          have HK2 := Lib.hid K2
          have HW2 := Lib.hid (show piE x2.l = addL (piE x.l) ⟨off, more, s⟩ from congrArg Bf.l hu)
          have HXG : Hid ((t.set k x2)[k]? = some x2) := Lib.hid (List.getElem?_set_self (by rw [← HN.out]; exact hkn))
          have hd := r16done q2 HXG.out (by rw [HW2.out]; exact HWF.out)
          rw [HW2.out] at hd
          have HD := Lib.hid hd
          clear hd q2 hu K2
          cases hdn : doneB (addL (piE x.l) ⟨off, more, s⟩) with
          | false =>
            rw [hdn] at HD
            go_wp2_with (go_at_call 49; refine HD.out.mono ?_; rintro e z3 ⟨vv, rfl, mk⟩; obtain ⟨_, _, _, _, _, _, s3⟩ := mk)
            refine bodyPost_ret (results_tmp4r rfl _ _ _) rfl ?_
            exact ⟨_, t.set k x2, .slice none 0 0, by rw [HADD.out.2.2.2 hroom hE hdn]; rfl, HQ2.out.below s3, by rw [HADD.out.2.2.2 hroom hE hdn, ← HU.out, tbE, List.map_set]; rfl, by rw [HADD.out.2.2.2 hroom hE hdn]; exact World.ownsRow_nil _ _ _ _, HK2.out.then_below s3, fun j hj => .inl hj⟩
          | true =>
            rw [hdn] at HD
            have HHD := Lib.hid (show x2.head = (upJ (bfE x) ⟨off, more, s⟩ head).head from congrArg Bf.head HU.out)
            have KHD : Hid (∀ V, Below z2.heap.size z2 V → V.cell? ⟨b, k * 5 + 3, none⟩ = some (.string (strB x2.head))) := Lib.hid fun V hV => by
              obtain ⟨b9, e9, r9⟩ := (HQ2.out.below hV).at_ HXG.out
              injection e9 with e9
              injection e9 with e9 _ _
              rw [e9]; simpa using r9 3 _ rfl
            go_wp2_with (first
              | (go_at_call 49; refine HD.out.mono ?_; rintro e z3 ⟨vv, rfl, mk⟩; obtain ⟨A5, c5, rfl, _, _, own3, s3⟩ := mk; have O3 := Lib.hid own3; have S3 := Lib.hid s3; have kh3 := KHD.out _ s3; clear own3)
              | (go_at_call 47; refine (r16without (HQ2.out.below S3.out) k (by rw [List.length_set, ← HN.out]; exact hkn)).mono ?_; rintro e z4 ⟨rfl, v4, q4, k4, b4⟩; have Q4 := Lib.hid q4; have K4 := Lib.hid k4; have HV4 := Lib.hid b4; clear q4 k4 b4))
            refine bodyPost_ret (results_tmp4r rfl _ _ _) rfl ?_
            refine ⟨v4, t.eraseIdx k, _, by rw [HADD.out.2.2.1 hroom hE hdn, ← HHD.out]; rfl, by have := Q4.out; rwa [List.eraseIdx_set_eq] at this, by rw [HADD.out.2.2.1 hroom hE hdn, tbE, tbE, erase_map], ?_, (HK2.out.then_below S3.out).trans K4.out (fun _ _ h => .inl h), fun j hj => .inr (Nat.le_trans (HK2.out.then_below S3.out).size (HV4.out j hj))⟩
            rw [HADD.out.2.2.1 hroom hE hdn]
            have h9 := own_keptO O3.out K4.out (T := fun ty => ty = 44) (fun j hj => by have hj : j = g := hj; subst hj; exact ⟨_, _, (HQ2.out.below S3.out).tab, rfl⟩) neB.2.2
            exact own_baseU h9 HK2.out.size

        | false =>
          have d0 : (off == 0) = true := by simpa using h0
          have H0 := Lib.hid h0
          have HHS := Lib.hid hh
          clear h0 hh
          go_upto_region 17 with (go_at_call 48; refine HPT.out.mono ?_; rintro e z1 ⟨rfl, xx, p1, p2, p3, p4⟩)
          obtain ⟨cur1, hb1⟩ := p1.row (List.getElem?_set_self (by rw [← HN.out]; exact hkn))
          have hhas : xx.has = x.has := congrArg Bf.has p2
          have hhead : xx.head = x.head := congrArg Bf.head p2
          have HP1 := Lib.hid p1
          have HP2 := Lib.hid p2
          have HXG1 : Hid ((t.set k xx)[k]? = some xx) := Lib.hid (List.getElem?_set_self (by rw [← HN.out]; exact hkn))
          have kr1 : z1.rangeAt b (k * 5) (clB xx) := by
            obtain ⟨b9, e9, r9⟩ := p1.at_ HXG1.out
            injection e9 with e9
            injection e9 with e9 _ _
            rw [e9]; exact r9
          have k13 : z1.cell? ⟨b, k * 5 + 3, none⟩ = some (.string (strB xx.head)) := by simpa using kr1 3 _ rfl
          have k14 : z1.cell? ⟨b, k * 5 + 4, none⟩ = some (.bool xx.has) := by simpa using kr1 4 _ rfl
          have f13 := heap_frozen hb1 (k * 5 + 3)
          have f14 := heap_frozen hb1 (k * 5 + 4)
          have K1 : Hid (Kept (fun j => j = g ∨ (Value.slice (some ⟨b, 0, none⟩) n c).ownBlock = some j) w z1) := Lib.hid ((Kept.of_below HB7.out).trans p4 (fun _ _ h => .inr (by rw [h]; rfl)))
          clear p1 p2 p3 p4 kr1 hb1
          rw [hhas, HHS.out] at k14
          have HXX := Lib.hid (HP1.out.parts xx (List.mem_of_getElem? HXG1.out))
          have hq3 := HP1.out.cell (by rw [List.length_set]; exact HN.out) HXG1.out (i := 3) (by omega) (u := .string (strB head)) (x' := { xx with head := head }) rfl ⟨HXX.out.own, HXX.out.byt, HXX.out.ok, HXX.out.n⟩
          rw [List.set_set] at hq3
          have HQ3 := Lib.hid hq3
          have hg3 : (t.set k { xx with head := head })[k]? = some { xx with head := head } := List.getElem?_set_self (by rw [← HN.out]; exact hkn)
          have HX3 := Lib.hid (hq3.parts _ (List.mem_of_getElem? hg3))
          have hq4 := hq3.cell (by rw [List.length_set]; exact HN.out) hg3 (i := 4) (by omega) (u := .bool true) (x' := { xx with head := head, has := true }) rfl ⟨HX3.out.own, HX3.out.byt, HX3.out.ok, HX3.out.n⟩
          rw [List.set_set] at hq4
          have HQ4 := Lib.hid hq4
          have K2' : Hid (Kept (fun j => j = g ∨ (Value.slice (some ⟨b, 0, none⟩) n c).ownBlock = some j) w ((z1.setCell ⟨b, k * 5 + 3, none⟩ (.string (strB head))).setCell ⟨b, k * 5 + 4, none⟩ (.bool true))) := Lib.hid ((K1.out.trans (Kept.setCell z1 b _ _) (fun _ _ h => .inr (by rw [h]; rfl))).trans (Kept.setCell _ b _ _) (fun _ _ h => .inr (by rw [h]; rfl)))
          clear hq3 hg3 hq4
          go_upto_region 19 with fail
          have hu : bfE { xx with head := head, has := true } = upJ (bfE x) ⟨off, more, s⟩ head := by
            have e1 : (bfE xx).l = addL (piE x.l) ⟨off, more, s⟩ := congrArg Bf.l HP2.out
            have e2 : (bfE xx).key = x.key := congrArg Bf.key HP2.out
            have e3 : (bfE xx).since = x.since := congrArg Bf.since HP2.out
            have e4 : (bfE x).has = false := HHS.out
            have h0 := H0.out
            rw [upJ, e4]
            show Bf.mk (bfE xx).key (bfE xx).since (bfE xx).l head true = _
            rw [e1, e2, e3]
            simp [h0]; exact ⟨rfl, rfl, rfl⟩
          have q2 := HQ4.out
          have K2 := K2'.out
          clear K1 K2' HQ3 HQ4 k13 k14 f13 f14 hhas hhead HX3 HXX HXG1 HP2
          generalize hx2 : ({ xx with head := head, has := true } : XB) = x2 at *
          generalize hz2 : (z1.setCell ⟨b, k * 5 + 3, none⟩ (.string (strB head))).setCell ⟨b, k * 5 + 4, none⟩ (.bool true) = z2 at *
          clear hx2 hz2
          have HQ2 := Lib.hid q2
          have HU := Lib.hid hu
          have HK2 := Lib.hid K2
          have HW2 := Lib.hid (show piE x2.l = addL (piE x.l) ⟨off, more, s⟩ from congrArg Bf.l hu)
          have HXG : Hid ((t.set k x2)[k]? = some x2) := Lib.hid (List.getElem?_set_self (by rw [← HN.out]; exact hkn))
          have hd := r16done q2 HXG.out (by rw [HW2.out]; exact HWF.out)
          rw [HW2.out] at hd
          have HD := Lib.hid hd
          clear hd q2 hu K2
          cases hdn : doneB (addL (piE x.l) ⟨off, more, s⟩) with
          | false =>
            rw [hdn] at HD
            go_wp2_with (go_at_call 49; refine HD.out.mono ?_; rintro e z3 ⟨vv, rfl, mk⟩; obtain ⟨_, _, _, _, _, _, s3⟩ := mk)
            refine bodyPost_ret (results_tmp4r rfl _ _ _) rfl ?_
            exact ⟨_, t.set k x2, .slice none 0 0, by rw [HADD.out.2.2.2 hroom hE hdn]; rfl, HQ2.out.below s3, by rw [HADD.out.2.2.2 hroom hE hdn, ← HU.out, tbE, List.map_set]; rfl, by rw [HADD.out.2.2.2 hroom hE hdn]; exact World.ownsRow_nil _ _ _ _, HK2.out.then_below s3, fun j hj => .inl hj⟩
          | true =>
            rw [hdn] at HD
            have HHD := Lib.hid (show x2.head = (upJ (bfE x) ⟨off, more, s⟩ head).head from congrArg Bf.head HU.out)
            have KHD : Hid (∀ V, Below z2.heap.size z2 V → V.cell? ⟨b, k * 5 + 3, none⟩ = some (.string (strB x2.head))) := Lib.hid fun V hV => by
              obtain ⟨b9, e9, r9⟩ := (HQ2.out.below hV).at_ HXG.out
              injection e9 with e9
              injection e9 with e9 _ _
              rw [e9]; simpa using r9 3 _ rfl
            go_wp2_with (first
              | (go_at_call 49; refine HD.out.mono ?_; rintro e z3 ⟨vv, rfl, mk⟩; obtain ⟨A5, c5, rfl, _, _, own3, s3⟩ := mk; have O3 := Lib.hid own3; have S3 := Lib.hid s3; have kh3 := KHD.out _ s3; clear own3)
              | (go_at_call 47; refine (r16without (HQ2.out.below S3.out) k (by rw [List.length_set, ← HN.out]; exact hkn)).mono ?_; rintro e z4 ⟨rfl, v4, q4, k4, b4⟩; have Q4 := Lib.hid q4; have K4 := Lib.hid k4; have HV4 := Lib.hid b4; clear q4 k4 b4))
            refine bodyPost_ret (results_tmp4r rfl _ _ _) rfl ?_
            refine ⟨v4, t.eraseIdx k, _, by rw [HADD.out.2.2.1 hroom hE hdn, ← HHD.out]; rfl, by have := Q4.out; rwa [List.eraseIdx_set_eq] at this, by rw [HADD.out.2.2.1 hroom hE hdn, tbE, tbE, erase_map], ?_, (HK2.out.then_below S3.out).trans K4.out (fun _ _ h => .inl h), fun j hj => .inr (Nat.le_trans (HK2.out.then_below S3.out).size (HV4.out j hj))⟩
            rw [HADD.out.2.2.1 hroom hE hdn]
            have h9 := own_keptO O3.out K4.out (T := fun ty => ty = 44) (fun j hj => by have hj : j = g := hj; subst hj; exact ⟨_, _, (HQ2.out.below S3.out).tab, rfl⟩) neB.2.2
            exact own_baseU h9 HK2.out.size

      · skip
        go_upto_region 17 with (go_at_call 48; refine HPT.out.mono ?_; rintro e z1 ⟨rfl, xx, p1, p2, p3, p4⟩)
        obtain ⟨cur1, hb1⟩ := p1.row (List.getElem?_set_self (by rw [← HN.out]; exact hkn))
        have hhas : xx.has = x.has := congrArg Bf.has p2
        have hhead : xx.head = x.head := congrArg Bf.head p2
        have HP1 := Lib.hid p1
        have HP2 := Lib.hid p2
        have HXG1 : Hid ((t.set k xx)[k]? = some xx) := Lib.hid (List.getElem?_set_self (by rw [← HN.out]; exact hkn))
        have kr1 : z1.rangeAt b (k * 5) (clB xx) := by
          obtain ⟨b9, e9, r9⟩ := p1.at_ HXG1.out
          injection e9 with e9
          injection e9 with e9 _ _
          rw [e9]; exact r9
        have k13 : z1.cell? ⟨b, k * 5 + 3, none⟩ = some (.string (strB xx.head)) := by simpa using kr1 3 _ rfl
        have k14 : z1.cell? ⟨b, k * 5 + 4, none⟩ = some (.bool xx.has) := by simpa using kr1 4 _ rfl
        have f13 := heap_frozen hb1 (k * 5 + 3)
        have f14 := heap_frozen hb1 (k * 5 + 4)
        have K1 : Hid (Kept (fun j => j = g ∨ (Value.slice (some ⟨b, 0, none⟩) n c).ownBlock = some j) w z1) := Lib.hid ((Kept.of_below HB7.out).trans p4 (fun _ _ h => .inr (by rw [h]; rfl)))
        clear p1 p2 p3 p4 kr1 hb1
        have d0 : (off == 0) = false := by simpa using h0
        go_upto_region 19 with fail
        have hu : bfE xx = upJ (bfE x) ⟨off, more, s⟩ head := by
          rw [HP2.out, upJ]
          show Bf.mk _ _ _ _ _ = Bf.mk _ _ _ _ _
          simp [h0]; rfl
        have q2 := HP1.out
        have K2 := K1.out
        clear K1 k13 k14 f13 f14 hhas hhead
        generalize xx = x2 at *
        generalize z1 = z2 at *
        have HQ2 := Lib.hid q2
        have HU := Lib.hid hu
        have HK2 := Lib.hid K2
        have HW2 := Lib.hid (show piE x2.l = addL (piE x.l) ⟨off, more, s⟩ from congrArg Bf.l hu)
        have HXG : Hid ((t.set k x2)[k]? = some x2) := Lib.hid (List.getElem?_set_self (by rw [← HN.out]; exact hkn))
        have hd := r16done q2 HXG.out (by rw [HW2.out]; exact HWF.out)
        rw [HW2.out] at hd
        have HD := Lib.hid hd
        clear hd q2 hu K2
        cases hdn : doneB (addL (piE x.l) ⟨off, more, s⟩) with
        | false =>
          rw [hdn] at HD
          go_wp2_with (go_at_call 49; refine HD.out.mono ?_; rintro e z3 ⟨vv, rfl, mk⟩; obtain ⟨_, _, _, _, _, _, s3⟩ := mk)
          refine bodyPost_ret (results_tmp4r rfl _ _ _) rfl ?_
          exact ⟨_, t.set k x2, .slice none 0 0, by rw [HADD.out.2.2.2 hroom hE hdn]; rfl, HQ2.out.below s3, by rw [HADD.out.2.2.2 hroom hE hdn, ← HU.out, tbE, List.map_set]; rfl, by rw [HADD.out.2.2.2 hroom hE hdn]; exact World.ownsRow_nil _ _ _ _, HK2.out.then_below s3, fun j hj => .inl hj⟩
        | true =>
          rw [hdn] at HD
          have HHD := Lib.hid (show x2.head = (upJ (bfE x) ⟨off, more, s⟩ head).head from congrArg Bf.head HU.out)
          have KHD : Hid (∀ V, Below z2.heap.size z2 V → V.cell? ⟨b, k * 5 + 3, none⟩ = some (.string (strB x2.head))) := Lib.hid fun V hV => by
            obtain ⟨b9, e9, r9⟩ := (HQ2.out.below hV).at_ HXG.out
            injection e9 with e9
            injection e9 with e9 _ _
            rw [e9]; simpa using r9 3 _ rfl
          go_wp2_with (first
            | (go_at_call 49; refine HD.out.mono ?_; rintro e z3 ⟨vv, rfl, mk⟩; obtain ⟨A5, c5, rfl, _, _, own3, s3⟩ := mk; have O3 := Lib.hid own3; have S3 := Lib.hid s3; have kh3 := KHD.out _ s3; clear own3)
            | (go_at_call 47; refine (r16without (HQ2.out.below S3.out) k (by rw [List.length_set, ← HN.out]; exact hkn)).mono ?_; rintro e z4 ⟨rfl, v4, q4, k4, b4⟩; have Q4 := Lib.hid q4; have K4 := Lib.hid k4; have HV4 := Lib.hid b4; clear q4 k4 b4))
          refine bodyPost_ret (results_tmp4r rfl _ _ _) rfl ?_
          refine ⟨v4, t.eraseIdx k, _, by rw [HADD.out.2.2.1 hroom hE hdn, ← HHD.out]; rfl, by have := Q4.out; rwa [List.eraseIdx_set_eq] at this, by rw [HADD.out.2.2.1 hroom hE hdn, tbE, tbE, erase_map], ?_, (HK2.out.then_below S3.out).trans K4.out (fun _ _ h => .inl h), fun j hj => .inr (Nat.le_trans (HK2.out.then_below S3.out).size (HV4.out j hj))⟩
          rw [HADD.out.2.2.1 hroom hE hdn]
          have h9 := own_keptO O3.out K4.out (T := fun ty => ty = 44) (fun j hj => by have hj : j = g := hj; subst hj; exact ⟨_, _, (HQ2.out.below S3.out).tab, rfl⟩) neB.2.2
          exact own_baseU h9 HK2.out.size

    · skip
      have dE : (E == 0) = false := by simpa using hE
      have dE' : (E != 0) = true := by simpa using hE
      go_wp2_with (first
        | (go_at_call 48; refine HPT.out.mono ?_; rintro e z1 ⟨rfl, xx, p1, p2, p3, p4⟩; have P1 := Lib.hid p1; have P4 := Lib.hid p4; clear p1 p2 p3 p4)
        | (go_at_call 47; refine (r16without P1.out k (by rw [List.length_set, ← HN.out]; exact hkn)).mono ?_; rintro e z4 ⟨rfl, v4, q4, k4, b4⟩; have Q4 := Lib.hid q4; have K4 := Lib.hid k4; have HV4 := Lib.hid b4; clear q4 k4 b4))
      refine bodyPost_ret (results_tmp4r rfl _ _ _) rfl ?_
      exact ⟨v4, t.eraseIdx k, .slice none 0 0, by rw [HADD.out.2.1 hroom hE]; rfl, by have := Q4.out; rwa [List.eraseIdx_set_eq] at this, by rw [HADD.out.2.1 hroom hE, tbE, tbE, erase_map], by rw [HADD.out.2.1 hroom hE]; exact World.ownsRow_nil _ _ _ _, ((Kept.of_below HB7.out).trans P4.out (fun _ _ h => .inr (by rw [h]; rfl))).trans K4.out (fun _ _ h => .inl h), fun j hj => .inr (Nat.le_trans (Nat.le_trans HB7.out.size P4.out.size) (HV4.out j hj))⟩

end
end Go.Proofs.Ytghbliabmecbcaa
