/-
  Contracts and lemmas on which the proofs of this seat stand (several texts in one). Conditions are each theorem's own.
-/
import Derived.Test.YthdaclbgandmcaaHa11
import Derived.Test.YthdaclbgandmcaaHa10
import Derived.Shelf.SlSortCmp.NoneTotal
import Derived.Shelf.Lay
import Derived.Laws.Cover1
import Derived.Ground.SlsfProg
import Derived.Test.YthdaclbgandmcaaHa8

/-
  Put and Delete of layer 18's code, and what they leave alone: blocks of other types. Conditions are each theorem's own.
-/
namespace Go.Proofs.Ythdaclbgandmcaa
open Go.RowKit Go.Shelf
/-- Blocks that are neither tables nor rows of places lie as they lay. -/
structure KH (X Y : World) : Prop where
  size : X.heap.size ≤ Y.heap.size
  block : ∀ (k : Nat) (cs : Array Value) (ty : TypeId) (fr : Nat × Nat), X.heap[k]? = some (.cells cs ty fr) → ty ≠ 81 → ty ≠ 143 → Y.heap[k]? = X.heap[k]?
section
variable {X Y Z : World}
theorem KH.trans (h : KH X Y) (k : KH Y Z) : KH X Z :=
  ⟨Nat.le_trans h.size k.size, fun i cs ty fr hi h1 h2 => (k.block i cs ty fr ((h.block i cs ty fr hi h1 h2).trans hi) h1 h2).trans (h.block i cs ty fr hi h1 h2)⟩
theorem KH.of_below (h : Below X.heap.size X Y) : KH X Y := ⟨h.size, fun _ _ _ _ hi _ _ => h.block _ (heap_lt hi)⟩
theorem KH.of_arr {b : Nat} {L : List (Option Ent)} (h : Kept (fun k => k = b) X Y) (a : ArrH X b L) : KH X Y := by
  obtain ⟨cur, h1, _⟩ := a.obj
  refine ⟨h.size, fun k cs ty fr hk _ h2 => h.block k (heap_lt hk) (fun e => ?_)⟩
  have e : k = b := e
  rw [e, h1] at hk
  injection hk with hk
  injection hk with _ e2 _
  exact h2 e2.symm
theorem KH.of_tab {t b : Nat} {c most : Int} {L : List (Option Ent)} (h : Kept (fun k => k = t) X Y) (a : Hs X t b c most L) : KH X Y := by
  refine ⟨h.size, fun k cs ty fr hk h1 _ => h.block k (heap_lt hk) (fun e => ?_)⟩
  have e : k = t := e
  rw [e, a.tab] at hk
  injection hk with hk
  injection hk with _ e2 _
  exact h1 e2.symm
theorem KH.set_tab {t b : Nat} {c most : Int} {L : List (Option Ent)} (a : Hs X t b c most L) (i : Nat) (v : Value) : KH X (X.setCell ⟨t, i, none⟩ v) := KH.of_tab (Kept.setCell X t i v) a
theorem KH.heap {b : Nat} {cs : Array Value} {ty : TypeId} {fr : Nat × Nat} (k : KH X Y) (h : X.heap[b]? = some (.cells cs ty fr)) (h1 : ty ≠ 81) (h2 : ty ≠ 143) : Y.heap[b]? = some (.cells cs ty fr) := (k.block b cs ty fr h h1 h2).trans h
end
section
variable {w w' : World} {B0 t b : Nat} {most : Int} {L : List (Option Ent)}
/-- What Delete leaves. -/
def DelK (w : World) (B0 t b : Nat) (most : Int) (L : List (Option Ent)) (key : List UInt8) (e : Ending) (w' : World) : Prop :=
  ∃ L', HTab w' B0 t b most L' ∧ (Below B0 w w' ∧ KH w w') ∧ L'.length = L.length ∧ ((∃ x, x.key = key ∧ (ents L).Perm (x :: ents L') ∧ e = .returned (.bool true)) ∨ ((∀ x ∈ ents L, x.key ≠ key) ∧ L' = L ∧ e = .returned (.bool false)))
set_option maxRecDepth 100000 in
theorem hsdelK (h : HTab w B0 t b most L) (key : List UInt8) (hk : key.length ≤ 1000000) (hB : B0 ≤ w.heap.size) : Calls Try.prog 36 #[.pointer (some ⟨t, 0, none⟩), .string (strB key)] w fun e w' => DelK w B0 t b most L key e w' := by
  have k0 := h.hs.c0
  have H := Lib.hid h
  by_cases hp : ∃ i x, plH L i = some x ∧ x.key = key
  · obtain ⟨i, x, hx, rfl⟩ := hp
    have hi := plH_lt hx
    have HX := Lib.hid hx
    have hpm := ents_take hx
    have hpl := hpm.length_eq
    rw [List.length_cons] at hpl
    have HP := Lib.hid hpm
    have HPL := Lib.hid hpl
    have HFD := Lib.hid (hsfind_yes h hx)
    clear h hx hpm hpl
    go_enter Try.func36, Try.ntmps36
    go_wp2_with (first
      | (go_at_call 72; refine (hsmade t b _ _ _ k0).mono ?_; rintro e w1 ⟨rfl, rfl⟩)
      | (go_at_call 73; refine (hsmark x.key _ hk).mono ?_; rintro e w1 ⟨rfl, rfl⟩)
      | (go_at_call 78; refine (hsfree (H.out.hs.below x1) H.out.prb i x HX.out (by have := H.out.len; omega) H.out.free).mono ?_; rintro e w2 ⟨rfl, L', f1, f2, f3, f4, f5⟩; have F1 := Lib.hid f1; have F2 := Lib.hid (show _ ∧ _ ∧ _ ∧ _ from ⟨f2, f3, f4, f5⟩); have kc1 := f1.c1; have kf1 := heap_frozen f1.tab 1; clear f1 f2 f3 f4 f5)
      | (go_at_call 74; refine HFD.out.mono ?_; rintro e w1 ⟨rfl, x1⟩))
    obtain ⟨f2, f3, f4, f5⟩ := F2.out
    have hlen2 := f4.length_eq
    have hc : wrap64 (((ents L).length : Int) - 1) = ((ents L').length : Int) := by
      rw [IntWalk.wrap64_in _ (by have := H.out.n; have := H.out.mst; omega), HPL.out, hlen2]; omega
    rw [hc]
    have hz := H.out.z
    have hb1 : Below B0 w w1 := x1.mono hB
    have hb2 : Below B0 w1 w2 := f5.below (Nat.le_trans hB x1.size) (fun k e => by rw [e]; exact hz.2)
    have hb3 := hb1.trans hb2
    refine bodyPost_ret (results_tmp rfl _ _ _) rfl ⟨L', ⟨F1.out.cnt _, f3, ?_, by rw [f2]; exact H.out.len, H.out.mst, ?_, hz⟩, ⟨hb3.setCell (p := ⟨t, 1, none⟩) hz.1 _, ((KH.of_below x1).trans (KH.of_arr f5 (H.out.below x1).hs.arr)).trans (KH.set_tab F1.out 1 _)⟩, f2, .inl ⟨x, rfl, HP.out.trans (f4.symm.cons x), rfl⟩⟩
    · have := H.out.half; rw [f2, hlen2]; have := HPL.out; omega
    · have := H.out.n; rw [hlen2]; have := HPL.out; omega
  · have hn : ∀ i x, plH L i = some x → x.key ≠ key := fun i x hx e => hp ⟨i, x, hx, e⟩
    have HN := Lib.hid hn
    have HFD := Lib.hid (hsfind_no h hn)
    clear h hn hp
    go_enter Try.func36, Try.ntmps36
    go_wp2_with (first
      | (go_at_call 72; refine (hsmade t b _ _ _ k0).mono ?_; rintro e w1 ⟨rfl, rfl⟩)
      | (go_at_call 73; refine (hsmark key _ hk).mono ?_; rintro e w1 ⟨rfl, rfl⟩)
      | (go_at_call 74; refine HFD.out.mono ?_; rintro e w1 ⟨rfl, x1⟩))
    exact bodyPost_ret (results_tmp rfl _ _ _) rfl ⟨L, H.out.below x1, ⟨x1.mono hB, KH.of_below x1⟩, rfl, .inr ⟨fun x hx => by obtain ⟨i, h1⟩ := mem_ents.1 hx; exact HN.out i x h1, rfl, rfl⟩⟩
/-- What Put leaves. -/
def PutK (w : World) (B0 t : Nat) (most : Int) (L : List (Option Ent)) (key : List UInt8) (n : Int) (e : Ending) (w' : World) : Prop :=
  ∃ b' L', HTab w' B0 t b' most L' ∧ (Below B0 w w' ∧ KH w w') ∧
    ((∃ x R, x.key = key ∧ (ents L).Perm (x :: R) ∧ (ents L').Perm (⟨key, n⟩ :: R) ∧ e = .returned (.int .i64 0)) ∨
     ((∀ x ∈ ents L, x.key ≠ key) ∧ ((((ents L).length : Int) ≥ most ∧ ents L' = ents L ∧ e = .returned (.int .i64 7)) ∨ (((ents L).length : Int) < most ∧ (ents L').Perm (⟨key, n⟩ :: ents L) ∧ e = .returned (.int .i64 0)))))
theorem putK_end {w w5 w6 w7 : World} {B0 t b2 C r : Nat} {most : Int} {L L2 : List (Option Ent)} {key : List UInt8} {n : Int} (_ : Hs w5 t b2 (C : Int) most L2) (g : Prb (hmN L2.length) L2 ∧ (ents L2).Perm (ents L) ∧ 2 * (C + 1) ≤ L2.length ∧ L2.length ≤ 300000 ∧ B0 ≤ b2) (hC : C = (ents L).length) (hz : B0 ≤ t ∧ B0 ≤ b2 ∨ B0 ≤ t) (hlt : (C : Int) < most) (hms : 0 ≤ most ∧ most ≤ 65536)
    (hn : ∀ x ∈ ents L, x.key ≠ key) (x6 : Below w5.heap.size w5 w6) (h5 : B0 ≤ w5.heap.size) (b5 : Below B0 w w5) (k5 : KH w w5) (G6 : Hs w6 t b2 (C : Int) most L2) (r4 : Hs w7 t b2 (C : Int) most (L2.set (rnd L2.length (hmN L2.length key) r) (some ⟨key, n⟩)))
    (R : r < L2.length ∧ (∀ d, d < r → plH L2 (rnd L2.length (hmN L2.length key) d) ≠ none) ∧ plH L2 (rnd L2.length (hmN L2.length key) r) = none ∧ Kept (fun k => k = b2) w6 w7) :
    PutK w B0 t most L key n (.returned (.int .i64 0)) (w7.setCell ⟨t, 1, none⟩ (.int .i64 ((C : Int) + 1))) := by
  obtain ⟨g1, g2, g3, g4, g5⟩ := g
  obtain ⟨r1, r2, r3, r5⟩ := R
  have hzt : B0 ≤ t := by rcases hz with h | h; exact h.1; exact h
  have hp := ents_put (e := (⟨key, n⟩ : Ent)) (rnd_lt (g1.home key) r1) r3
  have hl := hp.length_eq
  rw [List.length_cons, g2.length_eq, ← hC] at hl
  have hb : Below B0 w w7 := (b5.trans (x6.mono h5)).trans (r5.below (Nat.le_trans h5 x6.size) (fun k e => by have e' : k = b2 := e; rw [e']; exact g5))
  have hq : (ents (L2.set (rnd L2.length (hmN L2.length key) r) (some ⟨key, n⟩))).Perm (⟨key, n⟩ :: ents L) := hp.trans (g2.cons _)
  have hlt' : ((ents L).length : Int) < most := by rw [← hC]; exact hlt
  have hpr : Prb (hmN L2.length) (L2.set (rnd L2.length (hmN L2.length key) r) (some ⟨key, n⟩)) := by
    refine Prb.put (x := (⟨key, n⟩ : Ent)) g1 (fun i e he hk => ?_) r1 r2
    exact hn e (g2.mem_iff.1 (mem_ents.2 ⟨i, he⟩)) hk
  have h4 := r4.cnt ((C : Int) + 1)
  have hlc : ((C : Int) + 1) = ((ents (L2.set (rnd L2.length (hmN L2.length key) r) (some ⟨key, n⟩))).length : Int) := by rw [hl]; omega
  have hbs := hb.setCell (p := ⟨t, 1, none⟩) hzt (.int .i64 ((C : Int) + 1))
  obtain ⟨L3, hL3⟩ : ∃ L3, L3 = L2.set (rnd L2.length (hmN L2.length key) r) (some (⟨key, n⟩ : Ent)) := ⟨_, rfl⟩
  have hlm : L2.length = L3.length := by rw [hL3, List.length_set]
  rw [← hL3] at hpr hq h4 hlc hl
  rw [hlm] at hpr g3 g4
  have hg3 : 2 * (ents L3).length ≤ L3.length := by omega
  have hg4 : ((ents L3).length : Int) ≤ most := by omega
  have kk := ((k5.trans (KH.of_below x6)).trans (KH.of_arr r5 G6.arr)).trans (KH.set_tab r4 1 (.int .i64 ((C : Int) + 1)))
  rw [hlc] at h4 hbs kk ⊢
  exact ⟨b2, L3, ⟨h4, hpr, hg3, g4, hms, hg4, hzt, g5⟩, ⟨hbs, kk⟩, Or.inr ⟨hn, Or.inr ⟨hlt', hq, rfl⟩⟩⟩
set_option maxRecDepth 100000 in
set_option maxHeartbeats 2000000 in
theorem hsputK (h : HTab w B0 t b most L) (key : List UInt8) (n : Int) (hk : key.length ≤ 1000000) (hB : B0 ≤ w.heap.size) : Calls Try.prog 34 #[.pointer (some ⟨t, 0, none⟩), .string (strB key), .int .i64 n] w fun e w' => PutK w B0 t most L key n e w' := by
  have k0 := h.hs.c0
  have H := Lib.hid h
  by_cases hp : ∃ i x, plH L i = some x ∧ x.key = key
  · obtain ⟨i, x, hx, rfl⟩ := hp
    have hi := plH_lt hx
    have HX := Lib.hid hx
    have HFD := Lib.hid (hsfind_yes h hx)
    have hF : ∀ V, Below w.heap.size w V → V.cell? ⟨t, 0, none⟩ = some (.slice (some ⟨b, 0, none⟩) L.length L.length) ∧ V.cell? ⟨b, i * 4 + 3, none⟩ = some (.int .i64 x.n) ∧ V.frozen? ⟨b, i * 4 + 3, none⟩ = false := fun V hV => by
      have h1 := (h.hs.below hV)
      have h2 := h1.at_ (plH_get hi)
      rw [hx] at h2
      obtain ⟨cur, h3, _⟩ := h1.arr.obj
      exact ⟨h1.c0, h2 3 _ rfl, heap_frozen h3 _⟩
    have HF := Lib.hid hF
    clear h hx hF
    go_enter Try.func34, Try.ntmps34
    go_wp2_with (first
      | (go_at_call 72; refine (hsmade t b _ _ _ k0).mono ?_; rintro e w1 ⟨rfl, rfl⟩)
      | (go_at_call 73; refine (hsmark x.key _ hk).mono ?_; rintro e w1 ⟨rfl, rfl⟩)
      | (go_at_call 74; refine HFD.out.mono ?_; rintro e w1 ⟨rfl, x1⟩; have hq := HF.out _ x1; obtain ⟨q1, q2, q3⟩ := hq))
    have h1 := H.out.below x1
    obtain ⟨R, p1, p2⟩ := ents_change HX.out ⟨x.key, n⟩
    have hz := H.out.z
    have hle := p1.length_eq
    have hle2 := p2.length_eq
    rw [List.length_cons] at hle hle2
    refine bodyPost_ret (results_tmp rfl _ _ _) rfl ⟨b, L.set i (some ⟨x.key, n⟩), ⟨⟨?_, h1.hs.arr.setN HX.out n⟩, by rw [List.length_set]; exact H.out.prb.change HX.out n, by rw [List.length_set, hle2, ← hle]; exact H.out.half, by rw [List.length_set]; exact H.out.len, H.out.mst, by rw [hle2, ← hle]; exact H.out.n, hz⟩, ⟨(x1.mono hB).setCell (p := ⟨b, i * 4 + 3, none⟩) hz.2 _, (KH.of_below x1).trans (KH.of_arr (Kept.setCell w1 b (i * 4 + 3) _) h1.hs.arr)⟩, .inl ⟨x, R, rfl, p1, p2, rfl⟩⟩
    rw [List.length_set, hle2, ← hle]
    exact (heap_setCell_other w1 ⟨b, i * 4 + 3, none⟩ _ _ h1.hs.ne).trans h1.hs.tab
  · have hn : ∀ i x, plH L i = some x → x.key ≠ key := fun i x hx e => hp ⟨i, x, hx, e⟩
    have HN := Lib.hid hn
    have HNE : Hid (∀ x ∈ ents L, x.key ≠ key) := Lib.hid fun x hx => by obtain ⟨i, h1⟩ := mem_ents.1 hx; exact hn i x h1
    have HFD := Lib.hid (hsfind_no h hn)
    obtain ⟨C, hC⟩ : ∃ C, C = (ents L).length := ⟨_, rfl⟩
    have hCm := h.n
    have hms := h.mst
    have hlen := h.len
    have hhalf := h.half
    have hL0 := h.prb.home []
    have hF : ∀ V, Below w.heap.size w V → V.cell? ⟨t, 0, none⟩ = some (.slice (some ⟨b, 0, none⟩) L.length L.length) ∧ V.cell? ⟨t, 1, none⟩ = some (.int .i64 (C : Int)) ∧ V.cell? ⟨t, 2, none⟩ = some (.int .i64 most) := fun V hV => by
      have h1 := (h.hs.below hV)
      exact ⟨h1.c0, by rw [hC]; exact h1.c1, h1.c2⟩
    have HF := Lib.hid hF
    rw [← hC] at hCm hhalf
    have HC := Lib.hid hC
    clear h hn hp hF hC
    go_enter Try.func34, Try.ntmps34
    go_upto_region 8 with (first
      | (go_at_call 72; refine (hsmade t b _ _ _ k0).mono ?_; rintro e w1 ⟨rfl, rfl⟩)
      | (go_at_call 73; refine (hsmark key _ hk).mono ?_; rintro e w1 ⟨rfl, rfl⟩)
      | (go_at_call 74; refine HFD.out.mono ?_; rintro e w1 ⟨rfl, x1⟩; have H1 := Lib.hid (H.out.below x1); have KC0 : Hid (∀ V, Below w1.heap.size w1 V → V.cell? ⟨t, 0, none⟩ = some (.slice (some ⟨b, 0, none⟩) L.length L.length)) := Lib.hid (fun V hV => (HF.out V (x1.trans (hV.mono x1.size))).1); have KC1 : Hid (∀ V, Below w1.heap.size w1 V → V.cell? ⟨t, 1, none⟩ = some (.int .i64 (C : Int))) := Lib.hid (fun V hV => (HF.out V (x1.trans (hV.mono x1.size))).2.1); have KC2 : Hid (∀ V, Below w1.heap.size w1 V → V.cell? ⟨t, 2, none⟩ = some (.int .i64 most)) := Lib.hid (fun V hV => (HF.out V (x1.trans (hV.mono x1.size))).2.2)))
    by_cases hfull : (C : Int) ≥ most
    · have dF : decide (most ≤ (C : Int)) = true := decide_eq_true hfull
      refine wp_region_held_drew (S := fun w' => Below w1.heap.size w1 w') (by kernel_rfl) (Below.refl _ _).drew (fun hS => ?_)
      refine held_pure (i := 0) (oi := ⟨some 31, _, _, _, _, _⟩) rfl (by kernel_rfl) (by kernel_rfl) (by kernel_rfl) (fun _ _ _ h => h) (by rfl) (v := ?_) (fun w hSw => ?_) hS (fun hS => ?_)
      rotate_left
      · go_simp; try with_reducible rfl
      try go_frame
      refine held_pure (i := 1) (oi := ⟨some 32, _, _, _, _, _⟩) rfl (by kernel_rfl) (by kernel_rfl) (by kernel_rfl) (fun _ _ _ h => h) (by rfl) (v := ?_) (fun w hSw => ?_) hS (fun hS => ?_)
      rotate_left
      · go_simp; try with_reducible rfl
      try go_frame
      refine held_pure (i := 2) (oi := ⟨some 33, _, _, _, _, _⟩) rfl (by kernel_rfl) (by kernel_rfl) (by kernel_rfl) (fun _ _ _ h => h) (by rfl) (v := ?_) (fun w hSw => ?_) hS (fun hS => ?_)
      rotate_left
      · go_simp; try with_reducible rfl
      try go_frame
      refine held_pure (i := 3) (oi := ⟨some 34, _, _, _, _, _⟩) rfl (by kernel_rfl) (by kernel_rfl) (by kernel_rfl) (fun _ _ _ h => h) (by rfl) (fun w hSw => run_load_int rfl rfl (KC1.out _ hSw)) hS (fun hS => ?_)
      try go_frame
      refine held_pure (i := 4) (oi := ⟨some 35, _, _, _, _, _⟩) rfl (by kernel_rfl) (by kernel_rfl) (by kernel_rfl) (fun _ _ _ h => h) (by rfl) (v := ?_) (fun w hSw => ?_) hS (fun hS => ?_)
      rotate_left
      · go_simp; try with_reducible rfl
      try go_frame
      refine held_pure (i := 5) (oi := ⟨some 36, _, _, _, _, _⟩) rfl (by kernel_rfl) (by kernel_rfl) (by kernel_rfl) (fun _ _ _ h => h) (by rfl) (v := ?_) (fun w hSw => ?_) hS (fun hS => ?_)
      rotate_left
      · go_simp; try with_reducible rfl
      try go_frame
      refine held_pure (i := 6) (oi := ⟨some 37, _, _, _, _, _⟩) rfl (by kernel_rfl) (by kernel_rfl) (by kernel_rfl) (fun _ _ _ h => h) (by rfl) (v := ?_) (fun w hSw => ?_) hS (fun hS => ?_)
      rotate_left
      · go_simp; try with_reducible rfl
      try go_frame
      refine held_pure (i := 7) (oi := ⟨some 38, _, _, _, _, _⟩) rfl (by kernel_rfl) (by kernel_rfl) (by kernel_rfl) (fun _ _ _ h => h) (by rfl) (fun w hSw => run_load_int rfl rfl (KC2.out _ hSw)) hS (fun hS => ?_)
      try go_frame
      refine held_pure (i := 8) (oi := ⟨some 39, _, _, _, _, _⟩) rfl (by kernel_rfl) (by kernel_rfl) (by kernel_rfl) (fun _ _ _ h => h) (by rfl) (v := .bool true) (fun w hSw => by go_simp; try exact dF) hS (fun hS => ?_)
      try go_frame
      refine wpAnyH_done (by kernel_rfl) ?_ _
      go_wp2
      refine bodyPost_ret (results_tmp rfl _ _ _) rfl ⟨b, L, H.out.below (x1.trans (hS.mono x1.size)), ⟨(x1.trans (hS.mono x1.size)).mono hB, KH.of_below (x1.trans (hS.mono x1.size))⟩, .inr ⟨HNE.out, .inl ⟨by rw [← HC.out]; exact hfull, rfl, rfl⟩⟩⟩
    · have dF : decide (most ≤ (C : Int)) = false := decide_eq_false hfull
      have HW1 : Hid (IntKind.i64.wrap ((C : Int) + 1) = (C : Int) + 1) := Lib.hid (IntWalk.i64_in _ (by omega))
      have HW2 : Hid (IntKind.i64.wrap (2 * ((C : Int) + 1)) = 2 * ((C : Int) + 1)) := Lib.hid (IntWalk.i64_in _ (by omega))
      refine wp_region_held_drew (S := fun w' => Below w1.heap.size w1 w') (by kernel_rfl) (Below.refl _ _).drew (fun hS => ?_)
      refine held_pure (i := 0) (oi := ⟨some 31, _, _, _, _, _⟩) rfl (by kernel_rfl) (by kernel_rfl) (by kernel_rfl) (fun _ _ _ h => h) (by rfl) (v := ?_) (fun w hSw => ?_) hS (fun hS => ?_)
      rotate_left
      · go_simp; try with_reducible rfl
      try go_frame
      refine held_pure (i := 1) (oi := ⟨some 32, _, _, _, _, _⟩) rfl (by kernel_rfl) (by kernel_rfl) (by kernel_rfl) (fun _ _ _ h => h) (by rfl) (v := ?_) (fun w hSw => ?_) hS (fun hS => ?_)
      rotate_left
      · go_simp; try with_reducible rfl
      try go_frame
      refine held_pure (i := 2) (oi := ⟨some 33, _, _, _, _, _⟩) rfl (by kernel_rfl) (by kernel_rfl) (by kernel_rfl) (fun _ _ _ h => h) (by rfl) (v := ?_) (fun w hSw => ?_) hS (fun hS => ?_)
      rotate_left
      · go_simp; try with_reducible rfl
      try go_frame
      refine held_pure (i := 3) (oi := ⟨some 34, _, _, _, _, _⟩) rfl (by kernel_rfl) (by kernel_rfl) (by kernel_rfl) (fun _ _ _ h => h) (by rfl) (fun w hSw => run_load_int rfl rfl (KC1.out _ hSw)) hS (fun hS => ?_)
      try go_frame
      refine held_pure (i := 4) (oi := ⟨some 35, _, _, _, _, _⟩) rfl (by kernel_rfl) (by kernel_rfl) (by kernel_rfl) (fun _ _ _ h => h) (by rfl) (v := ?_) (fun w hSw => ?_) hS (fun hS => ?_)
      rotate_left
      · go_simp; try with_reducible rfl
      try go_frame
      refine held_pure (i := 5) (oi := ⟨some 36, _, _, _, _, _⟩) rfl (by kernel_rfl) (by kernel_rfl) (by kernel_rfl) (fun _ _ _ h => h) (by rfl) (v := ?_) (fun w hSw => ?_) hS (fun hS => ?_)
      rotate_left
      · go_simp; try with_reducible rfl
      try go_frame
      refine held_pure (i := 6) (oi := ⟨some 37, _, _, _, _, _⟩) rfl (by kernel_rfl) (by kernel_rfl) (by kernel_rfl) (fun _ _ _ h => h) (by rfl) (v := ?_) (fun w hSw => ?_) hS (fun hS => ?_)
      rotate_left
      · go_simp; try with_reducible rfl
      try go_frame
      refine held_pure (i := 7) (oi := ⟨some 38, _, _, _, _, _⟩) rfl (by kernel_rfl) (by kernel_rfl) (by kernel_rfl) (fun _ _ _ h => h) (by rfl) (fun w hSw => run_load_int rfl rfl (KC2.out _ hSw)) hS (fun hS => ?_)
      try go_frame
      refine held_pure (i := 8) (oi := ⟨some 39, _, _, _, _, _⟩) rfl (by kernel_rfl) (by kernel_rfl) (by kernel_rfl) (fun _ _ _ h => h) (by rfl) (v := .bool false) (fun w hSw => by go_simp; try exact dF) hS (fun hS => ?_)
      try go_frame
      refine wpAnyH_done (by kernel_rfl) ?_ _
      go_upto_region 10 with fail
      have hz := H.out.z
      have hW4 : Below w1.heap.size w1 w1.drew.drew := (Below.refl w1.heap.size w1).drew.drew
      have H4 := H1.out.below hW4
      have b4 : Below B0 w w1.drew.drew := (x1.trans (hW4.mono x1.size)).mono hB
      by_cases hg : 2 * (C + 1) > L.length
      · have dG : decide ((L.length : Int) < 2 * ((C : Int) + 1)) = true := decide_eq_true (by omega)
        refine wp_region_held_drew (S := fun w' => Below w1.heap.size w1 w') (by kernel_rfl) (Below.refl w1.heap.size w1).drew.drew (fun hS => ?_)
        refine held_pure (i := 0) (oi := ⟨some 40, _, _, _, _, _⟩) rfl (by kernel_rfl) (by kernel_rfl) (by kernel_rfl) (fun _ _ _ h => h) (by rfl) (v := ?_) (fun w hSw => ?_) hS (fun hS => ?_)
        rotate_left
        · go_simp; try with_reducible rfl
        try go_frame
        refine held_pure (i := 1) (oi := ⟨some 41, _, _, _, _, _⟩) rfl (by kernel_rfl) (by kernel_rfl) (by kernel_rfl) (fun _ _ _ h => h) (by rfl) (v := ?_) (fun w hSw => ?_) hS (fun hS => ?_)
        rotate_left
        · go_simp; try with_reducible rfl
        try go_frame
        refine held_pure (i := 2) (oi := ⟨some 42, _, _, _, _, _⟩) rfl (by kernel_rfl) (by kernel_rfl) (by kernel_rfl) (fun _ _ _ h => h) (by rfl) (v := ?_) (fun w hSw => ?_) hS (fun hS => ?_)
        rotate_left
        · go_simp; try with_reducible rfl
        try go_frame
        refine held_pure (i := 3) (oi := ⟨some 43, _, _, _, _, _⟩) rfl (by kernel_rfl) (by kernel_rfl) (by kernel_rfl) (fun _ _ _ h => h) (by rfl) (fun w hSw => run_load_int rfl rfl (KC1.out _ hSw)) hS (fun hS => ?_)
        try go_frame
        refine held_pure (i := 4) (oi := ⟨some 44, _, _, _, _, _⟩) rfl (by kernel_rfl) (by kernel_rfl) (by kernel_rfl) (fun _ _ _ h => h) (by rfl) (v := .int .i64 ((C : Int) + 1)) (fun w hSw => by go_simp; try exact HW1.out) hS (fun hS => ?_)
        try go_frame
        refine held_pure (i := 5) (oi := ⟨some 45, _, _, _, _, _⟩) rfl (by kernel_rfl) (by kernel_rfl) (by kernel_rfl) (fun _ _ _ h => h) (by rfl) (v := .int .i64 (2 * ((C : Int) + 1))) (fun w hSw => by go_simp; try exact HW2.out) hS (fun hS => ?_)
        try go_frame
        refine held_pure (i := 6) (oi := ⟨some 46, _, _, _, _, _⟩) rfl (by kernel_rfl) (by kernel_rfl) (by kernel_rfl) (fun _ _ _ h => h) (by rfl) (v := ?_) (fun w hSw => ?_) hS (fun hS => ?_)
        rotate_left
        · go_simp; try with_reducible rfl
        try go_frame
        refine held_pure (i := 7) (oi := ⟨some 47, _, _, _, _, _⟩) rfl (by kernel_rfl) (by kernel_rfl) (by kernel_rfl) (fun _ _ _ h => h) (by rfl) (v := ?_) (fun w hSw => ?_) hS (fun hS => ?_)
        rotate_left
        · go_simp; try with_reducible rfl
        try go_frame
        refine held_pure (i := 8) (oi := ⟨some 48, _, _, _, _, _⟩) rfl (by kernel_rfl) (by kernel_rfl) (by kernel_rfl) (fun _ _ _ h => h) (by rfl) (v := ?_) (fun w hSw => ?_) hS (fun hS => ?_)
        rotate_left
        · go_simp; try with_reducible rfl
        try go_frame
        refine held_pure (i := 9) (oi := ⟨some 49, _, _, _, _, _⟩) rfl (by kernel_rfl) (by kernel_rfl) (by kernel_rfl) (fun _ _ _ h => h) (by rfl) (fun w hSw => run_load_hsar rfl rfl (KC0.out _ hSw)) hS (fun hS => ?_)
        try go_frame
        refine held_pure (i := 10) (oi := ⟨some 50, _, _, _, _, _⟩) rfl (by kernel_rfl) (by kernel_rfl) (by kernel_rfl) (fun _ _ _ h => h) (by rfl) (v := ?_) (fun w hSw => ?_) hS (fun hS => ?_)
        rotate_left
        · go_simp; try with_reducible rfl
        try go_frame
        refine held_pure (i := 11) (oi := ⟨some 51, _, _, _, _, _⟩) rfl (by kernel_rfl) (by kernel_rfl) (by kernel_rfl) (fun _ _ _ h => h) (by rfl) (v := .bool true) (fun w hSw => by go_simp; try exact dG) hS (fun hS => ?_)
        try go_frame
        refine wpAnyH_done (by kernel_rfl) ?_ _
        go_wp2_with (first
          | (go_at_call 75; refine (hsgrow H4.hs H4.prb (by omega)).mono ?_; rintro e w5 ⟨rfl, b2, L2, g1, g2, g3, g4, g5, g6⟩; have hz4 := hW4.size; have hz0 := x1.size; have b5 : Below B0 w w5 := b4.trans (g5.below (by have := b4.size; omega) (fun k e => by have e' : k = t := e; rw [e']; exact hz.1)); have k5 : KH w w5 := (KH.of_below (x1.trans (hW4.mono x1.size))).trans (KH.of_tab g5 H4.hs); have G := Lib.hid (show Hs w5 t b2 (C : Int) most L2 ∧ Prb (hmN L2.length) L2 ∧ (ents L2).Perm (ents L) ∧ 2 * (C + 1) ≤ L2.length ∧ L2.length ≤ 300000 ∧ B0 ≤ b2 from ⟨by rw [HC.out]; exact g1, g3, g4, by omega, by omega, by omega⟩); clear g1 g2 g3 g4 g5)
          | (go_at_call 77; refine (hsclone key _ hk).mono ?_; rintro e w6 ⟨rfl, x6⟩; have G6 := Lib.hid (G.out.1.below x6))
          | (go_at_call 76; refine (hskeep G6.out ⟨key, n⟩ (G.out.2.1.home _) (by have := G.out.2.2.2.2.1; omega) (free_of_lt (by rw [G.out.2.2.1.length_eq, ← HC.out]; have := G.out.2.2.2.1; omega))).mono ?_; rintro e w7 ⟨rfl, r, r1, r2, r3, r4, r5⟩; have R := Lib.hid (show _ ∧ _ ∧ _ ∧ _ from ⟨r1, r2, r3, r5⟩); have R4 := Lib.hid r4; have kc1 := r4.c1; have kf1 := heap_frozen r4.tab 1; clear r1 r2 r3 r4 r5))
        refine bodyPost_ret (results_tmp rfl _ _ _) rfl ?_
        exact (putK_end G.out.1 G.out.2 HC.out (.inr hz.1) (by omega) hms HNE.out x6 (Nat.le_trans hB b5.size) b5 k5 G6.out R4.out R.out)
      · have dG : decide ((L.length : Int) < 2 * ((C : Int) + 1)) = false := decide_eq_false (by omega)
        have G : Hid (Hs w1.drew.drew t b (C : Int) most L ∧ Prb (hmN L.length) L ∧ (ents L).Perm (ents L) ∧ 2 * (C + 1) ≤ L.length ∧ L.length ≤ 300000 ∧ B0 ≤ b) := Lib.hid ⟨by rw [HC.out]; exact H4.hs, H4.prb, List.Perm.refl _, by omega, by omega, hz.2⟩
        have b5 := b4
        have k5 : KH w w1.drew.drew := KH.of_below (x1.trans (hW4.mono x1.size))
        refine wp_region_held_drew (S := fun w' => Below w1.heap.size w1 w') (by kernel_rfl) (Below.refl w1.heap.size w1).drew.drew (fun hS => ?_)
        refine held_pure (i := 0) (oi := ⟨some 40, _, _, _, _, _⟩) rfl (by kernel_rfl) (by kernel_rfl) (by kernel_rfl) (fun _ _ _ h => h) (by rfl) (v := ?_) (fun w hSw => ?_) hS (fun hS => ?_)
        rotate_left
        · go_simp; try with_reducible rfl
        try go_frame
        refine held_pure (i := 1) (oi := ⟨some 41, _, _, _, _, _⟩) rfl (by kernel_rfl) (by kernel_rfl) (by kernel_rfl) (fun _ _ _ h => h) (by rfl) (v := ?_) (fun w hSw => ?_) hS (fun hS => ?_)
        rotate_left
        · go_simp; try with_reducible rfl
        try go_frame
        refine held_pure (i := 2) (oi := ⟨some 42, _, _, _, _, _⟩) rfl (by kernel_rfl) (by kernel_rfl) (by kernel_rfl) (fun _ _ _ h => h) (by rfl) (v := ?_) (fun w hSw => ?_) hS (fun hS => ?_)
        rotate_left
        · go_simp; try with_reducible rfl
        try go_frame
        refine held_pure (i := 3) (oi := ⟨some 43, _, _, _, _, _⟩) rfl (by kernel_rfl) (by kernel_rfl) (by kernel_rfl) (fun _ _ _ h => h) (by rfl) (fun w hSw => run_load_int rfl rfl (KC1.out _ hSw)) hS (fun hS => ?_)
        try go_frame
        refine held_pure (i := 4) (oi := ⟨some 44, _, _, _, _, _⟩) rfl (by kernel_rfl) (by kernel_rfl) (by kernel_rfl) (fun _ _ _ h => h) (by rfl) (v := .int .i64 ((C : Int) + 1)) (fun w hSw => by go_simp; try exact HW1.out) hS (fun hS => ?_)
        try go_frame
        refine held_pure (i := 5) (oi := ⟨some 45, _, _, _, _, _⟩) rfl (by kernel_rfl) (by kernel_rfl) (by kernel_rfl) (fun _ _ _ h => h) (by rfl) (v := .int .i64 (2 * ((C : Int) + 1))) (fun w hSw => by go_simp; try exact HW2.out) hS (fun hS => ?_)
        try go_frame
        refine held_pure (i := 6) (oi := ⟨some 46, _, _, _, _, _⟩) rfl (by kernel_rfl) (by kernel_rfl) (by kernel_rfl) (fun _ _ _ h => h) (by rfl) (v := ?_) (fun w hSw => ?_) hS (fun hS => ?_)
        rotate_left
        · go_simp; try with_reducible rfl
        try go_frame
        refine held_pure (i := 7) (oi := ⟨some 47, _, _, _, _, _⟩) rfl (by kernel_rfl) (by kernel_rfl) (by kernel_rfl) (fun _ _ _ h => h) (by rfl) (v := ?_) (fun w hSw => ?_) hS (fun hS => ?_)
        rotate_left
        · go_simp; try with_reducible rfl
        try go_frame
        refine held_pure (i := 8) (oi := ⟨some 48, _, _, _, _, _⟩) rfl (by kernel_rfl) (by kernel_rfl) (by kernel_rfl) (fun _ _ _ h => h) (by rfl) (v := ?_) (fun w hSw => ?_) hS (fun hS => ?_)
        rotate_left
        · go_simp; try with_reducible rfl
        try go_frame
        refine held_pure (i := 9) (oi := ⟨some 49, _, _, _, _, _⟩) rfl (by kernel_rfl) (by kernel_rfl) (by kernel_rfl) (fun _ _ _ h => h) (by rfl) (fun w hSw => run_load_hsar rfl rfl (KC0.out _ hSw)) hS (fun hS => ?_)
        try go_frame
        refine held_pure (i := 10) (oi := ⟨some 50, _, _, _, _, _⟩) rfl (by kernel_rfl) (by kernel_rfl) (by kernel_rfl) (fun _ _ _ h => h) (by rfl) (v := ?_) (fun w hSw => ?_) hS (fun hS => ?_)
        rotate_left
        · go_simp; try with_reducible rfl
        try go_frame
        refine held_pure (i := 11) (oi := ⟨some 51, _, _, _, _, _⟩) rfl (by kernel_rfl) (by kernel_rfl) (by kernel_rfl) (fun _ _ _ h => h) (by rfl) (v := .bool false) (fun w hSw => by go_simp; try exact dG) hS (fun hS => ?_)
        try go_frame
        refine wpAnyH_done (by kernel_rfl) ?_ _
        go_wp2_with (first
          | (go_at_call 77; refine (hsclone key _ hk).mono ?_; rintro e w6 ⟨rfl, x6⟩; have G6 := Lib.hid (G.out.1.below x6))
          | (go_at_call 76; refine (hskeep G6.out ⟨key, n⟩ (G.out.2.1.home _) (by have := G.out.2.2.2.2.1; omega) (free_of_lt (by rw [← HC.out]; omega))).mono ?_; rintro e w7 ⟨rfl, r, r1, r2, r3, r4, r5⟩; have R := Lib.hid (show _ ∧ _ ∧ _ ∧ _ from ⟨r1, r2, r3, r5⟩); have R4 := Lib.hid r4; have kc1 := r4.c1; have kf1 := heap_frozen r4.tab 1; clear r1 r2 r3 r4 r5))
        refine bodyPost_ret (results_tmp rfl _ _ _) rfl ?_
        exact (putK_end G.out.1 G.out.2 HC.out (.inr hz.1) (by omega) hms HNE.out x6 (Nat.le_trans hB b5.size) b5 k5 G6.out R4.out R.out)
end
section
variable {w w' : World} {B0 t : Nat} {most : Int} {M R : List Ent} {x : Ent} {key : List UInt8} {n : Int}
/-- A table beside which one block of another type changed. -/
theorem HM.kept {g : Nat} {cs : Array Value} {ty : TypeId} {fr : Nat × Nat} (h : HM w B0 t most M) (k : Kept (fun k => k = g) w w') (hg : w.heap[g]? = some (.cells cs ty fr)) (h1 : ty ≠ 81) (h2 : ty ≠ 143) : HM w' B0 t most M := by
  obtain ⟨b, L, q1, q2⟩ := h
  have ht : t ≠ g := fun e => by
    have := q1.hs.tab
    rw [e, hg] at this
    injection this with this
    injection this with _ e2 _
    exact h1 e2
  obtain ⟨cur, a1, a2⟩ := q1.hs.arr.obj
  have hb : b ≠ g := fun e => by
    rw [e, hg] at a1
    injection a1 with a1
    injection a1 with _ e2 _
    exact h2 e2
  exact ⟨b, L, ⟨⟨(k.block t (heap_lt q1.hs.tab) ht).trans q1.hs.tab, q1.hs.arr.keep (k.block b q1.hs.arr.lt hb)⟩, q1.prb, q1.half, q1.len, q1.mst, q1.n, q1.z⟩, q2⟩
theorem hk_put_new (h : HM w B0 t most M) (hn : ∀ x ∈ M, x.key ≠ key) (hm : (M.length : Int) < most) (n : Int) (hk : key.length ≤ 1000000) (hB : B0 ≤ w.heap.size) :
    Calls Try.prog 34 #[.pointer (some ⟨t, 0, none⟩), .string (strB key), .int .i64 n] w fun e w' => e = .returned (.int .i64 0) ∧ HM w' B0 t most (⟨key, n⟩ :: M) ∧ Below B0 w w' ∧ KH w w' := by
  obtain ⟨b, L, h1, h2⟩ := h
  refine (hsputK h1 key n hk hB).mono ?_
  rintro e w' ⟨b', L', q1, q2, q3⟩
  rcases q3 with ⟨x, R, r1, r2, _, _⟩ | ⟨r1, ⟨r2, _, _⟩ | ⟨r2, r3, rfl⟩⟩
  · exact absurd r1 (hn x (h2.mem_iff.1 (r2.mem_iff.2 (List.mem_cons_self ..))))
  · have := h2.length_eq; omega
  · exact ⟨rfl, ⟨b', L', q1, r3.trans (h2.cons _)⟩, q2⟩
theorem hk_put_full (h : HM w B0 t most M) (hn : ∀ x ∈ M, x.key ≠ key) (hm : (M.length : Int) ≥ most) (n : Int) (hk : key.length ≤ 1000000) (hB : B0 ≤ w.heap.size) :
    Calls Try.prog 34 #[.pointer (some ⟨t, 0, none⟩), .string (strB key), .int .i64 n] w fun e w' => e = .returned (.int .i64 7) ∧ HM w' B0 t most M ∧ Below B0 w w' ∧ KH w w' := by
  obtain ⟨b, L, h1, h2⟩ := h
  refine (hsputK h1 key n hk hB).mono ?_
  rintro e w' ⟨b', L', q1, q2, q3⟩
  rcases q3 with ⟨x, R, r1, r2, _, _⟩ | ⟨r1, ⟨_, r3, rfl⟩ | ⟨r2, _, _⟩⟩
  · exact absurd r1 (hn x (h2.mem_iff.1 (r2.mem_iff.2 (List.mem_cons_self ..))))
  · exact ⟨rfl, ⟨b', L', q1, by rw [r3]; exact h2⟩, q2⟩
  · have := h2.length_eq; omega
theorem hk_put_old (h : HM w B0 t most M) (hp : M.Perm (x :: R)) (n : Int) (hk : x.key.length ≤ 1000000) (hB : B0 ≤ w.heap.size) :
    Calls Try.prog 34 #[.pointer (some ⟨t, 0, none⟩), .string (strB x.key), .int .i64 n] w fun e w' => e = .returned (.int .i64 0) ∧ HM w' B0 t most (⟨x.key, n⟩ :: R) ∧ Below B0 w w' ∧ KH w w' := by
  have hu : ∀ {y : Ent}, x ∈ M → y ∈ M → x.key = y.key → x = y := fun h1 h2 h3 => h.uniq h1 h2 h3
  have hxm : x ∈ M := hp.mem_iff.2 (List.mem_cons_self ..)
  obtain ⟨b, L, h1, h2⟩ := h
  refine (hsputK h1 x.key n hk hB).mono ?_
  rintro e w' ⟨b', L', q1, q2, q3⟩
  rcases q3 with ⟨y, R', r1, r2, r3, rfl⟩ | ⟨r1, _⟩
  · obtain rfl := hu hxm (h2.mem_iff.1 (r2.mem_iff.2 (List.mem_cons_self ..))) r1.symm
    have : R'.Perm R := ((r2.symm.trans h2).trans hp).cons_inv
    exact ⟨rfl, ⟨b', L', q1, r3.trans (this.cons _)⟩, q2⟩
  · exact absurd rfl (r1 x (h2.mem_iff.2 hxm))
theorem hk_del_yes (h : HM w B0 t most M) (hp : M.Perm (x :: R)) (hk : x.key.length ≤ 1000000) (hB : B0 ≤ w.heap.size) :
    Calls Try.prog 36 #[.pointer (some ⟨t, 0, none⟩), .string (strB x.key)] w fun e w' => e = .returned (.bool true) ∧ HM w' B0 t most R ∧ Below B0 w w' ∧ KH w w' := by
  have hu : ∀ {y : Ent}, x ∈ M → y ∈ M → x.key = y.key → x = y := fun h1 h2 h3 => h.uniq h1 h2 h3
  have hxm : x ∈ M := hp.mem_iff.2 (List.mem_cons_self ..)
  obtain ⟨b, L, h1, h2⟩ := h
  refine (hsdelK h1 x.key hk hB).mono ?_
  rintro e w' ⟨L', q1, q2, _, q3⟩
  rcases q3 with ⟨y, r1, r2, rfl⟩ | ⟨r1, _⟩
  · obtain rfl := hu hxm (h2.mem_iff.1 (r2.mem_iff.2 (List.mem_cons_self ..))) r1.symm
    exact ⟨rfl, ⟨b, L', q1, ((r2.symm.trans h2).trans hp).cons_inv⟩, q2⟩
  · exact absurd rfl (r1 x (h2.mem_iff.2 hxm))
theorem hk_del_no (h : HM w B0 t most M) (hn : ∀ x ∈ M, x.key ≠ key) (hk : key.length ≤ 1000000) (hB : B0 ≤ w.heap.size) :
    Calls Try.prog 36 #[.pointer (some ⟨t, 0, none⟩), .string (strB key)] w fun e w' => e = .returned (.bool false) ∧ HM w' B0 t most M ∧ Below B0 w w' ∧ KH w w' := by
  obtain ⟨b, L, h1, h2⟩ := h
  refine (hsdelK h1 key hk hB).mono ?_
  rintro e w' ⟨L', q1, q2, _, q3⟩
  rcases q3 with ⟨y, r1, r2, _⟩ | ⟨_, rfl, rfl⟩
  · exact absurd r1 (hn y (h2.mem_iff.1 (r2.mem_iff.2 (List.mem_cons_self ..))))
  · exact ⟨rfl, ⟨b, L', q1, h2⟩, q2⟩
end
end Go.Proofs.Ythdaclbgandmcaa

/-
  All of layer 18's code: what is taken, by their keys. Conditions are each theorem's own.
-/
namespace Go.Proofs
open Go.RowKit Go.Shelf
shelf_lay_g SlLaysF0.n6 Slsf 6 at Try 79 as Try.sortHs
namespace Ythdaclbgandmcaa
open Go.Sort hiding Below
instance : Inhabited Ent := ⟨⟨[], 0⟩⟩
def clF (e : Ent) : List Value := clE (some e)
/-- How two texts stand to each other. -/
def cmpS (a b : List UInt8) : Int := if Sort.ltStr a b then -1 else if Sort.ltStr b a then 1 else 0
theorem str_list (x : List UInt8) : (strB x).toList = x := by simp [strB]
theorem hsnan (a : List UInt8) (w : World) : Calls Try.prog 110 #[.string (strB a)] w fun e w' => e = .returned (.bool false) ∧ w = w' := by
  have d : ((strB a).toList == (strB a).toList) = true := by simp
  go_enter Try.func110, Try.ntmps110
  go_wp2
  go_ret
  exact ⟨rfl, rfl⟩
theorem str_tri {a b : List UInt8} (h1 : ¬ a < b) (h3 : a ≠ b) : b < a := Classical.byContradiction fun h2 => h3 (List.le_antisymm (List.not_lt.1 h2) (List.not_lt.1 h1))
theorem hscmp (a b : List UInt8) (w : World) : Calls Try.prog 81 #[.string (strB a), .string (strB b)] w fun e w' => e = .returned (.int .i64 (cmpS a b)) ∧ w = w' := by
  have e1 : Op.bytesLess (strB a).toList (strB b).toList = Sort.ltStr a b := by rw [str_list, str_list]; exact bytesLess_eq _ _
  have e2 := strB_eq a b
  by_cases h1 : a < b
  · have HC := Lib.hid (show cmpS a b = -1 from if_pos (show Sort.ltStr a b = true from decide_eq_true h1))
    rw [show Sort.ltStr a b = true from decide_eq_true h1] at e1
    clear h1 e2
    go_enter Try.func81, Try.ntmps81
    go_wp2_with (go_at_call 110; refine (hsnan _ _).mono ?_; rintro e w1 ⟨rfl, rfl⟩)
    go_ret
    exact ⟨by rw [HC.out]; rfl, rfl⟩
  · rw [show Sort.ltStr a b = false from decide_eq_false h1] at e1
    by_cases h3 : a = b
    · have HC := Lib.hid (show cmpS a b = 0 from by subst h3; unfold cmpS Sort.ltStr; simp [List.lt_irrefl])
      rw [decide_eq_true h3] at e2
      clear h1 h3
      go_enter Try.func81, Try.ntmps81
      go_wp2_with (go_at_call 110; refine (hsnan _ _).mono ?_; rintro e w1 ⟨rfl, rfl⟩)
      go_ret
      exact ⟨by rw [HC.out]; rfl, rfl⟩
    · have HC := Lib.hid (show cmpS a b = 1 from by unfold cmpS; rw [if_neg (by rw [show Sort.ltStr a b = false from decide_eq_false h1]; decide), if_pos (show Sort.ltStr b a = true from decide_eq_true (str_tri h1 h3))])
      rw [decide_eq_false h3] at e2
      clear h1 h3
      go_enter Try.func81, Try.ntmps81
      go_wp2_with (go_at_call 110; refine (hsnan _ _).mono ?_; rintro e w1 ⟨rfl, rfl⟩)
      go_ret
      exact ⟨by rw [HC.out]; rfl, rfl⟩
/-- The order of entries is that of their keys. -/
theorem ltE (x y : Ent) : ltOf (fun x y : Ent => cmpS x.key y.key) x y = Sort.ltStr x.key y.key := by
  unfold ltOf cmpS
  cases h1 : Sort.ltStr x.key y.key
  · cases h2 : Sort.ltStr y.key x.key <;> (simp only [h1, h2]; decide)
  · simp only [h1]; rfl
theorem swoE : Sort.SWO (ltOf fun x y : Ent => cmpS x.key y.key) where
  irrefl x := by rw [ltE]; exact Sort.swo_ltStr.irrefl _
  trans x y z h1 h2 := by rw [ltE] at *; exact Sort.swo_ltStr.trans _ _ _ h1 h2
  ntrans x y z h1 h2 := by rw [ltE] at *; exact Sort.swo_ltStr.ntrans _ _ _ h1 h2
theorem hsall1 (x y : Ent) (W : World) : Calls Try.prog 80 #[.agg (clF x).toArray, .agg (clF y).toArray] W fun e w' => e = .returned (.int .i64 (cmpS x.key y.key)) ∧ ∃ q os', w' = grow (W.drewN q) os' := by
  have HX := World.alloc_heap_new W (.cells (clF x).toArray 143)
  have kx : ((W.alloc (.cells (clF x).toArray 143)).alloc (.cells (clF y).toArray 143)).cell? ⟨W.heap.size, 2, none⟩ = some (.string (strB x.key)) := cells_at (i := 2) ((Below.heap_alloc _ _ _ (by simp)).trans HX) rfl
  have ky2 : ((W.alloc (.cells (clF x).toArray 143)).alloc (.cells (clF y).toArray 143)).cell? ⟨W.heap.size + 1, 2, none⟩ = some (.string (strB y.key)) := by
    have := World.alloc_heap_new (W.alloc (.cells (clF x).toArray 143)) (.cells (clF y).toArray 143)
    rw [World.size_alloc] at this
    exact cells_at (i := 2) this rfl
  clear HX
  go_enter Try.func80, Try.ntmps80
  go_wp2_with (go_at_call 81; refine (hscmp _ _ _).mono ?_; rintro e w' ⟨rfl, rfl⟩)
  go_ret
  exact ⟨rfl, 0, _, by rw [alloc_eq_grow, alloc_eq_grow, grow_grow]; rfl⟩
/-- Entries in the order of their keys. -/
def Srt (S : List Ent) : Prop := S.Pairwise fun a b => a.key < b.key
theorem flatF_at {S : List Ent} {i : Nat} (hi : i < S.length) {c : Nat} (hc : c < 4) : (S.flatMap clF)[i * 4 + c]? = (clF S[i])[c]? := by
  have hl : (clF S[i]).length = 4 := clE_len _
  have := flat_at (cl := clF) (sz := 4) S (fun x _ => clE_len _) i S[i] (List.getElem?_eq_getElem hi) c _ (List.getElem?_eq_getElem (by omega))
  rw [this, List.getElem?_eq_getElem]
theorem holdsF {w : World} {g : Nat} {cur : Array Value} {S : List Ent} (hg : w.heap[g]? = some (.cells cur 143 (0, 0))) (ht : cur.toList.take (S.length * 4) = S.flatMap clF) : HoldsK clF 4 w g 0 S.toArray := by
  intro j hj
  rw [size_flatK, List.size_toArray] at hj
  rw [get_flatK _ _ _ _ (by rw [List.size_toArray]; exact hj)]
  refine ⟨?_, heap_frozen hg _⟩
  have hi : j / 4 < S.length := by omega
  have h1 := flatF_at (S := S) hi (c := j % 4) (Nat.mod_lt _ (by decide))
  rw [show j / 4 * 4 + j % 4 = j from by omega, ← ht, List.getElem?_take, if_pos hj, Array.getElem?_toList] at h1
  rw [Nat.zero_add, cell_of_row _ _ _ _ _ _ hg, h1]
  have hl : (clF S[j / 4]).length = 4 := clE_len _
  have e1 : S.toArray[j / 4]! = S[j / 4] := by rw [getElem!_pos _ _ (by rw [List.size_toArray]; exact hi)]; rfl
  rw [e1, List.getElem?_eq_getElem (by rw [hl]; exact Nat.mod_lt _ (by decide)), getElem!_pos _ _ (by rw [hl]; exact Nat.mod_lt _ (by decide))]
  rfl
theorem rds_of_holds {w : World} {g : Nat} {d : Array Ent} (h : HoldsK clF 4 w g 0 d) (hg : g < w.heap.size) : RdS clF 4 w w.heap.size (some ⟨g, 0, none⟩) d.toList := fun _ => by
  refine ⟨g, 0, rfl, hg, fun j x hx i v hv => ?_⟩
  have hj : j < d.size := by have := (List.getElem?_eq_some_iff.1 hx).1; simpa using this
  have hi := (List.getElem?_eq_some_iff.1 hv).1
  rw [show (clF x).length = 4 from clE_len _] at hi
  have h1 := (HoldsK.cell h hj hi).1
  have e1 : d[j]! = x := by
    rw [getElem!_pos d j hj]
    rw [Array.getElem?_toList, Array.getElem?_eq_getElem hj] at hx
    exact Option.some.inj hx
  rw [e1] at h1
  rw [h1, getElem!_pos _ _ (by rw [show (clF x).length = 4 from clE_len _]; exact hi)]
  rw [List.getElem?_eq_getElem (by rw [show (clF x).length = 4 from clE_len _]; exact hi)] at hv
  exact hv
theorem sorted_keys {S d : List Ent} (hp : d.Perm S) (hk : S.Pairwise fun a b => a.key ≠ b.key) (hs : Sort.SortedIn (ltOf fun x y : Ent => cmpS x.key y.key) 0 d.length d.toArray) : Srt d := by
  have hk2 := hp.symm.pairwise hk (fun e => e.symm)
  rw [Srt, List.pairwise_iff_getElem]
  rw [List.pairwise_iff_getElem] at hk2
  intro i j hi hj hij
  have h1 := hs i j (Nat.zero_le _) hij hj
  rw [ltE, getElem!_pos d.toArray i (by simpa using hi), getElem!_pos d.toArray j (by simpa using hj)] at h1
  simp only [Sort.ltStr, decide_eq_false_iff_not, List.getElem_toArray] at h1
  exact str_tri h1 (fun e => hk2 i j hi hj hij e.symm)
theorem info_hspF : (Try.prog.info? 143).map (fun i => (i.zero, i.size, i.bytes)) = some (some (.agg (clE none).toArray), 4, 40) := info_hsp
theorem Kept.of_grown' {a b : World} {g : Nat} (h : a.grownBy b (some g)) : Kept (fun k => k = g) a b := (Kept.of_grown h).mono (fun _ _ e => by injection e)
theorem grownF {w : World} {g n : Nat} {os : Array Obj} (F : Array Value) : w.grownBy (grow (putRow id (Sort.ahead w n) g 0 F) os) (some g) := by
  refine ⟨rfl, rfl, rfl, by simp, fun k hk hne => ?_⟩
  have hgk : g ≠ k := fun e => hne (by rw [e])
  rw [heap_grow_old _ _ (by simpa using hk)]
  simp [putRow, mapBlock, Sort.ahead, Array.getElem?_modify, hgk]
theorem sortF (g cap : Nat) (S : List Ent) (w : World) (hH : HoldsK clF 4 w g 0 S.toArray) (hg : g < w.heap.size) (hS : S.length ≤ 1000000) (hk : S.Pairwise fun a b => a.key ≠ b.key) :
    Calls Try.prog 79 #[.slice (some ⟨g, 0, none⟩) S.length cap, .func (.func 80) #[] #[]] w fun e w' =>
      e = .returned (.tuple #[]) ∧ ∃ d, d.Perm S ∧ Srt d ∧ RdS clF 4 w' w'.heap.size (some ⟨g, 0, none⟩) d ∧ Kept (fun k => k = g) w w' := by
  have eg : ∀ args w, (callFunc 80 args).run Try.prog w = .ok (.enter 80 args) w := enters_of Try.func80 (by kernel_rfl) rfl
  have hcmp : CmpLays Try.prog 80 #[] clF 4 (fun x y : Ent => cmpS x.key y.key) g 0 S.toArray.size w := fun _ _ _ _ x y => hsall1 x y _
  have hcon := AnyQ.slices_SortFunc Try.sortHs 4 Try.isAgg143 Try.sizeOf143 clF (fun x => clE_len _) (fun x v hv => by simp [clF, clE] at hv; rcases hv with rfl | rfl | rfl | rfl <;> rfl) (fun x y : Ent => cmpS x.key y.key) swoE 80 #[] g 0 cap S.toArray w eg hcmp hH hg (by rw [List.size_toArray]; omega)
  rw [List.size_toArray] at hcon
  change Calls Try.prog 79 _ _ _ at hcon
  refine hcon.mono ?_
  rintro e w' ⟨rfl, d', n, os, hp, hs, rfl⟩
  have hz : d'.size = S.length := by have := hp.1; rwa [List.size_toArray] at this
  have hpm : d'.toList.Perm S := by
    have h3 := hp.2.2
    rw [show S.toArray.extract 0 S.length = S.toArray from by simp, ← hz, show d'.extract 0 d'.size = d' from by simp] at h3
    exact h3
  have hH2 := holdsK_sortWorldK clF 4 w g 0 n S.toArray d' os hg hH hp.1
  have hg2 := lt_sortWorldK clF 4 w g 0 n d' os hg
  refine ⟨rfl, d'.toList, hpm, sorted_keys hpm hk ?_, rds_of_holds hH2 hg2, Kept.of_grown' (grownF (w := w) (g := g) (n := n) (os := os) (flatK clF 4 d'))⟩
  rw [Array.length_toList, hz]
  exact hs
end Ythdaclbgandmcaa
end Go.Proofs

/-
  All of layer 18's code, and the iterator over what it found. Conditions are each theorem's own.
-/
namespace Go.Proofs.Ythdaclbgandmcaa
open Go.RowKit Go.Shelf
attribute [local go_sem] Oper.semAt_some

theorem clF_len (e : Ent) : (clF e).length = 4 := clE_len _
theorem run_bsH {o : Oper} {a : Act} {w : World} {x : Operand} {cs : Array Value} (ho : o.op = .buildSlice 79 1 #[(0, x)]) (hx : a.eval x = .agg cs) (hl : cs.size = 4) :
    (execOp a.eval o).run Try.prog w = .ok (.value (.slice (some ⟨w.heap.size, 0, none⟩) 1 1)) (w.alloc (.cells cs 143)) := by
  obtain ⟨i0, hi, hz0, hz1, hz2⟩ := info_parts info_hsp
  have h := run_lit1 (P := Try.prog) w 79 143 i0 _ cs 4 Try.underlying79 hi hz0 hz1 hl (by decide) (by decide)
  unfold execOp
  simp only [ho, List.map_toArray, List.map_cons, List.map_nil, hx, Sem.run_bind, h, Result.andThen_ok]
  rfl
theorem list_growH {P : Program} {ops : Array Oper} {rest : List Oper} {o : Oper} {a : Act} {w w' : World} {Q : Exit → Act → World → Prop} {v : Value} (hg : o.guard = none) (hrun : (execOp a.eval o).run P w = .ok (.value v) w')
    (h : wpList P ops Q rest (a.put o.dst v) w') : wpList P ops Q (o :: rest) a w :=
  wpList_plain hg fun _ hK => by unfold Oper.wp; rw [hrun]; exact hK _ _ h
theorem append_hF {w : World} {ops : Array Oper} {rest : List Oper} {o : Oper} {a : Act} {Q : Exit → Act → World → Prop} (hgd : o.guard = none) (s x : Operand)
    (ho : o.op = .call { callee := .builtin .append, args := #[s, x], argTypes := #[79, 79] })
    (base : Nat) (v : Value) (S : List Ent) (hs : a.eval s = v) (hown : w.ownsRow base 143 4 v S.length (S.flatMap clF))
    (g : Nat) (y : Ent) (hx : a.eval x = .slice (some ⟨g, 0, none⟩) 1 1) (hy : w.rangeAt g 0 (clF y))
    (hlen : S.length ≤ 1000000) (hbase : base ≤ w.heap.size)
    (h : ∀ v' w', w'.ownsRow base 143 4 v' (S ++ [y]).length ((S ++ [y]).flatMap clF) → w.grownBy w' v.ownBlock → wpList Try.prog ops Q rest (a.put o.dst v') w') : wpList Try.prog ops Q (o :: rest) a w := by
  obtain ⟨i0, hi, hz0, hz1, hz2⟩ := info_parts info_hsp
  refine wpList_append_own w hgd s x 79 ho base 143 i0 _ 4 40 Try.underlying79 hi hz0 hz1 hz2 rfl (by decide) v S.length (S.flatMap clF) hs hown ⟨g, 0, none⟩ 1 1 (clF y) hx
      (clF_len y) (fun j u hu => ?_) (fun u hu => by simp [clF, clE] at hu; rcases hu with rfl | rfl | rfl | rfl <;> rfl) (by unfold maxLen; omega) (by omega) hbase (fun v' w' h1 h2 _ => h v' w' ?_ h2)
  · rw [add_off]; exact hy j u hu
  · rw [List.length_append, List.flatMap_append]
    simpa using h1
theorem take_len {L : List (Option Ent)} (k : Nat) : (ents (L.take k)).length ≤ L.length := by
  have := ents_len (L.take k)
  rw [List.length_take] at this
  omega
/-- What All makes: an iterator over a box, whose slice reads as these entries. -/
def AllOut (w : World) (S : List Ent) (e : Ending) (w' : World) : Prop :=
  e = .returned (.func (.func 82) #[] #[.pointer (some ⟨w.heap.size, 0, none⟩)]) ∧ ∃ A c, Boxed w' w.heap.size 79 (.slice A S.length c) ∧ RdS clF 4 w' w'.heap.size A S ∧ (∀ g, A = some g → g.block ≠ w.heap.size) ∧ Below w.heap.size w w'
set_option maxRecDepth 100000 in
theorem hsall_nil (w : World) : Calls Try.prog 43 #[.pointer none] w fun e w' => AllOut w [] e w' := by
  have hb := Boxed.new w 79 (.slice none 0 0)
  have kb := Boxed.cell hb
  have hB : Below w.heap.size w (w.alloc (.cells #[.slice none 0 0] 79)) := (Below.refl _ w).alloc (Nat.le_refl _) _
  have hs := fun W => AnyF.slices_SortFunc_none { Try.sortHs with } none 0 (.func (.func 80) #[] #[]) W
  change ∀ W, Calls Try.prog 79 _ _ _ at hs
  go_enter Try.func43, Try.ntmps43
  go_wp2_with (first
    | (go_at_call 72; refine (hsmade_nil _).mono ?_; rintro e w1 ⟨rfl, rfl⟩)
    | (go_at_call 79; refine (hs _).mono ?_; rintro e w1 ⟨rfl, rfl⟩))
  refine bodyPost_ret (results_tmp rfl _ _ _) rfl ⟨rfl, none, 0, hb, (fun h => absurd h (by simp)), (fun g e => by cases e), hB⟩
section
variable {w : World} {B0 t b : Nat} {most : Int} {L : List (Option Ent)}
set_option maxRecDepth 100000 in
set_option maxHeartbeats 2000000 in
theorem hsall (h : HTab w B0 t b most L) : Calls Try.prog 43 #[.pointer (some ⟨t, 0, none⟩)] w fun e w' => ∃ S, S.Perm (ents L) ∧ Srt S ∧ AllOut w S e w' := by
  have HH := Lib.hid h
  have k0 := h.hs.c0
  have hlen := h.len
  have hks := ents_keys h.prb
  obtain ⟨N, hNe⟩ : ∃ N, N = L.length := ⟨_, rfl⟩
  rw [← hNe] at k0 hlen
  have HNE := Lib.hid hNe
  obtain ⟨B, hBe⟩ : ∃ B, B = w.heap.size := ⟨_, rfl⟩
  have HBE := Lib.hid hBe
  have hB1 : B ≤ w.heap.size := by omega
  have hB2 : w.heap.size ≤ B := by omega
  have HK := Lib.hid hks
  have hW := Boxed.new w 79 (.slice none 0 0)
  have bW : Below w.heap.size w (w.alloc (.cells #[.slice none 0 0] 79)) := (Below.refl _ w).alloc (Nat.le_refl _) _
  have k0W : (w.alloc (.cells #[.slice none 0 0] 79)).cell? ⟨t, 0, none⟩ = some (.slice (some ⟨b, 0, none⟩) N N) := (World.cell?_alloc_lt w _ _ (heap_lt h.hs.tab)).trans k0
  have hte : 79 ≠ 143 := nat_ne (by kernel_rfl)
  clear h hks hNe
  go_enter Try.func43, Try.ntmps43
  rw [← hBe] at hW bW
  go_wp2_with (go_at_call 72; refine (hsmade t b _ _ _ k0W).mono ?_; rintro e w1 ⟨rfl, rfl⟩)
  rw [← HBE.out]
  clear hBe k0W
  generalize w.alloc (.cells #[.slice none 0 0] 79) = W at *
  go_loopw [13] (fun i wr => ∃ (k : Nat) (v : Value), k ≤ N ∧ i = .int .i64 (k : Int) ∧ Hid (Boxed wr B 79 v) ∧ Hid (wr.ownsRow B 143 4 v (ents (L.take k)).length ((ents (L.take k)).flatMap clF)) ∧ Below B w wr)
    (fun i _ => N - (intOf i).toNat)
  case atStart => exact ⟨0, _, Nat.zero_le _, rfl, Lib.hid hW, Lib.hid (World.ownsRow_nil _ _ _ _), bW⟩
  case round =>
    obtain ⟨k, v, hk, rfl, HB, HO, hbel⟩ := hrel
    clear hW bW
    have kb := HB.out.cell
    have hBz := hbel.size
    by_cases hlt : k < N
    · have hkl : k < L.length := by rw [← HNE.out]; exact hlt
      have hrow := (HH.out.hs.below (hbel.mono hB2)).at_ (plH_get hkl)
      obtain ⟨V, hV⟩ : ∃ V, V = wr.alloc (.cells (clE (plH L k)).toArray 143) := ⟨_, rfl⟩
      have HV := Lib.hid hV
      have bV : Below wr.heap.size wr V := by rw [hV]; exact (Below.refl _ wr).alloc (Nat.le_refl _) _
      have hbV : V.heap[wr.heap.size]? = some (.cells (clE (plH L k)).toArray 143 (0, 0)) := by rw [hV]; exact World.alloc_heap_new wr _
      have hOV := HO.out.alloc (.cells (clE (plH L k)).toArray 143)
      rw [← hV] at hOV
      have hBV : Boxed V B 79 v := by rw [hV]; exact HB.out.alloc _
      have HBV := Lib.hid hBV
      have HOV := Lib.hid hOV
      have kbV := hBV.cell
      have kfV := hBV.frozen
      have hVz := bV.size
      have bw : Below B w V := hbel.trans (bV.mono (Nat.le_trans hB1 hBz))
      clear hV hOV hBV
      cases hp : plH L k with
      | none =>
        rw [hp] at hrow hbV HV
        have kx0 : V.cell? ⟨wr.heap.size, 0, none⟩ = some (.bool false) := cells_at (i := 0) hbV rfl
        have HP0 := Lib.hid hp
        clear hp
        go_wp2_with (first
          | ((with_reducible show wpList _ _ _ (Oper.mk _ (Op.load 143 _) _ _ _ _ :: _) _ _); refine wpList_val rfl (run_load_hsp rfl rfl hrow rfl) ?_)
          | ((with_reducible show wpList _ _ _ (Oper.mk _ (Op.store 143 _ _) _ _ _ _ :: _) _ _); refine hsp_store_new (cs := (clE none).toArray) rfl rfl rfl rfl (clE_one _) ?_; rw [← HV.out]))
        go_roundw
        case rel => exact ⟨k + 1, v, by omega, by simp, HBV, Lib.hid (by rw [take_none hkl HP0.out]; exact HOV.out), bw⟩
        case measure => simp [intOf]; omega
      | some x =>
        rw [hp] at hrow hbV HV
        have kx0 : V.cell? ⟨wr.heap.size, 0, none⟩ = some (.bool true) := cells_at (i := 0) hbV rfl
        have HP0 := Lib.hid hp
        have hrV : V.rangeAt wr.heap.size 0 (clE (some x)) := range_heap hbV
        obtain ⟨V2, hV2⟩ : ∃ V2, V2 = V.alloc (.cells (clE (some x)).toArray 143) := ⟨_, rfl⟩
        have HV2 := Lib.hid hV2
        have hrV2 : V2.rangeAt V.heap.size 0 (clF x) := by rw [hV2]; exact range_heap (World.alloc_heap_new V _)
        have hOV2 := HOV.out.alloc (.cells (clE (some x)).toArray 143)
        rw [← hV2] at hOV2
        have hz2 : V.heap.size ≤ V2.heap.size := by rw [hV2]; simp
        have hle : (ents (L.take k)).length ≤ 1000000 := by have := take_len (L := L) k; have := HNE.out; omega
        clear hp hV2
        go_wp2_with (first
          | ((with_reducible show wpList _ _ _ (Oper.mk _ (Op.load 143 _) _ _ _ _ :: _) _ _); refine wpList_val rfl (run_load_hsp rfl rfl hrV rfl) ?_)
          | ((with_reducible show wpList _ _ _ (Oper.mk _ (Op.load 143 _) _ _ _ _ :: _) _ _); refine wpList_val rfl (run_load_hsp rfl rfl hrow rfl) ?_)
          | ((with_reducible show wpList _ _ _ (Oper.mk _ (Op.store 143 _ _) _ _ _ _ :: _) _ _); refine hsp_store_new (cs := (clE (some x)).toArray) rfl rfl rfl rfl (clE_one _) ?_; rw [← HV.out])
          | ((with_reducible show wpList _ _ _ (Oper.mk _ (Op.buildSlice _ _ _) _ _ _ _ :: _) _ _); refine list_growH rfl (run_bsH (cs := (clE (some x)).toArray) rfl rfl rfl) ?_; rw [← HV2.out])
          | (at_builtin; refine append_hF rfl _ _ rfl B _ (ents (L.take k)) rfl hOV2 V.heap.size x rfl hrV2 hle (by omega) ?_; intro v' w3 hown' hgrow; rw [HV2.out] at hgrow; obtain ⟨q1, q2, q3, q4, q5⟩ := Boxed.appended HBV.out hte HOV.out (by omega) (Nat.le_refl _) hown' hgrow; have qc := q1.cell; have qf := q1.frozen; have Q2 := Lib.hid q2; have Q3 := Lib.hid q3; clear hown' hgrow q1 q2 q3 q4; obtain ⟨A', c', rfl⟩ : ∃ A c, v' = .slice A ((ents (L.take k)).length + 1) c := (by rcases Q3.out.2 with ⟨e, h0⟩ | ⟨g, cap, cur, e, _⟩; exact absurd h0 (by simp); exact ⟨_, _, by rw [e, List.length_append]; rfl⟩)))
        go_roundw
        case rel => exact ⟨k + 1, _, by omega, by simp, Q2, Lib.hid (by rw [take_some hkl HP0.out]; exact Q3.out), bw.trans q5⟩
        case measure => simp [intOf]; omega
    · obtain rfl : N = k := by omega
      have hLk : ents (L.take N) = ents L := by rw [List.take_of_length_le (by rw [← HNE.out]; exact Nat.le_refl _)]
      rw [hLk] at HO
      have hle : (ents L).length ≤ 1000000 := by have := ents_len L; have := HNE.out; omega
      have HLE := Lib.hid hle
      clear hLk hle
      rcases HO.out.2 with ⟨e1, h0⟩ | ⟨gb, cap, cur, e1, hbase, hgb, r1, r2, r3, r4⟩
      · subst e1
        have hs := fun W => AnyF.slices_SortFunc_none { Try.sortHs with } none 0 (.func (.func 80) #[] #[]) W
        change ∀ W, Calls Try.prog 79 _ _ _ at hs
        have H0 := Lib.hid h0
        clear h0
        go_wp2_with (go_at_call 79; refine (hs _).mono ?_; rintro e w1 ⟨rfl, rfl⟩)
        have hE : ents L = [] := List.eq_nil_of_length_eq_zero H0.out
        refine bodyPost_ret (results_tmp rfl _ _ _) rfl ⟨[], by rw [hE], List.Pairwise.nil, by rw [← HBE.out]; rfl, none, 0, by rw [← HBE.out]; exact HB.out, (fun h => absurd h (by simp)), (fun g e => by cases e), hbel.mono hB2⟩
      · subst e1
        have hH := holdsF (S := ents L) hgb (by simpa using r4)
        have hsort := sortF gb cap (ents L) wr hH (heap_lt hgb) HLE.out HK.out
        have HSO := Lib.hid hsort
        obtain ⟨q, hq⟩ : ∃ q, q = (ents L).length := ⟨_, rfl⟩
        rw [← hq] at kb HSO
        have HQ := Lib.hid hq
        have hgB : gb ≠ B := fun e => by
          have h1 : wr.heap[B]? = _ := HB.out
          rw [← e, hgb] at h1
          injection h1 with h1
          injection h1 with _ h2 _
          exact hte h2.symm
        clear hH hsort hq r1 r2 r3 r4
        go_wp2_with (go_at_call 79; refine HSO.out.mono ?_; rintro e w3 ⟨rfl, S, s1, s2, s3, s4⟩; have HS := Lib.hid (show _ ∧ _ ∧ _ ∧ _ from ⟨s1, s2, s3, s4⟩); clear s1 s2 s3 s4)
        obtain ⟨s1, s2, s3, s4⟩ := HS.out
        refine bodyPost_ret (results_tmp rfl _ _ _) rfl ⟨S, s1, s2, by rw [← HBE.out]; rfl, _, cap, ?_, s3, (fun g e => by cases e; rw [← HBE.out]; exact hgB), (hbel.trans (s4.below (Nat.le_trans hB1 hBz) (fun k e => by rw [e]; exact hbase))).mono hB2⟩
        rw [← HBE.out, s1.length_eq]
        exact Boxed.keptH HB.out s4 (fun e => hgB e.symm)
end
end Go.Proofs.Ythdaclbgandmcaa

/-
  The document's table of layer 18: what it holds; New, Get, Delete. Conditions are each theorem's own.
-/
namespace Go.Proofs.Ythdaclbgandmcaa
open Go.RowKit Go.Shelf
def clQ (e : Ent) : List Value := [.string (strB e.key), .int .i64 e.n]
theorem clQ_len (e : Ent) : (clQ e).length = 2 := rfl
theorem clQ_one (e : Ent) : ∀ u ∈ clQ e, u.oneCell' = true := fun u hu => by simp [clQ] at hu; rcases hu with rfl | rfl <;> rfl
theorem info_q : (Try.prog.info? 147).map (fun i => (i.zero, i.size, i.bytes)) = some (some (.agg #[.string ByteArray.empty, .int .i64 0]), 2, 24) := by kernel_rfl
theorem neQ : 147 ≠ 138 ∧ 138 ≠ 81 ∧ 138 ≠ 143 ∧ 147 ≠ 81 ∧ 147 ≠ 143 :=
  ⟨nat_ne (by kernel_rfl), nat_ne (by kernel_rfl), nat_ne (by kernel_rfl), nat_ne (by kernel_rfl), nat_ne (by kernel_rfl)⟩
theorem own_move {w w' : World} {base n : Nat} {v : Value} {xs : List Value} (h : w.ownsRow base 147 2 v n xs) (hk : ∀ (k : Nat) (cur : Array Value), w.heap[k]? = some (Obj.cells cur 147 (0, 0)) → w'.heap[k]? = w.heap[k]?) : w'.ownsRow 0 147 2 v n xs := by
  refine ⟨h.1, ?_⟩
  rcases h.2 with hn | ⟨g, cap, cur, hv, hb, hg, rest⟩
  · exact .inl hn
  · exact .inr ⟨g, cap, cur, hv, Nat.zero_le _, (hk g cur hg).trans hg, rest⟩
/-- The document's table in block g holds the entries S. -/
structure Rq (w : World) (g : Nat) (v : Value) (most : Int) (S : List Ent) : Prop where
  tab : w.heap[g]? = some (.cells #[v, .int .i64 most] 138 (0, 0))
  own : w.ownsRow 0 147 2 v S.length (S.flatMap clQ)
section
variable {w w' : World} {g : Nat} {v : Value} {most : Int} {S : List Ent} {key : List UInt8} {n : Int}
theorem Rq.kh (h : Rq w g v most S) (k : KH w w') : Rq w' g v most S :=
  ⟨k.heap h.tab neQ.2.1 neQ.2.2.1, own_move h.own (fun _ _ hk => k.block _ _ _ _ hk neQ.2.2.2.1 neQ.2.2.2.2)⟩
theorem Rq.below (h : Rq w g v most S) (hb : Below w.heap.size w w') : Rq w' g v most S := h.kh (KH.of_below hb)
theorem Rq.sh (h : Rq w g v most S) : ∃ A c, v = .slice A S.length c ∧ RdS clQ 2 w w.heap.size A S ∧ S.length ≤ c ∧ (A = none → c = 0) := by
  obtain ⟨A, c, e, h1, h2⟩ := own_rds h.own rfl rfl (fun x _ => clQ_len x)
  refine ⟨A, c, e, h1, h2, fun e2 => ?_⟩
  rcases h.own.2 with ⟨e3, _⟩ | ⟨b, cap, cur, e3, _⟩
  · rw [e] at e3; injection e3
  · rw [e, e2] at e3; injection e3 with e3; cases e3
theorem Rq.at_ {A : Option Addr} {m c : Nat} (h : Rq w g (.slice A m c) most S) {k : Nat} {x : Ent} (hx : S[k]? = some x) : ∃ b, A = some ⟨b, 0, none⟩ ∧ w.rangeAt b (k * 2) (clQ x) := by
  have hk := (List.getElem?_eq_some_iff.1 hx).1
  rcases h.own.2 with ⟨_, h0⟩ | ⟨b, cap, cur, e3, _⟩
  · omega
  · injection e3 with e1 e2 e4
    refine ⟨b, e1, fun i u hi => ?_⟩
    have hf := flat_at (cl := clQ) (sz := 2) S (fun x _ => clQ_len x) k x hx i u hi
    have hl := (List.getElem?_eq_some_iff.1 hf).1
    rw [flat_len S (fun x _ => clQ_len x)] at hl
    subst e1; subst e2
    have := World.ownsRow.cellAt h.own (k * 2 + i) hl
    rw [hf] at this
    exact this
theorem Rq.new (w : World) (most : Int) : Rq (w.alloc (.cells #[.slice none 0 0, .int .i64 most] 138)) w.heap.size (.slice none 0 0) most [] := ⟨World.alloc_heap_new w _, World.ownsRow_nil _ _ _ _⟩
theorem Rq.put {X : World} {u : Value} {base : Nat} {R : List Ent} (ht : w.heap[g]? = some (.cells #[v, .int .i64 most] 138 (0, 0))) (ho : w.ownsRow base 147 2 u R.length (R.flatMap clQ)) (hX : X = w.setCell ⟨g, 0, none⟩ u) : Rq X g u most R := by
  subst hX
  refine ⟨heap_setCell_same w g 0 _ _ u ht, own_move ho fun k cur hk => heap_setCell_other w ⟨g, 0, none⟩ k u (fun e => ?_)⟩
  have e : g = k := by first | exact e | exact e.symm
  rw [← e, ht] at hk
  injection hk with hk
  injection hk with _ e2 _
  exact neQ.1 e2.symm
/-- The entries without a key. -/
def outQ (key : List UInt8) (S : List Ent) : List Ent := S.filter fun y => decide (y.key ≠ key)
theorem outQ_step {k : Nat} {x : Ent} (hx : S[k]? = some x) : outQ key (S.take (k + 1)) = outQ key (S.take k) ++ if x.key ≠ key then [x] else [] := by
  unfold outQ
  rw [List.take_add_one, hx, List.filter_append]
  congr 1
  by_cases h : x.key = key <;> simp [h]
theorem outQ_len : (outQ key S).length ≤ S.length := List.length_filter_le _ _
theorem r18new_ok (most : Int) (w : World) (h0 : 0 ≤ most) (h1 : most ≤ 65536) : Calls Try.prog 33 #[.int .i64 most] w fun e w' => e = .returned (.tuple #[.pointer (some ⟨w.heap.size, 0, none⟩), .int .i64 0]) ∧ Rq w' w.heap.size (.slice none 0 0) most [] ∧ Below w.heap.size w w' := by
  have d1 : decide (most < 0) = false := decide_eq_false (by omega)
  have d2 : decide (65536 < most) = false := decide_eq_false (by omega)
  have hN := Lib.hid (Rq.new w most)
  have hB := (Below.refl w.heap.size w).alloc (Nat.le_refl _) (.cells #[.slice none 0 0, .int .i64 most] 138)
  clear h0 h1
  go_enter Try.func33, Try.ntmps33
  go_wp2
  refine bodyPost_ret (results_tmp2 rfl _ _ _) rfl ⟨rfl, hN.out, hB⟩
theorem r18new_bad (most : Int) (w : World) (h0 : most < 0 ∨ 65536 < most) : Calls Try.prog 33 #[.int .i64 most] w fun e w' => e = .returned (.tuple #[.pointer none, .int .i64 1]) ∧ w = w' := by
  by_cases h1 : most < 0
  · have d1 : decide (most < 0) = true := decide_eq_true (by omega)
    clear h0 h1
    go_enter Try.func33, Try.ntmps33
    go_wp2
    refine bodyPost_ret (results_tmp2 rfl _ _ _) rfl ⟨rfl, rfl⟩
  · have d1 : decide (most < 0) = false := decide_eq_false (by omega)
    have d2 : decide (65536 < most) = true := decide_eq_true (by omega)
    clear h0 h1
    go_enter Try.func33, Try.ntmps33
    go_wp2
    refine bodyPost_ret (results_tmp2 rfl _ _ _) rfl ⟨rfl, rfl⟩
set_option maxRecDepth 100000 in
theorem r18get_yes (h : Rq w g v most S) {i : Nat} {x : Ent} (hx : S[i]? = some x) (hn : ∀ j y, j < i → S[j]? = some y → y.key ≠ x.key) (hS : S.length ≤ 1000) : Calls Try.prog 39 #[.pointer (some ⟨g, 0, none⟩), .string (strB x.key)] w fun e w' => e = .returned (.tuple #[.int .i64 x.n, .bool true]) ∧ Below w.heap.size w w' := by
  obtain ⟨A, c, rfl, hrd, hcap, _⟩ := h.sh
  obtain ⟨n, hne⟩ : ∃ n, n = S.length := ⟨_, rfl⟩
  have hin : i < n := by rw [hne]; exact (List.getElem?_eq_some_iff.1 hx).1
  have HX := Lib.hid hx
  have HNK := Lib.hid hn
  have HSL := Lib.hid hne
  rw [← hne] at h hS hcap
  have H := Lib.hid h
  clear h hx hn hne hrd
  go_enter Try.func39, Try.ntmps39
  go_wp2
  go_loopw [6] (fun z wr => ∃ k : Nat, k ≤ i ∧ z = .int .i64 (k : Int) ∧ Below w.heap.size w wr) (fun z _ => n - (intOf z).toNat)
  case atStart => exact ⟨0, Nat.zero_le _, rfl, Below.refl _ _⟩
  case round =>
    obtain ⟨k, hk, rfl, hbel⟩ := hrel
    have hw := H.out.below hbel
    have kt : wr.cell? ⟨g, 0, none⟩ = some (.slice A n c) := cells_at (i := 0) hw.tab rfl
    have hkn : k < n := by omega
    obtain ⟨y, hy⟩ : ∃ y, S[k]? = some y := ⟨_, List.getElem?_eq_getElem (by rw [← HSL.out]; exact hkn)⟩
    obtain ⟨b, rfl, hr⟩ := hw.at_ hy
    have kx0 : wr.cell? ⟨b, k * 2, none⟩ = some (.string (strB y.key)) := by simpa using hr 0 _ rfl
    have kx1 : wr.cell? ⟨b, k * 2 + 1, none⟩ = some (.int .i64 y.n) := by simpa using hr 1 _ rfl
    clear hw hr
    by_cases hki : k = i
    · subst hki
      have e2 : y = x := Option.some.inj (hy.symm.trans HX.out)
      subst e2
      have dk : ((strB y.key).toList == (strB y.key).toList) = true := by simp
      clear hy
      go_wp2
      refine bodyPost_ret (results_tmp2 rfl _ _ _) rfl ⟨rfl, hbel⟩
    · have hne := HNK.out k y (by omega) hy
      have dk : ((strB y.key).toList == (strB x.key).toList) = false := by rw [strB_eq]; exact decide_eq_false hne
      clear hne hy
      go_wp2
      go_roundw
      case rel => exact ⟨k + 1, by omega, by simp, hbel⟩
      case measure => simp [intOf]; omega
set_option maxRecDepth 100000 in
theorem r18get_no (h : Rq w g v most S) (hn : ∀ y ∈ S, y.key ≠ key) (hS : S.length ≤ 1000) : Calls Try.prog 39 #[.pointer (some ⟨g, 0, none⟩), .string (strB key)] w fun e w' => e = .returned (.tuple #[.int .i64 0, .bool false]) ∧ Below w.heap.size w w' := by
  obtain ⟨A, c, rfl, hrd, hcap, _⟩ := h.sh
  obtain ⟨n, hne⟩ : ∃ n, n = S.length := ⟨_, rfl⟩
  have HNK := Lib.hid hn
  have HSL := Lib.hid hne
  rw [← hne] at h hS hcap
  have H := Lib.hid h
  clear h hn hne hrd
  go_enter Try.func39, Try.ntmps39
  go_wp2
  go_loopw [6] (fun z wr => ∃ k : Nat, k ≤ n ∧ z = .int .i64 (k : Int) ∧ Below w.heap.size w wr) (fun z _ => n - (intOf z).toNat)
  case atStart => exact ⟨0, Nat.zero_le _, rfl, Below.refl _ _⟩
  case round =>
    obtain ⟨k, hk, rfl, hbel⟩ := hrel
    have hw := H.out.below hbel
    have kt : wr.cell? ⟨g, 0, none⟩ = some (.slice A n c) := cells_at (i := 0) hw.tab rfl
    by_cases hkn : k < n
    · obtain ⟨y, hy⟩ : ∃ y, S[k]? = some y := ⟨_, List.getElem?_eq_getElem (by rw [← HSL.out]; exact hkn)⟩
      obtain ⟨b, rfl, hr⟩ := hw.at_ hy
      have kx0 : wr.cell? ⟨b, k * 2, none⟩ = some (.string (strB y.key)) := by simpa using hr 0 _ rfl
      have hne := HNK.out y (List.mem_of_getElem? hy)
      have dk : ((strB y.key).toList == (strB key).toList) = false := by rw [strB_eq]; exact decide_eq_false hne
      clear hne hy hw hr
      go_wp2
      go_roundw
      case rel => exact ⟨k + 1, by omega, by simp, hbel⟩
      case measure => simp [intOf]; omega
    · obtain rfl : n = k := by omega
      clear hw
      go_wp2
      refine bodyPost_ret (results_tmp2 rfl _ _ _) rfl ⟨rfl, hbel⟩
end
end Go.Proofs.Ythdaclbgandmcaa

/-
  The document's table of layer 18: rows that grow; Delete. Conditions are each theorem's own.
-/
namespace Go.Proofs.Ythdaclbgandmcaa
open Go.RowKit Go.Shelf
theorem run_bsQ {o : Oper} {a : Act} {w : World} {x : Operand} {cs : Array Value} (ho : o.op = .buildSlice 136 1 #[(0, x)]) (hx : a.eval x = .agg cs) (hl : cs.size = 2) :
    (execOp a.eval o).run Try.prog w = .ok (.value (.slice (some ⟨w.heap.size, 0, none⟩) 1 1)) (w.alloc (.cells cs 147)) := by
  obtain ⟨i0, hi, hz0, hz1, hz2⟩ := info_parts info_q
  have h := run_lit1 (P := Try.prog) w 136 147 i0 _ cs 2 Try.underlying136 hi hz0 hz1 hl (by decide) (by decide)
  unfold execOp
  simp only [ho, List.map_toArray, List.map_cons, List.map_nil, hx, Sem.run_bind, h, Result.andThen_ok]
  rfl
theorem clQ_flat (l : List Ent) : (l.flatMap clQ).length = l.length * 2 := flat_len l (fun x _ => clQ_len x)
theorem rds_srcQ {w : World} {B : Nat} {ad : Addr} {l : List Ent} (hr : RdS clQ 2 w B (some ad) l) : ∀ j u, (l.flatMap clQ)[j]? = some u → w.cell? (ad.add j) = some u := fun j u hj => by
  have hj3 : j < l.length * 2 := by have := (List.getElem?_eq_some_iff.1 hj).1; rwa [clQ_flat] at this
  obtain ⟨b, off, e, _, hc⟩ := hr (by omega)
  injection e with e
  subst e
  obtain ⟨y, hy⟩ : ∃ y, l[j / 2]? = some y := ⟨_, List.getElem?_eq_getElem (by omega)⟩
  have h2 : j % 2 < (clQ y).length := by rw [clQ_len]; omega
  have hf := flat_at (cl := clQ) (sz := 2) l (fun x _ => clQ_len x) (j / 2) y hy (j % 2) _ (List.getElem?_eq_getElem h2)
  rw [show j / 2 * 2 + j % 2 = j from by omega, hj] at hf
  injection hf with hf
  have h8 := hc (j / 2) y hy (j % 2) _ (List.getElem?_eq_getElem h2)
  rw [← hf, show off + j / 2 * 2 + j % 2 = off + j from by omega] at h8
  rw [add_off]; exact h8
theorem ones_Q (l : List Ent) : ∀ u ∈ l.flatMap clQ, u.oneCell' = true := fun u hu => by
  obtain ⟨y, _, h⟩ := List.mem_flatMap.1 hu
  exact clQ_one y u h
theorem append_qL {w : World} {ops : Array Oper} {rest : List Oper} {o : Oper} {a : Act} {Q : Exit → Act → World → Prop} (hgd : o.guard = none) (s x : Operand)
    (ho : o.op = .call { callee := .builtin .append, args := #[s, x], argTypes := #[136, 136] })
    (base : Nat) (v : Value) (S : List Ent) (hs : a.eval s = v) (hown : w.ownsRow base 147 2 v S.length (S.flatMap clQ))
    (g : Nat) (y : Ent) (hx : a.eval x = .slice (some ⟨g, 0, none⟩) 1 1) (hy : w.rangeAt g 0 (clQ y))
    (hlen : S.length ≤ 1000000) (hbase : base ≤ w.heap.size)
    (h : ∀ v' w', w'.ownsRow base 147 2 v' (S ++ [y]).length ((S ++ [y]).flatMap clQ) → w.grownBy w' v.ownBlock → wpList Try.prog ops Q rest (a.put o.dst v') w') : wpList Try.prog ops Q (o :: rest) a w := by
  obtain ⟨i0, hi, hz0, hz1, hz2⟩ := info_parts info_q
  refine wpList_append_own w hgd s x 136 ho base 147 i0 _ 2 24 Try.underlying136 hi hz0 hz1 hz2 rfl (by decide) v S.length (S.flatMap clQ) hs hown ⟨g, 0, none⟩ 1 1 (clQ y) hx
      (clQ_len y) (fun j u hu => ?_) (clQ_one y) (by unfold maxLen; omega) (by omega) hbase (fun v' w' h1 h2 _ => h v' w' ?_ h2)
  · rw [add_off]; exact hy j u hu
  · rw [List.length_append, List.flatMap_append]
    simpa using h1
section
variable {w w' : World} {g : Nat} {v : Value} {most : Int} {S : List Ent} {n : Int}
set_option maxRecDepth 100000 in
set_option maxHeartbeats 1000000 in
theorem r18del (h : Rq w g v most S) (hS : S.length ≤ 1000) (key : List UInt8) : Calls Try.prog 37 #[.pointer (some ⟨g, 0, none⟩), .string (strB key)] w fun e w' =>
    e = .returned (.bool (decide ((outQ key S).length < S.length))) ∧ ∃ v', Rq w' g v' most (outQ key S) ∧ Kept (fun k => k = g) w w' := by
  obtain ⟨A, c, rfl, hrd, hcap, _⟩ := h.sh
  obtain ⟨n, hne⟩ : ∃ n, n = S.length := ⟨_, rfl⟩
  have HSL := Lib.hid hne
  rw [← hne] at h hS hcap
  have H := Lib.hid h
  have h0 := World.ownsRow_nil w w.heap.size 147 2
  clear h hne hrd
  go_enter Try.func37, Try.ntmps37
  go_wp2
  go_loopw [5, 6] (fun u z wr => ∃ (k : Nat) (v : Value), k ≤ n ∧ z = .int .i64 (k : Int) ∧ v = u ∧ Hid (wr.ownsRow w.heap.size 147 2 v (outQ key (S.take k)).length ((outQ key (S.take k)).flatMap clQ)) ∧ Below w.heap.size w wr) (fun _ z _ => n - (intOf z).toNat)
  case atStart => exact ⟨0, _, Nat.zero_le _, rfl, rfl, Lib.hid h0, Below.refl _ _⟩
  case round =>
    obtain ⟨k, v, hk, rfl, rfl, HO, hbel⟩ := hrel
    clear h0
    have hw := H.out.below hbel
    have kt : wr.cell? ⟨g, 0, none⟩ = some (.slice A n c) := cells_at (i := 0) hw.tab rfl
    have kf := heap_frozen hw.tab 0
    have hz := hbel.size
    by_cases hkn : k < n
    · obtain ⟨y, hy⟩ : ∃ y, S[k]? = some y := ⟨_, List.getElem?_eq_getElem (by rw [← HSL.out]; exact hkn)⟩
      obtain ⟨b, rfl, hr⟩ := hw.at_ hy
      have kx0 : wr.cell? ⟨b, k * 2, none⟩ = some (.string (strB y.key)) := by simpa using hr 0 _ rfl
      have kx1 : wr.cell? ⟨b, k * 2 + 1, none⟩ = some (.int .i64 y.n) := by simpa using hr 1 _ rfl
      have HST := Lib.hid (outQ_step (key := key) hy)
      have hle : (outQ key (S.take k)).length ≤ 1000000 := by
        have h1 := outQ_len (key := key) (S := S.take k)
        rw [List.length_take] at h1
        omega
      clear hw hr hy
      by_cases he : y.key = key
      · have dk : ((strB y.key).toList == (strB key).toList) = true := by rw [strB_eq]; exact decide_eq_true he
        have HE : Hid (outQ key (S.take (k + 1)) = outQ key (S.take k)) := Lib.hid (by rw [HST.out, if_neg (by simpa using he), List.append_nil])
        clear he
        go_wp2
        go_roundw
        case rel => exact ⟨k + 1, _, by omega, by simp, rfl, Lib.hid (by rw [HE.out]; exact HO.out), hbel⟩
        case measure => simp [intOf]; omega
      · have dk : ((strB y.key).toList == (strB key).toList) = false := by rw [strB_eq]; exact decide_eq_false he
        have HE : Hid (outQ key (S.take (k + 1)) = outQ key (S.take k) ++ [y]) := Lib.hid (by rw [HST.out, if_pos (by simpa using he)])
        obtain ⟨V2, hV2⟩ : ∃ V2, V2 = wr.alloc (.cells (clQ y).toArray 147) := ⟨_, rfl⟩
        have HV2 := Lib.hid hV2
        have hrV2 : V2.rangeAt wr.heap.size 0 (clQ y) := by rw [hV2]; exact range_heap (World.alloc_heap_new wr _)
        have hOV2 : V2.ownsRow w.heap.size 147 2 v (outQ key (S.take k)).length ((outQ key (S.take k)).flatMap clQ) := by rw [hV2]; exact HO.out.alloc _
        have hbV2 : Below w.heap.size w V2 := by rw [hV2]; exact hbel.alloc hz _
        have hzV := hbV2.size
        clear he hV2
        go_wp2_with (first
          | ((with_reducible show wpList _ _ _ (Oper.mk _ (Op.buildSlice _ _ _) _ _ _ _ :: _) _ _); refine list_growH rfl (run_bsQ (cs := (clQ y).toArray) rfl rfl rfl) ?_; rw [← HV2.out])
          | (at_builtin; refine append_qL rfl _ _ rfl w.heap.size _ (outQ key (S.take k)) rfl hOV2 wr.heap.size y rfl hrV2 hle hzV ?_; intro v' w3 hown' hgrow; have Q3 := Lib.hid hown'; have q5 := hbV2.grown hgrow hzV (fun k hk => own_block_ge hOV2 k hk); clear hown' hgrow))
        go_roundw
        case rel => exact ⟨k + 1, _, by omega, by simp, rfl, Lib.hid (by rw [HE.out]; exact Q3.out), q5⟩
        case measure => simp [intOf]; omega
    · obtain rfl : n = k := by omega
      have hLk : outQ key (S.take n) = outQ key S := by rw [List.take_of_length_le (by rw [← HSL.out]; exact Nat.le_refl _)]
      rw [hLk] at HO
      obtain ⟨A', c', e5, _, _⟩ := own_rds HO.out rfl rfl (fun x _ => clQ_len x)
      obtain ⟨m, hm⟩ : ∃ m, m = (outQ key S).length := ⟨_, rfl⟩
      rw [← hm] at e5
      subst e5
      have HM := Lib.hid hm
      have HT := Lib.hid hw.tab
      have HD : Hid (decide (m < n) = decide ((outQ key S).length < S.length)) := Lib.hid (by rw [hm, HSL.out])
      clear hLk hm hw
      go_wp2
      have hq := Rq.put (X := wr.setCell ⟨g, 0, none⟩ (.slice A' m c')) HT.out HO.out rfl
      refine bodyPost_ret (results_tmp rfl _ _ _) rfl ⟨by rw [← HD.out]; first | rfl | simp, .slice A' m c', hq, (Kept.of_below hbel).trans (Kept.setCell wr g 0 _) (fun _ _ e => e)⟩
end
end Go.Proofs.Ythdaclbgandmcaa
