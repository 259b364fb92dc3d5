/-
  Contracts and lemmas on which the proofs of this seat stand (several texts in one). Conditions are each theorem's own.
-/
import Derived.Test.YtghbliabmecbcaaDoorMc8
import Derived.Lib.Hide
import Derived.Lib.Join
import Derived.Shelf.Strconv.Itoa0
import Derived.Shelf.Strconv.Itoa1
import Derived.Shelf.LaysM
import Derived.Shelf.Strconv.Itoa2
import Derived.Shelf.Strconv.AppendUint10
import Derived.Shelf.Strconv.AppendInt10
import Derived.Shelf.Strconv.AppendIntPublic10
import Derived.Test.YtghbliabmecbcaaDoorProg
import Derived.Test.YtghbliabmecbcaaDoorMc1
import Derived.Test.YtghbliabmecbcaaDoorMc2
import Derived.Shelf.RegionOpenPlain
import Derived.Lib.IndexLaws
import Derived.Lib.CutLaws
import Derived.Lib.LaidTab
import Derived.Lib.TrailingZeros
import Derived.Lib.ItoaMem
import Derived.Laws.AppendOwn
import Derived.Laws.AppendOwnNone
import Derived.Test.YtghbliabmecbcaaDoorMc6

/-
  Put and Delete of layer 18's code, and what they leave alone: blocks of other types. Conditions are each theorem's own.
-/
namespace Go.Proofs.YtghbliabmecbcaaDoor
open Go.RowKit Go.Shelf
/-- Blocks that are neither tables nor rows of places lie as they lay. -/
structure KH (X Y : World) : Prop where
  size : X.heap.size ≤ Y.heap.size
  block : ∀ (k : Nat) (cs : Array Value) (ty : TypeId) (fr : Nat × Nat), X.heap[k]? = some (.cells cs ty fr) → ty ≠ 83 → ty ≠ 88 → Y.heap[k]? = X.heap[k]?
section
variable {X Y Z : World}
theorem KH.trans (h : KH X Y) (k : KH Y Z) : KH X Z :=
  ⟨Nat.le_trans h.size k.size, fun i cs ty fr hi h1 h2 => (k.block i cs ty fr ((h.block i cs ty fr hi h1 h2).trans hi) h1 h2).trans (h.block i cs ty fr hi h1 h2)⟩
theorem KH.of_below (h : Below X.heap.size X Y) : KH X Y := ⟨h.size, fun _ _ _ _ hi _ _ => h.block _ (heap_lt hi)⟩
theorem KH.of_arr {b : Nat} {L : List (Option Ent)} (h : Kept (fun k => k = b) X Y) (a : ArrH X b L) : KH X Y := by
  obtain ⟨cur, h1, _⟩ := a.obj
  refine ⟨h.size, fun k cs ty fr hk _ h2 => h.block k (heap_lt hk) (fun e => ?_)⟩
  have e : k = b := e
  rw [e, h1] at hk
  injection hk with hk
  injection hk with _ e2 _
  exact h2 e2.symm
theorem KH.of_tab {t b : Nat} {c most : Int} {L : List (Option Ent)} (h : Kept (fun k => k = t) X Y) (a : Hs X t b c most L) : KH X Y := by
  refine ⟨h.size, fun k cs ty fr hk h1 _ => h.block k (heap_lt hk) (fun e => ?_)⟩
  have e : k = t := e
  rw [e, a.tab] at hk
  injection hk with hk
  injection hk with _ e2 _
  exact h1 e2.symm
theorem KH.set_tab {t b : Nat} {c most : Int} {L : List (Option Ent)} (a : Hs X t b c most L) (i : Nat) (v : Value) : KH X (X.setCell ⟨t, i, none⟩ v) := KH.of_tab (Kept.setCell X t i v) a
theorem KH.heap {b : Nat} {cs : Array Value} {ty : TypeId} {fr : Nat × Nat} (k : KH X Y) (h : X.heap[b]? = some (.cells cs ty fr)) (h1 : ty ≠ 83) (h2 : ty ≠ 88) : Y.heap[b]? = some (.cells cs ty fr) := (k.block b cs ty fr h h1 h2).trans h
end
section
variable {w w' : World} {B0 t b : Nat} {most : Int} {L : List (Option Ent)}
/-- What Delete leaves. -/
def DelK (w : World) (B0 t b : Nat) (most : Int) (L : List (Option Ent)) (key : List UInt8) (e : Ending) (w' : World) : Prop :=
  ∃ L', HTab w' B0 t b most L' ∧ (Below B0 w w' ∧ KH w w') ∧ L'.length = L.length ∧ ((∃ x, x.key = key ∧ (ents L).Perm (x :: ents L') ∧ e = .returned (.bool true)) ∨ ((∀ x ∈ ents L, x.key ≠ key) ∧ L' = L ∧ e = .returned (.bool false)))
set_option maxRecDepth 100000 in
theorem hsdelK (h : HTab w B0 t b most L) (key : List UInt8) (hk : key.length ≤ 1000000) (hB : B0 ≤ w.heap.size) : Calls Tryd.prog 30 #[.pointer (some ⟨t, 0, none⟩), .string (strB key)] w fun e w' => DelK w B0 t b most L key e w' := by
  have k0 := h.hs.c0
  have H := Lib.hid h
  by_cases hp : ∃ i x, plH L i = some x ∧ x.key = key
  · obtain ⟨i, x, hx, rfl⟩ := hp
    have hi := plH_lt hx
    have HX := Lib.hid hx
    have hpm := ents_take hx
    have hpl := hpm.length_eq
    rw [List.length_cons] at hpl
    have HP := Lib.hid hpm
    have HPL := Lib.hid hpl
    have HFD := Lib.hid (hsfind_yes h hx)
    clear h hx hpm hpl
    go_enter Tryd.func30, Tryd.ntmps30
    go_wp2_with (first
      | (go_at_call 38; refine (hsmade t b _ _ _ k0).mono ?_; rintro e w1 ⟨rfl, rfl⟩)
      | (go_at_call 39; refine (hsmark x.key _ hk).mono ?_; rintro e w1 ⟨rfl, rfl⟩)
      | (go_at_call 49; refine (hsfree (H.out.hs.below x1) H.out.prb i x HX.out (by have := H.out.len; omega) H.out.free).mono ?_; rintro e w2 ⟨rfl, L', f1, f2, f3, f4, f5⟩; have F1 := Lib.hid f1; have F2 := Lib.hid (show _ ∧ _ ∧ _ ∧ _ from ⟨f2, f3, f4, f5⟩); have kc1 := f1.c1; have kf1 := heap_frozen f1.tab 1; clear f1 f2 f3 f4 f5)
      | (go_at_call 40; refine HFD.out.mono ?_; rintro e w1 ⟨rfl, x1⟩))
    obtain ⟨f2, f3, f4, f5⟩ := F2.out
    have hlen2 := f4.length_eq
    have hc : wrap64 (((ents L).length : Int) - 1) = ((ents L').length : Int) := by
      rw [IntWalk.wrap64_in _ (by have := H.out.n; have := H.out.mst; omega), HPL.out, hlen2]; omega
    rw [hc]
    have hz := H.out.z
    have hb1 : Below B0 w w1 := x1.mono hB
    have hb2 : Below B0 w1 w2 := f5.below (Nat.le_trans hB x1.size) (fun k e => by rw [e]; exact hz.2)
    have hb3 := hb1.trans hb2
    refine bodyPost_ret (results_tmp rfl _ _ _) rfl ⟨L', ⟨F1.out.cnt _, f3, ?_, by rw [f2]; exact H.out.len, H.out.mst, ?_, hz⟩, ⟨hb3.setCell (p := ⟨t, 1, none⟩) hz.1 _, ((KH.of_below x1).trans (KH.of_arr f5 (H.out.below x1).hs.arr)).trans (KH.set_tab F1.out 1 _)⟩, f2, .inl ⟨x, rfl, HP.out.trans (f4.symm.cons x), rfl⟩⟩
    · have := H.out.half; rw [f2, hlen2]; have := HPL.out; omega
    · have := H.out.n; rw [hlen2]; have := HPL.out; omega
  · have hn : ∀ i x, plH L i = some x → x.key ≠ key := fun i x hx e => hp ⟨i, x, hx, e⟩
    have HN := Lib.hid hn
    have HFD := Lib.hid (hsfind_no h hn)
    clear h hn hp
    go_enter Tryd.func30, Tryd.ntmps30
    go_wp2_with (first
      | (go_at_call 38; refine (hsmade t b _ _ _ k0).mono ?_; rintro e w1 ⟨rfl, rfl⟩)
      | (go_at_call 39; refine (hsmark key _ hk).mono ?_; rintro e w1 ⟨rfl, rfl⟩)
      | (go_at_call 40; refine HFD.out.mono ?_; rintro e w1 ⟨rfl, x1⟩))
    exact bodyPost_ret (results_tmp rfl _ _ _) rfl ⟨L, H.out.below x1, ⟨x1.mono hB, KH.of_below x1⟩, rfl, .inr ⟨fun x hx => by obtain ⟨i, h1⟩ := mem_ents.1 hx; exact HN.out i x h1, rfl, rfl⟩⟩
/-- What Put leaves. -/
def PutK (w : World) (B0 t : Nat) (most : Int) (L : List (Option Ent)) (key : List UInt8) (n : Int) (e : Ending) (w' : World) : Prop :=
  ∃ b' L', HTab w' B0 t b' most L' ∧ (Below B0 w w' ∧ KH w w') ∧
    ((∃ x R, x.key = key ∧ (ents L).Perm (x :: R) ∧ (ents L').Perm (⟨key, n⟩ :: R) ∧ e = .returned (.int .i64 0)) ∨
     ((∀ x ∈ ents L, x.key ≠ key) ∧ ((((ents L).length : Int) ≥ most ∧ ents L' = ents L ∧ e = .returned (.int .i64 7)) ∨ (((ents L).length : Int) < most ∧ (ents L').Perm (⟨key, n⟩ :: ents L) ∧ e = .returned (.int .i64 0)))))
theorem putK_end {w w5 w6 w7 : World} {B0 t b2 C r : Nat} {most : Int} {L L2 : List (Option Ent)} {key : List UInt8} {n : Int} (_ : Hs w5 t b2 (C : Int) most L2) (g : Prb (hmN L2.length) L2 ∧ (ents L2).Perm (ents L) ∧ 2 * (C + 1) ≤ L2.length ∧ L2.length ≤ 300000 ∧ B0 ≤ b2) (hC : C = (ents L).length) (hz : B0 ≤ t ∧ B0 ≤ b2 ∨ B0 ≤ t) (hlt : (C : Int) < most) (hms : 0 ≤ most ∧ most ≤ 65536)
    (hn : ∀ x ∈ ents L, x.key ≠ key) (x6 : Below w5.heap.size w5 w6) (h5 : B0 ≤ w5.heap.size) (b5 : Below B0 w w5) (k5 : KH w w5) (G6 : Hs w6 t b2 (C : Int) most L2) (r4 : Hs w7 t b2 (C : Int) most (L2.set (rnd L2.length (hmN L2.length key) r) (some ⟨key, n⟩)))
    (R : r < L2.length ∧ (∀ d, d < r → plH L2 (rnd L2.length (hmN L2.length key) d) ≠ none) ∧ plH L2 (rnd L2.length (hmN L2.length key) r) = none ∧ Kept (fun k => k = b2) w6 w7) :
    PutK w B0 t most L key n (.returned (.int .i64 0)) (w7.setCell ⟨t, 1, none⟩ (.int .i64 ((C : Int) + 1))) := by
  obtain ⟨g1, g2, g3, g4, g5⟩ := g
  obtain ⟨r1, r2, r3, r5⟩ := R
  have hzt : B0 ≤ t := by rcases hz with h | h; exact h.1; exact h
  have hp := ents_put (e := (⟨key, n⟩ : Ent)) (rnd_lt (g1.home key) r1) r3
  have hl := hp.length_eq
  rw [List.length_cons, g2.length_eq, ← hC] at hl
  have hb : Below B0 w w7 := (b5.trans (x6.mono h5)).trans (r5.below (Nat.le_trans h5 x6.size) (fun k e => by have e' : k = b2 := e; rw [e']; exact g5))
  have hq : (ents (L2.set (rnd L2.length (hmN L2.length key) r) (some ⟨key, n⟩))).Perm (⟨key, n⟩ :: ents L) := hp.trans (g2.cons _)
  have hlt' : ((ents L).length : Int) < most := by rw [← hC]; exact hlt
  have hpr : Prb (hmN L2.length) (L2.set (rnd L2.length (hmN L2.length key) r) (some ⟨key, n⟩)) := by
    refine Prb.put (x := (⟨key, n⟩ : Ent)) g1 (fun i e he hk => ?_) r1 r2
    exact hn e (g2.mem_iff.1 (mem_ents.2 ⟨i, he⟩)) hk
  have h4 := r4.cnt ((C : Int) + 1)
  have hlc : ((C : Int) + 1) = ((ents (L2.set (rnd L2.length (hmN L2.length key) r) (some ⟨key, n⟩))).length : Int) := by rw [hl]; omega
  have hbs := hb.setCell (p := ⟨t, 1, none⟩) hzt (.int .i64 ((C : Int) + 1))
  obtain ⟨L3, hL3⟩ : ∃ L3, L3 = L2.set (rnd L2.length (hmN L2.length key) r) (some (⟨key, n⟩ : Ent)) := ⟨_, rfl⟩
  have hlm : L2.length = L3.length := by rw [hL3, List.length_set]
  rw [← hL3] at hpr hq h4 hlc hl
  rw [hlm] at hpr g3 g4
  have hg3 : 2 * (ents L3).length ≤ L3.length := by omega
  have hg4 : ((ents L3).length : Int) ≤ most := by omega
  have kk := ((k5.trans (KH.of_below x6)).trans (KH.of_arr r5 G6.arr)).trans (KH.set_tab r4 1 (.int .i64 ((C : Int) + 1)))
  rw [hlc] at h4 hbs kk ⊢
  exact ⟨b2, L3, ⟨h4, hpr, hg3, g4, hms, hg4, hzt, g5⟩, ⟨hbs, kk⟩, Or.inr ⟨hn, Or.inr ⟨hlt', hq, rfl⟩⟩⟩
set_option maxRecDepth 100000 in
set_option maxHeartbeats 2000000 in
theorem hsputK (h : HTab w B0 t b most L) (key : List UInt8) (n : Int) (hk : key.length ≤ 1000000) (hB : B0 ≤ w.heap.size) : Calls Tryd.prog 25 #[.pointer (some ⟨t, 0, none⟩), .string (strB key), .int .i64 n] w fun e w' => PutK w B0 t most L key n e w' := by
  have k0 := h.hs.c0
  have H := Lib.hid h
  by_cases hp : ∃ i x, plH L i = some x ∧ x.key = key
  · obtain ⟨i, x, hx, rfl⟩ := hp
    have hi := plH_lt hx
    have HX := Lib.hid hx
    have HFD := Lib.hid (hsfind_yes h hx)
    have hF : ∀ V, Below w.heap.size w V → V.cell? ⟨t, 0, none⟩ = some (.slice (some ⟨b, 0, none⟩) L.length L.length) ∧ V.cell? ⟨b, i * 4 + 3, none⟩ = some (.int .i64 x.n) ∧ V.frozen? ⟨b, i * 4 + 3, none⟩ = false := fun V hV => by
      have h1 := (h.hs.below hV)
      have h2 := h1.at_ (plH_get hi)
      rw [hx] at h2
      obtain ⟨cur, h3, _⟩ := h1.arr.obj
      exact ⟨h1.c0, h2 3 _ rfl, heap_frozen h3 _⟩
    have HF := Lib.hid hF
    clear h hx hF
    go_enter Tryd.func25, Tryd.ntmps25
    go_wp2_with (first
      | (go_at_call 38; refine (hsmade t b _ _ _ k0).mono ?_; rintro e w1 ⟨rfl, rfl⟩)
      | (go_at_call 39; refine (hsmark x.key _ hk).mono ?_; rintro e w1 ⟨rfl, rfl⟩)
      | (go_at_call 40; refine HFD.out.mono ?_; rintro e w1 ⟨rfl, x1⟩; have hq := HF.out _ x1; obtain ⟨q1, q2, q3⟩ := hq))
    have h1 := H.out.below x1
    obtain ⟨R, p1, p2⟩ := ents_change HX.out ⟨x.key, n⟩
    have hz := H.out.z
    have hle := p1.length_eq
    have hle2 := p2.length_eq
    rw [List.length_cons] at hle hle2
    refine bodyPost_ret (results_tmp rfl _ _ _) rfl ⟨b, L.set i (some ⟨x.key, n⟩), ⟨⟨?_, h1.hs.arr.setN HX.out n⟩, by rw [List.length_set]; exact H.out.prb.change HX.out n, by rw [List.length_set, hle2, ← hle]; exact H.out.half, by rw [List.length_set]; exact H.out.len, H.out.mst, by rw [hle2, ← hle]; exact H.out.n, hz⟩, ⟨(x1.mono hB).setCell (p := ⟨b, i * 4 + 3, none⟩) hz.2 _, (KH.of_below x1).trans (KH.of_arr (Kept.setCell w1 b (i * 4 + 3) _) h1.hs.arr)⟩, .inl ⟨x, R, rfl, p1, p2, rfl⟩⟩
    rw [List.length_set, hle2, ← hle]
    exact (heap_setCell_other w1 ⟨b, i * 4 + 3, none⟩ _ _ h1.hs.ne).trans h1.hs.tab
  · have hn : ∀ i x, plH L i = some x → x.key ≠ key := fun i x hx e => hp ⟨i, x, hx, e⟩
    have HN := Lib.hid hn
    have HNE : Hid (∀ x ∈ ents L, x.key ≠ key) := Lib.hid fun x hx => by obtain ⟨i, h1⟩ := mem_ents.1 hx; exact hn i x h1
    have HFD := Lib.hid (hsfind_no h hn)
    obtain ⟨C, hC⟩ : ∃ C, C = (ents L).length := ⟨_, rfl⟩
    have hCm := h.n
    have hms := h.mst
    have hlen := h.len
    have hhalf := h.half
    have hL0 := h.prb.home []
    have hF : ∀ V, Below w.heap.size w V → V.cell? ⟨t, 0, none⟩ = some (.slice (some ⟨b, 0, none⟩) L.length L.length) ∧ V.cell? ⟨t, 1, none⟩ = some (.int .i64 (C : Int)) ∧ V.cell? ⟨t, 2, none⟩ = some (.int .i64 most) := fun V hV => by
      have h1 := (h.hs.below hV)
      exact ⟨h1.c0, by rw [hC]; exact h1.c1, h1.c2⟩
    have HF := Lib.hid hF
    rw [← hC] at hCm hhalf
    have HC := Lib.hid hC
    clear h hn hp hF hC
    go_enter Tryd.func25, Tryd.ntmps25
    go_upto_region 8 with (first
      | (go_at_call 38; refine (hsmade t b _ _ _ k0).mono ?_; rintro e w1 ⟨rfl, rfl⟩)
      | (go_at_call 39; refine (hsmark key _ hk).mono ?_; rintro e w1 ⟨rfl, rfl⟩)
      | (go_at_call 40; refine HFD.out.mono ?_; rintro e w1 ⟨rfl, x1⟩; have H1 := Lib.hid (H.out.below x1); have KC0 : Hid (∀ V, Below w1.heap.size w1 V → V.cell? ⟨t, 0, none⟩ = some (.slice (some ⟨b, 0, none⟩) L.length L.length)) := Lib.hid (fun V hV => (HF.out V (x1.trans (hV.mono x1.size))).1); have KC1 : Hid (∀ V, Below w1.heap.size w1 V → V.cell? ⟨t, 1, none⟩ = some (.int .i64 (C : Int))) := Lib.hid (fun V hV => (HF.out V (x1.trans (hV.mono x1.size))).2.1); have KC2 : Hid (∀ V, Below w1.heap.size w1 V → V.cell? ⟨t, 2, none⟩ = some (.int .i64 most)) := Lib.hid (fun V hV => (HF.out V (x1.trans (hV.mono x1.size))).2.2)))
    by_cases hfull : (C : Int) ≥ most
    · have dF : decide (most ≤ (C : Int)) = true := decide_eq_true hfull
      refine wp_region_held_drew (S := fun w' => Below w1.heap.size w1 w') (by kernel_rfl) (Below.refl _ _).drew (fun hS => ?_)
      refine held_pure (i := 0) (oi := ⟨some 31, _, _, _, _, _⟩) rfl (by kernel_rfl) (by kernel_rfl) (by kernel_rfl) (fun _ _ _ h => h) (by rfl) (v := ?_) (fun w hSw => ?_) hS (fun hS => ?_)
      rotate_left
      · go_simp; try with_reducible rfl
      try go_frame
      refine held_pure (i := 1) (oi := ⟨some 32, _, _, _, _, _⟩) rfl (by kernel_rfl) (by kernel_rfl) (by kernel_rfl) (fun _ _ _ h => h) (by rfl) (v := ?_) (fun w hSw => ?_) hS (fun hS => ?_)
      rotate_left
      · go_simp; try with_reducible rfl
      try go_frame
      refine held_pure (i := 2) (oi := ⟨some 33, _, _, _, _, _⟩) rfl (by kernel_rfl) (by kernel_rfl) (by kernel_rfl) (fun _ _ _ h => h) (by rfl) (v := ?_) (fun w hSw => ?_) hS (fun hS => ?_)
      rotate_left
      · go_simp; try with_reducible rfl
      try go_frame
      refine held_pure (i := 3) (oi := ⟨some 34, _, _, _, _, _⟩) rfl (by kernel_rfl) (by kernel_rfl) (by kernel_rfl) (fun _ _ _ h => h) (by rfl) (fun w hSw => run_load_int rfl rfl (KC1.out _ hSw)) hS (fun hS => ?_)
      try go_frame
      refine held_pure (i := 4) (oi := ⟨some 35, _, _, _, _, _⟩) rfl (by kernel_rfl) (by kernel_rfl) (by kernel_rfl) (fun _ _ _ h => h) (by rfl) (v := ?_) (fun w hSw => ?_) hS (fun hS => ?_)
      rotate_left
      · go_simp; try with_reducible rfl
      try go_frame
      refine held_pure (i := 5) (oi := ⟨some 36, _, _, _, _, _⟩) rfl (by kernel_rfl) (by kernel_rfl) (by kernel_rfl) (fun _ _ _ h => h) (by rfl) (v := ?_) (fun w hSw => ?_) hS (fun hS => ?_)
      rotate_left
      · go_simp; try with_reducible rfl
      try go_frame
      refine held_pure (i := 6) (oi := ⟨some 37, _, _, _, _, _⟩) rfl (by kernel_rfl) (by kernel_rfl) (by kernel_rfl) (fun _ _ _ h => h) (by rfl) (v := ?_) (fun w hSw => ?_) hS (fun hS => ?_)
      rotate_left
      · go_simp; try with_reducible rfl
      try go_frame
      refine held_pure (i := 7) (oi := ⟨some 38, _, _, _, _, _⟩) rfl (by kernel_rfl) (by kernel_rfl) (by kernel_rfl) (fun _ _ _ h => h) (by rfl) (fun w hSw => run_load_int rfl rfl (KC2.out _ hSw)) hS (fun hS => ?_)
      try go_frame
      refine held_pure (i := 8) (oi := ⟨some 39, _, _, _, _, _⟩) rfl (by kernel_rfl) (by kernel_rfl) (by kernel_rfl) (fun _ _ _ h => h) (by rfl) (v := .bool true) (fun w hSw => by go_simp; try exact dF) hS (fun hS => ?_)
      try go_frame
      refine wpAnyH_done (by kernel_rfl) ?_ _
      go_wp2
      refine bodyPost_ret (results_tmp rfl _ _ _) rfl ⟨b, L, H.out.below (x1.trans (hS.mono x1.size)), ⟨(x1.trans (hS.mono x1.size)).mono hB, KH.of_below (x1.trans (hS.mono x1.size))⟩, .inr ⟨HNE.out, .inl ⟨by rw [← HC.out]; exact hfull, rfl, rfl⟩⟩⟩
    · have dF : decide (most ≤ (C : Int)) = false := decide_eq_false hfull
      have HW1 : Hid (IntKind.i64.wrap ((C : Int) + 1) = (C : Int) + 1) := Lib.hid (IntWalk.i64_in _ (by omega))
      have HW2 : Hid (IntKind.i64.wrap (2 * ((C : Int) + 1)) = 2 * ((C : Int) + 1)) := Lib.hid (IntWalk.i64_in _ (by omega))
      refine wp_region_held_drew (S := fun w' => Below w1.heap.size w1 w') (by kernel_rfl) (Below.refl _ _).drew (fun hS => ?_)
      refine held_pure (i := 0) (oi := ⟨some 31, _, _, _, _, _⟩) rfl (by kernel_rfl) (by kernel_rfl) (by kernel_rfl) (fun _ _ _ h => h) (by rfl) (v := ?_) (fun w hSw => ?_) hS (fun hS => ?_)
      rotate_left
      · go_simp; try with_reducible rfl
      try go_frame
      refine held_pure (i := 1) (oi := ⟨some 32, _, _, _, _, _⟩) rfl (by kernel_rfl) (by kernel_rfl) (by kernel_rfl) (fun _ _ _ h => h) (by rfl) (v := ?_) (fun w hSw => ?_) hS (fun hS => ?_)
      rotate_left
      · go_simp; try with_reducible rfl
      try go_frame
      refine held_pure (i := 2) (oi := ⟨some 33, _, _, _, _, _⟩) rfl (by kernel_rfl) (by kernel_rfl) (by kernel_rfl) (fun _ _ _ h => h) (by rfl) (v := ?_) (fun w hSw => ?_) hS (fun hS => ?_)
      rotate_left
      · go_simp; try with_reducible rfl
      try go_frame
      refine held_pure (i := 3) (oi := ⟨some 34, _, _, _, _, _⟩) rfl (by kernel_rfl) (by kernel_rfl) (by kernel_rfl) (fun _ _ _ h => h) (by rfl) (fun w hSw => run_load_int rfl rfl (KC1.out _ hSw)) hS (fun hS => ?_)
      try go_frame
      refine held_pure (i := 4) (oi := ⟨some 35, _, _, _, _, _⟩) rfl (by kernel_rfl) (by kernel_rfl) (by kernel_rfl) (fun _ _ _ h => h) (by rfl) (v := ?_) (fun w hSw => ?_) hS (fun hS => ?_)
      rotate_left
      · go_simp; try with_reducible rfl
      try go_frame
      refine held_pure (i := 5) (oi := ⟨some 36, _, _, _, _, _⟩) rfl (by kernel_rfl) (by kernel_rfl) (by kernel_rfl) (fun _ _ _ h => h) (by rfl) (v := ?_) (fun w hSw => ?_) hS (fun hS => ?_)
      rotate_left
      · go_simp; try with_reducible rfl
      try go_frame
      refine held_pure (i := 6) (oi := ⟨some 37, _, _, _, _, _⟩) rfl (by kernel_rfl) (by kernel_rfl) (by kernel_rfl) (fun _ _ _ h => h) (by rfl) (v := ?_) (fun w hSw => ?_) hS (fun hS => ?_)
      rotate_left
      · go_simp; try with_reducible rfl
      try go_frame
      refine held_pure (i := 7) (oi := ⟨some 38, _, _, _, _, _⟩) rfl (by kernel_rfl) (by kernel_rfl) (by kernel_rfl) (fun _ _ _ h => h) (by rfl) (fun w hSw => run_load_int rfl rfl (KC2.out _ hSw)) hS (fun hS => ?_)
      try go_frame
      refine held_pure (i := 8) (oi := ⟨some 39, _, _, _, _, _⟩) rfl (by kernel_rfl) (by kernel_rfl) (by kernel_rfl) (fun _ _ _ h => h) (by rfl) (v := .bool false) (fun w hSw => by go_simp; try exact dF) hS (fun hS => ?_)
      try go_frame
      refine wpAnyH_done (by kernel_rfl) ?_ _
      go_upto_region 10 with fail
      have hz := H.out.z
      have hW4 : Below w1.heap.size w1 w1.drew.drew := (Below.refl w1.heap.size w1).drew.drew
      have H4 := H1.out.below hW4
      have b4 : Below B0 w w1.drew.drew := (x1.trans (hW4.mono x1.size)).mono hB
      by_cases hg : 2 * (C + 1) > L.length
      · have dG : decide ((L.length : Int) < 2 * ((C : Int) + 1)) = true := decide_eq_true (by omega)
        refine wp_region_held_drew (S := fun w' => Below w1.heap.size w1 w') (by kernel_rfl) (Below.refl w1.heap.size w1).drew.drew (fun hS => ?_)
        refine held_pure (i := 0) (oi := ⟨some 40, _, _, _, _, _⟩) rfl (by kernel_rfl) (by kernel_rfl) (by kernel_rfl) (fun _ _ _ h => h) (by rfl) (v := ?_) (fun w hSw => ?_) hS (fun hS => ?_)
        rotate_left
        · go_simp; try with_reducible rfl
        try go_frame
        refine held_pure (i := 1) (oi := ⟨some 41, _, _, _, _, _⟩) rfl (by kernel_rfl) (by kernel_rfl) (by kernel_rfl) (fun _ _ _ h => h) (by rfl) (v := ?_) (fun w hSw => ?_) hS (fun hS => ?_)
        rotate_left
        · go_simp; try with_reducible rfl
        try go_frame
        refine held_pure (i := 2) (oi := ⟨some 42, _, _, _, _, _⟩) rfl (by kernel_rfl) (by kernel_rfl) (by kernel_rfl) (fun _ _ _ h => h) (by rfl) (v := ?_) (fun w hSw => ?_) hS (fun hS => ?_)
        rotate_left
        · go_simp; try with_reducible rfl
        try go_frame
        refine held_pure (i := 3) (oi := ⟨some 43, _, _, _, _, _⟩) rfl (by kernel_rfl) (by kernel_rfl) (by kernel_rfl) (fun _ _ _ h => h) (by rfl) (fun w hSw => run_load_int rfl rfl (KC1.out _ hSw)) hS (fun hS => ?_)
        try go_frame
        refine held_pure (i := 4) (oi := ⟨some 44, _, _, _, _, _⟩) rfl (by kernel_rfl) (by kernel_rfl) (by kernel_rfl) (fun _ _ _ h => h) (by rfl) (v := .int .i64 ((C : Int) + 1)) (fun w hSw => by go_simp; try exact HW1.out) hS (fun hS => ?_)
        try go_frame
        refine held_pure (i := 5) (oi := ⟨some 45, _, _, _, _, _⟩) rfl (by kernel_rfl) (by kernel_rfl) (by kernel_rfl) (fun _ _ _ h => h) (by rfl) (v := .int .i64 (2 * ((C : Int) + 1))) (fun w hSw => by go_simp; try exact HW2.out) hS (fun hS => ?_)
        try go_frame
        refine held_pure (i := 6) (oi := ⟨some 46, _, _, _, _, _⟩) rfl (by kernel_rfl) (by kernel_rfl) (by kernel_rfl) (fun _ _ _ h => h) (by rfl) (v := ?_) (fun w hSw => ?_) hS (fun hS => ?_)
        rotate_left
        · go_simp; try with_reducible rfl
        try go_frame
        refine held_pure (i := 7) (oi := ⟨some 47, _, _, _, _, _⟩) rfl (by kernel_rfl) (by kernel_rfl) (by kernel_rfl) (fun _ _ _ h => h) (by rfl) (v := ?_) (fun w hSw => ?_) hS (fun hS => ?_)
        rotate_left
        · go_simp; try with_reducible rfl
        try go_frame
        refine held_pure (i := 8) (oi := ⟨some 48, _, _, _, _, _⟩) rfl (by kernel_rfl) (by kernel_rfl) (by kernel_rfl) (fun _ _ _ h => h) (by rfl) (v := ?_) (fun w hSw => ?_) hS (fun hS => ?_)
        rotate_left
        · go_simp; try with_reducible rfl
        try go_frame
        refine held_pure (i := 9) (oi := ⟨some 49, _, _, _, _, _⟩) rfl (by kernel_rfl) (by kernel_rfl) (by kernel_rfl) (fun _ _ _ h => h) (by rfl) (fun w hSw => run_load_hsar rfl rfl (KC0.out _ hSw)) hS (fun hS => ?_)
        try go_frame
        refine held_pure (i := 10) (oi := ⟨some 50, _, _, _, _, _⟩) rfl (by kernel_rfl) (by kernel_rfl) (by kernel_rfl) (fun _ _ _ h => h) (by rfl) (v := ?_) (fun w hSw => ?_) hS (fun hS => ?_)
        rotate_left
        · go_simp; try with_reducible rfl
        try go_frame
        refine held_pure (i := 11) (oi := ⟨some 51, _, _, _, _, _⟩) rfl (by kernel_rfl) (by kernel_rfl) (by kernel_rfl) (fun _ _ _ h => h) (by rfl) (v := .bool true) (fun w hSw => by go_simp; try exact dG) hS (fun hS => ?_)
        try go_frame
        refine wpAnyH_done (by kernel_rfl) ?_ _
        go_wp2_with (first
          | (go_at_call 41; refine (hsgrow H4.hs H4.prb (by omega)).mono ?_; rintro e w5 ⟨rfl, b2, L2, g1, g2, g3, g4, g5, g6⟩; have hz4 := hW4.size; have hz0 := x1.size; have b5 : Below B0 w w5 := b4.trans (g5.below (by have := b4.size; omega) (fun k e => by have e' : k = t := e; rw [e']; exact hz.1)); have k5 : KH w w5 := (KH.of_below (x1.trans (hW4.mono x1.size))).trans (KH.of_tab g5 H4.hs); have G := Lib.hid (show Hs w5 t b2 (C : Int) most L2 ∧ Prb (hmN L2.length) L2 ∧ (ents L2).Perm (ents L) ∧ 2 * (C + 1) ≤ L2.length ∧ L2.length ≤ 300000 ∧ B0 ≤ b2 from ⟨by rw [HC.out]; exact g1, g3, g4, by omega, by omega, by omega⟩); clear g1 g2 g3 g4 g5)
          | (go_at_call 43; refine (hsclone key _ hk).mono ?_; rintro e w6 ⟨rfl, x6⟩; have G6 := Lib.hid (G.out.1.below x6))
          | (go_at_call 42; refine (hskeep G6.out ⟨key, n⟩ (G.out.2.1.home _) (by have := G.out.2.2.2.2.1; omega) (free_of_lt (by rw [G.out.2.2.1.length_eq, ← HC.out]; have := G.out.2.2.2.1; omega))).mono ?_; rintro e w7 ⟨rfl, r, r1, r2, r3, r4, r5⟩; have R := Lib.hid (show _ ∧ _ ∧ _ ∧ _ from ⟨r1, r2, r3, r5⟩); have R4 := Lib.hid r4; have kc1 := r4.c1; have kf1 := heap_frozen r4.tab 1; clear r1 r2 r3 r4 r5))
        refine bodyPost_ret (results_tmp rfl _ _ _) rfl ?_
        exact (putK_end G.out.1 G.out.2 HC.out (.inr hz.1) (by omega) hms HNE.out x6 (Nat.le_trans hB b5.size) b5 k5 G6.out R4.out R.out)
      · have dG : decide ((L.length : Int) < 2 * ((C : Int) + 1)) = false := decide_eq_false (by omega)
        have G : Hid (Hs w1.drew.drew t b (C : Int) most L ∧ Prb (hmN L.length) L ∧ (ents L).Perm (ents L) ∧ 2 * (C + 1) ≤ L.length ∧ L.length ≤ 300000 ∧ B0 ≤ b) := Lib.hid ⟨by rw [HC.out]; exact H4.hs, H4.prb, List.Perm.refl _, by omega, by omega, hz.2⟩
        have b5 := b4
        have k5 : KH w w1.drew.drew := KH.of_below (x1.trans (hW4.mono x1.size))
        refine wp_region_held_drew (S := fun w' => Below w1.heap.size w1 w') (by kernel_rfl) (Below.refl w1.heap.size w1).drew.drew (fun hS => ?_)
        refine held_pure (i := 0) (oi := ⟨some 40, _, _, _, _, _⟩) rfl (by kernel_rfl) (by kernel_rfl) (by kernel_rfl) (fun _ _ _ h => h) (by rfl) (v := ?_) (fun w hSw => ?_) hS (fun hS => ?_)
        rotate_left
        · go_simp; try with_reducible rfl
        try go_frame
        refine held_pure (i := 1) (oi := ⟨some 41, _, _, _, _, _⟩) rfl (by kernel_rfl) (by kernel_rfl) (by kernel_rfl) (fun _ _ _ h => h) (by rfl) (v := ?_) (fun w hSw => ?_) hS (fun hS => ?_)
        rotate_left
        · go_simp; try with_reducible rfl
        try go_frame
        refine held_pure (i := 2) (oi := ⟨some 42, _, _, _, _, _⟩) rfl (by kernel_rfl) (by kernel_rfl) (by kernel_rfl) (fun _ _ _ h => h) (by rfl) (v := ?_) (fun w hSw => ?_) hS (fun hS => ?_)
        rotate_left
        · go_simp; try with_reducible rfl
        try go_frame
        refine held_pure (i := 3) (oi := ⟨some 43, _, _, _, _, _⟩) rfl (by kernel_rfl) (by kernel_rfl) (by kernel_rfl) (fun _ _ _ h => h) (by rfl) (fun w hSw => run_load_int rfl rfl (KC1.out _ hSw)) hS (fun hS => ?_)
        try go_frame
        refine held_pure (i := 4) (oi := ⟨some 44, _, _, _, _, _⟩) rfl (by kernel_rfl) (by kernel_rfl) (by kernel_rfl) (fun _ _ _ h => h) (by rfl) (v := .int .i64 ((C : Int) + 1)) (fun w hSw => by go_simp; try exact HW1.out) hS (fun hS => ?_)
        try go_frame
        refine held_pure (i := 5) (oi := ⟨some 45, _, _, _, _, _⟩) rfl (by kernel_rfl) (by kernel_rfl) (by kernel_rfl) (fun _ _ _ h => h) (by rfl) (v := .int .i64 (2 * ((C : Int) + 1))) (fun w hSw => by go_simp; try exact HW2.out) hS (fun hS => ?_)
        try go_frame
        refine held_pure (i := 6) (oi := ⟨some 46, _, _, _, _, _⟩) rfl (by kernel_rfl) (by kernel_rfl) (by kernel_rfl) (fun _ _ _ h => h) (by rfl) (v := ?_) (fun w hSw => ?_) hS (fun hS => ?_)
        rotate_left
        · go_simp; try with_reducible rfl
        try go_frame
        refine held_pure (i := 7) (oi := ⟨some 47, _, _, _, _, _⟩) rfl (by kernel_rfl) (by kernel_rfl) (by kernel_rfl) (fun _ _ _ h => h) (by rfl) (v := ?_) (fun w hSw => ?_) hS (fun hS => ?_)
        rotate_left
        · go_simp; try with_reducible rfl
        try go_frame
        refine held_pure (i := 8) (oi := ⟨some 48, _, _, _, _, _⟩) rfl (by kernel_rfl) (by kernel_rfl) (by kernel_rfl) (fun _ _ _ h => h) (by rfl) (v := ?_) (fun w hSw => ?_) hS (fun hS => ?_)
        rotate_left
        · go_simp; try with_reducible rfl
        try go_frame
        refine held_pure (i := 9) (oi := ⟨some 49, _, _, _, _, _⟩) rfl (by kernel_rfl) (by kernel_rfl) (by kernel_rfl) (fun _ _ _ h => h) (by rfl) (fun w hSw => run_load_hsar rfl rfl (KC0.out _ hSw)) hS (fun hS => ?_)
        try go_frame
        refine held_pure (i := 10) (oi := ⟨some 50, _, _, _, _, _⟩) rfl (by kernel_rfl) (by kernel_rfl) (by kernel_rfl) (fun _ _ _ h => h) (by rfl) (v := ?_) (fun w hSw => ?_) hS (fun hS => ?_)
        rotate_left
        · go_simp; try with_reducible rfl
        try go_frame
        refine held_pure (i := 11) (oi := ⟨some 51, _, _, _, _, _⟩) rfl (by kernel_rfl) (by kernel_rfl) (by kernel_rfl) (fun _ _ _ h => h) (by rfl) (v := .bool false) (fun w hSw => by go_simp; try exact dG) hS (fun hS => ?_)
        try go_frame
        refine wpAnyH_done (by kernel_rfl) ?_ _
        go_wp2_with (first
          | (go_at_call 43; refine (hsclone key _ hk).mono ?_; rintro e w6 ⟨rfl, x6⟩; have G6 := Lib.hid (G.out.1.below x6))
          | (go_at_call 42; refine (hskeep G6.out ⟨key, n⟩ (G.out.2.1.home _) (by have := G.out.2.2.2.2.1; omega) (free_of_lt (by rw [← HC.out]; omega))).mono ?_; rintro e w7 ⟨rfl, r, r1, r2, r3, r4, r5⟩; have R := Lib.hid (show _ ∧ _ ∧ _ ∧ _ from ⟨r1, r2, r3, r5⟩); have R4 := Lib.hid r4; have kc1 := r4.c1; have kf1 := heap_frozen r4.tab 1; clear r1 r2 r3 r4 r5))
        refine bodyPost_ret (results_tmp rfl _ _ _) rfl ?_
        exact (putK_end G.out.1 G.out.2 HC.out (.inr hz.1) (by omega) hms HNE.out x6 (Nat.le_trans hB b5.size) b5 k5 G6.out R4.out R.out)
end
section
variable {w w' : World} {B0 t : Nat} {most : Int} {M R : List Ent} {x : Ent} {key : List UInt8} {n : Int}
/-- A table beside which one block of another type changed. -/
theorem HM.kept {g : Nat} {cs : Array Value} {ty : TypeId} {fr : Nat × Nat} (h : HM w B0 t most M) (k : Kept (fun k => k = g) w w') (hg : w.heap[g]? = some (.cells cs ty fr)) (h1 : ty ≠ 83) (h2 : ty ≠ 88) : HM w' B0 t most M := by
  obtain ⟨b, L, q1, q2⟩ := h
  have ht : t ≠ g := fun e => by
    have := q1.hs.tab
    rw [e, hg] at this
    injection this with this
    injection this with _ e2 _
    exact h1 e2
  obtain ⟨cur, a1, a2⟩ := q1.hs.arr.obj
  have hb : b ≠ g := fun e => by
    rw [e, hg] at a1
    injection a1 with a1
    injection a1 with _ e2 _
    exact h2 e2
  exact ⟨b, L, ⟨⟨(k.block t (heap_lt q1.hs.tab) ht).trans q1.hs.tab, q1.hs.arr.keep (k.block b q1.hs.arr.lt hb)⟩, q1.prb, q1.half, q1.len, q1.mst, q1.n, q1.z⟩, q2⟩
theorem hk_put_new (h : HM w B0 t most M) (hn : ∀ x ∈ M, x.key ≠ key) (hm : (M.length : Int) < most) (n : Int) (hk : key.length ≤ 1000000) (hB : B0 ≤ w.heap.size) :
    Calls Tryd.prog 25 #[.pointer (some ⟨t, 0, none⟩), .string (strB key), .int .i64 n] w fun e w' => e = .returned (.int .i64 0) ∧ HM w' B0 t most (⟨key, n⟩ :: M) ∧ Below B0 w w' ∧ KH w w' := by
  obtain ⟨b, L, h1, h2⟩ := h
  refine (hsputK h1 key n hk hB).mono ?_
  rintro e w' ⟨b', L', q1, q2, q3⟩
  rcases q3 with ⟨x, R, r1, r2, _, _⟩ | ⟨r1, ⟨r2, _, _⟩ | ⟨r2, r3, rfl⟩⟩
  · exact absurd r1 (hn x (h2.mem_iff.1 (r2.mem_iff.2 (List.mem_cons_self ..))))
  · have := h2.length_eq; omega
  · exact ⟨rfl, ⟨b', L', q1, r3.trans (h2.cons _)⟩, q2⟩
theorem hk_put_full (h : HM w B0 t most M) (hn : ∀ x ∈ M, x.key ≠ key) (hm : (M.length : Int) ≥ most) (n : Int) (hk : key.length ≤ 1000000) (hB : B0 ≤ w.heap.size) :
    Calls Tryd.prog 25 #[.pointer (some ⟨t, 0, none⟩), .string (strB key), .int .i64 n] w fun e w' => e = .returned (.int .i64 7) ∧ HM w' B0 t most M ∧ Below B0 w w' ∧ KH w w' := by
  obtain ⟨b, L, h1, h2⟩ := h
  refine (hsputK h1 key n hk hB).mono ?_
  rintro e w' ⟨b', L', q1, q2, q3⟩
  rcases q3 with ⟨x, R, r1, r2, _, _⟩ | ⟨r1, ⟨_, r3, rfl⟩ | ⟨r2, _, _⟩⟩
  · exact absurd r1 (hn x (h2.mem_iff.1 (r2.mem_iff.2 (List.mem_cons_self ..))))
  · exact ⟨rfl, ⟨b', L', q1, by rw [r3]; exact h2⟩, q2⟩
  · have := h2.length_eq; omega
theorem hk_put_old (h : HM w B0 t most M) (hp : M.Perm (x :: R)) (n : Int) (hk : x.key.length ≤ 1000000) (hB : B0 ≤ w.heap.size) :
    Calls Tryd.prog 25 #[.pointer (some ⟨t, 0, none⟩), .string (strB x.key), .int .i64 n] w fun e w' => e = .returned (.int .i64 0) ∧ HM w' B0 t most (⟨x.key, n⟩ :: R) ∧ Below B0 w w' ∧ KH w w' := by
  have hu : ∀ {y : Ent}, x ∈ M → y ∈ M → x.key = y.key → x = y := fun h1 h2 h3 => h.uniq h1 h2 h3
  have hxm : x ∈ M := hp.mem_iff.2 (List.mem_cons_self ..)
  obtain ⟨b, L, h1, h2⟩ := h
  refine (hsputK h1 x.key n hk hB).mono ?_
  rintro e w' ⟨b', L', q1, q2, q3⟩
  rcases q3 with ⟨y, R', r1, r2, r3, rfl⟩ | ⟨r1, _⟩
  · obtain rfl := hu hxm (h2.mem_iff.1 (r2.mem_iff.2 (List.mem_cons_self ..))) r1.symm
    have : R'.Perm R := ((r2.symm.trans h2).trans hp).cons_inv
    exact ⟨rfl, ⟨b', L', q1, r3.trans (this.cons _)⟩, q2⟩
  · exact absurd rfl (r1 x (h2.mem_iff.2 hxm))
theorem hk_del_yes (h : HM w B0 t most M) (hp : M.Perm (x :: R)) (hk : x.key.length ≤ 1000000) (hB : B0 ≤ w.heap.size) :
    Calls Tryd.prog 30 #[.pointer (some ⟨t, 0, none⟩), .string (strB x.key)] w fun e w' => e = .returned (.bool true) ∧ HM w' B0 t most R ∧ Below B0 w w' ∧ KH w w' := by
  have hu : ∀ {y : Ent}, x ∈ M → y ∈ M → x.key = y.key → x = y := fun h1 h2 h3 => h.uniq h1 h2 h3
  have hxm : x ∈ M := hp.mem_iff.2 (List.mem_cons_self ..)
  obtain ⟨b, L, h1, h2⟩ := h
  refine (hsdelK h1 x.key hk hB).mono ?_
  rintro e w' ⟨L', q1, q2, _, q3⟩
  rcases q3 with ⟨y, r1, r2, rfl⟩ | ⟨r1, _⟩
  · obtain rfl := hu hxm (h2.mem_iff.1 (r2.mem_iff.2 (List.mem_cons_self ..))) r1.symm
    exact ⟨rfl, ⟨b, L', q1, ((r2.symm.trans h2).trans hp).cons_inv⟩, q2⟩
  · exact absurd rfl (r1 x (h2.mem_iff.2 hxm))
theorem hk_del_no (h : HM w B0 t most M) (hn : ∀ x ∈ M, x.key ≠ key) (hk : key.length ≤ 1000000) (hB : B0 ≤ w.heap.size) :
    Calls Tryd.prog 30 #[.pointer (some ⟨t, 0, none⟩), .string (strB key)] w fun e w' => e = .returned (.bool false) ∧ HM w' B0 t most M ∧ Below B0 w w' ∧ KH w w' := by
  obtain ⟨b, L, h1, h2⟩ := h
  refine (hsdelK h1 key hk hB).mono ?_
  rintro e w' ⟨L', q1, q2, _, q3⟩
  rcases q3 with ⟨y, r1, r2, _⟩ | ⟨_, rfl, rfl⟩
  · exact absurd r1 (hn y (h2.mem_iff.1 (r2.mem_iff.2 (List.mem_cons_self ..))))
  · exact ⟨rfl, ⟨b, L', q1, h2⟩, q2⟩
end
end Go.Proofs.YtghbliabmecbcaaDoor

/-
  Put and Delete of layer 18's code, and that they write two blocks alone: the table, its array. Conditions are each theorem's own.
-/
namespace Go.Proofs.YtghbliabmecbcaaDoor
open Go.RowKit Go.Shelf
/-- All blocks but t and b lie as they lay. -/
def KT (t b : Nat) (X Y : World) : Prop := Kept (fun k => k = t ∨ k = b) X Y
section
variable {X Y Z : World} {t b : Nat}
theorem KT.trans (h : KT t b X Y) (k : KT t b Y Z) : KT t b X Z := Kept.trans h k (fun _ _ e => e)
theorem KT.of_below (h : Below X.heap.size X Y) : KT t b X Y := Kept.of_below h
theorem KT.of_arr (h : Kept (fun k => k = b) X Y) : KT t b X Y := Kept.mono h (fun _ _ e => .inr e)
theorem KT.of_tab (h : Kept (fun k => k = t) X Y) : KT t b X Y := Kept.mono h (fun _ _ e => .inl e)
theorem KT.set_tab (X : World) (i : Nat) (v : Value) : KT t b X (X.setCell ⟨t, i, none⟩ v) := KT.of_tab (Kept.setCell X t i v)
theorem KT.arr2 {b2 : Nat} (h : KT t b X Y) (k : Kept (fun k => k = b2) Y Z) (e : b2 = b ∨ X.heap.size ≤ b2) : KT t b X Z :=
  Kept.trans h k (fun i hi e2 => by
    have e2 : i = b2 := e2
    rcases e with e | e
    · exact .inr (e2.trans e)
    · omega)
end
section
variable {w w' : World} {B0 t b : Nat} {most : Int} {L : List (Option Ent)}
/-- What Delete leaves. -/
def DelF (w : World) (B0 t b : Nat) (most : Int) (L : List (Option Ent)) (key : List UInt8) (e : Ending) (w' : World) : Prop :=
  ∃ L', HTab w' B0 t b most L' ∧ (Below B0 w w' ∧ KT t b w w') ∧ L'.length = L.length ∧ ((∃ x, x.key = key ∧ (ents L).Perm (x :: ents L') ∧ e = .returned (.bool true)) ∨ ((∀ x ∈ ents L, x.key ≠ key) ∧ L' = L ∧ e = .returned (.bool false)))
set_option maxRecDepth 100000 in
theorem hsdelF (h : HTab w B0 t b most L) (key : List UInt8) (hk : key.length ≤ 1000000) (hB : B0 ≤ w.heap.size) : Calls Tryd.prog 30 #[.pointer (some ⟨t, 0, none⟩), .string (strB key)] w fun e w' => DelF w B0 t b most L key e w' := by
  have k0 := h.hs.c0
  have H := Lib.hid h
  by_cases hp : ∃ i x, plH L i = some x ∧ x.key = key
  · obtain ⟨i, x, hx, rfl⟩ := hp
    have hi := plH_lt hx
    have HX := Lib.hid hx
    have hpm := ents_take hx
    have hpl := hpm.length_eq
    rw [List.length_cons] at hpl
    have HP := Lib.hid hpm
    have HPL := Lib.hid hpl
    have HFD := Lib.hid (hsfind_yes h hx)
    clear h hx hpm hpl
    go_enter Tryd.func30, Tryd.ntmps30
    go_wp2_with (first
      | (go_at_call 38; refine (hsmade t b _ _ _ k0).mono ?_; rintro e w1 ⟨rfl, rfl⟩)
      | (go_at_call 39; refine (hsmark x.key _ hk).mono ?_; rintro e w1 ⟨rfl, rfl⟩)
      | (go_at_call 49; refine (hsfree (H.out.hs.below x1) H.out.prb i x HX.out (by have := H.out.len; omega) H.out.free).mono ?_; rintro e w2 ⟨rfl, L', f1, f2, f3, f4, f5⟩; have F1 := Lib.hid f1; have F2 := Lib.hid (show _ ∧ _ ∧ _ ∧ _ from ⟨f2, f3, f4, f5⟩); have kc1 := f1.c1; have kf1 := heap_frozen f1.tab 1; clear f1 f2 f3 f4 f5)
      | (go_at_call 40; refine HFD.out.mono ?_; rintro e w1 ⟨rfl, x1⟩))
    obtain ⟨f2, f3, f4, f5⟩ := F2.out
    have hlen2 := f4.length_eq
    have hc : wrap64 (((ents L).length : Int) - 1) = ((ents L').length : Int) := by
      rw [IntWalk.wrap64_in _ (by have := H.out.n; have := H.out.mst; omega), HPL.out, hlen2]; omega
    rw [hc]
    have hz := H.out.z
    have hb1 : Below B0 w w1 := x1.mono hB
    have hb2 : Below B0 w1 w2 := f5.below (Nat.le_trans hB x1.size) (fun k e => by rw [e]; exact hz.2)
    have hb3 := hb1.trans hb2
    refine bodyPost_ret (results_tmp rfl _ _ _) rfl ⟨L', ⟨F1.out.cnt _, f3, ?_, by rw [f2]; exact H.out.len, H.out.mst, ?_, hz⟩, ⟨hb3.setCell (p := ⟨t, 1, none⟩) hz.1 _, ((KT.of_below x1).trans (KT.of_arr f5)).trans (KT.set_tab _ 1 _)⟩, f2, .inl ⟨x, rfl, HP.out.trans (f4.symm.cons x), rfl⟩⟩
    · have := H.out.half; rw [f2, hlen2]; have := HPL.out; omega
    · have := H.out.n; rw [hlen2]; have := HPL.out; omega
  · have hn : ∀ i x, plH L i = some x → x.key ≠ key := fun i x hx e => hp ⟨i, x, hx, e⟩
    have HN := Lib.hid hn
    have HFD := Lib.hid (hsfind_no h hn)
    clear h hn hp
    go_enter Tryd.func30, Tryd.ntmps30
    go_wp2_with (first
      | (go_at_call 38; refine (hsmade t b _ _ _ k0).mono ?_; rintro e w1 ⟨rfl, rfl⟩)
      | (go_at_call 39; refine (hsmark key _ hk).mono ?_; rintro e w1 ⟨rfl, rfl⟩)
      | (go_at_call 40; refine HFD.out.mono ?_; rintro e w1 ⟨rfl, x1⟩))
    exact bodyPost_ret (results_tmp rfl _ _ _) rfl ⟨L, H.out.below x1, ⟨x1.mono hB, KT.of_below x1⟩, rfl, .inr ⟨fun x hx => by obtain ⟨i, h1⟩ := mem_ents.1 hx; exact HN.out i x h1, rfl, rfl⟩⟩
/-- What Put leaves. -/
def PutF (w : World) (B0 t b : Nat) (most : Int) (L : List (Option Ent)) (key : List UInt8) (n : Int) (e : Ending) (w' : World) : Prop :=
  ∃ b' L', HTab w' B0 t b' most L' ∧ (Below B0 w w' ∧ KT t b w w' ∧ (b' = b ∨ w.heap.size ≤ b')) ∧
    ((∃ x R, x.key = key ∧ (ents L).Perm (x :: R) ∧ (ents L').Perm (⟨key, n⟩ :: R) ∧ e = .returned (.int .i64 0)) ∨
     ((∀ x ∈ ents L, x.key ≠ key) ∧ ((((ents L).length : Int) ≥ most ∧ ents L' = ents L ∧ e = .returned (.int .i64 7)) ∨ (((ents L).length : Int) < most ∧ (ents L').Perm (⟨key, n⟩ :: ents L) ∧ e = .returned (.int .i64 0)))))
theorem putF_end {w w5 w6 w7 : World} {B0 t b b2 C r : Nat} {most : Int} {L L2 : List (Option Ent)} {key : List UInt8} {n : Int} (_ : Hs w5 t b2 (C : Int) most L2) (g : Prb (hmN L2.length) L2 ∧ (ents L2).Perm (ents L) ∧ 2 * (C + 1) ≤ L2.length ∧ L2.length ≤ 300000 ∧ B0 ≤ b2) (hC : C = (ents L).length) (hz : B0 ≤ t ∧ B0 ≤ b2 ∨ B0 ≤ t) (hlt : (C : Int) < most) (hms : 0 ≤ most ∧ most ≤ 65536)
    (hn : ∀ x ∈ ents L, x.key ≠ key) (x6 : Below w5.heap.size w5 w6) (h5 : B0 ≤ w5.heap.size) (b5 : Below B0 w w5) (k5 : KT t b w w5) (hb2 : b2 = b ∨ w.heap.size ≤ b2) (r4 : Hs w7 t b2 (C : Int) most (L2.set (rnd L2.length (hmN L2.length key) r) (some ⟨key, n⟩)))
    (R : r < L2.length ∧ (∀ d, d < r → plH L2 (rnd L2.length (hmN L2.length key) d) ≠ none) ∧ plH L2 (rnd L2.length (hmN L2.length key) r) = none ∧ Kept (fun k => k = b2) w6 w7) :
    PutF w B0 t b most L key n (.returned (.int .i64 0)) (w7.setCell ⟨t, 1, none⟩ (.int .i64 ((C : Int) + 1))) := by
  obtain ⟨g1, g2, g3, g4, g5⟩ := g
  obtain ⟨r1, r2, r3, r5⟩ := R
  have hzt : B0 ≤ t := by rcases hz with h | h; exact h.1; exact h
  have hp := ents_put (e := (⟨key, n⟩ : Ent)) (rnd_lt (g1.home key) r1) r3
  have hl := hp.length_eq
  rw [List.length_cons, g2.length_eq, ← hC] at hl
  have hb : Below B0 w w7 := (b5.trans (x6.mono h5)).trans (r5.below (Nat.le_trans h5 x6.size) (fun k e => by have e' : k = b2 := e; rw [e']; exact g5))
  have hq : (ents (L2.set (rnd L2.length (hmN L2.length key) r) (some ⟨key, n⟩))).Perm (⟨key, n⟩ :: ents L) := hp.trans (g2.cons _)
  have hlt' : ((ents L).length : Int) < most := by rw [← hC]; exact hlt
  have hpr : Prb (hmN L2.length) (L2.set (rnd L2.length (hmN L2.length key) r) (some ⟨key, n⟩)) := by
    refine Prb.put (x := (⟨key, n⟩ : Ent)) g1 (fun i e he hk => ?_) r1 r2
    exact hn e (g2.mem_iff.1 (mem_ents.2 ⟨i, he⟩)) hk
  have h4 := r4.cnt ((C : Int) + 1)
  have hlc : ((C : Int) + 1) = ((ents (L2.set (rnd L2.length (hmN L2.length key) r) (some ⟨key, n⟩))).length : Int) := by rw [hl]; omega
  have hbs := hb.setCell (p := ⟨t, 1, none⟩) hzt (.int .i64 ((C : Int) + 1))
  obtain ⟨L3, hL3⟩ : ∃ L3, L3 = L2.set (rnd L2.length (hmN L2.length key) r) (some (⟨key, n⟩ : Ent)) := ⟨_, rfl⟩
  have hlm : L2.length = L3.length := by rw [hL3, List.length_set]
  rw [← hL3] at hpr hq h4 hlc hl
  rw [hlm] at hpr g3 g4
  have hg3 : 2 * (ents L3).length ≤ L3.length := by omega
  have hg4 : ((ents L3).length : Int) ≤ most := by omega
  have kk := (KT.arr2 (k5.trans (KT.of_below x6)) r5 hb2).trans (KT.set_tab w7 1 (.int .i64 ((C : Int) + 1)))
  rw [hlc] at h4 hbs kk ⊢
  exact ⟨b2, L3, ⟨h4, hpr, hg3, g4, hms, hg4, hzt, g5⟩, ⟨hbs, kk, hb2⟩, Or.inr ⟨hn, Or.inr ⟨hlt', hq, rfl⟩⟩⟩
set_option maxRecDepth 100000 in
set_option maxHeartbeats 2000000 in
theorem hsputF (h : HTab w B0 t b most L) (key : List UInt8) (n : Int) (hk : key.length ≤ 1000000) (hB : B0 ≤ w.heap.size) : Calls Tryd.prog 25 #[.pointer (some ⟨t, 0, none⟩), .string (strB key), .int .i64 n] w fun e w' => PutF w B0 t b most L key n e w' := by
  have k0 := h.hs.c0
  have H := Lib.hid h
  by_cases hp : ∃ i x, plH L i = some x ∧ x.key = key
  · obtain ⟨i, x, hx, rfl⟩ := hp
    have hi := plH_lt hx
    have HX := Lib.hid hx
    have HFD := Lib.hid (hsfind_yes h hx)
    have hF : ∀ V, Below w.heap.size w V → V.cell? ⟨t, 0, none⟩ = some (.slice (some ⟨b, 0, none⟩) L.length L.length) ∧ V.cell? ⟨b, i * 4 + 3, none⟩ = some (.int .i64 x.n) ∧ V.frozen? ⟨b, i * 4 + 3, none⟩ = false := fun V hV => by
      have h1 := (h.hs.below hV)
      have h2 := h1.at_ (plH_get hi)
      rw [hx] at h2
      obtain ⟨cur, h3, _⟩ := h1.arr.obj
      exact ⟨h1.c0, h2 3 _ rfl, heap_frozen h3 _⟩
    have HF := Lib.hid hF
    clear h hx hF
    go_enter Tryd.func25, Tryd.ntmps25
    go_wp2_with (first
      | (go_at_call 38; refine (hsmade t b _ _ _ k0).mono ?_; rintro e w1 ⟨rfl, rfl⟩)
      | (go_at_call 39; refine (hsmark x.key _ hk).mono ?_; rintro e w1 ⟨rfl, rfl⟩)
      | (go_at_call 40; refine HFD.out.mono ?_; rintro e w1 ⟨rfl, x1⟩; have hq := HF.out _ x1; obtain ⟨q1, q2, q3⟩ := hq))
    have h1 := H.out.below x1
    obtain ⟨R, p1, p2⟩ := ents_change HX.out ⟨x.key, n⟩
    have hz := H.out.z
    have hle := p1.length_eq
    have hle2 := p2.length_eq
    rw [List.length_cons] at hle hle2
    refine bodyPost_ret (results_tmp rfl _ _ _) rfl ⟨b, L.set i (some ⟨x.key, n⟩), ⟨⟨?_, h1.hs.arr.setN HX.out n⟩, by rw [List.length_set]; exact H.out.prb.change HX.out n, by rw [List.length_set, hle2, ← hle]; exact H.out.half, by rw [List.length_set]; exact H.out.len, H.out.mst, by rw [hle2, ← hle]; exact H.out.n, hz⟩, ⟨(x1.mono hB).setCell (p := ⟨b, i * 4 + 3, none⟩) hz.2 _, (KT.of_below x1).trans (KT.of_arr (Kept.setCell w1 b (i * 4 + 3) _)), .inl rfl⟩, .inl ⟨x, R, rfl, p1, p2, rfl⟩⟩
    rw [List.length_set, hle2, ← hle]
    exact (heap_setCell_other w1 ⟨b, i * 4 + 3, none⟩ _ _ h1.hs.ne).trans h1.hs.tab
  · have hn : ∀ i x, plH L i = some x → x.key ≠ key := fun i x hx e => hp ⟨i, x, hx, e⟩
    have HN := Lib.hid hn
    have HNE : Hid (∀ x ∈ ents L, x.key ≠ key) := Lib.hid fun x hx => by obtain ⟨i, h1⟩ := mem_ents.1 hx; exact hn i x h1
    have HFD := Lib.hid (hsfind_no h hn)
    obtain ⟨C, hC⟩ : ∃ C, C = (ents L).length := ⟨_, rfl⟩
    have hCm := h.n
    have hms := h.mst
    have hlen := h.len
    have hhalf := h.half
    have hL0 := h.prb.home []
    have hF : ∀ V, Below w.heap.size w V → V.cell? ⟨t, 0, none⟩ = some (.slice (some ⟨b, 0, none⟩) L.length L.length) ∧ V.cell? ⟨t, 1, none⟩ = some (.int .i64 (C : Int)) ∧ V.cell? ⟨t, 2, none⟩ = some (.int .i64 most) := fun V hV => by
      have h1 := (h.hs.below hV)
      exact ⟨h1.c0, by rw [hC]; exact h1.c1, h1.c2⟩
    have HF := Lib.hid hF
    rw [← hC] at hCm hhalf
    have HC := Lib.hid hC
    clear h hn hp hF hC
    go_enter Tryd.func25, Tryd.ntmps25
    go_upto_region 8 with (first
      | (go_at_call 38; refine (hsmade t b _ _ _ k0).mono ?_; rintro e w1 ⟨rfl, rfl⟩)
      | (go_at_call 39; refine (hsmark key _ hk).mono ?_; rintro e w1 ⟨rfl, rfl⟩)
      | (go_at_call 40; refine HFD.out.mono ?_; rintro e w1 ⟨rfl, x1⟩; have H1 := Lib.hid (H.out.below x1); have KC0 : Hid (∀ V, Below w1.heap.size w1 V → V.cell? ⟨t, 0, none⟩ = some (.slice (some ⟨b, 0, none⟩) L.length L.length)) := Lib.hid (fun V hV => (HF.out V (x1.trans (hV.mono x1.size))).1); have KC1 : Hid (∀ V, Below w1.heap.size w1 V → V.cell? ⟨t, 1, none⟩ = some (.int .i64 (C : Int))) := Lib.hid (fun V hV => (HF.out V (x1.trans (hV.mono x1.size))).2.1); have KC2 : Hid (∀ V, Below w1.heap.size w1 V → V.cell? ⟨t, 2, none⟩ = some (.int .i64 most)) := Lib.hid (fun V hV => (HF.out V (x1.trans (hV.mono x1.size))).2.2)))
    by_cases hfull : (C : Int) ≥ most
    · have dF : decide (most ≤ (C : Int)) = true := decide_eq_true hfull
      refine wp_region_held_drew (S := fun w' => Below w1.heap.size w1 w') (by kernel_rfl) (Below.refl _ _).drew (fun hS => ?_)
      refine held_pure (i := 0) (oi := ⟨some 31, _, _, _, _, _⟩) rfl (by kernel_rfl) (by kernel_rfl) (by kernel_rfl) (fun _ _ _ h => h) (by rfl) (v := ?_) (fun w hSw => ?_) hS (fun hS => ?_)
      rotate_left
      · go_simp; try with_reducible rfl
      try go_frame
      refine held_pure (i := 1) (oi := ⟨some 32, _, _, _, _, _⟩) rfl (by kernel_rfl) (by kernel_rfl) (by kernel_rfl) (fun _ _ _ h => h) (by rfl) (v := ?_) (fun w hSw => ?_) hS (fun hS => ?_)
      rotate_left
      · go_simp; try with_reducible rfl
      try go_frame
      refine held_pure (i := 2) (oi := ⟨some 33, _, _, _, _, _⟩) rfl (by kernel_rfl) (by kernel_rfl) (by kernel_rfl) (fun _ _ _ h => h) (by rfl) (v := ?_) (fun w hSw => ?_) hS (fun hS => ?_)
      rotate_left
      · go_simp; try with_reducible rfl
      try go_frame
      refine held_pure (i := 3) (oi := ⟨some 34, _, _, _, _, _⟩) rfl (by kernel_rfl) (by kernel_rfl) (by kernel_rfl) (fun _ _ _ h => h) (by rfl) (fun w hSw => run_load_int rfl rfl (KC1.out _ hSw)) hS (fun hS => ?_)
      try go_frame
      refine held_pure (i := 4) (oi := ⟨some 35, _, _, _, _, _⟩) rfl (by kernel_rfl) (by kernel_rfl) (by kernel_rfl) (fun _ _ _ h => h) (by rfl) (v := ?_) (fun w hSw => ?_) hS (fun hS => ?_)
      rotate_left
      · go_simp; try with_reducible rfl
      try go_frame
      refine held_pure (i := 5) (oi := ⟨some 36, _, _, _, _, _⟩) rfl (by kernel_rfl) (by kernel_rfl) (by kernel_rfl) (fun _ _ _ h => h) (by rfl) (v := ?_) (fun w hSw => ?_) hS (fun hS => ?_)
      rotate_left
      · go_simp; try with_reducible rfl
      try go_frame
      refine held_pure (i := 6) (oi := ⟨some 37, _, _, _, _, _⟩) rfl (by kernel_rfl) (by kernel_rfl) (by kernel_rfl) (fun _ _ _ h => h) (by rfl) (v := ?_) (fun w hSw => ?_) hS (fun hS => ?_)
      rotate_left
      · go_simp; try with_reducible rfl
      try go_frame
      refine held_pure (i := 7) (oi := ⟨some 38, _, _, _, _, _⟩) rfl (by kernel_rfl) (by kernel_rfl) (by kernel_rfl) (fun _ _ _ h => h) (by rfl) (fun w hSw => run_load_int rfl rfl (KC2.out _ hSw)) hS (fun hS => ?_)
      try go_frame
      refine held_pure (i := 8) (oi := ⟨some 39, _, _, _, _, _⟩) rfl (by kernel_rfl) (by kernel_rfl) (by kernel_rfl) (fun _ _ _ h => h) (by rfl) (v := .bool true) (fun w hSw => by go_simp; try exact dF) hS (fun hS => ?_)
      try go_frame
      refine wpAnyH_done (by kernel_rfl) ?_ _
      go_wp2
      refine bodyPost_ret (results_tmp rfl _ _ _) rfl ⟨b, L, H.out.below (x1.trans (hS.mono x1.size)), ⟨(x1.trans (hS.mono x1.size)).mono hB, KT.of_below (x1.trans (hS.mono x1.size)), .inl rfl⟩, .inr ⟨HNE.out, .inl ⟨by rw [← HC.out]; exact hfull, rfl, rfl⟩⟩⟩
    · have dF : decide (most ≤ (C : Int)) = false := decide_eq_false hfull
      have HW1 : Hid (IntKind.i64.wrap ((C : Int) + 1) = (C : Int) + 1) := Lib.hid (IntWalk.i64_in _ (by omega))
      have HW2 : Hid (IntKind.i64.wrap (2 * ((C : Int) + 1)) = 2 * ((C : Int) + 1)) := Lib.hid (IntWalk.i64_in _ (by omega))
      refine wp_region_held_drew (S := fun w' => Below w1.heap.size w1 w') (by kernel_rfl) (Below.refl _ _).drew (fun hS => ?_)
      refine held_pure (i := 0) (oi := ⟨some 31, _, _, _, _, _⟩) rfl (by kernel_rfl) (by kernel_rfl) (by kernel_rfl) (fun _ _ _ h => h) (by rfl) (v := ?_) (fun w hSw => ?_) hS (fun hS => ?_)
      rotate_left
      · go_simp; try with_reducible rfl
      try go_frame
      refine held_pure (i := 1) (oi := ⟨some 32, _, _, _, _, _⟩) rfl (by kernel_rfl) (by kernel_rfl) (by kernel_rfl) (fun _ _ _ h => h) (by rfl) (v := ?_) (fun w hSw => ?_) hS (fun hS => ?_)
      rotate_left
      · go_simp; try with_reducible rfl
      try go_frame
      refine held_pure (i := 2) (oi := ⟨some 33, _, _, _, _, _⟩) rfl (by kernel_rfl) (by kernel_rfl) (by kernel_rfl) (fun _ _ _ h => h) (by rfl) (v := ?_) (fun w hSw => ?_) hS (fun hS => ?_)
      rotate_left
      · go_simp; try with_reducible rfl
      try go_frame
      refine held_pure (i := 3) (oi := ⟨some 34, _, _, _, _, _⟩) rfl (by kernel_rfl) (by kernel_rfl) (by kernel_rfl) (fun _ _ _ h => h) (by rfl) (fun w hSw => run_load_int rfl rfl (KC1.out _ hSw)) hS (fun hS => ?_)
      try go_frame
      refine held_pure (i := 4) (oi := ⟨some 35, _, _, _, _, _⟩) rfl (by kernel_rfl) (by kernel_rfl) (by kernel_rfl) (fun _ _ _ h => h) (by rfl) (v := ?_) (fun w hSw => ?_) hS (fun hS => ?_)
      rotate_left
      · go_simp; try with_reducible rfl
      try go_frame
      refine held_pure (i := 5) (oi := ⟨some 36, _, _, _, _, _⟩) rfl (by kernel_rfl) (by kernel_rfl) (by kernel_rfl) (fun _ _ _ h => h) (by rfl) (v := ?_) (fun w hSw => ?_) hS (fun hS => ?_)
      rotate_left
      · go_simp; try with_reducible rfl
      try go_frame
      refine held_pure (i := 6) (oi := ⟨some 37, _, _, _, _, _⟩) rfl (by kernel_rfl) (by kernel_rfl) (by kernel_rfl) (fun _ _ _ h => h) (by rfl) (v := ?_) (fun w hSw => ?_) hS (fun hS => ?_)
      rotate_left
      · go_simp; try with_reducible rfl
      try go_frame
      refine held_pure (i := 7) (oi := ⟨some 38, _, _, _, _, _⟩) rfl (by kernel_rfl) (by kernel_rfl) (by kernel_rfl) (fun _ _ _ h => h) (by rfl) (fun w hSw => run_load_int rfl rfl (KC2.out _ hSw)) hS (fun hS => ?_)
      try go_frame
      refine held_pure (i := 8) (oi := ⟨some 39, _, _, _, _, _⟩) rfl (by kernel_rfl) (by kernel_rfl) (by kernel_rfl) (fun _ _ _ h => h) (by rfl) (v := .bool false) (fun w hSw => by go_simp; try exact dF) hS (fun hS => ?_)
      try go_frame
      refine wpAnyH_done (by kernel_rfl) ?_ _
      go_upto_region 10 with fail
      have hz := H.out.z
      have hW4 : Below w1.heap.size w1 w1.drew.drew := (Below.refl w1.heap.size w1).drew.drew
      have H4 := H1.out.below hW4
      have b4 : Below B0 w w1.drew.drew := (x1.trans (hW4.mono x1.size)).mono hB
      by_cases hg : 2 * (C + 1) > L.length
      · have dG : decide ((L.length : Int) < 2 * ((C : Int) + 1)) = true := decide_eq_true (by omega)
        refine wp_region_held_drew (S := fun w' => Below w1.heap.size w1 w') (by kernel_rfl) (Below.refl w1.heap.size w1).drew.drew (fun hS => ?_)
        refine held_pure (i := 0) (oi := ⟨some 40, _, _, _, _, _⟩) rfl (by kernel_rfl) (by kernel_rfl) (by kernel_rfl) (fun _ _ _ h => h) (by rfl) (v := ?_) (fun w hSw => ?_) hS (fun hS => ?_)
        rotate_left
        · go_simp; try with_reducible rfl
        try go_frame
        refine held_pure (i := 1) (oi := ⟨some 41, _, _, _, _, _⟩) rfl (by kernel_rfl) (by kernel_rfl) (by kernel_rfl) (fun _ _ _ h => h) (by rfl) (v := ?_) (fun w hSw => ?_) hS (fun hS => ?_)
        rotate_left
        · go_simp; try with_reducible rfl
        try go_frame
        refine held_pure (i := 2) (oi := ⟨some 42, _, _, _, _, _⟩) rfl (by kernel_rfl) (by kernel_rfl) (by kernel_rfl) (fun _ _ _ h => h) (by rfl) (v := ?_) (fun w hSw => ?_) hS (fun hS => ?_)
        rotate_left
        · go_simp; try with_reducible rfl
        try go_frame
        refine held_pure (i := 3) (oi := ⟨some 43, _, _, _, _, _⟩) rfl (by kernel_rfl) (by kernel_rfl) (by kernel_rfl) (fun _ _ _ h => h) (by rfl) (fun w hSw => run_load_int rfl rfl (KC1.out _ hSw)) hS (fun hS => ?_)
        try go_frame
        refine held_pure (i := 4) (oi := ⟨some 44, _, _, _, _, _⟩) rfl (by kernel_rfl) (by kernel_rfl) (by kernel_rfl) (fun _ _ _ h => h) (by rfl) (v := .int .i64 ((C : Int) + 1)) (fun w hSw => by go_simp; try exact HW1.out) hS (fun hS => ?_)
        try go_frame
        refine held_pure (i := 5) (oi := ⟨some 45, _, _, _, _, _⟩) rfl (by kernel_rfl) (by kernel_rfl) (by kernel_rfl) (fun _ _ _ h => h) (by rfl) (v := .int .i64 (2 * ((C : Int) + 1))) (fun w hSw => by go_simp; try exact HW2.out) hS (fun hS => ?_)
        try go_frame
        refine held_pure (i := 6) (oi := ⟨some 46, _, _, _, _, _⟩) rfl (by kernel_rfl) (by kernel_rfl) (by kernel_rfl) (fun _ _ _ h => h) (by rfl) (v := ?_) (fun w hSw => ?_) hS (fun hS => ?_)
        rotate_left
        · go_simp; try with_reducible rfl
        try go_frame
        refine held_pure (i := 7) (oi := ⟨some 47, _, _, _, _, _⟩) rfl (by kernel_rfl) (by kernel_rfl) (by kernel_rfl) (fun _ _ _ h => h) (by rfl) (v := ?_) (fun w hSw => ?_) hS (fun hS => ?_)
        rotate_left
        · go_simp; try with_reducible rfl
        try go_frame
        refine held_pure (i := 8) (oi := ⟨some 48, _, _, _, _, _⟩) rfl (by kernel_rfl) (by kernel_rfl) (by kernel_rfl) (fun _ _ _ h => h) (by rfl) (v := ?_) (fun w hSw => ?_) hS (fun hS => ?_)
        rotate_left
        · go_simp; try with_reducible rfl
        try go_frame
        refine held_pure (i := 9) (oi := ⟨some 49, _, _, _, _, _⟩) rfl (by kernel_rfl) (by kernel_rfl) (by kernel_rfl) (fun _ _ _ h => h) (by rfl) (fun w hSw => run_load_hsar rfl rfl (KC0.out _ hSw)) hS (fun hS => ?_)
        try go_frame
        refine held_pure (i := 10) (oi := ⟨some 50, _, _, _, _, _⟩) rfl (by kernel_rfl) (by kernel_rfl) (by kernel_rfl) (fun _ _ _ h => h) (by rfl) (v := ?_) (fun w hSw => ?_) hS (fun hS => ?_)
        rotate_left
        · go_simp; try with_reducible rfl
        try go_frame
        refine held_pure (i := 11) (oi := ⟨some 51, _, _, _, _, _⟩) rfl (by kernel_rfl) (by kernel_rfl) (by kernel_rfl) (fun _ _ _ h => h) (by rfl) (v := .bool true) (fun w hSw => by go_simp; try exact dG) hS (fun hS => ?_)
        try go_frame
        refine wpAnyH_done (by kernel_rfl) ?_ _
        go_wp2_with (first
          | (go_at_call 41; refine (hsgrow H4.hs H4.prb (by omega)).mono ?_; rintro e w5 ⟨rfl, b2, L2, g1, g2, g3, g4, g5, g6⟩; have hz4 := hW4.size; have hz0 := x1.size; have b5 : Below B0 w w5 := b4.trans (g5.below (by have := b4.size; omega) (fun k e => by have e' : k = t := e; rw [e']; exact hz.1)); have k5 : KT t b w w5 := (KT.of_below (x1.trans (hW4.mono x1.size))).trans (KT.of_tab g5); have hb2 : b2 = b ∨ w.heap.size ≤ b2 := .inr (by omega); have G := Lib.hid (show Hs w5 t b2 (C : Int) most L2 ∧ Prb (hmN L2.length) L2 ∧ (ents L2).Perm (ents L) ∧ 2 * (C + 1) ≤ L2.length ∧ L2.length ≤ 300000 ∧ B0 ≤ b2 from ⟨by rw [HC.out]; exact g1, g3, g4, by omega, by omega, by omega⟩); clear g1 g2 g3 g4 g5)
          | (go_at_call 43; refine (hsclone key _ hk).mono ?_; rintro e w6 ⟨rfl, x6⟩; have G6 := Lib.hid (G.out.1.below x6))
          | (go_at_call 42; refine (hskeep G6.out ⟨key, n⟩ (G.out.2.1.home _) (by have := G.out.2.2.2.2.1; omega) (free_of_lt (by rw [G.out.2.2.1.length_eq, ← HC.out]; have := G.out.2.2.2.1; omega))).mono ?_; rintro e w7 ⟨rfl, r, r1, r2, r3, r4, r5⟩; have R := Lib.hid (show _ ∧ _ ∧ _ ∧ _ from ⟨r1, r2, r3, r5⟩); have R4 := Lib.hid r4; have kc1 := r4.c1; have kf1 := heap_frozen r4.tab 1; clear r1 r2 r3 r4 r5))
        refine bodyPost_ret (results_tmp rfl _ _ _) rfl ?_
        exact (putF_end G.out.1 G.out.2 HC.out (.inr hz.1) (by omega) hms HNE.out x6 (Nat.le_trans hB b5.size) b5 k5 hb2 R4.out R.out)
      · have dG : decide ((L.length : Int) < 2 * ((C : Int) + 1)) = false := decide_eq_false (by omega)
        have G : Hid (Hs w1.drew.drew t b (C : Int) most L ∧ Prb (hmN L.length) L ∧ (ents L).Perm (ents L) ∧ 2 * (C + 1) ≤ L.length ∧ L.length ≤ 300000 ∧ B0 ≤ b) := Lib.hid ⟨by rw [HC.out]; exact H4.hs, H4.prb, List.Perm.refl _, by omega, by omega, hz.2⟩
        have b5 := b4
        have k5 : KT t b w w1.drew.drew := KT.of_below (x1.trans (hW4.mono x1.size))
        refine wp_region_held_drew (S := fun w' => Below w1.heap.size w1 w') (by kernel_rfl) (Below.refl w1.heap.size w1).drew.drew (fun hS => ?_)
        refine held_pure (i := 0) (oi := ⟨some 40, _, _, _, _, _⟩) rfl (by kernel_rfl) (by kernel_rfl) (by kernel_rfl) (fun _ _ _ h => h) (by rfl) (v := ?_) (fun w hSw => ?_) hS (fun hS => ?_)
        rotate_left
        · go_simp; try with_reducible rfl
        try go_frame
        refine held_pure (i := 1) (oi := ⟨some 41, _, _, _, _, _⟩) rfl (by kernel_rfl) (by kernel_rfl) (by kernel_rfl) (fun _ _ _ h => h) (by rfl) (v := ?_) (fun w hSw => ?_) hS (fun hS => ?_)
        rotate_left
        · go_simp; try with_reducible rfl
        try go_frame
        refine held_pure (i := 2) (oi := ⟨some 42, _, _, _, _, _⟩) rfl (by kernel_rfl) (by kernel_rfl) (by kernel_rfl) (fun _ _ _ h => h) (by rfl) (v := ?_) (fun w hSw => ?_) hS (fun hS => ?_)
        rotate_left
        · go_simp; try with_reducible rfl
        try go_frame
        refine held_pure (i := 3) (oi := ⟨some 43, _, _, _, _, _⟩) rfl (by kernel_rfl) (by kernel_rfl) (by kernel_rfl) (fun _ _ _ h => h) (by rfl) (fun w hSw => run_load_int rfl rfl (KC1.out _ hSw)) hS (fun hS => ?_)
        try go_frame
        refine held_pure (i := 4) (oi := ⟨some 44, _, _, _, _, _⟩) rfl (by kernel_rfl) (by kernel_rfl) (by kernel_rfl) (fun _ _ _ h => h) (by rfl) (v := .int .i64 ((C : Int) + 1)) (fun w hSw => by go_simp; try exact HW1.out) hS (fun hS => ?_)
        try go_frame
        refine held_pure (i := 5) (oi := ⟨some 45, _, _, _, _, _⟩) rfl (by kernel_rfl) (by kernel_rfl) (by kernel_rfl) (fun _ _ _ h => h) (by rfl) (v := .int .i64 (2 * ((C : Int) + 1))) (fun w hSw => by go_simp; try exact HW2.out) hS (fun hS => ?_)
        try go_frame
        refine held_pure (i := 6) (oi := ⟨some 46, _, _, _, _, _⟩) rfl (by kernel_rfl) (by kernel_rfl) (by kernel_rfl) (fun _ _ _ h => h) (by rfl) (v := ?_) (fun w hSw => ?_) hS (fun hS => ?_)
        rotate_left
        · go_simp; try with_reducible rfl
        try go_frame
        refine held_pure (i := 7) (oi := ⟨some 47, _, _, _, _, _⟩) rfl (by kernel_rfl) (by kernel_rfl) (by kernel_rfl) (fun _ _ _ h => h) (by rfl) (v := ?_) (fun w hSw => ?_) hS (fun hS => ?_)
        rotate_left
        · go_simp; try with_reducible rfl
        try go_frame
        refine held_pure (i := 8) (oi := ⟨some 48, _, _, _, _, _⟩) rfl (by kernel_rfl) (by kernel_rfl) (by kernel_rfl) (fun _ _ _ h => h) (by rfl) (v := ?_) (fun w hSw => ?_) hS (fun hS => ?_)
        rotate_left
        · go_simp; try with_reducible rfl
        try go_frame
        refine held_pure (i := 9) (oi := ⟨some 49, _, _, _, _, _⟩) rfl (by kernel_rfl) (by kernel_rfl) (by kernel_rfl) (fun _ _ _ h => h) (by rfl) (fun w hSw => run_load_hsar rfl rfl (KC0.out _ hSw)) hS (fun hS => ?_)
        try go_frame
        refine held_pure (i := 10) (oi := ⟨some 50, _, _, _, _, _⟩) rfl (by kernel_rfl) (by kernel_rfl) (by kernel_rfl) (fun _ _ _ h => h) (by rfl) (v := ?_) (fun w hSw => ?_) hS (fun hS => ?_)
        rotate_left
        · go_simp; try with_reducible rfl
        try go_frame
        refine held_pure (i := 11) (oi := ⟨some 51, _, _, _, _, _⟩) rfl (by kernel_rfl) (by kernel_rfl) (by kernel_rfl) (fun _ _ _ h => h) (by rfl) (v := .bool false) (fun w hSw => by go_simp; try exact dG) hS (fun hS => ?_)
        try go_frame
        refine wpAnyH_done (by kernel_rfl) ?_ _
        go_wp2_with (first
          | (go_at_call 43; refine (hsclone key _ hk).mono ?_; rintro e w6 ⟨rfl, x6⟩; have G6 := Lib.hid (G.out.1.below x6))
          | (go_at_call 42; refine (hskeep G6.out ⟨key, n⟩ (G.out.2.1.home _) (by have := G.out.2.2.2.2.1; omega) (free_of_lt (by rw [← HC.out]; omega))).mono ?_; rintro e w7 ⟨rfl, r, r1, r2, r3, r4, r5⟩; have R := Lib.hid (show _ ∧ _ ∧ _ ∧ _ from ⟨r1, r2, r3, r5⟩); have R4 := Lib.hid r4; have kc1 := r4.c1; have kf1 := heap_frozen r4.tab 1; clear r1 r2 r3 r4 r5))
        refine bodyPost_ret (results_tmp rfl _ _ _) rfl ?_
        exact (putF_end G.out.1 G.out.2 HC.out (.inr hz.1) (by omega) hms HNE.out x6 (Nat.le_trans hB b5.size) b5 k5 (.inl rfl) R4.out R.out)
end
section
variable {w w' : World} {B0 t b : Nat} {most : Int} {M R : List Ent} {x : Ent} {key : List UInt8} {n : Int}
/-- The table at t, its array at b, holds the entries M. -/
def HQ (w : World) (B0 t b : Nat) (most : Int) (M : List Ent) : Prop := ∃ L, HTab w B0 t b most L ∧ (ents L).Perm M
theorem HQ.hm (h : HQ w B0 t b most M) : HM w B0 t most M := by obtain ⟨L, h1, h2⟩ := h; exact ⟨b, L, h1, h2⟩
theorem HQ.below (h : HQ w B0 t b most M) (hb : Below w.heap.size w w') : HQ w' B0 t b most M := by obtain ⟨L, h1, h2⟩ := h; exact ⟨L, h1.below hb, h2⟩
theorem HQ.perm (h : HQ w B0 t b most M) (hp : M.Perm R) : HQ w B0 t b most R := by obtain ⟨L, h1, h2⟩ := h; exact ⟨L, h1, h2.trans hp⟩
theorem HQ.lt (h : HQ w B0 t b most M) : t < w.heap.size ∧ b < w.heap.size ∧ B0 ≤ t ∧ B0 ≤ b := by obtain ⟨L, h1, h2⟩ := h; exact ⟨heap_lt h1.hs.tab, h1.hs.arr.lt, h1.z.1, h1.z.2⟩
theorem HQ.tab (h : HQ w B0 t b most M) : (∃ cs, w.heap[t]? = some (.cells cs 83 (0, 0))) ∧ ∃ cs, w.heap[b]? = some (.cells cs 88 (0, 0)) := by
  obtain ⟨L, h1, h2⟩ := h
  obtain ⟨cur, h3, _⟩ := h1.hs.arr.obj
  exact ⟨⟨_, h1.hs.tab⟩, ⟨_, h3⟩⟩
/-- Other blocks were written. -/
theorem HQ.kept {S : Nat → Prop} (h : HQ w B0 t b most M) (k : Kept S w w') (ht : ¬ S t) (hb : ¬ S b) : HQ w' B0 t b most M := by
  obtain ⟨L, q1, q2⟩ := h
  exact ⟨L, ⟨⟨(k.block t (heap_lt q1.hs.tab) ht).trans q1.hs.tab, q1.hs.arr.keep (k.block b q1.hs.arr.lt hb)⟩, q1.prb, q1.half, q1.len, q1.mst, q1.n, q1.z⟩, q2⟩
theorem hq_new (most : Int) (w : World) (h0 : 0 ≤ most) (h1 : most ≤ 65536) (B0 : Nat) (hB : B0 ≤ w.heap.size) : Calls Tryd.prog 23 #[.int .i64 most] w fun e w' =>
    e = .returned (.tuple #[.pointer (some ⟨w.heap.size + 1, 0, none⟩), .int .i64 0]) ∧ HQ w' B0 (w.heap.size + 1) w.heap.size most [] ∧ Below w.heap.size w w' :=
  (hsnew_ok most w h0 h1).mono fun e w' ⟨a, b, c⟩ => ⟨a, ⟨_, HTab.new ⟨h0, h1⟩ b ⟨Nat.le_succ_of_le hB, hB⟩, by rw [ents_rep]⟩, c⟩
theorem hq_put_new (h : HQ w B0 t b most M) (hn : ∀ x ∈ M, x.key ≠ key) (hm : (M.length : Int) < most) (n : Int) (hk : key.length ≤ 1000000) (hB : B0 ≤ w.heap.size) :
    Calls Tryd.prog 25 #[.pointer (some ⟨t, 0, none⟩), .string (strB key), .int .i64 n] w fun e w' => ∃ b', e = .returned (.int .i64 0) ∧ HQ w' B0 t b' most (⟨key, n⟩ :: M) ∧ Below B0 w w' ∧ KT t b w w' ∧ (b' = b ∨ w.heap.size ≤ b') := by
  obtain ⟨L, h1, h2⟩ := h
  refine (hsputF h1 key n hk hB).mono ?_
  rintro e w' ⟨b', L', q1, q2, q3⟩
  rcases q3 with ⟨x, R, r1, r2, _, _⟩ | ⟨r1, ⟨r2, _, _⟩ | ⟨r2, r3, rfl⟩⟩
  · exact absurd r1 (hn x (h2.mem_iff.1 (r2.mem_iff.2 (List.mem_cons_self ..))))
  · have := h2.length_eq; omega
  · exact ⟨b', rfl, ⟨L', q1, r3.trans (h2.cons _)⟩, q2⟩
theorem hq_del_yes (h : HQ w B0 t b most M) (hp : M.Perm (x :: R)) (hk : x.key.length ≤ 1000000) (hB : B0 ≤ w.heap.size) :
    Calls Tryd.prog 30 #[.pointer (some ⟨t, 0, none⟩), .string (strB x.key)] w fun e w' => e = .returned (.bool true) ∧ HQ w' B0 t b most R ∧ Below B0 w w' ∧ KT t b w w' := by
  have hu : ∀ {y : Ent}, x ∈ M → y ∈ M → x.key = y.key → x = y := fun h1 h2 h3 => h.hm.uniq h1 h2 h3
  have hxm : x ∈ M := hp.mem_iff.2 (List.mem_cons_self ..)
  obtain ⟨L, h1, h2⟩ := h
  refine (hsdelF h1 x.key hk hB).mono ?_
  rintro e w' ⟨L', q1, q2, _, q3⟩
  rcases q3 with ⟨y, r1, r2, rfl⟩ | ⟨r1, _⟩
  · obtain rfl := hu hxm (h2.mem_iff.1 (r2.mem_iff.2 (List.mem_cons_self ..))) r1.symm
    exact ⟨rfl, ⟨L', q1, ((r2.symm.trans h2).trans hp).cons_inv⟩, q2⟩
  · exact absurd rfl (r1 x (h2.mem_iff.2 hxm))
end
end Go.Proofs.YtghbliabmecbcaaDoor

/-
  Texts that are cut at a byte, again and again, and joined by it: plain lists of bytes, no program. Conditions are each theorem's own.
-/
namespace Go.Proofs.YtghbliabmecbcaaDoor

/-- The bytes ahead of the first c, those behind it, and is there one. -/
def cutc (c : UInt8) : List UInt8 → List UInt8 × List UInt8 × Bool
  | [] => ([], [], false)
  | x :: l => if x = c then ([], l, true) else (x :: (cutc c l).1, (cutc c l).2.1, (cutc c l).2.2)
theorem cutc_hit (c : UInt8) : ∀ (p r : List UInt8), c ∉ p → cutc c (p ++ c :: r) = (p, r, true)
  | [], r, _ => by simp [cutc]
  | x :: p, r, h => by
    simp only [List.mem_cons, not_or] at h
    have := cutc_hit c p r h.2
    simp [cutc, this, Ne.symm h.1]
theorem cutc_miss (c : UInt8) : ∀ (p : List UInt8), c ∉ p → cutc c p = (p, [], false)
  | [], _ => rfl
  | x :: p, h => by
    simp only [List.mem_cons, not_or] at h
    have := cutc_miss c p h.2
    simp [cutc, this, Ne.symm h.1]
theorem cutc_true (c : UInt8) : ∀ (l : List UInt8), (cutc c l).2.2 = true → l = (cutc c l).1 ++ c :: (cutc c l).2.1
  | [], h => by simp [cutc] at h
  | x :: l, h => by
    by_cases hx : x = c
    · subst hx; simp [cutc]
    · simp only [cutc, if_neg hx] at h ⊢
      have := cutc_true c l h
      simp only [List.cons_append, List.cons.injEq, true_and]
      exact this
theorem cutc_false (c : UInt8) : ∀ (l : List UInt8), (cutc c l).2.2 = false → l = (cutc c l).1 ∧ (cutc c l).2.1 = []
  | [], _ => ⟨rfl, rfl⟩
  | x :: l, h => by
    by_cases hx : x = c
    · subst hx; simp [cutc] at h
    · simp only [cutc, if_neg hx] at h ⊢
      have := cutc_false c l h
      exact ⟨by rw [← this.1], this.2⟩

theorem cutc_len (c : UInt8) : ∀ (l : List UInt8), (cutc c l).1.length ≤ l.length ∧ (cutc c l).2.1.length ≤ l.length
  | [] => ⟨Nat.le_refl _, Nat.le_refl _⟩
  | x :: l => by
    have ih := cutc_len c l
    unfold cutc
    split
    · exact ⟨by simp, by simp⟩
    · exact ⟨by simp; exact ih.1, by simp; omega⟩

/-- What is left behind k cuts; is there more; the part of cut k. -/
def rst (c : UInt8) (s : List UInt8) : Nat → List UInt8
  | 0 => s
  | k + 1 => (cutc c (rst c s k)).2.1
def mor (c : UInt8) (s : List UInt8) : Nat → Bool
  | 0 => true
  | k + 1 => (cutc c (rst c s k)).2.2
def prt (c : UInt8) (s : List UInt8) (k : Nat) : List UInt8 := (cutc c (rst c s k)).1
theorem rst_len (c : UInt8) (s : List UInt8) : ∀ k, (rst c s k).length ≤ s.length
  | 0 => Nat.le_refl _
  | k + 1 => Nat.le_trans (cutc_len c (rst c s k)).2 (rst_len c s k)
theorem prt_len (c : UInt8) (s : List UInt8) (k : Nat) : (prt c s k).length ≤ s.length := Nat.le_trans (cutc_len c (rst c s k)).1 (rst_len c s k)
theorem rst_shift (c : UInt8) (s : List UInt8) : ∀ k, rst c s (k + 1) = rst c (rst c s 1) k
  | 0 => rfl
  | k + 1 => by
    show (cutc c (rst c s (k + 1))).2.1 = _
    rw [rst_shift c s k]; rfl
theorem prt_shift (c : UInt8) (s : List UInt8) (k : Nat) : prt c s (k + 1) = prt c (rst c s 1) k := by
  unfold prt; rw [rst_shift]
theorem mor_shift (c : UInt8) (s : List UInt8) (k : Nat) : mor c s (k + 1 + 1) = mor c (rst c s 1) (k + 1) := by
  show (cutc c (rst c s (k + 1))).2.2 = (cutc c (rst c (rst c s 1) k)).2.2
  rw [rst_shift]
theorem rst_nil (c : UInt8) : ∀ k, rst c [] k = []
  | 0 => rfl
  | k + 1 => by show (cutc c (rst c [] k)).2.1 = []; rw [rst_nil c k]; rfl
theorem prt_nil (c : UInt8) (k : Nat) : prt c [] k = [] := by unfold prt; rw [rst_nil]; rfl
/-- What was joined is cut into its parts. -/
theorem cut_join (c : UInt8) : ∀ (ps : List (List UInt8)) (p : List UInt8), (∀ q ∈ p :: ps, c ∉ q) →
    (∀ k, k < (p :: ps).length → prt c (Lib.join (p :: ps) [c]) k = ((p :: ps)[k]?).getD []) ∧ mor c (Lib.join (p :: ps) [c]) (p :: ps).length = false
  | [], p, h => by
    have hc := cutc_miss c p (h p (by simp))
    rw [Lib.join_one]
    refine ⟨fun k hk => ?_, ?_⟩
    · obtain rfl : k = 0 := by simp at hk; omega
      show (cutc c p).1 = _
      rw [hc]; rfl
    · show (cutc c p).2.2 = false
      rw [hc]
  | q :: ps, p, h => by
    have hj : Lib.join (p :: q :: ps) [c] = p ++ c :: Lib.join (q :: ps) [c] := by
      rw [Lib.join_cons, Lib.join_cons]; simp [Lib.joinTail]
    have hc := cutc_hit c p (Lib.join (q :: ps) [c]) (h p (by simp))
    have ih := cut_join c ps q (fun x hx => h x (List.mem_cons_of_mem _ hx))
    have h1 : rst c (Lib.join (p :: q :: ps) [c]) 1 = Lib.join (q :: ps) [c] := by
      show (cutc c (Lib.join (p :: q :: ps) [c])).2.1 = _
      rw [hj, hc]
    refine ⟨fun k hk => ?_, ?_⟩
    · cases k with
      | zero =>
        show (cutc c (Lib.join (p :: q :: ps) [c])).1 = _
        rw [hj, hc]; rfl
      | succ k =>
        rw [prt_shift, h1]
        have := ih.1 k (by simp at hk ⊢; omega)
        simpa using this
    · show mor c _ (ps.length + 1 + 1) = false
      rw [mor_shift, h1]
      exact ih.2
/-- What was cut, each part of which holds a byte, is its parts joined. -/
theorem join_cut (c : UInt8) : ∀ (ps : List (List UInt8)) (p s : List UInt8), (∀ k, k < (p :: ps).length → prt c s k = ((p :: ps)[k]?).getD []) → (∀ q ∈ p :: ps, q ≠ []) → mor c s (p :: ps).length = false →
    Lib.join (p :: ps) [c] = s
  | [], p, s, h, _, hm => by
    have h0 := h 0 (by simp)
    have hf := cutc_false c s hm
    rw [Lib.join_one]
    have : prt c s 0 = (cutc c s).1 := rfl
    rw [this] at h0
    simp only [List.getElem?_cons_zero, Option.getD_some] at h0
    rw [← h0]; exact hf.1.symm
  | q :: ps, p, s, h, hne, hm => by
    have h0 : (cutc c s).1 = p := by have := h 0 (by simp); simp only [List.getElem?_cons_zero, Option.getD_some] at this; exact this
    have ht : (cutc c s).2.2 = true := by
      cases e : (cutc c s).2.2 with
      | true => rfl
      | false =>
        have hf := cutc_false c s e
        have h1 := h 1 (by simp)
        rw [prt_shift, show rst c s 1 = [] from hf.2, prt_nil] at h1
        simp only [List.getElem?_cons_succ, List.getElem?_cons_zero, Option.getD_some] at h1
        exact absurd h1.symm (hne q (by simp))
    have hs := cutc_true c s ht
    have ih := join_cut c ps q (rst c s 1) (fun k hk => by
      have := h (k + 1) (by simp at hk ⊢; omega)
      rw [prt_shift] at this
      simpa using this) (fun x hx => hne x (List.mem_cons_of_mem _ hx)) (by
      have hm' : mor c s (ps.length + 1 + 1) = false := hm
      rw [mor_shift] at hm'
      exact hm')
    have hj : Lib.join (p :: q :: ps) [c] = p ++ c :: Lib.join (q :: ps) [c] := by
      rw [Lib.join_cons, Lib.join_cons]; simp [Lib.joinTail]
    rw [hj, ih]
    rw [h0] at hs
    exact hs.symm
end Go.Proofs.YtghbliabmecbcaaDoor

/-
  Contracts of Go's library at this program, out of the library's own theorems (laid by program). Conditions are each theorem's own.
-/
namespace Go.Proofs
open Go.Shelf
def Tryd.laysM176_ren : Go.Shelf.Ren := ⟨fun | 176 => 44 | 249 => 57 | 288 => 64 | 283 => 67 | 284 => 68 | 285 => 69 | 286 => 70 | 129 => 73 | 317 => 72 | 318 => 74 | 319 => 75 | 320 => 76 | 337 => 77 | 338 => 78 | n => n, fun | 37 => 91 | 2 => 2 | 3 => 3 | 53 => 84 | 4 => 4 | 9 => 9 | 171 => 115 | 0 => 0 | 173 => 117 | 212 => 121 | 51 => 122 | 5 => 5 | 20 => 20 | 213 => 123 | 46 => 104 | 232 => 126 | 233 => 127 | n => n, fun | 17 => 0 | 18 => 1 | 19 => 2 | n => n⟩
theorem Tryd.laysM176 : Go.Proofs.LaysM.n176 Tryd.prog Tryd.laysM176_ren := {
  mixed := by kernel_rfl
  f129 := Tryd.func73.trans (congrArg some (by kernel_rfl))
  f176 := Tryd.func44.trans (congrArg some (by kernel_rfl))
  f249 := Tryd.func57.trans (congrArg some (by kernel_rfl))
  f283 := Tryd.func67.trans (congrArg some (by kernel_rfl))
  f284 := Tryd.func68.trans (congrArg some (by kernel_rfl))
  f285 := Tryd.func69.trans (congrArg some (by kernel_rfl))
  f286 := Tryd.func70.trans (congrArg some (by kernel_rfl))
  f288 := Tryd.func64.trans (congrArg some (by kernel_rfl))
  f317 := Tryd.func72.trans (congrArg some (by kernel_rfl))
  f318 := Tryd.func74.trans (congrArg some (by kernel_rfl))
  f319 := Tryd.func75.trans (congrArg some (by kernel_rfl))
  f320 := Tryd.func76.trans (congrArg some (by kernel_rfl))
  f337 := Tryd.func77.trans (congrArg some (by kernel_rfl))
  f338 := Tryd.func78.trans (congrArg some (by kernel_rfl))
  t0 := Tryd.underlying0
  a0 := Tryd.isAgg0
  z0 := Tryd.sizeOf0
  v0 := Tryd.zeroValue0
  t2 := Tryd.underlying2
  a2 := Tryd.isAgg2
  z2 := Tryd.sizeOf2
  v2 := Tryd.zeroValue2
  t3 := Tryd.underlying3
  a3 := Tryd.isAgg3
  z3 := Tryd.sizeOf3
  v3 := Tryd.zeroValue3
  t4 := Tryd.underlying4
  a4 := Tryd.isAgg4
  z4 := Tryd.sizeOf4
  v4 := Tryd.zeroValue4
  t5 := Tryd.underlying5
  a5 := Tryd.isAgg5
  z5 := Tryd.sizeOf5
  v5 := Tryd.zeroValue5
  t9 := Tryd.underlying9
  a9 := Tryd.isAgg9
  z9 := Tryd.sizeOf9
  v9 := Tryd.zeroValue9
  t20 := Tryd.underlying20
  a20 := Tryd.isAgg20
  z20 := Tryd.sizeOf20
  v20 := Tryd.zeroValue20
  t37 := Tryd.underlying91
  a37 := Tryd.isAgg91
  z37 := Tryd.sizeOf91
  v37 := Tryd.zeroValue91
  t46 := Tryd.underlying104
  a46 := Tryd.isAgg104
  z46 := Tryd.sizeOf104
  v46 := Tryd.zeroValue104
  t51 := Tryd.underlying122
  a51 := Tryd.isAgg122
  z51 := Tryd.sizeOf122
  v51 := Tryd.zeroValue122
  t53 := Tryd.underlying84
  a53 := Tryd.isAgg84
  z53 := Tryd.sizeOf84
  v53 := Tryd.zeroValue84
  t171 := Tryd.underlying115
  a171 := Tryd.isAgg115
  z171 := Tryd.sizeOf115
  v171 := Tryd.zeroValue115
  t173 := Tryd.underlying117
  a173 := Tryd.isAgg117
  z173 := Tryd.sizeOf117
  v173 := Tryd.zeroValue117
  t212 := Tryd.underlying121
  a212 := Tryd.isAgg121
  z212 := Tryd.sizeOf121
  v212 := Tryd.zeroValue121
  t213 := Tryd.underlying123
  a213 := Tryd.isAgg123
  z213 := Tryd.sizeOf123
  t232 := Tryd.underlying126
  a232 := Tryd.isAgg126
  z232 := Tryd.sizeOf126
  v232 := Tryd.zeroValue126
  t233 := Tryd.underlying127
  a233 := Tryd.isAgg127
  z233 := Tryd.sizeOf127
  v233 := Tryd.zeroValue127
  g17 := by kernel_rfl
  g18 := by kernel_rfl
  g19 := by kernel_rfl
  i0 := by kernel_rfl
  i2 := by kernel_rfl
  i3 := by kernel_rfl
  i4 := by kernel_rfl
  i5 := by kernel_rfl
  i9 := by kernel_rfl
  i20 := by kernel_rfl
  i37 := by kernel_rfl
  i46 := by kernel_rfl
  i51 := by kernel_rfl
  i53 := by kernel_rfl
  i171 := by kernel_rfl
  i173 := by kernel_rfl
  i212 := by kernel_rfl
  i232 := by kernel_rfl
  i233 := by kernel_rfl
  m17 := by kernel_rfl
  m18 := by kernel_rfl
  m19 := by kernel_rfl }
open Go.RowKit Go.Sort Go.Lib in
theorem Tryd.strconv_AppendInt_10 (B n : Nat) (i : Int) (h0 : -9223372036854775808 ≤ i) (h1 : i ≤ 9223372036854775807) (sv : Value) (xs : List Value) (w : World) (hown : w.ownsRow B 5 1 sv n xs) (hBw : B ≤ w.heap.size) (hlim : n + 21 ≤ 140737488355328) (htab : Lib.TabBelow Tryd.prog B w "internal/strconv.uint64pow10" .u64 Lib.pow10Tab) :
    Calls Tryd.prog 44 #[sv, .int .i64 i, .int .i64 10] w fun e w' => ∃ v', e = .returned v' ∧ w'.ownsRow B 5 1 v' (n + (Lib.itoa i).length) (xs ++ Lib.byteCells (Lib.itoa i)) ∧ Below B w w' ∧ Lib.OthersKept 5 none w w' := Any.strconv_AppendInt_10 Tryd.laysM176 B n i h0 h1 sv xs w hown hBw hlim htab
end Go.Proofs

/-
  Contracts of Go's library at this program: strings.Cut at one byte, strconv.Itoa below 256, strings.Join over strings that the call made. Conditions are each theorem's own.
-/
namespace Go.Proofs.YtghbliabmecbcaaDoor
open Go.RowKit

theorem strB_data (s : ByteArray) : s = strB s.data.toList := rfl
theorem cutc_none {l : List UInt8} {c : UInt8} (h : Lib.indexByte l c = -1) : cutc c l = (l, [], false) :=
  cutc_miss c l fun hm => by
    obtain ⟨k, hk⟩ := List.getElem?_of_mem hm
    exact Lib.indexByte_none h k hk
theorem cutc_some {l : List UInt8} {c : UInt8} {i : Nat} (h : Lib.indexByte l c = (i : Int)) : i < l.length ∧ cutc c l = (l.take i, l.drop (i + 1), true) := by
  obtain ⟨h1, h2⟩ := Lib.indexByte_some h
  obtain ⟨hi, he⟩ := List.getElem?_eq_some_iff.1 h1
  refine ⟨hi, ?_⟩
  have e : l = l.take i ++ c :: l.drop (i + 1) := by
    rw [← he, List.getElem_cons_drop, List.take_append_drop]
  have hn : c ∉ l.take i := fun hm => by
    obtain ⟨k, hk⟩ := List.getElem?_of_mem hm
    rw [List.getElem?_take] at hk
    split at hk
    · exact h2 k (by assumption) hk
    · cases hk
  have := cutc_hit c (l.take i) (l.drop (i + 1)) hn
  rwa [← e] at this
theorem ext_take (s : ByteArray) (i : Nat) : s.extract 0 i = strB (s.data.toList.take i) := by
  rw [strB_data (s.extract 0 i), Lib.extract_data]; simp
theorem ext_drop (s : ByteArray) (i : Nat) : s.extract i s.size = strB (s.data.toList.drop i) := by
  rw [strB_data (s.extract i s.size), Lib.extract_data, Lib.size_eq]
  congr 1
  exact List.take_of_length_le (by simp)

theorem below_grow (B : Nat) (w : World) (hB : B ≤ w.heap.size) (k : Nat) (os : Array Obj) : Below B w (Sort.grow (w.drewN k) os) :=
  ⟨rfl, rfl, rfl, by show w.heap.size ≤ (w.heap ++ os).size; rw [Array.size_append]; omega, fun j hj => Array.getElem?_append_left (show j < w.heap.size by omega)⟩

/-- The tables of the library that are read: they hold what their initialisers lay. -/
def Tabs (w : World) : Prop := Lib.TabIs Tryd.prog w "internal/strconv.uint64pow10" .u64 Lib.pow10Tab ∧ Lib.TabIs Tryd.prog w "math/bits.deBruijn64tab" .u8 (Lib.deBruijn64tab.map fun n : Nat => (n : Int))
theorem glob_pow : Tryd.prog.globalNamed "internal/strconv.uint64pow10" = some 0 := by kernel_rfl
theorem glob_bruijn : Tryd.prog.globalNamed "math/bits.deBruijn64tab" = some 2 := by kernel_rfl
theorem var_below {P : Program} {B g : Nat} {W W' : World} {n : String} {cs : Array Value} (h : Below B W W') (hg : P.globalNamed n = some g) (hgB : g < B) (hv : W.var? P n = some cs) : W'.var? P n = some cs := by
  unfold World.var? at hv ⊢
  simp only [hg, Option.bind_some] at hv ⊢
  rw [h.block g hgB]
  exact hv
theorem var_lt {P : Program} {g : Nat} {W : World} {n : String} {cs : Array Value} (hg : P.globalNamed n = some g) (hv : W.var? P n = some cs) : g < W.heap.size := by
  unfold World.var? at hv
  simp only [hg, Option.bind_some] at hv
  rcases Nat.lt_or_ge g W.heap.size with h | h
  · exact h
  · rw [Array.getElem?_eq_none h] at hv; cases hv
theorem Tabs.below {B : Nat} {w w' : World} (h : Tabs w) (hb : Below B w w') (hB : w.heap.size ≤ B) : Tabs w' :=
  ⟨var_below hb glob_pow (Nat.lt_of_lt_of_le (var_lt glob_pow h.1) hB) h.1, var_below hb glob_bruijn (Nat.lt_of_lt_of_le (var_lt glob_bruijn h.2) hB) h.2⟩
theorem Tabs.step {w w' : World} (h : Tabs w) (hb : Below w.heap.size w w') : Tabs w' := h.below hb (Nat.le_refl _)
theorem Tabs.alloc {w : World} (h : Tabs w) (o : Obj) : Tabs (w.alloc o) := h.below ((Below.refl w.heap.size w).alloc (Nat.le_refl _) o) (Nat.le_refl _)

theorem dec_digits {n : Nat} (h : n < 256) : Lib.decDigits n = dec n := by
  unfold dec
  split
  · rw [Lib.decDigits, dif_pos (by assumption)]
  · split
    · rw [Lib.decDigits, dif_neg (by assumption), Lib.decDigits, dif_pos (by omega)]; rfl
    · rw [Lib.decDigits, dif_neg (by assumption), Lib.decDigits, dif_neg (by omega), Lib.decDigits, dif_pos (by omega), Nat.div_div_eq_div_mul]; rfl
/-- Strings as values. -/
def sv (l : List UInt8) : Value := .string (strB l)
theorem sv_one (ls : List (List UInt8)) : ∀ u ∈ ls.map sv, u.oneCell' = true := by
  intro u hu; simp only [List.mem_map] at hu; obtain ⟨x, _, rfl⟩ := hu; rfl
theorem info_str : (Tryd.prog.info? 9).map (fun i => (i.zero, i.size, i.bytes)) = some (some (.string ByteArray.empty), 1, 16) := by kernel_rfl
end Go.Proofs.YtghbliabmecbcaaDoor

/-
  The text of a binding and a remote endpoint by layer 24's code. Conditions are each theorem's own.
-/
namespace Go.Proofs.YtghbliabmecbcaaDoor
open Go.RowKit Go.Shelf

def wfB (n : Int) : Prop := -9223372036854775808 ≤ n ∧ n ≤ 9223372036854775807
theorem bc_row (l : List UInt8) : Lib.byteCells l = row l := rfl
theorem txtN_step {zs : List Int} {k : Nat} {x : Int} (h : zs[k]? = some x) : txtN (zs.take (k + 1)) = txtN (zs.take k) ++ Lib.itoa x ++ [47] := by
  obtain ⟨hk, e⟩ := List.getElem?_eq_some_iff.1 h
  rw [List.take_succ_eq_append_getElem hk, txtN_snoc, e, List.append_assoc]
theorem three_index (a b c : Int) {k : Nat} {y : Int} (hx : [a, b, c][k]? = some y) : ∀ w, (Instr.index 92 (.agg #[.int .i64 a, .int .i64 b, .int .i64 c]) (.int .i64 (k : Int))).run Tryd.prog w = .ok (.int .i64 y) w := by
  have hk : k < 3 := by have := (List.getElem?_eq_some_iff.1 hx).1; simpa using this
  have h : k = 0 ∨ k = 1 ∨ k = 2 := by omega
  intro w
  rcases h with rfl | rfl | rfl <;> (simp at hx; subst hx; kernel_rfl)
set_option maxRecDepth 100000 in
set_option maxHeartbeats 1000000 in
theorem setext (x : Sd) (w : World) (hx : x.fits) (hT : Tabs w) :
    Calls Tryd.prog 26 #[.int .i64 x.b, .agg #[.int .i64 x.a, .int .i64 x.p]] w fun e w' => e = .returned (.string (strB (txtN x.inn))) ∧ Below w.heap.size w w' := by
  obtain ⟨V, hV⟩ : ∃ V, V = w.alloc (.cells #[.int .i64 x.a, .int .i64 x.p] 32) := ⟨_, rfl⟩
  have bV : Below w.heap.size w V := by rw [hV]; exact (Below.refl _ w).alloc (Nat.le_refl _) _
  have hbV : V.heap[w.heap.size]? = some (.cells #[.int .i64 x.a, .int .i64 x.p] 32 (0, 0)) := by rw [hV]; exact World.alloc_heap_new w _
  have ka : V.cell? ⟨w.heap.size, 0, none⟩ = some (.int .i64 x.a) := cells_at (i := 0) hbV rfl
  have kp : V.cell? ⟨w.heap.size, 1, none⟩ = some (.int .i64 x.p) := cells_at (i := 1) hbV rfl
  have HV := Lib.hid hV.symm
  have HF := Lib.hid hx.inn
  obtain ⟨zs, hzs⟩ : ∃ zs, zs = x.inn := ⟨_, rfl⟩
  have HZ := Lib.hid hzs
  rw [← hzs]
  clear hV hbV hx hzs
  go_enter Tryd.func26, Tryd.ntmps26
  go_upto_region 1 with fail
  rw [HV.out]
  go_wp2
  go_loopw [5, 14] (fun v i wr => ∃ (vv : Value) (k : Nat), vv = v ∧ k ≤ 3 ∧ i = .int .i64 (k : Int) ∧ wr.ownsRow w.heap.size 5 1 v (txtN (zs.take k)).length (row (txtN (zs.take k))) ∧ Below w.heap.size w wr)
    (fun _ i _ => 3 - (intOf i).toNat)
  case atStart => exact ⟨_, 0, rfl, Nat.zero_le _, rfl, World.ownsRow_nil _ _ _ _, bV⟩
  case round =>
    obtain ⟨v3, k, rfl, hk, rfl, hown, hbel⟩ := hrel
    clear ka kp
    by_cases hlt : k < 3
    · obtain ⟨y, hx⟩ : ∃ y, zs[k]? = some y := ⟨_, List.getElem?_eq_getElem (by rw [HZ.out]; exact hlt)⟩
      have hxw : -9223372036854775808 ≤ y ∧ y ≤ 9223372036854775807 := HF.out y (by rw [← HZ.out]; exact List.mem_of_getElem? hx)
      have hi := three_index x.b x.a x.p (show [x.b, x.a, x.p][k]? = some y by rw [HZ.out] at hx; exact hx)
      have hstep := Lib.hid (txtN_step hx)
      have hlen : (txtN (zs.take k)).length ≤ 168 := by
        have h1 := txtN_len (l := zs.take k) (fun m hm => HF.out m (by rw [← HZ.out]; exact List.mem_of_mem_take hm))
        have h2 : (zs.take k).length ≤ 3 := by rw [List.length_take]; omega
        omega
      have hil := itoa_len hxw.1 hxw.2
      obtain ⟨T, hT0⟩ : ∃ T, T = txtN (zs.take k) := ⟨_, rfl⟩
      rw [← hT0] at hown hlen
      have HT0 := Lib.hid hT0
      have HTAB : Hid (Lib.TabBelow Tryd.prog w.heap.size wr "internal/strconv.uint64pow10" .u64 Lib.pow10Tab) := Lib.hid (fun V hV => (hT.below (hbel.trans hV) (Nat.le_refl _)).1)
      obtain ⟨N, hN⟩ : ∃ N, N = T.length := ⟨_, rfl⟩
      rw [← hN] at hown hlen
      have HNT := Lib.hid hN
      obtain ⟨D, hD⟩ : ∃ D, D = Lib.itoa y := ⟨_, rfl⟩
      have HD := Lib.hid hD
      rw [← hD] at hil
      clear hx hT0 hN hD
      go_wp2_with (first
        | (go_at_call 44; refine (Tryd.strconv_AppendInt_10 w.heap.size N y hxw.1 hxw.2 v3 (row T) wr hown hbel.size (by omega) HTAB.out).mono ?_; rintro e w2 ⟨v2, rfl, hown2, b2, -⟩; rw [bc_row, ← row_append, ← HD.out] at hown2)
        | (at_builtin; go_loud (refine append_rd rfl _ _ rfl w.heap.size _ _ _ rfl (hown2.alloc _) (w2.heap.size + 1) (some ⟨w2.heap.size, 0, none⟩) 1 [47] rfl (by simp) (Rd.one 5 rfl) (by simp; omega) (by have := b2.size; have := hbel.size; simp; omega) ?_); intro v4 w4 hown4 hgrow4))
      go_roundw
      case rel =>
        refine ⟨v4, k + 1, rfl, by omega, by simp, ?_, ?_⟩
        · rw [hstep.out, ← HT0.out, ← HD.out]
          simpa [row_append, List.append_assoc, HNT.out, Nat.add_assoc] using hown4
        · have b3 := hbel.trans b2
          exact (b3.alloc b3.size _).grown hgrow4 (by have := b3.size; simp; omega) (fun g hg => own_block_ge hown2 g hg)
      case measure => simp [intOf]; omega
    · obtain rfl : k = 3 := by omega
      have e : zs.take 3 = zs := List.take_of_length_le (by rw [HZ.out]; exact Nat.le_refl _)
      rw [e] at hown
      obtain ⟨A3, c3, rfl⟩ : ∃ A3 c3, v3 = .slice A3 (txtN zs).length c3 := by
        rcases hown.2 with ⟨rfl, h0⟩ | ⟨g, cap, cur, rfl, _⟩
        · exact ⟨none, 0, by rw [h0]⟩
        · exact ⟨_, _, rfl⟩
      have hrd := Rd.of_own rfl hown
      have hcv := conv_any A3 (txtN zs) c3 wr.heap.size wr hrd
      clear e hown hrd
      go_wp2
      go_ret
      exact ⟨rfl, hbel⟩
end Go.Proofs.YtghbliabmecbcaaDoor
