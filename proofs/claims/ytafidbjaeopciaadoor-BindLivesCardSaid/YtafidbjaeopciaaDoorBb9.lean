/-
  Contracts and lemmas on which the proofs of this seat stand (several texts in one). Conditions are each theorem's own.
-/
import Derived.Test.YtafidbjaeopciaaDoorBb8

/-
  inner and outer of layer 22's code. Conditions are each theorem's own.
-/
namespace Go.Proofs.YtafidbjaeopciaaDoor
open Go.RowKit Go.Shelf
/-- A binding's numbers are of int. -/
structure Bd.fits (x : Bd) : Prop where
  inn : ∀ n ∈ x.inn, wfB n
  out : ∀ n ∈ x.out, wfB n
def inV (x : Bd) : Value := .agg #[.int .i64 x.s, .int .i64 x.p, .int .i64 x.a, .int .i64 x.o]
def ouV (x : Bd) : Value := .agg #[.int .i64 x.q, .int .i64 x.b, .int .i64 x.r]
def clBd (x : Bd) : List Value := [.int .i64 x.s, .int .i64 x.p, .int .i64 x.a, .int .i64 x.o, .int .i64 x.q, .int .i64 x.b, .int .i64 x.r, .bool x.st]
def bdV (x : Bd) : Value := .agg (clBd x).toArray
theorem rdI_new (w : World) (g : Nat) (zs : List Int) (T : TypeId) (hg : g = w.heap.size) : RdI (w.alloc (.cells (zs.map (Value.int .i64)).toArray T)) (g + 1) (some ⟨g, 0, none⟩) zs := by
  subst hg
  intro _
  refine ⟨w.heap.size, 0, rfl, by omega, fun j hj => ?_⟩
  rw [cell_of_row _ _ _ _ _ _ (World.alloc_heap_new w _)]
  simp [List.getD_eq_getElem?_getD, hj]
set_option maxRecDepth 100000 in
theorem binner (x : Bd) (w : World) (hx : x.fits) (hT : Tabs w) : Calls Tryd.prog 26 #[inV x] w fun e w' => e = .returned (.string (strB (txtN x.inn))) ∧ Below w.heap.size w w' := by
  unfold inV
  have b1 := (Below.refl w.heap.size w).alloc (Nat.le_refl _) (.cells #[.int .i64 x.s, .int .i64 x.p, .int .i64 x.a, .int .i64 x.o] 32)
  have b2 := b1.alloc b1.size (.cells #[.int .i64 x.s, .int .i64 x.p, .int .i64 x.a, .int .i64 x.o] 3)
  have HB2 := Lib.hid b2
  have HTB := Lib.hid (hT.step b2)
  have HR := Lib.hid (rdI_new (w.alloc (.cells #[.int .i64 x.s, .int .i64 x.p, .int .i64 x.a, .int .i64 x.o] 32)) (w.heap.size + 1) x.inn 3 (by simp))
  have HF := Lib.hid hx.inn
  clear hT hx b1 b2
  go_enter Tryd.func26, Tryd.ntmps26
  go_wp2_with (go_at_call 39; refine (btext _ 4 4 x.inn (w.heap.size + 1 + 1) _ HR.out (by simp) rfl (by decide) HF.out HTB.out).mono ?_; rintro e w3 ⟨rfl, x3⟩)
  go_ret
  exact ⟨rfl, HB2.out.trans (x3.mono HB2.out.size)⟩
set_option maxRecDepth 100000 in
theorem bouter (x : Bd) (w : World) (hx : x.fits) (hT : Tabs w) : Calls Tryd.prog 27 #[ouV x] w fun e w' => e = .returned (.string (strB (txtN x.out))) ∧ Below w.heap.size w w' := by
  unfold ouV
  have b1 := (Below.refl w.heap.size w).alloc (Nat.le_refl _) (.cells #[.int .i64 x.q, .int .i64 x.b, .int .i64 x.r] 34)
  have b2 := b1.alloc b1.size (.cells #[.int .i64 x.q, .int .i64 x.b, .int .i64 x.r] 3)
  have HB2 := Lib.hid b2
  have HTB := Lib.hid (hT.step b2)
  have HR := Lib.hid (rdI_new (w.alloc (.cells #[.int .i64 x.q, .int .i64 x.b, .int .i64 x.r] 34)) (w.heap.size + 1) x.out 3 (by simp))
  have HF := Lib.hid hx.out
  clear hT hx b1 b2
  go_enter Tryd.func27, Tryd.ntmps27
  go_wp2_with (go_at_call 39; refine (btext _ 3 3 x.out (w.heap.size + 1 + 1) _ HR.out (by simp) rfl (by decide) HF.out HTB.out).mono ?_; rintro e w3 ⟨rfl, x3⟩)
  go_ret
  exact ⟨rfl, HB2.out.trans (x3.mono HB2.out.size)⟩
end Go.Proofs.YtafidbjaeopciaaDoor

/-
  Put and Delete of layer 18's code, and that they write two blocks alone: the table, its array. Conditions are each theorem's own.
-/
namespace Go.Proofs.YtafidbjaeopciaaDoor
open Go.RowKit Go.Shelf
/-- All blocks but t and b lie as they lay. -/
def KT (t b : Nat) (X Y : World) : Prop := Kept (fun k => k = t ∨ k = b) X Y
section
variable {X Y Z : World} {t b : Nat}
theorem KT.trans (h : KT t b X Y) (k : KT t b Y Z) : KT t b X Z := Kept.trans h k (fun _ _ e => e)
theorem KT.of_below (h : Below X.heap.size X Y) : KT t b X Y := Kept.of_below h
theorem KT.of_arr (h : Kept (fun k => k = b) X Y) : KT t b X Y := Kept.mono h (fun _ _ e => .inr e)
theorem KT.of_tab (h : Kept (fun k => k = t) X Y) : KT t b X Y := Kept.mono h (fun _ _ e => .inl e)
theorem KT.set_tab (X : World) (i : Nat) (v : Value) : KT t b X (X.setCell ⟨t, i, none⟩ v) := KT.of_tab (Kept.setCell X t i v)
theorem KT.arr2 {b2 : Nat} (h : KT t b X Y) (k : Kept (fun k => k = b2) Y Z) (e : b2 = b ∨ X.heap.size ≤ b2) : KT t b X Z :=
  Kept.trans h k (fun i hi e2 => by
    have e2 : i = b2 := e2
    rcases e with e | e
    · exact .inr (e2.trans e)
    · omega)
end
section
variable {w w' : World} {B0 t b : Nat} {most : Int} {L : List (Option Ent)}
/-- What Delete leaves. -/
def DelF (w : World) (B0 t b : Nat) (most : Int) (L : List (Option Ent)) (key : List UInt8) (e : Ending) (w' : World) : Prop :=
  ∃ L', HTab w' B0 t b most L' ∧ (Below B0 w w' ∧ KT t b w w') ∧ L'.length = L.length ∧ ((∃ x, x.key = key ∧ (ents L).Perm (x :: ents L') ∧ e = .returned (.bool true)) ∨ ((∀ x ∈ ents L, x.key ≠ key) ∧ L' = L ∧ e = .returned (.bool false)))
set_option maxRecDepth 100000 in
theorem hsdelF (h : HTab w B0 t b most L) (key : List UInt8) (hk : key.length ≤ 1000000) (hB : B0 ≤ w.heap.size) : Calls Tryd.prog 29 #[.pointer (some ⟨t, 0, none⟩), .string (strB key)] w fun e w' => DelF w B0 t b most L key e w' := by
  have k0 := h.hs.c0
  have H := Lib.hid h
  by_cases hp : ∃ i x, plH L i = some x ∧ x.key = key
  · obtain ⟨i, x, hx, rfl⟩ := hp
    have hi := plH_lt hx
    have HX := Lib.hid hx
    have hpm := ents_take hx
    have hpl := hpm.length_eq
    rw [List.length_cons] at hpl
    have HP := Lib.hid hpm
    have HPL := Lib.hid hpl
    have HFD := Lib.hid (hsfind_yes h hx)
    clear h hx hpm hpl
    go_enter Tryd.func29, Tryd.ntmps29
    go_wp2_with (first
      | (go_at_call 33; refine (hsmade t b _ _ _ k0).mono ?_; rintro e w1 ⟨rfl, rfl⟩)
      | (go_at_call 34; refine (hsmark x.key _ hk).mono ?_; rintro e w1 ⟨rfl, rfl⟩)
      | (go_at_call 40; refine (hsfree (H.out.hs.below x1) H.out.prb i x HX.out (by have := H.out.len; omega) H.out.free).mono ?_; rintro e w2 ⟨rfl, L', f1, f2, f3, f4, f5⟩; have F1 := Lib.hid f1; have F2 := Lib.hid (show _ ∧ _ ∧ _ ∧ _ from ⟨f2, f3, f4, f5⟩); have kc1 := f1.c1; have kf1 := heap_frozen f1.tab 1; clear f1 f2 f3 f4 f5)
      | (go_at_call 35; refine HFD.out.mono ?_; rintro e w1 ⟨rfl, x1⟩))
    obtain ⟨f2, f3, f4, f5⟩ := F2.out
    have hlen2 := f4.length_eq
    have hc : wrap64 (((ents L).length : Int) - 1) = ((ents L').length : Int) := by
      rw [IntWalk.wrap64_in _ (by have := H.out.n; have := H.out.mst; omega), HPL.out, hlen2]; omega
    rw [hc]
    have hz := H.out.z
    have hb1 : Below B0 w w1 := x1.mono hB
    have hb2 : Below B0 w1 w2 := f5.below (Nat.le_trans hB x1.size) (fun k e => by rw [e]; exact hz.2)
    have hb3 := hb1.trans hb2
    refine bodyPost_ret (results_tmp rfl _ _ _) rfl ⟨L', ⟨F1.out.cnt _, f3, ?_, by rw [f2]; exact H.out.len, H.out.mst, ?_, hz⟩, ⟨hb3.setCell (p := ⟨t, 1, none⟩) hz.1 _, ((KT.of_below x1).trans (KT.of_arr f5)).trans (KT.set_tab _ 1 _)⟩, f2, .inl ⟨x, rfl, HP.out.trans (f4.symm.cons x), rfl⟩⟩
    · have := H.out.half; rw [f2, hlen2]; have := HPL.out; omega
    · have := H.out.n; rw [hlen2]; have := HPL.out; omega
  · have hn : ∀ i x, plH L i = some x → x.key ≠ key := fun i x hx e => hp ⟨i, x, hx, e⟩
    have HN := Lib.hid hn
    have HFD := Lib.hid (hsfind_no h hn)
    clear h hn hp
    go_enter Tryd.func29, Tryd.ntmps29
    go_wp2_with (first
      | (go_at_call 33; refine (hsmade t b _ _ _ k0).mono ?_; rintro e w1 ⟨rfl, rfl⟩)
      | (go_at_call 34; refine (hsmark key _ hk).mono ?_; rintro e w1 ⟨rfl, rfl⟩)
      | (go_at_call 35; refine HFD.out.mono ?_; rintro e w1 ⟨rfl, x1⟩))
    exact bodyPost_ret (results_tmp rfl _ _ _) rfl ⟨L, H.out.below x1, ⟨x1.mono hB, KT.of_below x1⟩, rfl, .inr ⟨fun x hx => by obtain ⟨i, h1⟩ := mem_ents.1 hx; exact HN.out i x h1, rfl, rfl⟩⟩
/-- What Put leaves. -/
def PutF (w : World) (B0 t b : Nat) (most : Int) (L : List (Option Ent)) (key : List UInt8) (n : Int) (e : Ending) (w' : World) : Prop :=
  ∃ b' L', HTab w' B0 t b' most L' ∧ (Below B0 w w' ∧ KT t b w w' ∧ (b' = b ∨ w.heap.size ≤ b')) ∧
    ((∃ x R, x.key = key ∧ (ents L).Perm (x :: R) ∧ (ents L').Perm (⟨key, n⟩ :: R) ∧ e = .returned (.int .i64 0)) ∨
     ((∀ x ∈ ents L, x.key ≠ key) ∧ ((((ents L).length : Int) ≥ most ∧ ents L' = ents L ∧ e = .returned (.int .i64 7)) ∨ (((ents L).length : Int) < most ∧ (ents L').Perm (⟨key, n⟩ :: ents L) ∧ e = .returned (.int .i64 0)))))
theorem putF_end {w w5 w6 w7 : World} {B0 t b b2 C r : Nat} {most : Int} {L L2 : List (Option Ent)} {key : List UInt8} {n : Int} (_ : Hs w5 t b2 (C : Int) most L2) (g : Prb (hmN L2.length) L2 ∧ (ents L2).Perm (ents L) ∧ 2 * (C + 1) ≤ L2.length ∧ L2.length ≤ 300000 ∧ B0 ≤ b2) (hC : C = (ents L).length) (hz : B0 ≤ t ∧ B0 ≤ b2 ∨ B0 ≤ t) (hlt : (C : Int) < most) (hms : 0 ≤ most ∧ most ≤ 65536)
    (hn : ∀ x ∈ ents L, x.key ≠ key) (x6 : Below w5.heap.size w5 w6) (h5 : B0 ≤ w5.heap.size) (b5 : Below B0 w w5) (k5 : KT t b w w5) (hb2 : b2 = b ∨ w.heap.size ≤ b2) (r4 : Hs w7 t b2 (C : Int) most (L2.set (rnd L2.length (hmN L2.length key) r) (some ⟨key, n⟩)))
    (R : r < L2.length ∧ (∀ d, d < r → plH L2 (rnd L2.length (hmN L2.length key) d) ≠ none) ∧ plH L2 (rnd L2.length (hmN L2.length key) r) = none ∧ Kept (fun k => k = b2) w6 w7) :
    PutF w B0 t b most L key n (.returned (.int .i64 0)) (w7.setCell ⟨t, 1, none⟩ (.int .i64 ((C : Int) + 1))) := by
  obtain ⟨g1, g2, g3, g4, g5⟩ := g
  obtain ⟨r1, r2, r3, r5⟩ := R
  have hzt : B0 ≤ t := by rcases hz with h | h; exact h.1; exact h
  have hp := ents_put (e := (⟨key, n⟩ : Ent)) (rnd_lt (g1.home key) r1) r3
  have hl := hp.length_eq
  rw [List.length_cons, g2.length_eq, ← hC] at hl
  have hb : Below B0 w w7 := (b5.trans (x6.mono h5)).trans (r5.below (Nat.le_trans h5 x6.size) (fun k e => by have e' : k = b2 := e; rw [e']; exact g5))
  have hq : (ents (L2.set (rnd L2.length (hmN L2.length key) r) (some ⟨key, n⟩))).Perm (⟨key, n⟩ :: ents L) := hp.trans (g2.cons _)
  have hlt' : ((ents L).length : Int) < most := by rw [← hC]; exact hlt
  have hpr : Prb (hmN L2.length) (L2.set (rnd L2.length (hmN L2.length key) r) (some ⟨key, n⟩)) := by
    refine Prb.put (x := (⟨key, n⟩ : Ent)) g1 (fun i e he hk => ?_) r1 r2
    exact hn e (g2.mem_iff.1 (mem_ents.2 ⟨i, he⟩)) hk
  have h4 := r4.cnt ((C : Int) + 1)
  have hlc : ((C : Int) + 1) = ((ents (L2.set (rnd L2.length (hmN L2.length key) r) (some ⟨key, n⟩))).length : Int) := by rw [hl]; omega
  have hbs := hb.setCell (p := ⟨t, 1, none⟩) hzt (.int .i64 ((C : Int) + 1))
  obtain ⟨L3, hL3⟩ : ∃ L3, L3 = L2.set (rnd L2.length (hmN L2.length key) r) (some (⟨key, n⟩ : Ent)) := ⟨_, rfl⟩
  have hlm : L2.length = L3.length := by rw [hL3, List.length_set]
  rw [← hL3] at hpr hq h4 hlc hl
  rw [hlm] at hpr g3 g4
  have hg3 : 2 * (ents L3).length ≤ L3.length := by omega
  have hg4 : ((ents L3).length : Int) ≤ most := by omega
  have kk := (KT.arr2 (k5.trans (KT.of_below x6)) r5 hb2).trans (KT.set_tab w7 1 (.int .i64 ((C : Int) + 1)))
  rw [hlc] at h4 hbs kk ⊢
  exact ⟨b2, L3, ⟨h4, hpr, hg3, g4, hms, hg4, hzt, g5⟩, ⟨hbs, kk, hb2⟩, Or.inr ⟨hn, Or.inr ⟨hlt', hq, rfl⟩⟩⟩
set_option maxRecDepth 100000 in
set_option maxHeartbeats 2000000 in
theorem hsputF (h : HTab w B0 t b most L) (key : List UInt8) (n : Int) (hk : key.length ≤ 1000000) (hB : B0 ≤ w.heap.size) : Calls Tryd.prog 25 #[.pointer (some ⟨t, 0, none⟩), .string (strB key), .int .i64 n] w fun e w' => PutF w B0 t b most L key n e w' := by
  have k0 := h.hs.c0
  have H := Lib.hid h
  by_cases hp : ∃ i x, plH L i = some x ∧ x.key = key
  · obtain ⟨i, x, hx, rfl⟩ := hp
    have hi := plH_lt hx
    have HX := Lib.hid hx
    have HFD := Lib.hid (hsfind_yes h hx)
    have hF : ∀ V, Below w.heap.size w V → V.cell? ⟨t, 0, none⟩ = some (.slice (some ⟨b, 0, none⟩) L.length L.length) ∧ V.cell? ⟨b, i * 4 + 3, none⟩ = some (.int .i64 x.n) ∧ V.frozen? ⟨b, i * 4 + 3, none⟩ = false := fun V hV => by
      have h1 := (h.hs.below hV)
      have h2 := h1.at_ (plH_get hi)
      rw [hx] at h2
      obtain ⟨cur, h3, _⟩ := h1.arr.obj
      exact ⟨h1.c0, h2 3 _ rfl, heap_frozen h3 _⟩
    have HF := Lib.hid hF
    clear h hx hF
    go_enter Tryd.func25, Tryd.ntmps25
    go_wp2_with (first
      | (go_at_call 33; refine (hsmade t b _ _ _ k0).mono ?_; rintro e w1 ⟨rfl, rfl⟩)
      | (go_at_call 34; refine (hsmark x.key _ hk).mono ?_; rintro e w1 ⟨rfl, rfl⟩)
      | (go_at_call 35; refine HFD.out.mono ?_; rintro e w1 ⟨rfl, x1⟩; have hq := HF.out _ x1; obtain ⟨q1, q2, q3⟩ := hq))
    have h1 := H.out.below x1
    obtain ⟨R, p1, p2⟩ := ents_change HX.out ⟨x.key, n⟩
    have hz := H.out.z
    have hle := p1.length_eq
    have hle2 := p2.length_eq
    rw [List.length_cons] at hle hle2
    refine bodyPost_ret (results_tmp rfl _ _ _) rfl ⟨b, L.set i (some ⟨x.key, n⟩), ⟨⟨?_, h1.hs.arr.setN HX.out n⟩, by rw [List.length_set]; exact H.out.prb.change HX.out n, by rw [List.length_set, hle2, ← hle]; exact H.out.half, by rw [List.length_set]; exact H.out.len, H.out.mst, by rw [hle2, ← hle]; exact H.out.n, hz⟩, ⟨(x1.mono hB).setCell (p := ⟨b, i * 4 + 3, none⟩) hz.2 _, (KT.of_below x1).trans (KT.of_arr (Kept.setCell w1 b (i * 4 + 3) _)), .inl rfl⟩, .inl ⟨x, R, rfl, p1, p2, rfl⟩⟩
    rw [List.length_set, hle2, ← hle]
    exact (heap_setCell_other w1 ⟨b, i * 4 + 3, none⟩ _ _ h1.hs.ne).trans h1.hs.tab
  · have hn : ∀ i x, plH L i = some x → x.key ≠ key := fun i x hx e => hp ⟨i, x, hx, e⟩
    have HN := Lib.hid hn
    have HNE : Hid (∀ x ∈ ents L, x.key ≠ key) := Lib.hid fun x hx => by obtain ⟨i, h1⟩ := mem_ents.1 hx; exact hn i x h1
    have HFD := Lib.hid (hsfind_no h hn)
    obtain ⟨C, hC⟩ : ∃ C, C = (ents L).length := ⟨_, rfl⟩
    have hCm := h.n
    have hms := h.mst
    have hlen := h.len
    have hhalf := h.half
    have hL0 := h.prb.home []
    have hF : ∀ V, Below w.heap.size w V → V.cell? ⟨t, 0, none⟩ = some (.slice (some ⟨b, 0, none⟩) L.length L.length) ∧ V.cell? ⟨t, 1, none⟩ = some (.int .i64 (C : Int)) ∧ V.cell? ⟨t, 2, none⟩ = some (.int .i64 most) := fun V hV => by
      have h1 := (h.hs.below hV)
      exact ⟨h1.c0, by rw [hC]; exact h1.c1, h1.c2⟩
    have HF := Lib.hid hF
    rw [← hC] at hCm hhalf
    have HC := Lib.hid hC
    clear h hn hp hF hC
    go_enter Tryd.func25, Tryd.ntmps25
    go_upto_region 8 with (first
      | (go_at_call 33; refine (hsmade t b _ _ _ k0).mono ?_; rintro e w1 ⟨rfl, rfl⟩)
      | (go_at_call 34; refine (hsmark key _ hk).mono ?_; rintro e w1 ⟨rfl, rfl⟩)
      | (go_at_call 35; refine HFD.out.mono ?_; rintro e w1 ⟨rfl, x1⟩; have H1 := Lib.hid (H.out.below x1); have KC0 : Hid (∀ V, Below w1.heap.size w1 V → V.cell? ⟨t, 0, none⟩ = some (.slice (some ⟨b, 0, none⟩) L.length L.length)) := Lib.hid (fun V hV => (HF.out V (x1.trans (hV.mono x1.size))).1); have KC1 : Hid (∀ V, Below w1.heap.size w1 V → V.cell? ⟨t, 1, none⟩ = some (.int .i64 (C : Int))) := Lib.hid (fun V hV => (HF.out V (x1.trans (hV.mono x1.size))).2.1); have KC2 : Hid (∀ V, Below w1.heap.size w1 V → V.cell? ⟨t, 2, none⟩ = some (.int .i64 most)) := Lib.hid (fun V hV => (HF.out V (x1.trans (hV.mono x1.size))).2.2)))
    by_cases hfull : (C : Int) ≥ most
    · have dF : decide (most ≤ (C : Int)) = true := decide_eq_true hfull
      refine wp_region_held_drew (S := fun w' => Below w1.heap.size w1 w') (by kernel_rfl) (Below.refl _ _).drew (fun hS => ?_)
      refine held_pure (i := 0) (oi := ⟨some 31, _, _, _, _, _⟩) rfl (by kernel_rfl) (by kernel_rfl) (by kernel_rfl) (fun _ _ _ h => h) (by rfl) (v := ?_) (fun w hSw => ?_) hS (fun hS => ?_)
      rotate_left
      · go_simp; try with_reducible rfl
      try go_frame
      refine held_pure (i := 1) (oi := ⟨some 32, _, _, _, _, _⟩) rfl (by kernel_rfl) (by kernel_rfl) (by kernel_rfl) (fun _ _ _ h => h) (by rfl) (v := ?_) (fun w hSw => ?_) hS (fun hS => ?_)
      rotate_left
      · go_simp; try with_reducible rfl
      try go_frame
      refine held_pure (i := 2) (oi := ⟨some 33, _, _, _, _, _⟩) rfl (by kernel_rfl) (by kernel_rfl) (by kernel_rfl) (fun _ _ _ h => h) (by rfl) (v := ?_) (fun w hSw => ?_) hS (fun hS => ?_)
      rotate_left
      · go_simp; try with_reducible rfl
      try go_frame
      refine held_pure (i := 3) (oi := ⟨some 34, _, _, _, _, _⟩) rfl (by kernel_rfl) (by kernel_rfl) (by kernel_rfl) (fun _ _ _ h => h) (by rfl) (fun w hSw => run_load_int rfl rfl (KC1.out _ hSw)) hS (fun hS => ?_)
      try go_frame
      refine held_pure (i := 4) (oi := ⟨some 35, _, _, _, _, _⟩) rfl (by kernel_rfl) (by kernel_rfl) (by kernel_rfl) (fun _ _ _ h => h) (by rfl) (v := ?_) (fun w hSw => ?_) hS (fun hS => ?_)
      rotate_left
      · go_simp; try with_reducible rfl
      try go_frame
      refine held_pure (i := 5) (oi := ⟨some 36, _, _, _, _, _⟩) rfl (by kernel_rfl) (by kernel_rfl) (by kernel_rfl) (fun _ _ _ h => h) (by rfl) (v := ?_) (fun w hSw => ?_) hS (fun hS => ?_)
      rotate_left
      · go_simp; try with_reducible rfl
      try go_frame
      refine held_pure (i := 6) (oi := ⟨some 37, _, _, _, _, _⟩) rfl (by kernel_rfl) (by kernel_rfl) (by kernel_rfl) (fun _ _ _ h => h) (by rfl) (v := ?_) (fun w hSw => ?_) hS (fun hS => ?_)
      rotate_left
      · go_simp; try with_reducible rfl
      try go_frame
      refine held_pure (i := 7) (oi := ⟨some 38, _, _, _, _, _⟩) rfl (by kernel_rfl) (by kernel_rfl) (by kernel_rfl) (fun _ _ _ h => h) (by rfl) (fun w hSw => run_load_int rfl rfl (KC2.out _ hSw)) hS (fun hS => ?_)
      try go_frame
      refine held_pure (i := 8) (oi := ⟨some 39, _, _, _, _, _⟩) rfl (by kernel_rfl) (by kernel_rfl) (by kernel_rfl) (fun _ _ _ h => h) (by rfl) (v := .bool true) (fun w hSw => by go_simp; try exact dF) hS (fun hS => ?_)
      try go_frame
      refine wpAnyH_done (by kernel_rfl) ?_ _
      go_wp2
      refine bodyPost_ret (results_tmp rfl _ _ _) rfl ⟨b, L, H.out.below (x1.trans (hS.mono x1.size)), ⟨(x1.trans (hS.mono x1.size)).mono hB, KT.of_below (x1.trans (hS.mono x1.size)), .inl rfl⟩, .inr ⟨HNE.out, .inl ⟨by rw [← HC.out]; exact hfull, rfl, rfl⟩⟩⟩
    · have dF : decide (most ≤ (C : Int)) = false := decide_eq_false hfull
      have HW1 : Hid (IntKind.i64.wrap ((C : Int) + 1) = (C : Int) + 1) := Lib.hid (IntWalk.i64_in _ (by omega))
      have HW2 : Hid (IntKind.i64.wrap (2 * ((C : Int) + 1)) = 2 * ((C : Int) + 1)) := Lib.hid (IntWalk.i64_in _ (by omega))
      refine wp_region_held_drew (S := fun w' => Below w1.heap.size w1 w') (by kernel_rfl) (Below.refl _ _).drew (fun hS => ?_)
      refine held_pure (i := 0) (oi := ⟨some 31, _, _, _, _, _⟩) rfl (by kernel_rfl) (by kernel_rfl) (by kernel_rfl) (fun _ _ _ h => h) (by rfl) (v := ?_) (fun w hSw => ?_) hS (fun hS => ?_)
      rotate_left
      · go_simp; try with_reducible rfl
      try go_frame
      refine held_pure (i := 1) (oi := ⟨some 32, _, _, _, _, _⟩) rfl (by kernel_rfl) (by kernel_rfl) (by kernel_rfl) (fun _ _ _ h => h) (by rfl) (v := ?_) (fun w hSw => ?_) hS (fun hS => ?_)
      rotate_left
      · go_simp; try with_reducible rfl
      try go_frame
      refine held_pure (i := 2) (oi := ⟨some 33, _, _, _, _, _⟩) rfl (by kernel_rfl) (by kernel_rfl) (by kernel_rfl) (fun _ _ _ h => h) (by rfl) (v := ?_) (fun w hSw => ?_) hS (fun hS => ?_)
      rotate_left
      · go_simp; try with_reducible rfl
      try go_frame
      refine held_pure (i := 3) (oi := ⟨some 34, _, _, _, _, _⟩) rfl (by kernel_rfl) (by kernel_rfl) (by kernel_rfl) (fun _ _ _ h => h) (by rfl) (fun w hSw => run_load_int rfl rfl (KC1.out _ hSw)) hS (fun hS => ?_)
      try go_frame
      refine held_pure (i := 4) (oi := ⟨some 35, _, _, _, _, _⟩) rfl (by kernel_rfl) (by kernel_rfl) (by kernel_rfl) (fun _ _ _ h => h) (by rfl) (v := ?_) (fun w hSw => ?_) hS (fun hS => ?_)
      rotate_left
      · go_simp; try with_reducible rfl
      try go_frame
      refine held_pure (i := 5) (oi := ⟨some 36, _, _, _, _, _⟩) rfl (by kernel_rfl) (by kernel_rfl) (by kernel_rfl) (fun _ _ _ h => h) (by rfl) (v := ?_) (fun w hSw => ?_) hS (fun hS => ?_)
      rotate_left
      · go_simp; try with_reducible rfl
      try go_frame
      refine held_pure (i := 6) (oi := ⟨some 37, _, _, _, _, _⟩) rfl (by kernel_rfl) (by kernel_rfl) (by kernel_rfl) (fun _ _ _ h => h) (by rfl) (v := ?_) (fun w hSw => ?_) hS (fun hS => ?_)
      rotate_left
      · go_simp; try with_reducible rfl
      try go_frame
      refine held_pure (i := 7) (oi := ⟨some 38, _, _, _, _, _⟩) rfl (by kernel_rfl) (by kernel_rfl) (by kernel_rfl) (fun _ _ _ h => h) (by rfl) (fun w hSw => run_load_int rfl rfl (KC2.out _ hSw)) hS (fun hS => ?_)
      try go_frame
      refine held_pure (i := 8) (oi := ⟨some 39, _, _, _, _, _⟩) rfl (by kernel_rfl) (by kernel_rfl) (by kernel_rfl) (fun _ _ _ h => h) (by rfl) (v := .bool false) (fun w hSw => by go_simp; try exact dF) hS (fun hS => ?_)
      try go_frame
      refine wpAnyH_done (by kernel_rfl) ?_ _
      go_upto_region 10 with fail
      have hz := H.out.z
      have hW4 : Below w1.heap.size w1 w1.drew.drew := (Below.refl w1.heap.size w1).drew.drew
      have H4 := H1.out.below hW4
      have b4 : Below B0 w w1.drew.drew := (x1.trans (hW4.mono x1.size)).mono hB
      by_cases hg : 2 * (C + 1) > L.length
      · have dG : decide ((L.length : Int) < 2 * ((C : Int) + 1)) = true := decide_eq_true (by omega)
        refine wp_region_held_drew (S := fun w' => Below w1.heap.size w1 w') (by kernel_rfl) (Below.refl w1.heap.size w1).drew.drew (fun hS => ?_)
        refine held_pure (i := 0) (oi := ⟨some 40, _, _, _, _, _⟩) rfl (by kernel_rfl) (by kernel_rfl) (by kernel_rfl) (fun _ _ _ h => h) (by rfl) (v := ?_) (fun w hSw => ?_) hS (fun hS => ?_)
        rotate_left
        · go_simp; try with_reducible rfl
        try go_frame
        refine held_pure (i := 1) (oi := ⟨some 41, _, _, _, _, _⟩) rfl (by kernel_rfl) (by kernel_rfl) (by kernel_rfl) (fun _ _ _ h => h) (by rfl) (v := ?_) (fun w hSw => ?_) hS (fun hS => ?_)
        rotate_left
        · go_simp; try with_reducible rfl
        try go_frame
        refine held_pure (i := 2) (oi := ⟨some 42, _, _, _, _, _⟩) rfl (by kernel_rfl) (by kernel_rfl) (by kernel_rfl) (fun _ _ _ h => h) (by rfl) (v := ?_) (fun w hSw => ?_) hS (fun hS => ?_)
        rotate_left
        · go_simp; try with_reducible rfl
        try go_frame
        refine held_pure (i := 3) (oi := ⟨some 43, _, _, _, _, _⟩) rfl (by kernel_rfl) (by kernel_rfl) (by kernel_rfl) (fun _ _ _ h => h) (by rfl) (fun w hSw => run_load_int rfl rfl (KC1.out _ hSw)) hS (fun hS => ?_)
        try go_frame
        refine held_pure (i := 4) (oi := ⟨some 44, _, _, _, _, _⟩) rfl (by kernel_rfl) (by kernel_rfl) (by kernel_rfl) (fun _ _ _ h => h) (by rfl) (v := .int .i64 ((C : Int) + 1)) (fun w hSw => by go_simp; try exact HW1.out) hS (fun hS => ?_)
        try go_frame
        refine held_pure (i := 5) (oi := ⟨some 45, _, _, _, _, _⟩) rfl (by kernel_rfl) (by kernel_rfl) (by kernel_rfl) (fun _ _ _ h => h) (by rfl) (v := .int .i64 (2 * ((C : Int) + 1))) (fun w hSw => by go_simp; try exact HW2.out) hS (fun hS => ?_)
        try go_frame
        refine held_pure (i := 6) (oi := ⟨some 46, _, _, _, _, _⟩) rfl (by kernel_rfl) (by kernel_rfl) (by kernel_rfl) (fun _ _ _ h => h) (by rfl) (v := ?_) (fun w hSw => ?_) hS (fun hS => ?_)
        rotate_left
        · go_simp; try with_reducible rfl
        try go_frame
        refine held_pure (i := 7) (oi := ⟨some 47, _, _, _, _, _⟩) rfl (by kernel_rfl) (by kernel_rfl) (by kernel_rfl) (fun _ _ _ h => h) (by rfl) (v := ?_) (fun w hSw => ?_) hS (fun hS => ?_)
        rotate_left
        · go_simp; try with_reducible rfl
        try go_frame
        refine held_pure (i := 8) (oi := ⟨some 48, _, _, _, _, _⟩) rfl (by kernel_rfl) (by kernel_rfl) (by kernel_rfl) (fun _ _ _ h => h) (by rfl) (v := ?_) (fun w hSw => ?_) hS (fun hS => ?_)
        rotate_left
        · go_simp; try with_reducible rfl
        try go_frame
        refine held_pure (i := 9) (oi := ⟨some 49, _, _, _, _, _⟩) rfl (by kernel_rfl) (by kernel_rfl) (by kernel_rfl) (fun _ _ _ h => h) (by rfl) (fun w hSw => run_load_hsar rfl rfl (KC0.out _ hSw)) hS (fun hS => ?_)
        try go_frame
        refine held_pure (i := 10) (oi := ⟨some 50, _, _, _, _, _⟩) rfl (by kernel_rfl) (by kernel_rfl) (by kernel_rfl) (fun _ _ _ h => h) (by rfl) (v := ?_) (fun w hSw => ?_) hS (fun hS => ?_)
        rotate_left
        · go_simp; try with_reducible rfl
        try go_frame
        refine held_pure (i := 11) (oi := ⟨some 51, _, _, _, _, _⟩) rfl (by kernel_rfl) (by kernel_rfl) (by kernel_rfl) (fun _ _ _ h => h) (by rfl) (v := .bool true) (fun w hSw => by go_simp; try exact dG) hS (fun hS => ?_)
        try go_frame
        refine wpAnyH_done (by kernel_rfl) ?_ _
        go_wp2_with (first
          | (go_at_call 36; refine (hsgrow H4.hs H4.prb (by omega)).mono ?_; rintro e w5 ⟨rfl, b2, L2, g1, g2, g3, g4, g5, g6⟩; have hz4 := hW4.size; have hz0 := x1.size; have b5 : Below B0 w w5 := b4.trans (g5.below (by have := b4.size; omega) (fun k e => by have e' : k = t := e; rw [e']; exact hz.1)); have k5 : KT t b w w5 := (KT.of_below (x1.trans (hW4.mono x1.size))).trans (KT.of_tab g5); have hb2 : b2 = b ∨ w.heap.size ≤ b2 := .inr (by omega); have G := Lib.hid (show Hs w5 t b2 (C : Int) most L2 ∧ Prb (hmN L2.length) L2 ∧ (ents L2).Perm (ents L) ∧ 2 * (C + 1) ≤ L2.length ∧ L2.length ≤ 300000 ∧ B0 ≤ b2 from ⟨by rw [HC.out]; exact g1, g3, g4, by omega, by omega, by omega⟩); clear g1 g2 g3 g4 g5)
          | (go_at_call 38; refine (hsclone key _ hk).mono ?_; rintro e w6 ⟨rfl, x6⟩; have G6 := Lib.hid (G.out.1.below x6))
          | (go_at_call 37; refine (hskeep G6.out ⟨key, n⟩ (G.out.2.1.home _) (by have := G.out.2.2.2.2.1; omega) (free_of_lt (by rw [G.out.2.2.1.length_eq, ← HC.out]; have := G.out.2.2.2.1; omega))).mono ?_; rintro e w7 ⟨rfl, r, r1, r2, r3, r4, r5⟩; have R := Lib.hid (show _ ∧ _ ∧ _ ∧ _ from ⟨r1, r2, r3, r5⟩); have R4 := Lib.hid r4; have kc1 := r4.c1; have kf1 := heap_frozen r4.tab 1; clear r1 r2 r3 r4 r5))
        refine bodyPost_ret (results_tmp rfl _ _ _) rfl ?_
        exact (putF_end G.out.1 G.out.2 HC.out (.inr hz.1) (by omega) hms HNE.out x6 (Nat.le_trans hB b5.size) b5 k5 hb2 R4.out R.out)
      · have dG : decide ((L.length : Int) < 2 * ((C : Int) + 1)) = false := decide_eq_false (by omega)
        have G : Hid (Hs w1.drew.drew t b (C : Int) most L ∧ Prb (hmN L.length) L ∧ (ents L).Perm (ents L) ∧ 2 * (C + 1) ≤ L.length ∧ L.length ≤ 300000 ∧ B0 ≤ b) := Lib.hid ⟨by rw [HC.out]; exact H4.hs, H4.prb, List.Perm.refl _, by omega, by omega, hz.2⟩
        have b5 := b4
        have k5 : KT t b w w1.drew.drew := KT.of_below (x1.trans (hW4.mono x1.size))
        refine wp_region_held_drew (S := fun w' => Below w1.heap.size w1 w') (by kernel_rfl) (Below.refl w1.heap.size w1).drew.drew (fun hS => ?_)
        refine held_pure (i := 0) (oi := ⟨some 40, _, _, _, _, _⟩) rfl (by kernel_rfl) (by kernel_rfl) (by kernel_rfl) (fun _ _ _ h => h) (by rfl) (v := ?_) (fun w hSw => ?_) hS (fun hS => ?_)
        rotate_left
        · go_simp; try with_reducible rfl
        try go_frame
        refine held_pure (i := 1) (oi := ⟨some 41, _, _, _, _, _⟩) rfl (by kernel_rfl) (by kernel_rfl) (by kernel_rfl) (fun _ _ _ h => h) (by rfl) (v := ?_) (fun w hSw => ?_) hS (fun hS => ?_)
        rotate_left
        · go_simp; try with_reducible rfl
        try go_frame
        refine held_pure (i := 2) (oi := ⟨some 42, _, _, _, _, _⟩) rfl (by kernel_rfl) (by kernel_rfl) (by kernel_rfl) (fun _ _ _ h => h) (by rfl) (v := ?_) (fun w hSw => ?_) hS (fun hS => ?_)
        rotate_left
        · go_simp; try with_reducible rfl
        try go_frame
        refine held_pure (i := 3) (oi := ⟨some 43, _, _, _, _, _⟩) rfl (by kernel_rfl) (by kernel_rfl) (by kernel_rfl) (fun _ _ _ h => h) (by rfl) (fun w hSw => run_load_int rfl rfl (KC1.out _ hSw)) hS (fun hS => ?_)
        try go_frame
        refine held_pure (i := 4) (oi := ⟨some 44, _, _, _, _, _⟩) rfl (by kernel_rfl) (by kernel_rfl) (by kernel_rfl) (fun _ _ _ h => h) (by rfl) (v := .int .i64 ((C : Int) + 1)) (fun w hSw => by go_simp; try exact HW1.out) hS (fun hS => ?_)
        try go_frame
        refine held_pure (i := 5) (oi := ⟨some 45, _, _, _, _, _⟩) rfl (by kernel_rfl) (by kernel_rfl) (by kernel_rfl) (fun _ _ _ h => h) (by rfl) (v := .int .i64 (2 * ((C : Int) + 1))) (fun w hSw => by go_simp; try exact HW2.out) hS (fun hS => ?_)
        try go_frame
        refine held_pure (i := 6) (oi := ⟨some 46, _, _, _, _, _⟩) rfl (by kernel_rfl) (by kernel_rfl) (by kernel_rfl) (fun _ _ _ h => h) (by rfl) (v := ?_) (fun w hSw => ?_) hS (fun hS => ?_)
        rotate_left
        · go_simp; try with_reducible rfl
        try go_frame
        refine held_pure (i := 7) (oi := ⟨some 47, _, _, _, _, _⟩) rfl (by kernel_rfl) (by kernel_rfl) (by kernel_rfl) (fun _ _ _ h => h) (by rfl) (v := ?_) (fun w hSw => ?_) hS (fun hS => ?_)
        rotate_left
        · go_simp; try with_reducible rfl
        try go_frame
        refine held_pure (i := 8) (oi := ⟨some 48, _, _, _, _, _⟩) rfl (by kernel_rfl) (by kernel_rfl) (by kernel_rfl) (fun _ _ _ h => h) (by rfl) (v := ?_) (fun w hSw => ?_) hS (fun hS => ?_)
        rotate_left
        · go_simp; try with_reducible rfl
        try go_frame
        refine held_pure (i := 9) (oi := ⟨some 49, _, _, _, _, _⟩) rfl (by kernel_rfl) (by kernel_rfl) (by kernel_rfl) (fun _ _ _ h => h) (by rfl) (fun w hSw => run_load_hsar rfl rfl (KC0.out _ hSw)) hS (fun hS => ?_)
        try go_frame
        refine held_pure (i := 10) (oi := ⟨some 50, _, _, _, _, _⟩) rfl (by kernel_rfl) (by kernel_rfl) (by kernel_rfl) (fun _ _ _ h => h) (by rfl) (v := ?_) (fun w hSw => ?_) hS (fun hS => ?_)
        rotate_left
        · go_simp; try with_reducible rfl
        try go_frame
        refine held_pure (i := 11) (oi := ⟨some 51, _, _, _, _, _⟩) rfl (by kernel_rfl) (by kernel_rfl) (by kernel_rfl) (fun _ _ _ h => h) (by rfl) (v := .bool false) (fun w hSw => by go_simp; try exact dG) hS (fun hS => ?_)
        try go_frame
        refine wpAnyH_done (by kernel_rfl) ?_ _
        go_wp2_with (first
          | (go_at_call 38; refine (hsclone key _ hk).mono ?_; rintro e w6 ⟨rfl, x6⟩; have G6 := Lib.hid (G.out.1.below x6))
          | (go_at_call 37; refine (hskeep G6.out ⟨key, n⟩ (G.out.2.1.home _) (by have := G.out.2.2.2.2.1; omega) (free_of_lt (by rw [← HC.out]; omega))).mono ?_; rintro e w7 ⟨rfl, r, r1, r2, r3, r4, r5⟩; have R := Lib.hid (show _ ∧ _ ∧ _ ∧ _ from ⟨r1, r2, r3, r5⟩); have R4 := Lib.hid r4; have kc1 := r4.c1; have kf1 := heap_frozen r4.tab 1; clear r1 r2 r3 r4 r5))
        refine bodyPost_ret (results_tmp rfl _ _ _) rfl ?_
        exact (putF_end G.out.1 G.out.2 HC.out (.inr hz.1) (by omega) hms HNE.out x6 (Nat.le_trans hB b5.size) b5 k5 (.inl rfl) R4.out R.out)
end
section
variable {w w' : World} {B0 t b : Nat} {most : Int} {M R : List Ent} {x : Ent} {key : List UInt8} {n : Int}
/-- The table at t, its array at b, holds the entries M. -/
def HQ (w : World) (B0 t b : Nat) (most : Int) (M : List Ent) : Prop := ∃ L, HTab w B0 t b most L ∧ (ents L).Perm M
theorem HQ.hm (h : HQ w B0 t b most M) : HM w B0 t most M := by obtain ⟨L, h1, h2⟩ := h; exact ⟨b, L, h1, h2⟩
theorem HQ.below (h : HQ w B0 t b most M) (hb : Below w.heap.size w w') : HQ w' B0 t b most M := by obtain ⟨L, h1, h2⟩ := h; exact ⟨L, h1.below hb, h2⟩
theorem HQ.perm (h : HQ w B0 t b most M) (hp : M.Perm R) : HQ w B0 t b most R := by obtain ⟨L, h1, h2⟩ := h; exact ⟨L, h1, h2.trans hp⟩
theorem HQ.lt (h : HQ w B0 t b most M) : t < w.heap.size ∧ b < w.heap.size ∧ B0 ≤ t ∧ B0 ≤ b := by obtain ⟨L, h1, h2⟩ := h; exact ⟨heap_lt h1.hs.tab, h1.hs.arr.lt, h1.z.1, h1.z.2⟩
theorem HQ.tab (h : HQ w B0 t b most M) : (∃ cs, w.heap[t]? = some (.cells cs 80 (0, 0))) ∧ ∃ cs, w.heap[b]? = some (.cells cs 85 (0, 0)) := by
  obtain ⟨L, h1, h2⟩ := h
  obtain ⟨cur, h3, _⟩ := h1.hs.arr.obj
  exact ⟨⟨_, h1.hs.tab⟩, ⟨_, h3⟩⟩
/-- Other blocks were written. -/
theorem HQ.kept {S : Nat → Prop} (h : HQ w B0 t b most M) (k : Kept S w w') (ht : ¬ S t) (hb : ¬ S b) : HQ w' B0 t b most M := by
  obtain ⟨L, q1, q2⟩ := h
  exact ⟨L, ⟨⟨(k.block t (heap_lt q1.hs.tab) ht).trans q1.hs.tab, q1.hs.arr.keep (k.block b q1.hs.arr.lt hb)⟩, q1.prb, q1.half, q1.len, q1.mst, q1.n, q1.z⟩, q2⟩
theorem hq_new (most : Int) (w : World) (h0 : 0 ≤ most) (h1 : most ≤ 65536) (B0 : Nat) (hB : B0 ≤ w.heap.size) : Calls Tryd.prog 22 #[.int .i64 most] w fun e w' =>
    e = .returned (.tuple #[.pointer (some ⟨w.heap.size + 1, 0, none⟩), .int .i64 0]) ∧ HQ w' B0 (w.heap.size + 1) w.heap.size most [] ∧ Below w.heap.size w w' :=
  (hsnew_ok most w h0 h1).mono fun e w' ⟨a, b, c⟩ => ⟨a, ⟨_, HTab.new ⟨h0, h1⟩ b ⟨Nat.le_succ_of_le hB, hB⟩, by rw [ents_rep]⟩, c⟩
theorem hq_put_new (h : HQ w B0 t b most M) (hn : ∀ x ∈ M, x.key ≠ key) (hm : (M.length : Int) < most) (n : Int) (hk : key.length ≤ 1000000) (hB : B0 ≤ w.heap.size) :
    Calls Tryd.prog 25 #[.pointer (some ⟨t, 0, none⟩), .string (strB key), .int .i64 n] w fun e w' => ∃ b', e = .returned (.int .i64 0) ∧ HQ w' B0 t b' most (⟨key, n⟩ :: M) ∧ Below B0 w w' ∧ KT t b w w' ∧ (b' = b ∨ w.heap.size ≤ b') := by
  obtain ⟨L, h1, h2⟩ := h
  refine (hsputF h1 key n hk hB).mono ?_
  rintro e w' ⟨b', L', q1, q2, q3⟩
  rcases q3 with ⟨x, R, r1, r2, _, _⟩ | ⟨r1, ⟨r2, _, _⟩ | ⟨r2, r3, rfl⟩⟩
  · exact absurd r1 (hn x (h2.mem_iff.1 (r2.mem_iff.2 (List.mem_cons_self ..))))
  · have := h2.length_eq; omega
  · exact ⟨b', rfl, ⟨L', q1, r3.trans (h2.cons _)⟩, q2⟩
theorem hq_del_yes (h : HQ w B0 t b most M) (hp : M.Perm (x :: R)) (hk : x.key.length ≤ 1000000) (hB : B0 ≤ w.heap.size) :
    Calls Tryd.prog 29 #[.pointer (some ⟨t, 0, none⟩), .string (strB x.key)] w fun e w' => e = .returned (.bool true) ∧ HQ w' B0 t b most R ∧ Below B0 w w' ∧ KT t b w w' := by
  have hu : ∀ {y : Ent}, x ∈ M → y ∈ M → x.key = y.key → x = y := fun h1 h2 h3 => h.hm.uniq h1 h2 h3
  have hxm : x ∈ M := hp.mem_iff.2 (List.mem_cons_self ..)
  obtain ⟨L, h1, h2⟩ := h
  refine (hsdelF h1 x.key hk hB).mono ?_
  rintro e w' ⟨L', q1, q2, _, q3⟩
  rcases q3 with ⟨y, r1, r2, rfl⟩ | ⟨r1, _⟩
  · obtain rfl := hu hxm (h2.mem_iff.1 (r2.mem_iff.2 (List.mem_cons_self ..))) r1.symm
    exact ⟨rfl, ⟨L', q1, ((r2.symm.trans h2).trans hp).cons_inv⟩, q2⟩
  · exact absurd rfl (r1 x (h2.mem_iff.2 hxm))
end
end Go.Proofs.YtafidbjaeopciaaDoor

/-
  What layer 22's code keeps; isMade, isTaken, Find, Back, has, Len. Conditions are each theorem's own.
-/
namespace Go.Proofs.YtafidbjaeopciaaDoor
open Go.RowKit Go.Shelf
/-- A slot's cells. -/
def clSl : Option Bd → List Value
  | none => [.int .i64 0, .int .i64 0, .int .i64 0, .int .i64 0, .int .i64 0, .int .i64 0, .int .i64 0, .bool false, .bool false]
  | some x => clBd x ++ [.bool true]
theorem clSl_len (o : Option Bd) : (clSl o).length = 9 := by cases o <;> rfl
theorem clSl_one (o : Option Bd) : (clSl o).toArray.all (·.oneCell') = true := by cases o <;> simp [clSl, clBd, Value.oneCell']
theorem clSl_own (o : Option Bd) : ∀ u ∈ clSl o, u.oneCell' = true := fun u hu => by
  have h := clSl_one o
  rw [Array.all_eq_true_iff_forall_mem] at h
  exact h u (by simpa using hu)
def clI (l : List Int) : List Value := l.map (Value.int .i64)
/-- Bindings lie at block d. -/
structure Db (w : World) (B0 d t1 b1 t2 b2 : Nat) (A : Option Addr) (c : Nat) (most : Int) (S : List (Option Bd)) (f : Nat) : Prop where
  obj : w.heap[d]? = some (.cells #[.slice A S.length c, .pointer (some ⟨t1, 0, none⟩), .pointer (some ⟨t2, 0, none⟩), .int .i64 most, .int .i64 (f : Int)] 59 (0, 0))
  own : w.ownsRow B0 68 9 (.slice A S.length c) S.length (S.flatMap clSl)
  inn : HQ w B0 t1 b1 most (inE (docB 0 S))
  out : HQ w B0 t2 b2 most (ouE (docB 0 S))
  free : FreeB S f
  fit : ∀ e ∈ docB 0 S, e.2.fits
  ni : (docB 0 S).Pairwise (fun a b => a.2.inn ≠ b.2.inn)
  no : (docB 0 S).Pairwise (fun a b => a.2.out ≠ b.2.out)
  mst : 0 ≤ most ∧ most ≤ 4096
  n : (S.length : Int) ≤ most
  z : B0 ≤ d
  ap : t1 ≠ t2 ∧ b1 ≠ b2
theorem run_load_pdb {o : Oper} {a : Act} {w : World} {x : Operand} {p : Addr} {A : Option Addr} (ho : o.op = .load 57 x) (hx : a.eval x = .pointer (some p)) (hc : w.cell? p = some (.pointer A)) :
    (execOp a.eval o).run Tryd.prog w = .ok (.value (.pointer A)) w := run_load_hstp ho hx hc
theorem run_load_slt {o : Oper} {a : Act} {w : World} {x : Operand} {p : Addr} {A : Option Addr} {n c : Nat} (ho : o.op = .load 56 x) (hx : a.eval x = .pointer (some p)) (hc : w.cell? p = some (.slice A n c)) :
    (execOp a.eval o).run Tryd.prog w = .ok (.value (.slice A n c)) w := by
  unfold execOp
  simp only [ho, hx, Instr.loadAt, Instr.sureAddr, Sem.run_bind, Sem.run_pure, Result.andThen_ok]
  go_simp
set_option maxRecDepth 100000 in
theorem run_load_inn {o : Oper} {a : Act} {w : World} {y : Operand} {g i : Nat} {x : Bd} (ho : o.op = .load 32 y) (hx : a.eval y = .pointer (some ⟨g, i, none⟩)) (hr : w.rangeAt g i (clI x.inn)) :
    (execOp a.eval o).run Tryd.prog w = .ok (.value (inV x)) w := by
  have h := run_loadVar_mid (P := Tryd.prog) w g i 32 (clI x.inn) _ hr Tryd.underlying32 rfl (by rw [show (clI x.inn).length = 4 from rfl]; kernel_rfl)
  unfold execOp
  simp only [ho, hx, Instr.loadAt, Instr.sureAddr, Sem.run_bind, Sem.run_pure, Result.andThen_ok, h]
  rfl
set_option maxRecDepth 100000 in
theorem run_load_out {o : Oper} {a : Act} {w : World} {y : Operand} {g i : Nat} {x : Bd} (ho : o.op = .load 34 y) (hx : a.eval y = .pointer (some ⟨g, i, none⟩)) (hr : w.rangeAt g i (clI x.out)) :
    (execOp a.eval o).run Tryd.prog w = .ok (.value (ouV x)) w := by
  have h := run_loadVar_mid (P := Tryd.prog) w g i 34 (clI x.out) _ hr Tryd.underlying34 rfl (by rw [show (clI x.out).length = 3 from rfl]; kernel_rfl)
  unfold execOp
  simp only [ho, hx, Instr.loadAt, Instr.sureAddr, Sem.run_bind, Sem.run_pure, Result.andThen_ok, h]
  rfl
set_option maxRecDepth 100000 in
theorem run_load_bd {o : Oper} {a : Act} {w : World} {y : Operand} {g i : Nat} {x : Bd} (ho : o.op = .load 36 y) (hx : a.eval y = .pointer (some ⟨g, i, none⟩)) (hr : w.rangeAt g i (clBd x)) :
    (execOp a.eval o).run Tryd.prog w = .ok (.value (bdV x)) w := by
  have h := run_loadVar_mid (P := Tryd.prog) w g i 36 (clBd x) _ hr Tryd.underlying36 rfl (by rw [show (clBd x).length = 8 from rfl]; kernel_rfl)
  unfold execOp
  simp only [ho, hx, Instr.loadAt, Instr.sureAddr, Sem.run_bind, Sem.run_pure, Result.andThen_ok, h]
  rfl
/-- Which binding is found by its inner, by its outer endpoint. -/
def fndI (l : List (Nat × Bd)) (x : Bd) : Option (Nat × Bd) := l.find? (fun e => decide (e.2.inn = x.inn))
def fndO (l : List (Nat × Bd)) (x : Bd) : Option (Nat × Bd) := l.find? (fun e => decide (e.2.out = x.out))
def numE (o : Option (Nat × Bd)) : Int := match o with | some e => (e.1 : Int) | none => 0
/-- A place that is taken. -/
def takB (S : List (Option Bd)) (i : Int) : Option Bd := if i < 0 then none else (S[i.toNat]?).join
section
variable {w w' : World} {B0 d t1 b1 t2 b2 : Nat} {A : Option Addr} {c : Nat} {most : Int} {S : List (Option Bd)} {f : Nat}
theorem Db.c0 (h : Db w B0 d t1 b1 t2 b2 A c most S f) : w.cell? ⟨d, 0, none⟩ = some (.slice A S.length c) := cells_at h.obj rfl
theorem Db.c1 (h : Db w B0 d t1 b1 t2 b2 A c most S f) : w.cell? ⟨d, 1, none⟩ = some (.pointer (some ⟨t1, 0, none⟩)) := cells_at h.obj rfl
theorem Db.c2 (h : Db w B0 d t1 b1 t2 b2 A c most S f) : w.cell? ⟨d, 2, none⟩ = some (.pointer (some ⟨t2, 0, none⟩)) := cells_at h.obj rfl
theorem Db.c3 (h : Db w B0 d t1 b1 t2 b2 A c most S f) : w.cell? ⟨d, 3, none⟩ = some (.int .i64 most) := cells_at h.obj rfl
theorem Db.c4 (h : Db w B0 d t1 b1 t2 b2 A c most S f) : w.cell? ⟨d, 4, none⟩ = some (.int .i64 (f : Int)) := cells_at h.obj rfl
theorem Db.below (h : Db w B0 d t1 b1 t2 b2 A c most S f) (hb : Below w.heap.size w w') : Db w' B0 d t1 b1 t2 b2 A c most S f :=
  ⟨(hb.block d (heap_lt h.obj)).trans h.obj, own_below h.own hb, h.inn.below hb, h.out.below hb, h.free, h.fit, h.ni, h.no, h.mst, h.n, h.z, h.ap⟩
theorem Db.rds (h : Db w B0 d t1 b1 t2 b2 A c most S f) : RdS clSl 9 w w.heap.size A S := by
  obtain ⟨A', c', e, hr, hc⟩ := own_rds h.own rfl rfl (fun o _ => clSl_len o)
  injection e with e1 e2 e3
  rw [e1]; exact hr
theorem Db.at_ (h : Db w B0 d t1 b1 t2 b2 A c most S f) {j : Nat} {o : Option Bd} (hj : S[j]? = some o) : ∃ g q, A = some ⟨g, q, none⟩ ∧ g < w.heap.size ∧ w.rangeAt g (q + j * 9) (clSl o) := by
  obtain ⟨g, q, e, hg, hr⟩ := h.rds (by have := (List.getElem?_eq_some_iff.1 hj).1; omega)
  exact ⟨g, q, e, hg, hr j o hj⟩
set_option maxRecDepth 100000 in
theorem bmade (h : Db w B0 d t1 b1 t2 b2 A c most S f) : Calls Tryd.prog 23 #[.pointer (some ⟨d, 0, none⟩)] w fun e w' => e = .returned (.bool true) ∧ w = w' := by
  have k1 := h.c1
  clear h
  go_enter Tryd.func23, Tryd.ntmps23
  go_wp2
  go_ret
  exact ⟨rfl, rfl⟩
set_option maxRecDepth 100000 in
theorem btakenR (k0 : w.cell? ⟨d, 0, none⟩ = some (.slice A S.length c)) (hrd : RdS clSl 9 w w.heap.size A S) (i : Int) : Calls Tryd.prog 28 #[.pointer (some ⟨d, 0, none⟩), .int .i64 i] w fun e w' => e = .returned (.bool (takB S i).isSome) ∧ w = w' := by
  by_cases h1 : i < 0
  · have d1 : decide (i ≥ 0) = false := decide_eq_false (by omega)
    have d2 : decide (0 ≤ i) = false := d1
    have e : takB S i = none := by unfold takB; rw [if_pos h1]
    rw [e]
    clear hrd h1 e
    go_enter Tryd.func28, Tryd.ntmps28
    go_wp2
    go_ret
    exact ⟨rfl, rfl⟩
  · obtain ⟨j, rfl⟩ : ∃ j : Nat, i = (j : Int) := ⟨i.toNat, by omega⟩
    have d1 : decide ((j : Int) ≥ 0) = true := decide_eq_true (by omega)
    have d2 : decide (0 ≤ (j : Int)) = true := d1
    have e : takB S (j : Int) = (S[j]?).join := by unfold takB; rw [if_neg h1, Int.toNat_natCast]
    rw [e]
    obtain ⟨n, hn⟩ : ∃ n, n = S.length := ⟨_, rfl⟩
    rw [← hn] at k0
    by_cases h2 : j < n
    · obtain ⟨o, ho⟩ : ∃ o, S[j]? = some o := ⟨_, List.getElem?_eq_getElem (by omega)⟩
      obtain ⟨g, q, rfl, hg, hr0⟩ := hrd (by omega)
      have hr := hr0 j o ho
      have k8 : w.cell? ⟨g, q + j * 9 + 8, none⟩ = some (.bool o.isSome) := hr 8 _ (by cases o <;> rfl)
      have d3 : decide ((j : Int) < (n : Int)) = true := decide_eq_true (by omega)
      rw [ho]
      have e2 : ((some o).join).isSome = o.isSome := rfl
      rw [e2]
      obtain ⟨B, hB⟩ : ∃ B, B = o.isSome := ⟨_, rfl⟩
      rw [← hB] at k8 ⊢
      clear hrd h1 hn e e2 ho hr hr0 hB
      go_enter Tryd.func28, Tryd.ntmps28
      go_wp2
      go_ret
      exact ⟨rfl, rfl⟩
    · have d3 : decide ((j : Int) < (n : Int)) = false := decide_eq_false (by omega)
      have e2 : S[j]? = none := List.getElem?_eq_none (by omega)
      rw [e2]
      clear hrd h1 hn e e2
      go_enter Tryd.func28, Tryd.ntmps28
      go_wp2
      go_ret
      exact ⟨rfl, rfl⟩
theorem btaken (h : Db w B0 d t1 b1 t2 b2 A c most S f) (i : Int) : Calls Tryd.prog 28 #[.pointer (some ⟨d, 0, none⟩), .int .i64 i] w fun e w' => e = .returned (.bool (takB S i).isSome) ∧ w = w' := btakenR h.c0 h.rds i
set_option maxRecDepth 100000 in
theorem blen (h : Db w B0 d t1 b1 t2 b2 A c most S f) : Calls Tryd.prog 21 #[.pointer (some ⟨d, 0, none⟩)] w fun e w' => e = .returned (.int .i64 ((docB 0 S).length : Int)) ∧ w = w' := by
  have k1 := h.c1
  have HK := Lib.hid h
  have hl : (inE (docB 0 S)).length = (docB 0 S).length := by simp [inE]
  have HL := Lib.hid hl
  clear h hl
  go_enter Tryd.func21, Tryd.ntmps21
  go_wp2_with (first
    | (go_at_call 23; refine (bmade HK.out).mono ?_; rintro e w1 ⟨rfl, rfl⟩)
    | (go_at_call 32; refine (hm_len HK.out.inn.hm).mono ?_; rintro e w1 ⟨rfl, rfl⟩; rw [HL.out]))
  go_ret
  exact ⟨rfl, rfl⟩
set_option maxRecDepth 100000 in
theorem bfind_yes (h : Db w B0 d t1 b1 t2 b2 A c most S f) (hT : Tabs w) (x : Bd) (hx : x.fits) {k : Nat} {y : Bd} (hy : (k, y) ∈ docB 0 S) (hyx : y.inn = x.inn) : Calls Tryd.prog 15 #[.pointer (some ⟨d, 0, none⟩), inV x] w fun e w' => e = .returned (.tuple #[.int .i64 (k : Int), .bool true]) ∧ Below w.heap.size w w' := by
  have HX : Hid ((⟨txtN x.inn, (k : Int)⟩ : Ent) ∈ inE (docB 0 S)) := Lib.hid (List.mem_map.2 ⟨(k, y), hy, by rw [← hyx]⟩)
  have HLEN : Hid ((txtN x.inn).length ≤ 1000000) := Lib.hid (by have h7 := txtN_len hx.inn; have e7 : (x.inn).length ≤ 4 := (by simp [Bd.inn]); omega)
  obtain ⟨V, hV⟩ : ∃ V, V = w.alloc (.cells (clI x.inn).toArray 32) := ⟨_, rfl⟩
  have bV : Below w.heap.size w V := by rw [hV]; exact (Below.refl _ w).alloc (Nat.le_refl _) _
  have hbV : V.heap[w.heap.size]? = some (.cells (clI x.inn).toArray 32 (0, 0)) := by rw [hV]; exact World.alloc_heap_new w _
  have hrV : V.rangeAt w.heap.size 0 (clI x.inn) := range_heap hbV
  have HK := Lib.hid (h.below bV)
  have HTV := Lib.hid (hT.step bV)
  have k1 := HK.out.c1
  have HC : Hid (∀ U, Below V.heap.size V U → U.cell? ⟨d, 1, none⟩ = some (.pointer (some ⟨t1, 0, none⟩))) := Lib.hid (fun U hU => (HK.out.below hU).c1)
  have HR : Hid (∀ U, Below V.heap.size V U → U.rangeAt w.heap.size 0 (clI x.inn)) := Lib.hid (fun U hU j v hj => (World.cell?_of_block (hU.block w.heap.size (heap_lt hbV))).trans (hrV j v hj))
  have HF := Lib.hid hx
  have HV := Lib.hid (show w.alloc (.cells #[.int .i64 x.s, .int .i64 x.p, .int .i64 x.a, .int .i64 x.o] 32) = V from hV.symm)
  clear h hT hx hV hbV hrV hy hyx
  unfold inV
  go_enter Tryd.func15, Tryd.ntmps15
  go_upto_region 1 with fail
  rw [HV.out]
  go_upto_region 3 with (go_at_call 23; refine (bmade HK.out).mono ?_; rintro e w1 ⟨rfl, rfl⟩)
  refine wp_region_held_drew (S := fun w' => Below V.heap.size V w') (by kernel_rfl) (Below.refl _ V).drew (fun hS => ?_)
  refine held_pure (i := 0) (oi := ⟨some 9, _, _, _, _, _⟩) rfl (by kernel_rfl) (by kernel_rfl) (by kernel_rfl) (fun _ _ _ h => h) (by rfl) (v := ?_) (fun w hSw => ?_) hS (fun hS => ?_)
  rotate_left
  · go_simp; try with_reducible rfl
  try go_frame
  refine held_pure (i := 1) (oi := ⟨some 10, _, _, _, _, _⟩) rfl (by kernel_rfl) (by kernel_rfl) (by kernel_rfl) (fun _ _ _ h => h) (by rfl) (v := ?_) (fun w hSw => ?_) hS (fun hS => ?_)
  rotate_left
  · go_simp; try with_reducible rfl
  try go_frame
  refine held_pure (i := 2) (oi := ⟨some 11, _, _, _, _, _⟩) rfl (by kernel_rfl) (by kernel_rfl) (by kernel_rfl) (fun _ _ _ h => h) (by rfl) (v := ?_) (fun w hSw => ?_) hS (fun hS => ?_)
  rotate_left
  · go_simp; try with_reducible rfl
  try go_frame
  refine held_pure (i := 3) (oi := ⟨some 12, _, _, _, _, _⟩) rfl (by kernel_rfl) (by kernel_rfl) (by kernel_rfl) (fun _ _ _ h => h) (by rfl) (fun w hSw => run_load_pdb rfl rfl (HC.out _ hSw)) hS (fun hS => ?_)
  try go_frame
  refine held_pure (i := 4) (oi := ⟨some 13, _, _, _, _, _⟩) rfl (by kernel_rfl) (by kernel_rfl) (by kernel_rfl) (fun _ _ _ h => h) (by rfl) (fun w hSw => run_load_inn rfl rfl (HR.out _ hSw)) hS (fun hS => ?_)
  try go_frame
  refine wpAnyH_ready (rs := [5]) (by kernel_rfl) (by simp) (AllReadyH.cons (o := ⟨some 14, _, _, _, _, _⟩) rfl (fun K hK => ?_) AllReadyH.nil)
  rw [if_pos (by rfl)]
  go_simp
  refine (binner x V.drew HF.out (HTV.out.step (Below.refl V.heap.size V).drew)).mono ?_
  rintro e w5 ⟨rfl, x5⟩
  have x6 : Below V.heap.size V w5 := (Below.refl V.heap.size V).drew.trans x5
  show K _ _
  refine hK.out _ _ x6 (fun hS => ?_)
  clear hK K
  try go_frame
  refine wpAnyH_ready (rs := [6]) (by kernel_rfl) (by simp) (AllReadyH.cons (o := ⟨some 15, _, _, _, _, _⟩) rfl (fun K hK => ?_) AllReadyH.nil)
  rw [if_pos (by rfl)]
  go_simp
  refine (hm_get_yes (x := ⟨txtN x.inn, (k : Int)⟩) (HK.out.inn.below x6).hm HX.out HLEN.out).mono ?_
  rintro e w7 ⟨rfl, x7⟩
  have x8 := x6.trans (x7.mono x6.size)
  show K _ _
  refine hK.out _ _ x8 (fun hS => ?_)
  clear hK K
  try go_frame
  refine held_pure (i := 7) (oi := ⟨some 16, _, _, _, _, _⟩) rfl (by kernel_rfl) (by kernel_rfl) (by kernel_rfl) (fun _ _ _ h => h) (by rfl) (v := ?_) (fun w hSw => ?_) hS (fun hS => ?_)
  rotate_left
  · go_simp; try with_reducible rfl
  try go_frame
  refine held_pure (i := 8) (oi := ⟨some 17, _, _, _, _, _⟩) rfl (by kernel_rfl) (by kernel_rfl) (by kernel_rfl) (fun _ _ _ h => h) (by rfl) (v := ?_) (fun w hSw => ?_) hS (fun hS => ?_)
  rotate_left
  · go_simp; try with_reducible rfl
  try go_frame
  refine held_pure (i := 9) (oi := ⟨some 4, _, _, _, _, _⟩) rfl (by kernel_rfl) (by kernel_rfl) (by kernel_rfl) (fun _ _ _ h => h) (by rfl) (v := ?_) (fun w hSw => ?_) hS (fun hS => ?_)
  rotate_left
  · go_simp; try with_reducible rfl
  try go_frame
  refine held_pure (i := 10) (oi := ⟨some 5, _, _, _, _, _⟩) rfl (by kernel_rfl) (by kernel_rfl) (by kernel_rfl) (fun _ _ _ h => h) (by rfl) (v := ?_) (fun w hSw => ?_) hS (fun hS => ?_)
  rotate_left
  · go_simp; try with_reducible rfl
  try go_frame
  refine wpAnyH_done (by kernel_rfl) ?_ _
  go_wp2_with fail
  refine bodyPost_ret (results_tmp2 rfl _ _ _) rfl ⟨rfl, bV.trans (hS.mono bV.size)⟩
set_option maxRecDepth 100000 in
theorem bfind_no (h : Db w B0 d t1 b1 t2 b2 A c most S f) (hT : Tabs w) (x : Bd) (hx : x.fits) (hn : ∀ e ∈ docB 0 S, e.2.inn ≠ x.inn) : Calls Tryd.prog 15 #[.pointer (some ⟨d, 0, none⟩), inV x] w fun e w' => e = .returned (.tuple #[.int .i64 0, .bool false]) ∧ Below w.heap.size w w' := by
  have HX : Hid (∀ z ∈ inE (docB 0 S), z.key ≠ txtN x.inn) := Lib.hid (inE_key hn)
  have HLEN : Hid ((txtN x.inn).length ≤ 1000000) := Lib.hid (by have h7 := txtN_len hx.inn; have e7 : (x.inn).length ≤ 4 := (by simp [Bd.inn]); omega)
  obtain ⟨V, hV⟩ : ∃ V, V = w.alloc (.cells (clI x.inn).toArray 32) := ⟨_, rfl⟩
  have bV : Below w.heap.size w V := by rw [hV]; exact (Below.refl _ w).alloc (Nat.le_refl _) _
  have hbV : V.heap[w.heap.size]? = some (.cells (clI x.inn).toArray 32 (0, 0)) := by rw [hV]; exact World.alloc_heap_new w _
  have hrV : V.rangeAt w.heap.size 0 (clI x.inn) := range_heap hbV
  have HK := Lib.hid (h.below bV)
  have HTV := Lib.hid (hT.step bV)
  have k1 := HK.out.c1
  have HC : Hid (∀ U, Below V.heap.size V U → U.cell? ⟨d, 1, none⟩ = some (.pointer (some ⟨t1, 0, none⟩))) := Lib.hid (fun U hU => (HK.out.below hU).c1)
  have HR : Hid (∀ U, Below V.heap.size V U → U.rangeAt w.heap.size 0 (clI x.inn)) := Lib.hid (fun U hU j v hj => (World.cell?_of_block (hU.block w.heap.size (heap_lt hbV))).trans (hrV j v hj))
  have HF := Lib.hid hx
  have HV := Lib.hid (show w.alloc (.cells #[.int .i64 x.s, .int .i64 x.p, .int .i64 x.a, .int .i64 x.o] 32) = V from hV.symm)
  clear h hT hx hV hbV hrV hn
  unfold inV
  go_enter Tryd.func15, Tryd.ntmps15
  go_upto_region 1 with fail
  rw [HV.out]
  go_upto_region 3 with (go_at_call 23; refine (bmade HK.out).mono ?_; rintro e w1 ⟨rfl, rfl⟩)
  refine wp_region_held_drew (S := fun w' => Below V.heap.size V w') (by kernel_rfl) (Below.refl _ V).drew (fun hS => ?_)
  refine held_pure (i := 0) (oi := ⟨some 9, _, _, _, _, _⟩) rfl (by kernel_rfl) (by kernel_rfl) (by kernel_rfl) (fun _ _ _ h => h) (by rfl) (v := ?_) (fun w hSw => ?_) hS (fun hS => ?_)
  rotate_left
  · go_simp; try with_reducible rfl
  try go_frame
  refine held_pure (i := 1) (oi := ⟨some 10, _, _, _, _, _⟩) rfl (by kernel_rfl) (by kernel_rfl) (by kernel_rfl) (fun _ _ _ h => h) (by rfl) (v := ?_) (fun w hSw => ?_) hS (fun hS => ?_)
  rotate_left
  · go_simp; try with_reducible rfl
  try go_frame
  refine held_pure (i := 2) (oi := ⟨some 11, _, _, _, _, _⟩) rfl (by kernel_rfl) (by kernel_rfl) (by kernel_rfl) (fun _ _ _ h => h) (by rfl) (v := ?_) (fun w hSw => ?_) hS (fun hS => ?_)
  rotate_left
  · go_simp; try with_reducible rfl
  try go_frame
  refine held_pure (i := 3) (oi := ⟨some 12, _, _, _, _, _⟩) rfl (by kernel_rfl) (by kernel_rfl) (by kernel_rfl) (fun _ _ _ h => h) (by rfl) (fun w hSw => run_load_pdb rfl rfl (HC.out _ hSw)) hS (fun hS => ?_)
  try go_frame
  refine held_pure (i := 4) (oi := ⟨some 13, _, _, _, _, _⟩) rfl (by kernel_rfl) (by kernel_rfl) (by kernel_rfl) (fun _ _ _ h => h) (by rfl) (fun w hSw => run_load_inn rfl rfl (HR.out _ hSw)) hS (fun hS => ?_)
  try go_frame
  refine wpAnyH_ready (rs := [5]) (by kernel_rfl) (by simp) (AllReadyH.cons (o := ⟨some 14, _, _, _, _, _⟩) rfl (fun K hK => ?_) AllReadyH.nil)
  rw [if_pos (by rfl)]
  go_simp
  refine (binner x V.drew HF.out (HTV.out.step (Below.refl V.heap.size V).drew)).mono ?_
  rintro e w5 ⟨rfl, x5⟩
  have x6 : Below V.heap.size V w5 := (Below.refl V.heap.size V).drew.trans x5
  show K _ _
  refine hK.out _ _ x6 (fun hS => ?_)
  clear hK K
  try go_frame
  refine wpAnyH_ready (rs := [6]) (by kernel_rfl) (by simp) (AllReadyH.cons (o := ⟨some 15, _, _, _, _, _⟩) rfl (fun K hK => ?_) AllReadyH.nil)
  rw [if_pos (by rfl)]
  go_simp
  refine (hm_get_no (key := txtN x.inn) (HK.out.inn.below x6).hm HX.out HLEN.out).mono ?_
  rintro e w7 ⟨rfl, x7⟩
  have x8 := x6.trans (x7.mono x6.size)
  show K _ _
  refine hK.out _ _ x8 (fun hS => ?_)
  clear hK K
  try go_frame
  refine held_pure (i := 7) (oi := ⟨some 16, _, _, _, _, _⟩) rfl (by kernel_rfl) (by kernel_rfl) (by kernel_rfl) (fun _ _ _ h => h) (by rfl) (v := ?_) (fun w hSw => ?_) hS (fun hS => ?_)
  rotate_left
  · go_simp; try with_reducible rfl
  try go_frame
  refine held_pure (i := 8) (oi := ⟨some 17, _, _, _, _, _⟩) rfl (by kernel_rfl) (by kernel_rfl) (by kernel_rfl) (fun _ _ _ h => h) (by rfl) (v := ?_) (fun w hSw => ?_) hS (fun hS => ?_)
  rotate_left
  · go_simp; try with_reducible rfl
  try go_frame
  refine held_pure (i := 9) (oi := ⟨some 4, _, _, _, _, _⟩) rfl (by kernel_rfl) (by kernel_rfl) (by kernel_rfl) (fun _ _ _ h => h) (by rfl) (v := ?_) (fun w hSw => ?_) hS (fun hS => ?_)
  rotate_left
  · go_simp; try with_reducible rfl
  try go_frame
  refine held_pure (i := 10) (oi := ⟨some 5, _, _, _, _, _⟩) rfl (by kernel_rfl) (by kernel_rfl) (by kernel_rfl) (fun _ _ _ h => h) (by rfl) (v := ?_) (fun w hSw => ?_) hS (fun hS => ?_)
  rotate_left
  · go_simp; try with_reducible rfl
  try go_frame
  refine wpAnyH_done (by kernel_rfl) ?_ _
  go_wp2_with fail
  refine bodyPost_ret (results_tmp2 rfl _ _ _) rfl ⟨rfl, bV.trans (hS.mono bV.size)⟩
set_option maxRecDepth 100000 in
theorem bback_yes (h : Db w B0 d t1 b1 t2 b2 A c most S f) (hT : Tabs w) (x : Bd) (hx : x.fits) {k : Nat} {y : Bd} (hy : (k, y) ∈ docB 0 S) (hyx : y.out = x.out) : Calls Tryd.prog 17 #[.pointer (some ⟨d, 0, none⟩), ouV x] w fun e w' => e = .returned (.tuple #[.int .i64 (k : Int), .bool true]) ∧ Below w.heap.size w w' := by
  have HX : Hid ((⟨txtN x.out, (k : Int)⟩ : Ent) ∈ ouE (docB 0 S)) := Lib.hid (List.mem_map.2 ⟨(k, y), hy, by rw [← hyx]⟩)
  have HLEN : Hid ((txtN x.out).length ≤ 1000000) := Lib.hid (by have h7 := txtN_len hx.out; have e7 : (x.out).length ≤ 4 := (by simp [Bd.out]); omega)
  obtain ⟨V, hV⟩ : ∃ V, V = w.alloc (.cells (clI x.out).toArray 34) := ⟨_, rfl⟩
  have bV : Below w.heap.size w V := by rw [hV]; exact (Below.refl _ w).alloc (Nat.le_refl _) _
  have hbV : V.heap[w.heap.size]? = some (.cells (clI x.out).toArray 34 (0, 0)) := by rw [hV]; exact World.alloc_heap_new w _
  have hrV : V.rangeAt w.heap.size 0 (clI x.out) := range_heap hbV
  have HK := Lib.hid (h.below bV)
  have HTV := Lib.hid (hT.step bV)
  have k1 := HK.out.c2
  have HC : Hid (∀ U, Below V.heap.size V U → U.cell? ⟨d, 2, none⟩ = some (.pointer (some ⟨t2, 0, none⟩))) := Lib.hid (fun U hU => (HK.out.below hU).c2)
  have HR : Hid (∀ U, Below V.heap.size V U → U.rangeAt w.heap.size 0 (clI x.out)) := Lib.hid (fun U hU j v hj => (World.cell?_of_block (hU.block w.heap.size (heap_lt hbV))).trans (hrV j v hj))
  have HF := Lib.hid hx
  have HV := Lib.hid (show w.alloc (.cells #[.int .i64 x.q, .int .i64 x.b, .int .i64 x.r] 34) = V from hV.symm)
  clear h hT hx hV hbV hrV hy hyx
  unfold ouV
  go_enter Tryd.func17, Tryd.ntmps17
  go_upto_region 1 with fail
  rw [HV.out]
  go_upto_region 3 with (go_at_call 23; refine (bmade HK.out).mono ?_; rintro e w1 ⟨rfl, rfl⟩)
  refine wp_region_held_drew (S := fun w' => Below V.heap.size V w') (by kernel_rfl) (Below.refl _ V).drew (fun hS => ?_)
  refine held_pure (i := 0) (oi := ⟨some 9, _, _, _, _, _⟩) rfl (by kernel_rfl) (by kernel_rfl) (by kernel_rfl) (fun _ _ _ h => h) (by rfl) (v := ?_) (fun w hSw => ?_) hS (fun hS => ?_)
  rotate_left
  · go_simp; try with_reducible rfl
  try go_frame
  refine held_pure (i := 1) (oi := ⟨some 10, _, _, _, _, _⟩) rfl (by kernel_rfl) (by kernel_rfl) (by kernel_rfl) (fun _ _ _ h => h) (by rfl) (v := ?_) (fun w hSw => ?_) hS (fun hS => ?_)
  rotate_left
  · go_simp; try with_reducible rfl
  try go_frame
  refine held_pure (i := 2) (oi := ⟨some 11, _, _, _, _, _⟩) rfl (by kernel_rfl) (by kernel_rfl) (by kernel_rfl) (fun _ _ _ h => h) (by rfl) (v := ?_) (fun w hSw => ?_) hS (fun hS => ?_)
  rotate_left
  · go_simp; try with_reducible rfl
  try go_frame
  refine held_pure (i := 3) (oi := ⟨some 12, _, _, _, _, _⟩) rfl (by kernel_rfl) (by kernel_rfl) (by kernel_rfl) (fun _ _ _ h => h) (by rfl) (fun w hSw => run_load_pdb rfl rfl (HC.out _ hSw)) hS (fun hS => ?_)
  try go_frame
  refine held_pure (i := 4) (oi := ⟨some 13, _, _, _, _, _⟩) rfl (by kernel_rfl) (by kernel_rfl) (by kernel_rfl) (fun _ _ _ h => h) (by rfl) (fun w hSw => run_load_out rfl rfl (HR.out _ hSw)) hS (fun hS => ?_)
  try go_frame
  refine wpAnyH_ready (rs := [5]) (by kernel_rfl) (by simp) (AllReadyH.cons (o := ⟨some 14, _, _, _, _, _⟩) rfl (fun K hK => ?_) AllReadyH.nil)
  rw [if_pos (by rfl)]
  go_simp
  refine (bouter x V.drew HF.out (HTV.out.step (Below.refl V.heap.size V).drew)).mono ?_
  rintro e w5 ⟨rfl, x5⟩
  have x6 : Below V.heap.size V w5 := (Below.refl V.heap.size V).drew.trans x5
  show K _ _
  refine hK.out _ _ x6 (fun hS => ?_)
  clear hK K
  try go_frame
  refine wpAnyH_ready (rs := [6]) (by kernel_rfl) (by simp) (AllReadyH.cons (o := ⟨some 15, _, _, _, _, _⟩) rfl (fun K hK => ?_) AllReadyH.nil)
  rw [if_pos (by rfl)]
  go_simp
  refine (hm_get_yes (x := ⟨txtN x.out, (k : Int)⟩) (HK.out.out.below x6).hm HX.out HLEN.out).mono ?_
  rintro e w7 ⟨rfl, x7⟩
  have x8 := x6.trans (x7.mono x6.size)
  show K _ _
  refine hK.out _ _ x8 (fun hS => ?_)
  clear hK K
  try go_frame
  refine held_pure (i := 7) (oi := ⟨some 16, _, _, _, _, _⟩) rfl (by kernel_rfl) (by kernel_rfl) (by kernel_rfl) (fun _ _ _ h => h) (by rfl) (v := ?_) (fun w hSw => ?_) hS (fun hS => ?_)
  rotate_left
  · go_simp; try with_reducible rfl
  try go_frame
  refine held_pure (i := 8) (oi := ⟨some 17, _, _, _, _, _⟩) rfl (by kernel_rfl) (by kernel_rfl) (by kernel_rfl) (fun _ _ _ h => h) (by rfl) (v := ?_) (fun w hSw => ?_) hS (fun hS => ?_)
  rotate_left
  · go_simp; try with_reducible rfl
  try go_frame
  refine held_pure (i := 9) (oi := ⟨some 4, _, _, _, _, _⟩) rfl (by kernel_rfl) (by kernel_rfl) (by kernel_rfl) (fun _ _ _ h => h) (by rfl) (v := ?_) (fun w hSw => ?_) hS (fun hS => ?_)
  rotate_left
  · go_simp; try with_reducible rfl
  try go_frame
  refine held_pure (i := 10) (oi := ⟨some 5, _, _, _, _, _⟩) rfl (by kernel_rfl) (by kernel_rfl) (by kernel_rfl) (fun _ _ _ h => h) (by rfl) (v := ?_) (fun w hSw => ?_) hS (fun hS => ?_)
  rotate_left
  · go_simp; try with_reducible rfl
  try go_frame
  refine wpAnyH_done (by kernel_rfl) ?_ _
  go_wp2_with fail
  refine bodyPost_ret (results_tmp2 rfl _ _ _) rfl ⟨rfl, bV.trans (hS.mono bV.size)⟩
set_option maxRecDepth 100000 in
theorem bback_no (h : Db w B0 d t1 b1 t2 b2 A c most S f) (hT : Tabs w) (x : Bd) (hx : x.fits) (hn : ∀ e ∈ docB 0 S, e.2.out ≠ x.out) : Calls Tryd.prog 17 #[.pointer (some ⟨d, 0, none⟩), ouV x] w fun e w' => e = .returned (.tuple #[.int .i64 0, .bool false]) ∧ Below w.heap.size w w' := by
  have HX : Hid (∀ z ∈ ouE (docB 0 S), z.key ≠ txtN x.out) := Lib.hid (ouE_key hn)
  have HLEN : Hid ((txtN x.out).length ≤ 1000000) := Lib.hid (by have h7 := txtN_len hx.out; have e7 : (x.out).length ≤ 4 := (by simp [Bd.out]); omega)
  obtain ⟨V, hV⟩ : ∃ V, V = w.alloc (.cells (clI x.out).toArray 34) := ⟨_, rfl⟩
  have bV : Below w.heap.size w V := by rw [hV]; exact (Below.refl _ w).alloc (Nat.le_refl _) _
  have hbV : V.heap[w.heap.size]? = some (.cells (clI x.out).toArray 34 (0, 0)) := by rw [hV]; exact World.alloc_heap_new w _
  have hrV : V.rangeAt w.heap.size 0 (clI x.out) := range_heap hbV
  have HK := Lib.hid (h.below bV)
  have HTV := Lib.hid (hT.step bV)
  have k1 := HK.out.c2
  have HC : Hid (∀ U, Below V.heap.size V U → U.cell? ⟨d, 2, none⟩ = some (.pointer (some ⟨t2, 0, none⟩))) := Lib.hid (fun U hU => (HK.out.below hU).c2)
  have HR : Hid (∀ U, Below V.heap.size V U → U.rangeAt w.heap.size 0 (clI x.out)) := Lib.hid (fun U hU j v hj => (World.cell?_of_block (hU.block w.heap.size (heap_lt hbV))).trans (hrV j v hj))
  have HF := Lib.hid hx
  have HV := Lib.hid (show w.alloc (.cells #[.int .i64 x.q, .int .i64 x.b, .int .i64 x.r] 34) = V from hV.symm)
  clear h hT hx hV hbV hrV hn
  unfold ouV
  go_enter Tryd.func17, Tryd.ntmps17
  go_upto_region 1 with fail
  rw [HV.out]
  go_upto_region 3 with (go_at_call 23; refine (bmade HK.out).mono ?_; rintro e w1 ⟨rfl, rfl⟩)
  refine wp_region_held_drew (S := fun w' => Below V.heap.size V w') (by kernel_rfl) (Below.refl _ V).drew (fun hS => ?_)
  refine held_pure (i := 0) (oi := ⟨some 9, _, _, _, _, _⟩) rfl (by kernel_rfl) (by kernel_rfl) (by kernel_rfl) (fun _ _ _ h => h) (by rfl) (v := ?_) (fun w hSw => ?_) hS (fun hS => ?_)
  rotate_left
  · go_simp; try with_reducible rfl
  try go_frame
  refine held_pure (i := 1) (oi := ⟨some 10, _, _, _, _, _⟩) rfl (by kernel_rfl) (by kernel_rfl) (by kernel_rfl) (fun _ _ _ h => h) (by rfl) (v := ?_) (fun w hSw => ?_) hS (fun hS => ?_)
  rotate_left
  · go_simp; try with_reducible rfl
  try go_frame
  refine held_pure (i := 2) (oi := ⟨some 11, _, _, _, _, _⟩) rfl (by kernel_rfl) (by kernel_rfl) (by kernel_rfl) (fun _ _ _ h => h) (by rfl) (v := ?_) (fun w hSw => ?_) hS (fun hS => ?_)
  rotate_left
  · go_simp; try with_reducible rfl
  try go_frame
  refine held_pure (i := 3) (oi := ⟨some 12, _, _, _, _, _⟩) rfl (by kernel_rfl) (by kernel_rfl) (by kernel_rfl) (fun _ _ _ h => h) (by rfl) (fun w hSw => run_load_pdb rfl rfl (HC.out _ hSw)) hS (fun hS => ?_)
  try go_frame
  refine held_pure (i := 4) (oi := ⟨some 13, _, _, _, _, _⟩) rfl (by kernel_rfl) (by kernel_rfl) (by kernel_rfl) (fun _ _ _ h => h) (by rfl) (fun w hSw => run_load_out rfl rfl (HR.out _ hSw)) hS (fun hS => ?_)
  try go_frame
  refine wpAnyH_ready (rs := [5]) (by kernel_rfl) (by simp) (AllReadyH.cons (o := ⟨some 14, _, _, _, _, _⟩) rfl (fun K hK => ?_) AllReadyH.nil)
  rw [if_pos (by rfl)]
  go_simp
  refine (bouter x V.drew HF.out (HTV.out.step (Below.refl V.heap.size V).drew)).mono ?_
  rintro e w5 ⟨rfl, x5⟩
  have x6 : Below V.heap.size V w5 := (Below.refl V.heap.size V).drew.trans x5
  show K _ _
  refine hK.out _ _ x6 (fun hS => ?_)
  clear hK K
  try go_frame
  refine wpAnyH_ready (rs := [6]) (by kernel_rfl) (by simp) (AllReadyH.cons (o := ⟨some 15, _, _, _, _, _⟩) rfl (fun K hK => ?_) AllReadyH.nil)
  rw [if_pos (by rfl)]
  go_simp
  refine (hm_get_no (key := txtN x.out) (HK.out.out.below x6).hm HX.out HLEN.out).mono ?_
  rintro e w7 ⟨rfl, x7⟩
  have x8 := x6.trans (x7.mono x6.size)
  show K _ _
  refine hK.out _ _ x8 (fun hS => ?_)
  clear hK K
  try go_frame
  refine held_pure (i := 7) (oi := ⟨some 16, _, _, _, _, _⟩) rfl (by kernel_rfl) (by kernel_rfl) (by kernel_rfl) (fun _ _ _ h => h) (by rfl) (v := ?_) (fun w hSw => ?_) hS (fun hS => ?_)
  rotate_left
  · go_simp; try with_reducible rfl
  try go_frame
  refine held_pure (i := 8) (oi := ⟨some 17, _, _, _, _, _⟩) rfl (by kernel_rfl) (by kernel_rfl) (by kernel_rfl) (fun _ _ _ h => h) (by rfl) (v := ?_) (fun w hSw => ?_) hS (fun hS => ?_)
  rotate_left
  · go_simp; try with_reducible rfl
  try go_frame
  refine held_pure (i := 9) (oi := ⟨some 4, _, _, _, _, _⟩) rfl (by kernel_rfl) (by kernel_rfl) (by kernel_rfl) (fun _ _ _ h => h) (by rfl) (v := ?_) (fun w hSw => ?_) hS (fun hS => ?_)
  rotate_left
  · go_simp; try with_reducible rfl
  try go_frame
  refine held_pure (i := 10) (oi := ⟨some 5, _, _, _, _, _⟩) rfl (by kernel_rfl) (by kernel_rfl) (by kernel_rfl) (fun _ _ _ h => h) (by rfl) (v := ?_) (fun w hSw => ?_) hS (fun hS => ?_)
  rotate_left
  · go_simp; try with_reducible rfl
  try go_frame
  refine wpAnyH_done (by kernel_rfl) ?_ _
  go_wp2_with fail
  refine bodyPost_ret (results_tmp2 rfl _ _ _) rfl ⟨rfl, bV.trans (hS.mono bV.size)⟩
theorem fndI_some {l : List (Nat × Bd)} {x : Bd} {e : Nat × Bd} (h : fndI l x = some e) : e ∈ l ∧ e.2.inn = x.inn := ⟨List.mem_of_find?_eq_some h, by simpa using List.find?_some h⟩
theorem fndO_some {l : List (Nat × Bd)} {x : Bd} {e : Nat × Bd} (h : fndO l x = some e) : e ∈ l ∧ e.2.out = x.out := ⟨List.mem_of_find?_eq_some h, by simpa using List.find?_some h⟩
theorem fndI_none {l : List (Nat × Bd)} {x : Bd} (h : fndI l x = none) : ∀ e ∈ l, e.2.inn ≠ x.inn := fun e he => by simpa using List.find?_eq_none.1 h e he
theorem fndO_none {l : List (Nat × Bd)} {x : Bd} (h : fndO l x = none) : ∀ e ∈ l, e.2.out ≠ x.out := fun e he => by simpa using List.find?_eq_none.1 h e he
theorem bfind (h : Db w B0 d t1 b1 t2 b2 A c most S f) (hT : Tabs w) (x : Bd) (hx : x.fits) : Calls Tryd.prog 15 #[.pointer (some ⟨d, 0, none⟩), inV x] w fun e w' =>
    e = .returned (.tuple #[.int .i64 (numE (fndI (docB 0 S) x)), .bool (fndI (docB 0 S) x).isSome]) ∧ Below w.heap.size w w' := by
  cases hf : fndI (docB 0 S) x with
  | none => exact bfind_no h hT x hx (fndI_none hf)
  | some e => exact bfind_yes h hT x hx (k := e.1) (y := e.2) (fndI_some hf).1 (fndI_some hf).2
theorem bback (h : Db w B0 d t1 b1 t2 b2 A c most S f) (hT : Tabs w) (x : Bd) (hx : x.fits) : Calls Tryd.prog 17 #[.pointer (some ⟨d, 0, none⟩), ouV x] w fun e w' =>
    e = .returned (.tuple #[.int .i64 (numE (fndO (docB 0 S) x)), .bool (fndO (docB 0 S) x).isSome]) ∧ Below w.heap.size w w' := by
  cases hf : fndO (docB 0 S) x with
  | none => exact bback_no h hT x hx (fndO_none hf)
  | some e => exact bback_yes h hT x hx (k := e.1) (y := e.2) (fndO_some hf).1 (fndO_some hf).2
set_option maxRecDepth 100000 in
theorem bhas (h : Db w B0 d t1 b1 t2 b2 A c most S f) (hT : Tabs w) (x : Bd) (hx : x.fits) : Calls Tryd.prog 24 #[.pointer (some ⟨d, 0, none⟩), bdV x] w fun e w' =>
    e = .returned (.bool ((fndI (docB 0 S) x).isSome || (fndO (docB 0 S) x).isSome)) ∧ Below w.heap.size w w' := by
  obtain ⟨V, hV⟩ : ∃ V, V = w.alloc (.cells (clBd x).toArray 36) := ⟨_, rfl⟩
  have bV : Below w.heap.size w V := by rw [hV]; exact (Below.refl _ w).alloc (Nat.le_refl _) _
  have hbV : V.heap[w.heap.size]? = some (.cells (clBd x).toArray 36 (0, 0)) := by rw [hV]; exact World.alloc_heap_new w _
  have HBX := Lib.hid hbV
  have hr0 : V.rangeAt w.heap.size 0 (clI x.inn) := fun j v hj => range_heap hbV j v (by
    match j, hj with
    | 0, h => exact h
    | 1, h => exact h
    | 2, h => exact h
    | 3, h => exact h)
  have HR : Hid (∀ U, Below V.heap.size V U → U.rangeAt w.heap.size 4 (clI x.out)) := Lib.hid (fun U hU j v hj => (World.cell?_of_block (hU.block w.heap.size (heap_lt HBX.out))).trans (cells_at HBX.out (by
    match j, hj with
    | 0, h => exact h
    | 1, h => exact h
    | 2, h => exact h)))
  have HK := Lib.hid (h.below bV)
  have HTV := Lib.hid (hT.step bV)
  have HF := Lib.hid hx
  have HV := Lib.hid (show w.alloc (.cells #[.int .i64 x.s, .int .i64 x.p, .int .i64 x.a, .int .i64 x.o, .int .i64 x.q, .int .i64 x.b, .int .i64 x.r, .bool x.st] 36) = V from hV.symm)
  obtain ⟨P, hP⟩ : ∃ P, P = (fndI (docB 0 S) x).isSome := ⟨_, rfl⟩
  obtain ⟨Q, hQ⟩ : ∃ Q, Q = (fndO (docB 0 S) x).isSome := ⟨_, rfl⟩
  have HP := Lib.hid hP
  have HQQ := Lib.hid hQ
  rw [← hP, ← hQ]
  clear h hT hx hV hbV hP hQ
  unfold bdV clBd
  cases P with
  | true =>
    go_enter Tryd.func24, Tryd.ntmps24
    go_upto_region 1 with fail
    rw [HV.out]
    go_wp2_with (first
      | ((with_reducible show wpList _ _ _ (Oper.mk _ (Op.load 32 _) _ _ _ _ :: _) _ _); refine wpList_val rfl (run_load_inn rfl rfl hr0) ?_)
      | ((with_reducible show wpList _ _ _ (Oper.mk _ (Op.load 34 _) _ _ _ _ :: _) _ _); refine wpList_val rfl (run_load_out rfl rfl (HR.out _ x3)) ?_)
      | (go_at_call 15; refine (bfind HK.out HTV.out x HF.out).mono ?_; rintro e w3 ⟨rfl, x3⟩; rw [← HP.out])
      | (go_at_call 17; refine (bback (HK.out.below x3) (HTV.out.step x3) x HF.out).mono ?_; rintro e w4 ⟨rfl, x4⟩; rw [← HQQ.out]))
    go_ret
    exact ⟨rfl, (bV.trans (x3.mono bV.size)).trans (x4.mono (Nat.le_trans bV.size x3.size))⟩
  | false =>
    go_enter Tryd.func24, Tryd.ntmps24
    go_upto_region 1 with fail
    rw [HV.out]
    go_wp2_with (first
      | ((with_reducible show wpList _ _ _ (Oper.mk _ (Op.load 32 _) _ _ _ _ :: _) _ _); refine wpList_val rfl (run_load_inn rfl rfl hr0) ?_)
      | ((with_reducible show wpList _ _ _ (Oper.mk _ (Op.load 34 _) _ _ _ _ :: _) _ _); refine wpList_val rfl (run_load_out rfl rfl (HR.out _ x3)) ?_)
      | (go_at_call 15; refine (bfind HK.out HTV.out x HF.out).mono ?_; rintro e w3 ⟨rfl, x3⟩; rw [← HP.out])
      | (go_at_call 17; refine (bback (HK.out.below x3) (HTV.out.step x3) x HF.out).mono ?_; rintro e w4 ⟨rfl, x4⟩; rw [← HQQ.out]))
    go_ret
    exact ⟨by rw [Bool.false_or]; rfl, (bV.trans (x3.mono bV.size)).trans (x4.mono (Nat.le_trans bV.size x3.size))⟩
end
end Go.Proofs.YtafidbjaeopciaaDoor

/-
  Layer 22's code: what lies in memory while bindings are changed, step by step; what a change leaves alone. Conditions are each theorem's own.
-/
namespace Go.Proofs.YtafidbjaeopciaaDoor
open Go.RowKit Go.Shelf
/-! ### Cells of one element set in a row -/
def splL : List Value → Nat → List Value → List Value
  | l, _, [] => l
  | l, o, v :: vs => splL (l.set o v) (o + 1) vs
theorem splL_len : ∀ (vs l : List Value) (o : Nat), (splL l o vs).length = l.length
  | [], _, _ => rfl
  | v :: vs, l, o => by rw [splL, splL_len vs]; simp
theorem splL_get : ∀ (vs l : List Value) (o j : Nat), o + vs.length ≤ l.length → (splL l o vs)[j]? = if o ≤ j ∧ j < o + vs.length then vs[j - o]? else l[j]?
  | [], l, o, j, _ => by rw [splL, if_neg (by simp)]
  | v :: vs, l, o, j, h => by
    rw [List.length_cons] at h
    rw [splL, splL_get vs (l.set o v) (o + 1) j (by rw [List.length_set]; omega), List.length_cons]
    by_cases h1 : o + 1 ≤ j ∧ j < o + 1 + vs.length
    · rw [if_pos h1, if_pos (by omega), show j - o = (j - (o + 1)) + 1 from by omega, List.getElem?_cons_succ]
    · rw [if_neg h1]
      by_cases h2 : j = o
      · subst h2
        rw [if_pos (by omega), Nat.sub_self, List.getElem?_cons_zero, List.getElem?_set, if_pos rfl, if_pos (by omega)]
      · rw [if_neg (by omega), List.getElem?_set, if_neg (by omega)]
theorem splL_take : ∀ (vs l : List Value) (o m : Nat), (splL l o vs).take m = splL (l.take m) o vs
  | [], _, _, _ => rfl
  | v :: vs, l, o, m => by rw [splL, splL, splL_take vs, List.take_set]
theorem heap_setCellsL {T : TypeId} (b : Nat) : ∀ (vs : List Value) (o : Nat) (w : World) (cur : Array Value), w.heap[b]? = some (.cells cur T (0, 0)) → (w.setCells b o vs).heap[b]? = some (.cells (splL cur.toList o vs).toArray T (0, 0))
  | [], _, _, cur, h => by rw [splL, Array.toArray_toList]; exact h
  | v :: vs, o, w, cur, h => by
    have h1 := heap_setCellsL b vs (o + 1) (w.setCell ⟨b, o, none⟩ v) _ (heap_setCell_same w b o cur T v h)
    rw [splL]
    rw [Array.toList_setIfInBounds] at h1
    exact h1
section
variable {α : Type} {cl : α → List Value} {sz : Nat}
theorem flat_set (hl : ∀ x, (cl x).length = sz) (hz : 0 < sz) (S : List α) (i : Nat) (x : α) (hi : i < S.length) : splL (S.flatMap cl) (i * sz) (cl x) = (S.set i x).flatMap cl := by
  have e1 := flat_len (cl := cl) S (fun y _ => hl y)
  have e2 := flat_len (cl := cl) (S.set i x) (fun y _ => hl y)
  rw [List.length_set] at e2
  have hle : i * sz + sz ≤ S.length * sz := by
    have := Nat.mul_le_mul_right sz (show i + 1 ≤ S.length from hi)
    rwa [Nat.add_mul, Nat.one_mul] at this
  apply List.ext_getElem?
  intro j
  rw [splL_get _ _ _ _ (by rw [hl, e1]; exact hle), hl]
  by_cases hj : j < S.length * sz
  · have ha : j / sz < S.length := (Nat.div_lt_iff_lt_mul hz).2 hj
    have hr : j % sz < sz := Nat.mod_lt _ hz
    have hjj : j / sz * sz + j % sz = j := by rw [Nat.mul_comm]; exact Nat.div_add_mod j sz
    obtain ⟨y, hy⟩ : ∃ y, (S.set i x)[j / sz]? = some y := ⟨_, List.getElem?_eq_getElem (by rw [List.length_set]; exact ha)⟩
    have g1 := flat_at (cl := cl) (sz := sz) (S.set i x) (fun z _ => hl z) (j / sz) y hy (j % sz) _ (List.getElem?_eq_getElem (by rw [hl]; exact hr))
    rw [hjj] at g1
    rw [g1]
    rw [List.getElem?_set] at hy
    by_cases hi2 : i = j / sz
    · rw [if_pos hi2, if_pos (by omega)] at hy
      obtain rfl := Option.some.inj hy
      rw [hi2, if_pos (by omega), show j - j / sz * sz = j % sz from by omega]
      exact List.getElem?_eq_getElem _
    · rw [if_neg hi2] at hy
      have g2 := flat_at (cl := cl) (sz := sz) S (fun z _ => hl z) (j / sz) y hy (j % sz) _ (List.getElem?_eq_getElem (by rw [hl]; exact hr))
      rw [hjj] at g2
      rw [if_neg ?_, g2]
      rintro ⟨h1, h2⟩
      apply hi2
      have h3 : i * sz ≤ j := h1
      have h4 : j < (i + 1) * sz := by rw [Nat.add_mul, Nat.one_mul]; exact h2
      have h5 : i ≤ j / sz := (Nat.le_div_iff_mul_le hz).2 h3
      have h6 : j / sz < i + 1 := (Nat.div_lt_iff_lt_mul hz).2 h4
      omega
  · rw [if_neg (by omega), List.getElem?_eq_none (by rw [e1]; omega), List.getElem?_eq_none (by rw [e2]; omega)]
theorem own_setS {w : World} {base e g n c : Nat} {S : List α} (hl : ∀ x, (cl x).length = sz) (hz : 0 < sz) (h : w.ownsRow base e sz (.slice (some ⟨g, 0, none⟩) n c) n (S.flatMap cl)) (hn : n = S.length) {i : Nat} (hi : i < S.length) (x : α) :
    (w.setCells g (i * sz) (cl x)).ownsRow base e sz (.slice (some ⟨g, 0, none⟩) n c) n ((S.set i x).flatMap cl) ∧ w.there g (i * sz) sz ∧ base ≤ g ∧ ∃ cur, w.heap[g]? = some (.cells cur e (0, 0)) := by
  rcases h.2 with ⟨h0, _⟩ | ⟨k, cap, cur, hv, hb, hh, hle, hm, hs, ht⟩
  · cases h0
  · cases hv
    have hlen := flat_len (cl := cl) (S.set i x) (fun y _ => hl y)
    rw [List.length_set] at hlen
    have hnc : n * sz ≤ c * sz := Nat.mul_le_mul_right sz hle
    have hii : i * sz + sz ≤ n * sz := by
      have := Nat.mul_le_mul_right sz (show i + 1 ≤ n by omega)
      rwa [Nat.add_mul, Nat.one_mul] at this
    refine ⟨⟨by rw [hlen, hn], .inr ⟨g, c, _, rfl, hb, heap_setCellsL g _ _ w cur hh, hle, hm, by rw [List.size_toArray, splL_len, Array.length_toList, hs], ?_⟩⟩, fun j hj => ⟨?_, heap_frozen hh _⟩, hb, ⟨cur, hh⟩⟩
    · show (splL cur.toList (i * sz) (cl x)).take (n * sz) = _
      rw [splL_take, ht, flat_set hl hz S i x hi]
    · rw [cell_of_row _ _ _ _ _ _ hh, Array.getElem?_eq_getElem (by rw [hs]; omega)]; rfl
end
/-! ### What a change leaves alone -/
def T4 (ty : TypeId) : Prop := ty = 59 ∨ ty = 68 ∨ ty = 80 ∨ ty = 85
structure FB (B0 : Nat) (X Y : World) : Prop where
  b : Below B0 X Y
  size : X.heap.size ≤ Y.heap.size
  k : ∀ (i : Nat) (cs : Array Value) (ty : TypeId) (fr : Nat × Nat), X.heap[i]? = some (.cells cs ty fr) → ¬ T4 ty → Y.heap[i]? = X.heap[i]?
section
variable {X Y Z : World} {B0 : Nat}
theorem FB.trans (h : FB B0 X Y) (k : FB B0 Y Z) : FB B0 X Z :=
  ⟨h.b.trans k.b, Nat.le_trans h.size k.size, fun i cs ty fr hi hn => (k.k i cs ty fr ((h.k i cs ty fr hi hn).trans hi) hn).trans (h.k i cs ty fr hi hn)⟩
theorem FB.of_below (h : Below X.heap.size X Y) (hB : B0 ≤ X.heap.size) : FB B0 X Y := ⟨h.mono hB, h.size, fun _ _ _ _ hi _ => h.block _ (heap_lt hi)⟩
theorem FB.of_kept {S : Nat → Prop} (h : Kept S X Y) (hB : B0 ≤ X.heap.size) (hS : ∀ i, S i → B0 ≤ i ∧ ∃ cs ty, X.heap[i]? = some (.cells cs ty (0, 0)) ∧ T4 ty) : FB B0 X Y := by
  refine ⟨h.below hB (fun i hi => (hS i hi).1), h.size, fun i cs ty fr hi hn => h.block i (heap_lt hi) (fun hs => ?_)⟩
  obtain ⟨_, cs', ty', h1, h2⟩ := hS i hs
  rw [hi] at h1
  injection h1 with h1
  injection h1 with _ e2 _
  exact hn (e2 ▸ h2)
theorem FB.of_one {g : Nat} {cs : Array Value} {ty : TypeId} (h : Kept (fun i => i = g) X Y) (hB : B0 ≤ X.heap.size) (hg : B0 ≤ g) (ho : X.heap[g]? = some (.cells cs ty (0, 0))) (ht : T4 ty) : FB B0 X Y :=
  FB.of_kept h hB (fun i hi => by have hi : i = g := hi; subst hi; exact ⟨hg, cs, ty, ho, ht⟩)
theorem FB.heap {i : Nat} {cs : Array Value} {ty : TypeId} {fr : Nat × Nat} (h : FB B0 X Y) (hi : X.heap[i]? = some (.cells cs ty fr)) (hn : ¬ T4 ty) : Y.heap[i]? = some (.cells cs ty fr) := (h.k i cs ty fr hi hn).trans hi
end
theorem t4_no : ¬ T4 36 ∧ ¬ T4 65 ∧ ¬ T4 73 ∧ ¬ T4 38 := by
  refine ⟨?_, ?_, ?_, ?_⟩ <;> (rintro (h | h | h | h) <;> exact absurd h (nat_ne (by kernel_rfl)))
/-- The library's tables lie below B0. -/
def TB0 (B0 : Nat) (w : World) : Prop := ∀ W, Below B0 w W → Tabs W
theorem TB0.here {B0 : Nat} {w : World} (h : TB0 B0 w) : Tabs w := h w (Below.refl _ _)
theorem TB0.step {B0 : Nat} {w w' : World} (h : TB0 B0 w) (hb : Below B0 w w') : TB0 B0 w' := fun W hW => h W (hb.trans hW)
theorem TB0.of {B0 : Nat} {w w' : World} (h : Tabs w) (hB : w.heap.size ≤ B0) (hb : Below B0 w w') : TB0 B0 w' := fun _ hW => h.below (hb.trans hW) hB
/-! ### Bindings in memory -/
structure Dm (w : World) (B0 d t1 b1 t2 b2 : Nat) (A : Option Addr) (c : Nat) (most : Int) (S : List (Option Bd)) (f : Nat) (M1 M2 : List Ent) : Prop where
  obj : w.heap[d]? = some (.cells #[.slice A S.length c, .pointer (some ⟨t1, 0, none⟩), .pointer (some ⟨t2, 0, none⟩), .int .i64 most, .int .i64 (f : Int)] 59 (0, 0))
  own : w.ownsRow B0 68 9 (.slice A S.length c) S.length (S.flatMap clSl)
  inn : HQ w B0 t1 b1 most M1
  out : HQ w B0 t2 b2 most M2
  z : B0 ≤ d
  ap : t1 ≠ t2 ∧ b1 ≠ b2
section
variable {w w' : World} {B0 d t1 b1 t2 b2 : Nat} {A : Option Addr} {c : Nat} {most : Int} {S : List (Option Bd)} {f : Nat} {M1 M2 : List Ent}
theorem Db.dm (h : Db w B0 d t1 b1 t2 b2 A c most S f) : Dm w B0 d t1 b1 t2 b2 A c most S f (inE (docB 0 S)) (ouE (docB 0 S)) := ⟨h.obj, h.own, h.inn, h.out, h.z, h.ap⟩
theorem Dm.c0 (h : Dm w B0 d t1 b1 t2 b2 A c most S f M1 M2) : w.cell? ⟨d, 0, none⟩ = some (.slice A S.length c) := cells_at h.obj rfl
theorem Dm.c1 (h : Dm w B0 d t1 b1 t2 b2 A c most S f M1 M2) : w.cell? ⟨d, 1, none⟩ = some (.pointer (some ⟨t1, 0, none⟩)) := cells_at h.obj rfl
theorem Dm.c2 (h : Dm w B0 d t1 b1 t2 b2 A c most S f M1 M2) : w.cell? ⟨d, 2, none⟩ = some (.pointer (some ⟨t2, 0, none⟩)) := cells_at h.obj rfl
theorem Dm.c4 (h : Dm w B0 d t1 b1 t2 b2 A c most S f M1 M2) : w.cell? ⟨d, 4, none⟩ = some (.int .i64 (f : Int)) := cells_at h.obj rfl
theorem Dm.fr (h : Dm w B0 d t1 b1 t2 b2 A c most S f M1 M2) (i : Nat) : w.frozen? ⟨d, i, none⟩ = false := heap_frozen h.obj i
theorem Dm.below (h : Dm w B0 d t1 b1 t2 b2 A c most S f M1 M2) (hb : Below w.heap.size w w') : Dm w' B0 d t1 b1 t2 b2 A c most S f M1 M2 :=
  ⟨(hb.block d (heap_lt h.obj)).trans h.obj, own_below h.own hb, h.inn.below hb, h.out.below hb, h.z, h.ap⟩
theorem Dm.rds (h : Dm w B0 d t1 b1 t2 b2 A c most S f M1 M2) : RdS clSl 9 w w.heap.size A S := by
  obtain ⟨A', c', e, hr, hc⟩ := own_rds h.own rfl rfl (fun o _ => clSl_len o)
  injection e with e1 e2 e3
  rw [e1]; exact hr
theorem heap_ty {g g' : Nat} {cs cs' : Array Value} {ty ty' : TypeId} {fr fr' : Nat × Nat} (h : w.heap[g]? = some (.cells cs ty fr)) (h' : w.heap[g']? = some (.cells cs' ty' fr')) (hne : ty ≠ ty') : g ≠ g' := fun e => by
  subst e
  rw [h] at h'
  injection h' with h'
  injection h' with _ e2 _
  exact hne e2
theorem own_kept1 {base e sz n : Nat} {v : Value} {xs : List Value} {g : Nat} {cs : Array Value} {ty : TypeId} (h : w.ownsRow base e sz v n xs) (k : Kept (fun i => i = g) w w') (hg : w.heap[g]? = some (.cells cs ty (0, 0))) (hne : ty ≠ e) : w'.ownsRow base e sz v n xs := by
  refine ⟨h.1, ?_⟩
  rcases h.2 with h1 | ⟨g', cap, cur, hv, hb, hh, rest⟩
  · exact .inl h1
  · exact .inr ⟨g', cap, cur, hv, hb, (k.block g' (heap_lt hh) (fun e2 => heap_ty hh hg (fun e3 => hne e3.symm) e2)).trans hh, rest⟩
theorem own_kt {base e sz n t b : Nat} {v : Value} {xs : List Value} (h : w.ownsRow base e sz v n xs) (k : KT t b w w') (h1 : ∃ cs, w.heap[t]? = some (.cells cs 80 (0, 0))) (h2 : ∃ cs, w.heap[b]? = some (.cells cs 85 (0, 0))) (n1 : e ≠ 80) (n2 : e ≠ 85) : w'.ownsRow base e sz v n xs := by
  obtain ⟨cs1, h1⟩ := h1
  obtain ⟨cs2, h2⟩ := h2
  refine ⟨h.1, ?_⟩
  rcases h.2 with h3 | ⟨g', cap, cur, hv, hb, hh, rest⟩
  · exact .inl h3
  · refine .inr ⟨g', cap, cur, hv, hb, (k.block g' (heap_lt hh) ?_).trans hh, rest⟩
    rintro (e2 | e2)
    · exact heap_ty hh h1 n1 e2
    · exact heap_ty hh h2 n2 e2
/-- A cell of the block d is set. -/
theorem Dm.seti (h : Dm w B0 d t1 b1 t2 b2 A c most S f M1 M2) {f' : Nat} : Dm (w.setCell ⟨d, 4, none⟩ (.int .i64 (f' : Int))) B0 d t1 b1 t2 b2 A c most S f' M1 M2 ∧ FB B0 w (w.setCell ⟨d, 4, none⟩ (.int .i64 (f' : Int))) := by
  have k := Kept.setCell w d 4 (.int .i64 (f' : Int))
  obtain ⟨⟨c1, i1⟩, c2, i2⟩ := h.inn.tab
  obtain ⟨⟨c3, i3⟩, c4, i4⟩ := h.out.tab
  refine ⟨⟨heap_setCell_same w d 4 _ _ _ h.obj, own_kept1 h.own k h.obj (nat_ne (by kernel_rfl)), h.inn.kept k (heap_ty i1 h.obj (nat_ne (by kernel_rfl))) (heap_ty i2 h.obj (nat_ne (by kernel_rfl))), h.out.kept k (heap_ty i3 h.obj (nat_ne (by kernel_rfl))) (heap_ty i4 h.obj (nat_ne (by kernel_rfl))), h.z, h.ap⟩,
    FB.of_one k (Nat.le_trans h.z (Nat.le_of_lt (heap_lt h.obj))) h.z h.obj (.inl rfl)⟩
/-- The slice of slots is another one, which owns its row. -/
theorem Dm.grow (h : Dm w B0 d t1 b1 t2 b2 A c most S f M1 M2) {A' : Option Addr} {n' c' : Nat} {S' : List (Option Bd)} (ho : w.ownsRow B0 68 9 (.slice A' n' c') n' (S'.flatMap clSl)) (hn : n' = S'.length) :
    Dm (w.setCell ⟨d, 0, none⟩ (.slice A' n' c')) B0 d t1 b1 t2 b2 A' c' most S' f M1 M2 ∧ FB B0 w (w.setCell ⟨d, 0, none⟩ (.slice A' n' c')) := by
  subst hn
  have k := Kept.setCell w d 0 (.slice A' S'.length c')
  obtain ⟨⟨c1, i1⟩, c2, i2⟩ := h.inn.tab
  obtain ⟨⟨c3, i3⟩, c4, i4⟩ := h.out.tab
  refine ⟨⟨heap_setCell_same w d 0 _ _ _ h.obj, own_kept1 ho k h.obj (nat_ne (by kernel_rfl)), h.inn.kept k (heap_ty i1 h.obj (nat_ne (by kernel_rfl))) (heap_ty i2 h.obj (nat_ne (by kernel_rfl))), h.out.kept k (heap_ty i3 h.obj (nat_ne (by kernel_rfl))) (heap_ty i4 h.obj (nat_ne (by kernel_rfl))), h.z, h.ap⟩,
    FB.of_one k (Nat.le_trans h.z (Nat.le_of_lt (heap_lt h.obj))) h.z h.obj (.inl rfl)⟩
/-- A slot is set. -/
theorem Dm.slot (h : Dm w B0 d t1 b1 t2 b2 A c most S f M1 M2) {i : Nat} (hi : i < S.length) (o : Option Bd) :
    ∃ g, A = some ⟨g, 0, none⟩ ∧ w.there g (i * 9) 9 ∧ Dm (w.setCells g (i * 9) (clSl o)) B0 d t1 b1 t2 b2 A c most (S.set i o) f M1 M2 ∧ FB B0 w (w.setCells g (i * 9) (clSl o)) ∧ Kept (fun k => k = g) w (w.setCells g (i * 9) (clSl o)) ∧ d ≠ g ∧ ∃ cur, w.heap[g]? = some (.cells cur 68 (0, 0)) := by
  rcases h.own.2 with ⟨_, h0⟩ | ⟨g, cap, cur, hv, hb, hh, _⟩
  · omega
  · injection hv with e1 e2 e3
    subst e1; subst e3
    obtain ⟨q1, q2, q3, q4⟩ := own_setS (cl := clSl) (sz := 9) clSl_len (by decide) h.own rfl hi o
    have k := Kept.setCells g (clSl o) (i * 9) w
    obtain ⟨⟨c1, i1⟩, c2, i2⟩ := h.inn.tab
    obtain ⟨⟨c3, i3⟩, c4, i4⟩ := h.out.tab
    have hdg := heap_ty h.obj hh (nat_ne (by kernel_rfl))
    refine ⟨g, rfl, q2, ⟨?_, by rw [List.length_set]; exact q1, h.inn.kept k (heap_ty i1 hh (nat_ne (by kernel_rfl))) (heap_ty i2 hh (nat_ne (by kernel_rfl))), h.out.kept k (heap_ty i3 hh (nat_ne (by kernel_rfl))) (heap_ty i4 hh (nat_ne (by kernel_rfl))), h.z, h.ap⟩,
      FB.of_one k (Nat.le_trans h.z (Nat.le_of_lt (heap_lt h.obj))) hb hh (.inr (.inl rfl)), k, hdg, ⟨cur, hh⟩⟩
    rw [List.length_set]
    exact (k.block d (heap_lt h.obj) hdg).trans h.obj
/-- The table within was written. -/
theorem Dm.tin (h : Dm w B0 d t1 b1 t2 b2 A c most S f M1 M2) {b' : Nat} {M' : List Ent} (q : HQ w' B0 t1 b' most M') (k : KT t1 b1 w w') (e : b' = b1 ∨ w.heap.size ≤ b') : Dm w' B0 d t1 b' t2 b2 A c most S f M' M2 ∧ FB B0 w w' := by
  obtain ⟨⟨c1, i1⟩, c2, i2⟩ := h.inn.tab
  obtain ⟨⟨c3, i3⟩, c4, i4⟩ := h.out.tab
  have l := h.out.lt
  have l1 := h.inn.lt
  have hd : w'.heap[d]? = w.heap[d]? := k.block d (heap_lt h.obj) (by rintro (e | e); exact heap_ty h.obj i1 (nat_ne (by kernel_rfl)) e; exact heap_ty h.obj i2 (nat_ne (by kernel_rfl)) e)
  refine ⟨⟨hd.trans h.obj, own_kt h.own k ⟨_, i1⟩ ⟨_, i2⟩ (nat_ne (by kernel_rfl)) (nat_ne (by kernel_rfl)), q, h.out.kept k (by rintro (e | e); exact h.ap.1 e.symm; exact heap_ty i3 i2 (nat_ne (by kernel_rfl)) e) (by rintro (e | e); exact heap_ty i4 i1 (nat_ne (by kernel_rfl)) e; exact h.ap.2 e.symm), h.z, h.ap.1, ?_⟩, ?_⟩
  · rcases e with e | e
    · rw [e]; exact h.ap.2
    · omega
  · refine FB.of_kept k (Nat.le_trans h.z (Nat.le_of_lt (heap_lt h.obj))) (fun i hi => ?_)
    rcases hi with hi | hi
    · exact ⟨by rw [hi]; exact l1.2.2.1, _, _, by rw [hi]; exact i1, .inr (.inr (.inl rfl))⟩
    · exact ⟨by rw [hi]; exact l1.2.2.2, _, _, by rw [hi]; exact i2, .inr (.inr (.inr rfl))⟩
/-- The table without was written. -/
theorem Dm.tout (h : Dm w B0 d t1 b1 t2 b2 A c most S f M1 M2) {b' : Nat} {M' : List Ent} (q : HQ w' B0 t2 b' most M') (k : KT t2 b2 w w') (e : b' = b2 ∨ w.heap.size ≤ b') : Dm w' B0 d t1 b1 t2 b' A c most S f M1 M' ∧ FB B0 w w' := by
  obtain ⟨⟨c1, i1⟩, c2, i2⟩ := h.inn.tab
  obtain ⟨⟨c3, i3⟩, c4, i4⟩ := h.out.tab
  have l := h.inn.lt
  have l1 := h.out.lt
  have hd : w'.heap[d]? = w.heap[d]? := k.block d (heap_lt h.obj) (by rintro (e | e); exact heap_ty h.obj i3 (nat_ne (by kernel_rfl)) e; exact heap_ty h.obj i4 (nat_ne (by kernel_rfl)) e)
  refine ⟨⟨hd.trans h.obj, own_kt h.own k ⟨_, i3⟩ ⟨_, i4⟩ (nat_ne (by kernel_rfl)) (nat_ne (by kernel_rfl)), h.inn.kept k (by rintro (e | e); exact h.ap.1 e; exact heap_ty i1 i4 (nat_ne (by kernel_rfl)) e) (by rintro (e | e); exact heap_ty i2 i3 (nat_ne (by kernel_rfl)) e; exact h.ap.2 e), q, h.z, h.ap.1, ?_⟩, ?_⟩
  · rcases e with e | e
    · rw [e]; exact h.ap.2
    · omega
  · refine FB.of_kept k (Nat.le_trans h.z (Nat.le_of_lt (heap_lt h.obj))) (fun i hi => ?_)
    rcases hi with hi | hi
    · exact ⟨by rw [hi]; exact l1.2.2.1, _, _, by rw [hi]; exact i3, .inr (.inr (.inl rfl))⟩
    · exact ⟨by rw [hi]; exact l1.2.2.2, _, _, by rw [hi]; exact i4, .inr (.inr (.inr rfl))⟩
end
end Go.Proofs.YtafidbjaeopciaaDoor
