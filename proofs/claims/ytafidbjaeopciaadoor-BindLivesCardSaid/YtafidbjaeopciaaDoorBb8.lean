/-
  Contracts and lemmas on which the proofs of this seat stand (several texts in one). Conditions are each theorem's own.
-/
import Derived.Test.YtafidbjaeopciaaDoorBb7
import Derived.Lib.UnsafeStr
import Derived.Lib.BufferWrite
import Derived.Test.YtafidbjaeopciaaDoorBb3
import Derived.Deep.Slices
import Derived.Test.YtafidbjaeopciaaDoorBb1
import Derived.Test.YtafidbjaeopciaaDoorBb2

/-
  A text's copy; Put, Get, Delete, Len of layer 18's code over a table that a call made. Conditions are each theorem's own.
-/
namespace Go.Proofs.YtafidbjaeopciaaDoor
open Go.RowKit Go.Shelf

set_option maxRecDepth 100000 in
theorem hsclone1 (l : List UInt8) (w : World) (hl : l.length ≤ 1000000) :
    Calls Tryd.prog 43 #[.string (strB l)] w fun e w' => e = .returned (.string (strB l)) ∧ Below w.heap.size w w' := by
  by_cases h0 : l = []
  · subst h0
    have hz : (strB []).size = 0 := rfl
    go_enter Tryd.func43, Tryd.ntmps43
    go_wp2
    go_ret
    exact ⟨rfl, Below.refl _ _⟩
  · have hp : 0 < l.length := List.length_pos_iff.2 h0
    have hz := strB_size l
    have hd : (strB l).data.toList = l := rfl
    have HI : (Tryd.prog.info? 5).map (fun i => (i.zero, i.size, i.bytes)) = some (some (.int .u8 0), 1, 1) := by kernel_rfl
    obtain ⟨i0, hi, hz0, hz1, hz2⟩ := info_parts HI
    obtain ⟨n, hn⟩ : ∃ n, n = (strB l).size := ⟨_, rfl⟩
    have hnl : n = l.length := hn.trans hz
    obtain ⟨M, hM⟩ : ∃ M, M = madeCells (Value.int .u8 0).cells (n * 1) := ⟨_, rfl⟩
    have hMs : M.size = n := by rw [hM, size_madeCells, Nat.mul_one]
    have hmk : ∀ W : World, (Instr.makeSlice 97 (.int .i64 (n : Int)) (.int .i64 (n : Int))).run Tryd.prog W = .ok (.slice (some ⟨W.heap.size, 0, none⟩) n n) (W.alloc (.cells M 5)) := fun W => by
      have h := run_make (P := Tryd.prog) W 97 5 i0 (.int .u8 0) Tryd.underlying97 hi hz0 .i64 .i64 (n : Int) (n : Int) (by omega) (Int.le_refl _) (by rw [hz2]; omega) (by omega)
      rw [Int.toNat_natCast, hz1, ← hM] at h
      exact h
    have hinfo : (Tryd.prog.info? 5).map (·.size) = some 1 := by rw [hi]; simp [hz1]
    have hco : Tryd.prog.cellsOf 5 = 1 := by simp [Program.cellsOf, hi, hz1]
    have hcp := Lib.run_copy_row_string (P := Tryd.prog) (w.alloc (.cells M 5)) 97 9 3 5 w.heap.size 0 n n (strB l) M 5 Tryd.underlying97 hinfo (World.alloc_heap_new w _) (by omega) (by omega)
    obtain ⟨Y, hY⟩ : ∃ Y, Y = (M.toList.take 0 ++ Lib.byteCells (strB l).data.toList ++ M.toList.drop (0 + (strB l).size)).toArray := ⟨_, rfl⟩
    rw [← hY] at hcp
    have hYl : Y.toList = Lib.byteCells l := by
      rw [hY, List.toList_toArray, List.take_zero, List.nil_append, List.drop_of_length_le (by rw [Array.length_toList]; omega), List.append_nil, hd]
    have hYs : Y.size = n := by rw [← Array.length_toList, hYl, Lib.byteCells_length, hnl]
    have hgY : ((w.alloc (.cells M 5)).setRow w.heap.size Y).heap[w.heap.size]? = some (.cells Y 5 (0, 0)) := setRow_heap _ _ M _ 5 (0, 0) (World.alloc_heap_new w _)
    have hUS := Lib.run_unsafeString_row (P := Tryd.prog) (w := (w.alloc (.cells M 5)).setRow w.heap.size Y) 100 3 9 5 Tryd.underlying100 hco w.heap.size Y.size (by unfold World.shape?; rw [hgY]) l h0 (by omega) (by omega)
      (fun j x hx => Lib.cells_of_row hgY Y.size j _ (by rw [List.take_of_length_le (by rw [Array.length_toList]; exact Nat.le_refl _), hYl]; simp [Lib.byteCells, hx]))
    rw [← hnl] at hUS
    have hcp' := hcp
    rw [show goInt (strB l).size = .int .i64 (n : Int) from by rw [← hn]; rfl] at hcp'
    have hb1 : Below w.heap.size w (w.alloc (.cells M 5)) := (Below.refl _ w).alloc (Nat.le_refl _) _
    have hb2 : Below w.heap.size (w.alloc (.cells M 5)) ((w.alloc (.cells M 5)).setRow w.heap.size Y) := ⟨rfl, rfl, rfl, by simp, fun k hk => setRow_other _ _ _ _ (by omega)⟩
    have hn0 : 0 < n := by omega
    have hne0 : n ≠ 0 := by omega
    have d0 : (((strB l).size : Int) == 0) = false := by rw [← hn]; simp; omega
    have d0' : ((strB l).size == 0) = false := by rw [← hn]; simp; omega
    subst hn
    clear hY hYl hYs hgY hMs hM hd hcp hnl hz hinfo hco hi hz0 hz1 hz2 hp
    go_enter Tryd.func43, Tryd.ntmps43
    go_wp2
    go_ret
    exact ⟨rfl, Lib.below_freeze (hb1.trans hb2) (p := ⟨w.heap.size, 0, none⟩) (Nat.le_refl _) _⟩
theorem hsclone (l : List UInt8) (w : World) (hl : l.length ≤ 1000000) : Calls Tryd.prog 38 #[.string (strB l)] w fun e w' => e = .returned (.string (strB l)) ∧ Below w.heap.size w w' := by
  go_enter Tryd.func38, Tryd.ntmps38
  go_wp2_with (go_at_call 43; refine (hsclone1 l _ hl).mono ?_; rintro e w1 ⟨rfl, x1⟩)
  go_ret
  exact ⟨rfl, x1⟩
/-- A table that a call made. -/
structure HTab (w : World) (B0 t b : Nat) (most : Int) (L : List (Option Ent)) : Prop where
  hs : Hs w t b ((ents L).length : Int) most L
  prb : Prb (hmN L.length) L
  half : 2 * (ents L).length ≤ L.length
  len : L.length ≤ 300000
  mst : 0 ≤ most ∧ most ≤ 65536
  n : ((ents L).length : Int) ≤ most
  z : B0 ≤ t ∧ B0 ≤ b
section
variable {w w' : World} {B0 t b : Nat} {most : Int} {L : List (Option Ent)}
theorem HTab.below (h : HTab w B0 t b most L) (hb : Below w.heap.size w w') : HTab w' B0 t b most L := ⟨h.hs.below hb, h.prb, h.half, h.len, h.mst, h.n, h.z⟩
theorem HTab.free (h : HTab w B0 t b most L) : ∃ i, i < L.length ∧ plH L i = none := free_of_lt (by have := h.prb.home []; have := h.half; omega)
theorem HTab.new (h0 : 0 ≤ most ∧ most ≤ 65536) (h : Hs w t b 0 most (List.replicate 8 none)) (hz : B0 ≤ t ∧ B0 ≤ b) : HTab w B0 t b most (List.replicate 8 none) :=
  ⟨h, prb_new _ _ (fun k => by rw [List.length_replicate]; exact hm_pos (by decide) k), (by rw [ents_rep]; simp), (by simp), h0, (by rw [ents_rep]; exact h0.1), hz⟩
theorem Hs.cnt {cnt : Int} (h : Hs w t b cnt most L) (c : Int) : Hs (w.setCell ⟨t, 1, none⟩ (.int .i64 c)) t b c most L :=
  ⟨heap_setCell_same w t 1 _ _ _ h.tab, h.arr.keep (heap_setCell_other w ⟨t, 1, none⟩ _ _ (by show b ≠ t; exact fun e => h.ne e.symm))⟩
/-- What Get answers. -/
def GetOut (L : List (Option Ent)) (key : List UInt8) (e : Ending) : Prop :=
  (∃ x ∈ ents L, x.key = key ∧ e = .returned (.tuple #[.int .i64 x.n, .bool true])) ∨ ((∀ x ∈ ents L, x.key ≠ key) ∧ e = .returned (.tuple #[.int .i64 0, .bool false]))
theorem hsfind_yes (h : HTab w B0 t b most L) {i : Nat} {x : Ent} (hx : plH L i = some x) : Calls Tryd.prog 35 #[.pointer (some ⟨t, 0, none⟩), .string (strB x.key), .int .u64 (mkOf x.key)] w fun e w' => e = .returned (.tuple #[.int .i64 (i : Int), .bool true]) ∧ Below w.heap.size w w' :=
  (hsfind h.hs h.prb (by have := h.len; omega) x.key).mono fun e w' ⟨hf, hb⟩ => by
    rcases hf with ⟨j, y, h1, h2, rfl⟩ | ⟨h1, _⟩
    · rw [h.prb.uniq j i y x h1 hx h2]; exact ⟨rfl, hb⟩
    · exact absurd rfl (h1 i x hx)
theorem hsfind_no (h : HTab w B0 t b most L) {key : List UInt8} (hn : ∀ i x, plH L i = some x → x.key ≠ key) : Calls Tryd.prog 35 #[.pointer (some ⟨t, 0, none⟩), .string (strB key), .int .u64 (mkOf key)] w fun e w' => e = .returned (.tuple #[.int .i64 0, .bool false]) ∧ Below w.heap.size w w' :=
  (hsfind h.hs h.prb (by have := h.len; omega) key).mono fun e w' ⟨hf, hb⟩ => by
    rcases hf with ⟨j, y, h1, h2, _⟩ | ⟨_, rfl⟩
    · exact absurd h2 (hn j y h1)
    · exact ⟨rfl, hb⟩
theorem hslen (h : HTab w B0 t b most L) : Calls Tryd.prog 32 #[.pointer (some ⟨t, 0, none⟩)] w fun e w' => e = .returned (.int .i64 ((ents L).length : Int)) ∧ w = w' := by
  have k0 := h.hs.c0
  have k1 := h.hs.c1
  clear h
  go_enter Tryd.func32, Tryd.ntmps32
  go_wp2_with (go_at_call 33; refine (hsmade t b _ _ _ k0).mono ?_; rintro e w1 ⟨rfl, rfl⟩)
  go_ret
  exact ⟨rfl, rfl⟩
theorem hsget (h : HTab w B0 t b most L) (key : List UInt8) (hk : key.length ≤ 1000000) : Calls Tryd.prog 30 #[.pointer (some ⟨t, 0, none⟩), .string (strB key)] w fun e w' => GetOut L key e ∧ Below w.heap.size w w' := by
  have k0 := h.hs.c0
  have H := Lib.hid h
  by_cases hp : ∃ i x, plH L i = some x ∧ x.key = key
  · obtain ⟨i, x, hx, rfl⟩ := hp
    have hi := plH_lt hx
    have HX := Lib.hid hx
    have hF : ∀ V, Below w.heap.size w V → V.cell? ⟨t, 0, none⟩ = some (.slice (some ⟨b, 0, none⟩) L.length L.length) ∧ V.cell? ⟨b, i * 4 + 3, none⟩ = some (.int .i64 x.n) := fun V hV => by
      have h1 := (h.hs.below hV)
      have h2 := h1.at_ (plH_get hi)
      rw [hx] at h2
      exact ⟨h1.c0, h2 3 _ rfl⟩
    have HF := Lib.hid hF
    have HFD := Lib.hid (hsfind_yes h hx)
    clear h hx hF
    go_enter Tryd.func30, Tryd.ntmps30
    go_wp2_with (first
      | (go_at_call 33; refine (hsmade t b _ _ _ k0).mono ?_; rintro e w1 ⟨rfl, rfl⟩)
      | (go_at_call 34; refine (hsmark x.key _ hk).mono ?_; rintro e w1 ⟨rfl, rfl⟩)
      | (go_at_call 35; refine HFD.out.mono ?_; rintro e w1 ⟨rfl, x1⟩; have hq := HF.out _ x1; obtain ⟨q1, q2⟩ := hq))
    refine bodyPost_ret (results_tmp2 rfl _ _ _) rfl ⟨Or.inl ⟨x, mem_ents.2 ⟨i, HX.out⟩, rfl, rfl⟩, x1⟩
  · have hn : ∀ i x, plH L i = some x → x.key ≠ key := fun i x hx e => hp ⟨i, x, hx, e⟩
    have HN := Lib.hid hn
    have HFD := Lib.hid (hsfind_no h hn)
    clear h hn hp
    go_enter Tryd.func30, Tryd.ntmps30
    go_wp2_with (first
      | (go_at_call 33; refine (hsmade t b _ _ _ k0).mono ?_; rintro e w1 ⟨rfl, rfl⟩)
      | (go_at_call 34; refine (hsmark key _ hk).mono ?_; rintro e w1 ⟨rfl, rfl⟩)
      | (go_at_call 35; refine HFD.out.mono ?_; rintro e w1 ⟨rfl, x1⟩))
    refine bodyPost_ret (results_tmp2 rfl _ _ _) rfl ⟨Or.inr ⟨fun x hx => by obtain ⟨i, h1⟩ := mem_ents.1 hx; exact HN.out i x h1, rfl⟩, x1⟩
/-- What Delete leaves. -/
def DelOut (w : World) (B0 t b : Nat) (most : Int) (L : List (Option Ent)) (key : List UInt8) (e : Ending) (w' : World) : Prop :=
  ∃ L', HTab w' B0 t b most L' ∧ Below B0 w w' ∧ L'.length = L.length ∧ ((∃ x, x.key = key ∧ (ents L).Perm (x :: ents L') ∧ e = .returned (.bool true)) ∨ ((∀ x ∈ ents L, x.key ≠ key) ∧ L' = L ∧ e = .returned (.bool false)))
set_option maxRecDepth 100000 in
theorem hsdel (h : HTab w B0 t b most L) (key : List UInt8) (hk : key.length ≤ 1000000) (hB : B0 ≤ w.heap.size) : Calls Tryd.prog 29 #[.pointer (some ⟨t, 0, none⟩), .string (strB key)] w fun e w' => DelOut w B0 t b most L key e w' := by
  have k0 := h.hs.c0
  have H := Lib.hid h
  by_cases hp : ∃ i x, plH L i = some x ∧ x.key = key
  · obtain ⟨i, x, hx, rfl⟩ := hp
    have hi := plH_lt hx
    have HX := Lib.hid hx
    have hpm := ents_take hx
    have hpl := hpm.length_eq
    rw [List.length_cons] at hpl
    have HP := Lib.hid hpm
    have HPL := Lib.hid hpl
    have HFD := Lib.hid (hsfind_yes h hx)
    clear h hx hpm hpl
    go_enter Tryd.func29, Tryd.ntmps29
    go_wp2_with (first
      | (go_at_call 33; refine (hsmade t b _ _ _ k0).mono ?_; rintro e w1 ⟨rfl, rfl⟩)
      | (go_at_call 34; refine (hsmark x.key _ hk).mono ?_; rintro e w1 ⟨rfl, rfl⟩)
      | (go_at_call 40; refine (hsfree (H.out.hs.below x1) H.out.prb i x HX.out (by have := H.out.len; omega) H.out.free).mono ?_; rintro e w2 ⟨rfl, L', f1, f2, f3, f4, f5⟩; have F1 := Lib.hid f1; have F2 := Lib.hid (show _ ∧ _ ∧ _ ∧ _ from ⟨f2, f3, f4, f5⟩); have kc1 := f1.c1; have kf1 := heap_frozen f1.tab 1; clear f1 f2 f3 f4 f5)
      | (go_at_call 35; refine HFD.out.mono ?_; rintro e w1 ⟨rfl, x1⟩))
    obtain ⟨f2, f3, f4, f5⟩ := F2.out
    have hlen2 := f4.length_eq
    have hc : wrap64 (((ents L).length : Int) - 1) = ((ents L').length : Int) := by
      rw [IntWalk.wrap64_in _ (by have := H.out.n; have := H.out.mst; omega), HPL.out, hlen2]; omega
    rw [hc]
    have hz := H.out.z
    have hb1 : Below B0 w w1 := x1.mono hB
    have hb2 : Below B0 w1 w2 := f5.below (Nat.le_trans hB x1.size) (fun k e => by rw [e]; exact hz.2)
    have hb3 := hb1.trans hb2
    refine bodyPost_ret (results_tmp rfl _ _ _) rfl ⟨L', ⟨F1.out.cnt _, f3, ?_, by rw [f2]; exact H.out.len, H.out.mst, ?_, hz⟩, hb3.setCell (p := ⟨t, 1, none⟩) hz.1 _, f2, .inl ⟨x, rfl, HP.out.trans (f4.symm.cons x), rfl⟩⟩
    · have := H.out.half; rw [f2, hlen2]; have := HPL.out; omega
    · have := H.out.n; rw [hlen2]; have := HPL.out; omega
  · have hn : ∀ i x, plH L i = some x → x.key ≠ key := fun i x hx e => hp ⟨i, x, hx, e⟩
    have HN := Lib.hid hn
    have HFD := Lib.hid (hsfind_no h hn)
    clear h hn hp
    go_enter Tryd.func29, Tryd.ntmps29
    go_wp2_with (first
      | (go_at_call 33; refine (hsmade t b _ _ _ k0).mono ?_; rintro e w1 ⟨rfl, rfl⟩)
      | (go_at_call 34; refine (hsmark key _ hk).mono ?_; rintro e w1 ⟨rfl, rfl⟩)
      | (go_at_call 35; refine HFD.out.mono ?_; rintro e w1 ⟨rfl, x1⟩))
    exact bodyPost_ret (results_tmp rfl _ _ _) rfl ⟨L, H.out.below x1, x1.mono hB, rfl, .inr ⟨fun x hx => by obtain ⟨i, h1⟩ := mem_ents.1 hx; exact HN.out i x h1, rfl, rfl⟩⟩
/-- What Put leaves. -/
def PutOut (w : World) (B0 t : Nat) (most : Int) (L : List (Option Ent)) (key : List UInt8) (n : Int) (e : Ending) (w' : World) : Prop :=
  ∃ b' L', HTab w' B0 t b' most L' ∧ Below B0 w w' ∧
    ((∃ x R, x.key = key ∧ (ents L).Perm (x :: R) ∧ (ents L').Perm (⟨key, n⟩ :: R) ∧ e = .returned (.int .i64 0)) ∨
     ((∀ x ∈ ents L, x.key ≠ key) ∧ ((((ents L).length : Int) ≥ most ∧ ents L' = ents L ∧ e = .returned (.int .i64 7)) ∨ (((ents L).length : Int) < most ∧ (ents L').Perm (⟨key, n⟩ :: ents L) ∧ e = .returned (.int .i64 0)))))
theorem ArrH.setN {w : World} {b : Nat} {L : List (Option Ent)} (h : ArrH w b L) {i : Nat} {x : Ent} (hx : plH L i = some x) (n : Int) : ArrH (w.setCell ⟨b, i * 4 + 3, none⟩ (.int .i64 n)) b (L.set i (some ⟨x.key, n⟩)) := by
  obtain ⟨cur, h1, h2⟩ := h.obj
  have hi := plH_lt hx
  have hr := h.row i _ (plH_get hi)
  rw [hx] at hr
  refine ⟨⟨_, heap_setCell_same w b (i * 4 + 3) cur _ _ h1, by rw [Array.size_setIfInBounds, h2, List.length_set]⟩, fun j o ho q v hv => ?_⟩
  have hne : ∀ k, k ≠ i * 4 + 3 → (w.setCell ⟨b, i * 4 + 3, none⟩ (.int .i64 n)).cell? ⟨b, k, none⟩ = w.cell? ⟨b, k, none⟩ := fun k hk => World.cell?_setCell_other _ _ _ _ (fun e => by injection e with _ e2 _; first | exact hk e2 | exact hk e2.symm)
  have hq := (List.getElem?_eq_some_iff.1 hv).1
  rw [clE_len] at hq
  rw [List.getElem?_set] at ho
  split at ho
  · rename_i e
    subst e
    have ho : some (some (⟨x.key, n⟩ : Ent)) = some o := by simpa [hi] using ho
    obtain rfl := Option.some.inj ho
    by_cases q3 : q = 3
    · subst q3
      have hv : some (Value.int .i64 n) = some v := hv
      rw [← hv]
      refine World.cell?_setCell_same' _ _ _ ?_
      rw [hr 3 _ rfl]; rfl
    · rw [hne _ (by omega)]
      refine hr q v ?_
      have : q = 0 ∨ q = 1 ∨ q = 2 := by omega
      rcases this with rfl | rfl | rfl <;> exact hv
  · rename_i e
    rw [hne _ (by omega)]
    exact h.row j o ho q v hv
theorem put_end {w w5 w6 w7 : World} {B0 t b2 C r : Nat} {most : Int} {L L2 : List (Option Ent)} {key : List UInt8} {n : Int} (_ : Hs w5 t b2 (C : Int) most L2) (g : Prb (hmN L2.length) L2 ∧ (ents L2).Perm (ents L) ∧ 2 * (C + 1) ≤ L2.length ∧ L2.length ≤ 300000 ∧ B0 ≤ b2) (hC : C = (ents L).length) (hz : B0 ≤ t ∧ B0 ≤ b2 ∨ B0 ≤ t) (hlt : (C : Int) < most) (hms : 0 ≤ most ∧ most ≤ 65536)
    (hn : ∀ x ∈ ents L, x.key ≠ key) (x6 : Below w5.heap.size w5 w6) (h5 : B0 ≤ w5.heap.size) (b5 : Below B0 w w5) (r4 : Hs w7 t b2 (C : Int) most (L2.set (rnd L2.length (hmN L2.length key) r) (some ⟨key, n⟩)))
    (R : r < L2.length ∧ (∀ d, d < r → plH L2 (rnd L2.length (hmN L2.length key) d) ≠ none) ∧ plH L2 (rnd L2.length (hmN L2.length key) r) = none ∧ Kept (fun k => k = b2) w6 w7) :
    PutOut w B0 t most L key n (.returned (.int .i64 0)) (w7.setCell ⟨t, 1, none⟩ (.int .i64 ((C : Int) + 1))) := by
  obtain ⟨g1, g2, g3, g4, g5⟩ := g
  obtain ⟨r1, r2, r3, r5⟩ := R
  have hzt : B0 ≤ t := by rcases hz with h | h; exact h.1; exact h
  have hp := ents_put (e := (⟨key, n⟩ : Ent)) (rnd_lt (g1.home key) r1) r3
  have hl := hp.length_eq
  rw [List.length_cons, g2.length_eq, ← hC] at hl
  have hb : Below B0 w w7 := (b5.trans (x6.mono h5)).trans (r5.below (Nat.le_trans h5 x6.size) (fun k e => by have e' : k = b2 := e; rw [e']; exact g5))
  have hq : (ents (L2.set (rnd L2.length (hmN L2.length key) r) (some ⟨key, n⟩))).Perm (⟨key, n⟩ :: ents L) := hp.trans (g2.cons _)
  have hlt' : ((ents L).length : Int) < most := by rw [← hC]; exact hlt
  have hpr : Prb (hmN L2.length) (L2.set (rnd L2.length (hmN L2.length key) r) (some ⟨key, n⟩)) := by
    refine Prb.put (x := (⟨key, n⟩ : Ent)) g1 (fun i e he hk => ?_) r1 r2
    exact hn e (g2.mem_iff.1 (mem_ents.2 ⟨i, he⟩)) hk
  have h4 := r4.cnt ((C : Int) + 1)
  have hlc : ((C : Int) + 1) = ((ents (L2.set (rnd L2.length (hmN L2.length key) r) (some ⟨key, n⟩))).length : Int) := by rw [hl]; omega
  have hbs := hb.setCell (p := ⟨t, 1, none⟩) hzt (.int .i64 ((C : Int) + 1))
  obtain ⟨L3, hL3⟩ : ∃ L3, L3 = L2.set (rnd L2.length (hmN L2.length key) r) (some (⟨key, n⟩ : Ent)) := ⟨_, rfl⟩
  have hlm : L2.length = L3.length := by rw [hL3, List.length_set]
  rw [← hL3] at hpr hq h4 hlc hl
  rw [hlm] at hpr g3 g4
  have hg3 : 2 * (ents L3).length ≤ L3.length := by omega
  have hg4 : ((ents L3).length : Int) ≤ most := by omega
  rw [hlc] at h4 hbs ⊢
  exact ⟨b2, L3, ⟨h4, hpr, hg3, g4, hms, hg4, hzt, g5⟩, hbs, Or.inr ⟨hn, Or.inr ⟨hlt', hq, rfl⟩⟩⟩
set_option maxRecDepth 100000 in
set_option maxHeartbeats 2000000 in
theorem hsput (h : HTab w B0 t b most L) (key : List UInt8) (n : Int) (hk : key.length ≤ 1000000) (hB : B0 ≤ w.heap.size) : Calls Tryd.prog 25 #[.pointer (some ⟨t, 0, none⟩), .string (strB key), .int .i64 n] w fun e w' => PutOut w B0 t most L key n e w' := by
  have k0 := h.hs.c0
  have H := Lib.hid h
  by_cases hp : ∃ i x, plH L i = some x ∧ x.key = key
  · obtain ⟨i, x, hx, rfl⟩ := hp
    have hi := plH_lt hx
    have HX := Lib.hid hx
    have HFD := Lib.hid (hsfind_yes h hx)
    have hF : ∀ V, Below w.heap.size w V → V.cell? ⟨t, 0, none⟩ = some (.slice (some ⟨b, 0, none⟩) L.length L.length) ∧ V.cell? ⟨b, i * 4 + 3, none⟩ = some (.int .i64 x.n) ∧ V.frozen? ⟨b, i * 4 + 3, none⟩ = false := fun V hV => by
      have h1 := (h.hs.below hV)
      have h2 := h1.at_ (plH_get hi)
      rw [hx] at h2
      obtain ⟨cur, h3, _⟩ := h1.arr.obj
      exact ⟨h1.c0, h2 3 _ rfl, heap_frozen h3 _⟩
    have HF := Lib.hid hF
    clear h hx hF
    go_enter Tryd.func25, Tryd.ntmps25
    go_wp2_with (first
      | (go_at_call 33; refine (hsmade t b _ _ _ k0).mono ?_; rintro e w1 ⟨rfl, rfl⟩)
      | (go_at_call 34; refine (hsmark x.key _ hk).mono ?_; rintro e w1 ⟨rfl, rfl⟩)
      | (go_at_call 35; refine HFD.out.mono ?_; rintro e w1 ⟨rfl, x1⟩; have hq := HF.out _ x1; obtain ⟨q1, q2, q3⟩ := hq))
    have h1 := H.out.below x1
    obtain ⟨R, p1, p2⟩ := ents_change HX.out ⟨x.key, n⟩
    have hz := H.out.z
    have hle := p1.length_eq
    have hle2 := p2.length_eq
    rw [List.length_cons] at hle hle2
    refine bodyPost_ret (results_tmp rfl _ _ _) rfl ⟨b, L.set i (some ⟨x.key, n⟩), ⟨⟨?_, h1.hs.arr.setN HX.out n⟩, by rw [List.length_set]; exact H.out.prb.change HX.out n, by rw [List.length_set, hle2, ← hle]; exact H.out.half, by rw [List.length_set]; exact H.out.len, H.out.mst, by rw [hle2, ← hle]; exact H.out.n, hz⟩, (x1.mono hB).setCell (p := ⟨b, i * 4 + 3, none⟩) hz.2 _, .inl ⟨x, R, rfl, p1, p2, rfl⟩⟩
    rw [List.length_set, hle2, ← hle]
    exact (heap_setCell_other w1 ⟨b, i * 4 + 3, none⟩ _ _ h1.hs.ne).trans h1.hs.tab
  · have hn : ∀ i x, plH L i = some x → x.key ≠ key := fun i x hx e => hp ⟨i, x, hx, e⟩
    have HN := Lib.hid hn
    have HNE : Hid (∀ x ∈ ents L, x.key ≠ key) := Lib.hid fun x hx => by obtain ⟨i, h1⟩ := mem_ents.1 hx; exact hn i x h1
    have HFD := Lib.hid (hsfind_no h hn)
    obtain ⟨C, hC⟩ : ∃ C, C = (ents L).length := ⟨_, rfl⟩
    have hCm := h.n
    have hms := h.mst
    have hlen := h.len
    have hhalf := h.half
    have hL0 := h.prb.home []
    have hF : ∀ V, Below w.heap.size w V → V.cell? ⟨t, 0, none⟩ = some (.slice (some ⟨b, 0, none⟩) L.length L.length) ∧ V.cell? ⟨t, 1, none⟩ = some (.int .i64 (C : Int)) ∧ V.cell? ⟨t, 2, none⟩ = some (.int .i64 most) := fun V hV => by
      have h1 := (h.hs.below hV)
      exact ⟨h1.c0, by rw [hC]; exact h1.c1, h1.c2⟩
    have HF := Lib.hid hF
    rw [← hC] at hCm hhalf
    have HC := Lib.hid hC
    clear h hn hp hF hC
    go_enter Tryd.func25, Tryd.ntmps25
    go_upto_region 8 with (first
      | (go_at_call 33; refine (hsmade t b _ _ _ k0).mono ?_; rintro e w1 ⟨rfl, rfl⟩)
      | (go_at_call 34; refine (hsmark key _ hk).mono ?_; rintro e w1 ⟨rfl, rfl⟩)
      | (go_at_call 35; refine HFD.out.mono ?_; rintro e w1 ⟨rfl, x1⟩; have H1 := Lib.hid (H.out.below x1); have KC0 : Hid (∀ V, Below w1.heap.size w1 V → V.cell? ⟨t, 0, none⟩ = some (.slice (some ⟨b, 0, none⟩) L.length L.length)) := Lib.hid (fun V hV => (HF.out V (x1.trans (hV.mono x1.size))).1); have KC1 : Hid (∀ V, Below w1.heap.size w1 V → V.cell? ⟨t, 1, none⟩ = some (.int .i64 (C : Int))) := Lib.hid (fun V hV => (HF.out V (x1.trans (hV.mono x1.size))).2.1); have KC2 : Hid (∀ V, Below w1.heap.size w1 V → V.cell? ⟨t, 2, none⟩ = some (.int .i64 most)) := Lib.hid (fun V hV => (HF.out V (x1.trans (hV.mono x1.size))).2.2)))
    by_cases hfull : (C : Int) ≥ most
    · have dF : decide (most ≤ (C : Int)) = true := decide_eq_true hfull
      refine wp_region_held_drew (S := fun w' => Below w1.heap.size w1 w') (by kernel_rfl) (Below.refl _ _).drew (fun hS => ?_)
      refine held_pure (i := 0) (oi := ⟨some 31, _, _, _, _, _⟩) rfl (by kernel_rfl) (by kernel_rfl) (by kernel_rfl) (fun _ _ _ h => h) (by rfl) (v := ?_) (fun w hSw => ?_) hS (fun hS => ?_)
      rotate_left
      · go_simp; try with_reducible rfl
      try go_frame
      refine held_pure (i := 1) (oi := ⟨some 32, _, _, _, _, _⟩) rfl (by kernel_rfl) (by kernel_rfl) (by kernel_rfl) (fun _ _ _ h => h) (by rfl) (v := ?_) (fun w hSw => ?_) hS (fun hS => ?_)
      rotate_left
      · go_simp; try with_reducible rfl
      try go_frame
      refine held_pure (i := 2) (oi := ⟨some 33, _, _, _, _, _⟩) rfl (by kernel_rfl) (by kernel_rfl) (by kernel_rfl) (fun _ _ _ h => h) (by rfl) (v := ?_) (fun w hSw => ?_) hS (fun hS => ?_)
      rotate_left
      · go_simp; try with_reducible rfl
      try go_frame
      refine held_pure (i := 3) (oi := ⟨some 34, _, _, _, _, _⟩) rfl (by kernel_rfl) (by kernel_rfl) (by kernel_rfl) (fun _ _ _ h => h) (by rfl) (fun w hSw => run_load_int rfl rfl (KC1.out _ hSw)) hS (fun hS => ?_)
      try go_frame
      refine held_pure (i := 4) (oi := ⟨some 35, _, _, _, _, _⟩) rfl (by kernel_rfl) (by kernel_rfl) (by kernel_rfl) (fun _ _ _ h => h) (by rfl) (v := ?_) (fun w hSw => ?_) hS (fun hS => ?_)
      rotate_left
      · go_simp; try with_reducible rfl
      try go_frame
      refine held_pure (i := 5) (oi := ⟨some 36, _, _, _, _, _⟩) rfl (by kernel_rfl) (by kernel_rfl) (by kernel_rfl) (fun _ _ _ h => h) (by rfl) (v := ?_) (fun w hSw => ?_) hS (fun hS => ?_)
      rotate_left
      · go_simp; try with_reducible rfl
      try go_frame
      refine held_pure (i := 6) (oi := ⟨some 37, _, _, _, _, _⟩) rfl (by kernel_rfl) (by kernel_rfl) (by kernel_rfl) (fun _ _ _ h => h) (by rfl) (v := ?_) (fun w hSw => ?_) hS (fun hS => ?_)
      rotate_left
      · go_simp; try with_reducible rfl
      try go_frame
      refine held_pure (i := 7) (oi := ⟨some 38, _, _, _, _, _⟩) rfl (by kernel_rfl) (by kernel_rfl) (by kernel_rfl) (fun _ _ _ h => h) (by rfl) (fun w hSw => run_load_int rfl rfl (KC2.out _ hSw)) hS (fun hS => ?_)
      try go_frame
      refine held_pure (i := 8) (oi := ⟨some 39, _, _, _, _, _⟩) rfl (by kernel_rfl) (by kernel_rfl) (by kernel_rfl) (fun _ _ _ h => h) (by rfl) (v := .bool true) (fun w hSw => by go_simp; try exact dF) hS (fun hS => ?_)
      try go_frame
      refine wpAnyH_done (by kernel_rfl) ?_ _
      go_wp2
      refine bodyPost_ret (results_tmp rfl _ _ _) rfl ⟨b, L, H.out.below (x1.trans (hS.mono x1.size)), (x1.trans (hS.mono x1.size)).mono hB, .inr ⟨HNE.out, .inl ⟨by rw [← HC.out]; exact hfull, rfl, rfl⟩⟩⟩
    · have dF : decide (most ≤ (C : Int)) = false := decide_eq_false hfull
      have HW1 : Hid (IntKind.i64.wrap ((C : Int) + 1) = (C : Int) + 1) := Lib.hid (IntWalk.i64_in _ (by omega))
      have HW2 : Hid (IntKind.i64.wrap (2 * ((C : Int) + 1)) = 2 * ((C : Int) + 1)) := Lib.hid (IntWalk.i64_in _ (by omega))
      refine wp_region_held_drew (S := fun w' => Below w1.heap.size w1 w') (by kernel_rfl) (Below.refl _ _).drew (fun hS => ?_)
      refine held_pure (i := 0) (oi := ⟨some 31, _, _, _, _, _⟩) rfl (by kernel_rfl) (by kernel_rfl) (by kernel_rfl) (fun _ _ _ h => h) (by rfl) (v := ?_) (fun w hSw => ?_) hS (fun hS => ?_)
      rotate_left
      · go_simp; try with_reducible rfl
      try go_frame
      refine held_pure (i := 1) (oi := ⟨some 32, _, _, _, _, _⟩) rfl (by kernel_rfl) (by kernel_rfl) (by kernel_rfl) (fun _ _ _ h => h) (by rfl) (v := ?_) (fun w hSw => ?_) hS (fun hS => ?_)
      rotate_left
      · go_simp; try with_reducible rfl
      try go_frame
      refine held_pure (i := 2) (oi := ⟨some 33, _, _, _, _, _⟩) rfl (by kernel_rfl) (by kernel_rfl) (by kernel_rfl) (fun _ _ _ h => h) (by rfl) (v := ?_) (fun w hSw => ?_) hS (fun hS => ?_)
      rotate_left
      · go_simp; try with_reducible rfl
      try go_frame
      refine held_pure (i := 3) (oi := ⟨some 34, _, _, _, _, _⟩) rfl (by kernel_rfl) (by kernel_rfl) (by kernel_rfl) (fun _ _ _ h => h) (by rfl) (fun w hSw => run_load_int rfl rfl (KC1.out _ hSw)) hS (fun hS => ?_)
      try go_frame
      refine held_pure (i := 4) (oi := ⟨some 35, _, _, _, _, _⟩) rfl (by kernel_rfl) (by kernel_rfl) (by kernel_rfl) (fun _ _ _ h => h) (by rfl) (v := ?_) (fun w hSw => ?_) hS (fun hS => ?_)
      rotate_left
      · go_simp; try with_reducible rfl
      try go_frame
      refine held_pure (i := 5) (oi := ⟨some 36, _, _, _, _, _⟩) rfl (by kernel_rfl) (by kernel_rfl) (by kernel_rfl) (fun _ _ _ h => h) (by rfl) (v := ?_) (fun w hSw => ?_) hS (fun hS => ?_)
      rotate_left
      · go_simp; try with_reducible rfl
      try go_frame
      refine held_pure (i := 6) (oi := ⟨some 37, _, _, _, _, _⟩) rfl (by kernel_rfl) (by kernel_rfl) (by kernel_rfl) (fun _ _ _ h => h) (by rfl) (v := ?_) (fun w hSw => ?_) hS (fun hS => ?_)
      rotate_left
      · go_simp; try with_reducible rfl
      try go_frame
      refine held_pure (i := 7) (oi := ⟨some 38, _, _, _, _, _⟩) rfl (by kernel_rfl) (by kernel_rfl) (by kernel_rfl) (fun _ _ _ h => h) (by rfl) (fun w hSw => run_load_int rfl rfl (KC2.out _ hSw)) hS (fun hS => ?_)
      try go_frame
      refine held_pure (i := 8) (oi := ⟨some 39, _, _, _, _, _⟩) rfl (by kernel_rfl) (by kernel_rfl) (by kernel_rfl) (fun _ _ _ h => h) (by rfl) (v := .bool false) (fun w hSw => by go_simp; try exact dF) hS (fun hS => ?_)
      try go_frame
      refine wpAnyH_done (by kernel_rfl) ?_ _
      go_upto_region 10 with fail
      have hz := H.out.z
      have hW4 : Below w1.heap.size w1 w1.drew.drew := (Below.refl w1.heap.size w1).drew.drew
      have H4 := H1.out.below hW4
      have b4 : Below B0 w w1.drew.drew := (x1.trans (hW4.mono x1.size)).mono hB
      by_cases hg : 2 * (C + 1) > L.length
      · have dG : decide ((L.length : Int) < 2 * ((C : Int) + 1)) = true := decide_eq_true (by omega)
        refine wp_region_held_drew (S := fun w' => Below w1.heap.size w1 w') (by kernel_rfl) (Below.refl w1.heap.size w1).drew.drew (fun hS => ?_)
        refine held_pure (i := 0) (oi := ⟨some 40, _, _, _, _, _⟩) rfl (by kernel_rfl) (by kernel_rfl) (by kernel_rfl) (fun _ _ _ h => h) (by rfl) (v := ?_) (fun w hSw => ?_) hS (fun hS => ?_)
        rotate_left
        · go_simp; try with_reducible rfl
        try go_frame
        refine held_pure (i := 1) (oi := ⟨some 41, _, _, _, _, _⟩) rfl (by kernel_rfl) (by kernel_rfl) (by kernel_rfl) (fun _ _ _ h => h) (by rfl) (v := ?_) (fun w hSw => ?_) hS (fun hS => ?_)
        rotate_left
        · go_simp; try with_reducible rfl
        try go_frame
        refine held_pure (i := 2) (oi := ⟨some 42, _, _, _, _, _⟩) rfl (by kernel_rfl) (by kernel_rfl) (by kernel_rfl) (fun _ _ _ h => h) (by rfl) (v := ?_) (fun w hSw => ?_) hS (fun hS => ?_)
        rotate_left
        · go_simp; try with_reducible rfl
        try go_frame
        refine held_pure (i := 3) (oi := ⟨some 43, _, _, _, _, _⟩) rfl (by kernel_rfl) (by kernel_rfl) (by kernel_rfl) (fun _ _ _ h => h) (by rfl) (fun w hSw => run_load_int rfl rfl (KC1.out _ hSw)) hS (fun hS => ?_)
        try go_frame
        refine held_pure (i := 4) (oi := ⟨some 44, _, _, _, _, _⟩) rfl (by kernel_rfl) (by kernel_rfl) (by kernel_rfl) (fun _ _ _ h => h) (by rfl) (v := .int .i64 ((C : Int) + 1)) (fun w hSw => by go_simp; try exact HW1.out) hS (fun hS => ?_)
        try go_frame
        refine held_pure (i := 5) (oi := ⟨some 45, _, _, _, _, _⟩) rfl (by kernel_rfl) (by kernel_rfl) (by kernel_rfl) (fun _ _ _ h => h) (by rfl) (v := .int .i64 (2 * ((C : Int) + 1))) (fun w hSw => by go_simp; try exact HW2.out) hS (fun hS => ?_)
        try go_frame
        refine held_pure (i := 6) (oi := ⟨some 46, _, _, _, _, _⟩) rfl (by kernel_rfl) (by kernel_rfl) (by kernel_rfl) (fun _ _ _ h => h) (by rfl) (v := ?_) (fun w hSw => ?_) hS (fun hS => ?_)
        rotate_left
        · go_simp; try with_reducible rfl
        try go_frame
        refine held_pure (i := 7) (oi := ⟨some 47, _, _, _, _, _⟩) rfl (by kernel_rfl) (by kernel_rfl) (by kernel_rfl) (fun _ _ _ h => h) (by rfl) (v := ?_) (fun w hSw => ?_) hS (fun hS => ?_)
        rotate_left
        · go_simp; try with_reducible rfl
        try go_frame
        refine held_pure (i := 8) (oi := ⟨some 48, _, _, _, _, _⟩) rfl (by kernel_rfl) (by kernel_rfl) (by kernel_rfl) (fun _ _ _ h => h) (by rfl) (v := ?_) (fun w hSw => ?_) hS (fun hS => ?_)
        rotate_left
        · go_simp; try with_reducible rfl
        try go_frame
        refine held_pure (i := 9) (oi := ⟨some 49, _, _, _, _, _⟩) rfl (by kernel_rfl) (by kernel_rfl) (by kernel_rfl) (fun _ _ _ h => h) (by rfl) (fun w hSw => run_load_hsar rfl rfl (KC0.out _ hSw)) hS (fun hS => ?_)
        try go_frame
        refine held_pure (i := 10) (oi := ⟨some 50, _, _, _, _, _⟩) rfl (by kernel_rfl) (by kernel_rfl) (by kernel_rfl) (fun _ _ _ h => h) (by rfl) (v := ?_) (fun w hSw => ?_) hS (fun hS => ?_)
        rotate_left
        · go_simp; try with_reducible rfl
        try go_frame
        refine held_pure (i := 11) (oi := ⟨some 51, _, _, _, _, _⟩) rfl (by kernel_rfl) (by kernel_rfl) (by kernel_rfl) (fun _ _ _ h => h) (by rfl) (v := .bool true) (fun w hSw => by go_simp; try exact dG) hS (fun hS => ?_)
        try go_frame
        refine wpAnyH_done (by kernel_rfl) ?_ _
        go_wp2_with (first
          | (go_at_call 36; refine (hsgrow H4.hs H4.prb (by omega)).mono ?_; rintro e w5 ⟨rfl, b2, L2, g1, g2, g3, g4, g5, g6⟩; have hz4 := hW4.size; have hz0 := x1.size; have b5 : Below B0 w w5 := b4.trans (g5.below (by have := b4.size; omega) (fun k e => by have e' : k = t := e; rw [e']; exact hz.1)); have G := Lib.hid (show Hs w5 t b2 (C : Int) most L2 ∧ Prb (hmN L2.length) L2 ∧ (ents L2).Perm (ents L) ∧ 2 * (C + 1) ≤ L2.length ∧ L2.length ≤ 300000 ∧ B0 ≤ b2 from ⟨by rw [HC.out]; exact g1, g3, g4, by omega, by omega, by omega⟩); clear g1 g2 g3 g4 g5)
          | (go_at_call 38; refine (hsclone key _ hk).mono ?_; rintro e w6 ⟨rfl, x6⟩; have G6 := Lib.hid (G.out.1.below x6))
          | (go_at_call 37; refine (hskeep G6.out ⟨key, n⟩ (G.out.2.1.home _) (by have := G.out.2.2.2.2.1; omega) (free_of_lt (by rw [G.out.2.2.1.length_eq, ← HC.out]; have := G.out.2.2.2.1; omega))).mono ?_; rintro e w7 ⟨rfl, r, r1, r2, r3, r4, r5⟩; have R := Lib.hid (show _ ∧ _ ∧ _ ∧ _ from ⟨r1, r2, r3, r5⟩); have R4 := Lib.hid r4; have kc1 := r4.c1; have kf1 := heap_frozen r4.tab 1; clear r1 r2 r3 r4 r5))
        refine bodyPost_ret (results_tmp rfl _ _ _) rfl ?_
        exact (put_end G.out.1 G.out.2 HC.out (.inr hz.1) (by omega) hms HNE.out x6 (Nat.le_trans hB b5.size) b5 R4.out R.out)
      · have dG : decide ((L.length : Int) < 2 * ((C : Int) + 1)) = false := decide_eq_false (by omega)
        have G : Hid (Hs w1.drew.drew t b (C : Int) most L ∧ Prb (hmN L.length) L ∧ (ents L).Perm (ents L) ∧ 2 * (C + 1) ≤ L.length ∧ L.length ≤ 300000 ∧ B0 ≤ b) := Lib.hid ⟨by rw [HC.out]; exact H4.hs, H4.prb, List.Perm.refl _, by omega, by omega, hz.2⟩
        have b5 := b4
        refine wp_region_held_drew (S := fun w' => Below w1.heap.size w1 w') (by kernel_rfl) (Below.refl w1.heap.size w1).drew.drew (fun hS => ?_)
        refine held_pure (i := 0) (oi := ⟨some 40, _, _, _, _, _⟩) rfl (by kernel_rfl) (by kernel_rfl) (by kernel_rfl) (fun _ _ _ h => h) (by rfl) (v := ?_) (fun w hSw => ?_) hS (fun hS => ?_)
        rotate_left
        · go_simp; try with_reducible rfl
        try go_frame
        refine held_pure (i := 1) (oi := ⟨some 41, _, _, _, _, _⟩) rfl (by kernel_rfl) (by kernel_rfl) (by kernel_rfl) (fun _ _ _ h => h) (by rfl) (v := ?_) (fun w hSw => ?_) hS (fun hS => ?_)
        rotate_left
        · go_simp; try with_reducible rfl
        try go_frame
        refine held_pure (i := 2) (oi := ⟨some 42, _, _, _, _, _⟩) rfl (by kernel_rfl) (by kernel_rfl) (by kernel_rfl) (fun _ _ _ h => h) (by rfl) (v := ?_) (fun w hSw => ?_) hS (fun hS => ?_)
        rotate_left
        · go_simp; try with_reducible rfl
        try go_frame
        refine held_pure (i := 3) (oi := ⟨some 43, _, _, _, _, _⟩) rfl (by kernel_rfl) (by kernel_rfl) (by kernel_rfl) (fun _ _ _ h => h) (by rfl) (fun w hSw => run_load_int rfl rfl (KC1.out _ hSw)) hS (fun hS => ?_)
        try go_frame
        refine held_pure (i := 4) (oi := ⟨some 44, _, _, _, _, _⟩) rfl (by kernel_rfl) (by kernel_rfl) (by kernel_rfl) (fun _ _ _ h => h) (by rfl) (v := .int .i64 ((C : Int) + 1)) (fun w hSw => by go_simp; try exact HW1.out) hS (fun hS => ?_)
        try go_frame
        refine held_pure (i := 5) (oi := ⟨some 45, _, _, _, _, _⟩) rfl (by kernel_rfl) (by kernel_rfl) (by kernel_rfl) (fun _ _ _ h => h) (by rfl) (v := .int .i64 (2 * ((C : Int) + 1))) (fun w hSw => by go_simp; try exact HW2.out) hS (fun hS => ?_)
        try go_frame
        refine held_pure (i := 6) (oi := ⟨some 46, _, _, _, _, _⟩) rfl (by kernel_rfl) (by kernel_rfl) (by kernel_rfl) (fun _ _ _ h => h) (by rfl) (v := ?_) (fun w hSw => ?_) hS (fun hS => ?_)
        rotate_left
        · go_simp; try with_reducible rfl
        try go_frame
        refine held_pure (i := 7) (oi := ⟨some 47, _, _, _, _, _⟩) rfl (by kernel_rfl) (by kernel_rfl) (by kernel_rfl) (fun _ _ _ h => h) (by rfl) (v := ?_) (fun w hSw => ?_) hS (fun hS => ?_)
        rotate_left
        · go_simp; try with_reducible rfl
        try go_frame
        refine held_pure (i := 8) (oi := ⟨some 48, _, _, _, _, _⟩) rfl (by kernel_rfl) (by kernel_rfl) (by kernel_rfl) (fun _ _ _ h => h) (by rfl) (v := ?_) (fun w hSw => ?_) hS (fun hS => ?_)
        rotate_left
        · go_simp; try with_reducible rfl
        try go_frame
        refine held_pure (i := 9) (oi := ⟨some 49, _, _, _, _, _⟩) rfl (by kernel_rfl) (by kernel_rfl) (by kernel_rfl) (fun _ _ _ h => h) (by rfl) (fun w hSw => run_load_hsar rfl rfl (KC0.out _ hSw)) hS (fun hS => ?_)
        try go_frame
        refine held_pure (i := 10) (oi := ⟨some 50, _, _, _, _, _⟩) rfl (by kernel_rfl) (by kernel_rfl) (by kernel_rfl) (fun _ _ _ h => h) (by rfl) (v := ?_) (fun w hSw => ?_) hS (fun hS => ?_)
        rotate_left
        · go_simp; try with_reducible rfl
        try go_frame
        refine held_pure (i := 11) (oi := ⟨some 51, _, _, _, _, _⟩) rfl (by kernel_rfl) (by kernel_rfl) (by kernel_rfl) (fun _ _ _ h => h) (by rfl) (v := .bool false) (fun w hSw => by go_simp; try exact dG) hS (fun hS => ?_)
        try go_frame
        refine wpAnyH_done (by kernel_rfl) ?_ _
        go_wp2_with (first
          | (go_at_call 38; refine (hsclone key _ hk).mono ?_; rintro e w6 ⟨rfl, x6⟩; have G6 := Lib.hid (G.out.1.below x6))
          | (go_at_call 37; refine (hskeep G6.out ⟨key, n⟩ (G.out.2.1.home _) (by have := G.out.2.2.2.2.1; omega) (free_of_lt (by rw [← HC.out]; omega))).mono ?_; rintro e w7 ⟨rfl, r, r1, r2, r3, r4, r5⟩; have R := Lib.hid (show _ ∧ _ ∧ _ ∧ _ from ⟨r1, r2, r3, r5⟩); have R4 := Lib.hid r4; have kc1 := r4.c1; have kf1 := heap_frozen r4.tab 1; clear r1 r2 r3 r4 r5))
        refine bodyPost_ret (results_tmp rfl _ _ _) rfl ?_
        exact (put_end G.out.1 G.out.2 HC.out (.inr hz.1) (by omega) hms HNE.out x6 (Nat.le_trans hB b5.size) b5 R4.out R.out)
end
end Go.Proofs.YtafidbjaeopciaaDoor

/-
  A table of layer 18's code, seen as a list of entries in any order: what each call answers and leaves; awake of layer 18. Conditions are each theorem's own.
-/
namespace Go.Proofs.YtafidbjaeopciaaDoor
open Go.RowKit Go.Shelf

/-- The table at t holds the entries M. -/
def HM (w : World) (B0 t : Nat) (most : Int) (M : List Ent) : Prop := ∃ b L, HTab w B0 t b most L ∧ (ents L).Perm M
section
variable {w w' : World} {B0 t : Nat} {most : Int} {M R : List Ent} {x : Ent} {key : List UInt8} {n : Int}
theorem HM.below (h : HM w B0 t most M) (hb : Below w.heap.size w w') : HM w' B0 t most M := by
  obtain ⟨b, L, h1, h2⟩ := h; exact ⟨b, L, h1.below hb, h2⟩
theorem HM.perm (h : HM w B0 t most M) (hp : M.Perm R) : HM w B0 t most R := by
  obtain ⟨b, L, h1, h2⟩ := h; exact ⟨b, L, h1, h2.trans hp⟩
theorem HM.z (h : HM w B0 t most M) : B0 ≤ t ∧ t < w.heap.size := by
  obtain ⟨b, L, h1, h2⟩ := h; exact ⟨h1.z.1, heap_lt h1.hs.tab⟩
theorem HM.bnd (h : HM w B0 t most M) : (M.length : Int) ≤ most ∧ most ≤ 65536 := by
  obtain ⟨b, L, h1, h2⟩ := h; have := h1.n; have := h2.length_eq; have := h1.mst; omega
/-- No key stands twice. -/
theorem ents_keys {hm : List UInt8 → Nat} {L : List (Option Ent)} (p : Prb hm L) : (ents L).Pairwise (fun a b => a.key ≠ b.key) := by
  have key : ∀ (L : List (Option Ent)), (∀ i j e f, plH L i = some e → plH L j = some f → e.key = f.key → i = j) → (ents L).Pairwise (fun a b => a.key ≠ b.key) := by
    intro L
    induction L with
    | nil => intro _; exact List.Pairwise.nil
    | cons o L ih =>
      intro hu
      have hu' : ∀ i j e f, plH L i = some e → plH L j = some f → e.key = f.key → i = j := fun i j e f h1 h2 h3 => by
        have := hu (i + 1) (j + 1) e f h1 h2 h3; omega
      cases o with
      | none => exact ih hu'
      | some x =>
        have e0 : ents (some x :: L) = x :: ents L := by simp [ents]
        rw [e0]
        refine List.pairwise_cons.2 ⟨fun y hy hk => ?_, ih hu'⟩
        obtain ⟨j, hj⟩ := mem_ents.1 hy
        have := hu 0 (j + 1) x y rfl hj hk
        omega
  exact key L p.uniq
theorem HM.keys (h : HM w B0 t most M) : M.Pairwise (fun a b => a.key ≠ b.key) := by
  obtain ⟨b, L, h1, h2⟩ := h
  exact h2.pairwise (ents_keys h1.prb) (fun e => e.symm)
theorem HM.uniq (h : HM w B0 t most M) {y : Ent} (hx : x ∈ M) (hy : y ∈ M) (hk : x.key = y.key) : x = y := by
  obtain ⟨A, C, rfl⟩ := List.append_of_mem hx
  have hp : (A ++ x :: C).Perm (x :: (A ++ C)) := List.perm_middle
  rcases List.mem_cons.1 (hp.mem_iff.1 hy) with e | hy'
  · exact e.symm
  · have := (List.pairwise_cons.1 (hp.pairwise h.keys (fun e => e.symm))).1 y hy'
    exact absurd hk this
theorem hm_new (most : Int) (w : World) (h0 : 0 ≤ most) (h1 : most ≤ 65536) (B0 : Nat) (hB : B0 ≤ w.heap.size) : Calls Tryd.prog 22 #[.int .i64 most] w fun e w' =>
    e = .returned (.tuple #[.pointer (some ⟨w.heap.size + 1, 0, none⟩), .int .i64 0]) ∧ HM w' B0 (w.heap.size + 1) most [] ∧ Below w.heap.size w w' :=
  (hsnew_ok most w h0 h1).mono fun e w' ⟨a, b, c⟩ => ⟨a, ⟨_, _, HTab.new ⟨h0, h1⟩ b ⟨Nat.le_succ_of_le hB, hB⟩, by rw [ents_rep]⟩, c⟩
theorem hm_put_new (h : HM w B0 t most M) (hn : ∀ x ∈ M, x.key ≠ key) (hm : (M.length : Int) < most) (n : Int) (hk : key.length ≤ 1000000) (hB : B0 ≤ w.heap.size) :
    Calls Tryd.prog 25 #[.pointer (some ⟨t, 0, none⟩), .string (strB key), .int .i64 n] w fun e w' => e = .returned (.int .i64 0) ∧ HM w' B0 t most (⟨key, n⟩ :: M) ∧ Below B0 w w' := by
  obtain ⟨b, L, h1, h2⟩ := h
  refine (hsput h1 key n hk hB).mono ?_
  rintro e w' ⟨b', L', q1, q2, q3⟩
  rcases q3 with ⟨x, R, r1, r2, _, _⟩ | ⟨r1, ⟨r2, _, _⟩ | ⟨r2, r3, rfl⟩⟩
  · exact absurd r1 (hn x (h2.mem_iff.1 (r2.mem_iff.2 (List.mem_cons_self ..))))
  · have := h2.length_eq; omega
  · exact ⟨rfl, ⟨b', L', q1, r3.trans (h2.cons _)⟩, q2⟩
theorem hm_put_full (h : HM w B0 t most M) (hn : ∀ x ∈ M, x.key ≠ key) (hm : (M.length : Int) ≥ most) (n : Int) (hk : key.length ≤ 1000000) (hB : B0 ≤ w.heap.size) :
    Calls Tryd.prog 25 #[.pointer (some ⟨t, 0, none⟩), .string (strB key), .int .i64 n] w fun e w' => e = .returned (.int .i64 7) ∧ HM w' B0 t most M ∧ Below B0 w w' := by
  obtain ⟨b, L, h1, h2⟩ := h
  refine (hsput h1 key n hk hB).mono ?_
  rintro e w' ⟨b', L', q1, q2, q3⟩
  rcases q3 with ⟨x, R, r1, r2, _, _⟩ | ⟨r1, ⟨_, r3, rfl⟩ | ⟨r2, _, _⟩⟩
  · exact absurd r1 (hn x (h2.mem_iff.1 (r2.mem_iff.2 (List.mem_cons_self ..))))
  · exact ⟨rfl, ⟨b', L', q1, by rw [r3]; exact h2⟩, q2⟩
  · have := h2.length_eq; omega
theorem hm_put_old (h : HM w B0 t most M) (hp : M.Perm (x :: R)) (n : Int) (hk : x.key.length ≤ 1000000) (hB : B0 ≤ w.heap.size) :
    Calls Tryd.prog 25 #[.pointer (some ⟨t, 0, none⟩), .string (strB x.key), .int .i64 n] w fun e w' => e = .returned (.int .i64 0) ∧ HM w' B0 t most (⟨x.key, n⟩ :: R) ∧ Below B0 w w' := by
  have hu : ∀ {y : Ent}, x ∈ M → y ∈ M → x.key = y.key → x = y := fun h1 h2 h3 => h.uniq h1 h2 h3
  have hxm : x ∈ M := hp.mem_iff.2 (List.mem_cons_self ..)
  obtain ⟨b, L, h1, h2⟩ := h
  refine (hsput h1 x.key n hk hB).mono ?_
  rintro e w' ⟨b', L', q1, q2, q3⟩
  rcases q3 with ⟨y, R', r1, r2, r3, rfl⟩ | ⟨r1, _⟩
  · obtain rfl := hu hxm (h2.mem_iff.1 (r2.mem_iff.2 (List.mem_cons_self ..))) r1.symm
    have : R'.Perm R := ((r2.symm.trans h2).trans hp).cons_inv
    exact ⟨rfl, ⟨b', L', q1, r3.trans (this.cons _)⟩, q2⟩
  · exact absurd rfl (r1 x (h2.mem_iff.2 hxm))
theorem hm_get_yes (h : HM w B0 t most M) (hx : x ∈ M) (hk : x.key.length ≤ 1000000) :
    Calls Tryd.prog 30 #[.pointer (some ⟨t, 0, none⟩), .string (strB x.key)] w fun e w' => e = .returned (.tuple #[.int .i64 x.n, .bool true]) ∧ Below w.heap.size w w' := by
  have hu : ∀ {y : Ent}, x ∈ M → y ∈ M → x.key = y.key → x = y := fun h1 h2 h3 => h.uniq h1 h2 h3
  obtain ⟨b, L, h1, h2⟩ := h
  refine (hsget h1 x.key hk).mono ?_
  rintro e w' ⟨hg, hb⟩
  rcases hg with ⟨y, r1, r2, rfl⟩ | ⟨r1, _⟩
  · rw [hu hx (h2.mem_iff.1 r1) r2.symm]; exact ⟨rfl, hb⟩
  · exact absurd rfl (r1 x (h2.mem_iff.2 hx))
theorem hm_get_no (h : HM w B0 t most M) (hn : ∀ x ∈ M, x.key ≠ key) (hk : key.length ≤ 1000000) :
    Calls Tryd.prog 30 #[.pointer (some ⟨t, 0, none⟩), .string (strB key)] w fun e w' => e = .returned (.tuple #[.int .i64 0, .bool false]) ∧ Below w.heap.size w w' := by
  obtain ⟨b, L, h1, h2⟩ := h
  refine (hsget h1 key hk).mono ?_
  rintro e w' ⟨hg, hb⟩
  rcases hg with ⟨y, r1, r2, _⟩ | ⟨_, rfl⟩
  · exact absurd r2 (hn y (h2.mem_iff.1 r1))
  · exact ⟨rfl, hb⟩
theorem hm_del_yes (h : HM w B0 t most M) (hp : M.Perm (x :: R)) (hk : x.key.length ≤ 1000000) (hB : B0 ≤ w.heap.size) :
    Calls Tryd.prog 29 #[.pointer (some ⟨t, 0, none⟩), .string (strB x.key)] w fun e w' => e = .returned (.bool true) ∧ HM w' B0 t most R ∧ Below B0 w w' := by
  have hu : ∀ {y : Ent}, x ∈ M → y ∈ M → x.key = y.key → x = y := fun h1 h2 h3 => h.uniq h1 h2 h3
  have hxm : x ∈ M := hp.mem_iff.2 (List.mem_cons_self ..)
  obtain ⟨b, L, h1, h2⟩ := h
  refine (hsdel h1 x.key hk hB).mono ?_
  rintro e w' ⟨L', q1, q2, _, q3⟩
  rcases q3 with ⟨y, r1, r2, rfl⟩ | ⟨r1, _⟩
  · obtain rfl := hu hxm (h2.mem_iff.1 (r2.mem_iff.2 (List.mem_cons_self ..))) r1.symm
    exact ⟨rfl, ⟨b, L', q1, ((r2.symm.trans h2).trans hp).cons_inv⟩, q2⟩
  · exact absurd rfl (r1 x (h2.mem_iff.2 hxm))
theorem hm_del_no (h : HM w B0 t most M) (hn : ∀ x ∈ M, x.key ≠ key) (hk : key.length ≤ 1000000) (hB : B0 ≤ w.heap.size) :
    Calls Tryd.prog 29 #[.pointer (some ⟨t, 0, none⟩), .string (strB key)] w fun e w' => e = .returned (.bool false) ∧ HM w' B0 t most M ∧ Below B0 w w' := by
  obtain ⟨b, L, h1, h2⟩ := h
  refine (hsdel h1 key hk hB).mono ?_
  rintro e w' ⟨L', q1, q2, _, q3⟩
  rcases q3 with ⟨y, r1, r2, _⟩ | ⟨_, rfl, rfl⟩
  · exact absurd r1 (hn y (h2.mem_iff.1 (r2.mem_iff.2 (List.mem_cons_self ..))))
  · exact ⟨rfl, ⟨b, L', q1, h2⟩, q2⟩
theorem hm_len (h : HM w B0 t most M) : Calls Tryd.prog 32 #[.pointer (some ⟨t, 0, none⟩)] w fun e w' => e = .returned (.int .i64 (M.length : Int)) ∧ w = w' := by
  obtain ⟨b, L, h1, h2⟩ := h
  have := hslen h1
  rwa [h2.length_eq] at this
end
end Go.Proofs.YtafidbjaeopciaaDoor

/-
  A slice of calls of a table of texts that came in, opened; calls whatever comes. Conditions are each theorem's own.
-/
namespace Go.Proofs.YtafidbjaeopciaaDoor
open Go.RowKit Go.ChangeShapes Go.WideShapes
/-- A call of a table of texts. -/
structure Dh where
  op : Int
  key : List UInt8
  n : Int
def clDh (y : Dh) : List Value := [.int .i64 y.op, .string (strB y.key), .int .i64 y.n]
theorem clDh_one (y : Dh) : (clDh y).toArray.all (·.oneCell') = true := by simp [clDh, Value.oneCell']
theorem cells_ath {w : World} {base n : Nat} {b off : Nat} {cs : List Value} (h : w.cells? base ⟨b, off, none⟩ n = some cs) : w.rangeAt b off cs := fun j u hj => by
  obtain ⟨_, hl, hc⟩ := World.cells?_some h
  have hlt : j < n := by rw [← hl]; exact (List.getElem?_eq_some_iff.1 hj).1
  have h1 := hc j hlt
  rw [add_off, hj] at h1
  exact h1
section
variable {H : Type} {enc : TypeId × Value → H} {w : World} {base : Nat} {v : Value} {d : DataW H} {p : List MemPlace}
theorem cell_strh {P : Program} {t : TypeId} {x : DataW H × List MemPlace} {n : Nat} {l : List Value} (ht : P.underlying t = some .string) (h : DataW.trod enc P w 0 (fun _ => true) true n t l = some x) : ∃ s : List UInt8, l = [.string (strB s)] ∧ s.length ≤ maxLen := by
  obtain ⟨s, hs, _, hw⟩ := DataW.trod_string ht h
  refine ⟨s.data.toList, ?_, by rw [Array.length_toList]; exact hw⟩
  rw [hs]
  rfl
end
theorem row_ofDh {w : World} {B : Nat} {A : Option Addr} {l : List Dh} {k : Nat} {x : Dh} (h : RdS clDh 3 w B A l) (hx : l[k]? = some x) : ∃ b o, A = some ⟨b, o, none⟩ ∧ b < B ∧ w.rangeAt b (o + k * 3) (clDh x) := by
  have hk := (List.getElem?_eq_some_iff.1 hx).1
  obtain ⟨b, o, e, hb, hc⟩ := h (by omega)
  exact ⟨b, o, e, hb, hc k x hx⟩
section
variable {w w' : World} {B0 t : Nat} {most : Int} {M R : List Ent} {x : Ent} {key : List UInt8} {n : Int}
theorem perm_split {M : List Ent} {key : List UInt8} (h : ∃ x ∈ M, x.key = key) : ∃ x R, x.key = key ∧ M.Perm (x :: R) := by
  obtain ⟨x, hx, hk⟩ := h
  obtain ⟨A, C, rfl⟩ := List.append_of_mem hx
  exact ⟨x, A ++ C, hk, List.perm_middle⟩
theorem hm_put_any (h : HM w B0 t most M) (hm : (M.length : Int) < most) (key : List UInt8) (n : Int) (hk : key.length ≤ 1000000) (hB : B0 ≤ w.heap.size) :
    Calls Tryd.prog 25 #[.pointer (some ⟨t, 0, none⟩), .string (strB key), .int .i64 n] w fun e w' => ∃ M', e = .returned (.int .i64 0) ∧ HM w' B0 t most M' ∧ Below B0 w w' ∧ M'.length ≤ M.length + 1 ∧ ∀ z ∈ M, z.key ≠ key → z ∈ M' := by
  by_cases hp : ∃ x ∈ M, x.key = key
  · obtain ⟨x, R, rfl, hq⟩ := perm_split hp
    refine (hm_put_old h hq n hk hB).mono ?_
    rintro e w' ⟨rfl, h1, h2⟩
    refine ⟨_, rfl, h1, h2, by rw [hq.length_eq]; simp, fun z hz hne => ?_⟩
    rcases List.mem_cons.1 (hq.mem_iff.1 hz) with rfl | h3
    · exact absurd rfl hne
    · exact List.mem_cons_of_mem _ h3
  · refine (hm_put_new h (fun x hx e => hp ⟨x, hx, e⟩) hm n hk hB).mono ?_
    rintro e w' ⟨rfl, h1, h2⟩
    exact ⟨_, rfl, h1, h2, Nat.le_refl _, fun z hz _ => List.mem_cons_of_mem _ hz⟩
theorem hm_del_any (h : HM w B0 t most M) (key : List UInt8) (hk : key.length ≤ 1000000) (hB : B0 ≤ w.heap.size) :
    Calls Tryd.prog 29 #[.pointer (some ⟨t, 0, none⟩), .string (strB key)] w fun e w' => ∃ q M', e = .returned (.bool q) ∧ HM w' B0 t most M' ∧ Below B0 w w' ∧ M'.length ≤ M.length + 1 ∧ ∀ z ∈ M, z.key ≠ key → z ∈ M' := by
  by_cases hp : ∃ x ∈ M, x.key = key
  · obtain ⟨x, R, rfl, hq⟩ := perm_split hp
    refine (hm_del_yes h hq hk hB).mono ?_
    rintro e w' ⟨rfl, h1, h2⟩
    refine ⟨_, _, rfl, h1, h2, by rw [hq.length_eq]; simp; omega, fun z hz hne => ?_⟩
    rcases List.mem_cons.1 (hq.mem_iff.1 hz) with rfl | h3
    · exact absurd rfl hne
    · exact h3
  · refine (hm_del_no h (fun x hx e => hp ⟨x, hx, e⟩) hk hB).mono ?_
    rintro e w' ⟨rfl, h1, h2⟩
    exact ⟨_, _, rfl, h1, h2, by omega, fun z hz _ => hz⟩
end
end Go.Proofs.YtafidbjaeopciaaDoor

/-
  Put and Delete of layer 18's code, and what they leave alone: blocks of other types. Conditions are each theorem's own.
-/
namespace Go.Proofs.YtafidbjaeopciaaDoor
open Go.RowKit Go.Shelf
/-- Blocks that are neither tables nor rows of places lie as they lay. -/
structure KH (X Y : World) : Prop where
  size : X.heap.size ≤ Y.heap.size
  block : ∀ (k : Nat) (cs : Array Value) (ty : TypeId) (fr : Nat × Nat), X.heap[k]? = some (.cells cs ty fr) → ty ≠ 80 → ty ≠ 85 → Y.heap[k]? = X.heap[k]?
section
variable {X Y Z : World}
theorem KH.trans (h : KH X Y) (k : KH Y Z) : KH X Z :=
  ⟨Nat.le_trans h.size k.size, fun i cs ty fr hi h1 h2 => (k.block i cs ty fr ((h.block i cs ty fr hi h1 h2).trans hi) h1 h2).trans (h.block i cs ty fr hi h1 h2)⟩
theorem KH.of_below (h : Below X.heap.size X Y) : KH X Y := ⟨h.size, fun _ _ _ _ hi _ _ => h.block _ (heap_lt hi)⟩
theorem KH.of_arr {b : Nat} {L : List (Option Ent)} (h : Kept (fun k => k = b) X Y) (a : ArrH X b L) : KH X Y := by
  obtain ⟨cur, h1, _⟩ := a.obj
  refine ⟨h.size, fun k cs ty fr hk _ h2 => h.block k (heap_lt hk) (fun e => ?_)⟩
  have e : k = b := e
  rw [e, h1] at hk
  injection hk with hk
  injection hk with _ e2 _
  exact h2 e2.symm
theorem KH.of_tab {t b : Nat} {c most : Int} {L : List (Option Ent)} (h : Kept (fun k => k = t) X Y) (a : Hs X t b c most L) : KH X Y := by
  refine ⟨h.size, fun k cs ty fr hk h1 _ => h.block k (heap_lt hk) (fun e => ?_)⟩
  have e : k = t := e
  rw [e, a.tab] at hk
  injection hk with hk
  injection hk with _ e2 _
  exact h1 e2.symm
theorem KH.set_tab {t b : Nat} {c most : Int} {L : List (Option Ent)} (a : Hs X t b c most L) (i : Nat) (v : Value) : KH X (X.setCell ⟨t, i, none⟩ v) := KH.of_tab (Kept.setCell X t i v) a
theorem KH.heap {b : Nat} {cs : Array Value} {ty : TypeId} {fr : Nat × Nat} (k : KH X Y) (h : X.heap[b]? = some (.cells cs ty fr)) (h1 : ty ≠ 80) (h2 : ty ≠ 85) : Y.heap[b]? = some (.cells cs ty fr) := (k.block b cs ty fr h h1 h2).trans h
end
section
variable {w w' : World} {B0 t b : Nat} {most : Int} {L : List (Option Ent)}
/-- What Delete leaves. -/
def DelK (w : World) (B0 t b : Nat) (most : Int) (L : List (Option Ent)) (key : List UInt8) (e : Ending) (w' : World) : Prop :=
  ∃ L', HTab w' B0 t b most L' ∧ (Below B0 w w' ∧ KH w w') ∧ L'.length = L.length ∧ ((∃ x, x.key = key ∧ (ents L).Perm (x :: ents L') ∧ e = .returned (.bool true)) ∨ ((∀ x ∈ ents L, x.key ≠ key) ∧ L' = L ∧ e = .returned (.bool false)))
set_option maxRecDepth 100000 in
theorem hsdelK (h : HTab w B0 t b most L) (key : List UInt8) (hk : key.length ≤ 1000000) (hB : B0 ≤ w.heap.size) : Calls Tryd.prog 29 #[.pointer (some ⟨t, 0, none⟩), .string (strB key)] w fun e w' => DelK w B0 t b most L key e w' := by
  have k0 := h.hs.c0
  have H := Lib.hid h
  by_cases hp : ∃ i x, plH L i = some x ∧ x.key = key
  · obtain ⟨i, x, hx, rfl⟩ := hp
    have hi := plH_lt hx
    have HX := Lib.hid hx
    have hpm := ents_take hx
    have hpl := hpm.length_eq
    rw [List.length_cons] at hpl
    have HP := Lib.hid hpm
    have HPL := Lib.hid hpl
    have HFD := Lib.hid (hsfind_yes h hx)
    clear h hx hpm hpl
    go_enter Tryd.func29, Tryd.ntmps29
    go_wp2_with (first
      | (go_at_call 33; refine (hsmade t b _ _ _ k0).mono ?_; rintro e w1 ⟨rfl, rfl⟩)
      | (go_at_call 34; refine (hsmark x.key _ hk).mono ?_; rintro e w1 ⟨rfl, rfl⟩)
      | (go_at_call 40; refine (hsfree (H.out.hs.below x1) H.out.prb i x HX.out (by have := H.out.len; omega) H.out.free).mono ?_; rintro e w2 ⟨rfl, L', f1, f2, f3, f4, f5⟩; have F1 := Lib.hid f1; have F2 := Lib.hid (show _ ∧ _ ∧ _ ∧ _ from ⟨f2, f3, f4, f5⟩); have kc1 := f1.c1; have kf1 := heap_frozen f1.tab 1; clear f1 f2 f3 f4 f5)
      | (go_at_call 35; refine HFD.out.mono ?_; rintro e w1 ⟨rfl, x1⟩))
    obtain ⟨f2, f3, f4, f5⟩ := F2.out
    have hlen2 := f4.length_eq
    have hc : wrap64 (((ents L).length : Int) - 1) = ((ents L').length : Int) := by
      rw [IntWalk.wrap64_in _ (by have := H.out.n; have := H.out.mst; omega), HPL.out, hlen2]; omega
    rw [hc]
    have hz := H.out.z
    have hb1 : Below B0 w w1 := x1.mono hB
    have hb2 : Below B0 w1 w2 := f5.below (Nat.le_trans hB x1.size) (fun k e => by rw [e]; exact hz.2)
    have hb3 := hb1.trans hb2
    refine bodyPost_ret (results_tmp rfl _ _ _) rfl ⟨L', ⟨F1.out.cnt _, f3, ?_, by rw [f2]; exact H.out.len, H.out.mst, ?_, hz⟩, ⟨hb3.setCell (p := ⟨t, 1, none⟩) hz.1 _, ((KH.of_below x1).trans (KH.of_arr f5 (H.out.below x1).hs.arr)).trans (KH.set_tab F1.out 1 _)⟩, f2, .inl ⟨x, rfl, HP.out.trans (f4.symm.cons x), rfl⟩⟩
    · have := H.out.half; rw [f2, hlen2]; have := HPL.out; omega
    · have := H.out.n; rw [hlen2]; have := HPL.out; omega
  · have hn : ∀ i x, plH L i = some x → x.key ≠ key := fun i x hx e => hp ⟨i, x, hx, e⟩
    have HN := Lib.hid hn
    have HFD := Lib.hid (hsfind_no h hn)
    clear h hn hp
    go_enter Tryd.func29, Tryd.ntmps29
    go_wp2_with (first
      | (go_at_call 33; refine (hsmade t b _ _ _ k0).mono ?_; rintro e w1 ⟨rfl, rfl⟩)
      | (go_at_call 34; refine (hsmark key _ hk).mono ?_; rintro e w1 ⟨rfl, rfl⟩)
      | (go_at_call 35; refine HFD.out.mono ?_; rintro e w1 ⟨rfl, x1⟩))
    exact bodyPost_ret (results_tmp rfl _ _ _) rfl ⟨L, H.out.below x1, ⟨x1.mono hB, KH.of_below x1⟩, rfl, .inr ⟨fun x hx => by obtain ⟨i, h1⟩ := mem_ents.1 hx; exact HN.out i x h1, rfl, rfl⟩⟩
/-- What Put leaves. -/
def PutK (w : World) (B0 t : Nat) (most : Int) (L : List (Option Ent)) (key : List UInt8) (n : Int) (e : Ending) (w' : World) : Prop :=
  ∃ b' L', HTab w' B0 t b' most L' ∧ (Below B0 w w' ∧ KH w w') ∧
    ((∃ x R, x.key = key ∧ (ents L).Perm (x :: R) ∧ (ents L').Perm (⟨key, n⟩ :: R) ∧ e = .returned (.int .i64 0)) ∨
     ((∀ x ∈ ents L, x.key ≠ key) ∧ ((((ents L).length : Int) ≥ most ∧ ents L' = ents L ∧ e = .returned (.int .i64 7)) ∨ (((ents L).length : Int) < most ∧ (ents L').Perm (⟨key, n⟩ :: ents L) ∧ e = .returned (.int .i64 0)))))
theorem putK_end {w w5 w6 w7 : World} {B0 t b2 C r : Nat} {most : Int} {L L2 : List (Option Ent)} {key : List UInt8} {n : Int} (_ : Hs w5 t b2 (C : Int) most L2) (g : Prb (hmN L2.length) L2 ∧ (ents L2).Perm (ents L) ∧ 2 * (C + 1) ≤ L2.length ∧ L2.length ≤ 300000 ∧ B0 ≤ b2) (hC : C = (ents L).length) (hz : B0 ≤ t ∧ B0 ≤ b2 ∨ B0 ≤ t) (hlt : (C : Int) < most) (hms : 0 ≤ most ∧ most ≤ 65536)
    (hn : ∀ x ∈ ents L, x.key ≠ key) (x6 : Below w5.heap.size w5 w6) (h5 : B0 ≤ w5.heap.size) (b5 : Below B0 w w5) (k5 : KH w w5) (G6 : Hs w6 t b2 (C : Int) most L2) (r4 : Hs w7 t b2 (C : Int) most (L2.set (rnd L2.length (hmN L2.length key) r) (some ⟨key, n⟩)))
    (R : r < L2.length ∧ (∀ d, d < r → plH L2 (rnd L2.length (hmN L2.length key) d) ≠ none) ∧ plH L2 (rnd L2.length (hmN L2.length key) r) = none ∧ Kept (fun k => k = b2) w6 w7) :
    PutK w B0 t most L key n (.returned (.int .i64 0)) (w7.setCell ⟨t, 1, none⟩ (.int .i64 ((C : Int) + 1))) := by
  obtain ⟨g1, g2, g3, g4, g5⟩ := g
  obtain ⟨r1, r2, r3, r5⟩ := R
  have hzt : B0 ≤ t := by rcases hz with h | h; exact h.1; exact h
  have hp := ents_put (e := (⟨key, n⟩ : Ent)) (rnd_lt (g1.home key) r1) r3
  have hl := hp.length_eq
  rw [List.length_cons, g2.length_eq, ← hC] at hl
  have hb : Below B0 w w7 := (b5.trans (x6.mono h5)).trans (r5.below (Nat.le_trans h5 x6.size) (fun k e => by have e' : k = b2 := e; rw [e']; exact g5))
  have hq : (ents (L2.set (rnd L2.length (hmN L2.length key) r) (some ⟨key, n⟩))).Perm (⟨key, n⟩ :: ents L) := hp.trans (g2.cons _)
  have hlt' : ((ents L).length : Int) < most := by rw [← hC]; exact hlt
  have hpr : Prb (hmN L2.length) (L2.set (rnd L2.length (hmN L2.length key) r) (some ⟨key, n⟩)) := by
    refine Prb.put (x := (⟨key, n⟩ : Ent)) g1 (fun i e he hk => ?_) r1 r2
    exact hn e (g2.mem_iff.1 (mem_ents.2 ⟨i, he⟩)) hk
  have h4 := r4.cnt ((C : Int) + 1)
  have hlc : ((C : Int) + 1) = ((ents (L2.set (rnd L2.length (hmN L2.length key) r) (some ⟨key, n⟩))).length : Int) := by rw [hl]; omega
  have hbs := hb.setCell (p := ⟨t, 1, none⟩) hzt (.int .i64 ((C : Int) + 1))
  obtain ⟨L3, hL3⟩ : ∃ L3, L3 = L2.set (rnd L2.length (hmN L2.length key) r) (some (⟨key, n⟩ : Ent)) := ⟨_, rfl⟩
  have hlm : L2.length = L3.length := by rw [hL3, List.length_set]
  rw [← hL3] at hpr hq h4 hlc hl
  rw [hlm] at hpr g3 g4
  have hg3 : 2 * (ents L3).length ≤ L3.length := by omega
  have hg4 : ((ents L3).length : Int) ≤ most := by omega
  have kk := ((k5.trans (KH.of_below x6)).trans (KH.of_arr r5 G6.arr)).trans (KH.set_tab r4 1 (.int .i64 ((C : Int) + 1)))
  rw [hlc] at h4 hbs kk ⊢
  exact ⟨b2, L3, ⟨h4, hpr, hg3, g4, hms, hg4, hzt, g5⟩, ⟨hbs, kk⟩, Or.inr ⟨hn, Or.inr ⟨hlt', hq, rfl⟩⟩⟩
set_option maxRecDepth 100000 in
set_option maxHeartbeats 2000000 in
theorem hsputK (h : HTab w B0 t b most L) (key : List UInt8) (n : Int) (hk : key.length ≤ 1000000) (hB : B0 ≤ w.heap.size) : Calls Tryd.prog 25 #[.pointer (some ⟨t, 0, none⟩), .string (strB key), .int .i64 n] w fun e w' => PutK w B0 t most L key n e w' := by
  have k0 := h.hs.c0
  have H := Lib.hid h
  by_cases hp : ∃ i x, plH L i = some x ∧ x.key = key
  · obtain ⟨i, x, hx, rfl⟩ := hp
    have hi := plH_lt hx
    have HX := Lib.hid hx
    have HFD := Lib.hid (hsfind_yes h hx)
    have hF : ∀ V, Below w.heap.size w V → V.cell? ⟨t, 0, none⟩ = some (.slice (some ⟨b, 0, none⟩) L.length L.length) ∧ V.cell? ⟨b, i * 4 + 3, none⟩ = some (.int .i64 x.n) ∧ V.frozen? ⟨b, i * 4 + 3, none⟩ = false := fun V hV => by
      have h1 := (h.hs.below hV)
      have h2 := h1.at_ (plH_get hi)
      rw [hx] at h2
      obtain ⟨cur, h3, _⟩ := h1.arr.obj
      exact ⟨h1.c0, h2 3 _ rfl, heap_frozen h3 _⟩
    have HF := Lib.hid hF
    clear h hx hF
    go_enter Tryd.func25, Tryd.ntmps25
    go_wp2_with (first
      | (go_at_call 33; refine (hsmade t b _ _ _ k0).mono ?_; rintro e w1 ⟨rfl, rfl⟩)
      | (go_at_call 34; refine (hsmark x.key _ hk).mono ?_; rintro e w1 ⟨rfl, rfl⟩)
      | (go_at_call 35; refine HFD.out.mono ?_; rintro e w1 ⟨rfl, x1⟩; have hq := HF.out _ x1; obtain ⟨q1, q2, q3⟩ := hq))
    have h1 := H.out.below x1
    obtain ⟨R, p1, p2⟩ := ents_change HX.out ⟨x.key, n⟩
    have hz := H.out.z
    have hle := p1.length_eq
    have hle2 := p2.length_eq
    rw [List.length_cons] at hle hle2
    refine bodyPost_ret (results_tmp rfl _ _ _) rfl ⟨b, L.set i (some ⟨x.key, n⟩), ⟨⟨?_, h1.hs.arr.setN HX.out n⟩, by rw [List.length_set]; exact H.out.prb.change HX.out n, by rw [List.length_set, hle2, ← hle]; exact H.out.half, by rw [List.length_set]; exact H.out.len, H.out.mst, by rw [hle2, ← hle]; exact H.out.n, hz⟩, ⟨(x1.mono hB).setCell (p := ⟨b, i * 4 + 3, none⟩) hz.2 _, (KH.of_below x1).trans (KH.of_arr (Kept.setCell w1 b (i * 4 + 3) _) h1.hs.arr)⟩, .inl ⟨x, R, rfl, p1, p2, rfl⟩⟩
    rw [List.length_set, hle2, ← hle]
    exact (heap_setCell_other w1 ⟨b, i * 4 + 3, none⟩ _ _ h1.hs.ne).trans h1.hs.tab
  · have hn : ∀ i x, plH L i = some x → x.key ≠ key := fun i x hx e => hp ⟨i, x, hx, e⟩
    have HN := Lib.hid hn
    have HNE : Hid (∀ x ∈ ents L, x.key ≠ key) := Lib.hid fun x hx => by obtain ⟨i, h1⟩ := mem_ents.1 hx; exact hn i x h1
    have HFD := Lib.hid (hsfind_no h hn)
    obtain ⟨C, hC⟩ : ∃ C, C = (ents L).length := ⟨_, rfl⟩
    have hCm := h.n
    have hms := h.mst
    have hlen := h.len
    have hhalf := h.half
    have hL0 := h.prb.home []
    have hF : ∀ V, Below w.heap.size w V → V.cell? ⟨t, 0, none⟩ = some (.slice (some ⟨b, 0, none⟩) L.length L.length) ∧ V.cell? ⟨t, 1, none⟩ = some (.int .i64 (C : Int)) ∧ V.cell? ⟨t, 2, none⟩ = some (.int .i64 most) := fun V hV => by
      have h1 := (h.hs.below hV)
      exact ⟨h1.c0, by rw [hC]; exact h1.c1, h1.c2⟩
    have HF := Lib.hid hF
    rw [← hC] at hCm hhalf
    have HC := Lib.hid hC
    clear h hn hp hF hC
    go_enter Tryd.func25, Tryd.ntmps25
    go_upto_region 8 with (first
      | (go_at_call 33; refine (hsmade t b _ _ _ k0).mono ?_; rintro e w1 ⟨rfl, rfl⟩)
      | (go_at_call 34; refine (hsmark key _ hk).mono ?_; rintro e w1 ⟨rfl, rfl⟩)
      | (go_at_call 35; refine HFD.out.mono ?_; rintro e w1 ⟨rfl, x1⟩; have H1 := Lib.hid (H.out.below x1); have KC0 : Hid (∀ V, Below w1.heap.size w1 V → V.cell? ⟨t, 0, none⟩ = some (.slice (some ⟨b, 0, none⟩) L.length L.length)) := Lib.hid (fun V hV => (HF.out V (x1.trans (hV.mono x1.size))).1); have KC1 : Hid (∀ V, Below w1.heap.size w1 V → V.cell? ⟨t, 1, none⟩ = some (.int .i64 (C : Int))) := Lib.hid (fun V hV => (HF.out V (x1.trans (hV.mono x1.size))).2.1); have KC2 : Hid (∀ V, Below w1.heap.size w1 V → V.cell? ⟨t, 2, none⟩ = some (.int .i64 most)) := Lib.hid (fun V hV => (HF.out V (x1.trans (hV.mono x1.size))).2.2)))
    by_cases hfull : (C : Int) ≥ most
    · have dF : decide (most ≤ (C : Int)) = true := decide_eq_true hfull
      refine wp_region_held_drew (S := fun w' => Below w1.heap.size w1 w') (by kernel_rfl) (Below.refl _ _).drew (fun hS => ?_)
      refine held_pure (i := 0) (oi := ⟨some 31, _, _, _, _, _⟩) rfl (by kernel_rfl) (by kernel_rfl) (by kernel_rfl) (fun _ _ _ h => h) (by rfl) (v := ?_) (fun w hSw => ?_) hS (fun hS => ?_)
      rotate_left
      · go_simp; try with_reducible rfl
      try go_frame
      refine held_pure (i := 1) (oi := ⟨some 32, _, _, _, _, _⟩) rfl (by kernel_rfl) (by kernel_rfl) (by kernel_rfl) (fun _ _ _ h => h) (by rfl) (v := ?_) (fun w hSw => ?_) hS (fun hS => ?_)
      rotate_left
      · go_simp; try with_reducible rfl
      try go_frame
      refine held_pure (i := 2) (oi := ⟨some 33, _, _, _, _, _⟩) rfl (by kernel_rfl) (by kernel_rfl) (by kernel_rfl) (fun _ _ _ h => h) (by rfl) (v := ?_) (fun w hSw => ?_) hS (fun hS => ?_)
      rotate_left
      · go_simp; try with_reducible rfl
      try go_frame
      refine held_pure (i := 3) (oi := ⟨some 34, _, _, _, _, _⟩) rfl (by kernel_rfl) (by kernel_rfl) (by kernel_rfl) (fun _ _ _ h => h) (by rfl) (fun w hSw => run_load_int rfl rfl (KC1.out _ hSw)) hS (fun hS => ?_)
      try go_frame
      refine held_pure (i := 4) (oi := ⟨some 35, _, _, _, _, _⟩) rfl (by kernel_rfl) (by kernel_rfl) (by kernel_rfl) (fun _ _ _ h => h) (by rfl) (v := ?_) (fun w hSw => ?_) hS (fun hS => ?_)
      rotate_left
      · go_simp; try with_reducible rfl
      try go_frame
      refine held_pure (i := 5) (oi := ⟨some 36, _, _, _, _, _⟩) rfl (by kernel_rfl) (by kernel_rfl) (by kernel_rfl) (fun _ _ _ h => h) (by rfl) (v := ?_) (fun w hSw => ?_) hS (fun hS => ?_)
      rotate_left
      · go_simp; try with_reducible rfl
      try go_frame
      refine held_pure (i := 6) (oi := ⟨some 37, _, _, _, _, _⟩) rfl (by kernel_rfl) (by kernel_rfl) (by kernel_rfl) (fun _ _ _ h => h) (by rfl) (v := ?_) (fun w hSw => ?_) hS (fun hS => ?_)
      rotate_left
      · go_simp; try with_reducible rfl
      try go_frame
      refine held_pure (i := 7) (oi := ⟨some 38, _, _, _, _, _⟩) rfl (by kernel_rfl) (by kernel_rfl) (by kernel_rfl) (fun _ _ _ h => h) (by rfl) (fun w hSw => run_load_int rfl rfl (KC2.out _ hSw)) hS (fun hS => ?_)
      try go_frame
      refine held_pure (i := 8) (oi := ⟨some 39, _, _, _, _, _⟩) rfl (by kernel_rfl) (by kernel_rfl) (by kernel_rfl) (fun _ _ _ h => h) (by rfl) (v := .bool true) (fun w hSw => by go_simp; try exact dF) hS (fun hS => ?_)
      try go_frame
      refine wpAnyH_done (by kernel_rfl) ?_ _
      go_wp2
      refine bodyPost_ret (results_tmp rfl _ _ _) rfl ⟨b, L, H.out.below (x1.trans (hS.mono x1.size)), ⟨(x1.trans (hS.mono x1.size)).mono hB, KH.of_below (x1.trans (hS.mono x1.size))⟩, .inr ⟨HNE.out, .inl ⟨by rw [← HC.out]; exact hfull, rfl, rfl⟩⟩⟩
    · have dF : decide (most ≤ (C : Int)) = false := decide_eq_false hfull
      have HW1 : Hid (IntKind.i64.wrap ((C : Int) + 1) = (C : Int) + 1) := Lib.hid (IntWalk.i64_in _ (by omega))
      have HW2 : Hid (IntKind.i64.wrap (2 * ((C : Int) + 1)) = 2 * ((C : Int) + 1)) := Lib.hid (IntWalk.i64_in _ (by omega))
      refine wp_region_held_drew (S := fun w' => Below w1.heap.size w1 w') (by kernel_rfl) (Below.refl _ _).drew (fun hS => ?_)
      refine held_pure (i := 0) (oi := ⟨some 31, _, _, _, _, _⟩) rfl (by kernel_rfl) (by kernel_rfl) (by kernel_rfl) (fun _ _ _ h => h) (by rfl) (v := ?_) (fun w hSw => ?_) hS (fun hS => ?_)
      rotate_left
      · go_simp; try with_reducible rfl
      try go_frame
      refine held_pure (i := 1) (oi := ⟨some 32, _, _, _, _, _⟩) rfl (by kernel_rfl) (by kernel_rfl) (by kernel_rfl) (fun _ _ _ h => h) (by rfl) (v := ?_) (fun w hSw => ?_) hS (fun hS => ?_)
      rotate_left
      · go_simp; try with_reducible rfl
      try go_frame
      refine held_pure (i := 2) (oi := ⟨some 33, _, _, _, _, _⟩) rfl (by kernel_rfl) (by kernel_rfl) (by kernel_rfl) (fun _ _ _ h => h) (by rfl) (v := ?_) (fun w hSw => ?_) hS (fun hS => ?_)
      rotate_left
      · go_simp; try with_reducible rfl
      try go_frame
      refine held_pure (i := 3) (oi := ⟨some 34, _, _, _, _, _⟩) rfl (by kernel_rfl) (by kernel_rfl) (by kernel_rfl) (fun _ _ _ h => h) (by rfl) (fun w hSw => run_load_int rfl rfl (KC1.out _ hSw)) hS (fun hS => ?_)
      try go_frame
      refine held_pure (i := 4) (oi := ⟨some 35, _, _, _, _, _⟩) rfl (by kernel_rfl) (by kernel_rfl) (by kernel_rfl) (fun _ _ _ h => h) (by rfl) (v := ?_) (fun w hSw => ?_) hS (fun hS => ?_)
      rotate_left
      · go_simp; try with_reducible rfl
      try go_frame
      refine held_pure (i := 5) (oi := ⟨some 36, _, _, _, _, _⟩) rfl (by kernel_rfl) (by kernel_rfl) (by kernel_rfl) (fun _ _ _ h => h) (by rfl) (v := ?_) (fun w hSw => ?_) hS (fun hS => ?_)
      rotate_left
      · go_simp; try with_reducible rfl
      try go_frame
      refine held_pure (i := 6) (oi := ⟨some 37, _, _, _, _, _⟩) rfl (by kernel_rfl) (by kernel_rfl) (by kernel_rfl) (fun _ _ _ h => h) (by rfl) (v := ?_) (fun w hSw => ?_) hS (fun hS => ?_)
      rotate_left
      · go_simp; try with_reducible rfl
      try go_frame
      refine held_pure (i := 7) (oi := ⟨some 38, _, _, _, _, _⟩) rfl (by kernel_rfl) (by kernel_rfl) (by kernel_rfl) (fun _ _ _ h => h) (by rfl) (fun w hSw => run_load_int rfl rfl (KC2.out _ hSw)) hS (fun hS => ?_)
      try go_frame
      refine held_pure (i := 8) (oi := ⟨some 39, _, _, _, _, _⟩) rfl (by kernel_rfl) (by kernel_rfl) (by kernel_rfl) (fun _ _ _ h => h) (by rfl) (v := .bool false) (fun w hSw => by go_simp; try exact dF) hS (fun hS => ?_)
      try go_frame
      refine wpAnyH_done (by kernel_rfl) ?_ _
      go_upto_region 10 with fail
      have hz := H.out.z
      have hW4 : Below w1.heap.size w1 w1.drew.drew := (Below.refl w1.heap.size w1).drew.drew
      have H4 := H1.out.below hW4
      have b4 : Below B0 w w1.drew.drew := (x1.trans (hW4.mono x1.size)).mono hB
      by_cases hg : 2 * (C + 1) > L.length
      · have dG : decide ((L.length : Int) < 2 * ((C : Int) + 1)) = true := decide_eq_true (by omega)
        refine wp_region_held_drew (S := fun w' => Below w1.heap.size w1 w') (by kernel_rfl) (Below.refl w1.heap.size w1).drew.drew (fun hS => ?_)
        refine held_pure (i := 0) (oi := ⟨some 40, _, _, _, _, _⟩) rfl (by kernel_rfl) (by kernel_rfl) (by kernel_rfl) (fun _ _ _ h => h) (by rfl) (v := ?_) (fun w hSw => ?_) hS (fun hS => ?_)
        rotate_left
        · go_simp; try with_reducible rfl
        try go_frame
        refine held_pure (i := 1) (oi := ⟨some 41, _, _, _, _, _⟩) rfl (by kernel_rfl) (by kernel_rfl) (by kernel_rfl) (fun _ _ _ h => h) (by rfl) (v := ?_) (fun w hSw => ?_) hS (fun hS => ?_)
        rotate_left
        · go_simp; try with_reducible rfl
        try go_frame
        refine held_pure (i := 2) (oi := ⟨some 42, _, _, _, _, _⟩) rfl (by kernel_rfl) (by kernel_rfl) (by kernel_rfl) (fun _ _ _ h => h) (by rfl) (v := ?_) (fun w hSw => ?_) hS (fun hS => ?_)
        rotate_left
        · go_simp; try with_reducible rfl
        try go_frame
        refine held_pure (i := 3) (oi := ⟨some 43, _, _, _, _, _⟩) rfl (by kernel_rfl) (by kernel_rfl) (by kernel_rfl) (fun _ _ _ h => h) (by rfl) (fun w hSw => run_load_int rfl rfl (KC1.out _ hSw)) hS (fun hS => ?_)
        try go_frame
        refine held_pure (i := 4) (oi := ⟨some 44, _, _, _, _, _⟩) rfl (by kernel_rfl) (by kernel_rfl) (by kernel_rfl) (fun _ _ _ h => h) (by rfl) (v := .int .i64 ((C : Int) + 1)) (fun w hSw => by go_simp; try exact HW1.out) hS (fun hS => ?_)
        try go_frame
        refine held_pure (i := 5) (oi := ⟨some 45, _, _, _, _, _⟩) rfl (by kernel_rfl) (by kernel_rfl) (by kernel_rfl) (fun _ _ _ h => h) (by rfl) (v := .int .i64 (2 * ((C : Int) + 1))) (fun w hSw => by go_simp; try exact HW2.out) hS (fun hS => ?_)
        try go_frame
        refine held_pure (i := 6) (oi := ⟨some 46, _, _, _, _, _⟩) rfl (by kernel_rfl) (by kernel_rfl) (by kernel_rfl) (fun _ _ _ h => h) (by rfl) (v := ?_) (fun w hSw => ?_) hS (fun hS => ?_)
        rotate_left
        · go_simp; try with_reducible rfl
        try go_frame
        refine held_pure (i := 7) (oi := ⟨some 47, _, _, _, _, _⟩) rfl (by kernel_rfl) (by kernel_rfl) (by kernel_rfl) (fun _ _ _ h => h) (by rfl) (v := ?_) (fun w hSw => ?_) hS (fun hS => ?_)
        rotate_left
        · go_simp; try with_reducible rfl
        try go_frame
        refine held_pure (i := 8) (oi := ⟨some 48, _, _, _, _, _⟩) rfl (by kernel_rfl) (by kernel_rfl) (by kernel_rfl) (fun _ _ _ h => h) (by rfl) (v := ?_) (fun w hSw => ?_) hS (fun hS => ?_)
        rotate_left
        · go_simp; try with_reducible rfl
        try go_frame
        refine held_pure (i := 9) (oi := ⟨some 49, _, _, _, _, _⟩) rfl (by kernel_rfl) (by kernel_rfl) (by kernel_rfl) (fun _ _ _ h => h) (by rfl) (fun w hSw => run_load_hsar rfl rfl (KC0.out _ hSw)) hS (fun hS => ?_)
        try go_frame
        refine held_pure (i := 10) (oi := ⟨some 50, _, _, _, _, _⟩) rfl (by kernel_rfl) (by kernel_rfl) (by kernel_rfl) (fun _ _ _ h => h) (by rfl) (v := ?_) (fun w hSw => ?_) hS (fun hS => ?_)
        rotate_left
        · go_simp; try with_reducible rfl
        try go_frame
        refine held_pure (i := 11) (oi := ⟨some 51, _, _, _, _, _⟩) rfl (by kernel_rfl) (by kernel_rfl) (by kernel_rfl) (fun _ _ _ h => h) (by rfl) (v := .bool true) (fun w hSw => by go_simp; try exact dG) hS (fun hS => ?_)
        try go_frame
        refine wpAnyH_done (by kernel_rfl) ?_ _
        go_wp2_with (first
          | (go_at_call 36; refine (hsgrow H4.hs H4.prb (by omega)).mono ?_; rintro e w5 ⟨rfl, b2, L2, g1, g2, g3, g4, g5, g6⟩; have hz4 := hW4.size; have hz0 := x1.size; have b5 : Below B0 w w5 := b4.trans (g5.below (by have := b4.size; omega) (fun k e => by have e' : k = t := e; rw [e']; exact hz.1)); have k5 : KH w w5 := (KH.of_below (x1.trans (hW4.mono x1.size))).trans (KH.of_tab g5 H4.hs); have G := Lib.hid (show Hs w5 t b2 (C : Int) most L2 ∧ Prb (hmN L2.length) L2 ∧ (ents L2).Perm (ents L) ∧ 2 * (C + 1) ≤ L2.length ∧ L2.length ≤ 300000 ∧ B0 ≤ b2 from ⟨by rw [HC.out]; exact g1, g3, g4, by omega, by omega, by omega⟩); clear g1 g2 g3 g4 g5)
          | (go_at_call 38; refine (hsclone key _ hk).mono ?_; rintro e w6 ⟨rfl, x6⟩; have G6 := Lib.hid (G.out.1.below x6))
          | (go_at_call 37; refine (hskeep G6.out ⟨key, n⟩ (G.out.2.1.home _) (by have := G.out.2.2.2.2.1; omega) (free_of_lt (by rw [G.out.2.2.1.length_eq, ← HC.out]; have := G.out.2.2.2.1; omega))).mono ?_; rintro e w7 ⟨rfl, r, r1, r2, r3, r4, r5⟩; have R := Lib.hid (show _ ∧ _ ∧ _ ∧ _ from ⟨r1, r2, r3, r5⟩); have R4 := Lib.hid r4; have kc1 := r4.c1; have kf1 := heap_frozen r4.tab 1; clear r1 r2 r3 r4 r5))
        refine bodyPost_ret (results_tmp rfl _ _ _) rfl ?_
        exact (putK_end G.out.1 G.out.2 HC.out (.inr hz.1) (by omega) hms HNE.out x6 (Nat.le_trans hB b5.size) b5 k5 G6.out R4.out R.out)
      · have dG : decide ((L.length : Int) < 2 * ((C : Int) + 1)) = false := decide_eq_false (by omega)
        have G : Hid (Hs w1.drew.drew t b (C : Int) most L ∧ Prb (hmN L.length) L ∧ (ents L).Perm (ents L) ∧ 2 * (C + 1) ≤ L.length ∧ L.length ≤ 300000 ∧ B0 ≤ b) := Lib.hid ⟨by rw [HC.out]; exact H4.hs, H4.prb, List.Perm.refl _, by omega, by omega, hz.2⟩
        have b5 := b4
        have k5 : KH w w1.drew.drew := KH.of_below (x1.trans (hW4.mono x1.size))
        refine wp_region_held_drew (S := fun w' => Below w1.heap.size w1 w') (by kernel_rfl) (Below.refl w1.heap.size w1).drew.drew (fun hS => ?_)
        refine held_pure (i := 0) (oi := ⟨some 40, _, _, _, _, _⟩) rfl (by kernel_rfl) (by kernel_rfl) (by kernel_rfl) (fun _ _ _ h => h) (by rfl) (v := ?_) (fun w hSw => ?_) hS (fun hS => ?_)
        rotate_left
        · go_simp; try with_reducible rfl
        try go_frame
        refine held_pure (i := 1) (oi := ⟨some 41, _, _, _, _, _⟩) rfl (by kernel_rfl) (by kernel_rfl) (by kernel_rfl) (fun _ _ _ h => h) (by rfl) (v := ?_) (fun w hSw => ?_) hS (fun hS => ?_)
        rotate_left
        · go_simp; try with_reducible rfl
        try go_frame
        refine held_pure (i := 2) (oi := ⟨some 42, _, _, _, _, _⟩) rfl (by kernel_rfl) (by kernel_rfl) (by kernel_rfl) (fun _ _ _ h => h) (by rfl) (v := ?_) (fun w hSw => ?_) hS (fun hS => ?_)
        rotate_left
        · go_simp; try with_reducible rfl
        try go_frame
        refine held_pure (i := 3) (oi := ⟨some 43, _, _, _, _, _⟩) rfl (by kernel_rfl) (by kernel_rfl) (by kernel_rfl) (fun _ _ _ h => h) (by rfl) (fun w hSw => run_load_int rfl rfl (KC1.out _ hSw)) hS (fun hS => ?_)
        try go_frame
        refine held_pure (i := 4) (oi := ⟨some 44, _, _, _, _, _⟩) rfl (by kernel_rfl) (by kernel_rfl) (by kernel_rfl) (fun _ _ _ h => h) (by rfl) (v := .int .i64 ((C : Int) + 1)) (fun w hSw => by go_simp; try exact HW1.out) hS (fun hS => ?_)
        try go_frame
        refine held_pure (i := 5) (oi := ⟨some 45, _, _, _, _, _⟩) rfl (by kernel_rfl) (by kernel_rfl) (by kernel_rfl) (fun _ _ _ h => h) (by rfl) (v := .int .i64 (2 * ((C : Int) + 1))) (fun w hSw => by go_simp; try exact HW2.out) hS (fun hS => ?_)
        try go_frame
        refine held_pure (i := 6) (oi := ⟨some 46, _, _, _, _, _⟩) rfl (by kernel_rfl) (by kernel_rfl) (by kernel_rfl) (fun _ _ _ h => h) (by rfl) (v := ?_) (fun w hSw => ?_) hS (fun hS => ?_)
        rotate_left
        · go_simp; try with_reducible rfl
        try go_frame
        refine held_pure (i := 7) (oi := ⟨some 47, _, _, _, _, _⟩) rfl (by kernel_rfl) (by kernel_rfl) (by kernel_rfl) (fun _ _ _ h => h) (by rfl) (v := ?_) (fun w hSw => ?_) hS (fun hS => ?_)
        rotate_left
        · go_simp; try with_reducible rfl
        try go_frame
        refine held_pure (i := 8) (oi := ⟨some 48, _, _, _, _, _⟩) rfl (by kernel_rfl) (by kernel_rfl) (by kernel_rfl) (fun _ _ _ h => h) (by rfl) (v := ?_) (fun w hSw => ?_) hS (fun hS => ?_)
        rotate_left
        · go_simp; try with_reducible rfl
        try go_frame
        refine held_pure (i := 9) (oi := ⟨some 49, _, _, _, _, _⟩) rfl (by kernel_rfl) (by kernel_rfl) (by kernel_rfl) (fun _ _ _ h => h) (by rfl) (fun w hSw => run_load_hsar rfl rfl (KC0.out _ hSw)) hS (fun hS => ?_)
        try go_frame
        refine held_pure (i := 10) (oi := ⟨some 50, _, _, _, _, _⟩) rfl (by kernel_rfl) (by kernel_rfl) (by kernel_rfl) (fun _ _ _ h => h) (by rfl) (v := ?_) (fun w hSw => ?_) hS (fun hS => ?_)
        rotate_left
        · go_simp; try with_reducible rfl
        try go_frame
        refine held_pure (i := 11) (oi := ⟨some 51, _, _, _, _, _⟩) rfl (by kernel_rfl) (by kernel_rfl) (by kernel_rfl) (fun _ _ _ h => h) (by rfl) (v := .bool false) (fun w hSw => by go_simp; try exact dG) hS (fun hS => ?_)
        try go_frame
        refine wpAnyH_done (by kernel_rfl) ?_ _
        go_wp2_with (first
          | (go_at_call 38; refine (hsclone key _ hk).mono ?_; rintro e w6 ⟨rfl, x6⟩; have G6 := Lib.hid (G.out.1.below x6))
          | (go_at_call 37; refine (hskeep G6.out ⟨key, n⟩ (G.out.2.1.home _) (by have := G.out.2.2.2.2.1; omega) (free_of_lt (by rw [← HC.out]; omega))).mono ?_; rintro e w7 ⟨rfl, r, r1, r2, r3, r4, r5⟩; have R := Lib.hid (show _ ∧ _ ∧ _ ∧ _ from ⟨r1, r2, r3, r5⟩); have R4 := Lib.hid r4; have kc1 := r4.c1; have kf1 := heap_frozen r4.tab 1; clear r1 r2 r3 r4 r5))
        refine bodyPost_ret (results_tmp rfl _ _ _) rfl ?_
        exact (putK_end G.out.1 G.out.2 HC.out (.inr hz.1) (by omega) hms HNE.out x6 (Nat.le_trans hB b5.size) b5 k5 G6.out R4.out R.out)
end
section
variable {w w' : World} {B0 t : Nat} {most : Int} {M R : List Ent} {x : Ent} {key : List UInt8} {n : Int}
/-- A table beside which one block of another type changed. -/
theorem HM.kept {g : Nat} {cs : Array Value} {ty : TypeId} {fr : Nat × Nat} (h : HM w B0 t most M) (k : Kept (fun k => k = g) w w') (hg : w.heap[g]? = some (.cells cs ty fr)) (h1 : ty ≠ 80) (h2 : ty ≠ 85) : HM w' B0 t most M := by
  obtain ⟨b, L, q1, q2⟩ := h
  have ht : t ≠ g := fun e => by
    have := q1.hs.tab
    rw [e, hg] at this
    injection this with this
    injection this with _ e2 _
    exact h1 e2
  obtain ⟨cur, a1, a2⟩ := q1.hs.arr.obj
  have hb : b ≠ g := fun e => by
    rw [e, hg] at a1
    injection a1 with a1
    injection a1 with _ e2 _
    exact h2 e2
  exact ⟨b, L, ⟨⟨(k.block t (heap_lt q1.hs.tab) ht).trans q1.hs.tab, q1.hs.arr.keep (k.block b q1.hs.arr.lt hb)⟩, q1.prb, q1.half, q1.len, q1.mst, q1.n, q1.z⟩, q2⟩
theorem hk_put_new (h : HM w B0 t most M) (hn : ∀ x ∈ M, x.key ≠ key) (hm : (M.length : Int) < most) (n : Int) (hk : key.length ≤ 1000000) (hB : B0 ≤ w.heap.size) :
    Calls Tryd.prog 25 #[.pointer (some ⟨t, 0, none⟩), .string (strB key), .int .i64 n] w fun e w' => e = .returned (.int .i64 0) ∧ HM w' B0 t most (⟨key, n⟩ :: M) ∧ Below B0 w w' ∧ KH w w' := by
  obtain ⟨b, L, h1, h2⟩ := h
  refine (hsputK h1 key n hk hB).mono ?_
  rintro e w' ⟨b', L', q1, q2, q3⟩
  rcases q3 with ⟨x, R, r1, r2, _, _⟩ | ⟨r1, ⟨r2, _, _⟩ | ⟨r2, r3, rfl⟩⟩
  · exact absurd r1 (hn x (h2.mem_iff.1 (r2.mem_iff.2 (List.mem_cons_self ..))))
  · have := h2.length_eq; omega
  · exact ⟨rfl, ⟨b', L', q1, r3.trans (h2.cons _)⟩, q2⟩
theorem hk_put_full (h : HM w B0 t most M) (hn : ∀ x ∈ M, x.key ≠ key) (hm : (M.length : Int) ≥ most) (n : Int) (hk : key.length ≤ 1000000) (hB : B0 ≤ w.heap.size) :
    Calls Tryd.prog 25 #[.pointer (some ⟨t, 0, none⟩), .string (strB key), .int .i64 n] w fun e w' => e = .returned (.int .i64 7) ∧ HM w' B0 t most M ∧ Below B0 w w' ∧ KH w w' := by
  obtain ⟨b, L, h1, h2⟩ := h
  refine (hsputK h1 key n hk hB).mono ?_
  rintro e w' ⟨b', L', q1, q2, q3⟩
  rcases q3 with ⟨x, R, r1, r2, _, _⟩ | ⟨r1, ⟨_, r3, rfl⟩ | ⟨r2, _, _⟩⟩
  · exact absurd r1 (hn x (h2.mem_iff.1 (r2.mem_iff.2 (List.mem_cons_self ..))))
  · exact ⟨rfl, ⟨b', L', q1, by rw [r3]; exact h2⟩, q2⟩
  · have := h2.length_eq; omega
theorem hk_put_old (h : HM w B0 t most M) (hp : M.Perm (x :: R)) (n : Int) (hk : x.key.length ≤ 1000000) (hB : B0 ≤ w.heap.size) :
    Calls Tryd.prog 25 #[.pointer (some ⟨t, 0, none⟩), .string (strB x.key), .int .i64 n] w fun e w' => e = .returned (.int .i64 0) ∧ HM w' B0 t most (⟨x.key, n⟩ :: R) ∧ Below B0 w w' ∧ KH w w' := by
  have hu : ∀ {y : Ent}, x ∈ M → y ∈ M → x.key = y.key → x = y := fun h1 h2 h3 => h.uniq h1 h2 h3
  have hxm : x ∈ M := hp.mem_iff.2 (List.mem_cons_self ..)
  obtain ⟨b, L, h1, h2⟩ := h
  refine (hsputK h1 x.key n hk hB).mono ?_
  rintro e w' ⟨b', L', q1, q2, q3⟩
  rcases q3 with ⟨y, R', r1, r2, r3, rfl⟩ | ⟨r1, _⟩
  · obtain rfl := hu hxm (h2.mem_iff.1 (r2.mem_iff.2 (List.mem_cons_self ..))) r1.symm
    have : R'.Perm R := ((r2.symm.trans h2).trans hp).cons_inv
    exact ⟨rfl, ⟨b', L', q1, r3.trans (this.cons _)⟩, q2⟩
  · exact absurd rfl (r1 x (h2.mem_iff.2 hxm))
theorem hk_del_yes (h : HM w B0 t most M) (hp : M.Perm (x :: R)) (hk : x.key.length ≤ 1000000) (hB : B0 ≤ w.heap.size) :
    Calls Tryd.prog 29 #[.pointer (some ⟨t, 0, none⟩), .string (strB x.key)] w fun e w' => e = .returned (.bool true) ∧ HM w' B0 t most R ∧ Below B0 w w' ∧ KH w w' := by
  have hu : ∀ {y : Ent}, x ∈ M → y ∈ M → x.key = y.key → x = y := fun h1 h2 h3 => h.uniq h1 h2 h3
  have hxm : x ∈ M := hp.mem_iff.2 (List.mem_cons_self ..)
  obtain ⟨b, L, h1, h2⟩ := h
  refine (hsdelK h1 x.key hk hB).mono ?_
  rintro e w' ⟨L', q1, q2, _, q3⟩
  rcases q3 with ⟨y, r1, r2, rfl⟩ | ⟨r1, _⟩
  · obtain rfl := hu hxm (h2.mem_iff.1 (r2.mem_iff.2 (List.mem_cons_self ..))) r1.symm
    exact ⟨rfl, ⟨b, L', q1, ((r2.symm.trans h2).trans hp).cons_inv⟩, q2⟩
  · exact absurd rfl (r1 x (h2.mem_iff.2 hxm))
theorem hk_del_no (h : HM w B0 t most M) (hn : ∀ x ∈ M, x.key ≠ key) (hk : key.length ≤ 1000000) (hB : B0 ≤ w.heap.size) :
    Calls Tryd.prog 29 #[.pointer (some ⟨t, 0, none⟩), .string (strB key)] w fun e w' => e = .returned (.bool false) ∧ HM w' B0 t most M ∧ Below B0 w w' ∧ KH w w' := by
  obtain ⟨b, L, h1, h2⟩ := h
  refine (hsdelK h1 key hk hB).mono ?_
  rintro e w' ⟨L', q1, q2, _, q3⟩
  rcases q3 with ⟨y, r1, r2, _⟩ | ⟨_, rfl, rfl⟩
  · exact absurd r1 (hn y (h2.mem_iff.1 (r2.mem_iff.2 (List.mem_cons_self ..))))
  · exact ⟨rfl, ⟨b, L', q1, h2⟩, q2⟩
end
end Go.Proofs.YtafidbjaeopciaaDoor

/-
  The text of numbers by layer 22's code: text, inner, outer. Conditions are each theorem's own.
-/
namespace Go.Proofs.YtafidbjaeopciaaDoor
open Go.RowKit Go.Shelf

def wfB (n : Int) : Prop := -9223372036854775808 ≤ n ∧ n ≤ 9223372036854775807
theorem bc_row (l : List UInt8) : Lib.byteCells l = row l := rfl
theorem txtN_step {zs : List Int} {k : Nat} {x : Int} (h : zs[k]? = some x) : txtN (zs.take (k + 1)) = txtN (zs.take k) ++ Lib.itoa x ++ [47] := by
  obtain ⟨hk, e⟩ := List.getElem?_eq_some_iff.1 h
  rw [List.take_succ_eq_append_getElem hk, txtN_snoc, e, List.append_assoc]
set_option maxRecDepth 100000 in
set_option maxHeartbeats 1000000 in
theorem btext (A : Option Addr) (c n : Nat) (zs : List Int) (B : Nat) (w : World) (hR : RdI w B A zs) (hB : B ≤ w.heap.size) (hn : n = zs.length) (hn8 : n ≤ 8) (hw : ∀ x ∈ zs, wfB x) (hT : Tabs w) :
    Calls Tryd.prog 39 #[.slice A n c] w fun e w' => e = .returned (.string (strB (txtN zs))) ∧ Below w.heap.size w w' := by
  have HN := Lib.hid hn
  have HRR := Lib.hid hR
  clear hn hR
  go_enter Tryd.func39, Tryd.ntmps39
  go_wp2
  go_loopw [3, 8] (fun v i wr => ∃ (vv : Value) (k : Nat), vv = v ∧ k ≤ n ∧ i = .int .i64 (k : Int) ∧ wr.ownsRow w.heap.size 5 1 v (txtN (zs.take k)).length (row (txtN (zs.take k))) ∧ Below w.heap.size w wr)
    (fun _ i _ => n - (intOf i).toNat)
  case atStart => exact ⟨_, 0, rfl, Nat.zero_le _, rfl, World.ownsRow_nil _ _ _ _, Below.refl _ _⟩
  case round =>
    obtain ⟨v3, k, rfl, hk, rfl, hown, hbel⟩ := hrel
    by_cases hlt : k < n
    · obtain ⟨x, hx⟩ : ∃ x, zs[k]? = some x := ⟨_, List.getElem?_eq_getElem (by rw [← HN.out]; exact hlt)⟩
      have hxw : wfB x := hw x (List.mem_of_getElem? hx)
      obtain ⟨b9, o9, rfl, hb9, hall9⟩ := HRR.out (by rw [← HN.out]; omega)
      have kx : wr.cell? ⟨b9, o9 + k, none⟩ = some (.int .i64 x) := by
        have h9 := hall9 k (by rw [← HN.out]; exact hlt)
        rw [List.getD_eq_getElem?_getD, hx, Option.getD_some] at h9
        exact (hbel.cell (p := ⟨b9, o9 + k, none⟩) (by show b9 < _; omega)).trans h9
      have hstep := Lib.hid (txtN_step hx)
      have hlen : (txtN (zs.take k)).length ≤ 168 := by
        have h1 := txtN_len (l := zs.take k) (fun m hm => hw m (List.mem_of_mem_take hm))
        have h2 : (zs.take k).length ≤ 8 := by rw [List.length_take]; omega
        omega
      have hil := itoa_len hxw.1 hxw.2
      obtain ⟨T, hT0⟩ : ∃ T, T = txtN (zs.take k) := ⟨_, rfl⟩
      rw [← hT0] at hown hlen
      have HT0 := Lib.hid hT0
      have HTAB : Hid (Lib.TabBelow Tryd.prog w.heap.size wr "internal/strconv.uint64pow10" .u64 Lib.pow10Tab) := Lib.hid (fun V hV => (hT.below (hbel.trans hV) (Nat.le_refl _)).1)
      obtain ⟨N, hN⟩ : ∃ N, N = T.length := ⟨_, rfl⟩
      rw [← hN] at hown hlen
      have HNT := Lib.hid hN
      obtain ⟨D, hD⟩ : ∃ D, D = Lib.itoa x := ⟨_, rfl⟩
      have HD := Lib.hid hD
      rw [← hD] at hil
      clear hx hall9 hT0 hN hD
      go_wp2_with (first
        | (go_at_call 44; refine (Tryd.strconv_AppendInt_10 w.heap.size N x hxw.1 hxw.2 v3 (row T) wr hown hbel.size (by omega) HTAB.out).mono ?_; rintro e w2 ⟨v2, rfl, hown2, b2, -⟩; rw [bc_row, ← row_append, ← HD.out] at hown2)
        | (at_builtin; go_loud (refine append_rd rfl _ _ rfl w.heap.size _ _ _ rfl (hown2.alloc _) (w2.heap.size + 1) (some ⟨w2.heap.size, 0, none⟩) 1 [47] rfl (by simp) (Rd.one 5 rfl) (by simp; omega) (by have := b2.size; have := hbel.size; simp; omega) ?_); intro v4 w4 hown4 hgrow4))
      go_roundw
      case rel =>
        refine ⟨v4, k + 1, rfl, by omega, by simp, ?_, ?_⟩
        · rw [hstep.out, ← HT0.out, ← HD.out]
          simpa [row_append, List.append_assoc, HNT.out, Nat.add_assoc] using hown4
        · have b3 := hbel.trans b2
          exact (b3.alloc b3.size _).grown hgrow4 (by have := b3.size; simp; omega) (fun g hg => own_block_ge hown2 g hg)
      case measure => simp [intOf]; omega
    · obtain rfl : n = k := by omega
      have e : zs.take n = zs := List.take_of_length_le (by rw [← HN.out]; exact Nat.le_refl _)
      rw [e] at hown
      obtain ⟨A3, c3, rfl⟩ : ∃ A3 c3, v3 = .slice A3 (txtN zs).length c3 := by
        rcases hown.2 with ⟨rfl, h0⟩ | ⟨g, cap, cur, rfl, _⟩
        · exact ⟨none, 0, by rw [h0]⟩
        · exact ⟨_, _, rfl⟩
      have hrd := Rd.of_own rfl hown
      have hcv := conv_any A3 (txtN zs) c3 wr.heap.size wr hrd
      clear e hown hrd
      go_wp2
      go_ret
      exact ⟨rfl, hbel⟩
end Go.Proofs.YtafidbjaeopciaaDoor
