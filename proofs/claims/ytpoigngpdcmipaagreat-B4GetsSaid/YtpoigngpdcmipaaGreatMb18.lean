/-
  Contracts and lemmas on which the proofs of this seat stand (several texts in one). Conditions are each theorem's own.
-/
import Derived.Test.YtpoigngpdcmipaaGreatMb17
import Derived.Shelf.SlIter.Nil
import Derived.Shelf.SortM.Plain
import Derived.Shelf.SortM.SortNone
import Derived.Ground.GgzProg
import Derived.Ground.SlgmProg
import Derived.Maps.RangeWalk
import Derived.Sort.OwnSorted
import Derived.Test.YtpoigngpdcmipaaGreatMb15
import Derived.Test.YtpoigngpdcmipaaGreatMb2
import Derived.Test.YtpoigngpdcmipaaGreatMb9
import Derived.Test.YtpoigngpdcmipaaGreatMb10
import Derived.Test.YtpoigngpdcmipaaGreatMb7
import Derived.Test.YtpoigngpdcmipaaGreatMb13
import Derived.Test.YtpoigngpdcmipaaGreatMb11
namespace Go.Proofs.YtpoigngpdcmipaaGreat
open Go.RowKit Go.Shelf Go.Maps
theorem room_eq (l : List Pc) (p : Pc) (h : addE l p = 0) : bytesP (addL l p) = bytesP l + roomP l p.off p.b := by
  rcases addL_cases l p with e | ⟨e, _, _, _, hs, _⟩
  · have hsm : sameP l p = true := by
      by_cases h1 : sameP l p = true
      · exact h1
      · exfalso
        have e2 : addL l p = l ++ [p] := by rw [addL, if_pos h, if_neg h1]
        rw [e2] at e
        have := congrArg List.length e
        simp at this
    have hr : roomP l p.off p.b = 0 := by
      rw [roomP, if_pos]
      obtain ⟨o, m, b⟩ := p
      cases m with
      | true => rw [Bool.or_eq_true]; exact .inl hsm
      | false => rw [Bool.or_eq_true]; exact .inr hsm
    rw [e, hr]; omega
  · have hne : ∀ m, ¬ sameP l ⟨p.off, m, p.b⟩ = true := fun m hm => hs (by
      have hx := sameP_iff.1 hm
      refine List.any_eq_true.2 ⟨_, hx, ?_⟩
      have h1 : (Pc.mk p.off m p.b).len = p.len := rfl
      have h2 : (Pc.mk p.off m p.b).stop = p.stop := rfl
      have h3 : p.stop = p.off + p.len := rfl
      have h4 : 0 ≤ p.len := Int.natCast_nonneg _
      simp only [sharing, Bool.or_eq_true, Bool.and_eq_true, decide_eq_true_eq, beq_iff_eq, h1, h2]
      by_cases h0 : p.len = 0
      · right; exact ⟨⟨trivial, h0⟩, h0⟩
      · left; exact ⟨⟨⟨by omega, by omega⟩, by omega⟩, by omega⟩)
    have hr : roomP l p.off p.b = p.len := by
      rw [roomP, if_neg]; rfl
      simp only [Bool.or_eq_true, not_or]
      exact ⟨hne true, hne false⟩
    rw [e, bytesP_app, hr]
theorem roomC_eq {L : List Pc} (hr : Ris L) (p : Pc) (h : addC L p = 0) : bytesP (addCL L p) = bytesP L + roomC L p.off p.b := by
  have hs : Same L L := ⟨hr, List.Perm.refl _⟩
  rw [(hs.addL p).bytes, room_eq L p (by rw [← hs.addE]; exact h)]
  have := hs.room p.off p.b false
  unfold roomC
  rw [this]
def sumB : List Bu → Int
  | [] => 0
  | s :: S => s.by + sumB S
theorem sumB_perm {S T : List Bu} (h : S.Perm T) : sumB S = sumB T := by
  induction h with
  | nil => rfl
  | cons x _ ih => rw [sumB, sumB, ih]
  | swap x y l => simp only [sumB]; omega
  | trans _ _ h1 h2 => exact h1.trans h2
theorem by_nn (s : Bu) : 0 ≤ s.by := bytesP_nn _
theorem sumB_nn : ∀ S : List Bu, 0 ≤ sumB S
  | [] => Int.le_refl _
  | s :: S => by
    have := sumB_nn S
    have := by_nn s
    rw [sumB]; omega
theorem withoutM_none {key : List UInt8} {M : List (List UInt8 × Nat)} (h : ∀ p ∈ M, p.1 ≠ key) : withoutM key M = M := by
  unfold withoutM
  rw [List.filter_eq_self]
  intro p hp
  simpa using h p hp
theorem withoutM_perm {key : List UInt8} {M : List (List UInt8 × Nat)} {S R : List Bu} {s : Bu} (hM : M.Perm (S.map Bu.kg)) (hS : S.Perm (s :: R)) (hk : s.key = key) (nd : (s :: R).Pairwise (fun a b => a.key ≠ b.key)) : (withoutM key M).Perm (R.map Bu.kg) := by
  have h1 : M.Perm (s.kg :: R.map Bu.kg) := hM.trans (hS.map _)
  have h2 : (withoutM key M).Perm (withoutM key (s.kg :: R.map Bu.kg)) := h1.filter _
  refine h2.trans ?_
  have e : withoutM key (s.kg :: R.map Bu.kg) = withoutM key (R.map Bu.kg) := by
    unfold withoutM
    rw [List.filter_cons_of_neg]
    simp [Bu.kg, hk]
  rw [e, withoutM_none]
  intro p hp
  obtain ⟨x, hx, rfl⟩ := List.mem_map.1 hp
  exact fun h => (List.pairwise_cons.1 nd).1 x hx (hk.trans h.symm)
structure Jv (w : World) (B0 t bm : Nat) (mb my wt : Int) (N : Nat) (S : List Bu) : Prop where
  tx : Tx w t bm (sumB S) mb my wt (S.map Bu.kg) S
  z : Tz B0 t bm S
  by_ : sumB S ≤ my
  n : (S.length : Int) ≤ mb
  l : ∀ s ∈ S, s.L.length ≤ N
theorem Jv.below {w w' : World} {B0 t bm N : Nat} {mb my wt : Int} {S : List Bu} (h : Jv w B0 t bm mb my wt N S) (hb : Below w.heap.size w w') : Jv w' B0 t bm mb my wt N S := ⟨h.tx.below hb, h.z, h.by_, h.n, h.l⟩
theorem Jv.mono {w : World} {B0 t bm N N' : Nat} {mb my wt : Int} {S : List Bu} (h : Jv w B0 t bm mb my wt N S) (hN : N ≤ N') : Jv w B0 t bm mb my wt N' S := ⟨h.tx, h.z, h.by_, h.n, fun s hs => Nat.le_trans (h.l s hs) hN⟩
end Go.Proofs.YtpoigngpdcmipaaGreat
namespace Go.Proofs.YtpoigngpdcmipaaGreat
open Go.RowKit Go.Shelf Go.Maps
theorem tellB_began (s : Bu) (off : Int) (head : List UInt8) : (tellB s off head).began = s.began := by unfold tellB; split <;> rfl
section
variable {w : World} {B0 t bm N : Nat} {mb my wt : Int} {S R : List Bu} {s : Bu} {key : List UInt8} {now : Int}
theorem Jv.parts (h : Jv w B0 t bm mb my wt N S) (hk : s.key = key) (hc : S.Perm (s :: R) ∨ (S = R ∧ Fresh s key now ∧ ∀ x ∈ S, x.key ≠ key)) :
    partsOf S key = piE s.L ∧ sumB S = bytesP (partsOf S key) + sumB R ∧ Ris (partsOf S key) ∧ (withoutM key (S.map Bu.kg)).Perm (R.map Bu.kg) ∧ (∀ x ∈ R, x ∈ S) ∧ R.length ≤ S.length ∧ s.L.length ≤ N := by
  rcases hc with hp | ⟨rfl, hf, hno⟩
  · have nd := hp.pairwise h.tx.nd (fun e => e.symm)
    have hm : s ∈ S := hp.mem_iff.2 (List.mem_cons_self ..)
    have e := partsOf_hit hp hk nd
    refine ⟨e, ?_, ?_, withoutM_perm (List.Perm.refl _) hp hk nd, fun x hx => hp.mem_iff.2 (List.mem_cons_of_mem _ hx), ?_, h.l s hm⟩
    · rw [sumB_perm hp, e]; rfl
    · rw [e]; exact (h.tx.bx s hm).hx.ris
    · rw [hp.length_eq]; simp
  · have e := partsOf_none hno
    refine ⟨by rw [e, hf.2.2.2.1]; rfl, by rw [e]; simp [bytesP], by rw [e]; exact Ris.nil, ?_, fun x hx => hx, Nat.le_refl _, by rw [hf.2.2.2.1]; exact Nat.zero_le _⟩
    rw [withoutM_none]
    intro p hp
    obtain ⟨x, hx, rfl⟩ := List.mem_map.1 hp
    exact hno x hx
theorem sum_part (hk : s ∈ S) : s.by ≤ sumB S := by
  obtain ⟨S1, S2, e⟩ := List.append_of_mem hk
  have : S.Perm (s :: (S1 ++ S2)) := by rw [e]; exact List.perm_middle
  rw [sumB_perm this, sumB]
  have := sumB_nn (S1 ++ S2)
  omega
end
end Go.Proofs.YtpoigngpdcmipaaGreat
namespace Go.Proofs
open Go.RowKit Go.Maps Go.Sort Go.Shelf
shelf_lay_g SlLaysM.n6 Slgm 6 at Tryz 76 as Tryz.sortA
end Go.Proofs
namespace Go.Proofs.YtpoigngpdcmipaaGreat
open Go.RowKit Go.Shelf Go.Maps Go.Sort
theorem Tx.awayP {Z : Nat → Prop} {U : TypeId → Prop} {w w' : World} {t bm : Nat} {tot mb my wt : Int} {M : List (List UInt8 × Nat)} {S : List Bu} (h : Tx w t bm tot mb my wt M S) (k : Kept Z w w') (ha : AwayT w Z U)
    (h0 : ¬ U 94) (h1 : ¬ U 179) (h2 : ¬ U 225) (h3 : ¬ U 5) (h4 : ¬ U 124) (hb : ¬ Z bm) : Tx w' t bm tot mb my wt M S := by
  obtain ⟨es, hm, hp⟩ := h.map
  exact ⟨(k.block t (heap_lt h.obj) (fun s => h0 (ha t s _ _ _ h.obj))).trans h.obj, ⟨es, own_map_kept hm k hb, hp⟩, h.ndm, h.nd, h.len,
    fun s hs => (h.bx s hs).keptA k ha h1 h2 h3 (fun z => h4 (ha s.g z _ _ _ (h.bx s hs).obj)), h.ap⟩
end Go.Proofs.YtpoigngpdcmipaaGreat
namespace Go.Proofs.YtpoigngpdcmipaaGreat
open Go.RowKit Go.Shelf Go.Maps Go.Sort
end Go.Proofs.YtpoigngpdcmipaaGreat
namespace Go.Proofs.YtpoigngpdcmipaaGreat
open Go.RowKit Go.Shelf Go.Maps
end Go.Proofs.YtpoigngpdcmipaaGreat
namespace Go.Proofs.YtpoigngpdcmipaaGreat
open Go.RowKit Go.Shelf Go.Maps
end Go.Proofs.YtpoigngpdcmipaaGreat
namespace Go.Proofs.YtpoigngpdcmipaaGreat
open Go.RowKit Go.Shelf Go.Maps
def TzN (NB : Nat → Prop) (t bm : Nat) (S : List Bu) : Prop := NB t ∧ NB bm ∧ ∀ s ∈ S, NB s.g ∧ NB s.h ∧ ∀ k, s.v.ownBlock = some k → NB k
theorem find_zN {NB : Nat → Prop} {t bm : Nat} {S R : List Bu} {s : Bu} {key : List UInt8} {now : Int} {w w' : World} (h : (S.Perm (s :: R) ∧ w = w') ∨ (S = R ∧ Fresh s key now ∧ w.heap.size ≤ s.g ∧ w.heap.size ≤ s.h ∧ ∀ x ∈ S, x.key ≠ key)) (hB : ∀ i, w.heap.size ≤ i → NB i) (hz : TzN NB t bm S) : TzN NB t bm (s :: R) := by
  refine ⟨hz.1, hz.2.1, fun x hx => ?_⟩
  rcases h with ⟨hp, _⟩ | ⟨rfl, hf, h1, h2, _⟩
  · exact hz.2.2 x (hp.mem_iff.2 hx)
  · rcases List.mem_cons.1 hx with rfl | hx
    · refine ⟨hB _ h1, hB _ h2, fun k hk => ?_⟩
      unfold Bu.v at hk
      rw [hf.2.1] at hk
      cases hk
    · exact hz.2.2 x hx
theorem TzN.with_ {NB : Nat → Prop} {t bm : Nat} {R : List Bu} {s : Bu} {A2 : Option Addr} {c2 : Nat} {L2 : List XP} {w : World} (hz : TzN NB t bm (s :: R)) (hB : ∀ i, w.heap.size ≤ i → NB i) (ob : ∀ k, (Value.slice A2 L2.length c2).ownBlock = some k → s.v.ownBlock = some k ∨ w.heap.size ≤ k) : TzN NB t bm (s.with_ A2 c2 L2 :: R) := by
  refine ⟨hz.1, hz.2.1, fun x hx => ?_⟩
  obtain ⟨h1, h2, h3⟩ := hz.2.2 s (List.mem_cons_self ..)
  rcases List.mem_cons.1 hx with rfl | hx
  · refine ⟨h1, h2, fun k hk => ?_⟩
    rcases ob k hk with h | h
    · exact h3 k h
    · exact hB k h
  · exact hz.2.2 x (List.mem_cons_of_mem _ hx)
theorem TzN.tell {NB : Nat → Prop} {t bm : Nat} {R : List Bu} {s : Bu} {off : Int} {head : List UInt8} (hz : TzN NB t bm (s :: R)) : TzN NB t bm (tellB s off head :: R) := by
  refine ⟨hz.1, hz.2.1, fun x hx => ?_⟩
  obtain ⟨h1, h2, h3⟩ := hz.2.2 s (List.mem_cons_self ..)
  rcases List.mem_cons.1 hx with rfl | hx
  · rw [tellB_g, tellB_h, tellB_v]; exact ⟨h1, h2, h3⟩
  · exact hz.2.2 x (List.mem_cons_of_mem _ hx)
theorem KNt {NB : Nat → Prop} {a b c : World} (h : Kept NB a b) (k : Kept NB b c) : Kept NB a c := h.trans k (fun _ _ e => e)
def DoneLeavesN (w w' : World) (t bm : Nat) (tot mb my wt : Int) (M : List (List UInt8 × Nat)) (S : List Bu) (key : List UInt8) (off now : Int) (more : Bool) (b : List UInt8) (NB : Nat → Prop) (v : Value) : Prop :=
  ∃ (s : Bu) (R : List Bu), Tx w' t bm (tot + roomC (partsOf S key) off b - bytesP (addCL (partsOf S key) ⟨off, more, b⟩)) mb my wt (withoutM key M) R ∧ s.key = key ∧
    (S.Perm (s :: R) ∨ (S = R ∧ Fresh s key now ∧ ∀ x ∈ S, x.key ≠ key)) ∧ TzN NB t bm R ∧ Kept NB w w' ∧
    w'.ownsRow w.heap.size 5 1 v (catP (addCL (partsOf S key) ⟨off, more, b⟩)).length (row (catP (addCL (partsOf S key) ⟨off, more, b⟩)))
def AddLeavesN (w w' : World) (t bm : Nat) (tot mb my wt : Int) (M : List (List UInt8 × Nat)) (S : List Bu) (key head : List UInt8) (off now : Int) (more : Bool) (b : List UInt8) (NB : Nat → Prop) : Prop :=
  ∃ (s : Bu) (R : List Bu) (A2 : Option Addr) (c2 : Nat) (L2 : List XP), Tx w' t bm (tot + roomC (partsOf S key) off b) mb my wt ((key, s.g) :: withoutM key M) (tellB (s.with_ A2 c2 L2) off head :: R) ∧ s.key = key ∧
    (S.Perm (s :: R) ∨ (S = R ∧ Fresh s key now ∧ ∀ x ∈ S, x.key ≠ key)) ∧ piE L2 = addCL (partsOf S key) ⟨off, more, b⟩ ∧ L2.length ≤ s.L.length + 1 ∧ TzN NB t bm (tellB (s.with_ A2 c2 L2) off head :: R) ∧ Kept NB w w'
def ErrLeavesN (w w' : World) (t bm : Nat) (tot mb my wt : Int) (M : List (List UInt8 × Nat)) (S : List Bu) (key : List UInt8) (now : Int) (NB : Nat → Prop) : Prop :=
  ∃ (s : Bu) (R : List Bu), Tx w' t bm (tot - bytesP (partsOf S key)) mb my wt (withoutM key M) R ∧ s.key = key ∧ (S.Perm (s :: R) ∨ (S = R ∧ Fresh s key now ∧ ∀ x ∈ S, x.key ≠ key)) ∧ TzN NB t bm R ∧ Kept NB w w'
section
variable {w : World} {t bm : Nat} {tot mb my wt : Int} {M : List (List UInt8 × Nat)} {S : List Bu}
set_option maxRecDepth 100000 in
set_option maxHeartbeats 2000000 in
theorem kadd_open (hT0 : Tx w t bm tot mb my wt M S) (hMS : M.Perm (S.map Bu.kg)) (key head : List UInt8) (off now : Int) (more : Bool) (A' : Option Addr) (c' : Nat) (b : List UInt8) (hA' : Arg w w.heap.size A' c' b) (hk : key.length ≤ maxLen) (hbl : b.length ≤ 1000000)
    (hoff : -9223372036854775808 ≤ off ∧ off ≤ 9223372036854775807) (hL : ∀ s ∈ S, s.L.length + 1 ≤ 100000) (htot : 0 ≤ tot ∧ tot ≤ 100000000000) (hf : Takes M S mb key) (hM : M.length < 1000000) (NB : Nat → Prop) (hB0 : ∀ i, w.heap.size ≤ i → NB i) (hZ : TzN NB t bm S)
    (hroom : ¬ tot + roomC (partsOf S key) off b > my) (hadd : addC (partsOf S key) ⟨off, more, b⟩ = 0)
    (hnd : (endedP (addCL (partsOf S key) ⟨off, more, b⟩) && decide (gapsS 0 (addCL (partsOf S key) ⟨off, more, b⟩) = [])) = false) :
    Calls Tryz.prog 124 #[.pointer (some ⟨t, 0, none⟩), sq key, .int .i64 off, .bool more, .slice A' b.length c', sq head, .int .i64 now] w fun e w' =>
      e = .returned (.tuple #[.string ByteArray.empty, .slice none 0 0, .bool false, .int .i64 0]) ∧ AddLeavesN w w' t bm tot mb my wt M S key head off now more b NB := by
  have k0 := hT0.c0
  obtain ⟨RM, hRM⟩ : ∃ RM, RM = roomC (partsOf S key) off b := ⟨_, rfl⟩
  have hrm0 : 0 ≤ RM ∧ RM ≤ 1000000 := by rw [hRM]; unfold roomC; split <;> omega
  rw [← hRM] at hroom
  have HW1 : Hid (IntKind.i64.wrap (tot + RM) = tot + RM) := Lib.hid (IntWalk.i64_in _ (by omega))
  have HROOM : Hid (tot + RM ≤ my) := Lib.hid (by omega)
  have HRM := Lib.hid hRM
  have hT := Lib.hid hT0
  have HMS := Lib.hid hMS
  have HF := Lib.hid hf
  have HARG := Lib.hid hA'
  have HADD := Lib.hid hadd
  have HND := Lib.hid hnd
  have HL := Lib.hid hL
  have HZ := Lib.hid hZ
  clear hT0 hMS hf hA' hadd hnd hL hroom hRM hZ
  unfold sq at *
  go_enter Tryz.func124, Tryz.ntmps124
  go_upto_region 7 with (first
    | (go_at_call 74; refine (jmade t bm _ k0).mono ?_; rintro e w1 ⟨rfl, rfl⟩)
    | (go_at_call 153; go_loud (refine (jroom s.h s.A s.c s.L off A' b c' _ (HT1.out.bx s (List.mem_cons_self ..)).hx ((HARG.out.below b1).more b1.size)).mono ?_; rintro e w2 ⟨rfl, b2⟩; rw [← HRV.out]))
    | (go_at_call 152; go_loud (refine (jfind_ok hT.out HMS.out key now hk HF.out).mono ?_; rintro e w1 ⟨s, R, rfl, hT1, hsk, b1, hcs⟩; have HT1 := Lib.hid hT1; have HSK := Lib.hid hsk; have HCS := Lib.hid hcs; have kg1 : w1.cell? ⟨s.g, 0, none⟩ = some (.pointer (some ⟨s.h, 0, none⟩)) := cells_at (i := 0) (HT1.out.bx s (List.mem_cons_self ..)).obj rfl; clear hT1 hsk hcs; have HPO := Lib.hid (partsOf_find HCS.out HSK.out HT1.out.nd); have HRV := Lib.hid (HRM.out.trans (congrArg (fun z => roomC z off b) HPO.out)))))
  have HT2 := Lib.hid (HT1.out.below b2)
  have ht := HT2.out.obj
  have htz := heap_lt ht
  refine wp_region_held_drew (S := fun w' => Below w2.heap.size w2 w') (by kernel_rfl) (Below.refl _ w2).drew (fun hS => ?_)
  refine held_pure (i := 0) (oi := ⟨some 44, _, _, _, _, _⟩) rfl (by kernel_rfl) (by kernel_rfl) (by kernel_rfl) (fun _ _ _ h => h) (by rfl) (v := ?_) (fun w hSw => ?_) hS (fun hS => ?_)
  rotate_left
  · go_simp; try with_reducible rfl
  try go_frame
  refine held_pure (i := 1) (oi := ⟨some 45, _, _, _, _, _⟩) rfl (by kernel_rfl) (by kernel_rfl) (by kernel_rfl) (fun _ _ _ h => h) (by rfl) (v := ?_) (fun w hSw => ?_) hS (fun hS => ?_)
  rotate_left
  · go_simp; try with_reducible rfl
  try go_frame
  refine held_pure (i := 2) (oi := ⟨some 46, _, _, _, _, _⟩) rfl (by kernel_rfl) (by kernel_rfl) (by kernel_rfl) (fun _ _ _ h => h) (by rfl) (v := ?_) (fun w hSw => ?_) hS (fun hS => ?_)
  rotate_left
  · go_simp; try with_reducible rfl
  try go_frame
  refine held_pure (i := 3) (oi := ⟨some 47, _, _, _, _, _⟩) rfl (by kernel_rfl) (by kernel_rfl) (by kernel_rfl) (fun _ _ _ h => h) (by rfl) (fun w hSw => run_load_int rfl rfl (cells_at (i := 1) ((hSw.block t htz).trans ht) rfl)) hS (fun hS => ?_)
  try go_frame
  refine held_pure (i := 4) (oi := ⟨some 48, _, _, _, _, _⟩) rfl (by kernel_rfl) (by kernel_rfl) (by kernel_rfl) (fun _ _ _ h => h) (by rfl) (v := ?_) (fun w hSw => ?_) hS (fun hS => ?_)
  rotate_left
  · go_simp; try with_reducible rfl
  try go_frame
  refine held_pure (i := 5) (oi := ⟨some 49, _, _, _, _, _⟩) rfl (by kernel_rfl) (by kernel_rfl) (by kernel_rfl) (fun _ _ _ h => h) (by rfl) (v := .int .i64 (tot + RM)) (fun w hSw => by go_simp; try exact HW1.out) hS (fun hS => ?_)
  try go_frame
  refine held_pure (i := 6) (oi := ⟨some 50, _, _, _, _, _⟩) rfl (by kernel_rfl) (by kernel_rfl) (by kernel_rfl) (fun _ _ _ h => h) (by rfl) (v := ?_) (fun w hSw => ?_) hS (fun hS => ?_)
  rotate_left
  · go_simp; try with_reducible rfl
  try go_frame
  refine held_pure (i := 7) (oi := ⟨some 51, _, _, _, _, _⟩) rfl (by kernel_rfl) (by kernel_rfl) (by kernel_rfl) (fun _ _ _ h => h) (by rfl) (v := ?_) (fun w hSw => ?_) hS (fun hS => ?_)
  rotate_left
  · go_simp; try with_reducible rfl
  try go_frame
  refine held_pure (i := 8) (oi := ⟨some 52, _, _, _, _, _⟩) rfl (by kernel_rfl) (by kernel_rfl) (by kernel_rfl) (fun _ _ _ h => h) (by rfl) (v := ?_) (fun w hSw => ?_) hS (fun hS => ?_)
  rotate_left
  · go_simp; try with_reducible rfl
  try go_frame
  refine held_pure (i := 9) (oi := ⟨some 53, _, _, _, _, _⟩) rfl (by kernel_rfl) (by kernel_rfl) (by kernel_rfl) (fun _ _ _ h => h) (by rfl) (fun w hSw => run_load_int rfl rfl (cells_at (i := 3) ((hSw.block t htz).trans ht) rfl)) hS (fun hS => ?_)
  try go_frame
  refine held_pure (i := 10) (oi := ⟨some 54, _, _, _, _, _⟩) rfl (by kernel_rfl) (by kernel_rfl) (by kernel_rfl) (fun _ _ _ h => h) (by rfl) (v := .bool false) (fun w hSw => by go_simp; try (exact HROOM.out)) hS (fun hS => ?_)
  try go_frame
  refine wpAnyH_done (by kernel_rfl) ?_ _
  have b3 := hS
  generalize w2.drew = w3 at *
  have HT3 := Lib.hid (HT2.out.below b3)
  have hb3 := HT3.out.bx s (List.mem_cons_self ..)
  have kg3 : w3.cell? ⟨s.g, 0, none⟩ = some (.pointer (some ⟨s.h, 0, none⟩)) := cells_at (i := 0) hb3.obj rfl
  have HX3 := Lib.hid hb3.hx
  have b13 : Below w.heap.size w w3 := (b1.trans (b2.mono b1.size)).trans (b3.mono (Nat.le_trans b1.size b2.size))
  have HAR3 := Lib.hid ((HARG.out.below b13).more b13.size)
  have HE3 : Hid (addC (piE s.L) ⟨off, more, b⟩ = 0) := Lib.hid (by rw [← HPO.out]; exact HADD.out)
  have hsl : s.L.length + 1 ≤ 100000 := by
    rcases HCS.out with ⟨hp, _⟩ | ⟨_, hfr, _⟩
    · exact HL.out s (hp.mem_iff.2 (List.mem_cons_self ..))
    · rw [hfr.2.2.2.1]; decide
  clear hS hb3 kg1 ht htz
  have HZ3 := Lib.hid (find_zN HCS.out hB0 HZ.out)
  have HS3 : Hid (∀ i, (i = s.h ∨ s.v.ownBlock = some i) → NB i) := Lib.hid (fun i hi => by
    obtain ⟨_, h2, h3⟩ := HZ3.out.2.2 s (List.mem_cons_self ..)
    rcases hi with rfl | hi
    · exact h2
    · exact h3 i hi)
  have hw1 := HW1.out
  go_wp2_with (first
    | (go_at_call 154; go_loud (refine (hcadd s.h s.A s.c s.L off more A' b c' _ HX3.out HAR3.out hbl hoff hsl).mono ?_; rintro e w4 ⟨rfl, A2, c2, L2, hx4, hp4, k4, ob4, ln4⟩; rw [HE3.out]; have HT4 := Lib.hid (HT3.out.add hx4 k4 ob4); have HZ4 := Lib.hid (HZ3.out.with_ (fun i hi => hB0 i (Nat.le_trans b13.size hi)) ob4); have HB4 := Lib.hid (k4.mono (T := NB) (fun i _ hi => HS3.out i hi)); have kt4 := HT4.out.c0; have HP4 := Lib.hid hp4; obtain ⟨es4, hown4, hpe4⟩ := HT4.out.map; obtain ⟨es5, hput5, hpe5⟩ := en_putW hpe4 (key, s.g); have HPUT := Lib.hid hput5; have HPE := Lib.hid hpe5; clear hx4 hp4 k4 ob4 hpe4 hput5 hpe5))
    | (at_mapUpdate; go_loud (refine wpList_mapUpdate_in _ rfl _ _ _ 92 rfl 9 121 klaw Tryz.underlying92 ptrElem bm M.length _ rfl hown4 (by unfold maxLen; omega) _ _ _ rfl rfl (kkey key hk) (.lit (.int .i64 (s.g : Int))) [] rfl ?_; intro w5 hown5 hturn5; rw [HPUT.out] at hown5; have HT5 := Lib.hid (HT4.out.put HPE.out hown5 hturn5); have kt5 := HT5.out.c1; have ft5 := heap_frozen HT5.out.obj 1; have HT6 := Lib.hid (HT5.out.setTot (tot + RM)); have HB5 := Lib.hid ((Kept.of_turned hturn5).mono (T := NB) (fun k _ hk => by rw [hk]; exact HZ.out.2.1)); have HK6 := Lib.hid (Kept.setCell w5 t 1 (.int .i64 (tot + RM))); clear hown4 hown5 hturn5))
    | (go_at_call 155; go_loud (refine (jtell (s.with_ A2 c2 L2) (HT6.out.bx _ (List.mem_cons_self ..)) off head).mono ?_; rintro e w7 ⟨rfl, hb7, k7⟩; have HT7 := Lib.hid (HT6.out.tell hb7 k7); have HX7 : Hid (Hx w7 s.h A2 c2 L2) := Lib.hid (tellB_hx (s := s.with_ A2 c2 L2) hb7); have kg7 : w7.cell? ⟨s.g, 0, none⟩ = some (.pointer (some ⟨s.h, 0, none⟩)) := tellB_c0 (s := s.with_ A2 c2 L2) hb7; have HK7 := Lib.hid k7; clear hb7 k7))
    | (go_at_call 156; go_loud (refine (hcdone s.h A2 c2 L2 _ HX7.out).mono ?_; rintro e w8 ⟨v8, rfl, m8⟩; have HND8 : Hid ((endedP (piE L2) && decide (gapsS 0 (piE L2) = [])) = false) := Lib.hid (by rw [HP4.out, ← HPO.out]; exact HND.out); rw [HND8.out]; have HM8 := Lib.hid m8; clear m8)))
  obtain ⟨_, _, _, _, _, y8⟩ := made_shape HM8.out
  have B6 := HK6.out.mono (T := NB) (fun k _ hk => by rw [hk]; exact HZ.out.1)
  have B7 := HK7.out.mono (T := NB) (fun k _ hk => by rw [hk]; exact (HZ3.out.2.2 s (List.mem_cons_self ..)).1)
  refine bodyPost_ret (results_tmp4 rfl _ _ _) rfl ⟨rfl, s, R, A2, c2, L2, ?_, HSK.out, ?_, ?_, ln4, HZ4.out.tell, ?_⟩
  · rw [← HRM.out]; exact HT7.out.below y8
  · rcases HCS.out with ⟨h, _⟩ | ⟨h1, h2, _, _, h5⟩
    · exact .inl h
    · exact .inr ⟨h1, h2, h5⟩
  · rw [HP4.out, HPO.out]
  · exact KNt (KNt (KNt (KNt (KNt (Kept.of_below b13) HB4.out) HB5.out) B6) B7) (Kept.of_below y8)
set_option maxRecDepth 100000 in
set_option maxHeartbeats 2000000 in
theorem kadd_done (hT0 : Tx w t bm tot mb my wt M S) (hMS : M.Perm (S.map Bu.kg)) (key head : List UInt8) (off now : Int) (more : Bool) (A' : Option Addr) (c' : Nat) (b : List UInt8) (hA' : Arg w w.heap.size A' c' b) (hk : key.length ≤ maxLen) (hbl : b.length ≤ 1000000)
    (hoff : -9223372036854775808 ≤ off ∧ off ≤ 9223372036854775807) (hL : ∀ s ∈ S, s.L.length + 1 ≤ 100000) (htot : 0 ≤ tot ∧ tot ≤ 100000000000) (hf : Takes M S mb key) (hM : M.length < 1000000) (NB : Nat → Prop) (hB0 : ∀ i, w.heap.size ≤ i → NB i) (hZ : TzN NB t bm S)
    (hroom : ¬ tot + roomC (partsOf S key) off b > my) (hadd : addC (partsOf S key) ⟨off, more, b⟩ = 0)
    (hnd : (endedP (addCL (partsOf S key) ⟨off, more, b⟩) && decide (gapsS 0 (addCL (partsOf S key) ⟨off, more, b⟩) = [])) = true) (hbp : 0 ≤ bytesP (addCL (partsOf S key) ⟨off, more, b⟩) ∧ bytesP (addCL (partsOf S key) ⟨off, more, b⟩) ≤ 1000000000000) :
    Calls Tryz.prog 124 #[.pointer (some ⟨t, 0, none⟩), sq key, .int .i64 off, .bool more, .slice A' b.length c', sq head, .int .i64 now] w fun e w' =>
      ∃ v, e = .returned (.tuple #[sq (headOf S key off head), v, .bool true, .int .i64 0]) ∧ DoneLeavesN w w' t bm tot mb my wt M S key off now more b NB v := by
  have k0 := hT0.c0
  obtain ⟨RM, hRM⟩ : ∃ RM, RM = roomC (partsOf S key) off b := ⟨_, rfl⟩
  have hrm0 : 0 ≤ RM ∧ RM ≤ 1000000 := by rw [hRM]; unfold roomC; split <;> omega
  rw [← hRM] at hroom
  have HW1 : Hid (IntKind.i64.wrap (tot + RM) = tot + RM) := Lib.hid (IntWalk.i64_in _ (by omega))
  have HROOM : Hid (tot + RM ≤ my) := Lib.hid (by omega)
  have HRM := Lib.hid hRM
  have hT := Lib.hid hT0
  have HMS := Lib.hid hMS
  have HF := Lib.hid hf
  have HARG := Lib.hid hA'
  have HADD := Lib.hid hadd
  have HND := Lib.hid hnd
  have HBP := Lib.hid hbp
  have HL := Lib.hid hL
  have HZ := Lib.hid hZ
  clear hT0 hMS hf hA' hadd hnd hbp hL hroom hRM hZ
  unfold sq at *
  go_enter Tryz.func124, Tryz.ntmps124
  go_upto_region 7 with (first
    | (go_at_call 74; refine (jmade t bm _ k0).mono ?_; rintro e w1 ⟨rfl, rfl⟩)
    | (go_at_call 153; go_loud (refine (jroom s.h s.A s.c s.L off A' b c' _ (HT1.out.bx s (List.mem_cons_self ..)).hx ((HARG.out.below b1).more b1.size)).mono ?_; rintro e w2 ⟨rfl, b2⟩; rw [← HRV.out]))
    | (go_at_call 152; go_loud (refine (jfind_ok hT.out HMS.out key now hk HF.out).mono ?_; rintro e w1 ⟨s, R, rfl, hT1, hsk, b1, hcs⟩; have HT1 := Lib.hid hT1; have HSK := Lib.hid hsk; have HCS := Lib.hid hcs; have kg1 : w1.cell? ⟨s.g, 0, none⟩ = some (.pointer (some ⟨s.h, 0, none⟩)) := cells_at (i := 0) (HT1.out.bx s (List.mem_cons_self ..)).obj rfl; clear hT1 hsk hcs; have HPO := Lib.hid (partsOf_find HCS.out HSK.out HT1.out.nd); have HRV := Lib.hid (HRM.out.trans (congrArg (fun z => roomC z off b) HPO.out)))))
  have HT2 := Lib.hid (HT1.out.below b2)
  have ht := HT2.out.obj
  have htz := heap_lt ht
  refine wp_region_held_drew (S := fun w' => Below w2.heap.size w2 w') (by kernel_rfl) (Below.refl _ w2).drew (fun hS => ?_)
  refine held_pure (i := 0) (oi := ⟨some 44, _, _, _, _, _⟩) rfl (by kernel_rfl) (by kernel_rfl) (by kernel_rfl) (fun _ _ _ h => h) (by rfl) (v := ?_) (fun w hSw => ?_) hS (fun hS => ?_)
  rotate_left
  · go_simp; try with_reducible rfl
  try go_frame
  refine held_pure (i := 1) (oi := ⟨some 45, _, _, _, _, _⟩) rfl (by kernel_rfl) (by kernel_rfl) (by kernel_rfl) (fun _ _ _ h => h) (by rfl) (v := ?_) (fun w hSw => ?_) hS (fun hS => ?_)
  rotate_left
  · go_simp; try with_reducible rfl
  try go_frame
  refine held_pure (i := 2) (oi := ⟨some 46, _, _, _, _, _⟩) rfl (by kernel_rfl) (by kernel_rfl) (by kernel_rfl) (fun _ _ _ h => h) (by rfl) (v := ?_) (fun w hSw => ?_) hS (fun hS => ?_)
  rotate_left
  · go_simp; try with_reducible rfl
  try go_frame
  refine held_pure (i := 3) (oi := ⟨some 47, _, _, _, _, _⟩) rfl (by kernel_rfl) (by kernel_rfl) (by kernel_rfl) (fun _ _ _ h => h) (by rfl) (fun w hSw => run_load_int rfl rfl (cells_at (i := 1) ((hSw.block t htz).trans ht) rfl)) hS (fun hS => ?_)
  try go_frame
  refine held_pure (i := 4) (oi := ⟨some 48, _, _, _, _, _⟩) rfl (by kernel_rfl) (by kernel_rfl) (by kernel_rfl) (fun _ _ _ h => h) (by rfl) (v := ?_) (fun w hSw => ?_) hS (fun hS => ?_)
  rotate_left
  · go_simp; try with_reducible rfl
  try go_frame
  refine held_pure (i := 5) (oi := ⟨some 49, _, _, _, _, _⟩) rfl (by kernel_rfl) (by kernel_rfl) (by kernel_rfl) (fun _ _ _ h => h) (by rfl) (v := .int .i64 (tot + RM)) (fun w hSw => by go_simp; try exact HW1.out) hS (fun hS => ?_)
  try go_frame
  refine held_pure (i := 6) (oi := ⟨some 50, _, _, _, _, _⟩) rfl (by kernel_rfl) (by kernel_rfl) (by kernel_rfl) (fun _ _ _ h => h) (by rfl) (v := ?_) (fun w hSw => ?_) hS (fun hS => ?_)
  rotate_left
  · go_simp; try with_reducible rfl
  try go_frame
  refine held_pure (i := 7) (oi := ⟨some 51, _, _, _, _, _⟩) rfl (by kernel_rfl) (by kernel_rfl) (by kernel_rfl) (fun _ _ _ h => h) (by rfl) (v := ?_) (fun w hSw => ?_) hS (fun hS => ?_)
  rotate_left
  · go_simp; try with_reducible rfl
  try go_frame
  refine held_pure (i := 8) (oi := ⟨some 52, _, _, _, _, _⟩) rfl (by kernel_rfl) (by kernel_rfl) (by kernel_rfl) (fun _ _ _ h => h) (by rfl) (v := ?_) (fun w hSw => ?_) hS (fun hS => ?_)
  rotate_left
  · go_simp; try with_reducible rfl
  try go_frame
  refine held_pure (i := 9) (oi := ⟨some 53, _, _, _, _, _⟩) rfl (by kernel_rfl) (by kernel_rfl) (by kernel_rfl) (fun _ _ _ h => h) (by rfl) (fun w hSw => run_load_int rfl rfl (cells_at (i := 3) ((hSw.block t htz).trans ht) rfl)) hS (fun hS => ?_)
  try go_frame
  refine held_pure (i := 10) (oi := ⟨some 54, _, _, _, _, _⟩) rfl (by kernel_rfl) (by kernel_rfl) (by kernel_rfl) (fun _ _ _ h => h) (by rfl) (v := .bool false) (fun w hSw => by go_simp; try (exact HROOM.out)) hS (fun hS => ?_)
  try go_frame
  refine wpAnyH_done (by kernel_rfl) ?_ _
  have b3 := hS
  generalize w2.drew = w3 at *
  have HT3 := Lib.hid (HT2.out.below b3)
  have hb3 := HT3.out.bx s (List.mem_cons_self ..)
  have kg3 : w3.cell? ⟨s.g, 0, none⟩ = some (.pointer (some ⟨s.h, 0, none⟩)) := cells_at (i := 0) hb3.obj rfl
  have HX3 := Lib.hid hb3.hx
  have b13 : Below w.heap.size w w3 := (b1.trans (b2.mono b1.size)).trans (b3.mono (Nat.le_trans b1.size b2.size))
  have HAR3 := Lib.hid ((HARG.out.below b13).more b13.size)
  have HE3 : Hid (addC (piE s.L) ⟨off, more, b⟩ = 0) := Lib.hid (by rw [← HPO.out]; exact HADD.out)
  have hsl : s.L.length + 1 ≤ 100000 := by
    rcases HCS.out with ⟨hp, _⟩ | ⟨_, hfr, _⟩
    · exact HL.out s (hp.mem_iff.2 (List.mem_cons_self ..))
    · rw [hfr.2.2.2.1]; decide
  clear hS hb3 kg1 ht htz
  have HZ3 := Lib.hid (find_zN HCS.out hB0 HZ.out)
  have HS3 : Hid (∀ i, (i = s.h ∨ s.v.ownBlock = some i) → NB i) := Lib.hid (fun i hi => by
    obtain ⟨_, h2, h3⟩ := HZ3.out.2.2 s (List.mem_cons_self ..)
    rcases hi with rfl | hi
    · exact h2
    · exact h3 i hi)
  have hw1 := HW1.out
  go_wp2_with (first
    | (go_at_call 154; go_loud (refine (hcadd s.h s.A s.c s.L off more A' b c' _ HX3.out HAR3.out hbl hoff hsl).mono ?_; rintro e w4 ⟨rfl, A2, c2, L2, hx4, hp4, k4, ob4, ln4⟩; rw [HE3.out]; have HT4 := Lib.hid (HT3.out.add hx4 k4 ob4); have HZ4 := Lib.hid (HZ3.out.with_ (fun i hi => hB0 i (Nat.le_trans b13.size hi)) ob4); have HB4 := Lib.hid (k4.mono (T := NB) (fun i _ hi => HS3.out i hi)); have kt4 := HT4.out.c0; have HP4 := Lib.hid hp4; obtain ⟨es4, hown4, hpe4⟩ := HT4.out.map; obtain ⟨es5, hput5, hpe5⟩ := en_putW hpe4 (key, s.g); have HPUT := Lib.hid hput5; have HPE := Lib.hid hpe5; clear hx4 hp4 k4 ob4 hpe4 hput5 hpe5))
    | (at_mapUpdate; go_loud (refine wpList_mapUpdate_in _ rfl _ _ _ 92 rfl 9 121 klaw Tryz.underlying92 ptrElem bm M.length _ rfl hown4 (by unfold maxLen; omega) _ _ _ rfl rfl (kkey key hk) (.lit (.int .i64 (s.g : Int))) [] rfl ?_; intro w5 hown5 hturn5; rw [HPUT.out] at hown5; have HT5 := Lib.hid (HT4.out.put HPE.out hown5 hturn5); have kt5 := HT5.out.c1; have ft5 := heap_frozen HT5.out.obj 1; have HT6 := Lib.hid (HT5.out.setTot (tot + RM)); have HB5 := Lib.hid ((Kept.of_turned hturn5).mono (T := NB) (fun k _ hk => by rw [hk]; exact HZ.out.2.1)); have HK6 := Lib.hid (Kept.setCell w5 t 1 (.int .i64 (tot + RM))); clear hown4 hown5 hturn5))
    | (go_at_call 155; go_loud (refine (jtell (s.with_ A2 c2 L2) (HT6.out.bx _ (List.mem_cons_self ..)) off head).mono ?_; rintro e w7 ⟨rfl, hb7, k7⟩; have HT7 := Lib.hid (HT6.out.tell hb7 k7); have HX7 : Hid (Hx w7 s.h A2 c2 L2) := Lib.hid (tellB_hx (s := s.with_ A2 c2 L2) hb7); have kg7 : w7.cell? ⟨s.g, 0, none⟩ = some (.pointer (some ⟨s.h, 0, none⟩)) := tellB_c0 (s := s.with_ A2 c2 L2) hb7; have HK7 := Lib.hid k7; clear hb7 k7))
    | (go_at_call 156; go_loud (refine (hcdone s.h A2 c2 L2 _ HX7.out).mono ?_; rintro e w8 ⟨v8, rfl, m8⟩; have HND8 : Hid ((endedP (piE L2) && decide (gapsS 0 (piE L2) = [])) = true) := Lib.hid (by rw [HP4.out, ← HPO.out]; exact HND.out); rw [HND8.out]; rw [HND8.out, if_pos rfl] at m8; obtain ⟨P8, p8, rfl, a8, o8, y8⟩ := made_shape m8; have HT8 := Lib.hid (HT7.out.below y8); clear m8 a8))
    | (go_at_call 75; go_loud (refine (jdropK HT8.out (tellB (s.with_ A2 c2 L2) off head) (HT8.out.bx _ (List.mem_cons_self ..)) key s.g ((tellB_key _ _ _).trans HSK.out) (tellB_g _ _ _) (bytesP (piE L2)) (by unfold Bu.by; rw [tellB_L]; rfl) hk (by omega) (by rw [HP4.out, ← HPO.out]; exact HBP.out)).mono ?_; rintro e w9 ⟨rfl, hT9, hK9⟩; have HT9 := Lib.hid hT9; have HK9 := Lib.hid hK9; have kh9 : w9.cell? ⟨s.g, 2, none⟩ = some (.string (strB (tellB (s.with_ A2 c2 L2) off head).head)) := (HT9.out.bx _ (List.mem_cons_self ..)).c2 (tellB_g _ _ _); clear hT9 hK9)))
  have B6 := HK6.out.mono (T := NB) (fun k _ hk => by rw [hk]; exact HZ.out.1)
  have B7 := HK7.out.mono (T := NB) (fun k _ hk => by rw [hk]; exact (HZ3.out.2.2 s (List.mem_cons_self ..)).1)
  have B9 := HK9.out.mono (T := NB) (fun k _ hk => by rcases hk with rfl | rfl; exact HZ.out.1; exact HZ.out.2.1)
  have hhd : (tellB (s.with_ A2 c2 L2) off head).head = headOf S key off head := headOf_eq HCS.out HSK.out HT1.out.nd
  refine bodyPost_ret (results_tmp4 rfl _ _ _) rfl ⟨_, by rw [← hhd]; rfl, s, R, ?_, HSK.out, ?_, ⟨HZ.out.1, HZ.out.2.1, fun x hx => HZ3.out.2.2 x (List.mem_cons_of_mem _ hx)⟩, ?_, ?_⟩
  · have h9 := HT9.out.sub (List.sublist_cons_self _ _)
    rw [← HRM.out]
    have e1 : withoutM key ((key, s.g) :: withoutM key M) = withoutM key M := by
      unfold withoutM
      rw [List.filter_cons_of_neg (by simp), List.filter_filter]
      simp
    rw [e1] at h9
    rw [HPO.out, ← HP4.out]
    exact h9
  · rcases HCS.out with ⟨h, _⟩ | ⟨h1, h2, _, _, h5⟩
    · exact .inl h
    · exact .inr ⟨h1, h2, h5⟩
  · exact KNt (KNt (KNt (KNt (KNt (KNt (Kept.of_below b13) HB4.out) HB5.out) B6) B7) (Kept.of_below y8)) B9
  · rw [HPO.out, ← HP4.out]
    exact own_baseL (own_keptA o8 HK9.out (HT8.out.away) tt_no.2.2.1) (KNt (KNt (KNt (KNt (Kept.of_below b13) HB4.out) HB5.out) B6) B7).size
set_option maxRecDepth 100000 in
set_option maxHeartbeats 2000000 in
theorem kadd_err (hT0 : Tx w t bm tot mb my wt M S) (hMS : M.Perm (S.map Bu.kg)) (key head : List UInt8) (off now : Int) (more : Bool) (A' : Option Addr) (c' : Nat) (b : List UInt8) (hA' : Arg w w.heap.size A' c' b) (hk : key.length ≤ maxLen) (hbl : b.length ≤ 1000000)
    (hoff : -9223372036854775808 ≤ off ∧ off ≤ 9223372036854775807) (hL : ∀ s ∈ S, s.L.length + 1 ≤ 100000) (htot : 0 ≤ tot ∧ tot ≤ 100000000000) (hf : Takes M S mb key) (NB : Nat → Prop) (hB0 : ∀ i, w.heap.size ≤ i → NB i) (hZ : TzN NB t bm S)
    (hroom : ¬ tot + roomC (partsOf S key) off b > my) (E : Int) (hadd : E = addC (partsOf S key) ⟨off, more, b⟩) (hE : E ≠ 0) (hbp : 0 ≤ bytesP (partsOf S key) ∧ bytesP (partsOf S key) ≤ 1000000000000) :
    Calls Tryz.prog 124 #[.pointer (some ⟨t, 0, none⟩), sq key, .int .i64 off, .bool more, .slice A' b.length c', sq head, .int .i64 now] w fun e w' => e = fail16 E ∧ ErrLeavesN w w' t bm tot mb my wt M S key now NB := by
  have HADD := Lib.hid hadd
  have HBP := Lib.hid hbp
  have HZ := Lib.hid hZ
  clear hadd hbp hZ
  have k0 := hT0.c0
  obtain ⟨RM, hRM⟩ : ∃ RM, RM = roomC (partsOf S key) off b := ⟨_, rfl⟩
  have hrm0 : 0 ≤ RM ∧ RM ≤ 1000000 := by rw [hRM]; unfold roomC; split <;> omega
  rw [← hRM] at hroom
  have HW1 : Hid (IntKind.i64.wrap (tot + RM) = tot + RM) := Lib.hid (IntWalk.i64_in _ (by omega))
  have HROOM : Hid (tot + RM ≤ my) := Lib.hid (by omega)
  have HRM := Lib.hid hRM
  have hT := Lib.hid hT0
  have HMS := Lib.hid hMS
  have HF := Lib.hid hf
  have HARG := Lib.hid hA'
  have HL := Lib.hid hL
  clear hT0 hMS hf hA' hL hroom hRM
  unfold sq at *
  go_enter Tryz.func124, Tryz.ntmps124
  go_upto_region 7 with (first
    | (go_at_call 74; refine (jmade t bm _ k0).mono ?_; rintro e w1 ⟨rfl, rfl⟩)
    | (go_at_call 153; go_loud (refine (jroom s.h s.A s.c s.L off A' b c' _ (HT1.out.bx s (List.mem_cons_self ..)).hx ((HARG.out.below b1).more b1.size)).mono ?_; rintro e w2 ⟨rfl, b2⟩; rw [← HRV.out]))
    | (go_at_call 152; go_loud (refine (jfind_ok hT.out HMS.out key now hk HF.out).mono ?_; rintro e w1 ⟨s, R, rfl, hT1, hsk, b1, hcs⟩; have HT1 := Lib.hid hT1; have HSK := Lib.hid hsk; have HCS := Lib.hid hcs; have kg1 : w1.cell? ⟨s.g, 0, none⟩ = some (.pointer (some ⟨s.h, 0, none⟩)) := cells_at (i := 0) (HT1.out.bx s (List.mem_cons_self ..)).obj rfl; clear hT1 hsk hcs; have HPO := Lib.hid (partsOf_find HCS.out HSK.out HT1.out.nd); have HRV := Lib.hid (HRM.out.trans (congrArg (fun z => roomC z off b) HPO.out)))))
  have HT2 := Lib.hid (HT1.out.below b2)
  have ht := HT2.out.obj
  have htz := heap_lt ht
  refine wp_region_held_drew (S := fun w' => Below w2.heap.size w2 w') (by kernel_rfl) (Below.refl _ w2).drew (fun hS => ?_)
  refine held_pure (i := 0) (oi := ⟨some 44, _, _, _, _, _⟩) rfl (by kernel_rfl) (by kernel_rfl) (by kernel_rfl) (fun _ _ _ h => h) (by rfl) (v := ?_) (fun w hSw => ?_) hS (fun hS => ?_)
  rotate_left
  · go_simp; try with_reducible rfl
  try go_frame
  refine held_pure (i := 1) (oi := ⟨some 45, _, _, _, _, _⟩) rfl (by kernel_rfl) (by kernel_rfl) (by kernel_rfl) (fun _ _ _ h => h) (by rfl) (v := ?_) (fun w hSw => ?_) hS (fun hS => ?_)
  rotate_left
  · go_simp; try with_reducible rfl
  try go_frame
  refine held_pure (i := 2) (oi := ⟨some 46, _, _, _, _, _⟩) rfl (by kernel_rfl) (by kernel_rfl) (by kernel_rfl) (fun _ _ _ h => h) (by rfl) (v := ?_) (fun w hSw => ?_) hS (fun hS => ?_)
  rotate_left
  · go_simp; try with_reducible rfl
  try go_frame
  refine held_pure (i := 3) (oi := ⟨some 47, _, _, _, _, _⟩) rfl (by kernel_rfl) (by kernel_rfl) (by kernel_rfl) (fun _ _ _ h => h) (by rfl) (fun w hSw => run_load_int rfl rfl (cells_at (i := 1) ((hSw.block t htz).trans ht) rfl)) hS (fun hS => ?_)
  try go_frame
  refine held_pure (i := 4) (oi := ⟨some 48, _, _, _, _, _⟩) rfl (by kernel_rfl) (by kernel_rfl) (by kernel_rfl) (fun _ _ _ h => h) (by rfl) (v := ?_) (fun w hSw => ?_) hS (fun hS => ?_)
  rotate_left
  · go_simp; try with_reducible rfl
  try go_frame
  refine held_pure (i := 5) (oi := ⟨some 49, _, _, _, _, _⟩) rfl (by kernel_rfl) (by kernel_rfl) (by kernel_rfl) (fun _ _ _ h => h) (by rfl) (v := .int .i64 (tot + RM)) (fun w hSw => by go_simp; try exact HW1.out) hS (fun hS => ?_)
  try go_frame
  refine held_pure (i := 6) (oi := ⟨some 50, _, _, _, _, _⟩) rfl (by kernel_rfl) (by kernel_rfl) (by kernel_rfl) (fun _ _ _ h => h) (by rfl) (v := ?_) (fun w hSw => ?_) hS (fun hS => ?_)
  rotate_left
  · go_simp; try with_reducible rfl
  try go_frame
  refine held_pure (i := 7) (oi := ⟨some 51, _, _, _, _, _⟩) rfl (by kernel_rfl) (by kernel_rfl) (by kernel_rfl) (fun _ _ _ h => h) (by rfl) (v := ?_) (fun w hSw => ?_) hS (fun hS => ?_)
  rotate_left
  · go_simp; try with_reducible rfl
  try go_frame
  refine held_pure (i := 8) (oi := ⟨some 52, _, _, _, _, _⟩) rfl (by kernel_rfl) (by kernel_rfl) (by kernel_rfl) (fun _ _ _ h => h) (by rfl) (v := ?_) (fun w hSw => ?_) hS (fun hS => ?_)
  rotate_left
  · go_simp; try with_reducible rfl
  try go_frame
  refine held_pure (i := 9) (oi := ⟨some 53, _, _, _, _, _⟩) rfl (by kernel_rfl) (by kernel_rfl) (by kernel_rfl) (fun _ _ _ h => h) (by rfl) (fun w hSw => run_load_int rfl rfl (cells_at (i := 3) ((hSw.block t htz).trans ht) rfl)) hS (fun hS => ?_)
  try go_frame
  refine held_pure (i := 10) (oi := ⟨some 54, _, _, _, _, _⟩) rfl (by kernel_rfl) (by kernel_rfl) (by kernel_rfl) (fun _ _ _ h => h) (by rfl) (v := .bool false) (fun w hSw => by go_simp; try (exact HROOM.out)) hS (fun hS => ?_)
  try go_frame
  refine wpAnyH_done (by kernel_rfl) ?_ _
  have b3 := hS
  generalize w2.drew = w3 at *
  have HT3 := Lib.hid (HT2.out.below b3)
  have hb3 := HT3.out.bx s (List.mem_cons_self ..)
  have kg3 : w3.cell? ⟨s.g, 0, none⟩ = some (.pointer (some ⟨s.h, 0, none⟩)) := cells_at (i := 0) hb3.obj rfl
  have HX3 := Lib.hid hb3.hx
  have b13 : Below w.heap.size w w3 := (b1.trans (b2.mono b1.size)).trans (b3.mono (Nat.le_trans b1.size b2.size))
  have HAR3 := Lib.hid ((HARG.out.below b13).more b13.size)
  have HE3 : Hid (E = addC (piE s.L) ⟨off, more, b⟩) := Lib.hid (by rw [← HPO.out]; exact HADD.out)
  have HLE : Hid (addCL (piE s.L) ⟨off, more, b⟩ = piE s.L) := Lib.hid (by unfold addCL; rw [if_neg (by rw [← HE3.out]; exact hE)])
  have hsl : s.L.length + 1 ≤ 100000 := by
    rcases HCS.out with ⟨hp, _⟩ | ⟨_, hfr, _⟩
    · exact HL.out s (hp.mem_iff.2 (List.mem_cons_self ..))
    · rw [hfr.2.2.2.1]; decide
  clear hS hb3 kg1 ht htz
  have HZ3 := Lib.hid (find_zN HCS.out hB0 HZ.out)
  have HS3 : Hid (∀ i, (i = s.h ∨ s.v.ownBlock = some i) → NB i) := Lib.hid (fun i hi => by
    obtain ⟨_, h2, h3⟩ := HZ3.out.2.2 s (List.mem_cons_self ..)
    rcases hi with rfl | hi
    · exact h2
    · exact h3 i hi)
  have dE : decide (E = 0) = false := decide_eq_false hE
  go_wp2_with (first
    | (go_at_call 154; go_loud (refine (hcadd s.h s.A s.c s.L off more A' b c' _ HX3.out HAR3.out hbl hoff hsl).mono ?_; rintro e w4 ⟨rfl, A2, c2, L2, hx4, hp4, k4, ob4, ln4⟩; rw [← HE3.out]; have HT4 := Lib.hid (HT3.out.add hx4 k4 ob4); have HB4 := Lib.hid (k4.mono (T := NB) (fun i _ hi => HS3.out i hi)); have HP4 := Lib.hid (hp4.trans HLE.out); clear hx4 hp4 k4 ob4))
    | (go_at_call 75; go_loud (refine (jdropK HT4.out (s.with_ A2 c2 L2) (HT4.out.bx _ (List.mem_cons_self ..)) key s.g HSK.out rfl (bytesP (piE L2)) rfl hk (by omega) (by rw [HP4.out, ← HPO.out]; exact HBP.out)).mono ?_; rintro e w9 ⟨rfl, hT9, hK9⟩; have HT9 := Lib.hid hT9; have HK9 := Lib.hid hK9; clear hT9 hK9)))
  have B9 := HK9.out.mono (T := NB) (fun k _ hk => by rcases hk with rfl | rfl; exact HZ.out.1; exact HZ.out.2.1)
  refine bodyPost_ret (results_tmp4 rfl _ _ _) rfl ⟨rfl, s, R, ?_, HSK.out, ?_, ⟨HZ.out.1, HZ.out.2.1, fun x hx => HZ3.out.2.2 x (List.mem_cons_of_mem _ hx)⟩, KNt (KNt (Kept.of_below b13) HB4.out) B9⟩
  · have h9 := HT9.out.sub (List.sublist_cons_self _ _)
    rw [HPO.out, ← HP4.out]
    exact h9
  · rcases HCS.out with ⟨h, _⟩ | ⟨h1, h2, _, _, h5⟩
    · exact .inl h
    · exact .inr ⟨h1, h2, h5⟩
end
end Go.Proofs.YtpoigngpdcmipaaGreat
namespace Go.Proofs.YtpoigngpdcmipaaGreat
open Go.RowKit Go.Shelf Go.Maps
end Go.Proofs.YtpoigngpdcmipaaGreat
namespace Go.Proofs.YtpoigngpdcmipaaGreat
open Go.RowKit Go.Shelf
structure XB where
  key : List UInt8
  since : Int
  A : Option Addr
  c : Nat
  l : List XP
  head : List UInt8
  has : Bool
theorem findJ_cons (x : Bf) (t : List Bf) (key : List UInt8) : findJ (x :: t) key = if x.key = key then 0 else findJ t key + 1 := by
  unfold findJ
  rw [List.findIdx_cons]
  by_cases h : x.key = key
  · rw [if_pos h, show (x.key == key) = true by simp [h]]; rfl
  · rw [if_neg h, show (x.key == key) = false by simp [h]]; rfl
end Go.Proofs.YtpoigngpdcmipaaGreat
namespace Go.Proofs.YtpoigngpdcmipaaGreat
open Go.RowKit Go.Shelf
def badN (a b c : Int) : Prop := a < 0 ∨ a > 1073741824 ∨ b < 0 ∨ b > 1073741824 ∨ c < 1 ∨ c > 1099511627776
instance (a b c : Int) : Decidable (badN a b c) := by unfold badN; exact inferInstance
end Go.Proofs.YtpoigngpdcmipaaGreat
namespace Go.Proofs.YtpoigngpdcmipaaGreat
open Go.RowKit Go.Shelf
end Go.Proofs.YtpoigngpdcmipaaGreat
namespace Go.Proofs.YtpoigngpdcmipaaGreat
open Go.RowKit Go.Shelf
end Go.Proofs.YtpoigngpdcmipaaGreat
namespace Go.Proofs.YtpoigngpdcmipaaGreat
open Go.RowKit Go.Shelf
end Go.Proofs.YtpoigngpdcmipaaGreat
namespace Go.Proofs.YtpoigngpdcmipaaGreat
open Go.RowKit Go.Shelf
end Go.Proofs.YtpoigngpdcmipaaGreat
namespace Go.Proofs.YtpoigngpdcmipaaGreat
open Go.RowKit Go.Shelf
end Go.Proofs.YtpoigngpdcmipaaGreat
namespace Go.Proofs.YtpoigngpdcmipaaGreat
open Go.RowKit Go.Shelf
end Go.Proofs.YtpoigngpdcmipaaGreat
namespace Go.Proofs.YtpoigngpdcmipaaGreat
open Go.RowKit Go.Shelf
theorem putJ_ways {mb : Int} {t0 T : List Bf} {k : Nat} {x : Bf} {p : Pc} {head : List UInt8} :
    (bytesJ T + roomP x.l p.off p.b > mb → putJ mb t0 T k x p head = (t0, [], [], false, 7)) ∧
    (¬ bytesJ T + roomP x.l p.off p.b > mb → addE x.l p ≠ 0 → putJ mb t0 T k x p head = (T.eraseIdx k, [], [], false, addE x.l p)) ∧
    (¬ bytesJ T + roomP x.l p.off p.b > mb → addE x.l p = 0 → doneB (addL x.l p) = true → putJ mb t0 T k x p head = (T.eraseIdx k, (upJ x p head).head, doneP (addL x.l p), true, 0)) ∧
    (¬ bytesJ T + roomP x.l p.off p.b > mb → addE x.l p = 0 → doneB (addL x.l p) = false → putJ mb t0 T k x p head = (T.set k (upJ x p head), [], [], false, 0)) := by
  have e : (upJ x p head).l = addL x.l p := rfl
  refine ⟨fun h => by rw [putJ, if_pos h], fun h h2 => by rw [putJ, if_neg h, if_pos h2], fun h h2 h3 => ?_, fun h h2 h3 => ?_⟩
  · rw [putJ, if_neg h, if_neg (by simpa using h2), e, if_pos h3]
  · rw [putJ, if_neg h, if_neg (by simpa using h2), e, if_neg (by rw [h3]; decide)]
end Go.Proofs.YtpoigngpdcmipaaGreat
namespace Go.Proofs.YtpoigngpdcmipaaGreat
open Go.RowKit Go.Shelf
end Go.Proofs.YtpoigngpdcmipaaGreat
namespace Go.Proofs.YtpoigngpdcmipaaGreat
structure SmB (s : Bu) (b : Bf) : Prop where
  key : s.key = b.key
  since : s.began = b.since
  l : Same (piE s.L) b.l
  head : s.head = b.head
  has : s.headed = b.has
def SameT (S : List Bu) (T : List Bf) : Prop := ∃ Z : List (Bu × Bf), S.Perm (Z.map (·.1)) ∧ T = Z.map (·.2) ∧ ∀ z ∈ Z, SmB z.1 z.2
section
variable {S R : List Bu} {T : List Bf} {s : Bu} {key : List UInt8}
theorem SameT.nil : SameT [] [] := ⟨[], List.Perm.refl _, rfl, fun z hz => by cases hz⟩
theorem SameT.len (h : SameT S T) : S.length = T.length := by
  obtain ⟨Z, h1, h2, _⟩ := h
  rw [h1.length_eq, h2, List.length_map, List.length_map]
theorem sumB_zip : ∀ (Z : List (Bu × Bf)), (∀ z ∈ Z, SmB z.1 z.2) → sumB (Z.map (·.1)) = bytesJ (Z.map (·.2))
  | [], _ => rfl
  | z :: Z, h => by
    have e := sumB_zip Z (fun y hy => h y (List.mem_cons_of_mem _ hy))
    have e2 := (h z (List.mem_cons_self ..)).l.bytes
    show z.1.by + sumB (Z.map (·.1)) = bytesP z.2.l + bytesJ (Z.map (·.2))
    rw [e, ← e2]; rfl
theorem SameT.bytes (h : SameT S T) : sumB S = bytesJ T := by
  obtain ⟨Z, h1, h2, h3⟩ := h
  rw [sumB_perm h1, h2, sumB_zip Z h3]
theorem findJ_at {P Q : List Bf} {x : Bf} (hx : x.key = key) (hn : ∀ y ∈ P, y.key ≠ key) : findJ (P ++ x :: Q) key = P.length := by
  induction P with
  | nil => rw [List.nil_append, findJ_cons, if_pos hx]; rfl
  | cons y P ih =>
    rw [List.cons_append, findJ_cons, if_neg (hn y (List.mem_cons_self ..)), ih (fun z hz => hn z (List.mem_cons_of_mem _ hz))]
    rfl
theorem SameT.hit (h : SameT S T) (hp : S.Perm (s :: R)) (hk : s.key = key) (nd : S.Pairwise (fun a b => a.key ≠ b.key)) :
    ∃ x, T[findJ T key]? = some x ∧ SmB s x ∧ SameT R (T.eraseIdx (findJ T key)) ∧ ∀ s' x', SmB s' x' → SameT (s' :: R) (T.set (findJ T key) x') := by
  obtain ⟨Z, h1, h2, h3⟩ := h
  have hm : s ∈ Z.map (·.1) := (hp.symm.trans h1).mem_iff.1 (List.mem_cons_self ..)
  obtain ⟨z, hz, hzs⟩ := List.mem_map.1 hm
  obtain ⟨P, Q, rfl⟩ := List.append_of_mem hz
  have hzs : z.1 = s := hzs
  have hsm := h3 z hz
  have ndZ : ((P ++ z :: Q).map (·.1)).Pairwise (fun a b => a.key ≠ b.key) := h1.pairwise nd (fun e => e.symm)
  have hzk : z.2.key = key := by rw [← hsm.key, hzs, hk]
  have hno : ∀ y ∈ P.map (·.2), y.key ≠ key := fun y hy => by
    obtain ⟨q, hq, rfl⟩ := List.mem_map.1 hy
    rw [List.map_append] at ndZ
    have := (List.pairwise_append.1 ndZ).2.2 q.1 (List.mem_map.2 ⟨q, hq, rfl⟩) z.1 (by simp)
    rw [(h3 q (by simp [hq])).key, hzs, hk] at this
    exact this
  have eT : T = P.map (·.2) ++ z.2 :: Q.map (·.2) := by rw [h2, List.map_append, List.map_cons]
  have hf : findJ T key = (P.map (·.2)).length := by rw [eT]; exact findJ_at hzk hno
  have hR : R.Perm ((P ++ Q).map (·.1)) := by
    have e := hp.symm.trans h1
    rw [List.map_append, List.map_cons, hzs] at e
    rw [List.map_append]
    exact (e.trans List.perm_middle).cons_inv
  refine ⟨z.2, ?_, ?_, ⟨P ++ Q, hR, ?_, fun y hy => h3 y ?_⟩, fun s' x' hs => ⟨P ++ (s', x') :: Q, ?_, ?_, fun y hy => ?_⟩⟩
  · rw [hf, eT, List.getElem?_append_right (Nat.le_refl _), Nat.sub_self]; rfl
  · rw [← hzs]; exact hsm
  · rw [hf, eT, List.eraseIdx_append_of_length_le (Nat.le_refl _), Nat.sub_self, List.map_append]; rfl
  · rcases List.mem_append.1 hy with hy | hy
    · exact List.mem_append_left _ hy
    · exact List.mem_append_right _ (List.mem_cons_of_mem _ hy)
  · rw [List.map_append, List.map_cons]
    rw [List.map_append] at hR
    exact (hR.cons s').trans List.perm_middle.symm
  · rw [hf, eT, List.set_append_right _ _ (Nat.le_refl _), Nat.sub_self, List.map_append]; rfl
  · rcases List.mem_append.1 hy with hy | hy
    · exact h3 y (List.mem_append_left _ hy)
    · rcases List.mem_cons.1 hy with rfl | hy
      · exact hs
      · exact h3 y (List.mem_append_right _ (List.mem_cons_of_mem _ hy))
theorem findJ_ge : ∀ {T : List Bf}, (∀ y ∈ T, y.key ≠ key) → findJ T key = T.length
  | [], _ => rfl
  | y :: T, h => by rw [findJ_cons, if_neg (h y (List.mem_cons_self ..)), findJ_ge (fun z hz => h z (List.mem_cons_of_mem _ hz))]; rfl
theorem SameT.none (h : SameT S T) (hno : ∀ s ∈ S, s.key ≠ key) : findJ T key = T.length ∧ ∀ s' x', SmB s' x' → SameT (s' :: S) (T ++ [x']) := by
  obtain ⟨Z, h1, h2, h3⟩ := h
  refine ⟨findJ_ge fun y hy => ?_, fun s' x' hs => ⟨Z ++ [(s', x')], ?_, ?_, fun y hy => ?_⟩⟩
  · rw [h2] at hy
    obtain ⟨z, hz, rfl⟩ := List.mem_map.1 hy
    rw [← (h3 z hz).key]
    exact hno z.1 (h1.mem_iff.2 (List.mem_map.2 ⟨z, hz, rfl⟩))
  · rw [List.map_append]
    exact (h1.cons s').trans (List.perm_append_comm (l₁ := [s']))
  · rw [List.map_append, h2]; rfl
  · rcases List.mem_append.1 hy with hy | hy
    · exact h3 y hy
    · rw [List.mem_singleton.1 hy]; exact hs
theorem SameT.hit_or (h : SameT S T) (nd : S.Pairwise (fun a b => a.key ≠ b.key)) (key : List UInt8) : (∃ s R, S.Perm (s :: R) ∧ s.key = key) ∨ (∀ s ∈ S, s.key ≠ key) := by
  by_cases hx : ∃ s ∈ S, s.key = key
  · obtain ⟨s, hs, hk⟩ := hx
    obtain ⟨P, Q, rfl⟩ := List.append_of_mem hs
    exact .inl ⟨s, P ++ Q, List.perm_middle, hk⟩
  · exact .inr fun s hs hk => hx ⟨s, hs, hk⟩
end
end Go.Proofs.YtpoigngpdcmipaaGreat
namespace Go.Proofs.YtpoigngpdcmipaaGreat
open Go.RowKit Go.Shelf Go.Maps
def TJ (ty : TypeId) : Prop := ty = 94 ∨ ty = 124 ∨ ty = 179 ∨ ty = 225
def NJ (B : Nat) (w : World) : Nat → Prop := fun i => B ≤ i ∧ ∀ cs ty fr, w.heap[i]? = some (.cells cs ty fr) → TJ ty
section
variable {w w' : World} {B t bm g : Nat} {tot mb my wt most mb2 wait : Int} {M : List (List UInt8 × Nat)} {S : List Bu} {v : Value} {T : List XB}
theorem nj_new (hB : B ≤ w.heap.size) : ∀ i, w.heap.size ≤ i → NJ B w i := fun i hi => ⟨Nat.le_trans hB hi, fun cs ty fr hg => absurd (heap_lt hg) (by omega)⟩
theorem nj_cells {i : Nat} {cs : Array Value} {ty : TypeId} {fr : Nat × Nat} (hi : B ≤ i) (hg : w.heap[i]? = some (.cells cs ty fr)) (ht : TJ ty) : NJ B w i := ⟨hi, fun cs' ty' fr' h => by
  have := hg.symm.trans h
  simp only [Option.some.injEq, Obj.cells.injEq] at this
  rw [← this.2.1]; exact ht⟩
theorem tz_nj (h : Tx w t bm tot mb my wt M S) (hz : Tz B t bm S) : TzN (NJ B w) t bm S := by
  refine ⟨nj_cells hz.1 h.obj (.inl rfl), ⟨hz.2.1, fun cs ty fr hg => ?_⟩, fun s hs => ?_⟩
  · obtain ⟨es, hm', _⟩ := h.map
    exact absurd hg (map_is hm')
  · obtain ⟨h1, h2, h3⟩ := hz.2.2 s hs
    have hb := h.bx s hs
    refine ⟨nj_cells h1 hb.obj (.inr (.inl rfl)), nj_cells h2 hb.hx.obj (.inr (.inr (.inl rfl))), fun k hk => ?_⟩
    rcases hb.hx.own.2 with ⟨hv, _⟩ | ⟨g', cap, cur, hv, _, hh, _⟩
    · have hk' : (Value.slice s.A s.L.length s.c).ownBlock = some k := hk
      rw [hv] at hk'; cases hk'
    · have hk' : (Value.slice s.A s.L.length s.c).ownBlock = some k := hk
      rw [hv] at hk'
      obtain rfl : g' = k := by injection hk'
      exact nj_cells (h3 g' hk) hh (.inr (.inr (.inr rfl)))
end
end Go.Proofs.YtpoigngpdcmipaaGreat
namespace Go.Proofs.YtpoigngpdcmipaaGreat
open Go.RowKit Go.Shelf Go.Maps
theorem SmB.up {s : Bu} {x : Bf} {A2 : Option Addr} {c2 : Nat} {L2 : List XP} {p : Pc} {head : List UInt8} (h : SmB s x) (hl : Same (piE L2) (addL x.l p)) : SmB (tellB (s.with_ A2 c2 L2) p.off head) (upJ x p head) := by
  have e1 : (s.with_ A2 c2 L2).key = s.key := rfl
  have hh : s.headed = x.has := h.has
  refine ⟨by rw [tellB_key]; exact h.key, by rw [tellB_began]; exact h.since, by rw [tellB_L]; exact hl, ?_, ?_⟩
  · show (tellB (s.with_ A2 c2 L2) p.off head).head = if p.off = 0 ∧ x.has = false then head else x.head
    unfold tellB
    rw [← hh, ← h.head]
    show (if p.off = 0 ∧ s.headed = false then _ else _ : Bu).head = _
    split <;> rfl
  · show (tellB (s.with_ A2 c2 L2) p.off head).headed = (x.has || decide (p.off = 0))
    unfold tellB
    rw [← hh]
    show (if p.off = 0 ∧ s.headed = false then _ else _ : Bu).headed = _
    split
    · rename_i h9; rw [h9.1]; simp
    · rename_i h9
      show s.headed = _
      by_cases h0 : p.off = 0
      · cases hb : s.headed with
        | true => rfl
        | false => exact absurd ⟨h0, hb⟩ h9
      · rw [decide_eq_false h0, Bool.or_false]
theorem SmB.fresh {s : Bu} {key : List UInt8} {now : Int} (h : Fresh s key now) : SmB s (newJ key now) :=
  ⟨h.1, h.2.2.2.2.1, by rw [h.2.2.2.1]; exact Same.nil, h.2.2.2.2.2.1, h.2.2.2.2.2.2⟩
theorem key_both {S R : List Bu} {T : List Bf} {s : Bu} {key : List UInt8} {now most mb : Int} {p : Pc} {head : List UInt8} (h : SameT S T) (nd : S.Pairwise (fun a b => a.key ≠ b.key)) (hm : (∃ s ∈ S, s.key = key) ∨ ¬ (S.length : Int) ≥ most) (hk : s.key = key)
    (hc : S.Perm (s :: R) ∨ (S = R ∧ Fresh s key now ∧ ∀ x ∈ S, x.key ≠ key)) :
    ∃ (T1 : List Bf) (k : Nat) (x : Bf), addJ most mb T key p head now = putJ mb T T1 k x p head ∧ SmB s x ∧ bytesJ T1 = bytesJ T ∧ SameT R (T1.eraseIdx k) ∧ ∀ s' x', SmB s' x' → SameT (s' :: R) (T1.set k x') := by
  rcases hc with hp | ⟨rfl, hf, hno⟩
  · obtain ⟨x, h1, h2, h3, h4⟩ := h.hit hp hk nd
    refine ⟨T, findJ T key, x, ?_, h2, rfl, h3, h4⟩
    rw [addJ, h1]
  · obtain ⟨h1, h2⟩ := h.none hno
    have hl := h.len
    have hm' : ¬ (T.length : Int) ≥ most := by
      rcases hm with ⟨y, hy, hyk⟩ | hm
      · exact absurd hyk (hno y hy)
      · rw [← hl]; exact hm
    refine ⟨T ++ [newJ key now], T.length, newJ key now, ?_, SmB.fresh hf, ?_, ?_, fun s' x' hs => ?_⟩
    · rw [addJ, h1, List.getElem?_eq_none (Nat.le_refl _)]
      show (if (T.length : Int) ≥ most then _ else _) = _
      rw [if_neg hm']
    · clear h h1 h2 hl hm hm'
      induction T with
      | nil => rfl
      | cons y T ih => show bytesP y.l + bytesJ (T ++ _) = bytesP y.l + bytesJ T; rw [ih]
    · rw [List.eraseIdx_append_of_length_le (Nat.le_refl _), Nat.sub_self]
      simpa using h
    · rw [List.set_append_right _ _ (Nat.le_refl _), Nat.sub_self]
      exact h2 s' x' hs
end Go.Proofs.YtpoigngpdcmipaaGreat
namespace Go.Proofs.YtpoigngpdcmipaaGreat
open Go.RowKit Go.Shelf Go.Maps
theorem headOf_up {S R : List Bu} {s : Bu} {x : Bf} {key head b : List UInt8} {off now : Int} {more : Bool} (nd : S.Pairwise (fun a b => a.key ≠ b.key)) (hk : s.key = key)
    (hc : S.Perm (s :: R) ∨ (S = R ∧ Fresh s key now ∧ ∀ x ∈ S, x.key ≠ key)) (hsx : SmB s x) : headOf S key off head = (upJ x ⟨off, more, b⟩ head).head := by
  show headOf S key off head = if off = 0 ∧ x.has = false then head else x.head
  rw [← hsx.has, ← hsx.head]
  rcases hc with hp | ⟨rfl, hf, hno⟩
  · unfold headOf
    rw [find_hit hp hk (hp.pairwise nd (fun e => e.symm))]
    show (tellB s off head).head = _
    unfold tellB
    split <;> rfl
  · unfold headOf
    rw [List.find?_eq_none.2 (fun y hy => by simpa using hno y hy)]
    show (if off = 0 then head else []) = _
    rw [hf.2.2.2.2.2.1, hf.2.2.2.2.2.2]
    by_cases h0 : off = 0 <;> simp [h0]
section
variable {w : World} {B t bm N : Nat} {mb my wt : Int} {S R : List Bu} {T : List Bf} {s : Bu} {key : List UInt8} {now : Int} {p : Pc} {head : List UInt8}
theorem Jv.says (h : Jv w B t bm mb my wt N S) (hs : SameT S T) (hF : Takes (S.map Bu.kg) S mb key) (hk : s.key = key) (hc : S.Perm (s :: R) ∨ (S = R ∧ Fresh s key now ∧ ∀ x ∈ S, x.key ≠ key)) :
    ∃ (T1 : List Bf) (k : Nat) (x : Bf), addJ mb my T key p head now = putJ my T T1 k x p head ∧ SmB s x ∧ SameT R (T1.eraseIdx k) ∧ (∀ s' x', SmB s' x' → SameT (s' :: R) (T1.set k x')) ∧
      sumB S + roomC (partsOf S key) p.off p.b = bytesJ T1 + roomP x.l p.off p.b ∧ addC (partsOf S key) p = addE x.l p ∧ Same (addCL (partsOf S key) p) (addL x.l p) := by
  obtain ⟨T1, k, x, e1, e2, e3, e4, e5⟩ := key_both (most := mb) (mb := my) (p := p) (head := head) hs h.tx.nd (by
    rcases hF with hF | hF
    · exact .inl hF
    · rw [List.length_map] at hF; exact .inr hF) hk hc
  obtain ⟨p1, _⟩ := h.parts hk hc
  have hsm : Same (partsOf S key) x.l := by rw [p1]; exact e2.l
  refine ⟨T1, k, x, e1, e2, e4, e5, ?_, hsm.addE p, hsm.addL p⟩
  rw [hs.bytes, e3]
  congr 1
  have := hsm.room p.off p.b false
  unfold roomC
  rw [this]
def AddSays (w : World) (B t bm : Nat) (mb my wt : Int) (N : Nat) (S : List Bu) (r : List Bf × AnsJ) (e : Ending) (w' : World) : Prop :=
  ∃ (V : Value) (S' : List Bu), e = .returned (.tuple #[.string (strB r.2.1), V, .bool r.2.2.2.1, .int .i64 r.2.2.2.2]) ∧ w'.ownsRow w.heap.size 5 1 V r.2.2.1.length (row r.2.2.1) ∧
    Jv w' B t bm mb my wt (N + 1) S' ∧ SameT S' r.1 ∧ Kept (NJ B w) w w' ∧ S'.length ≤ S.length + 1
theorem tz_of {NB : Nat → Prop} (h : TzN NB t bm S) (hN : ∀ i, NB i → B ≤ i) : Tz B t bm S := ⟨hN _ h.1, hN _ h.2.1, fun s hs => ⟨hN _ (h.2.2 s hs).1, hN _ (h.2.2 s hs).2.1, fun k hk => hN _ ((h.2.2 s hs).2.2 k hk)⟩⟩
set_option maxHeartbeats 1000000 in
theorem kadd_says (h : Jv w B t bm mb my wt N S) (hs : SameT S T) (hmy : my ≤ 10000000000) (key head : List UInt8) (off now : Int) (more : Bool) (A' : Option Addr) (c' : Nat) (b : List UInt8) (hA' : Arg w w.heap.size A' c' b) (hk : key.length ≤ maxLen) (hbl : b.length ≤ 1000000)
    (hoff : -9223372036854775808 ≤ off ∧ off ≤ 9223372036854775807) (hN : N + 1 ≤ 100000) (hS : S.length < 1000000) (hB : B ≤ w.heap.size) :
    Calls Tryz.prog 124 #[.pointer (some ⟨t, 0, none⟩), sq key, .int .i64 off, .bool more, .slice A' b.length c', sq head, .int .i64 now] w fun e w' =>
      AddSays w B t bm mb my wt N S (addJ mb my T key ⟨off, more, b⟩ head now) e w' := by
  have hnn := sumB_nn S
  have hby := h.by_
  have htot : 0 ≤ sumB S ∧ sumB S ≤ 100000000000 := by omega
  have hL : ∀ s ∈ S, s.L.length + 1 ≤ 100000 := fun s hs => by have := h.l s hs; omega
  have hML : (S.map Bu.kg).length = S.length := by simp
  have hNJ : ∀ i, NJ B w i → B ≤ i := fun i hi => hi.1
  by_cases hF : Takes (S.map Bu.kg) S mb key
  · by_cases hroom : sumB S + roomC (partsOf S key) off b > my
    · refine (jadd_room h.tx (List.Perm.refl _) key head off now more A' c' b hA' hk hbl htot hF hroom).mono ?_
      rintro e w' ⟨rfl, hT, hb⟩
      obtain ⟨s, R, hsk, hc⟩ : ∃ s R, s.key = key ∧ (S.Perm (s :: R) ∨ (S = R ∧ Fresh s key now ∧ ∀ x ∈ S, x.key ≠ key)) := by
        rcases hs.hit_or h.tx.nd key with ⟨s, R, hp, hsk⟩ | hno
        · exact ⟨s, R, hsk, .inl hp⟩
        · exact ⟨⟨key, 0, 0, none, 0, [], min (max now 0) 1099511627776, [], false⟩, S, rfl, .inr ⟨rfl, ⟨rfl, rfl, rfl, rfl, rfl, rfl, rfl⟩, hno⟩⟩
      obtain ⟨T1, k, x, e1, e2, e4, e5, e6, e7, e8⟩ := h.says (p := ⟨off, more, b⟩) (head := head) hs hF hsk hc
      have er : addJ mb my T key ⟨off, more, b⟩ head now = (T, [], [], false, 7) := by
        rw [e1]
        exact putJ_ways.1 (by rw [← e6]; exact hroom)
      rw [er]
      exact ⟨_, S, rfl, World.ownsRow_nil _ _ _ _, (h.below hb).mono (Nat.le_succ _), hs, Kept.of_below hb, Nat.le_succ _⟩
    · by_cases hadd : addC (partsOf S key) ⟨off, more, b⟩ = 0
      · cases hd : (endedP (addCL (partsOf S key) ⟨off, more, b⟩) && decide (gapsS 0 (addCL (partsOf S key) ⟨off, more, b⟩) = [])) with
        | false =>
          refine (kadd_open h.tx (List.Perm.refl _) key head off now more A' c' b hA' hk hbl hoff hL htot hF (by omega) (NJ B w) (nj_new hB) (tz_nj h.tx h.z) hroom hadd hd).mono ?_
          rintro e w' ⟨rfl, s, R, A2, c2, L2, hT, hsk, hc, hL2, ll, hz, hkp⟩
          obtain ⟨p1, p2, p3, p4, p5, p6, p7⟩ := h.parts hsk hc
          obtain ⟨T1, k, x, e1, e2, e4, e5, e6, e7, e8⟩ := h.says (p := ⟨off, more, b⟩) (head := head) hs hF hsk hc
          have er : addJ mb my T key ⟨off, more, b⟩ head now = (T1.set k (upJ x ⟨off, more, b⟩ head), [], [], false, 0) := by
            rw [e1]
            exact putJ_ways.2.2.2 (by rw [← e6]; exact hroom) (by rw [← e7]; exact hadd) (by rw [e8.done.1]; exact hd)
          rw [er]
          have hq := roomC_eq p3 ⟨off, more, b⟩ hadd
          have f1 : (tellB (s.with_ A2 c2 L2) off head).by = bytesP (partsOf S key) + roomC (partsOf S key) off b := by
            unfold Bu.by
            rw [tellB_L]
            show bytesP (piE L2) = _
            rw [hL2, hq]
          have f2 : sumB (tellB (s.with_ A2 c2 L2) off head :: R) = sumB S + roomC (partsOf S key) off b := by rw [sumB, f1]; omega
          have f3 : (tellB (s.with_ A2 c2 L2) off head).kg = (key, s.g) := by
            unfold Bu.kg
            rw [tellB_key, tellB_g, ← hsk]; rfl
          refine ⟨_, tellB (s.with_ A2 c2 L2) off head :: R, rfl, World.ownsRow_nil _ _ _ _, ⟨?_, tz_of hz hNJ, by rw [f2]; omega, ?_, ?_⟩, e5 _ _ (e2.up (p := ⟨off, more, b⟩) (by rw [hL2]; exact e8)), hkp, by rw [List.length_cons]; omega⟩
          · rw [f2, List.map_cons, f3]
            exact hT.perm (p4.cons _) (List.Perm.refl _)
          · have hn := h.n
            rw [List.length_cons]
            rcases hc with hp | ⟨rfl, hf, hno⟩
            · have := hp.length_eq
              rw [List.length_cons] at this
              omega
            · rcases hF with ⟨x, hx, hxk⟩ | hge
              · exact absurd hxk (hno x hx)
              · rw [hML] at hge; omega
          · intro x hx
            rcases List.mem_cons.1 hx with rfl | hx
            · rw [tellB_L]
              show L2.length ≤ N + 1
              omega
            · have := h.l x (p5 x hx); omega
        | true =>
          have hbp : 0 ≤ bytesP (addCL (partsOf S key) ⟨off, more, b⟩) ∧ bytesP (addCL (partsOf S key) ⟨off, more, b⟩) ≤ 1000000000000 := by
            refine ⟨bytesP_nn _, ?_⟩
            have hr : Ris (partsOf S key) ∧ bytesP (partsOf S key) ≤ sumB S := by
              unfold partsOf
              cases hf : S.find? (fun s => decide (s.key = key)) with
              | none => exact ⟨Ris.nil, hnn⟩
              | some x =>
                have hx := List.mem_of_find?_eq_some hf
                exact ⟨(h.tx.bx x hx).hx.ris, sum_part hx⟩
            rw [roomC_eq hr.1 ⟨off, more, b⟩ hadd]
            show bytesP (partsOf S key) + roomC (partsOf S key) off b ≤ _
            have := hr.2
            omega
          refine (kadd_done h.tx (List.Perm.refl _) key head off now more A' c' b hA' hk hbl hoff hL htot hF (by omega) (NJ B w) (nj_new hB) (tz_nj h.tx h.z) hroom hadd hd hbp).mono ?_
          rintro e w' ⟨v, rfl, s, R, hT, hsk, hc, hz, hkp, ha⟩
          obtain ⟨p1, p2, p3, p4, p5, p6, p7⟩ := h.parts hsk hc
          obtain ⟨T1, k, x, e1, e2, e4, e5, e6, e7, e8⟩ := h.says (p := ⟨off, more, b⟩) (head := head) hs hF hsk hc
          have hdn : doneB (addL x.l ⟨off, more, b⟩) = true := by rw [e8.done.1]; exact hd
          have er : addJ mb my T key ⟨off, more, b⟩ head now = (T1.eraseIdx k, (upJ x ⟨off, more, b⟩ head).head, doneP (addL x.l ⟨off, more, b⟩), true, 0) := by
            rw [e1]
            exact putJ_ways.2.2.1 (by rw [← e6]; exact hroom) (by rw [← e7]; exact hadd) hdn
          rw [er, ← headOf_up (more := more) (b := b) h.tx.nd hsk hc e2, e8.done.2 hdn]
          have hq := roomC_eq p3 ⟨off, more, b⟩ hadd
          have f2 : sumB S + roomC (partsOf S key) off b - bytesP (addCL (partsOf S key) ⟨off, more, b⟩) = sumB R := by rw [hq]; show sumB S + roomC (partsOf S key) off b - (bytesP (partsOf S key) + roomC (partsOf S key) off b) = _; omega
          rw [f2] at hT
          have := h.n
          have hpn := bytesP_nn (partsOf S key)
          exact ⟨_, R, rfl, ha, ⟨hT.perm p4 (List.Perm.refl _), tz_of hz hNJ, by omega, by omega, fun x hx => Nat.le_succ_of_le (h.l x (p5 x hx))⟩, e4, hkp, by omega⟩
      · have hbp : 0 ≤ bytesP (partsOf S key) ∧ bytesP (partsOf S key) ≤ 1000000000000 := by
          refine ⟨bytesP_nn _, ?_⟩
          unfold partsOf
          cases hf : S.find? (fun s => decide (s.key = key)) with
          | none => show (0 : Int) ≤ _; omega
          | some x =>
            have := sum_part (List.mem_of_find?_eq_some hf)
            show x.by ≤ _
            omega
        refine (kadd_err h.tx (List.Perm.refl _) key head off now more A' c' b hA' hk hbl hoff hL htot hF (NJ B w) (nj_new hB) (tz_nj h.tx h.z) hroom _ rfl hadd hbp).mono ?_
        rintro e w' ⟨rfl, s, R, hT, hsk, hc, hz, hkp⟩
        obtain ⟨p1, p2, p3, p4, p5, p6, p7⟩ := h.parts hsk hc
        obtain ⟨T1, k, x, e1, e2, e4, e5, e6, e7, e8⟩ := h.says (p := ⟨off, more, b⟩) (head := head) hs hF hsk hc
        have er : addJ mb my T key ⟨off, more, b⟩ head now = (T1.eraseIdx k, [], [], false, addE x.l ⟨off, more, b⟩) := by
          rw [e1]
          exact putJ_ways.2.1 (by rw [← e6]; exact hroom) (by rw [← e7]; exact hadd)
        rw [er, ← e7]
        have f2 : sumB S - bytesP (partsOf S key) = sumB R := by omega
        rw [f2] at hT
        have := h.n
        exact ⟨_, R, rfl, World.ownsRow_nil _ _ _ _, ⟨hT.perm p4 (List.Perm.refl _), tz_of hz hNJ, by omega, by omega, fun x hx => Nat.le_succ_of_le (h.l x (p5 x hx))⟩, e4, hkp, by omega⟩
  · have hno : ∀ s ∈ S, s.key ≠ key := fun s hs e => hF (.inl ⟨s, hs, e⟩)
    have hnp : ∀ p ∈ S.map Bu.kg, p.1 ≠ key := fun p hp e => by
      obtain ⟨x, hx, rfl⟩ := List.mem_map.1 hp
      exact hno x hx e
    have hge : ((S.map Bu.kg).length : Int) ≥ mb := by
      by_cases hg : ((S.map Bu.kg).length : Int) ≥ mb
      · exact hg
      · exact absurd (.inr hg) hF
    refine (jadd_full h.tx key head off now more _ hk hnp hge).mono ?_
    rintro e w' ⟨rfl, hT, hb⟩
    have er : addJ mb my T key ⟨off, more, b⟩ head now = (T, [], [], false, 7) := by
      rw [addJ, (hs.none hno).1, List.getElem?_eq_none (Nat.le_refl _)]
      show (if (T.length : Int) ≥ mb then _ else _) = _
      rw [if_pos (by rw [← hs.len, ← hML]; exact hge)]
    rw [er]
    exact ⟨_, S, rfl, World.ownsRow_nil _ _ _ _, (h.below hb).mono (Nat.le_succ _), hs, Kept.of_below hb, Nat.le_succ _⟩
end
end Go.Proofs.YtpoigngpdcmipaaGreat
namespace Go.Proofs.YtpoigngpdcmipaaGreat
open Go.RowKit
def ownQ : List UInt8 := [32, 2, 0, 0, 0, 0, 0, 0, 0, 0, 0, 0, 0, 0, 0, 0]
def aftQ : List UInt8 := [32, 1, 0, 0, 0, 0, 0, 0, 0, 0, 0, 0, 0, 0, 0, 0]
def stl (m : Int) : List Value := row ownQ ++ (row aftQ ++ [.int .i64 m, .int .i64 64, .int .i64 4, .int .i64 10000, .int .i64 60])
def stV (m : Int) : Value := .agg (stl m).toArray
theorem stl_len (m : Int) : (stl m).length = 37 := rfl
theorem own_len : ownQ.length = 16 := rfl
theorem aft_len : aftQ.length = 16 := rfl
theorem six_neqF {a b : List UInt8} (ha : a.length = 16) (hb : b.length = 16) (h : a ≠ b) (w : World) : (Op.equalIn 10000 25 (.agg (cel a)) (.agg (cel b))).run Tryz.prog w = .ok false w := by
  rw [six_eq a b ha hb w, decide_eq_false h]
theorem six_eqT {a b : List UInt8} (ha : a.length = 16) (hb : b.length = 16) (h : a = b) (w : World) : (Op.equalIn 10000 25 (.agg (cel a)) (.agg (cel b))).run Tryz.prog w = .ok true w := by
  rw [six_eq a b ha hb w, decide_eq_true h]
theorem run_load_st {o : Oper} {a : Act} {w : World} {x : Operand} {g : Nat} {cs : List Value} (ho : o.op = .load 27 x) (hx : a.eval x = .pointer (some ⟨g, 0, none⟩)) (hr : w.rangeAt g 0 cs) (hl : cs.length = 37) :
    (execOp a.eval o).run Tryz.prog w = .ok (.value (.agg cs.toArray)) w := by
  have h := run_loadVar_mid (P := Tryz.prog) w g 0 27 cs _ hr Tryz.underlying27 rfl (by rw [hl]; kernel_rfl)
  unfold execOp
  simp only [ho, hx, Instr.loadAt, Instr.sureAddr, Sem.run_bind, Sem.run_pure, Result.andThen_ok, h]
theorem range_own (g i : Nat) (W : World) (xs ys zs : List Value) (h : W.rangeAt g 0 (xs ++ (ys ++ zs))) (hi : i = xs.length) : W.rangeAt g i ys := fun j v hj => by
  have hlt := (List.getElem?_eq_some_iff.1 hj).1
  have := h (i + j) v (by rw [hi, List.getElem?_append_right (by omega), Nat.add_sub_cancel_left, List.getElem?_append_left hlt]; exact hj)
  rwa [Nat.zero_add] at this
section
variable {W : World} {g : Nat} {m : Int} {zs : List Value}
theorem st_own (h : W.rangeAt g 0 (stl m ++ zs)) : W.rangeAt g 0 (row ownQ) := by
  rw [stl, List.append_assoc] at h
  exact range_own g 0 W [] _ _ h rfl
theorem st_aft (h : W.rangeAt g 0 (stl m ++ zs)) : W.rangeAt g 16 (row aftQ) := by
  rw [stl, List.append_assoc, List.append_assoc] at h
  exact range_own g 16 W _ _ _ h rfl
theorem st_cell (h : W.rangeAt g 0 (stl m ++ zs)) (i : Nat) (v : Value) (hv : (stl m)[i]? = some v) : W.cell? ⟨g, i, none⟩ = some v := by
  have := h i v (by rw [List.getElem?_append_left (List.getElem?_eq_some_iff.1 hv).1]; exact hv)
  rwa [Nat.zero_add] at this
end
set_option maxRecDepth 100000 in
set_option maxHeartbeats 2000000 in
theorem bisHost {s : List UInt8} (hs : s.length = 16) (h0 : s ≠ nul) (h1 : ∀ v, (row s)[0]? = some v → v = .int .u8 32) (w : World) : Calls Tryz.prog 44 #[.agg (cel s)] w fun e w' => e = .returned (.bool true) ∧ Below w.heap.size w w' := by
  have hb := (Below.refl _ w).alloc (Nat.le_refl _) (.cells (cel s) 25)
  have k0 := World.alloc_heap_new w (.cells (cel s) 25)
  have kr : (w.alloc (.cells (cel s) 25)).rangeAt w.heap.size 0 (row s) := range_hpR k0
  have hc : (w.alloc (.cells (cel s) 25)).cell? ⟨w.heap.size, 0, none⟩ = some (.int .u8 32) := by
    obtain ⟨v, hv⟩ : ∃ v, (row s)[0]? = some v := ⟨_, List.getElem?_eq_getElem (by rw [row_length, hs]; decide)⟩
    have := kr 0 v hv
    rw [h1 v hv] at this
    exact this
  have eN : ∀ w, (Op.equalIn 10000 25 (.agg (cel s)) (.agg #[.int .u8 0, .int .u8 0, .int .u8 0, .int .u8 0, .int .u8 0, .int .u8 0, .int .u8 0, .int .u8 0, .int .u8 0, .int .u8 0, .int .u8 0, .int .u8 0, .int .u8 0, .int .u8 0, .int .u8 0, .int .u8 0])).run Tryz.prog w = .ok false w := six_neqF (b := nul) hs rfl h0
  have hz : ∀ w, (Instr.build 25 #[]).run Tryz.prog w = .ok (.agg (cel nul)) w := fun w => by kernel_rfl
  clear h0 h1
  go_enter Tryz.func44, Tryz.ntmps44
  go_upto_region 1 with fail
  generalize w.alloc (.cells (cel s) 25) = W at *
  go_wp2_with ((with_reducible show wpList _ _ _ (Oper.mk _ (Op.load 25 _) _ _ _ _ :: _) _ _); refine wpList_val rfl (run_load_six rfl rfl kr hs) ?_)
  go_ret
  exact ⟨rfl, hb⟩
theorem bisIn (n lo hi : Int) (h : lo ≤ n ∧ n ≤ hi) (w : World) : Calls Tryz.prog 45 #[.int .i64 n, .int .i64 lo, .int .i64 hi] w fun e w' => e = .returned (.bool true) ∧ w = w' := by
  have d1 := decide_eq_true h.1
  have d2 := decide_eq_true h.2
  clear h
  go_enter Tryz.func45, Tryz.ntmps45
  go_wp2
  go_ret
  exact ⟨rfl, rfl⟩
set_option maxRecDepth 100000 in
set_option maxHeartbeats 2000000 in
theorem bmayBe (m : Int) (hm : 1280 ≤ m ∧ m ≤ 65535) (w : World) : Calls Tryz.prog 22 #[stV m] w fun e w' => e = .returned (.bool true) ∧ Below w.heap.size w w' := by
  have hb := (Below.refl _ w).alloc (Nat.le_refl _) (.cells (stl m).toArray 27)
  have k0 := World.alloc_heap_new w (.cells (stl m).toArray 27)
  have kr : (w.alloc (.cells (stl m).toArray 27)).rangeAt w.heap.size 0 (stl m ++ []) := by rw [List.append_nil]; exact range_hpR k0
  have zg := heap_lt k0
  have HM := Lib.hid hm
  clear hm k0
  unfold stV
  go_enter Tryz.func22, Tryz.ntmps22
  go_upto_region 1 with fail
  generalize w.alloc (.cells (stl m).toArray 27) = W at *
  have eN : ∀ w, (Op.equalIn 10000 25 (.agg (cel ownQ)) (.agg (cel aftQ))).run Tryz.prog w = .ok false w := six_neqF rfl rfl (by decide)
  have HO1 : Hid (∀ w, Calls Tryz.prog 44 #[.agg (cel ownQ)] w fun e w' => e = .returned (.bool true) ∧ Below w.heap.size w w') := Lib.hid (bisHost (s := ownQ) rfl (by decide) (fun v hv => (Option.some.inj hv).symm))
  have HA1 : Hid (∀ w, Calls Tryz.prog 44 #[.agg (cel aftQ)] w fun e w' => e = .returned (.bool true) ∧ Below w.heap.size w w') := Lib.hid (bisHost (s := aftQ) rfl (by decide) (fun v hv => (Option.some.inj hv).symm))
  have KO : Hid (∀ V, Below W.heap.size W V → V.rangeAt w.heap.size 0 (row ownQ)) := Lib.hid (fun V hV => range_below (st_own kr) zg hV)
  have KA : Hid (∀ V, Below W.heap.size W V → V.rangeAt w.heap.size 16 (row aftQ)) := Lib.hid (fun V hV => range_below (st_aft kr) zg hV)
  have KC : Hid (∀ V, Below W.heap.size W V → ∀ (i : Nat) (v : Value), (stl m)[i]? = some v → V.cell? ⟨w.heap.size, i, none⟩ = some v) := Lib.hid (fun V hV i v hv => st_cell (range_below kr zg hV) i v hv)
  go_wp2_with (first
    | (go_at_call 44; (with_reducible refine (HO1.out W).mono ?_); rintro e v1 ⟨rfl, x1⟩)
    | (go_at_call 44; (with_reducible refine (HA1.out v1).mono ?_); rintro e v2 ⟨rfl, x2⟩; have y2 := x1.trans (x2.mono x1.size); have c32 := KC.out _ y2 32 _ rfl; have c33 := KC.out _ y2 33 _ rfl; have c34 := KC.out _ y2 34 _ rfl; have c35 := KC.out _ y2 35 _ rfl; have c36 := KC.out _ y2 36 _ rfl)
    | ((with_reducible show wpList _ _ _ (Oper.mk (some 4) (Op.load 25 _) _ _ _ _ :: _) _ _); refine wpList_val rfl (run_load_six rfl rfl (KO.out _ (Below.refl _ _)) rfl) ?_)
    | ((with_reducible show wpList _ _ _ (Oper.mk (some 8) (Op.load 25 _) _ _ _ _ :: _) _ _); refine wpList_valg (by rfl) (run_load_six rfl rfl (KA.out _ x1) rfl) ?_)
    | ((with_reducible show wpList _ _ _ (Oper.mk (some 13) (Op.load 25 _) _ _ _ _ :: _) _ _); refine wpList_valg (by rfl) (run_load_six rfl rfl (KO.out _ y2) rfl) ?_)
    | ((with_reducible show wpList _ _ _ (Oper.mk (some 15) (Op.load 25 _) _ _ _ _ :: _) _ _); refine wpList_valg (by rfl) (run_load_six rfl rfl (KA.out _ y2) rfl) ?_)
    | (go_at_call 45; first | (with_reducible refine (bisIn m 1280 65535 HM.out _).mono ?_) | (with_reducible refine (bisIn 64 1 255 (by decide) _).mono ?_) | (with_reducible refine (bisIn 4 0 4096 (by decide) _).mono ?_) | (with_reducible refine (bisIn 10000 0 67108864 (by decide) _).mono ?_) | (with_reducible refine (bisIn 60 1 1048576 (by decide) _).mono ?_)
       rintro e v3 ⟨rfl, rfl⟩))
  go_ret
  exact ⟨rfl, hb.trans (y2.mono hb.size)⟩
def bfl (m : Int) (t k : Nat) (now id : Int) : List Value := stl m ++ [.pointer (some ⟨t, 0, none⟩), .pointer (some ⟨k, 0, none⟩), .int .i64 now, .int .i64 id]
structure Bf4 (B0 : Nat) (w : World) (x t bm k : Nat) (m now id : Int) (N : Nat) (S : List Bu) (T : List Bf) (L : List Int) : Prop where
  obj : w.heap[x]? = some (.cells (bfl m t k now id).toArray 60 (0, 0))
  jv : Jv w B0 t bm 4 10000 60 N S
  sm : SameT S T
  cn : Cn w k L
  bd : bdC L N
  bx : B0 ≤ x
  bk : B0 ≤ k
  be : B0 ≤ w.heap.size
section
variable {B0 : Nat} {w w' : World} {x t bm k N : Nat} {m now id : Int} {S : List Bu} {T : List Bf} {L : List Int}
theorem Bf4.below (h : Bf4 B0 w x t bm k m now id N S T L) (hb : Below w.heap.size w w') : Bf4 B0 w' x t bm k m now id N S T L :=
  ⟨(hb.block x (heap_lt h.obj)).trans h.obj, h.jv.below hb, h.sm, h.cn.below hb, h.bd, h.bx, h.bk, Nat.le_trans h.be hb.size⟩
theorem Bf4.rng (h : Bf4 B0 w x t bm k m now id N S T L) : w.rangeAt x 0 (stl m ++ [.pointer (some ⟨t, 0, none⟩), .pointer (some ⟨k, 0, none⟩), .int .i64 now, .int .i64 id]) := range_hpR h.obj
theorem Bf4.cell (h : Bf4 B0 w x t bm k m now id N S T L) (i : Nat) (v : Value) (hv : (bfl m t k now id)[i]? = some v) : w.cell? ⟨x, i, none⟩ = some v := by
  have := h.rng i v hv
  rwa [Nat.zero_add] at this
theorem Bf4.fr (h : Bf4 B0 w x t bm k m now id N S T L) (i : Nat) : w.frozen? ⟨x, i, none⟩ = false := heap_frozen h.obj i
theorem Bf4.ne (h : Bf4 B0 w x t bm k m now id N S T L) : x ≠ k := fun e => by
  have h1 := h.obj
  rw [e, h.cn.obj] at h1
  injection h1 with h1
  injection h1 with _ e2 _
  exact absurd e2 (by decide)
end
theorem run_build_bf {o : Oper} {a : Act} {w : World} {x y z : Operand} {m : Int} {t k : Nat} (ho : o.op = .build 60 #[(0, x), (1, y), (2, z), (4, .const (.int .i64 1))]) (hx : a.eval x = stV m) (hy : a.eval y = .pointer (some ⟨t, 0, none⟩)) (hz : a.eval z = .pointer (some ⟨k, 0, none⟩)) :
    (execOp a.eval o).run Tryz.prog w = .ok (.value (.agg (bfl m t k 0 1).toArray)) w := by
  have e : (Array.map (fun y : Nat × Operand => (y.1, a.eval y.2)) #[(0, x), (1, y), (2, z), (4, .const (.int .i64 1))]) = #[(0, stV m), (1, .pointer (some ⟨t, 0, none⟩)), (2, .pointer (some ⟨k, 0, none⟩)), (4, .int .i64 1)] := by simp [hx, hy, hz]; rfl
  have hb : (Instr.build 60 #[(0, stV m), (1, .pointer (some ⟨t, 0, none⟩)), (2, .pointer (some ⟨k, 0, none⟩)), (4, .int .i64 1)]).run Tryz.prog w = .ok (.agg (bfl m t k 0 1).toArray) w := by kernel_rfl
  unfold execOp
  simp only [ho, e, Sem.run_bind, hb]
  rfl
set_option maxRecDepth 100000 in
set_option maxHeartbeats 2000000 in
theorem bfnew (m : Int) (hm : 1280 ≤ m ∧ m ≤ 65535) (w : World) : Calls Tryz.prog 8 #[stV m] w fun e w' => ∃ x t k, e = .returned (.tuple #[.pointer (some ⟨x, 0, none⟩), .int .i64 0]) ∧ Bf4 w.heap.size w' x t (t - 1) k m 0 1 0 [] [] zeroC ∧ Below w.heap.size w w' := by
  have hb := (Below.refl _ w).alloc (Nat.le_refl _) (.cells (stl m).toArray 27)
  have k0 := World.alloc_heap_new w (.cells (stl m).toArray 27)
  have kr : (w.alloc (.cells (stl m).toArray 27)).rangeAt w.heap.size 0 (stl m ++ []) := by rw [List.append_nil]; exact range_hpR k0
  have zg := heap_lt k0
  have hs : (w.alloc (.cells (stl m).toArray 27)).heap.size = w.heap.size + 1 := by simp
  have HM := Lib.hid hm
  clear hm k0
  unfold stV
  go_enter Tryz.func8, Tryz.ntmps8
  go_upto_region 1 with fail
  generalize w.alloc (.cells (stl m).toArray 27) = W at *
  have kl : W.rangeAt w.heap.size 0 (stl m) := by rw [List.append_nil] at kr; exact kr
  have KC : Hid (∀ V, Below W.heap.size W V → ∀ (i : Nat) (v : Value), (stl m)[i]? = some v → V.cell? ⟨w.heap.size, i, none⟩ = some v) := Lib.hid (fun V hV i v hv => st_cell (range_below kr zg hV) i v hv)
  go_upto_region 6 with (first
    | ((with_reducible show wpList _ _ _ (Oper.mk _ (Op.load 27 _) _ _ _ _ :: _) _ _); refine wpList_val rfl (run_load_st rfl rfl kl (stl_len m)) ?_)
    | (go_at_call 22; refine (bmayBe m HM.out W).mono ?_; rintro e w3 ⟨rfl, x3⟩; have c34 := KC.out _ x3 34 _ rfl; have c35 := KC.out _ x3 35 _ rfl; have c36 := KC.out _ x3 36 _ rfl)
    | (go_at_call 23; refine (jnew_ok 4 10000 60 w3 (by decide)).mono ?_; rintro e W4 ⟨rfl, t4, x4⟩))
  have y4 := x3.trans (x4.mono x3.size)
  have hW4 := hb.trans (y4.mono hb.size)
  have KS : Hid (∀ V, Below W4.heap.size W4 V → V.rangeAt w.heap.size 0 (stl m)) := Lib.hid (fun V hV => range_below kl zg (y4.trans (hV.mono y4.size)))
  have HJ : Hid (Jv W4 w.heap.size (w3.heap.size + 1) w3.heap.size 4 10000 60 0 []) := Lib.hid ⟨t4, ⟨by have := x3.size; omega, by have := x3.size; omega, fun s h => by cases h⟩, by decide, by decide, fun s h => by cases h⟩
  clear kl kr KC c34 c35 c36 t4
  refine wp_region_held_drew (S := fun V => Below W4.heap.size W4 V) (by kernel_rfl) (Below.refl _ W4).drew (fun hS => ?_)
  refine held_pure (i := 0) (oi := ⟨some 22, _, _, _, _, _⟩) rfl (by kernel_rfl) (by kernel_rfl) (by kernel_rfl) (fun _ _ _ h => h) (by rfl) (fun w hSw => run_load_st rfl rfl (KS.out w hSw) (stl_len m)) hS (fun hS => ?_)
  try go_frame
  refine held_pure (i := 1) (oi := ⟨some 23, _, _, _, _, _⟩) rfl (by kernel_rfl) (by kernel_rfl) (by kernel_rfl) (fun _ _ _ h => h) (by rfl) (v := ?_) (fun w hSw => ?_) hS (fun hS => ?_)
  rotate_left
  · go_simp; try with_reducible rfl
  try go_frame
  refine wpAnyH_ready (rs := [2]) (by kernel_rfl) (by simp) (AllReadyH.cons (o := ⟨some 24, _, _, _, _, _⟩) rfl (fun K hK => ?_) AllReadyH.nil)
  rw [if_pos (by rfl)]
  go_simp
  refine (cnnew W4.drew).mono ?_
  rintro e w5 ⟨rfl, c5, x5⟩
  have y5 : Below W4.heap.size W4 w5 := ((Below.refl _ W4).drew).trans x5
  have c5 : Cn w5 W4.heap.size zeroC := c5
  show K _ _
  refine hK.out _ _ y5 (fun hS => ?_)
  clear hK K
  try go_frame
  refine held_pure (i := 3) (oi := ⟨some 25, _, _, _, _, _⟩) rfl (by kernel_rfl) (by kernel_rfl) (by kernel_rfl) (fun _ _ _ h => h) (by rfl) (v := .agg (bfl m (w3.heap.size + 1) W4.heap.size 0 1).toArray) (fun w hSw => by exact run_build_bf rfl rfl rfl rfl) hS (fun hS => ?_)
  try go_frame
  refine wpAnyH_ready (rs := [4]) (by kernel_rfl) (by simp) (AllReadyH.cons (o := ⟨some 26, _, _, _, _, _⟩) rfl (fun K hK => ?_) AllReadyH.nil)
  rw [if_pos (by rfl)]
  go_simp
  change K _ (w5.alloc (.cells (bfl m (w3.heap.size + 1) W4.heap.size 0 1).toArray 60))
  have kz := World.alloc_heap_new w5 (.cells (bfl m (w3.heap.size + 1) W4.heap.size 0 1).toArray 60)
  have y6 := y5.alloc y5.size (.cells (bfl m (w3.heap.size + 1) W4.heap.size 0 1).toArray 60)
  have a5 := (Below.refl _ w5).alloc (Nat.le_refl _) (.cells (bfl m (w3.heap.size + 1) W4.heap.size 0 1).toArray 60)
  refine hK.out _ _ y6 (fun hS => ?_)
  clear hK K
  try go_frame
  refine held_pure (i := 5) (oi := ⟨some 2, _, _, _, _, _⟩) rfl (by kernel_rfl) (by kernel_rfl) (by kernel_rfl) (fun _ _ _ h => h) (by rfl) (v := ?_) (fun w hSw => ?_) hS (fun hS => ?_)
  rotate_left
  · go_simp; try with_reducible rfl
  try go_frame
  refine held_pure (i := 6) (oi := ⟨some 3, _, _, _, _, _⟩) rfl (by kernel_rfl) (by kernel_rfl) (by kernel_rfl) (fun _ _ _ h => h) (by rfl) (v := ?_) (fun w hSw => ?_) hS (fun hS => ?_)
  rotate_left
  · go_simp; try with_reducible rfl
  try go_frame
  refine wpAnyH_done (by kernel_rfl) ?_ _
  go_wp2_with fail
  refine bodyPost_ret (results_tmp2 rfl _ _ _) rfl ?_
  refine ⟨_, _, _, rfl, ⟨kz, ?_, SameT.nil, c5.below a5, bdC_zero, ?_, ?_, ?_⟩, hW4.trans (y6.mono hW4.size)⟩
  · exact ((HJ.out).below y5).below a5
  · exact Nat.le_trans hW4.size y5.size
  · exact hW4.size
  · exact Nat.le_trans hW4.size y6.size
end Go.Proofs.YtpoigngpdcmipaaGreat
