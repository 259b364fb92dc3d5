/-
  Contracts and lemmas on which the proofs of this seat stand (several texts in one). Conditions are each theorem's own.
-/
import Derived.Test.YtcebobcakiljhaaNa3
import Derived.Deep.Cut
import Derived.Deep.CutRange
import Derived.Test.YtcebobcakiljhaaNa7
import Derived.Test.YtcebobcakiljhaaNa5
import Derived.Test.YtcebobcakiljhaaNa6
import Derived.Sort.CutIn
import Derived.Test.YtcebobcakiljhaaNa8

/-
  Packets of IPv6 in fragments, in plain lists: the fragments, what a packet has of one. No program. Conditions are each theorem's own.
-/
namespace Go.Proofs.Ytcebobcakiljhaa
open Go.RowKit

def st6 (mtu : Int) : Int := (mtu - 48) - (mtu - 48) % 8
def fh6 (q : P6) (id : Int) (off : Nat) (more : Bool) : F6 := ⟨q.next, (off : Int), id, more⟩
def one6 (q : P6) (id : Int) (off n : Nat) (more : Bool) : P6 := { q with next := 44, dat := bldF (fh6 q id off more) ++ (q.dat.drop off).take n }
def fg6 (q : P6) (id mtu : Int) : Nat → Nat → List P6
  | 0, _ => []
  | f + 1, off => if (q.dat.length : Int) - (off : Int) > mtu - 48 then one6 q id off (st6 mtu).toNat true :: fg6 q id mtu f (off + (st6 mtu).toNat) else [one6 q id off (q.dat.length - off) false]
theorem st6_bd {mtu : Int} (h : 1280 ≤ mtu) : 8 ≤ st6 mtu ∧ st6 mtu ≤ mtu - 48 ∧ st6 mtu % 8 = 0 := by unfold st6; omega
theorem fg6_fuel (q : P6) (id mtu : Int) (h : 1280 ≤ mtu) : ∀ (f g off : Nat), q.dat.length < f + off → q.dat.length < g + off → off ≤ q.dat.length → fg6 q id mtu f off = fg6 q id mtu g off
  | 0, _, off, h1, _, h3 => by omega
  | _ + 1, 0, off, _, h2, h3 => by omega
  | f + 1, g + 1, off, h1, h2, h3 => by
    have hs := st6_bd h
    rw [fg6, fg6]
    by_cases hc : (q.dat.length : Int) - (off : Int) > mtu - 48
    · rw [if_pos hc, if_pos hc, fg6_fuel q id mtu h f g (off + (st6 mtu).toNat) (by omega) (by omega) (by omega)]
    · rw [if_neg hc, if_neg hc]
/-- From a place on. -/
def rst6 (q : P6) (id mtu : Int) (off : Nat) : List P6 := fg6 q id mtu (q.dat.length + 1) off
theorem rst6_more {q : P6} {id mtu : Int} {off : Nat} (h : 1280 ≤ mtu) (hc : (q.dat.length : Int) - (off : Int) > mtu - 48) : rst6 q id mtu off = one6 q id off (st6 mtu).toNat true :: rst6 q id mtu (off + (st6 mtu).toNat) := by
  have hs := st6_bd h
  rw [rst6, fg6, if_pos hc, rst6]
  congr 1
  exact fg6_fuel q id mtu h _ _ _ (by omega) (by omega) (by omega)
theorem rst6_last {q : P6} {id mtu : Int} {off : Nat} (hc : ¬ (q.dat.length : Int) - (off : Int) > mtu - 48) : rst6 q id mtu off = [one6 q id off (q.dat.length - off) false] := by rw [rst6, fg6, if_neg hc]
def cutE6 (q : P6) (id mtu : Int) : Int := if mtu < 1280 ∨ mtu > 65535 ∨ id < 0 ∨ id > 4294967295 then 1 else chk6 q
def cutL6 (q : P6) (id mtu : Int) : List P6 := if cutE6 q id mtu = 0 then (if size6 q ≤ mtu then [q] else rst6 q id mtu 0) else []
/-- What a packet has of a fragment. -/
def prtF (q : P6) : F6 := if q.next = 44 then prsF q.dat else frz
def prtB (q : P6) : List UInt8 := if q.next = 44 then rstF q.dat else []
def prtO (q : P6) : Bool := decide (q.next = 44) && decide (8 ≤ q.dat.length)
/-- What is asked of a packet, and of whom and how it is cut. -/
structure Cut6 (q : P6) (id mtu : Int) : Prop where
  lo : 1280 ≤ mtu
  hi : mtu ≤ 65535
  id0 : 0 ≤ id
  id1 : id ≤ 4294967295
  next0 : 0 ≤ q.next
  next1 : q.next ≤ 255
  len : q.dat.length ≤ 65535
theorem cutE6_ok {q : P6} {id mtu : Int} (h : cutE6 q id mtu = 0) : Cut6 q id mtu ∧ chk6 q = 0 := by
  unfold cutE6 at h
  split at h
  · cases h
  · rename_i hc
    have hk := h
    unfold chk6 at h
    split at h
    · rename_i ha
      split at h
      · cases h
      · obtain ⟨_, _, h1, h2, _⟩ := ha
        exact ⟨⟨by omega, by omega, by omega, by omega, h1, h2, by omega⟩, hk⟩
    · cases h
theorem okF_at {q : P6} {id mtu : Int} (h : Cut6 q id mtu) {off : Nat} (more : Bool) (h1 : off ≤ q.dat.length) (h2 : off % 8 = 0) : okF (fh6 q id off more) := by
  have := h.len
  exact ⟨h.next0, h.next1, by show (0 : Int) ≤ (off : Int); omega, by show (off : Int) ≤ 65528; omega, by show (off : Int) % 8 = 0; omega, h.id0, by have := h.id1; show id < _; omega⟩
theorem bldF_eight {f : F6} (h : okF f) : (bldF f).length = 8 := by rw [bldF, if_pos h]; simp [bytF, be2, be4]
theorem prt_one {q : P6} {id mtu : Int} (h : Cut6 q id mtu) {off n : Nat} (more : Bool) (h1 : off ≤ q.dat.length) (h2 : off % 8 = 0) :
    prtF (one6 q id off n more) = fh6 q id off more ∧ prtB (one6 q id off n more) = (q.dat.drop off).take n ∧ prtO (one6 q id off n more) = true ∧ size6 (one6 q id off n more) = 48 + (((q.dat.drop off).take n).length : Int) := by
  have hk := okF_at h more h1 h2
  obtain ⟨b1, b2, _⟩ := backF (fh6 q id off more) ((q.dat.drop off).take n) hk
  have hl : (one6 q id off n more).dat.length = 8 + ((q.dat.drop off).take n).length := by show (bldF _ ++ _).length = _; rw [List.length_append, bldF_eight hk]
  refine ⟨?_, ?_, ?_, ?_⟩
  · rw [prtF, if_pos (show (one6 q id off n more).next = 44 from rfl)]; exact b1
  · rw [prtB, if_pos (show (one6 q id off n more).next = 44 from rfl)]; exact b2
  · rw [prtO, hl]; simp [one6]
  · unfold size6; rw [hl]; omega
def behs (l : List P6) : List UInt8 := l.flatMap prtB
theorem behs_take (l : List P6) {k : Nat} (h : k < l.length) : behs (l.take (k + 1)) = behs (l.take k) ++ prtB l[k] := by
  have e : l.take (k + 1) = l.take k ++ [l[k]] := by rw [List.take_add_one, List.getElem?_eq_getElem h]; rfl
  rw [behs, e, List.flatMap_append, List.flatMap_cons, List.flatMap_nil, List.append_nil]; rfl
theorem behs_take_le (l : List P6) (k : Nat) : (behs (l.take k)).length ≤ (behs l).length := by
  conv => rhs; rw [← List.take_append_drop k l]
  simp only [behs, List.flatMap_append, List.length_append]; omega
/-- What each fragment is, of those from a place on. -/
structure Frag6 (q : P6) (id mtu : Int) (off : Nat) (l : List P6) : Prop where
  ne : 0 < l.length
  at_ : ∀ i (h : i < l.length), prtO l[i] = true ∧ size6 l[i] ≤ mtu ∧ (prtF l[i]).off = ((off + (behs (l.take i)).length : Nat) : Int) ∧ (prtF l[i]).id = id ∧ (prtF l[i]).next = q.next ∧ (prtF l[i]).more = decide (i + 1 < l.length) ∧
    l[i].src = q.src ∧ l[i].dst = q.dst ∧ l[i].hop = q.hop
  all : behs l = q.dat.drop off
theorem frags6 {q : P6} {id mtu : Int} (h : Cut6 q id mtu) : ∀ (f off : Nat), q.dat.length < f + off → off ≤ q.dat.length → off % 8 = 0 → Frag6 q id mtu off (rst6 q id mtu off)
  | 0, off, h1, h2, _ => by omega
  | f + 1, off, h1, h2, h3 => by
    have hs := st6_bd h.lo
    by_cases hc : (q.dat.length : Int) - (off : Int) > mtu - 48
    · have ih := frags6 h f (off + (st6 mtu).toNat) (by omega) (by omega) (by omega)
      obtain ⟨p1, p2, p3, p4⟩ := prt_one h (n := (st6 mtu).toNat) true h2 h3
      have hl : ((q.dat.drop off).take (st6 mtu).toNat).length = (st6 mtu).toNat := by simp; omega
      rw [rst6_more h.lo hc]
      refine ⟨by simp, fun i hi => ?_, ?_⟩
      · cases i with
        | zero =>
          have hn := ih.ne
          refine ⟨p3, by show size6 (one6 q id off (st6 mtu).toNat true) ≤ mtu; rw [p4, hl]; omega, ?_, by show (prtF (one6 q id off (st6 mtu).toNat true)).id = _; rw [p1]; rfl, by show (prtF (one6 q id off (st6 mtu).toNat true)).next = _; rw [p1]; rfl, ?_, rfl, rfl, rfl⟩
          · show (prtF (one6 q id off (st6 mtu).toNat true)).off = _; rw [p1]; simp [behs, fh6]
          · show (prtF (one6 q id off (st6 mtu).toNat true)).more = _; rw [p1]; simp [fh6]; omega
        | succ i =>
          have hi' : i < (rst6 q id mtu (off + (st6 mtu).toNat)).length := by simpa using hi
          obtain ⟨g1, g2, g3, g4, g5, g6, g7⟩ := ih.at_ i hi'
          refine ⟨g1, g2, ?_, g4, g5, ?_, g7⟩
          · refine g3.trans ?_
            simp only [List.take_succ_cons, behs, List.flatMap_cons, List.length_append, p2, hl]; omega
          · refine g6.trans ?_
            simp
      · show prtB _ ++ behs _ = _
        rw [p2, ih.all, ← List.drop_drop, List.take_append_drop]
    · obtain ⟨p1, p2, p3, p4⟩ := prt_one h (n := q.dat.length - off) false h2 h3
      have hl : (q.dat.drop off).take (q.dat.length - off) = q.dat.drop off := List.take_of_length_le (by simp)
      have hl2 : (q.dat.drop off).length = q.dat.length - off := by simp
      rw [rst6_last hc]
      refine ⟨by simp, fun i hi => ?_, ?_⟩
      · have hi0 : i = 0 := by simpa using hi
        subst hi0
        refine ⟨p3, by show size6 (one6 q id off (q.dat.length - off) false) ≤ mtu; rw [p4, hl, hl2]; omega, ?_, by show (prtF (one6 q id off (q.dat.length - off) false)).id = _; rw [p1]; rfl, by show (prtF (one6 q id off (q.dat.length - off) false)).next = _; rw [p1]; rfl, ?_, rfl, rfl, rfl⟩
        · show (prtF (one6 q id off (q.dat.length - off) false)).off = _; rw [p1]; simp [behs, fh6]
        · show (prtF (one6 q id off (q.dat.length - off) false)).more = _; rw [p1]; simp [fh6]
      · show prtB _ ++ [] = _
        rw [p2, hl, List.append_nil]
theorem cut6_one {q : P6} {id mtu : Int} (h : cutE6 q id mtu = 0) (hl : (cutL6 q id mtu).length = 1) : cutL6 q id mtu = [q] ∧ size6 q ≤ mtu := by
  obtain ⟨hc, _⟩ := cutE6_ok h
  unfold cutL6 at hl ⊢
  rw [if_pos h] at hl ⊢
  by_cases hs : size6 q ≤ mtu
  · rw [if_pos hs]; exact ⟨rfl, hs⟩
  · rw [if_neg hs] at hl
    have hsz : size6 q = 40 + (q.dat.length : Int) := rfl
    have hst := st6_bd hc.lo
    rw [rst6_more hc.lo (by omega)] at hl
    have := (frags6 hc (q.dat.length + 1) (0 + (st6 mtu).toNat) (by omega) (by omega) (by omega)).ne
    simp only [List.length_cons] at hl; omega
theorem cut6_many {q : P6} {id mtu : Int} (h : cutE6 q id mtu = 0) (hl : (cutL6 q id mtu).length ≠ 1) : Frag6 q id mtu 0 (cutL6 q id mtu) := by
  obtain ⟨hc, _⟩ := cutE6_ok h
  unfold cutL6 at hl ⊢
  rw [if_pos h] at hl ⊢
  by_cases hs : size6 q ≤ mtu
  · rw [if_pos hs] at hl; exact absurd rfl hl
  · rw [if_neg hs]; exact frags6 hc (q.dat.length + 1) 0 (by omega) (by omega) rfl
end Go.Proofs.Ytcebobcakiljhaa

/-
  Contracts of BuildFrag, the program's and the document's. Conditions are each theorem's own.
-/
namespace Go.Proofs.Ytcebobcakiljhaa
open Go.RowKit

section
variable (f : F6) (w : World)
set_option maxRecDepth 100000 in
set_option maxHeartbeats 400000 in
theorem c6bfrag : Calls Try.prog 71 #[frv f] w fun e w' => ∃ v, e = .returned (.tuple #[v, .int .i64 (errF f)]) ∧ Made w w' v (bldF f) := by
  have hB : Below w.heap.size w (w.alloc (.cells (fra f) 51)) := (Below.refl w.heap.size w).alloc (Nat.le_refl _) _
  have hAt := AtF.new (f := f) w
  have hz : w.heap.size < (w.alloc (.cells (fra f) 51)).heap.size := by simp
  unfold frv
  rw [show #[Value.int .i64 f.next, .int .i64 f.off, .int .i64 f.id, .bool f.more] = fra f from rfl]
  have HO := Lib.hid (okF_iff f)
  go_enter Try.func71, Try.ntmps71
  go_wp2_with fail
  generalize w.alloc (.cells (fra f) 51) = W at *
  by_cases p0 : 0 ≤ f.off
  · have ptm : Int.tmod f.off 8 = f.off % 8 := Int.tmod_eq_emod_of_nonneg p0
    obtain ⟨P, hP⟩ : ∃ P, decide (f.off ≤ 65528) = P := ⟨_, rfl⟩
    obtain ⟨M, hM⟩ : ∃ M, (f.off % 8 == 0) = M := ⟨_, rfl⟩
    have HA : Hid (allB [fitsB f.next 1, P, M, fitsB f.id 4] = decide (okF f)) := Lib.hid (by
      rw [Bool.eq_iff_iff, decide_eq_true_iff, HO.out, ← hP, ← hM]; simp [allB, offB, mulB, p0])
    refine wp_region_held_drew (S := fun w' => Below W.heap.size W w') (by kernel_rfl) (Below.refl _ W).drew (fun hS => ?_)
    refine held_pure (i := 0) (oi := ⟨some 5, _, _, _, _, _⟩) rfl (by kernel_rfl) (by kernel_rfl) (by kernel_rfl) (fun _ _ _ h => h) (by rfl) (v := ?_) (fun w hSw => ?_) hS (fun hS => ?_)
    rotate_left
    · go_simp; try with_reducible rfl
    try go_frame
    refine held_pure (i := 1) (oi := ⟨some 6, _, _, _, _, _⟩) rfl (by kernel_rfl) (by kernel_rfl) (by kernel_rfl) (fun _ _ _ h => h) (by rfl) (fun w hSw => run_load_int rfl rfl (hAt.below hSw (by omega)).next) hS (fun hS => ?_)
    try go_frame
    refine held_pure (i := 3) (oi := ⟨some 8, _, _, _, _, _⟩) rfl (by kernel_rfl) (by kernel_rfl) (by kernel_rfl) (fun _ _ _ h => h) (by rfl) (v := ?_) (fun w hSw => ?_) hS (fun hS => ?_)
    rotate_left
    · go_simp; try with_reducible rfl
    try go_frame
    refine held_pure (i := 4) (oi := ⟨some 9, _, _, _, _, _⟩) rfl (by kernel_rfl) (by kernel_rfl) (by kernel_rfl) (fun _ _ _ h => h) (by rfl) (fun w hSw => run_load_int rfl rfl (hAt.below hSw (by omega)).off) hS (fun hS => ?_)
    try go_frame
    refine held_pure (i := 5) (oi := ⟨some 10, _, _, _, _, _⟩) rfl (by kernel_rfl) (by kernel_rfl) (by kernel_rfl) (fun _ _ _ h => h) (by rfl) (v := ?_) (fun w hSw => ?_) hS (fun hS => ?_)
    rotate_left
    · go_simp; try with_reducible rfl
    try go_frame
    refine held_pure (i := 11) (oi := ⟨some 16, _, _, _, _, _⟩) rfl (by kernel_rfl) (by kernel_rfl) (by kernel_rfl) (fun _ _ _ h => h) (by rfl) (v := ?_) (fun w hSw => ?_) hS (fun hS => ?_)
    rotate_left
    · go_simp; try with_reducible rfl
    try go_frame
    refine held_pure (i := 12) (oi := ⟨some 17, _, _, _, _, _⟩) rfl (by kernel_rfl) (by kernel_rfl) (by kernel_rfl) (fun _ _ _ h => h) (by rfl) (fun w hSw => run_load_int rfl rfl (hAt.below hSw (by omega)).off) hS (fun hS => ?_)
    try go_frame
    refine held_pure (i := 13) (oi := ⟨some 18, _, _, _, _, _⟩) rfl (by kernel_rfl) (by kernel_rfl) (by kernel_rfl) (fun _ _ _ h => h) (by rfl) (v := ?_) (fun w hSw => ?_) hS (fun hS => ?_)
    rotate_left
    · go_simp; try with_reducible rfl
    try go_frame
    refine held_pure (i := 14) (oi := ⟨some 19, _, _, _, _, _⟩) rfl (by kernel_rfl) (by kernel_rfl) (by kernel_rfl) (fun _ _ _ h => h) (by rfl) (v := ?_) (fun w hSw => ?_) hS (fun hS => ?_)
    rotate_left
    · go_simp; try with_reducible rfl
    try go_frame
    refine held_pure (i := 15) (oi := ⟨some 20, _, _, _, _, _⟩) rfl (by kernel_rfl) (by kernel_rfl) (by kernel_rfl) (fun _ _ _ h => h) (by rfl) (v := ?_) (fun w hSw => ?_) hS (fun hS => ?_)
    rotate_left
    · go_simp; try with_reducible rfl
    try go_frame
    refine held_pure (i := 16) (oi := ⟨some 21, _, _, _, _, _⟩) rfl (by kernel_rfl) (by kernel_rfl) (by kernel_rfl) (fun _ _ _ h => h) (by rfl) (fun w hSw => run_load_int rfl rfl (hAt.below hSw (by omega)).id) hS (fun hS => ?_)
    try go_frame
    refine wpAnyH_ready (rs := [2]) (by kernel_rfl) (by simp) (AllReadyH.cons (o := ⟨some 7, _, _, _, _, _⟩) rfl (fun K hK => ?_) AllReadyH.nil)
    rw [if_pos (by rfl)]
    go_simp
    refine (fits_any _ _ _).mono ?_
    rintro e w2 ⟨rfl, rfl⟩
    show K _ _
    refine hK.out _ _ hS (fun hS => ?_)
    clear hK K
    try go_frame
    refine held_pure (i := 6) (oi := ⟨some 11, _, _, _, _, _⟩) rfl (by kernel_rfl) (by kernel_rfl) (by kernel_rfl) (fun _ _ _ h => h) (by rfl) (v := ?_) (fun w hSw => ?_) hS (fun hS => ?_)
    rotate_left
    · go_simp; try with_reducible rfl
    try go_frame
    refine held_pure (i := 7) (oi := ⟨some 12, _, _, _, _, _⟩) rfl (by kernel_rfl) (by kernel_rfl) (by kernel_rfl) (fun _ _ _ h => h) (by rfl) (v := ?_) (fun w hSw => ?_) hS (fun hS => ?_)
    rotate_left
    · go_simp; try with_reducible rfl
    try go_frame
    refine held_pure (i := 8) (oi := ⟨some 13, _, _, _, _, _⟩) rfl (by kernel_rfl) (by kernel_rfl) (by kernel_rfl) (fun _ _ _ h => h) (by rfl) (fun w hSw => run_load_int rfl rfl (hAt.below hSw (by omega)).off) hS (fun hS => ?_)
    try go_frame
    refine held_pure (i := 9) (oi := ⟨some 14, _, _, _, _, _⟩) rfl (by kernel_rfl) (by kernel_rfl) (by kernel_rfl) (fun _ _ _ h => h) (by rfl) (v := ?_) (fun w hSw => ?_) hS (fun hS => ?_)
    rotate_left
    · go_simp; try with_reducible rfl
    try go_frame
    refine held_pure (i := 10) (oi := ⟨some 15, _, _, _, _, _⟩) rfl (by kernel_rfl) (by kernel_rfl) (by kernel_rfl) (fun _ _ _ h => h) (by rfl) (v := ?_) (fun w hSw => ?_) hS (fun hS => ?_)
    rotate_left
    · go_simp; try with_reducible rfl
    try go_frame
    refine wpAnyH_ready (rs := [17]) (by kernel_rfl) (by simp) (AllReadyH.cons (o := ⟨some 22, _, _, _, _, _⟩) rfl (fun K hK => ?_) AllReadyH.nil)
    rw [if_pos (by rfl)]
    go_simp
    refine (fits_any _ _ _).mono ?_
    rintro e w17 ⟨rfl, rfl⟩
    show K _ _
    refine hK.out _ _ hS (fun hS => ?_)
    clear hK K
    try go_frame
    refine wpAnyH_ready (rs := [18]) (by kernel_rfl) (by simp) (AllReadyH.cons (o := ⟨some 23, _, _, _, _, _⟩) rfl (fun K hK => ?_) AllReadyH.nil)
    rw [if_pos (by rfl)]
    go_simp
    refine hK.out _ _ (hS.alloc hS.size _) (fun hS => ?_)
    clear hK K
    try go_frame
    refine wpAnyH_ready (rs := [19]) (by kernel_rfl) (by simp) (AllReadyH.cons (o := ⟨some 24, _, _, _, _, _⟩) rfl (fun K hK => ?_) AllReadyH.nil)
    rw [if_pos (by rfl)]
    go_simp
    refine (all6_new [fitsB f.next 1, P, M, fitsB f.id 4] _ 4 _ W (by rfl) (by rfl) (by simp)).mono ?_
    rintro e w19 ⟨rfl, rfl⟩
    show K _ _
    refine hK.out _ _ hS (fun hS => ?_)
    clear hK K
    try go_frame
    refine held_pure (i := 20) (oi := ⟨some 25, _, _, _, _, _⟩) rfl (by kernel_rfl) (by kernel_rfl) (by kernel_rfl) (fun _ _ _ h => h) (by rfl) (v := ?_) (fun w hSw => ?_) hS (fun hS => ?_)
    rotate_left
    · go_simp; try with_reducible rfl
    try go_frame
    refine wpAnyH_done (by kernel_rfl) ?_ _
    have hz2 := hS.size
    by_cases ho : okF f
    · have E := HA.out
      rw [show decide (okF f) = true from decide_eq_true ho] at E
      rw [E]
      have HE := Lib.hid (show errF f = 0 by rw [errF, if_pos ho])
      have ha := hAt.below hS (by omega)
      have k0 := ha.next; have k1 := ha.off; have k2 := ha.id; have k3 := ha.more
      have hob : f.off ≤ 65528 := ho.2.2.2.1
      clear ha hAt E HA hP hM
      generalize (W.alloc (.cells _ 4)).drew = W2 at *
      cases hm : f.more
      · have e1 : f.off + bit f.more 1 = f.off := by rw [hm]; simp [bit]
        have HL := Lib.hid (putL_F f (f.off) ho e1.symm)
        rw [hm] at k3
        clear hm e1
        go_wp2_with (go_at_call 74; refine (put6_new [(f.next, 1), (0, 1), (f.off, 2), (f.id, 4)] _ 4 _ W2 (by rfl) (by rfl) (by simp) (by simp)).mono ?_; rintro e w3 ⟨v3, rfl, m3⟩)
        go_ret2
        rw [HL.out] at m3
        exact ⟨v3, by rw [HE.out]; rfl, m3.after (hB.trans (hS.mono (by omega)))⟩
      · have e1 : f.off + bit f.more 1 = f.off + 1 := by rw [hm]; simp [bit]
        have HL := Lib.hid (putL_F f (f.off + 1) ho e1.symm)
        rw [hm] at k3
        clear hm e1
        go_wp2_with (go_at_call 74; refine (put6_new [(f.next, 1), (0, 1), (f.off + 1, 2), (f.id, 4)] _ 4 _ W2 (by rfl) (by rfl) (by simp) (by simp)).mono ?_; rintro e w3 ⟨v3, rfl, m3⟩)
        go_ret2
        rw [HL.out] at m3
        exact ⟨v3, by rw [HE.out]; rfl, m3.after (hB.trans (hS.mono (by omega)))⟩
    · have E := HA.out
      rw [show decide (okF f) = false from decide_eq_false ho] at E
      rw [E]
      have HE := Lib.hid (show errF f = 1 by rw [errF, if_neg ho])
      have HN := Lib.hid (show bldF f = [] by rw [bldF, if_neg ho])
      clear ho E HA
      go_wp2_with fail
      go_ret2
      exact ⟨.slice none 0 0, by rw [HE.out]; rfl, by rw [HN.out]; exact Made.nil _ _ (hB.trans (hS.mono (by omega)))⟩
  · have p0' : decide (0 ≤ f.off) = false := by simpa using p0
    obtain ⟨M, hM⟩ : ∃ M, (Int.tmod f.off 8 == 0) = M := ⟨_, rfl⟩
    refine wp_region_held_drew (S := fun w' => Below W.heap.size W w') (by kernel_rfl) (Below.refl _ W).drew (fun hS => ?_)
    refine held_pure (i := 0) (oi := ⟨some 5, _, _, _, _, _⟩) rfl (by kernel_rfl) (by kernel_rfl) (by kernel_rfl) (fun _ _ _ h => h) (by rfl) (v := ?_) (fun w hSw => ?_) hS (fun hS => ?_)
    rotate_left
    · go_simp; try with_reducible rfl
    try go_frame
    refine held_pure (i := 1) (oi := ⟨some 6, _, _, _, _, _⟩) rfl (by kernel_rfl) (by kernel_rfl) (by kernel_rfl) (fun _ _ _ h => h) (by rfl) (fun w hSw => run_load_int rfl rfl (hAt.below hSw (by omega)).next) hS (fun hS => ?_)
    try go_frame
    refine held_pure (i := 3) (oi := ⟨some 8, _, _, _, _, _⟩) rfl (by kernel_rfl) (by kernel_rfl) (by kernel_rfl) (fun _ _ _ h => h) (by rfl) (v := ?_) (fun w hSw => ?_) hS (fun hS => ?_)
    rotate_left
    · go_simp; try with_reducible rfl
    try go_frame
    refine held_pure (i := 4) (oi := ⟨some 9, _, _, _, _, _⟩) rfl (by kernel_rfl) (by kernel_rfl) (by kernel_rfl) (fun _ _ _ h => h) (by rfl) (fun w hSw => run_load_int rfl rfl (hAt.below hSw (by omega)).off) hS (fun hS => ?_)
    try go_frame
    refine held_pure (i := 5) (oi := ⟨some 10, _, _, _, _, _⟩) rfl (by kernel_rfl) (by kernel_rfl) (by kernel_rfl) (fun _ _ _ h => h) (by rfl) (v := ?_) (fun w hSw => ?_) hS (fun hS => ?_)
    rotate_left
    · go_simp; try with_reducible rfl
    try go_frame
    refine held_pure (i := 11) (oi := ⟨some 16, _, _, _, _, _⟩) rfl (by kernel_rfl) (by kernel_rfl) (by kernel_rfl) (fun _ _ _ h => h) (by rfl) (v := ?_) (fun w hSw => ?_) hS (fun hS => ?_)
    rotate_left
    · go_simp; try with_reducible rfl
    try go_frame
    refine held_pure (i := 12) (oi := ⟨some 17, _, _, _, _, _⟩) rfl (by kernel_rfl) (by kernel_rfl) (by kernel_rfl) (fun _ _ _ h => h) (by rfl) (fun w hSw => run_load_int rfl rfl (hAt.below hSw (by omega)).off) hS (fun hS => ?_)
    try go_frame
    refine held_pure (i := 13) (oi := ⟨some 18, _, _, _, _, _⟩) rfl (by kernel_rfl) (by kernel_rfl) (by kernel_rfl) (fun _ _ _ h => h) (by rfl) (v := ?_) (fun w hSw => ?_) hS (fun hS => ?_)
    rotate_left
    · go_simp; try with_reducible rfl
    try go_frame
    refine held_pure (i := 14) (oi := ⟨some 19, _, _, _, _, _⟩) rfl (by kernel_rfl) (by kernel_rfl) (by kernel_rfl) (fun _ _ _ h => h) (by rfl) (v := ?_) (fun w hSw => ?_) hS (fun hS => ?_)
    rotate_left
    · go_simp; try with_reducible rfl
    try go_frame
    refine held_pure (i := 15) (oi := ⟨some 20, _, _, _, _, _⟩) rfl (by kernel_rfl) (by kernel_rfl) (by kernel_rfl) (fun _ _ _ h => h) (by rfl) (v := ?_) (fun w hSw => ?_) hS (fun hS => ?_)
    rotate_left
    · go_simp; try with_reducible rfl
    try go_frame
    refine held_pure (i := 16) (oi := ⟨some 21, _, _, _, _, _⟩) rfl (by kernel_rfl) (by kernel_rfl) (by kernel_rfl) (fun _ _ _ h => h) (by rfl) (fun w hSw => run_load_int rfl rfl (hAt.below hSw (by omega)).id) hS (fun hS => ?_)
    try go_frame
    refine wpAnyH_ready (rs := [2]) (by kernel_rfl) (by simp) (AllReadyH.cons (o := ⟨some 7, _, _, _, _, _⟩) rfl (fun K hK => ?_) AllReadyH.nil)
    rw [if_pos (by rfl)]
    go_simp
    refine (fits_any _ _ _).mono ?_
    rintro e w2 ⟨rfl, rfl⟩
    show K _ _
    refine hK.out _ _ hS (fun hS => ?_)
    clear hK K
    try go_frame
    refine held_pure (i := 6) (oi := ⟨some 11, _, _, _, _, _⟩) rfl (by kernel_rfl) (by kernel_rfl) (by kernel_rfl) (fun _ _ _ h => h) (by rfl) (v := ?_) (fun w hSw => ?_) hS (fun hS => ?_)
    rotate_left
    · go_simp; try with_reducible rfl
    try go_frame
    refine held_skip (i := 7) (oi := ⟨some 12, _, _, _, _, _⟩) rfl (by kernel_rfl) (by kernel_rfl) (by kernel_rfl) (fun _ _ _ h => h) (by rfl) hS (fun hS => ?_)
    try go_frame
    refine held_skip (i := 8) (oi := ⟨some 13, _, _, _, _, _⟩) rfl (by kernel_rfl) (by kernel_rfl) (by kernel_rfl) (fun _ _ _ h => h) (by rfl) hS (fun hS => ?_)
    try go_frame
    refine held_skip (i := 9) (oi := ⟨some 14, _, _, _, _, _⟩) rfl (by kernel_rfl) (by kernel_rfl) (by kernel_rfl) (fun _ _ _ h => h) (by rfl) hS (fun hS => ?_)
    try go_frame
    refine held_pure (i := 10) (oi := ⟨some 15, _, _, _, _, _⟩) rfl (by kernel_rfl) (by kernel_rfl) (by kernel_rfl) (fun _ _ _ h => h) (by rfl) (v := ?_) (fun w hSw => ?_) hS (fun hS => ?_)
    rotate_left
    · go_simp; try with_reducible rfl
    try go_frame
    refine wpAnyH_ready (rs := [17]) (by kernel_rfl) (by simp) (AllReadyH.cons (o := ⟨some 22, _, _, _, _, _⟩) rfl (fun K hK => ?_) AllReadyH.nil)
    rw [if_pos (by rfl)]
    go_simp
    refine (fits_any _ _ _).mono ?_
    rintro e w17 ⟨rfl, rfl⟩
    show K _ _
    refine hK.out _ _ hS (fun hS => ?_)
    clear hK K
    try go_frame
    refine wpAnyH_ready (rs := [18]) (by kernel_rfl) (by simp) (AllReadyH.cons (o := ⟨some 23, _, _, _, _, _⟩) rfl (fun K hK => ?_) AllReadyH.nil)
    rw [if_pos (by rfl)]
    go_simp
    refine hK.out _ _ (hS.alloc hS.size _) (fun hS => ?_)
    clear hK K
    try go_frame
    refine wpAnyH_ready (rs := [19]) (by kernel_rfl) (by simp) (AllReadyH.cons (o := ⟨some 24, _, _, _, _, _⟩) rfl (fun K hK => ?_) AllReadyH.nil)
    rw [if_pos (by rfl)]
    go_simp
    refine (all6_new [fitsB f.next 1, false, M, fitsB f.id 4] _ 4 _ W (by rfl) (by rfl) (by simp)).mono ?_
    rintro e w19 ⟨rfl, rfl⟩
    show K _ _
    refine hK.out _ _ hS (fun hS => ?_)
    clear hK K
    try go_frame
    refine held_pure (i := 20) (oi := ⟨some 25, _, _, _, _, _⟩) rfl (by kernel_rfl) (by kernel_rfl) (by kernel_rfl) (fun _ _ _ h => h) (by rfl) (v := ?_) (fun w hSw => ?_) hS (fun hS => ?_)
    rotate_left
    · go_simp; try with_reducible rfl
    try go_frame
    refine wpAnyH_done (by kernel_rfl) ?_ _
    have hz2 := hS.size
    have ho : ¬ okF f := fun h => p0 h.2.2.1
    have E : allB [fitsB f.next 1, false, M, fitsB f.id 4] = false := by simp [allB]
    rw [E]
    have HE := Lib.hid (show errF f = 1 by rw [errF, if_neg ho])
    have HN := Lib.hid (show bldF f = [] by rw [bldF, if_neg ho])
    clear ho E
    go_wp2_with fail
    go_ret2
    exact ⟨.slice none 0 0, by rw [HE.out]; rfl, by rw [HN.out]; exact Made.nil _ _ (hB.trans (hS.mono (by omega)))⟩

set_option maxRecDepth 100000 in
set_option maxHeartbeats 400000 in
theorem r6bfrag : Calls Try.prog 49 #[frv f] w fun e w' => ∃ v, e = .returned (.tuple #[v, .int .i64 (errF f)]) ∧ Made w w' v (bldF f) := by
  have hB : Below w.heap.size w (w.alloc (.cells (fra f) 51)) := (Below.refl w.heap.size w).alloc (Nat.le_refl _) _
  have hAt := AtF.new (f := f) w
  have hz : w.heap.size < (w.alloc (.cells (fra f) 51)).heap.size := by simp
  unfold frv
  rw [show #[Value.int .i64 f.next, .int .i64 f.off, .int .i64 f.id, .bool f.more] = fra f from rfl]
  have HO := Lib.hid (okF_iff f)
  have k0 := hAt.next; have k1 := hAt.off; have k2 := hAt.id; have k3 := hAt.more
  go_enter Try.func49, Try.ntmps49
  go_upto_region 1 with fail
  generalize w.alloc (.cells (fra f) 51) = W at *
  by_cases ho : okF f
  · obtain ⟨hn0, hn1, p0, p1, p2, hi0, hi1⟩ := id ho
    have ptm : Int.tmod f.off 8 = f.off % 8 := Int.tmod_eq_emod_of_nonneg p0
    have p2' : ((f.off % 8) != 0) = false := by simp; omega
    have HE := Lib.hid (show errF f = 0 by rw [errF, if_pos ho])
    have H0 := Lib.hid (HO.out.1 ho).1
    have H4 := Lib.hid (HO.out.1 ho).2.2.2
    clear p2
    cases hm : f.more
    · have e1 : f.off + bit f.more 1 = f.off := by rw [hm]; simp [bit]
      have HL := Lib.hid (putR_F f (f.off) ho e1.symm)
      rw [hm] at k3
      clear hm e1
      go_wp2_with (go_at_call 46; refine (rfits_any _ _ _).mono ?_; rintro e w' ⟨rfl, rfl⟩; (first | rw [H0.out] | rw [H4.out]))
      refine wp_region_held_drew (S := fun w' => Below W.heap.size W w') (by kernel_rfl) (Below.refl _ W).drew (fun hS => ?_)
      refine held_pure (i := 0) (oi := ⟨some 37, _, _, _, _, _⟩) rfl (by kernel_rfl) (by kernel_rfl) (by kernel_rfl) (fun _ _ _ h => h) (by rfl) (v := ?_) (fun w hSw => ?_) hS (fun hS => ?_)
      rotate_left
      · go_simp; try with_reducible rfl
      try go_frame
      refine held_pure (i := 1) (oi := ⟨some 38, _, _, _, _, _⟩) rfl (by kernel_rfl) (by kernel_rfl) (by kernel_rfl) (fun _ _ _ h => h) (by rfl) (fun w hSw => run_load_int rfl rfl (hAt.below hSw (by omega)).next) hS (fun hS => ?_)
      try go_frame
      refine held_pure (i := 2) (oi := ⟨some 39, _, _, _, _, _⟩) rfl (by kernel_rfl) (by kernel_rfl) (by kernel_rfl) (fun _ _ _ h => h) (by rfl) (v := ?_) (fun w hSw => ?_) hS (fun hS => ?_)
      rotate_left
      · go_simp; try with_reducible rfl
      try go_frame
      refine held_pure (i := 4) (oi := ⟨some 41, _, _, _, _, _⟩) rfl (by kernel_rfl) (by kernel_rfl) (by kernel_rfl) (fun _ _ _ h => h) (by rfl) (v := ?_) (fun w hSw => ?_) hS (fun hS => ?_)
      rotate_left
      · go_simp; try with_reducible rfl
      try go_frame
      refine held_pure (i := 6) (oi := ⟨some 43, _, _, _, _, _⟩) rfl (by kernel_rfl) (by kernel_rfl) (by kernel_rfl) (fun _ _ _ h => h) (by rfl) (v := ?_) (fun w hSw => ?_) hS (fun hS => ?_)
      rotate_left
      · go_simp; try with_reducible rfl
      try go_frame
      refine held_pure (i := 7) (oi := ⟨some 44, _, _, _, _, _⟩) rfl (by kernel_rfl) (by kernel_rfl) (by kernel_rfl) (fun _ _ _ h => h) (by rfl) (fun w hSw => run_load_int rfl rfl (hAt.below hSw (by omega)).id) hS (fun hS => ?_)
      try go_frame
      refine wpAnyH_ready (rs := [3]) (by kernel_rfl) (by simp) (AllReadyH.cons (o := ⟨some 40, _, _, _, _, _⟩) rfl (fun K hK => ?_) AllReadyH.nil)
      rw [if_pos (by rfl)]
      go_simp
      refine hK.out _ _ (hS.alloc hS.size _) (fun hS => ?_)
      clear hK K
      try go_frame
      refine wpAnyH_ready (rs := [5]) (by kernel_rfl) (by simp) (AllReadyH.cons (o := ⟨some 42, _, _, _, _, _⟩) rfl (fun K hK => ?_) AllReadyH.nil)
      rw [if_pos (by rfl)]
      go_simp
      refine (rput_any (some ⟨W.heap.size, 0, none⟩) [u8 f.next, 0] 2 _ (f.off) 2 _ ((arg_pair W f.next (by first | rw [IntKind.wrap_u8] | omega)).drewN 1) (by simp)).mono ?_
      have y5 := hS
      rintro e w5 ⟨v5, rfl, m5⟩
      obtain ⟨A5, c5, rfl, arg5, ow5, x5⟩ := made_shape m5
      show K _ _
      refine hK.out _ _ (below_step hS x5) (fun hS => ?_)
      clear hK K
      try go_frame
      refine wpAnyH_ready (rs := [8]) (by kernel_rfl) (by simp) (AllReadyH.cons (o := ⟨some 45, _, _, _, _, _⟩) rfl (fun K hK => ?_) AllReadyH.nil)
      rw [if_pos (by rfl)]
      go_simp
      refine (rput_any A5 _ c5 _ f.id 4 _ arg5 (by exact Nat.le_trans (putB_le (K := 2) (by simp) (by decide)) (by decide))).mono ?_
      rintro e w8 ⟨v8, rfl, m8⟩
      have x8 : Below _ _ _ := m8.below
      show K _ _
      refine hK.out _ _ (below_step hS x8) (fun hS => ?_)
      clear hK K
      try go_frame
      refine held_pure (i := 9) (oi := ⟨some 2, _, _, _, _, _⟩) rfl (by kernel_rfl) (by kernel_rfl) (by kernel_rfl) (fun _ _ _ h => h) (by rfl) (v := ?_) (fun w hSw => ?_) hS (fun hS => ?_)
      rotate_left
      · go_simp; try with_reducible rfl
      try go_frame
      refine held_pure (i := 10) (oi := ⟨some 3, _, _, _, _, _⟩) rfl (by kernel_rfl) (by kernel_rfl) (by kernel_rfl) (fun _ _ _ h => h) (by rfl) (v := ?_) (fun w hSw => ?_) hS (fun hS => ?_)
      rotate_left
      · go_simp; try with_reducible rfl
      try go_frame
      refine wpAnyH_done (by kernel_rfl) ?_ _
      go_wp2_with fail
      go_ret2
      rw [HL.out] at m8
      exact ⟨v8, by rw [HE.out]; rfl, m8.after (hB.trans ((below_step y5 x5).mono (by omega)))⟩
    · have e1 : f.off + bit f.more 1 = f.off + 1 := by rw [hm]; simp [bit]
      have HL := Lib.hid (putR_F f (f.off + 1) ho e1.symm)
      rw [hm] at k3
      clear hm e1
      go_wp2_with (go_at_call 46; refine (rfits_any _ _ _).mono ?_; rintro e w' ⟨rfl, rfl⟩; (first | rw [H0.out] | rw [H4.out]))
      refine wp_region_held_drew (S := fun w' => Below W.heap.size W w') (by kernel_rfl) (Below.refl _ W).drew (fun hS => ?_)
      refine held_pure (i := 0) (oi := ⟨some 37, _, _, _, _, _⟩) rfl (by kernel_rfl) (by kernel_rfl) (by kernel_rfl) (fun _ _ _ h => h) (by rfl) (v := ?_) (fun w hSw => ?_) hS (fun hS => ?_)
      rotate_left
      · go_simp; try with_reducible rfl
      try go_frame
      refine held_pure (i := 1) (oi := ⟨some 38, _, _, _, _, _⟩) rfl (by kernel_rfl) (by kernel_rfl) (by kernel_rfl) (fun _ _ _ h => h) (by rfl) (fun w hSw => run_load_int rfl rfl (hAt.below hSw (by omega)).next) hS (fun hS => ?_)
      try go_frame
      refine held_pure (i := 2) (oi := ⟨some 39, _, _, _, _, _⟩) rfl (by kernel_rfl) (by kernel_rfl) (by kernel_rfl) (fun _ _ _ h => h) (by rfl) (v := ?_) (fun w hSw => ?_) hS (fun hS => ?_)
      rotate_left
      · go_simp; try with_reducible rfl
      try go_frame
      refine held_pure (i := 4) (oi := ⟨some 41, _, _, _, _, _⟩) rfl (by kernel_rfl) (by kernel_rfl) (by kernel_rfl) (fun _ _ _ h => h) (by rfl) (v := ?_) (fun w hSw => ?_) hS (fun hS => ?_)
      rotate_left
      · go_simp; try with_reducible rfl
      try go_frame
      refine held_pure (i := 6) (oi := ⟨some 43, _, _, _, _, _⟩) rfl (by kernel_rfl) (by kernel_rfl) (by kernel_rfl) (fun _ _ _ h => h) (by rfl) (v := ?_) (fun w hSw => ?_) hS (fun hS => ?_)
      rotate_left
      · go_simp; try with_reducible rfl
      try go_frame
      refine held_pure (i := 7) (oi := ⟨some 44, _, _, _, _, _⟩) rfl (by kernel_rfl) (by kernel_rfl) (by kernel_rfl) (fun _ _ _ h => h) (by rfl) (fun w hSw => run_load_int rfl rfl (hAt.below hSw (by omega)).id) hS (fun hS => ?_)
      try go_frame
      refine wpAnyH_ready (rs := [3]) (by kernel_rfl) (by simp) (AllReadyH.cons (o := ⟨some 40, _, _, _, _, _⟩) rfl (fun K hK => ?_) AllReadyH.nil)
      rw [if_pos (by rfl)]
      go_simp
      refine hK.out _ _ (hS.alloc hS.size _) (fun hS => ?_)
      clear hK K
      try go_frame
      refine wpAnyH_ready (rs := [5]) (by kernel_rfl) (by simp) (AllReadyH.cons (o := ⟨some 42, _, _, _, _, _⟩) rfl (fun K hK => ?_) AllReadyH.nil)
      rw [if_pos (by rfl)]
      go_simp
      refine (rput_any (some ⟨W.heap.size, 0, none⟩) [u8 f.next, 0] 2 _ (f.off + 1) 2 _ ((arg_pair W f.next (by first | rw [IntKind.wrap_u8] | omega)).drewN 1) (by simp)).mono ?_
      have y5 := hS
      rintro e w5 ⟨v5, rfl, m5⟩
      obtain ⟨A5, c5, rfl, arg5, ow5, x5⟩ := made_shape m5
      show K _ _
      refine hK.out _ _ (below_step hS x5) (fun hS => ?_)
      clear hK K
      try go_frame
      refine wpAnyH_ready (rs := [8]) (by kernel_rfl) (by simp) (AllReadyH.cons (o := ⟨some 45, _, _, _, _, _⟩) rfl (fun K hK => ?_) AllReadyH.nil)
      rw [if_pos (by rfl)]
      go_simp
      refine (rput_any A5 _ c5 _ f.id 4 _ arg5 (by exact Nat.le_trans (putB_le (K := 2) (by simp) (by decide)) (by decide))).mono ?_
      rintro e w8 ⟨v8, rfl, m8⟩
      have x8 : Below _ _ _ := m8.below
      show K _ _
      refine hK.out _ _ (below_step hS x8) (fun hS => ?_)
      clear hK K
      try go_frame
      refine held_pure (i := 9) (oi := ⟨some 2, _, _, _, _, _⟩) rfl (by kernel_rfl) (by kernel_rfl) (by kernel_rfl) (fun _ _ _ h => h) (by rfl) (v := ?_) (fun w hSw => ?_) hS (fun hS => ?_)
      rotate_left
      · go_simp; try with_reducible rfl
      try go_frame
      refine held_pure (i := 10) (oi := ⟨some 3, _, _, _, _, _⟩) rfl (by kernel_rfl) (by kernel_rfl) (by kernel_rfl) (fun _ _ _ h => h) (by rfl) (v := ?_) (fun w hSw => ?_) hS (fun hS => ?_)
      rotate_left
      · go_simp; try with_reducible rfl
      try go_frame
      refine wpAnyH_done (by kernel_rfl) ?_ _
      go_wp2_with fail
      go_ret2
      rw [HL.out] at m8
      exact ⟨v8, by rw [HE.out]; rfl, m8.after (hB.trans ((below_step y5 x5).mono (by omega)))⟩
  · have HE := Lib.hid (show errF f = 1 by rw [errF, if_neg ho])
    have HN := Lib.hid (show bldF f = [] by rw [bldF, if_neg ho])
    have hno : ¬ (fitsB f.next 1 = true ∧ offB f = true ∧ mulB f = true ∧ fitsB f.id 4 = true) := fun h => ho (HO.out.2 h)
    clear ho HO
    cases H0' : fitsB f.next 1
    · have H0 := Lib.hid H0'
      have H4 := Lib.hid H0'
      clear H0' hno
      go_wp2_with (go_at_call 46; refine (rfits_any _ _ _).mono ?_; rintro e w' ⟨rfl, rfl⟩; (first | rw [H0.out] | rw [H4.out]))
      go_ret2
      exact ⟨.slice none 0 0, by rw [HE.out]; rfl, by rw [HN.out]; exact Made.nil _ _ hB⟩
    · have H0 := Lib.hid H0'
      rw [H0'] at hno
      clear H0'
      by_cases p0 : 0 ≤ f.off
      · have p0' : decide (f.off < 0) = false := by simp; omega
        have ptm : Int.tmod f.off 8 = f.off % 8 := Int.tmod_eq_emod_of_nonneg p0
        by_cases p1 : f.off ≤ 65528
        · have p1' : decide (65528 < f.off) = false := by simp; omega
          by_cases p2 : f.off % 8 = 0
          · have p2' : ((f.off % 8) != 0) = false := by simp; omega
            have H4 := Lib.hid (show fitsB f.id 4 = false by
              cases h4 : fitsB f.id 4
              · rfl
              · exact absurd ⟨rfl, by simp [offB, p0, p1], by simp [mulB, p2], h4⟩ hno)
            clear hno p2
            go_wp2_with (go_at_call 46; refine (rfits_any _ _ _).mono ?_; rintro e w' ⟨rfl, rfl⟩; (first | rw [H0.out] | rw [H4.out]))
            go_ret2
            exact ⟨.slice none 0 0, by rw [HE.out]; rfl, by rw [HN.out]; exact Made.nil _ _ hB⟩
          · have p2' : ((f.off % 8) != 0) = true := by simp; omega
            have H4 := Lib.hid (rfl : true = true)
            clear hno p2
            go_wp2_with (go_at_call 46; refine (rfits_any _ _ _).mono ?_; rintro e w' ⟨rfl, rfl⟩; (first | rw [H0.out] | rw [H4.out]))
            go_ret2
            exact ⟨.slice none 0 0, by rw [HE.out]; rfl, by rw [HN.out]; exact Made.nil _ _ hB⟩
        · have p1' : decide (65528 < f.off) = true := by simp; omega
          have H4 := Lib.hid (rfl : true = true)
          clear hno
          go_wp2_with (go_at_call 46; refine (rfits_any _ _ _).mono ?_; rintro e w' ⟨rfl, rfl⟩; (first | rw [H0.out] | rw [H4.out]))
          go_ret2
          exact ⟨.slice none 0 0, by rw [HE.out]; rfl, by rw [HN.out]; exact Made.nil _ _ hB⟩
      · have p0' : decide (f.off < 0) = true := by simp; omega
        have H4 := Lib.hid (rfl : true = true)
        clear hno
        go_wp2_with (go_at_call 46; refine (rfits_any _ _ _).mono ?_; rintro e w' ⟨rfl, rfl⟩; (first | rw [H0.out] | rw [H4.out]))
        go_ret2
        exact ⟨.slice none 0 0, by rw [HE.out]; rfl, by rw [HN.out]; exact Made.nil _ _ hB⟩
end
end Go.Proofs.Ytcebobcakiljhaa

/-
  Contracts of ParseFrag, the program's and the document's. Conditions are each theorem's own.
-/
namespace Go.Proofs.Ytcebobcakiljhaa
open Go.RowKit

set_option maxRecDepth 100000 in
set_option maxHeartbeats 1000000 in
theorem c6pfrag (A : Option Addr) (b : List UInt8) (c B : Nat) (w : World) (hR : Arg w B A c b) (hB : B ≤ w.heap.size) (hl : b.length ≤ 1000000) :
    Calls Try.prog 50 #[.slice A b.length c] w fun e w' => ∃ v, e = .returned (.tuple #[frv (prsF b), v, .int .i64 (prsG b)]) ∧ Made w w' v (rstF b) := by
  have hOR := OwnR.new w (fra frz) 51
  have hg0 := World.alloc_heap_new w (.cells (fra frz) 51)
  have hcap := hR.cap
  go_enter Try.func50, Try.ntmps50
  by_cases h8 : b.length < 8
  · have HE1 := Lib.hid (show prsF b = frz by rw [prsF, if_pos h8])
    have HE2 := Lib.hid (show rstF b = [] by rw [rstF, if_pos h8])
    have HE3 := Lib.hid (show prsG b = 3 by rw [prsG, if_pos h8])
    go_wp2_with fail
    exact bodyPost_ret (res3 rfl rfl (run_loadVar_row _ _ _ 51 (fra frz) _ _ hg0 Try.underlying51 rfl (by kernel_rfl))) rfl ⟨.slice none 0 0, by rw [HE1.out, HE3.out]; rfl, by rw [HE2.out]; exact Made.nil _ _ hOR.b⟩
  · have h8' : ¬ (b.length : Int) < 8 := by omega
    have HE1 := Lib.hid (show prsF b = rawF b by rw [prsF, if_neg h8])
    have HE2 := Lib.hid (show rstF b = b.drop 8 by rw [rstF, if_neg h8])
    have HE3 := Lib.hid (show prsG b = 0 by rw [prsG, if_neg h8])
    obtain ⟨D, hD⟩ : ∃ D, D = b.drop 8 := ⟨_, rfl⟩
    have HDl := Lib.hid (show D.length = b.length - 8 by rw [hD]; simp)
    have G0 := Lib.hid (get_one (b := b) (i := 0) (by omega))
    have G2 := Lib.hid (get_two (b := b) (i := 2) (by omega))
    have G4 := Lib.hid (get_four (b := b) (i := 4) (by omega))
    obtain ⟨F, hF⟩ : ∃ F, F = n2 b 2 := ⟨_, rfl⟩
    have hFb := n2_bd b 2
    rw [← hF] at hFb G2
    have HA := Lib.hid (show #[Value.int .i64 (byt b 0), .int .i64 (F / 8 * 8), .int .i64 (n4 b 4), .bool (decide (F % 2 = 1))] = fra (rawF b) by rw [hF]; rfl)
    have HM := Lib.hid (show bits .and .i64 F 1 = F % 2 from by have := and_mask 1 F (by omega) (by omega) (by omega); simpa using this)
    have HN := Lib.hid (show ((F % 2) != 0) = decide (F % 2 = 1) from by rw [Bool.eq_iff_iff]; simp; omega)
    have HD := Lib.hid hD
    clear hD hF h8
    have hOR' : OwnR w 51 4 (w.alloc (.cells #[.int .i64 0, .int .i64 0, .int .i64 0, .bool false] 51)) := hOR
    go_upto_region 4 with (go_at_call 66; refine (get6_any A b c B 2 2 _ (hR.below (hOR'.b.mono hB)).rd (by omega) hR.cap).mono ?_; rintro e w' ⟨rfl, rfl⟩; rw [show getV b 2 2 = F from G2.out])
    generalize w.alloc (.cells #[.int .i64 0, .int .i64 0, .int .i64 0, .bool false] 51) = W at *
    have HX := Lib.hid (show Int.tmod F 8 = F % 8 from Int.tmod_eq_emod_of_nonneg hFb.1)
    have HY := Lib.hid (show IntKind.i64.wrap (F - F % 8) = F / 8 * 8 from by rw [IntWalk.i64_in _ (by omega)]; omega)
    refine wp_region_held_drew (S := OwnR w 51 4) (by kernel_rfl) hOR'.drew (fun hS => ?_)
    refine held_pure (i := 0) (oi := ⟨some 12, _, _, _, _, _⟩) rfl (by kernel_rfl) (by kernel_rfl) (by kernel_rfl) (fun _ _ _ h => h) (by rfl) (v := ?_) (fun w hSw => ?_) hS (fun hS => ?_)
    rotate_left
    · go_simp; try with_reducible rfl
    try go_frame
    refine held_pure (i := 2) (oi := ⟨some 14, _, _, _, _, _⟩) rfl (by kernel_rfl) (by kernel_rfl) (by kernel_rfl) (fun _ _ _ h => h) (by rfl) (v := ?_) (fun w hSw => ?_) hS (fun hS => ?_)
    rotate_left
    · go_simp; try with_reducible rfl
    try go_frame
    refine held_pure (i := 3) (oi := ⟨some 15, _, _, _, _, _⟩) rfl (by kernel_rfl) (by kernel_rfl) (by kernel_rfl) (fun _ _ _ h => h) (by rfl) (v := ?_) (fun w hSw => ?_) hS (fun hS => ?_)
    rotate_left
    · go_simp; try with_reducible rfl
    try go_frame
    refine held_pure (i := 4) (oi := ⟨some 16, _, _, _, _, _⟩) rfl (by kernel_rfl) (by kernel_rfl) (by kernel_rfl) (fun _ _ _ h => h) (by rfl) (v := ?_) (fun w hSw => ?_) hS (fun hS => ?_)
    rotate_left
    · go_simp; try with_reducible rfl
    try go_frame
    refine held_pure (i := 5) (oi := ⟨some 17, _, _, _, _, _⟩) rfl (by kernel_rfl) (by kernel_rfl) (by kernel_rfl) (fun _ _ _ h => h) (by rfl) (v := .int .i64 (F / 8 * 8)) (fun w hSw => by go_simp; rw [HX.out]; exact HY.out) hS (fun hS => ?_)
    try go_frame
    refine held_pure (i := 6) (oi := ⟨some 18, _, _, _, _, _⟩) rfl (by kernel_rfl) (by kernel_rfl) (by kernel_rfl) (fun _ _ _ h => h) (by rfl) (v := ?_) (fun w hSw => ?_) hS (fun hS => ?_)
    rotate_left
    · go_simp; try with_reducible rfl
    try go_frame
    refine held_pure (i := 8) (oi := ⟨some 20, _, _, _, _, _⟩) rfl (by kernel_rfl) (by kernel_rfl) (by kernel_rfl) (fun _ _ _ h => h) (by rfl) (v := ?_) (fun w hSw => ?_) hS (fun hS => ?_)
    rotate_left
    · go_simp; try with_reducible rfl
    try go_frame
    refine held_pure (i := 9) (oi := ⟨some 21, _, _, _, _, _⟩) rfl (by kernel_rfl) (by kernel_rfl) (by kernel_rfl) (fun _ _ _ h => h) (by rfl) (v := .int .i64 (F % 2)) (fun w hSw => by go_simp; exact HM.out) hS (fun hS => ?_)
    try go_frame
    refine held_pure (i := 10) (oi := ⟨some 22, _, _, _, _, _⟩) rfl (by kernel_rfl) (by kernel_rfl) (by kernel_rfl) (fun _ _ _ h => h) (by rfl) (v := .bool (decide (F % 2 = 1))) (fun w hSw => by go_simp; exact HN.out) hS (fun hS => ?_)
    try go_frame
    refine held_pure (i := 12) (oi := ⟨some 24, _, _, _, _, _⟩) rfl (by kernel_rfl) (by kernel_rfl) (by kernel_rfl) (fun _ _ _ h => h) (by rfl) (v := ?_) (fun w hSw => ?_) hS (fun hS => ?_)
    rotate_left
    · go_simp; try with_reducible rfl
    try go_frame
    refine held_pure (i := 13) (oi := ⟨some 25, _, _, _, _, _⟩) rfl (by kernel_rfl) (by kernel_rfl) (by kernel_rfl) (fun _ _ _ h => h) (by rfl) (fun w hSw => run_cut_l rfl rfl (l := 8) rfl (by omega) HDl.out) hS (fun hS => ?_)
    try go_frame
    refine wpAnyH_ready (rs := [1]) (by kernel_rfl) (by simp) (AllReadyH.cons (o := ⟨some 13, _, _, _, _, _⟩) rfl (fun K hK => ?_) AllReadyH.nil)
    rw [if_pos (by rfl)]
    go_simp
    refine (get6_any A b c B 0 1 _ (hR.below (hS.b.mono hB)).rd (by omega) hR.cap).mono ?_
    rintro e w1 ⟨rfl, rfl⟩
    rw [show getV b 0 1 = byt b 0 from G0.out]
    show K _ _
    refine hK.out _ _ hS (fun hS => ?_)
    clear hK K
    try go_frame
    refine wpAnyH_ready (rs := [7]) (by kernel_rfl) (by simp) (AllReadyH.cons (o := ⟨some 19, _, _, _, _, _⟩) rfl (fun K hK => ?_) AllReadyH.nil)
    rw [if_pos (by rfl)]
    go_simp
    refine (get6_any A b c B 4 4 _ (hR.below (hS.b.mono hB)).rd (by omega) hR.cap).mono ?_
    rintro e w7 ⟨rfl, rfl⟩
    rw [show getV b 4 4 = n4 b 4 from G4.out]
    show K _ _
    refine hK.out _ _ hS (fun hS => ?_)
    clear hK K
    try go_frame
    refine held_pure (i := 11) (oi := ⟨some 23, _, _, _, _, _⟩) rfl (by kernel_rfl) (by kernel_rfl) (by kernel_rfl) (fun _ _ _ h => h) (by rfl) (v := .agg (fra (rawF b))) (fun w hSw => by go_simp; exact HA.out) hS (fun hS => ?_)
    try go_frame
    refine wpAnyH_ready (rs := [14]) (by kernel_rfl) (by simp) (AllReadyH.cons (o := ⟨some 26, _, _, _, _, _⟩) rfl (fun K hK => ?_) AllReadyH.nil)
    rw [if_pos (by rfl)]
    go_simp
    have y14 := hS
    refine (fresh_any _ D _ B _ (by rw [HD.out]; exact (hR.below (hS.b.mono hB)).cut_lo 8) (by rw [HDl.out]; omega)).mono ?_
    rintro e w14 ⟨v14, rfl, m14⟩
    show K _ _
    refine hK.out _ _ (hS.step m14.below) (fun hS => ?_)
    clear hK K
    try go_frame
    refine wpAnyH_ready (rs := [15]) (by kernel_rfl) (by simp) (AllReadyH.cons (o := ⟨none, _, _, _, _, _⟩) rfl (fun K hK => ?_) AllReadyH.nil)
    rw [if_pos (by rfl)]
    obtain ⟨old, ho4, hgo⟩ := hS.2
    refine wp_store_row 51 _ _ rfl w.heap.size (fra (rawF b)) rfl rfl 51 old hgo (by kernel_rfl) ho4 (by simp [fra, Value.oneCell']) ?_
    have hgz := setRow_heap _ _ _ (fra (rawF b)) _ _ hgo
    refine hK.out _ _ (hS.row _ rfl) (fun hS => ?_)
    clear hK K
    try go_frame
    refine held_pure (i := 16) (oi := ⟨some 3, _, _, _, _, _⟩) rfl (by kernel_rfl) (by kernel_rfl) (by kernel_rfl) (fun _ _ _ h => h) (by rfl) (v := ?_) (fun w hSw => ?_) hS (fun hS => ?_)
    rotate_left
    · go_simp; try with_reducible rfl
    try go_frame
    refine held_pure (i := 17) (oi := ⟨some 4, _, _, _, _, _⟩) rfl (by kernel_rfl) (by kernel_rfl) (by kernel_rfl) (fun _ _ _ h => h) (by rfl) (v := ?_) (fun w hSw => ?_) hS (fun hS => ?_)
    rotate_left
    · go_simp; try with_reducible rfl
    try go_frame
    refine wpAnyH_done (by kernel_rfl) ?_ _
    go_wp2_with fail
    exact bodyPost_ret (res3 rfl rfl (run_loadVar_row _ _ _ 51 _ _ _ hgz Try.underlying51 rfl (by kernel_rfl))) rfl ⟨v14, by rw [HE1.out, HE3.out]; rfl, by rw [HE2.out]; exact (show Made w _ v14 (b.drop 8) from HD.out ▸ m14.row y14.b y14.lt)⟩
set_option maxRecDepth 100000 in
set_option maxHeartbeats 1000000 in
theorem r6pfrag (A : Option Addr) (b : List UInt8) (c B : Nat) (w : World) (hR : Arg w B A c b) (hB : B ≤ w.heap.size) (hl : b.length ≤ 1000000) :
    Calls Try.prog 51 #[.slice A b.length c] w fun e w' => ∃ v, e = .returned (.tuple #[frv (prsF b), v, .int .i64 (prsG b)]) ∧ Made w w' v (rstF b) := by
  have hOR := OwnR.new w (fra frz) 51
  have hg0 := World.alloc_heap_new w (.cells (fra frz) 51)
  have hcap := hR.cap
  go_enter Try.func51, Try.ntmps51
  by_cases h8 : b.length < 8
  · have HE1 := Lib.hid (show prsF b = frz by rw [prsF, if_pos h8])
    have HE2 := Lib.hid (show rstF b = [] by rw [rstF, if_pos h8])
    have HE3 := Lib.hid (show prsG b = 3 by rw [prsG, if_pos h8])
    go_wp2_with fail
    exact bodyPost_ret (res3 rfl rfl (run_loadVar_row _ _ _ 51 (fra frz) _ _ hg0 Try.underlying51 rfl (by kernel_rfl))) rfl ⟨.slice none 0 0, by rw [HE1.out, HE3.out]; rfl, by rw [HE2.out]; exact Made.nil _ _ hOR.b⟩
  · have h8' : ¬ (b.length : Int) < 8 := by omega
    have HE1 := Lib.hid (show prsF b = rawF b by rw [prsF, if_neg h8])
    have HE2 := Lib.hid (show rstF b = b.drop 8 by rw [rstF, if_neg h8])
    have HE3 := Lib.hid (show prsG b = 0 by rw [prsG, if_neg h8])
    obtain ⟨D, hD⟩ : ∃ D, D = b.drop 8 := ⟨_, rfl⟩
    have HDl := Lib.hid (show D.length = b.length - 8 by rw [hD]; simp)
    have G0 := Lib.hid (get_one (b := b) (i := 0) (by omega))
    have G2 := Lib.hid (get_two (b := b) (i := 2) (by omega))
    have G4 := Lib.hid (get_four (b := b) (i := 4) (by omega))
    obtain ⟨F, hF⟩ : ∃ F, F = n2 b 2 := ⟨_, rfl⟩
    have hFb := n2_bd b 2
    rw [← hF] at hFb G2
    have HA := Lib.hid (show #[Value.int .i64 (byt b 0), .int .i64 (F / 8 * 8), .int .i64 (n4 b 4), .bool (decide (F % 2 = 1))] = fra (rawF b) by rw [hF]; rfl)
    have HN := Lib.hid (show (Int.tmod F 2 == 1) = decide (F % 2 = 1) from by rw [Int.tmod_eq_emod_of_nonneg hFb.1, Bool.eq_iff_iff]; simp)
    have EQ := Lib.hid (show IntKind.i64.wrap (IntKind.i64.wrap (Int.tdiv F 8) * 8) = F / 8 * 8 from by rw [Int.tdiv_eq_ediv_of_nonneg hFb.1, IntWalk.i64_in (F / 8) (by omega)]; exact IntWalk.i64_in _ (by omega))
    have E0 := Lib.hid (IntWalk.i64_in (byt b 0) (by have := byt_lo b 0; have := byt_hi b 0; omega))
    have HD := Lib.hid hD
    have hRD : Arg w B (cutA A c 8) (c - 8) D := by rw [hD]; exact hR.cut_lo 8
    obtain ⟨b0, off, rfl, hbB, hcell⟩ := hR.rd (by omega)
    have kc := hcell 0 (by omega)
    have hb0 : b0 < w.heap.size := by omega
    clear hD hF h8 hcell
    have hOR' : OwnR w 51 4 (w.alloc (.cells #[.int .i64 0, .int .i64 0, .int .i64 0, .bool false] 51)) := hOR
    go_upto_region 4 with (go_at_call 68; refine (rget_any _ b c B 2 2 _ (hR.below (hOR'.b.mono hB)).rd (by omega)).mono ?_; rintro e w' ⟨rfl, rfl⟩; rw [show getV b 2 2 = F from G2.out])
    go_upto_region 5 with (go_at_call 68; refine (rget_any _ b c B 4 4 _ (hR.below (hOR'.b.mono hB)).rd (by omega)).mono ?_; rintro e w' ⟨rfl, rfl⟩; rw [show getV b 4 4 = n4 b 4 from G4.out])
    generalize w.alloc (.cells #[.int .i64 0, .int .i64 0, .int .i64 0, .bool false] 51) = W at *
    refine wp_region_held_drew (S := OwnR w 51 4) (by kernel_rfl) hOR'.drew (fun hS => ?_)
    refine held_pure (i := 0) (oi := ⟨some 23, _, _, _, _, _⟩) rfl (by kernel_rfl) (by kernel_rfl) (by kernel_rfl) (fun _ _ _ h => h) (by rfl) (v := ?_) (fun w hSw => ?_) hS (fun hS => ?_)
    rotate_left
    · go_simp; try with_reducible rfl
    try go_frame
    refine held_pure (i := 1) (oi := ⟨some 24, _, _, _, _, _⟩) rfl (by kernel_rfl) (by kernel_rfl) (by kernel_rfl) (fun _ _ _ h => h) (by rfl) (v := .pointer (some ⟨b0, off, none⟩)) (fun w hSw => by go_simp; exact fun hx => absurd (congrArg List.length hx) (by rw [List.length_nil]; omega)) hS (fun hS => ?_)
    try go_frame
    refine held_pure (i := 2) (oi := ⟨some 25, _, _, _, _, _⟩) rfl (by kernel_rfl) (by kernel_rfl) (by kernel_rfl) (fun _ _ _ h => h) (by rfl) (fun w hSw => run_load_byte rfl rfl ((hSw.b.cell hb0).trans kc)) hS (fun hS => ?_)
    try go_frame
    refine held_pure (i := 3) (oi := ⟨some 26, _, _, _, _, _⟩) rfl (by kernel_rfl) (by kernel_rfl) (by kernel_rfl) (fun _ _ _ h => h) (by rfl) (v := .int .i64 (byt b 0)) (fun w hSw => by go_simp; exact E0.out) hS (fun hS => ?_)
    try go_frame
    refine held_pure (i := 4) (oi := ⟨some 27, _, _, _, _, _⟩) rfl (by kernel_rfl) (by kernel_rfl) (by kernel_rfl) (fun _ _ _ h => h) (by rfl) (v := ?_) (fun w hSw => ?_) hS (fun hS => ?_)
    rotate_left
    · go_simp; try with_reducible rfl
    try go_frame
    refine held_pure (i := 5) (oi := ⟨some 28, _, _, _, _, _⟩) rfl (by kernel_rfl) (by kernel_rfl) (by kernel_rfl) (fun _ _ _ h => h) (by rfl) (v := ?_) (fun w hSw => ?_) hS (fun hS => ?_)
    rotate_left
    · go_simp; try with_reducible rfl
    try go_frame
    refine held_pure (i := 6) (oi := ⟨some 29, _, _, _, _, _⟩) rfl (by kernel_rfl) (by kernel_rfl) (by kernel_rfl) (fun _ _ _ h => h) (by rfl) (v := .int .i64 (F / 8 * 8)) (fun w hSw => by go_simp; exact EQ.out) hS (fun hS => ?_)
    try go_frame
    refine held_pure (i := 7) (oi := ⟨some 30, _, _, _, _, _⟩) rfl (by kernel_rfl) (by kernel_rfl) (by kernel_rfl) (fun _ _ _ h => h) (by rfl) (v := ?_) (fun w hSw => ?_) hS (fun hS => ?_)
    rotate_left
    · go_simp; try with_reducible rfl
    try go_frame
    refine held_pure (i := 8) (oi := ⟨some 31, _, _, _, _, _⟩) rfl (by kernel_rfl) (by kernel_rfl) (by kernel_rfl) (fun _ _ _ h => h) (by rfl) (v := ?_) (fun w hSw => ?_) hS (fun hS => ?_)
    rotate_left
    · go_simp; try with_reducible rfl
    try go_frame
    refine held_pure (i := 9) (oi := ⟨some 32, _, _, _, _, _⟩) rfl (by kernel_rfl) (by kernel_rfl) (by kernel_rfl) (fun _ _ _ h => h) (by rfl) (v := ?_) (fun w hSw => ?_) hS (fun hS => ?_)
    rotate_left
    · go_simp; try with_reducible rfl
    try go_frame
    refine held_pure (i := 10) (oi := ⟨some 33, _, _, _, _, _⟩) rfl (by kernel_rfl) (by kernel_rfl) (by kernel_rfl) (fun _ _ _ h => h) (by rfl) (v := .bool (decide (F % 2 = 1))) (fun w hSw => by go_simp; exact HN.out) hS (fun hS => ?_)
    try go_frame
    refine held_pure (i := 11) (oi := ⟨some 34, _, _, _, _, _⟩) rfl (by kernel_rfl) (by kernel_rfl) (by kernel_rfl) (fun _ _ _ h => h) (by rfl) (v := .agg (fra (rawF b))) (fun w hSw => by go_simp; exact HA.out) hS (fun hS => ?_)
    try go_frame
    refine held_pure (i := 12) (oi := ⟨some 35, _, _, _, _, _⟩) rfl (by kernel_rfl) (by kernel_rfl) (by kernel_rfl) (fun _ _ _ h => h) (by rfl) (v := ?_) (fun w hSw => ?_) hS (fun hS => ?_)
    rotate_left
    · go_simp; try with_reducible rfl
    try go_frame
    refine held_pure (i := 13) (oi := ⟨some 36, _, _, _, _, _⟩) rfl (by kernel_rfl) (by kernel_rfl) (by kernel_rfl) (fun _ _ _ h => h) (by rfl) (fun w hSw => run_cut_l rfl rfl (l := 8) rfl (by omega) HDl.out) hS (fun hS => ?_)
    try go_frame
    refine wpAnyH_ready (rs := [14]) (by kernel_rfl) (by simp) (AllReadyH.cons (o := ⟨some 37, _, _, _, _, _⟩) rfl (fun K hK => ?_) AllReadyH.nil)
    rw [if_pos (by rfl)]
    have y14 := hS
    refine append_wp _ _ rfl (w.heap.size + 1) (.slice none 0 0) 0 [] rfl (World.ownsRow_nil _ _ _ _) B _ (c - 8) D rfl (hRD.below (hS.b.mono hB)).none_ (hRD.below (hS.b.mono hB)).rd (by have := HDl.out; omega) hS.lt ?_
    intro v14 w14 own14 grow14
    obtain ⟨A14, c14, rfl, owm14⟩ := own_made (bs := D) own14 (by simp) (by simp)
    refine hK.out _ _ (hS.step ((Below.refl _ _).grown grow14 (Nat.le_refl _) (fun k hk => by cases hk))) (fun hS => ?_)
    clear hK K
    try go_frame
    refine wpAnyH_ready (rs := [15]) (by kernel_rfl) (by simp) (AllReadyH.cons (o := ⟨none, _, _, _, _, _⟩) rfl (fun K hK => ?_) AllReadyH.nil)
    rw [if_pos (by rfl)]
    obtain ⟨old, ho4, hgo⟩ := hS.2
    refine wp_store_row 51 _ _ rfl w.heap.size (fra (rawF b)) rfl rfl 51 old hgo (by kernel_rfl) ho4 (by simp [fra, Value.oneCell']) ?_
    have hgz := setRow_heap _ _ _ (fra (rawF b)) _ _ hgo
    refine hK.out _ _ (hS.row _ rfl) (fun hS => ?_)
    clear hK K
    try go_frame
    refine held_pure (i := 16) (oi := ⟨some 3, _, _, _, _, _⟩) rfl (by kernel_rfl) (by kernel_rfl) (by kernel_rfl) (fun _ _ _ h => h) (by rfl) (v := ?_) (fun w hSw => ?_) hS (fun hS => ?_)
    rotate_left
    · go_simp; try with_reducible rfl
    try go_frame
    refine held_pure (i := 17) (oi := ⟨some 4, _, _, _, _, _⟩) rfl (by kernel_rfl) (by kernel_rfl) (by kernel_rfl) (fun _ _ _ h => h) (by rfl) (v := ?_) (fun w hSw => ?_) hS (fun hS => ?_)
    rotate_left
    · go_simp; try with_reducible rfl
    try go_frame
    refine wpAnyH_done (by kernel_rfl) ?_ _
    go_wp2_with fail
    have mm : Made w _ (.slice A14 D.length c14) D := Made.of_own (own_base (own_setRow (g := w.heap.size) (cs := fra (rawF b)) owm14 (Nat.lt_succ_self _)) (Nat.le_succ _)) hS.b
    exact bodyPost_ret (res3 rfl rfl (run_loadVar_row _ _ _ 51 _ _ _ hgz Try.underlying51 rfl (by kernel_rfl))) rfl ⟨.slice A14 D.length c14, by rw [HE1.out, HE3.out]; rfl, by rw [HE2.out]; exact (show Made w _ _ (b.drop 8) from HD.out ▸ mm)⟩
end Go.Proofs.Ytcebobcakiljhaa

/-
  Packets of IPv6 as elements of a slice: their cells, what their lists own; contract of cut6's fragment. Conditions are each theorem's own.
-/
namespace Go.Proofs.Ytcebobcakiljhaa
open Go.RowKit Go.Shelf

def ok6 (q : P6) : Prop := q.src.length = 16 ∧ q.dst.length = 16
structure X6 where
  q : P6
  A : Option Addr
  c : Nat
  h6 : ok6 q
def cl6 (x : X6) : List Value := v6l x.q x.A x.c
theorem cl6_len {x : X6} (h : ok6 x.q) : (cl6 x).length = 37 := v6l_len h.1 h.2
theorem cl6_one (x : X6) : ∀ u ∈ cl6 x, u.oneCell' = true := fun u hu => by
  have h := Array.all_eq_true_iff_forall_mem.1 (v6a_one x.q x.A x.c) u (by simpa [v6a, cl6] using hu)
  exact h
theorem v6v_eq (q : P6) (A : Option Addr) (c : Nat) : v6v q A c = .agg (v6a q A c) := rfl
theorem v6a_size {q : P6} {A : Option Addr} {c : Nat} (h : ok6 q) : (v6a q A c).size = 37 := by rw [v6a, List.size_toArray]; exact v6l_len h.1 h.2
theorem at6_of {W : World} {g : Nat} {q : P6} {A : Option Addr} {c : Nat} (h : W.heap[g]? = some (.cells (v6a q A c) 45 (0, 0))) : At6 W g q A c := At6.of_heap h rfl
/-- Its list is a row of the call's own. -/
def Own6 (W : World) (base : Nat) (x : X6) : Prop := ok6 x.q ∧ W.ownsRow base 5 1 (.slice x.A x.q.dat.length x.c) x.q.dat.length (row x.q.dat)
section
variable {W V : World} {base : Nat} {x : X6}
theorem Own6.below (h : Own6 W base x) (hb : Below W.heap.size W V) : Own6 V base x := ⟨h.1, own_below h.2 hb⟩
theorem Own6.base_ {base' : Nat} (h : Own6 W base' x) (hb : base ≤ base') : Own6 W base x := ⟨h.1, own_base h.2 hb⟩
theorem Own6.arg (h : Own6 W base x) : Arg W W.heap.size x.A x.c x.q.dat := arg_own h.2
theorem Own6.keep {e t sz : Nat} (h : Own6 W base x) (k : KeepS e t sz W V) (h1 : 5 ≠ t) (h2 : 5 ≠ e) : Own6 V base x := ⟨h.1, k.own h.2 h1 h2⟩
theorem Own6.loop {l : Nat} {r r' : Loop} (h : Own6 W base x) (hl : W.heap[l]? = some (.loop r)) : Own6 (W.putObj l (.loop r')) base x := ⟨h.1, ownsRow_putObj h.2 _ hl rfl⟩
theorem Own6.turn {r : Option Nat} (h : Own6 W base x) (hg : W.grownBy V r) (hr : ∀ k, r = some k → ∃ o : Obj, W.heap[k]? = some o ∧ o.isCells = false) : Own6 V base x := by
  refine ⟨h.1, h.2.kept hg ?_⟩
  rcases h.2.2 with ⟨e, _⟩ | ⟨g, cap, cur, e, _, hgb, _⟩
  · exact .inl (by rw [e]; rfl)
  · refine .inr fun e' => ?_
    rw [e] at e'
    obtain ⟨o, ho, hc⟩ := hr g (by simpa [Value.ownBlock] using e'.symm)
    rw [hgb] at ho; cases ho; cases hc
end
theorem concat_pair (A : Option Addr) (a b : List UInt8) (c B : Nat) (R : List UInt8) (hR : Hid (R = a ++ b)) (w : World) (h : Rd2 w B A [a, b]) (hB : B ≤ w.heap.size) (h0 : 0 < a.length) (hl : a.length + b.length ≤ 1000000) :
    Calls Try.prog 72 #[.slice A 2 c] w fun e w' => ∃ v, e = .returned v ∧ Made w w' v R := by
  have h1 := concat_any A [a, b] c B w h hB (by rw [bulk2]; omega) (by rw [bulk2]; omega) (by simp) (by simp)
  have e : [a, b].flatten = R := by rw [hR.out]; simp
  rw [e] at h1
  exact h1
theorem load_frag {o : Oper} {a : Act} {w : World} {x : Operand} {g : Nat} {f : F6} (ho : o.op = .load 51 x) (hx : a.eval x = .pointer (some ⟨g, 0, none⟩)) (hr : AtF w g f) :
    (execOp a.eval o).run Try.prog w = .ok (.value (frv f)) w := by
  have h := run_loadVar_mid (P := Try.prog) w g 0 51 (fra f).toList _ hr Try.underlying51 rfl (by kernel_rfl)
  unfold execOp
  simp only [ho, hx, Instr.loadAt, Instr.sureAddr, Sem.run_bind, Sem.run_pure, Result.andThen_ok, h]
  rfl
theorem atF_of {W : World} {g : Nat} {f : F6} (h : W.heap[g]? = some (.cells (fra f) 51 (0, 0))) : AtF W g f := fun j v hj => by
  rw [Nat.zero_add, cell_of_row _ _ _ _ _ _ h, ← Array.getElem?_toList]; exact hj
theorem v6_result {fn : Func} {p : Tmp} {tmps : Array Value} {w : World} {g : Nat} {t : TypeId} {cs : Array Value} {fr : Nat × Nat} (h : fn.results = #[.cell p 45])
    (hp : tmps.getD p undef = .pointer (some ⟨g, 0, none⟩)) (hg : w.heap[g]? = some (.cells cs t fr)) (hl : cs.size = 37) : (results fn tmps).run Try.prog w = .ok (.agg cs) w :=
  results_cell_row h tmps w g t cs fr _ hp hg Try.underlying45 rfl (by rw [hl]; kernel_rfl)
theorem set_next (q : P6) (A : Option Addr) (c : Nat) (n : Int) : (v6a q A c).setIfInBounds 2 (.int .i64 n) = v6a { q with next := n } A c := by
  rw [v6a, v6a, List.setIfInBounds_toArray]; rfl
set_option maxRecDepth 100000 in
set_option maxHeartbeats 1000000 in
theorem c14fragment (q : P6) (A : Option Addr) (c : Nat) (f : F6) (D : Option Addr) (d : Nat) (dat : List UInt8) (n : Nat) (w : World) (B : Nat) (hn : Hid (dat.length = n)) (h6 : ok6 q) (hk : okF f) (hD : Arg w B D d dat) (hB0 : B ≤ w.heap.size) (hl : n ≤ 900000) :
    Calls Try.prog 63 #[v6v q A c, frv f, .slice D n d] w fun e w' => ∃ P p, e = .returned (v6v { q with next := 44, dat := bldF f ++ dat } P p) ∧ Own6 w' w.heap.size ⟨{ q with next := 44, dat := bldF f ++ dat }, P, p, h6⟩ ∧ Below w.heap.size w w' := by
  have hte : 45 ≠ 5 := nat_ne (by kernel_rfl)
  have hB : Below w.heap.size w (((w.alloc (.cells (v6a q A c) 45)).alloc (.cells (fra f) 51)).alloc (.cells #[.int .i64 0, .int .i64 0, .int .i64 0, .int .i64 0, .int .u8 0, .int .u8 0, .int .u8 0, .int .u8 0, .int .u8 0, .int .u8 0, .int .u8 0, .int .u8 0, .int .u8 0, .int .u8 0, .int .u8 0, .int .u8 0, .int .u8 0, .int .u8 0, .int .u8 0, .int .u8 0, .int .u8 0, .int .u8 0, .int .u8 0, .int .u8 0, .int .u8 0, .int .u8 0, .int .u8 0, .int .u8 0, .int .u8 0, .int .u8 0, .int .u8 0, .int .u8 0, .int .u8 0, .int .u8 0, .int .u8 0, .int .u8 0, .slice none 0 0] 45)) := (((Below.refl w.heap.size w).alloc (Nat.le_refl _) _).alloc (by simp) _).alloc (by simp; omega) _
  have s1 : (w.alloc (.cells (v6a q A c) 45)).heap.size = w.heap.size + 1 := by simp
  have s2 : ((w.alloc (.cells (v6a q A c) 45)).alloc (.cells (fra f) 51)).heap.size = w.heap.size + 2 := by simp
  have hU0 : (((w.alloc (.cells (v6a q A c) 45)).alloc (.cells (fra f) 51)).alloc (.cells #[.int .i64 0, .int .i64 0, .int .i64 0, .int .i64 0, .int .u8 0, .int .u8 0, .int .u8 0, .int .u8 0, .int .u8 0, .int .u8 0, .int .u8 0, .int .u8 0, .int .u8 0, .int .u8 0, .int .u8 0, .int .u8 0, .int .u8 0, .int .u8 0, .int .u8 0, .int .u8 0, .int .u8 0, .int .u8 0, .int .u8 0, .int .u8 0, .int .u8 0, .int .u8 0, .int .u8 0, .int .u8 0, .int .u8 0, .int .u8 0, .int .u8 0, .int .u8 0, .int .u8 0, .int .u8 0, .int .u8 0, .int .u8 0, .slice none 0 0] 45)).heap[w.heap.size]? = some (.cells (v6a q A c) 45 (0, 0)) :=
    (Below.heap_alloc ((w.alloc (.cells (v6a q A c) 45)).alloc (.cells (fra f) 51)) _ w.heap.size (by omega)).trans ((Below.heap_alloc (w.alloc (.cells (v6a q A c) 45)) _ w.heap.size (by omega)).trans (World.alloc_heap_new w _))
  have hF0 : (((w.alloc (.cells (v6a q A c) 45)).alloc (.cells (fra f) 51)).alloc (.cells #[.int .i64 0, .int .i64 0, .int .i64 0, .int .i64 0, .int .u8 0, .int .u8 0, .int .u8 0, .int .u8 0, .int .u8 0, .int .u8 0, .int .u8 0, .int .u8 0, .int .u8 0, .int .u8 0, .int .u8 0, .int .u8 0, .int .u8 0, .int .u8 0, .int .u8 0, .int .u8 0, .int .u8 0, .int .u8 0, .int .u8 0, .int .u8 0, .int .u8 0, .int .u8 0, .int .u8 0, .int .u8 0, .int .u8 0, .int .u8 0, .int .u8 0, .int .u8 0, .int .u8 0, .int .u8 0, .int .u8 0, .int .u8 0, .slice none 0 0] 45)).heap[w.heap.size + 1]? = some (.cells (fra f) 51 (0, 0)) := by
    have := World.alloc_heap_new (w.alloc (.cells (v6a q A c) 45)) (.cells (fra f) 51)
    rw [s1] at this
    exact (Below.heap_alloc ((w.alloc (.cells (v6a q A c) 45)).alloc (.cells (fra f) 51)) _ (w.heap.size + 1) (by omega)).trans this
  have hR0 : ∃ old : Array Value, old.size = 37 ∧ (((w.alloc (.cells (v6a q A c) 45)).alloc (.cells (fra f) 51)).alloc (.cells #[.int .i64 0, .int .i64 0, .int .i64 0, .int .i64 0, .int .u8 0, .int .u8 0, .int .u8 0, .int .u8 0, .int .u8 0, .int .u8 0, .int .u8 0, .int .u8 0, .int .u8 0, .int .u8 0, .int .u8 0, .int .u8 0, .int .u8 0, .int .u8 0, .int .u8 0, .int .u8 0, .int .u8 0, .int .u8 0, .int .u8 0, .int .u8 0, .int .u8 0, .int .u8 0, .int .u8 0, .int .u8 0, .int .u8 0, .int .u8 0, .int .u8 0, .int .u8 0, .int .u8 0, .int .u8 0, .int .u8 0, .int .u8 0, .slice none 0 0] 45)).heap[w.heap.size + 2]? = some (.cells old 45 (0, 0)) := by
    have := World.alloc_heap_new ((w.alloc (.cells (v6a q A c) 45)).alloc (.cells (fra f) 51)) (.cells #[.int .i64 0, .int .i64 0, .int .i64 0, .int .i64 0, .int .u8 0, .int .u8 0, .int .u8 0, .int .u8 0, .int .u8 0, .int .u8 0, .int .u8 0, .int .u8 0, .int .u8 0, .int .u8 0, .int .u8 0, .int .u8 0, .int .u8 0, .int .u8 0, .int .u8 0, .int .u8 0, .int .u8 0, .int .u8 0, .int .u8 0, .int .u8 0, .int .u8 0, .int .u8 0, .int .u8 0, .int .u8 0, .int .u8 0, .int .u8 0, .int .u8 0, .int .u8 0, .int .u8 0, .int .u8 0, .int .u8 0, .int .u8 0, .slice none 0 0] 45)
    rw [s2] at this
    exact ⟨_, rfl, this⟩
  rw [v6v_eq]
  unfold frv
  rw [show #[Value.int .i64 f.next, .int .i64 f.off, .int .i64 f.id, .bool f.more] = fra f from rfl]
  go_enter Try.func63, Try.ntmps63
  go_upto_region 1 with fail
  clear s1 s2
  generalize ((w.alloc (.cells (v6a q A c) 45)).alloc (.cells (fra f) 51)).alloc (.cells #[.int .i64 0, .int .i64 0, .int .i64 0, .int .i64 0, .int .u8 0, .int .u8 0, .int .u8 0, .int .u8 0, .int .u8 0, .int .u8 0, .int .u8 0, .int .u8 0, .int .u8 0, .int .u8 0, .int .u8 0, .int .u8 0, .int .u8 0, .int .u8 0, .int .u8 0, .int .u8 0, .int .u8 0, .int .u8 0, .int .u8 0, .int .u8 0, .int .u8 0, .int .u8 0, .int .u8 0, .int .u8 0, .int .u8 0, .int .u8 0, .int .u8 0, .int .u8 0, .int .u8 0, .int .u8 0, .int .u8 0, .int .u8 0, .slice none 0 0] 45) = W at *
  obtain ⟨old, ho, hR0⟩ := hR0
  have hWz : w.heap.size + 2 < W.heap.size := heap_lt hR0
  have hAF := atF_of hF0
  have h8 : (bldF f).length = 8 := bldF_eight hk
  have hD1 := hD.below (hB.mono hB0)
  obtain ⟨H8, hH8⟩ : ∃ H, H = bldF f := ⟨_, rfl⟩
  obtain ⟨R, hR⟩ : ∃ R, R = H8 ++ dat := ⟨_, rfl⟩
  have HR := Lib.hid hR
  have HH := Lib.hid hH8.symm
  rw [← hH8] at h8
  have H8l := Lib.hid h8
  have hRl : Hid (R.length = 8 + n) := Lib.hid (by rw [hR, List.length_append, h8, hn.out])
  clear hR hH8 h8
  go_upto_region 2 with (first
    | ((with_reducible show wpList _ _ _ (Oper.mk _ (Op.load 51 _) _ _ _ _ :: _) _ _); refine wpList_val rfl (load_frag rfl rfl hAF) ?_)
    | (go_at_call 71; refine (c6bfrag f W).mono ?_; rintro e V2 ⟨v2, rfl, m2⟩; rw [HH.out] at m2; obtain ⟨P2, p2, rfl, g2, o2, y2⟩ := made_shape m2))
  have hz2 := y2.size
  have hD2 := hD1.below (y2.mono (by omega))
  have hU2 := (y2.block w.heap.size (by omega)).trans hU0
  have hR2 := (y2.block (w.heap.size + 2) hWz).trans hR0
  have hB2 := hB.trans (y2.mono (by omega))
  have hBz : B ≤ V2.heap.size := by omega
  clear hU0 hR0 hF0 hAF o2 m2 y2 hD1 hB
  go_upto_region 3 with (go_at_call 72; refine (concat_pair (some ⟨V2.heap.size, 0, none⟩) H8 dat 2 (V2.heap.size + 1) R HR _ (Rd2.two rfl hn.out.symm (World.alloc_heap_new V2 _) (Nat.lt_succ_self _) ((g2.alloc (Nat.le_refl _) _).more (Nat.le_succ _)) ((hD2.alloc hBz _).more (by omega))) (by simp) (by rw [H8l.out]; decide) (by rw [H8l.out, hn.out]; omega)).mono ?_; rintro e w4 ⟨v4, rfl, m4⟩; obtain ⟨P4, p4, rfl, g4, o4, y4⟩ := made_shape m4; have x4 : Below V2.heap.size V2 w4 := ((Below.refl _ V2).alloc (Nat.le_refl _) _).trans (y4.mono (by simp)); have hU4 := (x4.block w.heap.size (by omega)).trans hU2; have c2 := (at6_of hU4).next; have f2 := heap_frozen hU4 2; have c36 := (at6_of hU4).dat h6.1 h6.2; have f36 := heap_frozen hU4 36)
  have hR4 := (x4.block (w.heap.size + 2) (by omega)).trans hR2
  have hz4 := x4.size
  have o4' := own_base (base := w.heap.size) o4 (by simp; omega)
  have hU5 := heap_setCell_same w4 w.heap.size 2 _ _ (.int .i64 44) hU4
  rw [set_next] at hU5
  have hU6 := heap_setCell_same _ w.heap.size 36 _ _ (.slice P4 R.length p4) hU5
  rw [set_dat { q with next := 44 } A P4 c p4 R h6.1 h6.2] at hU6
  have hR6 := (heap_setCell_other (w4.setCell ⟨w.heap.size, 2, none⟩ (.int .i64 44)) ⟨w.heap.size, 36, none⟩ (w.heap.size + 2) (.slice P4 R.length p4) (by show w.heap.size + 2 ≠ w.heap.size; omega)).trans ((heap_setCell_other w4 ⟨w.heap.size, 2, none⟩ (w.heap.size + 2) (.int .i64 44) (by show w.heap.size + 2 ≠ w.heap.size; omega)).trans hR4)
  have o6 := own_setCellB (i := 36) (u := .slice P4 R.length p4) (own_setCellB (i := 2) (u := .int .i64 44) o4' hU4 hte) hU5 hte
  have hB6 := ((hB2.trans (x4.mono (by omega))).setCell (p := ⟨w.heap.size, 2, none⟩) (Nat.le_refl _) (.int .i64 44)).setCell (p := ⟨w.heap.size, 36, none⟩) (Nat.le_refl _) (.slice P4 R.length p4)
  clear hU4 hU5 hR4 c2 c36 f2 f36 o4 o4' hB2 g4 m4 y4 x4
  generalize (w4.setCell ⟨w.heap.size, 2, none⟩ (.int .i64 44)).setCell ⟨w.heap.size, 36, none⟩ (.slice P4 R.length p4) = V6 at *
  have hq6 : ok6 ({ q with next := 44, dat := R } : P6) := h6
  have hU7 : V6.heap[w.heap.size]? = some (.cells (v6a { q with next := 44, dat := R } P4 p4) 45 (0, 0)) := hU6
  have at6 := at6_of hU7
  go_wp2_with (first
    | ((with_reducible show wpList _ _ _ (Oper.mk _ (Op.load 45 _) _ _ _ _ :: _) _ _); refine wpList_val rfl (run_load_v6 rfl rfl at6 (v6l_len hq6.1 hq6.2)) ?_)
    | ((with_reducible show wpList _ _ _ (Oper.mk _ (Op.store 45 _ _) _ _ _ _ :: _) _ _); refine v6_store (g := w.heap.size + 2) (cs := v6a { q with next := 44, dat := R } P4 p4) rfl rfl hR6 ho (v6a_size hq6) (v6a_one _ _ _) ?_))
  have o7 := own_setRowB (cs' := v6a { q with next := 44, dat := R } P4 p4) o6 hR6 hte
  rw [show bldF f ++ dat = R by rw [HR.out, HH.out]]
  exact bodyPost_ret (v6_result rfl rfl (setRow_heap _ _ _ _ _ _ hR6) (v6a_size hq6)) rfl ⟨P4, p4, rfl, ⟨hq6, o7⟩, below_row hB6 (by omega)⟩
end Go.Proofs.Ytcebobcakiljhaa

/-
  The iterator of cut6's fragments. Conditions are each theorem's own.
-/
namespace Go.Proofs.Ytcebobcakiljhaa
open Go.RowKit Go.Shelf
attribute [local go_sem] Oper.semAt_some

theorem run_storeF {o : Oper} {a : Act} {w : World} {x y : Operand} {g : Nat} {t : TypeId} {cs old : Array Value} (ho : o.op = .store 51 x y) (hx : a.eval x = .pointer (some ⟨g, 0, none⟩)) (hy : a.eval y = .agg cs) (hg : w.heap[g]? = some (.cells old t (0, 0))) (hz : old.size = 4) (hl : cs.size = 4) (h1 : cs.all (·.oneCell') = true) :
    (execOp a.eval o).run Try.prog w = .ok .skip (w.setRow g cs) := by
  have hst := run_storeVar_row (P := Try.prog) w g t 51 old cs hg (by rw [hl]; kernel_rfl) (by rw [hz, hl]) h1
  unfold execOp
  simp only [ho, hx, hy, Instr.storeAt, Instr.sureAddr, Sem.run_bind, Sem.run_pure, Result.andThen_ok, hst]
theorem fra_one (f : F6) : (fra f).all (·.oneCell') = true := by simp [fra, Value.oneCell']
theorem own_lt {w : World} {base e n : Nat} {v : Value} {xs : List Value} (h : w.ownsRow base e 1 v n xs) (hn : 0 < n) : base < w.heap.size := by
  rcases h.2 with ⟨_, h0⟩ | ⟨g, cap, cur, _, hb, hh, _⟩
  · omega
  · exact Nat.lt_of_le_of_lt hb (heap_lt hh)
def Kp6 (B : Nat) (X Y : World) : Prop := KeepS 45 46 37 X Y ∧ KeepP (· < B) X Y
theorem Kp6.refl (B : Nat) (X : World) : Kp6 B X X := ⟨KeepS.refl X, KeepP.refl _ X⟩
theorem Kp6.trans {B : Nat} {X Y Z : World} (h : Kp6 B X Y) (k : Kp6 B Y Z) : Kp6 B X Z := ⟨h.1.trans k.1, h.2.trans k.2⟩
theorem Kp6.of_below {B : Nat} {X Y : World} (h : Below X.heap.size X Y) (hB : B ≤ X.heap.size) : Kp6 B X Y := ⟨KeepS.of_below h, KeepP.of_below h (fun _ hk => Nat.lt_of_lt_of_le hk hB)⟩
theorem Kp6.arg {B : Nat} {X Y : World} {A : Option Addr} {c : Nat} {bs : List UInt8} (k : Kp6 B X Y) (h : Arg X B A c bs) : Arg Y B A c bs := ⟨h.rd.keep (fun _ hp => k.2.cell hp), h.cap, h.none_⟩
def enc6 (x : X6) : Array Value := #[v6v x.q x.A x.c]
/-- What is known of a fragment when it comes. -/
def G6 (L : List P6) (base : Nat) (pre : List X6) (x : X6) (W : World) : Prop := (∃ more, L = pre.map (·.q) ++ x.q :: more) ∧ Own6 W base x
/-- Where the iterator stands. -/
def offV (v : Value) : Nat := match v with | .int _ n => n.toNat | _ => 0
set_option maxRecDepth 100000 in
set_option maxHeartbeats 4000000 in
theorem frs6_in (m : Nat) (l Bp Br Bi Bs base B : Nat) (q : P6) (A : Option Addr) (c : Nat) (id mtu : Int) (hcut : Cut6 q id mtu) (h6 : ok6 q) (J : List X6 → World → Prop) (W : World)
    (hD : Arg W B A c q.dat) (hBb : B ≤ base) (hbW : base ≤ W.heap.size) (hp : W.heap[Bp]? = some (.cells (v6a q A c) 45 (0, 0))) (hrb : Boxed W Br 3 (.int .i64 (mtu - 48))) (hib : Boxed W Bi 3 (.int .i64 id)) (hsb : Boxed W Bs 3 (.int .i64 (st6 mtu))) (hJA : StaysAt 45 W.heap.size J)
    (hY : ∀ pre x X, J pre X → G6 (rst6 q id mtu 0) base pre x X → W.heap.size < X.heap.size → YieldAt Fence.wide (m - 1) Try.prog l (enc6 x) X fun e Y => e = .returned (.bool true) ∧ J (pre ++ [x]) Y ∧ Kp6 B X Y) (hJ : J [] W) :
    CallsIn Fence.wide m Try.prog 62 #[.func (.yield l) #[] #[], .pointer (some ⟨Bp, 0, none⟩), .pointer (some ⟨Br, 0, none⟩), .pointer (some ⟨Bi, 0, none⟩), .pointer (some ⟨Bs, 0, none⟩)] W fun e W' => (∃ v, e = .returned v) ∧ ∃ xs : List X6, xs.map (·.q) = rst6 q id mtu 0 ∧ J xs W' := by
  have hTt : 45 ≠ 46 := nat_ne (by kernel_rfl)
  have hTi : 3 ≠ 46 := nat_ne (by kernel_rfl)
  have hFt : 51 ≠ 46 := nat_ne (by kernel_rfl)
  have hcs : (v6a q A c).size ≤ 37 := Nat.le_of_eq (v6a_size h6)
  have hfc : ∀ f, (fra f).size ≤ 37 := fun f => by simp [fra]
  have hIb : 3 = 45 → 1 ≤ 37 := fun _ => by decide
  obtain ⟨L, hL⟩ : ∃ L, L = rst6 q id mtu 0 := ⟨_, rfl⟩
  rw [← hL] at hY ⊢
  have HL0 := Lib.hid hL
  have HCU := Lib.hid hcut
  obtain ⟨lo, hi, id0, id1, n0, n1, hlen⟩ := hcut
  obtain ⟨R, hR⟩ : ∃ R, R = mtu - 48 := ⟨_, rfl⟩
  have HRR := Lib.hid hR
  have hRb : 1232 ≤ R ∧ R ≤ 65487 := by omega
  rw [← hR] at hrb
  have hst := st6_bd lo
  obtain ⟨z, hz⟩ : ∃ z, z = (st6 mtu).toNat := ⟨_, rfl⟩
  have hzi : st6 mtu = (z : Int) := by omega
  have hzb : 8 ≤ z ∧ (z : Int) ≤ R ∧ z % 8 = 0 := by omega
  rw [hzi] at hsb
  have HZ := Lib.hid hz
  have hcapD := hD.cap
  clear hR hst hz hzi hL lo hi
  refine callsIn_of_wp Try.func62 rfl trivial ?_ rfl
  simp only [Try.ntmps62, List.size_toArray, List.length_cons, List.length_nil, Nat.reduceAdd, Nat.reduceSub, Array.replicate_succ, Array.replicate_zero, List.push_toArray, List.append_toArray, List.nil_append, List.cons_append]
  gi_wp2
  gi_loopw [6] (fun t wr => ∃ (off : Nat) (pre : List X6), t = .int .i64 (off : Int) ∧ Hid (L = pre.map (·.q) ++ rst6 q id mtu off) ∧ off ≤ q.dat.length ∧ off % 8 = 0 ∧ J pre wr ∧ Kp6 B W wr)
    (fun t _ => q.dat.length - offV t)
  case atStart => exact ⟨0, [], rfl, HL0, Nat.zero_le _, rfl, hJ, Kp6.refl _ _⟩
  case round =>
    obtain ⟨off, pre, rfl, HL, hoff, ho8, hJs, hK⟩ := hrel
    have hJA' : StaysAt 45 W.heap.size J := hJA
    have hpw := hK.1.heap hp hTt hcs
    have hrw := hK.1.box hrb hTi hIb
    have hiw := hK.1.box hib hTi hIb
    have hsw := hK.1.box hsb hTi hIb
    have k36 := (at6_of hpw).dat h6.1 h6.2
    have k2 := (at6_of hpw).next
    have kr := hrw.cell
    have ki := hiw.cell
    have hwz := hK.1.size
    have hDw := hK.arg hD
    by_cases hs : (q.dat.length : Int) - (off : Int) > mtu - 48
    · have HS := Lib.hid hs
      have d1 : decide (R < (q.dat.length : Int) - (off : Int)) = true := by rw [HRR.out]; simpa using hs
      have d2 : decide ((q.dat.length : Int) - (off : Int) > R) = true := by rw [HRR.out]; simpa using hs
      have hzo : off + z ≤ q.dat.length := by have := HRR.out; omega
      have hzlt : off + z < q.dat.length := by have := HRR.out; omega
      clear hs
      obtain ⟨F1, hF1⟩ : ∃ F1, F1 = fh6 q id off true := ⟨_, rfl⟩
      have HF := Lib.hid hF1.symm
      have HOK : Hid (okF F1) := Lib.hid (by rw [hF1]; exact okF_at HCU.out true hoff ho8)
      obtain ⟨DZ, hDZ⟩ : ∃ DZ, DZ = (q.dat.drop off).take z := ⟨_, rfl⟩
      have HDZ : Hid (DZ.length = z) := Lib.hid (by rw [hDZ, List.length_take, List.length_drop]; omega)
      have HRS := Lib.hid (rst6_more (id := id) HCU.out.lo HS.out)
      have HE : Hid (one6 q id off (st6 mtu).toNat true = { q with next := 44, dat := bldF F1 ++ DZ }) := Lib.hid (by rw [hDZ, hF1, HZ.out]; rfl)
      have NXT : Hid (∃ more, L = pre.map (·.q) ++ { q with next := 44, dat := bldF F1 ++ DZ } :: more) := Lib.hid ⟨_, by rw [HL.out, HRS.out, HE.out]⟩
      have HDD := Lib.hid hDZ
      have HW1 : Hid (IntKind.i64.wrap ((off : Int) + (z : Int)) = ((off + z : Nat) : Int)) := Lib.hid (by rw [IntWalk.i64_in _ (by omega)]; omega)
      have hfr : (#[.int .i64 q.next, .int .i64 (off : Int), .int .i64 id, .bool true] : Array Value) = fra F1 := by rw [hF1]; rfl
      clear hDZ hF1
      gi_upto_region 3 with ((with_reducible show wpListIn _ _ _ _ _ (Oper.mk _ (Op.store 51 _ _) _ _ _ _ :: _) _ _); refine listI_skip rfl (run_storeF (cs := fra F1) rfl rfl (by rw [← hfr]; rfl) (World.alloc_heap_new wr _) rfl rfl (fra_one _)) ?_; rw [World.setRow_alloc_new])
      have hfb := World.alloc_heap_new wr (.cells (fra F1) 51)
      have hX : Below wr.heap.size wr (wr.alloc (.cells (fra F1) 51)) := (Below.refl _ wr).alloc (Nat.le_refl _) _
      obtain ⟨w2, hw2⟩ : ∃ w2, w2 = wr.alloc (.cells (fra F1) 51) := ⟨_, rfl⟩
      rw [← hw2] at hfb hX ⊢
      clear hw2
      have hf2 := hfb
      obtain ⟨bf, hbf⟩ : ∃ b, b = wr.heap.size := ⟨_, rfl⟩
      rw [← hbf] at hf2 ⊢
      have hz2 := hX.size
      have hp2 := (hX.block Bp (heap_lt hpw)).trans hpw
      have hs2 := Boxed.below hsw hX (Boxed.lt hsw)
      have hJ2 := hJA' pre wr w2 none hJs (grown_none hX) (fun _ e => by cases e)
      have hK2 := hK.trans (Kp6.of_below hX (by omega))
      have hWw2 : W.heap.size ≤ w2.drew.heap.size := by show W.heap.size ≤ w2.heap.size; omega
      have hbase2 : base ≤ w2.drew.heap.size := by show base ≤ w2.heap.size; omega
      have hDZ2 : Arg w2 w2.heap.size (cutA A c off) (c - off) DZ := by
        have h1 := ((hDw.below (hX.mono (by omega))).more (show B ≤ w2.heap.size by omega)).cut off (off + z) hzo
        rwa [show (q.dat.take (off + z)).drop off = DZ by rw [HDD.out, List.drop_take, Nat.add_sub_cancel_left]] at h1
      clear hfb hbf k36 k2 kr ki hpw hrw hiw hsw hJs hX
      refine regionI (S := fun V => KeepS 45 46 37 w2 V) (by kernel_rfl) (KeepS.of_below (Below.refl _ w2).drew) (fun hS => ?_)
      refine pureI (i := 0) (oi := ⟨some 20, _, _, _, _, _⟩) rfl (by kernel_rfl) (by kernel_rfl) (by kernel_rfl) (fun _ _ _ h => h) (by rfl) (v := ?_) (fun w hSw => ?_) hS (fun hS => ?_)
      rotate_left
      · go_simp; try with_reducible rfl
      try go_frame
      refine pureI (i := 1) (oi := ⟨some 21, _, _, _, _, _⟩) rfl (by kernel_rfl) (by kernel_rfl) (by kernel_rfl) (fun _ _ _ h => h) (by rfl) (fun w hSw => run_load_v6 rfl rfl (at6_of (hSw.heap hp2 hTt hcs)) (v6l_len h6.1 h6.2)) hS (fun hS => ?_)
      try go_frame
      refine pureI (i := 2) (oi := ⟨some 22, _, _, _, _, _⟩) rfl (by kernel_rfl) (by kernel_rfl) (by kernel_rfl) (fun _ _ _ h => h) (by rfl) (fun w hSw => load_frag rfl rfl (atF_of (hSw.heap hf2 hFt (hfc _)))) hS (fun hS => ?_)
      try go_frame
      refine pureI (i := 3) (oi := ⟨some 23, _, _, _, _, _⟩) rfl (by kernel_rfl) (by kernel_rfl) (by kernel_rfl) (fun _ _ _ h => h) (by rfl) (v := ?_) (fun w hSw => ?_) hS (fun hS => ?_)
      rotate_left
      · go_simp; try with_reducible rfl
      try go_frame
      refine pureI (i := 4) (oi := ⟨some 24, _, _, _, _, _⟩) rfl (by kernel_rfl) (by kernel_rfl) (by kernel_rfl) (fun _ _ _ h => h) (by rfl) (fun w hSw => run_load_sl rfl rfl ((at6_of (hSw.heap hp2 hTt hcs)).dat h6.1 h6.2)) hS (fun hS => ?_)
      try go_frame
      refine pureI (i := 5) (oi := ⟨some 25, _, _, _, _, _⟩) rfl (by kernel_rfl) (by kernel_rfl) (by kernel_rfl) (fun _ _ _ h => h) (by rfl) (v := ?_) (fun w hSw => ?_) hS (fun hS => ?_)
      rotate_left
      · go_simp; try with_reducible rfl
      try go_frame
      refine pureI (i := 6) (oi := ⟨some 26, _, _, _, _, _⟩) rfl (by kernel_rfl) (by kernel_rfl) (by kernel_rfl) (fun _ _ _ h => h) (by rfl) (v := ?_) (fun w hSw => ?_) hS (fun hS => ?_)
      rotate_left
      · go_simp; try with_reducible rfl
      try go_frame
      refine pureI (i := 7) (oi := ⟨some 27, _, _, _, _, _⟩) rfl (by kernel_rfl) (by kernel_rfl) (by kernel_rfl) (fun _ _ _ h => h) (by rfl) (fun w hSw => run_load_int rfl rfl (hSw.box hs2 hTi hIb).cell) hS (fun hS => ?_)
      try go_frame
      refine pureI (i := 8) (oi := ⟨some 28, _, _, _, _, _⟩) rfl (by kernel_rfl) (by kernel_rfl) (by kernel_rfl) (fun _ _ _ h => h) (by rfl) (v := .int .i64 ((off + z : Nat) : Int)) (fun w hSw => by go_simp; exact HW1.out) hS (fun hS => ?_)
      try go_frame
      refine pureI (i := 9) (oi := ⟨some 29, _, _, _, _, _⟩) rfl (by kernel_rfl) (by kernel_rfl) (by kernel_rfl) (fun _ _ _ h => h) (by rfl) (fun w hSw => run_cut_lh (l := (off : Int)) (h := ((off + z : Nat) : Int)) rfl rfl rfl rfl (by omega) (by omega) (by omega) (m := z) (by omega)) hS (fun hS => ?_)
      try go_frame
      refine oneI (i := 10) (oi := ⟨some 30, _, _, _, _, _⟩) (by kernel_rfl) rfl (by rfl) (fun K hK => ?_)
      refine callI (f := 63) (args := #[v6v q A c, frv F1, .slice (cutA A c off) z (c - off)]) (by go_simp; try rfl) ?_
      refine (c14fragment q A c F1 (cutA A c off) (c - off) DZ z _ w2.heap.size HDZ h6 HOK.out (hDZ2.below (Below.refl _ w2).drew) (Nat.le_refl _) (by omega)).mono ?_
      rintro e w6 ⟨P, p, rfl, own6, x6⟩
      refine ⟨_, rfl, hK _ _ (hS.trans (KeepS.of_below x6)) (fun hS => ?_)⟩
      clear hK K
      try go_frame
      refine oneI (i := 11) (oi := ⟨some 31, _, _, _, _, _⟩) (by kernel_rfl) rfl (by rfl) (fun K hK => ?_)
      refine yieldI (l := l) (args := enc6 ⟨{ q with next := 44, dat := bldF F1 ++ DZ }, P, p, h6⟩) (by go_simp; try rfl) (hY pre ⟨{ q with next := 44, dat := bldF F1 ++ DZ }, P, p, h6⟩ w6 (hJA' pre _ w6 none hJ2 (grown_none ((Below.refl _ w2).drew.trans x6)) (fun _ e => by cases e)) ⟨NXT.out, own6.base_ hbase2⟩ (Nat.lt_of_lt_of_le (Nat.lt_of_le_of_lt hWw2 (own_lt own6.2 (by show 0 < (bldF F1 ++ DZ).length; rw [List.length_append, bldF_eight HOK.out]; omega))) (Nat.le_refl _))) ?_
      rintro e W3 ⟨rfl, hJ3, hk3⟩
      refine ⟨_, rfl, hK _ _ (hS.trans hk3.1) (fun hS => ?_)⟩
      clear hK K
      try go_frame
      refine pureI (i := 12) (oi := ⟨some 32, _, _, _, _, _⟩) rfl (by kernel_rfl) (by kernel_rfl) (by kernel_rfl) (fun _ _ _ h => h) (by rfl) (v := ?_) (fun w hSw => ?_) hS (fun hS => ?_)
      rotate_left
      · go_simp; try with_reducible rfl
      try go_frame
      refine doneI (by kernel_rfl) ?_ _
      have hs3 := hS.box hs2 hTi hIb
      have ks3 := hs3.cell
      have hK36 : Kp6 B w2 W3 := ⟨hS, (KeepP.of_below ((Below.refl _ w2).drew.trans x6) (fun k hk => by show k < w2.heap.size; omega)).trans hk3.2⟩
      have hK3 := hK2.trans hK36
      have HO2 : Hid (((off : Int) + (z : Int)) = ((off + z : Nat) : Int)) := Lib.hid (by omega)
      clear hS hK36 hk3 own6 x6
      gi_wp2
      go_roundw
      case rel =>
        refine ⟨off + z, pre ++ [⟨{ q with next := 44, dat := bldF F1 ++ DZ }, P, p, h6⟩], ?_, Lib.hid ?_, hzo, by omega, hJ3, hK3⟩
        · first | rfl | (congr 1; omega) | simp
        · rw [HL.out, HRS.out, HE.out, ← HZ.out, List.map_append, List.append_assoc]; rfl
      case measure => simp [offV]; omega
    · have HS := Lib.hid hs
      have d1 : decide (R < (q.dat.length : Int) - (off : Int)) = false := by rw [HRR.out]; simpa using hs
      have d2 : decide ((q.dat.length : Int) - (off : Int) > R) = false := by rw [HRR.out]; simpa using hs
      clear hs
      obtain ⟨F1, hF1⟩ : ∃ F1, F1 = fh6 q id off false := ⟨_, rfl⟩
      have HF := Lib.hid hF1.symm
      have HOK : Hid (okF F1) := Lib.hid (by rw [hF1]; exact okF_at HCU.out false hoff ho8)
      obtain ⟨zl, hzl⟩ : ∃ zl, zl = q.dat.length - off := ⟨_, rfl⟩
      obtain ⟨DZ, hDZ⟩ : ∃ DZ, DZ = q.dat.drop off := ⟨_, rfl⟩
      have HDZ : Hid (DZ.length = zl) := Lib.hid (by rw [hDZ, List.length_drop, hzl])
      have HRS := Lib.hid (rst6_last (id := id) HS.out)
      have HE : Hid (one6 q id off (q.dat.length - off) false = { q with next := 44, dat := bldF F1 ++ DZ }) := Lib.hid (by rw [hDZ, hF1, one6, List.take_of_length_le (by rw [List.length_drop]; exact Nat.le_refl _)])
      have NXT : Hid (∃ more, L = pre.map (·.q) ++ { q with next := 44, dat := bldF F1 ++ DZ } :: more) := Lib.hid ⟨[], by rw [HL.out, HRS.out, HE.out]⟩
      have HDD := Lib.hid hDZ
      have hp2 := hpw
      have hi2 := hiw
      have hJ2 := hJs
      have hWw2 : W.heap.size ≤ wr.drew.heap.size := by show W.heap.size ≤ wr.heap.size; omega
      have hbase2 : base ≤ wr.drew.heap.size := by show base ≤ wr.heap.size; omega
      have hDZ2 : Arg wr wr.heap.size (cutA A c off) (c - off) DZ := by rw [HDD.out]; exact (hDw.more (by omega)).cut_lo off
      clear hDZ hF1
      gi_upto_region 5 with fail
      clear k36 k2 kr ki hpw hrw hiw hsw hJs
      rename_i _
      generalize wr = w2 at *
      refine regionI (S := fun V => KeepS 45 46 37 w2 V) (by kernel_rfl) (KeepS.of_below (Below.refl _ w2).drew) (fun hS => ?_)
      refine pureI (i := 0) (oi := ⟨some 36, _, _, _, _, _⟩) rfl (by kernel_rfl) (by kernel_rfl) (by kernel_rfl) (fun _ _ _ h => h) (by rfl) (v := ?_) (fun w hSw => ?_) hS (fun hS => ?_)
      rotate_left
      · go_simp; try with_reducible rfl
      try go_frame
      refine pureI (i := 1) (oi := ⟨some 37, _, _, _, _, _⟩) rfl (by kernel_rfl) (by kernel_rfl) (by kernel_rfl) (fun _ _ _ h => h) (by rfl) (fun w hSw => run_load_v6 rfl rfl (at6_of (hSw.heap hp2 hTt hcs)) (v6l_len h6.1 h6.2)) hS (fun hS => ?_)
      try go_frame
      refine pureI (i := 2) (oi := ⟨some 38, _, _, _, _, _⟩) rfl (by kernel_rfl) (by kernel_rfl) (by kernel_rfl) (fun _ _ _ h => h) (by rfl) (v := ?_) (fun w hSw => ?_) hS (fun hS => ?_)
      rotate_left
      · go_simp; try with_reducible rfl
      try go_frame
      refine pureI (i := 3) (oi := ⟨some 39, _, _, _, _, _⟩) rfl (by kernel_rfl) (by kernel_rfl) (by kernel_rfl) (fun _ _ _ h => h) (by rfl) (fun w hSw => run_load_int rfl rfl (at6_of (hSw.heap hp2 hTt hcs)).next) hS (fun hS => ?_)
      try go_frame
      refine pureI (i := 4) (oi := ⟨some 40, _, _, _, _, _⟩) rfl (by kernel_rfl) (by kernel_rfl) (by kernel_rfl) (fun _ _ _ h => h) (by rfl) (v := ?_) (fun w hSw => ?_) hS (fun hS => ?_)
      rotate_left
      · go_simp; try with_reducible rfl
      try go_frame
      refine pureI (i := 5) (oi := ⟨some 41, _, _, _, _, _⟩) rfl (by kernel_rfl) (by kernel_rfl) (by kernel_rfl) (fun _ _ _ h => h) (by rfl) (fun w hSw => run_load_int rfl rfl (hSw.box hi2 hTi hIb).cell) hS (fun hS => ?_)
      try go_frame
      refine pureI (i := 6) (oi := ⟨some 42, _, _, _, _, _⟩) rfl (by kernel_rfl) (by kernel_rfl) (by kernel_rfl) (fun _ _ _ h => h) (by rfl) (v := frv F1) (fun w hSw => by go_simp; rw [← HF.out]; rfl) hS (fun hS => ?_)
      try go_frame
      refine pureI (i := 7) (oi := ⟨some 43, _, _, _, _, _⟩) rfl (by kernel_rfl) (by kernel_rfl) (by kernel_rfl) (fun _ _ _ h => h) (by rfl) (v := ?_) (fun w hSw => ?_) hS (fun hS => ?_)
      rotate_left
      · go_simp; try with_reducible rfl
      try go_frame
      refine pureI (i := 8) (oi := ⟨some 44, _, _, _, _, _⟩) rfl (by kernel_rfl) (by kernel_rfl) (by kernel_rfl) (fun _ _ _ h => h) (by rfl) (fun w hSw => run_load_sl rfl rfl ((at6_of (hSw.heap hp2 hTt hcs)).dat h6.1 h6.2)) hS (fun hS => ?_)
      try go_frame
      refine pureI (i := 9) (oi := ⟨some 45, _, _, _, _, _⟩) rfl (by kernel_rfl) (by kernel_rfl) (by kernel_rfl) (fun _ _ _ h => h) (by rfl) (v := ?_) (fun w hSw => ?_) hS (fun hS => ?_)
      rotate_left
      · go_simp; try with_reducible rfl
      try go_frame
      refine pureI (i := 10) (oi := ⟨some 46, _, _, _, _, _⟩) rfl (by kernel_rfl) (by kernel_rfl) (by kernel_rfl) (fun _ _ _ h => h) (by rfl) (fun w hSw => run_cut_l rfl rfl (l := off) rfl (by omega) (m := zl) (by omega)) hS (fun hS => ?_)
      try go_frame
      refine oneI (i := 11) (oi := ⟨some 47, _, _, _, _, _⟩) (by kernel_rfl) rfl (by rfl) (fun K hK => ?_)
      refine callI (f := 63) (args := #[v6v q A c, frv F1, .slice (cutA A c off) zl (c - off)]) (by go_simp; try rfl) ?_
      refine (c14fragment q A c F1 (cutA A c off) (c - off) DZ zl _ w2.heap.size HDZ h6 HOK.out (hDZ2.below (Below.refl _ w2).drew) (Nat.le_refl _) (by omega)).mono ?_
      rintro e w6 ⟨P, p, rfl, own6, x6⟩
      refine ⟨_, rfl, hK _ _ (hS.trans (KeepS.of_below x6)) (fun hS => ?_)⟩
      clear hK K
      try go_frame
      refine oneI (i := 12) (oi := ⟨some 48, _, _, _, _, _⟩) (by kernel_rfl) rfl (by rfl) (fun K hK => ?_)
      refine yieldI (l := l) (args := enc6 ⟨{ q with next := 44, dat := bldF F1 ++ DZ }, P, p, h6⟩) (by go_simp; try rfl) (hY pre ⟨{ q with next := 44, dat := bldF F1 ++ DZ }, P, p, h6⟩ w6 (hJA' pre _ w6 none hJ2 (grown_none ((Below.refl _ w2).drew.trans x6)) (fun _ e => by cases e)) ⟨NXT.out, own6.base_ hbase2⟩ (Nat.lt_of_lt_of_le (Nat.lt_of_le_of_lt hWw2 (own_lt own6.2 (by show 0 < (bldF F1 ++ DZ).length; rw [List.length_append, bldF_eight HOK.out]; omega))) (Nat.le_refl _))) ?_
      rintro e W3 ⟨rfl, hJ3, hk3⟩
      refine ⟨_, rfl, hK _ _ (hS.trans hk3.1) (fun hS => ?_)⟩
      clear hK K
      try go_frame
      refine doneI (by kernel_rfl) ?_ _
      gi_wp2
      try rw [Exit.noGoto_normal]
      go_end0
      exact ⟨⟨_, rfl⟩, _, by rw [List.map_append, HL.out, HRS.out, HE.out]; rfl, hJ3⟩
end Go.Proofs.Ytcebobcakiljhaa

/-
  Contract of cut6's fragments. Conditions are each theorem's own.
-/
namespace Go.Proofs.Ytcebobcakiljhaa
open Go.RowKit Go.Shelf

set_option maxRecDepth 100000 in
theorem frags6_any (q : P6) (A : Option Addr) (c : Nat) (id mtu : Int) (base B : Nat) (w : World) (hcut : Cut6 q id mtu) (h6 : ok6 q) (hD : Arg w B A c q.dat) (hBb : B ≤ base) (hbw : base ≤ w.heap.size) :
    Calls Try.prog 45 #[v6v q A c, .int .i64 id, .int .i64 mtu] w fun e w' => ∃ Bp Br Bi Bs, e = .returned (.func (.func 62) #[] #[.pointer (some ⟨Bp, 0, none⟩), .pointer (some ⟨Br, 0, none⟩), .pointer (some ⟨Bi, 0, none⟩), .pointer (some ⟨Bs, 0, none⟩)]) ∧ Below w.heap.size w w' ∧
      (∀ m, 1 ≤ m → SeqAll m Try.prog 45 62 #[.pointer (some ⟨Bp, 0, none⟩), .pointer (some ⟨Br, 0, none⟩), .pointer (some ⟨Bi, 0, none⟩), .pointer (some ⟨Bs, 0, none⟩)] enc6 (G6 (rst6 q id mtu 0) base) (Kp6 B) (fun xs => xs.map (·.q) = rst6 q id mtu 0) w') := by
  rw [v6v_eq]
  have hlo := hcut.lo
  have hhi := hcut.hi
  have e1 : wrap64 (mtu - 48) = mtu - 48 := by unfold wrap64; omega
  have e2 : (mtu - 48).tmod 8 = (mtu - 48) % 8 := Int.tmod_eq_emod_of_nonneg (by omega)
  have e3 : wrap64 (mtu - 48 - (mtu - 48) % 8) = st6 mtu := by unfold wrap64 st6; omega
  have e4 : mtu - 48 - (mtu - 48) % 8 = st6 mtu := rfl
  go_enter Try.func45, Try.ntmps45
  go_wp2
  go_ret
  have b1 : Below w.heap.size w (w.alloc (.cells (v6a q A c) 45)) := (Below.refl _ w).alloc (Nat.le_refl _) _
  have n1 := World.alloc_heap_new w (.cells (v6a q A c) 45)
  have s1 : (w.alloc (.cells (v6a q A c) 45)).heap.size = w.heap.size + 1 := by simp
  generalize w.alloc (.cells (v6a q A c) 45) = W1 at *
  have b2 : Below W1.heap.size W1 (W1.alloc (.cells #[.int .i64 id] 3)) := (Below.refl _ _).alloc (Nat.le_refl _) _
  have n2 := Boxed.new W1 3 (.int .i64 id)
  have s2 : (W1.alloc (.cells #[.int .i64 id] 3)).heap.size = W1.heap.size + 1 := by simp
  generalize W1.alloc (.cells #[.int .i64 id] 3) = W2 at *
  have b3 : Below W2.heap.size W2 (W2.alloc (.cells #[.int .i64 (mtu - 48)] 3)) := (Below.refl _ _).alloc (Nat.le_refl _) _
  have n3 := Boxed.new W2 3 (.int .i64 (mtu - 48))
  have s3 : (W2.alloc (.cells #[.int .i64 (mtu - 48)] 3)).heap.size = W2.heap.size + 1 := by simp
  generalize W2.alloc (.cells #[.int .i64 (mtu - 48)] 3) = W3 at *
  have b4 : Below W3.heap.size W3 (W3.alloc (.cells #[.int .i64 (st6 mtu)] 3)) := (Below.refl _ _).alloc (Nat.le_refl _) _
  have n4 := Boxed.new W3 3 (.int .i64 (st6 mtu))
  have s4 : (W3.alloc (.cells #[.int .i64 (st6 mtu)] 3)).heap.size = W3.heap.size + 1 := by simp
  generalize W3.alloc (.cells #[.int .i64 (st6 mtu)] 3) = V at *
  have b14 := b1.trans ((b2.trans ((b3.trans (b4.mono (by omega))).mono (by omega))).mono (by omega))
  refine ⟨w.heap.size, w.heap.size + 1 + 1, w.heap.size + 1, w.heap.size + 1 + 1 + 1, rfl, b14, fun m hm l J W hW hJa hY hJ => ?_⟩
  have hWs := hW.size
  have p1 := (hW.block w.heap.size (by omega)).trans ((b4.block w.heap.size (by omega)).trans ((b3.block w.heap.size (by omega)).trans ((b2.block w.heap.size (by omega)).trans n1)))
  have p2 := Boxed.below (Boxed.below (Boxed.below n2 b3 (by omega)) b4 (by omega)) hW (by omega)
  have p3 := Boxed.below (Boxed.below n3 b4 (by omega)) hW (by omega)
  have p4 := Boxed.below n4 hW (by omega)
  rw [s1] at p2
  rw [s2, s1] at p3
  rw [s3, s2, s1] at p4
  exact frs6_in m l w.heap.size (w.heap.size + 1 + 1) (w.heap.size + 1) (w.heap.size + 1 + 1 + 1) base B q A c id mtu hcut h6 J W (hD.below ((b14.trans (hW.mono (by omega))).mono (by omega))) hBb (by omega) p1 p3 p2 p4 hJa hY hJ
end Go.Proofs.Ytcebobcakiljhaa
