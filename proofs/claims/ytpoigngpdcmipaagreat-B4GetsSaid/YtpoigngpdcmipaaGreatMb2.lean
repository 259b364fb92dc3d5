/-
  Contracts and lemmas on which the proofs of this seat stand (several texts in one). Conditions are each theorem's own.
-/
import Derived.Test.YtpoigngpdcmipaaGreatMb1
import Derived.Lib.Hide
import Derived.Deep.RegionHeld3
import Derived.Deep.MidRow
import Derived.Maps.RangeWalk
import Derived.Deep.Cut
import Derived.Deep.CutRange
namespace Go.Proofs.YtpoigngpdcmipaaGreat
open Go.RowKit Go.Shelf
attribute [local go_sem] Oper.semAt_some
def Marks (lo : Nat) : Nat → List Deferred → World → Prop
  | _, [], _ => True
  | hi, d :: ds, w => ∃ D, d = { target := .collected D, args := #[] } ∧ lo ≤ D ∧ D < hi ∧ w.heap[D]? = some (.deferred (some [])) ∧ Marks lo D ds w
theorem Marks.keep {lo : Nat} {w w' : World} : ∀ {ds : List Deferred} {hi : Nat}, Marks lo hi ds w → (∀ k, lo ≤ k → k < hi → w'.heap[k]? = w.heap[k]?) → Marks lo hi ds w'
  | [], _, _, _ => trivial
  | _ :: _, _, ⟨D, e, h1, h2, h3, h4⟩, hk => ⟨D, e, h1, h2, (hk D h1 h2).trans h3, h4.keep fun k a b => hk k a (by omega)⟩
theorem Marks.more {lo : Nat} {w : World} : ∀ {ds : List Deferred} {hi hi' : Nat}, Marks lo hi ds w → hi ≤ hi' → Marks lo hi' ds w
  | [], _, _, _, _ => trivial
  | _ :: _, _, _, ⟨D, e, h1, h2, h3, h4⟩, hh => ⟨D, e, h1, by omega, h3, h4⟩
theorem Marks.push {lo hi D : Nat} {ds : List Deferred} {w : World} (h : Marks lo hi ds w) (hD : hi ≤ D) (hlo : lo ≤ D) (hK : w.heap[D]? = some (.deferred (some []))) :
    Marks lo (D + 1) ({ target := .collected D, args := #[] } :: ds) w := ⟨D, rfl, hlo, Nat.lt_succ_self D, hK, h.more hD⟩
theorem Marks.turn {lo : Nat} {w w' : World} {r : Option Nat} (hg : w.grownBy w' r) : ∀ {ds : List Deferred} {hi : Nat}, Marks lo hi ds w → (∀ k, r = some k → hi ≤ k) → Marks lo hi ds w'
  | [], _, _, _ => trivial
  | _ :: _, _, ⟨D, e, h1, h2, h3, h4⟩, hr => ⟨D, e, h1, h2, (hg.block D (heap_lt h3) (fun e => by have := hr D e.symm; omega)).trans h3, h4.turn hg fun k e => by have := hr k e; omega⟩
theorem leaves_marks {F : Fence} {n : Nat} {P : Program} {fn : Func} {tmps : Array Value} {R : Ending → World → Prop} (lo : Nat) (K : World → Prop)
    (hK : ∀ (w : World) (D : Nat), K w → lo ≤ D → w.heap[D]? = some (.deferred (some [])) → K (w.putObj D (.deferred none)))
    (hE : ∀ w, K w → LeavesInM F n P fn tmps R [] .returning w) : ∀ (ds : List Deferred) (hi : Nat) (w : World), Marks lo hi ds w → K w → LeavesInM F n P fn tmps R ds .returning w
  | [], _, w, _, hk => hE w hk
  | _ :: ds, _, w, ⟨D, e, h1, h2, h3, h4⟩, hk => by
    subst e
    refine ⟨by simp, .inl ⟨D, _, rfl, run_takeDeferred h3, ?_⟩⟩
    exact leaves_marks lo K hK hE ds D _ (h4.keep fun k _ hkD => World.putObj_heap_other (by omega)) (hK w D hk h1 h3)
def lsum (bs : List UInt8) : List Nat → Int := List.foldl (fun s x => s + wrd bs x) 0
theorem lsum_snoc (bs : List UInt8) (pre : List Nat) (x : Nat) : lsum bs (pre ++ [x]) = lsum bs pre + wrd bs x := by simp [lsum]
theorem lsum_range (bs : List UInt8) (k : Nat) : lsum bs (List.range k) = wsum bs k := by
  induction k with
  | zero => rfl
  | succ k ih => rw [List.range_succ, lsum_snoc, ih, wsum_succ]
theorem lsum_bd (bs : List UInt8) (pre : List Nat) : 0 ≤ lsum bs pre ∧ lsum bs pre ≤ 65535 * (pre.length : Int) := by
  suffices h : ∀ (pre : List Nat) (s : Int) (m : Int), 0 ≤ s → s ≤ 65535 * m → 0 ≤ List.foldl (fun s x => s + wrd bs x) s pre ∧ List.foldl (fun s x => s + wrd bs x) s pre ≤ 65535 * (m + (pre.length : Int)) by
    simpa [lsum] using h pre 0 0 (by omega) (by omega)
  intro pre
  induction pre with
  | nil => intro s m h0 h1; simpa using ⟨h0, h1⟩
  | cons x l ih =>
    intro s m h0 h1
    have hx := wrd_bd bs x
    have := ih (s + wrd bs x) (m + 1) (by omega) (by omega)
    rw [List.foldl_cons, List.length_cons]
    refine ⟨this.1, ?_⟩
    have h2 := this.2
    omega
set_option maxRecDepth 100000 in
set_option maxHeartbeats 4000000 in
theorem add_any (A : Option Addr) (ps : List (List UInt8)) (c B : Nat) (w : World) (h : Rd2 w B A ps) (hB : B ≤ w.heap.size) (hl : bulk ps ≤ 1099511627000) (hn : ps.length ≤ 1099511627000) :
    Calls Tryz.prog 108 #[.slice A ps.length c] w fun e w' => e = .returned (.int .i64 (fold (psum ps))) ∧ Below w.heap.size w w' := by
  refine (callsIn_wide (n := 4)).1 ?_
  refine callsIn_of_wp_marks Tryz.func108 rfl trivial ?_ rfl
  simp only [Tryz.ntmps108, List.size_toArray, List.length_cons, List.length_nil, Nat.reduceAdd, Nat.reduceSub, Array.replicate_succ, Array.replicate_zero, List.push_toArray, List.append_toArray, List.nil_append, List.cons_append]
  have b0 := Boxed.new w 3 (.int .i64 0)
  have hB0 : Below w.heap.size w (w.alloc (.cells #[.int .i64 0] 3)) := (Below.refl _ w).alloc (Nat.le_refl _) _
  gi_wp2
  refine wpIn_loop (fun a W => ∃ (k : Nat) (ds : List Deferred) (u5 u7 u11 u12 u13 u14 u15 u16 u17 u18 u19 u20 u21 : Value), k ≤ ps.length ∧
      a = { tmps := #[.slice A ps.length c, undef, .int .i64 0, .pointer (some ⟨w.heap.size, 0, none⟩), undef, u5, undef, u7, .slice A ps.length c, .int .i64 (ps.length : Int), .int .i64 (k : Int), u11, u12, u13, u14, u15, u16, u17, u18, u19, u20, u21, undef, undef], defers := ds } ∧
      Marks (w.heap.size + 1) W.heap.size ds W ∧ Boxed W w.heap.size 3 (.int .i64 (psum (ps.take k))) ∧ Below w.heap.size w W)
    (fun a _ => ps.length - (intOf (a.tmps.getD 10 undef)).toNat) ?start ?round
  case start =>
    exact ⟨0, [], _, _, _, _, _, _, _, _, _, _, _, _, _, Nat.zero_le _, rfl, trivial, by simpa [psum] using b0, hB0⟩
  case round =>
    rintro a W ⟨k, ds, u5, u7, u11, u12, u13, u14, u15, u16, u17, u18, u19, u20, u21, hk, rfl, hm, hb, hBW⟩
    have hbd := psum_bd (ps.take k)
    have hbl := bulk_le ps k
    have hc := hb.cell
    by_cases hlt : k < ps.length
    · obtain ⟨bs, hbs⟩ : ∃ bs, ps[k]? = some bs := ⟨_, List.getElem?_eq_getElem hlt⟩
      obtain ⟨b, off, rfl, hbB, hcell⟩ := h.below (hBW.mono hB) (by omega)
      obtain ⟨Aj, cj, hcj, harg⟩ := hcell k bs hbs
      have hlen := len_bulk hbs
      have Hbs := Lib.hid hbs
      clear hcell hbs h
      gi_wp2_with (refine ⟨trivial, ?_⟩; gi_at_call 140; refine (callsIn_wide.2 (words_any Aj bs cj B _ harg.rd (Nat.le_trans hB hBW.size) (by omega))).mono ?_; rintro e w2 ⟨Bs, rfl, hbW, hseq⟩)
      have hWl := hBW.size
      have hw2 := hbW.size
      have hB2 : Below w.heap.size w w2 := hBW.trans (hbW.mono hWl)
      have hblt := hb.lt
      have hm2 : Marks (w.heap.size + 1) W.heap.size ds w2 := hm.keep fun k _ h2 => hbW.block k h2
      have hb2 := Boxed.below hb hbW hblt
      have hpl : prs bs.length ≤ bs.length + 1 := by unfold prs; omega
      obtain ⟨S, hS⟩ : ∃ S, S = psum (ps.take k) := ⟨_, rfl⟩
      rw [← hS] at hbd hb2
      have HS := Lib.hid hS
      clear hS hc hm hb
      refine wpIn_rangeFunc_ownG rfl (by omega) (gf := 164) (lb := #[.pointer (some ⟨Bs, 0, none⟩)]) rfl trivial (enters_of Tryz.func164 (by kernel_rfl) rfl)
        (hseq (4 - 1) (by omega)) Holds.trans (Holds.b (Nat.le_refl _)) (Below.refl _ _) (fun _ => rfl)
        (fun pre X => Marks (w.heap.size + 1) W.heap.size ds X ∧ Boxed X w.heap.size 3 (.int .i64 (S + lsum bs pre)) ∧ Below w.heap.size w X)
        (fun _ _ _ => False)
        (fun pre X Y r hs hg hr => ⟨hs.1.turn hg (fun k e => Nat.le_trans hw2 (hr k e).1), box_keep hs.2.1 hg hr, below_keep hs.2.2 hg hr (by omega) (Nat.le_refl _)⟩)
        (fun _ _ _ _ _ hs _ _ => hs)
        ⟨hm2, by simpa [lsum] using hb2, hB2⟩
        (fun x => { tmps := #[.slice (some ⟨b, off, none⟩) ps.length c, undef, .int .i64 0, .pointer (some ⟨w.heap.size, 0, none⟩), undef, .slice Aj bs.length cj, undef, .int .i64 (wrd bs x), .slice (some ⟨b, off, none⟩) ps.length c, .int .i64 (ps.length : Int), .int .i64 (k : Int), .bool true, .pointer (some ⟨b, off + k, none⟩), .slice Aj bs.length cj, .slice Aj bs.length cj, .func (.func 164) #[] #[.pointer (some ⟨Bs, 0, none⟩)], .int .i64 (dbl x), .int .i64 (wrd bs x), u18, u19, u20, u21, undef, undef], defers := [] }) ?assign ?body ?done ?stop
      case assign =>
        intro l x X K hK
        dsimp only [encW]
        gi_wp2
        exact hK
      case body =>
        rintro l pre x X ⟨hmX, hbX, hBX⟩ hlt2
        have hx := wrd_bd bs x
        have hls := lsum_bd bs pre
        have hcX := hbX.cell
        have hfX := hbX.frozen
        have HSn := Lib.hid (lsum_snoc bs pre x)
        generalize lsum bs pre = T at *
        generalize wrd bs x = y at *
        gi_wp2
        refine ⟨(KeepsOthers.setCell _ _ _).from _, Holds.setCell (.inl (by simpa using hblt)) _, hmX.keep (fun k h1 _ => Below.heap_setCell _ _ _ _ (by simp; omega)), ?_, hBX.setCell (p := ⟨w.heap.size, 0, none⟩) (Nat.le_refl _) _⟩
        rw [HSn.out, ← Int.add_assoc]
        exact Boxed.set _ hbX
      case done =>
        rintro D ys X hD rfl ⟨hmX, hbX, hBX⟩ hK
        gi_wp2
        have hDX := heap_lt hK
        refine ⟨⟨k + 1, _, _, _, _, _, _, _, _, _, _, _, _, _, _, by omega, rfl, (hmX.push (Nat.le_trans hw2 hD) (by omega) hK).more (by omega), ?_, hBX⟩, ?_⟩
        · rw [psum_take ps Hbs.out, ← HS.out, wall, ← lsum_range]
          exact hbX
        · simp [intOf]; omega
      case stop =>
        rintro D c pre X _ _ h _
        exact h.elim
    · obtain rfl : k = ps.length := by omega
      have hb0 := psum_bd ps
      gi_wp2_with (refine ⟨trivial, ?_⟩; gi_at_call 141; refine (callsIn_wide.2 (fold_any _ _ (by omega))).mono ?_; rintro e w' ⟨rfl, rfl⟩)
      exact leaves_marks (w.heap.size + 1) (fun X => Below w.heap.size w X) (fun X D hX h1 h2 => hX.trans (belowK_b (w := w) (Nat.le_refl _) X D _ _ (by omega) h2 rfl rfl))
        (fun X hX => ⟨_, results_tmp rfl _ _ _, rfl, hX⟩) ds _ W hm hBW
theorem of_any (A : Option Addr) (ps : List (List UInt8)) (c B : Nat) (w : World) (h : Rd2 w B A ps) (hB : B ≤ w.heap.size) (hl : bulk ps ≤ 1099511627000) (hn : ps.length ≤ 1099511627000) :
    Calls Tryz.prog 146 #[.slice A ps.length c] w fun e w' => e = .returned (.int .i64 (65535 - fold (psum ps))) ∧ Below w.heap.size w w' := by
  have hf := fold_bd (psum ps)
  go_enter Tryz.func146, Tryz.ntmps146
  go_wp2_with (go_at_call 108; refine (add_any A ps c B _ h hB hl hn).mono ?_; rintro e w1 ⟨rfl, hb⟩)
  go_ret
  exact ⟨rfl, hb⟩
def rightB (ps : List (List UInt8)) : Bool := fold (psum ps) == 65535
theorem right_any (A : Option Addr) (ps : List (List UInt8)) (c B : Nat) (w : World) (h : Rd2 w B A ps) (hB : B ≤ w.heap.size) (hl : bulk ps ≤ 1099511627000) (hn : ps.length ≤ 1099511627000) :
    Calls Tryz.prog 82 #[.slice A ps.length c] w fun e w' => e = .returned (.bool (rightB ps)) ∧ Below w.heap.size w w' := by
  go_enter Tryz.func82, Tryz.ntmps82
  go_wp2_with (go_at_call 108; refine (add_any A ps c B _ h hB hl hn).mono ?_; rintro e w1 ⟨rfl, hb⟩)
  go_ret
  exact ⟨rfl, hb⟩
def chg (s : Int) (old now : List UInt8) : Int := if 0 ≤ s ∧ s ≤ 65535 then 65535 - fold (65535 - s + (65535 * (prs old.length : Int) - wall old) + wall now) else 0
end Go.Proofs.YtpoigngpdcmipaaGreat
namespace Go.Proofs.YtpoigngpdcmipaaGreat
open Go.RowKit
theorem rword_j (A : Option Addr) (bs : List UInt8) (c B j m : Nat) (hj : Hid (j = 2 * m)) (w : World) (h : Rd w B A bs) (hi : j < bs.length) (hl : bs.length ≤ 1099511627776) :
    Calls Tryz.prog 105 #[.slice A bs.length c, .int .i64 (j : Int)] w fun e w' => e = .returned (.int .i64 (wrd bs m)) ∧ ∃ n, w' = w.drewN n := by
  have h1 := rword_any A bs c B j w h hi hl
  have e : byt bs j * 256 + byt bs (j + 1) = wrd bs m := by rw [wrd, ← hj.out]
  rw [e] at h1
  exact h1
set_option maxHeartbeats 2000000 in
theorem radd_any (A : Option Addr) (ps : List (List UInt8)) (c B : Nat) (w : World) (h : Rd2 w B A ps) (hl : bulk ps ≤ 1099511627000) (hn : ps.length ≤ 1099511627000) :
    Calls Tryz.prog 77 #[.slice A ps.length c] w fun e w' => e = .returned (.int .i64 (fold (psum ps))) ∧ ∃ n, w' = w.drewN n := by
  go_enter Tryz.func77, Tryz.ntmps77
  go_wp2
  go_loopw [3, 4] (fun v i wr => ∃ k q : Nat, k ≤ ps.length ∧ i = .int .i64 (k : Int) ∧ v = .int .i64 (psum (ps.take k)) ∧ wr = w.drewN q) (fun _ i _ => ps.length - (intOf i).toNat)
  case atStart => exact ⟨0, 0, Nat.zero_le _, rfl, by simp [psum], rfl⟩
  case round =>
    obtain ⟨k, q, hk, rfl, rfl, rfl⟩ := hrel
    have hbd := psum_bd (ps.take k)
    have hbl := bulk_le ps k
    by_cases hlt : k < ps.length
    · obtain ⟨bs, hbs⟩ : ∃ bs, ps[k]? = some bs := ⟨_, List.getElem?_eq_getElem hlt⟩
      obtain ⟨b, off, rfl, hbB, hcell⟩ := h (by omega)
      obtain ⟨Aj, cj, hcj, harg⟩ := hcell k bs hbs
      have hr := harg.rd
      have hlen := len_bulk hbs
      have hcap := harg.cap
      have Hps := Lib.hid (psum_take ps hbs)
      clear hcell hbs h harg
      obtain ⟨S, hS⟩ : ∃ S, S = psum (ps.take k) := ⟨_, rfl⟩
      rw [← hS] at hbd
      have HS := Lib.hid hS
      rw [← hS]
      clear hS
      go_wp2
      go_loopw [3, 5] (fun v i wr => ∃ j m q : Nat, Hid (j = 2 * m) ∧ m ≤ prs bs.length ∧ i = .int .i64 (j : Int) ∧ v = .int .i64 (S + wsum bs m) ∧ wr = w.drewN q) (fun _ i _ => (bs.length + 2) - (intOf i).toNat)
      case atStart => exact ⟨0, 0, q, Lib.hid rfl, Nat.zero_le _, rfl, by simp [wsum], rfl⟩
      case round =>
        obtain ⟨j, m, q, Hj, hm, rfl, rfl, rfl⟩ := hrel
        have hws := wsum_bd bs m
        have hx := wrd_bd bs m
        have hml : m ≤ bs.length + 1 := by unfold prs at hm; omega
        have hjl : j ≤ bs.length + 1 := by have := Hj.out; unfold prs at hm; omega
        by_cases hlt2 : j < bs.length
        · have HW := Lib.hid (wsum_succ bs m)
          generalize wsum bs m = T at *
          go_wp2_with (go_at_call 105; refine (rword_j Aj bs cj B j m Hj _ (hr.drewN _) hlt2 (by omega)).mono ?_; rintro e w' ⟨rfl, n, rfl⟩)
          go_roundw
          case rel => exact ⟨j + 2, m + 1, q + n, Lib.hid (by have := Hj.out; omega), by have := Hj.out; unfold prs; omega, by simp, by rw [HW.out, Int.add_assoc], rfl⟩
          case measure => simp [intOf]; omega
        · go_wp2
          go_roundw
          case rel =>
            have e : m = prs bs.length := by have := Hj.out; unfold prs at hm ⊢; omega
            exact ⟨k + 1, q, by omega, by simp, by rw [Hps.out, ← HS.out, wall, e], rfl⟩
          case measure => simp [intOf]; omega
    · obtain rfl : k = ps.length := by omega
      have hb0 := psum_bd ps
      go_wp2_with (go_at_call 106; refine (rfold_any _ _ (by omega)).mono ?_; rintro e w' ⟨rfl, rfl⟩)
      go_ret
      exact ⟨rfl, q, rfl⟩
theorem rof_any (A : Option Addr) (ps : List (List UInt8)) (c B : Nat) (w : World) (h : Rd2 w B A ps) (hl : bulk ps ≤ 1099511627000) (hn : ps.length ≤ 1099511627000) :
    Calls Tryz.prog 49 #[.slice A ps.length c] w fun e w' => e = .returned (.int .i64 (65535 - fold (psum ps))) ∧ ∃ n, w' = w.drewN n := by
  have hf := fold_bd (psum ps)
  go_enter Tryz.func49, Tryz.ntmps49
  go_wp2_with (go_at_call 77; refine (radd_any A ps c B _ h hl hn).mono ?_; rintro e w1 ⟨rfl, n, rfl⟩)
  go_ret
  exact ⟨rfl, n, rfl⟩
end Go.Proofs.YtpoigngpdcmipaaGreat
namespace Go.Proofs.YtpoigngpdcmipaaGreat
open Go.RowKit
theorem Rd2.of_cells {w : World} {B g t : Nat} {cs : Array Value} {ps : List (List UInt8)} (hg : w.heap[g]? = some (.cells cs t (0, 0))) (hB : g < B)
    (hc : ∀ (j : Nat) (bs : List UInt8), ps[j]? = some bs → ∃ Aj cj, cs[j]? = some (.slice Aj bs.length cj) ∧ Arg w B Aj cj bs) : Rd2 w B (some ⟨g, 0, none⟩) ps := fun _ =>
  ⟨g, 0, rfl, hB, fun j bs hj => by
    obtain ⟨Aj, cj, h1, h2⟩ := hc j bs hj
    exact ⟨Aj, cj, by rw [cell_of_row w g (0 + j) cs t (0, 0) hg, Nat.zero_add]; exact h1, h2⟩⟩
theorem Rd2.one {w : World} {B g t : Nat} {A : Option Addr} {c : Nat} {bs : List UInt8} (hg : w.heap[g]? = some (.cells #[.slice A bs.length c] t (0, 0))) (hB : g < B) (h : Arg w B A c bs) : Rd2 w B (some ⟨g, 0, none⟩) [bs] :=
  Rd2.of_cells hg hB fun j b hj => by
    cases j with
    | zero => simp at hj; subst hj; exact ⟨A, c, rfl, h⟩
    | succ j => simp at hj
def zeroB (ps : List (List UInt8)) : Bool := ps.all fun b => b.all fun x => x == 0
theorem byt_zero {bs : List UInt8} (h : ∀ j, j < bs.length → byt bs j = 0) : ∀ x ∈ bs, x = 0 := by
  intro x hx
  obtain ⟨j, hj, rfl⟩ := List.getElem_of_mem hx
  have := h j hj
  simp [byt, hj] at this
  exact UInt8.toNat_inj.1 (by simpa using this)
theorem byt_left {a b : List UInt8} {j : Nat} (h : j < a.length) : byt (a ++ b) j = byt a j := by unfold byt; rw [List.getElem?_append_left h]
theorem byt_right {a b : List UInt8} {j : Nat} : byt (a ++ b) (a.length + j) = byt b j := by
  unfold byt; rw [List.getElem?_append_right (by omega), Nat.add_sub_cancel_left]
theorem wsum_left {a b : List UInt8} : ∀ {k : Nat}, 2 * k ≤ a.length → wsum (a ++ b) k = wsum a k
  | 0, _ => rfl
  | k + 1, h => by
    rw [wsum_succ, wsum_succ, wsum_left (by omega), wrd, wrd, byt_left (by omega), byt_left (by omega)]
theorem wall_two {a : List UInt8} {m : Nat} (h : a.length = 2 * m) (x y : UInt8) : wall (a ++ [x, y]) = wall a + ((x.toNat : Int) * 256 + (y.toNat : Int)) := by
  have e1 : prs (a ++ [x, y]).length = m + 1 := by rw [List.length_append, h]; unfold prs; simp; omega
  have e2 : prs a.length = m := by rw [h]; unfold prs; omega
  rw [wall, wall, e1, e2, wsum_succ, wsum_left (by omega)]
  have e3 : wrd (a ++ [x, y]) m = (x.toNat : Int) * 256 + (y.toNat : Int) := by
    have h0 : byt (a ++ [x, y]) (2 * m) = (x.toNat : Int) := by have := byt_right (a := a) (b := [x, y]) (j := 0); rw [h, Nat.add_zero] at this; rw [this]; rfl
    have h1 : byt (a ++ [x, y]) (2 * m + 1) = (y.toNat : Int) := by have := byt_right (a := a) (b := [x, y]) (j := 1); rw [h] at this; rw [this]; rfl
    rw [wrd, h0, h1]
  rw [e3]
theorem wall_pair (x y : UInt8) : wall [x, y] = (x.toNat : Int) * 256 + (y.toNat : Int) := by
  have := wall_two (a := []) (m := 0) rfl x y
  simpa [wall, prs, wsum] using this
theorem fold_right {S : Int} (h : 0 ≤ S) : fold (S + (65535 - fold S)) = 65535 := by
  unfold fold; split <;> (split <;> omega)
def hi (n : Int) : UInt8 := UInt8.ofNat (n / 256).toNat
def lo (n : Int) : UInt8 := UInt8.ofNat (n % 256).toNat
theorem hi_val {n : Int} (h0 : 0 ≤ n) (h1 : n ≤ 65535) : ((hi n).toNat : Int) = n / 256 := by simp only [hi, UInt8.toNat_ofNat']; omega
theorem lo_val (n : Int) : ((lo n).toNat : Int) = n % 256 := by simp only [lo, UInt8.toNat_ofNat']; omega
theorem hi_lo {n : Int} (h0 : 0 ≤ n) (h1 : n ≤ 65535) : ((hi n).toNat : Int) * 256 + ((lo n).toNat : Int) = n := by rw [hi_val h0 h1, lo_val n]; omega
theorem Rd.pair {W : World} {u v : Int} {x y : UInt8} (t : TypeId) (h : u = (x.toNat : Int)) (h' : v = (y.toNat : Int)) : Rd (W.alloc (.cells #[.int .u8 u, .int .u8 v] t)) (W.heap.size + 1) (some ⟨W.heap.size, 0, none⟩) [x, y] :=
  Rd.of_block (g := W.heap.size) (World.alloc_heap_new W _) (Nat.lt_succ_self _) 0 (fun j hj => by
    have : j = 0 ∨ j = 1 := by simp at hj; omega
    rcases this with rfl | rfl
    · simp [h, byt]
    · simp [h', byt])
theorem own_below {w w' : World} {base e size n : Nat} {v : Value} {xs : List Value} (h : w.ownsRow base e size v n xs) (hb : Below w.heap.size w w') : w'.ownsRow base e size v n xs := by
  obtain ⟨h1, h2⟩ := h
  refine ⟨h1, ?_⟩
  rcases h2 with h2 | ⟨g, cap, cur, hv, hg, hh, r⟩
  · exact .inl h2
  · exact .inr ⟨g, cap, cur, hv, hg, (hb.block g (heap_lt hh)).trans hh, r⟩
theorem of_one (A : Option Addr) (bs : List UInt8) (c B : Nat) (N : Int) (hN : Hid (N = 65535 - fold (psum [bs]))) (w : World) (h : Rd2 w B A [bs]) (hB : B ≤ w.heap.size) (hl : bs.length ≤ 1099511627000) :
    Calls Tryz.prog 146 #[.slice A 1 c] w fun e w' => e = .returned (.int .i64 N) ∧ Below w.heap.size w w' := by
  have h1 := of_any A [bs] c B w h hB (by simpa [bulk] using hl) (by simp)
  rw [← hN.out] at h1
  exact h1
theorem right_one (A : Option Addr) (bs : List UInt8) (c B : Nat) (w : World) (h : Rd2 w B A [bs]) (hB : B ≤ w.heap.size) (hl : bs.length ≤ 1099511627000) :
    Calls Tryz.prog 82 #[.slice A 1 c] w fun e w' => e = .returned (.bool (rightB [bs])) ∧ Below w.heap.size w w' :=
  right_any A [bs] c B w h hB (by simpa [bulk] using hl) (by simp)
theorem wsum_zero {bs : List UInt8} : ∀ {k : Nat}, wsum bs k = 0 → ∀ j, j < 2 * k → byt bs j = 0
  | 0, _, j, hj => absurd hj (by omega)
  | k + 1, h, j, hj => by
    have h1 := wsum_bd bs k
    have h2 := wrd_bd bs k
    rw [wsum_succ] at h
    have e1 : wsum bs k = 0 := by omega
    have e2 : wrd bs k = 0 := by omega
    by_cases hlt : j < 2 * k
    · exact wsum_zero e1 j hlt
    · have a1 := byt_lo bs (2 * k)
      have a2 := byt_lo bs (2 * k + 1)
      unfold wrd at e2
      have : j = 2 * k ∨ j = 2 * k + 1 := by omega
      rcases this with rfl | rfl <;> omega
theorem wall_zero {bs : List UInt8} (h : wall bs = 0) : ∀ x ∈ bs, x = 0 :=
  byt_zero fun j hj => wsum_zero (k := prs bs.length) h j (by unfold prs; omega)
theorem psum_cons (b : List UInt8) (l : List (List UInt8)) : psum (b :: l) = wall b + psum l := by simp [psum]
theorem psum_zero : ∀ {ps : List (List UInt8)}, psum ps = 0 → zeroB ps = true
  | [], _ => rfl
  | b :: l, h => by
    have h1 := wall_bd b
    have h2 := psum_bd l
    rw [psum_cons] at h
    have e1 : wall b = 0 := by omega
    have e2 : psum l = 0 := by omega
    have := psum_zero e2
    simp only [zeroB, List.all_cons, Bool.and_eq_true] at this ⊢
    exact ⟨by rw [List.all_eq_true]; intro x hx; simpa using wall_zero e1 x hx, this⟩
theorem fold_spec {n : Int} (h : 0 ≤ n) : ∃ q : Int, n = fold n + 65535 * q ∧ (0 < n → 1 ≤ fold n) ∧ fold n ≤ 65535 := by
  unfold fold
  split
  · exact ⟨0, by omega, by omega, by omega⟩
  · exact ⟨(n - 1) / 65535, by omega, by omega, by omega⟩
theorem stays {a b old now : List UInt8} {N M : Int} (hz : zeroB [a, now, b] = false) (hN : N = 65535 - fold (psum [a, old, b])) (hM : M = chg N old now) :
    rightB [a, now, b, [hi M, lo M]] = true ∧ 0 ≤ N ∧ N ≤ 65535 ∧ 0 ≤ M ∧ M ≤ 65535 := by
  have f1 := fold_bd (psum [a, old, b])
  have hN0 : 0 ≤ N := by omega
  have hN1 : N ≤ 65535 := by omega
  rw [chg, if_pos ⟨hN0, hN1⟩] at hM
  have f2 := fold_bd (65535 - N + (65535 * (prs old.length : Int) - wall old) + wall now)
  have hM0 : 0 ≤ M := by omega
  have hM1 : M ≤ 65535 := by omega
  refine ⟨?_, hN0, hN1, hM0, hM1⟩
  have wa := wall_bd a; have wb := wall_bd b; have wn := wall_bd now
  have wo : 0 ≤ wall old ∧ wall old ≤ 65535 * (prs old.length : Int) := wsum_bd old _
  have p1 : psum [a, old, b] = wall a + wall old + wall b := by simp [psum]; omega
  have p2 : psum [a, now, b] = wall a + wall now + wall b := by simp [psum]; omega
  have p3 : psum [a, now, b, [hi M, lo M]] = wall a + wall now + wall b + M := by
    simp only [psum_cons]; rw [wall_pair, hi_lo hM0 hM1]; simp [psum]; omega
  have hpos : 0 < wall a + wall now + wall b := by
    rcases Int.lt_or_le 0 (wall a + wall now + wall b) with h | h
    · exact h
    · have e : psum [a, now, b] = 0 := by omega
      rw [psum_zero e] at hz
      cases hz
  obtain ⟨q1, e1, _, _⟩ := fold_spec (n := psum [a, old, b]) (by omega)
  obtain ⟨q2, e2, _, _⟩ := fold_spec (n := 65535 - N + (65535 * (prs old.length : Int) - wall old) + wall now) (by omega)
  obtain ⟨q3, e3, g3, u3⟩ := fold_spec (n := wall a + wall now + wall b + M) (by omega)
  have g3' := g3 (by omega)
  rw [rightB, p3, beq_iff_eq]
  generalize fold (wall a + wall now + wall b + M) = Y at *
  generalize fold (65535 - N + (65535 * (prs old.length : Int) - wall old) + wall now) = X at *
  generalize fold (psum [a, old, b]) = Z at *
  omega
theorem Rd2.three {w : World} {B g t n0 n1 n2 : Nat} {A0 A1 A2 : Option Addr} {c0 c1 c2 : Nat} {b0 b1 b2 : List UInt8} (h0 : n0 = b0.length) (h1 : n1 = b1.length) (h2 : n2 = b2.length)
    (hg : w.heap[g]? = some (.cells #[.slice A0 n0 c0, .slice A1 n1 c1, .slice A2 n2 c2] t (0, 0))) (hB : g < B) (a0 : Arg w B A0 c0 b0) (a1 : Arg w B A1 c1 b1) (a2 : Arg w B A2 c2 b2) : Rd2 w B (some ⟨g, 0, none⟩) [b0, b1, b2] := by
  subst h0; subst h1; subst h2
  refine Rd2.of_cells hg hB fun j b hj => ?_
  match j, hj with
  | 0, hj => simp at hj; subst hj; exact ⟨_, _, rfl, a0⟩
  | 1, hj => simp at hj; subst hj; exact ⟨_, _, rfl, a1⟩
  | 2, hj => simp at hj; subst hj; exact ⟨_, _, rfl, a2⟩
  | j + 3, hj => simp at hj
theorem bulk3 (a b c : List UInt8) : bulk [a, b, c] = a.length + b.length + c.length := by simp [bulk]; omega
end Go.Proofs.YtpoigngpdcmipaaGreat
namespace Go.Proofs.YtpoigngpdcmipaaGreat
open Go.RowKit
structure P4 where
  tos : Int
  id : Int
  off : Int
  ttl : Int
  proto : Int
  src : Int
  dst : Int
  df : Bool
  mf : Bool
  opt : List UInt8
  dat : List UInt8
def p4z : P4 := ⟨0, 0, 0, 0, 0, 0, 0, false, false, [], []⟩
def head4 (q : P4) : Int := 20 + (q.opt.length : Int)
def size4 (q : P4) : Int := head4 q + (q.dat.length : Int)
def arg4 (q : P4) : Prop := 0 ≤ q.tos ∧ q.tos ≤ 255 ∧ 0 ≤ q.ttl ∧ q.ttl ≤ 255 ∧ 0 ≤ q.proto ∧ q.proto ≤ 255 ∧ 0 ≤ q.id ∧ q.id ≤ 65535 ∧ 0 ≤ q.src ∧ q.src < 4294967296 ∧ 0 ≤ q.dst ∧ q.dst < 4294967296 ∧
  0 ≤ q.off ∧ q.off ≤ 65528 ∧ q.off % 8 = 0 ∧ q.opt.length ≤ 40 ∧ q.opt.length % 4 = 0 ∧ (q.mf = true → q.dat.length % 8 = 0)
instance (q : P4) : Decidable (arg4 q) := by unfold arg4; infer_instance
def chk4 (q : P4) : Int := if arg4 q then (if size4 q > 65535 ∨ q.off > 65535 - (q.dat.length : Int) then 6 else 0) else 1
def u8 (n : Int) : UInt8 := UInt8.ofNat (n % 256).toNat
theorem u8_val (n : Int) : ((u8 n).toNat : Int) = n % 256 := by simp only [u8, UInt8.toNat_ofNat']; omega
def bit (b : Bool) (n : Int) : Int := if b then n else 0
def flags4 (q : P4) : Int := q.off / 8 + bit q.df 16384 + bit q.mf 8192
def be2 (n : Int) : List UInt8 := [u8 (n / 256), u8 n]
def be4 (n : Int) : List UInt8 := [u8 (n / 16777216), u8 (n / 65536), u8 (n / 256), u8 n]
theorem u8_dig {n : Int} (h : 0 ≤ n) (s i : Nat) : dig n s i = u8 (n / pw (s - 1 - i)) := by
  apply UInt8.toNat_inj.1
  have h1 := dig_val h s i
  have h2 := u8_val (n / pw (s - 1 - i))
  omega
theorem digs_two {n : Int} (h : 0 ≤ n) : digs n 2 = be2 n := by
  simp [digs, be2, List.range_succ, u8_dig h, pw]
theorem digs_four {n : Int} (h : 0 ≤ n) : digs n 4 = be4 n := by
  simp [digs, be4, List.range_succ, u8_dig h, pw]
def hda (q : P4) (size : Int) : List UInt8 := [u8 (64 + head4 q / 4), u8 q.tos, u8 (size / 256), u8 size, u8 (q.id / 256), u8 q.id, u8 (flags4 q / 256), u8 (flags4 q), u8 q.ttl, u8 q.proto]
def hdb (q : P4) : List UInt8 := [u8 (q.src / 16777216), u8 (q.src / 65536), u8 (q.src / 256), u8 q.src, u8 (q.dst / 16777216), u8 (q.dst / 65536), u8 (q.dst / 256), u8 q.dst] ++ q.opt
def hd4 (q : P4) (size sum : Int) : List UInt8 := hda q size ++ be2 sum ++ hdb q
def sum4 (q : P4) : Int := 65535 - fold (psum [hd4 q (size4 q) 0])
def bld4 (q : P4) : List UInt8 := hd4 q (size4 q) (sum4 q) ++ q.dat
theorem hd4_len (q : P4) (size sum : Int) : (hd4 q size sum).length = 20 + q.opt.length := by simp [hd4, hda, hdb, be2]; omega
theorem bld4_len (q : P4) : (bld4 q).length = 20 + q.opt.length + q.dat.length := by rw [bld4, List.length_append, hd4_len]
theorem wall_append {a b : List UInt8} {m : Nat} (h : a.length = 2 * m) : wall (a ++ b) = wall a + wall b := by
  have e1 : prs (a ++ b).length = m + prs b.length := by rw [List.length_append, h]; unfold prs; omega
  have e2 : prs a.length = m := by rw [h]; unfold prs; omega
  have key : ∀ k, wsum (a ++ b) (m + k) = wsum a m + wsum b k := by
    intro k
    induction k with
    | zero => rw [Nat.add_zero, wsum_left (by omega)]; simp [wsum]
    | succ k ih =>
      rw [← Nat.add_assoc, wsum_succ, wsum_succ, ih]
      have e3 : wrd (a ++ b) (m + k) = wrd b k := by
        have h0 := byt_right (a := a) (b := b) (j := 2 * k)
        have h1 := byt_right (a := a) (b := b) (j := 2 * k + 1)
        rw [h] at h0 h1
        rw [wrd, wrd, show 2 * (m + k) = 2 * m + 2 * k from by omega, h0, show 2 * m + 2 * k + 1 = 2 * m + (2 * k + 1) from by omega, h1]
      rw [e3]; omega
  rw [wall, wall, wall, e1, e2, key]
theorem be2_wall {n : Int} (h0 : 0 ≤ n) (h1 : n ≤ 65535) : wall (be2 n) = n := by
  rw [be2, wall_pair, u8_val, u8_val]; omega
theorem sum4_bd (q : P4) : 0 ≤ sum4 q ∧ sum4 q ≤ 65535 := by have := fold_bd (psum [hd4 q (size4 q) 0]); unfold sum4; omega
theorem head_right (q : P4) : rightB [hd4 q (size4 q) (sum4 q)] = true := by
  have hb := sum4_bd q
  have w : ∀ s, 0 ≤ s → s ≤ 65535 → psum [hd4 q (size4 q) s] = wall (hda q (size4 q)) + s + wall (hdb q) := fun s h0 h1 => by
    have : psum [hd4 q (size4 q) s] = wall (hd4 q (size4 q) s) := by simp [psum]
    rw [this, hd4, wall_append (m := 6) (by simp [hda, be2]), wall_append (m := 5) (by simp [hda]), be2_wall h0 h1]
  have w0 := w 0 (by omega) (by omega)
  have w1 := w (sum4 q) hb.1 hb.2
  have hs : sum4 q = 65535 - fold (psum [hd4 q (size4 q) 0]) := rfl
  have ha := (wall_bd (hda q (size4 q))).1
  have hc := (wall_bd (hdb q)).1
  rw [rightB, w1, show wall (hda q (size4 q)) + sum4 q + wall (hdb q) = (wall (hda q (size4 q)) + wall (hdb q)) + (65535 - fold (wall (hda q (size4 q)) + wall (hdb q))) from by rw [hs, w0]; simp only [Int.add_zero]; omega,
    fold_right (by omega)]
  rfl
def n2 (b : List UInt8) (i : Nat) : Int := byt b i * 256 + byt b (i + 1)
def n4 (b : List UInt8) (i : Nat) : Int := ((byt b i * 256 + byt b (i + 1)) * 256 + byt b (i + 2)) * 256 + byt b (i + 3)
def hlen (b : List UInt8) : Int := byt b 0 % 16 * 4
def fl4 (b dat : List UInt8) : P4 := ⟨byt b 1, n2 b 4, n2 b 6 % 8192 * 8, byt b 8, byt b 9, n4 b 12, n4 b 16, decide (n2 b 6 / 16384 % 2 = 1), decide (n2 b 6 / 8192 % 2 = 1), (b.take (hlen b).toNat).drop 20, dat⟩
def bad4 (b : List UInt8) (quoted : Bool) : Int :=
  if b.length < 20 then 3
  else if byt b 0 / 16 ≠ 4 ∨ hlen b < 20 then 4
  else if hlen b > (b.length : Int) ∨ (quoted = false ∧ n2 b 2 > (b.length : Int)) then 3
  else if n2 b 2 < hlen b ∨ n2 b 6 ≥ 32768 then 4
  else if quoted = false ∧ rightB [b.take (hlen b).toNat] = false then 5
  else 0
def raw4 (b : List UInt8) : P4 := fl4 b ((b.take (min (n2 b 2) (b.length : Int)).toNat).drop (hlen b).toNat)
def prsE (b : List UInt8) (quoted : Bool) : Int := if bad4 b quoted = 0 then (if quoted = false ∧ chk4 (raw4 b) ≠ 0 then 4 else 0) else bad4 b quoted
def prsV (b : List UInt8) (quoted : Bool) : P4 := if prsE b quoted = 0 then raw4 b else p4z
end Go.Proofs.YtpoigngpdcmipaaGreat
namespace Go.Proofs.YtpoigngpdcmipaaGreat
open Go.RowKit Go.ChangeShapes Go.WideShapes
def v4v (q : P4) (A : Option Addr) (c : Nat) (A' : Option Addr) (c' : Nat) : Value :=
  .agg #[.int .i64 q.tos, .int .i64 q.id, .int .i64 q.off, .int .i64 q.ttl, .int .i64 q.proto, .int .i64 q.src, .int .i64 q.dst, .bool q.df, .bool q.mf, .slice A q.opt.length c, .slice A' q.dat.length c']
structure P6 where
  traffic : Int
  flow : Int
  next : Int
  hop : Int
  src : List UInt8
  dst : List UInt8
  dat : List UInt8
def v6l (q : P6) (A : Option Addr) (c : Nat) : List Value := [Value.int .i64 q.traffic, Value.int .i64 q.flow, Value.int .i64 q.next, Value.int .i64 q.hop] ++ row q.src ++ row q.dst ++ [Value.slice A q.dat.length c]
def v6v (q : P6) (A : Option Addr) (c : Nat) : Value := .agg (v6l q A c).toArray
structure F6 where
  next : Int
  off : Int
  id : Int
  more : Bool
def frv (q : F6) : Value := .agg #[.int .i64 q.next, .int .i64 q.off, .int .i64 q.id, .bool q.more]
end Go.Proofs.YtpoigngpdcmipaaGreat
namespace Go.Proofs.YtpoigngpdcmipaaGreat
end Go.Proofs.YtpoigngpdcmipaaGreat
namespace Go.Proofs.YtpoigngpdcmipaaGreat
open Go.RowKit
def okB (a : Int) : Bool := decide (0 ≤ a ∧ a < 4294967296)
theorem r3right_any (a : Int) (w : World) : Calls Tryz.prog 79 #[.int .i64 a] w fun e w' => e = .returned (.bool (okB a)) ∧ w = w' := by
  by_cases h : 0 ≤ a
  · go_enter Tryz.func79, Tryz.ntmps79
    go_wp2
    go_ret
    exact ⟨ret_bool (by rw [Bool.eq_iff_iff]; simp [okB, h]), rfl⟩
  · have hd : decide (0 ≤ a) = false := by simp; omega
    go_enter Tryz.func79, Tryz.ntmps79
    go_wp2
    go_ret
    exact ⟨ret_bool (by rw [Bool.eq_iff_iff]; simp [okB]; omega), rfl⟩
end Go.Proofs.YtpoigngpdcmipaaGreat
namespace Go.Proofs.YtpoigngpdcmipaaGreat
open Go.RowKit
def v4a (q : P4) (A : Option Addr) (c : Nat) (A' : Option Addr) (c' : Nat) : Array Value :=
  #[.int .i64 q.tos, .int .i64 q.id, .int .i64 q.off, .int .i64 q.ttl, .int .i64 q.proto, .int .i64 q.src, .int .i64 q.dst, .bool q.df, .bool q.mf, .slice A q.opt.length c, .slice A' q.dat.length c']
theorem v4_load {ops : Array Oper} {rest : List Oper} {d : Tmp} {x : Operand} {ty : TypeId} {pos : String} {af : Array Edge} {a : Act} {w : World} {Q : Exit → Act → World → Prop}
    {g : Nat} {t : TypeId} {cs : Array Value} {fr : Nat × Nat} (hx : a.eval x = .pointer (some ⟨g, 0, none⟩)) (hg : w.heap[g]? = some (.cells cs t fr)) (hl : cs.size = 11)
    (h : wpList Tryz.prog ops Q rest (a.put (some d) (.agg cs)) w) : wpList Tryz.prog ops Q (⟨some d, .load 46 x, ty, pos, af, none⟩ :: rest) a w :=
  wpList_load_row rfl 46 x rfl g hx t cs fr _ hg Tryz.underlying46 rfl (by rw [hl]; kernel_rfl) h
section
variable (q : P4) (A : Option Addr) (c : Nat) (A' : Option Addr) (c' : Nat) (w : World)
theorem r5head (ho : q.opt.length ≤ 1000000) : Calls Tryz.prog 80 #[v4v q A c A' c'] w fun e w' => e = .returned (.int .i64 (head4 q)) ∧ Below w.heap.size w w' := by
  have hB : ∀ o, Below w.heap.size w (w.alloc o) := fun o => (Below.refl w.heap.size w).alloc (Nat.le_refl _) o
  unfold v4v head4
  go_enter Tryz.func80, Tryz.ntmps80
  go_wp2_with fail
  go_ret
  exact ⟨rfl, hB _⟩
end
end Go.Proofs.YtpoigngpdcmipaaGreat
namespace Go.Proofs.YtpoigngpdcmipaaGreat
open Go.RowKit
theorem range_below {w w' : World} {b o B : Nat} {cs : List Value} (h : w.rangeAt b o cs) (hB : b < B) (hb : Below B w w') : w'.rangeAt b o cs := fun j v hj => by
  rw [hb.cell hB]; exact h j v hj
theorem held_pure {P : Program} {ops : Array Oper} {Q : Exit → Act → World → Prop} {md : Region.Mode} {S : World → Prop} {i : Nat} {oi : Oper} {v : Value} {fuel : Nat} {listed : Array Bool} {a : Act} {w : World} (hi : ops[i]? = some oi)
    (hs : Region.noSelect ops = true) (hf : Region.free md ops listed i = true) (hr : (Region.ready md ops listed).contains i = true)
    (hQ : ∀ c a w, Q (.panic c) (a.put oi.dst v) w → Q (.panic c) a w) (hw : Region.wanted oi (yielded ops a.tmps) = true)
    (hrun : ∀ w, S w → (execOp a.eval oi).run P w = .ok (.value v) w) (hS : S w)
    (h : S w → wpAnyH P md ops Q S fuel (listed.setIfInBounds i true) (a.put oi.dst v) w) : wpAnyH P md ops Q S (fuel + 1) listed a w :=
  wpAnyH_take hi hs hf hr hQ (.inl ⟨hw, hrun⟩) hS (h hS)
theorem held_skip {P : Program} {ops : Array Oper} {Q : Exit → Act → World → Prop} {md : Region.Mode} {S : World → Prop} {i : Nat} {oi : Oper} {fuel : Nat} {listed : Array Bool} {a : Act} {w : World} (hi : ops[i]? = some oi)
    (hs : Region.noSelect ops = true) (hf : Region.free md ops listed i = true) (hr : (Region.ready md ops listed).contains i = true)
    (hQ : ∀ c a w, Q (.panic c) (a.put oi.dst undef) w → Q (.panic c) a w) (hw : Region.wanted oi (yielded ops a.tmps) = false) (hS : S w)
    (h : S w → wpAnyH P md ops Q S fuel (listed.setIfInBounds i true) (a.put oi.dst undef) w) : wpAnyH P md ops Q S (fuel + 1) listed a w :=
  wpAnyH_take hi hs hf hr hQ (.inr ⟨hw, rfl⟩) hS (h hS)
theorem below_step {w0 w w' : World} (h : Below w0.heap.size w0 w) (hb : Below w.heap.size w w') : Below w0.heap.size w0 w' := h.trans (hb.mono h.size)
end Go.Proofs.YtpoigngpdcmipaaGreat
namespace Go.Proofs.YtpoigngpdcmipaaGreat
open Go.RowKit
theorem run_load_v4 {o : Oper} {a : Act} {w : World} {x : Operand} {g : Nat} {cs : List Value} (ho : o.op = .load 46 x) (hx : a.eval x = .pointer (some ⟨g, 0, none⟩)) (hr : w.rangeAt g 0 cs) (hl : cs.length = 11) :
    (execOp a.eval o).run Tryz.prog w = .ok (.value (.agg cs.toArray)) w := by
  have h := run_loadVar_mid (P := Tryz.prog) w g 0 46 cs _ hr Tryz.underlying46 rfl (by rw [hl]; kernel_rfl)
  unfold execOp
  simp only [ho, hx, Instr.loadAt, Instr.sureAddr, Sem.run_bind, Sem.run_pure, Result.andThen_ok, h]
theorem run_load_sl {o : Oper} {a : Act} {w : World} {x : Operand} {p : Addr} {A : Option Addr} {n c : Nat} (ho : o.op = .load 22 x) (hx : a.eval x = .pointer (some p)) (hc : w.cell? p = some (.slice A n c)) :
    (execOp a.eval o).run Tryz.prog w = .ok (.value (.slice A n c)) w := by
  unfold execOp
  simp only [ho, hx, Instr.loadAt, Instr.sureAddr, Sem.run_bind, Sem.run_pure, Result.andThen_ok]
  go_simp
theorem run_load_int {o : Oper} {a : Act} {w : World} {x : Operand} {p : Addr} {n : Int} (ho : o.op = .load 3 x) (hx : a.eval x = .pointer (some p)) (hc : w.cell? p = some (.int .i64 n)) :
    (execOp a.eval o).run Tryz.prog w = .ok (.value (.int .i64 n)) w := by
  unfold execOp
  simp only [ho, hx, Instr.loadAt, Instr.sureAddr, Sem.run_bind, Sem.run_pure, Result.andThen_ok]
  go_simp
theorem run_load_bool {o : Oper} {a : Act} {w : World} {x : Operand} {p : Addr} {b : Bool} (ho : o.op = .load 4 x) (hx : a.eval x = .pointer (some p)) (hc : w.cell? p = some (.bool b)) :
    (execOp a.eval o).run Tryz.prog w = .ok (.value (.bool b)) w := by
  unfold execOp
  simp only [ho, hx, Instr.loadAt, Instr.sureAddr, Sem.run_bind, Sem.run_pure, Result.andThen_ok]
  go_simp
def At4 (W : World) (g : Nat) (q : P4) (A : Option Addr) (c : Nat) (A' : Option Addr) (c' : Nat) : Prop := W.rangeAt g 0 (v4a q A c A' c').toList
section
variable {W : World} {g : Nat} {q : P4} {A A' : Option Addr} {c c' : Nat}
theorem At4.new (w : World) : At4 (w.alloc (.cells (v4a q A c A' c') 46)) w.heap.size q A c A' c' := fun j v hj => by
  rw [Nat.zero_add, World.cell?_alloc_new, ← hj, Array.getElem?_toList]
theorem At4.below {w : World} {B : Nat} (h : At4 W g q A c A' c') (hb : Below B W w) (hg : g < B) : At4 w g q A c A' c' := range_below h hg hb
theorem At4.tos (h : At4 W g q A c A' c') : W.cell? ⟨g, 0, none⟩ = some (.int .i64 q.tos) := h 0 _ rfl
theorem At4.id (h : At4 W g q A c A' c') : W.cell? ⟨g, 1, none⟩ = some (.int .i64 q.id) := h 1 _ rfl
theorem At4.off (h : At4 W g q A c A' c') : W.cell? ⟨g, 2, none⟩ = some (.int .i64 q.off) := h 2 _ rfl
theorem At4.ttl (h : At4 W g q A c A' c') : W.cell? ⟨g, 3, none⟩ = some (.int .i64 q.ttl) := h 3 _ rfl
theorem At4.proto (h : At4 W g q A c A' c') : W.cell? ⟨g, 4, none⟩ = some (.int .i64 q.proto) := h 4 _ rfl
theorem At4.src (h : At4 W g q A c A' c') : W.cell? ⟨g, 5, none⟩ = some (.int .i64 q.src) := h 5 _ rfl
theorem At4.dst (h : At4 W g q A c A' c') : W.cell? ⟨g, 6, none⟩ = some (.int .i64 q.dst) := h 6 _ rfl
theorem At4.df (h : At4 W g q A c A' c') : W.cell? ⟨g, 7, none⟩ = some (.bool q.df) := h 7 _ rfl
theorem At4.mf (h : At4 W g q A c A' c') : W.cell? ⟨g, 8, none⟩ = some (.bool q.mf) := h 8 _ rfl
theorem At4.opt (h : At4 W g q A c A' c') : W.cell? ⟨g, 9, none⟩ = some (.slice A q.opt.length c) := h 9 _ rfl
theorem At4.dat (h : At4 W g q A c A' c') : W.cell? ⟨g, 10, none⟩ = some (.slice A' q.dat.length c') := h 10 _ rfl
end
end Go.Proofs.YtpoigngpdcmipaaGreat
namespace Go.Proofs.YtpoigngpdcmipaaGreat
open Go.RowKit
theorem cellC {w : World} {g i : Nat} {cs : Array Value} {ty : TypeId} {fr : Nat × Nat} {v : Value} (h : w.heap[g]? = some (.cells cs ty fr)) (hi : cs[i]? = some v) : w.cell? ⟨g, i, none⟩ = some v := by
  simp [World.cell?, h, hi]
theorem load_intC {o : Oper} {a : Act} {w : World} {K : Act → World → Prop} {Q : Exit → Act → World → Prop} {x : Operand} {p : Addr} {n : Int} (ho : o.op = .load 3 x) (hx : a.eval x = .pointer (some p)) (hc : w.cell? p = some (.int .i64 n)) (h : K (a.put o.dst (.int .i64 n)) w) : o.wp Tryz.prog a w K Q := by
  have hr := run_load_int (o := o) (a := a) (w := w) (x := x) (p := p) (n := n) ho hx hc
  unfold Oper.wp
  rw [hr]
  exact h
theorem store_intC {o : Oper} {a : Act} {w : World} {K : Act → World → Prop} {Q : Exit → Act → World → Prop} {x y : Operand} {p : Addr} {v0 : Value} {n : Int} (ho : o.op = .store 3 x y) (hx : a.eval x = .pointer (some p)) (hy : a.eval y = .int .i64 n) (hc : w.cell? p = some v0) (hf : w.frozen? p = false) (h : K (a.put o.dst undef) (w.setCell p (.int .i64 n))) : o.wp Tryz.prog a w K Q := by
  unfold Oper.wp execOp
  simp only [ho, hx, hy]
  go_simp
  exact h
theorem wpList_vC {P : Program} {ops : Array Oper} {rest : List Oper} {o : Oper} {a : Act} {w : World} {Q : Exit → Act → World → Prop} {v : Value} (hg : o.guard = none) (hrun : (execOp a.eval o).run P w = .ok (.value v) w)
    (h : wpList P ops Q rest (a.put o.dst v) w) : wpList P ops Q (o :: rest) a w :=
  wpList_plain hg fun K hK => by unfold Oper.wp; rw [hrun]; exact hK _ _ h
def cnc (L : List Int) : Array Value := (.bool true :: L.map (Value.int .i64)).toArray
structure Cn (w : World) (k : Nat) (L : List Int) : Prop where
  obj : w.heap[k]? = some (.cells (cnc L) 97 (0, 0))
  n : L.length = 14
section
variable {w w' : World} {k : Nat} {L : List Int}
theorem Cn.below (h : Cn w k L) (hb : Below w.heap.size w w') : Cn w' k L := ⟨(hb.block k (heap_lt h.obj)).trans h.obj, h.n⟩
theorem Cn.keep (h : Cn w k L) (hb : w'.heap[k]? = w.heap[k]?) : Cn w' k L := ⟨hb.trans h.obj, h.n⟩
theorem Cn.made (h : Cn w k L) : w.cell? ⟨k, 0, none⟩ = some (.bool true) := cellC h.obj (by simp [cnc])
theorem Cn.at_ (h : Cn w k L) {j : Nat} {x : Int} (hx : L[j]? = some x) : w.cell? ⟨k, j + 1, none⟩ = some (.int .i64 x) := cellC h.obj (by simp [cnc, hx])
theorem Cn.fr (h : Cn w k L) (j : Nat) : w.frozen? ⟨k, j, none⟩ = false := heap_frozen h.obj j
theorem Cn.set (h : Cn w k L) (j : Nat) (x : Int) : Cn (w.setCell ⟨k, j + 1, none⟩ (.int .i64 x)) k (L.set j x) := by
  refine ⟨?_, by rw [List.length_set]; exact h.n⟩
  have := heap_setCell_same w k (j + 1) _ _ (.int .i64 x) h.obj
  rw [this]
  congr 2
  simp [cnc, List.map_set]
end
def upC (L : List Int) (r : Int) : List Int := if 0 < r ∧ r < 14 then L.set r.toNat (L.getD r.toNat 0 + 1) else L
def isC (r : Int) : Bool := decide (0 < r ∧ r < 14)
def zeroC : List Int := List.replicate 14 0
theorem inC (L : List Int) (hn : L.length = 14) (r : Int) : (¬ (0 < r ∧ r < 14)) ∨ ∃ (j : Nat) (x : Int), r = (j : Int) ∧ 0 < j ∧ j < 14 ∧ L[j]? = some x ∧ L.getD j 0 = x := by
  by_cases h : 0 < r ∧ r < 14
  · right
    refine ⟨r.toNat, L[r.toNat]'(by omega), by omega, by omega, by omega, List.getElem?_eq_getElem _, ?_⟩
    rw [List.getD_eq_getElem?_getD, List.getElem?_eq_getElem (by omega)]; rfl
  · exact .inl h
def bdC (L : List Int) (N : Nat) : Prop := ∀ x ∈ L, 0 ≤ x ∧ x ≤ (N : Int)
theorem bdC_zero : bdC zeroC 0 := fun x hx => by rw [zeroC] at hx; rw [List.eq_of_mem_replicate hx]; decide
theorem bdC_more {L : List Int} {N M : Nat} (h : bdC L N) (hm : N ≤ M) : bdC L M := fun x hx => ⟨(h x hx).1, by have := (h x hx).2; omega⟩
theorem bdC_up {L : List Int} {N : Nat} (h : bdC L N) (hn : L.length = 14) (r : Int) : bdC (upC L r) (N + 1) := by
  unfold upC
  split
  · rename_i hr
    intro x hx
    rcases List.mem_or_eq_of_mem_set hx with h1 | rfl
    · have := h x h1; omega
    · rcases inC L hn r with h1 | ⟨j, x, rfl, _, _, hx, hg⟩
      · exact absurd hr h1
      · have := h x (List.mem_of_getElem? hx)
        rw [show ((j : Int)).toNat = j by omega, hg]
        omega
  · exact bdC_more h (Nat.le_succ _)
set_option maxRecDepth 100000 in
theorem cnmade {w : World} {k : Nat} {L : List Int} (h : Cn w k L) : Calls Tryz.prog 59 #[.pointer (some ⟨k, 0, none⟩)] w fun e w' => e = .returned (.bool true) ∧ w = w' := by
  have k0 := h.made
  clear h
  go_enter Tryz.func59, Tryz.ntmps59
  go_wp2
  go_ret
  exact ⟨rfl, rfl⟩
theorem cndrop (r : Int) (w : World) : Calls Tryz.prog 60 #[.int .i64 r] w fun e w' => e = .returned (.bool (isC r)) ∧ w = w' := by
  by_cases h1 : 0 < r
  · have d1 : decide (0 < r) = true := decide_eq_true h1
    have e : isC r = decide (r < 14) := by simp [isC, h1]
    rw [e]
    clear e h1
    go_enter Tryz.func60, Tryz.ntmps60
    go_wp2
    go_ret
    exact ⟨rfl, rfl⟩
  · have d1 : decide (0 < r) = false := decide_eq_false h1
    have e : isC r = false := by simp [isC, h1]
    rw [e]
    clear e h1
    go_enter Tryz.func60, Tryz.ntmps60
    go_wp2
    go_ret
    exact ⟨rfl, rfl⟩
theorem run_buildC {o : Oper} {a : Act} {w : World} {x : Operand} (ho : o.op = .build 97 #[(0, x)]) (hx : a.eval x = .bool true) :
    (execOp a.eval o).run Tryz.prog w = .ok (.value (.agg (cnc zeroC))) w := by
  have e : (Array.map (fun y : Nat × Operand => (y.1, a.eval y.2)) #[(0, x)]) = #[(0, .bool true)] := by simp [hx]
  have hb : (Instr.build 97 #[(0, .bool true)]).run Tryz.prog w = .ok (.agg (cnc zeroC)) w := by kernel_rfl
  unfold execOp
  simp only [ho, e, Sem.run_bind, hb]
  rfl
set_option maxRecDepth 100000 in
theorem cnnew (w : World) : Calls Tryz.prog 24 #[] w fun e w' => e = .returned (.pointer (some ⟨w.heap.size, 0, none⟩)) ∧ Cn w' w.heap.size zeroC ∧ Below w.heap.size w w' := by
  go_enter Tryz.func24, Tryz.ntmps24
  go_wp2_with ((with_reducible show wpList _ _ _ (Oper.mk _ (Op.build 97 _) _ _ _ _ :: _) _ _); refine wpList_vC rfl (run_buildC rfl rfl) ?_)
  go_ret
  exact ⟨rfl, ⟨World.alloc_heap_new w _, by simp [zeroC]⟩, (Below.refl _ w).alloc (Nat.le_refl _) _⟩
section
variable {w : World} {k : Nat} {L : List Int}
set_option maxRecDepth 100000 in
theorem cnadd_out (h : Cn w k L) (r : Int) (ho : ¬ (0 < r ∧ r < 14)) : Calls Tryz.prog 29 #[.pointer (some ⟨k, 0, none⟩), .int .i64 r] w fun e w' => e = .returned (.bool false) ∧ w = w' := by
  have HK := Lib.hid h
  have D : Hid (isC r = false) := Lib.hid (decide_eq_false ho)
  clear h ho
  go_enter Tryz.func29, Tryz.ntmps29
  go_wp2_with (first
    | (go_at_call 59; refine (cnmade HK.out).mono ?_; rintro e w1 ⟨rfl, rfl⟩)
    | (go_at_call 60; refine (cndrop _ _).mono ?_; rintro e w1 ⟨rfl, rfl⟩; rw [D.out]))
  go_ret
  exact ⟨rfl, rfl⟩
set_option maxRecDepth 100000 in
theorem cnadd_in (h : Cn w k L) {j : Nat} {x : Int} (h0 : 0 < j) (hj : j < 14) (hx : L[j]? = some x) (hb : 0 ≤ x ∧ x ≤ 1000000000000) : Calls Tryz.prog 29 #[.pointer (some ⟨k, 0, none⟩), .int .i64 (j : Int)] w fun e w' => e = .returned (.bool true) ∧ ∃ v, Below w.heap.size w v ∧ w' = v.setCell ⟨k, j + 1, none⟩ (.int .i64 (x + 1)) := by
  have HK := Lib.hid h
  have D : Hid (isC (j : Int) = true) := Lib.hid (decide_eq_true (by omega))
  have HW : Hid (IntKind.i64.wrap (x + 1) = x + 1) := Lib.hid (IntWalk.i64_in _ (by omega))
  have KX : Hid (∀ V, Below w.heap.size w V → V.cell? ⟨k, 1 + j, none⟩ = some (.int .i64 x)) := Lib.hid (fun V hV => by rw [Nat.add_comm]; exact (h.below hV).at_ hx)
  have KF : Hid (∀ V, Below w.heap.size w V → V.frozen? ⟨k, 1 + j, none⟩ = false) := Lib.hid (fun V hV => (h.below hV).fr _)
  rw [show j + 1 = 1 + j by omega]
  clear h hx hb
  go_enter Tryz.func29, Tryz.ntmps29
  go_upto_region 3 with (first
    | (go_at_call 59; refine (cnmade HK.out).mono ?_; rintro e w1 ⟨rfl, rfl⟩)
    | (go_at_call 60; refine (cndrop _ _).mono ?_; rintro e w1 ⟨rfl, rfl⟩; rw [D.out]))
  refine wp_region_held_drew (S := fun _ => True) (by kernel_rfl) trivial (fun hS => ?_)
  refine held_pure (i := 0) (oi := ⟨some 13, _, _, _, _, _⟩) rfl (by kernel_rfl) (by kernel_rfl) (by kernel_rfl) (fun _ _ _ h => h) (by rfl) (v := ?_) (fun w hSw => ?_) hS (fun hS => ?_)
  rotate_left
  · go_simp; try with_reducible rfl
  try go_frame
  refine held_pure (i := 1) (oi := ⟨some 14, _, _, _, _, _⟩) rfl (by kernel_rfl) (by kernel_rfl) (by kernel_rfl) (fun _ _ _ h => h) (by rfl) (v := ?_) (fun w hSw => ?_) hS (fun hS => ?_)
  rotate_left
  · go_simp; try with_reducible rfl
  try go_frame
  refine held_pure (i := 2) (oi := ⟨some 15, _, _, _, _, _⟩) rfl (by kernel_rfl) (by kernel_rfl) (by kernel_rfl) (fun _ _ _ h => h) (by rfl) (v := ?_) (fun w hSw => ?_) hS (fun hS => ?_)
  rotate_left
  · go_simp; try with_reducible rfl
  try go_frame
  refine held_pure (i := 3) (oi := ⟨some 16, _, _, _, _, _⟩) rfl (by kernel_rfl) (by kernel_rfl) (by kernel_rfl) (fun _ _ _ h => h) (by rfl) (v := ?_) (fun w hSw => ?_) hS (fun hS => ?_)
  rotate_left
  · go_simp; try with_reducible rfl
  try go_frame
  refine held_pure (i := 4) (oi := ⟨some 17, _, _, _, _, _⟩) rfl (by kernel_rfl) (by kernel_rfl) (by kernel_rfl) (fun _ _ _ h => h) (by rfl) (v := .pointer (some ⟨k, 1 + j, none⟩)) (fun w hSw => by go_simp; (intro h9; exfalso; omega)) hS (fun hS => ?_)
  try go_frame
  refine held_pure (i := 7) (oi := ⟨some 20, _, _, _, _, _⟩) rfl (by kernel_rfl) (by kernel_rfl) (by kernel_rfl) (fun _ _ _ h => h) (by rfl) (v := ?_) (fun w hSw => ?_) hS (fun hS => ?_)
  rotate_left
  · go_simp; try with_reducible rfl
  try go_frame
  refine held_pure (i := 8) (oi := ⟨some 21, _, _, _, _, _⟩) rfl (by kernel_rfl) (by kernel_rfl) (by kernel_rfl) (fun _ _ _ h => h) (by rfl) (v := ?_) (fun w hSw => ?_) hS (fun hS => ?_)
  rotate_left
  · go_simp; try with_reducible rfl
  try go_frame
  refine wpAnyH_ready (rs := [5]) (by kernel_rfl) (by simp) (AllReadyH.cons (o := ⟨some 18, _, _, _, _, _⟩) rfl (fun K hK => ?_) AllReadyH.nil)
  rw [if_pos (by rfl)]
  refine load_intC rfl rfl (KX.out _ (Below.refl _ w).drew) ?_
  refine hK _ _ trivial (fun hS => ?_)
  clear hK K
  try go_frame
  refine held_pure (i := 6) (oi := ⟨some 19, _, _, _, _, _⟩) rfl (by kernel_rfl) (by kernel_rfl) (by kernel_rfl) (fun _ _ _ h => h) (by rfl) (v := .int .i64 (x + 1)) (fun w hSw => by go_simp; rw [HW.out]) hS (fun hS => ?_)
  try go_frame
  refine held_pure (i := 9) (oi := ⟨some 22, _, _, _, _, _⟩) rfl (by kernel_rfl) (by kernel_rfl) (by kernel_rfl) (fun _ _ _ h => h) (by rfl) (v := .pointer (some ⟨k, 1 + j, none⟩)) (fun w hSw => by go_simp; (intro h9; exfalso; omega)) hS (fun hS => ?_)
  try go_frame
  refine wpAnyH_ready (rs := [10]) (by kernel_rfl) (by simp) (AllReadyH.cons (o := ⟨none, _, _, _, _, _⟩) rfl (fun K hK => ?_) AllReadyH.nil)
  rw [if_pos (by rfl)]
  refine store_intC rfl rfl rfl (KX.out _ (Below.refl _ w).drew) (KF.out _ (Below.refl _ w).drew) ?_
  refine hK _ _ trivial (fun hS => ?_)
  clear hK K
  try go_frame
  refine wpAnyH_done (by kernel_rfl) ?_ _
  go_wp2_with fail
  go_ret
  exact ⟨rfl, _, (Below.refl _ w).drew, rfl⟩
def OneC (k : Nat) (w w' : World) : Prop := ∃ v, Below w.heap.size w v ∧ (w' = v ∨ ∃ q u, w' = v.setCell ⟨k, q, none⟩ u)
theorem OneC.block {w' : World} {i : Nat} (h : OneC k w w') (hi : i < w.heap.size) (hk : i ≠ k) : w'.heap[i]? = w.heap[i]? := by
  obtain ⟨v, hv, rfl | ⟨q, u, rfl⟩⟩ := h
  · exact hv.block i hi
  · exact (heap_setCell_other v ⟨k, q, none⟩ i u hk).trans (hv.block i hi)
theorem OneC.size {w' : World} (h : OneC k w w') : w.heap.size ≤ w'.heap.size := by
  obtain ⟨v, hv, rfl | ⟨q, u, rfl⟩⟩ := h
  · exact hv.size
  · simpa using hv.size
theorem cnadd (h : Cn w k L) {N : Nat} (hb : bdC L N) (hN : N ≤ 1000000000) (r : Int) : Calls Tryz.prog 29 #[.pointer (some ⟨k, 0, none⟩), .int .i64 r] w fun e w' => e = .returned (.bool (isC r)) ∧ Cn w' k (upC L r) ∧ OneC k w w' := by
  rcases inC L h.n r with ho | ⟨j, x, rfl, h0, hj, hx, hg⟩
  · refine (cnadd_out h r ho).mono ?_
    rintro e w' ⟨rfl, rfl⟩
    exact ⟨by rw [isC, decide_eq_false ho], by rw [upC, if_neg ho]; exact h, w, Below.refl _ _, .inl rfl⟩
  · have hx2 := hb x (List.mem_of_getElem? hx)
    refine (cnadd_in h h0 hj hx (by omega)).mono ?_
    rintro e w' ⟨rfl, v, hv, rfl⟩
    refine ⟨by rw [isC, decide_eq_true (by omega)], ?_, v, hv, .inr ⟨_, _, rfl⟩⟩
    rw [upC, if_pos (by omega), show ((j : Int)).toNat = j by omega, hg]
    exact (h.below hv).set j (x + 1)
end
end Go.Proofs.YtpoigngpdcmipaaGreat
namespace Go.Proofs.YtpoigngpdcmipaaGreat
open Go.RowKit Go.Shelf
def SeqTold {α : Type} (m : Nat) (P : Program) (g : Nat) (lb : Array Value) (encs : α → Array Value) (G : List α → α → World → Prop) (Kp : World → World → Prop) (S Sp : List α → Prop) (w : World) : Prop :=
  ∀ (l : Nat) (J Jx : List α → World → Prop) (W : World), Below w.heap.size w W → AbidesFrom W.heap.size J → AbidesFrom W.heap.size Jx →
    (∀ pre x X, J pre X → G pre x X → YieldAt Fence.wide (m - 1) P l (encs x) X fun e Y =>
      (e = .returned (.bool true) ∧ J (pre ++ [x]) Y ∧ Kp X Y) ∨ (e = .returned (.bool false) ∧ Jx (pre ++ [x]) Y)) →
    J [] W →
    CallsIn Fence.wide m P g (#[.func (.yield l) #[] #[]] ++ lb) W fun e Y => (∃ v, e = .returned v) ∧ ((∃ xs, S xs ∧ J xs Y) ∨ (∃ pre, Sp pre ∧ Jx pre Y))
def recd (fn : FuncId) (a : Act) (ps : Array Tmp) (assign body : Code) (D : Nat) (st : LoopState) (pe : Option Code) : Loop := { state := st, pending := pe, fn := fn, tmps := a.tmps, params := ps, assign := assign, body := body, defers := D }
structure Two (W : World) (D : Nat) (r : Loop) : Prop where
  calls : W.heap[D]? = some (.deferred (some []))
  rec_ : W.heap[D + 1]? = some (.loop r)
section
variable {W V : World} {D : Nat} {r : Loop}
theorem Two.turn (h : Two W D r) (s : Loop) : Two (W.putObj (D + 1) (.loop s)) D s :=
  ⟨(World.putObj_heap_other (by omega)).trans h.calls, World.putObj_heap_same (heap_lt h.rec_)⟩
theorem Two.abides (h : Two W D r) {row : Option Nat} (hg : W.grownBy V row) (hr : ∀ k, row = some k → ∃ o : Obj, W.heap[k]? = some o ∧ o.isWalk = true) : Two V D r :=
  ⟨(grownBy_keeps hg hr h.calls rfl).trans h.calls, (grownBy_keeps hg hr h.rec_ rfl).trans h.rec_⟩
theorem Two.keeps (h : Two W D r) (hk : KeepsFrom D W V) : Two V D r := ⟨hk.same _ _ (Nat.le_refl _) h.calls rfl, hk.same _ _ (by omega) h.rec_ rfl⟩
theorem Two.first (w : World) (r : Loop) : Two ((w.alloc (.deferred (some []))).alloc (.loop r)) w.heap.size r := by
  refine ⟨(Below.heap_alloc _ _ _ (by simp)).trans (World.alloc_heap_new w _), ?_⟩
  have := World.alloc_heap_new (w.alloc (.deferred (some []))) (.loop r)
  rwa [World.size_alloc] at this
end
theorem round_end {α : Type} {P : Program} {fn : FuncId} {a : Act} {ps : Array Tmp} {assign body : Code} {w X Y : World} {Kp : World → World → Prop} {I : List α → World → Prop} {Ix : Code → List α → World → Prop} {pre : List α}
    (hI : OwnFrom w.heap.size I) (hIx : ∀ c, OwnFrom w.heap.size (Ix c)) (hKt : ∀ {A B C : World}, Kp A B → Kp B C → Kp A C) (hKb : ∀ (W : World) (l : Nat) (r r' : Loop), w.heap.size ≤ l → W.heap[l]? = some (.loop r) → Kp W (W.putObj l (.loop r')))
    (X0 : World) (h0 : Kp X0 X) (hT : Two X w.heap.size (recd fn a ps assign body w.heap.size .busy none)) (e : Exit) (b : Act) (h : ownPostG w.heap.size Kp I Ix pre X e b Y) :
    roundPost P (w.heap.size + 1) (fun e Y => (e = .returned (.bool true) ∧ (I pre Y ∧ Two Y w.heap.size (recd fn a ps assign body w.heap.size .ready none)) ∧ Kp X0 Y) ∨
      (e = .returned (.bool false) ∧ ∃ c, Ix c pre Y ∧ Two Y w.heap.size (recd fn a ps assign body w.heap.size .done (some c)))) e b Y := by
  have jump : ∀ c, KeepsFrom w.heap.size X Y ∧ Ix c pre Y → ∃ v Z, (Instr.endRound (w.heap.size + 1) (some c)).run P Y = .ok v Z ∧
      ((Ending.returned v = .returned (.bool true) ∧ (I pre Z ∧ Two Z w.heap.size (recd fn a ps assign body w.heap.size .ready none)) ∧ Kp X0 Z) ∨
      (Ending.returned v = .returned (.bool false) ∧ ∃ c, Ix c pre Z ∧ Two Z w.heap.size (recd fn a ps assign body w.heap.size .done (some c)))) := fun c hp => by
    have ht := hT.keeps hp.1
    exact ⟨_, _, run_endRound (some c) ht.rec_, .inr ⟨rfl, c, (hIx c).putObj _ hp.2 (by omega) ht.rec_ rfl, ht.turn _⟩⟩
  cases e with
  | normal =>
    have ht := hT.keeps h.1
    exact ⟨_, _, run_endRound none ht.rec_, .inl ⟨rfl, ⟨hI.putObj _ h.2.2 (by omega) ht.rec_ rfl, ht.turn _⟩, hKt (hKt h0 h.2.1) (hKb _ _ _ _ (by omega) ht.rec_)⟩⟩
  | ret => exact jump .ret h
  | exit id => exact jump (.exit id) h
  | goto t => exact jump (.goto t) h
  | panic c => exact h.elim
  | outgrown => exact h.elim
theorem range_told {α : Type} {n : Nat} {P : Program} {g : Operand} {ps : Array Tmp} {assign body : Code} {Q : Exit → Act → World → Prop} {a : Act} {w : World} (h1 : 1 ≤ n)
    {gf : Nat} {lb : Array Value} (hg : a.eval g = .func (.func gf) #[] lb) (eg : ∀ args w, (callFunc gf args).run P w = .ok (.enter gf args) w)
    {encs : α → Array Value} {G : List α → α → World → Prop} {Kp : World → World → Prop} {S Sp : List α → Prop} {w0 : World} (hseq : SeqTold (n - 1) P gf lb encs G Kp S Sp w0)
    (hKt : ∀ {A B C : World}, Kp A B → Kp B C → Kp A C) (hKb : ∀ (W : World) (l : Nat) (r r' : Loop), w.heap.size ≤ l → W.heap[l]? = some (.loop r) → Kp W (W.putObj l (.loop r')))
    (hb0 : Below w0.heap.size w0 w) (hps : ∀ x, (encs x).size = ps.size)
    (hG : ∀ (pre : List α) (x : α) (W : World) (l : Nat) (r r' : Loop), G pre x W → w.heap.size ≤ l → W.heap[l]? = some (.loop r) → G pre x (W.putObj l (.loop r')))
    (I : List α → World → Prop) (Ix : Code → List α → World → Prop) (hI : OwnFrom w.heap.size I) (hIx : ∀ c, OwnFrom w.heap.size (Ix c)) (h0 : I [] w) (a₁ : α → Act)
    (hassign : ∀ (l : Nat) (x : α) (W : World) (K : Act → World → Prop), K (a₁ x) W →
      assign.wpIn (Fence.wide.inRound l) (n - 1 - 1) P (Exit.then K (fun _ _ _ => False)) { tmps := (ps.zip (encs x)).foldl (fun t (p, v) => t.setIfInBounds p v) a.tmps, defers := [] } W)
    (hbody : ∀ (l : Nat) (pre : List α) (x : α) (W : World), I pre W → G pre x W → body.wpIn (Fence.wide.inRound l) (n - 1 - 1) P (ownPostG w.heap.size Kp I Ix (pre ++ [x]) W) (a₁ x) W)
    (hdone : ∀ (D : Nat) (xs : List α) (W : World), w.heap.size ≤ D → S xs → I xs W → W.heap[D]? = some (.deferred (some [])) → Q .normal { a with defers := { target := .collected D, args := #[] } :: a.defers } W)
    (hstop : ∀ (D : Nat) (c : Code) (pre : List α) (W : World), w.heap.size ≤ D → Sp pre → Ix c pre W → W.heap[D]? = some (.deferred (some [])) → c.wpIn Fence.wide n P Q { a with defers := { target := .collected D, args := #[] } :: a.defers } W) :
    (Code.rangeFunc g ps assign body).wpIn Fence.wide n P Q a w := by
  refine wpIn_rangeFunc fun fn _ => ?_
  have t1 := Two.first w (recd fn a ps assign body w.heap.size .ready none)
  have b1 : Below w0.heap.size w0 ((w.alloc (.deferred (some []))).alloc (.loop (recd fn a ps assign body w.heap.size .ready none))) := (hb0.alloc hb0.size _).alloc (by have := hb0.size; simp; omega) _
  have i1 : I [] ((w.alloc (.deferred (some []))).alloc (.loop (recd fn a ps assign body w.heap.size .ready none))) := hI.alloc _ (hI.alloc _ h0)
  have z1 : w.heap.size ≤ ((w.alloc (.deferred (some []))).alloc (.loop (recd fn a ps assign body w.heap.size .ready none))).heap.size := by simp; omega
  obtain ⟨W1, hW1⟩ : ∃ W1, W1 = (w.alloc (.deferred (some []))).alloc (.loop (recd fn a ps assign body w.heap.size .ready none)) := ⟨_, rfl⟩
  rw [← hW1] at t1 b1 i1 z1
  refine ⟨w.heap.size + 1, [{ target := .collected w.heap.size, args := #[] }], W1, { target := .fn (.func gf) lb, args := #[.func (.yield (w.heap.size + 1)) #[] #[]] }, W1, gf, #[.func (.yield (w.heap.size + 1)) #[] #[]] ++ lb, W1,
    ?_, ?_, fun _ _ => trivial, ?_, fun _ => h1, ?_⟩
  · rw [hW1]; exact run_enterLoop_outer fn a.tmps ps assign body
  · simp only [resolve, hg]; simp [go_sem]
  · simp [invoke, go_sem, eg]
  · refine (hseq (w.heap.size + 1) (fun pre W => I pre W ∧ Two W w.heap.size (recd fn a ps assign body w.heap.size .ready none))
      (fun pre W => ∃ c, Ix c pre W ∧ Two W w.heap.size (recd fn a ps assign body w.heap.size .done (some c))) _ b1 ?_ ?_ ?_ ⟨i1, t1⟩).mono ?_
    · rintro s A B row ⟨hi, ht⟩ hgr hr
      exact ⟨hI s A B row hi hgr fun r e => by obtain ⟨hB, o, ho, hw⟩ := hr r e; exact ⟨by omega, o, ho, Obj.not_cells_of_walk hw⟩, ht.abides hgr fun r e => (hr r e).2⟩
    · rintro s A B row ⟨c, hi, ht⟩ hgr hr
      exact ⟨c, hIx c s A B row hi hgr fun r e => by obtain ⟨hB, o, ho, hw⟩ := hr r e; exact ⟨by omega, o, ho, Obj.not_cells_of_walk hw⟩, ht.abides hgr fun r e => (hr r e).2⟩
    · rintro pre x X ⟨hi, ht⟩ hgx
      refine ⟨fn, _, assign, body, run_yield ht.rec_ (hps x), roundIn_of_wpIn trivial (hassign _ x X _ ⟨_, run_beginRound ht.rec_ rfl, ?_⟩)⟩
      have hbu := ht.turn (recd fn a ps assign body w.heap.size .busy none)
      exact wpIn_mono (hbody _ pre x _ (hI.putObj _ hi (by omega) ht.rec_ rfl) (hG pre x X _ _ _ hgx (by omega) ht.rec_))
        (fun e b Y hp => by
          have hk0 : Kp X (X.putObj (w.heap.size + 1) (.loop (recd fn a ps assign body w.heap.size .busy none))) := hKb _ _ _ _ (by omega) ht.rec_
          exact round_end (P := P) (pre := pre ++ [x]) (Kp := Kp) (I := I) (Ix := Ix) hI hIx hKt hKb X hk0 hbu e b hp)
    · rintro e Y ⟨⟨v, rfl⟩, ⟨xs, hs, hi, ht⟩ | ⟨pre, hs, c, hi, ht⟩⟩
      · exact ⟨none, _, run_endLoop ht.rec_ (by simp [recd]), hdone _ xs _ (Nat.le_refl _) hs (hI.putObj _ hi (by omega) ht.rec_ rfl) (ht.turn _).calls⟩
      · exact ⟨some c, _, run_endLoop ht.rec_ (by simp [recd]), hstop _ c pre _ (Nat.le_refl _) hs ((hIx c).putObj _ hi (by omega) ht.rec_ rfl) (ht.turn _).calls⟩
end Go.Proofs.YtpoigngpdcmipaaGreat
namespace Go.Proofs.YtpoigngpdcmipaaGreat
open Go.RowKit
section
variable (q : P4) (A : Option Addr) (c : Nat) (A' : Option Addr) (c' : Nat) (w : World)
set_option maxHeartbeats 1000000 in
theorem r5size (ho : q.opt.length ≤ 1000000) (hd : q.dat.length ≤ 1000000) : Calls Tryz.prog 53 #[v4v q A c A' c'] w fun e w' => e = .returned (.int .i64 (size4 q)) ∧ Below w.heap.size w w' := by
  have hB : Below w.heap.size w (w.alloc (.cells (v4a q A c A' c') 46)) := (Below.refl w.heap.size w).alloc (Nat.le_refl _) _
  have hAt := At4.new (q := q) (A := A) (c := c) (A' := A') (c' := c') w
  have hz : (w.alloc (.cells (v4a q A c A' c') 46)).heap.size = w.heap.size + 1 := by simp
  have HZ := Lib.hid (show size4 q = head4 q + (q.dat.length : Int) from rfl)
  have hh : head4 q = 20 + (q.opt.length : Int) := rfl
  have hhb : 0 ≤ head4 q ∧ head4 q ≤ 1000020 := by omega
  clear hh
  have HW := Lib.hid (IntWalk.i64_in (head4 q + (q.dat.length : Int)) (by omega))
  unfold v4v
  rw [show #[Value.int .i64 q.tos, .int .i64 q.id, .int .i64 q.off, .int .i64 q.ttl, .int .i64 q.proto, .int .i64 q.src, .int .i64 q.dst, .bool q.df, .bool q.mf, .slice A q.opt.length c, .slice A' q.dat.length c'] = v4a q A c A' c' from rfl]
  go_enter Tryz.func53, Tryz.ntmps53
  go_wp2_with fail
  generalize w.alloc (.cells (v4a q A c A' c') 46) = W at *
  refine wp_region_held_drew (S := fun w' => Below W.heap.size W w') (by kernel_rfl) (Below.refl _ W).drew (fun hS => ?_)
  refine held_pure (i := 0) (oi := ⟨some 3, _, _, _, _, _⟩) rfl (by kernel_rfl) (by kernel_rfl) (by kernel_rfl) (fun _ _ _ h => h) (by rfl) (fun w hSw => run_load_v4 rfl rfl (hAt.below hSw (by omega)) rfl) hS (fun hS => ?_)
  try go_frame
  refine held_pure (i := 2) (oi := ⟨some 5, _, _, _, _, _⟩) rfl (by kernel_rfl) (by kernel_rfl) (by kernel_rfl) (fun _ _ _ h => h) (by rfl) (v := ?_) (fun w hSw => ?_) hS (fun hS => ?_)
  rotate_left
  · go_simp; try with_reducible rfl
  try go_frame
  refine held_pure (i := 3) (oi := ⟨some 6, _, _, _, _, _⟩) rfl (by kernel_rfl) (by kernel_rfl) (by kernel_rfl) (fun _ _ _ h => h) (by rfl) (fun w hSw => run_load_sl rfl rfl (hAt.below hSw (by omega)).dat) hS (fun hS => ?_)
  try go_frame
  refine held_pure (i := 4) (oi := ⟨some 7, _, _, _, _, _⟩) rfl (by kernel_rfl) (by kernel_rfl) (by kernel_rfl) (fun _ _ _ h => h) (by rfl) (v := ?_) (fun w hSw => ?_) hS (fun hS => ?_)
  rotate_left
  · go_simp; try with_reducible rfl
  try go_frame
  refine wpAnyH_ready (rs := [1]) (by kernel_rfl) (by simp) (AllReadyH.cons (o := ⟨some 4, _, _, _, _, _⟩) rfl (fun K hK => ?_) AllReadyH.nil)
  rw [if_pos (by rfl)]
  go_simp
  refine (r5head q A c A' c' _ ho).mono ?_
  rintro e w1 ⟨rfl, x1⟩
  show K _ _
  refine hK.out _ _ (below_step hS x1) (fun hS => ?_)
  clear hK K
  try go_frame
  refine held_pure (i := 5) (oi := ⟨some 8, _, _, _, _, _⟩) rfl (by kernel_rfl) (by kernel_rfl) (by kernel_rfl) (fun _ _ _ h => h) (by rfl) (v := ?_) (fun w hSw => ?_) hS (fun hS => ?_)
  rotate_left
  · go_simp; try with_reducible rfl
  try go_frame
  refine held_pure (i := 6) (oi := ⟨some 2, _, _, _, _, _⟩) rfl (by kernel_rfl) (by kernel_rfl) (by kernel_rfl) (fun _ _ _ h => h) (by rfl) (v := ?_) (fun w hSw => ?_) hS (fun hS => ?_)
  rotate_left
  · go_simp; try with_reducible rfl
  try go_frame
  refine wpAnyH_done (by kernel_rfl) ?_ _
  go_wp2_with fail
  go_ret
  exact ⟨ret_int (by rw [HZ.out]; exact HW.out), hB.trans (hS.mono (by omega))⟩
def fieldsB (q : P4) : Bool := fitsB q.tos 1 && fitsB q.ttl 1 && fitsB q.proto 1 && fitsB q.id 2
def placesB (q : P4) : Bool := okB q.src && okB q.dst && decide (0 ≤ q.off) && decide (q.off ≤ 65528) && decide (q.off % 8 = 0)
def optsB (q : P4) : Bool := decide (q.opt.length ≤ 40) && decide (q.opt.length % 4 = 0)
theorem arg4_iff (q : P4) : arg4 q ↔ fieldsB q = true ∧ placesB q = true ∧ optsB q = true ∧ (q.mf = true → q.dat.length % 8 = 0) := by
  unfold arg4 fieldsB placesB optsB
  simp only [Bool.and_eq_true, fitsB_iff, okB, decide_eq_true_eq, pw]
  constructor
  · rintro ⟨a1, a2, a3, a4, a5, a6, a7, a8, a9, a10, a11, a12, a13, a14, a15, a16, a17, a18⟩
    refine ⟨⟨⟨⟨?_, ?_⟩, ?_⟩, ?_⟩, ⟨⟨⟨⟨?_, ?_⟩, ?_⟩, ?_⟩, ?_⟩, ⟨?_, ?_⟩, a18⟩ <;> (try simp) <;> omega
  · rintro ⟨⟨⟨⟨f1, f2⟩, f3⟩, f4⟩, ⟨⟨⟨⟨p1, p2⟩, p3⟩, p4⟩, p5⟩, ⟨o1, o2⟩, hm⟩
    simp at f1 f2 f3 f4
    refine ⟨?_, ?_, ?_, ?_, ?_, ?_, ?_, ?_, ?_, ?_, ?_, ?_, ?_, ?_, ?_, ?_, ?_, hm⟩ <;> omega
set_option maxRecDepth 100000 in
set_option maxHeartbeats 4000000 in
theorem r5check (ho : q.opt.length ≤ 1000000) (hd : q.dat.length ≤ 1000000) : Calls Tryz.prog 51 #[v4v q A c A' c'] w fun e w' => e = .returned (.int .i64 (chk4 q)) ∧ Below w.heap.size w w' := by
  have hB : Below w.heap.size w (w.alloc (.cells (v4a q A c A' c') 46)) := (Below.refl w.heap.size w).alloc (Nat.le_refl _) _
  have hAt := At4.new (q := q) (A := A) (c := c) (A' := A') (c' := c') w
  have hz : (w.alloc (.cells (v4a q A c A' c') 46)).heap.size = w.heap.size + 1 := by simp
  have hg := World.alloc_heap_new w (.cells (v4a q A c A' c') 46)
  have h0 := hAt.tos; have h1 := hAt.id; have h2 := hAt.off; have h3 := hAt.ttl; have h4 := hAt.proto; have h5 := hAt.src; have h6 := hAt.dst; have h8 := hAt.mf; have h9 := hAt.opt; have h10 := hAt.dat
  unfold v4v
  rw [show #[Value.int .i64 q.tos, .int .i64 q.id, .int .i64 q.off, .int .i64 q.ttl, .int .i64 q.proto, .int .i64 q.src, .int .i64 q.dst, .bool q.df, .bool q.mf, .slice A q.opt.length c, .slice A' q.dat.length c'] = v4a q A c A' c' from rfl]
  go_enter Tryz.func51, Tryz.ntmps51
  go_upto_region 1 with fail
  generalize w.alloc (.cells (v4a q A c A' c') 46) = W at *
  obtain ⟨f0, hf0⟩ : ∃ b, b = fitsB q.tos 1 := ⟨_, rfl⟩
  obtain ⟨f1, hf1⟩ : ∃ b, b = fitsB q.ttl 1 := ⟨_, rfl⟩
  obtain ⟨f2, hf2⟩ : ∃ b, b = fitsB q.proto 1 := ⟨_, rfl⟩
  obtain ⟨f3, hf3⟩ : ∃ b, b = fitsB q.id 2 := ⟨_, rfl⟩
  have HF := Lib.hid (show fieldsB q = (f0 && f1 && f2 && f3) from by rw [fieldsB, hf0, hf1, hf2, hf3])
  have H0 := Lib.hid hf0; have H1 := Lib.hid hf1; have H2 := Lib.hid hf2; have H3 := Lib.hid hf3
  clear hf0 hf1 hf2 hf3
  go_cut [3] from 6 (fun s w' => s = .bool (f0 && f1 && f2 && f3) ∧ w' = W)
  case first =>
    cases f0 <;> cases f1 <;> cases f2 <;> cases f3 <;> (
      go_wp2_with (go_at_call 70; refine (rfits_any _ _ _).mono ?_; rintro e w' ⟨rfl, rfl⟩; (first | rw [← H0.out] | rw [← H1.out] | rw [← H2.out] | rw [← H3.out]))
      go_meet
      exact ⟨rfl, rfl⟩)
  case rest =>
    obtain ⟨hs3, hwc⟩ := hcut
    subst hs3; subst hwc
    go_upto_region 2 with fail
    obtain ⟨g0, hg0⟩ : ∃ b, b = okB q.src := ⟨_, rfl⟩
    obtain ⟨g1, hg1⟩ : ∃ b, b = okB q.dst := ⟨_, rfl⟩
    have HG := Lib.hid (show placesB q = (g0 && g1 && decide (0 ≤ q.off) && decide (q.off ≤ 65528) && decide (q.off % 8 = 0)) from by rw [placesB, hg0, hg1])
    have G0 := Lib.hid hg0; have G1 := Lib.hid hg1
    clear hg0 hg1
    go_cut [4] from 24 (fun s w' => s = .bool (g0 && g1 && decide (0 ≤ q.off) && decide (q.off ≤ 65528) && decide (q.off % 8 = 0)) ∧ w' = wc)
    case first =>
      by_cases p0 : 0 ≤ q.off
      · have p0' : decide (0 ≤ q.off) = true := by simpa using p0
        have ptm : Int.tmod q.off 8 = q.off % 8 := Int.tmod_eq_emod_of_nonneg p0
        by_cases p1 : q.off ≤ 65528
        · have p1' : decide (q.off ≤ 65528) = true := by simpa using p1
          by_cases p2 : q.off % 8 = 0
          · have p2' : (q.off % 8 == 0) = true := by simpa using p2
            have E := Lib.hid (show decide (q.off % 8 = 0) = true by simpa using p2)
            have E1 := Lib.hid p0'; have E2 := Lib.hid p1'
            clear p2
            cases g0 <;> cases g1 <;> (
              go_wp2_with (go_at_call 79; refine (r3right_any _ _).mono ?_; rintro e w' ⟨rfl, rfl⟩; (first | rw [← G0.out] | rw [← G1.out]))
              go_meet
              exact ⟨by simp [E.out, E1.out, E2.out], rfl⟩)
          · have p2' : (q.off % 8 == 0) = false := by simpa using p2
            have E := Lib.hid (show decide (q.off % 8 = 0) = false by simpa using p2)
            have E1 := Lib.hid p0'; have E2 := Lib.hid p1'
            clear p2
            cases g0 <;> cases g1 <;> (
              go_wp2_with (go_at_call 79; refine (r3right_any _ _).mono ?_; rintro e w' ⟨rfl, rfl⟩; (first | rw [← G0.out] | rw [← G1.out]))
              go_meet
              exact ⟨by simp [E.out, E1.out, E2.out], rfl⟩)
        · have p1' : decide (q.off ≤ 65528) = false := by simpa using p1
          have E1 := Lib.hid p0'; have E2 := Lib.hid p1'
          cases g0 <;> cases g1 <;> (
            go_wp2_with (go_at_call 79; refine (r3right_any _ _).mono ?_; rintro e w' ⟨rfl, rfl⟩; (first | rw [← G0.out] | rw [← G1.out]))
            go_meet
            exact ⟨by simp [E1.out, E2.out], rfl⟩)
      · have p0' : decide (0 ≤ q.off) = false := by simpa using p0
        have E1 := Lib.hid p0'
        cases g0 <;> cases g1 <;> (
          go_wp2_with (go_at_call 79; refine (r3right_any _ _).mono ?_; rintro e w' ⟨rfl, rfl⟩; (first | rw [← G0.out] | rw [← G1.out]))
          go_meet
          exact ⟨by simp [E1.out], rfl⟩)
    case rest =>
      obtain ⟨hs4, hwc⟩ := hcut
      subst hs4; subst hwc
      rw [← HF.out, ← HG.out]
      clear HF HG H0 H1 H2 H3 G0 G1
      go_upto_region 3 with fail
      have tm4 : Int.tmod (q.opt.length : Int) 4 = (q.opt.length : Int) % 4 := Int.tmod_eq_emod_of_nonneg (by omega)
      have tm8 : Int.tmod (q.dat.length : Int) 8 = (q.dat.length : Int) % 8 := Int.tmod_eq_emod_of_nonneg (by omega)
      have HA := Lib.hid (arg4_iff q)
      have HC : Hid (chk4 q = if arg4 q then (if size4 q > 65535 ∨ q.off > 65535 - (q.dat.length : Int) then 6 else 0) else 1) := Lib.hid rfl
      have HP := Lib.hid (show placesB q = true → 0 ≤ q.off ∧ q.off ≤ 65528 from fun h => by simp [placesB] at h; omega)
      obtain ⟨F, hF⟩ : ∃ b, b = fieldsB q := ⟨_, rfl⟩
      obtain ⟨G, hG⟩ : ∃ b, b = placesB q := ⟨_, rfl⟩
      obtain ⟨O, hO⟩ : ∃ b, b = optsB q := ⟨_, rfl⟩
      have HO := Lib.hid (show O = (decide (q.opt.length ≤ 40) && decide (q.opt.length % 4 = 0)) from hO)
      rw [← hF, ← hG] 
      rw [← hF, ← hG, ← hO] at HA
      rw [← hG] at HP
      clear hF hG hO
      go_cut [5] from 48 (fun s w' => s = .bool O ∧ w' = wc)
      case first =>
        by_cases o1 : q.opt.length ≤ 40
        · by_cases o2 : q.opt.length % 4 = 0
          · have o2' : (((q.opt.length : Int) % 4) == 0) = true := by simp; omega
            have E := Lib.hid (show O = true by rw [HO.out]; simp [o1, o2])
            clear o2 HA HP
            go_wp2_with fail
            go_meet
            exact ⟨by rw [E.out], rfl⟩
          · have o2' : (((q.opt.length : Int) % 4) == 0) = false := by rw [beq_eq_false_iff_ne]; omega
            have E := Lib.hid (show O = false by rw [HO.out]; simp [o1, o2])
            clear o2 HA HP
            go_wp2_with fail
            go_meet
            exact ⟨by rw [E.out], rfl⟩
        · have o1' : decide ((q.opt.length : Int) ≤ 40) = false := by simp; omega
          have E := Lib.hid (show O = false by rw [HO.out]; simp [o1])
          clear o1 HA HP
          go_wp2_with fail
          go_meet
          exact ⟨by rw [E.out], rfl⟩
      case rest =>
        obtain ⟨hs5, hwc⟩ := hcut
        subst hs5; subst hwc
        have HQ : ∀ b : Bool, q.mf = b → Hid (q.mf = b) := fun b h => Lib.hid h
        by_cases hA : arg4 q
        · obtain ⟨rfl, rfl, rfl, hm⟩ := HA.out.1 hA
          have hp := HP.out rfl
          have hA' := hA
          have hsz0 : 0 ≤ size4 q ∧ size4 q ≤ 2000020 := by unfold size4 head4; omega
          clear hA HA HP
          cases hmf : q.mf
          · rw [hmf] at h8
            clear hmf HQ hm
            by_cases s1 : 65535 < size4 q
            · have HR : Hid (chk4 q = 6) := Lib.hid (by rw [HC.out, if_pos hA', if_pos (.inl s1)])
              clear HC hA'
              go_wp2_with (first
                | ((with_reducible show wpList _ _ _ (Oper.mk _ (Op.load _ _) _ _ _ _ :: _) _ _); refine v4_load (g := w.heap.size) rfl hg rfl ?_)
                | (go_at_call 53; refine (r5size q A c A' c' _ ho hd).mono ?_; rintro e ws ⟨rfl, bS⟩; have h2 := (bS.cell (p := ⟨w.heap.size, 2, none⟩) (by show w.heap.size < _; omega)).trans h2; have h10 := (bS.cell (p := ⟨w.heap.size, 10, none⟩) (by show w.heap.size < _; omega)).trans h10))
              go_ret
              exact ⟨ret_int HR.out.symm, hB.trans (bS.mono hB.size)⟩
            · by_cases s2 : 65535 - (q.dat.length : Int) < q.off
              · have HR : Hid (chk4 q = 6) := Lib.hid (by rw [HC.out, if_pos hA', if_pos (.inr s2)])
                clear HC hA'
                go_wp2_with (first
                | ((with_reducible show wpList _ _ _ (Oper.mk _ (Op.load _ _) _ _ _ _ :: _) _ _); refine v4_load (g := w.heap.size) rfl hg rfl ?_)
                | (go_at_call 53; refine (r5size q A c A' c' _ ho hd).mono ?_; rintro e ws ⟨rfl, bS⟩; have h2 := (bS.cell (p := ⟨w.heap.size, 2, none⟩) (by show w.heap.size < _; omega)).trans h2; have h10 := (bS.cell (p := ⟨w.heap.size, 10, none⟩) (by show w.heap.size < _; omega)).trans h10))
                go_ret
                exact ⟨ret_int HR.out.symm, hB.trans (bS.mono hB.size)⟩
              · have HR : Hid (chk4 q = 0) := Lib.hid (by rw [HC.out, if_pos hA', if_neg (by omega)])
                clear HC hA'
                go_wp2_with (first
                | ((with_reducible show wpList _ _ _ (Oper.mk _ (Op.load _ _) _ _ _ _ :: _) _ _); refine v4_load (g := w.heap.size) rfl hg rfl ?_)
                | (go_at_call 53; refine (r5size q A c A' c' _ ho hd).mono ?_; rintro e ws ⟨rfl, bS⟩; have h2 := (bS.cell (p := ⟨w.heap.size, 2, none⟩) (by show w.heap.size < _; omega)).trans h2; have h10 := (bS.cell (p := ⟨w.heap.size, 10, none⟩) (by show w.heap.size < _; omega)).trans h10))
                go_ret
                exact ⟨ret_int HR.out.symm, hB.trans (bS.mono hB.size)⟩
          · have h8l := hm hmf
            have h8' : (((q.dat.length : Int) % 8) != 0) = false := by simp; omega
            rw [hmf] at h8
            clear hmf HQ hm h8l
            by_cases s1 : 65535 < size4 q
            · have HR : Hid (chk4 q = 6) := Lib.hid (by rw [HC.out, if_pos hA', if_pos (.inl s1)])
              clear HC hA'
              go_wp2_with (first
                | ((with_reducible show wpList _ _ _ (Oper.mk _ (Op.load _ _) _ _ _ _ :: _) _ _); refine v4_load (g := w.heap.size) rfl hg rfl ?_)
                | (go_at_call 53; refine (r5size q A c A' c' _ ho hd).mono ?_; rintro e ws ⟨rfl, bS⟩; have h2 := (bS.cell (p := ⟨w.heap.size, 2, none⟩) (by show w.heap.size < _; omega)).trans h2; have h10 := (bS.cell (p := ⟨w.heap.size, 10, none⟩) (by show w.heap.size < _; omega)).trans h10))
              go_ret
              exact ⟨ret_int HR.out.symm, hB.trans (bS.mono hB.size)⟩
            · by_cases s2 : 65535 - (q.dat.length : Int) < q.off
              · have HR : Hid (chk4 q = 6) := Lib.hid (by rw [HC.out, if_pos hA', if_pos (.inr s2)])
                clear HC hA'
                go_wp2_with (first
                | ((with_reducible show wpList _ _ _ (Oper.mk _ (Op.load _ _) _ _ _ _ :: _) _ _); refine v4_load (g := w.heap.size) rfl hg rfl ?_)
                | (go_at_call 53; refine (r5size q A c A' c' _ ho hd).mono ?_; rintro e ws ⟨rfl, bS⟩; have h2 := (bS.cell (p := ⟨w.heap.size, 2, none⟩) (by show w.heap.size < _; omega)).trans h2; have h10 := (bS.cell (p := ⟨w.heap.size, 10, none⟩) (by show w.heap.size < _; omega)).trans h10))
                go_ret
                exact ⟨ret_int HR.out.symm, hB.trans (bS.mono hB.size)⟩
              · have HR : Hid (chk4 q = 0) := Lib.hid (by rw [HC.out, if_pos hA', if_neg (by omega)])
                clear HC hA'
                go_wp2_with (first
                | ((with_reducible show wpList _ _ _ (Oper.mk _ (Op.load _ _) _ _ _ _ :: _) _ _); refine v4_load (g := w.heap.size) rfl hg rfl ?_)
                | (go_at_call 53; refine (r5size q A c A' c' _ ho hd).mono ?_; rintro e ws ⟨rfl, bS⟩; have h2 := (bS.cell (p := ⟨w.heap.size, 2, none⟩) (by show w.heap.size < _; omega)).trans h2; have h10 := (bS.cell (p := ⟨w.heap.size, 10, none⟩) (by show w.heap.size < _; omega)).trans h10))
                go_ret
                exact ⟨ret_int HR.out.symm, hB.trans (bS.mono hB.size)⟩
        · have HR : Hid (chk4 q = 1) := Lib.hid (by rw [HC.out, if_neg hA])
          have hno : ¬ (F = true ∧ G = true ∧ O = true ∧ (q.mf = true → q.dat.length % 8 = 0)) := fun h => hA (HA.out.2 h)
          clear hA HA HC HP
          cases hmf : q.mf
          · rw [hmf] at h8 hno
            clear hmf HQ
            have hno' : ¬ (F = true ∧ G = true ∧ O = true) := fun h => hno ⟨h.1, h.2.1, h.2.2, fun e => by cases e⟩
            clear hno
            cases F <;> cases G <;> cases O <;> first
              | exact absurd ⟨rfl, rfl, rfl⟩ hno'
              | (clear hno'
                 go_wp2_with fail
                 go_ret
                 exact ⟨ret_int HR.out.symm, hB⟩)
          · rw [hmf] at h8 hno
            clear hmf HQ
            by_cases h8l : q.dat.length % 8 = 0
            · have h8' : (((q.dat.length : Int) % 8) != 0) = false := by simp; omega
              have hno' : ¬ (F = true ∧ G = true ∧ O = true) := fun h => hno ⟨h.1, h.2.1, h.2.2, fun _ => h8l⟩
              clear hno h8l
              cases F <;> cases G <;> cases O <;> first
                | exact absurd ⟨rfl, rfl, rfl⟩ hno'
                | (clear hno'
                   go_wp2_with fail
                   go_ret
                   exact ⟨ret_int HR.out.symm, hB⟩)
            · have h8' : (((q.dat.length : Int) % 8) != 0) = true := by simp; omega
              clear hno h8l
              cases F <;> cases G <;> cases O <;> (
                   go_wp2_with fail
                   go_ret
                   exact ⟨ret_int HR.out.symm, hB⟩)
end
end Go.Proofs.YtpoigngpdcmipaaGreat
namespace Go.Proofs.YtpoigngpdcmipaaGreat
open Go.RowKit
def same4 (q r : P4) : Bool := (q.tos == r.tos && q.id == r.id && q.off == r.off && q.ttl == r.ttl && q.proto == r.proto && q.src == r.src && q.dst == r.dst) && (q.df == r.df) && (q.mf == r.mf) && decide (q.opt = r.opt) && decide (q.dat = r.dat)
theorem same4_iff {q r : P4} : same4 q r = true ↔ q = r := by
  obtain ⟨a0, a1, a2, a3, a4, a5, a6, a7, a8, a9, a10⟩ := q
  obtain ⟨b0, b1, b2, b3, b4, b5, b6, b7, b8, b9, b10⟩ := r
  simp only [same4, Bool.and_eq_true, beq_iff_eq, decide_eq_true_eq, P4.mk.injEq]
  constructor
  · rintro ⟨⟨⟨⟨⟨⟨⟨⟨⟨⟨h0, h1⟩, h2⟩, h3⟩, h4⟩, h5⟩, h6⟩, h7⟩, h8⟩, h9⟩, h10⟩; exact ⟨h0, h1, h2, h3, h4, h5, h6, h7, h8, h9, h10⟩
  · rintro ⟨h0, h1, h2, h3, h4, h5, h6, h7, h8, h9, h10⟩; exact ⟨⟨⟨⟨⟨⟨⟨⟨⟨⟨h0, h1⟩, h2⟩, h3⟩, h4⟩, h5⟩, h6⟩, h7⟩, h8⟩, h9⟩, h10⟩
end Go.Proofs.YtpoigngpdcmipaaGreat
