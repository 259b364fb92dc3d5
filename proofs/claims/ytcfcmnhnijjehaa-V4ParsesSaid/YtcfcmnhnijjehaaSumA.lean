/-
  Contracts of the program's sum: Add, Of, Right, Change. Conditions are each theorem's own.
-/
import Derived.Test.YtcfcmnhnijjehaaSumM
namespace Go.Proofs.Ytcfcmnhnijjehaa
open Go.RowKit Go.Shelf
attribute [local go_sem] Oper.semAt_some

/-! ### Many ranges over a function in one call: the marks that they leave -/

/-- The deferred calls are marks of blocks from lo on and below hi, each below the one ahead of it, that nothing was put into. -/
def Marks (lo : Nat) : Nat → List Deferred → World → Prop
  | _, [], _ => True
  | hi, d :: ds, w => ∃ D, d = { target := .collected D, args := #[] } ∧ lo ≤ D ∧ D < hi ∧ w.heap[D]? = some (.deferred (some [])) ∧ Marks lo D ds w
theorem Marks.keep {lo : Nat} {w w' : World} : ∀ {ds : List Deferred} {hi : Nat}, Marks lo hi ds w → (∀ k, lo ≤ k → k < hi → w'.heap[k]? = w.heap[k]?) → Marks lo hi ds w'
  | [], _, _, _ => trivial
  | _ :: _, _, ⟨D, e, h1, h2, h3, h4⟩, hk => ⟨D, e, h1, h2, (hk D h1 h2).trans h3, h4.keep fun k a b => hk k a (by omega)⟩
theorem Marks.more {lo : Nat} {w : World} : ∀ {ds : List Deferred} {hi hi' : Nat}, Marks lo hi ds w → hi ≤ hi' → Marks lo hi' ds w
  | [], _, _, _, _ => trivial
  | _ :: _, _, _, ⟨D, e, h1, h2, h3, h4⟩, hh => ⟨D, e, h1, by omega, h3, h4⟩
theorem Marks.push {lo hi D : Nat} {ds : List Deferred} {w : World} (h : Marks lo hi ds w) (hD : hi ≤ D) (hlo : lo ≤ D) (hK : w.heap[D]? = some (.deferred (some []))) :
    Marks lo (D + 1) ({ target := .collected D, args := #[] } :: ds) w := ⟨D, rfl, hlo, Nat.lt_succ_self D, hK, h.more hD⟩
theorem Marks.turn {lo : Nat} {w w' : World} {r : Option Nat} (hg : w.grownBy w' r) : ∀ {ds : List Deferred} {hi : Nat}, Marks lo hi ds w → (∀ k, r = some k → hi ≤ k) → Marks lo hi ds w'
  | [], _, _, _ => trivial
  | _ :: _, _, ⟨D, e, h1, h2, h3, h4⟩, hr => ⟨D, e, h1, h2, (hg.block D (heap_lt h3) (fun e => by have := hr D e.symm; omega)).trans h3, h4.turn hg fun k e => by have := hr k e; omega⟩

/-- A function that leaves with such marks: what holds behind the turn of each block holds at its end. -/
theorem leaves_marks {F : Fence} {n : Nat} {P : Program} {fn : Func} {tmps : Array Value} {R : Ending → World → Prop} (lo : Nat) (K : World → Prop)
    (hK : ∀ (w : World) (D : Nat), K w → lo ≤ D → w.heap[D]? = some (.deferred (some [])) → K (w.putObj D (.deferred none)))
    (hE : ∀ w, K w → LeavesInM F n P fn tmps R [] .returning w) : ∀ (ds : List Deferred) (hi : Nat) (w : World), Marks lo hi ds w → K w → LeavesInM F n P fn tmps R ds .returning w
  | [], _, w, _, hk => hE w hk
  | _ :: ds, _, w, ⟨D, e, h1, h2, h3, h4⟩, hk => by
    subst e
    refine ⟨by simp, .inl ⟨D, _, rfl, run_takeDeferred h3, ?_⟩⟩
    exact leaves_marks lo K hK hE ds D _ (h4.keep fun k _ hkD => World.putObj_heap_other (by omega)) (hK w D hk h1 h3)

/-- The sum of the pairs that have come. -/
def lsum (bs : List UInt8) : List Nat → Int := List.foldl (fun s x => s + wrd bs x) 0
theorem lsum_snoc (bs : List UInt8) (pre : List Nat) (x : Nat) : lsum bs (pre ++ [x]) = lsum bs pre + wrd bs x := by simp [lsum]
theorem lsum_range (bs : List UInt8) (k : Nat) : lsum bs (List.range k) = wsum bs k := by
  induction k with
  | zero => rfl
  | succ k ih => rw [List.range_succ, lsum_snoc, ih, wsum_succ]
theorem lsum_bd (bs : List UInt8) (pre : List Nat) : 0 ≤ lsum bs pre ∧ lsum bs pre ≤ 65535 * (pre.length : Int) := by
  suffices h : ∀ (pre : List Nat) (s : Int) (m : Int), 0 ≤ s → s ≤ 65535 * m → 0 ≤ List.foldl (fun s x => s + wrd bs x) s pre ∧ List.foldl (fun s x => s + wrd bs x) s pre ≤ 65535 * (m + (pre.length : Int)) by
    simpa [lsum] using h pre 0 0 (by omega) (by omega)
  intro pre
  induction pre with
  | nil => intro s m h0 h1; simpa using ⟨h0, h1⟩
  | cons x l ih =>
    intro s m h0 h1
    have hx := wrd_bd bs x
    have := ih (s + wrd bs x) (m + 1) (by omega) (by omega)
    rw [List.foldl_cons, List.length_cons]
    refine ⟨this.1, ?_⟩
    have h2 := this.2
    omega

set_option maxRecDepth 100000 in
set_option maxHeartbeats 4000000 in
theorem add_any (A : Option Addr) (ps : List (List UInt8)) (c B : Nat) (w : World) (h : Rd2 w B A ps) (hB : B ≤ w.heap.size) (hl : bulk ps ≤ 1099511627000) (hn : ps.length ≤ 1099511627000) :
    Calls Try.prog 79 #[.slice A ps.length c] w fun e w' => e = .returned (.int .i64 (fold (psum ps))) ∧ Below w.heap.size w w' := by
  refine (callsIn_wide (n := 4)).1 ?_
  refine callsIn_of_wp_marks Try.func79 rfl trivial ?_ rfl
  simp only [Try.ntmps79, List.size_toArray, List.length_cons, List.length_nil, Nat.reduceAdd, Nat.reduceSub, Array.replicate_succ, Array.replicate_zero, List.push_toArray, List.append_toArray, List.nil_append, List.cons_append]
  have b0 := Boxed.new w 3 (.int .i64 0)
  have hB0 : Below w.heap.size w (w.alloc (.cells #[.int .i64 0] 3)) := (Below.refl _ w).alloc (Nat.le_refl _) _
  gi_wp2
  refine wpIn_loop (fun a W => ∃ (k : Nat) (ds : List Deferred) (u5 u7 u11 u12 u13 u14 u15 u16 u17 u18 u19 u20 u21 : Value), k ≤ ps.length ∧
      a = { tmps := #[.slice A ps.length c, undef, .int .i64 0, .pointer (some ⟨w.heap.size, 0, none⟩), undef, u5, undef, u7, .slice A ps.length c, .int .i64 (ps.length : Int), .int .i64 (k : Int), u11, u12, u13, u14, u15, u16, u17, u18, u19, u20, u21, undef, undef], defers := ds } ∧
      Marks (w.heap.size + 1) W.heap.size ds W ∧ Boxed W w.heap.size 3 (.int .i64 (psum (ps.take k))) ∧ Below w.heap.size w W)
    (fun a _ => ps.length - (intOf (a.tmps.getD 10 undef)).toNat) ?start ?round
  case start =>
    exact ⟨0, [], _, _, _, _, _, _, _, _, _, _, _, _, _, Nat.zero_le _, rfl, trivial, by simpa [psum] using b0, hB0⟩
  case round =>
    rintro a W ⟨k, ds, u5, u7, u11, u12, u13, u14, u15, u16, u17, u18, u19, u20, u21, hk, rfl, hm, hb, hBW⟩
    have hbd := psum_bd (ps.take k)
    have hbl := bulk_le ps k
    have hc := hb.cell
    by_cases hlt : k < ps.length
    · obtain ⟨bs, hbs⟩ : ∃ bs, ps[k]? = some bs := ⟨_, List.getElem?_eq_getElem hlt⟩
      obtain ⟨b, off, rfl, hbB, hcell⟩ := h.below (hBW.mono hB) (by omega)
      obtain ⟨Aj, cj, hcj, harg⟩ := hcell k bs hbs
      have hlen := len_bulk hbs
      have Hbs := Lib.hid hbs
      clear hcell hbs h
      gi_wp2_with (refine ⟨trivial, ?_⟩; gi_at_call 91; refine (callsIn_wide.2 (words_any Aj bs cj B _ harg.rd (Nat.le_trans hB hBW.size) (by omega))).mono ?_; rintro e w2 ⟨Bs, rfl, hbW, hseq⟩)
      have hWl := hBW.size
      have hw2 := hbW.size
      have hB2 : Below w.heap.size w w2 := hBW.trans (hbW.mono hWl)
      have hblt := hb.lt
      have hm2 : Marks (w.heap.size + 1) W.heap.size ds w2 := hm.keep fun k _ h2 => hbW.block k h2
      have hb2 := Boxed.below hb hbW hblt
      have hpl : prs bs.length ≤ bs.length + 1 := by unfold prs; omega
      obtain ⟨S, hS⟩ : ∃ S, S = psum (ps.take k) := ⟨_, rfl⟩
      rw [← hS] at hbd hb2
      have HS := Lib.hid hS
      clear hS hc hm hb
      refine wpIn_rangeFunc_ownG rfl (by omega) (gf := 95) (lb := #[.pointer (some ⟨Bs, 0, none⟩)]) rfl trivial (enters_of Try.func95 (by kernel_rfl) rfl)
        (hseq (4 - 1) (by omega)) Holds.trans (Holds.b (Nat.le_refl _)) (Below.refl _ _) (fun _ => rfl)
        (fun pre X => Marks (w.heap.size + 1) W.heap.size ds X ∧ Boxed X w.heap.size 3 (.int .i64 (S + lsum bs pre)) ∧ Below w.heap.size w X)
        (fun _ _ _ => False)
        (fun pre X Y r hs hg hr => ⟨hs.1.turn hg (fun k e => Nat.le_trans hw2 (hr k e).1), box_keep hs.2.1 hg hr, below_keep hs.2.2 hg hr (by omega) (Nat.le_refl _)⟩)
        (fun _ _ _ _ _ hs _ _ => hs)
        ⟨hm2, by simpa [lsum] using hb2, hB2⟩
        (fun x => { tmps := #[.slice (some ⟨b, off, none⟩) ps.length c, undef, .int .i64 0, .pointer (some ⟨w.heap.size, 0, none⟩), undef, .slice Aj bs.length cj, undef, .int .i64 (wrd bs x), .slice (some ⟨b, off, none⟩) ps.length c, .int .i64 (ps.length : Int), .int .i64 (k : Int), .bool true, .pointer (some ⟨b, off + k, none⟩), .slice Aj bs.length cj, .slice Aj bs.length cj, .func (.func 95) #[] #[.pointer (some ⟨Bs, 0, none⟩)], .int .i64 (dbl x), .int .i64 (wrd bs x), u18, u19, u20, u21, undef, undef], defers := [] }) ?assign ?body ?done ?stop
      case assign =>
        intro l x X K hK
        dsimp only [encW]
        gi_wp2
        exact hK
      case body =>
        rintro l pre x X ⟨hmX, hbX, hBX⟩ hlt2
        have hx := wrd_bd bs x
        have hls := lsum_bd bs pre
        have hcX := hbX.cell
        have hfX := hbX.frozen
        have HSn := Lib.hid (lsum_snoc bs pre x)
        generalize lsum bs pre = T at *
        generalize wrd bs x = y at *
        gi_wp2
        refine ⟨(KeepsOthers.setCell _ _ _).from _, Holds.setCell (.inl (by simpa using hblt)) _, hmX.keep (fun k h1 _ => Below.heap_setCell _ _ _ _ (by simp; omega)), ?_, hBX.setCell (p := ⟨w.heap.size, 0, none⟩) (Nat.le_refl _) _⟩
        rw [HSn.out, ← Int.add_assoc]
        exact Boxed.set _ hbX
      case done =>
        rintro D ys X hD rfl ⟨hmX, hbX, hBX⟩ hK
        gi_wp2
        have hDX := heap_lt hK
        refine ⟨⟨k + 1, _, _, _, _, _, _, _, _, _, _, _, _, _, _, by omega, rfl, (hmX.push (Nat.le_trans hw2 hD) (by omega) hK).more (by omega), ?_, hBX⟩, ?_⟩
        · rw [psum_take ps Hbs.out, ← HS.out, wall, ← lsum_range]
          exact hbX
        · simp [intOf]; omega
      case stop =>
        rintro D c pre X _ _ h _
        exact h.elim
    · obtain rfl : k = ps.length := by omega
      have hb0 := psum_bd ps
      gi_wp2_with (refine ⟨trivial, ?_⟩; gi_at_call 92; refine (callsIn_wide.2 (fold_any _ _ (by omega))).mono ?_; rintro e w' ⟨rfl, rfl⟩)
      exact leaves_marks (w.heap.size + 1) (fun X => Below w.heap.size w X) (fun X D hX h1 h2 => hX.trans (belowK_b (w := w) (Nat.le_refl _) X D _ _ (by omega) h2 rfl rfl))
        (fun X hX => ⟨_, results_tmp rfl _ _ _, rfl, hX⟩) ds _ W hm hBW

theorem of_any (A : Option Addr) (ps : List (List UInt8)) (c B : Nat) (w : World) (h : Rd2 w B A ps) (hB : B ≤ w.heap.size) (hl : bulk ps ≤ 1099511627000) (hn : ps.length ≤ 1099511627000) :
    Calls Try.prog 74 #[.slice A ps.length c] w fun e w' => e = .returned (.int .i64 (65535 - fold (psum ps))) ∧ Below w.heap.size w w' := by
  have hf := fold_bd (psum ps)
  go_enter Try.func74, Try.ntmps74
  go_wp2_with (go_at_call 79; refine (add_any A ps c B _ h hB hl hn).mono ?_; rintro e w1 ⟨rfl, hb⟩)
  go_ret
  exact ⟨rfl, hb⟩

/-- Is a sum right? A plain definition. -/
def rightB (ps : List (List UInt8)) : Bool := fold (psum ps) == 65535
theorem right_any (A : Option Addr) (ps : List (List UInt8)) (c B : Nat) (w : World) (h : Rd2 w B A ps) (hB : B ≤ w.heap.size) (hl : bulk ps ≤ 1099511627000) (hn : ps.length ≤ 1099511627000) :
    Calls Try.prog 59 #[.slice A ps.length c] w fun e w' => e = .returned (.bool (rightB ps)) ∧ Below w.heap.size w w' := by
  go_enter Try.func59, Try.ntmps59
  go_wp2_with (go_at_call 79; refine (add_any A ps c B _ h hB hl hn).mono ?_; rintro e w1 ⟨rfl, hb⟩)
  go_ret
  exact ⟨rfl, hb⟩

/-- Change, said at once. -/
def chg (s : Int) (old now : List UInt8) : Int := if 0 ≤ s ∧ s ≤ 65535 then 65535 - fold (65535 - s + (65535 * (prs old.length : Int) - wall old) + wall now) else 0
theorem chg_no {s : Int} {old now : List UInt8} (h : ¬ (0 ≤ s ∧ s ≤ 65535)) : chg s old now = 0 := by rw [chg, if_neg h]

end Go.Proofs.Ytcfcmnhnijjehaa
