/-
  Contracts and lemmas on which the proofs of this seat stand (several texts in one). Conditions are each theorem's own.
-/
import Derived.Test.YtkgbjohadkbjaaaWa10
import Derived.Test.YtkgbjohadkbjaaaWa3

/-
  What layer 17's laws call first: numbers held against each other, a new wheel, the small example. Conditions are each theorem's own.
-/
namespace Go.Proofs.Ytkgbjohadkbjaaa
open Go.RowKit Go.Shelf Go.Maps Go.WideMaps Go.ChangeShapes Go.WideShapes
def clI_ (z : Int) : List Value := [.int .i64 z]
theorem flatI (zs : List Int) : zs.map (Value.int .i64) = zs.flatMap clI_ := by
  induction zs with
  | nil => rfl
  | cons z zs ih => rw [List.map_cons, List.flatMap_cons, ih]; rfl
theorem weq {w : World} {b : Nat} {v : Value} {zs ys : List Int} {g : Nat} (ho : w.ownsRow b 3 1 v zs.length (zs.map (Value.int .i64))) (hg : w.heap[g]? = some (.cells (ys.map (Value.int .i64)).toArray 3 (0, 0))) (hz : zs.length ≤ 1000000) (hy : ys.length ≤ 1000000) :
    Calls Try.prog 15 #[v, .slice (some ⟨g, 0, none⟩) ys.length ys.length] w fun e w' => e = .returned (.bool (decide (zs = ys))) ∧ Below w.heap.size w w' := by
  obtain ⟨A, c, ev, hrd, _⟩ := own_rds (cl := clI_) (sz := 1) (l := zs) ho rfl (flatI zs) (fun _ _ => rfl)
  subst ev
  cases zs with
  | nil =>
    refine (Try.slices_Equal_int_empty A (some ⟨g, 0, none⟩) c ys.length ys.length w (by omega)).mono ?_
    rintro e w' ⟨rfl, rfl⟩
    refine ⟨?_, Below.refl _ _⟩
    cases ys <;> simp
  | cons z zs =>
    obtain ⟨g1, o1, rfl, _, hr⟩ := hrd (by simp)
    refine (Try.slices_Equal_int g1 o1 (z :: zs).length c g 0 ys.length ys.length (z :: zs) ys w (Nat.le_refl _) (Nat.le_refl _) (by omega) (by omega) (fun j hj => ?_) (fun j hj => ?_)).mono ?_
    · have := hr j (z :: zs)[j] (List.getElem?_eq_getElem hj) 0 _ rfl
      rw [Nat.mul_one, Nat.add_zero] at this
      rw [this, List.getD_eq_getElem?_getD, List.getElem?_eq_getElem hj]; rfl
    · have h0 : (ys.map (Value.int .i64)).toArray[j]? = some (.int .i64 (ys.getD j 0)) := by
        rw [List.getElem?_toArray, List.getElem?_map, List.getElem?_eq_getElem hj, List.getD_eq_getElem?_getD, List.getElem?_eq_getElem hj]; rfl
      rw [Nat.zero_add]
      exact cells_at hg h0
    · rintro e w' ⟨rfl, q, rfl⟩
      refine ⟨?_, below_drewN (Below.refl _ _) q⟩
      rw [List.take_length, List.take_length]
      congr 2
      rw [Bool.eq_iff_iff]; simp
section
variable {w w' : World} {B0 d M N b n : Nat} {most : Int} {now : Nat} {E : List Te}
theorem Iw.swap {x y : Int} (h : Iw w b n [x, y]) : Iw w b n [y, x] := by
  obtain ⟨D, ho, hc, hz, hnd, hw⟩ := h
  refine ⟨D, ho, fun k hk => ?_, hz, ?_, fun k hk => hw k (by simp at hk ⊢; exact hk.symm)⟩
  · rw [hc k hk, Bool.eq_iff_iff]; simp [or_comm]
  · simp at hnd ⊢; exact fun e => hnd e.symm
theorem Ws.swap {x y : Te} (h : Ws w B0 d M most now [x, y] N) : Ws w B0 d M most now [y, x] N := by
  obtain ⟨T, h1, h2, h3⟩ := h.T
  have hp := h.pw
  simp at hp
  refine ⟨⟨T, h1, fun e he => h2 e (by simp at he ⊢; exact he.symm), fun q hq => h3 q (fun e he => hq e (by simp at he ⊢; exact he.symm))⟩, h.im.swap, fun e he => h.tm e (by simp at he ⊢; exact he.symm), ?_, h.z⟩
  simp; exact ⟨fun e => hp.1 e.symm, fun e => hp.2 e.symm⟩
theorem wnewS (most : Int) (w : World) (h0 : 0 ≤ most) (h1 : most ≤ 1048576) : Calls Try.prog 12 #[.int .i64 most] w fun e w' =>
    ∃ d M, e = .returned (.tuple #[.pointer (some ⟨d, 0, none⟩), .int .i64 0]) ∧ Ws w' w.heap.size d M most 0 [] 0 ∧ Below w.heap.size w w' := by
  refine (wnew most w h0 h1).mono ?_
  rintro e w' ⟨d, M, rfl, hw, hi, hb, hd, hM, _⟩
  exact ⟨d, M, rfl, ⟨⟨_, hw, fun e he => (by cases he), fun _ _ => rfl⟩, hi, fun e he => (by cases he), List.Pairwise.nil, ⟨hd, hM⟩⟩, hb⟩
theorem warm0 (h : Ws w B0 d M most 0 E N) (id : Int) (hid : 0 ≤ id ∧ id ≤ 2147483648) (a q : Nat) (z : Int) (hza : z = (a : Int)) (ha : a ≤ 2 ^ 40) (hnew : ∀ e ∈ E, e.id ≠ id) (hroom : (E.length : Int) < most) (hN : N < maxLen) (hqe : slotN a 0 = q) (hq : ∀ e ∈ E, e.q ≠ q) :
    Calls Try.prog 13 #[.pointer (some ⟨d, 0, none⟩), .int .i64 id, .int .i64 z] w fun e w' => e = .returned (.int .i64 0) ∧ ∃ b, Ws w' B0 d M most 0 (⟨q, b, id, a⟩ :: E) (N + 1) ∧ Below B0 w w' := by
  subst hza
  have := warm h id hid a ha (by decide) hnew hroom hN (by rw [Nat.max_eq_left (Nat.zero_le a), hqe]; exact hq)
  rw [Nat.max_eq_left (Nat.zero_le a), hqe] at this
  exact this.mono fun e w' ⟨h1, b, _, h2, h3⟩ => ⟨h1, b, h2, h3⟩
end
theorem slot5 : slotN 5 0 = 5 := by decide +kernel
theorem slot3 : slotN 3 0 = 3 := by decide +kernel
theorem slot40 : slotN (2 ^ 40) 0 = 400 := by decide +kernel
set_option maxRecDepth 100000 in
set_option maxHeartbeats 1000000 in
theorem awake17 (w : World) : Calls Try.prog 11 #[] w fun e w' => e = .returned (.bool true) ∧ Below w.heap.size w w' := by
  go_enter Try.func11, Try.ntmps11
  go_upto_region 2 with (go_at_call 12; refine (wnewS 9 w (by decide) (by decide)).mono ?_; rintro e w1 ⟨d, M, rfl, h1, x1⟩)
  have HA1 := Lib.hid (warm0 h1 1 ⟨by decide, by decide⟩ 5 5 5 rfl (by decide) (fun e he => by cases he) (by decide) (by decide) slot5 (fun e he => by cases he))
  clear h1
  go_upto_region 4 with (first
    | (go_at_call 13; with_reducible refine HA1.out.mono ?_; rintro e w2 ⟨rfl, b1, h2, x2⟩; have HA2 := Lib.hid (warm0 h2 2 ⟨by decide, by decide⟩ 3 3 3 rfl (by decide) (fun e he => by rw [List.mem_singleton] at he; rw [he]; show (1 : Int) ≠ 2; decide) (by simp) (by decide) slot3 (fun e he => by rw [List.mem_singleton] at he; rw [he]; show (5 : Nat) ≠ 3; decide)); clear h2)
    | (go_at_call 13; with_reducible refine HA2.out.mono ?_; rintro e w3 ⟨rfl, b2, h3, x3⟩))
  have hAd := wadv_due h3 (by simp) (by simp) (fun e he => by simp at he; rcases he with rfl | rfl; exact (by decide : (3 : Nat) ≤ 2 ^ 40); exact (by decide : (5 : Nat) ≤ 2 ^ 40)) 5 (by decide) (by decide)
  have hT : ([⟨3, b2, 2, 3⟩, ⟨5, b1, 1, 5⟩] : List Te).takeWhile (tkN 5) = [⟨3, b2, 2, 3⟩, ⟨5, b1, 1, 5⟩] := by simp [List.takeWhile, tkN, shN]
  have hD : ([⟨3, b2, 2, 3⟩, ⟨5, b1, 1, 5⟩] : List Te).dropWhile (tkN 5) = [] := by simp [List.dropWhile, tkN, shN]
  rw [hT, hD, show ((5 : Nat) : Int) = 5 from rfl] at hAd
  have HAD := Lib.hid (hAd (fun e he => by simp at he; rcases he with rfl | rfl; exact (by decide : (3 : Nat) ≤ 5); exact (by decide : (5 : Nat) ≤ 5)) (by simp) (by simp))
  have hx3 := x1.trans ((x2.trans (x3.mono (Nat.le_refl _))).mono (Nat.le_refl _))
  clear hAd hT hD h3
  go_wp2_with (first
    | (go_at_call 14; with_reducible refine HAD.out.mono ?_; rintro e w4 ⟨v4, rfl, ho4, h4, x4⟩; obtain ⟨T4, hT4, _, _⟩ := h4.T; have hEQ := Lib.hid (weq (zs := [2, 1]) (ys := [2, 1]) (own_below ho4 ((Below.refl w4.heap.size w4).alloc (Nat.le_refl _) (.cells #[.int .i64 2, .int .i64 1] 3))) (World.alloc_heap_new w4 (.cells #[.int .i64 2, .int .i64 1] 3)) (by decide) (by decide)); have HT4 := Lib.hid hT4; have HI4 := Lib.hid h4.im; clear ho4 h4 hT4)
    | (go_at_call 15; refine hEQ.out.mono ?_; rintro e w5 ⟨rfl, x5⟩)
    | (go_at_call 38; refine (wlen (T := T4) (HT4.out.of_block ((x5.block d (by have := HT4.out.lt; simp; omega)).trans (Below.heap_alloc w4 _ d HT4.out.lt))) (HI4.out.of_block ((x5.block M (by have := HI4.out.lt; simp; omega)).trans (Below.heap_alloc w4 _ M HI4.out.lt)))).mono ?_; rintro e w6 ⟨rfl, rfl⟩))
  go_ret
  have a4 : w.heap.size ≤ w4.heap.size := Nat.le_trans hx3.size x4.size
  have xa : Below w4.heap.size w4 (w4.alloc (.cells #[.int .i64 2, .int .i64 1] 3)) := (Below.refl _ w4).alloc (Nat.le_refl _) _
  exact ⟨rfl, hx3.trans (x4.trans ((xa.mono a4).trans (x5.mono (Nat.le_trans a4 xa.size))))⟩
/-! ### A parameter of type []uint32 -/
/-- A slice of numbers of 32 bits that reads as zs. -/
def Rd32 (w : World) (B : Nat) (A : Option Addr) (zs : List Int) : Prop :=
  0 < zs.length → ∃ b off, A = some ⟨b, off, none⟩ ∧ b < B ∧ ∀ j, j < zs.length → w.cell? ⟨b, off + j, none⟩ = some (.int .u32 (zs.getD j 0))
section
variable {P : Program} {w : World} {base : Nat} {t e : TypeId} {v : Value} {H : Type} {enc : TypeId × Value → H} {d : DataW H} {p : List MemPlace}
theorem get_u32s (ht : P.underlying t = some (.slice e)) (he : P.underlying e = some (.int .u32)) (hc : P.cellsOf e = 1) (hv : Value.okWide P w .any base t v) (h : DataW.Trod enc P w 0 (fun _ => true) true t v d p) :
    ∃ A c zs, v = .slice A zs.length c ∧ Rd32 w w.heap.size A zs ∧ zs.length ≤ c ∧ c ≤ maxLen ∧ ∀ n ∈ zs, (Lit.int .u32 n).wf = true := by
  obtain ⟨A, len, cap, zs, rfl, hr⟩ := get_row ht he hc hv h
  rcases hr with ⟨rfl, rfl, rfl, rfl⟩ | ⟨x, rfl, hl, hm, hz, hcell, hwz⟩
  · exact ⟨none, 0, [], rfl, fun hn => absurd hn (by simp), Nat.le_refl _, Nat.zero_le _, by simp⟩
  · have e1 : (zs.take len).length = len := by simp; omega
    refine ⟨some x, cap, zs.take len, by rw [e1], fun hn => ?_, by omega, hm, fun n hn => hwz n (List.mem_of_mem_take hn)⟩
    have hc0 := hcell 0 (by omega)
    have hlt := cell_block hc0
    obtain ⟨b, off, spot⟩ := x
    have hspot : spot = none := by simpa [Addr.add] using World.cell?_spot hc0
    subst hspot
    refine ⟨b, off, rfl, by simpa [Addr.add] using hlt, fun j hj => ?_⟩
    have hc := hcell j (by omega)
    rw [add_off] at hc
    rw [hc]
    congr 2
    simp only [List.getD_eq_getElem?_getD, List.getElem?_take]
    rw [if_pos (by omega)]
end
theorem u32_bdW {a : Int} (h : (Lit.int .u32 a).wf = true) : 0 ≤ a ∧ a < 4294967296 := by
  have := h
  simp [Lit.wf] at this
  have e1 : IntKind.u32.min = 0 := by decide
  have e2 : IntKind.u32.max = 4294967295 := by decide
  omega
/-! ### Where the law's two timers stand -/
theorem slot_low {a n : Nat} (ha : a < 2 ^ 36) (hn : n < 2 ^ 36) : slotN a n < 384 := by
  have h := ring_le (a := a) (n := n) (k := 5) (by omega) (by omega) (by omega)
  have := Nat.mod_lt (a / 2 ^ (6 * ringN a n)) (show 0 < 64 by decide)
  unfold slotN
  omega
theorem tk_far {b : Nat} {id : Int} {s : Nat} (h : s < 2 ^ 39) : tkN s ⟨400, b, id, 2 ^ 40⟩ = false := by
  unfold tkN
  refine decide_eq_false ?_
  show ¬ (shN (400 / 64) (2 ^ 40) ≤ shN (400 / 64) s)
  rw [show (400 / 64 : Nat) = 6 by decide]
  unfold shN
  rw [show (6 * 6 : Nat) = 36 by decide]
  omega
theorem tk_due {e : Te} {s : Nat} (h : e.a ≤ s) : tkN s e = true := by
  unfold tkN shN
  exact decide_eq_true (Nat.div_le_div_right h)
end Go.Proofs.Ytkgbjohadkbjaaa
