/-
  Contracts and lemmas on which the proofs of this seat stand (several texts in one). Conditions are each theorem's own.
-/
import Derived.Test.YtcebobcakiljhaaNa1
import Derived.Lib.Hide
import Derived.Deep.RegionHeld3
import Derived.Deep.MidRow
import Derived.Maps.RangeWalk
import Derived.Deep.Cut
import Derived.Deep.CutRange

/-
  An address of IPv6 that came in, opened. Conditions are each theorem's own.
-/
namespace Go.Proofs.Ytcebobcakiljhaa
open Go.RowKit Go.ChangeShapes Go.WideShapes

/-- A cell's byte. -/
def celB : Value → UInt8
  | .int _ n => UInt8.ofNat n.toNat
  | _ => 0
section
variable {H : Type} {enc : TypeId × Value → H} {P : Program} {w : World} {base : Nat} {t e : TypeId} {v : Value} {d : DataW H} {p : List MemPlace}
theorem cells_six {m fuel : Nat} {cs : List Value} {x : DataW H × List MemPlace} (ht : P.underlying t = some (.array m e)) (he : P.underlying e = some (.int .u8)) (hc : P.cellsOf e = 1) (hm : P.cellsOf t = m)
    (h : DataW.trod enc P w 0 (fun _ => true) true fuel t cs = some x) : ∃ a : List UInt8, a.length = m ∧ cs = row a := by
  obtain ⟨xs, k, _, _, hl, hxs, hall⟩ := DataW.trod_array ht h
  rw [hm] at hl
  have each : ∀ i, i < m → ∃ n : Int, cs[i]? = some (.int .u8 n) ∧ 0 ≤ n ∧ n ≤ 255 := by
    intro i hi
    have h1 := hall i hi
    rw [hc, Nat.mul_one, List.getElem?_eq_getElem (by omega)] at h1
    obtain ⟨n, hn, _, hw⟩ := DataW.trod_int he h1
    have h0 := congrArg (·[0]?) hn
    simp only [List.getElem?_take, List.getElem?_drop, List.getElem?_cons_zero, Nat.zero_lt_one, if_true, Nat.add_zero] at h0
    exact ⟨n, h0, bounds_u8 hw⟩
  refine ⟨cs.map celB, by simp [hl], ?_⟩
  refine List.ext_getElem? fun i => ?_
  by_cases hi : i < m
  · obtain ⟨n, hn, h0, h1⟩ := each i hi
    rw [hn]
    simp [row, hn, celB, UInt8.toNat_ofNat']
    omega
  · rw [List.getElem?_eq_none (by omega), List.getElem?_eq_none (by simp [row]; omega)]
theorem get_six (ht : P.underlying t = some (.array 16 e)) (he : P.underlying e = some (.int .u8)) (hc : P.cellsOf e = 1) (hm : P.cellsOf t = 16) (hv : Value.okWide P w .any base t v) (h : DataW.Trod enc P w 0 (fun _ => true) true t v d p) :
    ∃ a : List UInt8, v = .agg (cel a) ∧ a.length = 16 := by
  obtain ⟨cs, rfl, _⟩ : ∃ cs, v = .agg cs ∧ True := by
    have := hv
    simp only [Value.okWide, ht] at this
    cases v <;> simp_all
  obtain ⟨fuel, hf⟩ := h
  obtain ⟨a, ha, hcs⟩ := cells_six ht he hc hm hf
  refine ⟨a, ?_, ha⟩
  simp only [Value.cells] at hcs
  rw [cel, ← hcs]
end
end Go.Proofs.Ytcebobcakiljhaa

/-
  Contracts of the document's plain answers of layer 2: Add, Of, Right, Change. Conditions are each theorem's own.
-/
namespace Go.Proofs.Ytcebobcakiljhaa
open Go.RowKit

end Go.Proofs.Ytcebobcakiljhaa

/-
  What the statements of layers 1 and 2 share on arguments that came in. Conditions: none.
-/

/-
  Contracts of layer 2's helpers: few, zero, awake. Conditions are each theorem's own.
-/
namespace Go.Proofs.Ytcebobcakiljhaa
open Go.RowKit

theorem Rd2.of_cells {w : World} {B g t : Nat} {cs : Array Value} {ps : List (List UInt8)} (hg : w.heap[g]? = some (.cells cs t (0, 0))) (hB : g < B)
    (hc : ∀ (j : Nat) (bs : List UInt8), ps[j]? = some bs → ∃ Aj cj, cs[j]? = some (.slice Aj bs.length cj) ∧ Arg w B Aj cj bs) : Rd2 w B (some ⟨g, 0, none⟩) ps := fun _ =>
  ⟨g, 0, rfl, hB, fun j bs hj => by
    obtain ⟨Aj, cj, h1, h2⟩ := hc j bs hj
    exact ⟨Aj, cj, by rw [cell_of_row w g (0 + j) cs t (0, 0) hg, Nat.zero_add]; exact h1, h2⟩⟩
theorem Rd2.one {w : World} {B g t : Nat} {A : Option Addr} {c : Nat} {bs : List UInt8} (hg : w.heap[g]? = some (.cells #[.slice A bs.length c] t (0, 0))) (hB : g < B) (h : Arg w B A c bs) : Rd2 w B (some ⟨g, 0, none⟩) [bs] :=
  Rd2.of_cells hg hB fun j b hj => by
    cases j with
    | zero => simp at hj; subst hj; exact ⟨A, c, rfl, h⟩
    | succ j => simp at hj
/-- A new block of bytes as it is handed over. -/
theorem Arg.new {w : World} {g t : Nat} {cs : Array Value} {bs : List UInt8} (hg : w.heap[g]? = some (.cells cs t (0, 0))) (hc : ∀ j, j < bs.length → cs[j]? = some (.int .u8 (byt bs j))) (c : Nat) (hl : bs.length ≤ c) :
    Arg w w.heap.size (some ⟨g, 0, none⟩) c bs := ⟨Rd.of_block hg (heap_lt hg) 0 (fun j hj => by rw [Nat.zero_add]; exact hc j hj), hl, fun e => by cases e⟩

def eight : List UInt8 := [0, 1, 242, 3, 244, 245, 246, 247]
/-! ### few -/
def fewB (ps : List (List UInt8)) : Bool := decide (ps.length ≤ 40) && ps.all (fun b => decide (b.length ≤ 2000)) && decide (bulk ps ≤ 8000)
theorem few_yes {ps : List (List UInt8)} (h : fewB ps = true) : ps.length ≤ 40 ∧ bulk ps ≤ 8000 := by
  simp [fewB] at h; exact ⟨h.1.1, h.2⟩

theorem few_long {ps : List (List UInt8)} (h : 40 < ps.length) : fewB ps = false := by
  have : decide (ps.length ≤ 40) = false := by simp; omega
  simp [fewB, this]
theorem few_big {ps : List (List UInt8)} {k : Nat} {bs : List UInt8} (hb : ps[k]? = some bs) (h : 2000 < bs.length) : fewB ps = false := by
  have : ps.all (fun b => decide (b.length ≤ 2000)) = false := by
    rw [List.all_eq_false]; exact ⟨bs, List.mem_of_getElem? hb, by simp; omega⟩
  simp [fewB, this]
theorem few_end {ps : List (List UInt8)} (h : ps.length ≤ 40) (ha : ∀ b ∈ ps, b.length ≤ 2000) : fewB ps = decide ((bulk ps : Int) ≤ 8000) := by
  have h1 : ps.all (fun b => decide (b.length ≤ 2000)) = true := by rw [List.all_eq_true]; intro b hb; simpa using ha b hb
  rw [Bool.eq_iff_iff]; simp [fewB, h, h1]; omega

/-! ### zero -/
def zeroB (ps : List (List UInt8)) : Bool := ps.all fun b => b.all fun x => x == 0
theorem zero_no {ps : List (List UInt8)} {k j : Nat} {bs : List UInt8} (hb : ps[k]? = some bs) (hj : j < bs.length) (h : byt bs j ≠ 0) : zeroB ps = false := by
  unfold zeroB
  rw [List.all_eq_false]
  refine ⟨bs, List.mem_of_getElem? hb, ?_⟩
  simp only [Bool.not_eq_true, List.all_eq_false]
  refine ⟨bs[j], List.getElem_mem hj, ?_⟩
  have : bs[j] ≠ 0 := fun e => h (by simp [byt, hj, e])
  simpa using this
theorem byt_zero {bs : List UInt8} (h : ∀ j, j < bs.length → byt bs j = 0) : ∀ x ∈ bs, x = 0 := by
  intro x hx
  obtain ⟨j, hj, rfl⟩ := List.getElem_of_mem hx
  have := h j hj
  simp [byt, hj] at this
  exact UInt8.toNat_inj.1 (by simpa using this)

/-! ### Sums behind bytes -/
theorem byt_left {a b : List UInt8} {j : Nat} (h : j < a.length) : byt (a ++ b) j = byt a j := by unfold byt; rw [List.getElem?_append_left h]
theorem byt_right {a b : List UInt8} {j : Nat} : byt (a ++ b) (a.length + j) = byt b j := by
  unfold byt; rw [List.getElem?_append_right (by omega), Nat.add_sub_cancel_left]
theorem wsum_left {a b : List UInt8} : ∀ {k : Nat}, 2 * k ≤ a.length → wsum (a ++ b) k = wsum a k
  | 0, _ => rfl
  | k + 1, h => by
    rw [wsum_succ, wsum_succ, wsum_left (by omega), wrd, wrd, byt_left (by omega), byt_left (by omega)]
theorem wall_two {a : List UInt8} {m : Nat} (h : a.length = 2 * m) (x y : UInt8) : wall (a ++ [x, y]) = wall a + ((x.toNat : Int) * 256 + (y.toNat : Int)) := by
  have e1 : prs (a ++ [x, y]).length = m + 1 := by rw [List.length_append, h]; unfold prs; simp; omega
  have e2 : prs a.length = m := by rw [h]; unfold prs; omega
  rw [wall, wall, e1, e2, wsum_succ, wsum_left (by omega)]
  have e3 : wrd (a ++ [x, y]) m = (x.toNat : Int) * 256 + (y.toNat : Int) := by
    have h0 : byt (a ++ [x, y]) (2 * m) = (x.toNat : Int) := by have := byt_right (a := a) (b := [x, y]) (j := 0); rw [h, Nat.add_zero] at this; rw [this]; rfl
    have h1 : byt (a ++ [x, y]) (2 * m + 1) = (y.toNat : Int) := by have := byt_right (a := a) (b := [x, y]) (j := 1); rw [h] at this; rw [this]; rfl
    rw [wrd, h0, h1]
  rw [e3]
theorem wall_pair (x y : UInt8) : wall [x, y] = (x.toNat : Int) * 256 + (y.toNat : Int) := by
  have := wall_two (a := []) (m := 0) rfl x y
  simpa [wall, prs, wsum] using this
theorem fold_right {S : Int} (h : 0 ≤ S) : fold (S + (65535 - fold S)) = 65535 := by
  unfold fold; split <;> (split <;> omega)
/-- The two bytes of a sum. -/
def hi (n : Int) : UInt8 := UInt8.ofNat (n / 256).toNat
def lo (n : Int) : UInt8 := UInt8.ofNat (n % 256).toNat
theorem hi_val {n : Int} (h0 : 0 ≤ n) (h1 : n ≤ 65535) : ((hi n).toNat : Int) = n / 256 := by simp only [hi, UInt8.toNat_ofNat']; omega
theorem lo_val (n : Int) : ((lo n).toNat : Int) = n % 256 := by simp only [lo, UInt8.toNat_ofNat']; omega
theorem hi_lo {n : Int} (h0 : 0 ≤ n) (h1 : n ≤ 65535) : ((hi n).toNat : Int) * 256 + ((lo n).toNat : Int) = n := by rw [hi_val h0 h1, lo_val n]; omega
theorem right_sum {a : List UInt8} {m : Nat} (h : a.length = 2 * m) : rightB [a ++ [hi (65535 - fold (psum [a])), lo (65535 - fold (psum [a]))]] = true := by
  have hb := fold_bd (psum [a])
  have hp : psum [a] = wall a := by simp [psum]
  have hw := wall_bd a
  have e : psum [a ++ [hi (65535 - fold (psum [a])), lo (65535 - fold (psum [a]))]] = wall a + (65535 - fold (psum [a])) := by
    rw [show psum [a ++ [hi (65535 - fold (psum [a])), lo (65535 - fold (psum [a]))]] = wall (a ++ [hi (65535 - fold (psum [a])), lo (65535 - fold (psum [a]))]) from by simp [psum], wall_two h, hi_lo (by omega) (by omega)]
  rw [rightB, e, hp, fold_right hw.1]; rfl

theorem Rd.pair {W : World} {u v : Int} {x y : UInt8} (t : TypeId) (h : u = (x.toNat : Int)) (h' : v = (y.toNat : Int)) : Rd (W.alloc (.cells #[.int .u8 u, .int .u8 v] t)) (W.heap.size + 1) (some ⟨W.heap.size, 0, none⟩) [x, y] :=
  Rd.of_block (g := W.heap.size) (World.alloc_heap_new W _) (Nat.lt_succ_self _) 0 (fun j hj => by
    have : j = 0 ∨ j = 1 := by simp at hj; omega
    rcases this with rfl | rfl
    · simp [h, byt]
    · simp [h', byt])
theorem Made.arg {w w' : World} {A : Option Addr} {c : Nat} {bs : List UInt8} (h : w'.ownsRow w.heap.size 5 1 (.slice A bs.length c) bs.length (row bs)) : Arg w' w'.heap.size A c bs := by
  refine ⟨Rd.of_own rfl h, ?_, ?_⟩
  · rcases h.2 with ⟨e, h0⟩ | ⟨g, cap, cur, e, _, _, hle, _⟩
    · omega
    · injection e with _ _ e3; omega
  · rcases h.2 with ⟨e, h0⟩ | ⟨g, cap, cur, e, _, _, hle, _⟩
    · intro _; injection e with _ _ e3
    · intro e'; injection e with e1 _ _; rw [e'] at e1; cases e1
/-- The even part of a slice that came in. -/
theorem Arg.even {w : World} {B : Nat} {A : Option Addr} {c : Nat} {bs : List UInt8} (h : Arg w B A c bs) : Arg w B A c (bs.take (bs.length / 2 * 2)) := by
  have hl : (bs.take (bs.length / 2 * 2)).length = bs.length / 2 * 2 := by rw [List.length_take]; omega
  refine ⟨fun hn => ?_, by have := h.cap; omega, h.none_⟩
  obtain ⟨b, off, e, hb, hc⟩ := h.rd (by omega)
  refine ⟨b, off, e, hb, fun j hj => ?_⟩
  have hbt : byt (bs.take (bs.length / 2 * 2)) j = byt bs j := by unfold byt; rw [List.getElem?_take, if_pos (by omega)]
  rw [hbt]
  exact hc j (by omega)
theorem even_len (bs : List UInt8) : (bs.take (bs.length / 2 * 2)).length = bs.length / 2 * 2 := by rw [List.length_take]; omega

theorem own_below {w w' : World} {base e size n : Nat} {v : Value} {xs : List Value} (h : w.ownsRow base e size v n xs) (hb : Below w.heap.size w w') : w'.ownsRow base e size v n xs := by
  obtain ⟨h1, h2⟩ := h
  refine ⟨h1, ?_⟩
  rcases h2 with h2 | ⟨g, cap, cur, hv, hg, hh, r⟩
  · exact .inl h2
  · exact .inr ⟨g, cap, cur, hv, hg, (hb.block g (heap_lt hh)).trans hh, r⟩
theorem clone_n (A : Option Addr) (bs : List UInt8) (c B n : Nat) (hn : Hid (bs.length = n)) (w : World) (h : Arg w B A c bs) (hB : B ≤ w.heap.size) (hl : bs.length ≤ 1099511627776) :
    Calls Try.prog 37 #[.slice A n c] w fun e w' => ∃ v, e = .returned v ∧ Made w w' v bs := by
  have h1 := clone_any A bs c B w h hB hl
  rw [hn.out] at h1
  exact h1
theorem Rd2.one_n {w : World} {B g t n : Nat} {A : Option Addr} {c : Nat} {bs : List UInt8} (hn : n = bs.length) (hg : w.heap[g]? = some (.cells #[.slice A n c] t (0, 0))) (hB : g < B) (h : Arg w B A c bs) : Rd2 w B (some ⟨g, 0, none⟩) [bs] := by
  subst hn; exact Rd2.one hg hB h
theorem Made.arg_n {w w' : World} {A : Option Addr} {c n : Nat} {bs : List UInt8} {xs : List Value} (hn : n = bs.length) (hx : xs = row bs) (h : w'.ownsRow w.heap.size 5 1 (.slice A n c) n xs) : Arg w' w'.heap.size A c bs := by
  subst hn; subst hx; exact Made.arg h

/-! ### A sum stays right -/
theorem wsum_zero {bs : List UInt8} : ∀ {k : Nat}, wsum bs k = 0 → ∀ j, j < 2 * k → byt bs j = 0
  | 0, _, j, hj => absurd hj (by omega)
  | k + 1, h, j, hj => by
    have h1 := wsum_bd bs k
    have h2 := wrd_bd bs k
    rw [wsum_succ] at h
    have e1 : wsum bs k = 0 := by omega
    have e2 : wrd bs k = 0 := by omega
    by_cases hlt : j < 2 * k
    · exact wsum_zero e1 j hlt
    · have a1 := byt_lo bs (2 * k)
      have a2 := byt_lo bs (2 * k + 1)
      unfold wrd at e2
      have : j = 2 * k ∨ j = 2 * k + 1 := by omega
      rcases this with rfl | rfl <;> omega
theorem wall_zero {bs : List UInt8} (h : wall bs = 0) : ∀ x ∈ bs, x = 0 :=
  byt_zero fun j hj => wsum_zero (k := prs bs.length) h j (by unfold prs; omega)
theorem psum_cons (b : List UInt8) (l : List (List UInt8)) : psum (b :: l) = wall b + psum l := by simp [psum]
theorem psum_zero : ∀ {ps : List (List UInt8)}, psum ps = 0 → zeroB ps = true
  | [], _ => rfl
  | b :: l, h => by
    have h1 := wall_bd b
    have h2 := psum_bd l
    rw [psum_cons] at h
    have e1 : wall b = 0 := by omega
    have e2 : psum l = 0 := by omega
    have := psum_zero e2
    simp only [zeroB, List.all_cons, Bool.and_eq_true] at this ⊢
    exact ⟨by rw [List.all_eq_true]; intro x hx; simpa using wall_zero e1 x hx, this⟩
theorem fold_spec {n : Int} (h : 0 ≤ n) : ∃ q : Int, n = fold n + 65535 * q ∧ (0 < n → 1 ≤ fold n) ∧ fold n ≤ 65535 := by
  unfold fold
  split
  · exact ⟨0, by omega, by omega, by omega⟩
  · exact ⟨(n - 1) / 65535, by omega, by omega, by omega⟩
theorem stays {a b old now : List UInt8} {N M : Int} (hz : zeroB [a, now, b] = false) (hN : N = 65535 - fold (psum [a, old, b])) (hM : M = chg N old now) :
    rightB [a, now, b, [hi M, lo M]] = true ∧ 0 ≤ N ∧ N ≤ 65535 ∧ 0 ≤ M ∧ M ≤ 65535 := by
  have f1 := fold_bd (psum [a, old, b])
  have hN0 : 0 ≤ N := by omega
  have hN1 : N ≤ 65535 := by omega
  rw [chg, if_pos ⟨hN0, hN1⟩] at hM
  have f2 := fold_bd (65535 - N + (65535 * (prs old.length : Int) - wall old) + wall now)
  have hM0 : 0 ≤ M := by omega
  have hM1 : M ≤ 65535 := by omega
  refine ⟨?_, hN0, hN1, hM0, hM1⟩
  have wa := wall_bd a; have wb := wall_bd b; have wn := wall_bd now
  have wo : 0 ≤ wall old ∧ wall old ≤ 65535 * (prs old.length : Int) := wsum_bd old _
  have p1 : psum [a, old, b] = wall a + wall old + wall b := by simp [psum]; omega
  have p2 : psum [a, now, b] = wall a + wall now + wall b := by simp [psum]; omega
  have p3 : psum [a, now, b, [hi M, lo M]] = wall a + wall now + wall b + M := by
    simp only [psum_cons]; rw [wall_pair, hi_lo hM0 hM1]; simp [psum]; omega
  have hpos : 0 < wall a + wall now + wall b := by
    rcases Int.lt_or_le 0 (wall a + wall now + wall b) with h | h
    · exact h
    · have e : psum [a, now, b] = 0 := by omega
      rw [psum_zero e] at hz
      cases hz
  obtain ⟨q1, e1, _, _⟩ := fold_spec (n := psum [a, old, b]) (by omega)
  obtain ⟨q2, e2, _, _⟩ := fold_spec (n := 65535 - N + (65535 * (prs old.length : Int) - wall old) + wall now) (by omega)
  obtain ⟨q3, e3, g3, u3⟩ := fold_spec (n := wall a + wall now + wall b + M) (by omega)
  have g3' := g3 (by omega)
  rw [rightB, p3, beq_iff_eq]
  generalize fold (wall a + wall now + wall b + M) = Y at *
  generalize fold (65535 - N + (65535 * (prs old.length : Int) - wall old) + wall now) = X at *
  generalize fold (psum [a, old, b]) = Z at *
  omega

/-- Three, or four, slices side by side. -/
theorem Rd2.three {w : World} {B g t n0 n1 n2 : Nat} {A0 A1 A2 : Option Addr} {c0 c1 c2 : Nat} {b0 b1 b2 : List UInt8} (h0 : n0 = b0.length) (h1 : n1 = b1.length) (h2 : n2 = b2.length)
    (hg : w.heap[g]? = some (.cells #[.slice A0 n0 c0, .slice A1 n1 c1, .slice A2 n2 c2] t (0, 0))) (hB : g < B) (a0 : Arg w B A0 c0 b0) (a1 : Arg w B A1 c1 b1) (a2 : Arg w B A2 c2 b2) : Rd2 w B (some ⟨g, 0, none⟩) [b0, b1, b2] := by
  subst h0; subst h1; subst h2
  refine Rd2.of_cells hg hB fun j b hj => ?_
  match j, hj with
  | 0, hj => simp at hj; subst hj; exact ⟨_, _, rfl, a0⟩
  | 1, hj => simp at hj; subst hj; exact ⟨_, _, rfl, a1⟩
  | 2, hj => simp at hj; subst hj; exact ⟨_, _, rfl, a2⟩
  | j + 3, hj => simp at hj
theorem Rd2.four {w : World} {B g t n0 n1 n2 n3 : Nat} {A0 A1 A2 A3 : Option Addr} {c0 c1 c2 c3 : Nat} {b0 b1 b2 b3 : List UInt8} (h0 : n0 = b0.length) (h1 : n1 = b1.length) (h2 : n2 = b2.length) (h3 : n3 = b3.length)
    (hg : w.heap[g]? = some (.cells #[.slice A0 n0 c0, .slice A1 n1 c1, .slice A2 n2 c2, .slice A3 n3 c3] t (0, 0))) (hB : g < B) (a0 : Arg w B A0 c0 b0) (a1 : Arg w B A1 c1 b1) (a2 : Arg w B A2 c2 b2) (a3 : Arg w B A3 c3 b3) : Rd2 w B (some ⟨g, 0, none⟩) [b0, b1, b2, b3] := by
  subst h0; subst h1; subst h2; subst h3
  refine Rd2.of_cells hg hB fun j b hj => ?_
  match j, hj with
  | 0, hj => simp at hj; subst hj; exact ⟨_, _, rfl, a0⟩
  | 1, hj => simp at hj; subst hj; exact ⟨_, _, rfl, a1⟩
  | 2, hj => simp at hj; subst hj; exact ⟨_, _, rfl, a2⟩
  | 3, hj => simp at hj; subst hj; exact ⟨_, _, rfl, a3⟩
  | j + 4, hj => simp at hj
theorem bulk3 (a b c : List UInt8) : bulk [a, b, c] = a.length + b.length + c.length := by simp [bulk]; omega
theorem bulk4 (a b c d : List UInt8) : bulk [a, b, c, d] = a.length + b.length + c.length + d.length := by simp [bulk]; omega
theorem two_heap (X : World) (o1 o2 : Obj) : ((X.alloc o1).alloc o2).heap[X.heap.size + 1]? = some o2 := by
  have := World.alloc_heap_new (X.alloc o1) o2
  rwa [World.size_alloc] at this
theorem Arg.of_pair {X : World} {u v : Int} {x y : UInt8} (t : TypeId) (h : u = (x.toNat : Int)) (h' : v = (y.toNat : Int)) (o : Obj) : Arg ((X.alloc (.cells #[.int .u8 u, .int .u8 v] t)).alloc o) (X.heap.size + 2) (some ⟨X.heap.size, 0, none⟩) 2 [x, y] :=
  ⟨((Rd.pair t h h').alloc (by simp) o).more (by omega), by simp, fun e => by cases e⟩
theorem Arg.two {X : World} {B : Nat} {A : Option Addr} {c : Nat} {bs : List UInt8} (h : Arg X B A c bs) (hB : B ≤ X.heap.size) (o1 o2 : Obj) : Arg ((X.alloc o1).alloc o2) (X.heap.size + 2) A c bs :=
  ((h.alloc hB o1).alloc (by simp; omega) o2).more (by omega)
end Go.Proofs.Ytcebobcakiljhaa

/-
  Packets of IPv4, in plain lists of bytes: what may be, its bytes, what bytes are. No program. Conditions are each theorem's own.
-/
namespace Go.Proofs.Ytcebobcakiljhaa
open Go.RowKit

/-- A packet of IPv4 as the document has it. -/
structure P4 where
  tos : Int
  id : Int
  off : Int
  ttl : Int
  proto : Int
  src : Int
  dst : Int
  df : Bool
  mf : Bool
  opt : List UInt8
  dat : List UInt8
/-- The packet of nothing. -/
def p4z : P4 := ⟨0, 0, 0, 0, 0, 0, 0, false, false, [], []⟩
def head4 (q : P4) : Int := 20 + (q.opt.length : Int)
def size4 (q : P4) : Int := head4 q + (q.dat.length : Int)
def whole4 (q : P4) : Bool := !q.mf && decide (q.off ≤ 0)
/-- What is wrong with a packet's fields. -/
def arg4 (q : P4) : Prop := 0 ≤ q.tos ∧ q.tos ≤ 255 ∧ 0 ≤ q.ttl ∧ q.ttl ≤ 255 ∧ 0 ≤ q.proto ∧ q.proto ≤ 255 ∧ 0 ≤ q.id ∧ q.id ≤ 65535 ∧ 0 ≤ q.src ∧ q.src < 4294967296 ∧ 0 ≤ q.dst ∧ q.dst < 4294967296 ∧
  0 ≤ q.off ∧ q.off ≤ 65528 ∧ q.off % 8 = 0 ∧ q.opt.length ≤ 40 ∧ q.opt.length % 4 = 0 ∧ (q.mf = true → q.dat.length % 8 = 0)
instance (q : P4) : Decidable (arg4 q) := by unfold arg4; infer_instance
def chk4 (q : P4) : Int := if arg4 q then (if size4 q > 65535 ∨ q.off > 65535 - (q.dat.length : Int) then 6 else 0) else 1
/-- A byte of a number. -/
def u8 (n : Int) : UInt8 := UInt8.ofNat (n % 256).toNat
theorem u8_val (n : Int) : ((u8 n).toNat : Int) = n % 256 := by simp only [u8, UInt8.toNat_ofNat']; omega
def bit (b : Bool) (n : Int) : Int := if b then n else 0
def flags4 (q : P4) : Int := q.off / 8 + bit q.df 16384 + bit q.mf 8192
/-- Two bytes, four bytes of a number. -/
def be2 (n : Int) : List UInt8 := [u8 (n / 256), u8 n]
def be4 (n : Int) : List UInt8 := [u8 (n / 16777216), u8 (n / 65536), u8 (n / 256), u8 n]
theorem u8_dig {n : Int} (h : 0 ≤ n) (s i : Nat) : dig n s i = u8 (n / pw (s - 1 - i)) := by
  apply UInt8.toNat_inj.1
  have h1 := dig_val h s i
  have h2 := u8_val (n / pw (s - 1 - i))
  omega
theorem digs_two {n : Int} (h : 0 ≤ n) : digs n 2 = be2 n := by
  simp [digs, be2, List.range_succ, u8_dig h, pw]
theorem digs_four {n : Int} (h : 0 ≤ n) : digs n 4 = be4 n := by
  simp [digs, be4, List.range_succ, u8_dig h, pw]
/-- The head's first ten bytes, and what stands behind the sum. -/
def hda (q : P4) (size : Int) : List UInt8 := [u8 (64 + head4 q / 4), u8 q.tos, u8 (size / 256), u8 size, u8 (q.id / 256), u8 q.id, u8 (flags4 q / 256), u8 (flags4 q), u8 q.ttl, u8 q.proto]
def hdb (q : P4) : List UInt8 := [u8 (q.src / 16777216), u8 (q.src / 65536), u8 (q.src / 256), u8 q.src, u8 (q.dst / 16777216), u8 (q.dst / 65536), u8 (q.dst / 256), u8 q.dst] ++ q.opt
def hd4 (q : P4) (size sum : Int) : List UInt8 := hda q size ++ be2 sum ++ hdb q
def sum4 (q : P4) : Int := 65535 - fold (psum [hd4 q (size4 q) 0])
def bld4 (q : P4) : List UInt8 := hd4 q (size4 q) (sum4 q) ++ q.dat
theorem hd4_len (q : P4) (size sum : Int) : (hd4 q size sum).length = 20 + q.opt.length := by simp [hd4, hda, hdb, be2]; omega
theorem bld4_len (q : P4) : (bld4 q).length = 20 + q.opt.length + q.dat.length := by rw [bld4, List.length_append, hd4_len]

/-- The sum of bytes whose first part is of even length. -/
theorem wall_append {a b : List UInt8} {m : Nat} (h : a.length = 2 * m) : wall (a ++ b) = wall a + wall b := by
  have e1 : prs (a ++ b).length = m + prs b.length := by rw [List.length_append, h]; unfold prs; omega
  have e2 : prs a.length = m := by rw [h]; unfold prs; omega
  have key : ∀ k, wsum (a ++ b) (m + k) = wsum a m + wsum b k := by
    intro k
    induction k with
    | zero => rw [Nat.add_zero, wsum_left (by omega)]; simp [wsum]
    | succ k ih =>
      rw [← Nat.add_assoc, wsum_succ, wsum_succ, ih]
      have e3 : wrd (a ++ b) (m + k) = wrd b k := by
        have h0 := byt_right (a := a) (b := b) (j := 2 * k)
        have h1 := byt_right (a := a) (b := b) (j := 2 * k + 1)
        rw [h] at h0 h1
        rw [wrd, wrd, show 2 * (m + k) = 2 * m + 2 * k from by omega, h0, show 2 * m + 2 * k + 1 = 2 * m + (2 * k + 1) from by omega, h1]
      rw [e3]; omega
  rw [wall, wall, wall, e1, e2, key]
theorem be2_wall {n : Int} (h0 : 0 ≤ n) (h1 : n ≤ 65535) : wall (be2 n) = n := by
  rw [be2, wall_pair, u8_val, u8_val]; omega
theorem sum4_bd (q : P4) : 0 ≤ sum4 q ∧ sum4 q ≤ 65535 := by have := fold_bd (psum [hd4 q (size4 q) 0]); unfold sum4; omega
theorem head_right (q : P4) : rightB [hd4 q (size4 q) (sum4 q)] = true := by
  have hb := sum4_bd q
  have w : ∀ s, 0 ≤ s → s ≤ 65535 → psum [hd4 q (size4 q) s] = wall (hda q (size4 q)) + s + wall (hdb q) := fun s h0 h1 => by
    have : psum [hd4 q (size4 q) s] = wall (hd4 q (size4 q) s) := by simp [psum]
    rw [this, hd4, wall_append (m := 6) (by simp [hda, be2]), wall_append (m := 5) (by simp [hda]), be2_wall h0 h1]
  have w0 := w 0 (by omega) (by omega)
  have w1 := w (sum4 q) hb.1 hb.2
  have hs : sum4 q = 65535 - fold (psum [hd4 q (size4 q) 0]) := rfl
  have ha := (wall_bd (hda q (size4 q))).1
  have hc := (wall_bd (hdb q)).1
  rw [rightB, w1, show wall (hda q (size4 q)) + sum4 q + wall (hdb q) = (wall (hda q (size4 q)) + wall (hdb q)) + (65535 - fold (wall (hda q (size4 q)) + wall (hdb q))) from by rw [hs, w0]; simp only [Int.add_zero]; omega,
    fold_right (by omega)]
  rfl

/-- The number of two, of four bytes at a place. -/
def n2 (b : List UInt8) (i : Nat) : Int := byt b i * 256 + byt b (i + 1)
def n4 (b : List UInt8) (i : Nat) : Int := ((byt b i * 256 + byt b (i + 1)) * 256 + byt b (i + 2)) * 256 + byt b (i + 3)
def hlen (b : List UInt8) : Int := byt b 0 % 16 * 4
/-- The packet whose head bytes are, with data. -/
def fl4 (b dat : List UInt8) : P4 := ⟨byt b 1, n2 b 4, n2 b 6 % 8192 * 8, byt b 8, byt b 9, n4 b 12, n4 b 16, decide (n2 b 6 / 16384 % 2 = 1), decide (n2 b 6 / 8192 % 2 = 1), (b.take (hlen b).toNat).drop 20, dat⟩
/-- What is wrong with bytes; nothing: 0. -/
def bad4 (b : List UInt8) (quoted : Bool) : Int :=
  if b.length < 20 then 3
  else if byt b 0 / 16 ≠ 4 ∨ hlen b < 20 then 4
  else if hlen b > (b.length : Int) ∨ (quoted = false ∧ n2 b 2 > (b.length : Int)) then 3
  else if n2 b 2 < hlen b ∨ n2 b 6 ≥ 32768 then 4
  else if quoted = false ∧ rightB [b.take (hlen b).toNat] = false then 5
  else 0
def raw4 (b : List UInt8) : P4 := fl4 b ((b.take (min (n2 b 2) (b.length : Int)).toNat).drop (hlen b).toNat)
def prsE (b : List UInt8) (quoted : Bool) : Int := if bad4 b quoted = 0 then (if quoted = false ∧ chk4 (raw4 b) ≠ 0 then 4 else 0) else bad4 b quoted
def prsV (b : List UInt8) (quoted : Bool) : P4 := if prsE b quoted = 0 then raw4 b else p4z
end Go.Proofs.Ytcebobcakiljhaa

/-
  Packets that came in, opened: what a walk is told of each field. Conditions are each theorem's own.
-/
namespace Go.Proofs.Ytcebobcakiljhaa
open Go.RowKit Go.ChangeShapes Go.WideShapes

theorem piece_get {l : List Value} {i : Nat} {x : Value} (h : (l.drop i).take 1 = [x]) : l[i]? = some x := by
  have h0 := congrArg (·[0]?) h
  simpa [List.getElem?_take, List.getElem?_drop] using h0
section
variable {H : Type} {enc : TypeId × Value → H} {P : Program} {w : World} {base : Nat} {t e : TypeId} {v : Value} {d : DataW H} {p : List MemPlace} {x : DataW H × List MemPlace} {n : Nat} {l : List Value}
theorem cell_int {k : IntKind} (ht : P.underlying t = some (.int k)) (h : DataW.trod enc P w 0 (fun _ => true) true n t l = some x) : ∃ m, l = [.int k m] ∧ (Lit.int k m).wf = true := by
  obtain ⟨m, hm, _, hw⟩ := DataW.trod_int ht h
  exact ⟨m, hm, hw⟩
theorem cell_bool (ht : P.underlying t = some .bool) (h : DataW.trod enc P w 0 (fun _ => true) true n t l = some x) : ∃ b, l = [.bool b] := by
  obtain ⟨b, hb, _⟩ := DataW.trod_bool ht h
  exact ⟨b, hb⟩
theorem cell_bytes (ht : P.underlying t = some (.slice e)) (he : P.underlying e = some (.int .u8)) (hc : P.cellsOf e = 1) (h : DataW.trod enc P w 0 (fun _ => true) true n t l = some x) :
    ∃ A c bs, l = [.slice A bs.length c] ∧ Arg w w.heap.size A c bs ∧ c ≤ maxLen := by
  rcases open_ints ht he hc h with ⟨hcs, _⟩ | ⟨y, m, c, zs, hcs, _, hl, hm, hz, _, hcell, hwz⟩
  · exact ⟨none, 0, [], hcs, Arg.nil _ _, Nat.zero_le _⟩
  · obtain ⟨bs, rfl, ha⟩ := arg_of_row (w := w) (a := some y) (len := m) (cap := c) (zs := zs) (.inr ⟨y, rfl, hl, hm, by simpa using hz, hcell, hwz⟩)
    exact ⟨some y, c, bs, hcs, ha, hm⟩
end

/-- A packet's value: where its two slices lie. -/
def v4v (q : P4) (A : Option Addr) (c : Nat) (A' : Option Addr) (c' : Nat) : Value :=
  .agg #[.int .i64 q.tos, .int .i64 q.id, .int .i64 q.off, .int .i64 q.ttl, .int .i64 q.proto, .int .i64 q.src, .int .i64 q.dst, .bool q.df, .bool q.mf, .slice A q.opt.length c, .slice A' q.dat.length c']
/-- Its numbers fit. -/
def P4.fits (q : P4) : Prop := ∀ n ∈ [q.tos, q.id, q.off, q.ttl, q.proto, q.src, q.dst], (Lit.int .i64 n).wf = true
/-- A packet of IPv6, and its value. -/
structure P6 where
  traffic : Int
  flow : Int
  next : Int
  hop : Int
  src : List UInt8
  dst : List UInt8
  dat : List UInt8
def v6l (q : P6) (A : Option Addr) (c : Nat) : List Value := [Value.int .i64 q.traffic, Value.int .i64 q.flow, Value.int .i64 q.next, Value.int .i64 q.hop] ++ row q.src ++ row q.dst ++ [Value.slice A q.dat.length c]
def v6v (q : P6) (A : Option Addr) (c : Nat) : Value := .agg (v6l q A c).toArray
def P6.fits (q : P6) : Prop := ∀ n ∈ [q.traffic, q.flow, q.next, q.hop], (Lit.int .i64 n).wf = true
/-- A fragment header, and its value. -/
structure F6 where
  next : Int
  off : Int
  id : Int
  more : Bool
def frv (q : F6) : Value := .agg #[.int .i64 q.next, .int .i64 q.off, .int .i64 q.id, .bool q.more]
def F6.fits (q : F6) : Prop := ∀ n ∈ [q.next, q.off, q.id], (Lit.int .i64 n).wf = true
section
variable {H : Type} {enc : TypeId × Value → H} {w : World} {base : Nat} {v : Value} {d : DataW H} {p : List MemPlace}
set_option maxRecDepth 100000 in
theorem get_v4 (hv : Value.okWide Try.prog w .any base 24 v) (h : DataW.Trod enc Try.prog w 0 (fun _ => true) true 24 v d p) :
    ∃ q A c A' c', v = v4v q A c A' c' ∧ Arg w w.heap.size A c q.opt ∧ Arg w w.heap.size A' c' q.dat ∧ c ≤ maxLen ∧ c' ≤ maxLen ∧ q.fits := by
  obtain ⟨cs, rfl, hcs⟩ : ∃ cs, v = .agg cs ∧ cs.size = Try.prog.cellsOf 24 := by
    have := hv
    simp only [Value.okWide, Try.underlying24] at this
    obtain ⟨cs, h1, h2, _⟩ := this
    exact ⟨cs, h1, h2⟩
  obtain ⟨fuel, hf⟩ := h
  obtain ⟨xs, n, _, _, hl, hxs, hall⟩ := DataW.trod_struct Try.underlying24 hf
  have hci : Try.prog.cellsOf 3 = 1 := by kernel_rfl
  have hcb : Try.prog.cellsOf 4 = 1 := by kernel_rfl
  have hcy : Try.prog.cellsOf 22 = 1 := by kernel_rfl
  have hcu : Try.prog.cellsOf 5 = 1 := by kernel_rfl
  have hcn : Try.prog.cellsOf 24 = 11 := by kernel_rfl
  obtain ⟨l⟩ := cs
  have hl' : l.length = 11 := by rw [← hcn]; exact hl
  have hall' : ∀ (i : Nat) (f : Field), _ → DataW.trod enc Try.prog w 0 (fun _ => true) true n f.type ((l.drop f.offset).take (Try.prog.cellsOf f.type)) = xs[i]? := hall
  match xs, hxs with
  | [y0, y1, y2, y3, y4, y5, y6, y7, y8, y9, y10], _ =>
    have h0 : DataW.trod enc Try.prog w 0 (fun _ => true) true n 3 ((l.drop 0).take (Try.prog.cellsOf 3)) = some y0 := hall' 0 _ rfl
    rw [hci] at h0
    obtain ⟨a0, e0, f0⟩ := cell_int Try.underlying3 h0
    have h1 : DataW.trod enc Try.prog w 0 (fun _ => true) true n 3 ((l.drop 1).take (Try.prog.cellsOf 3)) = some y1 := hall' 1 _ rfl
    rw [hci] at h1
    obtain ⟨a1, e1, f1⟩ := cell_int Try.underlying3 h1
    have h2 : DataW.trod enc Try.prog w 0 (fun _ => true) true n 3 ((l.drop 2).take (Try.prog.cellsOf 3)) = some y2 := hall' 2 _ rfl
    rw [hci] at h2
    obtain ⟨a2, e2, f2⟩ := cell_int Try.underlying3 h2
    have h3 : DataW.trod enc Try.prog w 0 (fun _ => true) true n 3 ((l.drop 3).take (Try.prog.cellsOf 3)) = some y3 := hall' 3 _ rfl
    rw [hci] at h3
    obtain ⟨a3, e3, f3⟩ := cell_int Try.underlying3 h3
    have h4 : DataW.trod enc Try.prog w 0 (fun _ => true) true n 3 ((l.drop 4).take (Try.prog.cellsOf 3)) = some y4 := hall' 4 _ rfl
    rw [hci] at h4
    obtain ⟨a4, e4, f4⟩ := cell_int Try.underlying3 h4
    have h5 : DataW.trod enc Try.prog w 0 (fun _ => true) true n 3 ((l.drop 5).take (Try.prog.cellsOf 3)) = some y5 := hall' 5 _ rfl
    rw [hci] at h5
    obtain ⟨a5, e5, f5⟩ := cell_int Try.underlying3 h5
    have h6 : DataW.trod enc Try.prog w 0 (fun _ => true) true n 3 ((l.drop 6).take (Try.prog.cellsOf 3)) = some y6 := hall' 6 _ rfl
    rw [hci] at h6
    obtain ⟨a6, e6, f6⟩ := cell_int Try.underlying3 h6
    have h7 : DataW.trod enc Try.prog w 0 (fun _ => true) true n 4 ((l.drop 7).take (Try.prog.cellsOf 4)) = some y7 := hall' 7 _ rfl
    rw [hcb] at h7
    obtain ⟨b7, e7⟩ := cell_bool Try.underlying4 h7
    have h8 : DataW.trod enc Try.prog w 0 (fun _ => true) true n 4 ((l.drop 8).take (Try.prog.cellsOf 4)) = some y8 := hall' 8 _ rfl
    rw [hcb] at h8
    obtain ⟨b8, e8⟩ := cell_bool Try.underlying4 h8
    have h9 : DataW.trod enc Try.prog w 0 (fun _ => true) true n 22 ((l.drop 9).take (Try.prog.cellsOf 22)) = some y9 := hall' 9 _ rfl
    rw [hcy] at h9
    obtain ⟨A9, c9, o9, e9, f9, g9⟩ := cell_bytes Try.underlying22 Try.underlying5 hcu h9
    have h10 : DataW.trod enc Try.prog w 0 (fun _ => true) true n 22 ((l.drop 10).take (Try.prog.cellsOf 22)) = some y10 := hall' 10 _ rfl
    rw [hcy] at h10
    obtain ⟨A10, c10, d10, e10, f10, g10⟩ := cell_bytes Try.underlying22 Try.underlying5 hcu h10
    have k0 := piece_get e0
    have k1 := piece_get e1
    have k2 := piece_get e2
    have k3 := piece_get e3
    have k4 := piece_get e4
    have k5 := piece_get e5
    have k6 := piece_get e6
    have k7 := piece_get e7
    have k8 := piece_get e8
    have k9 := piece_get e9
    have k10 := piece_get e10
    have el : l = [.int .i64 a0, .int .i64 a1, .int .i64 a2, .int .i64 a3, .int .i64 a4, .int .i64 a5, .int .i64 a6, .bool b7, .bool b8, .slice A9 o9.length c9, .slice A10 d10.length c10] := by
      match l, hl' with
      | [x0, x1, x2, x3, x4, x5, x6, x7, x8, x9, x10], _ => simp at k0 k1 k2 k3 k4 k5 k6 k7 k8 k9 k10; simp [k0, k1, k2, k3, k4, k5, k6, k7, k8, k9, k10]
    refine ⟨⟨a0, a1, a2, a3, a4, a5, a6, b7, b8, o9, d10⟩, A9, c9, A10, c10, by rw [el]; rfl, f9, f10, g9, g10, ?_⟩
    intro m hm
    simp only [List.mem_cons, List.not_mem_nil, or_false] at hm
    rcases hm with rfl | rfl | rfl | rfl | rfl | rfl | rfl <;> assumption
set_option maxRecDepth 100000 in
theorem get_v6 (hv : Value.okWide Try.prog w .any base 45 v) (h : DataW.Trod enc Try.prog w 0 (fun _ => true) true 45 v d p) :
    ∃ q A c, v = v6v q A c ∧ Arg w w.heap.size A c q.dat ∧ c ≤ maxLen ∧ q.fits ∧ q.src.length = 16 ∧ q.dst.length = 16 := by
  obtain ⟨cs, rfl, hcs⟩ : ∃ cs, v = .agg cs ∧ cs.size = Try.prog.cellsOf 45 := by
    have := hv
    simp only [Value.okWide, Try.underlying45] at this
    obtain ⟨cs, h1, h2, _⟩ := this
    exact ⟨cs, h1, h2⟩
  obtain ⟨fuel, hf⟩ := h
  obtain ⟨xs, n, _, _, hl, hxs, hall⟩ := DataW.trod_struct Try.underlying45 hf
  have hci : Try.prog.cellsOf 3 = 1 := by kernel_rfl
  have hcb : Try.prog.cellsOf 4 = 1 := by kernel_rfl
  have hcy : Try.prog.cellsOf 22 = 1 := by kernel_rfl
  have hcu : Try.prog.cellsOf 5 = 1 := by kernel_rfl
  have hcn : Try.prog.cellsOf 45 = 37 := by kernel_rfl
  have hcs6 : Try.prog.cellsOf 43 = 16 := by kernel_rfl
  obtain ⟨l⟩ := cs
  have hl' : l.length = 37 := by rw [← hcn]; exact hl
  have hall' : ∀ (i : Nat) (f : Field), _ → DataW.trod enc Try.prog w 0 (fun _ => true) true n f.type ((l.drop f.offset).take (Try.prog.cellsOf f.type)) = xs[i]? := hall
  match xs, hxs with
  | [y0, y1, y2, y3, y4, y5, y6], _ =>
    have h0 : DataW.trod enc Try.prog w 0 (fun _ => true) true n 3 ((l.drop 0).take (Try.prog.cellsOf 3)) = some y0 := hall' 0 _ rfl
    rw [hci] at h0
    obtain ⟨a0, e0, f0⟩ := cell_int Try.underlying3 h0
    have h1 : DataW.trod enc Try.prog w 0 (fun _ => true) true n 3 ((l.drop 1).take (Try.prog.cellsOf 3)) = some y1 := hall' 1 _ rfl
    rw [hci] at h1
    obtain ⟨a1, e1, f1⟩ := cell_int Try.underlying3 h1
    have h2 : DataW.trod enc Try.prog w 0 (fun _ => true) true n 3 ((l.drop 2).take (Try.prog.cellsOf 3)) = some y2 := hall' 2 _ rfl
    rw [hci] at h2
    obtain ⟨a2, e2, f2⟩ := cell_int Try.underlying3 h2
    have h3 : DataW.trod enc Try.prog w 0 (fun _ => true) true n 3 ((l.drop 3).take (Try.prog.cellsOf 3)) = some y3 := hall' 3 _ rfl
    rw [hci] at h3
    obtain ⟨a3, e3, f3⟩ := cell_int Try.underlying3 h3
    have h4 : DataW.trod enc Try.prog w 0 (fun _ => true) true n 43 ((l.drop 4).take (Try.prog.cellsOf 43)) = some y4 := hall' 4 _ rfl
    rw [hcs6] at h4
    obtain ⟨s4, f4, e4⟩ := cells_six Try.underlying43 Try.underlying5 hcu hcs6 h4
    have h5 : DataW.trod enc Try.prog w 0 (fun _ => true) true n 43 ((l.drop 20).take (Try.prog.cellsOf 43)) = some y5 := hall' 5 _ rfl
    rw [hcs6] at h5
    obtain ⟨s5, f5, e5⟩ := cells_six Try.underlying43 Try.underlying5 hcu hcs6 h5
    have h6 : DataW.trod enc Try.prog w 0 (fun _ => true) true n 22 ((l.drop 36).take (Try.prog.cellsOf 22)) = some y6 := hall' 6 _ rfl
    rw [hcy] at h6
    obtain ⟨A6, c6, d6, e6, f6, g6⟩ := cell_bytes Try.underlying22 Try.underlying5 hcu h6
    have k0 := piece_get e0
    have k1 := piece_get e1
    have k2 := piece_get e2
    have k3 := piece_get e3
    have k6 := piece_get e6
    have el : l = [Value.int .i64 a0, Value.int .i64 a1, Value.int .i64 a2, Value.int .i64 a3] ++ row s4 ++ row s5 ++ [Value.slice A6 d6.length c6] := by
      rw [← e4, ← e5]
      have z1 : l = l.take 4 ++ ((l.drop 4).take 16 ++ ((l.drop 20).take 16 ++ l.drop 36)) := by
        have q1 : (l.drop 20) = (l.drop 20).take 16 ++ l.drop 36 := by conv => lhs; rw [← List.take_append_drop 16 (l.drop 20), List.drop_drop]
        have q2 : (l.drop 4) = (l.drop 4).take 16 ++ l.drop 20 := by conv => lhs; rw [← List.take_append_drop 16 (l.drop 4), List.drop_drop]
        conv => lhs; rw [← List.take_append_drop 4 l, q2, q1]
      have z2 : l.take 4 = [.int .i64 a0, .int .i64 a1, .int .i64 a2, .int .i64 a3] := by
        match l, hl' with
        | x0 :: x1 :: x2 :: x3 :: r, _ => simp at k0 k1 k2 k3; simp [k0, k1, k2, k3]
      have z3 : l.drop 36 = [.slice A6 d6.length c6] := by
        have q3 : (l.drop 36).length = 1 := by rw [List.length_drop]; omega
        have q4 : (l.drop 36).take 1 = l.drop 36 := List.take_of_length_le (by omega)
        rw [← q4]; exact e6
      rw [z2, z3] at z1
      rw [List.append_assoc, List.append_assoc]
      exact z1
    refine ⟨⟨a0, a1, a2, a3, s4, s5, d6⟩, A6, c6, by rw [el]; rfl, f6, g6, ?_, f4, f5⟩
    intro m hm
    simp only [List.mem_cons, List.not_mem_nil, or_false] at hm
    rcases hm with rfl | rfl | rfl | rfl <;> assumption
set_option maxRecDepth 100000 in
theorem get_frag (hv : Value.okWide Try.prog w .any base 51 v) (h : DataW.Trod enc Try.prog w 0 (fun _ => true) true 51 v d p) :
    ∃ q, v = frv q ∧ q.fits := by
  obtain ⟨cs, rfl, hcs⟩ : ∃ cs, v = .agg cs ∧ cs.size = Try.prog.cellsOf 51 := by
    have := hv
    simp only [Value.okWide, Try.underlying51] at this
    obtain ⟨cs, h1, h2, _⟩ := this
    exact ⟨cs, h1, h2⟩
  obtain ⟨fuel, hf⟩ := h
  obtain ⟨xs, n, _, _, hl, hxs, hall⟩ := DataW.trod_struct Try.underlying51 hf
  have hci : Try.prog.cellsOf 3 = 1 := by kernel_rfl
  have hcb : Try.prog.cellsOf 4 = 1 := by kernel_rfl
  have hcy : Try.prog.cellsOf 22 = 1 := by kernel_rfl
  have hcu : Try.prog.cellsOf 5 = 1 := by kernel_rfl
  have hcn : Try.prog.cellsOf 51 = 4 := by kernel_rfl
  obtain ⟨l⟩ := cs
  have hl' : l.length = 4 := by rw [← hcn]; exact hl
  have hall' : ∀ (i : Nat) (f : Field), _ → DataW.trod enc Try.prog w 0 (fun _ => true) true n f.type ((l.drop f.offset).take (Try.prog.cellsOf f.type)) = xs[i]? := hall
  match xs, hxs with
  | [y0, y1, y2, y3], _ =>
    have h0 : DataW.trod enc Try.prog w 0 (fun _ => true) true n 3 ((l.drop 0).take (Try.prog.cellsOf 3)) = some y0 := hall' 0 _ rfl
    rw [hci] at h0
    obtain ⟨a0, e0, f0⟩ := cell_int Try.underlying3 h0
    have h1 : DataW.trod enc Try.prog w 0 (fun _ => true) true n 3 ((l.drop 1).take (Try.prog.cellsOf 3)) = some y1 := hall' 1 _ rfl
    rw [hci] at h1
    obtain ⟨a1, e1, f1⟩ := cell_int Try.underlying3 h1
    have h2 : DataW.trod enc Try.prog w 0 (fun _ => true) true n 3 ((l.drop 2).take (Try.prog.cellsOf 3)) = some y2 := hall' 2 _ rfl
    rw [hci] at h2
    obtain ⟨a2, e2, f2⟩ := cell_int Try.underlying3 h2
    have h3 : DataW.trod enc Try.prog w 0 (fun _ => true) true n 4 ((l.drop 3).take (Try.prog.cellsOf 4)) = some y3 := hall' 3 _ rfl
    rw [hcb] at h3
    obtain ⟨b3, e3⟩ := cell_bool Try.underlying4 h3
    have k0 := piece_get e0
    have k1 := piece_get e1
    have k2 := piece_get e2
    have k3 := piece_get e3
    have el : l = [.int .i64 a0, .int .i64 a1, .int .i64 a2, .bool b3] := by
      match l, hl' with
      | [x0, x1, x2, x3], _ => simp at k0 k1 k2 k3; simp [k0, k1, k2, k3]
    refine ⟨⟨a0, a1, a2, b3⟩, by rw [el]; rfl, ?_⟩
    intro m hm
    simp only [List.mem_cons, List.not_mem_nil, or_false] at hm
    rcases hm with rfl | rfl | rfl <;> assumption
end
end Go.Proofs.Ytcebobcakiljhaa

/-
  Texts of numbers and of addresses of IPv4, in plain lists of bytes: no program. Conditions are each theorem's own.
-/
namespace Go.Proofs.Ytcebobcakiljhaa

/-- A number below 256 in decimal digits. -/
def dec (n : Nat) : List UInt8 :=
  if n < 10 then [UInt8.ofNat (48 + n)] else if n < 100 then [UInt8.ofNat (48 + n / 10), UInt8.ofNat (48 + n % 10)] else [UInt8.ofNat (48 + n / 100), UInt8.ofNat (48 + n / 10 % 10), UInt8.ofNat (48 + n % 10)]
/-- An address's text. -/
def txt (a : Nat) : List UInt8 := dec (a / 16777216) ++ [46] ++ dec (a / 65536 % 256) ++ [46] ++ dec (a / 256 % 256) ++ [46] ++ dec (a % 256)

theorem dec_len {n : Nat} : 1 ≤ (dec n).length ∧ (dec n).length ≤ 3 := by
  unfold dec; split
  · simp
  · split <;> simp
theorem txt_len {a : Nat} : (txt a).length ≤ 15 := by
  have h1 := @dec_len (a / 16777216); have h2 := @dec_len (a / 65536 % 256); have h3 := @dec_len (a / 256 % 256); have h4 := @dec_len (a % 256)
  simp only [txt, List.length_append, List.length_singleton]; omega

/-- One step of reading a text: the parts that are done, and the part under way. -/
def pst (s : Option (Nat × Nat)) (c : UInt8) : Option (Nat × Nat) :=
  match s with
  | none => none
  | some (n, p) =>
    if c = 46 then (if n * 256 + p ≤ 16777215 then some (n * 256 + p, 0) else none)
    else if 48 ≤ c.toNat ∧ c.toNat ≤ 57 then (if p * 10 + (c.toNat - 48) ≤ 255 ∧ n ≤ 16777215 then some (n, p * 10 + (c.toNat - 48)) else none)
    else none
def pfold (s : Option (Nat × Nat)) (l : List UInt8) : Option (Nat × Nat) := l.foldl pst s
theorem pfold_append (s : Option (Nat × Nat)) (a b : List UInt8) : pfold s (a ++ b) = pfold (pfold s a) b := by simp [pfold]
theorem pfold_none (l : List UInt8) : pfold none l = none := by
  induction l with
  | nil => rfl
  | cons c l ih => simpa [pfold, pst] using ih

theorem pst_digit {n p d : Nat} (hd : d < 10) (hn : n ≤ 16777215) (hp : p * 10 + d ≤ 255) : pst (some (n, p)) (UInt8.ofNat (48 + d)) = some (n, p * 10 + d) := by
  have e : (UInt8.ofNat (48 + d)).toNat = 48 + d := by simp [UInt8.toNat_ofNat']; omega
  have h46 : UInt8.ofNat (48 + d) ≠ 46 := by intro h; have := congrArg UInt8.toNat h; rw [e] at this; simp at this; omega
  unfold pst
  simp only [h46, if_false, e]
  rw [if_pos (by omega), if_pos (by omega)]
  congr 2; omega
theorem pst_dot {n p : Nat} (h : n * 256 + p ≤ 16777215) : pst (some (n, p)) 46 = some (n * 256 + p, 0) := by simp [pst, h]
theorem pfold_dec {n d : Nat} (hn : n ≤ 16777215) (hd : d < 256) : pfold (some (n, 0)) (dec d) = some (n, d) := by
  unfold dec
  split
  · simp only [pfold, List.foldl_cons, List.foldl_nil]; rw [pst_digit (by omega) hn (by omega)]; congr 2; omega
  · split
    · simp only [pfold, List.foldl_cons, List.foldl_nil]
      rw [pst_digit (by omega) hn (by omega), pst_digit (by omega) hn (by omega)]; congr 2; omega
    · simp only [pfold, List.foldl_cons, List.foldl_nil]
      rw [pst_digit (by omega) hn (by omega), pst_digit (by omega) hn (by omega), pst_digit (by omega) hn (by omega)]; congr 2; omega
theorem pfold_txt {a : Nat} (h : a < 4294967296) : pfold (some (0, 0)) (txt a) = some (a / 256, a % 256) := by
  have dot : ∀ s, pfold s [46] = pst s 46 := fun s => rfl
  simp only [txt, pfold_append, dot]
  rw [pfold_dec (by omega) (by omega), pst_dot (by omega), pfold_dec (by omega) (by omega), pst_dot (by omega), pfold_dec (by omega) (by omega), pst_dot (by omega), pfold_dec (by omega) (by omega)]
  congr 2; omega
theorem pfold_bd : ∀ (l : List UInt8) {n p : Nat} {n0 p0 : Nat}, n0 ≤ 16777215 → p0 ≤ 255 → pfold (some (n0, p0)) l = some (n, p) → n ≤ 16777215 ∧ p ≤ 255
  | [], n, p, n0, p0, h1, h2, h => by simp [pfold] at h; omega
  | c :: l, n, p, n0, p0, h1, h2, h => by
    have h' : pfold (pst (some (n0, p0)) c) l = some (n, p) := h
    cases e : pst (some (n0, p0)) c with
    | none => rw [e, pfold_none] at h'; cases h'
    | some q =>
      obtain ⟨n1, p1⟩ := q
      rw [e] at h'
      refine pfold_bd l ?_ ?_ h'
      all_goals
        unfold pst at e
        dsimp only at e
        split at e
        · split at e
          · simp at e; omega
          · cases e
        · split at e
          · split at e
            · simp at e; omega
            · cases e
          · cases e
theorem txt_inj {a b : Nat} (ha : a < 4294967296) (hb : b < 4294967296) (h : txt a = txt b) : a = b := by
  have h1 := pfold_txt ha
  rw [h, pfold_txt hb] at h1
  simp at h1; omega

theorem pst_no {n p : Nat} {c : UInt8} (h : (c.toNat = 46 ∧ 16777215 < n * 256 + p) ∨ (c.toNat ≠ 46 ∧ (c.toNat < 48 ∨ 57 < c.toNat)) ∨ (c.toNat ≠ 46 ∧ 255 < p * 10 + (c.toNat - 48))) : pst (some (n, p)) c = none := by
  have h46 : c = 46 ↔ c.toNat = 46 := ⟨fun e => by rw [e]; rfl, fun e => UInt8.toNat_inj.1 e⟩
  unfold pst
  dsimp only
  split
  · rw [if_neg (by rw [h46] at *; omega)]
  · split
    · rw [if_neg (by rw [h46] at *; omega)]
    · rfl
theorem pst_46 {n p : Nat} {c : UInt8} (h : c.toNat = 46) (h2 : n * 256 + p ≤ 16777215) : pst (some (n, p)) c = some (n * 256 + p, 0) := by
  have : c = 46 := UInt8.toNat_inj.1 h
  subst this; exact pst_dot h2
theorem pst_dec {n p : Nat} {c : UInt8} (h : 48 ≤ c.toNat) (h2 : c.toNat ≤ 57) (h3 : p * 10 + (c.toNat - 48) ≤ 255) (hn : n ≤ 16777215) : pst (some (n, p)) c = some (n, p * 10 + (c.toNat - 48)) := by
  have e : c = UInt8.ofNat (48 + (c.toNat - 48)) := UInt8.toNat_inj.1 (by simp [UInt8.toNat_ofNat']; omega)
  have := pst_digit (n := n) (p := p) (d := c.toNat - 48) (by omega) hn h3
  rw [← e] at this
  exact this
theorem pfold_take {l : List UInt8} {k : Nat} {s : Option (Nat × Nat)} (h : k < l.length) : pfold s (l.take (k + 1)) = pst (pfold s (l.take k)) l[k] := by
  rw [List.take_succ_eq_append_getElem h, pfold_append]; rfl

/-- The address that a text is, and the error's number. -/
noncomputable def parV (s : List UInt8) : Int := by
  classical exact if h : ∃ a, a < 4294967296 ∧ txt a = s then (Classical.choose h : Nat) else 0
noncomputable def parE (s : List UInt8) : Int := by
  classical exact if ∃ a, a < 4294967296 ∧ txt a = s then 0 else 4
theorem par_yes {s : List UInt8} {a : Nat} (ha : a < 4294967296) (h : txt a = s) : parV s = a ∧ parE s = 0 := by
  have hex : ∃ a, a < 4294967296 ∧ txt a = s := ⟨a, ha, h⟩
  unfold parV parE
  rw [dif_pos hex, if_pos hex]
  obtain ⟨h1, h2⟩ := Classical.choose_spec hex
  have : Classical.choose hex = a := txt_inj h1 ha (h2.trans h.symm)
  exact ⟨by rw [this], rfl⟩
theorem par_no {s : List UInt8} (h : ¬ ∃ a, a < 4294967296 ∧ txt a = s) : parV s = 0 ∧ parE s = 4 := by
  unfold parV parE
  rw [dif_neg h, if_neg h]; exact ⟨rfl, rfl⟩
/-- What reading tells: nothing, and it is no text. -/
theorem par_none {s : List UInt8} {k : Nat} (h : pfold (some (0, 0)) (s.take k) = none) : parV s = 0 ∧ parE s = 4 := by
  refine par_no fun ⟨a, ha, e⟩ => ?_
  have h1 := pfold_txt ha
  rw [e, ← List.take_append_drop k s, pfold_append, h, pfold_none] at h1
  cases h1
theorem par_long {s : List UInt8} (h : 15 < s.length) : parV s = 0 ∧ parE s = 4 :=
  par_no fun ⟨a, _, e⟩ => by have := @txt_len a; rw [e] at this; omega
/-- A number, and the text is its text, or no text at all. -/
theorem par_end {s : List UInt8} {n p : Nat} (h : pfold (some (0, 0)) s = some (n, p)) : (txt (n * 256 + p) = s → parV s = ((n * 256 + p : Nat) : Int) ∧ parE s = 0) ∧ (txt (n * 256 + p) ≠ s → parV s = 0 ∧ parE s = 4) := by
  have hb := pfold_bd s (by omega) (by omega) h
  refine ⟨fun e => par_yes (by omega) e, fun hne => par_no fun ⟨a, ha, e⟩ => hne ?_⟩
  have h1 := pfold_txt ha
  rw [e, h] at h1
  simp at h1
  have : n * 256 + p = a := by omega
  rw [this]; exact e
/-- A text is an address's, or none's. -/
theorem par_cases (s : List UInt8) : (∃ a : Nat, a < 4294967296 ∧ txt a = s ∧ parV s = a ∧ parE s = 0) ∨ (parV s = 0 ∧ parE s = 4) := by
  by_cases h : ∃ a, a < 4294967296 ∧ txt a = s
  · obtain ⟨a, ha, e⟩ := h
    exact .inl ⟨a, ha, e, par_yes ha e⟩
  · exact .inr (par_no h)
end Go.Proofs.Ytcebobcakiljhaa

/-
  Contracts of the document's plain answers of layer 3: Right, Text, Parse, Host, Private. Conditions are each theorem's own.
-/
namespace Go.Proofs.Ytcebobcakiljhaa
open Go.RowKit

theorem ten_cut {m : Nat} (h : m < 10) : ({ data := #[48, 49, 50, 51, 52, 53, 54, 55, 56, 57] } : ByteArray).extract m (m + 1) = strB [UInt8.ofNat (48 + m)] := by
  have : m = 0 ∨ m = 1 ∨ m = 2 ∨ m = 3 ∨ m = 4 ∨ m = 5 ∨ m = 6 ∨ m = 7 ∨ m = 8 ∨ m = 9 := by omega
  rcases this with rfl | rfl | rfl | rfl | rfl | rfl | rfl | rfl | rfl | rfl <;> decide

theorem dec_ten {n : Nat} (h : 10 ≤ n) (h2 : n < 256) : dec (n / 10) ++ [UInt8.ofNat (48 + n % 10)] = dec n := by
  by_cases h3 : n < 100
  · rw [dec, if_pos (by omega), dec, if_neg (by omega), if_pos h3]; rfl
  · rw [dec, if_neg (by omega), if_pos (by omega), dec, if_neg (by omega), if_neg h3]
    rw [show n / 10 / 10 = n / 100 from by omega]; rfl
/-- Is a number an address? A plain definition. -/
def okB (a : Int) : Bool := decide (0 ≤ a ∧ a < 4294967296)
theorem r3right_any (a : Int) (w : World) : Calls Try.prog 55 #[.int .i64 a] w fun e w' => e = .returned (.bool (okB a)) ∧ w = w' := by
  by_cases h : 0 ≤ a
  · go_enter Try.func55, Try.ntmps55
    go_wp2
    go_ret
    exact ⟨ret_bool (by rw [Bool.eq_iff_iff]; simp [okB, h]), rfl⟩
  · have hd : decide (0 ≤ a) = false := by simp; omega
    go_enter Try.func55, Try.ntmps55
    go_wp2
    go_ret
    exact ⟨ret_bool (by rw [Bool.eq_iff_iff]; simp [okB]; omega), rfl⟩

/-- The text of any number. -/
def txtI (a : Int) : List UInt8 := if 0 ≤ a ∧ a < 4294967296 then txt a.toNat else []
end Go.Proofs.Ytcebobcakiljhaa

/-
  Contracts of the document's plain answers of layer 5: Head, Size, Whole, Check, Same. Conditions are each theorem's own.
-/
namespace Go.Proofs.Ytcebobcakiljhaa
open Go.RowKit

/-- A packet's cells. -/
def v4a (q : P4) (A : Option Addr) (c : Nat) (A' : Option Addr) (c' : Nat) : Array Value :=
  #[.int .i64 q.tos, .int .i64 q.id, .int .i64 q.off, .int .i64 q.ttl, .int .i64 q.proto, .int .i64 q.src, .int .i64 q.dst, .bool q.df, .bool q.mf, .slice A q.opt.length c, .slice A' q.dat.length c']
/-- A whole packet is read out of a block of its own. -/
theorem v4_load {ops : Array Oper} {rest : List Oper} {d : Tmp} {x : Operand} {ty : TypeId} {pos : String} {af : Array Edge} {a : Act} {w : World} {Q : Exit → Act → World → Prop}
    {g : Nat} {t : TypeId} {cs : Array Value} {fr : Nat × Nat} (hx : a.eval x = .pointer (some ⟨g, 0, none⟩)) (hg : w.heap[g]? = some (.cells cs t fr)) (hl : cs.size = 11)
    (h : wpList Try.prog ops Q rest (a.put (some d) (.agg cs)) w) : wpList Try.prog ops Q (⟨some d, .load 24 x, ty, pos, af, none⟩ :: rest) a w :=
  wpList_load_row rfl 24 x rfl g hx t cs fr _ hg Try.underlying24 rfl (by rw [hl]; kernel_rfl) h
section
variable (q : P4) (A : Option Addr) (c : Nat) (A' : Option Addr) (c' : Nat) (w : World)
theorem r5head (ho : q.opt.length ≤ 1000000) : Calls Try.prog 32 #[v4v q A c A' c'] w fun e w' => e = .returned (.int .i64 (head4 q)) ∧ Below w.heap.size w w' := by
  have hB : ∀ o, Below w.heap.size w (w.alloc o) := fun o => (Below.refl w.heap.size w).alloc (Nat.le_refl _) o
  unfold v4v head4
  go_enter Try.func32, Try.ntmps32
  go_wp2_with fail
  go_ret
  exact ⟨rfl, hB _⟩
end
end Go.Proofs.Ytcebobcakiljhaa

/-
  A region that draws its order, whose operations leave what was there as it was: its walk step by step. Conditions are each theorem's own.
-/
namespace Go.Proofs.Ytcebobcakiljhaa
open Go.RowKit

theorem range_below {w w' : World} {b o B : Nat} {cs : List Value} (h : w.rangeAt b o cs) (hB : b < B) (hb : Below B w w') : w'.rangeAt b o cs := fun j v hj => by
  rw [hb.cell hB]; exact h j v hj
theorem held_pure {P : Program} {ops : Array Oper} {Q : Exit → Act → World → Prop} {md : Region.Mode} {S : World → Prop} {i : Nat} {oi : Oper} {v : Value} {fuel : Nat} {listed : Array Bool} {a : Act} {w : World} (hi : ops[i]? = some oi)
    (hs : Region.noSelect ops = true) (hf : Region.free md ops listed i = true) (hr : (Region.ready md ops listed).contains i = true)
    (hQ : ∀ c a w, Q (.panic c) (a.put oi.dst v) w → Q (.panic c) a w) (hw : Region.wanted oi (yielded ops a.tmps) = true)
    (hrun : ∀ w, S w → (execOp a.eval oi).run P w = .ok (.value v) w) (hS : S w)
    (h : S w → wpAnyH P md ops Q S fuel (listed.setIfInBounds i true) (a.put oi.dst v) w) : wpAnyH P md ops Q S (fuel + 1) listed a w :=
  wpAnyH_take hi hs hf hr hQ (.inl ⟨hw, hrun⟩) hS (h hS)
theorem held_skip {P : Program} {ops : Array Oper} {Q : Exit → Act → World → Prop} {md : Region.Mode} {S : World → Prop} {i : Nat} {oi : Oper} {fuel : Nat} {listed : Array Bool} {a : Act} {w : World} (hi : ops[i]? = some oi)
    (hs : Region.noSelect ops = true) (hf : Region.free md ops listed i = true) (hr : (Region.ready md ops listed).contains i = true)
    (hQ : ∀ c a w, Q (.panic c) (a.put oi.dst undef) w → Q (.panic c) a w) (hw : Region.wanted oi (yielded ops a.tmps) = false) (hS : S w)
    (h : S w → wpAnyH P md ops Q S fuel (listed.setIfInBounds i true) (a.put oi.dst undef) w) : wpAnyH P md ops Q S (fuel + 1) listed a w :=
  wpAnyH_take hi hs hf hr hQ (.inr ⟨hw, rfl⟩) hS (h hS)
/-- What a class of worlds 'as w0 below its end' hands on. -/
theorem below_step {w0 w w' : World} (h : Below w0.heap.size w0 w) (hb : Below w.heap.size w w') : Below w0.heap.size w0 w' := h.trans (hb.mono h.size)
/-- Two new blocks, a draw, three calls. -/
theorem chain4 {w w1 w2 w3 w4 : World} {x y : Obj} (b1 : Below w.heap.size w w1) (b2 : Below ((w1.alloc x).alloc y).drew.heap.size ((w1.alloc x).alloc y).drew w2) (b3 : Below w2.heap.size w2 w3) (b4 : Below w3.heap.size w3 w4) : Below w.heap.size w w4 := by
  have h1 : ((w1.alloc x).alloc y).drew.heap.size = w1.heap.size + 2 := by show ((w1.alloc x).alloc y).heap.size = _; simp
  have s1 := b1.size
  have s2 := b2.size
  have s3 := b3.size
  have hX : Below w.heap.size w ((w1.alloc x).alloc y).drew := ((b1.alloc s1 x).alloc (by simp; omega) y).drew
  exact ((hX.trans (b2.mono (by omega))).trans (b3.mono (by omega))).trans (b4.mono (by omega))
theorem ints_new (w : World) (zs : List Int) (t : TypeId) : RdI (w.alloc (.cells (zs.map (Value.int .i64)).toArray t)).drew (w.heap.size + 1) (some ⟨w.heap.size, 0, none⟩) zs := fun _ =>
  ⟨w.heap.size, 0, rfl, Nat.lt_succ_self _, fun j hj => by
    show (w.alloc (.cells (zs.map (Value.int .i64)).toArray t)).cell? _ = _
    rw [Nat.zero_add, World.cell?_alloc_new, List.getElem?_toArray, List.getElem?_map, List.getElem?_eq_getElem hj, List.getD_eq_getElem?_getD, List.getElem?_eq_getElem hj]; rfl⟩
end Go.Proofs.Ytcebobcakiljhaa

/-
  Reads out of a packet's block, for walks of regions that draw their order. Conditions are each theorem's own.
-/
namespace Go.Proofs.Ytcebobcakiljhaa
open Go.RowKit

theorem run_load_v4 {o : Oper} {a : Act} {w : World} {x : Operand} {g : Nat} {cs : List Value} (ho : o.op = .load 24 x) (hx : a.eval x = .pointer (some ⟨g, 0, none⟩)) (hr : w.rangeAt g 0 cs) (hl : cs.length = 11) :
    (execOp a.eval o).run Try.prog w = .ok (.value (.agg cs.toArray)) w := by
  have h := run_loadVar_mid (P := Try.prog) w g 0 24 cs _ hr Try.underlying24 rfl (by rw [hl]; kernel_rfl)
  unfold execOp
  simp only [ho, hx, Instr.loadAt, Instr.sureAddr, Sem.run_bind, Sem.run_pure, Result.andThen_ok, h]
theorem run_load_sl {o : Oper} {a : Act} {w : World} {x : Operand} {p : Addr} {A : Option Addr} {n c : Nat} (ho : o.op = .load 22 x) (hx : a.eval x = .pointer (some p)) (hc : w.cell? p = some (.slice A n c)) :
    (execOp a.eval o).run Try.prog w = .ok (.value (.slice A n c)) w := by
  unfold execOp
  simp only [ho, hx, Instr.loadAt, Instr.sureAddr, Sem.run_bind, Sem.run_pure, Result.andThen_ok]
  go_simp
theorem run_load_int {o : Oper} {a : Act} {w : World} {x : Operand} {p : Addr} {n : Int} (ho : o.op = .load 3 x) (hx : a.eval x = .pointer (some p)) (hc : w.cell? p = some (.int .i64 n)) :
    (execOp a.eval o).run Try.prog w = .ok (.value (.int .i64 n)) w := by
  unfold execOp
  simp only [ho, hx, Instr.loadAt, Instr.sureAddr, Sem.run_bind, Sem.run_pure, Result.andThen_ok]
  go_simp
theorem run_load_bool {o : Oper} {a : Act} {w : World} {x : Operand} {p : Addr} {b : Bool} (ho : o.op = .load 4 x) (hx : a.eval x = .pointer (some p)) (hc : w.cell? p = some (.bool b)) :
    (execOp a.eval o).run Try.prog w = .ok (.value (.bool b)) w := by
  unfold execOp
  simp only [ho, hx, Instr.loadAt, Instr.sureAddr, Sem.run_bind, Sem.run_pure, Result.andThen_ok]
  go_simp
/-- A packet that lies in a block of its own. -/
def At4 (W : World) (g : Nat) (q : P4) (A : Option Addr) (c : Nat) (A' : Option Addr) (c' : Nat) : Prop := W.rangeAt g 0 (v4a q A c A' c').toList
section
variable {W : World} {g : Nat} {q : P4} {A A' : Option Addr} {c c' : Nat}
theorem At4.new (w : World) : At4 (w.alloc (.cells (v4a q A c A' c') 24)) w.heap.size q A c A' c' := fun j v hj => by
  rw [Nat.zero_add, World.cell?_alloc_new, ← hj, Array.getElem?_toList]
theorem At4.below {w : World} {B : Nat} (h : At4 W g q A c A' c') (hb : Below B W w) (hg : g < B) : At4 w g q A c A' c' := range_below h hg hb
theorem At4.drewN {n : Nat} (h : At4 W g q A c A' c') : At4 (W.drewN n) g q A c A' c' := h
theorem At4.tos (h : At4 W g q A c A' c') : W.cell? ⟨g, 0, none⟩ = some (.int .i64 q.tos) := h 0 _ rfl
theorem At4.id (h : At4 W g q A c A' c') : W.cell? ⟨g, 1, none⟩ = some (.int .i64 q.id) := h 1 _ rfl
theorem At4.off (h : At4 W g q A c A' c') : W.cell? ⟨g, 2, none⟩ = some (.int .i64 q.off) := h 2 _ rfl
theorem At4.ttl (h : At4 W g q A c A' c') : W.cell? ⟨g, 3, none⟩ = some (.int .i64 q.ttl) := h 3 _ rfl
theorem At4.proto (h : At4 W g q A c A' c') : W.cell? ⟨g, 4, none⟩ = some (.int .i64 q.proto) := h 4 _ rfl
theorem At4.src (h : At4 W g q A c A' c') : W.cell? ⟨g, 5, none⟩ = some (.int .i64 q.src) := h 5 _ rfl
theorem At4.dst (h : At4 W g q A c A' c') : W.cell? ⟨g, 6, none⟩ = some (.int .i64 q.dst) := h 6 _ rfl
theorem At4.df (h : At4 W g q A c A' c') : W.cell? ⟨g, 7, none⟩ = some (.bool q.df) := h 7 _ rfl
theorem At4.mf (h : At4 W g q A c A' c') : W.cell? ⟨g, 8, none⟩ = some (.bool q.mf) := h 8 _ rfl
theorem At4.opt (h : At4 W g q A c A' c') : W.cell? ⟨g, 9, none⟩ = some (.slice A q.opt.length c) := h 9 _ rfl
theorem At4.dat (h : At4 W g q A c A' c') : W.cell? ⟨g, 10, none⟩ = some (.slice A' q.dat.length c') := h 10 _ rfl
end
end Go.Proofs.Ytcebobcakiljhaa

/-
  Contracts of the document's plain answers of layer 5: Size, Check. Conditions are each theorem's own.
-/
namespace Go.Proofs.Ytcebobcakiljhaa
open Go.RowKit

section
variable (q : P4) (A : Option Addr) (c : Nat) (A' : Option Addr) (c' : Nat) (w : World)
set_option maxHeartbeats 1000000 in
theorem r5size (ho : q.opt.length ≤ 1000000) (hd : q.dat.length ≤ 1000000) : Calls Try.prog 31 #[v4v q A c A' c'] w fun e w' => e = .returned (.int .i64 (size4 q)) ∧ Below w.heap.size w w' := by
  have hB : Below w.heap.size w (w.alloc (.cells (v4a q A c A' c') 24)) := (Below.refl w.heap.size w).alloc (Nat.le_refl _) _
  have hAt := At4.new (q := q) (A := A) (c := c) (A' := A') (c' := c') w
  have hz : (w.alloc (.cells (v4a q A c A' c') 24)).heap.size = w.heap.size + 1 := by simp
  have HZ := Lib.hid (show size4 q = head4 q + (q.dat.length : Int) from rfl)
  have hh : head4 q = 20 + (q.opt.length : Int) := rfl
  have hhb : 0 ≤ head4 q ∧ head4 q ≤ 1000020 := by omega
  clear hh
  have HW := Lib.hid (IntWalk.i64_in (head4 q + (q.dat.length : Int)) (by omega))
  unfold v4v
  rw [show #[Value.int .i64 q.tos, .int .i64 q.id, .int .i64 q.off, .int .i64 q.ttl, .int .i64 q.proto, .int .i64 q.src, .int .i64 q.dst, .bool q.df, .bool q.mf, .slice A q.opt.length c, .slice A' q.dat.length c'] = v4a q A c A' c' from rfl]
  go_enter Try.func31, Try.ntmps31
  go_wp2_with fail
  generalize w.alloc (.cells (v4a q A c A' c') 24) = W at *
  refine wp_region_held_drew (S := fun w' => Below W.heap.size W w') (by kernel_rfl) (Below.refl _ W).drew (fun hS => ?_)
  refine held_pure (i := 0) (oi := ⟨some 3, _, _, _, _, _⟩) rfl (by kernel_rfl) (by kernel_rfl) (by kernel_rfl) (fun _ _ _ h => h) (by rfl) (fun w hSw => run_load_v4 rfl rfl (hAt.below hSw (by omega)) rfl) hS (fun hS => ?_)
  try go_frame
  refine held_pure (i := 2) (oi := ⟨some 5, _, _, _, _, _⟩) rfl (by kernel_rfl) (by kernel_rfl) (by kernel_rfl) (fun _ _ _ h => h) (by rfl) (v := ?_) (fun w hSw => ?_) hS (fun hS => ?_)
  rotate_left
  · go_simp; try with_reducible rfl
  try go_frame
  refine held_pure (i := 3) (oi := ⟨some 6, _, _, _, _, _⟩) rfl (by kernel_rfl) (by kernel_rfl) (by kernel_rfl) (fun _ _ _ h => h) (by rfl) (fun w hSw => run_load_sl rfl rfl (hAt.below hSw (by omega)).dat) hS (fun hS => ?_)
  try go_frame
  refine held_pure (i := 4) (oi := ⟨some 7, _, _, _, _, _⟩) rfl (by kernel_rfl) (by kernel_rfl) (by kernel_rfl) (fun _ _ _ h => h) (by rfl) (v := ?_) (fun w hSw => ?_) hS (fun hS => ?_)
  rotate_left
  · go_simp; try with_reducible rfl
  try go_frame
  refine wpAnyH_ready (rs := [1]) (by kernel_rfl) (by simp) (AllReadyH.cons (o := ⟨some 4, _, _, _, _, _⟩) rfl (fun K hK => ?_) AllReadyH.nil)
  rw [if_pos (by rfl)]
  go_simp
  refine (r5head q A c A' c' _ ho).mono ?_
  rintro e w1 ⟨rfl, x1⟩
  show K _ _
  refine hK.out _ _ (below_step hS x1) (fun hS => ?_)
  clear hK K
  try go_frame
  refine held_pure (i := 5) (oi := ⟨some 8, _, _, _, _, _⟩) rfl (by kernel_rfl) (by kernel_rfl) (by kernel_rfl) (fun _ _ _ h => h) (by rfl) (v := ?_) (fun w hSw => ?_) hS (fun hS => ?_)
  rotate_left
  · go_simp; try with_reducible rfl
  try go_frame
  refine held_pure (i := 6) (oi := ⟨some 2, _, _, _, _, _⟩) rfl (by kernel_rfl) (by kernel_rfl) (by kernel_rfl) (fun _ _ _ h => h) (by rfl) (v := ?_) (fun w hSw => ?_) hS (fun hS => ?_)
  rotate_left
  · go_simp; try with_reducible rfl
  try go_frame
  refine wpAnyH_done (by kernel_rfl) ?_ _
  go_wp2_with fail
  go_ret
  exact ⟨ret_int (by rw [HZ.out]; exact HW.out), hB.trans (hS.mono (by omega))⟩
def fieldsB (q : P4) : Bool := fitsB q.tos 1 && fitsB q.ttl 1 && fitsB q.proto 1 && fitsB q.id 2
def placesB (q : P4) : Bool := okB q.src && okB q.dst && decide (0 ≤ q.off) && decide (q.off ≤ 65528) && decide (q.off % 8 = 0)
def optsB (q : P4) : Bool := decide (q.opt.length ≤ 40) && decide (q.opt.length % 4 = 0)
theorem arg4_iff (q : P4) : arg4 q ↔ fieldsB q = true ∧ placesB q = true ∧ optsB q = true ∧ (q.mf = true → q.dat.length % 8 = 0) := by
  unfold arg4 fieldsB placesB optsB
  simp only [Bool.and_eq_true, fitsB_iff, okB, decide_eq_true_eq, pw]
  constructor
  · rintro ⟨a1, a2, a3, a4, a5, a6, a7, a8, a9, a10, a11, a12, a13, a14, a15, a16, a17, a18⟩
    refine ⟨⟨⟨⟨?_, ?_⟩, ?_⟩, ?_⟩, ⟨⟨⟨⟨?_, ?_⟩, ?_⟩, ?_⟩, ?_⟩, ⟨?_, ?_⟩, a18⟩ <;> (try simp) <;> omega
  · rintro ⟨⟨⟨⟨f1, f2⟩, f3⟩, f4⟩, ⟨⟨⟨⟨p1, p2⟩, p3⟩, p4⟩, p5⟩, ⟨o1, o2⟩, hm⟩
    simp at f1 f2 f3 f4
    refine ⟨?_, ?_, ?_, ?_, ?_, ?_, ?_, ?_, ?_, ?_, ?_, ?_, ?_, ?_, ?_, ?_, ?_, hm⟩ <;> omega
set_option maxRecDepth 100000 in
set_option maxHeartbeats 4000000 in
theorem r5check (ho : q.opt.length ≤ 1000000) (hd : q.dat.length ≤ 1000000) : Calls Try.prog 30 #[v4v q A c A' c'] w fun e w' => e = .returned (.int .i64 (chk4 q)) ∧ Below w.heap.size w w' := by
  have hB : Below w.heap.size w (w.alloc (.cells (v4a q A c A' c') 24)) := (Below.refl w.heap.size w).alloc (Nat.le_refl _) _
  have hAt := At4.new (q := q) (A := A) (c := c) (A' := A') (c' := c') w
  have hz : (w.alloc (.cells (v4a q A c A' c') 24)).heap.size = w.heap.size + 1 := by simp
  have hg := World.alloc_heap_new w (.cells (v4a q A c A' c') 24)
  have h0 := hAt.tos; have h1 := hAt.id; have h2 := hAt.off; have h3 := hAt.ttl; have h4 := hAt.proto; have h5 := hAt.src; have h6 := hAt.dst; have h8 := hAt.mf; have h9 := hAt.opt; have h10 := hAt.dat
  unfold v4v
  rw [show #[Value.int .i64 q.tos, .int .i64 q.id, .int .i64 q.off, .int .i64 q.ttl, .int .i64 q.proto, .int .i64 q.src, .int .i64 q.dst, .bool q.df, .bool q.mf, .slice A q.opt.length c, .slice A' q.dat.length c'] = v4a q A c A' c' from rfl]
  go_enter Try.func30, Try.ntmps30
  go_upto_region 1 with fail
  generalize w.alloc (.cells (v4a q A c A' c') 24) = W at *
  obtain ⟨f0, hf0⟩ : ∃ b, b = fitsB q.tos 1 := ⟨_, rfl⟩
  obtain ⟨f1, hf1⟩ : ∃ b, b = fitsB q.ttl 1 := ⟨_, rfl⟩
  obtain ⟨f2, hf2⟩ : ∃ b, b = fitsB q.proto 1 := ⟨_, rfl⟩
  obtain ⟨f3, hf3⟩ : ∃ b, b = fitsB q.id 2 := ⟨_, rfl⟩
  have HF := Lib.hid (show fieldsB q = (f0 && f1 && f2 && f3) from by rw [fieldsB, hf0, hf1, hf2, hf3])
  have H0 := Lib.hid hf0; have H1 := Lib.hid hf1; have H2 := Lib.hid hf2; have H3 := Lib.hid hf3
  clear hf0 hf1 hf2 hf3
  go_cut [3] from 6 (fun s w' => s = .bool (f0 && f1 && f2 && f3) ∧ w' = W)
  case first =>
    cases f0 <;> cases f1 <;> cases f2 <;> cases f3 <;> (
      go_wp2_with (go_at_call 46; refine (rfits_any _ _ _).mono ?_; rintro e w' ⟨rfl, rfl⟩; (first | rw [← H0.out] | rw [← H1.out] | rw [← H2.out] | rw [← H3.out]))
      go_meet
      exact ⟨rfl, rfl⟩)
  case rest =>
    obtain ⟨hs3, hwc⟩ := hcut
    subst hs3; subst hwc
    go_upto_region 2 with fail
    obtain ⟨g0, hg0⟩ : ∃ b, b = okB q.src := ⟨_, rfl⟩
    obtain ⟨g1, hg1⟩ : ∃ b, b = okB q.dst := ⟨_, rfl⟩
    have HG := Lib.hid (show placesB q = (g0 && g1 && decide (0 ≤ q.off) && decide (q.off ≤ 65528) && decide (q.off % 8 = 0)) from by rw [placesB, hg0, hg1])
    have G0 := Lib.hid hg0; have G1 := Lib.hid hg1
    clear hg0 hg1
    go_cut [4] from 24 (fun s w' => s = .bool (g0 && g1 && decide (0 ≤ q.off) && decide (q.off ≤ 65528) && decide (q.off % 8 = 0)) ∧ w' = wc)
    case first =>
      by_cases p0 : 0 ≤ q.off
      · have p0' : decide (0 ≤ q.off) = true := by simpa using p0
        have ptm : Int.tmod q.off 8 = q.off % 8 := Int.tmod_eq_emod_of_nonneg p0
        by_cases p1 : q.off ≤ 65528
        · have p1' : decide (q.off ≤ 65528) = true := by simpa using p1
          by_cases p2 : q.off % 8 = 0
          · have p2' : (q.off % 8 == 0) = true := by simpa using p2
            have E := Lib.hid (show decide (q.off % 8 = 0) = true by simpa using p2)
            have E1 := Lib.hid p0'; have E2 := Lib.hid p1'
            clear p2
            cases g0 <;> cases g1 <;> (
              go_wp2_with (go_at_call 55; refine (r3right_any _ _).mono ?_; rintro e w' ⟨rfl, rfl⟩; (first | rw [← G0.out] | rw [← G1.out]))
              go_meet
              exact ⟨by simp [E.out, E1.out, E2.out], rfl⟩)
          · have p2' : (q.off % 8 == 0) = false := by simpa using p2
            have E := Lib.hid (show decide (q.off % 8 = 0) = false by simpa using p2)
            have E1 := Lib.hid p0'; have E2 := Lib.hid p1'
            clear p2
            cases g0 <;> cases g1 <;> (
              go_wp2_with (go_at_call 55; refine (r3right_any _ _).mono ?_; rintro e w' ⟨rfl, rfl⟩; (first | rw [← G0.out] | rw [← G1.out]))
              go_meet
              exact ⟨by simp [E.out, E1.out, E2.out], rfl⟩)
        · have p1' : decide (q.off ≤ 65528) = false := by simpa using p1
          have E1 := Lib.hid p0'; have E2 := Lib.hid p1'
          cases g0 <;> cases g1 <;> (
            go_wp2_with (go_at_call 55; refine (r3right_any _ _).mono ?_; rintro e w' ⟨rfl, rfl⟩; (first | rw [← G0.out] | rw [← G1.out]))
            go_meet
            exact ⟨by simp [E1.out, E2.out], rfl⟩)
      · have p0' : decide (0 ≤ q.off) = false := by simpa using p0
        have E1 := Lib.hid p0'
        cases g0 <;> cases g1 <;> (
          go_wp2_with (go_at_call 55; refine (r3right_any _ _).mono ?_; rintro e w' ⟨rfl, rfl⟩; (first | rw [← G0.out] | rw [← G1.out]))
          go_meet
          exact ⟨by simp [E1.out], rfl⟩)
    case rest =>
      obtain ⟨hs4, hwc⟩ := hcut
      subst hs4; subst hwc
      rw [← HF.out, ← HG.out]
      clear HF HG H0 H1 H2 H3 G0 G1
      go_upto_region 3 with fail
      have tm4 : Int.tmod (q.opt.length : Int) 4 = (q.opt.length : Int) % 4 := Int.tmod_eq_emod_of_nonneg (by omega)
      have tm8 : Int.tmod (q.dat.length : Int) 8 = (q.dat.length : Int) % 8 := Int.tmod_eq_emod_of_nonneg (by omega)
      have HA := Lib.hid (arg4_iff q)
      have HC : Hid (chk4 q = if arg4 q then (if size4 q > 65535 ∨ q.off > 65535 - (q.dat.length : Int) then 6 else 0) else 1) := Lib.hid rfl
      have HP := Lib.hid (show placesB q = true → 0 ≤ q.off ∧ q.off ≤ 65528 from fun h => by simp [placesB] at h; omega)
      obtain ⟨F, hF⟩ : ∃ b, b = fieldsB q := ⟨_, rfl⟩
      obtain ⟨G, hG⟩ : ∃ b, b = placesB q := ⟨_, rfl⟩
      obtain ⟨O, hO⟩ : ∃ b, b = optsB q := ⟨_, rfl⟩
      have HO := Lib.hid (show O = (decide (q.opt.length ≤ 40) && decide (q.opt.length % 4 = 0)) from hO)
      rw [← hF, ← hG] 
      rw [← hF, ← hG, ← hO] at HA
      rw [← hG] at HP
      clear hF hG hO
      go_cut [5] from 48 (fun s w' => s = .bool O ∧ w' = wc)
      case first =>
        by_cases o1 : q.opt.length ≤ 40
        · by_cases o2 : q.opt.length % 4 = 0
          · have o2' : (((q.opt.length : Int) % 4) == 0) = true := by simp; omega
            have E := Lib.hid (show O = true by rw [HO.out]; simp [o1, o2])
            clear o2 HA HP
            go_wp2_with fail
            go_meet
            exact ⟨by rw [E.out], rfl⟩
          · have o2' : (((q.opt.length : Int) % 4) == 0) = false := by rw [beq_eq_false_iff_ne]; omega
            have E := Lib.hid (show O = false by rw [HO.out]; simp [o1, o2])
            clear o2 HA HP
            go_wp2_with fail
            go_meet
            exact ⟨by rw [E.out], rfl⟩
        · have o1' : decide ((q.opt.length : Int) ≤ 40) = false := by simp; omega
          have E := Lib.hid (show O = false by rw [HO.out]; simp [o1])
          clear o1 HA HP
          go_wp2_with fail
          go_meet
          exact ⟨by rw [E.out], rfl⟩
      case rest =>
        obtain ⟨hs5, hwc⟩ := hcut
        subst hs5; subst hwc
        have HQ : ∀ b : Bool, q.mf = b → Hid (q.mf = b) := fun b h => Lib.hid h
        by_cases hA : arg4 q
        · obtain ⟨rfl, rfl, rfl, hm⟩ := HA.out.1 hA
          have hp := HP.out rfl
          have hA' := hA
          have hsz0 : 0 ≤ size4 q ∧ size4 q ≤ 2000020 := by unfold size4 head4; omega
          clear hA HA HP
          cases hmf : q.mf
          · rw [hmf] at h8
            clear hmf HQ hm
            by_cases s1 : 65535 < size4 q
            · have HR : Hid (chk4 q = 6) := Lib.hid (by rw [HC.out, if_pos hA', if_pos (.inl s1)])
              clear HC hA'
              go_wp2_with (first
                | ((with_reducible show wpList _ _ _ (Oper.mk _ (Op.load _ _) _ _ _ _ :: _) _ _); refine v4_load (g := w.heap.size) rfl hg rfl ?_)
                | (go_at_call 31; refine (r5size q A c A' c' _ ho hd).mono ?_; rintro e ws ⟨rfl, bS⟩; have h2 := (bS.cell (p := ⟨w.heap.size, 2, none⟩) (by show w.heap.size < _; omega)).trans h2; have h10 := (bS.cell (p := ⟨w.heap.size, 10, none⟩) (by show w.heap.size < _; omega)).trans h10))
              go_ret
              exact ⟨ret_int HR.out.symm, hB.trans (bS.mono hB.size)⟩
            · by_cases s2 : 65535 - (q.dat.length : Int) < q.off
              · have HR : Hid (chk4 q = 6) := Lib.hid (by rw [HC.out, if_pos hA', if_pos (.inr s2)])
                clear HC hA'
                go_wp2_with (first
                | ((with_reducible show wpList _ _ _ (Oper.mk _ (Op.load _ _) _ _ _ _ :: _) _ _); refine v4_load (g := w.heap.size) rfl hg rfl ?_)
                | (go_at_call 31; refine (r5size q A c A' c' _ ho hd).mono ?_; rintro e ws ⟨rfl, bS⟩; have h2 := (bS.cell (p := ⟨w.heap.size, 2, none⟩) (by show w.heap.size < _; omega)).trans h2; have h10 := (bS.cell (p := ⟨w.heap.size, 10, none⟩) (by show w.heap.size < _; omega)).trans h10))
                go_ret
                exact ⟨ret_int HR.out.symm, hB.trans (bS.mono hB.size)⟩
              · have HR : Hid (chk4 q = 0) := Lib.hid (by rw [HC.out, if_pos hA', if_neg (by omega)])
                clear HC hA'
                go_wp2_with (first
                | ((with_reducible show wpList _ _ _ (Oper.mk _ (Op.load _ _) _ _ _ _ :: _) _ _); refine v4_load (g := w.heap.size) rfl hg rfl ?_)
                | (go_at_call 31; refine (r5size q A c A' c' _ ho hd).mono ?_; rintro e ws ⟨rfl, bS⟩; have h2 := (bS.cell (p := ⟨w.heap.size, 2, none⟩) (by show w.heap.size < _; omega)).trans h2; have h10 := (bS.cell (p := ⟨w.heap.size, 10, none⟩) (by show w.heap.size < _; omega)).trans h10))
                go_ret
                exact ⟨ret_int HR.out.symm, hB.trans (bS.mono hB.size)⟩
          · have h8l := hm hmf
            have h8' : (((q.dat.length : Int) % 8) != 0) = false := by simp; omega
            rw [hmf] at h8
            clear hmf HQ hm h8l
            by_cases s1 : 65535 < size4 q
            · have HR : Hid (chk4 q = 6) := Lib.hid (by rw [HC.out, if_pos hA', if_pos (.inl s1)])
              clear HC hA'
              go_wp2_with (first
                | ((with_reducible show wpList _ _ _ (Oper.mk _ (Op.load _ _) _ _ _ _ :: _) _ _); refine v4_load (g := w.heap.size) rfl hg rfl ?_)
                | (go_at_call 31; refine (r5size q A c A' c' _ ho hd).mono ?_; rintro e ws ⟨rfl, bS⟩; have h2 := (bS.cell (p := ⟨w.heap.size, 2, none⟩) (by show w.heap.size < _; omega)).trans h2; have h10 := (bS.cell (p := ⟨w.heap.size, 10, none⟩) (by show w.heap.size < _; omega)).trans h10))
              go_ret
              exact ⟨ret_int HR.out.symm, hB.trans (bS.mono hB.size)⟩
            · by_cases s2 : 65535 - (q.dat.length : Int) < q.off
              · have HR : Hid (chk4 q = 6) := Lib.hid (by rw [HC.out, if_pos hA', if_pos (.inr s2)])
                clear HC hA'
                go_wp2_with (first
                | ((with_reducible show wpList _ _ _ (Oper.mk _ (Op.load _ _) _ _ _ _ :: _) _ _); refine v4_load (g := w.heap.size) rfl hg rfl ?_)
                | (go_at_call 31; refine (r5size q A c A' c' _ ho hd).mono ?_; rintro e ws ⟨rfl, bS⟩; have h2 := (bS.cell (p := ⟨w.heap.size, 2, none⟩) (by show w.heap.size < _; omega)).trans h2; have h10 := (bS.cell (p := ⟨w.heap.size, 10, none⟩) (by show w.heap.size < _; omega)).trans h10))
                go_ret
                exact ⟨ret_int HR.out.symm, hB.trans (bS.mono hB.size)⟩
              · have HR : Hid (chk4 q = 0) := Lib.hid (by rw [HC.out, if_pos hA', if_neg (by omega)])
                clear HC hA'
                go_wp2_with (first
                | ((with_reducible show wpList _ _ _ (Oper.mk _ (Op.load _ _) _ _ _ _ :: _) _ _); refine v4_load (g := w.heap.size) rfl hg rfl ?_)
                | (go_at_call 31; refine (r5size q A c A' c' _ ho hd).mono ?_; rintro e ws ⟨rfl, bS⟩; have h2 := (bS.cell (p := ⟨w.heap.size, 2, none⟩) (by show w.heap.size < _; omega)).trans h2; have h10 := (bS.cell (p := ⟨w.heap.size, 10, none⟩) (by show w.heap.size < _; omega)).trans h10))
                go_ret
                exact ⟨ret_int HR.out.symm, hB.trans (bS.mono hB.size)⟩
        · have HR : Hid (chk4 q = 1) := Lib.hid (by rw [HC.out, if_neg hA])
          have hno : ¬ (F = true ∧ G = true ∧ O = true ∧ (q.mf = true → q.dat.length % 8 = 0)) := fun h => hA (HA.out.2 h)
          clear hA HA HC HP
          cases hmf : q.mf
          · rw [hmf] at h8 hno
            clear hmf HQ
            have hno' : ¬ (F = true ∧ G = true ∧ O = true) := fun h => hno ⟨h.1, h.2.1, h.2.2, fun e => by cases e⟩
            clear hno
            cases F <;> cases G <;> cases O <;> first
              | exact absurd ⟨rfl, rfl, rfl⟩ hno'
              | (clear hno'
                 go_wp2_with fail
                 go_ret
                 exact ⟨ret_int HR.out.symm, hB⟩)
          · rw [hmf] at h8 hno
            clear hmf HQ
            by_cases h8l : q.dat.length % 8 = 0
            · have h8' : (((q.dat.length : Int) % 8) != 0) = false := by simp; omega
              have hno' : ¬ (F = true ∧ G = true ∧ O = true) := fun h => hno ⟨h.1, h.2.1, h.2.2, fun _ => h8l⟩
              clear hno h8l
              cases F <;> cases G <;> cases O <;> first
                | exact absurd ⟨rfl, rfl, rfl⟩ hno'
                | (clear hno'
                   go_wp2_with fail
                   go_ret
                   exact ⟨ret_int HR.out.symm, hB⟩)
            · have h8' : (((q.dat.length : Int) % 8) != 0) = true := by simp; omega
              clear hno h8l
              cases F <;> cases G <;> cases O <;> (
                   go_wp2_with fail
                   go_ret
                   exact ⟨ret_int HR.out.symm, hB⟩)
end
end Go.Proofs.Ytcebobcakiljhaa

/-
  Contracts of the document's plain answers of layer 5: Same, num. Conditions are each theorem's own.
-/
namespace Go.Proofs.Ytcebobcakiljhaa
open Go.RowKit

/-- Are two packets the same? A plain definition. -/
def same4 (q r : P4) : Bool := (q.tos == r.tos && q.id == r.id && q.off == r.off && q.ttl == r.ttl && q.proto == r.proto && q.src == r.src && q.dst == r.dst) && (q.df == r.df) && (q.mf == r.mf) && decide (q.opt = r.opt) && decide (q.dat = r.dat)
theorem same4_iff {q r : P4} : same4 q r = true ↔ q = r := by
  obtain ⟨a0, a1, a2, a3, a4, a5, a6, a7, a8, a9, a10⟩ := q
  obtain ⟨b0, b1, b2, b3, b4, b5, b6, b7, b8, b9, b10⟩ := r
  simp only [same4, Bool.and_eq_true, beq_iff_eq, decide_eq_true_eq, P4.mk.injEq]
  constructor
  · rintro ⟨⟨⟨⟨⟨⟨⟨⟨⟨⟨h0, h1⟩, h2⟩, h3⟩, h4⟩, h5⟩, h6⟩, h7⟩, h8⟩, h9⟩, h10⟩; exact ⟨h0, h1, h2, h3, h4, h5, h6, h7, h8, h9, h10⟩
  · rintro ⟨h0, h1, h2, h3, h4, h5, h6, h7, h8, h9, h10⟩; exact ⟨⟨⟨⟨⟨⟨⟨⟨⟨⟨h0, h1⟩, h2⟩, h3⟩, h4⟩, h5⟩, h6⟩, h7⟩, h8⟩, h9⟩, h10⟩
set_option maxRecDepth 100000 in
set_option maxHeartbeats 4000000 in
theorem r5same (q r : P4) (A : Option Addr) (c : Nat) (A' : Option Addr) (c' : Nat) (X : Option Addr) (d : Nat) (X' : Option Addr) (d' B : Nat) (w : World) (hB : B ≤ w.heap.size)
    (hA : Rd w B A q.opt) (hA' : Rd w B A' q.dat) (hX : Rd w B X r.opt) (hX' : Rd w B X' r.dat) :
    Calls Try.prog 17 #[v4v q A c A' c', v4v r X d X' d'] w fun e w' => e = .returned (.bool (same4 q r)) ∧ Below w.heap.size w w' := by
  have hBl : ∀ o1 o2, Below w.heap.size w ((w.alloc o1).alloc o2) := fun o1 o2 => ((Below.refl w.heap.size w).alloc (Nat.le_refl _) o1).alloc (by simp) o2
  have at1 : At4 ((w.alloc (.cells (v4a q A c A' c') 24)).alloc (.cells (v4a r X d X' d') 24)) w.heap.size q A c A' c' := (At4.new w).below ((Below.refl (w.heap.size + 1) _).alloc (by simp) _) (by omega)
  have at2 : At4 ((w.alloc (.cells (v4a q A c A' c') 24)).alloc (.cells (v4a r X d X' d') 24)) (w.heap.size + 1) r X d X' d' := by
    have := At4.new (q := r) (A := X) (c := d) (A' := X') (c' := d') (w.alloc (.cells (v4a q A c A' c') 24))
    rwa [show (w.alloc (.cells (v4a q A c A' c') 24)).heap.size = w.heap.size + 1 from by simp] at this
  have keep : ∀ {Y : Option Addr} {bs : List UInt8}, Rd w B Y bs → Rd ((w.alloc (.cells (v4a q A c A' c') 24)).alloc (.cells (v4a r X d X' d') 24)) B Y bs := fun h => h.below ((hBl _ _).mono hB)
  obtain ⟨W, hW⟩ : ∃ W, W = (w.alloc (.cells (v4a q A c A' c') 24)).alloc (.cells (v4a r X d X' d') 24) := ⟨_, rfl⟩
  have HB2 : Below w.heap.size w W := by rw [hW]; exact hBl _ _
  rw [← hW] at at1 at2
  have c1 := conv_any A q.opt c B W (by rw [hW]; exact keep hA)
  have c2 := conv_any A' q.dat c' B W (by rw [hW]; exact keep hA')
  have c3 := conv_any X r.opt d B W (by rw [hW]; exact keep hX)
  have c4 := conv_any X' r.dat d' B W (by rw [hW]; exact keep hX')
  have x0 := at1.tos; have x1 := at1.id; have x2 := at1.off; have x3 := at1.ttl; have x4 := at1.proto; have x5 := at1.src; have x6 := at1.dst; have x7 := at1.df; have x8 := at1.mf; have x9 := at1.opt; have x10 := at1.dat
  have y0 := at2.tos; have y1 := at2.id; have y2 := at2.off; have y3 := at2.ttl; have y4 := at2.proto; have y5 := at2.src; have y6 := at2.dst; have y7 := at2.df; have y8 := at2.mf; have y9 := at2.opt; have y10 := at2.dat
  have HS := Lib.hid (show same4 q r = ((q.tos == r.tos && q.id == r.id && q.off == r.off && q.ttl == r.ttl && q.proto == r.proto && q.src == r.src && q.dst == r.dst) && (q.df == r.df) && (q.mf == r.mf) && decide (q.opt = r.opt) && decide (q.dat = r.dat)) from rfl)
  clear at1 at2 keep hA hA' hX hX' hBl
  have HWW := Lib.hid hW
  unfold v4v
  rw [show #[Value.int .i64 q.tos, .int .i64 q.id, .int .i64 q.off, .int .i64 q.ttl, .int .i64 q.proto, .int .i64 q.src, .int .i64 q.dst, .bool q.df, .bool q.mf, .slice A q.opt.length c, .slice A' q.dat.length c'] = v4a q A c A' c' from rfl,
    show #[Value.int .i64 r.tos, .int .i64 r.id, .int .i64 r.off, .int .i64 r.ttl, .int .i64 r.proto, .int .i64 r.src, .int .i64 r.dst, .bool r.df, .bool r.mf, .slice X r.opt.length d, .slice X' r.dat.length d'] = v4a r X d X' d' from rfl]
  clear hW
  go_enter Try.func17, Try.ntmps17
  go_upto_region 1 with fail
  rw [← HWW.out]
  go_cut [5] from 6 (fun s w' => s = .bool (q.tos == r.tos && q.id == r.id && q.off == r.off && q.ttl == r.ttl && q.proto == r.proto && q.src == r.src && q.dst == r.dst) ∧ w' = W)
  case first =>
    cases e0 : (q.tos == r.tos)
    · go_wp2_with fail
      go_meet
      exact ⟨by rw [e0]; rfl, rfl⟩
    · skip
      cases e1 : (q.id == r.id)
      · go_wp2_with fail
        go_meet
        exact ⟨by rw [e0, e1]; rfl, rfl⟩
      · skip
        cases e2 : (q.off == r.off)
        · go_wp2_with fail
          go_meet
          exact ⟨by rw [e0, e1, e2]; rfl, rfl⟩
        · skip
          cases e3 : (q.ttl == r.ttl)
          · go_wp2_with fail
            go_meet
            exact ⟨by rw [e0, e1, e2, e3]; rfl, rfl⟩
          · skip
            cases e4 : (q.proto == r.proto)
            · go_wp2_with fail
              go_meet
              exact ⟨by rw [e0, e1, e2, e3, e4]; rfl, rfl⟩
            · skip
              cases e5 : (q.src == r.src)
              · go_wp2_with fail
                go_meet
                exact ⟨by rw [e0, e1, e2, e3, e4, e5]; rfl, rfl⟩
              · skip
                cases e6 : (q.dst == r.dst)
                · go_wp2_with fail
                  go_meet
                  exact ⟨by rw [e0, e1, e2, e3, e4, e5, e6]; rfl, rfl⟩
                · go_wp2_with fail
                  go_meet
                  exact ⟨by rw [e0, e1, e2, e3, e4, e5, e6]; rfl, rfl⟩
  case rest =>
    obtain ⟨hs5, hwc⟩ := hcut
    subst hs5
    rw [hwc]
    clear hwc x0 x1 x2 x3 x4 x5 x6 y0 y1 y2 y3 y4 y5 y6
    obtain ⟨K, hK⟩ : ∃ b, b = (q.tos == r.tos && q.id == r.id && q.off == r.off && q.ttl == r.ttl && q.proto == r.proto && q.src == r.src && q.dst == r.dst) := ⟨_, rfl⟩
    rw [← hK] at HS ⊢
    clear hK
    have q1 := strB_eq q.opt r.opt
    have q2 := strB_eq q.dat r.dat
    cases K
    · clear q1 q2
      go_wp2_with fail
      go_ret
      exact ⟨ret_bool (by rw [HS.out]; rfl), HB2⟩
    · cases e7 : (q.df == r.df)
      · clear q1 q2
        go_wp2_with fail
        go_ret
        exact ⟨ret_bool (by rw [HS.out, e7]; rfl), HB2⟩
      · cases e8 : (q.mf == r.mf)
        · clear q1 q2
          go_wp2_with fail
          go_ret
          exact ⟨ret_bool (by rw [HS.out, e7, e8]; rfl), HB2⟩
        · cases e9 : decide (q.opt = r.opt)
          · rw [e9] at q1
            go_wp2_with fail
            go_ret
            exact ⟨ret_bool (by rw [HS.out, e7, e8, e9]; rfl), HB2⟩
          · rw [e9] at q1
            cases e10 : decide (q.dat = r.dat)
            · rw [e10] at q2
              go_wp2_with fail
              go_ret
              exact ⟨ret_bool (by rw [HS.out, e7, e8, e9, e10]; rfl), HB2⟩
            · rw [e10] at q2
              go_wp2_with fail
              go_ret
              exact ⟨ret_bool (by rw [HS.out, e7, e8, e9, e10]; rfl), HB2⟩
end Go.Proofs.Ytcebobcakiljhaa

/-
  Packets of IPv4, there and back: what is built is parsed, what is parsed is built. Plain lists of bytes, no program. Conditions are each theorem's own.
-/
namespace Go.Proofs.Ytcebobcakiljhaa
open Go.RowKit

theorem chk4_ok {q : P4} (h : chk4 q = 0) : arg4 q ∧ size4 q ≤ 65535 ∧ q.off + (q.dat.length : Int) ≤ 65535 := by
  unfold chk4 at h
  split at h
  · rename_i ha
    split at h
    · cases h
    · exact ⟨ha, by omega, by omega⟩
  · cases h
/-- The head's twenty bytes. -/
def l20 (q : P4) : List UInt8 := hda q (size4 q) ++ be2 (sum4 q) ++ [u8 (q.src / 16777216), u8 (q.src / 65536), u8 (q.src / 256), u8 q.src, u8 (q.dst / 16777216), u8 (q.dst / 65536), u8 (q.dst / 256), u8 q.dst]
theorem bld4_l20 (q : P4) (more : List UInt8) : bld4 q ++ more = l20 q ++ (q.opt ++ (q.dat ++ more)) := by
  simp [bld4, hd4, l20, hdb, List.append_assoc]
theorem hd4_l20 (q : P4) : hd4 q (size4 q) (sum4 q) = l20 q ++ q.opt := by simp [hd4, l20, hdb, List.append_assoc]
theorem l20_len (q : P4) : (l20 q).length = 20 := by simp [l20, hda, be2]
section
variable {q : P4} {more : List UInt8}
theorem byt_b (i : Nat) (hi : i < 20) : byt (bld4 q ++ more) i = byt (l20 q) i := by
  rw [bld4_l20]; exact byt_left (by rw [l20_len]; exact hi)
theorem back_fields (h : chk4 q = 0) :
    hlen (bld4 q ++ more) = head4 q ∧ byt (bld4 q ++ more) 0 / 16 = 4 ∧ n2 (bld4 q ++ more) 2 = size4 q ∧ n2 (bld4 q ++ more) 6 = flags4 q ∧ n2 (bld4 q ++ more) 4 = q.id ∧ byt (bld4 q ++ more) 1 = q.tos ∧ byt (bld4 q ++ more) 8 = q.ttl ∧
      byt (bld4 q ++ more) 9 = q.proto ∧ n4 (bld4 q ++ more) 12 = q.src ∧ n4 (bld4 q ++ more) 16 = q.dst := by
  obtain ⟨⟨a1, a2, a3, a4, a5, a6, a7, a8, a9, a10, a11, a12, a13, a14, a15, a16, a17, a18⟩, hs, ho⟩ := chk4_ok h
  have hh : head4 q = 20 + (q.opt.length : Int) := rfl
  have hz : size4 q = head4 q + (q.dat.length : Int) := rfl
  have hf : 0 ≤ flags4 q ∧ flags4 q < 32768 := by unfold flags4 bit; split <;> split <;> omega
  have b : ∀ i, i < 20 → byt (bld4 q ++ more) i = byt (l20 q) i := fun i hi => byt_b i hi
  have c0 : byt (l20 q) 0 = (64 + head4 q / 4) % 256 := u8_val _
  have c1 : byt (l20 q) 1 = q.tos % 256 := u8_val _
  have c2 : byt (l20 q) 2 = size4 q / 256 % 256 := u8_val _
  have c3 : byt (l20 q) 3 = size4 q % 256 := u8_val _
  have c4 : byt (l20 q) 4 = q.id / 256 % 256 := u8_val _
  have c5 : byt (l20 q) 5 = q.id % 256 := u8_val _
  have c6 : byt (l20 q) 6 = flags4 q / 256 % 256 := u8_val _
  have c7 : byt (l20 q) 7 = flags4 q % 256 := u8_val _
  have c8 : byt (l20 q) 8 = q.ttl % 256 := u8_val _
  have c9 : byt (l20 q) 9 = q.proto % 256 := u8_val _
  have c12 : byt (l20 q) 12 = q.src / 16777216 % 256 := u8_val _
  have c13 : byt (l20 q) 13 = q.src / 65536 % 256 := u8_val _
  have c14 : byt (l20 q) 14 = q.src / 256 % 256 := u8_val _
  have c15 : byt (l20 q) 15 = q.src % 256 := u8_val _
  have c16 : byt (l20 q) 16 = q.dst / 16777216 % 256 := u8_val _
  have c17 : byt (l20 q) 17 = q.dst / 65536 % 256 := u8_val _
  have c18 : byt (l20 q) 18 = q.dst / 256 % 256 := u8_val _
  have c19 : byt (l20 q) 19 = q.dst % 256 := u8_val _
  unfold hlen n2 n4
  rw [b 0 (by omega), b 1 (by omega), b 2 (by omega), b 3 (by omega), b 4 (by omega), b 5 (by omega), b 6 (by omega), b 7 (by omega), b 8 (by omega), b 9 (by omega), b 12 (by omega), b 13 (by omega), b 14 (by omega), b 15 (by omega),
    b 16 (by omega), b 17 (by omega), b 18 (by omega), b 19 (by omega), c0, c1, c2, c3, c4, c5, c6, c7, c8, c9, c12, c13, c14, c15, c16, c17, c18, c19]
  clear b c0 c1 c2 c3 c4 c5 c6 c7 c8 c9 c12 c13 c14 c15 c16 c17 c18 c19 h
  have h4 : head4 q % 4 = 0 := by omega
  refine ⟨by omega, by omega, by omega, by omega, by omega, by omega, by omega, by omega, by omega, by omega⟩
theorem back_take (n : Nat) (hn : n = 20 + q.opt.length) : (bld4 q ++ more).take n = hd4 q (size4 q) (sum4 q) := by
  rw [bld4, List.append_assoc, List.take_left' (by rw [hd4_len, hn])]
theorem back_raw (h : chk4 q = 0) : raw4 (bld4 q ++ more) = q := by
  obtain ⟨f0, f1, f2, f3, f4, f5, f6, f7, f8, f9⟩ := back_fields (more := more) h
  obtain ⟨⟨a1, a2, a3, a4, a5, a6, a7, a8, a9, a10, a11, a12, a13, a14, a15, a16, a17, a18⟩, hs, ho⟩ := chk4_ok h
  have hh : head4 q = 20 + (q.opt.length : Int) := rfl
  have hz : size4 q = head4 q + (q.dat.length : Int) := rfl
  have hl : (bld4 q ++ more).length = 20 + q.opt.length + q.dat.length + more.length := by rw [List.length_append, bld4_len]
  have d1 : (head4 q).toNat = 20 + q.opt.length := by omega
  have d2 : (min (size4 q) ((bld4 q ++ more).length : Int)).toNat = 20 + q.opt.length + q.dat.length := by rw [hl]; omega
  have e1 : (bld4 q ++ more).take (20 + q.opt.length + q.dat.length) = bld4 q := List.take_left' (by rw [bld4_len])
  have e2 : (bld4 q).drop (20 + q.opt.length) = q.dat := by rw [bld4, List.drop_left' (by rw [hd4_len])]
  have e3 : (hd4 q (size4 q) (sum4 q)).drop 20 = q.opt := by rw [hd4_l20, List.drop_left' (l20_len q)]
  have g1 : flags4 q % 8192 * 8 = q.off := by unfold flags4 bit; split <;> split <;> omega
  have g2 : decide (flags4 q / 16384 % 2 = 1) = q.df := by
    rw [Bool.eq_iff_iff, decide_eq_true_iff]; unfold flags4 bit
    cases q.df <;> cases q.mf <;> simp <;> omega
  have g3 : decide (flags4 q / 8192 % 2 = 1) = q.mf := by
    rw [Bool.eq_iff_iff, decide_eq_true_iff]; unfold flags4 bit
    cases q.df <;> cases q.mf <;> simp <;> omega
  unfold raw4 fl4
  rw [f0, f2, f3, f4, f5, f6, f7, f8, f9, d1, d2, e1, e2, back_take _ rfl, e3, g1, g2, g3]
theorem back_ok (h : chk4 q = 0) : prsE (bld4 q ++ more) false = 0 ∧ prsV (bld4 q ++ more) false = q := by
  have hraw := back_raw (more := more) h
  obtain ⟨f0, f1, f2, f3, f4, f5, f6, f7, f8, f9⟩ := back_fields (more := more) h
  obtain ⟨⟨a1, a2, a3, a4, a5, a6, a7, a8, a9, a10, a11, a12, a13, a14, a15, a16, a17, a18⟩, hs, ho⟩ := chk4_ok h
  have hh : head4 q = 20 + (q.opt.length : Int) := rfl
  have hz : size4 q = head4 q + (q.dat.length : Int) := rfl
  have hl : (bld4 q ++ more).length = 20 + q.opt.length + q.dat.length + more.length := by rw [List.length_append, bld4_len]
  have hf : flags4 q < 32768 := by unfold flags4 bit; split <;> split <;> omega
  have hb : bad4 (bld4 q ++ more) false = 0 := by
    unfold bad4
    rw [if_neg (by omega), f0, f1, f2, f3, if_neg (by omega), if_neg (by rw [hl]; omega), if_neg (by omega), if_neg ?_]
    rw [show (head4 q).toNat = 20 + q.opt.length from by omega, back_take _ rfl, head_right]; simp
  have he : prsE (bld4 q ++ more) false = 0 := by
    unfold prsE
    rw [if_pos hb, hraw, if_neg (by rw [h]; simp)]
  exact ⟨he, by rw [prsV, if_pos he, hraw]⟩
end

theorem ub {b : List UInt8} {i : Nat} (h : i < b.length) : u8 (byt b i) = b[i] := by
  apply UInt8.toNat_inj.1
  have h1 := u8_val (byt b i)
  have h2 := byt_lo b i
  have h3 := byt_hi b i
  have h4 : byt b i = (b[i].toNat : Int) := by simp [byt, h]
  omega
theorem u8_eq {b : List UInt8} {i : Nat} {n : Int} (h : i < b.length) (e : n % 256 = byt b i) : u8 n = b[i] := by
  rw [← ub h]
  apply UInt8.toNat_inj.1
  have h1 := u8_val (byt b i)
  have h2 := u8_val n
  have h3 := byt_lo b i
  have h4 := byt_hi b i
  omega
theorem drop_eight {l : List UInt8} (h : 20 ≤ l.length) : l.drop 12 = [l[12], l[13], l[14], l[15], l[16], l[17], l[18], l[19]] ++ l.drop 20 := by
  rw [List.drop_eq_getElem_cons (show 12 < l.length by omega), List.drop_eq_getElem_cons (show 13 < l.length by omega), List.drop_eq_getElem_cons (show 14 < l.length by omega), List.drop_eq_getElem_cons (show 15 < l.length by omega),
    List.drop_eq_getElem_cons (show 16 < l.length by omega), List.drop_eq_getElem_cons (show 17 < l.length by omega), List.drop_eq_getElem_cons (show 18 < l.length by omega), List.drop_eq_getElem_cons (show 19 < l.length by omega)]
  rfl
theorem take_ten {l : List UInt8} (h : 10 ≤ l.length) : l.take 10 = [l[0], l[1], l[2], l[3], l[4], l[5], l[6], l[7], l[8], l[9]] := by
  match l, h with
  | a :: b :: c :: d :: e :: f :: g :: i :: j :: k :: r, _ => rfl
/-- What is parsed may be, and its bytes are the bytes, but for the sum. -/
theorem again4 {b : List UInt8} (h : prsE b false = 0) : prsV b false = raw4 b ∧ chk4 (raw4 b) = 0 ∧ (bld4 (raw4 b)).length = (n2 b 2).toNat ∧ (n2 b 2).toNat ≤ b.length ∧ 20 ≤ (n2 b 2).toNat ∧
    (bld4 (raw4 b)).take 10 = b.take 10 ∧ (bld4 (raw4 b)).drop 12 = (b.take (n2 b 2).toNat).drop 12 := by
  have hV : prsV b false = raw4 b := by rw [prsV, if_pos h]
  unfold prsE at h
  by_cases hb : bad4 b false = 0
  · rw [if_pos hb] at h
    by_cases hc : chk4 (raw4 b) = 0
    · refine ⟨hV, hc, ?_⟩
      unfold bad4 at hb
      split at hb
      · cases hb
      · rename_i g1
        split at hb
        · cases hb
        · rename_i g2
          split at hb
          · cases hb
          · rename_i g3
            split at hb
            · cases hb
            · rename_i g4
              clear hb h hV
              obtain ⟨N, hN⟩ : ∃ N : Nat, hlen b = (N : Int) := ⟨(hlen b).toNat, by omega⟩
              obtain ⟨S, hS⟩ : ∃ S : Nat, n2 b 2 = (S : Int) := ⟨(n2 b 2).toNat, by omega⟩
              have hNS : N ≤ S ∧ S ≤ b.length ∧ 20 ≤ N := by
                refine ⟨by omega, ?_, by omega⟩
                have : ¬ (n2 b 2 > (b.length : Int)) := fun e => g3 (.inr ⟨rfl, e⟩)
                omega
              have hopt : (raw4 b).opt = (b.take N).drop 20 := by show (b.take (hlen b).toNat).drop 20 = _; rw [hN, Int.toNat_natCast]
              have hdat : (raw4 b).dat = (b.take S).drop N := by
                show (b.take (min (n2 b 2) (b.length : Int)).toNat).drop (hlen b).toNat = _
                rw [hN, hS, show (min (S : Int) (b.length : Int)).toNat = S from by omega, Int.toNat_natCast]
              have lo : (raw4 b).opt.length = N - 20 := by rw [hopt, List.length_drop, List.length_take]; omega
              have ld : (raw4 b).dat.length = S - N := by rw [hdat, List.length_drop, List.length_take]; omega
              have hh : head4 (raw4 b) = (N : Int) := by unfold head4; omega
              have hz : size4 (raw4 b) = (S : Int) := by unfold size4; omega
              have hfl : flags4 (raw4 b) = n2 b 6 := by
                show n2 b 6 % 8192 * 8 / 8 + bit (decide (n2 b 6 / 16384 % 2 = 1)) 16384 + bit (decide (n2 b 6 / 8192 % 2 = 1)) 8192 = n2 b 6
                have h0 : 0 ≤ n2 b 6 := by unfold n2; have := byt_lo b 6; have := byt_lo b (6 + 1); omega
                unfold bit
                by_cases e1 : n2 b 6 / 16384 % 2 = 1 <;> by_cases e2 : n2 b 6 / 8192 % 2 = 1 <;> simp [e1, e2] <;> omega
              have B : ∀ i, 0 ≤ byt b i ∧ byt b i ≤ 255 := fun i => ⟨byt_lo b i, byt_hi b i⟩
              have b0 := B 0; have b1 := B 1; have b2 := B 2; have b3 := B 3; have b4 := B 4; have b5 := B 5; have b6 := B 6; have b7 := B 7; have b8 := B 8; have b9 := B 9
              have b12 := B 12; have b13 := B 13; have b14 := B 14; have b15 := B 15; have b16 := B 16; have b17 := B 17; have b18 := B 18; have b19 := B 19
              refine ⟨by rw [bld4_len, lo, ld, hS, Int.toNat_natCast]; omega, by rw [hS, Int.toNat_natCast]; omega, by rw [hS, Int.toNat_natCast]; omega, ?_, ?_⟩
              · have e : (bld4 (raw4 b)).take 10 = hda (raw4 b) (size4 (raw4 b)) := by
                  rw [bld4, hd4, List.append_assoc, List.append_assoc, List.take_left' (by simp [hda])]
                rw [e, take_ten (by omega), hda, hh, hz, hfl]
                have i0 : hlen b = byt b 0 % 16 * 4 := rfl
                have i2 : n2 b 2 = byt b 2 * 256 + byt b (2 + 1) := rfl
                have i6 : n2 b 6 = byt b 6 * 256 + byt b (6 + 1) := rfl
                have i4 : (raw4 b).id = byt b 4 * 256 + byt b (4 + 1) := rfl
                have x0 : byt b 0 / 16 = 4 := by omega
                simp only [Nat.reduceAdd] at i2 i6 i4
                rw [u8_eq (b := b) (i := 0) (n := 64 + (N : Int) / 4) (by omega) (by omega), u8_eq (b := b) (i := 1) (n := (raw4 b).tos) (by omega) (by show byt b 1 % 256 = _; omega), u8_eq (b := b) (i := 2) (n := (S : Int) / 256) (by omega) (by omega),
                  u8_eq (b := b) (i := 3) (n := (S : Int)) (by omega) (by omega), u8_eq (b := b) (i := 4) (n := (raw4 b).id / 256) (by omega) (by omega), u8_eq (b := b) (i := 5) (n := (raw4 b).id) (by omega) (by omega),
                  u8_eq (b := b) (i := 6) (n := n2 b 6 / 256) (by omega) (by omega), u8_eq (b := b) (i := 7) (n := n2 b 6) (by omega) (by omega), u8_eq (b := b) (i := 8) (n := (raw4 b).ttl) (by omega) (by show byt b 8 % 256 = _; omega),
                  u8_eq (b := b) (i := 9) (n := (raw4 b).proto) (by omega) (by show byt b 9 % 256 = _; omega)]
              · have e : (bld4 (raw4 b)).drop 12 = hdb (raw4 b) ++ (raw4 b).dat := by
                  rw [bld4, hd4, List.append_assoc, List.drop_left' (by simp [hda, be2])]
                rw [e, hS, Int.toNat_natCast]
                have hs20 : 20 ≤ (b.take S).length := by rw [List.length_take]; omega
                rw [drop_eight hs20]
                have hcut : (b.take S).drop 20 = (raw4 b).opt ++ (raw4 b).dat := by
                  rw [hopt, hdat]
                  have h1 : b.take N = (b.take S).take N := by rw [List.take_take, Nat.min_eq_left hNS.1]
                  rw [h1]
                  conv => lhs; rw [← List.take_append_drop N (b.take S)]
                  rw [List.drop_append_of_le_length (by rw [List.length_take, List.length_take]; omega)]
                rw [hcut, ← List.append_assoc]
                congr 1
                rw [hdb]
                have gt : ∀ i (h : i < (b.take S).length) (h' : i < b.length), (b.take S)[i] = b[i] := fun i h h' => List.getElem_take
                rw [gt 12 (by omega) (by omega), gt 13 (by omega) (by omega), gt 14 (by omega) (by omega), gt 15 (by omega) (by omega), gt 16 (by omega) (by omega), gt 17 (by omega) (by omega), gt 18 (by omega) (by omega), gt 19 (by omega) (by omega)]
                have i12 : (raw4 b).src = ((byt b 12 * 256 + byt b (12 + 1)) * 256 + byt b (12 + 2)) * 256 + byt b (12 + 3) := rfl
                have i16 : (raw4 b).dst = ((byt b 16 * 256 + byt b (16 + 1)) * 256 + byt b (16 + 2)) * 256 + byt b (16 + 3) := rfl
                simp only [Nat.reduceAdd] at i12 i16
                rw [u8_eq (b := b) (i := 12) (n := (raw4 b).src / 16777216) (by omega) (by omega), u8_eq (b := b) (i := 13) (n := (raw4 b).src / 65536) (by omega) (by omega), u8_eq (b := b) (i := 14) (n := (raw4 b).src / 256) (by omega) (by omega),
                  u8_eq (b := b) (i := 15) (n := (raw4 b).src) (by omega) (by omega), u8_eq (b := b) (i := 16) (n := (raw4 b).dst / 16777216) (by omega) (by omega), u8_eq (b := b) (i := 17) (n := (raw4 b).dst / 65536) (by omega) (by omega),
                  u8_eq (b := b) (i := 18) (n := (raw4 b).dst / 256) (by omega) (by omega), u8_eq (b := b) (i := 19) (n := (raw4 b).dst) (by omega) (by omega)]
    · rw [if_pos ⟨rfl, hc⟩] at h; cases h
  · rw [if_neg hb] at h; exact absurd h hb
end Go.Proofs.Ytcebobcakiljhaa
