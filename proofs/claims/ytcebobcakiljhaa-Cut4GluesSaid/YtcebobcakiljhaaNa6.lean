/-
  Contracts and lemmas on which the proofs of this seat stand (several texts in one). Conditions are each theorem's own.
-/
import Derived.Test.YtcebobcakiljhaaNa5
import Derived.Lib.AppendZerosOnto
import Derived.Lib.Walk
import Derived.Lib.SliceRun
import Derived.Test.YtcebobcakiljhaaNa1
import Derived.WalkMore
import Derived.Test.YtcebobcakiljhaaNa2
import Derived.Great.BuildSlice
import Derived.OwnWalkIn
import Derived.Test.YtcebobcakiljhaaNa3

/-
  Layer 7's awake, and what Build answers, in one shape. Conditions are each theorem's own.
-/
namespace Go.Proofs.Ytcebobcakiljhaa
open Go.RowKit

def resU (src dst : Int) (q : PU) : List UInt8 := if chkU q = 0 then bldU src dst q else []
theorem resU_shape {src dst : Int} {q : PU} {w w' : World} {v : Value} (h : (chkU q ≠ 0 → v = .slice none 0 0 ∧ Below w.heap.size w w') ∧ (chkU q = 0 → Made w w' v (bldU src dst q))) :
    ∃ P k, v = .slice P (resU src dst q).length k ∧ Rd w' w'.heap.size P (resU src dst q) ∧ Below w.heap.size w w' := by
  by_cases hc : chkU q = 0
  · obtain ⟨A, c, rfl, hl, hr, ho, hb⟩ := h.2 hc
    exact ⟨A, c, by rw [resU, if_pos hc], by rw [resU, if_pos hc]; exact hr, hb⟩
  · obtain ⟨rfl, hb⟩ := h.1 hc
    exact ⟨none, 0, by rw [resU, if_neg hc]; rfl, by rw [resU, if_neg hc]; exact Rd.nil, hb⟩
def qaU : PU := ⟨3, 4, false, [5]⟩
end Go.Proofs.Ytcebobcakiljhaa

/-
  Contracts of tcp's size, Check, numbers, buildHead, fresh. Conditions are each theorem's own.
-/
namespace Go.Proofs.Ytcebobcakiljhaa
open Go.RowKit

theorem argT_iff (q : PT) : argT q ↔ (fitsB q.src 2 = true ∧ fitsB q.dst 2 = true ∧ fitsB q.win 2 = true ∧ fitsB q.urg 2 = true ∧ fitsB q.seq 4 = true ∧ fitsB q.ack 4 = true ∧ 0 ≤ q.res ∧ q.res < 16 ∧ fitsB q.flags 1 = true ∧ q.opt.length ≤ 40 ∧ q.opt.length % 4 = 0) := by
  rw [fitsB_iff, fitsB_iff, fitsB_iff, fitsB_iff, fitsB_iff, fitsB_iff, fitsB_iff, pw1, pw2, pw4, argT]; omega
section
variable (q : PT) (A : Option Addr) (c : Nat) (A' : Option Addr) (c' : Nat) (w : World)
def numsT (q : PT) : List Int := [q.src, q.dst, q.seq, q.ack, q.res, q.flags, q.win, q.urg]
end
section
variable (q : PT) (A : Option Addr) (c : Nat) (A' : Option Addr) (c' : Nat) (w : World)
end
end Go.Proofs.Ytcebobcakiljhaa

/-
  Contracts of layer 8's Same, the program's and the document's; of the document's Check. Conditions are each theorem's own.
-/
namespace Go.Proofs.Ytcebobcakiljhaa
open Go.RowKit

theorem sameT_nums (q r : PT) : sameT q r = (decide (numsT q = numsT r) && decide (q.opt = r.opt) && decide (q.dat = r.dat)) := by
  rw [sameT, Bool.eq_iff_iff]; simp [numsT, and_assoc]
section
variable (q r : PT) (A : Option Addr) (c : Nat) (A' : Option Addr) (c' : Nat) (X : Option Addr) (d : Nat) (X' : Option Addr) (d' B : Nat) (w : World)
end
def twoB (q : PT) : Bool := fitsB q.src 2 && fitsB q.dst 2 && fitsB q.win 2 && fitsB q.urg 2
def fourB (q : PT) : Bool := fitsB q.seq 4 && fitsB q.ack 4 && fitsB q.flags 1 && decide (0 ≤ q.res) && decide (q.res ≤ 15)
theorem argT_two (q : PT) : argT q ↔ (twoB q = true ∧ fourB q = true ∧ q.opt.length ≤ 40 ∧ q.opt.length % 4 = 0) := by
  rw [argT_iff]
  simp only [twoB, fourB, Bool.and_eq_true, decide_eq_true_eq]
  constructor
  · rintro ⟨h0, h1, h2, h3, h4, h5, h6, h7, h8, h9, h10⟩; exact ⟨⟨⟨⟨h0, h1⟩, h2⟩, h3⟩, ⟨⟨⟨⟨h4, h5⟩, h8⟩, h6⟩, by omega⟩, h9, h10⟩
  · rintro ⟨⟨⟨⟨h0, h1⟩, h2⟩, h3⟩, ⟨⟨⟨⟨h4, h5⟩, h8⟩, h6⟩, h7⟩, h9, h10⟩; exact ⟨h0, h1, h2, h3, h4, h5, h6, by omega, h8, h9, h10⟩
section
variable (q : PT) (A : Option Addr) (c : Nat) (A' : Option Addr) (c' : Nat) (w : World)
end
end Go.Proofs.Ytcebobcakiljhaa

/-
  Contracts of slices.Grow at nil, and of slices.Concat, over bytes. Conditions are each theorem's own.
-/
namespace Go.Proofs.Ytcebobcakiljhaa
open Go.RowKit

set_option maxHeartbeats 1000000 in
theorem grow_nil (n : Nat) (h0 : 0 < n) (h1 : n ≤ 1000000000) (w : World) :
    Calls Try.prog 75 #[.slice none 0 0, .int .i64 (n : Int)] w fun e w' => ∃ v, e = .returned v ∧ w'.ownsRow w.heap.size 5 1 v 0 (row []) ∧ Below w.heap.size w w' := by
  obtain ⟨i0, hi, hz0, hz1, hz2⟩ := info_parts info_u8
  have hold : (Builtin.firstCells i0.size 0 (.slice none 0 0)).run Try.prog w.drew = .ok ([] : List Value).toArray w.drew := run_firstCells_none w.drew i0.size 0 0 0
  have hfit : Builtin.nextslicecap (0 + n) 0 * i0.bytes ≤ 281474976710656 := by
    rw [hz2]; exact growslice_fits (by omega) (by omega)
  have hrz : ∀ ty, (Builtin.append_ #[22, 3] ty #[.slice none 0 0, .int .i64 (n : Int)]).run Try.prog w =
      .ok (.slice (some ⟨w.heap.size, 0, none⟩) n (grownCap w n 0 5)) (w.drew.alloc (.cells (([] : List Value).toArray ++ Builtin.zeroCells (Value.int .u8 0).cells n ++ Builtin.zeroCells (Value.int .u8 0).cells (grownCap w n 0 5 - n)) 5)) := fun ty => by
    have h := Lib.run_append_grow_zeros w 22 3 ty 5 i0 (.int .u8 0) .i64 .i64 Try.underlying22 Try.underlying3 hi hz0 none 0 0 [] hold n h0 (by omega) (by omega) (by omega) (by rw [hz2]; omega) hfit
    rw [Nat.zero_add] at h; exact h
  have hge : n ≤ grownCap w n 0 5 := grownCap_ge w _ _ _
  have hle := grownCap_le_maxLen w n 0 5 (by unfold maxLen; omega)
  obtain ⟨G, hG⟩ : ∃ G, G = grownCap w n 0 5 := ⟨_, rfl⟩
  rw [← hG] at hrz hge hle
  have hG63 : G ≤ 9223372036854775807 := by unfold maxLen at hle; omega
  have hHle := Lib.hid hle
  have dn : decide ((n : Int) < 0) = false := by simp
  clear hG hold hfit hle hi hz0 hz1 hz2
  go_enter Try.func75, Try.ntmps75
  go_wp2_with (at_builtin; refine Lib.wpList_append_run _ rfl _ _ _ _ rfl _ _ rfl rfl _ _ (hrz _) ?_)
  go_ret
  have hsz : (Builtin.zeroCells #[Value.int .u8 0] n ++ Builtin.zeroCells #[Value.int .u8 0] (G - n)).size = G := by
    simp only [Array.size_append, size_zeroCells]
    show n * 1 + (G - n) * 1 = G
    omega
  exact ⟨_, rfl, ⟨rfl, .inr ⟨w.heap.size, G, Builtin.zeroCells #[Value.int .u8 0] n ++ Builtin.zeroCells #[Value.int .u8 0] (G - n), rfl, Nat.le_refl _, World.alloc_heap_new w _, Nat.zero_le _, hHle.out, by rw [hsz, Nat.mul_one], by simp [row]⟩⟩, (((Below.refl _ w).alloc (Nat.le_refl _) _).drew)⟩
theorem flatten_take (ps : List (List UInt8)) {k : Nat} {bs : List UInt8} (h : ps[k]? = some bs) : (ps.take (k + 1)).flatten = (ps.take k).flatten ++ bs := by
  rw [List.take_add_one, h]; simp
theorem bulk_flatten (ps : List (List UInt8)) : ps.flatten.length = bulk ps := by simp [bulk, List.length_flatten]
set_option maxRecDepth 100000 in
set_option maxHeartbeats 2000000 in
theorem concat_any (A : Option Addr) (ps : List (List UInt8)) (c B : Nat) (w : World) (h : Rd2 w B A ps) (hB : B ≤ w.heap.size) (h0 : 0 < bulk ps) (hl : bulk ps ≤ 1000000) (hn : ps.length ≤ 1000) (hn0 : 0 < ps.length) :
    Calls Try.prog 72 #[.slice A ps.length c] w fun e w' => ∃ v, e = .returned v ∧ Made w w' v ps.flatten := by
  obtain ⟨b, off, rfl, hbB, hcell⟩ := h hn0
  have HC := Lib.hid hcell
  have HBT := Lib.hid (fun (k : Nat) (bs : List UInt8) (h : ps[k]? = some bs) => (⟨bulk_take ps h, len_bulk h⟩ : bulk (ps.take (k + 1)) = bulk (ps.take k) + bs.length ∧ bs.length ≤ bulk ps))
  have HBL := Lib.hid (bulk_le ps)
  clear hcell h
  obtain ⟨T, hT⟩ : ∃ n, n = bulk ps := ⟨_, rfl⟩
  rw [← hT] at h0 hl HBT HBL
  have HT := Lib.hid hT
  clear hT
  go_enter Try.func72, Try.ntmps72
  go_wp2_with fail
  go_loop [3, 5, 11] (fun s _ i => ∃ k : Nat, ∃ m : Nat, k ≤ ps.length ∧ Hid (m = bulk (ps.take k)) ∧ m ≤ 1000000 ∧ i = .int .i64 (k : Int) ∧ s = .int .i64 (m : Int)) (fun _ _ i => ps.length - (intOf i).toNat)
  case atStart => exact ⟨0, 0, Nat.zero_le _, Lib.hid rfl, by omega, rfl, rfl⟩
  case round =>
    obtain ⟨k, m, hk, Hm, hm, rfl, rfl⟩ := hrel
    by_cases hlt : k < ps.length
    · obtain ⟨bs, hbs⟩ : ∃ bs, ps[k]? = some bs := ⟨_, List.getElem?_eq_getElem hlt⟩
      obtain ⟨Aj, cj, hcj, harg⟩ := HC.out k bs hbs
      obtain ⟨e1, e2⟩ := HBT.out k bs hbs
      have e3 := HBL.out (k + 1)
      have hmb : m + bs.length ≤ 1000000 := by have := Hm.out; omega
      have HN := Lib.hid (show m + bs.length = bulk (ps.take (k + 1)) by rw [e1, Hm.out])
      have dn : decide ((m : Int) + (bs.length : Int) < 0) = false := by simp; omega
      clear e1 e2 e3 harg hbs
      go_wp2_with fail
      go_round
      case rel => exact ⟨k + 1, m + bs.length, by omega, HN, hmb, by go_num, by go_num⟩
      case measure => simp [intOf]; omega
    · obtain rfl : k = ps.length := by omega
      have HM := Lib.hid (show m = T by rw [Hm.out, List.take_length, HT.out])
      obtain rfl : m = T := HM.out
      clear Hm
      go_wp2_with (go_at_call 75; refine (grow_nil m h0 (by omega) _).mono ?_; rintro e w1 ⟨v1, rfl, own1, x1⟩)
      go_loopw [6, 8, 27] (fun v _ i W => ∃ k : Nat, ∃ bs : List UInt8, k ≤ ps.length ∧ Hid (bs = (ps.take k).flatten) ∧ bs.length ≤ 1000000 ∧ i = .int .i64 (k : Int) ∧ W.ownsRow w.heap.size 5 1 v bs.length (row bs) ∧ Below w.heap.size w W) (fun _ _ i _ => ps.length - (intOf i).toNat)
      case atStart => exact ⟨0, [], Nat.zero_le _, Lib.hid rfl, by simp, rfl, own1, x1⟩
      case round =>
        obtain ⟨k, bs, hk, Hb, hbl, rfl, hown, hbel⟩ := hrel
        by_cases hlt : k < ps.length
        · obtain ⟨b2, hbs⟩ : ∃ b2, ps[k]? = some b2 := ⟨_, List.getElem?_eq_getElem hlt⟩
          obtain ⟨Aj, cj, hcj, harg⟩ := HC.out k b2 hbs
          have hcj' := (hbel.cell (p := ⟨b, off + k, none⟩) (Nat.lt_of_lt_of_le hbB hB)).trans hcj
          have harg' := harg.below (hbel.mono hB)
          have hcap := harg.none_
          have HN := Lib.hid (show bs ++ b2 = (ps.take (k + 1)).flatten by rw [flatten_take ps hbs, Hb.out])
          obtain ⟨e1, e2⟩ := HBT.out k b2 hbs
          have hnb : (bs ++ b2).length ≤ 1000000 := by
            rw [HN.out, bulk_flatten]; have := HBL.out (k + 1); omega
          have hnb' : bs.length + b2.length ≤ 1000000 := by rw [List.length_append] at hnb; exact hnb
          clear e1 e2 hcj harg hbs
          go_wp2_with (at_builtin; refine append_rd rfl _ _ rfl w.heap.size _ _ _ rfl hown B Aj cj b2 rfl hcap harg'.rd (by omega) hbel.size ?_; intro v5 w5 own5 grow5)
          have x5 := hbel.grown grow5 hbel.size (fun k hk => own_block_ge hown k hk)
          have own6 : w5.ownsRow w.heap.size 5 1 v5 (bs ++ b2).length (row (bs ++ b2)) := by rw [List.length_append, row_append]; exact own5
          go_roundw
          case rel => exact ⟨k + 1, bs ++ b2, by omega, HN, hnb, by go_num, own6, x5⟩
          case measure => simp [intOf]; omega
        · obtain rfl : k = ps.length := by omega
          go_wp2_with fail
          go_ret
          have e : bs = ps.flatten := by rw [Hb.out, List.take_length]
          subst e
          exact ⟨_, rfl, Made.of_own hown hbel⟩
theorem concat_three (A : Option Addr) (a b d : List UInt8) (c B : Nat) (R : List UInt8) (hR : Hid (R = a ++ b ++ d)) (w : World) (h : Rd2 w B A [a, b, d]) (hB : B ≤ w.heap.size) (h0 : 0 < a.length) (hl : a.length + b.length + d.length ≤ 1000000) :
    Calls Try.prog 72 #[.slice A 3 c] w fun e w' => ∃ v, e = .returned v ∧ Made w w' v R := by
  have h1 := concat_any A [a, b, d] c B w h hB (by rw [bulk3]; omega) (by rw [bulk3]; omega) (by simp) (by simp)
  have e : [a, b, d].flatten = R := by rw [hR.out]; simp
  rw [e] at h1
  exact h1
end Go.Proofs.Ytcebobcakiljhaa

/-
  Contracts of layer 8's Build, the program's and the document's. Conditions are each theorem's own.
-/
namespace Go.Proofs.Ytcebobcakiljhaa
open Go.RowKit

section
variable (q : PT) (A : Option Addr) (c : Nat) (A' : Option Addr) (c' : Nat) (src dst : Int) (w : World)
end
end Go.Proofs.Ytcebobcakiljhaa

/-
  Contracts of tcp's reader and readHead. Conditions are each theorem's own.
-/
namespace Go.Proofs.Ytcebobcakiljhaa
open Go.RowKit

section
variable {w V V' : World} {g U B : Nat} {A : Option Addr} {c : Nat} {b : List UInt8} {k k' : Int} {q q' : PT} {i : Nat} {v : Value}
end
def headT (b : List UInt8) : PT := ⟨n2 b 0, n2 b 2, n4 b 4, n4 b 8, byt b 12 % 16, byt b 13, n2 b 14, n2 b 18, [], []⟩
end Go.Proofs.Ytcebobcakiljhaa

/-
  Contract of tcp.Parse. Conditions are each theorem's own.
-/
namespace Go.Proofs.Ytcebobcakiljhaa
open Go.RowKit

section
variable {o : Oper} {a : Act} {w : World} {K : Act → World → Prop} {Q : Exit → Act → World → Prop} {x y : Operand} {p : Addr} {v0 : Value}
theorem store_sl_wp {A : Option Addr} {n c : Nat} (ho : o.op = .store 22 x y) (hx : a.eval x = .pointer (some p)) (hy : a.eval y = .slice A n c) (hc : w.cell? p = some v0) (hf : w.frozen? p = false) (h : K (a.put o.dst undef) (w.setCell p (.slice A n c))) : o.wp Try.prog a w K Q := by
  unfold Oper.wp execOp
  simp only [ho, hx, hy]
  go_simp
  exact h
end
section
variable (b : List UInt8) (A : Option Addr) (c : Nat) (src dst : Int) (w : World)
end
end Go.Proofs.Ytcebobcakiljhaa

/-
  Contract of the document's Parse of layer 8. Conditions are each theorem's own.
-/
namespace Go.Proofs.Ytcebobcakiljhaa
open Go.RowKit

section
variable (b : List UInt8) (A : Option Addr) (c : Nat) (src dst : Int) (w : World)
end
end Go.Proofs.Ytcebobcakiljhaa

/-
  Contract of tcp.Options and of the iterator that it hands back. Conditions are each theorem's own.
-/
namespace Go.Proofs.Ytcebobcakiljhaa
open Go.RowKit Go.Shelf
attribute [local go_sem] Oper.semAt_some

/-- An option as it comes: where it begins, and where its bytes lie. -/
structure OI where
  at_ : Nat
  A : Option Addr
  c : Nat
  n : Nat
def encO (x : OI) : Array Value := #[.int .i64 (x.at_ : Int), .slice x.A x.n x.c]
/-- What is known of it when it comes. -/
def GO (b : List UInt8) (pre : List OI) (x : OI) (W : World) : Prop :=
  (∃ more, places b = pre.map (·.at_) ++ x.at_ :: more) ∧ x.n = optL b x.at_ ∧ Arg W W.heap.size x.A x.c ((b.drop x.at_).take x.n)
theorem cell_putLoop {W : World} {p : Addr} {v : Value} {l : Nat} {r r' : Loop} (h : W.cell? p = some v) (hl : W.heap[l]? = some (.loop r)) : (W.putObj l (.loop r')).cell? p = some v := by
  obtain ⟨o, ho, hc⟩ := cells_of_cell h
  have hne : p.block ≠ l := fun e => by rw [e, hl] at ho; cases ho; cases hc
  exact (World.cell?_of_block (World.putObj_heap_other hne)).trans h
theorem GO.turn {b : List UInt8} {pre : List OI} {x : OI} {W : World} {l : Nat} {r r' : Loop} (h : GO b pre x W) (hl : W.heap[l]? = some (.loop r)) : GO b pre x (W.putObj l (.loop r')) := by
  refine ⟨h.1, h.2.1, ⟨fun hn => ?_, h.2.2.cap, h.2.2.none_⟩⟩
  obtain ⟨b0, off, e, hb, hc⟩ := h.2.2.rd hn
  exact ⟨b0, off, e, by simpa using hb, fun j hj => cell_putLoop (hc j hj) hl⟩
theorem grown_none {w w' : World} (h : Below w.heap.size w w') : w.grownBy w' none := ⟨h.os, h.tape, h.output, h.size, fun k hk _ => h.block k hk⟩
end Go.Proofs.Ytcebobcakiljhaa

/-
  Packets of IPv4 in fragments, in plain lists: options that go with each, the fragments, what fragments are. No program. Conditions are each theorem's own.
-/
namespace Go.Proofs.Ytcebobcakiljhaa
open Go.RowKit

/-! ### Options -/
/-- The option at a place, if it goes with each fragment. -/
def cop1 (b : List UInt8) (a : Nat) : List UInt8 := if byt b a ≥ 128 then (b.drop a).take (optL b a) else []
def cops (b : List UInt8) (ps : List Nat) : List UInt8 := ps.flatMap (cop1 b)
def padN (n : Nat) : Nat := (4 - n % 4) % 4
def copied (b : List UInt8) : List UInt8 := cops b (places b) ++ List.replicate (padN (cops b (places b)).length) 0
theorem cops_snoc (b : List UInt8) (ps : List Nat) (a : Nat) : cops b (ps ++ [a]) = cops b ps ++ cop1 b a := by simp [cops]
theorem cops_len (b : List UInt8) : ∀ (f a : Nat), a ≤ b.length → (cops b (plc b f a)).length + a ≤ b.length
  | 0, a, h => by simpa [plc, cops] using h
  | f + 1, a, h => by
    rw [plc]
    split
    · simpa [cops] using h
    · rename_i h0
      have hle := optL_le (b := b) (at_ := a) (by omega)
      have h1 : (cop1 b a).length ≤ optL b a := by unfold cop1; split <;> simp; omega
      split
      · simp only [cops, List.flatMap_cons, List.flatMap_nil, List.append_nil]; omega
      · have ih := cops_len b f (a + optL b a) hle.1
        simp only [cops, List.flatMap_cons, List.length_append] at ih ⊢; omega
theorem cops_le (b : List UInt8) : (cops b (places b)).length ≤ b.length := by have := cops_len b (b.length + 1) 0 (Nat.zero_le _); unfold places; omega
theorem cops_pre (b : List UInt8) {pre more : List Nat} (h : places b = pre ++ more) : (cops b pre).length ≤ b.length := by
  have := cops_le b
  rw [h] at this
  simp only [cops, List.flatMap_append, List.length_append] at this ⊢; omega
theorem padN_mod (n : Nat) : (n + padN n) % 4 = 0 ∧ padN n < 4 := by unfold padN; omega
theorem copied_len (b : List UInt8) : (copied b).length ≤ b.length + 3 ∧ (copied b).length % 4 = 0 := by
  have h := cops_le b
  have p := padN_mod (cops b (places b)).length
  simp only [copied, List.length_append, List.length_replicate]; omega
theorem copied_le {b : List UInt8} (h : b.length % 4 = 0) : (copied b).length ≤ b.length := by
  have := copied_len b; omega
theorem optL_drop (b : List UInt8) (k : Nat) (h : k < b.length) : optL (b.drop k) 0 = optL b k := by
  have e0 : byt (b.drop k) 0 = byt b k := by simp [byt]
  have e1 : byt (b.drop k) 1 = byt b (k + 1) := by simp [byt]
  unfold optL
  rw [List.length_drop, e0, Nat.zero_add, e1]
  by_cases h1 : b.length - k ≤ 0
  · omega
  · rw [if_neg h1, if_neg (by omega : ¬ b.length ≤ k)]
    by_cases h2 : byt b k ≤ 1
    · rw [if_pos h2, if_pos h2]
    · rw [if_neg h2, if_neg h2]
      by_cases h3 : b.length ≤ k + 1 ∨ byt b (k + 1) < 2 ∨ byt b (k + 1) > (b.length : Int) - k
      · rw [if_pos h3, if_pos (by omega)]
      · rw [if_neg h3, if_neg (by omega)]

/-! ### Fragments -/
/-- As many bytes as fit. -/
def room (mtu : Int) (q : P4) : Int := (mtu - head4 q) - (mtu - head4 q) % 8
def part1 (mtu : Int) (q : P4) : P4 := { q with mf := true, dat := q.dat.take (room mtu q).toNat }
def rest1 (mtu : Int) (o : List UInt8) (q : P4) : P4 := { q with off := q.off + room mtu q, opt := o, dat := q.dat.drop (room mtu q).toNat }
def frg (mtu : Int) (o : List UInt8) (mf : Bool) : Nat → P4 → List P4
  | 0, _ => []
  | f + 1, q => if size4 q > mtu then part1 mtu q :: frg mtu o mf f (rest1 mtu o q) else [{ q with mf := mf }]
/-- A packet that can be cut, or what is left of one. -/
structure Cuttable (mtu : Int) (q : P4) : Prop where
  lo : 68 ≤ mtu
  hi : mtu ≤ 65535
  arg : 0 ≤ q.tos ∧ q.tos ≤ 255 ∧ 0 ≤ q.ttl ∧ q.ttl ≤ 255 ∧ 0 ≤ q.proto ∧ q.proto ≤ 255 ∧ 0 ≤ q.id ∧ q.id ≤ 65535 ∧ 0 ≤ q.src ∧ q.src < 4294967296 ∧ 0 ≤ q.dst ∧ q.dst < 4294967296
  off : 0 ≤ q.off ∧ q.off % 8 = 0 ∧ q.off + (q.dat.length : Int) ≤ 65535 ∧ q.off ≤ 65528
  opt : q.opt.length ≤ 40 ∧ q.opt.length % 4 = 0
theorem Cuttable.of {mtu : Int} {q : P4} (h : chk4 q = 0) (lo : 68 ≤ mtu) (hi : mtu ≤ 65535) : Cuttable mtu q := by
  obtain ⟨⟨a1, a2, a3, a4, a5, a6, a7, a8, a9, a10, a11, a12, a13, a14, a15, a16, a17, a18⟩, hs, ho⟩ := chk4_ok h
  exact ⟨lo, hi, ⟨a1, a2, a3, a4, a5, a6, a7, a8, a9, a10, a11, a12⟩, ⟨a13, a15, ho, a14⟩, ⟨a16, a17⟩⟩
section
variable {mtu : Int} {o : List UInt8} {mf : Bool} {q : P4}
theorem room_bd (h : Cuttable mtu q) : 8 ≤ room mtu q ∧ room mtu q ≤ mtu - head4 q ∧ room mtu q % 8 = 0 ∧ mtu - head4 q < room mtu q + 8 := by
  have h1 := h.lo; have h2 := h.opt
  have hh : head4 q = 20 + (q.opt.length : Int) := rfl
  unfold room; omega
theorem room_lt (h : Cuttable mtu q) (hs : size4 q > mtu) : room mtu q < (q.dat.length : Int) := by
  have := room_bd h
  have hz : size4 q = head4 q + (q.dat.length : Int) := rfl
  omega
theorem Cuttable.rest (h : Cuttable mtu q) (hs : size4 q > mtu) (ho : o.length ≤ 40 ∧ o.length % 4 = 0) : Cuttable mtu (rest1 mtu o q) := by
  have hr := room_bd h
  have hl := room_lt h hs
  obtain ⟨b1, b2, b3, b4⟩ := h.off
  refine ⟨h.lo, h.hi, h.arg, ?_, ho⟩
  show 0 ≤ q.off + room mtu q ∧ (q.off + room mtu q) % 8 = 0 ∧ q.off + room mtu q + ((q.dat.drop (room mtu q).toNat).length : Int) ≤ 65535 ∧ q.off + room mtu q ≤ 65528
  rw [List.length_drop]; omega
theorem frg_fuel : ∀ (f g : Nat) (q : P4), Cuttable mtu q → (o.length ≤ 40 ∧ o.length % 4 = 0) → q.dat.length < f → q.dat.length < g → frg mtu o mf f q = frg mtu o mf g q
  | 0, _, _, _, _, h, _ => absurd h (Nat.not_lt_zero _)
  | _ + 1, 0, _, _, _, _, h => absurd h (Nat.not_lt_zero _)
  | f + 1, g + 1, q, hc, ho, hf, hg => by
    rw [frg, frg]
    by_cases hs : size4 q > mtu
    · rw [if_pos hs, if_pos hs]
      have hr := room_bd hc
      have hl := room_lt hc hs
      have e : (rest1 mtu o q).dat.length = q.dat.length - (room mtu q).toNat := by simp [rest1]
      rw [frg_fuel f g (rest1 mtu o q) (hc.rest hs ho) ho (by omega) (by omega)]
    · rw [if_neg hs, if_neg hs]
/-- What is left, cut. -/
def rst4 (mtu : Int) (o : List UInt8) (mf : Bool) (q : P4) : List P4 := frg mtu o mf (q.dat.length + 1) q
theorem rst4_more (hc : Cuttable mtu q) (ho : o.length ≤ 40 ∧ o.length % 4 = 0) (hs : size4 q > mtu) : rst4 mtu o mf q = part1 mtu q :: rst4 mtu o mf (rest1 mtu o q) := by
  rw [rst4, frg, if_pos hs, rst4]
  congr 1
  have hr := room_bd hc
  have hl := room_lt hc hs
  have e : (rest1 mtu o q).dat.length = q.dat.length - (room mtu q).toNat := by simp [rest1]
  exact frg_fuel _ _ _ (hc.rest hs ho) ho (by omega) (by omega)
theorem rst4_last (hs : ¬ size4 q > mtu) : rst4 mtu o mf q = [{ q with mf := mf }] := by rw [rst4, frg, if_neg hs]
end
def cutE (q : P4) (mtu : Int) : Int := if mtu < 68 ∨ mtu > 65535 then 1 else if chk4 q = 0 then (if q.df = true ∧ size4 q > mtu then 6 else 0) else chk4 q
def cutL (q : P4) (mtu : Int) : List P4 := if cutE q mtu = 0 then rst4 mtu (copied q.opt) q.mf q else []
theorem cutE_ok {q : P4} {mtu : Int} (h : cutE q mtu = 0) : Cuttable mtu q ∧ chk4 q = 0 ∧ ((copied q.opt).length ≤ 40 ∧ (copied q.opt).length % 4 = 0) := by
  unfold cutE at h
  split at h
  · cases h
  · split at h
    · rename_i hm hk
      have hc := Cuttable.of hk (mtu := mtu) (by omega) (by omega)
      have h1 := copied_le hc.opt.2; have h2 := copied_len q.opt; have h3 := hc.opt
      exact ⟨hc, hk, by omega, by omega⟩
    · rename_i hk; exact absurd h hk

/-! ### What fragments are -/
def fol (a b : P4) : Bool := a.mf && a.src == b.src && a.dst == b.dst && a.proto == b.proto && a.id == b.id && (a.off + (a.dat.length : Int) == b.off)
def fit4 (f a x : P4) : Bool := x.src == f.src && x.dst == f.dst && x.proto == f.proto && x.id == f.id && a.mf && (x.off == a.off + (a.dat.length : Int))
/-- Up to a place each follows the one ahead. -/
def chn (l : List P4) (k : Nat) : Prop := ∀ i, i + 1 < k → fol (l.getD i p4z) (l.getD (i + 1) p4z) = true
def fitn (l : List P4) (k : Nat) : Prop := ∀ i, i + 1 < k → fit4 (l.getD 0 p4z) (l.getD i p4z) (l.getD (i + 1) p4z) = true
theorem chn_two (l : List P4) : ∀ k, chn l k → ∀ i, i < k → (l.getD i p4z).src = (l.getD 0 p4z).src ∧ (l.getD i p4z).dst = (l.getD 0 p4z).dst ∧ (l.getD i p4z).proto = (l.getD 0 p4z).proto ∧ (l.getD i p4z).id = (l.getD 0 p4z).id := fun k h i hi => by
  induction i with
  | zero => exact ⟨rfl, rfl, rfl, rfl⟩
  | succ i ih =>
    have hh := h i hi
    obtain ⟨h1, h2, h3, h4⟩ := ih (by omega)
    simp only [fol, Bool.and_eq_true, beq_iff_eq] at hh
    obtain ⟨⟨⟨⟨⟨_, g1⟩, g2⟩, g3⟩, g4⟩, _⟩ := hh
    exact ⟨g1 ▸ h1, g2 ▸ h2, g3 ▸ h3, g4 ▸ h4⟩
theorem fitn_two (l : List P4) (k : Nat) (h : fitn l k) : ∀ i, i < k → (l.getD i p4z).src = (l.getD 0 p4z).src ∧ (l.getD i p4z).dst = (l.getD 0 p4z).dst ∧ (l.getD i p4z).proto = (l.getD 0 p4z).proto ∧ (l.getD i p4z).id = (l.getD 0 p4z).id := fun i hi => by
  cases i with
  | zero => exact ⟨rfl, rfl, rfl, rfl⟩
  | succ i =>
    have hh := h i hi
    simp only [fit4, Bool.and_eq_true, beq_iff_eq] at hh
    obtain ⟨⟨⟨⟨⟨g1, g2⟩, g3⟩, g4⟩, _⟩, _⟩ := hh
    exact ⟨g1, g2, g3, g4⟩
theorem chn_iff (l : List P4) (k : Nat) : chn l k ↔ fitn l k := by
  constructor
  · intro h i hi
    have hh := h i hi
    obtain ⟨h1, h2, h3, h4⟩ := chn_two l k h (i + 1) hi
    simp only [fol, Bool.and_eq_true, beq_iff_eq] at hh
    obtain ⟨⟨⟨⟨⟨hm, _⟩, _⟩, _⟩, _⟩, ho⟩ := hh
    simp only [fit4, Bool.and_eq_true, beq_iff_eq]
    exact ⟨⟨⟨⟨⟨h1, h2⟩, h3⟩, h4⟩, hm⟩, ho.symm⟩
  · intro h i hi
    have hh := h i hi
    obtain ⟨h1, h2, h3, h4⟩ := fitn_two l k h i (by omega)
    simp only [fit4, Bool.and_eq_true, beq_iff_eq] at hh
    obtain ⟨⟨⟨⟨⟨g1, g2⟩, g3⟩, g4⟩, hm⟩, ho⟩ := hh
    simp only [fol, Bool.and_eq_true, beq_iff_eq]
    exact ⟨⟨⟨⟨⟨hm, h1.trans g1.symm⟩, h2.trans g2.symm⟩, h3.trans g3.symm⟩, h4.trans g4.symm⟩, ho.symm⟩
instance (l : List P4) (k : Nat) : Decidable (chn l k) := decidable_of_iff (∀ i, i < k - 1 → fol (l.getD i p4z) (l.getD (i + 1) p4z) = true) ⟨fun h i hi => h i (by omega), fun h i hi => h i (by omega)⟩
/-- The first fault of each alone; none: 0. -/
def bad1 : List P4 → Int
  | [] => 0
  | q :: l => if chk4 q = 0 then bad1 l else chk4 q
theorem bad1_at : ∀ (l : List P4) (k : Nat), (∀ i, i < k → chk4 (l.getD i p4z) = 0) → k < l.length → chk4 (l.getD k p4z) ≠ 0 → bad1 l = chk4 (l.getD k p4z)
  | [], _, _, h, _ => by simp at h
  | q :: l, 0, _, _, h => by
    have h' : chk4 q ≠ 0 := by simpa using h
    rw [bad1, if_neg h']; rfl
  | q :: l, k + 1, h0, hk, h => by
    have hq : chk4 q = 0 := by simpa using h0 0 (by omega)
    rw [bad1, if_pos hq]
    have := bad1_at l k (fun i hi => by simpa using h0 (i + 1) (by omega)) (by simpa using hk) (by simpa using h)
    simpa using this
theorem bad1_ok : ∀ (l : List P4), (∀ i, i < l.length → chk4 (l.getD i p4z) = 0) → bad1 l = 0
  | [], _ => rfl
  | q :: l, h => by
    have hq : chk4 q = 0 := by simpa using h 0 (by simp)
    rw [bad1, if_pos hq]
    exact bad1_ok l fun i hi => by simpa using h (i + 1) (by simpa using hi)
def datas (l : List P4) : List UInt8 := l.flatMap (·.dat)
def whl (l : List P4) : P4 := { l.getD 0 p4z with mf := (l.getD (l.length - 1) p4z).mf, dat := datas l }
def glE (l : List P4) : Int := if l.length = 0 then 1 else if bad1 l = 0 then (if chn l l.length then chk4 (whl l) else 4) else bad1 l
def glV (l : List P4) : P4 := if glE l = 0 then whl l else p4z
theorem datas_take (l : List P4) {k : Nat} (h : k < l.length) : datas (l.take (k + 1)) = datas (l.take k) ++ (l.getD k p4z).dat := by
  have e : l.take (k + 1) = l.take k ++ [l.getD k p4z] := by rw [List.take_add_one, List.getD_eq_getElem?_getD, List.getElem?_eq_getElem h]; rfl
  rw [datas, e, List.flatMap_append, List.flatMap_cons, List.flatMap_nil, List.append_nil]; rfl
theorem datas_take_le (l : List P4) (k : Nat) : (datas (l.take k)).length ≤ (datas l).length := by
  conv => rhs; rw [← List.take_append_drop k l]
  simp only [datas, List.flatMap_append, List.length_append]; omega

/-! ### Fragments are the packet -/
section
variable {mtu : Int} {o : List UInt8} {mf : Bool}
theorem rst4_ind {C : P4 → List P4 → Prop} (ho : o.length ≤ 40 ∧ o.length % 4 = 0)
    (last : ∀ q, Cuttable mtu q → ¬ size4 q > mtu → C q [{ q with mf := mf }])
    (more : ∀ q, Cuttable mtu q → size4 q > mtu → C (rest1 mtu o q) (rst4 mtu o mf (rest1 mtu o q)) → C q (part1 mtu q :: rst4 mtu o mf (rest1 mtu o q))) :
    ∀ (f : Nat) (q : P4), q.dat.length < f → Cuttable mtu q → C q (rst4 mtu o mf q)
  | 0, _, h, _ => absurd h (Nat.not_lt_zero _)
  | f + 1, q, h, hc => by
    by_cases hs : size4 q > mtu
    · have hr := room_bd hc
      have hl := room_lt hc hs
      have e : (rest1 mtu o q).dat.length = q.dat.length - (room mtu q).toNat := by simp [rest1]
      rw [rst4_more hc ho hs]
      exact more q hc hs (rst4_ind ho last more f (rest1 mtu o q) (by omega) (hc.rest hs ho))
    · rw [rst4_last hs]; exact last q hc hs
/-- A list that is a packet's fragments. -/
structure Frags (mtu : Int) (mf : Bool) (q : P4) (l : List P4) : Prop where
  ne : l ≠ []
  all : ∀ x ∈ l, size4 x ≤ mtu ∧ chk4 x = 0
  dat : datas l = q.dat
  one : (l.getD 0 p4z).tos = q.tos ∧ (l.getD 0 p4z).id = q.id ∧ (l.getD 0 p4z).off = q.off ∧ (l.getD 0 p4z).ttl = q.ttl ∧ (l.getD 0 p4z).proto = q.proto ∧ (l.getD 0 p4z).src = q.src ∧ (l.getD 0 p4z).dst = q.dst ∧ (l.getD 0 p4z).df = q.df ∧ (l.getD 0 p4z).opt = q.opt
  last : (l.getD (l.length - 1) p4z).mf = mf
  chn : chn l l.length
theorem chk4_of {x : P4} (h : Cuttable mtu x) (hm : x.mf = true → x.dat.length % 8 = 0) (hs : size4 x ≤ mtu) : chk4 x = 0 := by
  obtain ⟨a1, a2, a3, a4, a5, a6, a7, a8, a9, a10, a11, a12⟩ := h.arg
  obtain ⟨b1, b2, b3, b4⟩ := h.off
  have := h.hi
  rw [chk4, if_pos ⟨a1, a2, a3, a4, a5, a6, a7, a8, a9, a10, a11, a12, b1, b4, b2, h.opt.1, h.opt.2, hm⟩, if_neg (by omega)]
theorem frags_of (ho : o.length ≤ 40 ∧ o.length % 4 = 0) (q : P4) (hc : Cuttable mtu q) (hm : mf = true → q.dat.length % 8 = 0) : Frags mtu mf q (rst4 mtu o mf q) := by
  have key := rst4_ind (mtu := mtu) (o := o) (mf := mf) (C := fun q l => (mf = true → q.dat.length % 8 = 0) → Frags mtu mf q l) ho ?_ ?_ (q.dat.length + 1) q (Nat.lt_succ_self _) hc
  · exact key hm
  · intro q hc hs hm
    have hx : Cuttable mtu { q with mf := mf } := ⟨hc.lo, hc.hi, hc.arg, hc.off, hc.opt⟩
    have hz : size4 { q with mf := mf } = size4 q := rfl
    refine ⟨by simp, fun x hx' => ?_, by simp [datas], ⟨rfl, rfl, rfl, rfl, rfl, rfl, rfl, rfl, rfl⟩, rfl, fun i hi => by simp at hi⟩
    rw [List.mem_singleton.1 hx']
    exact ⟨by omega, chk4_of hx hm (by omega)⟩
  · intro q hc hs ih hm
    have hr := room_bd hc
    have hl := room_lt hc hs
    have hh : head4 (part1 mtu q) = head4 q := rfl
    have hdl : (part1 mtu q).dat.length = (room mtu q).toNat := by simp [part1]; omega
    have hpz : size4 (part1 mtu q) = head4 q + room mtu q := by unfold size4; rw [hh, hdl]; omega
    have hx : Cuttable mtu (part1 mtu q) := by
      obtain ⟨b1, b2, b3, b4⟩ := hc.off
      exact ⟨hc.lo, hc.hi, hc.arg, ⟨b1, b2, by show q.off + _ ≤ _; rw [hdl]; omega, b4⟩, hc.opt⟩
    have hm' : mf = true → (rest1 mtu o q).dat.length % 8 = 0 := fun e => by
      have := hm e
      simp only [rest1, List.length_drop]; omega
    obtain ⟨i1, i2, i3, ⟨t1, t2, t3, t4, t5, t6, t7, t8, t9⟩, i5, i6⟩ := ih hm'
    obtain ⟨y, l, e⟩ : ∃ y l, rst4 mtu o mf (rest1 mtu o q) = y :: l := by
      cases h : rst4 mtu o mf (rest1 mtu o q) with
      | nil => exact absurd h i1
      | cons y l => exact ⟨y, l, rfl⟩
    rw [e] at i2 i3 t1 t2 t3 t4 t5 t6 t7 t8 t9 i5 i6 ⊢
    refine ⟨by simp, fun x hx' => ?_, ?_, ⟨rfl, rfl, rfl, rfl, rfl, rfl, rfl, rfl, rfl⟩, ?_, fun i hi => ?_⟩
    · rcases List.mem_cons.1 hx' with rfl | hx'
      · exact ⟨by omega, chk4_of hx (fun _ => by rw [hdl]; omega) (by omega)⟩
      · exact i2 x hx'
    · have i3' : y.dat ++ datas l = q.dat.drop (room mtu q).toNat := by simpa [datas, rest1] using i3
      show (part1 mtu q).dat ++ (y.dat ++ datas l) = q.dat
      rw [i3']; exact List.take_append_drop _ _
    · simpa using i5
    · cases i with
      | zero =>
        have g : ∀ z : P4, ((y :: l).getD 0 p4z) = y := fun _ => rfl
        simp only [List.getD_cons_zero] at t2 t3 t5 t6 t7
        show fol (part1 mtu q) y = true
        simp only [fol, Bool.and_eq_true, beq_iff_eq]
        refine ⟨⟨⟨⟨⟨rfl, t6.symm⟩, t7.symm⟩, t5.symm⟩, t2.symm⟩, ?_⟩
        rw [t3, hdl]
        show q.off + _ = q.off + room mtu q
        omega
      | succ i =>
        have := i6 i (by simpa using hi)
        simpa using this
/-- Glued, they are the packet. -/
theorem glue_back {q : P4} {l : List P4} (h : Frags mtu q.mf q l) (hq : chk4 q = 0) : glE l = 0 ∧ glV l = q := by
  have hw : whl l = q := by
    obtain ⟨t1, t2, t3, t4, t5, t6, t7, t8, t9⟩ := h.one
    obtain ⟨a0, a1, a2, a3, a4, a5, a6, a7, a8, a9, a10⟩ := q
    unfold whl
    rw [h.last, h.dat]
    simp only at t1 t2 t3 t4 t5 t6 t7 t8 t9 ⊢
    simp only [t1, t2, t3, t4, t5, t6, t7, t8, t9]
  have hb : bad1 l = 0 := bad1_ok l fun i hi => by
    rw [List.getD_eq_getElem?_getD, List.getElem?_eq_getElem hi]
    exact (h.all _ (List.getElem_mem hi)).2
  have hl : l.length ≠ 0 := fun e => h.ne (List.eq_nil_of_length_eq_zero e)
  have he : glE l = 0 := by rw [glE, if_neg hl, if_pos hb, if_pos h.chn, hw]; exact hq
  exact ⟨he, by rw [glV, if_pos he, hw]⟩
end
end Go.Proofs.Ytcebobcakiljhaa

/-
  Rows of structs: a slice whose elements fill so many cells each, read at an index, grown by one; what a round that grows one keeps. Conditions are each theorem's own.
-/
namespace Go.Proofs.Ytcebobcakiljhaa
open Go.RowKit Go.Shelf

section
variable {α : Type} {cl : α → List Value} {sz : Nat}
theorem flat_len (l : List α) (h : ∀ x ∈ l, (cl x).length = sz) : (l.flatMap cl).length = l.length * sz := by
  induction l with
  | nil => simp
  | cons x l ih =>
    rw [List.flatMap_cons, List.length_append, h x (by simp), ih (fun y hy => h y (by simp [hy])), List.length_cons, Nat.add_mul]; omega
theorem flat_at : ∀ (l : List α), (∀ x ∈ l, (cl x).length = sz) → ∀ (j : Nat) (x : α), l[j]? = some x → ∀ (i : Nat) (v : Value), (cl x)[i]? = some v → (l.flatMap cl)[j * sz + i]? = some v
  | [], _, j, x, hx, _, _, _ => by simp at hx
  | y :: l, h, 0, x, hx, i, v, hv => by
    simp only [List.getElem?_cons_zero, Option.some.injEq] at hx
    subst hx
    have hi := (List.getElem?_eq_some_iff.1 hv).1
    rw [List.flatMap_cons, Nat.zero_mul, Nat.zero_add, List.getElem?_append_left hi]; exact hv
  | y :: l, h, j + 1, x, hx, i, v, hv => by
    have hy := h y (by simp)
    rw [List.flatMap_cons, List.getElem?_append_right (by rw [hy, Nat.add_mul]; omega), hy, show (j + 1) * sz + i - sz = j * sz + i from by rw [Nat.add_mul]; omega]
    exact flat_at l (fun z hz => h z (by simp [hz])) j x (by simpa using hx) i v hv
/-- The slice at A reads as these elements; its cells lie below block B. -/
def RdS (cl : α → List Value) (sz : Nat) (w : World) (B : Nat) (A : Option Addr) (l : List α) : Prop :=
  0 < l.length → ∃ b off, A = some ⟨b, off, none⟩ ∧ b < B ∧ ∀ j x, l[j]? = some x → w.rangeAt b (off + j * sz) (cl x)
theorem RdS.keep {w w' : World} {B : Nat} {A : Option Addr} {l : List α} (h : RdS cl sz w B A l) (hk : ∀ p : Addr, p.block < B → w'.cell? p = w.cell? p) : RdS cl sz w' B A l := fun hn => by
  obtain ⟨b, off, e, hb, hc⟩ := h hn
  exact ⟨b, off, e, hb, fun j x hx i v hv => (hk ⟨b, _, none⟩ hb).trans (hc j x hx i v hv)⟩
theorem RdS.below {w w' : World} {B : Nat} {A : Option Addr} {l : List α} (h : RdS cl sz w B A l) (hb : Below B w w') : RdS cl sz w' B A l := h.keep fun _ hp => hb.cell hp
theorem RdS.more {w : World} {B B' : Nat} {A : Option Addr} {l : List α} (h : RdS cl sz w B A l) (hB : B ≤ B') : RdS cl sz w B' A l := fun hn => by
  obtain ⟨b, off, e, hb, hc⟩ := h hn
  exact ⟨b, off, e, by omega, hc⟩
theorem own_rds {w : World} {base e n : Nat} {v : Value} {xs : List Value} {l : List α} (h : w.ownsRow base e sz v n xs) (hn : n = l.length) (hx : xs = l.flatMap cl) (hl : ∀ x ∈ l, (cl x).length = sz) :
    ∃ A c, v = .slice A l.length c ∧ RdS cl sz w w.heap.size A l ∧ l.length ≤ c := by
  subst hn; subst hx
  rcases h.2 with ⟨rfl, h0⟩ | ⟨g, cap, cur, rfl, hb, hh, hle, _, hs, ht⟩
  · exact ⟨none, 0, by rw [h0], fun hn => by omega, by omega⟩
  · refine ⟨_, cap, rfl, fun _ => ⟨g, 0, rfl, heap_lt hh, fun j x hx i v hv => ?_⟩, hle⟩
    have hf := flat_at l hl j x hx i v hv
    have hcl : j * sz + i < l.length * sz := by
      have := (List.getElem?_eq_some_iff.1 hf).1
      rwa [flat_len l hl] at this
    have := World.ownsRow.cellAt h (j * sz + i) hcl
    rw [hf] at this
    rw [Nat.zero_add]; exact this
end

/-! ### What a round keeps -/
/-- Each block of cells lies as it lay, but for variables of type t, and rows of type e of more than one element. -/
structure KeepS (e t sz : Nat) (X Y : World) : Prop where
  size : X.heap.size ≤ Y.heap.size
  block : ∀ (k : Nat) (cs : Array Value) (ty : TypeId) (fr : Nat × Nat), X.heap[k]? = some (.cells cs ty fr) → ty ≠ t → (ty = e → cs.size ≤ sz) → Y.heap[k]? = X.heap[k]?
section
variable {e t sz : Nat} {X Y Z : World}
theorem KeepS.refl (X : World) : KeepS e t sz X X := ⟨Nat.le_refl _, fun _ _ _ _ _ _ _ => rfl⟩
theorem KeepS.trans (h : KeepS e t sz X Y) (k : KeepS e t sz Y Z) : KeepS e t sz X Z :=
  ⟨Nat.le_trans h.size k.size, fun i cs ty fr hi h1 h2 => (k.block i cs ty fr ((h.block i cs ty fr hi h1 h2).trans hi) h1 h2).trans (h.block i cs ty fr hi h1 h2)⟩
theorem KeepS.of_below (h : Below X.heap.size X Y) : KeepS e t sz X Y := ⟨h.size, fun _ _ _ _ hi _ _ => h.block _ (heap_lt hi)⟩
theorem KeepS.loop {l : Nat} {r r' : Loop} (hl : X.heap[l]? = some (.loop r)) : KeepS e t sz X (X.putObj l (.loop r')) :=
  ⟨by simp, fun k cs ty fr hk _ _ => World.putObj_heap_other (fun e => by rw [e, hl] at hk; cases hk)⟩
theorem KeepS.set {b : Nat} {u v : Value} {ty : TypeId} (h : Boxed X b ty u) (ht : ty = t) : KeepS e t sz X (X.setCell ⟨b, 0, none⟩ v) :=
  ⟨by simp, fun k cs ty' fr hk h1 _ => Below.heap_setCell X _ _ k (fun e => by rw [e] at hk; have := (show X.heap[b]? = _ from h).symm.trans hk; simp at this; exact h1 (this.2.1.symm.trans ht))⟩
theorem KeepS.own {base e' s' n : Nat} {v : Value} {xs : List Value} (h : X.ownsRow base e' s' v n xs) (k : KeepS e t sz X Y) (h1 : e' ≠ t) (h2 : e' ≠ e) : Y.ownsRow base e' s' v n xs := by
  refine ⟨h.1, ?_⟩
  rcases h.2 with hn | ⟨g, cap, cur, hv, hb, hg, rest⟩
  · exact .inl hn
  · exact .inr ⟨g, cap, cur, hv, hb, (k.block g cur e' _ hg h1 (fun e => absurd e h2)).trans hg, rest⟩
theorem KeepS.box {b : Nat} {ty : TypeId} {v : Value} (k : KeepS e t sz X Y) (h : Boxed X b ty v) (h1 : ty ≠ t) (h2 : ty = e → 1 ≤ sz) : Boxed Y b ty v := (k.block b _ _ _ h h1 (fun e => by simpa using h2 e)).trans h
theorem KeepS.heap {b : Nat} {cs : Array Value} {ty : TypeId} {fr : Nat × Nat} (k : KeepS e t sz X Y) (h : X.heap[b]? = some (.cells cs ty fr)) (h1 : ty ≠ t) (h2 : cs.size ≤ sz) : Y.heap[b]? = some (.cells cs ty fr) := (k.block b _ _ _ h h1 (fun _ => h2)).trans h
end

/-! ### One element more -/
section
variable {P : Program}
theorem fill_one (cs z : Array Value) (sz : Nat) (hc : cs.size = sz) (hs : 0 < sz) :
    Instr.fill (fun i => some (i * sz, sz)) ((Array.range (1 * sz)).map (z[· % z.size]!)) [(0, .agg cs)] = some cs := by
  have h := Great.fill_whole hs [.agg cs] ((Array.range (1 * sz)).map (z[· % z.size]!)) (by simp [Value.cells, hc]) (by simp)
  simpa [Value.cells] using h
/-- A slice literal of one struct. -/
theorem run_lit1 (w : World) (t e : TypeId) (ie : TypeInfo) (z : Value) (cs : Array Value) (sz : Nat) (hu : P.underlying t = some (.slice e)) (hie : P.info? e = some ie) (hz : ie.zero = some z)
    (hs : ie.size = sz) (hc : cs.size = sz) (h0 : 0 < sz) (h1 : sz ≤ 1000) :
    (Instr.buildSlice t 1 #[(0, .agg cs)]).run P w = .ok (.slice (some ⟨w.heap.size, 0, none⟩) 1 1) (w.alloc (.cells cs e)) :=
  run_buildSlice w t e 1 _ cs ie z hu hie hz (by rw [hs]; omega) (by rw [hs]; omega) (by rw [hs]; exact fill_one cs z.cells sz hc h0)
/-- What an append of one element keeps. -/
theorem append_keeps (w : World) (base t ty e : Nat) (i : TypeInfo) (z : Value) (size bytes : Nat) (ht : P.underlying t = some (.slice e)) (hi : P.info? e = some i) (hz : i.zero = some z)
    (hsize : i.size = size) (hby : i.bytes = bytes) (hsz : 0 < size)
    (v : Value) (n : Nat) (xs : List Value) (hown : w.ownsRow base e size v n xs) (hv : v = .slice none 0 0 ∨ 0 < n)
    (a : Addr) (c : Nat) (news : List Value) (hl : news.length = size) (hnews : ∀ j u, news[j]? = some u → w.cell? (a.add j) = some u) (h1 : ∀ u ∈ news, u.oneCell' = true)
    (h63 : n + 1 ≤ maxLen) (hbytes : (n + 1) * bytes ≤ 140737488355328) {v' : Value} {w' : World}
    (hr : (Builtin.append_ #[t, t] ty #[v, .slice (some a) 1 c]).run P w = .ok v' w') :
    (∀ (k : Nat) (cs : Array Value) (y : TypeId) (fr : Nat × Nat), w.heap[k]? = some (.cells cs y fr) → (y = e → cs.size ≤ size) → w'.heap[k]? = w.heap[k]?) ∧ (v'.ownBlock = v.ownBlock ∨ v'.ownBlock = some w.heap.size) := by
  subst hsize
  subst hby
  have hl1 : news.length = 1 * i.size := by omega
  rcases hown.2 with ⟨rfl, rfl⟩ | ⟨g, cap, cur, rfl, hbg, hg, hnc, hcm, hcs, htake⟩
  · have h := run_append_nil (P := P) w t ty e i z ht hi hz a 1 c news hl1 hnews (by omega) (by omega) (by simp only [Nat.zero_add] at hbytes; omega)
    rw [h] at hr
    cases hr
    exact ⟨fun k cs y fr hk _ => Below.heap_alloc w.drew _ k (heap_lt hk), .inr rfl⟩
  · have hn : 0 < n := by
      rcases hv with e | e
      · cases e
      · exact e
    by_cases hroom : n + 1 ≤ cap
    · have hfit : n * i.size + news.length ≤ cur.size := by rw [hl1, hcs, ← Nat.add_mul]; exact Nat.mul_le_mul_right _ hroom
      have h := run_append_room (P := P) w t ty e i ht hi g n cap cur hg a 1 c news hl1 hnews h1 hroom hfit
      rw [h] at hr
      cases hr
      refine ⟨fun k cs y fr hk hy => setRow_other w g k _ (fun e' => ?_), .inl rfl⟩
      subst e'
      rw [hg] at hk
      cases hk
      have h2 := hy rfl
      have h3 : 2 * i.size ≤ cap * i.size := Nat.mul_le_mul_right _ (by omega)
      omega
    · have holds : ∀ j u, xs[j]? = some u → w.cell? ((⟨g, 0, none⟩ : Addr).add j) = some u := hown.cells (g := g) rfl
      have h := run_append_grow (P := P) w t ty e i z ht hi hz ⟨g, 0, none⟩ n cap xs hown.1 holds a 1 c news hl1 hnews (by omega) (by simp only [maxLen] at h63; omega) (growslice_fits (by omega) hbytes)
      rw [h] at hr
      cases hr
      exact ⟨fun k cs y fr hk _ => Below.heap_alloc w.drew _ k (heap_lt hk), .inr rfl⟩
theorem wpListIn_append_one {F : Fence} {n : Nat} (w : World) {ops : Array Oper} {rest : List Oper} {o : Oper} {a : Act} {Q : Exit → Act → World → Prop}
    (hg : o.guard = none) (s x : Operand) (t : TypeId) (hop : o.op = Op.call { callee := Callee.builtin Builtin.append, args := #[s, x], argTypes := #[t, t] })
    (base : Nat) (e : TypeId) (i : TypeInfo) (z : Value) (size bytes : Nat) (h1 : P.underlying t = some (.slice e)) (h2 : P.info? e = some i) (h3 : i.zero = some z) (h4 : i.size = size) (h5 : i.bytes = bytes) (h6 : z.cells.size = size) (h7 : 0 < size)
    (v : Value) (k : Nat) (xs : List Value) (hs : a.eval s = v) (hown : w.ownsRow base e size v k xs) (hv : v = .slice none 0 0 ∨ 0 < k) (ad : Addr) (c : Nat) (news : List Value) (hx : a.eval x = .slice (some ad) 1 c) (hn : news.length = size)
    (hc : ∀ j u, news[j]? = some u → w.cell? (ad.add j) = some u) (h1c : ∀ u ∈ news, u.oneCell' = true) (b1 : k + 1 ≤ maxLen) (b2 : (k + 1) * bytes ≤ 140737488355328) (b3 : base ≤ w.heap.size)
    (hK : ∀ v' w', w'.ownsRow base e size v' (k + 1) (xs ++ news) → w.grownBy w' v.ownBlock →
      (∀ (j : Nat) (cs : Array Value) (y : TypeId) (fr : Nat × Nat), w.heap[j]? = some (.cells cs y fr) → (y = e → cs.size ≤ size) → w'.heap[j]? = w.heap[j]?) → (v'.ownBlock = v.ownBlock ∨ v'.ownBlock = some w.heap.size) → wpListIn F n P ops Q rest (a.put o.dst v') w') :
    wpListIn F n P ops Q (o :: rest) a w := by
  refine wpListIn_plain hg fun K hK' => ?_
  have hn1 : news.length = 1 * size := by omega
  obtain ⟨v', w', hrun, r1, r2, r3⟩ := run_append_own (P := P) w base t o.type e i z size bytes h1 h2 h3 h4 h5 h6 h7 v k xs hown ad 1 c news hn1 hc h1c b1 b2 b3
  have r4 := append_keeps w base t o.type e i z size bytes h1 h2 h3 h4 h5 h7 v k xs hown hv ad c news hn hc h1c b1 b2 hrun
  unfold Oper.wpIn
  refine ⟨?_, ?_⟩
  · simp [Oper.about, hop, resolve, Target.leads, Sem.run_pure]
  · rw [Oper.semAt_plain F _ _ (by rw [hop]; intro c hc'; cases hc')]
    simp [execOp, hop, resolve, invoke, builtin, hs, hx, hrun, Result.andThen]
    exact hK' _ _ (hK v' w' r1 r2 r4.1 r4.2)
end
end Go.Proofs.Ytcebobcakiljhaa

/-
  Contracts of cut4's optionSize, each and its iterator. Conditions are each theorem's own.
-/
namespace Go.Proofs.Ytcebobcakiljhaa
open Go.RowKit Go.Shelf
attribute [local go_sem] Oper.semAt_some

set_option maxRecDepth 100000 in
set_option maxHeartbeats 2000000 in
theorem c13size (A : Option Addr) (b : List UInt8) (n c B : Nat) (w : World) (hn : Hid (b.length = n)) (hR : Rd w B A b) (h0 : 0 < n) (hl : n ≤ 1000000) :
    Calls Try.prog 57 #[.slice A n c] w fun e w' => e = .returned (.int .i64 (optL b 0 : Nat)) ∧ w = w' := by
  obtain ⟨b0, off, e, hb0, hc0⟩ := hR (by have := hn.out; omega)
  obtain rfl := e
  have kx := hc0 0 (by have := hn.out; omega)
  have HC := Lib.hid hc0
  clear hc0 hR
  rw [Nat.add_zero] at kx
  have l0 := byt_lo b 0; have l1 := byt_hi b 0
  obtain ⟨X, hX⟩ : ∃ x, x = byt b 0 := ⟨_, rfl⟩
  rw [← hX] at kx l0 l1
  have HX := Lib.hid hX
  clear hX
  by_cases x0 : X = 0
  · have e0 : (X == 0) = true := by simpa using x0
    have HE := Lib.hid (show optL b 0 = 1 by rw [optL, if_neg (by have := hn.out; omega), if_pos (by rw [← HX.out]; omega)])
    go_enter Try.func57, Try.ntmps57
    go_wp2
    go_ret
    exact ⟨by rw [HE.out]; rfl, rfl⟩
  · have e0 : (X == 0) = false := by simpa using x0
    by_cases x1 : X = 1
    · have e1 : (X == 1) = true := by simpa using x1
      have HE := Lib.hid (show optL b 0 = 1 by rw [optL, if_neg (by have := hn.out; omega), if_pos (by rw [← HX.out]; omega)])
      go_enter Try.func57, Try.ntmps57
      go_wp2
      go_ret
      exact ⟨by rw [HE.out]; rfl, rfl⟩
    · have e1 : (X == 1) = false := by simpa using x1
      by_cases h2 : n < 2
      · have d2 : decide ((n : Int) < 2) = true := by simp; omega
        have HE := Lib.hid (show optL b 0 = 0 by rw [optL, if_neg (by have := hn.out; omega), if_neg (by rw [← HX.out]; omega), if_pos (.inl (by have := hn.out; omega))])
        go_enter Try.func57, Try.ntmps57
        go_wp2
        go_ret
        exact ⟨by rw [HE.out]; rfl, rfl⟩
      · have d2 : decide ((n : Int) < 2) = false := by simp; omega
        have ky := HC.out 1 (by have := hn.out; omega)
        have m0 := byt_lo b 1; have m1 := byt_hi b 1
        obtain ⟨Y, hY⟩ : ∃ y, y = byt b 1 := ⟨_, rfl⟩
        rw [← hY] at ky m0 m1
        have HY := Lib.hid hY
        clear hY
        by_cases y2 : Y < 2
        · have dy : decide (Y < 2) = true := by simpa using y2
          have HE := Lib.hid (show optL b 0 = 0 by rw [optL, if_neg (by have := hn.out; omega), if_neg (by rw [← HX.out]; omega), if_pos (.inr (.inl (by rw [Nat.zero_add, ← HY.out]; omega)))])
          go_enter Try.func57, Try.ntmps57
          go_wp2
          go_ret
          exact ⟨by rw [HE.out]; rfl, rfl⟩
        · have dy : decide (Y < 2) = false := by simpa using y2
          by_cases yn : Y > (n : Int)
          · have dn : decide (Y > (n : Int)) = true := by simpa using yn
            have HE := Lib.hid (show optL b 0 = 0 by rw [optL, if_neg (by have := hn.out; omega), if_neg (by rw [← HX.out]; omega), if_pos (.inr (.inr (by rw [Nat.zero_add, ← HY.out, hn.out]; omega)))])
            go_enter Try.func57, Try.ntmps57
            go_wp2
            go_ret
            exact ⟨by rw [HE.out]; rfl, rfl⟩
          · have dn : decide (Y > (n : Int)) = false := by simpa using yn
            have HE := Lib.hid (show ((optL b 0 : Nat) : Int) = Y by rw [optL, if_neg (by have := hn.out; omega), if_neg (by rw [← HX.out]; omega), if_neg (by rw [Nat.zero_add, ← HY.out, hn.out]; omega), Nat.zero_add, ← HY.out]; omega)
            go_enter Try.func57, Try.ntmps57
            go_wp2
            go_ret
            exact ⟨by rw [HE.out]; rfl, rfl⟩

/-- The blocks of which S is lie as they lay. -/
def KeepP (S : Nat → Prop) (X Y : World) : Prop := X.heap.size ≤ Y.heap.size ∧ ∀ k, S k → Y.heap[k]? = X.heap[k]?
theorem KeepP.refl (S : Nat → Prop) (X : World) : KeepP S X X := ⟨Nat.le_refl _, fun _ _ => rfl⟩
theorem KeepP.trans {S : Nat → Prop} {X Y Z : World} (h : KeepP S X Y) (k : KeepP S Y Z) : KeepP S X Z := ⟨Nat.le_trans h.1 k.1, fun i hi => (k.2 i hi).trans (h.2 i hi)⟩
theorem KeepP.cell {S : Nat → Prop} {X Y : World} (h : KeepP S X Y) {p : Addr} (hp : S p.block) : Y.cell? p = X.cell? p := World.cell?_of_block (w := X) (h.2 p.block hp)
theorem KeepP.loop {S : Nat → Prop} {X : World} {l : Nat} {r' : Loop} (hl : ¬ S l) : KeepP S X (X.putObj l (.loop r')) :=
  ⟨by simp, fun k hk => World.putObj_heap_other (fun e => hl (e ▸ hk))⟩
theorem KeepP.of_below {S : Nat → Prop} {B : Nat} {X Y : World} (h : Below B X Y) (hS : ∀ k, S k → k < B) : KeepP S X Y := ⟨h.size, fun k hk => h.block k (hS k hk)⟩

def encS (x : OI) : Array Value := #[.slice x.A x.n x.c]
set_option maxRecDepth 100000 in
set_option maxHeartbeats 4000000 in
theorem each1_in (m : Nat) (hm : 1 ≤ m) (l Bs b1 o1 c1 n : Nat) (b : List UInt8) (hn : Hid (b.length = n)) (hl : n ≤ 1000000) (hc1 : n ≤ c1) (A1 : Option Addr) (hA1 : 0 < n → A1 = some ⟨b1, o1, none⟩) (S : Nat → Prop) (hS1 : 0 < n → S b1) (J Jx : List OI → World → Prop) (W : World) (hb1 : 0 < n → b1 < W.heap.size)
    (hY : ∀ pre x X, J pre X → GO b pre x X → YieldAt Fence.wide (m - 1) Try.prog l (encS x) X fun e Y =>
      (e = .returned (.bool true) ∧ J (pre ++ [x]) Y ∧ KeepP S X Y) ∨ (e = .returned (.bool false) ∧ Jx (pre ++ [x]) Y))
    (hb : W.cell? ⟨Bs, 0, none⟩ = some (.slice A1 n c1)) (hcell : ∀ j, j < n → W.cell? ⟨b1, o1 + j, none⟩ = some (.int .u8 (byt b j))) (hJ : J [] W) :
    CallsIn Fence.wide m Try.prog 56 #[.func (.yield l) #[] #[], .pointer (some ⟨Bs, 0, none⟩)] W fun e W' => (∃ v, e = .returned v) ∧
      ((∃ xs : List OI, xs.map (·.at_) = places b ∧ J xs W') ∨ (∃ pre : List OI, (∃ more, places b = pre.map (·.at_) ++ more) ∧ Jx pre W')) := by
  have HC := Lib.hid hcell
  clear hcell
  have hsz : ∀ V, KeepP S W V → W.heap.size ≤ V.heap.size := fun V h => h.1
  refine callsIn_of_wp Try.func56 rfl trivial ?_ rfl
  simp only [Try.ntmps56, List.size_toArray, List.length_cons, List.length_nil, Nat.reduceAdd, Nat.reduceSub, Array.replicate_succ, Array.replicate_zero, List.push_toArray, List.append_toArray, List.nil_append, List.cons_append]
  gi_wp2
  gi_loopw [3] (fun i wr => ∃ (k r d : Nat) (A' : Option Addr) (pre : List OI), Hid (r + k = n) ∧ Hid (d + k = c1) ∧ i = .slice A' r d ∧ r ≤ d ∧ (0 < r → A' = some ⟨b1, o1 + k, none⟩) ∧ Hid (places b = pre.map (·.at_) ++ rest b k) ∧ J pre wr ∧ KeepP S W wr)
    (fun i _ => match i with | .slice _ r _ => r | _ => 0)
  case atStart => exact ⟨0, n, c1, _, [], Lib.hid rfl, Lib.hid rfl, rfl, hc1, fun h => by rw [hA1 h, Nat.add_zero], Lib.hid rfl, hJ, KeepP.refl _ _⟩
  case round =>
    obtain ⟨k, r, d, A', pre, Hrk, Hdk, rfl, hrd, hA', HP, hJs, hH⟩ := hrel
    by_cases hlt : 0 < r
    · obtain rfl := hA' hlt
      have dk : decide (0 < r) = true := by simpa using hlt
      have hS1 := hS1 (by have := Hrk.out; omega)
      have hb1 := hb1 (by have := Hrk.out; omega)
      have hk : k < b.length := by have := hn.out; have := Hrk.out; omega
      have kx0 := (hH.cell (p := ⟨b1, o1 + k, none⟩) hS1).trans (HC.out k (by have := Hrk.out; omega))
      have hRd : Rd wr wr.heap.size (some ⟨b1, o1 + k, none⟩) (b.drop k) := fun _ => ⟨b1, o1 + k, rfl, Nat.lt_of_lt_of_le hb1 hH.1, fun j hj => by
        rw [Nat.add_assoc, (hH.cell (p := ⟨b1, o1 + (k + j), none⟩) hS1).trans (HC.out (k + j) (by have := Hrk.out; have := hn.out; rw [List.length_drop] at hj; omega)), byt_drop]⟩
      have hsize := c13size (some ⟨b1, o1 + k, none⟩) (b.drop k) r d wr.heap.size wr (Lib.hid (by rw [List.length_drop]; have := hn.out; have := Hrk.out; omega)) hRd hlt (by have := Hrk.out; omega)
      rw [optL_drop b k hk] at hsize
      obtain ⟨z, hz⟩ : ∃ z, z = optL b k := ⟨_, rfl⟩
      rw [← hz] at hsize
      have HZ := Lib.hid hz.symm
      clear hz hA'
      by_cases z0 : z = 0
      · subst z0
        gi_wp2_with (first | (refine ⟨trivial, ?_⟩; gi_at_call 57; refine (callsIn_wide.2 hsize).mono ?_; rintro e w2 ⟨rfl, rfl⟩) | (refine ⟨fun _ h => (by cases h), ?_⟩; go_at_K))
        refine bodyPost_ret (results_none rfl _ _ _) rfl ?_
        exact ⟨⟨_, rfl⟩, .inl ⟨pre, by rw [HP.out, rest_none HZ.out, List.append_nil], hJs⟩⟩
      · have e1 : ((z : Int) == 0) = false := by simpa using z0
        have hle := optL_le (b := b) (at_ := k) (by rw [HZ.out]; omega)
        rw [HZ.out] at hle
        have hzr : z ≤ r := by have := hn.out; have := Hrk.out; omega
        clear hle
        have NXT : Hid (∃ more, places b = pre.map (·.at_) ++ k :: more) := Lib.hid (by
          rw [HP.out]
          by_cases hx : byt b k = 0
          · exact ⟨[], by rw [rest_last (by rw [HZ.out]; omega) hx]⟩
          · exact ⟨_, by rw [rest_more (by rw [HZ.out]; omega) hx]⟩)
        have hArg : Arg wr wr.heap.size (some ⟨b1, o1 + k, none⟩) d ((b.drop k).take z) := by
          have := (Arg.mk (c := d) hRd (by rw [List.length_drop]; have := hn.out; have := Hrk.out; omega) (fun e => by cases e)).cut_hi z (by rw [List.length_drop]; have := hn.out; have := Hrk.out; omega)
          exact this
        have hY2 := hY pre ⟨k, some ⟨b1, o1 + k, none⟩, d, z⟩ wr hJs ⟨NXT.out, HZ.out.symm, hArg⟩
        obtain ⟨fn, tmps, assign, body, hy, hR⟩ := hY2
        dsimp only [encS] at hy
        clear hArg hRd
        have hzd : ¬ d < z := by omega
        obtain ⟨X, hX⟩ : ∃ x, x = byt b k := ⟨_, rfl⟩
        rw [← hX] at kx0
        have HX := Lib.hid hX
        clear hX
        gi_wp2_with (refine ⟨trivial, ?_⟩; gi_at_call 57; refine (callsIn_wide.2 hsize).mono ?_; rintro e w2 ⟨rfl, rfl⟩)
        refine hR.mono ?_
        rintro e W3 (⟨rfl, hJ3, hk3⟩ | ⟨rfl, hJx3⟩)
        · have hH3 := hH.trans hk3
          have kx3 := (hk3.cell (p := ⟨b1, o1 + k, none⟩) hS1).trans kx0
          clear kx0 hy hR hsize
          by_cases x0 : X = 0
          · have e0 : (X == 0) = true := by simpa using x0
            gi_wp2
            refine bodyPost_ret (results_none rfl _ _ _) rfl ?_
            exact ⟨⟨_, rfl⟩, .inl ⟨_, by rw [List.map_append, HP.out, rest_last (by rw [HZ.out]; omega) (by rw [← HX.out]; exact x0)]; rfl, hJ3⟩⟩
          · have e0 : (X == 0) = false := by simpa using x0
            have HL := Lib.hid (show places b = (pre.map (·.at_) ++ [k]) ++ rest b (k + z) by rw [HP.out, rest_more (by rw [HZ.out]; omega) (by rw [← HX.out]; exact x0), HZ.out, List.append_assoc]; rfl)
            by_cases hdz : d = z
            · subst hdz
              have hr : r = d := by omega
              subst hr
              gi_wp2
              go_roundw
              case rel => exact ⟨k + r, 0, 0, _, _, Lib.hid (by have := Hrk.out; omega), Lib.hid (by have := Hdk.out; omega), by simp; rfl, Nat.le_refl _, fun h => absurd h (Nat.lt_irrefl _), Lib.hid (by rw [List.map_append]; exact HL.out), hJ3, hH3⟩
              case measure => simp; omega
            · gi_wp2
              go_roundw
              case rel => exact ⟨k + z, r - z, d - z, _, _, Lib.hid (by have := Hrk.out; omega), Lib.hid (by have := Hdk.out; omega), by simp; rfl, by omega, fun _ => by simp [Nat.add_assoc], Lib.hid (by rw [List.map_append]; exact HL.out), hJ3, hH3⟩
              case measure => simp; omega
        · clear kx0 hy hR hsize
          gi_wp2
          refine bodyPost_ret (results_none rfl _ _ _) rfl ?_
          exact ⟨⟨_, rfl⟩, .inr ⟨_, by obtain ⟨more, hm_⟩ := NXT.out; exact ⟨more, by rw [List.map_append, hm_, List.append_assoc]; rfl⟩, hJx3⟩⟩
    · obtain rfl : r = 0 := by omega
      gi_wp2
      try rw [Exit.noGoto_normal]
      go_end0
      exact ⟨⟨_, rfl⟩, .inl ⟨pre, by rw [HP.out, rest_none (by rw [optL, if_pos (by have := hn.out; have := Hrk.out; omega)]), List.append_nil], hJs⟩⟩
/-- each: a box of its own; an iterator that tells the options in order, as pieces of what was given. -/
theorem each_any (A : Option Addr) (bs : List UInt8) (c B : Nat) (w : World) (h : Arg w B A c bs) (hB : B ≤ w.heap.size) (hl : bs.length ≤ 1000000) :
    Calls Try.prog 33 #[.slice A bs.length c] w fun e w' => ∃ Bs, e = .returned (.func (.func 56) #[] #[.pointer (some ⟨Bs, 0, none⟩)]) ∧ Below w.heap.size w w' ∧
      (∀ m, 1 ≤ m → SeqTold m Try.prog 56 #[.pointer (some ⟨Bs, 0, none⟩)] encS (GO bs) (KeepP (· < B))
        (fun xs => xs.map (·.at_) = places bs) (fun pre => ∃ more, places bs = pre.map (·.at_) ++ more) w') := by
  obtain ⟨n, hn'⟩ : ∃ n, n = bs.length := ⟨_, rfl⟩
  have hn := Lib.hid hn'.symm
  rw [← hn'] at hl ⊢
  clear hn'
  go_enter Try.func33, Try.ntmps33
  go_wp2
  go_ret
  have hbx := Boxed.new w 22 (.slice A n c)
  have hb2 : Below w.heap.size w (w.alloc (.cells #[.slice A n c] 22)) := (Below.refl _ w).alloc (Nat.le_refl _) _
  have hs : (w.alloc (.cells #[.slice A n c] 22)).heap.size = w.heap.size + 1 := by simp
  refine ⟨w.heap.size, rfl, hb2, fun m hm l J Jx W hW hJa _ hY hJ => ?_⟩
  have hbW := (hW.cell (p := ⟨w.heap.size, 0, none⟩) (by rw [hs]; simp)).trans hbx.cell
  by_cases h0 : n = 0
  · subst h0
    exact each1_in m hm l w.heap.size 0 0 c 0 bs hn hl (Nat.zero_le _) A (fun h => absurd h (Nat.lt_irrefl _)) (· < B) (fun h => absurd h (Nat.lt_irrefl _)) J Jx W (fun h => absurd h (Nat.lt_irrefl _)) hY hbW (fun j hj => absurd hj (Nat.not_lt_zero _)) hJ
  · obtain ⟨b1, o1, e1, hlt1, hc1⟩ := h.rd (by rw [hn.out]; omega)
    have hWs := hW.size
    refine each1_in m hm l w.heap.size b1 o1 c n bs hn hl (by rw [← hn.out]; exact h.cap) A (fun _ => e1) (· < B) (fun _ => hlt1) J Jx W (fun _ => by omega) hY hbW ?_ hJ
    intro j hj
    exact (hW.cell (p := ⟨b1, o1 + j, none⟩) (by rw [hs]; show b1 < _; omega)).trans ((hb2.cell (p := ⟨b1, o1 + j, none⟩) (by show b1 < _; omega)).trans (hc1 j (by rw [hn.out]; exact hj)))
end Go.Proofs.Ytcebobcakiljhaa

/-
  Contract of tcp.MSS. Conditions are each theorem's own.
-/
namespace Go.Proofs.Ytcebobcakiljhaa
open Go.RowKit Go.Shelf
attribute [local go_sem] Oper.semAt_some
theorem byt_take (b : List UInt8) {n j : Nat} (h : j < n) : byt (b.take n) j = byt b j := by simp [byt, h]
theorem loadv_int {w : World} {g : Nat} {v : Value} (h : Boxed w g 3 v) : (loadVar 3 ⟨g, 0, none⟩).run Try.prog w = .ok v w := by
  have hagg : (isAgg 3).run Try.prog w = .ok false w := by
    unfold isAgg
    rw [Sem.run_bind, run_underlying Try.underlying3 w]; rfl
  have hc := h.cell
  simp [loadVar, Sem.run_bind, hagg, hc]
theorem loadv_bool {w : World} {g : Nat} {v : Value} (h : Boxed w g 4 v) : (loadVar 4 ⟨g, 0, none⟩).run Try.prog w = .ok v w := by
  have hagg : (isAgg 4).run Try.prog w = .ok false w := by
    unfold isAgg
    rw [Sem.run_bind, run_underlying Try.underlying4 w]; rfl
  have hc := h.cell
  simp [loadVar, Sem.run_bind, hagg, hc]
theorem cells3 {fn : Func} {p q r : Tmp} {tmps : Array Value} {w : World} {g : Nat} {x y z : Value} (h : fn.results = #[.cell p 3, .cell q 3, .cell r 4])
    (hp : tmps.getD p undef = .pointer (some ⟨g, 0, none⟩)) (hq : tmps.getD q undef = .pointer (some ⟨g + 1, 0, none⟩)) (hr : tmps.getD r undef = .pointer (some ⟨g + 1 + 1, 0, none⟩))
    (h0 : Boxed w g 3 x) (h1 : Boxed w (g + 1) 3 y) (h2 : Boxed w (g + 1 + 1) 4 z) :
    (results fn tmps).run Try.prog w = .ok (.tuple #[x, y, z]) w := by
  have hp' : tmps[p]?.getD undef = .pointer (some ⟨g, 0, none⟩) := by simpa using hp
  have hq' : tmps[q]?.getD undef = .pointer (some ⟨g + 1, 0, none⟩) := by simpa using hq
  have hr' : tmps[r]?.getD undef = .pointer (some ⟨g + 1 + 1, 0, none⟩) := by simpa using hr
  simp [results, h, hp', hq', hr', asAddr, loadv_int h0, loadv_int h1, loadv_bool h2]
/-- Three results in blocks of their own, in a row. -/
structure Three (W : World) (g : Nat) (x y : Int) (z : Bool) : Prop where
  one : Boxed W g 3 (.int .i64 x)
  two : Boxed W (g + 1) 3 (.int .i64 y)
  three : Boxed W (g + 1 + 1) 4 (.bool z)
theorem Three.below {W V : World} {g n : Nat} {x y : Int} {z : Bool} (h : Three W g x y z) (hb : Below n W V) (hn : g + 1 + 1 < n) : Three V g x y z :=
  ⟨Boxed.below h.one hb (by omega), Boxed.below h.two hb (by omega), Boxed.below h.three hb hn⟩
theorem Three.kept {W V : World} {g n : Nat} {x y : Int} {z : Bool} {r : Option Nat} (h : Three W g x y z) (hg : W.grownBy V r) (hr : ∀ k, r = some k → n ≤ k ∧ ∃ o : Obj, W.heap[k]? = some o ∧ o.isCells = false) : Three V g x y z :=
  ⟨box_keep h.one hg hr, box_keep h.two hg hr, box_keep h.three hg hr⟩
theorem Three.set {W : World} {g : Nat} {x y : Int} {z : Bool} (h : Three W g x y z) (x' y' : Int) (z' : Bool) :
    Three (((W.setCell ⟨g, 0, none⟩ (.int .i64 x')).setCell ⟨g + 1, 0, none⟩ (.int .i64 y')).setCell ⟨g + 1 + 1, 0, none⟩ (.bool z')) g x' y' z' :=
  ⟨(((Boxed.set _ h.one).other (by omega) _).other (by omega) _), ((Boxed.set _ (h.two.other (by omega) _)).other (by omega) _), Boxed.set _ ((h.three.other (by omega) _).other (by omega) _)⟩
theorem find_split {α : Type} {p : α → Bool} {l pre more : List α} (h : l = pre ++ more) (hn : ∀ x ∈ pre, p x = false) : l.find? p = more.find? p := by
  subst h
  rw [List.find?_append, List.find?_eq_none.2 (fun x hx => by simp [hn x hx]), Option.none_or]
section
variable (q : PT) (A A' : Option Addr) (c c' : Nat) (w : World)
end
end Go.Proofs.Ytcebobcakiljhaa

/-
  Layer 8's awake, and what Build answers, in one shape. Conditions are each theorem's own.
-/
namespace Go.Proofs.Ytcebobcakiljhaa
open Go.RowKit

def resT (src dst : Int) (q : PT) : List UInt8 := if chkT q = 0 then bldT src dst q else []
theorem resT_shape {src dst : Int} {q : PT} {w w' : World} {v : Value} (h : (chkT q ≠ 0 → v = .slice none 0 0 ∧ Below w.heap.size w w') ∧ (chkT q = 0 → Made w w' v (bldT src dst q))) :
    ∃ P k, v = .slice P (resT src dst q).length k ∧ Rd w' w'.heap.size P (resT src dst q) ∧ Below w.heap.size w w' := by
  by_cases hc : chkT q = 0
  · obtain ⟨A, c, rfl, hl, hr, ho, hb⟩ := h.2 hc
    exact ⟨A, c, by rw [resT, if_pos hc], by rw [resT, if_pos hc]; exact hr, hb⟩
  · obtain ⟨rfl, hb⟩ := h.1 hc
    exact ⟨none, 0, by rw [resT, if_neg hc]; rfl, by rw [resT, if_neg hc]; exact Rd.nil, hb⟩
def qaT : PT := ⟨1, 2, 0, 0, 0, 0, 0, 0, [1, 2, 4, 5, 180, 1, 1, 1], []⟩
theorem argA {B g : Nat} {w : World} (hg : w.heap[g]? = some (.cells #[.int .u8 1, .int .u8 2, .int .u8 4, .int .u8 5, .int .u8 180, .int .u8 1, .int .u8 1, .int .u8 1] 5 (0, 0))) (hB : g < B) : Arg w B (some ⟨g, 0, none⟩) 8 qaT.opt :=
  ⟨Rd.of_block hg hB 0 (fun j hj => by
    have hj : j < 8 := hj
    rcases (by omega : j = 0 ∨ j = 1 ∨ j = 2 ∨ j = 3 ∨ j = 4 ∨ j = 5 ∨ j = 6 ∨ j = 7) with rfl | rfl | rfl | rfl | rfl | rfl | rfl | rfl <;> rfl), by decide, fun e => by cases e⟩
end Go.Proofs.Ytcebobcakiljhaa

/-
  Contracts of the document's Option, Places and MSS of layer 8. Conditions are each theorem's own.
-/
namespace Go.Proofs.Ytcebobcakiljhaa
open Go.RowKit
set_option maxRecDepth 100000 in
set_option maxHeartbeats 2000000 in
theorem rOpt (A : Option Addr) (b : List UInt8) (c B k : Nat) (w : World) (hR : Rd w B A b) (hl : b.length ≤ 1000000) (hk : k ≤ 2000000) :
    Calls Try.prog 35 #[.slice A b.length c, .int .i64 (k : Int)] w fun e w' => e = .returned (.int .i64 (optL b k)) ∧ w = w' := by
  obtain ⟨n, hn'⟩ : ∃ n, n = b.length := ⟨_, rfl⟩
  have hn := Lib.hid hn'.symm
  have HR := Lib.hid hR
  rw [← hn'] at hl ⊢
  clear hn' hR
  go_enter Try.func35, Try.ntmps35
  by_cases h1 : n ≤ k
  · have d1 : decide (n ≤ k) = true := by simpa using h1
    have d1' : decide ((n : Int) ≤ (k : Int)) = true := by simp; omega
    have HE := Lib.hid (show optL b k = 0 by rw [optL, if_pos (by rw [hn.out]; exact h1)])
    go_wp2
    go_ret
    exact ⟨by rw [HE.out]; rfl, rfl⟩
  · have d1 : decide (n ≤ k) = false := by simpa using h1
    have d1' : decide ((n : Int) ≤ (k : Int)) = false := by simp; omega
    obtain ⟨b0, off, e, hb0, hc0⟩ := HR.out (by have := hn.out; omega)
    obtain rfl := e
    have HC := Lib.hid hc0
    clear hc0
    have kx := HC.out k (by rw [hn.out]; omega)
    have l0 := byt_lo b k; have l1 := byt_hi b k
    obtain ⟨X, hX⟩ : ∃ x, x = byt b k := ⟨_, rfl⟩
    rw [← hX] at kx l0 l1
    have HX := Lib.hid hX
    clear hX
    by_cases x1 : X ≤ 1
    · have e1 : decide (X ≤ 1) = true := by simpa using x1
      have HE := Lib.hid (show optL b k = 1 by rw [optL, if_neg (by rw [hn.out]; exact h1), if_pos (by rw [← HX.out]; exact x1)])
      go_wp2
      go_ret
      exact ⟨by rw [HE.out]; rfl, rfl⟩
    · have e1 : decide (X ≤ 1) = false := by simpa using x1
      by_cases h2 : n ≤ k + 1
      · have d2 : decide (n ≤ k + 1) = true := by simpa using h2
        have d2' : decide ((n : Int) ≤ (k : Int) + 1) = true := by simp; omega
        have HE := Lib.hid (show optL b k = 0 by rw [optL, if_neg (by rw [hn.out]; exact h1), if_neg (by rw [← HX.out]; exact x1), if_pos (.inl (by rw [hn.out]; exact h2))])
        go_wp2
        go_ret
        exact ⟨by rw [HE.out]; rfl, rfl⟩
      · have d2 : decide (n ≤ k + 1) = false := by simpa using h2
        have d2' : decide ((n : Int) ≤ (k : Int) + 1) = false := by simp; omega
        have ky := HC.out (k + 1) (by rw [hn.out]; omega)
        have m0 := byt_lo b (k + 1); have m1 := byt_hi b (k + 1)
        obtain ⟨Y, hY⟩ : ∃ y, y = byt b (k + 1) := ⟨_, rfl⟩
        rw [← hY] at ky m0 m1
        have HY := Lib.hid hY
        clear hY
        by_cases y2 : Y < 2
        · have dy : decide (Y < 2) = true := by simpa using y2
          have HE := Lib.hid (show optL b k = 0 by rw [optL, if_neg (by rw [hn.out]; exact h1), if_neg (by rw [← HX.out]; exact x1), if_pos (.inr (.inl (by rw [← HY.out]; exact y2)))])
          go_wp2
          go_ret
          exact ⟨by rw [HE.out]; rfl, rfl⟩
        · have dy : decide (Y < 2) = false := by simpa using y2
          by_cases yn : Y > (n : Int) - k
          · have dn : decide ((n : Int) - (k : Int) < Y) = true := by simpa using yn
            have HE := Lib.hid (show optL b k = 0 by rw [optL, if_neg (by rw [hn.out]; exact h1), if_neg (by rw [← HX.out]; exact x1), if_pos (.inr (.inr (by rw [← HY.out, hn.out]; exact yn)))])
            go_wp2
            go_ret
            exact ⟨by rw [HE.out]; rfl, rfl⟩
          · have dn : decide ((n : Int) - (k : Int) < Y) = false := by simp; omega
            have HE := Lib.hid (show (optL b k : Int) = Y by rw [optL, if_neg (by rw [hn.out]; exact h1), if_neg (by rw [← HX.out]; exact x1), if_neg (by rw [← HY.out, hn.out]; omega), ← HY.out]; omega)
            go_wp2
            go_ret
            exact ⟨by rw [HE.out]; rfl, rfl⟩
end Go.Proofs.Ytcebobcakiljhaa

/-
  Contract of the document's Places of layer 8. Conditions are each theorem's own.
-/
namespace Go.Proofs.Ytcebobcakiljhaa
open Go.RowKit
/-- Places as values. -/
def pv (ps : List Nat) : List Value := ps.map fun (x : Nat) => Value.int .i64 (x : Int)
theorem pv_len (ps : List Nat) : (pv ps).length = ps.length := by simp [pv]
theorem info_int : (Try.prog.info? 3).map (fun i => (i.zero, i.size, i.bytes)) = some (some (.int .i64 0), 1, 8) := by kernel_rfl
/-- append of one number onto a row of the call's own. -/
theorem append_int {w : World} {ops : Array Oper} {rest : List Oper} {o : Oper} {a : Act} {Q : Exit → Act → World → Prop} (hgd : o.guard = none) (s x : Operand)
    (ho : o.op = .call { callee := .builtin .append, args := #[s, x], argTypes := #[62, 62] })
    (base : Nat) (v : Value) (n : Nat) (ls : List Nat) (hs : a.eval s = v) (hown : w.ownsRow base 3 1 v n (pv ls))
    (g : Nat) (y : Nat) (hx : a.eval x = .slice (some ⟨g, 0, none⟩) 1 1) (hy : w.cell? ⟨g, 0, none⟩ = some (.int .i64 (y : Int)))
    (hlen : n ≤ 1000001) (hbase : base ≤ w.heap.size)
    (h : ∀ v' w', w'.ownsRow base 3 1 v' (n + 1) (pv (ls ++ [y])) → w.grownBy w' v.ownBlock → wpList Try.prog ops Q rest (a.put o.dst v') w') : wpList Try.prog ops Q (o :: rest) a w := by
  obtain ⟨i0, hi, hz0, hz1, hz2⟩ := info_parts info_int
  refine wpList_append_own w hgd s x 62 ho base 3 i0 (.int .i64 0) 1 8 Try.underlying62 hi hz0 hz1 hz2 rfl (by decide) v n (pv ls) hs hown ⟨g, 0, none⟩ 1 1 [.int .i64 (y : Int)] hx
      rfl (fun j u hu => ?_) (by intro u hu; simp only [List.mem_singleton] at hu; subst hu; rfl) (by unfold maxLen; omega) (by omega) hbase (fun v' w' h1 h2 _ => h v' w' (by simpa [pv] using h1) h2)
  have hj : j = 0 := by have := (List.getElem?_eq_some_iff.1 hu).1; simp at this; exact this
  subst hj
  simp only [List.getElem?_cons_zero, Option.some.injEq] at hu
  rw [← hu, add_off]; exact hy
set_option maxRecDepth 100000 in
set_option maxHeartbeats 2000000 in
theorem rPlaces (A : Option Addr) (b : List UInt8) (c B : Nat) (w : World) (hR : Arg w B A c b) (hB : B ≤ w.heap.size) (hl : b.length ≤ 1000000) :
    Calls Try.prog 34 #[.slice A b.length c] w fun e w' => ∃ v, e = .returned v ∧ w'.ownsRow w.heap.size 3 1 v (places b).length (pv (places b)) ∧ Below w.heap.size w w' := by
  obtain ⟨n, hn'⟩ : ∃ n, n = b.length := ⟨_, rfl⟩
  have hn := Lib.hid hn'.symm
  have HCALL : ∀ (k : Nat) (V : World), Below w.heap.size w V → k ≤ 2000000 → Calls Try.prog 35 #[.slice A n c, .int .i64 (k : Int)] V fun e w' => e = .returned (.int .i64 (optL b k)) ∧ V = w' := fun k V hV hk => by
    have := rOpt A b c B k V (hR.below (hV.mono hB)).rd hl hk
    rwa [hn.out] at this
  have HRD := Lib.hid hR.rd
  rw [← hn'] at hl ⊢
  have HPL := Lib.hid (places_len b)
  clear hn' hR
  go_enter Try.func34, Try.ntmps34
  go_wp2
  go_loopw [3, 4] (fun v i wr => ∃ (k : Nat) (pre : List Nat), k ≤ n ∧ i = .int .i64 (k : Int) ∧ Hid (places b = pre ++ rest b k) ∧ wr.ownsRow w.heap.size 3 1 v pre.length (pv pre) ∧ Below w.heap.size w wr)
    (fun _ i _ => n - (intOf i).toNat)
  case atStart => exact ⟨0, [], Nat.zero_le _, rfl, Lib.hid rfl, World.ownsRow_nil _ _ _ _, Below.refl _ _⟩
  case round =>
    obtain ⟨k, pre, hk, rfl, HP, hown, hbel⟩ := hrel
    obtain ⟨z, hz⟩ : ∃ z, z = optL b k := ⟨_, rfl⟩
    have HC1 := HCALL k wr hbel (by omega)
    rw [← hz] at HC1
    have HZ := Lib.hid hz.symm
    clear hz
    by_cases z0 : z = 0
    · subst z0
      go_wp2_with (go_at_call 35; refine HC1.mono ?_; rintro e w' ⟨rfl, rfl⟩)
      have HE := Lib.hid (show places b = pre by rw [HP.out, rest_none HZ.out, List.append_nil])
      exact bodyPost_ret (results_tmp rfl _ _ _) rfl ⟨_, rfl, by rw [HE.out]; exact hown, hbel⟩
    · have dz : decide (0 < z) = true := by simp; omega
      have dz' : decide ((0 : Int) < (z : Int)) = true := by simp; omega
      have hle := optL_le (b := b) (at_ := k) (by rw [HZ.out]; omega)
      rw [HZ.out, hn.out] at hle
      obtain ⟨b0, off, eA, hb0, hc0⟩ := HRD.out (by rw [hn.out]; omega)
      have hpl : pre.length ≤ 1000001 := by have h1 := HPL.out; rw [HP.out, List.length_append, hn.out] at h1; omega
      obtain rfl := eA
      have hb0' : b0 < w.heap.size := by omega
      have hc0' := hc0 k (by rw [hn.out]; omega)
      clear hc0
      obtain ⟨X, hX⟩ : ∃ x, x = byt b k := ⟨_, rfl⟩
      rw [← hX] at hc0'
      have HX := Lib.hid hX
      clear hX
      have hlk := hle.2
      by_cases x0 : X = 0
      · have e0 : (X == 0) = true := by simpa using x0
        have HE := Lib.hid (show places b = pre ++ [k] by rw [HP.out, rest_last (by rw [HZ.out]; omega) (by rw [← HX.out]; exact x0)])
        go_wp2_with (first | (go_at_call 35; refine HC1.mono ?_; rintro e w' ⟨rfl, rfl⟩) | (at_builtin; refine append_int rfl _ _ rfl w.heap.size _ _ pre rfl (hown.alloc _) wr.heap.size k rfl (Boxed.new wr 3 (.int .i64 (k : Int))).cell hpl (by have := hbel.size; simp; omega) ?_; intro v' w1 hown' hgrow; have hb1 : Below w.heap.size w w1 := (hbel.alloc hbel.size _).grown hgrow (by have := hbel.size; simp; omega) (own_block_ge hown); have kx1 := (hb1.cell (p := ⟨b0, off + k, none⟩) hb0').trans hc0'; have HC2 := HCALL k w1 hb1 (by omega); rw [HZ.out] at HC2; clear hown hgrow hbel) | (go_at_call 35; refine HC2.mono ?_; rintro e w' ⟨rfl, rfl⟩))
        exact bodyPost_ret (results_tmp rfl _ _ _) rfl ⟨_, rfl, by rw [HE.out, List.length_append]; exact hown', hb1⟩
      · have e0 : (X == 0) = false := by simpa using x0
        have HE := Lib.hid (show places b = (pre ++ [k]) ++ rest b (k + z) by rw [HP.out, rest_more (by rw [HZ.out]; omega) (by rw [← HX.out]; exact x0), HZ.out, List.append_assoc]; rfl)
        go_wp2_with (first | (go_at_call 35; refine HC1.mono ?_; rintro e w' ⟨rfl, rfl⟩) | (at_builtin; refine append_int rfl _ _ rfl w.heap.size _ _ pre rfl (hown.alloc _) wr.heap.size k rfl (Boxed.new wr 3 (.int .i64 (k : Int))).cell hpl (by have := hbel.size; simp; omega) ?_; intro v' w1 hown' hgrow; have hb1 : Below w.heap.size w w1 := (hbel.alloc hbel.size _).grown hgrow (by have := hbel.size; simp; omega) (own_block_ge hown); have kx1 := (hb1.cell (p := ⟨b0, off + k, none⟩) hb0').trans hc0'; have HC2 := HCALL k w1 hb1 (by omega); rw [HZ.out] at HC2; clear hown hgrow hbel) | (go_at_call 35; refine HC2.mono ?_; rintro e w' ⟨rfl, rfl⟩))
        go_roundw
        case rel => exact ⟨k + z, pre ++ [k], by omega, by simp, HE, by rw [List.length_append]; exact hown', hb1⟩
        case measure => simp [intOf]; omega
end Go.Proofs.Ytcebobcakiljhaa

/-
  Contract of the document's MSS of layer 8. Conditions are each theorem's own.
-/
namespace Go.Proofs.Ytcebobcakiljhaa
open Go.RowKit
/-- A row of places, as a slice. -/
theorem own_pv {w : World} {base : Nat} {v : Value} {ps : List Nat} (h : w.ownsRow base 3 1 v ps.length (pv ps)) :
    ∃ P c, v = .slice P ps.length c ∧ ∀ j, j < ps.length → ∃ g, P = some ⟨g, 0, none⟩ ∧ g < w.heap.size ∧ w.cell? ⟨g, j, none⟩ = some (.int .i64 ((ps.getD j 0 : Nat) : Int)) := by
  have h' := h
  rcases h'.2 with ⟨e, h0⟩ | ⟨g, cap, cur, e, _, hh, _, _⟩
  · exact ⟨none, 0, by rw [e, h0], fun j hj => by omega⟩
  · refine ⟨_, cap, e, fun j hj => ⟨g, rfl, heap_lt hh, ?_⟩⟩
    have := World.ownsRow.cells h (g := g) (by rw [e]; rfl) j (.int .i64 ((ps.getD j 0 : Nat) : Int)) (by simp [pv, hj])
    rwa [add_off, Nat.zero_add] at this
section
variable (q : PT) (A : Option Addr) (c : Nat) (A' : Option Addr) (c' : Nat) (w : World)
end
end Go.Proofs.Ytcebobcakiljhaa

/-
  Contracts of Copied: cut4's, and the document's of layer 13. Conditions are each theorem's own.
-/
namespace Go.Proofs.Ytcebobcakiljhaa
open Go.RowKit Go.Shelf
attribute [local go_sem] Oper.semAt_some

theorem cop1_cut (b : List UInt8) (a : Nat) (h : byt b a ≥ 128) : cop1 b a = (b.take (a + optL b a)).drop a := by
  rw [cop1, if_pos h, List.drop_take]; congr 1; omega
theorem cop1_no {b : List UInt8} {a : Nat} (h : ¬ byt b a ≥ 128) : cop1 b a = [] := by rw [cop1, if_neg h]
theorem rep_snoc (C : List UInt8) (j : Nat) : (C ++ List.replicate j 0) ++ [0] = C ++ List.replicate (j + 1) 0 := by
  rw [List.append_assoc, List.replicate_succ']
theorem rd_zero (w : World) : Rd (w.alloc (.cells #[.int .u8 0] 5)) (w.heap.size + 1) (some ⟨w.heap.size, 0, none⟩) [0] := by
  refine Rd.of_block (World.alloc_heap_new w _) (Nat.lt_succ_self _) 0 (fun j hj => ?_)
  have h0 : j = 0 := by simpa using hj
  subst h0; rfl
theorem places_get {b : List UInt8} {k : Nat} (h : k < (places b).length) : 0 < optL b ((places b).getD k 0) := by
  rw [List.getD_eq_getElem?_getD, List.getElem?_eq_getElem h]; exact places_mem (List.getElem_mem h)
theorem cops_step (b : List UInt8) {k : Nat} (h : k < (places b).length) : cops b ((places b).take (k + 1)) = cops b ((places b).take k) ++ cop1 b ((places b).getD k 0) := by
  have e : (places b).take (k + 1) = (places b).take k ++ [(places b).getD k 0] := by rw [List.take_add_one, List.getD_eq_getElem?_getD, List.getElem?_eq_getElem h]; rfl
  rw [e, cops_snoc]
theorem cops_take (b : List UInt8) (k : Nat) : (cops b ((places b).take k)).length ≤ b.length := cops_pre b (more := (places b).drop k) (List.take_append_drop _ _).symm
set_option maxRecDepth 100000 in
set_option maxHeartbeats 1000000 in
theorem r13copied (A : Option Addr) (b : List UInt8) (c B : Nat) (w : World) (hR : Arg w B A c b) (hB : B ≤ w.heap.size) (hl : b.length ≤ 1000000) :
    Calls Try.prog 14 #[.slice A b.length c] w fun e w' => ∃ v, e = .returned v ∧ Made w w' v (copied b) := by
  have hl1 := hl
  have hcap := hR.cap
  obtain ⟨n, hn'⟩ : ∃ n, n = b.length := ⟨_, rfl⟩
  have hn := Lib.hid hn'.symm
  have hpl := rPlaces A b c B w hR hB hl
  rw [← hn'] at hl hcap hpl ⊢
  have HZN : Hid (∀ (k : Nat) (V : World), Rd V B A b → k ≤ 2000000 → Calls Try.prog 35 #[.slice A n c, .int .i64 (k : Int)] V fun e w' => e = .returned (.int .i64 (optL b k)) ∧ V = w') := Lib.hid fun k V hV hk => by
    have := rOpt A b c B k V hV hl1 hk
    rwa [hn.out] at this
  clear hn'
  go_enter Try.func14, Try.ntmps14
  go_wp2_with (go_at_call 34; refine hpl.mono ?_; rintro e X ⟨v, rfl, hpo, hx⟩; obtain ⟨P, pc, rfl, hP⟩ := own_pv hpo)
  clear hpl hpo
  obtain ⟨m, hm⟩ : ∃ m, m = (places b).length := ⟨_, rfl⟩
  rw [← hm] at hP ⊢
  have hmm : m ≤ 1000001 := by have := places_len b; omega
  have HM := Lib.hid hm
  have HPP := Lib.hid hP
  clear hm hP
  have hBX : B ≤ X.heap.size := Nat.le_trans hB hx.size
  have hRX : Arg X B A c b := hR.below (hx.mono hB)
  go_loopw [3, 5] (fun v i wr => ∃ (vv : Value) (k : Nat), vv = v ∧ k ≤ m ∧ i = .int .i64 (k : Int) ∧ wr.ownsRow X.heap.size 5 1 v (cops b ((places b).take k)).length (row (cops b ((places b).take k))) ∧ Below X.heap.size X wr)
    (fun _ i _ => m - (intOf i).toNat)
  case atStart => exact ⟨_, 0, rfl, Nat.zero_le _, rfl, World.ownsRow_nil _ _ _ _, Below.refl _ _⟩
  case round =>
    obtain ⟨v3, k, rfl, hk, rfl, hown, hbel⟩ := hrel
    by_cases hlt : k < m
    · have dk : decide (k < m) = true := by simpa using hlt
      obtain ⟨a, ha⟩ : ∃ a, a = (places b).getD k 0 := ⟨_, rfl⟩
      have HA := Lib.hid ha
      obtain ⟨g, rfl, hgX, hcg⟩ := HPP.out k hlt
      rw [← ha] at hcg
      have hopt := places_get (b := b) (k := k) (by rw [← HM.out]; exact hlt)
      rw [← ha] at hopt
      have hle := optL_le hopt
      obtain ⟨z, hz⟩ : ∃ z, z = optL b a := ⟨_, rfl⟩
      rw [← hz] at hle hopt
      have HZ := Lib.hid hz.symm
      rw [hn.out] at hle
      clear hz ha
      obtain ⟨b0, off, eA, hb0, hc0⟩ := hRX.rd (by rw [hn.out]; omega)
      obtain rfl := eA
      have kx := (hbel.cell (p := ⟨b0, off + a, none⟩) (by show b0 < _; omega)).trans (hc0 a (by rw [hn.out]; exact hle.2))
      have kg := (hbel.cell (p := ⟨g, k, none⟩) hgX).trans hcg
      have hstep := cops_step b (k := k) (by rw [← HM.out]; exact hlt)
      rw [← HA.out] at hstep
      have hct := cops_take b k
      rw [hn.out] at hct
      obtain ⟨C, hC⟩ : ∃ C, C = cops b ((places b).take k) := ⟨_, rfl⟩
      rw [← hC] at hown hstep hct
      have HST := Lib.hid hstep
      have hla := hle.2
      have hlz := hle.1
      clear hstep hC hc0 hle
      obtain ⟨y, hy⟩ : ∃ y, y = byt b a := ⟨_, rfl⟩
      rw [← hy] at kx
      have HY := Lib.hid hy
      clear hy
      by_cases hd : y ≥ 128
      · have d1 : decide (y ≥ 128) = true := by simpa using hd
        have d2 : decide (128 ≤ y) = true := by simpa using hd
        obtain ⟨D, hD⟩ : ∃ D, D = (b.take (a + z)).drop a := ⟨_, rfl⟩
        have HDl : Hid (D.length = z) := Lib.hid (by rw [hD, List.length_drop, List.length_take]; have := hn.out; omega)
        have HDE : Hid (cop1 b a = D) := Lib.hid (by rw [hD, cop1_cut b a (by rw [← HY.out]; exact hd), HZ.out])
        have HAD : Hid (∀ V, Below X.heap.size X V → Arg V B (cutA (some ⟨b0, off, none⟩) c a) (c - a) D) := Lib.hid fun V hV => by
          have := (hRX.below (hV.mono hBX)).cut a (a + z) (by rw [hn.out]; exact hlz)
          rwa [← hD] at this
        have HRX : Hid (∀ V, Below X.heap.size X V → Rd V B (some ⟨b0, off, none⟩) b) := Lib.hid fun V hV => (hRX.below (hV.mono hBX)).rd
        have KG : Hid (∀ V, Below X.heap.size X V → V.cell? ⟨g, k, none⟩ = some (.int .i64 (a : Int))) := Lib.hid fun V hV => (hV.cell (p := ⟨g, k, none⟩) hgX).trans hcg
        clear hD
        go_upto_region 7 with fail
        refine wp_region_held_drew (S := fun w' => Below X.heap.size X w') (by kernel_rfl) hbel.drew (fun hS => ?_)
        refine held_pure (i := 0) (oi := ⟨some 22, _, _, _, _, _⟩) rfl (by kernel_rfl) (by kernel_rfl) (by kernel_rfl) (fun _ _ _ h => h) (by rfl) (v := ?_) (fun w hSw => ?_) hS (fun hS => ?_)
        rotate_left
        · go_simp; try with_reducible rfl
        try go_frame
        refine held_pure (i := 1) (oi := ⟨some 23, _, _, _, _, _⟩) rfl (by kernel_rfl) (by kernel_rfl) (by kernel_rfl) (fun _ _ _ h => h) (by rfl) (v := ?_) (fun w hSw => ?_) hS (fun hS => ?_)
        rotate_left
        · go_simp; try with_reducible rfl
        try go_frame
        refine held_pure (i := 2) (oi := ⟨some 24, _, _, _, _, _⟩) rfl (by kernel_rfl) (by kernel_rfl) (by kernel_rfl) (fun _ _ _ h => h) (by rfl) (v := ?_) (fun w hSw => ?_) hS (fun hS => ?_)
        rotate_left
        · go_simp; try with_reducible rfl
        try go_frame
        refine held_pure (i := 3) (oi := ⟨some 25, _, _, _, _, _⟩) rfl (by kernel_rfl) (by kernel_rfl) (by kernel_rfl) (fun _ _ _ h => h) (by rfl) (v := ?_) (fun w hSw => ?_) hS (fun hS => ?_)
        rotate_left
        · go_simp; try with_reducible rfl
        try go_frame
        refine held_pure (i := 4) (oi := ⟨some 26, _, _, _, _, _⟩) rfl (by kernel_rfl) (by kernel_rfl) (by kernel_rfl) (fun _ _ _ h => h) (by rfl) (v := Value.pointer (some ⟨g, k, none⟩)) (fun w hSw => by go_simp) hS (fun hS => ?_)
        try go_frame
        refine held_pure (i := 5) (oi := ⟨some 27, _, _, _, _, _⟩) rfl (by kernel_rfl) (by kernel_rfl) (by kernel_rfl) (fun _ _ _ h => h) (by rfl) (fun w hSw => run_load_int rfl rfl (KG.out _ hSw)) hS (fun hS => ?_)
        try go_frame
        refine held_pure (i := 6) (oi := ⟨some 28, _, _, _, _, _⟩) rfl (by kernel_rfl) (by kernel_rfl) (by kernel_rfl) (fun _ _ _ h => h) (by rfl) (v := ?_) (fun w hSw => ?_) hS (fun hS => ?_)
        rotate_left
        · go_simp; try with_reducible rfl
        try go_frame
        refine held_pure (i := 7) (oi := ⟨some 29, _, _, _, _, _⟩) rfl (by kernel_rfl) (by kernel_rfl) (by kernel_rfl) (fun _ _ _ h => h) (by rfl) (v := ?_) (fun w hSw => ?_) hS (fun hS => ?_)
        rotate_left
        · go_simp; try with_reducible rfl
        try go_frame
        refine held_pure (i := 8) (oi := ⟨some 30, _, _, _, _, _⟩) rfl (by kernel_rfl) (by kernel_rfl) (by kernel_rfl) (fun _ _ _ h => h) (by rfl) (v := Value.pointer (some ⟨g, k, none⟩)) (fun w hSw => by go_simp) hS (fun hS => ?_)
        try go_frame
        refine held_pure (i := 9) (oi := ⟨some 31, _, _, _, _, _⟩) rfl (by kernel_rfl) (by kernel_rfl) (by kernel_rfl) (fun _ _ _ h => h) (by rfl) (fun w hSw => run_load_int rfl rfl (KG.out _ hSw)) hS (fun hS => ?_)
        try go_frame
        refine held_pure (i := 10) (oi := ⟨some 32, _, _, _, _, _⟩) rfl (by kernel_rfl) (by kernel_rfl) (by kernel_rfl) (fun _ _ _ h => h) (by rfl) (v := ?_) (fun w hSw => ?_) hS (fun hS => ?_)
        rotate_left
        · go_simp; try with_reducible rfl
        try go_frame
        refine held_pure (i := 11) (oi := ⟨some 33, _, _, _, _, _⟩) rfl (by kernel_rfl) (by kernel_rfl) (by kernel_rfl) (fun _ _ _ h => h) (by rfl) (v := ?_) (fun w hSw => ?_) hS (fun hS => ?_)
        rotate_left
        · go_simp; try with_reducible rfl
        try go_frame
        refine held_pure (i := 12) (oi := ⟨some 34, _, _, _, _, _⟩) rfl (by kernel_rfl) (by kernel_rfl) (by kernel_rfl) (fun _ _ _ h => h) (by rfl) (v := ?_) (fun w hSw => ?_) hS (fun hS => ?_)
        rotate_left
        · go_simp; try with_reducible rfl
        try go_frame
        refine held_pure (i := 13) (oi := ⟨some 35, _, _, _, _, _⟩) rfl (by kernel_rfl) (by kernel_rfl) (by kernel_rfl) (fun _ _ _ h => h) (by rfl) (v := Value.pointer (some ⟨g, k, none⟩)) (fun w hSw => by go_simp) hS (fun hS => ?_)
        try go_frame
        refine held_pure (i := 14) (oi := ⟨some 36, _, _, _, _, _⟩) rfl (by kernel_rfl) (by kernel_rfl) (by kernel_rfl) (fun _ _ _ h => h) (by rfl) (fun w hSw => run_load_int rfl rfl (KG.out _ hSw)) hS (fun hS => ?_)
        try go_frame
        refine wpAnyH_ready (rs := [15]) (by kernel_rfl) (by simp) (AllReadyH.cons (o := ⟨some 37, _, _, _, _, _⟩) rfl (fun K hK => ?_) AllReadyH.nil)
        rw [if_pos (by rfl)]
        go_simp
        refine (HZN.out a _ (HRX.out _ hS) (by omega)).mono ?_
        rintro e u15 ⟨rfl, rfl⟩
        rw [HZ.out]
        show K _ _
        refine hK.out _ _ hS (fun hS => ?_)
        clear hK K
        try go_frame
        refine held_pure (i := 16) (oi := ⟨some 38, _, _, _, _, _⟩) rfl (by kernel_rfl) (by kernel_rfl) (by kernel_rfl) (fun _ _ _ h => h) (by rfl) (v := .int .i64 ((a : Int) + (z : Int))) (fun w hSw => by go_simp; exact IntWalk.i64_in _ (by omega)) hS (fun hS => ?_)
        try go_frame
        refine held_pure (i := 17) (oi := ⟨some 39, _, _, _, _, _⟩) rfl (by kernel_rfl) (by kernel_rfl) (by kernel_rfl) (fun _ _ _ h => h) (by rfl) (fun w hSw => run_cut_lh (l := (a : Int)) (h := (a : Int) + (z : Int)) rfl rfl rfl rfl (by omega) (by omega) (by omega) (m := D.length) (by have := HDl.out; omega)) hS (fun hS => ?_)
        try go_frame
        refine wpAnyH_ready (rs := [18]) (by kernel_rfl) (by simp) (AllReadyH.cons (o := ⟨some 40, _, _, _, _, _⟩) rfl (fun K hK => ?_) AllReadyH.nil)
        rw [if_pos (by rfl)]
        refine append_wp _ _ rfl X.heap.size _ _ _ rfl (own_below hown (Below.refl wr.heap.size wr).drew) B (cutA (some ⟨b0, off, none⟩) c a) (c - a) D rfl (fun e => by have := (HAD.out _ hS).none_ e; omega) (HAD.out _ hS).rd (by have := HDl.out; omega) hS.size ?_
        intro v8 w8 own8 grow8
        refine hK.out _ _ (hS.grown grow8 hS.size (fun k hk => own_block_ge hown k hk)) (fun hS => ?_)
        clear hK K
        try go_frame
        refine held_pure (i := 19) (oi := ⟨some 3, _, _, _, _, _⟩) rfl (by kernel_rfl) (by kernel_rfl) (by kernel_rfl) (fun _ _ _ h => h) (by rfl) (v := ?_) (fun w hSw => ?_) hS (fun hS => ?_)
        rotate_left
        · go_simp; try with_reducible rfl
        try go_frame
        refine wpAnyH_done (by kernel_rfl) ?_ _
        go_wp2_with fail
        go_roundw
        case rel => exact ⟨_, k + 1, rfl, by omega, by simp, by rw [HST.out, HDE.out, List.length_append, row_append]; exact own8, hS⟩
        case measure => simp [intOf]; omega
      · have d1 : decide (y ≥ 128) = false := by simpa using hd
        have d2 : decide (128 ≤ y) = false := by simpa using hd
        have HE := Lib.hid (cop1_no (b := b) (a := a) (by rw [← HY.out]; exact hd))
        go_wp2_with fail
        go_roundw
        case rel => exact ⟨_, k + 1, rfl, by omega, by simp, by rw [HST.out, HE.out, List.append_nil]; exact hown, hbel⟩
        case measure => simp [intOf]; omega
    · obtain rfl : k = m := by omega
      have HT := Lib.hid (show cops b ((places b).take k) = cops b (places b) by rw [HM.out, List.take_length])
      rw [HT.out] at hown
      go_wp2_with fail
      have hcl := cops_le b
      have HCO : Hid (copied b = cops b (places b) ++ List.replicate (padN (cops b (places b)).length) 0) := Lib.hid rfl
      obtain ⟨C, hC⟩ : ∃ C, C = cops b (places b) := ⟨_, rfl⟩
      rw [← hC, hn.out] at hcl
      rw [← hC] at hown HCO
      clear hC HT
      obtain ⟨N, hN⟩ : ∃ N, N = C.length := ⟨_, rfl⟩
      rw [← hN] at hown HCO hcl
      have HN := Lib.hid hN
      obtain ⟨p, hp⟩ : ∃ p, p = padN N := ⟨_, rfl⟩
      have hpm := padN_mod N
      rw [← hp] at hpm HCO
      have hp4 := hpm.2
      have HPM : Hid (∀ j, j ≤ p → ((N + j) % 4 = 0 ↔ j = p)) := Lib.hid fun j hj => by have := hpm.1; omega
      clear hN hp hpm
      go_loopw [3] (fun v wr => ∃ (vv : Value) (j L : Nat), vv = v ∧ j ≤ p ∧ Hid (L = N + j) ∧ L ≤ n + 4 ∧ wr.ownsRow X.heap.size 5 1 v L (row (C ++ List.replicate j 0)) ∧ Below X.heap.size X wr)
        (fun v _ => match v with | .slice _ L _ => N + p - L | _ => 0)
      case atStart => exact ⟨_, 0, N, rfl, Nat.zero_le _, Lib.hid rfl, by omega, by simpa using hown, hbel⟩
      case round =>
        obtain ⟨v3, j, L, rfl, hj, HL, hL4, hown, hbel⟩ := hrel
        obtain ⟨A3, c3, rfl⟩ : ∃ A3 c3, v3 = .slice A3 L c3 := by
          rcases hown.2 with ⟨e, h0⟩ | ⟨g, cap, cur, e, _⟩
          · exact ⟨none, 0, by rw [e, h0]⟩
          · exact ⟨_, cap, e⟩
        by_cases hjp : j = p
        · have hm : L % 4 = 0 := by have := HL.out; have := (HPM.out j hj).2 hjp; omega
          have e1 : ((L : Int) % 4 != 0) = false := by simp; omega
          go_wp2_with fail
          go_ret
          refine ⟨_, rfl, Made.of_own (own_base (by rw [HCO.out, List.length_append, List.length_replicate, ← HN.out, ← hjp, ← HL.out]; exact hown) hx.size) (hx.trans (hbel.mono hx.size))⟩
        · have hm : L % 4 ≠ 0 := by have := HL.out; have := HPM.out j hj; omega
          have e1 : ((L : Int) % 4 != 0) = true := by simp; omega
          go_wp2_with (at_builtin; refine append_rd rfl _ _ rfl X.heap.size _ _ _ rfl (hown.alloc _) (wr.heap.size + 1) (some ⟨wr.heap.size, 0, none⟩) 1 [0] rfl (fun e => by cases e) (rd_zero wr) (by simp; omega) (by have := hbel.size; simp; omega) ?_; intro v' w1 hown' hgrow)
          go_roundw
          case rel => exact ⟨_, j + 1, L + 1, rfl, by omega, Lib.hid (by have := HL.out; omega), by have := HL.out; omega, by rw [← rep_snoc, row_append]; exact hown', (hbel.alloc hbel.size _).grown hgrow (by have := hbel.size; simp; omega) (own_block_ge hown)⟩
          case measure =>
            obtain ⟨g', cap', e'⟩ := ownsRow_succ hown'
            subst e'
            simp; have := HL.out; omega
end Go.Proofs.Ytcebobcakiljhaa
