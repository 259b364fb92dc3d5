/-
  Contracts and lemmas on which the proofs of this seat stand (several texts in one). Conditions are each theorem's own.
-/
import Derived.Test.YtcebobcakiljhaaMa7
import Derived.Test.YtcebobcakiljhaaMa4
import Derived.Test.YtcebobcakiljhaaMa3
import Derived.Test.YtcebobcakiljhaaMa6
import Derived.Test.YtcebobcakiljhaaMa2
import Derived.OrdersHeld
import Derived.OrdersIn
import Derived.TacticsIn
import Derived.OwnWalkIn
import Derived.Maps.RangeWalk
import Derived.RangeFuncSeq

/-
  Contract of tcp.MSS. Conditions are each theorem's own.
-/
namespace Go.Proofs.Ytcebobcakiljhaa
open Go.RowKit Go.Shelf
attribute [local go_sem] Oper.semAt_some
theorem byt_take (b : List UInt8) {n j : Nat} (h : j < n) : byt (b.take n) j = byt b j := by simp [byt, h]
theorem loadv_int {w : World} {g : Nat} {v : Value} (h : Boxed w g 3 v) : (loadVar 3 ⟨g, 0, none⟩).run Try.prog w = .ok v w := by
  have hagg : (isAgg 3).run Try.prog w = .ok false w := by
    unfold isAgg
    rw [Sem.run_bind, run_underlying Try.underlying3 w]; rfl
  have hc := h.cell
  simp [loadVar, Sem.run_bind, hagg, hc]
theorem loadv_bool {w : World} {g : Nat} {v : Value} (h : Boxed w g 4 v) : (loadVar 4 ⟨g, 0, none⟩).run Try.prog w = .ok v w := by
  have hagg : (isAgg 4).run Try.prog w = .ok false w := by
    unfold isAgg
    rw [Sem.run_bind, run_underlying Try.underlying4 w]; rfl
  have hc := h.cell
  simp [loadVar, Sem.run_bind, hagg, hc]
theorem cells3 {fn : Func} {p q r : Tmp} {tmps : Array Value} {w : World} {g : Nat} {x y z : Value} (h : fn.results = #[.cell p 3, .cell q 3, .cell r 4])
    (hp : tmps.getD p undef = .pointer (some ⟨g, 0, none⟩)) (hq : tmps.getD q undef = .pointer (some ⟨g + 1, 0, none⟩)) (hr : tmps.getD r undef = .pointer (some ⟨g + 1 + 1, 0, none⟩))
    (h0 : Boxed w g 3 x) (h1 : Boxed w (g + 1) 3 y) (h2 : Boxed w (g + 1 + 1) 4 z) :
    (results fn tmps).run Try.prog w = .ok (.tuple #[x, y, z]) w := by
  have hp' : tmps[p]?.getD undef = .pointer (some ⟨g, 0, none⟩) := by simpa using hp
  have hq' : tmps[q]?.getD undef = .pointer (some ⟨g + 1, 0, none⟩) := by simpa using hq
  have hr' : tmps[r]?.getD undef = .pointer (some ⟨g + 1 + 1, 0, none⟩) := by simpa using hr
  simp [results, h, hp', hq', hr', asAddr, loadv_int h0, loadv_int h1, loadv_bool h2]
/-- Three results in blocks of their own, in a row. -/
structure Three (W : World) (g : Nat) (x y : Int) (z : Bool) : Prop where
  one : Boxed W g 3 (.int .i64 x)
  two : Boxed W (g + 1) 3 (.int .i64 y)
  three : Boxed W (g + 1 + 1) 4 (.bool z)
theorem Three.below {W V : World} {g n : Nat} {x y : Int} {z : Bool} (h : Three W g x y z) (hb : Below n W V) (hn : g + 1 + 1 < n) : Three V g x y z :=
  ⟨Boxed.below h.one hb (by omega), Boxed.below h.two hb (by omega), Boxed.below h.three hb hn⟩
theorem Three.kept {W V : World} {g n : Nat} {x y : Int} {z : Bool} {r : Option Nat} (h : Three W g x y z) (hg : W.grownBy V r) (hr : ∀ k, r = some k → n ≤ k ∧ ∃ o : Obj, W.heap[k]? = some o ∧ o.isCells = false) : Three V g x y z :=
  ⟨box_keep h.one hg hr, box_keep h.two hg hr, box_keep h.three hg hr⟩
theorem Three.set {W : World} {g : Nat} {x y : Int} {z : Bool} (h : Three W g x y z) (x' y' : Int) (z' : Bool) :
    Three (((W.setCell ⟨g, 0, none⟩ (.int .i64 x')).setCell ⟨g + 1, 0, none⟩ (.int .i64 y')).setCell ⟨g + 1 + 1, 0, none⟩ (.bool z')) g x' y' z' :=
  ⟨(((Boxed.set _ h.one).other (by omega) _).other (by omega) _), ((Boxed.set _ (h.two.other (by omega) _)).other (by omega) _), Boxed.set _ ((h.three.other (by omega) _).other (by omega) _)⟩
theorem find_split {α : Type} {p : α → Bool} {l pre more : List α} (h : l = pre ++ more) (hn : ∀ x ∈ pre, p x = false) : l.find? p = more.find? p := by
  subst h
  rw [List.find?_append, List.find?_eq_none.2 (fun x hx => by simp [hn x hx]), Option.none_or]
section
variable (q : PT) (A A' : Option Addr) (c c' : Nat) (w : World)
end
end Go.Proofs.Ytcebobcakiljhaa

/-
  Layer 8's awake, and what Build answers, in one shape. Conditions are each theorem's own.
-/
namespace Go.Proofs.Ytcebobcakiljhaa
open Go.RowKit

def resT (src dst : Int) (q : PT) : List UInt8 := if chkT q = 0 then bldT src dst q else []
theorem resT_shape {src dst : Int} {q : PT} {w w' : World} {v : Value} (h : (chkT q ≠ 0 → v = .slice none 0 0 ∧ Below w.heap.size w w') ∧ (chkT q = 0 → Made w w' v (bldT src dst q))) :
    ∃ P k, v = .slice P (resT src dst q).length k ∧ Rd w' w'.heap.size P (resT src dst q) ∧ Below w.heap.size w w' := by
  by_cases hc : chkT q = 0
  · obtain ⟨A, c, rfl, hl, hr, ho, hb⟩ := h.2 hc
    exact ⟨A, c, by rw [resT, if_pos hc], by rw [resT, if_pos hc]; exact hr, hb⟩
  · obtain ⟨rfl, hb⟩ := h.1 hc
    exact ⟨none, 0, by rw [resT, if_neg hc]; rfl, by rw [resT, if_neg hc]; exact Rd.nil, hb⟩
def qaT : PT := ⟨1, 2, 0, 0, 0, 0, 0, 0, [1, 2, 4, 5, 180, 1, 1, 1], []⟩
theorem argA {B g : Nat} {w : World} (hg : w.heap[g]? = some (.cells #[.int .u8 1, .int .u8 2, .int .u8 4, .int .u8 5, .int .u8 180, .int .u8 1, .int .u8 1, .int .u8 1] 5 (0, 0))) (hB : g < B) : Arg w B (some ⟨g, 0, none⟩) 8 qaT.opt :=
  ⟨Rd.of_block hg hB 0 (fun j hj => by
    have hj : j < 8 := hj
    rcases (by omega : j = 0 ∨ j = 1 ∨ j = 2 ∨ j = 3 ∨ j = 4 ∨ j = 5 ∨ j = 6 ∨ j = 7) with rfl | rfl | rfl | rfl | rfl | rfl | rfl | rfl <;> rfl), by decide, fun e => by cases e⟩
end Go.Proofs.Ytcebobcakiljhaa

/-
  Contracts of the document's Option, Places and MSS of layer 8. Conditions are each theorem's own.
-/
namespace Go.Proofs.Ytcebobcakiljhaa
open Go.RowKit
set_option maxRecDepth 100000 in
set_option maxHeartbeats 2000000 in
theorem rOpt (A : Option Addr) (b : List UInt8) (c B k : Nat) (w : World) (hR : Rd w B A b) (hl : b.length ≤ 1000000) (hk : k ≤ 2000000) :
    Calls Try.prog 35 #[.slice A b.length c, .int .i64 (k : Int)] w fun e w' => e = .returned (.int .i64 (optL b k)) ∧ w = w' := by
  obtain ⟨n, hn'⟩ : ∃ n, n = b.length := ⟨_, rfl⟩
  have hn := Lib.hid hn'.symm
  have HR := Lib.hid hR
  rw [← hn'] at hl ⊢
  clear hn' hR
  go_enter Try.func35, Try.ntmps35
  by_cases h1 : n ≤ k
  · have d1 : decide (n ≤ k) = true := by simpa using h1
    have d1' : decide ((n : Int) ≤ (k : Int)) = true := by simp; omega
    have HE := Lib.hid (show optL b k = 0 by rw [optL, if_pos (by rw [hn.out]; exact h1)])
    go_wp2
    go_ret
    exact ⟨by rw [HE.out]; rfl, rfl⟩
  · have d1 : decide (n ≤ k) = false := by simpa using h1
    have d1' : decide ((n : Int) ≤ (k : Int)) = false := by simp; omega
    obtain ⟨b0, off, e, hb0, hc0⟩ := HR.out (by have := hn.out; omega)
    obtain rfl := e
    have HC := Lib.hid hc0
    clear hc0
    have kx := HC.out k (by rw [hn.out]; omega)
    have l0 := byt_lo b k; have l1 := byt_hi b k
    obtain ⟨X, hX⟩ : ∃ x, x = byt b k := ⟨_, rfl⟩
    rw [← hX] at kx l0 l1
    have HX := Lib.hid hX
    clear hX
    by_cases x1 : X ≤ 1
    · have e1 : decide (X ≤ 1) = true := by simpa using x1
      have HE := Lib.hid (show optL b k = 1 by rw [optL, if_neg (by rw [hn.out]; exact h1), if_pos (by rw [← HX.out]; exact x1)])
      go_wp2
      go_ret
      exact ⟨by rw [HE.out]; rfl, rfl⟩
    · have e1 : decide (X ≤ 1) = false := by simpa using x1
      by_cases h2 : n ≤ k + 1
      · have d2 : decide (n ≤ k + 1) = true := by simpa using h2
        have d2' : decide ((n : Int) ≤ (k : Int) + 1) = true := by simp; omega
        have HE := Lib.hid (show optL b k = 0 by rw [optL, if_neg (by rw [hn.out]; exact h1), if_neg (by rw [← HX.out]; exact x1), if_pos (.inl (by rw [hn.out]; exact h2))])
        go_wp2
        go_ret
        exact ⟨by rw [HE.out]; rfl, rfl⟩
      · have d2 : decide (n ≤ k + 1) = false := by simpa using h2
        have d2' : decide ((n : Int) ≤ (k : Int) + 1) = false := by simp; omega
        have ky := HC.out (k + 1) (by rw [hn.out]; omega)
        have m0 := byt_lo b (k + 1); have m1 := byt_hi b (k + 1)
        obtain ⟨Y, hY⟩ : ∃ y, y = byt b (k + 1) := ⟨_, rfl⟩
        rw [← hY] at ky m0 m1
        have HY := Lib.hid hY
        clear hY
        by_cases y2 : Y < 2
        · have dy : decide (Y < 2) = true := by simpa using y2
          have HE := Lib.hid (show optL b k = 0 by rw [optL, if_neg (by rw [hn.out]; exact h1), if_neg (by rw [← HX.out]; exact x1), if_pos (.inr (.inl (by rw [← HY.out]; exact y2)))])
          go_wp2
          go_ret
          exact ⟨by rw [HE.out]; rfl, rfl⟩
        · have dy : decide (Y < 2) = false := by simpa using y2
          by_cases yn : Y > (n : Int) - k
          · have dn : decide ((n : Int) - (k : Int) < Y) = true := by simpa using yn
            have HE := Lib.hid (show optL b k = 0 by rw [optL, if_neg (by rw [hn.out]; exact h1), if_neg (by rw [← HX.out]; exact x1), if_pos (.inr (.inr (by rw [← HY.out, hn.out]; exact yn)))])
            go_wp2
            go_ret
            exact ⟨by rw [HE.out]; rfl, rfl⟩
          · have dn : decide ((n : Int) - (k : Int) < Y) = false := by simp; omega
            have HE := Lib.hid (show (optL b k : Int) = Y by rw [optL, if_neg (by rw [hn.out]; exact h1), if_neg (by rw [← HX.out]; exact x1), if_neg (by rw [← HY.out, hn.out]; omega), ← HY.out]; omega)
            go_wp2
            go_ret
            exact ⟨by rw [HE.out]; rfl, rfl⟩
end Go.Proofs.Ytcebobcakiljhaa

/-
  Contract of the document's Places of layer 8. Conditions are each theorem's own.
-/
namespace Go.Proofs.Ytcebobcakiljhaa
open Go.RowKit
/-- Places as values. -/
def pv (ps : List Nat) : List Value := ps.map fun (x : Nat) => Value.int .i64 (x : Int)
theorem pv_len (ps : List Nat) : (pv ps).length = ps.length := by simp [pv]
theorem info_int : (Try.prog.info? 3).map (fun i => (i.zero, i.size, i.bytes)) = some (some (.int .i64 0), 1, 8) := by kernel_rfl
/-- append of one number onto a row of the call's own. -/
theorem append_int {w : World} {ops : Array Oper} {rest : List Oper} {o : Oper} {a : Act} {Q : Exit → Act → World → Prop} (hgd : o.guard = none) (s x : Operand)
    (ho : o.op = .call { callee := .builtin .append, args := #[s, x], argTypes := #[62, 62] })
    (base : Nat) (v : Value) (n : Nat) (ls : List Nat) (hs : a.eval s = v) (hown : w.ownsRow base 3 1 v n (pv ls))
    (g : Nat) (y : Nat) (hx : a.eval x = .slice (some ⟨g, 0, none⟩) 1 1) (hy : w.cell? ⟨g, 0, none⟩ = some (.int .i64 (y : Int)))
    (hlen : n ≤ 1000001) (hbase : base ≤ w.heap.size)
    (h : ∀ v' w', w'.ownsRow base 3 1 v' (n + 1) (pv (ls ++ [y])) → w.grownBy w' v.ownBlock → wpList Try.prog ops Q rest (a.put o.dst v') w') : wpList Try.prog ops Q (o :: rest) a w := by
  obtain ⟨i0, hi, hz0, hz1, hz2⟩ := info_parts info_int
  refine wpList_append_own w hgd s x 62 ho base 3 i0 (.int .i64 0) 1 8 Try.underlying62 hi hz0 hz1 hz2 rfl (by decide) v n (pv ls) hs hown ⟨g, 0, none⟩ 1 1 [.int .i64 (y : Int)] hx
      rfl (fun j u hu => ?_) (by intro u hu; simp only [List.mem_singleton] at hu; subst hu; rfl) (by unfold maxLen; omega) (by omega) hbase (fun v' w' h1 h2 _ => h v' w' (by simpa [pv] using h1) h2)
  have hj : j = 0 := by have := (List.getElem?_eq_some_iff.1 hu).1; simp at this; exact this
  subst hj
  simp only [List.getElem?_cons_zero, Option.some.injEq] at hu
  rw [← hu, add_off]; exact hy
set_option maxRecDepth 100000 in
set_option maxHeartbeats 2000000 in
theorem rPlaces (A : Option Addr) (b : List UInt8) (c B : Nat) (w : World) (hR : Arg w B A c b) (hB : B ≤ w.heap.size) (hl : b.length ≤ 1000000) :
    Calls Try.prog 34 #[.slice A b.length c] w fun e w' => ∃ v, e = .returned v ∧ w'.ownsRow w.heap.size 3 1 v (places b).length (pv (places b)) ∧ Below w.heap.size w w' := by
  obtain ⟨n, hn'⟩ : ∃ n, n = b.length := ⟨_, rfl⟩
  have hn := Lib.hid hn'.symm
  have HCALL : ∀ (k : Nat) (V : World), Below w.heap.size w V → k ≤ 2000000 → Calls Try.prog 35 #[.slice A n c, .int .i64 (k : Int)] V fun e w' => e = .returned (.int .i64 (optL b k)) ∧ V = w' := fun k V hV hk => by
    have := rOpt A b c B k V (hR.below (hV.mono hB)).rd hl hk
    rwa [hn.out] at this
  have HRD := Lib.hid hR.rd
  rw [← hn'] at hl ⊢
  have HPL := Lib.hid (places_len b)
  clear hn' hR
  go_enter Try.func34, Try.ntmps34
  go_wp2
  go_loopw [3, 4] (fun v i wr => ∃ (k : Nat) (pre : List Nat), k ≤ n ∧ i = .int .i64 (k : Int) ∧ Hid (places b = pre ++ rest b k) ∧ wr.ownsRow w.heap.size 3 1 v pre.length (pv pre) ∧ Below w.heap.size w wr)
    (fun _ i _ => n - (intOf i).toNat)
  case atStart => exact ⟨0, [], Nat.zero_le _, rfl, Lib.hid rfl, World.ownsRow_nil _ _ _ _, Below.refl _ _⟩
  case round =>
    obtain ⟨k, pre, hk, rfl, HP, hown, hbel⟩ := hrel
    obtain ⟨z, hz⟩ : ∃ z, z = optL b k := ⟨_, rfl⟩
    have HC1 := HCALL k wr hbel (by omega)
    rw [← hz] at HC1
    have HZ := Lib.hid hz.symm
    clear hz
    by_cases z0 : z = 0
    · subst z0
      go_wp2_with (go_at_call 35; refine HC1.mono ?_; rintro e w' ⟨rfl, rfl⟩)
      have HE := Lib.hid (show places b = pre by rw [HP.out, rest_none HZ.out, List.append_nil])
      exact bodyPost_ret (results_tmp rfl _ _ _) rfl ⟨_, rfl, by rw [HE.out]; exact hown, hbel⟩
    · have dz : decide (0 < z) = true := by simp; omega
      have dz' : decide ((0 : Int) < (z : Int)) = true := by simp; omega
      have hle := optL_le (b := b) (at_ := k) (by rw [HZ.out]; omega)
      rw [HZ.out, hn.out] at hle
      obtain ⟨b0, off, eA, hb0, hc0⟩ := HRD.out (by rw [hn.out]; omega)
      have hpl : pre.length ≤ 1000001 := by have h1 := HPL.out; rw [HP.out, List.length_append, hn.out] at h1; omega
      obtain rfl := eA
      have hb0' : b0 < w.heap.size := by omega
      have hc0' := hc0 k (by rw [hn.out]; omega)
      clear hc0
      obtain ⟨X, hX⟩ : ∃ x, x = byt b k := ⟨_, rfl⟩
      rw [← hX] at hc0'
      have HX := Lib.hid hX
      clear hX
      have hlk := hle.2
      by_cases x0 : X = 0
      · have e0 : (X == 0) = true := by simpa using x0
        have HE := Lib.hid (show places b = pre ++ [k] by rw [HP.out, rest_last (by rw [HZ.out]; omega) (by rw [← HX.out]; exact x0)])
        go_wp2_with (first | (go_at_call 35; refine HC1.mono ?_; rintro e w' ⟨rfl, rfl⟩) | (at_builtin; refine append_int rfl _ _ rfl w.heap.size _ _ pre rfl (hown.alloc _) wr.heap.size k rfl (Boxed.new wr 3 (.int .i64 (k : Int))).cell hpl (by have := hbel.size; simp; omega) ?_; intro v' w1 hown' hgrow; have hb1 : Below w.heap.size w w1 := (hbel.alloc hbel.size _).grown hgrow (by have := hbel.size; simp; omega) (own_block_ge hown); have kx1 := (hb1.cell (p := ⟨b0, off + k, none⟩) hb0').trans hc0'; have HC2 := HCALL k w1 hb1 (by omega); rw [HZ.out] at HC2; clear hown hgrow hbel) | (go_at_call 35; refine HC2.mono ?_; rintro e w' ⟨rfl, rfl⟩))
        exact bodyPost_ret (results_tmp rfl _ _ _) rfl ⟨_, rfl, by rw [HE.out, List.length_append]; exact hown', hb1⟩
      · have e0 : (X == 0) = false := by simpa using x0
        have HE := Lib.hid (show places b = (pre ++ [k]) ++ rest b (k + z) by rw [HP.out, rest_more (by rw [HZ.out]; omega) (by rw [← HX.out]; exact x0), HZ.out, List.append_assoc]; rfl)
        go_wp2_with (first | (go_at_call 35; refine HC1.mono ?_; rintro e w' ⟨rfl, rfl⟩) | (at_builtin; refine append_int rfl _ _ rfl w.heap.size _ _ pre rfl (hown.alloc _) wr.heap.size k rfl (Boxed.new wr 3 (.int .i64 (k : Int))).cell hpl (by have := hbel.size; simp; omega) ?_; intro v' w1 hown' hgrow; have hb1 : Below w.heap.size w w1 := (hbel.alloc hbel.size _).grown hgrow (by have := hbel.size; simp; omega) (own_block_ge hown); have kx1 := (hb1.cell (p := ⟨b0, off + k, none⟩) hb0').trans hc0'; have HC2 := HCALL k w1 hb1 (by omega); rw [HZ.out] at HC2; clear hown hgrow hbel) | (go_at_call 35; refine HC2.mono ?_; rintro e w' ⟨rfl, rfl⟩))
        go_roundw
        case rel => exact ⟨k + z, pre ++ [k], by omega, by simp, HE, by rw [List.length_append]; exact hown', hb1⟩
        case measure => simp [intOf]; omega
end Go.Proofs.Ytcebobcakiljhaa

/-
  Contract of the document's MSS of layer 8. Conditions are each theorem's own.
-/
namespace Go.Proofs.Ytcebobcakiljhaa
open Go.RowKit
/-- A row of places, as a slice. -/
theorem own_pv {w : World} {base : Nat} {v : Value} {ps : List Nat} (h : w.ownsRow base 3 1 v ps.length (pv ps)) :
    ∃ P c, v = .slice P ps.length c ∧ ∀ j, j < ps.length → ∃ g, P = some ⟨g, 0, none⟩ ∧ g < w.heap.size ∧ w.cell? ⟨g, j, none⟩ = some (.int .i64 ((ps.getD j 0 : Nat) : Int)) := by
  have h' := h
  rcases h'.2 with ⟨e, h0⟩ | ⟨g, cap, cur, e, _, hh, _, _⟩
  · exact ⟨none, 0, by rw [e, h0], fun j hj => by omega⟩
  · refine ⟨_, cap, e, fun j hj => ⟨g, rfl, heap_lt hh, ?_⟩⟩
    have := World.ownsRow.cells h (g := g) (by rw [e]; rfl) j (.int .i64 ((ps.getD j 0 : Nat) : Int)) (by simp [pv, hj])
    rwa [add_off, Nat.zero_add] at this
section
variable (q : PT) (A : Option Addr) (c : Nat) (A' : Option Addr) (c' : Nat) (w : World)
end
end Go.Proofs.Ytcebobcakiljhaa

/-
  Contracts of Copied: cut4's, and the document's of layer 13. Conditions are each theorem's own.
-/
namespace Go.Proofs.Ytcebobcakiljhaa
open Go.RowKit Go.Shelf
attribute [local go_sem] Oper.semAt_some

theorem cop1_cut (b : List UInt8) (a : Nat) (h : byt b a ≥ 128) : cop1 b a = (b.take (a + optL b a)).drop a := by
  rw [cop1, if_pos h, List.drop_take]; congr 1; omega
theorem cop1_no {b : List UInt8} {a : Nat} (h : ¬ byt b a ≥ 128) : cop1 b a = [] := by rw [cop1, if_neg h]
theorem rep_snoc (C : List UInt8) (j : Nat) : (C ++ List.replicate j 0) ++ [0] = C ++ List.replicate (j + 1) 0 := by
  rw [List.append_assoc, List.replicate_succ']
theorem rd_zero (w : World) : Rd (w.alloc (.cells #[.int .u8 0] 5)) (w.heap.size + 1) (some ⟨w.heap.size, 0, none⟩) [0] := by
  refine Rd.of_block (World.alloc_heap_new w _) (Nat.lt_succ_self _) 0 (fun j hj => ?_)
  have h0 : j = 0 := by simpa using hj
  subst h0; rfl
theorem places_get {b : List UInt8} {k : Nat} (h : k < (places b).length) : 0 < optL b ((places b).getD k 0) := by
  rw [List.getD_eq_getElem?_getD, List.getElem?_eq_getElem h]; exact places_mem (List.getElem_mem h)
theorem cops_step (b : List UInt8) {k : Nat} (h : k < (places b).length) : cops b ((places b).take (k + 1)) = cops b ((places b).take k) ++ cop1 b ((places b).getD k 0) := by
  have e : (places b).take (k + 1) = (places b).take k ++ [(places b).getD k 0] := by rw [List.take_add_one, List.getD_eq_getElem?_getD, List.getElem?_eq_getElem h]; rfl
  rw [e, cops_snoc]
theorem cops_take (b : List UInt8) (k : Nat) : (cops b ((places b).take k)).length ≤ b.length := cops_pre b (more := (places b).drop k) (List.take_append_drop _ _).symm
set_option maxRecDepth 100000 in
set_option maxHeartbeats 1000000 in
theorem r13copied (A : Option Addr) (b : List UInt8) (c B : Nat) (w : World) (hR : Arg w B A c b) (hB : B ≤ w.heap.size) (hl : b.length ≤ 1000000) :
    Calls Try.prog 14 #[.slice A b.length c] w fun e w' => ∃ v, e = .returned v ∧ Made w w' v (copied b) := by
  have hl1 := hl
  have hcap := hR.cap
  obtain ⟨n, hn'⟩ : ∃ n, n = b.length := ⟨_, rfl⟩
  have hn := Lib.hid hn'.symm
  have hpl := rPlaces A b c B w hR hB hl
  rw [← hn'] at hl hcap hpl ⊢
  have HZN : Hid (∀ (k : Nat) (V : World), Rd V B A b → k ≤ 2000000 → Calls Try.prog 35 #[.slice A n c, .int .i64 (k : Int)] V fun e w' => e = .returned (.int .i64 (optL b k)) ∧ V = w') := Lib.hid fun k V hV hk => by
    have := rOpt A b c B k V hV hl1 hk
    rwa [hn.out] at this
  clear hn'
  go_enter Try.func14, Try.ntmps14
  go_wp2_with (go_at_call 34; refine hpl.mono ?_; rintro e X ⟨v, rfl, hpo, hx⟩; obtain ⟨P, pc, rfl, hP⟩ := own_pv hpo)
  clear hpl hpo
  obtain ⟨m, hm⟩ : ∃ m, m = (places b).length := ⟨_, rfl⟩
  rw [← hm] at hP ⊢
  have hmm : m ≤ 1000001 := by have := places_len b; omega
  have HM := Lib.hid hm
  have HPP := Lib.hid hP
  clear hm hP
  have hBX : B ≤ X.heap.size := Nat.le_trans hB hx.size
  have hRX : Arg X B A c b := hR.below (hx.mono hB)
  go_loopw [3, 5] (fun v i wr => ∃ (vv : Value) (k : Nat), vv = v ∧ k ≤ m ∧ i = .int .i64 (k : Int) ∧ wr.ownsRow X.heap.size 5 1 v (cops b ((places b).take k)).length (row (cops b ((places b).take k))) ∧ Below X.heap.size X wr)
    (fun _ i _ => m - (intOf i).toNat)
  case atStart => exact ⟨_, 0, rfl, Nat.zero_le _, rfl, World.ownsRow_nil _ _ _ _, Below.refl _ _⟩
  case round =>
    obtain ⟨v3, k, rfl, hk, rfl, hown, hbel⟩ := hrel
    by_cases hlt : k < m
    · have dk : decide (k < m) = true := by simpa using hlt
      obtain ⟨a, ha⟩ : ∃ a, a = (places b).getD k 0 := ⟨_, rfl⟩
      have HA := Lib.hid ha
      obtain ⟨g, rfl, hgX, hcg⟩ := HPP.out k hlt
      rw [← ha] at hcg
      have hopt := places_get (b := b) (k := k) (by rw [← HM.out]; exact hlt)
      rw [← ha] at hopt
      have hle := optL_le hopt
      obtain ⟨z, hz⟩ : ∃ z, z = optL b a := ⟨_, rfl⟩
      rw [← hz] at hle hopt
      have HZ := Lib.hid hz.symm
      rw [hn.out] at hle
      clear hz ha
      obtain ⟨b0, off, eA, hb0, hc0⟩ := hRX.rd (by rw [hn.out]; omega)
      obtain rfl := eA
      have kx := (hbel.cell (p := ⟨b0, off + a, none⟩) (by show b0 < _; omega)).trans (hc0 a (by rw [hn.out]; exact hle.2))
      have kg := (hbel.cell (p := ⟨g, k, none⟩) hgX).trans hcg
      have hstep := cops_step b (k := k) (by rw [← HM.out]; exact hlt)
      rw [← HA.out] at hstep
      have hct := cops_take b k
      rw [hn.out] at hct
      obtain ⟨C, hC⟩ : ∃ C, C = cops b ((places b).take k) := ⟨_, rfl⟩
      rw [← hC] at hown hstep hct
      have HST := Lib.hid hstep
      have hla := hle.2
      have hlz := hle.1
      clear hstep hC hc0 hle
      obtain ⟨y, hy⟩ : ∃ y, y = byt b a := ⟨_, rfl⟩
      rw [← hy] at kx
      have HY := Lib.hid hy
      clear hy
      by_cases hd : y ≥ 128
      · have d1 : decide (y ≥ 128) = true := by simpa using hd
        have d2 : decide (128 ≤ y) = true := by simpa using hd
        obtain ⟨D, hD⟩ : ∃ D, D = (b.take (a + z)).drop a := ⟨_, rfl⟩
        have HDl : Hid (D.length = z) := Lib.hid (by rw [hD, List.length_drop, List.length_take]; have := hn.out; omega)
        have HDE : Hid (cop1 b a = D) := Lib.hid (by rw [hD, cop1_cut b a (by rw [← HY.out]; exact hd), HZ.out])
        have HAD : Hid (∀ V, Below X.heap.size X V → Arg V B (cutA (some ⟨b0, off, none⟩) c a) (c - a) D) := Lib.hid fun V hV => by
          have := (hRX.below (hV.mono hBX)).cut a (a + z) (by rw [hn.out]; exact hlz)
          rwa [← hD] at this
        have HRX : Hid (∀ V, Below X.heap.size X V → Rd V B (some ⟨b0, off, none⟩) b) := Lib.hid fun V hV => (hRX.below (hV.mono hBX)).rd
        have KG : Hid (∀ V, Below X.heap.size X V → V.cell? ⟨g, k, none⟩ = some (.int .i64 (a : Int))) := Lib.hid fun V hV => (hV.cell (p := ⟨g, k, none⟩) hgX).trans hcg
        clear hD
        go_upto_region 7 with fail
        refine wp_region_held_drew (S := fun w' => Below X.heap.size X w') (by kernel_rfl) hbel.drew (fun hS => ?_)
        refine held_pure (i := 0) (oi := ⟨some 22, _, _, _, _, _⟩) rfl (by kernel_rfl) (by kernel_rfl) (by kernel_rfl) (fun _ _ _ h => h) (by rfl) (v := ?_) (fun w hSw => ?_) hS (fun hS => ?_)
        rotate_left
        · go_simp; try with_reducible rfl
        try go_frame
        refine held_pure (i := 1) (oi := ⟨some 23, _, _, _, _, _⟩) rfl (by kernel_rfl) (by kernel_rfl) (by kernel_rfl) (fun _ _ _ h => h) (by rfl) (v := ?_) (fun w hSw => ?_) hS (fun hS => ?_)
        rotate_left
        · go_simp; try with_reducible rfl
        try go_frame
        refine held_pure (i := 2) (oi := ⟨some 24, _, _, _, _, _⟩) rfl (by kernel_rfl) (by kernel_rfl) (by kernel_rfl) (fun _ _ _ h => h) (by rfl) (v := ?_) (fun w hSw => ?_) hS (fun hS => ?_)
        rotate_left
        · go_simp; try with_reducible rfl
        try go_frame
        refine held_pure (i := 3) (oi := ⟨some 25, _, _, _, _, _⟩) rfl (by kernel_rfl) (by kernel_rfl) (by kernel_rfl) (fun _ _ _ h => h) (by rfl) (v := ?_) (fun w hSw => ?_) hS (fun hS => ?_)
        rotate_left
        · go_simp; try with_reducible rfl
        try go_frame
        refine held_pure (i := 4) (oi := ⟨some 26, _, _, _, _, _⟩) rfl (by kernel_rfl) (by kernel_rfl) (by kernel_rfl) (fun _ _ _ h => h) (by rfl) (v := Value.pointer (some ⟨g, k, none⟩)) (fun w hSw => by go_simp) hS (fun hS => ?_)
        try go_frame
        refine held_pure (i := 5) (oi := ⟨some 27, _, _, _, _, _⟩) rfl (by kernel_rfl) (by kernel_rfl) (by kernel_rfl) (fun _ _ _ h => h) (by rfl) (fun w hSw => run_load_int rfl rfl (KG.out _ hSw)) hS (fun hS => ?_)
        try go_frame
        refine held_pure (i := 6) (oi := ⟨some 28, _, _, _, _, _⟩) rfl (by kernel_rfl) (by kernel_rfl) (by kernel_rfl) (fun _ _ _ h => h) (by rfl) (v := ?_) (fun w hSw => ?_) hS (fun hS => ?_)
        rotate_left
        · go_simp; try with_reducible rfl
        try go_frame
        refine held_pure (i := 7) (oi := ⟨some 29, _, _, _, _, _⟩) rfl (by kernel_rfl) (by kernel_rfl) (by kernel_rfl) (fun _ _ _ h => h) (by rfl) (v := ?_) (fun w hSw => ?_) hS (fun hS => ?_)
        rotate_left
        · go_simp; try with_reducible rfl
        try go_frame
        refine held_pure (i := 8) (oi := ⟨some 30, _, _, _, _, _⟩) rfl (by kernel_rfl) (by kernel_rfl) (by kernel_rfl) (fun _ _ _ h => h) (by rfl) (v := Value.pointer (some ⟨g, k, none⟩)) (fun w hSw => by go_simp) hS (fun hS => ?_)
        try go_frame
        refine held_pure (i := 9) (oi := ⟨some 31, _, _, _, _, _⟩) rfl (by kernel_rfl) (by kernel_rfl) (by kernel_rfl) (fun _ _ _ h => h) (by rfl) (fun w hSw => run_load_int rfl rfl (KG.out _ hSw)) hS (fun hS => ?_)
        try go_frame
        refine held_pure (i := 10) (oi := ⟨some 32, _, _, _, _, _⟩) rfl (by kernel_rfl) (by kernel_rfl) (by kernel_rfl) (fun _ _ _ h => h) (by rfl) (v := ?_) (fun w hSw => ?_) hS (fun hS => ?_)
        rotate_left
        · go_simp; try with_reducible rfl
        try go_frame
        refine held_pure (i := 11) (oi := ⟨some 33, _, _, _, _, _⟩) rfl (by kernel_rfl) (by kernel_rfl) (by kernel_rfl) (fun _ _ _ h => h) (by rfl) (v := ?_) (fun w hSw => ?_) hS (fun hS => ?_)
        rotate_left
        · go_simp; try with_reducible rfl
        try go_frame
        refine held_pure (i := 12) (oi := ⟨some 34, _, _, _, _, _⟩) rfl (by kernel_rfl) (by kernel_rfl) (by kernel_rfl) (fun _ _ _ h => h) (by rfl) (v := ?_) (fun w hSw => ?_) hS (fun hS => ?_)
        rotate_left
        · go_simp; try with_reducible rfl
        try go_frame
        refine held_pure (i := 13) (oi := ⟨some 35, _, _, _, _, _⟩) rfl (by kernel_rfl) (by kernel_rfl) (by kernel_rfl) (fun _ _ _ h => h) (by rfl) (v := Value.pointer (some ⟨g, k, none⟩)) (fun w hSw => by go_simp) hS (fun hS => ?_)
        try go_frame
        refine held_pure (i := 14) (oi := ⟨some 36, _, _, _, _, _⟩) rfl (by kernel_rfl) (by kernel_rfl) (by kernel_rfl) (fun _ _ _ h => h) (by rfl) (fun w hSw => run_load_int rfl rfl (KG.out _ hSw)) hS (fun hS => ?_)
        try go_frame
        refine wpAnyH_ready (rs := [15]) (by kernel_rfl) (by simp) (AllReadyH.cons (o := ⟨some 37, _, _, _, _, _⟩) rfl (fun K hK => ?_) AllReadyH.nil)
        rw [if_pos (by rfl)]
        go_simp
        refine (HZN.out a _ (HRX.out _ hS) (by omega)).mono ?_
        rintro e u15 ⟨rfl, rfl⟩
        rw [HZ.out]
        show K _ _
        refine hK.out _ _ hS (fun hS => ?_)
        clear hK K
        try go_frame
        refine held_pure (i := 16) (oi := ⟨some 38, _, _, _, _, _⟩) rfl (by kernel_rfl) (by kernel_rfl) (by kernel_rfl) (fun _ _ _ h => h) (by rfl) (v := .int .i64 ((a : Int) + (z : Int))) (fun w hSw => by go_simp; exact IntWalk.i64_in _ (by omega)) hS (fun hS => ?_)
        try go_frame
        refine held_pure (i := 17) (oi := ⟨some 39, _, _, _, _, _⟩) rfl (by kernel_rfl) (by kernel_rfl) (by kernel_rfl) (fun _ _ _ h => h) (by rfl) (fun w hSw => run_cut_lh (l := (a : Int)) (h := (a : Int) + (z : Int)) rfl rfl rfl rfl (by omega) (by omega) (by omega) (m := D.length) (by have := HDl.out; omega)) hS (fun hS => ?_)
        try go_frame
        refine wpAnyH_ready (rs := [18]) (by kernel_rfl) (by simp) (AllReadyH.cons (o := ⟨some 40, _, _, _, _, _⟩) rfl (fun K hK => ?_) AllReadyH.nil)
        rw [if_pos (by rfl)]
        refine append_wp _ _ rfl X.heap.size _ _ _ rfl (own_below hown (Below.refl wr.heap.size wr).drew) B (cutA (some ⟨b0, off, none⟩) c a) (c - a) D rfl (fun e => by have := (HAD.out _ hS).none_ e; omega) (HAD.out _ hS).rd (by have := HDl.out; omega) hS.size ?_
        intro v8 w8 own8 grow8
        refine hK.out _ _ (hS.grown grow8 hS.size (fun k hk => own_block_ge hown k hk)) (fun hS => ?_)
        clear hK K
        try go_frame
        refine held_pure (i := 19) (oi := ⟨some 3, _, _, _, _, _⟩) rfl (by kernel_rfl) (by kernel_rfl) (by kernel_rfl) (fun _ _ _ h => h) (by rfl) (v := ?_) (fun w hSw => ?_) hS (fun hS => ?_)
        rotate_left
        · go_simp; try with_reducible rfl
        try go_frame
        refine wpAnyH_done (by kernel_rfl) ?_ _
        go_wp2_with fail
        go_roundw
        case rel => exact ⟨_, k + 1, rfl, by omega, by simp, by rw [HST.out, HDE.out, List.length_append, row_append]; exact own8, hS⟩
        case measure => simp [intOf]; omega
      · have d1 : decide (y ≥ 128) = false := by simpa using hd
        have d2 : decide (128 ≤ y) = false := by simpa using hd
        have HE := Lib.hid (cop1_no (b := b) (a := a) (by rw [← HY.out]; exact hd))
        go_wp2_with fail
        go_roundw
        case rel => exact ⟨_, k + 1, rfl, by omega, by simp, by rw [HST.out, HE.out, List.append_nil]; exact hown, hbel⟩
        case measure => simp [intOf]; omega
    · obtain rfl : k = m := by omega
      have HT := Lib.hid (show cops b ((places b).take k) = cops b (places b) by rw [HM.out, List.take_length])
      rw [HT.out] at hown
      go_wp2_with fail
      have hcl := cops_le b
      have HCO : Hid (copied b = cops b (places b) ++ List.replicate (padN (cops b (places b)).length) 0) := Lib.hid rfl
      obtain ⟨C, hC⟩ : ∃ C, C = cops b (places b) := ⟨_, rfl⟩
      rw [← hC, hn.out] at hcl
      rw [← hC] at hown HCO
      clear hC HT
      obtain ⟨N, hN⟩ : ∃ N, N = C.length := ⟨_, rfl⟩
      rw [← hN] at hown HCO hcl
      have HN := Lib.hid hN
      obtain ⟨p, hp⟩ : ∃ p, p = padN N := ⟨_, rfl⟩
      have hpm := padN_mod N
      rw [← hp] at hpm HCO
      have hp4 := hpm.2
      have HPM : Hid (∀ j, j ≤ p → ((N + j) % 4 = 0 ↔ j = p)) := Lib.hid fun j hj => by have := hpm.1; omega
      clear hN hp hpm
      go_loopw [3] (fun v wr => ∃ (vv : Value) (j L : Nat), vv = v ∧ j ≤ p ∧ Hid (L = N + j) ∧ L ≤ n + 4 ∧ wr.ownsRow X.heap.size 5 1 v L (row (C ++ List.replicate j 0)) ∧ Below X.heap.size X wr)
        (fun v _ => match v with | .slice _ L _ => N + p - L | _ => 0)
      case atStart => exact ⟨_, 0, N, rfl, Nat.zero_le _, Lib.hid rfl, by omega, by simpa using hown, hbel⟩
      case round =>
        obtain ⟨v3, j, L, rfl, hj, HL, hL4, hown, hbel⟩ := hrel
        obtain ⟨A3, c3, rfl⟩ : ∃ A3 c3, v3 = .slice A3 L c3 := by
          rcases hown.2 with ⟨e, h0⟩ | ⟨g, cap, cur, e, _⟩
          · exact ⟨none, 0, by rw [e, h0]⟩
          · exact ⟨_, cap, e⟩
        by_cases hjp : j = p
        · have hm : L % 4 = 0 := by have := HL.out; have := (HPM.out j hj).2 hjp; omega
          have e1 : ((L : Int) % 4 != 0) = false := by simp; omega
          go_wp2_with fail
          go_ret
          refine ⟨_, rfl, Made.of_own (own_base (by rw [HCO.out, List.length_append, List.length_replicate, ← HN.out, ← hjp, ← HL.out]; exact hown) hx.size) (hx.trans (hbel.mono hx.size))⟩
        · have hm : L % 4 ≠ 0 := by have := HL.out; have := HPM.out j hj; omega
          have e1 : ((L : Int) % 4 != 0) = true := by simp; omega
          go_wp2_with (at_builtin; refine append_rd rfl _ _ rfl X.heap.size _ _ _ rfl (hown.alloc _) (wr.heap.size + 1) (some ⟨wr.heap.size, 0, none⟩) 1 [0] rfl (fun e => by cases e) (rd_zero wr) (by simp; omega) (by have := hbel.size; simp; omega) ?_; intro v' w1 hown' hgrow)
          go_roundw
          case rel => exact ⟨_, j + 1, L + 1, rfl, by omega, Lib.hid (by have := HL.out; omega), by have := HL.out; omega, by rw [← rep_snoc, row_append]; exact hown', (hbel.alloc hbel.size _).grown hgrow (by have := hbel.size; simp; omega) (own_block_ge hown)⟩
          case measure =>
            obtain ⟨g', cap', e'⟩ := ownsRow_succ hown'
            subst e'
            simp; have := HL.out; omega
end Go.Proofs.Ytcebobcakiljhaa

/-
  Contract of cut4's Copied; append onto what a variable's box holds. Conditions are each theorem's own.
-/
namespace Go.Proofs.Ytcebobcakiljhaa
open Go.RowKit Go.Shelf
attribute [local go_sem] Oper.semAt_some

/-- 'out = append(out, ..)' out of the append law's two words, no block laid ahead of it. -/
theorem appended0 {W w1 : World} {n₀ B : Nat} {t e : TypeId} {size : Nat} {v v' : Value} {k m : Nat} {xs ys : List Value}
    (hv : Boxed W B t v) (hte : t ≠ e) (hrow : W.ownsRow n₀ e size v k xs) (hn₀ : n₀ ≤ W.heap.size) (hB : n₀ ≤ B)
    (hown' : w1.ownsRow n₀ e size v' m ys) (hgrow : W.grownBy w1 v.ownBlock) :
    Boxed w1 B t v ∧ Boxed (w1.setCell ⟨B, 0, none⟩ v') B t v' ∧ (w1.setCell ⟨B, 0, none⟩ v').ownsRow n₀ e size v' m ys ∧ KeepsOthers W (w1.setCell ⟨B, 0, none⟩ v') ∧ Below n₀ W (w1.setCell ⟨B, 0, none⟩ v') := by
  have hv1 : Boxed w1 B t v := hv.kept hgrow (hv.not_row hte hrow)
  refine ⟨hv1, hv1.set v', hown'.kept (grownBy_setCell' w1 B v') (.inr (hv1.not_row hte hown').symm), ?_, ?_⟩
  · refine (KeepsOthers.of_grownBy hgrow fun j o ej hj => ?_).trans (KeepsOthers.setCell _ _ _)
    rcases hrow.2 with ⟨rfl, _⟩ | ⟨g, cap, cur, rfl, _, hgb, _⟩
    · simp [Value.ownBlock] at ej
    · obtain rfl : g = j := by simpa [Value.ownBlock] using ej
      rw [hgb] at hj; cases hj; rfl
  · refine ((Below.refl n₀ W).grown hgrow hn₀ fun j ej => ?_).setCell (p := ⟨B, 0, none⟩) hB v'
    rcases hrow.2 with ⟨rfl, _⟩ | ⟨g, cap, cur, rfl, hb, _, _⟩
    · simp [Value.ownBlock] at ej
    · obtain rfl : g = j := by simpa [Value.ownBlock] using ej
      exact hb
theorem Marks.from {lo : Nat} {w w' : World} (hk : KeepsFrom lo w w') : ∀ {ds : List Deferred} {hi : Nat}, Marks lo hi ds w → Marks lo hi ds w'
  | [], _, _ => trivial
  | _ :: _, _, ⟨D, e, h1, h2, h3, h4⟩ => ⟨D, e, h1, h2, hk.same D _ h1 h3 rfl, Marks.from hk h4⟩
theorem nat_ne {a b : Nat} (h : (a == b) = false) : a ≠ b := by simpa using h
/-- The length of the slice that a box holds. -/
def lenAt (w : World) (g : Nat) : Nat := match w.cell? ⟨g, 0, none⟩ with | some (.slice _ n _) => n | _ => 0
theorem lenAt_box {w : World} {g t : Nat} {A : Option Addr} {n c : Nat} (h : Boxed w g t (.slice A n c)) : lenAt w g = n := by unfold lenAt; rw [h.cell]
theorem own_slice {w : World} {base e s n : Nat} {v : Value} {xs : List Value} (h : w.ownsRow base e s v n xs) : ∃ A c, v = .slice A n c := by
  rcases h.2 with ⟨e, h0⟩ | ⟨g, cap, cur, e, _⟩
  · exact ⟨none, 0, by rw [e, h0]⟩
  · exact ⟨_, cap, e⟩
set_option maxRecDepth 100000 in
set_option maxHeartbeats 1000000 in
theorem c13copied (A : Option Addr) (b : List UInt8) (c B : Nat) (w : World) (hR : Arg w B A c b) (hB : B ≤ w.heap.size) (hl : b.length ≤ 1000000) :
    Calls Try.prog 13 #[.slice A b.length c] w fun e w' => ∃ v, e = .returned v ∧ Made w w' v (copied b) := by
  have hte : 22 ≠ 5 := nat_ne (by kernel_rfl)
  obtain ⟨W, hW⟩ : ∃ W, W = w.alloc (.cells #[.slice none 0 0] 22) := ⟨_, rfl⟩
  have hbW : Below w.heap.size w W := by rw [hW]; exact (Below.refl _ w).alloc (Nat.le_refl _) _
  have hs : W.heap.size = w.heap.size + 1 := by rw [hW]; simp
  have hbx : Boxed W w.heap.size 22 (.slice none 0 0) := by rw [hW]; exact Boxed.new w 22 _
  have heach := each_any A b c B W (hR.below (hbW.mono hB)) (by omega) hl
  obtain ⟨n, hn'⟩ : ∃ n, n = b.length := ⟨_, rfl⟩
  have hn := Lib.hid hn'.symm
  rw [← hn'] at hl heach ⊢
  clear hn'
  subst hW
  refine (callsIn_wide (n := 4)).1 ?_
  refine callsIn_of_wp_marks Try.func13 rfl trivial ?_ rfl
  simp only [Try.ntmps13, List.size_toArray, List.length_cons, List.length_nil, Nat.reduceAdd, Nat.reduceSub, Array.replicate_succ, Array.replicate_zero, List.push_toArray, List.append_toArray, List.nil_append, List.cons_append]
  gi_wp2_with (refine ⟨trivial, ?_⟩; gi_at_call 33; refine (callsIn_wide.2 heach).mono ?_; rintro e w1 ⟨Bs, rfl, x1, hseq⟩)
  generalize w.alloc (.cells #[.slice none 0 0] 22) = W at *
  have HS := Lib.hid hs
  have hz1 := x1.size
  have hbx1 := Boxed.below hbx x1 (by omega)
  have hB1 : Below w.heap.size w w1 := hbW.trans (x1.mono (by omega))
  have hzz : w.heap.size < w1.heap.size := by omega
  clear hs hbx hbW heach
  refine range_told (by omega) (gf := 56) (lb := #[.pointer (some ⟨Bs, 0, none⟩)]) rfl (enters_of Try.func56 (by kernel_rfl) rfl)
    (hseq (4 - 1) (by omega)) KeepP.trans (fun V l r r' hl hr => KeepP.loop (by omega)) (Below.refl _ _) (fun _ => rfl)
    (fun pre x V l r r' h _ hl => GO.turn h hl)
    (fun pre X => (∃ v, Boxed X w.heap.size 22 v ∧ X.ownsRow w.heap.size 5 1 v (cops b (pre.map (·.at_))).length (row (cops b (pre.map (·.at_)))) ∧ True) ∧ Below w.heap.size w X)
    (fun _ _ _ => False)
    (OwnFrom.and (Own.from (holdsRow_own (β := List OI) w.heap.size w.heap.size 22 5 1 (fun pre => (cops b (pre.map (·.at_))).length) (fun pre => row (cops b (pre.map (·.at_)))) (fun _ _ => True)) _)
      (fun pre X Y r hs hg hr => below_keep hs hg hr (by omega) (Nat.le_refl _)))
    (fun cd pre X Y r hs hg hr => hs)
    ⟨⟨_, hbx1, World.ownsRow_nil _ _ _ _, trivial⟩, hB1⟩
    (fun x => { tmps := #[.slice A n c, undef, .slice none 0 0, .pointer (some ⟨w.heap.size, 0, none⟩), .slice x.A x.n x.c, .slice A n c, .func (.func 56) #[] #[.pointer (some ⟨Bs, 0, none⟩)], .slice x.A x.n x.c, undef, undef, undef, undef, undef, undef, undef, undef, undef, undef, undef, undef, undef, undef, undef], defers := [] }) ?assign ?body ?done ?stop
  case assign =>
    intro l x X K hK
    dsimp only [encS]
    gi_wp2
    exact hK
  case body =>
    rintro l pre ⟨k, XA, xc, z⟩ X ⟨⟨v, hvX, hoX, _⟩, hBX⟩ ⟨⟨more, hmore⟩, hz, hAX⟩
    dsimp only at hmore hz hAX ⊢
    have hopt : 0 < optL b k := places_mem (by rw [hmore]; simp)
    rw [← hz] at hopt
    have hpre : (cops b ((pre ++ [(⟨k, XA, xc, z⟩ : OI)]).map (·.at_))) = cops b (pre.map (·.at_)) ++ cop1 b k := by rw [List.map_append]; exact cops_snoc b _ k
    have hlen := cops_pre b hmore
    rw [hn.out] at hlen
    have hle := optL_le (b := b) (at_ := k) (by rw [← hz]; exact hopt)
    rw [← hz, hn.out] at hle
    obtain ⟨D, hD⟩ : ∃ D, D = (b.drop k).take z := ⟨_, rfl⟩
    rw [← hD] at hAX
    have HDl : Hid (D.length = z) := Lib.hid (by rw [hD, List.length_take, List.length_drop]; have := hn.out; omega)
    have HD1 : Hid (byt b k ≥ 128 → cop1 b k = D) := Lib.hid (fun h => by rw [cop1, if_pos h, hD, hz])
    clear hz
    have kd : byt D 0 = byt b k := by rw [hD, byt_take _ hopt, byt_drop, Nat.add_zero]
    obtain ⟨b0, off, e, hb0, hc0⟩ := hAX.rd (by rw [HDl.out]; exact hopt)
    obtain rfl := e
    have kx := hc0 0 (by rw [HDl.out]; exact hopt)
    rw [Nat.add_zero, kd] at kx
    obtain ⟨C, hC⟩ : ∃ C, C = cops b (pre.map (·.at_)) := ⟨_, rfl⟩
    rw [← hC] at hoX hlen hpre
    have HP := Lib.hid hpre
    obtain ⟨y, hy⟩ : ∃ y, y = byt b k := ⟨_, rfl⟩
    rw [← hy] at kx
    have HY := Lib.hid hy
    have hcv := hvX.cell
    have hfv := hvX.frozen
    clear hc0 hD hpre hC hy kd hmore
    by_cases hd : y ≥ 128
    · have d1 : decide (y ≥ 128) = true := by simpa using hd
      have d2 : decide (128 ≤ y) = true := by simpa using hd
      have HE := Lib.hid (HD1.out (by rw [← HY.out]; exact hd))
      obtain ⟨i0, hi, hz0, hz1, hz2⟩ := info_parts info_u8
      gi_wp2_with (gi_at_builtin; refine wpListIn_append_own _ rfl _ _ 22 rfl w.heap.size 5 i0 (.int .u8 0) 1 1 Try.underlying22 hi hz0 hz1 hz2 rfl (by decide) _ _ _ rfl hoX ⟨b0, off, none⟩ z xc (row D) rfl (by rw [row_length, HDl.out, Nat.mul_one]) hAX.rd.src (row_one D) (by have := hle.1; unfold maxLen; omega) (by have := hle.1; omega) hBX.size ?_; intro v' w' hown' hgrow hnil; obtain ⟨q1, q2, q3, q4, q5⟩ := appended0 hvX hte hoX hBX.size (Nat.le_refl _) hown' hgrow; have qc := q1.cell; have qf := q1.frozen; obtain ⟨A9, c9, rfl⟩ := own_slice hown')
      refine ⟨q4.from _, ⟨q5.size, fun j hj => q5.block j (Nat.lt_of_lt_of_le hj hB)⟩, ⟨_, q2, ?_⟩, hBX.trans q5⟩
      rw [HP.out, HE.out, List.length_append, HDl.out, row_append]
      exact ⟨q3, trivial⟩
    · have d1 : decide (y ≥ 128) = false := by simpa using hd
      have d2 : decide (128 ≤ y) = false := by simpa using hd
      have HE := Lib.hid (cop1_no (b := b) (a := k) (by rw [← HY.out]; exact hd))
      gi_wp2
      refine ⟨KeepsFrom.refl _ _, KeepP.refl _ _, ⟨v, hvX, ?_⟩, hBX⟩
      rw [HP.out, HE.out, List.append_nil]
      exact hoX
  case done =>
    rintro D xs X hD hS ⟨⟨v, hvX, hoX, _⟩, hBX⟩ hK
    have hm1 : Marks w1.heap.size X.heap.size [{ target := .collected D, args := #[] }] X := (Marks.push (hi := D) (ds := []) trivial (Nat.le_refl _) hD hK).more (heap_lt hK)
    rw [hS] at hoX
    have hcl := cops_le b
    rw [hn.out] at hcl
    have HCO : Hid (copied b = cops b (places b) ++ List.replicate (padN (cops b (places b)).length) 0) := Lib.hid rfl
    obtain ⟨C, hC⟩ : ∃ C, C = cops b (places b) := ⟨_, rfl⟩
    rw [← hC] at hoX HCO hcl
    obtain ⟨N, hN⟩ : ∃ N, N = C.length := ⟨_, rfl⟩
    rw [← hN] at hoX HCO hcl
    have HN := Lib.hid hN
    obtain ⟨p, hp⟩ : ∃ p, p = padN N := ⟨_, rfl⟩
    have hpm := padN_mod N
    rw [← hp] at hpm HCO
    have hp4 := hpm.2
    have HPM : Hid (∀ j, j ≤ p → ((N + j) % 4 = 0 ↔ j = p)) := Lib.hid fun j hj => by have := hpm.1; omega
    have hwX := heap_lt hK
    clear hN hp hpm hC hS hK hseq
    gi_wp2
    gi_loopw [] (fun wr => ∃ (v : Value) (j L : Nat), j ≤ p ∧ Hid (L = N + j) ∧ L ≤ n + 4 ∧ Boxed wr w.heap.size 22 v ∧ wr.ownsRow w.heap.size 5 1 v L (row (C ++ List.replicate j 0)) ∧ Below w.heap.size w wr ∧ Marks w1.heap.size X.heap.size [{ target := .collected D, args := #[] }] wr ∧ X.heap.size ≤ wr.heap.size)
      (fun wr => N + p - lenAt wr w.heap.size)
    case atStart => exact ⟨v, 0, N, Nat.zero_le _, Lib.hid rfl, by omega, hvX, by simpa using hoX, hBX, hm1, Nat.le_refl _⟩
    case round =>
      obtain ⟨v, j, L, hj, HL, hL4, hvr, hor, hbr, hmr, hzr⟩ := hrel
      have hslice := own_slice hor
      obtain ⟨A3, c3, rfl⟩ := hslice
      have hcv := hvr.cell
      have hfv := hvr.frozen
      by_cases hjp : j = p
      · have hm : L % 4 = 0 := by have := HL.out; have := (HPM.out j hj).2 hjp; omega
        have e1 : ((L : Int) % 4 != 0) = false := by simp; omega
        gi_wp2
        refine leaves_marks w1.heap.size (fun Y => Y.ownsRow w.heap.size 5 1 (.slice A3 L c3) L (row (C ++ List.replicate j 0)) ∧ Below w.heap.size w Y) (fun Y D hY h1 h2 => ⟨ownsRow_putObj hY.1 _ h2 rfl, hY.2.trans (belowK_b (w := w) (Nat.le_refl _) Y D _ _ (by omega) h2 rfl rfl)⟩)
          (fun Y hY => ⟨_, results_tmp rfl _ _ _, _, rfl, ?_⟩) _ _ _ hmr ⟨hor, hbr⟩
        refine Made.of_own ?_ hY.2
        rw [HCO.out, List.length_append, List.length_replicate, ← HN.out, ← hjp, ← HL.out]
        exact hY.1
      · have hm : L % 4 ≠ 0 := by have := HL.out; have := HPM.out j hj; omega
        have e1 : ((L : Int) % 4 != 0) = true := by simp; omega
        obtain ⟨i0, hi, hz0, hz1, hz2⟩ := info_parts info_u8
        gi_wp2_with (gi_at_builtin; refine wpListIn_append_own _ rfl _ _ 22 rfl w.heap.size 5 i0 (.int .u8 0) 1 1 Try.underlying22 hi hz0 hz1 hz2 rfl (by decide) _ _ _ rfl (hor.alloc _) ⟨wr.heap.size, 0, none⟩ 1 1 (row [0]) rfl rfl (rd_zero wr).src (row_one _) (by unfold maxLen; omega) (by omega) (by have := hbr.size; simp; omega) ?_; intro v' w' hown' hgrow hnil; obtain ⟨q1, q2, q3, q4, q5⟩ := Boxed.appended hvr hte hor hbr.size (Nat.le_refl _) hown' hgrow; have qc := q1.cell; have qf := q1.frozen; obtain ⟨A9, c9, rfl⟩ := own_slice hown')
        go_roundw
        case rel => exact ⟨_, j + 1, L + 1, by omega, Lib.hid (by have := HL.out; omega), by have := HL.out; omega, q2, by rw [← rep_snoc, row_append]; exact q3, hbr.trans q5, Marks.from (q4.from _) hmr, by have := q5.size; omega⟩
        case measure =>
          rw [lenAt_box q2, lenAt_box hvr]; have := HL.out; omega
  case stop =>
    rintro D cd pre X hD _ h
    exact h.elim
end Go.Proofs.Ytcebobcakiljhaa

/-
  Packets of IPv4 as elements of a slice: their cells, what their lists own; contract of cut4's part. Conditions are each theorem's own.
-/
namespace Go.Proofs.Ytcebobcakiljhaa
open Go.RowKit Go.Shelf

/-- A packet, and where its lists lie. -/
structure X4 where
  q : P4
  A : Option Addr
  c : Nat
  A' : Option Addr
  c' : Nat
def cl4 (x : X4) : List Value := (v4a x.q x.A x.c x.A' x.c').toList
theorem cl4_len (x : X4) : (cl4 x).length = 11 := rfl
theorem cl4_one (x : X4) : ∀ u ∈ cl4 x, u.oneCell' = true := by
  intro u hu
  simp only [cl4, v4a, List.mem_cons, List.not_mem_nil, or_false] at hu
  rcases hu with rfl | rfl | rfl | rfl | rfl | rfl | rfl | rfl | rfl | rfl | rfl <;> rfl
def val4 (x : X4) : Value := v4v x.q x.A x.c x.A' x.c'
/-- Its lists are rows of the call's own. -/
def Own4 (W : World) (base : Nat) (x : X4) : Prop := W.ownsRow base 5 1 (.slice x.A x.q.opt.length x.c) x.q.opt.length (row x.q.opt) ∧ W.ownsRow base 5 1 (.slice x.A' x.q.dat.length x.c') x.q.dat.length (row x.q.dat)
section
variable {W V : World} {base : Nat} {x : X4}
theorem Own4.below (h : Own4 W base x) (hb : Below W.heap.size W V) : Own4 V base x := ⟨own_below h.1 hb, own_below h.2 hb⟩
theorem Own4.base_ {base' : Nat} (h : Own4 W base' x) (hb : base ≤ base') : Own4 W base x := ⟨own_base h.1 hb, own_base h.2 hb⟩
theorem Own4.arg (h : Own4 W base x) : Arg W W.heap.size x.A x.c x.q.opt := arg_own h.1
theorem Own4.arg' (h : Own4 W base x) : Arg W W.heap.size x.A' x.c' x.q.dat := arg_own h.2
theorem Own4.keep {e t sz : Nat} (h : Own4 W base x) (k : KeepS e t sz W V) (h1 : 5 ≠ t) (h2 : 5 ≠ e) : Own4 V base x := ⟨k.own h.1 h1 h2, k.own h.2 h1 h2⟩
theorem Own4.loop {l : Nat} {r r' : Loop} (h : Own4 W base x) (hl : W.heap[l]? = some (.loop r)) : Own4 (W.putObj l (.loop r')) base x := ⟨ownsRow_putObj h.1 _ hl rfl, ownsRow_putObj h.2 _ hl rfl⟩
theorem Own4.turn {r : Option Nat} (h : Own4 W base x) (hg : W.grownBy V r) (hr : ∀ k, r = some k → ∃ o : Obj, W.heap[k]? = some o ∧ o.isCells = false) : Own4 V base x := by
  have key : ∀ {v : Value} {n : Nat} {xs : List Value}, W.ownsRow base 5 1 v n xs → V.ownsRow base 5 1 v n xs := fun {v n xs} h => by
    refine h.kept hg ?_
    rcases h.2 with ⟨rfl, _⟩ | ⟨g, cap, cur, rfl, _, hgb, _⟩
    · exact .inl rfl
    · refine .inr fun e' => ?_
      obtain ⟨o, ho, hc⟩ := hr g (by simpa [Value.ownBlock] using e'.symm)
      rw [hgb] at ho; cases ho; cases hc
  exact ⟨key h.1, key h.2⟩
end
theorem own_setCellB {w : World} {base e sz n t : Nat} {v : Value} {xs : List Value} {cs : Array Value} (h : w.ownsRow base e sz v n xs) {g i : Nat} {u : Value} (hg : w.heap[g]? = some (.cells cs t (0, 0))) (hte : t ≠ e) : (w.setCell ⟨g, i, none⟩ u).ownsRow base e sz v n xs := by
  refine ⟨h.1, ?_⟩
  rcases h.2 with hn | ⟨g', cap, cur, hv, hb, hg', rest⟩
  · exact .inl hn
  · refine .inr ⟨g', cap, cur, hv, hb, (heap_setCell_other w ⟨g, i, none⟩ g' u (fun e' => ?_)).trans hg', rest⟩
    have e'' : g' = g := e'
    subst e''
    rw [hg'] at hg
    cases hg; exact hte rfl
theorem own_setRowB {w : World} {base e sz n t : Nat} {v : Value} {xs : List Value} {cs cs' : Array Value} (h : w.ownsRow base e sz v n xs) {g : Nat} (hg : w.heap[g]? = some (.cells cs t (0, 0))) (hte : t ≠ e) : (w.setRow g cs').ownsRow base e sz v n xs := by
  refine ⟨h.1, ?_⟩
  rcases h.2 with hn | ⟨g', cap, cur, hv, hb, hg', rest⟩
  · exact .inl hn
  · refine .inr ⟨g', cap, cur, hv, hb, (setRow_other w g g' cs' (fun e' => ?_)).trans hg', rest⟩
    subst e'
    rw [hg'] at hg
    cases hg; exact hte rfl
set_option maxRecDepth 100000 in
set_option maxHeartbeats 1000000 in
theorem c13part (q : P4) (A : Option Addr) (c : Nat) (A' : Option Addr) (c' : Nat) (D : Option Addr) (d : Nat) (dat : List UInt8) (mr : Bool) (w : World) (B : Nat) (hO : Arg w B A c q.opt) (hD : Arg w B D d dat) (hB0 : B ≤ w.heap.size) (ho : q.opt.length ≤ 1000000) (hl : dat.length ≤ 1000000) :
    Calls Try.prog 54 #[v4v q A c A' c', .slice D dat.length d, .bool mr] w fun e w' => ∃ P p P' p', e = .returned (v4v { q with mf := mr, dat := dat } P p P' p') ∧ Own4 w' w.heap.size ⟨{ q with mf := mr, dat := dat }, P, p, P', p'⟩ ∧ Below w.heap.size w w' := by
  have hB : Below w.heap.size w ((w.alloc (.cells (v4a q A c A' c') 24)).alloc (.cells #[.int .i64 0, .int .i64 0, .int .i64 0, .int .i64 0, .int .i64 0, .int .i64 0, .int .i64 0, .bool false, .bool false, .slice none 0 0, .slice none 0 0] 24)) := ((Below.refl w.heap.size w).alloc (Nat.le_refl _) _).alloc (by simp) _
  have hU0 : ((w.alloc (.cells (v4a q A c A' c') 24)).alloc (.cells #[.int .i64 0, .int .i64 0, .int .i64 0, .int .i64 0, .int .i64 0, .int .i64 0, .int .i64 0, .bool false, .bool false, .slice none 0 0, .slice none 0 0] 24)).heap[w.heap.size]? = some (.cells (v4a q A c A' c') 24 (0, 0)) := (Below.heap_alloc (w.alloc (.cells (v4a q A c A' c') 24)) _ w.heap.size (by simp)).trans (World.alloc_heap_new w _)
  have hR0 : ((w.alloc (.cells (v4a q A c A' c') 24)).alloc (.cells #[.int .i64 0, .int .i64 0, .int .i64 0, .int .i64 0, .int .i64 0, .int .i64 0, .int .i64 0, .bool false, .bool false, .slice none 0 0, .slice none 0 0] 24)).heap[w.heap.size + 1]? = some (.cells (v4a p4z none 0 none 0) 24 (0, 0)) := by
    have := World.alloc_heap_new (w.alloc (.cells (v4a q A c A' c') 24)) (.cells #[.int .i64 0, .int .i64 0, .int .i64 0, .int .i64 0, .int .i64 0, .int .i64 0, .int .i64 0, .bool false, .bool false, .slice none 0 0, .slice none 0 0] 24)
    rwa [World.size_alloc] at this
  have hte : 24 ≠ 5 := nat_ne (by kernel_rfl)
  unfold v4v
  rw [show (#[Value.int .i64 q.tos, .int .i64 q.id, .int .i64 q.off, .int .i64 q.ttl, .int .i64 q.proto, .int .i64 q.src, .int .i64 q.dst, .bool q.df, .bool q.mf, .slice A q.opt.length c, .slice A' q.dat.length c']) = v4a q A c A' c' from rfl]
  go_enter Try.func54, Try.ntmps54
  go_upto_region 1 with fail
  generalize (w.alloc (.cells (v4a q A c A' c') 24)).alloc (.cells #[.int .i64 0, .int .i64 0, .int .i64 0, .int .i64 0, .int .i64 0, .int .i64 0, .int .i64 0, .bool false, .bool false, .slice none 0 0, .slice none 0 0] 24) = W at *
  have hWz : w.heap.size + 1 < W.heap.size := heap_lt hR0
  have k9 : W.cell? ⟨w.heap.size, 9, none⟩ = some (.slice A q.opt.length c) := by { rw [cell_of_row _ _ _ _ _ _ hU0]; rfl }
  have hO1 := hO.below (hB.mono hB0)
  have hD1 := hD.below (hB.mono hB0)
  go_upto_region 2 with (first
    | (go_at_call 37; refine (clone_any D dat d B V2 hD2 (by omega) (by omega)).mono ?_; rintro e w3 ⟨v3, rfl, m3⟩; obtain ⟨P', p', rfl, g3, o3, y3⟩ := made_shape m3; have hU3 := (y3.block w.heap.size (by omega)).trans hU2; have hR3 := (y3.block (w.heap.size + 1) (by omega)).trans hR2; have c9 : w3.cell? ⟨w.heap.size, 9, none⟩ = some (.slice A q.opt.length c) := by { rw [cell_of_row _ _ _ _ _ _ hU3]; rfl }; have c10 : w3.cell? ⟨w.heap.size, 10, none⟩ = some (.slice A' q.dat.length c') := by { rw [cell_of_row _ _ _ _ _ _ hU3]; rfl }; have c8 : w3.cell? ⟨w.heap.size, 8, none⟩ = some (.bool q.mf) := by { rw [cell_of_row _ _ _ _ _ _ hU3]; rfl }; have f9 := heap_frozen hU3 9; have f10 := heap_frozen hU3 10; have f8 := heap_frozen hU3 8)
    | (go_at_call 37; refine (clone_any A q.opt c B W hO1 (by omega) (by omega)).mono ?_; rintro e V2 ⟨v2, rfl, m2⟩; obtain ⟨P, p, rfl, g2, o2, y2⟩ := made_shape m2; have hU2 := (y2.block w.heap.size (by omega)).trans hU0; have hR2 := (y2.block (w.heap.size + 1) hWz).trans hR0; have hD2 := hD1.below (y2.mono (by omega)); have hz2 := y2.size))
  have hU4 := heap_setCell_same w3 w.heap.size 9 _ _ (.slice P q.opt.length p) hU3
  have hU5 := heap_setCell_same _ w.heap.size 10 _ _ (.slice P' dat.length p') hU4
  have hU6 := heap_setCell_same _ w.heap.size 8 _ _ (.bool mr) hU5
  have hU6 : (((w3.setCell ⟨w.heap.size, 9, none⟩ (.slice P q.opt.length p)).setCell ⟨w.heap.size, 10, none⟩ (.slice P' dat.length p')).setCell ⟨w.heap.size, 8, none⟩ (.bool mr)).heap[w.heap.size]? = some (.cells (v4a { q with mf := mr, dat := dat } P p P' p') 24 (0, 0)) := hU6
  have hz3 := y3.size
  have hR6 : (((w3.setCell ⟨w.heap.size, 9, none⟩ (.slice P q.opt.length p)).setCell ⟨w.heap.size, 10, none⟩ (.slice P' dat.length p')).setCell ⟨w.heap.size, 8, none⟩ (.bool mr)).heap[w.heap.size + 1]? = some (.cells (v4a p4z none 0 none 0) 24 (0, 0)) :=
    (heap_setCell_other _ _ _ _ (by show w.heap.size + 1 ≠ w.heap.size; omega)).trans ((heap_setCell_other _ _ _ _ (by show w.heap.size + 1 ≠ w.heap.size; omega)).trans ((heap_setCell_other _ _ _ _ (by show w.heap.size + 1 ≠ w.heap.size; omega)).trans hR3))
  have own6 : Own4 (((w3.setCell ⟨w.heap.size, 9, none⟩ (.slice P q.opt.length p)).setCell ⟨w.heap.size, 10, none⟩ (.slice P' dat.length p')).setCell ⟨w.heap.size, 8, none⟩ (.bool mr)) w.heap.size ⟨{ q with mf := mr, dat := dat }, P, p, P', p'⟩ :=
    ⟨own_setCellB (own_setCellB (own_setCellB (own_base (own_below o2 y3) (by omega)) hU3 hte) hU4 hte) hU5 hte, own_setCellB (own_setCellB (own_setCellB (own_base o3 (by omega)) hU3 hte) hU4 hte) hU5 hte⟩
  have hB6 : Below w.heap.size w (((w3.setCell ⟨w.heap.size, 9, none⟩ (.slice P q.opt.length p)).setCell ⟨w.heap.size, 10, none⟩ (.slice P' dat.length p')).setCell ⟨w.heap.size, 8, none⟩ (.bool mr)) :=
    (((hB.trans ((y2.trans (y3.mono hz2)).mono (by omega))).setCell (p := ⟨w.heap.size, 9, none⟩) (Nat.le_refl _) _).setCell (p := ⟨w.heap.size, 10, none⟩) (Nat.le_refl _) _).setCell (p := ⟨w.heap.size, 8, none⟩) (Nat.le_refl _) _
  clear hU4 hU5 c8 c9 c10 f8 f9 f10 k9 hU3 hR3
  generalize ((w3.setCell ⟨w.heap.size, 9, none⟩ (.slice P q.opt.length p)).setCell ⟨w.heap.size, 10, none⟩ (.slice P' dat.length p')).setCell ⟨w.heap.size, 8, none⟩ (.bool mr) = V6 at *
  have at6 : At4 V6 w.heap.size { q with mf := mr, dat := dat } P p P' p' := fun j v hj => by
    rw [Nat.zero_add, cell_of_row _ _ _ _ _ _ hU6, ← Array.getElem?_toList]; exact hj
  go_wp2_with (first
    | ((with_reducible show wpList _ _ _ (Oper.mk _ (Op.load 24 _) _ _ _ _ :: _) _ _); refine wpList_val rfl (run_load_v4 rfl rfl at6 rfl) ?_)
    | ((with_reducible show wpList _ _ _ (Oper.mk _ (Op.store 24 _ _) _ _ _ _ :: _) _ _); refine v4_store (g := w.heap.size + 1) (cs := v4a { q with mf := mr, dat := dat } P p P' p') rfl rfl hR6 rfl rfl (v4a_one _ _ _ _ _) ?_))
  have own7 : Own4 (V6.setRow (w.heap.size + 1) (v4a { q with mf := mr, dat := dat } P p P' p')) w.heap.size ⟨{ q with mf := mr, dat := dat }, P, p, P', p'⟩ := ⟨own_setRowB own6.1 hR6 hte, own_setRowB own6.2 hR6 hte⟩
  exact bodyPost_ret (v4_result rfl rfl (setRow_heap _ _ _ _ _ _ hR6) rfl) rfl ⟨P, p, P', p', rfl, own7, below_row hB6 (by omega)⟩
end Go.Proofs.Ytcebobcakiljhaa

/-
  A region that draws its order and calls an iterator's yield: a load is taken ahead where each world of a class gives it the same value; the walk's moves, inside the widest fence. Conditions are each theorem's own.
-/
namespace Go.Proofs.Ytcebobcakiljhaa
open Go.RowKit

section
variable {n : Nat} {P : Program} {ops : Array Oper} {Q : Exit → Act → World → Prop} {md : Region.Mode} {S : World → Prop}
/-- Whatever comes up next, S holds behind it. -/
def anyHI (n : Nat) (P : Program) (md : Region.Mode) (ops : Array Oper) (Q : Exit → Act → World → Prop) (S : World → Prop) : Nat → Array Bool → Act → World → Prop
  | 0, listed, a, w => Region.ready md ops listed = [] ∧ Q .normal a w
  | fuel + 1, listed, a, w => (Region.ready md ops listed = [] → Q .normal a w) ∧
    ∀ i ∈ Region.ready md ops listed, wpOpIn Fence.wide n P ops Q i (fun a' w' => S w' ∧ anyHI n P md ops Q S fuel (listed.setIfInBounds i true) a' w') a w
theorem any_of_HI : ∀ (fuel : Nat) (listed : Array Bool) (a : Act) (w : World), anyHI n P md ops Q S fuel listed a w → wpAnyIn Fence.wide n P md ops Q fuel listed a w
  | 0, _, _, _, h => h
  | fuel + 1, _, _, _, h => ⟨h.1, fun i hi => wpOpIn_mono (fun a' w' h' => any_of_HI fuel _ a' w' h'.2) (h.2 i hi)⟩
theorem opI_here {i : Nat} {o : Oper} {v : Value} {a : Act} {w : World} {K : Act → World → Prop} (hi : ops[i]? = some o) (hy : YieldsIf P ops S o v a) (hS : S w) (h : K (a.put o.dst v) w) : wpOpIn Fence.wide n P ops Q i K a w := by
  unfold wpOpIn
  simp only [hi]
  rcases hy with ⟨hw, hv⟩ | ⟨hw, rfl⟩
  · rw [if_pos hw]
    refine ⟨fun _ _ => trivial, ?_⟩
    rw [show Fence.wide.round = none from rfl, Oper.semAt_none, hv w hS]
    exact h
  · rw [if_neg (by rw [hw]; decide)]
    exact ⟨fun _ _ => trivial, h⟩
/-- Another operation, with that one's value there already or not. -/
theorem opI_swap {j : Nat} {oi oj : Oper} {v : Value} (hj : ops[j]? = some oj) (hap : oi.apart ops oj = true) (hsi : ∀ cs b, oi.op ≠ .select cs b) (hsj : ∀ cs b, oj.op ≠ .select cs b)
    (hQ : ∀ c a w, Q (.panic c) (a.put oi.dst v) w → Q (.panic c) a w) {K : Act → World → Prop} {a : Act} {w : World} (hy : YieldsIf P ops S oi v a) (h : wpOpIn Fence.wide n P ops Q j K (a.put oi.dst v) w) :
    wpOpIn Fence.wide n P ops Q j (fun a' w' => YieldsIf P ops S oi v a' ∧ K (a'.put oi.dst v) w') a w := by
  obtain ⟨h1, h2, h3⟩ := Oper.apart_spec hap
  have stay : ∀ (b : Act), YieldsIf P ops S oi v b → ∀ u, YieldsIf P ops S oi v (b.put oj.dst u) := fun b hb u => hb.of_same (execOp_put oi hsi b oj.dst u h3) (wanted_put oi b oj.dst u h3)
  unfold wpOpIn at h ⊢
  simp only [hj] at h ⊢
  rw [wanted_put oj a oi.dst v h1] at h
  by_cases hw : Region.wanted oj (yielded ops a.tmps) = true
  · rw [if_pos hw] at h ⊢
    refine ⟨fun _ _ => trivial, ?_⟩
    have h := h.2
    rw [show Fence.wide.round = none from rfl, Oper.semAt_none] at h ⊢
    rw [execOp_put oj hsj a oi.dst v h1] at h
    generalize (execOp a.eval oj).run P w = r at h ⊢
    rcases r with ⟨x, w'⟩ | ⟨x, w'⟩
    · cases x with
      | value u => exact ⟨stay a hy u, by rw [← Act.put_comm a v u h2]; exact h⟩
      | skip => exact ⟨stay a hy _, by rw [← Act.put_comm a v undef h2]; exact h⟩
      | defer d => exact ⟨stay { a with defers := d :: a.defers } (hy.of_same rfl rfl) _, by rw [← Act.put_comm _ v undef h2, ← Act.put_defers]; exact h⟩
      | enter f args =>
        refine ⟨h.1, CallsIn.mono h.2 fun e w'' he => ?_⟩
        cases e with
        | returned u => exact ⟨stay a hy u, by rw [← Act.put_comm a v u h2]; exact he⟩
        | panicked c => exact hQ _ _ _ he
        | outgrown => exact he
      | row r args => exact ⟨h.1, RowsIn.mono h.2 fun u w'' he => ⟨stay a hy u, by rw [← Act.put_comm a v u h2]; exact he⟩⟩
      | round l f tmps assign body =>
        refine ⟨h.1, RoundIn.mono h.2 fun e w'' he => ?_⟩
        cases e with
        | returned u => exact ⟨stay a hy u, by rw [← Act.put_comm a v u h2]; exact he⟩
        | panicked c => exact hQ _ _ _ he
        | outgrown => exact he
      | _ => exact h
    · cases x with
      | panic u => exact hQ _ _ _ h
      | _ => exact h
  · rw [if_neg hw] at h ⊢
    exact ⟨fun _ _ => trivial, stay a hy _, by rw [← Act.put_comm a v undef h2]; exact h.2⟩
theorem takeI_all {i : Nat} {oi : Oper} {v : Value} (hi : ops[i]? = some oi) (hsel : ∀ (j : Nat) (o : Oper) cs b, ops[j]? = some o → o.op ≠ .select cs b) (hQ : ∀ c a w, Q (.panic c) (a.put oi.dst v) w → Q (.panic c) a w) :
    ∀ (fuel : Nat) (listed : Array Bool) (a : Act) (w : World), (∀ j oj, ops[j]? = some oj → j ≠ i → listed.getD j true = false → (∀ e ∈ oj.after, Region.binds md e = true → e.on ≠ i) → oi.apart ops oj = true) →
      i ∈ Region.ready md ops listed → YieldsIf P ops S oi v a → S w → anyHI n P md ops Q S fuel (listed.setIfInBounds i true) (a.put oi.dst v) w → anyHI n P md ops Q S (fuel + 1) listed a w
  | fuel, listed, a, w, free, hr, hy, hS, H => by
    refine ⟨fun h => (by rw [h] at hr; cases hr), fun j hj => ?_⟩
    by_cases hji : j = i
    · subst hji; exact opI_here hi hy hS ⟨hS, H⟩
    have hj' := ready_mono hj hji
    cases fuel with
    | zero => rw [H.1] at hj'; cases hj'
    | succ fuel =>
      obtain ⟨hjun, oj, hoj, hall⟩ := mem_ready.1 hj
      have hnot : ∀ e ∈ oj.after, Region.binds md e = true → e.on ≠ i := fun e he hb heq => by
        have g1 := hall e he hb
        have g0 := (mem_ready.1 hr).1
        rw [heq] at g1
        rcases Nat.lt_or_ge i listed.size with h' | h'
        · simp [h'] at g0 g1; rw [g0] at g1; cases g1
        · simp [Array.getElem?_eq_none h'] at g1
      refine wpOpIn_mono (fun a' w' h3 => ⟨h3.2.1, takeI_all hi hsel hQ fuel (listed.setIfInBounds j true) a' w' (fun k ok hk hki hun hno => free k ok hk hki ?_ hno) (ready_mono hr (Ne.symm hji)) h3.1 h3.2.1 (by rw [Array.setIfInBounds_comm _ _ hji]; exact h3.2.2)⟩)
        (opI_swap hoj (free j oj hoj hji hjun hnot) (fun cs b => hsel i oi cs b hi) (fun cs b => hsel j oj cs b hoj) hQ hy (H.2 j hj'))
      by_cases hjk : j = k
      · subst hjk; exact hjun
      · rw [getD_set_ne true hjk] at hun; exact hun
/-- An operation that yields its value in each world of the class is taken first. -/
theorem pureI {i : Nat} {oi : Oper} {v : Value} {fuel : Nat} {listed : Array Bool} {a : Act} {w : World} (hi : ops[i]? = some oi) (hs : Region.noSelect ops = true) (hf : Region.free md ops listed i = true) (hr : (Region.ready md ops listed).contains i = true)
    (hQ : ∀ c a w, Q (.panic c) (a.put oi.dst v) w → Q (.panic c) a w) (hw : Region.wanted oi (yielded ops a.tmps) = true) (hrun : ∀ w, S w → (execOp a.eval oi).run P w = .ok (.value v) w) (hS : S w)
    (h : S w → anyHI n P md ops Q S fuel (listed.setIfInBounds i true) (a.put oi.dst v) w) : anyHI n P md ops Q S (fuel + 1) listed a w :=
  takeI_all hi (Region.noSelect_spec hs) hQ fuel listed a w (Region.free_spec hi hf) (by simpa using hr) (.inl ⟨hw, hrun⟩) hS (h hS)
/-- The only one that may come up. -/
theorem oneI {i : Nat} {oi : Oper} {fuel : Nat} {listed : Array Bool} {a : Act} {w : World} (hr : Region.ready md ops listed = [i]) (hi : ops[i]? = some oi) (hw : Region.wanted oi (yielded ops a.tmps) = true)
    (h : ∀ K : Act → World → Prop, (∀ a w, S w → (S w → anyHI n P md ops Q S fuel (listed.setIfInBounds i true) a w) → K a w) → oi.wpIn Fence.wide n P a w K Q) : anyHI n P md ops Q S (fuel + 1) listed a w := by
  refine ⟨fun h0 => (by rw [hr] at h0; cases h0), fun j hj => ?_⟩
  rw [hr, List.mem_singleton] at hj
  subst hj
  unfold wpOpIn
  simp only [hi]
  rw [if_pos hw]
  exact h _ (fun a w hS hW => ⟨hS, hW hS⟩)
theorem doneI {listed : Array Bool} {a : Act} {w : World} (hr : Region.ready md ops listed = []) (h : Q .normal a w) : ∀ fuel, anyHI n P md ops Q S fuel listed a w
  | 0 => ⟨hr, h⟩
  | _ + 1 => ⟨fun _ => h, by rw [hr]; simp⟩
theorem regionI {id : Nat} {a : Act} {w : World} (hm : P.follows .mixedOrders = true) (hS : S w.drew) (h : S w.drew → anyHI n P .any ops Q S ops.size (Array.replicate ops.size false) a w.drew) : (Code.region id ops true).wpIn Fence.wide n P Q a w :=
  wpIn_region_any hm (any_of_HI _ _ _ _ (h hS))
/-- A call of a function of the program, by its plain contract. -/
theorem callI {o : Oper} {a : Act} {w : World} {K : Act → World → Prop} {f : FuncId} {args : Array Value} (hrun : (execOp a.eval o).run P w = .ok (.enter f args) w) (h : Calls P f args w fun e w' => ∃ v, e = .returned v ∧ K (a.put o.dst v) w') : o.wpIn Fence.wide n P a w K Q := by
  refine ⟨fun _ _ => trivial, ?_⟩
  rw [show Fence.wide.round = none from rfl, Oper.semAt_none, hrun]
  exact ⟨fun h => (by cases h), (callsIn_wide.2 h).mono fun e w' he => by obtain ⟨v, rfl, hk⟩ := he; exact hk⟩
/-- A call of yield. -/
theorem yieldI {o : Oper} {a : Act} {w : World} {K : Act → World → Prop} {l : Nat} {args : Array Value} {R : Ending → World → Prop} (hrun : (execOp a.eval o).run P w = (Instr.yield l args).run P w) (hY : YieldAt Fence.wide (n - 1) P l args w R)
    (h : ∀ e w', R e w' → ∃ v, e = .returned v ∧ K (a.put o.dst v) w') : o.wpIn Fence.wide n P a w K Q := by
  obtain ⟨fn, tmps, assign, body, hy, hR⟩ := hY
  refine ⟨fun _ _ => trivial, ?_⟩
  rw [show Fence.wide.round = none from rfl, Oper.semAt_none, hrun, hy]
  exact ⟨fun h => (by cases h), hR.mono fun e w' he => by obtain ⟨v, rfl, hk⟩ := h e w' he; exact hk⟩
end
/-! ### A range that never leaves its iterator early -/
/-- What a list of elements is said of stays, whatever is laid, whatever walk's object turns, and whatever is written into one block of cells of a type. -/
def StaysAt {β : Type} (T : TypeId) (B : Nat) (J : β → World → Prop) : Prop :=
  ∀ s W W' row, J s W → W.grownBy W' row → (∀ k, row = some k → (B ≤ k ∧ ∃ o : Obj, W.heap[k]? = some o ∧ o.isWalk = true) ∨ (k = B ∧ ∃ cs, W.heap[k]? = some (.cells cs T (0, 0)))) → J s W'
/-- An iterator's promise where each round goes on: its elements come in order, all of them; of each, when it comes, G is known. It may write into the first block that it lays, if that is of type T. -/
def SeqAll {α : Type} (m : Nat) (P : Program) (T : TypeId) (g : Nat) (lb : Array Value) (encs : α → Array Value) (G : List α → α → World → Prop) (Kp : World → World → Prop) (S : List α → Prop) (w : World) : Prop :=
  ∀ (l : Nat) (J : List α → World → Prop) (W : World), Below w.heap.size w W → StaysAt T W.heap.size J →
    (∀ pre x X, J pre X → G pre x X → W.heap.size < X.heap.size → YieldAt Fence.wide (m - 1) P l (encs x) X fun e Y => e = .returned (.bool true) ∧ J (pre ++ [x]) Y ∧ Kp X Y) →
    J [] W →
    CallsIn Fence.wide m P g (#[.func (.yield l) #[] #[]] ++ lb) W fun e Y => (∃ v, e = .returned v) ∧ ∃ xs, S xs ∧ J xs Y
theorem range_all {α : Type} {n : Nat} {P : Program} {T : TypeId} {g : Operand} {ps : Array Tmp} {assign body : Code} {Q : Exit → Act → World → Prop} {a : Act} {w : World} (h1 : 1 ≤ n)
    {gf : Nat} {lb : Array Value} (hg : a.eval g = .func (.func gf) #[] lb) (eg : ∀ args w, (callFunc gf args).run P w = .ok (.enter gf args) w)
    {encs : α → Array Value} {G : List α → α → World → Prop} {Kp : World → World → Prop} {S : List α → Prop} {w0 : World} (hseq : SeqAll (n - 1) P T gf lb encs G Kp S w0)
    (hKt : ∀ {A B C : World}, Kp A B → Kp B C → Kp A C) (hKb : ∀ (W : World) (l : Nat) (r r' : Loop), w.heap.size ≤ l → W.heap[l]? = some (.loop r) → Kp W (W.putObj l (.loop r')))
    (hb0 : Below w0.heap.size w0 w) (hps : ∀ x, (encs x).size = ps.size)
    (hG : ∀ (pre : List α) (x : α) (W : World) (l : Nat) (r r' : Loop), G pre x W → w.heap.size ≤ l → W.heap[l]? = some (.loop r) → G pre x (W.putObj l (.loop r')))
    (I : List α → World → Prop) (hI : OwnFrom w.heap.size I) (hI2 : ∀ s W W' k cs, I s W → W.grownBy W' (some k) → k = w.heap.size + 2 → W.heap[k]? = some (.cells cs T (0, 0)) → I s W') (h0 : I [] w) (a₁ : α → World → Act) (asg : α → World → World) (hag : ∀ (x : α) (W : World), W.grownBy (asg x W) none) (hGa : ∀ pre x W, G pre x W → G pre x (asg x W)) (hKa : ∀ (x : α) (W : World), w.heap.size ≤ W.heap.size → Kp W (asg x W))
    (hassign : ∀ (l : Nat) (x : α) (W : World) (K : Act → World → Prop), K (a₁ x W) (asg x W) →
      assign.wpIn (Fence.wide.inRound l) (n - 1 - 1) P (Exit.then K (fun _ _ _ => False)) { tmps := (ps.zip (encs x)).foldl (fun t (p, v) => t.setIfInBounds p v) a.tmps, defers := [] } W)
    (hbody : ∀ (l : Nat) (pre : List α) (x : α) (V W : World), I pre W → G pre x W → w.heap.size + 2 < W.heap.size → (∃ r, W = (asg x V).putObj l (.loop r)) → l < V.heap.size → body.wpIn (Fence.wide.inRound l) (n - 1 - 1) P (ownPostG w.heap.size Kp I (fun _ _ _ => False) (pre ++ [x]) W) (a₁ x V) W)
    (hdone : ∀ (D : Nat) (xs : List α) (W : World), w.heap.size ≤ D → S xs → I xs W → W.heap[D]? = some (.deferred (some [])) → Q .normal { a with defers := { target := .collected D, args := #[] } :: a.defers } W) :
    (Code.rangeFunc g ps assign body).wpIn Fence.wide n P Q a w := by
  refine wpIn_rangeFunc fun fn _ => ?_
  have t1 := Two.first w (recd fn a ps assign body w.heap.size .ready none)
  have b1 : Below w0.heap.size w0 ((w.alloc (.deferred (some []))).alloc (.loop (recd fn a ps assign body w.heap.size .ready none))) := (hb0.alloc hb0.size _).alloc (by have := hb0.size; simp; omega) _
  have i1 : I [] ((w.alloc (.deferred (some []))).alloc (.loop (recd fn a ps assign body w.heap.size .ready none))) := hI.alloc _ (hI.alloc _ h0)
  have z1 : ((w.alloc (.deferred (some []))).alloc (.loop (recd fn a ps assign body w.heap.size .ready none))).heap.size = w.heap.size + 2 := by simp
  obtain ⟨W1, hW1⟩ : ∃ W1, W1 = (w.alloc (.deferred (some []))).alloc (.loop (recd fn a ps assign body w.heap.size .ready none)) := ⟨_, rfl⟩
  rw [← hW1] at t1 b1 i1 z1
  refine ⟨w.heap.size + 1, [{ target := .collected w.heap.size, args := #[] }], W1, { target := .fn (.func gf) lb, args := #[.func (.yield (w.heap.size + 1)) #[] #[]] }, W1, gf, #[.func (.yield (w.heap.size + 1)) #[] #[]] ++ lb, W1,
    ?_, ?_, fun _ _ => trivial, ?_, fun _ => h1, ?_⟩
  · rw [hW1]; exact run_enterLoop_outer fn a.tmps ps assign body
  · simp only [resolve, hg]; simp [go_sem]
  · simp [invoke, go_sem, eg]
  · refine (hseq (w.heap.size + 1) (fun pre W => I pre W ∧ Two W w.heap.size (recd fn a ps assign body w.heap.size .ready none)) _ b1 ?_ ?_ ⟨i1, t1⟩).mono ?_
    · rintro s A B row ⟨hi, ht⟩ hgr hr
      cases row with
      | none => exact ⟨hI s A B none hi hgr (fun r e => by cases e), ht.abides hgr (fun r e => by cases e)⟩
      | some k =>
        rcases hr k rfl with ⟨hk, o, ho, hw⟩ | ⟨hk, cs, ho⟩
        · exact ⟨hI s A B _ hi hgr (fun r e => by cases e; exact ⟨by omega, o, ho, Obj.not_cells_of_walk hw⟩), ht.abides hgr (fun r e => by cases e; exact ⟨o, ho, hw⟩)⟩
        · refine ⟨hI2 s A B k cs hi hgr (by omega) ho, ⟨(hgr.block _ (heap_lt ht.calls) (fun e => ?_)).trans ht.calls, (hgr.block _ (heap_lt ht.rec_) (fun e => ?_)).trans ht.rec_⟩⟩
          · injection e with e; rw [← e, ht.calls] at ho; cases ho
          · injection e with e; rw [← e, ht.rec_] at ho; cases ho
    · rintro pre x X ⟨hi, ht⟩ hgx hzX
      have ha := ht.abides (hag x X) (fun r e => by cases e)
      have hia := hI pre X _ none hi (hag x X) (fun r e => by cases e)
      have hza := (hag x X).size
      refine ⟨fn, _, assign, body, run_yield ht.rec_ (hps x), roundIn_of_wpIn trivial (hassign _ x X _ ⟨_, run_beginRound ha.rec_ rfl, ?_⟩)⟩
      have hbu := ha.turn (recd fn a ps assign body w.heap.size .busy none)
      have hk0 : Kp X ((asg x X).putObj (w.heap.size + 1) (.loop (recd fn a ps assign body w.heap.size .busy none))) := hKt (hKa x X (by have := heap_lt ht.rec_; omega)) (hKb _ _ _ _ (by omega) ha.rec_)
      refine wpIn_mono (hbody _ pre x X _ (hI.putObj _ hia (by omega) ha.rec_ rfl) (hG pre x _ _ _ _ (hGa pre x X hgx) (by omega) ha.rec_) (by simp; omega) ⟨_, rfl⟩ (heap_lt ht.rec_)) (fun e b Y hp => ?_)
      cases e with
      | normal =>
        have ht2 := hbu.keeps hp.1
        exact ⟨_, _, run_endRound none ht2.rec_, rfl, ⟨hI.putObj _ hp.2.2 (by omega) ht2.rec_ rfl, ht2.turn _⟩, hKt (hKt hk0 hp.2.1) (hKb _ _ _ _ (by omega) ht2.rec_)⟩
      | ret => exact hp.2.elim
      | exit id => exact hp.2.elim
      | goto t => exact hp.2.elim
      | panic c => exact hp.elim
      | outgrown => exact hp.elim
    · rintro e Y ⟨⟨v, rfl⟩, xs, hs, hi, ht⟩
      exact ⟨none, _, run_endLoop ht.rec_ (by simp [recd]), hdone _ xs _ (Nat.le_refl _) hs (hI.putObj _ hi (by omega) ht.rec_ rfl) (ht.turn _).calls⟩
/-- The same where the round begins by a box for what came. -/
theorem range_box {α : Type} {n : Nat} {P : Program} {T : TypeId} {g : Operand} {ps : Array Tmp} {assign body : Code} {Q : Exit → Act → World → Prop} {a : Act} {w : World} (h1 : 1 ≤ n) (d : Tmp) (T' : TypeId)
    {gf : Nat} {lb : Array Value} (hg : a.eval g = .func (.func gf) #[] lb) (eg : ∀ args w, (callFunc gf args).run P w = .ok (.enter gf args) w)
    {encs : α → Array Value} {cells : α → Array Value} {G : List α → α → World → Prop} {Kp : World → World → Prop} {S : List α → Prop} {w0 : World} (hseq : SeqAll (n - 1) P T gf lb encs G Kp S w0)
    (hKt : ∀ {A B C : World}, Kp A B → Kp B C → Kp A C) (hKb : ∀ (W : World) (l : Nat) (r r' : Loop), w.heap.size ≤ l → W.heap[l]? = some (.loop r) → Kp W (W.putObj l (.loop r')))
    (hb0 : Below w0.heap.size w0 w) (hps : ∀ x, (encs x).size = ps.size)
    (hG : ∀ (pre : List α) (x : α) (W : World) (l : Nat) (r r' : Loop), G pre x W → w.heap.size ≤ l → W.heap[l]? = some (.loop r) → G pre x (W.putObj l (.loop r')))
    (I : List α → World → Prop) (hI : OwnFrom w.heap.size I) (hI2 : ∀ s W W' k cs, I s W → W.grownBy W' (some k) → k = w.heap.size + 2 → W.heap[k]? = some (.cells cs T (0, 0)) → I s W') (h0 : I [] w)
    (hGa : ∀ pre x W o, G pre x W → G pre x (W.alloc o)) (hKa : ∀ (W : World) o, w.heap.size ≤ W.heap.size → Kp W (W.alloc o))
    (hassign : ∀ (l : Nat) (x : α) (W : World) (K : Act → World → Prop), K ((({ tmps := (ps.zip (encs x)).foldl (fun t (p, v) => t.setIfInBounds p v) a.tmps, defers := [] } : Act).put (some d) (.pointer (some ⟨W.heap.size, 0, none⟩))).put none undef) (W.alloc (.cells (cells x) T')) →
      assign.wpIn (Fence.wide.inRound l) (n - 1 - 1) P (Exit.then K (fun _ _ _ => False)) { tmps := (ps.zip (encs x)).foldl (fun t (p, v) => t.setIfInBounds p v) a.tmps, defers := [] } W)
    (hbody : ∀ (l : Nat) (pre : List α) (x : α) (b : Nat) (W : World), I pre W → G pre x W → w.heap.size + 2 < W.heap.size → W.heap[b]? = some (.cells (cells x) T' (0, 0)) → body.wpIn (Fence.wide.inRound l) (n - 1 - 1) P (ownPostG w.heap.size Kp I (fun _ _ _ => False) (pre ++ [x]) W)
      ((({ tmps := (ps.zip (encs x)).foldl (fun t (p, v) => t.setIfInBounds p v) a.tmps, defers := [] } : Act).put (some d) (.pointer (some ⟨b, 0, none⟩))).put none undef) W)
    (hdone : ∀ (D : Nat) (xs : List α) (W : World), w.heap.size ≤ D → S xs → I xs W → W.heap[D]? = some (.deferred (some [])) → Q .normal { a with defers := { target := .collected D, args := #[] } :: a.defers } W) :
    (Code.rangeFunc g ps assign body).wpIn Fence.wide n P Q a w :=
  range_all h1 hg eg hseq hKt hKb hb0 hps hG I hI hI2 h0
    (fun x W => (({ tmps := (ps.zip (encs x)).foldl (fun t (p, v) => t.setIfInBounds p v) a.tmps, defers := [] } : Act).put (some d) (.pointer (some ⟨W.heap.size, 0, none⟩))).put none undef) (fun x W => W.alloc (.cells (cells x) T'))
    (fun x W => World.grownBy_alloc W _ none) (fun pre x W h => hGa pre x W _ h) (fun x W hz => hKa W _ hz) hassign
    (fun l pre x V W hi hg hz hW hl => hbody l pre x V.heap.size W hi hg hz (by
      obtain ⟨r, rfl⟩ := hW
      rw [World.putObj_heap_other (by omega)]
      exact World.alloc_heap_new V _)) hdone
/-- An operation of a list within a round that yields a value, or stores. -/
theorem listR_val {l n : Nat} {P : Program} {ops : Array Oper} {rest : List Oper} {o : Oper} {a : Act} {w : World} {Q : Exit → Act → World → Prop} {v : Value} (hg : o.guard = none) (hd : ∀ c, o.op ≠ .defer c) (hrun : (execOp a.eval o).run P w = .ok (.value v) w)
    (h : wpListIn (Fence.wide.inRound l) n P ops Q rest (a.put o.dst v) w) : wpListIn (Fence.wide.inRound l) n P ops Q (o :: rest) a w :=
  wpListIn_plain hg fun K hK => ⟨fun _ _ => trivial, by rw [Oper.semAt_plain _ _ _ hd, hrun]; exact hK _ _ h⟩
theorem listR_skip {l n : Nat} {P : Program} {ops : Array Oper} {rest : List Oper} {o : Oper} {a : Act} {w w' : World} {Q : Exit → Act → World → Prop} (hg : o.guard = none) (hd : ∀ c, o.op ≠ .defer c) (hrun : (execOp a.eval o).run P w = .ok .skip w')
    (h : wpListIn (Fence.wide.inRound l) n P ops Q rest (a.put o.dst undef) w') : wpListIn (Fence.wide.inRound l) n P ops Q (o :: rest) a w :=
  wpListIn_plain hg fun K hK => ⟨fun _ _ => trivial, by rw [Oper.semAt_plain _ _ _ hd, hrun]; exact hK _ _ h⟩
theorem listR_grow {l n : Nat} {P : Program} {ops : Array Oper} {rest : List Oper} {o : Oper} {a : Act} {w w' : World} {Q : Exit → Act → World → Prop} {v : Value} (hg : o.guard = none) (hd : ∀ c, o.op ≠ .defer c) (hrun : (execOp a.eval o).run P w = .ok (.value v) w')
    (h : wpListIn (Fence.wide.inRound l) n P ops Q rest (a.put o.dst v) w') : wpListIn (Fence.wide.inRound l) n P ops Q (o :: rest) a w :=
  wpListIn_plain hg fun K hK => ⟨fun _ _ => trivial, by rw [Oper.semAt_plain _ _ _ hd, hrun]; exact hK _ _ h⟩
end Go.Proofs.Ytcebobcakiljhaa
