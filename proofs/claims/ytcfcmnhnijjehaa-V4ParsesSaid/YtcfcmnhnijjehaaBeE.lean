/-
  Contract of layer 1's awake: it answers true, and turns nothing that was there. Conditions: none.
-/
import Derived.Test.YtcfcmnhnijjehaaBeD
namespace Go.Proofs.Ytcfcmnhnijjehaa
open Go.RowKit

theorem get_awake (g : Nat) (w : World) (hg : w.heap[g]? = some (.cells #[.int .u8 1, .int .u8 2, .int .u8 3] 5 (0, 0))) :
    Calls Try.prog 84 #[.slice (some ⟨g, 0, none⟩) 3 3, .int .i64 1, .int .i64 2] w fun e w' => e = .returned (.tuple #[.int .i64 515, .int .i64 0]) ∧ w = w' := by
  have h := get_any (some ⟨g, 0, none⟩) [1, 2, 3] 3 (g + 1) 1 2 w (Rd.of_block hg (Nat.lt_succ_self g) 0 (fun j hj => by
    have : j = 0 ∨ j = 1 ∨ j = 2 := by simp at hj; omega
    rcases this with rfl | rfl | rfl <;> rfl)) (by decide) (by decide)
  have e1 : getV [1, 2, 3] 1 2 = 515 := by decide
  have e2 : getE [(1 : UInt8), 2, 3].length 1 2 = 0 := by decide
  rw [e1, e2] at h
  exact h

theorem put_awake (w : World) :
    Calls Try.prog 72 #[.slice none 0 0, .int .i64 258, .int .i64 2] w fun e w' => ∃ A c, e = .returned (.slice A 2 c) ∧ Rd w' w'.heap.size A [1, 2] ∧ Below w.heap.size w w' := by
  have h := put_any none [] 0 0 258 2 w Rd.nil (Nat.zero_le _) (by decide)
  have e1 : putB [] 258 2 = [1, 2] := by decide
  rw [e1] at h
  exact h.mono fun e w' ⟨v, he, A, c, hv, _, hr, _, hb⟩ => ⟨A, c, by rw [he, hv]; rfl, hr, hb⟩

theorem equal_awake (A A' : Option Addr) (c c' B B' : Nat) (w : World) (h : Rd w B A [1, 2]) (h' : Rd w B' A' [1, 2]) :
    Calls Try.prog 21 #[.slice A 2 c, .slice A' 2 c'] w fun e w' => e = .returned (.bool true) ∧ w = w' := by
  have := equal_any A A' [1, 2] [1, 2] c c' B B' w h h'
  rw [show decide ([(1 : UInt8), 2] = [1, 2]) = true from by decide] at this
  exact this

theorem Rd.two {W : World} (t : TypeId) : Rd (W.alloc (.cells #[.int .u8 1, .int .u8 2] t)) (W.heap.size + 1) (some ⟨W.heap.size, 0, none⟩) [1, 2] :=
  Rd.of_block (g := W.heap.size) (World.alloc_heap_new W _) (Nat.lt_succ_self _) 0 (fun j hj => by
    have : j = 0 ∨ j = 1 := by simp at hj; omega
    rcases this with rfl | rfl <;> rfl)

theorem num_digs {n : Int} {k : Nat} (h1 : 1 ≤ k) (h4 : k ≤ 4) (h0 : 0 ≤ n) (hn : n < pw k) : num (digs n k) = n := by
  have hv := fun i => dig_val h0 k i
  have hk : k = 1 ∨ k = 2 ∨ k = 3 ∨ k = 4 := by omega
  rcases hk with rfl | rfl | rfl | rfl
  · have v0 := hv 0
    simp [pw] at v0 hn
    simp only [digs, num, List.range_succ, List.range_zero, List.nil_append, List.map_cons, List.map_nil, List.foldl_cons, List.foldl_nil, v0]
    omega
  · have v0 := hv 0; have v1 := hv 1
    simp [pw] at v0 v1 hn
    simp only [digs, num, List.range_succ, List.range_zero, List.nil_append, List.cons_append, List.map_cons, List.map_nil, List.foldl_cons, List.foldl_nil, v0, v1]
    omega
  · have v0 := hv 0; have v1 := hv 1; have v2 := hv 2
    simp [pw] at v0 v1 v2 hn
    simp only [digs, num, List.range_succ, List.range_zero, List.nil_append, List.cons_append, List.map_cons, List.map_nil, List.foldl_cons, List.foldl_nil, v0, v1, v2]
    omega
  · have v0 := hv 0; have v1 := hv 1; have v2 := hv 2; have v3 := hv 3
    simp [pw] at v0 v1 v2 v3 hn
    simp only [digs, num, List.range_succ, List.range_zero, List.nil_append, List.cons_append, List.map_cons, List.map_nil, List.foldl_cons, List.foldl_nil, v0, v1, v2, v3]
    omega

/-- Get of what Put put behind is the number. -/
theorem get_put (bs : List UInt8) {n s : Int} (h : fitsB n s = true) :
    getV (putB bs n s) bs.length s = n ∧ getE (putB bs n s).length bs.length s = 0 ∧ (putB bs n s).length ≤ bs.length + 4 := by
  have hf := fitsB_iff.1 h
  obtain ⟨k, rfl⟩ := Int.eq_ofNat_of_zero_le (show 0 ≤ s by omega)
  have hp : putB bs n k = bs ++ digs n k := by simp [putB, h]
  have hl : (bs ++ digs n k).length = bs.length + k := by rw [List.length_append, digs_length]
  rw [hp]
  refine ⟨?_, getE_ok ⟨hf.1, hf.2.1, by omega⟩ (by rw [hl]; omega), by rw [hl]; omega⟩
  rw [getV_ok (by omega) (by omega) (by omega), List.drop_left, List.take_of_length_le (by rw [digs_length]; exact Nat.le_refl _)]
  exact num_digs (by omega) (by omega) hf.2.2.1 (by simpa using hf.2.2.2)

theorem equal_same (A A' : Option Addr) (bs : List UInt8) (c c' B B' : Nat) (w : World) (h : Rd w B A bs) (h' : Rd w B' A' bs) :
    Calls Try.prog 21 #[.slice A bs.length c, .slice A' bs.length c'] w fun e w' => e = .returned (.bool true) ∧ w = w' := by
  have := equal_any A A' bs bs c c' B B' w h h'
  rw [show decide (bs = bs) = true from by simp] at this
  exact this

/-! ### For ranges over Words -/
theorem rword_dbl (A : Option Addr) (bs : List UInt8) (c B i : Nat) (w : World) (h : Rd w B A bs) (hi : i < prs bs.length) (hl : bs.length ≤ 1099511627776) :
    Calls Try.prog 82 #[.slice A bs.length c, .int .i64 (dbl i)] w fun e w' => e = .returned (.int .i64 (wrd bs i)) ∧ ∃ n, w' = w.drewN n :=
  rword_any A bs c B (2 * i) w h (by unfold prs at hi; omega) hl
theorem dbl_lt {n i : Nat} (h : i < prs n) : dbl i < (n : Int) := by unfold prs at h; unfold dbl; omega
theorem dbl_ne {i j : Nat} (h : i ≠ j) : (dbl i != dbl j) = true := by rw [bne_iff_ne]; unfold dbl; omega
theorem dbl_succ (i : Nat) : dbl (i + 1) = dbl i + 2 := by unfold dbl; omega
theorem dbl_bd {n i : Nat} (h : i ≤ prs n) : 0 ≤ dbl i ∧ dbl i ≤ (n : Int) + 1 := by unfold prs at h; unfold dbl; omega
theorem dbl_all (n : Nat) : (n : Int) ≤ dbl (prs n) ∧ dbl (prs n) ≤ (n : Int) + 1 := by unfold prs dbl; omega
theorem Boxed.below {W W' : World} {B t : Nat} {v : Value} {B' : Nat} (h : Boxed W B t v) (hb : Below B' W W') (hB : B < B') : Boxed W' B t v := (hb.block B hB).trans h
theorem below_drewN {B : Nat} {a w : World} (h : Below B a w) (n : Nat) : Below B a (w.drewN n) := ⟨h.os, h.tape, h.output, h.size, h.block⟩
theorem Holds.drewN {lo hi : Nat} {W W' : World} (h : Holds lo hi W W') (n : Nat) : Holds lo hi W (W'.drewN n) := h
theorem KeepsFrom.drewN {B : Nat} {W W' : World} (h : KeepsFrom B W W') (n : Nat) : KeepsFrom B W (W'.drewN n) := ⟨h.size, h.same⟩

theorem box_keep {X Y : World} {B t n : Nat} {v : Value} {r : Option Nat} (h : Boxed X B t v) (hg : X.grownBy Y r) (hr : ∀ k, r = some k → n ≤ k ∧ ∃ o : Obj, X.heap[k]? = some o ∧ o.isCells = false) : Boxed Y B t v :=
  Own.from (boxed_own (β := Unit) B t (fun _ => v)) n () X Y r h hg hr
theorem below_keep {w X Y : World} {n n0 : Nat} {r : Option Nat} (h : Below n0 w X) (hg : X.grownBy Y r) (hr : ∀ k, r = some k → n ≤ k ∧ ∃ o : Obj, X.heap[k]? = some o ∧ o.isCells = false) (hn : n0 ≤ n) (hw : n0 ≤ w.heap.size) : Below n0 w Y :=
  h.grown hg (Nat.le_trans hw h.size) (fun k e => Nat.le_trans hn (hr k e).1)
end Go.Proofs.Ytcfcmnhnijjehaa
