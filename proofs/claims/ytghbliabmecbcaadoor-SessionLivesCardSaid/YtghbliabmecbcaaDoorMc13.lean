/-
  Contracts and lemmas on which the proofs of this seat stand (several texts in one). Conditions are each theorem's own.
-/
import Derived.Test.YtghbliabmecbcaaDoorMc12
import Derived.Test.YtghbliabmecbcaaDoorMc2
import Derived.Test.YtghbliabmecbcaaDoorMc6
import Derived.Test.YtghbliabmecbcaaDoorMc7
import Derived.Test.YtghbliabmecbcaaDoorMc5
import Derived.Test.YtghbliabmecbcaaDoorMc9
import Derived.Test.YtghbliabmecbcaaDoorTie
import Derived.LaidMore
import Derived.Stop.LaidErr

/-
  What lies about while sessions are added, removed and looked through (layer 24). Conditions are each theorem's own.
-/
namespace Go.Proofs.YtghbliabmecbcaaDoor
open Go.RowKit Go.Shelf Go.Maps
theorem range_toldWS {α : Type} {n : Nat} {P : Program} {g : Operand} {ps : Array Tmp} {assign body : Code} {Q : Exit → Act → World → Prop} {a : Act} {w : World} (h1 : 1 ≤ n)
    {gf : Nat} {lb : Array Value} (hg : a.eval g = .func (.func gf) #[] lb) (eg : ∀ args w, (callFunc gf args).run P w = .ok (.enter gf args) w)
    {encs : α → Array Value} {G : List α → α → World → Prop} {Kp : World → World → Prop} {S Sp : List α → Prop} {w0 : World} (hseq : SeqTold (n - 1) P gf lb encs G Kp S Sp w0)
    (hKt : ∀ {A B C : World}, Kp A B → Kp B C → Kp A C) (hKb : ∀ (W : World) (l : Nat) (r r' : Loop), w.heap.size ≤ l → W.heap[l]? = some (.loop r) → Kp W (W.putObj l (.loop r')))
    (hb0 : Below w0.heap.size w0 w) (hps : ∀ x, (encs x).size = ps.size)
    (hG : ∀ (pre : List α) (x : α) (W : World) (l : Nat) (r r' : Loop), G pre x W → w.heap.size ≤ l → W.heap[l]? = some (.loop r) → G pre x (W.putObj l (.loop r')))
    (I : List α → World → Prop) (Ix : Code → List α → World → Prop) (hI : OwnFrom w.heap.size I) (hIx : ∀ c, OwnFrom w.heap.size (Ix c)) (h0 : I [] w) (a₁ : α → World → Act) (asg : α → World → World) (hag : ∀ (x : α) (W : World), W.grownBy (asg x W) none) (hGa : ∀ pre x W, G pre x W → G pre x (asg x W)) (hKa : ∀ (x : α) (W : World), w.heap.size ≤ W.heap.size → Kp W (asg x W))
    (hassign : ∀ (l : Nat) (x : α) (W : World) (K : Act → World → Prop), K (a₁ x W) (asg x W) →
      assign.wpIn (Fence.wide.inRound l) (n - 1 - 1) P (Exit.then K (fun _ _ _ => False)) { tmps := (ps.zip (encs x)).foldl (fun t (p, v) => t.setIfInBounds p v) a.tmps, defers := [] } W)
    (hbody : ∀ (l : Nat) (pre : List α) (x : α) (V W : World), I pre W → G pre x W → (∃ r, W = (asg x V).putObj l (.loop r)) → l < V.heap.size → body.wpIn (Fence.wide.inRound l) (n - 1 - 1) P (ownPostG w.heap.size Kp I Ix (pre ++ [x]) W) (a₁ x V) W)
    (hdone : ∀ (D : Nat) (xs : List α) (W : World), w.heap.size ≤ D → S xs → I xs W → W.heap[D]? = some (.deferred (some [])) → Q .normal { a with defers := { target := .collected D, args := #[] } :: a.defers } W)
    (hstop : ∀ (D : Nat) (c : Code) (pre : List α) (W : World), w.heap.size ≤ D → Sp pre → Ix c pre W → W.heap[D]? = some (.deferred (some [])) → c.wpIn Fence.wide n P Q { a with defers := { target := .collected D, args := #[] } :: a.defers } W) :
    (Code.rangeFunc g ps assign body).wpIn Fence.wide n P Q a w := by
  refine wpIn_rangeFunc fun fn _ => ?_
  have t1 := Two.first w (recd fn a ps assign body w.heap.size .ready none)
  have b1 : Below w0.heap.size w0 ((w.alloc (.deferred (some []))).alloc (.loop (recd fn a ps assign body w.heap.size .ready none))) := (hb0.alloc hb0.size _).alloc (by have := hb0.size; simp; omega) _
  have i1 : I [] ((w.alloc (.deferred (some []))).alloc (.loop (recd fn a ps assign body w.heap.size .ready none))) := hI.alloc _ (hI.alloc _ h0)
  have z1 : w.heap.size ≤ ((w.alloc (.deferred (some []))).alloc (.loop (recd fn a ps assign body w.heap.size .ready none))).heap.size := by simp; omega
  obtain ⟨W1, hW1⟩ : ∃ W1, W1 = (w.alloc (.deferred (some []))).alloc (.loop (recd fn a ps assign body w.heap.size .ready none)) := ⟨_, rfl⟩
  rw [← hW1] at t1 b1 i1 z1
  refine ⟨w.heap.size + 1, [{ target := .collected w.heap.size, args := #[] }], W1, { target := .fn (.func gf) lb, args := #[.func (.yield (w.heap.size + 1)) #[] #[]] }, W1, gf, #[.func (.yield (w.heap.size + 1)) #[] #[]] ++ lb, W1,
    ?_, ?_, fun _ _ => trivial, ?_, fun _ => h1, ?_⟩
  · rw [hW1]; exact run_enterLoop_outer fn a.tmps ps assign body
  · simp only [resolve, hg]; simp [go_sem]
  · simp [invoke, go_sem, eg]
  · refine (hseq (w.heap.size + 1) (fun pre W => I pre W ∧ Two W w.heap.size (recd fn a ps assign body w.heap.size .ready none))
      (fun pre W => ∃ c, Ix c pre W ∧ Two W w.heap.size (recd fn a ps assign body w.heap.size .done (some c))) _ b1 ?_ ?_ ?_ ⟨i1, t1⟩).mono ?_
    · rintro s A B row ⟨hi, ht⟩ hgr hr
      exact ⟨hI s A B row hi hgr fun r e => by obtain ⟨hB, o, ho, hw⟩ := hr r e; exact ⟨by omega, o, ho, Obj.not_cells_of_walk hw⟩, ht.abides hgr fun r e => (hr r e).2⟩
    · rintro s A B row ⟨c, hi, ht⟩ hgr hr
      exact ⟨c, hIx c s A B row hi hgr fun r e => by obtain ⟨hB, o, ho, hw⟩ := hr r e; exact ⟨by omega, o, ho, Obj.not_cells_of_walk hw⟩, ht.abides hgr fun r e => (hr r e).2⟩
    · rintro pre x X ⟨hi, ht⟩ hgx
      have ha := ht.abides (hag x X) (fun r e => by cases e)
      have hia := hI pre X _ none hi (hag x X) (fun r e => by cases e)
      have hza := (hag x X).size
      refine ⟨fn, _, assign, body, run_yield ht.rec_ (hps x), roundIn_of_wpIn trivial (hassign _ x X _ ⟨_, run_beginRound ha.rec_ rfl, ?_⟩)⟩
      have hbu := ha.turn (recd fn a ps assign body w.heap.size .busy none)
      exact wpIn_mono (hbody _ pre x X _ (hI.putObj _ hia (by omega) ha.rec_ rfl) (hG pre x _ _ _ _ (hGa pre x X hgx) (by omega) ha.rec_) ⟨_, rfl⟩ (heap_lt ht.rec_))
        (fun e b Y hp => by
          have hk0 : Kp X ((asg x X).putObj (w.heap.size + 1) (.loop (recd fn a ps assign body w.heap.size .busy none))) := hKt (hKa x X (by have := heap_lt ht.rec_; omega)) (hKb _ _ _ _ (by omega) ha.rec_)
          exact round_end (P := P) (pre := pre ++ [x]) (Kp := Kp) (I := I) (Ix := Ix) hI hIx hKt hKb X hk0 hbu e b hp)
    · rintro e Y ⟨⟨v, rfl⟩, ⟨xs, hs, hi, ht⟩ | ⟨pre, hs, c, hi, ht⟩⟩
      · exact ⟨none, _, run_endLoop ht.rec_ (by simp [recd]), hdone _ xs _ (Nat.le_refl _) hs (hI.putObj _ hi (by omega) ht.rec_ rfl) (ht.turn _).calls⟩
      · exact ⟨some c, _, run_endLoop ht.rec_ (by simp [recd]), hstop _ c pre _ (Nat.le_refl _) hs ((hIx c).putObj _ hi (by omega) ht.rec_ rfl) (ht.turn _).calls⟩
theorem Kept.of_grownNS {a b : World} {g : Nat} (h : a.grownBy b (some g)) : Kept (fun k => k = g) a b := (Kept.of_grown h).mono (fun _ _ e => by injection e)
theorem heap_ltOS {X : World} {i : Nat} {o : Obj} (h : X.heap[i]? = some o) : i < X.heap.size := (Array.getElem?_eq_some_iff.1 h).1
theorem listR_wantS {l n : Nat} {P : Program} {ops : Array Oper} {rest : List Oper} {o : Oper} {a : Act} {w : World} {Q : Exit → Act → World → Prop} {v : Value} (hw : Region.wanted o (yielded ops a.tmps) = true) (hd : ∀ c, o.op ≠ .defer c) (hrun : (execOp a.eval o).run P w = .ok (.value v) w)
    (h : wpListIn (Fence.wide.inRound l) n P ops Q rest (a.put o.dst v) w) : wpListIn (Fence.wide.inRound l) n P ops Q (o :: rest) a w :=
  wpListIn_step fun K hK => by rw [if_pos hw]; exact ⟨fun _ _ => trivial, by rw [Oper.semAt_plain _ _ _ hd, hrun]; exact hK _ _ h⟩
theorem t4_noS : ¬ T4 4 ∧ ¬ T4 24 := by
  refine ⟨?_, ?_⟩ <;> (rintro (h | h | h | h | h) <;> exact absurd h (nat_ne (by kernel_rfl)))
theorem FB.boxedS {B0 B : Nat} {X Y : World} {ty : TypeId} {v : Value} (h : FB B0 X Y) (hb : Boxed X B ty v) (hn : ¬ T4 ty) : Boxed Y B ty v := h.heap hb hn
section
variable {w w' : World} {B0 d t1 bm : Nat} {most : Int} {S : List (Option Sd)} {N : Nat}
theorem TsE.below (h : TsE w B0 d t1 bm most S N) (hb : Below w.heap.size w w') : TsE w' B0 d t1 bm most S N := by obtain ⟨b1, A, c, f, h⟩ := h; exact ⟨b1, A, c, f, h.below hb⟩
theorem TsE.mono {N' : Nat} (h : TsE w B0 d t1 bm most S N) (hN : N ≤ N') : TsE w B0 d t1 bm most S N' := by obtain ⟨b1, A, c, f, h⟩ := h; exact ⟨b1, A, c, f, h.mono hN⟩
theorem TsE.z (h : TsE w B0 d t1 bm most S N) : B0 ≤ w.heap.size := by obtain ⟨b1, A, c, f, h⟩ := h; exact h.m.bz
theorem tak_atS {i : Int} {x : Sd} (h : takB S i = some x) : ∃ k : Nat, i = (k : Int) ∧ S[k]? = some (some x) := by
  unfold takB at h
  by_cases hi : i < 0
  · rw [if_pos hi] at h; cases h
  · rw [if_neg hi] at h
    refine ⟨i.toNat, by omega, ?_⟩
    cases hS : S[i.toNat]? with
    | none => rw [hS] at h; cases h
    | some o => rw [hS] at h; simp at h; rw [h]
theorem seadd_any (h : TsE w B0 d t1 bm most S N) (hTB : TB0 B0 w) (x : Sd) (hx : x.fits) (hN : N < maxLen) : Calls Tryd.prog 9 #[.pointer (some ⟨d, 0, none⟩), seV x] w fun e w' => ∃ r S', e = .returned r ∧ TsE w' B0 d t1 bm most S' (N + 1) ∧ FB B0 w w' := by
  have hz := h.z
  have hD := h
  obtain ⟨b1, A, c, f, h⟩ := h
  cases hh : fndS (docB 0 S) x with
  | some q =>
    refine (seadd_twice h hTB.here x hx hh).mono ?_
    rintro e w' ⟨rfl, hb⟩
    exact ⟨_, S, rfl, (hD.below hb).mono (Nat.le_succ _), FB.of_below hb hz⟩
  | none =>
    by_cases hf : ((docB 0 S).length : Int) ≥ most
    · refine (seadd_full h hTB.here x hx hh hf).mono ?_
      rintro e w' ⟨rfl, hb⟩
      exact ⟨_, S, rfl, (hD.below hb).mono (Nat.le_succ _), FB.of_below hb hz⟩
    · refine (seadd_ok h hTB x hx hh (by omega) hN).mono ?_
      rintro e w' ⟨rfl, b1', A', c', f', h', fb⟩
      exact ⟨_, _, rfl, ⟨b1', A', c', f', h'⟩, fb⟩
theorem seremove_any (h : TsE w B0 d t1 bm most S N) (hTB : TB0 B0 w) (i : Int) (hN : N < maxLen) : Calls Tryd.prog 13 #[.pointer (some ⟨d, 0, none⟩), .int .i64 i] w fun e w' => ∃ r S', e = .returned r ∧ TsE w' B0 d t1 bm most S' (N + 1) ∧ FB B0 w w' := by
  have hz := h.z
  have hD := h
  obtain ⟨b1, A, c, f, h⟩ := h
  cases ht : takB S i with
  | none =>
    refine (seremove_no h.m i ht).mono ?_
    rintro e w' ⟨rfl, rfl⟩
    exact ⟨_, S, rfl, hD.mono (Nat.le_succ _), FB.of_below (Below.refl _ _) hz⟩
  | some x =>
    obtain ⟨k, rfl, hk⟩ := tak_atS ht
    refine (seremove_yes h hTB hk hN).mono ?_
    rintro e w' ⟨rfl, b1', A', c', f', h', fb⟩
    exact ⟨_, _, rfl, ⟨b1', A', c', f', h'⟩, fb⟩
end
/-- A result's box at B, the sessions' at g. -/
structure SIw (B g B0 d t1 bm : Nat) (S : List (Option Sd)) (N : Nat) (w U : World) : Prop where
  res : Boxed U B 4 (.bool false)
  box : Boxed U g 24 (.pointer (some ⟨d, 0, none⟩))
  ts : TsE U B0 d t1 bm 50 S N
  bel : Below w.heap.size w U
section
variable {B g B0 d t1 bm : Nat} {S S' : List (Option Sd)} {N N' : Nat} {w U V : World}
theorem SIw.below (h : SIw B g B0 d t1 bm S N w U) (hb : Below U.heap.size U V) : SIw B g B0 d t1 bm S N w V :=
  ⟨Boxed.below h.res hb (Boxed.lt h.res), Boxed.below h.box hb (Boxed.lt h.box), h.ts.below hb, h.bel.trans (hb.mono h.bel.size)⟩
theorem SIw.fb (h : SIw B g B0 d t1 bm S N w U) (hz : w.heap.size ≤ B0) (hf : FB B0 U V) (hd : TsE V B0 d t1 bm 50 S' N') : SIw B g B0 d t1 bm S' N' w V :=
  ⟨hf.boxedS h.res t4_noS.1, hf.boxedS h.box t4_noS.2, hd, h.bel.trans (hf.b.mono hz)⟩
end
theorem run_load_ptT {o : Oper} {a : Act} {w : World} {x : Operand} {p : Addr} {A : Option Addr} (ho : o.op = .load 24 x) (hx : a.eval x = .pointer (some p)) (hc : w.cell? p = some (.pointer A)) :
    (execOp a.eval o).run Tryd.prog w = .ok (.value (.pointer A)) w := by
  unfold execOp
  simp only [ho, hx, Instr.loadAt, Instr.sureAddr, Sem.run_bind, Sem.run_pure, Result.andThen_ok]
  go_simp
theorem store_boolS_wp {o : Oper} {a : Act} {w : World} {K : Act → World → Prop} {Q : Exit → Act → World → Prop} {x y : Operand} {p : Addr} {v0 : Value} {n : Bool} (ho : o.op = .store 4 x y) (hx : a.eval x = .pointer (some p)) (hy : a.eval y = .bool n) (hc : w.cell? p = some v0) (hf : w.frozen? p = false) (h : K (a.put o.dst undef) (w.setCell p (.bool n))) : o.wp Tryd.prog a w K Q := by
  unfold Oper.wp execOp
  simp only [ho, hx, hy]
  go_simp
  exact h
end Go.Proofs.YtghbliabmecbcaaDoor

/-
  The library's tables that the statements list: what the rows' condition gives the walks, and a start at which it holds. Conditions are each theorem's own.
-/
namespace Go.Proofs.YtghbliabmecbcaaDoor
open Go.RowKit

/-- The list that every row of this seat bears. -/
def laidAll : List (String × DataW Unit) := [("math/bits.deBruijn32tab", Rows.laid_math_bits_deBruijn32tab), ("math/bits.deBruijn64tab", Rows.laid_math_bits_deBruijn64tab), ("internal/strconv.uint64pow10", Rows.laid_internal_strconv_uint64pow10)]
def z32 : List Int := [0, 1, 28, 2, 29, 14, 24, 3, 30, 22, 20, 15, 25, 17, 4, 8, 31, 27, 13, 23, 21, 19, 16, 7, 26, 12, 18, 6, 11, 5, 10, 9]
theorem laid_tabs : laidAll = [("math/bits.deBruijn32tab", Lib.tabData .u8 z32), ("math/bits.deBruijn64tab", Lib.tabData .u8 (Lib.deBruijn64tab.map fun n : Nat => (n : Int))), ("internal/strconv.uint64pow10", Lib.tabData .u64 Lib.pow10Tab)] := by
  kernel_rfl
theorem tabs_of_laid {W : World} (h : laidMetH Tryd.prog laidAll W) : Tabs W := by
  rw [MakeChecks.laidMetH_plain _ _ _ (by kernel_rfl), laid_tabs] at h
  have h2 := laidMet.tail h
  have h3 := laidMet.tail h2
  exact ⟨Lib.tabIs_of_head glob_pow (by kernel_rfl) Tryd.underlying121 Tryd.underlying84 (by kernel_rfl) (by kernel_rfl) h3,
    Lib.tabIs_of_head glob_bruijn (by kernel_rfl) Tryd.underlying127 Tryd.underlying5 (by kernel_rfl) (by kernel_rfl) h2⟩
/-- The door's own heap meets the condition: three closed facts. -/
theorem door_met (os : Os) (args : Array Value) : laidMetH Tryd.prog laidAll ((World.doorLaid Tryd.prog 24 os).forCall (fun _ _ => 0) ⟨#[], args, []⟩).memory :=
  laidMetH_of_parts3 (fuel := 8) (laidMet_of_run' 8 (by kernel_rfl) (by kernel_rfl)) (by kernel_rfl) (by kernel_rfl)
theorem door_shaped (os : Os) (args : Array Value) : ((World.doorLaid Tryd.prog 24 os).forCall (fun _ _ => 0) ⟨#[], args, []⟩).Shaped Tryd.prog := World.shaped_of_RefB (by kernel_rfl) (by kernel_rfl)
end Go.Proofs.YtghbliabmecbcaaDoor
