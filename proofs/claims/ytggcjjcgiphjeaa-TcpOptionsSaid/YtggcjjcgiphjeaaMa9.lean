/-
  Contracts and lemmas on which the proofs of this seat stand (several texts in one). Conditions are each theorem's own.
-/
import Derived.Test.YtggcjjcgiphjeaaMa8

/-
  Layer 7's awake, and what Build answers, in one shape. Conditions are each theorem's own.
-/
namespace Go.Proofs.Ytggcjjcgiphjeaa
open Go.RowKit

def resU (src dst : Int) (q : PU) : List UInt8 := if chkU q = 0 then bldU src dst q else []
theorem resU_shape {src dst : Int} {q : PU} {w w' : World} {v : Value} (h : (chkU q ≠ 0 → v = .slice none 0 0 ∧ Below w.heap.size w w') ∧ (chkU q = 0 → Made w w' v (bldU src dst q))) :
    ∃ P k, v = .slice P (resU src dst q).length k ∧ Rd w' w'.heap.size P (resU src dst q) ∧ Below w.heap.size w w' := by
  by_cases hc : chkU q = 0
  · obtain ⟨A, c, rfl, hl, hr, ho, hb⟩ := h.2 hc
    exact ⟨A, c, by rw [resU, if_pos hc], by rw [resU, if_pos hc]; exact hr, hb⟩
  · obtain ⟨rfl, hb⟩ := h.1 hc
    exact ⟨none, 0, by rw [resU, if_neg hc]; rfl, by rw [resU, if_neg hc]; exact Rd.nil, hb⟩
def qaU : PU := ⟨3, 4, false, [5]⟩
theorem buildU_awake (g : Nat) (w : World) (hg : w.heap[g]? = some (.cells #[.int .u8 5] 5 (0, 0))) :
    Calls Try.prog 11 #[.int .i64 1, .int .i64 2, usv qaU (some ⟨g, 0, none⟩) 1] w fun e w' => ∃ A c, e = .returned (.tuple #[.slice A 9 c, .int .i64 0]) ∧ Arg w' w'.heap.size A c (bldU 1 2 qaU) ∧ Below w.heap.size w w' := by
  have hc : chkU qaU = 0 := by decide
  have hlen : (bldU 1 2 qaU).length = 9 := bldU_len 1 2 qaU
  refine (cUbuild qaU (some ⟨g, 0, none⟩) 1 1 2 w w.heap.size ⟨Rd.of_block hg (heap_lt hg) 0 (fun j hj => by
    have : j = 0 := by simpa [qaU] using hj
    subst this; rfl), by decide, fun e => by cases e⟩ (Nat.le_refl _) (by decide)).mono ?_
  rintro e w' ⟨v, rfl, _, hm⟩
  obtain ⟨A, c, rfl, ha, ho, hb⟩ := made_shape (hm hc)
  exact ⟨A, c, by rw [hc, hlen], ha, hb⟩
theorem parseU_awake (A : Option Addr) (c B : Nat) (w : World) (h : Arg w B A c (bldU 1 2 qaU)) (hB : B ≤ w.heap.size) :
    Calls Try.prog 20 #[.int .i64 1, .int .i64 2, .slice A 9 c] w fun e w' => ∃ P p, e = .returned (.tuple #[usv qaU P p, .int .i64 0]) ∧ Below w.heap.size w w' := by
  have hlen : (bldU 1 2 qaU).length = 9 := bldU_len 1 2 qaU
  have hk := backU (src := 1) (dst := 2) (q := qaU) (by decide)
  have := cUparse (bldU 1 2 qaU) A c 1 2 w B h hB (by rw [hlen]; decide)
  rw [hk.1, hk.2, hlen] at this
  refine this.mono ?_
  rintro e w' ⟨P, p, rfl, hm⟩
  exact ⟨P, p, rfl, hm.below⟩
theorem psd_twelve (w : World) :
    Calls Try.prog 18 #[.int .i64 1, .int .i64 2, .int .i64 17, .int .i64 9] w fun e w' => ∃ A c, e = .returned (.slice A 12 c) ∧ Below w.heap.size w w' := by
  refine (psd_any 1 2 17 9 w).mono ?_
  rintro e w' ⟨v, rfl, hm⟩
  obtain ⟨A, c, rfl, ha, ho, hb⟩ := made_shape hm
  exact ⟨A, c, by rw [psd_len], hb⟩
set_option maxRecDepth 100000 in
set_option maxHeartbeats 1000000 in
theorem awakeU_any (w : World) : Calls Try.prog 10 #[] w fun e w' => e = .returned (.bool true) ∧ Below w.heap.size w w' := by
  have hB1 : Below w.heap.size w (w.alloc (.cells #[.int .u8 5] 5)) := (Below.refl _ w).alloc (Nat.le_refl _) _
  go_enter Try.func10, Try.ntmps10
  go_upto_region 3 with (first
    | (go_at_call 11; refine (buildU_awake w.heap.size _ (World.alloc_heap_new _ _)).mono ?_; rintro e w1 ⟨A, c, rfl, ha, x1⟩)
    | (go_at_call 20; refine (parseU_awake _ _ _ _ ha (Nat.le_refl _)).mono ?_; rintro e w2 ⟨P, p, rfl, x2⟩)
    | ((with_reducible show wpList _ _ _ (Oper.mk _ (Op.store _ _ _) _ _ _ _ :: _) _ _); refine us_store_new (cs := usa qaU P p) rfl rfl rfl rfl (us_one _ _ _) ?_))
  have hAt := Atus.new (q := qaU) (A := P) (c := p) w2
  have x23 : Below w2.heap.size w2 (w2.alloc (.cells (usa qaU P p) 24)) := (Below.refl _ w2).alloc (Nat.le_refl _) _
  have k1 : (w2.alloc (.cells (usa qaU P p) 24)).cell? ⟨w2.heap.size, 1, none⟩ = some (.int .i64 4) := hAt.dst
  generalize w2.alloc (.cells (usa qaU P p) 24) = W3 at *
  have q3 : Below w.heap.size w W3 := hB1.trans ((x1.trans ((x2.trans (x23.mono x2.size)).mono x1.size)).mono (by simp))
  clear x1 x2 x23 ha hAt
  go_wp2_with (go_at_call 18; refine (psd_twelve _).mono ?_; rintro e w4 ⟨A4, c4, rfl, x4⟩)
  go_ret
  exact ⟨rfl, q3.trans (x4.mono q3.size)⟩
end Go.Proofs.Ytggcjjcgiphjeaa
