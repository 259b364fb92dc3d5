/-
  Texts that are cut at a byte, again and again, and joined by it: plain lists of bytes, no program. Conditions are each theorem's own.
-/
import Derived.Lib.Hide
import Derived.Lib.Join
namespace Go.Proofs.YtokcelbpiglieaaDoor

/-- The bytes ahead of the first c, those behind it, and is there one. -/
def cutc (c : UInt8) : List UInt8 → List UInt8 × List UInt8 × Bool
  | [] => ([], [], false)
  | x :: l => if x = c then ([], l, true) else (x :: (cutc c l).1, (cutc c l).2.1, (cutc c l).2.2)
theorem cutc_hit (c : UInt8) : ∀ (p r : List UInt8), c ∉ p → cutc c (p ++ c :: r) = (p, r, true)
  | [], r, _ => by simp [cutc]
  | x :: p, r, h => by
    simp only [List.mem_cons, not_or] at h
    have := cutc_hit c p r h.2
    simp [cutc, this, Ne.symm h.1]
theorem cutc_miss (c : UInt8) : ∀ (p : List UInt8), c ∉ p → cutc c p = (p, [], false)
  | [], _ => rfl
  | x :: p, h => by
    simp only [List.mem_cons, not_or] at h
    have := cutc_miss c p h.2
    simp [cutc, this, Ne.symm h.1]
theorem cutc_true (c : UInt8) : ∀ (l : List UInt8), (cutc c l).2.2 = true → l = (cutc c l).1 ++ c :: (cutc c l).2.1
  | [], h => by simp [cutc] at h
  | x :: l, h => by
    by_cases hx : x = c
    · subst hx; simp [cutc]
    · simp only [cutc, if_neg hx] at h ⊢
      have := cutc_true c l h
      simp only [List.cons_append, List.cons.injEq, true_and]
      exact this
theorem cutc_false (c : UInt8) : ∀ (l : List UInt8), (cutc c l).2.2 = false → l = (cutc c l).1 ∧ (cutc c l).2.1 = []
  | [], _ => ⟨rfl, rfl⟩
  | x :: l, h => by
    by_cases hx : x = c
    · subst hx; simp [cutc] at h
    · simp only [cutc, if_neg hx] at h ⊢
      have := cutc_false c l h
      exact ⟨by rw [← this.1], this.2⟩

theorem cutc_len (c : UInt8) : ∀ (l : List UInt8), (cutc c l).1.length ≤ l.length ∧ (cutc c l).2.1.length ≤ l.length
  | [] => ⟨Nat.le_refl _, Nat.le_refl _⟩
  | x :: l => by
    have ih := cutc_len c l
    unfold cutc
    split
    · exact ⟨by simp, by simp⟩
    · exact ⟨by simp; exact ih.1, by simp; omega⟩

/-- What is left behind k cuts; is there more; the part of cut k. -/
def rst (c : UInt8) (s : List UInt8) : Nat → List UInt8
  | 0 => s
  | k + 1 => (cutc c (rst c s k)).2.1
def mor (c : UInt8) (s : List UInt8) : Nat → Bool
  | 0 => true
  | k + 1 => (cutc c (rst c s k)).2.2
def prt (c : UInt8) (s : List UInt8) (k : Nat) : List UInt8 := (cutc c (rst c s k)).1
theorem rst_len (c : UInt8) (s : List UInt8) : ∀ k, (rst c s k).length ≤ s.length
  | 0 => Nat.le_refl _
  | k + 1 => Nat.le_trans (cutc_len c (rst c s k)).2 (rst_len c s k)
theorem prt_len (c : UInt8) (s : List UInt8) (k : Nat) : (prt c s k).length ≤ s.length := Nat.le_trans (cutc_len c (rst c s k)).1 (rst_len c s k)
theorem rst_shift (c : UInt8) (s : List UInt8) : ∀ k, rst c s (k + 1) = rst c (rst c s 1) k
  | 0 => rfl
  | k + 1 => by
    show (cutc c (rst c s (k + 1))).2.1 = _
    rw [rst_shift c s k]; rfl
theorem prt_shift (c : UInt8) (s : List UInt8) (k : Nat) : prt c s (k + 1) = prt c (rst c s 1) k := by
  unfold prt; rw [rst_shift]
theorem mor_shift (c : UInt8) (s : List UInt8) (k : Nat) : mor c s (k + 1 + 1) = mor c (rst c s 1) (k + 1) := by
  show (cutc c (rst c s (k + 1))).2.2 = (cutc c (rst c (rst c s 1) k)).2.2
  rw [rst_shift]
theorem rst_nil (c : UInt8) : ∀ k, rst c [] k = []
  | 0 => rfl
  | k + 1 => by show (cutc c (rst c [] k)).2.1 = []; rw [rst_nil c k]; rfl
theorem prt_nil (c : UInt8) (k : Nat) : prt c [] k = [] := by unfold prt; rw [rst_nil]; rfl
/-- What was joined is cut into its parts. -/
theorem cut_join (c : UInt8) : ∀ (ps : List (List UInt8)) (p : List UInt8), (∀ q ∈ p :: ps, c ∉ q) →
    (∀ k, k < (p :: ps).length → prt c (Lib.join (p :: ps) [c]) k = ((p :: ps)[k]?).getD []) ∧ mor c (Lib.join (p :: ps) [c]) (p :: ps).length = false
  | [], p, h => by
    have hc := cutc_miss c p (h p (by simp))
    rw [Lib.join_one]
    refine ⟨fun k hk => ?_, ?_⟩
    · obtain rfl : k = 0 := by simp at hk; omega
      show (cutc c p).1 = _
      rw [hc]; rfl
    · show (cutc c p).2.2 = false
      rw [hc]
  | q :: ps, p, h => by
    have hj : Lib.join (p :: q :: ps) [c] = p ++ c :: Lib.join (q :: ps) [c] := by
      rw [Lib.join_cons, Lib.join_cons]; simp [Lib.joinTail]
    have hc := cutc_hit c p (Lib.join (q :: ps) [c]) (h p (by simp))
    have ih := cut_join c ps q (fun x hx => h x (List.mem_cons_of_mem _ hx))
    have h1 : rst c (Lib.join (p :: q :: ps) [c]) 1 = Lib.join (q :: ps) [c] := by
      show (cutc c (Lib.join (p :: q :: ps) [c])).2.1 = _
      rw [hj, hc]
    refine ⟨fun k hk => ?_, ?_⟩
    · cases k with
      | zero =>
        show (cutc c (Lib.join (p :: q :: ps) [c])).1 = _
        rw [hj, hc]; rfl
      | succ k =>
        rw [prt_shift, h1]
        have := ih.1 k (by simp at hk ⊢; omega)
        simpa using this
    · show mor c _ (ps.length + 1 + 1) = false
      rw [mor_shift, h1]
      exact ih.2
/-- What was cut, each part of which holds a byte, is its parts joined. -/
theorem join_cut (c : UInt8) : ∀ (ps : List (List UInt8)) (p s : List UInt8), (∀ k, k < (p :: ps).length → prt c s k = ((p :: ps)[k]?).getD []) → (∀ q ∈ p :: ps, q ≠ []) → mor c s (p :: ps).length = false →
    Lib.join (p :: ps) [c] = s
  | [], p, s, h, _, hm => by
    have h0 := h 0 (by simp)
    have hf := cutc_false c s hm
    rw [Lib.join_one]
    have : prt c s 0 = (cutc c s).1 := rfl
    rw [this] at h0
    simp only [List.getElem?_cons_zero, Option.getD_some] at h0
    rw [← h0]; exact hf.1.symm
  | q :: ps, p, s, h, hne, hm => by
    have h0 : (cutc c s).1 = p := by have := h 0 (by simp); simp only [List.getElem?_cons_zero, Option.getD_some] at this; exact this
    have ht : (cutc c s).2.2 = true := by
      cases e : (cutc c s).2.2 with
      | true => rfl
      | false =>
        have hf := cutc_false c s e
        have h1 := h 1 (by simp)
        rw [prt_shift, show rst c s 1 = [] from hf.2, prt_nil] at h1
        simp only [List.getElem?_cons_succ, List.getElem?_cons_zero, Option.getD_some] at h1
        exact absurd h1.symm (hne q (by simp))
    have hs := cutc_true c s ht
    have ih := join_cut c ps q (rst c s 1) (fun k hk => by
      have := h (k + 1) (by simp at hk ⊢; omega)
      rw [prt_shift] at this
      simpa using this) (fun x hx => hne x (List.mem_cons_of_mem _ hx)) (by
      have hm' : mor c s (ps.length + 1 + 1) = false := hm
      rw [mor_shift] at hm'
      exact hm')
    have hj : Lib.join (p :: q :: ps) [c] = p ++ c :: Lib.join (q :: ps) [c] := by
      rw [Lib.join_cons, Lib.join_cons]; simp [Lib.joinTail]
    rw [hj, ih]
    rw [h0] at hs
    exact hs.symm
end Go.Proofs.YtokcelbpiglieaaDoor
