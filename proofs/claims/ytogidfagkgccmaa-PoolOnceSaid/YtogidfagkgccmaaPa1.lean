/-
  Contracts and lemmas on which the proofs of this seat stand (several texts in one). Conditions are each theorem's own.
-/
import Derived.Test.YtogidfagkgccmaaCa4
import Derived.Lib.Hide
import Derived.Lib.Join
import Derived.Test.YtogidfagkgccmaaCa1
import Derived.Lib.Strings
import Derived.OrdersHeld
import Derived.OrdersIn
import Derived.TacticsIn
import Derived.OwnWalkIn
import Derived.Maps.RangeWalk
import Derived.RangeFuncSeq

/-
  Ports that are tried (layer 19): runs of ports, their order. No program. Conditions are each theorem's own.
-/
namespace Go.Proofs.Ytogidfagkgccmaa
open Go.RowKit

/-- The ports from lo to hi by steps. -/
def rpf : Nat → Int → Int → Int → List Int
  | 0, _, _, _ => []
  | n + 1, lo, hi, st => if hi < lo then [] else lo :: rpf n (lo + st) hi st
structure Rn where
  lo : Int
  hi : Int
  st : Int
def clR (r : Rn) : List Value := [.int .i64 r.lo, .int .i64 r.hi, .int .i64 r.st]
def rp (r : Rn) : List Int := rpf (r.hi - r.lo + 1).toNat r.lo r.hi r.st
theorem rpf_mem (st : Int) (hs : st = 1 ∨ st = 2) : ∀ (n : Nat) (lo hi p : Int), hi - lo + 1 ≤ n → (p ∈ rpf n lo hi st ↔ lo ≤ p ∧ p ≤ hi ∧ (p - lo) % st = 0)
  | 0, lo, hi, p, h => by simp [rpf]; intro h1 h2; omega
  | n + 1, lo, hi, p, h => by
    rw [rpf]
    by_cases hc : hi < lo
    · rw [if_pos hc]; simp; intro h1 h2; omega
    · rw [if_neg hc, List.mem_cons, rpf_mem st hs n (lo + st) hi p (by omega)]
      rcases hs with rfl | rfl <;> (constructor <;> intro h1 <;> omega)
theorem rp_mem (r : Rn) (hs : r.st = 1 ∨ r.st = 2) (p : Int) : p ∈ rp r ↔ r.lo ≤ p ∧ p ≤ r.hi ∧ (p - r.lo) % r.st = 0 := rpf_mem r.st hs _ _ _ _ (by omega)
theorem rpf_more (st : Int) (hs : st = 1 ∨ st = 2) : ∀ (n m : Nat) (lo hi : Int), hi - lo + 1 ≤ n → n ≤ m → rpf m lo hi st = rpf n lo hi st
  | 0, 0, _, _, _, _ => rfl
  | 0, m + 1, lo, hi, h, _ => by
    show (if hi < lo then [] else lo :: rpf m (lo + st) hi st) = []
    rw [if_pos (by omega)]
  | n + 1, 0, _, _, _, h => by omega
  | n + 1, m + 1, lo, hi, h, h2 => by
    rw [rpf, rpf]
    by_cases hc : hi < lo
    · rw [if_pos hc, if_pos hc]
    · rw [if_neg hc, if_neg hc, rpf_more st hs n m (lo + st) hi (by omega) (by omega)]
theorem rp_nil {lo hi st : Int} (h : hi < lo) : rp ⟨lo, hi, st⟩ = [] := by
  show rpf (hi - lo + 1).toNat lo hi st = []
  rw [show (hi - lo + 1).toNat = 0 by omega]; rfl
theorem rp_cons {lo hi st : Int} (hs : st = 1 ∨ st = 2) (h : lo ≤ hi) : rp ⟨lo, hi, st⟩ = lo :: rp ⟨lo + st, hi, st⟩ := by
  show rpf (hi - lo + 1).toNat lo hi st = lo :: rpf (hi - (lo + st) + 1).toNat (lo + st) hi st
  obtain ⟨n, hn⟩ : ∃ n, (hi - lo + 1).toNat = n + 1 := ⟨(hi - lo).toNat, by omega⟩
  rw [hn, rpf, if_neg (by omega)]
  congr 1
  exact rpf_more st hs _ _ _ _ (by omega) (by omega)
/-- A span of ports, cut. -/
def eachR (slo shi lo hi : Int) : Rn := ⟨max slo lo, min shi hi, 1⟩
def alikeR (slo shi lo hi port : Int) : Rn := ⟨max slo lo + (max slo lo + port) % 2, min shi hi, 2⟩
def nearL (p : Int) : Int := if p < 1024 then 0 else 1024
def nearH (p : Int) : Int := if p < 1024 then 1023 else 65535
def farL (p : Int) : Int := if p < 1024 then 1024 else 0
def farH (p : Int) : Int := if p < 1024 then 65535 else 1023
def runs6 (lo hi p : Int) : List Rn := [eachR lo hi p p, alikeR lo hi (p + 1) (nearH p) p, alikeR lo hi (nearL p) (p - 1) p, alikeR lo hi (farL p) (farH p) p, alikeR lo hi 0 65535 (p + 1)]
/-- The ports that are tried, of TCP and UDP. -/
def tri (lo hi p : Int) : List Int := (runs6 lo hi p).flatMap rp
section
variable {lo hi p : Int} (h1 : 1 ≤ lo) (h2 : lo ≤ hi) (h3 : hi ≤ 65535)
theorem alike_mem (slo shi l h port q : Int) : q ∈ rp (alikeR slo shi l h port) ↔ (slo ≤ q ∧ l ≤ q ∧ q ≤ shi ∧ q ≤ h ∧ (q + port) % 2 = 0) := by
  rw [rp_mem _ (.inr rfl)]
  simp only [alikeR]
  omega
theorem each_mem (slo shi l h q : Int) : q ∈ rp (eachR slo shi l h) ↔ (slo ≤ q ∧ l ≤ q ∧ q ≤ shi ∧ q ≤ h) := by
  rw [rp_mem _ (.inl rfl)]
  simp only [eachR]
  omega
include h1 h2 h3 in
theorem tri_mem (q : Int) : q ∈ tri lo hi p ↔ lo ≤ q ∧ q ≤ hi := by
  simp only [tri, runs6, List.flatMap_cons, List.flatMap_nil, List.append_nil, List.mem_append, each_mem, alike_mem, nearL, nearH, farL, farH]
  by_cases hc : p < 1024
  · simp only [hc, if_true]; omega
  · simp only [hc, if_false]; omega
include h1 h2 h3 in
/-- What has another parity comes behind all of the parity. -/
theorem tri_order {pre post : List Int} {q r : Int} (h : tri lo hi p = pre ++ q :: post) (hq : q % 2 ≠ p % 2) (hr : lo ≤ r ∧ r ≤ hi) (hrp : r % 2 = p % 2) : r ∈ pre := by
  have e : tri lo hi p = (rp (eachR lo hi p p) ++ (rp (alikeR lo hi (p + 1) (nearH p) p) ++ (rp (alikeR lo hi (nearL p) (p - 1) p) ++ rp (alikeR lo hi (farL p) (farH p) p)))) ++ rp (alikeR lo hi 0 65535 (p + 1)) := by
    simp [tri, runs6]
  have hA : ∀ x, x ∈ (rp (eachR lo hi p p) ++ (rp (alikeR lo hi (p + 1) (nearH p) p) ++ (rp (alikeR lo hi (nearL p) (p - 1) p) ++ rp (alikeR lo hi (farL p) (farH p) p)))) ↔ (lo ≤ x ∧ x ≤ hi ∧ x % 2 = p % 2) := fun x => by
    simp only [List.mem_append, each_mem, alike_mem, nearL, nearH, farL, farH]
    by_cases hc : p < 1024
    · simp only [hc, if_true]; omega
    · simp only [hc, if_false]; omega
  generalize (rp (eachR lo hi p p) ++ (rp (alikeR lo hi (p + 1) (nearH p) p) ++ (rp (alikeR lo hi (nearL p) (p - 1) p) ++ rp (alikeR lo hi (farL p) (farH p) p)))) = A at e hA
  have hr' := (hA r).2 ⟨hr.1, hr.2, hrp⟩
  have hq' : q ∉ A := fun hm => hq ((hA q).1 hm).2.2
  rw [h] at e
  -- A is a prefix of pre ++ q :: post without q
  rcases List.append_eq_append_iff.1 e with ⟨c, hc1, hc2⟩ | ⟨c, hc1, hc2⟩
  · -- A = pre ++ c
    cases c with
    | nil => rw [hc1] at hr'; simpa using hr'
    | cons y ys =>
      simp only [List.cons_append, List.cons.injEq] at hc2
      exact absurd (by rw [hc1, ← hc2.1]; simp) hq'
  · -- pre = A ++ c
    rw [hc1]; exact List.mem_append.2 (.inl hr')
end
end Go.Proofs.Ytogidfagkgccmaa

/-
  Texts that are cut at a byte, again and again, and joined by it: plain lists of bytes, no program. Conditions are each theorem's own.
-/
namespace Go.Proofs.Ytogidfagkgccmaa

/-- The bytes ahead of the first c, those behind it, and is there one. -/
def cutc (c : UInt8) : List UInt8 → List UInt8 × List UInt8 × Bool
  | [] => ([], [], false)
  | x :: l => if x = c then ([], l, true) else (x :: (cutc c l).1, (cutc c l).2.1, (cutc c l).2.2)
theorem cutc_hit (c : UInt8) : ∀ (p r : List UInt8), c ∉ p → cutc c (p ++ c :: r) = (p, r, true)
  | [], r, _ => by simp [cutc]
  | x :: p, r, h => by
    simp only [List.mem_cons, not_or] at h
    have := cutc_hit c p r h.2
    simp [cutc, this, Ne.symm h.1]
theorem cutc_miss (c : UInt8) : ∀ (p : List UInt8), c ∉ p → cutc c p = (p, [], false)
  | [], _ => rfl
  | x :: p, h => by
    simp only [List.mem_cons, not_or] at h
    have := cutc_miss c p h.2
    simp [cutc, this, Ne.symm h.1]
theorem cutc_true (c : UInt8) : ∀ (l : List UInt8), (cutc c l).2.2 = true → l = (cutc c l).1 ++ c :: (cutc c l).2.1
  | [], h => by simp [cutc] at h
  | x :: l, h => by
    by_cases hx : x = c
    · subst hx; simp [cutc]
    · simp only [cutc, if_neg hx] at h ⊢
      have := cutc_true c l h
      simp only [List.cons_append, List.cons.injEq, true_and]
      exact this
theorem cutc_false (c : UInt8) : ∀ (l : List UInt8), (cutc c l).2.2 = false → l = (cutc c l).1 ∧ (cutc c l).2.1 = []
  | [], _ => ⟨rfl, rfl⟩
  | x :: l, h => by
    by_cases hx : x = c
    · subst hx; simp [cutc] at h
    · simp only [cutc, if_neg hx] at h ⊢
      have := cutc_false c l h
      exact ⟨by rw [← this.1], this.2⟩

theorem cutc_len (c : UInt8) : ∀ (l : List UInt8), (cutc c l).1.length ≤ l.length ∧ (cutc c l).2.1.length ≤ l.length
  | [] => ⟨Nat.le_refl _, Nat.le_refl _⟩
  | x :: l => by
    have ih := cutc_len c l
    unfold cutc
    split
    · exact ⟨by simp, by simp⟩
    · exact ⟨by simp; exact ih.1, by simp; omega⟩

/-- What is left behind k cuts; is there more; the part of cut k. -/
def rst (c : UInt8) (s : List UInt8) : Nat → List UInt8
  | 0 => s
  | k + 1 => (cutc c (rst c s k)).2.1
def mor (c : UInt8) (s : List UInt8) : Nat → Bool
  | 0 => true
  | k + 1 => (cutc c (rst c s k)).2.2
def prt (c : UInt8) (s : List UInt8) (k : Nat) : List UInt8 := (cutc c (rst c s k)).1
theorem rst_len (c : UInt8) (s : List UInt8) : ∀ k, (rst c s k).length ≤ s.length
  | 0 => Nat.le_refl _
  | k + 1 => Nat.le_trans (cutc_len c (rst c s k)).2 (rst_len c s k)
theorem prt_len (c : UInt8) (s : List UInt8) (k : Nat) : (prt c s k).length ≤ s.length := Nat.le_trans (cutc_len c (rst c s k)).1 (rst_len c s k)
theorem rst_shift (c : UInt8) (s : List UInt8) : ∀ k, rst c s (k + 1) = rst c (rst c s 1) k
  | 0 => rfl
  | k + 1 => by
    show (cutc c (rst c s (k + 1))).2.1 = _
    rw [rst_shift c s k]; rfl
theorem prt_shift (c : UInt8) (s : List UInt8) (k : Nat) : prt c s (k + 1) = prt c (rst c s 1) k := by
  unfold prt; rw [rst_shift]
theorem mor_shift (c : UInt8) (s : List UInt8) (k : Nat) : mor c s (k + 1 + 1) = mor c (rst c s 1) (k + 1) := by
  show (cutc c (rst c s (k + 1))).2.2 = (cutc c (rst c (rst c s 1) k)).2.2
  rw [rst_shift]
theorem rst_nil (c : UInt8) : ∀ k, rst c [] k = []
  | 0 => rfl
  | k + 1 => by show (cutc c (rst c [] k)).2.1 = []; rw [rst_nil c k]; rfl
theorem prt_nil (c : UInt8) (k : Nat) : prt c [] k = [] := by unfold prt; rw [rst_nil]; rfl
/-- What was joined is cut into its parts. -/
theorem cut_join (c : UInt8) : ∀ (ps : List (List UInt8)) (p : List UInt8), (∀ q ∈ p :: ps, c ∉ q) →
    (∀ k, k < (p :: ps).length → prt c (Lib.join (p :: ps) [c]) k = ((p :: ps)[k]?).getD []) ∧ mor c (Lib.join (p :: ps) [c]) (p :: ps).length = false
  | [], p, h => by
    have hc := cutc_miss c p (h p (by simp))
    rw [Lib.join_one]
    refine ⟨fun k hk => ?_, ?_⟩
    · obtain rfl : k = 0 := by simp at hk; omega
      show (cutc c p).1 = _
      rw [hc]; rfl
    · show (cutc c p).2.2 = false
      rw [hc]
  | q :: ps, p, h => by
    have hj : Lib.join (p :: q :: ps) [c] = p ++ c :: Lib.join (q :: ps) [c] := by
      rw [Lib.join_cons, Lib.join_cons]; simp [Lib.joinTail]
    have hc := cutc_hit c p (Lib.join (q :: ps) [c]) (h p (by simp))
    have ih := cut_join c ps q (fun x hx => h x (List.mem_cons_of_mem _ hx))
    have h1 : rst c (Lib.join (p :: q :: ps) [c]) 1 = Lib.join (q :: ps) [c] := by
      show (cutc c (Lib.join (p :: q :: ps) [c])).2.1 = _
      rw [hj, hc]
    refine ⟨fun k hk => ?_, ?_⟩
    · cases k with
      | zero =>
        show (cutc c (Lib.join (p :: q :: ps) [c])).1 = _
        rw [hj, hc]; rfl
      | succ k =>
        rw [prt_shift, h1]
        have := ih.1 k (by simp at hk ⊢; omega)
        simpa using this
    · show mor c _ (ps.length + 1 + 1) = false
      rw [mor_shift, h1]
      exact ih.2
/-- What was cut, each part of which holds a byte, is its parts joined. -/
theorem join_cut (c : UInt8) : ∀ (ps : List (List UInt8)) (p s : List UInt8), (∀ k, k < (p :: ps).length → prt c s k = ((p :: ps)[k]?).getD []) → (∀ q ∈ p :: ps, q ≠ []) → mor c s (p :: ps).length = false →
    Lib.join (p :: ps) [c] = s
  | [], p, s, h, _, hm => by
    have h0 := h 0 (by simp)
    have hf := cutc_false c s hm
    rw [Lib.join_one]
    have : prt c s 0 = (cutc c s).1 := rfl
    rw [this] at h0
    simp only [List.getElem?_cons_zero, Option.getD_some] at h0
    rw [← h0]; exact hf.1.symm
  | q :: ps, p, s, h, hne, hm => by
    have h0 : (cutc c s).1 = p := by have := h 0 (by simp); simp only [List.getElem?_cons_zero, Option.getD_some] at this; exact this
    have ht : (cutc c s).2.2 = true := by
      cases e : (cutc c s).2.2 with
      | true => rfl
      | false =>
        have hf := cutc_false c s e
        have h1 := h 1 (by simp)
        rw [prt_shift, show rst c s 1 = [] from hf.2, prt_nil] at h1
        simp only [List.getElem?_cons_succ, List.getElem?_cons_zero, Option.getD_some] at h1
        exact absurd h1.symm (hne q (by simp))
    have hs := cutc_true c s ht
    have ih := join_cut c ps q (rst c s 1) (fun k hk => by
      have := h (k + 1) (by simp at hk ⊢; omega)
      rw [prt_shift] at this
      simpa using this) (fun x hx => hne x (List.mem_cons_of_mem _ hx)) (by
      have hm' : mor c s (ps.length + 1 + 1) = false := hm
      rw [mor_shift] at hm'
      exact hm')
    have hj : Lib.join (p :: q :: ps) [c] = p ++ c :: Lib.join (q :: ps) [c] := by
      rw [Lib.join_cons, Lib.join_cons]; simp [Lib.joinTail]
    rw [hj, ih]
    rw [h0] at hs
    exact hs.symm
end Go.Proofs.Ytogidfagkgccmaa

/-
  What a part of an address's text is, in plain lists of bytes, and the project's function that reads one; its loops over arrays and blocks. Conditions are each theorem's own.
-/
namespace Go.Proofs.Ytogidfagkgccmaa
open Go.RowKit

def dval (l : List UInt8) : Nat := l.foldl (fun n c => n * 10 + (c.toNat - 48)) 0
def isd (c : UInt8) : Prop := 48 ≤ c.toNat ∧ c.toNat ≤ 57
theorem dval_snoc (l : List UInt8) (c : UInt8) : dval (l ++ [c]) = dval l * 10 + (c.toNat - 48) := by simp [dval]
theorem dig_nat {d : Nat} (h : d < 10) : (UInt8.ofNat (48 + d)).toNat = 48 + d := by simp [UInt8.toNat_ofNat']; omega
theorem dig_of {c : UInt8} (h : isd c) : c = UInt8.ofNat (48 + (c.toNat - 48)) := UInt8.toNat_inj.1 (by obtain ⟨h1, h2⟩ := h; rw [dig_nat (by omega)]; omega)
/-- The digits of a number below 256. -/
theorem dec_facts {n : Nat} (h : n < 256) : (∀ c ∈ dec n, isd c) ∧ dval (dec n) = n ∧ 1 ≤ (dec n).length ∧ (dec n).length ≤ 3 ∧ ((dec n)[0]? = some 48 → dec n = [48]) := by
  have hl := @dec_len n
  refine ⟨?_, ?_, hl.1, hl.2, ?_⟩
  · intro c hc
    unfold dec at hc
    split at hc
    · simp only [List.mem_singleton] at hc; subst hc; unfold isd; rw [dig_nat (by omega)]; omega
    · split at hc
      · simp only [List.mem_cons, List.not_mem_nil, or_false] at hc
        rcases hc with rfl | rfl <;> (unfold isd; rw [dig_nat (by omega)]; omega)
      · simp only [List.mem_cons, List.not_mem_nil, or_false] at hc
        rcases hc with rfl | rfl | rfl <;> (unfold isd; rw [dig_nat (by omega)]; omega)
  · unfold dec
    split
    · simp only [dval, List.foldl_cons, List.foldl_nil]; rw [dig_nat (by omega)]; omega
    · split
      · simp only [dval, List.foldl_cons, List.foldl_nil]; rw [dig_nat (by omega), dig_nat (by omega)]; omega
      · simp only [dval, List.foldl_cons, List.foldl_nil]; rw [dig_nat (by omega), dig_nat (by omega), dig_nat (by omega)]; omega
  · intro h0
    have key : ∀ d, d < 10 → UInt8.ofNat (48 + d) = 48 → d = 0 := fun d hd e => by have := congrArg UInt8.toNat e; rw [dig_nat hd] at this; simp at this; omega
    unfold dec at h0 ⊢
    split at h0
    · rename_i hn
      simp only [List.getElem?_cons_zero, Option.some.injEq] at h0
      rw [if_pos hn, h0]
    · split at h0
      · simp only [List.getElem?_cons_zero, Option.some.injEq] at h0
        have := key _ (by omega) h0; omega
      · simp only [List.getElem?_cons_zero, Option.some.injEq] at h0
        have := key _ (by omega) h0; omega
/-- Digits, none ahead too many: the digits of their number. -/
theorem dec_of {l : List UInt8} (hd : ∀ c ∈ l, isd c) (h1 : 1 ≤ l.length) (h3 : l.length ≤ 3) (h0 : l[0]? = some 48 → l = [48]) (hv : dval l ≤ 255) : dec (dval l) = l := by
  match l, hd, h1, h3, h0, hv with
  | [a], hd, _, _, _, _ =>
    have ha := hd a (by simp)
    have e : dval [a] = a.toNat - 48 := by simp [dval]
    obtain ⟨k1, k2⟩ := id ha
    rw [e, dec, if_pos (by omega), ← dig_of ha]
  | [a, b], hd, _, _, h0, _ =>
    have ha := hd a (by simp); have hb := hd b (by simp)
    have e : dval [a, b] = (a.toNat - 48) * 10 + (b.toNat - 48) := by simp [dval]
    have hne : a.toNat ≠ 48 := fun e' => by
      have : a = 48 := UInt8.toNat_inj.1 e'
      subst this
      have := h0 rfl
      simp at this
    obtain ⟨k1, k2⟩ := id ha; obtain ⟨k3, k4⟩ := id hb
    rw [e, dec, if_neg (by omega), if_pos (by omega)]
    rw [show ((a.toNat - 48) * 10 + (b.toNat - 48)) / 10 = a.toNat - 48 from by omega, show ((a.toNat - 48) * 10 + (b.toNat - 48)) % 10 = b.toNat - 48 from by omega, ← dig_of ha, ← dig_of hb]
  | [a, b, c], hd, _, _, h0, _ =>
    have ha := hd a (by simp); have hb := hd b (by simp); have hc := hd c (by simp)
    have e : dval [a, b, c] = ((a.toNat - 48) * 10 + (b.toNat - 48)) * 10 + (c.toNat - 48) := by simp [dval]
    have hne : a.toNat ≠ 48 := fun e' => by
      have : a = 48 := UInt8.toNat_inj.1 e'
      subst this
      have := h0 rfl
      simp at this
    obtain ⟨k1, k2⟩ := id ha; obtain ⟨k3, k4⟩ := id hb; obtain ⟨k5, k6⟩ := id hc
    rw [e, dec, if_neg (by omega), if_neg (by omega)]
    rw [show (((a.toNat - 48) * 10 + (b.toNat - 48)) * 10 + (c.toNat - 48)) / 100 = a.toNat - 48 from by omega, show (((a.toNat - 48) * 10 + (b.toNat - 48)) * 10 + (c.toNat - 48)) / 10 % 10 = b.toNat - 48 from by omega,
      show (((a.toNat - 48) * 10 + (b.toNat - 48)) * 10 + (c.toNat - 48)) % 10 = c.toNat - 48 from by omega, ← dig_of ha, ← dig_of hb, ← dig_of hc]
theorem dec_dot {n : Nat} (h : n < 256) : (46 : UInt8) ∉ dec n := fun hm => by
  have := ((dec_facts h).1 46 hm).1
  simp at this
theorem dec_inj {a b : Nat} (ha : a < 256) (hb : b < 256) (h : dec a = dec b) : a = b := by
  rw [← (dec_facts ha).2.1, h, (dec_facts hb).2.1]

/-- The byte whose digits these are, and is there one. -/
noncomputable def rdV (l : List UInt8) : Int := by classical exact if ∃ n, n < 256 ∧ dec n = l then (dval l : Int) else 0
noncomputable def rdO (l : List UInt8) : Bool := by classical exact decide (∃ n, n < 256 ∧ dec n = l)
theorem rd_yes {l : List UInt8} {n : Nat} (h : n < 256) (e : dec n = l) : rdV l = n ∧ rdO l = true := by
  have hex : ∃ n, n < 256 ∧ dec n = l := ⟨n, h, e⟩
  unfold rdV rdO
  rw [if_pos hex, ← e, (dec_facts h).2.1]
  exact ⟨rfl, by simpa [e] using hex⟩
theorem rd_no {l : List UInt8} (h : ¬ ∃ n, n < 256 ∧ dec n = l) : rdV l = 0 ∧ rdO l = false := by
  unfold rdV rdO
  rw [if_neg h]
  exact ⟨rfl, by simpa using h⟩
theorem rd_cases (l : List UInt8) : (∃ n, n < 256 ∧ dec n = l ∧ rdV l = n ∧ rdO l = true) ∨ ((¬ ∃ n, n < 256 ∧ dec n = l) ∧ rdV l = 0 ∧ rdO l = false) := by
  by_cases h : ∃ n, n < 256 ∧ dec n = l
  · obtain ⟨n, h1, h2⟩ := h
    exact .inl ⟨n, h1, h2, rd_yes h1 h2⟩
  · exact .inr ⟨h, rd_no h⟩

theorem ret_rd {a b : Int} {x y : Bool} (h : a = b) (h2 : x = y) : Ending.returned (.tuple #[.int .u8 a, .bool x]) = .returned (.tuple #[.int .u8 b, .bool y]) := by rw [h, h2]

end Go.Proofs.Ytogidfagkgccmaa

/-
  Contracts of the project's functions of layer 3: Right, Host, Private and what they stand on. Conditions are each theorem's own.
-/
namespace Go.Proofs.Ytogidfagkgccmaa
open Go.RowKit

def inB (a : Int) (b : Int × Int) : Bool := decide (b.1 ≤ a ∧ a ≤ b.2)
/-- The blocks lie at g, one behind the other. -/
def Blk (w : World) (g : Nat) (bs : List (Int × Int)) : Prop :=
  ∀ j, j < bs.length → w.cell? ⟨g, j * 2, none⟩ = some (.int .i64 (bs.getD j (0, 0)).1) ∧ w.cell? ⟨g, j * 2 + 1, none⟩ = some (.int .i64 (bs.getD j (0, 0)).2)
theorem Blk.below {w w' : World} {g B : Nat} {bs : List (Int × Int)} (h : Blk w g bs) (hb : Below B w w') (hg : g < B) : Blk w' g bs := fun j hj => by
  obtain ⟨h1, h2⟩ := h j hj
  exact ⟨(hb.cell (p := ⟨g, j * 2, none⟩) hg).trans h1, (hb.cell (p := ⟨g, j * 2 + 1, none⟩) hg).trans h2⟩

set_option maxHeartbeats 1000000 in
theorem cwithin (a : Int) (g : Nat) (bs : List (Int × Int)) (w : World) (hg : g < w.heap.size) (hb : Blk w g bs) (hl : bs.length ≤ 1000) :
    Calls Try.prog 161 #[.int .i64 a, .slice (some ⟨g, 0, none⟩) bs.length bs.length] w fun e w' => e = .returned (.bool (bs.any (inB a))) ∧ Below w.heap.size w w' := by
  go_enter Try.func161, Try.ntmps161
  go_wp2_with fail
  go_loopw [9] (fun i W => ∃ k : Nat, k ≤ bs.length ∧ Hid ((bs.take k).any (inB a) = false) ∧ i = .int .i64 (k : Int) ∧ Below w.heap.size w W) (fun i _ => bs.length - (intOf i).toNat)
  case atStart => exact ⟨0, Nat.zero_le _, Lib.hid (by simp), rfl, Below.refl _ _⟩
  case round =>
    obtain ⟨k, hk, HA, rfl, hbel⟩ := hrel
    by_cases hlt : k < bs.length
    · obtain ⟨h1, h2⟩ := (hb.below hbel hg) k hlt
      have HS : Hid ((bs.take (k + 1)).any (inB a) = inB a (bs.getD k (0, 0))) := Lib.hid (by
        rw [List.take_succ_eq_append_getElem hlt, List.any_append, HA.out]; simp [List.getD, hlt])
      have HM : Hid (bs.getD k (0, 0) ∈ bs) := Lib.hid (by simp [List.getD, hlt])
      have hwe : wr.heap.size ≥ w.heap.size := hbel.size
      have hbel2 := fun o => hbel.alloc hwe o
      obtain ⟨xy, hxy⟩ : ∃ xy, xy = bs.getD k (0, 0) := ⟨_, rfl⟩
      rw [← hxy] at h1 h2 HS HM
      clear hxy
      obtain ⟨x, y⟩ := xy
      by_cases hx : x ≤ a
      · by_cases hy : a ≤ y
        · have HR := Lib.hid (show bs.any (inB a) = true from List.any_eq_true.2 ⟨_, HM.out, by simp [inB, hx, hy]⟩)
          go_wp2_with fail
          go_ret
          exact ⟨ret_bool HR.out.symm, hbel2 _⟩
        · have hd : decide (a ≤ y) = false := by simpa using hy
          go_wp2_with fail
          go_roundw
          case rel => exact ⟨k + 1, by omega, Lib.hid (by rw [HS.out]; simp [inB, hy]), by simp, hbel2 _⟩
          case measure => simp [intOf]; omega
      · have hd : decide (x ≤ a) = false := by simpa using hx
        go_wp2_with fail
        go_roundw
        case rel => exact ⟨k + 1, by omega, Lib.hid (by rw [HS.out]; simp [inB, hx]), by simp, hbel2 _⟩
        case measure => simp [intOf]; omega
    · obtain rfl : k = bs.length := by omega
      have HR := Lib.hid (show bs.any (inB a) = false by have := HA.out; rwa [List.take_length] at this)
      go_wp2_with fail
      go_ret
      exact ⟨ret_bool HR.out.symm, hbel⟩

theorem cw1 (a lo hi : Int) (g : Nat) (w : World) (hg : g = w.heap.size) :
    Calls Try.prog 161 #[.int .i64 a, .slice (some ⟨g, 0, none⟩) 1 1] (w.alloc (.cells #[.int .i64 lo, .int .i64 hi] 226)) fun e w' => e = .returned (.bool (inB a (lo, hi))) ∧ Below w.heap.size w w' := by
  subst hg
  have hg := World.alloc_heap_new w (.cells #[.int .i64 lo, .int .i64 hi] 226)
  have hB := (Below.refl w.heap.size w).alloc (Nat.le_refl _) (.cells #[.int .i64 lo, .int .i64 hi] 226)
  refine (cwithin a w.heap.size [(lo, hi)] _ (by simp) (fun j hj => ?_) (by simp)).mono ?_
  · obtain rfl : j = 0 := by simp at hj; omega
    exact ⟨by rw [cell_of_row _ _ _ _ _ _ hg]; rfl, by rw [cell_of_row _ _ _ _ _ _ hg]; rfl⟩
  · rintro e w' ⟨rfl, hb⟩
    exact ⟨ret_bool (by simp), hB.trans (hb.mono (by simp))⟩
theorem cw3 (a l1 h1 l2 h2 l3 h3 : Int) (g : Nat) (w : World) (hg : g = w.heap.size) :
    Calls Try.prog 161 #[.int .i64 a, .slice (some ⟨g, 0, none⟩) 3 3] (w.alloc (.cells #[.int .i64 l1, .int .i64 h1, .int .i64 l2, .int .i64 h2, .int .i64 l3, .int .i64 h3] 226)) fun e w' => e = .returned (.bool (inB a (l1, h1) || inB a (l2, h2) || inB a (l3, h3))) ∧ Below w.heap.size w w' := by
  subst hg
  have hg := World.alloc_heap_new w (.cells #[.int .i64 l1, .int .i64 h1, .int .i64 l2, .int .i64 h2, .int .i64 l3, .int .i64 h3] 226)
  have hB := (Below.refl w.heap.size w).alloc (Nat.le_refl _) (.cells #[.int .i64 l1, .int .i64 h1, .int .i64 l2, .int .i64 h2, .int .i64 l3, .int .i64 h3] 226)
  refine (cwithin a w.heap.size [(l1, h1), (l2, h2), (l3, h3)] _ (by simp) (fun j hj => ?_) (by simp)).mono ?_
  · have hj' : j = 0 ∨ j = 1 ∨ j = 2 := by simp at hj; omega
    rcases hj' with rfl | rfl | rfl <;> exact ⟨by rw [cell_of_row _ _ _ _ _ _ hg]; rfl, by rw [cell_of_row _ _ _ _ _ _ hg]; rfl⟩
  · rintro e w' ⟨rfl, hb⟩
    exact ⟨ret_bool (by simp [Bool.or_assoc]), hB.trans (hb.mono (by simp))⟩
theorem host_in {a : Int} (h : inB a (16777216, 3758096383) = true) : hostB a = !(inB a (2130706432, 2147483647)) := by
  have h1 : 16777216 ≤ a ∧ a ≤ 3758096383 := of_decide_eq_true h
  by_cases h2 : 2130706432 ≤ a ∧ a ≤ 2147483647
  · rw [show inB a (2130706432, 2147483647) = true from decide_eq_true h2]
    exact decide_eq_false (by omega)
  · rw [show inB a (2130706432, 2147483647) = false from decide_eq_false h2]
    exact decide_eq_true (by omega)
theorem host_out {a : Int} (h : inB a (16777216, 3758096383) = false) : hostB a = false := by
  have h1 : ¬ (16777216 ≤ a ∧ a ≤ 3758096383) := of_decide_eq_false h
  exact decide_eq_false (by omega)
theorem priv_in (a : Int) : privB a = (inB a (167772160, 184549375) || inB a (2886729728, 2887778303) || inB a (3232235520, 3232301055)) := by
  simp only [privB, inB, Bool.decide_or, Bool.or_assoc]
theorem c3host (a : Int) (w : World) : Calls Try.prog 116 #[.int .i64 a] w fun e w' => e = .returned (.bool (hostB a)) ∧ Below w.heap.size w w' := by
  by_cases h : inB a (16777216, 3758096383) = true
  · have HR := Lib.hid (host_in h)
    go_enter Try.func116, Try.ntmps116
    go_wp2_with (first
      | (go_at_call 161; refine (cw1 a 2130706432 2147483647 _ w1 rfl).mono ?_; rintro e w2 ⟨rfl, b2⟩)
      | (go_at_call 161; refine (cw1 a 16777216 3758096383 _ w rfl).mono ?_; rintro e w1 ⟨rfl, b1⟩))
    go_ret
    exact ⟨ret_bool HR.out.symm, b1.trans (b2.mono b1.size)⟩
  · have h' : inB a (16777216, 3758096383) = false := by simpa using h
    have HR := Lib.hid (host_out h')
    go_enter Try.func116, Try.ntmps116
    go_wp2_with (first
      | (go_at_call 161; refine (cw1 a 16777216 3758096383 _ w rfl).mono ?_; rintro e w1 ⟨rfl, b1⟩))
    go_ret
    exact ⟨ret_bool HR.out.symm, b1⟩
end Go.Proofs.Ytogidfagkgccmaa

/-
  A region that draws its order and calls an iterator's yield: a load is taken ahead where each world of a class gives it the same value; the walk's moves, inside the widest fence. Conditions are each theorem's own.
-/
namespace Go.Proofs.Ytogidfagkgccmaa
open Go.RowKit

section
variable {n : Nat} {P : Program} {ops : Array Oper} {Q : Exit → Act → World → Prop} {md : Region.Mode} {S : World → Prop}
/-- Whatever comes up next, S holds behind it. -/
def anyHI (n : Nat) (P : Program) (md : Region.Mode) (ops : Array Oper) (Q : Exit → Act → World → Prop) (S : World → Prop) : Nat → Array Bool → Act → World → Prop
  | 0, listed, a, w => Region.ready md ops listed = [] ∧ Q .normal a w
  | fuel + 1, listed, a, w => (Region.ready md ops listed = [] → Q .normal a w) ∧
    ∀ i ∈ Region.ready md ops listed, wpOpIn Fence.wide n P ops Q i (fun a' w' => S w' ∧ anyHI n P md ops Q S fuel (listed.setIfInBounds i true) a' w') a w
theorem any_of_HI : ∀ (fuel : Nat) (listed : Array Bool) (a : Act) (w : World), anyHI n P md ops Q S fuel listed a w → wpAnyIn Fence.wide n P md ops Q fuel listed a w
  | 0, _, _, _, h => h
  | fuel + 1, _, _, _, h => ⟨h.1, fun i hi => wpOpIn_mono (fun a' w' h' => any_of_HI fuel _ a' w' h'.2) (h.2 i hi)⟩
theorem opI_here {i : Nat} {o : Oper} {v : Value} {a : Act} {w : World} {K : Act → World → Prop} (hi : ops[i]? = some o) (hy : YieldsIf P ops S o v a) (hS : S w) (h : K (a.put o.dst v) w) : wpOpIn Fence.wide n P ops Q i K a w := by
  unfold wpOpIn
  simp only [hi]
  rcases hy with ⟨hw, hv⟩ | ⟨hw, rfl⟩
  · rw [if_pos hw]
    refine ⟨fun _ _ => trivial, ?_⟩
    rw [show Fence.wide.round = none from rfl, Oper.semAt_none, hv w hS]
    exact h
  · rw [if_neg (by rw [hw]; decide)]
    exact ⟨fun _ _ => trivial, h⟩
/-- Another operation, with that one's value there already or not. -/
theorem opI_swap {j : Nat} {oi oj : Oper} {v : Value} (hj : ops[j]? = some oj) (hap : oi.apart ops oj = true) (hsi : ∀ cs b, oi.op ≠ .select cs b) (hsj : ∀ cs b, oj.op ≠ .select cs b)
    (hQ : ∀ c a w, Q (.panic c) (a.put oi.dst v) w → Q (.panic c) a w) {K : Act → World → Prop} {a : Act} {w : World} (hy : YieldsIf P ops S oi v a) (h : wpOpIn Fence.wide n P ops Q j K (a.put oi.dst v) w) :
    wpOpIn Fence.wide n P ops Q j (fun a' w' => YieldsIf P ops S oi v a' ∧ K (a'.put oi.dst v) w') a w := by
  obtain ⟨h1, h2, h3⟩ := Oper.apart_spec hap
  have stay : ∀ (b : Act), YieldsIf P ops S oi v b → ∀ u, YieldsIf P ops S oi v (b.put oj.dst u) := fun b hb u => hb.of_same (execOp_put oi hsi b oj.dst u h3) (wanted_put oi b oj.dst u h3)
  unfold wpOpIn at h ⊢
  simp only [hj] at h ⊢
  rw [wanted_put oj a oi.dst v h1] at h
  by_cases hw : Region.wanted oj (yielded ops a.tmps) = true
  · rw [if_pos hw] at h ⊢
    refine ⟨fun _ _ => trivial, ?_⟩
    have h := h.2
    rw [show Fence.wide.round = none from rfl, Oper.semAt_none] at h ⊢
    rw [execOp_put oj hsj a oi.dst v h1] at h
    generalize (execOp a.eval oj).run P w = r at h ⊢
    rcases r with ⟨x, w'⟩ | ⟨x, w'⟩
    · cases x with
      | value u => exact ⟨stay a hy u, by rw [← Act.put_comm a v u h2]; exact h⟩
      | skip => exact ⟨stay a hy _, by rw [← Act.put_comm a v undef h2]; exact h⟩
      | defer d => exact ⟨stay { a with defers := d :: a.defers } (hy.of_same rfl rfl) _, by rw [← Act.put_comm _ v undef h2, ← Act.put_defers]; exact h⟩
      | enter f args =>
        refine ⟨h.1, CallsIn.mono h.2 fun e w'' he => ?_⟩
        cases e with
        | returned u => exact ⟨stay a hy u, by rw [← Act.put_comm a v u h2]; exact he⟩
        | panicked c => exact hQ _ _ _ he
        | outgrown => exact he
      | row r args => exact ⟨h.1, RowsIn.mono h.2 fun u w'' he => ⟨stay a hy u, by rw [← Act.put_comm a v u h2]; exact he⟩⟩
      | round l f tmps assign body =>
        refine ⟨h.1, RoundIn.mono h.2 fun e w'' he => ?_⟩
        cases e with
        | returned u => exact ⟨stay a hy u, by rw [← Act.put_comm a v u h2]; exact he⟩
        | panicked c => exact hQ _ _ _ he
        | outgrown => exact he
      | _ => exact h
    · cases x with
      | panic u => exact hQ _ _ _ h
      | _ => exact h
  · rw [if_neg hw] at h ⊢
    exact ⟨fun _ _ => trivial, stay a hy _, by rw [← Act.put_comm a v undef h2]; exact h.2⟩
theorem takeI_all {i : Nat} {oi : Oper} {v : Value} (hi : ops[i]? = some oi) (hsel : ∀ (j : Nat) (o : Oper) cs b, ops[j]? = some o → o.op ≠ .select cs b) (hQ : ∀ c a w, Q (.panic c) (a.put oi.dst v) w → Q (.panic c) a w) :
    ∀ (fuel : Nat) (listed : Array Bool) (a : Act) (w : World), (∀ j oj, ops[j]? = some oj → j ≠ i → listed.getD j true = false → (∀ e ∈ oj.after, Region.binds md e = true → e.on ≠ i) → oi.apart ops oj = true) →
      i ∈ Region.ready md ops listed → YieldsIf P ops S oi v a → S w → anyHI n P md ops Q S fuel (listed.setIfInBounds i true) (a.put oi.dst v) w → anyHI n P md ops Q S (fuel + 1) listed a w
  | fuel, listed, a, w, free, hr, hy, hS, H => by
    refine ⟨fun h => (by rw [h] at hr; cases hr), fun j hj => ?_⟩
    by_cases hji : j = i
    · subst hji; exact opI_here hi hy hS ⟨hS, H⟩
    have hj' := ready_mono hj hji
    cases fuel with
    | zero => rw [H.1] at hj'; cases hj'
    | succ fuel =>
      obtain ⟨hjun, oj, hoj, hall⟩ := mem_ready.1 hj
      have hnot : ∀ e ∈ oj.after, Region.binds md e = true → e.on ≠ i := fun e he hb heq => by
        have g1 := hall e he hb
        have g0 := (mem_ready.1 hr).1
        rw [heq] at g1
        rcases Nat.lt_or_ge i listed.size with h' | h'
        · simp [h'] at g0 g1; rw [g0] at g1; cases g1
        · simp [Array.getElem?_eq_none h'] at g1
      refine wpOpIn_mono (fun a' w' h3 => ⟨h3.2.1, takeI_all hi hsel hQ fuel (listed.setIfInBounds j true) a' w' (fun k ok hk hki hun hno => free k ok hk hki ?_ hno) (ready_mono hr (Ne.symm hji)) h3.1 h3.2.1 (by rw [Array.setIfInBounds_comm _ _ hji]; exact h3.2.2)⟩)
        (opI_swap hoj (free j oj hoj hji hjun hnot) (fun cs b => hsel i oi cs b hi) (fun cs b => hsel j oj cs b hoj) hQ hy (H.2 j hj'))
      by_cases hjk : j = k
      · subst hjk; exact hjun
      · rw [getD_set_ne true hjk] at hun; exact hun
/-- An operation that yields its value in each world of the class is taken first. -/
theorem pureI {i : Nat} {oi : Oper} {v : Value} {fuel : Nat} {listed : Array Bool} {a : Act} {w : World} (hi : ops[i]? = some oi) (hs : Region.noSelect ops = true) (hf : Region.free md ops listed i = true) (hr : (Region.ready md ops listed).contains i = true)
    (hQ : ∀ c a w, Q (.panic c) (a.put oi.dst v) w → Q (.panic c) a w) (hw : Region.wanted oi (yielded ops a.tmps) = true) (hrun : ∀ w, S w → (execOp a.eval oi).run P w = .ok (.value v) w) (hS : S w)
    (h : S w → anyHI n P md ops Q S fuel (listed.setIfInBounds i true) (a.put oi.dst v) w) : anyHI n P md ops Q S (fuel + 1) listed a w :=
  takeI_all hi (Region.noSelect_spec hs) hQ fuel listed a w (Region.free_spec hi hf) (by simpa using hr) (.inl ⟨hw, hrun⟩) hS (h hS)
/-- The only one that may come up. -/
theorem oneI {i : Nat} {oi : Oper} {fuel : Nat} {listed : Array Bool} {a : Act} {w : World} (hr : Region.ready md ops listed = [i]) (hi : ops[i]? = some oi) (hw : Region.wanted oi (yielded ops a.tmps) = true)
    (h : ∀ K : Act → World → Prop, (∀ a w, S w → (S w → anyHI n P md ops Q S fuel (listed.setIfInBounds i true) a w) → K a w) → oi.wpIn Fence.wide n P a w K Q) : anyHI n P md ops Q S (fuel + 1) listed a w := by
  refine ⟨fun h0 => (by rw [hr] at h0; cases h0), fun j hj => ?_⟩
  rw [hr, List.mem_singleton] at hj
  subst hj
  unfold wpOpIn
  simp only [hi]
  rw [if_pos hw]
  exact h _ (fun a w hS hW => ⟨hS, hW hS⟩)
theorem doneI {listed : Array Bool} {a : Act} {w : World} (hr : Region.ready md ops listed = []) (h : Q .normal a w) : ∀ fuel, anyHI n P md ops Q S fuel listed a w
  | 0 => ⟨hr, h⟩
  | _ + 1 => ⟨fun _ => h, by rw [hr]; simp⟩
theorem regionI {id : Nat} {a : Act} {w : World} (hm : P.follows .mixedOrders = true) (hS : S w.drew) (h : S w.drew → anyHI n P .any ops Q S ops.size (Array.replicate ops.size false) a w.drew) : (Code.region id ops true).wpIn Fence.wide n P Q a w :=
  wpIn_region_any hm (any_of_HI _ _ _ _ (h hS))
/-- A call of a function of the program, by its plain contract. -/
theorem callI {o : Oper} {a : Act} {w : World} {K : Act → World → Prop} {f : FuncId} {args : Array Value} (hrun : (execOp a.eval o).run P w = .ok (.enter f args) w) (h : Calls P f args w fun e w' => ∃ v, e = .returned v ∧ K (a.put o.dst v) w') : o.wpIn Fence.wide n P a w K Q := by
  refine ⟨fun _ _ => trivial, ?_⟩
  rw [show Fence.wide.round = none from rfl, Oper.semAt_none, hrun]
  exact ⟨fun h => (by cases h), (callsIn_wide.2 h).mono fun e w' he => by obtain ⟨v, rfl, hk⟩ := he; exact hk⟩
/-- A call of yield. -/
theorem yieldI {o : Oper} {a : Act} {w : World} {K : Act → World → Prop} {l : Nat} {args : Array Value} {R : Ending → World → Prop} (hrun : (execOp a.eval o).run P w = (Instr.yield l args).run P w) (hY : YieldAt Fence.wide (n - 1) P l args w R)
    (h : ∀ e w', R e w' → ∃ v, e = .returned v ∧ K (a.put o.dst v) w') : o.wpIn Fence.wide n P a w K Q := by
  obtain ⟨fn, tmps, assign, body, hy, hR⟩ := hY
  refine ⟨fun _ _ => trivial, ?_⟩
  rw [show Fence.wide.round = none from rfl, Oper.semAt_none, hrun, hy]
  exact ⟨fun h => (by cases h), hR.mono fun e w' he => by obtain ⟨v, rfl, hk⟩ := h e w' he; exact hk⟩
end
/-! ### A range that never leaves its iterator early -/
/-- What a list of elements is said of stays, whatever is laid, whatever walk's object turns, and whatever is written into one block of cells of a type. -/
def StaysAt {β : Type} (T : TypeId) (B : Nat) (J : β → World → Prop) : Prop :=
  ∀ s W W' row, J s W → W.grownBy W' row → (∀ k, row = some k → (B ≤ k ∧ ∃ o : Obj, W.heap[k]? = some o ∧ o.isWalk = true) ∨ (k = B ∧ ∃ cs, W.heap[k]? = some (.cells cs T (0, 0)))) → J s W'
/-- An iterator's promise where each round goes on: its elements come in order, all of them; of each, when it comes, G is known. It may write into the first block that it lays, if that is of type T. -/
def SeqAll {α : Type} (m : Nat) (P : Program) (T : TypeId) (g : Nat) (lb : Array Value) (encs : α → Array Value) (G : List α → α → World → Prop) (Kp : World → World → Prop) (S : List α → Prop) (w : World) : Prop :=
  ∀ (l : Nat) (J : List α → World → Prop) (W : World), Below w.heap.size w W → StaysAt T W.heap.size J →
    (∀ pre x X, J pre X → G pre x X → W.heap.size < X.heap.size → YieldAt Fence.wide (m - 1) P l (encs x) X fun e Y => e = .returned (.bool true) ∧ J (pre ++ [x]) Y ∧ Kp X Y) →
    J [] W →
    CallsIn Fence.wide m P g (#[.func (.yield l) #[] #[]] ++ lb) W fun e Y => (∃ v, e = .returned v) ∧ ∃ xs, S xs ∧ J xs Y
theorem range_all {α : Type} {n : Nat} {P : Program} {T : TypeId} {g : Operand} {ps : Array Tmp} {assign body : Code} {Q : Exit → Act → World → Prop} {a : Act} {w : World} (h1 : 1 ≤ n)
    {gf : Nat} {lb : Array Value} (hg : a.eval g = .func (.func gf) #[] lb) (eg : ∀ args w, (callFunc gf args).run P w = .ok (.enter gf args) w)
    {encs : α → Array Value} {G : List α → α → World → Prop} {Kp : World → World → Prop} {S : List α → Prop} {w0 : World} (hseq : SeqAll (n - 1) P T gf lb encs G Kp S w0)
    (hKt : ∀ {A B C : World}, Kp A B → Kp B C → Kp A C) (hKb : ∀ (W : World) (l : Nat) (r r' : Loop), w.heap.size ≤ l → W.heap[l]? = some (.loop r) → Kp W (W.putObj l (.loop r')))
    (hb0 : Below w0.heap.size w0 w) (hps : ∀ x, (encs x).size = ps.size)
    (hG : ∀ (pre : List α) (x : α) (W : World) (l : Nat) (r r' : Loop), G pre x W → w.heap.size ≤ l → W.heap[l]? = some (.loop r) → G pre x (W.putObj l (.loop r')))
    (I : List α → World → Prop) (hI : OwnFrom w.heap.size I) (hI2 : ∀ s W W' k cs, I s W → W.grownBy W' (some k) → k = w.heap.size + 2 → W.heap[k]? = some (.cells cs T (0, 0)) → I s W') (h0 : I [] w) (a₁ : α → World → Act) (asg : α → World → World) (hag : ∀ (x : α) (W : World), W.grownBy (asg x W) none) (hGa : ∀ pre x W, G pre x W → G pre x (asg x W)) (hKa : ∀ (x : α) (W : World), w.heap.size ≤ W.heap.size → Kp W (asg x W))
    (hassign : ∀ (l : Nat) (x : α) (W : World) (K : Act → World → Prop), K (a₁ x W) (asg x W) →
      assign.wpIn (Fence.wide.inRound l) (n - 1 - 1) P (Exit.then K (fun _ _ _ => False)) { tmps := (ps.zip (encs x)).foldl (fun t (p, v) => t.setIfInBounds p v) a.tmps, defers := [] } W)
    (hbody : ∀ (l : Nat) (pre : List α) (x : α) (V W : World), I pre W → G pre x W → w.heap.size + 2 < W.heap.size → (∃ r, W = (asg x V).putObj l (.loop r)) → l < V.heap.size → body.wpIn (Fence.wide.inRound l) (n - 1 - 1) P (ownPostG w.heap.size Kp I (fun _ _ _ => False) (pre ++ [x]) W) (a₁ x V) W)
    (hdone : ∀ (D : Nat) (xs : List α) (W : World), w.heap.size ≤ D → S xs → I xs W → W.heap[D]? = some (.deferred (some [])) → Q .normal { a with defers := { target := .collected D, args := #[] } :: a.defers } W) :
    (Code.rangeFunc g ps assign body).wpIn Fence.wide n P Q a w := by
  refine wpIn_rangeFunc fun fn _ => ?_
  have t1 := Two.first w (recd fn a ps assign body w.heap.size .ready none)
  have b1 : Below w0.heap.size w0 ((w.alloc (.deferred (some []))).alloc (.loop (recd fn a ps assign body w.heap.size .ready none))) := (hb0.alloc hb0.size _).alloc (by have := hb0.size; simp; omega) _
  have i1 : I [] ((w.alloc (.deferred (some []))).alloc (.loop (recd fn a ps assign body w.heap.size .ready none))) := hI.alloc _ (hI.alloc _ h0)
  have z1 : ((w.alloc (.deferred (some []))).alloc (.loop (recd fn a ps assign body w.heap.size .ready none))).heap.size = w.heap.size + 2 := by simp
  obtain ⟨W1, hW1⟩ : ∃ W1, W1 = (w.alloc (.deferred (some []))).alloc (.loop (recd fn a ps assign body w.heap.size .ready none)) := ⟨_, rfl⟩
  rw [← hW1] at t1 b1 i1 z1
  refine ⟨w.heap.size + 1, [{ target := .collected w.heap.size, args := #[] }], W1, { target := .fn (.func gf) lb, args := #[.func (.yield (w.heap.size + 1)) #[] #[]] }, W1, gf, #[.func (.yield (w.heap.size + 1)) #[] #[]] ++ lb, W1,
    ?_, ?_, fun _ _ => trivial, ?_, fun _ => h1, ?_⟩
  · rw [hW1]; exact run_enterLoop_outer fn a.tmps ps assign body
  · simp only [resolve, hg]; simp [go_sem]
  · simp [invoke, go_sem, eg]
  · refine (hseq (w.heap.size + 1) (fun pre W => I pre W ∧ Two W w.heap.size (recd fn a ps assign body w.heap.size .ready none)) _ b1 ?_ ?_ ⟨i1, t1⟩).mono ?_
    · rintro s A B row ⟨hi, ht⟩ hgr hr
      cases row with
      | none => exact ⟨hI s A B none hi hgr (fun r e => by cases e), ht.abides hgr (fun r e => by cases e)⟩
      | some k =>
        rcases hr k rfl with ⟨hk, o, ho, hw⟩ | ⟨hk, cs, ho⟩
        · exact ⟨hI s A B _ hi hgr (fun r e => by cases e; exact ⟨by omega, o, ho, Obj.not_cells_of_walk hw⟩), ht.abides hgr (fun r e => by cases e; exact ⟨o, ho, hw⟩)⟩
        · refine ⟨hI2 s A B k cs hi hgr (by omega) ho, ⟨(hgr.block _ (heap_lt ht.calls) (fun e => ?_)).trans ht.calls, (hgr.block _ (heap_lt ht.rec_) (fun e => ?_)).trans ht.rec_⟩⟩
          · injection e with e; rw [← e, ht.calls] at ho; cases ho
          · injection e with e; rw [← e, ht.rec_] at ho; cases ho
    · rintro pre x X ⟨hi, ht⟩ hgx hzX
      have ha := ht.abides (hag x X) (fun r e => by cases e)
      have hia := hI pre X _ none hi (hag x X) (fun r e => by cases e)
      have hza := (hag x X).size
      refine ⟨fn, _, assign, body, run_yield ht.rec_ (hps x), roundIn_of_wpIn trivial (hassign _ x X _ ⟨_, run_beginRound ha.rec_ rfl, ?_⟩)⟩
      have hbu := ha.turn (recd fn a ps assign body w.heap.size .busy none)
      have hk0 : Kp X ((asg x X).putObj (w.heap.size + 1) (.loop (recd fn a ps assign body w.heap.size .busy none))) := hKt (hKa x X (by have := heap_lt ht.rec_; omega)) (hKb _ _ _ _ (by omega) ha.rec_)
      refine wpIn_mono (hbody _ pre x X _ (hI.putObj _ hia (by omega) ha.rec_ rfl) (hG pre x _ _ _ _ (hGa pre x X hgx) (by omega) ha.rec_) (by simp; omega) ⟨_, rfl⟩ (heap_lt ht.rec_)) (fun e b Y hp => ?_)
      cases e with
      | normal =>
        have ht2 := hbu.keeps hp.1
        exact ⟨_, _, run_endRound none ht2.rec_, rfl, ⟨hI.putObj _ hp.2.2 (by omega) ht2.rec_ rfl, ht2.turn _⟩, hKt (hKt hk0 hp.2.1) (hKb _ _ _ _ (by omega) ht2.rec_)⟩
      | ret => exact hp.2.elim
      | exit id => exact hp.2.elim
      | goto t => exact hp.2.elim
      | panic c => exact hp.elim
      | outgrown => exact hp.elim
    · rintro e Y ⟨⟨v, rfl⟩, xs, hs, hi, ht⟩
      exact ⟨none, _, run_endLoop ht.rec_ (by simp [recd]), hdone _ xs _ (Nat.le_refl _) hs (hI.putObj _ hi (by omega) ht.rec_ rfl) (ht.turn _).calls⟩
/-- The same where the round begins by a box for what came. -/
theorem range_box {α : Type} {n : Nat} {P : Program} {T : TypeId} {g : Operand} {ps : Array Tmp} {assign body : Code} {Q : Exit → Act → World → Prop} {a : Act} {w : World} (h1 : 1 ≤ n) (d : Tmp) (T' : TypeId)
    {gf : Nat} {lb : Array Value} (hg : a.eval g = .func (.func gf) #[] lb) (eg : ∀ args w, (callFunc gf args).run P w = .ok (.enter gf args) w)
    {encs : α → Array Value} {cells : α → Array Value} {G : List α → α → World → Prop} {Kp : World → World → Prop} {S : List α → Prop} {w0 : World} (hseq : SeqAll (n - 1) P T gf lb encs G Kp S w0)
    (hKt : ∀ {A B C : World}, Kp A B → Kp B C → Kp A C) (hKb : ∀ (W : World) (l : Nat) (r r' : Loop), w.heap.size ≤ l → W.heap[l]? = some (.loop r) → Kp W (W.putObj l (.loop r')))
    (hb0 : Below w0.heap.size w0 w) (hps : ∀ x, (encs x).size = ps.size)
    (hG : ∀ (pre : List α) (x : α) (W : World) (l : Nat) (r r' : Loop), G pre x W → w.heap.size ≤ l → W.heap[l]? = some (.loop r) → G pre x (W.putObj l (.loop r')))
    (I : List α → World → Prop) (hI : OwnFrom w.heap.size I) (hI2 : ∀ s W W' k cs, I s W → W.grownBy W' (some k) → k = w.heap.size + 2 → W.heap[k]? = some (.cells cs T (0, 0)) → I s W') (h0 : I [] w)
    (hGa : ∀ pre x W o, G pre x W → G pre x (W.alloc o)) (hKa : ∀ (W : World) o, w.heap.size ≤ W.heap.size → Kp W (W.alloc o))
    (hassign : ∀ (l : Nat) (x : α) (W : World) (K : Act → World → Prop), K ((({ tmps := (ps.zip (encs x)).foldl (fun t (p, v) => t.setIfInBounds p v) a.tmps, defers := [] } : Act).put (some d) (.pointer (some ⟨W.heap.size, 0, none⟩))).put none undef) (W.alloc (.cells (cells x) T')) →
      assign.wpIn (Fence.wide.inRound l) (n - 1 - 1) P (Exit.then K (fun _ _ _ => False)) { tmps := (ps.zip (encs x)).foldl (fun t (p, v) => t.setIfInBounds p v) a.tmps, defers := [] } W)
    (hbody : ∀ (l : Nat) (pre : List α) (x : α) (b : Nat) (W : World), I pre W → G pre x W → w.heap.size + 2 < W.heap.size → W.heap[b]? = some (.cells (cells x) T' (0, 0)) → body.wpIn (Fence.wide.inRound l) (n - 1 - 1) P (ownPostG w.heap.size Kp I (fun _ _ _ => False) (pre ++ [x]) W)
      ((({ tmps := (ps.zip (encs x)).foldl (fun t (p, v) => t.setIfInBounds p v) a.tmps, defers := [] } : Act).put (some d) (.pointer (some ⟨b, 0, none⟩))).put none undef) W)
    (hdone : ∀ (D : Nat) (xs : List α) (W : World), w.heap.size ≤ D → S xs → I xs W → W.heap[D]? = some (.deferred (some [])) → Q .normal { a with defers := { target := .collected D, args := #[] } :: a.defers } W) :
    (Code.rangeFunc g ps assign body).wpIn Fence.wide n P Q a w :=
  range_all h1 hg eg hseq hKt hKb hb0 hps hG I hI hI2 h0
    (fun x W => (({ tmps := (ps.zip (encs x)).foldl (fun t (p, v) => t.setIfInBounds p v) a.tmps, defers := [] } : Act).put (some d) (.pointer (some ⟨W.heap.size, 0, none⟩))).put none undef) (fun x W => W.alloc (.cells (cells x) T'))
    (fun x W => World.grownBy_alloc W _ none) (fun pre x W h => hGa pre x W _ h) (fun x W hz => hKa W _ hz) hassign
    (fun l pre x V W hi hg hz hW hl => hbody l pre x V.heap.size W hi hg hz (by
      obtain ⟨r, rfl⟩ := hW
      rw [World.putObj_heap_other (by omega)]
      exact World.alloc_heap_new V _)) hdone
/-- An operation of a list within a round that yields a value, or stores. -/
theorem listR_val {l n : Nat} {P : Program} {ops : Array Oper} {rest : List Oper} {o : Oper} {a : Act} {w : World} {Q : Exit → Act → World → Prop} {v : Value} (hg : o.guard = none) (hd : ∀ c, o.op ≠ .defer c) (hrun : (execOp a.eval o).run P w = .ok (.value v) w)
    (h : wpListIn (Fence.wide.inRound l) n P ops Q rest (a.put o.dst v) w) : wpListIn (Fence.wide.inRound l) n P ops Q (o :: rest) a w :=
  wpListIn_plain hg fun K hK => ⟨fun _ _ => trivial, by rw [Oper.semAt_plain _ _ _ hd, hrun]; exact hK _ _ h⟩
theorem listR_skip {l n : Nat} {P : Program} {ops : Array Oper} {rest : List Oper} {o : Oper} {a : Act} {w w' : World} {Q : Exit → Act → World → Prop} (hg : o.guard = none) (hd : ∀ c, o.op ≠ .defer c) (hrun : (execOp a.eval o).run P w = .ok .skip w')
    (h : wpListIn (Fence.wide.inRound l) n P ops Q rest (a.put o.dst undef) w') : wpListIn (Fence.wide.inRound l) n P ops Q (o :: rest) a w :=
  wpListIn_plain hg fun K hK => ⟨fun _ _ => trivial, by rw [Oper.semAt_plain _ _ _ hd, hrun]; exact hK _ _ h⟩
theorem listR_grow {l n : Nat} {P : Program} {ops : Array Oper} {rest : List Oper} {o : Oper} {a : Act} {w w' : World} {Q : Exit → Act → World → Prop} {v : Value} (hg : o.guard = none) (hd : ∀ c, o.op ≠ .defer c) (hrun : (execOp a.eval o).run P w = .ok (.value v) w')
    (h : wpListIn (Fence.wide.inRound l) n P ops Q rest (a.put o.dst v) w') : wpListIn (Fence.wide.inRound l) n P ops Q (o :: rest) a w :=
  wpListIn_plain hg fun K hK => ⟨fun _ _ => trivial, by rw [Oper.semAt_plain _ _ _ hd, hrun]; exact hK _ _ h⟩
end Go.Proofs.Ytogidfagkgccmaa

/-
  A region that draws its order, loads, and then stores into what it loaded: a load is taken ahead as long as a certain store has not come up; the walk's moves. Conditions are each theorem's own.
-/
namespace Go.Proofs.Ytogidfagkgccmaa
open Go.RowKit

section
variable {n : Nat} {P : Program} {ops : Array Oper} {Q : Exit → Act → World → Prop} {md : Region.Mode} {S : World → Prop} {y : Nat}
/-- Whatever comes up next, S holds behind it, as long as operation y has not come up. -/
def anyHY (n : Nat) (P : Program) (md : Region.Mode) (ops : Array Oper) (Q : Exit → Act → World → Prop) (y : Nat) (S : World → Prop) : Nat → Array Bool → Act → World → Prop
  | 0, listed, a, w => Region.ready md ops listed = [] ∧ Q .normal a w
  | fuel + 1, listed, a, w => (Region.ready md ops listed = [] → Q .normal a w) ∧
    ∀ i ∈ Region.ready md ops listed, wpOpIn Fence.wide n P ops Q i (fun a' w' => ((listed.setIfInBounds i true).getD y true = false → S w') ∧ anyHY n P md ops Q y S fuel (listed.setIfInBounds i true) a' w') a w
theorem any_of_HY : ∀ (fuel : Nat) (listed : Array Bool) (a : Act) (w : World), anyHY n P md ops Q y S fuel listed a w → wpAnyIn Fence.wide n P md ops Q fuel listed a w
  | 0, _, _, _, h => h
  | fuel + 1, _, _, _, h => ⟨h.1, fun i hi => wpOpIn_mono (fun a' w' h' => any_of_HY fuel _ a' w' h'.2) (h.2 i hi)⟩
/-- Operation y waits for operation i. -/
def waitsB (md : Region.Mode) (ops : Array Oper) (y i : Nat) : Bool := match ops[y]? with | some o => o.after.any fun e => Region.binds md e && e.on == i | none => false
theorem waitsB_spec {i : Nat} {o : Oper} (h : waitsB md ops y i = true) (ho : ops[y]? = some o) : ∃ e ∈ o.after, Region.binds md e = true ∧ e.on = i := by
  unfold waitsB at h
  rw [ho] at h
  obtain ⟨e, he, hb⟩ := Array.any_eq_true'.1 h
  simp only [Bool.and_eq_true, beq_iff_eq] at hb
  exact ⟨e, he, hb.1, hb.2⟩
theorem takeY_all {i : Nat} {oi : Oper} {v : Value} (hi : ops[i]? = some oi) (hw : waitsB md ops y i = true) (hsel : ∀ (j : Nat) (o : Oper) cs b, ops[j]? = some o → o.op ≠ .select cs b) (hQ : ∀ c a w, Q (.panic c) (a.put oi.dst v) w → Q (.panic c) a w) :
    ∀ (fuel : Nat) (listed : Array Bool) (a : Act) (w : World), (∀ j oj, ops[j]? = some oj → j ≠ i → listed.getD j true = false → (∀ e ∈ oj.after, Region.binds md e = true → e.on ≠ i) → oi.apart ops oj = true) →
      i ∈ Region.ready md ops listed → listed.getD y true = false → YieldsIf P ops S oi v a → S w → anyHY n P md ops Q y S fuel (listed.setIfInBounds i true) (a.put oi.dst v) w → anyHY n P md ops Q y S (fuel + 1) listed a w
  | fuel, listed, a, w, free, hr, hyl, hy, hS, H => by
    refine ⟨fun h => (by rw [h] at hr; cases hr), fun j hj => ?_⟩
    by_cases hji : j = i
    · subst hji; exact opI_here hi hy hS ⟨fun _ => hS, H⟩
    have hj' := ready_mono hj hji
    cases fuel with
    | zero => rw [H.1] at hj'; cases hj'
    | succ fuel =>
      obtain ⟨hjun, oj, hoj, hall⟩ := mem_ready.1 hj
      have hnot : ∀ e ∈ oj.after, Region.binds md e = true → e.on ≠ i := fun e he hb heq => by
        have g1 := hall e he hb
        have g0 := (mem_ready.1 hr).1
        rw [heq] at g1
        rcases Nat.lt_or_ge i listed.size with h' | h'
        · simp [h'] at g0 g1; rw [g0] at g1; cases g1
        · simp [Array.getElem?_eq_none h'] at g1
      have hjy : j ≠ y := fun e => by
        subst e
        obtain ⟨e, he, hb, hon⟩ := waitsB_spec hw hoj
        exact hnot e he hb hon
      have hyl' : (listed.setIfInBounds j true).getD y true = false := by rw [getD_set_ne true hjy]; exact hyl
      refine wpOpIn_mono (fun a' w' h3 => ?_) (opI_swap hoj (free j oj hoj hji hjun hnot) (fun cs b => hsel i oi cs b hi) (fun cs b => hsel j oj cs b hoj) hQ hy (H.2 j hj'))
      have hS' : S w' := h3.2.1 (by rw [getD_set_ne true hjy]; by_cases hiy : i = y
                                    · subst hiy
                                      have g0 := (mem_ready.1 hr).1
                                      obtain ⟨e, he, hb, hon⟩ := waitsB_spec hw hi
                                      obtain ⟨_, o2, ho2, hall2⟩ := mem_ready.1 hr
                                      rw [hi] at ho2
                                      cases ho2
                                      have g1 := hall2 e he hb
                                      rw [hon] at g1
                                      exfalso
                                      rcases Nat.lt_or_ge i listed.size with h' | h'
                                      · simp [h'] at g0 g1; rw [g0] at g1; cases g1
                                      · simp [Array.getElem?_eq_none h'] at g1
                                    · rw [getD_set_ne true hiy]; exact hyl)
      refine ⟨fun _ => hS', takeY_all hi hw hsel hQ fuel (listed.setIfInBounds j true) a' w' (fun k ok hk hki hun hno => free k ok hk hki ?_ hno) (ready_mono hr (Ne.symm hji)) hyl' h3.1 hS' (by rw [Array.setIfInBounds_comm _ _ hji]; exact h3.2.2)⟩
      by_cases hjk : j = k
      · subst hjk; exact hjun
      · rw [getD_set_ne true hjk] at hun; exact hun
theorem pureY {i : Nat} {oi : Oper} {v : Value} {fuel : Nat} {listed : Array Bool} {a : Act} {w : World} (hi : ops[i]? = some oi) (hs : Region.noSelect ops = true) (hf : Region.free md ops listed i = true) (hr : (Region.ready md ops listed).contains i = true)
    (hd : waitsB md ops y i = true) (hyl : listed.getD y true = false) (hQ : ∀ c a w, Q (.panic c) (a.put oi.dst v) w → Q (.panic c) a w) (hw : Region.wanted oi (yielded ops a.tmps) = true) (hrun : ∀ w, S w → (execOp a.eval oi).run P w = .ok (.value v) w) (hS : S w)
    (h : anyHY n P md ops Q y S fuel (listed.setIfInBounds i true) (a.put oi.dst v) w) : anyHY n P md ops Q y S (fuel + 1) listed a w :=
  takeY_all hi hd (Region.noSelect_spec hs) hQ fuel listed a w (Region.free_spec hi hf) (by simpa using hr) hyl (.inl ⟨hw, hrun⟩) hS h
theorem oneY {i : Nat} {oi : Oper} {fuel : Nat} {listed : Array Bool} {a : Act} {w : World} (hr : Region.ready md ops listed = [i]) (hi : ops[i]? = some oi) (hw : Region.wanted oi (yielded ops a.tmps) = true)
    (h : ∀ K : Act → World → Prop, (∀ a w, ((listed.setIfInBounds i true).getD y true = false → S w) → anyHY n P md ops Q y S fuel (listed.setIfInBounds i true) a w → K a w) → oi.wpIn Fence.wide n P a w K Q) : anyHY n P md ops Q y S (fuel + 1) listed a w := by
  refine ⟨fun h0 => (by rw [hr] at h0; cases h0), fun j hj => ?_⟩
  rw [hr, List.mem_singleton] at hj
  subst hj
  unfold wpOpIn
  simp only [hi]
  rw [if_pos hw]
  exact h _ (fun a w hS hW => ⟨hS, hW⟩)
theorem doneY {listed : Array Bool} {a : Act} {w : World} (hr : Region.ready md ops listed = []) (h : Q .normal a w) : ∀ fuel, anyHY n P md ops Q y S fuel listed a w
  | 0 => ⟨hr, h⟩
  | _ + 1 => ⟨fun _ => h, by rw [hr]; simp⟩
theorem regionY (y : Nat) (S : World → Prop) {id : Nat} {a : Act} {w : World} (hm : P.follows .mixedOrders = true) (h : anyHY 0 P .any ops Q y S ops.size (Array.replicate ops.size false) a w.drew) : (Code.region id ops true).wp P Q a w :=
  wpIn_wide.1 (wpIn_region_any (n := 0) hm (any_of_HY _ _ _ _ h))
/-- An operation that yields a value; one that goes by its plain law. -/
theorem valI {o : Oper} {a : Act} {w : World} {K : Act → World → Prop} {v : Value} (hrun : (execOp a.eval o).run P w = .ok (.value v) w) (h : K (a.put o.dst v) w) : o.wpIn Fence.wide n P a w K Q :=
  ⟨fun _ _ => trivial, by rw [show Fence.wide.round = none from rfl, Oper.semAt_none, hrun]; exact h⟩
theorem plainI {o : Oper} {a : Act} {w : World} {K : Act → World → Prop} (hr : ∀ r args w', (execOp a.eval o).run P w ≠ .ok (.row r args) w') (h : o.wp P a w K Q) : o.wpIn Fence.wide n P a w K Q := by
  refine ⟨fun _ _ => trivial, ?_⟩
  rw [show Fence.wide.round = none from rfl, Oper.semAt_none]
  unfold Oper.wp at h
  generalize (execOp a.eval o).run P w = r at h hr ⊢
  rcases r with ⟨x, w'⟩ | ⟨x, w'⟩
  · cases x with
    | value v => exact h
    | skip => exact h
    | defer d => exact h
    | enter f args => exact ⟨fun h => (by cases h), callsIn_wide.2 h⟩
    | row r args => exact absurd rfl (hr r args w')
    | _ => exact h.elim
  · cases x with
    | panic v => exact h
    | _ => exact h.elim
end
end Go.Proofs.Ytogidfagkgccmaa

/-
  Contracts of the small functions of layer 19: isMade, isProto, each, classes, alike. Conditions are each theorem's own.
-/
namespace Go.Proofs.Ytogidfagkgccmaa
open Go.RowKit Go.Shelf
theorem p19proto (p : Int) (w : World) : Calls Try.prog 76 #[.int .i64 p] w fun e w' => e = .returned (.bool (protoB p)) ∧ w = w' := by
  by_cases h1 : p = 1
  · subst h1
    go_enter Try.func76, Try.ntmps76
    go_wp2
    go_ret
    exact ⟨rfl, rfl⟩
  by_cases h2 : p = 6
  · subst h2
    go_enter Try.func76, Try.ntmps76
    go_wp2
    go_ret
    exact ⟨rfl, rfl⟩
  have HR := Lib.hid (show decide (p = 17) = protoB p by simp [protoB, h1, h2])
  have e1 : (p == 1) = false := by simpa using h1
  have e2 : (p == 6) = false := by simpa using h2
  go_enter Try.func76, Try.ntmps76
  go_wp2
  go_ret
  exact ⟨ret_bool (by rw [← HR.out]; rfl), rfl⟩
theorem ld_span {o : Oper} {a : Act} {w : World} {x : Operand} {g i : Nat} {cs : List Value} (ho : o.op = .load 136 x) (hx : a.eval x = .pointer (some ⟨g, i, none⟩)) (hr : w.rangeAt g i cs) (hl : cs.length = 2) :
    (execOp a.eval o).run Try.prog w = .ok (.value (.agg cs.toArray)) w := by
  have h := run_loadVar_mid (P := Try.prog) w g i 136 cs _ hr Try.underlying136 rfl (by rw [hl]; kernel_rfl)
  unfold execOp
  simp only [ho, hx, Instr.loadAt, Instr.sureAddr, Sem.run_bind, Sem.run_pure, Result.andThen_ok, h]
theorem str_span {ops : Array Oper} {rest : List Oper} {x y : Operand} {ty : TypeId} {pos : String} {af : Array Edge} {a : Act} {w : World} {Q : Exit → Act → World → Prop}
    {g : Nat} {t : TypeId} {cs old : Array Value} (hx : a.eval x = .pointer (some ⟨g, 0, none⟩)) (hy : a.eval y = .agg cs) (hg : w.heap[g]? = some (.cells old t (0, 0))) (ho : old.size = 2) (hl : cs.size = 2) (h1 : cs.all (·.oneCell') = true)
    (h : wpList Try.prog ops Q rest (a.put none undef) (w.setRow g cs)) : wpList Try.prog ops Q (⟨none, .store 136 x y, ty, pos, af, none⟩ :: rest) a w :=
  wpList_plain rfl fun _ hK => wp_store_row 136 x y rfl g cs hx hy t old hg (by rw [hl]; kernel_rfl) (by rw [ho, hl]) h1 (hK _ _ h)
theorem strn_span {ops : Array Oper} {rest : List Oper} {x y : Operand} {ty : TypeId} {pos : String} {af : Array Edge} {a : Act} {w : World} {Q : Exit → Act → World → Prop}
    {t : TypeId} {cs old : Array Value} (hx : a.eval x = .pointer (some ⟨w.heap.size, 0, none⟩)) (hy : a.eval y = .agg cs) (ho : old.size = 2) (hl : cs.size = 2) (h1 : cs.all (·.oneCell') = true)
    (h : wpList Try.prog ops Q rest (a.put none undef) (w.alloc (.cells cs t))) : wpList Try.prog ops Q (⟨none, .store 136 x y, ty, pos, af, none⟩ :: rest) a (w.alloc (.cells old t)) :=
  str_span hx hy (World.alloc_heap_new w _) ho hl h1 (by rw [World.setRow_alloc_new]; exact h)
theorem res_span {fn : Func} {p : Tmp} {tmps : Array Value} {w : World} {g : Nat} {t : TypeId} {cs : Array Value} {fr : Nat × Nat} (h : fn.results = #[.cell p 136])
    (hp : tmps.getD p undef = .pointer (some ⟨g, 0, none⟩)) (hg : w.heap[g]? = some (.cells cs t fr)) (hl : cs.size = 2) : (results fn tmps).run Try.prog w = .ok (.agg cs) w :=
  results_cell_row h tmps w g t cs fr _ hp hg Try.underlying136 rfl (by rw [hl]; kernel_rfl)
theorem ld_run {o : Oper} {a : Act} {w : World} {x : Operand} {g i : Nat} {cs : List Value} (ho : o.op = .load 180 x) (hx : a.eval x = .pointer (some ⟨g, i, none⟩)) (hr : w.rangeAt g i cs) (hl : cs.length = 3) :
    (execOp a.eval o).run Try.prog w = .ok (.value (.agg cs.toArray)) w := by
  have h := run_loadVar_mid (P := Try.prog) w g i 180 cs _ hr Try.underlying180 rfl (by rw [hl]; kernel_rfl)
  unfold execOp
  simp only [ho, hx, Instr.loadAt, Instr.sureAddr, Sem.run_bind, Sem.run_pure, Result.andThen_ok, h]
theorem str_run {ops : Array Oper} {rest : List Oper} {x y : Operand} {ty : TypeId} {pos : String} {af : Array Edge} {a : Act} {w : World} {Q : Exit → Act → World → Prop}
    {g : Nat} {t : TypeId} {cs old : Array Value} (hx : a.eval x = .pointer (some ⟨g, 0, none⟩)) (hy : a.eval y = .agg cs) (hg : w.heap[g]? = some (.cells old t (0, 0))) (ho : old.size = 3) (hl : cs.size = 3) (h1 : cs.all (·.oneCell') = true)
    (h : wpList Try.prog ops Q rest (a.put none undef) (w.setRow g cs)) : wpList Try.prog ops Q (⟨none, .store 180 x y, ty, pos, af, none⟩ :: rest) a w :=
  wpList_plain rfl fun _ hK => wp_store_row 180 x y rfl g cs hx hy t old hg (by rw [hl]; kernel_rfl) (by rw [ho, hl]) h1 (hK _ _ h)
theorem strn_run {ops : Array Oper} {rest : List Oper} {x y : Operand} {ty : TypeId} {pos : String} {af : Array Edge} {a : Act} {w : World} {Q : Exit → Act → World → Prop}
    {t : TypeId} {cs old : Array Value} (hx : a.eval x = .pointer (some ⟨w.heap.size, 0, none⟩)) (hy : a.eval y = .agg cs) (ho : old.size = 3) (hl : cs.size = 3) (h1 : cs.all (·.oneCell') = true)
    (h : wpList Try.prog ops Q rest (a.put none undef) (w.alloc (.cells cs t))) : wpList Try.prog ops Q (⟨none, .store 180 x y, ty, pos, af, none⟩ :: rest) a (w.alloc (.cells old t)) :=
  str_run hx hy (World.alloc_heap_new w _) ho hl h1 (by rw [World.setRow_alloc_new]; exact h)
theorem res_run {fn : Func} {p : Tmp} {tmps : Array Value} {w : World} {g : Nat} {t : TypeId} {cs : Array Value} {fr : Nat × Nat} (h : fn.results = #[.cell p 180])
    (hp : tmps.getD p undef = .pointer (some ⟨g, 0, none⟩)) (hg : w.heap[g]? = some (.cells cs t fr)) (hl : cs.size = 3) : (results fn tmps).run Try.prog w = .ok (.agg cs) w :=
  results_cell_row h tmps w g t cs fr _ hp hg Try.underlying180 rfl (by rw [hl]; kernel_rfl)
theorem ret_run (a b c : Int) (r : Rn) (h1 : a = r.lo) (h2 : b = r.hi) (h3 : c = r.st) : Ending.returned (.agg #[.int .i64 a, .int .i64 b, .int .i64 c]) = .returned (.agg (clR r).toArray) := by
  subst h1 h2 h3; rfl
set_option maxRecDepth 100000 in
theorem p19each (slo shi lo hi : Int) (w : World) : Calls Try.prog 164 #[.agg #[.int .i64 slo, .int .i64 shi], .int .i64 lo, .int .i64 hi] w fun e w' => e = .returned (.agg (clR (eachR slo shi lo hi)).toArray) ∧ Below w.heap.size w w' := by
  have hg : ∀ o1 o2 : Obj, ((w.alloc o1).alloc o2).heap[w.heap.size + 1]? = some o2 := fun o1 o2 => by
    have := World.alloc_heap_new (w.alloc o1) o2
    rwa [World.size_alloc] at this
  go_enter Try.func164, Try.ntmps164
  go_wp2
  all_goals exact bodyPost_ret (res_run rfl rfl (hg _ _) rfl) rfl ⟨ret_run _ _ _ _ (by simp only [eachR]; omega) (by simp only [eachR]; omega) rfl, below_two _ _ _⟩
theorem xor_one (a b : Int) (ha : 0 ≤ a ∧ a ≤ 70000) (hb : 0 ≤ b ∧ b ≤ 70000) : bits .and .i64 (bits .xor .i64 a b) 1 = (a + b) % 2 := by
  obtain ⟨m, rfl⟩ := Int.eq_ofNat_of_zero_le ha.1
  obtain ⟨n, rfl⟩ := Int.eq_ofNat_of_zero_le hb.1
  have h1 : bits .xor .i64 (m : Int) (n : Int) = ((m ^^^ n : Nat) : Int) := by
    have hp : 2 ^ 63 ≤ 2 ^ IntKind.i64.bits := by decide
    have ha' : m % 2 ^ IntKind.i64.bits = m := Nat.mod_eq_of_lt (by omega)
    have hb' : n % 2 ^ IntKind.i64.bits = n := Nat.mod_eq_of_lt (by omega)
    have hx : m ^^^ n < 2 ^ 63 := Nat.xor_lt_two_pow (by omega) (by omega)
    simp only [bits, BitVec.ofInt_natCast, BitVec.toNat_xor, BitVec.toNat_ofNat, ha', hb']
    exact wraps63 _ (Int.natCast_nonneg _) (by omega)
  rw [h1, show (1 : Int) = ((1 : Nat) : Int) from rfl, (bits_nat .i64 63 (by decide) wraps63 (m ^^^ n) 1 (Nat.xor_lt_two_pow (by omega) (by omega)) (by decide)).1, Nat.and_one_is_mod]
  by_cases e1 : m % 2 = 1
  · by_cases e2 : n % 2 = 1
    · have h3 : ¬ (m ^^^ n) % 2 = 1 := by simp [e1, e2]
      omega
    · have h3 : (m ^^^ n) % 2 = 1 := by simp [e1, e2]
      omega
  · by_cases e2 : n % 2 = 1
    · have h3 : (m ^^^ n) % 2 = 1 := by simp [e1, e2]
      omega
    · have h3 : ¬ (m ^^^ n) % 2 = 1 := by simp [e1, e2]
      omega
set_option maxRecDepth 100000 in
theorem p19alike (slo shi lo hi port : Int) (hp : 0 ≤ slo ∧ slo ≤ 70000) (hp2 : 0 ≤ lo ∧ lo ≤ 70000) (hp3 : 0 ≤ port ∧ port ≤ 70000) (w : World) : Calls Try.prog 165 #[.agg #[.int .i64 slo, .int .i64 shi], .int .i64 lo, .int .i64 hi, .int .i64 port] w fun e w' => e = .returned (.agg (clR (alikeR slo shi lo hi port)).toArray) ∧ Below w.heap.size w w' := by
  have hg : ∀ (o1 o2 : Obj) (w1 : World) (o3 : Obj), Below ((w.alloc o1).alloc o2).heap.size ((w.alloc o1).alloc o2) w1 → (w1.alloc o3).heap[w.heap.size + 1]? = some o2 := fun o1 o2 w1 o3 hb => by
    have := World.alloc_heap_new (w.alloc o1) o2
    rw [World.size_alloc] at this
    have hz := hb.size
    simp at hz
    rw [Below.heap_alloc _ _ _ (by omega), hb.block _ (by simp)]
    exact this
  obtain ⟨M, hM⟩ : ∃ M, M = max slo lo := ⟨_, rfl⟩
  obtain ⟨N, hN⟩ : ∃ N, N = min shi hi := ⟨_, rfl⟩
  have hM0 : 0 ≤ M ∧ M ≤ 70000 := by omega
  have hE : Hid ((clR (eachR slo shi lo hi)).toArray = #[.int .i64 M, .int .i64 N, .int .i64 1]) := Lib.hid (by rw [hM, hN]; rfl)
  have hR : Hid (clR (alikeR slo shi lo hi port) = [.int .i64 (M + (M + port) % 2), .int .i64 N, .int .i64 2]) := Lib.hid (by rw [hM, hN]; rfl)
  clear hM hN
  have hbit := xor_one M port ⟨hM0.1, hM0.2⟩ hp3
  have hw : 0 ≤ (M + port) % 2 ∧ (M + port) % 2 ≤ 1 := by omega
  go_enter Try.func165, Try.ntmps165
  go_wp2_with (first
    | (go_at_call 164; refine (p19each _ _ _ _ _).mono ?_; rintro e w1 ⟨rfl, b1⟩; rw [hE.out]; have hgV := fun o1 => hg _ _ w1 o1 b1)
    | ((with_reducible show wpList _ _ _ (Oper.mk none (Op.store 180 (Operand.tmp 8) _) _ _ _ _ :: _) _ _); go_loud (refine str_run (g := w.heap.size + 1) (t := 180) (old := #[.int .i64 0, .int .i64 0, .int .i64 0]) rfl rfl (hgV _) rfl rfl (by simp [Value.oneCell']) ?_)))
  refine bodyPost_ret (res_run rfl rfl (setRow_heap _ _ _ _ _ _ (hgV _)) rfl) rfl ⟨by rw [hR.out], ?_⟩
  exact below_setRow (((below_two w _ _).trans (b1.mono (by simp; omega))).alloc (by have := b1.size; simp at this; omega) _) (by omega) _
theorem four_heap (w : World) (o1 o2 o3 o4 : Obj) : ((((w.alloc o1).alloc o2).alloc o3).alloc o4).heap[w.heap.size]? = some o1 ∧ ((((w.alloc o1).alloc o2).alloc o3).alloc o4).heap[w.heap.size + 1]? = some o2 ∧ ((((w.alloc o1).alloc o2).alloc o3).alloc o4).heap[w.heap.size + 1 + 1]? = some o3 ∧ ((((w.alloc o1).alloc o2).alloc o3).alloc o4).heap[w.heap.size + 1 + 1 + 1]? = some o4 := by
  have e1 := World.alloc_heap_new w o1
  have e2 := World.alloc_heap_new (w.alloc o1) o2
  have e3 := World.alloc_heap_new ((w.alloc o1).alloc o2) o3
  have e4 := World.alloc_heap_new (((w.alloc o1).alloc o2).alloc o3) o4
  simp only [World.size_alloc] at e2 e3 e4
  refine ⟨?_, ?_, ?_, e4⟩
  · rw [Below.heap_alloc _ _ _ (by first | (simp; done) | (simp; omega)), Below.heap_alloc _ _ _ (by first | (simp; done) | (simp; omega)), Below.heap_alloc _ _ _ (by simp)]; exact e1
  · rw [Below.heap_alloc _ _ _ (by first | (simp; done) | (simp; omega)), Below.heap_alloc _ _ _ (by simp)]; exact e2
  · rw [Below.heap_alloc _ _ _ (by simp)]; exact e3
theorem setRow_o (w : World) (g k : Nat) (cs : Array Value) (h : k ≠ g) : (w.setRow g cs).heap[k]? = w.heap[k]? := by
  unfold World.setRow
  rw [Array.getElem?_modify, if_neg (fun e => h e.symm)]
theorem res2_span {fn : Func} {p q : Tmp} {tmps : Array Value} {w : World} {g g' : Nat} {t t' : TypeId} {cs cs' : Array Value} {fr fr' : Nat × Nat} (h : fn.results = #[.cell p 136, .cell q 136])
    (hp : tmps.getD p undef = .pointer (some ⟨g, 0, none⟩)) (hq : tmps.getD q undef = .pointer (some ⟨g', 0, none⟩)) (hg : w.heap[g]? = some (.cells cs t fr) ∧ cs.size = 2) (hg' : w.heap[g']? = some (.cells cs' t' fr') ∧ cs'.size = 2) : (results fn tmps).run Try.prog w = .ok (.tuple #[.agg cs, .agg cs']) w := by
  have l1 := run_loadVar_row (P := Try.prog) w g t 136 cs fr _ hg.1 Try.underlying136 rfl (by rw [hg.2]; kernel_rfl)
  have l2 := run_loadVar_row (P := Try.prog) w g' t' 136 cs' fr' _ hg'.1 Try.underlying136 rfl (by rw [hg'.2]; kernel_rfl)
  have hp' : tmps[p]?.getD undef = .pointer (some ⟨g, 0, none⟩) := by simpa using hp
  have hq' : tmps[q]?.getD undef = .pointer (some ⟨g', 0, none⟩) := by simpa using hq
  simp [results, h, hp', hq', asAddr, l1, l2]
set_option maxRecDepth 100000 in
set_option maxHeartbeats 1000000 in
theorem p19classes (p : Int) (w : World) : Calls Try.prog 163 #[.int .i64 p] w fun e w' => e = .returned (.tuple #[.agg #[.int .i64 (nearL p), .int .i64 (nearH p)], .agg #[.int .i64 (farL p), .int .i64 (farH p)]]) ∧ Below w.heap.size w w' := by
  obtain ⟨W, hW⟩ : ∃ W, W = (((w.alloc (.cells #[.int .i64 0, .int .i64 0] 136)).alloc (.cells #[.int .i64 0, .int .i64 0] 136)).alloc (.cells #[.int .i64 0, .int .i64 1023] 136)).alloc (.cells #[.int .i64 1024, .int .i64 65535] 136) := ⟨_, rfl⟩
  have hbW : Below w.heap.size w W := by rw [hW]; exact ((((Below.refl w.heap.size w).alloc (Nat.le_refl _) _).alloc (by simp) _).alloc (by simp; omega) _).alloc (by simp; omega) _
  have hh : W.heap[w.heap.size]? = some (.cells #[.int .i64 0, .int .i64 0] 136 (0, 0)) ∧ W.heap[w.heap.size + 1]? = some (.cells #[.int .i64 0, .int .i64 0] 136 (0, 0)) ∧ W.heap[w.heap.size + 1 + 1]? = some (.cells #[.int .i64 0, .int .i64 1023] 136 (0, 0)) ∧ W.heap[w.heap.size + 1 + 1 + 1]? = some (.cells #[.int .i64 1024, .int .i64 65535] 136 (0, 0)) := by
    rw [hW]
    exact four_heap w _ _ _ _
  obtain ⟨h2, h3, h4, h5⟩ := hh
  have hW' := hW.symm
  clear hW
  by_cases hp : p < 1024
  · have HR : Hid (nearL p = 0 ∧ nearH p = 1023 ∧ farL p = 1024 ∧ farH p = 65535) := Lib.hid (by simp [nearL, nearH, farL, farH, hp])
    rw [HR.out.1, HR.out.2.1, HR.out.2.2.1, HR.out.2.2.2]
    go_enter Try.func163, Try.ntmps163
    go_upto_region 3 with fail
    try rw [hW']
    clear hW'
    have h3 : (W.drew.setRow w.heap.size #[.int .i64 0, .int .i64 1023]).heap[w.heap.size + 1]? = some (.cells #[.int .i64 0, .int .i64 0] 136 (0, 0)) := by rw [setRow_o _ _ _ _ (by omega)]; exact h3
    have hr2 : ((W.drew.setRow w.heap.size #[.int .i64 0, .int .i64 1023]).setRow (w.heap.size + 1) #[.int .i64 1024, .int .i64 65535]).heap[w.heap.size]? = some (.cells #[.int .i64 0, .int .i64 1023] 136 (0, 0)) ∧ (#[.int .i64 0, .int .i64 1023] : Array Value).size = 2 := ⟨by rw [setRow_o _ _ _ _ (by omega)]; exact setRow_heap _ _ _ _ _ _ h2, rfl⟩
    have hr3 : ((W.drew.setRow w.heap.size #[.int .i64 0, .int .i64 1023]).setRow (w.heap.size + 1) #[.int .i64 1024, .int .i64 65535]).heap[w.heap.size + 1]? = some (.cells #[.int .i64 1024, .int .i64 65535] 136 (0, 0)) ∧ (#[.int .i64 1024, .int .i64 65535] : Array Value).size = 2 := ⟨setRow_heap _ _ _ _ _ _ h3, rfl⟩
    refine wp_region_held_drew (S := fun _ => True) (by kernel_rfl) trivial (fun hS => ?_)
    refine wpAnyH_ready (rs := [0, 1]) (by kernel_rfl) (by simp) (AllReadyH.cons (o := ⟨some 10, _, _, _, _, _⟩) rfl (fun K hK => ?_) (AllReadyH.cons (o := ⟨some 11, _, _, _, _, _⟩) rfl (fun K hK => ?_) AllReadyH.nil))
    · rw [if_pos (by rfl)]
      refine wp_turn (v := .agg [.int .i64 0, .int .i64 1023].toArray) (by first | exact ld_span (cs := [.int .i64 0, .int .i64 1023]) rfl rfl (range_of_heap (W := W.drew) (cs := [.int .i64 0, .int .i64 1023]) h4) rfl | exact ld_span (cs := [.int .i64 0, .int .i64 1023]) rfl rfl (range_of_heap (cs := [.int .i64 0, .int .i64 1023]) (by rw [setRow_o _ _ _ _ (by omega)]; exact h4)) rfl) ?_
      refine hK.out _ _ trivial (fun hS => ?_)
      clear hK K
      try go_frame
      refine wpAnyH_ready (rs := [1, 2]) (by kernel_rfl) (by simp) (AllReadyH.cons (o := ⟨some 11, _, _, _, _, _⟩) rfl (fun K hK => ?_) (AllReadyH.cons (o := ⟨none, _, _, _, _, _⟩) rfl (fun K hK => ?_) AllReadyH.nil))
      · rw [if_pos (by rfl)]
        refine wp_turn (v := .agg [.int .i64 1024, .int .i64 65535].toArray) (by first | exact ld_span (cs := [.int .i64 1024, .int .i64 65535]) rfl rfl (range_of_heap (W := W.drew) (cs := [.int .i64 1024, .int .i64 65535]) h5) rfl | exact ld_span (cs := [.int .i64 1024, .int .i64 65535]) rfl rfl (range_of_heap (cs := [.int .i64 1024, .int .i64 65535]) (by rw [setRow_o _ _ _ _ (by omega)]; exact h5)) rfl) ?_
        refine hK.out _ _ trivial (fun hS => ?_)
        clear hK K
        try go_frame
        refine wpAnyH_ready (rs := [2]) (by kernel_rfl) (by simp) (AllReadyH.cons (o := ⟨none, _, _, _, _, _⟩) rfl (fun K hK => ?_) AllReadyH.nil)
        rw [if_pos (by rfl)]
        refine wp_store_row 136 _ _ rfl w.heap.size #[.int .i64 0, .int .i64 1023] rfl rfl 136 _ h2 (by kernel_rfl) rfl (by simp [Value.oneCell']) ?_
        refine hK.out _ _ trivial (fun hS => ?_)
        clear hK K
        try go_frame
        refine wpAnyH_ready (rs := [3]) (by kernel_rfl) (by simp) (AllReadyH.cons (o := ⟨none, _, _, _, _, _⟩) rfl (fun K hK => ?_) AllReadyH.nil)
        rw [if_pos (by rfl)]
        refine wp_store_row 136 _ _ rfl (w.heap.size + 1) #[.int .i64 1024, .int .i64 65535] rfl rfl 136 _ h3 (by kernel_rfl) rfl (by simp [Value.oneCell']) ?_
        refine hK.out _ _ trivial (fun hS => ?_)
        clear hK K
        try go_frame
        refine wpAnyH_done (by kernel_rfl) ?_ _
        go_wp2_with fail
        exact bodyPost_ret (res2_span rfl rfl rfl hr2 hr3) rfl ⟨rfl, below_setRow (below_setRow hbW.drew (Nat.le_refl _) _) (by omega) _⟩
      · rw [if_pos (by rfl)]
        refine wp_store_row 136 _ _ rfl w.heap.size #[.int .i64 0, .int .i64 1023] rfl rfl 136 _ h2 (by kernel_rfl) rfl (by simp [Value.oneCell']) ?_
        refine hK.out _ _ trivial (fun hS => ?_)
        clear hK K
        try go_frame
        refine wpAnyH_ready (rs := [1]) (by kernel_rfl) (by simp) (AllReadyH.cons (o := ⟨some 11, _, _, _, _, _⟩) rfl (fun K hK => ?_) AllReadyH.nil)
        rw [if_pos (by rfl)]
        refine wp_turn (v := .agg [.int .i64 1024, .int .i64 65535].toArray) (by first | exact ld_span (cs := [.int .i64 1024, .int .i64 65535]) rfl rfl (range_of_heap (W := W.drew) (cs := [.int .i64 1024, .int .i64 65535]) h5) rfl | exact ld_span (cs := [.int .i64 1024, .int .i64 65535]) rfl rfl (range_of_heap (cs := [.int .i64 1024, .int .i64 65535]) (by rw [setRow_o _ _ _ _ (by omega)]; exact h5)) rfl) ?_
        refine hK.out _ _ trivial (fun hS => ?_)
        clear hK K
        try go_frame
        refine wpAnyH_ready (rs := [3]) (by kernel_rfl) (by simp) (AllReadyH.cons (o := ⟨none, _, _, _, _, _⟩) rfl (fun K hK => ?_) AllReadyH.nil)
        rw [if_pos (by rfl)]
        refine wp_store_row 136 _ _ rfl (w.heap.size + 1) #[.int .i64 1024, .int .i64 65535] rfl rfl 136 _ h3 (by kernel_rfl) rfl (by simp [Value.oneCell']) ?_
        refine hK.out _ _ trivial (fun hS => ?_)
        clear hK K
        try go_frame
        refine wpAnyH_done (by kernel_rfl) ?_ _
        go_wp2_with fail
        exact bodyPost_ret (res2_span rfl rfl rfl hr2 hr3) rfl ⟨rfl, below_setRow (below_setRow hbW.drew (Nat.le_refl _) _) (by omega) _⟩
    · rw [if_pos (by rfl)]
      refine wp_turn (v := .agg [.int .i64 1024, .int .i64 65535].toArray) (by first | exact ld_span (cs := [.int .i64 1024, .int .i64 65535]) rfl rfl (range_of_heap (W := W.drew) (cs := [.int .i64 1024, .int .i64 65535]) h5) rfl | exact ld_span (cs := [.int .i64 1024, .int .i64 65535]) rfl rfl (range_of_heap (cs := [.int .i64 1024, .int .i64 65535]) (by rw [setRow_o _ _ _ _ (by omega)]; exact h5)) rfl) ?_
      refine hK.out _ _ trivial (fun hS => ?_)
      clear hK K
      try go_frame
      refine wpAnyH_ready (rs := [0]) (by kernel_rfl) (by simp) (AllReadyH.cons (o := ⟨some 10, _, _, _, _, _⟩) rfl (fun K hK => ?_) AllReadyH.nil)
      rw [if_pos (by rfl)]
      refine wp_turn (v := .agg [.int .i64 0, .int .i64 1023].toArray) (by first | exact ld_span (cs := [.int .i64 0, .int .i64 1023]) rfl rfl (range_of_heap (W := W.drew) (cs := [.int .i64 0, .int .i64 1023]) h4) rfl | exact ld_span (cs := [.int .i64 0, .int .i64 1023]) rfl rfl (range_of_heap (cs := [.int .i64 0, .int .i64 1023]) (by rw [setRow_o _ _ _ _ (by omega)]; exact h4)) rfl) ?_
      refine hK.out _ _ trivial (fun hS => ?_)
      clear hK K
      try go_frame
      refine wpAnyH_ready (rs := [2]) (by kernel_rfl) (by simp) (AllReadyH.cons (o := ⟨none, _, _, _, _, _⟩) rfl (fun K hK => ?_) AllReadyH.nil)
      rw [if_pos (by rfl)]
      refine wp_store_row 136 _ _ rfl w.heap.size #[.int .i64 0, .int .i64 1023] rfl rfl 136 _ h2 (by kernel_rfl) rfl (by simp [Value.oneCell']) ?_
      refine hK.out _ _ trivial (fun hS => ?_)
      clear hK K
      try go_frame
      refine wpAnyH_ready (rs := [3]) (by kernel_rfl) (by simp) (AllReadyH.cons (o := ⟨none, _, _, _, _, _⟩) rfl (fun K hK => ?_) AllReadyH.nil)
      rw [if_pos (by rfl)]
      refine wp_store_row 136 _ _ rfl (w.heap.size + 1) #[.int .i64 1024, .int .i64 65535] rfl rfl 136 _ h3 (by kernel_rfl) rfl (by simp [Value.oneCell']) ?_
      refine hK.out _ _ trivial (fun hS => ?_)
      clear hK K
      try go_frame
      refine wpAnyH_done (by kernel_rfl) ?_ _
      go_wp2_with fail
      exact bodyPost_ret (res2_span rfl rfl rfl hr2 hr3) rfl ⟨rfl, below_setRow (below_setRow hbW.drew (Nat.le_refl _) _) (by omega) _⟩
  · have HR : Hid (nearL p = 1024 ∧ nearH p = 65535 ∧ farL p = 0 ∧ farH p = 1023) := Lib.hid (by simp [nearL, nearH, farL, farH, hp])
    rw [HR.out.1, HR.out.2.1, HR.out.2.2.1, HR.out.2.2.2]
    go_enter Try.func163, Try.ntmps163
    go_upto_region 4 with fail
    try rw [hW']
    clear hW'
    have h3 : (W.drew.setRow w.heap.size #[.int .i64 1024, .int .i64 65535]).heap[w.heap.size + 1]? = some (.cells #[.int .i64 0, .int .i64 0] 136 (0, 0)) := by rw [setRow_o _ _ _ _ (by omega)]; exact h3
    have hr2 : ((W.drew.setRow w.heap.size #[.int .i64 1024, .int .i64 65535]).setRow (w.heap.size + 1) #[.int .i64 0, .int .i64 1023]).heap[w.heap.size]? = some (.cells #[.int .i64 1024, .int .i64 65535] 136 (0, 0)) ∧ (#[.int .i64 1024, .int .i64 65535] : Array Value).size = 2 := ⟨by rw [setRow_o _ _ _ _ (by omega)]; exact setRow_heap _ _ _ _ _ _ h2, rfl⟩
    have hr3 : ((W.drew.setRow w.heap.size #[.int .i64 1024, .int .i64 65535]).setRow (w.heap.size + 1) #[.int .i64 0, .int .i64 1023]).heap[w.heap.size + 1]? = some (.cells #[.int .i64 0, .int .i64 1023] 136 (0, 0)) ∧ (#[.int .i64 0, .int .i64 1023] : Array Value).size = 2 := ⟨setRow_heap _ _ _ _ _ _ h3, rfl⟩
    refine wp_region_held_drew (S := fun _ => True) (by kernel_rfl) trivial (fun hS => ?_)
    refine wpAnyH_ready (rs := [0, 1]) (by kernel_rfl) (by simp) (AllReadyH.cons (o := ⟨some 12, _, _, _, _, _⟩) rfl (fun K hK => ?_) (AllReadyH.cons (o := ⟨some 13, _, _, _, _, _⟩) rfl (fun K hK => ?_) AllReadyH.nil))
    · rw [if_pos (by rfl)]
      refine wp_turn (v := .agg [.int .i64 1024, .int .i64 65535].toArray) (by first | exact ld_span (cs := [.int .i64 1024, .int .i64 65535]) rfl rfl (range_of_heap (W := W.drew) (cs := [.int .i64 1024, .int .i64 65535]) h5) rfl | exact ld_span (cs := [.int .i64 1024, .int .i64 65535]) rfl rfl (range_of_heap (cs := [.int .i64 1024, .int .i64 65535]) (by rw [setRow_o _ _ _ _ (by omega)]; exact h5)) rfl) ?_
      refine hK.out _ _ trivial (fun hS => ?_)
      clear hK K
      try go_frame
      refine wpAnyH_ready (rs := [1, 2]) (by kernel_rfl) (by simp) (AllReadyH.cons (o := ⟨some 13, _, _, _, _, _⟩) rfl (fun K hK => ?_) (AllReadyH.cons (o := ⟨none, _, _, _, _, _⟩) rfl (fun K hK => ?_) AllReadyH.nil))
      · rw [if_pos (by rfl)]
        refine wp_turn (v := .agg [.int .i64 0, .int .i64 1023].toArray) (by first | exact ld_span (cs := [.int .i64 0, .int .i64 1023]) rfl rfl (range_of_heap (W := W.drew) (cs := [.int .i64 0, .int .i64 1023]) h4) rfl | exact ld_span (cs := [.int .i64 0, .int .i64 1023]) rfl rfl (range_of_heap (cs := [.int .i64 0, .int .i64 1023]) (by rw [setRow_o _ _ _ _ (by omega)]; exact h4)) rfl) ?_
        refine hK.out _ _ trivial (fun hS => ?_)
        clear hK K
        try go_frame
        refine wpAnyH_ready (rs := [2]) (by kernel_rfl) (by simp) (AllReadyH.cons (o := ⟨none, _, _, _, _, _⟩) rfl (fun K hK => ?_) AllReadyH.nil)
        rw [if_pos (by rfl)]
        refine wp_store_row 136 _ _ rfl w.heap.size #[.int .i64 1024, .int .i64 65535] rfl rfl 136 _ h2 (by kernel_rfl) rfl (by simp [Value.oneCell']) ?_
        refine hK.out _ _ trivial (fun hS => ?_)
        clear hK K
        try go_frame
        refine wpAnyH_ready (rs := [3]) (by kernel_rfl) (by simp) (AllReadyH.cons (o := ⟨none, _, _, _, _, _⟩) rfl (fun K hK => ?_) AllReadyH.nil)
        rw [if_pos (by rfl)]
        refine wp_store_row 136 _ _ rfl (w.heap.size + 1) #[.int .i64 0, .int .i64 1023] rfl rfl 136 _ h3 (by kernel_rfl) rfl (by simp [Value.oneCell']) ?_
        refine hK.out _ _ trivial (fun hS => ?_)
        clear hK K
        try go_frame
        refine wpAnyH_done (by kernel_rfl) ?_ _
        go_wp2_with fail
        exact bodyPost_ret (res2_span rfl rfl rfl hr2 hr3) rfl ⟨rfl, below_setRow (below_setRow hbW.drew (Nat.le_refl _) _) (by omega) _⟩
      · rw [if_pos (by rfl)]
        refine wp_store_row 136 _ _ rfl w.heap.size #[.int .i64 1024, .int .i64 65535] rfl rfl 136 _ h2 (by kernel_rfl) rfl (by simp [Value.oneCell']) ?_
        refine hK.out _ _ trivial (fun hS => ?_)
        clear hK K
        try go_frame
        refine wpAnyH_ready (rs := [1]) (by kernel_rfl) (by simp) (AllReadyH.cons (o := ⟨some 13, _, _, _, _, _⟩) rfl (fun K hK => ?_) AllReadyH.nil)
        rw [if_pos (by rfl)]
        refine wp_turn (v := .agg [.int .i64 0, .int .i64 1023].toArray) (by first | exact ld_span (cs := [.int .i64 0, .int .i64 1023]) rfl rfl (range_of_heap (W := W.drew) (cs := [.int .i64 0, .int .i64 1023]) h4) rfl | exact ld_span (cs := [.int .i64 0, .int .i64 1023]) rfl rfl (range_of_heap (cs := [.int .i64 0, .int .i64 1023]) (by rw [setRow_o _ _ _ _ (by omega)]; exact h4)) rfl) ?_
        refine hK.out _ _ trivial (fun hS => ?_)
        clear hK K
        try go_frame
        refine wpAnyH_ready (rs := [3]) (by kernel_rfl) (by simp) (AllReadyH.cons (o := ⟨none, _, _, _, _, _⟩) rfl (fun K hK => ?_) AllReadyH.nil)
        rw [if_pos (by rfl)]
        refine wp_store_row 136 _ _ rfl (w.heap.size + 1) #[.int .i64 0, .int .i64 1023] rfl rfl 136 _ h3 (by kernel_rfl) rfl (by simp [Value.oneCell']) ?_
        refine hK.out _ _ trivial (fun hS => ?_)
        clear hK K
        try go_frame
        refine wpAnyH_done (by kernel_rfl) ?_ _
        go_wp2_with fail
        exact bodyPost_ret (res2_span rfl rfl rfl hr2 hr3) rfl ⟨rfl, below_setRow (below_setRow hbW.drew (Nat.le_refl _) _) (by omega) _⟩
    · rw [if_pos (by rfl)]
      refine wp_turn (v := .agg [.int .i64 0, .int .i64 1023].toArray) (by first | exact ld_span (cs := [.int .i64 0, .int .i64 1023]) rfl rfl (range_of_heap (W := W.drew) (cs := [.int .i64 0, .int .i64 1023]) h4) rfl | exact ld_span (cs := [.int .i64 0, .int .i64 1023]) rfl rfl (range_of_heap (cs := [.int .i64 0, .int .i64 1023]) (by rw [setRow_o _ _ _ _ (by omega)]; exact h4)) rfl) ?_
      refine hK.out _ _ trivial (fun hS => ?_)
      clear hK K
      try go_frame
      refine wpAnyH_ready (rs := [0]) (by kernel_rfl) (by simp) (AllReadyH.cons (o := ⟨some 12, _, _, _, _, _⟩) rfl (fun K hK => ?_) AllReadyH.nil)
      rw [if_pos (by rfl)]
      refine wp_turn (v := .agg [.int .i64 1024, .int .i64 65535].toArray) (by first | exact ld_span (cs := [.int .i64 1024, .int .i64 65535]) rfl rfl (range_of_heap (W := W.drew) (cs := [.int .i64 1024, .int .i64 65535]) h5) rfl | exact ld_span (cs := [.int .i64 1024, .int .i64 65535]) rfl rfl (range_of_heap (cs := [.int .i64 1024, .int .i64 65535]) (by rw [setRow_o _ _ _ _ (by omega)]; exact h5)) rfl) ?_
      refine hK.out _ _ trivial (fun hS => ?_)
      clear hK K
      try go_frame
      refine wpAnyH_ready (rs := [2]) (by kernel_rfl) (by simp) (AllReadyH.cons (o := ⟨none, _, _, _, _, _⟩) rfl (fun K hK => ?_) AllReadyH.nil)
      rw [if_pos (by rfl)]
      refine wp_store_row 136 _ _ rfl w.heap.size #[.int .i64 1024, .int .i64 65535] rfl rfl 136 _ h2 (by kernel_rfl) rfl (by simp [Value.oneCell']) ?_
      refine hK.out _ _ trivial (fun hS => ?_)
      clear hK K
      try go_frame
      refine wpAnyH_ready (rs := [3]) (by kernel_rfl) (by simp) (AllReadyH.cons (o := ⟨none, _, _, _, _, _⟩) rfl (fun K hK => ?_) AllReadyH.nil)
      rw [if_pos (by rfl)]
      refine wp_store_row 136 _ _ rfl (w.heap.size + 1) #[.int .i64 0, .int .i64 1023] rfl rfl 136 _ h3 (by kernel_rfl) rfl (by simp [Value.oneCell']) ?_
      refine hK.out _ _ trivial (fun hS => ?_)
      clear hK K
      try go_frame
      refine wpAnyH_done (by kernel_rfl) ?_ _
      go_wp2_with fail
      exact bodyPost_ret (res2_span rfl rfl rfl hr2 hr3) rfl ⟨rfl, below_setRow (below_setRow hbW.drew (Nat.le_refl _) _) (by omega) _⟩
end Go.Proofs.Ytogidfagkgccmaa
