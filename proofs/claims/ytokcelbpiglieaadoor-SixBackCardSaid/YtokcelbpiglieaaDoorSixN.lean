/-
  Texts of addresses of IPv6, in plain lists of bytes: no program. Conditions are each theorem's own.
-/
import Derived.Test.YtokcelbpiglieaaDoorSixM
import Derived.Lib.Hide
namespace Go.Proofs.YtokcelbpiglieaaDoor
open Go.RowKit

/-- A digit to the base 16. -/
def hex1 (d : Nat) : UInt8 := UInt8.ofNat (if d < 10 then 48 + d else 87 + d)
/-- A number below 65536 in digits to the base 16. -/
def hexs (n : Nat) : List UInt8 :=
  if n < 16 then [hex1 n] else if n < 256 then [hex1 (n / 16), hex1 (n % 16)] else if n < 4096 then [hex1 (n / 256), hex1 (n / 16 % 16), hex1 (n % 16)]
  else [hex1 (n / 4096), hex1 (n / 256 % 16), hex1 (n / 16 % 16), hex1 (n % 16)]
theorem hexs_one {n : Nat} (h : n < 16) : hexs n = [hex1 n] := by rw [hexs, if_pos h]
theorem hexs_up {n : Nat} (h : 16 ≤ n) (h2 : n < 65536) : hexs (n / 16) ++ [hex1 (n % 16)] = hexs n := by
  by_cases h3 : n < 256
  · rw [hexs_one (by omega), hexs, if_neg (by omega), if_pos h3]; rfl
  · by_cases h4 : n < 4096
    · rw [hexs, if_neg (by omega), if_pos (by omega), hexs, if_neg (by omega), if_neg h3, if_pos h4]
      rw [show n / 16 / 16 = n / 256 from by omega]; rfl
    · rw [hexs, if_neg (by omega), if_neg (by omega), if_pos (by omega), hexs, if_neg (by omega), if_neg h3, if_neg h4]
      rw [show n / 16 / 256 = n / 4096 from by omega, show n / 16 / 16 = n / 256 from by omega]; rfl
theorem hexs_len {n : Nat} : 1 ≤ (hexs n).length ∧ (hexs n).length ≤ 4 := by
  unfold hexs; split
  · simp
  · split
    · simp
    · split <;> simp

/-- Word i of an address. -/
def wrd6 (a : List UInt8) (i : Nat) : Nat := (a[2 * i]?.getD 0).toNat * 256 + (a[2 * i + 1]?.getD 0).toNat
theorem wrd6_lt (a : List UInt8) (i : Nat) : wrd6 a i < 65536 := by
  unfold wrd6
  have h1 := (a[2 * i]?.getD 0).toNat_lt
  have h2 := (a[2 * i + 1]?.getD 0).toNat_lt
  omega
theorem wrd6_byt (a : List UInt8) (i : Nat) : ((wrd6 a i : Nat) : Int) = byt a (2 * i) * 256 + byt a (2 * i + 1) := by
  simp [wrd6, byt]
/-- The colon ahead of every word but the first. -/
def sep (k : Nat) : List UInt8 := if k = 0 then [] else [58]
/-- The text of the first k words. -/
def tx6 (a : List UInt8) : Nat → List UInt8
  | 0 => []
  | k + 1 => tx6 a k ++ sep k ++ hexs (wrd6 a k)
theorem sep_len (k : Nat) : (sep k).length ≤ 1 := by unfold sep; split <;> simp
theorem tx6_len (a : List UInt8) : ∀ k, (tx6 a k).length ≤ 5 * k
  | 0 => by simp [tx6]
  | k + 1 => by
    have h1 := tx6_len a k
    have h2 := @hexs_len (wrd6 a k)
    have h3 := sep_len k
    simp only [tx6, List.length_append]; omega
theorem tx6_len8 (a : List UInt8) : (tx6 a 8).length ≤ 39 := by
  have h : ∀ k, 1 ≤ k → (tx6 a k).length + 1 ≤ 5 * k := by
    intro k
    induction k with
    | zero => omega
    | succ k ih =>
      intro _
      have h2 := @hexs_len (wrd6 a k)
      have h3 := sep_len k
      simp only [tx6, List.length_append]
      by_cases hk : k = 0
      · subst hk; simp [tx6, sep]; omega
      · have := ih (by omega); omega
  have := h 8 (by omega); omega

/-- Word k of an address is set. -/
def setw (a : List UInt8) (k n : Nat) : List UInt8 := (a.set (2 * k) (UInt8.ofNat (n / 256))).set (2 * k + 1) (UInt8.ofNat (n % 256))
theorem setw_length (a : List UInt8) (k n : Nat) : (setw a k n).length = a.length := by simp [setw]
theorem setw_setw (a : List UInt8) (k n m : Nat) : setw (setw a k n) k m = setw a k m := by
  refine List.ext_getElem? fun j => ?_
  simp only [setw, List.getElem?_set, List.length_set]
  by_cases h1 : 2 * k + 1 = j
  · simp [h1]
  · by_cases h2 : 2 * k = j
    · simp [h2]
    · simp [h1, h2]
theorem cel_setw (a : List UInt8) (k n : Nat) : cel (setw a k n) = ((cel a).setIfInBounds (2 * k) (.int .u8 ((n / 256 % 256 : Nat) : Int))).setIfInBounds (2 * k + 1) (.int .u8 ((n % 256 : Nat) : Int)) := by
  simp [cel, row, setw, List.map_set, UInt8.toNat_ofNat']

theorem cel_setw_int (a : List UInt8) (k : Nat) {n : Nat} (h : n < 65536) : cel (setw a k n) = ((cel a).setIfInBounds (2 * k) (.int .u8 ((n : Int) / 256))).setIfInBounds (2 * k + 1) (.int .u8 ((n : Int) % 256)) := by
  rw [cel_setw, show ((n / 256 % 256 : Nat) : Int) = (n : Int) / 256 from by omega, show ((n % 256 : Nat) : Int) = (n : Int) % 256 from by omega]
/-- A digit's value, or none. -/
def val1 (c : UInt8) : Option Nat := if 48 ≤ c.toNat ∧ c.toNat ≤ 57 then some (c.toNat - 48) else if 97 ≤ c.toNat ∧ c.toNat ≤ 102 then some (c.toNat - 87) else none
theorem val1_hex {d : Nat} (h : d < 16) : val1 (hex1 d) = some d ∧ hex1 d ≠ 58 := by
  have : d = 0 ∨ d = 1 ∨ d = 2 ∨ d = 3 ∨ d = 4 ∨ d = 5 ∨ d = 6 ∨ d = 7 ∨ d = 8 ∨ d = 9 ∨ d = 10 ∨ d = 11 ∨ d = 12 ∨ d = 13 ∨ d = 14 ∨ d = 15 := by omega
  rcases this with rfl | rfl | rfl | rfl | rfl | rfl | rfl | rfl | rfl | rfl | rfl | rfl | rfl | rfl | rfl | rfl <;> decide
/-- What reading has: the word's place, its number, the address so far. -/
structure St6 where
  k : Nat
  n : Nat
  a : List UInt8
/-- One step of reading. -/
def pst6 (s : Option St6) (c : UInt8) : Option St6 :=
  match s with
  | none => none
  | some s =>
    if c = 58 then (if s.k + 1 ≤ 7 then some ⟨s.k + 1, 0, setw s.a (s.k + 1) 0⟩ else none)
    else match val1 c with
      | none => none
      | some d => if s.k ≤ 7 ∧ s.n * 16 + d ≤ 65535 then some ⟨s.k, s.n * 16 + d, setw s.a s.k (s.n * 16 + d)⟩ else none
def pfold6 (s : Option St6) (l : List UInt8) : Option St6 := l.foldl pst6 s
theorem pfold6_append (s : Option St6) (a b : List UInt8) : pfold6 s (a ++ b) = pfold6 (pfold6 s a) b := by simp [pfold6]
theorem pfold6_none (l : List UInt8) : pfold6 none l = none := by
  induction l with
  | nil => rfl
  | cons c l ih => simpa [pfold6, pst6] using ih
theorem pfold6_take {l : List UInt8} {k : Nat} {s : Option St6} (h : k < l.length) : pfold6 s (l.take (k + 1)) = pst6 (pfold6 s (l.take k)) l[k] := by
  rw [List.take_succ_eq_append_getElem h, pfold6_append]; rfl
theorem pst6_hex {k n d : Nat} {a : List UInt8} (hd : d < 16) (hk : k ≤ 7) (h : n * 16 + d ≤ 65535) : pst6 (some ⟨k, n, a⟩) (hex1 d) = some ⟨k, n * 16 + d, setw a k (n * 16 + d)⟩ := by
  obtain ⟨h1, h2⟩ := val1_hex hd
  simp only [pst6, h2, if_false, h1, if_pos (And.intro hk h)]
theorem pfold6_hexs {k n : Nat} {a : List UInt8} (hk : k ≤ 7) (h : n < 65536) : pfold6 (some ⟨k, 0, a⟩) (hexs n) = some ⟨k, n, setw a k n⟩ := by
  unfold hexs
  split
  · simp only [pfold6, List.foldl_cons, List.foldl_nil]
    rw [pst6_hex (by omega) hk (by omega)]; congr 2 <;> first | omega | (congr 1; omega)
  · split
    · simp only [pfold6, List.foldl_cons, List.foldl_nil]
      rw [pst6_hex (by omega) hk (by omega), pst6_hex (by omega) hk (by omega), setw_setw]
      have e : (0 * 16 + n / 16) * 16 + n % 16 = n := by omega
      rw [e]
    · split
      · simp only [pfold6, List.foldl_cons, List.foldl_nil]
        rw [pst6_hex (by omega) hk (by omega), pst6_hex (by omega) hk (by omega), pst6_hex (by omega) hk (by omega), setw_setw, setw_setw]
        have e : ((0 * 16 + n / 256) * 16 + n / 16 % 16) * 16 + n % 16 = n := by omega
        rw [e]
      · simp only [pfold6, List.foldl_cons, List.foldl_nil]
        rw [pst6_hex (by omega) hk (by omega), pst6_hex (by omega) hk (by omega), pst6_hex (by omega) hk (by omega), pst6_hex (by omega) hk (by omega), setw_setw, setw_setw, setw_setw]
        have e : (((0 * 16 + n / 4096) * 16 + n / 256 % 16) * 16 + n / 16 % 16) * 16 + n % 16 = n := by omega
        rw [e]
/-- The address of the first k words. -/
def ad6 (a : List UInt8) : Nat → List UInt8
  | 0 => nul
  | k + 1 => setw (ad6 a k) k (wrd6 a k)
theorem pfold6_tx6 (a : List UInt8) : ∀ k, k ≤ 7 → pfold6 (some ⟨0, 0, nul⟩) (tx6 a (k + 1)) = some ⟨k, wrd6 a k, ad6 a (k + 1)⟩
  | 0, _ => by
    have h := wrd6_lt a 0
    simp only [tx6, sep, if_true, List.nil_append, ad6]
    exact pfold6_hexs (by omega) h
  | k + 1, hk => by
    have ih := pfold6_tx6 a k (by omega)
    have h := wrd6_lt a (k + 1)
    have hc : pfold6 (some ⟨k, wrd6 a k, ad6 a (k + 1)⟩) [58] = some ⟨k + 1, 0, setw (ad6 a (k + 1)) (k + 1) 0⟩ := by
      simp only [pfold6, List.foldl_cons, List.foldl_nil, pst6, if_true]
      rw [if_pos (by omega)]
    rw [show tx6 a (k + 1 + 1) = tx6 a (k + 1) ++ [58] ++ hexs (wrd6 a (k + 1)) from by rw [tx6, sep, if_neg (Nat.succ_ne_zero k)]]
    rw [pfold6_append, pfold6_append, ih, hc, pfold6_hexs hk h, setw_setw]; rfl
theorem ad6_get (a : List UInt8) (ha : a.length = 16) : ∀ k, k ≤ 8 → (ad6 a k).length = 16 ∧ ∀ j, j < 2 * k → (ad6 a k)[j]? = a[j]?
  | 0, _ => ⟨rfl, fun j hj => by omega⟩
  | k + 1, hk => by
    obtain ⟨h1, h2⟩ := ad6_get a ha k (by omega)
    refine ⟨by simp only [ad6, setw_length, h1], fun j hj => ?_⟩
    have hx : 2 * k < a.length := by omega
    have hy : 2 * k + 1 < a.length := by omega
    have hw : wrd6 a k = a[2 * k].toNat * 256 + a[2 * k + 1].toNat := by simp [wrd6, hx, hy]
    have b1 := a[2 * k].toNat_lt
    have b2 := a[2 * k + 1].toNat_lt
    simp only [ad6, setw, List.getElem?_set, List.length_set, h1]
    by_cases e1 : 2 * k + 1 = j
    · subst e1
      rw [if_pos rfl, if_pos (by omega), List.getElem?_eq_getElem hy]
      congr 1
      refine UInt8.toNat_inj.1 ?_
      rw [UInt8.toNat_ofNat', hw]; omega
    · rw [if_neg e1]
      by_cases e2 : 2 * k = j
      · subst e2
        rw [if_pos rfl, if_pos (by omega), List.getElem?_eq_getElem hx]
        congr 1
        refine UInt8.toNat_inj.1 ?_
        rw [UInt8.toNat_ofNat', hw]; omega
      · rw [if_neg e2]; exact h2 j (by omega)
theorem ad6_all (a : List UInt8) (ha : a.length = 16) : ad6 a 8 = a := by
  obtain ⟨h1, h2⟩ := ad6_get a ha 8 (by omega)
  refine List.ext_getElem? fun j => ?_
  by_cases hj : j < 16
  · exact h2 j (by omega)
  · rw [List.getElem?_eq_none (by omega), List.getElem?_eq_none (by omega)]
/-- A text is read again. -/
theorem pfold6_text (a : List UInt8) (ha : a.length = 16) : ∃ n, pfold6 (some ⟨0, 0, nul⟩) (tx6 a 8) = some ⟨7, n, a⟩ := by
  have h := pfold6_tx6 a 7 (by omega)
  rw [ad6_all a ha] at h
  exact ⟨_, h⟩
theorem tx6_inj {a b : List UInt8} (ha : a.length = 16) (hb : b.length = 16) (h : tx6 a 8 = tx6 b 8) : a = b := by
  obtain ⟨n, h1⟩ := pfold6_text a ha
  obtain ⟨m, h2⟩ := pfold6_text b hb
  rw [h, h2] at h1
  simp at h1; exact h1.2.symm

/-- The address that a text is, and the error's number. -/
noncomputable def parV6 (s : List UInt8) : List UInt8 := by
  classical exact if h : ∃ a : List UInt8, a.length = 16 ∧ tx6 a 8 = s then Classical.choose h else nul
noncomputable def parE6 (s : List UInt8) : Int := by
  classical exact if ∃ a : List UInt8, a.length = 16 ∧ tx6 a 8 = s then 0 else 4
theorem par6_yes {s : List UInt8} {a : List UInt8} (ha : a.length = 16) (h : tx6 a 8 = s) : parV6 s = a ∧ parE6 s = 0 := by
  have hex : ∃ a : List UInt8, a.length = 16 ∧ tx6 a 8 = s := ⟨a, ha, h⟩
  unfold parV6 parE6
  rw [dif_pos hex, if_pos hex]
  obtain ⟨h1, h2⟩ := Classical.choose_spec hex
  exact ⟨tx6_inj h1 ha (h2.trans h.symm), rfl⟩
theorem par6_no {s : List UInt8} (h : ¬ ∃ a : List UInt8, a.length = 16 ∧ tx6 a 8 = s) : parV6 s = nul ∧ parE6 s = 4 := by
  unfold parV6 parE6
  rw [dif_neg h, if_neg h]; exact ⟨rfl, rfl⟩
theorem par6_none {s : List UInt8} {k : Nat} (h : pfold6 (some ⟨0, 0, nul⟩) (s.take k) = none) : parV6 s = nul ∧ parE6 s = 4 := by
  refine par6_no fun ⟨a, ha, e⟩ => ?_
  obtain ⟨n, h1⟩ := pfold6_text a ha
  rw [e, ← List.take_append_drop k s, pfold6_append, h, pfold6_none] at h1
  cases h1
theorem par6_long {s : List UInt8} (h : 39 < s.length) : parV6 s = nul ∧ parE6 s = 4 :=
  par6_no fun ⟨a, _, e⟩ => by have := tx6_len8 a; rw [e] at this; omega
theorem par6_end {s : List UInt8} {k n : Nat} {a : List UInt8} (ha : a.length = 16) (h : pfold6 (some ⟨0, 0, nul⟩) s = some ⟨k, n, a⟩) :
    (tx6 a 8 = s → parV6 s = a ∧ parE6 s = 0) ∧ (tx6 a 8 ≠ s → parV6 s = nul ∧ parE6 s = 4) := by
  refine ⟨fun e => par6_yes ha e, fun hne => par6_no fun ⟨b, hb, e⟩ => hne ?_⟩
  obtain ⟨m, h1⟩ := pfold6_text b hb
  rw [e, h] at h1
  simp at h1
  rw [h1.2.2]; exact e
theorem par6_cases (s : List UInt8) : (∃ a : List UInt8, a.length = 16 ∧ tx6 a 8 = s ∧ parV6 s = a ∧ parE6 s = 0) ∨ (parV6 s = nul ∧ parE6 s = 4) := by
  by_cases h : ∃ a : List UInt8, a.length = 16 ∧ tx6 a 8 = s
  · obtain ⟨a, ha, e⟩ := h
    exact .inl ⟨a, ha, e, par6_yes ha e⟩
  · exact .inr (par6_no h)
theorem parV6_len (s : List UInt8) : (parV6 s).length = 16 := by
  rcases par6_cases s with ⟨a, ha, _, h, _⟩ | ⟨h, _⟩
  · rw [h]; exact ha
  · rw [h]; rfl
end Go.Proofs.YtokcelbpiglieaaDoor
