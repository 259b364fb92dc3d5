/-
  Contracts and lemmas on which the proofs of this seat stand (several texts in one). Conditions are each theorem's own.
-/
import Derived.Test.YtogidfagkgccmaaCa1
import Derived.Lib.Hide
import Derived.Test.YtogidfagkgccmaaCa2
import Derived.Deep.QuietTactic
import Derived.BigQuiet
import Derived.Lib.Join
import Derived.Lib.Strings
import Derived.Test.YtogidfagkgccmaaCa4

/-
  Texts of addresses of IPv6, in plain lists of bytes: no program. Conditions are each theorem's own.
-/
namespace Go.Proofs.Ytogidfagkgccmaa
open Go.RowKit

/-- A digit to the base 16. -/
def hex1 (d : Nat) : UInt8 := UInt8.ofNat (if d < 10 then 48 + d else 87 + d)
/-- A number below 65536 in digits to the base 16. -/
def hexs (n : Nat) : List UInt8 :=
  if n < 16 then [hex1 n] else if n < 256 then [hex1 (n / 16), hex1 (n % 16)] else if n < 4096 then [hex1 (n / 256), hex1 (n / 16 % 16), hex1 (n % 16)]
  else [hex1 (n / 4096), hex1 (n / 256 % 16), hex1 (n / 16 % 16), hex1 (n % 16)]
theorem hexs_one {n : Nat} (h : n < 16) : hexs n = [hex1 n] := by rw [hexs, if_pos h]
theorem hexs_up {n : Nat} (h : 16 ≤ n) (h2 : n < 65536) : hexs (n / 16) ++ [hex1 (n % 16)] = hexs n := by
  by_cases h3 : n < 256
  · rw [hexs_one (by omega), hexs, if_neg (by omega), if_pos h3]; rfl
  · by_cases h4 : n < 4096
    · rw [hexs, if_neg (by omega), if_pos (by omega), hexs, if_neg (by omega), if_neg h3, if_pos h4]
      rw [show n / 16 / 16 = n / 256 from by omega]; rfl
    · rw [hexs, if_neg (by omega), if_neg (by omega), if_pos (by omega), hexs, if_neg (by omega), if_neg h3, if_neg h4]
      rw [show n / 16 / 256 = n / 4096 from by omega, show n / 16 / 16 = n / 256 from by omega]; rfl
theorem hexs_len {n : Nat} : 1 ≤ (hexs n).length ∧ (hexs n).length ≤ 4 := by
  unfold hexs; split
  · simp
  · split
    · simp
    · split <;> simp

/-- Word i of an address. -/
def wrd6 (a : List UInt8) (i : Nat) : Nat := (a[2 * i]?.getD 0).toNat * 256 + (a[2 * i + 1]?.getD 0).toNat
theorem wrd6_lt (a : List UInt8) (i : Nat) : wrd6 a i < 65536 := by
  unfold wrd6
  have h1 := (a[2 * i]?.getD 0).toNat_lt
  have h2 := (a[2 * i + 1]?.getD 0).toNat_lt
  omega
theorem wrd6_byt (a : List UInt8) (i : Nat) : ((wrd6 a i : Nat) : Int) = byt a (2 * i) * 256 + byt a (2 * i + 1) := by
  simp [wrd6, byt]
/-- The colon ahead of every word but the first. -/
def sep (k : Nat) : List UInt8 := if k = 0 then [] else [58]
/-- The text of the first k words. -/
def tx6 (a : List UInt8) : Nat → List UInt8
  | 0 => []
  | k + 1 => tx6 a k ++ sep k ++ hexs (wrd6 a k)
theorem sep_len (k : Nat) : (sep k).length ≤ 1 := by unfold sep; split <;> simp
theorem tx6_len (a : List UInt8) : ∀ k, (tx6 a k).length ≤ 5 * k
  | 0 => by simp [tx6]
  | k + 1 => by
    have h1 := tx6_len a k
    have h2 := @hexs_len (wrd6 a k)
    have h3 := sep_len k
    simp only [tx6, List.length_append]; omega
theorem tx6_len8 (a : List UInt8) : (tx6 a 8).length ≤ 39 := by
  have h : ∀ k, 1 ≤ k → (tx6 a k).length + 1 ≤ 5 * k := by
    intro k
    induction k with
    | zero => omega
    | succ k ih =>
      intro _
      have h2 := @hexs_len (wrd6 a k)
      have h3 := sep_len k
      simp only [tx6, List.length_append]
      by_cases hk : k = 0
      · subst hk; simp [tx6, sep]; omega
      · have := ih (by omega); omega
  have := h 8 (by omega); omega

/-- Word k of an address is set. -/
def setw (a : List UInt8) (k n : Nat) : List UInt8 := (a.set (2 * k) (UInt8.ofNat (n / 256))).set (2 * k + 1) (UInt8.ofNat (n % 256))
theorem setw_length (a : List UInt8) (k n : Nat) : (setw a k n).length = a.length := by simp [setw]
theorem setw_setw (a : List UInt8) (k n m : Nat) : setw (setw a k n) k m = setw a k m := by
  refine List.ext_getElem? fun j => ?_
  simp only [setw, List.getElem?_set, List.length_set]
  by_cases h1 : 2 * k + 1 = j
  · simp [h1]
  · by_cases h2 : 2 * k = j
    · simp [h2]
    · simp [h1, h2]
theorem cel_setw (a : List UInt8) (k n : Nat) : cel (setw a k n) = ((cel a).setIfInBounds (2 * k) (.int .u8 ((n / 256 % 256 : Nat) : Int))).setIfInBounds (2 * k + 1) (.int .u8 ((n % 256 : Nat) : Int)) := by
  simp [cel, row, setw, List.map_set, UInt8.toNat_ofNat']

theorem cel_setw_int (a : List UInt8) (k : Nat) {n : Nat} (h : n < 65536) : cel (setw a k n) = ((cel a).setIfInBounds (2 * k) (.int .u8 ((n : Int) / 256))).setIfInBounds (2 * k + 1) (.int .u8 ((n : Int) % 256)) := by
  rw [cel_setw, show ((n / 256 % 256 : Nat) : Int) = (n : Int) / 256 from by omega, show ((n % 256 : Nat) : Int) = (n : Int) % 256 from by omega]
/-- A digit's value, or none. -/
def val1 (c : UInt8) : Option Nat := if 48 ≤ c.toNat ∧ c.toNat ≤ 57 then some (c.toNat - 48) else if 97 ≤ c.toNat ∧ c.toNat ≤ 102 then some (c.toNat - 87) else none
theorem val1_hex {d : Nat} (h : d < 16) : val1 (hex1 d) = some d ∧ hex1 d ≠ 58 := by
  have : d = 0 ∨ d = 1 ∨ d = 2 ∨ d = 3 ∨ d = 4 ∨ d = 5 ∨ d = 6 ∨ d = 7 ∨ d = 8 ∨ d = 9 ∨ d = 10 ∨ d = 11 ∨ d = 12 ∨ d = 13 ∨ d = 14 ∨ d = 15 := by omega
  rcases this with rfl | rfl | rfl | rfl | rfl | rfl | rfl | rfl | rfl | rfl | rfl | rfl | rfl | rfl | rfl | rfl <;> decide
/-- What reading has: the word's place, its number, the address so far. -/
structure St6 where
  k : Nat
  n : Nat
  a : List UInt8
/-- One step of reading. -/
def pst6 (s : Option St6) (c : UInt8) : Option St6 :=
  match s with
  | none => none
  | some s =>
    if c = 58 then (if s.k + 1 ≤ 7 then some ⟨s.k + 1, 0, setw s.a (s.k + 1) 0⟩ else none)
    else match val1 c with
      | none => none
      | some d => if s.k ≤ 7 ∧ s.n * 16 + d ≤ 65535 then some ⟨s.k, s.n * 16 + d, setw s.a s.k (s.n * 16 + d)⟩ else none
def pfold6 (s : Option St6) (l : List UInt8) : Option St6 := l.foldl pst6 s
theorem pfold6_append (s : Option St6) (a b : List UInt8) : pfold6 s (a ++ b) = pfold6 (pfold6 s a) b := by simp [pfold6]
theorem pfold6_none (l : List UInt8) : pfold6 none l = none := by
  induction l with
  | nil => rfl
  | cons c l ih => simpa [pfold6, pst6] using ih
theorem pfold6_take {l : List UInt8} {k : Nat} {s : Option St6} (h : k < l.length) : pfold6 s (l.take (k + 1)) = pst6 (pfold6 s (l.take k)) l[k] := by
  rw [List.take_succ_eq_append_getElem h, pfold6_append]; rfl
theorem pst6_hex {k n d : Nat} {a : List UInt8} (hd : d < 16) (hk : k ≤ 7) (h : n * 16 + d ≤ 65535) : pst6 (some ⟨k, n, a⟩) (hex1 d) = some ⟨k, n * 16 + d, setw a k (n * 16 + d)⟩ := by
  obtain ⟨h1, h2⟩ := val1_hex hd
  simp only [pst6, h2, if_false, h1, if_pos (And.intro hk h)]
theorem pfold6_hexs {k n : Nat} {a : List UInt8} (hk : k ≤ 7) (h : n < 65536) : pfold6 (some ⟨k, 0, a⟩) (hexs n) = some ⟨k, n, setw a k n⟩ := by
  unfold hexs
  split
  · simp only [pfold6, List.foldl_cons, List.foldl_nil]
    rw [pst6_hex (by omega) hk (by omega)]; congr 2 <;> first | omega | (congr 1; omega)
  · split
    · simp only [pfold6, List.foldl_cons, List.foldl_nil]
      rw [pst6_hex (by omega) hk (by omega), pst6_hex (by omega) hk (by omega), setw_setw]
      have e : (0 * 16 + n / 16) * 16 + n % 16 = n := by omega
      rw [e]
    · split
      · simp only [pfold6, List.foldl_cons, List.foldl_nil]
        rw [pst6_hex (by omega) hk (by omega), pst6_hex (by omega) hk (by omega), pst6_hex (by omega) hk (by omega), setw_setw, setw_setw]
        have e : ((0 * 16 + n / 256) * 16 + n / 16 % 16) * 16 + n % 16 = n := by omega
        rw [e]
      · simp only [pfold6, List.foldl_cons, List.foldl_nil]
        rw [pst6_hex (by omega) hk (by omega), pst6_hex (by omega) hk (by omega), pst6_hex (by omega) hk (by omega), pst6_hex (by omega) hk (by omega), setw_setw, setw_setw, setw_setw]
        have e : (((0 * 16 + n / 4096) * 16 + n / 256 % 16) * 16 + n / 16 % 16) * 16 + n % 16 = n := by omega
        rw [e]
/-- The address of the first k words. -/
def ad6 (a : List UInt8) : Nat → List UInt8
  | 0 => nul
  | k + 1 => setw (ad6 a k) k (wrd6 a k)
theorem pfold6_tx6 (a : List UInt8) : ∀ k, k ≤ 7 → pfold6 (some ⟨0, 0, nul⟩) (tx6 a (k + 1)) = some ⟨k, wrd6 a k, ad6 a (k + 1)⟩
  | 0, _ => by
    have h := wrd6_lt a 0
    simp only [tx6, sep, if_true, List.nil_append, ad6]
    exact pfold6_hexs (by omega) h
  | k + 1, hk => by
    have ih := pfold6_tx6 a k (by omega)
    have h := wrd6_lt a (k + 1)
    have hc : pfold6 (some ⟨k, wrd6 a k, ad6 a (k + 1)⟩) [58] = some ⟨k + 1, 0, setw (ad6 a (k + 1)) (k + 1) 0⟩ := by
      simp only [pfold6, List.foldl_cons, List.foldl_nil, pst6, if_true]
      rw [if_pos (by omega)]
    rw [show tx6 a (k + 1 + 1) = tx6 a (k + 1) ++ [58] ++ hexs (wrd6 a (k + 1)) from by rw [tx6, sep, if_neg (Nat.succ_ne_zero k)]]
    rw [pfold6_append, pfold6_append, ih, hc, pfold6_hexs hk h, setw_setw]; rfl
theorem ad6_get (a : List UInt8) (ha : a.length = 16) : ∀ k, k ≤ 8 → (ad6 a k).length = 16 ∧ ∀ j, j < 2 * k → (ad6 a k)[j]? = a[j]?
  | 0, _ => ⟨rfl, fun j hj => by omega⟩
  | k + 1, hk => by
    obtain ⟨h1, h2⟩ := ad6_get a ha k (by omega)
    refine ⟨by simp only [ad6, setw_length, h1], fun j hj => ?_⟩
    have hx : 2 * k < a.length := by omega
    have hy : 2 * k + 1 < a.length := by omega
    have hw : wrd6 a k = a[2 * k].toNat * 256 + a[2 * k + 1].toNat := by simp [wrd6, hx, hy]
    have b1 := a[2 * k].toNat_lt
    have b2 := a[2 * k + 1].toNat_lt
    simp only [ad6, setw, List.getElem?_set, List.length_set, h1]
    by_cases e1 : 2 * k + 1 = j
    · subst e1
      rw [if_pos rfl, if_pos (by omega), List.getElem?_eq_getElem hy]
      congr 1
      refine UInt8.toNat_inj.1 ?_
      rw [UInt8.toNat_ofNat', hw]; omega
    · rw [if_neg e1]
      by_cases e2 : 2 * k = j
      · subst e2
        rw [if_pos rfl, if_pos (by omega), List.getElem?_eq_getElem hx]
        congr 1
        refine UInt8.toNat_inj.1 ?_
        rw [UInt8.toNat_ofNat', hw]; omega
      · rw [if_neg e2]; exact h2 j (by omega)
theorem ad6_all (a : List UInt8) (ha : a.length = 16) : ad6 a 8 = a := by
  obtain ⟨h1, h2⟩ := ad6_get a ha 8 (by omega)
  refine List.ext_getElem? fun j => ?_
  by_cases hj : j < 16
  · exact h2 j (by omega)
  · rw [List.getElem?_eq_none (by omega), List.getElem?_eq_none (by omega)]
/-- A text is read again. -/
theorem pfold6_text (a : List UInt8) (ha : a.length = 16) : ∃ n, pfold6 (some ⟨0, 0, nul⟩) (tx6 a 8) = some ⟨7, n, a⟩ := by
  have h := pfold6_tx6 a 7 (by omega)
  rw [ad6_all a ha] at h
  exact ⟨_, h⟩
theorem tx6_inj {a b : List UInt8} (ha : a.length = 16) (hb : b.length = 16) (h : tx6 a 8 = tx6 b 8) : a = b := by
  obtain ⟨n, h1⟩ := pfold6_text a ha
  obtain ⟨m, h2⟩ := pfold6_text b hb
  rw [h, h2] at h1
  simp at h1; exact h1.2.symm

/-- The address that a text is, and the error's number. -/
noncomputable def parV6 (s : List UInt8) : List UInt8 := by
  classical exact if h : ∃ a : List UInt8, a.length = 16 ∧ tx6 a 8 = s then Classical.choose h else nul
noncomputable def parE6 (s : List UInt8) : Int := by
  classical exact if ∃ a : List UInt8, a.length = 16 ∧ tx6 a 8 = s then 0 else 4
theorem par6_yes {s : List UInt8} {a : List UInt8} (ha : a.length = 16) (h : tx6 a 8 = s) : parV6 s = a ∧ parE6 s = 0 := by
  have hex : ∃ a : List UInt8, a.length = 16 ∧ tx6 a 8 = s := ⟨a, ha, h⟩
  unfold parV6 parE6
  rw [dif_pos hex, if_pos hex]
  obtain ⟨h1, h2⟩ := Classical.choose_spec hex
  exact ⟨tx6_inj h1 ha (h2.trans h.symm), rfl⟩
theorem par6_no {s : List UInt8} (h : ¬ ∃ a : List UInt8, a.length = 16 ∧ tx6 a 8 = s) : parV6 s = nul ∧ parE6 s = 4 := by
  unfold parV6 parE6
  rw [dif_neg h, if_neg h]; exact ⟨rfl, rfl⟩
theorem par6_none {s : List UInt8} {k : Nat} (h : pfold6 (some ⟨0, 0, nul⟩) (s.take k) = none) : parV6 s = nul ∧ parE6 s = 4 := by
  refine par6_no fun ⟨a, ha, e⟩ => ?_
  obtain ⟨n, h1⟩ := pfold6_text a ha
  rw [e, ← List.take_append_drop k s, pfold6_append, h, pfold6_none] at h1
  cases h1
theorem par6_long {s : List UInt8} (h : 39 < s.length) : parV6 s = nul ∧ parE6 s = 4 :=
  par6_no fun ⟨a, _, e⟩ => by have := tx6_len8 a; rw [e] at this; omega
theorem par6_end {s : List UInt8} {k n : Nat} {a : List UInt8} (ha : a.length = 16) (h : pfold6 (some ⟨0, 0, nul⟩) s = some ⟨k, n, a⟩) :
    (tx6 a 8 = s → parV6 s = a ∧ parE6 s = 0) ∧ (tx6 a 8 ≠ s → parV6 s = nul ∧ parE6 s = 4) := by
  refine ⟨fun e => par6_yes ha e, fun hne => par6_no fun ⟨b, hb, e⟩ => hne ?_⟩
  obtain ⟨m, h1⟩ := pfold6_text b hb
  rw [e, h] at h1
  simp at h1
  rw [h1.2.2]; exact e
theorem par6_cases (s : List UInt8) : (∃ a : List UInt8, a.length = 16 ∧ tx6 a 8 = s ∧ parV6 s = a ∧ parE6 s = 0) ∨ (parV6 s = nul ∧ parE6 s = 4) := by
  by_cases h : ∃ a : List UInt8, a.length = 16 ∧ tx6 a 8 = s
  · obtain ⟨a, ha, e⟩ := h
    exact .inl ⟨a, ha, e, par6_yes ha e⟩
  · exact .inr (par6_no h)
theorem parV6_len (s : List UInt8) : (parV6 s).length = 16 := by
  rcases par6_cases s with ⟨a, ha, _, h, _⟩ | ⟨h, _⟩
  · rw [h]; exact ha
  · rw [h]; rfl
end Go.Proofs.Ytogidfagkgccmaa

/-
  Contracts of the document's plain answers of layer 4: digits, value, Text. Conditions are each theorem's own.
-/
namespace Go.Proofs.Ytogidfagkgccmaa
open Go.RowKit

theorem hex_cut {m : Nat} (h : m < 16) : ({ data := #[48, 49, 50, 51, 52, 53, 54, 55, 56, 57, 97, 98, 99, 100, 101, 102] } : ByteArray).extract m (m + 1) = strB [hex1 m] := by
  have : m = 0 ∨ m = 1 ∨ m = 2 ∨ m = 3 ∨ m = 4 ∨ m = 5 ∨ m = 6 ∨ m = 7 ∨ m = 8 ∨ m = 9 ∨ m = 10 ∨ m = 11 ∨ m = 12 ∨ m = 13 ∨ m = 14 ∨ m = 15 := by omega
  rcases this with rfl | rfl | rfl | rfl | rfl | rfl | rfl | rfl | rfl | rfl | rfl | rfl | rfl | rfl | rfl | rfl <;> decide
/-- A digit's value as the document's 'value' tells it. -/
def valI (c : UInt8) : Int := match val1 c with | some d => d | none => -1
end Go.Proofs.Ytogidfagkgccmaa

/-
  Contracts of the document's plain answers of layer 4: Text. Conditions are each theorem's own.
-/
namespace Go.Proofs.Ytogidfagkgccmaa
open Go.RowKit

end Go.Proofs.Ytogidfagkgccmaa

/-
  Contract of the document's plain answer of layer 4 for Of, and slices of integers that came in. Conditions are each theorem's own.
-/
namespace Go.Proofs.Ytogidfagkgccmaa
open Go.RowKit

/-- The word of an integer. -/
def wz (z : Int) : Nat := (z % 65536).toNat
theorem wz_lt (z : Int) : wz z < 65536 := by unfold wz; omega
theorem wz_val (z : Int) : Int.tmod (Int.tmod z 65536 + 65536) 65536 = (wz z : Int) := by
  unfold wz
  have h1 : Int.tmod z 65536 = z % 65536 ∨ Int.tmod z 65536 = z % 65536 - 65536 := by
    rcases Int.lt_or_le z 0 with h | h
    · rw [Int.tmod_eq_emod]; split <;> simp <;> omega
    · rw [Int.tmod_eq_emod_of_nonneg h]; exact .inl rfl
  have h2 : 0 ≤ Int.tmod z 65536 + 65536 := by rcases h1 with h | h <;> rw [h] <;> omega
  rw [Int.tmod_eq_emod_of_nonneg h2]
  rcases h1 with h | h <;> rw [h] <;> omega
/-- The address of the first k words of a list. -/
def ofw (zs : List Int) : Nat → List UInt8
  | 0 => nul
  | k + 1 => setw (ofw zs k) k (wz (zs.getD k 0))
theorem ofw_length (zs : List Int) : ∀ k, (ofw zs k).length = 16
  | 0 => rfl
  | k + 1 => by rw [ofw, setw_length]; exact ofw_length zs k
/-- The address of words. -/
def of6 (zs : List Int) : List UInt8 := ofw zs (min zs.length 8)
theorem of6_length (zs : List Int) : (of6 zs).length = 16 := ofw_length zs _

set_option maxRecDepth 100000 in
set_option maxHeartbeats 1000000 in
theorem r4of (A : Option Addr) (zs : List Int) (c B : Nat) (w : World) (hr : RdI w B A zs) (hB : B ≤ w.heap.size) (hl : zs.length ≤ 1099511627776) :
    Calls Try.prog 90 #[.slice A zs.length c] w fun e w' => e = .returned (.agg (cel (of6 zs))) ∧ Below w.heap.size w w' := by
  go_enter Try.func90, Try.ntmps90
  go_wp2
  go_loopw [4] (fun i wr => ∃ k : Nat, k ≤ zs.length ∧ k ≤ 8 ∧ i = .int .i64 (k : Int) ∧ wr = (w.alloc (.cells (cel nul) 70)).alloc (.cells (cel (ofw zs k)) 70)) (fun i _ => 8 - (intOf i).toNat)
  case atStart => exact ⟨0, Nat.zero_le _, by omega, rfl, rfl⟩
  case round =>
    obtain ⟨k, hk, hk8, rfl, rfl⟩ := hrel
    have hlen := ofw_length zs k
    have hgA := World.alloc_heap_new (w.alloc (.cells (cel nul) 70)) (.cells (cel (ofw zs k)) 70)
    have hgR : ((w.alloc (.cells (cel nul) 70)).alloc (.cells (cel (ofw zs k)) 70)).heap[w.heap.size]? = some (.cells (cel nul) 70) := by
      rw [Below.heap_alloc _ _ _ (by simp)]; exact World.alloc_heap_new w _
    rw [show (w.alloc (.cells (cel nul) 70)).heap.size = w.heap.size + 1 from by simp] at hgA
    by_cases hlt : k < zs.length
    · by_cases h8 : k < 8
      · obtain ⟨b, off, rfl, hb, hc⟩ := hr (by omega)
        have hz := hc k hlt
        clear hgA hgR
        have HA : Hid (ofw zs (k + 1) = setw (ofw zs k) k (wz (zs.getD k 0))) := Lib.hid rfl
        clear hc hr
        have hb0 : b < w.heap.size := by omega
        have hb1 : b < w.heap.size + 1 := by omega
        generalize ofw zs k = F at *
        generalize zs.getD k 0 = z at *
        have g1 := cel_get F (show 2 * k < F.length by omega)
        have g2 := cel_get F (show 2 * k + 1 < F.length by omega)
        have HC := Lib.hid (cel_setw_int F k (wz_lt z))
        have hv := wz_val z
        have hwl := wz_lt z
        have e1 : IntKind.i64.wrap (Int.tmod z 65536 + 65536) = Int.tmod z 65536 + 65536 := IntWalk.i64_in _ (by have := Int.tmod_lt_of_pos z (show (0:Int) < 65536 by omega); have := Int.lt_tmod_of_pos z (show (0:Int) < 65536 by omega); omega)
        go_wp2
        go_roundw
        case rel => exact ⟨k + 1, by omega, by omega, by simp, by rw [HA.out, HC.out]⟩
        case measure => simp [intOf]; omega
      · have d8 : decide ((k : Int) < 8) = false := by simp; omega
        have HO : Hid (of6 zs = ofw zs k) := Lib.hid (by unfold of6; congr 1; omega)
        go_wp2_with (first
          | ((with_reducible show wpList _ _ _ (Oper.mk _ (Op.load _ _) _ _ _ _ :: _) _ _); refine six_load (g := w.heap.size + 1) rfl hgA hlen ?_)
          | ((with_reducible show wpList _ _ _ (Oper.mk _ (Op.store _ _ _) _ _ _ _ :: _) _ _); refine six_store (g := w.heap.size) rfl rfl hgR rfl hlen ?_))
        exact bodyPost_ret (six_result rfl rfl (setRow_heap _ _ _ _ _ _ hgR) hlen) rfl ⟨by rw [HO.out], below_setRow (below_two _ _ _) (Nat.le_refl _) _⟩
    · have HO : Hid (of6 zs = ofw zs k) := Lib.hid (by unfold of6; congr 1; omega)
      go_wp2_with (first
        | ((with_reducible show wpList _ _ _ (Oper.mk _ (Op.load _ _) _ _ _ _ :: _) _ _); refine six_load (g := w.heap.size + 1) rfl hgA hlen ?_)
        | ((with_reducible show wpList _ _ _ (Oper.mk _ (Op.store _ _ _) _ _ _ _ :: _) _ _); refine six_store (g := w.heap.size) rfl rfl hgR rfl hlen ?_))
      exact bodyPost_ret (six_result rfl rfl (setRow_heap _ _ _ _ _ _ hgR) hlen) rfl ⟨by rw [HO.out], below_setRow (below_two _ _ _) (Nat.le_refl _) _⟩
end Go.Proofs.Ytogidfagkgccmaa

/-
  Contract of the document's plain answer of layer 4 for Parse. Conditions are each theorem's own.
-/
namespace Go.Proofs.Ytogidfagkgccmaa
open Go.RowKit

theorem pst6_58 {k n : Nat} {a : List UInt8} {c : UInt8} (h : c.toNat = 58) (hk : k + 1 ≤ 7) : pst6 (some ⟨k, n, a⟩) c = some ⟨k + 1, 0, setw a (k + 1) 0⟩ := by
  have : c = 58 := UInt8.toNat_inj.1 h
  simp only [pst6, this, if_true, if_pos hk]
theorem pst6_val {k n d : Nat} {a : List UInt8} {c : UInt8} (h : c.toNat ≠ 58) (hv : val1 c = some d) (hk : k ≤ 7) (hn : n * 16 + d ≤ 65535) : pst6 (some ⟨k, n, a⟩) c = some ⟨k, n * 16 + d, setw a k (n * 16 + d)⟩ := by
  have h58 : c ≠ 58 := fun e => h (by rw [e]; rfl)
  simp only [pst6, h58, if_false, hv, if_pos (And.intro hk hn)]
theorem pst6_no {k n : Nat} {a : List UInt8} {c : UInt8} (h : (c.toNat = 58 ∧ 7 < k + 1) ∨ (c.toNat ≠ 58 ∧ val1 c = none) ∨ (c.toNat ≠ 58 ∧ ∃ d, val1 c = some d ∧ 65535 < n * 16 + d)) : pst6 (some ⟨k, n, a⟩) c = none := by
  rcases h with ⟨h, hk⟩ | ⟨h, hv⟩ | ⟨h, d, hv, hn⟩
  · have : c = 58 := UInt8.toNat_inj.1 h
    simp only [pst6, this, if_true]; rw [if_neg (by omega)]
  · have h58 : c ≠ 58 := fun e => h (by rw [e]; rfl)
    simp only [pst6, h58, if_false, hv]
  · have h58 : c ≠ 58 := fun e => h (by rw [e]; rfl)
    simp only [pst6, h58, if_false, hv]; rw [if_neg (by omega)]

theorem valI_some {c : UInt8} {d : Nat} (h : val1 c = some d) : valI c = (d : Int) := by simp [valI, h]
theorem valI_none {c : UInt8} (h : val1 c = none) : valI c = -1 := by simp [valI, h]
theorem val1_lt {c : UInt8} {d : Nat} (h : val1 c = some d) : d < 16 := by
  unfold val1 at h
  split at h
  · simp at h; omega
  · split at h
    · simp at h; omega
    · cases h

end Go.Proofs.Ytogidfagkgccmaa

/-
  Contracts of the project's functions of layer 4: Less, Host, Of. Conditions are each theorem's own.
-/
namespace Go.Proofs.Ytogidfagkgccmaa
open Go.RowKit

set_option maxRecDepth 100000 in
theorem c4host (a : List UInt8) (ha : a.length = 16) (w : World) :
    Calls Try.prog 120 #[.agg (cel a)] w fun e w' => e = .returned (.bool (host6 a)) ∧ Below w.heap.size w w' := by
  have h0 : (w.alloc (.cells (cel a) 70)).cell? ⟨w.heap.size, 0, none⟩ = some (.int .u8 (byt a 0)) := by rw [World.cell?_alloc_new]; exact cel_get a (by omega)
  have hB := (Below.refl w.heap.size w).alloc (Nat.le_refl _) (.cells (cel a) 70)
  have hg := World.alloc_heap_new w (.cells (cel a) 70)
  have hZ := six_nul a ha
  by_cases hn : a = nul
  · have hz : decide (a = nul) = true := by simpa using hn
    clear hn
    go_enter Try.func120, Try.ntmps120
    go_wp2_with ((with_reducible show wpList _ _ _ (Oper.mk _ (Op.load _ _) _ _ _ _ :: _) _ _); refine six_load (g := w.heap.size) rfl hg ha ?_)
    go_ret
    exact ⟨ret_bool (by rw [host6, hz]; rfl), hB⟩
  · have hz : decide (a = nul) = false := by simpa using hn
    clear hn
    go_enter Try.func120, Try.ntmps120
    go_wp2_with ((with_reducible show wpList _ _ _ (Oper.mk _ (Op.load _ _) _ _ _ _ :: _) _ _); refine six_load (g := w.heap.size) rfl hg ha ?_)
    go_ret
    exact ⟨ret_bool (by rw [host6, hz]; rfl), hB⟩
theorem cel_setw_of (a : List UInt8) (k : Nat) (z : Int) : cel (setw a k (wz z)) = ((cel a).setIfInBounds (2 * k) (.int .u8 (z / 256 % 256))).setIfInBounds (2 * k + 1) (.int .u8 (z % 256)) := by
  rw [cel_setw_int a k (wz_lt z)]
  have h1 : (wz z : Int) / 256 = z / 256 % 256 := by unfold wz; omega
  have h2 : (wz z : Int) % 256 = z % 256 := by unfold wz; omega
  rw [h1, h2]
set_option maxRecDepth 100000 in
set_option maxHeartbeats 2000000 in
set_option maxRecDepth 100000 in
theorem c4of (A : Option Addr) (zs : List Int) (c B : Nat) (w : World) (hr : RdI w B A zs) (hB : B ≤ w.heap.size) (hcap : zs.length ≤ c) (hl : zs.length ≤ 1099511627776) :
    Calls Try.prog 89 #[.slice A zs.length c] w fun e w' => e = .returned (.agg (cel (of6 zs))) ∧ Below w.heap.size w w' := by
  by_cases h0 : zs.length = 0
  · have hgA := World.alloc_heap_new (w.alloc (.cells (cel nul) 70)) (.cells (cel nul) 70)
    have hgR : ((w.alloc (.cells (cel nul) 70)).alloc (.cells (cel nul) 70)).heap[w.heap.size]? = some (.cells (cel nul) 70) := by
      rw [Below.heap_alloc _ _ _ (by simp)]; exact World.alloc_heap_new w _
    rw [show (w.alloc (.cells (cel nul) 70)).heap.size = w.heap.size + 1 from by simp] at hgA
    obtain rfl : zs = [] := List.eq_nil_of_length_eq_zero h0
    have HO : Hid (of6 [] = nul) := Lib.hid rfl
    have hln : nul.length = 16 := rfl
    have hm0 : min ((([] : List Int).length : Nat) : Int) 8 = 0 := rfl
    simp only [List.length_nil] at hcap hm0 ⊢
    rcases A with _ | ad
    · go_enter Try.func89, Try.ntmps89
      go_wp2
      go_loopw [12] (fun i wr => i = .int .i64 0 ∧ wr = (w.alloc (.cells (cel nul) 70)).alloc (.cells (cel nul) 70)) (fun _ _ => 0)
      case atStart => exact ⟨rfl, rfl⟩
      case round =>
        obtain ⟨rfl, rfl⟩ := hrel
        go_wp2_with (first
          | ((with_reducible show wpList _ _ _ (Oper.mk _ (Op.load _ _) _ _ _ _ :: _) _ _); refine six_load (g := w.heap.size + 1) rfl hgA hln ?_)
          | ((with_reducible show wpList _ _ _ (Oper.mk _ (Op.store _ _ _) _ _ _ _ :: _) _ _); refine six_store (g := w.heap.size) rfl rfl hgR rfl hln ?_))
        exact bodyPost_ret (six_result rfl rfl (setRow_heap _ _ _ _ _ _ hgR) hln) rfl ⟨by rw [HO.out], below_setRow (below_two _ _ _) (Nat.le_refl _) _⟩
    · go_enter Try.func89, Try.ntmps89
      go_wp2
      go_loopw [12] (fun i wr => i = .int .i64 0 ∧ wr = (w.alloc (.cells (cel nul) 70)).alloc (.cells (cel nul) 70)) (fun _ _ => 0)
      case atStart => exact ⟨rfl, rfl⟩
      case round =>
        obtain ⟨rfl, rfl⟩ := hrel
        go_wp2_with (first
          | ((with_reducible show wpList _ _ _ (Oper.mk _ (Op.load _ _) _ _ _ _ :: _) _ _); refine six_load (g := w.heap.size + 1) rfl hgA hln ?_)
          | ((with_reducible show wpList _ _ _ (Oper.mk _ (Op.store _ _ _) _ _ _ _ :: _) _ _); refine six_store (g := w.heap.size) rfl rfl hgR rfl hln ?_))
        exact bodyPost_ret (six_result rfl rfl (setRow_heap _ _ _ _ _ _ hgR) hln) rfl ⟨by rw [HO.out], below_setRow (below_two _ _ _) (Nat.le_refl _) _⟩

  obtain ⟨b, off, rfl, hb, hc⟩ := hr (by omega)
  by_cases h8 : zs.length ≤ 8
  · have hmin : min (zs.length : Int) 8 = (zs.length : Int) := by omega
    go_enter Try.func89, Try.ntmps89
    go_wp2
    go_loopw [12] (fun i wr => ∃ k : Nat, k ≤ zs.length ∧ i = .int .i64 (k : Int) ∧ wr = (w.alloc (.cells (cel nul) 70)).alloc (.cells (cel (ofw zs k)) 70)) (fun i _ => zs.length - (intOf i).toNat)
    case atStart => exact ⟨0, Nat.zero_le _, rfl, rfl⟩
    case round =>
      obtain ⟨k, hk, rfl, rfl⟩ := hrel
      have hlen := ofw_length zs k
      have hgA := World.alloc_heap_new (w.alloc (.cells (cel nul) 70)) (.cells (cel (ofw zs k)) 70)
      have hgR : ((w.alloc (.cells (cel nul) 70)).alloc (.cells (cel (ofw zs k)) 70)).heap[w.heap.size]? = some (.cells (cel nul) 70) := by
        rw [Below.heap_alloc _ _ _ (by simp)]; exact World.alloc_heap_new w _
      rw [show (w.alloc (.cells (cel nul) 70)).heap.size = w.heap.size + 1 from by simp] at hgA
      by_cases hlt : k < zs.length
      · have hz := hc k (by omega)
        clear hgA hgR
        have HA : Hid (ofw zs (k + 1) = setw (ofw zs k) k (wz (zs.getD k 0))) := Lib.hid rfl
        clear hc hr
        have hb0 : b < w.heap.size := by omega
        have hb1 : b < w.heap.size + 1 := by omega
        generalize ofw zs k = F at *
        generalize zs.getD k 0 = z at *
        have g1 := cel_get F (show 2 * k < F.length by omega)
        have g2 := cel_get F (show 2 * k + 1 < F.length by omega)
        have HC := Lib.hid (cel_setw_of F k z)
        go_wp2
        go_roundw
        case rel => exact ⟨k + 1, by omega, by simp, by rw [HA.out, HC.out]⟩
        case measure => simp [intOf]; omega
      · have HO : Hid (of6 zs = ofw zs k) := Lib.hid (by unfold of6; congr 1; omega)
        go_wp2_with (first
          | ((with_reducible show wpList _ _ _ (Oper.mk _ (Op.load _ _) _ _ _ _ :: _) _ _); refine six_load (g := w.heap.size + 1) rfl hgA hlen ?_)
          | ((with_reducible show wpList _ _ _ (Oper.mk _ (Op.store _ _ _) _ _ _ _ :: _) _ _); refine six_store (g := w.heap.size) rfl rfl hgR rfl hlen ?_))
        exact bodyPost_ret (six_result rfl rfl (setRow_heap _ _ _ _ _ _ hgR) hlen) rfl ⟨by rw [HO.out], below_setRow (below_two _ _ _) (Nat.le_refl _) _⟩
  · have hmin : min (zs.length : Int) 8 = 8 := by omega
    go_enter Try.func89, Try.ntmps89
    go_wp2
    go_loopw [12] (fun i wr => ∃ k : Nat, k ≤ 8 ∧ i = .int .i64 (k : Int) ∧ wr = (w.alloc (.cells (cel nul) 70)).alloc (.cells (cel (ofw zs k)) 70)) (fun i _ => 8 - (intOf i).toNat)
    case atStart => exact ⟨0, Nat.zero_le _, rfl, rfl⟩
    case round =>
      obtain ⟨k, hk, rfl, rfl⟩ := hrel
      have hlen := ofw_length zs k
      have hgA := World.alloc_heap_new (w.alloc (.cells (cel nul) 70)) (.cells (cel (ofw zs k)) 70)
      have hgR : ((w.alloc (.cells (cel nul) 70)).alloc (.cells (cel (ofw zs k)) 70)).heap[w.heap.size]? = some (.cells (cel nul) 70) := by
        rw [Below.heap_alloc _ _ _ (by simp)]; exact World.alloc_heap_new w _
      rw [show (w.alloc (.cells (cel nul) 70)).heap.size = w.heap.size + 1 from by simp] at hgA
      by_cases hlt : k < 8
      · have hz := hc k (by omega)
        clear hgA hgR
        have HA : Hid (ofw zs (k + 1) = setw (ofw zs k) k (wz (zs.getD k 0))) := Lib.hid rfl
        clear hc hr
        have hb0 : b < w.heap.size := by omega
        have hb1 : b < w.heap.size + 1 := by omega
        generalize ofw zs k = F at *
        generalize zs.getD k 0 = z at *
        have g1 := cel_get F (show 2 * k < F.length by omega)
        have g2 := cel_get F (show 2 * k + 1 < F.length by omega)
        have HC := Lib.hid (cel_setw_of F k z)
        go_wp2
        go_roundw
        case rel => exact ⟨k + 1, by omega, by simp, by rw [HA.out, HC.out]⟩
        case measure => simp [intOf]; omega
      · have HO : Hid (of6 zs = ofw zs k) := Lib.hid (by unfold of6; congr 1; omega)
        go_wp2_with (first
          | ((with_reducible show wpList _ _ _ (Oper.mk _ (Op.load _ _) _ _ _ _ :: _) _ _); refine six_load (g := w.heap.size + 1) rfl hgA hlen ?_)
          | ((with_reducible show wpList _ _ _ (Oper.mk _ (Op.store _ _ _) _ _ _ _ :: _) _ _); refine six_store (g := w.heap.size) rfl rfl hgR rfl hlen ?_))
        exact bodyPost_ret (six_result rfl rfl (setRow_heap _ _ _ _ _ _ hgR) hlen) rfl ⟨by rw [HO.out], below_setRow (below_two _ _ _) (Nat.le_refl _) _⟩
end Go.Proofs.Ytogidfagkgccmaa

/-
  Texts that are cut at a byte, again and again, and joined by it: plain lists of bytes, no program. Conditions are each theorem's own.
-/
namespace Go.Proofs.Ytogidfagkgccmaa

/-- The bytes ahead of the first c, those behind it, and is there one. -/
def cutc (c : UInt8) : List UInt8 → List UInt8 × List UInt8 × Bool
  | [] => ([], [], false)
  | x :: l => if x = c then ([], l, true) else (x :: (cutc c l).1, (cutc c l).2.1, (cutc c l).2.2)
theorem cutc_hit (c : UInt8) : ∀ (p r : List UInt8), c ∉ p → cutc c (p ++ c :: r) = (p, r, true)
  | [], r, _ => by simp [cutc]
  | x :: p, r, h => by
    simp only [List.mem_cons, not_or] at h
    have := cutc_hit c p r h.2
    simp [cutc, this, Ne.symm h.1]
theorem cutc_miss (c : UInt8) : ∀ (p : List UInt8), c ∉ p → cutc c p = (p, [], false)
  | [], _ => rfl
  | x :: p, h => by
    simp only [List.mem_cons, not_or] at h
    have := cutc_miss c p h.2
    simp [cutc, this, Ne.symm h.1]
theorem cutc_true (c : UInt8) : ∀ (l : List UInt8), (cutc c l).2.2 = true → l = (cutc c l).1 ++ c :: (cutc c l).2.1
  | [], h => by simp [cutc] at h
  | x :: l, h => by
    by_cases hx : x = c
    · subst hx; simp [cutc]
    · simp only [cutc, if_neg hx] at h ⊢
      have := cutc_true c l h
      simp only [List.cons_append, List.cons.injEq, true_and]
      exact this
theorem cutc_false (c : UInt8) : ∀ (l : List UInt8), (cutc c l).2.2 = false → l = (cutc c l).1 ∧ (cutc c l).2.1 = []
  | [], _ => ⟨rfl, rfl⟩
  | x :: l, h => by
    by_cases hx : x = c
    · subst hx; simp [cutc] at h
    · simp only [cutc, if_neg hx] at h ⊢
      have := cutc_false c l h
      exact ⟨by rw [← this.1], this.2⟩

theorem cutc_len (c : UInt8) : ∀ (l : List UInt8), (cutc c l).1.length ≤ l.length ∧ (cutc c l).2.1.length ≤ l.length
  | [] => ⟨Nat.le_refl _, Nat.le_refl _⟩
  | x :: l => by
    have ih := cutc_len c l
    unfold cutc
    split
    · exact ⟨by simp, by simp⟩
    · exact ⟨by simp; exact ih.1, by simp; omega⟩

/-- What is left behind k cuts; is there more; the part of cut k. -/
def rst (c : UInt8) (s : List UInt8) : Nat → List UInt8
  | 0 => s
  | k + 1 => (cutc c (rst c s k)).2.1
def mor (c : UInt8) (s : List UInt8) : Nat → Bool
  | 0 => true
  | k + 1 => (cutc c (rst c s k)).2.2
def prt (c : UInt8) (s : List UInt8) (k : Nat) : List UInt8 := (cutc c (rst c s k)).1
theorem rst_len (c : UInt8) (s : List UInt8) : ∀ k, (rst c s k).length ≤ s.length
  | 0 => Nat.le_refl _
  | k + 1 => Nat.le_trans (cutc_len c (rst c s k)).2 (rst_len c s k)
theorem prt_len (c : UInt8) (s : List UInt8) (k : Nat) : (prt c s k).length ≤ s.length := Nat.le_trans (cutc_len c (rst c s k)).1 (rst_len c s k)
theorem rst_shift (c : UInt8) (s : List UInt8) : ∀ k, rst c s (k + 1) = rst c (rst c s 1) k
  | 0 => rfl
  | k + 1 => by
    show (cutc c (rst c s (k + 1))).2.1 = _
    rw [rst_shift c s k]; rfl
theorem prt_shift (c : UInt8) (s : List UInt8) (k : Nat) : prt c s (k + 1) = prt c (rst c s 1) k := by
  unfold prt; rw [rst_shift]
theorem mor_shift (c : UInt8) (s : List UInt8) (k : Nat) : mor c s (k + 1 + 1) = mor c (rst c s 1) (k + 1) := by
  show (cutc c (rst c s (k + 1))).2.2 = (cutc c (rst c (rst c s 1) k)).2.2
  rw [rst_shift]
theorem rst_nil (c : UInt8) : ∀ k, rst c [] k = []
  | 0 => rfl
  | k + 1 => by show (cutc c (rst c [] k)).2.1 = []; rw [rst_nil c k]; rfl
theorem prt_nil (c : UInt8) (k : Nat) : prt c [] k = [] := by unfold prt; rw [rst_nil]; rfl
/-- What was joined is cut into its parts. -/
theorem cut_join (c : UInt8) : ∀ (ps : List (List UInt8)) (p : List UInt8), (∀ q ∈ p :: ps, c ∉ q) →
    (∀ k, k < (p :: ps).length → prt c (Lib.join (p :: ps) [c]) k = ((p :: ps)[k]?).getD []) ∧ mor c (Lib.join (p :: ps) [c]) (p :: ps).length = false
  | [], p, h => by
    have hc := cutc_miss c p (h p (by simp))
    rw [Lib.join_one]
    refine ⟨fun k hk => ?_, ?_⟩
    · obtain rfl : k = 0 := by simp at hk; omega
      show (cutc c p).1 = _
      rw [hc]; rfl
    · show (cutc c p).2.2 = false
      rw [hc]
  | q :: ps, p, h => by
    have hj : Lib.join (p :: q :: ps) [c] = p ++ c :: Lib.join (q :: ps) [c] := by
      rw [Lib.join_cons, Lib.join_cons]; simp [Lib.joinTail]
    have hc := cutc_hit c p (Lib.join (q :: ps) [c]) (h p (by simp))
    have ih := cut_join c ps q (fun x hx => h x (List.mem_cons_of_mem _ hx))
    have h1 : rst c (Lib.join (p :: q :: ps) [c]) 1 = Lib.join (q :: ps) [c] := by
      show (cutc c (Lib.join (p :: q :: ps) [c])).2.1 = _
      rw [hj, hc]
    refine ⟨fun k hk => ?_, ?_⟩
    · cases k with
      | zero =>
        show (cutc c (Lib.join (p :: q :: ps) [c])).1 = _
        rw [hj, hc]; rfl
      | succ k =>
        rw [prt_shift, h1]
        have := ih.1 k (by simp at hk ⊢; omega)
        simpa using this
    · show mor c _ (ps.length + 1 + 1) = false
      rw [mor_shift, h1]
      exact ih.2
/-- What was cut, each part of which holds a byte, is its parts joined. -/
theorem join_cut (c : UInt8) : ∀ (ps : List (List UInt8)) (p s : List UInt8), (∀ k, k < (p :: ps).length → prt c s k = ((p :: ps)[k]?).getD []) → (∀ q ∈ p :: ps, q ≠ []) → mor c s (p :: ps).length = false →
    Lib.join (p :: ps) [c] = s
  | [], p, s, h, _, hm => by
    have h0 := h 0 (by simp)
    have hf := cutc_false c s hm
    rw [Lib.join_one]
    have : prt c s 0 = (cutc c s).1 := rfl
    rw [this] at h0
    simp only [List.getElem?_cons_zero, Option.getD_some] at h0
    rw [← h0]; exact hf.1.symm
  | q :: ps, p, s, h, hne, hm => by
    have h0 : (cutc c s).1 = p := by have := h 0 (by simp); simp only [List.getElem?_cons_zero, Option.getD_some] at this; exact this
    have ht : (cutc c s).2.2 = true := by
      cases e : (cutc c s).2.2 with
      | true => rfl
      | false =>
        have hf := cutc_false c s e
        have h1 := h 1 (by simp)
        rw [prt_shift, show rst c s 1 = [] from hf.2, prt_nil] at h1
        simp only [List.getElem?_cons_succ, List.getElem?_cons_zero, Option.getD_some] at h1
        exact absurd h1.symm (hne q (by simp))
    have hs := cutc_true c s ht
    have ih := join_cut c ps q (rst c s 1) (fun k hk => by
      have := h (k + 1) (by simp at hk ⊢; omega)
      rw [prt_shift] at this
      simpa using this) (fun x hx => hne x (List.mem_cons_of_mem _ hx)) (by
      have hm' : mor c s (ps.length + 1 + 1) = false := hm
      rw [mor_shift] at hm'
      exact hm')
    have hj : Lib.join (p :: q :: ps) [c] = p ++ c :: Lib.join (q :: ps) [c] := by
      rw [Lib.join_cons, Lib.join_cons]; simp [Lib.joinTail]
    rw [hj, ih]
    rw [h0] at hs
    exact hs.symm
end Go.Proofs.Ytogidfagkgccmaa

/-
  What a part of an address's text is, in plain lists of bytes, and the project's function that reads one; its loops over arrays and blocks. Conditions are each theorem's own.
-/
namespace Go.Proofs.Ytogidfagkgccmaa
open Go.RowKit

def dval (l : List UInt8) : Nat := l.foldl (fun n c => n * 10 + (c.toNat - 48)) 0
def isd (c : UInt8) : Prop := 48 ≤ c.toNat ∧ c.toNat ≤ 57
theorem dval_snoc (l : List UInt8) (c : UInt8) : dval (l ++ [c]) = dval l * 10 + (c.toNat - 48) := by simp [dval]
theorem dig_nat {d : Nat} (h : d < 10) : (UInt8.ofNat (48 + d)).toNat = 48 + d := by simp [UInt8.toNat_ofNat']; omega
theorem dig_of {c : UInt8} (h : isd c) : c = UInt8.ofNat (48 + (c.toNat - 48)) := UInt8.toNat_inj.1 (by obtain ⟨h1, h2⟩ := h; rw [dig_nat (by omega)]; omega)
/-- The digits of a number below 256. -/
theorem dec_facts {n : Nat} (h : n < 256) : (∀ c ∈ dec n, isd c) ∧ dval (dec n) = n ∧ 1 ≤ (dec n).length ∧ (dec n).length ≤ 3 ∧ ((dec n)[0]? = some 48 → dec n = [48]) := by
  have hl := @dec_len n
  refine ⟨?_, ?_, hl.1, hl.2, ?_⟩
  · intro c hc
    unfold dec at hc
    split at hc
    · simp only [List.mem_singleton] at hc; subst hc; unfold isd; rw [dig_nat (by omega)]; omega
    · split at hc
      · simp only [List.mem_cons, List.not_mem_nil, or_false] at hc
        rcases hc with rfl | rfl <;> (unfold isd; rw [dig_nat (by omega)]; omega)
      · simp only [List.mem_cons, List.not_mem_nil, or_false] at hc
        rcases hc with rfl | rfl | rfl <;> (unfold isd; rw [dig_nat (by omega)]; omega)
  · unfold dec
    split
    · simp only [dval, List.foldl_cons, List.foldl_nil]; rw [dig_nat (by omega)]; omega
    · split
      · simp only [dval, List.foldl_cons, List.foldl_nil]; rw [dig_nat (by omega), dig_nat (by omega)]; omega
      · simp only [dval, List.foldl_cons, List.foldl_nil]; rw [dig_nat (by omega), dig_nat (by omega), dig_nat (by omega)]; omega
  · intro h0
    have key : ∀ d, d < 10 → UInt8.ofNat (48 + d) = 48 → d = 0 := fun d hd e => by have := congrArg UInt8.toNat e; rw [dig_nat hd] at this; simp at this; omega
    unfold dec at h0 ⊢
    split at h0
    · rename_i hn
      simp only [List.getElem?_cons_zero, Option.some.injEq] at h0
      rw [if_pos hn, h0]
    · split at h0
      · simp only [List.getElem?_cons_zero, Option.some.injEq] at h0
        have := key _ (by omega) h0; omega
      · simp only [List.getElem?_cons_zero, Option.some.injEq] at h0
        have := key _ (by omega) h0; omega
/-- Digits, none ahead too many: the digits of their number. -/
theorem dec_of {l : List UInt8} (hd : ∀ c ∈ l, isd c) (h1 : 1 ≤ l.length) (h3 : l.length ≤ 3) (h0 : l[0]? = some 48 → l = [48]) (hv : dval l ≤ 255) : dec (dval l) = l := by
  match l, hd, h1, h3, h0, hv with
  | [a], hd, _, _, _, _ =>
    have ha := hd a (by simp)
    have e : dval [a] = a.toNat - 48 := by simp [dval]
    obtain ⟨k1, k2⟩ := id ha
    rw [e, dec, if_pos (by omega), ← dig_of ha]
  | [a, b], hd, _, _, h0, _ =>
    have ha := hd a (by simp); have hb := hd b (by simp)
    have e : dval [a, b] = (a.toNat - 48) * 10 + (b.toNat - 48) := by simp [dval]
    have hne : a.toNat ≠ 48 := fun e' => by
      have : a = 48 := UInt8.toNat_inj.1 e'
      subst this
      have := h0 rfl
      simp at this
    obtain ⟨k1, k2⟩ := id ha; obtain ⟨k3, k4⟩ := id hb
    rw [e, dec, if_neg (by omega), if_pos (by omega)]
    rw [show ((a.toNat - 48) * 10 + (b.toNat - 48)) / 10 = a.toNat - 48 from by omega, show ((a.toNat - 48) * 10 + (b.toNat - 48)) % 10 = b.toNat - 48 from by omega, ← dig_of ha, ← dig_of hb]
  | [a, b, c], hd, _, _, h0, _ =>
    have ha := hd a (by simp); have hb := hd b (by simp); have hc := hd c (by simp)
    have e : dval [a, b, c] = ((a.toNat - 48) * 10 + (b.toNat - 48)) * 10 + (c.toNat - 48) := by simp [dval]
    have hne : a.toNat ≠ 48 := fun e' => by
      have : a = 48 := UInt8.toNat_inj.1 e'
      subst this
      have := h0 rfl
      simp at this
    obtain ⟨k1, k2⟩ := id ha; obtain ⟨k3, k4⟩ := id hb; obtain ⟨k5, k6⟩ := id hc
    rw [e, dec, if_neg (by omega), if_neg (by omega)]
    rw [show (((a.toNat - 48) * 10 + (b.toNat - 48)) * 10 + (c.toNat - 48)) / 100 = a.toNat - 48 from by omega, show (((a.toNat - 48) * 10 + (b.toNat - 48)) * 10 + (c.toNat - 48)) / 10 % 10 = b.toNat - 48 from by omega,
      show (((a.toNat - 48) * 10 + (b.toNat - 48)) * 10 + (c.toNat - 48)) % 10 = c.toNat - 48 from by omega, ← dig_of ha, ← dig_of hb, ← dig_of hc]
theorem dec_dot {n : Nat} (h : n < 256) : (46 : UInt8) ∉ dec n := fun hm => by
  have := ((dec_facts h).1 46 hm).1
  simp at this
theorem dec_inj {a b : Nat} (ha : a < 256) (hb : b < 256) (h : dec a = dec b) : a = b := by
  rw [← (dec_facts ha).2.1, h, (dec_facts hb).2.1]

/-- The byte whose digits these are, and is there one. -/
noncomputable def rdV (l : List UInt8) : Int := by classical exact if ∃ n, n < 256 ∧ dec n = l then (dval l : Int) else 0
noncomputable def rdO (l : List UInt8) : Bool := by classical exact decide (∃ n, n < 256 ∧ dec n = l)
theorem rd_yes {l : List UInt8} {n : Nat} (h : n < 256) (e : dec n = l) : rdV l = n ∧ rdO l = true := by
  have hex : ∃ n, n < 256 ∧ dec n = l := ⟨n, h, e⟩
  unfold rdV rdO
  rw [if_pos hex, ← e, (dec_facts h).2.1]
  exact ⟨rfl, by simpa [e] using hex⟩
theorem rd_no {l : List UInt8} (h : ¬ ∃ n, n < 256 ∧ dec n = l) : rdV l = 0 ∧ rdO l = false := by
  unfold rdV rdO
  rw [if_neg h]
  exact ⟨rfl, by simpa using h⟩
theorem rd_cases (l : List UInt8) : (∃ n, n < 256 ∧ dec n = l ∧ rdV l = n ∧ rdO l = true) ∨ ((¬ ∃ n, n < 256 ∧ dec n = l) ∧ rdV l = 0 ∧ rdO l = false) := by
  by_cases h : ∃ n, n < 256 ∧ dec n = l
  · obtain ⟨n, h1, h2⟩ := h
    exact .inl ⟨n, h1, h2, rd_yes h1 h2⟩
  · exact .inr ⟨h, rd_no h⟩

theorem ret_rd {a b : Int} {x y : Bool} (h : a = b) (h2 : x = y) : Ending.returned (.tuple #[.int .u8 a, .bool x]) = .returned (.tuple #[.int .u8 b, .bool y]) := by rw [h, h2]

end Go.Proofs.Ytogidfagkgccmaa

/-
  Contracts of the project's functions of layer 3: Right, Host, Private and what they stand on. Conditions are each theorem's own.
-/
namespace Go.Proofs.Ytogidfagkgccmaa
open Go.RowKit

def inB (a : Int) (b : Int × Int) : Bool := decide (b.1 ≤ a ∧ a ≤ b.2)
/-- The blocks lie at g, one behind the other. -/
def Blk (w : World) (g : Nat) (bs : List (Int × Int)) : Prop :=
  ∀ j, j < bs.length → w.cell? ⟨g, j * 2, none⟩ = some (.int .i64 (bs.getD j (0, 0)).1) ∧ w.cell? ⟨g, j * 2 + 1, none⟩ = some (.int .i64 (bs.getD j (0, 0)).2)
theorem Blk.below {w w' : World} {g B : Nat} {bs : List (Int × Int)} (h : Blk w g bs) (hb : Below B w w') (hg : g < B) : Blk w' g bs := fun j hj => by
  obtain ⟨h1, h2⟩ := h j hj
  exact ⟨(hb.cell (p := ⟨g, j * 2, none⟩) hg).trans h1, (hb.cell (p := ⟨g, j * 2 + 1, none⟩) hg).trans h2⟩

set_option maxHeartbeats 1000000 in
theorem cwithin (a : Int) (g : Nat) (bs : List (Int × Int)) (w : World) (hg : g < w.heap.size) (hb : Blk w g bs) (hl : bs.length ≤ 1000) :
    Calls Try.prog 161 #[.int .i64 a, .slice (some ⟨g, 0, none⟩) bs.length bs.length] w fun e w' => e = .returned (.bool (bs.any (inB a))) ∧ Below w.heap.size w w' := by
  go_enter Try.func161, Try.ntmps161
  go_wp2_with fail
  go_loopw [9] (fun i W => ∃ k : Nat, k ≤ bs.length ∧ Hid ((bs.take k).any (inB a) = false) ∧ i = .int .i64 (k : Int) ∧ Below w.heap.size w W) (fun i _ => bs.length - (intOf i).toNat)
  case atStart => exact ⟨0, Nat.zero_le _, Lib.hid (by simp), rfl, Below.refl _ _⟩
  case round =>
    obtain ⟨k, hk, HA, rfl, hbel⟩ := hrel
    by_cases hlt : k < bs.length
    · obtain ⟨h1, h2⟩ := (hb.below hbel hg) k hlt
      have HS : Hid ((bs.take (k + 1)).any (inB a) = inB a (bs.getD k (0, 0))) := Lib.hid (by
        rw [List.take_succ_eq_append_getElem hlt, List.any_append, HA.out]; simp [List.getD, hlt])
      have HM : Hid (bs.getD k (0, 0) ∈ bs) := Lib.hid (by simp [List.getD, hlt])
      have hwe : wr.heap.size ≥ w.heap.size := hbel.size
      have hbel2 := fun o => hbel.alloc hwe o
      obtain ⟨xy, hxy⟩ : ∃ xy, xy = bs.getD k (0, 0) := ⟨_, rfl⟩
      rw [← hxy] at h1 h2 HS HM
      clear hxy
      obtain ⟨x, y⟩ := xy
      by_cases hx : x ≤ a
      · by_cases hy : a ≤ y
        · have HR := Lib.hid (show bs.any (inB a) = true from List.any_eq_true.2 ⟨_, HM.out, by simp [inB, hx, hy]⟩)
          go_wp2_with fail
          go_ret
          exact ⟨ret_bool HR.out.symm, hbel2 _⟩
        · have hd : decide (a ≤ y) = false := by simpa using hy
          go_wp2_with fail
          go_roundw
          case rel => exact ⟨k + 1, by omega, Lib.hid (by rw [HS.out]; simp [inB, hy]), by simp, hbel2 _⟩
          case measure => simp [intOf]; omega
      · have hd : decide (x ≤ a) = false := by simpa using hx
        go_wp2_with fail
        go_roundw
        case rel => exact ⟨k + 1, by omega, Lib.hid (by rw [HS.out]; simp [inB, hx]), by simp, hbel2 _⟩
        case measure => simp [intOf]; omega
    · obtain rfl : k = bs.length := by omega
      have HR := Lib.hid (show bs.any (inB a) = false by have := HA.out; rwa [List.take_length] at this)
      go_wp2_with fail
      go_ret
      exact ⟨ret_bool HR.out.symm, hbel⟩

theorem cw1 (a lo hi : Int) (g : Nat) (w : World) (hg : g = w.heap.size) :
    Calls Try.prog 161 #[.int .i64 a, .slice (some ⟨g, 0, none⟩) 1 1] (w.alloc (.cells #[.int .i64 lo, .int .i64 hi] 226)) fun e w' => e = .returned (.bool (inB a (lo, hi))) ∧ Below w.heap.size w w' := by
  subst hg
  have hg := World.alloc_heap_new w (.cells #[.int .i64 lo, .int .i64 hi] 226)
  have hB := (Below.refl w.heap.size w).alloc (Nat.le_refl _) (.cells #[.int .i64 lo, .int .i64 hi] 226)
  refine (cwithin a w.heap.size [(lo, hi)] _ (by simp) (fun j hj => ?_) (by simp)).mono ?_
  · obtain rfl : j = 0 := by simp at hj; omega
    exact ⟨by rw [cell_of_row _ _ _ _ _ _ hg]; rfl, by rw [cell_of_row _ _ _ _ _ _ hg]; rfl⟩
  · rintro e w' ⟨rfl, hb⟩
    exact ⟨ret_bool (by simp), hB.trans (hb.mono (by simp))⟩
theorem cw3 (a l1 h1 l2 h2 l3 h3 : Int) (g : Nat) (w : World) (hg : g = w.heap.size) :
    Calls Try.prog 161 #[.int .i64 a, .slice (some ⟨g, 0, none⟩) 3 3] (w.alloc (.cells #[.int .i64 l1, .int .i64 h1, .int .i64 l2, .int .i64 h2, .int .i64 l3, .int .i64 h3] 226)) fun e w' => e = .returned (.bool (inB a (l1, h1) || inB a (l2, h2) || inB a (l3, h3))) ∧ Below w.heap.size w w' := by
  subst hg
  have hg := World.alloc_heap_new w (.cells #[.int .i64 l1, .int .i64 h1, .int .i64 l2, .int .i64 h2, .int .i64 l3, .int .i64 h3] 226)
  have hB := (Below.refl w.heap.size w).alloc (Nat.le_refl _) (.cells #[.int .i64 l1, .int .i64 h1, .int .i64 l2, .int .i64 h2, .int .i64 l3, .int .i64 h3] 226)
  refine (cwithin a w.heap.size [(l1, h1), (l2, h2), (l3, h3)] _ (by simp) (fun j hj => ?_) (by simp)).mono ?_
  · have hj' : j = 0 ∨ j = 1 ∨ j = 2 := by simp at hj; omega
    rcases hj' with rfl | rfl | rfl <;> exact ⟨by rw [cell_of_row _ _ _ _ _ _ hg]; rfl, by rw [cell_of_row _ _ _ _ _ _ hg]; rfl⟩
  · rintro e w' ⟨rfl, hb⟩
    exact ⟨ret_bool (by simp [Bool.or_assoc]), hB.trans (hb.mono (by simp))⟩
theorem host_in {a : Int} (h : inB a (16777216, 3758096383) = true) : hostB a = !(inB a (2130706432, 2147483647)) := by
  have h1 : 16777216 ≤ a ∧ a ≤ 3758096383 := of_decide_eq_true h
  by_cases h2 : 2130706432 ≤ a ∧ a ≤ 2147483647
  · rw [show inB a (2130706432, 2147483647) = true from decide_eq_true h2]
    exact decide_eq_false (by omega)
  · rw [show inB a (2130706432, 2147483647) = false from decide_eq_false h2]
    exact decide_eq_true (by omega)
theorem host_out {a : Int} (h : inB a (16777216, 3758096383) = false) : hostB a = false := by
  have h1 : ¬ (16777216 ≤ a ∧ a ≤ 3758096383) := of_decide_eq_false h
  exact decide_eq_false (by omega)
theorem priv_in (a : Int) : privB a = (inB a (167772160, 184549375) || inB a (2886729728, 2887778303) || inB a (3232235520, 3232301055)) := by
  simp only [privB, inB, Bool.decide_or, Bool.or_assoc]
theorem c3host (a : Int) (w : World) : Calls Try.prog 116 #[.int .i64 a] w fun e w' => e = .returned (.bool (hostB a)) ∧ Below w.heap.size w w' := by
  by_cases h : inB a (16777216, 3758096383) = true
  · have HR := Lib.hid (host_in h)
    go_enter Try.func116, Try.ntmps116
    go_wp2_with (first
      | (go_at_call 161; refine (cw1 a 2130706432 2147483647 _ w1 rfl).mono ?_; rintro e w2 ⟨rfl, b2⟩)
      | (go_at_call 161; refine (cw1 a 16777216 3758096383 _ w rfl).mono ?_; rintro e w1 ⟨rfl, b1⟩))
    go_ret
    exact ⟨ret_bool HR.out.symm, b1.trans (b2.mono b1.size)⟩
  · have h' : inB a (16777216, 3758096383) = false := by simpa using h
    have HR := Lib.hid (host_out h')
    go_enter Try.func116, Try.ntmps116
    go_wp2_with (first
      | (go_at_call 161; refine (cw1 a 16777216 3758096383 _ w rfl).mono ?_; rintro e w1 ⟨rfl, b1⟩))
    go_ret
    exact ⟨ret_bool HR.out.symm, b1⟩
end Go.Proofs.Ytogidfagkgccmaa

/-
  What the code of layer 20 asks of a config. Conditions are each theorem's own.
-/
namespace Go.Proofs.Ytogidfagkgccmaa
open Go.RowKit Go.Shelf
/-- A config in a box that the call made. -/
structure BoxC (w W : World) (q : Cfg) : Prop where
  bel : Below w.heap.size w W
  at_ : AtC W w.heap.size q
  lt : w.heap.size < W.heap.size
theorem BoxC.mk' (w : World) (q : Cfg) : BoxC w (w.alloc (.cells (cfa q) 74)) q := ⟨(Below.refl _ w).alloc (Nat.le_refl _) _, AtC.new w q _, by simp⟩
theorem BoxC.more {w W W' : World} {q : Cfg} (h : BoxC w W q) (b : Below W.heap.size W W') : BoxC w W' q := ⟨h.bel.trans (b.mono h.bel.size), h.at_.below b h.lt, Nat.lt_of_lt_of_le h.lt b.size⟩
theorem BoxC.mem {w W : World} {q : Cfg} {B : Nat} (h : BoxC w W q) (hm : MemC w B q) (hB : B ≤ w.heap.size) : MemC W B q := hm.below (h.bel.mono hB)
theorem newB (w : World) (bs : List Bnd) (cells : Array Value) (hc : cells.toList = bs.flatMap clB) : RdS clB 3 (w.alloc (.cells cells 185)) (w.heap.size + 1) (some ⟨w.heap.size, 0, none⟩) bs := fun _ =>
  ⟨_, 0, rfl, by omega, fun j x hx i v hv => by
    have := flat_at (cl := clB) (sz := 3) bs (fun _ _ => rfl) j x hx i v hv
    rw [← hc, Array.getElem?_toList] at this
    rw [Nat.zero_add, World.cell?_alloc_new]; exact this⟩
theorem cinn (b : Bnd) (w : World) : Calls Try.prog 167 #[.agg (clB b).toArray] w fun e w' => e = .returned (.bool (inB3 b)) ∧ Below w.heap.size w w' := by
  have hB := (Below.refl w.heap.size w).alloc (Nat.le_refl _) (.cells (clB b).toArray 185)
  have h0 : (w.alloc (.cells (clB b).toArray 185)).cell? ⟨w.heap.size, 0, none⟩ = some (.int .i64 b.n) := AtNew 0 _ rfl
  have h1 : (w.alloc (.cells (clB b).toArray 185)).cell? ⟨w.heap.size, 1, none⟩ = some (.int .i64 b.lo) := AtNew 1 _ rfl
  have h2 : (w.alloc (.cells (clB b).toArray 185)).cell? ⟨w.heap.size, 2, none⟩ = some (.int .i64 b.hi) := AtNew 2 _ rfl
  generalize (clB b).toArray = C at *
  rcases h3 : decide (b.lo ≤ b.n) with _ | _
  · have HR := Lib.hid (show inB3 b = false by rw [inB3, inn, h3]; rfl)
    go_enter Try.func167, Try.ntmps167
    go_wp2
    go_ret
    exact ⟨ret_bool HR.out.symm, hB⟩
  · have HR := Lib.hid (show decide (b.n ≤ b.hi) = inB3 b by rw [inB3, inn, h3]; rfl)
    go_enter Try.func167, Try.ntmps167
    go_wp2
    go_ret
    exact ⟨ret_bool HR.out, hB⟩
set_option maxRecDepth 100000 in
theorem c20within (g : Nat) (bs : List Bnd) (w : World) (n : Nat) (hn : n = bs.length) (hr : RdS clB 3 w (g + 1) (some ⟨g, 0, none⟩) bs) (hg : g < w.heap.size) (hl : bs.length ≤ 1000) :
    Calls Try.prog 121 #[.slice (some ⟨g, 0, none⟩) n n] w fun e w' => e = .returned (.bool (bs.all inB3)) ∧ Below w.heap.size w w' := by
  subst hn
  have hcall := Lib.hid (allBnd 167 #[] inB3 (some ⟨g, 0, none⟩) bs.length bs (g + 1) w (fun _ _ => rfl) hr hg (by omega) (fun W x _ _ => cinn x W))
  generalize bs.all inB3 = R at hcall ⊢
  clear hr
  go_enter Try.func121, Try.ntmps121
  go_wp2_with (go_at_call 166; refine hcall.out.mono ?_; rintro e w' ⟨rfl, hb'⟩)
  go_ret
  exact ⟨rfl, hb'⟩
theorem cproto (p : Int) (w : World) : Calls Try.prog 173 #[.int .i64 p] w fun e w' => e = .returned (.bool (protoB p)) ∧ Below w.heap.size w w' := by
  by_cases h1 : p = 1
  · subst h1
    go_enter Try.func173, Try.ntmps173
    go_wp2
    go_ret
    exact ⟨rfl, Below.refl _ _⟩
  by_cases h2 : p = 6
  · subst h2
    go_enter Try.func173, Try.ntmps173
    go_wp2
    go_ret
    exact ⟨rfl, Below.refl _ _⟩
  have HR := Lib.hid (show decide (p = 17) = protoB p by simp [protoB, h1, h2])
  have e1 : (p == 1) = false := by simpa using h1
  have e2 : (p == 6) = false := by simpa using h2
  go_enter Try.func173, Try.ntmps173
  go_wp2
  go_ret
  exact ⟨ret_bool (by rw [← HR.out]; rfl), Below.refl _ _⟩
def hasI (l : List Int) (v : Int) : Bool := l.contains v
theorem hasI_cons (x : Int) (l : List Int) (v : Int) : hasI (x :: l) v = (v == x || hasI l v) := by rw [hasI, List.contains_cons]; rfl
theorem conI (A : Option Addr) (c : Nat) (l : List Int) (v : Int) (B : Nat) (w : World) (hr : RdI w B A l) (hl : l.length ≤ 100000) :
    Calls Try.prog 117 #[.slice A l.length c, .int .i64 v] w fun e w' => e = .returned (.bool (hasI l v)) ∧ w = w' := by
  have hcall : Calls Try.prog 162 #[.slice A l.length c, .int .i64 v] w fun e w' => (∃ k : Int, e = .returned (.int .i64 k) ∧ decide (0 ≤ k) = hasI l v ∧ (-1 ≤ k ∧ k ≤ 100000)) ∧ w = w' := by
    obtain ⟨n, hn⟩ : ∃ n, n = l.length := ⟨_, rfl⟩
    have HN := Lib.hid hn
    have HR := Lib.hid hr
    rw [← hn] at hl ⊢
    clear hn hr
    go_enter Try.func162, Try.ntmps162
    go_wp2
    go_loop [8] (fun s8 => ∃ kk : Nat, kk ≤ n ∧ s8 = .int .i64 kk ∧ Hid (hasI l v = hasI (l.drop kk) v)) (fun i => n - (intOf i).toNat)
    case atStart => exact ⟨0, Nat.zero_le _, rfl, Lib.hid rfl⟩
    case round =>
      obtain ⟨kk, hkk, rfl, HE⟩ := hrel
      by_cases hlt : kk < n
      · obtain ⟨x, hx⟩ : ∃ x, l[kk]? = some x := ⟨_, List.getElem?_eq_getElem (by rw [← HN.out]; exact hlt)⟩
        obtain ⟨b1, o1, rfl, hb1, hrow⟩ := int_row HR.out hx
        have HXD : Hid (l.drop kk = x :: l.drop (kk + 1)) := Lib.hid (by
          have hk : kk < l.length := by rw [← HN.out]; exact hlt
          rw [List.drop_eq_getElem_cons hk]
          rw [List.getElem?_eq_getElem hk] at hx
          rw [Option.some.inj hx])
        clear hx
        by_cases he : v = x
        · subst he
          go_wp2
          go_ret
          exact ⟨⟨kk, rfl, by rw [HE.out, HXD.out, hasI_cons]; simp, by omega, by omega⟩, rfl⟩
        · have he1 : (v == x) = false := by simpa using he
          have he2 : (x == v) = false := by simpa using fun e => he e.symm
          have HQ := Lib.hid he
          clear he
          go_wp2
          go_round
          case rel => exact ⟨kk + 1, by omega, by simp, Lib.hid (by rw [HE.out, HXD.out, hasI_cons, he1, Bool.false_or])⟩
          case measure => simp [intOf]; omega
      · obtain rfl : n = kk := by omega
        go_wp2
        go_ret
        exact ⟨⟨-1, rfl, by rw [HE.out, List.drop_eq_nil_of_le (by rw [← HN.out]; exact Nat.le_refl _)]; rfl, by omega, by omega⟩, rfl⟩
  generalize hR : hasI l v = R at hcall ⊢
  clear hr hR
  have hcall := Lib.hid hcall
  go_enter Try.func117, Try.ntmps117
  go_wp2_with (go_at_call 162; refine hcall.out.mono ?_; rintro e w' ⟨⟨k, rfl, hk, hk0, hk1⟩, rfl⟩; have HK := Lib.hid hk; clear hk)
  go_ret
  exact ⟨by rw [← HK.out]; rfl, rfl⟩
set_option maxRecDepth 100000 in
set_option maxHeartbeats 2000000 in
theorem c20ad (q : Cfg) (B : Nat) (w : World) (hq : Fits q) (hm : MemC w B q) (hB : B ≤ w.heap.size) :
    Calls Try.prog 80 #[.agg (cfa q)] w fun e w' => e = .returned (.bool (adC q)) ∧ Below w.heap.size w w' := by
  have hW0 := BoxC.mk' w q
  generalize hWW : w.alloc (.cells (cfa q) 74) = W at hW0
  have hz := hW0.lt
  have a16 := hq.aftr
  have k1 : W.cell? ⟨w.heap.size, 16, none⟩ = some (.slice q.A1 q.sws.length q.c1) := hW0.at_.at_ a16 (j := 0) rfl
  have k2 : W.cell? ⟨w.heap.size, 17, none⟩ = some (.slice q.A2 q.pool.length q.c2) := hW0.at_.at_ a16 (j := 1) rfl
  have l1 := hq.n1
  have l2 := hq.n2
  have s16 := hq.sws
  rcases h0 : host6 q.aftr with _ | _
  · have H0 := Lib.hid h0
    have HR : Hid (adC q = false) := Lib.hid (by rw [show adC q = (host6 q.aftr && [(⟨q.sws.length, 1, 64⟩ : Bnd), ⟨q.pool.length, 1, 16⟩].all inB3 && q.sws.all host6 && q.pool.all hostB) by simp [adC, inB3], H0.out]; simp)
    clear h0
    go_enter Try.func80, Try.ntmps80
    go_upto_region 1 with fail
    try rw [hWW]
    clear hWW
    go_wp2_with (first
      | ((with_reducible show wpList _ _ _ (Oper.mk _ (Op.load 70 _) _ _ _ _ :: _) _ _); refine wpList_val rfl (ld_six rfl rfl (hW0.at_.six a16) (by rw [row_length]; exact a16)) ?_)
      | (go_at_call 120; refine (c4host q.aftr a16 W).mono ?_; rintro e w1 ⟨rfl, b1⟩; rw [H0.out]; have hW1 := hW0.more b1; have k1' := (b1.cell (p := ⟨w.heap.size, 16, none⟩) hz).trans k1; have k2' := (b1.cell (p := ⟨w.heap.size, 17, none⟩) hz).trans k2))
    all_goals (go_ret; exact ⟨ret_bool HR.out.symm, hW0.bel.trans (b1.mono hW0.bel.size)⟩)
  · have H0 := Lib.hid h0
    clear h0
    rcases h1 : [(⟨q.sws.length, 1, 64⟩ : Bnd), ⟨q.pool.length, 1, 16⟩].all inB3 with _ | _
    · have H1 := Lib.hid h1
      have HR : Hid (adC q = false) := Lib.hid (by rw [show adC q = (host6 q.aftr && [(⟨q.sws.length, 1, 64⟩ : Bnd), ⟨q.pool.length, 1, 16⟩].all inB3 && q.sws.all host6 && q.pool.all hostB) by simp [adC, inB3], H0.out, H1.out]; simp)
      clear h1
      go_enter Try.func80, Try.ntmps80
      go_upto_region 1 with fail
      try rw [hWW]
      clear hWW
      go_wp2_with (first
        | ((with_reducible show wpList _ _ _ (Oper.mk _ (Op.load 70 _) _ _ _ _ :: _) _ _); refine wpList_val rfl (ld_six rfl rfl (hW0.at_.six a16) (by rw [row_length]; exact a16)) ?_)
        | (go_at_call 120; refine (c4host q.aftr a16 W).mono ?_; rintro e w1 ⟨rfl, b1⟩; rw [H0.out]; have hW1 := hW0.more b1; have k1' := (b1.cell (p := ⟨w.heap.size, 16, none⟩) hz).trans k1; have k2' := (b1.cell (p := ⟨w.heap.size, 17, none⟩) hz).trans k2)
        | (go_at_call 121; refine (c20within w1.heap.size [⟨q.sws.length, 1, 64⟩, ⟨q.pool.length, 1, 16⟩] _ 2 rfl (newB w1 _ _ rfl) (by simp) (by simp)).mono ?_; rintro e w2 ⟨rfl, b2'⟩; rw [H1.out]; have b2 : Below w1.heap.size w1 w2 := ((Below.refl _ w1).alloc (Nat.le_refl _) _).trans (b2'.mono (by simp)); clear b2'; have hW2 := hW1.more b2; have k1'' := (b2.cell (p := ⟨w.heap.size, 16, none⟩) hW1.lt).trans k1'; have k2'' := (b2.cell (p := ⟨w.heap.size, 17, none⟩) hW1.lt).trans k2'))
      all_goals (go_ret; exact ⟨ret_bool HR.out.symm, hW1.bel.trans (b2.mono hW1.bel.size)⟩)
    · have H1 := Lib.hid h1
      clear h1
      rcases h2 : q.sws.all host6 with _ | _
      · have H2 := Lib.hid h2
        have HR : Hid (adC q = false) := Lib.hid (by rw [show adC q = (host6 q.aftr && [(⟨q.sws.length, 1, 64⟩ : Bnd), ⟨q.pool.length, 1, 16⟩].all inB3 && q.sws.all host6 && q.pool.all hostB) by simp [adC, inB3], H0.out, H1.out, H2.out]; simp)
        clear h2
        go_enter Try.func80, Try.ntmps80
        go_upto_region 1 with fail
        try rw [hWW]
        clear hWW
        go_wp2_with (first
          | ((with_reducible show wpList _ _ _ (Oper.mk _ (Op.load 70 _) _ _ _ _ :: _) _ _); refine wpList_val rfl (ld_six rfl rfl (hW0.at_.six a16) (by rw [row_length]; exact a16)) ?_)
          | (go_at_call 120; refine (c4host q.aftr a16 W).mono ?_; rintro e w1 ⟨rfl, b1⟩; rw [H0.out]; have hW1 := hW0.more b1; have k1' := (b1.cell (p := ⟨w.heap.size, 16, none⟩) hz).trans k1; have k2' := (b1.cell (p := ⟨w.heap.size, 17, none⟩) hz).trans k2)
          | (go_at_call 121; refine (c20within w1.heap.size [⟨q.sws.length, 1, 64⟩, ⟨q.pool.length, 1, 16⟩] _ 2 rfl (newB w1 _ _ rfl) (by simp) (by simp)).mono ?_; rintro e w2 ⟨rfl, b2'⟩; rw [H1.out]; have b2 : Below w1.heap.size w1 w2 := ((Below.refl _ w1).alloc (Nat.le_refl _) _).trans (b2'.mono (by simp)); clear b2'; have hW2 := hW1.more b2; have k1'' := (b2.cell (p := ⟨w.heap.size, 16, none⟩) hW1.lt).trans k1'; have k2'' := (b2.cell (p := ⟨w.heap.size, 17, none⟩) hW1.lt).trans k2')
          | (go_at_call 122; refine (allSix 120 #[] host6 q.A1 q.c1 q.sws B w2 (fun _ _ => rfl) (hW2.mem hm hB).sws (Nat.le_trans hB hW2.bel.size) (by omega) s16 (fun V x hx _ => c4host x (s16 x hx) V)).mono ?_; rintro e w3 ⟨rfl, b3⟩; rw [H2.out]; have hW3 := hW2.more b3; have k2''' := (b3.cell (p := ⟨w.heap.size, 17, none⟩) hW2.lt).trans k2''))
        all_goals (go_ret; exact ⟨ret_bool HR.out.symm, hW2.bel.trans (b3.mono hW2.bel.size)⟩)
      · have H2 := Lib.hid h2
        clear h2
        rcases h3 : q.pool.all hostB with _ | _
        · have H3 := Lib.hid h3
          have HR : Hid (adC q = false) := Lib.hid (by rw [show adC q = (host6 q.aftr && [(⟨q.sws.length, 1, 64⟩ : Bnd), ⟨q.pool.length, 1, 16⟩].all inB3 && q.sws.all host6 && q.pool.all hostB) by simp [adC, inB3], H0.out, H1.out, H2.out, H3.out]; simp)
          clear h3
          go_enter Try.func80, Try.ntmps80
          go_upto_region 1 with fail
          try rw [hWW]
          clear hWW
          go_wp2_with (first
            | ((with_reducible show wpList _ _ _ (Oper.mk _ (Op.load 70 _) _ _ _ _ :: _) _ _); refine wpList_val rfl (ld_six rfl rfl (hW0.at_.six a16) (by rw [row_length]; exact a16)) ?_)
            | (go_at_call 120; refine (c4host q.aftr a16 W).mono ?_; rintro e w1 ⟨rfl, b1⟩; rw [H0.out]; have hW1 := hW0.more b1; have k1' := (b1.cell (p := ⟨w.heap.size, 16, none⟩) hz).trans k1; have k2' := (b1.cell (p := ⟨w.heap.size, 17, none⟩) hz).trans k2)
            | (go_at_call 121; refine (c20within w1.heap.size [⟨q.sws.length, 1, 64⟩, ⟨q.pool.length, 1, 16⟩] _ 2 rfl (newB w1 _ _ rfl) (by simp) (by simp)).mono ?_; rintro e w2 ⟨rfl, b2'⟩; rw [H1.out]; have b2 : Below w1.heap.size w1 w2 := ((Below.refl _ w1).alloc (Nat.le_refl _) _).trans (b2'.mono (by simp)); clear b2'; have hW2 := hW1.more b2; have k1'' := (b2.cell (p := ⟨w.heap.size, 16, none⟩) hW1.lt).trans k1'; have k2'' := (b2.cell (p := ⟨w.heap.size, 17, none⟩) hW1.lt).trans k2')
            | (go_at_call 122; refine (allSix 120 #[] host6 q.A1 q.c1 q.sws B w2 (fun _ _ => rfl) (hW2.mem hm hB).sws (Nat.le_trans hB hW2.bel.size) (by omega) s16 (fun V x hx _ => c4host x (s16 x hx) V)).mono ?_; rintro e w3 ⟨rfl, b3⟩; rw [H2.out]; have hW3 := hW2.more b3; have k2''' := (b3.cell (p := ⟨w.heap.size, 17, none⟩) hW2.lt).trans k2'')
            | (go_at_call 123; refine (allInt 116 #[] hostB q.A2 q.c2 q.pool B w3 (fun _ _ => rfl) (hW3.mem hm hB).pool (Nat.le_trans hB hW3.bel.size) (by omega) (fun V x _ _ => c3host x V)).mono ?_; rintro e w4 ⟨rfl, b4⟩; rw [H3.out]))
          all_goals (go_ret; exact ⟨ret_bool HR.out.symm, hW3.bel.trans (b4.mono hW3.bel.size)⟩)
        · have H3 := Lib.hid h3
          clear h3
          have HR : Hid (adC q = true) := Lib.hid (by rw [show adC q = (host6 q.aftr && [(⟨q.sws.length, 1, 64⟩ : Bnd), ⟨q.pool.length, 1, 16⟩].all inB3 && q.sws.all host6 && q.pool.all hostB) by simp [adC, inB3], H0.out, H1.out, H2.out, H3.out]; simp)
          go_enter Try.func80, Try.ntmps80
          go_upto_region 1 with fail
          try rw [hWW]
          clear hWW
          go_wp2_with (first
            | ((with_reducible show wpList _ _ _ (Oper.mk _ (Op.load 70 _) _ _ _ _ :: _) _ _); refine wpList_val rfl (ld_six rfl rfl (hW0.at_.six a16) (by rw [row_length]; exact a16)) ?_)
            | (go_at_call 120; refine (c4host q.aftr a16 W).mono ?_; rintro e w1 ⟨rfl, b1⟩; rw [H0.out]; have hW1 := hW0.more b1; have k1' := (b1.cell (p := ⟨w.heap.size, 16, none⟩) hz).trans k1; have k2' := (b1.cell (p := ⟨w.heap.size, 17, none⟩) hz).trans k2)
            | (go_at_call 121; refine (c20within w1.heap.size [⟨q.sws.length, 1, 64⟩, ⟨q.pool.length, 1, 16⟩] _ 2 rfl (newB w1 _ _ rfl) (by simp) (by simp)).mono ?_; rintro e w2 ⟨rfl, b2'⟩; rw [H1.out]; have b2 : Below w1.heap.size w1 w2 := ((Below.refl _ w1).alloc (Nat.le_refl _) _).trans (b2'.mono (by simp)); clear b2'; have hW2 := hW1.more b2; have k1'' := (b2.cell (p := ⟨w.heap.size, 16, none⟩) hW1.lt).trans k1'; have k2'' := (b2.cell (p := ⟨w.heap.size, 17, none⟩) hW1.lt).trans k2')
            | (go_at_call 122; refine (allSix 120 #[] host6 q.A1 q.c1 q.sws B w2 (fun _ _ => rfl) (hW2.mem hm hB).sws (Nat.le_trans hB hW2.bel.size) (by omega) s16 (fun V x hx _ => c4host x (s16 x hx) V)).mono ?_; rintro e w3 ⟨rfl, b3⟩; rw [H2.out]; have hW3 := hW2.more b3; have k2''' := (b3.cell (p := ⟨w.heap.size, 17, none⟩) hW2.lt).trans k2'')
            | (go_at_call 123; refine (allInt 116 #[] hostB q.A2 q.c2 q.pool B w3 (fun _ _ => rfl) (hW3.mem hm hB).pool (Nat.le_trans hB hW3.bel.size) (by omega) (fun V x _ _ => c3host x V)).mono ?_; rintro e w4 ⟨rfl, b4⟩; rw [H3.out]))
          all_goals (go_ret; exact ⟨ret_bool HR.out.symm, hW3.bel.trans (b4.mono hW3.bel.size)⟩)
end Go.Proofs.Ytogidfagkgccmaa

/-
  The document's plain answers of layer 20: numbers, the pool. Conditions are each theorem's own.
-/
namespace Go.Proofs.Ytogidfagkgccmaa
open Go.RowKit Go.Shelf
theorem r20in (n lo hi : Int) (w : World) : Calls Try.prog 137 #[.int .i64 n, .int .i64 lo, .int .i64 hi] w fun e w' => e = .returned (.bool (inn n lo hi)) ∧ w = w' := by
  rcases h : decide (lo ≤ n) with _ | _
  · have HR := Lib.hid (show inn n lo hi = false by rw [inn, h]; rfl)
    go_enter Try.func137, Try.ntmps137
    go_wp2
    go_ret
    exact ⟨ret_bool HR.out.symm, rfl⟩
  · have HR := Lib.hid (show decide (n ≤ hi) = inn n lo hi by rw [inn, h]; rfl)
    go_enter Try.func137, Try.ntmps137
    go_wp2
    go_ret
    exact ⟨ret_bool HR.out, rfl⟩
set_option maxRecDepth 100000 in
theorem r20pool (v : Int) (q : Cfg) (B : Nat) (w : World) (hq : Fits q) (hm : MemC w B q) (hB : B ≤ w.heap.size) :
    Calls Try.prog 174 #[.agg (cfa q), .int .i64 v] w fun e w' => e = .returned (.bool (hasI q.pool v)) ∧ Below w.heap.size w w' := by
  have hW0 := BoxC.mk' w q
  generalize hWW : w.alloc (.cells (cfa q) 74) = W at hW0
  have hz := hW0.lt
  have a16 := hq.aftr
  have k2 : W.cell? ⟨w.heap.size, 17, none⟩ = some (.slice q.A2 q.pool.length q.c2) := hW0.at_.at_ a16 (j := 1) rfl
  have hm1 := Lib.hid (hW0.mem hm hB).pool
  obtain ⟨n, hn⟩ : ∃ n, n = q.pool.length := ⟨_, rfl⟩
  have HN := Lib.hid hn
  have hl : n ≤ 1000 := by rw [hn]; exact hq.n2
  rw [← hn] at k2
  clear hn
  go_enter Try.func174, Try.ntmps174
  go_wp2
  try rw [hWW]
  clear hWW
  go_loop [5] (fun s5 => ∃ kk : Nat, kk ≤ n ∧ s5 = .int .i64 kk ∧ Hid (hasI q.pool v = hasI (q.pool.drop kk) v)) (fun i => n - (intOf i).toNat)
  case atStart => exact ⟨0, Nat.zero_le _, rfl, Lib.hid rfl⟩
  case round =>
    obtain ⟨kk, hkk, rfl, HE⟩ := hrel
    by_cases hlt : kk < n
    · obtain ⟨x, hx⟩ : ∃ x, q.pool[kk]? = some x := ⟨_, List.getElem?_eq_getElem (by rw [← HN.out]; exact hlt)⟩
      obtain ⟨b1, o1, ea, hb1, hrow⟩ := int_row hm1.out hx
      rw [ea] at k2
      have HXD : Hid (q.pool.drop kk = x :: q.pool.drop (kk + 1)) := Lib.hid (by
        have hk : kk < q.pool.length := by rw [← HN.out]; exact hlt
        rw [List.drop_eq_getElem_cons hk]
        rw [List.getElem?_eq_getElem hk] at hx
        rw [Option.some.inj hx])
      clear hx ea
      by_cases he : v = x
      · subst he
        go_wp2
        go_ret
        exact ⟨ret_bool (by rw [HE.out, HXD.out, hasI_cons]; simp), hW0.bel⟩
      · have he1 : (v == x) = false := by simpa using he
        have he2 : (x == v) = false := by simpa using fun e => he e.symm
        clear he
        go_wp2
        go_round
        case rel => exact ⟨kk + 1, by omega, by simp, Lib.hid (by rw [HE.out, HXD.out, hasI_cons, he1, Bool.false_or])⟩
        case measure => simp [intOf]; omega
    · obtain rfl : n = kk := by omega
      go_wp2
      go_ret
      exact ⟨ret_bool (by rw [HE.out, List.drop_eq_nil_of_le (by rw [← HN.out]; exact Nat.le_refl _)]; rfl), hW0.bel⟩
end Go.Proofs.Ytogidfagkgccmaa
