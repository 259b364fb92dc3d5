/-
  Texts of numbers and of addresses of IPv4, in plain lists of bytes: no program. Conditions are each theorem's own.
-/
import Derived.Lib.Hide
namespace Go.Proofs.Ytcfcmnhnijjehaa

/-- A number below 256 in decimal digits. -/
def dec (n : Nat) : List UInt8 :=
  if n < 10 then [UInt8.ofNat (48 + n)] else if n < 100 then [UInt8.ofNat (48 + n / 10), UInt8.ofNat (48 + n % 10)] else [UInt8.ofNat (48 + n / 100), UInt8.ofNat (48 + n / 10 % 10), UInt8.ofNat (48 + n % 10)]
/-- An address's text. -/
def txt (a : Nat) : List UInt8 := dec (a / 16777216) ++ [46] ++ dec (a / 65536 % 256) ++ [46] ++ dec (a / 256 % 256) ++ [46] ++ dec (a % 256)

theorem dec_len {n : Nat} : 1 ≤ (dec n).length ∧ (dec n).length ≤ 3 := by
  unfold dec; split
  · simp
  · split <;> simp
theorem txt_len {a : Nat} : (txt a).length ≤ 15 := by
  have h1 := @dec_len (a / 16777216); have h2 := @dec_len (a / 65536 % 256); have h3 := @dec_len (a / 256 % 256); have h4 := @dec_len (a % 256)
  simp only [txt, List.length_append, List.length_singleton]; omega

/-- One step of reading a text: the parts that are done, and the part under way. -/
def pst (s : Option (Nat × Nat)) (c : UInt8) : Option (Nat × Nat) :=
  match s with
  | none => none
  | some (n, p) =>
    if c = 46 then (if n * 256 + p ≤ 16777215 then some (n * 256 + p, 0) else none)
    else if 48 ≤ c.toNat ∧ c.toNat ≤ 57 then (if p * 10 + (c.toNat - 48) ≤ 255 ∧ n ≤ 16777215 then some (n, p * 10 + (c.toNat - 48)) else none)
    else none
def pfold (s : Option (Nat × Nat)) (l : List UInt8) : Option (Nat × Nat) := l.foldl pst s
theorem pfold_append (s : Option (Nat × Nat)) (a b : List UInt8) : pfold s (a ++ b) = pfold (pfold s a) b := by simp [pfold]
theorem pfold_none (l : List UInt8) : pfold none l = none := by
  induction l with
  | nil => rfl
  | cons c l ih => simpa [pfold, pst] using ih

theorem pst_digit {n p d : Nat} (hd : d < 10) (hn : n ≤ 16777215) (hp : p * 10 + d ≤ 255) : pst (some (n, p)) (UInt8.ofNat (48 + d)) = some (n, p * 10 + d) := by
  have e : (UInt8.ofNat (48 + d)).toNat = 48 + d := by simp [UInt8.toNat_ofNat']; omega
  have h46 : UInt8.ofNat (48 + d) ≠ 46 := by intro h; have := congrArg UInt8.toNat h; rw [e] at this; simp at this; omega
  unfold pst
  simp only [h46, if_false, e]
  rw [if_pos (by omega), if_pos (by omega)]
  congr 2; omega
theorem pst_dot {n p : Nat} (h : n * 256 + p ≤ 16777215) : pst (some (n, p)) 46 = some (n * 256 + p, 0) := by simp [pst, h]
theorem pfold_dec {n d : Nat} (hn : n ≤ 16777215) (hd : d < 256) : pfold (some (n, 0)) (dec d) = some (n, d) := by
  unfold dec
  split
  · simp only [pfold, List.foldl_cons, List.foldl_nil]; rw [pst_digit (by omega) hn (by omega)]; congr 2; omega
  · split
    · simp only [pfold, List.foldl_cons, List.foldl_nil]
      rw [pst_digit (by omega) hn (by omega), pst_digit (by omega) hn (by omega)]; congr 2; omega
    · simp only [pfold, List.foldl_cons, List.foldl_nil]
      rw [pst_digit (by omega) hn (by omega), pst_digit (by omega) hn (by omega), pst_digit (by omega) hn (by omega)]; congr 2; omega
theorem pfold_txt {a : Nat} (h : a < 4294967296) : pfold (some (0, 0)) (txt a) = some (a / 256, a % 256) := by
  have dot : ∀ s, pfold s [46] = pst s 46 := fun s => rfl
  simp only [txt, pfold_append, dot]
  rw [pfold_dec (by omega) (by omega), pst_dot (by omega), pfold_dec (by omega) (by omega), pst_dot (by omega), pfold_dec (by omega) (by omega), pst_dot (by omega), pfold_dec (by omega) (by omega)]
  congr 2; omega
theorem pfold_bd : ∀ (l : List UInt8) {n p : Nat} {n0 p0 : Nat}, n0 ≤ 16777215 → p0 ≤ 255 → pfold (some (n0, p0)) l = some (n, p) → n ≤ 16777215 ∧ p ≤ 255
  | [], n, p, n0, p0, h1, h2, h => by simp [pfold] at h; omega
  | c :: l, n, p, n0, p0, h1, h2, h => by
    have h' : pfold (pst (some (n0, p0)) c) l = some (n, p) := h
    cases e : pst (some (n0, p0)) c with
    | none => rw [e, pfold_none] at h'; cases h'
    | some q =>
      obtain ⟨n1, p1⟩ := q
      rw [e] at h'
      refine pfold_bd l ?_ ?_ h'
      all_goals
        unfold pst at e
        dsimp only at e
        split at e
        · split at e
          · simp at e; omega
          · cases e
        · split at e
          · split at e
            · simp at e; omega
            · cases e
          · cases e
theorem txt_inj {a b : Nat} (ha : a < 4294967296) (hb : b < 4294967296) (h : txt a = txt b) : a = b := by
  have h1 := pfold_txt ha
  rw [h, pfold_txt hb] at h1
  simp at h1; omega

theorem pst_no {n p : Nat} {c : UInt8} (h : (c.toNat = 46 ∧ 16777215 < n * 256 + p) ∨ (c.toNat ≠ 46 ∧ (c.toNat < 48 ∨ 57 < c.toNat)) ∨ (c.toNat ≠ 46 ∧ 255 < p * 10 + (c.toNat - 48))) : pst (some (n, p)) c = none := by
  have h46 : c = 46 ↔ c.toNat = 46 := ⟨fun e => by rw [e]; rfl, fun e => UInt8.toNat_inj.1 e⟩
  unfold pst
  dsimp only
  split
  · rw [if_neg (by rw [h46] at *; omega)]
  · split
    · rw [if_neg (by rw [h46] at *; omega)]
    · rfl
theorem pst_46 {n p : Nat} {c : UInt8} (h : c.toNat = 46) (h2 : n * 256 + p ≤ 16777215) : pst (some (n, p)) c = some (n * 256 + p, 0) := by
  have : c = 46 := UInt8.toNat_inj.1 h
  subst this; exact pst_dot h2
theorem pst_dec {n p : Nat} {c : UInt8} (h : 48 ≤ c.toNat) (h2 : c.toNat ≤ 57) (h3 : p * 10 + (c.toNat - 48) ≤ 255) (hn : n ≤ 16777215) : pst (some (n, p)) c = some (n, p * 10 + (c.toNat - 48)) := by
  have e : c = UInt8.ofNat (48 + (c.toNat - 48)) := UInt8.toNat_inj.1 (by simp [UInt8.toNat_ofNat']; omega)
  have := pst_digit (n := n) (p := p) (d := c.toNat - 48) (by omega) hn h3
  rw [← e] at this
  exact this
theorem pfold_take {l : List UInt8} {k : Nat} {s : Option (Nat × Nat)} (h : k < l.length) : pfold s (l.take (k + 1)) = pst (pfold s (l.take k)) l[k] := by
  rw [List.take_succ_eq_append_getElem h, pfold_append]; rfl

/-- The address that a text is, and the error's number. -/
noncomputable def parV (s : List UInt8) : Int := by
  classical exact if h : ∃ a, a < 4294967296 ∧ txt a = s then (Classical.choose h : Nat) else 0
noncomputable def parE (s : List UInt8) : Int := by
  classical exact if ∃ a, a < 4294967296 ∧ txt a = s then 0 else 4
theorem par_yes {s : List UInt8} {a : Nat} (ha : a < 4294967296) (h : txt a = s) : parV s = a ∧ parE s = 0 := by
  have hex : ∃ a, a < 4294967296 ∧ txt a = s := ⟨a, ha, h⟩
  unfold parV parE
  rw [dif_pos hex, if_pos hex]
  obtain ⟨h1, h2⟩ := Classical.choose_spec hex
  have : Classical.choose hex = a := txt_inj h1 ha (h2.trans h.symm)
  exact ⟨by rw [this], rfl⟩
theorem par_no {s : List UInt8} (h : ¬ ∃ a, a < 4294967296 ∧ txt a = s) : parV s = 0 ∧ parE s = 4 := by
  unfold parV parE
  rw [dif_neg h, if_neg h]; exact ⟨rfl, rfl⟩
/-- What reading tells: nothing, and it is no text. -/
theorem par_none {s : List UInt8} {k : Nat} (h : pfold (some (0, 0)) (s.take k) = none) : parV s = 0 ∧ parE s = 4 := by
  refine par_no fun ⟨a, ha, e⟩ => ?_
  have h1 := pfold_txt ha
  rw [e, ← List.take_append_drop k s, pfold_append, h, pfold_none] at h1
  cases h1
theorem par_long {s : List UInt8} (h : 15 < s.length) : parV s = 0 ∧ parE s = 4 :=
  par_no fun ⟨a, _, e⟩ => by have := @txt_len a; rw [e] at this; omega
/-- A number, and the text is its text, or no text at all. -/
theorem par_end {s : List UInt8} {n p : Nat} (h : pfold (some (0, 0)) s = some (n, p)) : (txt (n * 256 + p) = s → parV s = ((n * 256 + p : Nat) : Int) ∧ parE s = 0) ∧ (txt (n * 256 + p) ≠ s → parV s = 0 ∧ parE s = 4) := by
  have hb := pfold_bd s (by omega) (by omega) h
  refine ⟨fun e => par_yes (by omega) e, fun hne => par_no fun ⟨a, ha, e⟩ => hne ?_⟩
  have h1 := pfold_txt ha
  rw [e, h] at h1
  simp at h1
  have : n * 256 + p = a := by omega
  rw [this]; exact e
/-- A text is an address's, or none's. -/
theorem par_cases (s : List UInt8) : (∃ a : Nat, a < 4294967296 ∧ txt a = s ∧ parV s = a ∧ parE s = 0) ∨ (parV s = 0 ∧ parE s = 4) := by
  by_cases h : ∃ a, a < 4294967296 ∧ txt a = s
  · obtain ⟨a, ha, e⟩ := h
    exact .inl ⟨a, ha, e, par_yes ha e⟩
  · exact .inr (par_no h)
end Go.Proofs.Ytcfcmnhnijjehaa
