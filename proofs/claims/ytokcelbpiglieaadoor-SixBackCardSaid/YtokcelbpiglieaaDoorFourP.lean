/-
  What a part of an address's text is, in plain lists of bytes, and the project's function that reads one; its loops over arrays and blocks. Conditions are each theorem's own.
-/
import Derived.Test.YtokcelbpiglieaaDoorFourK
import Derived.Test.YtokcelbpiglieaaDoorCutM
import Derived.Lib.Strings
namespace Go.Proofs.YtokcelbpiglieaaDoor
open Go.RowKit

def dval (l : List UInt8) : Nat := l.foldl (fun n c => n * 10 + (c.toNat - 48)) 0
def isd (c : UInt8) : Prop := 48 ≤ c.toNat ∧ c.toNat ≤ 57
theorem dval_snoc (l : List UInt8) (c : UInt8) : dval (l ++ [c]) = dval l * 10 + (c.toNat - 48) := by simp [dval]
theorem dig_nat {d : Nat} (h : d < 10) : (UInt8.ofNat (48 + d)).toNat = 48 + d := by simp [UInt8.toNat_ofNat']; omega
theorem dig_of {c : UInt8} (h : isd c) : c = UInt8.ofNat (48 + (c.toNat - 48)) := UInt8.toNat_inj.1 (by obtain ⟨h1, h2⟩ := h; rw [dig_nat (by omega)]; omega)
/-- The digits of a number below 256. -/
theorem dec_facts {n : Nat} (h : n < 256) : (∀ c ∈ dec n, isd c) ∧ dval (dec n) = n ∧ 1 ≤ (dec n).length ∧ (dec n).length ≤ 3 ∧ ((dec n)[0]? = some 48 → dec n = [48]) := by
  have hl := @dec_len n
  refine ⟨?_, ?_, hl.1, hl.2, ?_⟩
  · intro c hc
    unfold dec at hc
    split at hc
    · simp only [List.mem_singleton] at hc; subst hc; unfold isd; rw [dig_nat (by omega)]; omega
    · split at hc
      · simp only [List.mem_cons, List.not_mem_nil, or_false] at hc
        rcases hc with rfl | rfl <;> (unfold isd; rw [dig_nat (by omega)]; omega)
      · simp only [List.mem_cons, List.not_mem_nil, or_false] at hc
        rcases hc with rfl | rfl | rfl <;> (unfold isd; rw [dig_nat (by omega)]; omega)
  · unfold dec
    split
    · simp only [dval, List.foldl_cons, List.foldl_nil]; rw [dig_nat (by omega)]; omega
    · split
      · simp only [dval, List.foldl_cons, List.foldl_nil]; rw [dig_nat (by omega), dig_nat (by omega)]; omega
      · simp only [dval, List.foldl_cons, List.foldl_nil]; rw [dig_nat (by omega), dig_nat (by omega), dig_nat (by omega)]; omega
  · intro h0
    have key : ∀ d, d < 10 → UInt8.ofNat (48 + d) = 48 → d = 0 := fun d hd e => by have := congrArg UInt8.toNat e; rw [dig_nat hd] at this; simp at this; omega
    unfold dec at h0 ⊢
    split at h0
    · rename_i hn
      simp only [List.getElem?_cons_zero, Option.some.injEq] at h0
      rw [if_pos hn, h0]
    · split at h0
      · simp only [List.getElem?_cons_zero, Option.some.injEq] at h0
        have := key _ (by omega) h0; omega
      · simp only [List.getElem?_cons_zero, Option.some.injEq] at h0
        have := key _ (by omega) h0; omega
/-- Digits, none ahead too many: the digits of their number. -/
theorem dec_of {l : List UInt8} (hd : ∀ c ∈ l, isd c) (h1 : 1 ≤ l.length) (h3 : l.length ≤ 3) (h0 : l[0]? = some 48 → l = [48]) (hv : dval l ≤ 255) : dec (dval l) = l := by
  match l, hd, h1, h3, h0, hv with
  | [a], hd, _, _, _, _ =>
    have ha := hd a (by simp)
    have e : dval [a] = a.toNat - 48 := by simp [dval]
    obtain ⟨k1, k2⟩ := id ha
    rw [e, dec, if_pos (by omega), ← dig_of ha]
  | [a, b], hd, _, _, h0, _ =>
    have ha := hd a (by simp); have hb := hd b (by simp)
    have e : dval [a, b] = (a.toNat - 48) * 10 + (b.toNat - 48) := by simp [dval]
    have hne : a.toNat ≠ 48 := fun e' => by
      have : a = 48 := UInt8.toNat_inj.1 e'
      subst this
      have := h0 rfl
      simp at this
    obtain ⟨k1, k2⟩ := id ha; obtain ⟨k3, k4⟩ := id hb
    rw [e, dec, if_neg (by omega), if_pos (by omega)]
    rw [show ((a.toNat - 48) * 10 + (b.toNat - 48)) / 10 = a.toNat - 48 from by omega, show ((a.toNat - 48) * 10 + (b.toNat - 48)) % 10 = b.toNat - 48 from by omega, ← dig_of ha, ← dig_of hb]
  | [a, b, c], hd, _, _, h0, _ =>
    have ha := hd a (by simp); have hb := hd b (by simp); have hc := hd c (by simp)
    have e : dval [a, b, c] = ((a.toNat - 48) * 10 + (b.toNat - 48)) * 10 + (c.toNat - 48) := by simp [dval]
    have hne : a.toNat ≠ 48 := fun e' => by
      have : a = 48 := UInt8.toNat_inj.1 e'
      subst this
      have := h0 rfl
      simp at this
    obtain ⟨k1, k2⟩ := id ha; obtain ⟨k3, k4⟩ := id hb; obtain ⟨k5, k6⟩ := id hc
    rw [e, dec, if_neg (by omega), if_neg (by omega)]
    rw [show (((a.toNat - 48) * 10 + (b.toNat - 48)) * 10 + (c.toNat - 48)) / 100 = a.toNat - 48 from by omega, show (((a.toNat - 48) * 10 + (b.toNat - 48)) * 10 + (c.toNat - 48)) / 10 % 10 = b.toNat - 48 from by omega,
      show (((a.toNat - 48) * 10 + (b.toNat - 48)) * 10 + (c.toNat - 48)) % 10 = c.toNat - 48 from by omega, ← dig_of ha, ← dig_of hb, ← dig_of hc]
theorem dec_dot {n : Nat} (h : n < 256) : (46 : UInt8) ∉ dec n := fun hm => by
  have := ((dec_facts h).1 46 hm).1
  simp at this
theorem dec_inj {a b : Nat} (ha : a < 256) (hb : b < 256) (h : dec a = dec b) : a = b := by
  rw [← (dec_facts ha).2.1, h, (dec_facts hb).2.1]

/-- The byte whose digits these are, and is there one. -/
noncomputable def rdV (l : List UInt8) : Int := by classical exact if ∃ n, n < 256 ∧ dec n = l then (dval l : Int) else 0
noncomputable def rdO (l : List UInt8) : Bool := by classical exact decide (∃ n, n < 256 ∧ dec n = l)
theorem rd_yes {l : List UInt8} {n : Nat} (h : n < 256) (e : dec n = l) : rdV l = n ∧ rdO l = true := by
  have hex : ∃ n, n < 256 ∧ dec n = l := ⟨n, h, e⟩
  unfold rdV rdO
  rw [if_pos hex, ← e, (dec_facts h).2.1]
  exact ⟨rfl, by simpa [e] using hex⟩
theorem rd_no {l : List UInt8} (h : ¬ ∃ n, n < 256 ∧ dec n = l) : rdV l = 0 ∧ rdO l = false := by
  unfold rdV rdO
  rw [if_neg h]
  exact ⟨rfl, by simpa using h⟩
theorem rd_cases (l : List UInt8) : (∃ n, n < 256 ∧ dec n = l ∧ rdV l = n ∧ rdO l = true) ∨ ((¬ ∃ n, n < 256 ∧ dec n = l) ∧ rdV l = 0 ∧ rdO l = false) := by
  by_cases h : ∃ n, n < 256 ∧ dec n = l
  · obtain ⟨n, h1, h2⟩ := h
    exact .inl ⟨n, h1, h2, rd_yes h1 h2⟩
  · exact .inr ⟨h, rd_no h⟩

theorem ret_rd {a b : Int} {x y : Bool} (h : a = b) (h2 : x = y) : Ending.returned (.tuple #[.int .u8 a, .bool x]) = .returned (.tuple #[.int .u8 b, .bool y]) := by rw [h, h2]

set_option maxHeartbeats 1000000 in
theorem cread (s : ByteArray) (w : World) (hs : s.size ≤ 9223372036854775807) :
    Calls Tryd.prog 37 #[.string s] w fun e w' => e = .returned (.tuple #[.int .u8 (rdV s.data.toList), .bool (rdO s.data.toList)]) ∧ w = w' := by
  have hsz : s.data.toList.length = s.size := rfl
  have htl : s.toList = s.data.toList := Lib.toList_data s
  obtain ⟨l, hl⟩ : ∃ l, l = s.data.toList := ⟨_, rfl⟩
  rw [← hl] at hsz htl ⊢
  have Hl := Lib.hid hl
  have Hsz := Lib.hid hsz
  have Htl := Lib.hid htl
  clear hl hsz htl
  have HNo : (¬ ∃ n, n < 256 ∧ dec n = l) → Hid (rdV l = 0 ∧ rdO l = false) := fun h => Lib.hid (rd_no h)
  by_cases h0 : s.toList = []
  · have HN := HNo fun ⟨n, hn, e⟩ => by have := @dec_len n; rw [e, ← Htl.out, h0] at this; simp at this
    go_enter Tryd.func37, Tryd.ntmps37
    go_wp2_with fail
    go_ret2
    exact ⟨ret_rd HN.out.1.symm HN.out.2.symm, rfl⟩
  have h1 : 1 ≤ s.size := by rw [← Hsz.out, ← Htl.out]; exact List.length_pos_iff.2 h0
  have h0' : s.toList.isEmpty = false := by simpa using h0
  by_cases h3 : 3 < s.size
  · have HN := HNo fun ⟨n, hn, e⟩ => by have := @dec_len n; rw [e, Hsz.out] at this; omega
    go_enter Tryd.func37, Tryd.ntmps37
    go_wp2_with fail
    go_ret2
    exact ⟨ret_rd HN.out.1.symm HN.out.2.symm, rfl⟩
  have hget : ∀ k (hk : k < s.size), l[k]? = some s[k] := fun k hk => by
    have := Hl.out; subst this
    exact List.getElem?_eq_getElem (by rw [Hsz.out]; exact hk)
  have Hget := Lib.hid hget
  clear hget
  have hsnoc : ∀ k (hk : k < s.size), l.take (k + 1) = l.take k ++ [s[k]] := fun k hk => by
    have hk' : k < l.length := by rw [Hsz.out]; exact hk
    rw [List.take_succ_eq_append_getElem hk']
    have := Hget.out k hk
    rw [List.getElem?_eq_getElem hk'] at this
    rw [Option.some.inj this]
  have Hsnoc := Lib.hid hsnoc
  clear hsnoc
  have loop : ∀ (t0 : (s[0].toNat = 48 ∧ s.toList = [48]) ∨ s[0].toNat ≠ 48), Calls Tryd.prog 37 #[.string s] w fun e w' => e = .returned (.tuple #[.int .u8 (rdV l), .bool (rdO l)]) ∧ w = w' := by
    intro t0
    have t1 : (s[0].toNat = 48 → ((s[0].toNat : Int) == 48) = true) := fun h => by simp [h]
    have t2 : (s[0].toNat = 48 → (s.toList == [48]) = true) := fun h => by rcases t0 with h' | h'; simp [h'.2]; exact absurd h h'
    have t48 : l[0]? = some 48 → l = [48] := fun h => by
      have h1' := Hget.out 0 (by omega)
      rw [h] at h1'
      have h2 : s[0] = 48 := (Option.some.inj h1').symm
      rcases t0 with h' | h'
      · rw [← Htl.out]; exact h'.2
      · exact absurd (by rw [h2]; rfl) h'
    have T48 := Lib.hid t48
    clear t48
    rcases t0 with ⟨a1, a2⟩ | a1
    · have a3 : (s.toList == [48]) = true := t2 a1
      clear t2
      have A2 := Lib.hid a2
      clear a2
      go_enter Tryd.func37, Tryd.ntmps37
      go_wp2_with fail
      go_loop [4, 24] (fun n i => ∃ k : Nat, k ≤ s.size ∧ dval (l.take k) ≤ 10 ^ k - 1 ∧ Hid (∀ c ∈ l.take k, isd c) ∧ n = .int .i64 (dval (l.take k) : Nat) ∧ i = .int .i64 (k : Int)) (fun _ i => s.size - (intOf i).toNat)
      case atStart => exact ⟨0, Nat.zero_le _, by simp [dval], Lib.hid (by simp), rfl, rfl⟩
      case round =>
        obtain ⟨k, hk, hv, HD, rfl, rfl⟩ := hrel
        have hkk : k = 0 ∨ k = 1 ∨ k = 2 ∨ k = 3 := by omega
        have hv9 : dval (l.take k) ≤ 999 := by rcases hkk with rfl | rfl | rfl | rfl <;> exact Nat.le_trans hv (by decide)
        by_cases hlt : k < s.size
        · have HS := Lib.hid (Hsnoc.out k hlt)
          have HV : Hid (dval (l.take (k + 1)) = dval (l.take k) * 10 + (s[k].toNat - 48)) := Lib.hid (by rw [HS.out, dval_snoc])
          have HBad : ¬ isd s[k] → Hid (rdV l = 0 ∧ rdO l = false) := fun h => HNo fun ⟨n, hn, e⟩ => h ((dec_facts hn).1 _ (by rw [e]; exact List.mem_of_getElem? (Hget.out k hlt)))
          obtain ⟨v, hve⟩ : ∃ v, v = dval (l.take k) := ⟨_, rfl⟩
          rw [← hve] at hv9 ⊢
          have Hve := Lib.hid hve
          have Hv := Lib.hid hv
          clear hv hve
          by_cases d1 : 48 ≤ s[k].toNat
          · by_cases d2 : s[k].toNat ≤ 57
            · go_wp2_with fail
              go_roundw
              case rel =>
                have hvv : dval (l.take (k + 1)) = v * 10 + (s[k].toNat - 48) := by rw [HV.out, Hve.out]
                refine ⟨k + 1, by omega, ?_, Lib.hid ?_, by rw [hvv]; congr 1; omega, by simp⟩
                · have hv' := Hv.out
                  rw [← Hve.out] at hv'
                  rw [hvv, Nat.pow_succ]
                  have := Nat.one_le_two_pow (n := 0)
                  have h10 : 1 ≤ 10 ^ k := Nat.pos_of_ne_zero (by simp)
                  omega
                · intro c hc
                  rw [HS.out] at hc
                  rcases List.mem_append.1 hc with h | h
                  · exact HD.out c h
                  · rw [List.mem_singleton] at h; subst h; exact ⟨d1, d2⟩
              case measure => simp [intOf]; omega
            · have HN := HBad (fun h => d2 h.2)
              have t57 : decide (57 < (s[k].toNat : Int)) = true := by simp; omega
              go_wp2_with fail
              go_ret2
              exact ⟨ret_rd HN.out.1.symm HN.out.2.symm, rfl⟩
          · have HN := HBad (fun h => d1 h.1)
            have t48 : decide ((s[k].toNat : Int) < 48) = true := by simp; omega
            go_wp2_with fail
            go_ret2
            exact ⟨ret_rd HN.out.1.symm HN.out.2.symm, rfl⟩
        · obtain rfl : k = s.size := by omega
          have HL : Hid (l.take s.size = l) := Lib.hid (List.take_of_length_le (by rw [Hsz.out]; exact Nat.le_refl _))
          have HD' : Hid (∀ c ∈ l, isd c) := Lib.hid (by have := HD.out; rwa [HL.out] at this)
          have hvl : dval (l.take s.size) = dval l := by rw [HL.out]
          rw [hvl] at hv9 hv ⊢
          clear hvl
          by_cases hm : dval l ≤ 255
          · have HY := Lib.hid (rd_yes (l := l) (n := dval l) (by omega) (dec_of HD'.out (by rw [Hsz.out]; omega) (by rw [Hsz.out]; omega) T48.out hm))
            obtain ⟨v, hve⟩ : ∃ v, v = dval l := ⟨_, rfl⟩
            rw [← hve] at hv9 hm HY ⊢
            clear hve hv
            go_wp2_with fail
            go_ret2
            exact ⟨ret_rd (by rw [HY.out.1]) HY.out.2.symm, rfl⟩
          · have HN := HNo fun ⟨n, hn, e⟩ => hm (by have h2 := (dec_facts hn).2.1; rw [e] at h2; omega)
            obtain ⟨v, hve⟩ : ∃ v, v = dval l := ⟨_, rfl⟩
            rw [← hve] at hv9 hm ⊢
            clear hve hv
            go_wp2_with fail
            go_ret2
            exact ⟨ret_rd HN.out.1.symm HN.out.2.symm, rfl⟩
    · have a3 : ((s[0].toNat : Int) == 48) = false := by rw [beq_eq_false_iff_ne]; omega
      clear t2 t1
      go_enter Tryd.func37, Tryd.ntmps37
      go_wp2_with fail
      go_loop [4, 24] (fun n i => ∃ k : Nat, k ≤ s.size ∧ dval (l.take k) ≤ 10 ^ k - 1 ∧ Hid (∀ c ∈ l.take k, isd c) ∧ n = .int .i64 (dval (l.take k) : Nat) ∧ i = .int .i64 (k : Int)) (fun _ i => s.size - (intOf i).toNat)
      case atStart => exact ⟨0, Nat.zero_le _, by simp [dval], Lib.hid (by simp), rfl, rfl⟩
      case round =>
        obtain ⟨k, hk, hv, HD, rfl, rfl⟩ := hrel
        have hkk : k = 0 ∨ k = 1 ∨ k = 2 ∨ k = 3 := by omega
        have hv9 : dval (l.take k) ≤ 999 := by rcases hkk with rfl | rfl | rfl | rfl <;> exact Nat.le_trans hv (by decide)
        by_cases hlt : k < s.size
        · have HS := Lib.hid (Hsnoc.out k hlt)
          have HV : Hid (dval (l.take (k + 1)) = dval (l.take k) * 10 + (s[k].toNat - 48)) := Lib.hid (by rw [HS.out, dval_snoc])
          have HBad : ¬ isd s[k] → Hid (rdV l = 0 ∧ rdO l = false) := fun h => HNo fun ⟨n, hn, e⟩ => h ((dec_facts hn).1 _ (by rw [e]; exact List.mem_of_getElem? (Hget.out k hlt)))
          obtain ⟨v, hve⟩ : ∃ v, v = dval (l.take k) := ⟨_, rfl⟩
          rw [← hve] at hv9 ⊢
          have Hve := Lib.hid hve
          have Hv := Lib.hid hv
          clear hv hve
          by_cases d1 : 48 ≤ s[k].toNat
          · by_cases d2 : s[k].toNat ≤ 57
            · go_wp2_with fail
              go_roundw
              case rel =>
                have hvv : dval (l.take (k + 1)) = v * 10 + (s[k].toNat - 48) := by rw [HV.out, Hve.out]
                refine ⟨k + 1, by omega, ?_, Lib.hid ?_, by rw [hvv]; congr 1; omega, by simp⟩
                · have hv' := Hv.out
                  rw [← Hve.out] at hv'
                  rw [hvv, Nat.pow_succ]
                  have := Nat.one_le_two_pow (n := 0)
                  have h10 : 1 ≤ 10 ^ k := Nat.pos_of_ne_zero (by simp)
                  omega
                · intro c hc
                  rw [HS.out] at hc
                  rcases List.mem_append.1 hc with h | h
                  · exact HD.out c h
                  · rw [List.mem_singleton] at h; subst h; exact ⟨d1, d2⟩
              case measure => simp [intOf]; omega
            · have HN := HBad (fun h => d2 h.2)
              have t57 : decide (57 < (s[k].toNat : Int)) = true := by simp; omega
              go_wp2_with fail
              go_ret2
              exact ⟨ret_rd HN.out.1.symm HN.out.2.symm, rfl⟩
          · have HN := HBad (fun h => d1 h.1)
            have t48 : decide ((s[k].toNat : Int) < 48) = true := by simp; omega
            go_wp2_with fail
            go_ret2
            exact ⟨ret_rd HN.out.1.symm HN.out.2.symm, rfl⟩
        · obtain rfl : k = s.size := by omega
          have HL : Hid (l.take s.size = l) := Lib.hid (List.take_of_length_le (by rw [Hsz.out]; exact Nat.le_refl _))
          have HD' : Hid (∀ c ∈ l, isd c) := Lib.hid (by have := HD.out; rwa [HL.out] at this)
          have hvl : dval (l.take s.size) = dval l := by rw [HL.out]
          rw [hvl] at hv9 hv ⊢
          clear hvl
          by_cases hm : dval l ≤ 255
          · have HY := Lib.hid (rd_yes (l := l) (n := dval l) (by omega) (dec_of HD'.out (by rw [Hsz.out]; omega) (by rw [Hsz.out]; omega) T48.out hm))
            obtain ⟨v, hve⟩ : ∃ v, v = dval l := ⟨_, rfl⟩
            rw [← hve] at hv9 hm HY ⊢
            clear hve hv
            go_wp2_with fail
            go_ret2
            exact ⟨ret_rd (by rw [HY.out.1]) HY.out.2.symm, rfl⟩
          · have HN := HNo fun ⟨n, hn, e⟩ => hm (by have h2 := (dec_facts hn).2.1; rw [e] at h2; omega)
            obtain ⟨v, hve⟩ : ∃ v, v = dval l := ⟨_, rfl⟩
            rw [← hve] at hv9 hm ⊢
            clear hve hv
            go_wp2_with fail
            go_ret2
            exact ⟨ret_rd HN.out.1.symm HN.out.2.symm, rfl⟩
  by_cases c0 : s[0].toNat = 48
  · by_cases c1 : s.toList = [48]
    · exact loop (.inl ⟨c0, c1⟩)
    · have HN := HNo fun ⟨n, hn, e⟩ => by
        have hf := (dec_facts hn).2.2.2.2
        rw [e] at hf
        have hz := Hget.out 0 (by omega)
        exact c1 (by rw [Htl.out]; exact hf (by rw [hz]; exact congrArg some (UInt8.toNat_inj.1 c0)))
      have t0 : ((s[0].toNat : Int) == 48) = true := by simp [c0]
      have t1 : (s.toList == [48]) = false := by simpa using c1
      go_enter Tryd.func37, Tryd.ntmps37
      go_wp2_with fail
      go_ret2
      exact ⟨ret_rd HN.out.1.symm HN.out.2.symm, rfl⟩
  · exact loop (.inr c0)
end Go.Proofs.YtokcelbpiglieaaDoor
