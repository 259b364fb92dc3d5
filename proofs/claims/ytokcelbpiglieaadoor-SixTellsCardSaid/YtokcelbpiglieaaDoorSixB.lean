/-
  What a word's digits are, in plain lists of bytes, and the project's functions that read them: digit, read. Conditions are each theorem's own.
-/
import Derived.Test.YtokcelbpiglieaaDoorSixA
import Derived.Test.YtokcelbpiglieaaDoorCutM
import Derived.Lib.Strings
namespace Go.Proofs.YtokcelbpiglieaaDoor
open Go.RowKit

def ishx (c : UInt8) : Prop := (48 ≤ c.toNat ∧ c.toNat ≤ 57) ∨ (97 ≤ c.toNat ∧ c.toNat ≤ 102)
def hxv (c : UInt8) : Nat := if c.toNat ≤ 57 then c.toNat - 48 else c.toNat - 87
def hval (l : List UInt8) : Nat := l.foldl (fun n c => n * 16 + hxv c) 0
theorem hval_snoc (l : List UInt8) (c : UInt8) : hval (l ++ [c]) = hval l * 16 + hxv c := by simp [hval]
theorem hex1_nat {d : Nat} (h : d < 16) : (hex1 d).toNat = if d < 10 then 48 + d else 87 + d := by
  unfold hex1; split <;> (simp [UInt8.toNat_ofNat']; omega)
theorem hex1_facts {d : Nat} (h : d < 16) : ishx (hex1 d) ∧ hxv (hex1 d) = d ∧ (hex1 d = 48 → d = 0) := by
  have hn := hex1_nat h
  refine ⟨?_, ?_, fun e => ?_⟩
  · unfold ishx; rw [hn]; split <;> omega
  · unfold hxv; rw [hn]; split <;> split <;> omega
  · have := congrArg UInt8.toNat e
    rw [hn] at this
    split at this <;> simp at this <;> omega
theorem hv_lt {c : UInt8} (h : ishx c) : hxv c < 16 := by unfold hxv; unfold ishx at h; split <;> omega
theorem hex1_of {c : UInt8} (h : ishx c) : hex1 (hxv c) = c := UInt8.toNat_inj.1 (by
  rw [hex1_nat (hv_lt h)]; unfold hxv; unfold ishx at h; split <;> split <;> omega)
/-- The digits of a number below 65536. -/
theorem hexs_facts {n : Nat} (h : n < 65536) : (∀ c ∈ hexs n, ishx c) ∧ hval (hexs n) = n ∧ ((hexs n)[0]? = some 48 → hexs n = [48]) := by
  have F := fun d (hd : d < 16) => hex1_facts hd
  unfold hexs
  split
  · refine ⟨by intro c hc; simp only [List.mem_singleton] at hc; subst hc; exact (F _ (by omega)).1, by simp only [hval, List.foldl_cons, List.foldl_nil]; rw [(F n (by omega)).2.1]; omega, fun h0 => ?_⟩
    simp only [List.getElem?_cons_zero, Option.some.injEq] at h0
    rw [h0]
  · split
    · refine ⟨?_, ?_, fun h0 => ?_⟩
      · intro c hc; simp only [List.mem_cons, List.not_mem_nil, or_false] at hc; rcases hc with rfl | rfl <;> exact (F _ (by omega)).1
      · simp only [hval, List.foldl_cons, List.foldl_nil]; rw [(F (n / 16) (by omega)).2.1, (F (n % 16) (by omega)).2.1]; omega
      · simp only [List.getElem?_cons_zero, Option.some.injEq] at h0
        have := (F _ (by omega)).2.2 h0; omega
    · split
      · refine ⟨?_, ?_, fun h0 => ?_⟩
        · intro c hc; simp only [List.mem_cons, List.not_mem_nil, or_false] at hc; rcases hc with rfl | rfl | rfl <;> exact (F _ (by omega)).1
        · simp only [hval, List.foldl_cons, List.foldl_nil]; rw [(F (n / 256) (by omega)).2.1, (F (n / 16 % 16) (by omega)).2.1, (F (n % 16) (by omega)).2.1]; omega
        · simp only [List.getElem?_cons_zero, Option.some.injEq] at h0
          have := (F _ (by omega)).2.2 h0; omega
      · refine ⟨?_, ?_, fun h0 => ?_⟩
        · intro c hc; simp only [List.mem_cons, List.not_mem_nil, or_false] at hc; rcases hc with rfl | rfl | rfl | rfl <;> exact (F _ (by omega)).1
        · simp only [hval, List.foldl_cons, List.foldl_nil]; rw [(F (n / 4096) (by omega)).2.1, (F (n / 256 % 16) (by omega)).2.1, (F (n / 16 % 16) (by omega)).2.1, (F (n % 16) (by omega)).2.1]; omega
        · simp only [List.getElem?_cons_zero, Option.some.injEq] at h0
          have := (F _ (by omega)).2.2 h0; omega
theorem hv_nz {a : UInt8} {r : List UInt8} (ha : ishx a) (hr : r ≠ []) (h0 : (a :: r)[0]? = some 48 → a :: r = [48]) : hxv a ≠ 0 := fun e => by
  have e2 : a = 48 := by rw [← hex1_of ha, e]; rfl
  have := h0 (by rw [e2]; rfl)
  simp at this
  exact hr this.2
/-- Digits, none ahead too many: the digits of their number. -/
theorem hexs_of {l : List UInt8} (hd : ∀ c ∈ l, ishx c) (h1 : 1 ≤ l.length) (h4 : l.length ≤ 4) (h0 : l[0]? = some 48 → l = [48]) : hexs (hval l) = l ∧ hval l < 65536 := by
  match l, hd, h1, h4, h0 with
  | [a], hd, _, _, _ =>
    have ha := hd a (by simp)
    have la := hv_lt ha
    have e : hval [a] = hxv a := by simp [hval]
    refine ⟨?_, by omega⟩
    rw [e, hexs_one la, hex1_of ha]
  | [a, b], hd, _, _, h0 =>
    have ha := hd a (by simp); have hb := hd b (by simp)
    have la := hv_lt ha; have lb := hv_lt hb
    have z := hv_nz ha (by simp) h0
    have e : hval [a, b] = hxv a * 16 + hxv b := by simp [hval]
    refine ⟨?_, by omega⟩
    rw [e, hexs, if_neg (by omega), if_pos (by omega), show (hxv a * 16 + hxv b) / 16 = hxv a from by omega, show (hxv a * 16 + hxv b) % 16 = hxv b from by omega, hex1_of ha, hex1_of hb]
  | [a, b, c], hd, _, _, h0 =>
    have ha := hd a (by simp); have hb := hd b (by simp); have hc := hd c (by simp)
    have la := hv_lt ha; have lb := hv_lt hb; have lc := hv_lt hc
    have z := hv_nz ha (by simp) h0
    have e : hval [a, b, c] = (hxv a * 16 + hxv b) * 16 + hxv c := by simp [hval]
    refine ⟨?_, by omega⟩
    rw [e, hexs, if_neg (by omega), if_neg (by omega), if_pos (by omega), show ((hxv a * 16 + hxv b) * 16 + hxv c) / 256 = hxv a from by omega, show ((hxv a * 16 + hxv b) * 16 + hxv c) / 16 % 16 = hxv b from by omega,
      show ((hxv a * 16 + hxv b) * 16 + hxv c) % 16 = hxv c from by omega, hex1_of ha, hex1_of hb, hex1_of hc]
  | [a, b, c, d], hd, _, _, h0 =>
    have ha := hd a (by simp); have hb := hd b (by simp); have hc := hd c (by simp); have hd' := hd d (by simp)
    have la := hv_lt ha; have lb := hv_lt hb; have lc := hv_lt hc; have ld := hv_lt hd'
    have z := hv_nz ha (by simp) h0
    have e : hval [a, b, c, d] = ((hxv a * 16 + hxv b) * 16 + hxv c) * 16 + hxv d := by simp [hval]
    refine ⟨?_, by omega⟩
    rw [e, hexs, if_neg (by omega), if_neg (by omega), if_neg (by omega), show (((hxv a * 16 + hxv b) * 16 + hxv c) * 16 + hxv d) / 4096 = hxv a from by omega, show (((hxv a * 16 + hxv b) * 16 + hxv c) * 16 + hxv d) / 256 % 16 = hxv b from by omega,
      show (((hxv a * 16 + hxv b) * 16 + hxv c) * 16 + hxv d) / 16 % 16 = hxv c from by omega, show (((hxv a * 16 + hxv b) * 16 + hxv c) * 16 + hxv d) % 16 = hxv d from by omega, hex1_of ha, hex1_of hb, hex1_of hc, hex1_of hd']
theorem hexs_colon {n : Nat} (h : n < 65536) : (58 : UInt8) ∉ hexs n := fun hm => by
  have h2 := (hexs_facts h).1 58 hm
  unfold ishx at h2
  simp at h2

/-- The word whose digits these are, and is there one. -/
noncomputable def rhV (l : List UInt8) : Int := by classical exact if ∃ n, n < 65536 ∧ hexs n = l then (hval l : Int) else 0
noncomputable def rhO (l : List UInt8) : Bool := by classical exact decide (∃ n, n < 65536 ∧ hexs n = l)
theorem rh_yes {l : List UInt8} {n : Nat} (h : n < 65536) (e : hexs n = l) : rhV l = n ∧ rhO l = true := by
  have hex : ∃ n, n < 65536 ∧ hexs n = l := ⟨n, h, e⟩
  unfold rhV rhO
  rw [if_pos hex, ← e, (hexs_facts h).2.1]
  exact ⟨rfl, by simpa [e] using hex⟩
theorem rh_no {l : List UInt8} (h : ¬ ∃ n, n < 65536 ∧ hexs n = l) : rhV l = 0 ∧ rhO l = false := by
  unfold rhV rhO
  rw [if_neg h]
  exact ⟨rfl, by simpa using h⟩
theorem rh_cases (l : List UInt8) : (∃ n, n < 65536 ∧ hexs n = l ∧ rhV l = n ∧ rhO l = true) ∨ ((¬ ∃ n, n < 65536 ∧ hexs n = l) ∧ rhV l = 0 ∧ rhO l = false) := by
  by_cases h : ∃ n, n < 65536 ∧ hexs n = l
  · obtain ⟨n, h1, h2⟩ := h
    exact .inl ⟨n, h1, h2, rh_yes h1 h2⟩
  · exact .inr ⟨h, rh_no h⟩
theorem ret_rh {a b : Int} {x y : Bool} (h : a = b) (h2 : x = y) : Ending.returned (.tuple #[.int .i64 a, .bool x]) = .returned (.tuple #[.int .i64 b, .bool y]) := by rw [h, h2]

theorem cdigit_yes (v : Int) (c : UInt8) (hv' : v = (c.toNat : Int)) (w : World) (h : ishx c) :
    Calls Tryd.prog 50 #[.int .u8 v] w fun e w' => e = .returned (.tuple #[.int .i64 (hxv c : Nat), .bool true]) ∧ w = w' := by
  subst hv'
  by_cases h1 : c.toNat ≤ 57
  · have e : hxv c = c.toNat - 48 := by unfold hxv; rw [if_pos h1]
    have h2 : 48 ≤ c.toNat := by unfold ishx at h; omega
    go_enter Tryd.func50, Tryd.ntmps50
    go_wp2_with fail
    go_ret2
    exact ⟨ret_rh (by rw [e]; omega) rfl, rfl⟩
  · have e : hxv c = c.toNat - 87 := by unfold hxv; rw [if_neg h1]
    have h2 : 97 ≤ c.toNat ∧ c.toNat ≤ 102 := by unfold ishx at h; omega
    go_enter Tryd.func50, Tryd.ntmps50
    go_wp2_with fail
    go_ret2
    exact ⟨ret_rh (by rw [e]; omega) rfl, rfl⟩
theorem cdigit_no (v : Int) (c : UInt8) (hv' : v = (c.toNat : Int)) (w : World) (h : ¬ ishx c) :
    Calls Tryd.prog 50 #[.int .u8 v] w fun e w' => e = .returned (.tuple #[.int .i64 0, .bool false]) ∧ w = w' := by
  subst hv'
  have h4 : c.toNat < 48 ∨ (57 < c.toNat ∧ c.toNat < 97) ∨ 102 < c.toNat := by unfold ishx at h; omega
  rcases h4 with h1 | h1 | h1
  · have d1 : decide (48 ≤ (c.toNat : Int)) = false := by simp; omega
    have d2 : decide (97 ≤ (c.toNat : Int)) = false := by simp; omega
    go_enter Tryd.func50, Tryd.ntmps50
    go_wp2_with fail
    go_ret2
    exact ⟨rfl, rfl⟩
  · have d1 : decide ((c.toNat : Int) ≤ 57) = false := by simp; omega
    have d2 : decide (97 ≤ (c.toNat : Int)) = false := by simp; omega
    go_enter Tryd.func50, Tryd.ntmps50
    go_wp2_with fail
    go_ret2
    exact ⟨rfl, rfl⟩
  · have d1 : decide ((c.toNat : Int) ≤ 57) = false := by simp; omega
    have d2 : decide ((c.toNat : Int) ≤ 102) = false := by simp; omega
    go_enter Tryd.func50, Tryd.ntmps50
    go_wp2_with fail
    go_ret2
    exact ⟨rfl, rfl⟩

set_option maxHeartbeats 1000000 in
theorem cread6 (s : ByteArray) (w : World) (hs : s.size ≤ 9223372036854775807) :
    Calls Tryd.prog 42 #[.string s] w fun e w' => e = .returned (.tuple #[.int .i64 (rhV s.data.toList), .bool (rhO s.data.toList)]) ∧ w = w' := by
  have hsz : s.data.toList.length = s.size := rfl
  have htl : s.toList = s.data.toList := Lib.toList_data s
  obtain ⟨l, hl⟩ : ∃ l, l = s.data.toList := ⟨_, rfl⟩
  rw [← hl] at hsz htl ⊢
  have Hl := Lib.hid hl
  have Hsz := Lib.hid hsz
  have Htl := Lib.hid htl
  clear hl hsz htl
  have HNo : (¬ ∃ n, n < 65536 ∧ hexs n = l) → Hid (rhV l = 0 ∧ rhO l = false) := fun h => Lib.hid (rh_no h)
  by_cases h0 : s.toList = []
  · have HN := HNo fun ⟨n, hn, e⟩ => by have := @hexs_len n; rw [e, ← Htl.out, h0] at this; simp at this
    go_enter Tryd.func42, Tryd.ntmps42
    go_wp2_with fail
    go_ret2
    exact ⟨ret_rh HN.out.1.symm HN.out.2.symm, rfl⟩
  have h1 : 1 ≤ s.size := by rw [← Hsz.out, ← Htl.out]; exact List.length_pos_iff.2 h0
  have h0' : s.toList.isEmpty = false := by simpa using h0
  by_cases h3 : 4 < s.size
  · have HN := HNo fun ⟨n, hn, e⟩ => by have := @hexs_len n; rw [e, Hsz.out] at this; omega
    go_enter Tryd.func42, Tryd.ntmps42
    go_wp2_with fail
    go_ret2
    exact ⟨ret_rh HN.out.1.symm HN.out.2.symm, rfl⟩
  have hget : ∀ k (hk : k < s.size), l[k]? = some s[k] := fun k hk => by
    have := Hl.out; subst this
    exact List.getElem?_eq_getElem (by rw [Hsz.out]; exact hk)
  have Hget := Lib.hid hget
  clear hget
  have hsnoc : ∀ k (hk : k < s.size), l.take (k + 1) = l.take k ++ [s[k]] := fun k hk => by
    have hk' : k < l.length := by rw [Hsz.out]; exact hk
    rw [List.take_succ_eq_append_getElem hk']
    have := Hget.out k hk
    rw [List.getElem?_eq_getElem hk'] at this
    rw [Option.some.inj this]
  have Hsnoc := Lib.hid hsnoc
  clear hsnoc
  have loop : ∀ (t0 : (s[0].toNat = 48 ∧ s.toList = [48]) ∨ s[0].toNat ≠ 48), Calls Tryd.prog 42 #[.string s] w fun e w' => e = .returned (.tuple #[.int .i64 (rhV l), .bool (rhO l)]) ∧ w = w' := by
    intro t0
    have t1 : (s[0].toNat = 48 → ((s[0].toNat : Int) == 48) = true) := fun h => by simp [h]
    have t2 : (s[0].toNat = 48 → (s.toList == [48]) = true) := fun h => by rcases t0 with h' | h'; simp [h'.2]; exact absurd h h'
    have t48 : l[0]? = some 48 → l = [48] := fun h => by
      have h1' := Hget.out 0 (by omega)
      rw [h] at h1'
      have h2 : s[0] = 48 := (Option.some.inj h1').symm
      rcases t0 with h' | h'
      · rw [← Htl.out]; exact h'.2
      · exact absurd (by rw [h2]; rfl) h'
    have T48 := Lib.hid t48
    clear t48
    rcases t0 with ⟨a1, a2⟩ | a1
    · have a3 : (s.toList == [48]) = true := t2 a1
      clear t2
      have A2 := Lib.hid a2
      clear a2
      go_enter Tryd.func42, Tryd.ntmps42
      go_wp2_with fail
      go_loop [4, 26] (fun n i => ∃ k : Nat, k ≤ s.size ∧ hval (l.take k) ≤ 16 ^ k - 1 ∧ Hid (∀ c ∈ l.take k, ishx c) ∧ n = .int .i64 (hval (l.take k) : Nat) ∧ i = .int .i64 (k : Int)) (fun _ i => s.size - (intOf i).toNat)
      case atStart => exact ⟨0, Nat.zero_le _, by simp [hval], Lib.hid (by simp), rfl, rfl⟩
      case round =>
        obtain ⟨k, hk, hv, HD, rfl, rfl⟩ := hrel
        have hkk : k = 0 ∨ k = 1 ∨ k = 2 ∨ k = 3 ∨ k = 4 := by omega
        have hv9 : hval (l.take k) ≤ 65535 := by rcases hkk with rfl | rfl | rfl | rfl | rfl <;> exact Nat.le_trans hv (by decide)
        by_cases hlt : k < s.size
        · have HS := Lib.hid (Hsnoc.out k hlt)
          have HV : Hid (hval (l.take (k + 1)) = hval (l.take k) * 16 + hxv s[k]) := Lib.hid (by rw [HS.out, hval_snoc])
          have HBad : ¬ ishx s[k] → Hid (rhV l = 0 ∧ rhO l = false) := fun h => HNo fun ⟨n, hn, e⟩ => h ((hexs_facts hn).1 _ (by rw [e]; exact List.mem_of_getElem? (Hget.out k hlt)))
          obtain ⟨v, hve⟩ : ∃ v, v = hval (l.take k) := ⟨_, rfl⟩
          rw [← hve] at hv9 ⊢
          have Hve := Lib.hid hve
          have Hv := Lib.hid hv
          clear hv hve
          by_cases d1 : ishx s[k]
          · have hlt16 := hv_lt d1
            have D1 := Lib.hid d1
            clear d1
            go_wp2_with (go_at_call 50; refine (cdigit_yes _ s[k] (by first | rfl | simp) _ D1.out).mono ?_; rintro e w' ⟨rfl, rfl⟩)
            go_roundw
            case rel =>
              have hvv : hval (l.take (k + 1)) = v * 16 + hxv s[k] := by rw [HV.out, Hve.out]
              refine ⟨k + 1, by omega, ?_, Lib.hid ?_, by rw [hvv]; simp, by simp⟩
              · have hv' := Hv.out
                rw [← Hve.out] at hv'
                rw [hvv, Nat.pow_succ]
                have h10 : 1 ≤ 16 ^ k := Nat.pos_of_ne_zero (by simp)
                omega
              · intro c hc
                rw [HS.out] at hc
                rcases List.mem_append.1 hc with h | h
                · exact HD.out c h
                · rw [List.mem_singleton] at h; subst h; exact D1.out
            case measure => simp [intOf]; omega
          · have HN := HBad d1
            have D1 := Lib.hid d1
            clear d1
            go_wp2_with (go_at_call 50; refine (cdigit_no _ s[k] (by first | rfl | simp) _ D1.out).mono ?_; rintro e w' ⟨rfl, rfl⟩)
            go_ret2
            exact ⟨ret_rh HN.out.1.symm HN.out.2.symm, rfl⟩
        · obtain rfl : k = s.size := by omega
          have HL : Hid (l.take s.size = l) := Lib.hid (List.take_of_length_le (by rw [Hsz.out]; exact Nat.le_refl _))
          have HD' : Hid (∀ c ∈ l, ishx c) := Lib.hid (by have := HD.out; rwa [HL.out] at this)
          have hvl : hval (l.take s.size) = hval l := by rw [HL.out]
          rw [hvl] at hv9 hv ⊢
          clear hvl
          have hHX := hexs_of HD'.out (by rw [Hsz.out]; omega) (by rw [Hsz.out]; omega) T48.out
          have HY := Lib.hid (rh_yes (l := l) (n := hval l) hHX.2 hHX.1)
          clear hHX
          obtain ⟨v, hve⟩ : ∃ v, v = hval l := ⟨_, rfl⟩
          rw [← hve] at hv9 HY ⊢
          clear hve hv
          go_wp2_with fail
          go_ret2
          exact ⟨ret_rh (by rw [HY.out.1]) HY.out.2.symm, rfl⟩
    · have a3 : ((s[0].toNat : Int) == 48) = false := by rw [beq_eq_false_iff_ne]; omega
      clear t2 t1
      go_enter Tryd.func42, Tryd.ntmps42
      go_wp2_with fail
      go_loop [4, 26] (fun n i => ∃ k : Nat, k ≤ s.size ∧ hval (l.take k) ≤ 16 ^ k - 1 ∧ Hid (∀ c ∈ l.take k, ishx c) ∧ n = .int .i64 (hval (l.take k) : Nat) ∧ i = .int .i64 (k : Int)) (fun _ i => s.size - (intOf i).toNat)
      case atStart => exact ⟨0, Nat.zero_le _, by simp [hval], Lib.hid (by simp), rfl, rfl⟩
      case round =>
        obtain ⟨k, hk, hv, HD, rfl, rfl⟩ := hrel
        have hkk : k = 0 ∨ k = 1 ∨ k = 2 ∨ k = 3 ∨ k = 4 := by omega
        have hv9 : hval (l.take k) ≤ 65535 := by rcases hkk with rfl | rfl | rfl | rfl | rfl <;> exact Nat.le_trans hv (by decide)
        by_cases hlt : k < s.size
        · have HS := Lib.hid (Hsnoc.out k hlt)
          have HV : Hid (hval (l.take (k + 1)) = hval (l.take k) * 16 + hxv s[k]) := Lib.hid (by rw [HS.out, hval_snoc])
          have HBad : ¬ ishx s[k] → Hid (rhV l = 0 ∧ rhO l = false) := fun h => HNo fun ⟨n, hn, e⟩ => h ((hexs_facts hn).1 _ (by rw [e]; exact List.mem_of_getElem? (Hget.out k hlt)))
          obtain ⟨v, hve⟩ : ∃ v, v = hval (l.take k) := ⟨_, rfl⟩
          rw [← hve] at hv9 ⊢
          have Hve := Lib.hid hve
          have Hv := Lib.hid hv
          clear hv hve
          by_cases d1 : ishx s[k]
          · have hlt16 := hv_lt d1
            have D1 := Lib.hid d1
            clear d1
            go_wp2_with (go_at_call 50; refine (cdigit_yes _ s[k] (by first | rfl | simp) _ D1.out).mono ?_; rintro e w' ⟨rfl, rfl⟩)
            go_roundw
            case rel =>
              have hvv : hval (l.take (k + 1)) = v * 16 + hxv s[k] := by rw [HV.out, Hve.out]
              refine ⟨k + 1, by omega, ?_, Lib.hid ?_, by rw [hvv]; simp, by simp⟩
              · have hv' := Hv.out
                rw [← Hve.out] at hv'
                rw [hvv, Nat.pow_succ]
                have h10 : 1 ≤ 16 ^ k := Nat.pos_of_ne_zero (by simp)
                omega
              · intro c hc
                rw [HS.out] at hc
                rcases List.mem_append.1 hc with h | h
                · exact HD.out c h
                · rw [List.mem_singleton] at h; subst h; exact D1.out
            case measure => simp [intOf]; omega
          · have HN := HBad d1
            have D1 := Lib.hid d1
            clear d1
            go_wp2_with (go_at_call 50; refine (cdigit_no _ s[k] (by first | rfl | simp) _ D1.out).mono ?_; rintro e w' ⟨rfl, rfl⟩)
            go_ret2
            exact ⟨ret_rh HN.out.1.symm HN.out.2.symm, rfl⟩
        · obtain rfl : k = s.size := by omega
          have HL : Hid (l.take s.size = l) := Lib.hid (List.take_of_length_le (by rw [Hsz.out]; exact Nat.le_refl _))
          have HD' : Hid (∀ c ∈ l, ishx c) := Lib.hid (by have := HD.out; rwa [HL.out] at this)
          have hvl : hval (l.take s.size) = hval l := by rw [HL.out]
          rw [hvl] at hv9 hv ⊢
          clear hvl
          have hHX := hexs_of HD'.out (by rw [Hsz.out]; omega) (by rw [Hsz.out]; omega) T48.out
          have HY := Lib.hid (rh_yes (l := l) (n := hval l) hHX.2 hHX.1)
          clear hHX
          obtain ⟨v, hve⟩ : ∃ v, v = hval l := ⟨_, rfl⟩
          rw [← hve] at hv9 HY ⊢
          clear hve hv
          go_wp2_with fail
          go_ret2
          exact ⟨ret_rh (by rw [HY.out.1]) HY.out.2.symm, rfl⟩
  by_cases c0 : s[0].toNat = 48
  · by_cases c1 : s.toList = [48]
    · exact loop (.inl ⟨c0, c1⟩)
    · have HN := HNo fun ⟨n, hn, e⟩ => by
        have hf := (hexs_facts hn).2.2
        rw [e] at hf
        have hz := Hget.out 0 (by omega)
        exact c1 (by rw [Htl.out]; exact hf (by rw [hz]; exact congrArg some (UInt8.toNat_inj.1 c0)))
      have t0 : ((s[0].toNat : Int) == 48) = true := by simp [c0]
      have t1 : (s.toList == [48]) = false := by simpa using c1
      go_enter Tryd.func42, Tryd.ntmps42
      go_wp2_with fail
      go_ret2
      exact ⟨ret_rh HN.out.1.symm HN.out.2.symm, rfl⟩
  · exact loop (.inr c0)
end Go.Proofs.YtokcelbpiglieaaDoor
