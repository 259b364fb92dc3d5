/-
  Contracts and lemmas on which the proofs of this seat stand (several texts in one). Conditions are each theorem's own.
-/
import Derived.Test.YtkfbamippjhjcaaRa8
import Derived.Test.YtkfbamippjhjcaaRa9
import Derived.Lib.Strings
import Derived.Test.YtkfbamippjhjcaaRa1

/-
  What a part of an address's text is, in plain lists of bytes, and the project's function that reads one; its loops over arrays and blocks. Conditions are each theorem's own.
-/
namespace Go.Proofs.Ytkfbamippjhjcaa
open Go.RowKit

def dval (l : List UInt8) : Nat := l.foldl (fun n c => n * 10 + (c.toNat - 48)) 0
def isd (c : UInt8) : Prop := 48 ≤ c.toNat ∧ c.toNat ≤ 57
theorem dval_snoc (l : List UInt8) (c : UInt8) : dval (l ++ [c]) = dval l * 10 + (c.toNat - 48) := by simp [dval]
theorem dig_nat {d : Nat} (h : d < 10) : (UInt8.ofNat (48 + d)).toNat = 48 + d := by simp [UInt8.toNat_ofNat']; omega
theorem dig_of {c : UInt8} (h : isd c) : c = UInt8.ofNat (48 + (c.toNat - 48)) := UInt8.toNat_inj.1 (by obtain ⟨h1, h2⟩ := h; rw [dig_nat (by omega)]; omega)
/-- The digits of a number below 256. -/
theorem dec_facts {n : Nat} (h : n < 256) : (∀ c ∈ dec n, isd c) ∧ dval (dec n) = n ∧ 1 ≤ (dec n).length ∧ (dec n).length ≤ 3 ∧ ((dec n)[0]? = some 48 → dec n = [48]) := by
  have hl := @dec_len n
  refine ⟨?_, ?_, hl.1, hl.2, ?_⟩
  · intro c hc
    unfold dec at hc
    split at hc
    · simp only [List.mem_singleton] at hc; subst hc; unfold isd; rw [dig_nat (by omega)]; omega
    · split at hc
      · simp only [List.mem_cons, List.not_mem_nil, or_false] at hc
        rcases hc with rfl | rfl <;> (unfold isd; rw [dig_nat (by omega)]; omega)
      · simp only [List.mem_cons, List.not_mem_nil, or_false] at hc
        rcases hc with rfl | rfl | rfl <;> (unfold isd; rw [dig_nat (by omega)]; omega)
  · unfold dec
    split
    · simp only [dval, List.foldl_cons, List.foldl_nil]; rw [dig_nat (by omega)]; omega
    · split
      · simp only [dval, List.foldl_cons, List.foldl_nil]; rw [dig_nat (by omega), dig_nat (by omega)]; omega
      · simp only [dval, List.foldl_cons, List.foldl_nil]; rw [dig_nat (by omega), dig_nat (by omega), dig_nat (by omega)]; omega
  · intro h0
    have key : ∀ d, d < 10 → UInt8.ofNat (48 + d) = 48 → d = 0 := fun d hd e => by have := congrArg UInt8.toNat e; rw [dig_nat hd] at this; simp at this; omega
    unfold dec at h0 ⊢
    split at h0
    · rename_i hn
      simp only [List.getElem?_cons_zero, Option.some.injEq] at h0
      rw [if_pos hn, h0]
    · split at h0
      · simp only [List.getElem?_cons_zero, Option.some.injEq] at h0
        have := key _ (by omega) h0; omega
      · simp only [List.getElem?_cons_zero, Option.some.injEq] at h0
        have := key _ (by omega) h0; omega
/-- Digits, none ahead too many: the digits of their number. -/
theorem dec_of {l : List UInt8} (hd : ∀ c ∈ l, isd c) (h1 : 1 ≤ l.length) (h3 : l.length ≤ 3) (h0 : l[0]? = some 48 → l = [48]) (hv : dval l ≤ 255) : dec (dval l) = l := by
  match l, hd, h1, h3, h0, hv with
  | [a], hd, _, _, _, _ =>
    have ha := hd a (by simp)
    have e : dval [a] = a.toNat - 48 := by simp [dval]
    obtain ⟨k1, k2⟩ := id ha
    rw [e, dec, if_pos (by omega), ← dig_of ha]
  | [a, b], hd, _, _, h0, _ =>
    have ha := hd a (by simp); have hb := hd b (by simp)
    have e : dval [a, b] = (a.toNat - 48) * 10 + (b.toNat - 48) := by simp [dval]
    have hne : a.toNat ≠ 48 := fun e' => by
      have : a = 48 := UInt8.toNat_inj.1 e'
      subst this
      have := h0 rfl
      simp at this
    obtain ⟨k1, k2⟩ := id ha; obtain ⟨k3, k4⟩ := id hb
    rw [e, dec, if_neg (by omega), if_pos (by omega)]
    rw [show ((a.toNat - 48) * 10 + (b.toNat - 48)) / 10 = a.toNat - 48 from by omega, show ((a.toNat - 48) * 10 + (b.toNat - 48)) % 10 = b.toNat - 48 from by omega, ← dig_of ha, ← dig_of hb]
  | [a, b, c], hd, _, _, h0, _ =>
    have ha := hd a (by simp); have hb := hd b (by simp); have hc := hd c (by simp)
    have e : dval [a, b, c] = ((a.toNat - 48) * 10 + (b.toNat - 48)) * 10 + (c.toNat - 48) := by simp [dval]
    have hne : a.toNat ≠ 48 := fun e' => by
      have : a = 48 := UInt8.toNat_inj.1 e'
      subst this
      have := h0 rfl
      simp at this
    obtain ⟨k1, k2⟩ := id ha; obtain ⟨k3, k4⟩ := id hb; obtain ⟨k5, k6⟩ := id hc
    rw [e, dec, if_neg (by omega), if_neg (by omega)]
    rw [show (((a.toNat - 48) * 10 + (b.toNat - 48)) * 10 + (c.toNat - 48)) / 100 = a.toNat - 48 from by omega, show (((a.toNat - 48) * 10 + (b.toNat - 48)) * 10 + (c.toNat - 48)) / 10 % 10 = b.toNat - 48 from by omega,
      show (((a.toNat - 48) * 10 + (b.toNat - 48)) * 10 + (c.toNat - 48)) % 10 = c.toNat - 48 from by omega, ← dig_of ha, ← dig_of hb, ← dig_of hc]
theorem dec_dot {n : Nat} (h : n < 256) : (46 : UInt8) ∉ dec n := fun hm => by
  have := ((dec_facts h).1 46 hm).1
  simp at this
theorem dec_inj {a b : Nat} (ha : a < 256) (hb : b < 256) (h : dec a = dec b) : a = b := by
  rw [← (dec_facts ha).2.1, h, (dec_facts hb).2.1]

/-- The byte whose digits these are, and is there one. -/
noncomputable def rdV (l : List UInt8) : Int := by classical exact if ∃ n, n < 256 ∧ dec n = l then (dval l : Int) else 0
noncomputable def rdO (l : List UInt8) : Bool := by classical exact decide (∃ n, n < 256 ∧ dec n = l)
theorem rd_yes {l : List UInt8} {n : Nat} (h : n < 256) (e : dec n = l) : rdV l = n ∧ rdO l = true := by
  have hex : ∃ n, n < 256 ∧ dec n = l := ⟨n, h, e⟩
  unfold rdV rdO
  rw [if_pos hex, ← e, (dec_facts h).2.1]
  exact ⟨rfl, by simpa [e] using hex⟩
theorem rd_no {l : List UInt8} (h : ¬ ∃ n, n < 256 ∧ dec n = l) : rdV l = 0 ∧ rdO l = false := by
  unfold rdV rdO
  rw [if_neg h]
  exact ⟨rfl, by simpa using h⟩
theorem rd_cases (l : List UInt8) : (∃ n, n < 256 ∧ dec n = l ∧ rdV l = n ∧ rdO l = true) ∨ ((¬ ∃ n, n < 256 ∧ dec n = l) ∧ rdV l = 0 ∧ rdO l = false) := by
  by_cases h : ∃ n, n < 256 ∧ dec n = l
  · obtain ⟨n, h1, h2⟩ := h
    exact .inl ⟨n, h1, h2, rd_yes h1 h2⟩
  · exact .inr ⟨h, rd_no h⟩

theorem ret_rd {a b : Int} {x y : Bool} (h : a = b) (h2 : x = y) : Ending.returned (.tuple #[.int .u8 a, .bool x]) = .returned (.tuple #[.int .u8 b, .bool y]) := by rw [h, h2]

end Go.Proofs.Ytkfbamippjhjcaa

/-
  Contracts of the project's functions of layer 3: Right, Host, Private and what they stand on. Conditions are each theorem's own.
-/
namespace Go.Proofs.Ytkfbamippjhjcaa
open Go.RowKit

theorem c3right (a : Int) (w : World) : Calls Try.prog 92 #[.int .i64 a] w fun e w' => e = .returned (.bool (okB a)) ∧ Below w.heap.size w w' := by
  by_cases h : 0 ≤ a
  · go_enter Try.func92, Try.ntmps92
    go_wp2
    go_ret
    exact ⟨ret_bool (by rw [Bool.eq_iff_iff]; simp [okB, h]), Below.refl _ _⟩
  · have hd : decide (0 ≤ a) = false := by simp; omega
    go_enter Try.func92, Try.ntmps92
    go_wp2
    go_ret
    exact ⟨ret_bool (by rw [Bool.eq_iff_iff]; simp [okB]; omega), Below.refl _ _⟩

def inB (a : Int) (b : Int × Int) : Bool := decide (b.1 ≤ a ∧ a ≤ b.2)
/-- The blocks lie at g, one behind the other. -/
def Blk (w : World) (g : Nat) (bs : List (Int × Int)) : Prop :=
  ∀ j, j < bs.length → w.cell? ⟨g, j * 2, none⟩ = some (.int .i64 (bs.getD j (0, 0)).1) ∧ w.cell? ⟨g, j * 2 + 1, none⟩ = some (.int .i64 (bs.getD j (0, 0)).2)
theorem Blk.below {w w' : World} {g B : Nat} {bs : List (Int × Int)} (h : Blk w g bs) (hb : Below B w w') (hg : g < B) : Blk w' g bs := fun j hj => by
  obtain ⟨h1, h2⟩ := h j hj
  exact ⟨(hb.cell (p := ⟨g, j * 2, none⟩) hg).trans h1, (hb.cell (p := ⟨g, j * 2 + 1, none⟩) hg).trans h2⟩

set_option maxHeartbeats 1000000 in
theorem cwithin (a : Int) (g : Nat) (bs : List (Int × Int)) (w : World) (hg : g < w.heap.size) (hb : Blk w g bs) (hl : bs.length ≤ 1000) :
    Calls Try.prog 106 #[.int .i64 a, .slice (some ⟨g, 0, none⟩) bs.length bs.length] w fun e w' => e = .returned (.bool (bs.any (inB a))) ∧ Below w.heap.size w w' := by
  go_enter Try.func106, Try.ntmps106
  go_wp2_with fail
  go_loopw [9] (fun i W => ∃ k : Nat, k ≤ bs.length ∧ Hid ((bs.take k).any (inB a) = false) ∧ i = .int .i64 (k : Int) ∧ Below w.heap.size w W) (fun i _ => bs.length - (intOf i).toNat)
  case atStart => exact ⟨0, Nat.zero_le _, Lib.hid (by simp), rfl, Below.refl _ _⟩
  case round =>
    obtain ⟨k, hk, HA, rfl, hbel⟩ := hrel
    by_cases hlt : k < bs.length
    · obtain ⟨h1, h2⟩ := (hb.below hbel hg) k hlt
      have HS : Hid ((bs.take (k + 1)).any (inB a) = inB a (bs.getD k (0, 0))) := Lib.hid (by
        rw [List.take_succ_eq_append_getElem hlt, List.any_append, HA.out]; simp [List.getD, hlt])
      have HM : Hid (bs.getD k (0, 0) ∈ bs) := Lib.hid (by simp [List.getD, hlt])
      have hwe : wr.heap.size ≥ w.heap.size := hbel.size
      have hbel2 := fun o => hbel.alloc hwe o
      obtain ⟨xy, hxy⟩ : ∃ xy, xy = bs.getD k (0, 0) := ⟨_, rfl⟩
      rw [← hxy] at h1 h2 HS HM
      clear hxy
      obtain ⟨x, y⟩ := xy
      by_cases hx : x ≤ a
      · by_cases hy : a ≤ y
        · have HR := Lib.hid (show bs.any (inB a) = true from List.any_eq_true.2 ⟨_, HM.out, by simp [inB, hx, hy]⟩)
          go_wp2_with fail
          go_ret
          exact ⟨ret_bool HR.out.symm, hbel2 _⟩
        · have hd : decide (a ≤ y) = false := by simpa using hy
          go_wp2_with fail
          go_roundw
          case rel => exact ⟨k + 1, by omega, Lib.hid (by rw [HS.out]; simp [inB, hy]), by simp, hbel2 _⟩
          case measure => simp [intOf]; omega
      · have hd : decide (x ≤ a) = false := by simpa using hx
        go_wp2_with fail
        go_roundw
        case rel => exact ⟨k + 1, by omega, Lib.hid (by rw [HS.out]; simp [inB, hx]), by simp, hbel2 _⟩
        case measure => simp [intOf]; omega
    · obtain rfl : k = bs.length := by omega
      have HR := Lib.hid (show bs.any (inB a) = false by have := HA.out; rwa [List.take_length] at this)
      go_wp2_with fail
      go_ret
      exact ⟨ret_bool HR.out.symm, hbel⟩

theorem cw1 (a lo hi : Int) (g : Nat) (w : World) (hg : g = w.heap.size) :
    Calls Try.prog 106 #[.int .i64 a, .slice (some ⟨g, 0, none⟩) 1 1] (w.alloc (.cells #[.int .i64 lo, .int .i64 hi] 122)) fun e w' => e = .returned (.bool (inB a (lo, hi))) ∧ Below w.heap.size w w' := by
  subst hg
  have hg := World.alloc_heap_new w (.cells #[.int .i64 lo, .int .i64 hi] 122)
  have hB := (Below.refl w.heap.size w).alloc (Nat.le_refl _) (.cells #[.int .i64 lo, .int .i64 hi] 122)
  refine (cwithin a w.heap.size [(lo, hi)] _ (by simp) (fun j hj => ?_) (by simp)).mono ?_
  · obtain rfl : j = 0 := by simp at hj; omega
    exact ⟨by rw [cell_of_row _ _ _ _ _ _ hg]; rfl, by rw [cell_of_row _ _ _ _ _ _ hg]; rfl⟩
  · rintro e w' ⟨rfl, hb⟩
    exact ⟨ret_bool (by simp), hB.trans (hb.mono (by simp))⟩
theorem cw3 (a l1 h1 l2 h2 l3 h3 : Int) (g : Nat) (w : World) (hg : g = w.heap.size) :
    Calls Try.prog 106 #[.int .i64 a, .slice (some ⟨g, 0, none⟩) 3 3] (w.alloc (.cells #[.int .i64 l1, .int .i64 h1, .int .i64 l2, .int .i64 h2, .int .i64 l3, .int .i64 h3] 122)) fun e w' => e = .returned (.bool (inB a (l1, h1) || inB a (l2, h2) || inB a (l3, h3))) ∧ Below w.heap.size w w' := by
  subst hg
  have hg := World.alloc_heap_new w (.cells #[.int .i64 l1, .int .i64 h1, .int .i64 l2, .int .i64 h2, .int .i64 l3, .int .i64 h3] 122)
  have hB := (Below.refl w.heap.size w).alloc (Nat.le_refl _) (.cells #[.int .i64 l1, .int .i64 h1, .int .i64 l2, .int .i64 h2, .int .i64 l3, .int .i64 h3] 122)
  refine (cwithin a w.heap.size [(l1, h1), (l2, h2), (l3, h3)] _ (by simp) (fun j hj => ?_) (by simp)).mono ?_
  · have hj' : j = 0 ∨ j = 1 ∨ j = 2 := by simp at hj; omega
    rcases hj' with rfl | rfl | rfl <;> exact ⟨by rw [cell_of_row _ _ _ _ _ _ hg]; rfl, by rw [cell_of_row _ _ _ _ _ _ hg]; rfl⟩
  · rintro e w' ⟨rfl, hb⟩
    exact ⟨ret_bool (by simp [Bool.or_assoc]), hB.trans (hb.mono (by simp))⟩
theorem host_in {a : Int} (h : inB a (16777216, 3758096383) = true) : hostB a = !(inB a (2130706432, 2147483647)) := by
  have h1 : 16777216 ≤ a ∧ a ≤ 3758096383 := of_decide_eq_true h
  by_cases h2 : 2130706432 ≤ a ∧ a ≤ 2147483647
  · rw [show inB a (2130706432, 2147483647) = true from decide_eq_true h2]
    exact decide_eq_false (by omega)
  · rw [show inB a (2130706432, 2147483647) = false from decide_eq_false h2]
    exact decide_eq_true (by omega)
theorem host_out {a : Int} (h : inB a (16777216, 3758096383) = false) : hostB a = false := by
  have h1 : ¬ (16777216 ≤ a ∧ a ≤ 3758096383) := of_decide_eq_false h
  exact decide_eq_false (by omega)
theorem priv_in (a : Int) : privB a = (inB a (167772160, 184549375) || inB a (2886729728, 2887778303) || inB a (3232235520, 3232301055)) := by
  simp only [privB, inB, Bool.decide_or, Bool.or_assoc]
theorem c3host (a : Int) (w : World) : Calls Try.prog 85 #[.int .i64 a] w fun e w' => e = .returned (.bool (hostB a)) ∧ Below w.heap.size w w' := by
  by_cases h : inB a (16777216, 3758096383) = true
  · have HR := Lib.hid (host_in h)
    go_enter Try.func85, Try.ntmps85
    go_wp2_with (first
      | (go_at_call 106; refine (cw1 a 2130706432 2147483647 _ w1 rfl).mono ?_; rintro e w2 ⟨rfl, b2⟩)
      | (go_at_call 106; refine (cw1 a 16777216 3758096383 _ w rfl).mono ?_; rintro e w1 ⟨rfl, b1⟩))
    go_ret
    exact ⟨ret_bool HR.out.symm, b1.trans (b2.mono b1.size)⟩
  · have h' : inB a (16777216, 3758096383) = false := by simpa using h
    have HR := Lib.hid (host_out h')
    go_enter Try.func85, Try.ntmps85
    go_wp2_with (first
      | (go_at_call 106; refine (cw1 a 16777216 3758096383 _ w rfl).mono ?_; rintro e w1 ⟨rfl, b1⟩))
    go_ret
    exact ⟨ret_bool HR.out.symm, b1⟩
end Go.Proofs.Ytkfbamippjhjcaa

/-
  Contracts of slices.Index, slices.Contains over integers; of icmp's among, Fault, Query, and the document's. Conditions are each theorem's own.
-/
namespace Go.Proofs.Ytkfbamippjhjcaa
open Go.RowKit

theorem iindex_none (g n : Nat) (zs : List Int) (x : Int) (w : World) (hn : n ≤ 1000) (h : ∀ j, j < n → w.cell? ⟨g, j, none⟩ = some (.int .i64 (zs.getD j 0))) (hx : ∀ j, j < n → (x == zs.getD j 0) = false) :
    Calls Try.prog 116 #[.slice (some ⟨g, 0, none⟩) n n, .int .i64 x] w fun e w' => e = .returned (.int .i64 (-1)) ∧ w = w' := by
  have H := Lib.hid h
  have HX := Lib.hid hx
  clear h hx
  go_enter Try.func116, Try.ntmps116
  go_wp2
  go_loop [8] (fun i => ∃ k : Nat, k ≤ n ∧ i = .int .i64 k) (fun i => n - (intOf i).toNat)
  case atStart => exact ⟨0, Nat.zero_le _, rfl⟩
  case round =>
    obtain ⟨k, hk, rfl⟩ := hrel
    by_cases hlt : k < n
    · have hc := H.out k hlt
      have hd := HX.out k hlt
      generalize zs.getD k 0 = y at hc hd
      go_wp2
      go_round
      case rel => exact ⟨k + 1, by omega, by simp⟩
      case measure => simp [intOf]; omega
    · obtain rfl : k = n := by omega
      go_wp2
      go_ret
      exact ⟨rfl, rfl⟩
theorem iindex_some (g n k0 : Nat) (zs : List Int) (x : Int) (w : World) (hn : n ≤ 1000) (hk0 : k0 < n) (h : ∀ j, j < n → w.cell? ⟨g, j, none⟩ = some (.int .i64 (zs.getD j 0))) (hx : ∀ j, j < k0 → (x == zs.getD j 0) = false) (h0 : (x == zs.getD k0 0) = true) :
    Calls Try.prog 116 #[.slice (some ⟨g, 0, none⟩) n n, .int .i64 x] w fun e w' => e = .returned (.int .i64 (k0 : Int)) ∧ w = w' := by
  have H := Lib.hid h
  have HX := Lib.hid hx
  have H0 := Lib.hid h0
  clear h hx h0
  go_enter Try.func116, Try.ntmps116
  go_wp2
  go_loop [8] (fun i => ∃ k : Nat, k ≤ k0 ∧ i = .int .i64 k) (fun i => n - (intOf i).toNat)
  case atStart => exact ⟨0, Nat.zero_le _, rfl⟩
  case round =>
    obtain ⟨k, hk, rfl⟩ := hrel
    have hlt : k < n := by omega
    have hc := H.out k hlt
    by_cases hlt2 : k < k0
    · have hd := HX.out k hlt2
      generalize zs.getD k 0 = y at hc hd
      go_wp2
      go_round
      case rel => exact ⟨k + 1, by omega, by simp⟩
      case measure => simp [intOf]; omega
    · obtain rfl : k = k0 := by omega
      have hd := H0.out
      generalize zs.getD k 0 = y at hc hd
      go_wp2
      go_ret
      exact ⟨rfl, rfl⟩
theorem first_in (x : Int) : ∀ (zs : List Int), x ∈ zs → ∃ k, k < zs.length ∧ (∀ j, j < k → (x == zs.getD j 0) = false) ∧ (x == zs.getD k 0) = true
  | [], h => by cases h
  | z :: l, h => by
    by_cases e : x = z
    · exact ⟨0, by simp, fun j hj => absurd hj (Nat.not_lt_zero j), by simp [e]⟩
    · obtain ⟨k, h1, h2, h3⟩ := first_in x l (by rcases List.mem_cons.1 h with h | h; exact absurd h e; exact h)
      refine ⟨k + 1, by simp; omega, fun j hj => ?_, by simpa using h3⟩
      cases j with
      | zero => simpa using e
      | succ j => simpa using h2 j (by omega)
theorem icontains_any (g : Nat) (zs : List Int) (x : Int) (w : World) (hn : zs.length ≤ 1000) (h : w.rangeAt g 0 (zs.map (Value.int .i64))) :
    Calls Try.prog 114 #[.slice (some ⟨g, 0, none⟩) zs.length zs.length, .int .i64 x] w fun e w' => e = .returned (.bool (decide (x ∈ zs))) ∧ w = w' := by
  have hc : ∀ j, j < zs.length → w.cell? ⟨g, j, none⟩ = some (.int .i64 (zs.getD j 0)) := fun j hj => by
    have := h j (.int .i64 (zs.getD j 0)) (by simp [List.getD_eq_getElem?_getD, hj])
    rwa [Nat.zero_add] at this
  by_cases hm : x ∈ zs
  · obtain ⟨k, h1, h2, h3⟩ := first_in x zs hm
    have c := iindex_some g zs.length k zs x w hn h1 hc h2 h3
    have hD := Lib.hid (show decide (x ∈ zs) = true by simpa using hm)
    clear h hc h2 h3 hm
    go_enter Try.func114, Try.ntmps114
    go_wp2_with (go_at_call 116; refine c.mono ?_; rintro e w' ⟨rfl, rfl⟩)
    go_ret
    exact ⟨ret_bool (by rw [hD.out]), rfl⟩
  · have c := iindex_none g zs.length zs x w hn hc (fun j hj => by
      rw [List.getD_eq_getElem?_getD, List.getElem?_eq_getElem hj]
      simp only [Option.getD_some, beq_eq_false_iff_ne]
      intro e; exact hm (e ▸ List.getElem_mem hj))
    have hD := Lib.hid (show decide (x ∈ zs) = false by simpa using hm)
    clear h hc hm
    go_enter Try.func114, Try.ntmps114
    go_wp2_with (go_at_call 116; refine c.mono ?_; rintro e w' ⟨rfl, rfl⟩)
    go_ret
    exact ⟨ret_bool (by rw [hD.out]), rfl⟩
theorem range_ints (w : World) (zs : List Int) (t : TypeId) : (w.alloc (.cells (zs.map (Value.int .i64)).toArray t)).rangeAt w.heap.size 0 (zs.map (Value.int .i64)) := fun j v hj => by
  rw [Nat.zero_add, World.cell?_alloc_new, ← hj, List.getElem?_toArray]
theorem among_new (zs : List Int) (x : Int) (cs : Array Value) (n : Nat) (t : TypeId) (w : World) (hc : cs = (zs.map (Value.int .i64)).toArray) (hn : n = zs.length) (hl : zs.length ≤ 1000) :
    Calls Try.prog 110 #[.int .i64 x, .slice (some ⟨w.heap.size, 0, none⟩) n n] (w.alloc (.cells cs t)) fun e w' => e = .returned (.bool (decide (x ∈ zs))) ∧ Below w.heap.size w w' := by
  subst hc; subst hn
  have c := icontains_any w.heap.size zs x _ hl (range_ints w zs t)
  have hb : Below w.heap.size w (w.alloc (.cells (zs.map (Value.int .i64)).toArray t)) := (Below.refl _ w).alloc (Nat.le_refl _) _
  generalize decide (x ∈ zs) = D at c ⊢
  generalize w.alloc (.cells (zs.map (Value.int .i64)).toArray t) = W at *
  go_enter Try.func110, Try.ntmps110
  go_wp2_with (go_at_call 114; refine c.mono ?_; rintro e w' ⟨rfl, rfl⟩)
  go_ret
  exact ⟨rfl, hb⟩
theorem cIfault (k : Int) (w : World) : Calls Try.prog 107 #[.int .i64 k] w fun e w' => e = .returned (.bool (fltI k)) ∧ Below w.heap.size w w' := by
  obtain ⟨D, hD⟩ : ∃ D, D = fltI k := ⟨_, rfl⟩
  have HD := Lib.hid (show decide (k ∈ [3, 4, 5, 11, 12]) = D by rw [hD]; rfl)
  rw [← hD]; clear hD
  go_enter Try.func107, Try.ntmps107
  go_wp2_with (go_at_call 110; refine (among_new [3, 4, 5, 11, 12] k _ 5 _ w (by rfl) rfl (by simp)).mono ?_; rintro e w' ⟨rfl, x1⟩; rw [HD.out])
  go_ret
  exact ⟨rfl, x1⟩
end Go.Proofs.Ytkfbamippjhjcaa

/-
  Contracts of layer 9's Check, numbers, Same, Fault, Query and ID, the program's and the document's; of layer 10's Fault. Conditions are each theorem's own.
-/
namespace Go.Proofs.Ytkfbamippjhjcaa
open Go.RowKit

theorem rIfault (k : Int) (w : World) : Calls Try.prog 94 #[.int .i64 k] w fun e w' => e = .returned (.bool (fltI k)) ∧ w = w' := by
  have H := Lib.hid (show fltI k = ((decide (3 ≤ k) && decide (k ≤ 5)) || (k == 11) || (k == 12)) by
    rw [fltI, Bool.eq_iff_iff]; simp; omega)
  cases e0 : decide (3 ≤ k) <;> cases e1 : decide (k ≤ 5) <;> cases e2 : (k == 11) <;> cases e3 : (k == 12)
  all_goals
    go_enter Try.func94, Try.ntmps94
    go_wp2_with fail
    go_ret
    exact ⟨ret_bool (by rw [H.out, e0, e1, e2, e3]; rfl), rfl⟩
section
variable (q : PI) (A : Option Addr) (c : Nat) (w : World)
set_option maxRecDepth 100000 in
theorem cIcheck (hl : q.dat.length ≤ 1000000) : Calls Try.prog 88 #[isv q A c] w fun e w' => e = .returned (.int .i64 (chkI q)) ∧ Below w.heap.size w w' := by
  have hB : Below w.heap.size w (w.alloc (.cells (isa q A c) 44)) := (Below.refl w.heap.size w).alloc (Nat.le_refl _) _
  have hAt := Atis.new (q := q) (A := A) (c := c) w
  have hz : w.heap.size < (w.alloc (.cells (isa q A c) 44)).heap.size := by simp
  rw [isv_eq]
  have HO := Lib.hid (argI_iff q)
  have k0 := hAt.typ; have k1 := hAt.code; have k2 := hAt.rest; have k3 := hAt.dat
  go_enter Try.func88, Try.ntmps88
  go_upto_region 1 with fail
  generalize w.alloc (.cells (isa q A c) 44) = W at *
  by_cases ho : argI q
  · obtain ⟨g0, g1, g2⟩ := HO.out.1 ho
    have H0 := Lib.hid g0; have H1 := Lib.hid g1; have H2 := Lib.hid g2
    clear g0 g1 g2
    by_cases s : 65527 < q.dat.length
    · have HE := Lib.hid (show chkI q = 6 by rw [chkI, if_pos ho, if_pos (by omega)])
      clear ho HO hAt
      go_wp2_with (go_at_call 51; refine (fits_any _ _ _).mono ?_; rintro e w' ⟨rfl, rfl⟩; (first | rw [H0.out] | rw [H1.out] | rw [H2.out] | skip))
      go_ret
      exact ⟨ret_int (by rw [HE.out]), hB⟩
    · have HE := Lib.hid (show chkI q = 0 by rw [chkI, if_pos ho, if_neg (by omega)])
      clear ho HO hAt
      go_wp2_with (go_at_call 51; refine (fits_any _ _ _).mono ?_; rintro e w' ⟨rfl, rfl⟩; (first | rw [H0.out] | rw [H1.out] | rw [H2.out] | skip))
      go_ret
      exact ⟨ret_int (by rw [HE.out]), hB⟩
  · have HE := Lib.hid (show chkI q = 1 by rw [chkI, if_neg ho])
    have hno : ¬ (fitsB q.typ 1 = true ∧ fitsB q.code 1 = true ∧ fitsB q.rest 4 = true) := fun h => ho (HO.out.2 h)
    clear ho HO hAt
    cases h0 : fitsB q.typ 1
    · have H0 := Lib.hid h0; have H1 := H0; have H2 := H0
      clear hno h0
      go_wp2_with (go_at_call 51; refine (fits_any _ _ _).mono ?_; rintro e w' ⟨rfl, rfl⟩; (first | rw [H0.out] | rw [H1.out] | rw [H2.out] | skip))
      go_ret
      exact ⟨ret_int (by rw [HE.out]), hB⟩
    · have H0 := Lib.hid h0
      rw [h0] at hno; clear h0
      cases h1 : fitsB q.code 1
      · have H1 := Lib.hid h1; have H2 := H1
        clear hno h1
        go_wp2_with (go_at_call 51; refine (fits_any _ _ _).mono ?_; rintro e w' ⟨rfl, rfl⟩; (first | rw [H0.out] | rw [H1.out] | rw [H2.out] | skip))
        go_ret
        exact ⟨ret_int (by rw [HE.out]), hB⟩
      · have H1 := Lib.hid h1
        rw [h1] at hno; clear h1
        cases h2 : fitsB q.rest 4
        · have H2 := Lib.hid h2
          clear hno h2
          go_wp2_with (go_at_call 51; refine (fits_any _ _ _).mono ?_; rintro e w' ⟨rfl, rfl⟩; (first | rw [H0.out] | rw [H1.out] | rw [H2.out] | skip))
          go_ret
          exact ⟨ret_int (by rw [HE.out]), hB⟩
        · exact absurd ⟨rfl, rfl, h2⟩ hno
set_option maxRecDepth 100000 in
theorem rIcheck (hl : q.dat.length ≤ 1000000) : Calls Try.prog 95 #[isv q A c] w fun e w' => e = .returned (.int .i64 (chkI q)) ∧ Below w.heap.size w w' := by
  have hB : Below w.heap.size w (w.alloc (.cells (isa q A c) 44)) := (Below.refl w.heap.size w).alloc (Nat.le_refl _) _
  have hAt := Atis.new (q := q) (A := A) (c := c) w
  have hz : w.heap.size < (w.alloc (.cells (isa q A c) 44)).heap.size := by simp
  rw [isv_eq]
  have HO := Lib.hid (argI_iff q)
  have k0 := hAt.typ; have k1 := hAt.code; have k2 := hAt.rest; have k3 := hAt.dat
  go_enter Try.func95, Try.ntmps95
  go_upto_region 1 with fail
  generalize w.alloc (.cells (isa q A c) 44) = W at *
  by_cases ho : argI q
  · obtain ⟨g0, g1, g2⟩ := HO.out.1 ho
    have H0 := Lib.hid g0; have H1 := Lib.hid g1; have H2 := Lib.hid g2
    clear g0 g1 g2
    by_cases s : 65527 < q.dat.length
    · have HE := Lib.hid (show chkI q = 6 by rw [chkI, if_pos ho, if_pos (by omega)])
      clear ho HO hAt
      go_wp2_with (go_at_call 52; refine (rfits_any _ _ _).mono ?_; rintro e w' ⟨rfl, rfl⟩; (first | rw [H0.out] | rw [H1.out] | rw [H2.out] | skip))
      go_ret
      exact ⟨ret_int (by rw [HE.out]), hB⟩
    · have HE := Lib.hid (show chkI q = 0 by rw [chkI, if_pos ho, if_neg (by omega)])
      clear ho HO hAt
      go_wp2_with (go_at_call 52; refine (rfits_any _ _ _).mono ?_; rintro e w' ⟨rfl, rfl⟩; (first | rw [H0.out] | rw [H1.out] | rw [H2.out] | skip))
      go_ret
      exact ⟨ret_int (by rw [HE.out]), hB⟩
  · have HE := Lib.hid (show chkI q = 1 by rw [chkI, if_neg ho])
    have hno : ¬ (fitsB q.typ 1 = true ∧ fitsB q.code 1 = true ∧ fitsB q.rest 4 = true) := fun h => ho (HO.out.2 h)
    clear ho HO hAt
    cases h0 : fitsB q.typ 1
    · have H0 := Lib.hid h0; have H1 := H0; have H2 := H0
      clear hno h0
      go_wp2_with (go_at_call 52; refine (rfits_any _ _ _).mono ?_; rintro e w' ⟨rfl, rfl⟩; (first | rw [H0.out] | rw [H1.out] | rw [H2.out] | skip))
      go_ret
      exact ⟨ret_int (by rw [HE.out]), hB⟩
    · have H0 := Lib.hid h0
      rw [h0] at hno; clear h0
      cases h1 : fitsB q.code 1
      · have H1 := Lib.hid h1; have H2 := H1
        clear hno h1
        go_wp2_with (go_at_call 52; refine (rfits_any _ _ _).mono ?_; rintro e w' ⟨rfl, rfl⟩; (first | rw [H0.out] | rw [H1.out] | rw [H2.out] | skip))
        go_ret
        exact ⟨ret_int (by rw [HE.out]), hB⟩
      · have H1 := Lib.hid h1
        rw [h1] at hno; clear h1
        cases h2 : fitsB q.rest 4
        · have H2 := Lib.hid h2
          clear hno h2
          go_wp2_with (go_at_call 52; refine (rfits_any _ _ _).mono ?_; rintro e w' ⟨rfl, rfl⟩; (first | rw [H0.out] | rw [H1.out] | rw [H2.out] | skip))
          go_ret
          exact ⟨ret_int (by rw [HE.out]), hB⟩
        · exact absurd ⟨rfl, rfl, h2⟩ hno
def numsI (q : PI) : List Int := [q.typ, q.code, q.rest]
theorem idI_eq (n : Int) : bits .and .i64 (n / 65536) 65535 = n / 65536 % 65536 := and_any 16 (n / 65536) (by decide)
end
theorem sameI_nums (q r : PI) : sameI q r = (decide (numsI q = numsI r) && decide (q.dat = r.dat)) := by
  rw [sameI, Bool.eq_iff_iff]; simp [numsI, and_assoc]
section
variable (q r : PI) (A : Option Addr) (c : Nat) (X : Option Addr) (d B : Nat) (w : World)
end
end Go.Proofs.Ytkfbamippjhjcaa

/-
  Contracts of layer 28: whether a fault may be told, of the code and of the document. Conditions are each theorem's own.
-/
namespace Go.Proofs.Ytkfbamippjhjcaa
open Go.RowKit
theorem ofhE {W : World} {g : Nat} {q : P4} {A : Option Addr} {c : Nat} {A' : Option Addr} {c' t : Nat} {fr : Nat × Nat} (h : W.heap[g]? = some (.cells (v4a q A c A' c') t fr)) : At4 W g q A c A' c' := fun j v hj => by
  rw [cell_of_row W g (0 + j) _ _ _ h, Nat.zero_add, ← Array.getElem?_toList]; exact hj
set_option maxRecDepth 100000 in
set_option maxHeartbeats 1000000 in
theorem cEtells (b : List UInt8) (A : Option Addr) (c B : Nat) (w : World) (hA : Arg w B A c b) :
    Calls Try.prog 86 #[.slice A b.length c] w fun e w' => e = .returned (.bool (tnE b)) ∧ Below w.heap.size w w' := by
  by_cases h0 : 0 < b.length
  · have d0 : decide (0 < (b.length : Int)) = true := by simp; omega
    have HT := Lib.hid (show tnE b = !fltI (byt b 0) by rw [tnE, decide_eq_true h0]; rfl)
    obtain ⟨g, off, rfl, hb0, hc0⟩ := hA.rd (by omega)
    have kd0 := hc0 0 (by omega)
    rw [Nat.add_zero] at kd0
    obtain ⟨X0, hX0⟩ : ∃ x, x = byt b 0 := ⟨_, rfl⟩
    have HX0 : IntKind.i64.wrap X0 = X0 := IntWalk.i64_in X0 (by have := byt_lo b 0; have := byt_hi b 0; omega)
    rw [← hX0] at kd0 HT
    clear hX0 hc0 hA
    go_enter Try.func86, Try.ntmps86
    go_wp2_with (go_at_call 107; refine (cIfault _ _).mono ?_; rintro e w1 ⟨rfl, x1⟩)
    go_ret
    exact ⟨ret_bool HT.out.symm, x1⟩
  · have d0 : decide (0 < (b.length : Int)) = false := decide_eq_false (by omega)
    have HT := Lib.hid (show tnE b = false by rw [tnE, decide_eq_false h0]; rfl)

    go_enter Try.func86, Try.ntmps86
    go_wp2_with fail
    go_ret
    exact ⟨ret_bool HT.out.symm, Below.refl _ _⟩
set_option maxRecDepth 100000 in
set_option maxHeartbeats 4000000 in
theorem cEmay (b : List UInt8) (A : Option Addr) (c B : Nat) (w : World) (hA : Arg w B A c b) (hB : B ≤ w.heap.size) (hl : b.length ≤ 1000000) :
    Calls Try.prog 61 #[.slice A b.length c] w fun e w' => e = .returned (.bool (mayE b)) ∧ Below w.heap.size w w' := by
  obtain ⟨q, hq⟩ : ∃ q, q = prsV b true := ⟨_, rfl⟩
  obtain ⟨E, hEe⟩ : ∃ E, E = prsE b true := ⟨_, rfl⟩
  have HE := Lib.hid hEe
  have HQ := Lib.hid hq
  have HM : Hid (mayE b = okE E q) := Lib.hid (by rw [hEe, hq]; rfl)
  have hof : 0 ≤ q.off := by rw [hq]; exact raw_off b
  clear hq hEe
  go_enter Try.func61, Try.ntmps61
  go_upto_region 2 with (first
    | (go_at_call 37; refine (c4quoted b A c w B hA hB hl).mono ?_; rintro e w1 ⟨P, p, P', p', rfl, mo, md⟩; rw [← HQ.out] at mo md; rw [← HQ.out, ← HE.out])
    | ((with_reducible show wpList _ _ _ (Oper.mk _ (Op.store _ _ _) _ _ _ _ :: _) _ _); refine v4_store_new (cs := v4a q P p P' p') rfl rfl rfl rfl (v4a_one _ _ _ _ _) ?_))
  have hbox := World.alloc_heap_new w1 (.cells (v4a q P p P' p') 28)
  have hW : Below w.heap.size w (w1.alloc (.cells (v4a q P p P' p') 28)) := mo.below.alloc mo.below.size _
  obtain ⟨_, _, e2, gd, _, _⟩ := made_shape md
  cases e2
  have gd := gd.alloc (Nat.le_refl _) (.cells (v4a q P p P' p') 28)
  have hz : w1.heap.size < (w1.alloc (.cells (v4a q P p P' p') 28)).heap.size := by simp
  have hBW : w.heap.size ≤ w1.heap.size := mo.below.size
  generalize w1.alloc (.cells (v4a q P p P' p') 28) = W at *
  have at0 := ofhE hbox
  have kpr := at0.proto
  have kof := at0.off
  have ksr := at0.src
  have kds := at0.dst
  have kda := at0.dat
  clear at0 mo md hA
  by_cases h1 : E = 0
  · have e1 : (E == 0) = true := by simp [h1]
    have n1 : (E != 0) = false := by simp [h1]
    clear h1
    by_cases h2 : q.off = 0
    · have e2 : (q.off == 0) = true := by simp [h2]
      have m2 : decide (0 < q.off) = false := by simp [h2]
      clear h2 hof
      cases h3 : hostB q.src
      · have HS := Lib.hid h3
        have E3 := Lib.hid (show okE E q = false by rw [okE, h3]; simp)
        clear h3
        go_wp2_with (first
        | ((with_reducible show Calls _ _ #[.int .i64 q.src] _ _); refine (c3host q.src _).mono ?_; rintro e w2 ⟨rfl, x2⟩; rw [HS.out]; have hW := hW.trans (x2.mono hW.size); have kpr := (x2.cell (p := ⟨w1.heap.size, 4, none⟩) hz).trans kpr; have ksr := (x2.cell (p := ⟨w1.heap.size, 5, none⟩) hz).trans ksr; have kds := (x2.cell (p := ⟨w1.heap.size, 6, none⟩) hz).trans kds; have kda := (x2.cell (p := ⟨w1.heap.size, 10, none⟩) hz).trans kda; have gd := gd.below (x2.mono (Nat.le_of_lt hz)); have hz := Nat.lt_of_lt_of_le hz x2.size)
          | fail)
        go_ret
        exact ⟨ret_bool (by rw [HM.out, E3.out]), hW⟩
      · have HS := Lib.hid h3
        cases h4 : hostB q.dst
        · have HD := Lib.hid h4
          have E3 := Lib.hid (show okE E q = false by rw [okE, h4]; simp)
          clear h3 h4
          go_wp2_with (first
          | ((with_reducible show Calls _ _ #[.int .i64 q.src] _ _); refine (c3host q.src _).mono ?_; rintro e w2 ⟨rfl, x2⟩; rw [HS.out]; have hW := hW.trans (x2.mono hW.size); have kpr := (x2.cell (p := ⟨w1.heap.size, 4, none⟩) hz).trans kpr; have ksr := (x2.cell (p := ⟨w1.heap.size, 5, none⟩) hz).trans ksr; have kds := (x2.cell (p := ⟨w1.heap.size, 6, none⟩) hz).trans kds; have kda := (x2.cell (p := ⟨w1.heap.size, 10, none⟩) hz).trans kda; have gd := gd.below (x2.mono (Nat.le_of_lt hz)); have hz := Nat.lt_of_lt_of_le hz x2.size)
          | ((with_reducible show Calls _ _ #[.int .i64 q.dst] _ _); refine (c3host q.dst _).mono ?_; rintro e w3 ⟨rfl, x3⟩; rw [HD.out]; have hW := hW.trans (x3.mono hW.size); have kpr := (x3.cell (p := ⟨w1.heap.size, 4, none⟩) hz).trans kpr; have ksr := (x3.cell (p := ⟨w1.heap.size, 5, none⟩) hz).trans ksr; have kds := (x3.cell (p := ⟨w1.heap.size, 6, none⟩) hz).trans kds; have kda := (x3.cell (p := ⟨w1.heap.size, 10, none⟩) hz).trans kda; have gd := gd.below (x3.mono (Nat.le_of_lt hz)); have hz := Nat.lt_of_lt_of_le hz x3.size)
            | fail)
          go_ret
          exact ⟨ret_bool (by rw [HM.out, E3.out]), hW⟩
        · have HD := Lib.hid h4
          by_cases h5 : q.proto = 1
          · have e5 : (q.proto != 1) = false := by simp [h5]
            have E3 := Lib.hid (show okE E q = tnE q.dat by rw [okE, e1, e2, h3, h4, e5]; rfl)
            clear h3 h4 h5
            go_wp2_with (first
            | ((with_reducible show Calls _ _ #[.int .i64 q.src] _ _); refine (c3host q.src _).mono ?_; rintro e w2 ⟨rfl, x2⟩; rw [HS.out]; have hW := hW.trans (x2.mono hW.size); have kpr := (x2.cell (p := ⟨w1.heap.size, 4, none⟩) hz).trans kpr; have ksr := (x2.cell (p := ⟨w1.heap.size, 5, none⟩) hz).trans ksr; have kds := (x2.cell (p := ⟨w1.heap.size, 6, none⟩) hz).trans kds; have kda := (x2.cell (p := ⟨w1.heap.size, 10, none⟩) hz).trans kda; have gd := gd.below (x2.mono (Nat.le_of_lt hz)); have hz := Nat.lt_of_lt_of_le hz x2.size)
            | ((with_reducible show Calls _ _ #[.int .i64 q.dst] _ _); refine (c3host q.dst _).mono ?_; rintro e w3 ⟨rfl, x3⟩; rw [HD.out]; have hW := hW.trans (x3.mono hW.size); have kpr := (x3.cell (p := ⟨w1.heap.size, 4, none⟩) hz).trans kpr; have ksr := (x3.cell (p := ⟨w1.heap.size, 5, none⟩) hz).trans ksr; have kds := (x3.cell (p := ⟨w1.heap.size, 6, none⟩) hz).trans kds; have kda := (x3.cell (p := ⟨w1.heap.size, 10, none⟩) hz).trans kda; have gd := gd.below (x3.mono (Nat.le_of_lt hz)); have hz := Nat.lt_of_lt_of_le hz x3.size)
            | (go_at_call 86; refine (cEtells q.dat P' p' _ _ gd).mono ?_; rintro e w4 ⟨rfl, x4⟩; have hW := hW.trans (x4.mono hW.size))
              | fail)
            go_ret
            exact ⟨ret_bool (by rw [HM.out, E3.out]), hW⟩
          · have e5 : (q.proto != 1) = true := by simp [h5]
            have E3 := Lib.hid (show okE E q = true by rw [okE, e1, e2, h3, h4, e5]; rfl)
            clear h3 h4 h5
            go_wp2_with (first
            | ((with_reducible show Calls _ _ #[.int .i64 q.src] _ _); refine (c3host q.src _).mono ?_; rintro e w2 ⟨rfl, x2⟩; rw [HS.out]; have hW := hW.trans (x2.mono hW.size); have kpr := (x2.cell (p := ⟨w1.heap.size, 4, none⟩) hz).trans kpr; have ksr := (x2.cell (p := ⟨w1.heap.size, 5, none⟩) hz).trans ksr; have kds := (x2.cell (p := ⟨w1.heap.size, 6, none⟩) hz).trans kds; have kda := (x2.cell (p := ⟨w1.heap.size, 10, none⟩) hz).trans kda; have gd := gd.below (x2.mono (Nat.le_of_lt hz)); have hz := Nat.lt_of_lt_of_le hz x2.size)
            | ((with_reducible show Calls _ _ #[.int .i64 q.dst] _ _); refine (c3host q.dst _).mono ?_; rintro e w3 ⟨rfl, x3⟩; rw [HD.out]; have hW := hW.trans (x3.mono hW.size); have kpr := (x3.cell (p := ⟨w1.heap.size, 4, none⟩) hz).trans kpr; have ksr := (x3.cell (p := ⟨w1.heap.size, 5, none⟩) hz).trans ksr; have kds := (x3.cell (p := ⟨w1.heap.size, 6, none⟩) hz).trans kds; have kda := (x3.cell (p := ⟨w1.heap.size, 10, none⟩) hz).trans kda; have gd := gd.below (x3.mono (Nat.le_of_lt hz)); have hz := Nat.lt_of_lt_of_le hz x3.size)
              | fail)
            go_ret
            exact ⟨ret_bool (by rw [HM.out, E3.out]), hW⟩
    · have e2 : (q.off == 0) = false := by simp [h2]
      have m2 : decide (0 < q.off) = true := by simp; omega
      have E3 := Lib.hid (show okE E q = false by rw [okE, e2]; simp)
      clear h2 hof
      go_wp2_with fail
      go_ret
      exact ⟨ret_bool (by rw [HM.out, E3.out]), hW⟩
  · have e1 : (E == 0) = false := by simp [h1]
    have n1 : (E != 0) = true := by simp [h1]
    have E3 := Lib.hid (show okE E q = false by rw [okE, e1]; rfl)
    clear h1 hof
    go_wp2_with fail
    go_ret
    exact ⟨ret_bool (by rw [HM.out, E3.out]), hW⟩
set_option maxRecDepth 100000 in
set_option maxHeartbeats 4000000 in
theorem rEmay (b : List UInt8) (A : Option Addr) (c B : Nat) (w : World) (hA : Arg w B A c b) (hB : B ≤ w.heap.size) (hl : b.length ≤ 1000000) :
    Calls Try.prog 66 #[.slice A b.length c] w fun e w' => e = .returned (.bool (mayE b)) ∧ Below w.heap.size w w' := by
  obtain ⟨q, hq⟩ : ∃ q, q = prsV b true := ⟨_, rfl⟩
  obtain ⟨E, hEe⟩ : ∃ E, E = prsE b true := ⟨_, rfl⟩
  have HE := Lib.hid hEe
  have HQ := Lib.hid hq
  have HM : Hid (mayE b = okE E q) := Lib.hid (by rw [hEe, hq]; rfl)
  have hof : 0 ≤ q.off := by rw [hq]; exact raw_off b
  clear hq hEe
  go_enter Try.func66, Try.ntmps66
  go_upto_region 2 with (first
    | (go_at_call 40; refine (r5quoted b A c w B hA hB hl).mono ?_; rintro e w1 ⟨P, p, P', p', rfl, mo, md⟩; rw [← HQ.out] at mo md; rw [← HQ.out, ← HE.out])
    | ((with_reducible show wpList _ _ _ (Oper.mk _ (Op.store _ _ _) _ _ _ _ :: _) _ _); refine v4_store_new (cs := v4a q P p P' p') rfl rfl rfl rfl (v4a_one _ _ _ _ _) ?_))
  have hbox := World.alloc_heap_new w1 (.cells (v4a q P p P' p') 28)
  have hW : Below w.heap.size w (w1.alloc (.cells (v4a q P p P' p') 28)) := mo.below.alloc mo.below.size _
  obtain ⟨_, _, e2, gd, _, _⟩ := made_shape md
  cases e2
  have gd := gd.alloc (Nat.le_refl _) (.cells (v4a q P p P' p') 28)
  have hz : w1.heap.size < (w1.alloc (.cells (v4a q P p P' p') 28)).heap.size := by simp
  have hBW : w.heap.size ≤ w1.heap.size := mo.below.size
  generalize w1.alloc (.cells (v4a q P p P' p') 28) = W at *
  have at0 := ofhE hbox
  have kpr := at0.proto
  have kof := at0.off
  have ksr := at0.src
  have kds := at0.dst
  have kda := at0.dat
  clear at0 mo md hA
  by_cases h1 : E = 0
  · have e1 : (E == 0) = true := by simp [h1]
    have n1 : (E != 0) = false := by simp [h1]
    clear h1
    by_cases h2 : q.off = 0
    · have e2 : (q.off == 0) = true := by simp [h2]
      have m2 : decide (0 < q.off) = false := by simp [h2]
      clear h2 hof
      cases h3 : hostB q.src
      · have HS := Lib.hid h3
        have E3 := Lib.hid (show okE E q = false by rw [okE, h3]; simp)
        clear h3
        go_wp2_with (first
        | ((with_reducible show Calls _ _ #[.int .i64 q.src] _ _); refine (r3host q.src _).mono ?_; rintro e w2 ⟨rfl, rfl⟩; rw [HS.out])
          | fail)
        go_ret
        exact ⟨ret_bool (by rw [HM.out, E3.out]), hW⟩
      · have HS := Lib.hid h3
        cases h4 : hostB q.dst
        · have HD := Lib.hid h4
          have E3 := Lib.hid (show okE E q = false by rw [okE, h4]; simp)
          clear h3 h4
          go_wp2_with (first
          | ((with_reducible show Calls _ _ #[.int .i64 q.src] _ _); refine (r3host q.src _).mono ?_; rintro e w2 ⟨rfl, rfl⟩; rw [HS.out])
          | ((with_reducible show Calls _ _ #[.int .i64 q.dst] _ _); refine (r3host q.dst _).mono ?_; rintro e w3 ⟨rfl, rfl⟩; rw [HD.out])
            | fail)
          go_ret
          exact ⟨ret_bool (by rw [HM.out, E3.out]), hW⟩
        · have HD := Lib.hid h4
          by_cases h5 : q.proto = 1
          · have e5 : (q.proto != 1) = false := by simp [h5]
            have E3 := Lib.hid (show okE E q = tnE q.dat by rw [okE, e1, e2, h3, h4, e5]; rfl)
            clear h3 h4 h5
            by_cases h0 : 0 < q.dat.length
            · have d0 : decide (0 < (q.dat.length : Int)) = true := by simp; omega
              have HT := Lib.hid (show tnE q.dat = !fltI (byt q.dat 0) by rw [tnE, decide_eq_true h0]; rfl)
              obtain ⟨g0, off0, rfl, hb0, hc0⟩ := gd.rd (by omega)
              have kd0 := hc0 0 (by omega)
              rw [Nat.add_zero] at kd0
              obtain ⟨X0, hX0⟩ : ∃ x, x = byt q.dat 0 := ⟨_, rfl⟩
              have HX0 : IntKind.i64.wrap X0 = X0 := IntWalk.i64_in X0 (by have := byt_lo q.dat 0; have := byt_hi q.dat 0; omega)
              rw [← hX0] at kd0 HT
              clear hX0 hc0 gd
              go_wp2_with (first
              | ((with_reducible show Calls _ _ #[.int .i64 q.src] _ _); refine (r3host q.src _).mono ?_; rintro e w2 ⟨rfl, rfl⟩; rw [HS.out])
              | ((with_reducible show Calls _ _ #[.int .i64 q.dst] _ _); refine (r3host q.dst _).mono ?_; rintro e w3 ⟨rfl, rfl⟩; rw [HD.out])
              | (go_at_call 94; refine (rIfault _ _).mono ?_; rintro e w4 ⟨rfl, rfl⟩)
                | fail)
              go_ret
              exact ⟨ret_bool (by rw [HM.out, E3.out, HT.out]), hW⟩
            · have d0 : decide (0 < (q.dat.length : Int)) = false := decide_eq_false (by omega)
              have HT := Lib.hid (show tnE q.dat = false by rw [tnE, decide_eq_false h0]; rfl)
              go_wp2_with (first
              | ((with_reducible show Calls _ _ #[.int .i64 q.src] _ _); refine (r3host q.src _).mono ?_; rintro e w2 ⟨rfl, rfl⟩; rw [HS.out])
              | ((with_reducible show Calls _ _ #[.int .i64 q.dst] _ _); refine (r3host q.dst _).mono ?_; rintro e w3 ⟨rfl, rfl⟩; rw [HD.out])
                | fail)
              go_ret
              exact ⟨ret_bool (by rw [HM.out, E3.out, HT.out]), hW⟩
          · have e5 : (q.proto != 1) = true := by simp [h5]
            have E3 := Lib.hid (show okE E q = true by rw [okE, e1, e2, h3, h4, e5]; rfl)
            clear h3 h4 h5
            go_wp2_with (first
            | ((with_reducible show Calls _ _ #[.int .i64 q.src] _ _); refine (r3host q.src _).mono ?_; rintro e w2 ⟨rfl, rfl⟩; rw [HS.out])
            | ((with_reducible show Calls _ _ #[.int .i64 q.dst] _ _); refine (r3host q.dst _).mono ?_; rintro e w3 ⟨rfl, rfl⟩; rw [HD.out])
              | fail)
            go_ret
            exact ⟨ret_bool (by rw [HM.out, E3.out]), hW⟩
    · have e2 : (q.off == 0) = false := by simp [h2]
      have m2 : decide (0 < q.off) = true := by simp; omega
      have E3 := Lib.hid (show okE E q = false by rw [okE, e2]; simp)
      clear h2 hof
      go_wp2_with fail
      go_ret
      exact ⟨ret_bool (by rw [HM.out, E3.out]), hW⟩
  · have e1 : (E == 0) = false := by simp [h1]
    have n1 : (E != 0) = true := by simp [h1]
    have E3 := Lib.hid (show okE E q = false by rw [okE, e1]; rfl)
    clear h1 hof
    go_wp2_with fail
    go_ret
    exact ⟨ret_bool (by rw [HM.out, E3.out]), hW⟩
end Go.Proofs.Ytkfbamippjhjcaa

/-
  Contracts of layer 9's buildHead, Build, Bytes, the program's and the document's. Conditions are each theorem's own.
-/
namespace Go.Proofs.Ytkfbamippjhjcaa
open Go.RowKit

theorem arg_two (W : World) (t : TypeId) (x y : UInt8) {m n : Int} (h : m = (x.toNat : Int)) (h' : n = (y.toNat : Int)) : Arg (W.alloc (.cells #[.int .u8 m, .int .u8 n] t)) (W.heap.size + 1) (some ⟨W.heap.size, 0, none⟩) 2 [x, y] :=
  ⟨Rd.of_block (World.alloc_heap_new W _) (Nat.lt_succ_self _) 0 (fun j hj => by
    have : j = 0 ∨ j = 1 := by have := hj; simp at this; omega
    rcases this with rfl | rfl
    · subst h; rfl
    · subst h'; rfl), by simp, fun e => by cases e⟩
section
variable (q : PI) (A : Option Addr) (c : Nat) (w : World)
set_option maxRecDepth 100000 in
set_option maxHeartbeats 1000000 in
theorem cIhead (s : Int) (hd : List UInt8) (hhd : Hid (hd = hdI q s)) (ha : argI q) (s0 : 0 ≤ s) (s1 : s ≤ 65535) :
    Calls Try.prog 89 #[isv q A c, .int .i64 s] w fun e w' => ∃ v, e = .returned v ∧ Made w w' v hd := by
  have hB : Below w.heap.size w (w.alloc (.cells (isa q A c) 44)) := (Below.refl w.heap.size w).alloc (Nat.le_refl _) _
  have hAt := Atis.new (q := q) (A := A) (c := c) w
  have hz : w.heap.size < (w.alloc (.cells (isa q A c) 44)).heap.size := by simp
  rw [isv_eq]
  obtain ⟨L1, h1⟩ : ∃ l, l = [u8 q.typ, u8 q.code] ++ be2 s := ⟨_, rfl⟩
  have H1 := Lib.hid (show putB [u8 q.typ, u8 q.code] s 2 = L1 by rw [put_two s0 s1, h1])
  have H2 := Lib.hid (show putB L1 q.rest 4 = hd by rw [put_four ha.2.2.2.2.1 ha.2.2.2.2.2, h1, hhd.out, hdI])
  have l1 := Lib.hid (show L1.length ≤ 4 by rw [h1]; simp [be2])
  have kt : q.typ % 256 = ((u8 q.typ).toNat : Int) := by rw [u8_val]
  have kc : q.code % 256 = ((u8 q.code).toNat : Int) := by rw [u8_val]
  have hA0 : ∀ W : World, Arg (W.alloc (.cells #[.int .u8 (q.typ % 256), .int .u8 (q.code % 256)] 5)) (W.heap.size + 1) (some ⟨W.heap.size, 0, none⟩) 2 [u8 q.typ, u8 q.code] := fun W => arg_two W 5 (u8 q.typ) (u8 q.code) kt kc
  clear h1 ha kt kc
  have k0 := hAt.typ; have k1 := hAt.code
  go_enter Try.func89, Try.ntmps89
  go_upto_region 1 with fail
  generalize w.alloc (.cells (isa q A c) 44) = W at *
  go_upto_region 2 with fail
  have hA0 := hA0 W
  have xR : Below W.heap.size W (W.alloc (.cells #[.int .u8 (q.typ % 256), .int .u8 (q.code % 256)] 5)) := (Below.refl _ W).alloc (Nat.le_refl _) _
  have hAtR := hAt.below xR (by omega)
  have zR : W.heap.size + 1 ≤ (W.alloc (.cells #[.int .u8 (q.typ % 256), .int .u8 (q.code % 256)] 5)).heap.size := by simp
  have hzR : w.heap.size < (W.alloc (.cells #[.int .u8 (q.typ % 256), .int .u8 (q.code % 256)] 5)).heap.size := by omega
  clear k0 k1 hAt
  generalize W.alloc (.cells #[.int .u8 (q.typ % 256), .int .u8 (q.code % 256)] 5) = R at *
  refine wp_region_held_drew (S := fun w' => Below R.heap.size R w') (by kernel_rfl) (Below.refl _ R).drew (fun hS => ?_)
  refine held_pure (i := 0) (oi := ⟨some 13, _, _, _, _, _⟩) rfl (by kernel_rfl) (by kernel_rfl) (by kernel_rfl) (fun _ _ _ h => h) (by rfl) (v := ?_) (fun w hSw => ?_) hS (fun hS => ?_)
  rotate_left
  · go_simp; try with_reducible rfl
  try go_frame
  refine held_pure (i := 1) (oi := ⟨some 14, _, _, _, _, _⟩) rfl (by kernel_rfl) (by kernel_rfl) (by kernel_rfl) (fun _ _ _ h => h) (by rfl) (v := ?_) (fun w hSw => ?_) hS (fun hS => ?_)
  rotate_left
  · go_simp; try with_reducible rfl
  try go_frame
  refine held_pure (i := 3) (oi := ⟨some 16, _, _, _, _, _⟩) rfl (by kernel_rfl) (by kernel_rfl) (by kernel_rfl) (fun _ _ _ h => h) (by rfl) (v := ?_) (fun w hSw => ?_) hS (fun hS => ?_)
  rotate_left
  · go_simp; try with_reducible rfl
  try go_frame
  refine held_pure (i := 4) (oi := ⟨some 17, _, _, _, _, _⟩) rfl (by kernel_rfl) (by kernel_rfl) (by kernel_rfl) (fun _ _ _ h => h) (by rfl) (fun w hSw => run_load_int rfl rfl ((hAtR.below hSw hzR).rest)) hS (fun hS => ?_)
  try go_frame
  refine wpAnyH_ready (rs := [2]) (by kernel_rfl) (by simp) (AllReadyH.cons (o := ⟨some 15, _, _, _, _, _⟩) rfl (fun K hK => ?_) AllReadyH.nil)
  rw [if_pos (by rfl)]
  go_simp
  refine (put_any (some ⟨W.heap.size, 0, none⟩) [u8 q.typ, u8 q.code] 2 _ s 2 _ (hA0.below (hS.mono zR)).rd (by have := hS.size; omega) (by simp)).mono ?_
  rintro e w1 ⟨v1, rfl, m1⟩
  rw [H1.out] at m1
  obtain ⟨A1, c1, rfl, g1, o1, x1⟩ := made_shape m1
  have hS1 := hS
  show K _ _
  refine hK.out _ _ (below_step hS x1) (fun hS => ?_)
  clear hK K
  try go_frame
  refine wpAnyH_ready (rs := [5]) (by kernel_rfl) (by simp) (AllReadyH.cons (o := ⟨some 18, _, _, _, _, _⟩) rfl (fun K hK => ?_) AllReadyH.nil)
  rw [if_pos (by rfl)]
  go_simp
  refine (put_any A1 L1 c1 _ q.rest 4 _ g1.rd (by have := hS.size; omega) (by have := l1.out; omega)).mono ?_
  rintro e w2 ⟨v2, rfl, m2⟩
  rw [H2.out] at m2
  obtain ⟨A2, c2, rfl, g2, o2, x2⟩ := made_shape m2
  have hS2 := hS
  show K _ _
  refine hK.out _ _ (below_step hS x2) (fun hS => ?_)
  clear hK K
  try go_frame
  refine held_pure (i := 6) (oi := ⟨some 4, _, _, _, _, _⟩) rfl (by kernel_rfl) (by kernel_rfl) (by kernel_rfl) (fun _ _ _ h => h) (by rfl) (v := ?_) (fun w hSw => ?_) hS (fun hS => ?_)
  rotate_left
  · go_simp; try with_reducible rfl
  try go_frame
  refine wpAnyH_done (by kernel_rfl) ?_ _
  go_wp2_with fail
  go_ret
  exact ⟨_, rfl, m2.after (hB.trans ((xR.trans (hS2.mono (by omega))).mono (by omega)))⟩
set_option maxRecDepth 100000 in
set_option maxHeartbeats 1000000 in
theorem rIbytes (B : Nat) (s : Int) (bs : List UInt8) (hbs : Hid (bs = hdI q s ++ q.dat)) (ha : argI q) (hl : q.dat.length ≤ 1000000) (s0 : 0 ≤ s) (s1 : s ≤ 65535) (hD : Arg w B A c q.dat) (hB0 : B ≤ w.heap.size) :
    Calls Try.prog 96 #[isv q A c, .int .i64 s] w fun e w' => ∃ v, e = .returned v ∧ Made w w' v bs := by
  have hB : Below w.heap.size w (w.alloc (.cells (isa q A c) 44)) := (Below.refl w.heap.size w).alloc (Nat.le_refl _) _
  have hAt := Atis.new (q := q) (A := A) (c := c) w
  have hz : w.heap.size < (w.alloc (.cells (isa q A c) 44)).heap.size := by simp
  rw [isv_eq]
  obtain ⟨L1, h1⟩ : ∃ l, l = [u8 q.typ, u8 q.code] ++ be2 s := ⟨_, rfl⟩
  have H1 := Lib.hid (show putB [u8 q.typ, u8 q.code] s 2 = L1 by rw [put_two s0 s1, h1])
  obtain ⟨L2, h2⟩ : ∃ l, l = L1 ++ be4 q.rest := ⟨_, rfl⟩
  have H2 := Lib.hid (show putB L1 q.rest 4 = L2 by rw [put_four ha.2.2.2.2.1 ha.2.2.2.2.2, h2])
  have H5 := Lib.hid (show bs = L2 ++ q.dat by rw [h2, h1, hbs.out, hdI])
  have l1 := Lib.hid (show L1.length ≤ 4 by rw [h1]; simp [be2])
  have l2 := Lib.hid (show L2.length ≤ 8 by rw [h2, h1]; simp [be2, be4])
  have kt : q.typ % 256 = ((u8 q.typ).toNat : Int) := by rw [u8_val]
  have kc : q.code % 256 = ((u8 q.code).toNat : Int) := by rw [u8_val]
  clear h1 h2 ha hbs
  have k0 := hAt.typ; have k1 := hAt.code
  have hA0 : ∀ W : World, Arg (W.alloc (.cells #[.int .u8 (q.typ % 256), .int .u8 (q.code % 256)] 5)) (W.heap.size + 1) (some ⟨W.heap.size, 0, none⟩) 2 [u8 q.typ, u8 q.code] := fun W => arg_two W 5 (u8 q.typ) (u8 q.code) kt kc
  clear kt kc
  go_enter Try.func96, Try.ntmps96
  go_upto_region 1 with fail
  generalize w.alloc (.cells (isa q A c) 44) = W at *
  go_upto_region 2 with (go_at_call 75; refine (rput_any (some ⟨W.heap.size, 0, none⟩) [u8 q.typ, u8 q.code] 2 _ s 2 _ (hA0 W) (by simp)).mono ?_; rintro e w3 ⟨v3, rfl, m3⟩; rw [H1.out] at m3; obtain ⟨A3, c3, rfl, g3, o3, x3⟩ := made_shape m3)
  have x3a : Below W.heap.size W w3 := ((Below.refl _ W).alloc (Nat.le_refl _) (.cells #[.int .u8 (q.typ % 256), .int .u8 (q.code % 256)] 5)).trans (x3.mono (by simp))
  have hAt3 := hAt.below x3a (by omega)
  have z3 := x3a.size
  clear k0 k1 hA0 hAt x3
  refine wp_region_held_drew (S := fun w' => Below w3.heap.size w3 w') (by kernel_rfl) (Below.refl _ w3).drew (fun hS => ?_)
  refine held_pure (i := 0) (oi := ⟨some 15, _, _, _, _, _⟩) rfl (by kernel_rfl) (by kernel_rfl) (by kernel_rfl) (fun _ _ _ h => h) (by rfl) (v := ?_) (fun w hSw => ?_) hS (fun hS => ?_)
  rotate_left
  · go_simp; try with_reducible rfl
  try go_frame
  refine held_pure (i := 1) (oi := ⟨some 16, _, _, _, _, _⟩) rfl (by kernel_rfl) (by kernel_rfl) (by kernel_rfl) (fun _ _ _ h => h) (by rfl) (v := ?_) (fun w hSw => ?_) hS (fun hS => ?_)
  rotate_left
  · go_simp; try with_reducible rfl
  try go_frame
  refine held_pure (i := 2) (oi := ⟨some 17, _, _, _, _, _⟩) rfl (by kernel_rfl) (by kernel_rfl) (by kernel_rfl) (fun _ _ _ h => h) (by rfl) (fun w hSw => run_load_int rfl rfl ((hAt3.below hSw (by omega)).rest)) hS (fun hS => ?_)
  try go_frame
  refine held_pure (i := 4) (oi := ⟨some 19, _, _, _, _, _⟩) rfl (by kernel_rfl) (by kernel_rfl) (by kernel_rfl) (fun _ _ _ h => h) (by rfl) (v := ?_) (fun w hSw => ?_) hS (fun hS => ?_)
  rotate_left
  · go_simp; try with_reducible rfl
  try go_frame
  refine held_pure (i := 5) (oi := ⟨some 20, _, _, _, _, _⟩) rfl (by kernel_rfl) (by kernel_rfl) (by kernel_rfl) (fun _ _ _ h => h) (by rfl) (fun w hSw => run_load_sl rfl rfl ((hAt3.below hSw (by omega)).dat)) hS (fun hS => ?_)
  try go_frame
  refine wpAnyH_ready (rs := [3]) (by kernel_rfl) (by simp) (AllReadyH.cons (o := ⟨some 18, _, _, _, _, _⟩) rfl (fun K hK => ?_) AllReadyH.nil)
  rw [if_pos (by rfl)]
  go_simp
  refine (rput_any A3 L1 c3 _ q.rest 4 _ (g3.drewN 1) (by have := l1.out; omega)).mono ?_
  rintro e w4 ⟨v4, rfl, m4⟩
  rw [H2.out] at m4
  obtain ⟨A4, c4, rfl, g4, o4, x4⟩ := made_shape m4
  have hS4 := hS
  show K _ _
  refine hK.out _ _ (below_step hS x4) (fun hS => ?_)
  clear hK K
  try go_frame
  refine wpAnyH_ready (rs := [6]) (by kernel_rfl) (by simp) (AllReadyH.cons (o := ⟨some 21, _, _, _, _, _⟩) rfl (fun K hK => ?_) AllReadyH.nil)
  rw [if_pos (by rfl)]
  refine append_wp _ _ rfl w3.heap.size _ _ _ rfl o4 B A c q.dat rfl hD.none_ ((hD.below ((hB.trans ((x3a.trans (hS.mono (by omega))).mono (by omega))).mono hB0)).rd) (by have := l2.out; omega) hS.size ?_
  intro v5 w5 own5 grow5
  obtain ⟨A5, c5, rfl, owm5⟩ := own_made (bs := bs) own5 (by rw [H5.out]; simp) (by rw [H5.out, row_append])
  refine hK.out _ _ (hS.grown grow5 hS.size (fun k hk => own_block_ge o4 k hk)) (fun hS => ?_)
  clear hK K
  try go_frame
  refine held_pure (i := 7) (oi := ⟨some 4, _, _, _, _, _⟩) rfl (by kernel_rfl) (by kernel_rfl) (by kernel_rfl) (fun _ _ _ h => h) (by rfl) (v := ?_) (fun w hSw => ?_) hS (fun hS => ?_)
  rotate_left
  · go_simp; try with_reducible rfl
  try go_frame
  refine wpAnyH_done (by kernel_rfl) ?_ _
  go_wp2_with fail
  go_ret
  exact ⟨_, rfl, Made.of_own (own_base owm5 (by omega)) (hB.trans ((x3a.trans (hS.mono (by omega))).mono (by omega)))⟩
end
end Go.Proofs.Ytkfbamippjhjcaa

/-
  Contracts of layer 9's Build, the program's and the document's. Conditions are each theorem's own.
-/
namespace Go.Proofs.Ytkfbamippjhjcaa
open Go.RowKit

theorem of_two (A : Option Addr) (a b : List UInt8) (c B : Nat) (N : Int) (hN : Hid (N = 65535 - fold (psum [a, b]))) (w : World) (h : Rd2 w B A [a, b]) (hB : B ≤ w.heap.size) (hl : a.length + b.length ≤ 1099511627000) :
    Calls Try.prog 90 #[.slice A 2 c] w fun x w' => x = .returned (.int .i64 N) ∧ Below w.heap.size w w' := by
  have h1 := of_any A [a, b] c B w h hB (by rw [bulk2]; omega) (by simp)
  rw [← hN.out] at h1
  exact h1
theorem rof_oneN (A : Option Addr) (a : List UInt8) (c B : Nat) (N : Int) (hN : Hid (N = 65535 - fold (psum [a]))) (w : World) (h : Rd2 w B A [a]) (hl : a.length ≤ 1099511627000) :
    Calls Try.prog 47 #[.slice A 1 c] w fun e w' => e = .returned (.int .i64 N) ∧ ∃ n, w' = w.drewN n := by
  have h1 := rof_one A a c B w h hl
  rw [← hN.out] at h1
  exact h1
section
variable (q : PI) (A : Option Addr) (c : Nat) (w : World)
set_option maxRecDepth 100000 in
set_option maxHeartbeats 1000000 in
theorem cIbuild (B : Nat) (hD : Arg w B A c q.dat) (hB0 : B ≤ w.heap.size) (hl : q.dat.length ≤ 1000000) :
    Calls Try.prog 64 #[isv q A c] w fun e w' => ∃ v, e = .returned (.tuple #[v, .int .i64 (chkI q)]) ∧ (chkI q ≠ 0 → v = .slice none 0 0 ∧ Below w.heap.size w w') ∧ (chkI q = 0 → Made w w' v (bldI [] q)) := by
  have hB : Below w.heap.size w (w.alloc (.cells (isa q A c) 44)) := (Below.refl w.heap.size w).alloc (Nat.le_refl _) _
  have hAt := Atis.new (q := q) (A := A) (c := c) w
  have hz : w.heap.size < (w.alloc (.cells (isa q A c) 44)).heap.size := by simp
  rw [isv_eq]
  go_enter Try.func64, Try.ntmps64
  go_upto_region 1 with fail
  generalize w.alloc (.cells (isa q A c) 44) = W at *
  by_cases hc : chkI q = 0
  · have HC := Lib.hid hc
    obtain ⟨ha, hl2⟩ := chkI_ok hc
    clear hc
    obtain ⟨N, hN⟩ : ∃ n, n = smI [] q := ⟨_, rfl⟩
    have bd := smI_bd [] q
    have hN0 : 0 ≤ N := by rw [hN]; exact bd.1
    have hN1 : N ≤ 65535 := by rw [hN]; exact bd.2
    obtain ⟨HD, hHD⟩ : ∃ l, l = hdI q 0 := ⟨_, rfl⟩
    obtain ⟨HE, hHE⟩ : ∃ l, l = hdI q N := ⟨_, rfl⟩
    have HSM := Lib.hid (show N = 65535 - fold (psum [HD, q.dat]) by rw [hN, hHD]; exact smI_nil q)
    have HHL := Lib.hid (show HD.length = 8 by rw [hHD, hdI_len])
    have HEL := Lib.hid (show HE.length = 8 by rw [hHE, hdI_len])
    have HBL := Lib.hid (show bldI [] q = HE ++ q.dat by rw [hHE, hN]; rfl)
    have HHD := Lib.hid hHD; have HHE := Lib.hid hHE
    clear hHD hHE
    clear bd hN
    go_upto_region 4 with (first
      | ((with_reducible show wpList _ _ _ (Oper.mk _ (Op.load 44 _) _ _ _ _ :: _) _ _); refine wpList_val rfl (run_load_is rfl rfl hAt rfl) ?_)
      | (go_at_call 88; refine (cIcheck q A c _ hl).mono ?_; rintro e w1 ⟨rfl, x1⟩; rw [HC.out]))
    refine wp_region_held_drew (S := fun w' => Below W.heap.size W w') (by kernel_rfl) x1.drew (fun hS => ?_)
    refine held_pure (i := 0) (oi := ⟨some 10, _, _, _, _, _⟩) rfl (by kernel_rfl) (by kernel_rfl) (by kernel_rfl) (fun _ _ _ h => h) (by rfl) (fun w hSw => run_load_is rfl rfl (hAt.below hSw (by omega)) rfl) hS (fun hS => ?_)
    try go_frame
    refine held_pure (i := 1) (oi := ⟨some 11, _, _, _, _, _⟩) rfl (by kernel_rfl) (by kernel_rfl) (by kernel_rfl) (fun _ _ _ h => h) (by rfl) (fun w hSw => run_load_is rfl rfl (hAt.below hSw (by omega)) rfl) hS (fun hS => ?_)
    try go_frame
    refine held_pure (i := 3) (oi := ⟨some 13, _, _, _, _, _⟩) rfl (by kernel_rfl) (by kernel_rfl) (by kernel_rfl) (fun _ _ _ h => h) (by rfl) (v := ?_) (fun w hSw => ?_) hS (fun hS => ?_)
    rotate_left
    · go_simp; try with_reducible rfl
    try go_frame
    refine held_pure (i := 4) (oi := ⟨some 14, _, _, _, _, _⟩) rfl (by kernel_rfl) (by kernel_rfl) (by kernel_rfl) (fun _ _ _ h => h) (by rfl) (fun w hSw => run_load_sl rfl rfl ((hAt.below hSw (by omega)).dat)) hS (fun hS => ?_)
    try go_frame
    refine held_pure (i := 8) (oi := ⟨some 18, _, _, _, _, _⟩) rfl (by kernel_rfl) (by kernel_rfl) (by kernel_rfl) (fun _ _ _ h => h) (by rfl) (v := ?_) (fun w hSw => ?_) hS (fun hS => ?_)
    rotate_left
    · go_simp; try with_reducible rfl
    try go_frame
    refine held_pure (i := 9) (oi := ⟨some 19, _, _, _, _, _⟩) rfl (by kernel_rfl) (by kernel_rfl) (by kernel_rfl) (fun _ _ _ h => h) (by rfl) (fun w hSw => run_load_sl rfl rfl ((hAt.below hSw (by omega)).dat)) hS (fun hS => ?_)
    try go_frame
    refine wpAnyH_ready (rs := [2]) (by kernel_rfl) (by simp) (AllReadyH.cons (o := ⟨some 12, _, _, _, _, _⟩) rfl (fun K hK => ?_) AllReadyH.nil)
    rw [if_pos (by rfl)]
    go_simp
    refine (cIhead q A c _ 0 HD HHD ha (by omega) (by omega)).mono ?_
    rintro e w2 ⟨v2, rfl, m2⟩
    obtain ⟨A2, c2, rfl, g2, o2, x2⟩ := made_shape m2
    have hS2 := below_step hS x2
    have hT2 := hS
    show K _ _
    refine hK.out _ _ (below_step hS x2) (fun hS => ?_)
    clear hK K
    try go_frame
    refine wpAnyH_ready (rs := [5]) (by kernel_rfl) (by simp) (AllReadyH.cons (o := ⟨some 15, _, _, _, _, _⟩) rfl (fun K hK => ?_) AllReadyH.nil)
    rw [if_pos (by rfl)]
    go_simp
    refine hK.out _ _ (hS.alloc hS.size _) (fun hS => ?_)
    clear hK K
    try go_frame
    refine wpAnyH_ready (rs := [6]) (by kernel_rfl) (by simp) (AllReadyH.cons (o := ⟨some 16, _, _, _, _, _⟩) rfl (fun K hK => ?_) AllReadyH.nil)
    rw [if_pos (by rfl)]
    go_simp
    refine (of_two (some ⟨w2.heap.size, 0, none⟩) HD q.dat 2 _ N HSM _ (Rd2.two rfl rfl (World.alloc_heap_new w2 _) (Nat.lt_succ_self _) ((g2.alloc (Nat.le_refl _) _).more (Nat.le_succ _)) (((hD.below ((hB.trans (hS2.mono (by omega))).mono hB0)).alloc (by have := hS2.size; omega) _).more (by have := hS2.size; omega))) (by simp) (by have := HHL.out; omega)).mono ?_
    rintro e w6 ⟨rfl, x6⟩
    show K _ _
    refine hK.out _ _ (below_step hS x6) (fun hS => ?_)
    clear hK K
    try go_frame
    refine wpAnyH_ready (rs := [7]) (by kernel_rfl) (by simp) (AllReadyH.cons (o := ⟨some 17, _, _, _, _, _⟩) rfl (fun K hK => ?_) AllReadyH.nil)
    rw [if_pos (by rfl)]
    go_simp
    refine (cIhead q A c _ N HE HHE ha (by omega) (by omega)).mono ?_
    rintro e w7 ⟨v7, rfl, m7⟩
    obtain ⟨A7, c7, rfl, g7, o7, x7⟩ := made_shape m7
    have hS7 := below_step hS x7
    have hT7 := hS
    show K _ _
    refine hK.out _ _ (below_step hS x7) (fun hS => ?_)
    clear hK K
    try go_frame
    refine wpAnyH_ready (rs := [10]) (by kernel_rfl) (by simp) (AllReadyH.cons (o := ⟨some 20, _, _, _, _, _⟩) rfl (fun K hK => ?_) AllReadyH.nil)
    rw [if_pos (by rfl)]
    refine append_wp _ _ rfl W.heap.size _ _ _ rfl (own_base o7 (by have := hT7.size; omega)) B A c q.dat rfl hD.none_ ((hD.below ((hB.trans (hS.mono (by omega))).mono hB0)).rd) (by have := HEL.out; omega) hS.size ?_
    intro v8 w8 own8 grow8
    obtain ⟨A8, c8, rfl, owm8⟩ := own_made (bs := bldI [] q) own8 (by rw [HBL.out]; simp) (by rw [HBL.out, row_append])
    refine hK.out _ _ (hS.grown grow8 hS.size (fun k hk => own_block_ge (own_base o7 (by have := hT7.size; omega)) k hk)) (fun hS => ?_)
    clear hK K
    try go_frame
    refine held_pure (i := 11) (oi := ⟨some 2, _, _, _, _, _⟩) rfl (by kernel_rfl) (by kernel_rfl) (by kernel_rfl) (fun _ _ _ h => h) (by rfl) (v := ?_) (fun w hSw => ?_) hS (fun hS => ?_)
    rotate_left
    · go_simp; try with_reducible rfl
    try go_frame
    refine held_pure (i := 12) (oi := ⟨some 3, _, _, _, _, _⟩) rfl (by kernel_rfl) (by kernel_rfl) (by kernel_rfl) (fun _ _ _ h => h) (by rfl) (v := ?_) (fun w hSw => ?_) hS (fun hS => ?_)
    rotate_left
    · go_simp; try with_reducible rfl
    try go_frame
    refine wpAnyH_done (by kernel_rfl) ?_ _
    go_wp2_with fail
    go_ret2
    exact ⟨.slice A8 (bldI [] q).length c8, by rw [HC.out]; rfl, fun h => absurd HC.out h, fun _ => Made.of_own (own_base owm8 (by omega)) (hB.trans (hS.mono (by omega)))⟩
  · have hne : (chkI q != 0) = true := by simpa using hc
    have HN := Lib.hid hc
    clear hc
    go_wp2_with (first
      | ((with_reducible show wpList _ _ _ (Oper.mk _ (Op.load 44 _) _ _ _ _ :: _) _ _); refine wpList_val rfl (run_load_is rfl rfl hAt rfl) ?_)
      | (go_at_call 88; refine (cIcheck q A c _ hl).mono ?_; rintro e w1 ⟨rfl, x1⟩; skip))
    go_ret2
    exact ⟨.slice none 0 0, rfl, fun _ => ⟨rfl, hB.trans (x1.mono (by omega))⟩, fun h => absurd h HN.out⟩
set_option maxRecDepth 100000 in
set_option maxHeartbeats 1000000 in
theorem rIbuild (B : Nat) (hD : Arg w B A c q.dat) (hB0 : B ≤ w.heap.size) (hl : q.dat.length ≤ 1000000) :
    Calls Try.prog 67 #[isv q A c] w fun e w' => ∃ v, e = .returned (.tuple #[v, .int .i64 (chkI q)]) ∧ (chkI q ≠ 0 → v = .slice none 0 0 ∧ Below w.heap.size w w') ∧ (chkI q = 0 → Made w w' v (bldI [] q)) := by
  have hB : Below w.heap.size w (w.alloc (.cells (isa q A c) 44)) := (Below.refl w.heap.size w).alloc (Nat.le_refl _) _
  have hAt := Atis.new (q := q) (A := A) (c := c) w
  have hz : w.heap.size < (w.alloc (.cells (isa q A c) 44)).heap.size := by simp
  rw [isv_eq]
  go_enter Try.func67, Try.ntmps67
  go_upto_region 1 with fail
  generalize w.alloc (.cells (isa q A c) 44) = W at *
  by_cases hc : chkI q = 0
  · have HC := Lib.hid hc
    obtain ⟨ha, hl2⟩ := chkI_ok hc
    clear hc
    obtain ⟨N, hN⟩ : ∃ n, n = smI [] q := ⟨_, rfl⟩
    have bd := smI_bd [] q
    have hN0 : 0 ≤ N := by rw [hN]; exact bd.1
    have hN1 : N ≤ 65535 := by rw [hN]; exact bd.2
    obtain ⟨B0, hb0⟩ : ∃ l, l = hdI q 0 ++ q.dat := ⟨_, rfl⟩
    have HB0 := Lib.hid hb0
    have lB := Lib.hid (show B0.length = 8 + q.dat.length by rw [hb0, List.length_append, hdI_len])
    have HSM1 := Lib.hid (show N = 65535 - fold (psum [B0]) by rw [hN, hb0]; exact smI_one q)
    have HBL2 := Lib.hid (show bldI [] q = hdI q N ++ q.dat by rw [hN]; rfl)
    clear hb0
    clear bd hN
    go_upto_region 4 with (first
      | ((with_reducible show wpList _ _ _ (Oper.mk _ (Op.load 44 _) _ _ _ _ :: _) _ _); refine wpList_val rfl (run_load_is rfl rfl hAt rfl) ?_)
      | (go_at_call 95; refine (rIcheck q A c _ hl).mono ?_; rintro e w1 ⟨rfl, x1⟩; rw [HC.out]))
    refine wp_region_held_drew (S := fun w' => Below W.heap.size W w') (by kernel_rfl) x1.drew (fun hS => ?_)
    refine held_pure (i := 0) (oi := ⟨some 10, _, _, _, _, _⟩) rfl (by kernel_rfl) (by kernel_rfl) (by kernel_rfl) (fun _ _ _ h => h) (by rfl) (fun w hSw => run_load_is rfl rfl (hAt.below hSw (by omega)) rfl) hS (fun hS => ?_)
    try go_frame
    refine held_pure (i := 1) (oi := ⟨some 11, _, _, _, _, _⟩) rfl (by kernel_rfl) (by kernel_rfl) (by kernel_rfl) (fun _ _ _ h => h) (by rfl) (fun w hSw => run_load_is rfl rfl (hAt.below hSw (by omega)) rfl) hS (fun hS => ?_)
    try go_frame
    refine wpAnyH_ready (rs := [2]) (by kernel_rfl) (by simp) (AllReadyH.cons (o := ⟨some 12, _, _, _, _, _⟩) rfl (fun K hK => ?_) AllReadyH.nil)
    rw [if_pos (by rfl)]
    go_simp
    refine (rIbytes q A c _ B 0 B0 HB0 ha hl (by omega) (by omega) (hD.below ((hB.trans (hS.mono (by omega))).mono hB0)) (by have := hS.size; omega)).mono ?_
    rintro e w2 ⟨v2, rfl, m2⟩
    obtain ⟨A2, c2, rfl, g2, o2, x2⟩ := made_shape m2
    have hS2 := below_step hS x2
    show K _ _
    refine hK.out _ _ (below_step hS x2) (fun hS => ?_)
    clear hK K
    try go_frame
    refine wpAnyH_ready (rs := [3]) (by kernel_rfl) (by simp) (AllReadyH.cons (o := ⟨some 13, _, _, _, _, _⟩) rfl (fun K hK => ?_) AllReadyH.nil)
    rw [if_pos (by rfl)]
    go_simp
    refine hK.out _ _ (hS.alloc hS.size _) (fun hS => ?_)
    clear hK K
    try go_frame
    refine wpAnyH_ready (rs := [4]) (by kernel_rfl) (by simp) (AllReadyH.cons (o := ⟨some 14, _, _, _, _, _⟩) rfl (fun K hK => ?_) AllReadyH.nil)
    rw [if_pos (by rfl)]
    go_simp
    refine (rof_oneN (some ⟨w2.heap.size, 0, none⟩) B0 1 _ N HSM1 _ (Rd2.one (World.alloc_heap_new w2 _) (Nat.lt_succ_self _) ((g2.alloc (Nat.le_refl _) _).more (Nat.le_succ _))) (by have := lB.out; omega)).mono ?_
    rintro e w4 ⟨rfl, n4, rfl⟩
    show K _ _
    refine hK.out _ _ (below_drewN hS _) (fun hS => ?_)
    clear hK K
    try go_frame
    refine wpAnyH_ready (rs := [5]) (by kernel_rfl) (by simp) (AllReadyH.cons (o := ⟨some 15, _, _, _, _, _⟩) rfl (fun K hK => ?_) AllReadyH.nil)
    rw [if_pos (by rfl)]
    go_simp
    refine (rIbytes q A c _ B N (bldI [] q) HBL2 ha hl hN0 hN1 (hD.below ((hB.trans (hS.mono (by omega))).mono hB0)) (by have := hS.size; omega)).mono ?_
    rintro e w5 ⟨v5, rfl, m5⟩
    have hS5 := hS
    show K _ _
    refine hK.out _ _ (below_step hS m5.below) (fun hS => ?_)
    clear hK K
    try go_frame
    refine held_pure (i := 6) (oi := ⟨some 2, _, _, _, _, _⟩) rfl (by kernel_rfl) (by kernel_rfl) (by kernel_rfl) (fun _ _ _ h => h) (by rfl) (v := ?_) (fun w hSw => ?_) hS (fun hS => ?_)
    rotate_left
    · go_simp; try with_reducible rfl
    try go_frame
    refine held_pure (i := 7) (oi := ⟨some 3, _, _, _, _, _⟩) rfl (by kernel_rfl) (by kernel_rfl) (by kernel_rfl) (fun _ _ _ h => h) (by rfl) (v := ?_) (fun w hSw => ?_) hS (fun hS => ?_)
    rotate_left
    · go_simp; try with_reducible rfl
    try go_frame
    refine wpAnyH_done (by kernel_rfl) ?_ _
    go_wp2_with fail
    go_ret2
    exact ⟨v5, by rw [HC.out]; rfl, fun h => absurd HC.out h, fun _ => m5.after (hB.trans (hS5.mono (by omega)))⟩
  · have hne : (chkI q != 0) = true := by simpa using hc
    have HN := Lib.hid hc
    clear hc
    go_wp2_with (first
      | ((with_reducible show wpList _ _ _ (Oper.mk _ (Op.load 44 _) _ _ _ _ :: _) _ _); refine wpList_val rfl (run_load_is rfl rfl hAt rfl) ?_)
      | (go_at_call 95; refine (rIcheck q A c _ hl).mono ?_; rintro e w1 ⟨rfl, x1⟩; skip))
    go_ret2
    exact ⟨.slice none 0 0, rfl, fun _ => ⟨rfl, hB.trans (x1.mono (by omega))⟩, fun h => absurd h HN.out⟩
end
end Go.Proofs.Ytkfbamippjhjcaa
