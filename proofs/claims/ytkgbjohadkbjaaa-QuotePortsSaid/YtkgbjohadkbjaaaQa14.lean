/-
  Contracts and lemmas on which the proofs of this seat stand (several texts in one). Conditions are each theorem's own.
-/
import Derived.Test.YtkgbjohadkbjaaaQa13

/-
  What is quoted, from another endpoint: its ports are those, and nothing but addresses, ports and sums is changed. No program. Conditions are each theorem's own.
-/
namespace Go.Proofs.Ytkgbjohadkbjaaa
open Go.RowKit
section
variable {b : List UInt8} {q : P4} {H : Nat}
theorem putQ_byt (hq : Quo b q H) (fr : Bool) (a n : Int) (k : Nat) : byt (putQ b q H fr a n) k =
    if sisQ q = true ∧ H + satQ q ≤ k ∧ k < H + satQ q + 2 then byt (be2 (wtQ b q H fr a n)) (k - (H + satQ q))
    else if 10 ≤ k ∧ k < 12 then byt (be2 (hsQ b fr a)) (k - 10)
    else if H + ppQ q.proto fr ≤ k ∧ k < H + ppQ q.proto fr + 2 then byt (be2 n) (k - (H + ppQ q.proto fr))
    else if whQ fr ≤ k ∧ k < whQ fr + 4 then byt (be4 a) (k - whQ fr) else byt b k := by
  have h1 := hq.h20; have h2 := hq.le; have h3 := hq.d8; have h4 := ppQ_le q.proto fr; have h5 := wh_le fr
  have e1 : (splice b (whQ fr) (be4 a)).length = b.length := splice_len (by rw [be4_len]; omega)
  have e2 : (splice (splice b (whQ fr) (be4 a)) (H + ppQ q.proto fr) (be2 n)).length = b.length := by rw [splice_len (by rw [be2_len, e1]; omega), e1]
  have hbase : byt (baseQ b q H fr a n) k = if 10 ≤ k ∧ k < 12 then byt (be2 (hsQ b fr a)) (k - 10)
    else if H + ppQ q.proto fr ≤ k ∧ k < H + ppQ q.proto fr + 2 then byt (be2 n) (k - (H + ppQ q.proto fr))
    else if whQ fr ≤ k ∧ k < whQ fr + 4 then byt (be4 a) (k - whQ fr) else byt b k := by
    rw [baseQ, splice_byt (by rw [be2_len, e2]; omega), splice_byt (by rw [be2_len, e1]; omega), splice_byt (by rw [be4_len]; omega)]
    rfl
  unfold putQ
  by_cases hs : sisQ q = true
  · have hsat : satQ q + 2 ≤ q.dat.length := by
      simp only [sisQ, Bool.and_eq_true, decide_eq_true_eq] at hs
      exact hs.1
    rw [if_pos hs, splice_byt (by rw [be2_len, baseQ_len hq]; omega), hbase]
    by_cases hk : H + satQ q ≤ k ∧ k < H + satQ q + 2
    · rw [if_pos (show H + satQ q ≤ k ∧ k < H + satQ q + (be2 (wtQ b q H fr a n)).length from hk), if_pos ⟨hs, hk⟩]
    · rw [if_neg (show ¬ (H + satQ q ≤ k ∧ k < H + satQ q + (be2 (wtQ b q H fr a n)).length) from hk), if_neg (show ¬ (sisQ q = true ∧ H + satQ q ≤ k ∧ k < H + satQ q + 2) from fun h => hk h.2)]
  · rw [if_neg hs, hbase, if_neg (show ¬ (sisQ q = true ∧ H + satQ q ≤ k ∧ k < H + satQ q + 2) from fun h => hs h.1)]
theorem sat_facts (hq : Quo b q H) : (q.proto = 1 ∧ satQ q = 2) ∨ (q.proto ≠ 1 ∧ 6 ≤ satQ q) := by
  rcases hq.pr with (h | h) | ⟨h, _⟩
  · exact .inr ⟨by omega, by rw [satQ, if_neg (by omega), if_neg (by omega)]; omega⟩
  · exact .inr ⟨by omega, by rw [satQ, if_pos h]; omega⟩
  · exact .inl ⟨h, by rw [satQ, if_neg (by omega), if_pos h]⟩
theorem be4_byt (a : Int) : byt (be4 a) 0 = a / 16777216 % 256 ∧ byt (be4 a) 1 = a / 65536 % 256 ∧ byt (be4 a) 2 = a / 256 % 256 ∧ byt (be4 a) 3 = a % 256 := ⟨u8_val _, u8_val _, u8_val _, u8_val _⟩
theorem be2_byt (n : Int) : byt (be2 n) 0 = n / 256 % 256 ∧ byt (be2 n) 1 = n % 256 := ⟨u8_val _, u8_val _⟩
theorem putQ_quo (hq : Quo b q H) (fr : Bool) {a n : Int} (ha : 0 ≤ a ∧ a < 4294967296) (hn : 0 ≤ n ∧ n ≤ 65535) :
    ∃ q', Quo (putQ b q H fr a n) q' H ∧ q'.proto = q.proto ∧ (if fr = true then q'.src = a ∧ q'.dst = q.dst else q'.dst = a ∧ q'.src = q.src) ∧ n2 q'.dat (ppQ q.proto fr) = n ∧ (q.proto ≠ 1 → n2 q'.dat (ppQ q.proto (!fr)) = n2 q.dat (ppQ q.proto (!fr))) := by
  have h1 := hq.h20; have h2 := hq.le; have h3 := hq.d8; have h4 := ppQ_le q.proto fr; have h5 := wh_le fr
  obtain ⟨C, hC⟩ : ∃ l, l = putQ b q H fr a n := ⟨_, rfl⟩
  have hB := putQ_byt hq fr a n
  have hCl : C.length = b.length := by rw [hC]; exact putQ_len hq fr a n
  rw [← hC] at hB ⊢
  have low : ∀ k, k < 10 → byt C k = byt b k := fun k hk => by
    rw [hB k, if_neg (by omega), if_neg (by omega), if_neg (by omega), if_neg (by omega)]
  have hh : hlen C = hlen b := by rw [hlen, hlen, low 0 (by omega)]
  have e2 : n2 C 2 = n2 b 2 := by unfold n2; rw [low 2 (by omega), low (2 + 1) (by omega)]
  have e6 : n2 C 6 = n2 b 6 := by unfold n2; rw [low 6 (by omega), low (6 + 1) (by omega)]
  have hbad : bad4 C true = bad4 b true := by
    unfold bad4
    rw [hCl, low 0 (by omega), hh, e2, e6]
    simp
  have hok := hq.ok
  have hpe : prsE C true = 0 := by
    have hb0 : bad4 b true = 0 := by
      unfold prsE at hok
      split at hok
      · assumption
      · exact hok
    rw [prsE, if_pos (by rw [hbad]; exact hb0), if_neg (by rintro ⟨g, _⟩; cases g)]
  have hpv : prsV C true = raw4 C := by rw [prsV, if_pos hpe]
  have hdl : (raw4 C).dat.length = q.dat.length := by
    rw [hq.raw]
    show ((C.take (min (n2 C 2) (C.length : Int)).toNat).drop (hlen C).toNat).length = ((b.take (min (n2 b 2) (b.length : Int)).toNat).drop (hlen b).toNat).length
    rw [hh, e2, hCl]
    simp [hCl]
  have hdat : ∀ i, i < q.dat.length → byt (raw4 C).dat i = byt C (H + i) := fun i hi => by
    have hHt : (hlen C).toNat = H := by rw [hh, ← hq.hHi]; exact Int.toNat_natCast H
    have hd : (raw4 C).dat = (C.take (min (n2 C 2) (C.length : Int)).toNat).drop (hlen C).toNat := rfl
    have hlen' : i + H < (min (n2 C 2) (C.length : Int)).toNat := by
      have := hdl
      rw [hd, List.length_drop, List.length_take, hHt] at this
      omega
    rw [hd, hHt]
    unfold byt
    rw [List.getElem?_drop, List.getElem?_take, if_pos (by omega)]
  have hpr : (raw4 C).proto = q.proto := by rw [hq.prb]; exact low 9 (by omega)
  have hsf := sat_facts hq
  have hoff : ¬ 0 < (raw4 C).off := by
    have : (raw4 C).off = q.off := by rw [hq.raw]; show n2 C 6 % 8192 * 8 = n2 b 6 % 8192 * 8; rw [e6]
    rw [this]; exact hq.off
  have hz : q.proto = 1 → byt (raw4 C).dat 0 = byt q.dat 0 := fun h => by
    have hp4 : ppQ q.proto fr = 4 := by rw [ppQ, if_pos h]
    rw [hdat 0 (by omega), hq.dat 0 (by omega), hB (H + 0), if_neg (by omega), if_neg (by omega), if_neg (by omega), if_neg (by omega)]
  have hE : qE C = 0 := by
    rw [qE, if_neg (by rw [hpe]; simp), hpv, if_neg hoff, if_neg (by omega), hpr]
    rcases hq.pr with g | g
    · rw [if_pos g]
    · split
      · rfl
      · rw [if_pos ⟨g.1, by rw [hz g.1]; exact g.2⟩]
  obtain ⟨q', H', hq'⟩ := qE_quo hE
  have eq' : q' = raw4 C := hq'.raw
  have eH : H' = H := by
    have h6 := hq'.hHi
    have h7 := hq.hHi
    rw [hh] at h6
    omega
  subst eH
  refine ⟨q', hq', by rw [eq', hpr], ?_, ?_, fun hp => ?_⟩
  · have n4C : ∀ i, 12 ≤ i → i ≤ 16 → (∀ j, j < 4 → byt C (i + j) = byt b (i + j)) → n4 C i = n4 b i := fun i _ _ hj => by
      unfold n4
      rw [show byt C i = byt b i from hj 0 (by omega), hj 1 (by omega), hj 2 (by omega), hj 3 (by omega)]
    have n4A : n4 C (whQ fr) = a := by
      obtain ⟨a0, a1, a2, a3⟩ := be4_byt a
      have hj : ∀ j, j < 4 → byt C (whQ fr + j) = byt (be4 a) j := fun j hj => by
        rw [hB, if_neg (by omega), if_neg (by omega), if_neg (by omega), if_pos (by omega), Nat.add_sub_cancel_left]
      unfold n4
      rw [show byt C (whQ fr) = byt (be4 a) 0 from hj 0 (by omega), hj 1 (by omega), hj 2 (by omega), hj 3 (by omega), a0, a1, a2, a3]
      omega
    rw [hq'.src, hq'.dst, hq.src, hq.dst]
    cases fr
    · rw [if_neg (by decide)]
      refine ⟨n4A, n4C 12 (by omega) (by omega) fun j hj => ?_⟩
      have hw : whQ false = 16 := rfl
      rw [hB, if_neg (by omega), if_neg (by omega), if_neg (by omega), if_neg (by omega)]
    · rw [if_pos rfl]
      refine ⟨n4A, n4C 16 (by omega) (by omega) fun j hj => ?_⟩
      have hw : whQ true = 12 := rfl
      rw [hB, if_neg (by omega), if_neg (by omega), if_neg (by omega), if_neg (by omega)]
  · obtain ⟨b0, b1⟩ := be2_byt n
    have hdl' : q'.dat.length = q.dat.length := by rw [eq']; exact hdl
    rw [hq'.n2 (by omega)]
    have hppx : (q.proto = 1 → ppQ q.proto fr = 4) ∧ (q.proto ≠ 1 → ppQ q.proto fr ≤ 2) := ⟨fun h => by rw [ppQ, if_pos h], fun h => by rw [ppQ, if_neg h]; split <;> omega⟩
    unfold n2
    rw [hB (H' + ppQ q.proto fr), if_neg (by omega), if_neg (by omega), if_pos (by omega), Nat.sub_self, hB (H' + ppQ q.proto fr + 1), if_neg (by omega), if_neg (by omega), if_pos (by omega), Nat.add_sub_cancel_left, b0, b1]
    omega
  · have hdl' : q'.dat.length = q.dat.length := by rw [eq']; exact hdl
    have hpp2 := ppQ_le q.proto (!fr)
    have hppx : (ppQ q.proto fr = 0 ∧ ppQ q.proto (!fr) = 2) ∨ (ppQ q.proto fr = 2 ∧ ppQ q.proto (!fr) = 0) := by
      unfold ppQ
      rw [if_neg hp, if_neg hp]
      cases fr
      · exact .inr ⟨rfl, rfl⟩
      · exact .inl ⟨rfl, rfl⟩
    rw [hq'.n2 (by omega), hq.n2 (by omega)]
    unfold n2
    rw [hB (H' + ppQ q.proto (!fr)), if_neg (by omega), if_neg (by omega), if_neg (by omega), if_neg (by omega), hB (H' + ppQ q.proto (!fr) + 1), if_neg (by omega), if_neg (by omega), if_neg (by omega), if_neg (by omega)]
theorem putQ_ten (hq : Quo b q H) (fr : Bool) (a n : Int) : (putQ b q H fr a n).take 10 = b.take 10 := by
  have h1 := hq.h20; have h2 := hq.le; have h5 := wh_le fr; have h4 := ppQ_le q.proto fr
  have hl := putQ_len hq fr a n
  apply List.ext_getElem?
  intro k
  rw [List.getElem?_take, List.getElem?_take]
  split
  · rename_i hk
    have e := putQ_byt hq fr a n k
    rw [if_neg (by omega), if_neg (by omega), if_neg (by omega), if_neg (by omega)] at e
    have c1 : k < (putQ b q H fr a n).length := by omega
    have c2 : k < b.length := by omega
    rw [List.getElem?_eq_getElem c1, List.getElem?_eq_getElem c2]
    unfold byt at e
    rw [List.getElem?_eq_getElem c1, List.getElem?_eq_getElem c2] at e
    simp only [Option.getD_some] at e
    congr 1
    apply UInt8.toNat_inj.1
    omega
  · rfl
end
end Go.Proofs.Ytkgbjohadkbjaaa
