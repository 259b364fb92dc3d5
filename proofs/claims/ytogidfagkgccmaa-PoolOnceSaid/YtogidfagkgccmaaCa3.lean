/-
  Contracts and lemmas on which the proofs of this seat stand (several texts in one). Conditions are each theorem's own.
-/
import Derived.Test.YtogidfagkgccmaaCa2
import Derived.Deep.Cut
import Derived.Deep.CutRange
import Derived.Deep.WholeRow
import Derived.Test.YtogidfagkgccmaaCa1
import Derived.Deep.MidRow

/-
  Packets of IPv4, there and back: what is built is parsed, what is parsed is built. Plain lists of bytes, no program. Conditions are each theorem's own.
-/
namespace Go.Proofs.Ytogidfagkgccmaa
open Go.RowKit

theorem chk4_ok {q : P4} (h : chk4 q = 0) : arg4 q ∧ size4 q ≤ 65535 ∧ q.off + (q.dat.length : Int) ≤ 65535 := by
  unfold chk4 at h
  split at h
  · rename_i ha
    split at h
    · cases h
    · exact ⟨ha, by omega, by omega⟩
  · cases h
/-- The head's twenty bytes. -/
def l20 (q : P4) : List UInt8 := hda q (size4 q) ++ be2 (sum4 q) ++ [u8 (q.src / 16777216), u8 (q.src / 65536), u8 (q.src / 256), u8 q.src, u8 (q.dst / 16777216), u8 (q.dst / 65536), u8 (q.dst / 256), u8 q.dst]
theorem bld4_l20 (q : P4) (more : List UInt8) : bld4 q ++ more = l20 q ++ (q.opt ++ (q.dat ++ more)) := by
  simp [bld4, hd4, l20, hdb, List.append_assoc]
theorem hd4_l20 (q : P4) : hd4 q (size4 q) (sum4 q) = l20 q ++ q.opt := by simp [hd4, l20, hdb, List.append_assoc]
theorem l20_len (q : P4) : (l20 q).length = 20 := by simp [l20, hda, be2]
section
variable {q : P4} {more : List UInt8}
theorem byt_b (i : Nat) (hi : i < 20) : byt (bld4 q ++ more) i = byt (l20 q) i := by
  rw [bld4_l20]; exact byt_left (by rw [l20_len]; exact hi)
theorem back_fields (h : chk4 q = 0) :
    hlen (bld4 q ++ more) = head4 q ∧ byt (bld4 q ++ more) 0 / 16 = 4 ∧ n2 (bld4 q ++ more) 2 = size4 q ∧ n2 (bld4 q ++ more) 6 = flags4 q ∧ n2 (bld4 q ++ more) 4 = q.id ∧ byt (bld4 q ++ more) 1 = q.tos ∧ byt (bld4 q ++ more) 8 = q.ttl ∧
      byt (bld4 q ++ more) 9 = q.proto ∧ n4 (bld4 q ++ more) 12 = q.src ∧ n4 (bld4 q ++ more) 16 = q.dst := by
  obtain ⟨⟨a1, a2, a3, a4, a5, a6, a7, a8, a9, a10, a11, a12, a13, a14, a15, a16, a17, a18⟩, hs, ho⟩ := chk4_ok h
  have hh : head4 q = 20 + (q.opt.length : Int) := rfl
  have hz : size4 q = head4 q + (q.dat.length : Int) := rfl
  have hf : 0 ≤ flags4 q ∧ flags4 q < 32768 := by unfold flags4 bit; split <;> split <;> omega
  have b : ∀ i, i < 20 → byt (bld4 q ++ more) i = byt (l20 q) i := fun i hi => byt_b i hi
  have c0 : byt (l20 q) 0 = (64 + head4 q / 4) % 256 := u8_val _
  have c1 : byt (l20 q) 1 = q.tos % 256 := u8_val _
  have c2 : byt (l20 q) 2 = size4 q / 256 % 256 := u8_val _
  have c3 : byt (l20 q) 3 = size4 q % 256 := u8_val _
  have c4 : byt (l20 q) 4 = q.id / 256 % 256 := u8_val _
  have c5 : byt (l20 q) 5 = q.id % 256 := u8_val _
  have c6 : byt (l20 q) 6 = flags4 q / 256 % 256 := u8_val _
  have c7 : byt (l20 q) 7 = flags4 q % 256 := u8_val _
  have c8 : byt (l20 q) 8 = q.ttl % 256 := u8_val _
  have c9 : byt (l20 q) 9 = q.proto % 256 := u8_val _
  have c12 : byt (l20 q) 12 = q.src / 16777216 % 256 := u8_val _
  have c13 : byt (l20 q) 13 = q.src / 65536 % 256 := u8_val _
  have c14 : byt (l20 q) 14 = q.src / 256 % 256 := u8_val _
  have c15 : byt (l20 q) 15 = q.src % 256 := u8_val _
  have c16 : byt (l20 q) 16 = q.dst / 16777216 % 256 := u8_val _
  have c17 : byt (l20 q) 17 = q.dst / 65536 % 256 := u8_val _
  have c18 : byt (l20 q) 18 = q.dst / 256 % 256 := u8_val _
  have c19 : byt (l20 q) 19 = q.dst % 256 := u8_val _
  unfold hlen n2 n4
  rw [b 0 (by omega), b 1 (by omega), b 2 (by omega), b 3 (by omega), b 4 (by omega), b 5 (by omega), b 6 (by omega), b 7 (by omega), b 8 (by omega), b 9 (by omega), b 12 (by omega), b 13 (by omega), b 14 (by omega), b 15 (by omega),
    b 16 (by omega), b 17 (by omega), b 18 (by omega), b 19 (by omega), c0, c1, c2, c3, c4, c5, c6, c7, c8, c9, c12, c13, c14, c15, c16, c17, c18, c19]
  clear b c0 c1 c2 c3 c4 c5 c6 c7 c8 c9 c12 c13 c14 c15 c16 c17 c18 c19 h
  have h4 : head4 q % 4 = 0 := by omega
  refine ⟨by omega, by omega, by omega, by omega, by omega, by omega, by omega, by omega, by omega, by omega⟩
theorem back_take (n : Nat) (hn : n = 20 + q.opt.length) : (bld4 q ++ more).take n = hd4 q (size4 q) (sum4 q) := by
  rw [bld4, List.append_assoc, List.take_left' (by rw [hd4_len, hn])]
theorem back_raw (h : chk4 q = 0) : raw4 (bld4 q ++ more) = q := by
  obtain ⟨f0, f1, f2, f3, f4, f5, f6, f7, f8, f9⟩ := back_fields (more := more) h
  obtain ⟨⟨a1, a2, a3, a4, a5, a6, a7, a8, a9, a10, a11, a12, a13, a14, a15, a16, a17, a18⟩, hs, ho⟩ := chk4_ok h
  have hh : head4 q = 20 + (q.opt.length : Int) := rfl
  have hz : size4 q = head4 q + (q.dat.length : Int) := rfl
  have hl : (bld4 q ++ more).length = 20 + q.opt.length + q.dat.length + more.length := by rw [List.length_append, bld4_len]
  have d1 : (head4 q).toNat = 20 + q.opt.length := by omega
  have d2 : (min (size4 q) ((bld4 q ++ more).length : Int)).toNat = 20 + q.opt.length + q.dat.length := by rw [hl]; omega
  have e1 : (bld4 q ++ more).take (20 + q.opt.length + q.dat.length) = bld4 q := List.take_left' (by rw [bld4_len])
  have e2 : (bld4 q).drop (20 + q.opt.length) = q.dat := by rw [bld4, List.drop_left' (by rw [hd4_len])]
  have e3 : (hd4 q (size4 q) (sum4 q)).drop 20 = q.opt := by rw [hd4_l20, List.drop_left' (l20_len q)]
  have g1 : flags4 q % 8192 * 8 = q.off := by unfold flags4 bit; split <;> split <;> omega
  have g2 : decide (flags4 q / 16384 % 2 = 1) = q.df := by
    rw [Bool.eq_iff_iff, decide_eq_true_iff]; unfold flags4 bit
    cases q.df <;> cases q.mf <;> simp <;> omega
  have g3 : decide (flags4 q / 8192 % 2 = 1) = q.mf := by
    rw [Bool.eq_iff_iff, decide_eq_true_iff]; unfold flags4 bit
    cases q.df <;> cases q.mf <;> simp <;> omega
  unfold raw4 fl4
  rw [f0, f2, f3, f4, f5, f6, f7, f8, f9, d1, d2, e1, e2, back_take _ rfl, e3, g1, g2, g3]
theorem back_ok (h : chk4 q = 0) : prsE (bld4 q ++ more) false = 0 ∧ prsV (bld4 q ++ more) false = q := by
  have hraw := back_raw (more := more) h
  obtain ⟨f0, f1, f2, f3, f4, f5, f6, f7, f8, f9⟩ := back_fields (more := more) h
  obtain ⟨⟨a1, a2, a3, a4, a5, a6, a7, a8, a9, a10, a11, a12, a13, a14, a15, a16, a17, a18⟩, hs, ho⟩ := chk4_ok h
  have hh : head4 q = 20 + (q.opt.length : Int) := rfl
  have hz : size4 q = head4 q + (q.dat.length : Int) := rfl
  have hl : (bld4 q ++ more).length = 20 + q.opt.length + q.dat.length + more.length := by rw [List.length_append, bld4_len]
  have hf : flags4 q < 32768 := by unfold flags4 bit; split <;> split <;> omega
  have hb : bad4 (bld4 q ++ more) false = 0 := by
    unfold bad4
    rw [if_neg (by omega), f0, f1, f2, f3, if_neg (by omega), if_neg (by rw [hl]; omega), if_neg (by omega), if_neg ?_]
    rw [show (head4 q).toNat = 20 + q.opt.length from by omega, back_take _ rfl, head_right]; simp
  have he : prsE (bld4 q ++ more) false = 0 := by
    unfold prsE
    rw [if_pos hb, hraw, if_neg (by rw [h]; simp)]
  exact ⟨he, by rw [prsV, if_pos he, hraw]⟩
end

theorem ub {b : List UInt8} {i : Nat} (h : i < b.length) : u8 (byt b i) = b[i] := by
  apply UInt8.toNat_inj.1
  have h1 := u8_val (byt b i)
  have h2 := byt_lo b i
  have h3 := byt_hi b i
  have h4 : byt b i = (b[i].toNat : Int) := by simp [byt, h]
  omega
theorem u8_eq {b : List UInt8} {i : Nat} {n : Int} (h : i < b.length) (e : n % 256 = byt b i) : u8 n = b[i] := by
  rw [← ub h]
  apply UInt8.toNat_inj.1
  have h1 := u8_val (byt b i)
  have h2 := u8_val n
  have h3 := byt_lo b i
  have h4 := byt_hi b i
  omega
theorem drop_eight {l : List UInt8} (h : 20 ≤ l.length) : l.drop 12 = [l[12], l[13], l[14], l[15], l[16], l[17], l[18], l[19]] ++ l.drop 20 := by
  rw [List.drop_eq_getElem_cons (show 12 < l.length by omega), List.drop_eq_getElem_cons (show 13 < l.length by omega), List.drop_eq_getElem_cons (show 14 < l.length by omega), List.drop_eq_getElem_cons (show 15 < l.length by omega),
    List.drop_eq_getElem_cons (show 16 < l.length by omega), List.drop_eq_getElem_cons (show 17 < l.length by omega), List.drop_eq_getElem_cons (show 18 < l.length by omega), List.drop_eq_getElem_cons (show 19 < l.length by omega)]
  rfl
theorem take_ten {l : List UInt8} (h : 10 ≤ l.length) : l.take 10 = [l[0], l[1], l[2], l[3], l[4], l[5], l[6], l[7], l[8], l[9]] := by
  match l, h with
  | a :: b :: c :: d :: e :: f :: g :: i :: j :: k :: r, _ => rfl
/-- What is parsed may be, and its bytes are the bytes, but for the sum. -/
theorem again4 {b : List UInt8} (h : prsE b false = 0) : prsV b false = raw4 b ∧ chk4 (raw4 b) = 0 ∧ (bld4 (raw4 b)).length = (n2 b 2).toNat ∧ (n2 b 2).toNat ≤ b.length ∧ 20 ≤ (n2 b 2).toNat ∧
    (bld4 (raw4 b)).take 10 = b.take 10 ∧ (bld4 (raw4 b)).drop 12 = (b.take (n2 b 2).toNat).drop 12 := by
  have hV : prsV b false = raw4 b := by rw [prsV, if_pos h]
  unfold prsE at h
  by_cases hb : bad4 b false = 0
  · rw [if_pos hb] at h
    by_cases hc : chk4 (raw4 b) = 0
    · refine ⟨hV, hc, ?_⟩
      unfold bad4 at hb
      split at hb
      · cases hb
      · rename_i g1
        split at hb
        · cases hb
        · rename_i g2
          split at hb
          · cases hb
          · rename_i g3
            split at hb
            · cases hb
            · rename_i g4
              clear hb h hV
              obtain ⟨N, hN⟩ : ∃ N : Nat, hlen b = (N : Int) := ⟨(hlen b).toNat, by omega⟩
              obtain ⟨S, hS⟩ : ∃ S : Nat, n2 b 2 = (S : Int) := ⟨(n2 b 2).toNat, by omega⟩
              have hNS : N ≤ S ∧ S ≤ b.length ∧ 20 ≤ N := by
                refine ⟨by omega, ?_, by omega⟩
                have : ¬ (n2 b 2 > (b.length : Int)) := fun e => g3 (.inr ⟨rfl, e⟩)
                omega
              have hopt : (raw4 b).opt = (b.take N).drop 20 := by show (b.take (hlen b).toNat).drop 20 = _; rw [hN, Int.toNat_natCast]
              have hdat : (raw4 b).dat = (b.take S).drop N := by
                show (b.take (min (n2 b 2) (b.length : Int)).toNat).drop (hlen b).toNat = _
                rw [hN, hS, show (min (S : Int) (b.length : Int)).toNat = S from by omega, Int.toNat_natCast]
              have lo : (raw4 b).opt.length = N - 20 := by rw [hopt, List.length_drop, List.length_take]; omega
              have ld : (raw4 b).dat.length = S - N := by rw [hdat, List.length_drop, List.length_take]; omega
              have hh : head4 (raw4 b) = (N : Int) := by unfold head4; omega
              have hz : size4 (raw4 b) = (S : Int) := by unfold size4; omega
              have hfl : flags4 (raw4 b) = n2 b 6 := by
                show n2 b 6 % 8192 * 8 / 8 + bit (decide (n2 b 6 / 16384 % 2 = 1)) 16384 + bit (decide (n2 b 6 / 8192 % 2 = 1)) 8192 = n2 b 6
                have h0 : 0 ≤ n2 b 6 := by unfold n2; have := byt_lo b 6; have := byt_lo b (6 + 1); omega
                unfold bit
                by_cases e1 : n2 b 6 / 16384 % 2 = 1 <;> by_cases e2 : n2 b 6 / 8192 % 2 = 1 <;> simp [e1, e2] <;> omega
              have B : ∀ i, 0 ≤ byt b i ∧ byt b i ≤ 255 := fun i => ⟨byt_lo b i, byt_hi b i⟩
              have b0 := B 0; have b1 := B 1; have b2 := B 2; have b3 := B 3; have b4 := B 4; have b5 := B 5; have b6 := B 6; have b7 := B 7; have b8 := B 8; have b9 := B 9
              have b12 := B 12; have b13 := B 13; have b14 := B 14; have b15 := B 15; have b16 := B 16; have b17 := B 17; have b18 := B 18; have b19 := B 19
              refine ⟨by rw [bld4_len, lo, ld, hS, Int.toNat_natCast]; omega, by rw [hS, Int.toNat_natCast]; omega, by rw [hS, Int.toNat_natCast]; omega, ?_, ?_⟩
              · have e : (bld4 (raw4 b)).take 10 = hda (raw4 b) (size4 (raw4 b)) := by
                  rw [bld4, hd4, List.append_assoc, List.append_assoc, List.take_left' (by simp [hda])]
                rw [e, take_ten (by omega), hda, hh, hz, hfl]
                have i0 : hlen b = byt b 0 % 16 * 4 := rfl
                have i2 : n2 b 2 = byt b 2 * 256 + byt b (2 + 1) := rfl
                have i6 : n2 b 6 = byt b 6 * 256 + byt b (6 + 1) := rfl
                have i4 : (raw4 b).id = byt b 4 * 256 + byt b (4 + 1) := rfl
                have x0 : byt b 0 / 16 = 4 := by omega
                simp only [Nat.reduceAdd] at i2 i6 i4
                rw [u8_eq (b := b) (i := 0) (n := 64 + (N : Int) / 4) (by omega) (by omega), u8_eq (b := b) (i := 1) (n := (raw4 b).tos) (by omega) (by show byt b 1 % 256 = _; omega), u8_eq (b := b) (i := 2) (n := (S : Int) / 256) (by omega) (by omega),
                  u8_eq (b := b) (i := 3) (n := (S : Int)) (by omega) (by omega), u8_eq (b := b) (i := 4) (n := (raw4 b).id / 256) (by omega) (by omega), u8_eq (b := b) (i := 5) (n := (raw4 b).id) (by omega) (by omega),
                  u8_eq (b := b) (i := 6) (n := n2 b 6 / 256) (by omega) (by omega), u8_eq (b := b) (i := 7) (n := n2 b 6) (by omega) (by omega), u8_eq (b := b) (i := 8) (n := (raw4 b).ttl) (by omega) (by show byt b 8 % 256 = _; omega),
                  u8_eq (b := b) (i := 9) (n := (raw4 b).proto) (by omega) (by show byt b 9 % 256 = _; omega)]
              · have e : (bld4 (raw4 b)).drop 12 = hdb (raw4 b) ++ (raw4 b).dat := by
                  rw [bld4, hd4, List.append_assoc, List.drop_left' (by simp [hda, be2])]
                rw [e, hS, Int.toNat_natCast]
                have hs20 : 20 ≤ (b.take S).length := by rw [List.length_take]; omega
                rw [drop_eight hs20]
                have hcut : (b.take S).drop 20 = (raw4 b).opt ++ (raw4 b).dat := by
                  rw [hopt, hdat]
                  have h1 : b.take N = (b.take S).take N := by rw [List.take_take, Nat.min_eq_left hNS.1]
                  rw [h1]
                  conv => lhs; rw [← List.take_append_drop N (b.take S)]
                  rw [List.drop_append_of_le_length (by rw [List.length_take, List.length_take]; omega)]
                rw [hcut, ← List.append_assoc]
                congr 1
                rw [hdb]
                have gt : ∀ i (h : i < (b.take S).length) (h' : i < b.length), (b.take S)[i] = b[i] := fun i h h' => List.getElem_take
                rw [gt 12 (by omega) (by omega), gt 13 (by omega) (by omega), gt 14 (by omega) (by omega), gt 15 (by omega) (by omega), gt 16 (by omega) (by omega), gt 17 (by omega) (by omega), gt 18 (by omega) (by omega), gt 19 (by omega) (by omega)]
                have i12 : (raw4 b).src = ((byt b 12 * 256 + byt b (12 + 1)) * 256 + byt b (12 + 2)) * 256 + byt b (12 + 3) := rfl
                have i16 : (raw4 b).dst = ((byt b 16 * 256 + byt b (16 + 1)) * 256 + byt b (16 + 2)) * 256 + byt b (16 + 3) := rfl
                simp only [Nat.reduceAdd] at i12 i16
                rw [u8_eq (b := b) (i := 12) (n := (raw4 b).src / 16777216) (by omega) (by omega), u8_eq (b := b) (i := 13) (n := (raw4 b).src / 65536) (by omega) (by omega), u8_eq (b := b) (i := 14) (n := (raw4 b).src / 256) (by omega) (by omega),
                  u8_eq (b := b) (i := 15) (n := (raw4 b).src) (by omega) (by omega), u8_eq (b := b) (i := 16) (n := (raw4 b).dst / 16777216) (by omega) (by omega), u8_eq (b := b) (i := 17) (n := (raw4 b).dst / 65536) (by omega) (by omega),
                  u8_eq (b := b) (i := 18) (n := (raw4 b).dst / 256) (by omega) (by omega), u8_eq (b := b) (i := 19) (n := (raw4 b).dst) (by omega) (by omega)]
    · rw [if_pos ⟨rfl, hc⟩] at h; cases h
  · rw [if_neg hb] at h; exact absurd h hb
end Go.Proofs.Ytogidfagkgccmaa

/-
  Contract of the document's plain answers of layer 5: head. Conditions are each theorem's own.
-/
namespace Go.Proofs.Ytogidfagkgccmaa
open Go.RowKit

theorem put_two {bs : List UInt8} {n : Int} (h0 : 0 ≤ n) (h1 : n ≤ 65535) : putB bs n 2 = bs ++ be2 n := by
  rw [putB, if_pos (fitsB_iff.2 ⟨by omega, by omega, h0, by simp [pw]; omega⟩), ← digs_two h0]; rfl
theorem put_four {bs : List UInt8} {n : Int} (h0 : 0 ≤ n) (h1 : n < 4294967296) : putB bs n 4 = bs ++ be4 n := by
  rw [putB, if_pos (fitsB_iff.2 ⟨by omega, by omega, h0, by simp [pw]; omega⟩), ← digs_four h0]; rfl
theorem putB_le {bs : List UInt8} {n s : Int} {K : Nat} (h : bs.length ≤ K) (hs : s.toNat ≤ 4) : (putB bs n s).length ≤ K + 4 := by
  rw [putB]; split
  · rw [List.length_append, digs_length]; omega
  · omega
theorem arg_own {w : World} {base c : Nat} {A : Option Addr} {bs : List UInt8} (h : w.ownsRow base 5 1 (.slice A bs.length c) bs.length (row bs)) : Arg w w.heap.size A c bs := by
  refine ⟨Rd.of_own rfl h, ?_, fun e => ?_⟩
  · rcases h.2 with ⟨hv, h0⟩ | ⟨g, cap, cur, hv, _, _, hle, _⟩
    · omega
    · injection hv with h1 h2 h3; omega
  · rcases h.2 with ⟨hv, h0⟩ | ⟨g, cap, cur, hv, _, _, hle, _⟩
    · injection hv
    · injection hv with h1 h2 h3; rw [e] at h1; cases h1
theorem own_base {w : World} {base base' e s n : Nat} {v : Value} {xs : List Value} (h : w.ownsRow base' e s v n xs) (hb : base ≤ base') : w.ownsRow base e s v n xs := by
  obtain ⟨hl, h0 | ⟨g, cap, cur, hv, hg, r⟩⟩ := h
  · exact ⟨hl, .inl h0⟩
  · exact ⟨hl, .inr ⟨g, cap, cur, hv, by omega, r⟩⟩
theorem own_made {w : World} {base n : Nat} {v : Value} {xs : List Value} {bs : List UInt8} (h : w.ownsRow base 5 1 v n xs) (hn : n = bs.length) (hx : xs = row bs) : ∃ A c, v = .slice A bs.length c ∧ w.ownsRow base 5 1 (.slice A bs.length c) bs.length (row bs) := by
  subst hn; subst hx
  rcases h.2 with ⟨hv, h0⟩ | ⟨g, cap, cur, hv, _⟩
  · rw [hv] at h; exact ⟨none, 0, by rw [hv, h0], by rw [h0] at h ⊢; exact h⟩
  · rw [hv] at h; exact ⟨_, _, hv, h⟩
section
variable (q : P4) (A : Option Addr) (c : Nat) (A' : Option Addr) (c' : Nat) (w : World)
end
end Go.Proofs.Ytogidfagkgccmaa

/-
  Contract of the document's plain answers of layer 5: Build. Conditions are each theorem's own.
-/
namespace Go.Proofs.Ytogidfagkgccmaa
open Go.RowKit

/-- append onto a row of the call's own, of a source that reads as bytes: as an operation. -/
theorem append_wp {w : World} {o : Oper} {a : Act} {K : Act → World → Prop} {Q : Exit → Act → World → Prop} (s x : Operand)
    (ho : o.op = .call { callee := .builtin .append, args := #[s, x], argTypes := #[32, 32] })
    (base : Nat) (v : Value) (n : Nat) (xs : List Value) (hs : a.eval s = v) (hown : w.ownsRow base 5 1 v n xs)
    (B : Nat) (A : Option Addr) (c : Nat) (bs : List UInt8) (hx : a.eval x = .slice A bs.length c) (hA : A = none → c = 0) (hr : Rd w B A bs)
    (hlen : n + bs.length ≤ 2199023255552) (hbase : base ≤ w.heap.size)
    (h : ∀ v' w', w'.ownsRow base 5 1 v' (n + bs.length) (xs ++ row bs) → w.grownBy w' v.ownBlock → K (a.put o.dst v') w') : o.wp Try.prog a w K Q := by
  obtain ⟨i0, hi, hz0, hz1, hz2⟩ := info_parts info_u8
  rcases A with _ | ad
  · have h0 : bs = [] := by
      rcases Nat.eq_zero_or_pos bs.length with e | e
      · exact List.eq_nil_of_length_eq_zero e
      · obtain ⟨_, _, e', _⟩ := hr e; cases e'
    subst h0
    obtain rfl := hA rfl
    have hrun := run_append_owned_none (P := Try.prog) (w := w) base 32 o.type 5 i0 1 Try.underlying32 hi v n xs hown
    unfold Oper.wp
    simp [execOp, ho, resolve, invoke, builtin, hs, hx, hrun, Result.andThen]
    exact h v w (by simpa [row] using hown) (World.grownBy.refl w _)
  · exact wp_append_own w s x 32 ho base 5 i0 (.int .u8 0) 1 1 Try.underlying32 hi hz0 hz1 hz2 rfl (by decide) v n xs hs hown ad bs.length c (row bs) hx
      (by rw [row_length, Nat.mul_one]) hr.src (row_one bs) (by unfold maxLen; omega) (by omega) hbase (fun v' w' h1 h2 _ => h v' w' h1 h2)
section
variable (q : P4) (A : Option Addr) (c : Nat) (A' : Option Addr) (c' : Nat) (w : World)
end
end Go.Proofs.Ytogidfagkgccmaa

/-
  Contract of the document's plain answers of layer 5: fields. Conditions are each theorem's own.
-/
namespace Go.Proofs.Ytogidfagkgccmaa
open Go.RowKit

theorem get_two {b : List UInt8} {i : Nat} (h : i + 2 ≤ b.length) : getV b (i : Int) 2 = n2 b i := by
  have e := getV_ok (bs := b) (a := i) (s := 2) (by omega) (by omega) h
  rw [show (2 : Int) = ((2 : Nat) : Int) from rfl, e, num_two _ (by simp; omega), byt_cut _ _ _ (by omega), byt_cut _ _ _ (by omega)]; rfl
theorem byt_drop (b : List UInt8) (a k : Nat) : byt (b.drop a) k = byt b (a + k) := by simp [byt]
theorem get_four {b : List UInt8} {i : Nat} (h : i + 4 ≤ b.length) : getV b (i : Int) 4 = n4 b i := by
  have e := getV_ok (bs := b) (a := i) (s := 4) (by omega) (by omega) h
  have hl : (b.drop i).length = b.length - i := by simp
  rw [show (4 : Int) = ((4 : Nat) : Int) from rfl, e, num_take _ (k := 3) (by omega), num_take _ (k := 2) (by omega), num_take _ (k := 1) (by omega), num_take _ (k := 0) (by omega), List.take_zero]
  simp only [byt_drop, n4, num, List.foldl_nil, Nat.add_zero]; omega
theorem n2_bd (b : List UInt8) (i : Nat) : 0 ≤ n2 b i ∧ n2 b i ≤ 65535 := by
  have h1 := byt_lo b i; have h2 := byt_hi b i; have h3 := byt_lo b (i + 1); have h4 := byt_hi b (i + 1)
  unfold n2; omega
theorem run_load_byte {o : Oper} {a : Act} {w : World} {x : Operand} {p : Addr} {n : Int} (ho : o.op = .load 5 x) (hx : a.eval x = .pointer (some p)) (hc : w.cell? p = some (.int .u8 n)) :
    (execOp a.eval o).run Try.prog w = .ok (.value (.int .u8 n)) w := by
  unfold execOp
  simp only [ho, hx, Instr.loadAt, Instr.sureAddr, Sem.run_bind, Sem.run_pure, Result.andThen_ok]
  go_simp
theorem heap_new {X : World} {g : Nat} {o : Obj} (h : g = X.heap.size) : (X.alloc o).heap[g]? = some o := by subst h; exact World.alloc_heap_new X o
theorem set_newN (w : World) (cur cur' : Array Value) (t j m : Nat) (x : Value) (hc : cur.setIfInBounds j x = cur') :
    ((w.alloc (.cells cur t (0, 0))).drewN m).setCell ⟨w.heap.size, j, none⟩ x = (w.alloc (.cells cur' t (0, 0))).drewN m := by
  subst hc
  show ((w.alloc (.cells cur t (0, 0))).setCell ⟨w.heap.size, j, none⟩ x).drewN m = _
  rw [World.setCell_alloc_at _ _ _ _ _ rfl]
theorem heap_newN (w : World) (o : Obj) (m : Nat) : ((w.alloc o).drewN m).heap[w.heap.size]? = some o := World.alloc_heap_new w o
theorem own_setCell {w : World} {base e sz n : Nat} {v : Value} {xs : List Value} (h : w.ownsRow base e sz v n xs) {p : Addr} {u : Value} (hp : p.block < base) : (w.setCell p u).ownsRow base e sz v n xs := by
  obtain ⟨h1, h2⟩ := h
  refine ⟨h1, ?_⟩
  rcases h2 with h2 | ⟨g, cap, cur, hv, hg, hh, r⟩
  · exact .inl h2
  · exact .inr ⟨g, cap, cur, hv, hg, (heap_setCell_other w p g u (by omega)).trans hh, r⟩
theorem own_setRow {w : World} {base e sz n : Nat} {v : Value} {xs : List Value} (h : w.ownsRow base e sz v n xs) {g : Nat} {cs : Array Value} (hp : g < base) : (w.setRow g cs).ownsRow base e sz v n xs := by
  obtain ⟨h1, h2⟩ := h
  refine ⟨h1, ?_⟩
  rcases h2 with h2 | ⟨k, cap, cur, hv, hg, hh, r⟩
  · exact .inl h2
  · exact .inr ⟨k, cap, cur, hv, hg, (setRow_other w g k cs (by omega)).trans hh, r⟩
theorem below_row {B : Nat} {a w : World} (h : Below B a w) {g : Nat} {cs : Array Value} (hg : B ≤ g) : Below B a (w.setRow g cs) :=
  ⟨h.os, h.tape, h.output, by rw [size_setRow]; exact h.size, fun k hk => (setRow_other w g k cs (by omega)).trans (h.block k hk)⟩
theorem setRow_drew (X : World) (g : Nat) (c' : Array Value) : X.drew.setRow g c' = (X.setRow g c').drew := by unfold World.setRow; rfl
theorem setRow_new {X : World} {g : Nat} {c c' : Array Value} {t : TypeId} (h : g = X.heap.size) : (X.alloc (.cells c t)).setRow g c' = X.alloc (.cells c' t) := by subst h; exact World.setRow_alloc_new X c c' t
section
variable (b dat : List UInt8) (A : Option Addr) (c : Nat) (A' : Option Addr) (c' : Nat) (w : World)
end
end Go.Proofs.Ytogidfagkgccmaa

/-
  Contracts of slices.Index, slices.Contains over Bools, and of v4.all, v6.all: do all conditions hold? Conditions are each theorem's own.
-/
namespace Go.Proofs.Ytogidfagkgccmaa
open Go.RowKit

/-- Do all hold? A plain definition. -/
def allB (bs : List Bool) : Bool := bs.all id
theorem first_false : ∀ (bs : List Bool), allB bs = false → ∃ k, k < bs.length ∧ (∀ j, j < k → bs[j]? = some true) ∧ bs[k]? = some false
  | [], h => by cases h
  | false :: l, _ => ⟨0, by simp, fun j hj => absurd hj (Nat.not_lt_zero j), rfl⟩
  | true :: l, h => by
    obtain ⟨k, h1, h2, h3⟩ := first_false l (by simpa [allB] using h)
    refine ⟨k + 1, by simp; omega, fun j hj => ?_, by simpa using h3⟩
    cases j with
    | zero => rfl
    | succ j => simpa using h2 j (by omega)
end Go.Proofs.Ytogidfagkgccmaa

/-
  Packets of IPv6 and fragment headers, in plain lists of bytes: what may be, its bytes, what bytes are. No program. Conditions are each theorem's own.
-/
namespace Go.Proofs.Ytogidfagkgccmaa
open Go.RowKit

/-- What is right with a fragment header. -/
def okF (f : F6) : Prop := 0 ≤ f.next ∧ f.next ≤ 255 ∧ 0 ≤ f.off ∧ f.off ≤ 65528 ∧ f.off % 8 = 0 ∧ 0 ≤ f.id ∧ f.id < 4294967296
instance (f : F6) : Decidable (okF f) := by unfold okF; infer_instance
def offB (f : F6) : Bool := decide (0 ≤ f.off) && decide (f.off ≤ 65528)
def mulB (f : F6) : Bool := decide (f.off % 8 = 0)
theorem okF_iff (f : F6) : okF f ↔ (fitsB f.next 1 = true ∧ offB f = true ∧ mulB f = true ∧ fitsB f.id 4 = true) := by
  unfold okF offB mulB
  simp only [Bool.and_eq_true, fitsB_iff, decide_eq_true_eq, pw]
  constructor
  · rintro ⟨a1, a2, a3, a4, a5, a6, a7⟩
    refine ⟨⟨?_, ?_, ?_, ?_⟩, ⟨?_, ?_⟩, ?_, ?_, ?_, ?_, ?_⟩ <;> (try simp) <;> omega
  · rintro ⟨⟨_, _, f1, f2⟩, ⟨o1, o2⟩, m, _, _, g1, g2⟩
    simp at f2 g2
    refine ⟨?_, ?_, ?_, ?_, ?_, ?_, ?_⟩ <;> omega
def bytF (f : F6) : List UInt8 := [u8 f.next, 0] ++ be2 (f.off + bit f.more 1) ++ be4 f.id
def bldF (f : F6) : List UInt8 := if okF f then bytF f else []
def errF (f : F6) : Int := if okF f then 0 else 1
theorem bldF_len (f : F6) : (bldF f).length ≤ 8 := by unfold bldF bytF; split <;> simp [be2, be4]
def frz : F6 := ⟨0, 0, 0, false⟩
def rawF (b : List UInt8) : F6 := ⟨byt b 0, n2 b 2 / 8 * 8, n4 b 4, decide (n2 b 2 % 2 = 1)⟩
def prsF (b : List UInt8) : F6 := if b.length < 8 then frz else rawF b
def rstF (b : List UInt8) : List UInt8 := if b.length < 8 then [] else b.drop 8
def prsG (b : List UInt8) : Int := if b.length < 8 then 3 else 0
/-- Are two headers the same? -/
def sameF (f g : F6) : Bool := (f.next == g.next && f.off == g.off && f.id == g.id) && (f.more == g.more)
theorem sameF_iff {f g : F6} : sameF f g = true ↔ f = g := by
  obtain ⟨a, b, c, d⟩ := f
  obtain ⟨a', b', c', d'⟩ := g
  simp only [sameF, Bool.and_eq_true, beq_iff_eq, F6.mk.injEq]
  constructor
  · rintro ⟨⟨⟨h0, h1⟩, h2⟩, h3⟩; exact ⟨h0, h1, h2, h3⟩
  · rintro ⟨h0, h1, h2, h3⟩; exact ⟨⟨⟨h0, h1⟩, h2⟩, h3⟩
theorem byt_u8_mod (n : Int) (l : List UInt8) : byt (u8 n :: l) 0 = n % 256 := by simp [byt, u8_val]
theorem backF (f : F6) (more : List UInt8) (h : okF f) : prsF (bldF f ++ more) = f ∧ rstF (bldF f ++ more) = more ∧ prsG (bldF f ++ more) = 0 := by
  obtain ⟨h1, h2, h3, h4, h5, h6, h7⟩ := h
  have hb : bldF f = bytF f := by rw [bldF, if_pos ⟨h1, h2, h3, h4, h5, h6, h7⟩]
  have hl : ¬ (bytF f ++ more).length < 8 := by simp [bytF, be2, be4]
  rw [hb]
  refine ⟨?_, ?_, by rw [prsG, if_neg hl]⟩
  · rw [prsF, if_neg hl]
    obtain ⟨nx, off, id, mr⟩ := f
    simp only at h1 h2 h3 h4 h5 h6 h7
    have e0 : byt (bytF ⟨nx, off, id, mr⟩ ++ more) 0 = nx := by
      have := u8_val nx
      simp [bytF, byt]; omega
    have e2 : n2 (bytF ⟨nx, off, id, mr⟩ ++ more) 2 = off + bit mr 1 := by
      have a := u8_val ((off + bit mr 1) / 256)
      have b := u8_val (off + bit mr 1)
      have c : 0 ≤ bit mr 1 ∧ bit mr 1 ≤ 1 := by unfold bit; cases mr <;> simp
      simp only [bytF, n2, byt, be2, be4, List.cons_append, List.nil_append, List.getElem?_cons_succ, List.getElem?_cons_zero, Option.getD_some]
      omega
    have e4 : n4 (bytF ⟨nx, off, id, mr⟩ ++ more) 4 = id := by
      have a := u8_val (id / 16777216)
      have b := u8_val (id / 65536)
      have c := u8_val (id / 256)
      have d := u8_val id
      simp only [bytF, n4, byt, be2, be4, List.cons_append, List.nil_append, List.getElem?_cons_succ, List.getElem?_cons_zero, Option.getD_some]
      omega
    rw [rawF, e0, e2, e4]
    have f1 : (off + bit mr 1) / 8 * 8 = off := by cases mr <;> simp [bit] <;> omega
    have f2 : decide ((off + bit mr 1) % 2 = 1) = mr := by cases mr <;> simp [bit] <;> omega
    rw [f1, f2]
  · rw [rstF, if_neg hl]
    simp [bytF, be2, be4]

/-- What is right with a packet's fields. -/
def arg6 (q : P6) : Prop := 0 ≤ q.traffic ∧ q.traffic ≤ 255 ∧ 0 ≤ q.next ∧ q.next ≤ 255 ∧ 0 ≤ q.hop ∧ q.hop ≤ 255 ∧ 0 ≤ q.flow ∧ q.flow < 1048576
instance (q : P6) : Decidable (arg6 q) := by unfold arg6; infer_instance
def chk6 (q : P6) : Int := if arg6 q then (if (q.dat.length : Int) > 65535 then 6 else 0) else 1
def size6 (q : P6) : Int := 40 + (q.dat.length : Int)
def fst6 (q : P6) : Int := 1610612736 + q.traffic * 1048576 + q.flow
def hd6 (q : P6) : List UInt8 := be4 (fst6 q) ++ be2 (q.dat.length : Int) ++ [u8 q.next, u8 q.hop]
def bld6 (q : P6) : List UInt8 := hd6 q ++ q.src ++ q.dst ++ q.dat
theorem hd6_len (q : P6) : (hd6 q).length = 8 := by simp [hd6, be2, be4]
theorem bld6_len (q : P6) (hs : q.src.length = 16) (hd : q.dst.length = 16) : (bld6 q).length = 40 + q.dat.length := by
  simp [bld6, hd6_len, hs, hd]; omega
def p6z : P6 := ⟨0, 0, 0, 0, nul, nul, []⟩
/-- What is wrong with bytes; nothing: 0. -/
def bad6 (b : List UInt8) (quoted : Bool) : Int :=
  if b.length < 40 then 3
  else if byt b 0 / 16 ≠ 6 then 4
  else if quoted = false ∧ n2 b 4 > (b.length : Int) - 40 then 3
  else 0
def end6 (b : List UInt8) : Nat := 40 + min (n2 b 4).toNat (b.length - 40)
def raw6 (b : List UInt8) : P6 := ⟨byt b 0 % 16 * 16 + byt b 1 / 16, byt b 1 % 16 * 65536 + byt b 2 * 256 + byt b 3, byt b 6, byt b 7, (b.drop 8).take 16, (b.drop 24).take 16, (b.take (end6 b)).drop 40⟩
def prs6 (b : List UInt8) (quoted : Bool) : P6 := if bad6 b quoted = 0 then raw6 b else p6z
def same6 (q r : P6) : Bool := (q.traffic == r.traffic && q.flow == r.flow && q.next == r.next && q.hop == r.hop) && decide (q.src = r.src) && decide (q.dst = r.dst) && decide (q.dat = r.dat)
theorem same6_iff {q r : P6} : same6 q r = true ↔ q = r := by
  obtain ⟨a0, a1, a2, a3, a4, a5, a6⟩ := q
  obtain ⟨b0, b1, b2, b3, b4, b5, b6⟩ := r
  simp only [same6, Bool.and_eq_true, beq_iff_eq, decide_eq_true_eq, P6.mk.injEq]
  constructor
  · rintro ⟨⟨⟨⟨⟨⟨h0, h1⟩, h2⟩, h3⟩, h4⟩, h5⟩, h6⟩; exact ⟨h0, h1, h2, h3, h4, h5, h6⟩
  · rintro ⟨h0, h1, h2, h3, h4, h5, h6⟩; exact ⟨⟨⟨⟨⟨⟨h0, h1⟩, h2⟩, h3⟩, h4⟩, h5⟩, h6⟩
theorem back6 (q : P6) (more : List UInt8) (hs : q.src.length = 16) (hd : q.dst.length = 16) (h : chk6 q = 0) : bad6 (bld6 q ++ more) false = 0 ∧ raw6 (bld6 q ++ more) = q := by
  have ha : arg6 q := by
    rcases Decidable.em (arg6 q) with h' | h'
    · exact h'
    · rw [chk6, if_neg h'] at h; omega
  have hl : (q.dat.length : Int) ≤ 65535 := by
    rcases Int.lt_or_le 65535 (q.dat.length : Int) with h' | h'
    · rw [chk6, if_pos ha, if_pos h'] at h; omega
    · exact h'
  obtain ⟨a1, a2, a3, a4, a5, a6, a7, a8⟩ := ha
  have hlen : (bld6 q ++ more).length = 40 + q.dat.length + more.length := by rw [List.length_append, bld6_len q hs hd]
  have b0 : byt (bld6 q ++ more) 0 = fst6 q / 16777216 % 256 := by have := u8_val (fst6 q / 16777216); simpa [bld6, hd6, be4, byt] using this
  have b1 : byt (bld6 q ++ more) 1 = fst6 q / 65536 % 256 := by have := u8_val (fst6 q / 65536); simpa [bld6, hd6, be4, byt] using this
  have b2 : byt (bld6 q ++ more) 2 = fst6 q / 256 % 256 := by have := u8_val (fst6 q / 256); simpa [bld6, hd6, be4, byt] using this
  have b3 : byt (bld6 q ++ more) 3 = fst6 q % 256 := by have := u8_val (fst6 q); simpa [bld6, hd6, be4, byt] using this
  have b4 : byt (bld6 q ++ more) 4 = (q.dat.length : Int) / 256 % 256 := by have := u8_val ((q.dat.length : Int) / 256); simpa [bld6, hd6, be4, be2, byt] using this
  have b5 : byt (bld6 q ++ more) 5 = (q.dat.length : Int) % 256 := by have := u8_val (q.dat.length : Int); simpa [bld6, hd6, be4, be2, byt] using this
  have b6 : byt (bld6 q ++ more) 6 = q.next % 256 := by have := u8_val q.next; simpa [bld6, hd6, be4, be2, byt] using this
  have b7 : byt (bld6 q ++ more) 7 = q.hop % 256 := by have := u8_val q.hop; simpa [bld6, hd6, be4, be2, byt] using this
  have hn : n2 (bld6 q ++ more) 4 = (q.dat.length : Int) := by rw [n2, b4, b5]; omega
  have hf : fst6 q = 1610612736 + q.traffic * 1048576 + q.flow := rfl
  have he : end6 (bld6 q ++ more) = 40 + q.dat.length := by rw [end6, hn, hlen]; simp; omega
  have hd8 : (bld6 q ++ more).drop 8 = q.src ++ (q.dst ++ (q.dat ++ more)) := by
    rw [bld6, List.append_assoc, List.append_assoc, List.append_assoc, ← hd6_len q, List.drop_left]
  have hd24 : (bld6 q ++ more).drop 24 = q.dst ++ (q.dat ++ more) := by
    rw [show 24 = 8 + 16 from rfl, ← List.drop_drop, hd8, ← hs, List.drop_left]
  have hd40 : (bld6 q ++ more).drop 40 = q.dat ++ more := by
    rw [show 40 = 24 + 16 from rfl, ← List.drop_drop, hd24, ← hd, List.drop_left]
  refine ⟨?_, ?_⟩
  · rw [bad6, if_neg (by rw [hlen]; omega), if_neg (by rw [b0, hf]; omega), if_neg (by rw [hn, hlen]; omega)]
  · have e1 : ((bld6 q ++ more).take (end6 (bld6 q ++ more))).drop 40 = q.dat := by
      rw [he, List.drop_take, hd40]; simp
    have e2 : ((bld6 q ++ more).drop 8).take 16 = q.src := by rw [hd8, ← hs, List.take_left]
    have e3 : ((bld6 q ++ more).drop 24).take 16 = q.dst := by rw [hd24, ← hd, List.take_left]
    have e4 : byt (bld6 q ++ more) 0 % 16 * 16 + byt (bld6 q ++ more) 1 / 16 = q.traffic := by rw [b0, b1, hf]; omega
    have e5 : byt (bld6 q ++ more) 1 % 16 * 65536 + byt (bld6 q ++ more) 2 * 256 + byt (bld6 q ++ more) 3 = q.flow := by rw [b1, b2, b3, hf]; omega
    have e6 : byt (bld6 q ++ more) 6 = q.next := by rw [b6]; omega
    have e7 : byt (bld6 q ++ more) 7 = q.hop := by rw [b7]; omega
    rw [raw6, e1, e2, e3, e4, e5, e6, e7]
end Go.Proofs.Ytogidfagkgccmaa

/-
  Layer 6's small functions: get, fresh, put; packets and fragment headers that lie in a block of their own. Conditions are each theorem's own.
-/
namespace Go.Proofs.Ytogidfagkgccmaa
open Go.RowKit

/-- A fragment header in a block of its own. -/
def fra (f : F6) : Array Value := #[.int .i64 f.next, .int .i64 f.off, .int .i64 f.id, .bool f.more]
def AtF (W : World) (g : Nat) (f : F6) : Prop := W.rangeAt g 0 (fra f).toList
section
variable {W : World} {g : Nat} {f : F6}
theorem AtF.below {w : World} {B : Nat} (h : AtF W g f) (hb : Below B W w) (hg : g < B) : AtF w g f := range_below h hg hb
theorem AtF.next (h : AtF W g f) : W.cell? ⟨g, 0, none⟩ = some (.int .i64 f.next) := h 0 _ rfl
theorem AtF.off (h : AtF W g f) : W.cell? ⟨g, 1, none⟩ = some (.int .i64 f.off) := h 1 _ rfl
theorem AtF.id (h : AtF W g f) : W.cell? ⟨g, 2, none⟩ = some (.int .i64 f.id) := h 2 _ rfl
theorem AtF.more (h : AtF W g f) : W.cell? ⟨g, 3, none⟩ = some (.bool f.more) := h 3 _ rfl
end
/-- A new block of Bools. -/
theorem range_bools (w : World) (bs : List Bool) (t : TypeId) : (w.alloc (.cells (bs.map Value.bool).toArray t)).rangeAt w.heap.size 0 (bs.map Value.bool) := fun j v hj => by
  rw [Nat.zero_add, World.cell?_alloc_new, ← hj, List.getElem?_toArray]

/-- Numbers of so many bytes, one behind the other. -/
def putL (ps : List (Int × Int)) : List UInt8 := ps.foldl (fun b x => putB b x.1 x.2) []
theorem putL_snoc (ps : List (Int × Int)) (x : Int × Int) : putL (ps ++ [x]) = putB (putL ps) x.1 x.2 := by simp [putL]
theorem putL_len (ps : List (Int × Int)) (h : ∀ x ∈ ps, x.2.toNat ≤ 4) : (putL ps).length ≤ 4 * ps.length := by
  have key : ∀ (ps : List (Int × Int)) (b : List UInt8), (∀ x ∈ ps, x.2.toNat ≤ 4) → (ps.foldl (fun b x => putB b x.1 x.2) b).length ≤ b.length + 4 * ps.length := by
    intro ps
    induction ps with
    | nil => intro b _; simp
    | cons x l ih =>
      intro b hx
      have h1 := ih (putB b x.1 x.2) (fun y hy => hx y (by simp [hy]))
      have h2 := putB_le (n := x.1) (Nat.le_refl b.length) (hx x (by simp))
      simp only [List.foldl_cons, List.length_cons]; omega
  simpa [putL] using key ps [] h
theorem putL_take (ps : List (Int × Int)) {k : Nat} {x : Int × Int} (h : ps[k]? = some x) : putL (ps.take (k + 1)) = putB (putL (ps.take k)) x.1 x.2 := by
  rw [List.take_add_one, h]; exact putL_snoc _ _
theorem made_shape {w w' : World} {v : Value} {bs : List UInt8} (h : Made w w' v bs) : ∃ A c, v = .slice A bs.length c ∧ Arg w' w'.heap.size A c bs ∧ w'.ownsRow w.heap.size 5 1 (.slice A bs.length c) bs.length (row bs) ∧ Below w.heap.size w w' := by
  obtain ⟨A, c, rfl, hl, hr, ho, hb⟩ := h
  exact ⟨A, c, rfl, arg_own ho, ho, hb⟩
theorem Made.after {w W w' : World} {v : Value} {bs : List UInt8} (h : Made W w' v bs) (hb : Below w.heap.size w W) : Made w w' v bs := by
  obtain ⟨A, c, rfl, hl, hr, ho, hB⟩ := h
  exact Made.of_own (own_base ho hb.size) (hb.trans (hB.mono hb.size))
theorem Made.below {w w' : World} {v : Value} {bs : List UInt8} (h : Made w w' v bs) : Below w.heap.size w w' := by
  obtain ⟨A, c, rfl, hl, hr, ho, hB⟩ := h
  exact hB
theorem putR_F (f : F6) (p : Int) (h : okF f) (hp : p = f.off + bit f.more 1) : putB (putB [u8 f.next, 0] p 2) f.id 4 = bldF f := by
  rw [bldF, if_pos h]
  obtain ⟨h1, h2, h3, h4, h5, h6, h7⟩ := h
  have hb : 0 ≤ bit f.more 1 ∧ bit f.more 1 ≤ 1 := by unfold bit; cases f.more <;> simp
  subst hp
  rw [put_two (by omega) (by omega), put_four h6 h7, bytF]
theorem arg_pair (w : World) (n : Int) {m : Int} (h : m = n % 256) : Arg (w.alloc (.cells #[.int .u8 m, .int .u8 0] 5)) (w.heap.size + 1) (some ⟨w.heap.size, 0, none⟩) 2 [u8 n, 0] :=
  ⟨Rd.pair _ (by rw [u8_val]; exact h) rfl, by simp, fun e => by cases e⟩
def flat : List (Int × Int) → List Value
  | [] => []
  | x :: l => .int .i64 x.1 :: .int .i64 x.2 :: flat l
theorem flat_get : ∀ (ps : List (Int × Int)) (k : Nat) (x : Int × Int), ps[k]? = some x → (flat ps)[k * 2]? = some (.int .i64 x.1) ∧ (flat ps)[k * 2 + 1]? = some (.int .i64 x.2)
  | [], k, x, h => by simp at h
  | y :: l, 0, x, h => by simp at h; subst h; exact ⟨rfl, rfl⟩
  | y :: l, k + 1, x, h => by
    have := flat_get l k x (by simpa using h)
    rw [show (k + 1) * 2 = k * 2 + 1 + 1 from by omega]
    simpa [flat] using this
theorem put_one {bs : List UInt8} {n : Int} (h0 : 0 ≤ n) (h1 : n ≤ 255) : putB bs n 1 = bs ++ [u8 n] := by
  rw [putB, if_pos (fitsB_iff.2 ⟨by omega, by omega, h0, by simp [pw]; omega⟩)]
  simp [digs, List.range_succ, u8_dig h0, pw]
theorem putL_F (f : F6) (p : Int) (h : okF f) (hp : p = f.off + bit f.more 1) : putL [(f.next, 1), (0, 1), (p, 2), (f.id, 4)] = bldF f := by
  rw [bldF, if_pos h]
  obtain ⟨h1, h2, h3, h4, h5, h6, h7⟩ := h
  have hb : 0 ≤ bit f.more 1 ∧ bit f.more 1 ≤ 1 := by unfold bit; cases f.more <;> simp
  subst hp
  simp only [putL, List.foldl_cons, List.foldl_nil]
  rw [put_one h1 h2, put_one (by omega) (by omega), put_two (by omega) (by omega), put_four h6 h7, bytF]
  rfl
end Go.Proofs.Ytogidfagkgccmaa

/-
  Laws: a slice of a slice of bytes, whatever its capacity; a function's own block for its result, kept through a region and stored into. Conditions are each theorem's own.
-/
namespace Go.Proofs.Ytogidfagkgccmaa
open Go.RowKit

/-- Where a slice of a slice begins. A plain definition. -/
def cutA (A : Option Addr) (c lo : Nat) : Option Addr := if c = lo then A else A.map (·.add lo)
theorem sliced_cut (A : Option Addr) (l h c : Nat) : sliced A l h c 1 = .slice (cutA A c l) (h - l) (c - l) := by simp [sliced, cutA]
theorem Arg.cut {w : World} {B : Nat} {A : Option Addr} {c : Nat} {bs : List UInt8} (h : Arg w B A c bs) (lo hi : Nat) (hh : hi ≤ bs.length) : Arg w B (cutA A c lo) (c - lo) ((bs.take hi).drop lo) := by
  have hcap := h.cap
  refine ⟨fun hn => ?_, by simp; omega, fun e => ?_⟩
  · have hl : lo < hi := by simp at hn; omega
    obtain ⟨b, off, rfl, hb, hc⟩ := h.rd (by omega)
    refine ⟨b, off + lo, by simp [cutA, show ¬ c = lo from by omega, add_off], hb, fun j hj => ?_⟩
    have hj' : j < hi - lo := by simp at hj; omega
    rw [Nat.add_assoc, hc (lo + j) (by omega)]
    simp only [byt, List.getElem?_drop, List.getElem?_take]
    rw [if_pos (by omega)]
  · unfold cutA at e
    split at e
    · have := h.none_ e; omega
    · have : A = none := by cases A <;> simp at e ⊢
      have := h.none_ this; omega
theorem Arg.cut_lo {w : World} {B : Nat} {A : Option Addr} {c : Nat} {bs : List UInt8} (h : Arg w B A c bs) (lo : Nat) : Arg w B (cutA A c lo) (c - lo) (bs.drop lo) := by
  have := h.cut lo bs.length (Nat.le_refl _)
  rwa [List.take_length] at this
theorem Arg.cut_hi {w : World} {B : Nat} {A : Option Addr} {c : Nat} {bs : List UInt8} (h : Arg w B A c bs) (hi : Nat) (hh : hi ≤ bs.length) : Arg w B A c (bs.take hi) := by
  have hcap := h.cap
  refine ⟨fun hn => ?_, by simp; omega, h.none_⟩
  obtain ⟨b, off, rfl, hb, hc⟩ := h.rd (by simp at hn; omega)
  refine ⟨b, off, rfl, hb, fun j hj => ?_⟩
  have hj' : j < hi := by simp at hj; omega
  rw [hc j (by omega)]
  simp only [byt, List.getElem?_take]
  rw [if_pos hj']
theorem slice_bytes : Try.prog.underlying 32 = some (.slice (Try.prog.elem 32)) := by kernel_rfl
theorem run_cut_l {o : Oper} {a : Act} {w : World} {x lo : Operand} {A : Option Addr} {n c l m : Nat} (ho : o.op = .slice 32 x (some lo) none none) (hx : a.eval x = .slice A n c) (hl : a.eval lo = .int .i64 (l : Int)) (hn : l ≤ n) (hm : m = n - l) :
    (execOp a.eval o).run Try.prog w = .ok (.value (.slice (cutA A c l) m (c - l))) w := by
  subst hm
  have h1 := run_slice_l (P := Try.prog) (w := w) 32 A n c slice_bytes .i64 (l : Int) (by omega) (by omega)
  unfold execOp
  simp only [ho, hx, hl, Option.map, Sem.run_bind, run_sliceAt_slice _ _ _ _ _ _ slice_bytes, h1]
  go_simp
  rfl
theorem run_cut_lh {o : Oper} {a : Act} {w : World} {x lo hi : Operand} {A : Option Addr} {n c m : Nat} {l h : Int} (ho : o.op = .slice 32 x (some lo) (some hi) none) (hx : a.eval x = .slice A n c) (hl : a.eval lo = .int .i64 l) (hh : a.eval hi = .int .i64 h)
    (h0 : 0 ≤ l) (h1 : l ≤ h) (h2 : h ≤ (c : Int)) (hm : m = h.toNat - l.toNat) :
    (execOp a.eval o).run Try.prog w = .ok (.value (.slice (cutA A c l.toNat) m (c - l.toNat))) w := by
  subst hm
  have h1 := run_slice_lh (P := Try.prog) (w := w) 32 A n c slice_bytes .i64 .i64 l h h0 h1 h2
  unfold execOp
  simp only [ho, hx, hl, hh, Option.map, Sem.run_bind, run_sliceAt_slice _ _ _ _ _ _ slice_bytes, h1]
  go_simp
  rfl
theorem run_cut_h {o : Oper} {a : Act} {w : World} {x hi : Operand} {A : Option Addr} {n c m : Nat} {h : Int} (ho : o.op = .slice 32 x none (some hi) none) (hx : a.eval x = .slice A n c) (hh : a.eval hi = .int .i64 h)
    (h0 : 0 ≤ h) (h2 : h ≤ (c : Int)) (hm : m = h.toNat) :
    (execOp a.eval o).run Try.prog w = .ok (.value (.slice A m c)) w := by
  subst hm
  have h1 := run_slice_h (P := Try.prog) (w := w) 32 A n c slice_bytes .i64 h h0 h2
  unfold execOp
  simp only [ho, hx, hh, Option.map, Sem.run_bind, run_sliceAt_slice _ _ _ _ _ _ slice_bytes, h1]
  go_simp
/-- An operation that yields a value, in a list that goes in the order of the text. -/
theorem wpList_val {P : Program} {ops : Array Oper} {rest : List Oper} {o : Oper} {a : Act} {w : World} {Q : Exit → Act → World → Prop} {v : Value} (hg : o.guard = none) (hrun : (execOp a.eval o).run P w = .ok (.value v) w)
    (h : wpList P ops Q rest (a.put o.dst v) w) : wpList P ops Q (o :: rest) a w :=
  wpList_plain hg fun K hK => by unfold Oper.wp; rw [hrun]; exact hK _ _ h

/-- What was there below is as it was; the block that came first lies there, n cells of type t. -/
def OwnR (w0 : World) (t n : Nat) (w' : World) : Prop := Below w0.heap.size w0 w' ∧ ∃ cs : Array Value, cs.size = n ∧ w'.heap[w0.heap.size]? = some (.cells cs t (0, 0))
section
variable {w0 w w' : World} {t n : Nat}
theorem OwnR.new (w : World) (cs : Array Value) (t : TypeId) : OwnR w t cs.size (w.alloc (.cells cs t)) := ⟨(Below.refl _ w).alloc (Nat.le_refl _) _, cs, rfl, World.alloc_heap_new w _⟩
theorem OwnR.b (h : OwnR w0 t n w) : Below w0.heap.size w0 w := h.1
theorem OwnR.lt (h : OwnR w0 t n w) : w0.heap.size < w.heap.size := by obtain ⟨_, cs, _, hg⟩ := h; exact heap_lt hg
theorem OwnR.drew (h : OwnR w0 t n w) : OwnR w0 t n w.drew := ⟨h.1.drew, h.2⟩
theorem OwnR.drewN (h : OwnR w0 t n w) (k : Nat) : OwnR w0 t n (w.drewN k) := ⟨below_drewN h.1 k, h.2⟩
theorem OwnR.step (h : OwnR w0 t n w) (hb : Below w.heap.size w w') : OwnR w0 t n w' := by
  have hl := h.lt
  obtain ⟨hB, cs, hn, hg⟩ := h
  exact ⟨hB.trans (hb.mono hB.size), cs, hn, (hb.block _ hl).trans hg⟩
theorem OwnR.alloc (h : OwnR w0 t n w) (o : Obj) : OwnR w0 t n (w.alloc o) := h.step ((Below.refl _ w).alloc (Nat.le_refl _) _)
theorem OwnR.row (h : OwnR w0 t n w) (cs : Array Value) (hc : cs.size = n) : OwnR w0 t n (w.setRow w0.heap.size cs) := by
  obtain ⟨hB, cs', hn, hg⟩ := h
  exact ⟨below_row hB (Nat.le_refl _), cs, hc, setRow_heap _ _ _ _ _ _ hg⟩
end
theorem Made.row {w W w' : World} {v : Value} {bs : List UInt8} {cs : Array Value} (h : Made W w' v bs) (hb : Below w.heap.size w W) (hg : w.heap.size < W.heap.size) : Made w (w'.setRow w.heap.size cs) v bs := by
  obtain ⟨A, c, rfl, hl, hr, ho, hB⟩ := h
  exact Made.of_own (own_base (own_setRow ho hg) hb.size) (below_row (hb.trans (hB.mono hb.size)) (Nat.le_refl _))
/-- Results: a struct in a block, and slots. -/
theorem res2 {fn : Func} {p q : Tmp} {T : TypeId} {tmps : Array Value} {w : World} {g : Nat} {cs : Array Value} (h : fn.results = #[.cell p T, .tmp q])
    (hp : tmps.getD p undef = .pointer (some ⟨g, 0, none⟩)) (hr : (loadVar T ⟨g, 0, none⟩).run Try.prog w = .ok (.agg cs) w) :
    (results fn tmps).run Try.prog w = .ok (.tuple #[.agg cs, tmps.getD q undef]) w := by
  have hp' : tmps[p]?.getD undef = .pointer (some ⟨g, 0, none⟩) := by simpa using hp
  simp [results, h, hp', asAddr, hr]
theorem res3 {fn : Func} {p q r : Tmp} {T : TypeId} {tmps : Array Value} {w : World} {g : Nat} {cs : Array Value} (h : fn.results = #[.cell p T, .tmp q, .tmp r])
    (hp : tmps.getD p undef = .pointer (some ⟨g, 0, none⟩)) (hr : (loadVar T ⟨g, 0, none⟩).run Try.prog w = .ok (.agg cs) w) :
    (results fn tmps).run Try.prog w = .ok (.tuple #[.agg cs, tmps.getD q undef, tmps.getD r undef]) w := by
  have hp' : tmps[p]?.getD undef = .pointer (some ⟨g, 0, none⟩) := by simpa using hp
  simp [results, h, hp', asAddr, hr]
theorem get_one {b : List UInt8} {i : Nat} (h : i + 1 ≤ b.length) : getV b (i : Int) 1 = byt b i := by
  have e := getV_ok (bs := b) (a := i) (s := 1) (by omega) (by omega) h
  have hl : (b.drop i).length = b.length - i := by simp
  rw [show (1 : Int) = ((1 : Nat) : Int) from rfl, e, num_take _ (k := 0) (by omega), List.take_zero]
  simp only [byt_drop, num, List.foldl_nil, Nat.add_zero]; omega
theorem n4_bd (b : List UInt8) (i : Nat) : 0 ≤ n4 b i ∧ n4 b i < 4294967296 := by
  have h1 := byt_lo b i; have h2 := byt_hi b i; have h3 := byt_lo b (i + 1); have h4 := byt_hi b (i + 1)
  have h5 := byt_lo b (i + 2); have h6 := byt_hi b (i + 2); have h7 := byt_lo b (i + 3); have h8 := byt_hi b (i + 3)
  unfold n4; omega
theorem and_mask (k : Nat) (n : Int) (h0 : 0 ≤ n) (h1 : n ≤ 9223372036854775807) (hk : k ≤ 62) : bits .and .i64 n (2 ^ k - 1) = n % 2 ^ k :=
  bits_mask .i64 63 (by decide) wraps63 k (by omega) n h0 (by omega)
end Go.Proofs.Ytogidfagkgccmaa

/-
  Whole loads and stores of layer 20's structs. Conditions are each theorem's own.
-/
namespace Go.Proofs.Ytogidfagkgccmaa
open Go.RowKit
theorem wp_turn {o : Oper} {a : Act} {w w' : World} {K : Act → World → Prop} {Q : Exit → Act → World → Prop} {v : Value} (hrun : (execOp a.eval o).run Try.prog w = .ok (.value v) w') (h : K (a.put o.dst v) w') : o.wp Try.prog a w K Q := by
  unfold Oper.wp; rw [hrun]; exact h
theorem AtNew {w : World} {cs : List Value} {t : TypeId} : (w.alloc (.cells cs.toArray t)).rangeAt w.heap.size 0 cs := fun j v hj => by
  rw [Nat.zero_add, World.cell?_alloc_new, List.getElem?_toArray]; exact hj
theorem range_of_heap {W : World} {g : Nat} {cs : List Value} {t : TypeId} {fr : Nat × Nat} (h : W.heap[g]? = some (.cells cs.toArray t fr)) : W.rangeAt g 0 cs := fun j v hj => by
  rw [cell_of_row W g (0 + j) _ _ _ h, Nat.zero_add, List.getElem?_toArray]; exact hj
theorem ld_six {o : Oper} {a : Act} {w : World} {x : Operand} {g i : Nat} {cs : List Value} (ho : o.op = .load 70 x) (hx : a.eval x = .pointer (some ⟨g, i, none⟩)) (hr : w.rangeAt g i cs) (hl : cs.length = 16) :
    (execOp a.eval o).run Try.prog w = .ok (.value (.agg cs.toArray)) w := by
  have h := run_loadVar_mid (P := Try.prog) w g i 70 cs _ hr Try.underlying70 rfl (by rw [hl]; kernel_rfl)
  unfold execOp
  simp only [ho, hx, Instr.loadAt, Instr.sureAddr, Sem.run_bind, Sem.run_pure, Result.andThen_ok, h]
theorem str_six {ops : Array Oper} {rest : List Oper} {x y : Operand} {ty : TypeId} {pos : String} {af : Array Edge} {a : Act} {w : World} {Q : Exit → Act → World → Prop}
    {g : Nat} {t : TypeId} {cs old : Array Value} (hx : a.eval x = .pointer (some ⟨g, 0, none⟩)) (hy : a.eval y = .agg cs) (hg : w.heap[g]? = some (.cells old t (0, 0))) (ho : old.size = 16) (hl : cs.size = 16) (h1 : cs.all (·.oneCell') = true)
    (h : wpList Try.prog ops Q rest (a.put none undef) (w.setRow g cs)) : wpList Try.prog ops Q (⟨none, .store 70 x y, ty, pos, af, none⟩ :: rest) a w :=
  wpList_plain rfl fun _ hK => wp_store_row 70 x y rfl g cs hx hy t old hg (by rw [hl]; kernel_rfl) (by rw [ho, hl]) h1 (hK _ _ h)
theorem strn_six {ops : Array Oper} {rest : List Oper} {x y : Operand} {ty : TypeId} {pos : String} {af : Array Edge} {a : Act} {w : World} {Q : Exit → Act → World → Prop}
    {t : TypeId} {cs old : Array Value} (hx : a.eval x = .pointer (some ⟨w.heap.size, 0, none⟩)) (hy : a.eval y = .agg cs) (ho : old.size = 16) (hl : cs.size = 16) (h1 : cs.all (·.oneCell') = true)
    (h : wpList Try.prog ops Q rest (a.put none undef) (w.alloc (.cells cs t))) : wpList Try.prog ops Q (⟨none, .store 70 x y, ty, pos, af, none⟩ :: rest) a (w.alloc (.cells old t)) :=
  str_six hx hy (World.alloc_heap_new w _) ho hl h1 (by rw [World.setRow_alloc_new]; exact h)
theorem res_six {fn : Func} {p : Tmp} {tmps : Array Value} {w : World} {g : Nat} {t : TypeId} {cs : Array Value} {fr : Nat × Nat} (h : fn.results = #[.cell p 70])
    (hp : tmps.getD p undef = .pointer (some ⟨g, 0, none⟩)) (hg : w.heap[g]? = some (.cells cs t fr)) (hl : cs.size = 16) : (results fn tmps).run Try.prog w = .ok (.agg cs) w :=
  results_cell_row h tmps w g t cs fr _ hp hg Try.underlying70 rfl (by rw [hl]; kernel_rfl)
theorem ld_sta {o : Oper} {a : Act} {w : World} {x : Operand} {g i : Nat} {cs : List Value} (ho : o.op = .load 191 x) (hx : a.eval x = .pointer (some ⟨g, i, none⟩)) (hr : w.rangeAt g i cs) (hl : cs.length = 7) :
    (execOp a.eval o).run Try.prog w = .ok (.value (.agg cs.toArray)) w := by
  have h := run_loadVar_mid (P := Try.prog) w g i 191 cs _ hr Try.underlying191 rfl (by rw [hl]; kernel_rfl)
  unfold execOp
  simp only [ho, hx, Instr.loadAt, Instr.sureAddr, Sem.run_bind, Sem.run_pure, Result.andThen_ok, h]
theorem str_sta {ops : Array Oper} {rest : List Oper} {x y : Operand} {ty : TypeId} {pos : String} {af : Array Edge} {a : Act} {w : World} {Q : Exit → Act → World → Prop}
    {g : Nat} {t : TypeId} {cs old : Array Value} (hx : a.eval x = .pointer (some ⟨g, 0, none⟩)) (hy : a.eval y = .agg cs) (hg : w.heap[g]? = some (.cells old t (0, 0))) (ho : old.size = 7) (hl : cs.size = 7) (h1 : cs.all (·.oneCell') = true)
    (h : wpList Try.prog ops Q rest (a.put none undef) (w.setRow g cs)) : wpList Try.prog ops Q (⟨none, .store 191 x y, ty, pos, af, none⟩ :: rest) a w :=
  wpList_plain rfl fun _ hK => wp_store_row 191 x y rfl g cs hx hy t old hg (by rw [hl]; kernel_rfl) (by rw [ho, hl]) h1 (hK _ _ h)
theorem strn_sta {ops : Array Oper} {rest : List Oper} {x y : Operand} {ty : TypeId} {pos : String} {af : Array Edge} {a : Act} {w : World} {Q : Exit → Act → World → Prop}
    {t : TypeId} {cs old : Array Value} (hx : a.eval x = .pointer (some ⟨w.heap.size, 0, none⟩)) (hy : a.eval y = .agg cs) (ho : old.size = 7) (hl : cs.size = 7) (h1 : cs.all (·.oneCell') = true)
    (h : wpList Try.prog ops Q rest (a.put none undef) (w.alloc (.cells cs t))) : wpList Try.prog ops Q (⟨none, .store 191 x y, ty, pos, af, none⟩ :: rest) a (w.alloc (.cells old t)) :=
  str_sta hx hy (World.alloc_heap_new w _) ho hl h1 (by rw [World.setRow_alloc_new]; exact h)
theorem res_sta {fn : Func} {p : Tmp} {tmps : Array Value} {w : World} {g : Nat} {t : TypeId} {cs : Array Value} {fr : Nat × Nat} (h : fn.results = #[.cell p 191])
    (hp : tmps.getD p undef = .pointer (some ⟨g, 0, none⟩)) (hg : w.heap[g]? = some (.cells cs t fr)) (hl : cs.size = 7) : (results fn tmps).run Try.prog w = .ok (.agg cs) w :=
  results_cell_row h tmps w g t cs fr _ hp hg Try.underlying191 rfl (by rw [hl]; kernel_rfl)
theorem ld_inner {o : Oper} {a : Act} {w : World} {x : Operand} {g i : Nat} {cs : List Value} (ho : o.op = .load 189 x) (hx : a.eval x = .pointer (some ⟨g, i, none⟩)) (hr : w.rangeAt g i cs) (hl : cs.length = 4) :
    (execOp a.eval o).run Try.prog w = .ok (.value (.agg cs.toArray)) w := by
  have h := run_loadVar_mid (P := Try.prog) w g i 189 cs _ hr Try.underlying189 rfl (by rw [hl]; kernel_rfl)
  unfold execOp
  simp only [ho, hx, Instr.loadAt, Instr.sureAddr, Sem.run_bind, Sem.run_pure, Result.andThen_ok, h]
theorem str_inner {ops : Array Oper} {rest : List Oper} {x y : Operand} {ty : TypeId} {pos : String} {af : Array Edge} {a : Act} {w : World} {Q : Exit → Act → World → Prop}
    {g : Nat} {t : TypeId} {cs old : Array Value} (hx : a.eval x = .pointer (some ⟨g, 0, none⟩)) (hy : a.eval y = .agg cs) (hg : w.heap[g]? = some (.cells old t (0, 0))) (ho : old.size = 4) (hl : cs.size = 4) (h1 : cs.all (·.oneCell') = true)
    (h : wpList Try.prog ops Q rest (a.put none undef) (w.setRow g cs)) : wpList Try.prog ops Q (⟨none, .store 189 x y, ty, pos, af, none⟩ :: rest) a w :=
  wpList_plain rfl fun _ hK => wp_store_row 189 x y rfl g cs hx hy t old hg (by rw [hl]; kernel_rfl) (by rw [ho, hl]) h1 (hK _ _ h)
theorem strn_inner {ops : Array Oper} {rest : List Oper} {x y : Operand} {ty : TypeId} {pos : String} {af : Array Edge} {a : Act} {w : World} {Q : Exit → Act → World → Prop}
    {t : TypeId} {cs old : Array Value} (hx : a.eval x = .pointer (some ⟨w.heap.size, 0, none⟩)) (hy : a.eval y = .agg cs) (ho : old.size = 4) (hl : cs.size = 4) (h1 : cs.all (·.oneCell') = true)
    (h : wpList Try.prog ops Q rest (a.put none undef) (w.alloc (.cells cs t))) : wpList Try.prog ops Q (⟨none, .store 189 x y, ty, pos, af, none⟩ :: rest) a (w.alloc (.cells old t)) :=
  str_inner hx hy (World.alloc_heap_new w _) ho hl h1 (by rw [World.setRow_alloc_new]; exact h)
theorem res_inner {fn : Func} {p : Tmp} {tmps : Array Value} {w : World} {g : Nat} {t : TypeId} {cs : Array Value} {fr : Nat × Nat} (h : fn.results = #[.cell p 189])
    (hp : tmps.getD p undef = .pointer (some ⟨g, 0, none⟩)) (hg : w.heap[g]? = some (.cells cs t fr)) (hl : cs.size = 4) : (results fn tmps).run Try.prog w = .ok (.agg cs) w :=
  results_cell_row h tmps w g t cs fr _ hp hg Try.underlying189 rfl (by rw [hl]; kernel_rfl)
theorem ld_outer {o : Oper} {a : Act} {w : World} {x : Operand} {g i : Nat} {cs : List Value} (ho : o.op = .load 65 x) (hx : a.eval x = .pointer (some ⟨g, i, none⟩)) (hr : w.rangeAt g i cs) (hl : cs.length = 3) :
    (execOp a.eval o).run Try.prog w = .ok (.value (.agg cs.toArray)) w := by
  have h := run_loadVar_mid (P := Try.prog) w g i 65 cs _ hr Try.underlying65 rfl (by rw [hl]; kernel_rfl)
  unfold execOp
  simp only [ho, hx, Instr.loadAt, Instr.sureAddr, Sem.run_bind, Sem.run_pure, Result.andThen_ok, h]
theorem str_outer {ops : Array Oper} {rest : List Oper} {x y : Operand} {ty : TypeId} {pos : String} {af : Array Edge} {a : Act} {w : World} {Q : Exit → Act → World → Prop}
    {g : Nat} {t : TypeId} {cs old : Array Value} (hx : a.eval x = .pointer (some ⟨g, 0, none⟩)) (hy : a.eval y = .agg cs) (hg : w.heap[g]? = some (.cells old t (0, 0))) (ho : old.size = 3) (hl : cs.size = 3) (h1 : cs.all (·.oneCell') = true)
    (h : wpList Try.prog ops Q rest (a.put none undef) (w.setRow g cs)) : wpList Try.prog ops Q (⟨none, .store 65 x y, ty, pos, af, none⟩ :: rest) a w :=
  wpList_plain rfl fun _ hK => wp_store_row 65 x y rfl g cs hx hy t old hg (by rw [hl]; kernel_rfl) (by rw [ho, hl]) h1 (hK _ _ h)
theorem strn_outer {ops : Array Oper} {rest : List Oper} {x y : Operand} {ty : TypeId} {pos : String} {af : Array Edge} {a : Act} {w : World} {Q : Exit → Act → World → Prop}
    {t : TypeId} {cs old : Array Value} (hx : a.eval x = .pointer (some ⟨w.heap.size, 0, none⟩)) (hy : a.eval y = .agg cs) (ho : old.size = 3) (hl : cs.size = 3) (h1 : cs.all (·.oneCell') = true)
    (h : wpList Try.prog ops Q rest (a.put none undef) (w.alloc (.cells cs t))) : wpList Try.prog ops Q (⟨none, .store 65 x y, ty, pos, af, none⟩ :: rest) a (w.alloc (.cells old t)) :=
  str_outer hx hy (World.alloc_heap_new w _) ho hl h1 (by rw [World.setRow_alloc_new]; exact h)
theorem res_outer {fn : Func} {p : Tmp} {tmps : Array Value} {w : World} {g : Nat} {t : TypeId} {cs : Array Value} {fr : Nat × Nat} (h : fn.results = #[.cell p 65])
    (hp : tmps.getD p undef = .pointer (some ⟨g, 0, none⟩)) (hg : w.heap[g]? = some (.cells cs t fr)) (hl : cs.size = 3) : (results fn tmps).run Try.prog w = .ok (.agg cs) w :=
  results_cell_row h tmps w g t cs fr _ hp hg Try.underlying65 rfl (by rw [hl]; kernel_rfl)
theorem ld_bnd {o : Oper} {a : Act} {w : World} {x : Operand} {g i : Nat} {cs : List Value} (ho : o.op = .load 185 x) (hx : a.eval x = .pointer (some ⟨g, i, none⟩)) (hr : w.rangeAt g i cs) (hl : cs.length = 3) :
    (execOp a.eval o).run Try.prog w = .ok (.value (.agg cs.toArray)) w := by
  have h := run_loadVar_mid (P := Try.prog) w g i 185 cs _ hr Try.underlying185 rfl (by rw [hl]; kernel_rfl)
  unfold execOp
  simp only [ho, hx, Instr.loadAt, Instr.sureAddr, Sem.run_bind, Sem.run_pure, Result.andThen_ok, h]
theorem str_bnd {ops : Array Oper} {rest : List Oper} {x y : Operand} {ty : TypeId} {pos : String} {af : Array Edge} {a : Act} {w : World} {Q : Exit → Act → World → Prop}
    {g : Nat} {t : TypeId} {cs old : Array Value} (hx : a.eval x = .pointer (some ⟨g, 0, none⟩)) (hy : a.eval y = .agg cs) (hg : w.heap[g]? = some (.cells old t (0, 0))) (ho : old.size = 3) (hl : cs.size = 3) (h1 : cs.all (·.oneCell') = true)
    (h : wpList Try.prog ops Q rest (a.put none undef) (w.setRow g cs)) : wpList Try.prog ops Q (⟨none, .store 185 x y, ty, pos, af, none⟩ :: rest) a w :=
  wpList_plain rfl fun _ hK => wp_store_row 185 x y rfl g cs hx hy t old hg (by rw [hl]; kernel_rfl) (by rw [ho, hl]) h1 (hK _ _ h)
theorem strn_bnd {ops : Array Oper} {rest : List Oper} {x y : Operand} {ty : TypeId} {pos : String} {af : Array Edge} {a : Act} {w : World} {Q : Exit → Act → World → Prop}
    {t : TypeId} {cs old : Array Value} (hx : a.eval x = .pointer (some ⟨w.heap.size, 0, none⟩)) (hy : a.eval y = .agg cs) (ho : old.size = 3) (hl : cs.size = 3) (h1 : cs.all (·.oneCell') = true)
    (h : wpList Try.prog ops Q rest (a.put none undef) (w.alloc (.cells cs t))) : wpList Try.prog ops Q (⟨none, .store 185 x y, ty, pos, af, none⟩ :: rest) a (w.alloc (.cells old t)) :=
  str_bnd hx hy (World.alloc_heap_new w _) ho hl h1 (by rw [World.setRow_alloc_new]; exact h)
theorem res_bnd {fn : Func} {p : Tmp} {tmps : Array Value} {w : World} {g : Nat} {t : TypeId} {cs : Array Value} {fr : Nat × Nat} (h : fn.results = #[.cell p 185])
    (hp : tmps.getD p undef = .pointer (some ⟨g, 0, none⟩)) (hg : w.heap[g]? = some (.cells cs t fr)) (hl : cs.size = 3) : (results fn tmps).run Try.prog w = .ok (.agg cs) w :=
  results_cell_row h tmps w g t cs fr _ hp hg Try.underlying185 rfl (by rw [hl]; kernel_rfl)
theorem ld_cfg {o : Oper} {a : Act} {w : World} {x : Operand} {g i : Nat} {cs : List Value} (ho : o.op = .load 74 x) (hx : a.eval x = .pointer (some ⟨g, i, none⟩)) (hr : w.rangeAt g i cs) (hl : cs.length = 36) :
    (execOp a.eval o).run Try.prog w = .ok (.value (.agg cs.toArray)) w := by
  have h := run_loadVar_mid (P := Try.prog) w g i 74 cs _ hr Try.underlying74 rfl (by rw [hl]; kernel_rfl)
  unfold execOp
  simp only [ho, hx, Instr.loadAt, Instr.sureAddr, Sem.run_bind, Sem.run_pure, Result.andThen_ok, h]
theorem str_cfg {ops : Array Oper} {rest : List Oper} {x y : Operand} {ty : TypeId} {pos : String} {af : Array Edge} {a : Act} {w : World} {Q : Exit → Act → World → Prop}
    {g : Nat} {t : TypeId} {cs old : Array Value} (hx : a.eval x = .pointer (some ⟨g, 0, none⟩)) (hy : a.eval y = .agg cs) (hg : w.heap[g]? = some (.cells old t (0, 0))) (ho : old.size = 36) (hl : cs.size = 36) (h1 : cs.all (·.oneCell') = true)
    (h : wpList Try.prog ops Q rest (a.put none undef) (w.setRow g cs)) : wpList Try.prog ops Q (⟨none, .store 74 x y, ty, pos, af, none⟩ :: rest) a w :=
  wpList_plain rfl fun _ hK => wp_store_row 74 x y rfl g cs hx hy t old hg (by rw [hl]; kernel_rfl) (by rw [ho, hl]) h1 (hK _ _ h)
theorem strn_cfg {ops : Array Oper} {rest : List Oper} {x y : Operand} {ty : TypeId} {pos : String} {af : Array Edge} {a : Act} {w : World} {Q : Exit → Act → World → Prop}
    {t : TypeId} {cs old : Array Value} (hx : a.eval x = .pointer (some ⟨w.heap.size, 0, none⟩)) (hy : a.eval y = .agg cs) (ho : old.size = 36) (hl : cs.size = 36) (h1 : cs.all (·.oneCell') = true)
    (h : wpList Try.prog ops Q rest (a.put none undef) (w.alloc (.cells cs t))) : wpList Try.prog ops Q (⟨none, .store 74 x y, ty, pos, af, none⟩ :: rest) a (w.alloc (.cells old t)) :=
  str_cfg hx hy (World.alloc_heap_new w _) ho hl h1 (by rw [World.setRow_alloc_new]; exact h)
theorem res_cfg {fn : Func} {p : Tmp} {tmps : Array Value} {w : World} {g : Nat} {t : TypeId} {cs : Array Value} {fr : Nat × Nat} (h : fn.results = #[.cell p 74])
    (hp : tmps.getD p undef = .pointer (some ⟨g, 0, none⟩)) (hg : w.heap[g]? = some (.cells cs t fr)) (hl : cs.size = 36) : (results fn tmps).run Try.prog w = .ok (.agg cs) w :=
  results_cell_row h tmps w g t cs fr _ hp hg Try.underlying74 rfl (by rw [hl]; kernel_rfl)
end Go.Proofs.Ytogidfagkgccmaa

/-
  The marks by which layer 20 counts. Conditions are each theorem's own.
-/
namespace Go.Proofs.Ytogidfagkgccmaa
open Go.RowKit
theorem six_one (b : List UInt8) : (row b).toArray.all (·.oneCell') = true := Array.all_eq_true_iff_forall_mem.2 fun v hv => row_one b v (by simpa using hv)
theorem ints_one (l : List Int) : (clI l).toArray.all (·.oneCell') = true := Array.all_eq_true_iff_forall_mem.2 fun v hv => by
  have : v ∈ clI l := by simpa using hv
  obtain ⟨a, _, rfl⟩ := List.mem_map.1 this; rfl
theorem sta_one (s : Sta) : (clS s).toArray.all (·.oneCell') = true := by simp [clS, Value.oneCell']
theorem inS_at {W : World} {g o : Nat} {s : Sta} (h : W.rangeAt g o (clS s)) : W.rangeAt g o (clI (inS s)) := fun j v hj => h j v (by
  rw [clS_eq, List.getElem?_append_left (List.getElem?_eq_some_iff.1 hj).1]; exact hj)
theorem ouS_at {W : World} {g o : Nat} {s : Sta} (h : W.rangeAt g o (clS s)) : W.rangeAt g (o + 4) (clI (ouS s)) := fun j v hj => by
  have := h (4 + j) v (by rw [clS_eq, List.getElem?_append_right (by simp [clI, inS])]; simpa [clI, inS] using hj)
  rwa [show o + 4 + j = o + (4 + j) by omega]
set_option maxRecDepth 100000 in
theorem mkSix (b : List UInt8) (hb : b.length = 16) (w : World) : Calls Try.prog 128 #[.agg (row b).toArray] w fun e w' => e = .returned (.agg (row b).toArray) ∧ Below w.heap.size w w' := by
  have h0 := AtNew (w := w) (cs := row b) (t := 70)
  have hl : (row b).length = 16 := by rw [row_length]; exact hb
  have h1 := fun o => (range_below h0 (by simp) (B := (w.alloc (.cells (row b).toArray 70)).heap.size) ((Below.refl _ _).alloc (Nat.le_refl _) o))
  have hB := below_two w (.cells (row b).toArray 70) (.cells (row b).toArray 70)
  have hg : ((w.alloc (.cells (row b).toArray 70)).alloc (.cells (row b).toArray 70)).heap[w.heap.size + 1]? = some (.cells (row b).toArray 70) := by
    have := World.alloc_heap_new (w.alloc (.cells (row b).toArray 70)) (.cells (row b).toArray 70)
    rwa [World.size_alloc] at this
  have hz := six_one b
  have hs : (row b).toArray.size = 16 := by simpa using hl
  generalize row b = C at *
  go_enter Try.func128, Try.ntmps128
  go_wp2_with (first
    | ((with_reducible show wpList _ _ _ (Oper.mk _ (Op.load _ _) _ _ _ _ :: _) _ _); refine wpList_val rfl (ld_six rfl rfl (h1 _) hl) ?_)
    | ((with_reducible show wpList _ _ _ (Oper.mk _ (Op.store _ _ _) _ _ _ _ :: _) _ _); refine strn_six (w := w.alloc (.cells C.toArray 70)) (by rw [World.size_alloc]; rfl) rfl rfl hs hz ?_))
  exact bodyPost_ret (res_six rfl rfl hg hs) rfl ⟨rfl, hB⟩
theorem mkInt (a : Int) (w : World) : Calls Try.prog 130 #[.int .i64 a] w fun e w' => e = .returned (.int .i64 a) ∧ Below w.heap.size w w' := by
  go_enter Try.func130, Try.ntmps130
  go_wp2
  go_ret
  exact ⟨rfl, Below.refl _ _⟩
theorem mkSw (s : Sta) (w : World) : Calls Try.prog 136 #[.agg (clS s).toArray] w fun e w' => e = .returned (.int .i64 s.sw) ∧ Below w.heap.size w w' := by
  have hB := (Below.refl w.heap.size w).alloc (Nat.le_refl _) (.cells (clS s).toArray 191)
  have h0 : (w.alloc (.cells (clS s).toArray 191)).cell? ⟨w.heap.size, 0, none⟩ = some (.int .i64 s.sw) := AtNew 0 _ rfl
  go_enter Try.func136, Try.ntmps136
  go_wp2
  go_ret
  exact ⟨rfl, hB⟩
set_option maxRecDepth 100000 in
theorem mkInner (s : Sta) (w : World) : Calls Try.prog 132 #[.agg (clS s).toArray] w fun e w' => e = .returned (.agg (clI (inS s)).toArray) ∧ Below w.heap.size w w' := by
  have h0 := AtNew (w := w) (cs := clS s) (t := 191)
  have h1 := fun o => inS_at (range_below h0 (by simp) (B := (w.alloc (.cells (clS s).toArray 191)).heap.size) ((Below.refl _ _).alloc (Nat.le_refl _) o))
  have hl : (clI (inS s)).length = 4 := rfl
  have hB := below_two w (.cells (clS s).toArray 191) (.cells (clI (inS s)).toArray 189)
  have hg : ((w.alloc (.cells (clS s).toArray 191)).alloc (.cells (clI (inS s)).toArray 189)).heap[w.heap.size + 1]? = some (.cells (clI (inS s)).toArray 189) := by
    have := World.alloc_heap_new (w.alloc (.cells (clS s).toArray 191)) (.cells (clI (inS s)).toArray 189)
    rwa [World.size_alloc] at this
  have hz := ints_one (inS s)
  have hs : (clI (inS s)).toArray.size = 4 := rfl
  generalize clS s = C at *
  generalize clI (inS s) = D at *
  go_enter Try.func132, Try.ntmps132
  go_wp2_with (first
    | ((with_reducible show wpList _ _ _ (Oper.mk _ (Op.load _ _) _ _ _ _ :: _) _ _); refine wpList_val rfl (ld_inner rfl rfl (h1 _) hl) ?_)
    | ((with_reducible show wpList _ _ _ (Oper.mk _ (Op.store _ _ _) _ _ _ _ :: _) _ _); refine strn_inner (w := w.alloc (.cells C.toArray 191)) (by rw [World.size_alloc]; rfl) rfl rfl hs hz ?_))
  exact bodyPost_ret (res_inner rfl rfl hg hs) rfl ⟨rfl, hB⟩
set_option maxRecDepth 100000 in
theorem mkOuter (s : Sta) (w : World) : Calls Try.prog 134 #[.agg (clS s).toArray] w fun e w' => e = .returned (.agg (clI (ouS s)).toArray) ∧ Below w.heap.size w w' := by
  have h0 := AtNew (w := w) (cs := clS s) (t := 191)
  have h1 := fun o => ouS_at (range_below h0 (by simp) (B := (w.alloc (.cells (clS s).toArray 191)).heap.size) ((Below.refl _ _).alloc (Nat.le_refl _) o))
  have hl : (clI (ouS s)).length = 3 := rfl
  have hB := below_two w (.cells (clS s).toArray 191) (.cells (clI (ouS s)).toArray 65)
  have hg : ((w.alloc (.cells (clS s).toArray 191)).alloc (.cells (clI (ouS s)).toArray 65)).heap[w.heap.size + 1]? = some (.cells (clI (ouS s)).toArray 65) := by
    have := World.alloc_heap_new (w.alloc (.cells (clS s).toArray 191)) (.cells (clI (ouS s)).toArray 65)
    rwa [World.size_alloc] at this
  have hz := ints_one (ouS s)
  have hs : (clI (ouS s)).toArray.size = 3 := rfl
  generalize clS s = C at *
  generalize clI (ouS s) = D at *
  go_enter Try.func134, Try.ntmps134
  go_wp2_with (first
    | ((with_reducible show wpList _ _ _ (Oper.mk _ (Op.load _ _) _ _ _ _ :: _) _ _); refine wpList_val rfl (ld_outer rfl rfl (h1 _) hl) ?_)
    | ((with_reducible show wpList _ _ _ (Oper.mk _ (Op.store _ _ _) _ _ _ _ :: _) _ _); refine strn_outer (w := w.alloc (.cells C.toArray 191)) (by rw [World.size_alloc]; rfl) rfl rfl hs hz ?_))
  exact bodyPost_ret (res_outer rfl rfl hg hs) rfl ⟨rfl, hB⟩
end Go.Proofs.Ytogidfagkgccmaa
