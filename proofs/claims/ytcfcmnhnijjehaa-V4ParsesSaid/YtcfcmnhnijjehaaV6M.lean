/-
  Packets of IPv6 and fragment headers, in plain lists of bytes: what may be, its bytes, what bytes are. No program. Conditions are each theorem's own.
-/
import Derived.Test.YtcfcmnhnijjehaaV4N
import Derived.Test.YtcfcmnhnijjehaaOpenS
import Derived.Test.YtcfcmnhnijjehaaAllC
namespace Go.Proofs.Ytcfcmnhnijjehaa
open Go.RowKit

/-- What is right with a fragment header. -/
def okF (f : F6) : Prop := 0 ≤ f.next ∧ f.next ≤ 255 ∧ 0 ≤ f.off ∧ f.off ≤ 65528 ∧ f.off % 8 = 0 ∧ 0 ≤ f.id ∧ f.id < 4294967296
instance (f : F6) : Decidable (okF f) := by unfold okF; infer_instance
def offB (f : F6) : Bool := decide (0 ≤ f.off) && decide (f.off ≤ 65528)
def mulB (f : F6) : Bool := decide (f.off % 8 = 0)
theorem okF_iff (f : F6) : okF f ↔ (fitsB f.next 1 = true ∧ offB f = true ∧ mulB f = true ∧ fitsB f.id 4 = true) := by
  unfold okF offB mulB
  simp only [Bool.and_eq_true, fitsB_iff, decide_eq_true_eq, pw]
  constructor
  · rintro ⟨a1, a2, a3, a4, a5, a6, a7⟩
    refine ⟨⟨?_, ?_, ?_, ?_⟩, ⟨?_, ?_⟩, ?_, ?_, ?_, ?_, ?_⟩ <;> (try simp) <;> omega
  · rintro ⟨⟨_, _, f1, f2⟩, ⟨o1, o2⟩, m, _, _, g1, g2⟩
    simp at f2 g2
    refine ⟨?_, ?_, ?_, ?_, ?_, ?_, ?_⟩ <;> omega
def bytF (f : F6) : List UInt8 := [u8 f.next, 0] ++ be2 (f.off + bit f.more 1) ++ be4 f.id
def bldF (f : F6) : List UInt8 := if okF f then bytF f else []
def errF (f : F6) : Int := if okF f then 0 else 1
theorem bldF_len (f : F6) : (bldF f).length ≤ 8 := by unfold bldF bytF; split <;> simp [be2, be4]
def frz : F6 := ⟨0, 0, 0, false⟩
def rawF (b : List UInt8) : F6 := ⟨byt b 0, n2 b 2 / 8 * 8, n4 b 4, decide (n2 b 2 % 2 = 1)⟩
def prsF (b : List UInt8) : F6 := if b.length < 8 then frz else rawF b
def rstF (b : List UInt8) : List UInt8 := if b.length < 8 then [] else b.drop 8
def prsG (b : List UInt8) : Int := if b.length < 8 then 3 else 0
/-- Are two headers the same? -/
def sameF (f g : F6) : Bool := (f.next == g.next && f.off == g.off && f.id == g.id) && (f.more == g.more)
theorem sameF_iff {f g : F6} : sameF f g = true ↔ f = g := by
  obtain ⟨a, b, c, d⟩ := f
  obtain ⟨a', b', c', d'⟩ := g
  simp only [sameF, Bool.and_eq_true, beq_iff_eq, F6.mk.injEq]
  constructor
  · rintro ⟨⟨⟨h0, h1⟩, h2⟩, h3⟩; exact ⟨h0, h1, h2, h3⟩
  · rintro ⟨h0, h1, h2, h3⟩; exact ⟨⟨⟨h0, h1⟩, h2⟩, h3⟩
theorem byt_u8_mod (n : Int) (l : List UInt8) : byt (u8 n :: l) 0 = n % 256 := by simp [byt, u8_val]
theorem backF (f : F6) (more : List UInt8) (h : okF f) : prsF (bldF f ++ more) = f ∧ rstF (bldF f ++ more) = more ∧ prsG (bldF f ++ more) = 0 := by
  obtain ⟨h1, h2, h3, h4, h5, h6, h7⟩ := h
  have hb : bldF f = bytF f := by rw [bldF, if_pos ⟨h1, h2, h3, h4, h5, h6, h7⟩]
  have hl : ¬ (bytF f ++ more).length < 8 := by simp [bytF, be2, be4]
  rw [hb]
  refine ⟨?_, ?_, by rw [prsG, if_neg hl]⟩
  · rw [prsF, if_neg hl]
    obtain ⟨nx, off, id, mr⟩ := f
    simp only at h1 h2 h3 h4 h5 h6 h7
    have e0 : byt (bytF ⟨nx, off, id, mr⟩ ++ more) 0 = nx := by
      have := u8_val nx
      simp [bytF, byt]; omega
    have e2 : n2 (bytF ⟨nx, off, id, mr⟩ ++ more) 2 = off + bit mr 1 := by
      have a := u8_val ((off + bit mr 1) / 256)
      have b := u8_val (off + bit mr 1)
      have c : 0 ≤ bit mr 1 ∧ bit mr 1 ≤ 1 := by unfold bit; cases mr <;> simp
      simp only [bytF, n2, byt, be2, be4, List.cons_append, List.nil_append, List.getElem?_cons_succ, List.getElem?_cons_zero, Option.getD_some]
      omega
    have e4 : n4 (bytF ⟨nx, off, id, mr⟩ ++ more) 4 = id := by
      have a := u8_val (id / 16777216)
      have b := u8_val (id / 65536)
      have c := u8_val (id / 256)
      have d := u8_val id
      simp only [bytF, n4, byt, be2, be4, List.cons_append, List.nil_append, List.getElem?_cons_succ, List.getElem?_cons_zero, Option.getD_some]
      omega
    rw [rawF, e0, e2, e4]
    have f1 : (off + bit mr 1) / 8 * 8 = off := by cases mr <;> simp [bit] <;> omega
    have f2 : decide ((off + bit mr 1) % 2 = 1) = mr := by cases mr <;> simp [bit] <;> omega
    rw [f1, f2]
  · rw [rstF, if_neg hl]
    simp [bytF, be2, be4]

/-- What is right with a packet's fields. -/
def arg6 (q : P6) : Prop := 0 ≤ q.traffic ∧ q.traffic ≤ 255 ∧ 0 ≤ q.next ∧ q.next ≤ 255 ∧ 0 ≤ q.hop ∧ q.hop ≤ 255 ∧ 0 ≤ q.flow ∧ q.flow < 1048576
instance (q : P6) : Decidable (arg6 q) := by unfold arg6; infer_instance
def chk6 (q : P6) : Int := if arg6 q then (if (q.dat.length : Int) > 65535 then 6 else 0) else 1
def size6 (q : P6) : Int := 40 + (q.dat.length : Int)
def fst6 (q : P6) : Int := 1610612736 + q.traffic * 1048576 + q.flow
def hd6 (q : P6) : List UInt8 := be4 (fst6 q) ++ be2 (q.dat.length : Int) ++ [u8 q.next, u8 q.hop]
def bld6 (q : P6) : List UInt8 := hd6 q ++ q.src ++ q.dst ++ q.dat
theorem hd6_len (q : P6) : (hd6 q).length = 8 := by simp [hd6, be2, be4]
theorem bld6_len (q : P6) (hs : q.src.length = 16) (hd : q.dst.length = 16) : (bld6 q).length = 40 + q.dat.length := by
  simp [bld6, hd6_len, hs, hd]; omega
def p6z : P6 := ⟨0, 0, 0, 0, nul, nul, []⟩
/-- What is wrong with bytes; nothing: 0. -/
def bad6 (b : List UInt8) (quoted : Bool) : Int :=
  if b.length < 40 then 3
  else if byt b 0 / 16 ≠ 6 then 4
  else if quoted = false ∧ n2 b 4 > (b.length : Int) - 40 then 3
  else 0
def end6 (b : List UInt8) : Nat := 40 + min (n2 b 4).toNat (b.length - 40)
def raw6 (b : List UInt8) : P6 := ⟨byt b 0 % 16 * 16 + byt b 1 / 16, byt b 1 % 16 * 65536 + byt b 2 * 256 + byt b 3, byt b 6, byt b 7, (b.drop 8).take 16, (b.drop 24).take 16, (b.take (end6 b)).drop 40⟩
def prs6 (b : List UInt8) (quoted : Bool) : P6 := if bad6 b quoted = 0 then raw6 b else p6z
def same6 (q r : P6) : Bool := (q.traffic == r.traffic && q.flow == r.flow && q.next == r.next && q.hop == r.hop) && decide (q.src = r.src) && decide (q.dst = r.dst) && decide (q.dat = r.dat)
theorem same6_iff {q r : P6} : same6 q r = true ↔ q = r := by
  obtain ⟨a0, a1, a2, a3, a4, a5, a6⟩ := q
  obtain ⟨b0, b1, b2, b3, b4, b5, b6⟩ := r
  simp only [same6, Bool.and_eq_true, beq_iff_eq, decide_eq_true_eq, P6.mk.injEq]
  constructor
  · rintro ⟨⟨⟨⟨⟨⟨h0, h1⟩, h2⟩, h3⟩, h4⟩, h5⟩, h6⟩; exact ⟨h0, h1, h2, h3, h4, h5, h6⟩
  · rintro ⟨h0, h1, h2, h3, h4, h5, h6⟩; exact ⟨⟨⟨⟨⟨⟨h0, h1⟩, h2⟩, h3⟩, h4⟩, h5⟩, h6⟩
theorem back6 (q : P6) (more : List UInt8) (hs : q.src.length = 16) (hd : q.dst.length = 16) (h : chk6 q = 0) : bad6 (bld6 q ++ more) false = 0 ∧ raw6 (bld6 q ++ more) = q := by
  have ha : arg6 q := by
    rcases Decidable.em (arg6 q) with h' | h'
    · exact h'
    · rw [chk6, if_neg h'] at h; omega
  have hl : (q.dat.length : Int) ≤ 65535 := by
    rcases Int.lt_or_le 65535 (q.dat.length : Int) with h' | h'
    · rw [chk6, if_pos ha, if_pos h'] at h; omega
    · exact h'
  obtain ⟨a1, a2, a3, a4, a5, a6, a7, a8⟩ := ha
  have hlen : (bld6 q ++ more).length = 40 + q.dat.length + more.length := by rw [List.length_append, bld6_len q hs hd]
  have b0 : byt (bld6 q ++ more) 0 = fst6 q / 16777216 % 256 := by have := u8_val (fst6 q / 16777216); simpa [bld6, hd6, be4, byt] using this
  have b1 : byt (bld6 q ++ more) 1 = fst6 q / 65536 % 256 := by have := u8_val (fst6 q / 65536); simpa [bld6, hd6, be4, byt] using this
  have b2 : byt (bld6 q ++ more) 2 = fst6 q / 256 % 256 := by have := u8_val (fst6 q / 256); simpa [bld6, hd6, be4, byt] using this
  have b3 : byt (bld6 q ++ more) 3 = fst6 q % 256 := by have := u8_val (fst6 q); simpa [bld6, hd6, be4, byt] using this
  have b4 : byt (bld6 q ++ more) 4 = (q.dat.length : Int) / 256 % 256 := by have := u8_val ((q.dat.length : Int) / 256); simpa [bld6, hd6, be4, be2, byt] using this
  have b5 : byt (bld6 q ++ more) 5 = (q.dat.length : Int) % 256 := by have := u8_val (q.dat.length : Int); simpa [bld6, hd6, be4, be2, byt] using this
  have b6 : byt (bld6 q ++ more) 6 = q.next % 256 := by have := u8_val q.next; simpa [bld6, hd6, be4, be2, byt] using this
  have b7 : byt (bld6 q ++ more) 7 = q.hop % 256 := by have := u8_val q.hop; simpa [bld6, hd6, be4, be2, byt] using this
  have hn : n2 (bld6 q ++ more) 4 = (q.dat.length : Int) := by rw [n2, b4, b5]; omega
  have hf : fst6 q = 1610612736 + q.traffic * 1048576 + q.flow := rfl
  have he : end6 (bld6 q ++ more) = 40 + q.dat.length := by rw [end6, hn, hlen]; simp; omega
  have hd8 : (bld6 q ++ more).drop 8 = q.src ++ (q.dst ++ (q.dat ++ more)) := by
    rw [bld6, List.append_assoc, List.append_assoc, List.append_assoc, ← hd6_len q, List.drop_left]
  have hd24 : (bld6 q ++ more).drop 24 = q.dst ++ (q.dat ++ more) := by
    rw [show 24 = 8 + 16 from rfl, ← List.drop_drop, hd8, ← hs, List.drop_left]
  have hd40 : (bld6 q ++ more).drop 40 = q.dat ++ more := by
    rw [show 40 = 24 + 16 from rfl, ← List.drop_drop, hd24, ← hd, List.drop_left]
  refine ⟨?_, ?_⟩
  · rw [bad6, if_neg (by rw [hlen]; omega), if_neg (by rw [b0, hf]; omega), if_neg (by rw [hn, hlen]; omega)]
  · have e1 : ((bld6 q ++ more).take (end6 (bld6 q ++ more))).drop 40 = q.dat := by
      rw [he, List.drop_take, hd40]; simp
    have e2 : ((bld6 q ++ more).drop 8).take 16 = q.src := by rw [hd8, ← hs, List.take_left]
    have e3 : ((bld6 q ++ more).drop 24).take 16 = q.dst := by rw [hd24, ← hd, List.take_left]
    have e4 : byt (bld6 q ++ more) 0 % 16 * 16 + byt (bld6 q ++ more) 1 / 16 = q.traffic := by rw [b0, b1, hf]; omega
    have e5 : byt (bld6 q ++ more) 1 % 16 * 65536 + byt (bld6 q ++ more) 2 * 256 + byt (bld6 q ++ more) 3 = q.flow := by rw [b1, b2, b3, hf]; omega
    have e6 : byt (bld6 q ++ more) 6 = q.next := by rw [b6]; omega
    have e7 : byt (bld6 q ++ more) 7 = q.hop := by rw [b7]; omega
    rw [raw6, e1, e2, e3, e4, e5, e6, e7]
end Go.Proofs.Ytcfcmnhnijjehaa
