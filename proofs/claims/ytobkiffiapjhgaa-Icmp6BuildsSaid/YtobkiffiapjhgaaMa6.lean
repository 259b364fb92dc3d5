/-
  Contracts and lemmas on which the proofs of this seat stand (several texts in one). Conditions are each theorem's own.
-/
import Derived.Test.YtobkiffiapjhgaaMa5
import Derived.Lib.AppendZerosOnto
import Derived.Lib.Walk
import Derived.Lib.SliceRun

/-
  Segments of TCP in plain lists of bytes: what may be, its bytes, what bytes are. No program. Conditions are each theorem's own.
-/
namespace Go.Proofs.Ytobkiffiapjhgaa
open Go.RowKit

def sizeT (q : PT) : Int := 20 + (q.opt.length : Int) + (q.dat.length : Int)
def lineT (q : PT) : Int := (20 + (q.opt.length : Int)) / 4 * 16 + q.res
def argT (q : PT) : Prop := 0 ≤ q.src ∧ q.src ≤ 65535 ∧ 0 ≤ q.dst ∧ q.dst ≤ 65535 ∧ 0 ≤ q.win ∧ q.win ≤ 65535 ∧ 0 ≤ q.urg ∧ q.urg ≤ 65535 ∧ 0 ≤ q.seq ∧ q.seq < 4294967296 ∧ 0 ≤ q.ack ∧ q.ack < 4294967296 ∧
  0 ≤ q.res ∧ q.res ≤ 15 ∧ 0 ≤ q.flags ∧ q.flags ≤ 255 ∧ q.opt.length ≤ 40 ∧ q.opt.length % 4 = 0
instance (q : PT) : Decidable (argT q) := by unfold argT; infer_instance
def chkT (q : PT) : Int := if argT q then (if sizeT q > 65535 then 6 else 0) else 1
theorem chkT_ok {q : PT} (h : chkT q = 0) : argT q ∧ sizeT q ≤ 65535 := by
  unfold chkT at h
  split at h
  · rename_i ha
    split at h
    · cases h
    · exact ⟨ha, by omega⟩
  · cases h
/-- A head, up to the options. -/
def hda8 (q : PT) : List UInt8 := be2 q.src ++ be2 q.dst ++ be4 q.seq ++ be4 q.ack ++ [u8 (lineT q)] ++ [u8 q.flags] ++ be2 q.win
def hdT (q : PT) (s : Int) : List UInt8 := hda8 q ++ be2 s ++ be2 q.urg
theorem hda8_len (q : PT) : (hda8 q).length = 16 := by simp [hda8, be2, be4]
theorem hdT_len (q : PT) (s : Int) : (hdT q s).length = 20 := by simp [hdT, hda8, be2, be4]
def nineT (q : PT) (s : Int) : List (Int × Int) := [(q.src, 2), (q.dst, 2), (q.seq, 4), (q.ack, 4), (lineT q, 1), (q.flags, 1), (q.win, 2), (s, 2), (q.urg, 2)]
theorem lineT_bd {q : PT} (h : argT q) : 0 ≤ lineT q ∧ lineT q ≤ 255 := by
  obtain ⟨_, _, _, _, _, _, _, _, _, _, _, _, h1, h2, _, _, h3, h4⟩ := h
  unfold lineT; omega
theorem nineT_put (q : PT) (s : Int) (h : argT q) (h0 : 0 ≤ s) (h1 : s ≤ 65535) : putL (nineT q s) = hdT q s := by
  have hl := lineT_bd h
  obtain ⟨a1, a2, a3, a4, a5, a6, a7, a8, a9, a10, a11, a12, a13, a14, a15, a16, _, _⟩ := h
  simp only [nineT, putL, List.foldl_cons, List.foldl_nil]
  rw [put_two a1 a2, put_two a3 a4, put_four a9 a10, put_four a11 a12, put_one hl.1 hl.2, put_one a15 a16, put_two a5 a6, put_two h0 h1, put_two a7 a8]
  simp [hdT, hda8, List.append_assoc]
def smT (src dst : Int) (q : PT) : Int := 65535 - fold (psum [psd src dst 6 (sizeT q), hdT q 0, q.opt, q.dat])
theorem smT_bd (src dst : Int) (q : PT) : 0 ≤ smT src dst q ∧ smT src dst q ≤ 65535 := by
  have := fold_bd (psum [psd src dst 6 (sizeT q), hdT q 0, q.opt, q.dat]); unfold smT; omega
def bldT (src dst : Int) (q : PT) : List UInt8 := hdT q (smT src dst q) ++ q.opt ++ q.dat
theorem bldT_len (src dst : Int) (q : PT) : (bldT src dst q).length = 20 + q.opt.length + q.dat.length := by rw [bldT, List.length_append, List.length_append, hdT_len]
def hlT (b : List UInt8) : Int := byt b 12 / 16 * 4
def badT (src dst : Int) (b : List UInt8) : Int :=
  if b.length < 20 then 3
  else if hlT b < 20 then 4
  else if hlT b > (b.length : Int) then 3
  else if b.length > 65535 then 6
  else if rightB [psd src dst 6 (b.length : Int), b] = false then 5
  else 0
def rawT (b : List UInt8) : PT := ⟨n2 b 0, n2 b 2, n4 b 4, n4 b 8, byt b 12 % 16, byt b 13, n2 b 14, n2 b 18, (b.take (hlT b).toNat).drop 20, b.drop (hlT b).toNat⟩
def prsT (src dst : Int) (b : List UInt8) : PT := if badT src dst b = 0 then rawT b else tsz
def sameT (q r : PT) : Bool := (q.src == r.src && q.dst == r.dst && q.seq == r.seq && q.ack == r.ack && q.res == r.res && q.flags == r.flags) && (q.win == r.win) && (q.urg == r.urg) && decide (q.opt = r.opt) && decide (q.dat = r.dat)
theorem sameT_iff {q r : PT} : sameT q r = true ↔ q = r := by
  obtain ⟨a0, a1, a2, a3, a4, a5, a6, a7, a8, a9⟩ := q
  obtain ⟨b0, b1, b2, b3, b4, b5, b6, b7, b8, b9⟩ := r
  simp only [sameT, Bool.and_eq_true, beq_iff_eq, decide_eq_true_eq, PT.mk.injEq]
  constructor
  · rintro ⟨⟨⟨⟨⟨⟨⟨⟨⟨h0, h1⟩, h2⟩, h3⟩, h4⟩, h5⟩, h6⟩, h7⟩, h8⟩, h9⟩; exact ⟨h0, h1, h2, h3, h4, h5, h6, h7, h8, h9⟩
  · rintro ⟨h0, h1, h2, h3, h4, h5, h6, h7, h8, h9⟩; exact ⟨⟨⟨⟨⟨⟨⟨⟨⟨h0, h1⟩, h2⟩, h3⟩, h4⟩, h5⟩, h6⟩, h7⟩, h8⟩, h9⟩
theorem hdT_wall (q : PT) {s : Int} (h0 : 0 ≤ s) (h1 : s ≤ 65535) : wall (hdT q s) = wall (hdT q 0) + s := by
  have z : ∀ n : Int, 0 ≤ n → n ≤ 65535 → wall (hdT q n) = wall (hda8 q) + n + wall (be2 q.urg) := fun n a b => by
    rw [hdT, wall_append (m := 9) (by simp [hda8, be2, be4]), wall_append (m := 8) (by simp [hda8, be2, be4]), be2_wall a b]
  rw [z s h0 h1, z 0 (by omega) (by omega)]; omega
theorem psum_glueT (p : List UInt8) (q : PT) (s : Int) (h : argT q) : psum [p, hdT q s, q.opt, q.dat] = psum [p, hdT q s ++ q.opt ++ q.dat] := by
  have h4 : q.opt.length % 4 = 0 := by obtain ⟨_, _, _, _, _, _, _, _, _, _, _, _, _, _, _, _, _, h⟩ := h; exact h
  simp only [psum_cons]
  rw [wall_append (a := hdT q s ++ q.opt) (m := 10 + q.opt.length / 2) (by rw [List.length_append, hdT_len]; omega), wall_append (a := hdT q s) (m := 10) (hdT_len q s)]; omega
theorem smT_two (src dst : Int) (q : PT) (h : argT q) : 65535 - fold (psum [psd src dst 6 (sizeT q), hdT q 0 ++ q.opt ++ q.dat]) = smT src dst q := by
  rw [smT, psum_glueT _ _ _ h]
theorem bldT_right (src dst : Int) (q : PT) (h : argT q) : rightB [psd src dst 6 (sizeT q), bldT src dst q] = true := by
  have e : psum [psd src dst 6 (sizeT q), bldT src dst q] = psum [psd src dst 6 (sizeT q), hdT q 0, q.opt, q.dat] + smT src dst q := by
    rw [bldT, ← psum_glueT _ _ _ h]
    simp only [psum_cons]
    rw [hdT_wall q (smT_bd src dst q).1 (smT_bd src dst q).2]; omega
  have hs : smT src dst q = 65535 - fold (psum [psd src dst 6 (sizeT q), hdT q 0, q.opt, q.dat]) := rfl
  rw [rightB, e, right_of (psum_nn _) hs]; rfl
theorem n4_be4 {a b : List UInt8} {n : Int} (h0 : 0 ≤ n) (h1 : n < 4294967296) {k : Nat} (hk : a.length = k) : n4 (a ++ (be4 n ++ b)) k = n := by
  have e0 : byt (a ++ (be4 n ++ b)) (a.length + 0) = byt (be4 n ++ b) 0 := byt_right
  have e1 : byt (a ++ (be4 n ++ b)) (a.length + 1) = byt (be4 n ++ b) 1 := byt_right
  have e2 : byt (a ++ (be4 n ++ b)) (a.length + 2) = byt (be4 n ++ b) 2 := byt_right
  have e3 : byt (a ++ (be4 n ++ b)) (a.length + 3) = byt (be4 n ++ b) 3 := byt_right
  subst hk
  unfold n4
  rw [show a.length = a.length + 0 from rfl, e0, Nat.add_zero, e1, e2, e3]
  have c0 : byt (be4 n ++ b) 0 = n / 16777216 % 256 := u8_val _
  have c1 : byt (be4 n ++ b) 1 = n / 65536 % 256 := u8_val _
  have c2 : byt (be4 n ++ b) 2 = n / 256 % 256 := u8_val _
  have c3 : byt (be4 n ++ b) 3 = n % 256 := u8_val _
  rw [c0, c1, c2, c3]; omega
theorem byt_u8 {a b : List UInt8} {n : Int} {k : Nat} (hk : a.length = k) : byt (a ++ ([u8 n] ++ b)) k = n % 256 := by
  have e0 : byt (a ++ ([u8 n] ++ b)) (a.length + 0) = byt ([u8 n] ++ b) 0 := byt_right
  subst hk
  rw [Nat.add_zero] at e0; rw [e0]; exact u8_val _
theorem backT {src dst : Int} {q : PT} (h : chkT q = 0) : badT src dst (bldT src dst q) = 0 ∧ prsT src dst (bldT src dst q) = q := by
  obtain ⟨ha, hz⟩ := chkT_ok h
  have hl := lineT_bd ha
  have hr := bldT_right src dst q ha
  have hs := smT_bd src dst q
  have hlen := bldT_len src dst q
  obtain ⟨a1, a2, a3, a4, a5, a6, a7, a8, a9, a10, a11, a12, a13, a14, a15, a16, a17, a18⟩ := ha
  have f0 : n2 (bldT src dst q) 0 = q.src := by
    simp only [bldT, hdT, hda8, List.append_assoc]; exact n2_be2 (a := []) a1 a2 rfl
  have f2 : n2 (bldT src dst q) 2 = q.dst := by
    simp only [bldT, hdT, hda8, List.append_assoc]; exact n2_be2 (a := be2 q.src) a3 a4 rfl
  have f4 : n4 (bldT src dst q) 4 = q.seq := by
    simp only [bldT, hdT, hda8, List.append_assoc]; rw [← List.append_assoc]; exact n4_be4 (a := be2 q.src ++ be2 q.dst) a9 a10 rfl
  have f8 : n4 (bldT src dst q) 8 = q.ack := by
    simp only [bldT, hdT, hda8, List.append_assoc]; rw [← List.append_assoc, ← List.append_assoc]; exact n4_be4 (a := be2 q.src ++ be2 q.dst ++ be4 q.seq) a11 a12 rfl
  have f12 : byt (bldT src dst q) 12 = lineT q := by
    have : byt (bldT src dst q) 12 = lineT q % 256 := by
      simp only [bldT, hdT, hda8, List.append_assoc]; rw [← List.append_assoc, ← List.append_assoc, ← List.append_assoc]; exact byt_u8 (a := be2 q.src ++ be2 q.dst ++ be4 q.seq ++ be4 q.ack) rfl
    omega
  have f13 : byt (bldT src dst q) 13 = q.flags := by
    have : byt (bldT src dst q) 13 = q.flags % 256 := by
      simp only [bldT, hdT, hda8, List.append_assoc]; rw [← List.append_assoc, ← List.append_assoc, ← List.append_assoc, ← List.append_assoc]; exact byt_u8 (a := be2 q.src ++ be2 q.dst ++ be4 q.seq ++ be4 q.ack ++ [u8 (lineT q)]) rfl
    omega
  have f14 : n2 (bldT src dst q) 14 = q.win := by
    simp only [bldT, hdT, hda8, List.append_assoc]; rw [← List.append_assoc, ← List.append_assoc, ← List.append_assoc, ← List.append_assoc, ← List.append_assoc]; exact n2_be2 (a := be2 q.src ++ be2 q.dst ++ be4 q.seq ++ be4 q.ack ++ [u8 (lineT q)] ++ [u8 q.flags]) a5 a6 rfl
  have f18 : n2 (bldT src dst q) 18 = q.urg := by
    have e : bldT src dst q = (hda8 q ++ be2 (smT src dst q)) ++ (be2 q.urg ++ (q.opt ++ q.dat)) := by simp [bldT, hdT, List.append_assoc]
    rw [e]; exact n2_be2 a7 a8 (by simp [hda8, be2, be4])
  have fh : hlT (bldT src dst q) = 20 + (q.opt.length : Int) := by
    unfold hlT; rw [f12]; unfold lineT; omega
  have hsz : ((bldT src dst q).length : Int) = sizeT q := by rw [hlen]; unfold sizeT; omega
  have hb : badT src dst (bldT src dst q) = 0 := by
    unfold badT
    rw [if_neg (by omega), fh, if_neg (by omega), if_neg (by omega), if_neg (by omega), if_neg (by rw [hsz, hr]; simp)]
  refine ⟨hb, ?_⟩
  rw [prsT, if_pos hb, rawT, f0, f2, f4, f8, f12, f13, f14, f18, fh]
  have e1 : (20 + (q.opt.length : Int)).toNat = 20 + q.opt.length := by omega
  have e2 : (bldT src dst q).take (20 + q.opt.length) = hdT q (smT src dst q) ++ q.opt := by rw [bldT, List.take_left' (by rw [List.length_append, hdT_len])]
  have e3 : (hdT q (smT src dst q) ++ q.opt).drop 20 = q.opt := List.drop_left' (hdT_len q _)
  have e4 : (bldT src dst q).drop (20 + q.opt.length) = q.dat := by rw [bldT, List.drop_left' (by rw [List.length_append, hdT_len])]
  have e5 : lineT q % 16 = q.res := by unfold lineT; omega
  rw [e1, e2, e3, e4, e5]
/-- How many bytes the option at a place has; 0: there is none. -/
def optL (b : List UInt8) (at_ : Nat) : Nat :=
  if b.length ≤ at_ then 0
  else if byt b at_ ≤ 1 then 1
  else if b.length ≤ at_ + 1 ∨ byt b (at_ + 1) < 2 ∨ byt b (at_ + 1) > (b.length : Int) - at_ then 0
  else (byt b (at_ + 1)).toNat
theorem optL_le {b : List UInt8} {at_ : Nat} (h : 0 < optL b at_) : at_ + optL b at_ ≤ b.length ∧ at_ < b.length := by
  unfold optL at h ⊢
  split at h
  · omega
  · rename_i h1
    rw [if_neg h1]
    split at h
    · rename_i h2; rw [if_pos h2]; omega
    · rename_i h2
      rw [if_neg h2]
      split at h
      · omega
      · rename_i h3
        rw [if_neg h3]; omega
/-- Where options begin, from a place on. -/
def plc (b : List UInt8) : Nat → Nat → List Nat
  | 0, _ => []
  | f + 1, a => if optL b a = 0 then [] else a :: (if byt b a = 0 then [] else plc b f (a + optL b a))
def places (b : List UInt8) : List Nat := plc b (b.length + 1) 0
theorem plc_more (b : List UInt8) : ∀ (f g a : Nat), b.length + 1 ≤ a + f → b.length + 1 ≤ a + g → plc b f a = plc b g a
  | 0, 0, _, _, _ => rfl
  | 0, g + 1, a, h, _ => by
    have : optL b a = 0 := by unfold optL; rw [if_pos (by omega)]
    rw [plc, plc, if_pos this]
  | f + 1, 0, a, _, h => by
    have : optL b a = 0 := by unfold optL; rw [if_pos (by omega)]
    rw [plc, plc, if_pos this]
  | f + 1, g + 1, a, h1, h2 => by
    rw [plc, plc]
    by_cases h0 : optL b a = 0
    · rw [if_pos h0, if_pos h0]
    · rw [if_neg h0, if_neg h0]
      by_cases hz : byt b a = 0
      · rw [if_pos hz, if_pos hz]
      · rw [if_neg hz, if_neg hz, plc_more b f g (a + optL b a) (by omega) (by omega)]
/-- From a place on, with as much as is wanted. -/
def rest (b : List UInt8) (a : Nat) : List Nat := plc b (b.length + 1) a
theorem rest_none {b : List UInt8} {a : Nat} (h : optL b a = 0) : rest b a = [] := by rw [rest, plc, if_pos h]
theorem rest_last {b : List UInt8} {a : Nat} (h : 0 < optL b a) (hz : byt b a = 0) : rest b a = [a] := by rw [rest, plc, if_neg (by omega), if_pos hz]
theorem rest_more {b : List UInt8} {a : Nat} (h : 0 < optL b a) (hz : byt b a ≠ 0) : rest b a = a :: rest b (a + optL b a) := by
  rw [rest, plc, if_neg (by omega), if_neg hz, rest]
  congr 1
  exact plc_more b _ _ _ (by omega) (by omega)
theorem rest_len (b : List UInt8) : ∀ (f a : Nat), (plc b f a).length ≤ f
  | 0, _ => Nat.le_refl _
  | f + 1, a => by
    rw [plc]; split
    · simp
    · split
      · simp
      · have := rest_len b f (a + optL b a); simp; omega
theorem places_len (b : List UInt8) : (places b).length ≤ b.length + 1 := rest_len b _ _
theorem plc_mem (b : List UInt8) : ∀ (f a x : Nat), x ∈ plc b f a → 0 < optL b x
  | 0, _, _, h => by simp [plc] at h
  | f + 1, a, x, h => by
    rw [plc] at h
    split at h
    · simp at h
    · rename_i h0
      rcases List.mem_cons.1 h with rfl | h
      · omega
      · split at h
        · simp at h
        · exact plc_mem b f _ x h
theorem places_mem {b : List UInt8} {x : Nat} (h : x ∈ places b) : 0 < optL b x := plc_mem b _ _ x h
/-- Does the option at a place tell the greatest size? -/
def mssB (b : List UInt8) (a : Nat) : Bool := decide (byt b a = 2) && decide (optL b a = 4)
/-- The greatest size, where it is told, and whether. -/
def mssT (b : List UInt8) : Option Nat := (places b).find? (mssB b)
def mssN (b : List UInt8) : Int := match mssT b with | some a => n2 b (a + 2) | none => 0
def mssA (b : List UInt8) : Int := match mssT b with | some a => (a : Int) | none => 0
def mssK (b : List UInt8) : Bool := (mssT b).isSome
end Go.Proofs.Ytobkiffiapjhgaa

/-
  Contracts of udp's put, Pseudo, buildHead. Conditions are each theorem's own.
-/
namespace Go.Proofs.Ytobkiffiapjhgaa
open Go.RowKit

/-- The lowest bits of any number, of one below 0 too. -/
theorem and_any (i : Nat) (n : Int) (hi : i ≤ 62) : bits .and .i64 n (2 ^ i - 1) = n % 2 ^ i := by
  obtain ⟨a, ha⟩ : ∃ a : Nat, (a : Int) = n % 2 ^ 64 := ⟨(n % 2 ^ 64).toNat, by omega⟩
  have e : BitVec.ofInt IntKind.i64.bits n = BitVec.ofInt IntKind.i64.bits (a : Int) := by
    apply BitVec.eq_of_toInt_eq
    rw [BitVec.toInt_ofInt, BitVec.toInt_ofInt, ha]
    show Int.bmod n (2 ^ 64) = Int.bmod (n % 2 ^ 64) (2 ^ 64)
    exact (Int.emod_bmod n (2 ^ 64)).symm
  have hpos : 0 < 2 ^ i := Nat.two_pow_pos i
  have hp : 2 ^ i ≤ 2 ^ 62 := Nat.pow_le_pow_right (by decide) hi
  have hc : ((2 : Int) ^ i - 1) = ((2 ^ i - 1 : Nat) : Int) := by
    rw [Int.natCast_sub hpos]; simp
  have hm : (2 ^ i - 1) % 2 ^ IntKind.i64.bits = 2 ^ i - 1 := Nat.mod_eq_of_lt (by show _ < 2 ^ 64; omega)
  have hal : a < 2 ^ 64 := by omega
  have ham : a % 2 ^ IntKind.i64.bits = a := Nat.mod_eq_of_lt hal
  have h1 : bits .and .i64 n (2 ^ i - 1) = IntKind.i64.wrap ((a &&& (2 ^ i - 1) : Nat) : Int) := by
    simp only [bits, e, hc, BitVec.ofInt_natCast, BitVec.toNat_and, BitVec.toNat_ofNat, hm, ham]
  rw [h1, Nat.and_two_pow_sub_one_eq_mod]
  have hlt : a % 2 ^ i < 2 ^ i := Nat.mod_lt _ hpos
  rw [wraps63 _ (by omega) (by omega)]
  have hd : ((2 : Int) ^ i) ∣ 2 ^ 64 := by
    refine ⟨2 ^ (64 - i), ?_⟩
    rw [← Int.pow_add]; congr 1; omega
  have h2 : (n % 2 ^ 64) % 2 ^ i = n % 2 ^ i := Int.emod_emod_of_dvd n hd
  rw [← h2, ← ha]; simp
/-- A number and its size in a block. -/
def AtNS (W : World) (g : Nat) (n s : Int) : Prop := W.rangeAt g 0 [.int .i64 n, .int .i64 s]
section
variable {W : World} {g : Nat} {n s : Int}
theorem AtNS.below {w : World} {B : Nat} (h : AtNS W g n s) (hb : Below B W w) (hg : g < B) : AtNS w g n s := range_below h hg hb
theorem AtNS.num (h : AtNS W g n s) : W.cell? ⟨g, 0, none⟩ = some (.int .i64 n) := h 0 _ rfl
theorem AtNS.siz (h : AtNS W g n s) : W.cell? ⟨g, 1, none⟩ = some (.int .i64 s) := h 1 _ rfl
end
end Go.Proofs.Ytobkiffiapjhgaa

/-
  Contracts of layer 7's Check, numbers and Same, the program's and the document's; of the document's mod and Pseudo. Conditions are each theorem's own.
-/
namespace Go.Proofs.Ytobkiffiapjhgaa
open Go.RowKit

theorem mod_val (n m : Int) (h0 : 0 < m) (h1 : m ≤ 4294967296) : (wrap64 (n.tmod m + m)).tmod m = n % m := by
  have hlt := Int.tmod_lt_of_pos n h0
  have hgt : -m < n.tmod m := by
    have := Int.tmod_lt_of_pos (-n) h0
    rw [Int.neg_tmod] at this; omega
  have e1 : wrap64 (n.tmod m + m) = n.tmod m + m := by unfold wrap64; omega
  rw [e1, Int.tmod_eq_emod_of_nonneg (by omega), Int.add_emod_right]
  have h2 : n = m * (n.tdiv m) + n.tmod m := (Int.mul_tdiv_add_tmod n m).symm
  conv => rhs; rw [h2]
  rw [Int.add_comm, Int.add_mul_emod_self_left]
theorem rput_nil (n s : Int) (w : World) : Calls Try.prog 54 #[.slice none 0 0, .int .i64 n, .int .i64 s] w fun e w' => ∃ v, e = .returned v ∧ Made w w' v (putB [] n s) :=
  rput_any none [] 0 0 n s w (Arg.nil _ 0) (by simp)
section
variable (q : PU) (A : Option Addr) (c : Nat) (w : World)
theorem argU_iff (q : PU) : argU q ↔ (fitsB q.src 2 = true ∧ fitsB q.dst 2 = true) := by
  rw [fitsB_iff, fitsB_iff, pw2, argU]; omega
def numsU (q : PU) : List Int := [q.src, q.dst]
end
theorem sameU_nums (q r : PU) : sameU q r = (decide (numsU q = numsU r) && (q.nosum == r.nosum) && decide (q.dat = r.dat)) := by
  rw [sameU, Bool.eq_iff_iff]; simp [numsU, and_assoc]
section
variable (q r : PU) (A : Option Addr) (c : Nat) (X : Option Addr) (d B : Nat) (w : World)
end
end Go.Proofs.Ytobkiffiapjhgaa

/-
  Contracts of layer 7's check and Build, the program's and the document's. Conditions are each theorem's own.
-/
namespace Go.Proofs.Ytobkiffiapjhgaa
open Go.RowKit

theorem Rd2.two {w : World} {B g t n0 n1 : Nat} {A0 A1 : Option Addr} {c0 c1 : Nat} {b0 b1 : List UInt8} (h0 : n0 = b0.length) (h1 : n1 = b1.length)
    (hg : w.heap[g]? = some (.cells #[.slice A0 n0 c0, .slice A1 n1 c1] t (0, 0))) (hB : g < B) (a0 : Arg w B A0 c0 b0) (a1 : Arg w B A1 c1 b1) : Rd2 w B (some ⟨g, 0, none⟩) [b0, b1] := by
  subst h0; subst h1
  refine Rd2.of_cells hg hB fun j b hj => ?_
  match j, hj with
  | 0, hj => simp at hj; subst hj; exact ⟨A0, c0, rfl, a0⟩
  | 1, hj => simp at hj; subst hj; exact ⟨A1, c1, rfl, a1⟩
  | j + 2, hj => simp at hj
theorem bulk2 (a b : List UInt8) : bulk [a, b] = a.length + b.length := by simp [bulk]
theorem rof_two (A : Option Addr) (a b : List UInt8) (c B : Nat) (N : Int) (hN : Hid (N = 65535 - fold (psum [a, b]))) (w : World) (h : Rd2 w B A [a, b]) (hl : a.length + b.length ≤ 1099511627000) :
    Calls Try.prog 40 #[.slice A 2 c] w fun e w' => e = .returned (.int .i64 N) ∧ ∃ n, w' = w.drewN n := by
  have h1 := rof_any A [a, b] c B w h (by rw [bulk2]; omega) (by simp)
  rw [← hN.out] at h1
  exact h1
theorem right_two (A : Option Addr) (a b : List UInt8) (c B : Nat) (N : Bool) (hN : Hid (N = rightB [a, b])) (w : World) (h : Rd2 w B A [a, b]) (hB : B ≤ w.heap.size) (hl : a.length + b.length ≤ 1099511627000) :
    Calls Try.prog 44 #[.slice A 2 c] w fun e w' => e = .returned (.bool N) ∧ Below w.heap.size w w' := by
  have h1 := right_any A [a, b] c B w h hB (by rw [bulk2]; omega) (by simp)
  rw [← hN.out] at h1
  exact h1
theorem rright_two (A : Option Addr) (a b : List UInt8) (c B : Nat) (N : Bool) (hN : Hid (N = rightB [a, b])) (w : World) (h : Rd2 w B A [a, b]) (hl : a.length + b.length ≤ 1099511627000) :
    Calls Try.prog 47 #[.slice A 2 c] w fun e w' => e = .returned (.bool N) ∧ ∃ n, w' = w.drewN n := by
  have h1 := rright_any A [a, b] c B w h (by rw [bulk2]; omega) (by simp)
  rw [← hN.out] at h1
  exact h1
section
variable (q : PU) (A : Option Addr) (c : Nat) (src dst : Int) (w : World)
end
end Go.Proofs.Ytobkiffiapjhgaa

/-
  Contracts of the document's Build of layer 7, and of udp's reader. Conditions are each theorem's own.
-/
namespace Go.Proofs.Ytobkiffiapjhgaa
open Go.RowKit

section
variable (q : PU) (A : Option Addr) (c : Nat) (src dst : Int) (w : World)
end
/-- What a reader holds: its bytes, and where it is. -/
def RdrS (W : World) (g : Nat) (A : Option Addr) (n c : Nat) (k : Int) : Prop := W.heap[g]? = some (.cells #[.slice A n c] 22 (0, 0)) ∧ W.heap[g + 1]? = some (.cells #[.int .i64 k] 3 (0, 0))
end Go.Proofs.Ytobkiffiapjhgaa

/-
  Contract of udp.Parse. Conditions are each theorem's own.
-/
namespace Go.Proofs.Ytobkiffiapjhgaa
open Go.RowKit

theorem RdrS.alloc {w : World} {g n c : Nat} {A : Option Addr} {k : Int} (h : RdrS w g A n c k) (o : Obj) : RdrS (w.alloc o) g A n c k :=
  ⟨(Below.heap_alloc w o g (heap_lt h.1)).trans h.1, (Below.heap_alloc w o (g + 1) (heap_lt h.2)).trans h.2⟩
section
variable (b : List UInt8) (A : Option Addr) (c : Nat) (src dst : Int) (w : World)
end
end Go.Proofs.Ytobkiffiapjhgaa

/-
  Contract of the document's Parse of layer 7. Conditions are each theorem's own.
-/
namespace Go.Proofs.Ytobkiffiapjhgaa
open Go.RowKit

section
variable (b : List UInt8) (A : Option Addr) (c : Nat) (src dst : Int) (w : World)
end
end Go.Proofs.Ytobkiffiapjhgaa

/-
  Layer 7's awake, and what Build answers, in one shape. Conditions are each theorem's own.
-/
namespace Go.Proofs.Ytobkiffiapjhgaa
open Go.RowKit

def resU (src dst : Int) (q : PU) : List UInt8 := if chkU q = 0 then bldU src dst q else []
theorem resU_shape {src dst : Int} {q : PU} {w w' : World} {v : Value} (h : (chkU q ≠ 0 → v = .slice none 0 0 ∧ Below w.heap.size w w') ∧ (chkU q = 0 → Made w w' v (bldU src dst q))) :
    ∃ P k, v = .slice P (resU src dst q).length k ∧ Rd w' w'.heap.size P (resU src dst q) ∧ Below w.heap.size w w' := by
  by_cases hc : chkU q = 0
  · obtain ⟨A, c, rfl, hl, hr, ho, hb⟩ := h.2 hc
    exact ⟨A, c, by rw [resU, if_pos hc], by rw [resU, if_pos hc]; exact hr, hb⟩
  · obtain ⟨rfl, hb⟩ := h.1 hc
    exact ⟨none, 0, by rw [resU, if_neg hc]; rfl, by rw [resU, if_neg hc]; exact Rd.nil, hb⟩
def qaU : PU := ⟨3, 4, false, [5]⟩
end Go.Proofs.Ytobkiffiapjhgaa

/-
  Contracts of tcp's size, Check, numbers, buildHead, fresh. Conditions are each theorem's own.
-/
namespace Go.Proofs.Ytobkiffiapjhgaa
open Go.RowKit

theorem argT_iff (q : PT) : argT q ↔ (fitsB q.src 2 = true ∧ fitsB q.dst 2 = true ∧ fitsB q.win 2 = true ∧ fitsB q.urg 2 = true ∧ fitsB q.seq 4 = true ∧ fitsB q.ack 4 = true ∧ 0 ≤ q.res ∧ q.res < 16 ∧ fitsB q.flags 1 = true ∧ q.opt.length ≤ 40 ∧ q.opt.length % 4 = 0) := by
  rw [fitsB_iff, fitsB_iff, fitsB_iff, fitsB_iff, fitsB_iff, fitsB_iff, fitsB_iff, pw1, pw2, pw4, argT]; omega
section
variable (q : PT) (A : Option Addr) (c : Nat) (A' : Option Addr) (c' : Nat) (w : World)
def numsT (q : PT) : List Int := [q.src, q.dst, q.seq, q.ack, q.res, q.flags, q.win, q.urg]
end
section
variable (q : PT) (A : Option Addr) (c : Nat) (A' : Option Addr) (c' : Nat) (w : World)
end
end Go.Proofs.Ytobkiffiapjhgaa

/-
  Contracts of layer 8's Same, the program's and the document's; of the document's Check. Conditions are each theorem's own.
-/
namespace Go.Proofs.Ytobkiffiapjhgaa
open Go.RowKit

theorem sameT_nums (q r : PT) : sameT q r = (decide (numsT q = numsT r) && decide (q.opt = r.opt) && decide (q.dat = r.dat)) := by
  rw [sameT, Bool.eq_iff_iff]; simp [numsT, and_assoc]
section
variable (q r : PT) (A : Option Addr) (c : Nat) (A' : Option Addr) (c' : Nat) (X : Option Addr) (d : Nat) (X' : Option Addr) (d' B : Nat) (w : World)
end
def twoB (q : PT) : Bool := fitsB q.src 2 && fitsB q.dst 2 && fitsB q.win 2 && fitsB q.urg 2
def fourB (q : PT) : Bool := fitsB q.seq 4 && fitsB q.ack 4 && fitsB q.flags 1 && decide (0 ≤ q.res) && decide (q.res ≤ 15)
theorem argT_two (q : PT) : argT q ↔ (twoB q = true ∧ fourB q = true ∧ q.opt.length ≤ 40 ∧ q.opt.length % 4 = 0) := by
  rw [argT_iff]
  simp only [twoB, fourB, Bool.and_eq_true, decide_eq_true_eq]
  constructor
  · rintro ⟨h0, h1, h2, h3, h4, h5, h6, h7, h8, h9, h10⟩; exact ⟨⟨⟨⟨h0, h1⟩, h2⟩, h3⟩, ⟨⟨⟨⟨h4, h5⟩, h8⟩, h6⟩, by omega⟩, h9, h10⟩
  · rintro ⟨⟨⟨⟨h0, h1⟩, h2⟩, h3⟩, ⟨⟨⟨⟨h4, h5⟩, h8⟩, h6⟩, h7⟩, h9, h10⟩; exact ⟨h0, h1, h2, h3, h4, h5, h6, by omega, h8, h9, h10⟩
section
variable (q : PT) (A : Option Addr) (c : Nat) (A' : Option Addr) (c' : Nat) (w : World)
end
end Go.Proofs.Ytobkiffiapjhgaa

/-
  Contracts of slices.Grow at nil, and of slices.Concat, over bytes. Conditions are each theorem's own.
-/
namespace Go.Proofs.Ytobkiffiapjhgaa
open Go.RowKit

set_option maxHeartbeats 1000000 in
theorem grow_nil (n : Nat) (h0 : 0 < n) (h1 : n ≤ 1000000000) (w : World) :
    Calls Try.prog 67 #[.slice none 0 0, .int .i64 (n : Int)] w fun e w' => ∃ v, e = .returned v ∧ w'.ownsRow w.heap.size 5 1 v 0 (row []) ∧ Below w.heap.size w w' := by
  obtain ⟨i0, hi, hz0, hz1, hz2⟩ := info_parts info_u8
  have hold : (Builtin.firstCells i0.size 0 (.slice none 0 0)).run Try.prog w.drew = .ok ([] : List Value).toArray w.drew := run_firstCells_none w.drew i0.size 0 0 0
  have hfit : Builtin.nextslicecap (0 + n) 0 * i0.bytes ≤ 281474976710656 := by
    rw [hz2]; exact growslice_fits (by omega) (by omega)
  have hrz : ∀ ty, (Builtin.append_ #[22, 3] ty #[.slice none 0 0, .int .i64 (n : Int)]).run Try.prog w =
      .ok (.slice (some ⟨w.heap.size, 0, none⟩) n (grownCap w n 0 5)) (w.drew.alloc (.cells (([] : List Value).toArray ++ Builtin.zeroCells (Value.int .u8 0).cells n ++ Builtin.zeroCells (Value.int .u8 0).cells (grownCap w n 0 5 - n)) 5)) := fun ty => by
    have h := Lib.run_append_grow_zeros w 22 3 ty 5 i0 (.int .u8 0) .i64 .i64 Try.underlying22 Try.underlying3 hi hz0 none 0 0 [] hold n h0 (by omega) (by omega) (by omega) (by rw [hz2]; omega) hfit
    rw [Nat.zero_add] at h; exact h
  have hge : n ≤ grownCap w n 0 5 := grownCap_ge w _ _ _
  have hle := grownCap_le_maxLen w n 0 5 (by unfold maxLen; omega)
  obtain ⟨G, hG⟩ : ∃ G, G = grownCap w n 0 5 := ⟨_, rfl⟩
  rw [← hG] at hrz hge hle
  have hG63 : G ≤ 9223372036854775807 := by unfold maxLen at hle; omega
  have hHle := Lib.hid hle
  have dn : decide ((n : Int) < 0) = false := by simp
  clear hG hold hfit hle hi hz0 hz1 hz2
  go_enter Try.func67, Try.ntmps67
  go_wp2_with (at_builtin; refine Lib.wpList_append_run _ rfl _ _ _ _ rfl _ _ rfl rfl _ _ (hrz _) ?_)
  go_ret
  have hsz : (Builtin.zeroCells #[Value.int .u8 0] n ++ Builtin.zeroCells #[Value.int .u8 0] (G - n)).size = G := by
    simp only [Array.size_append, size_zeroCells]
    show n * 1 + (G - n) * 1 = G
    omega
  exact ⟨_, rfl, ⟨rfl, .inr ⟨w.heap.size, G, Builtin.zeroCells #[Value.int .u8 0] n ++ Builtin.zeroCells #[Value.int .u8 0] (G - n), rfl, Nat.le_refl _, World.alloc_heap_new w _, Nat.zero_le _, hHle.out, by rw [hsz, Nat.mul_one], by simp [row]⟩⟩, (((Below.refl _ w).alloc (Nat.le_refl _) _).drew)⟩
theorem flatten_take (ps : List (List UInt8)) {k : Nat} {bs : List UInt8} (h : ps[k]? = some bs) : (ps.take (k + 1)).flatten = (ps.take k).flatten ++ bs := by
  rw [List.take_add_one, h]; simp
theorem bulk_flatten (ps : List (List UInt8)) : ps.flatten.length = bulk ps := by simp [bulk, List.length_flatten]
set_option maxRecDepth 100000 in
set_option maxHeartbeats 2000000 in
theorem concat_any (A : Option Addr) (ps : List (List UInt8)) (c B : Nat) (w : World) (h : Rd2 w B A ps) (hB : B ≤ w.heap.size) (h0 : 0 < bulk ps) (hl : bulk ps ≤ 1000000) (hn : ps.length ≤ 1000) (hn0 : 0 < ps.length) :
    Calls Try.prog 53 #[.slice A ps.length c] w fun e w' => ∃ v, e = .returned v ∧ Made w w' v ps.flatten := by
  obtain ⟨b, off, rfl, hbB, hcell⟩ := h hn0
  have HC := Lib.hid hcell
  have HBT := Lib.hid (fun (k : Nat) (bs : List UInt8) (h : ps[k]? = some bs) => (⟨bulk_take ps h, len_bulk h⟩ : bulk (ps.take (k + 1)) = bulk (ps.take k) + bs.length ∧ bs.length ≤ bulk ps))
  have HBL := Lib.hid (bulk_le ps)
  clear hcell h
  obtain ⟨T, hT⟩ : ∃ n, n = bulk ps := ⟨_, rfl⟩
  rw [← hT] at h0 hl HBT HBL
  have HT := Lib.hid hT
  clear hT
  go_enter Try.func53, Try.ntmps53
  go_wp2_with fail
  go_loop [3, 5, 11] (fun s _ i => ∃ k : Nat, ∃ m : Nat, k ≤ ps.length ∧ Hid (m = bulk (ps.take k)) ∧ m ≤ 1000000 ∧ i = .int .i64 (k : Int) ∧ s = .int .i64 (m : Int)) (fun _ _ i => ps.length - (intOf i).toNat)
  case atStart => exact ⟨0, 0, Nat.zero_le _, Lib.hid rfl, by omega, rfl, rfl⟩
  case round =>
    obtain ⟨k, m, hk, Hm, hm, rfl, rfl⟩ := hrel
    by_cases hlt : k < ps.length
    · obtain ⟨bs, hbs⟩ : ∃ bs, ps[k]? = some bs := ⟨_, List.getElem?_eq_getElem hlt⟩
      obtain ⟨Aj, cj, hcj, harg⟩ := HC.out k bs hbs
      obtain ⟨e1, e2⟩ := HBT.out k bs hbs
      have e3 := HBL.out (k + 1)
      have hmb : m + bs.length ≤ 1000000 := by have := Hm.out; omega
      have HN := Lib.hid (show m + bs.length = bulk (ps.take (k + 1)) by rw [e1, Hm.out])
      have dn : decide ((m : Int) + (bs.length : Int) < 0) = false := by simp; omega
      clear e1 e2 e3 harg hbs
      go_wp2_with fail
      go_round
      case rel => exact ⟨k + 1, m + bs.length, by omega, HN, hmb, by go_num, by go_num⟩
      case measure => simp [intOf]; omega
    · obtain rfl : k = ps.length := by omega
      have HM := Lib.hid (show m = T by rw [Hm.out, List.take_length, HT.out])
      obtain rfl : m = T := HM.out
      clear Hm
      go_wp2_with (go_at_call 67; refine (grow_nil m h0 (by omega) _).mono ?_; rintro e w1 ⟨v1, rfl, own1, x1⟩)
      go_loopw [6, 8, 27] (fun v _ i W => ∃ k : Nat, ∃ bs : List UInt8, k ≤ ps.length ∧ Hid (bs = (ps.take k).flatten) ∧ bs.length ≤ 1000000 ∧ i = .int .i64 (k : Int) ∧ W.ownsRow w.heap.size 5 1 v bs.length (row bs) ∧ Below w.heap.size w W) (fun _ _ i _ => ps.length - (intOf i).toNat)
      case atStart => exact ⟨0, [], Nat.zero_le _, Lib.hid rfl, by simp, rfl, own1, x1⟩
      case round =>
        obtain ⟨k, bs, hk, Hb, hbl, rfl, hown, hbel⟩ := hrel
        by_cases hlt : k < ps.length
        · obtain ⟨b2, hbs⟩ : ∃ b2, ps[k]? = some b2 := ⟨_, List.getElem?_eq_getElem hlt⟩
          obtain ⟨Aj, cj, hcj, harg⟩ := HC.out k b2 hbs
          have hcj' := (hbel.cell (p := ⟨b, off + k, none⟩) (Nat.lt_of_lt_of_le hbB hB)).trans hcj
          have harg' := harg.below (hbel.mono hB)
          have hcap := harg.none_
          have HN := Lib.hid (show bs ++ b2 = (ps.take (k + 1)).flatten by rw [flatten_take ps hbs, Hb.out])
          obtain ⟨e1, e2⟩ := HBT.out k b2 hbs
          have hnb : (bs ++ b2).length ≤ 1000000 := by
            rw [HN.out, bulk_flatten]; have := HBL.out (k + 1); omega
          have hnb' : bs.length + b2.length ≤ 1000000 := by rw [List.length_append] at hnb; exact hnb
          clear e1 e2 hcj harg hbs
          go_wp2_with (at_builtin; refine append_rd rfl _ _ rfl w.heap.size _ _ _ rfl hown B Aj cj b2 rfl hcap harg'.rd (by omega) hbel.size ?_; intro v5 w5 own5 grow5)
          have x5 := hbel.grown grow5 hbel.size (fun k hk => own_block_ge hown k hk)
          have own6 : w5.ownsRow w.heap.size 5 1 v5 (bs ++ b2).length (row (bs ++ b2)) := by rw [List.length_append, row_append]; exact own5
          go_roundw
          case rel => exact ⟨k + 1, bs ++ b2, by omega, HN, hnb, by go_num, own6, x5⟩
          case measure => simp [intOf]; omega
        · obtain rfl : k = ps.length := by omega
          go_wp2_with fail
          go_ret
          have e : bs = ps.flatten := by rw [Hb.out, List.take_length]
          subst e
          exact ⟨_, rfl, Made.of_own hown hbel⟩
theorem concat_three (A : Option Addr) (a b d : List UInt8) (c B : Nat) (R : List UInt8) (hR : Hid (R = a ++ b ++ d)) (w : World) (h : Rd2 w B A [a, b, d]) (hB : B ≤ w.heap.size) (h0 : 0 < a.length) (hl : a.length + b.length + d.length ≤ 1000000) :
    Calls Try.prog 53 #[.slice A 3 c] w fun e w' => ∃ v, e = .returned v ∧ Made w w' v R := by
  have h1 := concat_any A [a, b, d] c B w h hB (by rw [bulk3]; omega) (by rw [bulk3]; omega) (by simp) (by simp)
  have e : [a, b, d].flatten = R := by rw [hR.out]; simp
  rw [e] at h1
  exact h1
end Go.Proofs.Ytobkiffiapjhgaa

/-
  The struct api.ICMP as data: its cells, its value, a block that holds one. Conditions are each theorem's own.
-/
namespace Go.Proofs.Ytobkiffiapjhgaa
open Go.RowKit Go.ChangeShapes Go.WideShapes

structure PI where
  typ : Int
  code : Int
  rest : Int
  dat : List UInt8
def isz : PI := ⟨0, 0, 0, []⟩
/-- Its cells. -/
def isa (q : PI) (A : Option Addr) (c : Nat) : Array Value := #[.int .i64 q.typ, .int .i64 q.code, .int .i64 q.rest, .slice A q.dat.length c]
def isv (q : PI) (A : Option Addr) (c : Nat) : Value := .agg #[.int .i64 q.typ, .int .i64 q.code, .int .i64 q.rest, .slice A q.dat.length c]
theorem isv_eq (q : PI) (A : Option Addr) (c : Nat) : isv q A c = .agg (isa q A c) := rfl
def PI.fits (q : PI) : Prop := ∀ n ∈ [q.typ, q.code, q.rest], (Lit.int .i64 n).wf = true
theorem isa_size (q : PI) (A : Option Addr) (c : Nat) : (isa q A c).size = 4 := rfl
theorem is_one (q : PI) (A : Option Addr) (c : Nat) : (isa q A c).all (·.oneCell') = true := by simp [isa, Value.oneCell']
section
variable {H : Type} {enc : TypeId × Value → H} {w : World} {base : Nat} {v : Value} {d : DataW H} {p : List MemPlace}
set_option maxRecDepth 100000 in
theorem get_is (hv : Value.okWide Try.prog w .any base 24 v) (h : DataW.Trod enc Try.prog w 0 (fun _ => true) true 24 v d p) :
    ∃ q A c, v = isv q A c ∧ Arg w w.heap.size A c q.dat ∧ c ≤ maxLen ∧ q.fits := by
  obtain ⟨cs, rfl, hcs⟩ : ∃ cs, v = .agg cs ∧ cs.size = Try.prog.cellsOf 24 := by
    have := hv
    simp only [Value.okWide, Try.underlying24] at this
    obtain ⟨cs, h1, h2, _⟩ := this
    exact ⟨cs, h1, h2⟩
  obtain ⟨fuel, hf⟩ := h
  obtain ⟨xs, n, _, _, hl, hxs, hall⟩ := DataW.trod_struct Try.underlying24 hf
  have hci : Try.prog.cellsOf 3 = 1 := by kernel_rfl
  have hcy : Try.prog.cellsOf 22 = 1 := by kernel_rfl
  have hcu : Try.prog.cellsOf 5 = 1 := by kernel_rfl
  have hcn : Try.prog.cellsOf 24 = 4 := by kernel_rfl
  obtain ⟨l⟩ := cs
  have hl' : l.length = 4 := by rw [← hcn]; exact hl
  have hall' : ∀ (i : Nat) (f : Field), _ → DataW.trod enc Try.prog w 0 (fun _ => true) true n f.type ((l.drop f.offset).take (Try.prog.cellsOf f.type)) = xs[i]? := hall
  match xs, hxs with
  | [y0, y1, y2, y3], _ =>
    have h0 : DataW.trod enc Try.prog w 0 (fun _ => true) true n 3 ((l.drop 0).take (Try.prog.cellsOf 3)) = some y0 := hall' 0 _ rfl
    rw [hci] at h0
    obtain ⟨a0, e0, f0⟩ := cell_int Try.underlying3 h0
    have h1 : DataW.trod enc Try.prog w 0 (fun _ => true) true n 3 ((l.drop 1).take (Try.prog.cellsOf 3)) = some y1 := hall' 1 _ rfl
    rw [hci] at h1
    obtain ⟨a1, e1, f1⟩ := cell_int Try.underlying3 h1
    have h2 : DataW.trod enc Try.prog w 0 (fun _ => true) true n 3 ((l.drop 2).take (Try.prog.cellsOf 3)) = some y2 := hall' 2 _ rfl
    rw [hci] at h2
    obtain ⟨a2, e2, f2⟩ := cell_int Try.underlying3 h2
    have h3 : DataW.trod enc Try.prog w 0 (fun _ => true) true n 22 ((l.drop 3).take (Try.prog.cellsOf 22)) = some y3 := hall' 3 _ rfl
    rw [hcy] at h3
    obtain ⟨A3, c3, a3, e3, f3, g3⟩ := cell_bytes Try.underlying22 Try.underlying5 hcu h3
    have k0 := piece_get e0
    have k1 := piece_get e1
    have k2 := piece_get e2
    have k3 := piece_get e3
    have el : l = [.int .i64 a0, .int .i64 a1, .int .i64 a2, .slice A3 a3.length c3] := by
      match l, hl' with
      | [x0, x1, x2, x3], _ => simp at k0 k1 k2 k3; simp [k0, k1, k2, k3]
    refine ⟨⟨a0, a1, a2, a3⟩, A3, c3, by rw [el]; rfl, f3, g3, ?_⟩
    intro m hm
    simp only [List.mem_cons, List.not_mem_nil, or_false] at hm
    rcases hm with rfl | rfl | rfl <;> assumption
end
/-- It lies in a block of its own. -/
def Atis (W : World) (g : Nat) (q : PI) (A : Option Addr) (c : Nat) : Prop := W.rangeAt g 0 (isa q A c).toList
section
variable {W : World} {g : Nat} {q : PI} {A : Option Addr} {c : Nat}
theorem Atis.new (w : World) : Atis (w.alloc (.cells (isa q A c) 24)) w.heap.size q A c := fun j v hj => by
  rw [Nat.zero_add, World.cell?_alloc_new, ← hj, Array.getElem?_toList]
theorem Atis.of_heap {t : TypeId} {fr : Nat × Nat} (h : W.heap[g]? = some (.cells (isa q A c) t fr)) : Atis W g q A c := fun j v hj => by
  rw [cell_of_row W g (0 + j) _ _ _ h, Nat.zero_add, ← Array.getElem?_toList]; exact hj
theorem Atis.below {w : World} {B : Nat} (h : Atis W g q A c) (hb : Below B W w) (hg : g < B) : Atis w g q A c := range_below h hg hb
theorem Atis.typ (h : Atis W g q A c) : W.cell? ⟨g, 0, none⟩ = some (.int .i64 q.typ) := h 0 _ rfl
theorem Atis.code (h : Atis W g q A c) : W.cell? ⟨g, 1, none⟩ = some (.int .i64 q.code) := h 1 _ rfl
theorem Atis.rest (h : Atis W g q A c) : W.cell? ⟨g, 2, none⟩ = some (.int .i64 q.rest) := h 2 _ rfl
theorem Atis.dat (h : Atis W g q A c) : W.cell? ⟨g, 3, none⟩ = some (.slice A q.dat.length c) := h 3 _ rfl
end
theorem run_load_is {o : Oper} {a : Act} {w : World} {x : Operand} {g : Nat} {cs : List Value} (ho : o.op = .load 24 x) (hx : a.eval x = .pointer (some ⟨g, 0, none⟩)) (hr : w.rangeAt g 0 cs) (hl : cs.length = 4) :
    (execOp a.eval o).run Try.prog w = .ok (.value (.agg cs.toArray)) w := by
  have h := run_loadVar_mid (P := Try.prog) w g 0 24 cs _ hr Try.underlying24 rfl (by rw [hl]; kernel_rfl)
  unfold execOp
  simp only [ho, hx, Instr.loadAt, Instr.sureAddr, Sem.run_bind, Sem.run_pure, Result.andThen_ok, h]
theorem is_store {ops : Array Oper} {rest : List Oper} {x y : Operand} {ty : TypeId} {pos : String} {af : Array Edge} {a : Act} {w : World} {Q : Exit → Act → World → Prop}
    {g : Nat} {t : TypeId} {cs old : Array Value} (hx : a.eval x = .pointer (some ⟨g, 0, none⟩)) (hy : a.eval y = .agg cs) (hg : w.heap[g]? = some (.cells old t (0, 0))) (ho : old.size = 4) (hl : cs.size = 4) (h1 : cs.all (·.oneCell') = true)
    (h : wpList Try.prog ops Q rest (a.put none undef) (w.setRow g cs)) : wpList Try.prog ops Q (⟨none, .store 24 x y, ty, pos, af, none⟩ :: rest) a w :=
  wpList_plain rfl fun _ hK => wp_store_row 24 x y rfl g cs hx hy t old hg (by rw [hl]; kernel_rfl) (by rw [ho, hl]) h1 (hK _ _ h)
theorem is_store_new {ops : Array Oper} {rest : List Oper} {x y : Operand} {ty : TypeId} {pos : String} {af : Array Edge} {a : Act} {w : World} {Q : Exit → Act → World → Prop}
    {t : TypeId} {cs old : Array Value} (hx : a.eval x = .pointer (some ⟨w.heap.size, 0, none⟩)) (hy : a.eval y = .agg cs) (ho : old.size = 4) (hl : cs.size = 4) (h1 : cs.all (·.oneCell') = true)
    (h : wpList Try.prog ops Q rest (a.put none undef) (w.alloc (.cells cs t))) : wpList Try.prog ops Q (⟨none, .store 24 x y, ty, pos, af, none⟩ :: rest) a (w.alloc (.cells old t)) :=
  is_store hx hy (World.alloc_heap_new w _) ho hl h1 (by rw [World.setRow_alloc_new]; exact h)
theorem is_result {fn : Func} {p : Tmp} {tmps : Array Value} {w : World} {g : Nat} {t : TypeId} {cs : Array Value} {fr : Nat × Nat} (h : fn.results = #[.cell p 24])
    (hp : tmps.getD p undef = .pointer (some ⟨g, 0, none⟩)) (hg : w.heap[g]? = some (.cells cs t fr)) (hl : cs.size = 4) : (results fn tmps).run Try.prog w = .ok (.agg cs) w :=
  results_cell_row h tmps w g t cs fr _ hp hg Try.underlying24 rfl (by rw [hl]; kernel_rfl)
theorem is_load_run {w : World} {g : Nat} {t : TypeId} {cs : Array Value} {fr : Nat × Nat} (hg : w.heap[g]? = some (.cells cs t fr)) (hl : cs.size = 4) : (loadVar 24 ⟨g, 0, none⟩).run Try.prog w = .ok (.agg cs) w :=
  run_loadVar_row w g t 24 cs fr _ hg Try.underlying24 rfl (by rw [hl]; kernel_rfl)
end Go.Proofs.Ytobkiffiapjhgaa

/-
  Messages of ICMP in plain lists of bytes: what may be, its bytes, what bytes are; of both layers (a sum that is of other bytes, too). No program. Conditions are each theorem's own.
-/
namespace Go.Proofs.Ytobkiffiapjhgaa
open Go.RowKit

def argI (q : PI) : Prop := 0 ≤ q.typ ∧ q.typ ≤ 255 ∧ 0 ≤ q.code ∧ q.code ≤ 255 ∧ 0 ≤ q.rest ∧ q.rest < 4294967296
instance (q : PI) : Decidable (argI q) := by unfold argI; infer_instance
def chkI (q : PI) : Int := if argI q then (if q.dat.length > 65527 then 6 else 0) else 1
theorem chkI_ok {q : PI} (h : chkI q = 0) : argI q ∧ q.dat.length ≤ 65527 := by
  unfold chkI at h
  split at h
  · rename_i ha
    split at h
    · cases h
    · exact ⟨ha, by omega⟩
  · cases h
theorem argI_iff (q : PI) : argI q ↔ (fitsB q.typ 1 = true ∧ fitsB q.code 1 = true ∧ fitsB q.rest 4 = true) := by
  rw [fitsB_iff, fitsB_iff, fitsB_iff, pw1, pw4, argI]; omega
/-- A head. -/
def hdI (q : PI) (s : Int) : List UInt8 := [u8 q.typ, u8 q.code] ++ be2 s ++ be4 q.rest
theorem hdI_len (q : PI) (s : Int) : (hdI q s).length = 8 := by simp [hdI, be2, be4]
/-- The sum of a message and of other bytes. -/
def smI (p : List UInt8) (q : PI) : Int := 65535 - fold (psum [p, hdI q 0, q.dat])
theorem smI_bd (p : List UInt8) (q : PI) : 0 ≤ smI p q ∧ smI p q ≤ 65535 := by
  have := fold_bd (psum [p, hdI q 0, q.dat]); unfold smI; omega
def bldI (p : List UInt8) (q : PI) : List UInt8 := hdI q (smI p q) ++ q.dat
theorem bldI_len (p : List UInt8) (q : PI) : (bldI p q).length = 8 + q.dat.length := by rw [bldI, List.length_append, hdI_len]
/-- What is wrong with bytes; nothing: 0. -/
def badI (p b : List UInt8) : Int := if b.length < 8 then 3 else if b.length > 65535 then 6 else if rightB [p, b] = false then 5 else 0
def rawI (b : List UInt8) : PI := ⟨byt b 0, byt b 1, n4 b 4, b.drop 8⟩
def prsI (p b : List UInt8) : PI := if badI p b = 0 then rawI b else isz
/-- Are two the same? -/
def sameI (q r : PI) : Bool := (q.typ == r.typ) && (q.code == r.code) && (q.rest == r.rest) && decide (q.dat = r.dat)
theorem sameI_iff {q r : PI} : sameI q r = true ↔ q = r := by
  obtain ⟨a0, a1, a2, a3⟩ := q
  obtain ⟨b0, b1, b2, b3⟩ := r
  simp only [sameI, Bool.and_eq_true, beq_iff_eq, decide_eq_true_eq, PI.mk.injEq]
  constructor
  · rintro ⟨⟨⟨h0, h1⟩, h2⟩, h3⟩; exact ⟨h0, h1, h2, h3⟩
  · rintro ⟨h0, h1, h2, h3⟩; exact ⟨⟨⟨h0, h1⟩, h2⟩, h3⟩
theorem psum_nil (l : List (List UInt8)) : psum ([] :: l) = psum l := by rw [psum_cons]; simp [wall, prs, wsum]
theorem rightB_nil (b : List UInt8) : rightB [[], b] = rightB [b] := by rw [rightB, rightB, psum_nil]
theorem psum_glueI (p : List UInt8) (q : PI) (s : Int) : psum [p, hdI q s, q.dat] = psum [p, hdI q s ++ q.dat] := psum_glue _ _ _ (m := 4) (hdI_len q s)
theorem smI_two (p : List UInt8) (q : PI) : smI p q = 65535 - fold (psum [p, hdI q 0 ++ q.dat]) := by rw [smI, psum_glueI]
theorem smI_one (q : PI) : smI [] q = 65535 - fold (psum [hdI q 0 ++ q.dat]) := by rw [smI_two, psum_nil]
theorem smI_nil (q : PI) : smI [] q = 65535 - fold (psum [hdI q 0, q.dat]) := by rw [smI, psum_nil]
theorem hdI_wall (q : PI) {s : Int} (h0 : 0 ≤ s) (h1 : s ≤ 65535) : wall (hdI q s) = wall (hdI q 0) + s := by
  have z : ∀ n : Int, 0 ≤ n → n ≤ 65535 → wall (hdI q n) = wall [u8 q.typ, u8 q.code] + n + wall (be4 q.rest) := fun n a b => by
    rw [hdI, wall_append (m := 2) (by simp [be2]), wall_append (m := 1) (by simp), be2_wall a b]
  rw [z s h0 h1, z 0 (by omega) (by omega)]; omega
/-- What is built is right. -/
theorem bldI_right (p : List UInt8) (q : PI) : rightB [p, bldI p q] = true := by
  have e : psum [p, bldI p q] = psum [p, hdI q 0, q.dat] + smI p q := by
    rw [bldI, ← psum_glueI]
    simp only [psum_cons]
    rw [hdI_wall q (smI_bd p q).1 (smI_bd p q).2]; omega
  have hs : smI p q = 65535 - fold (psum [p, hdI q 0, q.dat]) := rfl
  rw [rightB, e, right_of (psum_nn _) hs]; rfl
theorem backI {p : List UInt8} {q : PI} (h : chkI q = 0) : badI p (bldI p q) = 0 ∧ prsI p (bldI p q) = q := by
  obtain ⟨⟨a1, a2, a3, a4, a5, a6⟩, hl⟩ := chkI_ok h
  have hlen := bldI_len p q
  have f0 : byt (bldI p q) 0 = q.typ := by
    have e : byt (bldI p q) 0 = q.typ % 256 := u8_val q.typ
    omega
  have f1 : byt (bldI p q) 1 = q.code := by
    have e : byt (bldI p q) 1 = q.code % 256 := u8_val q.code
    omega
  have f4 : n4 (bldI p q) 4 = q.rest := by
    rw [bldI, hdI, List.append_assoc]; exact n4_be4 (a := [u8 q.typ, u8 q.code] ++ be2 (smI p q)) a5 a6 rfl
  have hb : badI p (bldI p q) = 0 := by
    unfold badI
    rw [if_neg (by omega), if_neg (by omega), if_neg (by rw [bldI_right]; simp)]
  refine ⟨hb, ?_⟩
  rw [prsI, if_pos hb, rawI, f0, f1, f4]
  have hd : (bldI p q).drop 8 = q.dat := by rw [bldI, List.drop_left' (hdI_len q _)]
  rw [hd]
/-- What is answered beside an error. -/
def resI (p : List UInt8) (q : PI) : List UInt8 := if chkI q = 0 then bldI p q else []
/-- A sum set in its place. -/
theorem setI (q : PI) (t s : Int) (d : List UInt8) (h0 : 0 ≤ s) (h1 : s ≤ 65535) : setB (hdI q t ++ d) 2 s 2 = hdI q s ++ d := by
  rw [setB, if_pos ⟨fitsB_iff.2 ⟨by omega, by omega, h0, by simp [pw]; omega⟩, by omega, by rw [List.length_append, hdI_len]; omega⟩]
  have e : digs s (2 : Int).toNat = be2 s := digs_two h0
  rw [e, show (2 : Int).toNat = 2 from rfl, hdI, List.append_assoc, List.append_assoc, splice_mid _ _ _ 2 rfl, hdI]
  simp [be2]
/-- What a message's sum is of, too, between two addresses. -/
def psJ (src dst : List UInt8) (next size : Int) : List UInt8 := src ++ dst ++ be4 size ++ [u8 0, u8 0, u8 0, u8 next]
theorem psJ_len {src dst : List UInt8} (next size : Int) (h1 : src.length = 16) (h2 : dst.length = 16) : (psJ src dst next size).length = 40 := by simp [psJ, be4, h1, h2]
def preJ (src dst b : List UInt8) : List UInt8 := psJ src dst 58 (b.length : Int)
/-- A message's bytes between two addresses. -/
def bldJ (src dst : List UInt8) (q : PI) : List UInt8 := bldI (psJ src dst 58 (8 + (q.dat.length : Int))) q
theorem bldJ_len (src dst : List UInt8) (q : PI) : (bldJ src dst q).length = 8 + q.dat.length := bldI_len _ q
theorem preJ_bld (src dst : List UInt8) (q : PI) : preJ src dst (bldJ src dst q) = psJ src dst 58 (8 + (q.dat.length : Int)) := by rw [preJ, bldJ_len]; simp
theorem backJ {src dst : List UInt8} {q : PI} (h : chkI q = 0) : badI (preJ src dst (bldJ src dst q)) (bldJ src dst q) = 0 ∧ prsI (preJ src dst (bldJ src dst q)) (bldJ src dst q) = q := by
  rw [preJ_bld]; exact backI h
/-- Which kinds tell of a fault, which ask. -/
def fltI (k : Int) : Bool := decide (k ∈ [3, 4, 5, 11, 12])
def qryI (k : Int) : Bool := decide (k ∈ [8, 0])
def fltJ (k : Int) : Bool := decide (1 ≤ k ∧ k ≤ 127)
theorem fltqry (k : Int) : (fltI k && qryI k) = false := by
  cases h : fltI k
  · rfl
  · cases h2 : qryI k
    · rfl
    · simp [fltI] at h; simp [qryI] at h2; omega
/-- A message's identifier, and the message with another one. -/
def idI (q : PI) : Int := q.rest / 65536 % 65536
def wdI (q : PI) (id : Int) : PI := ⟨q.typ, q.code, id % 65536 * 65536 + q.rest % 65536, q.dat⟩
end Go.Proofs.Ytobkiffiapjhgaa

/-
  Contracts of slices.Index, slices.Contains over integers; of icmp's among, Fault, Query, and the document's. Conditions are each theorem's own.
-/
namespace Go.Proofs.Ytobkiffiapjhgaa
open Go.RowKit

theorem iindex_none (g n : Nat) (zs : List Int) (x : Int) (w : World) (hn : n ≤ 1000) (h : ∀ j, j < n → w.cell? ⟨g, j, none⟩ = some (.int .i64 (zs.getD j 0))) (hx : ∀ j, j < n → (x == zs.getD j 0) = false) :
    Calls Try.prog 72 #[.slice (some ⟨g, 0, none⟩) n n, .int .i64 x] w fun e w' => e = .returned (.int .i64 (-1)) ∧ w = w' := by
  have H := Lib.hid h
  have HX := Lib.hid hx
  clear h hx
  go_enter Try.func72, Try.ntmps72
  go_wp2
  go_loop [8] (fun i => ∃ k : Nat, k ≤ n ∧ i = .int .i64 k) (fun i => n - (intOf i).toNat)
  case atStart => exact ⟨0, Nat.zero_le _, rfl⟩
  case round =>
    obtain ⟨k, hk, rfl⟩ := hrel
    by_cases hlt : k < n
    · have hc := H.out k hlt
      have hd := HX.out k hlt
      generalize zs.getD k 0 = y at hc hd
      go_wp2
      go_round
      case rel => exact ⟨k + 1, by omega, by simp⟩
      case measure => simp [intOf]; omega
    · obtain rfl : k = n := by omega
      go_wp2
      go_ret
      exact ⟨rfl, rfl⟩
theorem iindex_some (g n k0 : Nat) (zs : List Int) (x : Int) (w : World) (hn : n ≤ 1000) (hk0 : k0 < n) (h : ∀ j, j < n → w.cell? ⟨g, j, none⟩ = some (.int .i64 (zs.getD j 0))) (hx : ∀ j, j < k0 → (x == zs.getD j 0) = false) (h0 : (x == zs.getD k0 0) = true) :
    Calls Try.prog 72 #[.slice (some ⟨g, 0, none⟩) n n, .int .i64 x] w fun e w' => e = .returned (.int .i64 (k0 : Int)) ∧ w = w' := by
  have H := Lib.hid h
  have HX := Lib.hid hx
  have H0 := Lib.hid h0
  clear h hx h0
  go_enter Try.func72, Try.ntmps72
  go_wp2
  go_loop [8] (fun i => ∃ k : Nat, k ≤ k0 ∧ i = .int .i64 k) (fun i => n - (intOf i).toNat)
  case atStart => exact ⟨0, Nat.zero_le _, rfl⟩
  case round =>
    obtain ⟨k, hk, rfl⟩ := hrel
    have hlt : k < n := by omega
    have hc := H.out k hlt
    by_cases hlt2 : k < k0
    · have hd := HX.out k hlt2
      generalize zs.getD k 0 = y at hc hd
      go_wp2
      go_round
      case rel => exact ⟨k + 1, by omega, by simp⟩
      case measure => simp [intOf]; omega
    · obtain rfl : k = k0 := by omega
      have hd := H0.out
      generalize zs.getD k 0 = y at hc hd
      go_wp2
      go_ret
      exact ⟨rfl, rfl⟩
theorem first_in (x : Int) : ∀ (zs : List Int), x ∈ zs → ∃ k, k < zs.length ∧ (∀ j, j < k → (x == zs.getD j 0) = false) ∧ (x == zs.getD k 0) = true
  | [], h => by cases h
  | z :: l, h => by
    by_cases e : x = z
    · exact ⟨0, by simp, fun j hj => absurd hj (Nat.not_lt_zero j), by simp [e]⟩
    · obtain ⟨k, h1, h2, h3⟩ := first_in x l (by rcases List.mem_cons.1 h with h | h; exact absurd h e; exact h)
      refine ⟨k + 1, by simp; omega, fun j hj => ?_, by simpa using h3⟩
      cases j with
      | zero => simpa using e
      | succ j => simpa using h2 j (by omega)
theorem icontains_any (g : Nat) (zs : List Int) (x : Int) (w : World) (hn : zs.length ≤ 1000) (h : w.rangeAt g 0 (zs.map (Value.int .i64))) :
    Calls Try.prog 64 #[.slice (some ⟨g, 0, none⟩) zs.length zs.length, .int .i64 x] w fun e w' => e = .returned (.bool (decide (x ∈ zs))) ∧ w = w' := by
  have hc : ∀ j, j < zs.length → w.cell? ⟨g, j, none⟩ = some (.int .i64 (zs.getD j 0)) := fun j hj => by
    have := h j (.int .i64 (zs.getD j 0)) (by simp [List.getD_eq_getElem?_getD, hj])
    rwa [Nat.zero_add] at this
  by_cases hm : x ∈ zs
  · obtain ⟨k, h1, h2, h3⟩ := first_in x zs hm
    have c := iindex_some g zs.length k zs x w hn h1 hc h2 h3
    have hD := Lib.hid (show decide (x ∈ zs) = true by simpa using hm)
    clear h hc h2 h3 hm
    go_enter Try.func64, Try.ntmps64
    go_wp2_with (go_at_call 72; refine c.mono ?_; rintro e w' ⟨rfl, rfl⟩)
    go_ret
    exact ⟨ret_bool (by rw [hD.out]), rfl⟩
  · have c := iindex_none g zs.length zs x w hn hc (fun j hj => by
      rw [List.getD_eq_getElem?_getD, List.getElem?_eq_getElem hj]
      simp only [Option.getD_some, beq_eq_false_iff_ne]
      intro e; exact hm (e ▸ List.getElem_mem hj))
    have hD := Lib.hid (show decide (x ∈ zs) = false by simpa using hm)
    clear h hc hm
    go_enter Try.func64, Try.ntmps64
    go_wp2_with (go_at_call 72; refine c.mono ?_; rintro e w' ⟨rfl, rfl⟩)
    go_ret
    exact ⟨ret_bool (by rw [hD.out]), rfl⟩
theorem range_ints (w : World) (zs : List Int) (t : TypeId) : (w.alloc (.cells (zs.map (Value.int .i64)).toArray t)).rangeAt w.heap.size 0 (zs.map (Value.int .i64)) := fun j v hj => by
  rw [Nat.zero_add, World.cell?_alloc_new, ← hj, List.getElem?_toArray]
theorem among_new (zs : List Int) (x : Int) (cs : Array Value) (n : Nat) (t : TypeId) (w : World) (hc : cs = (zs.map (Value.int .i64)).toArray) (hn : n = zs.length) (hl : zs.length ≤ 1000) :
    Calls Try.prog 49 #[.int .i64 x, .slice (some ⟨w.heap.size, 0, none⟩) n n] (w.alloc (.cells cs t)) fun e w' => e = .returned (.bool (decide (x ∈ zs))) ∧ Below w.heap.size w w' := by
  subst hc; subst hn
  have c := icontains_any w.heap.size zs x _ hl (range_ints w zs t)
  have hb : Below w.heap.size w (w.alloc (.cells (zs.map (Value.int .i64)).toArray t)) := (Below.refl _ w).alloc (Nat.le_refl _) _
  generalize decide (x ∈ zs) = D at c ⊢
  generalize w.alloc (.cells (zs.map (Value.int .i64)).toArray t) = W at *
  go_enter Try.func49, Try.ntmps49
  go_wp2_with (go_at_call 64; refine c.mono ?_; rintro e w' ⟨rfl, rfl⟩)
  go_ret
  exact ⟨rfl, hb⟩
theorem cIfault (k : Int) (w : World) : Calls Try.prog 20 #[.int .i64 k] w fun e w' => e = .returned (.bool (fltI k)) ∧ Below w.heap.size w w' := by
  obtain ⟨D, hD⟩ : ∃ D, D = fltI k := ⟨_, rfl⟩
  have HD := Lib.hid (show decide (k ∈ [3, 4, 5, 11, 12]) = D by rw [hD]; rfl)
  rw [← hD]; clear hD
  go_enter Try.func20, Try.ntmps20
  go_wp2_with (go_at_call 49; refine (among_new [3, 4, 5, 11, 12] k _ 5 _ w (by rfl) rfl (by simp)).mono ?_; rintro e w' ⟨rfl, x1⟩; rw [HD.out])
  go_ret
  exact ⟨rfl, x1⟩
theorem cIquery (k : Int) (w : World) : Calls Try.prog 22 #[.int .i64 k] w fun e w' => e = .returned (.bool (qryI k)) ∧ Below w.heap.size w w' := by
  obtain ⟨D, hD⟩ : ∃ D, D = qryI k := ⟨_, rfl⟩
  have HD := Lib.hid (show decide (k ∈ [8, 0]) = D by rw [hD]; rfl)
  rw [← hD]; clear hD
  go_enter Try.func22, Try.ntmps22
  go_wp2_with (go_at_call 49; refine (among_new [8, 0] k _ 2 _ w (by rfl) rfl (by simp)).mono ?_; rintro e w' ⟨rfl, x1⟩; rw [HD.out])
  go_ret
  exact ⟨rfl, x1⟩
end Go.Proofs.Ytobkiffiapjhgaa
