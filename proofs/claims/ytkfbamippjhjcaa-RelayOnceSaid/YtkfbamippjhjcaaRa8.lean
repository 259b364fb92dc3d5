/-
  Contracts and lemmas on which the proofs of this seat stand (several texts in one). Conditions are each theorem's own.
-/
import Derived.Test.YtkfbamippjhjcaaRa7
import Derived.Lib.AppendZerosOnto
import Derived.Lib.Walk
import Derived.Lib.SliceRun
import Derived.Test.YtkfbamippjhjcaaRa6
import Derived.Test.YtkfbamippjhjcaaRa3
import Derived.Test.YtkfbamippjhjcaaRa2

/-
  Datagrams of UDP in plain lists of bytes: what may be, its bytes, what bytes are. No program. Conditions are each theorem's own.
-/
namespace Go.Proofs.Ytkfbamippjhjcaa
open Go.RowKit

/-- What is told of a number in so many bytes. -/
def msk (ps : List (Int × Int)) : List (Int × Int) := ps.map fun x => (x.1 % pw x.2.toNat, x.2)
theorem msk_len (ps : List (Int × Int)) : (msk ps).length = ps.length := by simp [msk]
theorem msk_get {ps : List (Int × Int)} {k : Nat} {x : Int × Int} (h : ps[k]? = some x) : (msk ps)[k]? = some (x.1 % pw x.2.toNat, x.2) := by simp [msk, h]
theorem be2_mod (n : Int) : be2 (n % 65536) = be2 n := by
  have e : ∀ a b : Int, a % 256 = b % 256 → u8 a = u8 b := fun a b h => by apply UInt8.toNat_inj.1; have h1 := u8_val a; have h2 := u8_val b; omega
  unfold be2
  rw [e (n % 65536 / 256) (n / 256) (by omega), e (n % 65536) n (by omega)]
theorem be4_mod (n : Int) : be4 (n % 4294967296) = be4 n := by
  have e : ∀ a b : Int, a % 256 = b % 256 → u8 a = u8 b := fun a b h => by apply UInt8.toNat_inj.1; have h1 := u8_val a; have h2 := u8_val b; omega
  unfold be4
  rw [e (n % 4294967296 / 16777216) (n / 16777216) (by omega), e (n % 4294967296 / 65536) (n / 65536) (by omega), e (n % 4294967296 / 256) (n / 256) (by omega), e (n % 4294967296) n (by omega)]
theorem u8_mod (n : Int) : u8 (n % 256) = u8 n := by apply UInt8.toNat_inj.1; have h1 := u8_val (n % 256); have h2 := u8_val n; omega
theorem pw1 : pw (1 : Int).toNat = 256 := rfl
theorem pw2 : pw (2 : Int).toNat = 65536 := rfl
theorem pw4 : pw (4 : Int).toNat = 4294967296 := rfl
theorem putm_one (bs : List UInt8) (n : Int) : putB bs (n % 256) 1 = bs ++ [u8 n] := by rw [put_one (by omega) (by omega), u8_mod]
theorem putm_two (bs : List UInt8) (n : Int) : putB bs (n % 65536) 2 = bs ++ be2 n := by rw [put_two (by omega) (by omega), be2_mod]
theorem putm_four (bs : List UInt8) (n : Int) : putB bs (n % 4294967296) 4 = bs ++ be4 n := by rw [put_four (by omega) (by omega), be4_mod]
/-- What a sum is of, too. -/
def psd (src dst proto size : Int) : List UInt8 := be4 src ++ be4 dst ++ [u8 0] ++ [u8 proto] ++ be2 size
theorem psd_len (src dst proto size : Int) : (psd src dst proto size).length = 12 := by simp [psd, be4, be2]
theorem putL_psd (src dst proto size : Int) : putL (msk [(src, 4), (dst, 4), (0, 1), (proto, 1), (size, 2)]) = psd src dst proto size := by
  simp only [msk, List.map, putL, List.foldl_cons, List.foldl_nil, pw1, pw2, pw4]
  rw [putm_four, putm_four, putm_one, putm_one, putm_two]; rfl
/-- A head. -/
def hdU (q : PU) (s : Int) : List UInt8 := be2 q.src ++ be2 q.dst ++ be2 (8 + (q.dat.length : Int)) ++ be2 s
theorem hdU_len (q : PU) (s : Int) : (hdU q s).length = 8 := by simp [hdU, be2]
theorem putL_hdU (q : PU) (s : Int) : putL (msk [(q.src, 2), (q.dst, 2), (8 + (q.dat.length : Int), 2), (s, 2)]) = hdU q s := by
  simp only [msk, List.map, putL, List.foldl_cons, List.foldl_nil, pw2]
  rw [putm_two, putm_two, putm_two, putm_two]; rfl
/-- The sum, and what stands in its place. -/
def smU (src dst : Int) (q : PU) : Int := 65535 - fold (psum [psd src dst 17 (8 + (q.dat.length : Int)), hdU q 0, q.dat])
theorem smU_bd (src dst : Int) (q : PU) : 0 ≤ smU src dst q ∧ smU src dst q ≤ 65535 := by
  have := fold_bd (psum [psd src dst 17 (8 + (q.dat.length : Int)), hdU q 0, q.dat]); unfold smU; omega
def ckU (src dst : Int) (q : PU) : Int := if q.nosum then 0 else if smU src dst q = 0 then 65535 else smU src dst q
theorem ckU_bd (src dst : Int) (q : PU) : 0 ≤ ckU src dst q ∧ ckU src dst q ≤ 65535 := by
  have := smU_bd src dst q; unfold ckU; split
  · omega
  · split <;> omega
def bldU (src dst : Int) (q : PU) : List UInt8 := hdU q (ckU src dst q) ++ q.dat
theorem bldU_len (src dst : Int) (q : PU) : (bldU src dst q).length = 8 + q.dat.length := by rw [bldU, List.length_append, hdU_len]
def argU (q : PU) : Prop := 0 ≤ q.src ∧ q.src ≤ 65535 ∧ 0 ≤ q.dst ∧ q.dst ≤ 65535
instance (q : PU) : Decidable (argU q) := by unfold argU; infer_instance
def chkU (q : PU) : Int := if argU q then (if q.dat.length > 65527 then 6 else 0) else 1
theorem chkU_ok {q : PU} (h : chkU q = 0) : argU q ∧ q.dat.length ≤ 65527 := by
  unfold chkU at h
  split at h
  · rename_i ha
    split at h
    · cases h
    · exact ⟨ha, by omega⟩
  · cases h
/-- What is wrong with bytes; nothing: 0. -/
def badU (src dst : Int) (b : List UInt8) : Int :=
  if b.length < 8 then 3
  else if n2 b 4 > (b.length : Int) then 3
  else if n2 b 4 < (b.length : Int) then 4
  else if n2 b 6 ≠ 0 ∧ rightB [psd src dst 17 (n2 b 4), b] = false then 5
  else 0
def rawU (b : List UInt8) : PU := ⟨n2 b 0, n2 b 2, decide (n2 b 6 = 0), b.drop 8⟩
def prsU (src dst : Int) (b : List UInt8) : PU := if badU src dst b = 0 then rawU b else usz
/-- Are two the same? -/
def sameU (q r : PU) : Bool := (q.src == r.src && q.dst == r.dst) && (q.nosum == r.nosum) && decide (q.dat = r.dat)
theorem sameU_iff {q r : PU} : sameU q r = true ↔ q = r := by
  obtain ⟨a0, a1, a2, a3⟩ := q
  obtain ⟨b0, b1, b2, b3⟩ := r
  simp only [sameU, Bool.and_eq_true, beq_iff_eq, decide_eq_true_eq, PU.mk.injEq]
  constructor
  · rintro ⟨⟨⟨h0, h1⟩, h2⟩, h3⟩; exact ⟨h0, h1, h2, h3⟩
  · rintro ⟨h0, h1, h2, h3⟩; exact ⟨⟨⟨h0, h1⟩, h2⟩, h3⟩
/-- Bytes after bytes of even length. -/
theorem psum_glue (a b c : List UInt8) {m : Nat} (h : b.length = 2 * m) : psum [a, b, c] = psum [a, b ++ c] := by
  simp only [psum_cons]
  rw [wall_append h]; omega
theorem psum_glue2 (a b : List UInt8) {m : Nat} (h : a.length = 2 * m) : psum [a, b] = psum [a ++ b] := by
  simp only [psum_cons]
  rw [wall_append h]; omega
theorem smU_two (src dst : Int) (q : PU) : 65535 - fold (psum [psd src dst 17 (8 + (q.dat.length : Int)), hdU q 0 ++ q.dat]) = smU src dst q := by
  rw [smU, psum_glue _ _ _ (m := 4) (hdU_len q 0)]
/-- What is built is right. -/
theorem hdU_wall (q : PU) {s : Int} (h0 : 0 ≤ s) (h1 : s ≤ 65535) : wall (hdU q s) = wall (hdU q 0) + s := by
  have z : ∀ n : Int, 0 ≤ n → n ≤ 65535 → wall (hdU q n) = wall (be2 q.src ++ be2 q.dst ++ be2 (8 + (q.dat.length : Int))) + n := fun n a b => by
    rw [hdU, wall_append (m := 3) (by simp [be2]), be2_wall a b]
  rw [z s h0 h1, z 0 (by omega) (by omega)]; omega
theorem psum_nn (ps : List (List UInt8)) : 0 ≤ psum ps := (psum_bd ps).1
theorem right_of {S s : Int} (h : 0 ≤ S) (hs : s = 65535 - fold S) : fold (S + s) = 65535 := by subst hs; exact fold_right h
theorem right_full {S : Int} (hs : 65535 - fold S = 0) : fold (S + 65535) = 65535 := by
  unfold fold at *; split at hs
  · omega
  · split <;> omega
theorem bldU_right (src dst : Int) (q : PU) (hn : q.nosum = false) : rightB [psd src dst 17 (8 + (q.dat.length : Int)), bldU src dst q] = true := by
  have e : psum [psd src dst 17 (8 + (q.dat.length : Int)), bldU src dst q] = psum [psd src dst 17 (8 + (q.dat.length : Int)), hdU q 0, q.dat] + ckU src dst q := by
    rw [bldU, ← psum_glue _ _ _ (m := 4) (hdU_len q _)]
    simp only [psum_cons]
    rw [hdU_wall q (ckU_bd src dst q).1 (ckU_bd src dst q).2]; omega
  rw [rightB, e]
  have hp := psum_nn [psd src dst 17 (8 + (q.dat.length : Int)), hdU q 0, q.dat]
  have hs : smU src dst q = 65535 - fold (psum [psd src dst 17 (8 + (q.dat.length : Int)), hdU q 0, q.dat]) := rfl
  unfold ckU
  rw [hn]
  simp only [Bool.false_eq_true, if_false]
  by_cases h : smU src dst q = 0
  · rw [if_pos h, right_full (by omega)]; rfl
  · rw [if_neg h, right_of hp hs]; rfl
theorem n2_be2 {a b : List UInt8} {n : Int} (h0 : 0 ≤ n) (h1 : n ≤ 65535) {k : Nat} (hk : a.length = k) : n2 (a ++ (be2 n ++ b)) k = n := by
  have e0 : byt (a ++ (be2 n ++ b)) (a.length + 0) = byt (be2 n ++ b) 0 := byt_right
  have e1 : byt (a ++ (be2 n ++ b)) (a.length + 1) = byt (be2 n ++ b) 1 := byt_right
  subst hk
  unfold n2
  rw [show a.length = a.length + 0 from rfl, e0, Nat.add_zero, e1]
  have c0 : byt (be2 n ++ b) 0 = n / 256 % 256 := u8_val _
  have c1 : byt (be2 n ++ b) 1 = n % 256 := u8_val _
  rw [c0, c1]; omega
theorem backU {src dst : Int} {q : PU} (h : chkU q = 0) : badU src dst (bldU src dst q) = 0 ∧ prsU src dst (bldU src dst q) = q := by
  obtain ⟨⟨a1, a2, a3, a4⟩, hl⟩ := chkU_ok h
  have hc := ckU_bd src dst q
  have hlen := bldU_len src dst q
  have f0 : n2 (bldU src dst q) 0 = q.src := by
    rw [bldU, hdU, List.append_assoc, List.append_assoc, List.append_assoc]; exact n2_be2 (a := []) a1 a2 rfl
  have f2 : n2 (bldU src dst q) 2 = q.dst := by
    rw [bldU, hdU, List.append_assoc, List.append_assoc, List.append_assoc]; exact n2_be2 (a := be2 q.src) a3 a4 rfl
  have f4 : n2 (bldU src dst q) 4 = 8 + (q.dat.length : Int) := by
    rw [bldU, hdU, List.append_assoc, List.append_assoc]; exact n2_be2 (a := be2 q.src ++ be2 q.dst) (by omega) (by omega) rfl
  have f6 : n2 (bldU src dst q) 6 = ckU src dst q := by
    rw [bldU, hdU, List.append_assoc]; exact n2_be2 (a := be2 q.src ++ be2 q.dst ++ be2 (8 + (q.dat.length : Int))) hc.1 hc.2 rfl
  have hz : (ckU src dst q = 0) ↔ q.nosum = true := by
    have := smU_bd src dst q
    unfold ckU
    cases hn : q.nosum
    · simp only [Bool.false_eq_true, if_false, iff_false]
      split <;> omega
    · simp
  have hb : badU src dst (bldU src dst q) = 0 := by
    unfold badU
    rw [if_neg (by omega), f4, f6, if_neg (by omega), if_neg (by omega), if_neg ?_]
    rintro ⟨g1, g2⟩
    have hn : q.nosum = false := by cases hn : q.nosum; rfl; exact absurd (hz.2 hn) g1
    rw [bldU_right src dst q hn] at g2; cases g2
  refine ⟨hb, ?_⟩
  rw [prsU, if_pos hb, rawU, f0, f2, f6]
  have hd : (bldU src dst q).drop 8 = q.dat := by rw [bldU, List.drop_left' (hdU_len q _)]
  rw [hd]
  have : decide (ckU src dst q = 0) = q.nosum := by
    rw [Bool.eq_iff_iff, decide_eq_true_iff]; exact hz
  rw [this]
end Go.Proofs.Ytkfbamippjhjcaa

/-
  The struct api.TCP as data: its cells, its value, a block that holds one. Conditions are each theorem's own.
-/
namespace Go.Proofs.Ytkfbamippjhjcaa
open Go.RowKit Go.ChangeShapes Go.WideShapes

structure PT where
  src : Int
  dst : Int
  seq : Int
  ack : Int
  res : Int
  flags : Int
  win : Int
  urg : Int
  opt : List UInt8
  dat : List UInt8
def tsz : PT := ⟨0, 0, 0, 0, 0, 0, 0, 0, [], []⟩
/-- Its cells. -/
def tsa (q : PT) (A : Option Addr) (c : Nat) (A' : Option Addr) (c' : Nat) : Array Value := #[.int .i64 q.src, .int .i64 q.dst, .int .i64 q.seq, .int .i64 q.ack, .int .i64 q.res, .int .i64 q.flags, .int .i64 q.win, .int .i64 q.urg, .slice A q.opt.length c, .slice A' q.dat.length c']
def tsv (q : PT) (A : Option Addr) (c : Nat) (A' : Option Addr) (c' : Nat) : Value := .agg #[.int .i64 q.src, .int .i64 q.dst, .int .i64 q.seq, .int .i64 q.ack, .int .i64 q.res, .int .i64 q.flags, .int .i64 q.win, .int .i64 q.urg, .slice A q.opt.length c, .slice A' q.dat.length c']
theorem tsv_eq (q : PT) (A : Option Addr) (c : Nat) (A' : Option Addr) (c' : Nat) : tsv q A c A' c' = .agg (tsa q A c A' c') := rfl
def PT.fits (q : PT) : Prop := ∀ n ∈ [q.src, q.dst, q.seq, q.ack, q.res, q.flags, q.win, q.urg], (Lit.int .i64 n).wf = true
theorem tsa_size (q : PT) (A : Option Addr) (c : Nat) (A' : Option Addr) (c' : Nat) : (tsa q A c A' c').size = 10 := rfl
theorem ts_one (q : PT) (A : Option Addr) (c : Nat) (A' : Option Addr) (c' : Nat) : (tsa q A c A' c').all (·.oneCell') = true := by simp [tsa, Value.oneCell']
section
variable {H : Type} {enc : TypeId × Value → H} {w : World} {base : Nat} {v : Value} {d : DataW H} {p : List MemPlace}
end
/-- It lies in a block of its own. -/
def Atts (W : World) (g : Nat) (q : PT) (A : Option Addr) (c : Nat) (A' : Option Addr) (c' : Nat) : Prop := W.rangeAt g 0 (tsa q A c A' c').toList
section
variable {W : World} {g : Nat} {q : PT} {A : Option Addr} {c : Nat} {A' : Option Addr} {c' : Nat}
theorem Atts.of_heap {t : TypeId} {fr : Nat × Nat} (h : W.heap[g]? = some (.cells (tsa q A c A' c') t fr)) : Atts W g q A c A' c' := fun j v hj => by
  rw [cell_of_row W g (0 + j) _ _ _ h, Nat.zero_add, ← Array.getElem?_toList]; exact hj
theorem Atts.below {w : World} {B : Nat} (h : Atts W g q A c A' c') (hb : Below B W w) (hg : g < B) : Atts w g q A c A' c' := range_below h hg hb
theorem Atts.src (h : Atts W g q A c A' c') : W.cell? ⟨g, 0, none⟩ = some (.int .i64 q.src) := h 0 _ rfl
theorem Atts.dst (h : Atts W g q A c A' c') : W.cell? ⟨g, 1, none⟩ = some (.int .i64 q.dst) := h 1 _ rfl
theorem Atts.seq (h : Atts W g q A c A' c') : W.cell? ⟨g, 2, none⟩ = some (.int .i64 q.seq) := h 2 _ rfl
theorem Atts.ack (h : Atts W g q A c A' c') : W.cell? ⟨g, 3, none⟩ = some (.int .i64 q.ack) := h 3 _ rfl
theorem Atts.res (h : Atts W g q A c A' c') : W.cell? ⟨g, 4, none⟩ = some (.int .i64 q.res) := h 4 _ rfl
theorem Atts.flags (h : Atts W g q A c A' c') : W.cell? ⟨g, 5, none⟩ = some (.int .i64 q.flags) := h 5 _ rfl
theorem Atts.win (h : Atts W g q A c A' c') : W.cell? ⟨g, 6, none⟩ = some (.int .i64 q.win) := h 6 _ rfl
theorem Atts.urg (h : Atts W g q A c A' c') : W.cell? ⟨g, 7, none⟩ = some (.int .i64 q.urg) := h 7 _ rfl
theorem Atts.opt (h : Atts W g q A c A' c') : W.cell? ⟨g, 8, none⟩ = some (.slice A q.opt.length c) := h 8 _ rfl
theorem Atts.dat (h : Atts W g q A c A' c') : W.cell? ⟨g, 9, none⟩ = some (.slice A' q.dat.length c') := h 9 _ rfl
end
end Go.Proofs.Ytkfbamippjhjcaa

/-
  Segments of TCP in plain lists of bytes: what may be, its bytes, what bytes are. No program. Conditions are each theorem's own.
-/
namespace Go.Proofs.Ytkfbamippjhjcaa
open Go.RowKit

def sizeT (q : PT) : Int := 20 + (q.opt.length : Int) + (q.dat.length : Int)
def lineT (q : PT) : Int := (20 + (q.opt.length : Int)) / 4 * 16 + q.res
def argT (q : PT) : Prop := 0 ≤ q.src ∧ q.src ≤ 65535 ∧ 0 ≤ q.dst ∧ q.dst ≤ 65535 ∧ 0 ≤ q.win ∧ q.win ≤ 65535 ∧ 0 ≤ q.urg ∧ q.urg ≤ 65535 ∧ 0 ≤ q.seq ∧ q.seq < 4294967296 ∧ 0 ≤ q.ack ∧ q.ack < 4294967296 ∧
  0 ≤ q.res ∧ q.res ≤ 15 ∧ 0 ≤ q.flags ∧ q.flags ≤ 255 ∧ q.opt.length ≤ 40 ∧ q.opt.length % 4 = 0
instance (q : PT) : Decidable (argT q) := by unfold argT; infer_instance
def chkT (q : PT) : Int := if argT q then (if sizeT q > 65535 then 6 else 0) else 1
theorem chkT_ok {q : PT} (h : chkT q = 0) : argT q ∧ sizeT q ≤ 65535 := by
  unfold chkT at h
  split at h
  · rename_i ha
    split at h
    · cases h
    · exact ⟨ha, by omega⟩
  · cases h
/-- A head, up to the options. -/
def hda8 (q : PT) : List UInt8 := be2 q.src ++ be2 q.dst ++ be4 q.seq ++ be4 q.ack ++ [u8 (lineT q)] ++ [u8 q.flags] ++ be2 q.win
def hdT (q : PT) (s : Int) : List UInt8 := hda8 q ++ be2 s ++ be2 q.urg
theorem hda8_len (q : PT) : (hda8 q).length = 16 := by simp [hda8, be2, be4]
theorem hdT_len (q : PT) (s : Int) : (hdT q s).length = 20 := by simp [hdT, hda8, be2, be4]
def nineT (q : PT) (s : Int) : List (Int × Int) := [(q.src, 2), (q.dst, 2), (q.seq, 4), (q.ack, 4), (lineT q, 1), (q.flags, 1), (q.win, 2), (s, 2), (q.urg, 2)]
theorem lineT_bd {q : PT} (h : argT q) : 0 ≤ lineT q ∧ lineT q ≤ 255 := by
  obtain ⟨_, _, _, _, _, _, _, _, _, _, _, _, h1, h2, _, _, h3, h4⟩ := h
  unfold lineT; omega
theorem nineT_put (q : PT) (s : Int) (h : argT q) (h0 : 0 ≤ s) (h1 : s ≤ 65535) : putL (nineT q s) = hdT q s := by
  have hl := lineT_bd h
  obtain ⟨a1, a2, a3, a4, a5, a6, a7, a8, a9, a10, a11, a12, a13, a14, a15, a16, _, _⟩ := h
  simp only [nineT, putL, List.foldl_cons, List.foldl_nil]
  rw [put_two a1 a2, put_two a3 a4, put_four a9 a10, put_four a11 a12, put_one hl.1 hl.2, put_one a15 a16, put_two a5 a6, put_two h0 h1, put_two a7 a8]
  simp [hdT, hda8, List.append_assoc]
def smT (src dst : Int) (q : PT) : Int := 65535 - fold (psum [psd src dst 6 (sizeT q), hdT q 0, q.opt, q.dat])
theorem smT_bd (src dst : Int) (q : PT) : 0 ≤ smT src dst q ∧ smT src dst q ≤ 65535 := by
  have := fold_bd (psum [psd src dst 6 (sizeT q), hdT q 0, q.opt, q.dat]); unfold smT; omega
def bldT (src dst : Int) (q : PT) : List UInt8 := hdT q (smT src dst q) ++ q.opt ++ q.dat
theorem bldT_len (src dst : Int) (q : PT) : (bldT src dst q).length = 20 + q.opt.length + q.dat.length := by rw [bldT, List.length_append, List.length_append, hdT_len]
def hlT (b : List UInt8) : Int := byt b 12 / 16 * 4
def badT (src dst : Int) (b : List UInt8) : Int :=
  if b.length < 20 then 3
  else if hlT b < 20 then 4
  else if hlT b > (b.length : Int) then 3
  else if b.length > 65535 then 6
  else if rightB [psd src dst 6 (b.length : Int), b] = false then 5
  else 0
def rawT (b : List UInt8) : PT := ⟨n2 b 0, n2 b 2, n4 b 4, n4 b 8, byt b 12 % 16, byt b 13, n2 b 14, n2 b 18, (b.take (hlT b).toNat).drop 20, b.drop (hlT b).toNat⟩
def prsT (src dst : Int) (b : List UInt8) : PT := if badT src dst b = 0 then rawT b else tsz
def sameT (q r : PT) : Bool := (q.src == r.src && q.dst == r.dst && q.seq == r.seq && q.ack == r.ack && q.res == r.res && q.flags == r.flags) && (q.win == r.win) && (q.urg == r.urg) && decide (q.opt = r.opt) && decide (q.dat = r.dat)
theorem sameT_iff {q r : PT} : sameT q r = true ↔ q = r := by
  obtain ⟨a0, a1, a2, a3, a4, a5, a6, a7, a8, a9⟩ := q
  obtain ⟨b0, b1, b2, b3, b4, b5, b6, b7, b8, b9⟩ := r
  simp only [sameT, Bool.and_eq_true, beq_iff_eq, decide_eq_true_eq, PT.mk.injEq]
  constructor
  · rintro ⟨⟨⟨⟨⟨⟨⟨⟨⟨h0, h1⟩, h2⟩, h3⟩, h4⟩, h5⟩, h6⟩, h7⟩, h8⟩, h9⟩; exact ⟨h0, h1, h2, h3, h4, h5, h6, h7, h8, h9⟩
  · rintro ⟨h0, h1, h2, h3, h4, h5, h6, h7, h8, h9⟩; exact ⟨⟨⟨⟨⟨⟨⟨⟨⟨h0, h1⟩, h2⟩, h3⟩, h4⟩, h5⟩, h6⟩, h7⟩, h8⟩, h9⟩
theorem hdT_wall (q : PT) {s : Int} (h0 : 0 ≤ s) (h1 : s ≤ 65535) : wall (hdT q s) = wall (hdT q 0) + s := by
  have z : ∀ n : Int, 0 ≤ n → n ≤ 65535 → wall (hdT q n) = wall (hda8 q) + n + wall (be2 q.urg) := fun n a b => by
    rw [hdT, wall_append (m := 9) (by simp [hda8, be2, be4]), wall_append (m := 8) (by simp [hda8, be2, be4]), be2_wall a b]
  rw [z s h0 h1, z 0 (by omega) (by omega)]; omega
theorem psum_glueT (p : List UInt8) (q : PT) (s : Int) (h : argT q) : psum [p, hdT q s, q.opt, q.dat] = psum [p, hdT q s ++ q.opt ++ q.dat] := by
  have h4 : q.opt.length % 4 = 0 := by obtain ⟨_, _, _, _, _, _, _, _, _, _, _, _, _, _, _, _, _, h⟩ := h; exact h
  simp only [psum_cons]
  rw [wall_append (a := hdT q s ++ q.opt) (m := 10 + q.opt.length / 2) (by rw [List.length_append, hdT_len]; omega), wall_append (a := hdT q s) (m := 10) (hdT_len q s)]; omega
theorem smT_two (src dst : Int) (q : PT) (h : argT q) : 65535 - fold (psum [psd src dst 6 (sizeT q), hdT q 0 ++ q.opt ++ q.dat]) = smT src dst q := by
  rw [smT, psum_glueT _ _ _ h]
theorem bldT_right (src dst : Int) (q : PT) (h : argT q) : rightB [psd src dst 6 (sizeT q), bldT src dst q] = true := by
  have e : psum [psd src dst 6 (sizeT q), bldT src dst q] = psum [psd src dst 6 (sizeT q), hdT q 0, q.opt, q.dat] + smT src dst q := by
    rw [bldT, ← psum_glueT _ _ _ h]
    simp only [psum_cons]
    rw [hdT_wall q (smT_bd src dst q).1 (smT_bd src dst q).2]; omega
  have hs : smT src dst q = 65535 - fold (psum [psd src dst 6 (sizeT q), hdT q 0, q.opt, q.dat]) := rfl
  rw [rightB, e, right_of (psum_nn _) hs]; rfl
theorem n4_be4 {a b : List UInt8} {n : Int} (h0 : 0 ≤ n) (h1 : n < 4294967296) {k : Nat} (hk : a.length = k) : n4 (a ++ (be4 n ++ b)) k = n := by
  have e0 : byt (a ++ (be4 n ++ b)) (a.length + 0) = byt (be4 n ++ b) 0 := byt_right
  have e1 : byt (a ++ (be4 n ++ b)) (a.length + 1) = byt (be4 n ++ b) 1 := byt_right
  have e2 : byt (a ++ (be4 n ++ b)) (a.length + 2) = byt (be4 n ++ b) 2 := byt_right
  have e3 : byt (a ++ (be4 n ++ b)) (a.length + 3) = byt (be4 n ++ b) 3 := byt_right
  subst hk
  unfold n4
  rw [show a.length = a.length + 0 from rfl, e0, Nat.add_zero, e1, e2, e3]
  have c0 : byt (be4 n ++ b) 0 = n / 16777216 % 256 := u8_val _
  have c1 : byt (be4 n ++ b) 1 = n / 65536 % 256 := u8_val _
  have c2 : byt (be4 n ++ b) 2 = n / 256 % 256 := u8_val _
  have c3 : byt (be4 n ++ b) 3 = n % 256 := u8_val _
  rw [c0, c1, c2, c3]; omega
theorem byt_u8 {a b : List UInt8} {n : Int} {k : Nat} (hk : a.length = k) : byt (a ++ ([u8 n] ++ b)) k = n % 256 := by
  have e0 : byt (a ++ ([u8 n] ++ b)) (a.length + 0) = byt ([u8 n] ++ b) 0 := byt_right
  subst hk
  rw [Nat.add_zero] at e0; rw [e0]; exact u8_val _
theorem backT {src dst : Int} {q : PT} (h : chkT q = 0) : badT src dst (bldT src dst q) = 0 ∧ prsT src dst (bldT src dst q) = q := by
  obtain ⟨ha, hz⟩ := chkT_ok h
  have hl := lineT_bd ha
  have hr := bldT_right src dst q ha
  have hs := smT_bd src dst q
  have hlen := bldT_len src dst q
  obtain ⟨a1, a2, a3, a4, a5, a6, a7, a8, a9, a10, a11, a12, a13, a14, a15, a16, a17, a18⟩ := ha
  have f0 : n2 (bldT src dst q) 0 = q.src := by
    simp only [bldT, hdT, hda8, List.append_assoc]; exact n2_be2 (a := []) a1 a2 rfl
  have f2 : n2 (bldT src dst q) 2 = q.dst := by
    simp only [bldT, hdT, hda8, List.append_assoc]; exact n2_be2 (a := be2 q.src) a3 a4 rfl
  have f4 : n4 (bldT src dst q) 4 = q.seq := by
    simp only [bldT, hdT, hda8, List.append_assoc]; rw [← List.append_assoc]; exact n4_be4 (a := be2 q.src ++ be2 q.dst) a9 a10 rfl
  have f8 : n4 (bldT src dst q) 8 = q.ack := by
    simp only [bldT, hdT, hda8, List.append_assoc]; rw [← List.append_assoc, ← List.append_assoc]; exact n4_be4 (a := be2 q.src ++ be2 q.dst ++ be4 q.seq) a11 a12 rfl
  have f12 : byt (bldT src dst q) 12 = lineT q := by
    have : byt (bldT src dst q) 12 = lineT q % 256 := by
      simp only [bldT, hdT, hda8, List.append_assoc]; rw [← List.append_assoc, ← List.append_assoc, ← List.append_assoc]; exact byt_u8 (a := be2 q.src ++ be2 q.dst ++ be4 q.seq ++ be4 q.ack) rfl
    omega
  have f13 : byt (bldT src dst q) 13 = q.flags := by
    have : byt (bldT src dst q) 13 = q.flags % 256 := by
      simp only [bldT, hdT, hda8, List.append_assoc]; rw [← List.append_assoc, ← List.append_assoc, ← List.append_assoc, ← List.append_assoc]; exact byt_u8 (a := be2 q.src ++ be2 q.dst ++ be4 q.seq ++ be4 q.ack ++ [u8 (lineT q)]) rfl
    omega
  have f14 : n2 (bldT src dst q) 14 = q.win := by
    simp only [bldT, hdT, hda8, List.append_assoc]; rw [← List.append_assoc, ← List.append_assoc, ← List.append_assoc, ← List.append_assoc, ← List.append_assoc]; exact n2_be2 (a := be2 q.src ++ be2 q.dst ++ be4 q.seq ++ be4 q.ack ++ [u8 (lineT q)] ++ [u8 q.flags]) a5 a6 rfl
  have f18 : n2 (bldT src dst q) 18 = q.urg := by
    have e : bldT src dst q = (hda8 q ++ be2 (smT src dst q)) ++ (be2 q.urg ++ (q.opt ++ q.dat)) := by simp [bldT, hdT, List.append_assoc]
    rw [e]; exact n2_be2 a7 a8 (by simp [hda8, be2, be4])
  have fh : hlT (bldT src dst q) = 20 + (q.opt.length : Int) := by
    unfold hlT; rw [f12]; unfold lineT; omega
  have hsz : ((bldT src dst q).length : Int) = sizeT q := by rw [hlen]; unfold sizeT; omega
  have hb : badT src dst (bldT src dst q) = 0 := by
    unfold badT
    rw [if_neg (by omega), fh, if_neg (by omega), if_neg (by omega), if_neg (by omega), if_neg (by rw [hsz, hr]; simp)]
  refine ⟨hb, ?_⟩
  rw [prsT, if_pos hb, rawT, f0, f2, f4, f8, f12, f13, f14, f18, fh]
  have e1 : (20 + (q.opt.length : Int)).toNat = 20 + q.opt.length := by omega
  have e2 : (bldT src dst q).take (20 + q.opt.length) = hdT q (smT src dst q) ++ q.opt := by rw [bldT, List.take_left' (by rw [List.length_append, hdT_len])]
  have e3 : (hdT q (smT src dst q) ++ q.opt).drop 20 = q.opt := List.drop_left' (hdT_len q _)
  have e4 : (bldT src dst q).drop (20 + q.opt.length) = q.dat := by rw [bldT, List.drop_left' (by rw [List.length_append, hdT_len])]
  have e5 : lineT q % 16 = q.res := by unfold lineT; omega
  rw [e1, e2, e3, e4, e5]
/-- How many bytes the option at a place has; 0: there is none. -/
def optL (b : List UInt8) (at_ : Nat) : Nat :=
  if b.length ≤ at_ then 0
  else if byt b at_ ≤ 1 then 1
  else if b.length ≤ at_ + 1 ∨ byt b (at_ + 1) < 2 ∨ byt b (at_ + 1) > (b.length : Int) - at_ then 0
  else (byt b (at_ + 1)).toNat
theorem optL_le {b : List UInt8} {at_ : Nat} (h : 0 < optL b at_) : at_ + optL b at_ ≤ b.length ∧ at_ < b.length := by
  unfold optL at h ⊢
  split at h
  · omega
  · rename_i h1
    rw [if_neg h1]
    split at h
    · rename_i h2; rw [if_pos h2]; omega
    · rename_i h2
      rw [if_neg h2]
      split at h
      · omega
      · rename_i h3
        rw [if_neg h3]; omega
/-- Where options begin, from a place on. -/
def plc (b : List UInt8) : Nat → Nat → List Nat
  | 0, _ => []
  | f + 1, a => if optL b a = 0 then [] else a :: (if byt b a = 0 then [] else plc b f (a + optL b a))
def places (b : List UInt8) : List Nat := plc b (b.length + 1) 0
theorem plc_more (b : List UInt8) : ∀ (f g a : Nat), b.length + 1 ≤ a + f → b.length + 1 ≤ a + g → plc b f a = plc b g a
  | 0, 0, _, _, _ => rfl
  | 0, g + 1, a, h, _ => by
    have : optL b a = 0 := by unfold optL; rw [if_pos (by omega)]
    rw [plc, plc, if_pos this]
  | f + 1, 0, a, _, h => by
    have : optL b a = 0 := by unfold optL; rw [if_pos (by omega)]
    rw [plc, plc, if_pos this]
  | f + 1, g + 1, a, h1, h2 => by
    rw [plc, plc]
    by_cases h0 : optL b a = 0
    · rw [if_pos h0, if_pos h0]
    · rw [if_neg h0, if_neg h0]
      by_cases hz : byt b a = 0
      · rw [if_pos hz, if_pos hz]
      · rw [if_neg hz, if_neg hz, plc_more b f g (a + optL b a) (by omega) (by omega)]
/-- From a place on, with as much as is wanted. -/
def rest (b : List UInt8) (a : Nat) : List Nat := plc b (b.length + 1) a
theorem rest_none {b : List UInt8} {a : Nat} (h : optL b a = 0) : rest b a = [] := by rw [rest, plc, if_pos h]
theorem rest_last {b : List UInt8} {a : Nat} (h : 0 < optL b a) (hz : byt b a = 0) : rest b a = [a] := by rw [rest, plc, if_neg (by omega), if_pos hz]
theorem rest_more {b : List UInt8} {a : Nat} (h : 0 < optL b a) (hz : byt b a ≠ 0) : rest b a = a :: rest b (a + optL b a) := by
  rw [rest, plc, if_neg (by omega), if_neg hz, rest]
  congr 1
  exact plc_more b _ _ _ (by omega) (by omega)
theorem rest_len (b : List UInt8) : ∀ (f a : Nat), (plc b f a).length ≤ f
  | 0, _ => Nat.le_refl _
  | f + 1, a => by
    rw [plc]; split
    · simp
    · split
      · simp
      · have := rest_len b f (a + optL b a); simp; omega
theorem places_len (b : List UInt8) : (places b).length ≤ b.length + 1 := rest_len b _ _
theorem plc_mem (b : List UInt8) : ∀ (f a x : Nat), x ∈ plc b f a → 0 < optL b x
  | 0, _, _, h => by simp [plc] at h
  | f + 1, a, x, h => by
    rw [plc] at h
    split at h
    · simp at h
    · rename_i h0
      rcases List.mem_cons.1 h with rfl | h
      · omega
      · split at h
        · simp at h
        · exact plc_mem b f _ x h
theorem places_mem {b : List UInt8} {x : Nat} (h : x ∈ places b) : 0 < optL b x := plc_mem b _ _ x h
/-- Does the option at a place tell the greatest size? -/
def mssB (b : List UInt8) (a : Nat) : Bool := decide (byt b a = 2) && decide (optL b a = 4)
/-- The greatest size, where it is told, and whether. -/
def mssT (b : List UInt8) : Option Nat := (places b).find? (mssB b)
def mssN (b : List UInt8) : Int := match mssT b with | some a => n2 b (a + 2) | none => 0
def mssA (b : List UInt8) : Int := match mssT b with | some a => (a : Int) | none => 0
def mssK (b : List UInt8) : Bool := (mssT b).isSome
end Go.Proofs.Ytkfbamippjhjcaa

/-
  Contracts of udp's put, Pseudo, buildHead. Conditions are each theorem's own.
-/
namespace Go.Proofs.Ytkfbamippjhjcaa
open Go.RowKit

/-- The lowest bits of any number, of one below 0 too. -/
theorem and_any (i : Nat) (n : Int) (hi : i ≤ 62) : bits .and .i64 n (2 ^ i - 1) = n % 2 ^ i := by
  obtain ⟨a, ha⟩ : ∃ a : Nat, (a : Int) = n % 2 ^ 64 := ⟨(n % 2 ^ 64).toNat, by omega⟩
  have e : BitVec.ofInt IntKind.i64.bits n = BitVec.ofInt IntKind.i64.bits (a : Int) := by
    apply BitVec.eq_of_toInt_eq
    rw [BitVec.toInt_ofInt, BitVec.toInt_ofInt, ha]
    show Int.bmod n (2 ^ 64) = Int.bmod (n % 2 ^ 64) (2 ^ 64)
    exact (Int.emod_bmod n (2 ^ 64)).symm
  have hpos : 0 < 2 ^ i := Nat.two_pow_pos i
  have hp : 2 ^ i ≤ 2 ^ 62 := Nat.pow_le_pow_right (by decide) hi
  have hc : ((2 : Int) ^ i - 1) = ((2 ^ i - 1 : Nat) : Int) := by
    rw [Int.natCast_sub hpos]; simp
  have hm : (2 ^ i - 1) % 2 ^ IntKind.i64.bits = 2 ^ i - 1 := Nat.mod_eq_of_lt (by show _ < 2 ^ 64; omega)
  have hal : a < 2 ^ 64 := by omega
  have ham : a % 2 ^ IntKind.i64.bits = a := Nat.mod_eq_of_lt hal
  have h1 : bits .and .i64 n (2 ^ i - 1) = IntKind.i64.wrap ((a &&& (2 ^ i - 1) : Nat) : Int) := by
    simp only [bits, e, hc, BitVec.ofInt_natCast, BitVec.toNat_and, BitVec.toNat_ofNat, hm, ham]
  rw [h1, Nat.and_two_pow_sub_one_eq_mod]
  have hlt : a % 2 ^ i < 2 ^ i := Nat.mod_lt _ hpos
  rw [wraps63 _ (by omega) (by omega)]
  have hd : ((2 : Int) ^ i) ∣ 2 ^ 64 := by
    refine ⟨2 ^ (64 - i), ?_⟩
    rw [← Int.pow_add]; congr 1; omega
  have h2 : (n % 2 ^ 64) % 2 ^ i = n % 2 ^ i := Int.emod_emod_of_dvd n hd
  rw [← h2, ← ha]; simp
/-- A number and its size in a block. -/
def AtNS (W : World) (g : Nat) (n s : Int) : Prop := W.rangeAt g 0 [.int .i64 n, .int .i64 s]
section
variable {W : World} {g : Nat} {n s : Int}
theorem AtNS.below {w : World} {B : Nat} (h : AtNS W g n s) (hb : Below B W w) (hg : g < B) : AtNS w g n s := range_below h hg hb
theorem AtNS.num (h : AtNS W g n s) : W.cell? ⟨g, 0, none⟩ = some (.int .i64 n) := h 0 _ rfl
theorem AtNS.siz (h : AtNS W g n s) : W.cell? ⟨g, 1, none⟩ = some (.int .i64 s) := h 1 _ rfl
end
end Go.Proofs.Ytkfbamippjhjcaa

/-
  Contracts of layer 7's Check, numbers and Same, the program's and the document's; of the document's mod and Pseudo. Conditions are each theorem's own.
-/
namespace Go.Proofs.Ytkfbamippjhjcaa
open Go.RowKit

theorem mod_val (n m : Int) (h0 : 0 < m) (h1 : m ≤ 4294967296) : (wrap64 (n.tmod m + m)).tmod m = n % m := by
  have hlt := Int.tmod_lt_of_pos n h0
  have hgt : -m < n.tmod m := by
    have := Int.tmod_lt_of_pos (-n) h0
    rw [Int.neg_tmod] at this; omega
  have e1 : wrap64 (n.tmod m + m) = n.tmod m + m := by unfold wrap64; omega
  rw [e1, Int.tmod_eq_emod_of_nonneg (by omega), Int.add_emod_right]
  have h2 : n = m * (n.tdiv m) + n.tmod m := (Int.mul_tdiv_add_tmod n m).symm
  conv => rhs; rw [h2]
  rw [Int.add_comm, Int.add_mul_emod_self_left]
theorem rmod_any (n m : Int) (w : World) (hm : m = 4294967296 ∨ m = 65536 ∨ m = 256) :
    Calls Try.prog 97 #[.int .i64 n, .int .i64 m] w fun e w' => e = .returned (.int .i64 (n % m)) ∧ w = w' := by
  have hv := Lib.hid (fun h0 h1 => mod_val n m h0 h1)
  rcases hm with rfl | rfl | rfl
  all_goals
    go_enter Try.func97, Try.ntmps97
    go_wp2_with fail
    go_ret
    exact ⟨ret_int (hv.out (by decide) (by decide)), rfl⟩
theorem rput_nil (n s : Int) (w : World) : Calls Try.prog 75 #[.slice none 0 0, .int .i64 n, .int .i64 s] w fun e w' => ∃ v, e = .returned v ∧ Made w w' v (putB [] n s) :=
  rput_any none [] 0 0 n s w (Arg.nil _ 0) (by simp)
theorem rpsd_any (src dst proto size : Int) (w : World) :
    Calls Try.prog 70 #[.int .i64 src, .int .i64 dst, .int .i64 proto, .int .i64 size] w fun e w' => ∃ v, e = .returned v ∧ Made w w' v (psd src dst proto size) := by
  obtain ⟨L1, h1⟩ : ∃ l, l = be4 src := ⟨_, rfl⟩
  obtain ⟨L2, h2⟩ : ∃ l, l = L1 ++ be4 dst := ⟨_, rfl⟩
  obtain ⟨L3, h3⟩ : ∃ l, l = L2 ++ [u8 0] := ⟨_, rfl⟩
  obtain ⟨L4, h4⟩ : ∃ l, l = L3 ++ [u8 proto] := ⟨_, rfl⟩
  have H1 := Lib.hid (show putB [] (src % 4294967296) 4 = L1 by rw [putm_four, h1]; rfl)
  have H2 := Lib.hid (show putB L1 (dst % 4294967296) 4 = L2 by rw [putm_four, h2])
  have H3 := Lib.hid h3
  have H4 := Lib.hid (show putB L3 (proto % 256) 1 = L4 by rw [putm_one, h4])
  have H5 := Lib.hid (show putB L4 (size % 65536) 2 = psd src dst proto size by rw [putm_two, h4, h3, h2, h1]; rfl)
  have l1 : L1.length ≤ 4 := by rw [h1]; simp [be4]
  have l2 : L2.length ≤ 8 := by rw [h2, List.length_append]; simp [be4]; omega
  have l3 : L3.length ≤ 9 := by rw [h3, List.length_append]; simp; omega
  have l4 : L4.length ≤ 10 := by rw [h4, List.length_append]; simp; omega
  clear h1 h2 h3 h4
  go_enter Try.func70, Try.ntmps70
  go_upto_region 2 with (first
    | (go_at_call 97; ((with_reducible refine (rmod_any src 4294967296 _ (.inl rfl)).mono ?_); rintro e w' ⟨rfl, rfl⟩))
    | (go_at_call 75; ((with_reducible refine (rput_nil (src % 4294967296) 4 _).mono ?_); rintro e w1 ⟨v1, rfl, m1⟩; rw [H1.out] at m1; obtain ⟨A1, c1, rfl, g1, o1, x1⟩ := made_shape m1))
    | (go_at_call 97; ((with_reducible refine (rmod_any dst 4294967296 _ (.inl rfl)).mono ?_); rintro e w' ⟨rfl, rfl⟩))
    | (go_at_call 75; ((with_reducible refine (rput_any A1 L1 c1 _ (dst % 4294967296) 4 _ g1 (by omega)).mono ?_); rintro e w2 ⟨v2, rfl, m2⟩; rw [H2.out] at m2; obtain ⟨A2, c2, rfl, g2, o2, x2⟩ := made_shape m2)))
  go_wp2_with (first
    | (at_builtin; go_loud (refine append_rd rfl _ _ rfl w1.heap.size _ _ _ rfl (o2.alloc _) (w2.heap.size + 1) (some ⟨w2.heap.size, 0, none⟩) 1 [u8 0] rfl (fun e => by cases e) (Rd.one _ rfl) (by simp; omega) (by have := x2.size; simp; omega) ?_; intro v3 w3 own3 grow3; obtain ⟨A3, c3, rfl, owm3⟩ := own_made (bs := L3) own3 (by rw [H3.out]; simp) (by rw [H3.out, row_append])))
    | (go_at_call 97; ((with_reducible refine (rmod_any proto 256 _ (.inr (.inr rfl))).mono ?_); rintro e w' ⟨rfl, rfl⟩))
    | (go_at_call 75; ((with_reducible refine (rput_any A3 L3 c3 _ (proto % 256) 1 _ (arg_own owm3) (by omega)).mono ?_); rintro e w4 ⟨v4, rfl, m4⟩; rw [H4.out] at m4; obtain ⟨A4, c4, rfl, g4, o4, x4⟩ := made_shape m4))
    | (go_at_call 97; ((with_reducible refine (rmod_any size 65536 _ (.inr (.inl rfl))).mono ?_); rintro e w' ⟨rfl, rfl⟩))
    | (go_at_call 75; ((with_reducible refine (rput_any A4 L4 c4 _ (size % 65536) 2 _ g4 (by omega)).mono ?_); rintro e w5 ⟨v5, rfl, m5⟩; rw [H5.out] at m5)))
  go_ret
  have z1 := x1.size; have z2 := x2.size
  have x03 : Below w.heap.size w w3 := (((x1.trans (x2.mono z1)).alloc (by omega) _)).grown grow3 (by simp; omega) (fun k hk => by have := own_block_ge o2 k hk; omega)
  have z3 := x03.size
  exact ⟨v5, rfl, m5.after (x03.trans (x4.mono z3))⟩
section
variable (q : PU) (A : Option Addr) (c : Nat) (w : World)
theorem argU_iff (q : PU) : argU q ↔ (fitsB q.src 2 = true ∧ fitsB q.dst 2 = true) := by
  rw [fitsB_iff, fitsB_iff, pw2, argU]; omega
set_option maxHeartbeats 1000000 in
theorem rUcheck (hl : q.dat.length ≤ 1000000) : Calls Try.prog 68 #[usv q A c] w fun e w' => e = .returned (.int .i64 (chkU q)) ∧ Below w.heap.size w w' := by
  have hB : Below w.heap.size w (w.alloc (.cells (usa q A c) 73)) := (Below.refl w.heap.size w).alloc (Nat.le_refl _) _
  have hAt := Atus.new (q := q) (A := A) (c := c) w
  have hz : w.heap.size < (w.alloc (.cells (usa q A c) 73)).heap.size := by simp
  rw [usv_eq]
  have HO := Lib.hid (argU_iff q)
  have k0 := hAt.src; have k1 := hAt.dst; have k3 := hAt.dat
  go_enter Try.func68, Try.ntmps68
  go_upto_region 1 with fail
  generalize w.alloc (.cells (usa q A c) 73) = W at *
  by_cases ho : argU q
  · have H0 := Lib.hid (HO.out.1 ho).1
    have H1 := Lib.hid (HO.out.1 ho).2
    by_cases s : 65527 < q.dat.length
    · have HE := Lib.hid (show chkU q = 6 by rw [chkU, if_pos ho, if_pos (by omega)])
      clear ho HO hAt
      go_wp2_with (go_at_call 52; refine (rfits_any _ _ _).mono ?_; rintro e w' ⟨rfl, rfl⟩; (first | rw [H0.out] | rw [H1.out] | skip))
      go_ret
      exact ⟨ret_int (by rw [HE.out]), hB⟩
    · have HE := Lib.hid (show chkU q = 0 by rw [chkU, if_pos ho, if_neg (by omega)])
      clear ho HO hAt
      go_wp2_with (go_at_call 52; refine (rfits_any _ _ _).mono ?_; rintro e w' ⟨rfl, rfl⟩; (first | rw [H0.out] | rw [H1.out] | skip))
      go_ret
      exact ⟨ret_int (by rw [HE.out]), hB⟩
  · have HE := Lib.hid (show chkU q = 1 by rw [chkU, if_neg ho])
    have hno : ¬ (fitsB q.src 2 = true ∧ fitsB q.dst 2 = true) := fun h => ho (HO.out.2 h)
    clear ho HO hAt
    cases h0 : fitsB q.src 2
    · have H0 := Lib.hid h0; have H1 := H0
      clear hno h0
      go_wp2_with (go_at_call 52; refine (rfits_any _ _ _).mono ?_; rintro e w' ⟨rfl, rfl⟩; (first | rw [H0.out] | rw [H1.out] | skip))
      go_ret
      exact ⟨ret_int (by rw [HE.out]), hB⟩
    · have H0 := Lib.hid h0
      rw [h0] at hno; clear h0
      have h1 : fitsB q.dst 2 = false := by cases h1 : fitsB q.dst 2; rfl; exact absurd ⟨rfl, h1⟩ hno
      have H1 := Lib.hid h1
      clear hno h1
      go_wp2_with (go_at_call 52; refine (rfits_any _ _ _).mono ?_; rintro e w' ⟨rfl, rfl⟩; (first | rw [H0.out] | rw [H1.out] | skip))
      go_ret
      exact ⟨ret_int (by rw [HE.out]), hB⟩

def numsU (q : PU) : List Int := [q.src, q.dst]
end
theorem sameU_nums (q r : PU) : sameU q r = (decide (numsU q = numsU r) && (q.nosum == r.nosum) && decide (q.dat = r.dat)) := by
  rw [sameU, Bool.eq_iff_iff]; simp [numsU, and_assoc]
section
variable (q r : PU) (A : Option Addr) (c : Nat) (X : Option Addr) (d B : Nat) (w : World)
end
end Go.Proofs.Ytkfbamippjhjcaa

/-
  Contracts of layer 7's check and Build, the program's and the document's. Conditions are each theorem's own.
-/
namespace Go.Proofs.Ytkfbamippjhjcaa
open Go.RowKit

theorem Rd2.two {w : World} {B g t n0 n1 : Nat} {A0 A1 : Option Addr} {c0 c1 : Nat} {b0 b1 : List UInt8} (h0 : n0 = b0.length) (h1 : n1 = b1.length)
    (hg : w.heap[g]? = some (.cells #[.slice A0 n0 c0, .slice A1 n1 c1] t (0, 0))) (hB : g < B) (a0 : Arg w B A0 c0 b0) (a1 : Arg w B A1 c1 b1) : Rd2 w B (some ⟨g, 0, none⟩) [b0, b1] := by
  subst h0; subst h1
  refine Rd2.of_cells hg hB fun j b hj => ?_
  match j, hj with
  | 0, hj => simp at hj; subst hj; exact ⟨A0, c0, rfl, a0⟩
  | 1, hj => simp at hj; subst hj; exact ⟨A1, c1, rfl, a1⟩
  | j + 2, hj => simp at hj
theorem bulk2 (a b : List UInt8) : bulk [a, b] = a.length + b.length := by simp [bulk]
theorem rof_two (A : Option Addr) (a b : List UInt8) (c B : Nat) (N : Int) (hN : Hid (N = 65535 - fold (psum [a, b]))) (w : World) (h : Rd2 w B A [a, b]) (hl : a.length + b.length ≤ 1099511627000) :
    Calls Try.prog 47 #[.slice A 2 c] w fun e w' => e = .returned (.int .i64 N) ∧ ∃ n, w' = w.drewN n := by
  have h1 := rof_any A [a, b] c B w h (by rw [bulk2]; omega) (by simp)
  rw [← hN.out] at h1
  exact h1
theorem rright_two (A : Option Addr) (a b : List UInt8) (c B : Nat) (N : Bool) (hN : Hid (N = rightB [a, b])) (w : World) (h : Rd2 w B A [a, b]) (hl : a.length + b.length ≤ 1099511627000) :
    Calls Try.prog 83 #[.slice A 2 c] w fun e w' => e = .returned (.bool N) ∧ ∃ n, w' = w.drewN n := by
  have h1 := rright_any A [a, b] c B w h (by rw [bulk2]; omega) (by simp)
  rw [← hN.out] at h1
  exact h1
section
variable (q : PU) (A : Option Addr) (c : Nat) (src dst : Int) (w : World)
set_option maxRecDepth 100000 in
set_option maxHeartbeats 1000000 in
theorem rUbytes (B : Nat) (s : Int) (bs : List UInt8) (hbs : Hid (bs = hdU q s ++ q.dat)) (ha : argU q) (hd : q.dat.length ≤ 65527) (s0 : 0 ≤ s) (s1 : s ≤ 65535) (hD : Arg w B A c q.dat) (hB0 : B ≤ w.heap.size) :
    Calls Try.prog 69 #[usv q A c, .int .i64 s] w fun e w' => ∃ v, e = .returned v ∧ Made w w' v bs := by
  have hB : Below w.heap.size w (w.alloc (.cells (usa q A c) 73)) := (Below.refl w.heap.size w).alloc (Nat.le_refl _) _
  have hAt := Atus.new (q := q) (A := A) (c := c) w
  have hz : w.heap.size < (w.alloc (.cells (usa q A c) 73)).heap.size := by simp
  rw [usv_eq]
  obtain ⟨a1, a2, a3, a4⟩ := ha
  obtain ⟨L1, h1⟩ : ∃ l, l = be2 q.src := ⟨_, rfl⟩
  obtain ⟨L2, h2⟩ : ∃ l, l = L1 ++ be2 q.dst := ⟨_, rfl⟩
  obtain ⟨L3, h3⟩ : ∃ l, l = L2 ++ be2 (8 + (q.dat.length : Int)) := ⟨_, rfl⟩
  obtain ⟨L4, h4⟩ : ∃ l, l = L3 ++ be2 s := ⟨_, rfl⟩
  have H1 := Lib.hid (show putB [] q.src 2 = L1 by rw [put_two a1 a2, h1]; rfl)
  have H2 := Lib.hid (show putB L1 q.dst 2 = L2 by rw [put_two a3 a4, h2])
  have H3 := Lib.hid (show putB L2 (8 + (q.dat.length : Int)) 2 = L3 by rw [put_two (by omega) (by omega), h3])
  have H4 := Lib.hid (show putB L3 s 2 = L4 by rw [put_two s0 s1, h4])
  have H5 := Lib.hid (show bs = L4 ++ q.dat by rw [hbs.out, h4, h3, h2, h1]; rfl)
  have l1 : L1.length ≤ 2 := by rw [h1]; simp [be2]
  have l2 : L2.length ≤ 4 := by rw [h2, List.length_append]; simp [be2]; omega
  have l3 : L3.length ≤ 6 := by rw [h3, List.length_append]; simp [be2]; omega
  have l4 : L4.length ≤ 8 := by rw [h4, List.length_append]; simp [be2]; omega
  clear h1 h2 h3 h4 hbs
  go_enter Try.func69, Try.ntmps69
  go_wp2_with fail
  generalize w.alloc (.cells (usa q A c) 73) = W at *
  refine wp_region_held_drew (S := fun w' => Below W.heap.size W w') (by kernel_rfl) (Below.refl _ W).drew (fun hS => ?_)
  refine held_pure (i := 0) (oi := ⟨some 6, _, _, _, _, _⟩) rfl (by kernel_rfl) (by kernel_rfl) (by kernel_rfl) (fun _ _ _ h => h) (by rfl) (v := ?_) (fun w hSw => ?_) hS (fun hS => ?_)
  rotate_left
  · go_simp; try with_reducible rfl
  try go_frame
  refine held_pure (i := 1) (oi := ⟨some 7, _, _, _, _, _⟩) rfl (by kernel_rfl) (by kernel_rfl) (by kernel_rfl) (fun _ _ _ h => h) (by rfl) (fun w hSw => run_load_int rfl rfl ((hAt.below hSw (by omega)).src)) hS (fun hS => ?_)
  try go_frame
  refine held_pure (i := 3) (oi := ⟨some 9, _, _, _, _, _⟩) rfl (by kernel_rfl) (by kernel_rfl) (by kernel_rfl) (fun _ _ _ h => h) (by rfl) (v := ?_) (fun w hSw => ?_) hS (fun hS => ?_)
  rotate_left
  · go_simp; try with_reducible rfl
  try go_frame
  refine held_pure (i := 4) (oi := ⟨some 10, _, _, _, _, _⟩) rfl (by kernel_rfl) (by kernel_rfl) (by kernel_rfl) (fun _ _ _ h => h) (by rfl) (fun w hSw => run_load_int rfl rfl ((hAt.below hSw (by omega)).dst)) hS (fun hS => ?_)
  try go_frame
  refine wpAnyH_ready (rs := [2]) (by kernel_rfl) (by simp) (AllReadyH.cons (o := ⟨some 8, _, _, _, _, _⟩) rfl (fun K hK => ?_) AllReadyH.nil)
  rw [if_pos (by rfl)]
  go_simp
  refine (rput_nil q.src 2 _).mono ?_
  rintro e w2 ⟨v2, rfl, m2⟩
  rw [H1.out] at m2
  obtain ⟨A2, c2, rfl, g2, o2, x2⟩ := made_shape m2
  show K _ _
  refine hK.out _ _ (below_step hS x2) (fun hS => ?_)
  clear hK K
  try go_frame
  refine wpAnyH_ready (rs := [5]) (by kernel_rfl) (by simp) (AllReadyH.cons (o := ⟨some 11, _, _, _, _, _⟩) rfl (fun K hK => ?_) AllReadyH.nil)
  rw [if_pos (by rfl)]
  go_simp
  refine (rput_any A2 L1 c2 _ q.dst 2 _ g2 (by omega)).mono ?_
  rintro e w5 ⟨v5, rfl, m5⟩
  rw [H2.out] at m5
  obtain ⟨A5, c5, rfl, g5, o5, x5⟩ := made_shape m5
  show K _ _
  refine hK.out _ _ (below_step hS x5) (fun hS => ?_)
  clear hK K
  try go_frame
  refine held_pure (i := 6) (oi := ⟨some 5, _, _, _, _, _⟩) rfl (by kernel_rfl) (by kernel_rfl) (by kernel_rfl) (fun _ _ _ h => h) (by rfl) (v := ?_) (fun w hSw => ?_) hS (fun hS => ?_)
  rotate_left
  · go_simp; try with_reducible rfl
  try go_frame
  refine wpAnyH_done (by kernel_rfl) ?_ _
  have k3 := (hAt.below hS (by omega)).dat
  go_upto_region 3 with (first
    | (go_at_call 75; ((with_reducible refine (rput_any A5 L2 c5 _ (8 + (q.dat.length : Int)) 2 _ g5 (by omega)).mono ?_); rintro e w6 ⟨v6, rfl, m6⟩; rw [H3.out] at m6; obtain ⟨A6, c6, rfl, g6, o6, x6⟩ := made_shape m6))
    | (go_at_call 75; ((with_reducible refine (rput_any A6 L3 c6 _ s 2 _ g6 (by omega)).mono ?_); rintro e w7 ⟨v7, rfl, m7⟩; rw [H4.out] at m7; obtain ⟨A7, c7, rfl, g7, o7, x7⟩ := made_shape m7)))
  have x57 : Below W.heap.size W w7 := hS.trans ((x6.trans (x7.mono x6.size)).mono hS.size)
  have k4 := (hAt.below x57 (by omega)).dat
  have hD7 := hD.below ((hB.trans (x57.mono (by omega))).mono hB0)
  clear k3
  go_wp2_with (at_builtin; refine append_rd rfl _ _ rfl w6.heap.size _ _ _ rfl o7 B A c q.dat rfl hD.none_ hD7.rd (by omega) x7.size ?_; intro v8 w8 own8 grow8)
  go_ret
  have own9 := own_base own8 (show w.heap.size ≤ w6.heap.size by have := x6.size; have := hS.size; omega)
  have x8 := (hB.trans (x57.mono (by omega))).grown grow8 (by have := x57.size; omega) (fun k hk => by have := own_block_ge o7 k hk; have := x6.size; have := hS.size; omega)
  obtain ⟨A8, c8, rfl, owm8⟩ := own_made (bs := bs) own9 (by rw [H5.out]; simp) (by rw [H5.out, row_append])
  exact ⟨_, rfl, Made.of_own owm8 x8⟩
end
end Go.Proofs.Ytkfbamippjhjcaa

/-
  Contracts of the document's Build of layer 7, and of udp's reader. Conditions are each theorem's own.
-/
namespace Go.Proofs.Ytkfbamippjhjcaa
open Go.RowKit

section
variable (q : PU) (A : Option Addr) (c : Nat) (src dst : Int) (w : World)
set_option maxRecDepth 100000 in
set_option maxHeartbeats 1000000 in
theorem rUbuild (B : Nat) (hD : Arg w B A c q.dat) (hB0 : B ≤ w.heap.size) (hl : q.dat.length ≤ 1000000) :
    Calls Try.prog 44 #[.int .i64 src, .int .i64 dst, usv q A c] w fun e w' => ∃ v, e = .returned (.tuple #[v, .int .i64 (chkU q)]) ∧ (chkU q ≠ 0 → v = .slice none 0 0 ∧ Below w.heap.size w w') ∧ (chkU q = 0 → Made w w' v (bldU src dst q)) := by
  have hB : Below w.heap.size w (w.alloc (.cells (usa q A c) 73)) := (Below.refl w.heap.size w).alloc (Nat.le_refl _) _
  have hAt := Atus.new (q := q) (A := A) (c := c) w
  have hz : w.heap.size < (w.alloc (.cells (usa q A c) 73)).heap.size := by simp
  rw [usv_eq]
  go_enter Try.func44, Try.ntmps44
  go_upto_region 1 with fail
  generalize w.alloc (.cells (usa q A c) 73) = W at *
  by_cases hc : chkU q = 0
  · obtain ⟨ha, hd⟩ := chkU_ok hc
    have HC := Lib.hid hc
    clear hc
    obtain ⟨B0, hb0⟩ : ∃ l, l = hdU q 0 ++ q.dat := ⟨_, rfl⟩
    have HB0 := Lib.hid hb0
    have lB : Hid (B0.length = 8 + q.dat.length) := Lib.hid (by rw [hb0, List.length_append, hdU_len])
    have HSM := Lib.hid (show smU src dst q = 65535 - fold (psum [psd src dst 17 (B0.length : Int), B0]) by rw [lB.out, hb0]; exact (smU_two src dst q).symm)
    clear hb0
    have bd := smU_bd src dst q
    have bk := ckU_bd src dst q
    have hD1 : ∀ X : World, Below W.heap.size W X → Arg X B A c q.dat := fun X hX => hD.below ((hB.trans (hX.mono (by omega))).mono hB0)
    go_upto_region 4 with (first
      | ((with_reducible show wpList _ _ _ (Oper.mk _ (Op.load 73 _) _ _ _ _ :: _) _ _); refine wpList_val rfl (run_load_us rfl rfl hAt rfl) ?_)
      | (go_at_call 68; refine (rUcheck q A c _ hl).mono ?_; rintro e w1 ⟨rfl, x1⟩; rw [HC.out]))
    have hAt1 := hAt.below x1 hz
    go_upto_region 5 with (first
      | ((with_reducible show wpList _ _ _ (Oper.mk _ (Op.load 73 _) _ _ _ _ :: _) _ _); refine wpList_val rfl (run_load_us rfl rfl hAt1 rfl) ?_)
      | (go_at_call 69; refine (rUbytes q A c _ B 0 B0 HB0 ha hd (by omega) (by omega) (hD1 _ x1) (by have := x1.size; omega)).mono ?_; rintro e w2 ⟨v2, rfl, m2⟩; obtain ⟨A2, c2, rfl, g2, o2, x2⟩ := made_shape m2))
    have x12 := x1.trans (x2.mono x1.size)
    have hAt2 := hAt.below x12 hz
    have k2 := hAt2.nosum
    cases hn : q.nosum
    · rw [hn] at k2
      have HN := Lib.hid hn
      clear hn
      go_upto_region 8 with (first
        | (go_at_call 70; refine (rpsd_any src dst 17 (B0.length : Int) _).mono ?_; rintro e w3 ⟨v3, rfl, m3⟩; obtain ⟨A3, c3, rfl, g3, o3, x3⟩ := made_shape m3)
        | (go_at_call 47; refine (rof_two (some ⟨w3.heap.size, 0, none⟩) (psd src dst 17 (B0.length : Int)) B0 2 (w3.heap.size + 1) (smU src dst q) HSM _ (Rd2.two rfl rfl (World.alloc_heap_new w3 _) (Nat.lt_succ_self _) ((g3.alloc (Nat.le_refl _) _).more (Nat.le_succ _)) (((g2.below x3).alloc x3.size _).more (by have := x3.size; omega))) (by rw [psd_len]; have := lB.out; omega)).mono ?_; rintro e w4 ⟨rfl, n4, rfl⟩))
      have x3a : Below W.heap.size W ((w3.alloc (.cells #[.slice A3 (psd src dst 17 (B0.length : Int)).length c3, .slice A2 B0.length c2] 24)).drewN n4) := below_drewN ((x12.trans (x3.mono x12.size)).alloc (by have := x12.size; have := x3.size; omega) _) _
      have hzz := x3a.size
      generalize (w3.alloc (.cells #[.slice A3 (psd src dst 17 (B0.length : Int)).length c3, .slice A2 B0.length c2] 24)).drewN n4 = W4 at *
      have hAt4 := hAt.below x3a hz
      obtain ⟨N, hN⟩ : ∃ n, n = smU src dst q := ⟨_, rfl⟩
      have HBL := Lib.hid (show bldU src dst q = hdU q (ckU src dst q) ++ q.dat from rfl)
      rw [← hN]
      have HNN := Lib.hid hN
      clear hN
      by_cases h0 : N = 0
      · have e0 : (N == 0) = true := by simpa using h0
        have HE := Lib.hid (show ckU src dst q = 65535 by rw [ckU, HN.out, ← HNN.out, if_pos h0]; rfl)
        rw [HE.out] at HBL
        clear h0
        go_wp2_with (first
          | ((with_reducible show wpList _ _ _ (Oper.mk _ (Op.load 73 _) _ _ _ _ :: _) _ _); refine wpList_val rfl (run_load_us rfl rfl hAt4 rfl) ?_)
          | (go_at_call 69; refine (rUbytes q A c _ B 65535 (bldU src dst q) HBL ha hd (by omega) (by omega) (hD1 _ x3a) (by omega)).mono ?_; rintro e w5 ⟨v5, rfl, m5⟩))
        go_ret2
        exact ⟨v5, by rw [HC.out]; rfl, fun h => absurd HC.out h, fun _ => m5.after (hB.trans (x3a.mono (by omega)))⟩
      · have e0 : (N == 0) = false := by simpa using h0
        have HE := Lib.hid (show ckU src dst q = N by rw [ckU, HN.out, ← HNN.out, if_neg h0]; rfl)
        rw [HE.out] at HBL bk
        clear h0
        go_wp2_with (first
          | ((with_reducible show wpList _ _ _ (Oper.mk _ (Op.load 73 _) _ _ _ _ :: _) _ _); refine wpList_val rfl (run_load_us rfl rfl hAt4 rfl) ?_)
          | (go_at_call 69; refine (rUbytes q A c _ B N (bldU src dst q) HBL ha hd bk.1 bk.2 (hD1 _ x3a) (by omega)).mono ?_; rintro e w5 ⟨v5, rfl, m5⟩))
        go_ret2
        exact ⟨v5, by rw [HC.out]; rfl, fun h => absurd HC.out h, fun _ => m5.after (hB.trans (x3a.mono (by omega)))⟩
    · rw [hn] at k2
      have HE := Lib.hid (show bldU src dst q = B0 by rw [bldU, ckU, hn, HB0.out]; rfl)
      clear hn
      go_wp2_with fail
      go_ret2
      exact ⟨.slice A2 B0.length c2, by rw [HC.out]; rfl, fun h => absurd HC.out h, fun _ => by rw [HE.out]; exact m2.after (hB.trans (x1.mono (by omega)))⟩
  · have hne : (chkU q != 0) = true := by simpa using hc
    have HN := Lib.hid hc
    clear hc
    go_wp2_with (first
      | ((with_reducible show wpList _ _ _ (Oper.mk _ (Op.load 73 _) _ _ _ _ :: _) _ _); refine wpList_val rfl (run_load_us rfl rfl hAt rfl) ?_)
      | (go_at_call 68; refine (rUcheck q A c _ hl).mono ?_; rintro e w1 ⟨rfl, x1⟩; skip))
    go_ret2
    exact ⟨.slice none 0 0, rfl, fun _ => ⟨rfl, hB.trans (x1.mono (by omega))⟩, fun h => absurd h HN.out⟩
end
/-- What a reader holds: its bytes, and where it is. -/
def RdrS (W : World) (g : Nat) (A : Option Addr) (n c : Nat) (k : Int) : Prop := W.heap[g]? = some (.cells #[.slice A n c] 24 (0, 0)) ∧ W.heap[g + 1]? = some (.cells #[.int .i64 k] 3 (0, 0))
end Go.Proofs.Ytkfbamippjhjcaa

/-
  Contract of udp.Parse. Conditions are each theorem's own.
-/
namespace Go.Proofs.Ytkfbamippjhjcaa
open Go.RowKit

theorem RdrS.alloc {w : World} {g n c : Nat} {A : Option Addr} {k : Int} (h : RdrS w g A n c k) (o : Obj) : RdrS (w.alloc o) g A n c k :=
  ⟨(Below.heap_alloc w o g (heap_lt h.1)).trans h.1, (Below.heap_alloc w o (g + 1) (heap_lt h.2)).trans h.2⟩
section
variable (b : List UInt8) (A : Option Addr) (c : Nat) (src dst : Int) (w : World)
end
end Go.Proofs.Ytkfbamippjhjcaa

/-
  Contract of the document's Parse of layer 7. Conditions are each theorem's own.
-/
namespace Go.Proofs.Ytkfbamippjhjcaa
open Go.RowKit

section
variable (b : List UInt8) (A : Option Addr) (c : Nat) (src dst : Int) (w : World)
end
end Go.Proofs.Ytkfbamippjhjcaa

/-
  Layer 7's awake, and what Build answers, in one shape. Conditions are each theorem's own.
-/
namespace Go.Proofs.Ytkfbamippjhjcaa
open Go.RowKit

def resU (src dst : Int) (q : PU) : List UInt8 := if chkU q = 0 then bldU src dst q else []
theorem resU_shape {src dst : Int} {q : PU} {w w' : World} {v : Value} (h : (chkU q ≠ 0 → v = .slice none 0 0 ∧ Below w.heap.size w w') ∧ (chkU q = 0 → Made w w' v (bldU src dst q))) :
    ∃ P k, v = .slice P (resU src dst q).length k ∧ Rd w' w'.heap.size P (resU src dst q) ∧ Below w.heap.size w w' := by
  by_cases hc : chkU q = 0
  · obtain ⟨A, c, rfl, hl, hr, ho, hb⟩ := h.2 hc
    exact ⟨A, c, by rw [resU, if_pos hc], by rw [resU, if_pos hc]; exact hr, hb⟩
  · obtain ⟨rfl, hb⟩ := h.1 hc
    exact ⟨none, 0, by rw [resU, if_neg hc]; rfl, by rw [resU, if_neg hc]; exact Rd.nil, hb⟩
def qaU : PU := ⟨3, 4, false, [5]⟩
end Go.Proofs.Ytkfbamippjhjcaa

/-
  Contracts of tcp's size, Check, numbers, buildHead, fresh. Conditions are each theorem's own.
-/
namespace Go.Proofs.Ytkfbamippjhjcaa
open Go.RowKit

theorem argT_iff (q : PT) : argT q ↔ (fitsB q.src 2 = true ∧ fitsB q.dst 2 = true ∧ fitsB q.win 2 = true ∧ fitsB q.urg 2 = true ∧ fitsB q.seq 4 = true ∧ fitsB q.ack 4 = true ∧ 0 ≤ q.res ∧ q.res < 16 ∧ fitsB q.flags 1 = true ∧ q.opt.length ≤ 40 ∧ q.opt.length % 4 = 0) := by
  rw [fitsB_iff, fitsB_iff, fitsB_iff, fitsB_iff, fitsB_iff, fitsB_iff, fitsB_iff, pw1, pw2, pw4, argT]; omega
section
variable (q : PT) (A : Option Addr) (c : Nat) (A' : Option Addr) (c' : Nat) (w : World)
def numsT (q : PT) : List Int := [q.src, q.dst, q.seq, q.ack, q.res, q.flags, q.win, q.urg]
end
section
variable (q : PT) (A : Option Addr) (c : Nat) (A' : Option Addr) (c' : Nat) (w : World)
end
end Go.Proofs.Ytkfbamippjhjcaa

/-
  Contracts of layer 8's Same, the program's and the document's; of the document's Check. Conditions are each theorem's own.
-/
namespace Go.Proofs.Ytkfbamippjhjcaa
open Go.RowKit

theorem sameT_nums (q r : PT) : sameT q r = (decide (numsT q = numsT r) && decide (q.opt = r.opt) && decide (q.dat = r.dat)) := by
  rw [sameT, Bool.eq_iff_iff]; simp [numsT, and_assoc]
section
variable (q r : PT) (A : Option Addr) (c : Nat) (A' : Option Addr) (c' : Nat) (X : Option Addr) (d : Nat) (X' : Option Addr) (d' B : Nat) (w : World)
end
def twoB (q : PT) : Bool := fitsB q.src 2 && fitsB q.dst 2 && fitsB q.win 2 && fitsB q.urg 2
def fourB (q : PT) : Bool := fitsB q.seq 4 && fitsB q.ack 4 && fitsB q.flags 1 && decide (0 ≤ q.res) && decide (q.res ≤ 15)
theorem argT_two (q : PT) : argT q ↔ (twoB q = true ∧ fourB q = true ∧ q.opt.length ≤ 40 ∧ q.opt.length % 4 = 0) := by
  rw [argT_iff]
  simp only [twoB, fourB, Bool.and_eq_true, decide_eq_true_eq]
  constructor
  · rintro ⟨h0, h1, h2, h3, h4, h5, h6, h7, h8, h9, h10⟩; exact ⟨⟨⟨⟨h0, h1⟩, h2⟩, h3⟩, ⟨⟨⟨⟨h4, h5⟩, h8⟩, h6⟩, by omega⟩, h9, h10⟩
  · rintro ⟨⟨⟨⟨h0, h1⟩, h2⟩, h3⟩, ⟨⟨⟨⟨h4, h5⟩, h8⟩, h6⟩, h7⟩, h9, h10⟩; exact ⟨h0, h1, h2, h3, h4, h5, h6, by omega, h8, h9, h10⟩
section
variable (q : PT) (A : Option Addr) (c : Nat) (A' : Option Addr) (c' : Nat) (w : World)
end
end Go.Proofs.Ytkfbamippjhjcaa

/-
  Contracts of slices.Grow at nil, and of slices.Concat, over bytes. Conditions are each theorem's own.
-/
namespace Go.Proofs.Ytkfbamippjhjcaa
open Go.RowKit

theorem flatten_take (ps : List (List UInt8)) {k : Nat} {bs : List UInt8} (h : ps[k]? = some bs) : (ps.take (k + 1)).flatten = (ps.take k).flatten ++ bs := by
  rw [List.take_add_one, h]; simp
theorem bulk_flatten (ps : List (List UInt8)) : ps.flatten.length = bulk ps := by simp [bulk, List.length_flatten]
end Go.Proofs.Ytkfbamippjhjcaa

/-
  The struct api.ICMP as data: its cells, its value, a block that holds one. Conditions are each theorem's own.
-/
namespace Go.Proofs.Ytkfbamippjhjcaa
open Go.RowKit Go.ChangeShapes Go.WideShapes

structure PI where
  typ : Int
  code : Int
  rest : Int
  dat : List UInt8
def isz : PI := ⟨0, 0, 0, []⟩
/-- Its cells. -/
def isa (q : PI) (A : Option Addr) (c : Nat) : Array Value := #[.int .i64 q.typ, .int .i64 q.code, .int .i64 q.rest, .slice A q.dat.length c]
def isv (q : PI) (A : Option Addr) (c : Nat) : Value := .agg #[.int .i64 q.typ, .int .i64 q.code, .int .i64 q.rest, .slice A q.dat.length c]
theorem isv_eq (q : PI) (A : Option Addr) (c : Nat) : isv q A c = .agg (isa q A c) := rfl
def PI.fits (q : PI) : Prop := ∀ n ∈ [q.typ, q.code, q.rest], (Lit.int .i64 n).wf = true
theorem isa_size (q : PI) (A : Option Addr) (c : Nat) : (isa q A c).size = 4 := rfl
theorem is_one (q : PI) (A : Option Addr) (c : Nat) : (isa q A c).all (·.oneCell') = true := by simp [isa, Value.oneCell']
section
variable {H : Type} {enc : TypeId × Value → H} {w : World} {base : Nat} {v : Value} {d : DataW H} {p : List MemPlace}
set_option maxRecDepth 100000 in
theorem get_is (hv : Value.okWide Try.prog w .any base 44 v) (h : DataW.Trod enc Try.prog w 0 (fun _ => true) true 44 v d p) :
    ∃ q A c, v = isv q A c ∧ Arg w w.heap.size A c q.dat ∧ c ≤ maxLen ∧ q.fits := by
  obtain ⟨cs, rfl, hcs⟩ : ∃ cs, v = .agg cs ∧ cs.size = Try.prog.cellsOf 44 := by
    have := hv
    simp only [Value.okWide, Try.underlying44] at this
    obtain ⟨cs, h1, h2, _⟩ := this
    exact ⟨cs, h1, h2⟩
  obtain ⟨fuel, hf⟩ := h
  obtain ⟨xs, n, _, _, hl, hxs, hall⟩ := DataW.trod_struct Try.underlying44 hf
  have hci : Try.prog.cellsOf 3 = 1 := by kernel_rfl
  have hcy : Try.prog.cellsOf 24 = 1 := by kernel_rfl
  have hcu : Try.prog.cellsOf 5 = 1 := by kernel_rfl
  have hcn : Try.prog.cellsOf 44 = 4 := by kernel_rfl
  obtain ⟨l⟩ := cs
  have hl' : l.length = 4 := by rw [← hcn]; exact hl
  have hall' : ∀ (i : Nat) (f : Field), _ → DataW.trod enc Try.prog w 0 (fun _ => true) true n f.type ((l.drop f.offset).take (Try.prog.cellsOf f.type)) = xs[i]? := hall
  match xs, hxs with
  | [y0, y1, y2, y3], _ =>
    have h0 : DataW.trod enc Try.prog w 0 (fun _ => true) true n 3 ((l.drop 0).take (Try.prog.cellsOf 3)) = some y0 := hall' 0 _ rfl
    rw [hci] at h0
    obtain ⟨a0, e0, f0⟩ := cell_int Try.underlying3 h0
    have h1 : DataW.trod enc Try.prog w 0 (fun _ => true) true n 3 ((l.drop 1).take (Try.prog.cellsOf 3)) = some y1 := hall' 1 _ rfl
    rw [hci] at h1
    obtain ⟨a1, e1, f1⟩ := cell_int Try.underlying3 h1
    have h2 : DataW.trod enc Try.prog w 0 (fun _ => true) true n 3 ((l.drop 2).take (Try.prog.cellsOf 3)) = some y2 := hall' 2 _ rfl
    rw [hci] at h2
    obtain ⟨a2, e2, f2⟩ := cell_int Try.underlying3 h2
    have h3 : DataW.trod enc Try.prog w 0 (fun _ => true) true n 24 ((l.drop 3).take (Try.prog.cellsOf 24)) = some y3 := hall' 3 _ rfl
    rw [hcy] at h3
    obtain ⟨A3, c3, a3, e3, f3, g3⟩ := cell_bytes Try.underlying24 Try.underlying5 hcu h3
    have k0 := piece_get e0
    have k1 := piece_get e1
    have k2 := piece_get e2
    have k3 := piece_get e3
    have el : l = [.int .i64 a0, .int .i64 a1, .int .i64 a2, .slice A3 a3.length c3] := by
      match l, hl' with
      | [x0, x1, x2, x3], _ => simp at k0 k1 k2 k3; simp [k0, k1, k2, k3]
    refine ⟨⟨a0, a1, a2, a3⟩, A3, c3, by rw [el]; rfl, f3, g3, ?_⟩
    intro m hm
    simp only [List.mem_cons, List.not_mem_nil, or_false] at hm
    rcases hm with rfl | rfl | rfl <;> assumption
end
/-- It lies in a block of its own. -/
def Atis (W : World) (g : Nat) (q : PI) (A : Option Addr) (c : Nat) : Prop := W.rangeAt g 0 (isa q A c).toList
section
variable {W : World} {g : Nat} {q : PI} {A : Option Addr} {c : Nat}
theorem Atis.new (w : World) : Atis (w.alloc (.cells (isa q A c) 44)) w.heap.size q A c := fun j v hj => by
  rw [Nat.zero_add, World.cell?_alloc_new, ← hj, Array.getElem?_toList]
theorem Atis.of_heap {t : TypeId} {fr : Nat × Nat} (h : W.heap[g]? = some (.cells (isa q A c) t fr)) : Atis W g q A c := fun j v hj => by
  rw [cell_of_row W g (0 + j) _ _ _ h, Nat.zero_add, ← Array.getElem?_toList]; exact hj
theorem Atis.below {w : World} {B : Nat} (h : Atis W g q A c) (hb : Below B W w) (hg : g < B) : Atis w g q A c := range_below h hg hb
theorem Atis.typ (h : Atis W g q A c) : W.cell? ⟨g, 0, none⟩ = some (.int .i64 q.typ) := h 0 _ rfl
theorem Atis.code (h : Atis W g q A c) : W.cell? ⟨g, 1, none⟩ = some (.int .i64 q.code) := h 1 _ rfl
theorem Atis.rest (h : Atis W g q A c) : W.cell? ⟨g, 2, none⟩ = some (.int .i64 q.rest) := h 2 _ rfl
theorem Atis.dat (h : Atis W g q A c) : W.cell? ⟨g, 3, none⟩ = some (.slice A q.dat.length c) := h 3 _ rfl
end
theorem run_load_is {o : Oper} {a : Act} {w : World} {x : Operand} {g : Nat} {cs : List Value} (ho : o.op = .load 44 x) (hx : a.eval x = .pointer (some ⟨g, 0, none⟩)) (hr : w.rangeAt g 0 cs) (hl : cs.length = 4) :
    (execOp a.eval o).run Try.prog w = .ok (.value (.agg cs.toArray)) w := by
  have h := run_loadVar_mid (P := Try.prog) w g 0 44 cs _ hr Try.underlying44 rfl (by rw [hl]; kernel_rfl)
  unfold execOp
  simp only [ho, hx, Instr.loadAt, Instr.sureAddr, Sem.run_bind, Sem.run_pure, Result.andThen_ok, h]
theorem is_store {ops : Array Oper} {rest : List Oper} {x y : Operand} {ty : TypeId} {pos : String} {af : Array Edge} {a : Act} {w : World} {Q : Exit → Act → World → Prop}
    {g : Nat} {t : TypeId} {cs old : Array Value} (hx : a.eval x = .pointer (some ⟨g, 0, none⟩)) (hy : a.eval y = .agg cs) (hg : w.heap[g]? = some (.cells old t (0, 0))) (ho : old.size = 4) (hl : cs.size = 4) (h1 : cs.all (·.oneCell') = true)
    (h : wpList Try.prog ops Q rest (a.put none undef) (w.setRow g cs)) : wpList Try.prog ops Q (⟨none, .store 44 x y, ty, pos, af, none⟩ :: rest) a w :=
  wpList_plain rfl fun _ hK => wp_store_row 44 x y rfl g cs hx hy t old hg (by rw [hl]; kernel_rfl) (by rw [ho, hl]) h1 (hK _ _ h)
theorem is_store_new {ops : Array Oper} {rest : List Oper} {x y : Operand} {ty : TypeId} {pos : String} {af : Array Edge} {a : Act} {w : World} {Q : Exit → Act → World → Prop}
    {t : TypeId} {cs old : Array Value} (hx : a.eval x = .pointer (some ⟨w.heap.size, 0, none⟩)) (hy : a.eval y = .agg cs) (ho : old.size = 4) (hl : cs.size = 4) (h1 : cs.all (·.oneCell') = true)
    (h : wpList Try.prog ops Q rest (a.put none undef) (w.alloc (.cells cs t))) : wpList Try.prog ops Q (⟨none, .store 44 x y, ty, pos, af, none⟩ :: rest) a (w.alloc (.cells old t)) :=
  is_store hx hy (World.alloc_heap_new w _) ho hl h1 (by rw [World.setRow_alloc_new]; exact h)
theorem is_result {fn : Func} {p : Tmp} {tmps : Array Value} {w : World} {g : Nat} {t : TypeId} {cs : Array Value} {fr : Nat × Nat} (h : fn.results = #[.cell p 44])
    (hp : tmps.getD p undef = .pointer (some ⟨g, 0, none⟩)) (hg : w.heap[g]? = some (.cells cs t fr)) (hl : cs.size = 4) : (results fn tmps).run Try.prog w = .ok (.agg cs) w :=
  results_cell_row h tmps w g t cs fr _ hp hg Try.underlying44 rfl (by rw [hl]; kernel_rfl)
theorem is_load_run {w : World} {g : Nat} {t : TypeId} {cs : Array Value} {fr : Nat × Nat} (hg : w.heap[g]? = some (.cells cs t fr)) (hl : cs.size = 4) : (loadVar 44 ⟨g, 0, none⟩).run Try.prog w = .ok (.agg cs) w :=
  run_loadVar_row w g t 44 cs fr _ hg Try.underlying44 rfl (by rw [hl]; kernel_rfl)
end Go.Proofs.Ytkfbamippjhjcaa

/-
  Messages of ICMP in plain lists of bytes: what may be, its bytes, what bytes are; of both layers (a sum that is of other bytes, too). No program. Conditions are each theorem's own.
-/
namespace Go.Proofs.Ytkfbamippjhjcaa
open Go.RowKit

def argI (q : PI) : Prop := 0 ≤ q.typ ∧ q.typ ≤ 255 ∧ 0 ≤ q.code ∧ q.code ≤ 255 ∧ 0 ≤ q.rest ∧ q.rest < 4294967296
instance (q : PI) : Decidable (argI q) := by unfold argI; infer_instance
def chkI (q : PI) : Int := if argI q then (if q.dat.length > 65527 then 6 else 0) else 1
theorem chkI_ok {q : PI} (h : chkI q = 0) : argI q ∧ q.dat.length ≤ 65527 := by
  unfold chkI at h
  split at h
  · rename_i ha
    split at h
    · cases h
    · exact ⟨ha, by omega⟩
  · cases h
theorem argI_iff (q : PI) : argI q ↔ (fitsB q.typ 1 = true ∧ fitsB q.code 1 = true ∧ fitsB q.rest 4 = true) := by
  rw [fitsB_iff, fitsB_iff, fitsB_iff, pw1, pw4, argI]; omega
/-- A head. -/
def hdI (q : PI) (s : Int) : List UInt8 := [u8 q.typ, u8 q.code] ++ be2 s ++ be4 q.rest
theorem hdI_len (q : PI) (s : Int) : (hdI q s).length = 8 := by simp [hdI, be2, be4]
/-- The sum of a message and of other bytes. -/
def smI (p : List UInt8) (q : PI) : Int := 65535 - fold (psum [p, hdI q 0, q.dat])
theorem smI_bd (p : List UInt8) (q : PI) : 0 ≤ smI p q ∧ smI p q ≤ 65535 := by
  have := fold_bd (psum [p, hdI q 0, q.dat]); unfold smI; omega
def bldI (p : List UInt8) (q : PI) : List UInt8 := hdI q (smI p q) ++ q.dat
theorem bldI_len (p : List UInt8) (q : PI) : (bldI p q).length = 8 + q.dat.length := by rw [bldI, List.length_append, hdI_len]
/-- What is wrong with bytes; nothing: 0. -/
def badI (p b : List UInt8) : Int := if b.length < 8 then 3 else if b.length > 65535 then 6 else if rightB [p, b] = false then 5 else 0
def rawI (b : List UInt8) : PI := ⟨byt b 0, byt b 1, n4 b 4, b.drop 8⟩
def prsI (p b : List UInt8) : PI := if badI p b = 0 then rawI b else isz
/-- Are two the same? -/
def sameI (q r : PI) : Bool := (q.typ == r.typ) && (q.code == r.code) && (q.rest == r.rest) && decide (q.dat = r.dat)
theorem sameI_iff {q r : PI} : sameI q r = true ↔ q = r := by
  obtain ⟨a0, a1, a2, a3⟩ := q
  obtain ⟨b0, b1, b2, b3⟩ := r
  simp only [sameI, Bool.and_eq_true, beq_iff_eq, decide_eq_true_eq, PI.mk.injEq]
  constructor
  · rintro ⟨⟨⟨h0, h1⟩, h2⟩, h3⟩; exact ⟨h0, h1, h2, h3⟩
  · rintro ⟨h0, h1, h2, h3⟩; exact ⟨⟨⟨h0, h1⟩, h2⟩, h3⟩
theorem psum_nil (l : List (List UInt8)) : psum ([] :: l) = psum l := by rw [psum_cons]; simp [wall, prs, wsum]
theorem rightB_nil (b : List UInt8) : rightB [[], b] = rightB [b] := by rw [rightB, rightB, psum_nil]
theorem psum_glueI (p : List UInt8) (q : PI) (s : Int) : psum [p, hdI q s, q.dat] = psum [p, hdI q s ++ q.dat] := psum_glue _ _ _ (m := 4) (hdI_len q s)
theorem smI_two (p : List UInt8) (q : PI) : smI p q = 65535 - fold (psum [p, hdI q 0 ++ q.dat]) := by rw [smI, psum_glueI]
theorem smI_one (q : PI) : smI [] q = 65535 - fold (psum [hdI q 0 ++ q.dat]) := by rw [smI_two, psum_nil]
theorem smI_nil (q : PI) : smI [] q = 65535 - fold (psum [hdI q 0, q.dat]) := by rw [smI, psum_nil]
theorem hdI_wall (q : PI) {s : Int} (h0 : 0 ≤ s) (h1 : s ≤ 65535) : wall (hdI q s) = wall (hdI q 0) + s := by
  have z : ∀ n : Int, 0 ≤ n → n ≤ 65535 → wall (hdI q n) = wall [u8 q.typ, u8 q.code] + n + wall (be4 q.rest) := fun n a b => by
    rw [hdI, wall_append (m := 2) (by simp [be2]), wall_append (m := 1) (by simp), be2_wall a b]
  rw [z s h0 h1, z 0 (by omega) (by omega)]; omega
/-- What is built is right. -/
theorem bldI_right (p : List UInt8) (q : PI) : rightB [p, bldI p q] = true := by
  have e : psum [p, bldI p q] = psum [p, hdI q 0, q.dat] + smI p q := by
    rw [bldI, ← psum_glueI]
    simp only [psum_cons]
    rw [hdI_wall q (smI_bd p q).1 (smI_bd p q).2]; omega
  have hs : smI p q = 65535 - fold (psum [p, hdI q 0, q.dat]) := rfl
  rw [rightB, e, right_of (psum_nn _) hs]; rfl
theorem backI {p : List UInt8} {q : PI} (h : chkI q = 0) : badI p (bldI p q) = 0 ∧ prsI p (bldI p q) = q := by
  obtain ⟨⟨a1, a2, a3, a4, a5, a6⟩, hl⟩ := chkI_ok h
  have hlen := bldI_len p q
  have f0 : byt (bldI p q) 0 = q.typ := by
    have e : byt (bldI p q) 0 = q.typ % 256 := u8_val q.typ
    omega
  have f1 : byt (bldI p q) 1 = q.code := by
    have e : byt (bldI p q) 1 = q.code % 256 := u8_val q.code
    omega
  have f4 : n4 (bldI p q) 4 = q.rest := by
    rw [bldI, hdI, List.append_assoc]; exact n4_be4 (a := [u8 q.typ, u8 q.code] ++ be2 (smI p q)) a5 a6 rfl
  have hb : badI p (bldI p q) = 0 := by
    unfold badI
    rw [if_neg (by omega), if_neg (by omega), if_neg (by rw [bldI_right]; simp)]
  refine ⟨hb, ?_⟩
  rw [prsI, if_pos hb, rawI, f0, f1, f4]
  have hd : (bldI p q).drop 8 = q.dat := by rw [bldI, List.drop_left' (hdI_len q _)]
  rw [hd]
/-- What is answered beside an error. -/
def resI (p : List UInt8) (q : PI) : List UInt8 := if chkI q = 0 then bldI p q else []
/-- A sum set in its place. -/
theorem setI (q : PI) (t s : Int) (d : List UInt8) (h0 : 0 ≤ s) (h1 : s ≤ 65535) : setB (hdI q t ++ d) 2 s 2 = hdI q s ++ d := by
  rw [setB, if_pos ⟨fitsB_iff.2 ⟨by omega, by omega, h0, by simp [pw]; omega⟩, by omega, by rw [List.length_append, hdI_len]; omega⟩]
  have e : digs s (2 : Int).toNat = be2 s := digs_two h0
  rw [e, show (2 : Int).toNat = 2 from rfl, hdI, List.append_assoc, List.append_assoc, splice_mid _ _ _ 2 rfl, hdI]
  simp [be2]
/-- What a message's sum is of, too, between two addresses. -/
def psJ (src dst : List UInt8) (next size : Int) : List UInt8 := src ++ dst ++ be4 size ++ [u8 0, u8 0, u8 0, u8 next]
theorem psJ_len {src dst : List UInt8} (next size : Int) (h1 : src.length = 16) (h2 : dst.length = 16) : (psJ src dst next size).length = 40 := by simp [psJ, be4, h1, h2]
def preJ (src dst b : List UInt8) : List UInt8 := psJ src dst 58 (b.length : Int)
/-- A message's bytes between two addresses. -/
def bldJ (src dst : List UInt8) (q : PI) : List UInt8 := bldI (psJ src dst 58 (8 + (q.dat.length : Int))) q
theorem bldJ_len (src dst : List UInt8) (q : PI) : (bldJ src dst q).length = 8 + q.dat.length := bldI_len _ q
theorem preJ_bld (src dst : List UInt8) (q : PI) : preJ src dst (bldJ src dst q) = psJ src dst 58 (8 + (q.dat.length : Int)) := by rw [preJ, bldJ_len]; simp
theorem backJ {src dst : List UInt8} {q : PI} (h : chkI q = 0) : badI (preJ src dst (bldJ src dst q)) (bldJ src dst q) = 0 ∧ prsI (preJ src dst (bldJ src dst q)) (bldJ src dst q) = q := by
  rw [preJ_bld]; exact backI h
/-- Which kinds tell of a fault, which ask. -/
def fltI (k : Int) : Bool := decide (k ∈ [3, 4, 5, 11, 12])
def qryI (k : Int) : Bool := decide (k ∈ [8, 0])
def fltJ (k : Int) : Bool := decide (1 ≤ k ∧ k ≤ 127)
theorem fltqry (k : Int) : (fltI k && qryI k) = false := by
  cases h : fltI k
  · rfl
  · cases h2 : qryI k
    · rfl
    · simp [fltI] at h; simp [qryI] at h2; omega
/-- A message's identifier, and the message with another one. -/
def idI (q : PI) : Int := q.rest / 65536 % 65536
def wdI (q : PI) (id : Int) : PI := ⟨q.typ, q.code, id % 65536 * 65536 + q.rest % 65536, q.dat⟩
end Go.Proofs.Ytkfbamippjhjcaa

/-
  Contracts of the document's plain answers of layer 3, the kinds of addresses: Host, Private. Conditions are each theorem's own.
-/
namespace Go.Proofs.Ytkfbamippjhjcaa
open Go.RowKit

/-- Is it an address of a host? A plain definition. -/
def hostB (a : Int) : Bool := decide (16777216 ≤ a ∧ a < 3758096384 ∧ ¬ (2130706432 ≤ a ∧ a < 2147483648))
/-- Is it a private one? A plain definition. -/
def privB (a : Int) : Bool := decide ((167772160 ≤ a ∧ a ≤ 184549375) ∨ (2886729728 ≤ a ∧ a ≤ 2887778303) ∨ (3232235520 ≤ a ∧ a ≤ 3232301055))

theorem r3host (a : Int) (w : World) : Calls Try.prog 93 #[.int .i64 a] w fun e w' => e = .returned (.bool (hostB a)) ∧ w = w' := by
  by_cases h : 16777216 ≤ a
  · obtain ⟨n, rfl⟩ := Int.eq_ofNat_of_zero_le (show 0 ≤ a by omega)
    by_cases h2 : (n : Int) < 3758096384
    · by_cases h3 : n / 16777216 = 127
      · have t3 : (((n / 16777216 : Nat) : Int) != 127) = false := by simp [h3]
        go_enter Try.func93, Try.ntmps93
        go_wp2
        go_ret
        exact ⟨ret_bool (by rw [Bool.eq_iff_iff]; simp [hostB]; omega), rfl⟩
      · have t3 : (((n / 16777216 : Nat) : Int) != 127) = true := by simp; omega
        go_enter Try.func93, Try.ntmps93
        go_wp2
        go_ret
        exact ⟨ret_bool (by rw [Bool.eq_iff_iff]; simp [hostB]; omega), rfl⟩
    · have hd : decide ((n : Int) < 3758096384) = false := by simp; omega
      go_enter Try.func93, Try.ntmps93
      go_wp2
      go_ret
      exact ⟨ret_bool (by rw [Bool.eq_iff_iff]; simp [hostB]; omega), rfl⟩
  · have hd : decide (16777216 ≤ a) = false := by simp; omega
    go_enter Try.func93, Try.ntmps93
    go_wp2
    go_ret
    exact ⟨ret_bool (by rw [Bool.eq_iff_iff]; simp [hostB]; omega), rfl⟩

end Go.Proofs.Ytkfbamippjhjcaa

/-
  Layer 28 in plain lists of bytes: whether a fault may be told, and what is told. No program. Conditions are each theorem's own.
-/
namespace Go.Proofs.Ytkfbamippjhjcaa
open Go.RowKit
/-- A message begins with another kind than a fault's. -/
def tnE (b : List UInt8) : Bool := decide (0 < b.length) && !fltI (byt b 0)
def okE (E : Int) (q : P4) : Bool := (E == 0) && (q.off == 0) && hostB q.src && hostB q.dst && ((q.proto != 1) || tnE q.dat)
def mayE (b : List UInt8) : Bool := okE (prsE b true) (prsV b true)
/-- How many bytes are quoted, the message, the packet that tells. -/
def nE (b : List UInt8) : Nat := min (size4 (prsV b true)).toNat 548
def msE (kind code rest : Int) (b : List UInt8) : PI := ⟨kind, code, rest, b.take (nE b)⟩
def pkE (from_ : Int) (b : List UInt8) (m : PI) : P4 := ⟨0, 0, 0, 64, 1, from_, (prsV b true).src, false, false, [], bldI [] m⟩
def mkE (from_ kind code rest : Int) (b : List UInt8) : Int :=
  if mayE b = true then (if chkI (msE kind code rest b) = 0 then (if chk4 (pkE from_ b (msE kind code rest b)) = 0 then 0 else 1) else 1) else 11
def mkV (from_ kind code rest : Int) (b : List UInt8) : P4 := if mkE from_ kind code rest b = 0 then pkE from_ b (msE kind code rest b) else p4z
theorem head4_pos (q : P4) : 20 ≤ head4 q := by unfold head4; omega
theorem raw_off (b : List UInt8) : 0 ≤ (prsV b true).off := by
  unfold prsV
  split
  · show 0 ≤ n2 b 6 % 8192 * 8
    omega
  · exact Int.le_refl _
theorem raw_len {b : List UInt8} (h : prsE b true = 0) : 20 ≤ size4 (prsV b true) ∧ size4 (prsV b true) ≤ (b.length : Int) ∧ (prsV b true).opt.length ≤ b.length ∧ (prsV b true).dat.length ≤ b.length := by
  have hb : bad4 b true = 0 := by
    unfold prsE at h
    split at h
    · assumption
    · exact h
  have hv : prsV b true = raw4 b := by rw [prsV, if_pos h]
  rw [hv]
  unfold bad4 at hb
  split at hb
  · cases hb
  split at hb
  · cases hb
  split at hb
  · cases hb
  split at hb
  · cases hb
  rename_i h1 h2 h3 h4
  have ho : (raw4 b).opt.length = (hlen b).toNat - 20 := by
    show ((b.take (hlen b).toNat).drop 20).length = _
    rw [List.length_drop, List.length_take]
    omega
  have hd : (raw4 b).dat.length = (min (n2 b 2) (b.length : Int)).toNat - (hlen b).toNat := by
    show ((b.take (min (n2 b 2) (b.length : Int)).toNat).drop (hlen b).toNat).length = _
    rw [List.length_drop, List.length_take]
    omega
  have hs : size4 (raw4 b) = 20 + ((raw4 b).opt.length : Int) + ((raw4 b).dat.length : Int) := by
    unfold size4 head4
    omega
  omega
theorem raw_small {b : List UInt8} : (prsV b true).opt.length ≤ b.length ∧ (prsV b true).dat.length ≤ b.length := by
  by_cases h : prsE b true = 0
  · exact (raw_len h).2.2
  · rw [prsV, if_neg h]; exact ⟨Nat.zero_le _, Nat.zero_le _⟩
theorem may_ok {b : List UInt8} (h : mayE b = true) : prsE b true = 0 := by
  unfold mayE okE at h
  simp only [Bool.and_eq_true, beq_iff_eq] at h
  exact h.1.1.1.1
theorem mkE_may {a k c r : Int} {b : List UInt8} (h : mkE a k c r b = 0) : mayE b = true ∧ chkI (msE k c r b) = 0 ∧ chk4 (pkE a b (msE k c r b)) = 0 := by
  unfold mkE at h
  split at h
  · split at h
    · split at h
      · exact ⟨by assumption, by assumption, by assumption⟩
      · cases h
    · cases h
  · cases h
theorem nE_le {b : List UInt8} (h : mayE b = true) : nE b ≤ b.length := by
  have := raw_len (may_ok h)
  unfold nE
  omega
end Go.Proofs.Ytkfbamippjhjcaa
