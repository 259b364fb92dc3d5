/-
  Contracts and lemmas on which the proofs of this seat stand (several texts in one). Conditions are each theorem's own.
-/
import Derived.Test.YtpoigngpdcmipaaNc3
import Derived.Lib.AppendZerosOnto
import Derived.Lib.Walk
import Derived.Lib.SliceRun
import Derived.Test.YtpoigngpdcmipaaNc2
import Derived.WalkMore
import Derived.Great.BuildSlice
import Derived.OwnWalkIn

/-
  Datagrams of UDP in plain lists of bytes: what may be, its bytes, what bytes are. No program. Conditions are each theorem's own.
-/
namespace Go.Proofs.Ytpoigngpdcmipaa
open Go.RowKit

/-- What is told of a number in so many bytes. -/
def msk (ps : List (Int × Int)) : List (Int × Int) := ps.map fun x => (x.1 % pw x.2.toNat, x.2)
theorem msk_len (ps : List (Int × Int)) : (msk ps).length = ps.length := by simp [msk]
theorem msk_get {ps : List (Int × Int)} {k : Nat} {x : Int × Int} (h : ps[k]? = some x) : (msk ps)[k]? = some (x.1 % pw x.2.toNat, x.2) := by simp [msk, h]
theorem be2_mod (n : Int) : be2 (n % 65536) = be2 n := by
  have e : ∀ a b : Int, a % 256 = b % 256 → u8 a = u8 b := fun a b h => by apply UInt8.toNat_inj.1; have h1 := u8_val a; have h2 := u8_val b; omega
  unfold be2
  rw [e (n % 65536 / 256) (n / 256) (by omega), e (n % 65536) n (by omega)]
theorem be4_mod (n : Int) : be4 (n % 4294967296) = be4 n := by
  have e : ∀ a b : Int, a % 256 = b % 256 → u8 a = u8 b := fun a b h => by apply UInt8.toNat_inj.1; have h1 := u8_val a; have h2 := u8_val b; omega
  unfold be4
  rw [e (n % 4294967296 / 16777216) (n / 16777216) (by omega), e (n % 4294967296 / 65536) (n / 65536) (by omega), e (n % 4294967296 / 256) (n / 256) (by omega), e (n % 4294967296) n (by omega)]
theorem u8_mod (n : Int) : u8 (n % 256) = u8 n := by apply UInt8.toNat_inj.1; have h1 := u8_val (n % 256); have h2 := u8_val n; omega
theorem pw1 : pw (1 : Int).toNat = 256 := rfl
theorem pw2 : pw (2 : Int).toNat = 65536 := rfl
theorem pw4 : pw (4 : Int).toNat = 4294967296 := rfl
theorem putm_one (bs : List UInt8) (n : Int) : putB bs (n % 256) 1 = bs ++ [u8 n] := by rw [put_one (by omega) (by omega), u8_mod]
theorem putm_two (bs : List UInt8) (n : Int) : putB bs (n % 65536) 2 = bs ++ be2 n := by rw [put_two (by omega) (by omega), be2_mod]
theorem putm_four (bs : List UInt8) (n : Int) : putB bs (n % 4294967296) 4 = bs ++ be4 n := by rw [put_four (by omega) (by omega), be4_mod]
/-- What a sum is of, too. -/
def psd (src dst proto size : Int) : List UInt8 := be4 src ++ be4 dst ++ [u8 0] ++ [u8 proto] ++ be2 size
theorem psd_len (src dst proto size : Int) : (psd src dst proto size).length = 12 := by simp [psd, be4, be2]
theorem putL_psd (src dst proto size : Int) : putL (msk [(src, 4), (dst, 4), (0, 1), (proto, 1), (size, 2)]) = psd src dst proto size := by
  simp only [msk, List.map, putL, List.foldl_cons, List.foldl_nil, pw1, pw2, pw4]
  rw [putm_four, putm_four, putm_one, putm_one, putm_two]; rfl
/-- A head. -/
def hdU (q : PU) (s : Int) : List UInt8 := be2 q.src ++ be2 q.dst ++ be2 (8 + (q.dat.length : Int)) ++ be2 s
theorem hdU_len (q : PU) (s : Int) : (hdU q s).length = 8 := by simp [hdU, be2]
theorem putL_hdU (q : PU) (s : Int) : putL (msk [(q.src, 2), (q.dst, 2), (8 + (q.dat.length : Int), 2), (s, 2)]) = hdU q s := by
  simp only [msk, List.map, putL, List.foldl_cons, List.foldl_nil, pw2]
  rw [putm_two, putm_two, putm_two, putm_two]; rfl
/-- The sum, and what stands in its place. -/
def smU (src dst : Int) (q : PU) : Int := 65535 - fold (psum [psd src dst 17 (8 + (q.dat.length : Int)), hdU q 0, q.dat])
theorem smU_bd (src dst : Int) (q : PU) : 0 ≤ smU src dst q ∧ smU src dst q ≤ 65535 := by
  have := fold_bd (psum [psd src dst 17 (8 + (q.dat.length : Int)), hdU q 0, q.dat]); unfold smU; omega
def ckU (src dst : Int) (q : PU) : Int := if q.nosum then 0 else if smU src dst q = 0 then 65535 else smU src dst q
theorem ckU_bd (src dst : Int) (q : PU) : 0 ≤ ckU src dst q ∧ ckU src dst q ≤ 65535 := by
  have := smU_bd src dst q; unfold ckU; split
  · omega
  · split <;> omega
def bldU (src dst : Int) (q : PU) : List UInt8 := hdU q (ckU src dst q) ++ q.dat
theorem bldU_len (src dst : Int) (q : PU) : (bldU src dst q).length = 8 + q.dat.length := by rw [bldU, List.length_append, hdU_len]
def argU (q : PU) : Prop := 0 ≤ q.src ∧ q.src ≤ 65535 ∧ 0 ≤ q.dst ∧ q.dst ≤ 65535
instance (q : PU) : Decidable (argU q) := by unfold argU; infer_instance
def chkU (q : PU) : Int := if argU q then (if q.dat.length > 65527 then 6 else 0) else 1
theorem chkU_ok {q : PU} (h : chkU q = 0) : argU q ∧ q.dat.length ≤ 65527 := by
  unfold chkU at h
  split at h
  · rename_i ha
    split at h
    · cases h
    · exact ⟨ha, by omega⟩
  · cases h
/-- What is wrong with bytes; nothing: 0. -/
def badU (src dst : Int) (b : List UInt8) : Int :=
  if b.length < 8 then 3
  else if n2 b 4 > (b.length : Int) then 3
  else if n2 b 4 < (b.length : Int) then 4
  else if n2 b 6 ≠ 0 ∧ rightB [psd src dst 17 (n2 b 4), b] = false then 5
  else 0
def rawU (b : List UInt8) : PU := ⟨n2 b 0, n2 b 2, decide (n2 b 6 = 0), b.drop 8⟩
def prsU (src dst : Int) (b : List UInt8) : PU := if badU src dst b = 0 then rawU b else usz
/-- Are two the same? -/
def sameU (q r : PU) : Bool := (q.src == r.src && q.dst == r.dst) && (q.nosum == r.nosum) && decide (q.dat = r.dat)
theorem sameU_iff {q r : PU} : sameU q r = true ↔ q = r := by
  obtain ⟨a0, a1, a2, a3⟩ := q
  obtain ⟨b0, b1, b2, b3⟩ := r
  simp only [sameU, Bool.and_eq_true, beq_iff_eq, decide_eq_true_eq, PU.mk.injEq]
  constructor
  · rintro ⟨⟨⟨h0, h1⟩, h2⟩, h3⟩; exact ⟨h0, h1, h2, h3⟩
  · rintro ⟨h0, h1, h2, h3⟩; exact ⟨⟨⟨h0, h1⟩, h2⟩, h3⟩
/-- Bytes after bytes of even length. -/
theorem psum_glue (a b c : List UInt8) {m : Nat} (h : b.length = 2 * m) : psum [a, b, c] = psum [a, b ++ c] := by
  simp only [psum_cons]
  rw [wall_append h]; omega
theorem psum_glue2 (a b : List UInt8) {m : Nat} (h : a.length = 2 * m) : psum [a, b] = psum [a ++ b] := by
  simp only [psum_cons]
  rw [wall_append h]; omega
theorem smU_two (src dst : Int) (q : PU) : 65535 - fold (psum [psd src dst 17 (8 + (q.dat.length : Int)), hdU q 0 ++ q.dat]) = smU src dst q := by
  rw [smU, psum_glue _ _ _ (m := 4) (hdU_len q 0)]
/-- What is built is right. -/
theorem hdU_wall (q : PU) {s : Int} (h0 : 0 ≤ s) (h1 : s ≤ 65535) : wall (hdU q s) = wall (hdU q 0) + s := by
  have z : ∀ n : Int, 0 ≤ n → n ≤ 65535 → wall (hdU q n) = wall (be2 q.src ++ be2 q.dst ++ be2 (8 + (q.dat.length : Int))) + n := fun n a b => by
    rw [hdU, wall_append (m := 3) (by simp [be2]), be2_wall a b]
  rw [z s h0 h1, z 0 (by omega) (by omega)]; omega
theorem psum_nn (ps : List (List UInt8)) : 0 ≤ psum ps := (psum_bd ps).1
theorem right_of {S s : Int} (h : 0 ≤ S) (hs : s = 65535 - fold S) : fold (S + s) = 65535 := by subst hs; exact fold_right h
theorem right_full {S : Int} (hs : 65535 - fold S = 0) : fold (S + 65535) = 65535 := by
  unfold fold at *; split at hs
  · omega
  · split <;> omega
theorem bldU_right (src dst : Int) (q : PU) (hn : q.nosum = false) : rightB [psd src dst 17 (8 + (q.dat.length : Int)), bldU src dst q] = true := by
  have e : psum [psd src dst 17 (8 + (q.dat.length : Int)), bldU src dst q] = psum [psd src dst 17 (8 + (q.dat.length : Int)), hdU q 0, q.dat] + ckU src dst q := by
    rw [bldU, ← psum_glue _ _ _ (m := 4) (hdU_len q _)]
    simp only [psum_cons]
    rw [hdU_wall q (ckU_bd src dst q).1 (ckU_bd src dst q).2]; omega
  rw [rightB, e]
  have hp := psum_nn [psd src dst 17 (8 + (q.dat.length : Int)), hdU q 0, q.dat]
  have hs : smU src dst q = 65535 - fold (psum [psd src dst 17 (8 + (q.dat.length : Int)), hdU q 0, q.dat]) := rfl
  unfold ckU
  rw [hn]
  simp only [Bool.false_eq_true, if_false]
  by_cases h : smU src dst q = 0
  · rw [if_pos h, right_full (by omega)]; rfl
  · rw [if_neg h, right_of hp hs]; rfl
theorem n2_be2 {a b : List UInt8} {n : Int} (h0 : 0 ≤ n) (h1 : n ≤ 65535) {k : Nat} (hk : a.length = k) : n2 (a ++ (be2 n ++ b)) k = n := by
  have e0 : byt (a ++ (be2 n ++ b)) (a.length + 0) = byt (be2 n ++ b) 0 := byt_right
  have e1 : byt (a ++ (be2 n ++ b)) (a.length + 1) = byt (be2 n ++ b) 1 := byt_right
  subst hk
  unfold n2
  rw [show a.length = a.length + 0 from rfl, e0, Nat.add_zero, e1]
  have c0 : byt (be2 n ++ b) 0 = n / 256 % 256 := u8_val _
  have c1 : byt (be2 n ++ b) 1 = n % 256 := u8_val _
  rw [c0, c1]; omega
theorem backU {src dst : Int} {q : PU} (h : chkU q = 0) : badU src dst (bldU src dst q) = 0 ∧ prsU src dst (bldU src dst q) = q := by
  obtain ⟨⟨a1, a2, a3, a4⟩, hl⟩ := chkU_ok h
  have hc := ckU_bd src dst q
  have hlen := bldU_len src dst q
  have f0 : n2 (bldU src dst q) 0 = q.src := by
    rw [bldU, hdU, List.append_assoc, List.append_assoc, List.append_assoc]; exact n2_be2 (a := []) a1 a2 rfl
  have f2 : n2 (bldU src dst q) 2 = q.dst := by
    rw [bldU, hdU, List.append_assoc, List.append_assoc, List.append_assoc]; exact n2_be2 (a := be2 q.src) a3 a4 rfl
  have f4 : n2 (bldU src dst q) 4 = 8 + (q.dat.length : Int) := by
    rw [bldU, hdU, List.append_assoc, List.append_assoc]; exact n2_be2 (a := be2 q.src ++ be2 q.dst) (by omega) (by omega) rfl
  have f6 : n2 (bldU src dst q) 6 = ckU src dst q := by
    rw [bldU, hdU, List.append_assoc]; exact n2_be2 (a := be2 q.src ++ be2 q.dst ++ be2 (8 + (q.dat.length : Int))) hc.1 hc.2 rfl
  have hz : (ckU src dst q = 0) ↔ q.nosum = true := by
    have := smU_bd src dst q
    unfold ckU
    cases hn : q.nosum
    · simp only [Bool.false_eq_true, if_false, iff_false]
      split <;> omega
    · simp
  have hb : badU src dst (bldU src dst q) = 0 := by
    unfold badU
    rw [if_neg (by omega), f4, f6, if_neg (by omega), if_neg (by omega), if_neg ?_]
    rintro ⟨g1, g2⟩
    have hn : q.nosum = false := by cases hn : q.nosum; rfl; exact absurd (hz.2 hn) g1
    rw [bldU_right src dst q hn] at g2; cases g2
  refine ⟨hb, ?_⟩
  rw [prsU, if_pos hb, rawU, f0, f2, f6]
  have hd : (bldU src dst q).drop 8 = q.dat := by rw [bldU, List.drop_left' (hdU_len q _)]
  rw [hd]
  have : decide (ckU src dst q = 0) = q.nosum := by
    rw [Bool.eq_iff_iff, decide_eq_true_iff]; exact hz
  rw [this]
end Go.Proofs.Ytpoigngpdcmipaa

/-
  The struct api.TCP as data: its cells, its value, a block that holds one. Conditions are each theorem's own.
-/
namespace Go.Proofs.Ytpoigngpdcmipaa
open Go.RowKit Go.ChangeShapes Go.WideShapes

structure PT where
  src : Int
  dst : Int
  seq : Int
  ack : Int
  res : Int
  flags : Int
  win : Int
  urg : Int
  opt : List UInt8
  dat : List UInt8
def tsz : PT := ⟨0, 0, 0, 0, 0, 0, 0, 0, [], []⟩
/-- Its cells. -/
def tsa (q : PT) (A : Option Addr) (c : Nat) (A' : Option Addr) (c' : Nat) : Array Value := #[.int .i64 q.src, .int .i64 q.dst, .int .i64 q.seq, .int .i64 q.ack, .int .i64 q.res, .int .i64 q.flags, .int .i64 q.win, .int .i64 q.urg, .slice A q.opt.length c, .slice A' q.dat.length c']
def tsv (q : PT) (A : Option Addr) (c : Nat) (A' : Option Addr) (c' : Nat) : Value := .agg #[.int .i64 q.src, .int .i64 q.dst, .int .i64 q.seq, .int .i64 q.ack, .int .i64 q.res, .int .i64 q.flags, .int .i64 q.win, .int .i64 q.urg, .slice A q.opt.length c, .slice A' q.dat.length c']
theorem tsv_eq (q : PT) (A : Option Addr) (c : Nat) (A' : Option Addr) (c' : Nat) : tsv q A c A' c' = .agg (tsa q A c A' c') := rfl
def PT.fits (q : PT) : Prop := ∀ n ∈ [q.src, q.dst, q.seq, q.ack, q.res, q.flags, q.win, q.urg], (Lit.int .i64 n).wf = true
theorem tsa_size (q : PT) (A : Option Addr) (c : Nat) (A' : Option Addr) (c' : Nat) : (tsa q A c A' c').size = 10 := rfl
theorem ts_one (q : PT) (A : Option Addr) (c : Nat) (A' : Option Addr) (c' : Nat) : (tsa q A c A' c').all (·.oneCell') = true := by simp [tsa, Value.oneCell']
section
variable {H : Type} {enc : TypeId × Value → H} {w : World} {base : Nat} {v : Value} {d : DataW H} {p : List MemPlace}
end
/-- It lies in a block of its own. -/
def Atts (W : World) (g : Nat) (q : PT) (A : Option Addr) (c : Nat) (A' : Option Addr) (c' : Nat) : Prop := W.rangeAt g 0 (tsa q A c A' c').toList
section
variable {W : World} {g : Nat} {q : PT} {A : Option Addr} {c : Nat} {A' : Option Addr} {c' : Nat}
theorem Atts.of_heap {t : TypeId} {fr : Nat × Nat} (h : W.heap[g]? = some (.cells (tsa q A c A' c') t fr)) : Atts W g q A c A' c' := fun j v hj => by
  rw [cell_of_row W g (0 + j) _ _ _ h, Nat.zero_add, ← Array.getElem?_toList]; exact hj
theorem Atts.below {w : World} {B : Nat} (h : Atts W g q A c A' c') (hb : Below B W w) (hg : g < B) : Atts w g q A c A' c' := range_below h hg hb
theorem Atts.src (h : Atts W g q A c A' c') : W.cell? ⟨g, 0, none⟩ = some (.int .i64 q.src) := h 0 _ rfl
theorem Atts.dst (h : Atts W g q A c A' c') : W.cell? ⟨g, 1, none⟩ = some (.int .i64 q.dst) := h 1 _ rfl
theorem Atts.seq (h : Atts W g q A c A' c') : W.cell? ⟨g, 2, none⟩ = some (.int .i64 q.seq) := h 2 _ rfl
theorem Atts.ack (h : Atts W g q A c A' c') : W.cell? ⟨g, 3, none⟩ = some (.int .i64 q.ack) := h 3 _ rfl
theorem Atts.res (h : Atts W g q A c A' c') : W.cell? ⟨g, 4, none⟩ = some (.int .i64 q.res) := h 4 _ rfl
theorem Atts.flags (h : Atts W g q A c A' c') : W.cell? ⟨g, 5, none⟩ = some (.int .i64 q.flags) := h 5 _ rfl
theorem Atts.win (h : Atts W g q A c A' c') : W.cell? ⟨g, 6, none⟩ = some (.int .i64 q.win) := h 6 _ rfl
theorem Atts.urg (h : Atts W g q A c A' c') : W.cell? ⟨g, 7, none⟩ = some (.int .i64 q.urg) := h 7 _ rfl
theorem Atts.opt (h : Atts W g q A c A' c') : W.cell? ⟨g, 8, none⟩ = some (.slice A q.opt.length c) := h 8 _ rfl
theorem Atts.dat (h : Atts W g q A c A' c') : W.cell? ⟨g, 9, none⟩ = some (.slice A' q.dat.length c') := h 9 _ rfl
end
end Go.Proofs.Ytpoigngpdcmipaa

/-
  Segments of TCP in plain lists of bytes: what may be, its bytes, what bytes are. No program. Conditions are each theorem's own.
-/
namespace Go.Proofs.Ytpoigngpdcmipaa
open Go.RowKit

def sizeT (q : PT) : Int := 20 + (q.opt.length : Int) + (q.dat.length : Int)
def lineT (q : PT) : Int := (20 + (q.opt.length : Int)) / 4 * 16 + q.res
def argT (q : PT) : Prop := 0 ≤ q.src ∧ q.src ≤ 65535 ∧ 0 ≤ q.dst ∧ q.dst ≤ 65535 ∧ 0 ≤ q.win ∧ q.win ≤ 65535 ∧ 0 ≤ q.urg ∧ q.urg ≤ 65535 ∧ 0 ≤ q.seq ∧ q.seq < 4294967296 ∧ 0 ≤ q.ack ∧ q.ack < 4294967296 ∧
  0 ≤ q.res ∧ q.res ≤ 15 ∧ 0 ≤ q.flags ∧ q.flags ≤ 255 ∧ q.opt.length ≤ 40 ∧ q.opt.length % 4 = 0
instance (q : PT) : Decidable (argT q) := by unfold argT; infer_instance
def chkT (q : PT) : Int := if argT q then (if sizeT q > 65535 then 6 else 0) else 1
theorem chkT_ok {q : PT} (h : chkT q = 0) : argT q ∧ sizeT q ≤ 65535 := by
  unfold chkT at h
  split at h
  · rename_i ha
    split at h
    · cases h
    · exact ⟨ha, by omega⟩
  · cases h
/-- A head, up to the options. -/
def hda8 (q : PT) : List UInt8 := be2 q.src ++ be2 q.dst ++ be4 q.seq ++ be4 q.ack ++ [u8 (lineT q)] ++ [u8 q.flags] ++ be2 q.win
def hdT (q : PT) (s : Int) : List UInt8 := hda8 q ++ be2 s ++ be2 q.urg
theorem hda8_len (q : PT) : (hda8 q).length = 16 := by simp [hda8, be2, be4]
theorem hdT_len (q : PT) (s : Int) : (hdT q s).length = 20 := by simp [hdT, hda8, be2, be4]
def nineT (q : PT) (s : Int) : List (Int × Int) := [(q.src, 2), (q.dst, 2), (q.seq, 4), (q.ack, 4), (lineT q, 1), (q.flags, 1), (q.win, 2), (s, 2), (q.urg, 2)]
theorem lineT_bd {q : PT} (h : argT q) : 0 ≤ lineT q ∧ lineT q ≤ 255 := by
  obtain ⟨_, _, _, _, _, _, _, _, _, _, _, _, h1, h2, _, _, h3, h4⟩ := h
  unfold lineT; omega
theorem nineT_put (q : PT) (s : Int) (h : argT q) (h0 : 0 ≤ s) (h1 : s ≤ 65535) : putL (nineT q s) = hdT q s := by
  have hl := lineT_bd h
  obtain ⟨a1, a2, a3, a4, a5, a6, a7, a8, a9, a10, a11, a12, a13, a14, a15, a16, _, _⟩ := h
  simp only [nineT, putL, List.foldl_cons, List.foldl_nil]
  rw [put_two a1 a2, put_two a3 a4, put_four a9 a10, put_four a11 a12, put_one hl.1 hl.2, put_one a15 a16, put_two a5 a6, put_two h0 h1, put_two a7 a8]
  simp [hdT, hda8, List.append_assoc]
def smT (src dst : Int) (q : PT) : Int := 65535 - fold (psum [psd src dst 6 (sizeT q), hdT q 0, q.opt, q.dat])
theorem smT_bd (src dst : Int) (q : PT) : 0 ≤ smT src dst q ∧ smT src dst q ≤ 65535 := by
  have := fold_bd (psum [psd src dst 6 (sizeT q), hdT q 0, q.opt, q.dat]); unfold smT; omega
def bldT (src dst : Int) (q : PT) : List UInt8 := hdT q (smT src dst q) ++ q.opt ++ q.dat
theorem bldT_len (src dst : Int) (q : PT) : (bldT src dst q).length = 20 + q.opt.length + q.dat.length := by rw [bldT, List.length_append, List.length_append, hdT_len]
def hlT (b : List UInt8) : Int := byt b 12 / 16 * 4
def badT (src dst : Int) (b : List UInt8) : Int :=
  if b.length < 20 then 3
  else if hlT b < 20 then 4
  else if hlT b > (b.length : Int) then 3
  else if b.length > 65535 then 6
  else if rightB [psd src dst 6 (b.length : Int), b] = false then 5
  else 0
def rawT (b : List UInt8) : PT := ⟨n2 b 0, n2 b 2, n4 b 4, n4 b 8, byt b 12 % 16, byt b 13, n2 b 14, n2 b 18, (b.take (hlT b).toNat).drop 20, b.drop (hlT b).toNat⟩
def prsT (src dst : Int) (b : List UInt8) : PT := if badT src dst b = 0 then rawT b else tsz
def sameT (q r : PT) : Bool := (q.src == r.src && q.dst == r.dst && q.seq == r.seq && q.ack == r.ack && q.res == r.res && q.flags == r.flags) && (q.win == r.win) && (q.urg == r.urg) && decide (q.opt = r.opt) && decide (q.dat = r.dat)
theorem sameT_iff {q r : PT} : sameT q r = true ↔ q = r := by
  obtain ⟨a0, a1, a2, a3, a4, a5, a6, a7, a8, a9⟩ := q
  obtain ⟨b0, b1, b2, b3, b4, b5, b6, b7, b8, b9⟩ := r
  simp only [sameT, Bool.and_eq_true, beq_iff_eq, decide_eq_true_eq, PT.mk.injEq]
  constructor
  · rintro ⟨⟨⟨⟨⟨⟨⟨⟨⟨h0, h1⟩, h2⟩, h3⟩, h4⟩, h5⟩, h6⟩, h7⟩, h8⟩, h9⟩; exact ⟨h0, h1, h2, h3, h4, h5, h6, h7, h8, h9⟩
  · rintro ⟨h0, h1, h2, h3, h4, h5, h6, h7, h8, h9⟩; exact ⟨⟨⟨⟨⟨⟨⟨⟨⟨h0, h1⟩, h2⟩, h3⟩, h4⟩, h5⟩, h6⟩, h7⟩, h8⟩, h9⟩
theorem hdT_wall (q : PT) {s : Int} (h0 : 0 ≤ s) (h1 : s ≤ 65535) : wall (hdT q s) = wall (hdT q 0) + s := by
  have z : ∀ n : Int, 0 ≤ n → n ≤ 65535 → wall (hdT q n) = wall (hda8 q) + n + wall (be2 q.urg) := fun n a b => by
    rw [hdT, wall_append (m := 9) (by simp [hda8, be2, be4]), wall_append (m := 8) (by simp [hda8, be2, be4]), be2_wall a b]
  rw [z s h0 h1, z 0 (by omega) (by omega)]; omega
theorem psum_glueT (p : List UInt8) (q : PT) (s : Int) (h : argT q) : psum [p, hdT q s, q.opt, q.dat] = psum [p, hdT q s ++ q.opt ++ q.dat] := by
  have h4 : q.opt.length % 4 = 0 := by obtain ⟨_, _, _, _, _, _, _, _, _, _, _, _, _, _, _, _, _, h⟩ := h; exact h
  simp only [psum_cons]
  rw [wall_append (a := hdT q s ++ q.opt) (m := 10 + q.opt.length / 2) (by rw [List.length_append, hdT_len]; omega), wall_append (a := hdT q s) (m := 10) (hdT_len q s)]; omega
theorem smT_two (src dst : Int) (q : PT) (h : argT q) : 65535 - fold (psum [psd src dst 6 (sizeT q), hdT q 0 ++ q.opt ++ q.dat]) = smT src dst q := by
  rw [smT, psum_glueT _ _ _ h]
theorem bldT_right (src dst : Int) (q : PT) (h : argT q) : rightB [psd src dst 6 (sizeT q), bldT src dst q] = true := by
  have e : psum [psd src dst 6 (sizeT q), bldT src dst q] = psum [psd src dst 6 (sizeT q), hdT q 0, q.opt, q.dat] + smT src dst q := by
    rw [bldT, ← psum_glueT _ _ _ h]
    simp only [psum_cons]
    rw [hdT_wall q (smT_bd src dst q).1 (smT_bd src dst q).2]; omega
  have hs : smT src dst q = 65535 - fold (psum [psd src dst 6 (sizeT q), hdT q 0, q.opt, q.dat]) := rfl
  rw [rightB, e, right_of (psum_nn _) hs]; rfl
theorem n4_be4 {a b : List UInt8} {n : Int} (h0 : 0 ≤ n) (h1 : n < 4294967296) {k : Nat} (hk : a.length = k) : n4 (a ++ (be4 n ++ b)) k = n := by
  have e0 : byt (a ++ (be4 n ++ b)) (a.length + 0) = byt (be4 n ++ b) 0 := byt_right
  have e1 : byt (a ++ (be4 n ++ b)) (a.length + 1) = byt (be4 n ++ b) 1 := byt_right
  have e2 : byt (a ++ (be4 n ++ b)) (a.length + 2) = byt (be4 n ++ b) 2 := byt_right
  have e3 : byt (a ++ (be4 n ++ b)) (a.length + 3) = byt (be4 n ++ b) 3 := byt_right
  subst hk
  unfold n4
  rw [show a.length = a.length + 0 from rfl, e0, Nat.add_zero, e1, e2, e3]
  have c0 : byt (be4 n ++ b) 0 = n / 16777216 % 256 := u8_val _
  have c1 : byt (be4 n ++ b) 1 = n / 65536 % 256 := u8_val _
  have c2 : byt (be4 n ++ b) 2 = n / 256 % 256 := u8_val _
  have c3 : byt (be4 n ++ b) 3 = n % 256 := u8_val _
  rw [c0, c1, c2, c3]; omega
theorem byt_u8 {a b : List UInt8} {n : Int} {k : Nat} (hk : a.length = k) : byt (a ++ ([u8 n] ++ b)) k = n % 256 := by
  have e0 : byt (a ++ ([u8 n] ++ b)) (a.length + 0) = byt ([u8 n] ++ b) 0 := byt_right
  subst hk
  rw [Nat.add_zero] at e0; rw [e0]; exact u8_val _
theorem backT {src dst : Int} {q : PT} (h : chkT q = 0) : badT src dst (bldT src dst q) = 0 ∧ prsT src dst (bldT src dst q) = q := by
  obtain ⟨ha, hz⟩ := chkT_ok h
  have hl := lineT_bd ha
  have hr := bldT_right src dst q ha
  have hs := smT_bd src dst q
  have hlen := bldT_len src dst q
  obtain ⟨a1, a2, a3, a4, a5, a6, a7, a8, a9, a10, a11, a12, a13, a14, a15, a16, a17, a18⟩ := ha
  have f0 : n2 (bldT src dst q) 0 = q.src := by
    simp only [bldT, hdT, hda8, List.append_assoc]; exact n2_be2 (a := []) a1 a2 rfl
  have f2 : n2 (bldT src dst q) 2 = q.dst := by
    simp only [bldT, hdT, hda8, List.append_assoc]; exact n2_be2 (a := be2 q.src) a3 a4 rfl
  have f4 : n4 (bldT src dst q) 4 = q.seq := by
    simp only [bldT, hdT, hda8, List.append_assoc]; rw [← List.append_assoc]; exact n4_be4 (a := be2 q.src ++ be2 q.dst) a9 a10 rfl
  have f8 : n4 (bldT src dst q) 8 = q.ack := by
    simp only [bldT, hdT, hda8, List.append_assoc]; rw [← List.append_assoc, ← List.append_assoc]; exact n4_be4 (a := be2 q.src ++ be2 q.dst ++ be4 q.seq) a11 a12 rfl
  have f12 : byt (bldT src dst q) 12 = lineT q := by
    have : byt (bldT src dst q) 12 = lineT q % 256 := by
      simp only [bldT, hdT, hda8, List.append_assoc]; rw [← List.append_assoc, ← List.append_assoc, ← List.append_assoc]; exact byt_u8 (a := be2 q.src ++ be2 q.dst ++ be4 q.seq ++ be4 q.ack) rfl
    omega
  have f13 : byt (bldT src dst q) 13 = q.flags := by
    have : byt (bldT src dst q) 13 = q.flags % 256 := by
      simp only [bldT, hdT, hda8, List.append_assoc]; rw [← List.append_assoc, ← List.append_assoc, ← List.append_assoc, ← List.append_assoc]; exact byt_u8 (a := be2 q.src ++ be2 q.dst ++ be4 q.seq ++ be4 q.ack ++ [u8 (lineT q)]) rfl
    omega
  have f14 : n2 (bldT src dst q) 14 = q.win := by
    simp only [bldT, hdT, hda8, List.append_assoc]; rw [← List.append_assoc, ← List.append_assoc, ← List.append_assoc, ← List.append_assoc, ← List.append_assoc]; exact n2_be2 (a := be2 q.src ++ be2 q.dst ++ be4 q.seq ++ be4 q.ack ++ [u8 (lineT q)] ++ [u8 q.flags]) a5 a6 rfl
  have f18 : n2 (bldT src dst q) 18 = q.urg := by
    have e : bldT src dst q = (hda8 q ++ be2 (smT src dst q)) ++ (be2 q.urg ++ (q.opt ++ q.dat)) := by simp [bldT, hdT, List.append_assoc]
    rw [e]; exact n2_be2 a7 a8 (by simp [hda8, be2, be4])
  have fh : hlT (bldT src dst q) = 20 + (q.opt.length : Int) := by
    unfold hlT; rw [f12]; unfold lineT; omega
  have hsz : ((bldT src dst q).length : Int) = sizeT q := by rw [hlen]; unfold sizeT; omega
  have hb : badT src dst (bldT src dst q) = 0 := by
    unfold badT
    rw [if_neg (by omega), fh, if_neg (by omega), if_neg (by omega), if_neg (by omega), if_neg (by rw [hsz, hr]; simp)]
  refine ⟨hb, ?_⟩
  rw [prsT, if_pos hb, rawT, f0, f2, f4, f8, f12, f13, f14, f18, fh]
  have e1 : (20 + (q.opt.length : Int)).toNat = 20 + q.opt.length := by omega
  have e2 : (bldT src dst q).take (20 + q.opt.length) = hdT q (smT src dst q) ++ q.opt := by rw [bldT, List.take_left' (by rw [List.length_append, hdT_len])]
  have e3 : (hdT q (smT src dst q) ++ q.opt).drop 20 = q.opt := List.drop_left' (hdT_len q _)
  have e4 : (bldT src dst q).drop (20 + q.opt.length) = q.dat := by rw [bldT, List.drop_left' (by rw [List.length_append, hdT_len])]
  have e5 : lineT q % 16 = q.res := by unfold lineT; omega
  rw [e1, e2, e3, e4, e5]
/-- How many bytes the option at a place has; 0: there is none. -/
def optL (b : List UInt8) (at_ : Nat) : Nat :=
  if b.length ≤ at_ then 0
  else if byt b at_ ≤ 1 then 1
  else if b.length ≤ at_ + 1 ∨ byt b (at_ + 1) < 2 ∨ byt b (at_ + 1) > (b.length : Int) - at_ then 0
  else (byt b (at_ + 1)).toNat
theorem optL_le {b : List UInt8} {at_ : Nat} (h : 0 < optL b at_) : at_ + optL b at_ ≤ b.length ∧ at_ < b.length := by
  unfold optL at h ⊢
  split at h
  · omega
  · rename_i h1
    rw [if_neg h1]
    split at h
    · rename_i h2; rw [if_pos h2]; omega
    · rename_i h2
      rw [if_neg h2]
      split at h
      · omega
      · rename_i h3
        rw [if_neg h3]; omega
/-- Where options begin, from a place on. -/
def plc (b : List UInt8) : Nat → Nat → List Nat
  | 0, _ => []
  | f + 1, a => if optL b a = 0 then [] else a :: (if byt b a = 0 then [] else plc b f (a + optL b a))
def places (b : List UInt8) : List Nat := plc b (b.length + 1) 0
theorem plc_more (b : List UInt8) : ∀ (f g a : Nat), b.length + 1 ≤ a + f → b.length + 1 ≤ a + g → plc b f a = plc b g a
  | 0, 0, _, _, _ => rfl
  | 0, g + 1, a, h, _ => by
    have : optL b a = 0 := by unfold optL; rw [if_pos (by omega)]
    rw [plc, plc, if_pos this]
  | f + 1, 0, a, _, h => by
    have : optL b a = 0 := by unfold optL; rw [if_pos (by omega)]
    rw [plc, plc, if_pos this]
  | f + 1, g + 1, a, h1, h2 => by
    rw [plc, plc]
    by_cases h0 : optL b a = 0
    · rw [if_pos h0, if_pos h0]
    · rw [if_neg h0, if_neg h0]
      by_cases hz : byt b a = 0
      · rw [if_pos hz, if_pos hz]
      · rw [if_neg hz, if_neg hz, plc_more b f g (a + optL b a) (by omega) (by omega)]
/-- From a place on, with as much as is wanted. -/
def rest (b : List UInt8) (a : Nat) : List Nat := plc b (b.length + 1) a
theorem rest_none {b : List UInt8} {a : Nat} (h : optL b a = 0) : rest b a = [] := by rw [rest, plc, if_pos h]
theorem rest_last {b : List UInt8} {a : Nat} (h : 0 < optL b a) (hz : byt b a = 0) : rest b a = [a] := by rw [rest, plc, if_neg (by omega), if_pos hz]
theorem rest_more {b : List UInt8} {a : Nat} (h : 0 < optL b a) (hz : byt b a ≠ 0) : rest b a = a :: rest b (a + optL b a) := by
  rw [rest, plc, if_neg (by omega), if_neg hz, rest]
  congr 1
  exact plc_more b _ _ _ (by omega) (by omega)
theorem rest_len (b : List UInt8) : ∀ (f a : Nat), (plc b f a).length ≤ f
  | 0, _ => Nat.le_refl _
  | f + 1, a => by
    rw [plc]; split
    · simp
    · split
      · simp
      · have := rest_len b f (a + optL b a); simp; omega
theorem places_len (b : List UInt8) : (places b).length ≤ b.length + 1 := rest_len b _ _
theorem plc_mem (b : List UInt8) : ∀ (f a x : Nat), x ∈ plc b f a → 0 < optL b x
  | 0, _, _, h => by simp [plc] at h
  | f + 1, a, x, h => by
    rw [plc] at h
    split at h
    · simp at h
    · rename_i h0
      rcases List.mem_cons.1 h with rfl | h
      · omega
      · split at h
        · simp at h
        · exact plc_mem b f _ x h
theorem places_mem {b : List UInt8} {x : Nat} (h : x ∈ places b) : 0 < optL b x := plc_mem b _ _ x h
/-- Does the option at a place tell the greatest size? -/
def mssB (b : List UInt8) (a : Nat) : Bool := decide (byt b a = 2) && decide (optL b a = 4)
/-- The greatest size, where it is told, and whether. -/
def mssT (b : List UInt8) : Option Nat := (places b).find? (mssB b)
def mssN (b : List UInt8) : Int := match mssT b with | some a => n2 b (a + 2) | none => 0
def mssA (b : List UInt8) : Int := match mssT b with | some a => (a : Int) | none => 0
def mssK (b : List UInt8) : Bool := (mssT b).isSome
end Go.Proofs.Ytpoigngpdcmipaa

/-
  Contracts of udp's put, Pseudo, buildHead. Conditions are each theorem's own.
-/
namespace Go.Proofs.Ytpoigngpdcmipaa
open Go.RowKit

/-- The lowest bits of any number, of one below 0 too. -/
theorem and_any (i : Nat) (n : Int) (hi : i ≤ 62) : bits .and .i64 n (2 ^ i - 1) = n % 2 ^ i := by
  obtain ⟨a, ha⟩ : ∃ a : Nat, (a : Int) = n % 2 ^ 64 := ⟨(n % 2 ^ 64).toNat, by omega⟩
  have e : BitVec.ofInt IntKind.i64.bits n = BitVec.ofInt IntKind.i64.bits (a : Int) := by
    apply BitVec.eq_of_toInt_eq
    rw [BitVec.toInt_ofInt, BitVec.toInt_ofInt, ha]
    show Int.bmod n (2 ^ 64) = Int.bmod (n % 2 ^ 64) (2 ^ 64)
    exact (Int.emod_bmod n (2 ^ 64)).symm
  have hpos : 0 < 2 ^ i := Nat.two_pow_pos i
  have hp : 2 ^ i ≤ 2 ^ 62 := Nat.pow_le_pow_right (by decide) hi
  have hc : ((2 : Int) ^ i - 1) = ((2 ^ i - 1 : Nat) : Int) := by
    rw [Int.natCast_sub hpos]; simp
  have hm : (2 ^ i - 1) % 2 ^ IntKind.i64.bits = 2 ^ i - 1 := Nat.mod_eq_of_lt (by show _ < 2 ^ 64; omega)
  have hal : a < 2 ^ 64 := by omega
  have ham : a % 2 ^ IntKind.i64.bits = a := Nat.mod_eq_of_lt hal
  have h1 : bits .and .i64 n (2 ^ i - 1) = IntKind.i64.wrap ((a &&& (2 ^ i - 1) : Nat) : Int) := by
    simp only [bits, e, hc, BitVec.ofInt_natCast, BitVec.toNat_and, BitVec.toNat_ofNat, hm, ham]
  rw [h1, Nat.and_two_pow_sub_one_eq_mod]
  have hlt : a % 2 ^ i < 2 ^ i := Nat.mod_lt _ hpos
  rw [wraps63 _ (by omega) (by omega)]
  have hd : ((2 : Int) ^ i) ∣ 2 ^ 64 := by
    refine ⟨2 ^ (64 - i), ?_⟩
    rw [← Int.pow_add]; congr 1; omega
  have h2 : (n % 2 ^ 64) % 2 ^ i = n % 2 ^ i := Int.emod_emod_of_dvd n hd
  rw [← h2, ← ha]; simp
/-- A number and its size in a block. -/
def AtNS (W : World) (g : Nat) (n s : Int) : Prop := W.rangeAt g 0 [.int .i64 n, .int .i64 s]
section
variable {W : World} {g : Nat} {n s : Int}
theorem AtNS.below {w : World} {B : Nat} (h : AtNS W g n s) (hb : Below B W w) (hg : g < B) : AtNS w g n s := range_below h hg hb
theorem AtNS.num (h : AtNS W g n s) : W.cell? ⟨g, 0, none⟩ = some (.int .i64 n) := h 0 _ rfl
theorem AtNS.siz (h : AtNS W g n s) : W.cell? ⟨g, 1, none⟩ = some (.int .i64 s) := h 1 _ rfl
end
end Go.Proofs.Ytpoigngpdcmipaa

/-
  Contracts of layer 7's Check, numbers and Same, the program's and the document's; of the document's mod and Pseudo. Conditions are each theorem's own.
-/
namespace Go.Proofs.Ytpoigngpdcmipaa
open Go.RowKit

theorem mod_val (n m : Int) (h0 : 0 < m) (h1 : m ≤ 4294967296) : (wrap64 (n.tmod m + m)).tmod m = n % m := by
  have hlt := Int.tmod_lt_of_pos n h0
  have hgt : -m < n.tmod m := by
    have := Int.tmod_lt_of_pos (-n) h0
    rw [Int.neg_tmod] at this; omega
  have e1 : wrap64 (n.tmod m + m) = n.tmod m + m := by unfold wrap64; omega
  rw [e1, Int.tmod_eq_emod_of_nonneg (by omega), Int.add_emod_right]
  have h2 : n = m * (n.tdiv m) + n.tmod m := (Int.mul_tdiv_add_tmod n m).symm
  conv => rhs; rw [h2]
  rw [Int.add_comm, Int.add_mul_emod_self_left]
section
variable (q : PU) (A : Option Addr) (c : Nat) (w : World)
theorem argU_iff (q : PU) : argU q ↔ (fitsB q.src 2 = true ∧ fitsB q.dst 2 = true) := by
  rw [fitsB_iff, fitsB_iff, pw2, argU]; omega
def numsU (q : PU) : List Int := [q.src, q.dst]
end
theorem sameU_nums (q r : PU) : sameU q r = (decide (numsU q = numsU r) && (q.nosum == r.nosum) && decide (q.dat = r.dat)) := by
  rw [sameU, Bool.eq_iff_iff]; simp [numsU, and_assoc]
section
variable (q r : PU) (A : Option Addr) (c : Nat) (X : Option Addr) (d B : Nat) (w : World)
end
end Go.Proofs.Ytpoigngpdcmipaa

/-
  Contracts of layer 7's check and Build, the program's and the document's. Conditions are each theorem's own.
-/
namespace Go.Proofs.Ytpoigngpdcmipaa
open Go.RowKit

theorem Rd2.two {w : World} {B g t n0 n1 : Nat} {A0 A1 : Option Addr} {c0 c1 : Nat} {b0 b1 : List UInt8} (h0 : n0 = b0.length) (h1 : n1 = b1.length)
    (hg : w.heap[g]? = some (.cells #[.slice A0 n0 c0, .slice A1 n1 c1] t (0, 0))) (hB : g < B) (a0 : Arg w B A0 c0 b0) (a1 : Arg w B A1 c1 b1) : Rd2 w B (some ⟨g, 0, none⟩) [b0, b1] := by
  subst h0; subst h1
  refine Rd2.of_cells hg hB fun j b hj => ?_
  match j, hj with
  | 0, hj => simp at hj; subst hj; exact ⟨A0, c0, rfl, a0⟩
  | 1, hj => simp at hj; subst hj; exact ⟨A1, c1, rfl, a1⟩
  | j + 2, hj => simp at hj
theorem bulk2 (a b : List UInt8) : bulk [a, b] = a.length + b.length := by simp [bulk]
section
variable (q : PU) (A : Option Addr) (c : Nat) (src dst : Int) (w : World)
end
end Go.Proofs.Ytpoigngpdcmipaa

/-
  Contracts of the document's Build of layer 7, and of udp's reader. Conditions are each theorem's own.
-/
namespace Go.Proofs.Ytpoigngpdcmipaa
open Go.RowKit

section
variable (q : PU) (A : Option Addr) (c : Nat) (src dst : Int) (w : World)
end
/-- What a reader holds: its bytes, and where it is. -/
def RdrS (W : World) (g : Nat) (A : Option Addr) (n c : Nat) (k : Int) : Prop := W.heap[g]? = some (.cells #[.slice A n c] 31 (0, 0)) ∧ W.heap[g + 1]? = some (.cells #[.int .i64 k] 3 (0, 0))
end Go.Proofs.Ytpoigngpdcmipaa

/-
  Contract of udp.Parse. Conditions are each theorem's own.
-/
namespace Go.Proofs.Ytpoigngpdcmipaa
open Go.RowKit

theorem RdrS.alloc {w : World} {g n c : Nat} {A : Option Addr} {k : Int} (h : RdrS w g A n c k) (o : Obj) : RdrS (w.alloc o) g A n c k :=
  ⟨(Below.heap_alloc w o g (heap_lt h.1)).trans h.1, (Below.heap_alloc w o (g + 1) (heap_lt h.2)).trans h.2⟩
section
variable (b : List UInt8) (A : Option Addr) (c : Nat) (src dst : Int) (w : World)
end
end Go.Proofs.Ytpoigngpdcmipaa

/-
  Contract of the document's Parse of layer 7. Conditions are each theorem's own.
-/
namespace Go.Proofs.Ytpoigngpdcmipaa
open Go.RowKit

section
variable (b : List UInt8) (A : Option Addr) (c : Nat) (src dst : Int) (w : World)
end
end Go.Proofs.Ytpoigngpdcmipaa

/-
  Layer 7's awake, and what Build answers, in one shape. Conditions are each theorem's own.
-/
namespace Go.Proofs.Ytpoigngpdcmipaa
open Go.RowKit

def resU (src dst : Int) (q : PU) : List UInt8 := if chkU q = 0 then bldU src dst q else []
theorem resU_shape {src dst : Int} {q : PU} {w w' : World} {v : Value} (h : (chkU q ≠ 0 → v = .slice none 0 0 ∧ Below w.heap.size w w') ∧ (chkU q = 0 → Made w w' v (bldU src dst q))) :
    ∃ P k, v = .slice P (resU src dst q).length k ∧ Rd w' w'.heap.size P (resU src dst q) ∧ Below w.heap.size w w' := by
  by_cases hc : chkU q = 0
  · obtain ⟨A, c, rfl, hl, hr, ho, hb⟩ := h.2 hc
    exact ⟨A, c, by rw [resU, if_pos hc], by rw [resU, if_pos hc]; exact hr, hb⟩
  · obtain ⟨rfl, hb⟩ := h.1 hc
    exact ⟨none, 0, by rw [resU, if_neg hc]; rfl, by rw [resU, if_neg hc]; exact Rd.nil, hb⟩
def qaU : PU := ⟨3, 4, false, [5]⟩
end Go.Proofs.Ytpoigngpdcmipaa

/-
  Contracts of tcp's size, Check, numbers, buildHead, fresh. Conditions are each theorem's own.
-/
namespace Go.Proofs.Ytpoigngpdcmipaa
open Go.RowKit

theorem argT_iff (q : PT) : argT q ↔ (fitsB q.src 2 = true ∧ fitsB q.dst 2 = true ∧ fitsB q.win 2 = true ∧ fitsB q.urg 2 = true ∧ fitsB q.seq 4 = true ∧ fitsB q.ack 4 = true ∧ 0 ≤ q.res ∧ q.res < 16 ∧ fitsB q.flags 1 = true ∧ q.opt.length ≤ 40 ∧ q.opt.length % 4 = 0) := by
  rw [fitsB_iff, fitsB_iff, fitsB_iff, fitsB_iff, fitsB_iff, fitsB_iff, fitsB_iff, pw1, pw2, pw4, argT]; omega
section
variable (q : PT) (A : Option Addr) (c : Nat) (A' : Option Addr) (c' : Nat) (w : World)
def numsT (q : PT) : List Int := [q.src, q.dst, q.seq, q.ack, q.res, q.flags, q.win, q.urg]
end
section
variable (q : PT) (A : Option Addr) (c : Nat) (A' : Option Addr) (c' : Nat) (w : World)
end
end Go.Proofs.Ytpoigngpdcmipaa

/-
  Contracts of layer 8's Same, the program's and the document's; of the document's Check. Conditions are each theorem's own.
-/
namespace Go.Proofs.Ytpoigngpdcmipaa
open Go.RowKit

theorem sameT_nums (q r : PT) : sameT q r = (decide (numsT q = numsT r) && decide (q.opt = r.opt) && decide (q.dat = r.dat)) := by
  rw [sameT, Bool.eq_iff_iff]; simp [numsT, and_assoc]
section
variable (q r : PT) (A : Option Addr) (c : Nat) (A' : Option Addr) (c' : Nat) (X : Option Addr) (d : Nat) (X' : Option Addr) (d' B : Nat) (w : World)
end
def twoB (q : PT) : Bool := fitsB q.src 2 && fitsB q.dst 2 && fitsB q.win 2 && fitsB q.urg 2
def fourB (q : PT) : Bool := fitsB q.seq 4 && fitsB q.ack 4 && fitsB q.flags 1 && decide (0 ≤ q.res) && decide (q.res ≤ 15)
theorem argT_two (q : PT) : argT q ↔ (twoB q = true ∧ fourB q = true ∧ q.opt.length ≤ 40 ∧ q.opt.length % 4 = 0) := by
  rw [argT_iff]
  simp only [twoB, fourB, Bool.and_eq_true, decide_eq_true_eq]
  constructor
  · rintro ⟨h0, h1, h2, h3, h4, h5, h6, h7, h8, h9, h10⟩; exact ⟨⟨⟨⟨h0, h1⟩, h2⟩, h3⟩, ⟨⟨⟨⟨h4, h5⟩, h8⟩, h6⟩, by omega⟩, h9, h10⟩
  · rintro ⟨⟨⟨⟨h0, h1⟩, h2⟩, h3⟩, ⟨⟨⟨⟨h4, h5⟩, h8⟩, h6⟩, h7⟩, h9, h10⟩; exact ⟨h0, h1, h2, h3, h4, h5, h6, by omega, h8, h9, h10⟩
section
variable (q : PT) (A : Option Addr) (c : Nat) (A' : Option Addr) (c' : Nat) (w : World)
end
end Go.Proofs.Ytpoigngpdcmipaa

/-
  Contracts of slices.Grow at nil, and of slices.Concat, over bytes. Conditions are each theorem's own.
-/
namespace Go.Proofs.Ytpoigngpdcmipaa
open Go.RowKit

theorem flatten_take (ps : List (List UInt8)) {k : Nat} {bs : List UInt8} (h : ps[k]? = some bs) : (ps.take (k + 1)).flatten = (ps.take k).flatten ++ bs := by
  rw [List.take_add_one, h]; simp
theorem bulk_flatten (ps : List (List UInt8)) : ps.flatten.length = bulk ps := by simp [bulk, List.length_flatten]
end Go.Proofs.Ytpoigngpdcmipaa

/-
  Contracts of layer 8's Build, the program's and the document's. Conditions are each theorem's own.
-/
namespace Go.Proofs.Ytpoigngpdcmipaa
open Go.RowKit

section
variable (q : PT) (A : Option Addr) (c : Nat) (A' : Option Addr) (c' : Nat) (src dst : Int) (w : World)
end
end Go.Proofs.Ytpoigngpdcmipaa

/-
  Contracts of tcp's reader and readHead. Conditions are each theorem's own.
-/
namespace Go.Proofs.Ytpoigngpdcmipaa
open Go.RowKit

section
variable {w V V' : World} {g U B : Nat} {A : Option Addr} {c : Nat} {b : List UInt8} {k k' : Int} {q q' : PT} {i : Nat} {v : Value}
end
def headT (b : List UInt8) : PT := ⟨n2 b 0, n2 b 2, n4 b 4, n4 b 8, byt b 12 % 16, byt b 13, n2 b 14, n2 b 18, [], []⟩
end Go.Proofs.Ytpoigngpdcmipaa

/-
  Contract of tcp.Parse. Conditions are each theorem's own.
-/
namespace Go.Proofs.Ytpoigngpdcmipaa
open Go.RowKit

section
variable {o : Oper} {a : Act} {w : World} {K : Act → World → Prop} {Q : Exit → Act → World → Prop} {x y : Operand} {p : Addr} {v0 : Value}
theorem store_sl_wp {A : Option Addr} {n c : Nat} (ho : o.op = .store 31 x y) (hx : a.eval x = .pointer (some p)) (hy : a.eval y = .slice A n c) (hc : w.cell? p = some v0) (hf : w.frozen? p = false) (h : K (a.put o.dst undef) (w.setCell p (.slice A n c))) : o.wp Try.prog a w K Q := by
  unfold Oper.wp execOp
  simp only [ho, hx, hy]
  go_simp
  exact h
end
section
variable (b : List UInt8) (A : Option Addr) (c : Nat) (src dst : Int) (w : World)
end
end Go.Proofs.Ytpoigngpdcmipaa

/-
  Contract of the document's Parse of layer 8. Conditions are each theorem's own.
-/
namespace Go.Proofs.Ytpoigngpdcmipaa
open Go.RowKit

section
variable (b : List UInt8) (A : Option Addr) (c : Nat) (src dst : Int) (w : World)
end
end Go.Proofs.Ytpoigngpdcmipaa

/-
  Contract of tcp.Options and of the iterator that it hands back. Conditions are each theorem's own.
-/
namespace Go.Proofs.Ytpoigngpdcmipaa
open Go.RowKit Go.Shelf
attribute [local go_sem] Oper.semAt_some

/-- An option as it comes: where it begins, and where its bytes lie. -/
structure OI where
  at_ : Nat
  A : Option Addr
  c : Nat
  n : Nat
def encO (x : OI) : Array Value := #[.int .i64 (x.at_ : Int), .slice x.A x.n x.c]
/-- What is known of it when it comes. -/
def GO (b : List UInt8) (pre : List OI) (x : OI) (W : World) : Prop :=
  (∃ more, places b = pre.map (·.at_) ++ x.at_ :: more) ∧ x.n = optL b x.at_ ∧ Arg W W.heap.size x.A x.c ((b.drop x.at_).take x.n)
theorem cell_putLoop {W : World} {p : Addr} {v : Value} {l : Nat} {r r' : Loop} (h : W.cell? p = some v) (hl : W.heap[l]? = some (.loop r)) : (W.putObj l (.loop r')).cell? p = some v := by
  obtain ⟨o, ho, hc⟩ := cells_of_cell h
  have hne : p.block ≠ l := fun e => by rw [e, hl] at ho; cases ho; cases hc
  exact (World.cell?_of_block (World.putObj_heap_other hne)).trans h
theorem GO.turn {b : List UInt8} {pre : List OI} {x : OI} {W : World} {l : Nat} {r r' : Loop} (h : GO b pre x W) (hl : W.heap[l]? = some (.loop r)) : GO b pre x (W.putObj l (.loop r')) := by
  refine ⟨h.1, h.2.1, ⟨fun hn => ?_, h.2.2.cap, h.2.2.none_⟩⟩
  obtain ⟨b0, off, e, hb, hc⟩ := h.2.2.rd hn
  exact ⟨b0, off, e, by simpa using hb, fun j hj => cell_putLoop (hc j hj) hl⟩
theorem grown_none {w w' : World} (h : Below w.heap.size w w') : w.grownBy w' none := ⟨h.os, h.tape, h.output, h.size, fun k hk _ => h.block k hk⟩
end Go.Proofs.Ytpoigngpdcmipaa

/-
  Packets of IPv4 in fragments, in plain lists: options that go with each, the fragments, what fragments are. No program. Conditions are each theorem's own.
-/
namespace Go.Proofs.Ytpoigngpdcmipaa
open Go.RowKit

/-! ### Options -/
/-- The option at a place, if it goes with each fragment. -/
def cop1 (b : List UInt8) (a : Nat) : List UInt8 := if byt b a ≥ 128 then (b.drop a).take (optL b a) else []
def cops (b : List UInt8) (ps : List Nat) : List UInt8 := ps.flatMap (cop1 b)
def padN (n : Nat) : Nat := (4 - n % 4) % 4
def copied (b : List UInt8) : List UInt8 := cops b (places b) ++ List.replicate (padN (cops b (places b)).length) 0
theorem cops_snoc (b : List UInt8) (ps : List Nat) (a : Nat) : cops b (ps ++ [a]) = cops b ps ++ cop1 b a := by simp [cops]
theorem cops_len (b : List UInt8) : ∀ (f a : Nat), a ≤ b.length → (cops b (plc b f a)).length + a ≤ b.length
  | 0, a, h => by simpa [plc, cops] using h
  | f + 1, a, h => by
    rw [plc]
    split
    · simpa [cops] using h
    · rename_i h0
      have hle := optL_le (b := b) (at_ := a) (by omega)
      have h1 : (cop1 b a).length ≤ optL b a := by unfold cop1; split <;> simp; omega
      split
      · simp only [cops, List.flatMap_cons, List.flatMap_nil, List.append_nil]; omega
      · have ih := cops_len b f (a + optL b a) hle.1
        simp only [cops, List.flatMap_cons, List.length_append] at ih ⊢; omega
theorem cops_le (b : List UInt8) : (cops b (places b)).length ≤ b.length := by have := cops_len b (b.length + 1) 0 (Nat.zero_le _); unfold places; omega
theorem cops_pre (b : List UInt8) {pre more : List Nat} (h : places b = pre ++ more) : (cops b pre).length ≤ b.length := by
  have := cops_le b
  rw [h] at this
  simp only [cops, List.flatMap_append, List.length_append] at this ⊢; omega
theorem padN_mod (n : Nat) : (n + padN n) % 4 = 0 ∧ padN n < 4 := by unfold padN; omega
theorem copied_len (b : List UInt8) : (copied b).length ≤ b.length + 3 ∧ (copied b).length % 4 = 0 := by
  have h := cops_le b
  have p := padN_mod (cops b (places b)).length
  simp only [copied, List.length_append, List.length_replicate]; omega
theorem copied_le {b : List UInt8} (h : b.length % 4 = 0) : (copied b).length ≤ b.length := by
  have := copied_len b; omega
theorem optL_drop (b : List UInt8) (k : Nat) (h : k < b.length) : optL (b.drop k) 0 = optL b k := by
  have e0 : byt (b.drop k) 0 = byt b k := by simp [byt]
  have e1 : byt (b.drop k) 1 = byt b (k + 1) := by simp [byt]
  unfold optL
  rw [List.length_drop, e0, Nat.zero_add, e1]
  by_cases h1 : b.length - k ≤ 0
  · omega
  · rw [if_neg h1, if_neg (by omega : ¬ b.length ≤ k)]
    by_cases h2 : byt b k ≤ 1
    · rw [if_pos h2, if_pos h2]
    · rw [if_neg h2, if_neg h2]
      by_cases h3 : b.length ≤ k + 1 ∨ byt b (k + 1) < 2 ∨ byt b (k + 1) > (b.length : Int) - k
      · rw [if_pos h3, if_pos (by omega)]
      · rw [if_neg h3, if_neg (by omega)]

/-! ### Fragments -/
/-- As many bytes as fit. -/
def room (mtu : Int) (q : P4) : Int := (mtu - head4 q) - (mtu - head4 q) % 8
def part1 (mtu : Int) (q : P4) : P4 := { q with mf := true, dat := q.dat.take (room mtu q).toNat }
def rest1 (mtu : Int) (o : List UInt8) (q : P4) : P4 := { q with off := q.off + room mtu q, opt := o, dat := q.dat.drop (room mtu q).toNat }
def frg (mtu : Int) (o : List UInt8) (mf : Bool) : Nat → P4 → List P4
  | 0, _ => []
  | f + 1, q => if size4 q > mtu then part1 mtu q :: frg mtu o mf f (rest1 mtu o q) else [{ q with mf := mf }]
/-- A packet that can be cut, or what is left of one. -/
structure Cuttable (mtu : Int) (q : P4) : Prop where
  lo : 68 ≤ mtu
  hi : mtu ≤ 65535
  arg : 0 ≤ q.tos ∧ q.tos ≤ 255 ∧ 0 ≤ q.ttl ∧ q.ttl ≤ 255 ∧ 0 ≤ q.proto ∧ q.proto ≤ 255 ∧ 0 ≤ q.id ∧ q.id ≤ 65535 ∧ 0 ≤ q.src ∧ q.src < 4294967296 ∧ 0 ≤ q.dst ∧ q.dst < 4294967296
  off : 0 ≤ q.off ∧ q.off % 8 = 0 ∧ q.off + (q.dat.length : Int) ≤ 65535 ∧ q.off ≤ 65528
  opt : q.opt.length ≤ 40 ∧ q.opt.length % 4 = 0
theorem Cuttable.of {mtu : Int} {q : P4} (h : chk4 q = 0) (lo : 68 ≤ mtu) (hi : mtu ≤ 65535) : Cuttable mtu q := by
  obtain ⟨⟨a1, a2, a3, a4, a5, a6, a7, a8, a9, a10, a11, a12, a13, a14, a15, a16, a17, a18⟩, hs, ho⟩ := chk4_ok h
  exact ⟨lo, hi, ⟨a1, a2, a3, a4, a5, a6, a7, a8, a9, a10, a11, a12⟩, ⟨a13, a15, ho, a14⟩, ⟨a16, a17⟩⟩
section
variable {mtu : Int} {o : List UInt8} {mf : Bool} {q : P4}
theorem room_bd (h : Cuttable mtu q) : 8 ≤ room mtu q ∧ room mtu q ≤ mtu - head4 q ∧ room mtu q % 8 = 0 ∧ mtu - head4 q < room mtu q + 8 := by
  have h1 := h.lo; have h2 := h.opt
  have hh : head4 q = 20 + (q.opt.length : Int) := rfl
  unfold room; omega
theorem room_lt (h : Cuttable mtu q) (hs : size4 q > mtu) : room mtu q < (q.dat.length : Int) := by
  have := room_bd h
  have hz : size4 q = head4 q + (q.dat.length : Int) := rfl
  omega
theorem Cuttable.rest (h : Cuttable mtu q) (hs : size4 q > mtu) (ho : o.length ≤ 40 ∧ o.length % 4 = 0) : Cuttable mtu (rest1 mtu o q) := by
  have hr := room_bd h
  have hl := room_lt h hs
  obtain ⟨b1, b2, b3, b4⟩ := h.off
  refine ⟨h.lo, h.hi, h.arg, ?_, ho⟩
  show 0 ≤ q.off + room mtu q ∧ (q.off + room mtu q) % 8 = 0 ∧ q.off + room mtu q + ((q.dat.drop (room mtu q).toNat).length : Int) ≤ 65535 ∧ q.off + room mtu q ≤ 65528
  rw [List.length_drop]; omega
theorem frg_fuel : ∀ (f g : Nat) (q : P4), Cuttable mtu q → (o.length ≤ 40 ∧ o.length % 4 = 0) → q.dat.length < f → q.dat.length < g → frg mtu o mf f q = frg mtu o mf g q
  | 0, _, _, _, _, h, _ => absurd h (Nat.not_lt_zero _)
  | _ + 1, 0, _, _, _, _, h => absurd h (Nat.not_lt_zero _)
  | f + 1, g + 1, q, hc, ho, hf, hg => by
    rw [frg, frg]
    by_cases hs : size4 q > mtu
    · rw [if_pos hs, if_pos hs]
      have hr := room_bd hc
      have hl := room_lt hc hs
      have e : (rest1 mtu o q).dat.length = q.dat.length - (room mtu q).toNat := by simp [rest1]
      rw [frg_fuel f g (rest1 mtu o q) (hc.rest hs ho) ho (by omega) (by omega)]
    · rw [if_neg hs, if_neg hs]
/-- What is left, cut. -/
def rst4 (mtu : Int) (o : List UInt8) (mf : Bool) (q : P4) : List P4 := frg mtu o mf (q.dat.length + 1) q
theorem rst4_more (hc : Cuttable mtu q) (ho : o.length ≤ 40 ∧ o.length % 4 = 0) (hs : size4 q > mtu) : rst4 mtu o mf q = part1 mtu q :: rst4 mtu o mf (rest1 mtu o q) := by
  rw [rst4, frg, if_pos hs, rst4]
  congr 1
  have hr := room_bd hc
  have hl := room_lt hc hs
  have e : (rest1 mtu o q).dat.length = q.dat.length - (room mtu q).toNat := by simp [rest1]
  exact frg_fuel _ _ _ (hc.rest hs ho) ho (by omega) (by omega)
theorem rst4_last (hs : ¬ size4 q > mtu) : rst4 mtu o mf q = [{ q with mf := mf }] := by rw [rst4, frg, if_neg hs]
end
def cutE (q : P4) (mtu : Int) : Int := if mtu < 68 ∨ mtu > 65535 then 1 else if chk4 q = 0 then (if q.df = true ∧ size4 q > mtu then 6 else 0) else chk4 q
def cutL (q : P4) (mtu : Int) : List P4 := if cutE q mtu = 0 then rst4 mtu (copied q.opt) q.mf q else []
theorem cutE_ok {q : P4} {mtu : Int} (h : cutE q mtu = 0) : Cuttable mtu q ∧ chk4 q = 0 ∧ ((copied q.opt).length ≤ 40 ∧ (copied q.opt).length % 4 = 0) := by
  unfold cutE at h
  split at h
  · cases h
  · split at h
    · rename_i hm hk
      have hc := Cuttable.of hk (mtu := mtu) (by omega) (by omega)
      have h1 := copied_le hc.opt.2; have h2 := copied_len q.opt; have h3 := hc.opt
      exact ⟨hc, hk, by omega, by omega⟩
    · rename_i hk; exact absurd h hk

/-! ### What fragments are -/
def fol (a b : P4) : Bool := a.mf && a.src == b.src && a.dst == b.dst && a.proto == b.proto && a.id == b.id && (a.off + (a.dat.length : Int) == b.off)
def fit4 (f a x : P4) : Bool := x.src == f.src && x.dst == f.dst && x.proto == f.proto && x.id == f.id && a.mf && (x.off == a.off + (a.dat.length : Int))
/-- Up to a place each follows the one ahead. -/
def chn (l : List P4) (k : Nat) : Prop := ∀ i, i + 1 < k → fol (l.getD i p4z) (l.getD (i + 1) p4z) = true
def fitn (l : List P4) (k : Nat) : Prop := ∀ i, i + 1 < k → fit4 (l.getD 0 p4z) (l.getD i p4z) (l.getD (i + 1) p4z) = true
theorem chn_two (l : List P4) : ∀ k, chn l k → ∀ i, i < k → (l.getD i p4z).src = (l.getD 0 p4z).src ∧ (l.getD i p4z).dst = (l.getD 0 p4z).dst ∧ (l.getD i p4z).proto = (l.getD 0 p4z).proto ∧ (l.getD i p4z).id = (l.getD 0 p4z).id := fun k h i hi => by
  induction i with
  | zero => exact ⟨rfl, rfl, rfl, rfl⟩
  | succ i ih =>
    have hh := h i hi
    obtain ⟨h1, h2, h3, h4⟩ := ih (by omega)
    simp only [fol, Bool.and_eq_true, beq_iff_eq] at hh
    obtain ⟨⟨⟨⟨⟨_, g1⟩, g2⟩, g3⟩, g4⟩, _⟩ := hh
    exact ⟨g1 ▸ h1, g2 ▸ h2, g3 ▸ h3, g4 ▸ h4⟩
theorem fitn_two (l : List P4) (k : Nat) (h : fitn l k) : ∀ i, i < k → (l.getD i p4z).src = (l.getD 0 p4z).src ∧ (l.getD i p4z).dst = (l.getD 0 p4z).dst ∧ (l.getD i p4z).proto = (l.getD 0 p4z).proto ∧ (l.getD i p4z).id = (l.getD 0 p4z).id := fun i hi => by
  cases i with
  | zero => exact ⟨rfl, rfl, rfl, rfl⟩
  | succ i =>
    have hh := h i hi
    simp only [fit4, Bool.and_eq_true, beq_iff_eq] at hh
    obtain ⟨⟨⟨⟨⟨g1, g2⟩, g3⟩, g4⟩, _⟩, _⟩ := hh
    exact ⟨g1, g2, g3, g4⟩
theorem chn_iff (l : List P4) (k : Nat) : chn l k ↔ fitn l k := by
  constructor
  · intro h i hi
    have hh := h i hi
    obtain ⟨h1, h2, h3, h4⟩ := chn_two l k h (i + 1) hi
    simp only [fol, Bool.and_eq_true, beq_iff_eq] at hh
    obtain ⟨⟨⟨⟨⟨hm, _⟩, _⟩, _⟩, _⟩, ho⟩ := hh
    simp only [fit4, Bool.and_eq_true, beq_iff_eq]
    exact ⟨⟨⟨⟨⟨h1, h2⟩, h3⟩, h4⟩, hm⟩, ho.symm⟩
  · intro h i hi
    have hh := h i hi
    obtain ⟨h1, h2, h3, h4⟩ := fitn_two l k h i (by omega)
    simp only [fit4, Bool.and_eq_true, beq_iff_eq] at hh
    obtain ⟨⟨⟨⟨⟨g1, g2⟩, g3⟩, g4⟩, hm⟩, ho⟩ := hh
    simp only [fol, Bool.and_eq_true, beq_iff_eq]
    exact ⟨⟨⟨⟨⟨hm, h1.trans g1.symm⟩, h2.trans g2.symm⟩, h3.trans g3.symm⟩, h4.trans g4.symm⟩, ho.symm⟩
instance (l : List P4) (k : Nat) : Decidable (chn l k) := decidable_of_iff (∀ i, i < k - 1 → fol (l.getD i p4z) (l.getD (i + 1) p4z) = true) ⟨fun h i hi => h i (by omega), fun h i hi => h i (by omega)⟩
/-- The first fault of each alone; none: 0. -/
def bad1 : List P4 → Int
  | [] => 0
  | q :: l => if chk4 q = 0 then bad1 l else chk4 q
theorem bad1_at : ∀ (l : List P4) (k : Nat), (∀ i, i < k → chk4 (l.getD i p4z) = 0) → k < l.length → chk4 (l.getD k p4z) ≠ 0 → bad1 l = chk4 (l.getD k p4z)
  | [], _, _, h, _ => by simp at h
  | q :: l, 0, _, _, h => by
    have h' : chk4 q ≠ 0 := by simpa using h
    rw [bad1, if_neg h']; rfl
  | q :: l, k + 1, h0, hk, h => by
    have hq : chk4 q = 0 := by simpa using h0 0 (by omega)
    rw [bad1, if_pos hq]
    have := bad1_at l k (fun i hi => by simpa using h0 (i + 1) (by omega)) (by simpa using hk) (by simpa using h)
    simpa using this
theorem bad1_ok : ∀ (l : List P4), (∀ i, i < l.length → chk4 (l.getD i p4z) = 0) → bad1 l = 0
  | [], _ => rfl
  | q :: l, h => by
    have hq : chk4 q = 0 := by simpa using h 0 (by simp)
    rw [bad1, if_pos hq]
    exact bad1_ok l fun i hi => by simpa using h (i + 1) (by simpa using hi)
def datas (l : List P4) : List UInt8 := l.flatMap (·.dat)
def whl (l : List P4) : P4 := { l.getD 0 p4z with mf := (l.getD (l.length - 1) p4z).mf, dat := datas l }
def glE (l : List P4) : Int := if l.length = 0 then 1 else if bad1 l = 0 then (if chn l l.length then chk4 (whl l) else 4) else bad1 l
def glV (l : List P4) : P4 := if glE l = 0 then whl l else p4z
theorem datas_take (l : List P4) {k : Nat} (h : k < l.length) : datas (l.take (k + 1)) = datas (l.take k) ++ (l.getD k p4z).dat := by
  have e : l.take (k + 1) = l.take k ++ [l.getD k p4z] := by rw [List.take_add_one, List.getD_eq_getElem?_getD, List.getElem?_eq_getElem h]; rfl
  rw [datas, e, List.flatMap_append, List.flatMap_cons, List.flatMap_nil, List.append_nil]; rfl
theorem datas_take_le (l : List P4) (k : Nat) : (datas (l.take k)).length ≤ (datas l).length := by
  conv => rhs; rw [← List.take_append_drop k l]
  simp only [datas, List.flatMap_append, List.length_append]; omega

/-! ### Fragments are the packet -/
section
variable {mtu : Int} {o : List UInt8} {mf : Bool}
theorem rst4_ind {C : P4 → List P4 → Prop} (ho : o.length ≤ 40 ∧ o.length % 4 = 0)
    (last : ∀ q, Cuttable mtu q → ¬ size4 q > mtu → C q [{ q with mf := mf }])
    (more : ∀ q, Cuttable mtu q → size4 q > mtu → C (rest1 mtu o q) (rst4 mtu o mf (rest1 mtu o q)) → C q (part1 mtu q :: rst4 mtu o mf (rest1 mtu o q))) :
    ∀ (f : Nat) (q : P4), q.dat.length < f → Cuttable mtu q → C q (rst4 mtu o mf q)
  | 0, _, h, _ => absurd h (Nat.not_lt_zero _)
  | f + 1, q, h, hc => by
    by_cases hs : size4 q > mtu
    · have hr := room_bd hc
      have hl := room_lt hc hs
      have e : (rest1 mtu o q).dat.length = q.dat.length - (room mtu q).toNat := by simp [rest1]
      rw [rst4_more hc ho hs]
      exact more q hc hs (rst4_ind ho last more f (rest1 mtu o q) (by omega) (hc.rest hs ho))
    · rw [rst4_last hs]; exact last q hc hs
/-- A list that is a packet's fragments. -/
structure Frags (mtu : Int) (mf : Bool) (q : P4) (l : List P4) : Prop where
  ne : l ≠ []
  all : ∀ x ∈ l, size4 x ≤ mtu ∧ chk4 x = 0
  dat : datas l = q.dat
  one : (l.getD 0 p4z).tos = q.tos ∧ (l.getD 0 p4z).id = q.id ∧ (l.getD 0 p4z).off = q.off ∧ (l.getD 0 p4z).ttl = q.ttl ∧ (l.getD 0 p4z).proto = q.proto ∧ (l.getD 0 p4z).src = q.src ∧ (l.getD 0 p4z).dst = q.dst ∧ (l.getD 0 p4z).df = q.df ∧ (l.getD 0 p4z).opt = q.opt
  last : (l.getD (l.length - 1) p4z).mf = mf
  chn : chn l l.length
theorem chk4_of {x : P4} (h : Cuttable mtu x) (hm : x.mf = true → x.dat.length % 8 = 0) (hs : size4 x ≤ mtu) : chk4 x = 0 := by
  obtain ⟨a1, a2, a3, a4, a5, a6, a7, a8, a9, a10, a11, a12⟩ := h.arg
  obtain ⟨b1, b2, b3, b4⟩ := h.off
  have := h.hi
  rw [chk4, if_pos ⟨a1, a2, a3, a4, a5, a6, a7, a8, a9, a10, a11, a12, b1, b4, b2, h.opt.1, h.opt.2, hm⟩, if_neg (by omega)]
theorem frags_of (ho : o.length ≤ 40 ∧ o.length % 4 = 0) (q : P4) (hc : Cuttable mtu q) (hm : mf = true → q.dat.length % 8 = 0) : Frags mtu mf q (rst4 mtu o mf q) := by
  have key := rst4_ind (mtu := mtu) (o := o) (mf := mf) (C := fun q l => (mf = true → q.dat.length % 8 = 0) → Frags mtu mf q l) ho ?_ ?_ (q.dat.length + 1) q (Nat.lt_succ_self _) hc
  · exact key hm
  · intro q hc hs hm
    have hx : Cuttable mtu { q with mf := mf } := ⟨hc.lo, hc.hi, hc.arg, hc.off, hc.opt⟩
    have hz : size4 { q with mf := mf } = size4 q := rfl
    refine ⟨by simp, fun x hx' => ?_, by simp [datas], ⟨rfl, rfl, rfl, rfl, rfl, rfl, rfl, rfl, rfl⟩, rfl, fun i hi => by simp at hi⟩
    rw [List.mem_singleton.1 hx']
    exact ⟨by omega, chk4_of hx hm (by omega)⟩
  · intro q hc hs ih hm
    have hr := room_bd hc
    have hl := room_lt hc hs
    have hh : head4 (part1 mtu q) = head4 q := rfl
    have hdl : (part1 mtu q).dat.length = (room mtu q).toNat := by simp [part1]; omega
    have hpz : size4 (part1 mtu q) = head4 q + room mtu q := by unfold size4; rw [hh, hdl]; omega
    have hx : Cuttable mtu (part1 mtu q) := by
      obtain ⟨b1, b2, b3, b4⟩ := hc.off
      exact ⟨hc.lo, hc.hi, hc.arg, ⟨b1, b2, by show q.off + _ ≤ _; rw [hdl]; omega, b4⟩, hc.opt⟩
    have hm' : mf = true → (rest1 mtu o q).dat.length % 8 = 0 := fun e => by
      have := hm e
      simp only [rest1, List.length_drop]; omega
    obtain ⟨i1, i2, i3, ⟨t1, t2, t3, t4, t5, t6, t7, t8, t9⟩, i5, i6⟩ := ih hm'
    obtain ⟨y, l, e⟩ : ∃ y l, rst4 mtu o mf (rest1 mtu o q) = y :: l := by
      cases h : rst4 mtu o mf (rest1 mtu o q) with
      | nil => exact absurd h i1
      | cons y l => exact ⟨y, l, rfl⟩
    rw [e] at i2 i3 t1 t2 t3 t4 t5 t6 t7 t8 t9 i5 i6 ⊢
    refine ⟨by simp, fun x hx' => ?_, ?_, ⟨rfl, rfl, rfl, rfl, rfl, rfl, rfl, rfl, rfl⟩, ?_, fun i hi => ?_⟩
    · rcases List.mem_cons.1 hx' with rfl | hx'
      · exact ⟨by omega, chk4_of hx (fun _ => by rw [hdl]; omega) (by omega)⟩
      · exact i2 x hx'
    · have i3' : y.dat ++ datas l = q.dat.drop (room mtu q).toNat := by simpa [datas, rest1] using i3
      show (part1 mtu q).dat ++ (y.dat ++ datas l) = q.dat
      rw [i3']; exact List.take_append_drop _ _
    · simpa using i5
    · cases i with
      | zero =>
        have g : ∀ z : P4, ((y :: l).getD 0 p4z) = y := fun _ => rfl
        simp only [List.getD_cons_zero] at t2 t3 t5 t6 t7
        show fol (part1 mtu q) y = true
        simp only [fol, Bool.and_eq_true, beq_iff_eq]
        refine ⟨⟨⟨⟨⟨rfl, t6.symm⟩, t7.symm⟩, t5.symm⟩, t2.symm⟩, ?_⟩
        rw [t3, hdl]
        show q.off + _ = q.off + room mtu q
        omega
      | succ i =>
        have := i6 i (by simpa using hi)
        simpa using this
/-- Glued, they are the packet. -/
theorem glue_back {q : P4} {l : List P4} (h : Frags mtu q.mf q l) (hq : chk4 q = 0) : glE l = 0 ∧ glV l = q := by
  have hw : whl l = q := by
    obtain ⟨t1, t2, t3, t4, t5, t6, t7, t8, t9⟩ := h.one
    obtain ⟨a0, a1, a2, a3, a4, a5, a6, a7, a8, a9, a10⟩ := q
    unfold whl
    rw [h.last, h.dat]
    simp only at t1 t2 t3 t4 t5 t6 t7 t8 t9 ⊢
    simp only [t1, t2, t3, t4, t5, t6, t7, t8, t9]
  have hb : bad1 l = 0 := bad1_ok l fun i hi => by
    rw [List.getD_eq_getElem?_getD, List.getElem?_eq_getElem hi]
    exact (h.all _ (List.getElem_mem hi)).2
  have hl : l.length ≠ 0 := fun e => h.ne (List.eq_nil_of_length_eq_zero e)
  have he : glE l = 0 := by rw [glE, if_neg hl, if_pos hb, if_pos h.chn, hw]; exact hq
  exact ⟨he, by rw [glV, if_pos he, hw]⟩
end
end Go.Proofs.Ytpoigngpdcmipaa

/-
  Rows of structs: a slice whose elements fill so many cells each, read at an index, grown by one; what a round that grows one keeps. Conditions are each theorem's own.
-/
namespace Go.Proofs.Ytpoigngpdcmipaa
open Go.RowKit Go.Shelf

section
variable {α : Type} {cl : α → List Value} {sz : Nat}
theorem flat_len (l : List α) (h : ∀ x ∈ l, (cl x).length = sz) : (l.flatMap cl).length = l.length * sz := by
  induction l with
  | nil => simp
  | cons x l ih =>
    rw [List.flatMap_cons, List.length_append, h x (by simp), ih (fun y hy => h y (by simp [hy])), List.length_cons, Nat.add_mul]; omega
theorem flat_at : ∀ (l : List α), (∀ x ∈ l, (cl x).length = sz) → ∀ (j : Nat) (x : α), l[j]? = some x → ∀ (i : Nat) (v : Value), (cl x)[i]? = some v → (l.flatMap cl)[j * sz + i]? = some v
  | [], _, j, x, hx, _, _, _ => by simp at hx
  | y :: l, h, 0, x, hx, i, v, hv => by
    simp only [List.getElem?_cons_zero, Option.some.injEq] at hx
    subst hx
    have hi := (List.getElem?_eq_some_iff.1 hv).1
    rw [List.flatMap_cons, Nat.zero_mul, Nat.zero_add, List.getElem?_append_left hi]; exact hv
  | y :: l, h, j + 1, x, hx, i, v, hv => by
    have hy := h y (by simp)
    rw [List.flatMap_cons, List.getElem?_append_right (by rw [hy, Nat.add_mul]; omega), hy, show (j + 1) * sz + i - sz = j * sz + i from by rw [Nat.add_mul]; omega]
    exact flat_at l (fun z hz => h z (by simp [hz])) j x (by simpa using hx) i v hv
/-- The slice at A reads as these elements; its cells lie below block B. -/
def RdS (cl : α → List Value) (sz : Nat) (w : World) (B : Nat) (A : Option Addr) (l : List α) : Prop :=
  0 < l.length → ∃ b off, A = some ⟨b, off, none⟩ ∧ b < B ∧ ∀ j x, l[j]? = some x → w.rangeAt b (off + j * sz) (cl x)
theorem RdS.keep {w w' : World} {B : Nat} {A : Option Addr} {l : List α} (h : RdS cl sz w B A l) (hk : ∀ p : Addr, p.block < B → w'.cell? p = w.cell? p) : RdS cl sz w' B A l := fun hn => by
  obtain ⟨b, off, e, hb, hc⟩ := h hn
  exact ⟨b, off, e, hb, fun j x hx i v hv => (hk ⟨b, _, none⟩ hb).trans (hc j x hx i v hv)⟩
theorem RdS.below {w w' : World} {B : Nat} {A : Option Addr} {l : List α} (h : RdS cl sz w B A l) (hb : Below B w w') : RdS cl sz w' B A l := h.keep fun _ hp => hb.cell hp
theorem RdS.more {w : World} {B B' : Nat} {A : Option Addr} {l : List α} (h : RdS cl sz w B A l) (hB : B ≤ B') : RdS cl sz w B' A l := fun hn => by
  obtain ⟨b, off, e, hb, hc⟩ := h hn
  exact ⟨b, off, e, by omega, hc⟩
theorem own_rds {w : World} {base e n : Nat} {v : Value} {xs : List Value} {l : List α} (h : w.ownsRow base e sz v n xs) (hn : n = l.length) (hx : xs = l.flatMap cl) (hl : ∀ x ∈ l, (cl x).length = sz) :
    ∃ A c, v = .slice A l.length c ∧ RdS cl sz w w.heap.size A l ∧ l.length ≤ c := by
  subst hn; subst hx
  rcases h.2 with ⟨rfl, h0⟩ | ⟨g, cap, cur, rfl, hb, hh, hle, _, hs, ht⟩
  · exact ⟨none, 0, by rw [h0], fun hn => by omega, by omega⟩
  · refine ⟨_, cap, rfl, fun _ => ⟨g, 0, rfl, heap_lt hh, fun j x hx i v hv => ?_⟩, hle⟩
    have hf := flat_at l hl j x hx i v hv
    have hcl : j * sz + i < l.length * sz := by
      have := (List.getElem?_eq_some_iff.1 hf).1
      rwa [flat_len l hl] at this
    have := World.ownsRow.cellAt h (j * sz + i) hcl
    rw [hf] at this
    rw [Nat.zero_add]; exact this
end

/-! ### What a round keeps -/
/-- Each block of cells lies as it lay, but for variables of type t, and rows of type e of more than one element. -/
structure KeepS (e t sz : Nat) (X Y : World) : Prop where
  size : X.heap.size ≤ Y.heap.size
  block : ∀ (k : Nat) (cs : Array Value) (ty : TypeId) (fr : Nat × Nat), X.heap[k]? = some (.cells cs ty fr) → ty ≠ t → (ty = e → cs.size ≤ sz) → Y.heap[k]? = X.heap[k]?
section
variable {e t sz : Nat} {X Y Z : World}
theorem KeepS.refl (X : World) : KeepS e t sz X X := ⟨Nat.le_refl _, fun _ _ _ _ _ _ _ => rfl⟩
theorem KeepS.trans (h : KeepS e t sz X Y) (k : KeepS e t sz Y Z) : KeepS e t sz X Z :=
  ⟨Nat.le_trans h.size k.size, fun i cs ty fr hi h1 h2 => (k.block i cs ty fr ((h.block i cs ty fr hi h1 h2).trans hi) h1 h2).trans (h.block i cs ty fr hi h1 h2)⟩
theorem KeepS.of_below (h : Below X.heap.size X Y) : KeepS e t sz X Y := ⟨h.size, fun _ _ _ _ hi _ _ => h.block _ (heap_lt hi)⟩
theorem KeepS.loop {l : Nat} {r r' : Loop} (hl : X.heap[l]? = some (.loop r)) : KeepS e t sz X (X.putObj l (.loop r')) :=
  ⟨by simp, fun k cs ty fr hk _ _ => World.putObj_heap_other (fun e => by rw [e, hl] at hk; cases hk)⟩
theorem KeepS.set {b : Nat} {u v : Value} {ty : TypeId} (h : Boxed X b ty u) (ht : ty = t) : KeepS e t sz X (X.setCell ⟨b, 0, none⟩ v) :=
  ⟨by simp, fun k cs ty' fr hk h1 _ => Below.heap_setCell X _ _ k (fun e => by rw [e] at hk; have := (show X.heap[b]? = _ from h).symm.trans hk; simp at this; exact h1 (this.2.1.symm.trans ht))⟩
theorem KeepS.own {base e' s' n : Nat} {v : Value} {xs : List Value} (h : X.ownsRow base e' s' v n xs) (k : KeepS e t sz X Y) (h1 : e' ≠ t) (h2 : e' ≠ e) : Y.ownsRow base e' s' v n xs := by
  refine ⟨h.1, ?_⟩
  rcases h.2 with hn | ⟨g, cap, cur, hv, hb, hg, rest⟩
  · exact .inl hn
  · exact .inr ⟨g, cap, cur, hv, hb, (k.block g cur e' _ hg h1 (fun e => absurd e h2)).trans hg, rest⟩
theorem KeepS.box {b : Nat} {ty : TypeId} {v : Value} (k : KeepS e t sz X Y) (h : Boxed X b ty v) (h1 : ty ≠ t) (h2 : ty = e → 1 ≤ sz) : Boxed Y b ty v := (k.block b _ _ _ h h1 (fun e => by simpa using h2 e)).trans h
theorem KeepS.heap {b : Nat} {cs : Array Value} {ty : TypeId} {fr : Nat × Nat} (k : KeepS e t sz X Y) (h : X.heap[b]? = some (.cells cs ty fr)) (h1 : ty ≠ t) (h2 : cs.size ≤ sz) : Y.heap[b]? = some (.cells cs ty fr) := (k.block b _ _ _ h h1 (fun _ => h2)).trans h
end

/-! ### One element more -/
section
variable {P : Program}
theorem fill_one (cs z : Array Value) (sz : Nat) (hc : cs.size = sz) (hs : 0 < sz) :
    Instr.fill (fun i => some (i * sz, sz)) ((Array.range (1 * sz)).map (z[· % z.size]!)) [(0, .agg cs)] = some cs := by
  have h := Great.fill_whole hs [.agg cs] ((Array.range (1 * sz)).map (z[· % z.size]!)) (by simp [Value.cells, hc]) (by simp)
  simpa [Value.cells] using h
/-- A slice literal of one struct. -/
theorem run_lit1 (w : World) (t e : TypeId) (ie : TypeInfo) (z : Value) (cs : Array Value) (sz : Nat) (hu : P.underlying t = some (.slice e)) (hie : P.info? e = some ie) (hz : ie.zero = some z)
    (hs : ie.size = sz) (hc : cs.size = sz) (h0 : 0 < sz) (h1 : sz ≤ 1000) :
    (Instr.buildSlice t 1 #[(0, .agg cs)]).run P w = .ok (.slice (some ⟨w.heap.size, 0, none⟩) 1 1) (w.alloc (.cells cs e)) :=
  run_buildSlice w t e 1 _ cs ie z hu hie hz (by rw [hs]; omega) (by rw [hs]; omega) (by rw [hs]; exact fill_one cs z.cells sz hc h0)
/-- What an append of one element keeps. -/
theorem append_keeps (w : World) (base t ty e : Nat) (i : TypeInfo) (z : Value) (size bytes : Nat) (ht : P.underlying t = some (.slice e)) (hi : P.info? e = some i) (hz : i.zero = some z)
    (hsize : i.size = size) (hby : i.bytes = bytes) (hsz : 0 < size)
    (v : Value) (n : Nat) (xs : List Value) (hown : w.ownsRow base e size v n xs) (hv : v = .slice none 0 0 ∨ 0 < n)
    (a : Addr) (c : Nat) (news : List Value) (hl : news.length = size) (hnews : ∀ j u, news[j]? = some u → w.cell? (a.add j) = some u) (h1 : ∀ u ∈ news, u.oneCell' = true)
    (h63 : n + 1 ≤ maxLen) (hbytes : (n + 1) * bytes ≤ 140737488355328) {v' : Value} {w' : World}
    (hr : (Builtin.append_ #[t, t] ty #[v, .slice (some a) 1 c]).run P w = .ok v' w') :
    (∀ (k : Nat) (cs : Array Value) (y : TypeId) (fr : Nat × Nat), w.heap[k]? = some (.cells cs y fr) → (y = e → cs.size ≤ size) → w'.heap[k]? = w.heap[k]?) ∧ (v'.ownBlock = v.ownBlock ∨ v'.ownBlock = some w.heap.size) := by
  subst hsize
  subst hby
  have hl1 : news.length = 1 * i.size := by omega
  rcases hown.2 with ⟨rfl, rfl⟩ | ⟨g, cap, cur, rfl, hbg, hg, hnc, hcm, hcs, htake⟩
  · have h := run_append_nil (P := P) w t ty e i z ht hi hz a 1 c news hl1 hnews (by omega) (by omega) (by simp only [Nat.zero_add] at hbytes; omega)
    rw [h] at hr
    cases hr
    exact ⟨fun k cs y fr hk _ => Below.heap_alloc w.drew _ k (heap_lt hk), .inr rfl⟩
  · have hn : 0 < n := by
      rcases hv with e | e
      · cases e
      · exact e
    by_cases hroom : n + 1 ≤ cap
    · have hfit : n * i.size + news.length ≤ cur.size := by rw [hl1, hcs, ← Nat.add_mul]; exact Nat.mul_le_mul_right _ hroom
      have h := run_append_room (P := P) w t ty e i ht hi g n cap cur hg a 1 c news hl1 hnews h1 hroom hfit
      rw [h] at hr
      cases hr
      refine ⟨fun k cs y fr hk hy => setRow_other w g k _ (fun e' => ?_), .inl rfl⟩
      subst e'
      rw [hg] at hk
      cases hk
      have h2 := hy rfl
      have h3 : 2 * i.size ≤ cap * i.size := Nat.mul_le_mul_right _ (by omega)
      omega
    · have holds : ∀ j u, xs[j]? = some u → w.cell? ((⟨g, 0, none⟩ : Addr).add j) = some u := hown.cells (g := g) rfl
      have h := run_append_grow (P := P) w t ty e i z ht hi hz ⟨g, 0, none⟩ n cap xs hown.1 holds a 1 c news hl1 hnews (by omega) (by simp only [maxLen] at h63; omega) (growslice_fits (by omega) hbytes)
      rw [h] at hr
      cases hr
      exact ⟨fun k cs y fr hk _ => Below.heap_alloc w.drew _ k (heap_lt hk), .inr rfl⟩
theorem wpListIn_append_one {F : Fence} {n : Nat} (w : World) {ops : Array Oper} {rest : List Oper} {o : Oper} {a : Act} {Q : Exit → Act → World → Prop}
    (hg : o.guard = none) (s x : Operand) (t : TypeId) (hop : o.op = Op.call { callee := Callee.builtin Builtin.append, args := #[s, x], argTypes := #[t, t] })
    (base : Nat) (e : TypeId) (i : TypeInfo) (z : Value) (size bytes : Nat) (h1 : P.underlying t = some (.slice e)) (h2 : P.info? e = some i) (h3 : i.zero = some z) (h4 : i.size = size) (h5 : i.bytes = bytes) (h6 : z.cells.size = size) (h7 : 0 < size)
    (v : Value) (k : Nat) (xs : List Value) (hs : a.eval s = v) (hown : w.ownsRow base e size v k xs) (hv : v = .slice none 0 0 ∨ 0 < k) (ad : Addr) (c : Nat) (news : List Value) (hx : a.eval x = .slice (some ad) 1 c) (hn : news.length = size)
    (hc : ∀ j u, news[j]? = some u → w.cell? (ad.add j) = some u) (h1c : ∀ u ∈ news, u.oneCell' = true) (b1 : k + 1 ≤ maxLen) (b2 : (k + 1) * bytes ≤ 140737488355328) (b3 : base ≤ w.heap.size)
    (hK : ∀ v' w', w'.ownsRow base e size v' (k + 1) (xs ++ news) → w.grownBy w' v.ownBlock →
      (∀ (j : Nat) (cs : Array Value) (y : TypeId) (fr : Nat × Nat), w.heap[j]? = some (.cells cs y fr) → (y = e → cs.size ≤ size) → w'.heap[j]? = w.heap[j]?) → (v'.ownBlock = v.ownBlock ∨ v'.ownBlock = some w.heap.size) → wpListIn F n P ops Q rest (a.put o.dst v') w') :
    wpListIn F n P ops Q (o :: rest) a w := by
  refine wpListIn_plain hg fun K hK' => ?_
  have hn1 : news.length = 1 * size := by omega
  obtain ⟨v', w', hrun, r1, r2, r3⟩ := run_append_own (P := P) w base t o.type e i z size bytes h1 h2 h3 h4 h5 h6 h7 v k xs hown ad 1 c news hn1 hc h1c b1 b2 b3
  have r4 := append_keeps w base t o.type e i z size bytes h1 h2 h3 h4 h5 h7 v k xs hown hv ad c news hn hc h1c b1 b2 hrun
  unfold Oper.wpIn
  refine ⟨?_, ?_⟩
  · simp [Oper.about, hop, resolve, Target.leads, Sem.run_pure]
  · rw [Oper.semAt_plain F _ _ (by rw [hop]; intro c hc'; cases hc')]
    simp [execOp, hop, resolve, invoke, builtin, hs, hx, hrun, Result.andThen]
    exact hK' _ _ (hK v' w' r1 r2 r4.1 r4.2)
end
end Go.Proofs.Ytpoigngpdcmipaa

/-
  Contracts of cut4's optionSize, each and its iterator. Conditions are each theorem's own.
-/
namespace Go.Proofs.Ytpoigngpdcmipaa
open Go.RowKit Go.Shelf
attribute [local go_sem] Oper.semAt_some

/-- The blocks of which S is lie as they lay. -/
def KeepP (S : Nat → Prop) (X Y : World) : Prop := X.heap.size ≤ Y.heap.size ∧ ∀ k, S k → Y.heap[k]? = X.heap[k]?
theorem KeepP.refl (S : Nat → Prop) (X : World) : KeepP S X X := ⟨Nat.le_refl _, fun _ _ => rfl⟩
theorem KeepP.trans {S : Nat → Prop} {X Y Z : World} (h : KeepP S X Y) (k : KeepP S Y Z) : KeepP S X Z := ⟨Nat.le_trans h.1 k.1, fun i hi => (k.2 i hi).trans (h.2 i hi)⟩
theorem KeepP.cell {S : Nat → Prop} {X Y : World} (h : KeepP S X Y) {p : Addr} (hp : S p.block) : Y.cell? p = X.cell? p := World.cell?_of_block (w := X) (h.2 p.block hp)
theorem KeepP.loop {S : Nat → Prop} {X : World} {l : Nat} {r' : Loop} (hl : ¬ S l) : KeepP S X (X.putObj l (.loop r')) :=
  ⟨by simp, fun k hk => World.putObj_heap_other (fun e => hl (e ▸ hk))⟩
theorem KeepP.of_below {S : Nat → Prop} {B : Nat} {X Y : World} (h : Below B X Y) (hS : ∀ k, S k → k < B) : KeepP S X Y := ⟨h.size, fun k hk => h.block k (hS k hk)⟩

def encS (x : OI) : Array Value := #[.slice x.A x.n x.c]
end Go.Proofs.Ytpoigngpdcmipaa

/-
  Contract of tcp.MSS. Conditions are each theorem's own.
-/
namespace Go.Proofs.Ytpoigngpdcmipaa
open Go.RowKit Go.Shelf
attribute [local go_sem] Oper.semAt_some
theorem byt_take (b : List UInt8) {n j : Nat} (h : j < n) : byt (b.take n) j = byt b j := by simp [byt, h]
theorem loadv_int {w : World} {g : Nat} {v : Value} (h : Boxed w g 3 v) : (loadVar 3 ⟨g, 0, none⟩).run Try.prog w = .ok v w := by
  have hagg : (isAgg 3).run Try.prog w = .ok false w := by
    unfold isAgg
    rw [Sem.run_bind, run_underlying Try.underlying3 w]; rfl
  have hc := h.cell
  simp [loadVar, Sem.run_bind, hagg, hc]
theorem loadv_bool {w : World} {g : Nat} {v : Value} (h : Boxed w g 4 v) : (loadVar 4 ⟨g, 0, none⟩).run Try.prog w = .ok v w := by
  have hagg : (isAgg 4).run Try.prog w = .ok false w := by
    unfold isAgg
    rw [Sem.run_bind, run_underlying Try.underlying4 w]; rfl
  have hc := h.cell
  simp [loadVar, Sem.run_bind, hagg, hc]
theorem cells3 {fn : Func} {p q r : Tmp} {tmps : Array Value} {w : World} {g : Nat} {x y z : Value} (h : fn.results = #[.cell p 3, .cell q 3, .cell r 4])
    (hp : tmps.getD p undef = .pointer (some ⟨g, 0, none⟩)) (hq : tmps.getD q undef = .pointer (some ⟨g + 1, 0, none⟩)) (hr : tmps.getD r undef = .pointer (some ⟨g + 1 + 1, 0, none⟩))
    (h0 : Boxed w g 3 x) (h1 : Boxed w (g + 1) 3 y) (h2 : Boxed w (g + 1 + 1) 4 z) :
    (results fn tmps).run Try.prog w = .ok (.tuple #[x, y, z]) w := by
  have hp' : tmps[p]?.getD undef = .pointer (some ⟨g, 0, none⟩) := by simpa using hp
  have hq' : tmps[q]?.getD undef = .pointer (some ⟨g + 1, 0, none⟩) := by simpa using hq
  have hr' : tmps[r]?.getD undef = .pointer (some ⟨g + 1 + 1, 0, none⟩) := by simpa using hr
  simp [results, h, hp', hq', hr', asAddr, loadv_int h0, loadv_int h1, loadv_bool h2]
/-- Three results in blocks of their own, in a row. -/
structure Three (W : World) (g : Nat) (x y : Int) (z : Bool) : Prop where
  one : Boxed W g 3 (.int .i64 x)
  two : Boxed W (g + 1) 3 (.int .i64 y)
  three : Boxed W (g + 1 + 1) 4 (.bool z)
theorem Three.below {W V : World} {g n : Nat} {x y : Int} {z : Bool} (h : Three W g x y z) (hb : Below n W V) (hn : g + 1 + 1 < n) : Three V g x y z :=
  ⟨Boxed.below h.one hb (by omega), Boxed.below h.two hb (by omega), Boxed.below h.three hb hn⟩
theorem Three.kept {W V : World} {g n : Nat} {x y : Int} {z : Bool} {r : Option Nat} (h : Three W g x y z) (hg : W.grownBy V r) (hr : ∀ k, r = some k → n ≤ k ∧ ∃ o : Obj, W.heap[k]? = some o ∧ o.isCells = false) : Three V g x y z :=
  ⟨box_keep h.one hg hr, box_keep h.two hg hr, box_keep h.three hg hr⟩
theorem Three.set {W : World} {g : Nat} {x y : Int} {z : Bool} (h : Three W g x y z) (x' y' : Int) (z' : Bool) :
    Three (((W.setCell ⟨g, 0, none⟩ (.int .i64 x')).setCell ⟨g + 1, 0, none⟩ (.int .i64 y')).setCell ⟨g + 1 + 1, 0, none⟩ (.bool z')) g x' y' z' :=
  ⟨(((Boxed.set _ h.one).other (by omega) _).other (by omega) _), ((Boxed.set _ (h.two.other (by omega) _)).other (by omega) _), Boxed.set _ ((h.three.other (by omega) _).other (by omega) _)⟩
theorem find_split {α : Type} {p : α → Bool} {l pre more : List α} (h : l = pre ++ more) (hn : ∀ x ∈ pre, p x = false) : l.find? p = more.find? p := by
  subst h
  rw [List.find?_append, List.find?_eq_none.2 (fun x hx => by simp [hn x hx]), Option.none_or]
section
variable (q : PT) (A A' : Option Addr) (c c' : Nat) (w : World)
end
end Go.Proofs.Ytpoigngpdcmipaa

/-
  Layer 8's awake, and what Build answers, in one shape. Conditions are each theorem's own.
-/
namespace Go.Proofs.Ytpoigngpdcmipaa
open Go.RowKit

def resT (src dst : Int) (q : PT) : List UInt8 := if chkT q = 0 then bldT src dst q else []
theorem resT_shape {src dst : Int} {q : PT} {w w' : World} {v : Value} (h : (chkT q ≠ 0 → v = .slice none 0 0 ∧ Below w.heap.size w w') ∧ (chkT q = 0 → Made w w' v (bldT src dst q))) :
    ∃ P k, v = .slice P (resT src dst q).length k ∧ Rd w' w'.heap.size P (resT src dst q) ∧ Below w.heap.size w w' := by
  by_cases hc : chkT q = 0
  · obtain ⟨A, c, rfl, hl, hr, ho, hb⟩ := h.2 hc
    exact ⟨A, c, by rw [resT, if_pos hc], by rw [resT, if_pos hc]; exact hr, hb⟩
  · obtain ⟨rfl, hb⟩ := h.1 hc
    exact ⟨none, 0, by rw [resT, if_neg hc]; rfl, by rw [resT, if_neg hc]; exact Rd.nil, hb⟩
def qaT : PT := ⟨1, 2, 0, 0, 0, 0, 0, 0, [1, 2, 4, 5, 180, 1, 1, 1], []⟩
theorem argA {B g : Nat} {w : World} (hg : w.heap[g]? = some (.cells #[.int .u8 1, .int .u8 2, .int .u8 4, .int .u8 5, .int .u8 180, .int .u8 1, .int .u8 1, .int .u8 1] 5 (0, 0))) (hB : g < B) : Arg w B (some ⟨g, 0, none⟩) 8 qaT.opt :=
  ⟨Rd.of_block hg hB 0 (fun j hj => by
    have hj : j < 8 := hj
    rcases (by omega : j = 0 ∨ j = 1 ∨ j = 2 ∨ j = 3 ∨ j = 4 ∨ j = 5 ∨ j = 6 ∨ j = 7) with rfl | rfl | rfl | rfl | rfl | rfl | rfl | rfl <;> rfl), by decide, fun e => by cases e⟩
end Go.Proofs.Ytpoigngpdcmipaa

/-
  Contracts of the document's Option, Places and MSS of layer 8. Conditions are each theorem's own.
-/
namespace Go.Proofs.Ytpoigngpdcmipaa
open Go.RowKit
end Go.Proofs.Ytpoigngpdcmipaa

/-
  Contract of the document's Places of layer 8. Conditions are each theorem's own.
-/
namespace Go.Proofs.Ytpoigngpdcmipaa
open Go.RowKit
/-- Places as values. -/
def pv (ps : List Nat) : List Value := ps.map fun (x : Nat) => Value.int .i64 (x : Int)
theorem pv_len (ps : List Nat) : (pv ps).length = ps.length := by simp [pv]
theorem info_int : (Try.prog.info? 3).map (fun i => (i.zero, i.size, i.bytes)) = some (some (.int .i64 0), 1, 8) := by kernel_rfl
/-- append of one number onto a row of the call's own. -/
theorem append_int {w : World} {ops : Array Oper} {rest : List Oper} {o : Oper} {a : Act} {Q : Exit → Act → World → Prop} (hgd : o.guard = none) (s x : Operand)
    (ho : o.op = .call { callee := .builtin .append, args := #[s, x], argTypes := #[52, 52] })
    (base : Nat) (v : Value) (n : Nat) (ls : List Nat) (hs : a.eval s = v) (hown : w.ownsRow base 3 1 v n (pv ls))
    (g : Nat) (y : Nat) (hx : a.eval x = .slice (some ⟨g, 0, none⟩) 1 1) (hy : w.cell? ⟨g, 0, none⟩ = some (.int .i64 (y : Int)))
    (hlen : n ≤ 1000001) (hbase : base ≤ w.heap.size)
    (h : ∀ v' w', w'.ownsRow base 3 1 v' (n + 1) (pv (ls ++ [y])) → w.grownBy w' v.ownBlock → wpList Try.prog ops Q rest (a.put o.dst v') w') : wpList Try.prog ops Q (o :: rest) a w := by
  obtain ⟨i0, hi, hz0, hz1, hz2⟩ := info_parts info_int
  refine wpList_append_own w hgd s x 52 ho base 3 i0 (.int .i64 0) 1 8 Try.underlying52 hi hz0 hz1 hz2 rfl (by decide) v n (pv ls) hs hown ⟨g, 0, none⟩ 1 1 [.int .i64 (y : Int)] hx
      rfl (fun j u hu => ?_) (by intro u hu; simp only [List.mem_singleton] at hu; subst hu; rfl) (by unfold maxLen; omega) (by omega) hbase (fun v' w' h1 h2 _ => h v' w' (by simpa [pv] using h1) h2)
  have hj : j = 0 := by have := (List.getElem?_eq_some_iff.1 hu).1; simp at this; exact this
  subst hj
  simp only [List.getElem?_cons_zero, Option.some.injEq] at hu
  rw [← hu, add_off]; exact hy
end Go.Proofs.Ytpoigngpdcmipaa

/-
  Contract of the document's MSS of layer 8. Conditions are each theorem's own.
-/
namespace Go.Proofs.Ytpoigngpdcmipaa
open Go.RowKit
/-- A row of places, as a slice. -/
theorem own_pv {w : World} {base : Nat} {v : Value} {ps : List Nat} (h : w.ownsRow base 3 1 v ps.length (pv ps)) :
    ∃ P c, v = .slice P ps.length c ∧ ∀ j, j < ps.length → ∃ g, P = some ⟨g, 0, none⟩ ∧ g < w.heap.size ∧ w.cell? ⟨g, j, none⟩ = some (.int .i64 ((ps.getD j 0 : Nat) : Int)) := by
  have h' := h
  rcases h'.2 with ⟨e, h0⟩ | ⟨g, cap, cur, e, _, hh, _, _⟩
  · exact ⟨none, 0, by rw [e, h0], fun j hj => by omega⟩
  · refine ⟨_, cap, e, fun j hj => ⟨g, rfl, heap_lt hh, ?_⟩⟩
    have := World.ownsRow.cells h (g := g) (by rw [e]; rfl) j (.int .i64 ((ps.getD j 0 : Nat) : Int)) (by simp [pv, hj])
    rwa [add_off, Nat.zero_add] at this
section
variable (q : PT) (A : Option Addr) (c : Nat) (A' : Option Addr) (c' : Nat) (w : World)
end
end Go.Proofs.Ytpoigngpdcmipaa

/-
  Contracts of Copied: cut4's, and the document's of layer 13. Conditions are each theorem's own.
-/
namespace Go.Proofs.Ytpoigngpdcmipaa
open Go.RowKit Go.Shelf
attribute [local go_sem] Oper.semAt_some

theorem cop1_cut (b : List UInt8) (a : Nat) (h : byt b a ≥ 128) : cop1 b a = (b.take (a + optL b a)).drop a := by
  rw [cop1, if_pos h, List.drop_take]; congr 1; omega
theorem cop1_no {b : List UInt8} {a : Nat} (h : ¬ byt b a ≥ 128) : cop1 b a = [] := by rw [cop1, if_neg h]
theorem rep_snoc (C : List UInt8) (j : Nat) : (C ++ List.replicate j 0) ++ [0] = C ++ List.replicate (j + 1) 0 := by
  rw [List.append_assoc, List.replicate_succ']
theorem rd_zero (w : World) : Rd (w.alloc (.cells #[.int .u8 0] 5)) (w.heap.size + 1) (some ⟨w.heap.size, 0, none⟩) [0] := by
  refine Rd.of_block (World.alloc_heap_new w _) (Nat.lt_succ_self _) 0 (fun j hj => ?_)
  have h0 : j = 0 := by simpa using hj
  subst h0; rfl
theorem places_get {b : List UInt8} {k : Nat} (h : k < (places b).length) : 0 < optL b ((places b).getD k 0) := by
  rw [List.getD_eq_getElem?_getD, List.getElem?_eq_getElem h]; exact places_mem (List.getElem_mem h)
theorem cops_step (b : List UInt8) {k : Nat} (h : k < (places b).length) : cops b ((places b).take (k + 1)) = cops b ((places b).take k) ++ cop1 b ((places b).getD k 0) := by
  have e : (places b).take (k + 1) = (places b).take k ++ [(places b).getD k 0] := by rw [List.take_add_one, List.getD_eq_getElem?_getD, List.getElem?_eq_getElem h]; rfl
  rw [e, cops_snoc]
theorem cops_take (b : List UInt8) (k : Nat) : (cops b ((places b).take k)).length ≤ b.length := cops_pre b (more := (places b).drop k) (List.take_append_drop _ _).symm
end Go.Proofs.Ytpoigngpdcmipaa

/-
  Contract of cut4's Copied; append onto what a variable's box holds. Conditions are each theorem's own.
-/
namespace Go.Proofs.Ytpoigngpdcmipaa
open Go.RowKit Go.Shelf
attribute [local go_sem] Oper.semAt_some

/-- 'out = append(out, ..)' out of the append law's two words, no block laid ahead of it. -/
theorem appended0 {W w1 : World} {n₀ B : Nat} {t e : TypeId} {size : Nat} {v v' : Value} {k m : Nat} {xs ys : List Value}
    (hv : Boxed W B t v) (hte : t ≠ e) (hrow : W.ownsRow n₀ e size v k xs) (hn₀ : n₀ ≤ W.heap.size) (hB : n₀ ≤ B)
    (hown' : w1.ownsRow n₀ e size v' m ys) (hgrow : W.grownBy w1 v.ownBlock) :
    Boxed w1 B t v ∧ Boxed (w1.setCell ⟨B, 0, none⟩ v') B t v' ∧ (w1.setCell ⟨B, 0, none⟩ v').ownsRow n₀ e size v' m ys ∧ KeepsOthers W (w1.setCell ⟨B, 0, none⟩ v') ∧ Below n₀ W (w1.setCell ⟨B, 0, none⟩ v') := by
  have hv1 : Boxed w1 B t v := hv.kept hgrow (hv.not_row hte hrow)
  refine ⟨hv1, hv1.set v', hown'.kept (grownBy_setCell' w1 B v') (.inr (hv1.not_row hte hown').symm), ?_, ?_⟩
  · refine (KeepsOthers.of_grownBy hgrow fun j o ej hj => ?_).trans (KeepsOthers.setCell _ _ _)
    rcases hrow.2 with ⟨rfl, _⟩ | ⟨g, cap, cur, rfl, _, hgb, _⟩
    · simp [Value.ownBlock] at ej
    · obtain rfl : g = j := by simpa [Value.ownBlock] using ej
      rw [hgb] at hj; cases hj; rfl
  · refine ((Below.refl n₀ W).grown hgrow hn₀ fun j ej => ?_).setCell (p := ⟨B, 0, none⟩) hB v'
    rcases hrow.2 with ⟨rfl, _⟩ | ⟨g, cap, cur, rfl, hb, _, _⟩
    · simp [Value.ownBlock] at ej
    · obtain rfl : g = j := by simpa [Value.ownBlock] using ej
      exact hb
theorem Marks.from {lo : Nat} {w w' : World} (hk : KeepsFrom lo w w') : ∀ {ds : List Deferred} {hi : Nat}, Marks lo hi ds w → Marks lo hi ds w'
  | [], _, _ => trivial
  | _ :: _, _, ⟨D, e, h1, h2, h3, h4⟩ => ⟨D, e, h1, h2, hk.same D _ h1 h3 rfl, Marks.from hk h4⟩
theorem nat_ne {a b : Nat} (h : (a == b) = false) : a ≠ b := by simpa using h
/-- The length of the slice that a box holds. -/
def lenAt (w : World) (g : Nat) : Nat := match w.cell? ⟨g, 0, none⟩ with | some (.slice _ n _) => n | _ => 0
theorem lenAt_box {w : World} {g t : Nat} {A : Option Addr} {n c : Nat} (h : Boxed w g t (.slice A n c)) : lenAt w g = n := by unfold lenAt; rw [h.cell]
theorem own_slice {w : World} {base e s n : Nat} {v : Value} {xs : List Value} (h : w.ownsRow base e s v n xs) : ∃ A c, v = .slice A n c := by
  rcases h.2 with ⟨e, h0⟩ | ⟨g, cap, cur, e, _⟩
  · exact ⟨none, 0, by rw [e, h0]⟩
  · exact ⟨_, cap, e⟩
end Go.Proofs.Ytpoigngpdcmipaa

/-
  Packets of IPv4 as elements of a slice: their cells, what their lists own; contract of cut4's part. Conditions are each theorem's own.
-/
namespace Go.Proofs.Ytpoigngpdcmipaa
open Go.RowKit Go.Shelf

/-- A packet, and where its lists lie. -/
structure X4 where
  q : P4
  A : Option Addr
  c : Nat
  A' : Option Addr
  c' : Nat
def cl4 (x : X4) : List Value := (v4a x.q x.A x.c x.A' x.c').toList
theorem cl4_len (x : X4) : (cl4 x).length = 11 := rfl
theorem cl4_one (x : X4) : ∀ u ∈ cl4 x, u.oneCell' = true := by
  intro u hu
  simp only [cl4, v4a, List.mem_cons, List.not_mem_nil, or_false] at hu
  rcases hu with rfl | rfl | rfl | rfl | rfl | rfl | rfl | rfl | rfl | rfl | rfl <;> rfl
def val4 (x : X4) : Value := v4v x.q x.A x.c x.A' x.c'
/-- Its lists are rows of the call's own. -/
def Own4 (W : World) (base : Nat) (x : X4) : Prop := W.ownsRow base 5 1 (.slice x.A x.q.opt.length x.c) x.q.opt.length (row x.q.opt) ∧ W.ownsRow base 5 1 (.slice x.A' x.q.dat.length x.c') x.q.dat.length (row x.q.dat)
section
variable {W V : World} {base : Nat} {x : X4}
theorem Own4.below (h : Own4 W base x) (hb : Below W.heap.size W V) : Own4 V base x := ⟨own_below h.1 hb, own_below h.2 hb⟩
theorem Own4.base_ {base' : Nat} (h : Own4 W base' x) (hb : base ≤ base') : Own4 W base x := ⟨own_base h.1 hb, own_base h.2 hb⟩
theorem Own4.arg (h : Own4 W base x) : Arg W W.heap.size x.A x.c x.q.opt := arg_own h.1
theorem Own4.arg' (h : Own4 W base x) : Arg W W.heap.size x.A' x.c' x.q.dat := arg_own h.2
theorem Own4.keep {e t sz : Nat} (h : Own4 W base x) (k : KeepS e t sz W V) (h1 : 5 ≠ t) (h2 : 5 ≠ e) : Own4 V base x := ⟨k.own h.1 h1 h2, k.own h.2 h1 h2⟩
theorem Own4.loop {l : Nat} {r r' : Loop} (h : Own4 W base x) (hl : W.heap[l]? = some (.loop r)) : Own4 (W.putObj l (.loop r')) base x := ⟨ownsRow_putObj h.1 _ hl rfl, ownsRow_putObj h.2 _ hl rfl⟩
theorem Own4.turn {r : Option Nat} (h : Own4 W base x) (hg : W.grownBy V r) (hr : ∀ k, r = some k → ∃ o : Obj, W.heap[k]? = some o ∧ o.isCells = false) : Own4 V base x := by
  have key : ∀ {v : Value} {n : Nat} {xs : List Value}, W.ownsRow base 5 1 v n xs → V.ownsRow base 5 1 v n xs := fun {v n xs} h => by
    refine h.kept hg ?_
    rcases h.2 with ⟨rfl, _⟩ | ⟨g, cap, cur, rfl, _, hgb, _⟩
    · exact .inl rfl
    · refine .inr fun e' => ?_
      obtain ⟨o, ho, hc⟩ := hr g (by simpa [Value.ownBlock] using e'.symm)
      rw [hgb] at ho; cases ho; cases hc
  exact ⟨key h.1, key h.2⟩
end
theorem own_setCellB {w : World} {base e sz n t : Nat} {v : Value} {xs : List Value} {cs : Array Value} (h : w.ownsRow base e sz v n xs) {g i : Nat} {u : Value} (hg : w.heap[g]? = some (.cells cs t (0, 0))) (hte : t ≠ e) : (w.setCell ⟨g, i, none⟩ u).ownsRow base e sz v n xs := by
  refine ⟨h.1, ?_⟩
  rcases h.2 with hn | ⟨g', cap, cur, hv, hb, hg', rest⟩
  · exact .inl hn
  · refine .inr ⟨g', cap, cur, hv, hb, (heap_setCell_other w ⟨g, i, none⟩ g' u (fun e' => ?_)).trans hg', rest⟩
    have e'' : g' = g := e'
    subst e''
    rw [hg'] at hg
    cases hg; exact hte rfl
theorem own_setRowB {w : World} {base e sz n t : Nat} {v : Value} {xs : List Value} {cs cs' : Array Value} (h : w.ownsRow base e sz v n xs) {g : Nat} (hg : w.heap[g]? = some (.cells cs t (0, 0))) (hte : t ≠ e) : (w.setRow g cs').ownsRow base e sz v n xs := by
  refine ⟨h.1, ?_⟩
  rcases h.2 with hn | ⟨g', cap, cur, hv, hb, hg', rest⟩
  · exact .inl hn
  · refine .inr ⟨g', cap, cur, hv, hb, (setRow_other w g g' cs' (fun e' => ?_)).trans hg', rest⟩
    subst e'
    rw [hg'] at hg
    cases hg; exact hte rfl
end Go.Proofs.Ytpoigngpdcmipaa
