/-
  Contracts and lemmas on which the proofs of this seat stand (several texts in one). Conditions are each theorem's own.
-/
import Derived.Lib.Hide
import Derived.Test.YtjoaaabdcfcdiaaDoorCc1
import Derived.Deep.RegionHeld3
import Derived.Deep.MidRow
import Derived.Maps.RangeWalk
import Derived.Deep.Cut
import Derived.Lib.LaidTab
import Derived.LaidMore
import Derived.Stop.LaidErr
import Derived.Deep.WholeRow
import Derived.Deep.OwnRows

/-
  Texts of numbers and of addresses of IPv4, in plain lists of bytes: no program. Conditions are each theorem's own.
-/
namespace Go.Proofs.YtjoaaabdcfcdiaaDoor

/-- A number below 256 in decimal digits. -/
def dec (n : Nat) : List UInt8 :=
  if n < 10 then [UInt8.ofNat (48 + n)] else if n < 100 then [UInt8.ofNat (48 + n / 10), UInt8.ofNat (48 + n % 10)] else [UInt8.ofNat (48 + n / 100), UInt8.ofNat (48 + n / 10 % 10), UInt8.ofNat (48 + n % 10)]
/-- An address's text. -/
def txt (a : Nat) : List UInt8 := dec (a / 16777216) ++ [46] ++ dec (a / 65536 % 256) ++ [46] ++ dec (a / 256 % 256) ++ [46] ++ dec (a % 256)

theorem dec_len {n : Nat} : 1 ≤ (dec n).length ∧ (dec n).length ≤ 3 := by
  unfold dec; split
  · simp
  · split <;> simp
theorem txt_len {a : Nat} : (txt a).length ≤ 15 := by
  have h1 := @dec_len (a / 16777216); have h2 := @dec_len (a / 65536 % 256); have h3 := @dec_len (a / 256 % 256); have h4 := @dec_len (a % 256)
  simp only [txt, List.length_append, List.length_singleton]; omega

/-- One step of reading a text: the parts that are done, and the part under way. -/
def pst (s : Option (Nat × Nat)) (c : UInt8) : Option (Nat × Nat) :=
  match s with
  | none => none
  | some (n, p) =>
    if c = 46 then (if n * 256 + p ≤ 16777215 then some (n * 256 + p, 0) else none)
    else if 48 ≤ c.toNat ∧ c.toNat ≤ 57 then (if p * 10 + (c.toNat - 48) ≤ 255 ∧ n ≤ 16777215 then some (n, p * 10 + (c.toNat - 48)) else none)
    else none
def pfold (s : Option (Nat × Nat)) (l : List UInt8) : Option (Nat × Nat) := l.foldl pst s
theorem pfold_append (s : Option (Nat × Nat)) (a b : List UInt8) : pfold s (a ++ b) = pfold (pfold s a) b := by simp [pfold]
theorem pfold_none (l : List UInt8) : pfold none l = none := by
  induction l with
  | nil => rfl
  | cons c l ih => simpa [pfold, pst] using ih

theorem pst_digit {n p d : Nat} (hd : d < 10) (hn : n ≤ 16777215) (hp : p * 10 + d ≤ 255) : pst (some (n, p)) (UInt8.ofNat (48 + d)) = some (n, p * 10 + d) := by
  have e : (UInt8.ofNat (48 + d)).toNat = 48 + d := by simp [UInt8.toNat_ofNat']; omega
  have h46 : UInt8.ofNat (48 + d) ≠ 46 := by intro h; have := congrArg UInt8.toNat h; rw [e] at this; simp at this; omega
  unfold pst
  simp only [h46, if_false, e]
  rw [if_pos (by omega), if_pos (by omega)]
  congr 2; omega
theorem pst_dot {n p : Nat} (h : n * 256 + p ≤ 16777215) : pst (some (n, p)) 46 = some (n * 256 + p, 0) := by simp [pst, h]
theorem pfold_dec {n d : Nat} (hn : n ≤ 16777215) (hd : d < 256) : pfold (some (n, 0)) (dec d) = some (n, d) := by
  unfold dec
  split
  · simp only [pfold, List.foldl_cons, List.foldl_nil]; rw [pst_digit (by omega) hn (by omega)]; congr 2; omega
  · split
    · simp only [pfold, List.foldl_cons, List.foldl_nil]
      rw [pst_digit (by omega) hn (by omega), pst_digit (by omega) hn (by omega)]; congr 2; omega
    · simp only [pfold, List.foldl_cons, List.foldl_nil]
      rw [pst_digit (by omega) hn (by omega), pst_digit (by omega) hn (by omega), pst_digit (by omega) hn (by omega)]; congr 2; omega
theorem pfold_txt {a : Nat} (h : a < 4294967296) : pfold (some (0, 0)) (txt a) = some (a / 256, a % 256) := by
  have dot : ∀ s, pfold s [46] = pst s 46 := fun s => rfl
  simp only [txt, pfold_append, dot]
  rw [pfold_dec (by omega) (by omega), pst_dot (by omega), pfold_dec (by omega) (by omega), pst_dot (by omega), pfold_dec (by omega) (by omega), pst_dot (by omega), pfold_dec (by omega) (by omega)]
  congr 2; omega
theorem pfold_bd : ∀ (l : List UInt8) {n p : Nat} {n0 p0 : Nat}, n0 ≤ 16777215 → p0 ≤ 255 → pfold (some (n0, p0)) l = some (n, p) → n ≤ 16777215 ∧ p ≤ 255
  | [], n, p, n0, p0, h1, h2, h => by simp [pfold] at h; omega
  | c :: l, n, p, n0, p0, h1, h2, h => by
    have h' : pfold (pst (some (n0, p0)) c) l = some (n, p) := h
    cases e : pst (some (n0, p0)) c with
    | none => rw [e, pfold_none] at h'; cases h'
    | some q =>
      obtain ⟨n1, p1⟩ := q
      rw [e] at h'
      refine pfold_bd l ?_ ?_ h'
      all_goals
        unfold pst at e
        dsimp only at e
        split at e
        · split at e
          · simp at e; omega
          · cases e
        · split at e
          · split at e
            · simp at e; omega
            · cases e
          · cases e
theorem txt_inj {a b : Nat} (ha : a < 4294967296) (hb : b < 4294967296) (h : txt a = txt b) : a = b := by
  have h1 := pfold_txt ha
  rw [h, pfold_txt hb] at h1
  simp at h1; omega

theorem pst_no {n p : Nat} {c : UInt8} (h : (c.toNat = 46 ∧ 16777215 < n * 256 + p) ∨ (c.toNat ≠ 46 ∧ (c.toNat < 48 ∨ 57 < c.toNat)) ∨ (c.toNat ≠ 46 ∧ 255 < p * 10 + (c.toNat - 48))) : pst (some (n, p)) c = none := by
  have h46 : c = 46 ↔ c.toNat = 46 := ⟨fun e => by rw [e]; rfl, fun e => UInt8.toNat_inj.1 e⟩
  unfold pst
  dsimp only
  split
  · rw [if_neg (by rw [h46] at *; omega)]
  · split
    · rw [if_neg (by rw [h46] at *; omega)]
    · rfl
theorem pst_46 {n p : Nat} {c : UInt8} (h : c.toNat = 46) (h2 : n * 256 + p ≤ 16777215) : pst (some (n, p)) c = some (n * 256 + p, 0) := by
  have : c = 46 := UInt8.toNat_inj.1 h
  subst this; exact pst_dot h2
theorem pst_dec {n p : Nat} {c : UInt8} (h : 48 ≤ c.toNat) (h2 : c.toNat ≤ 57) (h3 : p * 10 + (c.toNat - 48) ≤ 255) (hn : n ≤ 16777215) : pst (some (n, p)) c = some (n, p * 10 + (c.toNat - 48)) := by
  have e : c = UInt8.ofNat (48 + (c.toNat - 48)) := UInt8.toNat_inj.1 (by simp [UInt8.toNat_ofNat']; omega)
  have := pst_digit (n := n) (p := p) (d := c.toNat - 48) (by omega) hn h3
  rw [← e] at this
  exact this
theorem pfold_take {l : List UInt8} {k : Nat} {s : Option (Nat × Nat)} (h : k < l.length) : pfold s (l.take (k + 1)) = pst (pfold s (l.take k)) l[k] := by
  rw [List.take_succ_eq_append_getElem h, pfold_append]; rfl

/-- The address that a text is, and the error's number. -/
noncomputable def parV (s : List UInt8) : Int := by
  classical exact if h : ∃ a, a < 4294967296 ∧ txt a = s then (Classical.choose h : Nat) else 0
noncomputable def parE (s : List UInt8) : Int := by
  classical exact if ∃ a, a < 4294967296 ∧ txt a = s then 0 else 4
theorem par_yes {s : List UInt8} {a : Nat} (ha : a < 4294967296) (h : txt a = s) : parV s = a ∧ parE s = 0 := by
  have hex : ∃ a, a < 4294967296 ∧ txt a = s := ⟨a, ha, h⟩
  unfold parV parE
  rw [dif_pos hex, if_pos hex]
  obtain ⟨h1, h2⟩ := Classical.choose_spec hex
  have : Classical.choose hex = a := txt_inj h1 ha (h2.trans h.symm)
  exact ⟨by rw [this], rfl⟩
theorem par_no {s : List UInt8} (h : ¬ ∃ a, a < 4294967296 ∧ txt a = s) : parV s = 0 ∧ parE s = 4 := by
  unfold parV parE
  rw [dif_neg h, if_neg h]; exact ⟨rfl, rfl⟩
/-- What reading tells: nothing, and it is no text. -/
theorem par_none {s : List UInt8} {k : Nat} (h : pfold (some (0, 0)) (s.take k) = none) : parV s = 0 ∧ parE s = 4 := by
  refine par_no fun ⟨a, ha, e⟩ => ?_
  have h1 := pfold_txt ha
  rw [e, ← List.take_append_drop k s, pfold_append, h, pfold_none] at h1
  cases h1
theorem par_long {s : List UInt8} (h : 15 < s.length) : parV s = 0 ∧ parE s = 4 :=
  par_no fun ⟨a, _, e⟩ => by have := @txt_len a; rw [e] at this; omega
/-- A number, and the text is its text, or no text at all. -/
theorem par_end {s : List UInt8} {n p : Nat} (h : pfold (some (0, 0)) s = some (n, p)) : (txt (n * 256 + p) = s → parV s = ((n * 256 + p : Nat) : Int) ∧ parE s = 0) ∧ (txt (n * 256 + p) ≠ s → parV s = 0 ∧ parE s = 4) := by
  have hb := pfold_bd s (by omega) (by omega) h
  refine ⟨fun e => par_yes (by omega) e, fun hne => par_no fun ⟨a, ha, e⟩ => hne ?_⟩
  have h1 := pfold_txt ha
  rw [e, h] at h1
  simp at h1
  have : n * 256 + p = a := by omega
  rw [this]; exact e
/-- A text is an address's, or none's. -/
theorem par_cases (s : List UInt8) : (∃ a : Nat, a < 4294967296 ∧ txt a = s ∧ parV s = a ∧ parE s = 0) ∨ (parV s = 0 ∧ parE s = 4) := by
  by_cases h : ∃ a, a < 4294967296 ∧ txt a = s
  · obtain ⟨a, ha, e⟩ := h
    exact .inl ⟨a, ha, e, par_yes ha e⟩
  · exact .inr (par_no h)
end Go.Proofs.YtjoaaabdcfcdiaaDoor

/-
  Contracts of the document's plain answers of layer 3: Right, Text, Parse, Host, Private. Conditions are each theorem's own.
-/
namespace Go.Proofs.YtjoaaabdcfcdiaaDoor
open Go.RowKit

theorem ten_cut {m : Nat} (h : m < 10) : ({ data := #[48, 49, 50, 51, 52, 53, 54, 55, 56, 57] } : ByteArray).extract m (m + 1) = strB [UInt8.ofNat (48 + m)] := by
  have : m = 0 ∨ m = 1 ∨ m = 2 ∨ m = 3 ∨ m = 4 ∨ m = 5 ∨ m = 6 ∨ m = 7 ∨ m = 8 ∨ m = 9 := by omega
  rcases this with rfl | rfl | rfl | rfl | rfl | rfl | rfl | rfl | rfl | rfl <;> decide

theorem dec_ten {n : Nat} (h : 10 ≤ n) (h2 : n < 256) : dec (n / 10) ++ [UInt8.ofNat (48 + n % 10)] = dec n := by
  by_cases h3 : n < 100
  · rw [dec, if_pos (by omega), dec, if_neg (by omega), if_pos h3]; rfl
  · rw [dec, if_neg (by omega), if_pos (by omega), dec, if_neg (by omega), if_neg h3]
    rw [show n / 10 / 10 = n / 100 from by omega]; rfl
/-- Is a number an address? A plain definition. -/
def okB (a : Int) : Bool := decide (0 ≤ a ∧ a < 4294967296)
/-- The text of any number. -/
def txtI (a : Int) : List UInt8 := if 0 ≤ a ∧ a < 4294967296 then txt a.toNat else []
end Go.Proofs.YtjoaaabdcfcdiaaDoor

/-
  Contracts of the document's plain answers of layer 5: Head, Size, Whole, Check, Same. Conditions are each theorem's own.
-/
namespace Go.Proofs.YtjoaaabdcfcdiaaDoor
open Go.RowKit

/-- A packet's cells. -/
def v4a (q : P4) (A : Option Addr) (c : Nat) (A' : Option Addr) (c' : Nat) : Array Value :=
  #[.int .i64 q.tos, .int .i64 q.id, .int .i64 q.off, .int .i64 q.ttl, .int .i64 q.proto, .int .i64 q.src, .int .i64 q.dst, .bool q.df, .bool q.mf, .slice A q.opt.length c, .slice A' q.dat.length c']
section
variable (q : P4) (A : Option Addr) (c : Nat) (A' : Option Addr) (c' : Nat) (w : World)
end
end Go.Proofs.YtjoaaabdcfcdiaaDoor

/-
  A region that draws its order, whose operations leave what was there as it was: its walk step by step. Conditions are each theorem's own.
-/
namespace Go.Proofs.YtjoaaabdcfcdiaaDoor
open Go.RowKit

theorem range_below {w w' : World} {b o B : Nat} {cs : List Value} (h : w.rangeAt b o cs) (hB : b < B) (hb : Below B w w') : w'.rangeAt b o cs := fun j v hj => by
  rw [hb.cell hB]; exact h j v hj
theorem held_pure {P : Program} {ops : Array Oper} {Q : Exit → Act → World → Prop} {md : Region.Mode} {S : World → Prop} {i : Nat} {oi : Oper} {v : Value} {fuel : Nat} {listed : Array Bool} {a : Act} {w : World} (hi : ops[i]? = some oi)
    (hs : Region.noSelect ops = true) (hf : Region.free md ops listed i = true) (hr : (Region.ready md ops listed).contains i = true)
    (hQ : ∀ c a w, Q (.panic c) (a.put oi.dst v) w → Q (.panic c) a w) (hw : Region.wanted oi (yielded ops a.tmps) = true)
    (hrun : ∀ w, S w → (execOp a.eval oi).run P w = .ok (.value v) w) (hS : S w)
    (h : S w → wpAnyH P md ops Q S fuel (listed.setIfInBounds i true) (a.put oi.dst v) w) : wpAnyH P md ops Q S (fuel + 1) listed a w :=
  wpAnyH_take hi hs hf hr hQ (.inl ⟨hw, hrun⟩) hS (h hS)
theorem held_skip {P : Program} {ops : Array Oper} {Q : Exit → Act → World → Prop} {md : Region.Mode} {S : World → Prop} {i : Nat} {oi : Oper} {fuel : Nat} {listed : Array Bool} {a : Act} {w : World} (hi : ops[i]? = some oi)
    (hs : Region.noSelect ops = true) (hf : Region.free md ops listed i = true) (hr : (Region.ready md ops listed).contains i = true)
    (hQ : ∀ c a w, Q (.panic c) (a.put oi.dst undef) w → Q (.panic c) a w) (hw : Region.wanted oi (yielded ops a.tmps) = false) (hS : S w)
    (h : S w → wpAnyH P md ops Q S fuel (listed.setIfInBounds i true) (a.put oi.dst undef) w) : wpAnyH P md ops Q S (fuel + 1) listed a w :=
  wpAnyH_take hi hs hf hr hQ (.inr ⟨hw, rfl⟩) hS (h hS)
/-- What a class of worlds 'as w0 below its end' hands on. -/
theorem below_step {w0 w w' : World} (h : Below w0.heap.size w0 w) (hb : Below w.heap.size w w') : Below w0.heap.size w0 w' := h.trans (hb.mono h.size)
/-- Two new blocks, a draw, three calls. -/
theorem chain4 {w w1 w2 w3 w4 : World} {x y : Obj} (b1 : Below w.heap.size w w1) (b2 : Below ((w1.alloc x).alloc y).drew.heap.size ((w1.alloc x).alloc y).drew w2) (b3 : Below w2.heap.size w2 w3) (b4 : Below w3.heap.size w3 w4) : Below w.heap.size w w4 := by
  have h1 : ((w1.alloc x).alloc y).drew.heap.size = w1.heap.size + 2 := by show ((w1.alloc x).alloc y).heap.size = _; simp
  have s1 := b1.size
  have s2 := b2.size
  have s3 := b3.size
  have hX : Below w.heap.size w ((w1.alloc x).alloc y).drew := ((b1.alloc s1 x).alloc (by simp; omega) y).drew
  exact ((hX.trans (b2.mono (by omega))).trans (b3.mono (by omega))).trans (b4.mono (by omega))
theorem ints_new (w : World) (zs : List Int) (t : TypeId) : RdI (w.alloc (.cells (zs.map (Value.int .i64)).toArray t)).drew (w.heap.size + 1) (some ⟨w.heap.size, 0, none⟩) zs := fun _ =>
  ⟨w.heap.size, 0, rfl, Nat.lt_succ_self _, fun j hj => by
    show (w.alloc (.cells (zs.map (Value.int .i64)).toArray t)).cell? _ = _
    rw [Nat.zero_add, World.cell?_alloc_new, List.getElem?_toArray, List.getElem?_map, List.getElem?_eq_getElem hj, List.getD_eq_getElem?_getD, List.getElem?_eq_getElem hj]; rfl⟩
end Go.Proofs.YtjoaaabdcfcdiaaDoor

/-
  Reads out of a packet's block, for walks of regions that draw their order. Conditions are each theorem's own.
-/
namespace Go.Proofs.YtjoaaabdcfcdiaaDoor
open Go.RowKit

theorem run_load_int {o : Oper} {a : Act} {w : World} {x : Operand} {p : Addr} {n : Int} (ho : o.op = .load 3 x) (hx : a.eval x = .pointer (some p)) (hc : w.cell? p = some (.int .i64 n)) :
    (execOp a.eval o).run Tryd.prog w = .ok (.value (.int .i64 n)) w := by
  unfold execOp
  simp only [ho, hx, Instr.loadAt, Instr.sureAddr, Sem.run_bind, Sem.run_pure, Result.andThen_ok]
  go_simp
theorem run_load_bool {o : Oper} {a : Act} {w : World} {x : Operand} {p : Addr} {b : Bool} (ho : o.op = .load 4 x) (hx : a.eval x = .pointer (some p)) (hc : w.cell? p = some (.bool b)) :
    (execOp a.eval o).run Tryd.prog w = .ok (.value (.bool b)) w := by
  unfold execOp
  simp only [ho, hx, Instr.loadAt, Instr.sureAddr, Sem.run_bind, Sem.run_pure, Result.andThen_ok]
  go_simp
/-- A packet that lies in a block of its own. -/
def At4 (W : World) (g : Nat) (q : P4) (A : Option Addr) (c : Nat) (A' : Option Addr) (c' : Nat) : Prop := W.rangeAt g 0 (v4a q A c A' c').toList
section
variable {W : World} {g : Nat} {q : P4} {A A' : Option Addr} {c c' : Nat}
theorem At4.below {w : World} {B : Nat} (h : At4 W g q A c A' c') (hb : Below B W w) (hg : g < B) : At4 w g q A c A' c' := range_below h hg hb
theorem At4.drewN {n : Nat} (h : At4 W g q A c A' c') : At4 (W.drewN n) g q A c A' c' := h
theorem At4.tos (h : At4 W g q A c A' c') : W.cell? ⟨g, 0, none⟩ = some (.int .i64 q.tos) := h 0 _ rfl
theorem At4.id (h : At4 W g q A c A' c') : W.cell? ⟨g, 1, none⟩ = some (.int .i64 q.id) := h 1 _ rfl
theorem At4.off (h : At4 W g q A c A' c') : W.cell? ⟨g, 2, none⟩ = some (.int .i64 q.off) := h 2 _ rfl
theorem At4.ttl (h : At4 W g q A c A' c') : W.cell? ⟨g, 3, none⟩ = some (.int .i64 q.ttl) := h 3 _ rfl
theorem At4.proto (h : At4 W g q A c A' c') : W.cell? ⟨g, 4, none⟩ = some (.int .i64 q.proto) := h 4 _ rfl
theorem At4.src (h : At4 W g q A c A' c') : W.cell? ⟨g, 5, none⟩ = some (.int .i64 q.src) := h 5 _ rfl
theorem At4.dst (h : At4 W g q A c A' c') : W.cell? ⟨g, 6, none⟩ = some (.int .i64 q.dst) := h 6 _ rfl
theorem At4.df (h : At4 W g q A c A' c') : W.cell? ⟨g, 7, none⟩ = some (.bool q.df) := h 7 _ rfl
theorem At4.mf (h : At4 W g q A c A' c') : W.cell? ⟨g, 8, none⟩ = some (.bool q.mf) := h 8 _ rfl
theorem At4.opt (h : At4 W g q A c A' c') : W.cell? ⟨g, 9, none⟩ = some (.slice A q.opt.length c) := h 9 _ rfl
theorem At4.dat (h : At4 W g q A c A' c') : W.cell? ⟨g, 10, none⟩ = some (.slice A' q.dat.length c') := h 10 _ rfl
end
end Go.Proofs.YtjoaaabdcfcdiaaDoor

/-
  Counts of layer 31, the code's: New, Add, Get, List. Conditions are each theorem's own.
-/
namespace Go.Proofs.YtjoaaabdcfcdiaaDoor
open Go.RowKit

theorem cellC {w : World} {g i : Nat} {cs : Array Value} {ty : TypeId} {fr : Nat × Nat} {v : Value} (h : w.heap[g]? = some (.cells cs ty fr)) (hi : cs[i]? = some v) : w.cell? ⟨g, i, none⟩ = some v := by
  simp [World.cell?, h, hi]
theorem load_intC {o : Oper} {a : Act} {w : World} {K : Act → World → Prop} {Q : Exit → Act → World → Prop} {x : Operand} {p : Addr} {n : Int} (ho : o.op = .load 3 x) (hx : a.eval x = .pointer (some p)) (hc : w.cell? p = some (.int .i64 n)) (h : K (a.put o.dst (.int .i64 n)) w) : o.wp Tryd.prog a w K Q := by
  have hr := run_load_int (o := o) (a := a) (w := w) (x := x) (p := p) (n := n) ho hx hc
  unfold Oper.wp
  rw [hr]
  exact h
theorem store_intC {o : Oper} {a : Act} {w : World} {K : Act → World → Prop} {Q : Exit → Act → World → Prop} {x y : Operand} {p : Addr} {v0 : Value} {n : Int} (ho : o.op = .store 3 x y) (hx : a.eval x = .pointer (some p)) (hy : a.eval y = .int .i64 n) (hc : w.cell? p = some v0) (hf : w.frozen? p = false) (h : K (a.put o.dst undef) (w.setCell p (.int .i64 n))) : o.wp Tryd.prog a w K Q := by
  unfold Oper.wp execOp
  simp only [ho, hx, hy]
  go_simp
  exact h
theorem wpList_vC {P : Program} {ops : Array Oper} {rest : List Oper} {o : Oper} {a : Act} {w : World} {Q : Exit → Act → World → Prop} {v : Value} (hg : o.guard = none) (hrun : (execOp a.eval o).run P w = .ok (.value v) w)
    (h : wpList P ops Q rest (a.put o.dst v) w) : wpList P ops Q (o :: rest) a w :=
  wpList_plain hg fun K hK => by unfold Oper.wp; rw [hrun]; exact hK _ _ h
/-- The cells of counts. -/
def cnc (L : List Int) : Array Value := (.bool true :: L.map (Value.int .i64)).toArray
/-- Counts lie at block k. -/
structure Cn (w : World) (k : Nat) (L : List Int) : Prop where
  obj : w.heap[k]? = some (.cells (cnc L) 40 (0, 0))
  n : L.length = 14
section
variable {w w' : World} {k : Nat} {L : List Int}
theorem Cn.below (h : Cn w k L) (hb : Below w.heap.size w w') : Cn w' k L := ⟨(hb.block k (heap_lt h.obj)).trans h.obj, h.n⟩
theorem Cn.keep (h : Cn w k L) (hb : w'.heap[k]? = w.heap[k]?) : Cn w' k L := ⟨hb.trans h.obj, h.n⟩
theorem Cn.made (h : Cn w k L) : w.cell? ⟨k, 0, none⟩ = some (.bool true) := cellC h.obj (by simp [cnc])
theorem Cn.at_ (h : Cn w k L) {j : Nat} {x : Int} (hx : L[j]? = some x) : w.cell? ⟨k, j + 1, none⟩ = some (.int .i64 x) := cellC h.obj (by simp [cnc, hx])
theorem Cn.fr (h : Cn w k L) (j : Nat) : w.frozen? ⟨k, j, none⟩ = false := heap_frozen h.obj j
theorem Cn.set (h : Cn w k L) (j : Nat) (x : Int) : Cn (w.setCell ⟨k, j + 1, none⟩ (.int .i64 x)) k (L.set j x) := by
  refine ⟨?_, by rw [List.length_set]; exact h.n⟩
  have := heap_setCell_same w k (j + 1) _ _ (.int .i64 x) h.obj
  rw [this]
  congr 2
  simp [cnc, List.map_set]
end
/-- One more of a reason, if it is one to drop. -/
def upC (L : List Int) (r : Int) : List Int := if 0 < r ∧ r < 14 then L.set r.toNat (L.getD r.toNat 0 + 1) else L
def isC (r : Int) : Bool := decide (0 < r ∧ r < 14)
def gtC (L : List Int) (r : Int) : Int := if 0 < r ∧ r < 14 then L.getD r.toNat 0 else 0
def zeroC : List Int := List.replicate 14 0
theorem inC (L : List Int) (hn : L.length = 14) (r : Int) : (¬ (0 < r ∧ r < 14)) ∨ ∃ (j : Nat) (x : Int), r = (j : Int) ∧ 0 < j ∧ j < 14 ∧ L[j]? = some x ∧ L.getD j 0 = x := by
  by_cases h : 0 < r ∧ r < 14
  · right
    refine ⟨r.toNat, L[r.toNat]'(by omega), by omega, by omega, by omega, List.getElem?_eq_getElem _, ?_⟩
    rw [List.getD_eq_getElem?_getD, List.getElem?_eq_getElem (by omega)]; rfl
  · exact .inl h
/-- No count is above what was counted. -/
def bdC (L : List Int) (N : Nat) : Prop := ∀ x ∈ L, 0 ≤ x ∧ x ≤ (N : Int)
theorem bdC_zero : bdC zeroC 0 := fun x hx => by rw [zeroC] at hx; rw [List.eq_of_mem_replicate hx]; decide
theorem bdC_more {L : List Int} {N M : Nat} (h : bdC L N) (hm : N ≤ M) : bdC L M := fun x hx => ⟨(h x hx).1, by have := (h x hx).2; omega⟩
theorem bdC_up {L : List Int} {N : Nat} (h : bdC L N) (hn : L.length = 14) (r : Int) : bdC (upC L r) (N + 1) := by
  unfold upC
  split
  · rename_i hr
    intro x hx
    rcases List.mem_or_eq_of_mem_set hx with h1 | rfl
    · have := h x h1; omega
    · rcases inC L hn r with h1 | ⟨j, x, rfl, _, _, hx, hg⟩
      · exact absurd hr h1
      · have := h x (List.mem_of_getElem? hx)
        rw [show ((j : Int)).toNat = j by omega, hg]
        omega
  · exact bdC_more h (Nat.le_succ _)
theorem upC_len (L : List Int) (r : Int) : (upC L r).length = L.length := by unfold upC; split <;> simp
set_option maxRecDepth 100000 in
theorem cnmade {w : World} {k : Nat} {L : List Int} (h : Cn w k L) : Calls Tryd.prog 17 #[.pointer (some ⟨k, 0, none⟩)] w fun e w' => e = .returned (.bool true) ∧ w = w' := by
  have k0 := h.made
  clear h
  go_enter Tryd.func17, Tryd.ntmps17
  go_wp2
  go_ret
  exact ⟨rfl, rfl⟩
set_option maxRecDepth 100000 in
theorem cnmade_nil (w : World) : Calls Tryd.prog 17 #[.pointer none] w fun e w' => e = .returned (.bool false) ∧ w = w' := by
  go_enter Tryd.func17, Tryd.ntmps17
  go_wp2
  go_ret
  exact ⟨rfl, rfl⟩
set_option maxRecDepth 100000 in
theorem cnmade_zero {w : World} {k : Nat} (k0 : w.cell? ⟨k, 0, none⟩ = some (.bool false)) : Calls Tryd.prog 17 #[.pointer (some ⟨k, 0, none⟩)] w fun e w' => e = .returned (.bool false) ∧ w = w' := by
  go_enter Tryd.func17, Tryd.ntmps17
  go_wp2
  go_ret
  exact ⟨rfl, rfl⟩
theorem cndrop (r : Int) (w : World) : Calls Tryd.prog 18 #[.int .i64 r] w fun e w' => e = .returned (.bool (isC r)) ∧ w = w' := by
  by_cases h1 : 0 < r
  · have d1 : decide (0 < r) = true := decide_eq_true h1
    have e : isC r = decide (r < 14) := by simp [isC, h1]
    rw [e]
    clear e h1
    go_enter Tryd.func18, Tryd.ntmps18
    go_wp2
    go_ret
    exact ⟨rfl, rfl⟩
  · have d1 : decide (0 < r) = false := decide_eq_false h1
    have e : isC r = false := by simp [isC, h1]
    rw [e]
    clear e h1
    go_enter Tryd.func18, Tryd.ntmps18
    go_wp2
    go_ret
    exact ⟨rfl, rfl⟩
theorem run_buildC {o : Oper} {a : Act} {w : World} {x : Operand} (ho : o.op = .build 40 #[(0, x)]) (hx : a.eval x = .bool true) :
    (execOp a.eval o).run Tryd.prog w = .ok (.value (.agg (cnc zeroC))) w := by
  have e : (Array.map (fun y : Nat × Operand => (y.1, a.eval y.2)) #[(0, x)]) = #[(0, .bool true)] := by simp [hx]
  have hb : (Instr.build 40 #[(0, .bool true)]).run Tryd.prog w = .ok (.agg (cnc zeroC)) w := by kernel_rfl
  unfold execOp
  simp only [ho, e, Sem.run_bind, hb]
  rfl
set_option maxRecDepth 100000 in
theorem cnnew (w : World) : Calls Tryd.prog 7 #[] w fun e w' => e = .returned (.pointer (some ⟨w.heap.size, 0, none⟩)) ∧ Cn w' w.heap.size zeroC ∧ Below w.heap.size w w' := by
  go_enter Tryd.func7, Tryd.ntmps7
  go_wp2_with ((with_reducible show wpList _ _ _ (Oper.mk _ (Op.build 40 _) _ _ _ _ :: _) _ _); refine wpList_vC rfl (run_buildC rfl rfl) ?_)
  go_ret
  exact ⟨rfl, ⟨World.alloc_heap_new w _, by simp [zeroC]⟩, (Below.refl _ w).alloc (Nat.le_refl _) _⟩
section
variable {w : World} {k : Nat} {L : List Int}
set_option maxRecDepth 100000 in
theorem cnadd_out (h : Cn w k L) (r : Int) (ho : ¬ (0 < r ∧ r < 14)) : Calls Tryd.prog 9 #[.pointer (some ⟨k, 0, none⟩), .int .i64 r] w fun e w' => e = .returned (.bool false) ∧ w = w' := by
  have HK := Lib.hid h
  have D : Hid (isC r = false) := Lib.hid (decide_eq_false ho)
  clear h ho
  go_enter Tryd.func9, Tryd.ntmps9
  go_wp2_with (first
    | (go_at_call 17; refine (cnmade HK.out).mono ?_; rintro e w1 ⟨rfl, rfl⟩)
    | (go_at_call 18; refine (cndrop _ _).mono ?_; rintro e w1 ⟨rfl, rfl⟩; rw [D.out]))
  go_ret
  exact ⟨rfl, rfl⟩
set_option maxRecDepth 100000 in
theorem cnadd_nil (r : Int) : Calls Tryd.prog 9 #[.pointer none, .int .i64 r] w fun e w' => e = .returned (.bool false) ∧ w = w' := by
  have D : Hid (isC r = isC r) := Lib.hid rfl
  go_enter Tryd.func9, Tryd.ntmps9
  go_wp2_with (first
    | (go_at_call 17; refine (cnmade_nil _).mono ?_; rintro e w1 ⟨rfl, rfl⟩)
    | (go_at_call 18; refine (cndrop _ _).mono ?_; rintro e w1 ⟨rfl, rfl⟩; rw [D.out]))
  go_ret
  exact ⟨rfl, rfl⟩
set_option maxRecDepth 100000 in
theorem cnadd_zero (k0 : w.cell? ⟨k, 0, none⟩ = some (.bool false)) (r : Int) : Calls Tryd.prog 9 #[.pointer (some ⟨k, 0, none⟩), .int .i64 r] w fun e w' => e = .returned (.bool false) ∧ w = w' := by
  have D : Hid (isC r = isC r) := Lib.hid rfl
  go_enter Tryd.func9, Tryd.ntmps9
  go_wp2_with (first
    | (go_at_call 17; refine (cnmade_zero k0).mono ?_; rintro e w1 ⟨rfl, rfl⟩)
    | (go_at_call 18; refine (cndrop _ _).mono ?_; rintro e w1 ⟨rfl, rfl⟩; rw [D.out]))
  go_ret
  exact ⟨rfl, rfl⟩
set_option maxRecDepth 100000 in
theorem cnget_out (h : Cn w k L) (r : Int) (ho : ¬ (0 < r ∧ r < 14)) : Calls Tryd.prog 11 #[.pointer (some ⟨k, 0, none⟩), .int .i64 r] w fun e w' => e = .returned (.int .i64 0) ∧ w = w' := by
  have HK := Lib.hid h
  have D : Hid (isC r = false) := Lib.hid (decide_eq_false ho)
  clear h ho
  go_enter Tryd.func11, Tryd.ntmps11
  go_wp2_with (first
    | (go_at_call 17; refine (cnmade HK.out).mono ?_; rintro e w1 ⟨rfl, rfl⟩)
    | (go_at_call 18; refine (cndrop _ _).mono ?_; rintro e w1 ⟨rfl, rfl⟩; rw [D.out]))
  go_ret
  exact ⟨rfl, rfl⟩
set_option maxRecDepth 100000 in
theorem cnget_nil (r : Int) : Calls Tryd.prog 11 #[.pointer none, .int .i64 r] w fun e w' => e = .returned (.int .i64 0) ∧ w = w' := by
  have D : Hid (isC r = isC r) := Lib.hid rfl
  go_enter Tryd.func11, Tryd.ntmps11
  go_wp2_with (first
    | (go_at_call 17; refine (cnmade_nil _).mono ?_; rintro e w1 ⟨rfl, rfl⟩)
    | (go_at_call 18; refine (cndrop _ _).mono ?_; rintro e w1 ⟨rfl, rfl⟩; rw [D.out]))
  go_ret
  exact ⟨rfl, rfl⟩
set_option maxRecDepth 100000 in
theorem cnget_zero (k0 : w.cell? ⟨k, 0, none⟩ = some (.bool false)) (r : Int) : Calls Tryd.prog 11 #[.pointer (some ⟨k, 0, none⟩), .int .i64 r] w fun e w' => e = .returned (.int .i64 0) ∧ w = w' := by
  have D : Hid (isC r = isC r) := Lib.hid rfl
  go_enter Tryd.func11, Tryd.ntmps11
  go_wp2_with (first
    | (go_at_call 17; refine (cnmade_zero k0).mono ?_; rintro e w1 ⟨rfl, rfl⟩)
    | (go_at_call 18; refine (cndrop _ _).mono ?_; rintro e w1 ⟨rfl, rfl⟩; rw [D.out]))
  go_ret
  exact ⟨rfl, rfl⟩
set_option maxRecDepth 100000 in
theorem cnget_in (h : Cn w k L) {j : Nat} {x : Int} (h0 : 0 < j) (hj : j < 14) (hx : L[j]? = some x) : Calls Tryd.prog 11 #[.pointer (some ⟨k, 0, none⟩), .int .i64 (j : Int)] w fun e w' => e = .returned (.int .i64 x) ∧ w = w' := by
  have HK := Lib.hid h
  have D : Hid (isC (j : Int) = true) := Lib.hid (decide_eq_true (by omega))
  have kx := h.at_ hx
  have kf := h.fr (j + 1)
  rw [show j + 1 = 1 + j by omega] at kx
  clear h hx
  go_enter Tryd.func11, Tryd.ntmps11
  go_wp2_with (first
    | (go_at_call 17; refine (cnmade HK.out).mono ?_; rintro e w1 ⟨rfl, rfl⟩)
    | (go_at_call 18; refine (cndrop _ _).mono ?_; rintro e w1 ⟨rfl, rfl⟩; rw [D.out]))
  go_ret
  exact ⟨rfl, rfl⟩
set_option maxRecDepth 100000 in
theorem cnadd_in (h : Cn w k L) {j : Nat} {x : Int} (h0 : 0 < j) (hj : j < 14) (hx : L[j]? = some x) (hb : 0 ≤ x ∧ x ≤ 1000000000000) : Calls Tryd.prog 9 #[.pointer (some ⟨k, 0, none⟩), .int .i64 (j : Int)] w fun e w' => e = .returned (.bool true) ∧ ∃ v, Below w.heap.size w v ∧ w' = v.setCell ⟨k, j + 1, none⟩ (.int .i64 (x + 1)) := by
  have HK := Lib.hid h
  have D : Hid (isC (j : Int) = true) := Lib.hid (decide_eq_true (by omega))
  have HW : Hid (IntKind.i64.wrap (x + 1) = x + 1) := Lib.hid (IntWalk.i64_in _ (by omega))
  have KX : Hid (∀ V, Below w.heap.size w V → V.cell? ⟨k, 1 + j, none⟩ = some (.int .i64 x)) := Lib.hid (fun V hV => by rw [Nat.add_comm]; exact (h.below hV).at_ hx)
  have KF : Hid (∀ V, Below w.heap.size w V → V.frozen? ⟨k, 1 + j, none⟩ = false) := Lib.hid (fun V hV => (h.below hV).fr _)
  rw [show j + 1 = 1 + j by omega]
  clear h hx hb
  go_enter Tryd.func9, Tryd.ntmps9
  go_upto_region 3 with (first
    | (go_at_call 17; refine (cnmade HK.out).mono ?_; rintro e w1 ⟨rfl, rfl⟩)
    | (go_at_call 18; refine (cndrop _ _).mono ?_; rintro e w1 ⟨rfl, rfl⟩; rw [D.out]))
  refine wp_region_held_drew (S := fun _ => True) (by kernel_rfl) trivial (fun hS => ?_)
  refine held_pure (i := 0) (oi := ⟨some 13, _, _, _, _, _⟩) rfl (by kernel_rfl) (by kernel_rfl) (by kernel_rfl) (fun _ _ _ h => h) (by rfl) (v := ?_) (fun w hSw => ?_) hS (fun hS => ?_)
  rotate_left
  · go_simp; try with_reducible rfl
  try go_frame
  refine held_pure (i := 1) (oi := ⟨some 14, _, _, _, _, _⟩) rfl (by kernel_rfl) (by kernel_rfl) (by kernel_rfl) (fun _ _ _ h => h) (by rfl) (v := ?_) (fun w hSw => ?_) hS (fun hS => ?_)
  rotate_left
  · go_simp; try with_reducible rfl
  try go_frame
  refine held_pure (i := 2) (oi := ⟨some 15, _, _, _, _, _⟩) rfl (by kernel_rfl) (by kernel_rfl) (by kernel_rfl) (fun _ _ _ h => h) (by rfl) (v := ?_) (fun w hSw => ?_) hS (fun hS => ?_)
  rotate_left
  · go_simp; try with_reducible rfl
  try go_frame
  refine held_pure (i := 3) (oi := ⟨some 16, _, _, _, _, _⟩) rfl (by kernel_rfl) (by kernel_rfl) (by kernel_rfl) (fun _ _ _ h => h) (by rfl) (v := ?_) (fun w hSw => ?_) hS (fun hS => ?_)
  rotate_left
  · go_simp; try with_reducible rfl
  try go_frame
  refine held_pure (i := 4) (oi := ⟨some 17, _, _, _, _, _⟩) rfl (by kernel_rfl) (by kernel_rfl) (by kernel_rfl) (fun _ _ _ h => h) (by rfl) (v := .pointer (some ⟨k, 1 + j, none⟩)) (fun w hSw => by go_simp; (intro h9; exfalso; omega)) hS (fun hS => ?_)
  try go_frame
  refine held_pure (i := 7) (oi := ⟨some 20, _, _, _, _, _⟩) rfl (by kernel_rfl) (by kernel_rfl) (by kernel_rfl) (fun _ _ _ h => h) (by rfl) (v := ?_) (fun w hSw => ?_) hS (fun hS => ?_)
  rotate_left
  · go_simp; try with_reducible rfl
  try go_frame
  refine held_pure (i := 8) (oi := ⟨some 21, _, _, _, _, _⟩) rfl (by kernel_rfl) (by kernel_rfl) (by kernel_rfl) (fun _ _ _ h => h) (by rfl) (v := ?_) (fun w hSw => ?_) hS (fun hS => ?_)
  rotate_left
  · go_simp; try with_reducible rfl
  try go_frame
  refine wpAnyH_ready (rs := [5]) (by kernel_rfl) (by simp) (AllReadyH.cons (o := ⟨some 18, _, _, _, _, _⟩) rfl (fun K hK => ?_) AllReadyH.nil)
  rw [if_pos (by rfl)]
  refine load_intC rfl rfl (KX.out _ (Below.refl _ w).drew) ?_
  refine hK _ _ trivial (fun hS => ?_)
  clear hK K
  try go_frame
  refine held_pure (i := 6) (oi := ⟨some 19, _, _, _, _, _⟩) rfl (by kernel_rfl) (by kernel_rfl) (by kernel_rfl) (fun _ _ _ h => h) (by rfl) (v := .int .i64 (x + 1)) (fun w hSw => by go_simp; rw [HW.out]) hS (fun hS => ?_)
  try go_frame
  refine held_pure (i := 9) (oi := ⟨some 22, _, _, _, _, _⟩) rfl (by kernel_rfl) (by kernel_rfl) (by kernel_rfl) (fun _ _ _ h => h) (by rfl) (v := .pointer (some ⟨k, 1 + j, none⟩)) (fun w hSw => by go_simp; (intro h9; exfalso; omega)) hS (fun hS => ?_)
  try go_frame
  refine wpAnyH_ready (rs := [10]) (by kernel_rfl) (by simp) (AllReadyH.cons (o := ⟨none, _, _, _, _, _⟩) rfl (fun K hK => ?_) AllReadyH.nil)
  rw [if_pos (by rfl)]
  refine store_intC rfl rfl rfl (KX.out _ (Below.refl _ w).drew) (KF.out _ (Below.refl _ w).drew) ?_
  refine hK _ _ trivial (fun hS => ?_)
  clear hK K
  try go_frame
  refine wpAnyH_done (by kernel_rfl) ?_ _
  go_wp2_with fail
  go_ret
  exact ⟨rfl, _, (Below.refl _ w).drew, rfl⟩
/-- What one call of Add leaves: at most one cell of block k is another. -/
def OneC (k : Nat) (w w' : World) : Prop := ∃ v, Below w.heap.size w v ∧ (w' = v ∨ ∃ q u, w' = v.setCell ⟨k, q, none⟩ u)
theorem OneC.below {w' : World} {B : Nat} (h : OneC k w w') (hk : B ≤ k) (hB : B ≤ w.heap.size) : Below B w w' := by
  obtain ⟨v, hv, rfl | ⟨q, u, rfl⟩⟩ := h
  · exact hv.mono hB
  · exact (hv.mono hB).setCell (p := ⟨k, q, none⟩) hk u
theorem OneC.block {w' : World} {i : Nat} (h : OneC k w w') (hi : i < w.heap.size) (hk : i ≠ k) : w'.heap[i]? = w.heap[i]? := by
  obtain ⟨v, hv, rfl | ⟨q, u, rfl⟩⟩ := h
  · exact hv.block i hi
  · exact (heap_setCell_other v ⟨k, q, none⟩ i u hk).trans (hv.block i hi)
theorem OneC.size {w' : World} (h : OneC k w w') : w.heap.size ≤ w'.heap.size := by
  obtain ⟨v, hv, rfl | ⟨q, u, rfl⟩⟩ := h
  · exact hv.size
  · simpa using hv.size
theorem cnadd (h : Cn w k L) {N : Nat} (hb : bdC L N) (hN : N ≤ 1000000000) (r : Int) : Calls Tryd.prog 9 #[.pointer (some ⟨k, 0, none⟩), .int .i64 r] w fun e w' => e = .returned (.bool (isC r)) ∧ Cn w' k (upC L r) ∧ OneC k w w' := by
  rcases inC L h.n r with ho | ⟨j, x, rfl, h0, hj, hx, hg⟩
  · refine (cnadd_out h r ho).mono ?_
    rintro e w' ⟨rfl, rfl⟩
    exact ⟨by rw [isC, decide_eq_false ho], by rw [upC, if_neg ho]; exact h, w, Below.refl _ _, .inl rfl⟩
  · have hx2 := hb x (List.mem_of_getElem? hx)
    refine (cnadd_in h h0 hj hx (by omega)).mono ?_
    rintro e w' ⟨rfl, v, hv, rfl⟩
    refine ⟨by rw [isC, decide_eq_true (by omega)], ?_, v, hv, .inr ⟨_, _, rfl⟩⟩
    rw [upC, if_pos (by omega), show ((j : Int)).toNat = j by omega, hg]
    exact (h.below hv).set j (x + 1)
theorem cnget (h : Cn w k L) (r : Int) : Calls Tryd.prog 11 #[.pointer (some ⟨k, 0, none⟩), .int .i64 r] w fun e w' => e = .returned (.int .i64 (gtC L r)) ∧ w = w' := by
  rcases inC L h.n r with ho | ⟨j, x, rfl, h0, hj, hx, hg⟩
  · refine (cnget_out h r ho).mono ?_
    rintro e w' ⟨rfl, rfl⟩
    exact ⟨by rw [gtC, if_neg ho], rfl⟩
  · refine (cnget_in h h0 hj hx).mono ?_
    rintro e w' ⟨rfl, rfl⟩
    exact ⟨by rw [gtC, if_pos (by omega), show ((j : Int)).toNat = j by omega, hg], rfl⟩
end
end Go.Proofs.YtjoaaabdcfcdiaaDoor

/-
  Counts of layer 31: the table of names, List, the document's counts, the layer's own small example. Conditions are each theorem's own.
-/
namespace Go.Proofs.YtjoaaabdcfcdiaaDoor
open Go.RowKit
/-- The words for the reasons. -/
def nmsB : List (List UInt8) := [[], [102, 111, 114, 109], [115, 111, 117, 114, 99, 101], [116, 116, 108], [112, 114, 111, 116, 111], [113, 117, 111, 116, 97], [102, 117, 108, 108], [112, 111, 111, 108], [115, 116, 97, 116, 101], [98, 105, 110, 100, 105, 110, 103], [102, 105, 108, 116, 101, 114], [108, 111, 110, 103], [111, 118, 101, 114, 108, 97, 112], [119, 97, 121]]
def nmsV : Array Value := (nmsB.map fun s => Value.string (strB s)).toArray
/-- What the table holds. -/
def Tabs (w : World) : Prop := w.var? Tryd.prog "goosepond/counts.names" = some nmsV
theorem glob_nms : Tryd.prog.globalNamed "goosepond/counts.names" = some 0 := by kernel_rfl
theorem var_belowN {P : Program} {B g : Nat} {W W' : World} {n : String} {cs : Array Value} (h : Below B W W') (hg : P.globalNamed n = some g) (hgB : g < B) (hv : W.var? P n = some cs) : W'.var? P n = some cs := by
  unfold World.var? at hv ⊢
  simp only [hg, Option.bind_some] at hv ⊢
  rw [h.block g hgB]
  exact hv
theorem var_ltN {P : Program} {g : Nat} {W : World} {n : String} {cs : Array Value} (hg : P.globalNamed n = some g) (hv : W.var? P n = some cs) : g < W.heap.size := by
  unfold World.var? at hv
  simp only [hg, Option.bind_some] at hv
  rcases Nat.lt_or_ge g W.heap.size with h | h
  · exact h
  · rw [Array.getElem?_eq_none h] at hv; cases hv
theorem Tabs.below {B : Nat} {w w' : World} (h : Tabs w) (hb : Below B w w') (hB : w.heap.size ≤ B) : Tabs w' := var_belowN hb glob_nms (Nat.lt_of_lt_of_le (var_ltN glob_nms h) hB) h
theorem Tabs.step {w w' : World} (h : Tabs w) (hb : Below w.heap.size w w') : Tabs w' := h.below hb (Nat.le_refl _)
theorem Tabs.lt {w : World} (h : Tabs w) : 0 < w.heap.size := var_ltN glob_nms h
/-- The table stays where its block does. -/
theorem Tabs.keep {w w' : World} (h : Tabs w) (hb : w'.heap[(0 : Nat)]? = w.heap[(0 : Nat)]?) : Tabs w' := by
  unfold Tabs World.var? at h ⊢
  simp only [glob_nms, Option.bind_some] at h ⊢
  rw [hb]
  exact h
theorem Tabs.cell {w : World} (h : Tabs w) {i : Nat} {s : List UInt8} (hs : nmsB[i]? = some s) : w.cell? ⟨0, i, none⟩ = some (.string (strB s)) := by
  have := World.var?_cell glob_nms h i
  rw [this, nmsV]
  simp [hs]
theorem cells_of_strs {H : Type} {enc : TypeId × Value → H} {P : Program} {w : World} {base : Nat} {sp : Nat → Bool} {held : Bool} {fuel : Nat} {t e : TypeId} {n : Nat} {cs : List Value} {zs : List (List UInt8)} {p : List MemPlace}
    (ht : P.underlying t = some (.array n e)) (he : P.underlying e = some .string) (hce : P.cellsOf e = 1) (hct : P.cellsOf t = n)
    (h : DataW.trod enc P w base sp held fuel t cs = some (.agg (zs.map fun z => .lit (.string z)), p)) : cs = zs.map fun z => Value.string (strB z) := by
  obtain ⟨xs, m, _, hx, hl, hxl, hf⟩ := DataW.trod_array ht h
  rw [hct] at hl
  have hxs : xs.map (·.1) = zs.map fun z => (DataW.lit (.string z) : DataW H) := by
    have := congrArg Prod.fst hx
    simpa using this.symm
  have hzl : zs.length = n := by
    have := congrArg List.length hxs
    simp at this
    omega
  apply List.ext_getElem?
  intro i
  by_cases hi : i < n
  · have h1 := hf i hi
    rw [hce, Nat.mul_one] at h1
    obtain ⟨x, hxi⟩ : ∃ x, xs[i]? = some x := ⟨xs[i]'(by omega), List.getElem?_eq_getElem _⟩
    rw [hxi] at h1
    obtain ⟨s, hc, rfl, _⟩ := DataW.trod_string he h1
    have h2 : (xs.map (·.1))[i]? = some (DataW.lit (.string s.data.toList) : DataW H) := by simp [hxi]
    rw [hxs] at h2
    simp only [List.getElem?_map, Option.map_eq_some_iff, DataW.lit.injEq, Lit.string.injEq] at h2
    obtain ⟨z, hz, rfl⟩ := h2
    have h3 : cs[i]? = some (.string s) := by
      have := congrArg (·[0]?) hc
      simpa [List.getElem?_take, List.getElem?_drop] using this
    rw [h3, List.getElem?_map, hz]
    simp [strB]
  · rw [List.getElem?_eq_none (by omega), List.getElem?_eq_none (by simp; omega)]
theorem tabs_of_head {W : World} {rest : List (String × DataW Unit)} (h : laidMet Tryd.prog (("goosepond/counts.names", .agg (nmsB.map fun z => .lit (.string z))) :: rest) W) : Tabs W := by
  obtain ⟨ps, ⟨g', t', cs, fuel, p, q, hg', ht', hvar, hd, _, _⟩, _⟩ := h
  obtain rfl := Option.some.inj (glob_nms.symm.trans hg')
  have hty : (Tryd.prog.globals[(0 : Nat)]?).map (·.type) = some 41 := by kernel_rfl
  obtain rfl := Option.some.inj (hty.symm.trans ht')
  unfold Tabs
  have := cells_of_strs Tryd.underlying41 Tryd.underlying9 (by kernel_rfl) (by kernel_rfl) hd
  rw [hvar, nmsV, ← this]
/-- A reason's word. -/
def nmC (r : Int) : List UInt8 := if 0 ≤ r ∧ r < 14 then nmsB.getD r.toNat [] else []
theorem run_idxN {o : Oper} {a : Act} {w : World} {x y : Operand} {g j : Nat} (ho : o.op = .indexAddr 41 x y) (hx : a.eval x = .pointer (some ⟨g, 0, none⟩)) (hy : a.eval y = .int .i64 ((j : Nat) : Int)) (hj : j < 14) : (execOp a.eval o).run Tryd.prog w = .ok (.value (.pointer (some ⟨g, j, none⟩))) w := by
  unfold execOp
  simp only [ho, hx, hy]
  go_simp <;> (intro h9; exfalso; omega)
set_option maxRecDepth 100000 in
theorem cname (r : Int) (w : World) (hT : Tabs w) : Calls Tryd.prog 13 #[.int .i64 r] w fun e w' => e = .returned (.string (strB (nmC r))) ∧ w = w' := by
  by_cases hr : 0 < r ∧ r < 14
  · obtain ⟨j, rfl⟩ : ∃ j : Nat, r = (j : Int) := ⟨r.toNat, by omega⟩
    have hj : j < nmsB.length := by show j < 14; omega
    have hk := hT.cell (List.getElem?_eq_getElem hj)
    have e : nmC (j : Int) = nmsB[j] := by rw [nmC, if_pos (by omega)]; simp [hj]
    rw [e]
    have D : Hid (isC (j : Int) = true) := Lib.hid (decide_eq_true hr)
    have hj2 : j < 14 := hj
    generalize nmsB[j] = s at hk ⊢
    clear hT e hj hr
    go_enter Tryd.func13, Tryd.ntmps13
    go_wp2_with (go_at_call 18; refine (cndrop _ _).mono ?_; rintro e w1 ⟨rfl, rfl⟩; rw [D.out])
    go_ret
    exact ⟨rfl, rfl⟩
  · have D : Hid (isC r = false) := Lib.hid (decide_eq_false hr)
    have e : nmC r = [] := by
      unfold nmC
      split
      · rename_i h
        have : r = 0 := by omega
        subst this; rfl
      · rfl
    rw [e]
    clear hT e hr
    go_enter Tryd.func13, Tryd.ntmps13
    go_wp2_with (go_at_call 18; refine (cndrop _ _).mono ?_; rintro e w1 ⟨rfl, rfl⟩; rw [D.out])
    go_ret
    exact ⟨rfl, rfl⟩
set_option maxRecDepth 100000 in
set_option maxHeartbeats 8000000 in
theorem rname (r : Int) (w : World) : Calls Tryd.prog 14 #[.int .i64 r] w fun e w' => e = .returned (.string (strB (nmC r))) ∧ Below w.heap.size w w' := by
  have hb := (Below.refl w.heap.size w).alloc (Nat.le_refl _) (.cells nmsV 9)
  by_cases h0 : r < 0
  · have d1 : decide (r < 0) = true := decide_eq_true h0
    have e : nmC r = [] := by rw [nmC, if_neg (by omega)]
    rw [e]
    clear e h0
    go_enter Tryd.func14, Tryd.ntmps14
    go_wp2
    go_ret
    exact ⟨rfl, hb⟩
  · have d1 : decide (r < 0) = false := decide_eq_false h0
    by_cases h1 : 14 ≤ r
    · have d2 : decide (r ≥ 14) = true := decide_eq_true h1
      have d3 : decide (14 ≤ r) = true := decide_eq_true h1
      have e : nmC r = [] := by rw [nmC, if_neg (by omega)]
      rw [e]
      clear e h0 h1
      go_enter Tryd.func14, Tryd.ntmps14
      go_wp2
      go_ret
      exact ⟨rfl, hb⟩
    · obtain ⟨j, rfl⟩ : ∃ j : Nat, r = (j : Int) := ⟨r.toNat, by omega⟩
      have hj : j = 0 ∨ j = 1 ∨ j = 2 ∨ j = 3 ∨ j = 4 ∨ j = 5 ∨ j = 6 ∨ j = 7 ∨ j = 8 ∨ j = 9 ∨ j = 10 ∨ j = 11 ∨ j = 12 ∨ j = 13 := by omega
      clear d1 h0 h1
      rcases hj with rfl | rfl | rfl | rfl | rfl | rfl | rfl | rfl | rfl | rfl | rfl | rfl | rfl | rfl <;>
      · go_enter Tryd.func14, Tryd.ntmps14
        go_wp2
        go_ret
        exact ⟨rfl, hb⟩
theorem run_load14 {o : Oper} {a : Act} {w : World} {x : Operand} {g i : Nat} {L : List Int} (ho : o.op = .load 38 x) (hx : a.eval x = .pointer (some ⟨g, i, none⟩)) (hr : w.rangeAt g i (L.map (Value.int .i64))) (hl : L.length = 14) :
    (execOp a.eval o).run Tryd.prog w = .ok (.value (.agg (L.map (Value.int .i64)).toArray)) w := by
  have h := run_loadVar_mid (P := Tryd.prog) w g i 38 (L.map (Value.int .i64)) _ hr Tryd.underlying38 rfl (by rw [List.length_map, hl]; kernel_rfl)
  unfold execOp
  simp only [ho, hx, Instr.loadAt, Instr.sureAddr, Sem.run_bind, Sem.run_pure, Result.andThen_ok, h]
theorem store14_new {ops : Array Oper} {rest : List Oper} {x y : Operand} {ty : TypeId} {pos : String} {af : Array Edge} {a : Act} {w : World} {Q : Exit → Act → World → Prop}
    {t : TypeId} {L : List Int} {old : Array Value} (hx : a.eval x = .pointer (some ⟨w.heap.size, 0, none⟩)) (hy : a.eval y = .agg (L.map (Value.int .i64)).toArray) (ho : old.size = 14) (hl : L.length = 14)
    (h : wpList Tryd.prog ops Q rest (a.put none undef) (w.alloc (.cells (L.map (Value.int .i64)).toArray t))) : wpList Tryd.prog ops Q (⟨none, .store 38 x y, ty, pos, af, none⟩ :: rest) a (w.alloc (.cells old t)) :=
  wpList_plain rfl fun _ hK => wp_store_row 38 x y rfl w.heap.size (L.map (Value.int .i64)).toArray hx hy t old (World.alloc_heap_new w _) (by rw [List.size_toArray, List.length_map, hl]; kernel_rfl) (by rw [ho, List.size_toArray, List.length_map, hl])
    (Array.all_eq_true_iff_forall_mem.2 fun v hv => by
      obtain ⟨x, _, rfl⟩ := List.mem_map.1 (List.mem_toArray.1 hv)
      rfl) (hK _ _ (by rw [World.setRow_alloc_new]; exact h))
theorem run_slice14 {o : Oper} {a : Act} {w : World} {x : Operand} {g i : Nat} (ho : o.op = .slice 38 x none none none) (hx : a.eval x = .pointer (some ⟨g, i, none⟩)) :
    (execOp a.eval o).run Tryd.prog w = .ok (.value (.slice (some ⟨g, i, none⟩) 14 14)) w := by
  unfold execOp
  simp only [ho, hx, Option.map]
  go_simp
theorem Cn.row {w : World} {k : Nat} {L : List Int} (h : Cn w k L) : w.rangeAt k 1 (L.map (Value.int .i64)) := fun j v hj => cellC h.obj (by rw [cnc, List.getElem?_toArray, Nat.add_comm, List.getElem?_cons_succ]; exact hj)
set_option maxRecDepth 100000 in
theorem cnlist {w : World} {k : Nat} {L : List Int} (h : Cn w k L) : Calls Tryd.prog 15 #[.pointer (some ⟨k, 0, none⟩)] w fun e w' => e = .returned (.slice (some ⟨w.heap.size, 0, none⟩) 14 14) ∧ w'.heap[w.heap.size]? = some (.cells (L.map (Value.int .i64)).toArray 38 (0, 0)) ∧ Below w.heap.size w w' := by
  have HK := Lib.hid h
  have HR := Lib.hid h.row
  have HN := Lib.hid h.n
  clear h
  go_enter Tryd.func15, Tryd.ntmps15
  go_wp2_with (first
    | (go_at_call 17; refine (cnmade HK.out).mono ?_; rintro e w1 ⟨rfl, rfl⟩)
    | ((with_reducible show wpList _ _ _ (Oper.mk _ (Op.load 38 _) _ _ _ _ :: _) _ _); refine wpList_vC rfl (run_load14 rfl rfl HR.out HN.out) ?_)
    | ((with_reducible show wpList _ _ _ (Oper.mk _ (Op.store 38 _ _) _ _ _ _ :: _) _ _); refine store14_new (L := L) rfl rfl rfl HN.out ?_)
    | ((with_reducible show wpList _ _ _ (Oper.mk _ (Op.slice 38 _ _ _ _) _ _ _ _ :: _) _ _); refine wpList_vC rfl (run_slice14 rfl rfl) ?_))
  go_ret
  exact ⟨rfl, World.alloc_heap_new w _, (Below.refl _ w).alloc (Nat.le_refl _) _⟩
set_option maxRecDepth 100000 in
theorem cnlist_nil (w : World) : Calls Tryd.prog 15 #[.pointer none] w fun e w' => e = .returned (.slice none 0 0) ∧ w' = w := by
  go_enter Tryd.func15, Tryd.ntmps15
  go_wp2_with (go_at_call 17; refine (cnmade_nil _).mono ?_; rintro e w1 ⟨rfl, rfl⟩)
  go_ret
  exact ⟨rfl, rfl⟩
/-- The document's counts: a block that points to a row. -/
structure Rn (w : World) (d b : Nat) (L : List Int) : Prop where
  obj : w.heap[d]? = some (.cells #[.slice (some ⟨b, 0, none⟩) 14 14] 33 (0, 0))
  row : w.heap[b]? = some (.cells (L.map (Value.int .i64)).toArray 3 (0, 0))
  n : L.length = 14
section
variable {w w' : World} {d b : Nat} {L : List Int}
theorem Rn.keep (h : Rn w d b L) (h1 : w'.heap[d]? = w.heap[d]?) (h2 : w'.heap[b]? = w.heap[b]?) : Rn w' d b L := ⟨h1.trans h.obj, h2.trans h.row, h.n⟩
theorem Rn.below (h : Rn w d b L) (hb : Below w.heap.size w w') : Rn w' d b L := h.keep (hb.block d (heap_lt h.obj)) (hb.block b (heap_lt h.row))
theorem Rn.c0 (h : Rn w d b L) : w.cell? ⟨d, 0, none⟩ = some (.slice (some ⟨b, 0, none⟩) 14 14) := cellC h.obj rfl
theorem Rn.at_ (h : Rn w d b L) {j : Nat} {x : Int} (hx : L[j]? = some x) : w.cell? ⟨b, j, none⟩ = some (.int .i64 x) := cellC h.row (by simp [hx])
theorem Rn.fr (h : Rn w d b L) (j : Nat) : w.frozen? ⟨b, j, none⟩ = false := heap_frozen h.row j
theorem Rn.ne (h : Rn w d b L) : b ≠ d := fun e => by
  have h1 := h.row
  rw [e, h.obj] at h1
  injection h1 with h1
  injection h1 with _ e2 _
  exact absurd e2 (by decide)
theorem Rn.set (h : Rn w d b L) (j : Nat) (x : Int) : Rn (w.setCell ⟨b, j, none⟩ (.int .i64 x)) d b (L.set j x) := by
  refine ⟨(heap_setCell_other w ⟨b, j, none⟩ d _ (Ne.symm h.ne)).trans h.obj, ?_, by rw [List.length_set]; exact h.n⟩
  have := heap_setCell_same w b j _ _ (.int .i64 x) h.row
  rw [this]
  congr 2
  simp [List.map_set]
end
set_option maxRecDepth 100000 in
theorem rnnew (w : World) : Calls Tryd.prog 8 #[] w fun e w' => e = .returned (.pointer (some ⟨w.heap.size + 1, 0, none⟩)) ∧ Rn w' (w.heap.size + 1) w.heap.size zeroC ∧ Below w.heap.size w w' := by
  have hmk : ∀ W : World, (Instr.makeSlice 22 (.int .i64 14) (.int .i64 14)).run Tryd.prog W = .ok (.slice (some ⟨W.heap.size, 0, none⟩) 14 14) (W.alloc (.cells (zeroC.map (Value.int .i64)).toArray 3)) := fun W =>
    by
      have h := run_make_row' (P := Tryd.prog) 22 3 (.int .i64 0) 8 Tryd.underlying22 (by kernel_rfl) rfl .i64 .i64 14 (by decide) (by decide) W
      rw [show madeCells #[Value.int .i64 0] 14 = (zeroC.map (Value.int .i64)).toArray by kernel_rfl] at h
      exact h
  go_enter Tryd.func8, Tryd.ntmps8
  go_wp2
  go_ret
  have s1 : (w.alloc (.cells (zeroC.map (Value.int .i64)).toArray 3)).heap.size = w.heap.size + 1 := by simp
  refine ⟨?_, ⟨?_, ?_, by simp [zeroC]⟩, ((Below.refl _ w).alloc (Nat.le_refl _) _).alloc (by simp) _⟩
  · simp
  · have := World.alloc_heap_new (w.alloc (.cells (zeroC.map (Value.int .i64)).toArray 3)) (.cells #[.slice (some ⟨w.heap.size, 0, none⟩) 14 14] 33)
    rw [s1] at this
    exact this
  · exact (Below.heap_alloc _ _ _ (by simp)).trans (World.alloc_heap_new w _)
section
variable {w : World} {d b : Nat} {L : List Int}
set_option maxRecDepth 100000 in
theorem rnadd_out (r : Int) (ho : ¬ (0 < r ∧ r < 14)) : Calls Tryd.prog 10 #[.pointer (some ⟨d, 0, none⟩), .int .i64 r] w fun e w' => e = .returned (.bool false) ∧ w = w' := by
  by_cases h1 : r < 1
  · have d1 : decide (r < 1) = true := decide_eq_true h1
    clear h1 ho
    go_enter Tryd.func10, Tryd.ntmps10
    go_wp2
    go_ret
    exact ⟨rfl, rfl⟩
  · have d1 : decide (r < 1) = false := decide_eq_false h1
    have d2 : decide (r ≥ 14) = true := decide_eq_true (by omega)
    have d3 : decide (14 ≤ r) = true := decide_eq_true (by omega)
    clear h1 ho
    go_enter Tryd.func10, Tryd.ntmps10
    go_wp2
    go_ret
    exact ⟨rfl, rfl⟩
set_option maxRecDepth 100000 in
theorem rnadd_in (h : Rn w d b L) {j : Nat} {x : Int} (h0 : 0 < j) (hj : j < 14) (hx : L[j]? = some x) (hb : 0 ≤ x ∧ x ≤ 1000000000000) : Calls Tryd.prog 10 #[.pointer (some ⟨d, 0, none⟩), .int .i64 (j : Int)] w fun e w' => e = .returned (.bool true) ∧ w' = w.setCell ⟨b, j, none⟩ (.int .i64 (x + 1)) := by
  have k0 := h.c0
  have kx := h.at_ hx
  have kf := h.fr j
  have q3 : IntKind.i64.wrap (x + 1) = x + 1 := IntWalk.i64_in _ (by omega)
  have d1 : decide ((j : Int) < 1) = false := decide_eq_false (by omega)
  have d2 : decide ((j : Int) ≥ 14) = false := decide_eq_false (by omega)
  have d3 : decide (14 ≤ (j : Int)) = false := decide_eq_false (by omega)
  clear h hx hb
  go_enter Tryd.func10, Tryd.ntmps10
  go_wp2
  go_ret
  exact ⟨rfl, rfl⟩
theorem rnadd (h : Rn w d b L) {N : Nat} (hb : bdC L N) (hN : N ≤ 1000000000) (r : Int) : Calls Tryd.prog 10 #[.pointer (some ⟨d, 0, none⟩), .int .i64 r] w fun e w' => e = .returned (.bool (isC r)) ∧ Rn w' d b (upC L r) ∧ OneC b w w' := by
  rcases inC L h.n r with ho | ⟨j, x, rfl, h0, hj, hx, hg⟩
  · refine (rnadd_out r ho).mono ?_
    rintro e w' ⟨rfl, rfl⟩
    exact ⟨by rw [isC, decide_eq_false ho], by rw [upC, if_neg ho]; exact h, w, Below.refl _ _, .inl rfl⟩
  · have hx2 := hb x (List.mem_of_getElem? hx)
    refine (rnadd_in h h0 hj hx (by omega)).mono ?_
    rintro e w' ⟨rfl, rfl⟩
    refine ⟨by rw [isC, decide_eq_true (by omega)], ?_, w, Below.refl _ _, .inr ⟨_, _, rfl⟩⟩
    rw [upC, if_pos (by omega), show ((j : Int)).toNat = j by omega, hg]
    exact h.set j (x + 1)
set_option maxRecDepth 100000 in
theorem rnget_in (h : Rn w d b L) {j : Nat} {x : Int} (hj : j < 14) (hx : L[j]? = some x) : Calls Tryd.prog 12 #[.pointer (some ⟨d, 0, none⟩), .int .i64 (j : Int)] w fun e w' => e = .returned (.int .i64 x) ∧ w = w' := by
  have k0 := h.c0
  have kx := h.at_ hx
  have d1 : decide ((j : Int) < 0) = false := decide_eq_false (by omega)
  have d2 : decide ((j : Int) ≥ 14) = false := decide_eq_false (by omega)
  have d3 : decide (14 ≤ (j : Int)) = false := decide_eq_false (by omega)
  clear h hx
  go_enter Tryd.func12, Tryd.ntmps12
  go_wp2
  go_ret
  exact ⟨rfl, rfl⟩
set_option maxRecDepth 100000 in
theorem rnget_out (r : Int) (ho : ¬ (0 ≤ r ∧ r < 14)) : Calls Tryd.prog 12 #[.pointer (some ⟨d, 0, none⟩), .int .i64 r] w fun e w' => e = .returned (.int .i64 0) ∧ w = w' := by
  by_cases h1 : r < 0
  · have d1 : decide (r < 0) = true := decide_eq_true h1
    clear h1 ho
    go_enter Tryd.func12, Tryd.ntmps12
    go_wp2
    go_ret
    exact ⟨rfl, rfl⟩
  · have d1 : decide (r < 0) = false := decide_eq_false h1
    have d2 : decide (r ≥ 14) = true := decide_eq_true (by omega)
    have d3 : decide (14 ≤ r) = true := decide_eq_true (by omega)
    clear h1 ho
    go_enter Tryd.func12, Tryd.ntmps12
    go_wp2
    go_ret
    exact ⟨rfl, rfl⟩
theorem rnget (h : Rn w d b L) (hz : L.getD 0 0 = 0) (r : Int) : Calls Tryd.prog 12 #[.pointer (some ⟨d, 0, none⟩), .int .i64 r] w fun e w' => e = .returned (.int .i64 (gtC L r)) ∧ w = w' := by
  by_cases ho : 0 ≤ r ∧ r < 14
  · obtain ⟨j, rfl⟩ : ∃ j : Nat, r = (j : Int) := ⟨r.toNat, by omega⟩
    have hj : j < L.length := by rw [h.n]; omega
    refine (rnget_in h (by omega) (List.getElem?_eq_getElem hj)).mono ?_
    rintro e w' ⟨rfl, rfl⟩
    refine ⟨?_, rfl⟩
    unfold gtC
    split
    · simp [hj]
    · have : j = 0 := by omega
      subst this
      rw [← hz]
      simp [hj]
  · refine (rnget_out r ho).mono ?_
    rintro e w' ⟨rfl, rfl⟩
    exact ⟨by rw [gtC, if_neg (by omega)], rfl⟩
end
theorem upC_zero {L : List Int} (h : L.getD 0 0 = 0) (r : Int) : (upC L r).getD 0 0 = 0 := by
  unfold upC
  split
  · rename_i hr
    rw [List.getD_eq_getElem?_getD, List.getElem?_set_ne (by omega), ← List.getD_eq_getElem?_getD]
    exact h
  · exact h
end Go.Proofs.YtjoaaabdcfcdiaaDoor

/-
  The layer's own small example; what the list of the rows says. Conditions are each theorem's own.
-/
namespace Go.Proofs.YtjoaaabdcfcdiaaDoor
open Go.RowKit
set_option maxRecDepth 100000 in
theorem awake31 (w : World) (hT : Tabs w) : Calls Tryd.prog 6 #[] w fun e w' => e = .returned (.bool true) ∧ Below w.heap.size w w' := by
  have HT := Lib.hid hT
  have hq : nmC 5 = [113, 117, 111, 116, 97] := by decide
  have hs : (strB [113, 117, 111, 116, 97]).toList = [113, 117, 111, 116, 97] := by rw [strB, ByteArray.toList_mk]
  clear hT
  go_enter Tryd.func6, Tryd.ntmps6
  go_upto_region 2 with (go_at_call 7; refine (cnnew _).mono ?_; rintro e w1 ⟨rfl, c1, b1⟩)
  have q1 : (isC 1) = true := rfl
  go_wp2_with (first
    | (go_at_call 9; refine (cnadd c1 bdC_zero (by omega) 1).mono ?_; rintro e w2 ⟨rfl, c2, o2⟩; rw [q1]; have b2 := b1.trans (o2.below (Nat.le_refl _) b1.size))
    | (go_at_call 9; refine (cnadd c2 (bdC_up bdC_zero rfl 1) (by omega) 1).mono ?_; rintro e w3 ⟨rfl, c3, o3⟩; rw [q1]; have b3 := b2.trans (o3.below (Nat.le_refl _) b2.size))
    | (go_at_call 11; refine (cnget c3 1).mono ?_; rintro e w4 ⟨rfl, rfl⟩; rw [show gtC (upC (upC zeroC 1) 1) 1 = 2 by decide])
    | (go_at_call 15; refine (cnlist c3).mono ?_; rintro e w5 ⟨rfl, _, x5⟩; have b5 := b3.trans (x5.mono b3.size))
    | (go_at_call 13; refine (cname 5 _ (HT.out.step b5)).mono ?_; rintro e w6 ⟨rfl, rfl⟩; rw [hq]))
  go_ret
  exact ⟨rfl, b5⟩
end Go.Proofs.YtjoaaabdcfcdiaaDoor

/-
  Counts of the code and of the document side by side. Conditions are each theorem's own.
-/
namespace Go.Proofs.YtjoaaabdcfcdiaaDoor
open Go.RowKit
structure Cp (w0 wr : World) (k d b : Nat) (L : List Int) (N : Nat) : Prop where
  c : Cn wr k L
  r : Rn wr d b L
  bd : bdC L N
  z : L.getD 0 0 = 0
  be : Below w0.heap.size w0 wr
  hk : w0.heap.size ≤ k
  hb : w0.heap.size ≤ b
  kd : d ≠ k
  kb : b ≠ k
section
variable {w0 w w' : World} {k d b N : Nat} {L : List Int}
theorem Cp.one (h : Cp w0 w k d b L N) (o : OneC k w w') : Rn w' d b L ∧ Below w0.heap.size w0 w' :=
  ⟨h.r.keep (o.block (heap_lt h.r.obj) h.kd) (o.block (heap_lt h.r.row) h.kb), h.be.trans (o.below h.hk h.be.size)⟩
theorem Cp.two (h : Cp w0 w k d b L N) {w2 : World} (r : Int) (o : OneC k w w') (hc : Cn w' k (upC L r)) (o2 : OneC b w' w2) (hr : Rn w2 d b (upC L r)) : Cp w0 w2 k d b (upC L r) (N + 1) :=
  ⟨hc.keep (o2.block (heap_lt hc.obj) (Ne.symm h.kb)), hr, bdC_up h.bd h.c.n r, upC_zero h.z r, (h.one o).2.trans (o2.below h.hb (h.one o).2.size), h.hk, h.hb, h.kd, h.kb⟩
theorem Cp.below (h : Cp w0 w k d b L N) (hb : Below w.heap.size w w') : Cp w0 w' k d b L N := ⟨h.c.below hb, h.r.below hb, h.bd, h.z, h.be.trans (hb.mono h.be.size), h.hk, h.hb, h.kd, h.kb⟩
end
theorem run_load_slC {o : Oper} {a : Act} {w : World} {x : Operand} {p : Addr} {A : Option Addr} {n c : Nat} (ho : o.op = .load 22 x) (hx : a.eval x = .pointer (some p)) (hc : w.cell? p = some (.slice A n c)) :
    (execOp a.eval o).run Tryd.prog w = .ok (.value (.slice A n c)) w := by
  unfold execOp
  simp only [ho, hx, Instr.loadAt, Instr.sureAddr, Sem.run_bind, Sem.run_pure, Result.andThen_ok]
  go_simp
end Go.Proofs.YtjoaaabdcfcdiaaDoor

/-
  A range over an iterator that hands over memory which it made in the round: what is known of an element comes with it. Conditions are each theorem's own.
-/
namespace Go.Proofs.YtjoaaabdcfcdiaaDoor
open Go.RowKit Go.Shelf

/-- An iterator's promise: its elements come in order; of each, when it comes, G is known. -/
def SeqTold {α : Type} (m : Nat) (P : Program) (g : Nat) (lb : Array Value) (encs : α → Array Value) (G : List α → α → World → Prop) (Kp : World → World → Prop) (S Sp : List α → Prop) (w : World) : Prop :=
  ∀ (l : Nat) (J Jx : List α → World → Prop) (W : World), Below w.heap.size w W → AbidesFrom W.heap.size J → AbidesFrom W.heap.size Jx →
    (∀ pre x X, J pre X → G pre x X → YieldAt Fence.wide (m - 1) P l (encs x) X fun e Y =>
      (e = .returned (.bool true) ∧ J (pre ++ [x]) Y ∧ Kp X Y) ∨ (e = .returned (.bool false) ∧ Jx (pre ++ [x]) Y)) →
    J [] W →
    CallsIn Fence.wide m P g (#[.func (.yield l) #[] #[]] ++ lb) W fun e Y => (∃ v, e = .returned v) ∧ ((∃ xs, S xs ∧ J xs Y) ∨ (∃ pre, Sp pre ∧ Jx pre Y))
/-- The loop's record, in a state. -/
def recd (fn : FuncId) (a : Act) (ps : Array Tmp) (assign body : Code) (D : Nat) (st : LoopState) (pe : Option Code) : Loop := { state := st, pending := pe, fn := fn, tmps := a.tmps, params := ps, assign := assign, body := body, defers := D }
/-- The statement's two blocks: the rounds' deferred calls at D, the record behind it. -/
structure Two (W : World) (D : Nat) (r : Loop) : Prop where
  calls : W.heap[D]? = some (.deferred (some []))
  rec_ : W.heap[D + 1]? = some (.loop r)
section
variable {W V : World} {D : Nat} {r : Loop}
theorem Two.turn (h : Two W D r) (s : Loop) : Two (W.putObj (D + 1) (.loop s)) D s :=
  ⟨(World.putObj_heap_other (by omega)).trans h.calls, World.putObj_heap_same (heap_lt h.rec_)⟩
theorem Two.abides (h : Two W D r) {row : Option Nat} (hg : W.grownBy V row) (hr : ∀ k, row = some k → ∃ o : Obj, W.heap[k]? = some o ∧ o.isWalk = true) : Two V D r :=
  ⟨(grownBy_keeps hg hr h.calls rfl).trans h.calls, (grownBy_keeps hg hr h.rec_ rfl).trans h.rec_⟩
theorem Two.keeps (h : Two W D r) (hk : KeepsFrom D W V) : Two V D r := ⟨hk.same _ _ (Nat.le_refl _) h.calls rfl, hk.same _ _ (by omega) h.rec_ rfl⟩
theorem Two.first (w : World) (r : Loop) : Two ((w.alloc (.deferred (some []))).alloc (.loop r)) w.heap.size r := by
  refine ⟨(Below.heap_alloc _ _ _ (by simp)).trans (World.alloc_heap_new w _), ?_⟩
  have := World.alloc_heap_new (w.alloc (.deferred (some []))) (.loop r)
  rwa [World.size_alloc] at this
end
/-- How a round ends, said at once: by going on, or by a jump that waits. -/
theorem round_end {α : Type} {P : Program} {fn : FuncId} {a : Act} {ps : Array Tmp} {assign body : Code} {w X Y : World} {Kp : World → World → Prop} {I : List α → World → Prop} {Ix : Code → List α → World → Prop} {pre : List α}
    (hI : OwnFrom w.heap.size I) (hIx : ∀ c, OwnFrom w.heap.size (Ix c)) (hKt : ∀ {A B C : World}, Kp A B → Kp B C → Kp A C) (hKb : ∀ (W : World) (l : Nat) (r r' : Loop), w.heap.size ≤ l → W.heap[l]? = some (.loop r) → Kp W (W.putObj l (.loop r')))
    (X0 : World) (h0 : Kp X0 X) (hT : Two X w.heap.size (recd fn a ps assign body w.heap.size .busy none)) (e : Exit) (b : Act) (h : ownPostG w.heap.size Kp I Ix pre X e b Y) :
    roundPost P (w.heap.size + 1) (fun e Y => (e = .returned (.bool true) ∧ (I pre Y ∧ Two Y w.heap.size (recd fn a ps assign body w.heap.size .ready none)) ∧ Kp X0 Y) ∨
      (e = .returned (.bool false) ∧ ∃ c, Ix c pre Y ∧ Two Y w.heap.size (recd fn a ps assign body w.heap.size .done (some c)))) e b Y := by
  have jump : ∀ c, KeepsFrom w.heap.size X Y ∧ Ix c pre Y → ∃ v Z, (Instr.endRound (w.heap.size + 1) (some c)).run P Y = .ok v Z ∧
      ((Ending.returned v = .returned (.bool true) ∧ (I pre Z ∧ Two Z w.heap.size (recd fn a ps assign body w.heap.size .ready none)) ∧ Kp X0 Z) ∨
      (Ending.returned v = .returned (.bool false) ∧ ∃ c, Ix c pre Z ∧ Two Z w.heap.size (recd fn a ps assign body w.heap.size .done (some c)))) := fun c hp => by
    have ht := hT.keeps hp.1
    exact ⟨_, _, run_endRound (some c) ht.rec_, .inr ⟨rfl, c, (hIx c).putObj _ hp.2 (by omega) ht.rec_ rfl, ht.turn _⟩⟩
  cases e with
  | normal =>
    have ht := hT.keeps h.1
    exact ⟨_, _, run_endRound none ht.rec_, .inl ⟨rfl, ⟨hI.putObj _ h.2.2 (by omega) ht.rec_ rfl, ht.turn _⟩, hKt (hKt h0 h.2.1) (hKb _ _ _ _ (by omega) ht.rec_)⟩⟩
  | ret => exact jump .ret h
  | exit id => exact jump (.exit id) h
  | goto t => exact jump (.goto t) h
  | panic c => exact h.elim
  | outgrown => exact h.elim
theorem range_told {α : Type} {n : Nat} {P : Program} {g : Operand} {ps : Array Tmp} {assign body : Code} {Q : Exit → Act → World → Prop} {a : Act} {w : World} (h1 : 1 ≤ n)
    {gf : Nat} {lb : Array Value} (hg : a.eval g = .func (.func gf) #[] lb) (eg : ∀ args w, (callFunc gf args).run P w = .ok (.enter gf args) w)
    {encs : α → Array Value} {G : List α → α → World → Prop} {Kp : World → World → Prop} {S Sp : List α → Prop} {w0 : World} (hseq : SeqTold (n - 1) P gf lb encs G Kp S Sp w0)
    (hKt : ∀ {A B C : World}, Kp A B → Kp B C → Kp A C) (hKb : ∀ (W : World) (l : Nat) (r r' : Loop), w.heap.size ≤ l → W.heap[l]? = some (.loop r) → Kp W (W.putObj l (.loop r')))
    (hb0 : Below w0.heap.size w0 w) (hps : ∀ x, (encs x).size = ps.size)
    (hG : ∀ (pre : List α) (x : α) (W : World) (l : Nat) (r r' : Loop), G pre x W → w.heap.size ≤ l → W.heap[l]? = some (.loop r) → G pre x (W.putObj l (.loop r')))
    (I : List α → World → Prop) (Ix : Code → List α → World → Prop) (hI : OwnFrom w.heap.size I) (hIx : ∀ c, OwnFrom w.heap.size (Ix c)) (h0 : I [] w) (a₁ : α → Act)
    (hassign : ∀ (l : Nat) (x : α) (W : World) (K : Act → World → Prop), K (a₁ x) W →
      assign.wpIn (Fence.wide.inRound l) (n - 1 - 1) P (Exit.then K (fun _ _ _ => False)) { tmps := (ps.zip (encs x)).foldl (fun t (p, v) => t.setIfInBounds p v) a.tmps, defers := [] } W)
    (hbody : ∀ (l : Nat) (pre : List α) (x : α) (W : World), I pre W → G pre x W → body.wpIn (Fence.wide.inRound l) (n - 1 - 1) P (ownPostG w.heap.size Kp I Ix (pre ++ [x]) W) (a₁ x) W)
    (hdone : ∀ (D : Nat) (xs : List α) (W : World), w.heap.size ≤ D → S xs → I xs W → W.heap[D]? = some (.deferred (some [])) → Q .normal { a with defers := { target := .collected D, args := #[] } :: a.defers } W)
    (hstop : ∀ (D : Nat) (c : Code) (pre : List α) (W : World), w.heap.size ≤ D → Sp pre → Ix c pre W → W.heap[D]? = some (.deferred (some [])) → c.wpIn Fence.wide n P Q { a with defers := { target := .collected D, args := #[] } :: a.defers } W) :
    (Code.rangeFunc g ps assign body).wpIn Fence.wide n P Q a w := by
  refine wpIn_rangeFunc fun fn _ => ?_
  have t1 := Two.first w (recd fn a ps assign body w.heap.size .ready none)
  have b1 : Below w0.heap.size w0 ((w.alloc (.deferred (some []))).alloc (.loop (recd fn a ps assign body w.heap.size .ready none))) := (hb0.alloc hb0.size _).alloc (by have := hb0.size; simp; omega) _
  have i1 : I [] ((w.alloc (.deferred (some []))).alloc (.loop (recd fn a ps assign body w.heap.size .ready none))) := hI.alloc _ (hI.alloc _ h0)
  have z1 : w.heap.size ≤ ((w.alloc (.deferred (some []))).alloc (.loop (recd fn a ps assign body w.heap.size .ready none))).heap.size := by simp; omega
  obtain ⟨W1, hW1⟩ : ∃ W1, W1 = (w.alloc (.deferred (some []))).alloc (.loop (recd fn a ps assign body w.heap.size .ready none)) := ⟨_, rfl⟩
  rw [← hW1] at t1 b1 i1 z1
  refine ⟨w.heap.size + 1, [{ target := .collected w.heap.size, args := #[] }], W1, { target := .fn (.func gf) lb, args := #[.func (.yield (w.heap.size + 1)) #[] #[]] }, W1, gf, #[.func (.yield (w.heap.size + 1)) #[] #[]] ++ lb, W1,
    ?_, ?_, fun _ _ => trivial, ?_, fun _ => h1, ?_⟩
  · rw [hW1]; exact run_enterLoop_outer fn a.tmps ps assign body
  · simp only [resolve, hg]; simp [go_sem]
  · simp [invoke, go_sem, eg]
  · refine (hseq (w.heap.size + 1) (fun pre W => I pre W ∧ Two W w.heap.size (recd fn a ps assign body w.heap.size .ready none))
      (fun pre W => ∃ c, Ix c pre W ∧ Two W w.heap.size (recd fn a ps assign body w.heap.size .done (some c))) _ b1 ?_ ?_ ?_ ⟨i1, t1⟩).mono ?_
    · rintro s A B row ⟨hi, ht⟩ hgr hr
      exact ⟨hI s A B row hi hgr fun r e => by obtain ⟨hB, o, ho, hw⟩ := hr r e; exact ⟨by omega, o, ho, Obj.not_cells_of_walk hw⟩, ht.abides hgr fun r e => (hr r e).2⟩
    · rintro s A B row ⟨c, hi, ht⟩ hgr hr
      exact ⟨c, hIx c s A B row hi hgr fun r e => by obtain ⟨hB, o, ho, hw⟩ := hr r e; exact ⟨by omega, o, ho, Obj.not_cells_of_walk hw⟩, ht.abides hgr fun r e => (hr r e).2⟩
    · rintro pre x X ⟨hi, ht⟩ hgx
      refine ⟨fn, _, assign, body, run_yield ht.rec_ (hps x), roundIn_of_wpIn trivial (hassign _ x X _ ⟨_, run_beginRound ht.rec_ rfl, ?_⟩)⟩
      have hbu := ht.turn (recd fn a ps assign body w.heap.size .busy none)
      exact wpIn_mono (hbody _ pre x _ (hI.putObj _ hi (by omega) ht.rec_ rfl) (hG pre x X _ _ _ hgx (by omega) ht.rec_))
        (fun e b Y hp => by
          have hk0 : Kp X (X.putObj (w.heap.size + 1) (.loop (recd fn a ps assign body w.heap.size .busy none))) := hKb _ _ _ _ (by omega) ht.rec_
          exact round_end (P := P) (pre := pre ++ [x]) (Kp := Kp) (I := I) (Ix := Ix) hI hIx hKt hKb X hk0 hbu e b hp)
    · rintro e Y ⟨⟨v, rfl⟩, ⟨xs, hs, hi, ht⟩ | ⟨pre, hs, c, hi, ht⟩⟩
      · exact ⟨none, _, run_endLoop ht.rec_ (by simp [recd]), hdone _ xs _ (Nat.le_refl _) hs (hI.putObj _ hi (by omega) ht.rec_ rfl) (ht.turn _).calls⟩
      · exact ⟨some c, _, run_endLoop ht.rec_ (by simp [recd]), hstop _ c pre _ (Nat.le_refl _) hs ((hIx c).putObj _ hi (by omega) ht.rec_ rfl) (ht.turn _).calls⟩
end Go.Proofs.YtjoaaabdcfcdiaaDoor

/-
  A range over an iterator that itself ranges over another and hands what came on: what the outer loop holds abides the inner one's records, too. Conditions are each theorem's own.
-/
namespace Go.Proofs.YtjoaaabdcfcdiaaDoor
open Go.RowKit Go.Shelf
/-- An iterator's promise to a loop that never stops it and whose invariant abides whatever is no cell and lies from the call's world on. -/
def SeqOwn {α : Type} (m : Nat) (P : Program) (g : Nat) (lb : Array Value) (encs : α → Array Value) (G : List α → α → World → Prop) (Kp : World → World → Prop) (S : List α → Prop) (q : Nat) (w : World) : Prop :=
  ∀ (l : Nat) (J : List α → World → Prop) (W : World), Below w.heap.size w W → q < W.heap.size → OwnFrom W.heap.size J →
    (∀ pre x X, J pre X → G pre x X → YieldAt Fence.wide (m - 1) P l (encs x) X fun e Y => e = .returned (.bool true) ∧ J (pre ++ [x]) Y ∧ Kp X Y) →
    J [] W →
    CallsIn Fence.wide m P g (#[.func (.yield l) #[] #[]] ++ lb) W fun e Y => (∃ v, e = .returned v) ∧ ∃ xs, S xs ∧ J xs Y
theorem Two.own {W V : World} {D : Nat} {r : Loop} (h : Two W D r) {row : Option Nat} (hg : W.grownBy V row) (hr : ∀ k, row = some k → D + 2 ≤ k) : Two V D r :=
  ⟨(hg.block D (heap_lt h.calls) (fun e => by have := hr D e.symm; omega)).trans h.calls, (hg.block (D + 1) (heap_lt h.rec_) (fun e => by have := hr (D + 1) e.symm; omega)).trans h.rec_⟩
theorem room_of_noneO (k : Nat) : Fence.wide.room k := fun d h => by cases h
theorem YieldAt.anyO {m : Nat} (m' : Nat) {P : Program} {l : Nat} {args : Array Value} {W : World} {R : Ending → World → Prop} (h : YieldAt Fence.wide m P l args W R) : YieldAt Fence.wide m' P l args W R := by
  obtain ⟨fn, tmps, assign, body, hy, hR⟩ := h
  exact ⟨fn, tmps, assign, body, hy, hR.1, fun c cs _ => hR.2 c cs (room_of_noneO _)⟩
theorem range_own {α : Type} {n : Nat} {P : Program} {g : Operand} {ps : Array Tmp} {assign body : Code} {Q : Exit → Act → World → Prop} {a : Act} {w : World} (h1 : 1 ≤ n)
    {gf : Nat} {lb : Array Value} (hg : a.eval g = .func (.func gf) #[] lb) (eg : ∀ args w, (callFunc gf args).run P w = .ok (.enter gf args) w)
    {encs : α → Array Value} {G : List α → α → World → Prop} {Kp : World → World → Prop} {S : List α → Prop} {w0 : World} (hseq : SeqOwn (n - 1) P gf lb encs G Kp S (w.heap.size + 1) w0)
    (hKt : ∀ {A B C : World}, Kp A B → Kp B C → Kp A C) (hKb : ∀ (W : World) (r r' : Loop), W.heap[w.heap.size + 1]? = some (.loop r) → Kp W (W.putObj (w.heap.size + 1) (.loop r')))
    (hb0 : Below w0.heap.size w0 w) (hps : ∀ x, (encs x).size = ps.size)
    (hG : ∀ (pre : List α) (x : α) (W : World) (l : Nat) (r r' : Loop), G pre x W → w.heap.size ≤ l → W.heap[l]? = some (.loop r) → G pre x (W.putObj l (.loop r')))
    (I : List α → World → Prop) (hI : OwnFrom w.heap.size I) (h0 : I [] w) (a₁ : α → Act)
    (hassign : ∀ (l : Nat) (x : α) (W : World) (K : Act → World → Prop), K (a₁ x) W →
      assign.wpIn (Fence.wide.inRound l) (n - 1 - 1) P (Exit.then K (fun _ _ _ => False)) { tmps := (ps.zip (encs x)).foldl (fun t (p, v) => t.setIfInBounds p v) a.tmps, defers := [] } W)
    (hbody : ∀ (l : Nat) (pre : List α) (x : α) (W : World), I pre W → G pre x W → w.heap.size + 2 ≤ W.heap.size → body.wpIn (Fence.wide.inRound l) (n - 1 - 1) P (ownPostG w.heap.size Kp I (fun _ _ _ => False) (pre ++ [x]) W) (a₁ x) W)
    (hdone : ∀ (D : Nat) (xs : List α) (W : World), w.heap.size ≤ D → S xs → I xs W → W.heap[D]? = some (.deferred (some [])) → Q .normal { a with defers := { target := .collected D, args := #[] } :: a.defers } W) :
    (Code.rangeFunc g ps assign body).wpIn Fence.wide n P Q a w := by
  refine wpIn_rangeFunc fun fn _ => ?_
  have t1 := Two.first w (recd fn a ps assign body w.heap.size .ready none)
  have b1 : Below w0.heap.size w0 ((w.alloc (.deferred (some []))).alloc (.loop (recd fn a ps assign body w.heap.size .ready none))) := (hb0.alloc hb0.size _).alloc (by have := hb0.size; simp; omega) _
  have i1 : I [] ((w.alloc (.deferred (some []))).alloc (.loop (recd fn a ps assign body w.heap.size .ready none))) := hI.alloc _ (hI.alloc _ h0)
  have z1 : w.heap.size + 2 ≤ ((w.alloc (.deferred (some []))).alloc (.loop (recd fn a ps assign body w.heap.size .ready none))).heap.size := by simp
  obtain ⟨W1, hW1⟩ : ∃ W1, W1 = (w.alloc (.deferred (some []))).alloc (.loop (recd fn a ps assign body w.heap.size .ready none)) := ⟨_, rfl⟩
  rw [← hW1] at t1 b1 i1 z1
  refine ⟨w.heap.size + 1, [{ target := .collected w.heap.size, args := #[] }], W1, { target := .fn (.func gf) lb, args := #[.func (.yield (w.heap.size + 1)) #[] #[]] }, W1, gf, #[.func (.yield (w.heap.size + 1)) #[] #[]] ++ lb, W1,
    ?_, ?_, fun _ _ => trivial, ?_, fun _ => h1, ?_⟩
  · rw [hW1]; exact run_enterLoop_outer fn a.tmps ps assign body
  · simp only [resolve, hg]; simp [go_sem]
  · simp [invoke, go_sem, eg]
  · refine (hseq (w.heap.size + 1) (fun pre W => I pre W ∧ Two W w.heap.size (recd fn a ps assign body w.heap.size .ready none)) _ b1 (by omega) ?_ ?_ ⟨i1, t1⟩).mono ?_
    · rintro s A B row ⟨hi, ht⟩ hgr hr
      exact ⟨hI s A B row hi hgr fun r e => by obtain ⟨hB, o, ho, hw⟩ := hr r e; exact ⟨by omega, o, ho, hw⟩, ht.own hgr (fun r e => by have := (hr r e).1; omega)⟩
    · rintro pre x X ⟨hi, ht⟩ hgx
      refine ⟨fn, _, assign, body, run_yield ht.rec_ (hps x), roundIn_of_wpIn trivial (hassign _ x X _ ⟨_, run_beginRound ht.rec_ rfl, ?_⟩)⟩
      have hbu := ht.turn (recd fn a ps assign body w.heap.size .busy none)
      have hk0 : Kp X (X.putObj (w.heap.size + 1) (.loop (recd fn a ps assign body w.heap.size .busy none))) := hKb _ _ _ ht.rec_
      refine wpIn_mono (hbody _ pre x _ (hI.putObj _ hi (by omega) ht.rec_ rfl) (hG pre x X _ _ _ hgx (by omega) ht.rec_) (by have := heap_lt ht.rec_; simp; omega)) (fun e b Y hp => ?_)
      cases e with
      | normal =>
        have ht2 := hbu.keeps hp.1
        exact ⟨_, _, run_endRound none ht2.rec_, rfl, ⟨hI.putObj _ hp.2.2 (by omega) ht2.rec_ rfl, ht2.turn _⟩, hKt (hKt hk0 hp.2.1) (hKb _ _ _ ht2.rec_)⟩
      | ret => exact hp.2.elim
      | exit id => exact hp.2.elim
      | goto t => exact hp.2.elim
      | panic c => exact hp.elim
      | outgrown => exact hp.elim
    · rintro e Y ⟨⟨v, rfl⟩, xs, hs, hi, ht⟩
      exact ⟨none, _, run_endLoop ht.rec_ (by simp [recd]), hdone _ xs _ (Nat.le_refl _) hs (hI.putObj _ hi (by omega) ht.rec_ rfl) (ht.turn _).calls⟩
end Go.Proofs.YtjoaaabdcfcdiaaDoor

/-
  The iterators of counts: met, Each, and what they hand back. Conditions are each theorem's own.
-/
namespace Go.Proofs.YtjoaaabdcfcdiaaDoor
open Go.RowKit Go.Shelf
theorem run_store_fnC {P : Program} {w : World} {a : Addr} (m : Mode) (f : Fn) (x y : Array Value) : (store a (.func f x y) m).run P w = stored P w a (.func f x y) m := run_store P w a _ m rfl
attribute [local go_sem] run_store_fnC
theorem cnmet_nil (w : World) : Calls Tryd.prog 19 #[.pointer none] w fun e w' => e = .returned (.func (.func 21) #[] #[.pointer (some ⟨w.heap.size, 0, none⟩)]) ∧ Boxed w' w.heap.size 22 (.slice none 0 0) ∧ Below w.heap.size w w' := by
  go_enter Tryd.func19, Tryd.ntmps19
  go_wp2_with (go_at_call 15; refine (cnlist_nil _).mono ?_; rintro e w1 ⟨rfl, rfl⟩)
  go_ret
  exact ⟨rfl, Boxed.new _ _ _, (Below.refl _ _).alloc (Nat.le_refl _) _⟩
theorem cnmet {w : World} {k : Nat} {L : List Int} (h : Cn w k L) : Calls Tryd.prog 19 #[.pointer (some ⟨k, 0, none⟩)] w fun e w' => ∃ b, e = .returned (.func (.func 21) #[] #[.pointer (some ⟨b, 0, none⟩)]) ∧ Boxed w' b 22 (.slice (some ⟨w.heap.size, 0, none⟩) 14 14) ∧ w.heap.size < b ∧ w'.heap[w.heap.size]? = some (.cells (L.map (Value.int .i64)).toArray 38 (0, 0)) ∧ Below w.heap.size w w' := by
  have HK := Lib.hid h
  clear h
  go_enter Tryd.func19, Tryd.ntmps19
  go_wp2_with (go_at_call 15; refine (cnlist HK.out).mono ?_; rintro e w1 ⟨rfl, h1, x1⟩; have H1 := Lib.hid h1; clear h1)
  go_ret
  have z1 := heap_lt H1.out
  exact ⟨_, rfl, Boxed.new _ _ _, z1, (Below.heap_alloc _ _ _ z1).trans H1.out, x1.trans ((Below.refl _ _).alloc x1.size _)⟩
theorem cneach_nil (w : World) : Calls Tryd.prog 16 #[.pointer none] w fun e w' => ∃ m b, e = .returned (.func (.func 20) #[] #[.pointer (some ⟨b, 0, none⟩)]) ∧ Boxed w' b 44 (.func (.func 21) #[] #[.pointer (some ⟨m, 0, none⟩)]) ∧ Boxed w' m 22 (.slice none 0 0) ∧ m < b ∧ w.heap.size ≤ m ∧ Below w.heap.size w w' := by
  go_enter Tryd.func16, Tryd.ntmps16
  go_wp2_with (go_at_call 19; refine (cnmet_nil _).mono ?_; rintro e w1 ⟨rfl, h1, x1⟩; have H1 := Lib.hid h1; clear h1)
  go_ret
  have z1 := Boxed.lt H1.out
  exact ⟨_, _, rfl, Boxed.new _ _ _, Boxed.below H1.out ((Below.refl _ w1).alloc (Nat.le_refl _) _) z1, z1, Nat.le_refl _, x1.trans ((Below.refl _ _).alloc x1.size _)⟩
end Go.Proofs.YtjoaaabdcfcdiaaDoor

/-
  What met and Each hand back, as promises to the loop that ranges over them. Conditions are each theorem's own.
-/
namespace Go.Proofs.YtjoaaabdcfcdiaaDoor
open Go.RowKit Go.Shelf
attribute [local go_sem] Oper.semAt_some run_store_fnC
/-- Those of which there are any, with their numbers. -/
def metF (i : Nat) : List Int → List (Nat × Int)
  | [] => []
  | x :: r => if 0 < x then (i, x) :: metF (i + 1) r else metF (i + 1) r
theorem metF_app : ∀ (i : Nat) (l m : List Int), metF i (l ++ m) = metF i l ++ metF (i + l.length) m
  | i, [], m => by simp [metF]
  | i, x :: l, m => by
    simp only [List.cons_append, metF, List.length_cons]
    rw [metF_app (i + 1) l m]
    split <;> simp [Nat.add_assoc, Nat.add_comm 1]
theorem metF_take {L : List Int} {k : Nat} {x : Int} (hx : L[k]? = some x) : metF 0 (L.take (k + 1)) = metF 0 (L.take k) ++ metF k [x] := by
  obtain ⟨h1, h2⟩ := List.getElem?_eq_some_iff.1 hx
  rw [List.take_succ_eq_append_getElem h1, h2, metF_app, List.length_take, Nat.min_eq_left (by omega), Nat.zero_add]
theorem metF_all {L : List Int} {k : Nat} {x : Int} (hx : L[k]? = some x) (hp : 0 < x) : metF 0 L = metF 0 (L.take k) ++ (k, x) :: metF (k + 1) (L.drop (k + 1)) := by
  obtain ⟨h1, h2⟩ := List.getElem?_eq_some_iff.1 hx
  conv => lhs; rw [← List.take_append_drop k L, List.drop_eq_getElem_cons h1, h2]
  rw [metF_app, List.length_take, Nat.min_eq_left (by omega), Nat.zero_add]
  simp only [metF, if_pos hp]
def encM (e : Nat × Int) : Array Value := #[.int .i64 (e.1 : Int), .int .i64 e.2]
def GM (D : List (Nat × Int)) (pre : List (Nat × Int)) (x : Nat × Int) (_ : World) : Prop := ∃ more, D = pre ++ x :: more
/-- The row behind a slice, which may be none. -/
def RowC (A : Option Addr) (L : List Int) (X : World) : Prop := L = [] ∨ ∃ g, A = some ⟨g, 0, none⟩ ∧ X.heap[g]? = some (.cells (L.map (Value.int .i64)).toArray 38 (0, 0))
set_option maxRecDepth 100000 in
theorem cnmet1_in (m : Nat) (hm : 1 ≤ m) (l bm c : Nat) (A : Option Addr) (L : List Int) (J : List (Nat × Int) → World → Prop) (Kp : World → World → Prop) (hK : ∀ X Y, Kp X Y → RowC A L X → RowC A L Y) (W : World)
    (hY : ∀ pre x X, J pre X → GM (metF 0 L) pre x X → YieldAt Fence.wide (m - 1) Tryd.prog l (encM x) X fun e Y => e = .returned (.bool true) ∧ J (pre ++ [x]) Y ∧ Kp X Y)
    (hbox : W.cell? ⟨bm, 0, none⟩ = some (.slice A L.length c)) (hrow : RowC A L W) (hS : L.length ≤ 1000000) (hJ : J [] W) :
    CallsIn Fence.wide m Tryd.prog 21 #[.func (.yield l) #[] #[], .pointer (some ⟨bm, 0, none⟩)] W fun e W' => (∃ v, e = .returned v) ∧ ∃ xs, xs = metF 0 L ∧ J xs W' := by
  obtain ⟨N, hNe⟩ : ∃ N, N = L.length := ⟨_, rfl⟩
  rw [← hNe] at hbox hS
  have HN := Lib.hid hNe
  clear hNe
  refine callsIn_of_wp Tryd.func21 rfl trivial ?_ rfl
  simp only [Tryd.ntmps21, List.size_toArray, List.length_cons, List.length_nil, Nat.reduceAdd, Nat.reduceSub, Array.replicate_succ, Array.replicate_zero, List.push_toArray, List.append_toArray, List.nil_append, List.cons_append]
  gi_wp2
  gi_loopw [7] (fun i wr => ∃ (k : Nat) (pre : List (Nat × Int)), k ≤ N ∧ i = .int .i64 (k : Int) ∧ Hid (pre = metF 0 (L.take k)) ∧ J pre wr ∧ Hid (RowC A L wr))
    (fun i _ => N - (intOf i).toNat)
  case atStart => exact ⟨0, [], Nat.zero_le _, rfl, Lib.hid rfl, hJ, Lib.hid hrow⟩
  case round =>
    obtain ⟨k, pre, hk, rfl, HP, hJs, HR⟩ := hrel
    by_cases hlt : k < N
    · obtain ⟨x, hx⟩ : ∃ x, L[k]? = some x := ⟨_, List.getElem?_eq_getElem (by rw [← HN.out]; exact hlt)⟩
      have hne : L ≠ [] := by rintro rfl; simp at hx
      obtain ⟨g, rfl, hg⟩ := HR.out.resolve_left hne
      have kx : wr.cell? ⟨g, 0 + k, none⟩ = some (.int .i64 x) := by rw [Nat.zero_add]; exact cellC hg (by simp [hx])
      have kx0 : wr.cell? ⟨g, k, none⟩ = some (.int .i64 x) := by rw [Nat.zero_add] at kx; exact kx
      have HTK := Lib.hid (metF_take hx)
      by_cases hp : 0 < x
      · have dp : decide (0 < x) = true := by simp; omega
        have hAll := Lib.hid (metF_all hx hp)
        have HSP : Hid (metF 0 (L.take (k + 1)) = metF 0 (L.take k) ++ [(k, x)]) := Lib.hid (by rw [HTK.out]; simp only [metF, if_pos hp])
        have hY2 := hY pre (k, x) wr hJs ⟨_, by rw [HP.out]; exact hAll.out⟩
        obtain ⟨fn, tmps, assign, body, hy, hR⟩ := hY2
        dsimp only [encM] at hy
        clear hx hbox hg
        gi_wp2
        refine hR.mono ?_
        rintro e W3 ⟨rfl, hJ3, hk3⟩
        clear hy hR
        have hR3 := Lib.hid (hK _ _ hk3 HR.out)
        gi_wp2
        go_roundw
        case rel => exact ⟨k + 1, pre ++ [(k, x)], by omega, by simp, Lib.hid (by rw [HSP.out, HP.out]), hJ3, hR3⟩
        case measure => simp [intOf]; omega
      · have dp : decide (0 < x) = false := by simp; omega
        have HSP : Hid (metF 0 (L.take (k + 1)) = metF 0 (L.take k)) := Lib.hid (by rw [HTK.out]; simp only [metF, if_neg hp, List.append_nil])
        clear hx hbox hg
        gi_wp2
        refine ⟨fun _ h => (by cases h), ?_⟩
        gi_wp2
        go_roundw
        case rel => exact ⟨k + 1, pre, by omega, by simp, Lib.hid (by rw [HSP.out, HP.out]), hJs, HR⟩
        case measure => simp [intOf]; omega
    · obtain rfl : N = k := by omega
      gi_wp2
      try rw [Exit.noGoto_normal]
      go_end0
      exact ⟨⟨_, rfl⟩, ⟨_, by rw [HP.out, List.take_of_length_le (by rw [← HN.out]; exact Nat.le_refl _)], hJs⟩⟩
theorem cnmet1_seq (q bm c : Nat) (A : Option Addr) (L : List Int) (Kp : World → World → Prop) (hK : ∀ X Y, Kp X Y → RowC A L X → RowC A L Y) (W : World) (hbox : W.cell? ⟨bm, 0, none⟩ = some (.slice A L.length c)) (hrow : RowC A L W) (hS : L.length ≤ 1000000) (m : Nat) (hm : 1 ≤ m) :
    SeqOwn m Tryd.prog 21 #[.pointer (some ⟨bm, 0, none⟩)] encM (GM (metF 0 L)) Kp (fun xs => xs = metF 0 L) q W := by
  intro l J V hV _ _ hY h0
  refine cnmet1_in m hm l bm c A L J Kp hK V hY ((hV.cell (p := ⟨bm, 0, none⟩) (cell_block hbox)).trans hbox) ?_ hS h0
  rcases hrow with h | ⟨g, e, hg⟩
  · exact .inl h
  · exact .inr ⟨g, e, (hV.block g (heap_lt hg)).trans hg⟩
end Go.Proofs.YtjoaaabdcfcdiaaDoor
