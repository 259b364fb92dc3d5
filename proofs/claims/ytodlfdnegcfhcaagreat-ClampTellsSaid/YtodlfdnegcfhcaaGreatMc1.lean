/-
  Contracts and lemmas on which the proofs of this seat stand (several texts in one). Conditions are each theorem's own.
-/
import Derived.Test.YtodlfdnegcfhcaaGreatMa6
import Derived.Test.YtodlfdnegcfhcaaGreatMa5
import Derived.Test.YtodlfdnegcfhcaaGreatMb1

/-
  The struct api.ICMP as data: its cells, its value, a block that holds one. Conditions are each theorem's own.
-/
namespace Go.Proofs.YtodlfdnegcfhcaaGreat
open Go.RowKit Go.ChangeShapes Go.WideShapes

structure PI where
  typ : Int
  code : Int
  rest : Int
  dat : List UInt8
def isz : PI := ⟨0, 0, 0, []⟩
/-- Its cells. -/
def isa (q : PI) (A : Option Addr) (c : Nat) : Array Value := #[.int .i64 q.typ, .int .i64 q.code, .int .i64 q.rest, .slice A q.dat.length c]
def isv (q : PI) (A : Option Addr) (c : Nat) : Value := .agg #[.int .i64 q.typ, .int .i64 q.code, .int .i64 q.rest, .slice A q.dat.length c]
theorem isv_eq (q : PI) (A : Option Addr) (c : Nat) : isv q A c = .agg (isa q A c) := rfl
def PI.fits (q : PI) : Prop := ∀ n ∈ [q.typ, q.code, q.rest], (Lit.int .i64 n).wf = true
theorem isa_size (q : PI) (A : Option Addr) (c : Nat) : (isa q A c).size = 4 := rfl
theorem is_one (q : PI) (A : Option Addr) (c : Nat) : (isa q A c).all (·.oneCell') = true := by simp [isa, Value.oneCell']
section
variable {H : Type} {enc : TypeId × Value → H} {w : World} {base : Nat} {v : Value} {d : DataW H} {p : List MemPlace}
set_option maxRecDepth 100000 in
theorem get_is (hv : Value.okWide Tryz.prog w .any base 93 v) (h : DataW.Trod enc Tryz.prog w 0 (fun _ => true) true 93 v d p) :
    ∃ q A c, v = isv q A c ∧ Arg w w.heap.size A c q.dat ∧ c ≤ maxLen ∧ q.fits := by
  obtain ⟨cs, rfl, hcs⟩ : ∃ cs, v = .agg cs ∧ cs.size = Tryz.prog.cellsOf 93 := by
    have := hv
    simp only [Value.okWide, Tryz.underlying93] at this
    obtain ⟨cs, h1, h2, _⟩ := this
    exact ⟨cs, h1, h2⟩
  obtain ⟨fuel, hf⟩ := h
  obtain ⟨xs, n, _, _, hl, hxs, hall⟩ := DataW.trod_struct Tryz.underlying93 hf
  have hci : Tryz.prog.cellsOf 3 = 1 := by kernel_rfl
  have hcy : Tryz.prog.cellsOf 22 = 1 := by kernel_rfl
  have hcu : Tryz.prog.cellsOf 5 = 1 := by kernel_rfl
  have hcn : Tryz.prog.cellsOf 93 = 4 := by kernel_rfl
  obtain ⟨l⟩ := cs
  have hl' : l.length = 4 := by rw [← hcn]; exact hl
  have hall' : ∀ (i : Nat) (f : Field), _ → DataW.trod enc Tryz.prog w 0 (fun _ => true) true n f.type ((l.drop f.offset).take (Tryz.prog.cellsOf f.type)) = xs[i]? := hall
  match xs, hxs with
  | [y0, y1, y2, y3], _ =>
    have h0 : DataW.trod enc Tryz.prog w 0 (fun _ => true) true n 3 ((l.drop 0).take (Tryz.prog.cellsOf 3)) = some y0 := hall' 0 _ rfl
    rw [hci] at h0
    obtain ⟨a0, e0, f0⟩ := cell_int Tryz.underlying3 h0
    have h1 : DataW.trod enc Tryz.prog w 0 (fun _ => true) true n 3 ((l.drop 1).take (Tryz.prog.cellsOf 3)) = some y1 := hall' 1 _ rfl
    rw [hci] at h1
    obtain ⟨a1, e1, f1⟩ := cell_int Tryz.underlying3 h1
    have h2 : DataW.trod enc Tryz.prog w 0 (fun _ => true) true n 3 ((l.drop 2).take (Tryz.prog.cellsOf 3)) = some y2 := hall' 2 _ rfl
    rw [hci] at h2
    obtain ⟨a2, e2, f2⟩ := cell_int Tryz.underlying3 h2
    have h3 : DataW.trod enc Tryz.prog w 0 (fun _ => true) true n 22 ((l.drop 3).take (Tryz.prog.cellsOf 22)) = some y3 := hall' 3 _ rfl
    rw [hcy] at h3
    obtain ⟨A3, c3, a3, e3, f3, g3⟩ := cell_bytes Tryz.underlying22 Tryz.underlying5 hcu h3
    have k0 := piece_get e0
    have k1 := piece_get e1
    have k2 := piece_get e2
    have k3 := piece_get e3
    have el : l = [.int .i64 a0, .int .i64 a1, .int .i64 a2, .slice A3 a3.length c3] := by
      match l, hl' with
      | [x0, x1, x2, x3], _ => simp at k0 k1 k2 k3; simp [k0, k1, k2, k3]
    refine ⟨⟨a0, a1, a2, a3⟩, A3, c3, by rw [el]; rfl, f3, g3, ?_⟩
    intro m hm
    simp only [List.mem_cons, List.not_mem_nil, or_false] at hm
    rcases hm with rfl | rfl | rfl <;> assumption
end
/-- It lies in a block of its own. -/
def Atis (W : World) (g : Nat) (q : PI) (A : Option Addr) (c : Nat) : Prop := W.rangeAt g 0 (isa q A c).toList
section
variable {W : World} {g : Nat} {q : PI} {A : Option Addr} {c : Nat}
theorem Atis.new (w : World) : Atis (w.alloc (.cells (isa q A c) 93)) w.heap.size q A c := fun j v hj => by
  rw [Nat.zero_add, World.cell?_alloc_new, ← hj, Array.getElem?_toList]
theorem Atis.of_heap {t : TypeId} {fr : Nat × Nat} (h : W.heap[g]? = some (.cells (isa q A c) t fr)) : Atis W g q A c := fun j v hj => by
  rw [cell_of_row W g (0 + j) _ _ _ h, Nat.zero_add, ← Array.getElem?_toList]; exact hj
theorem Atis.below {w : World} {B : Nat} (h : Atis W g q A c) (hb : Below B W w) (hg : g < B) : Atis w g q A c := range_below h hg hb
theorem Atis.typ (h : Atis W g q A c) : W.cell? ⟨g, 0, none⟩ = some (.int .i64 q.typ) := h 0 _ rfl
theorem Atis.code (h : Atis W g q A c) : W.cell? ⟨g, 1, none⟩ = some (.int .i64 q.code) := h 1 _ rfl
theorem Atis.rest (h : Atis W g q A c) : W.cell? ⟨g, 2, none⟩ = some (.int .i64 q.rest) := h 2 _ rfl
theorem Atis.dat (h : Atis W g q A c) : W.cell? ⟨g, 3, none⟩ = some (.slice A q.dat.length c) := h 3 _ rfl
end
theorem run_load_is {o : Oper} {a : Act} {w : World} {x : Operand} {g : Nat} {cs : List Value} (ho : o.op = .load 93 x) (hx : a.eval x = .pointer (some ⟨g, 0, none⟩)) (hr : w.rangeAt g 0 cs) (hl : cs.length = 4) :
    (execOp a.eval o).run Tryz.prog w = .ok (.value (.agg cs.toArray)) w := by
  have h := run_loadVar_mid (P := Tryz.prog) w g 0 93 cs _ hr Tryz.underlying93 rfl (by rw [hl]; kernel_rfl)
  unfold execOp
  simp only [ho, hx, Instr.loadAt, Instr.sureAddr, Sem.run_bind, Sem.run_pure, Result.andThen_ok, h]
theorem is_store {ops : Array Oper} {rest : List Oper} {x y : Operand} {ty : TypeId} {pos : String} {af : Array Edge} {a : Act} {w : World} {Q : Exit → Act → World → Prop}
    {g : Nat} {t : TypeId} {cs old : Array Value} (hx : a.eval x = .pointer (some ⟨g, 0, none⟩)) (hy : a.eval y = .agg cs) (hg : w.heap[g]? = some (.cells old t (0, 0))) (ho : old.size = 4) (hl : cs.size = 4) (h1 : cs.all (·.oneCell') = true)
    (h : wpList Tryz.prog ops Q rest (a.put none undef) (w.setRow g cs)) : wpList Tryz.prog ops Q (⟨none, .store 93 x y, ty, pos, af, none⟩ :: rest) a w :=
  wpList_plain rfl fun _ hK => wp_store_row 93 x y rfl g cs hx hy t old hg (by rw [hl]; kernel_rfl) (by rw [ho, hl]) h1 (hK _ _ h)
theorem is_store_new {ops : Array Oper} {rest : List Oper} {x y : Operand} {ty : TypeId} {pos : String} {af : Array Edge} {a : Act} {w : World} {Q : Exit → Act → World → Prop}
    {t : TypeId} {cs old : Array Value} (hx : a.eval x = .pointer (some ⟨w.heap.size, 0, none⟩)) (hy : a.eval y = .agg cs) (ho : old.size = 4) (hl : cs.size = 4) (h1 : cs.all (·.oneCell') = true)
    (h : wpList Tryz.prog ops Q rest (a.put none undef) (w.alloc (.cells cs t))) : wpList Tryz.prog ops Q (⟨none, .store 93 x y, ty, pos, af, none⟩ :: rest) a (w.alloc (.cells old t)) :=
  is_store hx hy (World.alloc_heap_new w _) ho hl h1 (by rw [World.setRow_alloc_new]; exact h)
theorem is_result {fn : Func} {p : Tmp} {tmps : Array Value} {w : World} {g : Nat} {t : TypeId} {cs : Array Value} {fr : Nat × Nat} (h : fn.results = #[.cell p 93])
    (hp : tmps.getD p undef = .pointer (some ⟨g, 0, none⟩)) (hg : w.heap[g]? = some (.cells cs t fr)) (hl : cs.size = 4) : (results fn tmps).run Tryz.prog w = .ok (.agg cs) w :=
  results_cell_row h tmps w g t cs fr _ hp hg Tryz.underlying93 rfl (by rw [hl]; kernel_rfl)
theorem is_load_run {w : World} {g : Nat} {t : TypeId} {cs : Array Value} {fr : Nat × Nat} (hg : w.heap[g]? = some (.cells cs t fr)) (hl : cs.size = 4) : (loadVar 93 ⟨g, 0, none⟩).run Tryz.prog w = .ok (.agg cs) w :=
  run_loadVar_row w g t 93 cs fr _ hg Tryz.underlying93 rfl (by rw [hl]; kernel_rfl)
end Go.Proofs.YtodlfdnegcfhcaaGreat

/-
  Messages of ICMP in plain lists of bytes: what may be, its bytes, what bytes are; of both layers (a sum that is of other bytes, too). No program. Conditions are each theorem's own.
-/
namespace Go.Proofs.YtodlfdnegcfhcaaGreat
open Go.RowKit

def argI (q : PI) : Prop := 0 ≤ q.typ ∧ q.typ ≤ 255 ∧ 0 ≤ q.code ∧ q.code ≤ 255 ∧ 0 ≤ q.rest ∧ q.rest < 4294967296
instance (q : PI) : Decidable (argI q) := by unfold argI; infer_instance
def chkI (q : PI) : Int := if argI q then (if q.dat.length > 65527 then 6 else 0) else 1
theorem chkI_ok {q : PI} (h : chkI q = 0) : argI q ∧ q.dat.length ≤ 65527 := by
  unfold chkI at h
  split at h
  · rename_i ha
    split at h
    · cases h
    · exact ⟨ha, by omega⟩
  · cases h
theorem argI_iff (q : PI) : argI q ↔ (fitsB q.typ 1 = true ∧ fitsB q.code 1 = true ∧ fitsB q.rest 4 = true) := by
  rw [fitsB_iff, fitsB_iff, fitsB_iff, pw1, pw4, argI]; omega
/-- A head. -/
def hdI (q : PI) (s : Int) : List UInt8 := [u8 q.typ, u8 q.code] ++ be2 s ++ be4 q.rest
theorem hdI_len (q : PI) (s : Int) : (hdI q s).length = 8 := by simp [hdI, be2, be4]
/-- The sum of a message and of other bytes. -/
def smI (p : List UInt8) (q : PI) : Int := 65535 - fold (psum [p, hdI q 0, q.dat])
theorem smI_bd (p : List UInt8) (q : PI) : 0 ≤ smI p q ∧ smI p q ≤ 65535 := by
  have := fold_bd (psum [p, hdI q 0, q.dat]); unfold smI; omega
def bldI (p : List UInt8) (q : PI) : List UInt8 := hdI q (smI p q) ++ q.dat
theorem bldI_len (p : List UInt8) (q : PI) : (bldI p q).length = 8 + q.dat.length := by rw [bldI, List.length_append, hdI_len]
/-- What is wrong with bytes; nothing: 0. -/
def badI (p b : List UInt8) : Int := if b.length < 8 then 3 else if b.length > 65535 then 6 else if rightB [p, b] = false then 5 else 0
def rawI (b : List UInt8) : PI := ⟨byt b 0, byt b 1, n4 b 4, b.drop 8⟩
def prsI (p b : List UInt8) : PI := if badI p b = 0 then rawI b else isz
/-- Are two the same? -/
def sameI (q r : PI) : Bool := (q.typ == r.typ) && (q.code == r.code) && (q.rest == r.rest) && decide (q.dat = r.dat)
theorem sameI_iff {q r : PI} : sameI q r = true ↔ q = r := by
  obtain ⟨a0, a1, a2, a3⟩ := q
  obtain ⟨b0, b1, b2, b3⟩ := r
  simp only [sameI, Bool.and_eq_true, beq_iff_eq, decide_eq_true_eq, PI.mk.injEq]
  constructor
  · rintro ⟨⟨⟨h0, h1⟩, h2⟩, h3⟩; exact ⟨h0, h1, h2, h3⟩
  · rintro ⟨h0, h1, h2, h3⟩; exact ⟨⟨⟨h0, h1⟩, h2⟩, h3⟩
theorem psum_nil (l : List (List UInt8)) : psum ([] :: l) = psum l := by rw [psum_cons]; simp [wall, prs, wsum]
theorem rightB_nil (b : List UInt8) : rightB [[], b] = rightB [b] := by rw [rightB, rightB, psum_nil]
theorem psum_glueI (p : List UInt8) (q : PI) (s : Int) : psum [p, hdI q s, q.dat] = psum [p, hdI q s ++ q.dat] := psum_glue _ _ _ (m := 4) (hdI_len q s)
theorem smI_two (p : List UInt8) (q : PI) : smI p q = 65535 - fold (psum [p, hdI q 0 ++ q.dat]) := by rw [smI, psum_glueI]
theorem smI_one (q : PI) : smI [] q = 65535 - fold (psum [hdI q 0 ++ q.dat]) := by rw [smI_two, psum_nil]
theorem smI_nil (q : PI) : smI [] q = 65535 - fold (psum [hdI q 0, q.dat]) := by rw [smI, psum_nil]
theorem hdI_wall (q : PI) {s : Int} (h0 : 0 ≤ s) (h1 : s ≤ 65535) : wall (hdI q s) = wall (hdI q 0) + s := by
  have z : ∀ n : Int, 0 ≤ n → n ≤ 65535 → wall (hdI q n) = wall [u8 q.typ, u8 q.code] + n + wall (be4 q.rest) := fun n a b => by
    rw [hdI, wall_append (m := 2) (by simp [be2]), wall_append (m := 1) (by simp), be2_wall a b]
  rw [z s h0 h1, z 0 (by omega) (by omega)]; omega
/-- What is built is right. -/
theorem bldI_right (p : List UInt8) (q : PI) : rightB [p, bldI p q] = true := by
  have e : psum [p, bldI p q] = psum [p, hdI q 0, q.dat] + smI p q := by
    rw [bldI, ← psum_glueI]
    simp only [psum_cons]
    rw [hdI_wall q (smI_bd p q).1 (smI_bd p q).2]; omega
  have hs : smI p q = 65535 - fold (psum [p, hdI q 0, q.dat]) := rfl
  rw [rightB, e, right_of (psum_nn _) hs]; rfl
theorem backI {p : List UInt8} {q : PI} (h : chkI q = 0) : badI p (bldI p q) = 0 ∧ prsI p (bldI p q) = q := by
  obtain ⟨⟨a1, a2, a3, a4, a5, a6⟩, hl⟩ := chkI_ok h
  have hlen := bldI_len p q
  have f0 : byt (bldI p q) 0 = q.typ := by
    have e : byt (bldI p q) 0 = q.typ % 256 := u8_val q.typ
    omega
  have f1 : byt (bldI p q) 1 = q.code := by
    have e : byt (bldI p q) 1 = q.code % 256 := u8_val q.code
    omega
  have f4 : n4 (bldI p q) 4 = q.rest := by
    rw [bldI, hdI, List.append_assoc]; exact n4_be4 (a := [u8 q.typ, u8 q.code] ++ be2 (smI p q)) a5 a6 rfl
  have hb : badI p (bldI p q) = 0 := by
    unfold badI
    rw [if_neg (by omega), if_neg (by omega), if_neg (by rw [bldI_right]; simp)]
  refine ⟨hb, ?_⟩
  rw [prsI, if_pos hb, rawI, f0, f1, f4]
  have hd : (bldI p q).drop 8 = q.dat := by rw [bldI, List.drop_left' (hdI_len q _)]
  rw [hd]
/-- What is answered beside an error. -/
def resI (p : List UInt8) (q : PI) : List UInt8 := if chkI q = 0 then bldI p q else []
/-- A sum set in its place. -/
theorem setI (q : PI) (t s : Int) (d : List UInt8) (h0 : 0 ≤ s) (h1 : s ≤ 65535) : setB (hdI q t ++ d) 2 s 2 = hdI q s ++ d := by
  rw [setB, if_pos ⟨fitsB_iff.2 ⟨by omega, by omega, h0, by simp [pw]; omega⟩, by omega, by rw [List.length_append, hdI_len]; omega⟩]
  have e : digs s (2 : Int).toNat = be2 s := digs_two h0
  rw [e, show (2 : Int).toNat = 2 from rfl, hdI, List.append_assoc, List.append_assoc, splice_mid _ _ _ 2 rfl, hdI]
  simp [be2]
/-- What a message's sum is of, too, between two addresses. -/
def psJ (src dst : List UInt8) (next size : Int) : List UInt8 := src ++ dst ++ be4 size ++ [u8 0, u8 0, u8 0, u8 next]
theorem psJ_len {src dst : List UInt8} (next size : Int) (h1 : src.length = 16) (h2 : dst.length = 16) : (psJ src dst next size).length = 40 := by simp [psJ, be4, h1, h2]
def preJ (src dst b : List UInt8) : List UInt8 := psJ src dst 58 (b.length : Int)
/-- A message's bytes between two addresses. -/
def bldJ (src dst : List UInt8) (q : PI) : List UInt8 := bldI (psJ src dst 58 (8 + (q.dat.length : Int))) q
theorem bldJ_len (src dst : List UInt8) (q : PI) : (bldJ src dst q).length = 8 + q.dat.length := bldI_len _ q
theorem preJ_bld (src dst : List UInt8) (q : PI) : preJ src dst (bldJ src dst q) = psJ src dst 58 (8 + (q.dat.length : Int)) := by rw [preJ, bldJ_len]; simp
theorem backJ {src dst : List UInt8} {q : PI} (h : chkI q = 0) : badI (preJ src dst (bldJ src dst q)) (bldJ src dst q) = 0 ∧ prsI (preJ src dst (bldJ src dst q)) (bldJ src dst q) = q := by
  rw [preJ_bld]; exact backI h
/-- Which kinds tell of a fault, which ask. -/
def fltI (k : Int) : Bool := decide (k ∈ [3, 4, 5, 11, 12])
def qryI (k : Int) : Bool := decide (k ∈ [8, 0])
def fltJ (k : Int) : Bool := decide (1 ≤ k ∧ k ≤ 127)
theorem fltqry (k : Int) : (fltI k && qryI k) = false := by
  cases h : fltI k
  · rfl
  · cases h2 : qryI k
    · rfl
    · simp [fltI] at h; simp [qryI] at h2; omega
/-- A message's identifier, and the message with another one. -/
def idI (q : PI) : Int := q.rest / 65536 % 65536
def wdI (q : PI) (id : Int) : PI := ⟨q.typ, q.code, id % 65536 * 65536 + q.rest % 65536, q.dat⟩
end Go.Proofs.YtodlfdnegcfhcaaGreat

/-
  Contracts of slices.Index, slices.Contains over integers; of icmp's among, Fault, Query, and the document's. Conditions are each theorem's own.
-/
namespace Go.Proofs.YtodlfdnegcfhcaaGreat
open Go.RowKit

theorem iindex_none (g n : Nat) (zs : List Int) (x : Int) (w : World) (hn : n ≤ 1000) (h : ∀ j, j < n → w.cell? ⟨g, j, none⟩ = some (.int .i64 (zs.getD j 0))) (hx : ∀ j, j < n → (x == zs.getD j 0) = false) :
    Calls Tryz.prog 127 #[.slice (some ⟨g, 0, none⟩) n n, .int .i64 x] w fun e w' => e = .returned (.int .i64 (-1)) ∧ w = w' := by
  have H := Lib.hid h
  have HX := Lib.hid hx
  clear h hx
  go_enter Tryz.func127, Tryz.ntmps127
  go_wp2
  go_loop [8] (fun i => ∃ k : Nat, k ≤ n ∧ i = .int .i64 k) (fun i => n - (intOf i).toNat)
  case atStart => exact ⟨0, Nat.zero_le _, rfl⟩
  case round =>
    obtain ⟨k, hk, rfl⟩ := hrel
    by_cases hlt : k < n
    · have hc := H.out k hlt
      have hd := HX.out k hlt
      generalize zs.getD k 0 = y at hc hd
      go_wp2
      go_round
      case rel => exact ⟨k + 1, by omega, by simp⟩
      case measure => simp [intOf]; omega
    · obtain rfl : k = n := by omega
      go_wp2
      go_ret
      exact ⟨rfl, rfl⟩
theorem iindex_some (g n k0 : Nat) (zs : List Int) (x : Int) (w : World) (hn : n ≤ 1000) (hk0 : k0 < n) (h : ∀ j, j < n → w.cell? ⟨g, j, none⟩ = some (.int .i64 (zs.getD j 0))) (hx : ∀ j, j < k0 → (x == zs.getD j 0) = false) (h0 : (x == zs.getD k0 0) = true) :
    Calls Tryz.prog 127 #[.slice (some ⟨g, 0, none⟩) n n, .int .i64 x] w fun e w' => e = .returned (.int .i64 (k0 : Int)) ∧ w = w' := by
  have H := Lib.hid h
  have HX := Lib.hid hx
  have H0 := Lib.hid h0
  clear h hx h0
  go_enter Tryz.func127, Tryz.ntmps127
  go_wp2
  go_loop [8] (fun i => ∃ k : Nat, k ≤ k0 ∧ i = .int .i64 k) (fun i => n - (intOf i).toNat)
  case atStart => exact ⟨0, Nat.zero_le _, rfl⟩
  case round =>
    obtain ⟨k, hk, rfl⟩ := hrel
    have hlt : k < n := by omega
    have hc := H.out k hlt
    by_cases hlt2 : k < k0
    · have hd := HX.out k hlt2
      generalize zs.getD k 0 = y at hc hd
      go_wp2
      go_round
      case rel => exact ⟨k + 1, by omega, by simp⟩
      case measure => simp [intOf]; omega
    · obtain rfl : k = k0 := by omega
      have hd := H0.out
      generalize zs.getD k 0 = y at hc hd
      go_wp2
      go_ret
      exact ⟨rfl, rfl⟩
theorem first_in (x : Int) : ∀ (zs : List Int), x ∈ zs → ∃ k, k < zs.length ∧ (∀ j, j < k → (x == zs.getD j 0) = false) ∧ (x == zs.getD k 0) = true
  | [], h => by cases h
  | z :: l, h => by
    by_cases e : x = z
    · exact ⟨0, by simp, fun j hj => absurd hj (Nat.not_lt_zero j), by simp [e]⟩
    · obtain ⟨k, h1, h2, h3⟩ := first_in x l (by rcases List.mem_cons.1 h with h | h; exact absurd h e; exact h)
      refine ⟨k + 1, by simp; omega, fun j hj => ?_, by simpa using h3⟩
      cases j with
      | zero => simpa using e
      | succ j => simpa using h2 j (by omega)
theorem icontains_any (g : Nat) (zs : List Int) (x : Int) (w : World) (hn : zs.length ≤ 1000) (h : w.rangeAt g 0 (zs.map (Value.int .i64))) :
    Calls Tryz.prog 125 #[.slice (some ⟨g, 0, none⟩) zs.length zs.length, .int .i64 x] w fun e w' => e = .returned (.bool (decide (x ∈ zs))) ∧ w = w' := by
  have hc : ∀ j, j < zs.length → w.cell? ⟨g, j, none⟩ = some (.int .i64 (zs.getD j 0)) := fun j hj => by
    have := h j (.int .i64 (zs.getD j 0)) (by simp [List.getD_eq_getElem?_getD, hj])
    rwa [Nat.zero_add] at this
  by_cases hm : x ∈ zs
  · obtain ⟨k, h1, h2, h3⟩ := first_in x zs hm
    have c := iindex_some g zs.length k zs x w hn h1 hc h2 h3
    have hD := Lib.hid (show decide (x ∈ zs) = true by simpa using hm)
    clear h hc h2 h3 hm
    go_enter Tryz.func125, Tryz.ntmps125
    go_wp2_with (go_at_call 127; refine c.mono ?_; rintro e w' ⟨rfl, rfl⟩)
    go_ret
    exact ⟨ret_bool (by rw [hD.out]), rfl⟩
  · have c := iindex_none g zs.length zs x w hn hc (fun j hj => by
      rw [List.getD_eq_getElem?_getD, List.getElem?_eq_getElem hj]
      simp only [Option.getD_some, beq_eq_false_iff_ne]
      intro e; exact hm (e ▸ List.getElem_mem hj))
    have hD := Lib.hid (show decide (x ∈ zs) = false by simpa using hm)
    clear h hc hm
    go_enter Tryz.func125, Tryz.ntmps125
    go_wp2_with (go_at_call 127; refine c.mono ?_; rintro e w' ⟨rfl, rfl⟩)
    go_ret
    exact ⟨ret_bool (by rw [hD.out]), rfl⟩
theorem range_ints (w : World) (zs : List Int) (t : TypeId) : (w.alloc (.cells (zs.map (Value.int .i64)).toArray t)).rangeAt w.heap.size 0 (zs.map (Value.int .i64)) := fun j v hj => by
  rw [Nat.zero_add, World.cell?_alloc_new, ← hj, List.getElem?_toArray]
theorem among_new (zs : List Int) (x : Int) (cs : Array Value) (n : Nat) (t : TypeId) (w : World) (hc : cs = (zs.map (Value.int .i64)).toArray) (hn : n = zs.length) (hl : zs.length ≤ 1000) :
    Calls Tryz.prog 117 #[.int .i64 x, .slice (some ⟨w.heap.size, 0, none⟩) n n] (w.alloc (.cells cs t)) fun e w' => e = .returned (.bool (decide (x ∈ zs))) ∧ Below w.heap.size w w' := by
  subst hc; subst hn
  have c := icontains_any w.heap.size zs x _ hl (range_ints w zs t)
  have hb : Below w.heap.size w (w.alloc (.cells (zs.map (Value.int .i64)).toArray t)) := (Below.refl _ w).alloc (Nat.le_refl _) _
  generalize decide (x ∈ zs) = D at c ⊢
  generalize w.alloc (.cells (zs.map (Value.int .i64)).toArray t) = W at *
  go_enter Tryz.func117, Tryz.ntmps117
  go_wp2_with (go_at_call 125; refine c.mono ?_; rintro e w' ⟨rfl, rfl⟩)
  go_ret
  exact ⟨rfl, hb⟩
theorem cIquery (k : Int) (w : World) : Calls Tryz.prog 93 #[.int .i64 k] w fun e w' => e = .returned (.bool (qryI k)) ∧ Below w.heap.size w w' := by
  obtain ⟨D, hD⟩ : ∃ D, D = qryI k := ⟨_, rfl⟩
  have HD := Lib.hid (show decide (k ∈ [8, 0]) = D by rw [hD]; rfl)
  rw [← hD]; clear hD
  go_enter Tryz.func93, Tryz.ntmps93
  go_wp2_with (go_at_call 117; refine (among_new [8, 0] k _ 2 _ w (by rfl) rfl (by simp)).mono ?_; rintro e w' ⟨rfl, x1⟩; rw [HD.out])
  go_ret
  exact ⟨rfl, x1⟩
end Go.Proofs.YtodlfdnegcfhcaaGreat

/-
  Contracts of layer 9's Check, numbers, Same, Fault, Query and ID, the program's and the document's; of layer 10's Fault. Conditions are each theorem's own.
-/
namespace Go.Proofs.YtodlfdnegcfhcaaGreat
open Go.RowKit

theorem rIquery (k : Int) (w : World) : Calls Tryz.prog 63 #[.int .i64 k] w fun e w' => e = .returned (.bool (qryI k)) ∧ w = w' := by
  have H := Lib.hid (show qryI k = ((k == 0) || (k == 8)) by
    rw [qryI, Bool.eq_iff_iff]; simp; omega)
  cases e0 : (k == 0) <;> cases e1 : (k == 8)
  all_goals
    go_enter Tryz.func63, Tryz.ntmps63
    go_wp2_with fail
    go_ret
    exact ⟨ret_bool (by rw [H.out, e0, e1]; rfl), rfl⟩
theorem freshI_any (A : Option Addr) (bs : List UInt8) (c B : Nat) (w : World) (h : Arg w B A c bs) (hl : bs.length ≤ 1099511627776) :
    Calls Tryz.prog 116 #[.slice A bs.length c] w fun e w' => ∃ v, e = .returned v ∧ Made w w' v bs := by
  have hr := h.rd
  have hn := h.none_
  go_enter Tryz.func116, Tryz.ntmps116
  go_wp2_with (at_builtin; refine append_rd rfl _ _ rfl w.heap.size _ _ _ rfl (World.ownsRow_nil _ _ _ _) B A c bs rfl hn hr (by omega) (Nat.le_refl _) ?_; intro v1 w1 hown hgrow)
  go_ret
  have hb1 : Below w.heap.size w w1 := (Below.refl _ w).grown hgrow (Nat.le_refl _) (fun k hk => by cases (show (none : Option Nat) = some k from hk))
  exact ⟨_, rfl, Made.of_own (by simpa using hown) hb1⟩
section
variable (q : PI) (A : Option Addr) (c : Nat) (w : World)
set_option maxRecDepth 100000 in
theorem cIcheck (hl : q.dat.length ≤ 1000000) : Calls Tryz.prog 163 #[isv q A c] w fun e w' => e = .returned (.int .i64 (chkI q)) ∧ Below w.heap.size w w' := by
  have hB : Below w.heap.size w (w.alloc (.cells (isa q A c) 93)) := (Below.refl w.heap.size w).alloc (Nat.le_refl _) _
  have hAt := Atis.new (q := q) (A := A) (c := c) w
  have hz : w.heap.size < (w.alloc (.cells (isa q A c) 93)).heap.size := by simp
  rw [isv_eq]
  have HO := Lib.hid (argI_iff q)
  have k0 := hAt.typ; have k1 := hAt.code; have k2 := hAt.rest; have k3 := hAt.dat
  go_enter Tryz.func163, Tryz.ntmps163
  go_upto_region 1 with fail
  generalize w.alloc (.cells (isa q A c) 93) = W at *
  by_cases ho : argI q
  · obtain ⟨g0, g1, g2⟩ := HO.out.1 ho
    have H0 := Lib.hid g0; have H1 := Lib.hid g1; have H2 := Lib.hid g2
    clear g0 g1 g2
    by_cases s : 65527 < q.dat.length
    · have HE := Lib.hid (show chkI q = 6 by rw [chkI, if_pos ho, if_pos (by omega)])
      clear ho HO hAt
      go_wp2_with (go_at_call 70; refine (fits_any _ _ _).mono ?_; rintro e w' ⟨rfl, rfl⟩; (first | rw [H0.out] | rw [H1.out] | rw [H2.out] | skip))
      go_ret
      exact ⟨ret_int (by rw [HE.out]), hB⟩
    · have HE := Lib.hid (show chkI q = 0 by rw [chkI, if_pos ho, if_neg (by omega)])
      clear ho HO hAt
      go_wp2_with (go_at_call 70; refine (fits_any _ _ _).mono ?_; rintro e w' ⟨rfl, rfl⟩; (first | rw [H0.out] | rw [H1.out] | rw [H2.out] | skip))
      go_ret
      exact ⟨ret_int (by rw [HE.out]), hB⟩
  · have HE := Lib.hid (show chkI q = 1 by rw [chkI, if_neg ho])
    have hno : ¬ (fitsB q.typ 1 = true ∧ fitsB q.code 1 = true ∧ fitsB q.rest 4 = true) := fun h => ho (HO.out.2 h)
    clear ho HO hAt
    cases h0 : fitsB q.typ 1
    · have H0 := Lib.hid h0; have H1 := H0; have H2 := H0
      clear hno h0
      go_wp2_with (go_at_call 70; refine (fits_any _ _ _).mono ?_; rintro e w' ⟨rfl, rfl⟩; (first | rw [H0.out] | rw [H1.out] | rw [H2.out] | skip))
      go_ret
      exact ⟨ret_int (by rw [HE.out]), hB⟩
    · have H0 := Lib.hid h0
      rw [h0] at hno; clear h0
      cases h1 : fitsB q.code 1
      · have H1 := Lib.hid h1; have H2 := H1
        clear hno h1
        go_wp2_with (go_at_call 70; refine (fits_any _ _ _).mono ?_; rintro e w' ⟨rfl, rfl⟩; (first | rw [H0.out] | rw [H1.out] | rw [H2.out] | skip))
        go_ret
        exact ⟨ret_int (by rw [HE.out]), hB⟩
      · have H1 := Lib.hid h1
        rw [h1] at hno; clear h1
        cases h2 : fitsB q.rest 4
        · have H2 := Lib.hid h2
          clear hno h2
          go_wp2_with (go_at_call 70; refine (fits_any _ _ _).mono ?_; rintro e w' ⟨rfl, rfl⟩; (first | rw [H0.out] | rw [H1.out] | rw [H2.out] | skip))
          go_ret
          exact ⟨ret_int (by rw [HE.out]), hB⟩
        · exact absurd ⟨rfl, rfl, h2⟩ hno
set_option maxRecDepth 100000 in
theorem rIcheck (hl : q.dat.length ≤ 1000000) : Calls Tryz.prog 100 #[isv q A c] w fun e w' => e = .returned (.int .i64 (chkI q)) ∧ Below w.heap.size w w' := by
  have hB : Below w.heap.size w (w.alloc (.cells (isa q A c) 93)) := (Below.refl w.heap.size w).alloc (Nat.le_refl _) _
  have hAt := Atis.new (q := q) (A := A) (c := c) w
  have hz : w.heap.size < (w.alloc (.cells (isa q A c) 93)).heap.size := by simp
  rw [isv_eq]
  have HO := Lib.hid (argI_iff q)
  have k0 := hAt.typ; have k1 := hAt.code; have k2 := hAt.rest; have k3 := hAt.dat
  go_enter Tryz.func100, Tryz.ntmps100
  go_upto_region 1 with fail
  generalize w.alloc (.cells (isa q A c) 93) = W at *
  by_cases ho : argI q
  · obtain ⟨g0, g1, g2⟩ := HO.out.1 ho
    have H0 := Lib.hid g0; have H1 := Lib.hid g1; have H2 := Lib.hid g2
    clear g0 g1 g2
    by_cases s : 65527 < q.dat.length
    · have HE := Lib.hid (show chkI q = 6 by rw [chkI, if_pos ho, if_pos (by omega)])
      clear ho HO hAt
      go_wp2_with (go_at_call 55; refine (rfits_any _ _ _).mono ?_; rintro e w' ⟨rfl, rfl⟩; (first | rw [H0.out] | rw [H1.out] | rw [H2.out] | skip))
      go_ret
      exact ⟨ret_int (by rw [HE.out]), hB⟩
    · have HE := Lib.hid (show chkI q = 0 by rw [chkI, if_pos ho, if_neg (by omega)])
      clear ho HO hAt
      go_wp2_with (go_at_call 55; refine (rfits_any _ _ _).mono ?_; rintro e w' ⟨rfl, rfl⟩; (first | rw [H0.out] | rw [H1.out] | rw [H2.out] | skip))
      go_ret
      exact ⟨ret_int (by rw [HE.out]), hB⟩
  · have HE := Lib.hid (show chkI q = 1 by rw [chkI, if_neg ho])
    have hno : ¬ (fitsB q.typ 1 = true ∧ fitsB q.code 1 = true ∧ fitsB q.rest 4 = true) := fun h => ho (HO.out.2 h)
    clear ho HO hAt
    cases h0 : fitsB q.typ 1
    · have H0 := Lib.hid h0; have H1 := H0; have H2 := H0
      clear hno h0
      go_wp2_with (go_at_call 55; refine (rfits_any _ _ _).mono ?_; rintro e w' ⟨rfl, rfl⟩; (first | rw [H0.out] | rw [H1.out] | rw [H2.out] | skip))
      go_ret
      exact ⟨ret_int (by rw [HE.out]), hB⟩
    · have H0 := Lib.hid h0
      rw [h0] at hno; clear h0
      cases h1 : fitsB q.code 1
      · have H1 := Lib.hid h1; have H2 := H1
        clear hno h1
        go_wp2_with (go_at_call 55; refine (rfits_any _ _ _).mono ?_; rintro e w' ⟨rfl, rfl⟩; (first | rw [H0.out] | rw [H1.out] | rw [H2.out] | skip))
        go_ret
        exact ⟨ret_int (by rw [HE.out]), hB⟩
      · have H1 := Lib.hid h1
        rw [h1] at hno; clear h1
        cases h2 : fitsB q.rest 4
        · have H2 := Lib.hid h2
          clear hno h2
          go_wp2_with (go_at_call 55; refine (rfits_any _ _ _).mono ?_; rintro e w' ⟨rfl, rfl⟩; (first | rw [H0.out] | rw [H1.out] | rw [H2.out] | skip))
          go_ret
          exact ⟨ret_int (by rw [HE.out]), hB⟩
        · exact absurd ⟨rfl, rfl, h2⟩ hno
def numsI (q : PI) : List Int := [q.typ, q.code, q.rest]
theorem idI_eq (n : Int) : bits .and .i64 (n / 65536) 65535 = n / 65536 % 65536 := and_any 16 (n / 65536) (by decide)
theorem cIid : Calls Tryz.prog 162 #[isv q A c] w fun e w' => e = .returned (.int .i64 (idI q)) ∧ Below w.heap.size w w' := by
  have hB : Below w.heap.size w (w.alloc (.cells (isa q A c) 93)) := (Below.refl w.heap.size w).alloc (Nat.le_refl _) _
  have hAt := Atis.new (q := q) (A := A) (c := c) w
  have hz : w.heap.size < (w.alloc (.cells (isa q A c) 93)).heap.size := by simp
  rw [isv_eq]
  have H := Lib.hid (idI_eq q.rest)
  have k2 := hAt.rest
  go_enter Tryz.func162, Tryz.ntmps162
  go_wp2_with fail
  go_ret
  exact ⟨ret_int H.out, hB⟩
theorem rIid : Calls Tryz.prog 64 #[isv q A c] w fun e w' => e = .returned (.int .i64 (idI q)) ∧ Below w.heap.size w w' := by
  have hB : Below w.heap.size w (w.alloc (.cells (isa q A c) 93)) := (Below.refl w.heap.size w).alloc (Nat.le_refl _) _
  have hAt := Atis.new (q := q) (A := A) (c := c) w
  have hz : w.heap.size < (w.alloc (.cells (isa q A c) 93)).heap.size := by simp
  rw [isv_eq]
  have H := Lib.hid (idI_eq q.rest)
  have k2 := hAt.rest
  go_enter Tryz.func64, Tryz.ntmps64
  go_wp2_with fail
  go_ret
  exact ⟨ret_int H.out, hB⟩
end
theorem sameI_nums (q r : PI) : sameI q r = (decide (numsI q = numsI r) && decide (q.dat = r.dat)) := by
  rw [sameI, Bool.eq_iff_iff]; simp [numsI, and_assoc]
section
variable (q r : PI) (A : Option Addr) (c : Nat) (X : Option Addr) (d B : Nat) (w : World)
end
end Go.Proofs.YtodlfdnegcfhcaaGreat

/-
  Contracts of layer 9's buildHead, Build, Bytes, the program's and the document's. Conditions are each theorem's own.
-/
namespace Go.Proofs.YtodlfdnegcfhcaaGreat
open Go.RowKit

theorem arg_two (W : World) (t : TypeId) (x y : UInt8) {m n : Int} (h : m = (x.toNat : Int)) (h' : n = (y.toNat : Int)) : Arg (W.alloc (.cells #[.int .u8 m, .int .u8 n] t)) (W.heap.size + 1) (some ⟨W.heap.size, 0, none⟩) 2 [x, y] :=
  ⟨Rd.of_block (World.alloc_heap_new W _) (Nat.lt_succ_self _) 0 (fun j hj => by
    have : j = 0 ∨ j = 1 := by have := hj; simp at this; omega
    rcases this with rfl | rfl
    · subst h; rfl
    · subst h'; rfl), by simp, fun e => by cases e⟩
section
variable (q : PI) (A : Option Addr) (c : Nat) (w : World)
set_option maxRecDepth 100000 in
set_option maxHeartbeats 1000000 in
theorem cIhead (s : Int) (hd : List UInt8) (hhd : Hid (hd = hdI q s)) (ha : argI q) (s0 : 0 ≤ s) (s1 : s ≤ 65535) :
    Calls Tryz.prog 164 #[isv q A c, .int .i64 s] w fun e w' => ∃ v, e = .returned v ∧ Made w w' v hd := by
  have hB : Below w.heap.size w (w.alloc (.cells (isa q A c) 93)) := (Below.refl w.heap.size w).alloc (Nat.le_refl _) _
  have hAt := Atis.new (q := q) (A := A) (c := c) w
  have hz : w.heap.size < (w.alloc (.cells (isa q A c) 93)).heap.size := by simp
  rw [isv_eq]
  obtain ⟨L1, h1⟩ : ∃ l, l = [u8 q.typ, u8 q.code] ++ be2 s := ⟨_, rfl⟩
  have H1 := Lib.hid (show putB [u8 q.typ, u8 q.code] s 2 = L1 by rw [put_two s0 s1, h1])
  have H2 := Lib.hid (show putB L1 q.rest 4 = hd by rw [put_four ha.2.2.2.2.1 ha.2.2.2.2.2, h1, hhd.out, hdI])
  have l1 := Lib.hid (show L1.length ≤ 4 by rw [h1]; simp [be2])
  have kt : q.typ % 256 = ((u8 q.typ).toNat : Int) := by rw [u8_val]
  have kc : q.code % 256 = ((u8 q.code).toNat : Int) := by rw [u8_val]
  have hA0 : ∀ W : World, Arg (W.alloc (.cells #[.int .u8 (q.typ % 256), .int .u8 (q.code % 256)] 5)) (W.heap.size + 1) (some ⟨W.heap.size, 0, none⟩) 2 [u8 q.typ, u8 q.code] := fun W => arg_two W 5 (u8 q.typ) (u8 q.code) kt kc
  clear h1 ha kt kc
  have k0 := hAt.typ; have k1 := hAt.code
  go_enter Tryz.func164, Tryz.ntmps164
  go_upto_region 1 with fail
  generalize w.alloc (.cells (isa q A c) 93) = W at *
  go_upto_region 2 with fail
  have hA0 := hA0 W
  have xR : Below W.heap.size W (W.alloc (.cells #[.int .u8 (q.typ % 256), .int .u8 (q.code % 256)] 5)) := (Below.refl _ W).alloc (Nat.le_refl _) _
  have hAtR := hAt.below xR (by omega)
  have zR : W.heap.size + 1 ≤ (W.alloc (.cells #[.int .u8 (q.typ % 256), .int .u8 (q.code % 256)] 5)).heap.size := by simp
  have hzR : w.heap.size < (W.alloc (.cells #[.int .u8 (q.typ % 256), .int .u8 (q.code % 256)] 5)).heap.size := by omega
  clear k0 k1 hAt
  generalize W.alloc (.cells #[.int .u8 (q.typ % 256), .int .u8 (q.code % 256)] 5) = R at *
  refine wp_region_held_drew (S := fun w' => Below R.heap.size R w') (by kernel_rfl) (Below.refl _ R).drew (fun hS => ?_)
  refine held_pure (i := 0) (oi := ⟨some 13, _, _, _, _, _⟩) rfl (by kernel_rfl) (by kernel_rfl) (by kernel_rfl) (fun _ _ _ h => h) (by rfl) (v := ?_) (fun w hSw => ?_) hS (fun hS => ?_)
  rotate_left
  · go_simp; try with_reducible rfl
  try go_frame
  refine held_pure (i := 1) (oi := ⟨some 14, _, _, _, _, _⟩) rfl (by kernel_rfl) (by kernel_rfl) (by kernel_rfl) (fun _ _ _ h => h) (by rfl) (v := ?_) (fun w hSw => ?_) hS (fun hS => ?_)
  rotate_left
  · go_simp; try with_reducible rfl
  try go_frame
  refine held_pure (i := 3) (oi := ⟨some 16, _, _, _, _, _⟩) rfl (by kernel_rfl) (by kernel_rfl) (by kernel_rfl) (fun _ _ _ h => h) (by rfl) (v := ?_) (fun w hSw => ?_) hS (fun hS => ?_)
  rotate_left
  · go_simp; try with_reducible rfl
  try go_frame
  refine held_pure (i := 4) (oi := ⟨some 17, _, _, _, _, _⟩) rfl (by kernel_rfl) (by kernel_rfl) (by kernel_rfl) (fun _ _ _ h => h) (by rfl) (fun w hSw => run_load_int rfl rfl ((hAtR.below hSw hzR).rest)) hS (fun hS => ?_)
  try go_frame
  refine wpAnyH_ready (rs := [2]) (by kernel_rfl) (by simp) (AllReadyH.cons (o := ⟨some 15, _, _, _, _, _⟩) rfl (fun K hK => ?_) AllReadyH.nil)
  rw [if_pos (by rfl)]
  go_simp
  refine (put_any (some ⟨W.heap.size, 0, none⟩) [u8 q.typ, u8 q.code] 2 _ s 2 _ (hA0.below (hS.mono zR)).rd (by have := hS.size; omega) (by simp)).mono ?_
  rintro e w1 ⟨v1, rfl, m1⟩
  rw [H1.out] at m1
  obtain ⟨A1, c1, rfl, g1, o1, x1⟩ := made_shape m1
  have hS1 := hS
  show K _ _
  refine hK.out _ _ (below_step hS x1) (fun hS => ?_)
  clear hK K
  try go_frame
  refine wpAnyH_ready (rs := [5]) (by kernel_rfl) (by simp) (AllReadyH.cons (o := ⟨some 18, _, _, _, _, _⟩) rfl (fun K hK => ?_) AllReadyH.nil)
  rw [if_pos (by rfl)]
  go_simp
  refine (put_any A1 L1 c1 _ q.rest 4 _ g1.rd (by have := hS.size; omega) (by have := l1.out; omega)).mono ?_
  rintro e w2 ⟨v2, rfl, m2⟩
  rw [H2.out] at m2
  obtain ⟨A2, c2, rfl, g2, o2, x2⟩ := made_shape m2
  have hS2 := hS
  show K _ _
  refine hK.out _ _ (below_step hS x2) (fun hS => ?_)
  clear hK K
  try go_frame
  refine held_pure (i := 6) (oi := ⟨some 4, _, _, _, _, _⟩) rfl (by kernel_rfl) (by kernel_rfl) (by kernel_rfl) (fun _ _ _ h => h) (by rfl) (v := ?_) (fun w hSw => ?_) hS (fun hS => ?_)
  rotate_left
  · go_simp; try with_reducible rfl
  try go_frame
  refine wpAnyH_done (by kernel_rfl) ?_ _
  go_wp2_with fail
  go_ret
  exact ⟨_, rfl, m2.after (hB.trans ((xR.trans (hS2.mono (by omega))).mono (by omega)))⟩
set_option maxRecDepth 100000 in
set_option maxHeartbeats 1000000 in
theorem rIbytes (B : Nat) (s : Int) (bs : List UInt8) (hbs : Hid (bs = hdI q s ++ q.dat)) (ha : argI q) (hl : q.dat.length ≤ 1000000) (s0 : 0 ≤ s) (s1 : s ≤ 65535) (hD : Arg w B A c q.dat) (hB0 : B ≤ w.heap.size) :
    Calls Tryz.prog 101 #[isv q A c, .int .i64 s] w fun e w' => ∃ v, e = .returned v ∧ Made w w' v bs := by
  have hB : Below w.heap.size w (w.alloc (.cells (isa q A c) 93)) := (Below.refl w.heap.size w).alloc (Nat.le_refl _) _
  have hAt := Atis.new (q := q) (A := A) (c := c) w
  have hz : w.heap.size < (w.alloc (.cells (isa q A c) 93)).heap.size := by simp
  rw [isv_eq]
  obtain ⟨L1, h1⟩ : ∃ l, l = [u8 q.typ, u8 q.code] ++ be2 s := ⟨_, rfl⟩
  have H1 := Lib.hid (show putB [u8 q.typ, u8 q.code] s 2 = L1 by rw [put_two s0 s1, h1])
  obtain ⟨L2, h2⟩ : ∃ l, l = L1 ++ be4 q.rest := ⟨_, rfl⟩
  have H2 := Lib.hid (show putB L1 q.rest 4 = L2 by rw [put_four ha.2.2.2.2.1 ha.2.2.2.2.2, h2])
  have H5 := Lib.hid (show bs = L2 ++ q.dat by rw [h2, h1, hbs.out, hdI])
  have l1 := Lib.hid (show L1.length ≤ 4 by rw [h1]; simp [be2])
  have l2 := Lib.hid (show L2.length ≤ 8 by rw [h2, h1]; simp [be2, be4])
  have kt : q.typ % 256 = ((u8 q.typ).toNat : Int) := by rw [u8_val]
  have kc : q.code % 256 = ((u8 q.code).toNat : Int) := by rw [u8_val]
  clear h1 h2 ha hbs
  have k0 := hAt.typ; have k1 := hAt.code
  have hA0 : ∀ W : World, Arg (W.alloc (.cells #[.int .u8 (q.typ % 256), .int .u8 (q.code % 256)] 5)) (W.heap.size + 1) (some ⟨W.heap.size, 0, none⟩) 2 [u8 q.typ, u8 q.code] := fun W => arg_two W 5 (u8 q.typ) (u8 q.code) kt kc
  clear kt kc
  go_enter Tryz.func101, Tryz.ntmps101
  go_upto_region 1 with fail
  generalize w.alloc (.cells (isa q A c) 93) = W at *
  go_upto_region 2 with (go_at_call 97; refine (rput_any (some ⟨W.heap.size, 0, none⟩) [u8 q.typ, u8 q.code] 2 _ s 2 _ (hA0 W) (by simp)).mono ?_; rintro e w3 ⟨v3, rfl, m3⟩; rw [H1.out] at m3; obtain ⟨A3, c3, rfl, g3, o3, x3⟩ := made_shape m3)
  have x3a : Below W.heap.size W w3 := ((Below.refl _ W).alloc (Nat.le_refl _) (.cells #[.int .u8 (q.typ % 256), .int .u8 (q.code % 256)] 5)).trans (x3.mono (by simp))
  have hAt3 := hAt.below x3a (by omega)
  have z3 := x3a.size
  clear k0 k1 hA0 hAt x3
  refine wp_region_held_drew (S := fun w' => Below w3.heap.size w3 w') (by kernel_rfl) (Below.refl _ w3).drew (fun hS => ?_)
  refine held_pure (i := 0) (oi := ⟨some 15, _, _, _, _, _⟩) rfl (by kernel_rfl) (by kernel_rfl) (by kernel_rfl) (fun _ _ _ h => h) (by rfl) (v := ?_) (fun w hSw => ?_) hS (fun hS => ?_)
  rotate_left
  · go_simp; try with_reducible rfl
  try go_frame
  refine held_pure (i := 1) (oi := ⟨some 16, _, _, _, _, _⟩) rfl (by kernel_rfl) (by kernel_rfl) (by kernel_rfl) (fun _ _ _ h => h) (by rfl) (v := ?_) (fun w hSw => ?_) hS (fun hS => ?_)
  rotate_left
  · go_simp; try with_reducible rfl
  try go_frame
  refine held_pure (i := 2) (oi := ⟨some 17, _, _, _, _, _⟩) rfl (by kernel_rfl) (by kernel_rfl) (by kernel_rfl) (fun _ _ _ h => h) (by rfl) (fun w hSw => run_load_int rfl rfl ((hAt3.below hSw (by omega)).rest)) hS (fun hS => ?_)
  try go_frame
  refine held_pure (i := 4) (oi := ⟨some 19, _, _, _, _, _⟩) rfl (by kernel_rfl) (by kernel_rfl) (by kernel_rfl) (fun _ _ _ h => h) (by rfl) (v := ?_) (fun w hSw => ?_) hS (fun hS => ?_)
  rotate_left
  · go_simp; try with_reducible rfl
  try go_frame
  refine held_pure (i := 5) (oi := ⟨some 20, _, _, _, _, _⟩) rfl (by kernel_rfl) (by kernel_rfl) (by kernel_rfl) (fun _ _ _ h => h) (by rfl) (fun w hSw => run_load_sl rfl rfl ((hAt3.below hSw (by omega)).dat)) hS (fun hS => ?_)
  try go_frame
  refine wpAnyH_ready (rs := [3]) (by kernel_rfl) (by simp) (AllReadyH.cons (o := ⟨some 18, _, _, _, _, _⟩) rfl (fun K hK => ?_) AllReadyH.nil)
  rw [if_pos (by rfl)]
  go_simp
  refine (rput_any A3 L1 c3 _ q.rest 4 _ (g3.drewN 1) (by have := l1.out; omega)).mono ?_
  rintro e w4 ⟨v4, rfl, m4⟩
  rw [H2.out] at m4
  obtain ⟨A4, c4, rfl, g4, o4, x4⟩ := made_shape m4
  have hS4 := hS
  show K _ _
  refine hK.out _ _ (below_step hS x4) (fun hS => ?_)
  clear hK K
  try go_frame
  refine wpAnyH_ready (rs := [6]) (by kernel_rfl) (by simp) (AllReadyH.cons (o := ⟨some 21, _, _, _, _, _⟩) rfl (fun K hK => ?_) AllReadyH.nil)
  rw [if_pos (by rfl)]
  refine append_wp _ _ rfl w3.heap.size _ _ _ rfl o4 B A c q.dat rfl hD.none_ ((hD.below ((hB.trans ((x3a.trans (hS.mono (by omega))).mono (by omega))).mono hB0)).rd) (by have := l2.out; omega) hS.size ?_
  intro v5 w5 own5 grow5
  obtain ⟨A5, c5, rfl, owm5⟩ := own_made (bs := bs) own5 (by rw [H5.out]; simp) (by rw [H5.out, row_append])
  refine hK.out _ _ (hS.grown grow5 hS.size (fun k hk => own_block_ge o4 k hk)) (fun hS => ?_)
  clear hK K
  try go_frame
  refine held_pure (i := 7) (oi := ⟨some 4, _, _, _, _, _⟩) rfl (by kernel_rfl) (by kernel_rfl) (by kernel_rfl) (fun _ _ _ h => h) (by rfl) (v := ?_) (fun w hSw => ?_) hS (fun hS => ?_)
  rotate_left
  · go_simp; try with_reducible rfl
  try go_frame
  refine wpAnyH_done (by kernel_rfl) ?_ _
  go_wp2_with fail
  go_ret
  exact ⟨_, rfl, Made.of_own (own_base owm5 (by omega)) (hB.trans ((x3a.trans (hS.mono (by omega))).mono (by omega)))⟩
end
end Go.Proofs.YtodlfdnegcfhcaaGreat

/-
  Contracts of layer 9's Build, the program's and the document's. Conditions are each theorem's own.
-/
namespace Go.Proofs.YtodlfdnegcfhcaaGreat
open Go.RowKit

theorem of_two (A : Option Addr) (a b : List UInt8) (c B : Nat) (N : Int) (hN : Hid (N = 65535 - fold (psum [a, b]))) (w : World) (h : Rd2 w B A [a, b]) (hB : B ≤ w.heap.size) (hl : a.length + b.length ≤ 1099511627000) :
    Calls Tryz.prog 81 #[.slice A 2 c] w fun x w' => x = .returned (.int .i64 N) ∧ Below w.heap.size w w' := by
  have h1 := of_any A [a, b] c B w h hB (by rw [bulk2]; omega) (by simp)
  rw [← hN.out] at h1
  exact h1
theorem rof_oneN (A : Option Addr) (a : List UInt8) (c B : Nat) (N : Int) (hN : Hid (N = 65535 - fold (psum [a]))) (w : World) (h : Rd2 w B A [a]) (hl : a.length ≤ 1099511627000) :
    Calls Tryz.prog 87 #[.slice A 1 c] w fun e w' => e = .returned (.int .i64 N) ∧ ∃ n, w' = w.drewN n := by
  have h1 := rof_one A a c B w h hl
  rw [← hN.out] at h1
  exact h1
section
variable (q : PI) (A : Option Addr) (c : Nat) (w : World)
set_option maxRecDepth 100000 in
set_option maxHeartbeats 1000000 in
theorem cIbuild (B : Nat) (hD : Arg w B A c q.dat) (hB0 : B ≤ w.heap.size) (hl : q.dat.length ≤ 1000000) :
    Calls Tryz.prog 160 #[isv q A c] w fun e w' => ∃ v, e = .returned (.tuple #[v, .int .i64 (chkI q)]) ∧ (chkI q ≠ 0 → v = .slice none 0 0 ∧ Below w.heap.size w w') ∧ (chkI q = 0 → Made w w' v (bldI [] q)) := by
  have hB : Below w.heap.size w (w.alloc (.cells (isa q A c) 93)) := (Below.refl w.heap.size w).alloc (Nat.le_refl _) _
  have hAt := Atis.new (q := q) (A := A) (c := c) w
  have hz : w.heap.size < (w.alloc (.cells (isa q A c) 93)).heap.size := by simp
  rw [isv_eq]
  go_enter Tryz.func160, Tryz.ntmps160
  go_upto_region 1 with fail
  generalize w.alloc (.cells (isa q A c) 93) = W at *
  by_cases hc : chkI q = 0
  · have HC := Lib.hid hc
    obtain ⟨ha, hl2⟩ := chkI_ok hc
    clear hc
    obtain ⟨N, hN⟩ : ∃ n, n = smI [] q := ⟨_, rfl⟩
    have bd := smI_bd [] q
    have hN0 : 0 ≤ N := by rw [hN]; exact bd.1
    have hN1 : N ≤ 65535 := by rw [hN]; exact bd.2
    obtain ⟨HD, hHD⟩ : ∃ l, l = hdI q 0 := ⟨_, rfl⟩
    obtain ⟨HE, hHE⟩ : ∃ l, l = hdI q N := ⟨_, rfl⟩
    have HSM := Lib.hid (show N = 65535 - fold (psum [HD, q.dat]) by rw [hN, hHD]; exact smI_nil q)
    have HHL := Lib.hid (show HD.length = 8 by rw [hHD, hdI_len])
    have HEL := Lib.hid (show HE.length = 8 by rw [hHE, hdI_len])
    have HBL := Lib.hid (show bldI [] q = HE ++ q.dat by rw [hHE, hN]; rfl)
    have HHD := Lib.hid hHD; have HHE := Lib.hid hHE
    clear hHD hHE
    clear bd hN
    go_upto_region 4 with (first
      | ((with_reducible show wpList _ _ _ (Oper.mk _ (Op.load 93 _) _ _ _ _ :: _) _ _); refine wpList_val rfl (run_load_is rfl rfl hAt rfl) ?_)
      | (go_at_call 163; refine (cIcheck q A c _ hl).mono ?_; rintro e w1 ⟨rfl, x1⟩; rw [HC.out]))
    refine wp_region_held_drew (S := fun w' => Below W.heap.size W w') (by kernel_rfl) x1.drew (fun hS => ?_)
    refine held_pure (i := 0) (oi := ⟨some 10, _, _, _, _, _⟩) rfl (by kernel_rfl) (by kernel_rfl) (by kernel_rfl) (fun _ _ _ h => h) (by rfl) (fun w hSw => run_load_is rfl rfl (hAt.below hSw (by omega)) rfl) hS (fun hS => ?_)
    try go_frame
    refine held_pure (i := 1) (oi := ⟨some 11, _, _, _, _, _⟩) rfl (by kernel_rfl) (by kernel_rfl) (by kernel_rfl) (fun _ _ _ h => h) (by rfl) (fun w hSw => run_load_is rfl rfl (hAt.below hSw (by omega)) rfl) hS (fun hS => ?_)
    try go_frame
    refine held_pure (i := 3) (oi := ⟨some 13, _, _, _, _, _⟩) rfl (by kernel_rfl) (by kernel_rfl) (by kernel_rfl) (fun _ _ _ h => h) (by rfl) (v := ?_) (fun w hSw => ?_) hS (fun hS => ?_)
    rotate_left
    · go_simp; try with_reducible rfl
    try go_frame
    refine held_pure (i := 4) (oi := ⟨some 14, _, _, _, _, _⟩) rfl (by kernel_rfl) (by kernel_rfl) (by kernel_rfl) (fun _ _ _ h => h) (by rfl) (fun w hSw => run_load_sl rfl rfl ((hAt.below hSw (by omega)).dat)) hS (fun hS => ?_)
    try go_frame
    refine held_pure (i := 8) (oi := ⟨some 18, _, _, _, _, _⟩) rfl (by kernel_rfl) (by kernel_rfl) (by kernel_rfl) (fun _ _ _ h => h) (by rfl) (v := ?_) (fun w hSw => ?_) hS (fun hS => ?_)
    rotate_left
    · go_simp; try with_reducible rfl
    try go_frame
    refine held_pure (i := 9) (oi := ⟨some 19, _, _, _, _, _⟩) rfl (by kernel_rfl) (by kernel_rfl) (by kernel_rfl) (fun _ _ _ h => h) (by rfl) (fun w hSw => run_load_sl rfl rfl ((hAt.below hSw (by omega)).dat)) hS (fun hS => ?_)
    try go_frame
    refine wpAnyH_ready (rs := [2]) (by kernel_rfl) (by simp) (AllReadyH.cons (o := ⟨some 12, _, _, _, _, _⟩) rfl (fun K hK => ?_) AllReadyH.nil)
    rw [if_pos (by rfl)]
    go_simp
    refine (cIhead q A c _ 0 HD HHD ha (by omega) (by omega)).mono ?_
    rintro e w2 ⟨v2, rfl, m2⟩
    obtain ⟨A2, c2, rfl, g2, o2, x2⟩ := made_shape m2
    have hS2 := below_step hS x2
    have hT2 := hS
    show K _ _
    refine hK.out _ _ (below_step hS x2) (fun hS => ?_)
    clear hK K
    try go_frame
    refine wpAnyH_ready (rs := [5]) (by kernel_rfl) (by simp) (AllReadyH.cons (o := ⟨some 15, _, _, _, _, _⟩) rfl (fun K hK => ?_) AllReadyH.nil)
    rw [if_pos (by rfl)]
    go_simp
    refine hK.out _ _ (hS.alloc hS.size _) (fun hS => ?_)
    clear hK K
    try go_frame
    refine wpAnyH_ready (rs := [6]) (by kernel_rfl) (by simp) (AllReadyH.cons (o := ⟨some 16, _, _, _, _, _⟩) rfl (fun K hK => ?_) AllReadyH.nil)
    rw [if_pos (by rfl)]
    go_simp
    refine (of_two (some ⟨w2.heap.size, 0, none⟩) HD q.dat 2 _ N HSM _ (Rd2.two rfl rfl (World.alloc_heap_new w2 _) (Nat.lt_succ_self _) ((g2.alloc (Nat.le_refl _) _).more (Nat.le_succ _)) (((hD.below ((hB.trans (hS2.mono (by omega))).mono hB0)).alloc (by have := hS2.size; omega) _).more (by have := hS2.size; omega))) (by simp) (by have := HHL.out; omega)).mono ?_
    rintro e w6 ⟨rfl, x6⟩
    show K _ _
    refine hK.out _ _ (below_step hS x6) (fun hS => ?_)
    clear hK K
    try go_frame
    refine wpAnyH_ready (rs := [7]) (by kernel_rfl) (by simp) (AllReadyH.cons (o := ⟨some 17, _, _, _, _, _⟩) rfl (fun K hK => ?_) AllReadyH.nil)
    rw [if_pos (by rfl)]
    go_simp
    refine (cIhead q A c _ N HE HHE ha (by omega) (by omega)).mono ?_
    rintro e w7 ⟨v7, rfl, m7⟩
    obtain ⟨A7, c7, rfl, g7, o7, x7⟩ := made_shape m7
    have hS7 := below_step hS x7
    have hT7 := hS
    show K _ _
    refine hK.out _ _ (below_step hS x7) (fun hS => ?_)
    clear hK K
    try go_frame
    refine wpAnyH_ready (rs := [10]) (by kernel_rfl) (by simp) (AllReadyH.cons (o := ⟨some 20, _, _, _, _, _⟩) rfl (fun K hK => ?_) AllReadyH.nil)
    rw [if_pos (by rfl)]
    refine append_wp _ _ rfl W.heap.size _ _ _ rfl (own_base o7 (by have := hT7.size; omega)) B A c q.dat rfl hD.none_ ((hD.below ((hB.trans (hS.mono (by omega))).mono hB0)).rd) (by have := HEL.out; omega) hS.size ?_
    intro v8 w8 own8 grow8
    obtain ⟨A8, c8, rfl, owm8⟩ := own_made (bs := bldI [] q) own8 (by rw [HBL.out]; simp) (by rw [HBL.out, row_append])
    refine hK.out _ _ (hS.grown grow8 hS.size (fun k hk => own_block_ge (own_base o7 (by have := hT7.size; omega)) k hk)) (fun hS => ?_)
    clear hK K
    try go_frame
    refine held_pure (i := 11) (oi := ⟨some 2, _, _, _, _, _⟩) rfl (by kernel_rfl) (by kernel_rfl) (by kernel_rfl) (fun _ _ _ h => h) (by rfl) (v := ?_) (fun w hSw => ?_) hS (fun hS => ?_)
    rotate_left
    · go_simp; try with_reducible rfl
    try go_frame
    refine held_pure (i := 12) (oi := ⟨some 3, _, _, _, _, _⟩) rfl (by kernel_rfl) (by kernel_rfl) (by kernel_rfl) (fun _ _ _ h => h) (by rfl) (v := ?_) (fun w hSw => ?_) hS (fun hS => ?_)
    rotate_left
    · go_simp; try with_reducible rfl
    try go_frame
    refine wpAnyH_done (by kernel_rfl) ?_ _
    go_wp2_with fail
    go_ret2
    exact ⟨.slice A8 (bldI [] q).length c8, by rw [HC.out]; rfl, fun h => absurd HC.out h, fun _ => Made.of_own (own_base owm8 (by omega)) (hB.trans (hS.mono (by omega)))⟩
  · have hne : (chkI q != 0) = true := by simpa using hc
    have HN := Lib.hid hc
    clear hc
    go_wp2_with (first
      | ((with_reducible show wpList _ _ _ (Oper.mk _ (Op.load 93 _) _ _ _ _ :: _) _ _); refine wpList_val rfl (run_load_is rfl rfl hAt rfl) ?_)
      | (go_at_call 163; refine (cIcheck q A c _ hl).mono ?_; rintro e w1 ⟨rfl, x1⟩; skip))
    go_ret2
    exact ⟨.slice none 0 0, rfl, fun _ => ⟨rfl, hB.trans (x1.mono (by omega))⟩, fun h => absurd h HN.out⟩
set_option maxRecDepth 100000 in
set_option maxHeartbeats 1000000 in
theorem rIbuild (B : Nat) (hD : Arg w B A c q.dat) (hB0 : B ≤ w.heap.size) (hl : q.dat.length ≤ 1000000) :
    Calls Tryz.prog 65 #[isv q A c] w fun e w' => ∃ v, e = .returned (.tuple #[v, .int .i64 (chkI q)]) ∧ (chkI q ≠ 0 → v = .slice none 0 0 ∧ Below w.heap.size w w') ∧ (chkI q = 0 → Made w w' v (bldI [] q)) := by
  have hB : Below w.heap.size w (w.alloc (.cells (isa q A c) 93)) := (Below.refl w.heap.size w).alloc (Nat.le_refl _) _
  have hAt := Atis.new (q := q) (A := A) (c := c) w
  have hz : w.heap.size < (w.alloc (.cells (isa q A c) 93)).heap.size := by simp
  rw [isv_eq]
  go_enter Tryz.func65, Tryz.ntmps65
  go_upto_region 1 with fail
  generalize w.alloc (.cells (isa q A c) 93) = W at *
  by_cases hc : chkI q = 0
  · have HC := Lib.hid hc
    obtain ⟨ha, hl2⟩ := chkI_ok hc
    clear hc
    obtain ⟨N, hN⟩ : ∃ n, n = smI [] q := ⟨_, rfl⟩
    have bd := smI_bd [] q
    have hN0 : 0 ≤ N := by rw [hN]; exact bd.1
    have hN1 : N ≤ 65535 := by rw [hN]; exact bd.2
    obtain ⟨B0, hb0⟩ : ∃ l, l = hdI q 0 ++ q.dat := ⟨_, rfl⟩
    have HB0 := Lib.hid hb0
    have lB := Lib.hid (show B0.length = 8 + q.dat.length by rw [hb0, List.length_append, hdI_len])
    have HSM1 := Lib.hid (show N = 65535 - fold (psum [B0]) by rw [hN, hb0]; exact smI_one q)
    have HBL2 := Lib.hid (show bldI [] q = hdI q N ++ q.dat by rw [hN]; rfl)
    clear hb0
    clear bd hN
    go_upto_region 4 with (first
      | ((with_reducible show wpList _ _ _ (Oper.mk _ (Op.load 93 _) _ _ _ _ :: _) _ _); refine wpList_val rfl (run_load_is rfl rfl hAt rfl) ?_)
      | (go_at_call 100; refine (rIcheck q A c _ hl).mono ?_; rintro e w1 ⟨rfl, x1⟩; rw [HC.out]))
    refine wp_region_held_drew (S := fun w' => Below W.heap.size W w') (by kernel_rfl) x1.drew (fun hS => ?_)
    refine held_pure (i := 0) (oi := ⟨some 10, _, _, _, _, _⟩) rfl (by kernel_rfl) (by kernel_rfl) (by kernel_rfl) (fun _ _ _ h => h) (by rfl) (fun w hSw => run_load_is rfl rfl (hAt.below hSw (by omega)) rfl) hS (fun hS => ?_)
    try go_frame
    refine held_pure (i := 1) (oi := ⟨some 11, _, _, _, _, _⟩) rfl (by kernel_rfl) (by kernel_rfl) (by kernel_rfl) (fun _ _ _ h => h) (by rfl) (fun w hSw => run_load_is rfl rfl (hAt.below hSw (by omega)) rfl) hS (fun hS => ?_)
    try go_frame
    refine wpAnyH_ready (rs := [2]) (by kernel_rfl) (by simp) (AllReadyH.cons (o := ⟨some 12, _, _, _, _, _⟩) rfl (fun K hK => ?_) AllReadyH.nil)
    rw [if_pos (by rfl)]
    go_simp
    refine (rIbytes q A c _ B 0 B0 HB0 ha hl (by omega) (by omega) (hD.below ((hB.trans (hS.mono (by omega))).mono hB0)) (by have := hS.size; omega)).mono ?_
    rintro e w2 ⟨v2, rfl, m2⟩
    obtain ⟨A2, c2, rfl, g2, o2, x2⟩ := made_shape m2
    have hS2 := below_step hS x2
    show K _ _
    refine hK.out _ _ (below_step hS x2) (fun hS => ?_)
    clear hK K
    try go_frame
    refine wpAnyH_ready (rs := [3]) (by kernel_rfl) (by simp) (AllReadyH.cons (o := ⟨some 13, _, _, _, _, _⟩) rfl (fun K hK => ?_) AllReadyH.nil)
    rw [if_pos (by rfl)]
    go_simp
    refine hK.out _ _ (hS.alloc hS.size _) (fun hS => ?_)
    clear hK K
    try go_frame
    refine wpAnyH_ready (rs := [4]) (by kernel_rfl) (by simp) (AllReadyH.cons (o := ⟨some 14, _, _, _, _, _⟩) rfl (fun K hK => ?_) AllReadyH.nil)
    rw [if_pos (by rfl)]
    go_simp
    refine (rof_oneN (some ⟨w2.heap.size, 0, none⟩) B0 1 _ N HSM1 _ (Rd2.one (World.alloc_heap_new w2 _) (Nat.lt_succ_self _) ((g2.alloc (Nat.le_refl _) _).more (Nat.le_succ _))) (by have := lB.out; omega)).mono ?_
    rintro e w4 ⟨rfl, n4, rfl⟩
    show K _ _
    refine hK.out _ _ (below_drewN hS _) (fun hS => ?_)
    clear hK K
    try go_frame
    refine wpAnyH_ready (rs := [5]) (by kernel_rfl) (by simp) (AllReadyH.cons (o := ⟨some 15, _, _, _, _, _⟩) rfl (fun K hK => ?_) AllReadyH.nil)
    rw [if_pos (by rfl)]
    go_simp
    refine (rIbytes q A c _ B N (bldI [] q) HBL2 ha hl hN0 hN1 (hD.below ((hB.trans (hS.mono (by omega))).mono hB0)) (by have := hS.size; omega)).mono ?_
    rintro e w5 ⟨v5, rfl, m5⟩
    have hS5 := hS
    show K _ _
    refine hK.out _ _ (below_step hS m5.below) (fun hS => ?_)
    clear hK K
    try go_frame
    refine held_pure (i := 6) (oi := ⟨some 2, _, _, _, _, _⟩) rfl (by kernel_rfl) (by kernel_rfl) (by kernel_rfl) (fun _ _ _ h => h) (by rfl) (v := ?_) (fun w hSw => ?_) hS (fun hS => ?_)
    rotate_left
    · go_simp; try with_reducible rfl
    try go_frame
    refine held_pure (i := 7) (oi := ⟨some 3, _, _, _, _, _⟩) rfl (by kernel_rfl) (by kernel_rfl) (by kernel_rfl) (fun _ _ _ h => h) (by rfl) (v := ?_) (fun w hSw => ?_) hS (fun hS => ?_)
    rotate_left
    · go_simp; try with_reducible rfl
    try go_frame
    refine wpAnyH_done (by kernel_rfl) ?_ _
    go_wp2_with fail
    go_ret2
    exact ⟨v5, by rw [HC.out]; rfl, fun h => absurd HC.out h, fun _ => m5.after (hB.trans (hS5.mono (by omega)))⟩
  · have hne : (chkI q != 0) = true := by simpa using hc
    have HN := Lib.hid hc
    clear hc
    go_wp2_with (first
      | ((with_reducible show wpList _ _ _ (Oper.mk _ (Op.load 93 _) _ _ _ _ :: _) _ _); refine wpList_val rfl (run_load_is rfl rfl hAt rfl) ?_)
      | (go_at_call 100; refine (rIcheck q A c _ hl).mono ?_; rintro e w1 ⟨rfl, x1⟩; skip))
    go_ret2
    exact ⟨.slice none 0 0, rfl, fun _ => ⟨rfl, hB.trans (x1.mono (by omega))⟩, fun h => absurd h HN.out⟩
end
end Go.Proofs.YtodlfdnegcfhcaaGreat

/-
  Contracts of layer 9's Parse, the program's and the document's, and of its Read. Conditions are each theorem's own.
-/
namespace Go.Proofs.YtodlfdnegcfhcaaGreat
open Go.RowKit

section
variable (b : List UInt8) (A : Option Addr) (c : Nat) (w : World)
set_option maxRecDepth 100000 in
set_option maxHeartbeats 2000000 in
theorem cIparse (B : Nat) (hR : Arg w B A c b) (hB : B ≤ w.heap.size) (hl : b.length ≤ 1000000) :
    Calls Tryz.prog 92 #[.slice A b.length c] w fun e w' => ∃ P p, e = .returned (.tuple #[isv (prsI [] b) P p, .int .i64 (badI [] b)]) ∧ Made w w' (.slice P (prsI [] b).dat.length p) (prsI [] b).dat := by
  have hcap := hR.cap
  have hOR0 := OwnR.new w (isa isz none 0) 93
  by_cases h8 : b.length < 8
  · have d8 : decide ((b.length : Int) < 8) = true := by simp; omega
    have HE := Lib.hid (show badI [] b = 3 by rw [badI, if_pos h8])
    have HV := Lib.hid (show prsI [] b = isz by rw [prsI, HE.out]; rfl)
    go_enter Tryz.func92, Tryz.ntmps92
    go_upto_region 1 with fail
    have hOR : OwnR w 93 4 (w.alloc (.cells #[.int .i64 0, .int .i64 0, .int .i64 0, .slice none 0 0] 93)) := hOR0
    clear hOR0
    generalize w.alloc (.cells #[.int .i64 0, .int .i64 0, .int .i64 0, .slice none 0 0] 93) = W at *
    obtain ⟨old, hold, hgo⟩ := id hOR.2
    go_wp2_with (first | ((with_reducible show wpList _ _ _ (Oper.mk _ (Op.store 93 _ _) _ _ _ _ :: _) _ _); refine is_store (g := w.heap.size) (cs := isa isz none 0) rfl rfl hgo hold rfl (is_one _ _ _) ?_))
    exact bodyPost_ret (res2 rfl rfl (is_load_run (setRow_heap _ _ _ _ _ _ hgo) rfl)) rfl ⟨none, 0, by rw [HV.out, HE.out]; rfl, by rw [HV.out]; exact Made.nil _ _ (below_row hOR.b (by omega))⟩
  · have d8 : decide ((b.length : Int) < 8) = false := by simp; omega
    obtain ⟨b0, off, rfl, hbB, hcell⟩ := hR.rd (by omega)
    have kc0 := hcell 0 (by omega)
    have kc1 := hcell 1 (by omega)
    clear hcell
    have G4 := Lib.hid (show getV b 4 4 = n4 b 4 from get_four (b := b) (i := 4) (by omega))
    obtain ⟨X0, e0⟩ : ∃ x, x = byt b 0 := ⟨_, rfl⟩
    obtain ⟨X1, e1⟩ : ∃ x, x = byt b 1 := ⟨_, rfl⟩
    obtain ⟨X4, e4⟩ : ∃ x, x = n4 b 4 := ⟨_, rfl⟩
    obtain ⟨D, eD⟩ : ∃ l, l = b.drop 8 := ⟨_, rfl⟩
    have HDl := Lib.hid (show D.length = b.length - 8 by rw [eD]; simp)
    have hDD : Arg w B (cutA (some ⟨b0, off, none⟩) c 8) (c - 8) D := by rw [eD]; exact hR.cut_lo 8
    have HR := Lib.hid (show rawI b = ⟨X0, X1, X4, D⟩ by rw [rawI, e0, e1, e4, eD])
    have HW0 := Lib.hid (IntWalk.i64_in X0 (by have := byt_lo b 0; have := byt_hi b 0; omega))
    have HW1 := Lib.hid (IntWalk.i64_in X1 (by have := byt_lo b 1; have := byt_hi b 1; omega))
    rw [← e0] at kc0; rw [← e1] at kc1; rw [← e4] at G4
    clear e0 e1 e4 eD
    go_enter Tryz.func92, Tryz.ntmps92
    go_upto_region 1 with fail
    have hOR : OwnR w 93 4 (w.alloc (.cells #[.int .i64 0, .int .i64 0, .int .i64 0, .slice none 0 0] 93)) := hOR0
    clear hOR0
    generalize w.alloc (.cells #[.int .i64 0, .int .i64 0, .int .i64 0, .slice none 0 0] 93) = W at *
    obtain ⟨old, hold, hgo⟩ := id hOR.2
    have hzW := hOR.lt
    have hR1 := hR.below (hOR.b.mono hB)
    by_cases hM : 65535 < b.length
    · have dM : decide (65535 < (b.length : Int)) = true := by simp; omega
      have HE := Lib.hid (show badI [] b = 6 by rw [badI, if_neg h8, if_pos hM])
      have HV := Lib.hid (show prsI [] b = isz by rw [prsI, HE.out]; rfl)
      go_wp2_with (first | ((with_reducible show wpList _ _ _ (Oper.mk _ (Op.store 93 _ _) _ _ _ _ :: _) _ _); refine is_store (g := w.heap.size) (cs := isa isz none 0) rfl rfl hgo hold rfl (is_one _ _ _) ?_))
      exact bodyPost_ret (res2 rfl rfl (is_load_run (setRow_heap _ _ _ _ _ _ hgo) rfl)) rfl ⟨none, 0, by rw [HV.out, HE.out]; rfl, by rw [HV.out]; exact Made.nil _ _ (below_row hOR.b (by omega))⟩
    · have dM : decide (65535 < (b.length : Int)) = false := by simp; omega
      obtain ⟨RB, hRB⟩ : ∃ r, rightB [b] = r := ⟨_, rfl⟩
      have HN := Lib.hid hRB
      clear hRB
      cases RB
      · skip
        have HE := Lib.hid (show badI [] b = 5 by rw [badI, if_neg h8, if_neg hM, rightB_nil, HN.out]; rfl)
        have HV := Lib.hid (show prsI [] b = isz by rw [prsI, HE.out]; rfl)
        go_wp2_with (first | ((with_reducible show wpList _ _ _ (Oper.mk _ (Op.store 93 _ _) _ _ _ _ :: _) _ _); refine is_store (g := w.heap.size) (cs := isa isz none 0) rfl rfl hgo2 hold2 rfl (is_one _ _ _) ?_) | (go_at_call 41; refine (right_one (some ⟨W.heap.size, 0, none⟩) b 1 (W.heap.size + 1) _ (Rd2.one (World.alloc_heap_new W _) (Nat.lt_succ_self _) ((hR1.alloc (by omega) _).more (by omega))) (by simp) (by omega)).mono ?_; rintro e wq ⟨rfl, xq⟩; rw [HN.out]; have hOq := (hOR.alloc (.cells #[.slice (some ⟨b0, off, none⟩) b.length c] 22)).step xq; obtain ⟨old2, hold2, hgo2⟩ := id hOq.2))
        exact bodyPost_ret (res2 rfl rfl (is_load_run (setRow_heap _ _ _ _ _ _ hgo2) rfl)) rfl ⟨none, 0, by rw [HV.out, HE.out]; rfl, by rw [HV.out]; exact Made.nil _ _ (below_row hOq.b (by omega))⟩
      · have HE := Lib.hid (show badI [] b = 0 by rw [badI, if_neg h8, if_neg hM, rightB_nil, HN.out]; rfl)
        have HV := Lib.hid (show prsI [] b = ⟨X0, X1, X4, D⟩ by rw [prsI, if_pos HE.out, HR.out])
        go_upto_region 8 with (first
          | (go_at_call 41; refine (right_one (some ⟨W.heap.size, 0, none⟩) b 1 (W.heap.size + 1) _ (Rd2.one (World.alloc_heap_new W _) (Nat.lt_succ_self _) ((hR1.alloc (by omega) _).more (by omega))) (by simp) (by omega)).mono ?_; rintro e wq ⟨rfl, xq⟩; rw [HN.out]; have hOq := (hOR.alloc (.cells #[.slice (some ⟨b0, off, none⟩) b.length c] 22)).step xq; obtain ⟨old2, hold2, hgo2⟩ := id hOq.2)
          | (go_at_call 74; refine (get_any (some ⟨b0, off, none⟩) b c B 4 4 _ (hR.below (hOq.b.mono hB)).rd (by omega) hcap).mono ?_; rintro e w' ⟨rfl, rfl⟩; rw [show getV b 4 4 = X4 from G4.out]))
        have kc0 := kc0; have kc1 := kc1
        refine wp_region_held_drew (S := OwnR w 93 4) (by kernel_rfl) hOq.drew (fun hS => ?_)
        refine held_pure (i := 0) (oi := ⟨some 27, _, _, _, _, _⟩) rfl (by kernel_rfl) (by kernel_rfl) (by kernel_rfl) (fun _ _ _ h => h) (by rfl) (v := ?_) (fun w hSw => ?_) hS (fun hS => ?_)
        rotate_left
        · go_simp; try with_reducible rfl
        try go_frame
        refine held_pure (i := 1) (oi := ⟨some 28, _, _, _, _, _⟩) rfl (by kernel_rfl) (by kernel_rfl) (by kernel_rfl) (fun _ _ _ h => h) (by rfl) (v := Value.pointer (some ⟨b0, off, none⟩)) (fun w hSw => by go_simp; (intro hx; exfalso; first | omega | (subst hx; simp at *))) hS (fun hS => ?_)
        try go_frame
        refine held_pure (i := 2) (oi := ⟨some 29, _, _, _, _, _⟩) rfl (by kernel_rfl) (by kernel_rfl) (by kernel_rfl) (fun _ _ _ h => h) (by rfl) (fun w hSw => run_load_byte rfl rfl ((hSw.b.cell (Nat.lt_of_lt_of_le hbB hB)).trans kc0)) hS (fun hS => ?_)
        try go_frame
        refine held_pure (i := 3) (oi := ⟨some 30, _, _, _, _, _⟩) rfl (by kernel_rfl) (by kernel_rfl) (by kernel_rfl) (fun _ _ _ h => h) (by rfl) (v := .int .i64 X0) (fun w hSw => by go_simp; exact HW0.out) hS (fun hS => ?_)
        try go_frame
        refine held_pure (i := 4) (oi := ⟨some 31, _, _, _, _, _⟩) rfl (by kernel_rfl) (by kernel_rfl) (by kernel_rfl) (fun _ _ _ h => h) (by rfl) (v := ?_) (fun w hSw => ?_) hS (fun hS => ?_)
        rotate_left
        · go_simp; try with_reducible rfl
        try go_frame
        refine held_pure (i := 5) (oi := ⟨some 32, _, _, _, _, _⟩) rfl (by kernel_rfl) (by kernel_rfl) (by kernel_rfl) (fun _ _ _ h => h) (by rfl) (v := Value.pointer (some ⟨b0, off + 1, none⟩)) (fun w hSw => by go_simp; exact fun hx => absurd hx (by omega)) hS (fun hS => ?_)
        try go_frame
        refine held_pure (i := 6) (oi := ⟨some 33, _, _, _, _, _⟩) rfl (by kernel_rfl) (by kernel_rfl) (by kernel_rfl) (fun _ _ _ h => h) (by rfl) (fun w hSw => run_load_byte rfl rfl ((hSw.b.cell (Nat.lt_of_lt_of_le hbB hB)).trans kc1)) hS (fun hS => ?_)
        try go_frame
        refine held_pure (i := 7) (oi := ⟨some 34, _, _, _, _, _⟩) rfl (by kernel_rfl) (by kernel_rfl) (by kernel_rfl) (fun _ _ _ h => h) (by rfl) (v := .int .i64 X1) (fun w hSw => by go_simp; exact HW1.out) hS (fun hS => ?_)
        try go_frame
        refine held_pure (i := 8) (oi := ⟨some 35, _, _, _, _, _⟩) rfl (by kernel_rfl) (by kernel_rfl) (by kernel_rfl) (fun _ _ _ h => h) (by rfl) (v := ?_) (fun w hSw => ?_) hS (fun hS => ?_)
        rotate_left
        · go_simp; try with_reducible rfl
        try go_frame
        refine held_pure (i := 9) (oi := ⟨some 36, _, _, _, _, _⟩) rfl (by kernel_rfl) (by kernel_rfl) (by kernel_rfl) (fun _ _ _ h => h) (by rfl) (v := ?_) (fun w hSw => ?_) hS (fun hS => ?_)
        rotate_left
        · go_simp; try with_reducible rfl
        try go_frame
        refine held_pure (i := 10) (oi := ⟨some 37, _, _, _, _, _⟩) rfl (by kernel_rfl) (by kernel_rfl) (by kernel_rfl) (fun _ _ _ h => h) (by rfl) (fun w hSw => run_cut_l rfl rfl (l := 8) rfl (by omega) (m := D.length) (by have := HDl.out; omega)) hS (fun hS => ?_)
        try go_frame
        refine wpAnyH_ready (rs := [11]) (by kernel_rfl) (by simp) (AllReadyH.cons (o := ⟨some 38, _, _, _, _, _⟩) rfl (fun K hK => ?_) AllReadyH.nil)
        rw [if_pos (by rfl)]
        go_simp
        refine (freshI_any (cutA (some ⟨b0, off, none⟩) c 8) D (c - 8) B _ (hDD.below (hS.b.mono hB)) (by have := HDl.out; omega)).mono ?_
        rintro e y5 ⟨v5, rfl, m5⟩
        obtain ⟨P5, p5, rfl, g5, owm5, x5⟩ := made_shape m5
        have owm5 := own_base owm5 hS.lt
        show K _ _
        refine hK.out _ _ (hS.step x5) (fun hS => ?_)
        clear hK K
        try go_frame
        refine held_pure (i := 12) (oi := ⟨some 39, _, _, _, _, _⟩) rfl (by kernel_rfl) (by kernel_rfl) (by kernel_rfl) (fun _ _ _ h => h) (by rfl) (v := ?_) (fun w hSw => ?_) hS (fun hS => ?_)
        rotate_left
        · go_simp; try with_reducible rfl
        try go_frame
        refine wpAnyH_ready (rs := [13]) (by kernel_rfl) (by simp) (AllReadyH.cons (o := ⟨none, _, _, _, _, _⟩) rfl (fun K hK => ?_) AllReadyH.nil)
        rw [if_pos (by rfl)]
        obtain ⟨old, hold, hgo⟩ := hS.2
        have hrow := hS.row (isa ⟨X0, X1, X4, D⟩ P5 p5) rfl
        refine wp_store_row 93 _ _ rfl w.heap.size (isa ⟨X0, X1, X4, D⟩ P5 p5) rfl rfl 93 old hgo (by kernel_rfl) hold (is_one _ _ _) ?_
        have hgz := setRow_heap _ _ _ (isa ⟨X0, X1, X4, D⟩ P5 p5) _ _ hgo
        refine hK.out _ _ hrow (fun hS => ?_)
        clear hK K
        try go_frame
        refine held_pure (i := 14) (oi := ⟨some 3, _, _, _, _, _⟩) rfl (by kernel_rfl) (by kernel_rfl) (by kernel_rfl) (fun _ _ _ h => h) (by rfl) (v := ?_) (fun w hSw => ?_) hS (fun hS => ?_)
        rotate_left
        · go_simp; try with_reducible rfl
        try go_frame
        refine wpAnyH_done (by kernel_rfl) ?_ _
        go_wp2_with fail
        have oz5 := own_setRow owm5 (g := w.heap.size) (cs := isa ⟨X0, X1, X4, D⟩ P5 p5) (by omega)
        exact bodyPost_ret (res2 rfl rfl (is_load_run hgz rfl)) rfl ⟨P5, p5, by rw [HV.out, HE.out]; rfl, by rw [HV.out]; exact Made.of_own (own_base oz5 (by omega)) hS.b⟩
set_option maxRecDepth 100000 in
set_option maxHeartbeats 2000000 in
theorem rIread (B : Nat) (hR : Arg w B A c b) (hB : B ≤ w.heap.size) (hl : b.length ≤ 1000000) (h8 : 8 ≤ b.length) :
    Calls Tryz.prog 99 #[.slice A b.length c] w fun e w' => ∃ P p, e = .returned (isv (rawI b) P p) ∧ Made w w' (.slice P (rawI b).dat.length p) (rawI b).dat := by
  have hcap := hR.cap
  have hOR0 := OwnR.new w (isa isz none 0) 93
  obtain ⟨b0, off, rfl, hbB, hcell⟩ := hR.rd (by omega)
  have kc0 := hcell 0 (by omega)
  have kc1 := hcell 1 (by omega)
  clear hcell
  have G4 := Lib.hid (show getV b 4 4 = n4 b 4 from get_four (b := b) (i := 4) (by omega))
  obtain ⟨X0, e0⟩ : ∃ x, x = byt b 0 := ⟨_, rfl⟩
  obtain ⟨X1, e1⟩ : ∃ x, x = byt b 1 := ⟨_, rfl⟩
  obtain ⟨X4, e4⟩ : ∃ x, x = n4 b 4 := ⟨_, rfl⟩
  obtain ⟨D, eD⟩ : ∃ l, l = b.drop 8 := ⟨_, rfl⟩
  have HDl := Lib.hid (show D.length = b.length - 8 by rw [eD]; simp)
  have hDD : Arg w B (cutA (some ⟨b0, off, none⟩) c 8) (c - 8) D := by rw [eD]; exact hR.cut_lo 8
  have HR := Lib.hid (show rawI b = ⟨X0, X1, X4, D⟩ by rw [rawI, e0, e1, e4, eD])
  have HW0 := Lib.hid (IntWalk.i64_in X0 (by have := byt_lo b 0; have := byt_hi b 0; omega))
  have HW1 := Lib.hid (IntWalk.i64_in X1 (by have := byt_lo b 1; have := byt_hi b 1; omega))
  rw [← e0] at kc0; rw [← e1] at kc1; rw [← e4] at G4
  clear e0 e1 e4 eD
  rw [HR.out]
  go_enter Tryz.func99, Tryz.ntmps99
  go_upto_region 1 with fail
  have hOR : OwnR w 93 4 (w.alloc (.cells #[.int .i64 0, .int .i64 0, .int .i64 0, .slice none 0 0] 93)) := hOR0
  clear hOR0
  generalize w.alloc (.cells #[.int .i64 0, .int .i64 0, .int .i64 0, .slice none 0 0] 93) = W at *
  go_upto_region 2 with (go_at_call 58; refine (rget_any (some ⟨b0, off, none⟩) b c B 4 4 _ (hR.below (hOR.b.mono hB)).rd (by omega)).mono ?_; rintro e w' ⟨rfl, rfl⟩; rw [show getV b 4 4 = X4 from G4.out])
  refine wp_region_held_drew (S := OwnR w 93 4) (by kernel_rfl) hOR.drew (fun hS => ?_)
  refine held_pure (i := 0) (oi := ⟨some 10, _, _, _, _, _⟩) rfl (by kernel_rfl) (by kernel_rfl) (by kernel_rfl) (fun _ _ _ h => h) (by rfl) (v := ?_) (fun w hSw => ?_) hS (fun hS => ?_)
  rotate_left
  · go_simp; try with_reducible rfl
  try go_frame
  refine held_pure (i := 1) (oi := ⟨some 11, _, _, _, _, _⟩) rfl (by kernel_rfl) (by kernel_rfl) (by kernel_rfl) (fun _ _ _ h => h) (by rfl) (v := Value.pointer (some ⟨b0, off, none⟩)) (fun w hSw => by go_simp; (intro hx; exfalso; first | omega | (subst hx; simp at *))) hS (fun hS => ?_)
  try go_frame
  refine held_pure (i := 2) (oi := ⟨some 12, _, _, _, _, _⟩) rfl (by kernel_rfl) (by kernel_rfl) (by kernel_rfl) (fun _ _ _ h => h) (by rfl) (fun w hSw => run_load_byte rfl rfl ((hSw.b.cell (Nat.lt_of_lt_of_le hbB hB)).trans kc0)) hS (fun hS => ?_)
  try go_frame
  refine held_pure (i := 3) (oi := ⟨some 13, _, _, _, _, _⟩) rfl (by kernel_rfl) (by kernel_rfl) (by kernel_rfl) (fun _ _ _ h => h) (by rfl) (v := .int .i64 X0) (fun w hSw => by go_simp; exact HW0.out) hS (fun hS => ?_)
  try go_frame
  refine held_pure (i := 4) (oi := ⟨some 14, _, _, _, _, _⟩) rfl (by kernel_rfl) (by kernel_rfl) (by kernel_rfl) (fun _ _ _ h => h) (by rfl) (v := ?_) (fun w hSw => ?_) hS (fun hS => ?_)
  rotate_left
  · go_simp; try with_reducible rfl
  try go_frame
  refine held_pure (i := 5) (oi := ⟨some 15, _, _, _, _, _⟩) rfl (by kernel_rfl) (by kernel_rfl) (by kernel_rfl) (fun _ _ _ h => h) (by rfl) (v := Value.pointer (some ⟨b0, off + 1, none⟩)) (fun w hSw => by go_simp; exact fun hx => absurd hx (by omega)) hS (fun hS => ?_)
  try go_frame
  refine held_pure (i := 6) (oi := ⟨some 16, _, _, _, _, _⟩) rfl (by kernel_rfl) (by kernel_rfl) (by kernel_rfl) (fun _ _ _ h => h) (by rfl) (fun w hSw => run_load_byte rfl rfl ((hSw.b.cell (Nat.lt_of_lt_of_le hbB hB)).trans kc1)) hS (fun hS => ?_)
  try go_frame
  refine held_pure (i := 7) (oi := ⟨some 17, _, _, _, _, _⟩) rfl (by kernel_rfl) (by kernel_rfl) (by kernel_rfl) (fun _ _ _ h => h) (by rfl) (v := .int .i64 X1) (fun w hSw => by go_simp; exact HW1.out) hS (fun hS => ?_)
  try go_frame
  refine held_pure (i := 8) (oi := ⟨some 18, _, _, _, _, _⟩) rfl (by kernel_rfl) (by kernel_rfl) (by kernel_rfl) (fun _ _ _ h => h) (by rfl) (v := ?_) (fun w hSw => ?_) hS (fun hS => ?_)
  rotate_left
  · go_simp; try with_reducible rfl
  try go_frame
  refine held_pure (i := 9) (oi := ⟨some 19, _, _, _, _, _⟩) rfl (by kernel_rfl) (by kernel_rfl) (by kernel_rfl) (fun _ _ _ h => h) (by rfl) (v := ?_) (fun w hSw => ?_) hS (fun hS => ?_)
  rotate_left
  · go_simp; try with_reducible rfl
  try go_frame
  refine held_pure (i := 10) (oi := ⟨some 20, _, _, _, _, _⟩) rfl (by kernel_rfl) (by kernel_rfl) (by kernel_rfl) (fun _ _ _ h => h) (by rfl) (fun w hSw => run_cut_l rfl rfl (l := 8) rfl (by omega) (m := D.length) (by have := HDl.out; omega)) hS (fun hS => ?_)
  try go_frame
  refine wpAnyH_ready (rs := [11]) (by kernel_rfl) (by simp) (AllReadyH.cons (o := ⟨some 21, _, _, _, _, _⟩) rfl (fun K hK => ?_) AllReadyH.nil)
  rw [if_pos (by rfl)]
  refine append_wp _ _ rfl (w.heap.size + 1) (.slice none 0 0) 0 [] rfl (World.ownsRow_nil _ _ _ _) B (cutA (some ⟨b0, off, none⟩) c 8) (c - 8) D rfl hDD.none_ ((hDD.below (hS.b.mono hB)).rd) (by have := HDl.out; omega) hS.lt ?_
  intro v5 y5 own5 grow5
  obtain ⟨P5, p5, rfl, owm5⟩ := own_made (bs := D) own5 (Nat.zero_add _) (List.nil_append _)
  clear own5
  have x5 := (Below.refl _ _).grown grow5 (Nat.le_refl _) (fun k hk => by cases hk)
  clear grow5
  refine hK.out _ _ (hS.step x5) (fun hS => ?_)
  clear hK K
  try go_frame
  refine held_pure (i := 12) (oi := ⟨some 22, _, _, _, _, _⟩) rfl (by kernel_rfl) (by kernel_rfl) (by kernel_rfl) (fun _ _ _ h => h) (by rfl) (v := ?_) (fun w hSw => ?_) hS (fun hS => ?_)
  rotate_left
  · go_simp; try with_reducible rfl
  try go_frame
  refine wpAnyH_ready (rs := [13]) (by kernel_rfl) (by simp) (AllReadyH.cons (o := ⟨none, _, _, _, _, _⟩) rfl (fun K hK => ?_) AllReadyH.nil)
  rw [if_pos (by rfl)]
  obtain ⟨old, hold, hgo⟩ := hS.2
  have hrow := hS.row (isa ⟨X0, X1, X4, D⟩ P5 p5) rfl
  refine wp_store_row 93 _ _ rfl w.heap.size (isa ⟨X0, X1, X4, D⟩ P5 p5) rfl rfl 93 old hgo (by kernel_rfl) hold (is_one _ _ _) ?_
  have hgz := setRow_heap _ _ _ (isa ⟨X0, X1, X4, D⟩ P5 p5) _ _ hgo
  refine hK.out _ _ hrow (fun hS => ?_)
  clear hK K
  try go_frame
  refine wpAnyH_done (by kernel_rfl) ?_ _
  go_wp2_with fail
  have oz5 := own_setRow owm5 (g := w.heap.size) (cs := isa ⟨X0, X1, X4, D⟩ P5 p5) (Nat.lt_succ_self _)
  exact bodyPost_ret (is_result rfl rfl hgz rfl) rfl ⟨P5, p5, rfl, Made.of_own (own_base oz5 (Nat.le_succ _)) hS.b⟩
set_option maxRecDepth 100000 in
set_option maxHeartbeats 2000000 in
theorem rIparse (B : Nat) (hR : Arg w B A c b) (hB : B ≤ w.heap.size) (hl : b.length ≤ 1000000) :
    Calls Tryz.prog 62 #[.slice A b.length c] w fun e w' => ∃ P p, e = .returned (.tuple #[isv (prsI [] b) P p, .int .i64 (badI [] b)]) ∧ Made w w' (.slice P (prsI [] b).dat.length p) (prsI [] b).dat := by
  have hcap := hR.cap
  have hOR0 := OwnR.new w (isa isz none 0) 93
  by_cases h8 : b.length < 8
  · have d8 : decide ((b.length : Int) < 8) = true := by simp; omega
    have HE := Lib.hid (show badI [] b = 3 by rw [badI, if_pos h8])
    have HV := Lib.hid (show prsI [] b = isz by rw [prsI, HE.out]; rfl)
    go_enter Tryz.func62, Tryz.ntmps62
    go_upto_region 1 with fail
    have hOR : OwnR w 93 4 (w.alloc (.cells #[.int .i64 0, .int .i64 0, .int .i64 0, .slice none 0 0] 93)) := hOR0
    clear hOR0
    generalize w.alloc (.cells #[.int .i64 0, .int .i64 0, .int .i64 0, .slice none 0 0] 93) = W at *
    obtain ⟨old, hold, hgo⟩ := id hOR.2
    go_wp2_with (first | ((with_reducible show wpList _ _ _ (Oper.mk _ (Op.store 93 _ _) _ _ _ _ :: _) _ _); refine is_store (g := w.heap.size) (cs := isa isz none 0) rfl rfl hgo hold rfl (is_one _ _ _) ?_))
    exact bodyPost_ret (res2 rfl rfl (is_load_run (setRow_heap _ _ _ _ _ _ hgo) rfl)) rfl ⟨none, 0, by rw [HV.out, HE.out]; rfl, by rw [HV.out]; exact Made.nil _ _ (below_row hOR.b (by omega))⟩
  · have d8 : decide ((b.length : Int) < 8) = false := by simp; omega
    obtain ⟨b0, off, rfl, hbB, hcell⟩ := hR.rd (by omega)
    have kc0 := hcell 0 (by omega)
    have kc1 := hcell 1 (by omega)
    clear hcell
    have G4 := Lib.hid (show getV b 4 4 = n4 b 4 from get_four (b := b) (i := 4) (by omega))
    obtain ⟨X0, e0⟩ : ∃ x, x = byt b 0 := ⟨_, rfl⟩
    obtain ⟨X1, e1⟩ : ∃ x, x = byt b 1 := ⟨_, rfl⟩
    obtain ⟨X4, e4⟩ : ∃ x, x = n4 b 4 := ⟨_, rfl⟩
    obtain ⟨D, eD⟩ : ∃ l, l = b.drop 8 := ⟨_, rfl⟩
    have HDl := Lib.hid (show D.length = b.length - 8 by rw [eD]; simp)
    have hDD : Arg w B (cutA (some ⟨b0, off, none⟩) c 8) (c - 8) D := by rw [eD]; exact hR.cut_lo 8
    have HR := Lib.hid (show rawI b = ⟨X0, X1, X4, D⟩ by rw [rawI, e0, e1, e4, eD])
    have HW0 := Lib.hid (IntWalk.i64_in X0 (by have := byt_lo b 0; have := byt_hi b 0; omega))
    have HW1 := Lib.hid (IntWalk.i64_in X1 (by have := byt_lo b 1; have := byt_hi b 1; omega))
    rw [← e0] at kc0; rw [← e1] at kc1; rw [← e4] at G4
    clear e0 e1 e4 eD
    go_enter Tryz.func62, Tryz.ntmps62
    go_upto_region 1 with fail
    have hOR : OwnR w 93 4 (w.alloc (.cells #[.int .i64 0, .int .i64 0, .int .i64 0, .slice none 0 0] 93)) := hOR0
    clear hOR0
    generalize w.alloc (.cells #[.int .i64 0, .int .i64 0, .int .i64 0, .slice none 0 0] 93) = W at *
    obtain ⟨old, hold, hgo⟩ := id hOR.2
    have hzW := hOR.lt
    have hR1 := hR.below (hOR.b.mono hB)
    by_cases hM : 65535 < b.length
    · have dM : decide (65535 < (b.length : Int)) = true := by simp; omega
      have HE := Lib.hid (show badI [] b = 6 by rw [badI, if_neg h8, if_pos hM])
      have HV := Lib.hid (show prsI [] b = isz by rw [prsI, HE.out]; rfl)
      go_wp2_with (first | ((with_reducible show wpList _ _ _ (Oper.mk _ (Op.store 93 _ _) _ _ _ _ :: _) _ _); refine is_store (g := w.heap.size) (cs := isa isz none 0) rfl rfl hgo hold rfl (is_one _ _ _) ?_))
      exact bodyPost_ret (res2 rfl rfl (is_load_run (setRow_heap _ _ _ _ _ _ hgo) rfl)) rfl ⟨none, 0, by rw [HV.out, HE.out]; rfl, by rw [HV.out]; exact Made.nil _ _ (below_row hOR.b (by omega))⟩
    · have dM : decide (65535 < (b.length : Int)) = false := by simp; omega
      obtain ⟨RB, hRB⟩ : ∃ r, rightB [b] = r := ⟨_, rfl⟩
      have HN := Lib.hid hRB
      clear hRB
      cases RB
      · skip
        have HE := Lib.hid (show badI [] b = 5 by rw [badI, if_neg h8, if_neg hM, rightB_nil, HN.out]; rfl)
        have HV := Lib.hid (show prsI [] b = isz by rw [prsI, HE.out]; rfl)
        go_wp2_with (first | ((with_reducible show wpList _ _ _ (Oper.mk _ (Op.store 93 _ _) _ _ _ _ :: _) _ _); refine is_store (g := w.heap.size) (cs := isa isz none 0) rfl rfl hgo2 hold2 rfl (is_one _ _ _) ?_) | (go_at_call 59; refine (rright_one (some ⟨W.heap.size, 0, none⟩) b 1 (W.heap.size + 1) _ (Rd2.one (World.alloc_heap_new W _) (Nat.lt_succ_self _) ((hR1.alloc (by omega) _).more (by omega))) (by omega)).mono ?_; rintro e wq ⟨rfl, nq, rfl⟩; rw [HN.out]; have hOq := (hOR.alloc (.cells #[.slice (some ⟨b0, off, none⟩) b.length c] 22)).drewN nq; obtain ⟨old2, hold2, hgo2⟩ := id hOq.2))
        exact bodyPost_ret (res2 rfl rfl (is_load_run (setRow_heap _ _ _ _ _ _ hgo2) rfl)) rfl ⟨none, 0, by rw [HV.out, HE.out]; rfl, by rw [HV.out]; exact Made.nil _ _ (below_row hOq.b (by omega))⟩
      · have HE := Lib.hid (show badI [] b = 0 by rw [badI, if_neg h8, if_neg hM, rightB_nil, HN.out]; rfl)
        have HV := Lib.hid (show prsI [] b = ⟨X0, X1, X4, D⟩ by rw [prsI, if_pos HE.out, HR.out])
        go_wp2_with (first
          | (go_at_call 59; refine (rright_one (some ⟨W.heap.size, 0, none⟩) b 1 (W.heap.size + 1) _ (Rd2.one (World.alloc_heap_new W _) (Nat.lt_succ_self _) ((hR1.alloc (by omega) _).more (by omega))) (by omega)).mono ?_; rintro e wq ⟨rfl, nq, rfl⟩; rw [HN.out]; have hOq := (hOR.alloc (.cells #[.slice (some ⟨b0, off, none⟩) b.length c] 22)).drewN nq; obtain ⟨old2, hold2, hgo2⟩ := id hOq.2)
          | (go_at_call 99; refine (rIread b (some ⟨b0, off, none⟩) c _ B (hR.below (hOq.b.mono hB)) (by have := hOq.lt; omega) hl (by omega)).mono ?_; rintro e w5 ⟨P5, p5, rfl, m5⟩; rw [HR.out] at m5; rw [HR.out]; have hO5 := hOq.step m5.below; obtain ⟨old3, hold3, hgo3⟩ := id hO5.2; have hlq := hOq.lt; have hq0 := hOq.b)
          | ((with_reducible show wpList _ _ _ (Oper.mk _ (Op.store 93 _ _) _ _ _ _ :: _) _ _); refine is_store (g := w.heap.size) (cs := isa ⟨X0, X1, X4, D⟩ P5 p5) rfl rfl hgo3 hold3 rfl (is_one _ _ _) ?_))
        exact bodyPost_ret (res2 rfl rfl (is_load_run (setRow_heap _ _ _ _ _ _ hgo3) rfl)) rfl ⟨P5, p5, by rw [HV.out, HE.out]; rfl, by rw [HV.out]; exact m5.row hq0 hlq⟩
end
end Go.Proofs.YtodlfdnegcfhcaaGreat
