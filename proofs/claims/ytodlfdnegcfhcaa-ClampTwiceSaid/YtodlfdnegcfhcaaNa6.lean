/-
  Contracts and lemmas on which the proofs of this seat stand (several texts in one). Conditions are each theorem's own.
-/
import Derived.Test.YtodlfdnegcfhcaaNa5
import Derived.Test.YtodlfdnegcfhcaaNa2

/-
  What layer 5's statement V4Back stands on besides: Right of the document's plain answers, of one. Conditions are each theorem's own.
-/
namespace Go.Proofs.Ytodlfdnegcfhcaa
open Go.RowKit

theorem rright_one (A : Option Addr) (bs : List UInt8) (c B : Nat) (w : World) (h : Rd2 w B A [bs]) (hl : bs.length ≤ 1099511627000) :
    Calls Try.prog 22 #[.slice A 1 c] w fun e w' => e = .returned (.bool (rightB [bs])) ∧ ∃ n, w' = w.drewN n :=
  rright_any A [bs] c B w h (by simpa [bulk] using hl) (by simp)
theorem back_head {q : P4} {H : Nat} (hH : H = 20 + q.opt.length) : (bld4 q).take H = hd4 q (size4 q) (sum4 q) := by
  have := back_take (q := q) (more := []) H hH
  rwa [List.append_nil] at this
end Go.Proofs.Ytodlfdnegcfhcaa

/-
  Contract of v6.Parse. Conditions are each theorem's own.
-/
namespace Go.Proofs.Ytodlfdnegcfhcaa
open Go.RowKit

theorem end6_len (b : List UInt8) (h : ¬ b.length < 40) : ((b.take (end6 b)).drop 40).length = end6 b - 40 := by
  have : end6 b ≤ b.length := by unfold end6; omega
  simp; omega
theorem prs6_len (b : List UInt8) (u : Bool) : (prs6 b u).src.length = 16 ∧ (prs6 b u).dst.length = 16 := by
  unfold prs6
  by_cases h : bad6 b u = 0
  · rw [if_pos h]
    have h40 : ¬ b.length < 40 := fun h' => by rw [bad6, if_pos h'] at h; omega
    simp only [raw6, List.length_take, List.length_drop]
    omega
  · rw [if_neg h]; exact ⟨rfl, rfl⟩
section
variable (b : List UInt8) (A : Option Addr) (c : Nat) (w : World)
end
end Go.Proofs.Ytodlfdnegcfhcaa

/-
  Single cells stored into a block of the call's own, as operations; a packet of IPv6 that is filled cell by cell. Conditions are each theorem's own.
-/
namespace Go.Proofs.Ytodlfdnegcfhcaa
open Go.RowKit

section
variable {o : Oper} {a : Act} {w : World} {K : Act → World → Prop} {Q : Exit → Act → World → Prop} {x y : Operand} {p : Addr} {v0 : Value}
theorem store_int_wp {n : Int} (ho : o.op = .store 3 x y) (hx : a.eval x = .pointer (some p)) (hy : a.eval y = .int .i64 n) (hc : w.cell? p = some v0) (hf : w.frozen? p = false) (h : K (a.put o.dst undef) (w.setCell p (.int .i64 n))) : o.wp Try.prog a w K Q := by
  unfold Oper.wp execOp
  simp only [ho, hx, hy]
  go_simp
  exact h
theorem store_u8_wp {n : Int} (ho : o.op = .store 5 x y) (hx : a.eval x = .pointer (some p)) (hy : a.eval y = .int .u8 n) (hc : w.cell? p = some v0) (hf : w.frozen? p = false) (h : K (a.put o.dst undef) (w.setCell p (.int .u8 n))) : o.wp Try.prog a w K Q := by
  unfold Oper.wp execOp
  simp only [ho, hx, hy]
  go_simp
  exact h
end
theorem OwnR.row_other {w0 w : World} {t n g : Nat} {cs : Array Value} (h : OwnR w0 t n w) (hg : w0.heap.size < g) : OwnR w0 t n (w.setRow g cs) := by
  obtain ⟨hB, c0, hn, h0⟩ := h
  exact ⟨below_row hB (by omega), c0, hn, (setRow_other w g _ cs (by omega)).trans h0⟩
theorem OwnR.set {w0 w : World} {t n g i : Nat} {v : Value} (h : OwnR w0 t n w) (hg : w0.heap.size < g) : OwnR w0 t n (w.setCell ⟨g, i, none⟩ v) := by
  obtain ⟨hB, c0, hn, h0⟩ := h
  exact ⟨hB.setCell (p := ⟨g, i, none⟩) (by show _ ≤ g; omega) v, c0, hn, (heap_setCell_other w ⟨g, i, none⟩ _ v (by show _ ≠ g; omega)).trans h0⟩
section
variable {w w' : World} {g i : Nat} {q q' : P6} {A A' : Option Addr} {c c' : Nat} {v : Value}
end
/-- The first k bytes, and noughts up to 16. -/
def fil (l : List UInt8) (k : Nat) : List UInt8 := l.take k ++ List.replicate (16 - k) 0
theorem fil_len (l : List UInt8) {k : Nat} (hk : k ≤ 16) (hl : 16 ≤ l.length) : (fil l k).length = 16 := by simp [fil]; omega
theorem fil_zero (l : List UInt8) : fil l 0 = nul := rfl
theorem fil_all (l : List UInt8) : fil l 16 = l.take 16 := by simp [fil]
theorem fil_set (l : List UInt8) {k : Nat} (hk : k < 16) (hl : 16 ≤ l.length) : (fil l k).set k l[k] = fil l (k + 1) := by
  unfold fil
  have e : (l.take k).length = k := by simp; omega
  rw [List.set_append_right _ _ (by omega), e, Nat.sub_self, show 16 - k = (16 - (k + 1)) + 1 from by omega, List.replicate_succ, List.set_cons_zero, List.take_succ_eq_append_getElem (by omega), List.append_assoc]
  rfl
theorem row_setb (l : List UInt8) (k : Nat) (x : UInt8) : (row l).set k (.int .u8 (x.toNat : Int)) = row (l.set k x) := by simp [row, List.map_set]
theorem set_src (q : P6) (A : Option Addr) (c k : Nat) (x : UInt8) (hk : k < 16) (hs : q.src.length = 16) : (v6a q A c).setIfInBounds (4 + k) (.int .u8 (x.toNat : Int)) = v6a ⟨q.traffic, q.flow, q.next, q.hop, q.src.set k x, q.dst, q.dat⟩ A c := by
  have h4 : ([Value.int .i64 q.traffic, .int .i64 q.flow, .int .i64 q.next, .int .i64 q.hop]).length = 4 := rfl
  rw [v6a, v6a, List.setIfInBounds_toArray, v6l, v6l]
  congr 1
  simp only [List.append_assoc]
  rw [List.set_append_right _ _ (by rw [h4]; omega), h4, show 4 + k - 4 = k from by omega, List.set_append_left _ _ (by rw [row_length]; omega), row_setb]
theorem set_dst (q : P6) (A : Option Addr) (c k : Nat) (x : UInt8) (hk : k < 16) (hs : q.src.length = 16) (hd : q.dst.length = 16) : (v6a q A c).setIfInBounds (20 + k) (.int .u8 (x.toNat : Int)) = v6a ⟨q.traffic, q.flow, q.next, q.hop, q.src, q.dst.set k x, q.dat⟩ A c := by
  have h4 : ([Value.int .i64 q.traffic, .int .i64 q.flow, .int .i64 q.next, .int .i64 q.hop] ++ row q.src).length = 20 := by simp [row_length, hs]
  rw [v6a, v6a, List.setIfInBounds_toArray, v6l, v6l]
  congr 1
  rw [List.append_assoc, List.append_assoc (_ ++ row q.src), List.set_append_right _ _ (by rw [h4]; omega), h4, show 20 + k - 20 = k from by omega, List.set_append_left _ _ (by rw [row_length]; omega), row_setb]
theorem set_dat (q : P6) (A P : Option Addr) (c p : Nat) (D : List UInt8) (hs : q.src.length = 16) (hd : q.dst.length = 16) : (v6a q A c).setIfInBounds 36 (.slice P D.length p) = v6a ⟨q.traffic, q.flow, q.next, q.hop, q.src, q.dst, D⟩ P p := by
  have h4 : ([Value.int .i64 q.traffic, .int .i64 q.flow, .int .i64 q.next, .int .i64 q.hop] ++ row q.src ++ row q.dst).length = 36 := by simp [row_length, hs, hd]
  rw [v6a, v6a, List.setIfInBounds_toArray, v6l, v6l]
  congr 1
  rw [List.set_append_right _ _ (by rw [h4]; omega), h4]; rfl
end Go.Proofs.Ytodlfdnegcfhcaa

/-
  The struct api.UDP as data: its cells, its value, a block that holds one. Conditions are each theorem's own.
-/
namespace Go.Proofs.Ytodlfdnegcfhcaa
open Go.RowKit Go.ChangeShapes Go.WideShapes

structure PU where
  src : Int
  dst : Int
  nosum : Bool
  dat : List UInt8
def usz : PU := ⟨0, 0, false, []⟩
/-- Its cells. -/
def usa (q : PU) (A : Option Addr) (c : Nat) : Array Value := #[.int .i64 q.src, .int .i64 q.dst, .bool q.nosum, .slice A q.dat.length c]
def usv (q : PU) (A : Option Addr) (c : Nat) : Value := .agg #[.int .i64 q.src, .int .i64 q.dst, .bool q.nosum, .slice A q.dat.length c]
theorem usv_eq (q : PU) (A : Option Addr) (c : Nat) : usv q A c = .agg (usa q A c) := rfl
def PU.fits (q : PU) : Prop := ∀ n ∈ [q.src, q.dst], (Lit.int .i64 n).wf = true
theorem usa_size (q : PU) (A : Option Addr) (c : Nat) : (usa q A c).size = 4 := rfl
theorem us_one (q : PU) (A : Option Addr) (c : Nat) : (usa q A c).all (·.oneCell') = true := by simp [usa, Value.oneCell']
section
variable {H : Type} {enc : TypeId × Value → H} {w : World} {base : Nat} {v : Value} {d : DataW H} {p : List MemPlace}
set_option maxRecDepth 100000 in
theorem get_us (hv : Value.okWide Try.prog w .any base 78 v) (h : DataW.Trod enc Try.prog w 0 (fun _ => true) true 78 v d p) :
    ∃ q A c, v = usv q A c ∧ Arg w w.heap.size A c q.dat ∧ c ≤ maxLen ∧ q.fits := by
  obtain ⟨cs, rfl, hcs⟩ : ∃ cs, v = .agg cs ∧ cs.size = Try.prog.cellsOf 78 := by
    have := hv
    simp only [Value.okWide, Try.underlying78] at this
    obtain ⟨cs, h1, h2, _⟩ := this
    exact ⟨cs, h1, h2⟩
  obtain ⟨fuel, hf⟩ := h
  obtain ⟨xs, n, _, _, hl, hxs, hall⟩ := DataW.trod_struct Try.underlying78 hf
  have hci : Try.prog.cellsOf 3 = 1 := by kernel_rfl
  have hcb : Try.prog.cellsOf 4 = 1 := by kernel_rfl
  have hcy : Try.prog.cellsOf 22 = 1 := by kernel_rfl
  have hcu : Try.prog.cellsOf 5 = 1 := by kernel_rfl
  have hcn : Try.prog.cellsOf 78 = 4 := by kernel_rfl
  obtain ⟨l⟩ := cs
  have hl' : l.length = 4 := by rw [← hcn]; exact hl
  have hall' : ∀ (i : Nat) (f : Field), _ → DataW.trod enc Try.prog w 0 (fun _ => true) true n f.type ((l.drop f.offset).take (Try.prog.cellsOf f.type)) = xs[i]? := hall
  match xs, hxs with
  | [y0, y1, y2, y3], _ =>
    have h0 : DataW.trod enc Try.prog w 0 (fun _ => true) true n 3 ((l.drop 0).take (Try.prog.cellsOf 3)) = some y0 := hall' 0 _ rfl
    rw [hci] at h0
    obtain ⟨a0, e0, f0⟩ := cell_int Try.underlying3 h0
    have h1 : DataW.trod enc Try.prog w 0 (fun _ => true) true n 3 ((l.drop 1).take (Try.prog.cellsOf 3)) = some y1 := hall' 1 _ rfl
    rw [hci] at h1
    obtain ⟨a1, e1, f1⟩ := cell_int Try.underlying3 h1
    have h2 : DataW.trod enc Try.prog w 0 (fun _ => true) true n 4 ((l.drop 2).take (Try.prog.cellsOf 4)) = some y2 := hall' 2 _ rfl
    rw [hcb] at h2
    obtain ⟨a2, e2⟩ := cell_bool Try.underlying4 h2
    have h3 : DataW.trod enc Try.prog w 0 (fun _ => true) true n 22 ((l.drop 3).take (Try.prog.cellsOf 22)) = some y3 := hall' 3 _ rfl
    rw [hcy] at h3
    obtain ⟨A3, c3, a3, e3, f3, g3⟩ := cell_bytes Try.underlying22 Try.underlying5 hcu h3
    have k0 := piece_get e0
    have k1 := piece_get e1
    have k2 := piece_get e2
    have k3 := piece_get e3
    have el : l = [.int .i64 a0, .int .i64 a1, .bool a2, .slice A3 a3.length c3] := by
      match l, hl' with
      | [x0, x1, x2, x3], _ => simp at k0 k1 k2 k3; simp [k0, k1, k2, k3]
    refine ⟨⟨a0, a1, a2, a3⟩, A3, c3, by rw [el]; rfl, f3, g3, ?_⟩
    intro m hm
    simp only [List.mem_cons, List.not_mem_nil, or_false] at hm
    rcases hm with rfl | rfl <;> assumption
end
/-- It lies in a block of its own. -/
def Atus (W : World) (g : Nat) (q : PU) (A : Option Addr) (c : Nat) : Prop := W.rangeAt g 0 (usa q A c).toList
section
variable {W : World} {g : Nat} {q : PU} {A : Option Addr} {c : Nat}
theorem Atus.new (w : World) : Atus (w.alloc (.cells (usa q A c) 78)) w.heap.size q A c := fun j v hj => by
  rw [Nat.zero_add, World.cell?_alloc_new, ← hj, Array.getElem?_toList]
theorem Atus.of_heap {t : TypeId} {fr : Nat × Nat} (h : W.heap[g]? = some (.cells (usa q A c) t fr)) : Atus W g q A c := fun j v hj => by
  rw [cell_of_row W g (0 + j) _ _ _ h, Nat.zero_add, ← Array.getElem?_toList]; exact hj
theorem Atus.below {w : World} {B : Nat} (h : Atus W g q A c) (hb : Below B W w) (hg : g < B) : Atus w g q A c := range_below h hg hb
theorem Atus.src (h : Atus W g q A c) : W.cell? ⟨g, 0, none⟩ = some (.int .i64 q.src) := h 0 _ rfl
theorem Atus.dst (h : Atus W g q A c) : W.cell? ⟨g, 1, none⟩ = some (.int .i64 q.dst) := h 1 _ rfl
theorem Atus.nosum (h : Atus W g q A c) : W.cell? ⟨g, 2, none⟩ = some (.bool q.nosum) := h 2 _ rfl
theorem Atus.dat (h : Atus W g q A c) : W.cell? ⟨g, 3, none⟩ = some (.slice A q.dat.length c) := h 3 _ rfl
end
theorem run_load_us {o : Oper} {a : Act} {w : World} {x : Operand} {g : Nat} {cs : List Value} (ho : o.op = .load 78 x) (hx : a.eval x = .pointer (some ⟨g, 0, none⟩)) (hr : w.rangeAt g 0 cs) (hl : cs.length = 4) :
    (execOp a.eval o).run Try.prog w = .ok (.value (.agg cs.toArray)) w := by
  have h := run_loadVar_mid (P := Try.prog) w g 0 78 cs _ hr Try.underlying78 rfl (by rw [hl]; kernel_rfl)
  unfold execOp
  simp only [ho, hx, Instr.loadAt, Instr.sureAddr, Sem.run_bind, Sem.run_pure, Result.andThen_ok, h]
theorem us_store {ops : Array Oper} {rest : List Oper} {x y : Operand} {ty : TypeId} {pos : String} {af : Array Edge} {a : Act} {w : World} {Q : Exit → Act → World → Prop}
    {g : Nat} {t : TypeId} {cs old : Array Value} (hx : a.eval x = .pointer (some ⟨g, 0, none⟩)) (hy : a.eval y = .agg cs) (hg : w.heap[g]? = some (.cells old t (0, 0))) (ho : old.size = 4) (hl : cs.size = 4) (h1 : cs.all (·.oneCell') = true)
    (h : wpList Try.prog ops Q rest (a.put none undef) (w.setRow g cs)) : wpList Try.prog ops Q (⟨none, .store 78 x y, ty, pos, af, none⟩ :: rest) a w :=
  wpList_plain rfl fun _ hK => wp_store_row 78 x y rfl g cs hx hy t old hg (by rw [hl]; kernel_rfl) (by rw [ho, hl]) h1 (hK _ _ h)
theorem us_store_new {ops : Array Oper} {rest : List Oper} {x y : Operand} {ty : TypeId} {pos : String} {af : Array Edge} {a : Act} {w : World} {Q : Exit → Act → World → Prop}
    {t : TypeId} {cs old : Array Value} (hx : a.eval x = .pointer (some ⟨w.heap.size, 0, none⟩)) (hy : a.eval y = .agg cs) (ho : old.size = 4) (hl : cs.size = 4) (h1 : cs.all (·.oneCell') = true)
    (h : wpList Try.prog ops Q rest (a.put none undef) (w.alloc (.cells cs t))) : wpList Try.prog ops Q (⟨none, .store 78 x y, ty, pos, af, none⟩ :: rest) a (w.alloc (.cells old t)) :=
  us_store hx hy (World.alloc_heap_new w _) ho hl h1 (by rw [World.setRow_alloc_new]; exact h)
theorem us_result {fn : Func} {p : Tmp} {tmps : Array Value} {w : World} {g : Nat} {t : TypeId} {cs : Array Value} {fr : Nat × Nat} (h : fn.results = #[.cell p 78])
    (hp : tmps.getD p undef = .pointer (some ⟨g, 0, none⟩)) (hg : w.heap[g]? = some (.cells cs t fr)) (hl : cs.size = 4) : (results fn tmps).run Try.prog w = .ok (.agg cs) w :=
  results_cell_row h tmps w g t cs fr _ hp hg Try.underlying78 rfl (by rw [hl]; kernel_rfl)
theorem us_load_run {w : World} {g : Nat} {t : TypeId} {cs : Array Value} {fr : Nat × Nat} (hg : w.heap[g]? = some (.cells cs t fr)) (hl : cs.size = 4) : (loadVar 78 ⟨g, 0, none⟩).run Try.prog w = .ok (.agg cs) w :=
  run_loadVar_row w g t 78 cs fr _ hg Try.underlying78 rfl (by rw [hl]; kernel_rfl)
end Go.Proofs.Ytodlfdnegcfhcaa

/-
  Datagrams of UDP in plain lists of bytes: what may be, its bytes, what bytes are. No program. Conditions are each theorem's own.
-/
namespace Go.Proofs.Ytodlfdnegcfhcaa
open Go.RowKit

/-- What is told of a number in so many bytes. -/
def msk (ps : List (Int × Int)) : List (Int × Int) := ps.map fun x => (x.1 % pw x.2.toNat, x.2)
theorem msk_len (ps : List (Int × Int)) : (msk ps).length = ps.length := by simp [msk]
theorem msk_get {ps : List (Int × Int)} {k : Nat} {x : Int × Int} (h : ps[k]? = some x) : (msk ps)[k]? = some (x.1 % pw x.2.toNat, x.2) := by simp [msk, h]
theorem be2_mod (n : Int) : be2 (n % 65536) = be2 n := by
  have e : ∀ a b : Int, a % 256 = b % 256 → u8 a = u8 b := fun a b h => by apply UInt8.toNat_inj.1; have h1 := u8_val a; have h2 := u8_val b; omega
  unfold be2
  rw [e (n % 65536 / 256) (n / 256) (by omega), e (n % 65536) n (by omega)]
theorem be4_mod (n : Int) : be4 (n % 4294967296) = be4 n := by
  have e : ∀ a b : Int, a % 256 = b % 256 → u8 a = u8 b := fun a b h => by apply UInt8.toNat_inj.1; have h1 := u8_val a; have h2 := u8_val b; omega
  unfold be4
  rw [e (n % 4294967296 / 16777216) (n / 16777216) (by omega), e (n % 4294967296 / 65536) (n / 65536) (by omega), e (n % 4294967296 / 256) (n / 256) (by omega), e (n % 4294967296) n (by omega)]
theorem u8_mod (n : Int) : u8 (n % 256) = u8 n := by apply UInt8.toNat_inj.1; have h1 := u8_val (n % 256); have h2 := u8_val n; omega
theorem pw1 : pw (1 : Int).toNat = 256 := rfl
theorem pw2 : pw (2 : Int).toNat = 65536 := rfl
theorem pw4 : pw (4 : Int).toNat = 4294967296 := rfl
theorem putm_one (bs : List UInt8) (n : Int) : putB bs (n % 256) 1 = bs ++ [u8 n] := by rw [put_one (by omega) (by omega), u8_mod]
theorem putm_two (bs : List UInt8) (n : Int) : putB bs (n % 65536) 2 = bs ++ be2 n := by rw [put_two (by omega) (by omega), be2_mod]
theorem putm_four (bs : List UInt8) (n : Int) : putB bs (n % 4294967296) 4 = bs ++ be4 n := by rw [put_four (by omega) (by omega), be4_mod]
/-- What a sum is of, too. -/
def psd (src dst proto size : Int) : List UInt8 := be4 src ++ be4 dst ++ [u8 0] ++ [u8 proto] ++ be2 size
theorem psd_len (src dst proto size : Int) : (psd src dst proto size).length = 12 := by simp [psd, be4, be2]
theorem putL_psd (src dst proto size : Int) : putL (msk [(src, 4), (dst, 4), (0, 1), (proto, 1), (size, 2)]) = psd src dst proto size := by
  simp only [msk, List.map, putL, List.foldl_cons, List.foldl_nil, pw1, pw2, pw4]
  rw [putm_four, putm_four, putm_one, putm_one, putm_two]; rfl
/-- A head. -/
def hdU (q : PU) (s : Int) : List UInt8 := be2 q.src ++ be2 q.dst ++ be2 (8 + (q.dat.length : Int)) ++ be2 s
theorem hdU_len (q : PU) (s : Int) : (hdU q s).length = 8 := by simp [hdU, be2]
theorem putL_hdU (q : PU) (s : Int) : putL (msk [(q.src, 2), (q.dst, 2), (8 + (q.dat.length : Int), 2), (s, 2)]) = hdU q s := by
  simp only [msk, List.map, putL, List.foldl_cons, List.foldl_nil, pw2]
  rw [putm_two, putm_two, putm_two, putm_two]; rfl
/-- The sum, and what stands in its place. -/
def smU (src dst : Int) (q : PU) : Int := 65535 - fold (psum [psd src dst 17 (8 + (q.dat.length : Int)), hdU q 0, q.dat])
theorem smU_bd (src dst : Int) (q : PU) : 0 ≤ smU src dst q ∧ smU src dst q ≤ 65535 := by
  have := fold_bd (psum [psd src dst 17 (8 + (q.dat.length : Int)), hdU q 0, q.dat]); unfold smU; omega
def ckU (src dst : Int) (q : PU) : Int := if q.nosum then 0 else if smU src dst q = 0 then 65535 else smU src dst q
theorem ckU_bd (src dst : Int) (q : PU) : 0 ≤ ckU src dst q ∧ ckU src dst q ≤ 65535 := by
  have := smU_bd src dst q; unfold ckU; split
  · omega
  · split <;> omega
def bldU (src dst : Int) (q : PU) : List UInt8 := hdU q (ckU src dst q) ++ q.dat
theorem bldU_len (src dst : Int) (q : PU) : (bldU src dst q).length = 8 + q.dat.length := by rw [bldU, List.length_append, hdU_len]
def argU (q : PU) : Prop := 0 ≤ q.src ∧ q.src ≤ 65535 ∧ 0 ≤ q.dst ∧ q.dst ≤ 65535
instance (q : PU) : Decidable (argU q) := by unfold argU; infer_instance
def chkU (q : PU) : Int := if argU q then (if q.dat.length > 65527 then 6 else 0) else 1
theorem chkU_ok {q : PU} (h : chkU q = 0) : argU q ∧ q.dat.length ≤ 65527 := by
  unfold chkU at h
  split at h
  · rename_i ha
    split at h
    · cases h
    · exact ⟨ha, by omega⟩
  · cases h
/-- What is wrong with bytes; nothing: 0. -/
def badU (src dst : Int) (b : List UInt8) : Int :=
  if b.length < 8 then 3
  else if n2 b 4 > (b.length : Int) then 3
  else if n2 b 4 < (b.length : Int) then 4
  else if n2 b 6 ≠ 0 ∧ rightB [psd src dst 17 (n2 b 4), b] = false then 5
  else 0
def rawU (b : List UInt8) : PU := ⟨n2 b 0, n2 b 2, decide (n2 b 6 = 0), b.drop 8⟩
def prsU (src dst : Int) (b : List UInt8) : PU := if badU src dst b = 0 then rawU b else usz
/-- Are two the same? -/
def sameU (q r : PU) : Bool := (q.src == r.src && q.dst == r.dst) && (q.nosum == r.nosum) && decide (q.dat = r.dat)
theorem sameU_iff {q r : PU} : sameU q r = true ↔ q = r := by
  obtain ⟨a0, a1, a2, a3⟩ := q
  obtain ⟨b0, b1, b2, b3⟩ := r
  simp only [sameU, Bool.and_eq_true, beq_iff_eq, decide_eq_true_eq, PU.mk.injEq]
  constructor
  · rintro ⟨⟨⟨h0, h1⟩, h2⟩, h3⟩; exact ⟨h0, h1, h2, h3⟩
  · rintro ⟨h0, h1, h2, h3⟩; exact ⟨⟨⟨h0, h1⟩, h2⟩, h3⟩
/-- Bytes after bytes of even length. -/
theorem psum_glue (a b c : List UInt8) {m : Nat} (h : b.length = 2 * m) : psum [a, b, c] = psum [a, b ++ c] := by
  simp only [psum_cons]
  rw [wall_append h]; omega
theorem psum_glue2 (a b : List UInt8) {m : Nat} (h : a.length = 2 * m) : psum [a, b] = psum [a ++ b] := by
  simp only [psum_cons]
  rw [wall_append h]; omega
theorem smU_two (src dst : Int) (q : PU) : 65535 - fold (psum [psd src dst 17 (8 + (q.dat.length : Int)), hdU q 0 ++ q.dat]) = smU src dst q := by
  rw [smU, psum_glue _ _ _ (m := 4) (hdU_len q 0)]
/-- What is built is right. -/
theorem hdU_wall (q : PU) {s : Int} (h0 : 0 ≤ s) (h1 : s ≤ 65535) : wall (hdU q s) = wall (hdU q 0) + s := by
  have z : ∀ n : Int, 0 ≤ n → n ≤ 65535 → wall (hdU q n) = wall (be2 q.src ++ be2 q.dst ++ be2 (8 + (q.dat.length : Int))) + n := fun n a b => by
    rw [hdU, wall_append (m := 3) (by simp [be2]), be2_wall a b]
  rw [z s h0 h1, z 0 (by omega) (by omega)]; omega
theorem psum_nn (ps : List (List UInt8)) : 0 ≤ psum ps := (psum_bd ps).1
theorem right_of {S s : Int} (h : 0 ≤ S) (hs : s = 65535 - fold S) : fold (S + s) = 65535 := by subst hs; exact fold_right h
theorem right_full {S : Int} (hs : 65535 - fold S = 0) : fold (S + 65535) = 65535 := by
  unfold fold at *; split at hs
  · omega
  · split <;> omega
theorem bldU_right (src dst : Int) (q : PU) (hn : q.nosum = false) : rightB [psd src dst 17 (8 + (q.dat.length : Int)), bldU src dst q] = true := by
  have e : psum [psd src dst 17 (8 + (q.dat.length : Int)), bldU src dst q] = psum [psd src dst 17 (8 + (q.dat.length : Int)), hdU q 0, q.dat] + ckU src dst q := by
    rw [bldU, ← psum_glue _ _ _ (m := 4) (hdU_len q _)]
    simp only [psum_cons]
    rw [hdU_wall q (ckU_bd src dst q).1 (ckU_bd src dst q).2]; omega
  rw [rightB, e]
  have hp := psum_nn [psd src dst 17 (8 + (q.dat.length : Int)), hdU q 0, q.dat]
  have hs : smU src dst q = 65535 - fold (psum [psd src dst 17 (8 + (q.dat.length : Int)), hdU q 0, q.dat]) := rfl
  unfold ckU
  rw [hn]
  simp only [Bool.false_eq_true, if_false]
  by_cases h : smU src dst q = 0
  · rw [if_pos h, right_full (by omega)]; rfl
  · rw [if_neg h, right_of hp hs]; rfl
theorem n2_be2 {a b : List UInt8} {n : Int} (h0 : 0 ≤ n) (h1 : n ≤ 65535) {k : Nat} (hk : a.length = k) : n2 (a ++ (be2 n ++ b)) k = n := by
  have e0 : byt (a ++ (be2 n ++ b)) (a.length + 0) = byt (be2 n ++ b) 0 := byt_right
  have e1 : byt (a ++ (be2 n ++ b)) (a.length + 1) = byt (be2 n ++ b) 1 := byt_right
  subst hk
  unfold n2
  rw [show a.length = a.length + 0 from rfl, e0, Nat.add_zero, e1]
  have c0 : byt (be2 n ++ b) 0 = n / 256 % 256 := u8_val _
  have c1 : byt (be2 n ++ b) 1 = n % 256 := u8_val _
  rw [c0, c1]; omega
theorem backU {src dst : Int} {q : PU} (h : chkU q = 0) : badU src dst (bldU src dst q) = 0 ∧ prsU src dst (bldU src dst q) = q := by
  obtain ⟨⟨a1, a2, a3, a4⟩, hl⟩ := chkU_ok h
  have hc := ckU_bd src dst q
  have hlen := bldU_len src dst q
  have f0 : n2 (bldU src dst q) 0 = q.src := by
    rw [bldU, hdU, List.append_assoc, List.append_assoc, List.append_assoc]; exact n2_be2 (a := []) a1 a2 rfl
  have f2 : n2 (bldU src dst q) 2 = q.dst := by
    rw [bldU, hdU, List.append_assoc, List.append_assoc, List.append_assoc]; exact n2_be2 (a := be2 q.src) a3 a4 rfl
  have f4 : n2 (bldU src dst q) 4 = 8 + (q.dat.length : Int) := by
    rw [bldU, hdU, List.append_assoc, List.append_assoc]; exact n2_be2 (a := be2 q.src ++ be2 q.dst) (by omega) (by omega) rfl
  have f6 : n2 (bldU src dst q) 6 = ckU src dst q := by
    rw [bldU, hdU, List.append_assoc]; exact n2_be2 (a := be2 q.src ++ be2 q.dst ++ be2 (8 + (q.dat.length : Int))) hc.1 hc.2 rfl
  have hz : (ckU src dst q = 0) ↔ q.nosum = true := by
    have := smU_bd src dst q
    unfold ckU
    cases hn : q.nosum
    · simp only [Bool.false_eq_true, if_false, iff_false]
      split <;> omega
    · simp
  have hb : badU src dst (bldU src dst q) = 0 := by
    unfold badU
    rw [if_neg (by omega), f4, f6, if_neg (by omega), if_neg (by omega), if_neg ?_]
    rintro ⟨g1, g2⟩
    have hn : q.nosum = false := by cases hn : q.nosum; rfl; exact absurd (hz.2 hn) g1
    rw [bldU_right src dst q hn] at g2; cases g2
  refine ⟨hb, ?_⟩
  rw [prsU, if_pos hb, rawU, f0, f2, f6]
  have hd : (bldU src dst q).drop 8 = q.dat := by rw [bldU, List.drop_left' (hdU_len q _)]
  rw [hd]
  have : decide (ckU src dst q = 0) = q.nosum := by
    rw [Bool.eq_iff_iff, decide_eq_true_iff]; exact hz
  rw [this]
end Go.Proofs.Ytodlfdnegcfhcaa

/-
  Contracts of udp's put, Pseudo, buildHead. Conditions are each theorem's own.
-/
namespace Go.Proofs.Ytodlfdnegcfhcaa
open Go.RowKit

/-- The lowest bits of any number, of one below 0 too. -/
theorem and_any (i : Nat) (n : Int) (hi : i ≤ 62) : bits .and .i64 n (2 ^ i - 1) = n % 2 ^ i := by
  obtain ⟨a, ha⟩ : ∃ a : Nat, (a : Int) = n % 2 ^ 64 := ⟨(n % 2 ^ 64).toNat, by omega⟩
  have e : BitVec.ofInt IntKind.i64.bits n = BitVec.ofInt IntKind.i64.bits (a : Int) := by
    apply BitVec.eq_of_toInt_eq
    rw [BitVec.toInt_ofInt, BitVec.toInt_ofInt, ha]
    show Int.bmod n (2 ^ 64) = Int.bmod (n % 2 ^ 64) (2 ^ 64)
    exact (Int.emod_bmod n (2 ^ 64)).symm
  have hpos : 0 < 2 ^ i := Nat.two_pow_pos i
  have hp : 2 ^ i ≤ 2 ^ 62 := Nat.pow_le_pow_right (by decide) hi
  have hc : ((2 : Int) ^ i - 1) = ((2 ^ i - 1 : Nat) : Int) := by
    rw [Int.natCast_sub hpos]; simp
  have hm : (2 ^ i - 1) % 2 ^ IntKind.i64.bits = 2 ^ i - 1 := Nat.mod_eq_of_lt (by show _ < 2 ^ 64; omega)
  have hal : a < 2 ^ 64 := by omega
  have ham : a % 2 ^ IntKind.i64.bits = a := Nat.mod_eq_of_lt hal
  have h1 : bits .and .i64 n (2 ^ i - 1) = IntKind.i64.wrap ((a &&& (2 ^ i - 1) : Nat) : Int) := by
    simp only [bits, e, hc, BitVec.ofInt_natCast, BitVec.toNat_and, BitVec.toNat_ofNat, hm, ham]
  rw [h1, Nat.and_two_pow_sub_one_eq_mod]
  have hlt : a % 2 ^ i < 2 ^ i := Nat.mod_lt _ hpos
  rw [wraps63 _ (by omega) (by omega)]
  have hd : ((2 : Int) ^ i) ∣ 2 ^ 64 := by
    refine ⟨2 ^ (64 - i), ?_⟩
    rw [← Int.pow_add]; congr 1; omega
  have h2 : (n % 2 ^ 64) % 2 ^ i = n % 2 ^ i := Int.emod_emod_of_dvd n hd
  rw [← h2, ← ha]; simp
/-- A number and its size in a block. -/
def AtNS (W : World) (g : Nat) (n s : Int) : Prop := W.rangeAt g 0 [.int .i64 n, .int .i64 s]
section
variable {W : World} {g : Nat} {n s : Int}
theorem AtNS.new (w : World) (n s : Int) : AtNS (w.alloc (.cells #[.int .i64 n, .int .i64 s] 98)) w.heap.size n s := fun j v hj => by
  rw [Nat.zero_add, World.cell?_alloc_new, ← hj]; rw [List.getElem?_toArray]
theorem AtNS.below {w : World} {B : Nat} (h : AtNS W g n s) (hb : Below B W w) (hg : g < B) : AtNS w g n s := range_below h hg hb
theorem AtNS.num (h : AtNS W g n s) : W.cell? ⟨g, 0, none⟩ = some (.int .i64 n) := h 0 _ rfl
theorem AtNS.siz (h : AtNS W g n s) : W.cell? ⟨g, 1, none⟩ = some (.int .i64 s) := h 1 _ rfl
end
set_option maxHeartbeats 4000000 in
theorem put7_any (g : Nat) (ps : List (Int × Int)) (w : World) (hn : ps.length ≤ 10) (hs : ∀ x ∈ ps, x.2 = 1 ∨ x.2 = 2 ∨ x.2 = 4) (hg : g < w.heap.size)
    (h : ∀ (k : Nat) (x : Int × Int), ps[k]? = some x → w.cell? ⟨g, k * 2, none⟩ = some (.int .i64 x.1) ∧ w.cell? ⟨g, k * 2 + 1, none⟩ = some (.int .i64 x.2)) :
    Calls Try.prog 50 #[.slice (some ⟨g, 0, none⟩) ps.length ps.length] w fun e w' => ∃ v, e = .returned v ∧ Made w w' v (putL (msk ps)) := by
  have H := Lib.hid h
  clear h
  have HS := Lib.hid hs
  have HL := Lib.hid (fun k => (putL_len ((msk ps).take k) (fun x hx => by
    have hx' := List.mem_of_mem_take hx
    simp only [msk, List.mem_map] at hx'
    obtain ⟨y, hy, rfl⟩ := hx'
    rcases hs y hy with h | h | h <;> (simp only [h]; decide))))
  clear hs
  go_enter Try.func50, Try.ntmps50
  go_wp2
  go_loopw [3, 8] (fun v i W => ∃ (k c : Nat) (A : Option Addr) (bs : List UInt8), k ≤ ps.length ∧ i = .int .i64 (k : Int) ∧ Hid (bs = putL ((msk ps).take k)) ∧ bs.length ≤ 40 ∧ v = .slice A bs.length c ∧ W.ownsRow w.heap.size 5 1 (.slice A bs.length c) bs.length (row bs) ∧ Below w.heap.size w W) (fun _ i _ => ps.length - (intOf i).toNat)
  case atStart => exact ⟨0, 0, none, [], Nat.zero_le _, rfl, Lib.hid rfl, by simp, rfl, World.ownsRow_nil _ _ _ _, Below.refl _ _⟩
  case round =>
    obtain ⟨k, c, A, bs, hk, rfl, HB, hb40, rfl, hown, hbel⟩ := hrel
    obtain ⟨W, rfl⟩ : ∃ W : World, W = wr := ⟨_, rfl⟩
    by_cases hlt : k < ps.length
    · obtain ⟨x, hx⟩ : ∃ x, ps[k]? = some x := ⟨_, List.getElem?_eq_getElem hlt⟩
      obtain ⟨c1, c2⟩ := H.out k x hx
      have hs1 := HS.out x (List.mem_of_getElem? hx)
      have HX := Lib.hid hx
      clear hx
      have d1 := (hbel.cell (p := ⟨g, k * 2, none⟩) hg).trans c1
      have d2 := (hbel.cell (p := ⟨g, k * 2 + 1, none⟩) hg).trans c2
      clear c1 c2
      obtain ⟨n, s⟩ := x
      simp only at d1 d2 hs1
      rcases hs1 with rfl | rfl | rfl
      · have HM := Lib.hid (show bits .and .i64 n 255 = n % 256 from and_any 8 n (by decide))
        go_upto_region 5 with fail
        have at0 : AtNS _ W.heap.size n 1 := AtNS.new W n 1
        have xR : Below W.heap.size W _ := (Below.refl _ W).alloc (Nat.le_refl _) (.cells #[.int .i64 n, .int .i64 1] 98)
        have hzG : W.heap.size < (W.alloc (.cells #[.int .i64 n, .int .i64 1] 98)).heap.size := by simp
        generalize W.alloc (.cells #[.int .i64 n, .int .i64 1] 98) = R at *
        refine wp_region_held_drew (S := fun w' => Below R.heap.size R w') (by kernel_rfl) (Below.refl _ R).drew (fun hS => ?_)
        refine held_pure (i := 0) (oi := ⟨some 12, _, _, _, _, _⟩) rfl (by kernel_rfl) (by kernel_rfl) (by kernel_rfl) (fun _ _ _ h => h) (by rfl) (v := ?_) (fun w hSw => ?_) hS (fun hS => ?_)
        rotate_left
        · go_simp; try with_reducible rfl
        try go_frame
        refine held_pure (i := 1) (oi := ⟨some 13, _, _, _, _, _⟩) rfl (by kernel_rfl) (by kernel_rfl) (by kernel_rfl) (fun _ _ _ h => h) (by rfl) (v := ?_) (fun w hSw => ?_) hS (fun hS => ?_)
        rotate_left
        · go_simp; try with_reducible rfl
        try go_frame
        refine held_pure (i := 2) (oi := ⟨some 14, _, _, _, _, _⟩) rfl (by kernel_rfl) (by kernel_rfl) (by kernel_rfl) (fun _ _ _ h => h) (by rfl) (fun w hSw => run_load_int rfl rfl (at0.below hSw hzG).num) hS (fun hS => ?_)
        try go_frame
        refine held_pure (i := 3) (oi := ⟨some 15, _, _, _, _, _⟩) rfl (by kernel_rfl) (by kernel_rfl) (by kernel_rfl) (fun _ _ _ h => h) (by rfl) (v := ?_) (fun w hSw => ?_) hS (fun hS => ?_)
        rotate_left
        · go_simp; try with_reducible rfl
        try go_frame
        refine held_pure (i := 4) (oi := ⟨some 16, _, _, _, _, _⟩) rfl (by kernel_rfl) (by kernel_rfl) (by kernel_rfl) (fun _ _ _ h => h) (by rfl) (fun w hSw => run_load_int rfl rfl (at0.below hSw hzG).siz) hS (fun hS => ?_)
        try go_frame
        refine held_pure (i := 5) (oi := ⟨some 17, _, _, _, _, _⟩) rfl (by kernel_rfl) (by kernel_rfl) (by kernel_rfl) (fun _ _ _ h => h) (by rfl) (v := .int .i64 8) (fun w hSw => by go_simp; decide) hS (fun hS => ?_)
        try go_frame
        refine held_pure (i := 6) (oi := ⟨some 18, _, _, _, _, _⟩) rfl (by kernel_rfl) (by kernel_rfl) (by kernel_rfl) (fun _ _ _ h => h) (by rfl) (v := .int .i64 256) (fun w hSw => by go_simp; decide) hS (fun hS => ?_)
        try go_frame
        refine held_pure (i := 7) (oi := ⟨some 19, _, _, _, _, _⟩) rfl (by kernel_rfl) (by kernel_rfl) (by kernel_rfl) (fun _ _ _ h => h) (by rfl) (v := .int .i64 255) (fun w hSw => by go_simp; decide) hS (fun hS => ?_)
        try go_frame
        refine held_pure (i := 8) (oi := ⟨some 20, _, _, _, _, _⟩) rfl (by kernel_rfl) (by kernel_rfl) (by kernel_rfl) (fun _ _ _ h => h) (by rfl) (v := .int .i64 (n % 256)) (fun w hSw => by go_simp; exact HM.out) hS (fun hS => ?_)
        try go_frame
        refine held_pure (i := 9) (oi := ⟨some 21, _, _, _, _, _⟩) rfl (by kernel_rfl) (by kernel_rfl) (by kernel_rfl) (fun _ _ _ h => h) (by rfl) (v := ?_) (fun w hSw => ?_) hS (fun hS => ?_)
        rotate_left
        · go_simp; try with_reducible rfl
        try go_frame
        refine held_pure (i := 10) (oi := ⟨some 22, _, _, _, _, _⟩) rfl (by kernel_rfl) (by kernel_rfl) (by kernel_rfl) (fun _ _ _ h => h) (by rfl) (fun w hSw => run_load_int rfl rfl (at0.below hSw hzG).siz) hS (fun hS => ?_)
        try go_frame
        refine wpAnyH_ready (rs := [11]) (by kernel_rfl) (by simp) (AllReadyH.cons (o := ⟨some 23, _, _, _, _, _⟩) rfl (fun K hK => ?_) AllReadyH.nil)
        rw [if_pos (by rfl)]
        go_simp
        have x11 := xR.trans (hS.mono xR.size)
        refine (put_any A bs c _ (n % 256) 1 _ (arg_own (own_below hown x11)).rd (Nat.le_refl _) (by omega)).mono ?_
        rintro e w2 ⟨v2, rfl, A2, c2, rfl, l2, rd2, ow2, x2⟩
        have hSs := hS
        show K _ _
        refine hK.out _ _ (below_step hS x2) (fun hS => ?_)
        clear hK K
        try go_frame
        refine held_pure (i := 12) (oi := ⟨some 3, _, _, _, _, _⟩) rfl (by kernel_rfl) (by kernel_rfl) (by kernel_rfl) (fun _ _ _ h => h) (by rfl) (v := ?_) (fun w hSw => ?_) hS (fun hS => ?_)
        rotate_left
        · go_simp; try with_reducible rfl
        try go_frame
        refine wpAnyH_done (by kernel_rfl) ?_ _
        go_wp2_with fail
        have xW : Below W.heap.size W w2 := xR.trans (hS.mono xR.size)
        have bel2 : Below w.heap.size w w2 := hbel.trans (xW.mono hbel.size)
        have own2 : w2.ownsRow w.heap.size 5 1 (.slice A2 (putB bs (n % 256) 1).length c2) (putB bs (n % 256) 1).length (row (putB bs (n % 256) 1)) := own_base ow2 (by have := hbel.size; have := xR.size; have := hSs.size; omega)
        have HP := Lib.hid (putL_take (msk ps) (msk_get HX.out))
        have h40 : (putB bs (n % 256) 1).length ≤ 40 := by
          have e : putB bs (n % 256) 1 = putL ((msk ps).take (k + 1)) := by rw [HP.out, HB.out]; rfl
          rw [e]
          have := HL.out (k + 1)
          have h2 : ((msk ps).take (k + 1)).length ≤ ps.length := by rw [List.length_take, msk_len]; omega
          omega
        go_roundw
        case rel => exact ⟨k + 1, c2, A2, _, by omega, by simp, Lib.hid (by rw [HP.out, HB.out]; rfl), h40, rfl, own2, bel2⟩
        case measure => simp [intOf]; omega
      · have HM := Lib.hid (show bits .and .i64 n 65535 = n % 65536 from and_any 16 n (by decide))
        go_upto_region 5 with fail
        have at0 : AtNS _ W.heap.size n 2 := AtNS.new W n 2
        have xR : Below W.heap.size W _ := (Below.refl _ W).alloc (Nat.le_refl _) (.cells #[.int .i64 n, .int .i64 2] 98)
        have hzG : W.heap.size < (W.alloc (.cells #[.int .i64 n, .int .i64 2] 98)).heap.size := by simp
        generalize W.alloc (.cells #[.int .i64 n, .int .i64 2] 98) = R at *
        refine wp_region_held_drew (S := fun w' => Below R.heap.size R w') (by kernel_rfl) (Below.refl _ R).drew (fun hS => ?_)
        refine held_pure (i := 0) (oi := ⟨some 12, _, _, _, _, _⟩) rfl (by kernel_rfl) (by kernel_rfl) (by kernel_rfl) (fun _ _ _ h => h) (by rfl) (v := ?_) (fun w hSw => ?_) hS (fun hS => ?_)
        rotate_left
        · go_simp; try with_reducible rfl
        try go_frame
        refine held_pure (i := 1) (oi := ⟨some 13, _, _, _, _, _⟩) rfl (by kernel_rfl) (by kernel_rfl) (by kernel_rfl) (fun _ _ _ h => h) (by rfl) (v := ?_) (fun w hSw => ?_) hS (fun hS => ?_)
        rotate_left
        · go_simp; try with_reducible rfl
        try go_frame
        refine held_pure (i := 2) (oi := ⟨some 14, _, _, _, _, _⟩) rfl (by kernel_rfl) (by kernel_rfl) (by kernel_rfl) (fun _ _ _ h => h) (by rfl) (fun w hSw => run_load_int rfl rfl (at0.below hSw hzG).num) hS (fun hS => ?_)
        try go_frame
        refine held_pure (i := 3) (oi := ⟨some 15, _, _, _, _, _⟩) rfl (by kernel_rfl) (by kernel_rfl) (by kernel_rfl) (fun _ _ _ h => h) (by rfl) (v := ?_) (fun w hSw => ?_) hS (fun hS => ?_)
        rotate_left
        · go_simp; try with_reducible rfl
        try go_frame
        refine held_pure (i := 4) (oi := ⟨some 16, _, _, _, _, _⟩) rfl (by kernel_rfl) (by kernel_rfl) (by kernel_rfl) (fun _ _ _ h => h) (by rfl) (fun w hSw => run_load_int rfl rfl (at0.below hSw hzG).siz) hS (fun hS => ?_)
        try go_frame
        refine held_pure (i := 5) (oi := ⟨some 17, _, _, _, _, _⟩) rfl (by kernel_rfl) (by kernel_rfl) (by kernel_rfl) (fun _ _ _ h => h) (by rfl) (v := .int .i64 16) (fun w hSw => by go_simp; decide) hS (fun hS => ?_)
        try go_frame
        refine held_pure (i := 6) (oi := ⟨some 18, _, _, _, _, _⟩) rfl (by kernel_rfl) (by kernel_rfl) (by kernel_rfl) (fun _ _ _ h => h) (by rfl) (v := .int .i64 65536) (fun w hSw => by go_simp; decide) hS (fun hS => ?_)
        try go_frame
        refine held_pure (i := 7) (oi := ⟨some 19, _, _, _, _, _⟩) rfl (by kernel_rfl) (by kernel_rfl) (by kernel_rfl) (fun _ _ _ h => h) (by rfl) (v := .int .i64 65535) (fun w hSw => by go_simp; decide) hS (fun hS => ?_)
        try go_frame
        refine held_pure (i := 8) (oi := ⟨some 20, _, _, _, _, _⟩) rfl (by kernel_rfl) (by kernel_rfl) (by kernel_rfl) (fun _ _ _ h => h) (by rfl) (v := .int .i64 (n % 65536)) (fun w hSw => by go_simp; exact HM.out) hS (fun hS => ?_)
        try go_frame
        refine held_pure (i := 9) (oi := ⟨some 21, _, _, _, _, _⟩) rfl (by kernel_rfl) (by kernel_rfl) (by kernel_rfl) (fun _ _ _ h => h) (by rfl) (v := ?_) (fun w hSw => ?_) hS (fun hS => ?_)
        rotate_left
        · go_simp; try with_reducible rfl
        try go_frame
        refine held_pure (i := 10) (oi := ⟨some 22, _, _, _, _, _⟩) rfl (by kernel_rfl) (by kernel_rfl) (by kernel_rfl) (fun _ _ _ h => h) (by rfl) (fun w hSw => run_load_int rfl rfl (at0.below hSw hzG).siz) hS (fun hS => ?_)
        try go_frame
        refine wpAnyH_ready (rs := [11]) (by kernel_rfl) (by simp) (AllReadyH.cons (o := ⟨some 23, _, _, _, _, _⟩) rfl (fun K hK => ?_) AllReadyH.nil)
        rw [if_pos (by rfl)]
        go_simp
        have x11 := xR.trans (hS.mono xR.size)
        refine (put_any A bs c _ (n % 65536) 2 _ (arg_own (own_below hown x11)).rd (Nat.le_refl _) (by omega)).mono ?_
        rintro e w2 ⟨v2, rfl, A2, c2, rfl, l2, rd2, ow2, x2⟩
        have hSs := hS
        show K _ _
        refine hK.out _ _ (below_step hS x2) (fun hS => ?_)
        clear hK K
        try go_frame
        refine held_pure (i := 12) (oi := ⟨some 3, _, _, _, _, _⟩) rfl (by kernel_rfl) (by kernel_rfl) (by kernel_rfl) (fun _ _ _ h => h) (by rfl) (v := ?_) (fun w hSw => ?_) hS (fun hS => ?_)
        rotate_left
        · go_simp; try with_reducible rfl
        try go_frame
        refine wpAnyH_done (by kernel_rfl) ?_ _
        go_wp2_with fail
        have xW : Below W.heap.size W w2 := xR.trans (hS.mono xR.size)
        have bel2 : Below w.heap.size w w2 := hbel.trans (xW.mono hbel.size)
        have own2 : w2.ownsRow w.heap.size 5 1 (.slice A2 (putB bs (n % 65536) 2).length c2) (putB bs (n % 65536) 2).length (row (putB bs (n % 65536) 2)) := own_base ow2 (by have := hbel.size; have := xR.size; have := hSs.size; omega)
        have HP := Lib.hid (putL_take (msk ps) (msk_get HX.out))
        have h40 : (putB bs (n % 65536) 2).length ≤ 40 := by
          have e : putB bs (n % 65536) 2 = putL ((msk ps).take (k + 1)) := by rw [HP.out, HB.out]; rfl
          rw [e]
          have := HL.out (k + 1)
          have h2 : ((msk ps).take (k + 1)).length ≤ ps.length := by rw [List.length_take, msk_len]; omega
          omega
        go_roundw
        case rel => exact ⟨k + 1, c2, A2, _, by omega, by simp, Lib.hid (by rw [HP.out, HB.out]; rfl), h40, rfl, own2, bel2⟩
        case measure => simp [intOf]; omega
      · have HM := Lib.hid (show bits .and .i64 n 4294967295 = n % 4294967296 from and_any 32 n (by decide))
        go_upto_region 5 with fail
        have at0 : AtNS _ W.heap.size n 4 := AtNS.new W n 4
        have xR : Below W.heap.size W _ := (Below.refl _ W).alloc (Nat.le_refl _) (.cells #[.int .i64 n, .int .i64 4] 98)
        have hzG : W.heap.size < (W.alloc (.cells #[.int .i64 n, .int .i64 4] 98)).heap.size := by simp
        generalize W.alloc (.cells #[.int .i64 n, .int .i64 4] 98) = R at *
        refine wp_region_held_drew (S := fun w' => Below R.heap.size R w') (by kernel_rfl) (Below.refl _ R).drew (fun hS => ?_)
        refine held_pure (i := 0) (oi := ⟨some 12, _, _, _, _, _⟩) rfl (by kernel_rfl) (by kernel_rfl) (by kernel_rfl) (fun _ _ _ h => h) (by rfl) (v := ?_) (fun w hSw => ?_) hS (fun hS => ?_)
        rotate_left
        · go_simp; try with_reducible rfl
        try go_frame
        refine held_pure (i := 1) (oi := ⟨some 13, _, _, _, _, _⟩) rfl (by kernel_rfl) (by kernel_rfl) (by kernel_rfl) (fun _ _ _ h => h) (by rfl) (v := ?_) (fun w hSw => ?_) hS (fun hS => ?_)
        rotate_left
        · go_simp; try with_reducible rfl
        try go_frame
        refine held_pure (i := 2) (oi := ⟨some 14, _, _, _, _, _⟩) rfl (by kernel_rfl) (by kernel_rfl) (by kernel_rfl) (fun _ _ _ h => h) (by rfl) (fun w hSw => run_load_int rfl rfl (at0.below hSw hzG).num) hS (fun hS => ?_)
        try go_frame
        refine held_pure (i := 3) (oi := ⟨some 15, _, _, _, _, _⟩) rfl (by kernel_rfl) (by kernel_rfl) (by kernel_rfl) (fun _ _ _ h => h) (by rfl) (v := ?_) (fun w hSw => ?_) hS (fun hS => ?_)
        rotate_left
        · go_simp; try with_reducible rfl
        try go_frame
        refine held_pure (i := 4) (oi := ⟨some 16, _, _, _, _, _⟩) rfl (by kernel_rfl) (by kernel_rfl) (by kernel_rfl) (fun _ _ _ h => h) (by rfl) (fun w hSw => run_load_int rfl rfl (at0.below hSw hzG).siz) hS (fun hS => ?_)
        try go_frame
        refine held_pure (i := 5) (oi := ⟨some 17, _, _, _, _, _⟩) rfl (by kernel_rfl) (by kernel_rfl) (by kernel_rfl) (fun _ _ _ h => h) (by rfl) (v := .int .i64 32) (fun w hSw => by go_simp; decide) hS (fun hS => ?_)
        try go_frame
        refine held_pure (i := 6) (oi := ⟨some 18, _, _, _, _, _⟩) rfl (by kernel_rfl) (by kernel_rfl) (by kernel_rfl) (fun _ _ _ h => h) (by rfl) (v := .int .i64 4294967296) (fun w hSw => by go_simp; decide) hS (fun hS => ?_)
        try go_frame
        refine held_pure (i := 7) (oi := ⟨some 19, _, _, _, _, _⟩) rfl (by kernel_rfl) (by kernel_rfl) (by kernel_rfl) (fun _ _ _ h => h) (by rfl) (v := .int .i64 4294967295) (fun w hSw => by go_simp; decide) hS (fun hS => ?_)
        try go_frame
        refine held_pure (i := 8) (oi := ⟨some 20, _, _, _, _, _⟩) rfl (by kernel_rfl) (by kernel_rfl) (by kernel_rfl) (fun _ _ _ h => h) (by rfl) (v := .int .i64 (n % 4294967296)) (fun w hSw => by go_simp; exact HM.out) hS (fun hS => ?_)
        try go_frame
        refine held_pure (i := 9) (oi := ⟨some 21, _, _, _, _, _⟩) rfl (by kernel_rfl) (by kernel_rfl) (by kernel_rfl) (fun _ _ _ h => h) (by rfl) (v := ?_) (fun w hSw => ?_) hS (fun hS => ?_)
        rotate_left
        · go_simp; try with_reducible rfl
        try go_frame
        refine held_pure (i := 10) (oi := ⟨some 22, _, _, _, _, _⟩) rfl (by kernel_rfl) (by kernel_rfl) (by kernel_rfl) (fun _ _ _ h => h) (by rfl) (fun w hSw => run_load_int rfl rfl (at0.below hSw hzG).siz) hS (fun hS => ?_)
        try go_frame
        refine wpAnyH_ready (rs := [11]) (by kernel_rfl) (by simp) (AllReadyH.cons (o := ⟨some 23, _, _, _, _, _⟩) rfl (fun K hK => ?_) AllReadyH.nil)
        rw [if_pos (by rfl)]
        go_simp
        have x11 := xR.trans (hS.mono xR.size)
        refine (put_any A bs c _ (n % 4294967296) 4 _ (arg_own (own_below hown x11)).rd (Nat.le_refl _) (by omega)).mono ?_
        rintro e w2 ⟨v2, rfl, A2, c2, rfl, l2, rd2, ow2, x2⟩
        have hSs := hS
        show K _ _
        refine hK.out _ _ (below_step hS x2) (fun hS => ?_)
        clear hK K
        try go_frame
        refine held_pure (i := 12) (oi := ⟨some 3, _, _, _, _, _⟩) rfl (by kernel_rfl) (by kernel_rfl) (by kernel_rfl) (fun _ _ _ h => h) (by rfl) (v := ?_) (fun w hSw => ?_) hS (fun hS => ?_)
        rotate_left
        · go_simp; try with_reducible rfl
        try go_frame
        refine wpAnyH_done (by kernel_rfl) ?_ _
        go_wp2_with fail
        have xW : Below W.heap.size W w2 := xR.trans (hS.mono xR.size)
        have bel2 : Below w.heap.size w w2 := hbel.trans (xW.mono hbel.size)
        have own2 : w2.ownsRow w.heap.size 5 1 (.slice A2 (putB bs (n % 4294967296) 4).length c2) (putB bs (n % 4294967296) 4).length (row (putB bs (n % 4294967296) 4)) := own_base ow2 (by have := hbel.size; have := xR.size; have := hSs.size; omega)
        have HP := Lib.hid (putL_take (msk ps) (msk_get HX.out))
        have h40 : (putB bs (n % 4294967296) 4).length ≤ 40 := by
          have e : putB bs (n % 4294967296) 4 = putL ((msk ps).take (k + 1)) := by rw [HP.out, HB.out]; rfl
          rw [e]
          have := HL.out (k + 1)
          have h2 : ((msk ps).take (k + 1)).length ≤ ps.length := by rw [List.length_take, msk_len]; omega
          omega
        go_roundw
        case rel => exact ⟨k + 1, c2, A2, _, by omega, by simp, Lib.hid (by rw [HP.out, HB.out]; rfl), h40, rfl, own2, bel2⟩
        case measure => simp [intOf]; omega
    · obtain rfl : k = ps.length := by omega
      go_wp2
      go_ret
      have e : bs = putL (msk ps) := by rw [HB.out, List.take_of_length_le (by rw [msk_len]; exact Nat.le_refl _)]
      subst e
      exact ⟨_, rfl, Made.of_own hown hbel⟩
theorem put7_new (ps : List (Int × Int)) (cs : Array Value) (n : Nat) (t : TypeId) (bs : List UInt8) (w : World) (hc : cs = (flat ps).toArray) (hn : n = ps.length) (hl : ps.length ≤ 10) (hs : ∀ x ∈ ps, x.2 = 1 ∨ x.2 = 2 ∨ x.2 = 4) (hb : Hid (putL (msk ps) = bs)) :
    Calls Try.prog 50 #[.slice (some ⟨w.heap.size, 0, none⟩) n n] (w.alloc (.cells cs t)) fun e w' => ∃ v, e = .returned v ∧ Made w w' v bs := by
  subst hc; subst hn
  rw [← hb.out]
  refine (put7_any w.heap.size ps _ hl hs (by simp) fun k x hx => ?_).mono ?_
  · obtain ⟨h1, h2⟩ := flat_get ps k x hx
    exact ⟨by rw [World.cell?_alloc_new, List.getElem?_toArray]; exact h1, by rw [World.cell?_alloc_new, List.getElem?_toArray]; exact h2⟩
  · rintro e w' ⟨v, he, hm⟩
    exact ⟨v, he, hm.after ((Below.refl _ w).alloc (Nat.le_refl _) _)⟩
theorem psd_any (src dst proto size : Int) (w : World) :
    Calls Try.prog 27 #[.int .i64 src, .int .i64 dst, .int .i64 proto, .int .i64 size] w fun e w' => ∃ v, e = .returned v ∧ Made w w' v (psd src dst proto size) := by
  have HB := Lib.hid (putL_psd src dst proto size)
  go_enter Try.func27, Try.ntmps27
  go_wp2_with (go_at_call 50; refine (put7_new [(src, 4), (dst, 4), (0, 1), (proto, 1), (size, 2)] _ 5 _ _ w (by rfl) (by rfl) (by simp) (by simp) HB).mono ?_; rintro e w1 ⟨v, rfl, hm⟩)
  go_ret
  exact ⟨v, rfl, hm⟩
end Go.Proofs.Ytodlfdnegcfhcaa

/-
  Contracts of layer 7's Check, numbers and Same, the program's and the document's; of the document's mod and Pseudo. Conditions are each theorem's own.
-/
namespace Go.Proofs.Ytodlfdnegcfhcaa
open Go.RowKit

theorem mod_val (n m : Int) (h0 : 0 < m) (h1 : m ≤ 4294967296) : (wrap64 (n.tmod m + m)).tmod m = n % m := by
  have hlt := Int.tmod_lt_of_pos n h0
  have hgt : -m < n.tmod m := by
    have := Int.tmod_lt_of_pos (-n) h0
    rw [Int.neg_tmod] at this; omega
  have e1 : wrap64 (n.tmod m + m) = n.tmod m + m := by unfold wrap64; omega
  rw [e1, Int.tmod_eq_emod_of_nonneg (by omega), Int.add_emod_right]
  have h2 : n = m * (n.tdiv m) + n.tmod m := (Int.mul_tdiv_add_tmod n m).symm
  conv => rhs; rw [h2]
  rw [Int.add_comm, Int.add_mul_emod_self_left]
section
variable (q : PU) (A : Option Addr) (c : Nat) (w : World)
theorem argU_iff (q : PU) : argU q ↔ (fitsB q.src 2 = true ∧ fitsB q.dst 2 = true) := by
  rw [fitsB_iff, fitsB_iff, pw2, argU]; omega
def numsU (q : PU) : List Int := [q.src, q.dst]
end
theorem sameU_nums (q r : PU) : sameU q r = (decide (numsU q = numsU r) && (q.nosum == r.nosum) && decide (q.dat = r.dat)) := by
  rw [sameU, Bool.eq_iff_iff]; simp [numsU, and_assoc]
section
variable (q r : PU) (A : Option Addr) (c : Nat) (X : Option Addr) (d B : Nat) (w : World)
end
end Go.Proofs.Ytodlfdnegcfhcaa

/-
  Contracts of layer 7's check and Build, the program's and the document's. Conditions are each theorem's own.
-/
namespace Go.Proofs.Ytodlfdnegcfhcaa
open Go.RowKit

theorem Rd2.two {w : World} {B g t n0 n1 : Nat} {A0 A1 : Option Addr} {c0 c1 : Nat} {b0 b1 : List UInt8} (h0 : n0 = b0.length) (h1 : n1 = b1.length)
    (hg : w.heap[g]? = some (.cells #[.slice A0 n0 c0, .slice A1 n1 c1] t (0, 0))) (hB : g < B) (a0 : Arg w B A0 c0 b0) (a1 : Arg w B A1 c1 b1) : Rd2 w B (some ⟨g, 0, none⟩) [b0, b1] := by
  subst h0; subst h1
  refine Rd2.of_cells hg hB fun j b hj => ?_
  match j, hj with
  | 0, hj => simp at hj; subst hj; exact ⟨A0, c0, rfl, a0⟩
  | 1, hj => simp at hj; subst hj; exact ⟨A1, c1, rfl, a1⟩
  | j + 2, hj => simp at hj
theorem bulk2 (a b : List UInt8) : bulk [a, b] = a.length + b.length := by simp [bulk]
theorem right_two (A : Option Addr) (a b : List UInt8) (c B : Nat) (N : Bool) (hN : Hid (N = rightB [a, b])) (w : World) (h : Rd2 w B A [a, b]) (hB : B ≤ w.heap.size) (hl : a.length + b.length ≤ 1099511627000) :
    Calls Try.prog 26 #[.slice A 2 c] w fun e w' => e = .returned (.bool N) ∧ Below w.heap.size w w' := by
  have h1 := right_any A [a, b] c B w h hB (by rw [bulk2]; omega) (by simp)
  rw [← hN.out] at h1
  exact h1
theorem rright_two (A : Option Addr) (a b : List UInt8) (c B : Nat) (N : Bool) (hN : Hid (N = rightB [a, b])) (w : World) (h : Rd2 w B A [a, b]) (hl : a.length + b.length ≤ 1099511627000) :
    Calls Try.prog 22 #[.slice A 2 c] w fun e w' => e = .returned (.bool N) ∧ ∃ n, w' = w.drewN n := by
  have h1 := rright_any A [a, b] c B w h (by rw [bulk2]; omega) (by simp)
  rw [← hN.out] at h1
  exact h1
section
variable (q : PU) (A : Option Addr) (c : Nat) (src dst : Int) (w : World)
end
end Go.Proofs.Ytodlfdnegcfhcaa

/-
  Contracts of the document's Build of layer 7, and of udp's reader. Conditions are each theorem's own.
-/
namespace Go.Proofs.Ytodlfdnegcfhcaa
open Go.RowKit

section
variable (q : PU) (A : Option Addr) (c : Nat) (src dst : Int) (w : World)
end
/-- What a reader holds: its bytes, and where it is. -/
def RdrS (W : World) (g : Nat) (A : Option Addr) (n c : Nat) (k : Int) : Prop := W.heap[g]? = some (.cells #[.slice A n c] 22 (0, 0)) ∧ W.heap[g + 1]? = some (.cells #[.int .i64 k] 3 (0, 0))
theorem cUreader (A : Option Addr) (n c : Nat) (w : World) :
    Calls Try.prog 57 #[.slice A n c] w fun e w' => e = .returned (.func (.func 71) #[] #[.pointer (some ⟨w.heap.size, 0, none⟩), .pointer (some ⟨w.heap.size + 1, 0, none⟩)]) ∧ RdrS w' w.heap.size A n c 0 ∧ Below w.heap.size w w' ∧ w'.heap.size = w.heap.size + 2 := by
  have hst : RdrS ((w.alloc (.cells #[.slice A n c] 22)).alloc (.cells #[.int .i64 0] 3)) w.heap.size A n c 0 := by
    refine ⟨(Below.heap_alloc (w.alloc (.cells #[.slice A n c] 22)) _ w.heap.size (by simp)).trans (World.alloc_heap_new w _), ?_⟩
    have := World.alloc_heap_new (w.alloc (.cells #[.slice A n c] 22)) (.cells #[.int .i64 0] 3)
    rwa [World.size_alloc] at this
  have hbb : Below w.heap.size w ((w.alloc (.cells #[.slice A n c] 22)).alloc (.cells #[.int .i64 0] 3)) := ((Below.refl _ w).alloc (Nat.le_refl _) _).alloc (by simp) _
  have hmf : ∀ (fn : Fn) (first cap : Array Value) (w : World), (Instr.makeFunc fn first cap).run Try.prog w = .ok (.func fn first cap) w := fun _ _ _ _ => rfl
  go_enter Try.func57, Try.ntmps57
  go_wp2_with fail
  go_ret
  exact ⟨rfl, hst, hbb, by simp⟩
theorem cUnext (g : Nat) (A : Option Addr) (b : List UInt8) (c B : Nat) (k s : Int) (w : World) (hst : RdrS w g A b.length c k) (hR : Rd w B A b) (hl : b.length ≤ 1000000) (hc : b.length ≤ c) (hk : 0 ≤ k ∧ k ≤ 1000000) (hs : 0 ≤ s ∧ s ≤ 1000000) :
    Calls Try.prog 71 #[.int .i64 s, .pointer (some ⟨g, 0, none⟩), .pointer (some ⟨g + 1, 0, none⟩)] w fun e w' => e = .returned (.int .i64 (getV b k s)) ∧ RdrS w' g A b.length c (k + s) ∧ w.grownBy w' (some (g + 1)) := by
  obtain ⟨hst1, hst2⟩ := hst
  have k1 : w.cell? ⟨g, 0, none⟩ = some (.slice A b.length c) := by rw [cell_of_row w g 0 _ _ _ hst1]; rfl
  have k2 : w.cell? ⟨g + 1, 0, none⟩ = some (.int .i64 k) := by rw [cell_of_row w (g + 1) 0 _ _ _ hst2]; rfl
  have f2 := heap_frozen hst2 0
  have hw := IntWalk.i64_in (k + s) (by omega)
  go_enter Try.func71, Try.ntmps71
  go_wp2_with (go_at_call 19; refine (get_any A b c B k s _ hR (by omega) hc).mono ?_; rintro e w' ⟨rfl, rfl⟩)
  go_ret
  exact ⟨rfl, ⟨(heap_setCell_other w ⟨g + 1, 0, none⟩ g _ (by show g ≠ g + 1; omega)).trans hst1, heap_setCell_same w (g + 1) 0 _ _ (.int .i64 (k + s)) hst2⟩, grown_set (World.grownBy.refl w _) 0 _⟩
end Go.Proofs.Ytodlfdnegcfhcaa

/-
  Contract of udp.Parse. Conditions are each theorem's own.
-/
namespace Go.Proofs.Ytodlfdnegcfhcaa
open Go.RowKit

theorem RdrS.alloc {w : World} {g n c : Nat} {A : Option Addr} {k : Int} (h : RdrS w g A n c k) (o : Obj) : RdrS (w.alloc o) g A n c k :=
  ⟨(Below.heap_alloc w o g (heap_lt h.1)).trans h.1, (Below.heap_alloc w o (g + 1) (heap_lt h.2)).trans h.2⟩
section
variable (b : List UInt8) (A : Option Addr) (c : Nat) (src dst : Int) (w : World)
set_option maxRecDepth 100000 in
set_option maxHeartbeats 2000000 in
theorem cUparse (B : Nat) (hR : Arg w B A c b) (hB : B ≤ w.heap.size) (hl : b.length ≤ 1000000) :
    Calls Try.prog 36 #[.int .i64 src, .int .i64 dst, .slice A b.length c] w fun e w' => ∃ P p, e = .returned (.tuple #[usv (prsU src dst b) P p, .int .i64 (badU src dst b)]) ∧ Made w w' (.slice P (prsU src dst b).dat.length p) (prsU src dst b).dat := by
  have hBW : Below w.heap.size w (w.alloc (.cells (usa usz none 0) 78)) := (Below.refl w.heap.size w).alloc (Nat.le_refl _) _
  have hg := World.alloc_heap_new w (.cells (usa usz none 0) 78)
  have hz : w.heap.size < (w.alloc (.cells (usa usz none 0) 78)).heap.size := by simp
  have hcap := hR.cap
  go_enter Try.func36, Try.ntmps36
  go_upto_region 1 with fail
  rw [show #[.int .i64 0, .int .i64 0, .bool false, .slice none 0 0] = usa usz none 0 from rfl]
  generalize w.alloc (.cells (usa usz none 0) 78) = W at *
  have hR1 := hR.below (hBW.mono hB)
  by_cases h8 : b.length < 8
  · have d8 : decide ((b.length : Int) < 8) = true := by simp; omega
    have HE := Lib.hid (show badU src dst b = 3 by rw [badU, if_pos h8])
    have HV := Lib.hid (show prsU src dst b = usz by rw [prsU, HE.out]; rfl)
    go_wp2_with (first | ((with_reducible show wpList _ _ _ (Oper.mk _ (Op.store 78 _ _) _ _ _ _ :: _) _ _); refine us_store (g := w.heap.size) (cs := usa usz none 0) rfl rfl hg rfl rfl (us_one _ _ _) ?_))
    exact bodyPost_ret (res2 rfl rfl (us_load_run (setRow_heap _ _ _ _ _ _ hg) rfl)) rfl ⟨none, 0, by rw [HV.out, HE.out]; rfl, by rw [HV.out]; exact Made.nil _ _ (below_row hBW (Nat.le_refl _))⟩
  · have d8 : decide ((b.length : Int) < 8) = false := by simp; omega
    have HX0 := Lib.hid (show n2 b 0 = n2 b 0 from rfl)
    have G0 := Lib.hid (show getV b 0 2 = n2 b 0 from get_two (b := b) (i := 0) (by omega))
    have G2 := Lib.hid (show getV b 2 2 = n2 b 2 from get_two (b := b) (i := 2) (by omega))
    have G4 := Lib.hid (show getV b 4 2 = n2 b 4 from get_two (b := b) (i := 4) (by omega))
    have G6 := Lib.hid (show getV b 6 2 = n2 b 6 from get_two (b := b) (i := 6) (by omega))
    obtain ⟨X0, hX0⟩ : ∃ n, n = n2 b 0 := ⟨_, rfl⟩
    obtain ⟨X2, hX2⟩ : ∃ n, n = n2 b 2 := ⟨_, rfl⟩
    obtain ⟨Z4, hZ4⟩ : ∃ n, n = n2 b 4 := ⟨_, rfl⟩
    obtain ⟨Z, hZ⟩ : ∃ n, n = n2 b 6 := ⟨_, rfl⟩
    obtain ⟨D, hD⟩ : ∃ l, l = b.drop 8 := ⟨_, rfl⟩
    clear HX0
    rw [← hX0] at G0
    rw [← hX2] at G2
    rw [← hZ4] at G4
    rw [← hZ] at G6
    have HX0 := Lib.hid hX0.symm; have HX2 := Lib.hid hX2.symm; have HX4 := Lib.hid hZ4.symm; have HX6 := Lib.hid hZ.symm
    have HDd := Lib.hid hD
    have HDl := Lib.hid (show D.length = b.length - 8 by rw [hD, List.length_drop])
    clear hX0 hX2 hZ4 hZ hD
    go_upto_region 4 with (go_at_call 57; refine (cUreader A b.length c _).mono ?_; rintro e w1 ⟨rfl, st1, x1, z1'⟩; have z1 := Nat.le_of_eq z1'.symm; clear z1')
    have hR2 := (hR1.below (x1.mono (by omega))).rd
    go_upto_region 5 with (first
      | (go_at_call 71; ((with_reducible refine (cUnext W.heap.size A b c B 0 2 _ st1 hR2 hl hcap (by omega) (by omega)).mono ?_); rintro e w2 ⟨rfl, st2, y2⟩; rw [show getV b 0 2 = X0 from G0.out]; have hR3 := hR2.grown y2 (by omega) (fun k e => by cases e; omega); have st2 : RdrS w2 W.heap.size A b.length c 2 := st2; have z2 := y2.size))
      | (go_at_call 71; ((with_reducible refine (cUnext W.heap.size A b c B 2 2 _ st2 hR3 hl hcap (by omega) (by omega)).mono ?_); rintro e w3 ⟨rfl, st3, y3⟩; rw [show getV b 2 2 = X2 from G2.out]; have hR4 := hR3.grown y3 (by omega) (fun k e => by cases e; omega); have st3 : RdrS w3 W.heap.size A b.length c 4 := st3; have z3 := y3.size))
      | ((with_reducible show wpList _ _ _ (Oper.mk _ (Op.store _ _ _) _ _ _ _ :: _) _ _); refine us_store_new (cs := usa ⟨X0, X2, false, []⟩ none 0) rfl rfl rfl rfl (us_one _ _ _) ?_))
    have stV := st3.alloc (.cells (usa ⟨X0, X2, false, []⟩ none 0) 78)
    have hVu := World.alloc_heap_new w3 (.cells (usa ⟨X0, X2, false, []⟩ none 0) 78)
    have hRV := hR4.alloc (by omega) (.cells (usa ⟨X0, X2, false, []⟩ none 0) 78)
    have hVr := (Below.heap_alloc w3 (.cells (usa ⟨X0, X2, false, []⟩ none 0) 78) w.heap.size (by omega)).trans ((y3.block w.heap.size (by omega) (by simp; omega)).trans ((y2.block w.heap.size (by omega) (by simp; omega)).trans ((x1.block w.heap.size (by omega)).trans hg)))
    have hbV : Below w.heap.size w (w3.alloc (.cells (usa ⟨X0, X2, false, []⟩ none 0) 78)) := ((((hBW.trans (x1.mono (by omega))).grown y2 (by omega) (fun k e => by cases e; omega)).grown y3 (by omega) (fun k e => by cases e; omega)).alloc (by omega) _)
    have zV := heap_lt hVu
    generalize w3.alloc (.cells (usa ⟨X0, X2, false, []⟩ none 0) 78) = V at *
    obtain ⟨U, hUU⟩ : ∃ U, U = w3.heap.size := ⟨_, rfl⟩
    rw [← hUU] at hVu zV ⊢
    have hUW : W.heap.size + 2 ≤ U := by omega
    clear hUU y2 y3 st1 st2 st3 hR1 hR2 hR3 hR4 x1 hg z2 z3 z1
    by_cases hz0 : Z = 0
    · skip
      have HNS : decide (Z = 0) = true := by simpa using hz0
      have e0 : (Z == 0) = true := HNS
      have HZ0 := Lib.hid hz0
      clear hz0
      go_upto_region 7 with (first
        | (go_at_call 71; ((with_reducible refine (cUnext W.heap.size A b c B 4 2 _ stV hRV hl hcap (by omega) (by omega)).mono ?_); rintro e w4 ⟨rfl, st4, y4⟩; rw [show getV b 4 2 = Z4 from G4.out]; have hR4 := hRV.grown y4 (by omega) (fun k e => by cases e; omega); have st4 : RdrS w4 W.heap.size A b.length c 6 := st4; have z4 := y4.size))
        | (go_at_call 71; ((with_reducible refine (cUnext W.heap.size A b c B 6 2 _ st4 hR4 hl hcap (by omega) (by omega)).mono ?_); rintro e w5 ⟨rfl, st5, y5⟩; rw [show getV b 6 2 = Z from G6.out]; have hU5 := (y5.block U (by omega) (by simp; omega)).trans ((y4.block U (by omega) (by simp; omega)).trans hVu); have k5 : w5.cell? ⟨U, 2, none⟩ = some (.bool false) := by { rw [cell_of_row _ _ _ _ _ _ hU5]; rfl }; have f5 := frozen_of_row w5 U 2 _ _ hU5)))
      have hU6 := heap_setCell_same w5 U 2 _ _ (.bool true) hU5
      have hU : (w5.setCell ⟨U, 2, none⟩ (.bool true)).heap[U]? = some (.cells (usa ⟨X0, X2, true, []⟩ none 0) 78 (0, 0)) := hU6
      have hR5 := (hR4.grown y5 (by omega) (fun k e => by cases e; omega))
      have z5 := y5.size
      have hbel5 : Below w.heap.size w w5 := ((hbV.grown y4 (by omega) (fun k e => by cases e; omega)).grown y5 (by omega) (fun k e => by cases e; omega))
      have hbel : Below w.heap.size w (w5.setCell ⟨U, 2, none⟩ (.bool true)) := hbel5.setCell (p := ⟨U, 2, none⟩) (by show w.heap.size ≤ U; omega) _
      have hRes := (heap_setCell_other w5 ⟨U, 2, none⟩ w.heap.size (.bool true) (by show w.heap.size ≠ U; omega)).trans ((y5.block w.heap.size (by omega) (by simp; omega)).trans ((y4.block w.heap.size (by omega) (by simp; omega)).trans hVr))
      have hUlt : U < (w5.setCell ⟨U, 2, none⟩ (.bool true)).heap.size := heap_lt hU
      generalize w5.setCell ⟨U, 2, none⟩ (.bool true) = V7 at *
      have hR7 := hR.below (hbel.mono hB)
      have k2 := (Atus.of_heap hU).nosum
      clear y4 y5 k5 f5 hU5 hU6 st4 st5 hR4 hR5 stV hRV hVu hVr hbV hbel5
      rcases Int.lt_trichotomy (b.length : Int) Z4 with s1 | s1 | s1
      · have d1 : decide ((b.length : Int) < Z4) = true := by simpa using s1
        have HE := Lib.hid (show badU src dst b = 3 by rw [badU, if_neg h8, if_pos (by rw [HX4.out]; exact s1)])
        have HV := Lib.hid (show prsU src dst b = usz by rw [prsU, HE.out]; rfl)
        go_wp2_with (first | ((with_reducible show wpList _ _ _ (Oper.mk _ (Op.store 78 _ _) _ _ _ _ :: _) _ _); refine us_store (g := w.heap.size) (cs := usa usz none 0) rfl rfl hRes rfl rfl (us_one _ _ _) ?_))
        exact bodyPost_ret (res2 rfl rfl (us_load_run (setRow_heap _ _ _ _ _ _ hRes) rfl)) rfl ⟨none, 0, by rw [HV.out, HE.out]; rfl, by rw [HV.out]; exact Made.nil _ _ (below_row hbel (Nat.le_refl _))⟩
      · have d1 : decide ((b.length : Int) < Z4) = false := by simp; omega
        have d2 : decide (Z4 < (b.length : Int)) = false := by simp; omega
        have HE := Lib.hid (show badU src dst b = 0 by rw [badU, if_neg h8, if_neg (by rw [HX4.out]; omega), if_neg (by rw [HX4.out]; omega), if_neg (by rw [HX6.out]; intro h; exact h.1 HZ0.out)])
        have hDD := hR7.cut_lo 8
        rw [← HDd.out] at hDD
        have HV := Lib.hid (show prsU src dst b = ⟨X0, X2, true, D⟩ by rw [prsU, if_pos HE.out, rawU, HX0.out, HX2.out, HX6.out, HNS, HDd.out])
        go_upto_region 14 with (first
          | ((with_reducible show wpList _ _ _ (Oper.mk _ (Op.slice _ _ _ _ _) _ _ _ _ :: _) _ _); (refine wpList_val rfl (run_cut_l rfl rfl (l := 8) rfl (by omega) (m := D.length) (by have := HDl.out; omega)) ?_))
          | (at_builtin; refine append_rd rfl _ _ rfl V7.heap.size (.slice none 0 0) 0 [] rfl (World.ownsRow_nil _ _ _ _) B (cutA A c 8) (c - 8) D rfl hDD.none_ hDD.rd (by have := HDl.out; omega) (Nat.le_refl _) ?_; intro v8 w8 own8 grow8; obtain ⟨P, p, rfl, owm8⟩ := own_made (bs := D) own8 (by simp) (by simp); have x8 : Below V7.heap.size V7 w8 := (Below.refl V7.heap.size V7).grown grow8 (Nat.le_refl _) (fun k hk => by cases hk); have hU8 := (x8.block U hUlt).trans hU; have k8 : w8.cell? ⟨U, 3, none⟩ = some (.slice none 0 0) := by { rw [cell_of_row _ _ _ _ _ _ hU8]; rfl }; have f8 := frozen_of_row w8 U 3 _ _ hU8))
        have hU9 := heap_setCell_same w8 U 3 _ _ (.slice P D.length p) hU8
        have hU9 : (w8.setCell ⟨U, 3, none⟩ (.slice P D.length p)).heap[U]? = some (.cells (usa ⟨X0, X2, true, D⟩ P p) 78 (0, 0)) := hU9
        have hr8 := (heap_setCell_other w8 ⟨U, 3, none⟩ w.heap.size (.slice P D.length p) (by show w.heap.size ≠ U; omega)).trans ((x8.block w.heap.size (by omega)).trans hRes)
        have x9 : Below w.heap.size w (w8.setCell ⟨U, 3, none⟩ (.slice P D.length p)) := (hbel.trans (x8.mono (by omega))).setCell (p := ⟨U, 3, none⟩) (by show w.heap.size ≤ U; omega) _
        have o9 := own_setRow (own_setCell owm8 (p := ⟨U, 3, none⟩) (u := .slice P D.length p) hUlt) (g := w.heap.size) (cs := usa ⟨X0, X2, true, D⟩ P p) (by omega)
        have at9 := Atus.of_heap hU9
        clear k8 f8 hU8 hU9
        go_wp2_with (first
          | ((with_reducible show wpList _ _ _ (Oper.mk _ (Op.load 78 _) _ _ _ _ :: _) _ _); refine wpList_val rfl (run_load_us rfl rfl at9 rfl) ?_)
          | ((with_reducible show wpList _ _ _ (Oper.mk _ (Op.store 78 _ _) _ _ _ _ :: _) _ _); refine us_store (g := w.heap.size) (cs := usa ⟨X0, X2, true, D⟩ P p) rfl rfl hr8 rfl rfl (us_one _ _ _) ?_))
        exact bodyPost_ret (res2 rfl rfl (us_load_run (setRow_heap _ _ _ _ _ _ hr8) rfl)) rfl ⟨P, p, by rw [HV.out, HE.out]; rfl, by rw [HV.out]; exact Made.of_own (own_base o9 (by omega)) (below_row x9 (Nat.le_refl _))⟩
      · have d1 : decide ((b.length : Int) < Z4) = false := by simp; omega
        have d2 : decide (Z4 < (b.length : Int)) = true := by simpa using s1
        have HE := Lib.hid (show badU src dst b = 4 by rw [badU, if_neg h8, if_neg (by rw [HX4.out]; omega), if_pos (by rw [HX4.out]; exact s1)])
        have HV := Lib.hid (show prsU src dst b = usz by rw [prsU, HE.out]; rfl)
        go_wp2_with (first | ((with_reducible show wpList _ _ _ (Oper.mk _ (Op.store 78 _ _) _ _ _ _ :: _) _ _); refine us_store (g := w.heap.size) (cs := usa usz none 0) rfl rfl hRes rfl rfl (us_one _ _ _) ?_))
        exact bodyPost_ret (res2 rfl rfl (us_load_run (setRow_heap _ _ _ _ _ _ hRes) rfl)) rfl ⟨none, 0, by rw [HV.out, HE.out]; rfl, by rw [HV.out]; exact Made.nil _ _ (below_row hbel (Nat.le_refl _))⟩
    · skip
      have HNS : decide (Z = 0) = false := by simpa using hz0
      have e0 : (Z == 0) = false := HNS
      have HZ0 := Lib.hid hz0
      clear hz0
      go_upto_region 7 with (first
        | (go_at_call 71; ((with_reducible refine (cUnext W.heap.size A b c B 4 2 _ stV hRV hl hcap (by omega) (by omega)).mono ?_); rintro e w4 ⟨rfl, st4, y4⟩; rw [show getV b 4 2 = Z4 from G4.out]; have hR4 := hRV.grown y4 (by omega) (fun k e => by cases e; omega); have st4 : RdrS w4 W.heap.size A b.length c 6 := st4; have z4 := y4.size))
        | (go_at_call 71; ((with_reducible refine (cUnext W.heap.size A b c B 6 2 _ st4 hR4 hl hcap (by omega) (by omega)).mono ?_); rintro e w5 ⟨rfl, st5, y5⟩; rw [show getV b 6 2 = Z from G6.out]; have hU5 := (y5.block U (by omega) (by simp; omega)).trans ((y4.block U (by omega) (by simp; omega)).trans hVu); have k5 : w5.cell? ⟨U, 2, none⟩ = some (.bool false) := by { rw [cell_of_row _ _ _ _ _ _ hU5]; rfl }; have f5 := frozen_of_row w5 U 2 _ _ hU5)))
      have hU6 := heap_setCell_same w5 U 2 _ _ (.bool false) hU5
      have hU : (w5.setCell ⟨U, 2, none⟩ (.bool false)).heap[U]? = some (.cells (usa ⟨X0, X2, false, []⟩ none 0) 78 (0, 0)) := hU6
      have hR5 := (hR4.grown y5 (by omega) (fun k e => by cases e; omega))
      have z5 := y5.size
      have hbel5 : Below w.heap.size w w5 := ((hbV.grown y4 (by omega) (fun k e => by cases e; omega)).grown y5 (by omega) (fun k e => by cases e; omega))
      have hbel : Below w.heap.size w (w5.setCell ⟨U, 2, none⟩ (.bool false)) := hbel5.setCell (p := ⟨U, 2, none⟩) (by show w.heap.size ≤ U; omega) _
      have hRes := (heap_setCell_other w5 ⟨U, 2, none⟩ w.heap.size (.bool false) (by show w.heap.size ≠ U; omega)).trans ((y5.block w.heap.size (by omega) (by simp; omega)).trans ((y4.block w.heap.size (by omega) (by simp; omega)).trans hVr))
      have hUlt : U < (w5.setCell ⟨U, 2, none⟩ (.bool false)).heap.size := heap_lt hU
      generalize w5.setCell ⟨U, 2, none⟩ (.bool false) = V7 at *
      have hR7 := hR.below (hbel.mono hB)
      have k2 := (Atus.of_heap hU).nosum
      clear y4 y5 k5 f5 hU5 hU6 st4 st5 hR4 hR5 stV hRV hVu hVr hbV hbel5
      rcases Int.lt_trichotomy (b.length : Int) Z4 with s1 | s1 | s1
      · have d1 : decide ((b.length : Int) < Z4) = true := by simpa using s1
        have HE := Lib.hid (show badU src dst b = 3 by rw [badU, if_neg h8, if_pos (by rw [HX4.out]; exact s1)])
        have HV := Lib.hid (show prsU src dst b = usz by rw [prsU, HE.out]; rfl)
        go_wp2_with (first | ((with_reducible show wpList _ _ _ (Oper.mk _ (Op.store 78 _ _) _ _ _ _ :: _) _ _); refine us_store (g := w.heap.size) (cs := usa usz none 0) rfl rfl hRes rfl rfl (us_one _ _ _) ?_))
        exact bodyPost_ret (res2 rfl rfl (us_load_run (setRow_heap _ _ _ _ _ _ hRes) rfl)) rfl ⟨none, 0, by rw [HV.out, HE.out]; rfl, by rw [HV.out]; exact Made.nil _ _ (below_row hbel (Nat.le_refl _))⟩
      · have d1 : decide ((b.length : Int) < Z4) = false := by simp; omega
        have d2 : decide (Z4 < (b.length : Int)) = false := by simp; omega
        have hDD := hR7.cut_lo 8
        rw [← HDd.out] at hDD
        have HRT := Lib.hid (show rightB [psd src dst 17 Z4, b] = rightB [psd src dst 17 Z4, b] from rfl)
        obtain ⟨N, hN⟩ : ∃ n, n = rightB [psd src dst 17 Z4, b] := ⟨_, rfl⟩
        have HN := Lib.hid hN
        have HBD := Lib.hid (show badU src dst b = if N = false then 5 else 0 by rw [badU, if_neg h8, if_neg (by rw [HX4.out]; omega), if_neg (by rw [HX4.out]; omega), HX6.out, HX4.out, ← hN]; simp [HZ0.out])
        clear hN HRT
        cases N
        · have HE := Lib.hid (show badU src dst b = 5 by rw [HBD.out]; rfl)
          have HV := Lib.hid (show prsU src dst b = usz by rw [prsU, HE.out]; rfl)
          go_wp2_with (first | ((with_reducible show wpList _ _ _ (Oper.mk _ (Op.store 78 _ _) _ _ _ _ :: _) _ _); refine us_store (g := w.heap.size) (cs := usa usz none 0) rfl rfl hRes' rfl rfl (us_one _ _ _) ?_) | (go_at_call 27; refine (psd_any src dst 17 Z4 _).mono ?_; rintro e wp ⟨vp, rfl, mp⟩; obtain ⟨Ap, cp, rfl, gp, op, xp⟩ := made_shape mp) | (go_at_call 26; refine (right_two (some ⟨wp.heap.size, 0, none⟩) (psd src dst 17 Z4) b 2 (wp.heap.size + 1) _ HN _ (Rd2.two rfl rfl (World.alloc_heap_new wp _) (Nat.lt_succ_self _) ((gp.alloc (Nat.le_refl _) _).more (Nat.le_succ _)) (((hR7.below (xp.mono (by omega))).alloc (by have := xp.size; omega) _).more (by have := xp.size; omega))) (by simp) (by rw [psd_len]; omega)).mono ?_; rintro e wq ⟨rfl, xq⟩; have xpq : Below V7.heap.size V7 wq := (xp.alloc xp.size _).trans (xq.mono (by have := xp.size; simp; omega)); have hRes' := (xpq.block w.heap.size (by omega)).trans hRes))
          exact bodyPost_ret (res2 rfl rfl (us_load_run (setRow_heap _ _ _ _ _ _ hRes') rfl)) rfl ⟨none, 0, by rw [HV.out, HE.out]; rfl, by rw [HV.out]; exact Made.nil _ _ (below_row (hbel.trans (xpq.mono (by omega))) (Nat.le_refl _))⟩
        · have HE := Lib.hid (show badU src dst b = 0 by rw [HBD.out]; rfl)
          go_upto_region 13 with (first | (go_at_call 27; refine (psd_any src dst 17 Z4 _).mono ?_; rintro e wp ⟨vp, rfl, mp⟩; obtain ⟨Ap, cp, rfl, gp, op, xp⟩ := made_shape mp) | (go_at_call 26; refine (right_two (some ⟨wp.heap.size, 0, none⟩) (psd src dst 17 Z4) b 2 (wp.heap.size + 1) _ HN _ (Rd2.two rfl rfl (World.alloc_heap_new wp _) (Nat.lt_succ_self _) ((gp.alloc (Nat.le_refl _) _).more (Nat.le_succ _)) (((hR7.below (xp.mono (by omega))).alloc (by have := xp.size; omega) _).more (by have := xp.size; omega))) (by simp) (by rw [psd_len]; omega)).mono ?_; rintro e wq ⟨rfl, xq⟩; have xpq : Below V7.heap.size V7 wq := (xp.alloc xp.size _).trans (xq.mono (by have := xp.size; simp; omega)); have hRes' := (xpq.block w.heap.size (by omega)).trans hRes))
          have hDq := hDD.below (xpq.mono (by omega))
          have hUq := (xpq.block U hUlt).trans hU
          have hbq := hbel.trans (xpq.mono (by omega))
          have hlq := heap_lt hUq
          clear hDD hU hbel hUlt hRes hR7 k2
          clear xp xq xpq mp gp op
          have HV := Lib.hid (show prsU src dst b = ⟨X0, X2, false, D⟩ by rw [prsU, if_pos HE.out, rawU, HX0.out, HX2.out, HX6.out, HNS, HDd.out])
          go_upto_region 14 with (first
            | ((with_reducible show wpList _ _ _ (Oper.mk _ (Op.slice _ _ _ _ _) _ _ _ _ :: _) _ _); (refine wpList_val rfl (run_cut_l rfl rfl (l := 8) rfl (by omega) (m := D.length) (by have := HDl.out; omega)) ?_))
            | (at_builtin; refine append_rd rfl _ _ rfl wq.heap.size (.slice none 0 0) 0 [] rfl (World.ownsRow_nil _ _ _ _) B (cutA A c 8) (c - 8) D rfl hDq.none_ hDq.rd (by have := HDl.out; omega) (Nat.le_refl _) ?_; intro v8 w8 own8 grow8; obtain ⟨P, p, rfl, owm8⟩ := own_made (bs := D) own8 (by simp) (by simp); have x8 : Below wq.heap.size wq w8 := (Below.refl wq.heap.size wq).grown grow8 (Nat.le_refl _) (fun k hk => by cases hk); have hU8 := (x8.block U hlq).trans hUq; have k8 : w8.cell? ⟨U, 3, none⟩ = some (.slice none 0 0) := by { rw [cell_of_row _ _ _ _ _ _ hU8]; rfl }; have f8 := frozen_of_row w8 U 3 _ _ hU8))
          have hU9 := heap_setCell_same w8 U 3 _ _ (.slice P D.length p) hU8
          have hU9 : (w8.setCell ⟨U, 3, none⟩ (.slice P D.length p)).heap[U]? = some (.cells (usa ⟨X0, X2, false, D⟩ P p) 78 (0, 0)) := hU9
          have hr8 := (heap_setCell_other w8 ⟨U, 3, none⟩ w.heap.size (.slice P D.length p) (by show w.heap.size ≠ U; omega)).trans ((x8.block w.heap.size (by omega)).trans hRes')
          have x9 : Below w.heap.size w (w8.setCell ⟨U, 3, none⟩ (.slice P D.length p)) := (hbq.trans (x8.mono (by omega))).setCell (p := ⟨U, 3, none⟩) (by show w.heap.size ≤ U; omega) _
          have o9 := own_setRow (own_setCell owm8 (p := ⟨U, 3, none⟩) (u := .slice P D.length p) hlq) (g := w.heap.size) (cs := usa ⟨X0, X2, false, D⟩ P p) (by omega)
          have at9 := Atus.of_heap hU9
          clear k8 f8 hU8 hU9
          go_wp2_with (first
            | ((with_reducible show wpList _ _ _ (Oper.mk _ (Op.load 78 _) _ _ _ _ :: _) _ _); refine wpList_val rfl (run_load_us rfl rfl at9 rfl) ?_)
            | ((with_reducible show wpList _ _ _ (Oper.mk _ (Op.store 78 _ _) _ _ _ _ :: _) _ _); refine us_store (g := w.heap.size) (cs := usa ⟨X0, X2, false, D⟩ P p) rfl rfl hr8 rfl rfl (us_one _ _ _) ?_))
          exact bodyPost_ret (res2 rfl rfl (us_load_run (setRow_heap _ _ _ _ _ _ hr8) rfl)) rfl ⟨P, p, by rw [HV.out, HE.out]; rfl, by rw [HV.out]; exact Made.of_own (own_base o9 (by omega)) (below_row x9 (Nat.le_refl _))⟩
      · have d1 : decide ((b.length : Int) < Z4) = false := by simp; omega
        have d2 : decide (Z4 < (b.length : Int)) = true := by simpa using s1
        have HE := Lib.hid (show badU src dst b = 4 by rw [badU, if_neg h8, if_neg (by rw [HX4.out]; omega), if_pos (by rw [HX4.out]; exact s1)])
        have HV := Lib.hid (show prsU src dst b = usz by rw [prsU, HE.out]; rfl)
        go_wp2_with (first | ((with_reducible show wpList _ _ _ (Oper.mk _ (Op.store 78 _ _) _ _ _ _ :: _) _ _); refine us_store (g := w.heap.size) (cs := usa usz none 0) rfl rfl hRes rfl rfl (us_one _ _ _) ?_))
        exact bodyPost_ret (res2 rfl rfl (us_load_run (setRow_heap _ _ _ _ _ _ hRes) rfl)) rfl ⟨none, 0, by rw [HV.out, HE.out]; rfl, by rw [HV.out]; exact Made.nil _ _ (below_row hbel (Nat.le_refl _))⟩
end
end Go.Proofs.Ytodlfdnegcfhcaa

/-
  Contract of the document's Parse of layer 7. Conditions are each theorem's own.
-/
namespace Go.Proofs.Ytodlfdnegcfhcaa
open Go.RowKit

section
variable (b : List UInt8) (A : Option Addr) (c : Nat) (src dst : Int) (w : World)
end
end Go.Proofs.Ytodlfdnegcfhcaa

/-
  Layer 7's awake, and what Build answers, in one shape. Conditions are each theorem's own.
-/
namespace Go.Proofs.Ytodlfdnegcfhcaa
open Go.RowKit

def resU (src dst : Int) (q : PU) : List UInt8 := if chkU q = 0 then bldU src dst q else []
theorem resU_shape {src dst : Int} {q : PU} {w w' : World} {v : Value} (h : (chkU q ≠ 0 → v = .slice none 0 0 ∧ Below w.heap.size w w') ∧ (chkU q = 0 → Made w w' v (bldU src dst q))) :
    ∃ P k, v = .slice P (resU src dst q).length k ∧ Rd w' w'.heap.size P (resU src dst q) ∧ Below w.heap.size w w' := by
  by_cases hc : chkU q = 0
  · obtain ⟨A, c, rfl, hl, hr, ho, hb⟩ := h.2 hc
    exact ⟨A, c, by rw [resU, if_pos hc], by rw [resU, if_pos hc]; exact hr, hb⟩
  · obtain ⟨rfl, hb⟩ := h.1 hc
    exact ⟨none, 0, by rw [resU, if_neg hc]; rfl, by rw [resU, if_neg hc]; exact Rd.nil, hb⟩
def qaU : PU := ⟨3, 4, false, [5]⟩
theorem parseU_awake (A : Option Addr) (c B : Nat) (w : World) (h : Arg w B A c (bldU 1 2 qaU)) (hB : B ≤ w.heap.size) :
    Calls Try.prog 36 #[.int .i64 1, .int .i64 2, .slice A 9 c] w fun e w' => ∃ P p, e = .returned (.tuple #[usv qaU P p, .int .i64 0]) ∧ Below w.heap.size w w' := by
  have hlen : (bldU 1 2 qaU).length = 9 := bldU_len 1 2 qaU
  have hk := backU (src := 1) (dst := 2) (q := qaU) (by decide)
  have := cUparse (bldU 1 2 qaU) A c 1 2 w B h hB (by rw [hlen]; decide)
  rw [hk.1, hk.2, hlen] at this
  refine this.mono ?_
  rintro e w' ⟨P, p, rfl, hm⟩
  exact ⟨P, p, rfl, hm.below⟩
theorem psd_twelve (w : World) :
    Calls Try.prog 27 #[.int .i64 1, .int .i64 2, .int .i64 17, .int .i64 9] w fun e w' => ∃ A c, e = .returned (.slice A 12 c) ∧ Below w.heap.size w w' := by
  refine (psd_any 1 2 17 9 w).mono ?_
  rintro e w' ⟨v, rfl, hm⟩
  obtain ⟨A, c, rfl, ha, ho, hb⟩ := made_shape hm
  exact ⟨A, c, by rw [psd_len], hb⟩
end Go.Proofs.Ytodlfdnegcfhcaa
