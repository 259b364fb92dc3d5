/-
  Packets that came in, opened: what a walk is told of each field. Conditions are each theorem's own.
-/
import Derived.Test.YtcfcmnhnijjehaaOpen
import Derived.Test.YtcfcmnhnijjehaaSixQ
import Derived.Test.YtcfcmnhnijjehaaV4M
namespace Go.Proofs.Ytcfcmnhnijjehaa
open Go.RowKit Go.ChangeShapes Go.WideShapes

theorem piece_get {l : List Value} {i : Nat} {x : Value} (h : (l.drop i).take 1 = [x]) : l[i]? = some x := by
  have h0 := congrArg (·[0]?) h
  simpa [List.getElem?_take, List.getElem?_drop] using h0
section
variable {H : Type} {enc : TypeId × Value → H} {P : Program} {w : World} {base : Nat} {t e : TypeId} {v : Value} {d : DataW H} {p : List MemPlace} {x : DataW H × List MemPlace} {n : Nat} {l : List Value}
theorem cell_int {k : IntKind} (ht : P.underlying t = some (.int k)) (h : DataW.trod enc P w 0 (fun _ => true) true n t l = some x) : ∃ m, l = [.int k m] ∧ (Lit.int k m).wf = true := by
  obtain ⟨m, hm, _, hw⟩ := DataW.trod_int ht h
  exact ⟨m, hm, hw⟩
theorem cell_bool (ht : P.underlying t = some .bool) (h : DataW.trod enc P w 0 (fun _ => true) true n t l = some x) : ∃ b, l = [.bool b] := by
  obtain ⟨b, hb, _⟩ := DataW.trod_bool ht h
  exact ⟨b, hb⟩
theorem cell_bytes (ht : P.underlying t = some (.slice e)) (he : P.underlying e = some (.int .u8)) (hc : P.cellsOf e = 1) (h : DataW.trod enc P w 0 (fun _ => true) true n t l = some x) :
    ∃ A c bs, l = [.slice A bs.length c] ∧ Arg w w.heap.size A c bs ∧ c ≤ maxLen := by
  rcases open_ints ht he hc h with ⟨hcs, _⟩ | ⟨y, m, c, zs, hcs, _, hl, hm, hz, _, hcell, hwz⟩
  · exact ⟨none, 0, [], hcs, Arg.nil _ _, Nat.zero_le _⟩
  · obtain ⟨bs, rfl, ha⟩ := arg_of_row (w := w) (a := some y) (len := m) (cap := c) (zs := zs) (.inr ⟨y, rfl, hl, hm, by simpa using hz, hcell, hwz⟩)
    exact ⟨some y, c, bs, hcs, ha, hm⟩
end

/-- A packet's value: where its two slices lie. -/
def v4v (q : P4) (A : Option Addr) (c : Nat) (A' : Option Addr) (c' : Nat) : Value :=
  .agg #[.int .i64 q.tos, .int .i64 q.id, .int .i64 q.off, .int .i64 q.ttl, .int .i64 q.proto, .int .i64 q.src, .int .i64 q.dst, .bool q.df, .bool q.mf, .slice A q.opt.length c, .slice A' q.dat.length c']
/-- Its numbers fit. -/
def P4.fits (q : P4) : Prop := ∀ n ∈ [q.tos, q.id, q.off, q.ttl, q.proto, q.src, q.dst], (Lit.int .i64 n).wf = true
/-- A packet of IPv6, and its value. -/
structure P6 where
  traffic : Int
  flow : Int
  next : Int
  hop : Int
  src : List UInt8
  dst : List UInt8
  dat : List UInt8
def v6l (q : P6) (A : Option Addr) (c : Nat) : List Value := [Value.int .i64 q.traffic, Value.int .i64 q.flow, Value.int .i64 q.next, Value.int .i64 q.hop] ++ row q.src ++ row q.dst ++ [Value.slice A q.dat.length c]
def v6v (q : P6) (A : Option Addr) (c : Nat) : Value := .agg (v6l q A c).toArray
def P6.fits (q : P6) : Prop := ∀ n ∈ [q.traffic, q.flow, q.next, q.hop], (Lit.int .i64 n).wf = true
/-- A fragment header, and its value. -/
structure F6 where
  next : Int
  off : Int
  id : Int
  more : Bool
def frv (q : F6) : Value := .agg #[.int .i64 q.next, .int .i64 q.off, .int .i64 q.id, .bool q.more]
def F6.fits (q : F6) : Prop := ∀ n ∈ [q.next, q.off, q.id], (Lit.int .i64 n).wf = true
section
variable {H : Type} {enc : TypeId × Value → H} {w : World} {base : Nat} {v : Value} {d : DataW H} {p : List MemPlace}
set_option maxRecDepth 100000 in
theorem get_v4 (hv : Value.okWide Try.prog w .any base 24 v) (h : DataW.Trod enc Try.prog w 0 (fun _ => true) true 24 v d p) :
    ∃ q A c A' c', v = v4v q A c A' c' ∧ Arg w w.heap.size A c q.opt ∧ Arg w w.heap.size A' c' q.dat ∧ c ≤ maxLen ∧ c' ≤ maxLen ∧ q.fits := by
  obtain ⟨cs, rfl, hcs⟩ : ∃ cs, v = .agg cs ∧ cs.size = Try.prog.cellsOf 24 := by
    have := hv
    simp only [Value.okWide, Try.underlying24] at this
    obtain ⟨cs, h1, h2, _⟩ := this
    exact ⟨cs, h1, h2⟩
  obtain ⟨fuel, hf⟩ := h
  obtain ⟨xs, n, _, _, hl, hxs, hall⟩ := DataW.trod_struct Try.underlying24 hf
  have hci : Try.prog.cellsOf 3 = 1 := by kernel_rfl
  have hcb : Try.prog.cellsOf 4 = 1 := by kernel_rfl
  have hcy : Try.prog.cellsOf 22 = 1 := by kernel_rfl
  have hcu : Try.prog.cellsOf 5 = 1 := by kernel_rfl
  have hcn : Try.prog.cellsOf 24 = 11 := by kernel_rfl
  obtain ⟨l⟩ := cs
  have hl' : l.length = 11 := by rw [← hcn]; exact hl
  have hall' : ∀ (i : Nat) (f : Field), _ → DataW.trod enc Try.prog w 0 (fun _ => true) true n f.type ((l.drop f.offset).take (Try.prog.cellsOf f.type)) = xs[i]? := hall
  match xs, hxs with
  | [y0, y1, y2, y3, y4, y5, y6, y7, y8, y9, y10], _ =>
    have h0 : DataW.trod enc Try.prog w 0 (fun _ => true) true n 3 ((l.drop 0).take (Try.prog.cellsOf 3)) = some y0 := hall' 0 _ rfl
    rw [hci] at h0
    obtain ⟨a0, e0, f0⟩ := cell_int Try.underlying3 h0
    have h1 : DataW.trod enc Try.prog w 0 (fun _ => true) true n 3 ((l.drop 1).take (Try.prog.cellsOf 3)) = some y1 := hall' 1 _ rfl
    rw [hci] at h1
    obtain ⟨a1, e1, f1⟩ := cell_int Try.underlying3 h1
    have h2 : DataW.trod enc Try.prog w 0 (fun _ => true) true n 3 ((l.drop 2).take (Try.prog.cellsOf 3)) = some y2 := hall' 2 _ rfl
    rw [hci] at h2
    obtain ⟨a2, e2, f2⟩ := cell_int Try.underlying3 h2
    have h3 : DataW.trod enc Try.prog w 0 (fun _ => true) true n 3 ((l.drop 3).take (Try.prog.cellsOf 3)) = some y3 := hall' 3 _ rfl
    rw [hci] at h3
    obtain ⟨a3, e3, f3⟩ := cell_int Try.underlying3 h3
    have h4 : DataW.trod enc Try.prog w 0 (fun _ => true) true n 3 ((l.drop 4).take (Try.prog.cellsOf 3)) = some y4 := hall' 4 _ rfl
    rw [hci] at h4
    obtain ⟨a4, e4, f4⟩ := cell_int Try.underlying3 h4
    have h5 : DataW.trod enc Try.prog w 0 (fun _ => true) true n 3 ((l.drop 5).take (Try.prog.cellsOf 3)) = some y5 := hall' 5 _ rfl
    rw [hci] at h5
    obtain ⟨a5, e5, f5⟩ := cell_int Try.underlying3 h5
    have h6 : DataW.trod enc Try.prog w 0 (fun _ => true) true n 3 ((l.drop 6).take (Try.prog.cellsOf 3)) = some y6 := hall' 6 _ rfl
    rw [hci] at h6
    obtain ⟨a6, e6, f6⟩ := cell_int Try.underlying3 h6
    have h7 : DataW.trod enc Try.prog w 0 (fun _ => true) true n 4 ((l.drop 7).take (Try.prog.cellsOf 4)) = some y7 := hall' 7 _ rfl
    rw [hcb] at h7
    obtain ⟨b7, e7⟩ := cell_bool Try.underlying4 h7
    have h8 : DataW.trod enc Try.prog w 0 (fun _ => true) true n 4 ((l.drop 8).take (Try.prog.cellsOf 4)) = some y8 := hall' 8 _ rfl
    rw [hcb] at h8
    obtain ⟨b8, e8⟩ := cell_bool Try.underlying4 h8
    have h9 : DataW.trod enc Try.prog w 0 (fun _ => true) true n 22 ((l.drop 9).take (Try.prog.cellsOf 22)) = some y9 := hall' 9 _ rfl
    rw [hcy] at h9
    obtain ⟨A9, c9, o9, e9, f9, g9⟩ := cell_bytes Try.underlying22 Try.underlying5 hcu h9
    have h10 : DataW.trod enc Try.prog w 0 (fun _ => true) true n 22 ((l.drop 10).take (Try.prog.cellsOf 22)) = some y10 := hall' 10 _ rfl
    rw [hcy] at h10
    obtain ⟨A10, c10, d10, e10, f10, g10⟩ := cell_bytes Try.underlying22 Try.underlying5 hcu h10
    have k0 := piece_get e0
    have k1 := piece_get e1
    have k2 := piece_get e2
    have k3 := piece_get e3
    have k4 := piece_get e4
    have k5 := piece_get e5
    have k6 := piece_get e6
    have k7 := piece_get e7
    have k8 := piece_get e8
    have k9 := piece_get e9
    have k10 := piece_get e10
    have el : l = [.int .i64 a0, .int .i64 a1, .int .i64 a2, .int .i64 a3, .int .i64 a4, .int .i64 a5, .int .i64 a6, .bool b7, .bool b8, .slice A9 o9.length c9, .slice A10 d10.length c10] := by
      match l, hl' with
      | [x0, x1, x2, x3, x4, x5, x6, x7, x8, x9, x10], _ => simp at k0 k1 k2 k3 k4 k5 k6 k7 k8 k9 k10; simp [k0, k1, k2, k3, k4, k5, k6, k7, k8, k9, k10]
    refine ⟨⟨a0, a1, a2, a3, a4, a5, a6, b7, b8, o9, d10⟩, A9, c9, A10, c10, by rw [el]; rfl, f9, f10, g9, g10, ?_⟩
    intro m hm
    simp only [List.mem_cons, List.not_mem_nil, or_false] at hm
    rcases hm with rfl | rfl | rfl | rfl | rfl | rfl | rfl <;> assumption
set_option maxRecDepth 100000 in
theorem get_v6 (hv : Value.okWide Try.prog w .any base 44 v) (h : DataW.Trod enc Try.prog w 0 (fun _ => true) true 44 v d p) :
    ∃ q A c, v = v6v q A c ∧ Arg w w.heap.size A c q.dat ∧ c ≤ maxLen ∧ q.fits ∧ q.src.length = 16 ∧ q.dst.length = 16 := by
  obtain ⟨cs, rfl, hcs⟩ : ∃ cs, v = .agg cs ∧ cs.size = Try.prog.cellsOf 44 := by
    have := hv
    simp only [Value.okWide, Try.underlying44] at this
    obtain ⟨cs, h1, h2, _⟩ := this
    exact ⟨cs, h1, h2⟩
  obtain ⟨fuel, hf⟩ := h
  obtain ⟨xs, n, _, _, hl, hxs, hall⟩ := DataW.trod_struct Try.underlying44 hf
  have hci : Try.prog.cellsOf 3 = 1 := by kernel_rfl
  have hcb : Try.prog.cellsOf 4 = 1 := by kernel_rfl
  have hcy : Try.prog.cellsOf 22 = 1 := by kernel_rfl
  have hcu : Try.prog.cellsOf 5 = 1 := by kernel_rfl
  have hcn : Try.prog.cellsOf 44 = 37 := by kernel_rfl
  have hcs6 : Try.prog.cellsOf 42 = 16 := by kernel_rfl
  obtain ⟨l⟩ := cs
  have hl' : l.length = 37 := by rw [← hcn]; exact hl
  have hall' : ∀ (i : Nat) (f : Field), _ → DataW.trod enc Try.prog w 0 (fun _ => true) true n f.type ((l.drop f.offset).take (Try.prog.cellsOf f.type)) = xs[i]? := hall
  match xs, hxs with
  | [y0, y1, y2, y3, y4, y5, y6], _ =>
    have h0 : DataW.trod enc Try.prog w 0 (fun _ => true) true n 3 ((l.drop 0).take (Try.prog.cellsOf 3)) = some y0 := hall' 0 _ rfl
    rw [hci] at h0
    obtain ⟨a0, e0, f0⟩ := cell_int Try.underlying3 h0
    have h1 : DataW.trod enc Try.prog w 0 (fun _ => true) true n 3 ((l.drop 1).take (Try.prog.cellsOf 3)) = some y1 := hall' 1 _ rfl
    rw [hci] at h1
    obtain ⟨a1, e1, f1⟩ := cell_int Try.underlying3 h1
    have h2 : DataW.trod enc Try.prog w 0 (fun _ => true) true n 3 ((l.drop 2).take (Try.prog.cellsOf 3)) = some y2 := hall' 2 _ rfl
    rw [hci] at h2
    obtain ⟨a2, e2, f2⟩ := cell_int Try.underlying3 h2
    have h3 : DataW.trod enc Try.prog w 0 (fun _ => true) true n 3 ((l.drop 3).take (Try.prog.cellsOf 3)) = some y3 := hall' 3 _ rfl
    rw [hci] at h3
    obtain ⟨a3, e3, f3⟩ := cell_int Try.underlying3 h3
    have h4 : DataW.trod enc Try.prog w 0 (fun _ => true) true n 42 ((l.drop 4).take (Try.prog.cellsOf 42)) = some y4 := hall' 4 _ rfl
    rw [hcs6] at h4
    obtain ⟨s4, f4, e4⟩ := cells_six Try.underlying42 Try.underlying5 hcu hcs6 h4
    have h5 : DataW.trod enc Try.prog w 0 (fun _ => true) true n 42 ((l.drop 20).take (Try.prog.cellsOf 42)) = some y5 := hall' 5 _ rfl
    rw [hcs6] at h5
    obtain ⟨s5, f5, e5⟩ := cells_six Try.underlying42 Try.underlying5 hcu hcs6 h5
    have h6 : DataW.trod enc Try.prog w 0 (fun _ => true) true n 22 ((l.drop 36).take (Try.prog.cellsOf 22)) = some y6 := hall' 6 _ rfl
    rw [hcy] at h6
    obtain ⟨A6, c6, d6, e6, f6, g6⟩ := cell_bytes Try.underlying22 Try.underlying5 hcu h6
    have k0 := piece_get e0
    have k1 := piece_get e1
    have k2 := piece_get e2
    have k3 := piece_get e3
    have k6 := piece_get e6
    have el : l = [Value.int .i64 a0, Value.int .i64 a1, Value.int .i64 a2, Value.int .i64 a3] ++ row s4 ++ row s5 ++ [Value.slice A6 d6.length c6] := by
      rw [← e4, ← e5]
      have z1 : l = l.take 4 ++ ((l.drop 4).take 16 ++ ((l.drop 20).take 16 ++ l.drop 36)) := by
        have q1 : (l.drop 20) = (l.drop 20).take 16 ++ l.drop 36 := by conv => lhs; rw [← List.take_append_drop 16 (l.drop 20), List.drop_drop]
        have q2 : (l.drop 4) = (l.drop 4).take 16 ++ l.drop 20 := by conv => lhs; rw [← List.take_append_drop 16 (l.drop 4), List.drop_drop]
        conv => lhs; rw [← List.take_append_drop 4 l, q2, q1]
      have z2 : l.take 4 = [.int .i64 a0, .int .i64 a1, .int .i64 a2, .int .i64 a3] := by
        match l, hl' with
        | x0 :: x1 :: x2 :: x3 :: r, _ => simp at k0 k1 k2 k3; simp [k0, k1, k2, k3]
      have z3 : l.drop 36 = [.slice A6 d6.length c6] := by
        have q3 : (l.drop 36).length = 1 := by rw [List.length_drop]; omega
        have q4 : (l.drop 36).take 1 = l.drop 36 := List.take_of_length_le (by omega)
        rw [← q4]; exact e6
      rw [z2, z3] at z1
      rw [List.append_assoc, List.append_assoc]
      exact z1
    refine ⟨⟨a0, a1, a2, a3, s4, s5, d6⟩, A6, c6, by rw [el]; rfl, f6, g6, ?_, f4, f5⟩
    intro m hm
    simp only [List.mem_cons, List.not_mem_nil, or_false] at hm
    rcases hm with rfl | rfl | rfl | rfl <;> assumption
set_option maxRecDepth 100000 in
theorem get_frag (hv : Value.okWide Try.prog w .any base 52 v) (h : DataW.Trod enc Try.prog w 0 (fun _ => true) true 52 v d p) :
    ∃ q, v = frv q ∧ q.fits := by
  obtain ⟨cs, rfl, hcs⟩ : ∃ cs, v = .agg cs ∧ cs.size = Try.prog.cellsOf 52 := by
    have := hv
    simp only [Value.okWide, Try.underlying52] at this
    obtain ⟨cs, h1, h2, _⟩ := this
    exact ⟨cs, h1, h2⟩
  obtain ⟨fuel, hf⟩ := h
  obtain ⟨xs, n, _, _, hl, hxs, hall⟩ := DataW.trod_struct Try.underlying52 hf
  have hci : Try.prog.cellsOf 3 = 1 := by kernel_rfl
  have hcb : Try.prog.cellsOf 4 = 1 := by kernel_rfl
  have hcy : Try.prog.cellsOf 22 = 1 := by kernel_rfl
  have hcu : Try.prog.cellsOf 5 = 1 := by kernel_rfl
  have hcn : Try.prog.cellsOf 52 = 4 := by kernel_rfl
  obtain ⟨l⟩ := cs
  have hl' : l.length = 4 := by rw [← hcn]; exact hl
  have hall' : ∀ (i : Nat) (f : Field), _ → DataW.trod enc Try.prog w 0 (fun _ => true) true n f.type ((l.drop f.offset).take (Try.prog.cellsOf f.type)) = xs[i]? := hall
  match xs, hxs with
  | [y0, y1, y2, y3], _ =>
    have h0 : DataW.trod enc Try.prog w 0 (fun _ => true) true n 3 ((l.drop 0).take (Try.prog.cellsOf 3)) = some y0 := hall' 0 _ rfl
    rw [hci] at h0
    obtain ⟨a0, e0, f0⟩ := cell_int Try.underlying3 h0
    have h1 : DataW.trod enc Try.prog w 0 (fun _ => true) true n 3 ((l.drop 1).take (Try.prog.cellsOf 3)) = some y1 := hall' 1 _ rfl
    rw [hci] at h1
    obtain ⟨a1, e1, f1⟩ := cell_int Try.underlying3 h1
    have h2 : DataW.trod enc Try.prog w 0 (fun _ => true) true n 3 ((l.drop 2).take (Try.prog.cellsOf 3)) = some y2 := hall' 2 _ rfl
    rw [hci] at h2
    obtain ⟨a2, e2, f2⟩ := cell_int Try.underlying3 h2
    have h3 : DataW.trod enc Try.prog w 0 (fun _ => true) true n 4 ((l.drop 3).take (Try.prog.cellsOf 4)) = some y3 := hall' 3 _ rfl
    rw [hcb] at h3
    obtain ⟨b3, e3⟩ := cell_bool Try.underlying4 h3
    have k0 := piece_get e0
    have k1 := piece_get e1
    have k2 := piece_get e2
    have k3 := piece_get e3
    have el : l = [.int .i64 a0, .int .i64 a1, .int .i64 a2, .bool b3] := by
      match l, hl' with
      | [x0, x1, x2, x3], _ => simp at k0 k1 k2 k3; simp [k0, k1, k2, k3]
    refine ⟨⟨a0, a1, a2, b3⟩, by rw [el]; rfl, ?_⟩
    intro m hm
    simp only [List.mem_cons, List.not_mem_nil, or_false] at hm
    rcases hm with rfl | rfl | rfl <;> assumption
end
end Go.Proofs.Ytcfcmnhnijjehaa
