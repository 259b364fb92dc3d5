/-
  Packets of IPv6 in a block of their own; laws for loads out of it. Conditions are each theorem's own.
-/
import Derived.Test.YtcfcmnhnijjehaaOwnR
import Derived.Test.YtcfcmnhnijjehaaSixR
import Derived.Deep.Cut
import Derived.Deep.CutRange
namespace Go.Proofs.Ytcfcmnhnijjehaa
open Go.RowKit

def v6a (q : P6) (A : Option Addr) (c : Nat) : Array Value := (v6l q A c).toArray
def At6 (W : World) (g : Nat) (q : P6) (A : Option Addr) (c : Nat) : Prop := W.rangeAt g 0 (v6l q A c)
section
variable {W : World} {g : Nat} {q : P6} {A : Option Addr} {c : Nat}
theorem At6.new (w : World) : At6 (w.alloc (.cells (v6a q A c) 44)) w.heap.size q A c := fun j v hj => by
  rw [Nat.zero_add, World.cell?_alloc_new, v6a, List.getElem?_toArray, ← hj]
theorem At6.below {w : World} {B : Nat} (h : At6 W g q A c) (hb : Below B W w) (hg : g < B) : At6 w g q A c := range_below h hg hb
theorem At6.traffic (h : At6 W g q A c) : W.cell? ⟨g, 0, none⟩ = some (.int .i64 q.traffic) := h 0 _ rfl
theorem At6.flow (h : At6 W g q A c) : W.cell? ⟨g, 1, none⟩ = some (.int .i64 q.flow) := h 1 _ rfl
theorem At6.next (h : At6 W g q A c) : W.cell? ⟨g, 2, none⟩ = some (.int .i64 q.next) := h 2 _ rfl
theorem At6.hop (h : At6 W g q A c) : W.cell? ⟨g, 3, none⟩ = some (.int .i64 q.hop) := h 3 _ rfl
theorem v6l_src (j : Nat) (v : Value) (hj : (row q.src)[j]? = some v) : (v6l q A c)[4 + j]? = some v := by
  have hl : j < (row q.src).length := (List.getElem?_eq_some_iff.1 hj).1
  rw [v6l, List.append_assoc, List.append_assoc, List.getElem?_append_right (by simp)]
  rw [show 4 + j - [Value.int .i64 q.traffic, .int .i64 q.flow, .int .i64 q.next, .int .i64 q.hop].length = j from by simp]
  rw [List.getElem?_append_left hl]; exact hj
theorem v6l_dst (hs : q.src.length = 16) (j : Nat) (v : Value) (hj : (row q.dst)[j]? = some v) : (v6l q A c)[20 + j]? = some v := by
  have hl : j < (row q.dst).length := (List.getElem?_eq_some_iff.1 hj).1
  have e : ([Value.int .i64 q.traffic, .int .i64 q.flow, .int .i64 q.next, .int .i64 q.hop] ++ row q.src).length = 20 := by simp [row_length, hs]
  rw [v6l, List.append_assoc, List.getElem?_append_right (by rw [e]; omega), e, show 20 + j - 20 = j from by omega, List.getElem?_append_left hl]; exact hj
theorem v6l_dat (hs : q.src.length = 16) (hd : q.dst.length = 16) : (v6l q A c)[36]? = some (.slice A q.dat.length c) := by
  have e : ([Value.int .i64 q.traffic, .int .i64 q.flow, .int .i64 q.next, .int .i64 q.hop] ++ row q.src ++ row q.dst).length = 36 := by simp [row_length, hs, hd]
  rw [v6l, List.getElem?_append_right (by rw [e]; omega), e]; rfl
theorem v6l_len (hs : q.src.length = 16) (hd : q.dst.length = 16) : (v6l q A c).length = 37 := by simp [v6l, row_length, hs, hd]
theorem At6.src (h : At6 W g q A c) : W.rangeAt g 4 (row q.src) := fun j v hj => by
  have := h (4 + j) v (v6l_src j v hj); rwa [Nat.zero_add] at this
theorem At6.dst (h : At6 W g q A c) (hs : q.src.length = 16) : W.rangeAt g 20 (row q.dst) := fun j v hj => by
  have := h (20 + j) v (v6l_dst hs j v hj); rwa [Nat.zero_add] at this
theorem At6.dat (h : At6 W g q A c) (hs : q.src.length = 16) (hd : q.dst.length = 16) : W.cell? ⟨g, 36, none⟩ = some (.slice A q.dat.length c) := h 36 _ (v6l_dat hs hd)
end
theorem run_load_v6 {o : Oper} {a : Act} {w : World} {x : Operand} {g : Nat} {cs : List Value} (ho : o.op = .load 44 x) (hx : a.eval x = .pointer (some ⟨g, 0, none⟩)) (hr : w.rangeAt g 0 cs) (hl : cs.length = 37) :
    (execOp a.eval o).run Try.prog w = .ok (.value (.agg cs.toArray)) w := by
  have h := run_loadVar_mid (P := Try.prog) w g 0 44 cs _ hr Try.underlying44 rfl (by rw [hl]; kernel_rfl)
  unfold execOp
  simp only [ho, hx, Instr.loadAt, Instr.sureAddr, Sem.run_bind, Sem.run_pure, Result.andThen_ok, h]
theorem run_load_six {o : Oper} {a : Act} {w : World} {x : Operand} {g i : Nat} {cs : List UInt8} (ho : o.op = .load 42 x) (hx : a.eval x = .pointer (some ⟨g, i, none⟩)) (hr : w.rangeAt g i (row cs)) (hl : cs.length = 16) :
    (execOp a.eval o).run Try.prog w = .ok (.value (.agg (cel cs))) w := by
  have h := run_loadVar_mid (P := Try.prog) w g i 42 (row cs) _ hr Try.underlying42 rfl (by rw [row_length, hl]; kernel_rfl)
  unfold execOp
  simp only [ho, hx, Instr.loadAt, Instr.sureAddr, Sem.run_bind, Sem.run_pure, Result.andThen_ok, h, cel]
/-- An operation that yields a value and is wanted. -/
theorem wpList_valg {P : Program} {ops : Array Oper} {rest : List Oper} {o : Oper} {a : Act} {w : World} {Q : Exit → Act → World → Prop} {v : Value} (hw : Region.wanted o (yielded ops a.tmps) = true) (hrun : (execOp a.eval o).run P w = .ok (.value v) w)
    (h : wpList P ops Q rest (a.put o.dst v) w) : wpList P ops Q (o :: rest) a w :=
  wpList_step fun K hK => by rw [if_pos hw]; unfold Oper.wp; rw [hrun]; exact hK _ _ h
def flowB (q : P6) : Bool := decide (0 ≤ q.flow) && decide (q.flow < 1048576)
theorem arg6_iff (q : P6) : arg6 q ↔ (fitsB q.traffic 1 = true ∧ fitsB q.next 1 = true ∧ fitsB q.hop 1 = true ∧ flowB q = true) := by
  unfold arg6 flowB
  simp only [Bool.and_eq_true, fitsB_iff, decide_eq_true_eq, pw]
  constructor
  · rintro ⟨a1, a2, a3, a4, a5, a6, a7, a8⟩
    refine ⟨⟨?_, ?_, ?_, ?_⟩, ⟨?_, ?_, ?_, ?_⟩, ⟨?_, ?_, ?_, ?_⟩, ?_, ?_⟩ <;> (try simp) <;> omega
  · rintro ⟨⟨_, _, f1, f2⟩, ⟨_, _, g1, g2⟩, ⟨_, _, h1, h2⟩, m1, m2⟩
    simp at f2 g2 h2
    refine ⟨?_, ?_, ?_, ?_, ?_, ?_, ?_, ?_⟩ <;> omega
section
variable (q : P6) (A : Option Addr) (c : Nat) (w : World)
theorem c6size (hs : q.src.length = 16) (hd : q.dst.length = 16) (hl : q.dat.length ≤ 1000000) : Calls Try.prog 35 #[v6v q A c] w fun e w' => e = .returned (.int .i64 (size6 q)) ∧ Below w.heap.size w w' := by
  have hB : Below w.heap.size w (w.alloc (.cells (v6a q A c) 44)) := (Below.refl w.heap.size w).alloc (Nat.le_refl _) _
  have k := (At6.new (q := q) (A := A) (c := c) w).dat hs hd
  unfold v6v size6
  rw [show (v6l q A c).toArray = v6a q A c from rfl]
  go_enter Try.func35, Try.ntmps35
  go_wp2_with fail
  go_ret
  exact ⟨rfl, hB⟩
theorem r6size (hs : q.src.length = 16) (hd : q.dst.length = 16) (hl : q.dat.length ≤ 1000000) : Calls Try.prog 36 #[v6v q A c] w fun e w' => e = .returned (.int .i64 (size6 q)) ∧ Below w.heap.size w w' := by
  have hB : Below w.heap.size w (w.alloc (.cells (v6a q A c) 44)) := (Below.refl w.heap.size w).alloc (Nat.le_refl _) _
  have k := (At6.new (q := q) (A := A) (c := c) w).dat hs hd
  unfold v6v size6
  rw [show (v6l q A c).toArray = v6a q A c from rfl]
  go_enter Try.func36, Try.ntmps36
  go_wp2_with fail
  go_ret
  exact ⟨rfl, hB⟩
end
end Go.Proofs.Ytcfcmnhnijjehaa
