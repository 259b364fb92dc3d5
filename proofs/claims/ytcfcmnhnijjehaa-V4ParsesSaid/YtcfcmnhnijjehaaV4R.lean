/-
  Contracts of the document's plain answers of layer 5: Head, Size, Whole, Check, Same. Conditions are each theorem's own.
-/
import Derived.Test.YtcfcmnhnijjehaaOpenS
import Derived.Test.YtcfcmnhnijjehaaSumE
import Derived.Test.YtcfcmnhnijjehaaFourR
namespace Go.Proofs.Ytcfcmnhnijjehaa
open Go.RowKit

/-- A packet's cells. -/
def v4a (q : P4) (A : Option Addr) (c : Nat) (A' : Option Addr) (c' : Nat) : Array Value :=
  #[.int .i64 q.tos, .int .i64 q.id, .int .i64 q.off, .int .i64 q.ttl, .int .i64 q.proto, .int .i64 q.src, .int .i64 q.dst, .bool q.df, .bool q.mf, .slice A q.opt.length c, .slice A' q.dat.length c']
/-- A whole packet is read out of a block of its own. -/
theorem v4_load {ops : Array Oper} {rest : List Oper} {d : Tmp} {x : Operand} {ty : TypeId} {pos : String} {af : Array Edge} {a : Act} {w : World} {Q : Exit → Act → World → Prop}
    {g : Nat} {t : TypeId} {cs : Array Value} {fr : Nat × Nat} (hx : a.eval x = .pointer (some ⟨g, 0, none⟩)) (hg : w.heap[g]? = some (.cells cs t fr)) (hl : cs.size = 11)
    (h : wpList Try.prog ops Q rest (a.put (some d) (.agg cs)) w) : wpList Try.prog ops Q (⟨some d, .load 24 x, ty, pos, af, none⟩ :: rest) a w :=
  wpList_load_row rfl 24 x rfl g hx t cs fr _ hg Try.underlying24 rfl (by rw [hl]; kernel_rfl) h
section
variable (q : P4) (A : Option Addr) (c : Nat) (A' : Option Addr) (c' : Nat) (w : World)
theorem r5head (ho : q.opt.length ≤ 1000000) : Calls Try.prog 16 #[v4v q A c A' c'] w fun e w' => e = .returned (.int .i64 (head4 q)) ∧ Below w.heap.size w w' := by
  have hB : ∀ o, Below w.heap.size w (w.alloc o) := fun o => (Below.refl w.heap.size w).alloc (Nat.le_refl _) o
  unfold v4v head4
  go_enter Try.func16, Try.ntmps16
  go_wp2_with fail
  go_ret
  exact ⟨rfl, hB _⟩
theorem r5whole : Calls Try.prog 20 #[v4v q A c A' c'] w fun e w' => e = .returned (.bool (whole4 q)) ∧ Below w.heap.size w w' := by
  have hB : ∀ o, Below w.heap.size w (w.alloc o) := fun o => (Below.refl w.heap.size w).alloc (Nat.le_refl _) o
  obtain ⟨tos, id, off, ttl, proto, src, dst, df, mf, opt, dat⟩ := q
  unfold v4v whole4
  cases mf
  · go_enter Try.func20, Try.ntmps20
    go_wp2_with fail
    go_ret
    exact ⟨rfl, hB _⟩
  · go_enter Try.func20, Try.ntmps20
    go_wp2_with fail
    go_ret
    exact ⟨rfl, hB _⟩
end
end Go.Proofs.Ytcfcmnhnijjehaa
