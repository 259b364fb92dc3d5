/-
  Contract of layer 6's awake: it answers true, and turns nothing that was there. Conditions: none.
-/
import Derived.Test.YtcfcmnhnijjehaaV6G
import Derived.Test.YtcfcmnhnijjehaaV6B
import Derived.Test.YtcfcmnhnijjehaaV6C
namespace Go.Proofs.Ytcfcmnhnijjehaa
open Go.RowKit

def qa6 : P6 := ⟨0, 0, 4, 9, nul, nul, [7]⟩
theorem build6_awake (g : Nat) (w : World) (hg : w.heap[g]? = some (.cells #[.int .u8 7] 5 (0, 0))) :
    Calls Try.prog 33 #[v6v qa6 (some ⟨g, 0, none⟩) 1] w fun e w' => ∃ b o c, e = .returned (.tuple #[.slice (some ⟨b, o, none⟩) 41 c, .int .i64 0]) ∧ w'.cell? ⟨b, o, none⟩ = some (.int .u8 96) ∧ Below w.heap.size w w' := by
  have hc : chk6 qa6 = 0 := by decide
  have hlen : (bld6 qa6).length = 41 := by decide
  have h0 : byt (bld6 qa6) 0 = 96 := by decide
  refine (c6build qa6 (some ⟨g, 0, none⟩) 1 w w.heap.size rfl rfl (by decide) ⟨Rd.of_block hg (heap_lt hg) 0 (fun j hj => by
    have : j = 0 := by simpa [qa6] using hj
    subst this; rfl), by decide, fun e => by cases e⟩ (Nat.le_refl _)).mono ?_
  rintro e w' ⟨v, rfl, _, hm⟩
  obtain ⟨A, c, rfl, hl, hr, ho, hb⟩ := hm hc
  obtain ⟨b, o, rfl, hbB, hcell⟩ := hr (by rw [hlen]; omega)
  refine ⟨b, o, c, by rw [hc, hlen], ?_, hb⟩
  rw [← h0]; exact hcell 0 (by rw [hlen]; omega)
theorem bfrag_awake (w : World) :
    Calls Try.prog 45 #[frv ⟨4, 8, 1, true⟩] w fun e w' => ∃ A c, e = .returned (.tuple #[.slice A 8 c, .int .i64 0]) ∧ Rd w' w'.heap.size A [4, 0, 0, 9, 0, 0, 0, 1] ∧ Below w.heap.size w w' := by
  have hb : bldF ⟨4, 8, 1, true⟩ = [4, 0, 0, 9, 0, 0, 0, 1] := by decide
  have he : errF ⟨4, 8, 1, true⟩ = 0 := by decide
  refine (c6bfrag ⟨4, 8, 1, true⟩ w).mono ?_
  rintro e w' ⟨v, rfl, hm⟩
  rw [hb] at hm
  obtain ⟨A, c, rfl, hl, hr, ho, hB⟩ := hm
  exact ⟨A, c, by rw [he]; rfl, hr, hB⟩
theorem equal8_awake (A A' : Option Addr) (c c' B B' : Nat) (w : World) (h : Rd w B A [4, 0, 0, 9, 0, 0, 0, 1]) (h' : Rd w B' A' [4, 0, 0, 9, 0, 0, 0, 1]) :
    Calls Try.prog 21 #[.slice A 8 c, .slice A' 8 c'] w fun e w' => e = .returned (.bool true) ∧ w = w' := by
  have := equal_any A A' [4, 0, 0, 9, 0, 0, 0, 1] [4, 0, 0, 9, 0, 0, 0, 1] c c' B B' w h h'
  rw [show decide ([(4 : UInt8), 0, 0, 9, 0, 0, 0, 1] = [4, 0, 0, 9, 0, 0, 0, 1]) = true from by decide] at this
  exact this
theorem Rd.eight (W : World) (t : TypeId) : Rd (W.alloc (.cells #[.int .u8 4, .int .u8 0, .int .u8 0, .int .u8 9, .int .u8 0, .int .u8 0, .int .u8 0, .int .u8 1] t)) (W.heap.size + 1) (some ⟨W.heap.size, 0, none⟩) [4, 0, 0, 9, 0, 0, 0, 1] :=
  Rd.of_block (g := W.heap.size) (World.alloc_heap_new W _) (Nat.lt_succ_self _) 0 (fun j hj => by
    have : j = 0 ∨ j = 1 ∨ j = 2 ∨ j = 3 ∨ j = 4 ∨ j = 5 ∨ j = 6 ∨ j = 7 := by simp at hj; omega
    rcases this with rfl | rfl | rfl | rfl | rfl | rfl | rfl | rfl <;> rfl)
set_option maxRecDepth 100000 in
set_option maxHeartbeats 1000000 in
theorem awake6_any (w : World) : Calls Try.prog 32 #[] w fun e w' => e = .returned (.bool true) ∧ Below w.heap.size w w' := by
  have hB1 : Below w.heap.size w (w.alloc (.cells #[.int .u8 7] 5)) := (Below.refl _ w).alloc (Nat.le_refl _) _
  go_enter Try.func32, Try.ntmps32
  go_wp2_with (first
    | (go_at_call 33; refine (build6_awake w.heap.size _ (World.alloc_heap_new _ _)).mono ?_; rintro e w1 ⟨b, o, c, rfl, hc1, x1⟩; have hc1 := hc1)
    | (go_at_call 45; refine (bfrag_awake _).mono ?_; rintro e w2 ⟨A2, c2, rfl, r2, x2⟩; have hc2 := (x2.cell (p := ⟨b, o, none⟩) (cell_block hc1)).trans hc1)
    | (go_at_call 21; refine (equal8_awake _ _ _ _ _ _ _ (r2.alloc (Nat.le_refl _) _) (Rd.eight _ _)).mono ?_; rintro e w' ⟨rfl, rfl⟩))
  go_ret
  have z1 := x1.size
  have z2 := x2.size
  simp at z1
  exact ⟨rfl, (hB1.trans ((x1.trans (x2.mono (by simp; omega))).mono (by simp))).alloc (by omega) _⟩
theorem run_load_fr {o : Oper} {a : Act} {w : World} {x : Operand} {g : Nat} {f : F6} (ho : o.op = .load 52 x) (hx : a.eval x = .pointer (some ⟨g, 0, none⟩)) (hr : AtF w g f) :
    (execOp a.eval o).run Try.prog w = .ok (.value (frv f)) w := by
  have h := run_loadVar_mid (P := Try.prog) w g 0 52 (fra f).toList _ hr Try.underlying52 rfl (by kernel_rfl)
  unfold execOp
  simp only [ho, hx, Instr.loadAt, Instr.sureAddr, Sem.run_bind, Sem.run_pure, Result.andThen_ok, h]
  rfl
end Go.Proofs.Ytcfcmnhnijjehaa
