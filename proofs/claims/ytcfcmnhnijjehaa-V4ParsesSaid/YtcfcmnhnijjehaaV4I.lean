/-
  Contracts of layer 5's helpers of the statements: far, awake. Conditions are each theorem's own.
-/
import Derived.Test.YtcfcmnhnijjehaaV4G
import Derived.Test.YtcfcmnhnijjehaaV4N
namespace Go.Proofs.Ytcfcmnhnijjehaa
open Go.RowKit

/-- An operation that is wanted and yields a value, in a list that goes in the order of the text. -/
theorem wpList_valw {P : Program} {ops : Array Oper} {rest : List Oper} {o : Oper} {a : Act} {w : World} {Q : Exit → Act → World → Prop} {v : Value} (hg : Region.wanted o (yielded ops a.tmps) = true) (hrun : (execOp a.eval o).run P w = .ok (.value v) w)
    (h : wpList P ops Q rest (a.put o.dst v) w) : wpList P ops Q (o :: rest) a w :=
  wpList_step fun K hK => by rw [if_pos hg]; unfold Oper.wp; rw [hrun]; exact hK _ _ h
def qa4 : P4 := ⟨0, 0, 0, 9, 17, 167772161, 3221225985, false, false, [], [7]⟩
theorem build4_awake (g : Nat) (w : World) (hg : w.heap[g]? = some (.cells #[.int .u8 7] 5 (0, 0))) :
    Calls Try.prog 13 #[v4v qa4 none 0 (some ⟨g, 0, none⟩) 1] w fun e w' => ∃ b o c, e = .returned (.tuple #[.slice (some ⟨b, o, none⟩) 21 c, .int .i64 0]) ∧ Arg w' w'.heap.size (some ⟨b, o, none⟩) c (bld4 qa4) ∧ w'.cell? ⟨b, o, none⟩ = some (.int .u8 69) ∧ Below w.heap.size w w' := by
  have hc : chk4 qa4 = 0 := by decide
  have hlen : (bld4 qa4).length = 21 := by decide
  have h0 : byt (bld4 qa4) 0 = 69 := by decide
  refine (c4build qa4 none 0 (some ⟨g, 0, none⟩) 1 w w.heap.size (Arg.nil _ _) ⟨Rd.of_block hg (heap_lt hg) 0 (fun j hj => by
    have : j = 0 := by simpa [qa4] using hj
    subst this; rfl), by decide, fun e => by cases e⟩ (Nat.le_refl _) (by decide) (by decide)).mono ?_
  rintro e w' ⟨v, rfl, _, hm⟩
  obtain ⟨A, c, rfl, ha, ho, hb⟩ := made_shape (hm hc)
  obtain ⟨b, o, rfl, hbB, hcell⟩ := ha.rd (by rw [hlen]; omega)
  refine ⟨b, o, c, by rw [hc, hlen], ha, ?_, hb⟩
  rw [← h0]; exact hcell 0 (by rw [hlen]; omega)
theorem parse4_awake (A : Option Addr) (c B : Nat) (w : World) (h : Arg w B A c (bld4 qa4)) (hB : B ≤ w.heap.size) :
    Calls Try.prog 26 #[.slice A 21 c] w fun e w' => ∃ P p P' p', e = .returned (.tuple #[v4v qa4 P p P' p', .int .i64 0]) ∧ Below w.heap.size w w' := by
  have hlen : (bld4 qa4).length = 21 := by decide
  have hk := back_ok (q := qa4) (more := []) (by decide)
  rw [List.append_nil] at hk
  have := c4parse (bld4 qa4) A c w B h hB (by rw [hlen]; decide)
  rw [hk.1, hk.2, hlen] at this
  refine this.mono ?_
  rintro e w' ⟨P, p, P', p', rfl, hm, _⟩
  obtain ⟨_, _, _, _, _, _, hb⟩ := hm
  exact ⟨P, p, P', p', rfl, hb⟩
theorem far_any (q : P4) (A : Option Addr) (c : Nat) (A' : Option Addr) (c' : Nat) (w : World) :
    Calls Try.prog 11 #[v4v q A c A' c'] w fun e w' => e = .returned (.bool (decide (3000 < q.dat.length) || decide (200 < q.opt.length))) ∧ Below w.heap.size w w' := by
  have hB : ∀ o, Below w.heap.size w (w.alloc o) := fun o => (Below.refl w.heap.size w).alloc (Nat.le_refl _) o
  unfold v4v
  by_cases h : 3000 < q.dat.length
  · have d : decide (3000 < (q.dat.length : Int)) = true := by simp; omega
    go_enter Try.func11, Try.ntmps11
    go_wp2_with fail
    go_ret
    exact ⟨ret_bool (by simp [h]), hB _⟩
  · have d : decide (3000 < (q.dat.length : Int)) = false := by simp; omega
    by_cases h' : 200 < q.opt.length
    · have d' : decide (200 < (q.opt.length : Int)) = true := by simp; omega
      go_enter Try.func11, Try.ntmps11
      go_wp2_with fail
      go_ret
      exact ⟨ret_bool (by simp [h']), hB _⟩
    · have d' : decide (200 < (q.opt.length : Int)) = false := by simp; omega
      go_enter Try.func11, Try.ntmps11
      go_wp2_with fail
      go_ret
      exact ⟨ret_bool (by simp [h, h']), hB _⟩
theorem far_arr (q : P4) (A : Option Addr) (c : Nat) (A' : Option Addr) (c' : Nat) (w : World) :
    Calls Try.prog 11 #[.agg (v4a q A c A' c')] w fun e w' => e = .returned (.bool (decide (3000 < q.dat.length) || decide (200 < q.opt.length))) ∧ Below w.heap.size w w' := far_any q A c A' c' w
set_option maxRecDepth 100000 in
set_option maxHeartbeats 1000000 in
theorem awake5_any (w : World) : Calls Try.prog 12 #[] w fun e w' => e = .returned (.bool true) ∧ Below w.heap.size w w' := by
  have hB1 : Below w.heap.size w (w.alloc (.cells #[.int .u8 7] 5)) := (Below.refl _ w).alloc (Nat.le_refl _) _
  go_enter Try.func12, Try.ntmps12
  go_upto_region 3 with (first
    | (go_at_call 13; refine (build4_awake w.heap.size _ (World.alloc_heap_new _ _)).mono ?_; rintro e w1 ⟨b, o, c, rfl, ha, hc1, x1⟩)
    | (go_at_call 26; refine (parse4_awake _ _ _ _ ha (Nat.le_refl _)).mono ?_; rintro e w2 ⟨P, p, P', p', rfl, x2⟩)
    | ((with_reducible show wpList _ _ _ (Oper.mk _ (Op.store _ _ _) _ _ _ _ :: _) _ _); refine v4_store_new (cs := v4a qa4 P p P' p') rfl rfl rfl rfl (v4a_one _ _ _ _ _) ?_))
  have hAt := At4.new (q := qa4) (A := P) (c := p) (A' := P') (c' := p') w2
  have x23 : Below w2.heap.size w2 (w2.alloc (.cells (v4a qa4 P p P' p') 24)) := (Below.refl _ w2).alloc (Nat.le_refl _) _
  have hz3 : w2.heap.size < (w2.alloc (.cells (v4a qa4 P p P' p') 24)).heap.size := by simp
  generalize w2.alloc (.cells (v4a qa4 P p P' p') 24) = W3 at *
  have x13 : Below w1.heap.size w1 W3 := x2.trans (x23.mono x2.size)
  have k0 := (x13.cell (p := ⟨b, o, none⟩) (cell_block hc1)).trans hc1
  have k3 : W3.cell? ⟨w2.heap.size, 3, none⟩ = some (.int .i64 9) := hAt.ttl
  have z1 := x1.size
  have z2 := x2.size
  simp at z1
  have q3 : Below w.heap.size w W3 := hB1.trans ((x1.trans (x13.mono x1.size)).mono (by simp))
  have q2 : w.heap.size ≤ w2.heap.size := by omega
  clear x1 x2 x13 hc1 ha
  go_wp2_with (first
    | ((with_reducible show wpList _ _ _ (Oper.mk _ (Op.load 24 _) _ _ _ _ :: _) _ _); refine wpList_valw (by rfl) (run_load_v4 rfl rfl hAt rfl) ?_)
    | (go_at_call 17; refine (c4size qa4 P p P' p' _ (by decide) (by decide)).mono ?_; rintro e w4 ⟨rfl, x4⟩; rw [show size4 qa4 = 21 from by decide]; have hAt4 := hAt.below x4 hz3)
    | ((with_reducible show wpList _ _ _ (Oper.mk _ (Op.load 24 _) _ _ _ _ :: _) _ _); refine wpList_valw (by rfl) (run_load_v4 rfl rfl hAt4 rfl) ?_)
    | (go_at_call 19; refine (c4whole qa4 P p P' p' _).mono ?_; rintro e w5 ⟨rfl, x5⟩; rw [show whole4 qa4 = true from by decide]))
  go_ret
  exact ⟨rfl, (q3.trans (x4.mono (by omega))).trans (x5.mono (by have := x4.size; omega))⟩
def res4 (q : P4) : List UInt8 := if chk4 q = 0 then bld4 q else []
theorem res4_shape {q : P4} {w w' : World} {v : Value} (h : (chk4 q ≠ 0 → v = .slice none 0 0 ∧ Below w.heap.size w w') ∧ (chk4 q = 0 → Made w w' v (bld4 q))) :
    ∃ P k, v = .slice P (res4 q).length k ∧ Rd w' w'.heap.size P (res4 q) ∧ Below w.heap.size w w' := by
  by_cases hc : chk4 q = 0
  · obtain ⟨A, c, rfl, hl, hr, ho, hb⟩ := h.2 hc
    exact ⟨A, c, by rw [res4, if_pos hc], by rw [res4, if_pos hc]; exact hr, hb⟩
  · obtain ⟨rfl, hb⟩ := h.1 hc
    exact ⟨none, 0, by rw [res4, if_neg hc]; rfl, by rw [res4, if_neg hc]; exact Rd.nil, hb⟩
end Go.Proofs.Ytcfcmnhnijjehaa
