/-
  For every slice of slices of bytes l and every integer n, goosepondlaw02.SumTells answers true and leaves l as it was: sum.Add, sum.Of, sum.Right and sum.Fold answer what the document says.
  Conditions: none but the statement's own.
-/
import Derived.Test.YtjemkbjofebinaaRows
import Derived.Test.YtjemkbjofebinaaSumE
import Derived.WalkKit
import Derived.ProofKit
import Derived.OpenShut
import Derived.ShutString
import Derived.ChangeOld
import Derived.Below
import Derived.Deep.Matrix
namespace Go.Proofs.Ytjemkbjofebinaa.sumTells
open Go.ChangeShapes Go.WideShapes Go.ChangeAt Go.RowKit
open Go.ChangeMaps (open_string shut_string)
set_option linter.unusedVariables false

theorem own : ownKnob Try.prog.godebug = none := by kernel_rfl
theorem laidOut : laidOutB Try.prog = true := by kernel_rfl

/-- What the walk is told of a slice of slices of bytes that came in. -/
def IsRows (w : World) (A : Option Addr) (len cap : Nat) (ps : List (List UInt8)) : Prop :=
  len = ps.length ∧ Rd2 w w.heap.size A ps ∧ ps.length ≤ maxLen ∧ ∀ b ∈ ps, b.length ≤ maxLen

theorem walk (a0 : Option Addr) (len0 cap0 : Nat) (ps : List (List UInt8)) (a1 : Int) (w : World) (w0 : IsRows w a0 len0 cap0 ps) (w1 : (Lit.int .i64 a1).wf = true) :
    Calls Try.prog 7 #[.slice a0 len0 cap0, .int .i64 a1] w fun e w' => e = .returned (.bool true) ∧ Below w.heap.size w w' := by
  obtain ⟨rfl, h, hm, hb⟩ := w0
  unfold maxLen at hm hb
  have Hb := Lib.hid hb
  clear hb
  have hn := (bounds_i64 w1).2
  clear w1
  by_cases hf : fewB ps = true
  · obtain ⟨h40, hbk⟩ := few_yes hf
    have Hf := Lib.hid hf
    clear hf
    go_enter Try.func7, Try.ntmps7
    go_wp2_with (first
      | (go_at_call 24; refine (few_any a0 ps cap0 _ _ h (by omega) Hb.out).mono ?_; rintro e w' ⟨rfl, rfl⟩; rw [Hf.out])
      | (go_at_call 26; refine (add_any a0 ps cap0 _ _ h (Nat.le_refl _) (by omega) (by omega)).mono ?_; rintro e X1 ⟨rfl, q1⟩)
      | (go_at_call 27; refine (radd_any a0 ps cap0 _ _ (h.below q1) (by omega) (by omega)).mono ?_; rintro e X2 ⟨rfl, hX⟩;
         have q2 : Below w.heap.size w X2 := by (obtain ⟨n, hX⟩ := hX; rw [hX]; exact below_drewN q1 n);
         clear hX)
      | (go_at_call 28; refine (of_any a0 ps cap0 _ _ (h.below q2) q2.size (by omega) (by omega)).mono ?_; rintro e X3 ⟨rfl, hb3⟩;
         have q3 : Below w.heap.size w X3 := q2.trans (hb3.mono q2.size))
      | (go_at_call 29; refine (rof_any a0 ps cap0 _ _ (h.below q3) (by omega) (by omega)).mono ?_; rintro e X4 ⟨rfl, hX⟩;
         have q4 : Below w.heap.size w X4 := by (obtain ⟨n, hX⟩ := hX; rw [hX]; exact below_drewN q3 n);
         clear hX)
      | (go_at_call 30; refine (right_any a0 ps cap0 _ _ (h.below q4) q4.size (by omega) (by omega)).mono ?_; rintro e X5 ⟨rfl, hb5⟩;
         have q5 : Below w.heap.size w X5 := q4.trans (hb5.mono q4.size))
      | (go_at_call 31; refine (rright_any a0 ps cap0 _ _ (h.below q5) (by omega) (by omega)).mono ?_; rintro e X6 ⟨rfl, hX⟩;
         have q6 : Below w.heap.size w X6 := by (obtain ⟨n, hX⟩ := hX; rw [hX]; exact below_drewN q5 n);
         clear hX)
      | (go_at_call 32; refine (fold_any _ _ hn).mono ?_; rintro e w' ⟨rfl, rfl⟩)
      | (go_at_call 33; refine (rfold_any _ _ hn).mono ?_; rintro e w' ⟨rfl, rfl⟩)
      | (go_at_call 25; refine (awake2_any _).mono ?_; rintro e X7 ⟨rfl, hb7⟩))
    go_ret
    exact ⟨rfl, q6.trans (hb7.mono q6.size)⟩
  · have hf0 : fewB ps = false := by simpa using hf
    have Hf := Lib.hid hf0
    clear hf hf0
    go_enter Try.func7, Try.ntmps7
    go_wp2_with (first
      | (go_at_call 24; refine (few_any a0 ps cap0 _ _ h (by omega) Hb.out).mono ?_; rintro e w' ⟨rfl, rfl⟩; rw [Hf.out])
      | (go_at_call 25; refine (awake2_any _).mono ?_; rintro e X7 ⟨rfl, hb7⟩))
    go_ret
    exact ⟨rfl, hb7⟩

/-! ### The row's step -/
set_option maxRecDepth 100000 in
theorem lifted (os : Os) (started : os.Started) (H : Type) (enc : TypeId × Value → H) :
    ReturnsInHanded {} Try.checked os 7 .any (Rows.sumTellsSpec.pre6 enc Try.prog Try.f7 Rows.sumTellsRow.domain false) (Rows.sumTellsSpec.post enc Try.prog Try.f7 false true false false) := by
  refine returnsInHanded_of_change (C := Try.checked) own started (by kernel_rfl) Try.func7
    (ChangeSpec.witness6 (enc := enc) (C := Try.checked) false ⟨#[], #[.slice none 0 0, .int .i64 0], []⟩ 8 (by kernel_rfl) (by kernel_rfl) (by kernel_rfl) (by kernel_rfl)) ?_
  intro W base args ds gs before hval0 hW hcnd _
  have hval : ∀ (j : Nat) t v, Try.f7.params[j]? = some t → args[j]? = some v → Value.okWide Try.prog W .any base t v := hval0
  have hW' := hW
  obtain ⟨p, q, hA0, hV, rfl, hfz, hnd⟩ := hW
  have hA : DataW.TrodAll enc Try.prog W 0 (fun _ => true) true Try.f7.params.toList args.toList ds p := hA0
  rw [Try.params7] at hA hval
  obtain ⟨v0, vs0, d0, ds0, p0, q0, hargs, rfl, rfl, h0, r0⟩ := trodAll_cons hA
  obtain ⟨v1, vs1, d1, ds1, p1, q1, rfl, rfl, rfl, h1, r1⟩ := trodAll_cons r0
  obtain ⟨rfl, rfl, rfl⟩ := trodAll_nil r1
  obtain rfl : args = #[v0, v1] := by cases args; simp_all
  obtain ⟨rfl, rfl⟩ := trodVars_none hV
  obtain ⟨a0, len0, cap0, rfl⟩ := okWide_slice Try.underlying40 (hval 0 40 v0 rfl rfl)
  have k0 := h0
  have lt0 : ∀ x ∈ p0, x.block < W.heap.size := by obtain ⟨m, hm⟩ := k0; exact DataW.trod_lt m _ _ _ hm
  obtain ⟨ps, w0⟩ : ∃ ps, IsRows W a0 len0 cap0 ps := by
    obtain ⟨fuel, hf⟩ := h0
    rcases Go.Deep.open_int_rows Try.underlying40 Try.underlying22 Try.underlying5 (by kernel_rfl) (by kernel_rfl) hf with ⟨hcs, _⟩ | ⟨x, l, c, A, L, C, Z, hcs, _, hl, hm, _, hrow⟩
    · simp [Value.cells] at hcs
      obtain ⟨rfl, rfl, rfl⟩ := hcs
      exact ⟨[], rfl, fun hn => absurd hn (by simp), by simp, by simp⟩
    · simp [Value.cells] at hcs
      obtain ⟨rfl, rfl, rfl⟩ := hcs
      obtain ⟨f, hfr⟩ := Go.Deep.choose_lt (α := List UInt8) (n := len0) (p := fun r bs => L r = bs.length ∧ Arg W W.heap.size (A r) (C r) bs) (fun r hr => by
        obtain ⟨_, e1, e2, e3, e4, e5, e6⟩ := hrow r (by omega)
        refine arg_of_row (zs := Z r) ?_
        cases hA : A r with
        | none =>
          have hC := e5 hA
          rw [hC] at e1 e3 ⊢
          exact .inl ⟨rfl, by omega, rfl, List.eq_nil_of_length_eq_zero e3⟩
        | some a' => exact .inr ⟨a', rfl, e1, e2, e3, fun i hi => (e6 a' hA).2 i (by omega), e4⟩)
      refine ⟨(List.range len0).map f, by simp, fun hn => ?_, by simp; omega, fun b hb => ?_⟩
      · have hn0 : 0 < len0 := by simpa using hn
        have hc0 := (hrow 0 (by omega)).1
        have hlt := cell_block hc0
        obtain ⟨b, off, spot⟩ := x
        have hspot : spot = none := by simpa [Addr.add] using World.cell?_spot hc0
        subst hspot
        refine ⟨b, off, rfl, by simpa [Addr.add] using hlt, fun j bs hj => ?_⟩
        have hjl : j < len0 := by
          have := (List.getElem?_eq_some_iff.1 hj).1
          simpa using this
        have hbs : f j = bs := by
          rw [List.getElem?_map, List.getElem?_range hjl] at hj
          simpa using hj
        obtain ⟨e1, e2⟩ := hfr j hjl
        have hcj := (hrow j (by omega)).1
        rw [add_off, e1, hbs] at hcj
        rw [hbs] at e2
        exact ⟨A j, C j, hcj, e2⟩
      · obtain ⟨j, hj, rfl⟩ := List.mem_map.1 hb
        have hjl : j < len0 := by simpa using hj
        have := (hfr j hjl).1
        have := hrow j (by omega)
        omega
  obtain ⟨a1, rfl, rfl, rfl, w1⟩ := open_int Try.underlying3 (hval 1 3 v1 rfl rfl) h1
  clear hA0 hval0
  refine (walk a0 len0 cap0 ps a1 W w0 w1).mono fun e W' ⟨he, bel⟩ => ?_
  subst he
  exact ⟨_, rfl, _, _, _, [], _, [], hW', trodAll_mk1 (shut_bool Try.underlying4 _), (trodAll_cons_mk (Below.trod laidOut (by kernel_rfl) (of_decide_eq_true (by kernel_rfl)) k0 bel lt0) (trodAll_cons_mk (shut_int Try.underlying3 w1) trodAll_mk0)), rfl, bel.frame _, fun h => by cases h⟩

theorem over : Rows.sumTellsRow.holds Try.pinned (OpenSpec.ofChange Rows.sumTellsSpec) :=
  OpenClaim.holds_of_wide 7 Try.f7 rfl rfl rfl rfl rfl rfl rfl ⟨rfl, rfl, rfl, rfl, rfl⟩ rfl rfl rfl rfl rfl (by kernel_rfl) Try.func7 (by kernel_rfl)
    (of_decide_eq_true (by kernel_rfl)) (by unfold Func.isWrapper; first | (rw [if_pos (by decide +kernel)]; kernel_rfl) | (rw [if_neg (by decide +kernel)]; exact ⟨rfl, rfl⟩))
    (fun os started H enc _ => lifted os started H enc)

theorem proved : Rows.SumTellsSaid := over
end Go.Proofs.Ytjemkbjofebinaa.sumTells
