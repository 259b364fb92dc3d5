/-
  For every slice of bytes b, goosepondlaw01.BeWords answers true and leaves b as it was: be.Words tells the pairs of b in order, each once, and the numbers that they are.
  Conditions: none but the statement's own.
  The frame round the walk is the kit's own shell for this law.
-/
import Derived.Test.YtjemkbjofebinaaRows
import Derived.WalkKit
import Derived.ProofKit
import Derived.OpenShut
import Derived.ShutString
import Derived.ChangeOld
import Derived.Below
import Derived.Test.YtjemkbjofebinaaRow
namespace Go.Proofs.Ytjemkbjofebinaa.beWords
open Go.ChangeShapes Go.WideShapes Go.ChangeAt Go.RowKit
open Go.ChangeMaps (open_string shut_string)
set_option linter.unusedVariables false
open Go.Shelf
attribute [local go_sem] Oper.semAt_some

theorem own : ownKnob Try.prog.godebug = none := by kernel_rfl
theorem laidOut : laidOutB Try.prog = true := by kernel_rfl

/-! ### The walk -/
theorem walk (a0 : Option Addr) (len0 cap0 : Nat) (z0 : List Int) (w : World) (w0 : IsRow .u8 w a0 len0 cap0 z0) :
    Calls Try.prog 6 #[.slice a0 len0 cap0] w fun e w' => e = .returned (.bool true) ∧ Below w.heap.size w w' := by
  obtain ⟨bs, rfl, h⟩ := arg_of_row w0
  have hr := h.rd
  have hcap := h.cap
  refine (callsIn_wide (n := 4)).1 ?_
  refine callsIn_of_wp_marks Try.func6 rfl trivial ?_ rfl
  simp only [Try.ntmps6, List.size_toArray, List.length_cons, List.length_nil, Nat.reduceAdd, Nat.reduceSub, Array.replicate_succ, Array.replicate_zero, List.push_toArray, List.append_toArray, List.nil_append, List.cons_append]
  have b0 := (Boxed.new w 22 (.slice a0 bs.length cap0)).alloc (.cells #[.bool false] 4)
  have b1 := Boxed.new (w.alloc (.cells #[.slice a0 bs.length cap0] 22)) 4 (.bool false)
  have hB0 : Below w.heap.size w ((w.alloc (.cells #[.slice a0 bs.length cap0] 22)).alloc (.cells #[.bool false] 4)) := ((Below.refl _ w).alloc (Nat.le_refl _) _).alloc (by simp) _
  have b1' : Boxed ((w.alloc (.cells #[.slice a0 bs.length cap0] 22)).alloc (.cells #[.bool false] 4)) (w.heap.size + 1) 4 (.bool false) := by simpa using b1
  clear b1
  by_cases hlen : 2000 < bs.length
  · gi_wp2_with (first
      | (refine ⟨trivial, ?_⟩; gi_at_call 11; refine (callsIn_wide.2 (awake_any _)).mono ?_; rintro e w1 ⟨rfl, hb1⟩;
         have d0 := Boxed.below b0 hb1 (by simp; omega); have d1 := Boxed.below b1' hb1 (by simp); have d0c := d0.cell; have d1c := d1.cell; have d1f := d1.frozen;
         have q1 : Below w.heap.size w w1 := hB0.trans (hb1.mono hB0.size); have f0c := (d0.alloc (.cells #[.int .i64 0] 3)).cell;
         have q2 : Below w.heap.size w (w1.alloc (.cells #[.int .i64 0] 3)) := q1.alloc q1.size _)
      | (refine ⟨trivial, ?_⟩; gi_at_call 11; refine (callsIn_wide.2 (awake_any _)).mono ?_; rintro e w2 ⟨rfl, hb2⟩;
         have e1 := Boxed.below d1 hb2 d1.lt; have e1c := e1.cell; have e1f := e1.frozen))
    have c5 := World.cell?_setCell_same' w2 ⟨w.heap.size + 1, 0, none⟩ (.bool true) (by rw [e1c]; rfl)
    refine ⟨.bool true, ?_, rfl, (q1.trans (hb2.mono q1.size)).setCell (p := ⟨w.heap.size + 1, 0, none⟩) (by simp) _⟩
    simp [results, Try.f6, go_sem, c5]
  · gi_wp2_with (first
      | (refine ⟨trivial, ?_⟩; gi_at_call 11; refine (callsIn_wide.2 (awake_any _)).mono ?_; rintro e w1 ⟨rfl, hb1⟩;
         have d0 := Boxed.below b0 hb1 (by simp; omega); have d1 := Boxed.below b1' hb1 (by simp); have d0c := d0.cell; have d1c := d1.cell; have d1f := d1.frozen;
         have q1 : Below w.heap.size w w1 := hB0.trans (hb1.mono hB0.size); have f0c := (d0.alloc (.cells #[.int .i64 0] 3)).cell;
         have q2 : Below w.heap.size w (w1.alloc (.cells #[.int .i64 0] 3)) := q1.alloc q1.size _)
      | (refine ⟨trivial, ?_⟩; gi_at_call 22; refine (callsIn_wide.2 (words_any _ bs _ _ _ (hr.below q2) q2.size (by omega))).mono ?_; rintro e w2 ⟨Bs, rfl, hbW, hseq⟩))
    have g0 := Boxed.below (d0.alloc (.cells #[.int .i64 0] 3)) hbW (by simp; have := d0.lt; omega)
    have g1 := Boxed.below (d1.alloc (.cells #[.int .i64 0] 3)) hbW (by simp; have := d1.lt; omega)
    have gn := Boxed.below (Boxed.new w1 3 (.int .i64 0)) hbW (by simp)
    have q3 : Below w.heap.size w w2 := q2.trans (hbW.mono q2.size)
    have hs1 : (w1.alloc (.cells #[.int .i64 0] 3)).heap.size = w1.heap.size + 1 := by simp
    have l0 := d0.lt
    have l1 := d1.lt
    have hsz2 := hbW.size
    rw [hs1] at hseq hsz2
    clear b0 b1' hB0 d0 d1 d0c d1c d1f f0c hb1 hbW q1 q2
    refine wpIn_rangeFunc_ownG rfl (by omega) (gf := 44) (lb := #[.pointer (some ⟨Bs, 0, none⟩)]) rfl trivial (enters_of Try.func44 (by kernel_rfl) rfl)
      (hseq (4 - 1) (by omega)) Holds.trans (Holds.b (Nat.le_refl _)) (Below.refl _ _) (fun _ => rfl)
      (fun pre W => (pre = List.range pre.length ∧ Boxed W w.heap.size 22 (.slice a0 bs.length cap0) ∧ Boxed W (w.heap.size + 1) 4 (.bool false) ∧ Boxed W w1.heap.size 3 (.int .i64 (dbl pre.length))) ∧ Below w.heap.size w W)
      (fun c pre _ => c = .ret ∧ pre ≠ List.range pre.length)
      (fun pre X Y r hs hg hr => ⟨⟨hs.1.1, box_keep hs.1.2.1 hg hr, box_keep hs.1.2.2.1 hg hr, box_keep hs.1.2.2.2 hg hr⟩, below_keep hs.2 hg hr (by omega) (Nat.le_refl _)⟩)
      (fun c => ownFrom_pure _ (fun pre => c = .ret ∧ pre ≠ List.range pre.length))
      ⟨⟨rfl, g0, g1, by simpa [dbl] using gn⟩, q3⟩
      (fun x => { tmps := #[.slice a0 bs.length cap0, .pointer (some ⟨w.heap.size, 0, none⟩), .pointer (some ⟨w.heap.size + 1, 0, none⟩), .pointer (some ⟨w1.heap.size, 0, none⟩), .int .i64 (dbl x), .int .i64 (wrd bs x), .bool true, .bool false, .slice a0 bs.length cap0, .int .i64 (bs.length : Int), .bool (decide (2000 < (bs.length : Int))), undef, .slice a0 bs.length cap0, .func (.func 44) #[] #[.pointer (some ⟨Bs, 0, none⟩)], .int .i64 (dbl x), .int .i64 (wrd bs x), undef, undef, undef, undef, undef, undef, undef, undef, undef, undef, undef, undef, undef, undef, undef, undef, undef, undef, undef, undef, undef, undef, undef, undef, undef, undef, undef, undef, undef, undef, undef, undef], defers := [] }) ?assign ?body ?done ?stop
    case assign =>
      intro l x W K hK
      dsimp only [encW]
      gi_wp2
      exact hK
    case body =>
      rintro l pre x W ⟨⟨hp, k0, k1, kn⟩, hB⟩ hlt
      have c0 := k0.cell
      have c1 := k1.cell
      have f1 := k1.frozen
      have cn := kn.cell
      have fn := kn.frozen
      obtain ⟨k, hk⟩ : ∃ k, pre.length = k := ⟨_, rfl⟩
      rw [hk] at hlt hp cn kn
      by_cases hx : x = k
      · subst hx
        have hd := dbl_lt hlt
        have hbd := dbl_bd (n := bs.length) (Nat.le_of_lt hlt)
        have hrW := hr.below hB
        have Hp := Lib.hid hp
        have Hk := Lib.hid hk
        clear hr hp hk
        gi_wp2_with (refine ⟨trivial, ?_⟩; gi_at_call 23; refine (CallsIn.inRound l (callsIn_wide.2 (rword_dbl a0 bs cap0 _ x _ hrW hlt (by omega)))).mono ?_; rintro e w3 ⟨rfl, nq, rfl⟩)
        have e1 : (pre ++ [x]).length = x + 1 := by rw [List.length_append, Hk.out]; rfl
        have hks : KeepsOthers W ((W.drewN nq).setCell ⟨w1.heap.size, 0, none⟩ (.int .i64 (dbl x + 2))) := by
          have := KeepsOthers.setCell (W.drewN nq) ⟨w1.heap.size, 0, none⟩ (.int .i64 (dbl x + 2))
          exact ⟨this.size, this.same⟩
        have hbx := (below_drewN hB nq).setCell (p := ⟨w1.heap.size, 0, none⟩) (Nat.le_of_lt l0) (.int .i64 (dbl x + 2))
        have n0 := Boxed.other (W := W.drewN nq) k0 (B' := w1.heap.size) (by omega) (.int .i64 (dbl x + 2))
        have n1 := Boxed.other (W := W.drewN nq) k1 (B' := w1.heap.size) (by omega) (.int .i64 (dbl x + 2))
        have nn := Boxed.set (W := W.drewN nq) (.int .i64 (dbl x + 2)) kn
        exact ⟨hks.from _, Holds.setCell (W := W.drewN nq) (.inl (by simp)) _, ⟨by rw [e1, List.range_succ, ← Hp.out], n0, n1, by rw [e1, dbl_succ]; exact nn⟩, hbx⟩
      · have hne := dbl_ne hx
        gi_wp2_with (refine ⟨trivial, ?_⟩)
        refine ⟨(KeepsOthers.setCell _ _ _).from _, rfl, fun e => hx ?_⟩
        rw [List.length_append, hk, hp, List.length_singleton, List.range_succ] at e
        simpa using (List.append_inj' e rfl).2
    case done =>
      rintro D ys W hD rfl ⟨⟨hp, k0, k1, kn⟩, hB⟩ hK
      rw [List.length_range] at kn
      have hN := dbl_all bs.length
      have hN1 := hN.1
      have hN2 := hN.2
      have c0 := k0.cell
      have c1 := k1.cell
      have f1 := k1.frozen
      have cn := kn.cell
      have Hp := Lib.hid hp
      clear hp
      gi_wp2_with (refine ⟨trivial, ?_⟩; gi_at_call 11; refine (callsIn_wide.2 (awake_any _)).mono ?_; rintro e w3 ⟨rfl, hb3⟩; have m1 := Boxed.below k1 hb3 k1.lt; have m1c := m1.cell; have m1f := m1.frozen)
      have hK' := (KeepsOthers.setCell w3 ⟨w.heap.size + 1, 0, none⟩ (.bool true)).same D _ ((hb3.block D (heap_lt hK)).trans hK) rfl
      refine ⟨by simp, .inl ⟨_, _, rfl, run_takeDeferred hK', ?_⟩⟩
      have c5 := cell_kept (World.cell?_setCell_same' w3 ⟨w.heap.size + 1, 0, none⟩ (.bool true) (by rw [m1c]; rfl)) (grownBy_putObj' _ D (.deferred none)) (fun r e => by cases e; exact ⟨_, hK', rfl⟩)
      refine ⟨.bool true, ?_, rfl, ((hB.trans (hb3.mono hB.size)).setCell (p := ⟨w.heap.size + 1, 0, none⟩) (by simp) _).trans (belowK_b (w := w) (Nat.le_refl _) _ D _ _ (by omega) hK' rfl rfl)⟩
      simp [results, Try.f6, go_sem, c5]
    case stop =>
      rintro D c pre W hD ⟨k, hk, rfl⟩ ⟨rfl, hne⟩ hK
      exact absurd (by simp) hne

/-! ### The row's step -/
set_option maxRecDepth 100000 in
theorem lifted (os : Os) (started : os.Started) (H : Type) (enc : TypeId × Value → H) :
    ReturnsInHanded {} Try.checked os 6 .any (Rows.beWordsSpec.pre6 enc Try.prog Try.f6 Rows.beWordsRow.domain false) (Rows.beWordsSpec.post enc Try.prog Try.f6 false true false false) := by
  refine returnsInHanded_of_change (C := Try.checked) own started (by kernel_rfl) Try.func6
    (ChangeSpec.witness6 (enc := enc) (C := Try.checked) false ⟨#[], #[.slice none 0 0], []⟩ 8 (by kernel_rfl) (by kernel_rfl) (by kernel_rfl) (by kernel_rfl)) ?_
  intro W base args ds gs before hval0 hW hcnd _
  have hval : ∀ (j : Nat) t v, Try.f6.params[j]? = some t → args[j]? = some v → Value.okWide Try.prog W .any base t v := hval0
  have hW' := hW
  obtain ⟨p, q, hA0, hV, rfl, hfz, hnd⟩ := hW
  have hA : DataW.TrodAll enc Try.prog W 0 (fun _ => true) true Try.f6.params.toList args.toList ds p := hA0
  rw [Try.params6] at hA hval
  obtain ⟨v0, vs0, d0, ds0, p0, q0, hargs, rfl, rfl, h0, r0⟩ := trodAll_cons hA
  obtain ⟨rfl, rfl, rfl⟩ := trodAll_nil r0
  obtain rfl : args = #[v0] := by cases args; simp_all
  obtain ⟨rfl, rfl⟩ := trodVars_none hV
  obtain ⟨a0, len0, cap0, rfl⟩ := okWide_slice Try.underlying22 (hval 0 22 v0 rfl rfl)
  have k0 := h0
  have lt0 : ∀ x ∈ p0, x.block < W.heap.size := by obtain ⟨m, hm⟩ := k0; exact DataW.trod_lt m _ _ _ hm
  obtain ⟨z0, w0⟩ : ∃ zs, IsRow .u8 W a0 len0 cap0 zs := by
    obtain ⟨fuel, hf⟩ := h0
    rcases open_ints Try.underlying22 Try.underlying5 (by kernel_rfl) hf with ⟨hcs, _⟩ | ⟨x, l, c, zs, hcs, _, hl, hm, hz, _, hcell, hwz⟩
    · simp [Value.cells] at hcs
      obtain ⟨rfl, rfl, rfl⟩ := hcs
      exact ⟨[], .inl ⟨rfl, rfl, rfl, rfl⟩⟩
    · simp [Value.cells] at hcs
      obtain ⟨rfl, rfl, rfl⟩ := hcs
      exact ⟨zs, .inr ⟨_, rfl, hl, hm, by simpa using hz, hcell, hwz⟩⟩
  clear hA0 hval0
  refine (walk a0 len0 cap0 z0 W w0).mono fun e W' ⟨he, bel⟩ => ?_
  subst he
  exact ⟨_, rfl, _, _, _, [], _, [], hW', trodAll_mk1 (shut_bool Try.underlying4 _), (trodAll_cons_mk (Below.trod laidOut (by kernel_rfl) (of_decide_eq_true (by kernel_rfl)) k0 bel lt0) trodAll_mk0), rfl, bel.frame _, fun h => by cases h⟩

theorem over : Rows.beWordsRow.holds Try.pinned (OpenSpec.ofChange Rows.beWordsSpec) :=
  OpenClaim.holds_of_wide 6 Try.f6 rfl rfl rfl rfl rfl rfl rfl ⟨rfl, rfl, rfl, rfl, rfl⟩ rfl rfl rfl rfl rfl (by kernel_rfl) Try.func6 (by kernel_rfl)
    (of_decide_eq_true (by kernel_rfl)) (by unfold Func.isWrapper; first | (rw [if_pos (by decide +kernel)]; kernel_rfl) | (rw [if_neg (by decide +kernel)]; exact ⟨rfl, rfl⟩))
    (fun os started H enc _ => lifted os started H enc)

theorem proved : Rows.BeWordsSaid := over
end Go.Proofs.Ytjemkbjofebinaa.beWords
