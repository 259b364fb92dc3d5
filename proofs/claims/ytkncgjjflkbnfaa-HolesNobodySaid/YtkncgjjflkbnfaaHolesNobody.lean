/-
  Whatever the input, HolesNobody answers true and its arguments read as they did: what no call made takes nothing, as the document says. No condition.
-/
import Derived.Test.YtkncgjjflkbnfaaRows
import Derived.WalkKit
import Derived.ProofKit
import Derived.OpenShut
import Derived.ChangeOld
import Derived.Below
import Derived.Test.YtkncgjjflkbnfaaMa2
import Derived.Test.YtkncgjjflkbnfaaMa10
namespace Go.Proofs.Ytkncgjjflkbnfaa.holesNobody
open Go.ChangeShapes Go.WideShapes Go.ChangeAt Go.RowKit
set_option linter.unusedVariables false
attribute [local go_sem] Oper.semAt_some

theorem own : ownKnob Try.prog.godebug = none := by kernel_rfl
theorem laidOut : laidOutB Try.prog = true := by kernel_rfl

/-! ### The walk -/
set_option maxRecDepth 100000 in
set_option maxHeartbeats 4000000 in
theorem walk (a0 : Int) (a1 : Bool) (A2 : Option Addr) (c2 : Nat) (b2 : List UInt8) (w : World) (w0 : (Lit.int .i64 a0).wf = true) (h2 : Arg w w.heap.size A2 c2 b2) (m2 : c2 ≤ maxLen) :
    Calls Try.prog 6 #[.int .i64 a0, .bool a1, .slice A2 b2.length c2] w fun e w' => e = .returned (.bool true) ∧ Below w.heap.size w w' := by
  have hb0 := (Below.refl w.heap.size w).alloc (Nat.le_refl _) (.cells #[.bool false] 4)
  have hx0 : Boxed (w.alloc (.cells #[.bool false] 4)) w.heap.size 4 (.bool false) := Boxed.new w 4 (.bool false)
  refine (callsIn_wide (n := 4)).1 ?_
  refine callsIn_of_wp_marks Try.func6 rfl trivial ?_ rfl
  simp only [Try.ntmps6, List.size_toArray, List.length_cons, List.length_nil, Nat.reduceAdd, Nat.reduceSub, Array.replicate_succ, Array.replicate_zero, List.push_toArray, List.append_toArray, List.nil_append, List.cons_append]
  gi_wp2_with (first
    | (refine ⟨trivial, ?_⟩; gi_at_call 24; refine (callsIn_wide.2 (hcGaps_nil w2)).mono ?_; rintro e w3 ⟨Bs, rfl, x3, hseq⟩)
    | (refine ⟨trivial, ?_⟩; gi_at_call 20; refine (callsIn_wide.2 (hcdone_nil w1)).mono ?_; rintro e w2 ⟨rfl, x2⟩)
    | (refine ⟨trivial, ?_⟩; gi_at_call 11; refine (callsIn_wide.2 (awake15 _)).mono ?_; rintro e w1 ⟨rfl, x1⟩))
  have bb2 := (hb0.trans (x1.mono hb0.size)).trans (x2.mono (by have := hb0.size; have := x1.size; omega))
  have bb3 := bb2.trans (x3.mono bb2.size)
  have hx3 : Boxed w3 w.heap.size 4 (.bool false) := by
    have h1 := Boxed.below hx0 x1 (by simp)
    have h2' := Boxed.below h1 x2 (Boxed.lt h1)
    exact Boxed.below h2' x3 (Boxed.lt h2')
  have hz3 := Boxed.lt hx3
  have hW2 := h2.below bb2
  clear hx0 hb0 x1 x2 x3
  refine range_told (by omega) (gf := 70) (lb := #[.pointer (some ⟨Bs, 0, none⟩)]) rfl (enters_of Try.func70 (by kernel_rfl) rfl)
    (hseq (4 - 1) (by omega)) KeepS.trans (fun V l r r' hl hr => KeepS.loop hr) (Below.refl _ _) (fun _ => rfl)
    (fun pre x V l r r' h _ hl => h)
    (fun _ X => Boxed X w.heap.size 4 (.bool false) ∧ Below w.heap.size w X)
    (fun _ _ _ => False)
    (fun pre X Y r hs hg hr => ⟨box_keep hs.1 hg hr, below_keep hs.2 hg hr (by omega) (Nat.le_refl _)⟩)
    (fun cd pre X Y r hs hg hr => hs)
    ⟨hx3, bb3⟩
    (fun x => { tmps := #[.int .i64 a0, .bool a1, .slice A2 b2.length c2, undef, undef, undef, .pointer (some ⟨w.heap.size, 0, none⟩), .pointer none, .slice none 0 0, .bool false, .bool true, .bool false, .tuple #[.slice none 0 0, .bool false], .pointer none, .tuple #[.slice none 0 0, .bool false], .slice none 0 0, .bool false, .pointer none, .func (.func 70) #[] #[.pointer (some ⟨Bs, 0, none⟩)], .int .i64 x.1, .int .i64 x.2, undef, undef, undef, undef, undef, undef, undef, undef, undef, undef, undef, undef, undef, undef, undef, undef, undef, undef, undef, undef, undef, undef, undef, undef, undef], defers := [] }) ?assign ?body ?done ?stop
  case assign =>
    intro l x X K hK
    dsimp only [encG]
    gi_wp2
    exact hK
  case body =>
    rintro l pre x X _ ⟨more, hm⟩
    simp [gapsS] at hm
  case stop =>
    rintro D cd pre X hD _ hf hK
    exact hf.elim
  case done =>
    rintro D xs X hD _ ⟨hxX, hBX⟩ hK
    have hm1 : Marks w3.heap.size X.heap.size [{ target := .collected D, args := #[] }] X := (Marks.push (hi := D) (ds := []) trivial (Nat.le_refl _) hD hK).more (heap_lt hK)
    clear hseq
    gi_upto_region 7 with fail
    refine wpIn_wide.2 ?_
    go_wp2_with (first
      | (go_at_call 16; refine (hcadd_nil a0 a1 _ _).mono ?_; rintro e y1 ⟨rfl, rfl⟩)
      | (go_at_call 18; refine (hcbytes_nil _).mono ?_; rintro e y1 ⟨rfl, rfl⟩)
      | (go_at_call 14; refine (hcroom_nil a0 _ _).mono ?_; rintro e y1 ⟨rfl, rfl⟩)
      | (go_at_call 11; refine (awake15 _).mono ?_; rintro e y2 ⟨rfl, x4⟩; have hx4 := Boxed.below hxX x4 (Boxed.lt hxX); have k4 := Boxed.cell hx4; have f4 := Boxed.frozen hx4))
    have b4 := hBX.trans (x4.mono hBX.size)
    have hmr : Marks w3.heap.size X.heap.size [{ target := .collected D, args := #[] }] (y2.setCell ⟨w.heap.size, 0, none⟩ (.bool true)) :=
      hm1.keep (fun k h1 h2 => (Below.heap_setCell _ _ _ _ (by simp; omega)).trans (x4.block k h2))
    gi_wp2
    refine leaves_marks w3.heap.size (fun Y => Boxed Y w.heap.size 4 (.bool true) ∧ Below w.heap.size w Y)
      (fun Y D hY h1 h2 => ⟨box_keep (n := w3.heap.size) hY.1 (grownBy_putObj' Y D _) (fun k e => by cases e; exact ⟨h1, _, h2, rfl⟩), hY.2.trans (belowK_b (w := w) (Nat.le_refl _) Y D _ _ (by omega) h2 rfl rfl)⟩)
      (fun Y hY => ⟨_, cell1b rfl rfl hY.1, rfl, hY.2⟩) _ _ _ hmr ⟨Boxed.set _ hx4, b4.setCell (p := ⟨w.heap.size, 0, none⟩) (by simp) _⟩

/-! ### The row's step -/
set_option maxRecDepth 100000 in
theorem lifted (os : Os) (started : os.Started) (H : Type) (enc : TypeId × Value → H) :
    ReturnsInHanded {} Try.checked os 6 .any (Rows.holesNobodySpec.pre6 enc Try.prog Try.f6 Rows.holesNobodyRow.domain false) (Rows.holesNobodySpec.post enc Try.prog Try.f6 false true false false) := by
  refine returnsInHanded_of_change (C := Try.checked) own started (by kernel_rfl) Try.func6
    (ChangeSpec.witness6 (enc := enc) (C := Try.checked) false ⟨#[], #[.int .i64 0, .bool false, .slice none 0 0], []⟩ 8 (by kernel_rfl) (by kernel_rfl) (by kernel_rfl) (by kernel_rfl)) ?_
  intro W base args ds gs before hval0 hW hcnd _
  have hval : ∀ (j : Nat) t v, Try.f6.params[j]? = some t → args[j]? = some v → Value.okWide Try.prog W .any base t v := hval0
  have hW' := hW
  obtain ⟨p, q, hA0, hV, rfl, hfz, hnd⟩ := hW
  have hA : DataW.TrodAll enc Try.prog W 0 (fun _ => true) true Try.f6.params.toList args.toList ds p := hA0
  rw [Try.params6] at hA hval
  obtain ⟨v0, vs0, d0, ds0, p0, q0, hargs, rfl, rfl, t0, r0⟩ := trodAll_cons hA
  obtain ⟨v1, vs1, d1, ds1, p1, q1, rfl, rfl, rfl, t1, r1⟩ := trodAll_cons r0
  obtain ⟨v2, vs2, d2, ds2, p2, q2, rfl, rfl, rfl, t2, r2⟩ := trodAll_cons r1
  obtain ⟨rfl, rfl, rfl⟩ := trodAll_nil r2
  obtain rfl : args = #[v0, v1, v2] := by cases args; simp_all
  obtain ⟨rfl, rfl⟩ := trodVars_none hV
  have k0 := t0
  have lt0 := Trod_lt t0
  have k1 := t1
  have lt1 := Trod_lt t1
  have k2 := t2
  have lt2 := Trod_lt t2
  obtain ⟨a0, rfl, w0⟩ := get_int Try.underlying3 (hval 0 3 v0 rfl rfl) t0
  obtain ⟨a1, rfl⟩ := get_bool Try.underlying4 (hval 1 4 v1 rfl rfl) t1
  obtain ⟨A2, c2, b2, rfl, h2, m2⟩ := get_bytes Try.underlying30 Try.underlying5 (by kernel_rfl) (hval 2 30 v2 rfl rfl) t2
  clear hA0 hval0
  refine (walk a0 a1 A2 c2 b2 W w0 h2 m2).mono fun e W' ⟨he, bel⟩ => ?_
  subst he
  exact ⟨_, rfl, _, _, _, [], _, [], hW', trodAll_mk1 (shut_bool Try.underlying4 _), (trodAll_cons_mk (Below.trod laidOut (by kernel_rfl) (of_decide_eq_true (by kernel_rfl)) k0 bel lt0) (trodAll_cons_mk (Below.trod laidOut (by kernel_rfl) (of_decide_eq_true (by kernel_rfl)) k1 bel lt1) (trodAll_cons_mk (Below.trod laidOut (by kernel_rfl) (of_decide_eq_true (by kernel_rfl)) k2 bel lt2) trodAll_mk0))), rfl, bel.frame _, fun h => by cases h⟩

theorem over : Rows.holesNobodyRow.holds Try.pinned (OpenSpec.ofChange Rows.holesNobodySpec) :=
  OpenClaim.holds_of_wide 6 Try.f6 rfl rfl rfl rfl rfl rfl rfl ⟨rfl, rfl, rfl, rfl, rfl⟩ rfl rfl rfl rfl rfl (by kernel_rfl) Try.func6 (by kernel_rfl)
    (of_decide_eq_true (by kernel_rfl)) (by unfold Func.isWrapper; first | (rw [if_pos (by decide +kernel)]; kernel_rfl) | (rw [if_neg (by decide +kernel)]; exact ⟨rfl, rfl⟩))
    (fun os started H enc _ => lifted os started H enc)

theorem proved : Rows.HolesNobodySaid := over
end Go.Proofs.Ytkncgjjflkbnfaa.holesNobody
