/-
  Whatever the key and the number, HashNobody answers true and its arguments read as they did: a table that no call made takes nothing. No condition.
-/
import Derived.Test.YthdaclbgandmcaaRows
import Derived.WalkKit
import Derived.ProofKit
import Derived.OpenShut
import Derived.ChangeOld
import Derived.Below
import Derived.Test.YthdaclbgandmcaaHa3
import Derived.Test.YthdaclbgandmcaaHb1
namespace Go.Proofs.Ythdaclbgandmcaa.hashNobody
open Go.ChangeShapes Go.WideShapes Go.ChangeAt Go.RowKit
set_option linter.unusedVariables false
attribute [local go_sem] Oper.semAt_some

theorem own : ownKnob Try.prog.godebug = none := by kernel_rfl
theorem laidOut : laidOutB Try.prog = true := by kernel_rfl

/-! ### The walk -/
set_option maxRecDepth 100000 in
set_option maxHeartbeats 4000000 in
theorem walk (a0 : ByteArray) (a1 : Int) (w : World) (w0 : a0.size ≤ maxLen) (w1 : (Lit.int .i64 a1).wf = true) :
    Calls Try.prog 10 #[.string a0, .int .i64 a1] w fun e w' => e = .returned (.bool true) ∧ Below w.heap.size w w' := by
  have hb0 := (Below.refl w.heap.size w).alloc (Nat.le_refl _) (.cells #[.bool false] 4)
  have hx0 : Boxed (w.alloc (.cells #[.bool false] 4)) w.heap.size 4 (.bool false) := Boxed.new w 4 (.bool false)
  refine (callsIn_wide (n := 4)).1 ?_
  refine callsIn_of_wp_marks Try.func10 rfl trivial ?_ rfl
  simp only [Try.ntmps10, List.size_toArray, List.length_cons, List.length_nil, Nat.reduceAdd, Nat.reduceSub, Array.replicate_succ, Array.replicate_zero, List.push_toArray, List.append_toArray, List.nil_append, List.cons_append]
  gi_wp2_with (first
    | (refine ⟨trivial, ?_⟩; gi_at_call 43; refine (callsIn_wide.2 (hsall_nil _)).mono ?_; rintro e w3 ⟨rfl, A3, c3, hb3, hr3, hg3, x3⟩)
    | (refine ⟨trivial, ?_⟩; gi_at_call 31; refine (callsIn_wide.2 (awake18 _)).mono ?_; rintro e w1 ⟨rfl, x1⟩))
  have hxA : Boxed w1 w.heap.size 4 (.bool false) := Boxed.below hx0 x1 (by simp)
  have hz1 := Boxed.lt hxA
  have bb1 : Below w.heap.size w w1 := hb0.trans (x1.mono (by simp))
  have bz : Below w1.heap.size w1 (w1.alloc (.cells #[.slice none 0 0, .int .i64 0, .int .i64 0] 81)) := (Below.refl _ _).alloc (Nat.le_refl _) _
  have hzt : (w1.alloc (.cells #[.slice none 0 0, .int .i64 0, .int .i64 0] 81)).cell? ⟨w1.heap.size, 0, none⟩ = some (.slice none 0 0) := cells_at (i := 0) (World.alloc_heap_new w1 _) rfl
  have hsz : (w1.alloc (.cells #[.slice none 0 0, .int .i64 0, .int .i64 0] 81)).heap.size = w1.heap.size + 1 := by simp
  generalize (w1.alloc (.cells #[.slice none 0 0, .int .i64 0, .int .i64 0] 81)) = W2 at *
  have hx3 : Boxed w3 w.heap.size 4 (.bool false) := Boxed.below (Boxed.below hxA bz hz1) x3 (by omega)
  have hz3 : w3.cell? ⟨w1.heap.size, 0, none⟩ = some (.slice none 0 0) := (x3.cell (p := ⟨w1.heap.size, 0, none⟩) (by show w1.heap.size < _; omega)).trans hzt
  have bb3 : Below w.heap.size w w3 := (bb1.trans (bz.mono bb1.size)).trans (x3.mono (by omega))
  have hseq := all2_seq _ c3 _ A3 [] w3 hb3.cell hr3 (Nat.le_refl _) (by decide) (4 - 1) (by decide)
  have hz3s := x3.size
  clear hx0 hb0 x1 hxA bz hzt hb3 hr3 hg3
  rw [hsz] at hseq hz3s
  refine range_told (by omega) (gf := 82) (lb := #[.pointer (some ⟨w1.heap.size + 1, 0, none⟩)]) rfl (enters_of Try.func82 (by kernel_rfl) rfl)
    hseq KeepA.trans (fun V l r r' hl hr => KeepA.loop hr) (Below.refl _ _) (fun _ => rfl)
    (fun pre x V l r r' h _ hl => h)
    (fun _ X => Boxed X w.heap.size 4 (.bool false) ∧ X.cell? ⟨w1.heap.size, 0, none⟩ = some (.slice none 0 0) ∧ Below w.heap.size w X)
    (fun _ _ _ => False)
    (fun pre X Y r hs hg hr => ⟨box_keep hs.1 hg hr, cell_kept hs.2.1 hg (fun k e => (hr k e).2), below_keep hs.2.2 hg hr (by omega) (Nat.le_refl _)⟩)
    (fun cd pre X Y r hs hg hr => hs)
    ⟨hx3, hz3, bb3⟩
    (fun x => { tmps := #[.string a0, .int .i64 a1, undef, undef, .pointer (some ⟨w.heap.size, 0, none⟩), .pointer none, .pointer (some ⟨w1.heap.size, 0, none⟩), undef, undef, .bool true, .bool false, .pointer none, .func (.func 82) #[] #[.pointer (some ⟨w1.heap.size + 1, 0, none⟩)], .string (strB x.key), .int .i64 x.n, undef, undef, undef, undef, undef, undef, undef, undef, undef, undef, undef, undef, undef, undef, undef, undef, undef, undef, undef, undef, undef, undef, undef, undef, undef, undef, undef, undef, undef, undef, undef, undef, undef, undef, undef, undef, undef, undef], defers := [] }) ?assign ?body ?done ?stop
  case assign =>
    intro l x X K hK
    dsimp only [encE]
    gi_wp2
    exact hK
  case body =>
    rintro l pre x X _ ⟨more, hm⟩
    simp at hm
  case stop =>
    rintro D cd pre X hD _ hf hK
    exact hf.elim
  case done =>
    rintro D xs X hD _ ⟨hxX, hzX, hBX⟩ hK
    have hm1 : Marks w3.heap.size X.heap.size [{ target := .collected D, args := #[] }] X := (Marks.push (hi := D) (ds := []) trivial (Nat.le_refl _) hD hK).more (heap_lt hK)
    have hxl := Boxed.lt hxX
    clear hseq
    gi_upto_region 7 with fail
    refine wpIn_wide.2 ?_
    go_wp2_with (go_at_call 38; refine (hsget_zero _ a0 _ hzX).mono ?_; rintro e y1 ⟨rfl, rfl⟩)
    gi_upto_region 8 with fail
    refine wpIn_wide.2 ?_
    go_wp2_with (first
      | (go_at_call 34; (with_reducible refine (hsput_nil a0 a1 _).mono ?_); rintro e y1 ⟨rfl, rfl⟩)
      | (go_at_call 34; (with_reducible refine (hsput_zero _ a0 a1 _ hzX).mono ?_); rintro e y1 ⟨rfl, rfl⟩)
      | (go_at_call 36; refine (hsdel_nil a0 _).mono ?_; rintro e y1 ⟨rfl, rfl⟩)
      | (go_at_call 42; (with_reducible refine (hslen_nil _).mono ?_); rintro e y1 ⟨rfl, rfl⟩)
      | (go_at_call 42; (with_reducible refine (hslen_zero _ _ hzX).mono ?_); rintro e y1 ⟨rfl, rfl⟩)
      | (go_at_call 31; refine (awake18 _).mono ?_; rintro e y2 ⟨rfl, x4⟩; have hx4 := Boxed.below hxX x4 (Boxed.lt hxX); have k4 := Boxed.cell hx4; have f4 := Boxed.frozen hx4))
    have b4 := hBX.trans (x4.mono hBX.size)
    have hmr : Marks w3.heap.size X.heap.size [{ target := .collected D, args := #[] }] (y2.setCell ⟨w.heap.size, 0, none⟩ (.bool true)) :=
      hm1.keep (fun k h1 h2 => (Below.heap_setCell _ _ _ _ (by simp; omega)).trans (x4.block k h2))
    gi_wp2
    refine leaves_marks w3.heap.size (fun Y => Boxed Y w.heap.size 4 (.bool true) ∧ Below w.heap.size w Y)
      (fun Y D hY h1 h2 => ⟨box_keep (n := w3.heap.size) hY.1 (grownBy_putObj' Y D _) (fun k e => by cases e; exact ⟨h1, _, h2, rfl⟩), hY.2.trans (belowK_b (w := w) (Nat.le_refl _) Y D _ _ (by omega) h2 rfl rfl)⟩)
      (fun Y hY => ⟨_, cell1h rfl rfl hY.1, rfl, hY.2⟩) _ _ _ hmr ⟨Boxed.set _ hx4, b4.setCell (p := ⟨w.heap.size, 0, none⟩) (by simp) _⟩

/-! ### The row's step -/
set_option maxRecDepth 100000 in
theorem lifted (os : Os) (started : os.Started) (H : Type) (enc : TypeId × Value → H) :
    ReturnsInHanded {} Try.checked os 10 .any (Rows.hashNobodySpec.pre6 enc Try.prog Try.f10 Rows.hashNobodyRow.domain false) (Rows.hashNobodySpec.post enc Try.prog Try.f10 false true false false) := by
  refine returnsInHanded_of_change (C := Try.checked) own started (by kernel_rfl) Try.func10
    (ChangeSpec.witness6 (enc := enc) (C := Try.checked) false ⟨#[], #[.string ByteArray.empty, .int .i64 0], []⟩ 8 (by kernel_rfl) (by kernel_rfl) (by kernel_rfl) (by kernel_rfl)) ?_
  intro W base args ds gs before hval0 hW hcnd _
  have hval : ∀ (j : Nat) t v, Try.f10.params[j]? = some t → args[j]? = some v → Value.okWide Try.prog W .any base t v := hval0
  have hW' := hW
  obtain ⟨p, q, hA0, hV, rfl, hfz, hnd⟩ := hW
  have hA : DataW.TrodAll enc Try.prog W 0 (fun _ => true) true Try.f10.params.toList args.toList ds p := hA0
  rw [Try.params10] at hA hval
  obtain ⟨v0, vs0, d0, ds0, p0, q0, hargs, rfl, rfl, t0, r0⟩ := trodAll_cons hA
  obtain ⟨v1, vs1, d1, ds1, p1, q1, rfl, rfl, rfl, t1, r1⟩ := trodAll_cons r0
  obtain ⟨rfl, rfl, rfl⟩ := trodAll_nil r1
  obtain rfl : args = #[v0, v1] := by cases args; simp_all
  obtain ⟨rfl, rfl⟩ := trodVars_none hV
  have k0 := t0
  have lt0 := Trod_lt t0
  have k1 := t1
  have lt1 := Trod_lt t1
  obtain ⟨a0, rfl, w0⟩ := get_str Try.underlying9 (hval 0 9 v0 rfl rfl) t0
  obtain ⟨a1, rfl, w1⟩ := get_int Try.underlying3 (hval 1 3 v1 rfl rfl) t1
  clear hA0 hval0
  refine (walk a0 a1 W w0 w1).mono fun e W' ⟨he, bel⟩ => ?_
  subst he
  exact ⟨_, rfl, _, _, _, [], _, [], hW', trodAll_mk1 (shut_bool Try.underlying4 _), (trodAll_cons_mk (Below.trod laidOut (by kernel_rfl) (of_decide_eq_true (by kernel_rfl)) k0 bel lt0) (trodAll_cons_mk (Below.trod laidOut (by kernel_rfl) (of_decide_eq_true (by kernel_rfl)) k1 bel lt1) trodAll_mk0)), rfl, bel.frame _, fun h => by cases h⟩

theorem over : Rows.hashNobodyRow.holds Try.pinned (OpenSpec.ofChange Rows.hashNobodySpec) :=
  OpenClaim.holds_of_wide 10 Try.f10 rfl rfl rfl rfl rfl rfl rfl ⟨rfl, rfl, rfl, rfl, rfl⟩ rfl rfl rfl rfl rfl (by kernel_rfl) Try.func10 (by kernel_rfl)
    (of_decide_eq_true (by kernel_rfl)) (by unfold Func.isWrapper; first | (rw [if_pos (by decide +kernel)]; kernel_rfl) | (rw [if_neg (by decide +kernel)]; exact ⟨rfl, rfl⟩))
    (fun os started H enc _ => lifted os started H enc)

theorem proved : Rows.HashNobodySaid := over
end Go.Proofs.Ythdaclbgandmcaa.hashNobody
