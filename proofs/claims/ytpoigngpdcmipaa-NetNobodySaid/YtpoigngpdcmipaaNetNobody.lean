/-
  For any item and any number goosepondlaw34.NetNobody answers true: what no call made has nothing on its way. Conditions: none but the statement's own.
-/
import Derived.Test.YtpoigngpdcmipaaRows
import Derived.WalkKit
import Derived.ProofKit
import Derived.OpenShut
import Derived.ChangeOld
import Derived.Below
import Derived.Test.YtpoigngpdcmipaaNa2
import Derived.Test.YtpoigngpdcmipaaNb1
namespace Go.Proofs.Ytpoigngpdcmipaa.netNobody
open Go.ChangeShapes Go.WideShapes Go.ChangeAt Go.RowKit
set_option linter.unusedVariables false
attribute [local go_sem] Oper.semAt_some

theorem own : ownKnob Try.prog.godebug = none := by kernel_rfl
theorem laidOut : laidOutB Try.prog = true := by kernel_rfl

/-! ### The walk -/
set_option maxRecDepth 100000 in
set_option maxHeartbeats 4000000 in
theorem walk (x0 : PI34) (A0 : Option Addr) (c0 : Nat) (a1 : Int) (w : World) (h0 : Arg w w.heap.size A0 c0 x0.b) (m0 : c0 ≤ maxLen) (w0 : x0.fits) (w1 : (Lit.int .i64 a1).wf = true) :
    Calls Try.prog 5 #[nisv x0 A0 c0, .int .i64 a1] w fun e w' => e = .returned (.bool true) ∧ Below w.heap.size w w' := by
  obtain ⟨V, hV⟩ : ∃ V, V = (w.alloc (.cells #[.int .i64 x0.n, .bool x0.up, .slice A0 x0.b.length c0] 33)).alloc (.cells #[.bool false] 4) := ⟨_, rfl⟩
  have hb0 : Below w.heap.size w V := by rw [hV]; exact ((Below.refl w.heap.size w).alloc (Nat.le_refl _) _).alloc (by simp) _
  have hx0 : Boxed V (w.heap.size + 1) 4 (.bool false) := by rw [hV]; have h1 := Boxed.new (w.alloc (.cells #[.int .i64 x0.n, .bool x0.up, .slice A0 x0.b.length c0] 33)) 4 (.bool false); simpa using h1
  have hi0 : V.heap[w.heap.size]? = some (.cells #[.int .i64 x0.n, .bool x0.up, .slice A0 x0.b.length c0] 33 (0, 0)) := by
    rw [hV]
    have a1 := (Below.refl (w.heap.size + 1) (w.alloc (.cells #[.int .i64 x0.n, .bool x0.up, .slice A0 x0.b.length c0] 33))).alloc (by simp) (.cells #[.bool false] 4)
    exact (a1.block _ (by omega)).trans (World.alloc_heap_new w _)
  have HV := Lib.hid hV
  have HB0 := Lib.hid hb0
  have HX0 := Lib.hid hx0
  have HI0 := Lib.hid hi0
  clear hV hb0 hx0 hi0 h0 m0 w0 w1
  refine (callsIn_wide (n := 4)).1 ?_
  refine callsIn_of_wp_marks Try.func5 rfl trivial ?_ rfl
  simp only [nisv, Try.ntmps5, List.size_toArray, List.length_cons, List.length_nil, Nat.reduceAdd, Nat.reduceSub, Array.replicate_succ, Array.replicate_zero, List.push_toArray, List.append_toArray, List.nil_append, List.cons_append]
  gi_upto_region 1 with fail
  rw [← HV.out]
  gi_upto_region 3 with (refine ⟨trivial, ?_⟩; gi_at_call 6; refine (callsIn_wide.2 (awake34 _)).mono ?_; rintro e w1 ⟨rfl, x1⟩)
  gi_upto_region 5 with fail
  obtain ⟨W, hW⟩ : ∃ W, W = w1.alloc (.cells #[.bool false, .int .i64 0, .slice none 0 0] 57) := ⟨_, rfl⟩
  have bW : Below w1.heap.size w1 W := by rw [hW]; exact (Below.refl _ w1).alloc (Nat.le_refl _) _
  have bV := x1.trans (bW.mono x1.size)
  have n1 : NN w #[.int .i64 x0.n, .bool x0.up, .slice A0 x0.b.length c0] w1.heap.size false W :=
    ⟨Boxed.below HX0.out bV (Boxed.lt HX0.out), (bV.block _ (heap_lt HI0.out)).trans HI0.out, by rw [hW]; exact World.alloc_heap_new w1 _, HB0.out.trans (bV.mono HB0.out.size), Nat.lt_of_lt_of_le (Boxed.lt HX0.out) x1.size⟩
  have HN1 := Lib.hid n1
  rw [← hW]
  generalize w1.heap.size = g at *
  clear hW bW bV x1 n1 HX0 HI0 HV HB0
  refine wpIn_wide.2 ?_
  go_wp2_with (first
    | ((with_reducible show wpList _ _ _ (Oper.mk _ (Op.store 33 _ _) _ _ _ _ :: _) _ _); refine nis_store_new (cs := #[.int .i64 0, .bool false, .slice none 0 0]) rfl rfl rfl rfl (by simp [Value.oneCell']) ?_)
    | (go_at_call 12; refine (nttake_nil _ _).mono ?_; rintro e w5 ⟨rfl, x5⟩))
  have n2 := HN1.out.below (x5.trans (((Below.refl w5.heap.size w5).alloc (Nat.le_refl _) (.cells #[.int .i64 0, .bool false, .slice none 0 0] 33)).mono x5.size))
  generalize w5.alloc (.cells #[.int .i64 0, .bool false, .slice none 0 0] 33) = X2 at *
  generalize w5.heap.size = s5 at *
  have HN2 := Lib.hid n2
  clear n2 x5 HN1
  gi_upto_region 6 with fail
  refine wpIn_wide.2 ?_
  go_wp2_with (first
    | ((with_reducible show wpList _ _ _ (Oper.mk _ (Op.store 33 _ _) _ _ _ _ :: _) _ _); refine nis_store_new (cs := #[.int .i64 0, .bool false, .slice none 0 0]) rfl rfl rfl rfl (by simp [Value.oneCell']) ?_)
    | (go_at_call 9; refine (ntlook_zero HN2.out.z _).mono ?_; rintro e w6 ⟨rfl, x6⟩))
  have n3 := HN2.out.below (x6.trans (((Below.refl w6.heap.size w6).alloc (Nat.le_refl _) (.cells #[.int .i64 0, .bool false, .slice none 0 0] 33)).mono x6.size))
  generalize w6.alloc (.cells #[.int .i64 0, .bool false, .slice none 0 0] 33) = X3 at *
  generalize w6.heap.size = s6 at *
  have HN3 := Lib.hid n3
  clear n3 x6 HN2
  gi_wp2_with (refine ⟨trivial, ?_⟩; gi_at_call 17; refine (callsIn_wide.2 (ntall_nil _)).mono ?_; rintro e w7 ⟨B, rfl, hB, x7⟩)
  have HN7 := Lib.hid (HN3.out.below x7)
  have hz7 := Boxed.lt HN7.out.res
  have hn7 := heap_lt HN7.out.net
  clear x7 HN3
  refine wpIn_actN (fun ac hac => ?_)
  refine range_told (by omega) (gf := 24) (lb := #[.pointer (some ⟨B, 0, none⟩)]) (by subst hac; rfl) (enters_of Try.func24 (by kernel_rfl) rfl)
    (ntall1_none 3 B w7 hB) (fun _ _ => trivial) (fun V l r r' hl hr => trivial) (Below.refl _ _) (fun _ => rfl)
    (fun pre x V l r r' h _ hl => h)
    (fun _ X => NN w #[.int .i64 x0.n, .bool x0.up, .slice A0 x0.b.length c0] g false X)
    (fun _ _ _ => False)
    (fun pre X Y r hs hg hr => hs.keep hg (fun k e => ⟨Nat.lt_of_lt_of_le hn7 (hr k e).1, (hr k e).2⟩))
    (fun cd pre X Y r hs hg hr => hs)
    HN7.out
    (fun x => { tmps := (#[26].zip #[undef]).foldl (fun t (p, v) => t.setIfInBounds p v) ac.tmps, defers := [] }) ?assign ?body ?done ?stop
  case assign =>
    intro l x X K hK
    clear hac
    gi_wp2
    first | exact hK | simpa using hK
  case body =>
    rintro l pre x X _ hm
    exact hm.elim
  case stop =>
    rintro D cd pre X hD _ hf hK
    exact hf.elim
  case done =>
    rintro D xs X hD _ hNX hK
    subst hac
    have hm1 : Marks w7.heap.size X.heap.size [{ target := .collected D, args := #[] }] X := (Marks.push (hi := D) (ds := []) trivial (Nat.le_refl _) hD hK).more (heap_lt hK)
    have HNX := Lib.hid hNX
    clear hNX hB
    gi_upto_region 9 with fail
    refine wpIn_wide.2 ?_
    go_wp2_with (first
      | ((with_reducible show wpList _ _ _ (Oper.mk _ (Op.load 33 _) _ _ _ none :: _) _ _); refine wpList_val rfl (run_load_nis (cs := clI ⟨x0, A0, c0⟩) rfl rfl (range_heap HNX.out.itm) rfl) ?_)
      | (go_at_call 14; (with_reducible refine (ntput_nil ⟨x0, A0, c0⟩).mono ?_); rintro e y1 ⟨rfl, x1⟩; have HN1 := Lib.hid (HNX.out.below x1); have HB1 := Lib.hid x1; clear x1)
      | ((with_reducible show wpList _ _ _ (Oper.mk _ (Op.load 33 _) _ _ _ (some _) :: _) _ _); refine wpList_valw (by rfl) (run_load_nis (cs := clI ⟨x0, A0, c0⟩) rfl rfl (range_heap HN1.out.itm) rfl) ?_)
      | (go_at_call 14; (with_reducible refine (ntput_zero HN1.out.z ⟨x0, A0, c0⟩).mono ?_); rintro e y2 ⟨rfl, x2⟩; have HN2 := Lib.hid (HN1.out.below x2); have HB2 := Lib.hid (HB1.out.trans (x2.mono HB1.out.size)); clear x2)
      | (go_at_call 16; (with_reducible refine ntlen_nil.mono ?_); rintro e y3 ⟨rfl, rfl⟩)
      | (go_at_call 16; (with_reducible refine (ntlen_zero HN2.out.z).mono ?_); rintro e y4 ⟨rfl, rfl⟩)
      | (go_at_call 6; refine (awake34 _).mono ?_; rintro e y6 ⟨rfl, x6⟩; have HN6 := Lib.hid (HN2.out.below x6); have HB6 := Lib.hid (HB2.out.trans (x6.mono HB2.out.size)); have k6 := Boxed.cell HN6.out.res; have f6 := Boxed.frozen HN6.out.res; clear x6))
    have hmr : Marks w7.heap.size X.heap.size [{ target := .collected D, args := #[] }] (y6.setCell ⟨w.heap.size + 1, 0, none⟩ (.bool true)) :=
      hm1.keep (fun k h1 h2 => (Below.heap_setCell _ _ _ _ (by simp; omega)).trans (HB6.out.block k h2))
    gi_wp2
    refine leaves_marks w7.heap.size (fun Y => Boxed Y (w.heap.size + 1) 4 (.bool true) ∧ Below w.heap.size w Y)
      (fun Y D hY h1 h2 => ⟨box_keep (n := w7.heap.size) hY.1 (grownBy_putObj' Y D _) (fun k e => by cases e; exact ⟨h1, _, h2, rfl⟩), hY.2.trans (belowK_b (w := w) (Nat.le_refl _) Y D _ _ (by omega) h2 rfl rfl)⟩)
      (fun Y hY => ⟨_, cell1n rfl rfl hY.1, rfl, hY.2⟩) _ _ _ hmr ⟨Boxed.set _ HN6.out.res, HN6.out.bel.setCell (p := ⟨w.heap.size + 1, 0, none⟩) (by simp) _⟩

/-! ### The row's step -/
set_option maxRecDepth 100000 in
theorem lifted (os : Os) (started : os.Started) (H : Type) (enc : TypeId × Value → H) :
    ReturnsInHanded {} Try.checked os 5 .any (Rows.netNobodySpec.pre6 enc Try.prog Try.f5 Rows.netNobodyRow.domain false) (Rows.netNobodySpec.post enc Try.prog Try.f5 false true false false) := by
  refine returnsInHanded_of_change (C := Try.checked) own started (by kernel_rfl) Try.func5
    (ChangeSpec.witness6 (enc := enc) (C := Try.checked) false ⟨#[], #[.agg #[.int .i64 0, .bool false, .slice none 0 0], .int .i64 0], []⟩ 8 (by kernel_rfl) (by kernel_rfl) (by kernel_rfl) (by kernel_rfl)) ?_
  intro W base args ds gs before hval0 hW hcnd _
  have hval : ∀ (j : Nat) t v, Try.f5.params[j]? = some t → args[j]? = some v → Value.okWide Try.prog W .any base t v := hval0
  have hW' := hW
  obtain ⟨p, q, hA0, hV, rfl, hfz, hnd⟩ := hW
  have hA : DataW.TrodAll enc Try.prog W 0 (fun _ => true) true Try.f5.params.toList args.toList ds p := hA0
  rw [Try.params5] at hA hval
  obtain ⟨v0, vs0, d0, ds0, p0, q0, hargs, rfl, rfl, t0, r0⟩ := trodAll_cons hA
  obtain ⟨v1, vs1, d1, ds1, p1, q1, rfl, rfl, rfl, t1, r1⟩ := trodAll_cons r0
  obtain ⟨rfl, rfl, rfl⟩ := trodAll_nil r1
  obtain rfl : args = #[v0, v1] := by cases args; simp_all
  obtain ⟨rfl, rfl⟩ := trodVars_none hV
  have k0 := t0
  have lt0 := Trod_lt t0
  have k1 := t1
  have lt1 := Trod_lt t1
  obtain ⟨x0, A0, c0, rfl, h0, m0, w0⟩ := get_nis (hval 0 33 v0 rfl rfl) t0
  obtain ⟨a1, rfl, w1⟩ := get_int Try.underlying3 (hval 1 3 v1 rfl rfl) t1
  clear hA0 hval0
  refine (walk x0 A0 c0 a1 W h0 m0 w0 w1).mono fun e W' ⟨he, bel⟩ => ?_
  subst he
  exact ⟨_, rfl, _, _, _, [], _, [], hW', trodAll_mk1 (shut_bool Try.underlying4 _), (trodAll_cons_mk (Below.trod laidOut (by kernel_rfl) (of_decide_eq_true (by kernel_rfl)) k0 bel lt0) (trodAll_cons_mk (Below.trod laidOut (by kernel_rfl) (of_decide_eq_true (by kernel_rfl)) k1 bel lt1) trodAll_mk0)), rfl, bel.frame _, fun h => by cases h⟩

theorem over : Rows.netNobodyRow.holds Try.pinned (OpenSpec.ofChange Rows.netNobodySpec) :=
  OpenClaim.holds_of_wide 5 Try.f5 rfl rfl rfl rfl rfl rfl rfl ⟨rfl, rfl, rfl, rfl, rfl⟩ rfl rfl rfl rfl rfl (by kernel_rfl) Try.func5 (by kernel_rfl)
    (of_decide_eq_true (by kernel_rfl)) (by unfold Func.isWrapper; first | (rw [if_pos (by decide +kernel)]; kernel_rfl) | (rw [if_neg (by decide +kernel)]; exact ⟨rfl, rfl⟩))
    (fun os started H enc _ => lifted os started H enc)

theorem proved : Rows.NetNobodySaid := over
end Go.Proofs.Ytpoigngpdcmipaa.netNobody
