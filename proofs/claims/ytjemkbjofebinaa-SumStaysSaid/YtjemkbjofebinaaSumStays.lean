/-
  For every four slices of bytes a, b, old and now, goosepondlaw02.SumStays answers true and leaves them as they were: a sum that is right stays right, changed, unless all bytes are 0 then.
  Conditions: none but the statement's own.
  The frame round the walk is the kit's own shell for this law.
-/
import Derived.Test.YtjemkbjofebinaaRows
import Derived.WalkKit
import Derived.ProofKit
import Derived.OpenShut
import Derived.ShutString
import Derived.ChangeOld
import Derived.Below
import Derived.Test.YtjemkbjofebinaaSumE
namespace Go.Proofs.Ytjemkbjofebinaa.sumStays
open Go.ChangeShapes Go.WideShapes Go.ChangeAt Go.RowKit
open Go.ChangeMaps (open_string shut_string)
set_option linter.unusedVariables false
open Go.Shelf
attribute [local go_sem] Oper.semAt_some

theorem own : ownKnob Try.prog.godebug = none := by kernel_rfl
theorem laidOut : laidOutB Try.prog = true := by kernel_rfl

/-! ### The walk -/
theorem walk (a0 : Option Addr) (len0 cap0 : Nat) (z0 : List Int) (a1 : Option Addr) (len1 cap1 : Nat) (z1 : List Int) (a2 : Option Addr) (len2 cap2 : Nat) (z2 : List Int) (a3 : Option Addr) (len3 cap3 : Nat) (z3 : List Int) (w : World) (w0 : IsRow .u8 w a0 len0 cap0 z0) (w1 : IsRow .u8 w a1 len1 cap1 z1) (w2 : IsRow .u8 w a2 len2 cap2 z2) (w3 : IsRow .u8 w a3 len3 cap3 z3) :
    Calls Try.prog 10 #[.slice a0 len0 cap0, .slice a1 len1 cap1, .slice a2 len2 cap2, .slice a3 len3 cap3] w fun e w' => e = .returned (.bool true) ∧ Below w.heap.size w w' := by
  obtain ⟨a, rfl, ha⟩ := arg_of_row w0
  obtain ⟨b, rfl, hb⟩ := arg_of_row w1
  obtain ⟨old, rfl, ho⟩ := arg_of_row w2
  obtain ⟨now, rfl, hn⟩ := arg_of_row w3
  clear w0 w1 w2 w3
  by_cases h500 : a.length ≤ 500 ∧ b.length ≤ 500 ∧ old.length ≤ 500 ∧ now.length ≤ 500
  · obtain ⟨l0, l1, l2, l3⟩ := h500
    have d0 : decide (500 < (a.length : Int)) = false := by simp; omega
    have d1 : decide (500 < (b.length : Int)) = false := by simp; omega
    have d2 : decide (500 < (old.length : Int)) = false := by simp; omega
    have d3 : decide (500 < (now.length : Int)) = false := by simp; omega
    have c0 := ha.cap
    have c2 := ho.cap
    have c3 := hn.cap
    have ka := ha.even
    have kn := hn.even
    have ko := ho.even
    have za := even_len a
    have zn := even_len now
    have zo := even_len old
    obtain ⟨ea, e1⟩ : ∃ x, x = a.take (a.length / 2 * 2) := ⟨_, rfl⟩
    obtain ⟨en, e2⟩ : ∃ x, x = now.take (now.length / 2 * 2) := ⟨_, rfl⟩
    obtain ⟨eo, e3⟩ : ∃ x, x = old.take (old.length / 2 * 2) := ⟨_, rfl⟩
    rw [← e1] at ka za
    rw [← e2] at kn zn
    rw [← e3] at ko zo
    have m0 : ea.length ≤ 500 := by omega
    have m2 : eo.length ≤ 500 := by omega
    have m3 : en.length ≤ 500 := by omega
    have Za := Lib.hid za
    have Zn := Lib.hid zn
    have Zo := Lib.hid zo
    clear e1 e2 e3 za zn zo ha hn ho
    have u1 := bulk3 ea en b
    have u2 := bulk3 ea eo b
    by_cases hz : zeroB [ea, en, b] = true
    · have Hz := Lib.hid hz
      clear hz
      go_enter Try.func10, Try.ntmps10
      go_wp2
      go_region
      go_wp2_with (first
        | (go_at_call 36; refine (zero_three _ [ea, en, b] rfl 3 (w.heap.size + 1) _ (Rd2.three Za.out.symm Zn.out.symm rfl (World.alloc_heap_new w.drew _) (Nat.lt_succ_self _) (((ka.drewN 1).alloc (Nat.le_refl _) _).more (Nat.le_succ _)) (((kn.drewN 1).alloc (Nat.le_refl _) _).more (Nat.le_succ _)) (((hb.drewN 1).alloc (Nat.le_refl _) _).more (Nat.le_succ _))) (by omega)).mono ?_; rintro e w' ⟨rfl, rfl⟩; rw [Hz.out])
        | (go_at_call 25; refine (awake2_any _).mono ?_; rintro e w2 ⟨rfl, hb2⟩))
      go_ret
      exact ⟨rfl, Below.trans ((Below.refl w.heap.size w).drew.alloc (Nat.le_refl _) _) (hb2.mono (by simp))⟩
    · have hz0 : zeroB [ea, en, b] = false := by simpa using hz
      obtain ⟨N, hN⟩ : ∃ N, N = 65535 - fold (psum [ea, eo, b]) := ⟨_, rfl⟩
      obtain ⟨M, hM⟩ : ∃ M, M = chg N eo en := ⟨_, rfl⟩
      obtain ⟨hR, hN0, hN1, hM0, hM1⟩ := stays hz0 hN hM
      have u4 := bulk4 ea en b [hi M, lo M]
      have Hz := Lib.hid hz0
      have HN := Lib.hid hN
      have HM := Lib.hid hM
      have HR := Lib.hid hR
      have E1 := Lib.hid (hi_val hM0 hM1).symm
      have E2 := Lib.hid (lo_val M).symm
      rw [show ([hi M, lo M] : List UInt8).length = 2 from rfl] at u4
      clear hz hz0 hN hM hR
      go_enter Try.func10, Try.ntmps10
      go_wp2
      go_region
      go_wp2_with (first
        | (go_at_call 36; refine (zero_three _ [ea, en, b] rfl 3 (w.heap.size + 1) _ (Rd2.three Za.out.symm Zn.out.symm rfl (World.alloc_heap_new w.drew _) (Nat.lt_succ_self _) (((ka.drewN 1).alloc (Nat.le_refl _) _).more (Nat.le_succ _)) (((kn.drewN 1).alloc (Nat.le_refl _) _).more (Nat.le_succ _)) (((hb.drewN 1).alloc (Nat.le_refl _) _).more (Nat.le_succ _))) (by omega)).mono ?_; rintro e X1 ⟨rfl, hX⟩; rw [Hz.out];
           have q1 : Below w.heap.size w X1 := by (rw [← hX]; exact (Below.refl w.heap.size w).drew.alloc (Nat.le_refl _) _);
           clear hX)
        | (go_at_call 28; refine (of_three (some ⟨X1.heap.size, 0, none⟩) [ea, eo, b] rfl 3 (X1.heap.size + 1) N HN _ (Rd2.three Za.out.symm Zo.out.symm rfl (World.alloc_heap_new X1 _) (Nat.lt_succ_self _) (((ka.below q1).alloc q1.size _).more (Nat.le_succ_of_le q1.size)) (((ko.below q1).alloc q1.size _).more (Nat.le_succ_of_le q1.size)) (((hb.below q1).alloc q1.size _).more (Nat.le_succ_of_le q1.size))) (by simp) (by omega)).mono ?_; rintro e X2 ⟨rfl, hb2⟩;
           have q2 : Below w.heap.size w X2 := (q1.alloc q1.size _).trans (hb2.mono (Nat.le_trans q1.size (by simp))))
        | (go_at_call 34; refine (change_n a2 a3 eo en _ _ cap2 cap3 _ Zo Zn N M HM _ (ko.rd.below q2) (kn.rd.below q2) q2.size (by omega) (by omega)).mono ?_; rintro e X3 ⟨rfl, hb3⟩;
           have q3 : Below w.heap.size w X3 := q2.trans (hb3.mono q2.size))
        | (go_at_call 30; refine (right_four (some ⟨X3.heap.size + 1, 0, none⟩) [ea, en, b, [hi M, lo M]] rfl 4 (X3.heap.size + 2) HR _ (Rd2.four Za.out.symm Zn.out.symm rfl rfl (two_heap X3 _ _) (by omega) ((ka.below q3).two q3.size _ _) ((kn.below q3).two q3.size _ _) ((hb.below q3).two q3.size _ _) (Arg.of_pair _ E1.out E2.out _)) (by simp) (by omega)).mono ?_; rintro e X4 ⟨rfl, hb4⟩;
           have q4 : Below w.heap.size w X4 := ((q3.alloc q3.size _).alloc (Nat.le_trans q3.size (by simp)) _).trans (hb4.mono (Nat.le_trans q3.size (by simp; omega))))
        | (go_at_call 25; refine (awake2_any _).mono ?_; rintro e X5 ⟨rfl, hb5⟩))
      go_ret
      exact ⟨rfl, q4.trans (hb5.mono q4.size)⟩
  · clear ha hb ho hn
    by_cases p0 : a.length ≤ 500
    · have d0 : decide (500 < (a.length : Int)) = false := by simp; omega
      by_cases p1 : b.length ≤ 500
      · have d1 : decide (500 < (b.length : Int)) = false := by simp; omega
        by_cases p2 : old.length ≤ 500
        · have d2 : decide (500 < (old.length : Int)) = false := by simp; omega
          have d3 : decide (500 < (now.length : Int)) = true := by simp; omega
          clear h500 p0 p1 p2
          go_enter Try.func10, Try.ntmps10
          go_wp2_with (go_at_call 25; refine (awake2_any _).mono ?_; rintro e w2 ⟨rfl, hb2⟩)
          go_ret
          exact ⟨rfl, hb2⟩
        · have d2 : decide (500 < (old.length : Int)) = true := by simp; omega
          clear h500 p0 p1 p2
          go_enter Try.func10, Try.ntmps10
          go_wp2_with (go_at_call 25; refine (awake2_any _).mono ?_; rintro e w2 ⟨rfl, hb2⟩)
          go_ret
          exact ⟨rfl, hb2⟩
      · have d1 : decide (500 < (b.length : Int)) = true := by simp; omega
        clear h500 p0 p1
        go_enter Try.func10, Try.ntmps10
        go_wp2_with (go_at_call 25; refine (awake2_any _).mono ?_; rintro e w2 ⟨rfl, hb2⟩)
        go_ret
        exact ⟨rfl, hb2⟩
    · have d0 : decide (500 < (a.length : Int)) = true := by simp; omega
      clear h500 p0
      go_enter Try.func10, Try.ntmps10
      go_wp2_with (go_at_call 25; refine (awake2_any _).mono ?_; rintro e w2 ⟨rfl, hb2⟩)
      go_ret
      exact ⟨rfl, hb2⟩

/-! ### The row's step -/
set_option maxRecDepth 100000 in
theorem lifted (os : Os) (started : os.Started) (H : Type) (enc : TypeId × Value → H) :
    ReturnsInHanded {} Try.checked os 10 .any (Rows.sumStaysSpec.pre6 enc Try.prog Try.f10 Rows.sumStaysRow.domain false) (Rows.sumStaysSpec.post enc Try.prog Try.f10 false true false false) := by
  refine returnsInHanded_of_change (C := Try.checked) own started (by kernel_rfl) Try.func10
    (ChangeSpec.witness6 (enc := enc) (C := Try.checked) false ⟨#[], #[.slice none 0 0, .slice none 0 0, .slice none 0 0, .slice none 0 0], []⟩ 8 (by kernel_rfl) (by kernel_rfl) (by kernel_rfl) (by kernel_rfl)) ?_
  intro W base args ds gs before hval0 hW hcnd _
  have hval : ∀ (j : Nat) t v, Try.f10.params[j]? = some t → args[j]? = some v → Value.okWide Try.prog W .any base t v := hval0
  have hW' := hW
  obtain ⟨p, q, hA0, hV, rfl, hfz, hnd⟩ := hW
  have hA : DataW.TrodAll enc Try.prog W 0 (fun _ => true) true Try.f10.params.toList args.toList ds p := hA0
  rw [Try.params10] at hA hval
  obtain ⟨v0, vs0, d0, ds0, p0, q0, hargs, rfl, rfl, h0, r0⟩ := trodAll_cons hA
  obtain ⟨v1, vs1, d1, ds1, p1, q1, rfl, rfl, rfl, h1, r1⟩ := trodAll_cons r0
  obtain ⟨v2, vs2, d2, ds2, p2, q2, rfl, rfl, rfl, h2, r2⟩ := trodAll_cons r1
  obtain ⟨v3, vs3, d3, ds3, p3, q3, rfl, rfl, rfl, h3, r3⟩ := trodAll_cons r2
  obtain ⟨rfl, rfl, rfl⟩ := trodAll_nil r3
  obtain rfl : args = #[v0, v1, v2, v3] := by cases args; simp_all
  obtain ⟨rfl, rfl⟩ := trodVars_none hV
  obtain ⟨a0, len0, cap0, rfl⟩ := okWide_slice Try.underlying22 (hval 0 22 v0 rfl rfl)
  have k0 := h0
  have lt0 : ∀ x ∈ p0, x.block < W.heap.size := by obtain ⟨m, hm⟩ := k0; exact DataW.trod_lt m _ _ _ hm
  obtain ⟨z0, w0⟩ : ∃ zs, IsRow .u8 W a0 len0 cap0 zs := by
    obtain ⟨fuel, hf⟩ := h0
    rcases open_ints Try.underlying22 Try.underlying5 (by kernel_rfl) hf with ⟨hcs, _⟩ | ⟨x, l, c, zs, hcs, _, hl, hm, hz, _, hcell, hwz⟩
    · simp [Value.cells] at hcs
      obtain ⟨rfl, rfl, rfl⟩ := hcs
      exact ⟨[], .inl ⟨rfl, rfl, rfl, rfl⟩⟩
    · simp [Value.cells] at hcs
      obtain ⟨rfl, rfl, rfl⟩ := hcs
      exact ⟨zs, .inr ⟨_, rfl, hl, hm, by simpa using hz, hcell, hwz⟩⟩
  obtain ⟨a1, len1, cap1, rfl⟩ := okWide_slice Try.underlying22 (hval 1 22 v1 rfl rfl)
  have k1 := h1
  have lt1 : ∀ x ∈ p1, x.block < W.heap.size := by obtain ⟨m, hm⟩ := k1; exact DataW.trod_lt m _ _ _ hm
  obtain ⟨z1, w1⟩ : ∃ zs, IsRow .u8 W a1 len1 cap1 zs := by
    obtain ⟨fuel, hf⟩ := h1
    rcases open_ints Try.underlying22 Try.underlying5 (by kernel_rfl) hf with ⟨hcs, _⟩ | ⟨x, l, c, zs, hcs, _, hl, hm, hz, _, hcell, hwz⟩
    · simp [Value.cells] at hcs
      obtain ⟨rfl, rfl, rfl⟩ := hcs
      exact ⟨[], .inl ⟨rfl, rfl, rfl, rfl⟩⟩
    · simp [Value.cells] at hcs
      obtain ⟨rfl, rfl, rfl⟩ := hcs
      exact ⟨zs, .inr ⟨_, rfl, hl, hm, by simpa using hz, hcell, hwz⟩⟩
  obtain ⟨a2, len2, cap2, rfl⟩ := okWide_slice Try.underlying22 (hval 2 22 v2 rfl rfl)
  have k2 := h2
  have lt2 : ∀ x ∈ p2, x.block < W.heap.size := by obtain ⟨m, hm⟩ := k2; exact DataW.trod_lt m _ _ _ hm
  obtain ⟨z2, w2⟩ : ∃ zs, IsRow .u8 W a2 len2 cap2 zs := by
    obtain ⟨fuel, hf⟩ := h2
    rcases open_ints Try.underlying22 Try.underlying5 (by kernel_rfl) hf with ⟨hcs, _⟩ | ⟨x, l, c, zs, hcs, _, hl, hm, hz, _, hcell, hwz⟩
    · simp [Value.cells] at hcs
      obtain ⟨rfl, rfl, rfl⟩ := hcs
      exact ⟨[], .inl ⟨rfl, rfl, rfl, rfl⟩⟩
    · simp [Value.cells] at hcs
      obtain ⟨rfl, rfl, rfl⟩ := hcs
      exact ⟨zs, .inr ⟨_, rfl, hl, hm, by simpa using hz, hcell, hwz⟩⟩
  obtain ⟨a3, len3, cap3, rfl⟩ := okWide_slice Try.underlying22 (hval 3 22 v3 rfl rfl)
  have k3 := h3
  have lt3 : ∀ x ∈ p3, x.block < W.heap.size := by obtain ⟨m, hm⟩ := k3; exact DataW.trod_lt m _ _ _ hm
  obtain ⟨z3, w3⟩ : ∃ zs, IsRow .u8 W a3 len3 cap3 zs := by
    obtain ⟨fuel, hf⟩ := h3
    rcases open_ints Try.underlying22 Try.underlying5 (by kernel_rfl) hf with ⟨hcs, _⟩ | ⟨x, l, c, zs, hcs, _, hl, hm, hz, _, hcell, hwz⟩
    · simp [Value.cells] at hcs
      obtain ⟨rfl, rfl, rfl⟩ := hcs
      exact ⟨[], .inl ⟨rfl, rfl, rfl, rfl⟩⟩
    · simp [Value.cells] at hcs
      obtain ⟨rfl, rfl, rfl⟩ := hcs
      exact ⟨zs, .inr ⟨_, rfl, hl, hm, by simpa using hz, hcell, hwz⟩⟩
  clear hA0 hval0
  refine (walk a0 len0 cap0 z0 a1 len1 cap1 z1 a2 len2 cap2 z2 a3 len3 cap3 z3 W w0 w1 w2 w3).mono fun e W' ⟨he, bel⟩ => ?_
  subst he
  exact ⟨_, rfl, _, _, _, [], _, [], hW', trodAll_mk1 (shut_bool Try.underlying4 _), (trodAll_cons_mk (Below.trod laidOut (by kernel_rfl) (of_decide_eq_true (by kernel_rfl)) k0 bel lt0) (trodAll_cons_mk (Below.trod laidOut (by kernel_rfl) (of_decide_eq_true (by kernel_rfl)) k1 bel lt1) (trodAll_cons_mk (Below.trod laidOut (by kernel_rfl) (of_decide_eq_true (by kernel_rfl)) k2 bel lt2) (trodAll_cons_mk (Below.trod laidOut (by kernel_rfl) (of_decide_eq_true (by kernel_rfl)) k3 bel lt3) trodAll_mk0)))), rfl, bel.frame _, fun h => by cases h⟩

theorem over : Rows.sumStaysRow.holds Try.pinned (OpenSpec.ofChange Rows.sumStaysSpec) :=
  OpenClaim.holds_of_wide 10 Try.f10 rfl rfl rfl rfl rfl rfl rfl ⟨rfl, rfl, rfl, rfl, rfl⟩ rfl rfl rfl rfl rfl (by kernel_rfl) Try.func10 (by kernel_rfl)
    (of_decide_eq_true (by kernel_rfl)) (by unfold Func.isWrapper; first | (rw [if_pos (by decide +kernel)]; kernel_rfl) | (rw [if_neg (by decide +kernel)]; exact ⟨rfl, rfl⟩))
    (fun os started H enc _ => lifted os started H enc)

theorem proved : Rows.SumStaysSaid := over
end Go.Proofs.Ytjemkbjofebinaa.sumStays
