/-
  For all times and steps goosepondlaw17.WheelOnce answers true: a timer goes off once, at the first step that is not ahead of its time. Conditions: none but the statement's own.
-/
import Derived.Test.YtkgbjohadkbjaaaRows
import Derived.WalkKit
import Derived.ProofKit
import Derived.OpenShut
import Derived.ChangeOld
import Derived.Below
import Derived.Test.YtkgbjohadkbjaaaWa3
import Derived.Test.YtkgbjohadkbjaaaWa11
namespace Go.Proofs.Ytkgbjohadkbjaaa.wheelOnce
open Go.ChangeShapes Go.WideShapes Go.ChangeAt Go.RowKit
set_option linter.unusedVariables false
attribute [local go_sem] Oper.semAt_some

theorem own : ownKnob Try.prog.godebug = none := by kernel_rfl
theorem laidOut : laidOutB Try.prog = true := by kernel_rfl

/-! ### The walk -/
set_option maxRecDepth 100000 in
set_option maxHeartbeats 4000000 in
theorem walk (a0 : Int) (A1 : Option Addr) (c1 : Nat) (z1 : List Int) (w : World) (w0 : (Lit.int .u32 a0).wf = true) (h1 : Rd32 w w.heap.size A1 z1) (l1 : z1.length ≤ c1) (m1 : c1 ≤ maxLen) (w1 : ∀ n ∈ z1, (Lit.int .u32 n).wf = true) :
    Calls Try.prog 3 #[.int .u32 a0, .slice A1 z1.length c1] w fun e w' => e = .returned (.bool true) ∧ Below w.heap.size w w' := by
  have ba := u32_bdW w0
  obtain ⟨n, hn⟩ : ∃ n, n = z1.length := ⟨_, rfl⟩
  have HN := Lib.hid hn
  have HR0 := Lib.hid h1
  have HW := Lib.hid w1
  obtain ⟨a, ha⟩ : ∃ a, a = a0.toNat := ⟨_, rfl⟩
  have haa : a0 = (a : Int) := by omega
  subst haa
  have ha36 : a < 2 ^ 32 := by omega
  have hwa : IntKind.i64.wrap (a : Int) = (a : Int) := IntWalk.i64_in _ (by omega)
  rw [← hn] at l1 ⊢
  clear ha ba hn h1 w1
  go_enter Try.func3, Try.ntmps3
  go_upto_region 3 with (go_at_call 11; refine (awake17 w).mono ?_; rintro e u1 ⟨rfl, x1⟩)
  by_cases hbig : n > 100
  · have d1 : decide (100 < (n : Int)) = true := decide_eq_true (by omega)
    have d1' : decide (100 < n) = true := decide_eq_true (by omega)
    go_wp2_with (go_at_call 11; refine (awake17 u1).mono ?_; rintro e u2 ⟨rfl, x2⟩)
    go_ret
    exact ⟨rfl, x1.trans (x2.mono x1.size)⟩
  · have d1 : decide (100 < (n : Int)) = false := decide_eq_false (by omega)
    have d1' : decide (100 < n) = false := decide_eq_false (by omega)
    have hn100 : n ≤ 100 := by omega
    clear hbig
    go_upto_region 6 with (go_at_call 12; refine (wnewS 3 u1 (by decide) (by decide)).mono ?_; rintro e u2 ⟨d, M, rfl, hs2, x2⟩)
    have hq7 : slotN a 0 < 384 := slot_low (by omega) (by decide)
    obtain ⟨q0, hq0⟩ : ∃ q, slotN a 0 = q := ⟨_, rfl⟩
    rw [hq0] at hq7
    have HA1 := Lib.hid (warm0 hs2 7 ⟨by decide, by decide⟩ a q0 (a : Int) rfl (by omega) (fun e he => by cases he) (by decide) (by decide) hq0 (fun e he => by cases he))
    clear hs2 hq0
    go_upto_region 8 with (first
      | (go_at_call 13; with_reducible refine HA1.out.mono ?_; rintro e u3 ⟨rfl, b7, h3, x3⟩; have HA2 := Lib.hid (warm0 h3 8 ⟨by decide, by decide⟩ (2 ^ 40) 400 1099511627776 rfl (by decide) (fun e he => by rw [List.mem_singleton] at he; rw [he]; show (7 : Int) ≠ 8; decide) (by simp) (by decide) slot40 (fun e he => by rw [List.mem_singleton] at he; rw [he]; show q0 ≠ 400; omega)); clear h3)
      | (go_at_call 13; with_reducible refine HA2.out.mono ?_; rintro e u4 ⟨rfl, b8, h4, x4⟩))
    have hx4 : Below u1.heap.size u1 u4 := x2.trans ((x3.trans (x4.mono (Nat.le_refl _))).mono (Nat.le_refl _))
    have HS4 := Lib.hid h4.swap
    have HX4 := Lib.hid hx4
    clear h4 x2 x3 x4 HA1 HA2 hx4
    go_wp2
    go_loopw [42, 7, 8] (fun i z f wr => ∃ (k s : Nat), k ≤ n ∧ i = .int .i64 (k : Int) ∧ z = .int .i64 (s : Int) ∧ s ≤ k * 4294967296 ∧ Hid (Below u1.heap.size u1 wr) ∧
        ((∃ q, q < 384 ∧ f = .int .i64 0 ∧ (k = 0 ∨ s < a) ∧ Hid (Ws wr u1.heap.size d M 3 s [⟨q, b7, 7, a⟩, ⟨400, b8, 8, 2 ^ 40⟩] 2)) ∨ (f = .int .i64 1 ∧ a ≤ s ∧ Hid (Ws wr u1.heap.size d M 3 s [⟨400, b8, 8, 2 ^ 40⟩] 2))))
      (fun i _ _ _ => n - (intOf i).toNat)
    case atStart => exact ⟨0, 0, Nat.zero_le _, rfl, rfl, by omega, HX4, .inl ⟨q0, hq7, rfl, .inl rfl, HS4⟩⟩
    case round =>
      obtain ⟨k, s, hk, rfl, rfl, hsk, HB, hst⟩ := hrel
      clear HS4 HX4
      by_cases hlt : k < n
      · have dk : decide ((k : Int) < (n : Int)) = true := decide_eq_true (by omega)
        obtain ⟨p, hp⟩ : ∃ p, z1[k]? = some p := ⟨_, List.getElem?_eq_getElem (by rw [← HN.out]; exact hlt)⟩
        have hpb := u32_bdW (HW.out p (List.mem_of_getElem? hp))
        obtain ⟨b9, o9, rfl, hb9, hall9⟩ := HR0.out (by rw [← HN.out]; omega)
        have kp9 : wr.cell? ⟨b9, o9 + k, none⟩ = some (.int .u32 p) := by
          have h9 := hall9 k (by rw [← HN.out]; exact hlt)
          rw [List.getD_eq_getElem?_getD, hp, Option.getD_some] at h9
          exact ((x1.trans (HB.out.mono x1.size)).cell (p := ⟨b9, o9 + k, none⟩) hb9).trans h9
        obtain ⟨t, ht⟩ : ∃ t : Nat, (t : Int) = (s : Int) + p := ⟨s + p.toNat, by omega⟩
        have hw1 : IntKind.i64.wrap ((s : Int) + p) = (t : Int) := by rw [IntWalk.i64_in _ (by omega), ht]
        have hw2 : IntKind.i64.wrap p = p := IntWalk.i64_in _ (by omega)
        have hst1 : s ≤ t := by omega
        have htk : t ≤ (k + 1) * 4294967296 := by omega
        have ht39 : t < 2 ^ 39 := by omega
        have HT := Lib.hid (And.intro hst1 (And.intro htk ht39))
        clear hall9 hp hpb ht hst1 htk ht39 hb9
        go_upto_region 13 with fail
        clear hw1 hw2 kp9 dk
        rcases hst with ⟨q, hq, rfl, hka, HWS⟩ | ⟨rfl, has, HWS⟩
        · by_cases hdue : a ≤ t
          · have dA : decide ((t : Int) < (a : Int)) = false := decide_eq_false (by omega)
            have dA' : decide (t < a) = false := decide_eq_false (by omega)
            have dB : decide ((a : Int) ≤ (t : Int)) = true := decide_eq_true (by omega)
            have dB' : decide (a ≤ t) = true := decide_eq_true hdue
            have hT : [(⟨q, b7, 7, a⟩ : Te), (⟨400, b8, 8, 2 ^ 40⟩ : Te)].takeWhile (tkN t) = [(⟨q, b7, 7, a⟩ : Te)] := by rw [List.takeWhile_cons, if_pos (tk_due (e := (⟨q, b7, 7, a⟩ : Te)) hdue), List.takeWhile_cons, if_neg (by rw [tk_far HT.out.2.2]; decide)]
            have hD : [(⟨q, b7, 7, a⟩ : Te), (⟨400, b8, 8, 2 ^ 40⟩ : Te)].dropWhile (tkN t) = [(⟨400, b8, 8, 2 ^ 40⟩ : Te)] := by rw [List.dropWhile_cons, if_pos (tk_due (e := (⟨q, b7, 7, a⟩ : Te)) hdue), List.dropWhile_cons, if_neg (by rw [tk_far HT.out.2.2]; decide)]
            have hAd := wadv_due HWS.out (by simp; omega) (by simp) (fun e he => by simp at he; rcases he with rfl | rfl; exact (by show a ≤ 2 ^ 40; omega); exact (by decide : (2 ^ 40 : Nat) ≤ 2 ^ 40)) t HT.out.1 (by have := HT.out.2.2; omega)
            rw [hT, hD] at hAd
            have HAD := Lib.hid (hAd (fun e he => by rw [List.mem_singleton] at he; rw [he]; exact hdue) (by simp) (by simp))
            clear hAd hT hD
            go_wp2_with (first
              | (go_at_call 14; (with_reducible refine HAD.out.mono ?_); rintro e u5 ⟨v5, rfl, ho5, h5, x5⟩; obtain ⟨A5, c5, ev5, _, _⟩ := own_rds (cl := clI_) (sz := 1) (l := [7]) ho5 rfl rfl (fun _ _ => rfl); have ev6 : v5 = .slice A5 1 c5 := ev5; clear ev5; subst ev6; have hEQ := Lib.hid (weq (zs := [7]) (ys := [7]) (own_below ho5 ((Below.refl u5.heap.size u5).alloc (Nat.le_refl _) (.cells #[.int .i64 7] 3))) (World.alloc_heap_new u5 (.cells #[.int .i64 7] 3)) (by decide) (by decide)); have HW5 := Lib.hid h5; have HX5 := Lib.hid x5; clear h5 x5 ho5)
              | (go_at_call 15; refine hEQ.out.mono ?_; rintro e u6 ⟨rfl, x6⟩))
            have xa : Below u5.heap.size u5 (u5.alloc (.cells #[.int .i64 7] 3)) := (Below.refl _ u5).alloc (Nat.le_refl _) _
            have x56 : Below u5.heap.size u5 u6 := xa.trans (x6.mono xa.size)
            have hz5 := HX5.out.size
            have HBN := Lib.hid (HB.out.trans (HX5.out.trans (x56.mono (Nat.le_trans HB.out.size hz5))))
            have HWN := Lib.hid (HW5.out.below x56)
            clear xa x56 x6
            go_roundw
            case rel => exact ⟨k + 1, t, by omega, by simp, rfl, HT.out.2.1, HBN, .inr ⟨rfl, hdue, HWN⟩⟩
            case measure => simp [intOf]; omega
          · have dB : decide ((a : Int) ≤ (t : Int)) = false := decide_eq_false (by omega)
            have dB' : decide (a ≤ t) = false := decide_eq_false hdue
            by_cases htk : tkN t (⟨q, b7, 7, a⟩ : Te) = true
            · have hT : [(⟨q, b7, 7, a⟩ : Te), (⟨400, b8, 8, 2 ^ 40⟩ : Te)].takeWhile (tkN t) = [(⟨q, b7, 7, a⟩ : Te)] := by rw [List.takeWhile_cons, if_pos htk, List.takeWhile_cons, if_neg (by rw [tk_far HT.out.2.2]; decide)]
              have hD : [(⟨q, b7, 7, a⟩ : Te), (⟨400, b8, 8, 2 ^ 40⟩ : Te)].dropWhile (tkN t) = [(⟨400, b8, 8, 2 ^ 40⟩ : Te)] := by rw [List.dropWhile_cons, if_pos htk, List.dropWhile_cons, if_neg (by rw [tk_far HT.out.2.2]; decide)]
              have hsl : slotN a t < 384 := slot_low (by omega) (by omega)
              have hAd := wadv_stay HWS.out (by simp; omega) (by simp) (fun e he => by simp at he; rcases he with rfl | rfl; exact (by show a ≤ 2 ^ 40; omega); exact (by decide : (2 ^ 40 : Nat) ≤ 2 ^ 40)) t HT.out.1 (by have := HT.out.2.2; omega) hT (by show t < a; omega) (by rw [hD]; intro r hr; rw [List.mem_singleton] at hr; rw [hr]; show 400 ≠ slotN a t; omega)
              rw [hD] at hAd
              have HAD := Lib.hid hAd
              clear hAd hT hD
              go_wp2_with (first
                | (go_at_call 14; (with_reducible refine HAD.out.mono ?_); rintro e u5 ⟨rfl, h5, x5, _⟩; have HW5 := Lib.hid h5; have HX5 := Lib.hid x5; clear h5 x5))
              go_roundw
              case rel => exact ⟨k + 1, t, by omega, by simp, rfl, HT.out.2.1, Lib.hid (HB.out.trans HX5.out), .inl ⟨slotN a t, hsl, rfl, .inr (by omega), HW5⟩⟩
              case measure => simp [intOf]; omega
            · have hT : [(⟨q, b7, 7, a⟩ : Te), (⟨400, b8, 8, 2 ^ 40⟩ : Te)].takeWhile (tkN t) = [] := by rw [List.takeWhile_cons, if_neg htk]
              have hD : [(⟨q, b7, 7, a⟩ : Te), (⟨400, b8, 8, 2 ^ 40⟩ : Te)].dropWhile (tkN t) = [(⟨q, b7, 7, a⟩ : Te), (⟨400, b8, 8, 2 ^ 40⟩ : Te)] := by rw [List.dropWhile_cons, if_neg htk]
              have hAd := wadv_due HWS.out (by simp; omega) (by simp) (fun e he => by simp at he; rcases he with rfl | rfl; exact (by show a ≤ 2 ^ 40; omega); exact (by decide : (2 ^ 40 : Nat) ≤ 2 ^ 40)) t HT.out.1 (by have := HT.out.2.2; omega)
              rw [hT, hD] at hAd
              have HAD := Lib.hid (hAd (fun e he => by cases he) List.Pairwise.nil (by simp))
              clear hAd hT hD
              go_wp2_with (first
                | (go_at_call 14; (with_reducible refine HAD.out.mono ?_); rintro e u5 ⟨v5, rfl, ho5, h5, x5⟩; obtain ⟨A5, c5, ev5, _, _⟩ := own_rds (cl := clI_) (sz := 1) (l := []) ho5 rfl rfl (fun _ _ => rfl); have ev6 : v5 = .slice A5 0 c5 := ev5; clear ev5; subst ev6; have HW5 := Lib.hid h5; have HX5 := Lib.hid x5; clear h5 x5 ho5))
              go_roundw
              case rel => exact ⟨k + 1, t, by omega, by simp, rfl, HT.out.2.1, Lib.hid (HB.out.trans HX5.out), .inl ⟨q, hq, rfl, .inr (by omega), HW5⟩⟩
              case measure => simp [intOf]; omega
        · have hdue : a ≤ t := Nat.le_trans has HT.out.1
          have dB : decide ((a : Int) ≤ (t : Int)) = true := decide_eq_true (by omega)
          have dB' : decide (a ≤ t) = true := decide_eq_true hdue
          have hT : [(⟨400, b8, 8, 2 ^ 40⟩ : Te)].takeWhile (tkN t) = [] := by rw [List.takeWhile_cons, if_neg (by rw [tk_far HT.out.2.2]; decide)]
          have hD : [(⟨400, b8, 8, 2 ^ 40⟩ : Te)].dropWhile (tkN t) = [(⟨400, b8, 8, 2 ^ 40⟩ : Te)] := by rw [List.dropWhile_cons, if_neg (by rw [tk_far HT.out.2.2]; decide)]
          have hAd := wadv_due HWS.out (by simp) (by simp) (fun e he => by rw [List.mem_singleton] at he; rw [he]; exact (by decide : (2 ^ 40 : Nat) ≤ 2 ^ 40)) t HT.out.1 (by have := HT.out.2.2; omega)
          rw [hT, hD] at hAd
          have HAD := Lib.hid (hAd (fun e he => by cases he) List.Pairwise.nil (by simp))
          clear hAd hT hD
          go_wp2_with (first
            | (go_at_call 14; (with_reducible refine HAD.out.mono ?_); rintro e u5 ⟨v5, rfl, ho5, h5, x5⟩; obtain ⟨A5, c5, ev5, _, _⟩ := own_rds (cl := clI_) (sz := 1) (l := []) ho5 rfl rfl (fun _ _ => rfl); have ev6 : v5 = .slice A5 0 c5 := ev5; clear ev5; subst ev6; have HW5 := Lib.hid h5; have HX5 := Lib.hid x5; clear h5 x5 ho5))
          go_roundw
          case rel => exact ⟨k + 1, t, by omega, by simp, rfl, HT.out.2.1, Lib.hid (HB.out.trans HX5.out), .inr ⟨rfl, hdue, HW5⟩⟩
          case measure => simp [intOf]; omega
      · obtain rfl : k = n := by omega
        have dk : decide ((k : Int) < (k : Int)) = false := decide_eq_false (by omega)
        go_wp2_with (go_at_call 11; refine (awake17 wr).mono ?_; rintro e u9 ⟨rfl, x9⟩)
        go_ret
        have hb9 := x1.trans (HB.out.mono x1.size)
        exact ⟨rfl, hb9.trans (x9.mono hb9.size)⟩

/-! ### The row's step -/
set_option maxRecDepth 100000 in
theorem lifted (os : Os) (started : os.Started) (H : Type) (enc : TypeId × Value → H) :
    ReturnsInHanded {} Try.checked os 3 .any (Rows.wheelOnceSpec.pre6 enc Try.prog Try.f3 Rows.wheelOnceRow.domain false) (Rows.wheelOnceSpec.post enc Try.prog Try.f3 false true false false) := by
  refine returnsInHanded_of_change (C := Try.checked) own started (by kernel_rfl) Try.func3
    (ChangeSpec.witness6 (enc := enc) (C := Try.checked) false ⟨#[], #[.int .u32 0, .slice none 0 0], []⟩ 8 (by kernel_rfl) (by kernel_rfl) (by kernel_rfl) (by kernel_rfl)) ?_
  intro W base args ds gs before hval0 hW hcnd _
  have hval : ∀ (j : Nat) t v, Try.f3.params[j]? = some t → args[j]? = some v → Value.okWide Try.prog W .any base t v := hval0
  have hW' := hW
  obtain ⟨p, q, hA0, hV, rfl, hfz, hnd⟩ := hW
  have hA : DataW.TrodAll enc Try.prog W 0 (fun _ => true) true Try.f3.params.toList args.toList ds p := hA0
  rw [Try.params3] at hA hval
  obtain ⟨v0, vs0, d0, ds0, p0, q0, hargs, rfl, rfl, t0, r0⟩ := trodAll_cons hA
  obtain ⟨v1, vs1, d1, ds1, p1, q1, rfl, rfl, rfl, t1, r1⟩ := trodAll_cons r0
  obtain ⟨rfl, rfl, rfl⟩ := trodAll_nil r1
  obtain rfl : args = #[v0, v1] := by cases args; simp_all
  obtain ⟨rfl, rfl⟩ := trodVars_none hV
  have k0 := t0
  have lt0 := Trod_lt t0
  have k1 := t1
  have lt1 := Trod_lt t1
  obtain ⟨a0, rfl, w0⟩ := get_int Try.underlying22 (hval 0 22 v0 rfl rfl) t0
  obtain ⟨A1, c1, z1, rfl, h1, l1, m1, w1⟩ := get_u32s Try.underlying23 Try.underlying22 (by kernel_rfl) (hval 1 23 v1 rfl rfl) t1
  clear hA0 hval0
  refine (walk a0 A1 c1 z1 W w0 h1 l1 m1 w1).mono fun e W' ⟨he, bel⟩ => ?_
  subst he
  exact ⟨_, rfl, _, _, _, [], _, [], hW', trodAll_mk1 (shut_bool Try.underlying4 _), (trodAll_cons_mk (Below.trod laidOut (by kernel_rfl) (of_decide_eq_true (by kernel_rfl)) k0 bel lt0) (trodAll_cons_mk (Below.trod laidOut (by kernel_rfl) (of_decide_eq_true (by kernel_rfl)) k1 bel lt1) trodAll_mk0)), rfl, bel.frame _, fun h => by cases h⟩

theorem over : Rows.wheelOnceRow.holds Try.pinned (OpenSpec.ofChange Rows.wheelOnceSpec) :=
  OpenClaim.holds_of_wide 3 Try.f3 rfl rfl rfl rfl rfl rfl rfl ⟨rfl, rfl, rfl, rfl, rfl⟩ rfl rfl rfl rfl rfl (by kernel_rfl) Try.func3 (by kernel_rfl)
    (of_decide_eq_true (by kernel_rfl)) (by unfold Func.isWrapper; first | (rw [if_pos (by decide +kernel)]; kernel_rfl) | (rw [if_neg (by decide +kernel)]; exact ⟨rfl, rfl⟩))
    (fun os started H enc _ => lifted os started H enc)

theorem proved : Rows.WheelOnceSaid := over
end Go.Proofs.Ytkgbjohadkbjaaa.wheelOnce
