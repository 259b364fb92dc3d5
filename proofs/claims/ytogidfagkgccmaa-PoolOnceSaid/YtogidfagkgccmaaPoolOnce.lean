/-
  Whatever the bounds and the wants, PoolOnce answers true and its arguments read as they did: no endpoint is given out twice, till none is left, and the parity stays as long as there is one of it. No condition.
-/
import Derived.Test.YtogidfagkgccmaaRows
import Derived.WalkKit
import Derived.ProofKit
import Derived.OpenShut
import Derived.ChangeOld
import Derived.Below
import Derived.Test.YtogidfagkgccmaaCa2
import Derived.Test.YtogidfagkgccmaaPa3
namespace Go.Proofs.Ytogidfagkgccmaa.poolOnce
open Go.ChangeShapes Go.WideShapes Go.ChangeAt Go.RowKit
set_option linter.unusedVariables false
attribute [local go_sem] Oper.semAt_some

theorem own : ownKnob Try.prog.godebug = none := by kernel_rfl
theorem laidOut : laidOutB Try.prog = true := by kernel_rfl

/-! ### The walk -/
set_option maxRecDepth 100000 in
set_option maxHeartbeats 4000000 in
theorem walk (a0 : Int) (a1 : Int) (A2 : Option Addr) (c2 : Nat) (z2 : List Int) (w : World) (w0 : (Lit.int .u8 a0).wf = true) (w1 : (Lit.int .u8 a1).wf = true) (h2 : Rd16 w w.heap.size A2 z2) (l2 : z2.length ≤ c2) (m2 : c2 ≤ maxLen) (w2 : ∀ n ∈ z2, (Lit.int .u16 n).wf = true) :
    Calls Try.prog 6 #[.int .u8 a0, .int .u8 a1, .slice A2 z2.length c2] w fun e w' => e = .returned (.bool true) ∧ Below w.heap.size w w' := by
  obtain ⟨n, hn⟩ : ∃ n, n = z2.length := ⟨_, rfl⟩
  have HN := Lib.hid hn
  have HR0 := Lib.hid h2
  have HW2 := Lib.hid w2
  have ha0 : 0 ≤ a0 ∧ a0 ≤ 255 := u8_bd w0
  have ha1 : 0 ≤ a1 ∧ a1 ≤ 255 := u8_bd w1
  rw [← hn] at l2 ⊢
  by_cases hbig : n > 100
  · have d1 : decide (100 < (n : Int)) = true := decide_eq_true (by omega)
    have d1' : decide (100 < n) = true := decide_eq_true (by omega)
    clear hn h2 w2
    go_enter Try.func6, Try.ntmps6
    go_wp2_with (go_at_call 30; refine (awake19 w).mono ?_; rintro e v1 ⟨rfl, x1⟩)
    go_ret
    exact ⟨rfl, x1⟩
  · have d1 : decide (100 < (n : Int)) = false := decide_eq_false (by omega)
    clear hn h2 w2
    go_enter Try.func6, Try.ntmps6
    have hb0 : Below w.heap.size w (w.alloc (.cells #[.int .i64 16777216] 3)) := (Below.refl _ w).alloc (Nat.le_refl _) _
    have hc0 : (w.alloc (.cells #[.int .i64 16777216] 3)).cell? ⟨w.heap.size, 0, none⟩ = some (.int .i64 16777216) := by rw [cell_of_row _ _ _ _ _ _ (World.alloc_heap_new w _)]; rfl
    have hmm := @run_makeMap Try.prog
    obtain ⟨lo, hlo⟩ : ∃ lo, lo = 2000 + a0 := ⟨_, rfl⟩
    obtain ⟨hi, hhi⟩ : ∃ hi, hi = 2000 + a0 + a1 % 30 := ⟨_, rfl⟩
    have HLO := Lib.hid hlo
    have HHI := Lib.hid hhi
    have HNW := Lib.hid (p19new hc0 (by decide +kernel) lo hi (by omega) (by omega) (by omega))
    rw [hlo, hhi] at HNW
    have HB0 := Lib.hid hb0
    clear hb0 hc0 hlo hhi
    go_upto_region 5 with (go_at_call 31; refine HNW.out.mono ?_; rintro e w3 ⟨⟨g, bm, ga, c, rfl, hPl, hbm⟩, b3⟩)
    have bw3 := HB0.out.trans (b3.mono HB0.out.size)
    have HPl : Hid (Pl w3 g bm ga c 0 lo hi 16777216 []) := Lib.hid (by rw [HLO.out, HHI.out]; exact hPl)
    have HBM : Hid (w.heap.size ≤ bm) := Lib.hid (Nat.le_trans HB0.out.size hbm)
    clear hPl hbm b3
    go_wp2
    have lg := HPl.out.p.lt
    have lga := cell_block HPl.out.a
    have lbm := HPl.out.v.lt
    dsimp only at lga
    have hm0 := Below.heap_alloc w3 (.map #[] 0)
    generalize hsb : w3.heap.size = sb at *
    go_loopw [43] (fun i wr => ∃ (k : Nat) (P : List Int) (m : Nat), k ≤ n ∧ m ≤ k ∧ i = .int .i64 (k : Int) ∧ Hid (Pl wr g bm ga c m lo hi 16777216 (kp 16777216 P)) ∧ Hid (Sn wr sb m P) ∧ Hid (P.Nodup) ∧ Hid (∀ q ∈ P, lo ≤ q ∧ q ≤ hi) ∧ Below w.heap.size w wr)
      (fun i _ => n - (intOf i).toNat)
    case atStart => exact ⟨0, [], 0, Nat.zero_le _, Nat.le_refl _, rfl, Lib.hid (HPl.out.below ((Below.refl _ w3).alloc (by omega) _) hsb.symm), Lib.hid (by have := Sn.made w3; rwa [hsb] at this), Lib.hid List.nodup_nil, Lib.hid (fun q hq => by cases hq), bw3.alloc bw3.size _⟩
    case round =>
      obtain ⟨k, P, m, hk, hmk, rfl, HPk, HSk, HD, HP, hbel⟩ := hrel
      by_cases hlt : k < n
      · obtain ⟨p, hp⟩ : ∃ p, z2[k]? = some p := ⟨_, List.getElem?_eq_getElem (by rw [← HN.out]; exact hlt)⟩
        have hpb := u16_bd (HW2.out p (List.mem_of_getElem? hp))
        obtain ⟨b9, o9, rfl, hb9, hall9⟩ := HR0.out (by rw [← HN.out]; omega)
        have kp9 : wr.cell? ⟨b9, o9 + k, none⟩ = some (.int .u16 p) := by
          have h9 := hall9 k (by rw [← HN.out]; exact hlt)
          rw [List.getD_eq_getElem?_getD, hp, Option.getD_some] at h9
          exact (hbel.cell (p := ⟨b9, o9 + k, none⟩) hb9).trans h9
        have HTK := Lib.hid (p19take HPk.out (by have := HLO.out; omega) (by have := HLO.out; have := HHI.out; omega) (by have := HHI.out; omega) (by omega) 6 p (.inl rfl) hpb (WalkArith.wf_i64 (by decide)))
        clear hall9 hp
        have LO := HLO.out
        have HI := HHI.out
        have hwsb : w.heap.size ≤ sb := by rw [← hsb]; exact bw3.size
        clear HNW HB0 HPl hm0
        go_upto_region 12 with (go_at_call 32; refine HTK.out.mono ?_; rintro e w5 (⟨q, pre, post, h1, h2, h3, rfl, h5, h6⟩ | ⟨h1, rfl, h3⟩); try rw [show gk [6, 16777216, q] = Value.agg #[.int .i64 6, .int .i64 16777216, .int .i64 q] from rfl])
        · have hq := (tri_mem (lo := lo) (hi := hi) (p := p) (by omega) (by omega) (by omega) q).1 (by rw [h1]; simp)
          have hq1 : 2000 + a0 ≤ q := by omega
          have hq2 : q ≤ 2000 + a0 + a1 % 30 := by omega
          have hwq : wfI q := wf_small (by omega) (by omega)
          rw [kp_has] at h3
          have hP5 := HPk.out.km h6 h5
          rw [← kp_snoc] at hP5
          have hS5 := HSk.out.of_block (h6.block sb (by omega) HSk.out.lt)
          have b5 : Below w5.heap.size w5 (w5.alloc (.cells #[.int .i64 6, .int .i64 16777216, .int .i64 q] 65)) := (Below.refl _ w5).alloc (Nat.le_refl _) _
          have n5 := World.alloc_heap_new w5 (.cells #[.int .i64 6, .int .i64 16777216, .int .i64 q] 65)
          have c5 := hbel.trans (h6.below HBM.out hbel.size)
          generalize hV : w5.alloc (.cells #[.int .i64 6, .int .i64 16777216, .int .i64 q] 65) = V at *
          have hPV := hP5.below b5 rfl
          have hSV := hS5.of_block (b5.block _ hS5.lt)
          have cV := c5.trans (b5.mono c5.size)
          have m2 : V.cell? ⟨w5.heap.size, 2, none⟩ = some (.int .i64 q) := by rw [cell_of_row _ _ _ _ _ _ n5]; rfl
          have hlk := hSV.look hwq
          rw [h3] at hlk
          obtain ⟨w6, hu, hS6, hg6⟩ := hSV.put (by unfold maxLen; omega) hwq h3
          have HP6 := Lib.hid (hPV.ks (KM.of_grown hg6) lg lga lbm)
          have HS6 := Lib.hid hS6
          have HC6 := Lib.hid (cV.trans ((KM.of_grown hg6).below hwsb cV.size))
          have HD6 : Hid ((P ++ [q]).Nodup) := Lib.hid (by
            rw [List.nodup_append]
            refine ⟨HD.out, by simp, fun x hx y hy => ?_⟩
            rw [List.mem_singleton.1 hy]
            rintro rfl
            simp [hx] at h3)
          have HQ6 : Hid (∀ x ∈ P ++ [q], lo ≤ x ∧ x ≤ hi) := Lib.hid (fun x hx => by
            rcases List.mem_append.1 hx with h | h
            · exact HP.out x h
            · rw [List.mem_singleton.1 h]; exact hq)
          have HORD : Hid (q % 2 ≠ p % 2 → ∀ r, lo ≤ r ∧ r ≤ hi → r % 2 = p % 2 → P.contains r = true) := Lib.hid (fun hne r hr hrp => by
            have := h2 r (tri_order (by omega) (by omega) (by omega) h1 hne hr hrp)
            rwa [kp_has] at this)
          have HSV := Lib.hid hSV
          clear hP5 hS5 b5 n5 c5 hPV hSV hS6 hg6 h1 h2 h3 h5 h6 HTK HPk HSk HD HP hV LO HI hq
          by_cases hpar : q % 2 = p % 2
          · have e1 : (q % 2 == p % 2) = true := by simpa using hpar
            have e2 : decide (q % 2 = p % 2) = true := decide_eq_true hpar
            have e3 : (q % 2 != p % 2) = false := by simp [hpar]
            clear hpar
            go_wp2
            refine wp_loop_rounds 1 ?_
            rw [rounds_succ]
            go_wp2
            go_roundw
            case rel => exact ⟨k + 1, P ++ [q], m + 1, by omega, by omega, by simp, HP6, HS6, HD6, HQ6, HC6.out⟩
            case measure => simp [intOf]; omega
          · have e1 : (q % 2 == p % 2) = false := by simpa using hpar
            have e2 : decide (q % 2 = p % 2) = false := decide_eq_false hpar
            have e3 : (q % 2 != p % 2) = true := by simp [hpar]
            have HPAR := Lib.hid hpar
            clear hpar
            go_wp2
            go_loop [15] (fun s => ∃ r : Int, s = .int .i64 r ∧ 2000 + a0 ≤ r ∧ r ≤ 2000 + a0 + a1 % 30 + 1) (fun i => (2000 + a0 + a1 % 30 + 1 - intOf i).toNat)
            case atStart => exact ⟨2000 + a0, rfl, by omega, by omega⟩
            case round =>
              obtain ⟨r, rfl, hr1, hr2⟩ := hrel
              by_cases hle : r ≤ 2000 + a0 + a1 % 30
              · by_cases hrp : r % 2 = p % 2
                · have hlr := HSV.out.look (x := r) (wf_small (by omega) (by omega))
                  rw [HORD.out HPAR.out r ⟨by rw [HLO.out]; omega, by rw [HHI.out]; omega⟩ hrp] at hlr
                  have f1 : (r % 2 == p % 2) = true := by simpa using hrp
                  have f2 : decide (r % 2 = p % 2) = true := decide_eq_true hrp
                  clear hrp
                  go_wp2
                  go_round
                  case rel => exact ⟨r + 1, rfl, by omega, by omega⟩
                  case measure => simp [intOf]; omega
                · have f1 : (r % 2 == p % 2) = false := by simpa using hrp
                  have f2 : decide (r % 2 = p % 2) = false := decide_eq_false hrp
                  clear hrp
                  go_wp2
                  go_round
                  case rel => exact ⟨r + 1, rfl, by omega, by omega⟩
                  case measure => simp [intOf]; omega
              · go_wp2
                go_roundw
                case rel => exact ⟨k + 1, P ++ [q], m + 1, by omega, by omega, by simp, HP6, HS6, HD6, HQ6, HC6.out⟩
                case measure => simp [intOf]; omega
        · have hful := full_len (lo := lo) (hi := hi) (p := p) (P := P) (by omega) (by omega) (by omega) HD.out HP.out (fun r hr => by have := h1 r hr; rwa [kp_has] at this)
          have hlen : (P.length : Int) = a1 % 30 + 1 := by omega
          have b5 : Below w5.heap.size w5 (w5.alloc (.cells #[.int .i64 0, .int .i64 0, .int .i64 0] 65)) := (Below.refl _ w5).alloc (Nat.le_refl _) _
          have b6 := h3.trans (b5.mono h3.size)
          generalize w5.alloc (.cells #[.int .i64 0, .int .i64 0, .int .i64 0] 65) = V at *
          have HP6 := Lib.hid (HPk.out.below b6 rfl)
          have hS6 := HSk.out.of_block (b6.block _ HSk.out.lt)
          have hl := hS6.len
          rw [hlen] at hl
          have HS6 := Lib.hid hS6
          have HC6 := Lib.hid (hbel.trans (b6.mono hbel.size))
          clear hful h1 h3 b5 b6 hS6 hlen HTK HPk HSk LO HI
          go_wp2
          go_roundw
          case rel => exact ⟨k + 1, P, m, by omega, by omega, by simp, HP6, HS6, HD, HP, HC6.out⟩
          case measure => simp [intOf]; omega
      · obtain rfl : n = k := by omega
        have hU := p19used HPk.out.p HPk.out.v
        rw [kp_len] at hU
        have HU := Lib.hid hU
        have hl := HSk.out.len
        clear hU HNW HB0 HPl hm0
        go_wp2_with (first
          | (go_at_call 33; refine HU.out.mono ?_; rintro e w7 ⟨rfl, rfl⟩)
          | (go_at_call 30; refine (awake19 _).mono ?_; rintro e w8 ⟨rfl, x8⟩))
        go_ret
        refine ⟨?_, hbel.trans (x8.mono hbel.size)⟩
        first | rfl | simp

/-! ### The row's step -/
set_option maxRecDepth 100000 in
theorem lifted (os : Os) (started : os.Started) (H : Type) (enc : TypeId × Value → H) :
    ReturnsInHanded {} Try.checked os 6 .any (Rows.poolOnceSpec.pre6 enc Try.prog Try.f6 Rows.poolOnceRow.domain false) (Rows.poolOnceSpec.post enc Try.prog Try.f6 false true false false) := by
  refine returnsInHanded_of_change (C := Try.checked) own started (by kernel_rfl) Try.func6
    (ChangeSpec.witness6 (enc := enc) (C := Try.checked) false ⟨#[], #[.int .u8 0, .int .u8 0, .slice none 0 0], []⟩ 8 (by kernel_rfl) (by kernel_rfl) (by kernel_rfl) (by kernel_rfl)) ?_
  intro W base args ds gs before hval0 hW hcnd _
  have hval : ∀ (j : Nat) t v, Try.f6.params[j]? = some t → args[j]? = some v → Value.okWide Try.prog W .any base t v := hval0
  have hW' := hW
  obtain ⟨p, q, hA0, hV, rfl, hfz, hnd⟩ := hW
  have hA : DataW.TrodAll enc Try.prog W 0 (fun _ => true) true Try.f6.params.toList args.toList ds p := hA0
  rw [Try.params6] at hA hval
  obtain ⟨v0, vs0, d0, ds0, p0, q0, hargs, rfl, rfl, t0, r0⟩ := trodAll_cons hA
  obtain ⟨v1, vs1, d1, ds1, p1, q1, rfl, rfl, rfl, t1, r1⟩ := trodAll_cons r0
  obtain ⟨v2, vs2, d2, ds2, p2, q2, rfl, rfl, rfl, t2, r2⟩ := trodAll_cons r1
  obtain ⟨rfl, rfl, rfl⟩ := trodAll_nil r2
  obtain rfl : args = #[v0, v1, v2] := by cases args; simp_all
  obtain ⟨rfl, rfl⟩ := trodVars_none hV
  have k0 := t0
  have lt0 := Trod_lt t0
  have k1 := t1
  have lt1 := Trod_lt t1
  have k2 := t2
  have lt2 := Trod_lt t2
  obtain ⟨a0, rfl, w0⟩ := get_int Try.underlying5 (hval 0 5 v0 rfl rfl) t0
  obtain ⟨a1, rfl, w1⟩ := get_int Try.underlying5 (hval 1 5 v1 rfl rfl) t1
  obtain ⟨A2, c2, z2, rfl, h2, l2, m2, w2⟩ := get_u16s Try.underlying57 Try.underlying58 (by kernel_rfl) (hval 2 57 v2 rfl rfl) t2
  clear hA0 hval0
  refine (walk a0 a1 A2 c2 z2 W w0 w1 h2 l2 m2 w2).mono fun e W' ⟨he, bel⟩ => ?_
  subst he
  exact ⟨_, rfl, _, _, _, [], _, [], hW', trodAll_mk1 (shut_bool Try.underlying4 _), (trodAll_cons_mk (Below.trod laidOut (by kernel_rfl) (of_decide_eq_true (by kernel_rfl)) k0 bel lt0) (trodAll_cons_mk (Below.trod laidOut (by kernel_rfl) (of_decide_eq_true (by kernel_rfl)) k1 bel lt1) (trodAll_cons_mk (Below.trod laidOut (by kernel_rfl) (of_decide_eq_true (by kernel_rfl)) k2 bel lt2) trodAll_mk0))), rfl, bel.frame _, fun h => by cases h⟩

theorem over : Rows.poolOnceRow.holds Try.pinned (OpenSpec.ofChange Rows.poolOnceSpec) :=
  OpenClaim.holds_of_wide 6 Try.f6 rfl rfl rfl rfl rfl rfl rfl ⟨rfl, rfl, rfl, rfl, rfl⟩ rfl rfl rfl rfl rfl (by kernel_rfl) Try.func6 (by kernel_rfl)
    (of_decide_eq_true (by kernel_rfl)) (by unfold Func.isWrapper; first | (rw [if_pos (by decide +kernel)]; kernel_rfl) | (rw [if_neg (by decide +kernel)]; exact ⟨rfl, rfl⟩))
    (fun os started H enc _ => lifted os started H enc)

theorem proved : Rows.PoolOnceSaid := over
end Go.Proofs.Ytogidfagkgccmaa.poolOnce
