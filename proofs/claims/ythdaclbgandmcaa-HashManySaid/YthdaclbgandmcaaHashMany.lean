/-
  Whatever the number, HashMany answers true: as many keys as are allowed are there, and no more, and each is found, whatever their number. No condition.
-/
import Derived.Test.YthdaclbgandmcaaRows
import Derived.WalkKit
import Derived.ProofKit
import Derived.OpenShut
import Derived.ChangeOld
import Derived.Below
import Derived.Test.YthdaclbgandmcaaHa3
import Derived.Test.YthdaclbgandmcaaHa11
namespace Go.Proofs.Ythdaclbgandmcaa.hashMany
open Go.ChangeShapes Go.WideShapes Go.ChangeAt Go.RowKit
set_option linter.unusedVariables false
attribute [local go_sem] Oper.semAt_some

theorem own : ownKnob Try.prog.godebug = none := by kernel_rfl
theorem laidOut : laidOutB Try.prog = true := by kernel_rfl

/-! ### The walk -/
set_option maxRecDepth 100000 in
set_option maxHeartbeats 4000000 in
theorem walk (a0 : Int) (w : World) (w0 : (Lit.int .u16 a0).wf = true) :
    Calls Try.prog 9 #[.int .u16 a0] w fun e w' => e = .returned (.bool true) ∧ Below w.heap.size w w' := by
  have hb0 : 0 ≤ a0 ∧ a0 ≤ 65535 := by have := w0; simp [Lit.wf, IntKind.min, IntKind.max, IntKind.bits, IntKind.signed] at this; omega
  obtain ⟨m, hm⟩ : ∃ m : Nat, a0 % 700 = (m : Int) := ⟨(a0 % 700).toNat, by omega⟩
  have hm7 : m < 700 := by omega
  have enw : ByteArray.mk #[110, 101, 119] = strB [110, 101, 119] := rfl
  go_enter Try.func9, Try.ntmps9
  go_wp2_with (first
    | (go_at_call 31; (with_reducible refine (awake18 w).mono ?_); rintro e v1 ⟨rfl, x1⟩; have z1 := x1.size)
    | (go_at_call 32; refine (hm_new (m : Int) v1 (by omega) (by omega) w.heap.size z1).mono ?_; rintro e v2 ⟨rfl, h2, x2⟩; have H2 := Lib.hid h2; have z2 : w.heap.size ≤ v2.heap.size := Nat.le_trans z1 x2.size; clear h2))
  have b2 := x1.trans (x2.mono z1)
  generalize v1.heap.size + 1 = t at *
  clear x1 x2 z1 z2 hm
  go_loopw [29] (fun i wr => ∃ k : Nat, k ≤ m ∧ i = .int .i64 (k : Int) ∧ Hid (HM wr w.heap.size t (m : Int) (ME (fun i : Nat => (i : Int)) k)) ∧ Below w.heap.size w wr) (fun i _ => m - (intOf i).toNat)
  case atStart => exact ⟨0, Nat.zero_le _, rfl, H2, b2⟩
  case round =>
    obtain ⟨k, hk, rfl, HMM, hbel⟩ := hrel
    clear H2 b2
    by_cases hlt : k < m
    · have hz := hbel.size
      go_wp2_with (first
        | (go_at_call 41; refine (hmkey k (by omega) _).mono ?_; rintro e y1 ⟨rfl, x1⟩; have HMV := Lib.hid (HMM.out.below x1))
        | (go_at_call 34; refine (hm_put_new (key := ky k) HMV.out (ME_no (by omega)) (by rw [ME_len]; omega) (k : Int) (by simp [ky]) (Nat.le_trans hz x1.size)).mono ?_; rintro e y2 ⟨rfl, h2, x2⟩; have HM2 := Lib.hid (h2.perm (ME_succ _ k)); clear h2))
      go_roundw
      case rel => exact ⟨k + 1, by omega, by simp, HM2, (hbel.trans (x1.mono hz)).trans x2⟩
      case measure => simp [intOf]; omega
    · obtain rfl : m = k := by omega
      have HM0 : Hid (HM wr w.heap.size t (m : Int) (ME (fk 0) m)) := Lib.hid (by rw [show fk 0 = (fun i : Nat => (i : Int)) from funext fk_zero]; exact HMM.out)
      clear HMM
      go_wp2
      go_loopw [8] (fun i wr => ∃ k : Nat, k ≤ m + 2 ∧ i = .int .i64 (k : Int) ∧ k % 3 = 0 ∧ Hid (HM wr w.heap.size t (m : Int) (ME (fk k) m)) ∧ Below w.heap.size w wr) (fun i _ => m + 2 - (intOf i).toNat)
      case atStart => exact ⟨0, Nat.zero_le _, rfl, rfl, HM0, hbel⟩
      case round =>
        clear HM0 hbel
        obtain ⟨k, hk, rfl, h3, HMM, hbel⟩ := hrel
        by_cases hlt : k < m
        · have hz := hbel.size
          have HH := Lib.hid h3
          clear h3
          go_wp2_with (first
            | (go_at_call 41; (with_reducible refine (hmkey k (by omega) wr).mono ?_); rintro e y1 ⟨rfl, x1⟩; have HMV := Lib.hid (HMM.out.below x1); have z1 : w.heap.size ≤ y1.heap.size := Nat.le_trans hz x1.size)
            | (go_at_call 41; refine (hmkey k (by omega) y2).mono ?_; rintro e y3 ⟨rfl, x3⟩; have HM3 := Lib.hid (HM2.out.below x3); have z3 : w.heap.size ≤ y3.heap.size := Nat.le_trans z2 x3.size)
            | (go_at_call 36; refine (hm_del_yes (x := ⟨ky k, fk k k⟩) HMV.out (ME_take hlt) (by simp [ky]) z1).mono ?_; rintro e y2 ⟨rfl, h2, x2⟩; have HM2 := Lib.hid h2; have z2 : w.heap.size ≤ y2.heap.size := Nat.le_trans z1 x2.size; clear h2)
            | (go_at_call 34; refine (hm_put_new (key := ky k) HM3.out (RE_no (by omega) hlt) (by have := RE_len (f := fk k) hlt; omega) (-(k : Int)) (by simp [ky]) z3).mono ?_; rintro e y4 ⟨rfl, h4, x4⟩; have HM4 := Lib.hid (h4.perm (ME_put HH.out hlt)); clear h4))
          go_roundw
          case rel => exact ⟨k + 3, by omega, by simp, by have := HH.out; omega, HM4, (((hbel.trans (x1.mono hz)).trans x2).trans (x3.mono z2)).trans x4⟩
          case measure => simp [intOf]; omega
        · have HMU : Hid (HM wr w.heap.size t (m : Int) (ME (fun i => if i % 3 = 0 then -(i : Int) else (i : Int)) m)) := Lib.hid (by have := HMM.out; rwa [ME_up (m := m) (k := k) (by omega) (fk k) rfl] at this)
          have hnl : ¬ ((k : Int) < (m : Int)) := by omega
          clear HMM h3
          go_wp2
          go_loopw [62] (fun i wr => ∃ k : Nat, k ≤ m ∧ i = .int .i64 (k : Int) ∧ Hid (HM wr w.heap.size t (m : Int) (ME (fun i => if i % 3 = 0 then -(i : Int) else (i : Int)) m)) ∧ Below w.heap.size w wr) (fun i _ => m - (intOf i).toNat)
          case atStart => exact ⟨0, Nat.zero_le _, rfl, HMU, hbel⟩
          case round =>
            clear HMU hbel hk hlt hnl
            obtain ⟨k, hk, rfl, HMM, hbel⟩ := hrel
            by_cases hlt : k < m
            · have hz := hbel.size
              by_cases h3 : k % 3 = 0
              · have HG : Hid ((⟨ky k, -(k : Int)⟩ : Ent) ∈ ME (fun i => if i % 3 = 0 then -(i : Int) else (i : Int)) m) := Lib.hid (by have := ME_mem (f := fun i => if i % 3 = 0 then -(i : Int) else (i : Int)) hlt; simp only [if_pos h3] at this; exact this)
                have d3 : ((k : Int) % 3 == 0) = true := by simp; omega
                have d3' : decide (k % 3 = 0) = true := decide_eq_true h3
                go_wp2_with (first
                  | (go_at_call 41; refine (hmkey k (by omega) _).mono ?_; rintro e y1 ⟨rfl, x1⟩; have HMV := Lib.hid (HMM.out.below x1))
                  | (go_at_call 38; refine (hm_get_yes (x := ⟨ky k, -(k : Int)⟩) HMV.out HG.out (by simp [ky])).mono ?_; rintro e y2 ⟨rfl, x2⟩; have HM2 := Lib.hid (HMV.out.below x2)))
                go_roundw
                case rel => exact ⟨k + 1, by omega, by simp, HM2, (hbel.trans (x1.mono hz)).trans (x2.mono (Nat.le_trans hz x1.size))⟩
                case measure => simp [intOf]; omega
              · have HG : Hid ((⟨ky k, (k : Int)⟩ : Ent) ∈ ME (fun i => if i % 3 = 0 then -(i : Int) else (i : Int)) m) := Lib.hid (by have := ME_mem (f := fun i => if i % 3 = 0 then -(i : Int) else (i : Int)) hlt; simp only [if_neg h3] at this; exact this)
                have d3 : ((k : Int) % 3 == 0) = false := by simp; omega
                have d3' : decide (k % 3 = 0) = false := decide_eq_false h3
                go_wp2_with (first
                  | (go_at_call 41; refine (hmkey k (by omega) _).mono ?_; rintro e y1 ⟨rfl, x1⟩; have HMV := Lib.hid (HMM.out.below x1))
                  | (go_at_call 38; refine (hm_get_yes (x := ⟨ky k, (k : Int)⟩) HMV.out HG.out (by simp [ky])).mono ?_; rintro e y2 ⟨rfl, x2⟩; have HM2 := Lib.hid (HMV.out.below x2)))
                go_roundw
                case rel => exact ⟨k + 1, by omega, by simp, HM2, (hbel.trans (x1.mono hz)).trans (x2.mono (Nat.le_trans hz x1.size))⟩
                case measure => simp [intOf]; omega
            · obtain rfl : m = k := by omega
              have hz := hbel.size
              have HL := Lib.hid (ME_len (fun i => if i % 3 = 0 then -(i : Int) else (i : Int)) m)
              go_wp2_with (first
                | (go_at_call 31; refine (awake18 _).mono ?_; rintro e v9 ⟨rfl, x9⟩)
                | (go_at_call 42; refine (hm_len HMM.out).mono ?_; rintro e v6 ⟨rfl, rfl⟩; rw [HL.out])
                | (go_at_call 34; refine (hm_put_full (key := [110, 101, 119]) HMM.out ME_new (by rw [HL.out]; exact Int.le_refl _) 1 (by decide) hz).mono ?_; rintro e v7 ⟨rfl, _, x7⟩))
              go_ret
              exact ⟨rfl, (hbel.trans x7).trans (x9.mono (Nat.le_trans hz x7.size))⟩

/-! ### The row's step -/
set_option maxRecDepth 100000 in
theorem lifted (os : Os) (started : os.Started) (H : Type) (enc : TypeId × Value → H) :
    ReturnsInHanded {} Try.checked os 9 .any (Rows.hashManySpec.pre6 enc Try.prog Try.f9 Rows.hashManyRow.domain false) (Rows.hashManySpec.post enc Try.prog Try.f9 false true false false) := by
  refine returnsInHanded_of_change (C := Try.checked) own started (by kernel_rfl) Try.func9
    (ChangeSpec.witness6 (enc := enc) (C := Try.checked) false ⟨#[], #[.int .u16 0], []⟩ 8 (by kernel_rfl) (by kernel_rfl) (by kernel_rfl) (by kernel_rfl)) ?_
  intro W base args ds gs before hval0 hW hcnd _
  have hval : ∀ (j : Nat) t v, Try.f9.params[j]? = some t → args[j]? = some v → Value.okWide Try.prog W .any base t v := hval0
  have hW' := hW
  obtain ⟨p, q, hA0, hV, rfl, hfz, hnd⟩ := hW
  have hA : DataW.TrodAll enc Try.prog W 0 (fun _ => true) true Try.f9.params.toList args.toList ds p := hA0
  rw [Try.params9] at hA hval
  obtain ⟨v0, vs0, d0, ds0, p0, q0, hargs, rfl, rfl, t0, r0⟩ := trodAll_cons hA
  obtain ⟨rfl, rfl, rfl⟩ := trodAll_nil r0
  obtain rfl : args = #[v0] := by cases args; simp_all
  obtain ⟨rfl, rfl⟩ := trodVars_none hV
  have k0 := t0
  have lt0 := Trod_lt t0
  obtain ⟨a0, rfl, w0⟩ := get_int Try.underlying58 (hval 0 58 v0 rfl rfl) t0
  clear hA0 hval0
  refine (walk a0 W w0).mono fun e W' ⟨he, bel⟩ => ?_
  subst he
  exact ⟨_, rfl, _, _, _, [], _, [], hW', trodAll_mk1 (shut_bool Try.underlying4 _), (trodAll_cons_mk (Below.trod laidOut (by kernel_rfl) (of_decide_eq_true (by kernel_rfl)) k0 bel lt0) trodAll_mk0), rfl, bel.frame _, fun h => by cases h⟩

theorem over : Rows.hashManyRow.holds Try.pinned (OpenSpec.ofChange Rows.hashManySpec) :=
  OpenClaim.holds_of_wide 9 Try.f9 rfl rfl rfl rfl rfl rfl rfl ⟨rfl, rfl, rfl, rfl, rfl⟩ rfl rfl rfl rfl rfl (by kernel_rfl) Try.func9 (by kernel_rfl)
    (of_decide_eq_true (by kernel_rfl)) (by unfold Func.isWrapper; first | (rw [if_pos (by decide +kernel)]; kernel_rfl) | (rw [if_neg (by decide +kernel)]; exact ⟨rfl, rfl⟩))
    (fun os started H enc _ => lifted os started H enc)

theorem proved : Rows.HashManySaid := over
end Go.Proofs.Ythdaclbgandmcaa.hashMany
