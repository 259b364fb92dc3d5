/-
  For all numbers goosepondlaw31.CountsLive answers true: counts do any calls in any order as the document says. Conditions: none but the statement's own.
-/
import Derived.Test.YtjoaaabdcfcdiaaDoorRows
import Derived.WalkKit
import Derived.ProofKit
import Derived.OpenShut
import Derived.ChangeOld
import Derived.Below
import Derived.Test.YtjoaaabdcfcdiaaDoorCa1
import Derived.Test.YtjoaaabdcfcdiaaDoorCa2
import Derived.Test.YtjoaaabdcfcdiaaDoorCards
import Derived.LaidMore
import Derived.SevenTiedAt
import Derived.Stop.Joined
namespace Go.Proofs.YtjoaaabdcfcdiaaDoor.countsLive
open Go.ChangeShapes Go.WideShapes Go.ChangeAt Go.RowKit
set_option linter.unusedVariables false
attribute [local go_sem] Oper.semAt_some

theorem own : ownKnob Tryd.prog.godebug = none := by kernel_rfl
theorem laidOut : laidOutB Tryd.prog = true := by kernel_rfl

/-! ### The walk -/
set_option maxRecDepth 100000 in
set_option maxHeartbeats 4000000 in
theorem walk (A0 : Option Addr) (c0 : Nat) (z0 : List Int) (w : World) (h0 : RdI w w.heap.size A0 z0) (l0 : z0.length ≤ c0) (m0 : c0 ≤ maxLen) (w0 : ∀ n ∈ z0, (Lit.int .i64 n).wf = true) (hT : Tabs w) :
    Calls Tryd.prog 3 #[.slice A0 z0.length c0] w fun e w' => e = .returned (.bool true) ∧ Below w.heap.size w w' := by
  have HT := Lib.hid hT
  clear hT
  by_cases hbig : 200 < z0.length
  · have d0 : decide (200 < (z0.length : Int)) = true := by simp; omega
    go_enter Tryd.func3, Tryd.ntmps3
    go_wp2_with (first
      | (go_at_call 6; (with_reducible refine (awake31 w HT.out).mono ?_); rintro e v1 ⟨rfl, x1⟩; have ht1 := Lib.hid (HT.out.step x1))
      | (go_at_call 6; refine (awake31 v1 ht1.out).mono ?_; rintro e v2 ⟨rfl, x2⟩))
    go_ret
    exact ⟨rfl, x1.trans (x2.mono x1.size)⟩
  have d0 : decide (200 < (z0.length : Int)) = false := by simp; omega
  obtain ⟨n, hn⟩ : ∃ n, n = z0.length := ⟨_, rfl⟩
  have H0 := Lib.hid h0
  have HN := Lib.hid hn
  rw [← hn] at d0 hbig ⊢
  clear h0 hn w0 l0
  go_enter Tryd.func3, Tryd.ntmps3
  go_wp2_with (first
    | (go_at_call 6; refine (awake31 w HT.out).mono ?_; rintro e v1 ⟨rfl, x1⟩)
    | (go_at_call 7; refine (cnnew v1).mono ?_; rintro e v2 ⟨rfl, c2, x2⟩; have C2 := Lib.hid c2; clear c2)
    | (go_at_call 8; refine (rnnew v2).mono ?_; rintro e v3 ⟨rfl, r3, x3⟩; have R3 := Lib.hid r3; clear r3))
  have hp : Hid (Cp w v3 v1.heap.size (v2.heap.size + 1) v2.heap.size zeroC 0) := Lib.hid (by
    have z2 := heap_lt C2.out.obj
    exact ⟨C2.out.below x3, R3.out, bdC_zero, rfl, (x1.trans (x2.mono x1.size)).trans (x3.mono (Nat.le_trans x1.size x2.size)), x1.size, Nat.le_trans x1.size x2.size, by omega, by omega⟩)
  clear C2 R3 x1 x2 x3
  generalize v1.heap.size = k at *
  generalize v2.heap.size + 1 = d at *
  generalize v2.heap.size = b at *
  go_loopw [19] (fun i wr => ∃ (j : Nat) (L : List Int), j ≤ n ∧ i = .int .i64 (j : Int) ∧ Hid (Cp w wr k d b L j)) (fun i _ => n - (intOf i).toNat)
  case atStart => exact ⟨0, _, Nat.zero_le _, rfl, hp⟩
  case round =>
    obtain ⟨j, L, hj, rfl, HP⟩ := hrel
    clear hp
    by_cases hlt : j < n
    · obtain ⟨b1, off, e1, hb1, hcell⟩ := H0.out (by rw [← HN.out]; omega)
      subst e1
      have hc : wr.cell? ⟨b1, off + j, none⟩ = some (.int .i64 (z0.getD j 0)) := (HP.out.be.cell (p := ⟨b1, off + j, none⟩) hb1).trans (hcell j (by rw [← HN.out]; omega))
      generalize z0.getD j 0 = r at hc
      clear hb1 hcell
      obtain ⟨Z, hZ⟩ : ∃ Z, isC r = Z := ⟨_, rfl⟩
      obtain ⟨G, hG⟩ : ∃ G, gtC (upC L r) r = G := ⟨_, rfl⟩
      obtain ⟨M, hM⟩ : ∃ M, nmC r = M := ⟨_, rfl⟩
      have HZ := Lib.hid hZ
      have HG := Lib.hid hG
      have HM := Lib.hid hM
      have dZ : (Z == Z) = true := beq_self_eq_true Z
      have dG : (G == G) = true := beq_self_eq_true G
      have dM : ((strB M).toList == (strB M).toList) = true := beq_self_eq_true _
      clear hZ hG hM
      go_wp2_with (first
        | (go_at_call 9; refine (cnadd HP.out.c HP.out.bd (by omega) r).mono ?_; rintro e y1 ⟨rfl, c1, o1⟩; rw [HZ.out]; have C1 := Lib.hid c1; have O1 := Lib.hid o1; clear c1 o1)
        | (go_at_call 10; refine (rnadd (HP.out.one O1.out).1 HP.out.bd (by omega) r).mono ?_; rintro e y2 ⟨rfl, c2, o2⟩; rw [HZ.out]; have HP2 := Lib.hid (HP.out.two r O1.out C1.out o2 c2); clear c2 o2)
        | (go_at_call 11; refine (cnget HP2.out.c r).mono ?_; rintro e y3 ⟨rfl, rfl⟩; rw [HG.out])
        | (go_at_call 12; refine (rnget HP2.out.r HP2.out.z r).mono ?_; rintro e y4 ⟨rfl, rfl⟩; rw [HG.out])
        | (go_at_call 13; refine (cname r _ (HT.out.below HP2.out.be (Nat.le_refl _))).mono ?_; rintro e y5 ⟨rfl, rfl⟩; rw [HM.out])
        | (go_at_call 14; refine (rname r _).mono ?_; rintro e y6 ⟨rfl, x6⟩; rw [HM.out]))
      go_roundw
      case rel => exact ⟨j + 1, _, by omega, by simp, Lib.hid (HP2.out.below x6)⟩
      case measure => simp [intOf]; omega
    · obtain rfl : n = j := by omega
      have k0 := HP.out.r.c0
      go_upto_region 15 with (go_at_call 15; refine (cnlist HP.out.c).mono ?_; rintro e v5 ⟨rfl, hl5, x5⟩; have HL5 := Lib.hid hl5; clear hl5; have k0 := (HP.out.below x5).r.c0)
      have HP5 := Lib.hid (HP.out.below x5)
      generalize wr.heap.size = g at *
      clear HP k0 hlt
      go_wp2
      go_loopw [59] (fun i wr => ∃ (j : Nat), j ≤ 14 ∧ i = .int .i64 (j : Int) ∧ Below v5.heap.size v5 wr) (fun i _ => 14 - (intOf i).toNat)
      case atStart => exact ⟨0, Nat.zero_le _, rfl, Below.refl _ _⟩
      case round =>
        obtain ⟨i, hi, rfl, hB1⟩ := hrel
        by_cases hlt : i < 14
        · obtain ⟨x, hx⟩ : ∃ x, L[i]? = some x := ⟨_, List.getElem?_eq_getElem (by rw [HP5.out.c.n]; exact hlt)⟩
          have KA : Hid (∀ V, Below wr.heap.size wr V → V.cell? ⟨g, i, none⟩ = some (.int .i64 x)) := Lib.hid (fun V hV => cellC (((hB1.trans (hV.mono hB1.size)).block g (heap_lt HL5.out)).trans HL5.out) (by simp [hx]))
          have KL : Hid (∀ V, Below wr.heap.size wr V → V.cell? ⟨d, 0, none⟩ = some (.slice (some ⟨b, 0, none⟩) 14 14)) := Lib.hid (fun V hV => (HP5.out.r.below (hB1.trans (hV.mono hB1.size))).c0)
          have KB : Hid (∀ V, Below wr.heap.size wr V → V.cell? ⟨b, i, none⟩ = some (.int .i64 x)) := Lib.hid (fun V hV => (HP5.out.r.below (hB1.trans (hV.mono hB1.size))).at_ hx)
          clear hx
          go_upto_region 18 with fail
          have dx : (x == x) = true := beq_self_eq_true x
          refine wp_region_held_drew (S := fun V => Below wr.heap.size wr V) (by kernel_rfl) (Below.refl _ wr).drew (fun hS => ?_)
          refine held_pure (i := 0) (oi := ⟨some 62, _, _, _, _, _⟩) rfl (by kernel_rfl) (by kernel_rfl) (by kernel_rfl) (fun _ _ _ h => h) (by rfl) (v := ?_) (fun w hSw => ?_) hS (fun hS => ?_)
          rotate_left
          · go_simp; try with_reducible rfl
          try go_frame
          refine held_pure (i := 1) (oi := ⟨some 63, _, _, _, _, _⟩) rfl (by kernel_rfl) (by kernel_rfl) (by kernel_rfl) (fun _ _ _ h => h) (by rfl) (v := ?_) (fun w hSw => ?_) hS (fun hS => ?_)
          rotate_left
          · go_simp; try with_reducible rfl
          try go_frame
          refine held_pure (i := 2) (oi := ⟨some 64, _, _, _, _, _⟩) rfl (by kernel_rfl) (by kernel_rfl) (by kernel_rfl) (fun _ _ _ h => h) (by rfl) (v := .pointer (some ⟨g, i, none⟩)) (fun w hSw => by go_simp <;> (intro h9; exfalso; omega)) hS (fun hS => ?_)
          try go_frame
          refine held_pure (i := 3) (oi := ⟨some 65, _, _, _, _, _⟩) rfl (by kernel_rfl) (by kernel_rfl) (by kernel_rfl) (fun _ _ _ h => h) (by rfl) (fun w hSw => run_load_int rfl rfl (KA.out w hSw)) hS (fun hS => ?_)
          try go_frame
          refine held_pure (i := 4) (oi := ⟨some 66, _, _, _, _, _⟩) rfl (by kernel_rfl) (by kernel_rfl) (by kernel_rfl) (fun _ _ _ h => h) (by rfl) (v := ?_) (fun w hSw => ?_) hS (fun hS => ?_)
          rotate_left
          · go_simp; try with_reducible rfl
          try go_frame
          refine held_pure (i := 5) (oi := ⟨some 67, _, _, _, _, _⟩) rfl (by kernel_rfl) (by kernel_rfl) (by kernel_rfl) (fun _ _ _ h => h) (by rfl) (v := ?_) (fun w hSw => ?_) hS (fun hS => ?_)
          rotate_left
          · go_simp; try with_reducible rfl
          try go_frame
          refine held_pure (i := 6) (oi := ⟨some 68, _, _, _, _, _⟩) rfl (by kernel_rfl) (by kernel_rfl) (by kernel_rfl) (fun _ _ _ h => h) (by rfl) (v := ?_) (fun w hSw => ?_) hS (fun hS => ?_)
          rotate_left
          · go_simp; try with_reducible rfl
          try go_frame
          refine held_pure (i := 7) (oi := ⟨some 69, _, _, _, _, _⟩) rfl (by kernel_rfl) (by kernel_rfl) (by kernel_rfl) (fun _ _ _ h => h) (by rfl) (fun w hSw => run_load_slC rfl rfl (KL.out w hSw)) hS (fun hS => ?_)
          try go_frame
          refine held_pure (i := 8) (oi := ⟨some 70, _, _, _, _, _⟩) rfl (by kernel_rfl) (by kernel_rfl) (by kernel_rfl) (fun _ _ _ h => h) (by rfl) (v := ?_) (fun w hSw => ?_) hS (fun hS => ?_)
          rotate_left
          · go_simp; try with_reducible rfl
          try go_frame
          refine held_pure (i := 9) (oi := ⟨some 71, _, _, _, _, _⟩) rfl (by kernel_rfl) (by kernel_rfl) (by kernel_rfl) (fun _ _ _ h => h) (by rfl) (v := .pointer (some ⟨b, i, none⟩)) (fun w hSw => by go_simp <;> (intro h9; exfalso; omega)) hS (fun hS => ?_)
          try go_frame
          refine held_pure (i := 10) (oi := ⟨some 72, _, _, _, _, _⟩) rfl (by kernel_rfl) (by kernel_rfl) (by kernel_rfl) (fun _ _ _ h => h) (by rfl) (fun w hSw => run_load_int rfl rfl (KB.out w hSw)) hS (fun hS => ?_)
          try go_frame
          refine held_pure (i := 11) (oi := ⟨some 73, _, _, _, _, _⟩) rfl (by kernel_rfl) (by kernel_rfl) (by kernel_rfl) (fun _ _ _ h => h) (by rfl) (v := ?_) (fun w hSw => ?_) hS (fun hS => ?_)
          rotate_left
          · go_simp; try with_reducible rfl
          try go_frame
          refine wpAnyH_done (by kernel_rfl) ?_ _
          go_wp2_with fail
          go_roundw
          case rel => exact ⟨i + 1, by omega, by simp, hB1.trans (hS.mono hB1.size)⟩
          case measure => simp [intOf]; omega
        · obtain rfl : i = 14 := by omega
          go_wp2_with (go_at_call 6; refine (awake31 _ (HT.out.below (HP5.out.be.trans (hB1.mono HP5.out.be.size)) (Nat.le_refl _))).mono ?_; rintro e v9 ⟨rfl, x9⟩)
          go_ret
          exact ⟨rfl, (HP5.out.be.trans (hB1.mono HP5.out.be.size)).trans (x9.mono (Nat.le_trans HP5.out.be.size hB1.size))⟩

/-! ### The row's step -/
set_option maxRecDepth 100000 in
theorem lifted (os : Os) (started : os.Started) (H : Type) (enc : TypeId × Value → H) :
    ReturnsInHanded {} Tryd.checked os 3 .any (fun w args => (Rows.countsLiveSpec.pre enc Tryd.prog Tryd.f3 [] false w args ∧ laidMetH Tryd.prog laidAll w) ∧ sizedMet enc Tryd.prog Tryd.f3 (OpenSpec.ofChange Rows.countsLiveSpec) false w args) (Rows.countsLiveSpec.post enc Tryd.prog Tryd.f3 false true false false) := by
  refine returnsInHanded_of_change_and (C := Tryd.checked) (X := fun w _ => laidMetH Tryd.prog laidAll w) (fun _ _ _ hh h => h.of_heap hh) own started (by kernel_rfl) Tryd.func3
    (ChangeSpec.witness_shaped (enc := enc) (C := Tryd.checked) (os := os) (X := fun w _ => laidMetH Tryd.prog laidAll w) false (World.doorLaid Tryd.prog 24 os) #[.slice none 0 0] 8 rfl (door_shaped os _) (by kernel_rfl) (by kernel_rfl) (by kernel_rfl) (door_met os _)) ?_
  intro W base args ds gs before hval0 hW _ _ hL _
  have hval : ∀ (j : Nat) t v, Tryd.f3.params[j]? = some t → args[j]? = some v → Value.okWide Tryd.prog W .any base t v := hval0
  have hW' := hW
  obtain ⟨p, q, hA0, hV, rfl, hfz, hnd⟩ := hW
  have hA : DataW.TrodAll enc Tryd.prog W 0 (fun _ => true) true Tryd.f3.params.toList args.toList ds p := hA0
  rw [Tryd.params3] at hA hval
  obtain ⟨v0, vs0, d0, ds0, p0, q0, hargs, rfl, rfl, t0, r0⟩ := trodAll_cons hA
  obtain ⟨rfl, rfl, rfl⟩ := trodAll_nil r0
  obtain rfl : args = #[v0] := by cases args; simp_all
  obtain ⟨rfl, rfl⟩ := trodVars_none hV
  have k0 := t0
  have lt0 := Trod_lt t0
  obtain ⟨A0, c0, z0, rfl, h0, l0, m0, w0⟩ := get_ints Tryd.underlying22 Tryd.underlying3 (by kernel_rfl) (hval 0 22 v0 rfl rfl) t0
  clear hA0 hval0
  refine (walk A0 c0 z0 W h0 l0 m0 w0 (tabs_of_laid hL)).mono fun e W' ⟨he, bel⟩ => ?_
  subst he
  exact ⟨_, rfl, _, _, _, [], _, [], hW', trodAll_mk1 (shut_bool Tryd.underlying4 _), (trodAll_cons_mk (Below.trod laidOut (by kernel_rfl) (of_decide_eq_true (by kernel_rfl)) k0 bel lt0) trodAll_mk0), rfl, bel.frame _, fun h => by cases h⟩

theorem over : Rows.countsLiveRow.holds Tryd.pinned (OpenSpec.ofChange Rows.countsLiveSpec) :=
  OpenClaim.holds_of_wide 3 Tryd.f3 rfl rfl rfl rfl rfl rfl rfl ⟨rfl, rfl, rfl, rfl, rfl⟩ rfl rfl rfl rfl rfl (by kernel_rfl) Tryd.func3 (by kernel_rfl)
    (of_decide_eq_true (by kernel_rfl)) (by unfold Func.isWrapper; first | (rw [if_pos (by decide +kernel)]; kernel_rfl) | (rw [if_neg (by decide +kernel)]; exact ⟨rfl, rfl⟩))
    (fun os started H enc _ => lifted os started H enc)

theorem proved : Rows.CountsLiveCardSaid :=
  Claim7.holds_tied_plain_at .later [] Rows.countsLiveCard.laidKinds true Rows.countsLiveCard.stood.harness false
    over (fun _ h => by cases h) (by kernel_rfl) (fun _ h => by cases h) countsLive_row_tie rfl ⟨rfl, rfl⟩ (by kernel_rfl) rfl
    (fun f fn hf hfn => by
      obtain rfl : f = 3 := Option.some.inj ((show Tryd.prog.funcNamed "goosepond/goosepondlaw31.CountsLive" = some 3 by kernel_rfl).symm.trans hf) |>.symm
      obtain rfl : fn = Tryd.f3 := (Option.some.inj (Tryd.func3.symm.trans hfn)).symm
      exact ⟨by kernel_rfl, fun j t ht => by
        have hall : (Tryd.f3.params.toList.all fun u => !Tryd.prog.wantsStandIn u) = true := by kernel_rfl
        have hm : t ∈ Tryd.f3.params.toList := by simpa using Array.mem_of_getElem? ht
        exact (show Tryd.prog.wantsStandIn t = false by simpa using List.all_eq_true.1 hall t hm)⟩)
    (by kernel_rfl)
end Go.Proofs.YtjoaaabdcfcdiaaDoor.countsLive
