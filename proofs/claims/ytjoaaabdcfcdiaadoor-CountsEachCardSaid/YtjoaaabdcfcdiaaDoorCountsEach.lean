/-
  For all numbers goosepondlaw31.CountsEach answers true: those of which there are any come in order, with their names; all together are as many as were counted. Conditions: none but the statement's own.
-/
import Derived.Test.YtjoaaabdcfcdiaaDoorRows
import Derived.WalkKit
import Derived.ProofKit
import Derived.OpenShut
import Derived.ChangeOld
import Derived.Below
import Derived.Test.YtjoaaabdcfcdiaaDoorCc1
import Derived.Test.YtjoaaabdcfcdiaaDoorCc3
import Derived.Test.YtjoaaabdcfcdiaaDoorCards
import Derived.LaidMore
import Derived.SevenTiedAt
import Derived.Stop.Joined
namespace Go.Proofs.YtjoaaabdcfcdiaaDoor.countsEach
open Go.ChangeShapes Go.WideShapes Go.ChangeAt Go.RowKit
set_option linter.unusedVariables false
attribute [local go_sem] Oper.semAt_some

theorem own : ownKnob Tryd.prog.godebug = none := by kernel_rfl
theorem laidOut : laidOutB Tryd.prog = true := by kernel_rfl

/-! ### The walk -/
set_option maxRecDepth 100000 in
set_option maxHeartbeats 4000000 in
theorem walk (A0 : Option Addr) (c0 : Nat) (z0 : List Int) (w : World) (h0 : RdI w w.heap.size A0 z0) (l0 : z0.length ≤ c0) (m0 : c0 ≤ maxLen) (w0 : ∀ n ∈ z0, (Lit.int .i64 n).wf = true) (hT : Tabs w) :
    Calls Tryd.prog 4 #[.slice A0 z0.length c0] w fun e w' => e = .returned (.bool true) ∧ Below w.heap.size w w' := by
  have HT := Lib.hid hT
  clear hT
  obtain ⟨V0, hV0⟩ : ∃ V0, V0 = w.alloc (.cells #[.bool false] 4) := ⟨_, rfl⟩
  have hb0 : Below w.heap.size w V0 := by rw [hV0]; exact (Below.refl _ w).alloc (Nat.le_refl _) _
  have hr0 : Boxed V0 w.heap.size 4 (.bool false) := by rw [hV0]; exact Boxed.new w _ _
  have HV0 := Lib.hid hV0
  have HT0 := Lib.hid (HT.out.step hb0)
  have htw := HT.out.lt
  obtain ⟨n, hn⟩ : ∃ n, n = z0.length := ⟨_, rfl⟩
  have H0 := Lib.hid h0
  have HN := Lib.hid hn
  rw [← hn]
  clear hV0 h0 hn w0 l0
  refine (callsIn_wide (n := 4)).1 ?_
  refine callsIn_of_wp_marks Tryd.func4 rfl trivial ?_ rfl
  simp only [Tryd.ntmps4, List.size_toArray, List.length_cons, List.length_nil, Nat.reduceAdd, Nat.reduceSub, Array.replicate_succ, Array.replicate_zero, List.push_toArray, List.append_toArray, List.nil_append, List.cons_append]
  gi_upto_region 1 with fail
  rw [← HV0.out]
  gi_upto_region 3 with (refine ⟨trivial, ?_⟩; gi_at_call 6; refine (callsIn_wide.2 (awake31 _ HT0.out)).mono ?_; rintro e v1 ⟨rfl, x1⟩)
  have hr1 := Boxed.below hr0 x1 (Boxed.lt hr0)
  have hb1 := hb0.trans (x1.mono hb0.size)
  have hz1 := Boxed.lt hr1
  have HT1 := Lib.hid (HT0.out.step x1)
  clear hr0 hb0 x1
  by_cases hbig : 200 < n
  · have d0 : decide (200 < (n : Int)) = true := by simp; omega
    gi_wp2_with (refine ⟨trivial, ?_⟩; gi_at_call 6; refine (callsIn_wide.2 (awake31 _ HT1.out)).mono ?_; rintro e v2 ⟨rfl, x2⟩; have hr2 := Boxed.below hr1 x2 hz1; have k2 := Boxed.cell hr2; have f2 := Boxed.frozen hr2)
    refine ⟨_, cell1c rfl rfl (Boxed.set _ hr2), rfl, (hb1.trans (x2.mono hb1.size)).setCell (p := ⟨w.heap.size, 0, none⟩) (by simp) _⟩
  have d0 : decide (200 < (n : Int)) = false := by simp; omega
  gi_upto_region 6 with (refine ⟨trivial, ?_⟩; gi_at_call 7; refine (callsIn_wide.2 (cnnew v1)).mono ?_; rintro e v2 ⟨rfl, c2, x2⟩; have C2 := Lib.hid c2; clear c2)
  obtain ⟨V3, hV3⟩ : ∃ V3, V3 = v2.alloc (.cells #[.pointer (some ⟨v1.heap.size, 0, none⟩)] 24) := ⟨_, rfl⟩
  have he : Hid (E1 w v2.heap.size v1.heap.size 0 zeroC V3) := Lib.hid (by
    have b3 : Below v2.heap.size v2 V3 := by rw [hV3]; exact (Below.refl _ v2).alloc (Nat.le_refl _) _
    have b13 := x2.trans (b3.mono x2.size)
    exact ⟨Boxed.below hr1 b13 hz1, by rw [hV3]; exact Boxed.new _ _ _, C2.out.below b3, HT1.out.step b13, hb1.trans (b13.mono hb1.size), bdC_zero, rfl, by decide⟩)
  rw [← hV3]
  have hkc : v1.heap.size < v2.heap.size := heap_lt C2.out.obj
  clear hV3 C2 x2 hr1 hb1
  generalize v1.heap.size = k at *
  generalize v2.heap.size = cb at *
  gi_wp2
  gi_loopw [4, 20] (fun u i wr => ∃ (j : Nat) (L : List Int), j ≤ n ∧ i = .int .i64 (j : Int) ∧ u = .int .i64 L.sum ∧ Hid (E1 w cb k j L wr)) (fun _ i _ => n - (intOf i).toNat)
  case atStart => exact ⟨0, _, Nat.zero_le _, rfl, rfl, he⟩
  case round =>
    clear he
    obtain ⟨j, L, hj, rfl, rfl, HE⟩ := hrel
    have hs := HE.out.sm
    by_cases hlt : j < n
    · obtain ⟨b1, off, e1, hbl, hcell⟩ := H0.out (by rw [← HN.out]; omega)
      subst e1
      have hc : wr.cell? ⟨b1, off + j, none⟩ = some (.int .i64 (z0.getD j 0)) := (HE.out.bel.cell (p := ⟨b1, off + j, none⟩) hbl).trans (hcell j (by rw [← HN.out]; omega))
      generalize z0.getD j 0 = r at hc
      have kp := Boxed.cell HE.out.cp
      have hsu := sum_upC HE.out.cn.n r
      clear hbl hcell
      cases hZ : isC r with
      | true =>
        rw [hZ, if_pos rfl] at hsu
        have HZ := Lib.hid hZ
        have HSU := Lib.hid hsu
        clear hZ hsu
        gi_wp2_with (refine ⟨trivial, ?_⟩; gi_at_call 9; refine (callsIn_wide.2 (cnadd HE.out.cn HE.out.bd (by omega) r)).mono ?_; rintro e y1 ⟨rfl, c1, o1⟩; rw [HZ.out]; have HE1 := Lib.hid (HE.out.add r o1 c1 hz1 hkc htw); clear c1 o1)
        go_roundw
        case rel => exact ⟨j + 1, _, by omega, by simp, by rw [HSU.out], HE1⟩
        case measure => simp [intOf]; omega
      | false =>
        rw [hZ, if_neg (by decide)] at hsu
        have HZ := Lib.hid hZ
        have HSU := Lib.hid hsu
        clear hZ hsu
        gi_wp2_with (refine ⟨trivial, ?_⟩; gi_at_call 9; refine (callsIn_wide.2 (cnadd HE.out.cn HE.out.bd (by omega) r)).mono ?_; rintro e y1 ⟨rfl, c1, o1⟩; rw [HZ.out]; have HE1 := Lib.hid (HE.out.add r o1 c1 hz1 hkc htw); clear c1 o1)
        go_roundw
        case rel => exact ⟨j + 1, _, by omega, by simp, by rw [HSU.out, Int.add_zero], HE1⟩
        case measure => simp [intOf]; omega
    · obtain rfl : n = j := by omega
      have hsl := HE.out.cn.n
      gi_upto_region 14 with fail
      obtain ⟨V4, hV4⟩ : ∃ V4, V4 = (wr.alloc (.cells #[.int .i64 0] 3)).alloc (.cells #[.int .i64 0] 3) := ⟨_, rfl⟩
      have hx : Hid (Ech w wr.heap.size (wr.heap.size + 1) cb k L 0 0 V4) := Lib.hid (by
        have ba := (Below.refl _ wr).alloc (Nat.le_refl _) (.cells #[.int .i64 0] 3)
        have hz : (wr.alloc (.cells #[.int .i64 0] 3)).heap.size = wr.heap.size + 1 := by simp
        have bb := (Below.refl _ (wr.alloc (.cells #[.int .i64 0] 3))).alloc (Nat.le_refl _) (.cells #[.int .i64 0] 3)
        have b4 : Below wr.heap.size wr V4 := by rw [hV4]; exact ba.trans (bb.mono ba.size)
        have n1 := Boxed.new wr 3 (.int .i64 0)
        have n2 := Boxed.new (wr.alloc (.cells #[.int .i64 0] 3)) 3 (.int .i64 0)
        rw [hz] at n2
        exact ⟨Boxed.below HE.out.res b4 (Boxed.lt HE.out.res), by rw [hV4]; exact Boxed.below n1 bb (Boxed.lt n1), by rw [hV4]; exact n2, Boxed.below HE.out.cp b4 (Boxed.lt HE.out.cp), HE.out.cn.below b4, HE.out.tab.step b4, HE.out.bel.trans (b4.mono HE.out.bel.size)⟩)
      have hcs : cb < wr.heap.size := Boxed.lt HE.out.cp
      have HBD := Lib.hid HE.out.bd
      have HLZ := Lib.hid HE.out.z
      rw [← hV4]
      clear hV4 HE hlt
      generalize wr.heap.size = sb at *
      obtain ⟨lb, hlb⟩ : ∃ lb, lb = sb + 1 := ⟨_, rfl⟩
      rw [← hlb] at hx ⊢
      have hsb : sb < lb := by omega
      clear hlb
      have kp := Boxed.cell hx.out.cp
      gi_wp2_with (refine ⟨trivial, ?_⟩; gi_at_call 16; refine (callsIn_wide.2 (cneach hx.out.cn)).mono ?_; rintro e w5 ⟨bm, be, rfl, hbe, hbm, hrow, x5⟩)
      have HX5 := Lib.hid (hx.out.below x5)
      have hg5 := heap_lt hrow
      have hgl : lb < V4.heap.size := Boxed.lt hx.out.lst
      generalize V4.heap.size = g at *
      clear kp x5 hx
      refine wpIn_actC (fun ac hac => ?_)
      refine range_own (by omega) (gf := 20) (lb := #[.pointer (some ⟨be, 0, none⟩)]) (by subst hac; rfl) (enters_of Tryd.func20 (by kernel_rfl) rfl)
        (cneach1_seq (w5.heap.size + 1) be bm 14 (some ⟨g, 0, none⟩) L (fun b => b = sb ∨ b = lb ∨ b = w5.heap.size + 1) w5 hbe (by rw [hsl]; exact hbm) (.inr ⟨g, rfl, hrow⟩) (by omega) HX5.out.tab (fun b e => by omega) (by omega) (fun a e => by cases e; show ¬ (g = sb ∨ g = lb ∨ g = w5.heap.size + 1); omega) (fun a e => by cases e; exact hg5) 3 (by decide))
        (fun h k => h.trans k) (fun X r r' h => KZ.put _ (.inr (.inr rfl))) (Below.refl _ _) (fun _ => rfl) (fun _ _ _ _ _ _ h _ _ => h)
        (fun pre X => Ech w sb lb cb k L (sumM pre) ((lastM pre : Nat) : Int) X)
        (fun pre X Y r hs hg hr => hs.kept hg hr (by omega) (by omega))
        HX5.out
        (fun x => { tmps := (((ac.tmps.setIfInBounds 32 (.string (strB (nmC (x.1 : Int))))).setIfInBounds 33 (.int .i64 x.2)).setIfInBounds 9 (.string (strB (nmC (x.1 : Int))))).setIfInBounds 10 (.int .i64 x.2), defers := [] }) ?assign ?body ?done
      case assign =>
        intro l x X K hK
        subst hac
        dsimp only [encN]
        simp only [List.setIfInBounds_toArray, List.set_cons_succ, List.set_cons_zero] at hK
        gi_wp2
        exact hK
      case body =>
        rintro l' pre ⟨i, x⟩ X hE hG hz
        obtain ⟨hpi, hiL, hxi, hx0, hzero, hs0, hsx⟩ := met_next HBD.out HLZ.out hG
        subst hac
        simp only [List.setIfInBounds_toArray, List.set_cons_succ, List.set_cons_zero]
        have HSN := Lib.hid (sumM_snoc pre (i, x))
        have HLN := Lib.hid (lastM_snoc pre (i, x))
        dsimp only at HSN HLN ⊢
        generalize hp : lastM pre = p at *
        generalize hs9 : sumM pre = s at *
        rw [hsl] at hiL
        have hgt : gtC L (i : Int) = x := by
          rw [gtC, if_pos (by omega), Int.toNat_natCast, List.getD_eq_getElem?_getD, hxi]; rfl
        have hgz : ∀ q : Nat, p < q → q < i → gtC L (q : Int) = 0 := fun q h1 h2 => by
          rw [gtC, if_pos (by omega), Int.toNat_natCast]; exact hzero q h1 h2
        have hsw : IntKind.i64.wrap (s + x) = s + x := IntWalk.i64_in _ (by omega)
        have HGT := Lib.hid hgt
        have HGZ := Lib.hid hgz
        have HSW := Lib.hid hsw
        have HE := Lib.hid hE
        have kl := Boxed.cell hE.lst
        have fl := Boxed.frozen hE.lst
        clear hG hp hs9 hxi hzero hgt hgz hsw hE hbe hbm hrow
        gi_wp2
        have HE1 := Lib.hid (HE.out.setL hz1 hkc hcs hsb htw ((p : Int) + 1))
        have hk1 := KZ.cell X lb (.int .i64 ((p : Int) + 1))
        generalize X.setCell ⟨lb, 0, none⟩ (.int .i64 ((p : Int) + 1)) = X1 at *
        clear kl fl
        gi_loopw [] (fun wr => ∃ (q : Nat), p + 1 ≤ q ∧ q ≤ i ∧ Hid (Ech w sb lb cb k L s (q : Int) wr) ∧ Hid (KZ (fun b => b = lb) X wr)) (fun wr => 14 - lvAt wr lb)
        case atStart => exact ⟨p + 1, Nat.le_refl _, hpi, HE1, Lib.hid hk1⟩
        case round =>
          clear HE1 hk1
          obtain ⟨q, hq1, hq2, HQ, HK⟩ := hrel
          have kl := Boxed.cell HQ.out.lst
          have fl := Boxed.frozen HQ.out.lst
          have kp := Boxed.cell HQ.out.cp
          have d1 : decide ((q : Int) < 14) = true := by simp; omega
          by_cases hqi : q < i
          · have HG0 := Lib.hid (HGZ.out q (by omega) hqi)
            have HLV := Lib.hid (lvAt_box HQ.out.lst)
            have HQ1 := Lib.hid (HQ.out.setL hz1 hkc hcs hsb htw ((q : Int) + 1))
            have HLW := Lib.hid (lvAt_box HQ1.out.lst)
            gi_wp2_with (refine ⟨trivial, ?_⟩; gi_at_call 11; refine (callsIn_wide.2 (cnget HQ.out.cn (q : Int))).mono ?_; rintro e y3 ⟨rfl, rfl⟩; rw [HG0.out])
            go_roundw
            case rel => exact ⟨q + 1, by omega, by omega, HQ1, Lib.hid (HK.out.trans (KZ.cell _ lb _))⟩
            case measure => rw [HLV.out, HLW.out]; omega
          · obtain rfl : i = q := by omega
            have dx : (x == 0) = false := by simp; omega
            have d2 : decide ((i : Int) ≥ 14) = false := by simp; omega
            have d3 : decide (14 ≤ (i : Int)) = false := by simp; omega
            have dxx : (x != x) = false := by simp
            have dss : ((strB (nmC (i : Int))).toList != (strB (nmC (i : Int))).toList) = false := by simp
            have ks := Boxed.cell HQ.out.sum
            have fs := Boxed.frozen HQ.out.sum
            have hsw := HSW.out
            gi_wp2_with (first
              | (refine ⟨trivial, ?_⟩; gi_at_call 11; refine (callsIn_wide.2 (cnget HQ.out.cn (i : Int))).mono ?_; rintro e y3 ⟨rfl, rfl⟩; rw [HGT.out])
              | (refine ⟨trivial, ?_⟩; gi_at_call 13; refine (callsIn_wide.2 (cname (i : Int) _ HQ.out.tab)).mono ?_; rintro e y4 ⟨rfl, rfl⟩))
            have HF := HQ.out.setS hz1 hkc hcs hsb htw (s + x)
            have hk := (HK.out.mono (Z' := fun b => b = sb ∨ b = lb) (fun b h => .inr h)).trans ((KZ.cell _ sb (.int .i64 (s + x))).mono (fun b h => .inl h))
            exact ⟨hk.from (fun b h => by rcases h with h | h <;> omega), hk.mono (fun b h => by
              rcases h with h | h
              · exact .inl h
              · exact .inr (.inl h)), by show Ech w sb lb cb k L (sumM (pre ++ [(i, x)])) ((lastM (pre ++ [(i, x)]) : Nat) : Int) _; rw [HSN.out, HLN.out]; exact HF⟩
      case done =>
        rintro D xs X hD hxs hE hK
        subst hac
        have hsm : sumM xs = L.sum := by rw [hxs]; exact sumM_met 0 (fun y hy => (HBD.out y hy).1)
        rw [hsm] at hE
        have hm1 : Marks w5.heap.size X.heap.size [{ target := .collected D, args := #[] }] X := (Marks.push (hi := D) (ds := []) trivial (Nat.le_refl _) hD hK).more (heap_lt hK)
        have HE := Lib.hid hE
        have ks := Boxed.cell hE.sum
        have dq : (L.sum == L.sum) = true := by simp
        clear hE hbe hbm hrow hsm hxs
        gi_upto_region 23 with fail
        refine wpIn_wide.2 ?_
        go_wp2_with (go_at_call 6; refine (awake31 _ HE.out.tab).mono ?_; rintro e y6 ⟨rfl, x6⟩; have X6 := Lib.hid x6; have hx6 := (HE.out.below X6.out).res; have k6 := Boxed.cell hx6; have f6 := Boxed.frozen hx6; clear x6)
        have b6 := HE.out.bel.trans (X6.out.mono (Nat.le_of_lt (Boxed.lt HE.out.res)))
        have hmr : Marks w5.heap.size X.heap.size [{ target := .collected D, args := #[] }] (y6.setCell ⟨w.heap.size, 0, none⟩ (.bool true)) :=
          hm1.keep (fun k h1 h2 => (Below.heap_setCell _ _ _ _ (by simp; omega)).trans (X6.out.block k h2))
        gi_wp2
        refine leaves_marks w5.heap.size (fun Y => Boxed Y w.heap.size 4 (.bool true) ∧ Below w.heap.size w Y)
          (fun Y D hY h1 h2 => ⟨box_keep (n := w5.heap.size) hY.1 (grownBy_putObj' Y D _) (fun k e => by cases e; exact ⟨h1, _, h2, rfl⟩), hY.2.trans (belowK_b (w := w) (Nat.le_refl _) Y D _ _ (by omega) h2 rfl rfl)⟩)
          (fun Y hY => ⟨_, cell1c rfl rfl hY.1, rfl, hY.2⟩) _ _ _ hmr ⟨Boxed.set _ hx6, b6.setCell (p := ⟨w.heap.size, 0, none⟩) (by simp) _⟩

/-! ### The row's step -/
set_option maxRecDepth 100000 in
theorem lifted (os : Os) (started : os.Started) (H : Type) (enc : TypeId × Value → H) :
    ReturnsInHanded {} Tryd.checked os 4 .any (fun w args => (Rows.countsEachSpec.pre enc Tryd.prog Tryd.f4 [] false w args ∧ laidMetH Tryd.prog laidAll w) ∧ sizedMet enc Tryd.prog Tryd.f4 (OpenSpec.ofChange Rows.countsEachSpec) false w args) (Rows.countsEachSpec.post enc Tryd.prog Tryd.f4 false true false false) := by
  refine returnsInHanded_of_change_and (C := Tryd.checked) (X := fun w _ => laidMetH Tryd.prog laidAll w) (fun _ _ _ hh h => h.of_heap hh) own started (by kernel_rfl) Tryd.func4
    (ChangeSpec.witness_shaped (enc := enc) (C := Tryd.checked) (os := os) (X := fun w _ => laidMetH Tryd.prog laidAll w) false (World.doorLaid Tryd.prog 24 os) #[.slice none 0 0] 8 rfl (door_shaped os _) (by kernel_rfl) (by kernel_rfl) (by kernel_rfl) (door_met os _)) ?_
  intro W base args ds gs before hval0 hW _ _ hL _
  have hval : ∀ (j : Nat) t v, Tryd.f4.params[j]? = some t → args[j]? = some v → Value.okWide Tryd.prog W .any base t v := hval0
  have hW' := hW
  obtain ⟨p, q, hA0, hV, rfl, hfz, hnd⟩ := hW
  have hA : DataW.TrodAll enc Tryd.prog W 0 (fun _ => true) true Tryd.f4.params.toList args.toList ds p := hA0
  rw [Tryd.params4] at hA hval
  obtain ⟨v0, vs0, d0, ds0, p0, q0, hargs, rfl, rfl, t0, r0⟩ := trodAll_cons hA
  obtain ⟨rfl, rfl, rfl⟩ := trodAll_nil r0
  obtain rfl : args = #[v0] := by cases args; simp_all
  obtain ⟨rfl, rfl⟩ := trodVars_none hV
  have k0 := t0
  have lt0 := Trod_lt t0
  obtain ⟨A0, c0, z0, rfl, h0, l0, m0, w0⟩ := get_ints Tryd.underlying22 Tryd.underlying3 (by kernel_rfl) (hval 0 22 v0 rfl rfl) t0
  clear hA0 hval0
  refine (walk A0 c0 z0 W h0 l0 m0 w0 (tabs_of_laid hL)).mono fun e W' ⟨he, bel⟩ => ?_
  subst he
  exact ⟨_, rfl, _, _, _, [], _, [], hW', trodAll_mk1 (shut_bool Tryd.underlying4 _), (trodAll_cons_mk (Below.trod laidOut (by kernel_rfl) (of_decide_eq_true (by kernel_rfl)) k0 bel lt0) trodAll_mk0), rfl, bel.frame _, fun h => by cases h⟩

theorem over : Rows.countsEachRow.holds Tryd.pinned (OpenSpec.ofChange Rows.countsEachSpec) :=
  OpenClaim.holds_of_wide 4 Tryd.f4 rfl rfl rfl rfl rfl rfl rfl ⟨rfl, rfl, rfl, rfl, rfl⟩ rfl rfl rfl rfl rfl (by kernel_rfl) Tryd.func4 (by kernel_rfl)
    (of_decide_eq_true (by kernel_rfl)) (by unfold Func.isWrapper; first | (rw [if_pos (by decide +kernel)]; kernel_rfl) | (rw [if_neg (by decide +kernel)]; exact ⟨rfl, rfl⟩))
    (fun os started H enc _ => lifted os started H enc)

theorem proved : Rows.CountsEachCardSaid :=
  Claim7.holds_tied_plain_at .later [] Rows.countsEachCard.laidKinds true Rows.countsEachCard.stood.harness false
    over (fun _ h => by cases h) (by kernel_rfl) (fun _ h => by cases h) countsEach_row_tie rfl ⟨rfl, rfl⟩ (by kernel_rfl) rfl
    (fun f fn hf hfn => by
      obtain rfl : f = 4 := Option.some.inj ((show Tryd.prog.funcNamed "goosepond/goosepondlaw31.CountsEach" = some 4 by kernel_rfl).symm.trans hf) |>.symm
      obtain rfl : fn = Tryd.f4 := (Option.some.inj (Tryd.func4.symm.trans hfn)).symm
      exact ⟨by kernel_rfl, fun j t ht => by
        have hall : (Tryd.f4.params.toList.all fun u => !Tryd.prog.wantsStandIn u) = true := by kernel_rfl
        have hm : t ∈ Tryd.f4.params.toList := by simpa using Array.mem_of_getElem? ht
        exact (show Tryd.prog.wantsStandIn t = false by simpa using List.all_eq_true.1 hall t hm)⟩)
    (by kernel_rfl)
end Go.Proofs.YtjoaaabdcfcdiaaDoor.countsEach
