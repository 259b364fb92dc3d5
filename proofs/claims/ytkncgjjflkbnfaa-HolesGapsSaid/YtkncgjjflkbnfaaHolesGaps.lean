/-
  Whatever the parts, HolesGaps answers true and its argument reads as it did: where nothing came yet is what the document says. No condition.
-/
import Derived.Test.YtkncgjjflkbnfaaRows
import Derived.WalkKit
import Derived.ProofKit
import Derived.OpenShut
import Derived.ChangeOld
import Derived.Below
import Derived.Test.YtkncgjjflkbnfaaMa2
import Derived.Test.YtkncgjjflkbnfaaMb1
namespace Go.Proofs.Ytkncgjjflkbnfaa.holesGaps
open Go.ChangeShapes Go.WideShapes Go.ChangeAt Go.RowKit
set_option linter.unusedVariables false
attribute [local go_sem] Oper.semAt_some

theorem own : ownKnob Try.prog.godebug = none := by kernel_rfl
theorem laidOut : laidOutB Try.prog = true := by kernel_rfl

/-! ### The walk -/
set_option maxRecDepth 100000 in
set_option maxHeartbeats 4000000 in
theorem walk (A0 : Option Addr) (c0 : Nat) (l0 : List XP) (w : World) (h0 : RdS clP 3 w w.heap.size A0 l0) (e0 : ∀ y ∈ l0, Arg w w.heap.size y.A y.c y.p.b ∧ y.c ≤ maxLen ∧ (Lit.int .i64 y.p.off).wf = true) (n0 : l0.length ≤ c0) (m0 : c0 ≤ maxLen) :
    Calls Try.prog 4 #[.slice A0 l0.length c0] w fun e w' => e = .returned (.bool true) ∧ Below w.heap.size w w' := by
  obtain ⟨n, hn⟩ : ∃ n, n = l0.length := ⟨_, rfl⟩
  have HN := Lib.hid hn
  have hcap : n ≤ c0 := by rw [hn]; exact n0
  rw [← hn]
  obtain ⟨W0, hW0⟩ : ∃ W0, W0 = w.alloc (.cells #[.bool false] 4) := ⟨_, rfl⟩
  have HW0 := Lib.hid hW0
  have hb0 : Below w.heap.size w W0 := by rw [hW0]; exact (Below.refl w.heap.size w).alloc (Nat.le_refl _) (.cells #[.bool false] 4)
  have hx0 : Boxed W0 w.heap.size 4 (.bool false) := by rw [hW0]; exact Boxed.new w 4 (.bool false)
  have hu0 := Boxed.lt hx0
  have HE0 : Hid (∀ y ∈ l0, Arg W0 W0.heap.size y.A y.c y.p.b ∧ y.c ≤ maxLen ∧ (Lit.int .i64 y.p.off).wf = true) := Lib.hid (fun y hy => ⟨((e0 y hy).1.below hb0).more hb0.size, (e0 y hy).2⟩)
  have HR0 : Hid (RdS clP 3 W0 W0.heap.size A0 l0) := Lib.hid ((h0.below hb0).more hb0.size)
  clear e0 h0
  refine (callsIn_wide (n := 4)).1 ?_
  refine callsIn_of_wp_marks Try.func4 rfl trivial ?_ rfl
  simp only [Try.ntmps4, List.size_toArray, List.length_cons, List.length_nil, Nat.reduceAdd, Nat.reduceSub, Array.replicate_succ, Array.replicate_zero, List.push_toArray, List.append_toArray, List.nil_append, List.cons_append]
  gi_upto_region 1 with fail
  rw [← HW0.out]
  clear hW0
  cases hfar : farN 0 0 (piE l0) with
  | true =>
    have HF := Lib.hid hfar
    clear hfar hn n0
    gi_wp2_with (first
      | (refine ⟨trivial, ?_⟩; gi_at_call 11; refine (callsIn_wide.2 (awake15 w2)).mono ?_; rintro e w3 ⟨rfl, x3⟩; have hx3 := Boxed.below (Boxed.below (Boxed.below hx0 x1 hu0) x2 (Nat.lt_of_lt_of_le hu0 x1.size)) x3 (Nat.lt_of_lt_of_le hu0 (Nat.le_trans x1.size x2.size)); have k3 := Boxed.cell hx3; have f3 := Boxed.frozen hx3)
      | (refine ⟨trivial, ?_⟩; gi_at_call 12; refine (callsIn_wide.2 (far15 A0 c0 n W0.heap.size l0 w1 (HR0.out.below x1) x1.size HN.out (fun y hy => ⟨(HE0.out y hy).1.cap, (HE0.out y hy).2.1, (HE0.out y hy).2.2⟩))).mono ?_; rintro e w2 ⟨rfl, x2⟩; rw [HF.out])
      | (refine ⟨trivial, ?_⟩; gi_at_call 11; refine (callsIn_wide.2 (awake15 W0)).mono ?_; rintro e w1 ⟨rfl, x1⟩))
    exact ⟨_, cell1b rfl rfl (Boxed.set (.bool true) hx3), rfl, (((hb0.trans (x1.mono hb0.size)).trans (x2.mono (Nat.le_trans hb0.size x1.size))).trans (x3.mono (Nat.le_trans hb0.size (Nat.le_trans x1.size x2.size)))).setCell (p := ⟨w.heap.size, 0, none⟩) (by simp) _⟩
  | false =>
    have HF := Lib.hid hfar
    obtain ⟨hf1, hf2⟩ := farN_no hfar
    have hn60 : n ≤ 60 := by
      rw [hn]
      have : (piE l0).length = l0.length := by simp [piE]
      split at hf1 <;> omega
    have HF2 : Hid (∀ y ∈ l0, y.p.b.length ≤ 2000) := Lib.hid (fun y hy => by
      have := (hf2 y.p (List.mem_map.2 ⟨y, hy, rfl⟩)).1
      have h9 : y.p.len = (y.p.b.length : Int) := rfl
      omega)
    clear hfar hn n0 hf1 hf2
    gi_wp2_with (first
      | (refine ⟨trivial, ?_⟩; gi_at_call 13; refine (callsIn_wide.2 (hcnew w2)).mono ?_; rintro e w3 ⟨rfl, hx3, x3, -⟩)
      | (refine ⟨trivial, ?_⟩; gi_at_call 12; refine (callsIn_wide.2 (far15 A0 c0 n W0.heap.size l0 w1 (HR0.out.below x1) x1.size HN.out (fun y hy => ⟨(HE0.out y hy).1.cap, (HE0.out y hy).2.1, (HE0.out y hy).2.2⟩))).mono ?_; rintro e w2 ⟨rfl, x2⟩; rw [HF.out])
      | (refine ⟨trivial, ?_⟩; gi_at_call 11; refine (callsIn_wide.2 (awake15 W0)).mono ?_; rintro e w1 ⟨rfl, x1⟩))
    have b2 := x1.trans (x2.mono x1.size)
    have b3 := b2.trans (x3.mono b2.size)
    have hown0 : Own0 W0.heap.size w2.heap.size (.slice none 0 0) := ⟨b2.size, fun k h => by cases h⟩
    have rx4 : Rx (w3.alloc (.cells #[.slice none 0 0] 29)) w3.heap.size none 0 [] := ⟨World.alloc_heap_new w3 _, World.ownsRow_nil _ _ _ _, fun y h => (by cases h), fun y h => (by cases h), Nat.zero_le _⟩
    have hx4 := hx3.alloc (.cells #[.slice none 0 0] 29)
    have b4 := b3.alloc b3.size (.cells #[.slice none 0 0] 29)
    have hgx := b3.size
    generalize w3.alloc (.cells #[.slice none 0 0] 29) = w4 at *
    clear hx3
    generalize hgg : w2.heap.size = g at *
    generalize hggx : w3.heap.size = gx at *
    have HGG := Lib.hid hgg
    have HGX := Lib.hid hggx
    clear hgg hggx
    refine wpIn_wide.2 ?_
    go_loopw [19] (fun i wr => ∃ (k : Nat) (A : Option Addr) (c : Nat) (L : List XP) (Ax : Option Addr) (cx : Nat) (lx : List XP), k ≤ n ∧ i = .int .i64 (k : Int) ∧ Hx wr g A c L ∧ Rx wr gx Ax cx lx ∧ Hid (Same (piE L) (piE lx)) ∧ (L.length ≤ k ∧ lx.length ≤ k) ∧ Own0 W0.heap.size g (.slice A L.length c) ∧ Below W0.heap.size W0 wr)
      (fun i _ => n - (intOf i).toNat)
    case atStart => exact ⟨0, none, 0, [], none, 0, [], Nat.zero_le _, rfl, hx4, rx4, Lib.hid Same.nil, ⟨Nat.le_refl _, Nat.le_refl _⟩, hown0, b4⟩
    case round =>
      obtain ⟨k, A, c, L, Ax, cx, lx, hk, rfl, hxr, rxr, HSM, ⟨hL, hlx⟩, hown, hbel⟩ := hrel
      clear hx4 rx4 hown0 b4 b3 b2 x1 x2 x3
      by_cases hlt : k < n
      · obtain ⟨x, hx⟩ : ∃ x, l0[k]? = some x := ⟨_, List.getElem?_eq_getElem (by rw [← HN.out]; exact hlt)⟩
        have hxm := List.mem_of_getElem? hx
        have HX0 := Lib.hid (HE0.out x hxm)
        have hbl := HF2.out x hxm
        have hoff : -9223372036854775808 ≤ x.p.off ∧ x.p.off ≤ 9223372036854775807 := by
          have := HX0.out.2.2
          simp [Lit.wf, IntKind.min, IntKind.max, IntKind.bits, IntKind.signed] at this
          omega
        obtain ⟨b1, o1, e1, hb1, hrow1⟩ := row_of HR0.out hx
        have hrow := range_below hrow1 hb1 hbel
        obtain ⟨V, hV⟩ : ∃ V, V = wr.alloc (.cells (clP x).toArray 32) := ⟨_, rfl⟩
        have HVV := Lib.hid hV
        have bV : Below wr.heap.size wr V := by rw [hV]; exact (Below.refl _ wr).alloc (Nat.le_refl _) _
        have hbV : V.heap[wr.heap.size]? = some (.cells (clP x).toArray 32 (0, 0)) := by rw [hV]; exact World.alloc_heap_new wr _
        have hxV := hxr.below bV
        have rxV := rxr.below bV
        have BV := hbel.trans (bV.mono hbel.size)
        have zBV := BV.size
        have kx0 : V.cell? ⟨wr.heap.size, 0, none⟩ = some (.int .i64 x.p.off) := cells_at (i := 0) hbV rfl
        have kx1 : V.cell? ⟨wr.heap.size, 1, none⟩ = some (.bool x.p.more) := cells_at (i := 1) hbV rfl
        have kx2 : V.cell? ⟨wr.heap.size, 2, none⟩ = some (.slice x.A x.p.b.length x.c) := cells_at (i := 2) hbV rfl
        subst e1
        clear hV hx hxm hrow1 hb1
        go_wp2_with (first
          | (go_at_call 17; refine (rxadd gx Ax cx lx x.p.off x.p.more x.A x.p.b x.c w20 rx20 ((HX0.out.1.below B20).more zB20) (by omega) hoff (by omega)).mono ?_; rintro e w27 ⟨rfl, Ax2, cx2, lx2, rx27, hq27, k27, lq27⟩; have hx27 := hx20.kept k27 rx20.ofT tr_no.1 tr_no.2.1 tr_no.2.2.1; have B27 := B20.trans (k27.below zB20 (fun i hi => hi ▸ hgx)); have HSM2 : Hid (Same (piE L2) (piE lx2)) := Lib.hid (by rw [hp20, hq27]; exact HSM.out.addL _); clear hp20 hq27)
          | (go_at_call 16; refine (hcadd g A c L x.p.off x.p.more x.A x.p.b x.c V hxV ((HX0.out.1.below BV).more zBV) (by omega) hoff (by omega)).mono ?_; rintro e w20 ⟨rfl, A2, c2, L2, hx20, hp20, k20, ob20, ln20⟩; have rx20 := rxV.kept k20 hxV.ofT th_no.1 th_no.2.1 th_no.2.2.1; have hb20 := ((KP.of_kept k20 hxV.ofT th_no.2.2.2).block _ _ _ hbV).trans hbV; have B20 := hown.kept BV zBV k20; have own20 := hown.next zBV ob20; have zB20 := B20.size; have kx20 := cells_at (i := 0) hb20 rfl; have kx21 := cells_at (i := 1) hb20 rfl; have kx22 := cells_at (i := 2) hb20 rfl; clear hxV rxV)
          | ((with_reducible show wpList _ _ _ (Oper.mk _ (Op.load 32 _) _ _ _ _ :: _) _ _); refine wpList_val rfl (run_load_lp rfl rfl hrow rfl) ?_)
          | ((with_reducible show wpList _ _ _ (Oper.mk _ (Op.store 32 _ _) _ _ _ _ :: _) _ _); refine lp_store_new (cs := (clP x).toArray) rfl rfl rfl rfl (clP_one x) ?_; rw [← HVV.out]))
        go_roundw
        case rel => exact ⟨k + 1, A2, c2, L2, Ax2, cx2, lx2, by omega, by simp, hx27, rx27, HSM2, ⟨by omega, by omega⟩, own20, B27⟩
        case measure => simp [intOf]; omega
      · obtain rfl : n = k := by omega
        have hdummy := hlt
        clear hlt
        go_wp2
        obtain ⟨S, hS⟩ : ∃ S, S = gapsS 0 (piE L) := ⟨_, rfl⟩
        have HSS := Lib.hid hS
        have hgp : gapsP (piE lx) = flatG S := by rw [hS]; exact HSM.out.gaps
        have hsb : ∀ y ∈ S, 0 ≤ y.1 ∧ y.1 < y.2 ∧ y.2 ≤ 65535 := by rw [hS]; exact gapsS_bounds HSM.out.ris (Int.le_refl _) (up0 HSM.out.ris)
        have HSB := Lib.hid hsb
        obtain ⟨G, hG⟩ : ∃ G, G = flatG S := ⟨_, rfl⟩
        have HG := Lib.hid hG
        have hm2 : G.length = 2 * S.length := by rw [hG]; exact flatG_len S
        have HM2 := Lib.hid hm2
        have HGP := Lib.hid (hgp.trans hG.symm)
        have hml : G.length ≤ 131070 := by
          rw [hG, ← hgp]
          have h1 := gapsN_length (piE lx) (upP (piE lx)).toNat
          have h2 : upP (piE lx) ≤ 65535 := by
            have h3 : farP (piE lx) ≤ 65535 := farP_le _ (by omega) (fun x hx => by obtain ⟨y, hy, rfl⟩ := List.mem_map.1 hx; exact (rxr.ok y hy).2)
            have h4 := HSM.out.end_
            have h5 := farP_perm HSM.out.perm
            rw [upP, h4]
            split <;> (split <;> omega)
          rw [gapsP]; omega
        clear hS hgp hsb hG hm2
        gi_wp2_with (first
          | (refine ⟨trivial, ?_⟩; gi_at_call 24; refine (callsIn_wide.2 (hcGaps g A c L _ (((hxr.below y5).alloc _).alloc _))).mono ?_; rintro e w6 ⟨Bs, rfl, x6, hseq⟩)
          | (refine ⟨trivial, ?_⟩; gi_at_call 23; refine (callsIn_wide.2 (rxgaps gx Ax cx lx wr rxr)).mono ?_; rintro e w5 ⟨v5, rfl, o5, y5⟩; rw [HGP.out] at o5; obtain ⟨P5, c5, rfl, hc5⟩ := own_pv o5; have HC5 := Lib.hid hc5; clear hc5))
        have hz5 : w5.heap.size = w5.heap.size := rfl
        obtain ⟨W7, hW7⟩ : ∃ W7, W7 = (w5.alloc (.cells #[.slice P5 G.length c5] 40)).alloc (.cells #[.int .i64 0] 3) := ⟨_, rfl⟩
        have hwb : Boxed W7 w5.heap.size 40 (.slice P5 G.length c5) := by rw [hW7]; exact (Boxed.new w5 40 (.slice P5 G.length c5)).alloc _
        have hnb : Boxed W7 (w5.heap.size + 1) 3 (.int .i64 0) := by
          have := Boxed.new (w5.alloc (.cells #[.slice P5 G.length c5] 40)) 3 (.int .i64 0)
          rw [show (w5.alloc (.cells #[.slice P5 G.length c5] 40)).heap.size = w5.heap.size + 1 by simp] at this
          rw [hW7]; exact this
        have b57 : Below w5.heap.size w5 W7 := by rw [hW7]; exact ((Below.refl _ w5).alloc (Nat.le_refl _) _).alloc (by simp) _
        rw [← hW7] at x6
        clear hW7 hz5 o5
        have hz7 := Boxed.lt hnb
        have hwb6 := Boxed.below hwb x6 (by omega)
        have hnb6 := Boxed.below hnb x6 hz7
        have hz6 := Boxed.lt hnb6
        have b56 : Below w5.heap.size w5 w6 := b57.trans (x6.mono (by omega))
        have b06 : Below W0.heap.size W0 w6 := (hbel.trans (y5.mono hbel.size)).trans (b56.mono (Nat.le_trans hbel.size y5.size))
        have hz05 : W0.heap.size ≤ w5.heap.size := Nat.le_trans hbel.size y5.size
        clear hwb hnb b57 x6 y5 hbel hxr rxr hown
        refine range_told (by omega) (gf := 70) (lb := #[.pointer (some ⟨Bs, 0, none⟩)]) rfl (enters_of Try.func70 (by kernel_rfl) rfl)
          (hseq (4 - 1) (by omega)) KeepS.trans (fun V l r r' hl hr => KeepS.loop hr) (Below.refl _ _) (fun _ => rfl)
          (fun pre x V l r r' h _ hl => h)
          (fun pre X => Boxed X (w5.heap.size + 1) 3 (.int .i64 (pre.length : Int)) ∧ Below (w5.heap.size + 1) w6 X)
          (fun _ _ _ => False)
          (fun pre X Y r hs hg hr => ⟨box_keep hs.1 hg hr, below_keep hs.2 hg hr (by omega) (by omega)⟩)
          (fun cd pre X Y r hs hg hr => hs)
          ⟨hnb6, Below.refl _ _⟩
          (fun x => { tmps := #[.slice A0 n c0, undef, .pointer (some ⟨w.heap.size, 0, none⟩), .pointer (some ⟨g, 0, none⟩), .pointer (some ⟨gx, 0, none⟩), undef, u6, .pointer (some ⟨w5.heap.size, 0, none⟩), .pointer (some ⟨w5.heap.size + 1, 0, none⟩), .int .i64 x.1, .int .i64 x.2, .bool true, .bool false, .slice A0 n c0, .bool false, undef, .pointer (some ⟨g, 0, none⟩), .slice A0 n c0, .int .i64 (n : Int), .int .i64 (n : Int), .bool false, u21, u22, u23, u24, u25, u26, u27, u28, u29, u30, u31, u32, u33, u34, u35, u36, u37, u38, .slice P5 G.length c5, .pointer (some ⟨g, 0, none⟩), .func (.func 70) #[] #[.pointer (some ⟨Bs, 0, none⟩)], .int .i64 x.1, .int .i64 x.2, undef, undef, undef, undef, undef, undef, undef, undef, undef, undef, undef, undef, undef, undef, undef, undef, undef, undef, undef, undef, undef, undef, undef, undef, undef, undef, undef, undef, undef, undef, undef, undef, undef, undef, undef], defers := [] }) ?assign ?body ?done ?stop
        case assign =>
          intro l x X K hK
          dsimp only [encG]
          gi_wp2
          exact hK
        case body =>
          rintro l pre ⟨lo, hi⟩ X ⟨hnX, hbX⟩ ⟨more, hmore⟩
          rw [← HSS.out] at hmore
          obtain ⟨q1, q2⟩ := flatG_get pre (lo, hi) more
          rw [← hmore, ← HG.out] at q1 q2
          obtain ⟨s1, s2, s3⟩ := HSB.out (lo, hi) (by rw [hmore]; simp)
          dsimp only at q1 q2 s1 s2 s3 ⊢
          have hkm := (List.getElem?_eq_some_iff.1 q2).1
          obtain ⟨gr, hP5, hgr, hc1⟩ := HC5.out (2 * pre.length) (by omega)
          obtain ⟨gr', hP5', _, hc2⟩ := HC5.out (2 * pre.length + 1) hkm
          rw [hP5] at hP5'
          injection hP5' with hP5'
          injection hP5' with hgg'
          subst hgg'
          subst hP5
          have e1 : ((G.getD (2 * pre.length) 0 : Nat) : Int) = lo := by rw [List.getD, q1]; simp; omega
          have e2 : ((G.getD (2 * pre.length + 1) 0 : Nat) : Int) = hi := by rw [List.getD, q2]; simp; omega
          rw [e1] at hc1
          rw [e2] at hc2
          have b5X : Below w5.heap.size w5 X := b56.trans (hbX.mono (by omega))
          have hd1 := (b5X.cell (p := ⟨gr, 2 * pre.length, none⟩) hgr).trans hc1
          have hd2 := (b5X.cell (p := ⟨gr, 2 * pre.length + 1, none⟩) hgr).trans hc2
          have hwX := (Boxed.below hwb6 hbX (by omega)).cell
          have cnX := Boxed.cell hnX
          have fnX := Boxed.frozen hnX
          obtain ⟨k, hk'⟩ : ∃ k, k = pre.length := ⟨_, rfl⟩
          have HK := Lib.hid hk'
          obtain ⟨mm, hmm⟩ : ∃ mm, mm = G.length := ⟨_, rfl⟩
          have HMM := Lib.hid hmm
          rw [← hk'] at hd1 hd2 cnX hkm
          rw [← hmm] at hwX hkm hml ⊢
          have dd1 : decide (2 * (k : Int) + 1 ≥ (mm : Int)) = false := decide_eq_false (by omega)
          have dd2 : decide ((mm : Int) ≤ 2 * (k : Int) + 1) = false := dd1
          have ht1 : (2 * (k : Int)).toNat = 2 * k := by omega
          have ht2 : (2 * (k : Int) + 1).toNat = 2 * k + 1 := by omega
          clear q1 q2 hmore hc1 hc2 e1 e2 hk' hmm
          gi_wp2
          refine ⟨(KeepsOthers.setCell _ _ _).from _, KeepS.set hnX rfl, ?_, hbX.setCell (p := ⟨w5.heap.size + 1, 0, none⟩) (Nat.le_refl _) _⟩
          have h9 := Boxed.set (.int .i64 ((k : Int) + 1)) hnX
          rw [show ((pre ++ [(lo, hi)]).length : Int) = (k : Int) + 1 by rw [HK.out]; simp]
          exact h9
        case stop =>
          rintro D cd pre X hD _ hf hK
          exact hf.elim
        case done =>
          rintro D xs X hD hS ⟨hnX, hbX⟩ hK
          rw [← HSS.out] at hS
          subst hS
          have hm1 : Marks w6.heap.size X.heap.size [{ target := .collected D, args := #[] }] X := (Marks.push (hi := D) (ds := []) trivial (Nat.le_refl _) hD hK).more (heap_lt hK)
          have b5X : Below w5.heap.size w5 X := b56.trans (hbX.mono (by omega))
          have b0X : Below W0.heap.size W0 X := b06.trans (hbX.mono (by omega))
          have hwX := (Boxed.below hwb6 hbX (by omega)).cell
          have cnX := Boxed.cell hnX
          have hrX := Boxed.below hx0 b0X hu0
          obtain ⟨K9, hK9⟩ : ∃ K9, K9 = xs.length := ⟨_, rfl⟩
          have hGL : G.length = 2 * K9 := by rw [hK9]; exact HM2.out
          rw [← hK9] at cnX
          rw [hGL] at hwX
          have hkb : K9 ≤ 70000 := by omega
          clear hseq hK9 hml hwb6 hnb6
          gi_upto_region 21 with fail
          refine wpIn_wide.2 ?_
          go_wp2_with (go_at_call 11; refine (awake15 _).mono ?_; rintro e y2 ⟨rfl, x4⟩; have hx4 := Boxed.below hrX x4 (Boxed.lt hrX); have k4 := Boxed.cell hx4; have f4 := Boxed.frozen hx4)
          have b4 := (hb0.trans (b0X.mono hb0.size)).trans (x4.mono (Nat.le_trans hb0.size b0X.size))
          have hw6 : w.heap.size < w6.heap.size := Nat.lt_of_lt_of_le hu0 b06.size
          have hmr : Marks w6.heap.size X.heap.size [{ target := .collected D, args := #[] }] (y2.setCell ⟨w.heap.size, 0, none⟩ (.bool true)) :=
            hm1.keep (fun k h1 h2 => (Below.heap_setCell _ _ _ _ (by simp; omega)).trans (x4.block k h2))
          gi_wp2
          refine leaves_marks w6.heap.size (fun Y => Boxed Y w.heap.size 4 (.bool true) ∧ Below w.heap.size w Y)
            (fun Y D hY h1 h2 => ⟨box_keep (n := w6.heap.size) hY.1 (grownBy_putObj' Y D _) (fun k e => by cases e; exact ⟨h1, _, h2, rfl⟩), hY.2.trans (belowK_b (w := w) (Nat.le_refl _) Y D _ _ (by omega) h2 rfl rfl)⟩)
            (fun Y hY => ⟨_, cell1b rfl rfl hY.1, rfl, hY.2⟩) _ _ _ hmr ⟨Boxed.set _ hx4, b4.setCell (p := ⟨w.heap.size, 0, none⟩) (by simp) _⟩

/-! ### The row's step -/
set_option maxRecDepth 100000 in
theorem lifted (os : Os) (started : os.Started) (H : Type) (enc : TypeId × Value → H) :
    ReturnsInHanded {} Try.checked os 4 .any (Rows.holesGapsSpec.pre6 enc Try.prog Try.f4 Rows.holesGapsRow.domain false) (Rows.holesGapsSpec.post enc Try.prog Try.f4 false true false false) := by
  refine returnsInHanded_of_change (C := Try.checked) own started (by kernel_rfl) Try.func4
    (ChangeSpec.witness6 (enc := enc) (C := Try.checked) false ⟨#[], #[.slice none 0 0], []⟩ 8 (by kernel_rfl) (by kernel_rfl) (by kernel_rfl) (by kernel_rfl)) ?_
  intro W base args ds gs before hval0 hW hcnd _
  have hval : ∀ (j : Nat) t v, Try.f4.params[j]? = some t → args[j]? = some v → Value.okWide Try.prog W .any base t v := hval0
  have hW' := hW
  obtain ⟨p, q, hA0, hV, rfl, hfz, hnd⟩ := hW
  have hA : DataW.TrodAll enc Try.prog W 0 (fun _ => true) true Try.f4.params.toList args.toList ds p := hA0
  rw [Try.params4] at hA hval
  obtain ⟨v0, vs0, d0, ds0, p0, q0, hargs, rfl, rfl, t0, r0⟩ := trodAll_cons hA
  obtain ⟨rfl, rfl, rfl⟩ := trodAll_nil r0
  obtain rfl : args = #[v0] := by cases args; simp_all
  obtain ⟨rfl, rfl⟩ := trodVars_none hV
  have k0 := t0
  have lt0 := Trod_lt t0
  obtain ⟨A0, c0, l0, rfl, h0, e0, n0, m0⟩ := get_hps (hval 0 22 v0 rfl rfl) t0
  clear hA0 hval0
  refine (walk A0 c0 l0 W h0 e0 n0 m0).mono fun e W' ⟨he, bel⟩ => ?_
  subst he
  exact ⟨_, rfl, _, _, _, [], _, [], hW', trodAll_mk1 (shut_bool Try.underlying4 _), (trodAll_cons_mk (Below.trod laidOut (by kernel_rfl) (of_decide_eq_true (by kernel_rfl)) k0 bel lt0) trodAll_mk0), rfl, bel.frame _, fun h => by cases h⟩

theorem over : Rows.holesGapsRow.holds Try.pinned (OpenSpec.ofChange Rows.holesGapsSpec) :=
  OpenClaim.holds_of_wide 4 Try.f4 rfl rfl rfl rfl rfl rfl rfl ⟨rfl, rfl, rfl, rfl, rfl⟩ rfl rfl rfl rfl rfl (by kernel_rfl) Try.func4 (by kernel_rfl)
    (of_decide_eq_true (by kernel_rfl)) (by unfold Func.isWrapper; first | (rw [if_pos (by decide +kernel)]; kernel_rfl) | (rw [if_neg (by decide +kernel)]; exact ⟨rfl, rfl⟩))
    (fun os started H enc _ => lifted os started H enc)

theorem proved : Rows.HolesGapsSaid := over
end Go.Proofs.Ytkncgjjflkbnfaa.holesGaps
