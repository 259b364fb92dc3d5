/-
  For all times and steps goosepondlaw17.WheelSteps answers true: it does not matter in how many steps time passes. Conditions: none but the statement's own.
-/
import Derived.Test.YtjgcpaepaocigaaRows
import Derived.WalkKit
import Derived.ProofKit
import Derived.OpenShut
import Derived.ChangeOld
import Derived.Below
import Derived.Test.YtjgcpaepaocigaaWb1
import Derived.Test.YtjgcpaepaocigaaWb8
namespace Go.Proofs.Ytjgcpaepaocigaa.wheelSteps
open Go.ChangeShapes Go.WideShapes Go.ChangeAt Go.RowKit
set_option linter.unusedVariables false
attribute [local go_sem] Oper.semAt_some

theorem own : ownKnob Try.prog.godebug = none := by kernel_rfl
theorem laidOut : laidOutB Try.prog = true := by kernel_rfl

/-! ### The walk -/
set_option maxRecDepth 100000 in
set_option maxHeartbeats 4000000 in
theorem walk (A0 : Option Addr) (c0 : Nat) (z0 : List Int) (a1 : Int) (w : World) (h0 : Rd16 w w.heap.size A0 z0) (l0 : z0.length ≤ c0) (m0 : c0 ≤ maxLen) (w0 : ∀ n ∈ z0, (Lit.int .u16 n).wf = true) (w1 : (Lit.int .u8 a1).wf = true) :
    Calls Try.prog 3 #[.slice A0 z0.length c0, .int .u8 a1] w fun e w' => e = .returned (.bool true) ∧ Below w.heap.size w w' := by
  obtain ⟨n, hn⟩ : ∃ n, n = z0.length := ⟨_, rfl⟩
  have HN := Lib.hid hn
  have HR0 := Lib.hid h0
  have HW := Lib.hid w0
  have bb := u8_bd w1
  obtain ⟨s9, hs9⟩ : ∃ s : Nat, (s : Int) = 97 + 40 * a1 := ⟨(97 + 40 * a1).toNat, by omega⟩
  have hs97 : 97 ≤ s9 := by omega
  have hs98 : s9 ≤ 10297 := by omega
  have HS9 := Lib.hid hs9
  have hwa1 : IntKind.i64.wrap a1 = a1 := IntWalk.i64_in _ (by omega)
  rw [← hn] at l0 ⊢
  clear hn h0 w0 hs9
  go_enter Try.func3, Try.ntmps3
  go_upto_region 3 with (go_at_call 7; refine (awake17 w).mono ?_; rintro e u1 ⟨rfl, x1⟩)
  by_cases hbig : n > 60
  · have dq1 : decide (60 < (n : Int)) = true := decide_eq_true (by omega)
    have dq2 : decide (60 < n) = true := decide_eq_true (by omega)
    go_wp2_with (go_at_call 7; refine (awake17 u1).mono ?_; rintro e u2 ⟨rfl, x2⟩)
    go_ret
    exact ⟨rfl, x1.trans (x2.mono x1.size)⟩
  · have dq1 : decide (60 < (n : Int)) = false := decide_eq_false (by omega)
    have dq2 : decide (60 < n) = false := decide_eq_false (by omega)
    have hn60 : n ≤ 60 := by omega
    clear hbig
    go_upto_region 6 with (go_at_call 8; refine (wnewG 100 u1 (by decide) (by decide)).mono ?_; rintro e u2 ⟨d1, M1, rfl, h2, x2, r1, r2⟩)
    clear dq1 dq2
    go_upto_region 7 with (go_at_call 8; refine (wnewG 100 u2 (by decide) (by decide)).mono ?_; rintro e u3 ⟨d2, M2, rfl, h3, x3, r3, r4⟩)
    have hT0 : Tw u1 d1 M1 d2 M2 0 0 [] [] 0 0 u3 := by
      refine ⟨h2.below x3, h3, fun k q1 q2 => ?_, fun k q => ?_, fun k q => ?_, x2.trans (x3.mono x2.size)⟩
      · have := h2.lt q1
        rcases q2 with e | e | ⟨x, hx, _⟩
        · omega
        · omega
        · cases hx
      · rcases q with e | e | ⟨x, hx, _⟩
        · omega
        · omega
        · cases hx
      · have := x2.size
        rcases q with e | e | ⟨x, hx, _⟩
        · omega
        · omega
        · cases hx
    have HT0 := Lib.hid hT0
    have hu1 := x1.size
    clear h2 h3 x2 x3 r1 r2 r3 r4 hT0
    obtain ⟨P9, hP9⟩ : ∃ P9 : Nat → List (Nat × Int), P9 = fun i => (List.range i).map (fun j => ((z0.getD j 0).toNat, (j : Int))) := ⟨_, rfl⟩
    have HP0 : Hid (P9 0 = [] ∧ ∀ i, P9 (i + 1) = P9 i ++ [((z0.getD i 0).toNat, (i : Int))]) := Lib.hid (by
      rw [hP9]
      refine ⟨rfl, fun i => ?_⟩
      show (List.range (i + 1)).map _ = _
      rw [List.range_succ, List.map_append]; rfl)
    have HPM : Hid (∀ i x, x ∈ P9 i → ∃ j, j < i ∧ x = ((z0.getD j 0).toNat, (j : Int))) := Lib.hid (fun i x hx => by
      rw [hP9] at hx
      obtain ⟨j, hj, rfl⟩ := List.mem_map.1 hx
      exact ⟨j, List.mem_range.1 hj, rfl⟩)
    have HPL : Hid (∀ i, (P9 i).length = i) := Lib.hid (fun i => by rw [hP9]; show ((List.range i).map _).length = i; rw [List.length_map, List.length_range])
    clear hP9
    go_wp2
    go_loopw [44] (fun z wr => ∃ i : Nat, i ≤ n ∧ z = .int .i64 (i : Int) ∧ ∃ E1 E2, Hid (Tw u1 d1 M1 d2 M2 0 0 E1 E2 i i wr) ∧ Hid (E1.map pr = P9 i ∧ E2.map pr = P9 i)) (fun z _ => n - (intOf z).toNat)
    case atStart => exact ⟨0, Nat.zero_le _, rfl, [], [], HT0, Lib.hid ⟨HP0.out.1.symm, HP0.out.1.symm⟩⟩
    case round =>
      clear HT0
      obtain ⟨i, hi, rfl, E1, E2, HT, HE⟩ := hrel
      by_cases hlt : i < n
      · have dk : decide ((i : Int) < (n : Int)) = true := decide_eq_true (by omega)
        have hmem : z0.getD i 0 ∈ z0 := by
          rw [List.getD_eq_getElem?_getD, List.getElem?_eq_getElem (by rw [← HN.out]; exact hlt)]
          exact List.getElem_mem _
        have hpb := u16_bd (HW.out _ hmem)
        obtain ⟨a, ha⟩ : ∃ a : Nat, (a : Int) = z0.getD i 0 := ⟨(z0.getD i 0).toNat, by omega⟩
        obtain ⟨b9, o9, rfl, hb9, hall9⟩ := HR0.out (by rw [← HN.out]; omega)
        have kp9 : wr.cell? ⟨b9, o9 + i, none⟩ = some (.int .u16 (a : Int)) := by
          have h9 := hall9 i (by rw [← HN.out]; exact hlt)
          rw [← ha] at h9
          exact ((x1.trans (HT.out.bel.mono hu1)).cell (p := ⟨b9, o9 + i, none⟩) hb9).trans h9
        have ha2 : a ≤ 65535 := by omega
        have hwa : IntKind.i64.wrap (a : Int) = (a : Int) := IntWalk.i64_in _ (by omega)
        have hmax : max a 0 = a := Nat.max_eq_left (Nat.zero_le a)
        have hle1 : E1.length = i := by have := congrArg List.length HE.out.1; rwa [List.length_map, HPL.out] at this
        have hle2 : E2.length = i := by have := congrArg List.length HE.out.2; rwa [List.length_map, HPL.out] at this
        have hnew : ∀ E : List Te, E.map pr = P9 i → ∀ e ∈ E, e.id ≠ (i : Int) := fun E hE e he e2 => by
          obtain ⟨j, hj, h4⟩ := HPM.out i (pr e) (by rw [← hE]; exact List.mem_map.2 ⟨e, he, rfl⟩)
          have h5 : e.id = (j : Int) := congrArg Prod.snd h4
          omega
        have HPN : Hid (P9 (i + 1) = P9 i ++ [(a, (i : Int))]) := Lib.hid (by rw [HP0.out.2, ← ha]; rfl)
        have HA1 := warmG HT.out.one (i : Int) (by omega) a (by omega) (hnew E1 HE.out.1) (by omega) (by unfold maxLen; simp; omega)
        rw [hmax] at HA1
        have HA1 := Lib.hid HA1
        have HNEW := Lib.hid hnew
        clear hpb ha hb9 hall9 hmax hle1 hnew hmem
        go_upto_region 13 with (go_at_call 9; (with_reducible refine HA1.out.mono ?_); rintro e u4 ⟨rfl, b7, hb7, hw7, hk7⟩)
        have hT1 := HT.out.step hw7 hk7 (fun k hk => by
          rcases Bk_snoc hk with h4 | h4
          · exact .inl h4
          · exact .inr (by rw [h4]; exact hb7))
        have HT1 := Lib.hid hT1
        have HA2 := warmG HT1.out.two (i : Int) (by omega) a (by omega) (HNEW.out E2 HE.out.2) (by omega) (by unfold maxLen; simp; omega)
        rw [Nat.max_eq_left (Nat.zero_le a)] at HA2
        have HA2 := Lib.hid HA2
        clear hT1 hb7 hw7 hk7 hle2 HA1 kp9
        go_wp2_with (go_at_call 9; (with_reducible refine HA2.out.mono ?_); rintro e u5 ⟨rfl, b8, hb8, hw8, hk8⟩)
        have hT2 := (HT1.out.swap.step hw8 hk8 (fun k hk => by
          rcases Bk_snoc hk with h4 | h4
          · exact .inl h4
          · exact .inr (by rw [h4]; exact hb8))).swap
        have HT2 := Lib.hid hT2
        have HE2 : Hid ((E1 ++ [(⟨slotN a 0, b7, (i : Int), a⟩ : Te)]).map pr = P9 (i + 1) ∧ (E2 ++ [(⟨slotN a 0, b8, (i : Int), a⟩ : Te)]).map pr = P9 (i + 1)) := Lib.hid ⟨by rw [List.map_append, HE.out.1, HPN.out]; rfl, by rw [List.map_append, HE.out.2, HPN.out]; rfl⟩
        clear hT2 hb8 hw8 hk8
        go_roundw
        case rel => exact ⟨i + 1, hlt, by simp, _, _, HT2, HE2⟩
        case measure => simp [intOf]; omega
      · obtain rfl : i = n := by omega
        have dk : decide ((i : Int) < (i : Int)) = false := decide_eq_false (by omega)
        have HALL : Hid (∀ k, 65535 < k → (P9 i).filter (fun x => x.1 == k) = []) := Lib.hid (fun k hk => by
          rw [List.filter_eq_nil_iff]
          intro x hx
          obtain ⟨j, hj, h4⟩ := HPM.out i x hx
          have hmem : z0.getD j 0 ∈ z0 := by
            rw [List.getD_eq_getElem?_getD, List.getElem?_eq_getElem (by rw [← HN.out]; exact hj)]
            exact List.getElem_mem _
          have hpb := u16_bd (HW.out _ hmem)
          rw [h4]
          show ¬ ((z0.getD j 0).toNat == k) = true
          rw [beq_iff_eq]
          omega)
        obtain ⟨G, hG⟩ : ∃ G : Nat → List Int, G = fun k => ((P9 i).filter (fun x => x.1 == k)).map (·.2) := ⟨_, rfl⟩
        have HGA : Hid (∀ k, 65535 < k → G k = []) := Lib.hid (fun k hk => by rw [hG]; show ((P9 i).filter _).map _ = []; rw [HALL.out k hk]; rfl)
        have HG1 : Hid (∀ k, (E1.filter (fun e => e.a == k)).map (·.id) = G k) := Lib.hid (fun k => by rw [hG]; exact pr_ids HE.out.1 k)
        have HG2 : Hid (∀ k, (E2.filter (fun e => e.a == k)).map (·.id) = G k) := Lib.hid (fun k => by rw [hG]; exact pr_ids HE.out.2 k)
        have HGL : Hid (∀ O, Ord O G → O.length = i) := Lib.hid (fun O hO => by
          have := hO.len (L := P9 i) (fun k => by rw [hG])
          rwa [HPL.out] at this)
        have hl1 : E1.length = i := by have := congrArg List.length HE.out.1; rwa [List.length_map, HPL.out] at this
        have hl2 : E2.length = i := by have := congrArg List.length HE.out.2; rwa [List.length_map, HPL.out] at this
        have HL2 := Lib.hid hl2
        have HAD : Hid (Calls Try.prog 10 #[.pointer (some ⟨d1, 0, none⟩), .int .i64 131072] wr _) := Lib.hid (wadvG HT.out.one (by omega) 131072 (by omega) (by decide))
        clear hG HPM HP0 HALL hl1 hl2
        go_upto_region 16 with (go_at_call 10; refine HAD.out.mono ?_; rintro x w0' ⟨v1, O1, F1, rfl, ho1, hw1, hk1, hor1, _, hbk1, _⟩)
        have hT3 := HT.out.step hw1 hk1 (fun k hk => .inl (hbk1 k hk))
        have HT3 := Lib.hid hT3
        have hO1 : Ord O1 G := hor1.congr (fun k => by
          show (if k ≤ 131072 then _ else _) = _
          rw [HG1.out]
          split
          · rfl
          · rw [HGA.out k (by omega)])
        have HO1 := Lib.hid hO1
        have hLO := HGL.out O1 hO1
        have HOW1 := Lib.hid ho1
        have hB1 : ∀ k, Bk d1 M1 F1 k → k < w0'.heap.size := fun k hk => hT3.one.lt hk
        have hB2 : ∀ k, Bk d2 M2 E2 k → k < w0'.heap.size := fun k hk => hT3.two.lt hk
        have HB1 := Lib.hid hB1
        have HB2 := Lib.hid hB2
        have huw : u1.heap.size ≤ w0'.heap.size := hT3.bel.size
        clear hT3 hO1 ho1 hw1 hk1 hor1 hbk1 HAD hB1 hB2
        obtain ⟨B9, hB9⟩ : ∃ B9, B9 = w0'.heap.size := ⟨_, rfl⟩
        rw [← hB9] at huw HB1 HB2
        have HB9 := Lib.hid hB9
        obtain ⟨B8, hB8⟩ : ∃ B8, B8 = wr.heap.size := ⟨_, rfl⟩
        rw [← hB8] at HOW1
        clear hB9 hB8
        go_wp2
        go_loopw [13, 12] (fun t9 l9 wq => ∃ (T t n2 : Nat) (O : List (Nat × Int)) (E : List Te) (vv : Value), vv = l9 ∧ t9 = .int .i64 (t : Int) ∧ T ≤ t ∧ n2 ≤ t ∧ t ≤ 80000 ∧ B9 ≤ wq.heap.size ∧ Hid (Tw u1 d1 M1 d2 M2 131072 n2 F1 E i i wq) ∧ Hid (wq.ownsRow B9 3 1 vv O.length (O.map fun x => Value.int .i64 x.2)) ∧
            Hid (∃ w9 : World, w9.heap.size = B9 ∧ w9.ownsRow B8 3 1 v1 O1.length (O1.map fun x => Value.int .i64 x.2) ∧ wq.ownsRow B8 3 1 v1 O1.length (O1.map fun x => Value.int .i64 x.2) ∧ ∀ g, v1.ownBlock = some g → g < B9) ∧ Hid (Ord O (fun k => if k < T then G k else [])) ∧ Hid (∀ k, (E.filter (fun e => e.a == k)).map (·.id) = if k < T then [] else G k) ∧ Hid (O.length + E.length = i ∧ ∀ k, Bk d2 M2 E k → k < B9))
          (fun t9 _ _ => 80001 - (intOf t9).toNat)
        case atStart =>
          refine ⟨0, 0, 0, [], E2, _, rfl, rfl, Nat.le_refl _, Nat.le_refl _, Nat.zero_le _, by rw [HB9.out]; exact Nat.le_refl _, HT3, Lib.hid (World.ownsRow_nil _ _ _ _), Lib.hid ⟨w0', HB9.out.symm, HOW1.out, HOW1.out, fun g hg => ?_⟩, Lib.hid ⟨List.Pairwise.nil, fun k => rfl⟩, Lib.hid (fun k => by rw [HG2.out]; simp), Lib.hid ⟨by simp [HL2.out], HB2.out⟩⟩
          rw [HB9.out]
          rcases HOW1.out.2 with ⟨e, _⟩ | ⟨g9, cap, cur, e, _, hh, _⟩
          · rw [e] at hg; cases hg
          · rw [e] at hg
            injection hg with hg
            rw [← hg]; exact heap_lt hh
        case round =>
          clear HT3 HB2 HT
          obtain ⟨T, t, n2, O, E, vl, rfl, rfl, hTt, hnt, ht8, hBq, HT, HOL, HOA, HOR, HFL, HLB⟩ := hrel
          by_cases hlt2 : t ≤ 65536
          · have dk2 : decide ((t : Int) ≤ 65536) = true := decide_eq_true (by omega)
            have hEl : E.length ≤ 1000000 := by have := HLB.out.1; omega
            have HAD := Lib.hid (wadvG HT.out.two hEl t hnt (by omega))
            have HST : Hid (97 + 40 * a1 = (s9 : Int)) := Lib.hid HS9.out.symm
            clear hEl
            go_wp2_with (first
              | (go_at_call 10; refine HAD.out.mono ?_; rintro x w5 ⟨v5, O5, E5, rfl, ho5, hw5, hk5, hor5, hfl5, hbk5, hlen5⟩; have hT5 := (HT.out.swap.step hw5 hk5 (fun k hk => .inl (hbk5 k hk))).swap; have hL5 := own_ints HOL.out HT.out.two hk5; have hz5 := hk5.size; have ho5' : w5.ownsRow wr.heap.size 3 1 v5 (O5.map (·.2)).length ((O5.map (·.2)).map (Value.int .i64)) := (by rw [List.length_map, List.map_map]; exact ho5); have hlz : O.length + (O5.map (·.2)).length ≤ 1000001 := (by rw [List.length_map]; have := HLB.out.1; omega); have hzz : B9 ≤ w5.heap.size := Nat.le_trans hBq hz5; have HT5 := Lib.hid hT5; have HK5 := Lib.hid hk5; have HOR5 := Lib.hid hor5; have HFL5 := Lib.hid hfl5; have HBK5 := Lib.hid hbk5; have HLN5 := Lib.hid hlen5; clear hT5 hk5 hor5 hfl5 hbk5 hlen5 ho5 hw5)
              | (at_builtin; refine append_intsW rfl _ _ rfl B9 vl O.length (O.map fun x => Value.int .i64 x.2) rfl hL5 wr.heap.size v5 (O5.map (·.2)) rfl ho5' hlz hzz ?_; intro v6 w6 hown6 hgrow6; have HO6 := Lib.hid hown6; have HGR6 := Lib.hid hgrow6; clear hown6 hgrow6))
            have hb6 : Below B9 w5 w6 := (Below.refl B9 w5).grown HGR6.out hzz (fun k hk => own_block_ge hL5 k hk)
            have HT6 : Hid (Tw u1 d1 M1 d2 M2 131072 t F1 E5 i i w6) := Lib.hid (HT5.out.belowB hb6 HB1.out (fun k hk => HLB.out.2 k (HBK5.out k hk)) huw)
            have HZ6 : Hid (B9 ≤ w6.heap.size) := Lib.hid (Nat.le_trans hzz hb6.size)
            have HL6 : Hid (w6.ownsRow B9 3 1 v6 (O ++ O5).length ((O ++ O5).map fun x => Value.int .i64 x.2)) := Lib.hid (by
              have := HO6.out
              rw [List.length_map, List.map_map] at this
              rw [List.length_append, List.map_append]
              exact this)
            have HA6 : Hid (∃ w9 : World, w9.heap.size = B9 ∧ w9.ownsRow B8 3 1 v1 O1.length (O1.map fun x => Value.int .i64 x.2) ∧ w6.ownsRow B8 3 1 v1 O1.length (O1.map fun x => Value.int .i64 x.2) ∧ ∀ g, v1.ownBlock = some g → g < B9) := Lib.hid (by
              obtain ⟨w9, q1, q2, q3, q4⟩ := HOA.out
              have q5 := own_ints q3 HT.out.two HK5.out
              refine ⟨w9, q1, q2, ⟨q5.1, ?_⟩, q4⟩
              rcases q5.2 with q6 | ⟨g, cap, cur, q6, q7, q8, q9⟩
              · exact .inl q6
              · exact .inr ⟨g, cap, cur, q6, q7, (hb6.block g (q4 g (by rw [q6]; rfl))).trans q8, q9⟩)
            have HR6 : Hid (Ord (O ++ O5) (fun k => if k < t + 1 then G k else [])) := Lib.hid (HOR.out.more (HOR5.out.congr (fun k => by
              show (if k ≤ t then _ else _) = _
              rw [HFL.out k])) (by omega))
            have HF6 : Hid (∀ k, (E5.filter (fun e => e.a == k)).map (·.id) = if k < t + 1 then [] else G k) := Lib.hid (fun k => by
              rw [HFL5.out k, HFL.out k]
              by_cases q1 : k ≤ t
              · rw [if_pos q1, if_pos (by omega)]
              · rw [if_neg q1, if_neg (by omega), if_neg (by omega)])
            have HB6 : Hid ((O ++ O5).length + E5.length = i ∧ ∀ k, Bk d2 M2 E5 k → k < B9) := Lib.hid ⟨by rw [List.length_append]; have := HLB.out.1; have := HLN5.out; omega, fun k hk => HLB.out.2 k (HBK5.out k hk)⟩
            clear hb6 hL5 ho5'
            go_roundw
            case rel => exact ⟨t + 1, t + s9, t, O ++ O5, E5, v6, rfl, congrArg (Value.int .i64) (by have := HST.out; omega), by omega, by omega, by omega, HZ6.out, HT6, HL6, HA6, HR6, HF6, HB6⟩
            case measure => have := HST.out; simp [intOf]; omega
          · have dk2 : decide ((t : Int) ≤ 65536) = false := decide_eq_false (by omega)
            have hEl : E.length ≤ 1000000 := by have := HLB.out.1; omega
            have HAD : Hid (Calls Try.prog 10 #[.pointer (some ⟨d2, 0, none⟩), .int .i64 131072] wr _) := Lib.hid (wadvG HT.out.two hEl 131072 (by omega) (by decide))
            clear hEl
            go_upto_region 22 with (first
              | (go_at_call 10; refine HAD.out.mono ?_; rintro x w5 ⟨v5, O5, E5, rfl, ho5, hw5, hk5, hor5, hfl5, hbk5, hlen5⟩; have hT5 := (HT.out.swap.step hw5 hk5 (fun k hk => .inl (hbk5 k hk))).swap; have hL5 := own_ints HOL.out HT.out.two hk5; have hz5 := hk5.size; have ho5' : w5.ownsRow wr.heap.size 3 1 v5 (O5.map (·.2)).length ((O5.map (·.2)).map (Value.int .i64)) := (by rw [List.length_map, List.map_map]; exact ho5); have hlz : O.length + (O5.map (·.2)).length ≤ 1000001 := (by rw [List.length_map]; have := HLB.out.1; omega); have hzz : B9 ≤ w5.heap.size := Nat.le_trans hBq hz5; have HT5 := Lib.hid hT5; have HK5 := Lib.hid hk5; have HOR5 := Lib.hid hor5; have HFL5 := Lib.hid hfl5; have HBK5 := Lib.hid hbk5; have HLN5 := Lib.hid hlen5; clear hT5 hk5 hor5 hfl5 hbk5 hlen5 ho5 hw5)
              | (at_builtin; refine append_intsW rfl _ _ rfl B9 vl O.length (O.map fun x => Value.int .i64 x.2) rfl hL5 wr.heap.size v5 (O5.map (·.2)) rfl ho5' hlz hzz ?_; intro v6 w6 hown6 hgrow6; have HO6 := Lib.hid hown6; have HGR6 := Lib.hid hgrow6; clear hown6 hgrow6))
            have hb6 : Below B9 w5 w6 := (Below.refl B9 w5).grown HGR6.out hzz (fun k hk => own_block_ge hL5 k hk)
            have HT6 : Hid (Tw u1 d1 M1 d2 M2 131072 131072 F1 E5 i i w6) := Lib.hid (HT5.out.belowB hb6 HB1.out (fun k hk => HLB.out.2 k (HBK5.out k hk)) huw)
            have HZ6 : Hid (B9 ≤ w6.heap.size) := Lib.hid (Nat.le_trans hzz hb6.size)
            have HL6 : Hid (w6.ownsRow B9 3 1 v6 (O ++ O5).length ((O ++ O5).map fun x => Value.int .i64 x.2)) := Lib.hid (by
              have := HO6.out
              rw [List.length_map, List.map_map] at this
              rw [List.length_append, List.map_append]
              exact this)
            have HA6 : Hid (∃ w9 : World, w9.heap.size = B9 ∧ w9.ownsRow B8 3 1 v1 O1.length (O1.map fun x => Value.int .i64 x.2) ∧ w6.ownsRow B8 3 1 v1 O1.length (O1.map fun x => Value.int .i64 x.2) ∧ ∀ g, v1.ownBlock = some g → g < B9) := Lib.hid (by
              obtain ⟨w9, q1, q2, q3, q4⟩ := HOA.out
              have q5 := own_ints q3 HT.out.two HK5.out
              refine ⟨w9, q1, q2, ⟨q5.1, ?_⟩, q4⟩
              rcases q5.2 with q6 | ⟨g, cap, cur, q6, q7, q8, q9⟩
              · exact .inl q6
              · exact .inr ⟨g, cap, cur, q6, q7, (hb6.block g (q4 g (by rw [q6]; rfl))).trans q8, q9⟩)
            have HR6 : Hid (Ord (O ++ O5) (fun k => if k < 131072 + 1 then G k else [])) := Lib.hid (HOR.out.more (HOR5.out.congr (fun k => by
              show (if k ≤ 131072 then _ else _) = _
              rw [HFL.out k])) (by omega))
            have HF6 : Hid (∀ k, (E5.filter (fun e => e.a == k)).map (·.id) = if k < 131072 + 1 then [] else G k) := Lib.hid (fun k => by
              rw [HFL5.out k, HFL.out k]
              by_cases q1 : k ≤ 131072
              · rw [if_pos q1, if_pos (by omega)]
              · rw [if_neg q1, if_neg (by omega), if_neg (by omega)])
            have HB6 : Hid ((O ++ O5).length + E5.length = i ∧ ∀ k, Bk d2 M2 E5 k → k < B9) := Lib.hid ⟨by rw [List.length_append]; have := HLB.out.1; have := HLN5.out; omega, fun k hk => HLB.out.2 k (HBK5.out k hk)⟩
            clear hb6 hL5 ho5'
            obtain ⟨wz, hwz⟩ : ∃ wz, wz = w6 := ⟨_, rfl⟩
            rw [← hwz] at HT6 HL6 HA6 ⊢
            clear hwz
            have hEQ : O1 = O ++ O5 := ord_unique (F := G) HO1.out (HR6.out.congr (fun k => by
              show (if k < 131072 + 1 then G k else []) = G k
              split
              · rfl
              · rw [HGA.out k (by omega)]))
            have HEQ := Lib.hid hEQ
            have hle : ((O1.length : Nat) : Int) = (i : Int) := by rw [hLO]
            have hrows : wz.ownsRow B9 3 1 v6 (O1.map (·.2)).length ((O1.map (·.2)).map (Value.int .i64)) := by
              rw [List.length_map, List.map_map, hEQ]
              exact HL6.out
            have hrow1 : wz.ownsRow B8 3 1 v1 (O1.map (·.2)).length ((O1.map (·.2)).map (Value.int .i64)) := by
              obtain ⟨_, _, _, h9, _⟩ := HA6.out
              rw [List.length_map, List.map_map]
              exact h9
            obtain ⟨A1, c1, ev1, _, _⟩ := own_rds (cl := clI_) (sz := 1) (l := O1.map (·.2)) hrow1 rfl (flatI _) (fun _ _ => rfl)
            have HWE := Lib.hid (weq2 hrow1 hrows (by rw [List.length_map]; omega))
            have hbz := HT6.out.bel
            rw [List.length_map, hLO] at ev1
            subst ev1
            clear hrows hrow1 hEQ
            go_wp2_with (first
              | (go_at_call 11; refine HWE.out.mono ?_; rintro x w8 ⟨rfl, x8⟩)
              | (go_at_call 7; refine (awake17 _).mono ?_; rintro x w9 ⟨rfl, x9⟩))
            go_ret
            exact ⟨rfl, x1.trans ((hbz.trans ((x8.trans (x9.mono x8.size)).mono hbz.size)).mono hu1)⟩

/-! ### The row's step -/
set_option maxRecDepth 100000 in
theorem lifted (os : Os) (started : os.Started) (H : Type) (enc : TypeId × Value → H) :
    ReturnsInHanded {} Try.checked os 3 .any (Rows.wheelStepsSpec.pre6 enc Try.prog Try.f3 Rows.wheelStepsRow.domain false) (Rows.wheelStepsSpec.post enc Try.prog Try.f3 false true false false) := by
  refine returnsInHanded_of_change (C := Try.checked) own started (by kernel_rfl) Try.func3
    (ChangeSpec.witness6 (enc := enc) (C := Try.checked) false ⟨#[], #[.slice none 0 0, .int .u8 0], []⟩ 8 (by kernel_rfl) (by kernel_rfl) (by kernel_rfl) (by kernel_rfl)) ?_
  intro W base args ds gs before hval0 hW hcnd _
  have hval : ∀ (j : Nat) t v, Try.f3.params[j]? = some t → args[j]? = some v → Value.okWide Try.prog W .any base t v := hval0
  have hW' := hW
  obtain ⟨p, q, hA0, hV, rfl, hfz, hnd⟩ := hW
  have hA : DataW.TrodAll enc Try.prog W 0 (fun _ => true) true Try.f3.params.toList args.toList ds p := hA0
  rw [Try.params3] at hA hval
  obtain ⟨v0, vs0, d0, ds0, p0, q0, hargs, rfl, rfl, t0, r0⟩ := trodAll_cons hA
  obtain ⟨v1, vs1, d1, ds1, p1, q1, rfl, rfl, rfl, t1, r1⟩ := trodAll_cons r0
  obtain ⟨rfl, rfl, rfl⟩ := trodAll_nil r1
  obtain rfl : args = #[v0, v1] := by cases args; simp_all
  obtain ⟨rfl, rfl⟩ := trodVars_none hV
  have k0 := t0
  have lt0 := Trod_lt t0
  have k1 := t1
  have lt1 := Trod_lt t1
  obtain ⟨A0, c0, z0, rfl, h0, l0, m0, w0⟩ := get_u16s Try.underlying22 Try.underlying28 (by kernel_rfl) (hval 0 22 v0 rfl rfl) t0
  obtain ⟨a1, rfl, w1⟩ := get_int Try.underlying5 (hval 1 5 v1 rfl rfl) t1
  clear hA0 hval0
  refine (walk A0 c0 z0 a1 W h0 l0 m0 w0 w1).mono fun e W' ⟨he, bel⟩ => ?_
  subst he
  exact ⟨_, rfl, _, _, _, [], _, [], hW', trodAll_mk1 (shut_bool Try.underlying4 _), (trodAll_cons_mk (Below.trod laidOut (by kernel_rfl) (of_decide_eq_true (by kernel_rfl)) k0 bel lt0) (trodAll_cons_mk (Below.trod laidOut (by kernel_rfl) (of_decide_eq_true (by kernel_rfl)) k1 bel lt1) trodAll_mk0)), rfl, bel.frame _, fun h => by cases h⟩

theorem over : Rows.wheelStepsRow.holds Try.pinned (OpenSpec.ofChange Rows.wheelStepsSpec) :=
  OpenClaim.holds_of_wide 3 Try.f3 rfl rfl rfl rfl rfl rfl rfl ⟨rfl, rfl, rfl, rfl, rfl⟩ rfl rfl rfl rfl rfl (by kernel_rfl) Try.func3 (by kernel_rfl)
    (of_decide_eq_true (by kernel_rfl)) (by unfold Func.isWrapper; first | (rw [if_pos (by decide +kernel)]; kernel_rfl) | (rw [if_neg (by decide +kernel)]; exact ⟨rfl, rfl⟩))
    (fun os started H enc _ => lifted os started H enc)

theorem proved : Rows.WheelStepsSaid := over
end Go.Proofs.Ytjgcpaepaocigaa.wheelSteps
