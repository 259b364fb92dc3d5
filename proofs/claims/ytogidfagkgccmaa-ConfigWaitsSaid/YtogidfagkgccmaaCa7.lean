/-
  Contracts and lemmas on which the proofs of this seat stand (several texts in one). Conditions are each theorem's own.
-/
import Derived.Test.YtogidfagkgccmaaCa6

/-
  The document's plain answers of layer 20: lists. Conditions are each theorem's own.
-/
namespace Go.Proofs.Ytogidfagkgccmaa
open Go.RowKit Go.Shelf
set_option maxRecDepth 100000 in
set_option maxHeartbeats 8000000 in
theorem r20lists (q : Cfg) (B : Nat) (w : World) (hq : Fits q) (hm : MemC w B q) (hB : B ≤ w.heap.size) :
    Calls Try.prog 87 #[.agg (cfa q)] w fun e w' => e = .returned (.bool (lisB q)) ∧ Below w.heap.size w w' := by
  have hW0 := BoxC.mk' w q
  generalize hWW : w.alloc (.cells (cfa q) 74) = W at hW0
  have hz := hW0.lt
  have a16 := hq.aftr
  have k1 : W.cell? ⟨w.heap.size, 16, none⟩ = some (.slice q.A1 q.sws.length q.c1) := hW0.at_.at_ a16 (j := 0) rfl
  have k2 : W.cell? ⟨w.heap.size, 17, none⟩ = some (.slice q.A2 q.pool.length q.c2) := hW0.at_.at_ a16 (j := 1) rfl
  have k3 : W.cell? ⟨w.heap.size, 35, none⟩ = some (.slice q.A3 q.stat.length q.c3) := hW0.at_.at_ a16 (j := 19) rfl
  have kb : W.cell? ⟨w.heap.size, 21, none⟩ = some (.int .i64 q.binds) := hW0.at_.at_ a16 (j := 5) rfl
  have hcl : (cfl q).length = 36 := cfl_len a16
  have hra : (row q.aftr).length = 16 := by rw [row_length]; exact a16
  have l1 := hq.n1
  have l2 := hq.n2
  have l3 := hq.n3
  have HL : Hid (lisB q = (host6 q.aftr && inn q.sws.length 1 64 && inn q.pool.length 1 16 && decide (q.stat.length ≤ 64) && decide ((q.stat.length : Int) ≤ q.binds) && q.sws.all host6 && q.pool.all hostB && q.stat.all (stB q))) := Lib.hid rfl
  rcases h0 : host6 q.aftr with _ | _
  · have H0 := Lib.hid h0
    clear h0
    go_enter Try.func87, Try.ntmps87
    go_upto_region 1 with fail
    try rw [hWW]
    clear hWW
    go_wp2_with (first
      | ((with_reducible show wpList _ _ _ (Oper.mk _ (Op.load 70 _) _ _ _ _ :: _) _ _); refine wpList_val rfl (ld_six rfl rfl (hW0.at_.six a16) hra) ?_)
      | (go_at_call 138; refine (r4host q.aftr a16 W).mono ?_; rintro e w1 ⟨rfl, b1⟩; rw [H0.out]; have hW1 := hW0.more b1; have k1' := hW1.at_.at_ a16 (j := 0) rfl; have k2' := hW1.at_.at_ a16 (j := 1) rfl; have k3' := hW1.at_.at_ a16 (j := 19) rfl; have kb' := hW1.at_.at_ a16 (j := 5) rfl))
    all_goals try (go_ret; exact ⟨ret_bool (by rw [HL.out, H0.out]; first | rfl | simp), hW1.bel⟩)
    all_goals (have hbad : ∃ b, some undef = some (Value.bool b) := ⟨_, by assumption⟩)
    all_goals (obtain ⟨b, hb⟩ := hbad)
    all_goals (simp [undef] at hb)
  · have H0 := Lib.hid h0
    clear h0
    rcases h1 : inn q.sws.length 1 64 with _ | _
    · have H1 := Lib.hid h1
      clear h1
      go_enter Try.func87, Try.ntmps87
      go_upto_region 1 with fail
      try rw [hWW]
      clear hWW
      go_wp2_with (first
        | ((with_reducible show wpList _ _ _ (Oper.mk _ (Op.load 70 _) _ _ _ _ :: _) _ _); refine wpList_val rfl (ld_six rfl rfl (hW0.at_.six a16) hra) ?_)
        | (go_at_call 138; refine (r4host q.aftr a16 W).mono ?_; rintro e w1 ⟨rfl, b1⟩; rw [H0.out]; have hW1 := hW0.more b1; have k1' := hW1.at_.at_ a16 (j := 0) rfl; have k2' := hW1.at_.at_ a16 (j := 1) rfl; have k3' := hW1.at_.at_ a16 (j := 19) rfl; have kb' := hW1.at_.at_ a16 (j := 5) rfl)
        | (go_at_call 137; refine (r20in _ _ _ _).mono ?_; rintro e w' ⟨rfl, rfl⟩; first | rw [H1.out]))
      all_goals try (go_ret; exact ⟨ret_bool (by rw [HL.out, H0.out, H1.out]; first | rfl | simp), hW1.bel⟩)
      all_goals (have hbad : ∃ b, some undef = some (Value.bool b) := ⟨_, by assumption⟩)
      all_goals (obtain ⟨b, hb⟩ := hbad)
      all_goals (simp [undef] at hb)
    · have H1 := Lib.hid h1
      clear h1
      rcases h2 : inn q.pool.length 1 16 with _ | _
      · have H2 := Lib.hid h2
        clear h2
        go_enter Try.func87, Try.ntmps87
        go_upto_region 1 with fail
        try rw [hWW]
        clear hWW
        go_wp2_with (first
          | ((with_reducible show wpList _ _ _ (Oper.mk _ (Op.load 70 _) _ _ _ _ :: _) _ _); refine wpList_val rfl (ld_six rfl rfl (hW0.at_.six a16) hra) ?_)
          | (go_at_call 138; refine (r4host q.aftr a16 W).mono ?_; rintro e w1 ⟨rfl, b1⟩; rw [H0.out]; have hW1 := hW0.more b1; have k1' := hW1.at_.at_ a16 (j := 0) rfl; have k2' := hW1.at_.at_ a16 (j := 1) rfl; have k3' := hW1.at_.at_ a16 (j := 19) rfl; have kb' := hW1.at_.at_ a16 (j := 5) rfl)
          | (go_at_call 137; refine (r20in _ _ _ _).mono ?_; rintro e w' ⟨rfl, rfl⟩; first | rw [H2.out] | rw [H1.out]))
        all_goals try (go_ret; exact ⟨ret_bool (by rw [HL.out, H0.out, H1.out, H2.out]; first | rfl | simp), hW1.bel⟩)
        all_goals (have hbad : ∃ b, some undef = some (Value.bool b) := ⟨_, by assumption⟩)
        all_goals (obtain ⟨b, hb⟩ := hbad)
        all_goals (simp [undef] at hb)
      · have H2 := Lib.hid h2
        clear h2
        by_cases h3 : q.stat.length ≤ 64
        rotate_left
        · have H3 : Hid (decide (q.stat.length ≤ 64) = false) := Lib.hid (decide_eq_false h3)
          have d3 : (64 : Int) < q.stat.length := by omega
          go_enter Try.func87, Try.ntmps87
          go_upto_region 1 with fail
          try rw [hWW]
          clear hWW
          go_wp2_with (first
            | ((with_reducible show wpList _ _ _ (Oper.mk _ (Op.load 70 _) _ _ _ _ :: _) _ _); refine wpList_val rfl (ld_six rfl rfl (hW0.at_.six a16) hra) ?_)
            | (go_at_call 138; refine (r4host q.aftr a16 W).mono ?_; rintro e w1 ⟨rfl, b1⟩; rw [H0.out]; have hW1 := hW0.more b1; have k1' := hW1.at_.at_ a16 (j := 0) rfl; have k2' := hW1.at_.at_ a16 (j := 1) rfl; have k3' := hW1.at_.at_ a16 (j := 19) rfl; have kb' := hW1.at_.at_ a16 (j := 5) rfl)
            | (go_at_call 137; refine (r20in _ _ _ _).mono ?_; rintro e w' ⟨rfl, rfl⟩; first | rw [H2.out] | rw [H1.out]))
          all_goals try (go_ret; exact ⟨ret_bool (by rw [HL.out, H0.out, H1.out, H2.out, H3.out]; first | rfl | simp), hW1.bel⟩)
          all_goals (have hbad : ∃ b, some undef = some (Value.bool b) := ⟨_, by assumption⟩)
          all_goals (obtain ⟨b, hb⟩ := hbad)
          all_goals (simp [undef] at hb)
        have H3 : Hid (decide (q.stat.length ≤ 64) = true) := Lib.hid (decide_eq_true h3)
        have d3 : ¬ (64 : Int) < q.stat.length := by omega
        by_cases h4 : (q.stat.length : Int) ≤ q.binds
        rotate_left
        · have H4 : Hid (decide ((q.stat.length : Int) ≤ q.binds) = false) := Lib.hid (decide_eq_false h4)
          have d4 : q.binds < (q.stat.length : Int) := by omega
          go_enter Try.func87, Try.ntmps87
          go_upto_region 1 with fail
          try rw [hWW]
          clear hWW
          go_wp2_with (first
            | ((with_reducible show wpList _ _ _ (Oper.mk _ (Op.load 70 _) _ _ _ _ :: _) _ _); refine wpList_val rfl (ld_six rfl rfl (hW0.at_.six a16) hra) ?_)
            | (go_at_call 138; refine (r4host q.aftr a16 W).mono ?_; rintro e w1 ⟨rfl, b1⟩; rw [H0.out]; have hW1 := hW0.more b1; have k1' := hW1.at_.at_ a16 (j := 0) rfl; have k2' := hW1.at_.at_ a16 (j := 1) rfl; have k3' := hW1.at_.at_ a16 (j := 19) rfl; have kb' := hW1.at_.at_ a16 (j := 5) rfl)
            | (go_at_call 137; refine (r20in _ _ _ _).mono ?_; rintro e w' ⟨rfl, rfl⟩; first | rw [H2.out] | rw [H1.out]))
          all_goals try (go_ret; exact ⟨ret_bool (by rw [HL.out, H0.out, H1.out, H2.out, H3.out, H4.out]; first | rfl | simp), hW1.bel⟩)
          all_goals (have hbad : ∃ b, some undef = some (Value.bool b) := ⟨_, by assumption⟩)
          all_goals (obtain ⟨b, hb⟩ := hbad)
          all_goals (simp [undef] at hb)
        have H4 : Hid (decide ((q.stat.length : Int) ≤ q.binds) = true) := Lib.hid (decide_eq_true h4)
        have d4 : ¬ q.binds < (q.stat.length : Int) := by omega
        obtain ⟨n1, hn1⟩ : ∃ n, n = q.sws.length := ⟨_, rfl⟩
        obtain ⟨n2, hn2⟩ : ∃ n, n = q.pool.length := ⟨_, rfl⟩
        obtain ⟨n3, hn3⟩ : ∃ n, n = q.stat.length := ⟨_, rfl⟩
        have N1 := Lib.hid hn1
        have N2 := Lib.hid hn2
        have N3 := Lib.hid hn3
        have HS0 : Hid (lisB q = (q.sws.all host6 && q.pool.all hostB && q.stat.all (stB q))) := Lib.hid (by rw [HL.out, H0.out, H1.out, H2.out, H3.out, H4.out]; simp)
        have KK : Hid (∀ V, BoxC w V q → V.cell? ⟨w.heap.size, 16, none⟩ = some (.slice q.A1 n1 q.c1) ∧ V.cell? ⟨w.heap.size, 17, none⟩ = some (.slice q.A2 n2 q.c2) ∧ V.cell? ⟨w.heap.size, 35, none⟩ = some (.slice q.A3 n3 q.c3)) := Lib.hid (fun V hV => by
          rw [hn1, hn2, hn3]
          exact ⟨hV.at_.at_ a16 (j := 0) rfl, hV.at_.at_ a16 (j := 1) rfl, hV.at_.at_ a16 (j := 19) rfl⟩)
        rw [← hn1] at l1
        rw [← hn2] at l2
        rw [← hn3] at l3
        go_enter Try.func87, Try.ntmps87
        go_upto_region 1 with fail
        try rw [hWW]
        clear hWW
        go_upto_region 3 with (first
          | ((with_reducible show wpList _ _ _ (Oper.mk _ (Op.load 70 _) _ _ _ _ :: _) _ _); refine wpList_val rfl (ld_six rfl rfl (hW0.at_.six a16) hra) ?_)
          | (go_at_call 138; refine (r4host q.aftr a16 W).mono ?_; rintro e w1 ⟨rfl, b1⟩; rw [H0.out]; have hW1 := hW0.more b1; have k1' := hW1.at_.at_ a16 (j := 0) rfl; have k2' := hW1.at_.at_ a16 (j := 1) rfl; have k3' := hW1.at_.at_ a16 (j := 19) rfl; have kb' := hW1.at_.at_ a16 (j := 5) rfl)
          | (go_at_call 137; refine (r20in _ _ _ _).mono ?_; rintro e w' ⟨rfl, rfl⟩; first | rw [H2.out] | rw [H1.out]))
        clear hn1 hn2 hn3 k1 k2 k3 k1' k2' k3' d3 d4 h3 h4
        go_wp2
        go_loopw [3] (fun s3 wr => ∃ kk : Nat, kk ≤ n1 ∧ s3 = .int .i64 kk ∧ Hid (q.sws.all host6 = (q.sws.drop kk).all host6) ∧ Hid (BoxC w wr q)) (fun i _ => n1 - (intOf i).toNat)
        case atStart => exact ⟨0, Nat.zero_le _, rfl, Lib.hid rfl, Lib.hid hW1⟩
        case round =>
          obtain ⟨kk, hkk, rfl, HE, HB⟩ := hrel
          have hBx := HB.out
          obtain ⟨c1, c2, c3⟩ := KK.out wr hBx
          by_cases hlt : kk < n1
          · obtain ⟨x, hx⟩ : ∃ x, q.sws[kk]? = some x := ⟨_, List.getElem?_eq_getElem (by rw [← N1.out]; exact hlt)⟩
            have hxv := hq.sws x (List.mem_of_getElem? hx)
            obtain ⟨b1', o1, ea, hb1, hrow⟩ := rds_row (hBx.mem hm hB).sws hx
            rw [ea] at c1
            have hxl : (row x).length = 16 := by rw [row_length]; exact hxv
            have HXD : Hid (q.sws.drop kk = x :: q.sws.drop (kk + 1)) := Lib.hid (by
              have hk : kk < q.sws.length := by rw [← N1.out]; exact hlt
              rw [List.drop_eq_getElem_cons hk]
              rw [List.getElem?_eq_getElem hk] at hx
              rw [Option.some.inj hx])
            clear hx ea
            cases hh : host6 x with
            | true =>
              have HH := Lib.hid hh
              clear hh
              go_wp2_with (first
                | ((with_reducible show wpList _ _ _ (Oper.mk _ (Op.load 70 _) _ _ _ _ :: _) _ _); refine wpList_val rfl (ld_six rfl rfl hrow hxl) ?_)
                | (go_at_call 138; refine (r4host x hxv _).mono ?_; rintro e w2 ⟨rfl, b2⟩; rw [HH.out]; have HB2 := Lib.hid (hBx.more b2)))
              go_roundw
              case rel => exact ⟨kk + 1, by omega, by simp, Lib.hid (by rw [HE.out, HXD.out, List.all_cons, HH.out, Bool.true_and]), HB2⟩
              case measure => simp [intOf]; omega
            | false =>
              have HH := Lib.hid hh
              clear hh
              go_wp2_with (first
                | ((with_reducible show wpList _ _ _ (Oper.mk _ (Op.load 70 _) _ _ _ _ :: _) _ _); refine wpList_val rfl (ld_six rfl rfl hrow hxl) ?_)
                | (go_at_call 138; refine (r4host x hxv _).mono ?_; rintro e w2 ⟨rfl, b2⟩; rw [HH.out]; have HB2 := Lib.hid (hBx.more b2)))
              go_ret
              exact ⟨ret_bool (by rw [HS0.out, HE.out, HXD.out, List.all_cons, HH.out]; rfl), HB2.out.bel⟩
          · obtain rfl : n1 = kk := by omega
            have HA1 : Hid (q.sws.all host6 = true) := Lib.hid (by rw [HE.out, List.drop_eq_nil_of_le (by rw [← N1.out]; exact Nat.le_refl _)]; rfl)
            clear HE
            go_wp2
            go_loop [4] (fun s4 => ∃ kk : Nat, kk ≤ n2 ∧ s4 = .int .i64 kk ∧ Hid (q.pool.all hostB = (q.pool.drop kk).all hostB)) (fun i => n2 - (intOf i).toNat)
            case atStart => exact ⟨0, Nat.zero_le _, rfl, Lib.hid rfl⟩
            case round =>
              obtain ⟨kk, hkk2, rfl, HE⟩ := hrel
              by_cases hlt2 : kk < n2
              · obtain ⟨x, hx⟩ : ∃ x, q.pool[kk]? = some x := ⟨_, List.getElem?_eq_getElem (by rw [← N2.out]; exact hlt2)⟩
                obtain ⟨b1', o1, ea, hb1, hrow⟩ := int_row (hBx.mem hm hB).pool hx
                rw [ea] at c2
                have HXD : Hid (q.pool.drop kk = x :: q.pool.drop (kk + 1)) := Lib.hid (by
                  have hk : kk < q.pool.length := by rw [← N2.out]; exact hlt2
                  rw [List.drop_eq_getElem_cons hk]
                  rw [List.getElem?_eq_getElem hk] at hx
                  rw [Option.some.inj hx])
                clear hx ea
                cases hh : hostB x with
                | true =>
                  have HH := Lib.hid hh
                  clear hh
                  go_wp2_with (first
                    | (go_at_call 139; refine (r3host _ _).mono ?_; rintro e w2 ⟨rfl, rfl⟩; rw [HH.out]))
                  go_round
                  case rel => exact ⟨kk + 1, by omega, by simp, Lib.hid (by rw [HE.out, HXD.out, List.all_cons, HH.out, Bool.true_and])⟩
                  case measure => simp [intOf]; omega
                | false =>
                  have HH := Lib.hid hh
                  clear hh
                  go_wp2_with (first
                    | (go_at_call 139; refine (r3host _ _).mono ?_; rintro e w2 ⟨rfl, rfl⟩; rw [HH.out]))
                  go_ret
                  exact ⟨ret_bool (by rw [HS0.out, HA1.out, HE.out, HXD.out, List.all_cons, HH.out]; rfl), hBx.bel⟩
              · obtain rfl : n2 = kk := by omega
                have HA2 : Hid (q.pool.all hostB = true) := Lib.hid (by rw [HE.out, List.drop_eq_nil_of_le (by rw [← N2.out]; exact Nat.le_refl _)]; rfl)
                clear HE
                go_wp2
                go_loopw [5] (fun s5 wr => ∃ kk : Nat, kk ≤ n3 ∧ s5 = .int .i64 kk ∧ Hid (q.stat.all (stB q) = (q.stat.drop kk).all (stB q)) ∧ Hid (BoxC w wr q)) (fun i _ => n3 - (intOf i).toNat)
                case atStart => exact ⟨0, Nat.zero_le _, rfl, Lib.hid rfl, HB⟩
                case round =>
                  obtain ⟨kk, hkk3, rfl, HE, HBr⟩ := hrel
                  have hBy := HBr.out
                  clear c1 c2 c3
                  obtain ⟨c1, c2, c3⟩ := KK.out _ hBy
                  by_cases hlt3 : kk < n3
                  · obtain ⟨x, hx⟩ : ∃ x, q.stat[kk]? = some x := ⟨_, List.getElem?_eq_getElem (by rw [← N3.out]; exact hlt3)⟩
                    obtain ⟨b1', o1, ea, hb1, hrow⟩ := rds_row (hBy.mem hm hB).stat hx
                    rw [ea] at c3
                    have hxl : (clS x).length = 7 := rfl
                    have HXD : Hid (q.stat.drop kk = x :: q.stat.drop (kk + 1)) := Lib.hid (by
                      have hk : kk < q.stat.length := by rw [← N3.out]; exact hlt3
                      rw [List.drop_eq_getElem_cons hk]
                      rw [List.getElem?_eq_getElem hk] at hx
                      rw [Option.some.inj hx])
                    clear hx ea
                    obtain ⟨V, hV⟩ : ∃ V : World, V = wr := ⟨_, rfl⟩
                    have hb1V : b1' < V.heap.size := by rw [hV]; exact Nat.lt_of_lt_of_le hb1 (Nat.le_trans hB hBy.bel.size)
                    rw [← hV] at hBy hrow c3 ⊢
                    clear hV HBr
                    have c3S := fun U (hU : Below V.heap.size V U) => (hU.cell (p := ⟨w.heap.size, 35, none⟩) hBy.lt).trans c3
                    have cS := fun U (hU : Below V.heap.size V U) => hBy.at_.below hU hBy.lt
                    have rS := fun U (hU : Below V.heap.size V U) => range_below hrow hb1V hU
                    obtain ⟨E, hE⟩ : ∃ E, E = stB q x := ⟨_, rfl⟩
                    have HEE := Lib.hid hE
                    clear hE
                    go_upto_region 16 with fail
                    refine wp_region_held_drew (S := fun w' => Below V.heap.size V w') (by kernel_rfl) (Below.refl _ V).drew (fun hS => ?_)
                    refine held_pure (i := 0) (oi := ⟨some 73, _, _, _, _, _⟩) rfl (by kernel_rfl) (by kernel_rfl) (by kernel_rfl) (fun _ _ _ h => h) (by rfl) (fun w hSw => ld_cfg rfl rfl (cS _ hSw) hcl) hS (fun hS => ?_)
                    try go_frame
                    refine held_pure (i := 1) (oi := ⟨some 74, _, _, _, _, _⟩) rfl (by kernel_rfl) (by kernel_rfl) (by kernel_rfl) (fun _ _ _ h => h) (by rfl) (v := ?_) (fun w hSw => ?_) hS (fun hS => ?_)
                    rotate_left
                    · go_simp; try with_reducible rfl
                    try go_frame
                    refine held_pure (i := 2) (oi := ⟨some 75, _, _, _, _, _⟩) rfl (by kernel_rfl) (by kernel_rfl) (by kernel_rfl) (fun _ _ _ h => h) (by rfl) (fun w hSw => ld_slS rfl rfl (c3S _ hSw)) hS (fun hS => ?_)
                    try go_frame
                    refine held_pure (i := 3) (oi := ⟨some 76, _, _, _, _, _⟩) rfl (by kernel_rfl) (by kernel_rfl) (by kernel_rfl) (fun _ _ _ h => h) (by rfl) (v := ?_) (fun w hSw => ?_) hS (fun hS => ?_)
                    rotate_left
                    · go_simp; try with_reducible rfl
                    try go_frame
                    refine held_pure (i := 4) (oi := ⟨some 77, _, _, _, _, _⟩) rfl (by kernel_rfl) (by kernel_rfl) (by kernel_rfl) (fun _ _ _ h => h) (by rfl) (v := ?_) (fun w hSw => ?_) hS (fun hS => ?_)
                    rotate_left
                    · go_simp; try with_reducible rfl
                    try go_frame
                    refine held_pure (i := 5) (oi := ⟨some 78, _, _, _, _, _⟩) rfl (by kernel_rfl) (by kernel_rfl) (by kernel_rfl) (fun _ _ _ h => h) (by rfl) (fun w hSw => ld_sta rfl rfl (rS _ hSw) hxl) hS (fun hS => ?_)
                    try go_frame
                    refine wpAnyH_ready (rs := [6]) (by kernel_rfl) (by simp) (AllReadyH.cons (o := ⟨some 79, _, _, _, _, _⟩) rfl (fun K hK => ?_) AllReadyH.nil)
                    rw [if_pos (by rfl)]
                    go_simp
                    refine (r20static x q B _ hq ((hBy.mem hm hB).below (hS.mono (Nat.le_trans hB hBy.bel.size))) (Nat.le_trans hB (Nat.le_trans hBy.bel.size hS.size))).mono ?_
                    rintro e w6 ⟨rfl, x6⟩
                    rw [← HEE.out]
                    show K _ _
                    refine hK.out _ _ (below_step hS x6) (fun hS => ?_)
                    clear hK K
                    try go_frame
                    refine held_pure (i := 7) (oi := ⟨some 80, _, _, _, _, _⟩) rfl (by kernel_rfl) (by kernel_rfl) (by kernel_rfl) (fun _ _ _ h => h) (by rfl) (v := ?_) (fun w hSw => ?_) hS (fun hS => ?_)
                    rotate_left
                    · go_simp; try with_reducible rfl
                    try go_frame
                    refine wpAnyH_done (by kernel_rfl) ?_ _
                    cases E with
                    | true =>
                      go_wp2_with fail
                      go_roundw
                      case rel => exact ⟨kk + 1, by omega, by simp, Lib.hid (by rw [HE.out, HXD.out, List.all_cons, ← HEE.out, Bool.true_and]), Lib.hid (hBy.more hS)⟩
                      case measure => simp [intOf]; omega
                    | false =>
                      go_wp2_with fail
                      go_ret
                      exact ⟨ret_bool (by rw [HS0.out, HA1.out, HA2.out, HE.out, HXD.out, List.all_cons, ← HEE.out]; rfl), (hBy.more hS).bel⟩
                  · obtain rfl : n3 = kk := by omega
                    have HA3 : Hid (q.stat.all (stB q) = true) := Lib.hid (by rw [HE.out, List.drop_eq_nil_of_le (by rw [← N3.out]; exact Nat.le_refl _)]; rfl)
                    go_wp2
                    go_ret
                    exact ⟨ret_bool (by rw [HS0.out, HA1.out, HA2.out, HA3.out]; rfl), hBy.bel⟩
end Go.Proofs.Ytogidfagkgccmaa

/-
  The document's plain answer of layer 20: what is there twice, the walk; Check. Conditions are each theorem's own.
-/
namespace Go.Proofs.Ytogidfagkgccmaa
open Go.RowKit Go.Shelf
set_option maxRecDepth 100000 in
set_option maxHeartbeats 16000000 in
theorem r20twice (q : Cfg) (B : Nat) (w : World) (hq : Fits q) (hm : MemC w B q) (hB : B ≤ w.heap.size) (hq0 : 0 ≤ q.quota) :
    Calls Try.prog 88 #[.agg (cfa q)] w fun e w' => e = .returned (.bool (twB q)) ∧ Below w.heap.size w w' := by
  have hW0 := BoxC.mk' w q
  generalize hWW : w.alloc (.cells (cfa q) 74) = W at hW0
  have hz := hW0.lt
  have a16 := hq.aftr
  have hra : (row q.aftr).length = 16 := by rw [row_length]; exact a16
  obtain ⟨n1, hn1⟩ : ∃ n, n = q.sws.length := ⟨_, rfl⟩
  obtain ⟨n2, hn2⟩ : ∃ n, n = q.pool.length := ⟨_, rfl⟩
  obtain ⟨n3, hn3⟩ : ∃ n, n = q.stat.length := ⟨_, rfl⟩
  have N1 := Lib.hid hn1
  have N2 := Lib.hid hn2
  have N3 := Lib.hid hn3
  have l1 : n1 ≤ 1000 := by rw [hn1]; exact hq.n1
  have l2 : n2 ≤ 1000 := by rw [hn2]; exact hq.n2
  have l3 : n3 ≤ 1000 := by rw [hn3]; exact hq.n3
  have KK : Hid (∀ V, BoxC w V q → V.cell? ⟨w.heap.size, 16, none⟩ = some (.slice q.A1 n1 q.c1) ∧ V.cell? ⟨w.heap.size, 17, none⟩ = some (.slice q.A2 n2 q.c2) ∧ V.cell? ⟨w.heap.size, 35, none⟩ = some (.slice q.A3 n3 q.c3) ∧ V.cell? ⟨w.heap.size, 20, none⟩ = some (.int .i64 q.quota)) := Lib.hid (fun V hV => by
    rw [hn1, hn2, hn3]
    exact ⟨hV.at_.at_ a16 (j := 0) rfl, hV.at_.at_ a16 (j := 1) rfl, hV.at_.at_ a16 (j := 19) rfl, hV.at_.at_ a16 (j := 4) rfl⟩)
  have HQ0 := Lib.hid hq0
  clear hn1 hn2 hn3 hq0
  go_enter Try.func88, Try.ntmps88
  go_wp2
  try rw [hWW]
  clear hWW
  go_loopw [3] (fun s3 wr => ∃ i : Nat, i ≤ n1 ∧ s3 = .int .i64 i ∧ Hid ((q.sws.take i).Nodup ∧ q.aftr ∉ q.sws.take i) ∧ Hid (BoxC w wr q)) (fun i _ => n1 - (intOf i).toNat)
  case atStart => exact ⟨0, Nat.zero_le _, rfl, Lib.hid ⟨by simp, by simp⟩, Lib.hid hW0⟩
  case round =>
    obtain ⟨i, hi, rfl, HA, HB⟩ := hrel
    have hBx := HB.out
    obtain ⟨c1, c2, c3, cq⟩ := KK.out _ hBx
    by_cases hlt : i < n1
    · obtain ⟨x, hx⟩ : ∃ x, q.sws[i]? = some x := ⟨_, List.getElem?_eq_getElem (by rw [← N1.out]; exact hlt)⟩
      have hxv := hq.sws x (List.mem_of_getElem? hx)
      have hxl : (row x).length = 16 := by rw [row_length]; exact hxv
      have HX := Lib.hid hx
      go_wp2
      go_loopw [4] (fun s4 wr => ∃ k : Nat, k ≤ i ∧ s4 = .int .i64 k ∧ Hid (x ∉ q.sws.take k) ∧ Hid (BoxC w wr q)) (fun k _ => i - (intOf k).toNat)
      case atStart => exact ⟨0, Nat.zero_le _, rfl, Lib.hid (by simp), HB⟩
      case round =>
        obtain ⟨k, hk, rfl, HK, HBr⟩ := hrel
        have hBy := HBr.out
        clear c1 c2 c3 cq
        obtain ⟨c1, c2, c3, cq⟩ := KK.out _ hBy
        obtain ⟨b, o, ea, hb, hrows⟩ := (hBy.mem hm hB).sws (by rw [← N1.out]; omega)
        have hbV : b < wr.heap.size := Nat.lt_of_lt_of_le hb (Nat.le_trans hB hBy.bel.size)
        rw [ea] at c1
        have hrx := hrows i x HX.out
        have riS := fun U (hU : Below wr.heap.size wr U) => range_below hrx hbV hU
        have c1S := fun U (hU : Below wr.heap.size wr U) => (hU.cell (p := ⟨w.heap.size, 16, none⟩) hBy.lt).trans c1
        by_cases hlk : k < i
        · obtain ⟨y, hy⟩ : ∃ y, q.sws[k]? = some y := ⟨_, List.getElem?_eq_getElem (by rw [← N1.out]; omega)⟩
          have hkn : k < n1 := by omega
          have hyv := hq.sws y (List.mem_of_getElem? hy)
          have hyl : (row y).length = 16 := by rw [row_length]; exact hyv
          have hry := hrows k y hy
          have rkS := fun U (hU : Below wr.heap.size wr U) => range_below hry hbV hU
          have HY := Lib.hid hy
          obtain ⟨E, hE⟩ : ∃ E, E = decide (y = x) := ⟨_, rfl⟩
          have eS : ∀ w, (Op.equalIn 10000 70 (.agg (row y).toArray) (.agg (row x).toArray)).run Try.prog w = .ok E w := fun w => by rw [hE]; exact six_eq _ _ hyv hxv w
          have HEE := Lib.hid hE
          clear hE hy hx ea hrows hrx hry
          go_upto_region 7 with fail
          refine wp_region_held_drew (S := fun w' => Below wr.heap.size wr w') (by kernel_rfl) (Below.refl _ wr).drew (fun hS => ?_)
          refine held_pure (i := 0) (oi := ⟨some 22, _, _, _, _, _⟩) rfl (by kernel_rfl) (by kernel_rfl) (by kernel_rfl) (fun _ _ _ h => h) (by rfl) (v := ?_) (fun w hSw => ?_) hS (fun hS => ?_)
          rotate_left
          · go_simp; try with_reducible rfl
          try go_frame
          refine held_pure (i := 1) (oi := ⟨some 23, _, _, _, _, _⟩) rfl (by kernel_rfl) (by kernel_rfl) (by kernel_rfl) (fun _ _ _ h => h) (by rfl) (fun w hSw => ld_slX rfl rfl (c1S _ hSw)) hS (fun hS => ?_)
          try go_frame
          refine held_pure (i := 2) (oi := ⟨some 24, _, _, _, _, _⟩) rfl (by kernel_rfl) (by kernel_rfl) (by kernel_rfl) (fun _ _ _ h => h) (by rfl) (v := ?_) (fun w hSw => ?_) hS (fun hS => ?_)
          rotate_left
          · go_simp; try with_reducible rfl
          try go_frame
          refine held_pure (i := 3) (oi := ⟨some 25, _, _, _, _, _⟩) rfl (by kernel_rfl) (by kernel_rfl) (by kernel_rfl) (fun _ _ _ h => h) (by rfl) (v := ?_) (fun w hSw => ?_) hS (fun hS => ?_)
          rotate_left
          · go_simp; try with_reducible rfl
          try go_frame
          refine held_pure (i := 4) (oi := ⟨some 26, _, _, _, _, _⟩) rfl (by kernel_rfl) (by kernel_rfl) (by kernel_rfl) (fun _ _ _ h => h) (by rfl) (fun w hSw => ld_six rfl rfl (rkS _ hSw) hyl) hS (fun hS => ?_)
          try go_frame
          refine held_pure (i := 5) (oi := ⟨some 27, _, _, _, _, _⟩) rfl (by kernel_rfl) (by kernel_rfl) (by kernel_rfl) (fun _ _ _ h => h) (by rfl) (v := ?_) (fun w hSw => ?_) hS (fun hS => ?_)
          rotate_left
          · go_simp; try with_reducible rfl
          try go_frame
          refine held_pure (i := 6) (oi := ⟨some 28, _, _, _, _, _⟩) rfl (by kernel_rfl) (by kernel_rfl) (by kernel_rfl) (fun _ _ _ h => h) (by rfl) (fun w hSw => ld_slX rfl rfl (c1S _ hSw)) hS (fun hS => ?_)
          try go_frame
          refine held_pure (i := 7) (oi := ⟨some 29, _, _, _, _, _⟩) rfl (by kernel_rfl) (by kernel_rfl) (by kernel_rfl) (fun _ _ _ h => h) (by rfl) (v := ?_) (fun w hSw => ?_) hS (fun hS => ?_)
          rotate_left
          · go_simp; try with_reducible rfl
          try go_frame
          refine held_pure (i := 8) (oi := ⟨some 30, _, _, _, _, _⟩) rfl (by kernel_rfl) (by kernel_rfl) (by kernel_rfl) (fun _ _ _ h => h) (by rfl) (v := ?_) (fun w hSw => ?_) hS (fun hS => ?_)
          rotate_left
          · go_simp; try with_reducible rfl
          try go_frame
          refine held_pure (i := 9) (oi := ⟨some 31, _, _, _, _, _⟩) rfl (by kernel_rfl) (by kernel_rfl) (by kernel_rfl) (fun _ _ _ h => h) (by rfl) (fun w hSw => ld_six rfl rfl (riS _ hSw) hxl) hS (fun hS => ?_)
          try go_frame
          refine held_pure (i := 10) (oi := ⟨some 32, _, _, _, _, _⟩) rfl (by kernel_rfl) (by kernel_rfl) (by kernel_rfl) (fun _ _ _ h => h) (by rfl) (v := .bool E) (fun w hSw => by go_simp) hS (fun hS => ?_)
          try go_frame
          refine wpAnyH_done (by kernel_rfl) ?_ _
          cases E with
          | true =>
            go_wp2_with fail
            go_ret
            exact ⟨ret_bool (by rw [twB_1 (fun hn => dup_at HX.out HY.out hlk (of_decide_eq_true HEE.out.symm) (List.nodup_append.1 hn).1)]), (hBy.more hS).bel⟩
          | false =>
            go_wp2_with fail
            go_roundw
            case rel => exact ⟨k + 1, by omega, by simp, Lib.hid (by rw [take_snoc _ _ _ HY.out]; exact not_mem_snoc HK.out (of_decide_eq_false HEE.out.symm)), Lib.hid (hBy.more hS)⟩
            case measure => simp [intOf]; omega
        · obtain rfl : k = i := by omega
          have a0S := fun U (hU : Below wr.heap.size wr U) => range_below (hBy.at_.six a16) hBy.lt hU
          obtain ⟨E, hE⟩ : ∃ E, E = decide (x = q.aftr) := ⟨_, rfl⟩
          have eS : ∀ w, (Op.equalIn 10000 70 (.agg (row x).toArray) (.agg (row q.aftr).toArray)).run Try.prog w = .ok E w := fun w => by rw [hE]; exact six_eq _ _ hxv a16 w
          have HEE := Lib.hid hE
          clear hE hx ea hrows hrx
          go_wp2
          go_upto_region 9 with fail
          refine wp_region_held_drew (S := fun w' => Below wr.heap.size wr w') (by kernel_rfl) (Below.refl _ wr).drew (fun hS => ?_)
          refine held_pure (i := 0) (oi := ⟨some 33, _, _, _, _, _⟩) rfl (by kernel_rfl) (by kernel_rfl) (by kernel_rfl) (fun _ _ _ h => h) (by rfl) (v := ?_) (fun w hSw => ?_) hS (fun hS => ?_)
          rotate_left
          · go_simp; try with_reducible rfl
          try go_frame
          refine held_pure (i := 1) (oi := ⟨some 34, _, _, _, _, _⟩) rfl (by kernel_rfl) (by kernel_rfl) (by kernel_rfl) (fun _ _ _ h => h) (by rfl) (fun w hSw => ld_slX rfl rfl (c1S _ hSw)) hS (fun hS => ?_)
          try go_frame
          refine held_pure (i := 2) (oi := ⟨some 35, _, _, _, _, _⟩) rfl (by kernel_rfl) (by kernel_rfl) (by kernel_rfl) (fun _ _ _ h => h) (by rfl) (v := ?_) (fun w hSw => ?_) hS (fun hS => ?_)
          rotate_left
          · go_simp; try with_reducible rfl
          try go_frame
          refine held_pure (i := 3) (oi := ⟨some 36, _, _, _, _, _⟩) rfl (by kernel_rfl) (by kernel_rfl) (by kernel_rfl) (fun _ _ _ h => h) (by rfl) (v := ?_) (fun w hSw => ?_) hS (fun hS => ?_)
          rotate_left
          · go_simp; try with_reducible rfl
          try go_frame
          refine held_pure (i := 4) (oi := ⟨some 37, _, _, _, _, _⟩) rfl (by kernel_rfl) (by kernel_rfl) (by kernel_rfl) (fun _ _ _ h => h) (by rfl) (fun w hSw => ld_six rfl rfl (riS _ hSw) hxl) hS (fun hS => ?_)
          try go_frame
          refine held_pure (i := 5) (oi := ⟨some 38, _, _, _, _, _⟩) rfl (by kernel_rfl) (by kernel_rfl) (by kernel_rfl) (fun _ _ _ h => h) (by rfl) (v := ?_) (fun w hSw => ?_) hS (fun hS => ?_)
          rotate_left
          · go_simp; try with_reducible rfl
          try go_frame
          refine held_pure (i := 6) (oi := ⟨some 39, _, _, _, _, _⟩) rfl (by kernel_rfl) (by kernel_rfl) (by kernel_rfl) (fun _ _ _ h => h) (by rfl) (fun w hSw => ld_six rfl rfl (a0S _ hSw) hra) hS (fun hS => ?_)
          try go_frame
          refine held_pure (i := 7) (oi := ⟨some 40, _, _, _, _, _⟩) rfl (by kernel_rfl) (by kernel_rfl) (by kernel_rfl) (fun _ _ _ h => h) (by rfl) (v := .bool E) (fun w hSw => by go_simp) hS (fun hS => ?_)
          try go_frame
          refine wpAnyH_done (by kernel_rfl) ?_ _
          cases E with
          | true =>
            go_wp2_with fail
            go_ret
            exact ⟨ret_bool (by rw [twB_1 (fun hn => ((nodup_snoc _ _).1 hn).2 (by rw [← of_decide_eq_true HEE.out.symm]; exact List.mem_of_getElem? HX.out))]), (hBy.more hS).bel⟩
          | false =>
            go_wp2_with fail
            go_roundw
            case rel => exact ⟨k + 1, by omega, by simp, Lib.hid (by rw [take_snoc _ _ _ HX.out]; exact ⟨(nodup_snoc _ _).2 ⟨HA.out.1, HK.out⟩, not_mem_snoc HA.out.2 (of_decide_eq_false HEE.out.symm)⟩), Lib.hid (hBy.more hS)⟩
            case measure => simp [intOf]; omega
    · obtain rfl : n1 = i := by omega
      have HA1 : Hid ((q.sws ++ [q.aftr]).Nodup) := Lib.hid (by
        have := HA.out
        rw [List.take_of_length_le (by rw [← N1.out]; exact Nat.le_refl _)] at this
        exact (nodup_snoc _ _).2 this)
      clear HA
      go_wp2
      go_loopw [5] (fun s5 wr => ∃ i : Nat, i ≤ n2 ∧ s5 = .int .i64 i ∧ Hid ((q.pool.take i).Nodup) ∧ Hid (BoxC w wr q)) (fun i _ => n2 - (intOf i).toNat)
      case atStart => exact ⟨0, Nat.zero_le _, rfl, Lib.hid (by simp), HB⟩
      case round =>
        obtain ⟨i, hi2, rfl, HA, HB2⟩ := hrel
        have hBz := HB2.out
        clear c1 c2 c3 cq
        obtain ⟨c1, c2, c3, cq⟩ := KK.out _ hBz
        by_cases hlt2 : i < n2
        · obtain ⟨x, hx⟩ : ∃ x, q.pool[i]? = some x := ⟨_, List.getElem?_eq_getElem (by rw [← N2.out]; exact hlt2)⟩
          have HX := Lib.hid hx
          go_wp2
          go_loopw [6] (fun s6 wr => ∃ k : Nat, k ≤ i ∧ s6 = .int .i64 k ∧ Hid (x ∉ q.pool.take k) ∧ Hid (BoxC w wr q)) (fun k _ => i - (intOf k).toNat)
          case atStart => exact ⟨0, Nat.zero_le _, rfl, Lib.hid (by simp), HB2⟩
          case round =>
            obtain ⟨k, hk, rfl, HK, HBr⟩ := hrel
            have hBy := HBr.out
            clear c1 c2 c3 cq
            obtain ⟨c1, c2, c3, cq⟩ := KK.out _ hBy
            obtain ⟨b, o, ea, hb, hrows⟩ := (hBy.mem hm hB).pool (by rw [← N2.out]; omega)
            have hbV : b < wr.heap.size := Nat.lt_of_lt_of_le hb (Nat.le_trans hB hBy.bel.size)
            rw [ea] at c2
            have hrx : wr.cell? ⟨b, o + i, none⟩ = some (.int .i64 x) := by rw [hrows i (by rw [← N2.out]; exact hlt2), List.getD_eq_getElem?_getD, HX.out]; rfl
            by_cases hlk : k < i
            · obtain ⟨y, hy⟩ : ∃ y, q.pool[k]? = some y := ⟨_, List.getElem?_eq_getElem (by rw [← N2.out]; omega)⟩
              have hkn : k < n2 := by omega
              have HY := Lib.hid hy
              have hry : wr.cell? ⟨b, o + k, none⟩ = some (.int .i64 y) := by rw [hrows k (by rw [← N2.out]; omega), List.getD_eq_getElem?_getD, HY.out]; rfl
              have riS := fun U (hU : Below wr.heap.size wr U) => (hU.cell (p := ⟨b, o + i, none⟩) hbV).trans hrx
              have rkS := fun U (hU : Below wr.heap.size wr U) => (hU.cell (p := ⟨b, o + k, none⟩) hbV).trans hry
              have c2S := fun U (hU : Below wr.heap.size wr U) => (hU.cell (p := ⟨w.heap.size, 17, none⟩) hBy.lt).trans c2
              obtain ⟨E, hE⟩ : ∃ E, E = (y == x) := ⟨_, rfl⟩
              have HEE := Lib.hid hE
              have hE' := hE.symm
              clear hE hy hx ea hrows hrx hry
              go_upto_region 17 with fail
              refine wp_region_held_drew (S := fun w' => Below wr.heap.size wr w') (by kernel_rfl) (Below.refl _ wr).drew (fun hS => ?_)
              refine held_pure (i := 0) (oi := ⟨some 53, _, _, _, _, _⟩) rfl (by kernel_rfl) (by kernel_rfl) (by kernel_rfl) (fun _ _ _ h => h) (by rfl) (v := ?_) (fun w hSw => ?_) hS (fun hS => ?_)
              rotate_left
              · go_simp; try with_reducible rfl
              try go_frame
              refine held_pure (i := 1) (oi := ⟨some 54, _, _, _, _, _⟩) rfl (by kernel_rfl) (by kernel_rfl) (by kernel_rfl) (fun _ _ _ h => h) (by rfl) (fun w hSw => ld_slI rfl rfl (c2S _ hSw)) hS (fun hS => ?_)
              try go_frame
              refine held_pure (i := 2) (oi := ⟨some 55, _, _, _, _, _⟩) rfl (by kernel_rfl) (by kernel_rfl) (by kernel_rfl) (fun _ _ _ h => h) (by rfl) (v := ?_) (fun w hSw => ?_) hS (fun hS => ?_)
              rotate_left
              · go_simp; try with_reducible rfl
              try go_frame
              refine held_pure (i := 3) (oi := ⟨some 56, _, _, _, _, _⟩) rfl (by kernel_rfl) (by kernel_rfl) (by kernel_rfl) (fun _ _ _ h => h) (by rfl) (v := ?_) (fun w hSw => ?_) hS (fun hS => ?_)
              rotate_left
              · go_simp; try with_reducible rfl
              try go_frame
              refine held_pure (i := 4) (oi := ⟨some 57, _, _, _, _, _⟩) rfl (by kernel_rfl) (by kernel_rfl) (by kernel_rfl) (fun _ _ _ h => h) (by rfl) (fun w hSw => run_load_int rfl rfl (rkS _ hSw)) hS (fun hS => ?_)
              try go_frame
              refine held_pure (i := 5) (oi := ⟨some 58, _, _, _, _, _⟩) rfl (by kernel_rfl) (by kernel_rfl) (by kernel_rfl) (fun _ _ _ h => h) (by rfl) (v := ?_) (fun w hSw => ?_) hS (fun hS => ?_)
              rotate_left
              · go_simp; try with_reducible rfl
              try go_frame
              refine held_pure (i := 6) (oi := ⟨some 59, _, _, _, _, _⟩) rfl (by kernel_rfl) (by kernel_rfl) (by kernel_rfl) (fun _ _ _ h => h) (by rfl) (fun w hSw => ld_slI rfl rfl (c2S _ hSw)) hS (fun hS => ?_)
              try go_frame
              refine held_pure (i := 7) (oi := ⟨some 60, _, _, _, _, _⟩) rfl (by kernel_rfl) (by kernel_rfl) (by kernel_rfl) (fun _ _ _ h => h) (by rfl) (v := ?_) (fun w hSw => ?_) hS (fun hS => ?_)
              rotate_left
              · go_simp; try with_reducible rfl
              try go_frame
              refine held_pure (i := 8) (oi := ⟨some 61, _, _, _, _, _⟩) rfl (by kernel_rfl) (by kernel_rfl) (by kernel_rfl) (fun _ _ _ h => h) (by rfl) (v := ?_) (fun w hSw => ?_) hS (fun hS => ?_)
              rotate_left
              · go_simp; try with_reducible rfl
              try go_frame
              refine held_pure (i := 9) (oi := ⟨some 62, _, _, _, _, _⟩) rfl (by kernel_rfl) (by kernel_rfl) (by kernel_rfl) (fun _ _ _ h => h) (by rfl) (fun w hSw => run_load_int rfl rfl (riS _ hSw)) hS (fun hS => ?_)
              try go_frame
              refine held_pure (i := 10) (oi := ⟨some 63, _, _, _, _, _⟩) rfl (by kernel_rfl) (by kernel_rfl) (by kernel_rfl) (fun _ _ _ h => h) (by rfl) (v := .bool E) (fun w hSw => by go_simp; try (rw [← HEE.out])) hS (fun hS => ?_)
              try go_frame
              refine wpAnyH_done (by kernel_rfl) ?_ _
              clear hE'
              cases E with
              | true =>
                go_wp2_with fail
                go_ret
                exact ⟨ret_bool (by rw [twB_2 (dup_at HX.out HY.out hlk (by simpa using HEE.out.symm))]), (hBy.more hS).bel⟩
              | false =>
                go_wp2_with fail
                go_roundw
                case rel => exact ⟨k + 1, by omega, by simp, Lib.hid (by rw [take_snoc _ _ _ HY.out]; exact not_mem_snoc HK.out (by simpa using HEE.out.symm)), Lib.hid (hBy.more hS)⟩
                case measure => simp [intOf]; omega
            · obtain rfl : k = i := by omega
              clear hx ea hrows hrx
              go_wp2
              go_roundw
              case rel => exact ⟨k + 1, by omega, by simp, Lib.hid (by rw [take_snoc _ _ _ HX.out]; exact (nodup_snoc _ _).2 ⟨HA.out, HK.out⟩), HBr⟩
              case measure => simp [intOf]; omega
        · obtain rfl : n2 = i := by omega
          have HA2 : Hid (q.pool.Nodup) := Lib.hid (by
            have := HA.out
            rwa [List.take_of_length_le (by rw [← N2.out]; exact Nat.le_refl _)] at this)
          clear HA
          go_wp2
          go_loopw [7] (fun s7 wr => ∃ i : Nat, i ≤ n3 ∧ s7 = .int .i64 i ∧ Hid (((q.stat.map inS).take i).Nodup ∧ ((q.stat.map ouS).take i).Nodup ∧ ∀ z, ((((q.stat.map Sta.sw).take i).count z : Nat) : Int) ≤ q.quota) ∧ Hid (BoxC w wr q)) (fun i _ => n3 - (intOf i).toNat)
          case atStart => exact ⟨0, Nat.zero_le _, rfl, Lib.hid ⟨by simp, by simp, fun z => by simpa using HQ0.out⟩, HB2⟩
          case round =>
            obtain ⟨i, hi3, rfl, HA, HB3⟩ := hrel
            have hBz := HB3.out
            clear c1 c2 c3 cq
            obtain ⟨c1, c2, c3, cq⟩ := KK.out _ hBz
            by_cases hlt3 : i < n3
            · obtain ⟨x, hx⟩ : ∃ x, q.stat[i]? = some x := ⟨_, List.getElem?_eq_getElem (by rw [← N3.out]; exact hlt3)⟩
              have HX := Lib.hid hx
              go_wp2
              go_loopw [8, 9] (fun s8 s9 wr => ∃ k : Nat, k ≤ i ∧ s9 = .int .i64 k ∧ s8 = .int .i64 (1 + (((q.stat.map Sta.sw).take k).count x.sw : Nat)) ∧ Hid (inS x ∉ (q.stat.map inS).take k ∧ ouS x ∉ (q.stat.map ouS).take k) ∧ Hid (BoxC w wr q)) (fun _ k _ => i - (intOf k).toNat)
              case atStart => exact ⟨0, Nat.zero_le _, rfl, by simp, Lib.hid ⟨by simp, by simp⟩, HB3⟩
              case round =>
                obtain ⟨k, hk, rfl, rfl, HK, HBr⟩ := hrel
                obtain ⟨cn, hcn⟩ : ∃ cn, cn = ((q.stat.map Sta.sw).take k).count x.sw := ⟨_, rfl⟩
                have hcnk : cn ≤ k := by rw [hcn]; exact Nat.le_trans List.count_le_length (by simp; omega)
                have HCN := Lib.hid hcn
                rw [← hcn]
                clear hcn
                have hBy := HBr.out
                clear c1 c2 c3 cq
                obtain ⟨c1, c2, c3, cq⟩ := KK.out _ hBy
                obtain ⟨b, o, ea, hb, hrows⟩ := (hBy.mem hm hB).stat (by rw [← N3.out]; omega)
                have hbV : b < wr.heap.size := Nat.lt_of_lt_of_le hb (Nat.le_trans hB hBy.bel.size)
                rw [ea] at c3
                have hrx := hrows i x HX.out
                by_cases hlk : k < i
                · obtain ⟨y, hy⟩ : ∃ y, q.stat[k]? = some y := ⟨_, List.getElem?_eq_getElem (by rw [← N3.out]; omega)⟩
                  have hkn : k < n3 := by omega
                  have HY := Lib.hid hy
                  have HYi : Hid ((q.stat.map inS)[k]? = some (inS y)) := Lib.hid (by rw [List.getElem?_map, hy]; rfl)
                  have HYo : Hid ((q.stat.map ouS)[k]? = some (ouS y)) := Lib.hid (by rw [List.getElem?_map, hy]; rfl)
                  have HYs : Hid ((q.stat.map Sta.sw)[k]? = some y.sw) := Lib.hid (by rw [List.getElem?_map, hy]; rfl)
                  have HXi : Hid ((q.stat.map inS)[i]? = some (inS x)) := Lib.hid (by rw [List.getElem?_map, hx]; rfl)
                  have HXo : Hid ((q.stat.map ouS)[i]? = some (ouS x)) := Lib.hid (by rw [List.getElem?_map, hx]; rfl)
                  have hry := hrows k y hy
                  have riS := fun U (hU : Below wr.heap.size wr U) => range_below hrx hbV hU
                  have rkS := fun U (hU : Below wr.heap.size wr U) => range_below hry hbV hU
                  have c3S := fun U (hU : Below wr.heap.size wr U) => (hU.cell (p := ⟨w.heap.size, 35, none⟩) hBy.lt).trans c3
                  have xsS := fun U (hU : Below wr.heap.size wr U) => riS U hU 0 (.int .i64 x.sw) rfl
                  have ysS := fun U (hU : Below wr.heap.size wr U) => rkS U hU 0 (.int .i64 y.sw) rfl
                  simp only [Nat.add_zero] at xsS ysS
                  obtain ⟨E1, hE1⟩ : ∃ E, E = decide (inS y = inS x) := ⟨_, rfl⟩
                  have eS1 : ∀ w, (Op.equalIn 10000 189 (.agg (clI (inS y)).toArray) (.agg (clI (inS x)).toArray)).run Try.prog w = .ok E1 w := fun w => by rw [hE1]; exact eq_inner y x w
                  obtain ⟨E2, hE2⟩ : ∃ E, E = decide (ouS y = ouS x) := ⟨_, rfl⟩
                  have eS2 : ∀ w, (Op.equalIn 10000 65 (.agg (clI (ouS y)).toArray) (.agg (clI (ouS x)).toArray)).run Try.prog w = .ok E2 w := fun w => by rw [hE2]; exact eq_outer y x w
                  have HE1 := Lib.hid hE1
                  have HE2 := Lib.hid hE2
                  have hli : (clI (inS x)).length = 4 := rfl
                  have hlo : (clI (ouS x)).length = 3 := rfl
                  have hmi : (clI (inS y)).length = 4 := rfl
                  have hmo : (clI (ouS y)).length = 3 := rfl
                  clear hE1 hE2 hy hx ea hrows hrx hry
                  have WIN : Hid (∀ U, Below wr.heap.size wr U → U.rangeAt b (o + k * 7) (clI (inS y)) ∧ U.rangeAt b (o + i * 7) (clI (inS x)) ∧ U.rangeAt b (o + k * 7 + 4) (clI (ouS y)) ∧ U.rangeAt b (o + i * 7 + 4) (clI (ouS x))) := Lib.hid (fun U hU => ⟨inS_at (rkS U hU), inS_at (riS U hU), ouS_at (rkS U hU), ouS_at (riS U hU)⟩)
                  generalize hgi : clI (inS y) = Yi at *
                  generalize hgo : clI (ouS y) = Yo at *
                  generalize hhi : clI (inS x) = Xi at *
                  generalize hho : clI (ouS x) = Xo at *
                  clear hgi hgo hhi hho riS rkS
                  cases E1 with
                  | true =>
                    go_upto_region 26 with fail
                    refine wp_region_held_drew (S := fun w' => Below wr.heap.size wr w') (by kernel_rfl) (Below.refl _ wr).drew (fun hS => ?_)
                    refine held_pure (i := 0) (oi := ⟨some 76, _, _, _, _, _⟩) rfl (by kernel_rfl) (by kernel_rfl) (by kernel_rfl) (fun _ _ _ h => h) (by rfl) (v := ?_) (fun w hSw => ?_) hS (fun hS => ?_)
                    rotate_left
                    · go_simp; try with_reducible rfl
                    try go_frame
                    refine held_pure (i := 1) (oi := ⟨some 77, _, _, _, _, _⟩) rfl (by kernel_rfl) (by kernel_rfl) (by kernel_rfl) (fun _ _ _ h => h) (by rfl) (fun w hSw => ld_slS rfl rfl (c3S _ hSw)) hS (fun hS => ?_)
                    try go_frame
                    refine held_pure (i := 2) (oi := ⟨some 78, _, _, _, _, _⟩) rfl (by kernel_rfl) (by kernel_rfl) (by kernel_rfl) (fun _ _ _ h => h) (by rfl) (v := ?_) (fun w hSw => ?_) hS (fun hS => ?_)
                    rotate_left
                    · go_simp; try with_reducible rfl
                    try go_frame
                    refine held_pure (i := 3) (oi := ⟨some 79, _, _, _, _, _⟩) rfl (by kernel_rfl) (by kernel_rfl) (by kernel_rfl) (fun _ _ _ h => h) (by rfl) (v := ?_) (fun w hSw => ?_) hS (fun hS => ?_)
                    rotate_left
                    · go_simp; try with_reducible rfl
                    try go_frame
                    refine held_pure (i := 4) (oi := ⟨some 80, _, _, _, _, _⟩) rfl (by kernel_rfl) (by kernel_rfl) (by kernel_rfl) (fun _ _ _ h => h) (by rfl) (v := ?_) (fun w hSw => ?_) hS (fun hS => ?_)
                    rotate_left
                    · go_simp; try with_reducible rfl
                    try go_frame
                    refine held_pure (i := 5) (oi := ⟨some 81, _, _, _, _, _⟩) rfl (by kernel_rfl) (by kernel_rfl) (by kernel_rfl) (fun _ _ _ h => h) (by rfl) (fun w hSw => ld_inner rfl rfl (WIN.out _ hSw).1 hmi) hS (fun hS => ?_)
                    try go_frame
                    refine held_pure (i := 6) (oi := ⟨some 82, _, _, _, _, _⟩) rfl (by kernel_rfl) (by kernel_rfl) (by kernel_rfl) (fun _ _ _ h => h) (by rfl) (v := ?_) (fun w hSw => ?_) hS (fun hS => ?_)
                    rotate_left
                    · go_simp; try with_reducible rfl
                    try go_frame
                    refine held_pure (i := 7) (oi := ⟨some 83, _, _, _, _, _⟩) rfl (by kernel_rfl) (by kernel_rfl) (by kernel_rfl) (fun _ _ _ h => h) (by rfl) (fun w hSw => ld_slS rfl rfl (c3S _ hSw)) hS (fun hS => ?_)
                    try go_frame
                    refine held_pure (i := 8) (oi := ⟨some 84, _, _, _, _, _⟩) rfl (by kernel_rfl) (by kernel_rfl) (by kernel_rfl) (fun _ _ _ h => h) (by rfl) (v := ?_) (fun w hSw => ?_) hS (fun hS => ?_)
                    rotate_left
                    · go_simp; try with_reducible rfl
                    try go_frame
                    refine held_pure (i := 9) (oi := ⟨some 85, _, _, _, _, _⟩) rfl (by kernel_rfl) (by kernel_rfl) (by kernel_rfl) (fun _ _ _ h => h) (by rfl) (v := ?_) (fun w hSw => ?_) hS (fun hS => ?_)
                    rotate_left
                    · go_simp; try with_reducible rfl
                    try go_frame
                    refine held_pure (i := 10) (oi := ⟨some 86, _, _, _, _, _⟩) rfl (by kernel_rfl) (by kernel_rfl) (by kernel_rfl) (fun _ _ _ h => h) (by rfl) (v := ?_) (fun w hSw => ?_) hS (fun hS => ?_)
                    rotate_left
                    · go_simp; try with_reducible rfl
                    try go_frame
                    refine held_pure (i := 11) (oi := ⟨some 87, _, _, _, _, _⟩) rfl (by kernel_rfl) (by kernel_rfl) (by kernel_rfl) (fun _ _ _ h => h) (by rfl) (fun w hSw => ld_inner rfl rfl (WIN.out _ hSw).2.1 hli) hS (fun hS => ?_)
                    try go_frame
                    refine held_pure (i := 12) (oi := ⟨some 88, _, _, _, _, _⟩) rfl (by kernel_rfl) (by kernel_rfl) (by kernel_rfl) (fun _ _ _ h => h) (by rfl) (v := .bool true) (fun w hSw => by go_simp) hS (fun hS => ?_)
                    try go_frame
                    refine held_pure (i := 13) (oi := ⟨some 89, _, _, _, _, _⟩) rfl (by kernel_rfl) (by kernel_rfl) (by kernel_rfl) (fun _ _ _ h => h) (by rfl) (v := ?_) (fun w hSw => ?_) hS (fun hS => ?_)
                    rotate_left
                    · go_simp; try with_reducible rfl
                    try go_frame
                    refine held_skip (i := 14) (oi := ⟨some 90, _, _, _, _, _⟩) rfl (by kernel_rfl) (by kernel_rfl) (by kernel_rfl) (fun _ _ _ h => h) (by rfl) hS (fun hS => ?_)
                    try go_frame
                    refine held_skip (i := 15) (oi := ⟨some 91, _, _, _, _, _⟩) rfl (by kernel_rfl) (by kernel_rfl) (by kernel_rfl) (fun _ _ _ h => h) (by rfl) hS (fun hS => ?_)
                    try go_frame
                    refine held_skip (i := 16) (oi := ⟨some 92, _, _, _, _, _⟩) rfl (by kernel_rfl) (by kernel_rfl) (by kernel_rfl) (fun _ _ _ h => h) (by rfl) hS (fun hS => ?_)
                    try go_frame
                    refine held_skip (i := 17) (oi := ⟨some 93, _, _, _, _, _⟩) rfl (by kernel_rfl) (by kernel_rfl) (by kernel_rfl) (fun _ _ _ h => h) (by rfl) hS (fun hS => ?_)
                    try go_frame
                    refine held_skip (i := 18) (oi := ⟨some 94, _, _, _, _, _⟩) rfl (by kernel_rfl) (by kernel_rfl) (by kernel_rfl) (fun _ _ _ h => h) (by rfl) hS (fun hS => ?_)
                    try go_frame
                    refine held_skip (i := 19) (oi := ⟨some 95, _, _, _, _, _⟩) rfl (by kernel_rfl) (by kernel_rfl) (by kernel_rfl) (fun _ _ _ h => h) (by rfl) hS (fun hS => ?_)
                    try go_frame
                    refine held_skip (i := 20) (oi := ⟨some 96, _, _, _, _, _⟩) rfl (by kernel_rfl) (by kernel_rfl) (by kernel_rfl) (fun _ _ _ h => h) (by rfl) hS (fun hS => ?_)
                    try go_frame
                    refine held_skip (i := 21) (oi := ⟨some 97, _, _, _, _, _⟩) rfl (by kernel_rfl) (by kernel_rfl) (by kernel_rfl) (fun _ _ _ h => h) (by rfl) hS (fun hS => ?_)
                    try go_frame
                    refine held_skip (i := 22) (oi := ⟨some 98, _, _, _, _, _⟩) rfl (by kernel_rfl) (by kernel_rfl) (by kernel_rfl) (fun _ _ _ h => h) (by rfl) hS (fun hS => ?_)
                    try go_frame
                    refine held_skip (i := 23) (oi := ⟨some 99, _, _, _, _, _⟩) rfl (by kernel_rfl) (by kernel_rfl) (by kernel_rfl) (fun _ _ _ h => h) (by rfl) hS (fun hS => ?_)
                    try go_frame
                    refine held_skip (i := 24) (oi := ⟨some 100, _, _, _, _, _⟩) rfl (by kernel_rfl) (by kernel_rfl) (by kernel_rfl) (fun _ _ _ h => h) (by rfl) hS (fun hS => ?_)
                    try go_frame
                    refine held_skip (i := 25) (oi := ⟨some 101, _, _, _, _, _⟩) rfl (by kernel_rfl) (by kernel_rfl) (by kernel_rfl) (fun _ _ _ h => h) (by rfl) hS (fun hS => ?_)
                    try go_frame
                    refine held_skip (i := 26) (oi := ⟨some 102, _, _, _, _, _⟩) rfl (by kernel_rfl) (by kernel_rfl) (by kernel_rfl) (fun _ _ _ h => h) (by rfl) hS (fun hS => ?_)
                    try go_frame
                    refine held_pure (i := 27) (oi := ⟨some 103, _, _, _, _, _⟩) rfl (by kernel_rfl) (by kernel_rfl) (by kernel_rfl) (fun _ _ _ h => h) (by rfl) (v := ?_) (fun w hSw => ?_) hS (fun hS => ?_)
                    rotate_left
                    · go_simp; try with_reducible rfl
                    try go_frame
                    refine wpAnyH_done (by kernel_rfl) ?_ _
                    go_wp2_with fail
                    go_ret
                    exact ⟨ret_bool (by rw [twB_3 (dup_at HXi.out HYi.out hlk (of_decide_eq_true HE1.out.symm))]), (hBy.more hS).bel⟩
                  | false =>
                    go_upto_region 26 with fail
                    refine wp_region_held_drew (S := fun w' => Below wr.heap.size wr w') (by kernel_rfl) (Below.refl _ wr).drew (fun hS => ?_)
                    refine held_pure (i := 0) (oi := ⟨some 76, _, _, _, _, _⟩) rfl (by kernel_rfl) (by kernel_rfl) (by kernel_rfl) (fun _ _ _ h => h) (by rfl) (v := ?_) (fun w hSw => ?_) hS (fun hS => ?_)
                    rotate_left
                    · go_simp; try with_reducible rfl
                    try go_frame
                    refine held_pure (i := 1) (oi := ⟨some 77, _, _, _, _, _⟩) rfl (by kernel_rfl) (by kernel_rfl) (by kernel_rfl) (fun _ _ _ h => h) (by rfl) (fun w hSw => ld_slS rfl rfl (c3S _ hSw)) hS (fun hS => ?_)
                    try go_frame
                    refine held_pure (i := 2) (oi := ⟨some 78, _, _, _, _, _⟩) rfl (by kernel_rfl) (by kernel_rfl) (by kernel_rfl) (fun _ _ _ h => h) (by rfl) (v := ?_) (fun w hSw => ?_) hS (fun hS => ?_)
                    rotate_left
                    · go_simp; try with_reducible rfl
                    try go_frame
                    refine held_pure (i := 3) (oi := ⟨some 79, _, _, _, _, _⟩) rfl (by kernel_rfl) (by kernel_rfl) (by kernel_rfl) (fun _ _ _ h => h) (by rfl) (v := ?_) (fun w hSw => ?_) hS (fun hS => ?_)
                    rotate_left
                    · go_simp; try with_reducible rfl
                    try go_frame
                    refine held_pure (i := 4) (oi := ⟨some 80, _, _, _, _, _⟩) rfl (by kernel_rfl) (by kernel_rfl) (by kernel_rfl) (fun _ _ _ h => h) (by rfl) (v := ?_) (fun w hSw => ?_) hS (fun hS => ?_)
                    rotate_left
                    · go_simp; try with_reducible rfl
                    try go_frame
                    refine held_pure (i := 5) (oi := ⟨some 81, _, _, _, _, _⟩) rfl (by kernel_rfl) (by kernel_rfl) (by kernel_rfl) (fun _ _ _ h => h) (by rfl) (fun w hSw => ld_inner rfl rfl (WIN.out _ hSw).1 hmi) hS (fun hS => ?_)
                    try go_frame
                    refine held_pure (i := 6) (oi := ⟨some 82, _, _, _, _, _⟩) rfl (by kernel_rfl) (by kernel_rfl) (by kernel_rfl) (fun _ _ _ h => h) (by rfl) (v := ?_) (fun w hSw => ?_) hS (fun hS => ?_)
                    rotate_left
                    · go_simp; try with_reducible rfl
                    try go_frame
                    refine held_pure (i := 7) (oi := ⟨some 83, _, _, _, _, _⟩) rfl (by kernel_rfl) (by kernel_rfl) (by kernel_rfl) (fun _ _ _ h => h) (by rfl) (fun w hSw => ld_slS rfl rfl (c3S _ hSw)) hS (fun hS => ?_)
                    try go_frame
                    refine held_pure (i := 8) (oi := ⟨some 84, _, _, _, _, _⟩) rfl (by kernel_rfl) (by kernel_rfl) (by kernel_rfl) (fun _ _ _ h => h) (by rfl) (v := ?_) (fun w hSw => ?_) hS (fun hS => ?_)
                    rotate_left
                    · go_simp; try with_reducible rfl
                    try go_frame
                    refine held_pure (i := 9) (oi := ⟨some 85, _, _, _, _, _⟩) rfl (by kernel_rfl) (by kernel_rfl) (by kernel_rfl) (fun _ _ _ h => h) (by rfl) (v := ?_) (fun w hSw => ?_) hS (fun hS => ?_)
                    rotate_left
                    · go_simp; try with_reducible rfl
                    try go_frame
                    refine held_pure (i := 10) (oi := ⟨some 86, _, _, _, _, _⟩) rfl (by kernel_rfl) (by kernel_rfl) (by kernel_rfl) (fun _ _ _ h => h) (by rfl) (v := ?_) (fun w hSw => ?_) hS (fun hS => ?_)
                    rotate_left
                    · go_simp; try with_reducible rfl
                    try go_frame
                    refine held_pure (i := 11) (oi := ⟨some 87, _, _, _, _, _⟩) rfl (by kernel_rfl) (by kernel_rfl) (by kernel_rfl) (fun _ _ _ h => h) (by rfl) (fun w hSw => ld_inner rfl rfl (WIN.out _ hSw).2.1 hli) hS (fun hS => ?_)
                    try go_frame
                    refine held_pure (i := 12) (oi := ⟨some 88, _, _, _, _, _⟩) rfl (by kernel_rfl) (by kernel_rfl) (by kernel_rfl) (fun _ _ _ h => h) (by rfl) (v := .bool false) (fun w hSw => by go_simp) hS (fun hS => ?_)
                    try go_frame
                    refine held_pure (i := 13) (oi := ⟨some 89, _, _, _, _, _⟩) rfl (by kernel_rfl) (by kernel_rfl) (by kernel_rfl) (fun _ _ _ h => h) (by rfl) (v := ?_) (fun w hSw => ?_) hS (fun hS => ?_)
                    rotate_left
                    · go_simp; try with_reducible rfl
                    try go_frame
                    refine held_pure (i := 14) (oi := ⟨some 90, _, _, _, _, _⟩) rfl (by kernel_rfl) (by kernel_rfl) (by kernel_rfl) (fun _ _ _ h => h) (by rfl) (v := ?_) (fun w hSw => ?_) hS (fun hS => ?_)
                    rotate_left
                    · go_simp; try with_reducible rfl
                    try go_frame
                    refine held_pure (i := 15) (oi := ⟨some 91, _, _, _, _, _⟩) rfl (by kernel_rfl) (by kernel_rfl) (by kernel_rfl) (fun _ _ _ h => h) (by rfl) (fun w hSw => ld_slS rfl rfl (c3S _ hSw)) hS (fun hS => ?_)
                    try go_frame
                    refine held_pure (i := 16) (oi := ⟨some 92, _, _, _, _, _⟩) rfl (by kernel_rfl) (by kernel_rfl) (by kernel_rfl) (fun _ _ _ h => h) (by rfl) (v := ?_) (fun w hSw => ?_) hS (fun hS => ?_)
                    rotate_left
                    · go_simp; try with_reducible rfl
                    try go_frame
                    refine held_pure (i := 17) (oi := ⟨some 93, _, _, _, _, _⟩) rfl (by kernel_rfl) (by kernel_rfl) (by kernel_rfl) (fun _ _ _ h => h) (by rfl) (v := ?_) (fun w hSw => ?_) hS (fun hS => ?_)
                    rotate_left
                    · go_simp; try with_reducible rfl
                    try go_frame
                    refine held_pure (i := 18) (oi := ⟨some 94, _, _, _, _, _⟩) rfl (by kernel_rfl) (by kernel_rfl) (by kernel_rfl) (fun _ _ _ h => h) (by rfl) (v := ?_) (fun w hSw => ?_) hS (fun hS => ?_)
                    rotate_left
                    · go_simp; try with_reducible rfl
                    try go_frame
                    refine held_pure (i := 19) (oi := ⟨some 95, _, _, _, _, _⟩) rfl (by kernel_rfl) (by kernel_rfl) (by kernel_rfl) (fun _ _ _ h => h) (by rfl) (fun w hSw => ld_outer rfl rfl (WIN.out _ hSw).2.2.1 hmo) hS (fun hS => ?_)
                    try go_frame
                    refine held_pure (i := 20) (oi := ⟨some 96, _, _, _, _, _⟩) rfl (by kernel_rfl) (by kernel_rfl) (by kernel_rfl) (fun _ _ _ h => h) (by rfl) (v := ?_) (fun w hSw => ?_) hS (fun hS => ?_)
                    rotate_left
                    · go_simp; try with_reducible rfl
                    try go_frame
                    refine held_pure (i := 21) (oi := ⟨some 97, _, _, _, _, _⟩) rfl (by kernel_rfl) (by kernel_rfl) (by kernel_rfl) (fun _ _ _ h => h) (by rfl) (fun w hSw => ld_slS rfl rfl (c3S _ hSw)) hS (fun hS => ?_)
                    try go_frame
                    refine held_pure (i := 22) (oi := ⟨some 98, _, _, _, _, _⟩) rfl (by kernel_rfl) (by kernel_rfl) (by kernel_rfl) (fun _ _ _ h => h) (by rfl) (v := ?_) (fun w hSw => ?_) hS (fun hS => ?_)
                    rotate_left
                    · go_simp; try with_reducible rfl
                    try go_frame
                    refine held_pure (i := 23) (oi := ⟨some 99, _, _, _, _, _⟩) rfl (by kernel_rfl) (by kernel_rfl) (by kernel_rfl) (fun _ _ _ h => h) (by rfl) (v := ?_) (fun w hSw => ?_) hS (fun hS => ?_)
                    rotate_left
                    · go_simp; try with_reducible rfl
                    try go_frame
                    refine held_pure (i := 24) (oi := ⟨some 100, _, _, _, _, _⟩) rfl (by kernel_rfl) (by kernel_rfl) (by kernel_rfl) (fun _ _ _ h => h) (by rfl) (v := ?_) (fun w hSw => ?_) hS (fun hS => ?_)
                    rotate_left
                    · go_simp; try with_reducible rfl
                    try go_frame
                    refine held_pure (i := 25) (oi := ⟨some 101, _, _, _, _, _⟩) rfl (by kernel_rfl) (by kernel_rfl) (by kernel_rfl) (fun _ _ _ h => h) (by rfl) (fun w hSw => ld_outer rfl rfl (WIN.out _ hSw).2.2.2 hlo) hS (fun hS => ?_)
                    try go_frame
                    refine held_pure (i := 26) (oi := ⟨some 102, _, _, _, _, _⟩) rfl (by kernel_rfl) (by kernel_rfl) (by kernel_rfl) (fun _ _ _ h => h) (by rfl) (v := .bool E2) (fun w hSw => by go_simp) hS (fun hS => ?_)
                    try go_frame
                    refine held_pure (i := 27) (oi := ⟨some 103, _, _, _, _, _⟩) rfl (by kernel_rfl) (by kernel_rfl) (by kernel_rfl) (fun _ _ _ h => h) (by rfl) (v := ?_) (fun w hSw => ?_) hS (fun hS => ?_)
                    rotate_left
                    · go_simp; try with_reducible rfl
                    try go_frame
                    refine wpAnyH_done (by kernel_rfl) ?_ _
                    cases E2 with
                    | true =>
                      go_wp2_with fail
                      go_ret
                      exact ⟨ret_bool (by rw [twB_4 (dup_at HXo.out HYo.out hlk (of_decide_eq_true HE2.out.symm))]), (hBy.more hS).bel⟩
                    | false =>
                      go_wp2_with fail
                      obtain ⟨V, hV⟩ : ∃ V, V = wr.drew := ⟨_, rfl⟩
                      rw [← hV] at hS ⊢
                      clear hV
                      have c3S2 := fun U (hU : Below V.heap.size V U) => c3S U (hS.trans (hU.mono hS.size))
                      have xsS2 := fun U (hU : Below V.heap.size V U) => xsS U (hS.trans (hU.mono hS.size))
                      have ysS2 := fun U (hU : Below V.heap.size V U) => ysS U (hS.trans (hU.mono hS.size))
                      obtain ⟨E3, hE3⟩ : ∃ E, E = (y.sw == x.sw) := ⟨_, rfl⟩
                      have HE3 := Lib.hid hE3
                      have hE3' := hE3.symm
                      clear hE3
                      refine wp_region_held_drew (S := fun w' => Below V.heap.size V w') (by kernel_rfl) (Below.refl _ V).drew (fun hS2 => ?_)
                      refine held_pure (i := 0) (oi := ⟨some 104, _, _, _, _, _⟩) rfl (by kernel_rfl) (by kernel_rfl) (by kernel_rfl) (fun _ _ _ h => h) (by rfl) (v := ?_) (fun w hSw => ?_) hS2 (fun hS2 => ?_)
                      rotate_left
                      · go_simp; try with_reducible rfl
                      try go_frame
                      refine held_pure (i := 1) (oi := ⟨some 105, _, _, _, _, _⟩) rfl (by kernel_rfl) (by kernel_rfl) (by kernel_rfl) (fun _ _ _ h => h) (by rfl) (fun w hSw => ld_slS rfl rfl (c3S2 _ hSw)) hS2 (fun hS2 => ?_)
                      try go_frame
                      refine held_pure (i := 2) (oi := ⟨some 106, _, _, _, _, _⟩) rfl (by kernel_rfl) (by kernel_rfl) (by kernel_rfl) (fun _ _ _ h => h) (by rfl) (v := ?_) (fun w hSw => ?_) hS2 (fun hS2 => ?_)
                      rotate_left
                      · go_simp; try with_reducible rfl
                      try go_frame
                      refine held_pure (i := 3) (oi := ⟨some 107, _, _, _, _, _⟩) rfl (by kernel_rfl) (by kernel_rfl) (by kernel_rfl) (fun _ _ _ h => h) (by rfl) (v := ?_) (fun w hSw => ?_) hS2 (fun hS2 => ?_)
                      rotate_left
                      · go_simp; try with_reducible rfl
                      try go_frame
                      refine held_pure (i := 4) (oi := ⟨some 108, _, _, _, _, _⟩) rfl (by kernel_rfl) (by kernel_rfl) (by kernel_rfl) (fun _ _ _ h => h) (by rfl) (v := ?_) (fun w hSw => ?_) hS2 (fun hS2 => ?_)
                      rotate_left
                      · go_simp; try with_reducible rfl
                      try go_frame
                      refine held_pure (i := 5) (oi := ⟨some 109, _, _, _, _, _⟩) rfl (by kernel_rfl) (by kernel_rfl) (by kernel_rfl) (fun _ _ _ h => h) (by rfl) (v := ?_) (fun w hSw => ?_) hS2 (fun hS2 => ?_)
                      rotate_left
                      · go_simp; try with_reducible rfl
                      try go_frame
                      refine held_pure (i := 6) (oi := ⟨some 110, _, _, _, _, _⟩) rfl (by kernel_rfl) (by kernel_rfl) (by kernel_rfl) (fun _ _ _ h => h) (by rfl) (fun w hSw => run_load_int rfl rfl (ysS2 _ hSw)) hS2 (fun hS2 => ?_)
                      try go_frame
                      refine held_pure (i := 7) (oi := ⟨some 111, _, _, _, _, _⟩) rfl (by kernel_rfl) (by kernel_rfl) (by kernel_rfl) (fun _ _ _ h => h) (by rfl) (v := ?_) (fun w hSw => ?_) hS2 (fun hS2 => ?_)
                      rotate_left
                      · go_simp; try with_reducible rfl
                      try go_frame
                      refine held_pure (i := 8) (oi := ⟨some 112, _, _, _, _, _⟩) rfl (by kernel_rfl) (by kernel_rfl) (by kernel_rfl) (fun _ _ _ h => h) (by rfl) (fun w hSw => ld_slS rfl rfl (c3S2 _ hSw)) hS2 (fun hS2 => ?_)
                      try go_frame
                      refine held_pure (i := 9) (oi := ⟨some 113, _, _, _, _, _⟩) rfl (by kernel_rfl) (by kernel_rfl) (by kernel_rfl) (fun _ _ _ h => h) (by rfl) (v := ?_) (fun w hSw => ?_) hS2 (fun hS2 => ?_)
                      rotate_left
                      · go_simp; try with_reducible rfl
                      try go_frame
                      refine held_pure (i := 10) (oi := ⟨some 114, _, _, _, _, _⟩) rfl (by kernel_rfl) (by kernel_rfl) (by kernel_rfl) (fun _ _ _ h => h) (by rfl) (v := ?_) (fun w hSw => ?_) hS2 (fun hS2 => ?_)
                      rotate_left
                      · go_simp; try with_reducible rfl
                      try go_frame
                      refine held_pure (i := 11) (oi := ⟨some 115, _, _, _, _, _⟩) rfl (by kernel_rfl) (by kernel_rfl) (by kernel_rfl) (fun _ _ _ h => h) (by rfl) (v := ?_) (fun w hSw => ?_) hS2 (fun hS2 => ?_)
                      rotate_left
                      · go_simp; try with_reducible rfl
                      try go_frame
                      refine held_pure (i := 12) (oi := ⟨some 116, _, _, _, _, _⟩) rfl (by kernel_rfl) (by kernel_rfl) (by kernel_rfl) (fun _ _ _ h => h) (by rfl) (v := ?_) (fun w hSw => ?_) hS2 (fun hS2 => ?_)
                      rotate_left
                      · go_simp; try with_reducible rfl
                      try go_frame
                      refine held_pure (i := 13) (oi := ⟨some 117, _, _, _, _, _⟩) rfl (by kernel_rfl) (by kernel_rfl) (by kernel_rfl) (fun _ _ _ h => h) (by rfl) (fun w hSw => run_load_int rfl rfl (xsS2 _ hSw)) hS2 (fun hS2 => ?_)
                      try go_frame
                      refine held_pure (i := 14) (oi := ⟨some 118, _, _, _, _, _⟩) rfl (by kernel_rfl) (by kernel_rfl) (by kernel_rfl) (fun _ _ _ h => h) (by rfl) (v := .bool E3) (fun w hSw => by go_simp; try (rw [← HE3.out])) hS2 (fun hS2 => ?_)
                      try go_frame
                      refine wpAnyH_done (by kernel_rfl) ?_ _
                      clear hE3'
                      cases E3 with
                      | true =>
                        go_wp2_with fail
                        go_roundw
                        case rel => exact ⟨k + 1, by omega, by simp, congrArg (Value.int .i64) (by rw [take_snoc _ _ _ HYs.out, List.count_append, ← HCN.out, show y.sw = x.sw by simpa using HE3.out.symm]; simp; omega), Lib.hid (by rw [take_snoc _ _ _ HYi.out, take_snoc _ _ _ HYo.out]; exact ⟨not_mem_snoc HK.out.1 (of_decide_eq_false HE1.out.symm), not_mem_snoc HK.out.2 (of_decide_eq_false HE2.out.symm)⟩), Lib.hid ((hBy.more hS).more hS2)⟩
                        case measure => simp [intOf]; omega
                      | false =>
                        go_wp2_with fail
                        go_roundw
                        case rel => exact ⟨k + 1, by omega, by simp, congrArg (Value.int .i64) (by rw [take_snoc _ _ _ HYs.out, List.count_append, ← HCN.out, List.count_eq_zero_of_not_mem (by simp; exact fun e => absurd HE3.out.symm (by simp [e]))]; simp), Lib.hid (by rw [take_snoc _ _ _ HYi.out, take_snoc _ _ _ HYo.out]; exact ⟨not_mem_snoc HK.out.1 (of_decide_eq_false HE1.out.symm), not_mem_snoc HK.out.2 (of_decide_eq_false HE2.out.symm)⟩), Lib.hid ((hBy.more hS).more hS2)⟩
                        case measure => simp [intOf]; omega
                · obtain rfl : k = i := by omega
                  have HXi : Hid ((q.stat.map inS)[k]? = some (inS x)) := Lib.hid (by rw [List.getElem?_map, hx]; rfl)
                  have HXo : Hid ((q.stat.map ouS)[k]? = some (ouS x)) := Lib.hid (by rw [List.getElem?_map, hx]; rfl)
                  have HXs : Hid ((q.stat.map Sta.sw)[k]? = some x.sw) := Lib.hid (by rw [List.getElem?_map, hx]; rfl)
                  have HCX : Hid (((q.stat.map Sta.sw).take (k + 1)).count x.sw = cn + 1) := Lib.hid (by rw [take_snoc _ _ _ HXs.out, List.count_append, ← HCN.out]; simp)
                  clear hx ea hrows hrx
                  by_cases hq : q.quota < 1 + (cn : Int)
                  · have HM : Hid (manyS q) := Lib.hid ⟨x.sw, by
                      have h1 := HCX.out
                      have h2 : ((q.stat.map Sta.sw).take (k + 1)).count x.sw ≤ (q.stat.map Sta.sw).count x.sw := (List.take_sublist _ _).count_le _
                      omega⟩
                    go_wp2
                    go_ret
                    exact ⟨ret_bool (by rw [twB_5 HM.out]), hBy.bel⟩
                  · have HNQ := Lib.hid hq
                    go_wp2
                    go_roundw
                    case rel =>
                      refine ⟨k + 1, by omega, by simp, Lib.hid ⟨?_, ?_, fun z => ?_⟩, HBr⟩
                      · rw [take_snoc _ _ _ HXi.out]; exact (nodup_snoc _ _).2 ⟨HA.out.1, HK.out.1⟩
                      · rw [take_snoc _ _ _ HXo.out]; exact (nodup_snoc _ _).2 ⟨HA.out.2.1, HK.out.2⟩
                      · by_cases hz2 : z = x.sw
                        · have h1 := HCX.out
                          have h2 := HNQ.out
                          rw [hz2]; omega
                        · have h3 := HA.out.2.2 z
                          rw [take_snoc _ _ _ HXs.out, List.count_append, List.count_eq_zero_of_not_mem (a := z) (l := [x.sw]) (fun hm2 => hz2 (List.mem_singleton.1 hm2)), Nat.add_zero]
                          exact h3
                    case measure => simp [intOf]; omega
            · obtain rfl : n3 = i := by omega
              have hA3 := HA.out
              have tk : ∀ {K : Type} (f : Sta → K), (q.stat.map f).take n3 = q.stat.map f := fun f => List.take_of_length_le (by rw [List.length_map, ← N3.out]; exact Nat.le_refl _)
              rw [tk, tk, tk] at hA3
              have HF : Hid (twB q = false) := Lib.hid (twB_no HA1.out HA2.out hA3.1 hA3.2.1 (fun ⟨z, hz3⟩ => by have := hA3.2.2 z; omega))
              clear hA3 HA
              go_wp2
              go_ret
              exact ⟨ret_bool HF.out.symm, hBz.bel⟩
end Go.Proofs.Ytogidfagkgccmaa

/-
  Check and Wait of the code of layer 20. Conditions are each theorem's own.
-/
namespace Go.Proofs.Ytogidfagkgccmaa
open Go.RowKit Go.Shelf
theorem chk_code (q : Cfg) : (if adC q && nuC q && stsC q then (if (decide ((mx (q.aftr :: q.sws) : Nat) > (1 : Int)) || decide ((mx q.pool : Nat) > (1 : Int))) || (decide ((mx (q.stat.map inS) : Nat) > (1 : Int)) || decide ((mx (q.stat.map ouS) : Nat) > (1 : Int))) || decide ((mx (q.stat.map Sta.sw) : Int) > q.quota) then (9 : Int) else 0) else 1) = chkB q := by
  rw [all_code, chkB]
  by_cases h : (numB q && lisB q) = true
  · rw [if_pos h, if_pos h]
    have hq : 0 ≤ q.quota := by
      simp only [numB, inn, Bool.and_eq_true, decide_eq_true_eq] at h
      omega
    have := two_code q hq
    rw [← this]
  · rw [if_neg h, if_neg h]
set_option maxRecDepth 100000 in
set_option maxHeartbeats 2000000 in
theorem c20check (q : Cfg) (B : Nat) (w : World) (hq : Fits q) (hm : MemC w B q) (hB : B ≤ w.heap.size) :
    Calls Try.prog 37 #[.agg (cfa q)] w fun e w' => e = .returned (.int .i64 (chkB q)) ∧ Below w.heap.size w w' := by
  have HR0 := Lib.hid (chk_code q)
  have hW0 := BoxC.mk' w q
  generalize hWW : w.alloc (.cells (cfa q) 74) = W at hW0
  have hcl : (cfl q).length = 36 := cfl_len hq.aftr
  have hz := hW0.lt
  have a16 := hq.aftr
  have hm0 := hW0.mem hm hB
  have hB0 := Nat.le_trans hB hW0.bel.size
  rcases h0 : adC q with _ | _
  · have H0 := Lib.hid h0
    clear h0
    have HR : Hid (chkB q = 1) := Lib.hid (by rw [← HR0.out, H0.out]; rfl)
    go_enter Try.func37, Try.ntmps37
    go_upto_region 1 with fail
    try rw [hWW]
    clear hWW
    go_wp2_with (first
      | ((with_reducible show wpList _ _ _ (Oper.mk _ (Op.load 74 _) _ _ _ _ :: _) _ _); refine wpList_val rfl (ld_cfg rfl rfl hW0.at_ hcl) ?_)
      | (go_at_call 80; refine (c20ad q B W hq hm0 hB0).mono ?_; rintro e w1 ⟨rfl, b1⟩; rw [H0.out]; have hW1 := hW0.more b1; have hm1 := hW1.mem hm hB; have hB1 := Nat.le_trans hB hW1.bel.size))
    go_ret
    exact ⟨by rw [HR.out]; rfl, hW1.bel⟩
  · have H0 := Lib.hid h0
    clear h0
    rcases h1 : nuC q with _ | _
    · have H1 := Lib.hid h1
      clear h1
      have HR : Hid (chkB q = 1) := Lib.hid (by rw [← HR0.out, H0.out, H1.out]; rfl)
      go_enter Try.func37, Try.ntmps37
      go_upto_region 1 with fail
      try rw [hWW]
      clear hWW
      go_wp2_with (first
        | ((with_reducible show wpList _ _ _ (Oper.mk _ (Op.load 74 _) _ _ _ _ :: _) _ _); refine wpList_val rfl (ld_cfg rfl rfl hW1.at_ hcl) ?_)
        | ((with_reducible show wpList _ _ _ (Oper.mk _ (Op.load 74 _) _ _ _ _ :: _) _ _); refine wpList_val rfl (ld_cfg rfl rfl hW0.at_ hcl) ?_)
        | (go_at_call 81; refine (c20nu q w1 hq).mono ?_; rintro e w2 ⟨rfl, b2⟩; rw [H1.out]; have hW2 := hW1.more b2; have hm2 := hW2.mem hm hB; have hB2 := Nat.le_trans hB hW2.bel.size)
        | (go_at_call 80; refine (c20ad q B W hq hm0 hB0).mono ?_; rintro e w1 ⟨rfl, b1⟩; rw [H0.out]; have hW1 := hW0.more b1; have hm1 := hW1.mem hm hB; have hB1 := Nat.le_trans hB hW1.bel.size))
      go_ret
      exact ⟨by rw [HR.out]; rfl, hW2.bel⟩
    · have H1 := Lib.hid h1
      clear h1
      rcases h2 : stsC q with _ | _
      · have H2 := Lib.hid h2
        clear h2
        have HR : Hid (chkB q = 1) := Lib.hid (by rw [← HR0.out, H0.out, H1.out, H2.out]; rfl)
        go_enter Try.func37, Try.ntmps37
        go_upto_region 1 with fail
        try rw [hWW]
        clear hWW
        go_wp2_with (first
          | ((with_reducible show wpList _ _ _ (Oper.mk _ (Op.load 74 _) _ _ _ _ :: _) _ _); refine wpList_val rfl (ld_cfg rfl rfl hW2.at_ hcl) ?_)
          | ((with_reducible show wpList _ _ _ (Oper.mk _ (Op.load 74 _) _ _ _ _ :: _) _ _); refine wpList_val rfl (ld_cfg rfl rfl hW1.at_ hcl) ?_)
          | ((with_reducible show wpList _ _ _ (Oper.mk _ (Op.load 74 _) _ _ _ _ :: _) _ _); refine wpList_val rfl (ld_cfg rfl rfl hW0.at_ hcl) ?_)
          | (go_at_call 82; refine (c20sts q B w2 hq hm2 hB2).mono ?_; rintro e w3 ⟨rfl, b3⟩; rw [H2.out]; have hW3 := hW2.more b3; have hm3 := hW3.mem hm hB; have hB3 := Nat.le_trans hB hW3.bel.size)
          | (go_at_call 81; refine (c20nu q w1 hq).mono ?_; rintro e w2 ⟨rfl, b2⟩; rw [H1.out]; have hW2 := hW1.more b2; have hm2 := hW2.mem hm hB; have hB2 := Nat.le_trans hB hW2.bel.size)
          | (go_at_call 80; refine (c20ad q B W hq hm0 hB0).mono ?_; rintro e w1 ⟨rfl, b1⟩; rw [H0.out]; have hW1 := hW0.more b1; have hm1 := hW1.mem hm hB; have hB1 := Nat.le_trans hB hW1.bel.size))
        go_ret
        exact ⟨by rw [HR.out]; rfl, hW3.bel⟩
      · have H2 := Lib.hid h2
        clear h2
        rcases h3 : (decide ((mx (q.aftr :: q.sws) : Nat) > (1 : Int)) || decide ((mx q.pool : Nat) > (1 : Int))) with _ | _
        rotate_left
        · have H3 := Lib.hid h3
          clear h3
          have HR : Hid (chkB q = 9) := Lib.hid (by rw [← HR0.out, H0.out, H1.out, H2.out, H3.out]; rfl)
          go_enter Try.func37, Try.ntmps37
          go_upto_region 1 with fail
          try rw [hWW]
          clear hWW
          go_wp2_with (first
            | ((with_reducible show wpList _ _ _ (Oper.mk _ (Op.load 74 _) _ _ _ _ :: _) _ _); refine wpList_val rfl (ld_cfg rfl rfl hW3.at_ hcl) ?_)
            | ((with_reducible show wpList _ _ _ (Oper.mk _ (Op.load 74 _) _ _ _ _ :: _) _ _); refine wpList_val rfl (ld_cfg rfl rfl hW2.at_ hcl) ?_)
            | ((with_reducible show wpList _ _ _ (Oper.mk _ (Op.load 74 _) _ _ _ _ :: _) _ _); refine wpList_val rfl (ld_cfg rfl rfl hW1.at_ hcl) ?_)
            | ((with_reducible show wpList _ _ _ (Oper.mk _ (Op.load 74 _) _ _ _ _ :: _) _ _); refine wpList_val rfl (ld_cfg rfl rfl hW0.at_ hcl) ?_)
            | (go_at_call 83; refine (c20adt q B w3 hq hm3 hB3).mono ?_; rintro e w4 ⟨rfl, b4⟩; rw [H3.out]; have hW4 := hW3.more b4; have hm4 := hW4.mem hm hB; have hB4 := Nat.le_trans hB hW4.bel.size)
            | (go_at_call 82; refine (c20sts q B w2 hq hm2 hB2).mono ?_; rintro e w3 ⟨rfl, b3⟩; rw [H2.out]; have hW3 := hW2.more b3; have hm3 := hW3.mem hm hB; have hB3 := Nat.le_trans hB hW3.bel.size)
            | (go_at_call 81; refine (c20nu q w1 hq).mono ?_; rintro e w2 ⟨rfl, b2⟩; rw [H1.out]; have hW2 := hW1.more b2; have hm2 := hW2.mem hm hB; have hB2 := Nat.le_trans hB hW2.bel.size)
            | (go_at_call 80; refine (c20ad q B W hq hm0 hB0).mono ?_; rintro e w1 ⟨rfl, b1⟩; rw [H0.out]; have hW1 := hW0.more b1; have hm1 := hW1.mem hm hB; have hB1 := Nat.le_trans hB hW1.bel.size))
          go_ret
          exact ⟨by rw [HR.out]; rfl, hW4.bel⟩
        · have H3 := Lib.hid h3
          clear h3
          rcases h4 : (decide ((mx (q.stat.map inS) : Nat) > (1 : Int)) || decide ((mx (q.stat.map ouS) : Nat) > (1 : Int))) with _ | _
          rotate_left
          · have H4 := Lib.hid h4
            clear h4
            have HR : Hid (chkB q = 9) := Lib.hid (by rw [← HR0.out, H0.out, H1.out, H2.out, H3.out, H4.out]; rfl)
            go_enter Try.func37, Try.ntmps37
            go_upto_region 1 with fail
            try rw [hWW]
            clear hWW
            go_wp2_with (first
              | ((with_reducible show wpList _ _ _ (Oper.mk _ (Op.load 74 _) _ _ _ _ :: _) _ _); refine wpList_val rfl (ld_cfg rfl rfl hW4.at_ hcl) ?_)
              | ((with_reducible show wpList _ _ _ (Oper.mk _ (Op.load 74 _) _ _ _ _ :: _) _ _); refine wpList_val rfl (ld_cfg rfl rfl hW3.at_ hcl) ?_)
              | ((with_reducible show wpList _ _ _ (Oper.mk _ (Op.load 74 _) _ _ _ _ :: _) _ _); refine wpList_val rfl (ld_cfg rfl rfl hW2.at_ hcl) ?_)
              | ((with_reducible show wpList _ _ _ (Oper.mk _ (Op.load 74 _) _ _ _ _ :: _) _ _); refine wpList_val rfl (ld_cfg rfl rfl hW1.at_ hcl) ?_)
              | ((with_reducible show wpList _ _ _ (Oper.mk _ (Op.load 74 _) _ _ _ _ :: _) _ _); refine wpList_val rfl (ld_cfg rfl rfl hW0.at_ hcl) ?_)
              | (go_at_call 84; refine (c20two q B w4 hq hm4 hB4).mono ?_; rintro e w5 ⟨rfl, b5⟩; rw [H4.out]; have hW5 := hW4.more b5; have hm5 := hW5.mem hm hB; have hB5 := Nat.le_trans hB hW5.bel.size)
              | (go_at_call 83; refine (c20adt q B w3 hq hm3 hB3).mono ?_; rintro e w4 ⟨rfl, b4⟩; rw [H3.out]; have hW4 := hW3.more b4; have hm4 := hW4.mem hm hB; have hB4 := Nat.le_trans hB hW4.bel.size)
              | (go_at_call 82; refine (c20sts q B w2 hq hm2 hB2).mono ?_; rintro e w3 ⟨rfl, b3⟩; rw [H2.out]; have hW3 := hW2.more b3; have hm3 := hW3.mem hm hB; have hB3 := Nat.le_trans hB hW3.bel.size)
              | (go_at_call 81; refine (c20nu q w1 hq).mono ?_; rintro e w2 ⟨rfl, b2⟩; rw [H1.out]; have hW2 := hW1.more b2; have hm2 := hW2.mem hm hB; have hB2 := Nat.le_trans hB hW2.bel.size)
              | (go_at_call 80; refine (c20ad q B W hq hm0 hB0).mono ?_; rintro e w1 ⟨rfl, b1⟩; rw [H0.out]; have hW1 := hW0.more b1; have hm1 := hW1.mem hm hB; have hB1 := Nat.le_trans hB hW1.bel.size))
            go_ret
            exact ⟨by rw [HR.out]; rfl, hW5.bel⟩
          · have H4 := Lib.hid h4
            clear h4
            rcases h5 : decide ((mx (q.stat.map Sta.sw) : Int) > q.quota) with _ | _
            rotate_left
            · have H5 := Lib.hid h5
              clear h5
              have HR : Hid (chkB q = 9) := Lib.hid (by rw [← HR0.out, H0.out, H1.out, H2.out, H3.out, H4.out, H5.out]; rfl)
              go_enter Try.func37, Try.ntmps37
              go_upto_region 1 with fail
              try rw [hWW]
              clear hWW
              go_wp2_with (first
                | ((with_reducible show wpList _ _ _ (Oper.mk _ (Op.load 74 _) _ _ _ _ :: _) _ _); refine wpList_val rfl (ld_cfg rfl rfl hW5.at_ hcl) ?_)
                | ((with_reducible show wpList _ _ _ (Oper.mk _ (Op.load 74 _) _ _ _ _ :: _) _ _); refine wpList_val rfl (ld_cfg rfl rfl hW4.at_ hcl) ?_)
                | ((with_reducible show wpList _ _ _ (Oper.mk _ (Op.load 74 _) _ _ _ _ :: _) _ _); refine wpList_val rfl (ld_cfg rfl rfl hW3.at_ hcl) ?_)
                | ((with_reducible show wpList _ _ _ (Oper.mk _ (Op.load 74 _) _ _ _ _ :: _) _ _); refine wpList_val rfl (ld_cfg rfl rfl hW2.at_ hcl) ?_)
                | ((with_reducible show wpList _ _ _ (Oper.mk _ (Op.load 74 _) _ _ _ _ :: _) _ _); refine wpList_val rfl (ld_cfg rfl rfl hW1.at_ hcl) ?_)
                | ((with_reducible show wpList _ _ _ (Oper.mk _ (Op.load 74 _) _ _ _ _ :: _) _ _); refine wpList_val rfl (ld_cfg rfl rfl hW0.at_ hcl) ?_)
                | (go_at_call 85; refine (c20many q B w5 hq hm5 hB5).mono ?_; rintro e w6 ⟨rfl, b6⟩; rw [H5.out]; have hW6 := hW5.more b6; have hm6 := hW6.mem hm hB; have hB6 := Nat.le_trans hB hW6.bel.size)
                | (go_at_call 84; refine (c20two q B w4 hq hm4 hB4).mono ?_; rintro e w5 ⟨rfl, b5⟩; rw [H4.out]; have hW5 := hW4.more b5; have hm5 := hW5.mem hm hB; have hB5 := Nat.le_trans hB hW5.bel.size)
                | (go_at_call 83; refine (c20adt q B w3 hq hm3 hB3).mono ?_; rintro e w4 ⟨rfl, b4⟩; rw [H3.out]; have hW4 := hW3.more b4; have hm4 := hW4.mem hm hB; have hB4 := Nat.le_trans hB hW4.bel.size)
                | (go_at_call 82; refine (c20sts q B w2 hq hm2 hB2).mono ?_; rintro e w3 ⟨rfl, b3⟩; rw [H2.out]; have hW3 := hW2.more b3; have hm3 := hW3.mem hm hB; have hB3 := Nat.le_trans hB hW3.bel.size)
                | (go_at_call 81; refine (c20nu q w1 hq).mono ?_; rintro e w2 ⟨rfl, b2⟩; rw [H1.out]; have hW2 := hW1.more b2; have hm2 := hW2.mem hm hB; have hB2 := Nat.le_trans hB hW2.bel.size)
                | (go_at_call 80; refine (c20ad q B W hq hm0 hB0).mono ?_; rintro e w1 ⟨rfl, b1⟩; rw [H0.out]; have hW1 := hW0.more b1; have hm1 := hW1.mem hm hB; have hB1 := Nat.le_trans hB hW1.bel.size))
              go_ret
              exact ⟨by rw [HR.out]; rfl, hW6.bel⟩
            · have H5 := Lib.hid h5
              clear h5
              have HR : Hid (chkB q = 0) := Lib.hid (by rw [← HR0.out, H0.out, H1.out, H2.out, H3.out, H4.out, H5.out]; rfl)
              go_enter Try.func37, Try.ntmps37
              go_upto_region 1 with fail
              try rw [hWW]
              clear hWW
              go_wp2_with (first
                | ((with_reducible show wpList _ _ _ (Oper.mk _ (Op.load 74 _) _ _ _ _ :: _) _ _); refine wpList_val rfl (ld_cfg rfl rfl hW5.at_ hcl) ?_)
                | ((with_reducible show wpList _ _ _ (Oper.mk _ (Op.load 74 _) _ _ _ _ :: _) _ _); refine wpList_val rfl (ld_cfg rfl rfl hW4.at_ hcl) ?_)
                | ((with_reducible show wpList _ _ _ (Oper.mk _ (Op.load 74 _) _ _ _ _ :: _) _ _); refine wpList_val rfl (ld_cfg rfl rfl hW3.at_ hcl) ?_)
                | ((with_reducible show wpList _ _ _ (Oper.mk _ (Op.load 74 _) _ _ _ _ :: _) _ _); refine wpList_val rfl (ld_cfg rfl rfl hW2.at_ hcl) ?_)
                | ((with_reducible show wpList _ _ _ (Oper.mk _ (Op.load 74 _) _ _ _ _ :: _) _ _); refine wpList_val rfl (ld_cfg rfl rfl hW1.at_ hcl) ?_)
                | ((with_reducible show wpList _ _ _ (Oper.mk _ (Op.load 74 _) _ _ _ _ :: _) _ _); refine wpList_val rfl (ld_cfg rfl rfl hW0.at_ hcl) ?_)
                | (go_at_call 85; refine (c20many q B w5 hq hm5 hB5).mono ?_; rintro e w6 ⟨rfl, b6⟩; rw [H5.out]; have hW6 := hW5.more b6; have hm6 := hW6.mem hm hB; have hB6 := Nat.le_trans hB hW6.bel.size)
                | (go_at_call 84; refine (c20two q B w4 hq hm4 hB4).mono ?_; rintro e w5 ⟨rfl, b5⟩; rw [H4.out]; have hW5 := hW4.more b5; have hm5 := hW5.mem hm hB; have hB5 := Nat.le_trans hB hW5.bel.size)
                | (go_at_call 83; refine (c20adt q B w3 hq hm3 hB3).mono ?_; rintro e w4 ⟨rfl, b4⟩; rw [H3.out]; have hW4 := hW3.more b4; have hm4 := hW4.mem hm hB; have hB4 := Nat.le_trans hB hW4.bel.size)
                | (go_at_call 82; refine (c20sts q B w2 hq hm2 hB2).mono ?_; rintro e w3 ⟨rfl, b3⟩; rw [H2.out]; have hW3 := hW2.more b3; have hm3 := hW3.mem hm hB; have hB3 := Nat.le_trans hB hW3.bel.size)
                | (go_at_call 81; refine (c20nu q w1 hq).mono ?_; rintro e w2 ⟨rfl, b2⟩; rw [H1.out]; have hW2 := hW1.more b2; have hm2 := hW2.mem hm hB; have hB2 := Nat.le_trans hB hW2.bel.size)
                | (go_at_call 80; refine (c20ad q B W hq hm0 hB0).mono ?_; rintro e w1 ⟨rfl, b1⟩; rw [H0.out]; have hW1 := hW0.more b1; have hm1 := hW1.mem hm hB; have hB1 := Nat.le_trans hB hW1.bel.size))
              go_ret
              exact ⟨by rw [HR.out]; rfl, hW6.bel⟩
set_option maxRecDepth 100000 in
theorem c20wait (p s : Int) (q : Cfg) (w : World) (hq : Fits q) : Calls Try.prog 39 #[.agg (cfa q), .int .i64 p, .int .i64 s] w fun e w' => e = .returned (.int .i64 (waitB q p s)) ∧ Below w.heap.size w w' := by
  have hW0 := BoxC.mk' w q
  generalize hWW : w.alloc (.cells (cfa q) 74) = W at hW0
  have hz := hW0.lt
  have a16 := hq.aftr
  have ku : W.cell? ⟨w.heap.size, 30, none⟩ = some (.int .i64 q.udp) := hW0.at_.at_ a16 (j := 14) rfl
  have kt : W.cell? ⟨w.heap.size, 31, none⟩ = some (.int .i64 q.tcp) := hW0.at_.at_ a16 (j := 15) rfl
  have kr : W.cell? ⟨w.heap.size, 32, none⟩ = some (.int .i64 q.trans) := hW0.at_.at_ a16 (j := 16) rfl
  have kq : W.cell? ⟨w.heap.size, 33, none⟩ = some (.int .i64 q.query) := hW0.at_.at_ a16 (j := 17) rfl
  have hbl := hW0.bel
  by_cases h17 : p = 17
  · have HR : Hid (waitB q p s = q.udp) := Lib.hid (by simp [waitB, h17])
    subst h17
    go_enter Try.func39, Try.ntmps39
    go_wp2
    go_ret
    exact ⟨by rw [HR.out]; rfl, hW0.bel⟩
  by_cases h1 : p = 1
  · have HR : Hid (waitB q p s = q.query) := Lib.hid (by simp [waitB, h1])
    subst h1
    go_enter Try.func39, Try.ntmps39
    go_wp2
    go_ret
    exact ⟨by rw [HR.out]; rfl, hW0.bel⟩
  have e1 : (p == 17) = false := by simpa using h17
  have e2 : (p == 1) = false := by simpa using h1
  by_cases h6 : p = 6
  · by_cases h3 : s = 3
    · have HR : Hid (waitB q p s = q.tcp) := Lib.hid (by simp [waitB, h6, h3])
      subst h6 h3
      go_enter Try.func39, Try.ntmps39
      go_wp2
      go_ret
      exact ⟨by rw [HR.out]; rfl, hW0.bel⟩
    · have HR : Hid (waitB q p s = q.trans) := Lib.hid (by simp [waitB, h6, h3])
      have e3 : (s == 3) = false := by simpa using h3
      subst h6
      go_enter Try.func39, Try.ntmps39
      go_wp2
      go_ret
      exact ⟨by rw [HR.out]; rfl, hW0.bel⟩
  · have HR : Hid (waitB q p s = 0) := Lib.hid (by simp [waitB, h17, h1, h6])
    have e4 : (p == 6) = false := by simpa using h6
    go_enter Try.func39, Try.ntmps39
    go_wp2
    go_ret
    exact ⟨by rw [HR.out]; rfl, hW0.bel⟩
set_option maxRecDepth 100000 in
theorem r20wait (p s : Int) (q : Cfg) (w : World) (hq : Fits q) : Calls Try.prog 40 #[.agg (cfa q), .int .i64 p, .int .i64 s] w fun e w' => e = .returned (.int .i64 (waitB q p s)) ∧ Below w.heap.size w w' := by
  have hW0 := BoxC.mk' w q
  generalize hWW : w.alloc (.cells (cfa q) 74) = W at hW0
  have hz := hW0.lt
  have a16 := hq.aftr
  have ku : W.cell? ⟨w.heap.size, 30, none⟩ = some (.int .i64 q.udp) := hW0.at_.at_ a16 (j := 14) rfl
  have kt : W.cell? ⟨w.heap.size, 31, none⟩ = some (.int .i64 q.tcp) := hW0.at_.at_ a16 (j := 15) rfl
  have kr : W.cell? ⟨w.heap.size, 32, none⟩ = some (.int .i64 q.trans) := hW0.at_.at_ a16 (j := 16) rfl
  have kq : W.cell? ⟨w.heap.size, 33, none⟩ = some (.int .i64 q.query) := hW0.at_.at_ a16 (j := 17) rfl
  have hbl := hW0.bel
  by_cases h17 : p = 17
  · have HR : Hid (waitB q p s = q.udp) := Lib.hid (by simp [waitB, h17])
    subst h17
    go_enter Try.func40, Try.ntmps40
    go_wp2
    go_ret
    exact ⟨by rw [HR.out]; rfl, hW0.bel⟩
  by_cases h1 : p = 1
  · have HR : Hid (waitB q p s = q.query) := Lib.hid (by simp [waitB, h1])
    subst h1
    go_enter Try.func40, Try.ntmps40
    go_wp2
    go_ret
    exact ⟨by rw [HR.out]; rfl, hW0.bel⟩
  have e1 : (p == 17) = false := by simpa using h17
  have e2 : (p == 1) = false := by simpa using h1
  by_cases h6 : p = 6
  · by_cases h3 : s = 3
    · have HR : Hid (waitB q p s = q.tcp) := Lib.hid (by simp [waitB, h6, h3])
      subst h6 h3
      go_enter Try.func40, Try.ntmps40
      go_wp2
      go_ret
      exact ⟨by rw [HR.out]; rfl, hW0.bel⟩
    · have HR : Hid (waitB q p s = q.trans) := Lib.hid (by simp [waitB, h6, h3])
      have e3 : (s == 3) = false := by simpa using h3
      subst h6
      go_enter Try.func40, Try.ntmps40
      go_wp2
      go_ret
      exact ⟨by rw [HR.out]; rfl, hW0.bel⟩
  · have HR : Hid (waitB q p s = 0) := Lib.hid (by simp [waitB, h17, h1, h6])
    have e4 : (p == 6) = false := by simpa using h6
    go_enter Try.func40, Try.ntmps40
    go_wp2
    go_ret
    exact ⟨by rw [HR.out]; rfl, hW0.bel⟩
end Go.Proofs.Ytogidfagkgccmaa
