/-
  Contracts and lemmas on which the proofs of this seat stand (several texts in one). Conditions are each theorem's own.
-/
import Derived.Test.YtogidfagkgccmaaCa5
import Derived.Deep.DeepCutAuto

/-
  The document's plain answers of layer 20: the numbers. Conditions are each theorem's own.
-/
namespace Go.Proofs.Ytogidfagkgccmaa
open Go.RowKit Go.Shelf
set_option maxRecDepth 100000 in
set_option maxHeartbeats 8000000 in
theorem r20numbers (q : Cfg) (w : World) (hq : Fits q) :
    Calls Try.prog 86 #[.agg (cfa q)] w fun e w' => e = .returned (.bool (numB q)) ∧ Below w.heap.size w w' := by
  have hW0 := BoxC.mk' w q
  generalize hWW : w.alloc (.cells (cfa q) 74) = W at hW0
  have hz := hW0.lt
  have a16 := hq.aftr
  have k_lo : W.cell? ⟨w.heap.size, 18, none⟩ = some (.int .i64 q.lo) := hW0.at_.at_ a16 (j := 2) rfl
  have k_hi : W.cell? ⟨w.heap.size, 19, none⟩ = some (.int .i64 q.hi) := hW0.at_.at_ a16 (j := 3) rfl
  have k_quota : W.cell? ⟨w.heap.size, 20, none⟩ = some (.int .i64 q.quota) := hW0.at_.at_ a16 (j := 4) rfl
  have k_binds : W.cell? ⟨w.heap.size, 21, none⟩ = some (.int .i64 q.binds) := hW0.at_.at_ a16 (j := 5) rfl
  have k_sess : W.cell? ⟨w.heap.size, 22, none⟩ = some (.int .i64 q.sess) := hW0.at_.at_ a16 (j := 6) rfl
  have k_bufs : W.cell? ⟨w.heap.size, 23, none⟩ = some (.int .i64 q.bufs) := hW0.at_.at_ a16 (j := 7) rfl
  have k_byts : W.cell? ⟨w.heap.size, 24, none⟩ = some (.int .i64 q.byts) := hW0.at_.at_ a16 (j := 8) rfl
  have k_tmtu : W.cell? ⟨w.heap.size, 25, none⟩ = some (.int .i64 q.tmtu) := hW0.at_.at_ a16 (j := 9) rfl
  have k_nmtu : W.cell? ⟨w.heap.size, 26, none⟩ = some (.int .i64 q.nmtu) := hW0.at_.at_ a16 (j := 10) rfl
  have k_hop : W.cell? ⟨w.heap.size, 27, none⟩ = some (.int .i64 q.hop) := hW0.at_.at_ a16 (j := 11) rfl
  have k_mss : W.cell? ⟨w.heap.size, 28, none⟩ = some (.int .i64 q.mss) := hW0.at_.at_ a16 (j := 12) rfl
  have k_filt : W.cell? ⟨w.heap.size, 29, none⟩ = some (.int .i64 q.filt) := hW0.at_.at_ a16 (j := 13) rfl
  have k_udp : W.cell? ⟨w.heap.size, 30, none⟩ = some (.int .i64 q.udp) := hW0.at_.at_ a16 (j := 14) rfl
  have k_tcp : W.cell? ⟨w.heap.size, 31, none⟩ = some (.int .i64 q.tcp) := hW0.at_.at_ a16 (j := 15) rfl
  have k_trans : W.cell? ⟨w.heap.size, 32, none⟩ = some (.int .i64 q.trans) := hW0.at_.at_ a16 (j := 16) rfl
  have k_query : W.cell? ⟨w.heap.size, 33, none⟩ = some (.int .i64 q.query) := hW0.at_.at_ a16 (j := 17) rfl
  have k_frag : W.cell? ⟨w.heap.size, 34, none⟩ = some (.int .i64 q.frag) := hW0.at_.at_ a16 (j := 18) rfl
  have hbel := hW0.bel
  clear hW0
  go_enter Try.func86, Try.ntmps86
  go_upto_region 1 with fail
  try rw [hWW]
  clear hWW
  go_cut [3] (fun s3 wx => s3 = .bool (inn q.quota 1 4096 && inn q.binds 1 4096 && inn q.sess 1 4096 && inn q.bufs 0 4096 && inn q.byts 0 67108864) ∧ wx = W)
  case first =>
    rcases h0 : inn q.quota 1 4096 with _ | _
    · have H0 := Lib.hid h0
      clear h0
      go_wp2_with (first
        | (go_at_call 137; refine (r20in _ _ _ _).mono ?_; rintro e w' ⟨rfl, rfl⟩; first | rw [H0.out]))
      all_goals try go_meet
      all_goals try (case rel => exact ⟨congrArg Value.bool (by rw [H0.out]; simp), rfl⟩)
      all_goals (have hbad : ∃ b, some undef = some (Value.bool b) := ⟨_, by assumption⟩)
      all_goals (obtain ⟨b, hb⟩ := hbad)
      all_goals (simp [undef] at hb)
    · have H0 := Lib.hid h0
      clear h0
      rcases h1 : inn q.binds 1 4096 with _ | _
      · have H1 := Lib.hid h1
        clear h1
        go_wp2_with (first
          | (go_at_call 137; refine (r20in _ _ _ _).mono ?_; rintro e w' ⟨rfl, rfl⟩; first | rw [H1.out] | rw [H0.out]))
        all_goals try go_meet
        all_goals try (case rel => exact ⟨congrArg Value.bool (by rw [H0.out, H1.out]; simp), rfl⟩)
        all_goals (have hbad : ∃ b, some undef = some (Value.bool b) := ⟨_, by assumption⟩)
        all_goals (obtain ⟨b, hb⟩ := hbad)
        all_goals (simp [undef] at hb)
      · have H1 := Lib.hid h1
        clear h1
        rcases h2 : inn q.sess 1 4096 with _ | _
        · have H2 := Lib.hid h2
          clear h2
          go_wp2_with (first
            | (go_at_call 137; refine (r20in _ _ _ _).mono ?_; rintro e w' ⟨rfl, rfl⟩; first | rw [H2.out] | rw [H1.out] | rw [H0.out]))
          all_goals try go_meet
          all_goals try (case rel => exact ⟨congrArg Value.bool (by rw [H0.out, H1.out, H2.out]; simp), rfl⟩)
          all_goals (have hbad : ∃ b, some undef = some (Value.bool b) := ⟨_, by assumption⟩)
          all_goals (obtain ⟨b, hb⟩ := hbad)
          all_goals (simp [undef] at hb)
        · have H2 := Lib.hid h2
          clear h2
          rcases h3 : inn q.bufs 0 4096 with _ | _
          · have H3 := Lib.hid h3
            clear h3
            go_wp2_with (first
              | (go_at_call 137; refine (r20in _ _ _ _).mono ?_; rintro e w' ⟨rfl, rfl⟩; first | rw [H3.out] | rw [H2.out] | rw [H1.out] | rw [H0.out]))
            all_goals try go_meet
            all_goals try (case rel => exact ⟨congrArg Value.bool (by rw [H0.out, H1.out, H2.out, H3.out]; simp), rfl⟩)
            all_goals (have hbad : ∃ b, some undef = some (Value.bool b) := ⟨_, by assumption⟩)
            all_goals (obtain ⟨b, hb⟩ := hbad)
            all_goals (simp [undef] at hb)
          · have H3 := Lib.hid h3
            clear h3
            rcases h4 : inn q.byts 0 67108864 with _ | _
            · have H4 := Lib.hid h4
              clear h4
              go_wp2_with (first
                | (go_at_call 137; refine (r20in _ _ _ _).mono ?_; rintro e w' ⟨rfl, rfl⟩; first | rw [H4.out] | rw [H3.out] | rw [H2.out] | rw [H1.out] | rw [H0.out]))
              all_goals try go_meet
              all_goals try (case rel => exact ⟨congrArg Value.bool (by rw [H0.out, H1.out, H2.out, H3.out, H4.out]; simp), rfl⟩)
              all_goals (have hbad : ∃ b, some undef = some (Value.bool b) := ⟨_, by assumption⟩)
              all_goals (obtain ⟨b, hb⟩ := hbad)
              all_goals (simp [undef] at hb)
            · have H4 := Lib.hid h4
              clear h4
              go_wp2_with (first
                | (go_at_call 137; refine (r20in _ _ _ _).mono ?_; rintro e w' ⟨rfl, rfl⟩; first | rw [H4.out] | rw [H3.out] | rw [H2.out] | rw [H1.out] | rw [H0.out]))
              all_goals try go_meet
              all_goals try (case rel => exact ⟨congrArg Value.bool (by rw [H0.out, H1.out, H2.out, H3.out, H4.out]; simp), rfl⟩)
              all_goals (have hbad : ∃ b, some undef = some (Value.bool b) := ⟨_, by assumption⟩)
              all_goals (obtain ⟨b, hb⟩ := hbad)
              all_goals (simp [undef] at hb)
  case rest =>
    obtain ⟨rfl, hwc⟩ := hcut
    subst hwc
    go_upto_region 2 with fail
    go_cut [4] (fun s4 wx => s4 = .bool (inn q.tmtu 1280 65535 && inn q.nmtu 1280 65535 && inn q.hop 1 255 && (decide (q.mss = 0) || inn q.mss 536 65535) && inn q.filt 0 2) ∧ wx = wc)
    case first =>
      rcases h0 : inn q.tmtu 1280 65535 with _ | _
      · have H0 := Lib.hid h0
        clear h0
        go_wp2_with (first
          | (go_at_call 137; refine (r20in _ _ _ _).mono ?_; rintro e w' ⟨rfl, rfl⟩; first | rw [H0.out]))
        all_goals try go_meet
        all_goals try (case rel => exact ⟨congrArg Value.bool (by rw [H0.out]; simp), rfl⟩)
        all_goals (have hbad : ∃ b, some undef = some (Value.bool b) := ⟨_, by assumption⟩)
        all_goals (obtain ⟨b, hb⟩ := hbad)
        all_goals (simp [undef] at hb)
      · have H0 := Lib.hid h0
        clear h0
        rcases h1 : inn q.nmtu 1280 65535 with _ | _
        · have H1 := Lib.hid h1
          clear h1
          go_wp2_with (first
            | (go_at_call 137; refine (r20in _ _ _ _).mono ?_; rintro e w' ⟨rfl, rfl⟩; first | rw [H1.out] | rw [H0.out]))
          all_goals try go_meet
          all_goals try (case rel => exact ⟨congrArg Value.bool (by rw [H0.out, H1.out]; simp), rfl⟩)
          all_goals (have hbad : ∃ b, some undef = some (Value.bool b) := ⟨_, by assumption⟩)
          all_goals (obtain ⟨b, hb⟩ := hbad)
          all_goals (simp [undef] at hb)
        · have H1 := Lib.hid h1
          clear h1
          rcases h2 : inn q.hop 1 255 with _ | _
          · have H2 := Lib.hid h2
            clear h2
            go_wp2_with (first
              | (go_at_call 137; refine (r20in _ _ _ _).mono ?_; rintro e w' ⟨rfl, rfl⟩; first | rw [H2.out] | rw [H1.out] | rw [H0.out]))
            all_goals try go_meet
            all_goals try (case rel => exact ⟨congrArg Value.bool (by rw [H0.out, H1.out, H2.out]; simp), rfl⟩)
            all_goals (have hbad : ∃ b, some undef = some (Value.bool b) := ⟨_, by assumption⟩)
            all_goals (obtain ⟨b, hb⟩ := hbad)
            all_goals (simp [undef] at hb)
          · have H2 := Lib.hid h2
            clear h2
            by_cases hm0 : q.mss = 0
            · have HM : Hid (decide (q.mss = 0) = true) := Lib.hid (decide_eq_true hm0)
              have hm1 : (q.mss == 0) = true := by simpa using hm0
              rcases h4 : inn q.filt 0 2 with _ | _
              · have H4 := Lib.hid h4
                clear h4
                rw [hm0] at k_mss
                go_wp2_with (first
                  | (go_at_call 137; refine (r20in _ _ _ _).mono ?_; rintro e w' ⟨rfl, rfl⟩; first | rw [H4.out] | rw [H2.out] | rw [H1.out] | rw [H0.out]))
                all_goals try go_meet
                all_goals try (case rel => exact ⟨congrArg Value.bool (by rw [H0.out, H1.out, H2.out, HM.out, H4.out]; simp), rfl⟩)
                all_goals (have hbad : ∃ b, some undef = some (Value.bool b) := ⟨_, by assumption⟩)
                all_goals (obtain ⟨b, hb⟩ := hbad)
                all_goals (simp [undef] at hb)
              · have H4 := Lib.hid h4
                clear h4
                rw [hm0] at k_mss
                go_wp2_with (first
                  | (go_at_call 137; refine (r20in _ _ _ _).mono ?_; rintro e w' ⟨rfl, rfl⟩; first | rw [H4.out] | rw [H2.out] | rw [H1.out] | rw [H0.out]))
                all_goals try go_meet
                all_goals try (case rel => exact ⟨congrArg Value.bool (by rw [H0.out, H1.out, H2.out, HM.out, H4.out]; simp), rfl⟩)
                all_goals (have hbad : ∃ b, some undef = some (Value.bool b) := ⟨_, by assumption⟩)
                all_goals (obtain ⟨b, hb⟩ := hbad)
                all_goals (simp [undef] at hb)
            · have HM : Hid (decide (q.mss = 0) = false) := Lib.hid (decide_eq_false hm0)
              have hm1 : (q.mss == 0) = false := by simpa using hm0
              rcases h3 : inn q.mss 536 65535 with _ | _
              · have H3 := Lib.hid h3
                clear h3
                go_wp2_with (first
                  | (go_at_call 137; refine (r20in _ _ _ _).mono ?_; rintro e w' ⟨rfl, rfl⟩; first | rw [H3.out] | rw [H2.out] | rw [H1.out] | rw [H0.out]))
                all_goals try go_meet
                all_goals try (case rel => exact ⟨congrArg Value.bool (by rw [H0.out, H1.out, H2.out, HM.out, H3.out]; simp), rfl⟩)
                all_goals (have hbad : ∃ b, some undef = some (Value.bool b) := ⟨_, by assumption⟩)
                all_goals (obtain ⟨b, hb⟩ := hbad)
                all_goals (simp [undef] at hb)
              · have H3 := Lib.hid h3
                clear h3
                rcases h4 : inn q.filt 0 2 with _ | _
                · have H4 := Lib.hid h4
                  clear h4
                  go_wp2_with (first
                    | (go_at_call 137; refine (r20in _ _ _ _).mono ?_; rintro e w' ⟨rfl, rfl⟩; first | rw [H4.out] | rw [H3.out] | rw [H2.out] | rw [H1.out] | rw [H0.out]))
                  all_goals try go_meet
                  all_goals try (case rel => exact ⟨congrArg Value.bool (by rw [H0.out, H1.out, H2.out, HM.out, H3.out, H4.out]; simp), rfl⟩)
                  all_goals (have hbad : ∃ b, some undef = some (Value.bool b) := ⟨_, by assumption⟩)
                  all_goals (obtain ⟨b, hb⟩ := hbad)
                  all_goals (simp [undef] at hb)
                · have H4 := Lib.hid h4
                  clear h4
                  go_wp2_with (first
                    | (go_at_call 137; refine (r20in _ _ _ _).mono ?_; rintro e w' ⟨rfl, rfl⟩; first | rw [H4.out] | rw [H3.out] | rw [H2.out] | rw [H1.out] | rw [H0.out]))
                  all_goals try go_meet
                  all_goals try (case rel => exact ⟨congrArg Value.bool (by rw [H0.out, H1.out, H2.out, HM.out, H3.out, H4.out]; simp), rfl⟩)
                  all_goals (have hbad : ∃ b, some undef = some (Value.bool b) := ⟨_, by assumption⟩)
                  all_goals (obtain ⟨b, hb⟩ := hbad)
                  all_goals (simp [undef] at hb)
    case rest =>
      obtain ⟨rfl, hwc⟩ := hcut
      subst hwc
      go_upto_region 3 with fail
      go_cut [5] (fun s5 wx => s5 = .bool (inn q.udp 120 1048576 && inn q.tcp 7440 1048576 && inn q.trans 240 1048576 && inn q.query 60 1048576 && inn q.frag 1 1048576) ∧ wx = wc)
      case first =>
        rcases h0 : inn q.udp 120 1048576 with _ | _
        · have H0 := Lib.hid h0
          clear h0
          go_wp2_with (first
            | (go_at_call 137; refine (r20in _ _ _ _).mono ?_; rintro e w' ⟨rfl, rfl⟩; first | rw [H0.out]))
          all_goals try go_meet
          all_goals try (case rel => exact ⟨congrArg Value.bool (by rw [H0.out]; simp), rfl⟩)
          all_goals (have hbad : ∃ b, some undef = some (Value.bool b) := ⟨_, by assumption⟩)
          all_goals (obtain ⟨b, hb⟩ := hbad)
          all_goals (simp [undef] at hb)
        · have H0 := Lib.hid h0
          clear h0
          rcases h1 : inn q.tcp 7440 1048576 with _ | _
          · have H1 := Lib.hid h1
            clear h1
            go_wp2_with (first
              | (go_at_call 137; refine (r20in _ _ _ _).mono ?_; rintro e w' ⟨rfl, rfl⟩; first | rw [H1.out] | rw [H0.out]))
            all_goals try go_meet
            all_goals try (case rel => exact ⟨congrArg Value.bool (by rw [H0.out, H1.out]; simp), rfl⟩)
            all_goals (have hbad : ∃ b, some undef = some (Value.bool b) := ⟨_, by assumption⟩)
            all_goals (obtain ⟨b, hb⟩ := hbad)
            all_goals (simp [undef] at hb)
          · have H1 := Lib.hid h1
            clear h1
            rcases h2 : inn q.trans 240 1048576 with _ | _
            · have H2 := Lib.hid h2
              clear h2
              go_wp2_with (first
                | (go_at_call 137; refine (r20in _ _ _ _).mono ?_; rintro e w' ⟨rfl, rfl⟩; first | rw [H2.out] | rw [H1.out] | rw [H0.out]))
              all_goals try go_meet
              all_goals try (case rel => exact ⟨congrArg Value.bool (by rw [H0.out, H1.out, H2.out]; simp), rfl⟩)
              all_goals (have hbad : ∃ b, some undef = some (Value.bool b) := ⟨_, by assumption⟩)
              all_goals (obtain ⟨b, hb⟩ := hbad)
              all_goals (simp [undef] at hb)
            · have H2 := Lib.hid h2
              clear h2
              rcases h3 : inn q.query 60 1048576 with _ | _
              · have H3 := Lib.hid h3
                clear h3
                go_wp2_with (first
                  | (go_at_call 137; refine (r20in _ _ _ _).mono ?_; rintro e w' ⟨rfl, rfl⟩; first | rw [H3.out] | rw [H2.out] | rw [H1.out] | rw [H0.out]))
                all_goals try go_meet
                all_goals try (case rel => exact ⟨congrArg Value.bool (by rw [H0.out, H1.out, H2.out, H3.out]; simp), rfl⟩)
                all_goals (have hbad : ∃ b, some undef = some (Value.bool b) := ⟨_, by assumption⟩)
                all_goals (obtain ⟨b, hb⟩ := hbad)
                all_goals (simp [undef] at hb)
              · have H3 := Lib.hid h3
                clear h3
                rcases h4 : inn q.frag 1 1048576 with _ | _
                · have H4 := Lib.hid h4
                  clear h4
                  go_wp2_with (first
                    | (go_at_call 137; refine (r20in _ _ _ _).mono ?_; rintro e w' ⟨rfl, rfl⟩; first | rw [H4.out] | rw [H3.out] | rw [H2.out] | rw [H1.out] | rw [H0.out]))
                  all_goals try go_meet
                  all_goals try (case rel => exact ⟨congrArg Value.bool (by rw [H0.out, H1.out, H2.out, H3.out, H4.out]; simp), rfl⟩)
                  all_goals (have hbad : ∃ b, some undef = some (Value.bool b) := ⟨_, by assumption⟩)
                  all_goals (obtain ⟨b, hb⟩ := hbad)
                  all_goals (simp [undef] at hb)
                · have H4 := Lib.hid h4
                  clear h4
                  go_wp2_with (first
                    | (go_at_call 137; refine (r20in _ _ _ _).mono ?_; rintro e w' ⟨rfl, rfl⟩; first | rw [H4.out] | rw [H3.out] | rw [H2.out] | rw [H1.out] | rw [H0.out]))
                  all_goals try go_meet
                  all_goals try (case rel => exact ⟨congrArg Value.bool (by rw [H0.out, H1.out, H2.out, H3.out, H4.out]; simp), rfl⟩)
                  all_goals (have hbad : ∃ b, some undef = some (Value.bool b) := ⟨_, by assumption⟩)
                  all_goals (obtain ⟨b, hb⟩ := hbad)
                  all_goals (simp [undef] at hb)
      case rest =>
        obtain ⟨rfl, hwc⟩ := hcut
        subst hwc
        have HN : Hid (numB q = ((inn q.quota 1 4096 && inn q.binds 1 4096 && inn q.sess 1 4096 && inn q.bufs 0 4096 && inn q.byts 0 67108864) && (inn q.tmtu 1280 65535 && inn q.nmtu 1280 65535 && inn q.hop 1 255 && (decide (q.mss = 0) || inn q.mss 536 65535) && inn q.filt 0 2) && (inn q.udp 120 1048576 && inn q.tcp 7440 1048576 && inn q.trans 240 1048576 && inn q.query 60 1048576 && inn q.frag 1 1048576) && inn q.lo 1 65535 && inn q.hi q.lo 65535)) := Lib.hid rfl
        generalize (inn q.quota 1 4096 && inn q.binds 1 4096 && inn q.sess 1 4096 && inn q.bufs 0 4096 && inn q.byts 0 67108864) = B1 at *
        generalize (inn q.tmtu 1280 65535 && inn q.nmtu 1280 65535 && inn q.hop 1 255 && (decide (q.mss = 0) || inn q.mss 536 65535) && inn q.filt 0 2) = B2 at *
        generalize (inn q.udp 120 1048576 && inn q.tcp 7440 1048576 && inn q.trans 240 1048576 && inn q.query 60 1048576 && inn q.frag 1 1048576) = B3 at *
        cases B1 with
        | false =>
          go_wp2_with (first
            | (go_at_call 137; refine (r20in _ _ _ _).mono ?_; rintro e w' ⟨rfl, rfl⟩; skip))
          all_goals try (go_ret; exact ⟨ret_bool (by rw [HN.out]; rfl), hbel⟩)
          all_goals (have hbad : ∃ b, some undef = some (Value.bool b) := ⟨_, by assumption⟩)
          all_goals (obtain ⟨b, hb⟩ := hbad)
          all_goals (simp [undef] at hb)
        | true =>
          cases B2 with
          | false =>
            go_wp2_with (first
              | (go_at_call 137; refine (r20in _ _ _ _).mono ?_; rintro e w' ⟨rfl, rfl⟩; skip))
            all_goals try (go_ret; exact ⟨ret_bool (by rw [HN.out]; rfl), hbel⟩)
            all_goals (have hbad : ∃ b, some undef = some (Value.bool b) := ⟨_, by assumption⟩)
            all_goals (obtain ⟨b, hb⟩ := hbad)
            all_goals (simp [undef] at hb)
          | true =>
            cases B3 with
            | false =>
              go_wp2_with (first
                | (go_at_call 137; refine (r20in _ _ _ _).mono ?_; rintro e w' ⟨rfl, rfl⟩; skip))
              all_goals try (go_ret; exact ⟨ret_bool (by rw [HN.out]; rfl), hbel⟩)
              all_goals (have hbad : ∃ b, some undef = some (Value.bool b) := ⟨_, by assumption⟩)
              all_goals (obtain ⟨b, hb⟩ := hbad)
              all_goals (simp [undef] at hb)
            | true =>
              rcases h0 : inn q.lo 1 65535 with _ | _
              · have H0 := Lib.hid h0
                clear h0
                go_wp2_with (first
                  | (go_at_call 137; refine (r20in _ _ _ _).mono ?_; rintro e w' ⟨rfl, rfl⟩; first | rw [H0.out]))
                all_goals try (go_ret; exact ⟨ret_bool (by rw [HN.out, H0.out]; rfl), hbel⟩)
                all_goals (have hbad : ∃ b, some undef = some (Value.bool b) := ⟨_, by assumption⟩)
                all_goals (obtain ⟨b, hb⟩ := hbad)
                all_goals (simp [undef] at hb)
              · have H0 := Lib.hid h0
                clear h0
                rcases h1 : inn q.hi q.lo 65535 with _ | _
                · have H1 := Lib.hid h1
                  clear h1
                  go_wp2_with (first
                    | (go_at_call 137; refine (r20in _ _ _ _).mono ?_; rintro e w' ⟨rfl, rfl⟩; first | rw [H1.out] | rw [H0.out]))
                  all_goals try (go_ret; exact ⟨ret_bool (by rw [HN.out, H0.out, H1.out]; rfl), hbel⟩)
                  all_goals (have hbad : ∃ b, some undef = some (Value.bool b) := ⟨_, by assumption⟩)
                  all_goals (obtain ⟨b, hb⟩ := hbad)
                  all_goals (simp [undef] at hb)
                · have H1 := Lib.hid h1
                  clear h1
                  go_wp2_with (first
                    | (go_at_call 137; refine (r20in _ _ _ _).mono ?_; rintro e w' ⟨rfl, rfl⟩; first | rw [H1.out] | rw [H0.out]))
                  all_goals try (go_ret; exact ⟨ret_bool (by rw [HN.out, H0.out, H1.out]; rfl), hbel⟩)
                  all_goals (have hbad : ∃ b, some undef = some (Value.bool b) := ⟨_, by assumption⟩)
                  all_goals (obtain ⟨b, hb⟩ := hbad)
                  all_goals (simp [undef] at hb)
end Go.Proofs.Ytogidfagkgccmaa

/-
  The bindings that the code of layer 20 asks for. Conditions are each theorem's own.
-/
namespace Go.Proofs.Ytogidfagkgccmaa
open Go.RowKit Go.Shelf
set_option maxRecDepth 100000 in
set_option maxHeartbeats 4000000 in
theorem c20st (s : Sta) (q : Cfg) (B : Nat) (w : World) (hq : Fits q) (hm : MemC w B q) (hB : B ≤ w.heap.size) :
    Calls Try.prog 126 #[.agg (cfa q), .agg (clS s).toArray] w fun e w' => e = .returned (.bool (stC q s)) ∧ Below w.heap.size w w' := by
  have hW00 := BoxC.mk' w q
  have hW01 : Below (w.alloc (.cells (cfa q) 74)).heap.size (w.alloc (.cells (cfa q) 74)) ((w.alloc (.cells (cfa q) 74)).alloc (.cells (clS s).toArray 191)) := (Below.refl _ _).alloc (Nat.le_refl _) _
  have hS0 := AtNew (w := w.alloc (.cells (cfa q) 74)) (cs := clS s) (t := 191)
  have hz1 : w.heap.size + 1 < ((w.alloc (.cells (cfa q) 74)).alloc (.cells (clS s).toArray 191)).heap.size := by simp
  rw [World.size_alloc] at hS0
  have hW0 := hW00.more hW01
  clear hW00 hW01
  generalize hCS : (clS s).toArray = CS at *
  generalize hWW : (w.alloc (.cells (cfa q) 74)).alloc (.cells CS 191) = W at hW0 hS0 hz1
  have hz := hW0.lt
  have a16 := hq.aftr
  have l1 := hq.n1
  have l2 := hq.n2
  have k1 : W.cell? ⟨w.heap.size, 16, none⟩ = some (.slice q.A1 q.sws.length q.c1) := hW0.at_.at_ a16 (j := 0) rfl
  have k2 : W.cell? ⟨w.heap.size, 17, none⟩ = some (.slice q.A2 q.pool.length q.c2) := hW0.at_.at_ a16 (j := 1) rfl
  have s0 : W.cell? ⟨w.heap.size + 1, 0, none⟩ = some (.int .i64 s.sw) := hS0 0 _ rfl
  have s1 : W.cell? ⟨w.heap.size + 1, 1, none⟩ = some (.int .i64 s.pr) := hS0 1 _ rfl
  have s2 : W.cell? ⟨w.heap.size + 1, 2, none⟩ = some (.int .i64 s.ad) := hS0 2 _ rfl
  have s3 : W.cell? ⟨w.heap.size + 1, 3, none⟩ = some (.int .i64 s.po) := hS0 3 _ rfl
  have s4 : W.cell? ⟨w.heap.size + 1, 4, none⟩ = some (.int .i64 s.qr) := hS0 4 _ rfl
  have s5 : W.cell? ⟨w.heap.size + 1, 5, none⟩ = some (.int .i64 s.qa) := hS0 5 _ rfl
  have s6 : W.cell? ⟨w.heap.size + 1, 6, none⟩ = some (.int .i64 s.qo) := hS0 6 _ rfl
  rcases h0 : [(⟨s.sw, 0, (q.sws.length : Int) - 1⟩ : Bnd), ⟨s.po, 0, 65535⟩, ⟨s.qo, 0, 65535⟩].all inB3 with _ | _
  · have H0 := Lib.hid h0
    have HR : Hid (stC q s = false) := Lib.hid (by rw [show stC q s = ([(⟨s.sw, 0, (q.sws.length : Int) - 1⟩ : Bnd), ⟨s.po, 0, 65535⟩, ⟨s.qo, 0, 65535⟩].all inB3 && protoB s.pr && (s.pr == s.qr) && hostB s.ad && hasI q.pool s.qa) by simp [stC, inB3, hasI, Bool.and_assoc]; rfl, H0.out]; simp)
    clear h0
    go_enter Try.func126, Try.ntmps126
    go_upto_region 1 with fail
    try rw [hWW]
    clear hWW
    go_wp2_with (first
      | (go_at_call 121; refine (c20within W.heap.size [⟨s.sw, 0, (q.sws.length : Int) - 1⟩, ⟨s.po, 0, 65535⟩, ⟨s.qo, 0, 65535⟩] _ 3 rfl (newB W _ _ rfl) (by simp) (by simp)).mono ?_; rintro e w1 ⟨rfl, b1'⟩; rw [H0.out]; have b1 : Below W.heap.size W w1 := ((Below.refl _ W).alloc (Nat.le_refl _) _).trans (b1'.mono (by simp)); clear b1'; have hW1 := hW0.more b1; have k2' := (b1.cell (p := ⟨w.heap.size, 17, none⟩) hW0.lt).trans k2; have s0' := (b1.cell (p := ⟨w.heap.size + 1, 0, none⟩) hz1).trans s0; have s1' := (b1.cell (p := ⟨w.heap.size + 1, 1, none⟩) hz1).trans s1; have s2' := (b1.cell (p := ⟨w.heap.size + 1, 2, none⟩) hz1).trans s2; have s3' := (b1.cell (p := ⟨w.heap.size + 1, 3, none⟩) hz1).trans s3; have s4' := (b1.cell (p := ⟨w.heap.size + 1, 4, none⟩) hz1).trans s4; have s5' := (b1.cell (p := ⟨w.heap.size + 1, 5, none⟩) hz1).trans s5; have s6' := (b1.cell (p := ⟨w.heap.size + 1, 6, none⟩) hz1).trans s6; have hz1' := Nat.lt_of_lt_of_le hz1 b1.size))
    all_goals (go_ret; exact ⟨ret_bool HR.out.symm, hW0.bel.trans (b1.mono hW0.bel.size)⟩)
  · have H0 := Lib.hid h0
    clear h0
    rcases h1 : protoB s.pr with _ | _
    · have H1 := Lib.hid h1
      have HR : Hid (stC q s = false) := Lib.hid (by rw [show stC q s = ([(⟨s.sw, 0, (q.sws.length : Int) - 1⟩ : Bnd), ⟨s.po, 0, 65535⟩, ⟨s.qo, 0, 65535⟩].all inB3 && protoB s.pr && (s.pr == s.qr) && hostB s.ad && hasI q.pool s.qa) by simp [stC, inB3, hasI, Bool.and_assoc]; rfl, H0.out, H1.out]; simp)
      clear h1
      go_enter Try.func126, Try.ntmps126
      go_upto_region 1 with fail
      try rw [hWW]
      clear hWW
      go_wp2_with (first
        | (go_at_call 121; refine (c20within W.heap.size [⟨s.sw, 0, (q.sws.length : Int) - 1⟩, ⟨s.po, 0, 65535⟩, ⟨s.qo, 0, 65535⟩] _ 3 rfl (newB W _ _ rfl) (by simp) (by simp)).mono ?_; rintro e w1 ⟨rfl, b1'⟩; rw [H0.out]; have b1 : Below W.heap.size W w1 := ((Below.refl _ W).alloc (Nat.le_refl _) _).trans (b1'.mono (by simp)); clear b1'; have hW1 := hW0.more b1; have k2' := (b1.cell (p := ⟨w.heap.size, 17, none⟩) hW0.lt).trans k2; have s0' := (b1.cell (p := ⟨w.heap.size + 1, 0, none⟩) hz1).trans s0; have s1' := (b1.cell (p := ⟨w.heap.size + 1, 1, none⟩) hz1).trans s1; have s2' := (b1.cell (p := ⟨w.heap.size + 1, 2, none⟩) hz1).trans s2; have s3' := (b1.cell (p := ⟨w.heap.size + 1, 3, none⟩) hz1).trans s3; have s4' := (b1.cell (p := ⟨w.heap.size + 1, 4, none⟩) hz1).trans s4; have s5' := (b1.cell (p := ⟨w.heap.size + 1, 5, none⟩) hz1).trans s5; have s6' := (b1.cell (p := ⟨w.heap.size + 1, 6, none⟩) hz1).trans s6; have hz1' := Nat.lt_of_lt_of_le hz1 b1.size)
        | (go_at_call 173; refine (cproto s.pr w1).mono ?_; rintro e w2 ⟨rfl, b2⟩; rw [H1.out]; have hW2 := hW1.more b2; have k2'' := (b2.cell (p := ⟨w.heap.size, 17, none⟩) hW1.lt).trans k2'; have s0'' := (b2.cell (p := ⟨w.heap.size + 1, 0, none⟩) hz1').trans s0'; have s1'' := (b2.cell (p := ⟨w.heap.size + 1, 1, none⟩) hz1').trans s1'; have s2'' := (b2.cell (p := ⟨w.heap.size + 1, 2, none⟩) hz1').trans s2'; have s3'' := (b2.cell (p := ⟨w.heap.size + 1, 3, none⟩) hz1').trans s3'; have s4'' := (b2.cell (p := ⟨w.heap.size + 1, 4, none⟩) hz1').trans s4'; have s5'' := (b2.cell (p := ⟨w.heap.size + 1, 5, none⟩) hz1').trans s5'; have s6'' := (b2.cell (p := ⟨w.heap.size + 1, 6, none⟩) hz1').trans s6'; have hz1'' := Nat.lt_of_lt_of_le hz1' b2.size))
      all_goals (go_ret; exact ⟨ret_bool HR.out.symm, hW1.bel.trans (b2.mono hW1.bel.size)⟩)
    · have H1 := Lib.hid h1
      clear h1
      rcases h2 : (s.pr == s.qr) with _ | _
      · have H2 := Lib.hid h2
        have HR : Hid (stC q s = false) := Lib.hid (by rw [show stC q s = ([(⟨s.sw, 0, (q.sws.length : Int) - 1⟩ : Bnd), ⟨s.po, 0, 65535⟩, ⟨s.qo, 0, 65535⟩].all inB3 && protoB s.pr && (s.pr == s.qr) && hostB s.ad && hasI q.pool s.qa) by simp [stC, inB3, hasI, Bool.and_assoc]; rfl, H0.out, H1.out, H2.out]; simp)
        go_enter Try.func126, Try.ntmps126
        go_upto_region 1 with fail
        try rw [hWW]
        clear hWW
        go_wp2_with (first
          | (go_at_call 121; refine (c20within W.heap.size [⟨s.sw, 0, (q.sws.length : Int) - 1⟩, ⟨s.po, 0, 65535⟩, ⟨s.qo, 0, 65535⟩] _ 3 rfl (newB W _ _ rfl) (by simp) (by simp)).mono ?_; rintro e w1 ⟨rfl, b1'⟩; rw [H0.out]; have b1 : Below W.heap.size W w1 := ((Below.refl _ W).alloc (Nat.le_refl _) _).trans (b1'.mono (by simp)); clear b1'; have hW1 := hW0.more b1; have k2' := (b1.cell (p := ⟨w.heap.size, 17, none⟩) hW0.lt).trans k2; have s0' := (b1.cell (p := ⟨w.heap.size + 1, 0, none⟩) hz1).trans s0; have s1' := (b1.cell (p := ⟨w.heap.size + 1, 1, none⟩) hz1).trans s1; have s2' := (b1.cell (p := ⟨w.heap.size + 1, 2, none⟩) hz1).trans s2; have s3' := (b1.cell (p := ⟨w.heap.size + 1, 3, none⟩) hz1).trans s3; have s4' := (b1.cell (p := ⟨w.heap.size + 1, 4, none⟩) hz1).trans s4; have s5' := (b1.cell (p := ⟨w.heap.size + 1, 5, none⟩) hz1).trans s5; have s6' := (b1.cell (p := ⟨w.heap.size + 1, 6, none⟩) hz1).trans s6; have hz1' := Nat.lt_of_lt_of_le hz1 b1.size)
          | (go_at_call 173; refine (cproto s.pr w1).mono ?_; rintro e w2 ⟨rfl, b2⟩; rw [H1.out]; have hW2 := hW1.more b2; have k2'' := (b2.cell (p := ⟨w.heap.size, 17, none⟩) hW1.lt).trans k2'; have s0'' := (b2.cell (p := ⟨w.heap.size + 1, 0, none⟩) hz1').trans s0'; have s1'' := (b2.cell (p := ⟨w.heap.size + 1, 1, none⟩) hz1').trans s1'; have s2'' := (b2.cell (p := ⟨w.heap.size + 1, 2, none⟩) hz1').trans s2'; have s3'' := (b2.cell (p := ⟨w.heap.size + 1, 3, none⟩) hz1').trans s3'; have s4'' := (b2.cell (p := ⟨w.heap.size + 1, 4, none⟩) hz1').trans s4'; have s5'' := (b2.cell (p := ⟨w.heap.size + 1, 5, none⟩) hz1').trans s5'; have s6'' := (b2.cell (p := ⟨w.heap.size + 1, 6, none⟩) hz1').trans s6'; have hz1'' := Nat.lt_of_lt_of_le hz1' b2.size))
        all_goals (go_ret; exact ⟨ret_bool HR.out.symm, hW1.bel.trans (b2.mono hW1.bel.size)⟩)
      · have H2 := Lib.hid h2
        rcases h3 : hostB s.ad with _ | _
        · have H3 := Lib.hid h3
          have HR : Hid (stC q s = false) := Lib.hid (by rw [show stC q s = ([(⟨s.sw, 0, (q.sws.length : Int) - 1⟩ : Bnd), ⟨s.po, 0, 65535⟩, ⟨s.qo, 0, 65535⟩].all inB3 && protoB s.pr && (s.pr == s.qr) && hostB s.ad && hasI q.pool s.qa) by simp [stC, inB3, hasI, Bool.and_assoc]; rfl, H0.out, H1.out, H2.out, H3.out]; simp)
          clear h3
          go_enter Try.func126, Try.ntmps126
          go_upto_region 1 with fail
          try rw [hWW]
          clear hWW
          go_wp2_with (first
            | (go_at_call 121; refine (c20within W.heap.size [⟨s.sw, 0, (q.sws.length : Int) - 1⟩, ⟨s.po, 0, 65535⟩, ⟨s.qo, 0, 65535⟩] _ 3 rfl (newB W _ _ rfl) (by simp) (by simp)).mono ?_; rintro e w1 ⟨rfl, b1'⟩; rw [H0.out]; have b1 : Below W.heap.size W w1 := ((Below.refl _ W).alloc (Nat.le_refl _) _).trans (b1'.mono (by simp)); clear b1'; have hW1 := hW0.more b1; have k2' := (b1.cell (p := ⟨w.heap.size, 17, none⟩) hW0.lt).trans k2; have s0' := (b1.cell (p := ⟨w.heap.size + 1, 0, none⟩) hz1).trans s0; have s1' := (b1.cell (p := ⟨w.heap.size + 1, 1, none⟩) hz1).trans s1; have s2' := (b1.cell (p := ⟨w.heap.size + 1, 2, none⟩) hz1).trans s2; have s3' := (b1.cell (p := ⟨w.heap.size + 1, 3, none⟩) hz1).trans s3; have s4' := (b1.cell (p := ⟨w.heap.size + 1, 4, none⟩) hz1).trans s4; have s5' := (b1.cell (p := ⟨w.heap.size + 1, 5, none⟩) hz1).trans s5; have s6' := (b1.cell (p := ⟨w.heap.size + 1, 6, none⟩) hz1).trans s6; have hz1' := Nat.lt_of_lt_of_le hz1 b1.size)
            | (go_at_call 173; refine (cproto s.pr w1).mono ?_; rintro e w2 ⟨rfl, b2⟩; rw [H1.out]; have hW2 := hW1.more b2; have k2'' := (b2.cell (p := ⟨w.heap.size, 17, none⟩) hW1.lt).trans k2'; have s0'' := (b2.cell (p := ⟨w.heap.size + 1, 0, none⟩) hz1').trans s0'; have s1'' := (b2.cell (p := ⟨w.heap.size + 1, 1, none⟩) hz1').trans s1'; have s2'' := (b2.cell (p := ⟨w.heap.size + 1, 2, none⟩) hz1').trans s2'; have s3'' := (b2.cell (p := ⟨w.heap.size + 1, 3, none⟩) hz1').trans s3'; have s4'' := (b2.cell (p := ⟨w.heap.size + 1, 4, none⟩) hz1').trans s4'; have s5'' := (b2.cell (p := ⟨w.heap.size + 1, 5, none⟩) hz1').trans s5'; have s6'' := (b2.cell (p := ⟨w.heap.size + 1, 6, none⟩) hz1').trans s6'; have hz1'' := Nat.lt_of_lt_of_le hz1' b2.size)
            | (go_at_call 116; refine (c3host s.ad w2).mono ?_; rintro e w3 ⟨rfl, b3⟩; rw [H3.out]; have hW3 := hW2.more b3; have k2''' := (b3.cell (p := ⟨w.heap.size, 17, none⟩) hW2.lt).trans k2''; have s0''' := (b3.cell (p := ⟨w.heap.size + 1, 0, none⟩) hz1'').trans s0''; have s1''' := (b3.cell (p := ⟨w.heap.size + 1, 1, none⟩) hz1'').trans s1''; have s2''' := (b3.cell (p := ⟨w.heap.size + 1, 2, none⟩) hz1'').trans s2''; have s3''' := (b3.cell (p := ⟨w.heap.size + 1, 3, none⟩) hz1'').trans s3''; have s4''' := (b3.cell (p := ⟨w.heap.size + 1, 4, none⟩) hz1'').trans s4''; have s5''' := (b3.cell (p := ⟨w.heap.size + 1, 5, none⟩) hz1'').trans s5''; have s6''' := (b3.cell (p := ⟨w.heap.size + 1, 6, none⟩) hz1'').trans s6''; have hz1''' := Nat.lt_of_lt_of_le hz1'' b3.size))
          all_goals (go_ret; exact ⟨ret_bool HR.out.symm, hW2.bel.trans (b3.mono hW2.bel.size)⟩)
        · have H3 := Lib.hid h3
          clear h3
          rcases h4 : hasI q.pool s.qa with _ | _
          · have H4 := Lib.hid h4
            have HR : Hid (stC q s = false) := Lib.hid (by rw [show stC q s = ([(⟨s.sw, 0, (q.sws.length : Int) - 1⟩ : Bnd), ⟨s.po, 0, 65535⟩, ⟨s.qo, 0, 65535⟩].all inB3 && protoB s.pr && (s.pr == s.qr) && hostB s.ad && hasI q.pool s.qa) by simp [stC, inB3, hasI, Bool.and_assoc]; rfl, H0.out, H1.out, H2.out, H3.out, H4.out]; simp)
            clear h4
            go_enter Try.func126, Try.ntmps126
            go_upto_region 1 with fail
            try rw [hWW]
            clear hWW
            go_wp2_with (first
              | (go_at_call 121; refine (c20within W.heap.size [⟨s.sw, 0, (q.sws.length : Int) - 1⟩, ⟨s.po, 0, 65535⟩, ⟨s.qo, 0, 65535⟩] _ 3 rfl (newB W _ _ rfl) (by simp) (by simp)).mono ?_; rintro e w1 ⟨rfl, b1'⟩; rw [H0.out]; have b1 : Below W.heap.size W w1 := ((Below.refl _ W).alloc (Nat.le_refl _) _).trans (b1'.mono (by simp)); clear b1'; have hW1 := hW0.more b1; have k2' := (b1.cell (p := ⟨w.heap.size, 17, none⟩) hW0.lt).trans k2; have s0' := (b1.cell (p := ⟨w.heap.size + 1, 0, none⟩) hz1).trans s0; have s1' := (b1.cell (p := ⟨w.heap.size + 1, 1, none⟩) hz1).trans s1; have s2' := (b1.cell (p := ⟨w.heap.size + 1, 2, none⟩) hz1).trans s2; have s3' := (b1.cell (p := ⟨w.heap.size + 1, 3, none⟩) hz1).trans s3; have s4' := (b1.cell (p := ⟨w.heap.size + 1, 4, none⟩) hz1).trans s4; have s5' := (b1.cell (p := ⟨w.heap.size + 1, 5, none⟩) hz1).trans s5; have s6' := (b1.cell (p := ⟨w.heap.size + 1, 6, none⟩) hz1).trans s6; have hz1' := Nat.lt_of_lt_of_le hz1 b1.size)
              | (go_at_call 173; refine (cproto s.pr w1).mono ?_; rintro e w2 ⟨rfl, b2⟩; rw [H1.out]; have hW2 := hW1.more b2; have k2'' := (b2.cell (p := ⟨w.heap.size, 17, none⟩) hW1.lt).trans k2'; have s0'' := (b2.cell (p := ⟨w.heap.size + 1, 0, none⟩) hz1').trans s0'; have s1'' := (b2.cell (p := ⟨w.heap.size + 1, 1, none⟩) hz1').trans s1'; have s2'' := (b2.cell (p := ⟨w.heap.size + 1, 2, none⟩) hz1').trans s2'; have s3'' := (b2.cell (p := ⟨w.heap.size + 1, 3, none⟩) hz1').trans s3'; have s4'' := (b2.cell (p := ⟨w.heap.size + 1, 4, none⟩) hz1').trans s4'; have s5'' := (b2.cell (p := ⟨w.heap.size + 1, 5, none⟩) hz1').trans s5'; have s6'' := (b2.cell (p := ⟨w.heap.size + 1, 6, none⟩) hz1').trans s6'; have hz1'' := Nat.lt_of_lt_of_le hz1' b2.size)
              | (go_at_call 116; refine (c3host s.ad w2).mono ?_; rintro e w3 ⟨rfl, b3⟩; rw [H3.out]; have hW3 := hW2.more b3; have k2''' := (b3.cell (p := ⟨w.heap.size, 17, none⟩) hW2.lt).trans k2''; have s0''' := (b3.cell (p := ⟨w.heap.size + 1, 0, none⟩) hz1'').trans s0''; have s1''' := (b3.cell (p := ⟨w.heap.size + 1, 1, none⟩) hz1'').trans s1''; have s2''' := (b3.cell (p := ⟨w.heap.size + 1, 2, none⟩) hz1'').trans s2''; have s3''' := (b3.cell (p := ⟨w.heap.size + 1, 3, none⟩) hz1'').trans s3''; have s4''' := (b3.cell (p := ⟨w.heap.size + 1, 4, none⟩) hz1'').trans s4''; have s5''' := (b3.cell (p := ⟨w.heap.size + 1, 5, none⟩) hz1'').trans s5''; have s6''' := (b3.cell (p := ⟨w.heap.size + 1, 6, none⟩) hz1'').trans s6''; have hz1''' := Nat.lt_of_lt_of_le hz1'' b3.size)
              | (go_at_call 117; refine (conI q.A2 q.c2 q.pool s.qa B w3 (hW3.mem hm hB).pool (by omega)).mono ?_; rintro e w4 ⟨rfl, rfl⟩; rw [H4.out]))
            all_goals (go_ret; exact ⟨ret_bool HR.out.symm, hW3.bel⟩)
          · have H4 := Lib.hid h4
            clear h4
            have HR : Hid (stC q s = true) := Lib.hid (by rw [show stC q s = ([(⟨s.sw, 0, (q.sws.length : Int) - 1⟩ : Bnd), ⟨s.po, 0, 65535⟩, ⟨s.qo, 0, 65535⟩].all inB3 && protoB s.pr && (s.pr == s.qr) && hostB s.ad && hasI q.pool s.qa) by simp [stC, inB3, hasI, Bool.and_assoc]; rfl, H0.out, H1.out, H2.out, H3.out, H4.out]; simp)
            go_enter Try.func126, Try.ntmps126
            go_upto_region 1 with fail
            try rw [hWW]
            clear hWW
            go_wp2_with (first
              | (go_at_call 121; refine (c20within W.heap.size [⟨s.sw, 0, (q.sws.length : Int) - 1⟩, ⟨s.po, 0, 65535⟩, ⟨s.qo, 0, 65535⟩] _ 3 rfl (newB W _ _ rfl) (by simp) (by simp)).mono ?_; rintro e w1 ⟨rfl, b1'⟩; rw [H0.out]; have b1 : Below W.heap.size W w1 := ((Below.refl _ W).alloc (Nat.le_refl _) _).trans (b1'.mono (by simp)); clear b1'; have hW1 := hW0.more b1; have k2' := (b1.cell (p := ⟨w.heap.size, 17, none⟩) hW0.lt).trans k2; have s0' := (b1.cell (p := ⟨w.heap.size + 1, 0, none⟩) hz1).trans s0; have s1' := (b1.cell (p := ⟨w.heap.size + 1, 1, none⟩) hz1).trans s1; have s2' := (b1.cell (p := ⟨w.heap.size + 1, 2, none⟩) hz1).trans s2; have s3' := (b1.cell (p := ⟨w.heap.size + 1, 3, none⟩) hz1).trans s3; have s4' := (b1.cell (p := ⟨w.heap.size + 1, 4, none⟩) hz1).trans s4; have s5' := (b1.cell (p := ⟨w.heap.size + 1, 5, none⟩) hz1).trans s5; have s6' := (b1.cell (p := ⟨w.heap.size + 1, 6, none⟩) hz1).trans s6; have hz1' := Nat.lt_of_lt_of_le hz1 b1.size)
              | (go_at_call 173; refine (cproto s.pr w1).mono ?_; rintro e w2 ⟨rfl, b2⟩; rw [H1.out]; have hW2 := hW1.more b2; have k2'' := (b2.cell (p := ⟨w.heap.size, 17, none⟩) hW1.lt).trans k2'; have s0'' := (b2.cell (p := ⟨w.heap.size + 1, 0, none⟩) hz1').trans s0'; have s1'' := (b2.cell (p := ⟨w.heap.size + 1, 1, none⟩) hz1').trans s1'; have s2'' := (b2.cell (p := ⟨w.heap.size + 1, 2, none⟩) hz1').trans s2'; have s3'' := (b2.cell (p := ⟨w.heap.size + 1, 3, none⟩) hz1').trans s3'; have s4'' := (b2.cell (p := ⟨w.heap.size + 1, 4, none⟩) hz1').trans s4'; have s5'' := (b2.cell (p := ⟨w.heap.size + 1, 5, none⟩) hz1').trans s5'; have s6'' := (b2.cell (p := ⟨w.heap.size + 1, 6, none⟩) hz1').trans s6'; have hz1'' := Nat.lt_of_lt_of_le hz1' b2.size)
              | (go_at_call 116; refine (c3host s.ad w2).mono ?_; rintro e w3 ⟨rfl, b3⟩; rw [H3.out]; have hW3 := hW2.more b3; have k2''' := (b3.cell (p := ⟨w.heap.size, 17, none⟩) hW2.lt).trans k2''; have s0''' := (b3.cell (p := ⟨w.heap.size + 1, 0, none⟩) hz1'').trans s0''; have s1''' := (b3.cell (p := ⟨w.heap.size + 1, 1, none⟩) hz1'').trans s1''; have s2''' := (b3.cell (p := ⟨w.heap.size + 1, 2, none⟩) hz1'').trans s2''; have s3''' := (b3.cell (p := ⟨w.heap.size + 1, 3, none⟩) hz1'').trans s3''; have s4''' := (b3.cell (p := ⟨w.heap.size + 1, 4, none⟩) hz1'').trans s4''; have s5''' := (b3.cell (p := ⟨w.heap.size + 1, 5, none⟩) hz1'').trans s5''; have s6''' := (b3.cell (p := ⟨w.heap.size + 1, 6, none⟩) hz1'').trans s6''; have hz1''' := Nat.lt_of_lt_of_le hz1'' b3.size)
              | (go_at_call 117; refine (conI q.A2 q.c2 q.pool s.qa B w3 (hW3.mem hm hB).pool (by omega)).mono ?_; rintro e w4 ⟨rfl, rfl⟩; rw [H4.out]))
            all_goals (go_ret; exact ⟨ret_bool HR.out.symm, hW3.bel⟩)
set_option maxRecDepth 100000 in
theorem c20st1 (s : Sta) (g : Nat) (q : Cfg) (B : Nat) (w : World) (hq : Fits q) (hm : MemC w B q) (hB : B ≤ w.heap.size) (hg : g < w.heap.size) (hAt : AtC w g q) :
    Calls Try.prog 125 #[.agg (clS s).toArray, .pointer (some ⟨g, 0, none⟩)] w fun e w' => e = .returned (.bool (stC q s)) ∧ Below w.heap.size w w' := by
  have hb1 : Below w.heap.size w (w.alloc (.cells (clS s).toArray 191)) := (Below.refl _ _).alloc (Nat.le_refl _) _
  have h0 := AtNew (w := w) (cs := clS s) (t := 191)
  have hA1 : AtC (w.alloc (.cells (clS s).toArray 191)) g q := hAt.below hb1 hg
  have hl : (cfl q).length = 36 := cfl_len hq.aftr
  have hcall := Lib.hid (c20st s q B (w.alloc (.cells (clS s).toArray 191)) hq (hm.below (hb1.mono hB)) (Nat.le_trans hB hb1.size))
  generalize stC q s = R at hcall ⊢
  have hla : (clS s).length = 7 := rfl
  have hb2 := hb1
  generalize hC : (clS s).toArray = C at hcall h0 hA1 hb1 ⊢
  have hC' := Lib.hid hC
  clear hC hb2
  go_enter Try.func125, Try.ntmps125
  go_wp2_with (first
    | ((with_reducible show wpList _ _ _ (Oper.mk _ (Op.load 74 _) _ _ _ _ :: _) _ _); (refine wpList_val rfl (ld_cfg rfl rfl hA1 hl) ?_))
    | ((with_reducible show wpList _ _ _ (Oper.mk _ (Op.load 191 _) _ _ _ _ :: _) _ _); (refine wpList_val rfl (ld_sta rfl rfl h0 hla) ?_; rw [hC'.out]))
    | (go_at_call 126; (refine hcall.out.mono ?_; rintro e w1 ⟨rfl, b1⟩)))
  go_ret
  exact ⟨rfl, hb1.trans (b1.mono hb1.size)⟩
theorem stsC_eq (q : Cfg) : stsC q = ([(⟨q.stat.length, 0, (if q.binds < 64 then q.binds else 64)⟩ : Bnd)].all inB3 && q.stat.all (stC q)) := by
  rw [show (if q.binds < 64 then q.binds else 64) = min 64 q.binds by omega]
  simp [stsC, inB3]
set_option maxRecDepth 100000 in
set_option maxHeartbeats 2000000 in
theorem c20sts (q : Cfg) (B : Nat) (w : World) (hq : Fits q) (hm : MemC w B q) (hB : B ≤ w.heap.size) :
    Calls Try.prog 82 #[.agg (cfa q)] w fun e w' => e = .returned (.bool (stsC q)) ∧ Below w.heap.size w w' := by
  have hW0 := BoxC.mk' w q
  generalize hWW : w.alloc (.cells (cfa q) 74) = W at hW0
  have hz := hW0.lt
  have a16 := hq.aftr
  have k3 : W.cell? ⟨w.heap.size, 35, none⟩ = some (.slice q.A3 q.stat.length q.c3) := hW0.at_.at_ a16 (j := 19) rfl
  have kb : W.cell? ⟨w.heap.size, 21, none⟩ = some (.int .i64 q.binds) := hW0.at_.at_ a16 (j := 5) rfl
  have l3 := hq.n3
  rcases h0 : [(⟨q.stat.length, 0, (if q.binds < 64 then q.binds else 64)⟩ : Bnd)].all inB3 with _ | _
  · have H0 := Lib.hid h0
    have HR : Hid (stsC q = false) := Lib.hid (by rw [stsC_eq q, H0.out]; simp)
    clear h0
    go_enter Try.func82, Try.ntmps82
    go_upto_region 1 with fail
    try rw [hWW]
    clear hWW
    go_wp2_with (first
      | (go_at_call 121; (refine (c20within W.heap.size [⟨q.stat.length, 0, (if q.binds < 64 then q.binds else 64)⟩] _ 1 rfl (newB W _ _ rfl) (by simp) (by simp)).mono ?_; rintro e w1 ⟨rfl, b1'⟩; rw [H0.out]; have b1 : Below W.heap.size W w1 := ((Below.refl _ W).alloc (Nat.le_refl _) _).trans (b1'.mono (by simp)); clear b1'; have hW1 := hW0.more b1; have k3' := (b1.cell (p := ⟨w.heap.size, 35, none⟩) hz).trans k3)))
    all_goals (go_ret; exact ⟨ret_bool HR.out.symm, hW0.bel.trans (b1.mono hW0.bel.size)⟩)
  · have H0 := Lib.hid h0
    clear h0
    rcases h1 : q.stat.all (stC q) with _ | _
    · have H1 := Lib.hid h1
      have HR : Hid (stsC q = false) := Lib.hid (by rw [stsC_eq q, H0.out, H1.out]; simp)
      clear h1
      go_enter Try.func82, Try.ntmps82
      go_upto_region 1 with fail
      try rw [hWW]
      clear hWW
      go_wp2_with (first
        | (go_at_call 121; (refine (c20within W.heap.size [⟨q.stat.length, 0, (if q.binds < 64 then q.binds else 64)⟩] _ 1 rfl (newB W _ _ rfl) (by simp) (by simp)).mono ?_; rintro e w1 ⟨rfl, b1'⟩; rw [H0.out]; have b1 : Below W.heap.size W w1 := ((Below.refl _ W).alloc (Nat.le_refl _) _).trans (b1'.mono (by simp)); clear b1'; have hW1 := hW0.more b1; have k3' := (b1.cell (p := ⟨w.heap.size, 35, none⟩) hz).trans k3))
        | (go_at_call 124; refine (allSta 125 #[.pointer (some ⟨w.heap.size, 0, none⟩)] (stC q) q.A3 q.c3 q.stat B w1 (fun _ _ => rfl) (hW1.mem hm hB).stat (Nat.le_trans hB hW1.bel.size) (by omega) (fun V x hx hV => c20st1 x w.heap.size q B V hq ((hW1.mem hm hB).below (hV.mono (Nat.le_trans hB hW1.bel.size))) (Nat.le_trans hB (Nat.le_trans hW1.bel.size hV.size)) (Nat.lt_of_lt_of_le hW1.lt hV.size) (hW1.at_.below hV hW1.lt))).mono ?_; rintro e w2 ⟨rfl, b2⟩; rw [H1.out]))
      all_goals (go_ret; exact ⟨ret_bool HR.out.symm, hW1.bel.trans (b2.mono hW1.bel.size)⟩)
    · have H1 := Lib.hid h1
      clear h1
      have HR : Hid (stsC q = true) := Lib.hid (by rw [stsC_eq q, H0.out, H1.out]; simp)
      go_enter Try.func82, Try.ntmps82
      go_upto_region 1 with fail
      try rw [hWW]
      clear hWW
      go_wp2_with (first
        | (go_at_call 121; (refine (c20within W.heap.size [⟨q.stat.length, 0, (if q.binds < 64 then q.binds else 64)⟩] _ 1 rfl (newB W _ _ rfl) (by simp) (by simp)).mono ?_; rintro e w1 ⟨rfl, b1'⟩; rw [H0.out]; have b1 : Below W.heap.size W w1 := ((Below.refl _ W).alloc (Nat.le_refl _) _).trans (b1'.mono (by simp)); clear b1'; have hW1 := hW0.more b1; have k3' := (b1.cell (p := ⟨w.heap.size, 35, none⟩) hz).trans k3))
        | (go_at_call 124; refine (allSta 125 #[.pointer (some ⟨w.heap.size, 0, none⟩)] (stC q) q.A3 q.c3 q.stat B w1 (fun _ _ => rfl) (hW1.mem hm hB).stat (Nat.le_trans hB hW1.bel.size) (by omega) (fun V x hx hV => c20st1 x w.heap.size q B V hq ((hW1.mem hm hB).below (hV.mono (Nat.le_trans hB hW1.bel.size))) (Nat.le_trans hB (Nat.le_trans hW1.bel.size hV.size)) (Nat.lt_of_lt_of_le hW1.lt hV.size) (hW1.at_.below hV hW1.lt))).mono ?_; rintro e w2 ⟨rfl, b2⟩; rw [H1.out]))
      all_goals (go_ret; exact ⟨ret_bool HR.out.symm, hW1.bel.trans (b2.mono hW1.bel.size)⟩)
end Go.Proofs.Ytogidfagkgccmaa

/-
  The document's plain answers of layer 20: bindings that are told, lists. Conditions are each theorem's own.
-/
namespace Go.Proofs.Ytogidfagkgccmaa
open Go.RowKit Go.Shelf
theorem wpList_gvalT {P : Program} {ops : Array Oper} {rest : List Oper} {o : Oper} {a : Act} {w : World} {Q : Exit → Act → World → Prop} {v : Value} (hg : Region.wanted o (yielded ops a.tmps) = true) (hrun : (execOp a.eval o).run P w = .ok (.value v) w)
    (h : wpList P ops Q rest (a.put o.dst v) w) : wpList P ops Q (o :: rest) a w :=
  wpList_step fun K hK => by rw [if_pos hg]; unfold Oper.wp; rw [hrun]; exact hK _ _ h
set_option maxRecDepth 100000 in
set_option maxHeartbeats 8000000 in
theorem r20static (s : Sta) (q : Cfg) (B : Nat) (w : World) (hq : Fits q) (hm : MemC w B q) (hB : B ≤ w.heap.size) :
    Calls Try.prog 140 #[.agg (cfa q), .agg (clS s).toArray] w fun e w' => e = .returned (.bool (stB q s)) ∧ Below w.heap.size w w' := by
  have hW00 := BoxC.mk' w q
  have hW01 : Below (w.alloc (.cells (cfa q) 74)).heap.size (w.alloc (.cells (cfa q) 74)) ((w.alloc (.cells (cfa q) 74)).alloc (.cells (clS s).toArray 191)) := (Below.refl _ _).alloc (Nat.le_refl _) _
  have hS0 := AtNew (w := w.alloc (.cells (cfa q) 74)) (cs := clS s) (t := 191)
  have hz1 : w.heap.size + 1 < ((w.alloc (.cells (cfa q) 74)).alloc (.cells (clS s).toArray 191)).heap.size := by simp
  rw [World.size_alloc] at hS0
  have hW0 := hW00.more hW01
  clear hW00 hW01
  generalize hCS : (clS s).toArray = CS at *
  generalize hWW : (w.alloc (.cells (cfa q) 74)).alloc (.cells CS 191) = W at hW0 hS0 hz1
  have hz := hW0.lt
  have a16 := hq.aftr
  have l1 := hq.n1
  have l2 := hq.n2
  have k1 : W.cell? ⟨w.heap.size, 16, none⟩ = some (.slice q.A1 q.sws.length q.c1) := hW0.at_.at_ a16 (j := 0) rfl
  have k2 : W.cell? ⟨w.heap.size, 17, none⟩ = some (.slice q.A2 q.pool.length q.c2) := hW0.at_.at_ a16 (j := 1) rfl
  have s0 : W.cell? ⟨w.heap.size + 1, 0, none⟩ = some (.int .i64 s.sw) := hS0 0 _ rfl
  have s1 : W.cell? ⟨w.heap.size + 1, 1, none⟩ = some (.int .i64 s.pr) := hS0 1 _ rfl
  have s2 : W.cell? ⟨w.heap.size + 1, 2, none⟩ = some (.int .i64 s.ad) := hS0 2 _ rfl
  have s3 : W.cell? ⟨w.heap.size + 1, 3, none⟩ = some (.int .i64 s.po) := hS0 3 _ rfl
  have s4 : W.cell? ⟨w.heap.size + 1, 4, none⟩ = some (.int .i64 s.qr) := hS0 4 _ rfl
  have s5 : W.cell? ⟨w.heap.size + 1, 5, none⟩ = some (.int .i64 s.qa) := hS0 5 _ rfl
  have s6 : W.cell? ⟨w.heap.size + 1, 6, none⟩ = some (.int .i64 s.qo) := hS0 6 _ rfl
  have hbel := hW0.bel
  have hcl : (cfl q).length = 36 := cfl_len a16
  have HST : Hid (stB q s = (protoB s.pr && (inn s.po 0 65535 && inn s.qo 0 65535) && (s.qr == s.pr) && inn s.sw 0 ((q.sws.length : Int) - 1) && hostB s.ad && hasI q.pool s.qa)) := Lib.hid rfl
  go_enter Try.func140, Try.ntmps140
  go_upto_region 1 with fail
  try rw [hWW]
  clear hWW
  go_cut [5] (fun s5 wx => s5 = .bool (protoB s.pr) ∧ wx = W)
  case first =>
    rcases h1 : (s.pr == 1) with _ | _
    · rcases h2 : (s.pr == 6) with _ | _
      · rcases h3 : (s.pr == 17) with _ | _
        · have HR : Hid (protoB s.pr = false) := Lib.hid (by simp only [beq_eq_false_iff_ne, ne_eq] at h1 h2 h3; simp [protoB, h1, h2, h3])
          go_wp2
          go_meet
          case rel => exact ⟨congrArg Value.bool HR.out.symm, rfl⟩
        · have HR : Hid (protoB s.pr = true) := Lib.hid (by simp only [beq_iff_eq] at h3; simp [protoB, h3])
          go_wp2
          go_meet
          case rel => exact ⟨congrArg Value.bool HR.out.symm, rfl⟩
      · have HR : Hid (protoB s.pr = true) := Lib.hid (by simp only [beq_iff_eq] at h2; simp [protoB, h2])
        go_wp2
        go_meet
        case rel => exact ⟨congrArg Value.bool HR.out.symm, rfl⟩
    · have HR : Hid (protoB s.pr = true) := Lib.hid (by simp only [beq_iff_eq] at h1; simp [protoB, h1])
      go_wp2
      go_meet
      case rel => exact ⟨congrArg Value.bool HR.out.symm, rfl⟩
  case rest =>
    obtain ⟨rfl, hwc⟩ := hcut
    subst hwc
    go_upto_region 2 with fail
    go_cut [6] (fun s6 wx => s6 = .bool (inn s.po 0 65535 && inn s.qo 0 65535) ∧ wx = wc)
    case first =>
      rcases h0 : inn s.po 0 65535 with _ | _
      · have H0 := Lib.hid h0
        clear h0
        go_wp2_with (first
          | (go_at_call 137; refine (r20in _ _ _ _).mono ?_; rintro e w' ⟨rfl, rfl⟩; first | rw [H0.out]))
        all_goals try go_meet
        all_goals try (case rel => exact ⟨congrArg Value.bool (by rw [H0.out]; simp), rfl⟩)
        all_goals (have hbad : ∃ b, some undef = some (Value.bool b) := ⟨_, by assumption⟩)
        all_goals (obtain ⟨b, hb⟩ := hbad)
        all_goals (simp [undef] at hb)
      · have H0 := Lib.hid h0
        clear h0
        rcases h1 : inn s.qo 0 65535 with _ | _
        · have H1 := Lib.hid h1
          clear h1
          go_wp2_with (first
            | (go_at_call 137; refine (r20in _ _ _ _).mono ?_; rintro e w' ⟨rfl, rfl⟩; first | rw [H1.out] | rw [H0.out]))
          all_goals try go_meet
          all_goals try (case rel => exact ⟨congrArg Value.bool (by rw [H0.out, H1.out]; simp), rfl⟩)
          all_goals (have hbad : ∃ b, some undef = some (Value.bool b) := ⟨_, by assumption⟩)
          all_goals (obtain ⟨b, hb⟩ := hbad)
          all_goals (simp [undef] at hb)
        · have H1 := Lib.hid h1
          clear h1
          go_wp2_with (first
            | (go_at_call 137; refine (r20in _ _ _ _).mono ?_; rintro e w' ⟨rfl, rfl⟩; first | rw [H1.out] | rw [H0.out]))
          all_goals try go_meet
          all_goals try (case rel => exact ⟨congrArg Value.bool (by rw [H0.out, H1.out]; simp), rfl⟩)
          all_goals (have hbad : ∃ b, some undef = some (Value.bool b) := ⟨_, by assumption⟩)
          all_goals (obtain ⟨b, hb⟩ := hbad)
          all_goals (simp [undef] at hb)
    case rest =>
      obtain ⟨rfl, hwc⟩ := hcut
      subst hwc
      generalize protoB s.pr = B1 at *
      generalize (inn s.po 0 65535 && inn s.qo 0 65535) = B2 at *
      cases B1 with
      | false =>
        go_wp2_with (first
          | fail)
        all_goals try (go_ret; exact ⟨ret_bool (by rw [HST.out]; first | rfl | simp), hbel⟩)
        all_goals (have hbad : ∃ b, some undef = some (Value.bool b) := ⟨_, by assumption⟩)
        all_goals (obtain ⟨b, hb⟩ := hbad)
        all_goals (simp [undef] at hb)
      | true =>
        cases B2 with
        | false =>
          go_wp2_with (first
            | fail)
          all_goals try (go_ret; exact ⟨ret_bool (by rw [HST.out]; first | rfl | simp), hbel⟩)
          all_goals (have hbad : ∃ b, some undef = some (Value.bool b) := ⟨_, by assumption⟩)
          all_goals (obtain ⟨b, hb⟩ := hbad)
          all_goals (simp [undef] at hb)
        | true =>
          rcases h2 : (s.qr == s.pr) with _ | _
          · have H2 := Lib.hid h2
            go_wp2_with (first
              | fail)
            all_goals try (go_ret; exact ⟨ret_bool (by rw [HST.out, H2.out]; first | rfl | simp), hbel⟩)
            all_goals (have hbad : ∃ b, some undef = some (Value.bool b) := ⟨_, by assumption⟩)
            all_goals (obtain ⟨b, hb⟩ := hbad)
            all_goals (simp [undef] at hb)
          · have H2 := Lib.hid h2
            rcases h3 : inn s.sw 0 ((q.sws.length : Int) - 1) with _ | _
            · have H3 := Lib.hid h3
              clear h3
              go_wp2_with (first
                | (go_at_call 137; refine (r20in _ _ _ _).mono ?_; rintro e w' ⟨rfl, rfl⟩; rw [H3.out]))
              all_goals try (go_ret; exact ⟨ret_bool (by rw [HST.out, H2.out, H3.out]; first | rfl | simp), hbel⟩)
              all_goals (have hbad : ∃ b, some undef = some (Value.bool b) := ⟨_, by assumption⟩)
              all_goals (obtain ⟨b, hb⟩ := hbad)
              all_goals (simp [undef] at hb)
            · have H3 := Lib.hid h3
              clear h3
              rcases h4 : hostB s.ad with _ | _
              · have H4 := Lib.hid h4
                clear h4
                go_wp2_with (first
                  | (go_at_call 137; refine (r20in _ _ _ _).mono ?_; rintro e w' ⟨rfl, rfl⟩; rw [H3.out])
                  | (go_at_call 139; refine (r3host _ _).mono ?_; rintro e w' ⟨rfl, rfl⟩; rw [H4.out]))
                all_goals try (go_ret; exact ⟨ret_bool (by rw [HST.out, H2.out, H3.out, H4.out]; first | rfl | simp), hbel⟩)
                all_goals (have hbad : ∃ b, some undef = some (Value.bool b) := ⟨_, by assumption⟩)
                all_goals (obtain ⟨b, hb⟩ := hbad)
                all_goals (simp [undef] at hb)
              · have H4 := Lib.hid h4
                clear h4
                rcases h5 : hasI q.pool s.qa with _ | _
                · have H5 := Lib.hid h5
                  clear h5
                  go_wp2_with (first
                    | (go_at_call 137; refine (r20in _ _ _ _).mono ?_; rintro e w' ⟨rfl, rfl⟩; rw [H3.out])
                    | (go_at_call 139; refine (r3host _ _).mono ?_; rintro e w' ⟨rfl, rfl⟩; rw [H4.out])
                    | ((with_reducible show wpList _ _ _ (Oper.mk _ (Op.load 74 _) _ _ _ _ :: _) _ _); refine wpList_gvalT (by rfl) (ld_cfg rfl rfl hW0.at_ hcl) ?_)
                    | (go_at_call 174; refine (r20pool s.qa q B wc hq (hm.below (hbel.mono hB)) (Nat.le_trans hB hbel.size)).mono ?_; rintro e w9 ⟨rfl, b9⟩; rw [H5.out]))
                  all_goals try (go_ret; exact ⟨ret_bool (by rw [HST.out, H2.out, H3.out, H4.out, H5.out]; first | rfl | simp), hbel.trans (b9.mono hbel.size)⟩)
                  all_goals (have hbad : ∃ b, some undef = some (Value.bool b) := ⟨_, by assumption⟩)
                  all_goals (obtain ⟨b, hb⟩ := hbad)
                  all_goals (simp [undef] at hb)
                · have H5 := Lib.hid h5
                  clear h5
                  go_wp2_with (first
                    | (go_at_call 137; refine (r20in _ _ _ _).mono ?_; rintro e w' ⟨rfl, rfl⟩; rw [H3.out])
                    | (go_at_call 139; refine (r3host _ _).mono ?_; rintro e w' ⟨rfl, rfl⟩; rw [H4.out])
                    | ((with_reducible show wpList _ _ _ (Oper.mk _ (Op.load 74 _) _ _ _ _ :: _) _ _); refine wpList_gvalT (by rfl) (ld_cfg rfl rfl hW0.at_ hcl) ?_)
                    | (go_at_call 174; refine (r20pool s.qa q B wc hq (hm.below (hbel.mono hB)) (Nat.le_trans hB hbel.size)).mono ?_; rintro e w9 ⟨rfl, b9⟩; rw [H5.out]))
                  all_goals try (go_ret; exact ⟨ret_bool (by rw [HST.out, H2.out, H3.out, H4.out, H5.out]; first | rfl | simp), hbel.trans (b9.mono hbel.size)⟩)
                  all_goals (have hbad : ∃ b, some undef = some (Value.bool b) := ⟨_, by assumption⟩)
                  all_goals (obtain ⟨b, hb⟩ := hbad)
                  all_goals (simp [undef] at hb)
end Go.Proofs.Ytogidfagkgccmaa

/-
  The document's plain answer of layer 20: what is there twice. Conditions are each theorem's own.
-/
namespace Go.Proofs.Ytogidfagkgccmaa
open Go.RowKit Go.Shelf
theorem nodup_snoc {K : Type} (l : List K) (x : K) : (l ++ [x]).Nodup ↔ l.Nodup ∧ x ∉ l := by
  rw [List.nodup_append]
  constructor
  · rintro ⟨h1, _, h2⟩
    exact ⟨h1, fun h => h2 x h x (by simp) rfl⟩
  · rintro ⟨h1, h2⟩
    exact ⟨h1, by simp, fun a ha b hb e => by simp at hb; subst hb; subst e; exact h2 ha⟩
theorem take_snoc {K : Type} (l : List K) (i : Nat) (x : K) (h : l[i]? = some x) : l.take (i + 1) = l.take i ++ [x] := by
  have hi := (List.getElem?_eq_some_iff.1 h).1
  rw [List.take_succ_eq_append_getElem hi]
  rw [List.getElem?_eq_getElem hi] at h
  rw [Option.some.inj h]
theorem not_mem_snoc {K : Type} {l : List K} {x y : K} (h : x ∉ l) (hne : y ≠ x) : x ∉ l ++ [y] := fun hm => by
  rcases List.mem_append.1 hm with h1 | h1
  · exact h h1
  · simp at h1; exact hne h1.symm
theorem dup_at {K : Type} {l : List K} {i j : Nat} {x y : K} (hi : l[i]? = some x) (hj : l[j]? = some y) (hlt : j < i) (e : y = x) : ¬ l.Nodup := fun hn => by
  obtain ⟨h1, h2⟩ := List.getElem?_eq_some_iff.1 hi
  obtain ⟨h3, h4⟩ := List.getElem?_eq_some_iff.1 hj
  exact (List.pairwise_iff_getElem.1 hn j i h3 h1 hlt) (by rw [h4, h2, e])
theorem twB_1 {q : Cfg} (h : ¬ (q.sws ++ [q.aftr]).Nodup) : twB q = true := by classical simp [twB, h]
theorem twB_2 {q : Cfg} (h : ¬ q.pool.Nodup) : twB q = true := by classical simp [twB, h]
theorem twB_3 {q : Cfg} (h : ¬ (q.stat.map inS).Nodup) : twB q = true := by classical simp [twB, h]
theorem twB_4 {q : Cfg} (h : ¬ (q.stat.map ouS).Nodup) : twB q = true := by classical simp [twB, h]
theorem twB_5 {q : Cfg} (h : manyS q) : twB q = true := by classical simp [twB, h]
theorem twB_no {q : Cfg} (h1 : (q.sws ++ [q.aftr]).Nodup) (h2 : q.pool.Nodup) (h3 : (q.stat.map inS).Nodup) (h4 : (q.stat.map ouS).Nodup) (h5 : ¬ manyS q) : twB q = false := by classical simp [twB, h1, h2, h3, h4, h5]
theorem eq_inner (s t : Sta) (w : World) : (Op.equalIn 10000 189 (.agg (clI (inS s)).toArray) (.agg (clI (inS t)).toArray)).run Try.prog w = .ok (decide (inS s = inS t)) w := by
  show (Op.equalIn 10000 189 (.agg #[.int .i64 s.sw, .int .i64 s.pr, .int .i64 s.ad, .int .i64 s.po]) (.agg #[.int .i64 t.sw, .int .i64 t.pr, .int .i64 t.ad, .int .i64 t.po])).run Try.prog w = _
  by_cases h0 : s.sw = t.sw
  rotate_left
  · rw [show decide (inS s = inS t) = false from decide_eq_false (by simp [inS, h0])]
    go_simp
  by_cases h1 : s.pr = t.pr
  rotate_left
  · rw [show decide (inS s = inS t) = false from decide_eq_false (by simp [inS, h1])]
    go_simp
  by_cases h2 : s.ad = t.ad
  rotate_left
  · rw [show decide (inS s = inS t) = false from decide_eq_false (by simp [inS, h2])]
    go_simp
  by_cases h3 : s.po = t.po
  rotate_left
  · rw [show decide (inS s = inS t) = false from decide_eq_false (by simp [inS, h3])]
    go_simp
  rw [show decide (inS s = inS t) = true from decide_eq_true (by simp [inS, h0, h1, h2, h3])]
  go_simp
theorem eq_outer (s t : Sta) (w : World) : (Op.equalIn 10000 65 (.agg (clI (ouS s)).toArray) (.agg (clI (ouS t)).toArray)).run Try.prog w = .ok (decide (ouS s = ouS t)) w := by
  show (Op.equalIn 10000 65 (.agg #[.int .i64 s.qr, .int .i64 s.qa, .int .i64 s.qo]) (.agg #[.int .i64 t.qr, .int .i64 t.qa, .int .i64 t.qo])).run Try.prog w = _
  by_cases h0 : s.qr = t.qr
  rotate_left
  · rw [show decide (ouS s = ouS t) = false from decide_eq_false (by simp [ouS, h0])]
    go_simp
  by_cases h1 : s.qa = t.qa
  rotate_left
  · rw [show decide (ouS s = ouS t) = false from decide_eq_false (by simp [ouS, h1])]
    go_simp
  by_cases h2 : s.qo = t.qo
  rotate_left
  · rw [show decide (ouS s = ouS t) = false from decide_eq_false (by simp [ouS, h2])]
    go_simp
  rw [show decide (ouS s = ouS t) = true from decide_eq_true (by simp [ouS, h0, h1, h2])]
  go_simp
end Go.Proofs.Ytogidfagkgccmaa

/-
  The numbers that the code of layer 20 asks for. Conditions are each theorem's own.
-/
namespace Go.Proofs.Ytogidfagkgccmaa
open Go.RowKit Go.Shelf
set_option maxRecDepth 100000 in
set_option maxHeartbeats 4000000 in
theorem c20nu (q : Cfg) (w : World) (hq : Fits q) :
    Calls Try.prog 81 #[.agg (cfa q)] w fun e w' => e = .returned (.bool (nuC q)) ∧ Below w.heap.size w w' := by
  have hW0 := BoxC.mk' w q
  generalize hWW : w.alloc (.cells (cfa q) 74) = W at hW0
  have hz := hW0.lt
  have a16 := hq.aftr
  have k_lo : W.cell? ⟨w.heap.size, 18, none⟩ = some (.int .i64 q.lo) := hW0.at_.at_ a16 (j := 2) rfl
  have k_hi : W.cell? ⟨w.heap.size, 19, none⟩ = some (.int .i64 q.hi) := hW0.at_.at_ a16 (j := 3) rfl
  have k_quota : W.cell? ⟨w.heap.size, 20, none⟩ = some (.int .i64 q.quota) := hW0.at_.at_ a16 (j := 4) rfl
  have k_binds : W.cell? ⟨w.heap.size, 21, none⟩ = some (.int .i64 q.binds) := hW0.at_.at_ a16 (j := 5) rfl
  have k_sess : W.cell? ⟨w.heap.size, 22, none⟩ = some (.int .i64 q.sess) := hW0.at_.at_ a16 (j := 6) rfl
  have k_bufs : W.cell? ⟨w.heap.size, 23, none⟩ = some (.int .i64 q.bufs) := hW0.at_.at_ a16 (j := 7) rfl
  have k_byts : W.cell? ⟨w.heap.size, 24, none⟩ = some (.int .i64 q.byts) := hW0.at_.at_ a16 (j := 8) rfl
  have k_tmtu : W.cell? ⟨w.heap.size, 25, none⟩ = some (.int .i64 q.tmtu) := hW0.at_.at_ a16 (j := 9) rfl
  have k_nmtu : W.cell? ⟨w.heap.size, 26, none⟩ = some (.int .i64 q.nmtu) := hW0.at_.at_ a16 (j := 10) rfl
  have k_hop : W.cell? ⟨w.heap.size, 27, none⟩ = some (.int .i64 q.hop) := hW0.at_.at_ a16 (j := 11) rfl
  have k_mss : W.cell? ⟨w.heap.size, 28, none⟩ = some (.int .i64 q.mss) := hW0.at_.at_ a16 (j := 12) rfl
  have k_filt : W.cell? ⟨w.heap.size, 29, none⟩ = some (.int .i64 q.filt) := hW0.at_.at_ a16 (j := 13) rfl
  have k_udp : W.cell? ⟨w.heap.size, 30, none⟩ = some (.int .i64 q.udp) := hW0.at_.at_ a16 (j := 14) rfl
  have k_tcp : W.cell? ⟨w.heap.size, 31, none⟩ = some (.int .i64 q.tcp) := hW0.at_.at_ a16 (j := 15) rfl
  have k_trans : W.cell? ⟨w.heap.size, 32, none⟩ = some (.int .i64 q.trans) := hW0.at_.at_ a16 (j := 16) rfl
  have k_query : W.cell? ⟨w.heap.size, 33, none⟩ = some (.int .i64 q.query) := hW0.at_.at_ a16 (j := 17) rfl
  have k_frag : W.cell? ⟨w.heap.size, 34, none⟩ = some (.int .i64 q.frag) := hW0.at_.at_ a16 (j := 18) rfl
  rcases h0 : (bnds q).all inB3 with _ | _
  · have H0 := Lib.hid h0
    have HR : Hid (nuC q = false) := Lib.hid (by rw [nuC, h0]; rfl)
    clear h0
    go_enter Try.func81, Try.ntmps81
    go_upto_region 1 with fail
    try rw [hWW]
    clear hWW
    go_wp2_with (first
      | (go_at_call 121; refine (c20within W.heap.size (bnds q) _ 16 rfl (newB W _ _ rfl) (by simp) (by simp [bnds])).mono ?_; rintro e w1 ⟨rfl, b1'⟩; rw [H0.out]; have b1 : Below W.heap.size W w1 := ((Below.refl _ W).alloc (Nat.le_refl _) _).trans (b1'.mono (by simp)); clear b1'; have km := (b1.cell (p := ⟨w.heap.size, 28, none⟩) hz).trans k_mss))
    all_goals clear k_lo k_hi k_quota k_binds k_sess k_bufs k_byts k_tmtu k_nmtu k_hop k_mss k_filt k_udp k_tcp k_trans k_query k_frag
    all_goals try (go_ret; exact ⟨ret_bool HR.out.symm, hW0.bel.trans (b1.mono hW0.bel.size)⟩)
    all_goals (have hbad : ∃ b, some undef = some (Value.bool b) := ⟨_, by assumption⟩)
    all_goals (obtain ⟨b, hb⟩ := hbad)
    all_goals (simp [undef] at hb)
  have H0 := Lib.hid h0
  by_cases hm0 : q.mss = 0
  · have HR : Hid (nuC q = true) := Lib.hid (by rw [nuC, h0, hm0]; rfl)
    clear h0
    rw [hm0] at k_mss
    go_enter Try.func81, Try.ntmps81
    go_upto_region 1 with fail
    try rw [hWW]
    clear hWW
    go_wp2_with (first
      | (go_at_call 121; refine (c20within W.heap.size (bnds q) _ 16 rfl (newB W _ _ rfl) (by simp) (by simp [bnds])).mono ?_; rintro e w1 ⟨rfl, b1'⟩; rw [H0.out]; have b1 : Below W.heap.size W w1 := ((Below.refl _ W).alloc (Nat.le_refl _) _).trans (b1'.mono (by simp)); clear b1'; have km := (b1.cell (p := ⟨w.heap.size, 28, none⟩) hz).trans k_mss))
    go_ret
    exact ⟨ret_bool HR.out.symm, hW0.bel.trans (b1.mono hW0.bel.size)⟩
  have hm1 : (q.mss == 0) = false := by simpa using hm0
  have hm2 : decide (q.mss = 0) = false := by simpa using hm0
  rcases h2 : [(⟨q.mss, 536, 65535⟩ : Bnd)].all inB3 with _ | _
  · have H2 := Lib.hid h2
    have HR : Hid (nuC q = false) := Lib.hid (by rw [nuC, h0, hm2, show inn q.mss 536 65535 = [(⟨q.mss, 536, 65535⟩ : Bnd)].all inB3 by simp [inB3], h2]; rfl)
    clear h0 h2
    go_enter Try.func81, Try.ntmps81
    go_upto_region 1 with fail
    try rw [hWW]
    clear hWW
    go_wp2_with (first
      | (go_at_call 121; refine (c20within W.heap.size (bnds q) _ 16 rfl (newB W _ _ rfl) (by simp) (by simp [bnds])).mono ?_; rintro e w1 ⟨rfl, b1'⟩; rw [H0.out]; have b1 : Below W.heap.size W w1 := ((Below.refl _ W).alloc (Nat.le_refl _) _).trans (b1'.mono (by simp)); clear b1'; have km := (b1.cell (p := ⟨w.heap.size, 28, none⟩) hz).trans k_mss)
      | (go_at_call 121; refine (c20within w1.heap.size [⟨q.mss, 536, 65535⟩] _ 1 rfl (newB w1 _ _ rfl) (by simp) (by simp)).mono ?_; rintro e w2 ⟨rfl, b2'⟩; rw [H2.out]; have b2 : Below w1.heap.size w1 w2 := ((Below.refl _ w1).alloc (Nat.le_refl _) _).trans (b2'.mono (by simp)); clear b2'))
    go_ret
    exact ⟨ret_bool HR.out.symm, hW0.bel.trans ((b1.trans (b2.mono b1.size)).mono hW0.bel.size)⟩
  · have H2 := Lib.hid h2
    have HR : Hid (nuC q = true) := Lib.hid (by rw [nuC, h0, hm2, show inn q.mss 536 65535 = [(⟨q.mss, 536, 65535⟩ : Bnd)].all inB3 by simp [inB3], h2]; rfl)
    clear h0 h2
    go_enter Try.func81, Try.ntmps81
    go_upto_region 1 with fail
    try rw [hWW]
    clear hWW
    go_wp2_with (first
      | (go_at_call 121; refine (c20within W.heap.size (bnds q) _ 16 rfl (newB W _ _ rfl) (by simp) (by simp [bnds])).mono ?_; rintro e w1 ⟨rfl, b1'⟩; rw [H0.out]; have b1 : Below W.heap.size W w1 := ((Below.refl _ W).alloc (Nat.le_refl _) _).trans (b1'.mono (by simp)); clear b1'; have km := (b1.cell (p := ⟨w.heap.size, 28, none⟩) hz).trans k_mss)
      | (go_at_call 121; refine (c20within w1.heap.size [⟨q.mss, 536, 65535⟩] _ 1 rfl (newB w1 _ _ rfl) (by simp) (by simp)).mono ?_; rintro e w2 ⟨rfl, b2'⟩; rw [H2.out]; have b2 : Below w1.heap.size w1 w2 := ((Below.refl _ w1).alloc (Nat.le_refl _) _).trans (b2'.mono (by simp)); clear b2'))
    go_ret
    exact ⟨ret_bool HR.out.symm, hW0.bel.trans ((b1.trans (b2.mono b1.size)).mono hW0.bel.size)⟩
end Go.Proofs.Ytogidfagkgccmaa

/-
  What the code of layer 20 finds twice; Check, Softwire, Wait. Conditions are each theorem's own.
-/
namespace Go.Proofs.Ytogidfagkgccmaa
open Go.RowKit Go.Shelf
theorem ld_slS {o : Oper} {a : Act} {w : World} {x : Operand} {p : Addr} {A : Option Addr} {n c : Nat} (ho : o.op = .load 72 x) (hx : a.eval x = .pointer (some p)) (hc : w.cell? p = some (.slice A n c)) :
    (execOp a.eval o).run Try.prog w = .ok (.value (.slice A n c)) w := by
  unfold execOp
  simp only [ho, hx, Instr.loadAt, Instr.sureAddr, Sem.run_bind, Sem.run_pure, Result.andThen_ok]
  go_simp
theorem ld_slX {o : Oper} {a : Act} {w : World} {x : Operand} {p : Addr} {A : Option Addr} {n c : Nat} (ho : o.op = .load 71 x) (hx : a.eval x = .pointer (some p)) (hc : w.cell? p = some (.slice A n c)) :
    (execOp a.eval o).run Try.prog w = .ok (.value (.slice A n c)) w := by
  unfold execOp
  simp only [ho, hx, Instr.loadAt, Instr.sureAddr, Sem.run_bind, Sem.run_pure, Result.andThen_ok]
  go_simp
theorem ld_slI {o : Oper} {a : Act} {w : World} {x : Operand} {p : Addr} {A : Option Addr} {n c : Nat} (ho : o.op = .load 53 x) (hx : a.eval x = .pointer (some p)) (hc : w.cell? p = some (.slice A n c)) :
    (execOp a.eval o).run Try.prog w = .ok (.value (.slice A n c)) w := by
  unfold execOp
  simp only [ho, hx, Instr.loadAt, Instr.sureAddr, Sem.run_bind, Sem.run_pure, Result.andThen_ok]
  go_simp
theorem row_flat (l : List (List UInt8)) (h : ∀ a ∈ l, a.length = 16) : (l.flatMap row).length = l.length * 16 := flat_len l (fun a ha => by rw [row_length]; exact h a ha)
theorem info_six : (Try.prog.info? 70).map (fun i => (i.zero, i.size, i.bytes)) = some (some (.agg #[.int .u8 0, .int .u8 0, .int .u8 0, .int .u8 0, .int .u8 0, .int .u8 0, .int .u8 0, .int .u8 0, .int .u8 0, .int .u8 0, .int .u8 0, .int .u8 0, .int .u8 0, .int .u8 0, .int .u8 0, .int .u8 0]), 16, 16) := by kernel_rfl
set_option maxRecDepth 100000 in
theorem c20many (q : Cfg) (B : Nat) (w : World) (hq : Fits q) (hm : MemC w B q) (hB : B ≤ w.heap.size) :
    Calls Try.prog 85 #[.agg (cfa q)] w fun e w' => e = .returned (.bool (decide ((mx (q.stat.map Sta.sw) : Int) > q.quota))) ∧ Below w.heap.size w w' := by
  have hW0 := BoxC.mk' w q
  generalize hWW : w.alloc (.cells (cfa q) 74) = W at hW0
  have hz := hW0.lt
  have a16 := hq.aftr
  have k3 : W.cell? ⟨w.heap.size, 35, none⟩ = some (.slice q.A3 q.stat.length q.c3) := hW0.at_.at_ a16 (j := 19) rfl
  have kq : W.cell? ⟨w.heap.size, 20, none⟩ = some (.int .i64 q.quota) := hW0.at_.at_ a16 (j := 4) rfl
  have l3 := hq.n3
  have hcall : ∀ U, Below W.heap.size W U → Calls Try.prog 135 #[.slice q.A3 q.stat.length q.c3, .func (.func 136) #[] #[]] U fun e w' => e = .returned (.int .i64 (mx (q.stat.map Sta.sw) : Nat)) ∧ Below U.heap.size U w' := fun U hU =>
    alkSw q.A3 q.c3 q.stat B U ((hW0.mem hm hB).stat.below (hU.mono (Nat.le_trans hB hW0.bel.size))) (Nat.le_trans hB (Nat.le_trans hW0.bel.size hU.size)) (by omega) hq.i3
  generalize mx (q.stat.map Sta.sw) = M at hcall ⊢
  have k3S : ∀ V, Below W.heap.size W V → V.cell? ⟨w.heap.size, 35, none⟩ = some (.slice q.A3 q.stat.length q.c3) := fun V hV => (hV.cell (p := ⟨w.heap.size, 35, none⟩) hz).trans k3
  have kqS : ∀ V, Below W.heap.size W V → V.cell? ⟨w.heap.size, 20, none⟩ = some (.int .i64 q.quota) := fun V hV => (hV.cell (p := ⟨w.heap.size, 20, none⟩) hz).trans kq
  have HR : Hid (decide (q.quota < (M : Int)) = decide ((M : Int) > q.quota)) := Lib.hid rfl
  go_enter Try.func85, Try.ntmps85
  go_upto_region 1 with fail
  try rw [hWW]
  clear hWW
  refine wp_region_held_drew (S := fun w' => Below W.heap.size W w') (by kernel_rfl) (Below.refl _ W).drew (fun hS => ?_)
  refine held_pure (i := 0) (oi := ⟨some 3, _, _, _, _, _⟩) rfl (by kernel_rfl) (by kernel_rfl) (by kernel_rfl) (fun _ _ _ h => h) (by rfl) (v := ?_) (fun w hSw => ?_) hS (fun hS => ?_)
  rotate_left
  · go_simp; try with_reducible rfl
  try go_frame
  refine held_pure (i := 1) (oi := ⟨some 4, _, _, _, _, _⟩) rfl (by kernel_rfl) (by kernel_rfl) (by kernel_rfl) (fun _ _ _ h => h) (by rfl) (fun w hSw => ld_slS rfl rfl (k3S _ hSw)) hS (fun hS => ?_)
  try go_frame
  refine held_pure (i := 3) (oi := ⟨some 6, _, _, _, _, _⟩) rfl (by kernel_rfl) (by kernel_rfl) (by kernel_rfl) (fun _ _ _ h => h) (by rfl) (v := ?_) (fun w hSw => ?_) hS (fun hS => ?_)
  rotate_left
  · go_simp; try with_reducible rfl
  try go_frame
  refine held_pure (i := 4) (oi := ⟨some 7, _, _, _, _, _⟩) rfl (by kernel_rfl) (by kernel_rfl) (by kernel_rfl) (fun _ _ _ h => h) (by rfl) (fun w hSw => run_load_int rfl rfl (kqS _ hSw)) hS (fun hS => ?_)
  try go_frame
  refine wpAnyH_ready (rs := [2]) (by kernel_rfl) (by simp) (AllReadyH.cons (o := ⟨some 5, _, _, _, _, _⟩) rfl (fun K hK => ?_) AllReadyH.nil)
  rw [if_pos (by rfl)]
  go_simp
  refine (hcall _ hS).mono ?_
  rintro e w2 ⟨rfl, x2⟩
  show K _ _
  refine hK.out _ _ (below_step hS x2) (fun hS => ?_)
  clear hK K
  try go_frame
  refine held_pure (i := 5) (oi := ⟨some 8, _, _, _, _, _⟩) rfl (by kernel_rfl) (by kernel_rfl) (by kernel_rfl) (fun _ _ _ h => h) (by rfl) (v := .bool (decide ((M : Int) > q.quota))) (fun w hSw => by go_simp) hS (fun hS => ?_)
  try go_frame
  refine held_pure (i := 6) (oi := ⟨some 2, _, _, _, _, _⟩) rfl (by kernel_rfl) (by kernel_rfl) (by kernel_rfl) (fun _ _ _ h => h) (by rfl) (v := ?_) (fun w hSw => ?_) hS (fun hS => ?_)
  rotate_left
  · go_simp; try with_reducible rfl
  try go_frame
  refine wpAnyH_done (by kernel_rfl) ?_ _
  go_wp2_with fail
  go_ret
  exact ⟨rfl, hW0.bel.trans (hS.mono hW0.bel.size)⟩
set_option maxRecDepth 100000 in
set_option maxHeartbeats 1000000 in
theorem c20two (q : Cfg) (B : Nat) (w : World) (hq : Fits q) (hm : MemC w B q) (hB : B ≤ w.heap.size) :
    Calls Try.prog 84 #[.agg (cfa q)] w fun e w' => e = .returned (.bool (decide ((mx (q.stat.map inS) : Nat) > (1 : Int)) || decide ((mx (q.stat.map ouS) : Nat) > (1 : Int)))) ∧ Below w.heap.size w w' := by
  have hW0 := BoxC.mk' w q
  generalize hWW : w.alloc (.cells (cfa q) 74) = W at hW0
  have hz := hW0.lt
  have a16 := hq.aftr
  have k3 : W.cell? ⟨w.heap.size, 35, none⟩ = some (.slice q.A3 q.stat.length q.c3) := hW0.at_.at_ a16 (j := 19) rfl
  have l3 := hq.n3
  obtain ⟨M1, hM1⟩ : ∃ M, M = mx (q.stat.map inS) := ⟨_, rfl⟩
  obtain ⟨M2, hM2⟩ : ∃ M, M = mx (q.stat.map ouS) := ⟨_, rfl⟩
  rw [← hM1, ← hM2]
  have HM1 := Lib.hid hM1
  have HM2 := Lib.hid hM2
  clear hM1 hM2
  by_cases h1 : (1 : Int) < M1
  · have HR : Hid ((decide ((M1 : Nat) > (1 : Int)) || decide ((M2 : Nat) > (1 : Int))) = true) := Lib.hid (by rw [show decide ((M1 : Nat) > (1 : Int)) = true from decide_eq_true h1]; rfl)
    go_enter Try.func84, Try.ntmps84
    go_upto_region 1 with fail
    try rw [hWW]
    clear hWW
    go_wp2_with (first
      | (go_at_call 131; refine (alkInner q.A3 q.c3 q.stat B W (hW0.mem hm hB).stat (Nat.le_trans hB hW0.bel.size) (by omega) hq.i3).mono ?_; rintro e w1 ⟨rfl, b1⟩; rw [← HM1.out]; have hW1 := hW0.more b1; have k3' := (b1.cell (p := ⟨w.heap.size, 35, none⟩) hz).trans k3))
    go_ret
    exact ⟨ret_bool HR.out.symm, hW1.bel⟩
  · have HR : Hid (decide ((1 : Int) < M2) = (decide ((M1 : Nat) > (1 : Int)) || decide ((M2 : Nat) > (1 : Int)))) := Lib.hid (by rw [show decide ((M1 : Nat) > (1 : Int)) = false from decide_eq_false h1]; rfl)
    go_enter Try.func84, Try.ntmps84
    go_upto_region 1 with fail
    try rw [hWW]
    clear hWW
    go_wp2_with (first
      | (go_at_call 131; refine (alkInner q.A3 q.c3 q.stat B W (hW0.mem hm hB).stat (Nat.le_trans hB hW0.bel.size) (by omega) hq.i3).mono ?_; rintro e w1 ⟨rfl, b1⟩; rw [← HM1.out]; have hW1 := hW0.more b1; have k3' := (b1.cell (p := ⟨w.heap.size, 35, none⟩) hz).trans k3)
      | (go_at_call 133; refine (alkOuter q.A3 q.c3 q.stat B w1 (hW1.mem hm hB).stat (Nat.le_trans hB hW1.bel.size) (by omega) hq.i3).mono ?_; rintro e w2 ⟨rfl, b2⟩; rw [← HM2.out]; have hW2 := hW1.more b2))
    go_ret
    exact ⟨by rw [← HR.out]; rfl, hW2.bel⟩
theorem run_bsSix {o : Oper} {a : Act} {w : World} {x : Operand} {cs : Array Value} (ho : o.op = .buildSlice 71 1 #[(0, x)]) (hx : a.eval x = .agg cs) (hl : cs.size = 16) :
    (execOp a.eval o).run Try.prog w = .ok (.value (.slice (some ⟨w.heap.size, 0, none⟩) 1 1)) (w.alloc (.cells cs 70)) := by
  obtain ⟨i0, hi, hz0, hz1, hz2⟩ := info_parts info_six
  have h := run_lit1 (P := Try.prog) w 71 70 i0 _ cs 16 Try.underlying71 hi hz0 hz1 hl (by decide) (by decide)
  unfold execOp
  simp only [ho, List.map_toArray, List.map_cons, List.map_nil, hx, Sem.run_bind, h, Result.andThen_ok]
  rfl
set_option maxRecDepth 100000 in
theorem append_six {w : World} {ops : Array Oper} {rest : List Oper} {o : Oper} {a : Act} {Q : Exit → Act → World → Prop} (hgd : o.guard = none) (s x : Operand)
    (ho : o.op = .call { callee := .builtin .append, args := #[s, x], argTypes := #[71, 71] })
    (base : Nat) (v : Value) (n : Nat) (xs : List Value) (hs : a.eval s = v) (hown : w.ownsRow base 70 16 v n xs)
    (B : Nat) (A : Option Addr) (m c : Nat) (l : List (List UInt8)) (hx : a.eval x = .slice A m c) (hm : m = l.length) (hA : A = none → c = 0) (hr : RdS row 16 w B A l) (hl16 : ∀ y ∈ l, y.length = 16)
    (hlen : n + m ≤ 1000000) (hbase : base ≤ w.heap.size)
    (h : ∀ v' w', w'.ownsRow base 70 16 v' (n + m) (xs ++ l.flatMap row) → w.grownBy w' v.ownBlock → wpList Try.prog ops Q rest (a.put o.dst v') w') : wpList Try.prog ops Q (o :: rest) a w := by
  obtain ⟨i0, hi, hz0, hz1, hz2⟩ := info_parts info_six
  subst hm
  rcases A with _ | ad
  · have h0 : l = [] := by
      rcases Nat.eq_zero_or_pos l.length with e | e
      · exact List.eq_nil_of_length_eq_zero e
      · obtain ⟨_, _, e', _⟩ := hr e; cases e'
    subst h0
    obtain rfl := hA rfl
    have hrun := run_append_owned_none (P := Try.prog) (w := w) base 71 o.type 70 i0 16 Try.underlying71 hi v n xs hown
    refine wpList_turn (v := v) (w' := w) hgd ?_ (h v w (by simpa using hown) (World.grownBy.refl w _))
    simp [execOp, ho, resolve, invoke, builtin, hs, hx, hrun, Result.andThen]
  refine wpList_append_own w hgd s x 71 ho base 70 i0 _ 16 16 Try.underlying71 hi hz0 hz1 hz2 rfl (by decide) v n xs hs hown ad l.length c (l.flatMap row) hx
    (row_flat l hl16) (fun j u hj => ?_) (fun u hu => ?_) (by unfold maxLen; omega) (by omega) hbase (fun v' w' h1 h2 _ => h v' w' h1 h2)
  · have hj3 : j < l.length * 16 := by have := (List.getElem?_eq_some_iff.1 hj).1; rwa [row_flat l hl16] at this
    obtain ⟨b, off, e, _, hc⟩ := hr (by omega)
    injection e with e
    subst e
    have hk : j / 16 < l.length := by omega
    obtain ⟨y, hy⟩ : ∃ y, l[j / 16]? = some y := ⟨_, List.getElem?_eq_getElem hk⟩
    have hy16 := hl16 y (List.mem_of_getElem? hy)
    have hlt : j % 16 < (row y).length := by rw [row_length, hy16]; omega
    have hv : (row y)[j % 16]? = some (row y)[j % 16] := List.getElem?_eq_getElem hlt
    have h1 := flat_at (cl := row) (sz := 16) l (fun z hz => by rw [row_length]; exact hl16 z hz) (j / 16) y hy (j % 16) _ hv
    rw [show j / 16 * 16 + j % 16 = j by omega, hj] at h1
    have h2 := hc (j / 16) y hy (j % 16) _ hv
    rw [add_off, show off + j = off + j / 16 * 16 + j % 16 by omega, h2]
    exact h1.symm
  · obtain ⟨y, _, hy⟩ := List.mem_flatMap.1 hu
    exact row_one y u hy
theorem BoxC.grown1 {w W W' : World} {q : Cfg} {cs : Array Value} {t : TypeId} (h : BoxC w W q) (hg : (W.alloc (.cells cs t)).grownBy W' (Value.slice (some ⟨W.heap.size, 0, none⟩) 1 1).ownBlock) : BoxC w W' q :=
  h.more (((Below.refl W.heap.size W).alloc (Nat.le_refl _) _).grown hg (by simp) (fun k e => by cases e; exact Nat.le_refl _))
set_option maxRecDepth 100000 in
set_option maxHeartbeats 1000000 in
theorem c20adt (q : Cfg) (B : Nat) (w : World) (hq : Fits q) (hm : MemC w B q) (hB : B ≤ w.heap.size) :
    Calls Try.prog 83 #[.agg (cfa q)] w fun e w' => e = .returned (.bool (decide ((mx (q.aftr :: q.sws) : Nat) > (1 : Int)) || decide ((mx q.pool : Nat) > (1 : Int)))) ∧ Below w.heap.size w w' := by
  have hW0 := BoxC.mk' w q
  generalize hWW : w.alloc (.cells (cfa q) 74) = W at hW0
  have hz := hW0.lt
  have a16 := hq.aftr
  have k1 : W.cell? ⟨w.heap.size, 16, none⟩ = some (.slice q.A1 q.sws.length q.c1) := hW0.at_.at_ a16 (j := 0) rfl
  have k2 : W.cell? ⟨w.heap.size, 17, none⟩ = some (.slice q.A2 q.pool.length q.c2) := hW0.at_.at_ a16 (j := 1) rfl
  have l1 := hq.n1
  have l2 := hq.n2
  have hra : (row q.aftr).length = 16 := by rw [row_length]; exact a16
  have hrs : (row q.aftr).toArray.size = 16 := by simpa using hra
  have hr16' : ∀ x ∈ q.aftr :: q.sws, x.length = 16 := fun x hx => by
    rcases List.mem_cons.1 hx with rfl | h
    · exact a16
    · exact hq.sws x h
  have hr16 : ∀ x ∈ q.aftr :: q.sws, (row x).length = 16 := fun x hx => by rw [row_length]; exact hr16' x hx
  have hbW1 : Below w.heap.size w (W.alloc (.cells (row q.aftr).toArray 70)) := hW0.bel.alloc hW0.bel.size _
  have hle0 : w.heap.size ≤ (W.alloc (.cells (row q.aftr).toArray 70)).heap.size := hbW1.size
  have hown0 : (W.alloc (.cells (row q.aftr).toArray 70)).ownsRow w.heap.size 70 16 (.slice (some ⟨W.heap.size, 0, none⟩) 1 1) 1 (row q.aftr) := World.ownsRow_lit (base := w.heap.size) (e := 70) (size := 16) W (row q.aftr).toArray 1 hW0.bel.size (by decide) hrs
  have hsw0 : RdS row 16 (W.alloc (.cells (row q.aftr).toArray 70)) B q.A1 q.sws := (hm.below (hbW1.mono hB)).sws
  obtain ⟨M1, hM1⟩ : ∃ M, M = mx (q.aftr :: q.sws) := ⟨_, rfl⟩
  obtain ⟨M2, hM2⟩ : ∃ M, M = mx q.pool := ⟨_, rfl⟩
  rw [← hM1, ← hM2]
  have HM1 := Lib.hid hM1
  have HM2 := Lib.hid hM2
  clear hM1 hM2
  by_cases h1 : (1 : Int) < M1
  · have HR : Hid ((decide ((M1 : Nat) > (1 : Int)) || decide ((M2 : Nat) > (1 : Int))) = true) := Lib.hid (by rw [show decide ((M1 : Nat) > (1 : Int)) = true from decide_eq_true h1]; rfl)
    go_enter Try.func83, Try.ntmps83
    go_upto_region 1 with fail
    try rw [hWW]
    clear hWW
    go_wp2_with (first
      | ((with_reducible show wpList _ _ _ (Oper.mk _ (Op.load 70 _) _ _ _ _ :: _) _ _); refine wpList_val rfl (ld_six rfl rfl (hW0.at_.six a16) hra) ?_)
      | ((with_reducible show wpList _ _ _ (Oper.mk _ (Op.buildSlice _ _ _) _ _ _ _ :: _) _ _); refine wpList_turn rfl (run_bsSix rfl rfl hrs) ?_)
      | (at_builtin; refine append_six rfl _ _ rfl w.heap.size _ 1 (row q.aftr) rfl hown0 B q.A1 _ q.c1 q.sws rfl rfl hq.z1 hsw0 hq.sws (by omega) hle0 ?_; intro v' w3 hown hgrow; obtain ⟨A', c', rfl, hrd, hle⟩ := own_rds (l := q.aftr :: q.sws) (cl := row) hown (by simp; omega) (by simp) hr16; have b3 : Below w.heap.size w w3 := hbW1.grown hgrow hle0 (fun k e => by cases e; exact hW0.bel.size); have hW3 := hW0.grown1 hgrow; have k2' := hW3.at_.at_ a16 (j := 1) rfl; have hm3 := hm.below (b3.mono hB))
      | (go_at_call 127; refine (alkSix A' c' (q.aftr :: q.sws) w3.heap.size w3 hrd (Nat.le_refl _) (by simp; omega) hr16').mono ?_; rintro e w4 ⟨rfl, b4⟩; rw [List.map_id, ← HM1.out]; have hW4 := hW3.more b4; have k2'' := hW4.at_.at_ a16 (j := 1) rfl; have hm4 := hW4.mem hm hB))
    go_ret
    exact ⟨ret_bool HR.out.symm, hW4.bel⟩
  · have HR : Hid (decide ((1 : Int) < M2) = (decide ((M1 : Nat) > (1 : Int)) || decide ((M2 : Nat) > (1 : Int)))) := Lib.hid (by rw [show decide ((M1 : Nat) > (1 : Int)) = false from decide_eq_false h1]; rfl)
    go_enter Try.func83, Try.ntmps83
    go_upto_region 1 with fail
    try rw [hWW]
    clear hWW
    go_wp2_with (first
      | ((with_reducible show wpList _ _ _ (Oper.mk _ (Op.load 70 _) _ _ _ _ :: _) _ _); refine wpList_val rfl (ld_six rfl rfl (hW0.at_.six a16) hra) ?_)
      | ((with_reducible show wpList _ _ _ (Oper.mk _ (Op.buildSlice _ _ _) _ _ _ _ :: _) _ _); refine wpList_turn rfl (run_bsSix rfl rfl hrs) ?_)
      | (at_builtin; refine append_six rfl _ _ rfl w.heap.size _ 1 (row q.aftr) rfl hown0 B q.A1 _ q.c1 q.sws rfl rfl hq.z1 hsw0 hq.sws (by omega) hle0 ?_; intro v' w3 hown hgrow; obtain ⟨A', c', rfl, hrd, hle⟩ := own_rds (l := q.aftr :: q.sws) (cl := row) hown (by simp; omega) (by simp) hr16; have b3 : Below w.heap.size w w3 := hbW1.grown hgrow hle0 (fun k e => by cases e; exact hW0.bel.size); have hW3 := hW0.grown1 hgrow; have k2' := hW3.at_.at_ a16 (j := 1) rfl; have hm3 := hm.below (b3.mono hB))
      | (go_at_call 127; refine (alkSix A' c' (q.aftr :: q.sws) w3.heap.size w3 hrd (Nat.le_refl _) (by simp; omega) hr16').mono ?_; rintro e w4 ⟨rfl, b4⟩; rw [List.map_id, ← HM1.out]; have hW4 := hW3.more b4; have k2'' := hW4.at_.at_ a16 (j := 1) rfl; have hm4 := hW4.mem hm hB)
      | (go_at_call 129; refine (alkInt q.A2 q.c2 q.pool B w4 hm4.pool (Nat.le_trans hB hW4.bel.size) (by omega) hq.i2).mono ?_; rintro e w5 ⟨rfl, b5⟩; rw [List.map_id, ← HM2.out]; have hW5 := hW4.more b5))
    go_ret
    exact ⟨by rw [← HR.out]; rfl, hW5.bel⟩
end Go.Proofs.Ytogidfagkgccmaa
