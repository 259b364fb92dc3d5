/-
  Contracts and lemmas on which the proofs of this seat stand (several texts in one). Conditions are each theorem's own.
-/
import Derived.Test.YtobkiffiapjhgaaMa6

/-
  Contracts of layer 9's Check, numbers, Same, Fault, Query and ID, the program's and the document's; of layer 10's Fault. Conditions are each theorem's own.
-/
namespace Go.Proofs.Ytobkiffiapjhgaa
open Go.RowKit

theorem rIfault (k : Int) (w : World) : Calls Try.prog 21 #[.int .i64 k] w fun e w' => e = .returned (.bool (fltI k)) ∧ w = w' := by
  have H := Lib.hid (show fltI k = ((decide (3 ≤ k) && decide (k ≤ 5)) || (k == 11) || (k == 12)) by
    rw [fltI, Bool.eq_iff_iff]; simp; omega)
  cases e0 : decide (3 ≤ k) <;> cases e1 : decide (k ≤ 5) <;> cases e2 : (k == 11) <;> cases e3 : (k == 12)
  all_goals
    go_enter Try.func21, Try.ntmps21
    go_wp2_with fail
    go_ret
    exact ⟨ret_bool (by rw [H.out, e0, e1, e2, e3]; rfl), rfl⟩
theorem rIquery (k : Int) (w : World) : Calls Try.prog 23 #[.int .i64 k] w fun e w' => e = .returned (.bool (qryI k)) ∧ w = w' := by
  have H := Lib.hid (show qryI k = ((k == 0) || (k == 8)) by
    rw [qryI, Bool.eq_iff_iff]; simp; omega)
  cases e0 : (k == 0) <;> cases e1 : (k == 8)
  all_goals
    go_enter Try.func23, Try.ntmps23
    go_wp2_with fail
    go_ret
    exact ⟨ret_bool (by rw [H.out, e0, e1]; rfl), rfl⟩
theorem cJfault (k : Int) (w : World) : Calls Try.prog 33 #[.int .i64 k] w fun e w' => e = .returned (.bool (fltJ k)) ∧ w = w' := by
  have H := Lib.hid (show fltJ k = (decide (1 ≤ k) && decide (k ≤ 127)) by
    rw [fltJ, Bool.eq_iff_iff]; simp)
  cases e0 : decide (1 ≤ k) <;> cases e1 : decide (k ≤ 127)
  all_goals
    go_enter Try.func33, Try.ntmps33
    go_wp2_with fail
    go_ret
    exact ⟨ret_bool (by rw [H.out, e0, e1]; rfl), rfl⟩
theorem rJfault (k : Int) (w : World) : Calls Try.prog 34 #[.int .i64 k] w fun e w' => e = .returned (.bool (fltJ k)) ∧ w = w' := by
  have H := Lib.hid (show fltJ k = (decide (1 ≤ k) && decide (k ≤ 127)) by
    rw [fltJ, Bool.eq_iff_iff]; simp)
  cases e0 : decide (1 ≤ k) <;> cases e1 : decide (k ≤ 127)
  all_goals
    go_enter Try.func34, Try.ntmps34
    go_wp2_with fail
    go_ret
    exact ⟨ret_bool (by rw [H.out, e0, e1]; rfl), rfl⟩
theorem freshI_any (A : Option Addr) (bs : List UInt8) (c B : Nat) (w : World) (h : Arg w B A c bs) (hl : bs.length ≤ 1099511627776) :
    Calls Try.prog 46 #[.slice A bs.length c] w fun e w' => ∃ v, e = .returned v ∧ Made w w' v bs := by
  have hr := h.rd
  have hn := h.none_
  go_enter Try.func46, Try.ntmps46
  go_wp2_with (at_builtin; refine append_rd rfl _ _ rfl w.heap.size _ _ _ rfl (World.ownsRow_nil _ _ _ _) B A c bs rfl hn hr (by omega) (Nat.le_refl _) ?_; intro v1 w1 hown hgrow)
  go_ret
  have hb1 : Below w.heap.size w w1 := (Below.refl _ w).grown hgrow (Nat.le_refl _) (fun k hk => by cases (show (none : Option Nat) = some k from hk))
  exact ⟨_, rfl, Made.of_own (by simpa using hown) hb1⟩
section
variable (q : PI) (A : Option Addr) (c : Nat) (w : World)
set_option maxRecDepth 100000 in
theorem cIcheck (hl : q.dat.length ≤ 1000000) : Calls Try.prog 14 #[isv q A c] w fun e w' => e = .returned (.int .i64 (chkI q)) ∧ Below w.heap.size w w' := by
  have hB : Below w.heap.size w (w.alloc (.cells (isa q A c) 24)) := (Below.refl w.heap.size w).alloc (Nat.le_refl _) _
  have hAt := Atis.new (q := q) (A := A) (c := c) w
  have hz : w.heap.size < (w.alloc (.cells (isa q A c) 24)).heap.size := by simp
  rw [isv_eq]
  have HO := Lib.hid (argI_iff q)
  have k0 := hAt.typ; have k1 := hAt.code; have k2 := hAt.rest; have k3 := hAt.dat
  go_enter Try.func14, Try.ntmps14
  go_upto_region 1 with fail
  generalize w.alloc (.cells (isa q A c) 24) = W at *
  by_cases ho : argI q
  · obtain ⟨g0, g1, g2⟩ := HO.out.1 ho
    have H0 := Lib.hid g0; have H1 := Lib.hid g1; have H2 := Lib.hid g2
    clear g0 g1 g2
    by_cases s : 65527 < q.dat.length
    · have HE := Lib.hid (show chkI q = 6 by rw [chkI, if_pos ho, if_pos (by omega)])
      clear ho HO hAt
      go_wp2_with (go_at_call 41; refine (fits_any _ _ _).mono ?_; rintro e w' ⟨rfl, rfl⟩; (first | rw [H0.out] | rw [H1.out] | rw [H2.out] | skip))
      go_ret
      exact ⟨ret_int (by rw [HE.out]), hB⟩
    · have HE := Lib.hid (show chkI q = 0 by rw [chkI, if_pos ho, if_neg (by omega)])
      clear ho HO hAt
      go_wp2_with (go_at_call 41; refine (fits_any _ _ _).mono ?_; rintro e w' ⟨rfl, rfl⟩; (first | rw [H0.out] | rw [H1.out] | rw [H2.out] | skip))
      go_ret
      exact ⟨ret_int (by rw [HE.out]), hB⟩
  · have HE := Lib.hid (show chkI q = 1 by rw [chkI, if_neg ho])
    have hno : ¬ (fitsB q.typ 1 = true ∧ fitsB q.code 1 = true ∧ fitsB q.rest 4 = true) := fun h => ho (HO.out.2 h)
    clear ho HO hAt
    cases h0 : fitsB q.typ 1
    · have H0 := Lib.hid h0; have H1 := H0; have H2 := H0
      clear hno h0
      go_wp2_with (go_at_call 41; refine (fits_any _ _ _).mono ?_; rintro e w' ⟨rfl, rfl⟩; (first | rw [H0.out] | rw [H1.out] | rw [H2.out] | skip))
      go_ret
      exact ⟨ret_int (by rw [HE.out]), hB⟩
    · have H0 := Lib.hid h0
      rw [h0] at hno; clear h0
      cases h1 : fitsB q.code 1
      · have H1 := Lib.hid h1; have H2 := H1
        clear hno h1
        go_wp2_with (go_at_call 41; refine (fits_any _ _ _).mono ?_; rintro e w' ⟨rfl, rfl⟩; (first | rw [H0.out] | rw [H1.out] | rw [H2.out] | skip))
        go_ret
        exact ⟨ret_int (by rw [HE.out]), hB⟩
      · have H1 := Lib.hid h1
        rw [h1] at hno; clear h1
        cases h2 : fitsB q.rest 4
        · have H2 := Lib.hid h2
          clear hno h2
          go_wp2_with (go_at_call 41; refine (fits_any _ _ _).mono ?_; rintro e w' ⟨rfl, rfl⟩; (first | rw [H0.out] | rw [H1.out] | rw [H2.out] | skip))
          go_ret
          exact ⟨ret_int (by rw [HE.out]), hB⟩
        · exact absurd ⟨rfl, rfl, h2⟩ hno
set_option maxRecDepth 100000 in
theorem rIcheck (hl : q.dat.length ≤ 1000000) : Calls Try.prog 15 #[isv q A c] w fun e w' => e = .returned (.int .i64 (chkI q)) ∧ Below w.heap.size w w' := by
  have hB : Below w.heap.size w (w.alloc (.cells (isa q A c) 24)) := (Below.refl w.heap.size w).alloc (Nat.le_refl _) _
  have hAt := Atis.new (q := q) (A := A) (c := c) w
  have hz : w.heap.size < (w.alloc (.cells (isa q A c) 24)).heap.size := by simp
  rw [isv_eq]
  have HO := Lib.hid (argI_iff q)
  have k0 := hAt.typ; have k1 := hAt.code; have k2 := hAt.rest; have k3 := hAt.dat
  go_enter Try.func15, Try.ntmps15
  go_upto_region 1 with fail
  generalize w.alloc (.cells (isa q A c) 24) = W at *
  by_cases ho : argI q
  · obtain ⟨g0, g1, g2⟩ := HO.out.1 ho
    have H0 := Lib.hid g0; have H1 := Lib.hid g1; have H2 := Lib.hid g2
    clear g0 g1 g2
    by_cases s : 65527 < q.dat.length
    · have HE := Lib.hid (show chkI q = 6 by rw [chkI, if_pos ho, if_pos (by omega)])
      clear ho HO hAt
      go_wp2_with (go_at_call 42; refine (rfits_any _ _ _).mono ?_; rintro e w' ⟨rfl, rfl⟩; (first | rw [H0.out] | rw [H1.out] | rw [H2.out] | skip))
      go_ret
      exact ⟨ret_int (by rw [HE.out]), hB⟩
    · have HE := Lib.hid (show chkI q = 0 by rw [chkI, if_pos ho, if_neg (by omega)])
      clear ho HO hAt
      go_wp2_with (go_at_call 42; refine (rfits_any _ _ _).mono ?_; rintro e w' ⟨rfl, rfl⟩; (first | rw [H0.out] | rw [H1.out] | rw [H2.out] | skip))
      go_ret
      exact ⟨ret_int (by rw [HE.out]), hB⟩
  · have HE := Lib.hid (show chkI q = 1 by rw [chkI, if_neg ho])
    have hno : ¬ (fitsB q.typ 1 = true ∧ fitsB q.code 1 = true ∧ fitsB q.rest 4 = true) := fun h => ho (HO.out.2 h)
    clear ho HO hAt
    cases h0 : fitsB q.typ 1
    · have H0 := Lib.hid h0; have H1 := H0; have H2 := H0
      clear hno h0
      go_wp2_with (go_at_call 42; refine (rfits_any _ _ _).mono ?_; rintro e w' ⟨rfl, rfl⟩; (first | rw [H0.out] | rw [H1.out] | rw [H2.out] | skip))
      go_ret
      exact ⟨ret_int (by rw [HE.out]), hB⟩
    · have H0 := Lib.hid h0
      rw [h0] at hno; clear h0
      cases h1 : fitsB q.code 1
      · have H1 := Lib.hid h1; have H2 := H1
        clear hno h1
        go_wp2_with (go_at_call 42; refine (rfits_any _ _ _).mono ?_; rintro e w' ⟨rfl, rfl⟩; (first | rw [H0.out] | rw [H1.out] | rw [H2.out] | skip))
        go_ret
        exact ⟨ret_int (by rw [HE.out]), hB⟩
      · have H1 := Lib.hid h1
        rw [h1] at hno; clear h1
        cases h2 : fitsB q.rest 4
        · have H2 := Lib.hid h2
          clear hno h2
          go_wp2_with (go_at_call 42; refine (rfits_any _ _ _).mono ?_; rintro e w' ⟨rfl, rfl⟩; (first | rw [H0.out] | rw [H1.out] | rw [H2.out] | skip))
          go_ret
          exact ⟨ret_int (by rw [HE.out]), hB⟩
        · exact absurd ⟨rfl, rfl, h2⟩ hno
def numsI (q : PI) : List Int := [q.typ, q.code, q.rest]
set_option maxRecDepth 100000 in
theorem cInums : Calls Try.prog 43 #[isv q A c] w fun e w' => e = .returned (.agg (ivs (numsI q))) ∧ Below w.heap.size w w' := by
  have hB : Below w.heap.size w (w.alloc (.cells (isa q A c) 24)) := (Below.refl w.heap.size w).alloc (Nat.le_refl _) _
  have hAt0 := Atis.new (q := q) (A := A) (c := c) w
  have hAt : Atis ((w.alloc (.cells (isa q A c) 24)).alloc (.cells #[.int .i64 0, .int .i64 0, .int .i64 0] 53)) w.heap.size q A c := hAt0.below ((Below.refl (w.heap.size + 1) _).alloc (by simp) _) (by omega)
  have k0 := hAt.typ; have k1 := hAt.code; have k2 := hAt.rest
  rw [isv_eq]
  go_enter Try.func43, Try.ntmps43
  go_wp2_with fail
  exact bodyPost_ret (results_cell_row rfl _ _ (w.heap.size + 1) 53 (ivs (numsI q)) (0, 0) _ rfl (heap_new (X := w.alloc (.cells (isa q A c) 24)) (o := .cells (ivs (numsI q)) 53) (by simp)) Try.underlying53 rfl (by kernel_rfl)) rfl ⟨rfl, hB.alloc hB.size _⟩
theorem idI_eq (n : Int) : bits .and .i64 (n / 65536) 65535 = n / 65536 % 65536 := and_any 16 (n / 65536) (by decide)
theorem cIid : Calls Try.prog 24 #[isv q A c] w fun e w' => e = .returned (.int .i64 (idI q)) ∧ Below w.heap.size w w' := by
  have hB : Below w.heap.size w (w.alloc (.cells (isa q A c) 24)) := (Below.refl w.heap.size w).alloc (Nat.le_refl _) _
  have hAt := Atis.new (q := q) (A := A) (c := c) w
  have hz : w.heap.size < (w.alloc (.cells (isa q A c) 24)).heap.size := by simp
  rw [isv_eq]
  have H := Lib.hid (idI_eq q.rest)
  have k2 := hAt.rest
  go_enter Try.func24, Try.ntmps24
  go_wp2_with fail
  go_ret
  exact ⟨ret_int H.out, hB⟩
theorem rIid : Calls Try.prog 25 #[isv q A c] w fun e w' => e = .returned (.int .i64 (idI q)) ∧ Below w.heap.size w w' := by
  have hB : Below w.heap.size w (w.alloc (.cells (isa q A c) 24)) := (Below.refl w.heap.size w).alloc (Nat.le_refl _) _
  have hAt := Atis.new (q := q) (A := A) (c := c) w
  have hz : w.heap.size < (w.alloc (.cells (isa q A c) 24)).heap.size := by simp
  rw [isv_eq]
  have H := Lib.hid (idI_eq q.rest)
  have k2 := hAt.rest
  go_enter Try.func25, Try.ntmps25
  go_wp2_with fail
  go_ret
  exact ⟨ret_int H.out, hB⟩
end
theorem sameI_nums (q r : PI) : sameI q r = (decide (numsI q = numsI r) && decide (q.dat = r.dat)) := by
  rw [sameI, Bool.eq_iff_iff]; simp [numsI, and_assoc]
section
variable (q r : PI) (A : Option Addr) (c : Nat) (X : Option Addr) (d B : Nat) (w : World)
set_option maxRecDepth 100000 in
set_option maxHeartbeats 1000000 in
theorem cIsame (hB : B ≤ w.heap.size) (hA : Rd w B A q.dat) (hX : Rd w B X r.dat) :
    Calls Try.prog 16 #[isv q A c, isv r X d] w fun e w' => e = .returned (.bool (sameI q r)) ∧ Below w.heap.size w w' := by
  have hBW : Below w.heap.size w ((w.alloc (.cells (isa q A c) 24)).alloc (.cells (isa r X d) 24)) := ((Below.refl w.heap.size w).alloc (Nat.le_refl _) _).alloc (by simp) _
  have at1 : Atis ((w.alloc (.cells (isa q A c) 24)).alloc (.cells (isa r X d) 24)) w.heap.size q A c := (Atis.new w).below ((Below.refl (w.heap.size + 1) _).alloc (by simp) _) (by omega)
  have at2 : Atis ((w.alloc (.cells (isa q A c) 24)).alloc (.cells (isa r X d) 24)) (w.heap.size + 1) r X d := by
    have := Atis.new (q := r) (A := X) (c := d) (w.alloc (.cells (isa q A c) 24))
    rwa [show (w.alloc (.cells (isa q A c) 24)).heap.size = w.heap.size + 1 from by simp] at this
  have hz : w.heap.size + 1 < ((w.alloc (.cells (isa q A c) 24)).alloc (.cells (isa r X d) 24)).heap.size := by simp
  rw [isv_eq, isv_eq]
  have HS := Lib.hid (sameI_nums q r)
  go_enter Try.func16, Try.ntmps16
  go_wp2_with fail
  generalize (w.alloc (.cells (isa q A c) 24)).alloc (.cells (isa r X d) 24) = W at *
  obtain ⟨K, hK⟩ : ∃ K, K = decide (numsI q = numsI r) := ⟨_, rfl⟩
  obtain ⟨E, hE⟩ : ∃ D, D = decide (q.dat = r.dat) := ⟨_, rfl⟩
  have eK : ∀ w, (Op.equalIn 10000 53 (.agg (ivs (numsI q))) (.agg (ivs (numsI r)))).run Try.prog w = .ok K w := fun w => by rw [hK]; exact ints_eq 53 3 Try.underlying53 _ _ rfl rfl w
  rw [← hK, ← hE] at HS
  have HE := Lib.hid hE
  clear hK hE
  cases K
  · skip
    refine wp_region_held_drew (S := fun w' => Below W.heap.size W w') (by kernel_rfl) (Below.refl _ W).drew (fun hS => ?_)
    refine held_pure (i := 0) (oi := ⟨some 5, _, _, _, _, _⟩) rfl (by kernel_rfl) (by kernel_rfl) (by kernel_rfl) (fun _ _ _ h => h) (by rfl) (fun w hSw => run_load_is rfl rfl (at1.below hSw (by omega)) rfl) hS (fun hS => ?_)
    try go_frame
    refine held_pure (i := 2) (oi := ⟨some 7, _, _, _, _, _⟩) rfl (by kernel_rfl) (by kernel_rfl) (by kernel_rfl) (fun _ _ _ h => h) (by rfl) (fun w hSw => run_load_is rfl rfl (at2.below hSw (by omega)) rfl) hS (fun hS => ?_)
    try go_frame
    refine wpAnyH_ready (rs := [1]) (by kernel_rfl) (by simp) (AllReadyH.cons (o := ⟨some 6, _, _, _, _, _⟩) rfl (fun K hK => ?_) AllReadyH.nil)
    rw [if_pos (by rfl)]
    go_simp
    refine (cInums q A c _).mono ?_
    rintro e w1 ⟨rfl, x1⟩
    show K _ _
    refine hK.out _ _ (below_step hS x1) (fun hS => ?_)
    clear hK K
    try go_frame
    refine wpAnyH_ready (rs := [3]) (by kernel_rfl) (by simp) (AllReadyH.cons (o := ⟨some 8, _, _, _, _, _⟩) rfl (fun K hK => ?_) AllReadyH.nil)
    rw [if_pos (by rfl)]
    go_simp
    refine (cInums r X d _).mono ?_
    rintro e w3 ⟨rfl, x3⟩
    show K _ _
    refine hK.out _ _ (below_step hS x3) (fun hS => ?_)
    clear hK K
    try go_frame
    refine held_pure (i := 4) (oi := ⟨some 9, _, _, _, _, _⟩) rfl (by kernel_rfl) (by kernel_rfl) (by kernel_rfl) (fun _ _ _ h => h) (by rfl) (v := .bool false) (fun w hSw => by go_simp) hS (fun hS => ?_)
    try go_frame
    refine held_pure (i := 5) (oi := ⟨some 10, _, _, _, _, _⟩) rfl (by kernel_rfl) (by kernel_rfl) (by kernel_rfl) (fun _ _ _ h => h) (by rfl) (v := ?_) (fun w hSw => ?_) hS (fun hS => ?_)
    rotate_left
    · go_simp; try with_reducible rfl
    try go_frame
    refine held_skip (i := 6) (oi := ⟨some 11, _, _, _, _, _⟩) rfl (by kernel_rfl) (by kernel_rfl) (by kernel_rfl) (fun _ _ _ h => h) (by rfl) hS (fun hS => ?_)
    try go_frame
    refine held_skip (i := 7) (oi := ⟨some 12, _, _, _, _, _⟩) rfl (by kernel_rfl) (by kernel_rfl) (by kernel_rfl) (fun _ _ _ h => h) (by rfl) hS (fun hS => ?_)
    try go_frame
    refine held_skip (i := 8) (oi := ⟨some 13, _, _, _, _, _⟩) rfl (by kernel_rfl) (by kernel_rfl) (by kernel_rfl) (fun _ _ _ h => h) (by rfl) hS (fun hS => ?_)
    try go_frame
    refine held_skip (i := 9) (oi := ⟨some 14, _, _, _, _, _⟩) rfl (by kernel_rfl) (by kernel_rfl) (by kernel_rfl) (fun _ _ _ h => h) (by rfl) hS (fun hS => ?_)
    try go_frame
    refine held_skip (i := 10) (oi := ⟨some 15, _, _, _, _, _⟩) rfl (by kernel_rfl) (by kernel_rfl) (by kernel_rfl) (fun _ _ _ h => h) (by rfl) hS (fun hS => ?_)
    try go_frame
    refine held_pure (i := 11) (oi := ⟨some 16, _, _, _, _, _⟩) rfl (by kernel_rfl) (by kernel_rfl) (by kernel_rfl) (fun _ _ _ h => h) (by rfl) (v := ?_) (fun w hSw => ?_) hS (fun hS => ?_)
    rotate_left
    · go_simp; try with_reducible rfl
    try go_frame
    refine held_pure (i := 12) (oi := ⟨some 4, _, _, _, _, _⟩) rfl (by kernel_rfl) (by kernel_rfl) (by kernel_rfl) (fun _ _ _ h => h) (by rfl) (v := ?_) (fun w hSw => ?_) hS (fun hS => ?_)
    rotate_left
    · go_simp; try with_reducible rfl
    try go_frame
    refine wpAnyH_done (by kernel_rfl) ?_ _
    go_wp2_with fail
    go_ret
    exact ⟨ret_bool (by rw [HS.out]; rfl), hBW.trans (hS.mono (by omega))⟩
  · cases E
    · skip
      refine wp_region_held_drew (S := fun w' => Below W.heap.size W w') (by kernel_rfl) (Below.refl _ W).drew (fun hS => ?_)
      refine held_pure (i := 0) (oi := ⟨some 5, _, _, _, _, _⟩) rfl (by kernel_rfl) (by kernel_rfl) (by kernel_rfl) (fun _ _ _ h => h) (by rfl) (fun w hSw => run_load_is rfl rfl (at1.below hSw (by omega)) rfl) hS (fun hS => ?_)
      try go_frame
      refine held_pure (i := 2) (oi := ⟨some 7, _, _, _, _, _⟩) rfl (by kernel_rfl) (by kernel_rfl) (by kernel_rfl) (fun _ _ _ h => h) (by rfl) (fun w hSw => run_load_is rfl rfl (at2.below hSw (by omega)) rfl) hS (fun hS => ?_)
      try go_frame
      refine wpAnyH_ready (rs := [1]) (by kernel_rfl) (by simp) (AllReadyH.cons (o := ⟨some 6, _, _, _, _, _⟩) rfl (fun K hK => ?_) AllReadyH.nil)
      rw [if_pos (by rfl)]
      go_simp
      refine (cInums q A c _).mono ?_
      rintro e w1 ⟨rfl, x1⟩
      show K _ _
      refine hK.out _ _ (below_step hS x1) (fun hS => ?_)
      clear hK K
      try go_frame
      refine wpAnyH_ready (rs := [3]) (by kernel_rfl) (by simp) (AllReadyH.cons (o := ⟨some 8, _, _, _, _, _⟩) rfl (fun K hK => ?_) AllReadyH.nil)
      rw [if_pos (by rfl)]
      go_simp
      refine (cInums r X d _).mono ?_
      rintro e w3 ⟨rfl, x3⟩
      show K _ _
      refine hK.out _ _ (below_step hS x3) (fun hS => ?_)
      clear hK K
      try go_frame
      refine held_pure (i := 4) (oi := ⟨some 9, _, _, _, _, _⟩) rfl (by kernel_rfl) (by kernel_rfl) (by kernel_rfl) (fun _ _ _ h => h) (by rfl) (v := .bool true) (fun w hSw => by go_simp) hS (fun hS => ?_)
      try go_frame
      refine held_pure (i := 5) (oi := ⟨some 10, _, _, _, _, _⟩) rfl (by kernel_rfl) (by kernel_rfl) (by kernel_rfl) (fun _ _ _ h => h) (by rfl) (v := ?_) (fun w hSw => ?_) hS (fun hS => ?_)
      rotate_left
      · go_simp; try with_reducible rfl
      try go_frame
      refine held_pure (i := 6) (oi := ⟨some 11, _, _, _, _, _⟩) rfl (by kernel_rfl) (by kernel_rfl) (by kernel_rfl) (fun _ _ _ h => h) (by rfl) (v := ?_) (fun w hSw => ?_) hS (fun hS => ?_)
      rotate_left
      · go_simp; try with_reducible rfl
      try go_frame
      refine held_pure (i := 7) (oi := ⟨some 12, _, _, _, _, _⟩) rfl (by kernel_rfl) (by kernel_rfl) (by kernel_rfl) (fun _ _ _ h => h) (by rfl) (fun w hSw => run_load_sl rfl rfl ((at1.below hSw (by omega)).dat)) hS (fun hS => ?_)
      try go_frame
      refine held_pure (i := 8) (oi := ⟨some 13, _, _, _, _, _⟩) rfl (by kernel_rfl) (by kernel_rfl) (by kernel_rfl) (fun _ _ _ h => h) (by rfl) (v := ?_) (fun w hSw => ?_) hS (fun hS => ?_)
      rotate_left
      · go_simp; try with_reducible rfl
      try go_frame
      refine held_pure (i := 9) (oi := ⟨some 14, _, _, _, _, _⟩) rfl (by kernel_rfl) (by kernel_rfl) (by kernel_rfl) (fun _ _ _ h => h) (by rfl) (fun w hSw => run_load_sl rfl rfl ((at2.below hSw (by omega)).dat)) hS (fun hS => ?_)
      try go_frame
      refine wpAnyH_ready (rs := [10]) (by kernel_rfl) (by simp) (AllReadyH.cons (o := ⟨some 15, _, _, _, _, _⟩) rfl (fun K hK => ?_) AllReadyH.nil)
      rw [if_pos (by rfl)]
      go_simp
      refine (equal_any A X q.dat r.dat c d B B _ (hA.below ((hBW.trans (hS.mono hBW.size)).mono hB)) (hX.below ((hBW.trans (hS.mono hBW.size)).mono hB))).mono ?_
      rintro e w10 ⟨rfl, rfl⟩
      rw [← HE.out]
      show K _ _
      refine hK.out _ _ hS (fun hS => ?_)
      clear hK K
      try go_frame
      refine held_pure (i := 11) (oi := ⟨some 16, _, _, _, _, _⟩) rfl (by kernel_rfl) (by kernel_rfl) (by kernel_rfl) (fun _ _ _ h => h) (by rfl) (v := ?_) (fun w hSw => ?_) hS (fun hS => ?_)
      rotate_left
      · go_simp; try with_reducible rfl
      try go_frame
      refine held_pure (i := 12) (oi := ⟨some 4, _, _, _, _, _⟩) rfl (by kernel_rfl) (by kernel_rfl) (by kernel_rfl) (fun _ _ _ h => h) (by rfl) (v := ?_) (fun w hSw => ?_) hS (fun hS => ?_)
      rotate_left
      · go_simp; try with_reducible rfl
      try go_frame
      refine wpAnyH_done (by kernel_rfl) ?_ _
      go_wp2_with fail
      go_ret
      exact ⟨ret_bool (by rw [HS.out]; rfl), hBW.trans (hS.mono (by omega))⟩
    · skip
      refine wp_region_held_drew (S := fun w' => Below W.heap.size W w') (by kernel_rfl) (Below.refl _ W).drew (fun hS => ?_)
      refine held_pure (i := 0) (oi := ⟨some 5, _, _, _, _, _⟩) rfl (by kernel_rfl) (by kernel_rfl) (by kernel_rfl) (fun _ _ _ h => h) (by rfl) (fun w hSw => run_load_is rfl rfl (at1.below hSw (by omega)) rfl) hS (fun hS => ?_)
      try go_frame
      refine held_pure (i := 2) (oi := ⟨some 7, _, _, _, _, _⟩) rfl (by kernel_rfl) (by kernel_rfl) (by kernel_rfl) (fun _ _ _ h => h) (by rfl) (fun w hSw => run_load_is rfl rfl (at2.below hSw (by omega)) rfl) hS (fun hS => ?_)
      try go_frame
      refine wpAnyH_ready (rs := [1]) (by kernel_rfl) (by simp) (AllReadyH.cons (o := ⟨some 6, _, _, _, _, _⟩) rfl (fun K hK => ?_) AllReadyH.nil)
      rw [if_pos (by rfl)]
      go_simp
      refine (cInums q A c _).mono ?_
      rintro e w1 ⟨rfl, x1⟩
      show K _ _
      refine hK.out _ _ (below_step hS x1) (fun hS => ?_)
      clear hK K
      try go_frame
      refine wpAnyH_ready (rs := [3]) (by kernel_rfl) (by simp) (AllReadyH.cons (o := ⟨some 8, _, _, _, _, _⟩) rfl (fun K hK => ?_) AllReadyH.nil)
      rw [if_pos (by rfl)]
      go_simp
      refine (cInums r X d _).mono ?_
      rintro e w3 ⟨rfl, x3⟩
      show K _ _
      refine hK.out _ _ (below_step hS x3) (fun hS => ?_)
      clear hK K
      try go_frame
      refine held_pure (i := 4) (oi := ⟨some 9, _, _, _, _, _⟩) rfl (by kernel_rfl) (by kernel_rfl) (by kernel_rfl) (fun _ _ _ h => h) (by rfl) (v := .bool true) (fun w hSw => by go_simp) hS (fun hS => ?_)
      try go_frame
      refine held_pure (i := 5) (oi := ⟨some 10, _, _, _, _, _⟩) rfl (by kernel_rfl) (by kernel_rfl) (by kernel_rfl) (fun _ _ _ h => h) (by rfl) (v := ?_) (fun w hSw => ?_) hS (fun hS => ?_)
      rotate_left
      · go_simp; try with_reducible rfl
      try go_frame
      refine held_pure (i := 6) (oi := ⟨some 11, _, _, _, _, _⟩) rfl (by kernel_rfl) (by kernel_rfl) (by kernel_rfl) (fun _ _ _ h => h) (by rfl) (v := ?_) (fun w hSw => ?_) hS (fun hS => ?_)
      rotate_left
      · go_simp; try with_reducible rfl
      try go_frame
      refine held_pure (i := 7) (oi := ⟨some 12, _, _, _, _, _⟩) rfl (by kernel_rfl) (by kernel_rfl) (by kernel_rfl) (fun _ _ _ h => h) (by rfl) (fun w hSw => run_load_sl rfl rfl ((at1.below hSw (by omega)).dat)) hS (fun hS => ?_)
      try go_frame
      refine held_pure (i := 8) (oi := ⟨some 13, _, _, _, _, _⟩) rfl (by kernel_rfl) (by kernel_rfl) (by kernel_rfl) (fun _ _ _ h => h) (by rfl) (v := ?_) (fun w hSw => ?_) hS (fun hS => ?_)
      rotate_left
      · go_simp; try with_reducible rfl
      try go_frame
      refine held_pure (i := 9) (oi := ⟨some 14, _, _, _, _, _⟩) rfl (by kernel_rfl) (by kernel_rfl) (by kernel_rfl) (fun _ _ _ h => h) (by rfl) (fun w hSw => run_load_sl rfl rfl ((at2.below hSw (by omega)).dat)) hS (fun hS => ?_)
      try go_frame
      refine wpAnyH_ready (rs := [10]) (by kernel_rfl) (by simp) (AllReadyH.cons (o := ⟨some 15, _, _, _, _, _⟩) rfl (fun K hK => ?_) AllReadyH.nil)
      rw [if_pos (by rfl)]
      go_simp
      refine (equal_any A X q.dat r.dat c d B B _ (hA.below ((hBW.trans (hS.mono hBW.size)).mono hB)) (hX.below ((hBW.trans (hS.mono hBW.size)).mono hB))).mono ?_
      rintro e w10 ⟨rfl, rfl⟩
      rw [← HE.out]
      show K _ _
      refine hK.out _ _ hS (fun hS => ?_)
      clear hK K
      try go_frame
      refine held_pure (i := 11) (oi := ⟨some 16, _, _, _, _, _⟩) rfl (by kernel_rfl) (by kernel_rfl) (by kernel_rfl) (fun _ _ _ h => h) (by rfl) (v := ?_) (fun w hSw => ?_) hS (fun hS => ?_)
      rotate_left
      · go_simp; try with_reducible rfl
      try go_frame
      refine held_pure (i := 12) (oi := ⟨some 4, _, _, _, _, _⟩) rfl (by kernel_rfl) (by kernel_rfl) (by kernel_rfl) (fun _ _ _ h => h) (by rfl) (v := ?_) (fun w hSw => ?_) hS (fun hS => ?_)
      rotate_left
      · go_simp; try with_reducible rfl
      try go_frame
      refine wpAnyH_done (by kernel_rfl) ?_ _
      go_wp2_with fail
      go_ret
      exact ⟨ret_bool (by rw [HS.out]; rfl), hBW.trans (hS.mono (by omega))⟩

set_option maxRecDepth 100000 in
set_option maxHeartbeats 1000000 in
theorem rIsame (hB : B ≤ w.heap.size) (hA : Rd w B A q.dat) (hX : Rd w B X r.dat) :
    Calls Try.prog 17 #[isv q A c, isv r X d] w fun e w' => e = .returned (.bool (sameI q r)) ∧ Below w.heap.size w w' := by
  have hBW : Below w.heap.size w ((w.alloc (.cells (isa q A c) 24)).alloc (.cells (isa r X d) 24)) := ((Below.refl w.heap.size w).alloc (Nat.le_refl _) _).alloc (by simp) _
  have at1 : Atis ((w.alloc (.cells (isa q A c) 24)).alloc (.cells (isa r X d) 24)) w.heap.size q A c := (Atis.new w).below ((Below.refl (w.heap.size + 1) _).alloc (by simp) _) (by omega)
  have at2 : Atis ((w.alloc (.cells (isa q A c) 24)).alloc (.cells (isa r X d) 24)) (w.heap.size + 1) r X d := by
    have := Atis.new (q := r) (A := X) (c := d) (w.alloc (.cells (isa q A c) 24))
    rwa [show (w.alloc (.cells (isa q A c) 24)).heap.size = w.heap.size + 1 from by simp] at this
  have hz : w.heap.size + 1 < ((w.alloc (.cells (isa q A c) 24)).alloc (.cells (isa r X d) 24)).heap.size := by simp
  rw [isv_eq, isv_eq]
  have q0 := hA.below (hBW.mono hB); have q1 := hX.below (hBW.mono hB)
  have HS := Lib.hid (show sameI q r = ((q.typ == r.typ) && (q.code == r.code) && (q.rest == r.rest) && decide (q.dat = r.dat)) from rfl)
  go_enter Try.func17, Try.ntmps17
  go_upto_region 1 with fail
  generalize (w.alloc (.cells (isa q A c) 24)).alloc (.cells (isa r X d) 24) = W at *
  have c1 := conv_any A q.dat c B W q0
  have c3 := conv_any X r.dat d B W q1
  have x0 := at1.typ; have x1 := at1.code; have x2 := at1.rest; have x3 := at1.dat
  have y0 := at2.typ; have y1 := at2.code; have y2 := at2.rest; have y3 := at2.dat
  clear at1 at2 hA hX q0 q1
  have qd := strB_eq q.dat r.dat
  cases e0 : (q.typ == r.typ)
  · clear qd
    go_wp2_with fail
    go_ret
    exact ⟨ret_bool (by rw [HS.out, e0]; rfl), hBW⟩
  · cases e1 : (q.code == r.code)
    · clear qd
      go_wp2_with fail
      go_ret
      exact ⟨ret_bool (by rw [HS.out, e0, e1]; rfl), hBW⟩
    · cases e2 : (q.rest == r.rest)
      · clear qd
        go_wp2_with fail
        go_ret
        exact ⟨ret_bool (by rw [HS.out, e0, e1, e2]; rfl), hBW⟩
      · cases e3 : decide (q.dat = r.dat)
        · rw [e3] at qd
          go_wp2_with fail
          go_ret
          exact ⟨ret_bool (by rw [HS.out, e0, e1, e2, e3]; rfl), hBW⟩
        · rw [e3] at qd
          go_wp2_with fail
          go_ret
          exact ⟨ret_bool (by rw [HS.out, e0, e1, e2, e3]; rfl), hBW⟩
end
end Go.Proofs.Ytobkiffiapjhgaa

/-
  Contracts of layer 9's buildHead, Build, Bytes, the program's and the document's. Conditions are each theorem's own.
-/
namespace Go.Proofs.Ytobkiffiapjhgaa
open Go.RowKit

theorem arg_two (W : World) (t : TypeId) (x y : UInt8) {m n : Int} (h : m = (x.toNat : Int)) (h' : n = (y.toNat : Int)) : Arg (W.alloc (.cells #[.int .u8 m, .int .u8 n] t)) (W.heap.size + 1) (some ⟨W.heap.size, 0, none⟩) 2 [x, y] :=
  ⟨Rd.of_block (World.alloc_heap_new W _) (Nat.lt_succ_self _) 0 (fun j hj => by
    have : j = 0 ∨ j = 1 := by have := hj; simp at this; omega
    rcases this with rfl | rfl
    · subst h; rfl
    · subst h'; rfl), by simp, fun e => by cases e⟩
section
variable (q : PI) (A : Option Addr) (c : Nat) (w : World)
set_option maxRecDepth 100000 in
set_option maxHeartbeats 1000000 in
theorem cIhead (s : Int) (hd : List UInt8) (hhd : Hid (hd = hdI q s)) (ha : argI q) (s0 : 0 ≤ s) (s1 : s ≤ 65535) :
    Calls Try.prog 37 #[isv q A c, .int .i64 s] w fun e w' => ∃ v, e = .returned v ∧ Made w w' v hd := by
  have hB : Below w.heap.size w (w.alloc (.cells (isa q A c) 24)) := (Below.refl w.heap.size w).alloc (Nat.le_refl _) _
  have hAt := Atis.new (q := q) (A := A) (c := c) w
  have hz : w.heap.size < (w.alloc (.cells (isa q A c) 24)).heap.size := by simp
  rw [isv_eq]
  obtain ⟨L1, h1⟩ : ∃ l, l = [u8 q.typ, u8 q.code] ++ be2 s := ⟨_, rfl⟩
  have H1 := Lib.hid (show putB [u8 q.typ, u8 q.code] s 2 = L1 by rw [put_two s0 s1, h1])
  have H2 := Lib.hid (show putB L1 q.rest 4 = hd by rw [put_four ha.2.2.2.2.1 ha.2.2.2.2.2, h1, hhd.out, hdI])
  have l1 := Lib.hid (show L1.length ≤ 4 by rw [h1]; simp [be2])
  have kt : q.typ % 256 = ((u8 q.typ).toNat : Int) := by rw [u8_val]
  have kc : q.code % 256 = ((u8 q.code).toNat : Int) := by rw [u8_val]
  have hA0 : ∀ W : World, Arg (W.alloc (.cells #[.int .u8 (q.typ % 256), .int .u8 (q.code % 256)] 5)) (W.heap.size + 1) (some ⟨W.heap.size, 0, none⟩) 2 [u8 q.typ, u8 q.code] := fun W => arg_two W 5 (u8 q.typ) (u8 q.code) kt kc
  clear h1 ha kt kc
  have k0 := hAt.typ; have k1 := hAt.code
  go_enter Try.func37, Try.ntmps37
  go_upto_region 1 with fail
  generalize w.alloc (.cells (isa q A c) 24) = W at *
  go_upto_region 2 with fail
  have hA0 := hA0 W
  have xR : Below W.heap.size W (W.alloc (.cells #[.int .u8 (q.typ % 256), .int .u8 (q.code % 256)] 5)) := (Below.refl _ W).alloc (Nat.le_refl _) _
  have hAtR := hAt.below xR (by omega)
  have zR : W.heap.size + 1 ≤ (W.alloc (.cells #[.int .u8 (q.typ % 256), .int .u8 (q.code % 256)] 5)).heap.size := by simp
  have hzR : w.heap.size < (W.alloc (.cells #[.int .u8 (q.typ % 256), .int .u8 (q.code % 256)] 5)).heap.size := by omega
  clear k0 k1 hAt
  generalize W.alloc (.cells #[.int .u8 (q.typ % 256), .int .u8 (q.code % 256)] 5) = R at *
  refine wp_region_held_drew (S := fun w' => Below R.heap.size R w') (by kernel_rfl) (Below.refl _ R).drew (fun hS => ?_)
  refine held_pure (i := 0) (oi := ⟨some 13, _, _, _, _, _⟩) rfl (by kernel_rfl) (by kernel_rfl) (by kernel_rfl) (fun _ _ _ h => h) (by rfl) (v := ?_) (fun w hSw => ?_) hS (fun hS => ?_)
  rotate_left
  · go_simp; try with_reducible rfl
  try go_frame
  refine held_pure (i := 1) (oi := ⟨some 14, _, _, _, _, _⟩) rfl (by kernel_rfl) (by kernel_rfl) (by kernel_rfl) (fun _ _ _ h => h) (by rfl) (v := ?_) (fun w hSw => ?_) hS (fun hS => ?_)
  rotate_left
  · go_simp; try with_reducible rfl
  try go_frame
  refine held_pure (i := 3) (oi := ⟨some 16, _, _, _, _, _⟩) rfl (by kernel_rfl) (by kernel_rfl) (by kernel_rfl) (fun _ _ _ h => h) (by rfl) (v := ?_) (fun w hSw => ?_) hS (fun hS => ?_)
  rotate_left
  · go_simp; try with_reducible rfl
  try go_frame
  refine held_pure (i := 4) (oi := ⟨some 17, _, _, _, _, _⟩) rfl (by kernel_rfl) (by kernel_rfl) (by kernel_rfl) (fun _ _ _ h => h) (by rfl) (fun w hSw => run_load_int rfl rfl ((hAtR.below hSw hzR).rest)) hS (fun hS => ?_)
  try go_frame
  refine wpAnyH_ready (rs := [2]) (by kernel_rfl) (by simp) (AllReadyH.cons (o := ⟨some 15, _, _, _, _, _⟩) rfl (fun K hK => ?_) AllReadyH.nil)
  rw [if_pos (by rfl)]
  go_simp
  refine (put_any (some ⟨W.heap.size, 0, none⟩) [u8 q.typ, u8 q.code] 2 _ s 2 _ (hA0.below (hS.mono zR)).rd (by have := hS.size; omega) (by simp)).mono ?_
  rintro e w1 ⟨v1, rfl, m1⟩
  rw [H1.out] at m1
  obtain ⟨A1, c1, rfl, g1, o1, x1⟩ := made_shape m1
  have hS1 := hS
  show K _ _
  refine hK.out _ _ (below_step hS x1) (fun hS => ?_)
  clear hK K
  try go_frame
  refine wpAnyH_ready (rs := [5]) (by kernel_rfl) (by simp) (AllReadyH.cons (o := ⟨some 18, _, _, _, _, _⟩) rfl (fun K hK => ?_) AllReadyH.nil)
  rw [if_pos (by rfl)]
  go_simp
  refine (put_any A1 L1 c1 _ q.rest 4 _ g1.rd (by have := hS.size; omega) (by have := l1.out; omega)).mono ?_
  rintro e w2 ⟨v2, rfl, m2⟩
  rw [H2.out] at m2
  obtain ⟨A2, c2, rfl, g2, o2, x2⟩ := made_shape m2
  have hS2 := hS
  show K _ _
  refine hK.out _ _ (below_step hS x2) (fun hS => ?_)
  clear hK K
  try go_frame
  refine held_pure (i := 6) (oi := ⟨some 4, _, _, _, _, _⟩) rfl (by kernel_rfl) (by kernel_rfl) (by kernel_rfl) (fun _ _ _ h => h) (by rfl) (v := ?_) (fun w hSw => ?_) hS (fun hS => ?_)
  rotate_left
  · go_simp; try with_reducible rfl
  try go_frame
  refine wpAnyH_done (by kernel_rfl) ?_ _
  go_wp2_with fail
  go_ret
  exact ⟨_, rfl, m2.after (hB.trans ((xR.trans (hS2.mono (by omega))).mono (by omega)))⟩
set_option maxRecDepth 100000 in
set_option maxHeartbeats 1000000 in
theorem rIbytes (B : Nat) (s : Int) (bs : List UInt8) (hbs : Hid (bs = hdI q s ++ q.dat)) (ha : argI q) (hl : q.dat.length ≤ 1000000) (s0 : 0 ≤ s) (s1 : s ≤ 65535) (hD : Arg w B A c q.dat) (hB0 : B ≤ w.heap.size) :
    Calls Try.prog 39 #[isv q A c, .int .i64 s] w fun e w' => ∃ v, e = .returned v ∧ Made w w' v bs := by
  have hB : Below w.heap.size w (w.alloc (.cells (isa q A c) 24)) := (Below.refl w.heap.size w).alloc (Nat.le_refl _) _
  have hAt := Atis.new (q := q) (A := A) (c := c) w
  have hz : w.heap.size < (w.alloc (.cells (isa q A c) 24)).heap.size := by simp
  rw [isv_eq]
  obtain ⟨L1, h1⟩ : ∃ l, l = [u8 q.typ, u8 q.code] ++ be2 s := ⟨_, rfl⟩
  have H1 := Lib.hid (show putB [u8 q.typ, u8 q.code] s 2 = L1 by rw [put_two s0 s1, h1])
  obtain ⟨L2, h2⟩ : ∃ l, l = L1 ++ be4 q.rest := ⟨_, rfl⟩
  have H2 := Lib.hid (show putB L1 q.rest 4 = L2 by rw [put_four ha.2.2.2.2.1 ha.2.2.2.2.2, h2])
  have H5 := Lib.hid (show bs = L2 ++ q.dat by rw [h2, h1, hbs.out, hdI])
  have l1 := Lib.hid (show L1.length ≤ 4 by rw [h1]; simp [be2])
  have l2 := Lib.hid (show L2.length ≤ 8 by rw [h2, h1]; simp [be2, be4])
  have kt : q.typ % 256 = ((u8 q.typ).toNat : Int) := by rw [u8_val]
  have kc : q.code % 256 = ((u8 q.code).toNat : Int) := by rw [u8_val]
  clear h1 h2 ha hbs
  have k0 := hAt.typ; have k1 := hAt.code
  have hA0 : ∀ W : World, Arg (W.alloc (.cells #[.int .u8 (q.typ % 256), .int .u8 (q.code % 256)] 5)) (W.heap.size + 1) (some ⟨W.heap.size, 0, none⟩) 2 [u8 q.typ, u8 q.code] := fun W => arg_two W 5 (u8 q.typ) (u8 q.code) kt kc
  clear kt kc
  go_enter Try.func39, Try.ntmps39
  go_upto_region 1 with fail
  generalize w.alloc (.cells (isa q A c) 24) = W at *
  go_upto_region 2 with (go_at_call 54; refine (rput_any (some ⟨W.heap.size, 0, none⟩) [u8 q.typ, u8 q.code] 2 _ s 2 _ (hA0 W) (by simp)).mono ?_; rintro e w3 ⟨v3, rfl, m3⟩; rw [H1.out] at m3; obtain ⟨A3, c3, rfl, g3, o3, x3⟩ := made_shape m3)
  have x3a : Below W.heap.size W w3 := ((Below.refl _ W).alloc (Nat.le_refl _) (.cells #[.int .u8 (q.typ % 256), .int .u8 (q.code % 256)] 5)).trans (x3.mono (by simp))
  have hAt3 := hAt.below x3a (by omega)
  have z3 := x3a.size
  clear k0 k1 hA0 hAt x3
  refine wp_region_held_drew (S := fun w' => Below w3.heap.size w3 w') (by kernel_rfl) (Below.refl _ w3).drew (fun hS => ?_)
  refine held_pure (i := 0) (oi := ⟨some 15, _, _, _, _, _⟩) rfl (by kernel_rfl) (by kernel_rfl) (by kernel_rfl) (fun _ _ _ h => h) (by rfl) (v := ?_) (fun w hSw => ?_) hS (fun hS => ?_)
  rotate_left
  · go_simp; try with_reducible rfl
  try go_frame
  refine held_pure (i := 1) (oi := ⟨some 16, _, _, _, _, _⟩) rfl (by kernel_rfl) (by kernel_rfl) (by kernel_rfl) (fun _ _ _ h => h) (by rfl) (v := ?_) (fun w hSw => ?_) hS (fun hS => ?_)
  rotate_left
  · go_simp; try with_reducible rfl
  try go_frame
  refine held_pure (i := 2) (oi := ⟨some 17, _, _, _, _, _⟩) rfl (by kernel_rfl) (by kernel_rfl) (by kernel_rfl) (fun _ _ _ h => h) (by rfl) (fun w hSw => run_load_int rfl rfl ((hAt3.below hSw (by omega)).rest)) hS (fun hS => ?_)
  try go_frame
  refine held_pure (i := 4) (oi := ⟨some 19, _, _, _, _, _⟩) rfl (by kernel_rfl) (by kernel_rfl) (by kernel_rfl) (fun _ _ _ h => h) (by rfl) (v := ?_) (fun w hSw => ?_) hS (fun hS => ?_)
  rotate_left
  · go_simp; try with_reducible rfl
  try go_frame
  refine held_pure (i := 5) (oi := ⟨some 20, _, _, _, _, _⟩) rfl (by kernel_rfl) (by kernel_rfl) (by kernel_rfl) (fun _ _ _ h => h) (by rfl) (fun w hSw => run_load_sl rfl rfl ((hAt3.below hSw (by omega)).dat)) hS (fun hS => ?_)
  try go_frame
  refine wpAnyH_ready (rs := [3]) (by kernel_rfl) (by simp) (AllReadyH.cons (o := ⟨some 18, _, _, _, _, _⟩) rfl (fun K hK => ?_) AllReadyH.nil)
  rw [if_pos (by rfl)]
  go_simp
  refine (rput_any A3 L1 c3 _ q.rest 4 _ (g3.drewN 1) (by have := l1.out; omega)).mono ?_
  rintro e w4 ⟨v4, rfl, m4⟩
  rw [H2.out] at m4
  obtain ⟨A4, c4, rfl, g4, o4, x4⟩ := made_shape m4
  have hS4 := hS
  show K _ _
  refine hK.out _ _ (below_step hS x4) (fun hS => ?_)
  clear hK K
  try go_frame
  refine wpAnyH_ready (rs := [6]) (by kernel_rfl) (by simp) (AllReadyH.cons (o := ⟨some 21, _, _, _, _, _⟩) rfl (fun K hK => ?_) AllReadyH.nil)
  rw [if_pos (by rfl)]
  refine append_wp _ _ rfl w3.heap.size _ _ _ rfl o4 B A c q.dat rfl hD.none_ ((hD.below ((hB.trans ((x3a.trans (hS.mono (by omega))).mono (by omega))).mono hB0)).rd) (by have := l2.out; omega) hS.size ?_
  intro v5 w5 own5 grow5
  obtain ⟨A5, c5, rfl, owm5⟩ := own_made (bs := bs) own5 (by rw [H5.out]; simp) (by rw [H5.out, row_append])
  refine hK.out _ _ (hS.grown grow5 hS.size (fun k hk => own_block_ge o4 k hk)) (fun hS => ?_)
  clear hK K
  try go_frame
  refine held_pure (i := 7) (oi := ⟨some 4, _, _, _, _, _⟩) rfl (by kernel_rfl) (by kernel_rfl) (by kernel_rfl) (fun _ _ _ h => h) (by rfl) (v := ?_) (fun w hSw => ?_) hS (fun hS => ?_)
  rotate_left
  · go_simp; try with_reducible rfl
  try go_frame
  refine wpAnyH_done (by kernel_rfl) ?_ _
  go_wp2_with fail
  go_ret
  exact ⟨_, rfl, Made.of_own (own_base owm5 (by omega)) (hB.trans ((x3a.trans (hS.mono (by omega))).mono (by omega)))⟩
end
end Go.Proofs.Ytobkiffiapjhgaa

/-
  Contracts of layer 9's Build, the program's and the document's. Conditions are each theorem's own.
-/
namespace Go.Proofs.Ytobkiffiapjhgaa
open Go.RowKit

theorem of_two (A : Option Addr) (a b : List UInt8) (c B : Nat) (N : Int) (hN : Hid (N = 65535 - fold (psum [a, b]))) (w : World) (h : Rd2 w B A [a, b]) (hB : B ≤ w.heap.size) (hl : a.length + b.length ≤ 1099511627000) :
    Calls Try.prog 38 #[.slice A 2 c] w fun x w' => x = .returned (.int .i64 N) ∧ Below w.heap.size w w' := by
  have h1 := of_any A [a, b] c B w h hB (by rw [bulk2]; omega) (by simp)
  rw [← hN.out] at h1
  exact h1
theorem rof_oneN (A : Option Addr) (a : List UInt8) (c B : Nat) (N : Int) (hN : Hid (N = 65535 - fold (psum [a]))) (w : World) (h : Rd2 w B A [a]) (hl : a.length ≤ 1099511627000) :
    Calls Try.prog 40 #[.slice A 1 c] w fun e w' => e = .returned (.int .i64 N) ∧ ∃ n, w' = w.drewN n := by
  have h1 := rof_one A a c B w h hl
  rw [← hN.out] at h1
  exact h1
section
variable (q : PI) (A : Option Addr) (c : Nat) (w : World)
set_option maxRecDepth 100000 in
set_option maxHeartbeats 1000000 in
theorem cIbuild (B : Nat) (hD : Arg w B A c q.dat) (hB0 : B ≤ w.heap.size) (hl : q.dat.length ≤ 1000000) :
    Calls Try.prog 11 #[isv q A c] w fun e w' => ∃ v, e = .returned (.tuple #[v, .int .i64 (chkI q)]) ∧ (chkI q ≠ 0 → v = .slice none 0 0 ∧ Below w.heap.size w w') ∧ (chkI q = 0 → Made w w' v (bldI [] q)) := by
  have hB : Below w.heap.size w (w.alloc (.cells (isa q A c) 24)) := (Below.refl w.heap.size w).alloc (Nat.le_refl _) _
  have hAt := Atis.new (q := q) (A := A) (c := c) w
  have hz : w.heap.size < (w.alloc (.cells (isa q A c) 24)).heap.size := by simp
  rw [isv_eq]
  go_enter Try.func11, Try.ntmps11
  go_upto_region 1 with fail
  generalize w.alloc (.cells (isa q A c) 24) = W at *
  by_cases hc : chkI q = 0
  · have HC := Lib.hid hc
    obtain ⟨ha, hl2⟩ := chkI_ok hc
    clear hc
    obtain ⟨N, hN⟩ : ∃ n, n = smI [] q := ⟨_, rfl⟩
    have bd := smI_bd [] q
    have hN0 : 0 ≤ N := by rw [hN]; exact bd.1
    have hN1 : N ≤ 65535 := by rw [hN]; exact bd.2
    obtain ⟨HD, hHD⟩ : ∃ l, l = hdI q 0 := ⟨_, rfl⟩
    obtain ⟨HE, hHE⟩ : ∃ l, l = hdI q N := ⟨_, rfl⟩
    have HSM := Lib.hid (show N = 65535 - fold (psum [HD, q.dat]) by rw [hN, hHD]; exact smI_nil q)
    have HHL := Lib.hid (show HD.length = 8 by rw [hHD, hdI_len])
    have HEL := Lib.hid (show HE.length = 8 by rw [hHE, hdI_len])
    have HBL := Lib.hid (show bldI [] q = HE ++ q.dat by rw [hHE, hN]; rfl)
    have HHD := Lib.hid hHD; have HHE := Lib.hid hHE
    clear hHD hHE
    clear bd hN
    go_upto_region 4 with (first
      | ((with_reducible show wpList _ _ _ (Oper.mk _ (Op.load 24 _) _ _ _ _ :: _) _ _); refine wpList_val rfl (run_load_is rfl rfl hAt rfl) ?_)
      | (go_at_call 14; refine (cIcheck q A c _ hl).mono ?_; rintro e w1 ⟨rfl, x1⟩; rw [HC.out]))
    refine wp_region_held_drew (S := fun w' => Below W.heap.size W w') (by kernel_rfl) x1.drew (fun hS => ?_)
    refine held_pure (i := 0) (oi := ⟨some 10, _, _, _, _, _⟩) rfl (by kernel_rfl) (by kernel_rfl) (by kernel_rfl) (fun _ _ _ h => h) (by rfl) (fun w hSw => run_load_is rfl rfl (hAt.below hSw (by omega)) rfl) hS (fun hS => ?_)
    try go_frame
    refine held_pure (i := 1) (oi := ⟨some 11, _, _, _, _, _⟩) rfl (by kernel_rfl) (by kernel_rfl) (by kernel_rfl) (fun _ _ _ h => h) (by rfl) (fun w hSw => run_load_is rfl rfl (hAt.below hSw (by omega)) rfl) hS (fun hS => ?_)
    try go_frame
    refine held_pure (i := 3) (oi := ⟨some 13, _, _, _, _, _⟩) rfl (by kernel_rfl) (by kernel_rfl) (by kernel_rfl) (fun _ _ _ h => h) (by rfl) (v := ?_) (fun w hSw => ?_) hS (fun hS => ?_)
    rotate_left
    · go_simp; try with_reducible rfl
    try go_frame
    refine held_pure (i := 4) (oi := ⟨some 14, _, _, _, _, _⟩) rfl (by kernel_rfl) (by kernel_rfl) (by kernel_rfl) (fun _ _ _ h => h) (by rfl) (fun w hSw => run_load_sl rfl rfl ((hAt.below hSw (by omega)).dat)) hS (fun hS => ?_)
    try go_frame
    refine held_pure (i := 8) (oi := ⟨some 18, _, _, _, _, _⟩) rfl (by kernel_rfl) (by kernel_rfl) (by kernel_rfl) (fun _ _ _ h => h) (by rfl) (v := ?_) (fun w hSw => ?_) hS (fun hS => ?_)
    rotate_left
    · go_simp; try with_reducible rfl
    try go_frame
    refine held_pure (i := 9) (oi := ⟨some 19, _, _, _, _, _⟩) rfl (by kernel_rfl) (by kernel_rfl) (by kernel_rfl) (fun _ _ _ h => h) (by rfl) (fun w hSw => run_load_sl rfl rfl ((hAt.below hSw (by omega)).dat)) hS (fun hS => ?_)
    try go_frame
    refine wpAnyH_ready (rs := [2]) (by kernel_rfl) (by simp) (AllReadyH.cons (o := ⟨some 12, _, _, _, _, _⟩) rfl (fun K hK => ?_) AllReadyH.nil)
    rw [if_pos (by rfl)]
    go_simp
    refine (cIhead q A c _ 0 HD HHD ha (by omega) (by omega)).mono ?_
    rintro e w2 ⟨v2, rfl, m2⟩
    obtain ⟨A2, c2, rfl, g2, o2, x2⟩ := made_shape m2
    have hS2 := below_step hS x2
    have hT2 := hS
    show K _ _
    refine hK.out _ _ (below_step hS x2) (fun hS => ?_)
    clear hK K
    try go_frame
    refine wpAnyH_ready (rs := [5]) (by kernel_rfl) (by simp) (AllReadyH.cons (o := ⟨some 15, _, _, _, _, _⟩) rfl (fun K hK => ?_) AllReadyH.nil)
    rw [if_pos (by rfl)]
    go_simp
    refine hK.out _ _ (hS.alloc hS.size _) (fun hS => ?_)
    clear hK K
    try go_frame
    refine wpAnyH_ready (rs := [6]) (by kernel_rfl) (by simp) (AllReadyH.cons (o := ⟨some 16, _, _, _, _, _⟩) rfl (fun K hK => ?_) AllReadyH.nil)
    rw [if_pos (by rfl)]
    go_simp
    refine (of_two (some ⟨w2.heap.size, 0, none⟩) HD q.dat 2 _ N HSM _ (Rd2.two rfl rfl (World.alloc_heap_new w2 _) (Nat.lt_succ_self _) ((g2.alloc (Nat.le_refl _) _).more (Nat.le_succ _)) (((hD.below ((hB.trans (hS2.mono (by omega))).mono hB0)).alloc (by have := hS2.size; omega) _).more (by have := hS2.size; omega))) (by simp) (by have := HHL.out; omega)).mono ?_
    rintro e w6 ⟨rfl, x6⟩
    show K _ _
    refine hK.out _ _ (below_step hS x6) (fun hS => ?_)
    clear hK K
    try go_frame
    refine wpAnyH_ready (rs := [7]) (by kernel_rfl) (by simp) (AllReadyH.cons (o := ⟨some 17, _, _, _, _, _⟩) rfl (fun K hK => ?_) AllReadyH.nil)
    rw [if_pos (by rfl)]
    go_simp
    refine (cIhead q A c _ N HE HHE ha (by omega) (by omega)).mono ?_
    rintro e w7 ⟨v7, rfl, m7⟩
    obtain ⟨A7, c7, rfl, g7, o7, x7⟩ := made_shape m7
    have hS7 := below_step hS x7
    have hT7 := hS
    show K _ _
    refine hK.out _ _ (below_step hS x7) (fun hS => ?_)
    clear hK K
    try go_frame
    refine wpAnyH_ready (rs := [10]) (by kernel_rfl) (by simp) (AllReadyH.cons (o := ⟨some 20, _, _, _, _, _⟩) rfl (fun K hK => ?_) AllReadyH.nil)
    rw [if_pos (by rfl)]
    refine append_wp _ _ rfl W.heap.size _ _ _ rfl (own_base o7 (by have := hT7.size; omega)) B A c q.dat rfl hD.none_ ((hD.below ((hB.trans (hS.mono (by omega))).mono hB0)).rd) (by have := HEL.out; omega) hS.size ?_
    intro v8 w8 own8 grow8
    obtain ⟨A8, c8, rfl, owm8⟩ := own_made (bs := bldI [] q) own8 (by rw [HBL.out]; simp) (by rw [HBL.out, row_append])
    refine hK.out _ _ (hS.grown grow8 hS.size (fun k hk => own_block_ge (own_base o7 (by have := hT7.size; omega)) k hk)) (fun hS => ?_)
    clear hK K
    try go_frame
    refine held_pure (i := 11) (oi := ⟨some 2, _, _, _, _, _⟩) rfl (by kernel_rfl) (by kernel_rfl) (by kernel_rfl) (fun _ _ _ h => h) (by rfl) (v := ?_) (fun w hSw => ?_) hS (fun hS => ?_)
    rotate_left
    · go_simp; try with_reducible rfl
    try go_frame
    refine held_pure (i := 12) (oi := ⟨some 3, _, _, _, _, _⟩) rfl (by kernel_rfl) (by kernel_rfl) (by kernel_rfl) (fun _ _ _ h => h) (by rfl) (v := ?_) (fun w hSw => ?_) hS (fun hS => ?_)
    rotate_left
    · go_simp; try with_reducible rfl
    try go_frame
    refine wpAnyH_done (by kernel_rfl) ?_ _
    go_wp2_with fail
    go_ret2
    exact ⟨.slice A8 (bldI [] q).length c8, by rw [HC.out]; rfl, fun h => absurd HC.out h, fun _ => Made.of_own (own_base owm8 (by omega)) (hB.trans (hS.mono (by omega)))⟩
  · have hne : (chkI q != 0) = true := by simpa using hc
    have HN := Lib.hid hc
    clear hc
    go_wp2_with (first
      | ((with_reducible show wpList _ _ _ (Oper.mk _ (Op.load 24 _) _ _ _ _ :: _) _ _); refine wpList_val rfl (run_load_is rfl rfl hAt rfl) ?_)
      | (go_at_call 14; refine (cIcheck q A c _ hl).mono ?_; rintro e w1 ⟨rfl, x1⟩; skip))
    go_ret2
    exact ⟨.slice none 0 0, rfl, fun _ => ⟨rfl, hB.trans (x1.mono (by omega))⟩, fun h => absurd h HN.out⟩
set_option maxRecDepth 100000 in
set_option maxHeartbeats 1000000 in
theorem rIbuild (B : Nat) (hD : Arg w B A c q.dat) (hB0 : B ≤ w.heap.size) (hl : q.dat.length ≤ 1000000) :
    Calls Try.prog 12 #[isv q A c] w fun e w' => ∃ v, e = .returned (.tuple #[v, .int .i64 (chkI q)]) ∧ (chkI q ≠ 0 → v = .slice none 0 0 ∧ Below w.heap.size w w') ∧ (chkI q = 0 → Made w w' v (bldI [] q)) := by
  have hB : Below w.heap.size w (w.alloc (.cells (isa q A c) 24)) := (Below.refl w.heap.size w).alloc (Nat.le_refl _) _
  have hAt := Atis.new (q := q) (A := A) (c := c) w
  have hz : w.heap.size < (w.alloc (.cells (isa q A c) 24)).heap.size := by simp
  rw [isv_eq]
  go_enter Try.func12, Try.ntmps12
  go_upto_region 1 with fail
  generalize w.alloc (.cells (isa q A c) 24) = W at *
  by_cases hc : chkI q = 0
  · have HC := Lib.hid hc
    obtain ⟨ha, hl2⟩ := chkI_ok hc
    clear hc
    obtain ⟨N, hN⟩ : ∃ n, n = smI [] q := ⟨_, rfl⟩
    have bd := smI_bd [] q
    have hN0 : 0 ≤ N := by rw [hN]; exact bd.1
    have hN1 : N ≤ 65535 := by rw [hN]; exact bd.2
    obtain ⟨B0, hb0⟩ : ∃ l, l = hdI q 0 ++ q.dat := ⟨_, rfl⟩
    have HB0 := Lib.hid hb0
    have lB := Lib.hid (show B0.length = 8 + q.dat.length by rw [hb0, List.length_append, hdI_len])
    have HSM1 := Lib.hid (show N = 65535 - fold (psum [B0]) by rw [hN, hb0]; exact smI_one q)
    have HBL2 := Lib.hid (show bldI [] q = hdI q N ++ q.dat by rw [hN]; rfl)
    clear hb0
    clear bd hN
    go_upto_region 4 with (first
      | ((with_reducible show wpList _ _ _ (Oper.mk _ (Op.load 24 _) _ _ _ _ :: _) _ _); refine wpList_val rfl (run_load_is rfl rfl hAt rfl) ?_)
      | (go_at_call 15; refine (rIcheck q A c _ hl).mono ?_; rintro e w1 ⟨rfl, x1⟩; rw [HC.out]))
    refine wp_region_held_drew (S := fun w' => Below W.heap.size W w') (by kernel_rfl) x1.drew (fun hS => ?_)
    refine held_pure (i := 0) (oi := ⟨some 10, _, _, _, _, _⟩) rfl (by kernel_rfl) (by kernel_rfl) (by kernel_rfl) (fun _ _ _ h => h) (by rfl) (fun w hSw => run_load_is rfl rfl (hAt.below hSw (by omega)) rfl) hS (fun hS => ?_)
    try go_frame
    refine held_pure (i := 1) (oi := ⟨some 11, _, _, _, _, _⟩) rfl (by kernel_rfl) (by kernel_rfl) (by kernel_rfl) (fun _ _ _ h => h) (by rfl) (fun w hSw => run_load_is rfl rfl (hAt.below hSw (by omega)) rfl) hS (fun hS => ?_)
    try go_frame
    refine wpAnyH_ready (rs := [2]) (by kernel_rfl) (by simp) (AllReadyH.cons (o := ⟨some 12, _, _, _, _, _⟩) rfl (fun K hK => ?_) AllReadyH.nil)
    rw [if_pos (by rfl)]
    go_simp
    refine (rIbytes q A c _ B 0 B0 HB0 ha hl (by omega) (by omega) (hD.below ((hB.trans (hS.mono (by omega))).mono hB0)) (by have := hS.size; omega)).mono ?_
    rintro e w2 ⟨v2, rfl, m2⟩
    obtain ⟨A2, c2, rfl, g2, o2, x2⟩ := made_shape m2
    have hS2 := below_step hS x2
    show K _ _
    refine hK.out _ _ (below_step hS x2) (fun hS => ?_)
    clear hK K
    try go_frame
    refine wpAnyH_ready (rs := [3]) (by kernel_rfl) (by simp) (AllReadyH.cons (o := ⟨some 13, _, _, _, _, _⟩) rfl (fun K hK => ?_) AllReadyH.nil)
    rw [if_pos (by rfl)]
    go_simp
    refine hK.out _ _ (hS.alloc hS.size _) (fun hS => ?_)
    clear hK K
    try go_frame
    refine wpAnyH_ready (rs := [4]) (by kernel_rfl) (by simp) (AllReadyH.cons (o := ⟨some 14, _, _, _, _, _⟩) rfl (fun K hK => ?_) AllReadyH.nil)
    rw [if_pos (by rfl)]
    go_simp
    refine (rof_oneN (some ⟨w2.heap.size, 0, none⟩) B0 1 _ N HSM1 _ (Rd2.one (World.alloc_heap_new w2 _) (Nat.lt_succ_self _) ((g2.alloc (Nat.le_refl _) _).more (Nat.le_succ _))) (by have := lB.out; omega)).mono ?_
    rintro e w4 ⟨rfl, n4, rfl⟩
    show K _ _
    refine hK.out _ _ (below_drewN hS _) (fun hS => ?_)
    clear hK K
    try go_frame
    refine wpAnyH_ready (rs := [5]) (by kernel_rfl) (by simp) (AllReadyH.cons (o := ⟨some 15, _, _, _, _, _⟩) rfl (fun K hK => ?_) AllReadyH.nil)
    rw [if_pos (by rfl)]
    go_simp
    refine (rIbytes q A c _ B N (bldI [] q) HBL2 ha hl hN0 hN1 (hD.below ((hB.trans (hS.mono (by omega))).mono hB0)) (by have := hS.size; omega)).mono ?_
    rintro e w5 ⟨v5, rfl, m5⟩
    have hS5 := hS
    show K _ _
    refine hK.out _ _ (below_step hS m5.below) (fun hS => ?_)
    clear hK K
    try go_frame
    refine held_pure (i := 6) (oi := ⟨some 2, _, _, _, _, _⟩) rfl (by kernel_rfl) (by kernel_rfl) (by kernel_rfl) (fun _ _ _ h => h) (by rfl) (v := ?_) (fun w hSw => ?_) hS (fun hS => ?_)
    rotate_left
    · go_simp; try with_reducible rfl
    try go_frame
    refine held_pure (i := 7) (oi := ⟨some 3, _, _, _, _, _⟩) rfl (by kernel_rfl) (by kernel_rfl) (by kernel_rfl) (fun _ _ _ h => h) (by rfl) (v := ?_) (fun w hSw => ?_) hS (fun hS => ?_)
    rotate_left
    · go_simp; try with_reducible rfl
    try go_frame
    refine wpAnyH_done (by kernel_rfl) ?_ _
    go_wp2_with fail
    go_ret2
    exact ⟨v5, by rw [HC.out]; rfl, fun h => absurd HC.out h, fun _ => m5.after (hB.trans (hS5.mono (by omega)))⟩
  · have hne : (chkI q != 0) = true := by simpa using hc
    have HN := Lib.hid hc
    clear hc
    go_wp2_with (first
      | ((with_reducible show wpList _ _ _ (Oper.mk _ (Op.load 24 _) _ _ _ _ :: _) _ _); refine wpList_val rfl (run_load_is rfl rfl hAt rfl) ?_)
      | (go_at_call 15; refine (rIcheck q A c _ hl).mono ?_; rintro e w1 ⟨rfl, x1⟩; skip))
    go_ret2
    exact ⟨.slice none 0 0, rfl, fun _ => ⟨rfl, hB.trans (x1.mono (by omega))⟩, fun h => absurd h HN.out⟩
end
end Go.Proofs.Ytobkiffiapjhgaa
