/-
  Contracts and lemmas on which the proofs of this seat stand (several texts in one). Conditions are each theorem's own.
-/
import Derived.Test.YtggcjjcgiphjeaaMa6

/-
  Contracts of layer 7's Check, numbers and Same, the program's and the document's; of the document's mod and Pseudo. Conditions are each theorem's own.
-/
namespace Go.Proofs.Ytggcjjcgiphjeaa
open Go.RowKit

theorem mod_val (n m : Int) (h0 : 0 < m) (h1 : m ≤ 4294967296) : (wrap64 (n.tmod m + m)).tmod m = n % m := by
  have hlt := Int.tmod_lt_of_pos n h0
  have hgt : -m < n.tmod m := by
    have := Int.tmod_lt_of_pos (-n) h0
    rw [Int.neg_tmod] at this; omega
  have e1 : wrap64 (n.tmod m + m) = n.tmod m + m := by unfold wrap64; omega
  rw [e1, Int.tmod_eq_emod_of_nonneg (by omega), Int.add_emod_right]
  have h2 : n = m * (n.tdiv m) + n.tmod m := (Int.mul_tdiv_add_tmod n m).symm
  conv => rhs; rw [h2]
  rw [Int.add_comm, Int.add_mul_emod_self_left]
theorem rmod_any (n m : Int) (w : World) (hm : m = 4294967296 ∨ m = 65536 ∨ m = 256) :
    Calls Try.prog 45 #[.int .i64 n, .int .i64 m] w fun e w' => e = .returned (.int .i64 (n % m)) ∧ w = w' := by
  have hv := Lib.hid (fun h0 h1 => mod_val n m h0 h1)
  rcases hm with rfl | rfl | rfl
  all_goals
    go_enter Try.func45, Try.ntmps45
    go_wp2_with fail
    go_ret
    exact ⟨ret_int (hv.out (by decide) (by decide)), rfl⟩
theorem rput_nil (n s : Int) (w : World) : Calls Try.prog 44 #[.slice none 0 0, .int .i64 n, .int .i64 s] w fun e w' => ∃ v, e = .returned v ∧ Made w w' v (putB [] n s) :=
  rput_any none [] 0 0 n s w (Arg.nil _ 0) (by simp)
theorem rpsd_any (src dst proto size : Int) (w : World) :
    Calls Try.prog 19 #[.int .i64 src, .int .i64 dst, .int .i64 proto, .int .i64 size] w fun e w' => ∃ v, e = .returned v ∧ Made w w' v (psd src dst proto size) := by
  obtain ⟨L1, h1⟩ : ∃ l, l = be4 src := ⟨_, rfl⟩
  obtain ⟨L2, h2⟩ : ∃ l, l = L1 ++ be4 dst := ⟨_, rfl⟩
  obtain ⟨L3, h3⟩ : ∃ l, l = L2 ++ [u8 0] := ⟨_, rfl⟩
  obtain ⟨L4, h4⟩ : ∃ l, l = L3 ++ [u8 proto] := ⟨_, rfl⟩
  have H1 := Lib.hid (show putB [] (src % 4294967296) 4 = L1 by rw [putm_four, h1]; rfl)
  have H2 := Lib.hid (show putB L1 (dst % 4294967296) 4 = L2 by rw [putm_four, h2])
  have H3 := Lib.hid h3
  have H4 := Lib.hid (show putB L3 (proto % 256) 1 = L4 by rw [putm_one, h4])
  have H5 := Lib.hid (show putB L4 (size % 65536) 2 = psd src dst proto size by rw [putm_two, h4, h3, h2, h1]; rfl)
  have l1 : L1.length ≤ 4 := by rw [h1]; simp [be4]
  have l2 : L2.length ≤ 8 := by rw [h2, List.length_append]; simp [be4]; omega
  have l3 : L3.length ≤ 9 := by rw [h3, List.length_append]; simp; omega
  have l4 : L4.length ≤ 10 := by rw [h4, List.length_append]; simp; omega
  clear h1 h2 h3 h4
  go_enter Try.func19, Try.ntmps19
  go_upto_region 2 with (first
    | (go_at_call 45; ((with_reducible refine (rmod_any src 4294967296 _ (.inl rfl)).mono ?_); rintro e w' ⟨rfl, rfl⟩))
    | (go_at_call 44; ((with_reducible refine (rput_nil (src % 4294967296) 4 _).mono ?_); rintro e w1 ⟨v1, rfl, m1⟩; rw [H1.out] at m1; obtain ⟨A1, c1, rfl, g1, o1, x1⟩ := made_shape m1))
    | (go_at_call 45; ((with_reducible refine (rmod_any dst 4294967296 _ (.inl rfl)).mono ?_); rintro e w' ⟨rfl, rfl⟩))
    | (go_at_call 44; ((with_reducible refine (rput_any A1 L1 c1 _ (dst % 4294967296) 4 _ g1 (by omega)).mono ?_); rintro e w2 ⟨v2, rfl, m2⟩; rw [H2.out] at m2; obtain ⟨A2, c2, rfl, g2, o2, x2⟩ := made_shape m2)))
  go_wp2_with (first
    | (at_builtin; go_loud (refine append_rd rfl _ _ rfl w1.heap.size _ _ _ rfl (o2.alloc _) (w2.heap.size + 1) (some ⟨w2.heap.size, 0, none⟩) 1 [u8 0] rfl (fun e => by cases e) (Rd.one _ rfl) (by simp; omega) (by have := x2.size; simp; omega) ?_; intro v3 w3 own3 grow3; obtain ⟨A3, c3, rfl, owm3⟩ := own_made (bs := L3) own3 (by rw [H3.out]; simp) (by rw [H3.out, row_append])))
    | (go_at_call 45; ((with_reducible refine (rmod_any proto 256 _ (.inr (.inr rfl))).mono ?_); rintro e w' ⟨rfl, rfl⟩))
    | (go_at_call 44; ((with_reducible refine (rput_any A3 L3 c3 _ (proto % 256) 1 _ (arg_own owm3) (by omega)).mono ?_); rintro e w4 ⟨v4, rfl, m4⟩; rw [H4.out] at m4; obtain ⟨A4, c4, rfl, g4, o4, x4⟩ := made_shape m4))
    | (go_at_call 45; ((with_reducible refine (rmod_any size 65536 _ (.inr (.inl rfl))).mono ?_); rintro e w' ⟨rfl, rfl⟩))
    | (go_at_call 44; ((with_reducible refine (rput_any A4 L4 c4 _ (size % 65536) 2 _ g4 (by omega)).mono ?_); rintro e w5 ⟨v5, rfl, m5⟩; rw [H5.out] at m5)))
  go_ret
  have z1 := x1.size; have z2 := x2.size
  have x03 : Below w.heap.size w w3 := (((x1.trans (x2.mono z1)).alloc (by omega) _)).grown grow3 (by simp; omega) (fun k hk => by have := own_block_ge o2 k hk; omega)
  have z3 := x03.size
  exact ⟨v5, rfl, m5.after (x03.trans (x4.mono z3))⟩
section
variable (q : PU) (A : Option Addr) (c : Nat) (w : World)
theorem argU_iff (q : PU) : argU q ↔ (fitsB q.src 2 = true ∧ fitsB q.dst 2 = true) := by
  rw [fitsB_iff, fitsB_iff, pw2, argU]; omega
set_option maxHeartbeats 1000000 in
theorem cUcheck (hl : q.dat.length ≤ 1000000) : Calls Try.prog 14 #[usv q A c] w fun e w' => e = .returned (.int .i64 (chkU q)) ∧ Below w.heap.size w w' := by
  have hB : Below w.heap.size w (w.alloc (.cells (usa q A c) 24)) := (Below.refl w.heap.size w).alloc (Nat.le_refl _) _
  have hAt := Atus.new (q := q) (A := A) (c := c) w
  have hz : w.heap.size < (w.alloc (.cells (usa q A c) 24)).heap.size := by simp
  rw [usv_eq]
  have HO := Lib.hid (argU_iff q)
  have k0 := hAt.src; have k1 := hAt.dst; have k3 := hAt.dat
  go_enter Try.func14, Try.ntmps14
  go_upto_region 1 with fail
  generalize w.alloc (.cells (usa q A c) 24) = W at *
  by_cases ho : argU q
  · have H0 := Lib.hid (HO.out.1 ho).1
    have H1 := Lib.hid (HO.out.1 ho).2
    by_cases s : 65527 < q.dat.length
    · have HE := Lib.hid (show chkU q = 6 by rw [chkU, if_pos ho, if_pos (by omega)])
      clear ho HO hAt
      go_wp2_with (go_at_call 40; refine (fits_any _ _ _).mono ?_; rintro e w' ⟨rfl, rfl⟩; (first | rw [H0.out] | rw [H1.out] | skip))
      go_ret
      exact ⟨ret_int (by rw [HE.out]), hB⟩
    · have HE := Lib.hid (show chkU q = 0 by rw [chkU, if_pos ho, if_neg (by omega)])
      clear ho HO hAt
      go_wp2_with (go_at_call 40; refine (fits_any _ _ _).mono ?_; rintro e w' ⟨rfl, rfl⟩; (first | rw [H0.out] | rw [H1.out] | skip))
      go_ret
      exact ⟨ret_int (by rw [HE.out]), hB⟩
  · have HE := Lib.hid (show chkU q = 1 by rw [chkU, if_neg ho])
    have hno : ¬ (fitsB q.src 2 = true ∧ fitsB q.dst 2 = true) := fun h => ho (HO.out.2 h)
    clear ho HO hAt
    cases h0 : fitsB q.src 2
    · have H0 := Lib.hid h0; have H1 := H0
      clear hno h0
      go_wp2_with (go_at_call 40; refine (fits_any _ _ _).mono ?_; rintro e w' ⟨rfl, rfl⟩; (first | rw [H0.out] | rw [H1.out] | skip))
      go_ret
      exact ⟨ret_int (by rw [HE.out]), hB⟩
    · have H0 := Lib.hid h0
      rw [h0] at hno; clear h0
      have h1 : fitsB q.dst 2 = false := by cases h1 : fitsB q.dst 2; rfl; exact absurd ⟨rfl, h1⟩ hno
      have H1 := Lib.hid h1
      clear hno h1
      go_wp2_with (go_at_call 40; refine (fits_any _ _ _).mono ?_; rintro e w' ⟨rfl, rfl⟩; (first | rw [H0.out] | rw [H1.out] | skip))
      go_ret
      exact ⟨ret_int (by rw [HE.out]), hB⟩
set_option maxHeartbeats 1000000 in
theorem rUcheck (hl : q.dat.length ≤ 1000000) : Calls Try.prog 15 #[usv q A c] w fun e w' => e = .returned (.int .i64 (chkU q)) ∧ Below w.heap.size w w' := by
  have hB : Below w.heap.size w (w.alloc (.cells (usa q A c) 24)) := (Below.refl w.heap.size w).alloc (Nat.le_refl _) _
  have hAt := Atus.new (q := q) (A := A) (c := c) w
  have hz : w.heap.size < (w.alloc (.cells (usa q A c) 24)).heap.size := by simp
  rw [usv_eq]
  have HO := Lib.hid (argU_iff q)
  have k0 := hAt.src; have k1 := hAt.dst; have k3 := hAt.dat
  go_enter Try.func15, Try.ntmps15
  go_upto_region 1 with fail
  generalize w.alloc (.cells (usa q A c) 24) = W at *
  by_cases ho : argU q
  · have H0 := Lib.hid (HO.out.1 ho).1
    have H1 := Lib.hid (HO.out.1 ho).2
    by_cases s : 65527 < q.dat.length
    · have HE := Lib.hid (show chkU q = 6 by rw [chkU, if_pos ho, if_pos (by omega)])
      clear ho HO hAt
      go_wp2_with (go_at_call 41; refine (rfits_any _ _ _).mono ?_; rintro e w' ⟨rfl, rfl⟩; (first | rw [H0.out] | rw [H1.out] | skip))
      go_ret
      exact ⟨ret_int (by rw [HE.out]), hB⟩
    · have HE := Lib.hid (show chkU q = 0 by rw [chkU, if_pos ho, if_neg (by omega)])
      clear ho HO hAt
      go_wp2_with (go_at_call 41; refine (rfits_any _ _ _).mono ?_; rintro e w' ⟨rfl, rfl⟩; (first | rw [H0.out] | rw [H1.out] | skip))
      go_ret
      exact ⟨ret_int (by rw [HE.out]), hB⟩
  · have HE := Lib.hid (show chkU q = 1 by rw [chkU, if_neg ho])
    have hno : ¬ (fitsB q.src 2 = true ∧ fitsB q.dst 2 = true) := fun h => ho (HO.out.2 h)
    clear ho HO hAt
    cases h0 : fitsB q.src 2
    · have H0 := Lib.hid h0; have H1 := H0
      clear hno h0
      go_wp2_with (go_at_call 41; refine (rfits_any _ _ _).mono ?_; rintro e w' ⟨rfl, rfl⟩; (first | rw [H0.out] | rw [H1.out] | skip))
      go_ret
      exact ⟨ret_int (by rw [HE.out]), hB⟩
    · have H0 := Lib.hid h0
      rw [h0] at hno; clear h0
      have h1 : fitsB q.dst 2 = false := by cases h1 : fitsB q.dst 2; rfl; exact absurd ⟨rfl, h1⟩ hno
      have H1 := Lib.hid h1
      clear hno h1
      go_wp2_with (go_at_call 41; refine (rfits_any _ _ _).mono ?_; rintro e w' ⟨rfl, rfl⟩; (first | rw [H0.out] | rw [H1.out] | skip))
      go_ret
      exact ⟨ret_int (by rw [HE.out]), hB⟩

def numsU (q : PU) : List Int := [q.src, q.dst]
set_option maxHeartbeats 1000000 in
theorem cUnums : Calls Try.prog 42 #[usv q A c] w fun e w' => e = .returned (.agg (ivs (numsU q))) ∧ Below w.heap.size w w' := by
  have hB : Below w.heap.size w (w.alloc (.cells (usa q A c) 24)) := (Below.refl w.heap.size w).alloc (Nat.le_refl _) _
  have hAt0 := Atus.new (q := q) (A := A) (c := c) w
  have hAt : Atus ((w.alloc (.cells (usa q A c) 24)).alloc (.cells #[.int .i64 0, .int .i64 0] 61)) w.heap.size q A c := hAt0.below ((Below.refl (w.heap.size + 1) _).alloc (by simp) _) (by omega)
  have k0 := hAt.src; have k1 := hAt.dst
  rw [usv_eq]
  go_enter Try.func42, Try.ntmps42
  go_wp2_with fail
  exact bodyPost_ret (results_cell_row rfl _ _ (w.heap.size + 1) 61 (ivs (numsU q)) (0, 0) _ rfl (heap_new (X := w.alloc (.cells (usa q A c) 24)) (o := .cells (ivs (numsU q)) 61) (by simp)) Try.underlying61 rfl (by kernel_rfl)) rfl ⟨rfl, hB.alloc hB.size _⟩
end
theorem sameU_nums (q r : PU) : sameU q r = (decide (numsU q = numsU r) && (q.nosum == r.nosum) && decide (q.dat = r.dat)) := by
  rw [sameU, Bool.eq_iff_iff]; simp [numsU, and_assoc]
section
variable (q r : PU) (A : Option Addr) (c : Nat) (X : Option Addr) (d B : Nat) (w : World)
set_option maxRecDepth 100000 in
set_option maxHeartbeats 1000000 in
theorem cUsame (hB : B ≤ w.heap.size) (hA : Rd w B A q.dat) (hX : Rd w B X r.dat) :
    Calls Try.prog 16 #[usv q A c, usv r X d] w fun e w' => e = .returned (.bool (sameU q r)) ∧ Below w.heap.size w w' := by
  have hBW : Below w.heap.size w ((w.alloc (.cells (usa q A c) 24)).alloc (.cells (usa r X d) 24)) := ((Below.refl w.heap.size w).alloc (Nat.le_refl _) _).alloc (by simp) _
  have at1 : Atus ((w.alloc (.cells (usa q A c) 24)).alloc (.cells (usa r X d) 24)) w.heap.size q A c := (Atus.new w).below ((Below.refl (w.heap.size + 1) _).alloc (by simp) _) (by omega)
  have at2 : Atus ((w.alloc (.cells (usa q A c) 24)).alloc (.cells (usa r X d) 24)) (w.heap.size + 1) r X d := by
    have := Atus.new (q := r) (A := X) (c := d) (w.alloc (.cells (usa q A c) 24))
    rwa [show (w.alloc (.cells (usa q A c) 24)).heap.size = w.heap.size + 1 from by simp] at this
  have hz : w.heap.size + 1 < ((w.alloc (.cells (usa q A c) 24)).alloc (.cells (usa r X d) 24)).heap.size := by simp
  rw [usv_eq, usv_eq]
  have HS := Lib.hid (sameU_nums q r)
  go_enter Try.func16, Try.ntmps16
  go_wp2_with fail
  generalize (w.alloc (.cells (usa q A c) 24)).alloc (.cells (usa r X d) 24) = W at *
  obtain ⟨K, hK⟩ : ∃ K, K = decide (numsU q = numsU r) := ⟨_, rfl⟩
  obtain ⟨E, hE⟩ : ∃ D, D = decide (q.dat = r.dat) := ⟨_, rfl⟩
  have eK : ∀ w, (Op.equalIn 10000 61 (.agg (ivs (numsU q))) (.agg (ivs (numsU r)))).run Try.prog w = .ok K w := fun w => by rw [hK]; exact ints_eq 61 2 Try.underlying61 _ _ rfl rfl w
  rw [← hK, ← hE] at HS
  have HE := Lib.hid hE
  clear hK hE
  cases K
  · skip
    refine wp_region_held_drew (S := fun w' => Below W.heap.size W w') (by kernel_rfl) (Below.refl _ W).drew (fun hS => ?_)
    refine held_pure (i := 0) (oi := ⟨some 5, _, _, _, _, _⟩) rfl (by kernel_rfl) (by kernel_rfl) (by kernel_rfl) (fun _ _ _ h => h) (by rfl) (fun w hSw => run_load_us rfl rfl (at1.below hSw (by omega)) rfl) hS (fun hS => ?_)
    try go_frame
    refine held_pure (i := 2) (oi := ⟨some 7, _, _, _, _, _⟩) rfl (by kernel_rfl) (by kernel_rfl) (by kernel_rfl) (fun _ _ _ h => h) (by rfl) (fun w hSw => run_load_us rfl rfl (at2.below hSw (by omega)) rfl) hS (fun hS => ?_)
    try go_frame
    refine wpAnyH_ready (rs := [1]) (by kernel_rfl) (by simp) (AllReadyH.cons (o := ⟨some 6, _, _, _, _, _⟩) rfl (fun K hK => ?_) AllReadyH.nil)
    rw [if_pos (by rfl)]
    go_simp
    refine (cUnums q A c _).mono ?_
    rintro e w1 ⟨rfl, x1⟩
    show K _ _
    refine hK.out _ _ (below_step hS x1) (fun hS => ?_)
    clear hK K
    try go_frame
    refine wpAnyH_ready (rs := [3]) (by kernel_rfl) (by simp) (AllReadyH.cons (o := ⟨some 8, _, _, _, _, _⟩) rfl (fun K hK => ?_) AllReadyH.nil)
    rw [if_pos (by rfl)]
    go_simp
    refine (cUnums r X d _).mono ?_
    rintro e w3 ⟨rfl, x3⟩
    show K _ _
    refine hK.out _ _ (below_step hS x3) (fun hS => ?_)
    clear hK K
    try go_frame
    refine held_pure (i := 4) (oi := ⟨some 9, _, _, _, _, _⟩) rfl (by kernel_rfl) (by kernel_rfl) (by kernel_rfl) (fun _ _ _ h => h) (by rfl) (v := .bool false) (fun w hSw => by go_simp) hS (fun hS => ?_)
    try go_frame
    refine held_pure (i := 5) (oi := ⟨some 10, _, _, _, _, _⟩) rfl (by kernel_rfl) (by kernel_rfl) (by kernel_rfl) (fun _ _ _ h => h) (by rfl) (v := ?_) (fun w hSw => ?_) hS (fun hS => ?_)
    rotate_left
    · go_simp; try with_reducible rfl
    try go_frame
    refine held_skip (i := 6) (oi := ⟨some 11, _, _, _, _, _⟩) rfl (by kernel_rfl) (by kernel_rfl) (by kernel_rfl) (fun _ _ _ h => h) (by rfl) hS (fun hS => ?_)
    try go_frame
    refine held_skip (i := 7) (oi := ⟨some 12, _, _, _, _, _⟩) rfl (by kernel_rfl) (by kernel_rfl) (by kernel_rfl) (fun _ _ _ h => h) (by rfl) hS (fun hS => ?_)
    try go_frame
    refine held_skip (i := 8) (oi := ⟨some 13, _, _, _, _, _⟩) rfl (by kernel_rfl) (by kernel_rfl) (by kernel_rfl) (fun _ _ _ h => h) (by rfl) hS (fun hS => ?_)
    try go_frame
    refine held_skip (i := 9) (oi := ⟨some 14, _, _, _, _, _⟩) rfl (by kernel_rfl) (by kernel_rfl) (by kernel_rfl) (fun _ _ _ h => h) (by rfl) hS (fun hS => ?_)
    try go_frame
    refine held_skip (i := 10) (oi := ⟨some 15, _, _, _, _, _⟩) rfl (by kernel_rfl) (by kernel_rfl) (by kernel_rfl) (fun _ _ _ h => h) (by rfl) hS (fun hS => ?_)
    try go_frame
    refine held_pure (i := 11) (oi := ⟨some 16, _, _, _, _, _⟩) rfl (by kernel_rfl) (by kernel_rfl) (by kernel_rfl) (fun _ _ _ h => h) (by rfl) (v := ?_) (fun w hSw => ?_) hS (fun hS => ?_)
    rotate_left
    · go_simp; try with_reducible rfl
    try go_frame
    refine held_pure (i := 12) (oi := ⟨some 17, _, _, _, _, _⟩) rfl (by kernel_rfl) (by kernel_rfl) (by kernel_rfl) (fun _ _ _ h => h) (by rfl) (v := ?_) (fun w hSw => ?_) hS (fun hS => ?_)
    rotate_left
    · go_simp; try with_reducible rfl
    try go_frame
    refine held_skip (i := 13) (oi := ⟨some 18, _, _, _, _, _⟩) rfl (by kernel_rfl) (by kernel_rfl) (by kernel_rfl) (fun _ _ _ h => h) (by rfl) hS (fun hS => ?_)
    try go_frame
    refine held_skip (i := 14) (oi := ⟨some 19, _, _, _, _, _⟩) rfl (by kernel_rfl) (by kernel_rfl) (by kernel_rfl) (fun _ _ _ h => h) (by rfl) hS (fun hS => ?_)
    try go_frame
    refine held_skip (i := 15) (oi := ⟨some 20, _, _, _, _, _⟩) rfl (by kernel_rfl) (by kernel_rfl) (by kernel_rfl) (fun _ _ _ h => h) (by rfl) hS (fun hS => ?_)
    try go_frame
    refine held_skip (i := 16) (oi := ⟨some 21, _, _, _, _, _⟩) rfl (by kernel_rfl) (by kernel_rfl) (by kernel_rfl) (fun _ _ _ h => h) (by rfl) hS (fun hS => ?_)
    try go_frame
    refine held_skip (i := 17) (oi := ⟨some 22, _, _, _, _, _⟩) rfl (by kernel_rfl) (by kernel_rfl) (by kernel_rfl) (fun _ _ _ h => h) (by rfl) hS (fun hS => ?_)
    try go_frame
    refine held_pure (i := 18) (oi := ⟨some 23, _, _, _, _, _⟩) rfl (by kernel_rfl) (by kernel_rfl) (by kernel_rfl) (fun _ _ _ h => h) (by rfl) (v := ?_) (fun w hSw => ?_) hS (fun hS => ?_)
    rotate_left
    · go_simp; try with_reducible rfl
    try go_frame
    refine held_pure (i := 19) (oi := ⟨some 4, _, _, _, _, _⟩) rfl (by kernel_rfl) (by kernel_rfl) (by kernel_rfl) (fun _ _ _ h => h) (by rfl) (v := ?_) (fun w hSw => ?_) hS (fun hS => ?_)
    rotate_left
    · go_simp; try with_reducible rfl
    try go_frame
    refine wpAnyH_done (by kernel_rfl) ?_ _
    go_wp2_with fail
    go_ret
    exact ⟨ret_bool (by rw [HS.out]; rfl), hBW.trans (hS.mono (by omega))⟩
  · cases e7 : (q.nosum == r.nosum)
    · rw [e7] at HS
      refine wp_region_held_drew (S := fun w' => Below W.heap.size W w') (by kernel_rfl) (Below.refl _ W).drew (fun hS => ?_)
      refine held_pure (i := 0) (oi := ⟨some 5, _, _, _, _, _⟩) rfl (by kernel_rfl) (by kernel_rfl) (by kernel_rfl) (fun _ _ _ h => h) (by rfl) (fun w hSw => run_load_us rfl rfl (at1.below hSw (by omega)) rfl) hS (fun hS => ?_)
      try go_frame
      refine held_pure (i := 2) (oi := ⟨some 7, _, _, _, _, _⟩) rfl (by kernel_rfl) (by kernel_rfl) (by kernel_rfl) (fun _ _ _ h => h) (by rfl) (fun w hSw => run_load_us rfl rfl (at2.below hSw (by omega)) rfl) hS (fun hS => ?_)
      try go_frame
      refine wpAnyH_ready (rs := [1]) (by kernel_rfl) (by simp) (AllReadyH.cons (o := ⟨some 6, _, _, _, _, _⟩) rfl (fun K hK => ?_) AllReadyH.nil)
      rw [if_pos (by rfl)]
      go_simp
      refine (cUnums q A c _).mono ?_
      rintro e w1 ⟨rfl, x1⟩
      show K _ _
      refine hK.out _ _ (below_step hS x1) (fun hS => ?_)
      clear hK K
      try go_frame
      refine wpAnyH_ready (rs := [3]) (by kernel_rfl) (by simp) (AllReadyH.cons (o := ⟨some 8, _, _, _, _, _⟩) rfl (fun K hK => ?_) AllReadyH.nil)
      rw [if_pos (by rfl)]
      go_simp
      refine (cUnums r X d _).mono ?_
      rintro e w3 ⟨rfl, x3⟩
      show K _ _
      refine hK.out _ _ (below_step hS x3) (fun hS => ?_)
      clear hK K
      try go_frame
      refine held_pure (i := 4) (oi := ⟨some 9, _, _, _, _, _⟩) rfl (by kernel_rfl) (by kernel_rfl) (by kernel_rfl) (fun _ _ _ h => h) (by rfl) (v := .bool true) (fun w hSw => by go_simp) hS (fun hS => ?_)
      try go_frame
      refine held_pure (i := 5) (oi := ⟨some 10, _, _, _, _, _⟩) rfl (by kernel_rfl) (by kernel_rfl) (by kernel_rfl) (fun _ _ _ h => h) (by rfl) (v := ?_) (fun w hSw => ?_) hS (fun hS => ?_)
      rotate_left
      · go_simp; try with_reducible rfl
      try go_frame
      refine held_pure (i := 6) (oi := ⟨some 11, _, _, _, _, _⟩) rfl (by kernel_rfl) (by kernel_rfl) (by kernel_rfl) (fun _ _ _ h => h) (by rfl) (v := ?_) (fun w hSw => ?_) hS (fun hS => ?_)
      rotate_left
      · go_simp; try with_reducible rfl
      try go_frame
      refine held_pure (i := 7) (oi := ⟨some 12, _, _, _, _, _⟩) rfl (by kernel_rfl) (by kernel_rfl) (by kernel_rfl) (fun _ _ _ h => h) (by rfl) (fun w hSw => run_load_bool rfl rfl ((at1.below hSw (by omega)).nosum)) hS (fun hS => ?_)
      try go_frame
      refine held_pure (i := 8) (oi := ⟨some 13, _, _, _, _, _⟩) rfl (by kernel_rfl) (by kernel_rfl) (by kernel_rfl) (fun _ _ _ h => h) (by rfl) (v := ?_) (fun w hSw => ?_) hS (fun hS => ?_)
      rotate_left
      · go_simp; try with_reducible rfl
      try go_frame
      refine held_pure (i := 9) (oi := ⟨some 14, _, _, _, _, _⟩) rfl (by kernel_rfl) (by kernel_rfl) (by kernel_rfl) (fun _ _ _ h => h) (by rfl) (fun w hSw => run_load_bool rfl rfl ((at2.below hSw (by omega)).nosum)) hS (fun hS => ?_)
      try go_frame
      refine held_pure (i := 10) (oi := ⟨some 15, _, _, _, _, _⟩) rfl (by kernel_rfl) (by kernel_rfl) (by kernel_rfl) (fun _ _ _ h => h) (by rfl) (v := ?_) (fun w hSw => ?_) hS (fun hS => ?_)
      rotate_left
      · go_simp; try with_reducible rfl
      try go_frame
      refine held_pure (i := 11) (oi := ⟨some 16, _, _, _, _, _⟩) rfl (by kernel_rfl) (by kernel_rfl) (by kernel_rfl) (fun _ _ _ h => h) (by rfl) (v := ?_) (fun w hSw => ?_) hS (fun hS => ?_)
      rotate_left
      · go_simp; try with_reducible rfl
      try go_frame
      refine held_pure (i := 12) (oi := ⟨some 17, _, _, _, _, _⟩) rfl (by kernel_rfl) (by kernel_rfl) (by kernel_rfl) (fun _ _ _ h => h) (by rfl) (v := ?_) (fun w hSw => ?_) hS (fun hS => ?_)
      rotate_left
      · go_simp; try with_reducible rfl
      try go_frame
      refine held_skip (i := 13) (oi := ⟨some 18, _, _, _, _, _⟩) rfl (by kernel_rfl) (by kernel_rfl) (by kernel_rfl) (fun _ _ _ h => h) (by rfl) hS (fun hS => ?_)
      try go_frame
      refine held_skip (i := 14) (oi := ⟨some 19, _, _, _, _, _⟩) rfl (by kernel_rfl) (by kernel_rfl) (by kernel_rfl) (fun _ _ _ h => h) (by rfl) hS (fun hS => ?_)
      try go_frame
      refine held_skip (i := 15) (oi := ⟨some 20, _, _, _, _, _⟩) rfl (by kernel_rfl) (by kernel_rfl) (by kernel_rfl) (fun _ _ _ h => h) (by rfl) hS (fun hS => ?_)
      try go_frame
      refine held_skip (i := 16) (oi := ⟨some 21, _, _, _, _, _⟩) rfl (by kernel_rfl) (by kernel_rfl) (by kernel_rfl) (fun _ _ _ h => h) (by rfl) hS (fun hS => ?_)
      try go_frame
      refine held_skip (i := 17) (oi := ⟨some 22, _, _, _, _, _⟩) rfl (by kernel_rfl) (by kernel_rfl) (by kernel_rfl) (fun _ _ _ h => h) (by rfl) hS (fun hS => ?_)
      try go_frame
      refine held_pure (i := 18) (oi := ⟨some 23, _, _, _, _, _⟩) rfl (by kernel_rfl) (by kernel_rfl) (by kernel_rfl) (fun _ _ _ h => h) (by rfl) (v := ?_) (fun w hSw => ?_) hS (fun hS => ?_)
      rotate_left
      · go_simp; try with_reducible rfl
      try go_frame
      refine held_pure (i := 19) (oi := ⟨some 4, _, _, _, _, _⟩) rfl (by kernel_rfl) (by kernel_rfl) (by kernel_rfl) (fun _ _ _ h => h) (by rfl) (v := ?_) (fun w hSw => ?_) hS (fun hS => ?_)
      rotate_left
      · go_simp; try with_reducible rfl
      try go_frame
      refine wpAnyH_done (by kernel_rfl) ?_ _
      go_wp2_with fail
      go_ret
      exact ⟨ret_bool (by rw [HS.out]; rfl), hBW.trans (hS.mono (by omega))⟩
    · rw [e7] at HS
      cases E
      · skip
        refine wp_region_held_drew (S := fun w' => Below W.heap.size W w') (by kernel_rfl) (Below.refl _ W).drew (fun hS => ?_)
        refine held_pure (i := 0) (oi := ⟨some 5, _, _, _, _, _⟩) rfl (by kernel_rfl) (by kernel_rfl) (by kernel_rfl) (fun _ _ _ h => h) (by rfl) (fun w hSw => run_load_us rfl rfl (at1.below hSw (by omega)) rfl) hS (fun hS => ?_)
        try go_frame
        refine held_pure (i := 2) (oi := ⟨some 7, _, _, _, _, _⟩) rfl (by kernel_rfl) (by kernel_rfl) (by kernel_rfl) (fun _ _ _ h => h) (by rfl) (fun w hSw => run_load_us rfl rfl (at2.below hSw (by omega)) rfl) hS (fun hS => ?_)
        try go_frame
        refine wpAnyH_ready (rs := [1]) (by kernel_rfl) (by simp) (AllReadyH.cons (o := ⟨some 6, _, _, _, _, _⟩) rfl (fun K hK => ?_) AllReadyH.nil)
        rw [if_pos (by rfl)]
        go_simp
        refine (cUnums q A c _).mono ?_
        rintro e w1 ⟨rfl, x1⟩
        show K _ _
        refine hK.out _ _ (below_step hS x1) (fun hS => ?_)
        clear hK K
        try go_frame
        refine wpAnyH_ready (rs := [3]) (by kernel_rfl) (by simp) (AllReadyH.cons (o := ⟨some 8, _, _, _, _, _⟩) rfl (fun K hK => ?_) AllReadyH.nil)
        rw [if_pos (by rfl)]
        go_simp
        refine (cUnums r X d _).mono ?_
        rintro e w3 ⟨rfl, x3⟩
        show K _ _
        refine hK.out _ _ (below_step hS x3) (fun hS => ?_)
        clear hK K
        try go_frame
        refine held_pure (i := 4) (oi := ⟨some 9, _, _, _, _, _⟩) rfl (by kernel_rfl) (by kernel_rfl) (by kernel_rfl) (fun _ _ _ h => h) (by rfl) (v := .bool true) (fun w hSw => by go_simp) hS (fun hS => ?_)
        try go_frame
        refine held_pure (i := 5) (oi := ⟨some 10, _, _, _, _, _⟩) rfl (by kernel_rfl) (by kernel_rfl) (by kernel_rfl) (fun _ _ _ h => h) (by rfl) (v := ?_) (fun w hSw => ?_) hS (fun hS => ?_)
        rotate_left
        · go_simp; try with_reducible rfl
        try go_frame
        refine held_pure (i := 6) (oi := ⟨some 11, _, _, _, _, _⟩) rfl (by kernel_rfl) (by kernel_rfl) (by kernel_rfl) (fun _ _ _ h => h) (by rfl) (v := ?_) (fun w hSw => ?_) hS (fun hS => ?_)
        rotate_left
        · go_simp; try with_reducible rfl
        try go_frame
        refine held_pure (i := 7) (oi := ⟨some 12, _, _, _, _, _⟩) rfl (by kernel_rfl) (by kernel_rfl) (by kernel_rfl) (fun _ _ _ h => h) (by rfl) (fun w hSw => run_load_bool rfl rfl ((at1.below hSw (by omega)).nosum)) hS (fun hS => ?_)
        try go_frame
        refine held_pure (i := 8) (oi := ⟨some 13, _, _, _, _, _⟩) rfl (by kernel_rfl) (by kernel_rfl) (by kernel_rfl) (fun _ _ _ h => h) (by rfl) (v := ?_) (fun w hSw => ?_) hS (fun hS => ?_)
        rotate_left
        · go_simp; try with_reducible rfl
        try go_frame
        refine held_pure (i := 9) (oi := ⟨some 14, _, _, _, _, _⟩) rfl (by kernel_rfl) (by kernel_rfl) (by kernel_rfl) (fun _ _ _ h => h) (by rfl) (fun w hSw => run_load_bool rfl rfl ((at2.below hSw (by omega)).nosum)) hS (fun hS => ?_)
        try go_frame
        refine held_pure (i := 10) (oi := ⟨some 15, _, _, _, _, _⟩) rfl (by kernel_rfl) (by kernel_rfl) (by kernel_rfl) (fun _ _ _ h => h) (by rfl) (v := ?_) (fun w hSw => ?_) hS (fun hS => ?_)
        rotate_left
        · go_simp; try with_reducible rfl
        try go_frame
        refine held_pure (i := 11) (oi := ⟨some 16, _, _, _, _, _⟩) rfl (by kernel_rfl) (by kernel_rfl) (by kernel_rfl) (fun _ _ _ h => h) (by rfl) (v := ?_) (fun w hSw => ?_) hS (fun hS => ?_)
        rotate_left
        · go_simp; try with_reducible rfl
        try go_frame
        refine held_pure (i := 12) (oi := ⟨some 17, _, _, _, _, _⟩) rfl (by kernel_rfl) (by kernel_rfl) (by kernel_rfl) (fun _ _ _ h => h) (by rfl) (v := ?_) (fun w hSw => ?_) hS (fun hS => ?_)
        rotate_left
        · go_simp; try with_reducible rfl
        try go_frame
        refine held_pure (i := 13) (oi := ⟨some 18, _, _, _, _, _⟩) rfl (by kernel_rfl) (by kernel_rfl) (by kernel_rfl) (fun _ _ _ h => h) (by rfl) (v := ?_) (fun w hSw => ?_) hS (fun hS => ?_)
        rotate_left
        · go_simp; try with_reducible rfl
        try go_frame
        refine held_pure (i := 14) (oi := ⟨some 19, _, _, _, _, _⟩) rfl (by kernel_rfl) (by kernel_rfl) (by kernel_rfl) (fun _ _ _ h => h) (by rfl) (fun w hSw => run_load_sl rfl rfl ((at1.below hSw (by omega)).dat)) hS (fun hS => ?_)
        try go_frame
        refine held_pure (i := 15) (oi := ⟨some 20, _, _, _, _, _⟩) rfl (by kernel_rfl) (by kernel_rfl) (by kernel_rfl) (fun _ _ _ h => h) (by rfl) (v := ?_) (fun w hSw => ?_) hS (fun hS => ?_)
        rotate_left
        · go_simp; try with_reducible rfl
        try go_frame
        refine held_pure (i := 16) (oi := ⟨some 21, _, _, _, _, _⟩) rfl (by kernel_rfl) (by kernel_rfl) (by kernel_rfl) (fun _ _ _ h => h) (by rfl) (fun w hSw => run_load_sl rfl rfl ((at2.below hSw (by omega)).dat)) hS (fun hS => ?_)
        try go_frame
        refine wpAnyH_ready (rs := [17]) (by kernel_rfl) (by simp) (AllReadyH.cons (o := ⟨some 22, _, _, _, _, _⟩) rfl (fun K hK => ?_) AllReadyH.nil)
        rw [if_pos (by rfl)]
        go_simp
        refine (equal_any A X q.dat r.dat c d B B _ (hA.below ((hBW.trans (hS.mono hBW.size)).mono hB)) (hX.below ((hBW.trans (hS.mono hBW.size)).mono hB))).mono ?_
        rintro e w17 ⟨rfl, rfl⟩
        rw [← HE.out]
        show K _ _
        refine hK.out _ _ hS (fun hS => ?_)
        clear hK K
        try go_frame
        refine held_pure (i := 18) (oi := ⟨some 23, _, _, _, _, _⟩) rfl (by kernel_rfl) (by kernel_rfl) (by kernel_rfl) (fun _ _ _ h => h) (by rfl) (v := ?_) (fun w hSw => ?_) hS (fun hS => ?_)
        rotate_left
        · go_simp; try with_reducible rfl
        try go_frame
        refine held_pure (i := 19) (oi := ⟨some 4, _, _, _, _, _⟩) rfl (by kernel_rfl) (by kernel_rfl) (by kernel_rfl) (fun _ _ _ h => h) (by rfl) (v := ?_) (fun w hSw => ?_) hS (fun hS => ?_)
        rotate_left
        · go_simp; try with_reducible rfl
        try go_frame
        refine wpAnyH_done (by kernel_rfl) ?_ _
        go_wp2_with fail
        go_ret
        exact ⟨ret_bool (by rw [HS.out]; rfl), hBW.trans (hS.mono (by omega))⟩
      · skip
        refine wp_region_held_drew (S := fun w' => Below W.heap.size W w') (by kernel_rfl) (Below.refl _ W).drew (fun hS => ?_)
        refine held_pure (i := 0) (oi := ⟨some 5, _, _, _, _, _⟩) rfl (by kernel_rfl) (by kernel_rfl) (by kernel_rfl) (fun _ _ _ h => h) (by rfl) (fun w hSw => run_load_us rfl rfl (at1.below hSw (by omega)) rfl) hS (fun hS => ?_)
        try go_frame
        refine held_pure (i := 2) (oi := ⟨some 7, _, _, _, _, _⟩) rfl (by kernel_rfl) (by kernel_rfl) (by kernel_rfl) (fun _ _ _ h => h) (by rfl) (fun w hSw => run_load_us rfl rfl (at2.below hSw (by omega)) rfl) hS (fun hS => ?_)
        try go_frame
        refine wpAnyH_ready (rs := [1]) (by kernel_rfl) (by simp) (AllReadyH.cons (o := ⟨some 6, _, _, _, _, _⟩) rfl (fun K hK => ?_) AllReadyH.nil)
        rw [if_pos (by rfl)]
        go_simp
        refine (cUnums q A c _).mono ?_
        rintro e w1 ⟨rfl, x1⟩
        show K _ _
        refine hK.out _ _ (below_step hS x1) (fun hS => ?_)
        clear hK K
        try go_frame
        refine wpAnyH_ready (rs := [3]) (by kernel_rfl) (by simp) (AllReadyH.cons (o := ⟨some 8, _, _, _, _, _⟩) rfl (fun K hK => ?_) AllReadyH.nil)
        rw [if_pos (by rfl)]
        go_simp
        refine (cUnums r X d _).mono ?_
        rintro e w3 ⟨rfl, x3⟩
        show K _ _
        refine hK.out _ _ (below_step hS x3) (fun hS => ?_)
        clear hK K
        try go_frame
        refine held_pure (i := 4) (oi := ⟨some 9, _, _, _, _, _⟩) rfl (by kernel_rfl) (by kernel_rfl) (by kernel_rfl) (fun _ _ _ h => h) (by rfl) (v := .bool true) (fun w hSw => by go_simp) hS (fun hS => ?_)
        try go_frame
        refine held_pure (i := 5) (oi := ⟨some 10, _, _, _, _, _⟩) rfl (by kernel_rfl) (by kernel_rfl) (by kernel_rfl) (fun _ _ _ h => h) (by rfl) (v := ?_) (fun w hSw => ?_) hS (fun hS => ?_)
        rotate_left
        · go_simp; try with_reducible rfl
        try go_frame
        refine held_pure (i := 6) (oi := ⟨some 11, _, _, _, _, _⟩) rfl (by kernel_rfl) (by kernel_rfl) (by kernel_rfl) (fun _ _ _ h => h) (by rfl) (v := ?_) (fun w hSw => ?_) hS (fun hS => ?_)
        rotate_left
        · go_simp; try with_reducible rfl
        try go_frame
        refine held_pure (i := 7) (oi := ⟨some 12, _, _, _, _, _⟩) rfl (by kernel_rfl) (by kernel_rfl) (by kernel_rfl) (fun _ _ _ h => h) (by rfl) (fun w hSw => run_load_bool rfl rfl ((at1.below hSw (by omega)).nosum)) hS (fun hS => ?_)
        try go_frame
        refine held_pure (i := 8) (oi := ⟨some 13, _, _, _, _, _⟩) rfl (by kernel_rfl) (by kernel_rfl) (by kernel_rfl) (fun _ _ _ h => h) (by rfl) (v := ?_) (fun w hSw => ?_) hS (fun hS => ?_)
        rotate_left
        · go_simp; try with_reducible rfl
        try go_frame
        refine held_pure (i := 9) (oi := ⟨some 14, _, _, _, _, _⟩) rfl (by kernel_rfl) (by kernel_rfl) (by kernel_rfl) (fun _ _ _ h => h) (by rfl) (fun w hSw => run_load_bool rfl rfl ((at2.below hSw (by omega)).nosum)) hS (fun hS => ?_)
        try go_frame
        refine held_pure (i := 10) (oi := ⟨some 15, _, _, _, _, _⟩) rfl (by kernel_rfl) (by kernel_rfl) (by kernel_rfl) (fun _ _ _ h => h) (by rfl) (v := ?_) (fun w hSw => ?_) hS (fun hS => ?_)
        rotate_left
        · go_simp; try with_reducible rfl
        try go_frame
        refine held_pure (i := 11) (oi := ⟨some 16, _, _, _, _, _⟩) rfl (by kernel_rfl) (by kernel_rfl) (by kernel_rfl) (fun _ _ _ h => h) (by rfl) (v := ?_) (fun w hSw => ?_) hS (fun hS => ?_)
        rotate_left
        · go_simp; try with_reducible rfl
        try go_frame
        refine held_pure (i := 12) (oi := ⟨some 17, _, _, _, _, _⟩) rfl (by kernel_rfl) (by kernel_rfl) (by kernel_rfl) (fun _ _ _ h => h) (by rfl) (v := ?_) (fun w hSw => ?_) hS (fun hS => ?_)
        rotate_left
        · go_simp; try with_reducible rfl
        try go_frame
        refine held_pure (i := 13) (oi := ⟨some 18, _, _, _, _, _⟩) rfl (by kernel_rfl) (by kernel_rfl) (by kernel_rfl) (fun _ _ _ h => h) (by rfl) (v := ?_) (fun w hSw => ?_) hS (fun hS => ?_)
        rotate_left
        · go_simp; try with_reducible rfl
        try go_frame
        refine held_pure (i := 14) (oi := ⟨some 19, _, _, _, _, _⟩) rfl (by kernel_rfl) (by kernel_rfl) (by kernel_rfl) (fun _ _ _ h => h) (by rfl) (fun w hSw => run_load_sl rfl rfl ((at1.below hSw (by omega)).dat)) hS (fun hS => ?_)
        try go_frame
        refine held_pure (i := 15) (oi := ⟨some 20, _, _, _, _, _⟩) rfl (by kernel_rfl) (by kernel_rfl) (by kernel_rfl) (fun _ _ _ h => h) (by rfl) (v := ?_) (fun w hSw => ?_) hS (fun hS => ?_)
        rotate_left
        · go_simp; try with_reducible rfl
        try go_frame
        refine held_pure (i := 16) (oi := ⟨some 21, _, _, _, _, _⟩) rfl (by kernel_rfl) (by kernel_rfl) (by kernel_rfl) (fun _ _ _ h => h) (by rfl) (fun w hSw => run_load_sl rfl rfl ((at2.below hSw (by omega)).dat)) hS (fun hS => ?_)
        try go_frame
        refine wpAnyH_ready (rs := [17]) (by kernel_rfl) (by simp) (AllReadyH.cons (o := ⟨some 22, _, _, _, _, _⟩) rfl (fun K hK => ?_) AllReadyH.nil)
        rw [if_pos (by rfl)]
        go_simp
        refine (equal_any A X q.dat r.dat c d B B _ (hA.below ((hBW.trans (hS.mono hBW.size)).mono hB)) (hX.below ((hBW.trans (hS.mono hBW.size)).mono hB))).mono ?_
        rintro e w17 ⟨rfl, rfl⟩
        rw [← HE.out]
        show K _ _
        refine hK.out _ _ hS (fun hS => ?_)
        clear hK K
        try go_frame
        refine held_pure (i := 18) (oi := ⟨some 23, _, _, _, _, _⟩) rfl (by kernel_rfl) (by kernel_rfl) (by kernel_rfl) (fun _ _ _ h => h) (by rfl) (v := ?_) (fun w hSw => ?_) hS (fun hS => ?_)
        rotate_left
        · go_simp; try with_reducible rfl
        try go_frame
        refine held_pure (i := 19) (oi := ⟨some 4, _, _, _, _, _⟩) rfl (by kernel_rfl) (by kernel_rfl) (by kernel_rfl) (fun _ _ _ h => h) (by rfl) (v := ?_) (fun w hSw => ?_) hS (fun hS => ?_)
        rotate_left
        · go_simp; try with_reducible rfl
        try go_frame
        refine wpAnyH_done (by kernel_rfl) ?_ _
        go_wp2_with fail
        go_ret
        exact ⟨ret_bool (by rw [HS.out]; rfl), hBW.trans (hS.mono (by omega))⟩

set_option maxRecDepth 100000 in
set_option maxHeartbeats 1000000 in
theorem rUsame (hB : B ≤ w.heap.size) (hA : Rd w B A q.dat) (hX : Rd w B X r.dat) :
    Calls Try.prog 17 #[usv q A c, usv r X d] w fun e w' => e = .returned (.bool (sameU q r)) ∧ Below w.heap.size w w' := by
  have hBW : Below w.heap.size w ((w.alloc (.cells (usa q A c) 24)).alloc (.cells (usa r X d) 24)) := ((Below.refl w.heap.size w).alloc (Nat.le_refl _) _).alloc (by simp) _
  have at1 : Atus ((w.alloc (.cells (usa q A c) 24)).alloc (.cells (usa r X d) 24)) w.heap.size q A c := (Atus.new w).below ((Below.refl (w.heap.size + 1) _).alloc (by simp) _) (by omega)
  have at2 : Atus ((w.alloc (.cells (usa q A c) 24)).alloc (.cells (usa r X d) 24)) (w.heap.size + 1) r X d := by
    have := Atus.new (q := r) (A := X) (c := d) (w.alloc (.cells (usa q A c) 24))
    rwa [show (w.alloc (.cells (usa q A c) 24)).heap.size = w.heap.size + 1 from by simp] at this
  have hz : w.heap.size + 1 < ((w.alloc (.cells (usa q A c) 24)).alloc (.cells (usa r X d) 24)).heap.size := by simp
  rw [usv_eq, usv_eq]
  have q0 := hA.below (hBW.mono hB); have q1 := hX.below (hBW.mono hB)
  have HS := Lib.hid (show sameU q r = ((q.src == r.src && q.dst == r.dst) && (q.nosum == r.nosum) && decide (q.dat = r.dat)) from rfl)
  go_enter Try.func17, Try.ntmps17
  go_upto_region 1 with fail
  generalize (w.alloc (.cells (usa q A c) 24)).alloc (.cells (usa r X d) 24) = W at *
  have c1 := conv_any A q.dat c B W q0
  have c3 := conv_any X r.dat d B W q1
  have x0 := at1.src; have x1 := at1.dst; have x2 := at1.nosum; have x3 := at1.dat
  have y0 := at2.src; have y1 := at2.dst; have y2 := at2.nosum; have y3 := at2.dat
  clear at1 at2 hA hX q0 q1
  have qd := strB_eq q.dat r.dat
  cases e0 : (q.src == r.src)
  · clear qd
    go_wp2_with fail
    go_ret
    exact ⟨ret_bool (by rw [HS.out, e0]; rfl), hBW⟩
  · cases e1 : (q.dst == r.dst)
    · clear qd
      go_wp2_with fail
      go_ret
      exact ⟨ret_bool (by rw [HS.out, e0, e1]; rfl), hBW⟩
    · cases e2 : (q.nosum == r.nosum)
      · clear qd
        go_wp2_with fail
        go_ret
        exact ⟨ret_bool (by rw [HS.out, e0, e1, e2]; rfl), hBW⟩
      · cases e3 : decide (q.dat = r.dat)
        · rw [e3] at qd
          go_wp2_with fail
          go_ret
          exact ⟨ret_bool (by rw [HS.out, e0, e1, e2, e3]; rfl), hBW⟩
        · rw [e3] at qd
          go_wp2_with fail
          go_ret
          exact ⟨ret_bool (by rw [HS.out, e0, e1, e2, e3]; rfl), hBW⟩
end
end Go.Proofs.Ytggcjjcgiphjeaa

/-
  Contracts of layer 7's check and Build, the program's and the document's. Conditions are each theorem's own.
-/
namespace Go.Proofs.Ytggcjjcgiphjeaa
open Go.RowKit

theorem Rd2.two {w : World} {B g t n0 n1 : Nat} {A0 A1 : Option Addr} {c0 c1 : Nat} {b0 b1 : List UInt8} (h0 : n0 = b0.length) (h1 : n1 = b1.length)
    (hg : w.heap[g]? = some (.cells #[.slice A0 n0 c0, .slice A1 n1 c1] t (0, 0))) (hB : g < B) (a0 : Arg w B A0 c0 b0) (a1 : Arg w B A1 c1 b1) : Rd2 w B (some ⟨g, 0, none⟩) [b0, b1] := by
  subst h0; subst h1
  refine Rd2.of_cells hg hB fun j b hj => ?_
  match j, hj with
  | 0, hj => simp at hj; subst hj; exact ⟨A0, c0, rfl, a0⟩
  | 1, hj => simp at hj; subst hj; exact ⟨A1, c1, rfl, a1⟩
  | j + 2, hj => simp at hj
theorem bulk2 (a b : List UInt8) : bulk [a, b] = a.length + b.length := by simp [bulk]
theorem rof_two (A : Option Addr) (a b : List UInt8) (c B : Nat) (N : Int) (hN : Hid (N = 65535 - fold (psum [a, b]))) (w : World) (h : Rd2 w B A [a, b]) (hl : a.length + b.length ≤ 1099511627000) :
    Calls Try.prog 39 #[.slice A 2 c] w fun e w' => e = .returned (.int .i64 N) ∧ ∃ n, w' = w.drewN n := by
  have h1 := rof_any A [a, b] c B w h (by rw [bulk2]; omega) (by simp)
  rw [← hN.out] at h1
  exact h1
theorem right_two (A : Option Addr) (a b : List UInt8) (c B : Nat) (N : Bool) (hN : Hid (N = rightB [a, b])) (w : World) (h : Rd2 w B A [a, b]) (hB : B ≤ w.heap.size) (hl : a.length + b.length ≤ 1099511627000) :
    Calls Try.prog 47 #[.slice A 2 c] w fun e w' => e = .returned (.bool N) ∧ Below w.heap.size w w' := by
  have h1 := right_any A [a, b] c B w h hB (by rw [bulk2]; omega) (by simp)
  rw [← hN.out] at h1
  exact h1
theorem rright_two (A : Option Addr) (a b : List UInt8) (c B : Nat) (N : Bool) (hN : Hid (N = rightB [a, b])) (w : World) (h : Rd2 w B A [a, b]) (hl : a.length + b.length ≤ 1099511627000) :
    Calls Try.prog 49 #[.slice A 2 c] w fun e w' => e = .returned (.bool N) ∧ ∃ n, w' = w.drewN n := by
  have h1 := rright_any A [a, b] c B w h (by rw [bulk2]; omega) (by simp)
  rw [← hN.out] at h1
  exact h1
section
variable (q : PU) (A : Option Addr) (c : Nat) (src dst : Int) (w : World)
set_option maxRecDepth 100000 in
set_option maxHeartbeats 1000000 in
theorem cUck (B : Nat) (hD : Arg w B A c q.dat) (hB0 : B ≤ w.heap.size) (hl : q.dat.length ≤ 1000000) :
    Calls Try.prog 37 #[.int .i64 src, .int .i64 dst, usv q A c] w fun e w' => e = .returned (.int .i64 (ckU src dst q)) ∧ Below w.heap.size w w' := by
  have hB : Below w.heap.size w (w.alloc (.cells (usa q A c) 24)) := (Below.refl w.heap.size w).alloc (Nat.le_refl _) _
  have hAt := Atus.new (q := q) (A := A) (c := c) w
  have hz : w.heap.size < (w.alloc (.cells (usa q A c) 24)).heap.size := by simp
  rw [usv_eq]
  obtain ⟨PS, hPS⟩ : ∃ l, l = psd src dst 17 (8 + (q.dat.length : Int)) := ⟨_, rfl⟩
  obtain ⟨HD, hHD⟩ : ∃ l, l = hdU q 0 := ⟨_, rfl⟩
  have HSM := Lib.hid (show smU src dst q = 65535 - fold (psum [PS, HD, q.dat]) by rw [hPS, hHD]; rfl)
  have HPL := Lib.hid (show PS.length = 12 by rw [hPS, psd_len])
  have HHL := Lib.hid (show HD.length = 8 by rw [hHD, hdU_len])
  have HPS := Lib.hid hPS; have HHD := Lib.hid hHD
  clear hPS hHD
  go_enter Try.func37, Try.ntmps37
  go_upto_region 1 with fail
  generalize w.alloc (.cells (usa q A c) 24) = W at *
  have k2 := hAt.nosum
  cases hn : q.nosum
  · have HN := Lib.hid hn
    rw [hn] at k2
    clear hn
    go_upto_region 3 with fail
    have hW := Lib.hid (IntWalk.i64_in (8 + (q.dat.length : Int)) (by omega))
    refine wp_region_held_drew (S := fun w' => Below W.heap.size W w') (by kernel_rfl) (Below.refl _ W).drew (fun hS => ?_)
    refine held_pure (i := 0) (oi := ⟨some 10, _, _, _, _, _⟩) rfl (by kernel_rfl) (by kernel_rfl) (by kernel_rfl) (fun _ _ _ h => h) (by rfl) (v := ?_) (fun w hSw => ?_) hS (fun hS => ?_)
    rotate_left
    · go_simp; try with_reducible rfl
    try go_frame
    refine held_pure (i := 1) (oi := ⟨some 11, _, _, _, _, _⟩) rfl (by kernel_rfl) (by kernel_rfl) (by kernel_rfl) (fun _ _ _ h => h) (by rfl) (v := ?_) (fun w hSw => ?_) hS (fun hS => ?_)
    rotate_left
    · go_simp; try with_reducible rfl
    try go_frame
    refine held_pure (i := 2) (oi := ⟨some 12, _, _, _, _, _⟩) rfl (by kernel_rfl) (by kernel_rfl) (by kernel_rfl) (fun _ _ _ h => h) (by rfl) (v := ?_) (fun w hSw => ?_) hS (fun hS => ?_)
    rotate_left
    · go_simp; try with_reducible rfl
    try go_frame
    refine held_pure (i := 3) (oi := ⟨some 13, _, _, _, _, _⟩) rfl (by kernel_rfl) (by kernel_rfl) (by kernel_rfl) (fun _ _ _ h => h) (by rfl) (fun w hSw => run_load_sl rfl rfl ((hAt.below hSw (by omega)).dat)) hS (fun hS => ?_)
    try go_frame
    refine held_pure (i := 4) (oi := ⟨some 14, _, _, _, _, _⟩) rfl (by kernel_rfl) (by kernel_rfl) (by kernel_rfl) (fun _ _ _ h => h) (by rfl) (v := ?_) (fun w hSw => ?_) hS (fun hS => ?_)
    rotate_left
    · go_simp; try with_reducible rfl
    try go_frame
    refine held_pure (i := 5) (oi := ⟨some 15, _, _, _, _, _⟩) rfl (by kernel_rfl) (by kernel_rfl) (by kernel_rfl) (fun _ _ _ h => h) (by rfl) (v := .int .i64 (8 + (q.dat.length : Int))) (fun w hSw => by go_simp; exact hW.out) hS (fun hS => ?_)
    try go_frame
    refine held_pure (i := 7) (oi := ⟨some 17, _, _, _, _, _⟩) rfl (by kernel_rfl) (by kernel_rfl) (by kernel_rfl) (fun _ _ _ h => h) (by rfl) (fun w hSw => run_load_us rfl rfl (hAt.below hSw (by omega)) rfl) hS (fun hS => ?_)
    try go_frame
    refine held_pure (i := 9) (oi := ⟨some 19, _, _, _, _, _⟩) rfl (by kernel_rfl) (by kernel_rfl) (by kernel_rfl) (fun _ _ _ h => h) (by rfl) (v := ?_) (fun w hSw => ?_) hS (fun hS => ?_)
    rotate_left
    · go_simp; try with_reducible rfl
    try go_frame
    refine held_pure (i := 10) (oi := ⟨some 20, _, _, _, _, _⟩) rfl (by kernel_rfl) (by kernel_rfl) (by kernel_rfl) (fun _ _ _ h => h) (by rfl) (fun w hSw => run_load_sl rfl rfl ((hAt.below hSw (by omega)).dat)) hS (fun hS => ?_)
    try go_frame
    refine wpAnyH_ready (rs := [6]) (by kernel_rfl) (by simp) (AllReadyH.cons (o := ⟨some 16, _, _, _, _, _⟩) rfl (fun K hK => ?_) AllReadyH.nil)
    rw [if_pos (by rfl)]
    go_simp
    refine (psd_any src dst 17 (8 + (q.dat.length : Int)) _).mono ?_
    rintro e w6 ⟨v6, rfl, m6⟩
    rw [← HPS.out] at m6
    obtain ⟨A6, c6, rfl, g6, o6, x6⟩ := made_shape m6
    show K _ _
    refine hK.out _ _ (below_step hS x6) (fun hS => ?_)
    clear hK K
    try go_frame
    refine wpAnyH_ready (rs := [8]) (by kernel_rfl) (by simp) (AllReadyH.cons (o := ⟨some 18, _, _, _, _, _⟩) rfl (fun K hK => ?_) AllReadyH.nil)
    rw [if_pos (by rfl)]
    go_simp
    refine (cUhead q 0 A c _ hl).mono ?_
    rintro e w8 ⟨v8, rfl, m8⟩
    rw [← HHD.out] at m8
    obtain ⟨A8, c8, rfl, g8, o8, x8⟩ := made_shape m8
    have hS8 := below_step hS x8
    show K _ _
    refine hK.out _ _ (below_step hS x8) (fun hS => ?_)
    clear hK K
    try go_frame
    refine wpAnyH_ready (rs := [11]) (by kernel_rfl) (by simp) (AllReadyH.cons (o := ⟨some 21, _, _, _, _, _⟩) rfl (fun K hK => ?_) AllReadyH.nil)
    rw [if_pos (by rfl)]
    go_simp
    refine hK.out _ _ (hS.alloc hS.size _) (fun hS => ?_)
    clear hK K
    try go_frame
    refine wpAnyH_ready (rs := [12]) (by kernel_rfl) (by simp) (AllReadyH.cons (o := ⟨some 22, _, _, _, _, _⟩) rfl (fun K hK => ?_) AllReadyH.nil)
    rw [if_pos (by rfl)]
    go_simp
    refine (of_three (some ⟨w8.heap.size, 0, none⟩) [PS, HD, q.dat] rfl 3 _ (smU src dst q) HSM _ (Rd2.three rfl rfl rfl (World.alloc_heap_new w8 _) (Nat.lt_succ_self _) (((g6.below x8).alloc x8.size _).more (by have := x8.size; omega)) ((g8.alloc (Nat.le_refl _) _).more (Nat.le_succ _)) (((hD.below ((hB.trans (hS8.mono (by omega))).mono hB0)).alloc (by have := hS8.size; omega) _).more (by have := hS8.size; omega))) (by simp) (by rw [bulk3]; have := HPL.out; have := HHL.out; omega)).mono ?_
    rintro e w12 ⟨rfl, x12⟩
    show K _ _
    refine hK.out _ _ (below_step hS x12) (fun hS => ?_)
    clear hK K
    try go_frame
    refine held_pure (i := 13) (oi := ⟨some 7, _, _, _, _, _⟩) rfl (by kernel_rfl) (by kernel_rfl) (by kernel_rfl) (fun _ _ _ h => h) (by rfl) (v := ?_) (fun w hSw => ?_) hS (fun hS => ?_)
    rotate_left
    · go_simp; try with_reducible rfl
    try go_frame
    refine wpAnyH_done (by kernel_rfl) ?_ _
    have bd := smU_bd src dst q
    obtain ⟨N, hN⟩ : ∃ n, n = smU src dst q := ⟨_, rfl⟩
    rw [← hN]
    have HNN := Lib.hid hN
    clear hN HSM
    by_cases h0 : N = 0
    · have e0 : (N == 0) = true := by simpa using h0
      have HE := Lib.hid (show ckU src dst q = 65535 by rw [ckU, HN.out, ← HNN.out, if_pos h0]; rfl)
      clear h0
      go_wp2_with fail
      go_ret
      exact ⟨ret_int (by rw [HE.out]), hB.trans (hS.mono (by omega))⟩
    · have e0 : (N == 0) = false := by simpa using h0
      have HE := Lib.hid (show ckU src dst q = N by rw [ckU, HN.out, ← HNN.out, if_neg h0]; rfl)
      clear h0
      go_wp2_with fail
      go_ret
      exact ⟨ret_int (by rw [HE.out]), hB.trans (hS.mono (by omega))⟩
  · have HE := Lib.hid (show ckU src dst q = 0 by rw [ckU, hn]; rfl)
    rw [hn] at k2
    clear hn
    go_wp2_with fail
    go_ret
    exact ⟨ret_int (by rw [HE.out]), hB⟩
set_option maxRecDepth 100000 in
set_option maxHeartbeats 1000000 in
theorem cUbuild (B : Nat) (hD : Arg w B A c q.dat) (hB0 : B ≤ w.heap.size) (hl : q.dat.length ≤ 1000000) :
    Calls Try.prog 11 #[.int .i64 src, .int .i64 dst, usv q A c] w fun e w' => ∃ v, e = .returned (.tuple #[v, .int .i64 (chkU q)]) ∧ (chkU q ≠ 0 → v = .slice none 0 0 ∧ Below w.heap.size w w') ∧ (chkU q = 0 → Made w w' v (bldU src dst q)) := by
  have hB : Below w.heap.size w (w.alloc (.cells (usa q A c) 24)) := (Below.refl w.heap.size w).alloc (Nat.le_refl _) _
  have hAt := Atus.new (q := q) (A := A) (c := c) w
  have hz : w.heap.size < (w.alloc (.cells (usa q A c) 24)).heap.size := by simp
  rw [usv_eq]
  go_enter Try.func11, Try.ntmps11
  go_upto_region 1 with fail
  generalize w.alloc (.cells (usa q A c) 24) = W at *
  by_cases hc : chkU q = 0
  · have HC := Lib.hid hc
    clear hc
    go_upto_region 4 with (first
      | ((with_reducible show wpList _ _ _ (Oper.mk _ (Op.load 24 _) _ _ _ _ :: _) _ _); refine wpList_val rfl (run_load_us rfl rfl hAt rfl) ?_)
      | (go_at_call 14; refine (cUcheck q A c _ hl).mono ?_; rintro e w1 ⟨rfl, x1⟩; rw [HC.out]))
    refine wp_region_held_drew (S := fun w' => Below W.heap.size W w') (by kernel_rfl) x1.drew (fun hS => ?_)
    refine held_pure (i := 0) (oi := ⟨some 14, _, _, _, _, _⟩) rfl (by kernel_rfl) (by kernel_rfl) (by kernel_rfl) (fun _ _ _ h => h) (by rfl) (fun w hSw => run_load_us rfl rfl (hAt.below hSw (by omega)) rfl) hS (fun hS => ?_)
    try go_frame
    refine held_pure (i := 1) (oi := ⟨some 15, _, _, _, _, _⟩) rfl (by kernel_rfl) (by kernel_rfl) (by kernel_rfl) (fun _ _ _ h => h) (by rfl) (v := ?_) (fun w hSw => ?_) hS (fun hS => ?_)
    rotate_left
    · go_simp; try with_reducible rfl
    try go_frame
    refine held_pure (i := 2) (oi := ⟨some 16, _, _, _, _, _⟩) rfl (by kernel_rfl) (by kernel_rfl) (by kernel_rfl) (fun _ _ _ h => h) (by rfl) (v := ?_) (fun w hSw => ?_) hS (fun hS => ?_)
    rotate_left
    · go_simp; try with_reducible rfl
    try go_frame
    refine held_pure (i := 3) (oi := ⟨some 17, _, _, _, _, _⟩) rfl (by kernel_rfl) (by kernel_rfl) (by kernel_rfl) (fun _ _ _ h => h) (by rfl) (fun w hSw => run_load_us rfl rfl (hAt.below hSw (by omega)) rfl) hS (fun hS => ?_)
    try go_frame
    refine held_pure (i := 6) (oi := ⟨some 20, _, _, _, _, _⟩) rfl (by kernel_rfl) (by kernel_rfl) (by kernel_rfl) (fun _ _ _ h => h) (by rfl) (v := ?_) (fun w hSw => ?_) hS (fun hS => ?_)
    rotate_left
    · go_simp; try with_reducible rfl
    try go_frame
    refine held_pure (i := 7) (oi := ⟨some 21, _, _, _, _, _⟩) rfl (by kernel_rfl) (by kernel_rfl) (by kernel_rfl) (fun _ _ _ h => h) (by rfl) (fun w hSw => run_load_sl rfl rfl ((hAt.below hSw (by omega)).dat)) hS (fun hS => ?_)
    try go_frame
    refine wpAnyH_ready (rs := [4]) (by kernel_rfl) (by simp) (AllReadyH.cons (o := ⟨some 18, _, _, _, _, _⟩) rfl (fun K hK => ?_) AllReadyH.nil)
    rw [if_pos (by rfl)]
    go_simp
    refine (cUck q A c src dst _ B (hD.below ((hB.trans (hS.mono (by omega))).mono hB0)) (by have := hS.size; omega) hl).mono ?_
    rintro e w4 ⟨rfl, x4⟩
    show K _ _
    refine hK.out _ _ (below_step hS x4) (fun hS => ?_)
    clear hK K
    try go_frame
    refine wpAnyH_ready (rs := [5]) (by kernel_rfl) (by simp) (AllReadyH.cons (o := ⟨some 19, _, _, _, _, _⟩) rfl (fun K hK => ?_) AllReadyH.nil)
    rw [if_pos (by rfl)]
    go_simp
    refine (cUhead q (ckU src dst q) A c _ hl).mono ?_
    rintro e w5 ⟨v5, rfl, m5⟩
    obtain ⟨A5, c5, rfl, g5, o5, x5⟩ := made_shape m5
    have o5 := own_base o5 hS.size
    show K _ _
    refine hK.out _ _ (below_step hS x5) (fun hS => ?_)
    clear hK K
    try go_frame
    refine wpAnyH_ready (rs := [8]) (by kernel_rfl) (by simp) (AllReadyH.cons (o := ⟨some 22, _, _, _, _, _⟩) rfl (fun K hK => ?_) AllReadyH.nil)
    rw [if_pos (by rfl)]
    refine append_wp _ _ rfl W.heap.size _ _ _ rfl o5 B A c q.dat rfl hD.none_ ((hD.below ((hB.trans (hS.mono (by omega))).mono hB0)).rd) (by rw [hdU_len]; omega) hS.size ?_
    intro v8 w8 own8 grow8
    obtain ⟨A8, c8, rfl, owm8⟩ := own_made (bs := bldU src dst q) own8 (by simp [bldU]) (by rw [bldU, row_append])
    refine hK.out _ _ (hS.grown grow8 hS.size (fun k hk => own_block_ge o5 k hk)) (fun hS => ?_)
    clear hK K
    try go_frame
    refine held_pure (i := 9) (oi := ⟨some 6, _, _, _, _, _⟩) rfl (by kernel_rfl) (by kernel_rfl) (by kernel_rfl) (fun _ _ _ h => h) (by rfl) (v := ?_) (fun w hSw => ?_) hS (fun hS => ?_)
    rotate_left
    · go_simp; try with_reducible rfl
    try go_frame
    refine held_pure (i := 10) (oi := ⟨some 7, _, _, _, _, _⟩) rfl (by kernel_rfl) (by kernel_rfl) (by kernel_rfl) (fun _ _ _ h => h) (by rfl) (v := ?_) (fun w hSw => ?_) hS (fun hS => ?_)
    rotate_left
    · go_simp; try with_reducible rfl
    try go_frame
    refine wpAnyH_done (by kernel_rfl) ?_ _
    go_wp2_with fail
    go_ret2
    exact ⟨.slice A8 (bldU src dst q).length c8, by rw [HC.out]; rfl, fun h => absurd HC.out h, fun _ => Made.of_own (own_base owm8 (by omega)) (hB.trans (hS.mono (by omega)))⟩
  · have hne : (chkU q != 0) = true := by simpa using hc
    have HN := Lib.hid hc
    clear hc
    go_wp2_with (first
      | ((with_reducible show wpList _ _ _ (Oper.mk _ (Op.load 24 _) _ _ _ _ :: _) _ _); refine wpList_val rfl (run_load_us rfl rfl hAt rfl) ?_)
      | (go_at_call 14; refine (cUcheck q A c _ hl).mono ?_; rintro e w1 ⟨rfl, x1⟩; skip))
    go_ret2
    exact ⟨.slice none 0 0, rfl, fun _ => ⟨rfl, hB.trans (x1.mono (by omega))⟩, fun h => absurd h HN.out⟩
set_option maxRecDepth 100000 in
set_option maxHeartbeats 1000000 in
theorem rUbytes (B : Nat) (s : Int) (bs : List UInt8) (hbs : Hid (bs = hdU q s ++ q.dat)) (ha : argU q) (hd : q.dat.length ≤ 65527) (s0 : 0 ≤ s) (s1 : s ≤ 65535) (hD : Arg w B A c q.dat) (hB0 : B ≤ w.heap.size) :
    Calls Try.prog 38 #[usv q A c, .int .i64 s] w fun e w' => ∃ v, e = .returned v ∧ Made w w' v bs := by
  have hB : Below w.heap.size w (w.alloc (.cells (usa q A c) 24)) := (Below.refl w.heap.size w).alloc (Nat.le_refl _) _
  have hAt := Atus.new (q := q) (A := A) (c := c) w
  have hz : w.heap.size < (w.alloc (.cells (usa q A c) 24)).heap.size := by simp
  rw [usv_eq]
  obtain ⟨a1, a2, a3, a4⟩ := ha
  obtain ⟨L1, h1⟩ : ∃ l, l = be2 q.src := ⟨_, rfl⟩
  obtain ⟨L2, h2⟩ : ∃ l, l = L1 ++ be2 q.dst := ⟨_, rfl⟩
  obtain ⟨L3, h3⟩ : ∃ l, l = L2 ++ be2 (8 + (q.dat.length : Int)) := ⟨_, rfl⟩
  obtain ⟨L4, h4⟩ : ∃ l, l = L3 ++ be2 s := ⟨_, rfl⟩
  have H1 := Lib.hid (show putB [] q.src 2 = L1 by rw [put_two a1 a2, h1]; rfl)
  have H2 := Lib.hid (show putB L1 q.dst 2 = L2 by rw [put_two a3 a4, h2])
  have H3 := Lib.hid (show putB L2 (8 + (q.dat.length : Int)) 2 = L3 by rw [put_two (by omega) (by omega), h3])
  have H4 := Lib.hid (show putB L3 s 2 = L4 by rw [put_two s0 s1, h4])
  have H5 := Lib.hid (show bs = L4 ++ q.dat by rw [hbs.out, h4, h3, h2, h1]; rfl)
  have l1 : L1.length ≤ 2 := by rw [h1]; simp [be2]
  have l2 : L2.length ≤ 4 := by rw [h2, List.length_append]; simp [be2]; omega
  have l3 : L3.length ≤ 6 := by rw [h3, List.length_append]; simp [be2]; omega
  have l4 : L4.length ≤ 8 := by rw [h4, List.length_append]; simp [be2]; omega
  clear h1 h2 h3 h4 hbs
  go_enter Try.func38, Try.ntmps38
  go_wp2_with fail
  generalize w.alloc (.cells (usa q A c) 24) = W at *
  refine wp_region_held_drew (S := fun w' => Below W.heap.size W w') (by kernel_rfl) (Below.refl _ W).drew (fun hS => ?_)
  refine held_pure (i := 0) (oi := ⟨some 6, _, _, _, _, _⟩) rfl (by kernel_rfl) (by kernel_rfl) (by kernel_rfl) (fun _ _ _ h => h) (by rfl) (v := ?_) (fun w hSw => ?_) hS (fun hS => ?_)
  rotate_left
  · go_simp; try with_reducible rfl
  try go_frame
  refine held_pure (i := 1) (oi := ⟨some 7, _, _, _, _, _⟩) rfl (by kernel_rfl) (by kernel_rfl) (by kernel_rfl) (fun _ _ _ h => h) (by rfl) (fun w hSw => run_load_int rfl rfl ((hAt.below hSw (by omega)).src)) hS (fun hS => ?_)
  try go_frame
  refine held_pure (i := 3) (oi := ⟨some 9, _, _, _, _, _⟩) rfl (by kernel_rfl) (by kernel_rfl) (by kernel_rfl) (fun _ _ _ h => h) (by rfl) (v := ?_) (fun w hSw => ?_) hS (fun hS => ?_)
  rotate_left
  · go_simp; try with_reducible rfl
  try go_frame
  refine held_pure (i := 4) (oi := ⟨some 10, _, _, _, _, _⟩) rfl (by kernel_rfl) (by kernel_rfl) (by kernel_rfl) (fun _ _ _ h => h) (by rfl) (fun w hSw => run_load_int rfl rfl ((hAt.below hSw (by omega)).dst)) hS (fun hS => ?_)
  try go_frame
  refine wpAnyH_ready (rs := [2]) (by kernel_rfl) (by simp) (AllReadyH.cons (o := ⟨some 8, _, _, _, _, _⟩) rfl (fun K hK => ?_) AllReadyH.nil)
  rw [if_pos (by rfl)]
  go_simp
  refine (rput_nil q.src 2 _).mono ?_
  rintro e w2 ⟨v2, rfl, m2⟩
  rw [H1.out] at m2
  obtain ⟨A2, c2, rfl, g2, o2, x2⟩ := made_shape m2
  show K _ _
  refine hK.out _ _ (below_step hS x2) (fun hS => ?_)
  clear hK K
  try go_frame
  refine wpAnyH_ready (rs := [5]) (by kernel_rfl) (by simp) (AllReadyH.cons (o := ⟨some 11, _, _, _, _, _⟩) rfl (fun K hK => ?_) AllReadyH.nil)
  rw [if_pos (by rfl)]
  go_simp
  refine (rput_any A2 L1 c2 _ q.dst 2 _ g2 (by omega)).mono ?_
  rintro e w5 ⟨v5, rfl, m5⟩
  rw [H2.out] at m5
  obtain ⟨A5, c5, rfl, g5, o5, x5⟩ := made_shape m5
  show K _ _
  refine hK.out _ _ (below_step hS x5) (fun hS => ?_)
  clear hK K
  try go_frame
  refine held_pure (i := 6) (oi := ⟨some 5, _, _, _, _, _⟩) rfl (by kernel_rfl) (by kernel_rfl) (by kernel_rfl) (fun _ _ _ h => h) (by rfl) (v := ?_) (fun w hSw => ?_) hS (fun hS => ?_)
  rotate_left
  · go_simp; try with_reducible rfl
  try go_frame
  refine wpAnyH_done (by kernel_rfl) ?_ _
  have k3 := (hAt.below hS (by omega)).dat
  go_upto_region 3 with (first
    | (go_at_call 44; ((with_reducible refine (rput_any A5 L2 c5 _ (8 + (q.dat.length : Int)) 2 _ g5 (by omega)).mono ?_); rintro e w6 ⟨v6, rfl, m6⟩; rw [H3.out] at m6; obtain ⟨A6, c6, rfl, g6, o6, x6⟩ := made_shape m6))
    | (go_at_call 44; ((with_reducible refine (rput_any A6 L3 c6 _ s 2 _ g6 (by omega)).mono ?_); rintro e w7 ⟨v7, rfl, m7⟩; rw [H4.out] at m7; obtain ⟨A7, c7, rfl, g7, o7, x7⟩ := made_shape m7)))
  have x57 : Below W.heap.size W w7 := hS.trans ((x6.trans (x7.mono x6.size)).mono hS.size)
  have k4 := (hAt.below x57 (by omega)).dat
  have hD7 := hD.below ((hB.trans (x57.mono (by omega))).mono hB0)
  clear k3
  go_wp2_with (at_builtin; refine append_rd rfl _ _ rfl w6.heap.size _ _ _ rfl o7 B A c q.dat rfl hD.none_ hD7.rd (by omega) x7.size ?_; intro v8 w8 own8 grow8)
  go_ret
  have own9 := own_base own8 (show w.heap.size ≤ w6.heap.size by have := x6.size; have := hS.size; omega)
  have x8 := (hB.trans (x57.mono (by omega))).grown grow8 (by have := x57.size; omega) (fun k hk => by have := own_block_ge o7 k hk; have := x6.size; have := hS.size; omega)
  obtain ⟨A8, c8, rfl, owm8⟩ := own_made (bs := bs) own9 (by rw [H5.out]; simp) (by rw [H5.out, row_append])
  exact ⟨_, rfl, Made.of_own owm8 x8⟩
end
end Go.Proofs.Ytggcjjcgiphjeaa
