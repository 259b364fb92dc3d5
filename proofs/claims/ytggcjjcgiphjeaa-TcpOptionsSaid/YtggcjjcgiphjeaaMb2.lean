/-
  Contracts and lemmas on which the proofs of this seat stand (several texts in one). Conditions are each theorem's own.
-/
import Derived.Test.YtggcjjcgiphjeaaMb1
import Derived.Lib.AppendZerosOnto
import Derived.Lib.Walk
import Derived.Lib.SliceRun

/-
  Contracts of layer 8's Same, the program's and the document's; of the document's Check. Conditions are each theorem's own.
-/
namespace Go.Proofs.Ytggcjjcgiphjeaa
open Go.RowKit

theorem sameT_nums (q r : PT) : sameT q r = (decide (numsT q = numsT r) && decide (q.opt = r.opt) && decide (q.dat = r.dat)) := by
  rw [sameT, Bool.eq_iff_iff]; simp [numsT, and_assoc]
section
variable (q r : PT) (A : Option Addr) (c : Nat) (A' : Option Addr) (c' : Nat) (X : Option Addr) (d : Nat) (X' : Option Addr) (d' B : Nat) (w : World)
set_option maxRecDepth 100000 in
set_option maxHeartbeats 2000000 in
theorem cTsame (hB : B ≤ w.heap.size) (hA : Rd w B A q.opt) (hX : Rd w B X r.opt) (hA' : Rd w B A' q.dat) (hX' : Rd w B X' r.dat) :
    Calls Try.prog 27 #[tsv q A c A' c', tsv r X d X' d'] w fun e w' => e = .returned (.bool (sameT q r)) ∧ Below w.heap.size w w' := by
  have hBW : Below w.heap.size w ((w.alloc (.cells (tsa q A c A' c') 39)).alloc (.cells (tsa r X d X' d') 39)) := ((Below.refl w.heap.size w).alloc (Nat.le_refl _) _).alloc (by simp) _
  have at1 : Atts ((w.alloc (.cells (tsa q A c A' c') 39)).alloc (.cells (tsa r X d X' d') 39)) w.heap.size q A c A' c' := (Atts.new w).below ((Below.refl (w.heap.size + 1) _).alloc (by simp) _) (by omega)
  have at2 : Atts ((w.alloc (.cells (tsa q A c A' c') 39)).alloc (.cells (tsa r X d X' d') 39)) (w.heap.size + 1) r X d X' d' := by
    have := Atts.new (q := r) (A := X) (c := d) (A' := X') (c' := d') (w.alloc (.cells (tsa q A c A' c') 39))
    rwa [show (w.alloc (.cells (tsa q A c A' c') 39)).heap.size = w.heap.size + 1 from by simp] at this
  have hz : w.heap.size + 1 < ((w.alloc (.cells (tsa q A c A' c') 39)).alloc (.cells (tsa r X d X' d') 39)).heap.size := by simp
  rw [tsv_eq, tsv_eq]
  have HS := Lib.hid (sameT_nums q r)
  go_enter Try.func27, Try.ntmps27
  go_wp2_with fail
  generalize (w.alloc (.cells (tsa q A c A' c') 39)).alloc (.cells (tsa r X d X' d') 39) = W at *
  obtain ⟨K, hK⟩ : ∃ K, K = decide (numsT q = numsT r) := ⟨_, rfl⟩
  obtain ⟨O, hO⟩ : ∃ S, S = decide (q.opt = r.opt) := ⟨_, rfl⟩
  obtain ⟨E, hE⟩ : ∃ D, D = decide (q.dat = r.dat) := ⟨_, rfl⟩
  have eK : ∀ w, (Op.equalIn 10000 78 (.agg (ivs (numsT q))) (.agg (ivs (numsT r)))).run Try.prog w = .ok K w := fun w => by rw [hK]; exact ints_eq 78 8 Try.underlying78 _ _ rfl rfl w
  rw [← hK, ← hO, ← hE] at HS
  have HO := Lib.hid hO; have HE := Lib.hid hE
  clear hK hO hE
  cases K
  · skip
    refine wp_region_held_drew (S := fun w' => Below W.heap.size W w') (by kernel_rfl) (Below.refl _ W).drew (fun hS => ?_)
    refine held_pure (i := 0) (oi := ⟨some 5, _, _, _, _, _⟩) rfl (by kernel_rfl) (by kernel_rfl) (by kernel_rfl) (fun _ _ _ h => h) (by rfl) (fun w hSw => run_load_ts rfl rfl (at1.below hSw (by omega)) rfl) hS (fun hS => ?_)
    try go_frame
    refine held_pure (i := 2) (oi := ⟨some 7, _, _, _, _, _⟩) rfl (by kernel_rfl) (by kernel_rfl) (by kernel_rfl) (fun _ _ _ h => h) (by rfl) (fun w hSw => run_load_ts rfl rfl (at2.below hSw (by omega)) rfl) hS (fun hS => ?_)
    try go_frame
    refine wpAnyH_ready (rs := [1]) (by kernel_rfl) (by simp) (AllReadyH.cons (o := ⟨some 6, _, _, _, _, _⟩) rfl (fun K hK => ?_) AllReadyH.nil)
    rw [if_pos (by rfl)]
    go_simp
    refine (cTnums q A c A' c' _).mono ?_
    rintro e w1 ⟨rfl, x1⟩
    show K _ _
    refine hK.out _ _ (below_step hS x1) (fun hS => ?_)
    clear hK K
    try go_frame
    refine wpAnyH_ready (rs := [3]) (by kernel_rfl) (by simp) (AllReadyH.cons (o := ⟨some 8, _, _, _, _, _⟩) rfl (fun K hK => ?_) AllReadyH.nil)
    rw [if_pos (by rfl)]
    go_simp
    refine (cTnums r X d X' d' _).mono ?_
    rintro e w3 ⟨rfl, x3⟩
    show K _ _
    refine hK.out _ _ (below_step hS x3) (fun hS => ?_)
    clear hK K
    try go_frame
    refine held_pure (i := 4) (oi := ⟨some 9, _, _, _, _, _⟩) rfl (by kernel_rfl) (by kernel_rfl) (by kernel_rfl) (fun _ _ _ h => h) (by rfl) (v := .bool false) (fun w hSw => by go_simp) hS (fun hS => ?_)
    try go_frame
    refine held_pure (i := 5) (oi := ⟨some 10, _, _, _, _, _⟩) rfl (by kernel_rfl) (by kernel_rfl) (by kernel_rfl) (fun _ _ _ h => h) (by rfl) (v := ?_) (fun w hSw => ?_) hS (fun hS => ?_)
    rotate_left
    · go_simp; try with_reducible rfl
    try go_frame
    refine held_skip (i := 6) (oi := ⟨some 11, _, _, _, _, _⟩) rfl (by kernel_rfl) (by kernel_rfl) (by kernel_rfl) (fun _ _ _ h => h) (by rfl) hS (fun hS => ?_)
    try go_frame
    refine held_skip (i := 7) (oi := ⟨some 12, _, _, _, _, _⟩) rfl (by kernel_rfl) (by kernel_rfl) (by kernel_rfl) (fun _ _ _ h => h) (by rfl) hS (fun hS => ?_)
    try go_frame
    refine held_skip (i := 8) (oi := ⟨some 13, _, _, _, _, _⟩) rfl (by kernel_rfl) (by kernel_rfl) (by kernel_rfl) (fun _ _ _ h => h) (by rfl) hS (fun hS => ?_)
    try go_frame
    refine held_skip (i := 9) (oi := ⟨some 14, _, _, _, _, _⟩) rfl (by kernel_rfl) (by kernel_rfl) (by kernel_rfl) (fun _ _ _ h => h) (by rfl) hS (fun hS => ?_)
    try go_frame
    refine held_skip (i := 10) (oi := ⟨some 15, _, _, _, _, _⟩) rfl (by kernel_rfl) (by kernel_rfl) (by kernel_rfl) (fun _ _ _ h => h) (by rfl) hS (fun hS => ?_)
    try go_frame
    refine held_pure (i := 11) (oi := ⟨some 16, _, _, _, _, _⟩) rfl (by kernel_rfl) (by kernel_rfl) (by kernel_rfl) (fun _ _ _ h => h) (by rfl) (v := ?_) (fun w hSw => ?_) hS (fun hS => ?_)
    rotate_left
    · go_simp; try with_reducible rfl
    try go_frame
    refine held_pure (i := 12) (oi := ⟨some 17, _, _, _, _, _⟩) rfl (by kernel_rfl) (by kernel_rfl) (by kernel_rfl) (fun _ _ _ h => h) (by rfl) (v := ?_) (fun w hSw => ?_) hS (fun hS => ?_)
    rotate_left
    · go_simp; try with_reducible rfl
    try go_frame
    refine held_skip (i := 13) (oi := ⟨some 18, _, _, _, _, _⟩) rfl (by kernel_rfl) (by kernel_rfl) (by kernel_rfl) (fun _ _ _ h => h) (by rfl) hS (fun hS => ?_)
    try go_frame
    refine held_skip (i := 14) (oi := ⟨some 19, _, _, _, _, _⟩) rfl (by kernel_rfl) (by kernel_rfl) (by kernel_rfl) (fun _ _ _ h => h) (by rfl) hS (fun hS => ?_)
    try go_frame
    refine held_skip (i := 15) (oi := ⟨some 20, _, _, _, _, _⟩) rfl (by kernel_rfl) (by kernel_rfl) (by kernel_rfl) (fun _ _ _ h => h) (by rfl) hS (fun hS => ?_)
    try go_frame
    refine held_skip (i := 16) (oi := ⟨some 21, _, _, _, _, _⟩) rfl (by kernel_rfl) (by kernel_rfl) (by kernel_rfl) (fun _ _ _ h => h) (by rfl) hS (fun hS => ?_)
    try go_frame
    refine held_skip (i := 17) (oi := ⟨some 22, _, _, _, _, _⟩) rfl (by kernel_rfl) (by kernel_rfl) (by kernel_rfl) (fun _ _ _ h => h) (by rfl) hS (fun hS => ?_)
    try go_frame
    refine held_pure (i := 18) (oi := ⟨some 23, _, _, _, _, _⟩) rfl (by kernel_rfl) (by kernel_rfl) (by kernel_rfl) (fun _ _ _ h => h) (by rfl) (v := ?_) (fun w hSw => ?_) hS (fun hS => ?_)
    rotate_left
    · go_simp; try with_reducible rfl
    try go_frame
    refine held_pure (i := 19) (oi := ⟨some 4, _, _, _, _, _⟩) rfl (by kernel_rfl) (by kernel_rfl) (by kernel_rfl) (fun _ _ _ h => h) (by rfl) (v := ?_) (fun w hSw => ?_) hS (fun hS => ?_)
    rotate_left
    · go_simp; try with_reducible rfl
    try go_frame
    refine wpAnyH_done (by kernel_rfl) ?_ _
    go_wp2_with fail
    go_ret
    exact ⟨ret_bool (by rw [HS.out]; rfl), hBW.trans (hS.mono (by omega))⟩
  · cases O
    · skip
      refine wp_region_held_drew (S := fun w' => Below W.heap.size W w') (by kernel_rfl) (Below.refl _ W).drew (fun hS => ?_)
      refine held_pure (i := 0) (oi := ⟨some 5, _, _, _, _, _⟩) rfl (by kernel_rfl) (by kernel_rfl) (by kernel_rfl) (fun _ _ _ h => h) (by rfl) (fun w hSw => run_load_ts rfl rfl (at1.below hSw (by omega)) rfl) hS (fun hS => ?_)
      try go_frame
      refine held_pure (i := 2) (oi := ⟨some 7, _, _, _, _, _⟩) rfl (by kernel_rfl) (by kernel_rfl) (by kernel_rfl) (fun _ _ _ h => h) (by rfl) (fun w hSw => run_load_ts rfl rfl (at2.below hSw (by omega)) rfl) hS (fun hS => ?_)
      try go_frame
      refine wpAnyH_ready (rs := [1]) (by kernel_rfl) (by simp) (AllReadyH.cons (o := ⟨some 6, _, _, _, _, _⟩) rfl (fun K hK => ?_) AllReadyH.nil)
      rw [if_pos (by rfl)]
      go_simp
      refine (cTnums q A c A' c' _).mono ?_
      rintro e w1 ⟨rfl, x1⟩
      show K _ _
      refine hK.out _ _ (below_step hS x1) (fun hS => ?_)
      clear hK K
      try go_frame
      refine wpAnyH_ready (rs := [3]) (by kernel_rfl) (by simp) (AllReadyH.cons (o := ⟨some 8, _, _, _, _, _⟩) rfl (fun K hK => ?_) AllReadyH.nil)
      rw [if_pos (by rfl)]
      go_simp
      refine (cTnums r X d X' d' _).mono ?_
      rintro e w3 ⟨rfl, x3⟩
      show K _ _
      refine hK.out _ _ (below_step hS x3) (fun hS => ?_)
      clear hK K
      try go_frame
      refine held_pure (i := 4) (oi := ⟨some 9, _, _, _, _, _⟩) rfl (by kernel_rfl) (by kernel_rfl) (by kernel_rfl) (fun _ _ _ h => h) (by rfl) (v := .bool true) (fun w hSw => by go_simp) hS (fun hS => ?_)
      try go_frame
      refine held_pure (i := 5) (oi := ⟨some 10, _, _, _, _, _⟩) rfl (by kernel_rfl) (by kernel_rfl) (by kernel_rfl) (fun _ _ _ h => h) (by rfl) (v := ?_) (fun w hSw => ?_) hS (fun hS => ?_)
      rotate_left
      · go_simp; try with_reducible rfl
      try go_frame
      refine held_pure (i := 6) (oi := ⟨some 11, _, _, _, _, _⟩) rfl (by kernel_rfl) (by kernel_rfl) (by kernel_rfl) (fun _ _ _ h => h) (by rfl) (v := ?_) (fun w hSw => ?_) hS (fun hS => ?_)
      rotate_left
      · go_simp; try with_reducible rfl
      try go_frame
      refine held_pure (i := 7) (oi := ⟨some 12, _, _, _, _, _⟩) rfl (by kernel_rfl) (by kernel_rfl) (by kernel_rfl) (fun _ _ _ h => h) (by rfl) (fun w hSw => run_load_sl rfl rfl ((at1.below hSw (by omega)).opt)) hS (fun hS => ?_)
      try go_frame
      refine held_pure (i := 8) (oi := ⟨some 13, _, _, _, _, _⟩) rfl (by kernel_rfl) (by kernel_rfl) (by kernel_rfl) (fun _ _ _ h => h) (by rfl) (v := ?_) (fun w hSw => ?_) hS (fun hS => ?_)
      rotate_left
      · go_simp; try with_reducible rfl
      try go_frame
      refine held_pure (i := 9) (oi := ⟨some 14, _, _, _, _, _⟩) rfl (by kernel_rfl) (by kernel_rfl) (by kernel_rfl) (fun _ _ _ h => h) (by rfl) (fun w hSw => run_load_sl rfl rfl ((at2.below hSw (by omega)).opt)) hS (fun hS => ?_)
      try go_frame
      refine wpAnyH_ready (rs := [10]) (by kernel_rfl) (by simp) (AllReadyH.cons (o := ⟨some 15, _, _, _, _, _⟩) rfl (fun K hK => ?_) AllReadyH.nil)
      rw [if_pos (by rfl)]
      go_simp
      refine (equal_any A X q.opt r.opt c d B B _ (hA.below ((hBW.trans (hS.mono hBW.size)).mono hB)) (hX.below ((hBW.trans (hS.mono hBW.size)).mono hB))).mono ?_
      rintro e w10 ⟨rfl, rfl⟩
      rw [← HO.out]
      show K _ _
      refine hK.out _ _ hS (fun hS => ?_)
      clear hK K
      try go_frame
      refine held_pure (i := 11) (oi := ⟨some 16, _, _, _, _, _⟩) rfl (by kernel_rfl) (by kernel_rfl) (by kernel_rfl) (fun _ _ _ h => h) (by rfl) (v := ?_) (fun w hSw => ?_) hS (fun hS => ?_)
      rotate_left
      · go_simp; try with_reducible rfl
      try go_frame
      refine held_pure (i := 12) (oi := ⟨some 17, _, _, _, _, _⟩) rfl (by kernel_rfl) (by kernel_rfl) (by kernel_rfl) (fun _ _ _ h => h) (by rfl) (v := ?_) (fun w hSw => ?_) hS (fun hS => ?_)
      rotate_left
      · go_simp; try with_reducible rfl
      try go_frame
      refine held_skip (i := 13) (oi := ⟨some 18, _, _, _, _, _⟩) rfl (by kernel_rfl) (by kernel_rfl) (by kernel_rfl) (fun _ _ _ h => h) (by rfl) hS (fun hS => ?_)
      try go_frame
      refine held_skip (i := 14) (oi := ⟨some 19, _, _, _, _, _⟩) rfl (by kernel_rfl) (by kernel_rfl) (by kernel_rfl) (fun _ _ _ h => h) (by rfl) hS (fun hS => ?_)
      try go_frame
      refine held_skip (i := 15) (oi := ⟨some 20, _, _, _, _, _⟩) rfl (by kernel_rfl) (by kernel_rfl) (by kernel_rfl) (fun _ _ _ h => h) (by rfl) hS (fun hS => ?_)
      try go_frame
      refine held_skip (i := 16) (oi := ⟨some 21, _, _, _, _, _⟩) rfl (by kernel_rfl) (by kernel_rfl) (by kernel_rfl) (fun _ _ _ h => h) (by rfl) hS (fun hS => ?_)
      try go_frame
      refine held_skip (i := 17) (oi := ⟨some 22, _, _, _, _, _⟩) rfl (by kernel_rfl) (by kernel_rfl) (by kernel_rfl) (fun _ _ _ h => h) (by rfl) hS (fun hS => ?_)
      try go_frame
      refine held_pure (i := 18) (oi := ⟨some 23, _, _, _, _, _⟩) rfl (by kernel_rfl) (by kernel_rfl) (by kernel_rfl) (fun _ _ _ h => h) (by rfl) (v := ?_) (fun w hSw => ?_) hS (fun hS => ?_)
      rotate_left
      · go_simp; try with_reducible rfl
      try go_frame
      refine held_pure (i := 19) (oi := ⟨some 4, _, _, _, _, _⟩) rfl (by kernel_rfl) (by kernel_rfl) (by kernel_rfl) (fun _ _ _ h => h) (by rfl) (v := ?_) (fun w hSw => ?_) hS (fun hS => ?_)
      rotate_left
      · go_simp; try with_reducible rfl
      try go_frame
      refine wpAnyH_done (by kernel_rfl) ?_ _
      go_wp2_with fail
      go_ret
      exact ⟨ret_bool (by rw [HS.out]; rfl), hBW.trans (hS.mono (by omega))⟩
    · cases E
      · skip
        refine wp_region_held_drew (S := fun w' => Below W.heap.size W w') (by kernel_rfl) (Below.refl _ W).drew (fun hS => ?_)
        refine held_pure (i := 0) (oi := ⟨some 5, _, _, _, _, _⟩) rfl (by kernel_rfl) (by kernel_rfl) (by kernel_rfl) (fun _ _ _ h => h) (by rfl) (fun w hSw => run_load_ts rfl rfl (at1.below hSw (by omega)) rfl) hS (fun hS => ?_)
        try go_frame
        refine held_pure (i := 2) (oi := ⟨some 7, _, _, _, _, _⟩) rfl (by kernel_rfl) (by kernel_rfl) (by kernel_rfl) (fun _ _ _ h => h) (by rfl) (fun w hSw => run_load_ts rfl rfl (at2.below hSw (by omega)) rfl) hS (fun hS => ?_)
        try go_frame
        refine wpAnyH_ready (rs := [1]) (by kernel_rfl) (by simp) (AllReadyH.cons (o := ⟨some 6, _, _, _, _, _⟩) rfl (fun K hK => ?_) AllReadyH.nil)
        rw [if_pos (by rfl)]
        go_simp
        refine (cTnums q A c A' c' _).mono ?_
        rintro e w1 ⟨rfl, x1⟩
        show K _ _
        refine hK.out _ _ (below_step hS x1) (fun hS => ?_)
        clear hK K
        try go_frame
        refine wpAnyH_ready (rs := [3]) (by kernel_rfl) (by simp) (AllReadyH.cons (o := ⟨some 8, _, _, _, _, _⟩) rfl (fun K hK => ?_) AllReadyH.nil)
        rw [if_pos (by rfl)]
        go_simp
        refine (cTnums r X d X' d' _).mono ?_
        rintro e w3 ⟨rfl, x3⟩
        show K _ _
        refine hK.out _ _ (below_step hS x3) (fun hS => ?_)
        clear hK K
        try go_frame
        refine held_pure (i := 4) (oi := ⟨some 9, _, _, _, _, _⟩) rfl (by kernel_rfl) (by kernel_rfl) (by kernel_rfl) (fun _ _ _ h => h) (by rfl) (v := .bool true) (fun w hSw => by go_simp) hS (fun hS => ?_)
        try go_frame
        refine held_pure (i := 5) (oi := ⟨some 10, _, _, _, _, _⟩) rfl (by kernel_rfl) (by kernel_rfl) (by kernel_rfl) (fun _ _ _ h => h) (by rfl) (v := ?_) (fun w hSw => ?_) hS (fun hS => ?_)
        rotate_left
        · go_simp; try with_reducible rfl
        try go_frame
        refine held_pure (i := 6) (oi := ⟨some 11, _, _, _, _, _⟩) rfl (by kernel_rfl) (by kernel_rfl) (by kernel_rfl) (fun _ _ _ h => h) (by rfl) (v := ?_) (fun w hSw => ?_) hS (fun hS => ?_)
        rotate_left
        · go_simp; try with_reducible rfl
        try go_frame
        refine held_pure (i := 7) (oi := ⟨some 12, _, _, _, _, _⟩) rfl (by kernel_rfl) (by kernel_rfl) (by kernel_rfl) (fun _ _ _ h => h) (by rfl) (fun w hSw => run_load_sl rfl rfl ((at1.below hSw (by omega)).opt)) hS (fun hS => ?_)
        try go_frame
        refine held_pure (i := 8) (oi := ⟨some 13, _, _, _, _, _⟩) rfl (by kernel_rfl) (by kernel_rfl) (by kernel_rfl) (fun _ _ _ h => h) (by rfl) (v := ?_) (fun w hSw => ?_) hS (fun hS => ?_)
        rotate_left
        · go_simp; try with_reducible rfl
        try go_frame
        refine held_pure (i := 9) (oi := ⟨some 14, _, _, _, _, _⟩) rfl (by kernel_rfl) (by kernel_rfl) (by kernel_rfl) (fun _ _ _ h => h) (by rfl) (fun w hSw => run_load_sl rfl rfl ((at2.below hSw (by omega)).opt)) hS (fun hS => ?_)
        try go_frame
        refine wpAnyH_ready (rs := [10]) (by kernel_rfl) (by simp) (AllReadyH.cons (o := ⟨some 15, _, _, _, _, _⟩) rfl (fun K hK => ?_) AllReadyH.nil)
        rw [if_pos (by rfl)]
        go_simp
        refine (equal_any A X q.opt r.opt c d B B _ (hA.below ((hBW.trans (hS.mono hBW.size)).mono hB)) (hX.below ((hBW.trans (hS.mono hBW.size)).mono hB))).mono ?_
        rintro e w10 ⟨rfl, rfl⟩
        rw [← HO.out]
        show K _ _
        refine hK.out _ _ hS (fun hS => ?_)
        clear hK K
        try go_frame
        refine held_pure (i := 11) (oi := ⟨some 16, _, _, _, _, _⟩) rfl (by kernel_rfl) (by kernel_rfl) (by kernel_rfl) (fun _ _ _ h => h) (by rfl) (v := ?_) (fun w hSw => ?_) hS (fun hS => ?_)
        rotate_left
        · go_simp; try with_reducible rfl
        try go_frame
        refine held_pure (i := 12) (oi := ⟨some 17, _, _, _, _, _⟩) rfl (by kernel_rfl) (by kernel_rfl) (by kernel_rfl) (fun _ _ _ h => h) (by rfl) (v := ?_) (fun w hSw => ?_) hS (fun hS => ?_)
        rotate_left
        · go_simp; try with_reducible rfl
        try go_frame
        refine held_pure (i := 13) (oi := ⟨some 18, _, _, _, _, _⟩) rfl (by kernel_rfl) (by kernel_rfl) (by kernel_rfl) (fun _ _ _ h => h) (by rfl) (v := ?_) (fun w hSw => ?_) hS (fun hS => ?_)
        rotate_left
        · go_simp; try with_reducible rfl
        try go_frame
        refine held_pure (i := 14) (oi := ⟨some 19, _, _, _, _, _⟩) rfl (by kernel_rfl) (by kernel_rfl) (by kernel_rfl) (fun _ _ _ h => h) (by rfl) (fun w hSw => run_load_sl rfl rfl ((at1.below hSw (by omega)).dat)) hS (fun hS => ?_)
        try go_frame
        refine held_pure (i := 15) (oi := ⟨some 20, _, _, _, _, _⟩) rfl (by kernel_rfl) (by kernel_rfl) (by kernel_rfl) (fun _ _ _ h => h) (by rfl) (v := ?_) (fun w hSw => ?_) hS (fun hS => ?_)
        rotate_left
        · go_simp; try with_reducible rfl
        try go_frame
        refine held_pure (i := 16) (oi := ⟨some 21, _, _, _, _, _⟩) rfl (by kernel_rfl) (by kernel_rfl) (by kernel_rfl) (fun _ _ _ h => h) (by rfl) (fun w hSw => run_load_sl rfl rfl ((at2.below hSw (by omega)).dat)) hS (fun hS => ?_)
        try go_frame
        refine wpAnyH_ready (rs := [17]) (by kernel_rfl) (by simp) (AllReadyH.cons (o := ⟨some 22, _, _, _, _, _⟩) rfl (fun K hK => ?_) AllReadyH.nil)
        rw [if_pos (by rfl)]
        go_simp
        refine (equal_any A' X' q.dat r.dat c' d' B B _ (hA'.below ((hBW.trans (hS.mono hBW.size)).mono hB)) (hX'.below ((hBW.trans (hS.mono hBW.size)).mono hB))).mono ?_
        rintro e w17 ⟨rfl, rfl⟩
        rw [← HE.out]
        show K _ _
        refine hK.out _ _ hS (fun hS => ?_)
        clear hK K
        try go_frame
        refine held_pure (i := 18) (oi := ⟨some 23, _, _, _, _, _⟩) rfl (by kernel_rfl) (by kernel_rfl) (by kernel_rfl) (fun _ _ _ h => h) (by rfl) (v := ?_) (fun w hSw => ?_) hS (fun hS => ?_)
        rotate_left
        · go_simp; try with_reducible rfl
        try go_frame
        refine held_pure (i := 19) (oi := ⟨some 4, _, _, _, _, _⟩) rfl (by kernel_rfl) (by kernel_rfl) (by kernel_rfl) (fun _ _ _ h => h) (by rfl) (v := ?_) (fun w hSw => ?_) hS (fun hS => ?_)
        rotate_left
        · go_simp; try with_reducible rfl
        try go_frame
        refine wpAnyH_done (by kernel_rfl) ?_ _
        go_wp2_with fail
        go_ret
        exact ⟨ret_bool (by rw [HS.out]; rfl), hBW.trans (hS.mono (by omega))⟩
      · skip
        refine wp_region_held_drew (S := fun w' => Below W.heap.size W w') (by kernel_rfl) (Below.refl _ W).drew (fun hS => ?_)
        refine held_pure (i := 0) (oi := ⟨some 5, _, _, _, _, _⟩) rfl (by kernel_rfl) (by kernel_rfl) (by kernel_rfl) (fun _ _ _ h => h) (by rfl) (fun w hSw => run_load_ts rfl rfl (at1.below hSw (by omega)) rfl) hS (fun hS => ?_)
        try go_frame
        refine held_pure (i := 2) (oi := ⟨some 7, _, _, _, _, _⟩) rfl (by kernel_rfl) (by kernel_rfl) (by kernel_rfl) (fun _ _ _ h => h) (by rfl) (fun w hSw => run_load_ts rfl rfl (at2.below hSw (by omega)) rfl) hS (fun hS => ?_)
        try go_frame
        refine wpAnyH_ready (rs := [1]) (by kernel_rfl) (by simp) (AllReadyH.cons (o := ⟨some 6, _, _, _, _, _⟩) rfl (fun K hK => ?_) AllReadyH.nil)
        rw [if_pos (by rfl)]
        go_simp
        refine (cTnums q A c A' c' _).mono ?_
        rintro e w1 ⟨rfl, x1⟩
        show K _ _
        refine hK.out _ _ (below_step hS x1) (fun hS => ?_)
        clear hK K
        try go_frame
        refine wpAnyH_ready (rs := [3]) (by kernel_rfl) (by simp) (AllReadyH.cons (o := ⟨some 8, _, _, _, _, _⟩) rfl (fun K hK => ?_) AllReadyH.nil)
        rw [if_pos (by rfl)]
        go_simp
        refine (cTnums r X d X' d' _).mono ?_
        rintro e w3 ⟨rfl, x3⟩
        show K _ _
        refine hK.out _ _ (below_step hS x3) (fun hS => ?_)
        clear hK K
        try go_frame
        refine held_pure (i := 4) (oi := ⟨some 9, _, _, _, _, _⟩) rfl (by kernel_rfl) (by kernel_rfl) (by kernel_rfl) (fun _ _ _ h => h) (by rfl) (v := .bool true) (fun w hSw => by go_simp) hS (fun hS => ?_)
        try go_frame
        refine held_pure (i := 5) (oi := ⟨some 10, _, _, _, _, _⟩) rfl (by kernel_rfl) (by kernel_rfl) (by kernel_rfl) (fun _ _ _ h => h) (by rfl) (v := ?_) (fun w hSw => ?_) hS (fun hS => ?_)
        rotate_left
        · go_simp; try with_reducible rfl
        try go_frame
        refine held_pure (i := 6) (oi := ⟨some 11, _, _, _, _, _⟩) rfl (by kernel_rfl) (by kernel_rfl) (by kernel_rfl) (fun _ _ _ h => h) (by rfl) (v := ?_) (fun w hSw => ?_) hS (fun hS => ?_)
        rotate_left
        · go_simp; try with_reducible rfl
        try go_frame
        refine held_pure (i := 7) (oi := ⟨some 12, _, _, _, _, _⟩) rfl (by kernel_rfl) (by kernel_rfl) (by kernel_rfl) (fun _ _ _ h => h) (by rfl) (fun w hSw => run_load_sl rfl rfl ((at1.below hSw (by omega)).opt)) hS (fun hS => ?_)
        try go_frame
        refine held_pure (i := 8) (oi := ⟨some 13, _, _, _, _, _⟩) rfl (by kernel_rfl) (by kernel_rfl) (by kernel_rfl) (fun _ _ _ h => h) (by rfl) (v := ?_) (fun w hSw => ?_) hS (fun hS => ?_)
        rotate_left
        · go_simp; try with_reducible rfl
        try go_frame
        refine held_pure (i := 9) (oi := ⟨some 14, _, _, _, _, _⟩) rfl (by kernel_rfl) (by kernel_rfl) (by kernel_rfl) (fun _ _ _ h => h) (by rfl) (fun w hSw => run_load_sl rfl rfl ((at2.below hSw (by omega)).opt)) hS (fun hS => ?_)
        try go_frame
        refine wpAnyH_ready (rs := [10]) (by kernel_rfl) (by simp) (AllReadyH.cons (o := ⟨some 15, _, _, _, _, _⟩) rfl (fun K hK => ?_) AllReadyH.nil)
        rw [if_pos (by rfl)]
        go_simp
        refine (equal_any A X q.opt r.opt c d B B _ (hA.below ((hBW.trans (hS.mono hBW.size)).mono hB)) (hX.below ((hBW.trans (hS.mono hBW.size)).mono hB))).mono ?_
        rintro e w10 ⟨rfl, rfl⟩
        rw [← HO.out]
        show K _ _
        refine hK.out _ _ hS (fun hS => ?_)
        clear hK K
        try go_frame
        refine held_pure (i := 11) (oi := ⟨some 16, _, _, _, _, _⟩) rfl (by kernel_rfl) (by kernel_rfl) (by kernel_rfl) (fun _ _ _ h => h) (by rfl) (v := ?_) (fun w hSw => ?_) hS (fun hS => ?_)
        rotate_left
        · go_simp; try with_reducible rfl
        try go_frame
        refine held_pure (i := 12) (oi := ⟨some 17, _, _, _, _, _⟩) rfl (by kernel_rfl) (by kernel_rfl) (by kernel_rfl) (fun _ _ _ h => h) (by rfl) (v := ?_) (fun w hSw => ?_) hS (fun hS => ?_)
        rotate_left
        · go_simp; try with_reducible rfl
        try go_frame
        refine held_pure (i := 13) (oi := ⟨some 18, _, _, _, _, _⟩) rfl (by kernel_rfl) (by kernel_rfl) (by kernel_rfl) (fun _ _ _ h => h) (by rfl) (v := ?_) (fun w hSw => ?_) hS (fun hS => ?_)
        rotate_left
        · go_simp; try with_reducible rfl
        try go_frame
        refine held_pure (i := 14) (oi := ⟨some 19, _, _, _, _, _⟩) rfl (by kernel_rfl) (by kernel_rfl) (by kernel_rfl) (fun _ _ _ h => h) (by rfl) (fun w hSw => run_load_sl rfl rfl ((at1.below hSw (by omega)).dat)) hS (fun hS => ?_)
        try go_frame
        refine held_pure (i := 15) (oi := ⟨some 20, _, _, _, _, _⟩) rfl (by kernel_rfl) (by kernel_rfl) (by kernel_rfl) (fun _ _ _ h => h) (by rfl) (v := ?_) (fun w hSw => ?_) hS (fun hS => ?_)
        rotate_left
        · go_simp; try with_reducible rfl
        try go_frame
        refine held_pure (i := 16) (oi := ⟨some 21, _, _, _, _, _⟩) rfl (by kernel_rfl) (by kernel_rfl) (by kernel_rfl) (fun _ _ _ h => h) (by rfl) (fun w hSw => run_load_sl rfl rfl ((at2.below hSw (by omega)).dat)) hS (fun hS => ?_)
        try go_frame
        refine wpAnyH_ready (rs := [17]) (by kernel_rfl) (by simp) (AllReadyH.cons (o := ⟨some 22, _, _, _, _, _⟩) rfl (fun K hK => ?_) AllReadyH.nil)
        rw [if_pos (by rfl)]
        go_simp
        refine (equal_any A' X' q.dat r.dat c' d' B B _ (hA'.below ((hBW.trans (hS.mono hBW.size)).mono hB)) (hX'.below ((hBW.trans (hS.mono hBW.size)).mono hB))).mono ?_
        rintro e w17 ⟨rfl, rfl⟩
        rw [← HE.out]
        show K _ _
        refine hK.out _ _ hS (fun hS => ?_)
        clear hK K
        try go_frame
        refine held_pure (i := 18) (oi := ⟨some 23, _, _, _, _, _⟩) rfl (by kernel_rfl) (by kernel_rfl) (by kernel_rfl) (fun _ _ _ h => h) (by rfl) (v := ?_) (fun w hSw => ?_) hS (fun hS => ?_)
        rotate_left
        · go_simp; try with_reducible rfl
        try go_frame
        refine held_pure (i := 19) (oi := ⟨some 4, _, _, _, _, _⟩) rfl (by kernel_rfl) (by kernel_rfl) (by kernel_rfl) (fun _ _ _ h => h) (by rfl) (v := ?_) (fun w hSw => ?_) hS (fun hS => ?_)
        rotate_left
        · go_simp; try with_reducible rfl
        try go_frame
        refine wpAnyH_done (by kernel_rfl) ?_ _
        go_wp2_with fail
        go_ret
        exact ⟨ret_bool (by rw [HS.out]; rfl), hBW.trans (hS.mono (by omega))⟩

set_option maxRecDepth 100000 in
set_option maxHeartbeats 4000000 in
theorem rTsame (hB : B ≤ w.heap.size) (hA : Rd w B A q.opt) (hX : Rd w B X r.opt) (hA' : Rd w B A' q.dat) (hX' : Rd w B X' r.dat) :
    Calls Try.prog 28 #[tsv q A c A' c', tsv r X d X' d'] w fun e w' => e = .returned (.bool (sameT q r)) ∧ Below w.heap.size w w' := by
  have hBW : Below w.heap.size w ((w.alloc (.cells (tsa q A c A' c') 39)).alloc (.cells (tsa r X d X' d') 39)) := ((Below.refl w.heap.size w).alloc (Nat.le_refl _) _).alloc (by simp) _
  have at1 : Atts ((w.alloc (.cells (tsa q A c A' c') 39)).alloc (.cells (tsa r X d X' d') 39)) w.heap.size q A c A' c' := (Atts.new w).below ((Below.refl (w.heap.size + 1) _).alloc (by simp) _) (by omega)
  have at2 : Atts ((w.alloc (.cells (tsa q A c A' c') 39)).alloc (.cells (tsa r X d X' d') 39)) (w.heap.size + 1) r X d X' d' := by
    have := Atts.new (q := r) (A := X) (c := d) (A' := X') (c' := d') (w.alloc (.cells (tsa q A c A' c') 39))
    rwa [show (w.alloc (.cells (tsa q A c A' c') 39)).heap.size = w.heap.size + 1 from by simp] at this
  have hz : w.heap.size + 1 < ((w.alloc (.cells (tsa q A c A' c') 39)).alloc (.cells (tsa r X d X' d') 39)).heap.size := by simp
  rw [tsv_eq, tsv_eq]
  have z0 := hA.below (hBW.mono hB); have z1 := hX.below (hBW.mono hB); have z2 := hA'.below (hBW.mono hB); have z3 := hX'.below (hBW.mono hB)
  have HS := Lib.hid (show sameT q r = ((q.src == r.src && q.dst == r.dst && q.seq == r.seq && q.ack == r.ack && q.res == r.res && q.flags == r.flags) && (q.win == r.win) && (q.urg == r.urg) && decide (q.opt = r.opt) && decide (q.dat = r.dat)) from rfl)
  go_enter Try.func28, Try.ntmps28
  go_upto_region 1 with fail
  generalize (w.alloc (.cells (tsa q A c A' c') 39)).alloc (.cells (tsa r X d X' d') 39) = W at *
  have c1 := conv_any A q.opt c B W z0
  have c2 := conv_any A' q.dat c' B W z2
  have c3 := conv_any X r.opt d B W z1
  have c4 := conv_any X' r.dat d' B W z3
  have x0 := at1.src; have y0 := at2.src
  have x1 := at1.dst; have y1 := at2.dst
  have x2 := at1.seq; have y2 := at2.seq
  have x3 := at1.ack; have y3 := at2.ack
  have x4 := at1.res; have y4 := at2.res
  have x5 := at1.flags; have y5 := at2.flags
  have x6 := at1.win; have y6 := at2.win
  have x7 := at1.urg; have y7 := at2.urg
  have x8 := at1.opt; have y8 := at2.opt
  have x9 := at1.dat; have y9 := at2.dat
  clear at1 at2 hA hX hA' hX' z0 z1 z2 z3
  go_cut [5] from 6 (fun s w' => s = .bool (q.src == r.src && q.dst == r.dst && q.seq == r.seq && q.ack == r.ack && q.res == r.res && q.flags == r.flags) ∧ w' = W)
  case first =>
    cases e0 : (q.src == r.src)
    · go_wp2_with fail
      go_meet
      exact ⟨by rw [e0]; rfl, rfl⟩
    · skip
      cases e1 : (q.dst == r.dst)
      · go_wp2_with fail
        go_meet
        exact ⟨by rw [e0, e1]; rfl, rfl⟩
      · skip
        cases e2 : (q.seq == r.seq)
        · go_wp2_with fail
          go_meet
          exact ⟨by rw [e0, e1, e2]; rfl, rfl⟩
        · skip
          cases e3 : (q.ack == r.ack)
          · go_wp2_with fail
            go_meet
            exact ⟨by rw [e0, e1, e2, e3]; rfl, rfl⟩
          · skip
            cases e4 : (q.res == r.res)
            · go_wp2_with fail
              go_meet
              exact ⟨by rw [e0, e1, e2, e3, e4]; rfl, rfl⟩
            · skip
              cases e5 : (q.flags == r.flags)
              · go_wp2_with fail
                go_meet
                exact ⟨by rw [e0, e1, e2, e3, e4, e5]; rfl, rfl⟩
              · skip
                go_wp2_with fail
                go_meet
                exact ⟨by rw [e0, e1, e2, e3, e4, e5]; rfl, rfl⟩
  case rest =>
    obtain ⟨hs5, hwc⟩ := hcut
    subst hs5
    rw [hwc]
    clear hwc x0 x1 x2 x3 x4 x5 y0 y1 y2 y3 y4 y5
    obtain ⟨K, hK⟩ : ∃ b, b = (q.src == r.src && q.dst == r.dst && q.seq == r.seq && q.ack == r.ack && q.res == r.res && q.flags == r.flags) := ⟨_, rfl⟩
    rw [← hK] at HS ⊢
    clear hK
    have q1 := strB_eq q.opt r.opt
    have q2 := strB_eq q.dat r.dat
    cases K
    · clear q1 q2
      go_wp2_with fail
      go_ret
      exact ⟨ret_bool (by rw [HS.out]; rfl), hBW⟩
    · cases e7 : (q.win == r.win)
      · clear q1 q2
        go_wp2_with fail
        go_ret
        exact ⟨ret_bool (by rw [HS.out, e7]; rfl), hBW⟩
      · cases e8 : (q.urg == r.urg)
        · clear q1 q2
          go_wp2_with fail
          go_ret
          exact ⟨ret_bool (by rw [HS.out, e7, e8]; rfl), hBW⟩
        · cases e9 : decide (q.opt = r.opt)
          · rw [e9] at q1
            go_wp2_with fail
            go_ret
            exact ⟨ret_bool (by rw [HS.out, e7, e8, e9]; rfl), hBW⟩
          · rw [e9] at q1
            cases e10 : decide (q.dat = r.dat)
            · rw [e10] at q2
              go_wp2_with fail
              go_ret
              exact ⟨ret_bool (by rw [HS.out, e7, e8, e9, e10]; rfl), hBW⟩
            · rw [e10] at q2
              go_wp2_with fail
              go_ret
              exact ⟨ret_bool (by rw [HS.out, e7, e8, e9, e10]; rfl), hBW⟩
end
def twoB (q : PT) : Bool := fitsB q.src 2 && fitsB q.dst 2 && fitsB q.win 2 && fitsB q.urg 2
def fourB (q : PT) : Bool := fitsB q.seq 4 && fitsB q.ack 4 && fitsB q.flags 1 && decide (0 ≤ q.res) && decide (q.res ≤ 15)
theorem argT_two (q : PT) : argT q ↔ (twoB q = true ∧ fourB q = true ∧ q.opt.length ≤ 40 ∧ q.opt.length % 4 = 0) := by
  rw [argT_iff]
  simp only [twoB, fourB, Bool.and_eq_true, decide_eq_true_eq]
  constructor
  · rintro ⟨h0, h1, h2, h3, h4, h5, h6, h7, h8, h9, h10⟩; exact ⟨⟨⟨⟨h0, h1⟩, h2⟩, h3⟩, ⟨⟨⟨⟨h4, h5⟩, h8⟩, h6⟩, by omega⟩, h9, h10⟩
  · rintro ⟨⟨⟨⟨h0, h1⟩, h2⟩, h3⟩, ⟨⟨⟨⟨h4, h5⟩, h8⟩, h6⟩, h7⟩, h9, h10⟩; exact ⟨h0, h1, h2, h3, h4, h5, h6, by omega, h8, h9, h10⟩
section
variable (q : PT) (A : Option Addr) (c : Nat) (A' : Option Addr) (c' : Nat) (w : World)
set_option maxRecDepth 100000 in
set_option maxHeartbeats 4000000 in
theorem rTcheck (hl : q.dat.length ≤ 1000000) (ho0 : q.opt.length ≤ 1000000) : Calls Try.prog 26 #[tsv q A c A' c'] w fun e w' => e = .returned (.int .i64 (chkT q)) ∧ Below w.heap.size w w' := by
  have hB : Below w.heap.size w (w.alloc (.cells (tsa q A c A' c') 39)) := (Below.refl w.heap.size w).alloc (Nat.le_refl _) _
  have hAt := Atts.new (q := q) (A := A) (c := c) (A' := A') (c' := c') w
  have hz : w.heap.size < (w.alloc (.cells (tsa q A c A' c') 39)).heap.size := by simp
  rw [tsv_eq]
  have HO := Lib.hid (argT_two q)
  have HCK := Lib.hid (show chkT q = if argT q then (if 65535 < 20 + (q.opt.length : Int) + (q.dat.length : Int) then 6 else 0) else 1 from rfl)
  have k0 := hAt.src
  have k1 := hAt.dst
  have k2 := hAt.seq
  have k3 := hAt.ack
  have k4 := hAt.res
  have k5 := hAt.flags
  have k6 := hAt.win
  have k7 := hAt.urg
  have k8 := hAt.opt
  have k9 := hAt.dat
  go_enter Try.func26, Try.ntmps26
  go_upto_region 1 with fail
  generalize w.alloc (.cells (tsa q A c A' c') 39) = W at *
  clear hAt
  obtain ⟨f0, hf0⟩ : ∃ b, b = fitsB q.src 2 := ⟨_, rfl⟩
  obtain ⟨f1, hf1⟩ : ∃ b, b = fitsB q.dst 2 := ⟨_, rfl⟩
  obtain ⟨f2, hf2⟩ : ∃ b, b = fitsB q.win 2 := ⟨_, rfl⟩
  obtain ⟨f3, hf3⟩ : ∃ b, b = fitsB q.urg 2 := ⟨_, rfl⟩
  have HF := Lib.hid (show twoB q = (f0 && f1 && f2 && f3) from by rw [twoB, hf0, hf1, hf2, hf3])
  have H0 := Lib.hid hf0; have H1 := Lib.hid hf1; have H2 := Lib.hid hf2; have H3 := Lib.hid hf3
  clear hf0 hf1 hf2 hf3
  go_cut [3] from 5 (fun s w' => s = .bool (f0 && f1 && f2 && f3) ∧ w' = W)
  case first =>
    cases f0 <;> cases f1 <;> cases f2 <;> cases f3 <;> (
      go_wp2_with (go_at_call 41; refine (rfits_any _ _ _).mono ?_; rintro e w' ⟨rfl, rfl⟩; (first | rw [← H0.out] | rw [← H1.out] | rw [← H2.out] | rw [← H3.out] | skip))
      go_meet
      exact ⟨rfl, rfl⟩)
  case rest =>
    obtain ⟨hs3, hwc⟩ := hcut
    subst hs3; subst hwc
    go_upto_region 2 with fail
    obtain ⟨g0, hg0⟩ : ∃ b, b = fitsB q.seq 4 := ⟨_, rfl⟩
    obtain ⟨g1, hg1⟩ : ∃ b, b = fitsB q.ack 4 := ⟨_, rfl⟩
    obtain ⟨g2, hg2⟩ : ∃ b, b = fitsB q.flags 1 := ⟨_, rfl⟩
    have HG := Lib.hid (show fourB q = (g0 && g1 && g2 && decide (0 ≤ q.res) && decide (q.res ≤ 15)) from by rw [fourB, hg0, hg1, hg2])
    have G0 := Lib.hid hg0; have G1 := Lib.hid hg1; have G2 := Lib.hid hg2
    clear hg0 hg1 hg2
    go_cut [4] from 23 (fun s w' => s = .bool (g0 && g1 && g2 && decide (0 ≤ q.res) && decide (q.res ≤ 15)) ∧ w' = wc)
    case first =>
      by_cases p0 : 0 ≤ q.res
      · have p0' : decide (0 ≤ q.res) = true := by simpa using p0
        by_cases p1 : q.res ≤ 15
        · have p1' : decide (q.res ≤ 15) = true := by simpa using p1
          have E1 := Lib.hid p0'; have E2 := Lib.hid p1'
          cases g0 <;> cases g1 <;> cases g2 <;> (
            go_wp2_with (go_at_call 41; refine (rfits_any _ _ _).mono ?_; rintro e w' ⟨rfl, rfl⟩; (first | rw [← G0.out] | rw [← G1.out] | rw [← G2.out] | skip))
            go_meet
            exact ⟨by simp [E1.out, E2.out], rfl⟩)
        · have p1' : decide (q.res ≤ 15) = false := by simpa using p1
          have E1 := Lib.hid p0'; have E2 := Lib.hid p1'
          cases g0 <;> cases g1 <;> cases g2 <;> (
            go_wp2_with (go_at_call 41; refine (rfits_any _ _ _).mono ?_; rintro e w' ⟨rfl, rfl⟩; (first | rw [← G0.out] | rw [← G1.out] | rw [← G2.out] | skip))
            go_meet
            exact ⟨by simp [E1.out, E2.out], rfl⟩)
      · have p0' : decide (0 ≤ q.res) = false := by simpa using p0
        have E1 := Lib.hid p0'
        cases g0 <;> cases g1 <;> cases g2 <;> (
          go_wp2_with (go_at_call 41; refine (rfits_any _ _ _).mono ?_; rintro e w' ⟨rfl, rfl⟩; (first | rw [← G0.out] | rw [← G1.out] | rw [← G2.out] | skip))
          go_meet
          exact ⟨by simp [E1.out], rfl⟩)
    case rest =>
      obtain ⟨hs4, hwc⟩ := hcut
      subst hs4; subst hwc
      rw [← HF.out, ← HG.out]
      clear HF HG H0 H1 H2 H3 G0 G1 G2
      go_upto_region 3 with fail
      have tm4 : Int.tmod (q.opt.length : Int) 4 = (q.opt.length : Int) % 4 := Int.tmod_eq_emod_of_nonneg (by omega)
      obtain ⟨F, hF⟩ : ∃ b, b = twoB q := ⟨_, rfl⟩
      obtain ⟨G, hG⟩ : ∃ b, b = fourB q := ⟨_, rfl⟩
      rw [← hF, ← hG]
      rw [← hF, ← hG] at HO
      clear hF hG
      cases F
      · have HE := Lib.hid (show chkT q = 1 by rw [HCK.out, if_neg (fun h => by have := (HO.out.1 h).1; cases this)])
        clear HO
        go_wp2_with fail
        go_ret
        exact ⟨ret_int (by rw [HE.out]), hB⟩
      · cases G
        · have HE := Lib.hid (show chkT q = 1 by rw [HCK.out, if_neg (fun h => by have := (HO.out.1 h).2.1; cases this)])
          clear HO
          go_wp2_with fail
          go_ret
          exact ⟨ret_int (by rw [HE.out]), hB⟩
        · by_cases o1 : 40 < q.opt.length
          · have d1 : decide (40 < (q.opt.length : Int)) = true := by simp; omega
            have HE := Lib.hid (show chkT q = 1 by rw [HCK.out, if_neg (fun h => by have := (HO.out.1 h).2.2.1; omega)])
            clear HO
            go_wp2_with fail
            go_ret
            exact ⟨ret_int (by rw [HE.out]), hB⟩
          · have d1 : decide (40 < (q.opt.length : Int)) = false := by simp; omega
            by_cases o2 : q.opt.length % 4 = 0
            · have o2' : (((q.opt.length : Int) % 4) != 0) = false := by simp; omega
              have HA := HO.out.2 ⟨rfl, rfl, by omega, o2⟩
              by_cases s : 65535 < 20 + (q.opt.length : Int) + (q.dat.length : Int)
              · have ds : decide (65535 < 20 + (q.opt.length : Int) + (q.dat.length : Int)) = true := by simpa using s
                have HE := Lib.hid (show chkT q = 6 by rw [HCK.out, if_pos HA, if_pos s])
                clear HO HA o2 s
                go_wp2_with fail
                go_ret
                exact ⟨ret_int (by rw [HE.out]), hB⟩
              · have ds : decide (65535 < 20 + (q.opt.length : Int) + (q.dat.length : Int)) = false := by simpa using s
                have HE := Lib.hid (show chkT q = 0 by rw [HCK.out, if_pos HA, if_neg s])
                clear HO HA o2 s
                go_wp2_with fail
                go_ret
                exact ⟨ret_int (by rw [HE.out]), hB⟩
            · have o2' : (((q.opt.length : Int) % 4) != 0) = true := by simp; omega
              have HE := Lib.hid (show chkT q = 1 by rw [HCK.out, if_neg (fun h => o2 (HO.out.1 h).2.2.2)])
              clear HO o2
              go_wp2_with fail
              go_ret
              exact ⟨ret_int (by rw [HE.out]), hB⟩
end
end Go.Proofs.Ytggcjjcgiphjeaa

/-
  Contracts of slices.Grow at nil, and of slices.Concat, over bytes. Conditions are each theorem's own.
-/
namespace Go.Proofs.Ytggcjjcgiphjeaa
open Go.RowKit

set_option maxHeartbeats 1000000 in
theorem grow_nil (n : Nat) (h0 : 0 < n) (h1 : n ≤ 1000000000) (w : World) :
    Calls Try.prog 67 #[.slice none 0 0, .int .i64 (n : Int)] w fun e w' => ∃ v, e = .returned v ∧ w'.ownsRow w.heap.size 5 1 v 0 (row []) ∧ Below w.heap.size w w' := by
  obtain ⟨i0, hi, hz0, hz1, hz2⟩ := info_parts info_u8
  have hold : (Builtin.firstCells i0.size 0 (.slice none 0 0)).run Try.prog w.drew = .ok ([] : List Value).toArray w.drew := run_firstCells_none w.drew i0.size 0 0 0
  have hfit : Builtin.nextslicecap (0 + n) 0 * i0.bytes ≤ 281474976710656 := by
    rw [hz2]; exact growslice_fits (by omega) (by omega)
  have hrz : ∀ ty, (Builtin.append_ #[22, 3] ty #[.slice none 0 0, .int .i64 (n : Int)]).run Try.prog w =
      .ok (.slice (some ⟨w.heap.size, 0, none⟩) n (grownCap w n 0 5)) (w.drew.alloc (.cells (([] : List Value).toArray ++ Builtin.zeroCells (Value.int .u8 0).cells n ++ Builtin.zeroCells (Value.int .u8 0).cells (grownCap w n 0 5 - n)) 5)) := fun ty => by
    have h := Lib.run_append_grow_zeros w 22 3 ty 5 i0 (.int .u8 0) .i64 .i64 Try.underlying22 Try.underlying3 hi hz0 none 0 0 [] hold n h0 (by omega) (by omega) (by omega) (by rw [hz2]; omega) hfit
    rw [Nat.zero_add] at h; exact h
  have hge : n ≤ grownCap w n 0 5 := grownCap_ge w _ _ _
  have hle := grownCap_le_maxLen w n 0 5 (by unfold maxLen; omega)
  obtain ⟨G, hG⟩ : ∃ G, G = grownCap w n 0 5 := ⟨_, rfl⟩
  rw [← hG] at hrz hge hle
  have hG63 : G ≤ 9223372036854775807 := by unfold maxLen at hle; omega
  have hHle := Lib.hid hle
  have dn : decide ((n : Int) < 0) = false := by simp
  clear hG hold hfit hle hi hz0 hz1 hz2
  go_enter Try.func67, Try.ntmps67
  go_wp2_with (at_builtin; refine Lib.wpList_append_run _ rfl _ _ _ _ rfl _ _ rfl rfl _ _ (hrz _) ?_)
  go_ret
  have hsz : (Builtin.zeroCells #[Value.int .u8 0] n ++ Builtin.zeroCells #[Value.int .u8 0] (G - n)).size = G := by
    simp only [Array.size_append, size_zeroCells]
    show n * 1 + (G - n) * 1 = G
    omega
  exact ⟨_, rfl, ⟨rfl, .inr ⟨w.heap.size, G, Builtin.zeroCells #[Value.int .u8 0] n ++ Builtin.zeroCells #[Value.int .u8 0] (G - n), rfl, Nat.le_refl _, World.alloc_heap_new w _, Nat.zero_le _, hHle.out, by rw [hsz, Nat.mul_one], by simp [row]⟩⟩, (((Below.refl _ w).alloc (Nat.le_refl _) _).drew)⟩
theorem flatten_take (ps : List (List UInt8)) {k : Nat} {bs : List UInt8} (h : ps[k]? = some bs) : (ps.take (k + 1)).flatten = (ps.take k).flatten ++ bs := by
  rw [List.take_add_one, h]; simp
theorem bulk_flatten (ps : List (List UInt8)) : ps.flatten.length = bulk ps := by simp [bulk, List.length_flatten]
set_option maxRecDepth 100000 in
set_option maxHeartbeats 2000000 in
theorem concat_any (A : Option Addr) (ps : List (List UInt8)) (c B : Nat) (w : World) (h : Rd2 w B A ps) (hB : B ≤ w.heap.size) (h0 : 0 < bulk ps) (hl : bulk ps ≤ 1000000) (hn : ps.length ≤ 1000) (hn0 : 0 < ps.length) :
    Calls Try.prog 53 #[.slice A ps.length c] w fun e w' => ∃ v, e = .returned v ∧ Made w w' v ps.flatten := by
  obtain ⟨b, off, rfl, hbB, hcell⟩ := h hn0
  have HC := Lib.hid hcell
  have HBT := Lib.hid (fun (k : Nat) (bs : List UInt8) (h : ps[k]? = some bs) => (⟨bulk_take ps h, len_bulk h⟩ : bulk (ps.take (k + 1)) = bulk (ps.take k) + bs.length ∧ bs.length ≤ bulk ps))
  have HBL := Lib.hid (bulk_le ps)
  clear hcell h
  obtain ⟨T, hT⟩ : ∃ n, n = bulk ps := ⟨_, rfl⟩
  rw [← hT] at h0 hl HBT HBL
  have HT := Lib.hid hT
  clear hT
  go_enter Try.func53, Try.ntmps53
  go_wp2_with fail
  go_loop [3, 5, 11] (fun s _ i => ∃ k : Nat, ∃ m : Nat, k ≤ ps.length ∧ Hid (m = bulk (ps.take k)) ∧ m ≤ 1000000 ∧ i = .int .i64 (k : Int) ∧ s = .int .i64 (m : Int)) (fun _ _ i => ps.length - (intOf i).toNat)
  case atStart => exact ⟨0, 0, Nat.zero_le _, Lib.hid rfl, by omega, rfl, rfl⟩
  case round =>
    obtain ⟨k, m, hk, Hm, hm, rfl, rfl⟩ := hrel
    by_cases hlt : k < ps.length
    · obtain ⟨bs, hbs⟩ : ∃ bs, ps[k]? = some bs := ⟨_, List.getElem?_eq_getElem hlt⟩
      obtain ⟨Aj, cj, hcj, harg⟩ := HC.out k bs hbs
      obtain ⟨e1, e2⟩ := HBT.out k bs hbs
      have e3 := HBL.out (k + 1)
      have hmb : m + bs.length ≤ 1000000 := by have := Hm.out; omega
      have HN := Lib.hid (show m + bs.length = bulk (ps.take (k + 1)) by rw [e1, Hm.out])
      have dn : decide ((m : Int) + (bs.length : Int) < 0) = false := by simp; omega
      clear e1 e2 e3 harg hbs
      go_wp2_with fail
      go_round
      case rel => exact ⟨k + 1, m + bs.length, by omega, HN, hmb, by go_num, by go_num⟩
      case measure => simp [intOf]; omega
    · obtain rfl : k = ps.length := by omega
      have HM := Lib.hid (show m = T by rw [Hm.out, List.take_length, HT.out])
      obtain rfl : m = T := HM.out
      clear Hm
      go_wp2_with (go_at_call 67; refine (grow_nil m h0 (by omega) _).mono ?_; rintro e w1 ⟨v1, rfl, own1, x1⟩)
      go_loopw [6, 8, 27] (fun v _ i W => ∃ k : Nat, ∃ bs : List UInt8, k ≤ ps.length ∧ Hid (bs = (ps.take k).flatten) ∧ bs.length ≤ 1000000 ∧ i = .int .i64 (k : Int) ∧ W.ownsRow w.heap.size 5 1 v bs.length (row bs) ∧ Below w.heap.size w W) (fun _ _ i _ => ps.length - (intOf i).toNat)
      case atStart => exact ⟨0, [], Nat.zero_le _, Lib.hid rfl, by simp, rfl, own1, x1⟩
      case round =>
        obtain ⟨k, bs, hk, Hb, hbl, rfl, hown, hbel⟩ := hrel
        by_cases hlt : k < ps.length
        · obtain ⟨b2, hbs⟩ : ∃ b2, ps[k]? = some b2 := ⟨_, List.getElem?_eq_getElem hlt⟩
          obtain ⟨Aj, cj, hcj, harg⟩ := HC.out k b2 hbs
          have hcj' := (hbel.cell (p := ⟨b, off + k, none⟩) (Nat.lt_of_lt_of_le hbB hB)).trans hcj
          have harg' := harg.below (hbel.mono hB)
          have hcap := harg.none_
          have HN := Lib.hid (show bs ++ b2 = (ps.take (k + 1)).flatten by rw [flatten_take ps hbs, Hb.out])
          obtain ⟨e1, e2⟩ := HBT.out k b2 hbs
          have hnb : (bs ++ b2).length ≤ 1000000 := by
            rw [HN.out, bulk_flatten]; have := HBL.out (k + 1); omega
          have hnb' : bs.length + b2.length ≤ 1000000 := by rw [List.length_append] at hnb; exact hnb
          clear e1 e2 hcj harg hbs
          go_wp2_with (at_builtin; refine append_rd rfl _ _ rfl w.heap.size _ _ _ rfl hown B Aj cj b2 rfl hcap harg'.rd (by omega) hbel.size ?_; intro v5 w5 own5 grow5)
          have x5 := hbel.grown grow5 hbel.size (fun k hk => own_block_ge hown k hk)
          have own6 : w5.ownsRow w.heap.size 5 1 v5 (bs ++ b2).length (row (bs ++ b2)) := by rw [List.length_append, row_append]; exact own5
          go_roundw
          case rel => exact ⟨k + 1, bs ++ b2, by omega, HN, hnb, by go_num, own6, x5⟩
          case measure => simp [intOf]; omega
        · obtain rfl : k = ps.length := by omega
          go_wp2_with fail
          go_ret
          have e : bs = ps.flatten := by rw [Hb.out, List.take_length]
          subst e
          exact ⟨_, rfl, Made.of_own hown hbel⟩
theorem concat_three (A : Option Addr) (a b d : List UInt8) (c B : Nat) (R : List UInt8) (hR : Hid (R = a ++ b ++ d)) (w : World) (h : Rd2 w B A [a, b, d]) (hB : B ≤ w.heap.size) (h0 : 0 < a.length) (hl : a.length + b.length + d.length ≤ 1000000) :
    Calls Try.prog 53 #[.slice A 3 c] w fun e w' => ∃ v, e = .returned v ∧ Made w w' v R := by
  have h1 := concat_any A [a, b, d] c B w h hB (by rw [bulk3]; omega) (by rw [bulk3]; omega) (by simp) (by simp)
  have e : [a, b, d].flatten = R := by rw [hR.out]; simp
  rw [e] at h1
  exact h1
end Go.Proofs.Ytggcjjcgiphjeaa
