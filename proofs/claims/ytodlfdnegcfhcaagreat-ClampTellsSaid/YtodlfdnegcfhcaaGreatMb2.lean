/-
  Contracts and lemmas on which the proofs of this seat stand (several texts in one). Conditions are each theorem's own.
-/
import Derived.Test.YtodlfdnegcfhcaaGreatMb1

/-
  Contracts of layer 8's Build, the program's and the document's. Conditions are each theorem's own.
-/
namespace Go.Proofs.YtodlfdnegcfhcaaGreat
open Go.RowKit

theorem of_four (A : Option Addr) (a b d e : List UInt8) (c B : Nat) (N : Int) (hN : Hid (N = 65535 - fold (psum [a, b, d, e]))) (w : World) (h : Rd2 w B A [a, b, d, e]) (hB : B ≤ w.heap.size) (hl : a.length + b.length + d.length + e.length ≤ 1099511627000) :
    Calls Tryz.prog 81 #[.slice A 4 c] w fun x w' => x = .returned (.int .i64 N) ∧ Below w.heap.size w w' := by
  have h1 := of_any A [a, b, d, e] c B w h hB (by rw [bulk4]; omega) (by simp)
  rw [← hN.out] at h1
  exact h1
section
variable (q : PT) (A : Option Addr) (c : Nat) (A' : Option Addr) (c' : Nat) (src dst : Int) (w : World)
set_option maxRecDepth 100000 in
set_option maxHeartbeats 2000000 in
theorem cTbuild (B : Nat) (hO : Arg w B A c q.opt) (hD : Arg w B A' c' q.dat) (hB0 : B ≤ w.heap.size) (ho0 : q.opt.length ≤ 1000000) (hl : q.dat.length ≤ 900000) :
    Calls Tryz.prog 48 #[.int .i64 src, .int .i64 dst, tsv q A c A' c'] w fun e w' => ∃ v, e = .returned (.tuple #[v, .int .i64 (chkT q)]) ∧ (chkT q ≠ 0 → v = .slice none 0 0 ∧ Below w.heap.size w w') ∧ (chkT q = 0 → Made w w' v (bldT src dst q)) := by
  have hl : q.dat.length ≤ 1000000 := by omega
  have hB : Below w.heap.size w (w.alloc (.cells (tsa q A c A' c') 41)) := (Below.refl w.heap.size w).alloc (Nat.le_refl _) _
  have hAt := Atts.new (q := q) (A := A) (c := c) (A' := A') (c' := c') w
  have hz : w.heap.size < (w.alloc (.cells (tsa q A c A' c') 41)).heap.size := by simp
  rw [tsv_eq]
  go_enter Tryz.func48, Tryz.ntmps48
  go_upto_region 1 with fail
  generalize w.alloc (.cells (tsa q A c A' c') 41) = W at *
  by_cases hc : chkT q = 0
  · obtain ⟨ha, hz1⟩ := chkT_ok hc
    have ho40 : q.opt.length ≤ 40 := by obtain ⟨_, _, _, _, _, _, _, _, _, _, _, _, _, _, _, _, h, _⟩ := ha; exact h
    have HC := Lib.hid hc
    clear hc
    obtain ⟨Z, hZ⟩ : ∃ n, n = sizeT q := ⟨_, rfl⟩
    have HSZ := Lib.hid hZ.symm
    obtain ⟨PS, hPS⟩ : ∃ l, l = psd src dst 6 Z := ⟨_, rfl⟩
    obtain ⟨HD, hHD⟩ : ∃ l, l = hdT q 0 := ⟨_, rfl⟩
    obtain ⟨N, hN⟩ : ∃ n, n = smT src dst q := ⟨_, rfl⟩
    obtain ⟨HE, hHE⟩ : ∃ l, l = hdT q N := ⟨_, rfl⟩
    have HSM := Lib.hid (show smT src dst q = 65535 - fold (psum [PS, HD, q.opt, q.dat]) by rw [hPS, hHD, hZ]; rfl)
    have HPL := Lib.hid (show PS.length = 12 by rw [hPS, psd_len])
    have HHL := Lib.hid (show HD.length = 20 by rw [hHD, hdT_len])
    have HEL := Lib.hid (show HE.length = 20 by rw [hHE, hdT_len])
    have HBL := Lib.hid (show bldT src dst q = HE ++ q.opt ++ q.dat by rw [hHE, hN]; rfl)
    have bd := smT_bd src dst q
    have hN0 : 0 ≤ N := by rw [hN]; exact bd.1
    have hN1 : N ≤ 65535 := by rw [hN]; exact bd.2
    have HPS := Lib.hid hPS; have HHD := Lib.hid hHD; have HHE := Lib.hid hHE; have HNN := Lib.hid hN
    have hsz : sizeT q = 20 + (q.opt.length : Int) + (q.dat.length : Int) := rfl
    have hdl : q.dat.length ≤ 65535 := by omega
    clear hPS hHD hHE hN hZ hz1 bd hsz
    go_upto_region 4 with (first
      | ((with_reducible show wpList _ _ _ (Oper.mk _ (Op.load 41 _) _ _ _ _ :: _) _ _); refine wpList_val rfl (run_load_ts rfl rfl hAt rfl) ?_)
      | (go_at_call 80; refine (cTcheck q A c A' c' _ hl ho0).mono ?_; rintro e w1 ⟨rfl, x1⟩; rw [HC.out]))
    refine wp_region_held_drew (S := fun w' => Below W.heap.size W w') (by kernel_rfl) x1.drew (fun hS => ?_)
    refine held_pure (i := 0) (oi := ⟨some 15, _, _, _, _, _⟩) rfl (by kernel_rfl) (by kernel_rfl) (by kernel_rfl) (fun _ _ _ h => h) (by rfl) (v := ?_) (fun w hSw => ?_) hS (fun hS => ?_)
    rotate_left
    · go_simp; try with_reducible rfl
    try go_frame
    refine held_pure (i := 1) (oi := ⟨some 16, _, _, _, _, _⟩) rfl (by kernel_rfl) (by kernel_rfl) (by kernel_rfl) (fun _ _ _ h => h) (by rfl) (v := ?_) (fun w hSw => ?_) hS (fun hS => ?_)
    rotate_left
    · go_simp; try with_reducible rfl
    try go_frame
    refine held_pure (i := 2) (oi := ⟨some 17, _, _, _, _, _⟩) rfl (by kernel_rfl) (by kernel_rfl) (by kernel_rfl) (fun _ _ _ h => h) (by rfl) (fun w hSw => run_load_ts rfl rfl (hAt.below hSw (by omega)) rfl) hS (fun hS => ?_)
    try go_frame
    refine held_pure (i := 5) (oi := ⟨some 20, _, _, _, _, _⟩) rfl (by kernel_rfl) (by kernel_rfl) (by kernel_rfl) (fun _ _ _ h => h) (by rfl) (fun w hSw => run_load_ts rfl rfl (hAt.below hSw (by omega)) rfl) hS (fun hS => ?_)
    try go_frame
    refine held_pure (i := 7) (oi := ⟨some 22, _, _, _, _, _⟩) rfl (by kernel_rfl) (by kernel_rfl) (by kernel_rfl) (fun _ _ _ h => h) (by rfl) (v := ?_) (fun w hSw => ?_) hS (fun hS => ?_)
    rotate_left
    · go_simp; try with_reducible rfl
    try go_frame
    refine held_pure (i := 8) (oi := ⟨some 23, _, _, _, _, _⟩) rfl (by kernel_rfl) (by kernel_rfl) (by kernel_rfl) (fun _ _ _ h => h) (by rfl) (fun w hSw => run_load_sl rfl rfl ((hAt.below hSw (by omega)).opt)) hS (fun hS => ?_)
    try go_frame
    refine held_pure (i := 9) (oi := ⟨some 24, _, _, _, _, _⟩) rfl (by kernel_rfl) (by kernel_rfl) (by kernel_rfl) (fun _ _ _ h => h) (by rfl) (v := ?_) (fun w hSw => ?_) hS (fun hS => ?_)
    rotate_left
    · go_simp; try with_reducible rfl
    try go_frame
    refine held_pure (i := 10) (oi := ⟨some 25, _, _, _, _, _⟩) rfl (by kernel_rfl) (by kernel_rfl) (by kernel_rfl) (fun _ _ _ h => h) (by rfl) (fun w hSw => run_load_sl rfl rfl ((hAt.below hSw (by omega)).dat)) hS (fun hS => ?_)
    try go_frame
    refine wpAnyH_ready (rs := [3]) (by kernel_rfl) (by simp) (AllReadyH.cons (o := ⟨some 18, _, _, _, _, _⟩) rfl (fun K hK => ?_) AllReadyH.nil)
    rw [if_pos (by rfl)]
    go_simp
    refine (cTsize q A c A' c' _ (by omega) hl).mono ?_
    rintro e w3 ⟨rfl, x3⟩
    rw [HSZ.out]
    show K _ _
    refine hK.out _ _ (below_step hS x3) (fun hS => ?_)
    clear hK K
    try go_frame
    refine wpAnyH_ready (rs := [4]) (by kernel_rfl) (by simp) (AllReadyH.cons (o := ⟨some 19, _, _, _, _, _⟩) rfl (fun K hK => ?_) AllReadyH.nil)
    rw [if_pos (by rfl)]
    go_simp
    refine (psd_any src dst 6 Z _).mono ?_
    rintro e w4 ⟨v4, rfl, m4⟩
    rw [← HPS.out] at m4
    obtain ⟨A4, c4, rfl, g4, o4, x4⟩ := made_shape m4
    show K _ _
    refine hK.out _ _ (below_step hS x4) (fun hS => ?_)
    clear hK K
    try go_frame
    refine wpAnyH_ready (rs := [6]) (by kernel_rfl) (by simp) (AllReadyH.cons (o := ⟨some 21, _, _, _, _, _⟩) rfl (fun K hK => ?_) AllReadyH.nil)
    rw [if_pos (by rfl)]
    go_simp
    refine (cThead q A c A' c' _ 0 HD HHD ha (by omega) (by omega)).mono ?_
    rintro e w6 ⟨v6, rfl, m6⟩
    obtain ⟨A6, c6, rfl, g6, o6, x6⟩ := made_shape m6
    have hS6 := below_step hS x6
    show K _ _
    refine hK.out _ _ (below_step hS x6) (fun hS => ?_)
    clear hK K
    try go_frame
    refine wpAnyH_ready (rs := [11]) (by kernel_rfl) (by simp) (AllReadyH.cons (o := ⟨some 26, _, _, _, _, _⟩) rfl (fun K hK => ?_) AllReadyH.nil)
    rw [if_pos (by rfl)]
    go_simp
    refine hK.out _ _ (hS.alloc hS.size _) (fun hS => ?_)
    clear hK K
    try go_frame
    refine wpAnyH_ready (rs := [12]) (by kernel_rfl) (by simp) (AllReadyH.cons (o := ⟨some 27, _, _, _, _, _⟩) rfl (fun K hK => ?_) AllReadyH.nil)
    rw [if_pos (by rfl)]
    go_simp
    refine (of_four (some ⟨w6.heap.size, 0, none⟩) PS HD q.opt q.dat 4 _ (smT src dst q) HSM _ (Rd2.four rfl rfl rfl rfl (World.alloc_heap_new w6 _) (Nat.lt_succ_self _) (((g4.below x6).alloc x6.size _).more (by have := x6.size; omega)) ((g6.alloc (Nat.le_refl _) _).more (Nat.le_succ _)) (((hO.below ((hB.trans (hS6.mono (by omega))).mono hB0)).alloc (by have := hS6.size; omega) _).more (by have := hS6.size; omega)) (((hD.below ((hB.trans (hS6.mono (by omega))).mono hB0)).alloc (by have := hS6.size; omega) _).more (by have := hS6.size; omega))) (by simp) (by have := HPL.out; have := HHL.out; omega)).mono ?_
    rintro e w12 ⟨rfl, x12⟩
    show K _ _
    refine hK.out _ _ (below_step hS x12) (fun hS => ?_)
    clear hK K
    try go_frame
    refine held_pure (i := 13) (oi := ⟨some 9, _, _, _, _, _⟩) rfl (by kernel_rfl) (by kernel_rfl) (by kernel_rfl) (fun _ _ _ h => h) (by rfl) (v := ?_) (fun w hSw => ?_) hS (fun hS => ?_)
    rotate_left
    · go_simp; try with_reducible rfl
    try go_frame
    refine wpAnyH_done (by kernel_rfl) ?_ _
    rw [← HNN.out]
    go_upto_region 5 with fail
    refine wp_region_held_drew (S := fun w' => Below W.heap.size W w') (by kernel_rfl) hS.drew (fun hS => ?_)
    refine held_pure (i := 0) (oi := ⟨some 28, _, _, _, _, _⟩) rfl (by kernel_rfl) (by kernel_rfl) (by kernel_rfl) (fun _ _ _ h => h) (by rfl) (fun w hSw => run_load_ts rfl rfl (hAt.below hSw (by omega)) rfl) hS (fun hS => ?_)
    try go_frame
    refine held_pure (i := 1) (oi := ⟨some 29, _, _, _, _, _⟩) rfl (by kernel_rfl) (by kernel_rfl) (by kernel_rfl) (fun _ _ _ h => h) (by rfl) (v := ?_) (fun w hSw => ?_) hS (fun hS => ?_)
    rotate_left
    · go_simp; try with_reducible rfl
    try go_frame
    refine held_pure (i := 3) (oi := ⟨some 31, _, _, _, _, _⟩) rfl (by kernel_rfl) (by kernel_rfl) (by kernel_rfl) (fun _ _ _ h => h) (by rfl) (v := ?_) (fun w hSw => ?_) hS (fun hS => ?_)
    rotate_left
    · go_simp; try with_reducible rfl
    try go_frame
    refine held_pure (i := 4) (oi := ⟨some 32, _, _, _, _, _⟩) rfl (by kernel_rfl) (by kernel_rfl) (by kernel_rfl) (fun _ _ _ h => h) (by rfl) (fun w hSw => run_load_sl rfl rfl ((hAt.below hSw (by omega)).opt)) hS (fun hS => ?_)
    try go_frame
    refine held_pure (i := 5) (oi := ⟨some 33, _, _, _, _, _⟩) rfl (by kernel_rfl) (by kernel_rfl) (by kernel_rfl) (fun _ _ _ h => h) (by rfl) (v := ?_) (fun w hSw => ?_) hS (fun hS => ?_)
    rotate_left
    · go_simp; try with_reducible rfl
    try go_frame
    refine held_pure (i := 6) (oi := ⟨some 34, _, _, _, _, _⟩) rfl (by kernel_rfl) (by kernel_rfl) (by kernel_rfl) (fun _ _ _ h => h) (by rfl) (fun w hSw => run_load_sl rfl rfl ((hAt.below hSw (by omega)).dat)) hS (fun hS => ?_)
    try go_frame
    refine wpAnyH_ready (rs := [2]) (by kernel_rfl) (by simp) (AllReadyH.cons (o := ⟨some 30, _, _, _, _, _⟩) rfl (fun K hK => ?_) AllReadyH.nil)
    rw [if_pos (by rfl)]
    go_simp
    refine (cThead q A c A' c' _ N HE HHE ha hN0 hN1).mono ?_
    rintro e w6 ⟨v6, rfl, m6⟩
    obtain ⟨A6, c6, rfl, g6, o6, x6⟩ := made_shape m6
    have hS6 := below_step hS x6
    show K _ _
    refine hK.out _ _ (below_step hS x6) (fun hS => ?_)
    clear hK K
    try go_frame
    refine wpAnyH_ready (rs := [7]) (by kernel_rfl) (by simp) (AllReadyH.cons (o := ⟨some 35, _, _, _, _, _⟩) rfl (fun K hK => ?_) AllReadyH.nil)
    rw [if_pos (by rfl)]
    go_simp
    refine hK.out _ _ (hS.alloc hS.size _) (fun hS => ?_)
    clear hK K
    try go_frame
    refine wpAnyH_ready (rs := [8]) (by kernel_rfl) (by simp) (AllReadyH.cons (o := ⟨some 36, _, _, _, _, _⟩) rfl (fun K hK => ?_) AllReadyH.nil)
    rw [if_pos (by rfl)]
    go_simp
    refine (concat_three (some ⟨w6.heap.size, 0, none⟩) HE q.opt q.dat 3 _ (bldT src dst q) HBL _ (Rd2.three rfl rfl rfl (World.alloc_heap_new w6 _) (Nat.lt_succ_self _) ((g6.alloc (Nat.le_refl _) _).more (Nat.le_succ _)) (((hO.below ((hB.trans (hS6.mono (by omega))).mono hB0)).alloc (by have := hS6.size; omega) _).more (by have := hS6.size; omega)) (((hD.below ((hB.trans (hS6.mono (by omega))).mono hB0)).alloc (by have := hS6.size; omega) _).more (by have := hS6.size; omega))) (by simp) (by have := HEL.out; omega) (by have := HEL.out; omega)).mono ?_
    rintro e w8 ⟨v8, rfl, m8⟩
    have x8 := m8.below
    have hS7 := hS
    show K _ _
    refine hK.out _ _ (below_step hS x8) (fun hS => ?_)
    clear hK K
    try go_frame
    refine held_pure (i := 9) (oi := ⟨some 6, _, _, _, _, _⟩) rfl (by kernel_rfl) (by kernel_rfl) (by kernel_rfl) (fun _ _ _ h => h) (by rfl) (v := ?_) (fun w hSw => ?_) hS (fun hS => ?_)
    rotate_left
    · go_simp; try with_reducible rfl
    try go_frame
    refine held_pure (i := 10) (oi := ⟨some 7, _, _, _, _, _⟩) rfl (by kernel_rfl) (by kernel_rfl) (by kernel_rfl) (fun _ _ _ h => h) (by rfl) (v := ?_) (fun w hSw => ?_) hS (fun hS => ?_)
    rotate_left
    · go_simp; try with_reducible rfl
    try go_frame
    refine wpAnyH_done (by kernel_rfl) ?_ _
    go_wp2_with fail
    go_ret2
    exact ⟨v8, by rw [HC.out]; rfl, fun h => absurd HC.out h, fun _ => m8.after (hB.trans (hS7.mono (by omega)))⟩
  · have hne : (chkT q != 0) = true := by simpa using hc
    have HN := Lib.hid hc
    clear hc
    go_wp2_with (first
      | ((with_reducible show wpList _ _ _ (Oper.mk _ (Op.load 41 _) _ _ _ _ :: _) _ _); refine wpList_val rfl (run_load_ts rfl rfl hAt rfl) ?_)
      | (go_at_call 80; refine (cTcheck q A c A' c' _ hl ho0).mono ?_; rintro e w1 ⟨rfl, x1⟩; skip))
    go_ret2
    exact ⟨.slice none 0 0, rfl, fun _ => ⟨rfl, hB.trans (x1.mono (by omega))⟩, fun h => absurd h HN.out⟩
set_option maxRecDepth 100000 in
set_option maxHeartbeats 2000000 in
theorem rTbytes (B : Nat) (s : Int) (bs : List UInt8) (hbs : Hid (bs = hdT q s ++ q.opt ++ q.dat)) (ha : argT q) (hd : q.dat.length ≤ 1000000) (s0 : 0 ≤ s) (s1 : s ≤ 65535) (hO : Arg w B A c q.opt) (hD : Arg w B A' c' q.dat) (hB0 : B ≤ w.heap.size) :
    Calls Tryz.prog 86 #[tsv q A c A' c', .int .i64 s] w fun e w' => ∃ v, e = .returned v ∧ Made w w' v bs := by
  have hB : Below w.heap.size w (w.alloc (.cells (tsa q A c A' c') 41)) := (Below.refl w.heap.size w).alloc (Nat.le_refl _) _
  have hAt := Atts.new (q := q) (A := A) (c := c) (A' := A') (c' := c') w
  have hz : w.heap.size < (w.alloc (.cells (tsa q A c A' c') 41)).heap.size := by simp
  rw [tsv_eq]
  have hln := lineT_bd ha
  obtain ⟨a1, a2, a3, a4, a5, a6, a7, a8, a9, a10, a11, a12, a13, a14, a15, a16, a17, a18⟩ := ha
  obtain ⟨L1, h1⟩ : ∃ l, l = be2 q.src := ⟨_, rfl⟩
  obtain ⟨L2, h2⟩ : ∃ l, l = L1 ++ be2 q.dst := ⟨_, rfl⟩
  obtain ⟨L3, h3⟩ : ∃ l, l = L2 ++ be4 q.seq := ⟨_, rfl⟩
  obtain ⟨L4, h4⟩ : ∃ l, l = L3 ++ be4 q.ack := ⟨_, rfl⟩
  obtain ⟨L5, h5⟩ : ∃ l, l = L4 ++ [u8 (lineT q), u8 q.flags] := ⟨_, rfl⟩
  obtain ⟨L6, h6⟩ : ∃ l, l = L5 ++ be2 q.win := ⟨_, rfl⟩
  obtain ⟨L7, h7⟩ : ∃ l, l = L6 ++ be2 s := ⟨_, rfl⟩
  obtain ⟨L8, h8⟩ : ∃ l, l = L7 ++ be2 q.urg := ⟨_, rfl⟩
  obtain ⟨L9, h9⟩ : ∃ l, l = L8 ++ q.opt := ⟨_, rfl⟩
  have H1 := Lib.hid (show putB [] q.src 2 = L1 by rw [put_two a1 a2, h1]; rfl)
  have H2 := Lib.hid (show putB L1 q.dst 2 = L2 by rw [put_two a3 a4, h2])
  have H3 := Lib.hid (show putB L2 q.seq 4 = L3 by rw [put_four a9 a10, h3])
  have H4 := Lib.hid (show putB L3 q.ack 4 = L4 by rw [put_four a11 a12, h4])
  have H5 := Lib.hid h5
  have H6 := Lib.hid (show putB L5 q.win 2 = L6 by rw [put_two a5 a6, h6])
  have H7 := Lib.hid (show putB L6 s 2 = L7 by rw [put_two s0 s1, h7])
  have H8 := Lib.hid (show putB L7 q.urg 2 = L8 by rw [put_two a7 a8, h8])
  have H9 := Lib.hid h9
  have H10 := Lib.hid (show bs = L9 ++ q.dat by rw [hbs.out, h9, h8, h7, h6, h5, h4, h3, h2, h1]; simp [hdT, hda8, List.append_assoc])
  have l1 : L1.length ≤ 2 := by rw [h1]; simp [be2]
  have l2 : L2.length ≤ 4 := by rw [h2, List.length_append]; simp [be2]; omega
  have l3 : L3.length ≤ 8 := by rw [h3, List.length_append]; simp [be4]; omega
  have l4 : L4.length ≤ 12 := by rw [h4, List.length_append]; simp [be4]; omega
  have l5 : L5.length ≤ 14 := by rw [h5, List.length_append]; simp; omega
  have l6 : L6.length ≤ 16 := by rw [h6, List.length_append]; simp [be2]; omega
  have l7 : L7.length ≤ 18 := by rw [h7, List.length_append]; simp [be2]; omega
  have l8 : L8.length ≤ 20 := by rw [h8, List.length_append]; simp [be2]; omega
  have l9 : L9.length ≤ 60 := by rw [h9, List.length_append]; omega
  have HLN := Lib.hid (show lineT q = (20 + (q.opt.length : Int)) / 4 * 16 + q.res from rfl)
  have hq0 : 0 ≤ (20 + (q.opt.length : Int)) / 4 ∧ (20 + (q.opt.length : Int)) / 4 ≤ 15 := by omega
  clear h1 h2 h3 h4 h5 h6 h7 h8 h9 hbs
  go_enter Tryz.func86, Tryz.ntmps86
  go_wp2_with fail
  generalize w.alloc (.cells (tsa q A c A' c') 41) = W at *
  refine wp_region_held_drew (S := fun w' => Below W.heap.size W w') (by kernel_rfl) (Below.refl _ W).drew (fun hS => ?_)
  refine held_pure (i := 0) (oi := ⟨some 6, _, _, _, _, _⟩) rfl (by kernel_rfl) (by kernel_rfl) (by kernel_rfl) (fun _ _ _ h => h) (by rfl) (v := ?_) (fun w hSw => ?_) hS (fun hS => ?_)
  rotate_left
  · go_simp; try with_reducible rfl
  try go_frame
  refine held_pure (i := 1) (oi := ⟨some 7, _, _, _, _, _⟩) rfl (by kernel_rfl) (by kernel_rfl) (by kernel_rfl) (fun _ _ _ h => h) (by rfl) (fun w hSw => run_load_int rfl rfl ((hAt.below hSw (by omega)).src)) hS (fun hS => ?_)
  try go_frame
  refine held_pure (i := 3) (oi := ⟨some 9, _, _, _, _, _⟩) rfl (by kernel_rfl) (by kernel_rfl) (by kernel_rfl) (fun _ _ _ h => h) (by rfl) (v := ?_) (fun w hSw => ?_) hS (fun hS => ?_)
  rotate_left
  · go_simp; try with_reducible rfl
  try go_frame
  refine held_pure (i := 4) (oi := ⟨some 10, _, _, _, _, _⟩) rfl (by kernel_rfl) (by kernel_rfl) (by kernel_rfl) (fun _ _ _ h => h) (by rfl) (fun w hSw => run_load_int rfl rfl ((hAt.below hSw (by omega)).dst)) hS (fun hS => ?_)
  try go_frame
  refine wpAnyH_ready (rs := [2]) (by kernel_rfl) (by simp) (AllReadyH.cons (o := ⟨some 8, _, _, _, _, _⟩) rfl (fun K hK => ?_) AllReadyH.nil)
  rw [if_pos (by rfl)]
  go_simp
  refine (rput_nil q.src 2 _).mono ?_
  rintro e w1 ⟨v1, rfl, m1⟩
  rw [H1.out] at m1
  obtain ⟨A1, c1, rfl, g1, o1, x1⟩ := made_shape m1
  show K _ _
  refine hK.out _ _ (below_step hS x1) (fun hS => ?_)
  clear hK K
  try go_frame
  refine wpAnyH_ready (rs := [5]) (by kernel_rfl) (by simp) (AllReadyH.cons (o := ⟨some 11, _, _, _, _, _⟩) rfl (fun K hK => ?_) AllReadyH.nil)
  rw [if_pos (by rfl)]
  go_simp
  refine (rput_any A1 L1 c1 _ q.dst 2 _ g1 (by omega)).mono ?_
  rintro e w2 ⟨v2, rfl, m2⟩
  rw [H2.out] at m2
  obtain ⟨A2, c2, rfl, g2, o2, x2⟩ := made_shape m2
  have hS2 := hS
  show K _ _
  refine hK.out _ _ (below_step hS x2) (fun hS => ?_)
  clear hK K
  try go_frame
  refine held_pure (i := 6) (oi := ⟨some 5, _, _, _, _, _⟩) rfl (by kernel_rfl) (by kernel_rfl) (by kernel_rfl) (fun _ _ _ h => h) (by rfl) (v := ?_) (fun w hSw => ?_) hS (fun hS => ?_)
  rotate_left
  · go_simp; try with_reducible rfl
  try go_frame
  refine wpAnyH_done (by kernel_rfl) ?_ _
  go_upto_region 2 with fail
  refine wp_region_held_drew (S := fun w' => Below W.heap.size W w') (by kernel_rfl) hS.drew (fun hS => ?_)
  refine held_pure (i := 0) (oi := ⟨some 12, _, _, _, _, _⟩) rfl (by kernel_rfl) (by kernel_rfl) (by kernel_rfl) (fun _ _ _ h => h) (by rfl) (v := ?_) (fun w hSw => ?_) hS (fun hS => ?_)
  rotate_left
  · go_simp; try with_reducible rfl
  try go_frame
  refine held_pure (i := 1) (oi := ⟨some 13, _, _, _, _, _⟩) rfl (by kernel_rfl) (by kernel_rfl) (by kernel_rfl) (fun _ _ _ h => h) (by rfl) (v := ?_) (fun w hSw => ?_) hS (fun hS => ?_)
  rotate_left
  · go_simp; try with_reducible rfl
  try go_frame
  refine held_pure (i := 2) (oi := ⟨some 14, _, _, _, _, _⟩) rfl (by kernel_rfl) (by kernel_rfl) (by kernel_rfl) (fun _ _ _ h => h) (by rfl) (fun w hSw => run_load_int rfl rfl ((hAt.below hSw (by omega)).seq)) hS (fun hS => ?_)
  try go_frame
  refine held_pure (i := 4) (oi := ⟨some 16, _, _, _, _, _⟩) rfl (by kernel_rfl) (by kernel_rfl) (by kernel_rfl) (fun _ _ _ h => h) (by rfl) (v := ?_) (fun w hSw => ?_) hS (fun hS => ?_)
  rotate_left
  · go_simp; try with_reducible rfl
  try go_frame
  refine held_pure (i := 5) (oi := ⟨some 17, _, _, _, _, _⟩) rfl (by kernel_rfl) (by kernel_rfl) (by kernel_rfl) (fun _ _ _ h => h) (by rfl) (fun w hSw => run_load_int rfl rfl ((hAt.below hSw (by omega)).ack)) hS (fun hS => ?_)
  try go_frame
  refine wpAnyH_ready (rs := [3]) (by kernel_rfl) (by simp) (AllReadyH.cons (o := ⟨some 15, _, _, _, _, _⟩) rfl (fun K hK => ?_) AllReadyH.nil)
  rw [if_pos (by rfl)]
  go_simp
  refine (rput_any A2 L2 c2 _ q.seq 4 _ (g2.drewN 1) (by omega)).mono ?_
  rintro e w3 ⟨v3, rfl, m3⟩
  rw [H3.out] at m3
  obtain ⟨A3, c3, rfl, g3, o3, x3⟩ := made_shape m3
  have hS3 := hS
  show K _ _
  refine hK.out _ _ (below_step hS x3) (fun hS => ?_)
  clear hK K
  try go_frame
  refine wpAnyH_ready (rs := [6]) (by kernel_rfl) (by simp) (AllReadyH.cons (o := ⟨some 18, _, _, _, _, _⟩) rfl (fun K hK => ?_) AllReadyH.nil)
  rw [if_pos (by rfl)]
  go_simp
  refine (rput_any A3 L3 c3 _ q.ack 4 _ g3 (by omega)).mono ?_
  rintro e w4 ⟨v4, rfl, m4⟩
  rw [H4.out] at m4
  obtain ⟨A4, c4, rfl, g4, o4, x4⟩ := made_shape m4
  have hS4 := hS
  show K _ _
  refine hK.out _ _ (below_step hS x4) (fun hS => ?_)
  clear hK K
  try go_frame
  refine held_pure (i := 7) (oi := ⟨some 5, _, _, _, _, _⟩) rfl (by kernel_rfl) (by kernel_rfl) (by kernel_rfl) (fun _ _ _ h => h) (by rfl) (v := ?_) (fun w hSw => ?_) hS (fun hS => ?_)
  rotate_left
  · go_simp; try with_reducible rfl
  try go_frame
  refine wpAnyH_done (by kernel_rfl) ?_ _
  have hS34 := hS
  have k8 := (hAt.below hS (by omega)).opt; have k4 := (hAt.below hS (by omega)).res; have k5 := (hAt.below hS (by omega)).flags
  have zS := hS.size
  go_upto_region 4 with (at_builtin; go_loud (refine append_rd rfl _ _ rfl w3.heap.size _ _ _ rfl (o4.alloc _) (w4.heap.size + 1) (some ⟨w4.heap.size, 0, none⟩) 2 [u8 (lineT q), u8 q.flags] rfl (fun e => by cases e) (Rd.pair _ (by rw [u8_val, HLN.out]; omega) (by rw [u8_val]; omega)) (by simp; omega) (by have := x4.size; simp; omega) ?_; intro v5 w5 own5 grow5; obtain ⟨A5, c5, rfl, owm5⟩ := own_made (bs := L5) own5 (by rw [H5.out]; simp) (by rw [H5.out, row_append])))
  have x5 : Below W.heap.size W w5 := (hS34.alloc hS34.size _).grown grow5 (by simp; omega) (fun k hk => by have := own_block_ge o4 k hk; have := hS4.size; have := x3.size; have := hS3.size; omega)
  refine wp_region_held_drew (S := fun w' => Below W.heap.size W w') (by kernel_rfl) x5.drew (fun hS => ?_)
  refine held_pure (i := 0) (oi := ⟨some 35, _, _, _, _, _⟩) rfl (by kernel_rfl) (by kernel_rfl) (by kernel_rfl) (fun _ _ _ h => h) (by rfl) (v := ?_) (fun w hSw => ?_) hS (fun hS => ?_)
  rotate_left
  · go_simp; try with_reducible rfl
  try go_frame
  refine held_pure (i := 1) (oi := ⟨some 36, _, _, _, _, _⟩) rfl (by kernel_rfl) (by kernel_rfl) (by kernel_rfl) (fun _ _ _ h => h) (by rfl) (v := ?_) (fun w hSw => ?_) hS (fun hS => ?_)
  rotate_left
  · go_simp; try with_reducible rfl
  try go_frame
  refine held_pure (i := 2) (oi := ⟨some 37, _, _, _, _, _⟩) rfl (by kernel_rfl) (by kernel_rfl) (by kernel_rfl) (fun _ _ _ h => h) (by rfl) (fun w hSw => run_load_int rfl rfl ((hAt.below hSw (by omega)).win)) hS (fun hS => ?_)
  try go_frame
  refine held_pure (i := 4) (oi := ⟨some 39, _, _, _, _, _⟩) rfl (by kernel_rfl) (by kernel_rfl) (by kernel_rfl) (fun _ _ _ h => h) (by rfl) (v := ?_) (fun w hSw => ?_) hS (fun hS => ?_)
  rotate_left
  · go_simp; try with_reducible rfl
  try go_frame
  refine held_pure (i := 6) (oi := ⟨some 41, _, _, _, _, _⟩) rfl (by kernel_rfl) (by kernel_rfl) (by kernel_rfl) (fun _ _ _ h => h) (by rfl) (v := ?_) (fun w hSw => ?_) hS (fun hS => ?_)
  rotate_left
  · go_simp; try with_reducible rfl
  try go_frame
  refine held_pure (i := 7) (oi := ⟨some 42, _, _, _, _, _⟩) rfl (by kernel_rfl) (by kernel_rfl) (by kernel_rfl) (fun _ _ _ h => h) (by rfl) (fun w hSw => run_load_int rfl rfl ((hAt.below hSw (by omega)).urg)) hS (fun hS => ?_)
  try go_frame
  refine wpAnyH_ready (rs := [3]) (by kernel_rfl) (by simp) (AllReadyH.cons (o := ⟨some 38, _, _, _, _, _⟩) rfl (fun K hK => ?_) AllReadyH.nil)
  rw [if_pos (by rfl)]
  go_simp
  refine (rput_any A5 L5 c5 _ q.win 2 _ ((arg_own owm5).drewN 1) (by omega)).mono ?_
  rintro e w6 ⟨v6, rfl, m6⟩
  rw [H6.out] at m6
  obtain ⟨A6, c6, rfl, g6, o6, x6⟩ := made_shape m6
  have hS6 := hS
  show K _ _
  refine hK.out _ _ (below_step hS x6) (fun hS => ?_)
  clear hK K
  try go_frame
  refine wpAnyH_ready (rs := [5]) (by kernel_rfl) (by simp) (AllReadyH.cons (o := ⟨some 40, _, _, _, _, _⟩) rfl (fun K hK => ?_) AllReadyH.nil)
  rw [if_pos (by rfl)]
  go_simp
  refine (rput_any A6 L6 c6 _ s 2 _ g6 (by omega)).mono ?_
  rintro e w7 ⟨v7, rfl, m7⟩
  rw [H7.out] at m7
  obtain ⟨A7, c7, rfl, g7, o7, x7⟩ := made_shape m7
  have hS7 := hS
  show K _ _
  refine hK.out _ _ (below_step hS x7) (fun hS => ?_)
  clear hK K
  try go_frame
  refine wpAnyH_ready (rs := [8]) (by kernel_rfl) (by simp) (AllReadyH.cons (o := ⟨some 43, _, _, _, _, _⟩) rfl (fun K hK => ?_) AllReadyH.nil)
  rw [if_pos (by rfl)]
  go_simp
  refine (rput_any A7 L7 c7 _ q.urg 2 _ g7 (by omega)).mono ?_
  rintro e w8 ⟨v8, rfl, m8⟩
  rw [H8.out] at m8
  obtain ⟨A8, c8, rfl, g8, o8, x8⟩ := made_shape m8
  have hS8 := hS
  show K _ _
  refine hK.out _ _ (below_step hS x8) (fun hS => ?_)
  clear hK K
  try go_frame
  refine held_pure (i := 9) (oi := ⟨some 5, _, _, _, _, _⟩) rfl (by kernel_rfl) (by kernel_rfl) (by kernel_rfl) (fun _ _ _ h => h) (by rfl) (v := ?_) (fun w hSw => ?_) hS (fun hS => ?_)
  rotate_left
  · go_simp; try with_reducible rfl
  try go_frame
  refine wpAnyH_done (by kernel_rfl) ?_ _
  have z78 := x8.size
  have z7 := hS8.size
  have z56 := hS.size
  go_upto_region 5 with fail
  refine wp_region_held_drew (S := fun w' => Below W.heap.size W w') (by kernel_rfl) hS.drew (fun hS => ?_)
  refine held_pure (i := 0) (oi := ⟨some 44, _, _, _, _, _⟩) rfl (by kernel_rfl) (by kernel_rfl) (by kernel_rfl) (fun _ _ _ h => h) (by rfl) (v := ?_) (fun w hSw => ?_) hS (fun hS => ?_)
  rotate_left
  · go_simp; try with_reducible rfl
  try go_frame
  refine held_pure (i := 1) (oi := ⟨some 45, _, _, _, _, _⟩) rfl (by kernel_rfl) (by kernel_rfl) (by kernel_rfl) (fun _ _ _ h => h) (by rfl) (v := ?_) (fun w hSw => ?_) hS (fun hS => ?_)
  rotate_left
  · go_simp; try with_reducible rfl
  try go_frame
  refine held_pure (i := 2) (oi := ⟨some 46, _, _, _, _, _⟩) rfl (by kernel_rfl) (by kernel_rfl) (by kernel_rfl) (fun _ _ _ h => h) (by rfl) (fun w hSw => run_load_sl rfl rfl ((hAt.below hSw (by omega)).opt)) hS (fun hS => ?_)
  try go_frame
  refine held_pure (i := 4) (oi := ⟨some 48, _, _, _, _, _⟩) rfl (by kernel_rfl) (by kernel_rfl) (by kernel_rfl) (fun _ _ _ h => h) (by rfl) (v := ?_) (fun w hSw => ?_) hS (fun hS => ?_)
  rotate_left
  · go_simp; try with_reducible rfl
  try go_frame
  refine held_pure (i := 5) (oi := ⟨some 49, _, _, _, _, _⟩) rfl (by kernel_rfl) (by kernel_rfl) (by kernel_rfl) (fun _ _ _ h => h) (by rfl) (fun w hSw => run_load_sl rfl rfl ((hAt.below hSw (by omega)).dat)) hS (fun hS => ?_)
  try go_frame
  refine wpAnyH_ready (rs := [3]) (by kernel_rfl) (by simp) (AllReadyH.cons (o := ⟨some 47, _, _, _, _, _⟩) rfl (fun K hK => ?_) AllReadyH.nil)
  rw [if_pos (by rfl)]
  refine append_wp _ _ rfl w7.heap.size _ _ _ rfl (show w8.drew.ownsRow _ _ _ _ _ _ from o8) B A c q.opt rfl hO.none_ ((hO.below ((hB.trans (hS.mono (by omega))).mono hB0)).rd) (by omega) (by have := z78; show w7.heap.size ≤ w8.heap.size; omega) ?_
  intro v9 w9 own9 grow9
  obtain ⟨A9, c9, rfl, owm9⟩ := own_made (bs := L9) own9 (by rw [H9.out]; simp) (by rw [H9.out, row_append])
  have hS9 := hS
  refine hK.out _ _ (hS.grown grow9 hS.size (fun k hk => by have := own_block_ge o8 k hk; omega)) (fun hS => ?_)
  clear hK K
  try go_frame
  refine wpAnyH_ready (rs := [6]) (by kernel_rfl) (by simp) (AllReadyH.cons (o := ⟨some 50, _, _, _, _, _⟩) rfl (fun K hK => ?_) AllReadyH.nil)
  rw [if_pos (by rfl)]
  refine append_wp _ _ rfl w7.heap.size _ _ _ rfl owm9 B A' c' q.dat rfl hD.none_ ((hD.below ((hB.trans (hS.mono (by omega))).mono hB0)).rd) (by omega) (by have := z78; have : w8.heap.size ≤ w9.heap.size := grow9.size; omega) ?_
  intro v10 w10 own10 grow10
  obtain ⟨A10, c10, rfl, owm10⟩ := own_made (bs := bs) own10 (by rw [H10.out]; simp) (by rw [H10.out, row_append])
  have hS10 := hS
  refine hK.out _ _ (hS.grown grow10 hS.size (fun k hk => by have := own_block_ge owm9 k hk; omega)) (fun hS => ?_)
  clear hK K
  try go_frame
  refine held_pure (i := 7) (oi := ⟨some 4, _, _, _, _, _⟩) rfl (by kernel_rfl) (by kernel_rfl) (by kernel_rfl) (fun _ _ _ h => h) (by rfl) (v := ?_) (fun w hSw => ?_) hS (fun hS => ?_)
  rotate_left
  · go_simp; try with_reducible rfl
  try go_frame
  refine wpAnyH_done (by kernel_rfl) ?_ _
  go_wp2_with fail
  go_ret
  exact ⟨_, rfl, Made.of_own (own_base owm10 (by omega)) (hB.trans (hS.mono (by omega)))⟩
set_option maxRecDepth 100000 in
set_option maxHeartbeats 2000000 in
theorem rTbuild (B : Nat) (hO : Arg w B A c q.opt) (hD : Arg w B A' c' q.dat) (hB0 : B ≤ w.heap.size) (ho0 : q.opt.length ≤ 1000000) (hl : q.dat.length ≤ 900000) :
    Calls Tryz.prog 49 #[.int .i64 src, .int .i64 dst, tsv q A c A' c'] w fun e w' => ∃ v, e = .returned (.tuple #[v, .int .i64 (chkT q)]) ∧ (chkT q ≠ 0 → v = .slice none 0 0 ∧ Below w.heap.size w w') ∧ (chkT q = 0 → Made w w' v (bldT src dst q)) := by
  have hB : Below w.heap.size w (w.alloc (.cells (tsa q A c A' c') 41)) := (Below.refl w.heap.size w).alloc (Nat.le_refl _) _
  have hAt := Atts.new (q := q) (A := A) (c := c) (A' := A') (c' := c') w
  have hz : w.heap.size < (w.alloc (.cells (tsa q A c A' c') 41)).heap.size := by simp
  rw [tsv_eq]
  go_enter Tryz.func49, Tryz.ntmps49
  go_upto_region 1 with fail
  generalize w.alloc (.cells (tsa q A c A' c') 41) = W at *
  by_cases hc : chkT q = 0
  · obtain ⟨ha, hz1⟩ := chkT_ok hc
    have ho40 : q.opt.length ≤ 40 := by obtain ⟨_, _, _, _, _, _, _, _, _, _, _, _, _, _, _, _, h, _⟩ := ha; exact h
    have HC := Lib.hid hc
    clear hc
    obtain ⟨B0, hb0⟩ : ∃ l, l = hdT q 0 ++ q.opt ++ q.dat := ⟨_, rfl⟩
    have HB0 := Lib.hid hb0
    have lB : Hid (B0.length = 20 + q.opt.length + q.dat.length) := Lib.hid (by rw [hb0, List.length_append, List.length_append, hdT_len])
    have HSM := Lib.hid (show smT src dst q = 65535 - fold (psum [psd src dst 6 (B0.length : Int), B0]) by
      rw [show (B0.length : Int) = sizeT q by rw [lB.out, sizeT]; omega, hb0]; exact (smT_two src dst q ha).symm)
    have HBL := Lib.hid (show bldT src dst q = hdT q (smT src dst q) ++ q.opt ++ q.dat from rfl)
    clear hb0 hz1
    have bd := smT_bd src dst q
    have hO1 : ∀ X : World, Below W.heap.size W X → Arg X B A c q.opt := fun X hX => hO.below ((hB.trans (hX.mono (by omega))).mono hB0)
    have hD1 : ∀ X : World, Below W.heap.size W X → Arg X B A' c' q.dat := fun X hX => hD.below ((hB.trans (hX.mono (by omega))).mono hB0)
    go_upto_region 4 with (first
      | ((with_reducible show wpList _ _ _ (Oper.mk _ (Op.load 41 _) _ _ _ _ :: _) _ _); refine wpList_val rfl (run_load_ts rfl rfl hAt rfl) ?_)
      | (go_at_call 85; refine (rTcheck q A c A' c' _ (by omega) ho0).mono ?_; rintro e w1 ⟨rfl, x1⟩; rw [HC.out]))
    have hAt1 := hAt.below x1 hz
    go_upto_region 5 with (first
      | ((with_reducible show wpList _ _ _ (Oper.mk _ (Op.load 41 _) _ _ _ _ :: _) _ _); refine wpList_val rfl (run_load_ts rfl rfl hAt1 rfl) ?_)
      | (go_at_call 86; refine (rTbytes q A c A' c' _ B 0 B0 HB0 ha (by omega) (by omega) (by omega) (hO1 _ x1) (hD1 _ x1) (by have := x1.size; omega)).mono ?_; rintro e w2 ⟨v2, rfl, m2⟩; obtain ⟨A2, c2, rfl, g2, o2, x2⟩ := made_shape m2))
    have x12 := x1.trans (x2.mono x1.size)
    have zW2 : w2.heap.size ≤ w2.heap.size := Nat.le_refl _
    have z12 := x12.size
    have hAt := hAt.below x12 hz
    refine wp_region_held_drew (S := fun w' => Below w2.heap.size w2 w') (by kernel_rfl) (Below.refl _ w2).drew (fun hS => ?_)
    refine held_pure (i := 0) (oi := ⟨some 17, _, _, _, _, _⟩) rfl (by kernel_rfl) (by kernel_rfl) (by kernel_rfl) (fun _ _ _ h => h) (by rfl) (fun w hSw => run_load_ts rfl rfl (hAt.below hSw (by omega)) rfl) hS (fun hS => ?_)
    try go_frame
    refine held_pure (i := 1) (oi := ⟨some 18, _, _, _, _, _⟩) rfl (by kernel_rfl) (by kernel_rfl) (by kernel_rfl) (fun _ _ _ h => h) (by rfl) (v := ?_) (fun w hSw => ?_) hS (fun hS => ?_)
    rotate_left
    · go_simp; try with_reducible rfl
    try go_frame
    refine held_pure (i := 2) (oi := ⟨some 19, _, _, _, _, _⟩) rfl (by kernel_rfl) (by kernel_rfl) (by kernel_rfl) (fun _ _ _ h => h) (by rfl) (v := ?_) (fun w hSw => ?_) hS (fun hS => ?_)
    rotate_left
    · go_simp; try with_reducible rfl
    try go_frame
    refine held_pure (i := 3) (oi := ⟨some 20, _, _, _, _, _⟩) rfl (by kernel_rfl) (by kernel_rfl) (by kernel_rfl) (fun _ _ _ h => h) (by rfl) (v := ?_) (fun w hSw => ?_) hS (fun hS => ?_)
    rotate_left
    · go_simp; try with_reducible rfl
    try go_frame
    refine held_pure (i := 4) (oi := ⟨some 21, _, _, _, _, _⟩) rfl (by kernel_rfl) (by kernel_rfl) (by kernel_rfl) (fun _ _ _ h => h) (by rfl) (v := ?_) (fun w hSw => ?_) hS (fun hS => ?_)
    rotate_left
    · go_simp; try with_reducible rfl
    try go_frame
    refine held_pure (i := 6) (oi := ⟨some 23, _, _, _, _, _⟩) rfl (by kernel_rfl) (by kernel_rfl) (by kernel_rfl) (fun _ _ _ h => h) (by rfl) (v := ?_) (fun w hSw => ?_) hS (fun hS => ?_)
    rotate_left
    · go_simp; try with_reducible rfl
    try go_frame
    refine wpAnyH_ready (rs := [5]) (by kernel_rfl) (by simp) (AllReadyH.cons (o := ⟨some 22, _, _, _, _, _⟩) rfl (fun K hK => ?_) AllReadyH.nil)
    rw [if_pos (by rfl)]
    go_simp
    refine (rpsd_any src dst 6 (B0.length : Int) _).mono ?_
    rintro e w3 ⟨v3, rfl, m3⟩
    obtain ⟨A3, c3, rfl, g3, o3, x3⟩ := made_shape m3
    have hS3 := below_step hS x3
    show K _ _
    refine hK.out _ _ (below_step hS x3) (fun hS => ?_)
    clear hK K
    try go_frame
    refine wpAnyH_ready (rs := [7]) (by kernel_rfl) (by simp) (AllReadyH.cons (o := ⟨some 24, _, _, _, _, _⟩) rfl (fun K hK => ?_) AllReadyH.nil)
    rw [if_pos (by rfl)]
    go_simp
    refine hK.out _ _ (hS.alloc hS.size _) (fun hS => ?_)
    clear hK K
    try go_frame
    refine wpAnyH_ready (rs := [8]) (by kernel_rfl) (by simp) (AllReadyH.cons (o := ⟨some 25, _, _, _, _, _⟩) rfl (fun K hK => ?_) AllReadyH.nil)
    rw [if_pos (by rfl)]
    go_simp
    refine (rof_two (some ⟨w3.heap.size, 0, none⟩) (psd src dst 6 (B0.length : Int)) B0 2 (w3.heap.size + 1) (smT src dst q) HSM _ (Rd2.two rfl rfl (World.alloc_heap_new w3 _) (Nat.lt_succ_self _) ((g3.alloc (Nat.le_refl _) _).more (Nat.le_succ _)) (((g2.below (hS3.mono zW2)).alloc (by have := hS3.size; omega) _).more (by have := hS3.size; omega))) (by rw [psd_len]; have := lB.out; omega)).mono ?_
    rintro e w4 ⟨rfl, n4, rfl⟩
    show K _ _
    refine hK.out _ _ (below_drewN hS _) (fun hS => ?_)
    clear hK K
    try go_frame
    refine wpAnyH_ready (rs := [9]) (by kernel_rfl) (by simp) (AllReadyH.cons (o := ⟨some 26, _, _, _, _, _⟩) rfl (fun K hK => ?_) AllReadyH.nil)
    rw [if_pos (by rfl)]
    go_simp
    refine (rTbytes q A c A' c' _ B (smT src dst q) (bldT src dst q) HBL ha (by omega) bd.1 bd.2 (hO1 _ (x12.trans (hS.mono x12.size))) (hD1 _ (x12.trans (hS.mono x12.size))) (by have := hS.size; omega)).mono ?_
    rintro e w9 ⟨v9, rfl, m9⟩
    have x9 := m9.below
    have hS8 := hS
    show K _ _
    refine hK.out _ _ (below_step hS x9) (fun hS => ?_)
    clear hK K
    try go_frame
    refine held_pure (i := 10) (oi := ⟨some 6, _, _, _, _, _⟩) rfl (by kernel_rfl) (by kernel_rfl) (by kernel_rfl) (fun _ _ _ h => h) (by rfl) (v := ?_) (fun w hSw => ?_) hS (fun hS => ?_)
    rotate_left
    · go_simp; try with_reducible rfl
    try go_frame
    refine held_pure (i := 11) (oi := ⟨some 7, _, _, _, _, _⟩) rfl (by kernel_rfl) (by kernel_rfl) (by kernel_rfl) (fun _ _ _ h => h) (by rfl) (v := ?_) (fun w hSw => ?_) hS (fun hS => ?_)
    rotate_left
    · go_simp; try with_reducible rfl
    try go_frame
    refine wpAnyH_done (by kernel_rfl) ?_ _
    go_wp2_with fail
    go_ret2
    exact ⟨v9, by rw [HC.out]; rfl, fun h => absurd HC.out h, fun _ => m9.after ((hB.trans (x12.mono (by omega))).trans (hS8.mono (by omega)))⟩
  · have hne : (chkT q != 0) = true := by simpa using hc
    have HN := Lib.hid hc
    clear hc
    go_wp2_with (first
      | ((with_reducible show wpList _ _ _ (Oper.mk _ (Op.load 41 _) _ _ _ _ :: _) _ _); refine wpList_val rfl (run_load_ts rfl rfl hAt rfl) ?_)
      | (go_at_call 85; refine (rTcheck q A c A' c' _ (by omega) ho0).mono ?_; rintro e w1 ⟨rfl, x1⟩; skip))
    go_ret2
    exact ⟨.slice none 0 0, rfl, fun _ => ⟨rfl, hB.trans (x1.mono (by omega))⟩, fun h => absurd h HN.out⟩
end
end Go.Proofs.YtodlfdnegcfhcaaGreat

/-
  Contracts of tcp's reader and readHead. Conditions are each theorem's own.
-/
namespace Go.Proofs.YtodlfdnegcfhcaaGreat
open Go.RowKit

theorem cTreader (A : Option Addr) (n c : Nat) (w : World) :
    Calls Tryz.prog 111 #[.slice A n c] w fun e w' => e = .returned (.func (.func 123) #[] #[.pointer (some ⟨w.heap.size, 0, none⟩), .pointer (some ⟨w.heap.size + 1, 0, none⟩)]) ∧ RdrS w' w.heap.size A n c 0 ∧ Below w.heap.size w w' ∧ w'.heap.size = w.heap.size + 2 := by
  have hst : RdrS ((w.alloc (.cells #[.slice A n c] 22)).alloc (.cells #[.int .i64 0] 3)) w.heap.size A n c 0 := by
    refine ⟨(Below.heap_alloc (w.alloc (.cells #[.slice A n c] 22)) _ w.heap.size (by simp)).trans (World.alloc_heap_new w _), ?_⟩
    have := World.alloc_heap_new (w.alloc (.cells #[.slice A n c] 22)) (.cells #[.int .i64 0] 3)
    rwa [World.size_alloc] at this
  have hbb : Below w.heap.size w ((w.alloc (.cells #[.slice A n c] 22)).alloc (.cells #[.int .i64 0] 3)) := ((Below.refl _ w).alloc (Nat.le_refl _) _).alloc (by simp) _
  have hmf : ∀ (fn : Fn) (first cap : Array Value) (w : World), (Instr.makeFunc fn first cap).run Tryz.prog w = .ok (.func fn first cap) w := fun _ _ _ _ => rfl
  go_enter Tryz.func111, Tryz.ntmps111
  go_wp2_with fail
  go_ret
  exact ⟨rfl, hst, hbb, by simp⟩
theorem cTnext (g : Nat) (A : Option Addr) (b : List UInt8) (c B : Nat) (k s : Int) (w : World) (hst : RdrS w g A b.length c k) (hR : Rd w B A b) (hl : b.length ≤ 1000000) (hc : b.length ≤ c) (hk : 0 ≤ k ∧ k ≤ 1000000) (hs : 0 ≤ s ∧ s ≤ 1000000) :
    Calls Tryz.prog 123 #[.int .i64 s, .pointer (some ⟨g, 0, none⟩), .pointer (some ⟨g + 1, 0, none⟩)] w fun e w' => e = .returned (.int .i64 (getV b k s)) ∧ RdrS w' g A b.length c (k + s) ∧ w.grownBy w' (some (g + 1)) := by
  obtain ⟨hst1, hst2⟩ := hst
  have k1 : w.cell? ⟨g, 0, none⟩ = some (.slice A b.length c) := by rw [cell_of_row w g 0 _ _ _ hst1]; rfl
  have k2 : w.cell? ⟨g + 1, 0, none⟩ = some (.int .i64 k) := by rw [cell_of_row w (g + 1) 0 _ _ _ hst2]; rfl
  have f2 := heap_frozen hst2 0
  have hw := IntWalk.i64_in (k + s) (by omega)
  go_enter Tryz.func123, Tryz.ntmps123
  go_wp2_with (go_at_call 74; refine (get_any A b c B k s _ hR (by omega) hc).mono ?_; rintro e w' ⟨rfl, rfl⟩)
  go_ret
  exact ⟨rfl, ⟨(heap_setCell_other w ⟨g + 1, 0, none⟩ g _ (by show g ≠ g + 1; omega)).trans hst1, heap_setCell_same w (g + 1) 0 _ _ (.int .i64 (k + s)) hst2⟩, grown_set (World.grownBy.refl w _) 0 _⟩
/-- What holds while a head is read: the reader at g, the segment that is filled in block U, the bytes, the block for the result. -/
structure TS (w V : World) (g U B : Nat) (A : Option Addr) (c : Nat) (b : List UInt8) (k : Int) (q : PT) : Prop where
  st : RdrS V g A b.length c k
  hU : V.heap[U]? = some (.cells (tsa q none 0 none 0) 41 (0, 0))
  rd : Rd V B A b
  res : V.heap[w.heap.size]? = some (.cells (tsa tsz none 0 none 0) 41 (0, 0))
  bel : Below w.heap.size w V
section
variable {w V V' : World} {g U B : Nat} {A : Option Addr} {c : Nat} {b : List UInt8} {k k' : Int} {q q' : PT} {i : Nat} {v : Value}
theorem TS.step (h : TS w V g U B A c b k q) (st : RdrS V' g A b.length c k') (y : V.grownBy V' (some (g + 1))) (hg : w.heap.size < g) (hU : g + 1 < U) (hB : B ≤ w.heap.size) : TS w V' g U B A c b k' q :=
  ⟨st, (y.block U (heap_lt h.hU) (by simp; omega)).trans h.hU, h.rd.grown y (by have := h.bel.size; omega) (fun k e => by cases e; omega),
    (y.block w.heap.size (heap_lt h.res) (by simp; omega)).trans h.res, h.bel.grown y h.bel.size (fun k e => by cases e; omega)⟩
theorem TS.set (h : TS w V g U B A c b k q) (hg : w.heap.size < g) (hU : g + 1 < U) (hB : B ≤ w.heap.size) (hv : (tsa q none 0 none 0).setIfInBounds i v = tsa q' none 0 none 0) : TS w (V.setCell ⟨U, i, none⟩ v) g U B A c b k q' :=
  ⟨⟨(heap_setCell_other V ⟨U, i, none⟩ g v (by show g ≠ U; omega)).trans h.st.1, (heap_setCell_other V ⟨U, i, none⟩ (g + 1) v (by show g + 1 ≠ U; omega)).trans h.st.2⟩,
    by have := heap_setCell_same V U i _ _ v h.hU; rwa [hv] at this,
    h.rd.keep fun p hp => World.cell?_of_block (heap_setCell_other V ⟨U, i, none⟩ p.block v (by show p.block ≠ U; omega)),
    (heap_setCell_other V ⟨U, i, none⟩ w.heap.size v (by show w.heap.size ≠ U; omega)).trans h.res,
    h.bel.setCell (p := ⟨U, i, none⟩) (by show w.heap.size ≤ U; omega) v⟩
theorem TS.cell (h : TS w V g U B A c b k q) (hv : (tsa q none 0 none 0)[i]? = some v) : V.cell? ⟨U, i, none⟩ = some v := by rw [cell_of_row V U i _ _ _ h.hU]; exact hv
theorem TS.frozen (h : TS w V g U B A c b k q) (i : Nat) : V.frozen? ⟨U, i, none⟩ = false := heap_frozen h.hU i
end
def headT (b : List UInt8) : PT := ⟨n2 b 0, n2 b 2, n4 b 4, n4 b 8, byt b 12 % 16, byt b 13, n2 b 14, n2 b 18, [], []⟩
set_option maxRecDepth 100000 in
set_option maxHeartbeats 4000000 in
theorem cTread (b : List UInt8) (A : Option Addr) (c B : Nat) (w : World) (hR : Arg w B A c b) (hB : B ≤ w.heap.size) (h20 : 20 ≤ b.length) (hl : b.length ≤ 1000000) :
    Calls Tryz.prog 77 #[.slice A b.length c] w fun e w' => e = .returned (.tuple #[tsv (headT b) none 0 none 0, .int .i64 (hlT b)]) ∧ Below w.heap.size w w' := by
  have hBW : Below w.heap.size w (w.alloc (.cells (tsa tsz none 0 none 0) 41)) := (Below.refl w.heap.size w).alloc (Nat.le_refl _) _
  have hg := World.alloc_heap_new w (.cells (tsa tsz none 0 none 0) 41)
  have hz : w.heap.size < (w.alloc (.cells (tsa tsz none 0 none 0) 41)).heap.size := by simp
  have hcap := hR.cap
  have G0 := Lib.hid (show getV b 0 2 = n2 b 0 from get_two (b := b) (i := 0) (by omega))
  have G2 := Lib.hid (show getV b 2 2 = n2 b 2 from get_two (b := b) (i := 2) (by omega))
  have G4 := Lib.hid (show getV b 4 4 = n4 b 4 from get_four (b := b) (i := 4) (by omega))
  have G8 := Lib.hid (show getV b 8 4 = n4 b 8 from get_four (b := b) (i := 8) (by omega))
  have G12 := Lib.hid (show getV b 12 1 = byt b 12 from get_one (b := b) (i := 12) (by omega))
  have G13 := Lib.hid (show getV b 13 1 = byt b 13 from get_one (b := b) (i := 13) (by omega))
  have G14 := Lib.hid (show getV b 14 2 = n2 b 14 from get_two (b := b) (i := 14) (by omega))
  have G16 := Lib.hid (show getV b 16 2 = n2 b 16 from get_two (b := b) (i := 16) (by omega))
  have G18 := Lib.hid (show getV b 18 2 = n2 b 18 from get_two (b := b) (i := 18) (by omega))
  have l0 := byt_lo b 12; have l1 := byt_hi b 12
  obtain ⟨X0, e0⟩ : ∃ n, n = n2 b 0 := ⟨_, rfl⟩
  obtain ⟨X2, e2⟩ : ∃ n, n = n2 b 2 := ⟨_, rfl⟩
  obtain ⟨X4, e4⟩ : ∃ n, n = n4 b 4 := ⟨_, rfl⟩
  obtain ⟨X8, e8⟩ : ∃ n, n = n4 b 8 := ⟨_, rfl⟩
  obtain ⟨X12, e12⟩ : ∃ n, n = byt b 12 := ⟨_, rfl⟩
  obtain ⟨X13, e13⟩ : ∃ n, n = byt b 13 := ⟨_, rfl⟩
  obtain ⟨X14, e14⟩ : ∃ n, n = n2 b 14 := ⟨_, rfl⟩
  obtain ⟨X18, e18⟩ : ∃ n, n = n2 b 18 := ⟨_, rfl⟩
  have HH := Lib.hid (show headT b = ⟨X0, X2, X4, X8, X12 % 16, X13, X14, X18, [], []⟩ by rw [e0, e2, e4, e8, e12, e13, e14, e18]; rfl)
  have HL := Lib.hid (show hlT b = X12 / 16 * 4 by rw [e12]; rfl)
  rw [← e0] at G0; rw [← e2] at G2; rw [← e4] at G4; rw [← e8] at G8; rw [← e12] at G12 l0 l1; rw [← e13] at G13; rw [← e14] at G14; rw [← e18] at G18
  clear e0 e2 e4 e8 e12 e13 e14 e18
  rw [HH.out, HL.out]
  go_enter Tryz.func77, Tryz.ntmps77
  go_upto_region 1 with fail
  rw [show #[.int .i64 0, .int .i64 0, .int .i64 0, .int .i64 0, .int .i64 0, .int .i64 0, .int .i64 0, .int .i64 0, .slice none 0 0, .slice none 0 0] = tsa tsz none 0 none 0 from rfl]
  generalize w.alloc (.cells (tsa tsz none 0 none 0) 41) = W at *
  have hR1 := hR.below (hBW.mono hB)
  go_upto_region 2 with (go_at_call 111; refine (cTreader A b.length c _).mono ?_; rintro e w1 ⟨rfl, st1, x1, z1'⟩; have z1 := Nat.le_of_eq z1'.symm; clear z1')
  obtain ⟨w1g, hw1g⟩ : ∃ g, g = W.heap.size := ⟨_, rfl⟩
  rw [← hw1g] at st1 z1 ⊢
  have hgw : w.heap.size < w1g := by omega
  have hR2 := (hR1.below (x1.mono (by omega))).rd
  have hres1 := (x1.block w.heap.size (by omega)).trans hg
  have hbel1 := hBW.trans (x1.mono (by omega))
  clear x1 hR1 hg hBW hz hw1g
  go_upto_region 3 with (first
    | (go_at_call 123; ((with_reducible refine (cTnext w1g A b c B 0 2 _ st1 hR2 hl hcap (by omega) (by omega)).mono ?_); rintro e w2 ⟨rfl, st2, y2⟩; rw [show getV b 0 2 = X0 from G0.out]; have hR3 := hR2.grown y2 (by omega) (fun k e => by cases e; omega); have st2 : RdrS w2 w1g A b.length c 2 := st2; have z2 := y2.size))
    | (go_at_call 123; ((with_reducible refine (cTnext w1g A b c B 2 2 _ st2 hR3 hl hcap (by omega) (by omega)).mono ?_); rintro e w3 ⟨rfl, st3, y3⟩; rw [show getV b 2 2 = X2 from G2.out]; have hR4 := hR3.grown y3 (by omega) (fun k e => by cases e; omega); have st3 : RdrS w3 w1g A b.length c 4 := st3; have z3 := y3.size))
    | (go_at_call 123; ((with_reducible refine (cTnext w1g A b c B 4 4 _ st3 hR4 hl hcap (by omega) (by omega)).mono ?_); rintro e w4 ⟨rfl, st4, y4⟩; rw [show getV b 4 4 = X4 from G4.out]; have hR5 := hR4.grown y4 (by omega) (fun k e => by cases e; omega); have st4 : RdrS w4 w1g A b.length c 8 := st4; have z4 := y4.size))
    | (go_at_call 123; ((with_reducible refine (cTnext w1g A b c B 8 4 _ st4 hR5 hl hcap (by omega) (by omega)).mono ?_); rintro e w5 ⟨rfl, st5, y5⟩; rw [show getV b 8 4 = X8 from G8.out]; have hR6 := hR5.grown y5 (by omega) (fun k e => by cases e; omega); have st5 : RdrS w5 w1g A b.length c 12 := st5; have z5 := y5.size))
    | ((with_reducible show wpList _ _ _ (Oper.mk _ (Op.store _ _ _) _ _ _ _ :: _) _ _); refine ts_store_new (cs := tsa ⟨X0, X2, X4, X8, 0, 0, 0, 0, [], []⟩ none 0 none 0) rfl rfl rfl rfl (ts_one _ _ _ _ _) ?_))
  have tsV : TS w (w5.alloc (.cells (tsa ⟨X0, X2, X4, X8, 0, 0, 0, 0, [], []⟩ none 0 none 0) 41)) w1g w5.heap.size B A c b 12 ⟨X0, X2, X4, X8, 0, 0, 0, 0, [], []⟩ := by
    refine ⟨st5.alloc _, World.alloc_heap_new w5 _, hR6.alloc (by omega) _, ?_, ?_⟩
    · exact (Below.heap_alloc w5 _ w.heap.size (by omega)).trans ((y5.block w.heap.size (by omega) (by simp; omega)).trans ((y4.block w.heap.size (by omega) (by simp; omega)).trans ((y3.block w.heap.size (by omega) (by simp; omega)).trans ((y2.block w.heap.size (by omega) (by simp; omega)).trans hres1))))
    · exact (((((hbel1.grown y2 (by omega) (fun k e => by cases e; omega)).grown y3 (by omega) (fun k e => by cases e; omega)).grown y4 (by omega) (fun k e => by cases e; omega)).grown y5 (by omega) (fun k e => by cases e; omega)).alloc (by omega) _)
  obtain ⟨U, hUU⟩ : ∃ U, U = w5.heap.size := ⟨_, rfl⟩
  rw [← hUU] at tsV
  generalize w5.alloc (.cells (tsa ⟨X0, X2, X4, X8, 0, 0, 0, 0, [], []⟩ none 0 none 0) 41) = V at *
  rw [← hUU]
  have hgU : w1g + 1 < U := by omega
  have hBw : B ≤ w.heap.size := hB
  clear hUU y2 y3 y4 y5 st1 st2 st3 st4 st5 hR2 hR3 hR4 hR5 hR6 z1 z2 z3 z4 z5 hres1 hbel1 hR hB
  go_upto_region 4 with (go_at_call 123; ((with_reducible refine (cTnext w1g A b c B 12 1 _ tsV.st tsV.rd hl hcap (by omega) (by omega)).mono ?_); rintro e w6 ⟨rfl, st6, y6⟩; rw [show getV b 12 1 = X12 from G12.out]; have ts6 := tsV.step (k' := 13) st6 y6 hgw hgU hBw))
  go_upto_region 5 with (first
    | (go_at_call 123; ((with_reducible refine (cTnext w1g A b c B 13 1 _ ts6.st ts6.rd hl hcap (by omega) (by omega)).mono ?_); rintro e w7 ⟨rfl, st7, y7⟩; rw [show getV b 13 1 = X13 from G13.out]; have ts7 := ts6.step (k' := 14) st7 y7 hgw hgU hBw); have c4 := ts7.cell (i := 4) (v := .int .i64 0) rfl; have f4 := ts7.frozen 4; have c5 := ts7.cell (i := 5) (v := .int .i64 0) rfl; have f5 := ts7.frozen 5))
  have ts7a := (ts7.set (i := 4) (v := .int .i64 (X12 % 16)) (q' := ⟨X0, X2, X4, X8, X12 % 16, 0, 0, 0, [], []⟩) hgw hgU hBw rfl).set (i := 5) (v := .int .i64 X13) (q' := ⟨X0, X2, X4, X8, X12 % 16, X13, 0, 0, [], []⟩) hgw hgU hBw rfl
  generalize (w7.setCell ⟨U, 4, none⟩ (.int .i64 (X12 % 16))).setCell ⟨U, 5, none⟩ (.int .i64 X13) = W7 at *
  clear ts6 ts7 y6 y7 st6 st7 c4 f4 c5 f5 tsV
  go_upto_region 6 with (first
    | (go_at_call 123; ((with_reducible refine (cTnext w1g A b c B 14 2 _ ts7a.st ts7a.rd hl hcap (by omega) (by omega)).mono ?_); rintro e w8 ⟨rfl, st8, y8⟩; rw [show getV b 14 2 = X14 from G14.out]; have ts8 := ts7a.step (k' := 16) st8 y8 hgw hgU hBw); have c6 := ts8.cell (i := 6) (v := .int .i64 0) rfl; have f6 := ts8.frozen 6))
  have ts8a := ts8.set (i := 6) (v := .int .i64 X14) (q' := ⟨X0, X2, X4, X8, X12 % 16, X13, X14, 0, [], []⟩) hgw hgU hBw rfl
  generalize w8.setCell ⟨U, 6, none⟩ (.int .i64 X14) = W8 at *
  clear ts7a ts8 y8 st8 c6 f6
  go_upto_region 7 with (go_at_call 123; ((with_reducible refine (cTnext w1g A b c B 16 2 _ ts8a.st ts8a.rd hl hcap (by omega) (by omega)).mono ?_); rintro e w9 ⟨rfl, st9, y9⟩; rw [show getV b 16 2 = (n2 b 16) from G16.out]; have ts9 := ts8a.step (k' := 18) st9 y9 hgw hgU hBw))
  go_upto_region 8 with (first
    | (go_at_call 123; ((with_reducible refine (cTnext w1g A b c B 18 2 _ ts9.st ts9.rd hl hcap (by omega) (by omega)).mono ?_); rintro e w10 ⟨rfl, st10, y10⟩; rw [show getV b 18 2 = X18 from G18.out]; have ts10 := ts9.step (k' := 20) st10 y10 hgw hgU hBw); have c7 := ts10.cell (i := 7) (v := .int .i64 0) rfl; have f7 := ts10.frozen 7))
  have tsX := ts10.set (i := 7) (v := .int .i64 X18) (q' := ⟨X0, X2, X4, X8, X12 % 16, X13, X14, X18, [], []⟩) hgw hgU hBw rfl
  generalize w10.setCell ⟨U, 7, none⟩ (.int .i64 X18) = WX at *
  have at9 := Atts.of_heap tsX.hU
  have hr9 := tsX.res
  have b9 := tsX.bel
  clear ts8a ts9 ts10 y9 y10 st9 st10 c7 f7 tsX
  go_wp2_with (first
    | ((with_reducible show wpList _ _ _ (Oper.mk _ (Op.load 41 _) _ _ _ _ :: _) _ _); refine wpList_val rfl (run_load_ts rfl rfl at9 rfl) ?_)
    | ((with_reducible show wpList _ _ _ (Oper.mk _ (Op.store 41 _ _) _ _ _ _ :: _) _ _); refine ts_store (g := w.heap.size) (cs := tsa ⟨X0, X2, X4, X8, X12 % 16, X13, X14, X18, [], []⟩ none 0 none 0) rfl rfl hr9 rfl rfl (ts_one _ _ _ _ _) ?_))
  exact bodyPost_ret (res2 rfl rfl (ts_load_run (setRow_heap _ _ _ _ _ _ hr9) rfl)) rfl ⟨rfl, below_row b9 (Nat.le_refl _)⟩
end Go.Proofs.YtodlfdnegcfhcaaGreat

/-
  Contract of tcp.Parse. Conditions are each theorem's own.
-/
namespace Go.Proofs.YtodlfdnegcfhcaaGreat
open Go.RowKit

section
variable {o : Oper} {a : Act} {w : World} {K : Act → World → Prop} {Q : Exit → Act → World → Prop} {x y : Operand} {p : Addr} {v0 : Value}
theorem store_sl_wp {A : Option Addr} {n c : Nat} (ho : o.op = .store 22 x y) (hx : a.eval x = .pointer (some p)) (hy : a.eval y = .slice A n c) (hc : w.cell? p = some v0) (hf : w.frozen? p = false) (h : K (a.put o.dst undef) (w.setCell p (.slice A n c))) : o.wp Tryz.prog a w K Q := by
  unfold Oper.wp execOp
  simp only [ho, hx, hy]
  go_simp
  exact h
end
section
variable (b : List UInt8) (A : Option Addr) (c : Nat) (src dst : Int) (w : World)
set_option maxRecDepth 100000 in
set_option maxHeartbeats 4000000 in
theorem cTparse (B : Nat) (hR : Arg w B A c b) (hB : B ≤ w.heap.size) (hl : b.length ≤ 1000000) :
    Calls Tryz.prog 47 #[.int .i64 src, .int .i64 dst, .slice A b.length c] w fun e w' => ∃ P p P' p', e = .returned (.tuple #[tsv (prsT src dst b) P p P' p', .int .i64 (badT src dst b)]) ∧ Made w w' (.slice P (prsT src dst b).opt.length p) (prsT src dst b).opt ∧ Made w w' (.slice P' (prsT src dst b).dat.length p') (prsT src dst b).dat := by
  have hBW : Below w.heap.size w (w.alloc (.cells (tsa tsz none 0 none 0) 41)) := (Below.refl w.heap.size w).alloc (Nat.le_refl _) _
  have hg := World.alloc_heap_new w (.cells (tsa tsz none 0 none 0) 41)
  have hz : w.heap.size < (w.alloc (.cells (tsa tsz none 0 none 0) 41)).heap.size := by simp
  have hcap := hR.cap
  go_enter Tryz.func47, Tryz.ntmps47
  go_upto_region 1 with fail
  rw [show #[.int .i64 0, .int .i64 0, .int .i64 0, .int .i64 0, .int .i64 0, .int .i64 0, .int .i64 0, .int .i64 0, .slice none 0 0, .slice none 0 0] = tsa tsz none 0 none 0 from rfl]
  generalize w.alloc (.cells (tsa tsz none 0 none 0) 41) = W at *
  have hR1 := hR.below (hBW.mono hB)
  by_cases h20 : b.length < 20
  · have d20 : decide ((b.length : Int) < 20) = true := by simp; omega
    have HE := Lib.hid (show badT src dst b = 3 by rw [badT, if_pos h20])
    have HV := Lib.hid (show prsT src dst b = tsz by rw [prsT, HE.out]; rfl)
    go_wp2_with (first | ((with_reducible show wpList _ _ _ (Oper.mk _ (Op.store 41 _ _) _ _ _ _ :: _) _ _); refine ts_store (g := w.heap.size) (cs := tsa tsz none 0 none 0) rfl rfl hg rfl rfl (ts_one _ _ _ _ _) ?_))
    exact bodyPost_ret (res2 rfl rfl (ts_load_run (setRow_heap _ _ _ _ _ _ hg) rfl)) rfl ⟨none, 0, none, 0, by rw [HV.out, HE.out]; rfl, by rw [HV.out]; exact Made.nil _ _ (below_row hBW (Nat.le_refl _)), by rw [HV.out]; exact Made.nil _ _ (below_row hBW (Nat.le_refl _))⟩
  · have d20 : decide ((b.length : Int) < 20) = false := by simp; omega
    obtain ⟨X0, e0⟩ : ∃ n, n = n2 b 0 := ⟨_, rfl⟩
    obtain ⟨X2, e2⟩ : ∃ n, n = n2 b 2 := ⟨_, rfl⟩
    obtain ⟨X4, e4⟩ : ∃ n, n = n4 b 4 := ⟨_, rfl⟩
    obtain ⟨X8, e8⟩ : ∃ n, n = n4 b 8 := ⟨_, rfl⟩
    obtain ⟨X12, e12⟩ : ∃ n, n = byt b 12 := ⟨_, rfl⟩
    obtain ⟨X13, e13⟩ : ∃ n, n = byt b 13 := ⟨_, rfl⟩
    obtain ⟨X14, e14⟩ : ∃ n, n = n2 b 14 := ⟨_, rfl⟩
    obtain ⟨X18, e18⟩ : ∃ n, n = n2 b 18 := ⟨_, rfl⟩
    have l0 : 0 ≤ X12 ∧ X12 ≤ 255 := by rw [e12]; exact ⟨byt_lo b 12, byt_hi b 12⟩
    have l13 : 0 ≤ X13 ∧ X13 ≤ 255 := by rw [e13]; exact ⟨byt_lo b 13, byt_hi b 13⟩
    have hlx : hlT b = X12 / 16 * 4 := by rw [e12]; rfl
    obtain ⟨H, hH⟩ : ∃ n : Nat, (n : Int) = hlT b := ⟨(hlT b).toNat, by omega⟩
    clear hlx
    have HH12 := Lib.hid (show (H : Int) = X12 / 16 * 4 by rw [hH, e12]; rfl)
    obtain ⟨O, hOd⟩ : ∃ l, l = (b.take H).drop 20 := ⟨_, rfl⟩
    obtain ⟨D, hDd⟩ : ∃ l, l = b.drop H := ⟨_, rfl⟩
    have HRW := Lib.hid (show rawT b = ⟨X0, X2, X4, X8, X12 % 16, X13, X14, X18, O, D⟩ by rw [rawT, ← hH, Int.toNat_natCast, ← hOd, ← hDd, e0, e2, e4, e8, e12, e13, e14, e18])
    have HH := Lib.hid hH.symm
    have hHb : H ≤ 60 := by have := HH12.out; omega
    have HHD := Lib.hid (show headT b = ⟨X0, X2, X4, X8, X12 % 16, X13, X14, X18, [], []⟩ by rw [e0, e2, e4, e8, e12, e13, e14, e18]; rfl)
    clear e0 e2 e4 e8 e12 e13 e14 e18 hH
    go_upto_region 4 with (first
      | (go_at_call 77; refine (cTread b A c B _ hR1 (by omega) (by omega) hl).mono ?_; rintro e w1 ⟨rfl, x1⟩; rw [HHD.out, HH.out])
      | ((with_reducible show wpList _ _ _ (Oper.mk _ (Op.store _ _ _) _ _ _ _ :: _) _ _); refine ts_store_new (cs := tsa ⟨X0, X2, X4, X8, X12 % 16, X13, X14, X18, [], []⟩ none 0 none 0) rfl rfl rfl rfl (ts_one _ _ _ _ _) ?_))
    have hU0 := World.alloc_heap_new w1 (.cells (tsa ⟨X0, X2, X4, X8, X12 % 16, X13, X14, X18, [], []⟩ none 0 none 0) 41)
    have ja : Below w1.heap.size w1 (w1.alloc (.cells (tsa ⟨X0, X2, X4, X8, X12 % 16, X13, X14, X18, [], []⟩ none 0 none 0) 41)) := (Below.refl _ w1).alloc (Nat.le_refl _) _
    have hbV := (hBW.trans (x1.mono (by omega))).trans (ja.mono (by have := x1.size; omega))
    have hrV := (ja.block w.heap.size (by have := x1.size; omega)).trans ((x1.block w.heap.size hz).trans hg)
    have hRV := hR.below (hbV.mono hB)
    have hUw : w.heap.size < w1.heap.size := by have := x1.size; omega
    generalize w1.alloc (.cells (tsa ⟨X0, X2, X4, X8, X12 % 16, X13, X14, X18, [], []⟩ none 0 none 0) 41) = V at *
    obtain ⟨U, hUU⟩ : ∃ U, U = w1.heap.size := ⟨_, rfl⟩
    rw [← hUU] at hU0 hUw ⊢
    have hUlt0 := heap_lt hU0
    clear x1 ja hUU hg hR1 hBW hz
    by_cases s1 : H < 20
    · have d1 : decide ((H : Int) < 20) = true := by simp; omega
      have HE := Lib.hid (show badT src dst b = 4 by rw [badT, if_neg h20, if_pos (by rw [HH.out]; omega)])
      have HV := Lib.hid (show prsT src dst b = tsz by rw [prsT, HE.out]; rfl)
      go_wp2_with (first | ((with_reducible show wpList _ _ _ (Oper.mk _ (Op.store 41 _ _) _ _ _ _ :: _) _ _); refine ts_store (g := w.heap.size) (cs := tsa tsz none 0 none 0) rfl rfl hrV rfl rfl (ts_one _ _ _ _ _) ?_))
      exact bodyPost_ret (res2 rfl rfl (ts_load_run (setRow_heap _ _ _ _ _ _ hrV) rfl)) rfl ⟨none, 0, none, 0, by rw [HV.out, HE.out]; rfl, by rw [HV.out]; exact Made.nil _ _ (below_row hbV (Nat.le_refl _)), by rw [HV.out]; exact Made.nil _ _ (below_row hbV (Nat.le_refl _))⟩
    · have d1 : decide ((H : Int) < 20) = false := by simp; omega
      by_cases s2 : b.length < H
      · have d2 : decide ((b.length : Int) < (H : Int)) = true := by simp; omega
        have HE := Lib.hid (show badT src dst b = 3 by rw [badT, if_neg h20, if_neg (by rw [HH.out]; omega), if_pos (by rw [HH.out]; omega)])
        have HV := Lib.hid (show prsT src dst b = tsz by rw [prsT, HE.out]; rfl)
        go_wp2_with (first | ((with_reducible show wpList _ _ _ (Oper.mk _ (Op.store 41 _ _) _ _ _ _ :: _) _ _); refine ts_store (g := w.heap.size) (cs := tsa tsz none 0 none 0) rfl rfl hrV rfl rfl (ts_one _ _ _ _ _) ?_))
        exact bodyPost_ret (res2 rfl rfl (ts_load_run (setRow_heap _ _ _ _ _ _ hrV) rfl)) rfl ⟨none, 0, none, 0, by rw [HV.out, HE.out]; rfl, by rw [HV.out]; exact Made.nil _ _ (below_row hbV (Nat.le_refl _)), by rw [HV.out]; exact Made.nil _ _ (below_row hbV (Nat.le_refl _))⟩
      · have d2 : decide ((b.length : Int) < (H : Int)) = false := by simp; omega
        by_cases s3 : 65535 < b.length
        · have d3 : decide (65535 < (b.length : Int)) = true := by simp; omega
          have HE := Lib.hid (show badT src dst b = 6 by rw [badT, if_neg h20, if_neg (by rw [HH.out]; omega), if_neg (by rw [HH.out]; omega), if_pos (by omega)])
          have HV := Lib.hid (show prsT src dst b = tsz by rw [prsT, HE.out]; rfl)
          go_wp2_with (first | ((with_reducible show wpList _ _ _ (Oper.mk _ (Op.store 41 _ _) _ _ _ _ :: _) _ _); refine ts_store (g := w.heap.size) (cs := tsa tsz none 0 none 0) rfl rfl hrV rfl rfl (ts_one _ _ _ _ _) ?_))
          exact bodyPost_ret (res2 rfl rfl (ts_load_run (setRow_heap _ _ _ _ _ _ hrV) rfl)) rfl ⟨none, 0, none, 0, by rw [HV.out, HE.out]; rfl, by rw [HV.out]; exact Made.nil _ _ (below_row hbV (Nat.le_refl _)), by rw [HV.out]; exact Made.nil _ _ (below_row hbV (Nat.le_refl _))⟩
        · have d3 : decide (65535 < (b.length : Int)) = false := by simp; omega
          have HOl := Lib.hid (show O.length = H - 20 by rw [hOd]; simp; omega)
          have HDl := Lib.hid (show D.length = b.length - H by rw [hDd]; simp)
          have hO : Arg w B (cutA A c 20) (c - 20) O := by rw [hOd]; exact hR.cut 20 H (by omega)
          have hD : Arg w B (cutA A c H) (c - H) D := by rw [hDd]; exact hR.cut_lo H
          obtain ⟨N, hN⟩ : ∃ n, n = rightB [psd src dst 6 (b.length : Int), b] := ⟨_, rfl⟩
          have HN := Lib.hid hN
          have HBD := Lib.hid (show badT src dst b = if N = false then 5 else 0 by rw [badT, if_neg h20, if_neg (by rw [HH.out]; omega), if_neg (by rw [HH.out]; omega), if_neg (by omega), ← hN])
          clear hN hOd hDd
          cases N
          · have HE := Lib.hid (show badT src dst b = 5 by rw [HBD.out]; rfl)
            have HV := Lib.hid (show prsT src dst b = tsz by rw [prsT, HE.out]; rfl)
            go_wp2_with (first | ((with_reducible show wpList _ _ _ (Oper.mk _ (Op.store 41 _ _) _ _ _ _ :: _) _ _); refine ts_store (g := w.heap.size) (cs := tsa tsz none 0 none 0) rfl rfl hrq rfl rfl (ts_one _ _ _ _ _) ?_) | (go_at_call 78; refine (psd_any src dst 6 (b.length : Int) _).mono ?_; rintro e wp ⟨vp, rfl, mp⟩; obtain ⟨Ap, cp, rfl, gp, op, xp⟩ := made_shape mp) | (go_at_call 41; refine (right_two (some ⟨wp.heap.size, 0, none⟩) (psd src dst 6 (b.length : Int)) b 2 (wp.heap.size + 1) _ HN _ (Rd2.two rfl rfl (World.alloc_heap_new wp _) (Nat.lt_succ_self _) ((gp.alloc (Nat.le_refl _) _).more (Nat.le_succ _)) (((hRV.below (xp.mono (by omega))).alloc (by have := xp.size; omega) _).more (by have := xp.size; omega))) (by simp) (by rw [psd_len]; omega)).mono ?_; rintro e wq ⟨rfl, xq⟩; have xpq : Below V.heap.size V wq := (xp.alloc xp.size _).trans (xq.mono (by have := xp.size; simp; omega)); have hrq := (xpq.block w.heap.size (by omega)).trans hrV))
            exact bodyPost_ret (res2 rfl rfl (ts_load_run (setRow_heap _ _ _ _ _ _ hrq) rfl)) rfl ⟨none, 0, none, 0, by rw [HV.out, HE.out]; rfl, by rw [HV.out]; exact Made.nil _ _ (below_row (hbV.trans (xpq.mono (by omega))) (Nat.le_refl _)), by rw [HV.out]; exact Made.nil _ _ (below_row (hbV.trans (xpq.mono (by omega))) (Nat.le_refl _))⟩
          · have HE := Lib.hid (show badT src dst b = 0 by rw [HBD.out]; rfl)
            have HV := Lib.hid (show prsT src dst b = ⟨X0, X2, X4, X8, X12 % 16, X13, X14, X18, O, D⟩ by rw [prsT, if_pos HE.out, HRW.out])
            go_upto_region 12 with (first | (go_at_call 78; refine (psd_any src dst 6 (b.length : Int) _).mono ?_; rintro e wp ⟨vp, rfl, mp⟩; obtain ⟨Ap, cp, rfl, gp, op, xp⟩ := made_shape mp) | (go_at_call 41; refine (right_two (some ⟨wp.heap.size, 0, none⟩) (psd src dst 6 (b.length : Int)) b 2 (wp.heap.size + 1) _ HN _ (Rd2.two rfl rfl (World.alloc_heap_new wp _) (Nat.lt_succ_self _) ((gp.alloc (Nat.le_refl _) _).more (Nat.le_succ _)) (((hRV.below (xp.mono (by omega))).alloc (by have := xp.size; omega) _).more (by have := xp.size; omega))) (by simp) (by rw [psd_len]; omega)).mono ?_; rintro e wq ⟨rfl, xq⟩; have xpq : Below V.heap.size V wq := (xp.alloc xp.size _).trans (xq.mono (by have := xp.size; simp; omega)); have hrq := (xpq.block w.heap.size (by omega)).trans hrV))
            have hUq0 := (xpq.block U hUlt0).trans hU0
            have hb1 := hbV.trans (xpq.mono (by omega))
            have hUlt := heap_lt hUq0
            have zq := xpq.size
            clear xp xq xpq gp op mp hRV hU0
            obtain ⟨WQ, hWQ⟩ : ∃ X : World, X = wq.drew := ⟨_, rfl⟩
            have hUq : WQ.heap[U]? = some (.cells (tsa ⟨X0, X2, X4, X8, X12 % 16, X13, X14, X18, [], []⟩ none 0 none 0) 41 (0, 0)) := by rw [hWQ]; exact hUq0
            have hr1 : WQ.heap[w.heap.size]? = some (.cells (tsa tsz none 0 none 0) 41 (0, 0)) := by rw [hWQ]; exact hrq
            have hb1 : Below w.heap.size w WQ := by rw [hWQ]; exact hb1.drew
            have hUS : U ≤ U := Nat.le_refl U
            have hUlt : U < WQ.heap.size := by rw [hWQ]; exact hUlt
            clear hUq0 hrq hrV hbV
            refine wp_region_held_drew (S := fun w' => Below U WQ w') (by kernel_rfl) (by rw [← hWQ]; exact Below.refl _ _) (fun hS => ?_)
            rw [← hWQ] at hS ⊢
            clear hWQ
            refine held_pure (i := 0) (oi := ⟨some 45, _, _, _, _, _⟩) rfl (by kernel_rfl) (by kernel_rfl) (by kernel_rfl) (fun _ _ _ h => h) (by rfl) (v := ?_) (fun w hSw => ?_) hS (fun hS => ?_)
            rotate_left
            · go_simp; try with_reducible rfl
            try go_frame
            refine held_pure (i := 1) (oi := ⟨some 46, _, _, _, _, _⟩) rfl (by kernel_rfl) (by kernel_rfl) (by kernel_rfl) (fun _ _ _ h => h) (by rfl) (v := ?_) (fun w hSw => ?_) hS (fun hS => ?_)
            rotate_left
            · go_simp; try with_reducible rfl
            try go_frame
            refine held_pure (i := 2) (oi := ⟨some 47, _, _, _, _, _⟩) rfl (by kernel_rfl) (by kernel_rfl) (by kernel_rfl) (fun _ _ _ h => h) (by rfl) (fun w hSw => run_cut_lh rfl rfl rfl rfl (l := 20) (h := (H : Int)) (by omega) (by omega) (by omega) (m := O.length) (by have := HOl.out; omega)) hS (fun hS => ?_)
            try go_frame
            refine held_pure (i := 4) (oi := ⟨some 49, _, _, _, _, _⟩) rfl (by kernel_rfl) (by kernel_rfl) (by kernel_rfl) (fun _ _ _ h => h) (by rfl) (v := ?_) (fun w hSw => ?_) hS (fun hS => ?_)
            rotate_left
            · go_simp; try with_reducible rfl
            try go_frame
            refine held_pure (i := 5) (oi := ⟨some 50, _, _, _, _, _⟩) rfl (by kernel_rfl) (by kernel_rfl) (by kernel_rfl) (fun _ _ _ h => h) (by rfl) (v := ?_) (fun w hSw => ?_) hS (fun hS => ?_)
            rotate_left
            · go_simp; try with_reducible rfl
            try go_frame
            refine held_pure (i := 6) (oi := ⟨some 51, _, _, _, _, _⟩) rfl (by kernel_rfl) (by kernel_rfl) (by kernel_rfl) (fun _ _ _ h => h) (by rfl) (fun w hSw => run_cut_l rfl rfl (l := H) rfl (by omega) (m := D.length) (by have := HDl.out; omega)) hS (fun hS => ?_)
            try go_frame
            refine wpAnyH_ready (rs := [3]) (by kernel_rfl) (by simp) (AllReadyH.cons (o := ⟨some 48, _, _, _, _, _⟩) rfl (fun K hK => ?_) AllReadyH.nil)
            rw [if_pos (by rfl)]
            go_simp
            refine (freshT_any (cutA A c 20) O (c - 20) B _ (hO.below ((hb1.trans (hS.mono (by omega))).mono hB)) (by have := HOl.out; omega)).mono ?_
            rintro e wx ⟨vx, rfl, mx⟩
            obtain ⟨P3, p3, rfl, g3, o3, x3⟩ := made_shape mx
            show K _ _
            refine hK.out _ _ (hS.trans (x3.mono (by omega))) (fun hS => ?_)
            clear hK K
            try go_frame
            refine held_pure (i := 8) (oi := ⟨some 53, _, _, _, _, _⟩) rfl (by kernel_rfl) (by kernel_rfl) (by kernel_rfl) (fun _ _ _ h => h) (by rfl) (v := ?_) (fun w hSw => ?_) hS (fun hS => ?_)
            rotate_left
            · go_simp; try with_reducible rfl
            try go_frame
            refine wpAnyH_ready (rs := [7]) (by kernel_rfl) (by simp) (AllReadyH.cons (o := ⟨some 52, _, _, _, _, _⟩) rfl (fun K hK => ?_) AllReadyH.nil)
            rw [if_pos (by rfl)]
            go_simp
            refine (freshT_any (cutA A c H) D (c - H) B _ (hD.below ((hb1.trans (hS.mono (by omega))).mono hB)) (by have := HDl.out; omega)).mono ?_
            rintro e wy ⟨vy, rfl, my⟩
            obtain ⟨P7, p7, rfl, g7, o7, x7⟩ := made_shape my
            have z3 : WQ.heap.size ≤ wx.heap.size := x3.size
            have hUy := (x7.block U (by omega)).trans ((x3.block U hUlt).trans hUq)
            show K _ _
            refine hK.out _ _ (hS.trans (x7.mono (by omega))) (fun hS => ?_)
            clear hK K
            try go_frame
            refine wpAnyH_ready (rs := [9]) (by kernel_rfl) (by simp) (AllReadyH.cons (o := ⟨none, _, _, _, _, _⟩) rfl (fun K hK => ?_) AllReadyH.nil)
            rw [if_pos (by rfl)]
            have k8 : wy.cell? ⟨U, 8, none⟩ = some (.slice none 0 0) := by { rw [cell_of_row _ _ _ _ _ _ hUy]; rfl }
            refine store_sl_wp rfl rfl rfl k8 (heap_frozen hUy 8) ?_
            have hU8 : (wy.setCell ⟨U, 8, none⟩ (.slice P3 O.length p3)).heap[U]? = some (.cells (tsa ⟨X0, X2, X4, X8, X12 % 16, X13, X14, X18, O, []⟩ P3 p3 none 0) 41 (0, 0)) := heap_setCell_same wy U 8 _ _ _ hUy
            refine hK.out _ _ (hS.setCell (p := ⟨U, 8, none⟩) hUS _) (fun hS => ?_)
            clear hK K k8
            try go_frame
            refine held_pure (i := 10) (oi := ⟨some 54, _, _, _, _, _⟩) rfl (by kernel_rfl) (by kernel_rfl) (by kernel_rfl) (fun _ _ _ h => h) (by rfl) (v := ?_) (fun w hSw => ?_) hS (fun hS => ?_)
            rotate_left
            · go_simp; try with_reducible rfl
            try go_frame
            refine wpAnyH_ready (rs := [11]) (by kernel_rfl) (by simp) (AllReadyH.cons (o := ⟨none, _, _, _, _, _⟩) rfl (fun K hK => ?_) AllReadyH.nil)
            rw [if_pos (by rfl)]
            have k9 : (wy.setCell ⟨U, 8, none⟩ (.slice P3 O.length p3)).cell? ⟨U, 9, none⟩ = some (.slice none 0 0) := by { rw [cell_of_row _ _ _ _ _ _ hU8]; rfl }
            refine store_sl_wp rfl rfl rfl k9 (heap_frozen hU8 9) ?_
            have hU9 : ((wy.setCell ⟨U, 8, none⟩ (.slice P3 O.length p3)).setCell ⟨U, 9, none⟩ (.slice P7 D.length p7)).heap[U]? = some (.cells (tsa ⟨X0, X2, X4, X8, X12 % 16, X13, X14, X18, O, D⟩ P3 p3 P7 p7) 41 (0, 0)) := heap_setCell_same _ U 9 _ _ _ hU8
            refine hK.out _ _ (hS.setCell (p := ⟨U, 9, none⟩) hUS _) (fun hS => ?_)
            clear hK K k9
            try go_frame
            refine wpAnyH_done (by kernel_rfl) ?_ _
            have hr9 := (hS.block w.heap.size (by omega)).trans hr1
            have o3' := own_setCell (own_setCell (own_below o3 x7) (p := ⟨U, 8, none⟩) (u := .slice P3 O.length p3) (by show U < WQ.heap.size; omega)) (p := ⟨U, 9, none⟩) (u := .slice P7 D.length p7) (by show U < WQ.heap.size; omega)
            have o7' := own_setCell (own_setCell o7 (p := ⟨U, 8, none⟩) (u := .slice P3 O.length p3) (by show U < wx.heap.size; omega)) (p := ⟨U, 9, none⟩) (u := .slice P7 D.length p7) (by show U < wx.heap.size; omega)
            have o3r := own_setRow o3' (g := w.heap.size) (cs := tsa ⟨X0, X2, X4, X8, X12 % 16, X13, X14, X18, O, D⟩ P3 p3 P7 p7) (by show w.heap.size < WQ.heap.size; omega)
            have o7r := own_setRow o7' (g := w.heap.size) (cs := tsa ⟨X0, X2, X4, X8, X12 % 16, X13, X14, X18, O, D⟩ P3 p3 P7 p7) (by show w.heap.size < wx.heap.size; omega)
            have b9 := hb1.trans (hS.mono (by omega))
            have at9 := Atts.of_heap hU9
            clear o3' o7' o3 o7 hU9 hU8
            go_wp2_with (first
              | ((with_reducible show wpList _ _ _ (Oper.mk _ (Op.load 41 _) _ _ _ _ :: _) _ _); refine wpList_val rfl (run_load_ts rfl rfl at9 rfl) ?_)
              | ((with_reducible show wpList _ _ _ (Oper.mk _ (Op.store 41 _ _) _ _ _ _ :: _) _ _); refine ts_store (g := w.heap.size) (cs := tsa ⟨X0, X2, X4, X8, X12 % 16, X13, X14, X18, O, D⟩ P3 p3 P7 p7) rfl rfl hr9 rfl rfl (ts_one _ _ _ _ _) ?_))
            exact bodyPost_ret (res2 rfl rfl (ts_load_run (setRow_heap _ _ _ _ _ _ hr9) rfl)) rfl ⟨P3, p3, P7, p7, by rw [HV.out, HE.out]; rfl, by rw [HV.out]; exact Made.of_own (own_base o3r (by show w.heap.size ≤ WQ.heap.size; omega)) (below_row b9 (Nat.le_refl _)), by rw [HV.out]; exact Made.of_own (own_base o7r (by omega)) (below_row b9 (Nat.le_refl _))⟩
end
end Go.Proofs.YtodlfdnegcfhcaaGreat
