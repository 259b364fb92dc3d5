/-
  Contracts and lemmas on which the proofs of this seat stand (several texts in one). Conditions are each theorem's own.
-/
import Derived.Test.YtpoigngpdcmipaaGreatMa3
import Derived.Test.YtpoigngpdcmipaaGreatMa7
import Derived.Test.YtpoigngpdcmipaaGreatMa2
namespace Go.Proofs.YtpoigngpdcmipaaGreat
open Go.RowKit
section
variable (b dat : List UInt8) (A : Option Addr) (c : Nat) (A' : Option Addr) (c' : Nat) (w : World)
set_option maxRecDepth 100000 in
set_option maxHeartbeats 4000000 in
theorem r5fieldsM (B : Nat) (hR0 : Arg w B A c b) (hD : Arg w B A' c' dat) (hB : B ≤ w.heap.size) (hl : 20 ≤ b.length) (hl2 : b.length ≤ 1000000) (hn : 20 ≤ hlen b ∧ hlen b ≤ (b.length : Int)) (hd : dat.length ≤ 1000000) :
    Calls Tryz.prog 65 #[.slice A b.length c, .slice A' dat.length c'] w fun e w' => ∃ P p P' p', e = .returned (v4v (fl4 b dat) P p P' p') ∧ Made w w' (.slice P (fl4 b dat).opt.length p) (fl4 b dat).opt ∧ Made w w' (.slice P' dat.length p') dat := by
  obtain ⟨b0, off, rfl, hbB, hcell⟩ := hR0.rd (by omega)
  have hbw : b0 < w.heap.size := by omega
  go_enter Tryz.func65, Tryz.ntmps65
  go_upto_region 1 with fail
  have hBl : Below w.heap.size w (w.alloc (.cells #[.int .i64 0, .int .i64 0, .int .i64 0, .int .i64 0, .int .i64 0, .int .i64 0, .int .i64 0, .bool false, .bool false, .slice none 0 0, .slice none 0 0] 46)) := (Below.refl w.heap.size w).alloc (Nat.le_refl _) _
  have hgr := World.alloc_heap_new w (.cells #[.int .i64 0, .int .i64 0, .int .i64 0, .int .i64 0, .int .i64 0, .int .i64 0, .int .i64 0, .bool false, .bool false, .slice none 0 0, .slice none 0 0] 46)
  have hz : (w.alloc (.cells #[.int .i64 0, .int .i64 0, .int .i64 0, .int .i64 0, .int .i64 0, .int .i64 0, .int .i64 0, .bool false, .bool false, .slice none 0 0, .slice none 0 0] 46)).heap.size = w.heap.size + 1 := by simp
  have hR := (hR0.below (hBl.mono hB)).rd
  generalize w.alloc (.cells #[.int .i64 0, .int .i64 0, .int .i64 0, .int .i64 0, .int .i64 0, .int .i64 0, .int .i64 0, .bool false, .bool false, .slice none 0 0, .slice none 0 0] 46) = W at *
  have kc : ∀ j, j < b.length → W.cell? ⟨b0, off + j, none⟩ = some (.int .u8 (byt b j)) := fun j hj => by rw [hBl.cell (show b0 < w.heap.size by omega)]; exact hcell j hj
  have k0 : W.cell? ⟨b0, off, none⟩ = some (.int .u8 (byt b 0)) := kc 0 (by omega)
  have q0 := byt_lo b 0; have q0' := byt_hi b 0
  have tm : Int.tmod (byt b 0) 16 = byt b 0 % 16 := Int.tmod_eq_emod_of_nonneg q0
  have HH := Lib.hid (show hlen b = byt b 0 % 16 * 4 from rfl)
  have HN := Lib.hid hn
  clear hn
  go_upto_region 2 with fail
  rw [← HH.out]
  have hn := HN.out
  clear k0 q0 q0' tm
  have G6 := Lib.hid (get_two (b := b) (i := 6) (by omega))
  obtain ⟨F, hF⟩ : ∃ n, n = n2 b 6 := ⟨_, rfl⟩
  have HF := Lib.hid hF
  have hFb := n2_bd b 6
  rw [← hF] at hFb
  clear hF
  go_upto_region 3 with (go_at_call 63; refine (r5num _ b _ _ 6 2 _ hR (by omega)).mono ?_; rintro e w' ⟨rfl, rfl⟩; rw [show getV b 6 2 = F from by rw [HF.out]; exact G6.out])
  have G4 := Lib.hid (get_two (b := b) (i := 4) (by omega))
  have G12 := Lib.hid (get_four (b := b) (i := 12) (by omega))
  have G16 := Lib.hid (get_four (b := b) (i := 16) (by omega))
  clear G6
  have E1 := Lib.hid (IntWalk.i64_in (byt b 1) (by have := byt_lo b 1; have := byt_hi b 1; omega))
  have E8 := Lib.hid (IntWalk.i64_in (byt b 8) (by have := byt_lo b 8; have := byt_hi b 8; omega))
  have E9 := Lib.hid (IntWalk.i64_in (byt b 9) (by have := byt_lo b 9; have := byt_hi b 9; omega))
  have EF := Lib.hid (show IntKind.i64.wrap (Int.tmod F 8192 * 8) = F % 8192 * 8 by rw [Int.tmod_eq_emod_of_nonneg hFb.1]; exact IntWalk.i64_in _ (by omega))
  go_cut [7] from 8 (fun s w' => s = .pointer (some ⟨W.heap.size, 0, none⟩) ∧ ∃ m, w' = (W.alloc (.cells #[.int .i64 (byt b 1), .int .i64 (n2 b 4), .int .i64 (F % 8192 * 8), .int .i64 (byt b 8), .int .i64 (byt b 9), .int .i64 (n4 b 12), .int .i64 (n4 b 16), .bool false, .bool false, .slice none 0 0, .slice none 0 0] 46)).drewN m)
  case first =>
    refine wp_region_held_drew (S := fun w' => Below W.heap.size W w') (by kernel_rfl) (Below.refl _ W).drew (fun hS => ?_)
    refine held_pure (i := 0) (oi := ⟨some 16, _, _, _, _, _⟩) rfl (by kernel_rfl) (by kernel_rfl) (by kernel_rfl) (fun _ _ _ h => h) (by rfl) (v := ?_) (fun w hSw => ?_) hS (fun hS => ?_)
    rotate_left
    · go_simp; try with_reducible rfl
    try go_frame
    refine held_pure (i := 1) (oi := ⟨some 17, _, _, _, _, _⟩) rfl (by kernel_rfl) (by kernel_rfl) (by kernel_rfl) (fun _ _ _ h => h) (by rfl) (v := Value.pointer (some ⟨b0, off + 1, none⟩)) (fun w hSw => by go_simp; exact fun hx => absurd hx (by omega)) hS (fun hS => ?_)
    try go_frame
    refine held_pure (i := 2) (oi := ⟨some 18, _, _, _, _, _⟩) rfl (by kernel_rfl) (by kernel_rfl) (by kernel_rfl) (fun _ _ _ h => h) (by rfl) (fun w hSw => run_load_byte rfl rfl ((hSw.cell (show b0 < W.heap.size by omega)).trans (kc 1 (by omega)))) hS (fun hS => ?_)
    try go_frame
    refine held_pure (i := 3) (oi := ⟨some 19, _, _, _, _, _⟩) rfl (by kernel_rfl) (by kernel_rfl) (by kernel_rfl) (fun _ _ _ h => h) (by rfl) (v := ?_) (fun w hSw => ?_) hS (fun hS => ?_)
    rotate_left
    · go_simp; try with_reducible rfl
    try go_frame
    refine held_pure (i := 4) (oi := ⟨some 20, _, _, _, _, _⟩) rfl (by kernel_rfl) (by kernel_rfl) (by kernel_rfl) (fun _ _ _ h => h) (by rfl) (v := ?_) (fun w hSw => ?_) hS (fun hS => ?_)
    rotate_left
    · go_simp; try with_reducible rfl
    try go_frame
    refine held_pure (i := 6) (oi := ⟨some 22, _, _, _, _, _⟩) rfl (by kernel_rfl) (by kernel_rfl) (by kernel_rfl) (fun _ _ _ h => h) (by rfl) (v := ?_) (fun w hSw => ?_) hS (fun hS => ?_)
    rotate_left
    · go_simp; try with_reducible rfl
    try go_frame
    refine held_pure (i := 7) (oi := ⟨some 23, _, _, _, _, _⟩) rfl (by kernel_rfl) (by kernel_rfl) (by kernel_rfl) (fun _ _ _ h => h) (by rfl) (v := ?_) (fun w hSw => ?_) hS (fun hS => ?_)
    rotate_left
    · go_simp; try with_reducible rfl
    try go_frame
    refine held_pure (i := 8) (oi := ⟨some 24, _, _, _, _, _⟩) rfl (by kernel_rfl) (by kernel_rfl) (by kernel_rfl) (fun _ _ _ h => h) (by rfl) (v := ?_) (fun w hSw => ?_) hS (fun hS => ?_)
    rotate_left
    · go_simp; try with_reducible rfl
    try go_frame
    refine held_pure (i := 9) (oi := ⟨some 25, _, _, _, _, _⟩) rfl (by kernel_rfl) (by kernel_rfl) (by kernel_rfl) (fun _ _ _ h => h) (by rfl) (v := ?_) (fun w hSw => ?_) hS (fun hS => ?_)
    rotate_left
    · go_simp; try with_reducible rfl
    try go_frame
    refine held_pure (i := 10) (oi := ⟨some 26, _, _, _, _, _⟩) rfl (by kernel_rfl) (by kernel_rfl) (by kernel_rfl) (fun _ _ _ h => h) (by rfl) (v := Value.pointer (some ⟨b0, off + 8, none⟩)) (fun w hSw => by go_simp; exact fun hx => absurd hx (by omega)) hS (fun hS => ?_)
    try go_frame
    refine held_pure (i := 11) (oi := ⟨some 27, _, _, _, _, _⟩) rfl (by kernel_rfl) (by kernel_rfl) (by kernel_rfl) (fun _ _ _ h => h) (by rfl) (fun w hSw => run_load_byte rfl rfl ((hSw.cell (show b0 < W.heap.size by omega)).trans (kc 8 (by omega)))) hS (fun hS => ?_)
    try go_frame
    refine held_pure (i := 12) (oi := ⟨some 28, _, _, _, _, _⟩) rfl (by kernel_rfl) (by kernel_rfl) (by kernel_rfl) (fun _ _ _ h => h) (by rfl) (v := ?_) (fun w hSw => ?_) hS (fun hS => ?_)
    rotate_left
    · go_simp; try with_reducible rfl
    try go_frame
    refine held_pure (i := 13) (oi := ⟨some 29, _, _, _, _, _⟩) rfl (by kernel_rfl) (by kernel_rfl) (by kernel_rfl) (fun _ _ _ h => h) (by rfl) (v := ?_) (fun w hSw => ?_) hS (fun hS => ?_)
    rotate_left
    · go_simp; try with_reducible rfl
    try go_frame
    refine held_pure (i := 14) (oi := ⟨some 30, _, _, _, _, _⟩) rfl (by kernel_rfl) (by kernel_rfl) (by kernel_rfl) (fun _ _ _ h => h) (by rfl) (v := Value.pointer (some ⟨b0, off + 9, none⟩)) (fun w hSw => by go_simp; exact fun hx => absurd hx (by omega)) hS (fun hS => ?_)
    try go_frame
    refine held_pure (i := 15) (oi := ⟨some 31, _, _, _, _, _⟩) rfl (by kernel_rfl) (by kernel_rfl) (by kernel_rfl) (fun _ _ _ h => h) (by rfl) (fun w hSw => run_load_byte rfl rfl ((hSw.cell (show b0 < W.heap.size by omega)).trans (kc 9 (by omega)))) hS (fun hS => ?_)
    try go_frame
    refine held_pure (i := 16) (oi := ⟨some 32, _, _, _, _, _⟩) rfl (by kernel_rfl) (by kernel_rfl) (by kernel_rfl) (fun _ _ _ h => h) (by rfl) (v := ?_) (fun w hSw => ?_) hS (fun hS => ?_)
    rotate_left
    · go_simp; try with_reducible rfl
    try go_frame
    refine held_pure (i := 17) (oi := ⟨some 33, _, _, _, _, _⟩) rfl (by kernel_rfl) (by kernel_rfl) (by kernel_rfl) (fun _ _ _ h => h) (by rfl) (v := ?_) (fun w hSw => ?_) hS (fun hS => ?_)
    rotate_left
    · go_simp; try with_reducible rfl
    try go_frame
    refine held_pure (i := 19) (oi := ⟨some 35, _, _, _, _, _⟩) rfl (by kernel_rfl) (by kernel_rfl) (by kernel_rfl) (fun _ _ _ h => h) (by rfl) (v := ?_) (fun w hSw => ?_) hS (fun hS => ?_)
    rotate_left
    · go_simp; try with_reducible rfl
    try go_frame
    refine wpAnyH_ready (rs := [5, 22]) (by kernel_rfl) (by simp) (AllReadyH.cons (o := ⟨some 21, _, _, _, _, _⟩) rfl (fun K hK => ?_) (AllReadyH.cons (o := ⟨some 7, _, _, _, _, _⟩) rfl (fun K hK => ?_) AllReadyH.nil))
    · rw [if_pos (by rfl)]
      go_simp
      refine (r5num _ b _ _ 4 2 _ (hR.below (hS.mono (by omega))) (by omega)).mono ?_
      rintro e w5 ⟨rfl, rfl⟩
      rw [show getV b 4 2 = n2 b 4 from G4.out]
      show K _ _
      refine hK.out _ _ hS (fun hS => ?_)
      clear hK K
      try go_frame
      refine wpAnyH_ready (rs := [18, 22]) (by kernel_rfl) (by simp) (AllReadyH.cons (o := ⟨some 34, _, _, _, _, _⟩) rfl (fun K hK => ?_) (AllReadyH.cons (o := ⟨some 7, _, _, _, _, _⟩) rfl (fun K hK => ?_) AllReadyH.nil))
      · rw [if_pos (by rfl)]
        go_simp
        refine (r5num _ b _ _ 12 4 _ (hR.below (hS.mono (by omega))) (by omega)).mono ?_
        rintro e w18 ⟨rfl, rfl⟩
        rw [show getV b 12 4 = n4 b 12 from G12.out]
        show K _ _
        refine hK.out _ _ hS (fun hS => ?_)
        clear hK K
        try go_frame
        refine wpAnyH_ready (rs := [20, 22]) (by kernel_rfl) (by simp) (AllReadyH.cons (o := ⟨some 36, _, _, _, _, _⟩) rfl (fun K hK => ?_) (AllReadyH.cons (o := ⟨some 7, _, _, _, _, _⟩) rfl (fun K hK => ?_) AllReadyH.nil))
        · rw [if_pos (by rfl)]
          go_simp
          refine (r5num _ b _ _ 16 4 _ (hR.below (hS.mono (by omega))) (by omega)).mono ?_
          rintro e w20 ⟨rfl, rfl⟩
          rw [show getV b 16 4 = n4 b 16 from G16.out]
          show K _ _
          refine hK.out _ _ hS (fun hS => ?_)
          clear hK K
          try go_frame
          refine held_pure (i := 21) (oi := ⟨some 37, _, _, _, _, _⟩) rfl (by kernel_rfl) (by kernel_rfl) (by kernel_rfl) (fun _ _ _ h => h) (by rfl) (v := ?_) (fun w hSw => ?_) hS (fun hS => ?_)
          rotate_left
          · go_simp; try with_reducible rfl
          try go_frame
          refine wpAnyH_ready (rs := [22]) (by kernel_rfl) (by simp) (AllReadyH.cons (o := ⟨some 7, _, _, _, _, _⟩) rfl (fun K hK => ?_) AllReadyH.nil)
          rw [if_pos (by rfl)]
          go_simp
          refine hK.out _ _ (hS.alloc hS.size _) (fun hS => ?_)
          clear hK K
          try go_frame
          refine wpAnyH_ready (rs := [23]) (by kernel_rfl) (by simp) (AllReadyH.cons (o := ⟨none, _, _, _, _, _⟩) rfl (fun K hK => ?_) AllReadyH.nil)
          rw [if_pos (by rfl)]
          refine wp_store_row 46 _ _ rfl (w.heap.size + 1) _ rfl rfl 46 _ (heap_new (by simp [hz])) (by kernel_rfl) rfl (by simp [Value.oneCell']) ?_
          repeat rw [setRow_drew]
          rw [setRow_new (by simp [hz])]
          refine hK.out _ _ (by first | exact (Below.refl W.heap.size W).drew.alloc (Nat.le_refl _) _ | exact ((Below.refl W.heap.size W).drew.alloc (Nat.le_refl _) _).drew | exact ((Below.refl W.heap.size W).alloc (Nat.le_refl _) _).drew | exact (((Below.refl W.heap.size W).alloc (Nat.le_refl _) _).drew).drew) (fun hS => ?_)
          clear hK K
          try go_frame
          refine wpAnyH_done (by kernel_rfl) ?_ _
          go_wp2_with fail
          go_meet
          refine ⟨by rw [hz], ?_⟩
          rw [E1.out, E8.out, E9.out, EF.out]
          first | exact ⟨1, rfl⟩ | exact ⟨2, rfl⟩ | exact ⟨3, rfl⟩ | exact ⟨4, rfl⟩
        · rw [if_pos (by rfl)]
          go_simp
          refine hK.out _ _ (hS.alloc hS.size _) (fun hS => ?_)
          clear hK K
          try go_frame
          refine wpAnyH_ready (rs := [20]) (by kernel_rfl) (by simp) (AllReadyH.cons (o := ⟨some 36, _, _, _, _, _⟩) rfl (fun K hK => ?_) AllReadyH.nil)
          rw [if_pos (by rfl)]
          go_simp
          refine (r5num _ b _ _ 16 4 _ (hR.below (hS.mono (by omega))) (by omega)).mono ?_
          rintro e w20 ⟨rfl, rfl⟩
          rw [show getV b 16 4 = n4 b 16 from G16.out]
          show K _ _
          refine hK.out _ _ hS (fun hS => ?_)
          clear hK K
          try go_frame
          refine held_pure (i := 21) (oi := ⟨some 37, _, _, _, _, _⟩) rfl (by kernel_rfl) (by kernel_rfl) (by kernel_rfl) (fun _ _ _ h => h) (by rfl) (v := ?_) (fun w hSw => ?_) hS (fun hS => ?_)
          rotate_left
          · go_simp; try with_reducible rfl
          try go_frame
          refine wpAnyH_ready (rs := [23]) (by kernel_rfl) (by simp) (AllReadyH.cons (o := ⟨none, _, _, _, _, _⟩) rfl (fun K hK => ?_) AllReadyH.nil)
          rw [if_pos (by rfl)]
          refine wp_store_row 46 _ _ rfl (w.heap.size + 1) _ rfl rfl 46 _ (heap_new (by simp [hz])) (by kernel_rfl) rfl (by simp [Value.oneCell']) ?_
          repeat rw [setRow_drew]
          rw [setRow_new (by simp [hz])]
          refine hK.out _ _ (by first | exact (Below.refl W.heap.size W).drew.alloc (Nat.le_refl _) _ | exact ((Below.refl W.heap.size W).drew.alloc (Nat.le_refl _) _).drew | exact ((Below.refl W.heap.size W).alloc (Nat.le_refl _) _).drew | exact (((Below.refl W.heap.size W).alloc (Nat.le_refl _) _).drew).drew) (fun hS => ?_)
          clear hK K
          try go_frame
          refine wpAnyH_done (by kernel_rfl) ?_ _
          go_wp2_with fail
          go_meet
          refine ⟨by rw [hz], ?_⟩
          rw [E1.out, E8.out, E9.out, EF.out]
          first | exact ⟨1, rfl⟩ | exact ⟨2, rfl⟩ | exact ⟨3, rfl⟩ | exact ⟨4, rfl⟩
      · rw [if_pos (by rfl)]
        go_simp
        refine hK.out _ _ (hS.alloc hS.size _) (fun hS => ?_)
        clear hK K
        try go_frame
        refine wpAnyH_ready (rs := [18]) (by kernel_rfl) (by simp) (AllReadyH.cons (o := ⟨some 34, _, _, _, _, _⟩) rfl (fun K hK => ?_) AllReadyH.nil)
        rw [if_pos (by rfl)]
        go_simp
        refine (r5num _ b _ _ 12 4 _ (hR.below (hS.mono (by omega))) (by omega)).mono ?_
        rintro e w18 ⟨rfl, rfl⟩
        rw [show getV b 12 4 = n4 b 12 from G12.out]
        show K _ _
        refine hK.out _ _ hS (fun hS => ?_)
        clear hK K
        try go_frame
        refine wpAnyH_ready (rs := [20]) (by kernel_rfl) (by simp) (AllReadyH.cons (o := ⟨some 36, _, _, _, _, _⟩) rfl (fun K hK => ?_) AllReadyH.nil)
        rw [if_pos (by rfl)]
        go_simp
        refine (r5num _ b _ _ 16 4 _ (hR.below (hS.mono (by omega))) (by omega)).mono ?_
        rintro e w20 ⟨rfl, rfl⟩
        rw [show getV b 16 4 = n4 b 16 from G16.out]
        show K _ _
        refine hK.out _ _ hS (fun hS => ?_)
        clear hK K
        try go_frame
        refine held_pure (i := 21) (oi := ⟨some 37, _, _, _, _, _⟩) rfl (by kernel_rfl) (by kernel_rfl) (by kernel_rfl) (fun _ _ _ h => h) (by rfl) (v := ?_) (fun w hSw => ?_) hS (fun hS => ?_)
        rotate_left
        · go_simp; try with_reducible rfl
        try go_frame
        refine wpAnyH_ready (rs := [23]) (by kernel_rfl) (by simp) (AllReadyH.cons (o := ⟨none, _, _, _, _, _⟩) rfl (fun K hK => ?_) AllReadyH.nil)
        rw [if_pos (by rfl)]
        refine wp_store_row 46 _ _ rfl (w.heap.size + 1) _ rfl rfl 46 _ (heap_new (by simp [hz])) (by kernel_rfl) rfl (by simp [Value.oneCell']) ?_
        repeat rw [setRow_drew]
        rw [setRow_new (by simp [hz])]
        refine hK.out _ _ (by first | exact (Below.refl W.heap.size W).drew.alloc (Nat.le_refl _) _ | exact ((Below.refl W.heap.size W).drew.alloc (Nat.le_refl _) _).drew | exact ((Below.refl W.heap.size W).alloc (Nat.le_refl _) _).drew | exact (((Below.refl W.heap.size W).alloc (Nat.le_refl _) _).drew).drew) (fun hS => ?_)
        clear hK K
        try go_frame
        refine wpAnyH_done (by kernel_rfl) ?_ _
        go_wp2_with fail
        go_meet
        refine ⟨by rw [hz], ?_⟩
        rw [E1.out, E8.out, E9.out, EF.out]
        first | exact ⟨1, rfl⟩ | exact ⟨2, rfl⟩ | exact ⟨3, rfl⟩ | exact ⟨4, rfl⟩
    · rw [if_pos (by rfl)]
      go_simp
      refine hK.out _ _ (hS.alloc hS.size _) (fun hS => ?_)
      clear hK K
      try go_frame
      refine wpAnyH_ready (rs := [5]) (by kernel_rfl) (by simp) (AllReadyH.cons (o := ⟨some 21, _, _, _, _, _⟩) rfl (fun K hK => ?_) AllReadyH.nil)
      rw [if_pos (by rfl)]
      go_simp
      refine (r5num _ b _ _ 4 2 _ (hR.below (hS.mono (by omega))) (by omega)).mono ?_
      rintro e w5 ⟨rfl, rfl⟩
      rw [show getV b 4 2 = n2 b 4 from G4.out]
      show K _ _
      refine hK.out _ _ hS (fun hS => ?_)
      clear hK K
      try go_frame
      refine wpAnyH_ready (rs := [18]) (by kernel_rfl) (by simp) (AllReadyH.cons (o := ⟨some 34, _, _, _, _, _⟩) rfl (fun K hK => ?_) AllReadyH.nil)
      rw [if_pos (by rfl)]
      go_simp
      refine (r5num _ b _ _ 12 4 _ (hR.below (hS.mono (by omega))) (by omega)).mono ?_
      rintro e w18 ⟨rfl, rfl⟩
      rw [show getV b 12 4 = n4 b 12 from G12.out]
      show K _ _
      refine hK.out _ _ hS (fun hS => ?_)
      clear hK K
      try go_frame
      refine wpAnyH_ready (rs := [20]) (by kernel_rfl) (by simp) (AllReadyH.cons (o := ⟨some 36, _, _, _, _, _⟩) rfl (fun K hK => ?_) AllReadyH.nil)
      rw [if_pos (by rfl)]
      go_simp
      refine (r5num _ b _ _ 16 4 _ (hR.below (hS.mono (by omega))) (by omega)).mono ?_
      rintro e w20 ⟨rfl, rfl⟩
      rw [show getV b 16 4 = n4 b 16 from G16.out]
      show K _ _
      refine hK.out _ _ hS (fun hS => ?_)
      clear hK K
      try go_frame
      refine held_pure (i := 21) (oi := ⟨some 37, _, _, _, _, _⟩) rfl (by kernel_rfl) (by kernel_rfl) (by kernel_rfl) (fun _ _ _ h => h) (by rfl) (v := ?_) (fun w hSw => ?_) hS (fun hS => ?_)
      rotate_left
      · go_simp; try with_reducible rfl
      try go_frame
      refine wpAnyH_ready (rs := [23]) (by kernel_rfl) (by simp) (AllReadyH.cons (o := ⟨none, _, _, _, _, _⟩) rfl (fun K hK => ?_) AllReadyH.nil)
      rw [if_pos (by rfl)]
      refine wp_store_row 46 _ _ rfl (w.heap.size + 1) _ rfl rfl 46 _ (heap_new (by simp [hz])) (by kernel_rfl) rfl (by simp [Value.oneCell']) ?_
      repeat rw [setRow_drew]
      rw [setRow_new (by simp [hz])]
      refine hK.out _ _ (by first | exact (Below.refl W.heap.size W).drew.alloc (Nat.le_refl _) _ | exact ((Below.refl W.heap.size W).drew.alloc (Nat.le_refl _) _).drew | exact ((Below.refl W.heap.size W).alloc (Nat.le_refl _) _).drew | exact (((Below.refl W.heap.size W).alloc (Nat.le_refl _) _).drew).drew) (fun hS => ?_)
      clear hK K
      try go_frame
      refine wpAnyH_done (by kernel_rfl) ?_ _
      go_wp2_with fail
      go_meet
      refine ⟨by rw [hz], ?_⟩
      rw [E1.out, E8.out, E9.out, EF.out]
      first | exact ⟨1, rfl⟩ | exact ⟨2, rfl⟩ | exact ⟨3, rfl⟩ | exact ⟨4, rfl⟩
  case rest =>
    obtain ⟨hs7, m3, hwc⟩ := hcut
    subst hs7
    subst hwc
    obtain ⟨D, hD⟩ : ∃ d, d = (F / 16384 % 2 == 1) := ⟨_, rfl⟩
    obtain ⟨M, hM⟩ : ∃ d, d = (F / 8192 % 2 == 1) := ⟨_, rfl⟩
    have d1 : Int.tdiv F 16384 = F / 16384 := Int.tdiv_eq_ediv_of_nonneg hFb.1
    have d2 : Int.tdiv F 8192 = F / 8192 := Int.tdiv_eq_ediv_of_nonneg hFb.1
    have d3 : Int.tmod (F / 16384) 2 = F / 16384 % 2 := Int.tmod_eq_emod_of_nonneg (by omega)
    have d4 : Int.tmod (F / 8192) 2 = F / 8192 % 2 := Int.tmod_eq_emod_of_nonneg (by omega)
    have d5 : (F / 16384 % 2 == 1) = D := hD.symm
    have d6 : (F / 8192 % 2 == 1) = M := hM.symm
    have HD := Lib.hid hD; have HM := Lib.hid hM
    clear hD hM
    go_upto_region 5 with fail
    rw [← hz]
    rw [set_newN W _ (#[.int .i64 (byt b 1), .int .i64 (n2 b 4), .int .i64 (F % 8192 * 8), .int .i64 (byt b 8), .int .i64 (byt b 9), .int .i64 (n4 b 12), .int .i64 (n4 b 16), .bool D, .bool false, .slice none 0 0, .slice none 0 0]) _ 7 m3 _ rfl, set_newN W _ (#[.int .i64 (byt b 1), .int .i64 (n2 b 4), .int .i64 (F % 8192 * 8), .int .i64 (byt b 8), .int .i64 (byt b 9), .int .i64 (n4 b 12), .int .i64 (n4 b 16), .bool D, .bool M, .slice none 0 0, .slice none 0 0]) _ 8 m3 _ rfl]
    have hX := heap_newN W (.cells (#[.int .i64 (byt b 1), .int .i64 (n2 b 4), .int .i64 (F % 8192 * 8), .int .i64 (byt b 8), .int .i64 (byt b 9), .int .i64 (n4 b 12), .int .i64 (n4 b 16), .bool D, .bool M, .slice none 0 0, .slice none 0 0]) 46) m3
    have hBX : Below W.heap.size W ((W.alloc (.cells (#[.int .i64 (byt b 1), .int .i64 (n2 b 4), .int .i64 (F % 8192 * 8), .int .i64 (byt b 8), .int .i64 (byt b 9), .int .i64 (n4 b 12), .int .i64 (n4 b 16), .bool D, .bool M, .slice none 0 0, .slice none 0 0]) 46)).drewN m3) := below_drewN ((Below.refl W.heap.size W).alloc (Nat.le_refl _) _) m3
    have HzX := Lib.hid (show ((W.alloc (.cells (#[.int .i64 (byt b 1), .int .i64 (n2 b 4), .int .i64 (F % 8192 * 8), .int .i64 (byt b 8), .int .i64 (byt b 9), .int .i64 (n4 b 12), .int .i64 (n4 b 16), .bool D, .bool M, .slice none 0 0, .slice none 0 0]) 46)).drewN m3).heap.size = W.heap.size + 1 by show (W.alloc _).heap.size = _; simp)
    generalize (W.alloc (.cells (#[.int .i64 (byt b 1), .int .i64 (n2 b 4), .int .i64 (F % 8192 * 8), .int .i64 (byt b 8), .int .i64 (byt b 9), .int .i64 (n4 b 12), .int .i64 (n4 b 16), .bool D, .bool M, .slice none 0 0, .slice none 0 0]) 46)).drewN m3 = X at *
    have HZ := Lib.hid hz
    clear hz d1 d2 d3 d4 d5 d6 E1 E8 E9 EF G4 G12 G16
    have hcp := hR0.cap
    obtain ⟨O, hO⟩ : ∃ l, l = (b.take (hlen b).toNat).drop 20 := ⟨_, rfl⟩
    have HOl := Lib.hid (show O.length = (hlen b).toNat - 20 by rw [hO]; simp; omega)
    have HO := Lib.hid hO
    have hrb : Rd X B (some ⟨b0, off + 20, none⟩) O := by
      intro h0
      have hl := HOl.out
      refine ⟨b0, off + 20, rfl, hbB, fun j hj => ?_⟩
      rw [(hBl.trans (hBX.mono (by have := HZ.out; omega))).cell (show b0 < w.heap.size by omega), hO, Nat.add_assoc, hcell _ (by omega)]
      simp [byt, show 20 + j < (hlen b).toNat by omega]
    have hra : c = 20 → Rd X B (some ⟨b0, off, none⟩) O := fun e h0 => by have hl := HOl.out; omega
    clear hO
    by_cases hc20 : c = 20
    · have hR2 := hra hc20
      subst hc20
      go_upto_region 6 with (first
        | (at_builtin; (refine append_rd rfl _ _ rfl X.heap.size (.slice none 0 0) 0 [] rfl (World.ownsRow_nil _ _ _ _) B (some ⟨b0, off, none⟩) _ O (by rw [HOl.out]; rfl) (fun e => by cases e) hR2 (by have := HOl.out; omega) (Nat.le_refl _) ?_; intro v5 w5 own5 grow5; obtain ⟨A5, c5, rfl, owm5⟩ := own_made (bs := O) own5 (by simp) (by simp); have x5 : Below X.heap.size X w5 := (Below.refl X.heap.size X).grown grow5 (Nat.le_refl _) (fun k hk => by cases hk); have hD5 : Rd w5 B A' dat := ((hD.rd.below ((hBl.trans (hBX.mono (by have := HZ.out; omega))).mono hB))).below (x5.mono (by have := HZ.out; have := HzX.out; omega))))
        | (at_builtin; go_loud (refine append_rd rfl _ _ rfl w5.heap.size (.slice none 0 0) 0 [] rfl (World.ownsRow_nil _ _ _ _) B A' c' dat rfl hD.none_ hD5 (by omega) (Nat.le_refl _) ?_; intro v6 w6 own6 grow6; obtain ⟨A6, c6, rfl, owm6⟩ := own_made (bs := dat) own6 (by simp) (by simp); have x6 : Below w5.heap.size w5 w6 := (Below.refl w5.heap.size w5).grown grow6 (Nat.le_refl _) (fun k hk => by cases hk); have hg6 := (x6.block W.heap.size (by have := x5.size; have := HzX.out; omega)).trans ((x5.block W.heap.size (by have := HzX.out; omega)).trans hX); have k9 : w6.cell? ⟨W.heap.size, 9, none⟩ = some (.slice none 0 0) := by { rw [cell_of_row _ _ _ _ _ _ hg6]; rfl }; have f9 := frozen_of_row w6 W.heap.size 9 _ _ hg6; have hg7 := heap_setCell_same w6 W.heap.size 9 _ _ (.slice A5 O.length c5) hg6; have k10 : (w6.setCell ⟨W.heap.size, 9, none⟩ (.slice A5 O.length c5)).cell? ⟨W.heap.size, 10, none⟩ = some (.slice none 0 0) := by { rw [cell_of_row _ _ _ _ _ _ hg7]; rfl }; have f10 := frozen_of_row _ W.heap.size 10 _ _ hg7)))
      have hg8 := heap_setCell_same _ W.heap.size 10 _ _ (.slice A6 dat.length c6) hg7
      have hg9 := hg8.trans (show some (Obj.cells _ _ _) = some (.cells (v4a (fl4 b dat) A5 c5 A6 c6) 46 (0, 0)) from by rw [HD.out, HM.out, HF.out, HO.out]; rfl)
      have hr6 := (x6.block w.heap.size (by have := x5.size; have := HzX.out; have := HZ.out; omega)).trans ((x5.block w.heap.size (by have := HzX.out; have := HZ.out; omega)).trans ((hBX.block w.heap.size (by have := HZ.out; omega)).trans hgr))
      have hne : w.heap.size ≠ W.heap.size := by have := HZ.out; omega
      have hr8 := ((heap_setCell_other _ ⟨W.heap.size, 10, none⟩ w.heap.size (.slice A6 dat.length c6) hne).trans (heap_setCell_other w6 ⟨W.heap.size, 9, none⟩ w.heap.size (.slice A5 O.length c5) hne)).trans hr6
      go_wp2_with (first
        | ((with_reducible show wpList _ _ _ (Oper.mk _ (Op.load _ _) _ _ _ _ :: _) _ _); refine v4_load (g := W.heap.size) rfl hg9 rfl ?_)
        | ((with_reducible show wpList _ _ _ (Oper.mk _ (Op.store _ _ _) _ _ _ _ :: _) _ _); refine wpList_plain rfl fun _ hK => wp_store_row 46 _ _ rfl w.heap.size _ rfl rfl 46 _ hr8 (by kernel_rfl) rfl (by simp [v4a, Value.oneCell']) (hK _ _ ?_)))
      have oz5 := own_setRow (own_setCell (own_setCell (own_below owm5 x6) (p := ⟨W.heap.size, 9, none⟩) (u := .slice A5 O.length c5) (by have := HzX.out; show W.heap.size < _; omega)) (p := ⟨W.heap.size, 10, none⟩) (u := .slice A6 dat.length c6) (by have := HzX.out; show W.heap.size < _; omega)) (g := w.heap.size) (cs := v4a (fl4 b dat) A5 c5 A6 c6) (by have := HzX.out; have := HZ.out; omega)
      have oz6 := own_setRow (own_setCell (own_setCell owm6 (p := ⟨W.heap.size, 9, none⟩) (u := .slice A5 O.length c5) (by have := HzX.out; have := x5.size; show W.heap.size < _; omega)) (p := ⟨W.heap.size, 10, none⟩) (u := .slice A6 dat.length c6) (by have := HzX.out; have := x5.size; show W.heap.size < _; omega)) (g := w.heap.size) (cs := v4a (fl4 b dat) A5 c5 A6 c6) (by have := HzX.out; have := x5.size; have := HZ.out; omega)
      have bz := (((((hBl.trans (hBX.mono (by have := HZ.out; omega))).trans (x5.mono (by have := HzX.out; have := HZ.out; omega))).trans (x6.mono (by have := x5.size; have := HzX.out; have := HZ.out; omega))).setCell (p := ⟨W.heap.size, 9, none⟩) (by have := HZ.out; show _ ≤ W.heap.size; omega) (.slice A5 O.length c5)).setCell (p := ⟨W.heap.size, 10, none⟩) (by have := HZ.out; show _ ≤ W.heap.size; omega) (.slice A6 dat.length c6))
      have eO : (fl4 b dat).opt = O := HO.out.symm
      exact bodyPost_ret (v4_result rfl rfl (setRow_heap _ _ _ _ _ _ hr8) rfl) rfl ⟨A5, c5, A6, c6, rfl, by rw [eO]; exact Made.of_own (own_base oz5 (by have := HzX.out; have := HZ.out; omega)) (below_row bz (Nat.le_refl _)), Made.of_own (own_base oz6 (by have := x5.size; have := HzX.out; have := HZ.out; omega)) (below_row bz (Nat.le_refl _))⟩
    · go_upto_region 6 with (first
        | (at_builtin; (refine append_rd rfl _ _ rfl X.heap.size (.slice none 0 0) 0 [] rfl (World.ownsRow_nil _ _ _ _) B (some ⟨b0, off + 20, none⟩) _ O (by rw [HOl.out]; rfl) (fun e => by cases e) hrb (by have := HOl.out; omega) (Nat.le_refl _) ?_; intro v5 w5 own5 grow5; obtain ⟨A5, c5, rfl, owm5⟩ := own_made (bs := O) own5 (by simp) (by simp); have x5 : Below X.heap.size X w5 := (Below.refl X.heap.size X).grown grow5 (Nat.le_refl _) (fun k hk => by cases hk); have hD5 : Rd w5 B A' dat := ((hD.rd.below ((hBl.trans (hBX.mono (by have := HZ.out; omega))).mono hB))).below (x5.mono (by have := HZ.out; have := HzX.out; omega))))
        | (at_builtin; go_loud (refine append_rd rfl _ _ rfl w5.heap.size (.slice none 0 0) 0 [] rfl (World.ownsRow_nil _ _ _ _) B A' c' dat rfl hD.none_ hD5 (by omega) (Nat.le_refl _) ?_; intro v6 w6 own6 grow6; obtain ⟨A6, c6, rfl, owm6⟩ := own_made (bs := dat) own6 (by simp) (by simp); have x6 : Below w5.heap.size w5 w6 := (Below.refl w5.heap.size w5).grown grow6 (Nat.le_refl _) (fun k hk => by cases hk); have hg6 := (x6.block W.heap.size (by have := x5.size; have := HzX.out; omega)).trans ((x5.block W.heap.size (by have := HzX.out; omega)).trans hX); have k9 : w6.cell? ⟨W.heap.size, 9, none⟩ = some (.slice none 0 0) := by { rw [cell_of_row _ _ _ _ _ _ hg6]; rfl }; have f9 := frozen_of_row w6 W.heap.size 9 _ _ hg6; have hg7 := heap_setCell_same w6 W.heap.size 9 _ _ (.slice A5 O.length c5) hg6; have k10 : (w6.setCell ⟨W.heap.size, 9, none⟩ (.slice A5 O.length c5)).cell? ⟨W.heap.size, 10, none⟩ = some (.slice none 0 0) := by { rw [cell_of_row _ _ _ _ _ _ hg7]; rfl }; have f10 := frozen_of_row _ W.heap.size 10 _ _ hg7)))
      have hg8 := heap_setCell_same _ W.heap.size 10 _ _ (.slice A6 dat.length c6) hg7
      have hg9 := hg8.trans (show some (Obj.cells _ _ _) = some (.cells (v4a (fl4 b dat) A5 c5 A6 c6) 46 (0, 0)) from by rw [HD.out, HM.out, HF.out, HO.out]; rfl)
      have hr6 := (x6.block w.heap.size (by have := x5.size; have := HzX.out; have := HZ.out; omega)).trans ((x5.block w.heap.size (by have := HzX.out; have := HZ.out; omega)).trans ((hBX.block w.heap.size (by have := HZ.out; omega)).trans hgr))
      have hne : w.heap.size ≠ W.heap.size := by have := HZ.out; omega
      have hr8 := ((heap_setCell_other _ ⟨W.heap.size, 10, none⟩ w.heap.size (.slice A6 dat.length c6) hne).trans (heap_setCell_other w6 ⟨W.heap.size, 9, none⟩ w.heap.size (.slice A5 O.length c5) hne)).trans hr6
      go_wp2_with (first
        | ((with_reducible show wpList _ _ _ (Oper.mk _ (Op.load _ _) _ _ _ _ :: _) _ _); refine v4_load (g := W.heap.size) rfl hg9 rfl ?_)
        | ((with_reducible show wpList _ _ _ (Oper.mk _ (Op.store _ _ _) _ _ _ _ :: _) _ _); refine wpList_plain rfl fun _ hK => wp_store_row 46 _ _ rfl w.heap.size _ rfl rfl 46 _ hr8 (by kernel_rfl) rfl (by simp [v4a, Value.oneCell']) (hK _ _ ?_)))
      have oz5 := own_setRow (own_setCell (own_setCell (own_below owm5 x6) (p := ⟨W.heap.size, 9, none⟩) (u := .slice A5 O.length c5) (by have := HzX.out; show W.heap.size < _; omega)) (p := ⟨W.heap.size, 10, none⟩) (u := .slice A6 dat.length c6) (by have := HzX.out; show W.heap.size < _; omega)) (g := w.heap.size) (cs := v4a (fl4 b dat) A5 c5 A6 c6) (by have := HzX.out; have := HZ.out; omega)
      have oz6 := own_setRow (own_setCell (own_setCell owm6 (p := ⟨W.heap.size, 9, none⟩) (u := .slice A5 O.length c5) (by have := HzX.out; have := x5.size; show W.heap.size < _; omega)) (p := ⟨W.heap.size, 10, none⟩) (u := .slice A6 dat.length c6) (by have := HzX.out; have := x5.size; show W.heap.size < _; omega)) (g := w.heap.size) (cs := v4a (fl4 b dat) A5 c5 A6 c6) (by have := HzX.out; have := x5.size; have := HZ.out; omega)
      have bz := (((((hBl.trans (hBX.mono (by have := HZ.out; omega))).trans (x5.mono (by have := HzX.out; have := HZ.out; omega))).trans (x6.mono (by have := x5.size; have := HzX.out; have := HZ.out; omega))).setCell (p := ⟨W.heap.size, 9, none⟩) (by have := HZ.out; show _ ≤ W.heap.size; omega) (.slice A5 O.length c5)).setCell (p := ⟨W.heap.size, 10, none⟩) (by have := HZ.out; show _ ≤ W.heap.size; omega) (.slice A6 dat.length c6))
      have eO : (fl4 b dat).opt = O := HO.out.symm
      exact bodyPost_ret (v4_result rfl rfl (setRow_heap _ _ _ _ _ _ hr8) rfl) rfl ⟨A5, c5, A6, c6, rfl, by rw [eO]; exact Made.of_own (own_base oz5 (by have := HzX.out; have := HZ.out; omega)) (below_row bz (Nat.le_refl _)), Made.of_own (own_base oz6 (by have := x5.size; have := HzX.out; have := HZ.out; omega)) (below_row bz (Nat.le_refl _))⟩
end
end Go.Proofs.YtpoigngpdcmipaaGreat
namespace Go.Proofs.YtpoigngpdcmipaaGreat
open Go.RowKit
section
variable (b : List UInt8) (A : Option Addr) (c : Nat) (w : World)
set_option maxRecDepth 100000 in
set_option maxHeartbeats 4000000 in
theorem r5read (B : Nat) (quoted : Bool) (hR : Arg w B A c b) (hB : B ≤ w.heap.size) (hl : b.length ≤ 1000000) :
    Calls Tryz.prog 33 #[.slice A b.length c, .bool quoted] w fun e w' => ∃ P p P' p', e = .returned (.tuple #[v4v (prsV b quoted) P p P' p', .int .i64 (prsE b quoted)]) ∧ Made w w' (.slice P (prsV b quoted).opt.length p) (prsV b quoted).opt ∧ Made w w' (.slice P' (prsV b quoted).dat.length p') (prsV b quoted).dat := by
  have hBW : Below w.heap.size w (w.alloc (.cells (v4a p4z none 0 none 0) 46)) := (Below.refl w.heap.size w).alloc (Nat.le_refl _) _
  have hg := World.alloc_heap_new w (.cells (v4a p4z none 0 none 0) 46)
  have hz : w.heap.size < (w.alloc (.cells (v4a p4z none 0 none 0) 46)).heap.size := by simp
  have hcap := hR.cap
  go_enter Tryz.func33, Tryz.ntmps33
  go_upto_region 1 with fail
  rw [show #[.int .i64 0, .int .i64 0, .int .i64 0, .int .i64 0, .int .i64 0, .int .i64 0, .int .i64 0, .bool false, .bool false, .slice none 0 0, .slice none 0 0] = v4a p4z none 0 none 0 from rfl]
  generalize w.alloc (.cells (v4a p4z none 0 none 0) 46) = W at *
  by_cases h20 : b.length < 20
  · have d20 : decide ((b.length : Int) < 20) = true := by simp; omega
    have hBad : bad4 b quoted = 3 := by rw [bad4, if_pos h20]
    have HE := Lib.hid (show prsE b quoted = 3 by rw [prsE, hBad]; rfl)
    have HV := Lib.hid (show prsV b quoted = p4z by rw [prsV, HE.out]; rfl)
    clear hBad
    go_wp2_with (first | ((with_reducible show wpList _ _ _ (Oper.mk _ (Op.store _ _ _) _ _ _ _ :: _) _ _); refine v4_store (g := w.heap.size) (cs := v4a p4z none 0 none 0) rfl rfl hg rfl rfl (v4a_one _ _ _ _ _) ?_) | (fail))
    exact bodyPost_ret (res2 rfl rfl (run_loadVar_row _ _ _ 46 (v4a p4z none 0 none 0) _ _ (setRow_heap _ _ _ _ _ _ hg) Tryz.underlying46 rfl (by kernel_rfl))) rfl ⟨none, 0, none, 0, by rw [HV.out, HE.out]; rfl, by rw [HV.out]; exact Made.nil _ _ (below_row hBW (Nat.le_refl _)), by rw [HV.out]; exact Made.nil _ _ (below_row hBW (Nat.le_refl _))⟩
  · have d20 : decide ((b.length : Int) < 20) = false := by simp; omega
    obtain ⟨b0, off, rfl, hbB, hcell⟩ := hR.rd (by omega)
    have hx1 := hBW.size
    have q0 := byt_lo b 0; have q0' := byt_hi b 0
    obtain ⟨F, hF⟩ : ∃ n, n = byt b 0 := ⟨_, rfl⟩
    have k0 : W.cell? ⟨b0, off, none⟩ = some (.int .u8 F) := by rw [hF, hBW.cell (show b0 < w.heap.size by omega)]; exact hcell 0 (by omega)
    have HH := Lib.hid (show hlen b = F % 16 * 4 by rw [hF]; rfl)
    rw [← hF] at q0 q0'
    have HF := Lib.hid hF
    have tm : Int.tmod F 16 = F % 16 := Int.tmod_eq_emod_of_nonneg q0
    have td : Int.tdiv F 16 = F / 16 := Int.tdiv_eq_ediv_of_nonneg q0
    have HW1 := Lib.hid (IntWalk.i64_in (F % 16) (by omega))
    have HW2 := Lib.hid (IntWalk.i64_in (F % 16 * 4) (by omega))
    have z0 := n2_bd b 2
    have G2 := Lib.hid (show getV b 2 2 = n2 b 2 from get_two (b := b) (i := 2) (by omega))
    obtain ⟨Z, hZ⟩ : ∃ n, n = n2 b 2 := ⟨_, rfl⟩
    rw [← hZ] at G2 z0
    have y0 := n2_bd b 6
    have G6 := Lib.hid (show getV b 6 2 = n2 b 6 from get_two (b := b) (i := 6) (by omega))
    obtain ⟨Y, hY⟩ : ∃ n, n = n2 b 6 := ⟨_, rfl⟩
    rw [← hY] at G6 y0
    have HZ := Lib.hid hZ
    have HX := Lib.hid hY
    clear hZ hY hF
    go_upto_region 3 with fail
    refine wp_region_held_drew (S := fun w' => Below W.heap.size W w') (by kernel_rfl) (Below.refl _ W).drew (fun hS => ?_)
    refine held_pure (i := 0) (oi := ⟨some 13, _, _, _, _, _⟩) rfl (by kernel_rfl) (by kernel_rfl) (by kernel_rfl) (fun _ _ _ h => h) (by rfl) (v := ?_) (fun w hSw => ?_) hS (fun hS => ?_)
    rotate_left
    · go_simp; try with_reducible rfl
    try go_frame
    refine held_pure (i := 1) (oi := ⟨some 14, _, _, _, _, _⟩) rfl (by kernel_rfl) (by kernel_rfl) (by kernel_rfl) (fun _ _ _ h => h) (by rfl) (v := Value.pointer (some ⟨b0, off, none⟩)) (fun w hSw => by go_simp; exact fun hx => (h20 (by rw [hx]; decide)).elim) hS (fun hS => ?_)
    try go_frame
    refine held_pure (i := 2) (oi := ⟨some 15, _, _, _, _, _⟩) rfl (by kernel_rfl) (by kernel_rfl) (by kernel_rfl) (fun _ _ _ h => h) (by rfl) (fun w hSw => run_load_byte rfl rfl ((hSw.cell (show b0 < W.heap.size by omega)).trans k0)) hS (fun hS => ?_)
    try go_frame
    refine held_pure (i := 3) (oi := ⟨some 16, _, _, _, _, _⟩) rfl (by kernel_rfl) (by kernel_rfl) (by kernel_rfl) (fun _ _ _ h => h) (by rfl) (v := .int .u8 (F % 16)) (fun w hSw => by go_simp) hS (fun hS => ?_)
    try go_frame
    refine held_pure (i := 4) (oi := ⟨some 17, _, _, _, _, _⟩) rfl (by kernel_rfl) (by kernel_rfl) (by kernel_rfl) (fun _ _ _ h => h) (by rfl) (v := .int .i64 (F % 16)) (fun w hSw => by go_simp; exact HW1.out) hS (fun hS => ?_)
    try go_frame
    refine held_pure (i := 5) (oi := ⟨some 18, _, _, _, _, _⟩) rfl (by kernel_rfl) (by kernel_rfl) (by kernel_rfl) (fun _ _ _ h => h) (by rfl) (v := .int .i64 (F % 16 * 4)) (fun w hSw => by go_simp; exact HW2.out) hS (fun hS => ?_)
    try go_frame
    refine held_pure (i := 6) (oi := ⟨some 19, _, _, _, _, _⟩) rfl (by kernel_rfl) (by kernel_rfl) (by kernel_rfl) (fun _ _ _ h => h) (by rfl) (v := ?_) (fun w hSw => ?_) hS (fun hS => ?_)
    rotate_left
    · go_simp; try with_reducible rfl
    try go_frame
    refine wpAnyH_ready (rs := [7]) (by kernel_rfl) (by simp) (AllReadyH.cons (o := ⟨some 20, _, _, _, _, _⟩) rfl (fun K hK => ?_) AllReadyH.nil)
    rw [if_pos (by rfl)]
    go_simp
    refine (r5num _ b _ _ 2 2 _ ((hR.below (hBW.mono hB)).rd.below (hS.mono (by omega))) (by omega)).mono ?_
    rintro e w7 ⟨rfl, rfl⟩
    rw [show getV b 2 2 = Z from G2.out]
    show K _ _
    refine hK.out _ _ hS (fun hS => ?_)
    clear hK K
    try go_frame
    refine held_pure (i := 8) (oi := ⟨some 6, _, _, _, _, _⟩) rfl (by kernel_rfl) (by kernel_rfl) (by kernel_rfl) (fun _ _ _ h => h) (by rfl) (v := ?_) (fun w hSw => ?_) hS (fun hS => ?_)
    rotate_left
    · go_simp; try with_reducible rfl
    try go_frame
    refine held_pure (i := 9) (oi := ⟨some 7, _, _, _, _, _⟩) rfl (by kernel_rfl) (by kernel_rfl) (by kernel_rfl) (fun _ _ _ h => h) (by rfl) (v := ?_) (fun w hSw => ?_) hS (fun hS => ?_)
    rotate_left
    · go_simp; try with_reducible rfl
    try go_frame
    refine wpAnyH_done (by kernel_rfl) ?_ _
    have hBX : Below w.heap.size w W.drew := hBW.trans (hS.mono hx1)
    have hgX : W.drew.heap[w.heap.size]? = some (.cells (v4a p4z none 0 none 0) 46 (0, 0)) := hg
    have hzX : w.heap.size < W.drew.heap.size := hz
    have kX : W.drew.cell? ⟨b0, off, none⟩ = some (.int .u8 F) := k0
    clear k0 hg hz hBW hx1 hS
    generalize W.drew = X at *
    have rX := (hR.below (hBX.mono hB)).rd
    have p20 : 20 ≤ b.length := by omega
    by_cases c4 : F / 16 = 4
    · have d4 : (F / 16 != 4) = false := by simp [c4]
      by_cases c5 : F % 16 < 5
      · have d5 : decide (F % 16 * 4 < 20) = true := by simp; omega
        have hBad : bad4 b quoted = 4 := by rw [bad4, if_neg h20, if_pos (.inr (by rw [HH.out]; omega))]
        have HE := Lib.hid (show prsE b quoted = 4 by rw [prsE, hBad]; rfl)
        have HV := Lib.hid (show prsV b quoted = p4z by rw [prsV, HE.out]; rfl)
        clear hBad
        go_wp2_with (first | ((with_reducible show wpList _ _ _ (Oper.mk _ (Op.store _ _ _) _ _ _ _ :: _) _ _); refine v4_store (g := w.heap.size) (cs := v4a p4z none 0 none 0) rfl rfl hgX rfl rfl (v4a_one _ _ _ _ _) ?_) | (fail))
        exact bodyPost_ret (res2 rfl rfl (run_loadVar_row _ _ _ 46 (v4a p4z none 0 none 0) _ _ (setRow_heap _ _ _ _ _ _ hgX) Tryz.underlying46 rfl (by kernel_rfl))) rfl ⟨none, 0, none, 0, by rw [HV.out, HE.out]; rfl, by rw [HV.out]; exact Made.nil _ _ (below_row hBX (Nat.le_refl _)), by rw [HV.out]; exact Made.nil _ _ (below_row hBX (Nat.le_refl _))⟩
      · have d5 : decide (F % 16 * 4 < 20) = false := by simp; omega
        go_upto_region 6 with fail
        clear kX
        rcases quoted with _ | _
        · skip
          rcases Int.lt_or_le (b.length : Int) (F % 16 * 4) with k1 | k1
          · have d1 : decide ((b.length : Int) < F % 16 * 4) = true := by simpa using k1
            have hBad : bad4 b false = 3 := by rw [bad4, if_neg h20, if_neg (by rw [← HF.out, HH.out]; omega), if_pos (.inl (by rw [HH.out]; omega))]
            have HE := Lib.hid (show prsE b false = 3 by rw [prsE, hBad]; rfl)
            have HV := Lib.hid (show prsV b false = p4z by rw [prsV, HE.out]; rfl)
            clear hBad
            go_wp2_with (first | ((with_reducible show wpList _ _ _ (Oper.mk _ (Op.store _ _ _) _ _ _ _ :: _) _ _); refine v4_store (g := w.heap.size) (cs := v4a p4z none 0 none 0) rfl rfl hgX rfl rfl (v4a_one _ _ _ _ _) ?_) | (fail))
            exact bodyPost_ret (res2 rfl rfl (run_loadVar_row _ _ _ 46 (v4a p4z none 0 none 0) _ _ (setRow_heap _ _ _ _ _ _ hgX) Tryz.underlying46 rfl (by kernel_rfl))) rfl ⟨none, 0, none, 0, by rw [HV.out, HE.out]; rfl, by rw [HV.out]; exact Made.nil _ _ (below_row hBX (Nat.le_refl _)), by rw [HV.out]; exact Made.nil _ _ (below_row hBX (Nat.le_refl _))⟩
          · have d1 : decide ((b.length : Int) < F % 16 * 4) = false := by simpa using k1
            rcases Int.lt_or_le (b.length : Int) Z with k2 | k2
            · have d2 : decide ((b.length : Int) < Z) = true := by simpa using k2
              have hBad : bad4 b false = 3 := by rw [bad4, if_neg h20, if_neg (by rw [← HF.out, HH.out]; omega), if_pos (.inr ⟨rfl, by rw [← HZ.out]; omega⟩)]
              have HE := Lib.hid (show prsE b false = 3 by rw [prsE, hBad]; rfl)
              have HV := Lib.hid (show prsV b false = p4z by rw [prsV, HE.out]; rfl)
              clear hBad
              go_wp2_with (first | ((with_reducible show wpList _ _ _ (Oper.mk _ (Op.store _ _ _) _ _ _ _ :: _) _ _); refine v4_store (g := w.heap.size) (cs := v4a p4z none 0 none 0) rfl rfl hgX rfl rfl (v4a_one _ _ _ _ _) ?_) | (fail))
              exact bodyPost_ret (res2 rfl rfl (run_loadVar_row _ _ _ 46 (v4a p4z none 0 none 0) _ _ (setRow_heap _ _ _ _ _ _ hgX) Tryz.underlying46 rfl (by kernel_rfl))) rfl ⟨none, 0, none, 0, by rw [HV.out, HE.out]; rfl, by rw [HV.out]; exact Made.nil _ _ (below_row hBX (Nat.le_refl _)), by rw [HV.out]; exact Made.nil _ _ (below_row hBX (Nat.le_refl _))⟩
            · have d2 : decide ((b.length : Int) < Z) = false := by simpa using k2
              rcases Int.lt_or_le Z (F % 16 * 4) with k3 | k3
              · have d3 : decide (Z < F % 16 * 4) = true := by simpa using k3
                have hBad : bad4 b false = 4 := by rw [bad4, if_neg h20, if_neg (by rw [← HF.out, HH.out]; omega), if_neg (by rw [HH.out, ← HZ.out]; simp; omega), if_pos (by rw [HH.out, ← HZ.out, ← HX.out]; omega)]
                have HE := Lib.hid (show prsE b false = 4 by rw [prsE, hBad]; rfl)
                have HV := Lib.hid (show prsV b false = p4z by rw [prsV, HE.out]; rfl)
                clear hBad
                go_wp2_with (first | ((with_reducible show wpList _ _ _ (Oper.mk _ (Op.store _ _ _) _ _ _ _ :: _) _ _); refine v4_store (g := w.heap.size) (cs := v4a p4z none 0 none 0) rfl rfl hgX rfl rfl (v4a_one _ _ _ _ _) ?_) | (fail))
                exact bodyPost_ret (res2 rfl rfl (run_loadVar_row _ _ _ 46 (v4a p4z none 0 none 0) _ _ (setRow_heap _ _ _ _ _ _ hgX) Tryz.underlying46 rfl (by kernel_rfl))) rfl ⟨none, 0, none, 0, by rw [HV.out, HE.out]; rfl, by rw [HV.out]; exact Made.nil _ _ (below_row hBX (Nat.le_refl _)), by rw [HV.out]; exact Made.nil _ _ (below_row hBX (Nat.le_refl _))⟩
              · have d3 : decide (Z < F % 16 * 4) = false := by simpa using k3
                rcases Int.lt_or_le Y 32768 with k4 | k4
                · have d4x : decide (32768 ≤ Y) = false := by simpa using k4
                  obtain ⟨HB, hHB⟩ : ∃ l, l = b.take (F % 16 * 4).toNat := ⟨_, rfl⟩
                  have HHl := Lib.hid (show HB.length = (F % 16 * 4).toNat by rw [hHB, List.length_take]; omega)
                  obtain ⟨D, hDd⟩ : ∃ l, l = (b.take (Z).toNat).drop (F % 16 * 4).toNat := ⟨_, rfl⟩
                  have HDl := Lib.hid (show D.length = (Z).toNat - (F % 16 * 4).toNat by rw [hDd, List.length_drop, List.length_take]; omega)
                  have hO : Arg X B (some ⟨b0, off, none⟩) c HB := by rw [hHB]; exact (hR.cut_hi _ (by omega)).below (hBX.mono hB)
                  have hD : Arg w B (cutA (some ⟨b0, off, none⟩) c HB.length) (c - HB.length) D := by rw [hDd, HHl.out]; exact hR.cut _ _ (by omega)
                  obtain ⟨q, hq⟩ : ∃ q, q = fl4 b D := ⟨_, rfl⟩
                  have HQd := Lib.hid (show D = q.dat by rw [hq]; rfl)
                  have HR := Lib.hid (show raw4 b = q by rw [raw4, hq, hDd, HH.out, ← HZ.out, show min Z (b.length : Int) = Z by omega])
                  have hql : q.opt.length ≤ 1000000 := by rw [hq]; show ((b.take (hlen b).toNat).drop 20).length ≤ _; simp; omega
                  have hdl : q.dat.length ≤ 1000000 := by rw [← HQd.out, HDl.out]; omega
                  have HT := Lib.hid (show b.take (hlen b).toNat = HB by rw [HH.out, hHB])
                  have HQ := Lib.hid hq
                  clear hHB hDd hq
                  by_cases hr : rightB [HB] = true
                  · have hBad : bad4 b false = 0 := by rw [bad4, if_neg h20, if_neg (by rw [← HF.out, HH.out]; omega), if_neg (by rw [HH.out, ← HZ.out]; simp; omega), if_neg (by rw [HH.out, ← HZ.out, ← HX.out]; omega), if_neg (by rw [HT.out, hr]; simp)]
                    have HRT := Lib.hid hr
                    have HBad := Lib.hid hBad
                    clear hr hBad
                    go_upto_region 12 with (first
                      | (go_at_call 63; refine (r5num _ b _ _ 6 2 _ rX (by omega)).mono ?_; rintro e w8 ⟨rfl, rfl⟩; rw [show getV b 6 2 = Y from G6.out])
                      | ((with_reducible show wpList _ _ _ (Oper.mk _ (Op.slice _ _ _ _ _) _ _ _ _ :: _) _ _); (refine wpList_valw (by rfl) (run_cut_h rfl rfl rfl (h := F % 16 * 4) (by omega) (by omega) (m := HB.length) (by have := HHl.out; omega)) ?_))
                      | (go_at_call 64; refine (rright_one (some ⟨X.heap.size, 0, none⟩) HB 1 _ _ (Rd2.one (World.alloc_heap_new X _) (Nat.lt_succ_self _) ((hO.alloc (Nat.le_trans hB hBX.size) _).more (by have := hBX.size; omega))) (by have := HHl.out; omega)).mono ?_; rintro e w4 ⟨rfl, n4, rfl⟩; rw [HRT.out]))
                    have hBY : Below w.heap.size w ((X.alloc (.cells #[.slice (some ⟨b0, off, none⟩) HB.length c] 22)).drewN n4) := below_drewN (hBX.alloc hBX.size _) n4
                    have hgY : ((X.alloc (.cells #[.slice (some ⟨b0, off, none⟩) HB.length c] 22)).drewN n4).heap[w.heap.size]? = some (.cells (v4a p4z none 0 none 0) 46 (0, 0)) := (Below.heap_alloc X (.cells #[.slice (some ⟨b0, off, none⟩) HB.length c] 22) w.heap.size hzX).trans hgX
                    have hzY : w.heap.size < ((X.alloc (.cells #[.slice (some ⟨b0, off, none⟩) HB.length c] 22)).drewN n4).heap.size := by show _ < (X.alloc _).heap.size; simp; omega
                    generalize (X.alloc (.cells #[.slice (some ⟨b0, off, none⟩) HB.length c] 22)).drewN n4 = V at *
                    have hDy : Arg V B (cutA (some ⟨b0, off, none⟩) c HB.length) (c - HB.length) D := hD.below (hBY.mono hB)
                    go_upto_region 13 with (first
                      | ((with_reducible show wpList _ _ _ (Oper.mk _ (Op.slice _ _ _ _ _) _ _ _ _ :: _) _ _); refine wpList_val rfl (run_cut_lh rfl rfl rfl rfl (l := F % 16 * 4) (h := Z) (by omega) (by omega) (by omega) (m := D.length) (by have := HDl.out; omega)) ?_; rw [show (F % 16 * 4).toNat = HB.length by have := HHl.out; omega])
                      | (go_at_call 65; refine (r5fieldsM b D (some ⟨b0, off, none⟩) c (cutA (some ⟨b0, off, none⟩) c HB.length) (c - HB.length) _ B (hR.below (hBY.mono hB)) hDy (Nat.le_trans hB hBY.size) (by omega) hl (by rw [HH.out]; omega) (by have := HDl.out; omega)).mono ?_; rintro e w5 ⟨P, p, P', p', rfl, mo, md⟩; rw [← HQ.out] at mo; rw [HQd.out] at md; rw [← HQ.out])
                      | ((with_reducible show wpList _ _ _ (Oper.mk _ (Op.store _ _ _) _ _ _ _ :: _) _ _); refine v4_store_new (cs := v4a q P p P' p') rfl rfl rfl rfl (v4a_one _ _ _ _ _) ?_))
                    have x5 := mo.below
                    have hz5 := x5.size
                    have hAt := At4.new (q := q) (A := P) (c := p) (A' := P') (c' := p') w5
                    have x56 : Below w5.heap.size w5 (w5.alloc (.cells (v4a q P p P' p') 46)) := (Below.refl _ w5).alloc (Nat.le_refl _) _
                    have hz6 : w5.heap.size < (w5.alloc (.cells (v4a q P p P' p') 46)).heap.size := by simp
                    generalize w5.alloc (.cells (v4a q P p P' p') 46) = W6 at *
                    by_cases hc : chk4 q = 0
                    · have HC := Lib.hid hc
                      have HE := Lib.hid (show prsE b false = 0 by rw [prsE, HBad.out, if_pos rfl, HR.out, if_neg (by rw [hc]; simp)])
                      have HV := Lib.hid (show prsV b false = q by rw [prsV, if_pos HE.out, HR.out])
                      clear hc
                      go_upto_region 15 with (first
                        | ((with_reducible show wpList _ _ _ (Oper.mk _ (Op.load 46 _) _ _ _ _ :: _) _ _); refine wpList_valw (by rfl) (run_load_v4 rfl rfl hAt rfl) ?_)
                        | (go_at_call 51; refine (r5check q P p P' p' _ hql hdl).mono ?_; rintro e w7 ⟨rfl, x7⟩; rw [HC.out]))
                      have x57 : Below w5.heap.size w5 w7 := x56.trans (x7.mono (by omega))
                      have hAt7 := hAt.below x7 hz6
                      have hg7 := (x57.block w.heap.size (by omega)).trans ((x5.block w.heap.size hzY).trans hgY)
                      go_wp2_with (first
                        | ((with_reducible show wpList _ _ _ (Oper.mk _ (Op.load 46 _) _ _ _ _ :: _) _ _); refine wpList_valw (by rfl) (run_load_v4 rfl rfl hAt7 rfl) ?_)
                        | ((with_reducible show wpList _ _ _ (Oper.mk _ (Op.store _ _ _) _ _ _ _ :: _) _ _); refine v4_store (g := w.heap.size) (cs := v4a q P p P' p') rfl rfl hg7 rfl rfl (v4a_one _ _ _ _ _) ?_))
                      exact bodyPost_ret (res2 rfl rfl (run_loadVar_row _ _ _ 46 (v4a q P p P' p') _ _ (setRow_heap _ _ _ _ _ _ hg7) Tryz.underlying46 rfl (by kernel_rfl))) rfl ⟨P, p, P', p', by rw [HV.out, HE.out]; rfl, by rw [HV.out]; exact (mo.later x57).row hBY hzY, by rw [HV.out]; exact (md.later x57).row hBY hzY⟩
                    · have dC : (chk4 q != 0) = true := by simpa using hc
                      have HE := Lib.hid (show prsE b false = 4 by rw [prsE, HBad.out, if_pos rfl, HR.out, if_pos ⟨rfl, hc⟩])
                      have HV := Lib.hid (show prsV b false = p4z by rw [prsV, HE.out]; rfl)
                      clear hc
                      go_upto_region 14 with (first
                        | ((with_reducible show wpList _ _ _ (Oper.mk _ (Op.load 46 _) _ _ _ _ :: _) _ _); refine wpList_valw (by rfl) (run_load_v4 rfl rfl hAt rfl) ?_)
                        | (go_at_call 51; refine (r5check q P p P' p' _ hql hdl).mono ?_; rintro e w7 ⟨rfl, x7⟩; skip))
                      have x57 : Below w5.heap.size w5 w7 := x56.trans (x7.mono (by omega))
                      have hg7 := (x57.block w.heap.size (by omega)).trans ((x5.block w.heap.size hzY).trans hgY)
                      have hB7 : Below w.heap.size w w7 := (hBY.trans (x5.mono hBY.size)).trans (x57.mono (by omega))
                      go_wp2_with (first | ((with_reducible show wpList _ _ _ (Oper.mk _ (Op.store _ _ _) _ _ _ _ :: _) _ _); refine v4_store (g := w.heap.size) (cs := v4a p4z none 0 none 0) rfl rfl hg7 rfl rfl (v4a_one _ _ _ _ _) ?_) | (fail))
                      exact bodyPost_ret (res2 rfl rfl (run_loadVar_row _ _ _ 46 (v4a p4z none 0 none 0) _ _ (setRow_heap _ _ _ _ _ _ hg7) Tryz.underlying46 rfl (by kernel_rfl))) rfl ⟨none, 0, none, 0, by rw [HV.out, HE.out]; rfl, by rw [HV.out]; exact Made.nil _ _ (below_row hB7 (Nat.le_refl _)), by rw [HV.out]; exact Made.nil _ _ (below_row hB7 (Nat.le_refl _))⟩
                  · have hr' : rightB [HB] = false := by simpa using hr
                    have HRT := Lib.hid hr'
                    have hBad : bad4 b false = 5 := by rw [bad4, if_neg h20, if_neg (by rw [← HF.out, HH.out]; omega), if_neg (by rw [HH.out, ← HZ.out]; simp; omega), if_neg (by rw [HH.out, ← HZ.out, ← HX.out]; omega), if_pos (by rw [HT.out, hr']; simp)]
                    have HE := Lib.hid (show prsE b false = 5 by rw [prsE, hBad]; rfl)
                    have HV := Lib.hid (show prsV b false = p4z by rw [prsV, HE.out]; rfl)
                    clear hBad
                    clear hr hr'
                    go_upto_region 11 with (first
                      | (go_at_call 63; refine (r5num _ b _ _ 6 2 _ rX (by omega)).mono ?_; rintro e w8 ⟨rfl, rfl⟩; rw [show getV b 6 2 = Y from G6.out])
                      | ((with_reducible show wpList _ _ _ (Oper.mk _ (Op.slice _ _ _ _ _) _ _ _ _ :: _) _ _); (refine wpList_valw (by rfl) (run_cut_h rfl rfl rfl (h := F % 16 * 4) (by omega) (by omega) (m := HB.length) (by have := HHl.out; omega)) ?_))
                      | (go_at_call 64; refine (rright_one (some ⟨X.heap.size, 0, none⟩) HB 1 _ _ (Rd2.one (World.alloc_heap_new X _) (Nat.lt_succ_self _) ((hO.alloc (Nat.le_trans hB hBX.size) _).more (by have := hBX.size; omega))) (by have := HHl.out; omega)).mono ?_; rintro e w4 ⟨rfl, n4, rfl⟩; rw [HRT.out]))
                    have hBY : Below w.heap.size w ((X.alloc (.cells #[.slice (some ⟨b0, off, none⟩) HB.length c] 22)).drewN n4) := below_drewN (hBX.alloc hBX.size _) n4
                    have hgY : ((X.alloc (.cells #[.slice (some ⟨b0, off, none⟩) HB.length c] 22)).drewN n4).heap[w.heap.size]? = some (.cells (v4a p4z none 0 none 0) 46 (0, 0)) := (Below.heap_alloc X (.cells #[.slice (some ⟨b0, off, none⟩) HB.length c] 22) w.heap.size hzX).trans hgX
                    go_wp2_with (first | ((with_reducible show wpList _ _ _ (Oper.mk _ (Op.store _ _ _) _ _ _ _ :: _) _ _); refine v4_store (g := w.heap.size) (cs := v4a p4z none 0 none 0) rfl rfl hgY rfl rfl (v4a_one _ _ _ _ _) ?_) | (fail))
                    exact bodyPost_ret (res2 rfl rfl (run_loadVar_row _ _ _ 46 (v4a p4z none 0 none 0) _ _ (setRow_heap _ _ _ _ _ _ hgY) Tryz.underlying46 rfl (by kernel_rfl))) rfl ⟨none, 0, none, 0, by rw [HV.out, HE.out]; rfl, by rw [HV.out]; exact Made.nil _ _ (below_row hBY (Nat.le_refl _)), by rw [HV.out]; exact Made.nil _ _ (below_row hBY (Nat.le_refl _))⟩
                · have d4x : decide (32768 ≤ Y) = true := by simpa using k4
                  have hBad : bad4 b false = 4 := by rw [bad4, if_neg h20, if_neg (by rw [← HF.out, HH.out]; omega), if_neg (by rw [HH.out, ← HZ.out]; simp; omega), if_pos (by rw [HH.out, ← HZ.out, ← HX.out]; omega)]
                  have HE := Lib.hid (show prsE b false = 4 by rw [prsE, hBad]; rfl)
                  have HV := Lib.hid (show prsV b false = p4z by rw [prsV, HE.out]; rfl)
                  clear hBad
                  go_wp2_with (first | ((with_reducible show wpList _ _ _ (Oper.mk _ (Op.store _ _ _) _ _ _ _ :: _) _ _); refine v4_store (g := w.heap.size) (cs := v4a p4z none 0 none 0) rfl rfl hgX rfl rfl (v4a_one _ _ _ _ _) ?_) | ((go_at_call 63; refine (r5num _ b _ _ 6 2 _ rX (by omega)).mono ?_; rintro e w8 ⟨rfl, rfl⟩; rw [show getV b 6 2 = Y from G6.out])))
                  exact bodyPost_ret (res2 rfl rfl (run_loadVar_row _ _ _ 46 (v4a p4z none 0 none 0) _ _ (setRow_heap _ _ _ _ _ _ hgX) Tryz.underlying46 rfl (by kernel_rfl))) rfl ⟨none, 0, none, 0, by rw [HV.out, HE.out]; rfl, by rw [HV.out]; exact Made.nil _ _ (below_row hBX (Nat.le_refl _)), by rw [HV.out]; exact Made.nil _ _ (below_row hBX (Nat.le_refl _))⟩
        · skip
          rcases Int.lt_or_le (b.length : Int) (F % 16 * 4) with k1 | k1
          · have d1 : decide ((b.length : Int) < F % 16 * 4) = true := by simpa using k1
            have hBad : bad4 b true = 3 := by rw [bad4, if_neg h20, if_neg (by rw [← HF.out, HH.out]; omega), if_pos (.inl (by rw [HH.out]; omega))]
            have HE := Lib.hid (show prsE b true = 3 by rw [prsE, hBad]; rfl)
            have HV := Lib.hid (show prsV b true = p4z by rw [prsV, HE.out]; rfl)
            clear hBad
            go_wp2_with (first | ((with_reducible show wpList _ _ _ (Oper.mk _ (Op.store _ _ _) _ _ _ _ :: _) _ _); refine v4_store (g := w.heap.size) (cs := v4a p4z none 0 none 0) rfl rfl hgX rfl rfl (v4a_one _ _ _ _ _) ?_) | (fail))
            exact bodyPost_ret (res2 rfl rfl (run_loadVar_row _ _ _ 46 (v4a p4z none 0 none 0) _ _ (setRow_heap _ _ _ _ _ _ hgX) Tryz.underlying46 rfl (by kernel_rfl))) rfl ⟨none, 0, none, 0, by rw [HV.out, HE.out]; rfl, by rw [HV.out]; exact Made.nil _ _ (below_row hBX (Nat.le_refl _)), by rw [HV.out]; exact Made.nil _ _ (below_row hBX (Nat.le_refl _))⟩
          · have d1 : decide ((b.length : Int) < F % 16 * 4) = false := by simpa using k1
            rcases Int.lt_or_le Z (F % 16 * 4) with k3 | k3
            · have d3 : decide (Z < F % 16 * 4) = true := by simpa using k3
              have hBad : bad4 b true = 4 := by rw [bad4, if_neg h20, if_neg (by rw [← HF.out, HH.out]; omega), if_neg (by rw [HH.out, ← HZ.out]; simp; omega), if_pos (by rw [HH.out, ← HZ.out, ← HX.out]; omega)]
              have HE := Lib.hid (show prsE b true = 4 by rw [prsE, hBad]; rfl)
              have HV := Lib.hid (show prsV b true = p4z by rw [prsV, HE.out]; rfl)
              clear hBad
              go_wp2_with (first | ((with_reducible show wpList _ _ _ (Oper.mk _ (Op.store _ _ _) _ _ _ _ :: _) _ _); refine v4_store (g := w.heap.size) (cs := v4a p4z none 0 none 0) rfl rfl hgX rfl rfl (v4a_one _ _ _ _ _) ?_) | (fail))
              exact bodyPost_ret (res2 rfl rfl (run_loadVar_row _ _ _ 46 (v4a p4z none 0 none 0) _ _ (setRow_heap _ _ _ _ _ _ hgX) Tryz.underlying46 rfl (by kernel_rfl))) rfl ⟨none, 0, none, 0, by rw [HV.out, HE.out]; rfl, by rw [HV.out]; exact Made.nil _ _ (below_row hBX (Nat.le_refl _)), by rw [HV.out]; exact Made.nil _ _ (below_row hBX (Nat.le_refl _))⟩
            · have d3 : decide (Z < F % 16 * 4) = false := by simpa using k3
              rcases Int.lt_or_le Y 32768 with k4 | k4
              · have d4x : decide (32768 ≤ Y) = false := by simpa using k4
                rcases Int.lt_or_le (b.length : Int) Z with k0 | k0
                · skip
                  obtain ⟨HB, hHB⟩ : ∃ l, l = b.take (F % 16 * 4).toNat := ⟨_, rfl⟩
                  have HHl := Lib.hid (show HB.length = (F % 16 * 4).toNat by rw [hHB, List.length_take]; omega)
                  obtain ⟨D, hDd⟩ : ∃ l, l = (b.take ((b.length : Int)).toNat).drop (F % 16 * 4).toNat := ⟨_, rfl⟩
                  have HDl := Lib.hid (show D.length = ((b.length : Int)).toNat - (F % 16 * 4).toNat by rw [hDd, List.length_drop, List.length_take]; omega)
                  have hO : Arg X B (some ⟨b0, off, none⟩) c HB := by rw [hHB]; exact (hR.cut_hi _ (by omega)).below (hBX.mono hB)
                  have hD : Arg w B (cutA (some ⟨b0, off, none⟩) c HB.length) (c - HB.length) D := by rw [hDd, HHl.out]; exact hR.cut _ _ (by omega)
                  obtain ⟨q, hq⟩ : ∃ q, q = fl4 b D := ⟨_, rfl⟩
                  have HQd := Lib.hid (show D = q.dat by rw [hq]; rfl)
                  have HR := Lib.hid (show raw4 b = q by rw [raw4, hq, hDd, HH.out, ← HZ.out, show min Z (b.length : Int) = (b.length : Int) by omega])
                  have hql : q.opt.length ≤ 1000000 := by rw [hq]; show ((b.take (hlen b).toNat).drop 20).length ≤ _; simp; omega
                  have hdl : q.dat.length ≤ 1000000 := by rw [← HQd.out, HDl.out]; omega
                  have HT := Lib.hid (show b.take (hlen b).toNat = HB by rw [HH.out, hHB])
                  have HQ := Lib.hid hq
                  clear hHB hDd hq
                  have hBad : bad4 b true = 0 := by rw [bad4, if_neg h20, if_neg (by rw [← HF.out, HH.out]; omega), if_neg (by rw [HH.out, ← HZ.out]; simp; omega), if_neg (by rw [HH.out, ← HZ.out, ← HX.out]; omega), if_neg (by simp)]
                  have HE := Lib.hid (show prsE b true = 0 by rw [prsE, hBad, if_pos rfl, if_neg (by simp)])
                  have HV := Lib.hid (show prsV b true = q by rw [prsV, if_pos HE.out, HR.out])
                  clear hBad
                  go_upto_region 12 with (go_at_call 63; refine (r5num _ b _ _ 6 2 _ rX (by omega)).mono ?_; rintro e w8 ⟨rfl, rfl⟩; rw [show getV b 6 2 = Y from G6.out])
                  have hBY := hBX
                  have hgY := hgX
                  have hzY := hzX
                  have hDy : Arg X B (cutA (some ⟨b0, off, none⟩) c HB.length) (c - HB.length) D := hD.below (hBY.mono hB)
                  go_upto_region 13 with (first
                    | ((with_reducible show wpList _ _ _ (Oper.mk _ (Op.slice _ _ _ _ _) _ _ _ _ :: _) _ _); refine wpList_val rfl (run_cut_lh rfl rfl rfl rfl (l := F % 16 * 4) (h := (b.length : Int)) (by omega) (by omega) (by omega) (m := D.length) (by have := HDl.out; omega)) ?_; rw [show (F % 16 * 4).toNat = HB.length by have := HHl.out; omega])
                    | (go_at_call 65; refine (r5fieldsM b D (some ⟨b0, off, none⟩) c (cutA (some ⟨b0, off, none⟩) c HB.length) (c - HB.length) _ B (hR.below (hBY.mono hB)) hDy (Nat.le_trans hB hBY.size) (by omega) hl (by rw [HH.out]; omega) (by have := HDl.out; omega)).mono ?_; rintro e w5 ⟨P, p, P', p', rfl, mo, md⟩; rw [← HQ.out] at mo; rw [HQd.out] at md; rw [← HQ.out])
                    | ((with_reducible show wpList _ _ _ (Oper.mk _ (Op.store _ _ _) _ _ _ _ :: _) _ _); refine v4_store_new (cs := v4a q P p P' p') rfl rfl rfl rfl (v4a_one _ _ _ _ _) ?_))
                  have x5 := mo.below
                  have hz5 := x5.size
                  have hAt := At4.new (q := q) (A := P) (c := p) (A' := P') (c' := p') w5
                  have x56 : Below w5.heap.size w5 (w5.alloc (.cells (v4a q P p P' p') 46)) := (Below.refl _ w5).alloc (Nat.le_refl _) _
                  have hz6 : w5.heap.size < (w5.alloc (.cells (v4a q P p P' p') 46)).heap.size := by simp
                  generalize w5.alloc (.cells (v4a q P p P' p') 46) = W6 at *
                  have x57 := x56
                  have hg7 := (x57.block w.heap.size (by omega)).trans ((x5.block w.heap.size hzY).trans hgY)
                  go_wp2_with (first
                    | ((with_reducible show wpList _ _ _ (Oper.mk _ (Op.load 46 _) _ _ _ _ :: _) _ _); refine wpList_valw (by rfl) (run_load_v4 rfl rfl hAt rfl) ?_)
                    | ((with_reducible show wpList _ _ _ (Oper.mk _ (Op.store _ _ _) _ _ _ _ :: _) _ _); refine v4_store (g := w.heap.size) (cs := v4a q P p P' p') rfl rfl hg7 rfl rfl (v4a_one _ _ _ _ _) ?_))
                  exact bodyPost_ret (res2 rfl rfl (run_loadVar_row _ _ _ 46 (v4a q P p P' p') _ _ (setRow_heap _ _ _ _ _ _ hg7) Tryz.underlying46 rfl (by kernel_rfl))) rfl ⟨P, p, P', p', by rw [HV.out, HE.out]; rfl, by rw [HV.out]; exact (mo.later x57).row hBY hzY, by rw [HV.out]; exact (md.later x57).row hBY hzY⟩
                · skip
                  obtain ⟨HB, hHB⟩ : ∃ l, l = b.take (F % 16 * 4).toNat := ⟨_, rfl⟩
                  have HHl := Lib.hid (show HB.length = (F % 16 * 4).toNat by rw [hHB, List.length_take]; omega)
                  obtain ⟨D, hDd⟩ : ∃ l, l = (b.take (Z).toNat).drop (F % 16 * 4).toNat := ⟨_, rfl⟩
                  have HDl := Lib.hid (show D.length = (Z).toNat - (F % 16 * 4).toNat by rw [hDd, List.length_drop, List.length_take]; omega)
                  have hO : Arg X B (some ⟨b0, off, none⟩) c HB := by rw [hHB]; exact (hR.cut_hi _ (by omega)).below (hBX.mono hB)
                  have hD : Arg w B (cutA (some ⟨b0, off, none⟩) c HB.length) (c - HB.length) D := by rw [hDd, HHl.out]; exact hR.cut _ _ (by omega)
                  obtain ⟨q, hq⟩ : ∃ q, q = fl4 b D := ⟨_, rfl⟩
                  have HQd := Lib.hid (show D = q.dat by rw [hq]; rfl)
                  have HR := Lib.hid (show raw4 b = q by rw [raw4, hq, hDd, HH.out, ← HZ.out, show min Z (b.length : Int) = Z by omega])
                  have hql : q.opt.length ≤ 1000000 := by rw [hq]; show ((b.take (hlen b).toNat).drop 20).length ≤ _; simp; omega
                  have hdl : q.dat.length ≤ 1000000 := by rw [← HQd.out, HDl.out]; omega
                  have HT := Lib.hid (show b.take (hlen b).toNat = HB by rw [HH.out, hHB])
                  have HQ := Lib.hid hq
                  clear hHB hDd hq
                  have hBad : bad4 b true = 0 := by rw [bad4, if_neg h20, if_neg (by rw [← HF.out, HH.out]; omega), if_neg (by rw [HH.out, ← HZ.out]; simp; omega), if_neg (by rw [HH.out, ← HZ.out, ← HX.out]; omega), if_neg (by simp)]
                  have HE := Lib.hid (show prsE b true = 0 by rw [prsE, hBad, if_pos rfl, if_neg (by simp)])
                  have HV := Lib.hid (show prsV b true = q by rw [prsV, if_pos HE.out, HR.out])
                  clear hBad
                  go_upto_region 12 with (go_at_call 63; refine (r5num _ b _ _ 6 2 _ rX (by omega)).mono ?_; rintro e w8 ⟨rfl, rfl⟩; rw [show getV b 6 2 = Y from G6.out])
                  have hBY := hBX
                  have hgY := hgX
                  have hzY := hzX
                  have hDy : Arg X B (cutA (some ⟨b0, off, none⟩) c HB.length) (c - HB.length) D := hD.below (hBY.mono hB)
                  go_upto_region 13 with (first
                    | ((with_reducible show wpList _ _ _ (Oper.mk _ (Op.slice _ _ _ _ _) _ _ _ _ :: _) _ _); refine wpList_val rfl (run_cut_lh rfl rfl rfl rfl (l := F % 16 * 4) (h := Z) (by omega) (by omega) (by omega) (m := D.length) (by have := HDl.out; omega)) ?_; rw [show (F % 16 * 4).toNat = HB.length by have := HHl.out; omega])
                    | (go_at_call 65; refine (r5fieldsM b D (some ⟨b0, off, none⟩) c (cutA (some ⟨b0, off, none⟩) c HB.length) (c - HB.length) _ B (hR.below (hBY.mono hB)) hDy (Nat.le_trans hB hBY.size) (by omega) hl (by rw [HH.out]; omega) (by have := HDl.out; omega)).mono ?_; rintro e w5 ⟨P, p, P', p', rfl, mo, md⟩; rw [← HQ.out] at mo; rw [HQd.out] at md; rw [← HQ.out])
                    | ((with_reducible show wpList _ _ _ (Oper.mk _ (Op.store _ _ _) _ _ _ _ :: _) _ _); refine v4_store_new (cs := v4a q P p P' p') rfl rfl rfl rfl (v4a_one _ _ _ _ _) ?_))
                  have x5 := mo.below
                  have hz5 := x5.size
                  have hAt := At4.new (q := q) (A := P) (c := p) (A' := P') (c' := p') w5
                  have x56 : Below w5.heap.size w5 (w5.alloc (.cells (v4a q P p P' p') 46)) := (Below.refl _ w5).alloc (Nat.le_refl _) _
                  have hz6 : w5.heap.size < (w5.alloc (.cells (v4a q P p P' p') 46)).heap.size := by simp
                  generalize w5.alloc (.cells (v4a q P p P' p') 46) = W6 at *
                  have x57 := x56
                  have hg7 := (x57.block w.heap.size (by omega)).trans ((x5.block w.heap.size hzY).trans hgY)
                  go_wp2_with (first
                    | ((with_reducible show wpList _ _ _ (Oper.mk _ (Op.load 46 _) _ _ _ _ :: _) _ _); refine wpList_valw (by rfl) (run_load_v4 rfl rfl hAt rfl) ?_)
                    | ((with_reducible show wpList _ _ _ (Oper.mk _ (Op.store _ _ _) _ _ _ _ :: _) _ _); refine v4_store (g := w.heap.size) (cs := v4a q P p P' p') rfl rfl hg7 rfl rfl (v4a_one _ _ _ _ _) ?_))
                  exact bodyPost_ret (res2 rfl rfl (run_loadVar_row _ _ _ 46 (v4a q P p P' p') _ _ (setRow_heap _ _ _ _ _ _ hg7) Tryz.underlying46 rfl (by kernel_rfl))) rfl ⟨P, p, P', p', by rw [HV.out, HE.out]; rfl, by rw [HV.out]; exact (mo.later x57).row hBY hzY, by rw [HV.out]; exact (md.later x57).row hBY hzY⟩
              · have d4x : decide (32768 ≤ Y) = true := by simpa using k4
                have hBad : bad4 b true = 4 := by rw [bad4, if_neg h20, if_neg (by rw [← HF.out, HH.out]; omega), if_neg (by rw [HH.out, ← HZ.out]; simp; omega), if_pos (by rw [HH.out, ← HZ.out, ← HX.out]; omega)]
                have HE := Lib.hid (show prsE b true = 4 by rw [prsE, hBad]; rfl)
                have HV := Lib.hid (show prsV b true = p4z by rw [prsV, HE.out]; rfl)
                clear hBad
                go_wp2_with (first | ((with_reducible show wpList _ _ _ (Oper.mk _ (Op.store _ _ _) _ _ _ _ :: _) _ _); refine v4_store (g := w.heap.size) (cs := v4a p4z none 0 none 0) rfl rfl hgX rfl rfl (v4a_one _ _ _ _ _) ?_) | ((go_at_call 63; refine (r5num _ b _ _ 6 2 _ rX (by omega)).mono ?_; rintro e w8 ⟨rfl, rfl⟩; rw [show getV b 6 2 = Y from G6.out])))
                exact bodyPost_ret (res2 rfl rfl (run_loadVar_row _ _ _ 46 (v4a p4z none 0 none 0) _ _ (setRow_heap _ _ _ _ _ _ hgX) Tryz.underlying46 rfl (by kernel_rfl))) rfl ⟨none, 0, none, 0, by rw [HV.out, HE.out]; rfl, by rw [HV.out]; exact Made.nil _ _ (below_row hBX (Nat.le_refl _)), by rw [HV.out]; exact Made.nil _ _ (below_row hBX (Nat.le_refl _))⟩
    · have d4 : (F / 16 != 4) = true := by simpa using c4
      have hBad : bad4 b quoted = 4 := by rw [bad4, if_neg h20, if_pos (.inl (by rw [← HF.out]; exact c4))]
      have HE := Lib.hid (show prsE b quoted = 4 by rw [prsE, hBad]; rfl)
      have HV := Lib.hid (show prsV b quoted = p4z by rw [prsV, HE.out]; rfl)
      clear hBad
      go_wp2_with (first | ((with_reducible show wpList _ _ _ (Oper.mk _ (Op.store _ _ _) _ _ _ _ :: _) _ _); refine v4_store (g := w.heap.size) (cs := v4a p4z none 0 none 0) rfl rfl hgX rfl rfl (v4a_one _ _ _ _ _) ?_) | (fail))
      exact bodyPost_ret (res2 rfl rfl (run_loadVar_row _ _ _ 46 (v4a p4z none 0 none 0) _ _ (setRow_heap _ _ _ _ _ _ hgX) Tryz.underlying46 rfl (by kernel_rfl))) rfl ⟨none, 0, none, 0, by rw [HV.out, HE.out]; rfl, by rw [HV.out]; exact Made.nil _ _ (below_row hBX (Nat.le_refl _)), by rw [HV.out]; exact Made.nil _ _ (below_row hBX (Nat.le_refl _))⟩
end
end Go.Proofs.YtpoigngpdcmipaaGreat
namespace Go.Proofs.YtpoigngpdcmipaaGreat
open Go.RowKit
section
variable (b : List UInt8) (A : Option Addr) (c : Nat) (w : World)
set_option maxRecDepth 100000 in
set_option maxHeartbeats 1000000 in
theorem r5parse (B : Nat) (hR : Arg w B A c b) (hB : B ≤ w.heap.size) (hl : b.length ≤ 1000000) :
    Calls Tryz.prog 13 #[.slice A b.length c] w fun e w' => ∃ P p P' p', e = .returned (.tuple #[v4v (prsV b false) P p P' p', .int .i64 (prsE b false)]) ∧ Made w w' (.slice P (prsV b false).opt.length p) (prsV b false).opt ∧ Made w w' (.slice P' (prsV b false).dat.length p') (prsV b false).dat := by
  have hBW : Below w.heap.size w (w.alloc (.cells (v4a p4z none 0 none 0) 46)) := (Below.refl w.heap.size w).alloc (Nat.le_refl _) _
  have hg := World.alloc_heap_new w (.cells (v4a p4z none 0 none 0) 46)
  have hz : w.heap.size < (w.alloc (.cells (v4a p4z none 0 none 0) 46)).heap.size := by simp
  obtain ⟨q, hq⟩ : ∃ q, q = prsV b false := ⟨_, rfl⟩
  obtain ⟨E, hE⟩ : ∃ q, q = prsE b false := ⟨_, rfl⟩
  rw [← hq, ← hE]
  go_enter Tryz.func13, Tryz.ntmps13
  go_upto_region 1 with fail
  rw [show #[.int .i64 0, .int .i64 0, .int .i64 0, .int .i64 0, .int .i64 0, .int .i64 0, .int .i64 0, .bool false, .bool false, .slice none 0 0, .slice none 0 0] = v4a p4z none 0 none 0 from rfl]
  generalize w.alloc (.cells (v4a p4z none 0 none 0) 46) = W at *
  have HQ := Lib.hid hq
  have HE := Lib.hid hE
  clear hq hE
  go_wp2_with (first
    | (go_at_call 33; refine (r5read b A c _ B false (hR.below (hBW.mono hB)) (Nat.le_trans hB hBW.size) hl).mono ?_; rintro e w3 ⟨P, p, P', p', rfl, mo, md⟩; rw [← HQ.out] at mo md; rw [← HQ.out, ← HE.out]; have hg4 := (mo.below.block _ hz).trans hg)
    | ((with_reducible show wpList _ _ _ (Oper.mk _ (Op.store _ _ _) _ _ _ _ :: _) _ _); refine v4_store (g := w.heap.size) (cs := v4a q P p P' p') rfl rfl hg4 rfl rfl (v4a_one _ _ _ _ _) ?_))
  exact bodyPost_ret (res2 rfl rfl (run_loadVar_row _ _ _ 46 (v4a q P p P' p') _ _ (setRow_heap _ _ _ _ _ _ hg4) Tryz.underlying46 rfl (by kernel_rfl))) rfl ⟨P, p, P', p', rfl, mo.row hBW hz, md.row hBW hz⟩
end
theorem r5same_arr (q r : P4) (A : Option Addr) (c : Nat) (A' : Option Addr) (c' : Nat) (X : Option Addr) (d : Nat) (X' : Option Addr) (d' B : Nat) (w : World) (hB : B ≤ w.heap.size)
    (hA : Rd w B A q.opt) (hA' : Rd w B A' q.dat) (hX : Rd w B X r.opt) (hX' : Rd w B X' r.dat) :
    Calls Tryz.prog 14 #[.agg (v4a q A c A' c'), .agg (v4a r X d X' d')] w fun e w' => e = .returned (.bool (same4 q r)) ∧ Below w.heap.size w w' := r5same q r A c A' c' X d X' d' B w hB hA hA' hX hX'
end Go.Proofs.YtpoigngpdcmipaaGreat
namespace Go.Proofs.YtpoigngpdcmipaaGreat
open Go.RowKit
section
variable (b : List UInt8) (A : Option Addr) (c : Nat) (w : World)
set_option maxRecDepth 100000 in
set_option maxHeartbeats 2000000 in
theorem c4quoted (B : Nat) (hR : Arg w B A c b) (hB : B ≤ w.heap.size) (hl : b.length ≤ 1000000) :
    Calls Tryz.prog 113 #[.slice A b.length c] w fun e w' => ∃ P p P' p', e = .returned (.tuple #[v4v (prsV b true) P p P' p', .int .i64 (prsE b true)]) ∧ Made w w' (.slice P (prsV b true).opt.length p) (prsV b true).opt ∧ Made w w' (.slice P' (prsV b true).dat.length p') (prsV b true).dat := by
  have hBW : Below w.heap.size w (w.alloc (.cells (v4a p4z none 0 none 0) 46)) := (Below.refl w.heap.size w).alloc (Nat.le_refl _) _
  have hg := World.alloc_heap_new w (.cells (v4a p4z none 0 none 0) 46)
  have hz : w.heap.size < (w.alloc (.cells (v4a p4z none 0 none 0) 46)).heap.size := by simp
  have hcap := hR.cap
  go_enter Tryz.func113, Tryz.ntmps113
  go_upto_region 1 with fail
  rw [show #[.int .i64 0, .int .i64 0, .int .i64 0, .int .i64 0, .int .i64 0, .int .i64 0, .int .i64 0, .bool false, .bool false, .slice none 0 0, .slice none 0 0] = v4a p4z none 0 none 0 from rfl]
  generalize w.alloc (.cells (v4a p4z none 0 none 0) 46) = W at *
  have hEE : bad4 b true = lay4 b true := by
    rw [bad4_lay]
    by_cases h : lay4 b true = 0
    · rw [if_pos h, if_neg (by simp), h]
    · rw [if_neg h]
  have hPE : prsE b true = lay4 b true := by
    rw [prsE, hEE]
    by_cases h : lay4 b true = 0
    · rw [if_pos h, if_neg (by simp), h]
    · rw [if_neg h]
  by_cases h0 : lay4 b true = 0
  · obtain ⟨l20, ll, ln, -⟩ := lay4_zero h0
    obtain ⟨H, hH⟩ : ∃ n : Nat, (n : Int) = hlen b := ⟨(hlen b).toNat, by omega⟩
    obtain ⟨Z, hZ⟩ : ∃ n : Nat, (n : Int) = min (n2 b 2) (b.length : Int) := ⟨(min (n2 b 2) (b.length : Int)).toNat, by omega⟩
    have hLV : layV (hlen b) (min (n2 b 2) (b.length : Int)) (lay4 b true) = .tuple #[.int .i64 (H : Int), .int .i64 (Z : Int), .int .i64 0] := by
      rw [h0, layV, if_pos rfl, if_pos rfl, hH, hZ]
    obtain ⟨D, hD⟩ : ∃ l, l = (b.take Z).drop H := ⟨_, rfl⟩
    obtain ⟨q, hq⟩ : ∃ q, q = fl4 b D := ⟨_, rfl⟩
    have HR := Lib.hid (show raw4 b = q by rw [raw4, hq, hD, ← hZ, ← hH, Int.toNat_natCast, Int.toNat_natCast])
    have HE := Lib.hid (show prsE b true = 0 by rw [hPE, h0])
    have HV := Lib.hid (show prsV b true = q by rw [prsV, if_pos HE.out, HR.out])
    have HLV := Lib.hid hLV
    have HQ := Lib.hid hq
    have h20 : 20 ≤ H := by omega
    have hHZ : H ≤ Z := by omega
    have hZb : Z ≤ b.length := by omega
    have HH := Lib.hid hH
    have HD := Lib.hid hD
    clear hEE hPE h0 l20 ll ln hZ hLV hD hq hH
    have hx1 := hBW.size
    go_upto_region 4 with (go_at_call 81; refine (c4layout b A c B true _ (hR.below (hBW.mono hB)) hl).mono ?_; rintro e w1 ⟨rfl, rfl⟩; rw [HLV.out])
    have hg3 : ∀ w3 : World, Below W.heap.size W w3 → w3.heap[w.heap.size]? = some (.cells (v4a p4z none 0 none 0) 46 (0, 0)) := fun w3 h => (h.block _ hz).trans hg
    go_wp2_with (first
      | (go_at_call 83; refine (c4read b A c _ B H Z D (hR.below (hBW.mono hB)) (Nat.le_trans hB hBW.size) hl HH.out h20 hHZ hZb HD.out).mono ?_; rintro e w3 ⟨P, p, P', p', rfl, mo, md⟩; rw [← HQ.out] at mo md; rw [← HQ.out]; have x3 := mo.below; have hg4 := hg3 _ x3)
      | ((with_reducible show wpList _ _ _ (Oper.mk _ (Op.store _ _ _) _ _ _ _ :: _) _ _); refine v4_store (g := w.heap.size) (cs := v4a q P p P' p') rfl rfl hg4 rfl rfl (v4a_one _ _ _ _ _) ?_))
    exact bodyPost_ret (res2 rfl rfl (run_loadVar_row _ _ _ 46 (v4a q P p P' p') _ _ (setRow_heap _ _ _ _ _ _ hg4) Tryz.underlying46 rfl (by kernel_rfl))) rfl ⟨P, p, P', p', by rw [HV.out, HE.out]; rfl, by rw [HV.out]; exact mo.row hBW hz, by rw [HV.out]; exact md.row hBW hz⟩
  · have HE := Lib.hid hPE
    have HV := Lib.hid (show prsV b true = p4z by rw [prsV, HE.out, if_neg h0])
    have hLV := Lib.hid (layV_no (n := hlen b) (s := min (n2 b 2) (b.length : Int)) h0)
    obtain ⟨E, hE⟩ : ∃ n, n = lay4 b true := ⟨_, rfl⟩
    rw [← hE] at HE h0
    have dE : (E != 0) = true := by simpa using h0
    have HEE := Lib.hid hE
    clear hE hEE hPE
    go_wp2_with (first | ((with_reducible show wpList _ _ _ (Oper.mk _ (Op.store _ _ _) _ _ _ _ :: _) _ _); refine v4_store (g := w.heap.size) (cs := v4a p4z none 0 none 0) rfl rfl hg rfl rfl (v4a_one _ _ _ _ _) ?_) | ((go_at_call 81; refine (c4layout b A c B true _ (hR.below (hBW.mono hB)) hl).mono ?_; rintro e w1 ⟨rfl, rfl⟩; rw [hLV.out, ← HEE.out])))
    exact bodyPost_ret (res2 rfl rfl (run_loadVar_row _ _ _ 46 (v4a p4z none 0 none 0) _ _ (setRow_heap _ _ _ _ _ _ hg) Tryz.underlying46 rfl (by kernel_rfl))) rfl ⟨none, 0, none, 0, by rw [HV.out, HE.out]; rfl, by rw [HV.out]; exact Made.nil _ _ (below_row hBW (Nat.le_refl _)), by rw [HV.out]; exact Made.nil _ _ (below_row hBW (Nat.le_refl _))⟩
end
end Go.Proofs.YtpoigngpdcmipaaGreat
