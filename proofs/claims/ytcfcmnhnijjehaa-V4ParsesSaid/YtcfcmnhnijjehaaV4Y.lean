/-
  Contract of the document's plain answers of layer 5: fields, with what it returns its own. Conditions are each theorem's own.
-/
import Derived.Test.YtcfcmnhnijjehaaV4X
namespace Go.Proofs.Ytcfcmnhnijjehaa
open Go.RowKit

section
variable (b dat : List UInt8) (A : Option Addr) (c : Nat) (A' : Option Addr) (c' : Nat) (w : World)
set_option maxRecDepth 100000 in
set_option maxHeartbeats 4000000 in
theorem r5fieldsM (B : Nat) (hR0 : Arg w B A c b) (hD : Arg w B A' c' dat) (hB : B ≤ w.heap.size) (hl : 20 ≤ b.length) (hl2 : b.length ≤ 1000000) (hn : 20 ≤ hlen b ∧ hlen b ≤ (b.length : Int)) (hd : dat.length ≤ 1000000) :
    Calls Try.prog 81 #[.slice A b.length c, .slice A' dat.length c'] w fun e w' => ∃ P p P' p', e = .returned (v4v (fl4 b dat) P p P' p') ∧ Made w w' (.slice P (fl4 b dat).opt.length p) (fl4 b dat).opt ∧ Made w w' (.slice P' dat.length p') dat := by
  obtain ⟨b0, off, rfl, hbB, hcell⟩ := hR0.rd (by omega)
  have hbw : b0 < w.heap.size := by omega
  go_enter Try.func81, Try.ntmps81
  go_upto_region 1 with fail
  have hBl : Below w.heap.size w (w.alloc (.cells #[.int .i64 0, .int .i64 0, .int .i64 0, .int .i64 0, .int .i64 0, .int .i64 0, .int .i64 0, .bool false, .bool false, .slice none 0 0, .slice none 0 0] 24)) := (Below.refl w.heap.size w).alloc (Nat.le_refl _) _
  have hgr := World.alloc_heap_new w (.cells #[.int .i64 0, .int .i64 0, .int .i64 0, .int .i64 0, .int .i64 0, .int .i64 0, .int .i64 0, .bool false, .bool false, .slice none 0 0, .slice none 0 0] 24)
  have hz : (w.alloc (.cells #[.int .i64 0, .int .i64 0, .int .i64 0, .int .i64 0, .int .i64 0, .int .i64 0, .int .i64 0, .bool false, .bool false, .slice none 0 0, .slice none 0 0] 24)).heap.size = w.heap.size + 1 := by simp
  have hR := (hR0.below (hBl.mono hB)).rd
  generalize w.alloc (.cells #[.int .i64 0, .int .i64 0, .int .i64 0, .int .i64 0, .int .i64 0, .int .i64 0, .int .i64 0, .bool false, .bool false, .slice none 0 0, .slice none 0 0] 24) = W at *
  have kc : ∀ j, j < b.length → W.cell? ⟨b0, off + j, none⟩ = some (.int .u8 (byt b j)) := fun j hj => by rw [hBl.cell (show b0 < w.heap.size by omega)]; exact hcell j hj
  have k0 : W.cell? ⟨b0, off, none⟩ = some (.int .u8 (byt b 0)) := kc 0 (by omega)
  have q0 := byt_lo b 0; have q0' := byt_hi b 0
  have tm : Int.tmod (byt b 0) 16 = byt b 0 % 16 := Int.tmod_eq_emod_of_nonneg q0
  have HH := Lib.hid (show hlen b = byt b 0 % 16 * 4 from rfl)
  have HN := Lib.hid hn
  clear hn
  go_upto_region 2 with fail
  rw [← HH.out]
  have hn := HN.out
  clear k0 q0 q0' tm
  have G6 := Lib.hid (get_two (b := b) (i := 6) (by omega))
  obtain ⟨F, hF⟩ : ∃ n, n = n2 b 6 := ⟨_, rfl⟩
  have HF := Lib.hid hF
  have hFb := n2_bd b 6
  rw [← hF] at hFb
  clear hF
  go_upto_region 3 with (go_at_call 80; refine (r5num _ b _ _ 6 2 _ hR (by omega)).mono ?_; rintro e w' ⟨rfl, rfl⟩; rw [show getV b 6 2 = F from by rw [HF.out]; exact G6.out])
  have G4 := Lib.hid (get_two (b := b) (i := 4) (by omega))
  have G12 := Lib.hid (get_four (b := b) (i := 12) (by omega))
  have G16 := Lib.hid (get_four (b := b) (i := 16) (by omega))
  clear G6
  have E1 := Lib.hid (IntWalk.i64_in (byt b 1) (by have := byt_lo b 1; have := byt_hi b 1; omega))
  have E8 := Lib.hid (IntWalk.i64_in (byt b 8) (by have := byt_lo b 8; have := byt_hi b 8; omega))
  have E9 := Lib.hid (IntWalk.i64_in (byt b 9) (by have := byt_lo b 9; have := byt_hi b 9; omega))
  have EF := Lib.hid (show IntKind.i64.wrap (Int.tmod F 8192 * 8) = F % 8192 * 8 by rw [Int.tmod_eq_emod_of_nonneg hFb.1]; exact IntWalk.i64_in _ (by omega))
  go_cut [7] from 8 (fun s w' => s = .pointer (some ⟨W.heap.size, 0, none⟩) ∧ ∃ m, w' = (W.alloc (.cells #[.int .i64 (byt b 1), .int .i64 (n2 b 4), .int .i64 (F % 8192 * 8), .int .i64 (byt b 8), .int .i64 (byt b 9), .int .i64 (n4 b 12), .int .i64 (n4 b 16), .bool false, .bool false, .slice none 0 0, .slice none 0 0] 24)).drewN m)
  case first =>
    refine wp_region_held_drew (S := fun w' => Below W.heap.size W w') (by kernel_rfl) (Below.refl _ W).drew (fun hS => ?_)
    refine held_pure (i := 0) (oi := ⟨some 16, _, _, _, _, _⟩) rfl (by kernel_rfl) (by kernel_rfl) (by kernel_rfl) (fun _ _ _ h => h) (by rfl) (v := ?_) (fun w hSw => ?_) hS (fun hS => ?_)
    rotate_left
    · go_simp; try with_reducible rfl
    try go_frame
    refine held_pure (i := 1) (oi := ⟨some 17, _, _, _, _, _⟩) rfl (by kernel_rfl) (by kernel_rfl) (by kernel_rfl) (fun _ _ _ h => h) (by rfl) (v := Value.pointer (some ⟨b0, off + 1, none⟩)) (fun w hSw => by go_simp; exact fun hx => absurd hx (by omega)) hS (fun hS => ?_)
    try go_frame
    refine held_pure (i := 2) (oi := ⟨some 18, _, _, _, _, _⟩) rfl (by kernel_rfl) (by kernel_rfl) (by kernel_rfl) (fun _ _ _ h => h) (by rfl) (fun w hSw => run_load_byte rfl rfl ((hSw.cell (show b0 < W.heap.size by omega)).trans (kc 1 (by omega)))) hS (fun hS => ?_)
    try go_frame
    refine held_pure (i := 3) (oi := ⟨some 19, _, _, _, _, _⟩) rfl (by kernel_rfl) (by kernel_rfl) (by kernel_rfl) (fun _ _ _ h => h) (by rfl) (v := ?_) (fun w hSw => ?_) hS (fun hS => ?_)
    rotate_left
    · go_simp; try with_reducible rfl
    try go_frame
    refine held_pure (i := 4) (oi := ⟨some 20, _, _, _, _, _⟩) rfl (by kernel_rfl) (by kernel_rfl) (by kernel_rfl) (fun _ _ _ h => h) (by rfl) (v := ?_) (fun w hSw => ?_) hS (fun hS => ?_)
    rotate_left
    · go_simp; try with_reducible rfl
    try go_frame
    refine held_pure (i := 6) (oi := ⟨some 22, _, _, _, _, _⟩) rfl (by kernel_rfl) (by kernel_rfl) (by kernel_rfl) (fun _ _ _ h => h) (by rfl) (v := ?_) (fun w hSw => ?_) hS (fun hS => ?_)
    rotate_left
    · go_simp; try with_reducible rfl
    try go_frame
    refine held_pure (i := 7) (oi := ⟨some 23, _, _, _, _, _⟩) rfl (by kernel_rfl) (by kernel_rfl) (by kernel_rfl) (fun _ _ _ h => h) (by rfl) (v := ?_) (fun w hSw => ?_) hS (fun hS => ?_)
    rotate_left
    · go_simp; try with_reducible rfl
    try go_frame
    refine held_pure (i := 8) (oi := ⟨some 24, _, _, _, _, _⟩) rfl (by kernel_rfl) (by kernel_rfl) (by kernel_rfl) (fun _ _ _ h => h) (by rfl) (v := ?_) (fun w hSw => ?_) hS (fun hS => ?_)
    rotate_left
    · go_simp; try with_reducible rfl
    try go_frame
    refine held_pure (i := 9) (oi := ⟨some 25, _, _, _, _, _⟩) rfl (by kernel_rfl) (by kernel_rfl) (by kernel_rfl) (fun _ _ _ h => h) (by rfl) (v := ?_) (fun w hSw => ?_) hS (fun hS => ?_)
    rotate_left
    · go_simp; try with_reducible rfl
    try go_frame
    refine held_pure (i := 10) (oi := ⟨some 26, _, _, _, _, _⟩) rfl (by kernel_rfl) (by kernel_rfl) (by kernel_rfl) (fun _ _ _ h => h) (by rfl) (v := Value.pointer (some ⟨b0, off + 8, none⟩)) (fun w hSw => by go_simp; exact fun hx => absurd hx (by omega)) hS (fun hS => ?_)
    try go_frame
    refine held_pure (i := 11) (oi := ⟨some 27, _, _, _, _, _⟩) rfl (by kernel_rfl) (by kernel_rfl) (by kernel_rfl) (fun _ _ _ h => h) (by rfl) (fun w hSw => run_load_byte rfl rfl ((hSw.cell (show b0 < W.heap.size by omega)).trans (kc 8 (by omega)))) hS (fun hS => ?_)
    try go_frame
    refine held_pure (i := 12) (oi := ⟨some 28, _, _, _, _, _⟩) rfl (by kernel_rfl) (by kernel_rfl) (by kernel_rfl) (fun _ _ _ h => h) (by rfl) (v := ?_) (fun w hSw => ?_) hS (fun hS => ?_)
    rotate_left
    · go_simp; try with_reducible rfl
    try go_frame
    refine held_pure (i := 13) (oi := ⟨some 29, _, _, _, _, _⟩) rfl (by kernel_rfl) (by kernel_rfl) (by kernel_rfl) (fun _ _ _ h => h) (by rfl) (v := ?_) (fun w hSw => ?_) hS (fun hS => ?_)
    rotate_left
    · go_simp; try with_reducible rfl
    try go_frame
    refine held_pure (i := 14) (oi := ⟨some 30, _, _, _, _, _⟩) rfl (by kernel_rfl) (by kernel_rfl) (by kernel_rfl) (fun _ _ _ h => h) (by rfl) (v := Value.pointer (some ⟨b0, off + 9, none⟩)) (fun w hSw => by go_simp; exact fun hx => absurd hx (by omega)) hS (fun hS => ?_)
    try go_frame
    refine held_pure (i := 15) (oi := ⟨some 31, _, _, _, _, _⟩) rfl (by kernel_rfl) (by kernel_rfl) (by kernel_rfl) (fun _ _ _ h => h) (by rfl) (fun w hSw => run_load_byte rfl rfl ((hSw.cell (show b0 < W.heap.size by omega)).trans (kc 9 (by omega)))) hS (fun hS => ?_)
    try go_frame
    refine held_pure (i := 16) (oi := ⟨some 32, _, _, _, _, _⟩) rfl (by kernel_rfl) (by kernel_rfl) (by kernel_rfl) (fun _ _ _ h => h) (by rfl) (v := ?_) (fun w hSw => ?_) hS (fun hS => ?_)
    rotate_left
    · go_simp; try with_reducible rfl
    try go_frame
    refine held_pure (i := 17) (oi := ⟨some 33, _, _, _, _, _⟩) rfl (by kernel_rfl) (by kernel_rfl) (by kernel_rfl) (fun _ _ _ h => h) (by rfl) (v := ?_) (fun w hSw => ?_) hS (fun hS => ?_)
    rotate_left
    · go_simp; try with_reducible rfl
    try go_frame
    refine held_pure (i := 19) (oi := ⟨some 35, _, _, _, _, _⟩) rfl (by kernel_rfl) (by kernel_rfl) (by kernel_rfl) (fun _ _ _ h => h) (by rfl) (v := ?_) (fun w hSw => ?_) hS (fun hS => ?_)
    rotate_left
    · go_simp; try with_reducible rfl
    try go_frame
    refine wpAnyH_ready (rs := [5, 22]) (by kernel_rfl) (by simp) (AllReadyH.cons (o := ⟨some 21, _, _, _, _, _⟩) rfl (fun K hK => ?_) (AllReadyH.cons (o := ⟨some 7, _, _, _, _, _⟩) rfl (fun K hK => ?_) AllReadyH.nil))
    · rw [if_pos (by rfl)]
      go_simp
      refine (r5num _ b _ _ 4 2 _ (hR.below (hS.mono (by omega))) (by omega)).mono ?_
      rintro e w5 ⟨rfl, rfl⟩
      rw [show getV b 4 2 = n2 b 4 from G4.out]
      show K _ _
      refine hK.out _ _ hS (fun hS => ?_)
      clear hK K
      try go_frame
      refine wpAnyH_ready (rs := [18, 22]) (by kernel_rfl) (by simp) (AllReadyH.cons (o := ⟨some 34, _, _, _, _, _⟩) rfl (fun K hK => ?_) (AllReadyH.cons (o := ⟨some 7, _, _, _, _, _⟩) rfl (fun K hK => ?_) AllReadyH.nil))
      · rw [if_pos (by rfl)]
        go_simp
        refine (r5num _ b _ _ 12 4 _ (hR.below (hS.mono (by omega))) (by omega)).mono ?_
        rintro e w18 ⟨rfl, rfl⟩
        rw [show getV b 12 4 = n4 b 12 from G12.out]
        show K _ _
        refine hK.out _ _ hS (fun hS => ?_)
        clear hK K
        try go_frame
        refine wpAnyH_ready (rs := [20, 22]) (by kernel_rfl) (by simp) (AllReadyH.cons (o := ⟨some 36, _, _, _, _, _⟩) rfl (fun K hK => ?_) (AllReadyH.cons (o := ⟨some 7, _, _, _, _, _⟩) rfl (fun K hK => ?_) AllReadyH.nil))
        · rw [if_pos (by rfl)]
          go_simp
          refine (r5num _ b _ _ 16 4 _ (hR.below (hS.mono (by omega))) (by omega)).mono ?_
          rintro e w20 ⟨rfl, rfl⟩
          rw [show getV b 16 4 = n4 b 16 from G16.out]
          show K _ _
          refine hK.out _ _ hS (fun hS => ?_)
          clear hK K
          try go_frame
          refine held_pure (i := 21) (oi := ⟨some 37, _, _, _, _, _⟩) rfl (by kernel_rfl) (by kernel_rfl) (by kernel_rfl) (fun _ _ _ h => h) (by rfl) (v := ?_) (fun w hSw => ?_) hS (fun hS => ?_)
          rotate_left
          · go_simp; try with_reducible rfl
          try go_frame
          refine wpAnyH_ready (rs := [22]) (by kernel_rfl) (by simp) (AllReadyH.cons (o := ⟨some 7, _, _, _, _, _⟩) rfl (fun K hK => ?_) AllReadyH.nil)
          rw [if_pos (by rfl)]
          go_simp
          refine hK.out _ _ (hS.alloc hS.size _) (fun hS => ?_)
          clear hK K
          try go_frame
          refine wpAnyH_ready (rs := [23]) (by kernel_rfl) (by simp) (AllReadyH.cons (o := ⟨none, _, _, _, _, _⟩) rfl (fun K hK => ?_) AllReadyH.nil)
          rw [if_pos (by rfl)]
          refine wp_store_row 24 _ _ rfl (w.heap.size + 1) _ rfl rfl 24 _ (heap_new (by simp [hz])) (by kernel_rfl) rfl (by simp [Value.oneCell']) ?_
          repeat rw [setRow_drew]
          rw [setRow_new (by simp [hz])]
          refine hK.out _ _ (by first | exact (Below.refl W.heap.size W).drew.alloc (Nat.le_refl _) _ | exact ((Below.refl W.heap.size W).drew.alloc (Nat.le_refl _) _).drew | exact ((Below.refl W.heap.size W).alloc (Nat.le_refl _) _).drew | exact (((Below.refl W.heap.size W).alloc (Nat.le_refl _) _).drew).drew) (fun hS => ?_)
          clear hK K
          try go_frame
          refine wpAnyH_done (by kernel_rfl) ?_ _
          go_wp2_with fail
          go_meet
          refine ⟨by rw [hz], ?_⟩
          rw [E1.out, E8.out, E9.out, EF.out]
          first | exact ⟨1, rfl⟩ | exact ⟨2, rfl⟩ | exact ⟨3, rfl⟩ | exact ⟨4, rfl⟩
        · rw [if_pos (by rfl)]
          go_simp
          refine hK.out _ _ (hS.alloc hS.size _) (fun hS => ?_)
          clear hK K
          try go_frame
          refine wpAnyH_ready (rs := [20]) (by kernel_rfl) (by simp) (AllReadyH.cons (o := ⟨some 36, _, _, _, _, _⟩) rfl (fun K hK => ?_) AllReadyH.nil)
          rw [if_pos (by rfl)]
          go_simp
          refine (r5num _ b _ _ 16 4 _ (hR.below (hS.mono (by omega))) (by omega)).mono ?_
          rintro e w20 ⟨rfl, rfl⟩
          rw [show getV b 16 4 = n4 b 16 from G16.out]
          show K _ _
          refine hK.out _ _ hS (fun hS => ?_)
          clear hK K
          try go_frame
          refine held_pure (i := 21) (oi := ⟨some 37, _, _, _, _, _⟩) rfl (by kernel_rfl) (by kernel_rfl) (by kernel_rfl) (fun _ _ _ h => h) (by rfl) (v := ?_) (fun w hSw => ?_) hS (fun hS => ?_)
          rotate_left
          · go_simp; try with_reducible rfl
          try go_frame
          refine wpAnyH_ready (rs := [23]) (by kernel_rfl) (by simp) (AllReadyH.cons (o := ⟨none, _, _, _, _, _⟩) rfl (fun K hK => ?_) AllReadyH.nil)
          rw [if_pos (by rfl)]
          refine wp_store_row 24 _ _ rfl (w.heap.size + 1) _ rfl rfl 24 _ (heap_new (by simp [hz])) (by kernel_rfl) rfl (by simp [Value.oneCell']) ?_
          repeat rw [setRow_drew]
          rw [setRow_new (by simp [hz])]
          refine hK.out _ _ (by first | exact (Below.refl W.heap.size W).drew.alloc (Nat.le_refl _) _ | exact ((Below.refl W.heap.size W).drew.alloc (Nat.le_refl _) _).drew | exact ((Below.refl W.heap.size W).alloc (Nat.le_refl _) _).drew | exact (((Below.refl W.heap.size W).alloc (Nat.le_refl _) _).drew).drew) (fun hS => ?_)
          clear hK K
          try go_frame
          refine wpAnyH_done (by kernel_rfl) ?_ _
          go_wp2_with fail
          go_meet
          refine ⟨by rw [hz], ?_⟩
          rw [E1.out, E8.out, E9.out, EF.out]
          first | exact ⟨1, rfl⟩ | exact ⟨2, rfl⟩ | exact ⟨3, rfl⟩ | exact ⟨4, rfl⟩
      · rw [if_pos (by rfl)]
        go_simp
        refine hK.out _ _ (hS.alloc hS.size _) (fun hS => ?_)
        clear hK K
        try go_frame
        refine wpAnyH_ready (rs := [18]) (by kernel_rfl) (by simp) (AllReadyH.cons (o := ⟨some 34, _, _, _, _, _⟩) rfl (fun K hK => ?_) AllReadyH.nil)
        rw [if_pos (by rfl)]
        go_simp
        refine (r5num _ b _ _ 12 4 _ (hR.below (hS.mono (by omega))) (by omega)).mono ?_
        rintro e w18 ⟨rfl, rfl⟩
        rw [show getV b 12 4 = n4 b 12 from G12.out]
        show K _ _
        refine hK.out _ _ hS (fun hS => ?_)
        clear hK K
        try go_frame
        refine wpAnyH_ready (rs := [20]) (by kernel_rfl) (by simp) (AllReadyH.cons (o := ⟨some 36, _, _, _, _, _⟩) rfl (fun K hK => ?_) AllReadyH.nil)
        rw [if_pos (by rfl)]
        go_simp
        refine (r5num _ b _ _ 16 4 _ (hR.below (hS.mono (by omega))) (by omega)).mono ?_
        rintro e w20 ⟨rfl, rfl⟩
        rw [show getV b 16 4 = n4 b 16 from G16.out]
        show K _ _
        refine hK.out _ _ hS (fun hS => ?_)
        clear hK K
        try go_frame
        refine held_pure (i := 21) (oi := ⟨some 37, _, _, _, _, _⟩) rfl (by kernel_rfl) (by kernel_rfl) (by kernel_rfl) (fun _ _ _ h => h) (by rfl) (v := ?_) (fun w hSw => ?_) hS (fun hS => ?_)
        rotate_left
        · go_simp; try with_reducible rfl
        try go_frame
        refine wpAnyH_ready (rs := [23]) (by kernel_rfl) (by simp) (AllReadyH.cons (o := ⟨none, _, _, _, _, _⟩) rfl (fun K hK => ?_) AllReadyH.nil)
        rw [if_pos (by rfl)]
        refine wp_store_row 24 _ _ rfl (w.heap.size + 1) _ rfl rfl 24 _ (heap_new (by simp [hz])) (by kernel_rfl) rfl (by simp [Value.oneCell']) ?_
        repeat rw [setRow_drew]
        rw [setRow_new (by simp [hz])]
        refine hK.out _ _ (by first | exact (Below.refl W.heap.size W).drew.alloc (Nat.le_refl _) _ | exact ((Below.refl W.heap.size W).drew.alloc (Nat.le_refl _) _).drew | exact ((Below.refl W.heap.size W).alloc (Nat.le_refl _) _).drew | exact (((Below.refl W.heap.size W).alloc (Nat.le_refl _) _).drew).drew) (fun hS => ?_)
        clear hK K
        try go_frame
        refine wpAnyH_done (by kernel_rfl) ?_ _
        go_wp2_with fail
        go_meet
        refine ⟨by rw [hz], ?_⟩
        rw [E1.out, E8.out, E9.out, EF.out]
        first | exact ⟨1, rfl⟩ | exact ⟨2, rfl⟩ | exact ⟨3, rfl⟩ | exact ⟨4, rfl⟩
    · rw [if_pos (by rfl)]
      go_simp
      refine hK.out _ _ (hS.alloc hS.size _) (fun hS => ?_)
      clear hK K
      try go_frame
      refine wpAnyH_ready (rs := [5]) (by kernel_rfl) (by simp) (AllReadyH.cons (o := ⟨some 21, _, _, _, _, _⟩) rfl (fun K hK => ?_) AllReadyH.nil)
      rw [if_pos (by rfl)]
      go_simp
      refine (r5num _ b _ _ 4 2 _ (hR.below (hS.mono (by omega))) (by omega)).mono ?_
      rintro e w5 ⟨rfl, rfl⟩
      rw [show getV b 4 2 = n2 b 4 from G4.out]
      show K _ _
      refine hK.out _ _ hS (fun hS => ?_)
      clear hK K
      try go_frame
      refine wpAnyH_ready (rs := [18]) (by kernel_rfl) (by simp) (AllReadyH.cons (o := ⟨some 34, _, _, _, _, _⟩) rfl (fun K hK => ?_) AllReadyH.nil)
      rw [if_pos (by rfl)]
      go_simp
      refine (r5num _ b _ _ 12 4 _ (hR.below (hS.mono (by omega))) (by omega)).mono ?_
      rintro e w18 ⟨rfl, rfl⟩
      rw [show getV b 12 4 = n4 b 12 from G12.out]
      show K _ _
      refine hK.out _ _ hS (fun hS => ?_)
      clear hK K
      try go_frame
      refine wpAnyH_ready (rs := [20]) (by kernel_rfl) (by simp) (AllReadyH.cons (o := ⟨some 36, _, _, _, _, _⟩) rfl (fun K hK => ?_) AllReadyH.nil)
      rw [if_pos (by rfl)]
      go_simp
      refine (r5num _ b _ _ 16 4 _ (hR.below (hS.mono (by omega))) (by omega)).mono ?_
      rintro e w20 ⟨rfl, rfl⟩
      rw [show getV b 16 4 = n4 b 16 from G16.out]
      show K _ _
      refine hK.out _ _ hS (fun hS => ?_)
      clear hK K
      try go_frame
      refine held_pure (i := 21) (oi := ⟨some 37, _, _, _, _, _⟩) rfl (by kernel_rfl) (by kernel_rfl) (by kernel_rfl) (fun _ _ _ h => h) (by rfl) (v := ?_) (fun w hSw => ?_) hS (fun hS => ?_)
      rotate_left
      · go_simp; try with_reducible rfl
      try go_frame
      refine wpAnyH_ready (rs := [23]) (by kernel_rfl) (by simp) (AllReadyH.cons (o := ⟨none, _, _, _, _, _⟩) rfl (fun K hK => ?_) AllReadyH.nil)
      rw [if_pos (by rfl)]
      refine wp_store_row 24 _ _ rfl (w.heap.size + 1) _ rfl rfl 24 _ (heap_new (by simp [hz])) (by kernel_rfl) rfl (by simp [Value.oneCell']) ?_
      repeat rw [setRow_drew]
      rw [setRow_new (by simp [hz])]
      refine hK.out _ _ (by first | exact (Below.refl W.heap.size W).drew.alloc (Nat.le_refl _) _ | exact ((Below.refl W.heap.size W).drew.alloc (Nat.le_refl _) _).drew | exact ((Below.refl W.heap.size W).alloc (Nat.le_refl _) _).drew | exact (((Below.refl W.heap.size W).alloc (Nat.le_refl _) _).drew).drew) (fun hS => ?_)
      clear hK K
      try go_frame
      refine wpAnyH_done (by kernel_rfl) ?_ _
      go_wp2_with fail
      go_meet
      refine ⟨by rw [hz], ?_⟩
      rw [E1.out, E8.out, E9.out, EF.out]
      first | exact ⟨1, rfl⟩ | exact ⟨2, rfl⟩ | exact ⟨3, rfl⟩ | exact ⟨4, rfl⟩
  case rest =>
    obtain ⟨hs7, m3, hwc⟩ := hcut
    subst hs7
    subst hwc
    obtain ⟨D, hD⟩ : ∃ d, d = (F / 16384 % 2 == 1) := ⟨_, rfl⟩
    obtain ⟨M, hM⟩ : ∃ d, d = (F / 8192 % 2 == 1) := ⟨_, rfl⟩
    have d1 : Int.tdiv F 16384 = F / 16384 := Int.tdiv_eq_ediv_of_nonneg hFb.1
    have d2 : Int.tdiv F 8192 = F / 8192 := Int.tdiv_eq_ediv_of_nonneg hFb.1
    have d3 : Int.tmod (F / 16384) 2 = F / 16384 % 2 := Int.tmod_eq_emod_of_nonneg (by omega)
    have d4 : Int.tmod (F / 8192) 2 = F / 8192 % 2 := Int.tmod_eq_emod_of_nonneg (by omega)
    have d5 : (F / 16384 % 2 == 1) = D := hD.symm
    have d6 : (F / 8192 % 2 == 1) = M := hM.symm
    have HD := Lib.hid hD; have HM := Lib.hid hM
    clear hD hM
    go_upto_region 5 with fail
    rw [← hz]
    rw [set_newN W _ (#[.int .i64 (byt b 1), .int .i64 (n2 b 4), .int .i64 (F % 8192 * 8), .int .i64 (byt b 8), .int .i64 (byt b 9), .int .i64 (n4 b 12), .int .i64 (n4 b 16), .bool D, .bool false, .slice none 0 0, .slice none 0 0]) _ 7 m3 _ rfl, set_newN W _ (#[.int .i64 (byt b 1), .int .i64 (n2 b 4), .int .i64 (F % 8192 * 8), .int .i64 (byt b 8), .int .i64 (byt b 9), .int .i64 (n4 b 12), .int .i64 (n4 b 16), .bool D, .bool M, .slice none 0 0, .slice none 0 0]) _ 8 m3 _ rfl]
    have hX := heap_newN W (.cells (#[.int .i64 (byt b 1), .int .i64 (n2 b 4), .int .i64 (F % 8192 * 8), .int .i64 (byt b 8), .int .i64 (byt b 9), .int .i64 (n4 b 12), .int .i64 (n4 b 16), .bool D, .bool M, .slice none 0 0, .slice none 0 0]) 24) m3
    have hBX : Below W.heap.size W ((W.alloc (.cells (#[.int .i64 (byt b 1), .int .i64 (n2 b 4), .int .i64 (F % 8192 * 8), .int .i64 (byt b 8), .int .i64 (byt b 9), .int .i64 (n4 b 12), .int .i64 (n4 b 16), .bool D, .bool M, .slice none 0 0, .slice none 0 0]) 24)).drewN m3) := below_drewN ((Below.refl W.heap.size W).alloc (Nat.le_refl _) _) m3
    have HzX := Lib.hid (show ((W.alloc (.cells (#[.int .i64 (byt b 1), .int .i64 (n2 b 4), .int .i64 (F % 8192 * 8), .int .i64 (byt b 8), .int .i64 (byt b 9), .int .i64 (n4 b 12), .int .i64 (n4 b 16), .bool D, .bool M, .slice none 0 0, .slice none 0 0]) 24)).drewN m3).heap.size = W.heap.size + 1 by show (W.alloc _).heap.size = _; simp)
    generalize (W.alloc (.cells (#[.int .i64 (byt b 1), .int .i64 (n2 b 4), .int .i64 (F % 8192 * 8), .int .i64 (byt b 8), .int .i64 (byt b 9), .int .i64 (n4 b 12), .int .i64 (n4 b 16), .bool D, .bool M, .slice none 0 0, .slice none 0 0]) 24)).drewN m3 = X at *
    have HZ := Lib.hid hz
    clear hz d1 d2 d3 d4 d5 d6 E1 E8 E9 EF G4 G12 G16
    have hcp := hR0.cap
    obtain ⟨O, hO⟩ : ∃ l, l = (b.take (hlen b).toNat).drop 20 := ⟨_, rfl⟩
    have HOl := Lib.hid (show O.length = (hlen b).toNat - 20 by rw [hO]; simp; omega)
    have HO := Lib.hid hO
    have hrb : Rd X B (some ⟨b0, off + 20, none⟩) O := by
      intro h0
      have hl := HOl.out
      refine ⟨b0, off + 20, rfl, hbB, fun j hj => ?_⟩
      rw [(hBl.trans (hBX.mono (by have := HZ.out; omega))).cell (show b0 < w.heap.size by omega), hO, Nat.add_assoc, hcell _ (by omega)]
      simp [byt, show 20 + j < (hlen b).toNat by omega]
    have hra : c = 20 → Rd X B (some ⟨b0, off, none⟩) O := fun e h0 => by have hl := HOl.out; omega
    clear hO
    by_cases hc20 : c = 20
    · have hR2 := hra hc20
      subst hc20
      go_upto_region 6 with (first
        | (at_builtin; (refine append_rd rfl _ _ rfl X.heap.size (.slice none 0 0) 0 [] rfl (World.ownsRow_nil _ _ _ _) B (some ⟨b0, off, none⟩) _ O (by rw [HOl.out]; rfl) (fun e => by cases e) hR2 (by have := HOl.out; omega) (Nat.le_refl _) ?_; intro v5 w5 own5 grow5; obtain ⟨A5, c5, rfl, owm5⟩ := own_made (bs := O) own5 (by simp) (by simp); have x5 : Below X.heap.size X w5 := (Below.refl X.heap.size X).grown grow5 (Nat.le_refl _) (fun k hk => by cases hk); have hD5 : Rd w5 B A' dat := ((hD.rd.below ((hBl.trans (hBX.mono (by have := HZ.out; omega))).mono hB))).below (x5.mono (by have := HZ.out; have := HzX.out; omega))))
        | (at_builtin; go_loud (refine append_rd rfl _ _ rfl w5.heap.size (.slice none 0 0) 0 [] rfl (World.ownsRow_nil _ _ _ _) B A' c' dat rfl hD.none_ hD5 (by omega) (Nat.le_refl _) ?_; intro v6 w6 own6 grow6; obtain ⟨A6, c6, rfl, owm6⟩ := own_made (bs := dat) own6 (by simp) (by simp); have x6 : Below w5.heap.size w5 w6 := (Below.refl w5.heap.size w5).grown grow6 (Nat.le_refl _) (fun k hk => by cases hk); have hg6 := (x6.block W.heap.size (by have := x5.size; have := HzX.out; omega)).trans ((x5.block W.heap.size (by have := HzX.out; omega)).trans hX); have k9 : w6.cell? ⟨W.heap.size, 9, none⟩ = some (.slice none 0 0) := by { rw [cell_of_row _ _ _ _ _ _ hg6]; rfl }; have f9 := frozen_of_row w6 W.heap.size 9 _ _ hg6; have hg7 := heap_setCell_same w6 W.heap.size 9 _ _ (.slice A5 O.length c5) hg6; have k10 : (w6.setCell ⟨W.heap.size, 9, none⟩ (.slice A5 O.length c5)).cell? ⟨W.heap.size, 10, none⟩ = some (.slice none 0 0) := by { rw [cell_of_row _ _ _ _ _ _ hg7]; rfl }; have f10 := frozen_of_row _ W.heap.size 10 _ _ hg7)))
      have hg8 := heap_setCell_same _ W.heap.size 10 _ _ (.slice A6 dat.length c6) hg7
      have hg9 := hg8.trans (show some (Obj.cells _ _ _) = some (.cells (v4a (fl4 b dat) A5 c5 A6 c6) 24 (0, 0)) from by rw [HD.out, HM.out, HF.out, HO.out]; rfl)
      have hr6 := (x6.block w.heap.size (by have := x5.size; have := HzX.out; have := HZ.out; omega)).trans ((x5.block w.heap.size (by have := HzX.out; have := HZ.out; omega)).trans ((hBX.block w.heap.size (by have := HZ.out; omega)).trans hgr))
      have hne : w.heap.size ≠ W.heap.size := by have := HZ.out; omega
      have hr8 := ((heap_setCell_other _ ⟨W.heap.size, 10, none⟩ w.heap.size (.slice A6 dat.length c6) hne).trans (heap_setCell_other w6 ⟨W.heap.size, 9, none⟩ w.heap.size (.slice A5 O.length c5) hne)).trans hr6
      go_wp2_with (first
        | ((with_reducible show wpList _ _ _ (Oper.mk _ (Op.load _ _) _ _ _ _ :: _) _ _); refine v4_load (g := W.heap.size) rfl hg9 rfl ?_)
        | ((with_reducible show wpList _ _ _ (Oper.mk _ (Op.store _ _ _) _ _ _ _ :: _) _ _); refine wpList_plain rfl fun _ hK => wp_store_row 24 _ _ rfl w.heap.size _ rfl rfl 24 _ hr8 (by kernel_rfl) rfl (by simp [v4a, Value.oneCell']) (hK _ _ ?_)))
      have oz5 := own_setRow (own_setCell (own_setCell (own_below owm5 x6) (p := ⟨W.heap.size, 9, none⟩) (u := .slice A5 O.length c5) (by have := HzX.out; show W.heap.size < _; omega)) (p := ⟨W.heap.size, 10, none⟩) (u := .slice A6 dat.length c6) (by have := HzX.out; show W.heap.size < _; omega)) (g := w.heap.size) (cs := v4a (fl4 b dat) A5 c5 A6 c6) (by have := HzX.out; have := HZ.out; omega)
      have oz6 := own_setRow (own_setCell (own_setCell owm6 (p := ⟨W.heap.size, 9, none⟩) (u := .slice A5 O.length c5) (by have := HzX.out; have := x5.size; show W.heap.size < _; omega)) (p := ⟨W.heap.size, 10, none⟩) (u := .slice A6 dat.length c6) (by have := HzX.out; have := x5.size; show W.heap.size < _; omega)) (g := w.heap.size) (cs := v4a (fl4 b dat) A5 c5 A6 c6) (by have := HzX.out; have := x5.size; have := HZ.out; omega)
      have bz := (((((hBl.trans (hBX.mono (by have := HZ.out; omega))).trans (x5.mono (by have := HzX.out; have := HZ.out; omega))).trans (x6.mono (by have := x5.size; have := HzX.out; have := HZ.out; omega))).setCell (p := ⟨W.heap.size, 9, none⟩) (by have := HZ.out; show _ ≤ W.heap.size; omega) (.slice A5 O.length c5)).setCell (p := ⟨W.heap.size, 10, none⟩) (by have := HZ.out; show _ ≤ W.heap.size; omega) (.slice A6 dat.length c6))
      have eO : (fl4 b dat).opt = O := HO.out.symm
      exact bodyPost_ret (v4_result rfl rfl (setRow_heap _ _ _ _ _ _ hr8) rfl) rfl ⟨A5, c5, A6, c6, rfl, by rw [eO]; exact Made.of_own (own_base oz5 (by have := HzX.out; have := HZ.out; omega)) (below_row bz (Nat.le_refl _)), Made.of_own (own_base oz6 (by have := x5.size; have := HzX.out; have := HZ.out; omega)) (below_row bz (Nat.le_refl _))⟩
    · go_upto_region 6 with (first
        | (at_builtin; (refine append_rd rfl _ _ rfl X.heap.size (.slice none 0 0) 0 [] rfl (World.ownsRow_nil _ _ _ _) B (some ⟨b0, off + 20, none⟩) _ O (by rw [HOl.out]; rfl) (fun e => by cases e) hrb (by have := HOl.out; omega) (Nat.le_refl _) ?_; intro v5 w5 own5 grow5; obtain ⟨A5, c5, rfl, owm5⟩ := own_made (bs := O) own5 (by simp) (by simp); have x5 : Below X.heap.size X w5 := (Below.refl X.heap.size X).grown grow5 (Nat.le_refl _) (fun k hk => by cases hk); have hD5 : Rd w5 B A' dat := ((hD.rd.below ((hBl.trans (hBX.mono (by have := HZ.out; omega))).mono hB))).below (x5.mono (by have := HZ.out; have := HzX.out; omega))))
        | (at_builtin; go_loud (refine append_rd rfl _ _ rfl w5.heap.size (.slice none 0 0) 0 [] rfl (World.ownsRow_nil _ _ _ _) B A' c' dat rfl hD.none_ hD5 (by omega) (Nat.le_refl _) ?_; intro v6 w6 own6 grow6; obtain ⟨A6, c6, rfl, owm6⟩ := own_made (bs := dat) own6 (by simp) (by simp); have x6 : Below w5.heap.size w5 w6 := (Below.refl w5.heap.size w5).grown grow6 (Nat.le_refl _) (fun k hk => by cases hk); have hg6 := (x6.block W.heap.size (by have := x5.size; have := HzX.out; omega)).trans ((x5.block W.heap.size (by have := HzX.out; omega)).trans hX); have k9 : w6.cell? ⟨W.heap.size, 9, none⟩ = some (.slice none 0 0) := by { rw [cell_of_row _ _ _ _ _ _ hg6]; rfl }; have f9 := frozen_of_row w6 W.heap.size 9 _ _ hg6; have hg7 := heap_setCell_same w6 W.heap.size 9 _ _ (.slice A5 O.length c5) hg6; have k10 : (w6.setCell ⟨W.heap.size, 9, none⟩ (.slice A5 O.length c5)).cell? ⟨W.heap.size, 10, none⟩ = some (.slice none 0 0) := by { rw [cell_of_row _ _ _ _ _ _ hg7]; rfl }; have f10 := frozen_of_row _ W.heap.size 10 _ _ hg7)))
      have hg8 := heap_setCell_same _ W.heap.size 10 _ _ (.slice A6 dat.length c6) hg7
      have hg9 := hg8.trans (show some (Obj.cells _ _ _) = some (.cells (v4a (fl4 b dat) A5 c5 A6 c6) 24 (0, 0)) from by rw [HD.out, HM.out, HF.out, HO.out]; rfl)
      have hr6 := (x6.block w.heap.size (by have := x5.size; have := HzX.out; have := HZ.out; omega)).trans ((x5.block w.heap.size (by have := HzX.out; have := HZ.out; omega)).trans ((hBX.block w.heap.size (by have := HZ.out; omega)).trans hgr))
      have hne : w.heap.size ≠ W.heap.size := by have := HZ.out; omega
      have hr8 := ((heap_setCell_other _ ⟨W.heap.size, 10, none⟩ w.heap.size (.slice A6 dat.length c6) hne).trans (heap_setCell_other w6 ⟨W.heap.size, 9, none⟩ w.heap.size (.slice A5 O.length c5) hne)).trans hr6
      go_wp2_with (first
        | ((with_reducible show wpList _ _ _ (Oper.mk _ (Op.load _ _) _ _ _ _ :: _) _ _); refine v4_load (g := W.heap.size) rfl hg9 rfl ?_)
        | ((with_reducible show wpList _ _ _ (Oper.mk _ (Op.store _ _ _) _ _ _ _ :: _) _ _); refine wpList_plain rfl fun _ hK => wp_store_row 24 _ _ rfl w.heap.size _ rfl rfl 24 _ hr8 (by kernel_rfl) rfl (by simp [v4a, Value.oneCell']) (hK _ _ ?_)))
      have oz5 := own_setRow (own_setCell (own_setCell (own_below owm5 x6) (p := ⟨W.heap.size, 9, none⟩) (u := .slice A5 O.length c5) (by have := HzX.out; show W.heap.size < _; omega)) (p := ⟨W.heap.size, 10, none⟩) (u := .slice A6 dat.length c6) (by have := HzX.out; show W.heap.size < _; omega)) (g := w.heap.size) (cs := v4a (fl4 b dat) A5 c5 A6 c6) (by have := HzX.out; have := HZ.out; omega)
      have oz6 := own_setRow (own_setCell (own_setCell owm6 (p := ⟨W.heap.size, 9, none⟩) (u := .slice A5 O.length c5) (by have := HzX.out; have := x5.size; show W.heap.size < _; omega)) (p := ⟨W.heap.size, 10, none⟩) (u := .slice A6 dat.length c6) (by have := HzX.out; have := x5.size; show W.heap.size < _; omega)) (g := w.heap.size) (cs := v4a (fl4 b dat) A5 c5 A6 c6) (by have := HzX.out; have := x5.size; have := HZ.out; omega)
      have bz := (((((hBl.trans (hBX.mono (by have := HZ.out; omega))).trans (x5.mono (by have := HzX.out; have := HZ.out; omega))).trans (x6.mono (by have := x5.size; have := HzX.out; have := HZ.out; omega))).setCell (p := ⟨W.heap.size, 9, none⟩) (by have := HZ.out; show _ ≤ W.heap.size; omega) (.slice A5 O.length c5)).setCell (p := ⟨W.heap.size, 10, none⟩) (by have := HZ.out; show _ ≤ W.heap.size; omega) (.slice A6 dat.length c6))
      have eO : (fl4 b dat).opt = O := HO.out.symm
      exact bodyPost_ret (v4_result rfl rfl (setRow_heap _ _ _ _ _ _ hr8) rfl) rfl ⟨A5, c5, A6, c6, rfl, by rw [eO]; exact Made.of_own (own_base oz5 (by have := HzX.out; have := HZ.out; omega)) (below_row bz (Nat.le_refl _)), Made.of_own (own_base oz6 (by have := x5.size; have := HzX.out; have := HZ.out; omega)) (below_row bz (Nat.le_refl _))⟩
end
end Go.Proofs.Ytcfcmnhnijjehaa
