/-
  Contract of the document's Build of layer 6. Conditions are each theorem's own.
-/
import Derived.Test.YtcfcmnhnijjehaaV6G
namespace Go.Proofs.Ytcfcmnhnijjehaa
open Go.RowKit

section
variable (q : P6) (A : Option Addr) (c : Nat) (w : World)
set_option maxRecDepth 100000 in
set_option maxHeartbeats 1000000 in
theorem r6build (B : Nat) (hs : q.src.length = 16) (hd : q.dst.length = 16) (hl : q.dat.length ≤ 1000000) (hD : Arg w B A c q.dat) (hB0 : B ≤ w.heap.size) :
    Calls Try.prog 34 #[v6v q A c] w fun e w' => ∃ v, e = .returned (.tuple #[v, .int .i64 (chk6 q)]) ∧ (chk6 q ≠ 0 → v = .slice none 0 0 ∧ Below w.heap.size w w') ∧ (chk6 q = 0 → Made w w' v (bld6 q)) := by
  have hB : Below w.heap.size w (w.alloc (.cells (v6a q A c) 44)) := (Below.refl w.heap.size w).alloc (Nat.le_refl _) _
  have hAt := At6.new (q := q) (A := A) (c := c) w
  have hz : w.heap.size < (w.alloc (.cells (v6a q A c) 44)).heap.size := by simp
  unfold v6v
  rw [show (v6l q A c).toArray = v6a q A c from rfl]
  go_enter Try.func34, Try.ntmps34
  go_upto_region 1 with fail
  generalize w.alloc (.cells (v6a q A c) 44) = W at *
  by_cases hc : chk6 q = 0
  · obtain ⟨⟨a1, a2, a3, a4, a5, a6, a7, a8⟩, a9⟩ := chk6_zero hc
    have HC := Lib.hid hc
    clear hc
    go_upto_region 4 with (first
      | ((with_reducible show wpList _ _ _ (Oper.mk _ (Op.load 44 _) _ _ _ _ :: _) _ _); refine wpList_val rfl (run_load_v6 rfl rfl hAt (v6l_len hs hd)) ?_)
      | (go_at_call 38; refine (r6check q A c _ hs hd hl).mono ?_; rintro e w1 ⟨rfl, x1⟩; rw [HC.out]))
    have hAt1 := hAt.below x1 hz
    have k0 := hAt1.traffic; have k1 := hAt1.flow
    obtain ⟨N, hN⟩ : ∃ N, N = fst6 q := ⟨_, rfl⟩
    have HN := Lib.hid (show 1610612736 + q.traffic * 1048576 + q.flow = N from hN.symm)
    have HF : 0 ≤ N ∧ N < 4294967296 := by rw [hN, fst6]; omega
    have HH := Lib.hid (show hd6 q = be4 N ++ be2 (q.dat.length : Int) ++ [u8 q.next, u8 q.hop] by rw [hN]; rfl)
    clear hN
    obtain ⟨B4, hB4⟩ : ∃ b, b = putB [] N 4 := ⟨_, rfl⟩
    have HB4' := hB4
    rw [put_four HF.1 HF.2, List.nil_append] at HB4'
    have HL4 := Lib.hid (show B4.length = 4 by rw [HB4']; rfl)
    have HB5 := Lib.hid (show putB B4 (q.dat.length : Int) 2 = be4 N ++ be2 (q.dat.length : Int) by rw [put_two (by omega) a9, HB4'])
    have HB4 := Lib.hid hB4
    clear hB4 HB4'
    go_upto_region 5 with (go_at_call 64; rw [HN.out]; refine (rput_any none [] 0 0 N 4 _ (Arg.nil _ _) (by simp)).mono ?_; rintro e W1 ⟨v4, rfl, m4⟩; rw [← HB4.out] at m4; obtain ⟨A4, c4, rfl, arg4, ow4, x4⟩ := made_shape m4)
    have hb1 : Below W.heap.size W W1 := x1.trans (x4.mono x1.size)
    have e1 : IntKind.u8.wrap q.next = ((u8 q.next).toNat : Int) := by rw [u8_val, IntKind.wrap_u8]
    have e2 : IntKind.u8.wrap q.hop = ((u8 q.hop).toNat : Int) := by rw [u8_val, IntKind.wrap_u8]
    have E1 := Lib.hid e1; have E2 := Lib.hid e2
    clear k0 k1 hAt1 e1 e2
    go_cut [5] from 19 (fun s w' => ∃ A6 c6, s = .slice A6 (hd6 q).length c6 ∧ w'.ownsRow W1.heap.size 5 1 (.slice A6 (hd6 q).length c6) (hd6 q).length (row (hd6 q)) ∧ Below W1.heap.size W1 w')
    case first =>
      refine wp_region_held_drew (S := fun w' => Below W1.heap.size W1 w') (by kernel_rfl) (Below.refl _ W1).drew (fun hS => ?_)
      refine held_pure (i := 0) (oi := ⟨some 19, _, _, _, _, _⟩) rfl (by kernel_rfl) (by kernel_rfl) (by kernel_rfl) (fun _ _ _ h => h) (by rfl) (v := ?_) (fun w hSw => ?_) hS (fun hS => ?_)
      rotate_left
      · go_simp; try with_reducible rfl
      try go_frame
      refine held_pure (i := 1) (oi := ⟨some 20, _, _, _, _, _⟩) rfl (by kernel_rfl) (by kernel_rfl) (by kernel_rfl) (fun _ _ _ h => h) (by rfl) (v := ?_) (fun w hSw => ?_) hS (fun hS => ?_)
      rotate_left
      · go_simp; try with_reducible rfl
      try go_frame
      refine held_pure (i := 2) (oi := ⟨some 21, _, _, _, _, _⟩) rfl (by kernel_rfl) (by kernel_rfl) (by kernel_rfl) (fun _ _ _ h => h) (by rfl) (fun w hSw => run_load_sl rfl rfl ((hAt.below (hb1.trans (hSw.mono hb1.size)) hz).dat hs hd)) hS (fun hS => ?_)
      try go_frame
      refine held_pure (i := 3) (oi := ⟨some 22, _, _, _, _, _⟩) rfl (by kernel_rfl) (by kernel_rfl) (by kernel_rfl) (fun _ _ _ h => h) (by rfl) (v := ?_) (fun w hSw => ?_) hS (fun hS => ?_)
      rotate_left
      · go_simp; try with_reducible rfl
      try go_frame
      refine held_pure (i := 5) (oi := ⟨some 24, _, _, _, _, _⟩) rfl (by kernel_rfl) (by kernel_rfl) (by kernel_rfl) (fun _ _ _ h => h) (by rfl) (v := ?_) (fun w hSw => ?_) hS (fun hS => ?_)
      rotate_left
      · go_simp; try with_reducible rfl
      try go_frame
      refine held_pure (i := 6) (oi := ⟨some 25, _, _, _, _, _⟩) rfl (by kernel_rfl) (by kernel_rfl) (by kernel_rfl) (fun _ _ _ h => h) (by rfl) (fun w hSw => run_load_int rfl rfl ((hAt.below (hb1.trans (hSw.mono hb1.size)) hz).next)) hS (fun hS => ?_)
      try go_frame
      refine held_pure (i := 7) (oi := ⟨some 26, _, _, _, _, _⟩) rfl (by kernel_rfl) (by kernel_rfl) (by kernel_rfl) (fun _ _ _ h => h) (by rfl) (v := ?_) (fun w hSw => ?_) hS (fun hS => ?_)
      rotate_left
      · go_simp; try with_reducible rfl
      try go_frame
      refine held_pure (i := 8) (oi := ⟨some 27, _, _, _, _, _⟩) rfl (by kernel_rfl) (by kernel_rfl) (by kernel_rfl) (fun _ _ _ h => h) (by rfl) (v := ?_) (fun w hSw => ?_) hS (fun hS => ?_)
      rotate_left
      · go_simp; try with_reducible rfl
      try go_frame
      refine held_pure (i := 9) (oi := ⟨some 28, _, _, _, _, _⟩) rfl (by kernel_rfl) (by kernel_rfl) (by kernel_rfl) (fun _ _ _ h => h) (by rfl) (fun w hSw => run_load_int rfl rfl ((hAt.below (hb1.trans (hSw.mono hb1.size)) hz).hop)) hS (fun hS => ?_)
      try go_frame
      refine held_pure (i := 10) (oi := ⟨some 29, _, _, _, _, _⟩) rfl (by kernel_rfl) (by kernel_rfl) (by kernel_rfl) (fun _ _ _ h => h) (by rfl) (v := ?_) (fun w hSw => ?_) hS (fun hS => ?_)
      rotate_left
      · go_simp; try with_reducible rfl
      try go_frame
      refine wpAnyH_ready (rs := [4, 11]) (by kernel_rfl) (by simp) (AllReadyH.cons (o := ⟨some 23, _, _, _, _, _⟩) rfl (fun K hK => ?_) (AllReadyH.cons (o := ⟨some 30, _, _, _, _, _⟩) rfl (fun K hK => ?_) AllReadyH.nil))
      · rw [if_pos (by rfl)]
        go_simp
        refine (rput_any A4 B4 c4 _ _ 2 _ (arg4.below hS) (by rw [HL4.out]; decide)).mono ?_
        rintro e w5 ⟨v5, rfl, m5⟩
        obtain ⟨A5, c5, rfl, arg5, ow5, x5⟩ := made_shape m5
        show K _ _
        refine hK.out _ _ (below_step hS x5) (fun hS => ?_)
        clear hK K
        try go_frame
        refine wpAnyH_ready (rs := [11]) (by kernel_rfl) (by simp) (AllReadyH.cons (o := ⟨some 30, _, _, _, _, _⟩) rfl (fun K hK => ?_) AllReadyH.nil)
        rw [if_pos (by rfl)]
        go_simp
        refine hK.out _ _ (hS.alloc hS.size _) (fun hS => ?_)
        clear hK K
        try go_frame
        refine wpAnyH_ready (rs := [12]) (by kernel_rfl) (by simp) (AllReadyH.cons (o := ⟨some 31, _, _, _, _, _⟩) rfl (fun K hK => ?_) AllReadyH.nil)
        rw [if_pos (by rfl)]
        refine append_wp _ _ rfl W1.heap.size _ _ _ rfl (by first | exact own_base ow5 (by simp) | exact own_below (own_base ow5 (by simp)) ((Below.refl _ _).alloc (Nat.le_refl _) _)) _ _ 2 [u8 q.next, u8 q.hop] rfl (fun e => by cases e) (by first | exact Rd.pair _ E1.out E2.out | exact ((Rd.pair _ E1.out E2.out).drewN 1).below (x5.mono (by show W1.heap.size + 1 ≤ (W1.alloc _).heap.size; simp))) (by rw [HB5.out]; simp [be4, be2]) hS.size ?_
        intro v12 w12 own12 grow12
        obtain ⟨A12, c12, rfl, owm12⟩ := own_made (bs := hd6 q) own12 (by rw [HH.out, HB5.out]; simp [be4, be2]) (by rw [HH.out, row_append, HB5.out])
        refine hK.out _ _ (hS.grown grow12 hS.size (fun k hk => own_block_ge (base := W1.heap.size) (by first | exact own_base ow5 (by simp) | exact own_below (own_base ow5 (by simp)) ((Below.refl _ _).alloc (Nat.le_refl _) _)) k hk)) (fun hS => ?_)
        clear hK K
        try go_frame
        refine held_pure (i := 13) (oi := ⟨some 5, _, _, _, _, _⟩) rfl (by kernel_rfl) (by kernel_rfl) (by kernel_rfl) (fun _ _ _ h => h) (by rfl) (v := ?_) (fun w hSw => ?_) hS (fun hS => ?_)
        rotate_left
        · go_simp; try with_reducible rfl
        try go_frame
        refine wpAnyH_done (by kernel_rfl) ?_ _
        go_wp2_with fail
        go_meet
        exact ⟨A12, c12, rfl, owm12, hS⟩
      · rw [if_pos (by rfl)]
        go_simp
        refine hK.out _ _ (hS.alloc hS.size _) (fun hS => ?_)
        clear hK K
        try go_frame
        refine wpAnyH_ready (rs := [4]) (by kernel_rfl) (by simp) (AllReadyH.cons (o := ⟨some 23, _, _, _, _, _⟩) rfl (fun K hK => ?_) AllReadyH.nil)
        rw [if_pos (by rfl)]
        go_simp
        refine (rput_any A4 B4 c4 _ _ 2 _ (arg4.below hS) (by rw [HL4.out]; decide)).mono ?_
        rintro e w5 ⟨v5, rfl, m5⟩
        obtain ⟨A5, c5, rfl, arg5, ow5, x5⟩ := made_shape m5
        show K _ _
        refine hK.out _ _ (below_step hS x5) (fun hS => ?_)
        clear hK K
        try go_frame
        refine wpAnyH_ready (rs := [12]) (by kernel_rfl) (by simp) (AllReadyH.cons (o := ⟨some 31, _, _, _, _, _⟩) rfl (fun K hK => ?_) AllReadyH.nil)
        rw [if_pos (by rfl)]
        refine append_wp _ _ rfl W1.heap.size _ _ _ rfl (by first | exact own_base ow5 (by simp) | exact own_below (own_base ow5 (by simp)) ((Below.refl _ _).alloc (Nat.le_refl _) _)) _ _ 2 [u8 q.next, u8 q.hop] rfl (fun e => by cases e) (by first | exact Rd.pair _ E1.out E2.out | exact ((Rd.pair _ E1.out E2.out).drewN 1).below (x5.mono (by show W1.heap.size + 1 ≤ (W1.alloc _).heap.size; simp))) (by rw [HB5.out]; simp [be4, be2]) hS.size ?_
        intro v12 w12 own12 grow12
        obtain ⟨A12, c12, rfl, owm12⟩ := own_made (bs := hd6 q) own12 (by rw [HH.out, HB5.out]; simp [be4, be2]) (by rw [HH.out, row_append, HB5.out])
        refine hK.out _ _ (hS.grown grow12 hS.size (fun k hk => own_block_ge (base := W1.heap.size) (by first | exact own_base ow5 (by simp) | exact own_below (own_base ow5 (by simp)) ((Below.refl _ _).alloc (Nat.le_refl _) _)) k hk)) (fun hS => ?_)
        clear hK K
        try go_frame
        refine held_pure (i := 13) (oi := ⟨some 5, _, _, _, _, _⟩) rfl (by kernel_rfl) (by kernel_rfl) (by kernel_rfl) (fun _ _ _ h => h) (by rfl) (v := ?_) (fun w hSw => ?_) hS (fun hS => ?_)
        rotate_left
        · go_simp; try with_reducible rfl
        try go_frame
        refine wpAnyH_done (by kernel_rfl) ?_ _
        go_wp2_with fail
        go_meet
        exact ⟨A12, c12, rfl, owm12, hS⟩
    case rest =>
      obtain ⟨A12, c12, hs5, owm12, hS6⟩ := hcut
      subst hs5
      obtain ⟨H7, hH7⟩ : ∃ b, b = hd6 q ++ q.src := ⟨_, rfl⟩
      obtain ⟨H8, hH8⟩ : ∃ b, b = H7 ++ q.dst := ⟨_, rfl⟩
      have HH9 := Lib.hid (show bld6 q = H8 ++ q.dat by rw [hH8, hH7]; rfl)
      have HH7 := Lib.hid hH7; have HH8 := Lib.hid hH8
      have HL8 := Lib.hid (show H8.length = 40 by rw [hH8, hH7, List.length_append, List.length_append, hd6_len, hs, hd])
      have HS := Lib.hid hs; have HT := Lib.hid hd
      clear hH7 hH8
      go_wp2_with fail
      refine wp_region_held_drew (S := fun w' => Below W1.heap.size W1 w') (by kernel_rfl) hS6.drew (fun hS => ?_)
      refine held_pure (i := 0) (oi := ⟨some 32, _, _, _, _, _⟩) rfl (by kernel_rfl) (by kernel_rfl) (by kernel_rfl) (fun _ _ _ h => h) (by rfl) (v := ?_) (fun w hSw => ?_) hS (fun hS => ?_)
      rotate_left
      · go_simp; try with_reducible rfl
      try go_frame
      refine held_pure (i := 1) (oi := ⟨some 33, _, _, _, _, _⟩) rfl (by kernel_rfl) (by kernel_rfl) (by kernel_rfl) (fun _ _ _ h => h) (by rfl) (v := ?_) (fun w hSw => ?_) hS (fun hS => ?_)
      rotate_left
      · go_simp; try with_reducible rfl
      try go_frame
      refine held_pure (i := 2) (oi := ⟨some 34, _, _, _, _, _⟩) rfl (by kernel_rfl) (by kernel_rfl) (by kernel_rfl) (fun _ _ _ h => h) (by rfl) (fun w hSw => run_slice_six rfl rfl) hS (fun hS => ?_)
      try go_frame
      refine held_pure (i := 4) (oi := ⟨some 36, _, _, _, _, _⟩) rfl (by kernel_rfl) (by kernel_rfl) (by kernel_rfl) (fun _ _ _ h => h) (by rfl) (v := ?_) (fun w hSw => ?_) hS (fun hS => ?_)
      rotate_left
      · go_simp; try with_reducible rfl
      try go_frame
      refine held_pure (i := 5) (oi := ⟨some 37, _, _, _, _, _⟩) rfl (by kernel_rfl) (by kernel_rfl) (by kernel_rfl) (fun _ _ _ h => h) (by rfl) (fun w hSw => run_slice_six rfl rfl) hS (fun hS => ?_)
      try go_frame
      refine wpAnyH_ready (rs := [3]) (by kernel_rfl) (by simp) (AllReadyH.cons (o := ⟨some 35, _, _, _, _, _⟩) rfl (fun K hK => ?_) AllReadyH.nil)
      rw [if_pos (by rfl)]
      refine append_wp _ _ rfl W1.heap.size _ _ _ rfl owm12 W.heap.size _ 16 q.src (by rw [HS.out]; rfl) (fun e => by cases e) (Rd.of_range ((hAt.below (hb1.trans (hS.mono hb1.size)) hz).src) hz) (by rw [HS.out, hd6_len]; decide) hS.size ?_
      intro v3 w3 own3 grow3
      obtain ⟨A13, c13, rfl, owm13⟩ := own_made (bs := H7) own3 (by rw [HH7.out, List.length_append]) (by rw [HH7.out, row_append])
      refine hK.out _ _ (hS.grown grow3 hS.size (fun k hk => own_block_ge owm12 k hk)) (fun hS => ?_)
      clear hK K
      try go_frame
      refine wpAnyH_ready (rs := [6]) (by kernel_rfl) (by simp) (AllReadyH.cons (o := ⟨some 38, _, _, _, _, _⟩) rfl (fun K hK => ?_) AllReadyH.nil)
      rw [if_pos (by rfl)]
      refine append_wp _ _ rfl W1.heap.size _ _ _ rfl owm13 W.heap.size _ 16 q.dst (by rw [HT.out]; rfl) (fun e => by cases e) (Rd.of_range ((hAt.below (hb1.trans (hS.mono hb1.size)) hz).dst hs) hz) (by rw [HT.out, HH7.out, List.length_append, HS.out, hd6_len]; decide) hS.size ?_
      intro v6 w6 own6 grow6
      obtain ⟨A16, c16, rfl, owm16⟩ := own_made (bs := H8) own6 (by rw [HH8.out, List.length_append]) (by rw [HH8.out, row_append])
      refine hK.out _ _ (hS.grown grow6 hS.size (fun k hk => own_block_ge owm13 k hk)) (fun hS => ?_)
      clear hK K
      try go_frame
      refine held_pure (i := 7) (oi := ⟨some 5, _, _, _, _, _⟩) rfl (by kernel_rfl) (by kernel_rfl) (by kernel_rfl) (fun _ _ _ h => h) (by rfl) (v := ?_) (fun w hSw => ?_) hS (fun hS => ?_)
      rotate_left
      · go_simp; try with_reducible rfl
      try go_frame
      refine wpAnyH_done (by kernel_rfl) ?_ _
      have hb8 := hb1.trans (hS.mono hb1.size)
      have k6 := (hAt.below hb8 hz).dat hs hd
      have hdd := hD.below ((hB.trans (hb8.mono hB.size)).mono hB0)
      have own8 := owm16
      go_wp2_with (at_builtin; refine append_rd rfl _ _ rfl W1.heap.size _ _ _ rfl own8 B A c q.dat rfl hD.none_ hdd.rd (by rw [HL8.out]; omega) hS.size ?_; intro v9 w9 own9 grow9; obtain ⟨A19, c19, rfl, owm19⟩ := own_made (bs := bld6 q) own9 (by rw [HH9.out, List.length_append]) (by rw [HH9.out, row_append]))
      go_ret2
      have hb9 := hS.grown grow9 hS.size (fun k hk => own_block_ge own8 k hk)
      exact ⟨.slice A19 (bld6 q).length c19, by rw [HC.out]; rfl, fun h => absurd HC.out h, fun _ => Made.of_own (own_base owm19 (hB.trans (hb1.mono hB.size)).size) (hB.trans ((hb1.trans (hb9.mono hb1.size)).mono hB.size))⟩
  · have hne : (chk6 q != 0) = true := by simpa using hc
    have HN := Lib.hid hc
    clear hc
    go_wp2_with (first
      | ((with_reducible show wpList _ _ _ (Oper.mk _ (Op.load 44 _) _ _ _ _ :: _) _ _); refine wpList_val rfl (run_load_v6 rfl rfl hAt (v6l_len hs hd)) ?_)
      | (go_at_call 38; refine (r6check q A c _ hs hd hl).mono ?_; rintro e w1 ⟨rfl, x1⟩; skip))
    go_ret2
    exact ⟨.slice none 0 0, rfl, fun _ => ⟨rfl, hB.trans (x1.mono (by omega))⟩, fun h => absurd h HN.out⟩
end
end Go.Proofs.Ytcfcmnhnijjehaa
