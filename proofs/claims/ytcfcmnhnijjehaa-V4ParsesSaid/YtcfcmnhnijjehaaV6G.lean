/-
  Contract of v6.Build. Conditions are each theorem's own.
-/
import Derived.Test.YtcfcmnhnijjehaaCopyB
namespace Go.Proofs.Ytcfcmnhnijjehaa
open Go.RowKit

theorem chk6_zero {q : P6} (h : chk6 q = 0) : arg6 q ∧ (q.dat.length : Int) ≤ 65535 := by
  have ha : arg6 q := by
    rcases Decidable.em (arg6 q) with h' | h'
    · exact h'
    · rw [chk6, if_neg h'] at h; omega
  refine ⟨ha, ?_⟩
  rcases Int.lt_or_le 65535 (q.dat.length : Int) with h' | h'
  · rw [chk6, if_pos ha, if_pos h'] at h; omega
  · exact h'
section
variable (q : P6) (A : Option Addr) (c : Nat) (w : World)
set_option maxRecDepth 100000 in
set_option maxHeartbeats 1000000 in
theorem c6build (B : Nat) (hs : q.src.length = 16) (hd : q.dst.length = 16) (hl : q.dat.length ≤ 1000000) (hD : Arg w B A c q.dat) (hB0 : B ≤ w.heap.size) :
    Calls Try.prog 33 #[v6v q A c] w fun e w' => ∃ v, e = .returned (.tuple #[v, .int .i64 (chk6 q)]) ∧ (chk6 q ≠ 0 → v = .slice none 0 0 ∧ Below w.heap.size w w') ∧ (chk6 q = 0 → Made w w' v (bld6 q)) := by
  have hB : Below w.heap.size w (w.alloc (.cells (v6a q A c) 44)) := (Below.refl w.heap.size w).alloc (Nat.le_refl _) _
  have hAt := At6.new (q := q) (A := A) (c := c) w
  have hz : w.heap.size < (w.alloc (.cells (v6a q A c) 44)).heap.size := by simp
  unfold v6v
  rw [show (v6l q A c).toArray = v6a q A c from rfl]
  go_enter Try.func33, Try.ntmps33
  go_upto_region 1 with fail
  generalize w.alloc (.cells (v6a q A c) 44) = W at *
  by_cases hc : chk6 q = 0
  · obtain ⟨⟨a1, a2, a3, a4, a5, a6, a7, a8⟩, a9⟩ := chk6_zero hc
    have HC := Lib.hid hc
    clear hc
    have B1 := Lib.hid (or_byte 6 q.traffic (by omega) (by omega) a1 a2)
    go_upto_region 4 with (first
      | ((with_reducible show wpList _ _ _ (Oper.mk _ (Op.load 44 _) _ _ _ _ :: _) _ _); refine wpList_val rfl (run_load_v6 rfl rfl hAt (v6l_len hs hd)) ?_)
      | (go_at_call 37; refine (c6check q A c _ hs hd hl).mono ?_; rintro e w1 ⟨rfl, x1⟩; rw [HC.out]))
    have hAt1 := hAt.below x1 hz
    have k0 := hAt1.traffic; have k1 := hAt1.flow; have k2 := hAt1.next; have k3 := hAt1.hop; have k6 := hAt1.dat hs hd
    go_upto_region 5 with fail
    rw [fst6_bits q ⟨a1, a2, a3, a4, a5, a6, a7, a8⟩]
    obtain ⟨N, hN⟩ : ∃ N, N = fst6 q := ⟨_, rfl⟩
    rw [← hN]
    obtain ⟨n, hn⟩ : ∃ n, n = 40 + q.dat.length := ⟨_, rfl⟩
    have HP := Lib.hid (putL_6 q N ⟨a1, a2, a3, a4, a5, a6, a7, a8⟩ a9 hN)
    obtain ⟨C5, C7, C8, hC5, hC7, hC8, hC9, hL5, hL7, hL8⟩ := out6 q hs hd n hn
    have HC5 := Lib.hid hC5; have HC7 := Lib.hid hC7; have HC8 := Lib.hid hC8; have HC9 := Lib.hid hC9
    have HL5 := Lib.hid hL5; have HL7 := Lib.hid hL7; have HL8 := Lib.hid hL8
    have HN := Lib.hid hn
    have hn40 : 40 ≤ n := by omega
    have hz6 : size6 q = (n : Int) := by rw [size6, hn]; omega
    have HL9 := Lib.hid (show (bld6 q).length = n by rw [bld6_len q hs hd, hn])
    clear hC5 hC7 hC8 hC9 hL5 hL7 hL8 hN
    have hmk : ∀ W : World, (Instr.makeSlice 22 (.int .i64 (n : Int)) (.int .i64 (n : Int))).run Try.prog W = .ok (.slice (some ⟨W.heap.size, 0, none⟩) n n) (W.alloc (.cells (List.replicate n (.int .u8 0)).toArray 5)) := fun W => by
      rw [← made_rep]; exact run_make_row' 22 5 (.int .u8 0) 1 Try.underlying22 info_u8 rfl .i64 .i64 n (by omega) (by omega) W
    have HZ6 := Lib.hid hz6
    clear hn hz6
    go_upto_region 6 with (first
      | ((with_reducible show wpList _ _ _ (Oper.mk _ (Op.load 44 _) _ _ _ _ :: _) _ _); refine wpList_val rfl (run_load_v6 rfl rfl hAt1 (v6l_len hs hd)) ?_)
      | (go_at_call 35; refine (c6size q A c _ hs hd hl).mono ?_; rintro e w2 ⟨rfl, x2⟩; rw [HZ6.out]))
    have x12 : Below W.heap.size W w2 := x1.trans (x2.mono x1.size)
    have hG : W.heap.size ≤ w2.heap.size := x12.size
    have hAt2 := hAt.below x12 hz
    have x13 : Below W.heap.size W (w2.alloc (.cells (Array.replicate n (.int .u8 0)) 5)) := x12.alloc hG _
    have hAt3 := hAt.below x13 hz
    have hg3 : (w2.alloc (.cells (Array.replicate n (.int .u8 0)) 5)).heap[w2.heap.size]? = some (.cells (row (List.replicate n 0)).toArray 5 (0, 0)) := by
      rw [World.alloc_heap_new]; simp [row]
    have hz3 : w2.heap.size < (w2.alloc (.cells (Array.replicate n (.int .u8 0)) 5)).heap.size := by simp
    clear k0 k1 k2 k3 k6 hAt1 hmk
    have k2 := hAt3.next; have k3 := hAt3.hop; have k6 := hAt3.dat hs hd
    clear hAt2 hAt3
    have HG3 := Lib.hid hg3
    clear hg3
    generalize w2.alloc (.cells (Array.replicate n (.int .u8 0)) 5) = W3 at *
    go_upto_region 7 with (first
      | (go_at_call 63; refine (put6_new [(N, 4), ((q.dat.length : Int), 2), (q.next, 1), (q.hop, 1)] _ 4 _ W3 (by rfl) (by rfl) (by simp) (by simp)).mono ?_; rintro e w4 ⟨v4, rfl, m4⟩; rw [HP.out] at m4; obtain ⟨A4, c4, rfl, arg4, ow4, x4⟩ := made_shape m4)
      | (refine copy_wl rfl (.tmp 22) (.tmp 36) rfl w2.heap.size 0 n _ _ _ (hd6 q) _ _ rfl (fun _ => rfl) rfl (List.replicate n 0) ((x4.block _ hz3).trans HG3.out) (by rw [hd6_len]; omega) arg4.rd (by rw [hd6_len]; simp; omega) W W.heap.size (x13.trans (x4.mono x13.size)) hG C5 HC5.out ?_; intro w5 HG5 hB5 hz5))
    have HS := Lib.hid hs; have HT := Lib.hid hd
    clear k2 k3 k6
    refine wp_region_held_drew (S := fun w' => Below W.heap.size W w') (by kernel_rfl) hB5.drew (fun hS => ?_)
    refine held_pure (i := 0) (oi := ⟨some 38, _, _, _, _, _⟩) rfl (by kernel_rfl) (by kernel_rfl) (by kernel_rfl) (fun _ _ _ h => h) (by rfl) (v := ?_) (fun w hSw => ?_) hS (fun hS => ?_)
    rotate_left
    · go_simp; try with_reducible rfl
    try go_frame
    refine held_pure (i := 1) (oi := ⟨some 39, _, _, _, _, _⟩) rfl (by kernel_rfl) (by kernel_rfl) (by kernel_rfl) (fun _ _ _ h => h) (by rfl) (fun w hSw => run_cut_lh rfl rfl rfl rfl (l := 8) (h := 24) (by omega) (by omega) (by omega) (m := 16) rfl) hS (fun hS => ?_)
    try go_frame
    refine held_pure (i := 2) (oi := ⟨some 40, _, _, _, _, _⟩) rfl (by kernel_rfl) (by kernel_rfl) (by kernel_rfl) (fun _ _ _ h => h) (by rfl) (v := ?_) (fun w hSw => ?_) hS (fun hS => ?_)
    rotate_left
    · go_simp; try with_reducible rfl
    try go_frame
    refine held_pure (i := 3) (oi := ⟨some 41, _, _, _, _, _⟩) rfl (by kernel_rfl) (by kernel_rfl) (by kernel_rfl) (fun _ _ _ h => h) (by rfl) (fun w hSw => run_slice_six rfl rfl) hS (fun hS => ?_)
    try go_frame
    refine wpAnyH_ready (rs := [4]) (by kernel_rfl) (by simp) (AllReadyH.cons (o := ⟨some 42, _, _, _, _, _⟩) rfl (fun K hK => ?_) AllReadyH.nil)
    rw [if_pos (by rfl)]
    refine copy_wp _ _ rfl w2.heap.size 8 16 _ _ _ q.src _ W.heap.size rfl (fun h => by have := HN.out; simp [cutA, add_off]; omega) (by rw [HS.out]; rfl) C5 HG5.out (by rw [HS.out]; decide) (Rd.of_range ((hAt.below hS hz).src) hz) (by rw [HL5.out]; have := HS.out; omega) W W.heap.size hS hG C7 HC7.out ?_
    intro w7 HG7 hB7 hz7
    refine hK.out _ _ hB7 (fun hS => ?_)
    clear hK K
    try go_frame
    refine wpAnyH_done (by kernel_rfl) ?_ _
    go_wp2_with fail
    refine wp_region_held_drew (S := fun w' => Below W.heap.size W w') (by kernel_rfl) hB7.drew (fun hS => ?_)
    refine held_pure (i := 0) (oi := ⟨some 43, _, _, _, _, _⟩) rfl (by kernel_rfl) (by kernel_rfl) (by kernel_rfl) (fun _ _ _ h => h) (by rfl) (v := ?_) (fun w hSw => ?_) hS (fun hS => ?_)
    rotate_left
    · go_simp; try with_reducible rfl
    try go_frame
    refine held_pure (i := 1) (oi := ⟨some 44, _, _, _, _, _⟩) rfl (by kernel_rfl) (by kernel_rfl) (by kernel_rfl) (fun _ _ _ h => h) (by rfl) (fun w hSw => run_cut_lh rfl rfl rfl rfl (l := 24) (h := 40) (by omega) (by omega) (by omega) (m := 16) rfl) hS (fun hS => ?_)
    try go_frame
    refine held_pure (i := 2) (oi := ⟨some 45, _, _, _, _, _⟩) rfl (by kernel_rfl) (by kernel_rfl) (by kernel_rfl) (fun _ _ _ h => h) (by rfl) (v := ?_) (fun w hSw => ?_) hS (fun hS => ?_)
    rotate_left
    · go_simp; try with_reducible rfl
    try go_frame
    refine held_pure (i := 3) (oi := ⟨some 46, _, _, _, _, _⟩) rfl (by kernel_rfl) (by kernel_rfl) (by kernel_rfl) (fun _ _ _ h => h) (by rfl) (fun w hSw => run_slice_six rfl rfl) hS (fun hS => ?_)
    try go_frame
    refine wpAnyH_ready (rs := [4]) (by kernel_rfl) (by simp) (AllReadyH.cons (o := ⟨some 47, _, _, _, _, _⟩) rfl (fun K hK => ?_) AllReadyH.nil)
    rw [if_pos (by rfl)]
    refine copy_wp _ _ rfl w2.heap.size 24 16 _ _ _ q.dst _ W.heap.size rfl (fun h => by have := HN.out; simp [cutA, add_off]; omega) (by rw [HT.out]; rfl) C7 HG7.out (by rw [HT.out]; decide) (Rd.of_range ((hAt.below hS hz).dst hs) hz) (by rw [HL7.out]; have := HS.out; omega) W W.heap.size hS hG C8 HC8.out ?_
    intro w8 HG8 hB8 hz8
    refine hK.out _ _ hB8 (fun hS => ?_)
    clear hK K
    try go_frame
    refine wpAnyH_done (by kernel_rfl) ?_ _
    go_wp2_with fail
    refine wp_region_held_drew (S := fun w' => Below W.heap.size W w') (by kernel_rfl) hB8.drew (fun hS => ?_)
    refine held_pure (i := 0) (oi := ⟨some 48, _, _, _, _, _⟩) rfl (by kernel_rfl) (by kernel_rfl) (by kernel_rfl) (fun _ _ _ h => h) (by rfl) (v := ?_) (fun w hSw => ?_) hS (fun hS => ?_)
    rotate_left
    · go_simp; try with_reducible rfl
    try go_frame
    refine held_pure (i := 1) (oi := ⟨some 49, _, _, _, _, _⟩) rfl (by kernel_rfl) (by kernel_rfl) (by kernel_rfl) (fun _ _ _ h => h) (by rfl) (fun w hSw => run_cut_l rfl rfl (l := 40) rfl (by omega) (m := q.dat.length) (by have := HN.out; omega)) hS (fun hS => ?_)
    try go_frame
    refine held_pure (i := 2) (oi := ⟨some 50, _, _, _, _, _⟩) rfl (by kernel_rfl) (by kernel_rfl) (by kernel_rfl) (fun _ _ _ h => h) (by rfl) (v := ?_) (fun w hSw => ?_) hS (fun hS => ?_)
    rotate_left
    · go_simp; try with_reducible rfl
    try go_frame
    refine held_pure (i := 3) (oi := ⟨some 51, _, _, _, _, _⟩) rfl (by kernel_rfl) (by kernel_rfl) (by kernel_rfl) (fun _ _ _ h => h) (by rfl) (fun w hSw => run_load_sl rfl rfl ((hAt.below hSw hz).dat hs hd)) hS (fun hS => ?_)
    try go_frame
    refine wpAnyH_ready (rs := [4]) (by kernel_rfl) (by simp) (AllReadyH.cons (o := ⟨some 52, _, _, _, _, _⟩) rfl (fun K hK => ?_) AllReadyH.nil)
    rw [if_pos (by rfl)]
    refine copy_wp _ _ rfl w2.heap.size 40 _ _ _ _ q.dat _ B rfl (fun h => by have := HN.out; simp [cutA, add_off]; omega) (by rfl) C8 HG8.out (Nat.le_refl _) (hD.rd.below ((hB.mono hB0).trans (hS.mono (by omega)))) (by rw [HL8.out]; have := HN.out; omega) W W.heap.size hS hG (bld6 q) HC9.out ?_
    intro w9 HG9 hB9 hz9
    refine hK.out _ _ hB9 (fun hS => ?_)
    clear hK K
    try go_frame
    refine wpAnyH_done (by kernel_rfl) ?_ _
    go_wp2_with fail
    go_ret2
    exact ⟨.slice (some ⟨w2.heap.size, 0, none⟩) n n, by rw [HC.out]; rfl, fun h => absurd HC.out h, fun _ => by
      have ho := own_of_block (base := w.heap.size) (g := w2.heap.size) (by omega) HG9.out (by rw [HL9.out]; have := HN.out; omega)
      rw [HL9.out] at ho
      exact Made.of_own (by rw [HL9.out]; exact ho) (hB.trans (hS.mono (by omega)))⟩
  · have hne : (chk6 q != 0) = true := by simpa using hc
    have HN := Lib.hid hc
    clear hc
    go_wp2_with (first
      | ((with_reducible show wpList _ _ _ (Oper.mk _ (Op.load 44 _) _ _ _ _ :: _) _ _); refine wpList_val rfl (run_load_v6 rfl rfl hAt (v6l_len hs hd)) ?_)
      | (go_at_call 37; refine (c6check q A c _ hs hd hl).mono ?_; rintro e w1 ⟨rfl, x1⟩; skip))
    go_ret2
    exact ⟨.slice none 0 0, rfl, fun _ => ⟨rfl, hB.trans (x1.mono (by omega))⟩, fun h => absurd h HN.out⟩
end
end Go.Proofs.Ytcfcmnhnijjehaa
