/-
  Contract of v4.Build. Conditions are each theorem's own.
-/
import Derived.Test.YtcfcmnhnijjehaaV4C
namespace Go.Proofs.Ytcfcmnhnijjehaa
open Go.RowKit

theorem chk4_zero {q : P4} (h : chk4 q = 0) : arg4 q ∧ 0 ≤ size4 q ∧ size4 q ≤ 65535 := by
  have ha : arg4 q := by
    rcases Decidable.em (arg4 q) with h' | h'
    · exact h'
    · exfalso; rw [chk4, if_neg h'] at h; omega
  refine ⟨ha, by unfold size4 head4; omega, ?_⟩
  rcases Int.lt_or_le 65535 (size4 q) with h' | h'
  · exfalso; rw [chk4, if_pos ha, if_pos (.inl h')] at h; omega
  · exact h'
theorem out4 (q : P4) (n hn : Nat) (hh : hn = 20 + q.opt.length) (hnn : n = hn + q.dat.length) : ∃ C5 : List UInt8, C5 = splice (List.replicate n 0) 0 (hd4 q (size4 q) (sum4 q)) ∧ bld4 q = splice C5 hn q.dat ∧ C5.length = n := by
  have hl := hd4_len q (size4 q) (sum4 q)
  have e5 := splice_mid [] (List.replicate n 0) (hd4 q (size4 q) (sum4 q)) 0 rfl
  simp only [List.nil_append] at e5
  have e9 := splice_mid (hd4 q (size4 q) (sum4 q)) ((List.replicate n 0).drop (hd4 q (size4 q) (sum4 q)).length) q.dat hn (by omega)
  refine ⟨_, rfl, ?_, ?_⟩
  · rw [e5, e9, bld4]; simp [hl]; omega
  · rw [e5]; simp [hl]; omega
section
variable (q : P4) (A : Option Addr) (c : Nat) (A' : Option Addr) (c' : Nat) (w : World)
set_option maxRecDepth 100000 in
set_option maxHeartbeats 1000000 in
theorem c4build (B : Nat) (hO : Arg w B A c q.opt) (hD : Arg w B A' c' q.dat) (hB0 : B ≤ w.heap.size) (ho : q.opt.length ≤ 1000000) (hd : q.dat.length ≤ 1000000) :
    Calls Try.prog 13 #[v4v q A c A' c'] w fun e w' => ∃ v, e = .returned (.tuple #[v, .int .i64 (chk4 q)]) ∧ (chk4 q ≠ 0 → v = .slice none 0 0 ∧ Below w.heap.size w w') ∧ (chk4 q = 0 → Made w w' v (bld4 q)) := by
  have hB : Below w.heap.size w (w.alloc (.cells (v4a q A c A' c') 24)) := (Below.refl w.heap.size w).alloc (Nat.le_refl _) _
  have hAt := At4.new (q := q) (A := A) (c := c) (A' := A') (c' := c') w
  have hz : w.heap.size < (w.alloc (.cells (v4a q A c A' c') 24)).heap.size := by simp
  unfold v4v
  rw [show #[Value.int .i64 q.tos, .int .i64 q.id, .int .i64 q.off, .int .i64 q.ttl, .int .i64 q.proto, .int .i64 q.src, .int .i64 q.dst, .bool q.df, .bool q.mf, .slice A q.opt.length c, .slice A' q.dat.length c'] = v4a q A c A' c' from rfl]
  go_enter Try.func13, Try.ntmps13
  go_upto_region 1 with fail
  generalize w.alloc (.cells (v4a q A c A' c') 24) = W at *
  by_cases hc : chk4 q = 0
  · obtain ⟨ha, hs0, hs1⟩ := chk4_zero hc
    have HC := Lib.hid hc
    clear hc
    go_upto_region 4 with (first
      | ((with_reducible show wpList _ _ _ (Oper.mk _ (Op.load 24 _) _ _ _ _ :: _) _ _); refine wpList_val rfl (run_load_v4 rfl rfl hAt rfl) ?_)
      | (go_at_call 22; refine (c4check q A c A' c' _ ho hd).mono ?_; rintro e w1 ⟨rfl, x1⟩; rw [HC.out]))
    obtain ⟨hn, hhn⟩ : ∃ n, n = 20 + q.opt.length := ⟨_, rfl⟩
    obtain ⟨n, hnn⟩ : ∃ n, n = hn + q.dat.length := ⟨_, rfl⟩
    have HHd := Lib.hid (show head4 q = (hn : Int) by rw [head4, hhn]; omega)
    have HZ4 := Lib.hid (show size4 q = (n : Int) by rw [size4, HHd.out, hnn]; omega)
    have HHL := Lib.hid (show (hd4 q (size4 q) (sum4 q)).length = hn by rw [hd4_len, hhn])
    obtain ⟨C5, hC5, hC9, hL5⟩ := out4 q n hn hhn hnn
    have HC5 := Lib.hid hC5; have HC9 := Lib.hid hC9; have HL5 := Lib.hid hL5
    have HN := Lib.hid hnn
    have HL9 := Lib.hid (show (bld4 q).length = n by rw [bld4_len, hnn, hhn])
    have hn1 : n ≤ 65535 := by have := HZ4.out; omega
    have hhp : 20 ≤ hn := by omega
    have hnle : hn ≤ n := by omega
    obtain ⟨HD, hHD⟩ : ∃ l, l = hd4 q (size4 q) (sum4 q) := ⟨_, rfl⟩
    rw [← hHD] at HC5 HHL
    have HHD := Lib.hid hHD
    clear hC5 hC9 hL5 hnn hhn hHD
    have hmk : ∀ W : World, (Instr.makeSlice 22 (.int .i64 (n : Int)) (.int .i64 (n : Int))).run Try.prog W = .ok (.slice (some ⟨W.heap.size, 0, none⟩) n n) (W.alloc (.cells (List.replicate n (.int .u8 0)).toArray 5)) := fun W => by
      rw [← made_rep]; exact run_make_row' 22 5 (.int .u8 0) 1 Try.underlying22 info_u8 rfl .i64 .i64 n (by omega) (by omega) W
    have hAt1 := hAt.below x1 hz
    go_upto_region 5 with (first
      | ((with_reducible show wpList _ _ _ (Oper.mk _ (Op.load 24 _) _ _ _ _ :: _) _ _); refine wpList_val rfl (run_load_v4 rfl rfl hAt1 rfl) ?_)
      | (go_at_call 17; refine (c4size q A c A' c' _ ho hd).mono ?_; rintro e w2 ⟨rfl, x2⟩; rw [HZ4.out]))
    have x12 : Below W.heap.size W w2 := x1.trans (x2.mono x1.size)
    have hG : W.heap.size ≤ w2.heap.size := x12.size
    have x13 : Below W.heap.size W (w2.alloc (.cells (Array.replicate n (.int .u8 0)) 5)) := x12.alloc hG _
    have hAt3 := hAt.below x13 hz
    have hg3 : (w2.alloc (.cells (Array.replicate n (.int .u8 0)) 5)).heap[w2.heap.size]? = some (.cells (row (List.replicate n 0)).toArray 5 (0, 0)) := by
      rw [World.alloc_heap_new]; simp [row]
    have hz3 : w2.heap.size < (w2.alloc (.cells (Array.replicate n (.int .u8 0)) 5)).heap.size := by simp
    clear hAt1 hmk
    have HG3 := Lib.hid hg3
    clear hg3
    generalize w2.alloc (.cells (Array.replicate n (.int .u8 0)) 5) = W3 at *
    have hO3 := hO.below ((hB.trans (x13.mono hB.size)).mono hB0)
    go_upto_region 6 with (first
      | ((with_reducible show wpList _ _ _ (Oper.mk _ (Op.load 24 _) _ _ _ _ :: _) _ _); refine wpList_val rfl (run_load_v4 rfl rfl hAt3 rfl) ?_)
      | (go_at_call 49; refine (c4bhead q A c A' c' _ B ha ⟨hs0, hs1⟩ hO3 (Nat.le_trans hB0 (hB.trans (x13.mono hB.size)).size) hd).mono ?_; rintro e w4 ⟨v4, rfl, m4⟩; rw [← HHD.out] at m4; obtain ⟨A4, c4, rfl, arg4', ow4, x4⟩ := made_shape m4)
      | (refine copy_wl rfl (.tmp 14) (.tmp 16) rfl w2.heap.size 0 n _ _ _ HD _ _ rfl (fun _ => rfl) rfl (List.replicate n 0) ((x4.block _ hz3).trans HG3.out) (by rw [HHL.out]; exact hnle) arg4'.rd (by rw [HHL.out]; simp; exact hnle) W W.heap.size (x13.trans (x4.mono x13.size)) hG C5 HC5.out ?_; intro w5 HG5 hB5 hz5))
    have hgz : w2.heap.size < w5.heap.size := by have := x4.size; omega
    refine wp_region_held_drew (S := fun w' => Below W.heap.size W w') (by kernel_rfl) hB5.drew (fun hS => ?_)
    refine held_pure (i := 0) (oi := ⟨some 18, _, _, _, _, _⟩) rfl (by kernel_rfl) (by kernel_rfl) (by kernel_rfl) (fun _ _ _ h => h) (by rfl) (v := ?_) (fun w hSw => ?_) hS (fun hS => ?_)
    rotate_left
    · go_simp; try with_reducible rfl
    try go_frame
    refine held_pure (i := 1) (oi := ⟨some 19, _, _, _, _, _⟩) rfl (by kernel_rfl) (by kernel_rfl) (by kernel_rfl) (fun _ _ _ h => h) (by rfl) (fun w hSw => run_load_v4 rfl rfl (hAt.below hSw hz) rfl) hS (fun hS => ?_)
    try go_frame
    refine held_pure (i := 4) (oi := ⟨some 22, _, _, _, _, _⟩) rfl (by kernel_rfl) (by kernel_rfl) (by kernel_rfl) (fun _ _ _ h => h) (by rfl) (v := ?_) (fun w hSw => ?_) hS (fun hS => ?_)
    rotate_left
    · go_simp; try with_reducible rfl
    try go_frame
    refine held_pure (i := 5) (oi := ⟨some 23, _, _, _, _, _⟩) rfl (by kernel_rfl) (by kernel_rfl) (by kernel_rfl) (fun _ _ _ h => h) (by rfl) (fun w hSw => run_load_sl rfl rfl (hAt.below hSw hz).dat) hS (fun hS => ?_)
    try go_frame
    refine wpAnyH_ready (rs := [2]) (by kernel_rfl) (by simp) (AllReadyH.cons (o := ⟨some 20, _, _, _, _, _⟩) rfl (fun K hK => ?_) AllReadyH.nil)
    rw [if_pos (by rfl)]
    go_simp
    refine (c4head q A c A' c' _ ho).mono ?_
    rintro e wH ⟨rfl, xH⟩
    rw [HHd.out]
    show K _ _
    refine hK.out _ _ (hS.trans (xH.mono hS.size)) (fun hS => ?_)
    clear hK K
    try go_frame
    refine held_pure (i := 3) (oi := ⟨some 21, _, _, _, _, _⟩) rfl (by kernel_rfl) (by kernel_rfl) (by kernel_rfl) (fun _ _ _ h => h) (by rfl) (fun w hSw => run_cut_l rfl rfl (l := hn) rfl (by omega) (m := q.dat.length) (by have := HN.out; omega)) hS (fun hS => ?_)
    try go_frame
    refine wpAnyH_ready (rs := [6]) (by kernel_rfl) (by simp) (AllReadyH.cons (o := ⟨some 24, _, _, _, _, _⟩) rfl (fun K hK => ?_) AllReadyH.nil)
    rw [if_pos (by rfl)]
    refine copy_wp _ _ rfl w2.heap.size hn _ _ _ _ q.dat _ B rfl (fun h => by have := HN.out; simp [cutA, add_off]; omega) rfl C5 (((xH).block _ hgz).trans HG5.out) (Nat.le_refl _) (hD.rd.below ((hB.trans (hS.mono (by omega))).mono hB0)) (by rw [HL5.out]; have := HN.out; omega) W W.heap.size hS hG (bld4 q) HC9.out ?_
    intro w9 HG9 hB9 hz9
    refine hK.out _ _ hB9 (fun hS => ?_)
    clear hK K
    try go_frame
    refine wpAnyH_done (by kernel_rfl) ?_ _
    go_wp2_with fail
    go_ret2
    exact ⟨.slice (some ⟨w2.heap.size, 0, none⟩) n n, by rw [HC.out]; rfl, fun h => absurd HC.out h, fun _ => by
      have ho' := own_of_block (base := w.heap.size) (g := w2.heap.size) (by omega) HG9.out (by rw [HL9.out]; omega)
      rw [HL9.out] at ho'
      exact Made.of_own (by rw [HL9.out]; exact ho') (hB.trans (hS.mono (by omega)))⟩
  · have hne : (chk4 q != 0) = true := by simpa using hc
    have HN := Lib.hid hc
    clear hc
    go_wp2_with (first
      | ((with_reducible show wpList _ _ _ (Oper.mk _ (Op.load 24 _) _ _ _ _ :: _) _ _); refine wpList_val rfl (run_load_v4 rfl rfl hAt rfl) ?_)
      | (go_at_call 22; refine (c4check q A c A' c' _ ho hd).mono ?_; rintro e w1 ⟨rfl, x1⟩; skip))
    go_ret2
    exact ⟨.slice none 0 0, rfl, fun _ => ⟨rfl, hB.trans (x1.mono (by omega))⟩, fun h => absurd h HN.out⟩
end
end Go.Proofs.Ytcfcmnhnijjehaa
