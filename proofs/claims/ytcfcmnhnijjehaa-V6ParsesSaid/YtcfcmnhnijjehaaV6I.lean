/-
  Contract of v6.Parse. Conditions are each theorem's own.
-/
import Derived.Test.YtcfcmnhnijjehaaV6H
namespace Go.Proofs.Ytcfcmnhnijjehaa
open Go.RowKit

theorem end6_len (b : List UInt8) (h : ¬ b.length < 40) : ((b.take (end6 b)).drop 40).length = end6 b - 40 := by
  have : end6 b ≤ b.length := by unfold end6; omega
  simp; omega
theorem prs6_len (b : List UInt8) (u : Bool) : (prs6 b u).src.length = 16 ∧ (prs6 b u).dst.length = 16 := by
  unfold prs6
  by_cases h : bad6 b u = 0
  · rw [if_pos h]
    have h40 : ¬ b.length < 40 := fun h' => by rw [bad6, if_pos h'] at h; omega
    simp only [raw6, List.length_take, List.length_drop]
    omega
  · rw [if_neg h]; exact ⟨rfl, rfl⟩
section
variable (b : List UInt8) (A : Option Addr) (c : Nat) (w : World)
set_option maxRecDepth 100000 in
set_option maxHeartbeats 1000000 in
theorem c6parse (B : Nat) (hR : Arg w B A c b) (hB : B ≤ w.heap.size) (hl : b.length ≤ 1000000) :
    Calls Try.prog 41 #[.slice A b.length c] w fun e w' => ∃ P p, e = .returned (.tuple #[v6v (prs6 b false) P p, .int .i64 (bad6 b false)]) ∧ Made w w' (.slice P (prs6 b false).dat.length p) (prs6 b false).dat := by
  have hOR0 := OwnR.new w (v6a p6z none 0) 44
  have hg0 := World.alloc_heap_new w (.cells (v6a p6z none 0) 44)
  have hcap := hR.cap
  obtain ⟨hqs, hqd⟩ := prs6_len b true
  have HQS := Lib.hid hqs; have HQD := Lib.hid hqd
  obtain ⟨q, hq⟩ : ∃ q, q = prs6 b true := ⟨_, rfl⟩
  have HQ := Lib.hid hq
  rw [← hq] at hqs hqd
  clear hq
  go_enter Try.func41, Try.ntmps41
  go_upto_region 1 with fail
  have hOR : OwnR w 44 37 (w.alloc (.cells #[.int .i64 0, .int .i64 0, .int .i64 0, .int .i64 0, .int .u8 0, .int .u8 0, .int .u8 0, .int .u8 0, .int .u8 0, .int .u8 0, .int .u8 0, .int .u8 0, .int .u8 0, .int .u8 0, .int .u8 0, .int .u8 0, .int .u8 0, .int .u8 0, .int .u8 0, .int .u8 0, .int .u8 0, .int .u8 0, .int .u8 0, .int .u8 0, .int .u8 0, .int .u8 0, .int .u8 0, .int .u8 0, .int .u8 0, .int .u8 0, .int .u8 0, .int .u8 0, .int .u8 0, .int .u8 0, .int .u8 0, .int .u8 0, .slice none 0 0] 44)) := hOR0
  have hg : (w.alloc (.cells #[.int .i64 0, .int .i64 0, .int .i64 0, .int .i64 0, .int .u8 0, .int .u8 0, .int .u8 0, .int .u8 0, .int .u8 0, .int .u8 0, .int .u8 0, .int .u8 0, .int .u8 0, .int .u8 0, .int .u8 0, .int .u8 0, .int .u8 0, .int .u8 0, .int .u8 0, .int .u8 0, .int .u8 0, .int .u8 0, .int .u8 0, .int .u8 0, .int .u8 0, .int .u8 0, .int .u8 0, .int .u8 0, .int .u8 0, .int .u8 0, .int .u8 0, .int .u8 0, .int .u8 0, .int .u8 0, .int .u8 0, .int .u8 0, .slice none 0 0] 44)).heap[w.heap.size]? = some (.cells (v6a p6z none 0) 44 (0, 0)) := hg0
  clear hOR0 hg0
  generalize w.alloc (.cells #[.int .i64 0, .int .i64 0, .int .i64 0, .int .i64 0, .int .u8 0, .int .u8 0, .int .u8 0, .int .u8 0, .int .u8 0, .int .u8 0, .int .u8 0, .int .u8 0, .int .u8 0, .int .u8 0, .int .u8 0, .int .u8 0, .int .u8 0, .int .u8 0, .int .u8 0, .int .u8 0, .int .u8 0, .int .u8 0, .int .u8 0, .int .u8 0, .int .u8 0, .int .u8 0, .int .u8 0, .int .u8 0, .int .u8 0, .int .u8 0, .int .u8 0, .int .u8 0, .int .u8 0, .int .u8 0, .int .u8 0, .int .u8 0, .slice none 0 0] 44) = W at *
  have hlt := hOR.lt
  go_upto_region 2 with (first
    | (go_at_call 43; refine (c6quoted b A c _ B (hR.below (hOR.b.mono hB)) (Nat.le_trans hB hOR.b.size) hl).mono ?_; rintro e w1 ⟨P, p, rfl, m1⟩; rw [← HQ.out] at m1 ⊢)
    | ((with_reducible show wpList _ _ _ (Oper.mk _ (Op.store _ _ _) _ _ _ _ :: _) _ _); refine v6_store_new (cs := v6a q P p) rfl rfl rfl (by rw [v6a, List.size_toArray]; exact v6l_len hqs hqd) (v6a_one _ _ _) ?_))
  have x1 := m1.below
  have hz5 := World.alloc_heap_new w1 (.cells (v6a q P p) 44)
  have hAt := At6.new (q := q) (A := P) (c := p) w1
  have hOR5 : OwnR w 44 37 (w1.alloc (.cells (v6a q P p) 44)) := (hOR.step x1).alloc _
  have x15 : Below w1.heap.size w1 (w1.alloc (.cells (v6a q P p) 44)) := (Below.refl _ w1).alloc (Nat.le_refl _) _
  have qz := hOR5.b
  have qz1 : w.heap.size ≤ (w1.alloc (.cells (v6a q P p) 44)).heap.size := qz.size
  have qz2 : w.heap.size < w1.heap.size := (hOR.step x1).lt
  have hlt5 : w1.heap.size < (w1.alloc (.cells (v6a q P p) 44)).heap.size := by simp
  obtain ⟨old, hold, hgo⟩ := hOR5.2
  clear hz5
  generalize w1.alloc (.cells (v6a q P p) 44) = W5 at *
  by_cases he : bad6 b true = 0
  · have HB := Lib.hid he
    have h40 : ¬ b.length < 40 := fun h' => by rw [bad6, if_pos h'] at he; omega
    have h6 : ¬ byt b 0 / 16 ≠ 6 := fun h' => by rw [bad6, if_neg h40, if_pos h'] at he; omega
    have hd40 : decide ((b.length : Int) < 40) = false := by simp; omega
    have n4b := n2_bd b 4
    have G4 := Lib.hid (get_two (b := b) (i := 4) (by omega))
    have HE6 := Lib.hid (show end6 b = 40 + min (n2 b 4).toNat (b.length - 40) from rfl)
    have HQr := Lib.hid (show q = raw6 b by rw [HQ.out, prs6, if_pos he])
    have HDl := Lib.hid (show q.dat.length = end6 b - 40 by rw [HQr.out]; exact end6_len b h40)
    have he' : (bad6 b true != 0) = false := by simp [he]
    clear he hd40
    go_upto_region 4 with fail
    refine wp_region_held_drew (S := fun w' => Below W5.heap.size W5 w') (by kernel_rfl) (Below.refl _ W5).drew (fun hS => ?_)
    refine held_pure (i := 0) (oi := ⟨some 15, _, _, _, _, _⟩) rfl (by kernel_rfl) (by kernel_rfl) (by kernel_rfl) (fun _ _ _ h => h) (by rfl) (v := ?_) (fun w hSw => ?_) hS (fun hS => ?_)
    rotate_left
    · go_simp; try with_reducible rfl
    try go_frame
    refine held_pure (i := 1) (oi := ⟨some 16, _, _, _, _, _⟩) rfl (by kernel_rfl) (by kernel_rfl) (by kernel_rfl) (fun _ _ _ h => h) (by rfl) (fun w hSw => run_load_sl rfl rfl ((hAt.below hSw hlt5).dat hqs hqd)) hS (fun hS => ?_)
    try go_frame
    refine held_pure (i := 2) (oi := ⟨some 17, _, _, _, _, _⟩) rfl (by kernel_rfl) (by kernel_rfl) (by kernel_rfl) (fun _ _ _ h => h) (by rfl) (v := ?_) (fun w hSw => ?_) hS (fun hS => ?_)
    rotate_left
    · go_simp; try with_reducible rfl
    try go_frame
    refine held_pure (i := 3) (oi := ⟨some 18, _, _, _, _, _⟩) rfl (by kernel_rfl) (by kernel_rfl) (by kernel_rfl) (fun _ _ _ h => h) (by rfl) (v := ?_) (fun w hSw => ?_) hS (fun hS => ?_)
    rotate_left
    · go_simp; try with_reducible rfl
    try go_frame
    refine wpAnyH_ready (rs := [4]) (by kernel_rfl) (by simp) (AllReadyH.cons (o := ⟨some 19, _, _, _, _, _⟩) rfl (fun K hK => ?_) AllReadyH.nil)
    rw [if_pos (by rfl)]
    go_simp
    refine (get6_any A b c B 4 2 _ (hR.below ((qz.trans (hS.mono qz1)).mono hB)).rd (by omega) hR.cap).mono ?_
    rintro e w4 ⟨rfl, rfl⟩
    rw [show getV b 4 2 = n2 b 4 from G4.out]
    show K _ _
    refine hK.out _ _ hS (fun hS => ?_)
    clear hK K
    try go_frame
    refine held_pure (i := 5) (oi := ⟨some 20, _, _, _, _, _⟩) rfl (by kernel_rfl) (by kernel_rfl) (by kernel_rfl) (fun _ _ _ h => h) (by rfl) (v := ?_) (fun w hSw => ?_) hS (fun hS => ?_)
    rotate_left
    · go_simp; try with_reducible rfl
    try go_frame
    refine wpAnyH_done (by kernel_rfl) ?_ _
    have hgd := (hS.block w.heap.size (by omega)).trans hgo
    by_cases hsh : (q.dat.length : Int) < n2 b 4
    · have HB2 := Lib.hid (show bad6 b false = 3 by rw [bad6, if_neg h40, if_neg h6, if_pos ⟨rfl, by have := HDl.out; have := HE6.out; omega⟩])
      have HE2 := HB2
      have HE1 := Lib.hid (show prs6 b false = p6z by rw [prs6, if_neg (by rw [HB2.out]; decide)])
      clear h6
      go_wp2_with (first | ((with_reducible show wpList _ _ _ (Oper.mk _ (Op.store _ _ _) _ _ _ _ :: _) _ _); refine v6_store (g := w.heap.size) (cs := v6a p6z none 0) rfl rfl hgd hold rfl (v6a_one _ _ _) ?_))
      exact bodyPost_ret (res2 rfl rfl (run_loadVar_row _ _ _ 44 (v6a p6z none 0) _ _ (setRow_heap _ _ _ _ _ _ hgd) Try.underlying44 rfl (by kernel_rfl))) rfl ⟨none, 0, by rw [HE1.out, HE2.out]; rfl, by rw [HE1.out]; exact Made.nil _ _ (below_row (qz.trans (hS.mono qz1)) (Nat.le_refl _))⟩
      
    · have HB2 := Lib.hid (show bad6 b false = 0 by rw [bad6, if_neg h40, if_neg h6, if_neg (by have := HDl.out; have := HE6.out; omega)])
      have HE1 := Lib.hid (show prs6 b false = q by rw [HQr.out, prs6, if_pos HB2.out])
      clear h6
      go_wp2_with (first
        | ((with_reducible show wpList _ _ _ (Oper.mk _ (Op.load _ _) _ _ _ _ :: _) _ _); refine wpList_val rfl (run_load_v6 rfl rfl (hAt.below hS hlt5) (v6l_len hqs hqd)) ?_)
        | ((with_reducible show wpList _ _ _ (Oper.mk _ (Op.store _ _ _) _ _ _ _ :: _) _ _); refine v6_store (g := w.heap.size) (cs := v6a q P p) rfl rfl hgd hold (by rw [v6a, List.size_toArray]; exact v6l_len hqs hqd) (v6a_one _ _ _) ?_))
      exact bodyPost_ret (res2 rfl rfl (run_loadVar_row _ _ _ 44 (v6a q P p) _ _ (setRow_heap _ _ _ _ _ _ hgd) Try.underlying44 rfl (by rw [v6a, List.size_toArray, v6l_len hqs hqd]; kernel_rfl))) rfl ⟨P, p, by rw [HE1.out, HB2.out]; rfl, by rw [HE1.out]; exact (m1.later (x15.trans (hS.mono (by omega)))).row hOR.b hlt⟩
  · have he' : (bad6 b true != 0) = true := by simpa using he
    have HB2 := Lib.hid (show bad6 b false = bad6 b true by
      unfold bad6 at he ⊢
      by_cases h1 : b.length < 40
      · rw [if_pos h1, if_pos h1]
      · rw [if_neg h1] at he ⊢
        rw [if_neg h1]
        by_cases h2 : byt b 0 / 16 ≠ 6
        · rw [if_pos h2, if_pos h2]
        · exfalso; rw [if_neg h2, if_neg (by simp)] at he; omega)
    have HE1 := Lib.hid (show prs6 b false = p6z by rw [prs6, if_neg (by rw [HB2.out]; exact he)])
    have HE2 := HB2
    clear he
    have hgd := hgo
    go_wp2_with (first | ((with_reducible show wpList _ _ _ (Oper.mk _ (Op.store _ _ _) _ _ _ _ :: _) _ _); refine v6_store (g := w.heap.size) (cs := v6a p6z none 0) rfl rfl hgd hold rfl (v6a_one _ _ _) ?_))
    exact bodyPost_ret (res2 rfl rfl (run_loadVar_row _ _ _ 44 (v6a p6z none 0) _ _ (setRow_heap _ _ _ _ _ _ hgd) Try.underlying44 rfl (by kernel_rfl))) rfl ⟨none, 0, by rw [HE1.out, HE2.out]; rfl, by rw [HE1.out]; exact Made.nil _ _ (below_row qz (Nat.le_refl _))⟩
    
end
end Go.Proofs.Ytcfcmnhnijjehaa
