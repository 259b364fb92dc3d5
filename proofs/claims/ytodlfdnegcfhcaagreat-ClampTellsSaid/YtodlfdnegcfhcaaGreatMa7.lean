/-
  Contracts and lemmas on which the proofs of this seat stand (several texts in one). Conditions are each theorem's own.
-/
import Derived.Test.YtodlfdnegcfhcaaGreatMa6

/-
  Contracts of udp's put, Pseudo, buildHead. Conditions are each theorem's own.
-/
namespace Go.Proofs.YtodlfdnegcfhcaaGreat
open Go.RowKit

/-- The lowest bits of any number, of one below 0 too. -/
theorem and_any (i : Nat) (n : Int) (hi : i ≤ 62) : bits .and .i64 n (2 ^ i - 1) = n % 2 ^ i := by
  obtain ⟨a, ha⟩ : ∃ a : Nat, (a : Int) = n % 2 ^ 64 := ⟨(n % 2 ^ 64).toNat, by omega⟩
  have e : BitVec.ofInt IntKind.i64.bits n = BitVec.ofInt IntKind.i64.bits (a : Int) := by
    apply BitVec.eq_of_toInt_eq
    rw [BitVec.toInt_ofInt, BitVec.toInt_ofInt, ha]
    show Int.bmod n (2 ^ 64) = Int.bmod (n % 2 ^ 64) (2 ^ 64)
    exact (Int.emod_bmod n (2 ^ 64)).symm
  have hpos : 0 < 2 ^ i := Nat.two_pow_pos i
  have hp : 2 ^ i ≤ 2 ^ 62 := Nat.pow_le_pow_right (by decide) hi
  have hc : ((2 : Int) ^ i - 1) = ((2 ^ i - 1 : Nat) : Int) := by
    rw [Int.natCast_sub hpos]; simp
  have hm : (2 ^ i - 1) % 2 ^ IntKind.i64.bits = 2 ^ i - 1 := Nat.mod_eq_of_lt (by show _ < 2 ^ 64; omega)
  have hal : a < 2 ^ 64 := by omega
  have ham : a % 2 ^ IntKind.i64.bits = a := Nat.mod_eq_of_lt hal
  have h1 : bits .and .i64 n (2 ^ i - 1) = IntKind.i64.wrap ((a &&& (2 ^ i - 1) : Nat) : Int) := by
    simp only [bits, e, hc, BitVec.ofInt_natCast, BitVec.toNat_and, BitVec.toNat_ofNat, hm, ham]
  rw [h1, Nat.and_two_pow_sub_one_eq_mod]
  have hlt : a % 2 ^ i < 2 ^ i := Nat.mod_lt _ hpos
  rw [wraps63 _ (by omega) (by omega)]
  have hd : ((2 : Int) ^ i) ∣ 2 ^ 64 := by
    refine ⟨2 ^ (64 - i), ?_⟩
    rw [← Int.pow_add]; congr 1; omega
  have h2 : (n % 2 ^ 64) % 2 ^ i = n % 2 ^ i := Int.emod_emod_of_dvd n hd
  rw [← h2, ← ha]; simp
/-- A number and its size in a block. -/
def AtNS (W : World) (g : Nat) (n s : Int) : Prop := W.rangeAt g 0 [.int .i64 n, .int .i64 s]
section
variable {W : World} {g : Nat} {n s : Int}
theorem AtNS.new (w : World) (n s : Int) : AtNS (w.alloc (.cells #[.int .i64 n, .int .i64 s] 136)) w.heap.size n s := fun j v hj => by
  rw [Nat.zero_add, World.cell?_alloc_new, ← hj]; rw [List.getElem?_toArray]
theorem AtNS.below {w : World} {B : Nat} (h : AtNS W g n s) (hb : Below B W w) (hg : g < B) : AtNS w g n s := range_below h hg hb
theorem AtNS.num (h : AtNS W g n s) : W.cell? ⟨g, 0, none⟩ = some (.int .i64 n) := h 0 _ rfl
theorem AtNS.siz (h : AtNS W g n s) : W.cell? ⟨g, 1, none⟩ = some (.int .i64 s) := h 1 _ rfl
end
set_option maxHeartbeats 4000000 in
theorem put7_any (g : Nat) (ps : List (Int × Int)) (w : World) (hn : ps.length ≤ 10) (hs : ∀ x ∈ ps, x.2 = 1 ∨ x.2 = 2 ∨ x.2 = 4) (hg : g < w.heap.size)
    (h : ∀ (k : Nat) (x : Int × Int), ps[k]? = some x → w.cell? ⟨g, k * 2, none⟩ = some (.int .i64 x.1) ∧ w.cell? ⟨g, k * 2 + 1, none⟩ = some (.int .i64 x.2)) :
    Calls Tryz.prog 112 #[.slice (some ⟨g, 0, none⟩) ps.length ps.length] w fun e w' => ∃ v, e = .returned v ∧ Made w w' v (putL (msk ps)) := by
  have H := Lib.hid h
  clear h
  have HS := Lib.hid hs
  have HL := Lib.hid (fun k => (putL_len ((msk ps).take k) (fun x hx => by
    have hx' := List.mem_of_mem_take hx
    simp only [msk, List.mem_map] at hx'
    obtain ⟨y, hy, rfl⟩ := hx'
    rcases hs y hy with h | h | h <;> (simp only [h]; decide))))
  clear hs
  go_enter Tryz.func112, Tryz.ntmps112
  go_wp2
  go_loopw [3, 8] (fun v i W => ∃ (k c : Nat) (A : Option Addr) (bs : List UInt8), k ≤ ps.length ∧ i = .int .i64 (k : Int) ∧ Hid (bs = putL ((msk ps).take k)) ∧ bs.length ≤ 40 ∧ v = .slice A bs.length c ∧ W.ownsRow w.heap.size 5 1 (.slice A bs.length c) bs.length (row bs) ∧ Below w.heap.size w W) (fun _ i _ => ps.length - (intOf i).toNat)
  case atStart => exact ⟨0, 0, none, [], Nat.zero_le _, rfl, Lib.hid rfl, by simp, rfl, World.ownsRow_nil _ _ _ _, Below.refl _ _⟩
  case round =>
    obtain ⟨k, c, A, bs, hk, rfl, HB, hb40, rfl, hown, hbel⟩ := hrel
    obtain ⟨W, rfl⟩ : ∃ W : World, W = wr := ⟨_, rfl⟩
    by_cases hlt : k < ps.length
    · obtain ⟨x, hx⟩ : ∃ x, ps[k]? = some x := ⟨_, List.getElem?_eq_getElem hlt⟩
      obtain ⟨c1, c2⟩ := H.out k x hx
      have hs1 := HS.out x (List.mem_of_getElem? hx)
      have HX := Lib.hid hx
      clear hx
      have d1 := (hbel.cell (p := ⟨g, k * 2, none⟩) hg).trans c1
      have d2 := (hbel.cell (p := ⟨g, k * 2 + 1, none⟩) hg).trans c2
      clear c1 c2
      obtain ⟨n, s⟩ := x
      simp only at d1 d2 hs1
      rcases hs1 with rfl | rfl | rfl
      · have HM := Lib.hid (show bits .and .i64 n 255 = n % 256 from and_any 8 n (by decide))
        go_upto_region 5 with fail
        have at0 : AtNS _ W.heap.size n 1 := AtNS.new W n 1
        have xR : Below W.heap.size W _ := (Below.refl _ W).alloc (Nat.le_refl _) (.cells #[.int .i64 n, .int .i64 1] 136)
        have hzG : W.heap.size < (W.alloc (.cells #[.int .i64 n, .int .i64 1] 136)).heap.size := by simp
        generalize W.alloc (.cells #[.int .i64 n, .int .i64 1] 136) = R at *
        refine wp_region_held_drew (S := fun w' => Below R.heap.size R w') (by kernel_rfl) (Below.refl _ R).drew (fun hS => ?_)
        refine held_pure (i := 0) (oi := ⟨some 12, _, _, _, _, _⟩) rfl (by kernel_rfl) (by kernel_rfl) (by kernel_rfl) (fun _ _ _ h => h) (by rfl) (v := ?_) (fun w hSw => ?_) hS (fun hS => ?_)
        rotate_left
        · go_simp; try with_reducible rfl
        try go_frame
        refine held_pure (i := 1) (oi := ⟨some 13, _, _, _, _, _⟩) rfl (by kernel_rfl) (by kernel_rfl) (by kernel_rfl) (fun _ _ _ h => h) (by rfl) (v := ?_) (fun w hSw => ?_) hS (fun hS => ?_)
        rotate_left
        · go_simp; try with_reducible rfl
        try go_frame
        refine held_pure (i := 2) (oi := ⟨some 14, _, _, _, _, _⟩) rfl (by kernel_rfl) (by kernel_rfl) (by kernel_rfl) (fun _ _ _ h => h) (by rfl) (fun w hSw => run_load_int rfl rfl (at0.below hSw hzG).num) hS (fun hS => ?_)
        try go_frame
        refine held_pure (i := 3) (oi := ⟨some 15, _, _, _, _, _⟩) rfl (by kernel_rfl) (by kernel_rfl) (by kernel_rfl) (fun _ _ _ h => h) (by rfl) (v := ?_) (fun w hSw => ?_) hS (fun hS => ?_)
        rotate_left
        · go_simp; try with_reducible rfl
        try go_frame
        refine held_pure (i := 4) (oi := ⟨some 16, _, _, _, _, _⟩) rfl (by kernel_rfl) (by kernel_rfl) (by kernel_rfl) (fun _ _ _ h => h) (by rfl) (fun w hSw => run_load_int rfl rfl (at0.below hSw hzG).siz) hS (fun hS => ?_)
        try go_frame
        refine held_pure (i := 5) (oi := ⟨some 17, _, _, _, _, _⟩) rfl (by kernel_rfl) (by kernel_rfl) (by kernel_rfl) (fun _ _ _ h => h) (by rfl) (v := .int .i64 8) (fun w hSw => by go_simp; decide) hS (fun hS => ?_)
        try go_frame
        refine held_pure (i := 6) (oi := ⟨some 18, _, _, _, _, _⟩) rfl (by kernel_rfl) (by kernel_rfl) (by kernel_rfl) (fun _ _ _ h => h) (by rfl) (v := .int .i64 256) (fun w hSw => by go_simp; decide) hS (fun hS => ?_)
        try go_frame
        refine held_pure (i := 7) (oi := ⟨some 19, _, _, _, _, _⟩) rfl (by kernel_rfl) (by kernel_rfl) (by kernel_rfl) (fun _ _ _ h => h) (by rfl) (v := .int .i64 255) (fun w hSw => by go_simp; decide) hS (fun hS => ?_)
        try go_frame
        refine held_pure (i := 8) (oi := ⟨some 20, _, _, _, _, _⟩) rfl (by kernel_rfl) (by kernel_rfl) (by kernel_rfl) (fun _ _ _ h => h) (by rfl) (v := .int .i64 (n % 256)) (fun w hSw => by go_simp; exact HM.out) hS (fun hS => ?_)
        try go_frame
        refine held_pure (i := 9) (oi := ⟨some 21, _, _, _, _, _⟩) rfl (by kernel_rfl) (by kernel_rfl) (by kernel_rfl) (fun _ _ _ h => h) (by rfl) (v := ?_) (fun w hSw => ?_) hS (fun hS => ?_)
        rotate_left
        · go_simp; try with_reducible rfl
        try go_frame
        refine held_pure (i := 10) (oi := ⟨some 22, _, _, _, _, _⟩) rfl (by kernel_rfl) (by kernel_rfl) (by kernel_rfl) (fun _ _ _ h => h) (by rfl) (fun w hSw => run_load_int rfl rfl (at0.below hSw hzG).siz) hS (fun hS => ?_)
        try go_frame
        refine wpAnyH_ready (rs := [11]) (by kernel_rfl) (by simp) (AllReadyH.cons (o := ⟨some 23, _, _, _, _, _⟩) rfl (fun K hK => ?_) AllReadyH.nil)
        rw [if_pos (by rfl)]
        go_simp
        have x11 := xR.trans (hS.mono xR.size)
        refine (put_any A bs c _ (n % 256) 1 _ (arg_own (own_below hown x11)).rd (Nat.le_refl _) (by omega)).mono ?_
        rintro e w2 ⟨v2, rfl, A2, c2, rfl, l2, rd2, ow2, x2⟩
        have hSs := hS
        show K _ _
        refine hK.out _ _ (below_step hS x2) (fun hS => ?_)
        clear hK K
        try go_frame
        refine held_pure (i := 12) (oi := ⟨some 3, _, _, _, _, _⟩) rfl (by kernel_rfl) (by kernel_rfl) (by kernel_rfl) (fun _ _ _ h => h) (by rfl) (v := ?_) (fun w hSw => ?_) hS (fun hS => ?_)
        rotate_left
        · go_simp; try with_reducible rfl
        try go_frame
        refine wpAnyH_done (by kernel_rfl) ?_ _
        go_wp2_with fail
        have xW : Below W.heap.size W w2 := xR.trans (hS.mono xR.size)
        have bel2 : Below w.heap.size w w2 := hbel.trans (xW.mono hbel.size)
        have own2 : w2.ownsRow w.heap.size 5 1 (.slice A2 (putB bs (n % 256) 1).length c2) (putB bs (n % 256) 1).length (row (putB bs (n % 256) 1)) := own_base ow2 (by have := hbel.size; have := xR.size; have := hSs.size; omega)
        have HP := Lib.hid (putL_take (msk ps) (msk_get HX.out))
        have h40 : (putB bs (n % 256) 1).length ≤ 40 := by
          have e : putB bs (n % 256) 1 = putL ((msk ps).take (k + 1)) := by rw [HP.out, HB.out]; rfl
          rw [e]
          have := HL.out (k + 1)
          have h2 : ((msk ps).take (k + 1)).length ≤ ps.length := by rw [List.length_take, msk_len]; omega
          omega
        go_roundw
        case rel => exact ⟨k + 1, c2, A2, _, by omega, by simp, Lib.hid (by rw [HP.out, HB.out]; rfl), h40, rfl, own2, bel2⟩
        case measure => simp [intOf]; omega
      · have HM := Lib.hid (show bits .and .i64 n 65535 = n % 65536 from and_any 16 n (by decide))
        go_upto_region 5 with fail
        have at0 : AtNS _ W.heap.size n 2 := AtNS.new W n 2
        have xR : Below W.heap.size W _ := (Below.refl _ W).alloc (Nat.le_refl _) (.cells #[.int .i64 n, .int .i64 2] 136)
        have hzG : W.heap.size < (W.alloc (.cells #[.int .i64 n, .int .i64 2] 136)).heap.size := by simp
        generalize W.alloc (.cells #[.int .i64 n, .int .i64 2] 136) = R at *
        refine wp_region_held_drew (S := fun w' => Below R.heap.size R w') (by kernel_rfl) (Below.refl _ R).drew (fun hS => ?_)
        refine held_pure (i := 0) (oi := ⟨some 12, _, _, _, _, _⟩) rfl (by kernel_rfl) (by kernel_rfl) (by kernel_rfl) (fun _ _ _ h => h) (by rfl) (v := ?_) (fun w hSw => ?_) hS (fun hS => ?_)
        rotate_left
        · go_simp; try with_reducible rfl
        try go_frame
        refine held_pure (i := 1) (oi := ⟨some 13, _, _, _, _, _⟩) rfl (by kernel_rfl) (by kernel_rfl) (by kernel_rfl) (fun _ _ _ h => h) (by rfl) (v := ?_) (fun w hSw => ?_) hS (fun hS => ?_)
        rotate_left
        · go_simp; try with_reducible rfl
        try go_frame
        refine held_pure (i := 2) (oi := ⟨some 14, _, _, _, _, _⟩) rfl (by kernel_rfl) (by kernel_rfl) (by kernel_rfl) (fun _ _ _ h => h) (by rfl) (fun w hSw => run_load_int rfl rfl (at0.below hSw hzG).num) hS (fun hS => ?_)
        try go_frame
        refine held_pure (i := 3) (oi := ⟨some 15, _, _, _, _, _⟩) rfl (by kernel_rfl) (by kernel_rfl) (by kernel_rfl) (fun _ _ _ h => h) (by rfl) (v := ?_) (fun w hSw => ?_) hS (fun hS => ?_)
        rotate_left
        · go_simp; try with_reducible rfl
        try go_frame
        refine held_pure (i := 4) (oi := ⟨some 16, _, _, _, _, _⟩) rfl (by kernel_rfl) (by kernel_rfl) (by kernel_rfl) (fun _ _ _ h => h) (by rfl) (fun w hSw => run_load_int rfl rfl (at0.below hSw hzG).siz) hS (fun hS => ?_)
        try go_frame
        refine held_pure (i := 5) (oi := ⟨some 17, _, _, _, _, _⟩) rfl (by kernel_rfl) (by kernel_rfl) (by kernel_rfl) (fun _ _ _ h => h) (by rfl) (v := .int .i64 16) (fun w hSw => by go_simp; decide) hS (fun hS => ?_)
        try go_frame
        refine held_pure (i := 6) (oi := ⟨some 18, _, _, _, _, _⟩) rfl (by kernel_rfl) (by kernel_rfl) (by kernel_rfl) (fun _ _ _ h => h) (by rfl) (v := .int .i64 65536) (fun w hSw => by go_simp; decide) hS (fun hS => ?_)
        try go_frame
        refine held_pure (i := 7) (oi := ⟨some 19, _, _, _, _, _⟩) rfl (by kernel_rfl) (by kernel_rfl) (by kernel_rfl) (fun _ _ _ h => h) (by rfl) (v := .int .i64 65535) (fun w hSw => by go_simp; decide) hS (fun hS => ?_)
        try go_frame
        refine held_pure (i := 8) (oi := ⟨some 20, _, _, _, _, _⟩) rfl (by kernel_rfl) (by kernel_rfl) (by kernel_rfl) (fun _ _ _ h => h) (by rfl) (v := .int .i64 (n % 65536)) (fun w hSw => by go_simp; exact HM.out) hS (fun hS => ?_)
        try go_frame
        refine held_pure (i := 9) (oi := ⟨some 21, _, _, _, _, _⟩) rfl (by kernel_rfl) (by kernel_rfl) (by kernel_rfl) (fun _ _ _ h => h) (by rfl) (v := ?_) (fun w hSw => ?_) hS (fun hS => ?_)
        rotate_left
        · go_simp; try with_reducible rfl
        try go_frame
        refine held_pure (i := 10) (oi := ⟨some 22, _, _, _, _, _⟩) rfl (by kernel_rfl) (by kernel_rfl) (by kernel_rfl) (fun _ _ _ h => h) (by rfl) (fun w hSw => run_load_int rfl rfl (at0.below hSw hzG).siz) hS (fun hS => ?_)
        try go_frame
        refine wpAnyH_ready (rs := [11]) (by kernel_rfl) (by simp) (AllReadyH.cons (o := ⟨some 23, _, _, _, _, _⟩) rfl (fun K hK => ?_) AllReadyH.nil)
        rw [if_pos (by rfl)]
        go_simp
        have x11 := xR.trans (hS.mono xR.size)
        refine (put_any A bs c _ (n % 65536) 2 _ (arg_own (own_below hown x11)).rd (Nat.le_refl _) (by omega)).mono ?_
        rintro e w2 ⟨v2, rfl, A2, c2, rfl, l2, rd2, ow2, x2⟩
        have hSs := hS
        show K _ _
        refine hK.out _ _ (below_step hS x2) (fun hS => ?_)
        clear hK K
        try go_frame
        refine held_pure (i := 12) (oi := ⟨some 3, _, _, _, _, _⟩) rfl (by kernel_rfl) (by kernel_rfl) (by kernel_rfl) (fun _ _ _ h => h) (by rfl) (v := ?_) (fun w hSw => ?_) hS (fun hS => ?_)
        rotate_left
        · go_simp; try with_reducible rfl
        try go_frame
        refine wpAnyH_done (by kernel_rfl) ?_ _
        go_wp2_with fail
        have xW : Below W.heap.size W w2 := xR.trans (hS.mono xR.size)
        have bel2 : Below w.heap.size w w2 := hbel.trans (xW.mono hbel.size)
        have own2 : w2.ownsRow w.heap.size 5 1 (.slice A2 (putB bs (n % 65536) 2).length c2) (putB bs (n % 65536) 2).length (row (putB bs (n % 65536) 2)) := own_base ow2 (by have := hbel.size; have := xR.size; have := hSs.size; omega)
        have HP := Lib.hid (putL_take (msk ps) (msk_get HX.out))
        have h40 : (putB bs (n % 65536) 2).length ≤ 40 := by
          have e : putB bs (n % 65536) 2 = putL ((msk ps).take (k + 1)) := by rw [HP.out, HB.out]; rfl
          rw [e]
          have := HL.out (k + 1)
          have h2 : ((msk ps).take (k + 1)).length ≤ ps.length := by rw [List.length_take, msk_len]; omega
          omega
        go_roundw
        case rel => exact ⟨k + 1, c2, A2, _, by omega, by simp, Lib.hid (by rw [HP.out, HB.out]; rfl), h40, rfl, own2, bel2⟩
        case measure => simp [intOf]; omega
      · have HM := Lib.hid (show bits .and .i64 n 4294967295 = n % 4294967296 from and_any 32 n (by decide))
        go_upto_region 5 with fail
        have at0 : AtNS _ W.heap.size n 4 := AtNS.new W n 4
        have xR : Below W.heap.size W _ := (Below.refl _ W).alloc (Nat.le_refl _) (.cells #[.int .i64 n, .int .i64 4] 136)
        have hzG : W.heap.size < (W.alloc (.cells #[.int .i64 n, .int .i64 4] 136)).heap.size := by simp
        generalize W.alloc (.cells #[.int .i64 n, .int .i64 4] 136) = R at *
        refine wp_region_held_drew (S := fun w' => Below R.heap.size R w') (by kernel_rfl) (Below.refl _ R).drew (fun hS => ?_)
        refine held_pure (i := 0) (oi := ⟨some 12, _, _, _, _, _⟩) rfl (by kernel_rfl) (by kernel_rfl) (by kernel_rfl) (fun _ _ _ h => h) (by rfl) (v := ?_) (fun w hSw => ?_) hS (fun hS => ?_)
        rotate_left
        · go_simp; try with_reducible rfl
        try go_frame
        refine held_pure (i := 1) (oi := ⟨some 13, _, _, _, _, _⟩) rfl (by kernel_rfl) (by kernel_rfl) (by kernel_rfl) (fun _ _ _ h => h) (by rfl) (v := ?_) (fun w hSw => ?_) hS (fun hS => ?_)
        rotate_left
        · go_simp; try with_reducible rfl
        try go_frame
        refine held_pure (i := 2) (oi := ⟨some 14, _, _, _, _, _⟩) rfl (by kernel_rfl) (by kernel_rfl) (by kernel_rfl) (fun _ _ _ h => h) (by rfl) (fun w hSw => run_load_int rfl rfl (at0.below hSw hzG).num) hS (fun hS => ?_)
        try go_frame
        refine held_pure (i := 3) (oi := ⟨some 15, _, _, _, _, _⟩) rfl (by kernel_rfl) (by kernel_rfl) (by kernel_rfl) (fun _ _ _ h => h) (by rfl) (v := ?_) (fun w hSw => ?_) hS (fun hS => ?_)
        rotate_left
        · go_simp; try with_reducible rfl
        try go_frame
        refine held_pure (i := 4) (oi := ⟨some 16, _, _, _, _, _⟩) rfl (by kernel_rfl) (by kernel_rfl) (by kernel_rfl) (fun _ _ _ h => h) (by rfl) (fun w hSw => run_load_int rfl rfl (at0.below hSw hzG).siz) hS (fun hS => ?_)
        try go_frame
        refine held_pure (i := 5) (oi := ⟨some 17, _, _, _, _, _⟩) rfl (by kernel_rfl) (by kernel_rfl) (by kernel_rfl) (fun _ _ _ h => h) (by rfl) (v := .int .i64 32) (fun w hSw => by go_simp; decide) hS (fun hS => ?_)
        try go_frame
        refine held_pure (i := 6) (oi := ⟨some 18, _, _, _, _, _⟩) rfl (by kernel_rfl) (by kernel_rfl) (by kernel_rfl) (fun _ _ _ h => h) (by rfl) (v := .int .i64 4294967296) (fun w hSw => by go_simp; decide) hS (fun hS => ?_)
        try go_frame
        refine held_pure (i := 7) (oi := ⟨some 19, _, _, _, _, _⟩) rfl (by kernel_rfl) (by kernel_rfl) (by kernel_rfl) (fun _ _ _ h => h) (by rfl) (v := .int .i64 4294967295) (fun w hSw => by go_simp; decide) hS (fun hS => ?_)
        try go_frame
        refine held_pure (i := 8) (oi := ⟨some 20, _, _, _, _, _⟩) rfl (by kernel_rfl) (by kernel_rfl) (by kernel_rfl) (fun _ _ _ h => h) (by rfl) (v := .int .i64 (n % 4294967296)) (fun w hSw => by go_simp; exact HM.out) hS (fun hS => ?_)
        try go_frame
        refine held_pure (i := 9) (oi := ⟨some 21, _, _, _, _, _⟩) rfl (by kernel_rfl) (by kernel_rfl) (by kernel_rfl) (fun _ _ _ h => h) (by rfl) (v := ?_) (fun w hSw => ?_) hS (fun hS => ?_)
        rotate_left
        · go_simp; try with_reducible rfl
        try go_frame
        refine held_pure (i := 10) (oi := ⟨some 22, _, _, _, _, _⟩) rfl (by kernel_rfl) (by kernel_rfl) (by kernel_rfl) (fun _ _ _ h => h) (by rfl) (fun w hSw => run_load_int rfl rfl (at0.below hSw hzG).siz) hS (fun hS => ?_)
        try go_frame
        refine wpAnyH_ready (rs := [11]) (by kernel_rfl) (by simp) (AllReadyH.cons (o := ⟨some 23, _, _, _, _, _⟩) rfl (fun K hK => ?_) AllReadyH.nil)
        rw [if_pos (by rfl)]
        go_simp
        have x11 := xR.trans (hS.mono xR.size)
        refine (put_any A bs c _ (n % 4294967296) 4 _ (arg_own (own_below hown x11)).rd (Nat.le_refl _) (by omega)).mono ?_
        rintro e w2 ⟨v2, rfl, A2, c2, rfl, l2, rd2, ow2, x2⟩
        have hSs := hS
        show K _ _
        refine hK.out _ _ (below_step hS x2) (fun hS => ?_)
        clear hK K
        try go_frame
        refine held_pure (i := 12) (oi := ⟨some 3, _, _, _, _, _⟩) rfl (by kernel_rfl) (by kernel_rfl) (by kernel_rfl) (fun _ _ _ h => h) (by rfl) (v := ?_) (fun w hSw => ?_) hS (fun hS => ?_)
        rotate_left
        · go_simp; try with_reducible rfl
        try go_frame
        refine wpAnyH_done (by kernel_rfl) ?_ _
        go_wp2_with fail
        have xW : Below W.heap.size W w2 := xR.trans (hS.mono xR.size)
        have bel2 : Below w.heap.size w w2 := hbel.trans (xW.mono hbel.size)
        have own2 : w2.ownsRow w.heap.size 5 1 (.slice A2 (putB bs (n % 4294967296) 4).length c2) (putB bs (n % 4294967296) 4).length (row (putB bs (n % 4294967296) 4)) := own_base ow2 (by have := hbel.size; have := xR.size; have := hSs.size; omega)
        have HP := Lib.hid (putL_take (msk ps) (msk_get HX.out))
        have h40 : (putB bs (n % 4294967296) 4).length ≤ 40 := by
          have e : putB bs (n % 4294967296) 4 = putL ((msk ps).take (k + 1)) := by rw [HP.out, HB.out]; rfl
          rw [e]
          have := HL.out (k + 1)
          have h2 : ((msk ps).take (k + 1)).length ≤ ps.length := by rw [List.length_take, msk_len]; omega
          omega
        go_roundw
        case rel => exact ⟨k + 1, c2, A2, _, by omega, by simp, Lib.hid (by rw [HP.out, HB.out]; rfl), h40, rfl, own2, bel2⟩
        case measure => simp [intOf]; omega
    · obtain rfl : k = ps.length := by omega
      go_wp2
      go_ret
      have e : bs = putL (msk ps) := by rw [HB.out, List.take_of_length_le (by rw [msk_len]; exact Nat.le_refl _)]
      subst e
      exact ⟨_, rfl, Made.of_own hown hbel⟩
theorem put7_new (ps : List (Int × Int)) (cs : Array Value) (n : Nat) (t : TypeId) (bs : List UInt8) (w : World) (hc : cs = (flat ps).toArray) (hn : n = ps.length) (hl : ps.length ≤ 10) (hs : ∀ x ∈ ps, x.2 = 1 ∨ x.2 = 2 ∨ x.2 = 4) (hb : Hid (putL (msk ps) = bs)) :
    Calls Tryz.prog 112 #[.slice (some ⟨w.heap.size, 0, none⟩) n n] (w.alloc (.cells cs t)) fun e w' => ∃ v, e = .returned v ∧ Made w w' v bs := by
  subst hc; subst hn
  rw [← hb.out]
  refine (put7_any w.heap.size ps _ hl hs (by simp) fun k x hx => ?_).mono ?_
  · obtain ⟨h1, h2⟩ := flat_get ps k x hx
    exact ⟨by rw [World.cell?_alloc_new, List.getElem?_toArray]; exact h1, by rw [World.cell?_alloc_new, List.getElem?_toArray]; exact h2⟩
  · rintro e w' ⟨v, he, hm⟩
    exact ⟨v, he, hm.after ((Below.refl _ w).alloc (Nat.le_refl _) _)⟩
theorem psd_any (src dst proto size : Int) (w : World) :
    Calls Tryz.prog 78 #[.int .i64 src, .int .i64 dst, .int .i64 proto, .int .i64 size] w fun e w' => ∃ v, e = .returned v ∧ Made w w' v (psd src dst proto size) := by
  have HB := Lib.hid (putL_psd src dst proto size)
  go_enter Tryz.func78, Tryz.ntmps78
  go_wp2_with (go_at_call 112; refine (put7_new [(src, 4), (dst, 4), (0, 1), (proto, 1), (size, 2)] _ 5 _ _ w (by rfl) (by rfl) (by simp) (by simp) HB).mono ?_; rintro e w1 ⟨v, rfl, hm⟩)
  go_ret
  exact ⟨v, rfl, hm⟩
set_option maxHeartbeats 1000000 in
theorem cUhead (q : PU) (s : Int) (A : Option Addr) (c : Nat) (w : World) (hl : q.dat.length ≤ 1000000) :
    Calls Tryz.prog 154 #[usv q A c, .int .i64 s] w fun e w' => ∃ v, e = .returned v ∧ Made w w' v (hdU q s) := by
  have HB := Lib.hid (putL_hdU q s)
  have hB : Below w.heap.size w (w.alloc (.cells (usa q A c) 57)) := (Below.refl w.heap.size w).alloc (Nat.le_refl _) _
  have hAt := Atus.new (q := q) (A := A) (c := c) w
  rw [usv_eq]
  go_enter Tryz.func154, Tryz.ntmps154
  go_upto_region 1 with fail
  generalize w.alloc (.cells (usa q A c) 57) = W at *
  have k0 := hAt.src; have k1 := hAt.dst; have k3 := hAt.dat
  go_wp2_with (go_at_call 112; refine (put7_new [(q.src, 2), (q.dst, 2), (8 + (q.dat.length : Int), 2), (s, 2)] _ 4 _ _ W (by rfl) (by rfl) (by simp) (by simp) HB).mono ?_; rintro e w1 ⟨v, rfl, hm⟩)
  go_ret
  exact ⟨v, rfl, hm.after hB⟩
end Go.Proofs.YtodlfdnegcfhcaaGreat

/-
  Contracts of layer 7's Check, numbers and Same, the program's and the document's; of the document's mod and Pseudo. Conditions are each theorem's own.
-/
namespace Go.Proofs.YtodlfdnegcfhcaaGreat
open Go.RowKit

theorem mod_val (n m : Int) (h0 : 0 < m) (h1 : m ≤ 4294967296) : (wrap64 (n.tmod m + m)).tmod m = n % m := by
  have hlt := Int.tmod_lt_of_pos n h0
  have hgt : -m < n.tmod m := by
    have := Int.tmod_lt_of_pos (-n) h0
    rw [Int.neg_tmod] at this; omega
  have e1 : wrap64 (n.tmod m + m) = n.tmod m + m := by unfold wrap64; omega
  rw [e1, Int.tmod_eq_emod_of_nonneg (by omega), Int.add_emod_right]
  have h2 : n = m * (n.tdiv m) + n.tmod m := (Int.mul_tdiv_add_tmod n m).symm
  conv => rhs; rw [h2]
  rw [Int.add_comm, Int.add_mul_emod_self_left]
theorem rmod_any (n m : Int) (w : World) (hm : m = 4294967296 ∨ m = 65536 ∨ m = 256) :
    Calls Tryz.prog 98 #[.int .i64 n, .int .i64 m] w fun e w' => e = .returned (.int .i64 (n % m)) ∧ w = w' := by
  have hv := Lib.hid (fun h0 h1 => mod_val n m h0 h1)
  rcases hm with rfl | rfl | rfl
  all_goals
    go_enter Tryz.func98, Tryz.ntmps98
    go_wp2_with fail
    go_ret
    exact ⟨ret_int (hv.out (by decide) (by decide)), rfl⟩
theorem rput_nil (n s : Int) (w : World) : Calls Tryz.prog 97 #[.slice none 0 0, .int .i64 n, .int .i64 s] w fun e w' => ∃ v, e = .returned v ∧ Made w w' v (putB [] n s) :=
  rput_any none [] 0 0 n s w (Arg.nil _ 0) (by simp)
theorem rpsd_any (src dst proto size : Int) (w : World) :
    Calls Tryz.prog 60 #[.int .i64 src, .int .i64 dst, .int .i64 proto, .int .i64 size] w fun e w' => ∃ v, e = .returned v ∧ Made w w' v (psd src dst proto size) := by
  obtain ⟨L1, h1⟩ : ∃ l, l = be4 src := ⟨_, rfl⟩
  obtain ⟨L2, h2⟩ : ∃ l, l = L1 ++ be4 dst := ⟨_, rfl⟩
  obtain ⟨L3, h3⟩ : ∃ l, l = L2 ++ [u8 0] := ⟨_, rfl⟩
  obtain ⟨L4, h4⟩ : ∃ l, l = L3 ++ [u8 proto] := ⟨_, rfl⟩
  have H1 := Lib.hid (show putB [] (src % 4294967296) 4 = L1 by rw [putm_four, h1]; rfl)
  have H2 := Lib.hid (show putB L1 (dst % 4294967296) 4 = L2 by rw [putm_four, h2])
  have H3 := Lib.hid h3
  have H4 := Lib.hid (show putB L3 (proto % 256) 1 = L4 by rw [putm_one, h4])
  have H5 := Lib.hid (show putB L4 (size % 65536) 2 = psd src dst proto size by rw [putm_two, h4, h3, h2, h1]; rfl)
  have l1 : L1.length ≤ 4 := by rw [h1]; simp [be4]
  have l2 : L2.length ≤ 8 := by rw [h2, List.length_append]; simp [be4]; omega
  have l3 : L3.length ≤ 9 := by rw [h3, List.length_append]; simp; omega
  have l4 : L4.length ≤ 10 := by rw [h4, List.length_append]; simp; omega
  clear h1 h2 h3 h4
  go_enter Tryz.func60, Tryz.ntmps60
  go_upto_region 2 with (first
    | (go_at_call 98; ((with_reducible refine (rmod_any src 4294967296 _ (.inl rfl)).mono ?_); rintro e w' ⟨rfl, rfl⟩))
    | (go_at_call 97; ((with_reducible refine (rput_nil (src % 4294967296) 4 _).mono ?_); rintro e w1 ⟨v1, rfl, m1⟩; rw [H1.out] at m1; obtain ⟨A1, c1, rfl, g1, o1, x1⟩ := made_shape m1))
    | (go_at_call 98; ((with_reducible refine (rmod_any dst 4294967296 _ (.inl rfl)).mono ?_); rintro e w' ⟨rfl, rfl⟩))
    | (go_at_call 97; ((with_reducible refine (rput_any A1 L1 c1 _ (dst % 4294967296) 4 _ g1 (by omega)).mono ?_); rintro e w2 ⟨v2, rfl, m2⟩; rw [H2.out] at m2; obtain ⟨A2, c2, rfl, g2, o2, x2⟩ := made_shape m2)))
  go_wp2_with (first
    | (at_builtin; go_loud (refine append_rd rfl _ _ rfl w1.heap.size _ _ _ rfl (o2.alloc _) (w2.heap.size + 1) (some ⟨w2.heap.size, 0, none⟩) 1 [u8 0] rfl (fun e => by cases e) (Rd.one _ rfl) (by simp; omega) (by have := x2.size; simp; omega) ?_; intro v3 w3 own3 grow3; obtain ⟨A3, c3, rfl, owm3⟩ := own_made (bs := L3) own3 (by rw [H3.out]; simp) (by rw [H3.out, row_append])))
    | (go_at_call 98; ((with_reducible refine (rmod_any proto 256 _ (.inr (.inr rfl))).mono ?_); rintro e w' ⟨rfl, rfl⟩))
    | (go_at_call 97; ((with_reducible refine (rput_any A3 L3 c3 _ (proto % 256) 1 _ (arg_own owm3) (by omega)).mono ?_); rintro e w4 ⟨v4, rfl, m4⟩; rw [H4.out] at m4; obtain ⟨A4, c4, rfl, g4, o4, x4⟩ := made_shape m4))
    | (go_at_call 98; ((with_reducible refine (rmod_any size 65536 _ (.inr (.inl rfl))).mono ?_); rintro e w' ⟨rfl, rfl⟩))
    | (go_at_call 97; ((with_reducible refine (rput_any A4 L4 c4 _ (size % 65536) 2 _ g4 (by omega)).mono ?_); rintro e w5 ⟨v5, rfl, m5⟩; rw [H5.out] at m5)))
  go_ret
  have z1 := x1.size; have z2 := x2.size
  have x03 : Below w.heap.size w w3 := (((x1.trans (x2.mono z1)).alloc (by omega) _)).grown grow3 (by simp; omega) (fun k hk => by have := own_block_ge o2 k hk; omega)
  have z3 := x03.size
  exact ⟨v5, rfl, m5.after (x03.trans (x4.mono z3))⟩
section
variable (q : PU) (A : Option Addr) (c : Nat) (w : World)
theorem argU_iff (q : PU) : argU q ↔ (fitsB q.src 2 = true ∧ fitsB q.dst 2 = true) := by
  rw [fitsB_iff, fitsB_iff, pw2, argU]; omega
set_option maxHeartbeats 1000000 in
theorem cUcheck (hl : q.dat.length ≤ 1000000) : Calls Tryz.prog 153 #[usv q A c] w fun e w' => e = .returned (.int .i64 (chkU q)) ∧ Below w.heap.size w w' := by
  have hB : Below w.heap.size w (w.alloc (.cells (usa q A c) 57)) := (Below.refl w.heap.size w).alloc (Nat.le_refl _) _
  have hAt := Atus.new (q := q) (A := A) (c := c) w
  have hz : w.heap.size < (w.alloc (.cells (usa q A c) 57)).heap.size := by simp
  rw [usv_eq]
  have HO := Lib.hid (argU_iff q)
  have k0 := hAt.src; have k1 := hAt.dst; have k3 := hAt.dat
  go_enter Tryz.func153, Tryz.ntmps153
  go_upto_region 1 with fail
  generalize w.alloc (.cells (usa q A c) 57) = W at *
  by_cases ho : argU q
  · have H0 := Lib.hid (HO.out.1 ho).1
    have H1 := Lib.hid (HO.out.1 ho).2
    by_cases s : 65527 < q.dat.length
    · have HE := Lib.hid (show chkU q = 6 by rw [chkU, if_pos ho, if_pos (by omega)])
      clear ho HO hAt
      go_wp2_with (go_at_call 70; refine (fits_any _ _ _).mono ?_; rintro e w' ⟨rfl, rfl⟩; (first | rw [H0.out] | rw [H1.out] | skip))
      go_ret
      exact ⟨ret_int (by rw [HE.out]), hB⟩
    · have HE := Lib.hid (show chkU q = 0 by rw [chkU, if_pos ho, if_neg (by omega)])
      clear ho HO hAt
      go_wp2_with (go_at_call 70; refine (fits_any _ _ _).mono ?_; rintro e w' ⟨rfl, rfl⟩; (first | rw [H0.out] | rw [H1.out] | skip))
      go_ret
      exact ⟨ret_int (by rw [HE.out]), hB⟩
  · have HE := Lib.hid (show chkU q = 1 by rw [chkU, if_neg ho])
    have hno : ¬ (fitsB q.src 2 = true ∧ fitsB q.dst 2 = true) := fun h => ho (HO.out.2 h)
    clear ho HO hAt
    cases h0 : fitsB q.src 2
    · have H0 := Lib.hid h0; have H1 := H0
      clear hno h0
      go_wp2_with (go_at_call 70; refine (fits_any _ _ _).mono ?_; rintro e w' ⟨rfl, rfl⟩; (first | rw [H0.out] | rw [H1.out] | skip))
      go_ret
      exact ⟨ret_int (by rw [HE.out]), hB⟩
    · have H0 := Lib.hid h0
      rw [h0] at hno; clear h0
      have h1 : fitsB q.dst 2 = false := by cases h1 : fitsB q.dst 2; rfl; exact absurd ⟨rfl, h1⟩ hno
      have H1 := Lib.hid h1
      clear hno h1
      go_wp2_with (go_at_call 70; refine (fits_any _ _ _).mono ?_; rintro e w' ⟨rfl, rfl⟩; (first | rw [H0.out] | rw [H1.out] | skip))
      go_ret
      exact ⟨ret_int (by rw [HE.out]), hB⟩
set_option maxHeartbeats 1000000 in
theorem rUcheck (hl : q.dat.length ≤ 1000000) : Calls Tryz.prog 88 #[usv q A c] w fun e w' => e = .returned (.int .i64 (chkU q)) ∧ Below w.heap.size w w' := by
  have hB : Below w.heap.size w (w.alloc (.cells (usa q A c) 57)) := (Below.refl w.heap.size w).alloc (Nat.le_refl _) _
  have hAt := Atus.new (q := q) (A := A) (c := c) w
  have hz : w.heap.size < (w.alloc (.cells (usa q A c) 57)).heap.size := by simp
  rw [usv_eq]
  have HO := Lib.hid (argU_iff q)
  have k0 := hAt.src; have k1 := hAt.dst; have k3 := hAt.dat
  go_enter Tryz.func88, Tryz.ntmps88
  go_upto_region 1 with fail
  generalize w.alloc (.cells (usa q A c) 57) = W at *
  by_cases ho : argU q
  · have H0 := Lib.hid (HO.out.1 ho).1
    have H1 := Lib.hid (HO.out.1 ho).2
    by_cases s : 65527 < q.dat.length
    · have HE := Lib.hid (show chkU q = 6 by rw [chkU, if_pos ho, if_pos (by omega)])
      clear ho HO hAt
      go_wp2_with (go_at_call 55; refine (rfits_any _ _ _).mono ?_; rintro e w' ⟨rfl, rfl⟩; (first | rw [H0.out] | rw [H1.out] | skip))
      go_ret
      exact ⟨ret_int (by rw [HE.out]), hB⟩
    · have HE := Lib.hid (show chkU q = 0 by rw [chkU, if_pos ho, if_neg (by omega)])
      clear ho HO hAt
      go_wp2_with (go_at_call 55; refine (rfits_any _ _ _).mono ?_; rintro e w' ⟨rfl, rfl⟩; (first | rw [H0.out] | rw [H1.out] | skip))
      go_ret
      exact ⟨ret_int (by rw [HE.out]), hB⟩
  · have HE := Lib.hid (show chkU q = 1 by rw [chkU, if_neg ho])
    have hno : ¬ (fitsB q.src 2 = true ∧ fitsB q.dst 2 = true) := fun h => ho (HO.out.2 h)
    clear ho HO hAt
    cases h0 : fitsB q.src 2
    · have H0 := Lib.hid h0; have H1 := H0
      clear hno h0
      go_wp2_with (go_at_call 55; refine (rfits_any _ _ _).mono ?_; rintro e w' ⟨rfl, rfl⟩; (first | rw [H0.out] | rw [H1.out] | skip))
      go_ret
      exact ⟨ret_int (by rw [HE.out]), hB⟩
    · have H0 := Lib.hid h0
      rw [h0] at hno; clear h0
      have h1 : fitsB q.dst 2 = false := by cases h1 : fitsB q.dst 2; rfl; exact absurd ⟨rfl, h1⟩ hno
      have H1 := Lib.hid h1
      clear hno h1
      go_wp2_with (go_at_call 55; refine (rfits_any _ _ _).mono ?_; rintro e w' ⟨rfl, rfl⟩; (first | rw [H0.out] | rw [H1.out] | skip))
      go_ret
      exact ⟨ret_int (by rw [HE.out]), hB⟩

def numsU (q : PU) : List Int := [q.src, q.dst]
end
theorem sameU_nums (q r : PU) : sameU q r = (decide (numsU q = numsU r) && (q.nosum == r.nosum) && decide (q.dat = r.dat)) := by
  rw [sameU, Bool.eq_iff_iff]; simp [numsU, and_assoc]
section
variable (q r : PU) (A : Option Addr) (c : Nat) (X : Option Addr) (d B : Nat) (w : World)
end
end Go.Proofs.YtodlfdnegcfhcaaGreat

/-
  Contracts of layer 7's check and Build, the program's and the document's. Conditions are each theorem's own.
-/
namespace Go.Proofs.YtodlfdnegcfhcaaGreat
open Go.RowKit

theorem Rd2.two {w : World} {B g t n0 n1 : Nat} {A0 A1 : Option Addr} {c0 c1 : Nat} {b0 b1 : List UInt8} (h0 : n0 = b0.length) (h1 : n1 = b1.length)
    (hg : w.heap[g]? = some (.cells #[.slice A0 n0 c0, .slice A1 n1 c1] t (0, 0))) (hB : g < B) (a0 : Arg w B A0 c0 b0) (a1 : Arg w B A1 c1 b1) : Rd2 w B (some ⟨g, 0, none⟩) [b0, b1] := by
  subst h0; subst h1
  refine Rd2.of_cells hg hB fun j b hj => ?_
  match j, hj with
  | 0, hj => simp at hj; subst hj; exact ⟨A0, c0, rfl, a0⟩
  | 1, hj => simp at hj; subst hj; exact ⟨A1, c1, rfl, a1⟩
  | j + 2, hj => simp at hj
theorem bulk2 (a b : List UInt8) : bulk [a, b] = a.length + b.length := by simp [bulk]
theorem rof_two (A : Option Addr) (a b : List UInt8) (c B : Nat) (N : Int) (hN : Hid (N = 65535 - fold (psum [a, b]))) (w : World) (h : Rd2 w B A [a, b]) (hl : a.length + b.length ≤ 1099511627000) :
    Calls Tryz.prog 87 #[.slice A 2 c] w fun e w' => e = .returned (.int .i64 N) ∧ ∃ n, w' = w.drewN n := by
  have h1 := rof_any A [a, b] c B w h (by rw [bulk2]; omega) (by simp)
  rw [← hN.out] at h1
  exact h1
theorem right_two (A : Option Addr) (a b : List UInt8) (c B : Nat) (N : Bool) (hN : Hid (N = rightB [a, b])) (w : World) (h : Rd2 w B A [a, b]) (hB : B ≤ w.heap.size) (hl : a.length + b.length ≤ 1099511627000) :
    Calls Tryz.prog 41 #[.slice A 2 c] w fun e w' => e = .returned (.bool N) ∧ Below w.heap.size w w' := by
  have h1 := right_any A [a, b] c B w h hB (by rw [bulk2]; omega) (by simp)
  rw [← hN.out] at h1
  exact h1
theorem rright_two (A : Option Addr) (a b : List UInt8) (c B : Nat) (N : Bool) (hN : Hid (N = rightB [a, b])) (w : World) (h : Rd2 w B A [a, b]) (hl : a.length + b.length ≤ 1099511627000) :
    Calls Tryz.prog 59 #[.slice A 2 c] w fun e w' => e = .returned (.bool N) ∧ ∃ n, w' = w.drewN n := by
  have h1 := rright_any A [a, b] c B w h (by rw [bulk2]; omega) (by simp)
  rw [← hN.out] at h1
  exact h1
section
variable (q : PU) (A : Option Addr) (c : Nat) (src dst : Int) (w : World)
set_option maxRecDepth 100000 in
set_option maxHeartbeats 1000000 in
theorem cUck (B : Nat) (hD : Arg w B A c q.dat) (hB0 : B ≤ w.heap.size) (hl : q.dat.length ≤ 1000000) :
    Calls Tryz.prog 155 #[.int .i64 src, .int .i64 dst, usv q A c] w fun e w' => e = .returned (.int .i64 (ckU src dst q)) ∧ Below w.heap.size w w' := by
  have hB : Below w.heap.size w (w.alloc (.cells (usa q A c) 57)) := (Below.refl w.heap.size w).alloc (Nat.le_refl _) _
  have hAt := Atus.new (q := q) (A := A) (c := c) w
  have hz : w.heap.size < (w.alloc (.cells (usa q A c) 57)).heap.size := by simp
  rw [usv_eq]
  obtain ⟨PS, hPS⟩ : ∃ l, l = psd src dst 17 (8 + (q.dat.length : Int)) := ⟨_, rfl⟩
  obtain ⟨HD, hHD⟩ : ∃ l, l = hdU q 0 := ⟨_, rfl⟩
  have HSM := Lib.hid (show smU src dst q = 65535 - fold (psum [PS, HD, q.dat]) by rw [hPS, hHD]; rfl)
  have HPL := Lib.hid (show PS.length = 12 by rw [hPS, psd_len])
  have HHL := Lib.hid (show HD.length = 8 by rw [hHD, hdU_len])
  have HPS := Lib.hid hPS; have HHD := Lib.hid hHD
  clear hPS hHD
  go_enter Tryz.func155, Tryz.ntmps155
  go_upto_region 1 with fail
  generalize w.alloc (.cells (usa q A c) 57) = W at *
  have k2 := hAt.nosum
  cases hn : q.nosum
  · have HN := Lib.hid hn
    rw [hn] at k2
    clear hn
    go_upto_region 3 with fail
    have hW := Lib.hid (IntWalk.i64_in (8 + (q.dat.length : Int)) (by omega))
    refine wp_region_held_drew (S := fun w' => Below W.heap.size W w') (by kernel_rfl) (Below.refl _ W).drew (fun hS => ?_)
    refine held_pure (i := 0) (oi := ⟨some 10, _, _, _, _, _⟩) rfl (by kernel_rfl) (by kernel_rfl) (by kernel_rfl) (fun _ _ _ h => h) (by rfl) (v := ?_) (fun w hSw => ?_) hS (fun hS => ?_)
    rotate_left
    · go_simp; try with_reducible rfl
    try go_frame
    refine held_pure (i := 1) (oi := ⟨some 11, _, _, _, _, _⟩) rfl (by kernel_rfl) (by kernel_rfl) (by kernel_rfl) (fun _ _ _ h => h) (by rfl) (v := ?_) (fun w hSw => ?_) hS (fun hS => ?_)
    rotate_left
    · go_simp; try with_reducible rfl
    try go_frame
    refine held_pure (i := 2) (oi := ⟨some 12, _, _, _, _, _⟩) rfl (by kernel_rfl) (by kernel_rfl) (by kernel_rfl) (fun _ _ _ h => h) (by rfl) (v := ?_) (fun w hSw => ?_) hS (fun hS => ?_)
    rotate_left
    · go_simp; try with_reducible rfl
    try go_frame
    refine held_pure (i := 3) (oi := ⟨some 13, _, _, _, _, _⟩) rfl (by kernel_rfl) (by kernel_rfl) (by kernel_rfl) (fun _ _ _ h => h) (by rfl) (fun w hSw => run_load_sl rfl rfl ((hAt.below hSw (by omega)).dat)) hS (fun hS => ?_)
    try go_frame
    refine held_pure (i := 4) (oi := ⟨some 14, _, _, _, _, _⟩) rfl (by kernel_rfl) (by kernel_rfl) (by kernel_rfl) (fun _ _ _ h => h) (by rfl) (v := ?_) (fun w hSw => ?_) hS (fun hS => ?_)
    rotate_left
    · go_simp; try with_reducible rfl
    try go_frame
    refine held_pure (i := 5) (oi := ⟨some 15, _, _, _, _, _⟩) rfl (by kernel_rfl) (by kernel_rfl) (by kernel_rfl) (fun _ _ _ h => h) (by rfl) (v := .int .i64 (8 + (q.dat.length : Int))) (fun w hSw => by go_simp; exact hW.out) hS (fun hS => ?_)
    try go_frame
    refine held_pure (i := 7) (oi := ⟨some 17, _, _, _, _, _⟩) rfl (by kernel_rfl) (by kernel_rfl) (by kernel_rfl) (fun _ _ _ h => h) (by rfl) (fun w hSw => run_load_us rfl rfl (hAt.below hSw (by omega)) rfl) hS (fun hS => ?_)
    try go_frame
    refine held_pure (i := 9) (oi := ⟨some 19, _, _, _, _, _⟩) rfl (by kernel_rfl) (by kernel_rfl) (by kernel_rfl) (fun _ _ _ h => h) (by rfl) (v := ?_) (fun w hSw => ?_) hS (fun hS => ?_)
    rotate_left
    · go_simp; try with_reducible rfl
    try go_frame
    refine held_pure (i := 10) (oi := ⟨some 20, _, _, _, _, _⟩) rfl (by kernel_rfl) (by kernel_rfl) (by kernel_rfl) (fun _ _ _ h => h) (by rfl) (fun w hSw => run_load_sl rfl rfl ((hAt.below hSw (by omega)).dat)) hS (fun hS => ?_)
    try go_frame
    refine wpAnyH_ready (rs := [6]) (by kernel_rfl) (by simp) (AllReadyH.cons (o := ⟨some 16, _, _, _, _, _⟩) rfl (fun K hK => ?_) AllReadyH.nil)
    rw [if_pos (by rfl)]
    go_simp
    refine (psd_any src dst 17 (8 + (q.dat.length : Int)) _).mono ?_
    rintro e w6 ⟨v6, rfl, m6⟩
    rw [← HPS.out] at m6
    obtain ⟨A6, c6, rfl, g6, o6, x6⟩ := made_shape m6
    show K _ _
    refine hK.out _ _ (below_step hS x6) (fun hS => ?_)
    clear hK K
    try go_frame
    refine wpAnyH_ready (rs := [8]) (by kernel_rfl) (by simp) (AllReadyH.cons (o := ⟨some 18, _, _, _, _, _⟩) rfl (fun K hK => ?_) AllReadyH.nil)
    rw [if_pos (by rfl)]
    go_simp
    refine (cUhead q 0 A c _ hl).mono ?_
    rintro e w8 ⟨v8, rfl, m8⟩
    rw [← HHD.out] at m8
    obtain ⟨A8, c8, rfl, g8, o8, x8⟩ := made_shape m8
    have hS8 := below_step hS x8
    show K _ _
    refine hK.out _ _ (below_step hS x8) (fun hS => ?_)
    clear hK K
    try go_frame
    refine wpAnyH_ready (rs := [11]) (by kernel_rfl) (by simp) (AllReadyH.cons (o := ⟨some 21, _, _, _, _, _⟩) rfl (fun K hK => ?_) AllReadyH.nil)
    rw [if_pos (by rfl)]
    go_simp
    refine hK.out _ _ (hS.alloc hS.size _) (fun hS => ?_)
    clear hK K
    try go_frame
    refine wpAnyH_ready (rs := [12]) (by kernel_rfl) (by simp) (AllReadyH.cons (o := ⟨some 22, _, _, _, _, _⟩) rfl (fun K hK => ?_) AllReadyH.nil)
    rw [if_pos (by rfl)]
    go_simp
    refine (of_three (some ⟨w8.heap.size, 0, none⟩) [PS, HD, q.dat] rfl 3 _ (smU src dst q) HSM _ (Rd2.three rfl rfl rfl (World.alloc_heap_new w8 _) (Nat.lt_succ_self _) (((g6.below x8).alloc x8.size _).more (by have := x8.size; omega)) ((g8.alloc (Nat.le_refl _) _).more (Nat.le_succ _)) (((hD.below ((hB.trans (hS8.mono (by omega))).mono hB0)).alloc (by have := hS8.size; omega) _).more (by have := hS8.size; omega))) (by simp) (by rw [bulk3]; have := HPL.out; have := HHL.out; omega)).mono ?_
    rintro e w12 ⟨rfl, x12⟩
    show K _ _
    refine hK.out _ _ (below_step hS x12) (fun hS => ?_)
    clear hK K
    try go_frame
    refine held_pure (i := 13) (oi := ⟨some 7, _, _, _, _, _⟩) rfl (by kernel_rfl) (by kernel_rfl) (by kernel_rfl) (fun _ _ _ h => h) (by rfl) (v := ?_) (fun w hSw => ?_) hS (fun hS => ?_)
    rotate_left
    · go_simp; try with_reducible rfl
    try go_frame
    refine wpAnyH_done (by kernel_rfl) ?_ _
    have bd := smU_bd src dst q
    obtain ⟨N, hN⟩ : ∃ n, n = smU src dst q := ⟨_, rfl⟩
    rw [← hN]
    have HNN := Lib.hid hN
    clear hN HSM
    by_cases h0 : N = 0
    · have e0 : (N == 0) = true := by simpa using h0
      have HE := Lib.hid (show ckU src dst q = 65535 by rw [ckU, HN.out, ← HNN.out, if_pos h0]; rfl)
      clear h0
      go_wp2_with fail
      go_ret
      exact ⟨ret_int (by rw [HE.out]), hB.trans (hS.mono (by omega))⟩
    · have e0 : (N == 0) = false := by simpa using h0
      have HE := Lib.hid (show ckU src dst q = N by rw [ckU, HN.out, ← HNN.out, if_neg h0]; rfl)
      clear h0
      go_wp2_with fail
      go_ret
      exact ⟨ret_int (by rw [HE.out]), hB.trans (hS.mono (by omega))⟩
  · have HE := Lib.hid (show ckU src dst q = 0 by rw [ckU, hn]; rfl)
    rw [hn] at k2
    clear hn
    go_wp2_with fail
    go_ret
    exact ⟨ret_int (by rw [HE.out]), hB⟩
set_option maxRecDepth 100000 in
set_option maxHeartbeats 1000000 in
theorem cUbuild (B : Nat) (hD : Arg w B A c q.dat) (hB0 : B ≤ w.heap.size) (hl : q.dat.length ≤ 1000000) :
    Calls Tryz.prog 152 #[.int .i64 src, .int .i64 dst, usv q A c] w fun e w' => ∃ v, e = .returned (.tuple #[v, .int .i64 (chkU q)]) ∧ (chkU q ≠ 0 → v = .slice none 0 0 ∧ Below w.heap.size w w') ∧ (chkU q = 0 → Made w w' v (bldU src dst q)) := by
  have hB : Below w.heap.size w (w.alloc (.cells (usa q A c) 57)) := (Below.refl w.heap.size w).alloc (Nat.le_refl _) _
  have hAt := Atus.new (q := q) (A := A) (c := c) w
  have hz : w.heap.size < (w.alloc (.cells (usa q A c) 57)).heap.size := by simp
  rw [usv_eq]
  go_enter Tryz.func152, Tryz.ntmps152
  go_upto_region 1 with fail
  generalize w.alloc (.cells (usa q A c) 57) = W at *
  by_cases hc : chkU q = 0
  · have HC := Lib.hid hc
    clear hc
    go_upto_region 4 with (first
      | ((with_reducible show wpList _ _ _ (Oper.mk _ (Op.load 57 _) _ _ _ _ :: _) _ _); refine wpList_val rfl (run_load_us rfl rfl hAt rfl) ?_)
      | (go_at_call 153; refine (cUcheck q A c _ hl).mono ?_; rintro e w1 ⟨rfl, x1⟩; rw [HC.out]))
    refine wp_region_held_drew (S := fun w' => Below W.heap.size W w') (by kernel_rfl) x1.drew (fun hS => ?_)
    refine held_pure (i := 0) (oi := ⟨some 14, _, _, _, _, _⟩) rfl (by kernel_rfl) (by kernel_rfl) (by kernel_rfl) (fun _ _ _ h => h) (by rfl) (fun w hSw => run_load_us rfl rfl (hAt.below hSw (by omega)) rfl) hS (fun hS => ?_)
    try go_frame
    refine held_pure (i := 1) (oi := ⟨some 15, _, _, _, _, _⟩) rfl (by kernel_rfl) (by kernel_rfl) (by kernel_rfl) (fun _ _ _ h => h) (by rfl) (v := ?_) (fun w hSw => ?_) hS (fun hS => ?_)
    rotate_left
    · go_simp; try with_reducible rfl
    try go_frame
    refine held_pure (i := 2) (oi := ⟨some 16, _, _, _, _, _⟩) rfl (by kernel_rfl) (by kernel_rfl) (by kernel_rfl) (fun _ _ _ h => h) (by rfl) (v := ?_) (fun w hSw => ?_) hS (fun hS => ?_)
    rotate_left
    · go_simp; try with_reducible rfl
    try go_frame
    refine held_pure (i := 3) (oi := ⟨some 17, _, _, _, _, _⟩) rfl (by kernel_rfl) (by kernel_rfl) (by kernel_rfl) (fun _ _ _ h => h) (by rfl) (fun w hSw => run_load_us rfl rfl (hAt.below hSw (by omega)) rfl) hS (fun hS => ?_)
    try go_frame
    refine held_pure (i := 6) (oi := ⟨some 20, _, _, _, _, _⟩) rfl (by kernel_rfl) (by kernel_rfl) (by kernel_rfl) (fun _ _ _ h => h) (by rfl) (v := ?_) (fun w hSw => ?_) hS (fun hS => ?_)
    rotate_left
    · go_simp; try with_reducible rfl
    try go_frame
    refine held_pure (i := 7) (oi := ⟨some 21, _, _, _, _, _⟩) rfl (by kernel_rfl) (by kernel_rfl) (by kernel_rfl) (fun _ _ _ h => h) (by rfl) (fun w hSw => run_load_sl rfl rfl ((hAt.below hSw (by omega)).dat)) hS (fun hS => ?_)
    try go_frame
    refine wpAnyH_ready (rs := [4]) (by kernel_rfl) (by simp) (AllReadyH.cons (o := ⟨some 18, _, _, _, _, _⟩) rfl (fun K hK => ?_) AllReadyH.nil)
    rw [if_pos (by rfl)]
    go_simp
    refine (cUck q A c src dst _ B (hD.below ((hB.trans (hS.mono (by omega))).mono hB0)) (by have := hS.size; omega) hl).mono ?_
    rintro e w4 ⟨rfl, x4⟩
    show K _ _
    refine hK.out _ _ (below_step hS x4) (fun hS => ?_)
    clear hK K
    try go_frame
    refine wpAnyH_ready (rs := [5]) (by kernel_rfl) (by simp) (AllReadyH.cons (o := ⟨some 19, _, _, _, _, _⟩) rfl (fun K hK => ?_) AllReadyH.nil)
    rw [if_pos (by rfl)]
    go_simp
    refine (cUhead q (ckU src dst q) A c _ hl).mono ?_
    rintro e w5 ⟨v5, rfl, m5⟩
    obtain ⟨A5, c5, rfl, g5, o5, x5⟩ := made_shape m5
    have o5 := own_base o5 hS.size
    show K _ _
    refine hK.out _ _ (below_step hS x5) (fun hS => ?_)
    clear hK K
    try go_frame
    refine wpAnyH_ready (rs := [8]) (by kernel_rfl) (by simp) (AllReadyH.cons (o := ⟨some 22, _, _, _, _, _⟩) rfl (fun K hK => ?_) AllReadyH.nil)
    rw [if_pos (by rfl)]
    refine append_wp _ _ rfl W.heap.size _ _ _ rfl o5 B A c q.dat rfl hD.none_ ((hD.below ((hB.trans (hS.mono (by omega))).mono hB0)).rd) (by rw [hdU_len]; omega) hS.size ?_
    intro v8 w8 own8 grow8
    obtain ⟨A8, c8, rfl, owm8⟩ := own_made (bs := bldU src dst q) own8 (by simp [bldU]) (by rw [bldU, row_append])
    refine hK.out _ _ (hS.grown grow8 hS.size (fun k hk => own_block_ge o5 k hk)) (fun hS => ?_)
    clear hK K
    try go_frame
    refine held_pure (i := 9) (oi := ⟨some 6, _, _, _, _, _⟩) rfl (by kernel_rfl) (by kernel_rfl) (by kernel_rfl) (fun _ _ _ h => h) (by rfl) (v := ?_) (fun w hSw => ?_) hS (fun hS => ?_)
    rotate_left
    · go_simp; try with_reducible rfl
    try go_frame
    refine held_pure (i := 10) (oi := ⟨some 7, _, _, _, _, _⟩) rfl (by kernel_rfl) (by kernel_rfl) (by kernel_rfl) (fun _ _ _ h => h) (by rfl) (v := ?_) (fun w hSw => ?_) hS (fun hS => ?_)
    rotate_left
    · go_simp; try with_reducible rfl
    try go_frame
    refine wpAnyH_done (by kernel_rfl) ?_ _
    go_wp2_with fail
    go_ret2
    exact ⟨.slice A8 (bldU src dst q).length c8, by rw [HC.out]; rfl, fun h => absurd HC.out h, fun _ => Made.of_own (own_base owm8 (by omega)) (hB.trans (hS.mono (by omega)))⟩
  · have hne : (chkU q != 0) = true := by simpa using hc
    have HN := Lib.hid hc
    clear hc
    go_wp2_with (first
      | ((with_reducible show wpList _ _ _ (Oper.mk _ (Op.load 57 _) _ _ _ _ :: _) _ _); refine wpList_val rfl (run_load_us rfl rfl hAt rfl) ?_)
      | (go_at_call 153; refine (cUcheck q A c _ hl).mono ?_; rintro e w1 ⟨rfl, x1⟩; skip))
    go_ret2
    exact ⟨.slice none 0 0, rfl, fun _ => ⟨rfl, hB.trans (x1.mono (by omega))⟩, fun h => absurd h HN.out⟩
set_option maxRecDepth 100000 in
set_option maxHeartbeats 1000000 in
theorem rUbytes (B : Nat) (s : Int) (bs : List UInt8) (hbs : Hid (bs = hdU q s ++ q.dat)) (ha : argU q) (hd : q.dat.length ≤ 65527) (s0 : 0 ≤ s) (s1 : s ≤ 65535) (hD : Arg w B A c q.dat) (hB0 : B ≤ w.heap.size) :
    Calls Tryz.prog 89 #[usv q A c, .int .i64 s] w fun e w' => ∃ v, e = .returned v ∧ Made w w' v bs := by
  have hB : Below w.heap.size w (w.alloc (.cells (usa q A c) 57)) := (Below.refl w.heap.size w).alloc (Nat.le_refl _) _
  have hAt := Atus.new (q := q) (A := A) (c := c) w
  have hz : w.heap.size < (w.alloc (.cells (usa q A c) 57)).heap.size := by simp
  rw [usv_eq]
  obtain ⟨a1, a2, a3, a4⟩ := ha
  obtain ⟨L1, h1⟩ : ∃ l, l = be2 q.src := ⟨_, rfl⟩
  obtain ⟨L2, h2⟩ : ∃ l, l = L1 ++ be2 q.dst := ⟨_, rfl⟩
  obtain ⟨L3, h3⟩ : ∃ l, l = L2 ++ be2 (8 + (q.dat.length : Int)) := ⟨_, rfl⟩
  obtain ⟨L4, h4⟩ : ∃ l, l = L3 ++ be2 s := ⟨_, rfl⟩
  have H1 := Lib.hid (show putB [] q.src 2 = L1 by rw [put_two a1 a2, h1]; rfl)
  have H2 := Lib.hid (show putB L1 q.dst 2 = L2 by rw [put_two a3 a4, h2])
  have H3 := Lib.hid (show putB L2 (8 + (q.dat.length : Int)) 2 = L3 by rw [put_two (by omega) (by omega), h3])
  have H4 := Lib.hid (show putB L3 s 2 = L4 by rw [put_two s0 s1, h4])
  have H5 := Lib.hid (show bs = L4 ++ q.dat by rw [hbs.out, h4, h3, h2, h1]; rfl)
  have l1 : L1.length ≤ 2 := by rw [h1]; simp [be2]
  have l2 : L2.length ≤ 4 := by rw [h2, List.length_append]; simp [be2]; omega
  have l3 : L3.length ≤ 6 := by rw [h3, List.length_append]; simp [be2]; omega
  have l4 : L4.length ≤ 8 := by rw [h4, List.length_append]; simp [be2]; omega
  clear h1 h2 h3 h4 hbs
  go_enter Tryz.func89, Tryz.ntmps89
  go_wp2_with fail
  generalize w.alloc (.cells (usa q A c) 57) = W at *
  refine wp_region_held_drew (S := fun w' => Below W.heap.size W w') (by kernel_rfl) (Below.refl _ W).drew (fun hS => ?_)
  refine held_pure (i := 0) (oi := ⟨some 6, _, _, _, _, _⟩) rfl (by kernel_rfl) (by kernel_rfl) (by kernel_rfl) (fun _ _ _ h => h) (by rfl) (v := ?_) (fun w hSw => ?_) hS (fun hS => ?_)
  rotate_left
  · go_simp; try with_reducible rfl
  try go_frame
  refine held_pure (i := 1) (oi := ⟨some 7, _, _, _, _, _⟩) rfl (by kernel_rfl) (by kernel_rfl) (by kernel_rfl) (fun _ _ _ h => h) (by rfl) (fun w hSw => run_load_int rfl rfl ((hAt.below hSw (by omega)).src)) hS (fun hS => ?_)
  try go_frame
  refine held_pure (i := 3) (oi := ⟨some 9, _, _, _, _, _⟩) rfl (by kernel_rfl) (by kernel_rfl) (by kernel_rfl) (fun _ _ _ h => h) (by rfl) (v := ?_) (fun w hSw => ?_) hS (fun hS => ?_)
  rotate_left
  · go_simp; try with_reducible rfl
  try go_frame
  refine held_pure (i := 4) (oi := ⟨some 10, _, _, _, _, _⟩) rfl (by kernel_rfl) (by kernel_rfl) (by kernel_rfl) (fun _ _ _ h => h) (by rfl) (fun w hSw => run_load_int rfl rfl ((hAt.below hSw (by omega)).dst)) hS (fun hS => ?_)
  try go_frame
  refine wpAnyH_ready (rs := [2]) (by kernel_rfl) (by simp) (AllReadyH.cons (o := ⟨some 8, _, _, _, _, _⟩) rfl (fun K hK => ?_) AllReadyH.nil)
  rw [if_pos (by rfl)]
  go_simp
  refine (rput_nil q.src 2 _).mono ?_
  rintro e w2 ⟨v2, rfl, m2⟩
  rw [H1.out] at m2
  obtain ⟨A2, c2, rfl, g2, o2, x2⟩ := made_shape m2
  show K _ _
  refine hK.out _ _ (below_step hS x2) (fun hS => ?_)
  clear hK K
  try go_frame
  refine wpAnyH_ready (rs := [5]) (by kernel_rfl) (by simp) (AllReadyH.cons (o := ⟨some 11, _, _, _, _, _⟩) rfl (fun K hK => ?_) AllReadyH.nil)
  rw [if_pos (by rfl)]
  go_simp
  refine (rput_any A2 L1 c2 _ q.dst 2 _ g2 (by omega)).mono ?_
  rintro e w5 ⟨v5, rfl, m5⟩
  rw [H2.out] at m5
  obtain ⟨A5, c5, rfl, g5, o5, x5⟩ := made_shape m5
  show K _ _
  refine hK.out _ _ (below_step hS x5) (fun hS => ?_)
  clear hK K
  try go_frame
  refine held_pure (i := 6) (oi := ⟨some 5, _, _, _, _, _⟩) rfl (by kernel_rfl) (by kernel_rfl) (by kernel_rfl) (fun _ _ _ h => h) (by rfl) (v := ?_) (fun w hSw => ?_) hS (fun hS => ?_)
  rotate_left
  · go_simp; try with_reducible rfl
  try go_frame
  refine wpAnyH_done (by kernel_rfl) ?_ _
  have k3 := (hAt.below hS (by omega)).dat
  go_upto_region 3 with (first
    | (go_at_call 97; ((with_reducible refine (rput_any A5 L2 c5 _ (8 + (q.dat.length : Int)) 2 _ g5 (by omega)).mono ?_); rintro e w6 ⟨v6, rfl, m6⟩; rw [H3.out] at m6; obtain ⟨A6, c6, rfl, g6, o6, x6⟩ := made_shape m6))
    | (go_at_call 97; ((with_reducible refine (rput_any A6 L3 c6 _ s 2 _ g6 (by omega)).mono ?_); rintro e w7 ⟨v7, rfl, m7⟩; rw [H4.out] at m7; obtain ⟨A7, c7, rfl, g7, o7, x7⟩ := made_shape m7)))
  have x57 : Below W.heap.size W w7 := hS.trans ((x6.trans (x7.mono x6.size)).mono hS.size)
  have k4 := (hAt.below x57 (by omega)).dat
  have hD7 := hD.below ((hB.trans (x57.mono (by omega))).mono hB0)
  clear k3
  go_wp2_with (at_builtin; refine append_rd rfl _ _ rfl w6.heap.size _ _ _ rfl o7 B A c q.dat rfl hD.none_ hD7.rd (by omega) x7.size ?_; intro v8 w8 own8 grow8)
  go_ret
  have own9 := own_base own8 (show w.heap.size ≤ w6.heap.size by have := x6.size; have := hS.size; omega)
  have x8 := (hB.trans (x57.mono (by omega))).grown grow8 (by have := x57.size; omega) (fun k hk => by have := own_block_ge o7 k hk; have := x6.size; have := hS.size; omega)
  obtain ⟨A8, c8, rfl, owm8⟩ := own_made (bs := bs) own9 (by rw [H5.out]; simp) (by rw [H5.out, row_append])
  exact ⟨_, rfl, Made.of_own owm8 x8⟩
end
end Go.Proofs.YtodlfdnegcfhcaaGreat

/-
  Contracts of the document's Build of layer 7, and of udp's reader. Conditions are each theorem's own.
-/
namespace Go.Proofs.YtodlfdnegcfhcaaGreat
open Go.RowKit

section
variable (q : PU) (A : Option Addr) (c : Nat) (src dst : Int) (w : World)
set_option maxRecDepth 100000 in
set_option maxHeartbeats 1000000 in
theorem rUbuild (B : Nat) (hD : Arg w B A c q.dat) (hB0 : B ≤ w.heap.size) (hl : q.dat.length ≤ 1000000) :
    Calls Tryz.prog 50 #[.int .i64 src, .int .i64 dst, usv q A c] w fun e w' => ∃ v, e = .returned (.tuple #[v, .int .i64 (chkU q)]) ∧ (chkU q ≠ 0 → v = .slice none 0 0 ∧ Below w.heap.size w w') ∧ (chkU q = 0 → Made w w' v (bldU src dst q)) := by
  have hB : Below w.heap.size w (w.alloc (.cells (usa q A c) 57)) := (Below.refl w.heap.size w).alloc (Nat.le_refl _) _
  have hAt := Atus.new (q := q) (A := A) (c := c) w
  have hz : w.heap.size < (w.alloc (.cells (usa q A c) 57)).heap.size := by simp
  rw [usv_eq]
  go_enter Tryz.func50, Tryz.ntmps50
  go_upto_region 1 with fail
  generalize w.alloc (.cells (usa q A c) 57) = W at *
  by_cases hc : chkU q = 0
  · obtain ⟨ha, hd⟩ := chkU_ok hc
    have HC := Lib.hid hc
    clear hc
    obtain ⟨B0, hb0⟩ : ∃ l, l = hdU q 0 ++ q.dat := ⟨_, rfl⟩
    have HB0 := Lib.hid hb0
    have lB : Hid (B0.length = 8 + q.dat.length) := Lib.hid (by rw [hb0, List.length_append, hdU_len])
    have HSM := Lib.hid (show smU src dst q = 65535 - fold (psum [psd src dst 17 (B0.length : Int), B0]) by rw [lB.out, hb0]; exact (smU_two src dst q).symm)
    clear hb0
    have bd := smU_bd src dst q
    have bk := ckU_bd src dst q
    have hD1 : ∀ X : World, Below W.heap.size W X → Arg X B A c q.dat := fun X hX => hD.below ((hB.trans (hX.mono (by omega))).mono hB0)
    go_upto_region 4 with (first
      | ((with_reducible show wpList _ _ _ (Oper.mk _ (Op.load 57 _) _ _ _ _ :: _) _ _); refine wpList_val rfl (run_load_us rfl rfl hAt rfl) ?_)
      | (go_at_call 88; refine (rUcheck q A c _ hl).mono ?_; rintro e w1 ⟨rfl, x1⟩; rw [HC.out]))
    have hAt1 := hAt.below x1 hz
    go_upto_region 5 with (first
      | ((with_reducible show wpList _ _ _ (Oper.mk _ (Op.load 57 _) _ _ _ _ :: _) _ _); refine wpList_val rfl (run_load_us rfl rfl hAt1 rfl) ?_)
      | (go_at_call 89; refine (rUbytes q A c _ B 0 B0 HB0 ha hd (by omega) (by omega) (hD1 _ x1) (by have := x1.size; omega)).mono ?_; rintro e w2 ⟨v2, rfl, m2⟩; obtain ⟨A2, c2, rfl, g2, o2, x2⟩ := made_shape m2))
    have x12 := x1.trans (x2.mono x1.size)
    have hAt2 := hAt.below x12 hz
    have k2 := hAt2.nosum
    cases hn : q.nosum
    · rw [hn] at k2
      have HN := Lib.hid hn
      clear hn
      go_upto_region 8 with (first
        | (go_at_call 60; refine (rpsd_any src dst 17 (B0.length : Int) _).mono ?_; rintro e w3 ⟨v3, rfl, m3⟩; obtain ⟨A3, c3, rfl, g3, o3, x3⟩ := made_shape m3)
        | (go_at_call 87; refine (rof_two (some ⟨w3.heap.size, 0, none⟩) (psd src dst 17 (B0.length : Int)) B0 2 (w3.heap.size + 1) (smU src dst q) HSM _ (Rd2.two rfl rfl (World.alloc_heap_new w3 _) (Nat.lt_succ_self _) ((g3.alloc (Nat.le_refl _) _).more (Nat.le_succ _)) (((g2.below x3).alloc x3.size _).more (by have := x3.size; omega))) (by rw [psd_len]; have := lB.out; omega)).mono ?_; rintro e w4 ⟨rfl, n4, rfl⟩))
      have x3a : Below W.heap.size W ((w3.alloc (.cells #[.slice A3 (psd src dst 17 (B0.length : Int)).length c3, .slice A2 B0.length c2] 22)).drewN n4) := below_drewN ((x12.trans (x3.mono x12.size)).alloc (by have := x12.size; have := x3.size; omega) _) _
      have hzz := x3a.size
      generalize (w3.alloc (.cells #[.slice A3 (psd src dst 17 (B0.length : Int)).length c3, .slice A2 B0.length c2] 22)).drewN n4 = W4 at *
      have hAt4 := hAt.below x3a hz
      obtain ⟨N, hN⟩ : ∃ n, n = smU src dst q := ⟨_, rfl⟩
      have HBL := Lib.hid (show bldU src dst q = hdU q (ckU src dst q) ++ q.dat from rfl)
      rw [← hN]
      have HNN := Lib.hid hN
      clear hN
      by_cases h0 : N = 0
      · have e0 : (N == 0) = true := by simpa using h0
        have HE := Lib.hid (show ckU src dst q = 65535 by rw [ckU, HN.out, ← HNN.out, if_pos h0]; rfl)
        rw [HE.out] at HBL
        clear h0
        go_wp2_with (first
          | ((with_reducible show wpList _ _ _ (Oper.mk _ (Op.load 57 _) _ _ _ _ :: _) _ _); refine wpList_val rfl (run_load_us rfl rfl hAt4 rfl) ?_)
          | (go_at_call 89; refine (rUbytes q A c _ B 65535 (bldU src dst q) HBL ha hd (by omega) (by omega) (hD1 _ x3a) (by omega)).mono ?_; rintro e w5 ⟨v5, rfl, m5⟩))
        go_ret2
        exact ⟨v5, by rw [HC.out]; rfl, fun h => absurd HC.out h, fun _ => m5.after (hB.trans (x3a.mono (by omega)))⟩
      · have e0 : (N == 0) = false := by simpa using h0
        have HE := Lib.hid (show ckU src dst q = N by rw [ckU, HN.out, ← HNN.out, if_neg h0]; rfl)
        rw [HE.out] at HBL bk
        clear h0
        go_wp2_with (first
          | ((with_reducible show wpList _ _ _ (Oper.mk _ (Op.load 57 _) _ _ _ _ :: _) _ _); refine wpList_val rfl (run_load_us rfl rfl hAt4 rfl) ?_)
          | (go_at_call 89; refine (rUbytes q A c _ B N (bldU src dst q) HBL ha hd bk.1 bk.2 (hD1 _ x3a) (by omega)).mono ?_; rintro e w5 ⟨v5, rfl, m5⟩))
        go_ret2
        exact ⟨v5, by rw [HC.out]; rfl, fun h => absurd HC.out h, fun _ => m5.after (hB.trans (x3a.mono (by omega)))⟩
    · rw [hn] at k2
      have HE := Lib.hid (show bldU src dst q = B0 by rw [bldU, ckU, hn, HB0.out]; rfl)
      clear hn
      go_wp2_with fail
      go_ret2
      exact ⟨.slice A2 B0.length c2, by rw [HC.out]; rfl, fun h => absurd HC.out h, fun _ => by rw [HE.out]; exact m2.after (hB.trans (x1.mono (by omega)))⟩
  · have hne : (chkU q != 0) = true := by simpa using hc
    have HN := Lib.hid hc
    clear hc
    go_wp2_with (first
      | ((with_reducible show wpList _ _ _ (Oper.mk _ (Op.load 57 _) _ _ _ _ :: _) _ _); refine wpList_val rfl (run_load_us rfl rfl hAt rfl) ?_)
      | (go_at_call 88; refine (rUcheck q A c _ hl).mono ?_; rintro e w1 ⟨rfl, x1⟩; skip))
    go_ret2
    exact ⟨.slice none 0 0, rfl, fun _ => ⟨rfl, hB.trans (x1.mono (by omega))⟩, fun h => absurd h HN.out⟩
end
/-- What a reader holds: its bytes, and where it is. -/
def RdrS (W : World) (g : Nat) (A : Option Addr) (n c : Nat) (k : Int) : Prop := W.heap[g]? = some (.cells #[.slice A n c] 22 (0, 0)) ∧ W.heap[g + 1]? = some (.cells #[.int .i64 k] 3 (0, 0))
theorem cUreader (A : Option Addr) (n c : Nat) (w : World) :
    Calls Tryz.prog 91 #[.slice A n c] w fun e w' => e = .returned (.func (.func 115) #[] #[.pointer (some ⟨w.heap.size, 0, none⟩), .pointer (some ⟨w.heap.size + 1, 0, none⟩)]) ∧ RdrS w' w.heap.size A n c 0 ∧ Below w.heap.size w w' ∧ w'.heap.size = w.heap.size + 2 := by
  have hst : RdrS ((w.alloc (.cells #[.slice A n c] 22)).alloc (.cells #[.int .i64 0] 3)) w.heap.size A n c 0 := by
    refine ⟨(Below.heap_alloc (w.alloc (.cells #[.slice A n c] 22)) _ w.heap.size (by simp)).trans (World.alloc_heap_new w _), ?_⟩
    have := World.alloc_heap_new (w.alloc (.cells #[.slice A n c] 22)) (.cells #[.int .i64 0] 3)
    rwa [World.size_alloc] at this
  have hbb : Below w.heap.size w ((w.alloc (.cells #[.slice A n c] 22)).alloc (.cells #[.int .i64 0] 3)) := ((Below.refl _ w).alloc (Nat.le_refl _) _).alloc (by simp) _
  have hmf : ∀ (fn : Fn) (first cap : Array Value) (w : World), (Instr.makeFunc fn first cap).run Tryz.prog w = .ok (.func fn first cap) w := fun _ _ _ _ => rfl
  go_enter Tryz.func91, Tryz.ntmps91
  go_wp2_with fail
  go_ret
  exact ⟨rfl, hst, hbb, by simp⟩
theorem cUnext (g : Nat) (A : Option Addr) (b : List UInt8) (c B : Nat) (k s : Int) (w : World) (hst : RdrS w g A b.length c k) (hR : Rd w B A b) (hl : b.length ≤ 1000000) (hc : b.length ≤ c) (hk : 0 ≤ k ∧ k ≤ 1000000) (hs : 0 ≤ s ∧ s ≤ 1000000) :
    Calls Tryz.prog 115 #[.int .i64 s, .pointer (some ⟨g, 0, none⟩), .pointer (some ⟨g + 1, 0, none⟩)] w fun e w' => e = .returned (.int .i64 (getV b k s)) ∧ RdrS w' g A b.length c (k + s) ∧ w.grownBy w' (some (g + 1)) := by
  obtain ⟨hst1, hst2⟩ := hst
  have k1 : w.cell? ⟨g, 0, none⟩ = some (.slice A b.length c) := by rw [cell_of_row w g 0 _ _ _ hst1]; rfl
  have k2 : w.cell? ⟨g + 1, 0, none⟩ = some (.int .i64 k) := by rw [cell_of_row w (g + 1) 0 _ _ _ hst2]; rfl
  have f2 := heap_frozen hst2 0
  have hw := IntWalk.i64_in (k + s) (by omega)
  go_enter Tryz.func115, Tryz.ntmps115
  go_wp2_with (go_at_call 74; refine (get_any A b c B k s _ hR (by omega) hc).mono ?_; rintro e w' ⟨rfl, rfl⟩)
  go_ret
  exact ⟨rfl, ⟨(heap_setCell_other w ⟨g + 1, 0, none⟩ g _ (by show g ≠ g + 1; omega)).trans hst1, heap_setCell_same w (g + 1) 0 _ _ (.int .i64 (k + s)) hst2⟩, grown_set (World.grownBy.refl w _) 0 _⟩
end Go.Proofs.YtodlfdnegcfhcaaGreat
