/-
  Contracts and lemmas on which the proofs of this seat stand (several texts in one). Conditions are each theorem's own.
-/
import Derived.Test.YtggcjjcgiphjeaaMa5

/-
  Contracts of udp's put, Pseudo, buildHead. Conditions are each theorem's own.
-/
namespace Go.Proofs.Ytggcjjcgiphjeaa
open Go.RowKit

/-- The lowest bits of any number, of one below 0 too. -/
theorem and_any (i : Nat) (n : Int) (hi : i ≤ 62) : bits .and .i64 n (2 ^ i - 1) = n % 2 ^ i := by
  obtain ⟨a, ha⟩ : ∃ a : Nat, (a : Int) = n % 2 ^ 64 := ⟨(n % 2 ^ 64).toNat, by omega⟩
  have e : BitVec.ofInt IntKind.i64.bits n = BitVec.ofInt IntKind.i64.bits (a : Int) := by
    apply BitVec.eq_of_toInt_eq
    rw [BitVec.toInt_ofInt, BitVec.toInt_ofInt, ha]
    show Int.bmod n (2 ^ 64) = Int.bmod (n % 2 ^ 64) (2 ^ 64)
    exact (Int.emod_bmod n (2 ^ 64)).symm
  have hpos : 0 < 2 ^ i := Nat.two_pow_pos i
  have hp : 2 ^ i ≤ 2 ^ 62 := Nat.pow_le_pow_right (by decide) hi
  have hc : ((2 : Int) ^ i - 1) = ((2 ^ i - 1 : Nat) : Int) := by
    rw [Int.natCast_sub hpos]; simp
  have hm : (2 ^ i - 1) % 2 ^ IntKind.i64.bits = 2 ^ i - 1 := Nat.mod_eq_of_lt (by show _ < 2 ^ 64; omega)
  have hal : a < 2 ^ 64 := by omega
  have ham : a % 2 ^ IntKind.i64.bits = a := Nat.mod_eq_of_lt hal
  have h1 : bits .and .i64 n (2 ^ i - 1) = IntKind.i64.wrap ((a &&& (2 ^ i - 1) : Nat) : Int) := by
    simp only [bits, e, hc, BitVec.ofInt_natCast, BitVec.toNat_and, BitVec.toNat_ofNat, hm, ham]
  rw [h1, Nat.and_two_pow_sub_one_eq_mod]
  have hlt : a % 2 ^ i < 2 ^ i := Nat.mod_lt _ hpos
  rw [wraps63 _ (by omega) (by omega)]
  have hd : ((2 : Int) ^ i) ∣ 2 ^ 64 := by
    refine ⟨2 ^ (64 - i), ?_⟩
    rw [← Int.pow_add]; congr 1; omega
  have h2 : (n % 2 ^ 64) % 2 ^ i = n % 2 ^ i := Int.emod_emod_of_dvd n hd
  rw [← h2, ← ha]; simp
/-- A number and its size in a block. -/
def AtNS (W : World) (g : Nat) (n s : Int) : Prop := W.rangeAt g 0 [.int .i64 n, .int .i64 s]
section
variable {W : World} {g : Nat} {n s : Int}
theorem AtNS.new (w : World) (n s : Int) : AtNS (w.alloc (.cells #[.int .i64 n, .int .i64 s] 65)) w.heap.size n s := fun j v hj => by
  rw [Nat.zero_add, World.cell?_alloc_new, ← hj]; rw [List.getElem?_toArray]
theorem AtNS.below {w : World} {B : Nat} (h : AtNS W g n s) (hb : Below B W w) (hg : g < B) : AtNS w g n s := range_below h hg hb
theorem AtNS.num (h : AtNS W g n s) : W.cell? ⟨g, 0, none⟩ = some (.int .i64 n) := h 0 _ rfl
theorem AtNS.siz (h : AtNS W g n s) : W.cell? ⟨g, 1, none⟩ = some (.int .i64 s) := h 1 _ rfl
end
set_option maxHeartbeats 4000000 in
theorem put7_any (g : Nat) (ps : List (Int × Int)) (w : World) (hn : ps.length ≤ 10) (hs : ∀ x ∈ ps, x.2 = 1 ∨ x.2 = 2 ∨ x.2 = 4) (hg : g < w.heap.size)
    (h : ∀ (k : Nat) (x : Int × Int), ps[k]? = some x → w.cell? ⟨g, k * 2, none⟩ = some (.int .i64 x.1) ∧ w.cell? ⟨g, k * 2 + 1, none⟩ = some (.int .i64 x.2)) :
    Calls Try.prog 43 #[.slice (some ⟨g, 0, none⟩) ps.length ps.length] w fun e w' => ∃ v, e = .returned v ∧ Made w w' v (putL (msk ps)) := by
  have H := Lib.hid h
  clear h
  have HS := Lib.hid hs
  have HL := Lib.hid (fun k => (putL_len ((msk ps).take k) (fun x hx => by
    have hx' := List.mem_of_mem_take hx
    simp only [msk, List.mem_map] at hx'
    obtain ⟨y, hy, rfl⟩ := hx'
    rcases hs y hy with h | h | h <;> (simp only [h]; decide))))
  clear hs
  go_enter Try.func43, Try.ntmps43
  go_wp2
  go_loopw [3, 8] (fun v i W => ∃ (k c : Nat) (A : Option Addr) (bs : List UInt8), k ≤ ps.length ∧ i = .int .i64 (k : Int) ∧ Hid (bs = putL ((msk ps).take k)) ∧ bs.length ≤ 40 ∧ v = .slice A bs.length c ∧ W.ownsRow w.heap.size 5 1 (.slice A bs.length c) bs.length (row bs) ∧ Below w.heap.size w W) (fun _ i _ => ps.length - (intOf i).toNat)
  case atStart => exact ⟨0, 0, none, [], Nat.zero_le _, rfl, Lib.hid rfl, by simp, rfl, World.ownsRow_nil _ _ _ _, Below.refl _ _⟩
  case round =>
    obtain ⟨k, c, A, bs, hk, rfl, HB, hb40, rfl, hown, hbel⟩ := hrel
    obtain ⟨W, rfl⟩ : ∃ W : World, W = wr := ⟨_, rfl⟩
    by_cases hlt : k < ps.length
    · obtain ⟨x, hx⟩ : ∃ x, ps[k]? = some x := ⟨_, List.getElem?_eq_getElem hlt⟩
      obtain ⟨c1, c2⟩ := H.out k x hx
      have hs1 := HS.out x (List.mem_of_getElem? hx)
      have HX := Lib.hid hx
      clear hx
      have d1 := (hbel.cell (p := ⟨g, k * 2, none⟩) hg).trans c1
      have d2 := (hbel.cell (p := ⟨g, k * 2 + 1, none⟩) hg).trans c2
      clear c1 c2
      obtain ⟨n, s⟩ := x
      simp only at d1 d2 hs1
      rcases hs1 with rfl | rfl | rfl
      · have HM := Lib.hid (show bits .and .i64 n 255 = n % 256 from and_any 8 n (by decide))
        go_upto_region 5 with fail
        have at0 : AtNS _ W.heap.size n 1 := AtNS.new W n 1
        have xR : Below W.heap.size W _ := (Below.refl _ W).alloc (Nat.le_refl _) (.cells #[.int .i64 n, .int .i64 1] 65)
        have hzG : W.heap.size < (W.alloc (.cells #[.int .i64 n, .int .i64 1] 65)).heap.size := by simp
        generalize W.alloc (.cells #[.int .i64 n, .int .i64 1] 65) = R at *
        refine wp_region_held_drew (S := fun w' => Below R.heap.size R w') (by kernel_rfl) (Below.refl _ R).drew (fun hS => ?_)
        refine held_pure (i := 0) (oi := ⟨some 12, _, _, _, _, _⟩) rfl (by kernel_rfl) (by kernel_rfl) (by kernel_rfl) (fun _ _ _ h => h) (by rfl) (v := ?_) (fun w hSw => ?_) hS (fun hS => ?_)
        rotate_left
        · go_simp; try with_reducible rfl
        try go_frame
        refine held_pure (i := 1) (oi := ⟨some 13, _, _, _, _, _⟩) rfl (by kernel_rfl) (by kernel_rfl) (by kernel_rfl) (fun _ _ _ h => h) (by rfl) (v := ?_) (fun w hSw => ?_) hS (fun hS => ?_)
        rotate_left
        · go_simp; try with_reducible rfl
        try go_frame
        refine held_pure (i := 2) (oi := ⟨some 14, _, _, _, _, _⟩) rfl (by kernel_rfl) (by kernel_rfl) (by kernel_rfl) (fun _ _ _ h => h) (by rfl) (fun w hSw => run_load_int rfl rfl (at0.below hSw hzG).num) hS (fun hS => ?_)
        try go_frame
        refine held_pure (i := 3) (oi := ⟨some 15, _, _, _, _, _⟩) rfl (by kernel_rfl) (by kernel_rfl) (by kernel_rfl) (fun _ _ _ h => h) (by rfl) (v := ?_) (fun w hSw => ?_) hS (fun hS => ?_)
        rotate_left
        · go_simp; try with_reducible rfl
        try go_frame
        refine held_pure (i := 4) (oi := ⟨some 16, _, _, _, _, _⟩) rfl (by kernel_rfl) (by kernel_rfl) (by kernel_rfl) (fun _ _ _ h => h) (by rfl) (fun w hSw => run_load_int rfl rfl (at0.below hSw hzG).siz) hS (fun hS => ?_)
        try go_frame
        refine held_pure (i := 5) (oi := ⟨some 17, _, _, _, _, _⟩) rfl (by kernel_rfl) (by kernel_rfl) (by kernel_rfl) (fun _ _ _ h => h) (by rfl) (v := .int .i64 8) (fun w hSw => by go_simp; decide) hS (fun hS => ?_)
        try go_frame
        refine held_pure (i := 6) (oi := ⟨some 18, _, _, _, _, _⟩) rfl (by kernel_rfl) (by kernel_rfl) (by kernel_rfl) (fun _ _ _ h => h) (by rfl) (v := .int .i64 256) (fun w hSw => by go_simp; decide) hS (fun hS => ?_)
        try go_frame
        refine held_pure (i := 7) (oi := ⟨some 19, _, _, _, _, _⟩) rfl (by kernel_rfl) (by kernel_rfl) (by kernel_rfl) (fun _ _ _ h => h) (by rfl) (v := .int .i64 255) (fun w hSw => by go_simp; decide) hS (fun hS => ?_)
        try go_frame
        refine held_pure (i := 8) (oi := ⟨some 20, _, _, _, _, _⟩) rfl (by kernel_rfl) (by kernel_rfl) (by kernel_rfl) (fun _ _ _ h => h) (by rfl) (v := .int .i64 (n % 256)) (fun w hSw => by go_simp; exact HM.out) hS (fun hS => ?_)
        try go_frame
        refine held_pure (i := 9) (oi := ⟨some 21, _, _, _, _, _⟩) rfl (by kernel_rfl) (by kernel_rfl) (by kernel_rfl) (fun _ _ _ h => h) (by rfl) (v := ?_) (fun w hSw => ?_) hS (fun hS => ?_)
        rotate_left
        · go_simp; try with_reducible rfl
        try go_frame
        refine held_pure (i := 10) (oi := ⟨some 22, _, _, _, _, _⟩) rfl (by kernel_rfl) (by kernel_rfl) (by kernel_rfl) (fun _ _ _ h => h) (by rfl) (fun w hSw => run_load_int rfl rfl (at0.below hSw hzG).siz) hS (fun hS => ?_)
        try go_frame
        refine wpAnyH_ready (rs := [11]) (by kernel_rfl) (by simp) (AllReadyH.cons (o := ⟨some 23, _, _, _, _, _⟩) rfl (fun K hK => ?_) AllReadyH.nil)
        rw [if_pos (by rfl)]
        go_simp
        have x11 := xR.trans (hS.mono xR.size)
        refine (put_any A bs c _ (n % 256) 1 _ (arg_own (own_below hown x11)).rd (Nat.le_refl _) (by omega)).mono ?_
        rintro e w2 ⟨v2, rfl, A2, c2, rfl, l2, rd2, ow2, x2⟩
        have hSs := hS
        show K _ _
        refine hK.out _ _ (below_step hS x2) (fun hS => ?_)
        clear hK K
        try go_frame
        refine held_pure (i := 12) (oi := ⟨some 3, _, _, _, _, _⟩) rfl (by kernel_rfl) (by kernel_rfl) (by kernel_rfl) (fun _ _ _ h => h) (by rfl) (v := ?_) (fun w hSw => ?_) hS (fun hS => ?_)
        rotate_left
        · go_simp; try with_reducible rfl
        try go_frame
        refine wpAnyH_done (by kernel_rfl) ?_ _
        go_wp2_with fail
        have xW : Below W.heap.size W w2 := xR.trans (hS.mono xR.size)
        have bel2 : Below w.heap.size w w2 := hbel.trans (xW.mono hbel.size)
        have own2 : w2.ownsRow w.heap.size 5 1 (.slice A2 (putB bs (n % 256) 1).length c2) (putB bs (n % 256) 1).length (row (putB bs (n % 256) 1)) := own_base ow2 (by have := hbel.size; have := xR.size; have := hSs.size; omega)
        have HP := Lib.hid (putL_take (msk ps) (msk_get HX.out))
        have h40 : (putB bs (n % 256) 1).length ≤ 40 := by
          have e : putB bs (n % 256) 1 = putL ((msk ps).take (k + 1)) := by rw [HP.out, HB.out]; rfl
          rw [e]
          have := HL.out (k + 1)
          have h2 : ((msk ps).take (k + 1)).length ≤ ps.length := by rw [List.length_take, msk_len]; omega
          omega
        go_roundw
        case rel => exact ⟨k + 1, c2, A2, _, by omega, by simp, Lib.hid (by rw [HP.out, HB.out]; rfl), h40, rfl, own2, bel2⟩
        case measure => simp [intOf]; omega
      · have HM := Lib.hid (show bits .and .i64 n 65535 = n % 65536 from and_any 16 n (by decide))
        go_upto_region 5 with fail
        have at0 : AtNS _ W.heap.size n 2 := AtNS.new W n 2
        have xR : Below W.heap.size W _ := (Below.refl _ W).alloc (Nat.le_refl _) (.cells #[.int .i64 n, .int .i64 2] 65)
        have hzG : W.heap.size < (W.alloc (.cells #[.int .i64 n, .int .i64 2] 65)).heap.size := by simp
        generalize W.alloc (.cells #[.int .i64 n, .int .i64 2] 65) = R at *
        refine wp_region_held_drew (S := fun w' => Below R.heap.size R w') (by kernel_rfl) (Below.refl _ R).drew (fun hS => ?_)
        refine held_pure (i := 0) (oi := ⟨some 12, _, _, _, _, _⟩) rfl (by kernel_rfl) (by kernel_rfl) (by kernel_rfl) (fun _ _ _ h => h) (by rfl) (v := ?_) (fun w hSw => ?_) hS (fun hS => ?_)
        rotate_left
        · go_simp; try with_reducible rfl
        try go_frame
        refine held_pure (i := 1) (oi := ⟨some 13, _, _, _, _, _⟩) rfl (by kernel_rfl) (by kernel_rfl) (by kernel_rfl) (fun _ _ _ h => h) (by rfl) (v := ?_) (fun w hSw => ?_) hS (fun hS => ?_)
        rotate_left
        · go_simp; try with_reducible rfl
        try go_frame
        refine held_pure (i := 2) (oi := ⟨some 14, _, _, _, _, _⟩) rfl (by kernel_rfl) (by kernel_rfl) (by kernel_rfl) (fun _ _ _ h => h) (by rfl) (fun w hSw => run_load_int rfl rfl (at0.below hSw hzG).num) hS (fun hS => ?_)
        try go_frame
        refine held_pure (i := 3) (oi := ⟨some 15, _, _, _, _, _⟩) rfl (by kernel_rfl) (by kernel_rfl) (by kernel_rfl) (fun _ _ _ h => h) (by rfl) (v := ?_) (fun w hSw => ?_) hS (fun hS => ?_)
        rotate_left
        · go_simp; try with_reducible rfl
        try go_frame
        refine held_pure (i := 4) (oi := ⟨some 16, _, _, _, _, _⟩) rfl (by kernel_rfl) (by kernel_rfl) (by kernel_rfl) (fun _ _ _ h => h) (by rfl) (fun w hSw => run_load_int rfl rfl (at0.below hSw hzG).siz) hS (fun hS => ?_)
        try go_frame
        refine held_pure (i := 5) (oi := ⟨some 17, _, _, _, _, _⟩) rfl (by kernel_rfl) (by kernel_rfl) (by kernel_rfl) (fun _ _ _ h => h) (by rfl) (v := .int .i64 16) (fun w hSw => by go_simp; decide) hS (fun hS => ?_)
        try go_frame
        refine held_pure (i := 6) (oi := ⟨some 18, _, _, _, _, _⟩) rfl (by kernel_rfl) (by kernel_rfl) (by kernel_rfl) (fun _ _ _ h => h) (by rfl) (v := .int .i64 65536) (fun w hSw => by go_simp; decide) hS (fun hS => ?_)
        try go_frame
        refine held_pure (i := 7) (oi := ⟨some 19, _, _, _, _, _⟩) rfl (by kernel_rfl) (by kernel_rfl) (by kernel_rfl) (fun _ _ _ h => h) (by rfl) (v := .int .i64 65535) (fun w hSw => by go_simp; decide) hS (fun hS => ?_)
        try go_frame
        refine held_pure (i := 8) (oi := ⟨some 20, _, _, _, _, _⟩) rfl (by kernel_rfl) (by kernel_rfl) (by kernel_rfl) (fun _ _ _ h => h) (by rfl) (v := .int .i64 (n % 65536)) (fun w hSw => by go_simp; exact HM.out) hS (fun hS => ?_)
        try go_frame
        refine held_pure (i := 9) (oi := ⟨some 21, _, _, _, _, _⟩) rfl (by kernel_rfl) (by kernel_rfl) (by kernel_rfl) (fun _ _ _ h => h) (by rfl) (v := ?_) (fun w hSw => ?_) hS (fun hS => ?_)
        rotate_left
        · go_simp; try with_reducible rfl
        try go_frame
        refine held_pure (i := 10) (oi := ⟨some 22, _, _, _, _, _⟩) rfl (by kernel_rfl) (by kernel_rfl) (by kernel_rfl) (fun _ _ _ h => h) (by rfl) (fun w hSw => run_load_int rfl rfl (at0.below hSw hzG).siz) hS (fun hS => ?_)
        try go_frame
        refine wpAnyH_ready (rs := [11]) (by kernel_rfl) (by simp) (AllReadyH.cons (o := ⟨some 23, _, _, _, _, _⟩) rfl (fun K hK => ?_) AllReadyH.nil)
        rw [if_pos (by rfl)]
        go_simp
        have x11 := xR.trans (hS.mono xR.size)
        refine (put_any A bs c _ (n % 65536) 2 _ (arg_own (own_below hown x11)).rd (Nat.le_refl _) (by omega)).mono ?_
        rintro e w2 ⟨v2, rfl, A2, c2, rfl, l2, rd2, ow2, x2⟩
        have hSs := hS
        show K _ _
        refine hK.out _ _ (below_step hS x2) (fun hS => ?_)
        clear hK K
        try go_frame
        refine held_pure (i := 12) (oi := ⟨some 3, _, _, _, _, _⟩) rfl (by kernel_rfl) (by kernel_rfl) (by kernel_rfl) (fun _ _ _ h => h) (by rfl) (v := ?_) (fun w hSw => ?_) hS (fun hS => ?_)
        rotate_left
        · go_simp; try with_reducible rfl
        try go_frame
        refine wpAnyH_done (by kernel_rfl) ?_ _
        go_wp2_with fail
        have xW : Below W.heap.size W w2 := xR.trans (hS.mono xR.size)
        have bel2 : Below w.heap.size w w2 := hbel.trans (xW.mono hbel.size)
        have own2 : w2.ownsRow w.heap.size 5 1 (.slice A2 (putB bs (n % 65536) 2).length c2) (putB bs (n % 65536) 2).length (row (putB bs (n % 65536) 2)) := own_base ow2 (by have := hbel.size; have := xR.size; have := hSs.size; omega)
        have HP := Lib.hid (putL_take (msk ps) (msk_get HX.out))
        have h40 : (putB bs (n % 65536) 2).length ≤ 40 := by
          have e : putB bs (n % 65536) 2 = putL ((msk ps).take (k + 1)) := by rw [HP.out, HB.out]; rfl
          rw [e]
          have := HL.out (k + 1)
          have h2 : ((msk ps).take (k + 1)).length ≤ ps.length := by rw [List.length_take, msk_len]; omega
          omega
        go_roundw
        case rel => exact ⟨k + 1, c2, A2, _, by omega, by simp, Lib.hid (by rw [HP.out, HB.out]; rfl), h40, rfl, own2, bel2⟩
        case measure => simp [intOf]; omega
      · have HM := Lib.hid (show bits .and .i64 n 4294967295 = n % 4294967296 from and_any 32 n (by decide))
        go_upto_region 5 with fail
        have at0 : AtNS _ W.heap.size n 4 := AtNS.new W n 4
        have xR : Below W.heap.size W _ := (Below.refl _ W).alloc (Nat.le_refl _) (.cells #[.int .i64 n, .int .i64 4] 65)
        have hzG : W.heap.size < (W.alloc (.cells #[.int .i64 n, .int .i64 4] 65)).heap.size := by simp
        generalize W.alloc (.cells #[.int .i64 n, .int .i64 4] 65) = R at *
        refine wp_region_held_drew (S := fun w' => Below R.heap.size R w') (by kernel_rfl) (Below.refl _ R).drew (fun hS => ?_)
        refine held_pure (i := 0) (oi := ⟨some 12, _, _, _, _, _⟩) rfl (by kernel_rfl) (by kernel_rfl) (by kernel_rfl) (fun _ _ _ h => h) (by rfl) (v := ?_) (fun w hSw => ?_) hS (fun hS => ?_)
        rotate_left
        · go_simp; try with_reducible rfl
        try go_frame
        refine held_pure (i := 1) (oi := ⟨some 13, _, _, _, _, _⟩) rfl (by kernel_rfl) (by kernel_rfl) (by kernel_rfl) (fun _ _ _ h => h) (by rfl) (v := ?_) (fun w hSw => ?_) hS (fun hS => ?_)
        rotate_left
        · go_simp; try with_reducible rfl
        try go_frame
        refine held_pure (i := 2) (oi := ⟨some 14, _, _, _, _, _⟩) rfl (by kernel_rfl) (by kernel_rfl) (by kernel_rfl) (fun _ _ _ h => h) (by rfl) (fun w hSw => run_load_int rfl rfl (at0.below hSw hzG).num) hS (fun hS => ?_)
        try go_frame
        refine held_pure (i := 3) (oi := ⟨some 15, _, _, _, _, _⟩) rfl (by kernel_rfl) (by kernel_rfl) (by kernel_rfl) (fun _ _ _ h => h) (by rfl) (v := ?_) (fun w hSw => ?_) hS (fun hS => ?_)
        rotate_left
        · go_simp; try with_reducible rfl
        try go_frame
        refine held_pure (i := 4) (oi := ⟨some 16, _, _, _, _, _⟩) rfl (by kernel_rfl) (by kernel_rfl) (by kernel_rfl) (fun _ _ _ h => h) (by rfl) (fun w hSw => run_load_int rfl rfl (at0.below hSw hzG).siz) hS (fun hS => ?_)
        try go_frame
        refine held_pure (i := 5) (oi := ⟨some 17, _, _, _, _, _⟩) rfl (by kernel_rfl) (by kernel_rfl) (by kernel_rfl) (fun _ _ _ h => h) (by rfl) (v := .int .i64 32) (fun w hSw => by go_simp; decide) hS (fun hS => ?_)
        try go_frame
        refine held_pure (i := 6) (oi := ⟨some 18, _, _, _, _, _⟩) rfl (by kernel_rfl) (by kernel_rfl) (by kernel_rfl) (fun _ _ _ h => h) (by rfl) (v := .int .i64 4294967296) (fun w hSw => by go_simp; decide) hS (fun hS => ?_)
        try go_frame
        refine held_pure (i := 7) (oi := ⟨some 19, _, _, _, _, _⟩) rfl (by kernel_rfl) (by kernel_rfl) (by kernel_rfl) (fun _ _ _ h => h) (by rfl) (v := .int .i64 4294967295) (fun w hSw => by go_simp; decide) hS (fun hS => ?_)
        try go_frame
        refine held_pure (i := 8) (oi := ⟨some 20, _, _, _, _, _⟩) rfl (by kernel_rfl) (by kernel_rfl) (by kernel_rfl) (fun _ _ _ h => h) (by rfl) (v := .int .i64 (n % 4294967296)) (fun w hSw => by go_simp; exact HM.out) hS (fun hS => ?_)
        try go_frame
        refine held_pure (i := 9) (oi := ⟨some 21, _, _, _, _, _⟩) rfl (by kernel_rfl) (by kernel_rfl) (by kernel_rfl) (fun _ _ _ h => h) (by rfl) (v := ?_) (fun w hSw => ?_) hS (fun hS => ?_)
        rotate_left
        · go_simp; try with_reducible rfl
        try go_frame
        refine held_pure (i := 10) (oi := ⟨some 22, _, _, _, _, _⟩) rfl (by kernel_rfl) (by kernel_rfl) (by kernel_rfl) (fun _ _ _ h => h) (by rfl) (fun w hSw => run_load_int rfl rfl (at0.below hSw hzG).siz) hS (fun hS => ?_)
        try go_frame
        refine wpAnyH_ready (rs := [11]) (by kernel_rfl) (by simp) (AllReadyH.cons (o := ⟨some 23, _, _, _, _, _⟩) rfl (fun K hK => ?_) AllReadyH.nil)
        rw [if_pos (by rfl)]
        go_simp
        have x11 := xR.trans (hS.mono xR.size)
        refine (put_any A bs c _ (n % 4294967296) 4 _ (arg_own (own_below hown x11)).rd (Nat.le_refl _) (by omega)).mono ?_
        rintro e w2 ⟨v2, rfl, A2, c2, rfl, l2, rd2, ow2, x2⟩
        have hSs := hS
        show K _ _
        refine hK.out _ _ (below_step hS x2) (fun hS => ?_)
        clear hK K
        try go_frame
        refine held_pure (i := 12) (oi := ⟨some 3, _, _, _, _, _⟩) rfl (by kernel_rfl) (by kernel_rfl) (by kernel_rfl) (fun _ _ _ h => h) (by rfl) (v := ?_) (fun w hSw => ?_) hS (fun hS => ?_)
        rotate_left
        · go_simp; try with_reducible rfl
        try go_frame
        refine wpAnyH_done (by kernel_rfl) ?_ _
        go_wp2_with fail
        have xW : Below W.heap.size W w2 := xR.trans (hS.mono xR.size)
        have bel2 : Below w.heap.size w w2 := hbel.trans (xW.mono hbel.size)
        have own2 : w2.ownsRow w.heap.size 5 1 (.slice A2 (putB bs (n % 4294967296) 4).length c2) (putB bs (n % 4294967296) 4).length (row (putB bs (n % 4294967296) 4)) := own_base ow2 (by have := hbel.size; have := xR.size; have := hSs.size; omega)
        have HP := Lib.hid (putL_take (msk ps) (msk_get HX.out))
        have h40 : (putB bs (n % 4294967296) 4).length ≤ 40 := by
          have e : putB bs (n % 4294967296) 4 = putL ((msk ps).take (k + 1)) := by rw [HP.out, HB.out]; rfl
          rw [e]
          have := HL.out (k + 1)
          have h2 : ((msk ps).take (k + 1)).length ≤ ps.length := by rw [List.length_take, msk_len]; omega
          omega
        go_roundw
        case rel => exact ⟨k + 1, c2, A2, _, by omega, by simp, Lib.hid (by rw [HP.out, HB.out]; rfl), h40, rfl, own2, bel2⟩
        case measure => simp [intOf]; omega
    · obtain rfl : k = ps.length := by omega
      go_wp2
      go_ret
      have e : bs = putL (msk ps) := by rw [HB.out, List.take_of_length_le (by rw [msk_len]; exact Nat.le_refl _)]
      subst e
      exact ⟨_, rfl, Made.of_own hown hbel⟩
theorem put7_new (ps : List (Int × Int)) (cs : Array Value) (n : Nat) (t : TypeId) (bs : List UInt8) (w : World) (hc : cs = (flat ps).toArray) (hn : n = ps.length) (hl : ps.length ≤ 10) (hs : ∀ x ∈ ps, x.2 = 1 ∨ x.2 = 2 ∨ x.2 = 4) (hb : Hid (putL (msk ps) = bs)) :
    Calls Try.prog 43 #[.slice (some ⟨w.heap.size, 0, none⟩) n n] (w.alloc (.cells cs t)) fun e w' => ∃ v, e = .returned v ∧ Made w w' v bs := by
  subst hc; subst hn
  rw [← hb.out]
  refine (put7_any w.heap.size ps _ hl hs (by simp) fun k x hx => ?_).mono ?_
  · obtain ⟨h1, h2⟩ := flat_get ps k x hx
    exact ⟨by rw [World.cell?_alloc_new, List.getElem?_toArray]; exact h1, by rw [World.cell?_alloc_new, List.getElem?_toArray]; exact h2⟩
  · rintro e w' ⟨v, he, hm⟩
    exact ⟨v, he, hm.after ((Below.refl _ w).alloc (Nat.le_refl _) _)⟩
theorem psd_any (src dst proto size : Int) (w : World) :
    Calls Try.prog 18 #[.int .i64 src, .int .i64 dst, .int .i64 proto, .int .i64 size] w fun e w' => ∃ v, e = .returned v ∧ Made w w' v (psd src dst proto size) := by
  have HB := Lib.hid (putL_psd src dst proto size)
  go_enter Try.func18, Try.ntmps18
  go_wp2_with (go_at_call 43; refine (put7_new [(src, 4), (dst, 4), (0, 1), (proto, 1), (size, 2)] _ 5 _ _ w (by rfl) (by rfl) (by simp) (by simp) HB).mono ?_; rintro e w1 ⟨v, rfl, hm⟩)
  go_ret
  exact ⟨v, rfl, hm⟩
set_option maxHeartbeats 1000000 in
theorem cUhead (q : PU) (s : Int) (A : Option Addr) (c : Nat) (w : World) (hl : q.dat.length ≤ 1000000) :
    Calls Try.prog 36 #[usv q A c, .int .i64 s] w fun e w' => ∃ v, e = .returned v ∧ Made w w' v (hdU q s) := by
  have HB := Lib.hid (putL_hdU q s)
  have hB : Below w.heap.size w (w.alloc (.cells (usa q A c) 24)) := (Below.refl w.heap.size w).alloc (Nat.le_refl _) _
  have hAt := Atus.new (q := q) (A := A) (c := c) w
  rw [usv_eq]
  go_enter Try.func36, Try.ntmps36
  go_upto_region 1 with fail
  generalize w.alloc (.cells (usa q A c) 24) = W at *
  have k0 := hAt.src; have k1 := hAt.dst; have k3 := hAt.dat
  go_wp2_with (go_at_call 43; refine (put7_new [(q.src, 2), (q.dst, 2), (8 + (q.dat.length : Int), 2), (s, 2)] _ 4 _ _ W (by rfl) (by rfl) (by simp) (by simp) HB).mono ?_; rintro e w1 ⟨v, rfl, hm⟩)
  go_ret
  exact ⟨v, rfl, hm.after hB⟩
end Go.Proofs.Ytggcjjcgiphjeaa
