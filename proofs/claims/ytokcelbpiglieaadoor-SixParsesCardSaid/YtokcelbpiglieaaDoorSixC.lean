/-
  Contracts of the project's functions of layer 4: Text, Parse (with Less, Host, Of of the texts ahead). Conditions are each theorem's own.
-/
import Derived.Test.YtokcelbpiglieaaDoorSixS
import Derived.Test.YtokcelbpiglieaaDoorHexC
import Derived.Test.YtokcelbpiglieaaDoorFourC
namespace Go.Proofs.YtokcelbpiglieaaDoor
open Go.RowKit

/-- The eight parts of an address's text. -/
def sixP (f : Nat → Nat) : List (List UInt8) := [hexs (f 0), hexs (f 1), hexs (f 2), hexs (f 3), hexs (f 4), hexs (f 5), hexs (f 6), hexs (f 7)]
theorem six_join (a : List UInt8) : Lib.join (sixP (wrd6 a)) [58] = tx6 a 8 := by
  simp [sixP, Lib.join, List.intercalate, tx6, sep]
theorem sixP_take (f : Nat → Nat) {k : Nat} (hk : k < 8) : (sixP f).take (k + 1) = (sixP f).take k ++ [hexs (f k)] := by
  have h : k = 0 ∨ k = 1 ∨ k = 2 ∨ k = 3 ∨ k = 4 ∨ k = 5 ∨ k = 6 ∨ k = 7 := by omega
  rcases h with rfl | rfl | rfl | rfl | rfl | rfl | rfl | rfl <;> rfl
theorem w6a_index (a : List UInt8) {k : Nat} (hk : k < 8) : ∀ w, (Instr.index 55 (.agg (w6a a 8)) (.int .i64 (k : Int))).run Tryd.prog w = .ok (.int .i64 ((wrd6 a k : Nat) : Int)) w := by
  have h : k = 0 ∨ k = 1 ∨ k = 2 ∨ k = 3 ∨ k = 4 ∨ k = 5 ∨ k = 6 ∨ k = 7 := by omega
  intro w
  rcases h with rfl | rfl | rfl | rfl | rfl | rfl | rfl | rfl <;> kernel_rfl

set_option maxHeartbeats 4000000 in
theorem c4text (a : List UInt8) (ha : a.length = 16) (w : World) (hT : Tabs w) : Calls Tryd.prog 21 #[.agg (cel a)] w fun e w' => e = .returned (.string (strB (tx6 a 8))) ∧ Below w.heap.size w w' := by
  have HJ := Lib.hid (six_join a)
  have HL := Lib.hid (show (Lib.join (sixP (wrd6 a)) [58]).length ≤ 1000000 by rw [six_join]; have := tx6_len8 a; omega)
  have hg := World.alloc_heap_new w (.cells (cel a) 31)
  have hB := (Below.refl w.heap.size w).alloc (Nat.le_refl _) (.cells (cel a) 31)
  have hT1 : Tabs (w.alloc (.cells (cel a) 31)) := hT.alloc _
  go_enter Tryd.func21, Tryd.ntmps21
  go_wp2_with (first
    | ((with_reducible show wpList _ _ _ (Oper.mk _ (Op.load _ _) _ _ _ _ :: _) _ _); refine six_load (g := w.heap.size) rfl hg ha ?_)
    | (go_at_call 39; refine (csplit6 a ha _).mono ?_; rintro e ws ⟨rfl, bS⟩))
  have bW : Below w.heap.size w ws := hB.trans (bS.mono (by simp))
  clear hT1 hg
  go_loopw [3, 8] (fun v i W => ∃ (k c : Nat) (A : Option Addr), k ≤ 8 ∧ v = .slice A k c ∧ i = .int .i64 (k : Int) ∧ W.ownsRow w.heap.size 9 1 (.slice A k c) k (((sixP (wrd6 a)).take k).map sv) ∧ Below w.heap.size w W) (fun _ i _ => 8 - (intOf i).toNat)
  case atStart => exact ⟨0, 0, none, by omega, rfl, rfl, ⟨by simp, .inl ⟨rfl, rfl⟩⟩, bW⟩
  case round =>
    obtain ⟨k, c, A, hk, rfl, rfl, hown, hbel⟩ := hrel
    by_cases h8 : k = 8
    · subst h8
      go_wp2_with (go_at_call 33; refine (join_own hown rfl (by omega) (by omega) 58 HL.out).mono ?_; rintro e wj ⟨rfl, bJ⟩)
      go_ret
      exact ⟨ret_str (by rw [show List.take 8 (sixP (wrd6 a)) = sixP (wrd6 a) from rfl, HJ.out]), hbel.trans (bJ.mono hbel.size)⟩
    · have hi := w6a_index a (show k < 8 by omega)
      have HP := Lib.hid (sixP_take (wrd6 a) (show k < 8 by omega))
      have hTW : Tabs _ := hT.below hbel (Nat.le_refl _)
      obtain ⟨q, hq⟩ : ∃ q, q = wrd6 a k := ⟨_, rfl⟩
      have hq1 : q < 65536 := by rw [hq]; exact wrd6_lt a k
      rw [← hq] at HP hi
      clear hq
      generalize w6a a 8 = E at *
      go_wp2_with (first
        | (go_at_call 40; refine (chex _ q rfl hq1 _ hTW).mono ?_; rintro e wi ⟨rfl, bI⟩)
        | (refine append_str rfl _ _ rfl w.heap.size (.slice A k c) k ((sixP (wrd6 a)).take k) rfl (own_below (own_below hown bI (Nat.le_refl _)) ((Below.refl wi.heap.size wi).alloc (Nat.le_refl _) _) (Nat.le_refl _)) wi.heap.size (hexs q) rfl (cell_new1 _ _ _) (by omega) (by have := hbel.size; have := bI.size; simp; omega) ?_; intro v2 w2 hown2 hg2))
      obtain ⟨A2, c2, rfl⟩ := own_shape hown2
      have hsz1 := hbel.size
      have hsz2 := bI.size
      have bel2 : Below w.heap.size w w2 := ((hbel.trans (bI.mono hbel.size)).alloc (by omega) _).grown hg2 (by simp; omega) (own_ge hown)
      go_roundw
      case rel => exact ⟨k + 1, c2, A2, by omega, rfl, by simp, by rw [HP.out]; exact hown2, bel2⟩
      case measure => simp [intOf]; omega
/-- The words that are read behind k rounds. -/
def fva (f : Nat → Int) (k : Nat) : Array Value := ((List.range 8).map fun i => if i < k then Value.int .i64 (f i) else .int .i64 0).toArray
theorem fva_size (f : Nat → Int) (k : Nat) : (fva f k).size = 8 := by simp [fva]
theorem fva_get (f : Nat → Int) {k i : Nat} (h : i < 8) (hk : i < k) : (fva f k)[i]? = some (.int .i64 (f i)) := by simp [fva, h, hk]
theorem fva_get0 (f : Nat → Int) {k i : Nat} (h : i < 8) (hk : ¬ i < k) : (fva f k)[i]? = some (.int .i64 0) := by simp [fva, h, hk]
theorem fva_set (f : Nat → Int) {k : Nat} (hk : k < 8) : (fva f k).setIfInBounds k (.int .i64 (f k)) = fva f (k + 1) := by
  apply Array.ext_getElem?
  intro i
  rw [Array.getElem?_setIfInBounds]
  by_cases h8 : i < 8
  · by_cases he : k = i
    · subst he
      rw [if_pos rfl, if_pos (by rw [fva_size]; omega), fva_get f h8 (by omega)]
    · rw [if_neg he]
      by_cases hik : i < k
      · rw [fva_get f h8 hik, fva_get f h8 (by omega)]
      · rw [fva_get0 f h8 hik, fva_get0 f h8 (by omega)]
  · rw [Array.getElem?_eq_none (by rw [fva_size]; omega), if_neg (by omega), Array.getElem?_eq_none (by rw [fva_size]; omega)]
theorem fva_zero (f : Nat → Int) : fva f 0 = #[.int .i64 0, .int .i64 0, .int .i64 0, .int .i64 0, .int .i64 0, .int .i64 0, .int .i64 0, .int .i64 0] := rfl
theorem ccut_c (l : List UInt8) (c : UInt8) (w : World) (hs : l.length ≤ 9223372036854775807) :
    Calls Tryd.prog 36 #[.string (strB l), .string ⟨#[c]⟩] w fun e w' => e = .returned (.tuple #[.string (strB (cutc c l).1), .string (strB (cutc c l).2.1), .bool (cutc c l).2.2]) ∧ ∃ n, w' = w.drewN n :=
  ccut (strB l) c w (by rw [strB_size]; exact hs)
theorem cread6_l (l : List UInt8) (w : World) (hs : l.length ≤ 9223372036854775807) :
    Calls Tryd.prog 42 #[.string (strB l)] w fun e w' => e = .returned (.tuple #[.int .i64 (rhV l), .bool (rhO l)]) ∧ w = w' :=
  cread6 (strB l) w (by rw [strB_size]; exact hs)

/-- Word i of an address of which word k is set. -/
theorem wrd6_setw (a : List UInt8) {k n i : Nat} (h : n < 65536) (hk : 2 * k + 1 < a.length) : wrd6 (setw a k n) i = if i = k then n else wrd6 a i := by
  unfold wrd6 setw
  simp only [List.getElem?_set, List.length_set]
  by_cases e : i = k
  · subst e
    rw [if_pos rfl]
    have h1 : ¬ (2 * i + 1 = 2 * i) := by omega
    simp only [h1, if_false, if_true]
    rw [if_pos (show 2 * i < a.length by omega), if_pos (show 2 * i + 1 < a.length by omega)]
    simp only [Option.getD_some, UInt8.toNat_ofNat']
    omega
  · rw [if_neg e]
    have h1 : ¬ (2 * k + 1 = 2 * i) := by omega
    have h2 : ¬ (2 * k = 2 * i) := by omega
    have h3 : ¬ (2 * k + 1 = 2 * i + 1) := by omega
    have h4 : ¬ (2 * k = 2 * i + 1) := by omega
    simp only [h1, h2, h3, h4, if_false]
theorem ofw_words (zs : List Int) (n : Nat → Nat) (h : ∀ j, j < 8 → zs.getD j 0 = (n j : Int) ∧ n j < 65536) : ∀ k, k ≤ 8 → ∀ j, j < k → wrd6 (ofw zs k) j = n j
  | 0, _, j, hj => by omega
  | k + 1, hk, j, hj => by
    have hl := ofw_length zs k
    obtain ⟨h1, h2⟩ := h k (by omega)
    have hw : wz (zs.getD k 0) = n k := by rw [h1]; unfold wz; omega
    rw [ofw, hw, wrd6_setw _ h2 (by omega)]
    split
    · rename_i e; rw [e]
    · exact ofw_words zs n h k (by omega) j (by omega)
/-- What a text's parts tell: its address, or that it is none. -/
theorem six_cut {a : List UInt8} : (∀ k, k < 8 → prt 58 (tx6 a 8) k = hexs (wrd6 a k)) ∧ mor 58 (tx6 a 8) 8 = false := by
  have hc := cut_join 58 [hexs (wrd6 a 1), hexs (wrd6 a 2), hexs (wrd6 a 3), hexs (wrd6 a 4), hexs (wrd6 a 5), hexs (wrd6 a 6), hexs (wrd6 a 7)] (hexs (wrd6 a 0)) (fun q hq => by
    simp only [List.mem_cons, List.not_mem_nil, or_false] at hq
    rcases hq with rfl | rfl | rfl | rfl | rfl | rfl | rfl | rfl <;> exact hexs_colon (wrd6_lt a _))
  have hj : Lib.join [hexs (wrd6 a 0), hexs (wrd6 a 1), hexs (wrd6 a 2), hexs (wrd6 a 3), hexs (wrd6 a 4), hexs (wrd6 a 5), hexs (wrd6 a 6), hexs (wrd6 a 7)] [58] = tx6 a 8 := six_join a
  rw [hj] at hc
  refine ⟨fun k hk => ?_, hc.2⟩
  rw [hc.1 k (by simpa using hk)]
  have h : k = 0 ∨ k = 1 ∨ k = 2 ∨ k = 3 ∨ k = 4 ∨ k = 5 ∨ k = 6 ∨ k = 7 := by omega
  rcases h with rfl | rfl | rfl | rfl | rfl | rfl | rfl | rfl <;> rfl
theorem six_glue {s : List UInt8} (zs : List Int) (hz : zs.length = 8) (n : Nat → Nat) (h : ∀ j, j < 8 → zs.getD j 0 = (n j : Int) ∧ n j < 65536) (hp : ∀ k, k < 8 → prt 58 s k = hexs (n k)) (hm : mor 58 s 8 = false) :
    tx6 (of6 zs) 8 = s := by
  have hw := ofw_words zs n h 8 (by omega)
  have ho : of6 zs = ofw zs 8 := by unfold of6; rw [hz]; rfl
  have hj := join_cut 58 [hexs (n 1), hexs (n 2), hexs (n 3), hexs (n 4), hexs (n 5), hexs (n 6), hexs (n 7)] (hexs (n 0)) s (fun k hk => by
    rw [hp k (by simpa using hk)]
    have h : k = 0 ∨ k = 1 ∨ k = 2 ∨ k = 3 ∨ k = 4 ∨ k = 5 ∨ k = 6 ∨ k = 7 := by simp at hk; omega
    rcases h with rfl | rfl | rfl | rfl | rfl | rfl | rfl | rfl <;> rfl) (fun q hq => by
    have key : ∀ n, hexs n ≠ [] := fun n e => by have := @hexs_len n; rw [e] at this; simp at this
    simp only [List.mem_cons, List.not_mem_nil, or_false] at hq
    rcases hq with rfl | rfl | rfl | rfl | rfl | rfl | rfl | rfl <;> exact key _) hm
  rw [← six_join, ho, sixP, hw 0 (by omega), hw 1 (by omega), hw 2 (by omega), hw 3 (by omega), hw 4 (by omega), hw 5 (by omega), hw 6 (by omega), hw 7 (by omega)]
  exact hj

set_option maxHeartbeats 4000000 in
theorem cparse6 (l : List UInt8) (w : World) (hs : l.length ≤ 9223372036854775807) :
    Calls Tryd.prog 29 #[.string (strB l)] w fun e w' => e = .returned (.tuple #[.agg (cel (parV6 l)), .int .i64 (parE6 l)]) ∧ Below w.heap.size w w' := by
  have hrl := rst_len 58 l
  have hpl := prt_len 58 l
  obtain ⟨f, hf⟩ : ∃ f : Nat → Int, f = fun j => rhV (prt 58 l j) := ⟨_, rfl⟩
  have hfj : ∀ j, rhV (prt 58 l j) = f j := fun j => by rw [hf]
  clear hf
  have hG : ∀ k m, (((w.alloc (.cells (cel nul) 31)).alloc (.cells (fva f k) 55)).drewN m).heap[w.heap.size]? = some (.cells (cel nul) 31 (0, 0)) := fun k m => by
    show ((w.alloc (.cells (cel nul) 31)).alloc (.cells (fva f k) 55)).heap[w.heap.size]? = _
    rw [Below.heap_alloc _ _ _ (by simp)]; exact World.alloc_heap_new w _
  have hBB : ∀ k m, Below w.heap.size w (((w.alloc (.cells (cel nul) 31)).alloc (.cells (fva f k) 55)).drewN m) := fun k m => below_n (below_two w _ _) m
  go_enter Tryd.func29, Tryd.ntmps29
  go_wp2_with fail
  go_loopw [5, 6, 12] (fun r mo i W => ∃ (k m : Nat), k ≤ 8 ∧ r = .string (strB (rst 58 l k)) ∧ mo = .bool (mor 58 l k) ∧ i = .int .i64 (k : Int) ∧ Hid (∀ j, j < k → ∃ n : Nat, n < 65536 ∧ hexs n = prt 58 l j ∧ f j = n)
      ∧ W = ((w.alloc (.cells (cel nul) 31)).alloc (.cells (fva f k) 55)).drewN m) (fun _ _ i _ => 8 - (intOf i).toNat)
  case atStart => exact ⟨0, 0, by omega, rfl, rfl, rfl, Lib.hid (fun j hj => by omega), rfl⟩
  case round =>
    obtain ⟨k, m, hk, rfl, rfl, rfl, HK, rfl⟩ := hrel
    by_cases h8 : k = 8
    · subst h8
      by_cases hm : mor 58 l 8 = true
      · have HNo := Lib.hid (par6_no (s := l) fun ⟨a, ha, e⟩ => by have := (@six_cut a).2; rw [e, hm] at this; cases this)
        have hg2 := hG 8 m
        have hb2 := hBB 8 m
        rw [hm]
        clear hG hBB hrl hpl
        generalize ((w.alloc (.cells (cel nul) 31)).alloc (.cells (fva f 8) 55)).drewN m = W at *
        go_wp2_with ((with_reducible show wpList _ _ _ (Oper.mk _ (Op.store _ _ _) _ _ _ _ :: _) _ _); refine six_store (g := w.heap.size) (cs := nul) rfl rfl hg2 rfl rfl ?_)
        exact bodyPost_ret (six_result2 (cs := nul) rfl rfl (setRow_heap _ _ _ _ _ _ hg2) rfl) rfl ⟨by rw [HNo.out.1, HNo.out.2]; rfl, below_setRow hb2 (Nat.le_refl _) _⟩
      · have hm' : mor 58 l 8 = false := by simpa using hm
        have hch : ∃ n : Nat → Nat, ∀ j, j < 8 → n j < 65536 ∧ hexs (n j) = prt 58 l j ∧ f j = n j :=
          ⟨fun j => if h : j < 8 then Classical.choose (HK.out j h) else 0, fun j hj => by simp only [dif_pos hj]; exact Classical.choose_spec (HK.out j hj)⟩
        obtain ⟨n, hn⟩ := hch
        have hlen8 : (((List.range 8).map f).length) = 8 := by simp
        have hat : ∀ j, j < 8 → ((List.range 8).map f).getD j 0 = f j := fun j hj => by simp [List.getD, hj]
        have htx := six_glue (s := l) ((List.range 8).map f) hlen8 n (fun j hj => ⟨by rw [hat j hj]; exact (hn j hj).2.2, (hn j hj).1⟩) (fun j hj => (hn j hj).2.1.symm) hm'
        have HY := Lib.hid (par6_yes (of6_length ((List.range 8).map f)) htx)
        have hg2 := hG 8 m
        have hb2 := hBB 8 m
        have hsz : (((w.alloc (.cells (cel nul) 31)).alloc (.cells (fva f 8) 55)).drewN m).heap.size = w.heap.size + 2 := by
          show ((w.alloc (.cells (cel nul) 31)).alloc (.cells (fva f 8) 55)).heap.size = _
          simp
        have hrd : RdI (((w.alloc (.cells (cel nul) 31)).alloc (.cells (fva f 8) 55)).drewN m) (w.heap.size + 2) (some ⟨w.heap.size + 1, 0, none⟩) ((List.range 8).map f) := fun _ =>
          ⟨w.heap.size + 1, 0, rfl, by omega, fun j hj => by
            rw [hlen8] at hj
            show ((w.alloc (.cells (cel nul) 31)).alloc (.cells (fva f 8) 55)).cell? ⟨w.heap.size + 1, 0 + j, none⟩ = _
            have hc := World.cell?_alloc_new (w.alloc (.cells (cel nul) 31)) (fva f 8) 55 (0 + j)
            rw [show (w.alloc (.cells (cel nul) 31)).heap.size = w.heap.size + 1 from by simp] at hc
            rw [hc, Nat.zero_add, fva_get f hj hj, hat j hj]⟩
        have HO := Lib.hid (c4of (some ⟨w.heap.size + 1, 0, none⟩) ((List.range 8).map f) 8 (w.heap.size + 2) (((w.alloc (.cells (cel nul) 31)).alloc (.cells (fva f 8) 55)).drewN m) hrd (by omega) (by omega) (by omega))
        have hol := of6_length ((List.range 8).map f)
        rw [hlen8] at HO
        rw [hm']
        clear hG hBB hrl hpl hfj HK hn hrd htx hat hlen8
        generalize of6 ((List.range 8).map f) = O at *
        generalize ((w.alloc (.cells (cel nul) 31)).alloc (.cells (fva f 8) 55)).drewN m = W at *
        go_wp2_with (first
          | (go_at_call 27; refine HO.out.mono ?_; rintro e w2 ⟨rfl, b2⟩; have hg3 := (b2.block w.heap.size (by omega)).trans hg2)
          | ((with_reducible show wpList _ _ _ (Oper.mk _ (Op.store _ _ _) _ _ _ _ :: _) _ _); refine six_store (g := w.heap.size) (cs := O) rfl rfl hg3 rfl hol ?_))
        exact bodyPost_ret (six_result2 (cs := O) rfl rfl (setRow_heap _ _ _ _ _ _ hg3) hol) rfl ⟨by rw [HY.out.1, HY.out.2]; rfl, below_setRow (hb2.trans (b2.mono hb2.size)) (Nat.le_refl _) _⟩
    · have hk8 : k < 8 := by omega
      have HR : Hid ((cutc 58 (rst 58 l k)).1 = prt 58 l k ∧ (cutc 58 (rst 58 l k)).2.1 = rst 58 l (k + 1) ∧ (cutc 58 (rst 58 l k)).2.2 = mor 58 l (k + 1)) := Lib.hid ⟨rfl, rfl, rfl⟩
      have h1 := hrl k
      have h2 := hpl k
      clear hrl hpl
      rcases rh_cases (prt 58 l k) with ⟨n, hn, hd, hv, ho⟩ | ⟨hno, hv, ho⟩
      · have HK2 : Hid (∀ j, j < k + 1 → ∃ n : Nat, n < 65536 ∧ hexs n = prt 58 l j ∧ f j = n) := Lib.hid (fun j hj => by
          by_cases hjk : j = k
          · rw [hjk]; exact ⟨n, hn, hd, by rw [← hfj, hv]⟩
          · exact HK.out j (by omega))
        have HF := Lib.hid (hfj k)
        have g3 := fva_get0 f hk8 (Nat.lt_irrefl k)
        have HW := Lib.hid (fva_set f hk8)
        clear hv hd hn hfj hG hBB
        go_wp2_with (first
          | (go_at_call 36; refine (ccut_c _ 58 _ (by omega)).mono ?_; rintro e w1 ⟨rfl, n1, rfl⟩; rw [HR.out.1, HR.out.2.1, HR.out.2.2])
          | (go_at_call 42; refine (cread6_l _ _ (by omega)).mono ?_; rintro e w1 ⟨rfl, rfl⟩; rw [ho, HF.out]))
        go_roundw
        case rel =>
          refine ⟨k + 1, m + n1, by omega, rfl, rfl, by simp, HK2, ?_⟩
          have hn := set_fresh (w.alloc (.cells (cel nul) 31)) (fva f k) (fva f (k + 1)) 55 k (m + n1) (m + n1) (.int .i64 (f k)) rfl HW.out
          rw [show (w.alloc (.cells (cel nul) 31)).heap.size = w.heap.size + 1 from by simp] at hn
          exact hn
        case measure => simp [intOf]; omega
      · have HNo := Lib.hid (par6_no (s := l) fun ⟨a, ha, e⟩ => hno (by rw [← e, (@six_cut a).1 k hk8]; exact ⟨_, wrd6_lt a k, rfl⟩))
        clear hv hno hfj
        have hg2 := fun m => hG k m
        have hb2 := fun m => hBB k m
        clear hG hBB
        go_wp2_with (first
          | (go_at_call 36; refine (ccut_c _ 58 _ (by omega)).mono ?_; rintro e w1 ⟨rfl, n1, rfl⟩; rw [HR.out.1, HR.out.2.1, HR.out.2.2])
          | (go_at_call 42; refine (cread6_l _ _ (by omega)).mono ?_; rintro e w1 ⟨rfl, rfl⟩; rw [ho])
          | ((with_reducible show wpList _ _ _ (Oper.mk _ (Op.store _ _ _) _ _ _ _ :: _) _ _); refine six_store (g := w.heap.size) (cs := nul) rfl rfl (hg2 _) rfl rfl ?_))
        exact bodyPost_ret (six_result2 (cs := nul) rfl rfl (setRow_heap _ _ _ _ _ _ (hg2 _)) rfl) rfl ⟨by rw [HNo.out.1, HNo.out.2]; rfl, below_setRow (hb2 _) (Nat.le_refl _) _⟩
theorem c4parse (s : ByteArray) (w : World) (hs : s.size ≤ 9223372036854775807) :
    Calls Tryd.prog 29 #[.string s] w fun e w' => e = .returned (.tuple #[.agg (cel (parV6 s.data.toList)), .int .i64 (parE6 s.data.toList)]) ∧ Below w.heap.size w w' :=
  cparse6 s.data.toList w hs
end Go.Proofs.YtokcelbpiglieaaDoor
