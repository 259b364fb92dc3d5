/-
  Contracts of the project's functions of layer 3: Text, Parse (with Right, Host, Private of the text ahead). Conditions are each theorem's own.
-/
import Derived.Test.YtokcelbpiglieaaDoorFourS
import Derived.Test.YtokcelbpiglieaaDoorStrC
namespace Go.Proofs.YtokcelbpiglieaaDoor
open Go.RowKit

theorem own_below {w w' : World} {base e s n B : Nat} {v : Value} {xs : List Value} (h : w.ownsRow base e s v n xs) (hb : Below B w w') (hB : w.heap.size ≤ B) : w'.ownsRow base e s v n xs := by
  obtain ⟨hl, h0 | ⟨g, cap, cur, hv, hg, hh, r⟩⟩ := h
  · exact ⟨hl, .inl h0⟩
  · exact ⟨hl, .inr ⟨g, cap, cur, hv, hg, (hb.block g (Nat.lt_of_lt_of_le (Array.getElem?_eq_some_iff.1 hh).1 hB)).trans hh, r⟩⟩
theorem own_ge {w : World} {base e size n : Nat} {v : Value} {xs : List Value} (h : w.ownsRow base e size v n xs) : ∀ k, v.ownBlock = some k → base ≤ k := by
  intro k hk
  rcases h.2 with ⟨rfl, _⟩ | ⟨g, cap, cur, rfl, hb, _⟩
  · simp [Value.ownBlock] at hk
  · simp [Value.ownBlock] at hk; omega
theorem cell_new1 (w : World) (x : Value) (t : Nat) : (w.alloc (.cells #[x] t (0, 0))).cell? ⟨w.heap.size, 0, none⟩ = some x := by
  rw [cell_of_row _ _ _ _ _ _ (World.alloc_heap_new w _)]; rfl
theorem own_shape {w : World} {base e s n : Nat} {v : Value} {xs : List Value} (h : w.ownsRow base e s v n xs) : ∃ A c, v = .slice A n c := by
  rcases h.2 with ⟨rfl, rfl⟩ | ⟨g, cap, cur, rfl, _⟩
  · exact ⟨_, _, rfl⟩
  · exact ⟨_, _, rfl⟩
/-- The four parts. -/
def fourP (b3 b2 b1 b0 : Nat) : List (List UInt8) := [dec b3, dec b2, dec b1, dec b0]
theorem four_join (a : Nat) : Lib.join (fourP (a / 16777216) (a / 65536 % 256) (a / 256 % 256) (a % 256)) [46] = txt a := by
  simp [fourP, Lib.join, List.intercalate, txt]

set_option maxHeartbeats 2000000 in
theorem ctext (a : Nat) (w : World) (h : a < 4294967296) (hT : Tabs w) :
    Calls Tryd.prog 11 #[.int .i64 (a : Int)] w fun e w' => e = .returned (.string (strB (txt a))) ∧ Below w.heap.size w w' := by
  have HJ := Lib.hid (four_join a)
  have HL := Lib.hid (show (Lib.join (fourP (a / 16777216) (a / 65536 % 256) (a / 256 % 256) (a % 256)) [46]).length ≤ 1000000 by rw [four_join]; have := @txt_len a; omega)
  obtain ⟨b3, e3⟩ : ∃ b, b = a / 16777216 := ⟨_, rfl⟩
  obtain ⟨b2, e2⟩ : ∃ b, b = a / 65536 % 256 := ⟨_, rfl⟩
  obtain ⟨b1, e1⟩ : ∃ b, b = a / 256 % 256 := ⟨_, rfl⟩
  obtain ⟨b0, e0⟩ : ∃ b, b = a % 256 := ⟨_, rfl⟩
  have HS : ∀ w, Hid (Calls Tryd.prog 31 #[.int .i64 (a : Int)] w fun e w' => e = .returned (.agg #[u8v b3, u8v b2, u8v b1, u8v b0]) ∧ Below w.heap.size w w') := fun w => Lib.hid (by
    rw [e3, e2, e1, e0]; exact csplit a w h)
  rw [← e3, ← e2, ← e1, ← e0] at HJ HL
  have l3 : b3 < 256 := by omega
  have l2 : b2 < 256 := by omega
  have l1 : b1 < 256 := by omega
  have l0 : b0 < 256 := by omega
  clear e3 e2 e1 e0
  have hok : okB (a : Int) = true := by simp [okB]; omega
  go_enter Tryd.func11, Tryd.ntmps11
  go_wp2_with (first
    | (go_at_call 9; refine (c3right _ _).mono ?_; rintro e wr ⟨rfl, bR⟩)
    | (go_at_call 31; refine (HS _).out.mono ?_; rintro e ws ⟨rfl, bS⟩))
  simp only [u8v]
  have bW := bR.trans (bS.mono bR.size)
  clear hok
  go_loopw [3, 11] (fun v i W => ∃ (k c : Nat) (A : Option Addr), k ≤ 4 ∧ v = .slice A k c ∧ i = .int .i64 (k : Int) ∧ W.ownsRow w.heap.size 9 1 (.slice A k c) k (((fourP b3 b2 b1 b0).take k).map sv) ∧ Below w.heap.size w W) (fun _ i _ => 4 - (intOf i).toNat)
  case atStart => exact ⟨0, 0, none, by omega, rfl, rfl, ⟨by simp, .inl ⟨rfl, rfl⟩⟩, bW⟩
  case round =>
    obtain ⟨k, c, A, hk, rfl, rfl, hown, hbel⟩ := hrel
    by_cases h4 : k = 4
    · subst h4
      go_wp2_with (go_at_call 33; refine (join_own hown rfl (by omega) (by omega) 46 HL.out).mono ?_; rintro e wj ⟨rfl, bJ⟩)
      go_ret
      exact ⟨ret_str (by rw [show List.take 4 (fourP b3 b2 b1 b0) = fourP b3 b2 b1 b0 from rfl, HJ.out]), hbel.trans (bJ.mono hbel.size)⟩
    · have hi : ∀ w, (Instr.index 43 (.agg #[.int .u8 (b3 : Int), .int .u8 (b2 : Int), .int .u8 (b1 : Int), .int .u8 (b0 : Int)]) (.int .i64 (k : Int))).run Tryd.prog w = .ok (.int .u8 (qat b3 b2 b1 b0 k : Int)) w := by
        have hk5 : k = 0 ∨ k = 1 ∨ k = 2 ∨ k = 3 := by omega
        intro w
        rcases hk5 with rfl | rfl | rfl | rfl <;> kernel_rfl
      have HP : Hid ((fourP b3 b2 b1 b0).take (k + 1) = (fourP b3 b2 b1 b0).take k ++ [dec (qat b3 b2 b1 b0 k)] ∧ qat b3 b2 b1 b0 k < 256) := Lib.hid (by
        have hk5 : k = 0 ∨ k = 1 ∨ k = 2 ∨ k = 3 := by omega
        rcases hk5 with rfl | rfl | rfl | rfl <;> exact ⟨rfl, by assumption⟩)
      have hTW : Tabs _ := hT.below hbel (Nat.le_refl _)
      obtain ⟨q, hq⟩ : ∃ q, q = qat b3 b2 b1 b0 k := ⟨_, rfl⟩
      rw [← hq] at HP hi
      have hq1 := HP.out.2
      clear hq
      go_wp2_with (first
        | (go_at_call 32; refine (citoa _ q (by simp) hq1 _ hTW).mono ?_; rintro e wi ⟨rfl, bI⟩)
        | (refine append_str rfl _ _ rfl w.heap.size (.slice A k c) k ((fourP b3 b2 b1 b0).take k) rfl (own_below (own_below hown bI (Nat.le_refl _)) ((Below.refl wi.heap.size wi).alloc (Nat.le_refl _) _) (Nat.le_refl _)) wi.heap.size (dec q) rfl (cell_new1 _ _ _) (by omega) (by have := hbel.size; have := bI.size; simp; omega) ?_; intro v2 w2 hown2 hg2))
      obtain ⟨A2, c2, rfl⟩ := own_shape hown2
      have hsz1 := hbel.size
      have hsz2 := bI.size
      have bel2 : Below w.heap.size w w2 := ((hbel.trans (bI.mono hbel.size)).alloc (by omega) _).grown hg2 (by simp; omega) (own_ge hown)
      go_roundw
      case rel => exact ⟨k + 1, c2, A2, by omega, rfl, by simp, by rw [HP.out.1]; exact hown2, bel2⟩
      case measure => simp [intOf]; omega

theorem c3text (a : Int) (w : World) (hT : Tabs w) : Calls Tryd.prog 11 #[.int .i64 a] w fun e w' => e = .returned (.string (strB (txtI a))) ∧ Below w.heap.size w w' := by
  by_cases h : 0 ≤ a ∧ a < 4294967296
  · obtain ⟨n, rfl⟩ := Int.eq_ofNat_of_zero_le h.1
    rw [show txtI (n : Int) = txt n from by rw [txtI, if_pos h]; simp]
    exact ctext n w (by omega) hT
  · have hok : okB a = false := by simp [okB]; omega
    rw [show txtI a = [] from by rw [txtI, if_neg h]]
    go_enter Tryd.func11, Tryd.ntmps11
    go_wp2_with (go_at_call 9; refine (c3right _ _).mono ?_; rintro e w' ⟨rfl, hb⟩)
    go_ret
    exact ⟨rfl, hb⟩

/-- The bytes of an address's text, one part each. -/
theorem four_cut {a : Nat} (h : a < 4294967296) : (∀ k, k < 4 → prt 46 (txt a) k = dec (qat (a / 16777216) (a / 65536 % 256) (a / 256 % 256) (a % 256) k)) ∧ mor 46 (txt a) 4 = false := by
  have hc := cut_join 46 [dec (a / 65536 % 256), dec (a / 256 % 256), dec (a % 256)] (dec (a / 16777216)) (fun q hq => by
    simp only [List.mem_cons, List.not_mem_nil, or_false] at hq
    rcases hq with rfl | rfl | rfl | rfl <;> exact dec_dot (by omega))
  have hj : Lib.join [dec (a / 16777216), dec (a / 65536 % 256), dec (a / 256 % 256), dec (a % 256)] [46] = txt a := four_join a
  rw [hj] at hc
  refine ⟨fun k hk => ?_, hc.2⟩
  rw [hc.1 k (by simpa using hk)]
  have hk5 : k = 0 ∨ k = 1 ∨ k = 2 ∨ k = 3 := by omega
  rcases hk5 with rfl | rfl | rfl | rfl <;> rfl
theorem qat_lt {b3 b2 b1 b0 : Nat} (h3 : b3 < 256) (h2 : b2 < 256) (h1 : b1 < 256) (h0 : b0 < 256) (k : Nat) : qat b3 b2 b1 b0 k < 256 := by
  match k with
  | 0 => exact h3
  | 1 => exact h2
  | 2 => exact h1
  | n + 3 => exact h0
theorem four_glue {s : List UInt8} {b3 b2 b1 b0 : Nat} (h3 : b3 < 256) (h2 : b2 < 256) (h1 : b1 < 256) (h0 : b0 < 256) (h : ∀ k, k < 4 → prt 46 s k = dec (qat b3 b2 b1 b0 k)) (hm : mor 46 s 4 = false) :
    txt (qnum b3 b2 b1 b0) = s ∧ qnum b3 b2 b1 b0 < 4294967296 := by
  have hj := join_cut 46 [dec b2, dec b1, dec b0] (dec b3) s (fun k hk => by
    rw [h k (by simpa using hk)]
    have hk5 : k = 0 ∨ k = 1 ∨ k = 2 ∨ k = 3 := by simp at hk; omega
    rcases hk5 with rfl | rfl | rfl | rfl <;> rfl) (fun q hq => by
    have key : ∀ n, dec n ≠ [] := fun n e => by have := @dec_len n; rw [e] at this; simp at this
    simp only [List.mem_cons, List.not_mem_nil, or_false] at hq
    rcases hq with rfl | rfl | rfl | rfl <;> exact key _) hm
  have hn : qnum b3 b2 b1 b0 < 4294967296 := by unfold qnum; omega
  refine ⟨?_, hn⟩
  rw [← four_join]
  have e3 : qnum b3 b2 b1 b0 / 16777216 = b3 := by unfold qnum; omega
  have e2 : qnum b3 b2 b1 b0 / 65536 % 256 = b2 := by unfold qnum; omega
  have e1 : qnum b3 b2 b1 b0 / 256 % 256 = b1 := by unfold qnum; omega
  have e0 : qnum b3 b2 b1 b0 % 256 = b0 := by unfold qnum; omega
  rw [e3, e2, e1, e0]; exact hj

theorem below_drewN {B : Nat} {a w : World} (h : Below B a w) (m : Nat) : Below B a (w.drewN m) := ⟨h.os, h.tape, h.output, h.size, h.block⟩
theorem set_new (w : World) (cur cur' : Array Value) (t j m m' : Nat) (x : Value) (hm : m = m') (hc : cur.setIfInBounds j x = cur') :
    ((w.alloc (.cells cur t (0, 0))).drewN m).setCell ⟨w.heap.size, j, none⟩ x = (w.alloc (.cells cur' t (0, 0))).drewN m' := by
  subst hm; subst hc
  show ((w.alloc (.cells cur t (0, 0))).setCell ⟨w.heap.size, j, none⟩ x).drewN m = _
  rw [World.setCell_alloc_at _ _ _ _ _ rfl]
/-- The bytes that are read behind k rounds. -/
def pcur (f : Nat → Int) : Nat → Array Value
  | 0 => #[.int .u8 0, .int .u8 0, .int .u8 0, .int .u8 0]
  | 1 => #[.int .u8 (f 0), .int .u8 0, .int .u8 0, .int .u8 0]
  | 2 => #[.int .u8 (f 0), .int .u8 (f 1), .int .u8 0, .int .u8 0]
  | 3 => #[.int .u8 (f 0), .int .u8 (f 1), .int .u8 (f 2), .int .u8 0]
  | _ => #[.int .u8 (f 0), .int .u8 (f 1), .int .u8 (f 2), .int .u8 (f 3)]
theorem ccut_l (l : List UInt8) (c : UInt8) (w : World) (hs : l.length ≤ 9223372036854775807) :
    Calls Tryd.prog 36 #[.string (strB l), .string ⟨#[c]⟩] w fun e w' => e = .returned (.tuple #[.string (strB (cutc c l).1), .string (strB (cutc c l).2.1), .bool (cutc c l).2.2]) ∧ ∃ n, w' = w.drewN n :=
  ccut (strB l) c w (by rw [strB_size]; exact hs)
theorem cread_l (l : List UInt8) (w : World) (hs : l.length ≤ 9223372036854775807) :
    Calls Tryd.prog 37 #[.string (strB l)] w fun e w' => e = .returned (.tuple #[.int .u8 (rdV l), .bool (rdO l)]) ∧ w = w' :=
  cread (strB l) w (by rw [strB_size]; exact hs)

set_option maxHeartbeats 4000000 in
theorem cparse (l : List UInt8) (w : World) (hs : l.length ≤ 9223372036854775807) :
    Calls Tryd.prog 18 #[.string (strB l)] w fun e w' => e = .returned (.tuple #[.int .i64 (parV l), .int .i64 (parE l)]) ∧ Below w.heap.size w w' := by
  have hB : ∀ o m, Below w.heap.size w ((w.alloc o).drewN m) := fun o m => below_drewN ((Below.refl w.heap.size w).alloc (Nat.le_refl _) o) m
  have hrl := rst_len 46 l
  have hpl := prt_len 46 l
  go_enter Tryd.func18, Tryd.ntmps18
  go_wp2_with fail
  go_loopw [5, 6, 12] (fun r mo i W => ∃ (k m : Nat), k ≤ 4 ∧ r = .string (strB (rst 46 l k)) ∧ mo = .bool (mor 46 l k) ∧ i = .int .i64 (k : Int) ∧ Hid (∀ j, j < k → ∃ n : Nat, n < 256 ∧ dec n = prt 46 l j ∧ rdV (prt 46 l j) = n)
      ∧ W = (w.alloc (.cells (pcur (fun j => rdV (prt 46 l j)) k) 43)).drewN m) (fun _ _ i _ => 4 - (intOf i).toNat)
  case atStart => exact ⟨0, 0, by omega, rfl, rfl, rfl, Lib.hid (fun j hj => by omega), rfl⟩
  case round =>
    obtain ⟨k, m, hk, rfl, rfl, rfl, HK, rfl⟩ := hrel
    by_cases h4 : k = 4
    · subst h4
      simp only [pcur]
      by_cases hm : mor 46 l 4 = true
      · have HNo := Lib.hid (par_no (s := l) fun ⟨a, ha, e⟩ => by have := (four_cut ha).2; rw [e, hm] at this; cases this)
        rw [hm]
        go_wp2_with fail
        go_ret2
        exact ⟨by rw [HNo.out.1, HNo.out.2]; rfl, hB _ _⟩
      · have hm' : mor 46 l 4 = false := by simpa using hm
        obtain ⟨b3, l3, d3, v3⟩ := HK.out 0 (by omega)
        obtain ⟨b2, l2, d2, v2⟩ := HK.out 1 (by omega)
        obtain ⟨b1, l1, d1, v1⟩ := HK.out 2 (by omega)
        obtain ⟨b0, l0, d0, v0⟩ := HK.out 3 (by omega)
        have hg := four_glue (s := l) l3 l2 l1 l0 (fun k hk => by
          have hk5 : k = 0 ∨ k = 1 ∨ k = 2 ∨ k = 3 := by omega
          rcases hk5 with rfl | rfl | rfl | rfl
          · exact d3.symm
          · exact d2.symm
          · exact d1.symm
          · exact d0.symm) hm'
        have HY := Lib.hid (par_yes hg.2 hg.1)
        have HN : ∀ w, Hid (Calls Tryd.prog 38 #[.agg #[.int .u8 (b3 : Int), .int .u8 (b2 : Int), .int .u8 (b1 : Int), .int .u8 (b0 : Int)]] w fun e w' => e = .returned (.int .i64 (qnum b3 b2 b1 b0 : Nat)) ∧ Below w.heap.size w w') := fun w => Lib.hid (cnumber b3 b2 b1 b0 w l3 l2 l1 l0)
        rw [v3, v2, v1, v0, hm']
        clear hg d3 d2 d1 d0 v3 v2 v1 v0
        go_wp2_with (go_at_call 38; refine (HN _).out.mono ?_; rintro e wn ⟨rfl, bN⟩)
        go_ret2
        exact ⟨by rw [HY.out.1, HY.out.2]; rfl, (hB _ _).trans (bN.mono (hB _ _).size)⟩
    · have HR : Hid ((cutc 46 (rst 46 l k)).1 = prt 46 l k ∧ (cutc 46 (rst 46 l k)).2.1 = rst 46 l (k + 1) ∧ (cutc 46 (rst 46 l k)).2.2 = mor 46 l (k + 1)) := Lib.hid ⟨rfl, rfl, rfl⟩
      have hkk : k = 0 ∨ k = 1 ∨ k = 2 ∨ k = 3 := by omega
      have h1 := hrl k
      have h2 := hpl k
      clear hrl hpl
      rcases rd_cases (prt 46 l k) with ⟨n, hn, hd, hv, ho⟩ | ⟨hno, hv, ho⟩
      · have HK2 : Hid (∀ j, j < k + 1 → ∃ n : Nat, n < 256 ∧ dec n = prt 46 l j ∧ rdV (prt 46 l j) = n) := Lib.hid (fun j hj => by
          by_cases hjk : j = k
          · rw [hjk]; exact ⟨n, hn, hd, hv⟩
          · exact HK.out j (by omega))
        clear hv hd hn
        rcases hkk with rfl | rfl | rfl | rfl
        · simp only [pcur]
          go_wp2_with (first
            | (go_at_call 36; refine (ccut_l _ 46 _ (by omega)).mono ?_; rintro e w1 ⟨rfl, n1, rfl⟩; rw [HR.out.1, HR.out.2.1, HR.out.2.2])
            | (go_at_call 37; refine (cread_l _ _ (by omega)).mono ?_; rintro e w1 ⟨rfl, rfl⟩; rw [ho]))
          go_roundw
          case rel => exact ⟨1, m + n1, by omega, rfl, rfl, rfl, HK2, set_new w _ _ _ 0 _ _ _ rfl rfl⟩
          case measure => simp [intOf]
        · simp only [pcur]
          go_wp2_with (first
            | (go_at_call 36; refine (ccut_l _ 46 _ (by omega)).mono ?_; rintro e w1 ⟨rfl, n1, rfl⟩; rw [HR.out.1, HR.out.2.1, HR.out.2.2])
            | (go_at_call 37; refine (cread_l _ _ (by omega)).mono ?_; rintro e w1 ⟨rfl, rfl⟩; rw [ho]))
          go_roundw
          case rel => exact ⟨2, m + n1, by omega, rfl, rfl, rfl, HK2, set_new w _ _ _ 1 _ _ _ rfl rfl⟩
          case measure => simp [intOf]
        · simp only [pcur]
          go_wp2_with (first
            | (go_at_call 36; refine (ccut_l _ 46 _ (by omega)).mono ?_; rintro e w1 ⟨rfl, n1, rfl⟩; rw [HR.out.1, HR.out.2.1, HR.out.2.2])
            | (go_at_call 37; refine (cread_l _ _ (by omega)).mono ?_; rintro e w1 ⟨rfl, rfl⟩; rw [ho]))
          go_roundw
          case rel => exact ⟨3, m + n1, by omega, rfl, rfl, rfl, HK2, set_new w _ _ _ 2 _ _ _ rfl rfl⟩
          case measure => simp [intOf]
        · simp only [pcur]
          go_wp2_with (first
            | (go_at_call 36; refine (ccut_l _ 46 _ (by omega)).mono ?_; rintro e w1 ⟨rfl, n1, rfl⟩; rw [HR.out.1, HR.out.2.1, HR.out.2.2])
            | (go_at_call 37; refine (cread_l _ _ (by omega)).mono ?_; rintro e w1 ⟨rfl, rfl⟩; rw [ho]))
          go_roundw
          case rel => exact ⟨4, m + n1, by omega, rfl, rfl, rfl, HK2, set_new w _ _ _ 3 _ _ _ rfl rfl⟩
          case measure => simp [intOf]
      · have HNo := Lib.hid (par_no (s := l) fun ⟨a, ha, e⟩ => hno (by rw [← e, (four_cut ha).1 k (by omega)]; exact ⟨_, qat_lt (by omega) (by omega) (by omega) (by omega) k, rfl⟩))
        clear hv hno
        rcases hkk with rfl | rfl | rfl | rfl
        · go_wp2_with (first
            | (go_at_call 36; refine (ccut_l _ 46 _ (by omega)).mono ?_; rintro e w1 ⟨rfl, n1, rfl⟩; rw [HR.out.1, HR.out.2.1, HR.out.2.2])
            | (go_at_call 37; refine (cread_l _ _ (by omega)).mono ?_; rintro e w1 ⟨rfl, rfl⟩; rw [ho]))
          go_ret2
          exact ⟨by rw [HNo.out.1, HNo.out.2]; rfl, hB _ _⟩
        · go_wp2_with (first
            | (go_at_call 36; refine (ccut_l _ 46 _ (by omega)).mono ?_; rintro e w1 ⟨rfl, n1, rfl⟩; rw [HR.out.1, HR.out.2.1, HR.out.2.2])
            | (go_at_call 37; refine (cread_l _ _ (by omega)).mono ?_; rintro e w1 ⟨rfl, rfl⟩; rw [ho]))
          go_ret2
          exact ⟨by rw [HNo.out.1, HNo.out.2]; rfl, hB _ _⟩
        · go_wp2_with (first
            | (go_at_call 36; refine (ccut_l _ 46 _ (by omega)).mono ?_; rintro e w1 ⟨rfl, n1, rfl⟩; rw [HR.out.1, HR.out.2.1, HR.out.2.2])
            | (go_at_call 37; refine (cread_l _ _ (by omega)).mono ?_; rintro e w1 ⟨rfl, rfl⟩; rw [ho]))
          go_ret2
          exact ⟨by rw [HNo.out.1, HNo.out.2]; rfl, hB _ _⟩
        · go_wp2_with (first
            | (go_at_call 36; refine (ccut_l _ 46 _ (by omega)).mono ?_; rintro e w1 ⟨rfl, n1, rfl⟩; rw [HR.out.1, HR.out.2.1, HR.out.2.2])
            | (go_at_call 37; refine (cread_l _ _ (by omega)).mono ?_; rintro e w1 ⟨rfl, rfl⟩; rw [ho]))
          go_ret2
          exact ⟨by rw [HNo.out.1, HNo.out.2]; rfl, hB _ _⟩
theorem c3parse (s : ByteArray) (w : World) (hs : s.size ≤ 9223372036854775807) : Calls Tryd.prog 18 #[.string s] w fun e w' => e = .returned (.tuple #[.int .i64 (parV s.data.toList), .int .i64 (parE s.data.toList)]) ∧ Below w.heap.size w w' :=
  cparse s.data.toList w hs
end Go.Proofs.YtokcelbpiglieaaDoor
