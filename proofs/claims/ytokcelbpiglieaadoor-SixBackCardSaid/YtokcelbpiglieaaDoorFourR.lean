/-
  Contracts of the document's plain answers of layer 3: Right, Text, Parse, Host, Private. Conditions are each theorem's own.
-/
import Derived.Test.YtokcelbpiglieaaDoorBase
import Derived.Test.YtokcelbpiglieaaDoorFourM
namespace Go.Proofs.YtokcelbpiglieaaDoor
open Go.RowKit

theorem ten_cut {m : Nat} (h : m < 10) : ({ data := #[48, 49, 50, 51, 52, 53, 54, 55, 56, 57] } : ByteArray).extract m (m + 1) = strB [UInt8.ofNat (48 + m)] := by
  have : m = 0 ∨ m = 1 ∨ m = 2 ∨ m = 3 ∨ m = 4 ∨ m = 5 ∨ m = 6 ∨ m = 7 ∨ m = 8 ∨ m = 9 := by omega
  rcases this with rfl | rfl | rfl | rfl | rfl | rfl | rfl | rfl | rfl | rfl <;> decide

theorem rdigits10 (v : Int) (n : Nat) (hv : v = (n : Int)) (w : World) (h : n < 10) :
    Calls Tryd.prog 34 #[.int .i64 v] w fun e w' => e = .returned (.string (strB (dec n))) ∧ w = w' := by
  subst hv
  go_enter Tryd.func34, Tryd.ntmps34
  go_wp2_with fail
  go_ret
  refine ⟨ret_str ?_, rfl⟩
  rw [Nat.mod_eq_of_lt h, ten_cut h, dec, if_pos h]
theorem dec_ten {n : Nat} (h : 10 ≤ n) (h2 : n < 256) : dec (n / 10) ++ [UInt8.ofNat (48 + n % 10)] = dec n := by
  by_cases h3 : n < 100
  · rw [dec, if_pos (by omega), dec, if_neg (by omega), if_pos h3]; rfl
  · rw [dec, if_neg (by omega), if_pos (by omega), dec, if_neg (by omega), if_neg h3]
    rw [show n / 10 / 10 = n / 100 from by omega]; rfl
theorem rdigits_up (v : Int) (n : Nat) (hv : v = (n : Int)) (w : World) (h : n < 256) (h10 : 10 ≤ n)
    (ih : ∀ (v : Int), v = ((n / 10 : Nat) : Int) → Calls Tryd.prog 34 #[.int .i64 v] w fun e w' => e = .returned (.string (strB (dec (n / 10)))) ∧ w = w') :
    Calls Tryd.prog 34 #[.int .i64 v] w fun e w' => e = .returned (.string (strB (dec n))) ∧ w = w' := by
  subst hv
  have hk : ∀ w, (Op.stringOp .add (strB (dec (n / 10))) (({ data := #[48, 49, 50, 51, 52, 53, 54, 55, 56, 57] } : ByteArray).extract (n % 10) (n % 10 + 1))).run Tryd.prog w = .ok (.string (strB (dec n))) w := fun w => by
    have hl := @dec_len (n / 10)
    rw [ten_cut (by omega), sadd _ _ (by simp; omega), dec_ten h10 h]
  go_enter Tryd.func34, Tryd.ntmps34
  go_wp2_with (go_at_call 34; refine (ih _ (by omega)).mono ?_; rintro e w' ⟨rfl, rfl⟩)
  go_ret
  exact ⟨rfl, rfl⟩
theorem rdigits100 (v : Int) (n : Nat) (hv : v = (n : Int)) (w : World) (h : n < 100) :
    Calls Tryd.prog 34 #[.int .i64 v] w fun e w' => e = .returned (.string (strB (dec n))) ∧ w = w' := by
  by_cases h10 : n < 10
  · exact rdigits10 v n hv w h10
  · exact rdigits_up v n hv w (by omega) (by omega) (fun v hv => rdigits10 v (n / 10) hv w (by omega))
theorem rdigits (v : Int) (n : Nat) (hv : v = (n : Int)) (w : World) (h : n < 256) :
    Calls Tryd.prog 34 #[.int .i64 v] w fun e w' => e = .returned (.string (strB (dec n))) ∧ w = w' := by
  by_cases h10 : n < 100
  · exact rdigits100 v n hv w h10
  · exact rdigits_up v n hv w h (by omega) (fun v hv => rdigits100 v (n / 10) hv w (by omega))

/-- Is a number an address? A plain definition. -/
def okB (a : Int) : Bool := decide (0 ≤ a ∧ a < 4294967296)
theorem r3right_any (a : Int) (w : World) : Calls Tryd.prog 10 #[.int .i64 a] w fun e w' => e = .returned (.bool (okB a)) ∧ w = w' := by
  by_cases h : 0 ≤ a
  · go_enter Tryd.func10, Tryd.ntmps10
    go_wp2
    go_ret
    exact ⟨ret_bool (by rw [Bool.eq_iff_iff]; simp [okB, h]), rfl⟩
  · have hd : decide (0 ≤ a) = false := by simp; omega
    go_enter Tryd.func10, Tryd.ntmps10
    go_wp2
    go_ret
    exact ⟨ret_bool (by rw [Bool.eq_iff_iff]; simp [okB]; omega), rfl⟩

/-- The text of any number. -/
def txtI (a : Int) : List UInt8 := if 0 ≤ a ∧ a < 4294967296 then txt a.toNat else []
set_option maxRecDepth 100000 in
theorem rtext (a : Nat) (w : World) (h : a < 4294967296) :
    Calls Tryd.prog 12 #[.int .i64 (a : Int)] w fun e w' => e = .returned (.string (strB (txt a))) ∧ w = w' := by
  obtain ⟨b3, e3⟩ : ∃ b, b = a / 16777216 := ⟨_, rfl⟩
  obtain ⟨b2, e2⟩ : ∃ b, b = a / 65536 % 256 := ⟨_, rfl⟩
  obtain ⟨b1, e1⟩ : ∃ b, b = a / 256 % 256 := ⟨_, rfl⟩
  obtain ⟨b0, e0⟩ : ∃ b, b = a % 256 := ⟨_, rfl⟩
  have HT := Lib.hid (show txt a = dec b3 ++ [46] ++ dec b2 ++ [46] ++ dec b1 ++ [46] ++ dec b0 from by rw [txt, e3, e2, e1, e0])
  have h3 := @dec_len b3; have h2 := @dec_len b2; have h1 := @dec_len b1; have h0 := @dec_len b0
  have hok : okB (a : Int) = true := by simp [okB]; omega
  have hone : ([46] : List UInt8).length = 1 := rfl
  obtain ⟨t1, f1⟩ : ∃ t, t = dec b3 ++ [46] := ⟨_, rfl⟩
  have l1 : t1.length = (dec b3).length + 1 := by rw [f1, List.length_append]; rfl
  have k1 : ∀ w, (Op.stringOp .add (strB (dec b3)) (⟨#[46]⟩ : ByteArray)).run Tryd.prog w = .ok (.string (strB t1)) w := fun w => by rw [f1]; exact sadd _ ([46]) (by omega) w
  obtain ⟨t2, f2⟩ : ∃ t, t = t1 ++ dec b2 := ⟨_, rfl⟩
  have l2 : t2.length = (t1).length + (dec b2).length := by rw [f2, List.length_append]
  have k2 : ∀ w, (Op.stringOp .add (strB (t1)) (strB (dec b2))).run Tryd.prog w = .ok (.string (strB t2)) w := fun w => by rw [f2]; exact sadd _ (dec b2) (by omega) w
  obtain ⟨t3, f3⟩ : ∃ t, t = t2 ++ [46] := ⟨_, rfl⟩
  have l3 : t3.length = (t2).length + 1 := by rw [f3, List.length_append]; rfl
  have k3 : ∀ w, (Op.stringOp .add (strB (t2)) (⟨#[46]⟩ : ByteArray)).run Tryd.prog w = .ok (.string (strB t3)) w := fun w => by rw [f3]; exact sadd _ ([46]) (by omega) w
  obtain ⟨t4, f4⟩ : ∃ t, t = t3 ++ dec b1 := ⟨_, rfl⟩
  have l4 : t4.length = (t3).length + (dec b1).length := by rw [f4, List.length_append]
  have k4 : ∀ w, (Op.stringOp .add (strB (t3)) (strB (dec b1))).run Tryd.prog w = .ok (.string (strB t4)) w := fun w => by rw [f4]; exact sadd _ (dec b1) (by omega) w
  obtain ⟨t5, f5⟩ : ∃ t, t = t4 ++ [46] := ⟨_, rfl⟩
  have l5 : t5.length = (t4).length + 1 := by rw [f5, List.length_append]; rfl
  have k5 : ∀ w, (Op.stringOp .add (strB (t4)) (⟨#[46]⟩ : ByteArray)).run Tryd.prog w = .ok (.string (strB t5)) w := fun w => by rw [f5]; exact sadd _ ([46]) (by omega) w
  obtain ⟨t6, f6⟩ : ∃ t, t = t5 ++ dec b0 := ⟨_, rfl⟩
  have l6 : t6.length = (t5).length + (dec b0).length := by rw [f6, List.length_append]
  have k6 : ∀ w, (Op.stringOp .add (strB (t5)) (strB (dec b0))).run Tryd.prog w = .ok (.string (strB t6)) w := fun w => by rw [f6]; exact sadd _ (dec b0) (by omega) w
  have HT2 := Lib.hid (show t6 = txt a by rw [HT.out, f6, f5, f4, f3, f2, f1])
  clear f1 f2 f3 f4 f5 f6 l1 l2 l3 l4 l5 l6 HT hone
  have E3 := Lib.hid e3; have E2 := Lib.hid e2; have E1 := Lib.hid e1; have E0 := Lib.hid e0
  clear h3 h2 h1 h0 e3 e2 e1 e0
  go_enter Tryd.func12, Tryd.ntmps12
  go_wp2_with (first
    | (go_at_call 10; refine (r3right_any _ _).mono ?_; rintro e w' ⟨rfl, rfl⟩)
    | (go_at_call 34; refine (rdigits _ b3 (by have := E3.out; omega) _ (by have := E3.out; omega)).mono ?_; rintro e w' ⟨rfl, rfl⟩)
    | (go_at_call 34; refine (rdigits _ b2 (by have := E2.out; omega) _ (by have := E2.out; omega)).mono ?_; rintro e w' ⟨rfl, rfl⟩)
    | (go_at_call 34; refine (rdigits _ b1 (by have := E1.out; omega) _ (by have := E1.out; omega)).mono ?_; rintro e w' ⟨rfl, rfl⟩)
    | (go_at_call 34; refine (rdigits _ b0 (by have := E0.out; omega) _ (by have := E0.out; omega)).mono ?_; rintro e w' ⟨rfl, rfl⟩))
  go_ret
  exact ⟨ret_str (by rw [HT2.out]), rfl⟩
theorem rtext_v (v : Int) (a : Nat) (hv : v = (a : Int)) (w : World) (h : a < 4294967296) :
    Calls Tryd.prog 12 #[.int .i64 v] w fun e w' => e = .returned (.string (strB (txt a))) ∧ w = w' := by subst hv; exact rtext a w h
theorem rtext_any (a : Int) (w : World) :
    Calls Tryd.prog 12 #[.int .i64 a] w fun e w' => e = .returned (.string (strB (txtI a))) ∧ w = w' := by
  by_cases h : 0 ≤ a ∧ a < 4294967296
  · obtain ⟨n, rfl⟩ := Int.eq_ofNat_of_zero_le h.1
    rw [show txtI (n : Int) = txt n from by rw [txtI, if_pos h]; simp]
    exact rtext n w (by omega)
  · have hok : okB a = false := by simp [okB]; omega
    rw [show txtI a = [] from by rw [txtI, if_neg h]]
    go_enter Tryd.func12, Tryd.ntmps12
    go_wp2_with (go_at_call 10; refine (r3right_any _ _).mono ?_; rintro e w' ⟨rfl, rfl⟩)
    go_ret
    exact ⟨rfl, rfl⟩

set_option maxHeartbeats 1000000 in
theorem rparse (s : ByteArray) (w : World) (hs : s.size ≤ 9223372036854775807) :
    Calls Tryd.prog 19 #[.string s] w fun e w' => e = .returned (.tuple #[.int .i64 (parV s.data.toList), .int .i64 (parE s.data.toList)]) ∧ w = w' := by
  have hsz : s.data.toList.length = s.size := rfl
  obtain ⟨l, hl⟩ : ∃ l, l = s.data.toList := ⟨_, rfl⟩
  rw [← hl] at hsz ⊢
  have Hl := Lib.hid hl
  have Hsz := Lib.hid hsz
  clear hl hsz
  by_cases h15 : 15 < s.size
  · have HP := Lib.hid (par_long (s := l) (by rw [Hsz.out]; exact h15))
    go_enter Tryd.func19, Tryd.ntmps19
    go_wp2_with fail
    go_ret2
    exact ⟨by rw [HP.out.1, HP.out.2]; rfl, rfl⟩
  · go_enter Tryd.func19, Tryd.ntmps19
    go_wp2_with fail
    go_loop [4, 5, 6] (fun n p i => ∃ (k N P : Nat), k ≤ s.size ∧ N ≤ 16777215 ∧ P ≤ 255 ∧ Hid (pfold (some (0, 0)) (l.take k) = some (N, P)) ∧ n = .int .i64 (N : Int) ∧ p = .int .i64 (P : Int) ∧ i = .int .i64 (k : Int)) (fun _ _ i => s.size - (intOf i).toNat)
    case atStart => exact ⟨0, 0, 0, Nat.zero_le _, by omega, by omega, Lib.hid rfl, rfl, rfl, rfl⟩
    case round =>
      obtain ⟨k, N, P, hk, hN, hP, HF, rfl, rfl, rfl⟩ := hrel
      by_cases hlt : k < s.size
      · have HS : Hid (pfold (some (0, 0)) (l.take (k + 1)) = pst (some (N, P)) s[k]) := Lib.hid (by
          have hk' : k < l.length := by rw [Hsz.out]; exact hlt
          rw [pfold_take hk', HF.out]
          congr 1
          have := Hl.out
          subst this
          rfl)
        by_cases c46 : s[k].toNat = 46
        · have t46 : ((s[k].toNat : Int) == 46) = true := by simp [c46]
          by_cases hov : N * 256 + P ≤ 16777215
          · have Hc := Lib.hid c46
            clear c46
            go_wp2_with fail
            go_roundw
            case rel => exact ⟨k + 1, N * 256 + P, 0, by omega, by omega, by omega, Lib.hid (by rw [HS.out]; exact pst_46 Hc.out (by omega)), by simp, by simp, by simp⟩
            case measure => simp [intOf]; omega
          · have HN := Lib.hid (par_none (s := l) (k := k + 1) (by rw [HS.out]; exact pst_no (by omega)))
            clear c46
            go_wp2_with fail
            go_ret2
            exact ⟨by rw [HN.out.1, HN.out.2]; rfl, rfl⟩
        · have t46 : ((s[k].toNat : Int) == 46) = false := by rw [beq_eq_false_iff_ne]; omega
          by_cases d1 : 48 ≤ s[k].toNat
          · by_cases d2 : s[k].toNat ≤ 57
            · by_cases hov : P * 10 + (s[k].toNat - 48) ≤ 255
              · go_wp2_with fail
                go_roundw
                case rel => exact ⟨k + 1, N, P * 10 + (s[k].toNat - 48), by omega, by omega, by omega, Lib.hid (by rw [HS.out]; exact pst_dec d1 d2 hov hN), rfl, by congr 1; omega, by simp⟩
                case measure => simp [intOf]; omega
              · have HN := Lib.hid (par_none (s := l) (k := k + 1) (by rw [HS.out]; exact pst_no (by omega)))
                go_wp2_with fail
                go_ret2
                exact ⟨by rw [HN.out.1, HN.out.2]; rfl, rfl⟩
            · have HN := Lib.hid (par_none (s := l) (k := k + 1) (by rw [HS.out]; exact pst_no (by omega)))
              have t57 : decide ((s[k].toNat : Int) ≤ 57) = false := by simp; omega
              go_wp2_with fail
              go_ret2
              exact ⟨by rw [HN.out.1, HN.out.2]; rfl, rfl⟩
          · have HN := Lib.hid (par_none (s := l) (k := k + 1) (by rw [HS.out]; exact pst_no (by omega)))
            have t48 : decide (48 ≤ (s[k].toNat : Int)) = false := by simp; omega
            go_wp2_with fail
            go_ret2
            exact ⟨by rw [HN.out.1, HN.out.2]; rfl, rfl⟩
      · obtain rfl : k = s.size := by omega
        have HE := Lib.hid (par_end (s := l) (n := N) (p := P) (by have := HF.out; rwa [List.take_of_length_le (by rw [Hsz.out]; exact Nat.le_refl _)] at this))
        have HT : Hid (s = strB l) := Lib.hid (by have := Hl.out; subst this; rfl)
        by_cases ht : txt (N * 256 + P) = l
        · have hq : ((strB (txt (N * 256 + P))).toList == s.toList) = true := by rw [HT.out, strB_eq]; simpa using ht
          have Ht := Lib.hid ht
          clear ht
          go_wp2_with (go_at_call 12; refine (rtext_v _ (N * 256 + P) (by omega) _ (by omega)).mono ?_; rintro e w' ⟨rfl, rfl⟩)
          go_ret2
          exact ⟨by rw [(HE.out.1 Ht.out).1, (HE.out.1 Ht.out).2]; rfl, rfl⟩
        · have hq : ((strB (txt (N * 256 + P))).toList == s.toList) = false := by rw [HT.out, strB_eq]; simpa using ht
          have Ht := Lib.hid ht
          clear ht
          go_wp2_with (go_at_call 12; refine (rtext_v _ (N * 256 + P) (by omega) _ (by omega)).mono ?_; rintro e w' ⟨rfl, rfl⟩)
          go_ret2
          exact ⟨by rw [(HE.out.2 Ht.out).1, (HE.out.2 Ht.out).2]; rfl, rfl⟩
end Go.Proofs.YtokcelbpiglieaaDoor
