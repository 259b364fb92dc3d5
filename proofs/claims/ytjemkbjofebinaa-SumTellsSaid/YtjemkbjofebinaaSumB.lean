/-
  Contracts of the document's plain answers of layer 2: Add, Of, Right, Change. Conditions are each theorem's own.
-/
import Derived.Test.YtjemkbjofebinaaSumA
namespace Go.Proofs.Ytjemkbjofebinaa
open Go.RowKit

theorem rword_j (A : Option Addr) (bs : List UInt8) (c B j m : Nat) (hj : Hid (j = 2 * m)) (w : World) (h : Rd w B A bs) (hi : j < bs.length) (hl : bs.length ≤ 1099511627776) :
    Calls Try.prog 23 #[.slice A bs.length c, .int .i64 (j : Int)] w fun e w' => e = .returned (.int .i64 (wrd bs m)) ∧ ∃ n, w' = w.drewN n := by
  have h1 := rword_any A bs c B j w h hi hl
  have e : byt bs j * 256 + byt bs (j + 1) = wrd bs m := by rw [wrd, ← hj.out]
  rw [e] at h1
  exact h1

set_option maxHeartbeats 2000000 in
theorem radd_any (A : Option Addr) (ps : List (List UInt8)) (c B : Nat) (w : World) (h : Rd2 w B A ps) (hl : bulk ps ≤ 1099511627000) (hn : ps.length ≤ 1099511627000) :
    Calls Try.prog 27 #[.slice A ps.length c] w fun e w' => e = .returned (.int .i64 (fold (psum ps))) ∧ ∃ n, w' = w.drewN n := by
  go_enter Try.func27, Try.ntmps27
  go_wp2
  go_loopw [3, 4] (fun v i wr => ∃ k q : Nat, k ≤ ps.length ∧ i = .int .i64 (k : Int) ∧ v = .int .i64 (psum (ps.take k)) ∧ wr = w.drewN q) (fun _ i _ => ps.length - (intOf i).toNat)
  case atStart => exact ⟨0, 0, Nat.zero_le _, rfl, by simp [psum], rfl⟩
  case round =>
    obtain ⟨k, q, hk, rfl, rfl, rfl⟩ := hrel
    have hbd := psum_bd (ps.take k)
    have hbl := bulk_le ps k
    by_cases hlt : k < ps.length
    · obtain ⟨bs, hbs⟩ : ∃ bs, ps[k]? = some bs := ⟨_, List.getElem?_eq_getElem hlt⟩
      obtain ⟨b, off, rfl, hbB, hcell⟩ := h (by omega)
      obtain ⟨Aj, cj, hcj, harg⟩ := hcell k bs hbs
      have hr := harg.rd
      have hlen := len_bulk hbs
      have hcap := harg.cap
      have Hps := Lib.hid (psum_take ps hbs)
      clear hcell hbs h harg
      obtain ⟨S, hS⟩ : ∃ S, S = psum (ps.take k) := ⟨_, rfl⟩
      rw [← hS] at hbd
      have HS := Lib.hid hS
      rw [← hS]
      clear hS
      go_wp2
      go_loopw [3, 5] (fun v i wr => ∃ j m q : Nat, Hid (j = 2 * m) ∧ m ≤ prs bs.length ∧ i = .int .i64 (j : Int) ∧ v = .int .i64 (S + wsum bs m) ∧ wr = w.drewN q) (fun _ i _ => (bs.length + 2) - (intOf i).toNat)
      case atStart => exact ⟨0, 0, q, Lib.hid rfl, Nat.zero_le _, rfl, by simp [wsum], rfl⟩
      case round =>
        obtain ⟨j, m, q, Hj, hm, rfl, rfl, rfl⟩ := hrel
        have hws := wsum_bd bs m
        have hx := wrd_bd bs m
        have hml : m ≤ bs.length + 1 := by unfold prs at hm; omega
        have hjl : j ≤ bs.length + 1 := by have := Hj.out; unfold prs at hm; omega
        by_cases hlt2 : j < bs.length
        · have HW := Lib.hid (wsum_succ bs m)
          generalize wsum bs m = T at *
          go_wp2_with (go_at_call 23; refine (rword_j Aj bs cj B j m Hj _ (hr.drewN _) hlt2 (by omega)).mono ?_; rintro e w' ⟨rfl, n, rfl⟩)
          go_roundw
          case rel => exact ⟨j + 2, m + 1, q + n, Lib.hid (by have := Hj.out; omega), by have := Hj.out; unfold prs; omega, by simp, by rw [HW.out, Int.add_assoc], rfl⟩
          case measure => simp [intOf]; omega
        · go_wp2
          go_roundw
          case rel =>
            have e : m = prs bs.length := by have := Hj.out; unfold prs at hm ⊢; omega
            exact ⟨k + 1, q, by omega, by simp, by rw [Hps.out, ← HS.out, wall, e], rfl⟩
          case measure => simp [intOf]; omega
    · obtain rfl : k = ps.length := by omega
      have hb0 := psum_bd ps
      go_wp2_with (go_at_call 33; refine (rfold_any _ _ (by omega)).mono ?_; rintro e w' ⟨rfl, rfl⟩)
      go_ret
      exact ⟨rfl, q, rfl⟩

theorem rof_any (A : Option Addr) (ps : List (List UInt8)) (c B : Nat) (w : World) (h : Rd2 w B A ps) (hl : bulk ps ≤ 1099511627000) (hn : ps.length ≤ 1099511627000) :
    Calls Try.prog 29 #[.slice A ps.length c] w fun e w' => e = .returned (.int .i64 (65535 - fold (psum ps))) ∧ ∃ n, w' = w.drewN n := by
  have hf := fold_bd (psum ps)
  go_enter Try.func29, Try.ntmps29
  go_wp2_with (go_at_call 27; refine (radd_any A ps c B _ h hl hn).mono ?_; rintro e w1 ⟨rfl, n, rfl⟩)
  go_ret
  exact ⟨rfl, n, rfl⟩

theorem rright_any (A : Option Addr) (ps : List (List UInt8)) (c B : Nat) (w : World) (h : Rd2 w B A ps) (hl : bulk ps ≤ 1099511627000) (hn : ps.length ≤ 1099511627000) :
    Calls Try.prog 31 #[.slice A ps.length c] w fun e w' => e = .returned (.bool (rightB ps)) ∧ ∃ n, w' = w.drewN n := by
  go_enter Try.func31, Try.ntmps31
  go_wp2_with (go_at_call 27; refine (radd_any A ps c B _ h hl hn).mono ?_; rintro e w1 ⟨rfl, n, rfl⟩)
  go_ret
  exact ⟨rfl, n, rfl⟩

set_option maxHeartbeats 2000000 in
theorem rchange_any (A A' : Option Addr) (old now : List UInt8) (c c' B : Nat) (s : Int) (w : World) (h : Rd w B A old) (h' : Rd w B A' now) (hl : old.length ≤ 1099511627000) (hl' : now.length ≤ 1099511627000) :
    Calls Try.prog 35 #[.int .i64 s, .slice A old.length c, .slice A' now.length c'] w fun e w' => e = .returned (.int .i64 (chg s old now)) ∧ ∃ n, w' = w.drewN n := by
  by_cases h0 : 0 ≤ s
  · by_cases h1 : s ≤ 65535
    · have hd : decide (65535 < s) = false := by simp; omega
      have hd0 : decide (s < 0) = false := by simp; omega
      go_enter Try.func35, Try.ntmps35
      go_wp2
      go_loopw [7, 8] (fun v i wr => ∃ j m q : Nat, Hid (j = 2 * m) ∧ m ≤ prs old.length ∧ i = .int .i64 (j : Int) ∧ v = .int .i64 (65535 - s + (65535 * (m : Int) - wsum old m)) ∧ wr = w.drewN q) (fun _ i _ => (old.length + 2) - (intOf i).toNat)
      case atStart => exact ⟨0, 0, 0, Lib.hid rfl, Nat.zero_le _, rfl, by simp [wsum], rfl⟩
      case round =>
        obtain ⟨j, m, q, Hj, hm, rfl, rfl, rfl⟩ := hrel
        have hws := wsum_bd old m
        have hx := wrd_bd old m
        have hml : m ≤ old.length + 1 := by unfold prs at hm; omega
        have hjl : j ≤ old.length + 1 := by have := Hj.out; unfold prs at hm; omega
        by_cases hlt2 : j < old.length
        · have HW := Lib.hid (wsum_succ old m)
          generalize wsum old m = T at *
          go_wp2_with (go_at_call 23; refine (rword_j A old c B j m Hj _ (h.drewN _) hlt2 (by omega)).mono ?_; rintro e w' ⟨rfl, n, rfl⟩)
          go_roundw
          case rel =>
            refine ⟨j + 2, m + 1, q + n, Lib.hid (by have := Hj.out; omega), by have := Hj.out; unfold prs; omega, by simp, ?_, rfl⟩
            rw [HW.out]; congr 1; push_cast; omega
          case measure => simp [intOf]; omega
        · have hme : m = prs old.length := by have := Hj.out; unfold prs at hm ⊢; omega
          subst hme
          obtain ⟨V, hV⟩ : ∃ V, V = 65535 - s + (65535 * (prs old.length : Int) - wsum old (prs old.length)) := ⟨_, rfl⟩
          rw [← hV]
          have hV0 : 0 ≤ V := by omega
          have hV1 : V ≤ 65535 + 65535 * (prs old.length : Int) := by omega
          have HV := Lib.hid hV
          have hpo : prs old.length ≤ old.length + 1 := by unfold prs; omega
          clear hV hws hx
          go_wp2
          go_loopw [7, 9] (fun v i wr => ∃ j m q : Nat, Hid (j = 2 * m) ∧ m ≤ prs now.length ∧ i = .int .i64 (j : Int) ∧ v = .int .i64 (V + wsum now m) ∧ wr = w.drewN q) (fun _ i _ => (now.length + 2) - (intOf i).toNat)
          case atStart => exact ⟨0, 0, q, Lib.hid rfl, Nat.zero_le _, rfl, by simp [wsum], rfl⟩
          case round =>
            obtain ⟨j2, m2, q2, Hj2, hm2, rfl, rfl, rfl⟩ := hrel
            have hws := wsum_bd now m2
            have hx := wrd_bd now m2
            have hml2 : m2 ≤ now.length + 1 := by unfold prs at hm2; omega
            have hjl2 : j2 ≤ now.length + 1 := by have := Hj2.out; unfold prs at hm2; omega
            by_cases hlt3 : j2 < now.length
            · have HW := Lib.hid (wsum_succ now m2)
              generalize wsum now m2 = T at *
              go_wp2_with (go_at_call 23; refine (rword_j A' now c' B j2 m2 Hj2 _ (h'.drewN _) hlt3 (by omega)).mono ?_; rintro e w' ⟨rfl, n, rfl⟩)
              go_roundw
              case rel => exact ⟨j2 + 2, m2 + 1, q2 + n, Lib.hid (by have := Hj2.out; omega), by have := Hj2.out; unfold prs; omega, by simp, by rw [HW.out, Int.add_assoc], rfl⟩
              case measure => simp [intOf]; omega
            · have hme2 : Hid (m2 = prs now.length) := Lib.hid (by have := Hj2.out; unfold prs at hm2 ⊢; omega)
              have hfb := fold_bd (V + wsum now m2)
              go_wp2_with (go_at_call 33; refine (rfold_any _ _ (by omega)).mono ?_; rintro e w' ⟨rfl, rfl⟩)
              go_ret
              exact ⟨ret_int (by rw [chg, if_pos ⟨h0, h1⟩, wall, wall, ← HV.out, hme2.out]), q2, rfl⟩
    · rw [chg_no (by omega)]
      have hd : decide (65535 < s) = true := by simp; omega
      go_enter Try.func35, Try.ntmps35
      go_wp2
      go_ret
      exact ⟨rfl, 0, rfl⟩
  · rw [chg_no (by omega)]
    have hd : decide (s < 0) = true := by simp; omega
    go_enter Try.func35, Try.ntmps35
    go_wp2
    go_ret
    exact ⟨rfl, 0, rfl⟩
end Go.Proofs.Ytjemkbjofebinaa
