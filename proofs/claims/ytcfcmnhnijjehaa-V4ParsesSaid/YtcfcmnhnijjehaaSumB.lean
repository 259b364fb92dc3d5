/-
  Contracts of the document's plain answers of layer 2: Add, Of, Right, Change. Conditions are each theorem's own.
-/
import Derived.Test.YtcfcmnhnijjehaaSumA
namespace Go.Proofs.Ytcfcmnhnijjehaa
open Go.RowKit

theorem rword_j (A : Option Addr) (bs : List UInt8) (c B j m : Nat) (hj : Hid (j = 2 * m)) (w : World) (h : Rd w B A bs) (hi : j < bs.length) (hl : bs.length ≤ 1099511627776) :
    Calls Try.prog 82 #[.slice A bs.length c, .int .i64 (j : Int)] w fun e w' => e = .returned (.int .i64 (wrd bs m)) ∧ ∃ n, w' = w.drewN n := by
  have h1 := rword_any A bs c B j w h hi hl
  have e : byt bs j * 256 + byt bs (j + 1) = wrd bs m := by rw [wrd, ← hj.out]
  rw [e] at h1
  exact h1

set_option maxHeartbeats 2000000 in
theorem radd_any (A : Option Addr) (ps : List (List UInt8)) (c B : Nat) (w : World) (h : Rd2 w B A ps) (hl : bulk ps ≤ 1099511627000) (hn : ps.length ≤ 1099511627000) :
    Calls Try.prog 62 #[.slice A ps.length c] w fun e w' => e = .returned (.int .i64 (fold (psum ps))) ∧ ∃ n, w' = w.drewN n := by
  go_enter Try.func62, Try.ntmps62
  go_wp2
  go_loopw [3, 4] (fun v i wr => ∃ k q : Nat, k ≤ ps.length ∧ i = .int .i64 (k : Int) ∧ v = .int .i64 (psum (ps.take k)) ∧ wr = w.drewN q) (fun _ i _ => ps.length - (intOf i).toNat)
  case atStart => exact ⟨0, 0, Nat.zero_le _, rfl, by simp [psum], rfl⟩
  case round =>
    obtain ⟨k, q, hk, rfl, rfl, rfl⟩ := hrel
    have hbd := psum_bd (ps.take k)
    have hbl := bulk_le ps k
    by_cases hlt : k < ps.length
    · obtain ⟨bs, hbs⟩ : ∃ bs, ps[k]? = some bs := ⟨_, List.getElem?_eq_getElem hlt⟩
      obtain ⟨b, off, rfl, hbB, hcell⟩ := h (by omega)
      obtain ⟨Aj, cj, hcj, harg⟩ := hcell k bs hbs
      have hr := harg.rd
      have hlen := len_bulk hbs
      have hcap := harg.cap
      have Hps := Lib.hid (psum_take ps hbs)
      clear hcell hbs h harg
      obtain ⟨S, hS⟩ : ∃ S, S = psum (ps.take k) := ⟨_, rfl⟩
      rw [← hS] at hbd
      have HS := Lib.hid hS
      rw [← hS]
      clear hS
      go_wp2
      go_loopw [3, 5] (fun v i wr => ∃ j m q : Nat, Hid (j = 2 * m) ∧ m ≤ prs bs.length ∧ i = .int .i64 (j : Int) ∧ v = .int .i64 (S + wsum bs m) ∧ wr = w.drewN q) (fun _ i _ => (bs.length + 2) - (intOf i).toNat)
      case atStart => exact ⟨0, 0, q, Lib.hid rfl, Nat.zero_le _, rfl, by simp [wsum], rfl⟩
      case round =>
        obtain ⟨j, m, q, Hj, hm, rfl, rfl, rfl⟩ := hrel
        have hws := wsum_bd bs m
        have hx := wrd_bd bs m
        have hml : m ≤ bs.length + 1 := by unfold prs at hm; omega
        have hjl : j ≤ bs.length + 1 := by have := Hj.out; unfold prs at hm; omega
        by_cases hlt2 : j < bs.length
        · have HW := Lib.hid (wsum_succ bs m)
          generalize wsum bs m = T at *
          go_wp2_with (go_at_call 82; refine (rword_j Aj bs cj B j m Hj _ (hr.drewN _) hlt2 (by omega)).mono ?_; rintro e w' ⟨rfl, n, rfl⟩)
          go_roundw
          case rel => exact ⟨j + 2, m + 1, q + n, Lib.hid (by have := Hj.out; omega), by have := Hj.out; unfold prs; omega, by simp, by rw [HW.out, Int.add_assoc], rfl⟩
          case measure => simp [intOf]; omega
        · go_wp2
          go_roundw
          case rel =>
            have e : m = prs bs.length := by have := Hj.out; unfold prs at hm ⊢; omega
            exact ⟨k + 1, q, by omega, by simp, by rw [Hps.out, ← HS.out, wall, e], rfl⟩
          case measure => simp [intOf]; omega
    · obtain rfl : k = ps.length := by omega
      have hb0 := psum_bd ps
      go_wp2_with (go_at_call 83; refine (rfold_any _ _ (by omega)).mono ?_; rintro e w' ⟨rfl, rfl⟩)
      go_ret
      exact ⟨rfl, q, rfl⟩

theorem rof_any (A : Option Addr) (ps : List (List UInt8)) (c B : Nat) (w : World) (h : Rd2 w B A ps) (hl : bulk ps ≤ 1099511627000) (hn : ps.length ≤ 1099511627000) :
    Calls Try.prog 50 #[.slice A ps.length c] w fun e w' => e = .returned (.int .i64 (65535 - fold (psum ps))) ∧ ∃ n, w' = w.drewN n := by
  have hf := fold_bd (psum ps)
  go_enter Try.func50, Try.ntmps50
  go_wp2_with (go_at_call 62; refine (radd_any A ps c B _ h hl hn).mono ?_; rintro e w1 ⟨rfl, n, rfl⟩)
  go_ret
  exact ⟨rfl, n, rfl⟩

theorem rright_any (A : Option Addr) (ps : List (List UInt8)) (c B : Nat) (w : World) (h : Rd2 w B A ps) (hl : bulk ps ≤ 1099511627000) (hn : ps.length ≤ 1099511627000) :
    Calls Try.prog 31 #[.slice A ps.length c] w fun e w' => e = .returned (.bool (rightB ps)) ∧ ∃ n, w' = w.drewN n := by
  go_enter Try.func31, Try.ntmps31
  go_wp2_with (go_at_call 62; refine (radd_any A ps c B _ h hl hn).mono ?_; rintro e w1 ⟨rfl, n, rfl⟩)
  go_ret
  exact ⟨rfl, n, rfl⟩

end Go.Proofs.Ytcfcmnhnijjehaa
