/-
  Layer 23: Next, the document's. Conditions are each theorem's own.
-/
import Derived.Test.YtghbliabmecbcaaSnA
namespace Go.Proofs.Ytghbliabmecbcaa
open Go.RowKit
set_option maxRecDepth 100000 in
set_option maxHeartbeats 4000000 in
theorem rnext (s : Int) (o : Bool) (f : Int) (w : World) : Calls Try.prog 30 #[.int .i64 s, .bool o, .int .i64 f] w fun e w' => e = .returned (two (nxF s o f)) ∧ w = w' := by
  unfold nxF
  obtain ⟨S1, k1⟩ : ∃ x, bits .and .i64 f 1 = x := ⟨_, rfl⟩
  obtain ⟨S4, k4⟩ : ∃ x, bits .and .i64 f 4 = x := ⟨_, rfl⟩
  have H1 := Lib.hid (show bt f 1 = (S1 != 0) by rw [bt, k1])
  have H4 := Lib.hid (show bt f 4 = (S4 != 0) by rw [bt, k4])
  obtain ⟨x2, h2⟩ : ∃ x, bt f 2 = x := ⟨_, rfl⟩
  have H2 := Lib.hid h2
  rw [h2, H1.out, H4.out]
  clear h2 H1
  by_cases h0 : s < 0
  · have d0 : decide (s < 0) = true := by simp [h0]
    have HE := Lib.hid (show nxS s o (S1 != 0) x2 (S4 != 0) = (0, false) by rw [nxS, d0]; rfl)
    go_enter Try.func30, Try.ntmps30
    go_wp2_with fail
    exact bodyPost_ret (results_tmp2 rfl _ _ _) rfl ⟨by rw [HE.out]; rfl, rfl⟩
  have d0 : decide (s < 0) = false := by simp; omega
  by_cases h6 : 6 < s
  · have d6 : decide (6 < s) = true := by simp [h6]
    have HE := Lib.hid (show nxS s o (S1 != 0) x2 (S4 != 0) = (0, false) by rw [nxS, d0, d6]; rfl)
    go_enter Try.func30, Try.ntmps30
    go_wp2_with fail
    exact bodyPost_ret (results_tmp2 rfl _ _ _) rfl ⟨by rw [HE.out]; rfl, rfl⟩
  rcases seven (by omega : 0 ≤ s) (by omega) with rfl | rfl | rfl | rfl | rfl | rfl | rfl <;> clear h0 h6 d0 <;> cases e1 : (S1 != 0) <;> cases e4 : (S4 != 0) <;> cases o <;> cases x2
  all_goals
    rw [e4] at H4
    go_enter Try.func30, Try.ntmps30
    go_wp2_with (first
      | (go_at_call 65; refine (rbegins _ _).mono ?_; rintro e w1 ⟨rfl, rfl⟩; rw [H2.out, H4.out])
      | (go_at_call 66; refine (rside _ _ _ _).mono ?_; rintro e w1 ⟨rfl, rfl⟩))
    exact bodyPost_ret (results_tmp2 rfl _ _ _) rfl ⟨rfl, rfl⟩
end Go.Proofs.Ytghbliabmecbcaa
