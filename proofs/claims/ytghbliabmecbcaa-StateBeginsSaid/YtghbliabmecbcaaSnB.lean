/-
  Layer 23: Next, the code's. Conditions are each theorem's own.
-/
import Derived.Test.YtghbliabmecbcaaSnA
namespace Go.Proofs.Ytghbliabmecbcaa
open Go.RowKit
set_option maxRecDepth 100000 in
set_option maxHeartbeats 4000000 in
theorem cnext (s : Int) (o : Bool) (f : Int) (w : World) : Calls Try.prog 29 #[.int .i64 s, .bool o, .int .i64 f] w fun e w' => e = .returned (two (nxF s o f)) ∧ w = w' := by
  unfold nxF
  obtain ⟨x1, h1⟩ : ∃ x, bt f 1 = x := ⟨_, rfl⟩
  obtain ⟨x2, h2⟩ : ∃ x, bt f 2 = x := ⟨_, rfl⟩
  obtain ⟨x4, h4⟩ : ∃ x, bt f 4 = x := ⟨_, rfl⟩
  have H1 := Lib.hid h1; have H2 := Lib.hid h2; have H4 := Lib.hid h4
  rw [h1, h2, h4]
  clear h1 h2 h4
  by_cases h0 : s < 0
  · have d0 : decide (s < 0) = true := by simp [h0]
    have HE := Lib.hid (show nxS s o x1 x2 x4 = (0, false) by rw [nxS, d0]; rfl)
    go_enter Try.func29, Try.ntmps29
    go_wp2_with fail
    exact bodyPost_ret (results_tmp2 rfl _ _ _) rfl ⟨by rw [HE.out]; rfl, rfl⟩
  have d0 : decide (s < 0) = false := by simp; omega
  by_cases h6 : 6 < s
  · have d6 : decide (6 < s) = true := by simp [h6]
    have HE := Lib.hid (show nxS s o x1 x2 x4 = (0, false) by rw [nxS, d0, d6]; rfl)
    go_enter Try.func29, Try.ntmps29
    go_wp2_with fail
    exact bodyPost_ret (results_tmp2 rfl _ _ _) rfl ⟨by rw [HE.out]; rfl, rfl⟩
  have d6 : decide (6 < s) = false := by simp; omega
  have HB : Hid (∀ W, Calls Try.prog 64 #[.int .i64 s, .bool o, .int .i64 f] W fun e w' => e = .returned (.int .i64 (bhS s o x1 x2 x4)) ∧ W = w') := Lib.hid fun W => by
    have := cbehind s o f W (by omega) (by omega)
    rw [H1.out, H2.out, H4.out] at this
    exact this
  obtain ⟨B, hB⟩ : ∃ B, bhS s o x1 x2 x4 = B := ⟨_, rfl⟩
  rw [hB] at HB
  have hn : nxS s o x1 x2 x4 = if s == 0 && !(x2 && !x4) then (0, false) else (B, true) := by
    rw [nxS, d0, d6, hB]; rfl
  clear hB
  cases hz : (s == 0) <;> cases x2 <;> cases x4
  all_goals
    have HE := Lib.hid hn
    rw [hz] at HE
    clear hn
    go_enter Try.func29, Try.ntmps29
    go_wp2_with (first
      | (go_at_call 63; refine (cbegins _ _).mono ?_; rintro e w1 ⟨rfl, rfl⟩; rw [H2.out, H4.out])
      | (go_at_call 64; refine (HB.out _).mono ?_; rintro e w1 ⟨rfl, rfl⟩))
    exact bodyPost_ret (results_tmp2 rfl _ _ _) rfl ⟨by rw [HE.out]; rfl, rfl⟩
end Go.Proofs.Ytghbliabmecbcaa
