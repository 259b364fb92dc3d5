/-
  Contracts of the document's plain answers of layer 4: Text. Conditions are each theorem's own.
-/
import Derived.Test.YtokcelbpiglieaaDoorSixT
import Derived.Deep.QuietTactic
import Derived.BigQuiet
namespace Go.Proofs.YtokcelbpiglieaaDoor
open Go.RowKit

set_option maxRecDepth 100000 in
set_option maxHeartbeats 1000000 in
theorem r4text (a : List UInt8) (ha : a.length = 16) (w : World) :
    Calls Tryd.prog 22 #[.agg (cel a)] w fun e w' => e = .returned (.string (strB (tx6 a 8))) ∧ Below w.heap.size w w' := by
  have hX : ∀ j, j < 16 → (w.alloc (.cells (cel a) 31)).cell? ⟨w.heap.size, j, none⟩ = some (.int .u8 (byt a j)) := fun j h => by rw [World.cell?_alloc_new]; exact cel_get a (by omega)
  have hB := (Below.refl w.heap.size w).alloc (Nat.le_refl _) (.cells (cel a) 31)
  go_enter Tryd.func22, Tryd.ntmps22
  go_wp2
  generalize w.alloc (.cells (cel a) 31) = W at *
  go_loopw [3, 4] (fun s i wr => ∃ k q : Nat, k ≤ 8 ∧ s = .string (strB (tx6 a k)) ∧ i = .int .i64 (k : Int) ∧ wr = W.drewN q) (fun _ i _ => 8 - (intOf i).toNat)
  case atStart => exact ⟨0, 0, Nat.zero_le _, rfl, rfl, rfl⟩
  case round =>
    obtain ⟨k, q, hk, rfl, rfl, hwr⟩ := hrel
    by_cases hlt : k < 8
    · have hx : wr.cell? ⟨w.heap.size, 2 * k, none⟩ = some (.int .u8 (byt a (2 * k))) := by rw [hwr]; exact hX (2 * k) (by omega)
      have hy : wr.cell? ⟨w.heap.size, 2 * k + 1, none⟩ = some (.int .u8 (byt a (2 * k + 1))) := by rw [hwr]; exact hX (2 * k + 1) (by omega)
      have hw6 := wrd6_byt a k
      have hn := wrd6_lt a k
      have b1 := byt_lo a (2 * k); have b2 := byt_hi a (2 * k); have b3 := byt_lo a (2 * k + 1); have b4 := byt_hi a (2 * k + 1)
      have hl := tx6_len a k
      have hl2 := @hexs_len (wrd6 a k)
      obtain ⟨n, hn'⟩ : ∃ n, n = wrd6 a k := ⟨_, rfl⟩
      obtain ⟨T, hT⟩ : ∃ T, T = tx6 a k ++ sep k := ⟨_, rfl⟩
      obtain ⟨U, hU⟩ : ∃ U, U = tx6 a (k + 1) := ⟨_, rfl⟩
      have hUT : U = T ++ hexs n := by rw [hU, hT, hn']; rfl
      have hTl : T.length ≤ 41 := by have := sep_len k; rw [hT, List.length_append]; omega
      rw [← hn'] at hn hw6 hl2
      obtain ⟨S, hS⟩ : ∃ S, S = tx6 a k := ⟨_, rfl⟩
      rw [← hS] at hT hl ⊢
      have k2 : ∀ w, (Op.stringOp .add (strB T) (strB (hexs n))).run Tryd.prog w = .ok (.string (strB U)) w := fun w => by rw [hUT]; exact sadd _ _ (by omega) w
      have k1 : 0 < k → ∀ w, (Op.stringOp .add (strB S) (⟨#[58]⟩ : ByteArray)).run Tryd.prog w = .ok (.string (strB T)) w := fun h w => by
        rw [hT, sep, if_neg (by omega)]; exact sadd S [58] (by simp; omega) w
      have k0 : k = 0 → S = T := fun h => by rw [hT, sep, if_pos h, List.append_nil]
      have HU := Lib.hid hU
      have Hwr := Lib.hid hwr
      generalize byt a (2 * k) = x at *
      generalize byt a (2 * k + 1) = y at *
      clear hT hU hUT hX hn' hS hwr
      have s0 : IntKind.i64.wrap (2 * (k : Int)) = 2 * (k : Int) := IntWalk.i64_in _ (by omega)
      have s1 : IntKind.i64.wrap (2 * (k : Int) + 1) = 2 * (k : Int) + 1 := IntWalk.i64_in _ (by omega)
      have s2 : (2 * (k : Int)).toNat = 2 * k := by omega
      have s3 : (2 * (k : Int) + 1).toNat = 2 * k + 1 := by omega
      have s4 : IntKind.i64.wrap (x * 256) = x * 256 := IntWalk.i64_in _ (by omega)
      have s5 : IntKind.i64.wrap (x * 256 + y) = x * 256 + y := IntWalk.i64_in _ (by omega)
      have s6 : (0 : Int) ≤ 2 * (k : Int) + 1 := by omega
      have s7 : 2 * (k : Int) + 1 < 16 := by omega
      have s8 : 2 * (k : Int) < 16 := by omega
      have s9 : (0 : Int) ≤ 2 * (k : Int) := by omega
      by_cases hk0 : k = 0
      · have e := k0 hk0
        have hd : decide (0 < k) = false := by simp; omega
        rw [e]
        clear k1 k0 e hk0
        go_wp2
        go_quiet ((go_at_call 41; refine (r4digits _ n hw6.symm _ hn).mono ?_; rintro e w' ⟨rfl, rfl⟩; exact ⟨rfl, _, rfl⟩))
        clear s0 s1 s2 s3 s4 s5 s6 s7 s8 s9
        go_wp2
        go_roundw
        case rel => exact ⟨k + 1, q + nq, by omega, by rw [HU.out], by simp, by rw [Hwr.out, World.drewN_drewN]⟩
        case measure => simp [intOf]; omega
      · have k1' := k1 (by omega)
        have hd : decide (0 < k) = true := by simp; omega
        clear k1 k0 hk0
        go_wp2
        go_quiet ((go_at_call 41; refine (r4digits _ n hw6.symm _ hn).mono ?_; rintro e w' ⟨rfl, rfl⟩; exact ⟨rfl, _, rfl⟩))
        clear s0 s1 s2 s3 s4 s5 s6 s7 s8 s9
        go_wp2
        go_roundw
        case rel => exact ⟨k + 1, q + nq, by omega, by rw [HU.out], by simp, by rw [Hwr.out, World.drewN_drewN]⟩
        case measure => simp [intOf]; omega
    · obtain rfl : k = 8 := by omega
      subst hwr
      go_wp2
      go_ret
      exact ⟨rfl, below_n hB _⟩
end Go.Proofs.YtokcelbpiglieaaDoor
