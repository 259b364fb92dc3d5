/-
  Contract of the document's plain answer of layer 4 for Parse. Conditions are each theorem's own.
-/
import Derived.Test.YtokcelbpiglieaaDoorSixU
namespace Go.Proofs.YtokcelbpiglieaaDoor
open Go.RowKit

theorem pst6_58 {k n : Nat} {a : List UInt8} {c : UInt8} (h : c.toNat = 58) (hk : k + 1 ≤ 7) : pst6 (some ⟨k, n, a⟩) c = some ⟨k + 1, 0, setw a (k + 1) 0⟩ := by
  have : c = 58 := UInt8.toNat_inj.1 h
  simp only [pst6, this, if_true, if_pos hk]
theorem pst6_val {k n d : Nat} {a : List UInt8} {c : UInt8} (h : c.toNat ≠ 58) (hv : val1 c = some d) (hk : k ≤ 7) (hn : n * 16 + d ≤ 65535) : pst6 (some ⟨k, n, a⟩) c = some ⟨k, n * 16 + d, setw a k (n * 16 + d)⟩ := by
  have h58 : c ≠ 58 := fun e => h (by rw [e]; rfl)
  simp only [pst6, h58, if_false, hv, if_pos (And.intro hk hn)]
theorem pst6_no {k n : Nat} {a : List UInt8} {c : UInt8} (h : (c.toNat = 58 ∧ 7 < k + 1) ∨ (c.toNat ≠ 58 ∧ val1 c = none) ∨ (c.toNat ≠ 58 ∧ ∃ d, val1 c = some d ∧ 65535 < n * 16 + d)) : pst6 (some ⟨k, n, a⟩) c = none := by
  rcases h with ⟨h, hk⟩ | ⟨h, hv⟩ | ⟨h, d, hv, hn⟩
  · have : c = 58 := UInt8.toNat_inj.1 h
    simp only [pst6, this, if_true]; rw [if_neg (by omega)]
  · have h58 : c ≠ 58 := fun e => h (by rw [e]; rfl)
    simp only [pst6, h58, if_false, hv]
  · have h58 : c ≠ 58 := fun e => h (by rw [e]; rfl)
    simp only [pst6, h58, if_false, hv]; rw [if_neg (by omega)]

theorem valI_some {c : UInt8} {d : Nat} (h : val1 c = some d) : valI c = (d : Int) := by simp [valI, h]
theorem valI_none {c : UInt8} (h : val1 c = none) : valI c = -1 := by simp [valI, h]
theorem val1_lt {c : UInt8} {d : Nat} (h : val1 c = some d) : d < 16 := by
  unfold val1 at h
  split at h
  · simp at h; omega
  · split at h
    · simp at h; omega
    · cases h

set_option maxRecDepth 100000 in
set_option maxHeartbeats 2000000 in
theorem r4parse (s : ByteArray) (w : World) (hs : s.size ≤ 9223372036854775807) :
    Calls Tryd.prog 30 #[.string s] w fun e w' => e = .returned (.tuple #[.agg (cel (parV6 s.data.toList)), .int .i64 (parE6 s.data.toList)]) ∧ Below w.heap.size w w' := by
  have hsz : s.data.toList.length = s.size := rfl
  obtain ⟨l, hl⟩ : ∃ l, l = s.data.toList := ⟨_, rfl⟩
  rw [← hl] at hsz ⊢
  have Hl := Lib.hid hl
  have Hsz := Lib.hid hsz
  clear hl hsz
  have heap1 : (w.alloc (.cells (cel nul) 31)).heap.size = w.heap.size + 1 := by simp
  have hgR : ∀ o, ((w.alloc (.cells (cel nul) 31)).alloc o).heap[w.heap.size]? = some (.cells (cel nul) 31) := fun o => by
    rw [Below.heap_alloc _ _ _ (by simp)]; exact World.alloc_heap_new w _
  by_cases h39 : 39 < s.size
  · have HN := Lib.hid (par6_long (s := l) (by rw [Hsz.out]; exact h39))
    go_enter Tryd.func30, Tryd.ntmps30
    go_wp2_with ((with_reducible show wpList _ _ _ (Oper.mk _ (Op.store _ _ _) _ _ _ _ :: _) _ _); refine six_store (g := w.heap.size) (cs := nul) rfl rfl (hgR _) rfl rfl ?_)
    exact bodyPost_ret (six_result2 (cs := nul) rfl rfl (setRow_heap _ _ _ _ _ _ (hgR _)) rfl) rfl ⟨by rw [HN.out.1, HN.out.2]; rfl, below_setRow (below_two _ _ _) (Nat.le_refl _) _⟩
  · go_enter Tryd.func30, Tryd.ntmps30
    go_wp2_with fail
    go_loopw [5, 6, 7] (fun p n i wr => ∃ (k K N : Nat) (F : List UInt8), k ≤ s.size ∧ K ≤ 7 ∧ N ≤ 65535 ∧ F.length = 16 ∧ Hid (pfold6 (some ⟨0, 0, nul⟩) (l.take k) = some ⟨K, N, F⟩) ∧
      p = .int .i64 (K : Int) ∧ n = .int .i64 (N : Int) ∧ i = .int .i64 (k : Int) ∧ wr = (w.alloc (.cells (cel nul) 31)).alloc (.cells (cel F) 31)) (fun _ _ i _ => s.size - (intOf i).toNat)
    case atStart => exact ⟨0, 0, 0, nul, Nat.zero_le _, by omega, by omega, rfl, Lib.hid rfl, rfl, rfl, rfl, rfl⟩
    case round =>
      obtain ⟨k, K, N, F, hk, hK, hN, hF, HF, rfl, rfl, rfl, rfl⟩ := hrel
      have hgR := hgR (.cells (cel F) 31)
      by_cases hlt : k < s.size
      · have HS : Hid (pfold6 (some ⟨0, 0, nul⟩) (l.take (k + 1)) = pst6 (some ⟨K, N, F⟩) s[k]) := Lib.hid (by
          have hk' : k < l.length := by rw [Hsz.out]; exact hlt
          rw [pfold6_take hk', HF.out]
          congr 1
          have := Hl.out
          subst this
          rfl)
        by_cases c58 : s[k].toNat = 58
        · have t58 : ((s[k].toNat : Int) == 58) = true := by simp [c58]
          by_cases hov : K + 1 ≤ 7
          · have HQ : Hid (pfold6 (some ⟨0, 0, nul⟩) (l.take (k + 1)) = some ⟨K + 1, 0, setw F (K + 1) 0⟩) := Lib.hid (by rw [HS.out]; exact pst6_58 c58 hov)
            have g1 := cel_get F (show 2 * (K + 1) < F.length by omega)
            have g2 := cel_get F (show 2 * (K + 1) + 1 < F.length by omega)
            have HC := Lib.hid (cel_setw_int F (K + 1) (n := 0) (by omega))
            clear c58 HS HF
            go_wp2_with fail
            go_roundw
            case rel => exact ⟨k + 1, K + 1, 0, setw F (K + 1) 0, by omega, by omega, by omega, by rw [setw_length]; exact hF, HQ, by simp, rfl, by simp, by rw [HC.out]; rfl⟩
            case measure => simp [intOf]; omega
          · have HN := Lib.hid (par6_none (s := l) (k := k + 1) (by rw [HS.out]; exact pst6_no (by omega)))
            clear c58 HS HF
            go_wp2_with ((with_reducible show wpList _ _ _ (Oper.mk _ (Op.store _ _ _) _ _ _ _ :: _) _ _); refine six_store (g := w.heap.size) (cs := nul) rfl rfl hgR rfl rfl ?_)
            exact bodyPost_ret (six_result2 (cs := nul) rfl rfl (setRow_heap _ _ _ _ _ _ hgR) rfl) rfl ⟨by rw [HN.out.1, HN.out.2]; rfl, below_setRow (below_two _ _ _) (Nat.le_refl _) _⟩
        · have t58 : ((s[k].toNat : Int) == 58) = false := by rw [beq_eq_false_iff_ne]; omega
          cases hv : val1 s[k] with
          | none =>
            have HN := Lib.hid (par6_none (s := l) (k := k + 1) (by rw [HS.out]; exact pst6_no (.inr (.inl ⟨c58, hv⟩))))
            have HV := Lib.hid (valI_none hv)
            clear c58 HS HF hv
            go_wp2_with (first
              | ((with_reducible show wpList _ _ _ (Oper.mk _ (Op.store _ _ _) _ _ _ _ :: _) _ _); refine six_store (g := w.heap.size) (cs := nul) rfl rfl hgR rfl rfl ?_)
              | (go_at_call 43; refine (r4value _ s[k] rfl _).mono ?_; rintro e w' ⟨rfl, rfl⟩; rw [HV.out]))
            exact bodyPost_ret (six_result2 (cs := nul) rfl rfl (setRow_heap _ _ _ _ _ _ hgR) rfl) rfl ⟨by rw [HN.out.1, HN.out.2]; rfl, below_setRow (below_two _ _ _) (Nat.le_refl _) _⟩
          | some d =>
            have HV := Lib.hid (valI_some hv)
            have hd := val1_lt hv
            by_cases hov : N * 16 + d ≤ 65535
            · have HQ : Hid (pfold6 (some ⟨0, 0, nul⟩) (l.take (k + 1)) = some ⟨K, N * 16 + d, setw F K (N * 16 + d)⟩) := Lib.hid (by rw [HS.out]; exact pst6_val c58 hv hK hov)
              have g1 := cel_get F (show 2 * K < F.length by omega)
              have g2 := cel_get F (show 2 * K + 1 < F.length by omega)
              have HC := Lib.hid (cel_setw_int F K (n := N * 16 + d) (by omega))
              clear c58 HS HF hv
              go_wp2_with (go_at_call 43; refine (r4value _ s[k] rfl _).mono ?_; rintro e w' ⟨rfl, rfl⟩; rw [HV.out])
              go_roundw
              case rel => exact ⟨k + 1, K, N * 16 + d, setw F K (N * 16 + d), by omega, by omega, by omega, by rw [setw_length]; exact hF, HQ, rfl, by simp, by simp, by rw [HC.out]; simp⟩
              case measure => simp [intOf]; omega
            · have HN := Lib.hid (par6_none (s := l) (k := k + 1) (by rw [HS.out]; exact pst6_no (.inr (.inr ⟨c58, d, hv, by omega⟩))))
              clear c58 HS HF hv
              go_wp2_with (first
                | ((with_reducible show wpList _ _ _ (Oper.mk _ (Op.store _ _ _) _ _ _ _ :: _) _ _); refine six_store (g := w.heap.size) (cs := nul) rfl rfl hgR rfl rfl ?_)
                | (go_at_call 43; refine (r4value _ s[k] rfl _).mono ?_; rintro e w' ⟨rfl, rfl⟩; rw [HV.out]))
              exact bodyPost_ret (six_result2 (cs := nul) rfl rfl (setRow_heap _ _ _ _ _ _ hgR) rfl) rfl ⟨by rw [HN.out.1, HN.out.2]; rfl, below_setRow (below_two _ _ _) (Nat.le_refl _) _⟩
      · obtain rfl : k = s.size := by omega
        have HE := Lib.hid (par6_end (s := l) hF (by have := HF.out; rwa [List.take_of_length_le (by rw [Hsz.out]; exact Nat.le_refl _)] at this))
        have HT : Hid (s = strB l) := Lib.hid (by have := Hl.out; subst this; rfl)
        have hgA := World.alloc_heap_new (w.alloc (.cells (cel nul) 31)) (.cells (cel F) 31)
        rw [heap1] at hgA
        have hbig : ((w.alloc (.cells (cel nul) 31)).alloc (.cells (cel F) 31)).heap.size = w.heap.size + 2 := by simp
        by_cases ht : tx6 F 8 = l
        · have hq : ((strB (tx6 F 8)).toList == s.toList) = true := by rw [HT.out, strB_eq]; simpa using ht
          have HN := Lib.hid (HE.out.1 ht)
          clear ht HF HE
          go_wp2_with (first
            | ((with_reducible show wpList _ _ _ (Oper.mk _ (Op.load _ _) _ _ _ _ :: _) _ _); refine six_load (g := w.heap.size + 1) rfl hgA hF ?_)
            | ((with_reducible show wpList _ _ _ (Oper.mk _ (Op.load _ _) _ _ _ _ :: _) _ _); refine six_load (g := w.heap.size + 1) rfl hgA2 hF ?_)
            | ((with_reducible show wpList _ _ _ (Oper.mk _ (Op.store _ _ _) _ _ _ _ :: _) _ _); refine six_store (g := w.heap.size) (cs := F) rfl rfl hgR2 rfl hF ?_)
            | (go_at_call 22; refine (r4text F hF _).mono ?_; rintro e w2 ⟨rfl, hb2⟩;
               have hgA2 := (hb2.block _ (by rw [hbig]; omega)).trans hgA;
               have hgR2 := (hb2.block _ (by rw [hbig]; omega)).trans hgR;
               rw [hbig] at hb2))
          exact bodyPost_ret (six_result2 (cs := F) rfl rfl (setRow_heap _ _ _ _ _ _ hgR2) hF) rfl ⟨by rw [HN.out.1, HN.out.2]; rfl, below_setRow ((below_two w _ _).trans (hb2.mono (by omega))) (Nat.le_refl _) _⟩
        · have hq : ((strB (tx6 F 8)).toList == s.toList) = false := by rw [HT.out, strB_eq]; simpa using ht
          have HN := Lib.hid (HE.out.2 ht)
          clear ht HF HE
          go_wp2_with (first
            | ((with_reducible show wpList _ _ _ (Oper.mk _ (Op.load _ _) _ _ _ _ :: _) _ _); refine six_load (g := w.heap.size + 1) rfl hgA hF ?_)
            | ((with_reducible show wpList _ _ _ (Oper.mk _ (Op.store _ _ _) _ _ _ _ :: _) _ _); refine six_store (g := w.heap.size) (cs := nul) rfl rfl hgR2 rfl rfl ?_)
            | (go_at_call 22; refine (r4text F hF _).mono ?_; rintro e w2 ⟨rfl, hb2⟩;
               have hgR2 := (hb2.block _ (by rw [hbig]; omega)).trans hgR;
               rw [hbig] at hb2))
          exact bodyPost_ret (six_result2 (cs := nul) rfl rfl (setRow_heap _ _ _ _ _ _ hgR2) rfl) rfl ⟨by rw [HN.out.1, HN.out.2]; rfl, below_setRow ((below_two w _ _).trans (hb2.mono (by omega))) (Nat.le_refl _) _⟩
end Go.Proofs.YtokcelbpiglieaaDoor
