/-
  Contracts and lemmas on which the proofs of this seat stand (several texts in one). Conditions are each theorem's own.
-/
import Derived.Test.YtjgcpaepaocigaaWb2
import Derived.Test.YtjgcpaepaocigaaWb1
import Derived.WalkMore

/-
  leave of layer 17: a timer leaves its slot, wherever in it it stands. Conditions are each theorem's own.
-/
namespace Go.Proofs.Ytjgcpaepaocigaa
open Go.RowKit Go.Shelf Go.Maps Go.WideMaps
theorem cut_app {A C A2 C2 : List Te} {x : Te} (h : A ++ C = A2 ++ x :: C2) : (∃ C3, A = A2 ++ x :: C3 ∧ C2 = C3 ++ C) ∨ ∃ A3, C = A3 ++ x :: C2 ∧ A2 = A ++ A3 := by
  rcases List.append_eq_append_iff.1 h with ⟨a', h1, h2⟩ | ⟨c', h1, h2⟩
  · exact .inr ⟨a', h2, h1⟩
  · cases c' with
    | nil => exact .inr ⟨[], by simpa using h2.symm, by simpa using h1.symm⟩
    | cons y c' =>
      rw [List.cons_append] at h2
      injection h2 with h3 h4
      subst h3
      exact .inl ⟨c', h1, h4⟩
section
variable {w w' : World} {d M : Nat} {most now : Int} {E A C : List Te} {e : Te} {q : Nat}
theorem nd_elem (h : ((A ++ e :: C).map (·.b)).Nodup) : (A ++ e :: C).Nodup := (List.pairwise_map.1 h).imp (fun h e => h (congrArg _ e))
/-- What is left. -/
theorem Wg.left (h : Wg w d M most now E) (hs : sl E q = A ++ e :: C) (hob : ∃ cs : Array Value, w'.heap[d]? = some (.cells cs 64 (0, 0)) ∧ cs.size = 899 ∧ (∀ k, k < 448 → cs[2 * k]? = some (.pointer (pE (sl (dr E e.b) k).head?)) ∧ cs[2 * k + 1]? = some (.pointer (pE (sl (dr E e.b) k).getLast?))) ∧ cs[896]? = some (.map (some M)) ∧ cs[897]? = some (.int .i64 most) ∧ cs[898]? = some (.int .i64 now))
    (hz : ∀ A' z, A = A' ++ [z] → w'.heap[z.b]? = some (.cells (tmG z.id (z.a : Int) (some ⟨d, 2 * q, none⟩) (pE A'.getLast?) (pE C.head?)) 68 (0, 0)))
    (hy : ∀ y C', C = y :: C' → w'.heap[y.b]? = some (.cells (tmG y.id (y.a : Int) (some ⟨d, 2 * q, none⟩) (pE A.getLast?) (pE C'.head?)) 68 (0, 0)))
    (ho : ∀ x ∈ E, x ≠ e → (∀ A' z, A = A' ++ [z] → x ≠ z) → (∀ y C', C = y :: C' → x ≠ y) → w'.heap[x.b]? = w.heap[x.b]?) : Wg w' d M most now (dr E e.b) := by
  have hnd := nd_sl h.nd q
  rw [hs] at hnd
  have hn := nd_elem hnd
  have hin : ∀ x ∈ A ++ e :: C, x ∈ E ∧ x.q = q := fun x hx => sl_mem.1 (by rw [hs]; exact hx)
  refine ⟨hob, fun k A2 x C2 hk => ?_, dr_nd h.nd _, fun x hx => h.qs x (dr_mem.1 hx).1⟩
  rw [sl_dr h.nd hs] at hk
  split at hk
  · rename_i hkq
    subst hkq
    rcases cut_app hk with ⟨C3, hA, hC2⟩ | ⟨A3, hC, hA2⟩
    · subst hC2
      have hxE := (hin x (by rw [hA]; simp)).1
      cases C3 with
      | nil => exact hz A2 x hA
      | cons c C4 =>
        have h0 := h.tm k A2 x (c :: C4 ++ e :: C) (by rw [hs, hA]; simp)
        rw [ho x hxE (fun e2 => ?_) (fun A' z h2 e2 => ?_) (fun y C' h2 e2 => ?_), h0]
        · simp
        · rw [hA, e2] at hn
          simp [List.nodup_append, List.nodup_cons] at hn
        · rw [hA] at hn h2
          rcases List.eq_nil_or_concat (c :: C4) with h5 | ⟨C5, u, h5⟩
          · cases h5
          rw [List.concat_eq_append] at h5
          rw [h5, show A2 ++ x :: (C5 ++ [u]) = (A2 ++ x :: C5) ++ [u] by simp] at h2
          have h4 := (List.append_inj' h2 rfl).2
          injection h4 with h4
          rw [h5, h4, e2] at hn
          simp [List.nodup_append, List.nodup_cons] at hn
        · rw [hA, h2, e2] at hn
          simp [List.nodup_append, List.nodup_cons] at hn
    · subst hA2
      have hxE := (hin x (by rw [hC]; simp)).1
      rcases List.eq_nil_or_concat A3 with h5 | ⟨A4, u, h5⟩
      · subst h5
        rw [List.append_nil]
        exact hy x C2 hC
      · rw [List.concat_eq_append] at h5
        have h0 := h.tm k (A ++ e :: A3) x C2 (by rw [hs, hC]; simp)
        rw [ho x hxE (fun e2 => ?_) (fun A' z h2 e2 => ?_) (fun y C' h2 e2 => ?_), h0]
        · have e9 : (A ++ e :: A3).getLast? = (A ++ A3).getLast? := by
            rw [h5, show A ++ e :: (A4 ++ [u]) = (A ++ e :: A4) ++ [u] by simp, show A ++ (A4 ++ [u]) = (A ++ A4) ++ [u] by simp, List.getLast?_concat, List.getLast?_concat]
          rw [e9]
        · rw [hC, e2] at hn
          simp [List.nodup_append, List.nodup_cons] at hn
        · rw [hC, h2, e2] at hn
          simp [List.nodup_append, List.nodup_cons] at hn
        · rw [hC] at h2
          cases A3 with
          | nil => simp at h5
          | cons c A5 =>
            rw [List.cons_append] at h2
            injection h2 with h6 _
            rw [hC, e2, ← h6] at hn
            simp [List.nodup_append, List.nodup_cons] at hn
  · rename_i hkq
    have hx := sl_mem.1 (by rw [hk]; simp : x ∈ sl E k)
    rw [ho x hx.1 (fun e2 => ?_) (fun A' z h2 e2 => ?_) (fun y C' h2 e2 => ?_)]
    · exact h.tm k A2 x C2 hk
    · have := (hin e (by simp)).2
      rw [← e2, hx.2] at this
      exact hkq this
    · have := (hin z (by rw [h2]; simp)).2
      rw [← e2, hx.2] at this
      exact hkq this
    · have := (hin y (by rw [h2]; simp)).2
      rw [← e2, hx.2] at this
      exact hkq this
set_option maxRecDepth 100000 in
set_option maxHeartbeats 4000000 in
theorem wleaveG (h : Wg w d M most now E) (he : e ∈ E) :
    Calls Try.prog 28 #[.pointer (some ⟨e.b, 0, none⟩)] w fun x w' => x = .returned (.tuple #[]) ∧
      Wg w' d M most now (dr E e.b) ∧ w'.heap[e.b]? = some (.cells (tmG e.id (e.a : Int) none none none) 68 (0, 0)) ∧ Kept (fun k => k = d ∨ ∃ x ∈ E, k = x.b) w w' := by
  obtain ⟨A, C, hs⟩ := sl_split he
  have hq := h.qs e he
  obtain ⟨q, hqe⟩ : ∃ q, q = e.q := ⟨_, rfl⟩
  rw [← hqe] at hs hq
  have ht := h.tm q A e C hs
  have hbd := h.bne he
  have HD : Hid (∀ k, k ≠ q → sl (dr E e.b) k = sl E k) := Lib.hid (fun k hk => by rw [sl_dr h.nd hs, if_neg hk])
  have HQ2 : Hid (sl (dr E e.b) q = A ++ C) := Lib.hid (by rw [sl_dr h.nd hs, if_pos rfl])
  have HIN : Hid (∀ x ∈ A ++ e :: C, x ∈ E) := Lib.hid (fun x hx => (sl_mem.1 (by rw [hs]; exact hx)).1)
  have HND : Hid ((A ++ e :: C).Nodup) := Lib.hid (nd_elem (by have := nd_sl h.nd q; rwa [hs] at this))
  have HINJ : Hid (∀ x y, x ∈ E → y ∈ E → x.b = y.b → x = y) := Lib.hid (fun x y hx hy => nd_inj h.nd hx hy)
  have H := Lib.hid h
  have HQ := Lib.hid hq
  have HS := Lib.hid hs
  have HT := Lib.hid ht
  have HE := Lib.hid he
  have HL : Hid (∀ V, Kept (fun k => k ≠ e.b) w V → V.cell? ⟨e.b, 2, none⟩ = some (.pointer (some ⟨d, 2 * q, none⟩)) ∧ V.cell? ⟨e.b, 3, none⟩ = some (.pointer (pE A.getLast?)) ∧ V.cell? ⟨e.b, 4, none⟩ = some (.pointer (pE C.head?))) := Lib.hid (fun V hV => by
    have h9 := (hV.block e.b (heap_lt ht) (fun n => n rfl)).trans ht
    exact ⟨cells_at h9 rfl, cells_at h9 rfl, cells_at h9 rfl⟩)
  by_cases hA0 : A = []
  · by_cases hC0 : C = []
    · have hpA : pE A.getLast? = none := by rw [hA0]; rfl
      have HPA := Lib.hid hpA
      have HA := Lib.hid hA0
      have t3 : w.cell? ⟨e.b, 3, none⟩ = some (.pointer none) := by have := cells_at HT.out (i := 3) rfl; rw [hpA] at this; exact this
      have hpC : pE C.head? = none := by rw [hC0]; rfl
      have HPC := Lib.hid hpC
      have HC := Lib.hid hC0
      rw [hpA, hpC] at HL
      have HC1 : Hid (∃ v0, w.drew.cell? ⟨d, 2 * q, none⟩ = some v0) := Lib.hid ⟨_, H.out.c0 HQ.out⟩
      have HF1 : Hid (w.drew.frozen? ⟨d, 2 * q, none⟩ = false) := Lib.hid (H.out.fr (2 * q))
      obtain ⟨v1, hv1⟩ := HC1.out
      have HV1 := Lib.hid hv1
      clear h hs ht he hq hpA hpC hv1 HC1 hqe hA0 hC0
      go_enter Try.func28, Try.ntmps28
      go_upto_region 1 with fail
      obtain ⟨X1, hX1⟩ : ∃ X1, X1 = w := ⟨_, rfl⟩
      subst hX1
      refine wp_region_held_drew (S := fun w' => Kept (fun k => k ≠ e.b) X1 w') (by kernel_rfl) (Kept.drew X1) (fun hS => ?_)
      refine held_pure (i := 0) (oi := ⟨some 7, _, _, _, _, _⟩) rfl (by kernel_rfl) (by kernel_rfl) (by kernel_rfl) (fun _ _ _ h => h) (by rfl) (v := ?_) (fun w hSw => ?_) hS (fun hS => ?_)
      rotate_left
      · go_simp; try with_reducible rfl
      try go_frame
      refine held_pure (i := 1) (oi := ⟨some 8, _, _, _, _, _⟩) rfl (by kernel_rfl) (by kernel_rfl) (by kernel_rfl) (fun _ _ _ h => h) (by rfl) (v := ?_) (fun w hSw => ?_) hS (fun hS => ?_)
      rotate_left
      · go_simp; try with_reducible rfl
      try go_frame
      refine held_pure (i := 2) (oi := ⟨some 9, _, _, _, _, _⟩) rfl (by kernel_rfl) (by kernel_rfl) (by kernel_rfl) (fun _ _ _ h => h) (by rfl) (v := ?_) (fun w hSw => ?_) hS (fun hS => ?_)
      rotate_left
      · go_simp; try with_reducible rfl
      try go_frame
      refine held_pure (i := 3) (oi := ⟨some 10, _, _, _, _, _⟩) rfl (by kernel_rfl) (by kernel_rfl) (by kernel_rfl) (fun _ _ _ h => h) (by rfl) (fun w hSw => run_load_plW rfl rfl (HL.out _ hSw).1) hS (fun hS => ?_)
      try go_frame
      refine held_pure (i := 4) (oi := ⟨some 11, _, _, _, _, _⟩) rfl (by kernel_rfl) (by kernel_rfl) (by kernel_rfl) (fun _ _ _ h => h) (by rfl) (v := ?_) (fun w hSw => ?_) hS (fun hS => ?_)
      rotate_left
      · go_simp; try with_reducible rfl
      try go_frame
      refine held_pure (i := 5) (oi := ⟨some 12, _, _, _, _, _⟩) rfl (by kernel_rfl) (by kernel_rfl) (by kernel_rfl) (fun _ _ _ h => h) (by rfl) (v := ?_) (fun w hSw => ?_) hS (fun hS => ?_)
      rotate_left
      · go_simp; try with_reducible rfl
      try go_frame
      refine held_pure (i := 6) (oi := ⟨some 13, _, _, _, _, _⟩) rfl (by kernel_rfl) (by kernel_rfl) (by kernel_rfl) (fun _ _ _ h => h) (by rfl) (v := ?_) (fun w hSw => ?_) hS (fun hS => ?_)
      rotate_left
      · go_simp; try with_reducible rfl
      try go_frame
      refine held_pure (i := 7) (oi := ⟨some 14, _, _, _, _, _⟩) rfl (by kernel_rfl) (by kernel_rfl) (by kernel_rfl) (fun _ _ _ h => h) (by rfl) (fun w hSw => run_load_ptW rfl rfl (HL.out _ hSw).2.2) hS (fun hS => ?_)
      try go_frame
      refine held_pure (i := 8) (oi := ⟨some 15, _, _, _, _, _⟩) rfl (by kernel_rfl) (by kernel_rfl) (by kernel_rfl) (fun _ _ _ h => h) (by rfl) (v := ?_) (fun w hSw => ?_) hS (fun hS => ?_)
      rotate_left
      · go_simp; try with_reducible rfl
      try go_frame
      refine held_pure (i := 9) (oi := ⟨some 16, _, _, _, _, _⟩) rfl (by kernel_rfl) (by kernel_rfl) (by kernel_rfl) (fun _ _ _ h => h) (by rfl) (v := ?_) (fun w hSw => ?_) hS (fun hS => ?_)
      rotate_left
      · go_simp; try with_reducible rfl
      try go_frame
      refine wpAnyH_ready (rs := [10]) (by kernel_rfl) (by simp) (AllReadyH.cons (o := ⟨none, _, _, _, _, _⟩) rfl (fun K hK => ?_) AllReadyH.nil)
      rw [if_pos (by rfl)]
      refine store_ptW_wp rfl rfl rfl HV1.out HF1.out ?_
      refine hK.out _ _ ((Kept.drew X1).trans (Kept.setCell X1.drew d _ _) (fun k _ e => by rw [e]; exact (fun e2 => hbd e2.symm))) (fun hS => ?_)
      clear hK K
      try go_frame
      refine wpAnyH_done (by kernel_rfl) ?_ _
      have hX2 := hS
      obtain ⟨X2, hX2e⟩ : ∃ X2, X2 = X1.drew.setCell ⟨d, 2 * q, none⟩ (.pointer (none)) := ⟨_, rfl⟩
      have HX2 := Lib.hid hX2e
      rw [← hX2e] at hX2 ⊢
      have K12 : Hid (Kept (fun k => k = d) X1 X2) := Lib.hid (by rw [hX2e]; exact (Kept.drew X1).trans (Kept.setCell X1.drew d _ _) (fun _ _ e => e))
      have hd2 : ∃ cs : Array Value, X2.heap[d]? = some (.cells cs 64 (0, 0)) ∧ cs.size = 899 := by
        obtain ⟨cs, h1, h2, _⟩ := H.out.ob
        rw [hX2e]
        exact ⟨_, heap_setCell_same X1.drew d (2 * q) cs _ _ h1, by simpa using h2⟩
      have HV2 : Hid (∃ v0, X2.drew.cell? ⟨d, 2 * q + 1, none⟩ = some v0) := Lib.hid (by
        obtain ⟨cs, h1, h2⟩ := hd2
        have hq := HQ.out
        exact ⟨_, cells_at h1 (Array.getElem?_eq_getElem (show 2 * q + 1 < cs.size by omega))⟩)
      have HF2 : Hid (X2.drew.frozen? ⟨d, 2 * q + 1, none⟩ = false) := Lib.hid (by
        obtain ⟨cs, h1, _⟩ := hd2
        exact heap_frozen h1 _)
      obtain ⟨v2, hv2⟩ := HV2.out
      have HV2 := Lib.hid hv2
      clear hv2 hd2
      have HLO := HL
      have HL : Hid (∀ V, Kept (fun k => k ≠ e.b) X2 V → V.cell? ⟨e.b, 2, none⟩ = some (.pointer (some ⟨d, 2 * q, none⟩)) ∧ V.cell? ⟨e.b, 3, none⟩ = some (.pointer (none)) ∧ V.cell? ⟨e.b, 4, none⟩ = some (.pointer (none))) := Lib.hid (fun V hV => HLO.out V (hX2.trans hV (fun _ _ e => e)))
      have t4 := (HL.out _ (Kept.refl X2)).2.2
      clear hX2e hS t3
      go_upto_region 4 with fail
      refine wp_region_held_drew (S := fun w' => Kept (fun k => k ≠ e.b) X2 w') (by kernel_rfl) (Kept.drew X2) (fun hS => ?_)
      refine held_pure (i := 0) (oi := ⟨some 32, _, _, _, _, _⟩) rfl (by kernel_rfl) (by kernel_rfl) (by kernel_rfl) (fun _ _ _ h => h) (by rfl) (v := ?_) (fun w hSw => ?_) hS (fun hS => ?_)
      rotate_left
      · go_simp; try with_reducible rfl
      try go_frame
      refine held_pure (i := 1) (oi := ⟨some 33, _, _, _, _, _⟩) rfl (by kernel_rfl) (by kernel_rfl) (by kernel_rfl) (fun _ _ _ h => h) (by rfl) (v := ?_) (fun w hSw => ?_) hS (fun hS => ?_)
      rotate_left
      · go_simp; try with_reducible rfl
      try go_frame
      refine held_pure (i := 2) (oi := ⟨some 34, _, _, _, _, _⟩) rfl (by kernel_rfl) (by kernel_rfl) (by kernel_rfl) (fun _ _ _ h => h) (by rfl) (v := ?_) (fun w hSw => ?_) hS (fun hS => ?_)
      rotate_left
      · go_simp; try with_reducible rfl
      try go_frame
      refine held_pure (i := 3) (oi := ⟨some 35, _, _, _, _, _⟩) rfl (by kernel_rfl) (by kernel_rfl) (by kernel_rfl) (fun _ _ _ h => h) (by rfl) (fun w hSw => run_load_plW rfl rfl (HL.out _ hSw).1) hS (fun hS => ?_)
      try go_frame
      refine held_pure (i := 4) (oi := ⟨some 36, _, _, _, _, _⟩) rfl (by kernel_rfl) (by kernel_rfl) (by kernel_rfl) (fun _ _ _ h => h) (by rfl) (v := ?_) (fun w hSw => ?_) hS (fun hS => ?_)
      rotate_left
      · go_simp; try with_reducible rfl
      try go_frame
      refine held_pure (i := 5) (oi := ⟨some 37, _, _, _, _, _⟩) rfl (by kernel_rfl) (by kernel_rfl) (by kernel_rfl) (fun _ _ _ h => h) (by rfl) (v := ?_) (fun w hSw => ?_) hS (fun hS => ?_)
      rotate_left
      · go_simp; try with_reducible rfl
      try go_frame
      refine held_pure (i := 6) (oi := ⟨some 38, _, _, _, _, _⟩) rfl (by kernel_rfl) (by kernel_rfl) (by kernel_rfl) (fun _ _ _ h => h) (by rfl) (v := ?_) (fun w hSw => ?_) hS (fun hS => ?_)
      rotate_left
      · go_simp; try with_reducible rfl
      try go_frame
      refine held_pure (i := 7) (oi := ⟨some 39, _, _, _, _, _⟩) rfl (by kernel_rfl) (by kernel_rfl) (by kernel_rfl) (fun _ _ _ h => h) (by rfl) (fun w hSw => run_load_ptW rfl rfl (HL.out _ hSw).2.1) hS (fun hS => ?_)
      try go_frame
      refine held_pure (i := 8) (oi := ⟨some 40, _, _, _, _, _⟩) rfl (by kernel_rfl) (by kernel_rfl) (by kernel_rfl) (fun _ _ _ h => h) (by rfl) (v := ?_) (fun w hSw => ?_) hS (fun hS => ?_)
      rotate_left
      · go_simp; try with_reducible rfl
      try go_frame
      refine held_pure (i := 9) (oi := ⟨some 41, _, _, _, _, _⟩) rfl (by kernel_rfl) (by kernel_rfl) (by kernel_rfl) (fun _ _ _ h => h) (by rfl) (v := ?_) (fun w hSw => ?_) hS (fun hS => ?_)
      rotate_left
      · go_simp; try with_reducible rfl
      try go_frame
      refine wpAnyH_ready (rs := [10]) (by kernel_rfl) (by simp) (AllReadyH.cons (o := ⟨none, _, _, _, _, _⟩) rfl (fun K hK => ?_) AllReadyH.nil)
      rw [if_pos (by rfl)]
      refine store_ptW_wp rfl rfl rfl HV2.out HF2.out ?_
      refine hK.out _ _ ((Kept.drew X2).trans (Kept.setCell X2.drew d _ _) (fun k _ e => by rw [e]; exact (fun e2 => hbd e2.symm))) (fun hS => ?_)
      clear hK K
      try go_frame
      refine wpAnyH_done (by kernel_rfl) ?_ _
      have kA : Kept (fun k => k ≠ e.b) X1 (X2.drew.setCell ⟨d, 2 * q + 1, none⟩ (.pointer (none))) := hX2.trans hS (fun _ _ e => e)
      have K23 : Hid (Kept (fun k => k = d) X2 (X2.drew.setCell ⟨d, 2 * q + 1, none⟩ (.pointer (none)))) := Lib.hid ((Kept.drew X2).trans (Kept.setCell X2.drew d _ _) (fun _ _ e => e))
      obtain ⟨X3, hX3e⟩ : ∃ X3, X3 = X2.drew.setCell ⟨d, 2 * q + 1, none⟩ (.pointer (none)) := ⟨_, rfl⟩
      have HX3 := Lib.hid hX3e
      rw [← hX3e] at kA K23 ⊢
      clear hX3e hS
      have hbA := (kA.block e.b (heap_lt HT.out) (fun n => n rfl)).trans HT.out
      have t2 : ∃ v0, X3.cell? ⟨e.b, 2, none⟩ = some v0 := ⟨_, cells_at hbA (i := 2) rfl⟩
      have t3 : ∃ v0, X3.cell? ⟨e.b, 3, none⟩ = some v0 := ⟨_, cells_at hbA (i := 3) rfl⟩
      have t5 : ∃ v0, X3.cell? ⟨e.b, 4, none⟩ = some v0 := ⟨_, cells_at hbA (i := 4) rfl⟩
      obtain ⟨u2, t2⟩ := t2
      obtain ⟨u3, t3⟩ := t3
      obtain ⟨u5, t5⟩ := t5
      have f2 := heap_frozen hbA 2
      have f3 := heap_frozen hbA 3
      have f4 := heap_frozen hbA 4
      have HBA := Lib.hid hbA
      clear hbA kA HL t4 hX2 HLO
      go_wp2
      refine bodyPost_end (results_none rfl _ _ _) rfl ?_
      have g1 := heap_setCell_same X3 e.b 2 _ _ (.pointer none) HBA.out
      have g2 := heap_setCell_same _ e.b 3 _ _ (.pointer none) g1
      have g3 := heap_setCell_same _ e.b 4 _ _ (.pointer none) g2
      have kb : Kept (fun k => k = e.b) X3 (((X3.setCell ⟨e.b, 2, none⟩ (.pointer none)).setCell ⟨e.b, 3, none⟩ (.pointer none)).setCell ⟨e.b, 4, none⟩ (.pointer none)) := ((Kept.setCell X3 e.b 2 _).trans (Kept.setCell _ e.b 3 _) (fun _ _ e => e)).trans (Kept.setCell _ e.b 4 _) (fun _ _ e => e)
      generalize ((X3.setCell ⟨e.b, 2, none⟩ (.pointer none)).setCell ⟨e.b, 3, none⟩ (.pointer none)).setCell ⟨e.b, 4, none⟩ (.pointer none) = X4 at *
      have k24 : Kept (fun k => k = d ∨ k = e.b) X2 X4 := (K23.out.mono (fun _ _ e => .inl e)).trans kb (fun _ _ e => .inr e)
      have k14 : Kept (fun k => k = d ∨ k = d ∨ k = e.b) X1 X4 := (K12.out.mono (fun _ _ e => .inl e)).trans k24 (fun _ _ e => .inr e)
      have hob : ∃ cs : Array Value, X4.heap[d]? = some (.cells cs 64 (0, 0)) ∧ cs.size = 899 ∧ (∀ k, k < 448 → cs[2 * k]? = some (.pointer (pE (sl (dr E e.b) k).head?)) ∧ cs[2 * k + 1]? = some (.pointer (pE (sl (dr E e.b) k).getLast?))) ∧ cs[896]? = some (.map (some M)) ∧ cs[897]? = some (.int .i64 most) ∧ cs[898]? = some (.int .i64 now) := by
        have hen := (H.out.ends (w' := X1) (E' := dr E e.b) HQ.out HD.out rfl).2.2
        rw [HQ2.out, HA.out, HC.out] at hen
        obtain ⟨cs, h1, h2⟩ := hen
        refine ⟨cs, ?_, h2⟩
        rw [kb.block d (by rw [HX3.out, HX2.out]; simpa using H.out.lt) (fun e2 => hbd e2.symm), HX3.out, HX2.out]
        exact h1
      refine ⟨rfl, H.out.left HS.out hob ?_ ?_ ?_, g3, k14.mono (fun k _ e2 => by rcases e2 with e2 | e2 | e2; exact .inl e2; exact .inl e2; exact .inr ⟨e, HE.out, e2⟩)⟩
      · intro A9 z9 h9
        rw [HA.out] at h9
        simp at h9
      · intro y9 C9 h9
        rw [HC.out] at h9
        cases h9
      · intro x hx h1 h2 h3
        exact k14.block x.b (heap_lt (H.out.blk hx).choose_spec.choose_spec.choose_spec) (by rintro (e2 | e2 | e2); exact H.out.bne hx e2; exact H.out.bne hx e2; exact h1 (HINJ.out x e hx HE.out e2))
    · have hpA : pE A.getLast? = none := by rw [hA0]; rfl
      have HPA := Lib.hid hpA
      have HA := Lib.hid hA0
      have t3 : w.cell? ⟨e.b, 3, none⟩ = some (.pointer none) := by have := cells_at HT.out (i := 3) rfl; rw [hpA] at this; exact this
      obtain ⟨y, C', hC⟩ : ∃ y C', C = y :: C' := by
        cases C with
        | nil => exact absurd rfl hC0
        | cons y C' => exact ⟨y, C', rfl⟩
      have hyE := HIN.out y (by rw [hC]; simp)
      have hye : y.b ≠ e.b := fun e2 => by
        have := HINJ.out y e hyE HE.out e2
        have hn := HND.out
        rw [hC, this] at hn
        simp [List.nodup_append, List.nodup_cons] at hn
      have hyd := H.out.bne hyE
      have hyt := H.out.tm q (A ++ [e]) y C' (by rw [HS.out, hC]; simp)
      have hpC : pE C.head? = some ⟨y.b, 0, none⟩ := by rw [hC]; rfl
      have HPC := Lib.hid hpC
      have HC := Lib.hid hC
      have HYE := Lib.hid hyE
      have HYT := Lib.hid hyt
      rw [hpA, hpC] at HL
      have HC1 : Hid (∃ v0, w.drew.cell? ⟨d, 2 * q, none⟩ = some v0) := Lib.hid ⟨_, H.out.c0 HQ.out⟩
      have HF1 : Hid (w.drew.frozen? ⟨d, 2 * q, none⟩ = false) := Lib.hid (H.out.fr (2 * q))
      obtain ⟨v1, hv1⟩ := HC1.out
      have HV1 := Lib.hid hv1
      clear h hs ht he hq hpA hpC hv1 HC1 hqe hA0 hC hyE hyt hC0
      go_enter Try.func28, Try.ntmps28
      go_upto_region 1 with fail
      obtain ⟨X1, hX1⟩ : ∃ X1, X1 = w := ⟨_, rfl⟩
      subst hX1
      refine wp_region_held_drew (S := fun w' => Kept (fun k => k ≠ e.b) X1 w') (by kernel_rfl) (Kept.drew X1) (fun hS => ?_)
      refine held_pure (i := 0) (oi := ⟨some 7, _, _, _, _, _⟩) rfl (by kernel_rfl) (by kernel_rfl) (by kernel_rfl) (fun _ _ _ h => h) (by rfl) (v := ?_) (fun w hSw => ?_) hS (fun hS => ?_)
      rotate_left
      · go_simp; try with_reducible rfl
      try go_frame
      refine held_pure (i := 1) (oi := ⟨some 8, _, _, _, _, _⟩) rfl (by kernel_rfl) (by kernel_rfl) (by kernel_rfl) (fun _ _ _ h => h) (by rfl) (v := ?_) (fun w hSw => ?_) hS (fun hS => ?_)
      rotate_left
      · go_simp; try with_reducible rfl
      try go_frame
      refine held_pure (i := 2) (oi := ⟨some 9, _, _, _, _, _⟩) rfl (by kernel_rfl) (by kernel_rfl) (by kernel_rfl) (fun _ _ _ h => h) (by rfl) (v := ?_) (fun w hSw => ?_) hS (fun hS => ?_)
      rotate_left
      · go_simp; try with_reducible rfl
      try go_frame
      refine held_pure (i := 3) (oi := ⟨some 10, _, _, _, _, _⟩) rfl (by kernel_rfl) (by kernel_rfl) (by kernel_rfl) (fun _ _ _ h => h) (by rfl) (fun w hSw => run_load_plW rfl rfl (HL.out _ hSw).1) hS (fun hS => ?_)
      try go_frame
      refine held_pure (i := 4) (oi := ⟨some 11, _, _, _, _, _⟩) rfl (by kernel_rfl) (by kernel_rfl) (by kernel_rfl) (fun _ _ _ h => h) (by rfl) (v := ?_) (fun w hSw => ?_) hS (fun hS => ?_)
      rotate_left
      · go_simp; try with_reducible rfl
      try go_frame
      refine held_pure (i := 5) (oi := ⟨some 12, _, _, _, _, _⟩) rfl (by kernel_rfl) (by kernel_rfl) (by kernel_rfl) (fun _ _ _ h => h) (by rfl) (v := ?_) (fun w hSw => ?_) hS (fun hS => ?_)
      rotate_left
      · go_simp; try with_reducible rfl
      try go_frame
      refine held_pure (i := 6) (oi := ⟨some 13, _, _, _, _, _⟩) rfl (by kernel_rfl) (by kernel_rfl) (by kernel_rfl) (fun _ _ _ h => h) (by rfl) (v := ?_) (fun w hSw => ?_) hS (fun hS => ?_)
      rotate_left
      · go_simp; try with_reducible rfl
      try go_frame
      refine held_pure (i := 7) (oi := ⟨some 14, _, _, _, _, _⟩) rfl (by kernel_rfl) (by kernel_rfl) (by kernel_rfl) (fun _ _ _ h => h) (by rfl) (fun w hSw => run_load_ptW rfl rfl (HL.out _ hSw).2.2) hS (fun hS => ?_)
      try go_frame
      refine held_pure (i := 8) (oi := ⟨some 15, _, _, _, _, _⟩) rfl (by kernel_rfl) (by kernel_rfl) (by kernel_rfl) (fun _ _ _ h => h) (by rfl) (v := ?_) (fun w hSw => ?_) hS (fun hS => ?_)
      rotate_left
      · go_simp; try with_reducible rfl
      try go_frame
      refine held_pure (i := 9) (oi := ⟨some 16, _, _, _, _, _⟩) rfl (by kernel_rfl) (by kernel_rfl) (by kernel_rfl) (fun _ _ _ h => h) (by rfl) (v := ?_) (fun w hSw => ?_) hS (fun hS => ?_)
      rotate_left
      · go_simp; try with_reducible rfl
      try go_frame
      refine wpAnyH_ready (rs := [10]) (by kernel_rfl) (by simp) (AllReadyH.cons (o := ⟨none, _, _, _, _, _⟩) rfl (fun K hK => ?_) AllReadyH.nil)
      rw [if_pos (by rfl)]
      refine store_ptW_wp rfl rfl rfl HV1.out HF1.out ?_
      refine hK.out _ _ ((Kept.drew X1).trans (Kept.setCell X1.drew d _ _) (fun k _ e => by rw [e]; exact (fun e2 => hbd e2.symm))) (fun hS => ?_)
      clear hK K
      try go_frame
      refine wpAnyH_done (by kernel_rfl) ?_ _
      have hX2 := hS
      obtain ⟨X2, hX2e⟩ : ∃ X2, X2 = X1.drew.setCell ⟨d, 2 * q, none⟩ (.pointer (some ⟨y.b, 0, none⟩)) := ⟨_, rfl⟩
      have HX2 := Lib.hid hX2e
      rw [← hX2e] at hX2 ⊢
      have K12 : Hid (Kept (fun k => k = d) X1 X2) := Lib.hid (by rw [hX2e]; exact (Kept.drew X1).trans (Kept.setCell X1.drew d _ _) (fun _ _ e => e))
      have hy2 : X2.heap[y.b]? = some (.cells (tmG y.id (y.a : Int) (some ⟨d, 2 * q, none⟩) (pE (A ++ [e]).getLast?) (pE C'.head?)) 68 (0, 0)) := (K12.out.block y.b (heap_lt HYT.out) (by exact hyd)).trans HYT.out
      have HY2 := Lib.hid hy2
      have HV2 : Hid (X2.drew.cell? ⟨y.b, 3, none⟩ = some (.pointer (pE (A ++ [e]).getLast?))) := Lib.hid (cells_at hy2 rfl)
      have HF2 : Hid (X2.drew.frozen? ⟨y.b, 3, none⟩ = false) := Lib.hid (heap_frozen hy2 3)
      clear hy2
      have HLO := HL
      have HL : Hid (∀ V, Kept (fun k => k ≠ e.b) X2 V → V.cell? ⟨e.b, 2, none⟩ = some (.pointer (some ⟨d, 2 * q, none⟩)) ∧ V.cell? ⟨e.b, 3, none⟩ = some (.pointer (none)) ∧ V.cell? ⟨e.b, 4, none⟩ = some (.pointer (some ⟨y.b, 0, none⟩))) := Lib.hid (fun V hV => HLO.out V (hX2.trans hV (fun _ _ e => e)))
      have t4 := (HL.out _ (Kept.refl X2)).2.2
      clear hX2e hS t3
      go_upto_region 5 with fail
      refine wp_region_held_drew (S := fun w' => Kept (fun k => k ≠ e.b) X2 w') (by kernel_rfl) (Kept.drew X2) (fun hS => ?_)
      refine held_pure (i := 0) (oi := ⟨some 42, _, _, _, _, _⟩) rfl (by kernel_rfl) (by kernel_rfl) (by kernel_rfl) (fun _ _ _ h => h) (by rfl) (v := ?_) (fun w hSw => ?_) hS (fun hS => ?_)
      rotate_left
      · go_simp; try with_reducible rfl
      try go_frame
      refine held_pure (i := 1) (oi := ⟨some 43, _, _, _, _, _⟩) rfl (by kernel_rfl) (by kernel_rfl) (by kernel_rfl) (fun _ _ _ h => h) (by rfl) (v := ?_) (fun w hSw => ?_) hS (fun hS => ?_)
      rotate_left
      · go_simp; try with_reducible rfl
      try go_frame
      refine held_pure (i := 2) (oi := ⟨some 44, _, _, _, _, _⟩) rfl (by kernel_rfl) (by kernel_rfl) (by kernel_rfl) (fun _ _ _ h => h) (by rfl) (v := ?_) (fun w hSw => ?_) hS (fun hS => ?_)
      rotate_left
      · go_simp; try with_reducible rfl
      try go_frame
      refine held_pure (i := 3) (oi := ⟨some 45, _, _, _, _, _⟩) rfl (by kernel_rfl) (by kernel_rfl) (by kernel_rfl) (fun _ _ _ h => h) (by rfl) (fun w hSw => run_load_ptW rfl rfl (HL.out _ hSw).2.2) hS (fun hS => ?_)
      try go_frame
      refine held_pure (i := 4) (oi := ⟨some 46, _, _, _, _, _⟩) rfl (by kernel_rfl) (by kernel_rfl) (by kernel_rfl) (fun _ _ _ h => h) (by rfl) (v := ?_) (fun w hSw => ?_) hS (fun hS => ?_)
      rotate_left
      · go_simp; try with_reducible rfl
      try go_frame
      refine held_pure (i := 5) (oi := ⟨some 47, _, _, _, _, _⟩) rfl (by kernel_rfl) (by kernel_rfl) (by kernel_rfl) (fun _ _ _ h => h) (by rfl) (v := ?_) (fun w hSw => ?_) hS (fun hS => ?_)
      rotate_left
      · go_simp; try with_reducible rfl
      try go_frame
      refine held_pure (i := 6) (oi := ⟨some 48, _, _, _, _, _⟩) rfl (by kernel_rfl) (by kernel_rfl) (by kernel_rfl) (fun _ _ _ h => h) (by rfl) (v := ?_) (fun w hSw => ?_) hS (fun hS => ?_)
      rotate_left
      · go_simp; try with_reducible rfl
      try go_frame
      refine held_pure (i := 7) (oi := ⟨some 49, _, _, _, _, _⟩) rfl (by kernel_rfl) (by kernel_rfl) (by kernel_rfl) (fun _ _ _ h => h) (by rfl) (fun w hSw => run_load_ptW rfl rfl (HL.out _ hSw).2.1) hS (fun hS => ?_)
      try go_frame
      refine held_pure (i := 8) (oi := ⟨some 50, _, _, _, _, _⟩) rfl (by kernel_rfl) (by kernel_rfl) (by kernel_rfl) (fun _ _ _ h => h) (by rfl) (v := ?_) (fun w hSw => ?_) hS (fun hS => ?_)
      rotate_left
      · go_simp; try with_reducible rfl
      try go_frame
      refine held_pure (i := 9) (oi := ⟨some 51, _, _, _, _, _⟩) rfl (by kernel_rfl) (by kernel_rfl) (by kernel_rfl) (fun _ _ _ h => h) (by rfl) (v := ?_) (fun w hSw => ?_) hS (fun hS => ?_)
      rotate_left
      · go_simp; try with_reducible rfl
      try go_frame
      refine wpAnyH_ready (rs := [10]) (by kernel_rfl) (by simp) (AllReadyH.cons (o := ⟨none, _, _, _, _, _⟩) rfl (fun K hK => ?_) AllReadyH.nil)
      rw [if_pos (by rfl)]
      refine store_ptW_wp rfl rfl rfl HV2.out HF2.out ?_
      refine hK.out _ _ ((Kept.drew X2).trans (Kept.setCell X2.drew y.b _ _) (fun k _ e => by rw [e]; exact hye)) (fun hS => ?_)
      clear hK K
      try go_frame
      refine wpAnyH_done (by kernel_rfl) ?_ _
      have kA : Kept (fun k => k ≠ e.b) X1 (X2.drew.setCell ⟨y.b, 3, none⟩ (.pointer (none))) := hX2.trans hS (fun _ _ e => e)
      have K23 : Hid (Kept (fun k => k = y.b) X2 (X2.drew.setCell ⟨y.b, 3, none⟩ (.pointer (none)))) := Lib.hid ((Kept.drew X2).trans (Kept.setCell X2.drew y.b _ _) (fun _ _ e => e))
      obtain ⟨X3, hX3e⟩ : ∃ X3, X3 = X2.drew.setCell ⟨y.b, 3, none⟩ (.pointer (none)) := ⟨_, rfl⟩
      have HX3 := Lib.hid hX3e
      rw [← hX3e] at kA K23 ⊢
      clear hX3e hS
      have hbA := (kA.block e.b (heap_lt HT.out) (fun n => n rfl)).trans HT.out
      have t2 : ∃ v0, X3.cell? ⟨e.b, 2, none⟩ = some v0 := ⟨_, cells_at hbA (i := 2) rfl⟩
      have t3 : ∃ v0, X3.cell? ⟨e.b, 3, none⟩ = some v0 := ⟨_, cells_at hbA (i := 3) rfl⟩
      have t5 : ∃ v0, X3.cell? ⟨e.b, 4, none⟩ = some v0 := ⟨_, cells_at hbA (i := 4) rfl⟩
      obtain ⟨u2, t2⟩ := t2
      obtain ⟨u3, t3⟩ := t3
      obtain ⟨u5, t5⟩ := t5
      have f2 := heap_frozen hbA 2
      have f3 := heap_frozen hbA 3
      have f4 := heap_frozen hbA 4
      have HBA := Lib.hid hbA
      clear hbA kA HL t4 hX2 HLO
      go_wp2
      refine bodyPost_end (results_none rfl _ _ _) rfl ?_
      have g1 := heap_setCell_same X3 e.b 2 _ _ (.pointer none) HBA.out
      have g2 := heap_setCell_same _ e.b 3 _ _ (.pointer none) g1
      have g3 := heap_setCell_same _ e.b 4 _ _ (.pointer none) g2
      have kb : Kept (fun k => k = e.b) X3 (((X3.setCell ⟨e.b, 2, none⟩ (.pointer none)).setCell ⟨e.b, 3, none⟩ (.pointer none)).setCell ⟨e.b, 4, none⟩ (.pointer none)) := ((Kept.setCell X3 e.b 2 _).trans (Kept.setCell _ e.b 3 _) (fun _ _ e => e)).trans (Kept.setCell _ e.b 4 _) (fun _ _ e => e)
      generalize ((X3.setCell ⟨e.b, 2, none⟩ (.pointer none)).setCell ⟨e.b, 3, none⟩ (.pointer none)).setCell ⟨e.b, 4, none⟩ (.pointer none) = X4 at *
      have k24 : Kept (fun k => k = y.b ∨ k = e.b) X2 X4 := (K23.out.mono (fun _ _ e => .inl e)).trans kb (fun _ _ e => .inr e)
      have k14 : Kept (fun k => k = d ∨ k = y.b ∨ k = e.b) X1 X4 := (K12.out.mono (fun _ _ e => .inl e)).trans k24 (fun _ _ e => .inr e)
      have hob : ∃ cs : Array Value, X4.heap[d]? = some (.cells cs 64 (0, 0)) ∧ cs.size = 899 ∧ (∀ k, k < 448 → cs[2 * k]? = some (.pointer (pE (sl (dr E e.b) k).head?)) ∧ cs[2 * k + 1]? = some (.pointer (pE (sl (dr E e.b) k).getLast?))) ∧ cs[896]? = some (.map (some M)) ∧ cs[897]? = some (.int .i64 most) ∧ cs[898]? = some (.int .i64 now) := by
        have hen := (H.out.ends (w' := X1) (E' := dr E e.b) HQ.out HD.out rfl).2.1 (by rw [HQ2.out, HS.out, HC.out]; simp)
        rw [HQ2.out, HA.out, HC.out] at hen
        obtain ⟨cs, h1, h2⟩ := hen
        refine ⟨cs, ?_, h2⟩
        rw [k24.block d (by rw [HX2.out]; simpa using H.out.lt) (by rintro (e2 | e2); exact hyd e2.symm; exact hbd e2.symm), HX2.out]
        exact h1
      refine ⟨rfl, H.out.left HS.out hob ?_ ?_ ?_, g3, k14.mono (fun k _ e2 => by rcases e2 with e2 | e2 | e2; exact .inl e2; exact .inr ⟨y, HYE.out, e2⟩; exact .inr ⟨e, HE.out, e2⟩)⟩
      · intro A9 z9 h9
        rw [HA.out] at h9
        simp at h9
      · intro y9 C9 h9
        rw [HC.out] at h9
        injection h9 with i1 i2
        subst i1
        subst i2
        rw [kb.block y.b (by rw [HX3.out, HX2.out]; simpa using heap_lt HYT.out) hye, HX3.out, HPA.out]
        exact heap_setCell_same X2.drew y.b 3 _ _ _ HY2.out
      · intro x hx h1 h2 h3
        exact k14.block x.b (heap_lt (H.out.blk hx).choose_spec.choose_spec.choose_spec) (by rintro (e2 | e2 | e2); exact H.out.bne hx e2; exact h3 y C' HC.out (HINJ.out x y hx HYE.out e2); exact h1 (HINJ.out x e hx HE.out e2))
  · by_cases hC0 : C = []
    · obtain ⟨A', z, hA⟩ : ∃ A' z, A = A' ++ [z] := by
        rcases List.eq_nil_or_concat A with h0 | ⟨A', z, h0⟩
        · exact absurd h0 hA0
        · exact ⟨A', z, by simpa using h0⟩
      have hzE := HIN.out z (by rw [hA]; simp)
      have hze : z.b ≠ e.b := fun e2 => by
        have := HINJ.out z e hzE HE.out e2
        have hn := HND.out
        rw [hA, this] at hn
        simp [List.nodup_append, List.nodup_cons] at hn
      have hzd := H.out.bne hzE
      have hzt := H.out.tm q A' z (e :: C) (by rw [HS.out, hA]; simp)
      have hpA : pE A.getLast? = some ⟨z.b, 0, none⟩ := by rw [hA]; simp [pE]
      have HPA := Lib.hid hpA
      have HA := Lib.hid hA
      have HZE := Lib.hid hzE
      have HZT := Lib.hid hzt
      have t3 : w.cell? ⟨e.b, 3, none⟩ = some (.pointer (some ⟨z.b, 0, none⟩)) := by have := cells_at HT.out (i := 3) rfl; rw [hpA] at this; exact this
      have hpC : pE C.head? = none := by rw [hC0]; rfl
      have HPC := Lib.hid hpC
      have HC := Lib.hid hC0
      rw [hpA, hpC] at HL
      have HC1 : Hid (∃ v0, w.drew.cell? ⟨z.b, 4, none⟩ = some v0) := Lib.hid ⟨_, cells_at hzt (i := 4) rfl⟩
      have HF1 : Hid (w.drew.frozen? ⟨z.b, 4, none⟩ = false) := Lib.hid (heap_frozen hzt 4)
      obtain ⟨v1, hv1⟩ := HC1.out
      have HV1 := Lib.hid hv1
      clear h hs ht he hq hpA hpC hv1 HC1 hqe hA hzE hzt hA0 hC0
      go_enter Try.func28, Try.ntmps28
      go_upto_region 2 with fail
      obtain ⟨X1, hX1⟩ : ∃ X1, X1 = w := ⟨_, rfl⟩
      subst hX1
      refine wp_region_held_drew (S := fun w' => Kept (fun k => k ≠ e.b) X1 w') (by kernel_rfl) (Kept.drew X1) (fun hS => ?_)
      refine held_pure (i := 0) (oi := ⟨some 17, _, _, _, _, _⟩) rfl (by kernel_rfl) (by kernel_rfl) (by kernel_rfl) (fun _ _ _ h => h) (by rfl) (v := ?_) (fun w hSw => ?_) hS (fun hS => ?_)
      rotate_left
      · go_simp; try with_reducible rfl
      try go_frame
      refine held_pure (i := 1) (oi := ⟨some 18, _, _, _, _, _⟩) rfl (by kernel_rfl) (by kernel_rfl) (by kernel_rfl) (fun _ _ _ h => h) (by rfl) (v := ?_) (fun w hSw => ?_) hS (fun hS => ?_)
      rotate_left
      · go_simp; try with_reducible rfl
      try go_frame
      refine held_pure (i := 2) (oi := ⟨some 19, _, _, _, _, _⟩) rfl (by kernel_rfl) (by kernel_rfl) (by kernel_rfl) (fun _ _ _ h => h) (by rfl) (v := ?_) (fun w hSw => ?_) hS (fun hS => ?_)
      rotate_left
      · go_simp; try with_reducible rfl
      try go_frame
      refine held_pure (i := 3) (oi := ⟨some 20, _, _, _, _, _⟩) rfl (by kernel_rfl) (by kernel_rfl) (by kernel_rfl) (fun _ _ _ h => h) (by rfl) (fun w hSw => run_load_ptW rfl rfl (HL.out _ hSw).2.1) hS (fun hS => ?_)
      try go_frame
      refine held_pure (i := 4) (oi := ⟨some 21, _, _, _, _, _⟩) rfl (by kernel_rfl) (by kernel_rfl) (by kernel_rfl) (fun _ _ _ h => h) (by rfl) (v := ?_) (fun w hSw => ?_) hS (fun hS => ?_)
      rotate_left
      · go_simp; try with_reducible rfl
      try go_frame
      refine held_pure (i := 5) (oi := ⟨some 22, _, _, _, _, _⟩) rfl (by kernel_rfl) (by kernel_rfl) (by kernel_rfl) (fun _ _ _ h => h) (by rfl) (v := ?_) (fun w hSw => ?_) hS (fun hS => ?_)
      rotate_left
      · go_simp; try with_reducible rfl
      try go_frame
      refine held_pure (i := 6) (oi := ⟨some 23, _, _, _, _, _⟩) rfl (by kernel_rfl) (by kernel_rfl) (by kernel_rfl) (fun _ _ _ h => h) (by rfl) (v := ?_) (fun w hSw => ?_) hS (fun hS => ?_)
      rotate_left
      · go_simp; try with_reducible rfl
      try go_frame
      refine held_pure (i := 7) (oi := ⟨some 24, _, _, _, _, _⟩) rfl (by kernel_rfl) (by kernel_rfl) (by kernel_rfl) (fun _ _ _ h => h) (by rfl) (fun w hSw => run_load_ptW rfl rfl (HL.out _ hSw).2.2) hS (fun hS => ?_)
      try go_frame
      refine held_pure (i := 8) (oi := ⟨some 25, _, _, _, _, _⟩) rfl (by kernel_rfl) (by kernel_rfl) (by kernel_rfl) (fun _ _ _ h => h) (by rfl) (v := ?_) (fun w hSw => ?_) hS (fun hS => ?_)
      rotate_left
      · go_simp; try with_reducible rfl
      try go_frame
      refine held_pure (i := 9) (oi := ⟨some 26, _, _, _, _, _⟩) rfl (by kernel_rfl) (by kernel_rfl) (by kernel_rfl) (fun _ _ _ h => h) (by rfl) (v := ?_) (fun w hSw => ?_) hS (fun hS => ?_)
      rotate_left
      · go_simp; try with_reducible rfl
      try go_frame
      refine wpAnyH_ready (rs := [10]) (by kernel_rfl) (by simp) (AllReadyH.cons (o := ⟨none, _, _, _, _, _⟩) rfl (fun K hK => ?_) AllReadyH.nil)
      rw [if_pos (by rfl)]
      refine store_ptW_wp rfl rfl rfl HV1.out HF1.out ?_
      refine hK.out _ _ ((Kept.drew X1).trans (Kept.setCell X1.drew z.b _ _) (fun k _ e => by rw [e]; exact hze)) (fun hS => ?_)
      clear hK K
      try go_frame
      refine wpAnyH_done (by kernel_rfl) ?_ _
      have hX2 := hS
      obtain ⟨X2, hX2e⟩ : ∃ X2, X2 = X1.drew.setCell ⟨z.b, 4, none⟩ (.pointer (none)) := ⟨_, rfl⟩
      have HX2 := Lib.hid hX2e
      rw [← hX2e] at hX2 ⊢
      have K12 : Hid (Kept (fun k => k = z.b) X1 X2) := Lib.hid (by rw [hX2e]; exact (Kept.drew X1).trans (Kept.setCell X1.drew z.b _ _) (fun _ _ e => e))
      have hd2 : ∃ cs : Array Value, X2.heap[d]? = some (.cells cs 64 (0, 0)) ∧ cs.size = 899 := by
        obtain ⟨cs, h1, h2, _⟩ := H.out.ob
        exact ⟨cs, (K12.out.block d H.out.lt (fun e2 => hzd e2.symm)).trans h1, h2⟩
      have HV2 : Hid (∃ v0, X2.drew.cell? ⟨d, 2 * q + 1, none⟩ = some v0) := Lib.hid (by
        obtain ⟨cs, h1, h2⟩ := hd2
        have hq := HQ.out
        exact ⟨_, cells_at h1 (Array.getElem?_eq_getElem (show 2 * q + 1 < cs.size by omega))⟩)
      have HF2 : Hid (X2.drew.frozen? ⟨d, 2 * q + 1, none⟩ = false) := Lib.hid (by
        obtain ⟨cs, h1, _⟩ := hd2
        exact heap_frozen h1 _)
      obtain ⟨v2, hv2⟩ := HV2.out
      have HV2 := Lib.hid hv2
      clear hv2 hd2
      have HLO := HL
      have HL : Hid (∀ V, Kept (fun k => k ≠ e.b) X2 V → V.cell? ⟨e.b, 2, none⟩ = some (.pointer (some ⟨d, 2 * q, none⟩)) ∧ V.cell? ⟨e.b, 3, none⟩ = some (.pointer (some ⟨z.b, 0, none⟩)) ∧ V.cell? ⟨e.b, 4, none⟩ = some (.pointer (none))) := Lib.hid (fun V hV => HLO.out V (hX2.trans hV (fun _ _ e => e)))
      have t4 := (HL.out _ (Kept.refl X2)).2.2
      clear hX2e hS t3
      go_upto_region 4 with fail
      refine wp_region_held_drew (S := fun w' => Kept (fun k => k ≠ e.b) X2 w') (by kernel_rfl) (Kept.drew X2) (fun hS => ?_)
      refine held_pure (i := 0) (oi := ⟨some 32, _, _, _, _, _⟩) rfl (by kernel_rfl) (by kernel_rfl) (by kernel_rfl) (fun _ _ _ h => h) (by rfl) (v := ?_) (fun w hSw => ?_) hS (fun hS => ?_)
      rotate_left
      · go_simp; try with_reducible rfl
      try go_frame
      refine held_pure (i := 1) (oi := ⟨some 33, _, _, _, _, _⟩) rfl (by kernel_rfl) (by kernel_rfl) (by kernel_rfl) (fun _ _ _ h => h) (by rfl) (v := ?_) (fun w hSw => ?_) hS (fun hS => ?_)
      rotate_left
      · go_simp; try with_reducible rfl
      try go_frame
      refine held_pure (i := 2) (oi := ⟨some 34, _, _, _, _, _⟩) rfl (by kernel_rfl) (by kernel_rfl) (by kernel_rfl) (fun _ _ _ h => h) (by rfl) (v := ?_) (fun w hSw => ?_) hS (fun hS => ?_)
      rotate_left
      · go_simp; try with_reducible rfl
      try go_frame
      refine held_pure (i := 3) (oi := ⟨some 35, _, _, _, _, _⟩) rfl (by kernel_rfl) (by kernel_rfl) (by kernel_rfl) (fun _ _ _ h => h) (by rfl) (fun w hSw => run_load_plW rfl rfl (HL.out _ hSw).1) hS (fun hS => ?_)
      try go_frame
      refine held_pure (i := 4) (oi := ⟨some 36, _, _, _, _, _⟩) rfl (by kernel_rfl) (by kernel_rfl) (by kernel_rfl) (fun _ _ _ h => h) (by rfl) (v := ?_) (fun w hSw => ?_) hS (fun hS => ?_)
      rotate_left
      · go_simp; try with_reducible rfl
      try go_frame
      refine held_pure (i := 5) (oi := ⟨some 37, _, _, _, _, _⟩) rfl (by kernel_rfl) (by kernel_rfl) (by kernel_rfl) (fun _ _ _ h => h) (by rfl) (v := ?_) (fun w hSw => ?_) hS (fun hS => ?_)
      rotate_left
      · go_simp; try with_reducible rfl
      try go_frame
      refine held_pure (i := 6) (oi := ⟨some 38, _, _, _, _, _⟩) rfl (by kernel_rfl) (by kernel_rfl) (by kernel_rfl) (fun _ _ _ h => h) (by rfl) (v := ?_) (fun w hSw => ?_) hS (fun hS => ?_)
      rotate_left
      · go_simp; try with_reducible rfl
      try go_frame
      refine held_pure (i := 7) (oi := ⟨some 39, _, _, _, _, _⟩) rfl (by kernel_rfl) (by kernel_rfl) (by kernel_rfl) (fun _ _ _ h => h) (by rfl) (fun w hSw => run_load_ptW rfl rfl (HL.out _ hSw).2.1) hS (fun hS => ?_)
      try go_frame
      refine held_pure (i := 8) (oi := ⟨some 40, _, _, _, _, _⟩) rfl (by kernel_rfl) (by kernel_rfl) (by kernel_rfl) (fun _ _ _ h => h) (by rfl) (v := ?_) (fun w hSw => ?_) hS (fun hS => ?_)
      rotate_left
      · go_simp; try with_reducible rfl
      try go_frame
      refine held_pure (i := 9) (oi := ⟨some 41, _, _, _, _, _⟩) rfl (by kernel_rfl) (by kernel_rfl) (by kernel_rfl) (fun _ _ _ h => h) (by rfl) (v := ?_) (fun w hSw => ?_) hS (fun hS => ?_)
      rotate_left
      · go_simp; try with_reducible rfl
      try go_frame
      refine wpAnyH_ready (rs := [10]) (by kernel_rfl) (by simp) (AllReadyH.cons (o := ⟨none, _, _, _, _, _⟩) rfl (fun K hK => ?_) AllReadyH.nil)
      rw [if_pos (by rfl)]
      refine store_ptW_wp rfl rfl rfl HV2.out HF2.out ?_
      refine hK.out _ _ ((Kept.drew X2).trans (Kept.setCell X2.drew d _ _) (fun k _ e => by rw [e]; exact (fun e2 => hbd e2.symm))) (fun hS => ?_)
      clear hK K
      try go_frame
      refine wpAnyH_done (by kernel_rfl) ?_ _
      have kA : Kept (fun k => k ≠ e.b) X1 (X2.drew.setCell ⟨d, 2 * q + 1, none⟩ (.pointer (some ⟨z.b, 0, none⟩))) := hX2.trans hS (fun _ _ e => e)
      have K23 : Hid (Kept (fun k => k = d) X2 (X2.drew.setCell ⟨d, 2 * q + 1, none⟩ (.pointer (some ⟨z.b, 0, none⟩)))) := Lib.hid ((Kept.drew X2).trans (Kept.setCell X2.drew d _ _) (fun _ _ e => e))
      obtain ⟨X3, hX3e⟩ : ∃ X3, X3 = X2.drew.setCell ⟨d, 2 * q + 1, none⟩ (.pointer (some ⟨z.b, 0, none⟩)) := ⟨_, rfl⟩
      have HX3 := Lib.hid hX3e
      rw [← hX3e] at kA K23 ⊢
      clear hX3e hS
      have hbA := (kA.block e.b (heap_lt HT.out) (fun n => n rfl)).trans HT.out
      have t2 : ∃ v0, X3.cell? ⟨e.b, 2, none⟩ = some v0 := ⟨_, cells_at hbA (i := 2) rfl⟩
      have t3 : ∃ v0, X3.cell? ⟨e.b, 3, none⟩ = some v0 := ⟨_, cells_at hbA (i := 3) rfl⟩
      have t5 : ∃ v0, X3.cell? ⟨e.b, 4, none⟩ = some v0 := ⟨_, cells_at hbA (i := 4) rfl⟩
      obtain ⟨u2, t2⟩ := t2
      obtain ⟨u3, t3⟩ := t3
      obtain ⟨u5, t5⟩ := t5
      have f2 := heap_frozen hbA 2
      have f3 := heap_frozen hbA 3
      have f4 := heap_frozen hbA 4
      have HBA := Lib.hid hbA
      clear hbA kA HL t4 hX2 HLO
      go_wp2
      refine bodyPost_end (results_none rfl _ _ _) rfl ?_
      have g1 := heap_setCell_same X3 e.b 2 _ _ (.pointer none) HBA.out
      have g2 := heap_setCell_same _ e.b 3 _ _ (.pointer none) g1
      have g3 := heap_setCell_same _ e.b 4 _ _ (.pointer none) g2
      have kb : Kept (fun k => k = e.b) X3 (((X3.setCell ⟨e.b, 2, none⟩ (.pointer none)).setCell ⟨e.b, 3, none⟩ (.pointer none)).setCell ⟨e.b, 4, none⟩ (.pointer none)) := ((Kept.setCell X3 e.b 2 _).trans (Kept.setCell _ e.b 3 _) (fun _ _ e => e)).trans (Kept.setCell _ e.b 4 _) (fun _ _ e => e)
      generalize ((X3.setCell ⟨e.b, 2, none⟩ (.pointer none)).setCell ⟨e.b, 3, none⟩ (.pointer none)).setCell ⟨e.b, 4, none⟩ (.pointer none) = X4 at *
      have k24 : Kept (fun k => k = d ∨ k = e.b) X2 X4 := (K23.out.mono (fun _ _ e => .inl e)).trans kb (fun _ _ e => .inr e)
      have k14 : Kept (fun k => k = z.b ∨ k = d ∨ k = e.b) X1 X4 := (K12.out.mono (fun _ _ e => .inl e)).trans k24 (fun _ _ e => .inr e)
      have hob : ∃ cs : Array Value, X4.heap[d]? = some (.cells cs 64 (0, 0)) ∧ cs.size = 899 ∧ (∀ k, k < 448 → cs[2 * k]? = some (.pointer (pE (sl (dr E e.b) k).head?)) ∧ cs[2 * k + 1]? = some (.pointer (pE (sl (dr E e.b) k).getLast?))) ∧ cs[896]? = some (.map (some M)) ∧ cs[897]? = some (.int .i64 most) ∧ cs[898]? = some (.int .i64 now) := by
        have hd9 := K12.out.block d H.out.lt (fun e2 => hzd e2.symm)
        have hen := (H.out.ends (w' := X2) (E' := dr E e.b) HQ.out HD.out hd9).1 (by rw [HQ2.out, HS.out, HA.out]; simp [List.head?_append])
        rw [HQ2.out, HC.out, List.append_nil, HPA.out] at hen
        obtain ⟨cs, h1, h2⟩ := hen
        refine ⟨cs, ?_, h2⟩
        rw [kb.block d (by rw [HX3.out, HX2.out]; simpa using H.out.lt) (fun e2 => hbd e2.symm), HX3.out]
        exact h1
      refine ⟨rfl, H.out.left HS.out hob ?_ ?_ ?_, g3, k14.mono (fun k _ e2 => by rcases e2 with e2 | e2 | e2; exact .inr ⟨z, HZE.out, e2⟩; exact .inl e2; exact .inr ⟨e, HE.out, e2⟩)⟩
      · intro A9 z9 h9
        rw [HA.out] at h9
        obtain ⟨i1, i2⟩ := List.append_inj' h9 rfl
        injection i2 with i2
        subst i1
        subst i2
        rw [k24.block z.b (by rw [HX2.out]; simpa using heap_lt HZT.out) (by rintro (e2 | e2); exact hzd e2; exact hze e2), HX2.out, HPC.out]
        exact heap_setCell_same X1.drew z.b 4 _ _ _ HZT.out
      · intro y9 C9 h9
        rw [HC.out] at h9
        cases h9
      · intro x hx h1 h2 h3
        exact k14.block x.b (heap_lt (H.out.blk hx).choose_spec.choose_spec.choose_spec) (by rintro (e2 | e2 | e2); exact h2 A' z HA.out (HINJ.out x z hx HZE.out e2); exact H.out.bne hx e2; exact h1 (HINJ.out x e hx HE.out e2))
    · obtain ⟨A', z, hA⟩ : ∃ A' z, A = A' ++ [z] := by
        rcases List.eq_nil_or_concat A with h0 | ⟨A', z, h0⟩
        · exact absurd h0 hA0
        · exact ⟨A', z, by simpa using h0⟩
      have hzE := HIN.out z (by rw [hA]; simp)
      have hze : z.b ≠ e.b := fun e2 => by
        have := HINJ.out z e hzE HE.out e2
        have hn := HND.out
        rw [hA, this] at hn
        simp [List.nodup_append, List.nodup_cons] at hn
      have hzd := H.out.bne hzE
      have hzt := H.out.tm q A' z (e :: C) (by rw [HS.out, hA]; simp)
      have hpA : pE A.getLast? = some ⟨z.b, 0, none⟩ := by rw [hA]; simp [pE]
      have HPA := Lib.hid hpA
      have HA := Lib.hid hA
      have HZE := Lib.hid hzE
      have HZT := Lib.hid hzt
      have t3 : w.cell? ⟨e.b, 3, none⟩ = some (.pointer (some ⟨z.b, 0, none⟩)) := by have := cells_at HT.out (i := 3) rfl; rw [hpA] at this; exact this
      obtain ⟨y, C', hC⟩ : ∃ y C', C = y :: C' := by
        cases C with
        | nil => exact absurd rfl hC0
        | cons y C' => exact ⟨y, C', rfl⟩
      have hyE := HIN.out y (by rw [hC]; simp)
      have hye : y.b ≠ e.b := fun e2 => by
        have := HINJ.out y e hyE HE.out e2
        have hn := HND.out
        rw [hC, this] at hn
        simp [List.nodup_append, List.nodup_cons] at hn
      have hyd := H.out.bne hyE
      have hyt := H.out.tm q (A ++ [e]) y C' (by rw [HS.out, hC]; simp)
      have hpC : pE C.head? = some ⟨y.b, 0, none⟩ := by rw [hC]; rfl
      have HPC := Lib.hid hpC
      have HC := Lib.hid hC
      have HYE := Lib.hid hyE
      have HYT := Lib.hid hyt
      have hzy : z.b ≠ y.b := fun e2 => by
        have := HINJ.out z y hzE hyE e2
        have hn := HND.out
        rw [hA, hC, this] at hn
        simp [List.nodup_append, List.nodup_cons] at hn
      rw [hpA, hpC] at HL
      have HC1 : Hid (∃ v0, w.drew.cell? ⟨z.b, 4, none⟩ = some v0) := Lib.hid ⟨_, cells_at hzt (i := 4) rfl⟩
      have HF1 : Hid (w.drew.frozen? ⟨z.b, 4, none⟩ = false) := Lib.hid (heap_frozen hzt 4)
      obtain ⟨v1, hv1⟩ := HC1.out
      have HV1 := Lib.hid hv1
      clear h hs ht he hq hpA hpC hv1 HC1 hqe hA hzE hzt hA0 hC hyE hyt hC0
      go_enter Try.func28, Try.ntmps28
      go_upto_region 2 with fail
      obtain ⟨X1, hX1⟩ : ∃ X1, X1 = w := ⟨_, rfl⟩
      subst hX1
      refine wp_region_held_drew (S := fun w' => Kept (fun k => k ≠ e.b) X1 w') (by kernel_rfl) (Kept.drew X1) (fun hS => ?_)
      refine held_pure (i := 0) (oi := ⟨some 17, _, _, _, _, _⟩) rfl (by kernel_rfl) (by kernel_rfl) (by kernel_rfl) (fun _ _ _ h => h) (by rfl) (v := ?_) (fun w hSw => ?_) hS (fun hS => ?_)
      rotate_left
      · go_simp; try with_reducible rfl
      try go_frame
      refine held_pure (i := 1) (oi := ⟨some 18, _, _, _, _, _⟩) rfl (by kernel_rfl) (by kernel_rfl) (by kernel_rfl) (fun _ _ _ h => h) (by rfl) (v := ?_) (fun w hSw => ?_) hS (fun hS => ?_)
      rotate_left
      · go_simp; try with_reducible rfl
      try go_frame
      refine held_pure (i := 2) (oi := ⟨some 19, _, _, _, _, _⟩) rfl (by kernel_rfl) (by kernel_rfl) (by kernel_rfl) (fun _ _ _ h => h) (by rfl) (v := ?_) (fun w hSw => ?_) hS (fun hS => ?_)
      rotate_left
      · go_simp; try with_reducible rfl
      try go_frame
      refine held_pure (i := 3) (oi := ⟨some 20, _, _, _, _, _⟩) rfl (by kernel_rfl) (by kernel_rfl) (by kernel_rfl) (fun _ _ _ h => h) (by rfl) (fun w hSw => run_load_ptW rfl rfl (HL.out _ hSw).2.1) hS (fun hS => ?_)
      try go_frame
      refine held_pure (i := 4) (oi := ⟨some 21, _, _, _, _, _⟩) rfl (by kernel_rfl) (by kernel_rfl) (by kernel_rfl) (fun _ _ _ h => h) (by rfl) (v := ?_) (fun w hSw => ?_) hS (fun hS => ?_)
      rotate_left
      · go_simp; try with_reducible rfl
      try go_frame
      refine held_pure (i := 5) (oi := ⟨some 22, _, _, _, _, _⟩) rfl (by kernel_rfl) (by kernel_rfl) (by kernel_rfl) (fun _ _ _ h => h) (by rfl) (v := ?_) (fun w hSw => ?_) hS (fun hS => ?_)
      rotate_left
      · go_simp; try with_reducible rfl
      try go_frame
      refine held_pure (i := 6) (oi := ⟨some 23, _, _, _, _, _⟩) rfl (by kernel_rfl) (by kernel_rfl) (by kernel_rfl) (fun _ _ _ h => h) (by rfl) (v := ?_) (fun w hSw => ?_) hS (fun hS => ?_)
      rotate_left
      · go_simp; try with_reducible rfl
      try go_frame
      refine held_pure (i := 7) (oi := ⟨some 24, _, _, _, _, _⟩) rfl (by kernel_rfl) (by kernel_rfl) (by kernel_rfl) (fun _ _ _ h => h) (by rfl) (fun w hSw => run_load_ptW rfl rfl (HL.out _ hSw).2.2) hS (fun hS => ?_)
      try go_frame
      refine held_pure (i := 8) (oi := ⟨some 25, _, _, _, _, _⟩) rfl (by kernel_rfl) (by kernel_rfl) (by kernel_rfl) (fun _ _ _ h => h) (by rfl) (v := ?_) (fun w hSw => ?_) hS (fun hS => ?_)
      rotate_left
      · go_simp; try with_reducible rfl
      try go_frame
      refine held_pure (i := 9) (oi := ⟨some 26, _, _, _, _, _⟩) rfl (by kernel_rfl) (by kernel_rfl) (by kernel_rfl) (fun _ _ _ h => h) (by rfl) (v := ?_) (fun w hSw => ?_) hS (fun hS => ?_)
      rotate_left
      · go_simp; try with_reducible rfl
      try go_frame
      refine wpAnyH_ready (rs := [10]) (by kernel_rfl) (by simp) (AllReadyH.cons (o := ⟨none, _, _, _, _, _⟩) rfl (fun K hK => ?_) AllReadyH.nil)
      rw [if_pos (by rfl)]
      refine store_ptW_wp rfl rfl rfl HV1.out HF1.out ?_
      refine hK.out _ _ ((Kept.drew X1).trans (Kept.setCell X1.drew z.b _ _) (fun k _ e => by rw [e]; exact hze)) (fun hS => ?_)
      clear hK K
      try go_frame
      refine wpAnyH_done (by kernel_rfl) ?_ _
      have hX2 := hS
      obtain ⟨X2, hX2e⟩ : ∃ X2, X2 = X1.drew.setCell ⟨z.b, 4, none⟩ (.pointer (some ⟨y.b, 0, none⟩)) := ⟨_, rfl⟩
      have HX2 := Lib.hid hX2e
      rw [← hX2e] at hX2 ⊢
      have K12 : Hid (Kept (fun k => k = z.b) X1 X2) := Lib.hid (by rw [hX2e]; exact (Kept.drew X1).trans (Kept.setCell X1.drew z.b _ _) (fun _ _ e => e))
      have hy2 : X2.heap[y.b]? = some (.cells (tmG y.id (y.a : Int) (some ⟨d, 2 * q, none⟩) (pE (A ++ [e]).getLast?) (pE C'.head?)) 68 (0, 0)) := (K12.out.block y.b (heap_lt HYT.out) (by exact fun e2 => hzy e2.symm)).trans HYT.out
      have HY2 := Lib.hid hy2
      have HV2 : Hid (X2.drew.cell? ⟨y.b, 3, none⟩ = some (.pointer (pE (A ++ [e]).getLast?))) := Lib.hid (cells_at hy2 rfl)
      have HF2 : Hid (X2.drew.frozen? ⟨y.b, 3, none⟩ = false) := Lib.hid (heap_frozen hy2 3)
      clear hy2
      have HLO := HL
      have HL : Hid (∀ V, Kept (fun k => k ≠ e.b) X2 V → V.cell? ⟨e.b, 2, none⟩ = some (.pointer (some ⟨d, 2 * q, none⟩)) ∧ V.cell? ⟨e.b, 3, none⟩ = some (.pointer (some ⟨z.b, 0, none⟩)) ∧ V.cell? ⟨e.b, 4, none⟩ = some (.pointer (some ⟨y.b, 0, none⟩))) := Lib.hid (fun V hV => HLO.out V (hX2.trans hV (fun _ _ e => e)))
      have t4 := (HL.out _ (Kept.refl X2)).2.2
      clear hX2e hS t3
      go_upto_region 5 with fail
      refine wp_region_held_drew (S := fun w' => Kept (fun k => k ≠ e.b) X2 w') (by kernel_rfl) (Kept.drew X2) (fun hS => ?_)
      refine held_pure (i := 0) (oi := ⟨some 42, _, _, _, _, _⟩) rfl (by kernel_rfl) (by kernel_rfl) (by kernel_rfl) (fun _ _ _ h => h) (by rfl) (v := ?_) (fun w hSw => ?_) hS (fun hS => ?_)
      rotate_left
      · go_simp; try with_reducible rfl
      try go_frame
      refine held_pure (i := 1) (oi := ⟨some 43, _, _, _, _, _⟩) rfl (by kernel_rfl) (by kernel_rfl) (by kernel_rfl) (fun _ _ _ h => h) (by rfl) (v := ?_) (fun w hSw => ?_) hS (fun hS => ?_)
      rotate_left
      · go_simp; try with_reducible rfl
      try go_frame
      refine held_pure (i := 2) (oi := ⟨some 44, _, _, _, _, _⟩) rfl (by kernel_rfl) (by kernel_rfl) (by kernel_rfl) (fun _ _ _ h => h) (by rfl) (v := ?_) (fun w hSw => ?_) hS (fun hS => ?_)
      rotate_left
      · go_simp; try with_reducible rfl
      try go_frame
      refine held_pure (i := 3) (oi := ⟨some 45, _, _, _, _, _⟩) rfl (by kernel_rfl) (by kernel_rfl) (by kernel_rfl) (fun _ _ _ h => h) (by rfl) (fun w hSw => run_load_ptW rfl rfl (HL.out _ hSw).2.2) hS (fun hS => ?_)
      try go_frame
      refine held_pure (i := 4) (oi := ⟨some 46, _, _, _, _, _⟩) rfl (by kernel_rfl) (by kernel_rfl) (by kernel_rfl) (fun _ _ _ h => h) (by rfl) (v := ?_) (fun w hSw => ?_) hS (fun hS => ?_)
      rotate_left
      · go_simp; try with_reducible rfl
      try go_frame
      refine held_pure (i := 5) (oi := ⟨some 47, _, _, _, _, _⟩) rfl (by kernel_rfl) (by kernel_rfl) (by kernel_rfl) (fun _ _ _ h => h) (by rfl) (v := ?_) (fun w hSw => ?_) hS (fun hS => ?_)
      rotate_left
      · go_simp; try with_reducible rfl
      try go_frame
      refine held_pure (i := 6) (oi := ⟨some 48, _, _, _, _, _⟩) rfl (by kernel_rfl) (by kernel_rfl) (by kernel_rfl) (fun _ _ _ h => h) (by rfl) (v := ?_) (fun w hSw => ?_) hS (fun hS => ?_)
      rotate_left
      · go_simp; try with_reducible rfl
      try go_frame
      refine held_pure (i := 7) (oi := ⟨some 49, _, _, _, _, _⟩) rfl (by kernel_rfl) (by kernel_rfl) (by kernel_rfl) (fun _ _ _ h => h) (by rfl) (fun w hSw => run_load_ptW rfl rfl (HL.out _ hSw).2.1) hS (fun hS => ?_)
      try go_frame
      refine held_pure (i := 8) (oi := ⟨some 50, _, _, _, _, _⟩) rfl (by kernel_rfl) (by kernel_rfl) (by kernel_rfl) (fun _ _ _ h => h) (by rfl) (v := ?_) (fun w hSw => ?_) hS (fun hS => ?_)
      rotate_left
      · go_simp; try with_reducible rfl
      try go_frame
      refine held_pure (i := 9) (oi := ⟨some 51, _, _, _, _, _⟩) rfl (by kernel_rfl) (by kernel_rfl) (by kernel_rfl) (fun _ _ _ h => h) (by rfl) (v := ?_) (fun w hSw => ?_) hS (fun hS => ?_)
      rotate_left
      · go_simp; try with_reducible rfl
      try go_frame
      refine wpAnyH_ready (rs := [10]) (by kernel_rfl) (by simp) (AllReadyH.cons (o := ⟨none, _, _, _, _, _⟩) rfl (fun K hK => ?_) AllReadyH.nil)
      rw [if_pos (by rfl)]
      refine store_ptW_wp rfl rfl rfl HV2.out HF2.out ?_
      refine hK.out _ _ ((Kept.drew X2).trans (Kept.setCell X2.drew y.b _ _) (fun k _ e => by rw [e]; exact hye)) (fun hS => ?_)
      clear hK K
      try go_frame
      refine wpAnyH_done (by kernel_rfl) ?_ _
      have kA : Kept (fun k => k ≠ e.b) X1 (X2.drew.setCell ⟨y.b, 3, none⟩ (.pointer (some ⟨z.b, 0, none⟩))) := hX2.trans hS (fun _ _ e => e)
      have K23 : Hid (Kept (fun k => k = y.b) X2 (X2.drew.setCell ⟨y.b, 3, none⟩ (.pointer (some ⟨z.b, 0, none⟩)))) := Lib.hid ((Kept.drew X2).trans (Kept.setCell X2.drew y.b _ _) (fun _ _ e => e))
      obtain ⟨X3, hX3e⟩ : ∃ X3, X3 = X2.drew.setCell ⟨y.b, 3, none⟩ (.pointer (some ⟨z.b, 0, none⟩)) := ⟨_, rfl⟩
      have HX3 := Lib.hid hX3e
      rw [← hX3e] at kA K23 ⊢
      clear hX3e hS
      have hbA := (kA.block e.b (heap_lt HT.out) (fun n => n rfl)).trans HT.out
      have t2 : ∃ v0, X3.cell? ⟨e.b, 2, none⟩ = some v0 := ⟨_, cells_at hbA (i := 2) rfl⟩
      have t3 : ∃ v0, X3.cell? ⟨e.b, 3, none⟩ = some v0 := ⟨_, cells_at hbA (i := 3) rfl⟩
      have t5 : ∃ v0, X3.cell? ⟨e.b, 4, none⟩ = some v0 := ⟨_, cells_at hbA (i := 4) rfl⟩
      obtain ⟨u2, t2⟩ := t2
      obtain ⟨u3, t3⟩ := t3
      obtain ⟨u5, t5⟩ := t5
      have f2 := heap_frozen hbA 2
      have f3 := heap_frozen hbA 3
      have f4 := heap_frozen hbA 4
      have HBA := Lib.hid hbA
      clear hbA kA HL t4 hX2 HLO
      go_wp2
      refine bodyPost_end (results_none rfl _ _ _) rfl ?_
      have g1 := heap_setCell_same X3 e.b 2 _ _ (.pointer none) HBA.out
      have g2 := heap_setCell_same _ e.b 3 _ _ (.pointer none) g1
      have g3 := heap_setCell_same _ e.b 4 _ _ (.pointer none) g2
      have kb : Kept (fun k => k = e.b) X3 (((X3.setCell ⟨e.b, 2, none⟩ (.pointer none)).setCell ⟨e.b, 3, none⟩ (.pointer none)).setCell ⟨e.b, 4, none⟩ (.pointer none)) := ((Kept.setCell X3 e.b 2 _).trans (Kept.setCell _ e.b 3 _) (fun _ _ e => e)).trans (Kept.setCell _ e.b 4 _) (fun _ _ e => e)
      generalize ((X3.setCell ⟨e.b, 2, none⟩ (.pointer none)).setCell ⟨e.b, 3, none⟩ (.pointer none)).setCell ⟨e.b, 4, none⟩ (.pointer none) = X4 at *
      have k24 : Kept (fun k => k = y.b ∨ k = e.b) X2 X4 := (K23.out.mono (fun _ _ e => .inl e)).trans kb (fun _ _ e => .inr e)
      have k14 : Kept (fun k => k = z.b ∨ k = y.b ∨ k = e.b) X1 X4 := (K12.out.mono (fun _ _ e => .inl e)).trans k24 (fun _ _ e => .inr e)
      have hob : ∃ cs : Array Value, X4.heap[d]? = some (.cells cs 64 (0, 0)) ∧ cs.size = 899 ∧ (∀ k, k < 448 → cs[2 * k]? = some (.pointer (pE (sl (dr E e.b) k).head?)) ∧ cs[2 * k + 1]? = some (.pointer (pE (sl (dr E e.b) k).getLast?))) ∧ cs[896]? = some (.map (some M)) ∧ cs[897]? = some (.int .i64 most) ∧ cs[898]? = some (.int .i64 now) := by
        obtain ⟨cs, h1, h2, h3, h4⟩ := H.out.ob
        refine ⟨cs, (k14.block d H.out.lt (by rintro (e2 | e2 | e2); exact hzd e2.symm; exact hyd e2.symm; exact hbd e2.symm)).trans h1, h2, fun k hk => ?_, h4⟩
        by_cases e3 : k = q
        · subst e3
          have := h3 k hk
          rw [HS.out] at this
          rw [HQ2.out]
          have e4 : (A ++ C).head? = (A ++ e :: C).head? := by rw [HA.out]; simp [List.head?_append]
          have e5 : (A ++ C).getLast? = (A ++ e :: C).getLast? := by rw [HC.out]; simp
          rw [e4, e5]; exact this
        · rw [HD.out k e3]; exact h3 k hk
      refine ⟨rfl, H.out.left HS.out hob ?_ ?_ ?_, g3, k14.mono (fun k _ e2 => by rcases e2 with e2 | e2 | e2; exact .inr ⟨z, HZE.out, e2⟩; exact .inr ⟨y, HYE.out, e2⟩; exact .inr ⟨e, HE.out, e2⟩)⟩
      · intro A9 z9 h9
        rw [HA.out] at h9
        obtain ⟨i1, i2⟩ := List.append_inj' h9 rfl
        injection i2 with i2
        subst i1
        subst i2
        rw [k24.block z.b (by rw [HX2.out]; simpa using heap_lt HZT.out) (by rintro (e2 | e2); exact hzy e2; exact hze e2), HX2.out, HPC.out]
        exact heap_setCell_same X1.drew z.b 4 _ _ _ HZT.out
      · intro y9 C9 h9
        rw [HC.out] at h9
        injection h9 with i1 i2
        subst i1
        subst i2
        rw [kb.block y.b (by rw [HX3.out, HX2.out]; simpa using heap_lt HYT.out) hye, HX3.out, HPA.out]
        exact heap_setCell_same X2.drew y.b 3 _ _ _ HY2.out
      · intro x hx h1 h2 h3
        exact k14.block x.b (heap_lt (H.out.blk hx).choose_spec.choose_spec.choose_spec) (by rintro (e2 | e2 | e2); exact h2 A' z HA.out (HINJ.out x z hx HZE.out e2); exact h3 y C' HC.out (HINJ.out x y hx HYE.out e2); exact h1 (HINJ.out x e hx HE.out e2))
end
end Go.Proofs.Ytjgcpaepaocigaa

/-
  reached of layer 17: what is taken out of the slots. Conditions are each theorem's own.
-/
namespace Go.Proofs.Ytjgcpaepaocigaa
open Go.RowKit Go.Shelf Go.Maps Go.WideMaps
def clP_ (e : Te) : List Value := [.pointer (some ⟨e.b, 0, none⟩)]
def shN (r x : Nat) : Nat := x / 2 ^ (6 * r)
/-- Whether a timer is taken out. -/
def tkN (now : Nat) (e : Te) : Bool := decide (shN (e.q / 64) e.a ≤ shN (e.q / 64) now)
/-- What lies about while the slots are gone through: K is taken out, R not. -/
structure Sc (w0 : World) (B0 d M : Nat) (most : Int) (now0 : Nat) (E K R : List Te) (N : Nat) (v : Value) (w : World) : Prop where
  e : E = K ++ R
  T : ∃ T, Wb w d M most (now0 : Int) T ∧ (∀ e ∈ R, T e.q = some e.b) ∧ (∀ q, (∀ e ∈ R, e.q ≠ q) → T q = none)
  k : ∀ e ∈ K, w.heap[e.b]? = some (.cells (tmC e.id (e.a : Int) none) 68 (0, 0))
  r : ∀ e ∈ R, w.heap[e.b]? = some (.cells (tmC e.id (e.a : Int) (some ⟨d, 2 * e.q, none⟩)) 68 (0, 0))
  im : Iw w M N (E.map (·.id))
  own : w.ownsRow w0.heap.size 57 1 v K.length (K.flatMap clP_)
  bel : Below B0 w0 w
  size : w0.heap.size ≤ w.heap.size
theorem info_ptW : (Try.prog.info? 57).map (fun i => (i.zero, i.size, i.bytes)) = some (some (.pointer none), 1, 8) := by kernel_rfl
theorem append_ptW {w : World} {ops : Array Oper} {rest : List Oper} {o : Oper} {a : Act} {Q : Exit → Act → World → Prop} (hgd : o.guard = none) (s x : Operand)
    (ho : o.op = .call { callee := .builtin .append, args := #[s, x], argTypes := #[71, 71] })
    (base : Nat) (v : Value) (n : Nat) (xs : List Value) (hs : a.eval s = v) (hown : w.ownsRow base 57 1 v n xs)
    (g : Nat) (y : Option Addr) (hx : a.eval x = .slice (some ⟨g, 0, none⟩) 1 1) (hy : w.cell? ⟨g, 0, none⟩ = some (.pointer y))
    (hlen : n ≤ 1000000) (hbase : base ≤ w.heap.size)
    (h : ∀ v' w', w'.ownsRow base 57 1 v' (n + 1) (xs ++ [.pointer y]) → w.grownBy w' v.ownBlock → wpList Try.prog ops Q rest (a.put o.dst v') w') : wpList Try.prog ops Q (o :: rest) a w := by
  obtain ⟨i0, hi, hz0, hz1, hz2⟩ := info_parts info_ptW
  refine wpList_append_own w hgd s x 71 ho base 57 i0 _ 1 8 Try.underlying71 hi hz0 hz1 hz2 rfl (by decide) v n xs hs hown ⟨g, 0, none⟩ 1 1 [.pointer y] hx
      rfl (fun j u hu => ?_) (fun u hu => by simp at hu; subst hu; rfl) (by unfold maxLen; omega) (by omega) hbase (fun v' w' h1 h2 _ => h v' w' h1 h2)
  have hj : j = 0 := by have := (List.getElem?_eq_some_iff.1 hu).1; simpa using this
  subst hj
  simp at hu
  subst hu
  rw [add_off]; exact hy
theorem tw_eq {p : Te → Bool} {K R : List Te} (hK : ∀ e ∈ K, p e = true) (hR : ∀ e, R.head? = some e → p e = false) : (K ++ R).takeWhile p = K ∧ (K ++ R).dropWhile p = R := by
  induction K with
  | nil =>
    cases R with
    | nil => exact ⟨rfl, rfl⟩
    | cons e R =>
      have := hR e rfl
      simp [this]
  | cons k K ih =>
    have h1 := hK k (List.mem_cons_self ..)
    have h2 := ih (fun e he => hK e (List.mem_cons_of_mem _ he))
    simp [h1, h2.1, h2.2]
def slLen : Value → Nat
  | .slice _ n _ => n
  | _ => 0
section
variable {w0 w w4 w5 : World} {B0 d M N : Nat} {most : Int} {now0 : Nat} {E K R : List Te} {v v4 : Value} {e : Te}
theorem Sc.len (h : Sc w0 B0 d M most now0 E K R N v w) : ∃ A c, v = .slice A K.length c := by
  obtain ⟨A, c, e1, _⟩ := own_rds (cl := clP_) (sz := 1) h.own rfl rfl (fun _ _ => rfl)
  exact ⟨A, c, e1⟩
theorem Sc.drew (h : Sc w0 B0 d M most now0 E K R N v w) : Sc w0 B0 d M most now0 E K R N v w.drew := by
  obtain ⟨T, h1, h2⟩ := h.T
  exact ⟨h.e, ⟨T, h1.of_block rfl, h2⟩, h.k, h.r, h.im.of_block rfl, h.own, h.bel.drew, h.size⟩
theorem Sc.sl (h : Sc w0 B0 d M most now0 E K R N v w) : slLen v = K.length := by
  obtain ⟨A, c, e⟩ := h.len
  rw [e]; rfl
/-- One more is taken out. -/
theorem Sc.took (H : Ws w0 B0 d M most now0 E N) (h : Sc w0 B0 d M most now0 E K (e :: R) N v w) (hb : Below w0.heap.size w w4) (ho : w4.ownsRow w0.heap.size 57 1 v4 (K.length + 1) (K.flatMap clP_ ++ [.pointer (some ⟨e.b, 0, none⟩)]))
    {T : Nat → Option Nat} (hT : Wb w d M most (now0 : Int) T ∧ (∀ e' ∈ e :: R, T e'.q = some e'.b) ∧ (∀ q, (∀ e' ∈ e :: R, e'.q ≠ q) → T q = none))
    (hw5 : Wb w5 d M most (now0 : Int) (setT T e.q none)) (ht5 : w5.heap[e.b]? = some (.cells (tmC e.id (e.a : Int) none) 68 (0, 0))) (k5 : Kept (fun k => k = e.b ∨ k = d) w4 w5) : Sc w0 B0 d M most now0 E (K ++ [e]) R N v4 w5 := by
  have hE := h.e
  have hpw := H.pw
  rw [hE, List.pairwise_append] at hpw
  obtain ⟨_, hpw2, hpw3⟩ := hpw
  have heE : e ∈ E := by rw [hE]; simp
  have hlt : ∀ e' ∈ E, e'.b < w0.heap.size := fun e' he => heap_lt (H.tm e' he).1
  obtain ⟨T0, hw0, _⟩ := H.T
  have hd0 := hw0.lt
  have hM0 := H.im.lt
  have hz5 := k5.size
  have hz4 := hb.size
  have hzz := h.size
  have htimer : ∀ e' ∈ E, e'.b ≠ e.b → w5.heap[e'.b]? = w.heap[e'.b]? := fun e' he hn => by
    have h1 := hlt e' he
    rw [k5.block e'.b (by omega) (by rintro (e2 | e2); exact hn e2; exact (H.neT he).1 e2), hb.block e'.b h1]
  refine ⟨by rw [hE]; simp, ⟨_, hw5, fun e' he => ?_, fun q hq => ?_⟩, fun e' he => ?_, fun e' he => ?_, ?_, ?_, ?_, by omega⟩
  · unfold setT
    rw [if_neg (fun e2 => ((List.pairwise_cons.1 hpw2).1 e' he).1 e2.symm)]
    exact hT.2.1 e' (List.mem_cons_of_mem _ he)
  · unfold setT
    by_cases e2 : q = e.q
    · rw [if_pos e2]
    · rw [if_neg e2]
      refine hT.2.2 q (fun e' he => ?_)
      rcases List.mem_cons.1 he with rfl | he
      · exact fun e3 => e2 e3.symm
      · exact hq e' he
  · rcases List.mem_append.1 he with he | he
    · have hn := (hpw3 e' he e (List.mem_cons_self ..)).2
      rw [htimer e' (by rw [hE]; simp [he]) hn]
      exact h.k e' he
    · rw [List.mem_singleton] at he
      rw [he]; exact ht5
  · have hn := ((List.pairwise_cons.1 hpw2).1 e' he).2
    rw [htimer e' (by rw [hE]; simp [he]) (fun e2 => hn e2.symm)]
    exact h.r e' (List.mem_cons_of_mem _ he)
  · refine h.im.of_block ?_
    rw [k5.block M (by omega) (by rintro (e2 | e2); exact (H.neT heE).2 e2.symm; exact H.ne e2.symm), hb.block M hM0]
  · rw [List.length_append, List.flatMap_append]
    refine own_keptT (by simpa [clP_] using ho) k5 (fun g hg cs fr hh => ?_)
    rcases hg with rfl | rfl
    · have h1 := hb.block e.b (hlt e heE)
      rw [h1, h.r e (List.mem_cons_self ..)] at hh
      injection hh with hh
      injection hh with _ e2 _
      exact absurd e2 (nat_ne (by kernel_rfl))
    · obtain ⟨cs2, h2⟩ := hT.1.is
      have h1 := hb.block g hd0
      rw [h1, h2] at hh
      injection hh with hh
      injection hh with _ e2 _
      exact absurd e2 (nat_ne (by kernel_rfl))
  · refine (h.bel.trans (hb.mono H.bz)).trans (k5.below (by have := H.bz; omega) (fun i hi => ?_))
    rcases hi with rfl | rfl
    · exact (H.tm e heE).2.2
    · exact H.z.1
end
section
variable {w : World} {B0 d M N : Nat} {most : Int} {now0 now : Nat} {E : List Te}
set_option maxRecDepth 100000 in
set_option maxHeartbeats 2000000 in
theorem wreached (h : Ws w B0 d M most now0 E N) (hs : E.Pairwise (fun x y => x.q < y.q)) (hEl : E.length ≤ 1000) (hEa : ∀ e ∈ E, e.a ≤ 2 ^ 40) :
    Calls Try.prog 31 #[.pointer (some ⟨d, 0, none⟩), .int .i64 (now : Int)] w fun e w' => ∃ A c, e = .returned (.slice A (E.takeWhile (tkN now)).length c) ∧
      Sc w B0 d M most now0 E (E.takeWhile (tkN now)) (E.dropWhile (tkN now)) N (.slice A (E.takeWhile (tkN now)).length c) w' := by
  have h0 : Sc w B0 d M most now0 E [] E N (.slice none 0 0) w := ⟨rfl, h.T, fun e he => (by cases he), fun e he => (h.tm e he).1, h.im, World.ownsRow_nil _ _ _ _, Below.refl _ _, Nat.le_refl _⟩
  have H := Lib.hid h
  have HS := Lib.hid hs
  have HEL := Lib.hid hEl
  have HEA := Lib.hid hEa
  clear h hs hEl hEa
  go_enter Try.func31, Try.ntmps31
  go_wp2
  go_step3
  go_wp2
  go_step3
  go_wp2
  go_loopw [5, 9] (fun v z wr => ∃ (r : Nat) (K R : List Te) (vv : Value), vv = v ∧ r ≤ 7 ∧ z = .int .i64 (r : Int) ∧ Hid (Sc w B0 d M most now0 E K R N vv wr) ∧ Hid (∀ e ∈ K, tkN now e = true) ∧ Hid (∀ e ∈ R, 64 * r ≤ e.q))
    (fun _ z _ => 7 - (intOf z).toNat)
  case atStart => exact ⟨0, [], E, _, rfl, by omega, rfl, Lib.hid h0, Lib.hid (fun e he => by cases he), Lib.hid (fun e _ => by omega)⟩
  case round =>
    obtain ⟨r, K, R, v5, rfl, hr, rfl, HC, HK, HR⟩ := hrel
    clear h0
    by_cases hr7 : r < 7
    · have dr : decide ((r : Int) < 7) = true := decide_eq_true (by omega)
      go_wp2
      go_loopw [5, 12] (fun v z wr => ∃ (i : Nat) (K R : List Te) (vv : Value), vv = v ∧ i ≤ 64 ∧ z = .int .i64 (i : Int) ∧ Hid (Sc w B0 d M most now0 E K R N vv wr) ∧ Hid (∀ e ∈ K, tkN now e = true) ∧ Hid (∀ e ∈ R, 64 * r + i ≤ e.q))
        (fun _ z _ => 64 - (intOf z).toNat)
      case atStart => exact ⟨0, K, R, _, rfl, by omega, rfl, HC, HK, HR⟩
      case round =>
        clear HC HK HR
        obtain ⟨i, K, R, v5, rfl, hi, rfl, HC, HK, HR⟩ := hrel
        by_cases hi64 : i < 64
        · by_cases hin : ∃ e R', R = e :: R' ∧ e.q = 64 * r + i
          · obtain ⟨e, R, rfl, heq⟩ := hin
            obtain ⟨T, hT⟩ := HC.out.T
            have heE : e ∈ E := by rw [HC.out.e]; simp
            have kl : wr.cell? ⟨d, r * 128 + i * 2, none⟩ = some (.pointer (some ⟨e.b, 0, none⟩)) := by
              have := hT.1.l0 (q := 64 * r + i) (by omega)
              rw [← heq, hT.2.1 e (List.mem_cons_self ..), show 2 * e.q = r * 128 + i * 2 from by omega] at this
              exact this
            have hte := HC.out.r e (List.mem_cons_self ..)
            have ka : wr.cell? ⟨e.b, 1, none⟩ = some (.int .i64 (e.a : Int)) := cells_at hte rfl
            have KL : Hid (wr.drew.cell? ⟨d, r * 128 + i * 2, none⟩ = some (.pointer (some ⟨e.b, 0, none⟩))) := Lib.hid kl
            have KA : Hid (wr.drew.cell? ⟨e.b, 1, none⟩ = some (.int .i64 (e.a : Int))) := Lib.hid ka
            have hea := HEA.out e heE
            have h7 : r = 0 ∨ r = 1 ∨ r = 2 ∨ r = 3 ∨ r = 4 ∨ r = 5 ∨ r = 6 := by omega
            have hqr : e.q / 64 = r := by omega
            have HT := Lib.hid hT
            have HTE := Lib.hid hte
            clear hT hte
            by_cases hg : shN r now < shN r e.a
            · have dG : decide (((shN r now : Nat) : Int) < ((shN r e.a : Nat) : Int)) = true := decide_eq_true (by omega)
              go_upto_region 10 with fail
              refine wp_region_held_drew (S := fun w' => w' = wr.drew) (by kernel_rfl) rfl (fun hS => ?_)
              refine held_pure (i := 0) (oi := ⟨some 28, _, _, _, _, _⟩) rfl (by kernel_rfl) (by kernel_rfl) (by kernel_rfl) (fun _ _ _ h => h) (by rfl) (v := ?_) (fun w hSw => ?_) hS (fun hS => ?_)
              rotate_left
              · go_simp; try with_reducible rfl
              try go_frame
              refine held_pure (i := 1) (oi := ⟨some 29, _, _, _, _, _⟩) rfl (by kernel_rfl) (by kernel_rfl) (by kernel_rfl) (fun _ _ _ h => h) (by rfl) (v := ?_) (fun w hSw => ?_) hS (fun hS => ?_)
              rotate_left
              · go_simp; try with_reducible rfl
              try go_frame
              refine held_pure (i := 2) (oi := ⟨some 30, _, _, _, _, _⟩) rfl (by kernel_rfl) (by kernel_rfl) (by kernel_rfl) (fun _ _ _ h => h) (by rfl) (v := ?_) (fun w hSw => ?_) hS (fun hS => ?_)
              rotate_left
              · go_simp; try with_reducible rfl
              try go_frame
              refine held_pure (i := 3) (oi := ⟨some 31, _, _, _, _, _⟩) rfl (by kernel_rfl) (by kernel_rfl) (by kernel_rfl) (fun _ _ _ h => h) (by rfl) (fun w hSw => run_load_ptW rfl rfl (by rw [hSw]; exact KL.out)) hS (fun hS => ?_)
              try go_frame
              refine held_pure (i := 4) (oi := ⟨some 32, _, _, _, _, _⟩) rfl (by kernel_rfl) (by kernel_rfl) (by kernel_rfl) (fun _ _ _ h => h) (by rfl) (v := ?_) (fun w hSw => ?_) hS (fun hS => ?_)
              rotate_left
              · go_simp; try with_reducible rfl
              try go_frame
              refine held_pure (i := 5) (oi := ⟨some 33, _, _, _, _, _⟩) rfl (by kernel_rfl) (by kernel_rfl) (by kernel_rfl) (fun _ _ _ h => h) (by rfl) (v := ?_) (fun w hSw => ?_) hS (fun hS => ?_)
              rotate_left
              · go_simp; try with_reducible rfl
              try go_frame
              refine held_pure (i := 6) (oi := ⟨some 34, _, _, _, _, _⟩) rfl (by kernel_rfl) (by kernel_rfl) (by kernel_rfl) (fun _ _ _ h => h) (by rfl) (fun w hSw => run_load_int rfl rfl (by rw [hSw]; exact KA.out)) hS (fun hS => ?_)
              try go_frame
              refine held_pure (i := 7) (oi := ⟨some 35, _, _, _, _, _⟩) rfl (by kernel_rfl) (by kernel_rfl) (by kernel_rfl) (fun _ _ _ h => h) (by rfl) (v := ?_) (fun w hSw => ?_) hS (fun hS => ?_)
              rotate_left
              · go_simp; try with_reducible rfl
              try go_frame
              refine held_pure (i := 8) (oi := ⟨some 36, _, _, _, _, _⟩) rfl (by kernel_rfl) (by kernel_rfl) (by kernel_rfl) (fun _ _ _ h => h) (by rfl) (v := .int .i64 ((r * 6 : Nat) : Int)) (fun w hSw => by rcases h7 with rfl | rfl | rfl | rfl | rfl | rfl | rfl <;> go_simp <;> first | done | decide) hS (fun hS => ?_)
              try go_frame
              refine held_pure (i := 9) (oi := ⟨some 37, _, _, _, _, _⟩) rfl (by kernel_rfl) (by kernel_rfl) (by kernel_rfl) (fun _ _ _ h => h) (by rfl) (v := .int .i64 ((shN r e.a : Nat) : Int)) (fun w hSw => by rcases h7 with rfl | rfl | rfl | rfl | rfl | rfl | rfl <;> go_simp <;> simp [shN]) hS (fun hS => ?_)
              try go_frame
              refine held_pure (i := 10) (oi := ⟨some 38, _, _, _, _, _⟩) rfl (by kernel_rfl) (by kernel_rfl) (by kernel_rfl) (fun _ _ _ h => h) (by rfl) (v := ?_) (fun w hSw => ?_) hS (fun hS => ?_)
              rotate_left
              · go_simp; try with_reducible rfl
              try go_frame
              refine held_pure (i := 11) (oi := ⟨some 39, _, _, _, _, _⟩) rfl (by kernel_rfl) (by kernel_rfl) (by kernel_rfl) (fun _ _ _ h => h) (by rfl) (v := ?_) (fun w hSw => ?_) hS (fun hS => ?_)
              rotate_left
              · go_simp; try with_reducible rfl
              try go_frame
              refine held_pure (i := 12) (oi := ⟨some 40, _, _, _, _, _⟩) rfl (by kernel_rfl) (by kernel_rfl) (by kernel_rfl) (fun _ _ _ h => h) (by rfl) (v := .int .i64 ((r * 6 : Nat) : Int)) (fun w hSw => by rcases h7 with rfl | rfl | rfl | rfl | rfl | rfl | rfl <;> go_simp <;> first | done | decide) hS (fun hS => ?_)
              try go_frame
              refine held_pure (i := 13) (oi := ⟨some 41, _, _, _, _, _⟩) rfl (by kernel_rfl) (by kernel_rfl) (by kernel_rfl) (fun _ _ _ h => h) (by rfl) (v := .int .i64 ((shN r now : Nat) : Int)) (fun w hSw => by rcases h7 with rfl | rfl | rfl | rfl | rfl | rfl | rfl <;> go_simp <;> simp [shN]) hS (fun hS => ?_)
              try go_frame
              refine held_pure (i := 14) (oi := ⟨some 42, _, _, _, _, _⟩) rfl (by kernel_rfl) (by kernel_rfl) (by kernel_rfl) (fun _ _ _ h => h) (by rfl) (v := .bool true) (fun w hSw => by go_simp; try exact dG) hS (fun hS => ?_)
              try go_frame
              refine held_pure (i := 15) (oi := ⟨some 27, _, _, _, _, _⟩) rfl (by kernel_rfl) (by kernel_rfl) (by kernel_rfl) (fun _ _ _ h => h) (by rfl) (v := ?_) (fun w hSw => ?_) hS (fun hS => ?_)
              rotate_left
              · go_simp; try with_reducible rfl
              try go_frame
              refine wpAnyH_done (by kernel_rfl) ?_ _
              have HTW := Lib.hid (tw_eq (p := tkN now) (R := e :: R) HK.out (fun e' he' => by injection he' with he'; subst he'; unfold tkN; rw [hqr]; exact decide_eq_false (by omega)))
              obtain ⟨A, c, ev⟩ := HC.out.len
              subst ev
              clear kl ka
              go_wp2
              try rw [Exit.noGoto_ret]
              refine bodyPost_ret (results_tmp rfl _ _ _) rfl ?_
              have h9 := HTW.out
              rw [← HC.out.e] at h9
              rw [h9.1, h9.2]
              exact ⟨A, c, rfl, HC.out.drew⟩
            · have dG : decide (((shN r now : Nat) : Int) < ((shN r e.a : Nat) : Int)) = false := decide_eq_false (by omega)
              have HKE : Hid (tkN now e = true) := Lib.hid (by unfold tkN; rw [hqr]; exact decide_eq_true (by omega))
              go_upto_region 10 with fail
              refine wp_region_held_drew (S := fun w' => w' = wr.drew) (by kernel_rfl) rfl (fun hS => ?_)
              refine held_pure (i := 0) (oi := ⟨some 28, _, _, _, _, _⟩) rfl (by kernel_rfl) (by kernel_rfl) (by kernel_rfl) (fun _ _ _ h => h) (by rfl) (v := ?_) (fun w hSw => ?_) hS (fun hS => ?_)
              rotate_left
              · go_simp; try with_reducible rfl
              try go_frame
              refine held_pure (i := 1) (oi := ⟨some 29, _, _, _, _, _⟩) rfl (by kernel_rfl) (by kernel_rfl) (by kernel_rfl) (fun _ _ _ h => h) (by rfl) (v := ?_) (fun w hSw => ?_) hS (fun hS => ?_)
              rotate_left
              · go_simp; try with_reducible rfl
              try go_frame
              refine held_pure (i := 2) (oi := ⟨some 30, _, _, _, _, _⟩) rfl (by kernel_rfl) (by kernel_rfl) (by kernel_rfl) (fun _ _ _ h => h) (by rfl) (v := ?_) (fun w hSw => ?_) hS (fun hS => ?_)
              rotate_left
              · go_simp; try with_reducible rfl
              try go_frame
              refine held_pure (i := 3) (oi := ⟨some 31, _, _, _, _, _⟩) rfl (by kernel_rfl) (by kernel_rfl) (by kernel_rfl) (fun _ _ _ h => h) (by rfl) (fun w hSw => run_load_ptW rfl rfl (by rw [hSw]; exact KL.out)) hS (fun hS => ?_)
              try go_frame
              refine held_pure (i := 4) (oi := ⟨some 32, _, _, _, _, _⟩) rfl (by kernel_rfl) (by kernel_rfl) (by kernel_rfl) (fun _ _ _ h => h) (by rfl) (v := ?_) (fun w hSw => ?_) hS (fun hS => ?_)
              rotate_left
              · go_simp; try with_reducible rfl
              try go_frame
              refine held_pure (i := 5) (oi := ⟨some 33, _, _, _, _, _⟩) rfl (by kernel_rfl) (by kernel_rfl) (by kernel_rfl) (fun _ _ _ h => h) (by rfl) (v := ?_) (fun w hSw => ?_) hS (fun hS => ?_)
              rotate_left
              · go_simp; try with_reducible rfl
              try go_frame
              refine held_pure (i := 6) (oi := ⟨some 34, _, _, _, _, _⟩) rfl (by kernel_rfl) (by kernel_rfl) (by kernel_rfl) (fun _ _ _ h => h) (by rfl) (fun w hSw => run_load_int rfl rfl (by rw [hSw]; exact KA.out)) hS (fun hS => ?_)
              try go_frame
              refine held_pure (i := 7) (oi := ⟨some 35, _, _, _, _, _⟩) rfl (by kernel_rfl) (by kernel_rfl) (by kernel_rfl) (fun _ _ _ h => h) (by rfl) (v := ?_) (fun w hSw => ?_) hS (fun hS => ?_)
              rotate_left
              · go_simp; try with_reducible rfl
              try go_frame
              refine held_pure (i := 8) (oi := ⟨some 36, _, _, _, _, _⟩) rfl (by kernel_rfl) (by kernel_rfl) (by kernel_rfl) (fun _ _ _ h => h) (by rfl) (v := .int .i64 ((r * 6 : Nat) : Int)) (fun w hSw => by rcases h7 with rfl | rfl | rfl | rfl | rfl | rfl | rfl <;> go_simp <;> first | done | decide) hS (fun hS => ?_)
              try go_frame
              refine held_pure (i := 9) (oi := ⟨some 37, _, _, _, _, _⟩) rfl (by kernel_rfl) (by kernel_rfl) (by kernel_rfl) (fun _ _ _ h => h) (by rfl) (v := .int .i64 ((shN r e.a : Nat) : Int)) (fun w hSw => by rcases h7 with rfl | rfl | rfl | rfl | rfl | rfl | rfl <;> go_simp <;> simp [shN]) hS (fun hS => ?_)
              try go_frame
              refine held_pure (i := 10) (oi := ⟨some 38, _, _, _, _, _⟩) rfl (by kernel_rfl) (by kernel_rfl) (by kernel_rfl) (fun _ _ _ h => h) (by rfl) (v := ?_) (fun w hSw => ?_) hS (fun hS => ?_)
              rotate_left
              · go_simp; try with_reducible rfl
              try go_frame
              refine held_pure (i := 11) (oi := ⟨some 39, _, _, _, _, _⟩) rfl (by kernel_rfl) (by kernel_rfl) (by kernel_rfl) (fun _ _ _ h => h) (by rfl) (v := ?_) (fun w hSw => ?_) hS (fun hS => ?_)
              rotate_left
              · go_simp; try with_reducible rfl
              try go_frame
              refine held_pure (i := 12) (oi := ⟨some 40, _, _, _, _, _⟩) rfl (by kernel_rfl) (by kernel_rfl) (by kernel_rfl) (fun _ _ _ h => h) (by rfl) (v := .int .i64 ((r * 6 : Nat) : Int)) (fun w hSw => by rcases h7 with rfl | rfl | rfl | rfl | rfl | rfl | rfl <;> go_simp <;> first | done | decide) hS (fun hS => ?_)
              try go_frame
              refine held_pure (i := 13) (oi := ⟨some 41, _, _, _, _, _⟩) rfl (by kernel_rfl) (by kernel_rfl) (by kernel_rfl) (fun _ _ _ h => h) (by rfl) (v := .int .i64 ((shN r now : Nat) : Int)) (fun w hSw => by rcases h7 with rfl | rfl | rfl | rfl | rfl | rfl | rfl <;> go_simp <;> simp [shN]) hS (fun hS => ?_)
              try go_frame
              refine held_pure (i := 14) (oi := ⟨some 42, _, _, _, _, _⟩) rfl (by kernel_rfl) (by kernel_rfl) (by kernel_rfl) (fun _ _ _ h => h) (by rfl) (v := .bool false) (fun w hSw => by go_simp; try exact dG) hS (fun hS => ?_)
              try go_frame
              refine held_pure (i := 15) (oi := ⟨some 27, _, _, _, _, _⟩) rfl (by kernel_rfl) (by kernel_rfl) (by kernel_rfl) (fun _ _ _ h => h) (by rfl) (v := ?_) (fun w hSw => ?_) hS (fun hS => ?_)
              rotate_left
              · go_simp; try with_reducible rfl
              try go_frame
              refine wpAnyH_done (by kernel_rfl) ?_ _
              obtain ⟨L0, hL0⟩ : ∃ L0, L0 = K.length := ⟨_, rfl⟩
              have hL0' : L0 ≤ 1000 := by have h1 := HEL.out; have h2 := congrArg List.length HC.out.e; rw [List.length_append] at h2; omega
              have HL0 := Lib.hid hL0
              have HCD := Lib.hid HC.out.drew
              have HRN : Hid (∀ e ∈ R, 64 * r + (i + 1) ≤ e.q) := Lib.hid (fun k hk => by
                have hp := HS.out
                rw [HC.out.e, List.pairwise_append] at hp
                have h1 := (List.pairwise_cons.1 hp.2.1).1 k hk
                omega)
              clear kl ka KL KA hL0 dG HTE HT hS
              go_wp2
              go_loopw [5] (fun v wq => ∃ vv : Value, vv = v ∧ (Hid (Sc w B0 d M most now0 E K (e :: R) N vv wq) ∨ Hid (Sc w B0 d M most now0 E (K ++ [e]) R N vv wq)))
                (fun v _ => L0 + 1 - slLen v)
              case atStart => exact ⟨_, rfl, .inl HCD⟩
              case round =>
                clear HCD HC
                obtain ⟨v6, rfl, HC | HC⟩ := hrel
                · obtain ⟨T, hT⟩ := HC.out.T
                  have kl : wr.cell? ⟨d, r * 128 + i * 2, none⟩ = some (.pointer (some ⟨e.b, 0, none⟩)) := by
                    have := hT.1.l0 (q := 64 * r + i) (by omega)
                    rw [← heq, hT.2.1 e (List.mem_cons_self ..), show 2 * e.q = r * 128 + i * 2 from by omega] at this
                    exact this
                  have HT := Lib.hid hT
                  have hsl := HC.out.sl
                  rw [← HL0.out] at hsl
                  have HSL := Lib.hid hsl
                  obtain ⟨V2, hV2⟩ : ∃ V2, V2 = wr.alloc (.cells #[.pointer (some ⟨e.b, 0, none⟩)] 57) := ⟨_, rfl⟩
                  have HV2 := Lib.hid hV2
                  have b2 : Below w.heap.size wr V2 := by rw [hV2]; exact (Below.refl _ wr).alloc HC.out.size _
                  have b2' : Below wr.heap.size wr V2 := by rw [hV2]; exact (Below.refl _ wr).alloc (Nat.le_refl _) _
                  have hcy : V2.cell? ⟨wr.heap.size, 0, none⟩ = some (.pointer (some ⟨e.b, 0, none⟩)) := by rw [hV2]; exact cells_at (i := 0) (World.alloc_heap_new wr _) rfl
                  have hov : V2.ownsRow w.heap.size 57 1 v6 K.length (K.flatMap clP_) := own_below HC.out.own b2'
                  rw [← HL0.out] at hov
                  have hz2 : w.heap.size ≤ V2.heap.size := Nat.le_trans HC.out.size b2.size
                  have hqlt : e.q < 448 := by omega
                  clear hV2 hT hsl b2'
                  go_upto_region 13 with (first
                    | (at_builtin; rw [← HV2.out]; refine append_ptW rfl _ _ rfl w.heap.size v6 L0 (K.flatMap clP_) rfl hov wr.heap.size (some ⟨e.b, 0, none⟩) rfl hcy (by omega) hz2 ?_; intro v4 w4 hown4 hgrow; have b4 := b2.grown hgrow hz2 (fun k hk => own_block_ge hov k hk); have HOW := Lib.hid hown4; clear hown4 hgrow))
                  have hT4 := HT.out.1.of_block (b4.block d (by obtain ⟨T0, h9, _⟩ := H.out.T; exact h9.lt))
                  have kl4 : w4.cell? ⟨d, r * 128 + i * 2, none⟩ = some (.pointer (some ⟨e.b, 0, none⟩)) := by
                    have := hT4.l0 (q := 64 * r + i) (by omega)
                    rw [← heq, HT.out.2.1 e (List.mem_cons_self ..), show 2 * e.q = r * 128 + i * 2 from by omega] at this
                    exact this
                  have ht4 := (b4.block e.b (by have := heap_lt (H.out.tm e heE).1; exact this)).trans (HC.out.r e (List.mem_cons_self ..))
                  have HLV := Lib.hid (wleave hT4 hqlt (HT.out.2.1 e (List.mem_cons_self ..)) ht4)
                  have HB4 := Lib.hid b4
                  clear hT4 ht4 b4 hov hcy b2 kl
                  go_wp2_with (go_at_call 28; refine HLV.out.mono ?_; rintro e2 w5 ⟨rfl, hw5, ht5, hk5⟩; have HW5 := Lib.hid hw5; have HT5 := Lib.hid ht5; have HK5 := Lib.hid hk5; clear hw5 ht5 hk5)
                  have hnew := Sc.took H.out HC.out HB4.out (by rw [← HL0.out]; exact HOW.out) HT.out HW5.out HT5.out HK5.out
                  have hs4 := hnew.sl
                  go_roundw
                  case rel => exact ⟨v4, rfl, .inr (Lib.hid hnew)⟩
                  case measure =>
                    rw [List.length_append, ← HL0.out] at hs4
                    have := HSL.out
                    simp at hs4
                    omega
                · obtain ⟨T, hT1, hT2, hT3⟩ := HC.out.T
                  have kl : wr.cell? ⟨d, r * 128 + i * 2, none⟩ = some (.pointer none) := by
                    have := hT1.l0 (q := 64 * r + i) (by omega)
                    rw [hT3 _ (fun k hk => by have := HRN.out k hk; omega), show 2 * (64 * r + i) = r * 128 + i * 2 from by omega] at this
                    exact this
                  clear hT1 hT2 hT3
                  go_wp2
                  go_roundw
                  case rel => exact ⟨i + 1, K ++ [e], R, _, rfl, by omega, by simp, HC, Lib.hid (fun k hk => by rcases List.mem_append.1 hk with h9 | h9; exact HK.out k h9; rw [List.mem_singleton] at h9; rw [h9]; exact HKE.out), HRN⟩
                  case measure => simp [intOf]; omega
          · have hnone : ∀ e ∈ R, e.q ≠ 64 * r + i := fun e he e2 => by
              have hp := HS.out
              rw [HC.out.e, List.pairwise_append] at hp
              cases R with
              | nil => cases he
              | cons k R =>
                rcases List.mem_cons.1 he with rfl | he'
                · exact hin ⟨_, R, rfl, e2⟩
                · have h1 := (List.pairwise_cons.1 hp.2.1).1 e he'
                  have h2 := HR.out k (List.mem_cons_self ..)
                  omega
            obtain ⟨T, hT1, hT2, hT3⟩ := HC.out.T
            have kl : wr.cell? ⟨d, r * 128 + i * 2, none⟩ = some (.pointer none) := by
              have := hT1.l0 (q := 64 * r + i) (by omega)
              rw [hT3 _ hnone, show 2 * (64 * r + i) = r * 128 + i * 2 from by omega] at this
              exact this
            have HRN : Hid (∀ e ∈ R, 64 * r + (i + 1) ≤ e.q) := Lib.hid (fun e he => by have h1 := HR.out e he; have h2 := hnone e he; omega)
            clear hnone hT1 hT2 hT3 hin
            go_wp2
            go_roundw
            case rel => exact ⟨i + 1, K, R, _, rfl, by omega, by simp, HC, HK, HRN⟩
            case measure => simp [intOf]; omega
        · obtain rfl : i = 64 := by omega
          go_wp2
          go_roundw
          case rel => exact ⟨r + 1, K, R, _, rfl, by omega, by simp, HC, HK, Lib.hid (fun e he => by have := HR.out e he; omega)⟩
          case measure => simp [intOf]; omega
    · obtain rfl : r = 7 := by omega
      have hRn : R = [] := by
        cases R with
        | nil => rfl
        | cons e R =>
          have h1 := HR.out e (List.mem_cons_self ..)
          have h2 := (H.out.tm e (by rw [HC.out.e]; simp)).2.1
          omega
      have HTW := Lib.hid (tw_eq (p := tkN now) (R := R) HK.out (fun e' he' => by rw [hRn] at he'; cases he'))
      obtain ⟨A, c, ev⟩ := HC.out.len
      subst ev
      clear hRn
      go_wp2
      try rw [Exit.noGoto_ret]
      refine bodyPost_ret (results_tmp rfl _ _ _) rfl ?_
      have h9 := HTW.out
      rw [← HC.out.e] at h9
      rw [h9.1, h9.2]
      exact ⟨A, c, rfl, HC.out⟩
end
end Go.Proofs.Ytjgcpaepaocigaa
