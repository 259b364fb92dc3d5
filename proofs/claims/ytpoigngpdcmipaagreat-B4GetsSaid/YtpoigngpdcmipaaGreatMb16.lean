/-
  Contracts and lemmas on which the proofs of this seat stand (several texts in one). Conditions are each theorem's own.
-/
import Derived.Test.YtpoigngpdcmipaaGreatMb15
import Derived.WalkMore
namespace Go.Proofs.YtpoigngpdcmipaaGreat
open Go.RowKit Go.Shelf
set_option maxRecDepth 100000 in
set_option maxHeartbeats 2000000 in
theorem hcadd (g : Nat) (A : Option Addr) (c : Nat) (L : List XP) (a : Int) (m : Bool) (A' : Option Addr) (b : List UInt8) (c' : Nat) (w0 : World) (h : Hx w0 g A c L) (hA' : Arg w0 w0.heap.size A' c' b) (hbl : b.length ≤ 1000000)
    (ha : -9223372036854775808 ≤ a ∧ a ≤ 9223372036854775807) (hb2' : L.length + 1 ≤ 100000) :
    Calls Tryz.prog 154 #[.pointer (some ⟨g, 0, none⟩), .int .i64 a, .bool m, .slice A' b.length c'] w0 fun e w' => e = .returned (.int .i64 (addC (piE L) ⟨a, m, b⟩)) ∧ ∃ A2 c2 L2, Hx w' g A2 c2 L2 ∧ piE L2 = addCL (piE L) ⟨a, m, b⟩ ∧
      Kept (fun k => k = g ∨ (Value.slice A L.length c).ownBlock = some k) w0 w' ∧ (∀ k, (Value.slice A2 L2.length c2).ownBlock = some k → (Value.slice A L.length c).ownBlock = some k ∨ w0.heap.size ≤ k) ∧ L2.length ≤ L.length + 1 := by
  have HX := Lib.hid h
  have HV := Lib.hid h.view
  have hA := Lib.hid hA'
  obtain ⟨n, hn⟩ : ∃ n, n = L.length := ⟨_, rfl⟩
  have HN := Lib.hid hn
  obtain ⟨by0, hby0⟩ : ∃ x, x = bytesP (piE L) := ⟨_, rfl⟩
  obtain ⟨far0, hfar0⟩ : ∃ x, x = farP (piE L) := ⟨_, rfl⟩
  obtain ⟨end0, hend0⟩ : ∃ x, x = endedP (piE L) := ⟨_, rfl⟩
  have HBY := Lib.hid hby0
  have HFA := Lib.hid hfar0
  have HEN := Lib.hid hend0
  have hfr : farP (piE L) ≤ 65535 := farP_le _ (by omega) (fun x hx => (h.ris.ok x hx).2)
  have hf0 := far_nn (piE L)
  have hby : 0 ≤ by0 ∧ by0 ≤ 100000000000 := by
    have h1 := (bytes_gaps h.ris (up0 h.ris)).1
    rw [last0 h.ris] at h1
    have h2 := catP_length (piE L)
    omega
  have hfb : 0 ≤ far0 ∧ far0 ≤ 65535 := by omega
  have hg0 := h.obj
  have hO0 := h.own
  have hNI0 := h.nil_
  rw [← hn] at hg0 hO0 hNI0
  rw [← hby0, ← hfar0, ← hend0] at hg0
  have HO := Lib.hid hO0
  have HNI := Lib.hid hNI0
  have HB := Lib.hid h.byt
  have hn1 : n ≤ 100000 := by rw [hn]; exact h.n
  have hb2 : n + 1 ≤ 100000 := by omega
  obtain ⟨xp, hxp⟩ : ∃ xp, xp = XP.mk ⟨a, m, b⟩ A' c' := ⟨_, rfl⟩
  have HXD := Lib.hid hxp
  have HXP : Hid (Value.agg #[.int .i64 a, .bool m, .slice A' b.length c'] = .agg (clP xp).toArray) := Lib.hid (by rw [hxp]; rfl)
  have HXO : Hid (xp.p.off = a) := Lib.hid (by rw [hxp])
  have HXS : Hid (xp.p.stop = a + (b.length : Int)) := Lib.hid (by rw [hxp]; rfl)
  have HP45 : Hid (∀ (V : World) (y : XP), y ∈ L → Below w0.heap.size w0 V → Calls Tryz.prog 176 #[.agg (clP xp).toArray, .agg (clP y).toArray] V fun e w' => e = .returned (.bool (decide (y.p = xp.p))) ∧ Below V.heap.size V w') := Lib.hid (fun V y hy hV =>
    hcsame xp y w0.heap.size w0.heap.size V (by rw [hxp]; exact (hA.out.rd).below hV) ((HV.out.arg y hy).rd.below hV) hV.size hV.size)
  obtain ⟨S1, hS1⟩ : ∃ x, x = (nearP (piE L) a).any (fun x => decide (x = ⟨a, m, b⟩)) := ⟨_, rfl⟩
  obtain ⟨S2, hS2⟩ : ∃ x, x = (nearP (piE L) a).any (meetsP ⟨a, m, b⟩) := ⟨_, rfl⟩
  have HS1 := Lib.hid hS1.symm
  have HS2 := Lib.hid hS2.symm
  have HS1X : Hid ((nearX L a).any (fun y => decide (y.p = xp.p)) = S1) := Lib.hid (by rw [hxp, hS1]; exact nearX_any L a (fun x => decide (x = ⟨a, m, b⟩)))
  have HS2X : Hid ((nearX L a).any (fun y => meetsP xp.p y.p) = S2) := Lib.hid (by rw [hxp, hS2]; exact nearX_any L a (meetsP ⟨a, m, b⟩))
  have hgw := heap_lt hg0
  obtain ⟨X, hX⟩ : ∃ X, X = w0.alloc (.cells (clP xp).toArray 225) := ⟨_, rfl⟩
  have HXE := Lib.hid hX
  have hbX : Below w0.heap.size w0 X := by rw [hX]; exact (Below.refl _ w0).alloc (Nat.le_refl _) _
  have HXZ := Lib.hid hbX.size
  have huX : X.heap[w0.heap.size]? = some (.cells (clP xp).toArray 225 (0, 0)) := by rw [hX]; exact World.alloc_heap_new w0 _
  have hgX := (hbX.block g hgw).trans hg0
  have hgz := heap_lt hgX
  have huz := heap_lt huX
  have HRI := Lib.hid h.ris
  clear h hA' hn hby0 hfar0 hend0 hfr hf0 hO0 hNI0 hxp hS1 hS2 hX hb2'
  by_cases hbad : badP ⟨a, m, b⟩
  · have HBD := Lib.hid hbad
    have HCK : Hid ((if a < 0 ∨ (m = true ∧ ((b.length : Int) = 0 ∨ (b.length : Int) % 8 ≠ 0)) then (4 : Int) else if a > 65535 - (b.length : Int) then 6 else 0) = 4) := Lib.hid (if_pos hbad)
    clear hbad
    go_enter Tryz.func154, Tryz.ntmps154
    go_wp2_with (first | (go_at_call 175; refine (hccheck1 a _ m _ (by omega) (by omega) ha).mono ?_; rintro e w1 ⟨rfl, rfl⟩; rw [HCK.out]) | (go_at_call 128; refine (hcmade1 g _ HV.out.made).mono ?_; rintro e w1 ⟨rfl, rfl⟩))
    go_ret
    have bN := Below.refl w0.heap.size w0
    have hE : addC (piE L) ⟨a, m, b⟩ = 4 := by rw [addC, if_pos HBD.out]
    exact ⟨by rw [hE]; rfl, A, c, L, HX.out.below bN, by rw [addCL]; first | rw [if_neg (by rw [hE]; decide)] | rw [if_pos hE, HS1.out, if_pos rfl], Kept.of_below bN, fun k hk => .inl hk, Nat.le_succ _⟩
  · by_cases hlong : a > 65535 - (b.length : Int)
    · have HBD := Lib.hid hbad
      have HLG := Lib.hid hlong
      have HCK : Hid ((if a < 0 ∨ (m = true ∧ ((b.length : Int) = 0 ∨ (b.length : Int) % 8 ≠ 0)) then (4 : Int) else if a > 65535 - (b.length : Int) then 6 else 0) = 6) := Lib.hid (by rw [if_neg (by exact hbad), if_pos hlong])
      clear hbad hlong
      go_enter Tryz.func154, Tryz.ntmps154
      go_wp2_with (first | (go_at_call 175; refine (hccheck1 a _ m _ (by omega) (by omega) ha).mono ?_; rintro e w1 ⟨rfl, rfl⟩; rw [HCK.out]) | (go_at_call 128; refine (hcmade1 g _ HV.out.made).mono ?_; rintro e w1 ⟨rfl, rfl⟩))
      go_ret
      have bN := Below.refl w0.heap.size w0
      have hE : addC (piE L) ⟨a, m, b⟩ = 6 := by rw [addC, if_neg HBD.out, if_pos (by exact HLG.out)]
      exact ⟨by rw [hE]; rfl, A, c, L, HX.out.below bN, by rw [addCL]; first | rw [if_neg (by rw [hE]; decide)] | rw [if_pos hE, HS1.out, if_pos rfl], Kept.of_below bN, fun k hk => .inl hk, Nat.le_succ _⟩
    · have HBD := Lib.hid hbad
      have HLG := Lib.hid hlong
      have HCK : Hid ((if a < 0 ∨ (m = true ∧ ((b.length : Int) = 0 ∨ (b.length : Int) % 8 ≠ 0)) then (4 : Int) else if a > 65535 - (b.length : Int) then 6 else 0) = 0) := Lib.hid (by rw [if_neg (by exact hbad), if_neg hlong])
      have hx0 : 0 ≤ a := by
        have : ¬ a < 0 := fun h => hbad (.inl h)
        omega
      have hx1 : a + (b.length : Int) ≤ 65535 := by omega
      have HP46 : Hid (∀ (V : World) (y : XP), y ∈ L → Below w0.heap.size w0 V → Calls Tryz.prog 177 #[.agg (clP xp).toArray, .agg (clP y).toArray] V fun e w' => e = .returned (.bool (meetsP xp.p y.p)) ∧ Below V.heap.size V w') := Lib.hid (fun V y hy _ => by
        have hy1 := HRI.out.ok y.p (List.mem_map.2 ⟨y, hy, rfl⟩)
        exact hcmeets xp y V (by rw [HXO.out]; exact hx0) (by rw [HXS.out]; omega) hy1.1 (by omega))
      clear hbad hlong
      go_enter Tryz.func154, Tryz.ntmps154
      cases S1 with
      | true =>
        go_wp2_with (first | (go_at_call 172; refine (hccontains 176 (.agg (clP xp).toArray) (fun y => decide (y.p = xp.p)) A1 c1 (nearX L a) X.heap.size w2 eg45 RD1.out x2.size (nearX_le _ _ HN.out hn1) (fun V y hy hV => (HP45.out V y (nearX_sub y hy) ((hbX.trans (x2.mono HXZ.out)).trans (hV.mono (Nat.le_trans HXZ.out x2.size)))).mono fun e w' h9 => ⟨h9.1, hV.trans (h9.2.mono hV.size)⟩)).mono ?_; rintro e w3 ⟨rfl, x3⟩; rw [HS1X.out]) | ((with_reducible show wpList _ _ _ (Oper.mk _ (Op.load 225 _) _ _ _ _ :: _) _ _); refine wpList_val rfl (run_load_hp rfl rfl (range_heap ((x2.block _ huz).trans huX)) rfl) ?_) | (go_at_call 173; refine (hcnear g a A c L _ (HV.out.below hbX)).mono ?_; rintro e w2 ⟨⟨A1, c1, rfl, rd1⟩, x2⟩; have RD1 := Lib.hid rd1; clear rd1) | ((with_reducible show wpList _ _ _ (Oper.mk _ (Op.store 225 _ _) _ _ _ _ :: _) _ _); refine hp_store_new (cs := (clP xp).toArray) rfl HXP.out rfl rfl (clP_one xp) ?_; rw [← HXE.out]) | (go_at_call 175; refine (hccheck1 a _ m _ (by omega) (by omega) ha).mono ?_; rintro e w1 ⟨rfl, rfl⟩; rw [HCK.out]) | (go_at_call 128; refine (hcmade1 g _ HV.out.made).mono ?_; rintro e w1 ⟨rfl, rfl⟩))
        go_ret
        have bN := ((hbX.trans (x2.mono HXZ.out)).trans (x3.mono (Nat.le_trans HXZ.out x2.size)))
        have hE : addC (piE L) ⟨a, m, b⟩ = 0 := by rw [addC, if_neg HBD.out, if_neg (by have := HLG.out; show ¬ a > 65535 - (b.length : Int); omega), HS1.out, if_pos rfl]
        exact ⟨by rw [hE]; rfl, A, c, L, HX.out.below bN, by rw [addCL]; first | rw [if_neg (by rw [hE]; decide)] | rw [if_pos hE, HS1.out, if_pos rfl], Kept.of_below bN, fun k hk => .inl hk, Nat.le_succ _⟩
      | false =>
        cases S2 with
        | true =>
          go_wp2_with (first | (go_at_call 172; refine (hccontains 177 (.agg (clP xp).toArray) (fun y => meetsP xp.p y.p) A1 c1 (nearX L a) X.heap.size w3 eg46 (RD1.out.below (x3.mono x2.size)) (Nat.le_trans x2.size x3.size) (nearX_le _ _ HN.out hn1) (fun V y hy hV => (HP46.out V y (nearX_sub y hy) (((hbX.trans (x2.mono HXZ.out)).trans (x3.mono (Nat.le_trans HXZ.out x2.size))).trans (hV.mono (Nat.le_trans HXZ.out (Nat.le_trans x2.size x3.size))))).mono fun e w' h9 => ⟨h9.1, hV.trans (h9.2.mono hV.size)⟩)).mono ?_; rintro e w4 ⟨rfl, x4⟩; rw [HS2X.out]) | (go_at_call 172; refine (hccontains 176 (.agg (clP xp).toArray) (fun y => decide (y.p = xp.p)) A1 c1 (nearX L a) X.heap.size w2 eg45 RD1.out x2.size (nearX_le _ _ HN.out hn1) (fun V y hy hV => (HP45.out V y (nearX_sub y hy) ((hbX.trans (x2.mono HXZ.out)).trans (hV.mono (Nat.le_trans HXZ.out x2.size)))).mono fun e w' h9 => ⟨h9.1, hV.trans (h9.2.mono hV.size)⟩)).mono ?_; rintro e w3 ⟨rfl, x3⟩; rw [HS1X.out]) | ((with_reducible show wpList _ _ _ (Oper.mk _ (Op.load 225 _) _ _ _ _ :: _) _ _); refine wpList_val rfl (run_load_hp rfl rfl (range_heap ((x3.block _ (Nat.lt_of_lt_of_le huz x2.size)).trans ((x2.block _ huz).trans huX))) rfl) ?_) | ((with_reducible show wpList _ _ _ (Oper.mk _ (Op.load 225 _) _ _ _ _ :: _) _ _); refine wpList_val rfl (run_load_hp rfl rfl (range_heap ((x2.block _ huz).trans huX)) rfl) ?_) | (go_at_call 173; refine (hcnear g a A c L _ (HV.out.below hbX)).mono ?_; rintro e w2 ⟨⟨A1, c1, rfl, rd1⟩, x2⟩; have RD1 := Lib.hid rd1; clear rd1) | ((with_reducible show wpList _ _ _ (Oper.mk _ (Op.store 225 _ _) _ _ _ _ :: _) _ _); refine hp_store_new (cs := (clP xp).toArray) rfl HXP.out rfl rfl (clP_one xp) ?_; rw [← HXE.out]) | (go_at_call 175; refine (hccheck1 a _ m _ (by omega) (by omega) ha).mono ?_; rintro e w1 ⟨rfl, rfl⟩; rw [HCK.out]) | (go_at_call 128; refine (hcmade1 g _ HV.out.made).mono ?_; rintro e w1 ⟨rfl, rfl⟩))
          go_ret
          have bN := (((hbX.trans (x2.mono HXZ.out)).trans (x3.mono (Nat.le_trans HXZ.out x2.size))).trans (x4.mono (Nat.le_trans HXZ.out (Nat.le_trans x2.size x3.size))))
          have hE : addC (piE L) ⟨a, m, b⟩ = 9 := by rw [addC, if_neg HBD.out, if_neg (by have := HLG.out; show ¬ a > 65535 - (b.length : Int); omega), HS1.out, if_neg (by decide), HS2.out, if_pos rfl]
          exact ⟨by rw [hE]; rfl, A, c, L, HX.out.below bN, by rw [addCL]; first | rw [if_neg (by rw [hE]; decide)] | rw [if_pos hE, HS1.out, if_pos rfl], Kept.of_below bN, fun k hk => .inl hk, Nat.le_succ _⟩
        | false =>
          go_upto_region 12 with (first | (go_at_call 172; refine (hccontains 177 (.agg (clP xp).toArray) (fun y => meetsP xp.p y.p) A1 c1 (nearX L a) X.heap.size w3 eg46 (RD1.out.below (x3.mono x2.size)) (Nat.le_trans x2.size x3.size) (nearX_le _ _ HN.out hn1) (fun V y hy hV => (HP46.out V y (nearX_sub y hy) (((hbX.trans (x2.mono HXZ.out)).trans (x3.mono (Nat.le_trans HXZ.out x2.size))).trans (hV.mono (Nat.le_trans HXZ.out (Nat.le_trans x2.size x3.size))))).mono fun e w' h9 => ⟨h9.1, hV.trans (h9.2.mono hV.size)⟩)).mono ?_; rintro e w4 ⟨rfl, x4⟩; rw [HS2X.out]) | (go_at_call 172; refine (hccontains 176 (.agg (clP xp).toArray) (fun y => decide (y.p = xp.p)) A1 c1 (nearX L a) X.heap.size w2 eg45 RD1.out x2.size (nearX_le _ _ HN.out hn1) (fun V y hy hV => (HP45.out V y (nearX_sub y hy) ((hbX.trans (x2.mono HXZ.out)).trans (hV.mono (Nat.le_trans HXZ.out x2.size)))).mono fun e w' h9 => ⟨h9.1, hV.trans (h9.2.mono hV.size)⟩)).mono ?_; rintro e w3 ⟨rfl, x3⟩; rw [HS1X.out]) | ((with_reducible show wpList _ _ _ (Oper.mk _ (Op.load 225 _) _ _ _ _ :: _) _ _); refine wpList_val rfl (run_load_hp rfl rfl (range_heap ((x3.block _ (Nat.lt_of_lt_of_le huz x2.size)).trans ((x2.block _ huz).trans huX))) rfl) ?_) | ((with_reducible show wpList _ _ _ (Oper.mk _ (Op.load 225 _) _ _ _ _ :: _) _ _); refine wpList_val rfl (run_load_hp rfl rfl (range_heap ((x2.block _ huz).trans huX)) rfl) ?_) | (go_at_call 173; refine (hcnear g a A c L _ (HV.out.below hbX)).mono ?_; rintro e w2 ⟨⟨A1, c1, rfl, rd1⟩, x2⟩; have RD1 := Lib.hid rd1; clear rd1) | ((with_reducible show wpList _ _ _ (Oper.mk _ (Op.store 225 _ _) _ _ _ _ :: _) _ _); refine hp_store_new (cs := (clP xp).toArray) rfl HXP.out rfl rfl (clP_one xp) ?_; rw [← HXE.out]) | (go_at_call 175; refine (hccheck1 a _ m _ (by omega) (by omega) ha).mono ?_; rintro e w1 ⟨rfl, rfl⟩; rw [HCK.out]) | (go_at_call 128; refine (hcmade1 g _ HV.out.made).mono ?_; rintro e w1 ⟨rfl, rfl⟩))
          have hg4 := (x4.block g (Nat.lt_of_lt_of_le hgz (Nat.le_trans x2.size x3.size))).trans ((x3.block g (Nat.lt_of_lt_of_le hgz x2.size)).trans ((x2.block g hgz).trans hgX))
          have hu4 := (x4.block _ (Nat.lt_of_lt_of_le huz (Nat.le_trans x2.size x3.size))).trans ((x3.block _ (Nat.lt_of_lt_of_le huz x2.size)).trans ((x2.block _ huz).trans huX))
          have hgz4 := heap_lt hg4
          have huz4 := heap_lt hu4
          have b4 := (((hbX.trans (x2.mono HXZ.out)).trans (x3.mono (Nat.le_trans HXZ.out x2.size))).trans (x4.mono (Nat.le_trans HXZ.out (Nat.le_trans x2.size x3.size))))
          cases hen : end0 with
          | true =>
            rw [hen] at hg4
            cases hmo : m with
            | false =>
              have hlate : Hid ((endedP (piE L) = true ∧ (m = false ∨ (Pc.mk a m b).stop > farP (piE L))) ∨ (m = false ∧ (Pc.mk a m b).stop < farP (piE L))) := Lib.hid (.inl ⟨by rw [← HEN.out]; exact hen, .inl hmo⟩)
              refine wp_region_held_drew (S := fun w' => Below w4.heap.size w4 w') (by kernel_rfl) (Below.refl _ w4).drew (fun hS => ?_)
              refine held_pure (i := 0) (oi := ⟨some 41, _, _, _, _, _⟩) rfl (by kernel_rfl) (by kernel_rfl) (by kernel_rfl) (fun _ _ _ h => h) (by rfl) (v := ?_) (fun w hSw => ?_) hS (fun hS => ?_)
              rotate_left
              · go_simp; try with_reducible rfl
              try go_frame
              refine held_pure (i := 1) (oi := ⟨some 42, _, _, _, _, _⟩) rfl (by kernel_rfl) (by kernel_rfl) (by kernel_rfl) (fun _ _ _ h => h) (by rfl) (v := ?_) (fun w hSw => ?_) hS (fun hS => ?_)
              rotate_left
              · go_simp; try with_reducible rfl
              try go_frame
              refine held_pure (i := 2) (oi := ⟨some 43, _, _, _, _, _⟩) rfl (by kernel_rfl) (by kernel_rfl) (by kernel_rfl) (fun _ _ _ h => h) (by rfl) (v := ?_) (fun w hSw => ?_) hS (fun hS => ?_)
              rotate_left
              · go_simp; try with_reducible rfl
              try go_frame
              refine held_pure (i := 3) (oi := ⟨some 44, _, _, _, _, _⟩) rfl (by kernel_rfl) (by kernel_rfl) (by kernel_rfl) (fun _ _ _ h => h) (by rfl) (fun w hSw => run_load_bool rfl rfl (cells_at (i := 4) ((hSw.block g hgz4).trans hg4) rfl)) hS (fun hS => ?_)
              try go_frame
              refine held_pure (i := 4) (oi := ⟨some 45, _, _, _, _, _⟩) rfl (by kernel_rfl) (by kernel_rfl) (by kernel_rfl) (fun _ _ _ h => h) (by rfl) (v := ?_) (fun w hSw => ?_) hS (fun hS => ?_)
              rotate_left
              · go_simp; try with_reducible rfl
              try go_frame
              refine held_pure (i := 5) (oi := ⟨some 46, _, _, _, _, _⟩) rfl (by kernel_rfl) (by kernel_rfl) (by kernel_rfl) (fun _ _ _ h => h) (by rfl) (v := ?_) (fun w hSw => ?_) hS (fun hS => ?_)
              rotate_left
              · go_simp; try with_reducible rfl
              try go_frame
              refine held_pure (i := 6) (oi := ⟨some 47, _, _, _, _, _⟩) rfl (by kernel_rfl) (by kernel_rfl) (by kernel_rfl) (fun _ _ _ h => h) (by rfl) (v := ?_) (fun w hSw => ?_) hS (fun hS => ?_)
              rotate_left
              · go_simp; try with_reducible rfl
              try go_frame
              refine held_pure (i := 7) (oi := ⟨some 48, _, _, _, _, _⟩) rfl (by kernel_rfl) (by kernel_rfl) (by kernel_rfl) (fun _ _ _ h => h) (by rfl) (v := ?_) (fun w hSw => ?_) hS (fun hS => ?_)
              rotate_left
              · go_simp; try with_reducible rfl
              try go_frame
              refine held_skip (i := 8) (oi := ⟨some 49, _, _, _, _, _⟩) rfl (by kernel_rfl) (by kernel_rfl) (by kernel_rfl) (fun _ _ _ h => h) (by rfl) hS (fun hS => ?_)
              try go_frame
              refine held_skip (i := 9) (oi := ⟨some 50, _, _, _, _, _⟩) rfl (by kernel_rfl) (by kernel_rfl) (by kernel_rfl) (fun _ _ _ h => h) (by rfl) hS (fun hS => ?_)
              try go_frame
              refine held_skip (i := 10) (oi := ⟨some 51, _, _, _, _, _⟩) rfl (by kernel_rfl) (by kernel_rfl) (by kernel_rfl) (fun _ _ _ h => h) (by rfl) hS (fun hS => ?_)
              try go_frame
              refine held_skip (i := 11) (oi := ⟨some 52, _, _, _, _, _⟩) rfl (by kernel_rfl) (by kernel_rfl) (by kernel_rfl) (fun _ _ _ h => h) (by rfl) hS (fun hS => ?_)
              try go_frame
              refine held_skip (i := 12) (oi := ⟨some 53, _, _, _, _, _⟩) rfl (by kernel_rfl) (by kernel_rfl) (by kernel_rfl) (fun _ _ _ h => h) (by rfl) hS (fun hS => ?_)
              try go_frame
              refine held_skip (i := 13) (oi := ⟨some 54, _, _, _, _, _⟩) rfl (by kernel_rfl) (by kernel_rfl) (by kernel_rfl) (fun _ _ _ h => h) (by rfl) hS (fun hS => ?_)
              try go_frame
              refine held_skip (i := 14) (oi := ⟨some 55, _, _, _, _, _⟩) rfl (by kernel_rfl) (by kernel_rfl) (by kernel_rfl) (fun _ _ _ h => h) (by rfl) hS (fun hS => ?_)
              try go_frame
              refine held_pure (i := 15) (oi := ⟨some 56, _, _, _, _, _⟩) rfl (by kernel_rfl) (by kernel_rfl) (by kernel_rfl) (fun _ _ _ h => h) (by rfl) (v := ?_) (fun w hSw => ?_) hS (fun hS => ?_)
              rotate_left
              · go_simp; try with_reducible rfl
              try go_frame
              refine held_pure (i := 16) (oi := ⟨some 57, _, _, _, _, _⟩) rfl (by kernel_rfl) (by kernel_rfl) (by kernel_rfl) (fun _ _ _ h => h) (by rfl) (v := ?_) (fun w hSw => ?_) hS (fun hS => ?_)
              rotate_left
              · go_simp; try with_reducible rfl
              try go_frame
              refine held_pure (i := 17) (oi := ⟨some 40, _, _, _, _, _⟩) rfl (by kernel_rfl) (by kernel_rfl) (by kernel_rfl) (fun _ _ _ h => h) (by rfl) (v := ?_) (fun w hSw => ?_) hS (fun hS => ?_)
              rotate_left
              · go_simp; try with_reducible rfl
              try go_frame
              refine wpAnyH_done (by kernel_rfl) ?_ _
              have bS := b4.trans (hS.mono (Nat.le_trans HXZ.out (Nat.le_trans x2.size (Nat.le_trans x3.size x4.size))))
              go_wp2_with fail
              go_ret
              have bN := bS
              have hE : addC (piE L) ⟨a, m, b⟩ = 4 := by rw [addC, if_neg HBD.out, if_neg (by have := HLG.out; show ¬ a > 65535 - (b.length : Int); omega), HS1.out, if_neg (by decide), HS2.out, if_neg (by decide), if_pos hlate.out]
              exact ⟨by rw [hE]; rfl, A, c, L, HX.out.below bN, by rw [addCL]; first | rw [if_neg (by rw [hE]; decide)] | rw [if_pos hE, HS1.out, if_pos rfl], Kept.of_below bN, fun k hk => .inl hk, Nat.le_succ _⟩
            | true =>
              by_cases hq : a + (b.length : Int) > far0
              · have hlate : Hid ((endedP (piE L) = true ∧ (m = false ∨ (Pc.mk a m b).stop > farP (piE L))) ∨ (m = false ∧ (Pc.mk a m b).stop < farP (piE L))) := Lib.hid (.inl ⟨by rw [← HEN.out]; exact hen, .inr (by rw [← HFA.out]; exact hq)⟩)
                have HQ : Hid (decide (a + (b.length : Int) > far0) = true) := Lib.hid (decide_eq_true hq)
                clear hq
                refine wp_region_held_drew (S := fun w' => Below w4.heap.size w4 w') (by kernel_rfl) (Below.refl _ w4).drew (fun hS => ?_)
                refine held_pure (i := 0) (oi := ⟨some 41, _, _, _, _, _⟩) rfl (by kernel_rfl) (by kernel_rfl) (by kernel_rfl) (fun _ _ _ h => h) (by rfl) (v := ?_) (fun w hSw => ?_) hS (fun hS => ?_)
                rotate_left
                · go_simp; try with_reducible rfl
                try go_frame
                refine held_pure (i := 1) (oi := ⟨some 42, _, _, _, _, _⟩) rfl (by kernel_rfl) (by kernel_rfl) (by kernel_rfl) (fun _ _ _ h => h) (by rfl) (v := ?_) (fun w hSw => ?_) hS (fun hS => ?_)
                rotate_left
                · go_simp; try with_reducible rfl
                try go_frame
                refine held_pure (i := 2) (oi := ⟨some 43, _, _, _, _, _⟩) rfl (by kernel_rfl) (by kernel_rfl) (by kernel_rfl) (fun _ _ _ h => h) (by rfl) (v := ?_) (fun w hSw => ?_) hS (fun hS => ?_)
                rotate_left
                · go_simp; try with_reducible rfl
                try go_frame
                refine held_pure (i := 3) (oi := ⟨some 44, _, _, _, _, _⟩) rfl (by kernel_rfl) (by kernel_rfl) (by kernel_rfl) (fun _ _ _ h => h) (by rfl) (fun w hSw => run_load_bool rfl rfl (cells_at (i := 4) ((hSw.block g hgz4).trans hg4) rfl)) hS (fun hS => ?_)
                try go_frame
                refine held_pure (i := 4) (oi := ⟨some 45, _, _, _, _, _⟩) rfl (by kernel_rfl) (by kernel_rfl) (by kernel_rfl) (fun _ _ _ h => h) (by rfl) (v := ?_) (fun w hSw => ?_) hS (fun hS => ?_)
                rotate_left
                · go_simp; try with_reducible rfl
                try go_frame
                refine held_pure (i := 5) (oi := ⟨some 46, _, _, _, _, _⟩) rfl (by kernel_rfl) (by kernel_rfl) (by kernel_rfl) (fun _ _ _ h => h) (by rfl) (v := ?_) (fun w hSw => ?_) hS (fun hS => ?_)
                rotate_left
                · go_simp; try with_reducible rfl
                try go_frame
                refine held_pure (i := 6) (oi := ⟨some 47, _, _, _, _, _⟩) rfl (by kernel_rfl) (by kernel_rfl) (by kernel_rfl) (fun _ _ _ h => h) (by rfl) (v := ?_) (fun w hSw => ?_) hS (fun hS => ?_)
                rotate_left
                · go_simp; try with_reducible rfl
                try go_frame
                refine held_pure (i := 7) (oi := ⟨some 48, _, _, _, _, _⟩) rfl (by kernel_rfl) (by kernel_rfl) (by kernel_rfl) (fun _ _ _ h => h) (by rfl) (v := ?_) (fun w hSw => ?_) hS (fun hS => ?_)
                rotate_left
                · go_simp; try with_reducible rfl
                try go_frame
                refine held_pure (i := 8) (oi := ⟨some 49, _, _, _, _, _⟩) rfl (by kernel_rfl) (by kernel_rfl) (by kernel_rfl) (fun _ _ _ h => h) (by rfl) (fun w hSw => run_load_hp rfl rfl (range_heap ((hSw.block _ huz4).trans hu4)) rfl) hS (fun hS => ?_)
                try go_frame
                refine held_pure (i := 10) (oi := ⟨some 51, _, _, _, _, _⟩) rfl (by kernel_rfl) (by kernel_rfl) (by kernel_rfl) (fun _ _ _ h => h) (by rfl) (v := ?_) (fun w hSw => ?_) hS (fun hS => ?_)
                rotate_left
                · go_simp; try with_reducible rfl
                try go_frame
                refine held_pure (i := 11) (oi := ⟨some 52, _, _, _, _, _⟩) rfl (by kernel_rfl) (by kernel_rfl) (by kernel_rfl) (fun _ _ _ h => h) (by rfl) (v := ?_) (fun w hSw => ?_) hS (fun hS => ?_)
                rotate_left
                · go_simp; try with_reducible rfl
                try go_frame
                refine held_pure (i := 12) (oi := ⟨some 53, _, _, _, _, _⟩) rfl (by kernel_rfl) (by kernel_rfl) (by kernel_rfl) (fun _ _ _ h => h) (by rfl) (v := ?_) (fun w hSw => ?_) hS (fun hS => ?_)
                rotate_left
                · go_simp; try with_reducible rfl
                try go_frame
                refine held_pure (i := 13) (oi := ⟨some 54, _, _, _, _, _⟩) rfl (by kernel_rfl) (by kernel_rfl) (by kernel_rfl) (fun _ _ _ h => h) (by rfl) (fun w hSw => run_load_int rfl rfl (cells_at (i := 3) ((hSw.block g hgz4).trans hg4) rfl)) hS (fun hS => ?_)
                try go_frame
                refine wpAnyH_ready (rs := [9]) (by kernel_rfl) (by simp) (AllReadyH.cons (o := ⟨some 50, _, _, _, _, _⟩) rfl (fun K hK => ?_) AllReadyH.nil)
                rw [if_pos (by rfl)]
                go_simp
                refine (hcend xp _ (by rw [HXO.out]; exact hx0) (by rw [HXS.out]; omega)).mono ?_
                rintro e w9 ⟨rfl, x9⟩
                rw [HXS.out]
                show K _ _
                refine hK.out _ _ (below_step hS x9) (fun hS => ?_)
                clear hK K
                try go_frame
                refine held_pure (i := 14) (oi := ⟨some 55, _, _, _, _, _⟩) rfl (by kernel_rfl) (by kernel_rfl) (by kernel_rfl) (fun _ _ _ h => h) (by rfl) (v := .bool true) (fun w hSw => by go_simp; (first | exact HQ.out | exact of_decide_eq_true HQ.out | (have h9 := of_decide_eq_false HQ.out; omega))) hS (fun hS => ?_)
                try go_frame
                refine held_pure (i := 15) (oi := ⟨some 56, _, _, _, _, _⟩) rfl (by kernel_rfl) (by kernel_rfl) (by kernel_rfl) (fun _ _ _ h => h) (by rfl) (v := ?_) (fun w hSw => ?_) hS (fun hS => ?_)
                rotate_left
                · go_simp; try with_reducible rfl
                try go_frame
                refine held_pure (i := 16) (oi := ⟨some 57, _, _, _, _, _⟩) rfl (by kernel_rfl) (by kernel_rfl) (by kernel_rfl) (fun _ _ _ h => h) (by rfl) (v := ?_) (fun w hSw => ?_) hS (fun hS => ?_)
                rotate_left
                · go_simp; try with_reducible rfl
                try go_frame
                refine held_pure (i := 17) (oi := ⟨some 40, _, _, _, _, _⟩) rfl (by kernel_rfl) (by kernel_rfl) (by kernel_rfl) (fun _ _ _ h => h) (by rfl) (v := ?_) (fun w hSw => ?_) hS (fun hS => ?_)
                rotate_left
                · go_simp; try with_reducible rfl
                try go_frame
                refine wpAnyH_done (by kernel_rfl) ?_ _
                have bS := b4.trans (hS.mono (Nat.le_trans HXZ.out (Nat.le_trans x2.size (Nat.le_trans x3.size x4.size))))
                go_wp2_with fail
                go_ret
                have bN := bS
                have hE : addC (piE L) ⟨a, m, b⟩ = 4 := by rw [addC, if_neg HBD.out, if_neg (by have := HLG.out; show ¬ a > 65535 - (b.length : Int); omega), HS1.out, if_neg (by decide), HS2.out, if_neg (by decide), if_pos hlate.out]
                exact ⟨by rw [hE]; rfl, A, c, L, HX.out.below bN, by rw [addCL]; first | rw [if_neg (by rw [hE]; decide)] | rw [if_pos hE, HS1.out, if_pos rfl], Kept.of_below bN, fun k hk => .inl hk, Nat.le_succ _⟩
              · have hlate : Hid (¬ ((endedP (piE L) = true ∧ (m = false ∨ (Pc.mk a m b).stop > farP (piE L))) ∨ (m = false ∧ (Pc.mk a m b).stop < farP (piE L)))) := Lib.hid (by
                  rintro (⟨_, h1 | h1⟩ | ⟨h1, _⟩)
                  · rw [hmo] at h1; cases h1
                  · rw [← HFA.out] at h1; exact hq h1
                  · rw [hmo] at h1; cases h1)
                have HQ : Hid (decide (a + (b.length : Int) > far0) = false) := Lib.hid (decide_eq_false hq)
                clear hq
                refine wp_region_held_drew (S := fun w' => Below w4.heap.size w4 w') (by kernel_rfl) (Below.refl _ w4).drew (fun hS => ?_)
                refine held_pure (i := 0) (oi := ⟨some 41, _, _, _, _, _⟩) rfl (by kernel_rfl) (by kernel_rfl) (by kernel_rfl) (fun _ _ _ h => h) (by rfl) (v := ?_) (fun w hSw => ?_) hS (fun hS => ?_)
                rotate_left
                · go_simp; try with_reducible rfl
                try go_frame
                refine held_pure (i := 1) (oi := ⟨some 42, _, _, _, _, _⟩) rfl (by kernel_rfl) (by kernel_rfl) (by kernel_rfl) (fun _ _ _ h => h) (by rfl) (v := ?_) (fun w hSw => ?_) hS (fun hS => ?_)
                rotate_left
                · go_simp; try with_reducible rfl
                try go_frame
                refine held_pure (i := 2) (oi := ⟨some 43, _, _, _, _, _⟩) rfl (by kernel_rfl) (by kernel_rfl) (by kernel_rfl) (fun _ _ _ h => h) (by rfl) (v := ?_) (fun w hSw => ?_) hS (fun hS => ?_)
                rotate_left
                · go_simp; try with_reducible rfl
                try go_frame
                refine held_pure (i := 3) (oi := ⟨some 44, _, _, _, _, _⟩) rfl (by kernel_rfl) (by kernel_rfl) (by kernel_rfl) (fun _ _ _ h => h) (by rfl) (fun w hSw => run_load_bool rfl rfl (cells_at (i := 4) ((hSw.block g hgz4).trans hg4) rfl)) hS (fun hS => ?_)
                try go_frame
                refine held_pure (i := 4) (oi := ⟨some 45, _, _, _, _, _⟩) rfl (by kernel_rfl) (by kernel_rfl) (by kernel_rfl) (fun _ _ _ h => h) (by rfl) (v := ?_) (fun w hSw => ?_) hS (fun hS => ?_)
                rotate_left
                · go_simp; try with_reducible rfl
                try go_frame
                refine held_pure (i := 5) (oi := ⟨some 46, _, _, _, _, _⟩) rfl (by kernel_rfl) (by kernel_rfl) (by kernel_rfl) (fun _ _ _ h => h) (by rfl) (v := ?_) (fun w hSw => ?_) hS (fun hS => ?_)
                rotate_left
                · go_simp; try with_reducible rfl
                try go_frame
                refine held_pure (i := 6) (oi := ⟨some 47, _, _, _, _, _⟩) rfl (by kernel_rfl) (by kernel_rfl) (by kernel_rfl) (fun _ _ _ h => h) (by rfl) (v := ?_) (fun w hSw => ?_) hS (fun hS => ?_)
                rotate_left
                · go_simp; try with_reducible rfl
                try go_frame
                refine held_pure (i := 7) (oi := ⟨some 48, _, _, _, _, _⟩) rfl (by kernel_rfl) (by kernel_rfl) (by kernel_rfl) (fun _ _ _ h => h) (by rfl) (v := ?_) (fun w hSw => ?_) hS (fun hS => ?_)
                rotate_left
                · go_simp; try with_reducible rfl
                try go_frame
                refine held_pure (i := 8) (oi := ⟨some 49, _, _, _, _, _⟩) rfl (by kernel_rfl) (by kernel_rfl) (by kernel_rfl) (fun _ _ _ h => h) (by rfl) (fun w hSw => run_load_hp rfl rfl (range_heap ((hSw.block _ huz4).trans hu4)) rfl) hS (fun hS => ?_)
                try go_frame
                refine held_pure (i := 10) (oi := ⟨some 51, _, _, _, _, _⟩) rfl (by kernel_rfl) (by kernel_rfl) (by kernel_rfl) (fun _ _ _ h => h) (by rfl) (v := ?_) (fun w hSw => ?_) hS (fun hS => ?_)
                rotate_left
                · go_simp; try with_reducible rfl
                try go_frame
                refine held_pure (i := 11) (oi := ⟨some 52, _, _, _, _, _⟩) rfl (by kernel_rfl) (by kernel_rfl) (by kernel_rfl) (fun _ _ _ h => h) (by rfl) (v := ?_) (fun w hSw => ?_) hS (fun hS => ?_)
                rotate_left
                · go_simp; try with_reducible rfl
                try go_frame
                refine held_pure (i := 12) (oi := ⟨some 53, _, _, _, _, _⟩) rfl (by kernel_rfl) (by kernel_rfl) (by kernel_rfl) (fun _ _ _ h => h) (by rfl) (v := ?_) (fun w hSw => ?_) hS (fun hS => ?_)
                rotate_left
                · go_simp; try with_reducible rfl
                try go_frame
                refine held_pure (i := 13) (oi := ⟨some 54, _, _, _, _, _⟩) rfl (by kernel_rfl) (by kernel_rfl) (by kernel_rfl) (fun _ _ _ h => h) (by rfl) (fun w hSw => run_load_int rfl rfl (cells_at (i := 3) ((hSw.block g hgz4).trans hg4) rfl)) hS (fun hS => ?_)
                try go_frame
                refine wpAnyH_ready (rs := [9]) (by kernel_rfl) (by simp) (AllReadyH.cons (o := ⟨some 50, _, _, _, _, _⟩) rfl (fun K hK => ?_) AllReadyH.nil)
                rw [if_pos (by rfl)]
                go_simp
                refine (hcend xp _ (by rw [HXO.out]; exact hx0) (by rw [HXS.out]; omega)).mono ?_
                rintro e w9 ⟨rfl, x9⟩
                rw [HXS.out]
                show K _ _
                refine hK.out _ _ (below_step hS x9) (fun hS => ?_)
                clear hK K
                try go_frame
                refine held_pure (i := 14) (oi := ⟨some 55, _, _, _, _, _⟩) rfl (by kernel_rfl) (by kernel_rfl) (by kernel_rfl) (fun _ _ _ h => h) (by rfl) (v := .bool false) (fun w hSw => by go_simp; (first | exact HQ.out | exact of_decide_eq_true HQ.out | (have h9 := of_decide_eq_false HQ.out; omega))) hS (fun hS => ?_)
                try go_frame
                refine held_pure (i := 15) (oi := ⟨some 56, _, _, _, _, _⟩) rfl (by kernel_rfl) (by kernel_rfl) (by kernel_rfl) (fun _ _ _ h => h) (by rfl) (v := ?_) (fun w hSw => ?_) hS (fun hS => ?_)
                rotate_left
                · go_simp; try with_reducible rfl
                try go_frame
                refine held_pure (i := 16) (oi := ⟨some 57, _, _, _, _, _⟩) rfl (by kernel_rfl) (by kernel_rfl) (by kernel_rfl) (fun _ _ _ h => h) (by rfl) (v := ?_) (fun w hSw => ?_) hS (fun hS => ?_)
                rotate_left
                · go_simp; try with_reducible rfl
                try go_frame
                refine held_pure (i := 17) (oi := ⟨some 40, _, _, _, _, _⟩) rfl (by kernel_rfl) (by kernel_rfl) (by kernel_rfl) (fun _ _ _ h => h) (by rfl) (v := ?_) (fun w hSw => ?_) hS (fun hS => ?_)
                rotate_left
                · go_simp; try with_reducible rfl
                try go_frame
                refine wpAnyH_done (by kernel_rfl) ?_ _
                go_upto_region 13 with fail
                have hg5 := (hS.block g hgz4).trans hg4
                have hu5 := (hS.block _ huz4).trans hu4
                have hgz5 := heap_lt hg5
                have huz5 := heap_lt hu5
                have b5 := b4.trans (hS.mono (Nat.le_trans HXZ.out (Nat.le_trans x2.size (Nat.le_trans x3.size x4.size))))
                have hbz5 := b5.size
                clear hS
                generalize w9 = W5 at *
                refine wp_region_held_drew (S := fun w' => Below W5.heap.size W5 w') (by kernel_rfl) (Below.refl _ W5).drew (fun hS => ?_)
                refine held_pure (i := 0) (oi := ⟨some 58, _, _, _, _, _⟩) rfl (by kernel_rfl) (by kernel_rfl) (by kernel_rfl) (fun _ _ _ h => h) (by rfl) (v := ?_) (fun w hSw => ?_) hS (fun hS => ?_)
                rotate_left
                · go_simp; try with_reducible rfl
                try go_frame
                refine held_pure (i := 1) (oi := ⟨some 59, _, _, _, _, _⟩) rfl (by kernel_rfl) (by kernel_rfl) (by kernel_rfl) (fun _ _ _ h => h) (by rfl) (v := ?_) (fun w hSw => ?_) hS (fun hS => ?_)
                rotate_left
                · go_simp; try with_reducible rfl
                try go_frame
                refine held_pure (i := 2) (oi := ⟨some 60, _, _, _, _, _⟩) rfl (by kernel_rfl) (by kernel_rfl) (by kernel_rfl) (fun _ _ _ h => h) (by rfl) (v := ?_) (fun w hSw => ?_) hS (fun hS => ?_)
                rotate_left
                · go_simp; try with_reducible rfl
                try go_frame
                refine held_skip (i := 3) (oi := ⟨some 61, _, _, _, _, _⟩) rfl (by kernel_rfl) (by kernel_rfl) (by kernel_rfl) (fun _ _ _ h => h) (by rfl) hS (fun hS => ?_)
                try go_frame
                refine held_skip (i := 4) (oi := ⟨some 62, _, _, _, _, _⟩) rfl (by kernel_rfl) (by kernel_rfl) (by kernel_rfl) (fun _ _ _ h => h) (by rfl) hS (fun hS => ?_)
                try go_frame
                refine held_skip (i := 5) (oi := ⟨some 63, _, _, _, _, _⟩) rfl (by kernel_rfl) (by kernel_rfl) (by kernel_rfl) (fun _ _ _ h => h) (by rfl) hS (fun hS => ?_)
                try go_frame
                refine held_skip (i := 6) (oi := ⟨some 64, _, _, _, _, _⟩) rfl (by kernel_rfl) (by kernel_rfl) (by kernel_rfl) (fun _ _ _ h => h) (by rfl) hS (fun hS => ?_)
                try go_frame
                refine held_skip (i := 7) (oi := ⟨some 65, _, _, _, _, _⟩) rfl (by kernel_rfl) (by kernel_rfl) (by kernel_rfl) (fun _ _ _ h => h) (by rfl) hS (fun hS => ?_)
                try go_frame
                refine held_skip (i := 8) (oi := ⟨some 66, _, _, _, _, _⟩) rfl (by kernel_rfl) (by kernel_rfl) (by kernel_rfl) (fun _ _ _ h => h) (by rfl) hS (fun hS => ?_)
                try go_frame
                refine held_skip (i := 9) (oi := ⟨some 67, _, _, _, _, _⟩) rfl (by kernel_rfl) (by kernel_rfl) (by kernel_rfl) (fun _ _ _ h => h) (by rfl) hS (fun hS => ?_)
                try go_frame
                refine held_pure (i := 10) (oi := ⟨some 68, _, _, _, _, _⟩) rfl (by kernel_rfl) (by kernel_rfl) (by kernel_rfl) (fun _ _ _ h => h) (by rfl) (v := ?_) (fun w hSw => ?_) hS (fun hS => ?_)
                rotate_left
                · go_simp; try with_reducible rfl
                try go_frame
                refine held_pure (i := 11) (oi := ⟨some 40, _, _, _, _, _⟩) rfl (by kernel_rfl) (by kernel_rfl) (by kernel_rfl) (fun _ _ _ h => h) (by rfl) (v := ?_) (fun w hSw => ?_) hS (fun hS => ?_)
                rotate_left
                · go_simp; try with_reducible rfl
                try go_frame
                refine wpAnyH_done (by kernel_rfl) ?_ _
                have bS := b5.trans (hS.mono hbz5)
                have bN := bS
                have huN := (hS.block _ huz5).trans hu5
                go_wp2_with (first
                  | ((with_reducible show wpList _ _ _ (Oper.mk _ (Op.load 225 _) _ _ _ _ :: _) _ _); refine wpList_val rfl (run_load_hp rfl rfl (range_heap huN) rfl) ?_)
                  | (go_at_call 179; refine (hckeep g A c n L xp by0 far0 end0 _ (HV.out.below bN) HN.out ((bN.block g hgw).trans hg0) (own_below HO.out bN) HNI.out (fun y hy => own_below (HB.out y hy) bN) (by rw [HXD.out]; exact (hA.out.below bN).more bN.size) (by rw [HXO.out]; exact hx0) (by rw [HXS.out]; omega) hby).mono ?_; rintro e w9 ⟨rfl, A2, c2, P, p, hg9, own9, byt9, k9, bl9⟩))
                go_ret
                have hE : addC (piE L) ⟨a, m, b⟩ = 0 := by rw [addC, if_neg HBD.out, if_neg (by have := HLG.out; show ¬ a > 65535 - (b.length : Int); omega), HS1.out, if_neg (by decide), HS2.out, if_neg (by decide), if_neg hlate.out]
                have hL2 : addCL (piE L) ⟨a, m, b⟩ = putP (piE L) ⟨a, m, b⟩ := by rw [addCL, if_pos hE, HS1.out, if_neg (by decide)]
                rw [HXD.out] at hg9 own9 byt9
                refine ⟨by rw [hE]; rfl, A2, c2, putX L (atP (piE L) a) ⟨⟨a, m, b⟩, P, p⟩, ?_, ?_, ?_, ?_, ?_⟩
                · rw [HBY.out, HFA.out, HEN.out] at hg9
                  exact hx_put HX.out.ris HN.out hb2 HBD.out (by have := HLG.out; omega) HS1.out HS2.out hlate.out hg9 own9 byt9 hn1
                · rw [hL2]; exact putX_pure L a ⟨⟨a, m, b⟩, P, p⟩
                · rw [HN.out] at k9; exact (Kept.of_below bN).trans k9 (fun _ _ h => h)
                · intro k hk
                  rw [putX_len HN.out a _] at hk
                  rcases bl9 k hk with h | h
                  · rw [HN.out] at h; exact .inl h
                  · exact .inr (Nat.le_trans bN.size h)
                · rw [putX_len HN.out a _, HN.out]; exact Nat.le_refl _
          | false =>
            rw [hen] at hg4
            cases hmo : m with
            | true =>
              have hlate : Hid (¬ ((endedP (piE L) = true ∧ (m = false ∨ (Pc.mk a m b).stop > farP (piE L))) ∨ (m = false ∧ (Pc.mk a m b).stop < farP (piE L)))) := Lib.hid (by
                rintro (⟨h1, _⟩ | ⟨h1, _⟩)
                · rw [← HEN.out, hen] at h1; cases h1
                · rw [hmo] at h1; cases h1)
              refine wp_region_held_drew (S := fun w' => Below w4.heap.size w4 w') (by kernel_rfl) (Below.refl _ w4).drew (fun hS => ?_)
              refine held_pure (i := 0) (oi := ⟨some 41, _, _, _, _, _⟩) rfl (by kernel_rfl) (by kernel_rfl) (by kernel_rfl) (fun _ _ _ h => h) (by rfl) (v := ?_) (fun w hSw => ?_) hS (fun hS => ?_)
              rotate_left
              · go_simp; try with_reducible rfl
              try go_frame
              refine held_pure (i := 1) (oi := ⟨some 42, _, _, _, _, _⟩) rfl (by kernel_rfl) (by kernel_rfl) (by kernel_rfl) (fun _ _ _ h => h) (by rfl) (v := ?_) (fun w hSw => ?_) hS (fun hS => ?_)
              rotate_left
              · go_simp; try with_reducible rfl
              try go_frame
              refine held_pure (i := 2) (oi := ⟨some 43, _, _, _, _, _⟩) rfl (by kernel_rfl) (by kernel_rfl) (by kernel_rfl) (fun _ _ _ h => h) (by rfl) (v := ?_) (fun w hSw => ?_) hS (fun hS => ?_)
              rotate_left
              · go_simp; try with_reducible rfl
              try go_frame
              refine held_pure (i := 3) (oi := ⟨some 44, _, _, _, _, _⟩) rfl (by kernel_rfl) (by kernel_rfl) (by kernel_rfl) (fun _ _ _ h => h) (by rfl) (fun w hSw => run_load_bool rfl rfl (cells_at (i := 4) ((hSw.block g hgz4).trans hg4) rfl)) hS (fun hS => ?_)
              try go_frame
              refine held_pure (i := 4) (oi := ⟨some 45, _, _, _, _, _⟩) rfl (by kernel_rfl) (by kernel_rfl) (by kernel_rfl) (fun _ _ _ h => h) (by rfl) (v := ?_) (fun w hSw => ?_) hS (fun hS => ?_)
              rotate_left
              · go_simp; try with_reducible rfl
              try go_frame
              refine held_skip (i := 5) (oi := ⟨some 46, _, _, _, _, _⟩) rfl (by kernel_rfl) (by kernel_rfl) (by kernel_rfl) (fun _ _ _ h => h) (by rfl) hS (fun hS => ?_)
              try go_frame
              refine held_skip (i := 6) (oi := ⟨some 47, _, _, _, _, _⟩) rfl (by kernel_rfl) (by kernel_rfl) (by kernel_rfl) (fun _ _ _ h => h) (by rfl) hS (fun hS => ?_)
              try go_frame
              refine held_skip (i := 7) (oi := ⟨some 48, _, _, _, _, _⟩) rfl (by kernel_rfl) (by kernel_rfl) (by kernel_rfl) (fun _ _ _ h => h) (by rfl) hS (fun hS => ?_)
              try go_frame
              refine held_skip (i := 8) (oi := ⟨some 49, _, _, _, _, _⟩) rfl (by kernel_rfl) (by kernel_rfl) (by kernel_rfl) (fun _ _ _ h => h) (by rfl) hS (fun hS => ?_)
              try go_frame
              refine held_skip (i := 9) (oi := ⟨some 50, _, _, _, _, _⟩) rfl (by kernel_rfl) (by kernel_rfl) (by kernel_rfl) (fun _ _ _ h => h) (by rfl) hS (fun hS => ?_)
              try go_frame
              refine held_skip (i := 10) (oi := ⟨some 51, _, _, _, _, _⟩) rfl (by kernel_rfl) (by kernel_rfl) (by kernel_rfl) (fun _ _ _ h => h) (by rfl) hS (fun hS => ?_)
              try go_frame
              refine held_skip (i := 11) (oi := ⟨some 52, _, _, _, _, _⟩) rfl (by kernel_rfl) (by kernel_rfl) (by kernel_rfl) (fun _ _ _ h => h) (by rfl) hS (fun hS => ?_)
              try go_frame
              refine held_skip (i := 12) (oi := ⟨some 53, _, _, _, _, _⟩) rfl (by kernel_rfl) (by kernel_rfl) (by kernel_rfl) (fun _ _ _ h => h) (by rfl) hS (fun hS => ?_)
              try go_frame
              refine held_skip (i := 13) (oi := ⟨some 54, _, _, _, _, _⟩) rfl (by kernel_rfl) (by kernel_rfl) (by kernel_rfl) (fun _ _ _ h => h) (by rfl) hS (fun hS => ?_)
              try go_frame
              refine held_skip (i := 14) (oi := ⟨some 55, _, _, _, _, _⟩) rfl (by kernel_rfl) (by kernel_rfl) (by kernel_rfl) (fun _ _ _ h => h) (by rfl) hS (fun hS => ?_)
              try go_frame
              refine held_skip (i := 15) (oi := ⟨some 56, _, _, _, _, _⟩) rfl (by kernel_rfl) (by kernel_rfl) (by kernel_rfl) (fun _ _ _ h => h) (by rfl) hS (fun hS => ?_)
              try go_frame
              refine held_pure (i := 16) (oi := ⟨some 57, _, _, _, _, _⟩) rfl (by kernel_rfl) (by kernel_rfl) (by kernel_rfl) (fun _ _ _ h => h) (by rfl) (v := ?_) (fun w hSw => ?_) hS (fun hS => ?_)
              rotate_left
              · go_simp; try with_reducible rfl
              try go_frame
              refine held_pure (i := 17) (oi := ⟨some 40, _, _, _, _, _⟩) rfl (by kernel_rfl) (by kernel_rfl) (by kernel_rfl) (fun _ _ _ h => h) (by rfl) (v := ?_) (fun w hSw => ?_) hS (fun hS => ?_)
              rotate_left
              · go_simp; try with_reducible rfl
              try go_frame
              refine wpAnyH_done (by kernel_rfl) ?_ _
              go_upto_region 13 with fail
              have hg5 := (hS.block g hgz4).trans hg4
              have hu5 := (hS.block _ huz4).trans hu4
              have hgz5 := heap_lt hg5
              have huz5 := heap_lt hu5
              have b5 := b4.trans (hS.mono (Nat.le_trans HXZ.out (Nat.le_trans x2.size (Nat.le_trans x3.size x4.size))))
              have hbz5 := b5.size
              clear hS
              generalize w4.drew = W5 at *
              refine wp_region_held_drew (S := fun w' => Below W5.heap.size W5 w') (by kernel_rfl) (Below.refl _ W5).drew (fun hS => ?_)
              refine held_pure (i := 0) (oi := ⟨some 58, _, _, _, _, _⟩) rfl (by kernel_rfl) (by kernel_rfl) (by kernel_rfl) (fun _ _ _ h => h) (by rfl) (v := ?_) (fun w hSw => ?_) hS (fun hS => ?_)
              rotate_left
              · go_simp; try with_reducible rfl
              try go_frame
              refine held_pure (i := 1) (oi := ⟨some 59, _, _, _, _, _⟩) rfl (by kernel_rfl) (by kernel_rfl) (by kernel_rfl) (fun _ _ _ h => h) (by rfl) (v := ?_) (fun w hSw => ?_) hS (fun hS => ?_)
              rotate_left
              · go_simp; try with_reducible rfl
              try go_frame
              refine held_pure (i := 2) (oi := ⟨some 60, _, _, _, _, _⟩) rfl (by kernel_rfl) (by kernel_rfl) (by kernel_rfl) (fun _ _ _ h => h) (by rfl) (v := ?_) (fun w hSw => ?_) hS (fun hS => ?_)
              rotate_left
              · go_simp; try with_reducible rfl
              try go_frame
              refine held_skip (i := 3) (oi := ⟨some 61, _, _, _, _, _⟩) rfl (by kernel_rfl) (by kernel_rfl) (by kernel_rfl) (fun _ _ _ h => h) (by rfl) hS (fun hS => ?_)
              try go_frame
              refine held_skip (i := 4) (oi := ⟨some 62, _, _, _, _, _⟩) rfl (by kernel_rfl) (by kernel_rfl) (by kernel_rfl) (fun _ _ _ h => h) (by rfl) hS (fun hS => ?_)
              try go_frame
              refine held_skip (i := 5) (oi := ⟨some 63, _, _, _, _, _⟩) rfl (by kernel_rfl) (by kernel_rfl) (by kernel_rfl) (fun _ _ _ h => h) (by rfl) hS (fun hS => ?_)
              try go_frame
              refine held_skip (i := 6) (oi := ⟨some 64, _, _, _, _, _⟩) rfl (by kernel_rfl) (by kernel_rfl) (by kernel_rfl) (fun _ _ _ h => h) (by rfl) hS (fun hS => ?_)
              try go_frame
              refine held_skip (i := 7) (oi := ⟨some 65, _, _, _, _, _⟩) rfl (by kernel_rfl) (by kernel_rfl) (by kernel_rfl) (fun _ _ _ h => h) (by rfl) hS (fun hS => ?_)
              try go_frame
              refine held_skip (i := 8) (oi := ⟨some 66, _, _, _, _, _⟩) rfl (by kernel_rfl) (by kernel_rfl) (by kernel_rfl) (fun _ _ _ h => h) (by rfl) hS (fun hS => ?_)
              try go_frame
              refine held_skip (i := 9) (oi := ⟨some 67, _, _, _, _, _⟩) rfl (by kernel_rfl) (by kernel_rfl) (by kernel_rfl) (fun _ _ _ h => h) (by rfl) hS (fun hS => ?_)
              try go_frame
              refine held_pure (i := 10) (oi := ⟨some 68, _, _, _, _, _⟩) rfl (by kernel_rfl) (by kernel_rfl) (by kernel_rfl) (fun _ _ _ h => h) (by rfl) (v := ?_) (fun w hSw => ?_) hS (fun hS => ?_)
              rotate_left
              · go_simp; try with_reducible rfl
              try go_frame
              refine held_pure (i := 11) (oi := ⟨some 40, _, _, _, _, _⟩) rfl (by kernel_rfl) (by kernel_rfl) (by kernel_rfl) (fun _ _ _ h => h) (by rfl) (v := ?_) (fun w hSw => ?_) hS (fun hS => ?_)
              rotate_left
              · go_simp; try with_reducible rfl
              try go_frame
              refine wpAnyH_done (by kernel_rfl) ?_ _
              have bS := b5.trans (hS.mono hbz5)
              have bN := bS
              have huN := (hS.block _ huz5).trans hu5
              go_wp2_with (first
                | ((with_reducible show wpList _ _ _ (Oper.mk _ (Op.load 225 _) _ _ _ _ :: _) _ _); refine wpList_val rfl (run_load_hp rfl rfl (range_heap huN) rfl) ?_)
                | (go_at_call 179; refine (hckeep g A c n L xp by0 far0 end0 _ (HV.out.below bN) HN.out ((bN.block g hgw).trans hg0) (own_below HO.out bN) HNI.out (fun y hy => own_below (HB.out y hy) bN) (by rw [HXD.out]; exact (hA.out.below bN).more bN.size) (by rw [HXO.out]; exact hx0) (by rw [HXS.out]; omega) hby).mono ?_; rintro e w9 ⟨rfl, A2, c2, P, p, hg9, own9, byt9, k9, bl9⟩))
              go_ret
              have hE : addC (piE L) ⟨a, m, b⟩ = 0 := by rw [addC, if_neg HBD.out, if_neg (by have := HLG.out; show ¬ a > 65535 - (b.length : Int); omega), HS1.out, if_neg (by decide), HS2.out, if_neg (by decide), if_neg hlate.out]
              have hL2 : addCL (piE L) ⟨a, m, b⟩ = putP (piE L) ⟨a, m, b⟩ := by rw [addCL, if_pos hE, HS1.out, if_neg (by decide)]
              rw [HXD.out] at hg9 own9 byt9
              refine ⟨by rw [hE]; rfl, A2, c2, putX L (atP (piE L) a) ⟨⟨a, m, b⟩, P, p⟩, ?_, ?_, ?_, ?_, ?_⟩
              · rw [HBY.out, HFA.out, HEN.out] at hg9
                exact hx_put HX.out.ris HN.out hb2 HBD.out (by have := HLG.out; omega) HS1.out HS2.out hlate.out hg9 own9 byt9 hn1
              · rw [hL2]; exact putX_pure L a ⟨⟨a, m, b⟩, P, p⟩
              · rw [HN.out] at k9; exact (Kept.of_below bN).trans k9 (fun _ _ h => h)
              · intro k hk
                rw [putX_len HN.out a _] at hk
                rcases bl9 k hk with h | h
                · rw [HN.out] at h; exact .inl h
                · exact .inr (Nat.le_trans bN.size h)
              · rw [putX_len HN.out a _, HN.out]; exact Nat.le_refl _
            | false =>
              by_cases hq : a + (b.length : Int) < far0
              · have hlate : Hid ((endedP (piE L) = true ∧ (m = false ∨ (Pc.mk a m b).stop > farP (piE L))) ∨ (m = false ∧ (Pc.mk a m b).stop < farP (piE L))) := Lib.hid (.inr ⟨hmo, by rw [← HFA.out]; exact hq⟩)
                have HQ : Hid (decide (a + (b.length : Int) < far0) = true) := Lib.hid (decide_eq_true hq)
                clear hq
                refine wp_region_held_drew (S := fun w' => Below w4.heap.size w4 w') (by kernel_rfl) (Below.refl _ w4).drew (fun hS => ?_)
                refine held_pure (i := 0) (oi := ⟨some 41, _, _, _, _, _⟩) rfl (by kernel_rfl) (by kernel_rfl) (by kernel_rfl) (fun _ _ _ h => h) (by rfl) (v := ?_) (fun w hSw => ?_) hS (fun hS => ?_)
                rotate_left
                · go_simp; try with_reducible rfl
                try go_frame
                refine held_pure (i := 1) (oi := ⟨some 42, _, _, _, _, _⟩) rfl (by kernel_rfl) (by kernel_rfl) (by kernel_rfl) (fun _ _ _ h => h) (by rfl) (v := ?_) (fun w hSw => ?_) hS (fun hS => ?_)
                rotate_left
                · go_simp; try with_reducible rfl
                try go_frame
                refine held_pure (i := 2) (oi := ⟨some 43, _, _, _, _, _⟩) rfl (by kernel_rfl) (by kernel_rfl) (by kernel_rfl) (fun _ _ _ h => h) (by rfl) (v := ?_) (fun w hSw => ?_) hS (fun hS => ?_)
                rotate_left
                · go_simp; try with_reducible rfl
                try go_frame
                refine held_pure (i := 3) (oi := ⟨some 44, _, _, _, _, _⟩) rfl (by kernel_rfl) (by kernel_rfl) (by kernel_rfl) (fun _ _ _ h => h) (by rfl) (fun w hSw => run_load_bool rfl rfl (cells_at (i := 4) ((hSw.block g hgz4).trans hg4) rfl)) hS (fun hS => ?_)
                try go_frame
                refine held_pure (i := 4) (oi := ⟨some 45, _, _, _, _, _⟩) rfl (by kernel_rfl) (by kernel_rfl) (by kernel_rfl) (fun _ _ _ h => h) (by rfl) (v := ?_) (fun w hSw => ?_) hS (fun hS => ?_)
                rotate_left
                · go_simp; try with_reducible rfl
                try go_frame
                refine held_skip (i := 5) (oi := ⟨some 46, _, _, _, _, _⟩) rfl (by kernel_rfl) (by kernel_rfl) (by kernel_rfl) (fun _ _ _ h => h) (by rfl) hS (fun hS => ?_)
                try go_frame
                refine held_skip (i := 6) (oi := ⟨some 47, _, _, _, _, _⟩) rfl (by kernel_rfl) (by kernel_rfl) (by kernel_rfl) (fun _ _ _ h => h) (by rfl) hS (fun hS => ?_)
                try go_frame
                refine held_skip (i := 7) (oi := ⟨some 48, _, _, _, _, _⟩) rfl (by kernel_rfl) (by kernel_rfl) (by kernel_rfl) (fun _ _ _ h => h) (by rfl) hS (fun hS => ?_)
                try go_frame
                refine held_skip (i := 8) (oi := ⟨some 49, _, _, _, _, _⟩) rfl (by kernel_rfl) (by kernel_rfl) (by kernel_rfl) (fun _ _ _ h => h) (by rfl) hS (fun hS => ?_)
                try go_frame
                refine held_skip (i := 9) (oi := ⟨some 50, _, _, _, _, _⟩) rfl (by kernel_rfl) (by kernel_rfl) (by kernel_rfl) (fun _ _ _ h => h) (by rfl) hS (fun hS => ?_)
                try go_frame
                refine held_skip (i := 10) (oi := ⟨some 51, _, _, _, _, _⟩) rfl (by kernel_rfl) (by kernel_rfl) (by kernel_rfl) (fun _ _ _ h => h) (by rfl) hS (fun hS => ?_)
                try go_frame
                refine held_skip (i := 11) (oi := ⟨some 52, _, _, _, _, _⟩) rfl (by kernel_rfl) (by kernel_rfl) (by kernel_rfl) (fun _ _ _ h => h) (by rfl) hS (fun hS => ?_)
                try go_frame
                refine held_skip (i := 12) (oi := ⟨some 53, _, _, _, _, _⟩) rfl (by kernel_rfl) (by kernel_rfl) (by kernel_rfl) (fun _ _ _ h => h) (by rfl) hS (fun hS => ?_)
                try go_frame
                refine held_skip (i := 13) (oi := ⟨some 54, _, _, _, _, _⟩) rfl (by kernel_rfl) (by kernel_rfl) (by kernel_rfl) (fun _ _ _ h => h) (by rfl) hS (fun hS => ?_)
                try go_frame
                refine held_skip (i := 14) (oi := ⟨some 55, _, _, _, _, _⟩) rfl (by kernel_rfl) (by kernel_rfl) (by kernel_rfl) (fun _ _ _ h => h) (by rfl) hS (fun hS => ?_)
                try go_frame
                refine held_skip (i := 15) (oi := ⟨some 56, _, _, _, _, _⟩) rfl (by kernel_rfl) (by kernel_rfl) (by kernel_rfl) (fun _ _ _ h => h) (by rfl) hS (fun hS => ?_)
                try go_frame
                refine held_pure (i := 16) (oi := ⟨some 57, _, _, _, _, _⟩) rfl (by kernel_rfl) (by kernel_rfl) (by kernel_rfl) (fun _ _ _ h => h) (by rfl) (v := ?_) (fun w hSw => ?_) hS (fun hS => ?_)
                rotate_left
                · go_simp; try with_reducible rfl
                try go_frame
                refine held_pure (i := 17) (oi := ⟨some 40, _, _, _, _, _⟩) rfl (by kernel_rfl) (by kernel_rfl) (by kernel_rfl) (fun _ _ _ h => h) (by rfl) (v := ?_) (fun w hSw => ?_) hS (fun hS => ?_)
                rotate_left
                · go_simp; try with_reducible rfl
                try go_frame
                refine wpAnyH_done (by kernel_rfl) ?_ _
                go_upto_region 13 with fail
                have hg5 := (hS.block g hgz4).trans hg4
                have hu5 := (hS.block _ huz4).trans hu4
                have hgz5 := heap_lt hg5
                have huz5 := heap_lt hu5
                have b5 := b4.trans (hS.mono (Nat.le_trans HXZ.out (Nat.le_trans x2.size (Nat.le_trans x3.size x4.size))))
                have hbz5 := b5.size
                clear hS
                generalize w4.drew = W5 at *
                refine wp_region_held_drew (S := fun w' => Below W5.heap.size W5 w') (by kernel_rfl) (Below.refl _ W5).drew (fun hS => ?_)
                refine held_pure (i := 0) (oi := ⟨some 58, _, _, _, _, _⟩) rfl (by kernel_rfl) (by kernel_rfl) (by kernel_rfl) (fun _ _ _ h => h) (by rfl) (v := ?_) (fun w hSw => ?_) hS (fun hS => ?_)
                rotate_left
                · go_simp; try with_reducible rfl
                try go_frame
                refine held_pure (i := 1) (oi := ⟨some 59, _, _, _, _, _⟩) rfl (by kernel_rfl) (by kernel_rfl) (by kernel_rfl) (fun _ _ _ h => h) (by rfl) (v := ?_) (fun w hSw => ?_) hS (fun hS => ?_)
                rotate_left
                · go_simp; try with_reducible rfl
                try go_frame
                refine held_pure (i := 2) (oi := ⟨some 60, _, _, _, _, _⟩) rfl (by kernel_rfl) (by kernel_rfl) (by kernel_rfl) (fun _ _ _ h => h) (by rfl) (v := ?_) (fun w hSw => ?_) hS (fun hS => ?_)
                rotate_left
                · go_simp; try with_reducible rfl
                try go_frame
                refine held_pure (i := 3) (oi := ⟨some 61, _, _, _, _, _⟩) rfl (by kernel_rfl) (by kernel_rfl) (by kernel_rfl) (fun _ _ _ h => h) (by rfl) (fun w hSw => run_load_hp rfl rfl (range_heap ((hSw.block _ huz5).trans hu5)) rfl) hS (fun hS => ?_)
                try go_frame
                refine held_pure (i := 5) (oi := ⟨some 63, _, _, _, _, _⟩) rfl (by kernel_rfl) (by kernel_rfl) (by kernel_rfl) (fun _ _ _ h => h) (by rfl) (v := ?_) (fun w hSw => ?_) hS (fun hS => ?_)
                rotate_left
                · go_simp; try with_reducible rfl
                try go_frame
                refine held_pure (i := 6) (oi := ⟨some 64, _, _, _, _, _⟩) rfl (by kernel_rfl) (by kernel_rfl) (by kernel_rfl) (fun _ _ _ h => h) (by rfl) (v := ?_) (fun w hSw => ?_) hS (fun hS => ?_)
                rotate_left
                · go_simp; try with_reducible rfl
                try go_frame
                refine held_pure (i := 7) (oi := ⟨some 65, _, _, _, _, _⟩) rfl (by kernel_rfl) (by kernel_rfl) (by kernel_rfl) (fun _ _ _ h => h) (by rfl) (v := ?_) (fun w hSw => ?_) hS (fun hS => ?_)
                rotate_left
                · go_simp; try with_reducible rfl
                try go_frame
                refine held_pure (i := 8) (oi := ⟨some 66, _, _, _, _, _⟩) rfl (by kernel_rfl) (by kernel_rfl) (by kernel_rfl) (fun _ _ _ h => h) (by rfl) (fun w hSw => run_load_int rfl rfl (cells_at (i := 3) ((hSw.block g hgz5).trans hg5) rfl)) hS (fun hS => ?_)
                try go_frame
                refine wpAnyH_ready (rs := [4]) (by kernel_rfl) (by simp) (AllReadyH.cons (o := ⟨some 62, _, _, _, _, _⟩) rfl (fun K hK => ?_) AllReadyH.nil)
                rw [if_pos (by rfl)]
                go_simp
                refine (hcend xp _ (by rw [HXO.out]; exact hx0) (by rw [HXS.out]; omega)).mono ?_
                rintro e w4 ⟨rfl, x4⟩
                rw [HXS.out]
                show K _ _
                refine hK.out _ _ (below_step hS x4) (fun hS => ?_)
                clear hK K
                try go_frame
                refine held_pure (i := 9) (oi := ⟨some 67, _, _, _, _, _⟩) rfl (by kernel_rfl) (by kernel_rfl) (by kernel_rfl) (fun _ _ _ h => h) (by rfl) (v := .bool true) (fun w hSw => by go_simp; (first | exact HQ.out | exact of_decide_eq_true HQ.out | (have h9 := of_decide_eq_false HQ.out; omega))) hS (fun hS => ?_)
                try go_frame
                refine held_pure (i := 10) (oi := ⟨some 68, _, _, _, _, _⟩) rfl (by kernel_rfl) (by kernel_rfl) (by kernel_rfl) (fun _ _ _ h => h) (by rfl) (v := ?_) (fun w hSw => ?_) hS (fun hS => ?_)
                rotate_left
                · go_simp; try with_reducible rfl
                try go_frame
                refine held_pure (i := 11) (oi := ⟨some 40, _, _, _, _, _⟩) rfl (by kernel_rfl) (by kernel_rfl) (by kernel_rfl) (fun _ _ _ h => h) (by rfl) (v := ?_) (fun w hSw => ?_) hS (fun hS => ?_)
                rotate_left
                · go_simp; try with_reducible rfl
                try go_frame
                refine wpAnyH_done (by kernel_rfl) ?_ _
                have bS := b5.trans (hS.mono hbz5)
                go_wp2_with fail
                go_ret
                have bN := bS
                have hE : addC (piE L) ⟨a, m, b⟩ = 4 := by rw [addC, if_neg HBD.out, if_neg (by have := HLG.out; show ¬ a > 65535 - (b.length : Int); omega), HS1.out, if_neg (by decide), HS2.out, if_neg (by decide), if_pos hlate.out]
                exact ⟨by rw [hE]; rfl, A, c, L, HX.out.below bN, by rw [addCL]; first | rw [if_neg (by rw [hE]; decide)] | rw [if_pos hE, HS1.out, if_pos rfl], Kept.of_below bN, fun k hk => .inl hk, Nat.le_succ _⟩
              · have hlate : Hid (¬ ((endedP (piE L) = true ∧ (m = false ∨ (Pc.mk a m b).stop > farP (piE L))) ∨ (m = false ∧ (Pc.mk a m b).stop < farP (piE L)))) := Lib.hid (by
                  rintro (⟨h1, _⟩ | ⟨_, h1⟩)
                  · rw [← HEN.out, hen] at h1; cases h1
                  · rw [← HFA.out] at h1; exact hq h1)
                have HQ : Hid (decide (a + (b.length : Int) < far0) = false) := Lib.hid (decide_eq_false hq)
                clear hq
                refine wp_region_held_drew (S := fun w' => Below w4.heap.size w4 w') (by kernel_rfl) (Below.refl _ w4).drew (fun hS => ?_)
                refine held_pure (i := 0) (oi := ⟨some 41, _, _, _, _, _⟩) rfl (by kernel_rfl) (by kernel_rfl) (by kernel_rfl) (fun _ _ _ h => h) (by rfl) (v := ?_) (fun w hSw => ?_) hS (fun hS => ?_)
                rotate_left
                · go_simp; try with_reducible rfl
                try go_frame
                refine held_pure (i := 1) (oi := ⟨some 42, _, _, _, _, _⟩) rfl (by kernel_rfl) (by kernel_rfl) (by kernel_rfl) (fun _ _ _ h => h) (by rfl) (v := ?_) (fun w hSw => ?_) hS (fun hS => ?_)
                rotate_left
                · go_simp; try with_reducible rfl
                try go_frame
                refine held_pure (i := 2) (oi := ⟨some 43, _, _, _, _, _⟩) rfl (by kernel_rfl) (by kernel_rfl) (by kernel_rfl) (fun _ _ _ h => h) (by rfl) (v := ?_) (fun w hSw => ?_) hS (fun hS => ?_)
                rotate_left
                · go_simp; try with_reducible rfl
                try go_frame
                refine held_pure (i := 3) (oi := ⟨some 44, _, _, _, _, _⟩) rfl (by kernel_rfl) (by kernel_rfl) (by kernel_rfl) (fun _ _ _ h => h) (by rfl) (fun w hSw => run_load_bool rfl rfl (cells_at (i := 4) ((hSw.block g hgz4).trans hg4) rfl)) hS (fun hS => ?_)
                try go_frame
                refine held_pure (i := 4) (oi := ⟨some 45, _, _, _, _, _⟩) rfl (by kernel_rfl) (by kernel_rfl) (by kernel_rfl) (fun _ _ _ h => h) (by rfl) (v := ?_) (fun w hSw => ?_) hS (fun hS => ?_)
                rotate_left
                · go_simp; try with_reducible rfl
                try go_frame
                refine held_skip (i := 5) (oi := ⟨some 46, _, _, _, _, _⟩) rfl (by kernel_rfl) (by kernel_rfl) (by kernel_rfl) (fun _ _ _ h => h) (by rfl) hS (fun hS => ?_)
                try go_frame
                refine held_skip (i := 6) (oi := ⟨some 47, _, _, _, _, _⟩) rfl (by kernel_rfl) (by kernel_rfl) (by kernel_rfl) (fun _ _ _ h => h) (by rfl) hS (fun hS => ?_)
                try go_frame
                refine held_skip (i := 7) (oi := ⟨some 48, _, _, _, _, _⟩) rfl (by kernel_rfl) (by kernel_rfl) (by kernel_rfl) (fun _ _ _ h => h) (by rfl) hS (fun hS => ?_)
                try go_frame
                refine held_skip (i := 8) (oi := ⟨some 49, _, _, _, _, _⟩) rfl (by kernel_rfl) (by kernel_rfl) (by kernel_rfl) (fun _ _ _ h => h) (by rfl) hS (fun hS => ?_)
                try go_frame
                refine held_skip (i := 9) (oi := ⟨some 50, _, _, _, _, _⟩) rfl (by kernel_rfl) (by kernel_rfl) (by kernel_rfl) (fun _ _ _ h => h) (by rfl) hS (fun hS => ?_)
                try go_frame
                refine held_skip (i := 10) (oi := ⟨some 51, _, _, _, _, _⟩) rfl (by kernel_rfl) (by kernel_rfl) (by kernel_rfl) (fun _ _ _ h => h) (by rfl) hS (fun hS => ?_)
                try go_frame
                refine held_skip (i := 11) (oi := ⟨some 52, _, _, _, _, _⟩) rfl (by kernel_rfl) (by kernel_rfl) (by kernel_rfl) (fun _ _ _ h => h) (by rfl) hS (fun hS => ?_)
                try go_frame
                refine held_skip (i := 12) (oi := ⟨some 53, _, _, _, _, _⟩) rfl (by kernel_rfl) (by kernel_rfl) (by kernel_rfl) (fun _ _ _ h => h) (by rfl) hS (fun hS => ?_)
                try go_frame
                refine held_skip (i := 13) (oi := ⟨some 54, _, _, _, _, _⟩) rfl (by kernel_rfl) (by kernel_rfl) (by kernel_rfl) (fun _ _ _ h => h) (by rfl) hS (fun hS => ?_)
                try go_frame
                refine held_skip (i := 14) (oi := ⟨some 55, _, _, _, _, _⟩) rfl (by kernel_rfl) (by kernel_rfl) (by kernel_rfl) (fun _ _ _ h => h) (by rfl) hS (fun hS => ?_)
                try go_frame
                refine held_skip (i := 15) (oi := ⟨some 56, _, _, _, _, _⟩) rfl (by kernel_rfl) (by kernel_rfl) (by kernel_rfl) (fun _ _ _ h => h) (by rfl) hS (fun hS => ?_)
                try go_frame
                refine held_pure (i := 16) (oi := ⟨some 57, _, _, _, _, _⟩) rfl (by kernel_rfl) (by kernel_rfl) (by kernel_rfl) (fun _ _ _ h => h) (by rfl) (v := ?_) (fun w hSw => ?_) hS (fun hS => ?_)
                rotate_left
                · go_simp; try with_reducible rfl
                try go_frame
                refine held_pure (i := 17) (oi := ⟨some 40, _, _, _, _, _⟩) rfl (by kernel_rfl) (by kernel_rfl) (by kernel_rfl) (fun _ _ _ h => h) (by rfl) (v := ?_) (fun w hSw => ?_) hS (fun hS => ?_)
                rotate_left
                · go_simp; try with_reducible rfl
                try go_frame
                refine wpAnyH_done (by kernel_rfl) ?_ _
                go_upto_region 13 with fail
                have hg5 := (hS.block g hgz4).trans hg4
                have hu5 := (hS.block _ huz4).trans hu4
                have hgz5 := heap_lt hg5
                have huz5 := heap_lt hu5
                have b5 := b4.trans (hS.mono (Nat.le_trans HXZ.out (Nat.le_trans x2.size (Nat.le_trans x3.size x4.size))))
                have hbz5 := b5.size
                clear hS
                generalize w4.drew = W5 at *
                refine wp_region_held_drew (S := fun w' => Below W5.heap.size W5 w') (by kernel_rfl) (Below.refl _ W5).drew (fun hS => ?_)
                refine held_pure (i := 0) (oi := ⟨some 58, _, _, _, _, _⟩) rfl (by kernel_rfl) (by kernel_rfl) (by kernel_rfl) (fun _ _ _ h => h) (by rfl) (v := ?_) (fun w hSw => ?_) hS (fun hS => ?_)
                rotate_left
                · go_simp; try with_reducible rfl
                try go_frame
                refine held_pure (i := 1) (oi := ⟨some 59, _, _, _, _, _⟩) rfl (by kernel_rfl) (by kernel_rfl) (by kernel_rfl) (fun _ _ _ h => h) (by rfl) (v := ?_) (fun w hSw => ?_) hS (fun hS => ?_)
                rotate_left
                · go_simp; try with_reducible rfl
                try go_frame
                refine held_pure (i := 2) (oi := ⟨some 60, _, _, _, _, _⟩) rfl (by kernel_rfl) (by kernel_rfl) (by kernel_rfl) (fun _ _ _ h => h) (by rfl) (v := ?_) (fun w hSw => ?_) hS (fun hS => ?_)
                rotate_left
                · go_simp; try with_reducible rfl
                try go_frame
                refine held_pure (i := 3) (oi := ⟨some 61, _, _, _, _, _⟩) rfl (by kernel_rfl) (by kernel_rfl) (by kernel_rfl) (fun _ _ _ h => h) (by rfl) (fun w hSw => run_load_hp rfl rfl (range_heap ((hSw.block _ huz5).trans hu5)) rfl) hS (fun hS => ?_)
                try go_frame
                refine held_pure (i := 5) (oi := ⟨some 63, _, _, _, _, _⟩) rfl (by kernel_rfl) (by kernel_rfl) (by kernel_rfl) (fun _ _ _ h => h) (by rfl) (v := ?_) (fun w hSw => ?_) hS (fun hS => ?_)
                rotate_left
                · go_simp; try with_reducible rfl
                try go_frame
                refine held_pure (i := 6) (oi := ⟨some 64, _, _, _, _, _⟩) rfl (by kernel_rfl) (by kernel_rfl) (by kernel_rfl) (fun _ _ _ h => h) (by rfl) (v := ?_) (fun w hSw => ?_) hS (fun hS => ?_)
                rotate_left
                · go_simp; try with_reducible rfl
                try go_frame
                refine held_pure (i := 7) (oi := ⟨some 65, _, _, _, _, _⟩) rfl (by kernel_rfl) (by kernel_rfl) (by kernel_rfl) (fun _ _ _ h => h) (by rfl) (v := ?_) (fun w hSw => ?_) hS (fun hS => ?_)
                rotate_left
                · go_simp; try with_reducible rfl
                try go_frame
                refine held_pure (i := 8) (oi := ⟨some 66, _, _, _, _, _⟩) rfl (by kernel_rfl) (by kernel_rfl) (by kernel_rfl) (fun _ _ _ h => h) (by rfl) (fun w hSw => run_load_int rfl rfl (cells_at (i := 3) ((hSw.block g hgz5).trans hg5) rfl)) hS (fun hS => ?_)
                try go_frame
                refine wpAnyH_ready (rs := [4]) (by kernel_rfl) (by simp) (AllReadyH.cons (o := ⟨some 62, _, _, _, _, _⟩) rfl (fun K hK => ?_) AllReadyH.nil)
                rw [if_pos (by rfl)]
                go_simp
                refine (hcend xp _ (by rw [HXO.out]; exact hx0) (by rw [HXS.out]; omega)).mono ?_
                rintro e w4 ⟨rfl, x4⟩
                rw [HXS.out]
                show K _ _
                refine hK.out _ _ (below_step hS x4) (fun hS => ?_)
                clear hK K
                try go_frame
                refine held_pure (i := 9) (oi := ⟨some 67, _, _, _, _, _⟩) rfl (by kernel_rfl) (by kernel_rfl) (by kernel_rfl) (fun _ _ _ h => h) (by rfl) (v := .bool false) (fun w hSw => by go_simp; (first | exact HQ.out | exact of_decide_eq_true HQ.out | (have h9 := of_decide_eq_false HQ.out; omega))) hS (fun hS => ?_)
                try go_frame
                refine held_pure (i := 10) (oi := ⟨some 68, _, _, _, _, _⟩) rfl (by kernel_rfl) (by kernel_rfl) (by kernel_rfl) (fun _ _ _ h => h) (by rfl) (v := ?_) (fun w hSw => ?_) hS (fun hS => ?_)
                rotate_left
                · go_simp; try with_reducible rfl
                try go_frame
                refine held_pure (i := 11) (oi := ⟨some 40, _, _, _, _, _⟩) rfl (by kernel_rfl) (by kernel_rfl) (by kernel_rfl) (fun _ _ _ h => h) (by rfl) (v := ?_) (fun w hSw => ?_) hS (fun hS => ?_)
                rotate_left
                · go_simp; try with_reducible rfl
                try go_frame
                refine wpAnyH_done (by kernel_rfl) ?_ _
                have bS := b5.trans (hS.mono hbz5)
                have bN := bS
                have huN := (hS.block _ huz5).trans hu5
                go_wp2_with (first
                  | ((with_reducible show wpList _ _ _ (Oper.mk _ (Op.load 225 _) _ _ _ _ :: _) _ _); refine wpList_val rfl (run_load_hp rfl rfl (range_heap huN) rfl) ?_)
                  | (go_at_call 179; refine (hckeep g A c n L xp by0 far0 end0 _ (HV.out.below bN) HN.out ((bN.block g hgw).trans hg0) (own_below HO.out bN) HNI.out (fun y hy => own_below (HB.out y hy) bN) (by rw [HXD.out]; exact (hA.out.below bN).more bN.size) (by rw [HXO.out]; exact hx0) (by rw [HXS.out]; omega) hby).mono ?_; rintro e w9 ⟨rfl, A2, c2, P, p, hg9, own9, byt9, k9, bl9⟩))
                go_ret
                have hE : addC (piE L) ⟨a, m, b⟩ = 0 := by rw [addC, if_neg HBD.out, if_neg (by have := HLG.out; show ¬ a > 65535 - (b.length : Int); omega), HS1.out, if_neg (by decide), HS2.out, if_neg (by decide), if_neg hlate.out]
                have hL2 : addCL (piE L) ⟨a, m, b⟩ = putP (piE L) ⟨a, m, b⟩ := by rw [addCL, if_pos hE, HS1.out, if_neg (by decide)]
                rw [HXD.out] at hg9 own9 byt9
                refine ⟨by rw [hE]; rfl, A2, c2, putX L (atP (piE L) a) ⟨⟨a, m, b⟩, P, p⟩, ?_, ?_, ?_, ?_, ?_⟩
                · rw [HBY.out, HFA.out, HEN.out] at hg9
                  exact hx_put HX.out.ris HN.out hb2 HBD.out (by have := HLG.out; omega) HS1.out HS2.out hlate.out hg9 own9 byt9 hn1
                · rw [hL2]; exact putX_pure L a ⟨⟨a, m, b⟩, P, p⟩
                · rw [HN.out] at k9; exact (Kept.of_below bN).trans k9 (fun _ _ h => h)
                · intro k hk
                  rw [putX_len HN.out a _] at hk
                  rcases bl9 k hk with h | h
                  · rw [HN.out] at h; exact .inl h
                  · exact .inr (Nat.le_trans bN.size h)
                · rw [putX_len HN.out a _, HN.out]; exact Nat.le_refl _
end Go.Proofs.YtpoigngpdcmipaaGreat
namespace Go.Proofs.YtpoigngpdcmipaaGreat
open Go.RowKit Go.Shelf
attribute [local go_sem] Oper.semAt_some
def encG (x : Int × Int) : Array Value := #[.int .i64 x.1, .int .i64 x.2]
def GG (L : List Pc) (pre : List (Int × Int)) (x : Int × Int) (_ : World) : Prop := ∃ more, gapsS 0 L = pre ++ x :: more
section
variable {n : Nat} {P : Program} {ops : Array Oper} {rest : List Oper} {o : Oper} {a : Act} {w w' : World} {Q : Exit → Act → World → Prop} {v : Value}
theorem listW_val (hg : o.guard = none) (hd : ∀ c, o.op ≠ .defer c) (hrun : (execOp a.eval o).run P w = .ok (.value v) w)
    (h : wpListIn Fence.wide n P ops Q rest (a.put o.dst v) w) : wpListIn Fence.wide n P ops Q (o :: rest) a w :=
  wpListIn_plain hg fun K hK => ⟨fun _ _ => trivial, by rw [Oper.semAt_plain _ _ _ hd, hrun]; exact hK _ _ h⟩
theorem listW_skip (hg : o.guard = none) (hd : ∀ c, o.op ≠ .defer c) (hrun : (execOp a.eval o).run P w = .ok .skip w')
    (h : wpListIn Fence.wide n P ops Q rest (a.put o.dst undef) w') : wpListIn Fence.wide n P ops Q (o :: rest) a w :=
  wpListIn_plain hg fun K hK => ⟨fun _ _ => trivial, by rw [Oper.semAt_plain _ _ _ hd, hrun]; exact hK _ _ h⟩
end
theorem run_storehp {o : Oper} {a : Act} {w : World} {x y : Operand} {g t : Nat} {cs old : Array Value} (ho : o.op = .store 225 x y) (hx : a.eval x = .pointer (some ⟨g, 0, none⟩)) (hy : a.eval y = .agg cs) (hg : w.heap[g]? = some (.cells old t (0, 0))) (hold : old.size = 3) (hl : cs.size = 3) (h1 : cs.all (·.oneCell') = true) :
    (execOp a.eval o).run Tryz.prog w = .ok .skip (w.setRow g cs) := by
  have h := run_storeVar_row (P := Tryz.prog) w g t 225 old cs hg (by rw [hl]; kernel_rfl) (by rw [hold, hl]) h1
  unfold execOp
  simp only [ho, hx, hy, Instr.storeAt, Instr.sureAddr, Sem.run_bind, Sem.run_pure, Result.andThen_ok, h]
theorem gap_at {L : List Pc} {k : Nat} {x : Pc} (hx : L[k]? = some x) : ∀ at_ : Int, gapsS at_ (L.drop k) = (if at_ < x.off then [(at_, x.off)] else []) ++ gapsS x.stop (L.drop (k + 1)) := fun at_ => by
  have hk := (List.getElem?_eq_some_iff.1 hx).1
  rw [List.drop_eq_getElem_cons hk, gapsS]
  rw [List.getElem?_eq_getElem hk] at hx
  rw [Option.some.inj hx]
set_option maxRecDepth 100000 in
set_option maxHeartbeats 4000000 in
theorem gaps1_in (m : Nat) (hm : 1 ≤ m) (l t n c : Nat) (A : Option Addr) (L : List XP) (J Jx : List (Int × Int) → World → Prop) (W : World) (hJA0 : AbidesFrom W.heap.size J)
    (hY : ∀ pre x X, J pre X → GG (piE L) pre x X → YieldAt Fence.wide (m - 1) Tryz.prog l (encG x) X fun e Y =>
      (e = .returned (.bool true) ∧ J (pre ++ [x]) Y ∧ KeepS 3 3 0 X Y) ∨ (e = .returned (.bool false) ∧ Jx (pre ++ [x]) Y))
    (hbox0 : Boxed W t 177 (.slice A n c)) (hn : n = L.length) (hn1 : n ≤ 100000) (ho : W.ownsRow 0 225 3 (.slice A n c) n (L.flatMap clP)) (hris : Ris (piE L)) (hJ : J [] W) :
    CallsIn Fence.wide m Tryz.prog 189 #[.func (.yield l) #[] #[], .pointer (some ⟨t, 0, none⟩)] W fun e W' => (∃ v, e = .returned v) ∧
      (J (gapsS 0 (piE L)) W' ∨ (∃ pre, (∃ more, gapsS 0 (piE L) = pre ++ more) ∧ Jx pre W')) := by
  have hJA := hJA0
  have HN := Lib.hid hn
  have HO := Lib.hid ho
  have HR := Lib.hid hris
  have HB := Lib.hid hbox0
  have HG : Hid (gapsS 0 (piE L) = [] ++ gapsS 0 ((piE L).drop 0)) := Lib.hid rfl
  have HH : Hid (∀ (k : Nat) (x : XP), L[k]? = some x → 0 ≤ x.p.off ∧ x.p.stop ≤ 65535) := Lib.hid (fun k x hx => hris.ok x.p (List.mem_map.2 ⟨x, List.mem_of_getElem? hx, rfl⟩))
  obtain ⟨T, hT⟩ : ∃ T, T = gapsS 0 (piE L) := ⟨_, rfl⟩
  rw [← hT] at HG ⊢
  have HT := Lib.hid hT
  clear hJA0 hn ho hris hT
  have hbc := hbox0.cell
  refine callsIn_of_wp Tryz.func189 rfl trivial ?_ rfl
  simp only [Tryz.ntmps189, List.size_toArray, List.length_cons, List.length_nil, Nat.reduceAdd, Nat.reduceSub, Array.replicate_succ, Array.replicate_zero, List.push_toArray, List.append_toArray, List.nil_append, List.cons_append]
  gi_wp2
  gi_loopw [3, 8] (fun s i wr => ∃ (k : Nat) (at_ : Int) (pre : List (Int × Int)), k ≤ n ∧ i = .int .i64 (k : Int) ∧ s = .int .i64 at_ ∧ (0 ≤ at_ ∧ at_ ≤ 65535) ∧ Hid (T = pre ++ gapsS at_ ((piE L).drop k)) ∧ J pre wr ∧ KeepS 3 3 0 W wr)
    (fun _ i _ => n - (intOf i).toNat)
  case atStart => exact ⟨0, 0, [], Nat.zero_le _, rfl, rfl, by omega, HG, hJ, KeepS.refl _⟩
  case round =>
    obtain ⟨k, at_, pre, hk, rfl, rfl, hat, HP, hJs, hKW⟩ := hrel
    by_cases hlt : k < n
    · obtain ⟨x, hx⟩ : ∃ x, L[k]? = some x := ⟨_, List.getElem?_eq_getElem (by rw [← HN.out]; exact hlt)⟩
      obtain ⟨hx0, hx1⟩ := HH.out k x hx
      have hxp : (piE L)[k]? = some x.p := by rw [piE, List.getElem?_map, hx]; rfl
      have HS : Hid (gapsS at_ ((piE L).drop k) = (if at_ < x.p.off then [(at_, x.p.off)] else []) ++ gapsS x.p.stop ((piE L).drop (k + 1))) := Lib.hid (gap_at hxp at_)
      have hown := KeepS.own HO.out hKW (nat_ne (by kernel_rfl)) (nat_ne (by kernel_rfl))
      obtain ⟨A', c', e0, hrd, hcp⟩ := own_rds (l := L) hown HN.out rfl (fun _ _ => rfl)
      injection e0 with e1 e2 e3
      subst e1
      subst e3
      clear e2
      obtain ⟨b1, o1, rfl, hb1, hrow⟩ := row_of hrd hx
      have hso : x.p.off ≤ x.p.stop := by have := x.p.len_nn; have := x.p.stop_eq; omega
      obtain ⟨V, hV⟩ : ∃ V, V = wr.alloc (.cells (clP x).toArray 225) := ⟨_, rfl⟩
      have HV := Lib.hid hV
      have bV : Below wr.heap.size wr V := by rw [hV]; exact (Below.refl _ wr).alloc (Nat.le_refl _) _
      have hbV : V.heap[wr.heap.size]? = some (.cells (clP x).toArray 225 (0, 0)) := by rw [hV]; exact World.alloc_heap_new wr _
      have kx0 : V.cell? ⟨wr.heap.size, 0, none⟩ = some (.int .i64 x.p.off) := cells_at (i := 0) hbV rfl
      have hJV := hJA pre wr V none hJs (grown_none bV) (fun r e => by cases e)
      have hzV := bV.size
      clear hV hx hrd hown
      by_cases c1 : at_ < x.p.off
      · have d1 : decide (at_ < x.p.off) = true := decide_eq_true c1
        have HT2 : Hid (T = pre ++ (at_, x.p.off) :: gapsS x.p.stop ((piE L).drop (k + 1))) := Lib.hid (by rw [HP.out, HS.out, if_pos c1]; rfl)
        have hY2 := hY pre (at_, x.p.off) V hJV ⟨_, by rw [← HT.out]; exact HT2.out⟩
        obtain ⟨fn, tmps, assign, body, hy, hR⟩ := hY2
        dsimp only [encG] at hy
        clear c1
        gi_wp2_with (first | ((with_reducible show wpListIn _ _ _ _ _ (Oper.mk _ (Op.load 225 _) _ _ _ _ :: _) _ _); refine listW_val rfl (fun c h => by cases h) (run_load_hp rfl rfl hrow rfl) ?_) | ((with_reducible show wpListIn _ _ _ _ _ (Oper.mk _ (Op.store 225 _ _) _ _ _ _ :: _) _ _); refine listW_skip rfl (fun c h => by cases h) (run_storehp (cs := (clP x).toArray) rfl rfl rfl (World.alloc_heap_new wr _) rfl rfl (clP_one x)) ?_; rw [World.setRow_alloc_new]; rw [← HV.out]))
        refine hR.mono ?_
        rintro e W3 (⟨rfl, hJ3, hk3⟩ | ⟨rfl, hJx3⟩)
        · have hb3 := (hk3.block _ _ _ _ hbV (nat_ne (by kernel_rfl)) (fun e => absurd e (nat_ne (by kernel_rfl)))).trans hbV
          clear hy hR
          gi_wp2_with (first | ((with_reducible show wpListIn _ _ _ _ _ (Oper.mk _ (Op.load 225 _) _ _ _ _ :: _) _ _); refine listW_val rfl (fun c h => by cases h) (run_load_hp rfl rfl (range_heap hb3) rfl) ?_) | (refine ⟨trivial, ?_⟩; gi_at_call 178; refine (callsIn_wide.2 (hcend x _ hx0 (by omega))).mono ?_; rintro e w5 ⟨rfl, x5⟩))
          go_roundw
          case rel => exact ⟨k + 1, x.p.stop, pre ++ [(at_, x.p.off)], by omega, by simp, rfl, by omega, Lib.hid (by rw [HT2.out, List.append_assoc]; rfl), hJA _ W3 w5 none hJ3 (grown_none x5) (fun r e => by cases e), ((hKW.trans (KeepS.of_below bV)).trans hk3).trans (KeepS.of_below x5)⟩
          case measure => simp [intOf]; omega
        · clear hy hR
          gi_wp2
          refine bodyPost_ret (results_none rfl _ _ _) rfl ?_
          exact ⟨⟨_, rfl⟩, .inr ⟨_, ⟨gapsS x.p.stop ((piE L).drop (k + 1)), by rw [HT2.out, List.append_assoc]; rfl⟩, hJx3⟩⟩
      · have d1 : decide (at_ < x.p.off) = false := decide_eq_false c1
        have HT2 : Hid (T = pre ++ gapsS x.p.stop ((piE L).drop (k + 1))) := Lib.hid (by rw [HP.out, HS.out, if_neg c1]; rfl)
        clear c1
        gi_wp2_with (first | ((with_reducible show wpListIn _ _ _ _ _ (Oper.mk _ (Op.load 225 _) _ _ _ _ :: _) _ _); refine listW_val rfl (fun c h => by cases h) (run_load_hp rfl rfl hrow rfl) ?_) | ((with_reducible show wpListIn _ _ _ _ _ (Oper.mk _ (Op.store 225 _ _) _ _ _ _ :: _) _ _); refine listW_skip rfl (fun c h => by cases h) (run_storehp (cs := (clP x).toArray) rfl rfl rfl (World.alloc_heap_new wr _) rfl rfl (clP_one x)) ?_; rw [World.setRow_alloc_new]; rw [← HV.out]))
        refine ⟨fun f h => (by cases h), ?_⟩
        gi_wp2_with (first | ((with_reducible show wpListIn _ _ _ _ _ (Oper.mk _ (Op.load 225 _) _ _ _ _ :: _) _ _); refine listW_val rfl (fun c h => by cases h) (run_load_hp rfl rfl (range_heap hbV) rfl) ?_) | (refine ⟨trivial, ?_⟩; gi_at_call 178; refine (callsIn_wide.2 (hcend x _ hx0 (by omega))).mono ?_; rintro e w5 ⟨rfl, x5⟩))
        go_roundw
        case rel => exact ⟨k + 1, x.p.stop, pre, by omega, by simp, rfl, by omega, HT2, hJA _ V w5 none hJV (grown_none x5) (fun r e => by cases e), (hKW.trans (KeepS.of_below bV)).trans (KeepS.of_below x5)⟩
        case measure => simp [intOf]; omega
    · obtain rfl : n = k := by omega
      gi_wp2
      try rw [Exit.noGoto_normal]
      go_end0
      exact ⟨⟨_, rfl⟩, .inl (by rw [HP.out, List.drop_eq_nil_of_le (by rw [piE, List.length_map, ← HN.out]; exact Nat.le_refl _)]; show J (pre ++ []) _; rw [List.append_nil]; exact hJs)⟩
end Go.Proofs.YtpoigngpdcmipaaGreat
