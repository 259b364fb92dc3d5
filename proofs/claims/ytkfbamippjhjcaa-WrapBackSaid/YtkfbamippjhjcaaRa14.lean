/-
  Contracts and lemmas on which the proofs of this seat stand (several texts in one). Conditions are each theorem's own.
-/
import Derived.Test.YtkfbamippjhjcaaRa7

/-
  Contract of the document's read of layer 6. Conditions are each theorem's own.
-/
namespace Go.Proofs.Ytkfbamippjhjcaa
open Go.RowKit

section
variable (b : List UInt8) (A : Option Addr) (c : Nat) (w : World)
set_option maxRecDepth 100000 in
set_option maxHeartbeats 1000000 in
theorem r6read (u : Bool) (B : Nat) (hR : Arg w B A c b) (hB : B ≤ w.heap.size) (hl : b.length ≤ 1000000) :
    Calls Try.prog 58 #[.slice A b.length c, .bool u] w fun e w' => ∃ P p, e = .returned (.tuple #[v6v (prs6 b u) P p, .int .i64 (bad6 b u)]) ∧ Made w w' (.slice P (prs6 b u).dat.length p) (prs6 b u).dat := by
  have hOR0 := OwnR.new w (v6a p6z none 0) 26
  have hg0 := World.alloc_heap_new w (.cells (v6a p6z none 0) 26)
  have hcap := hR.cap
  go_enter Try.func58, Try.ntmps58
  go_upto_region 1 with fail
  have hOR : OwnR w 26 37 (w.alloc (.cells #[.int .i64 0, .int .i64 0, .int .i64 0, .int .i64 0, .int .u8 0, .int .u8 0, .int .u8 0, .int .u8 0, .int .u8 0, .int .u8 0, .int .u8 0, .int .u8 0, .int .u8 0, .int .u8 0, .int .u8 0, .int .u8 0, .int .u8 0, .int .u8 0, .int .u8 0, .int .u8 0, .int .u8 0, .int .u8 0, .int .u8 0, .int .u8 0, .int .u8 0, .int .u8 0, .int .u8 0, .int .u8 0, .int .u8 0, .int .u8 0, .int .u8 0, .int .u8 0, .int .u8 0, .int .u8 0, .int .u8 0, .int .u8 0, .slice none 0 0] 26)) := hOR0
  have hg : (w.alloc (.cells #[.int .i64 0, .int .i64 0, .int .i64 0, .int .i64 0, .int .u8 0, .int .u8 0, .int .u8 0, .int .u8 0, .int .u8 0, .int .u8 0, .int .u8 0, .int .u8 0, .int .u8 0, .int .u8 0, .int .u8 0, .int .u8 0, .int .u8 0, .int .u8 0, .int .u8 0, .int .u8 0, .int .u8 0, .int .u8 0, .int .u8 0, .int .u8 0, .int .u8 0, .int .u8 0, .int .u8 0, .int .u8 0, .int .u8 0, .int .u8 0, .int .u8 0, .int .u8 0, .int .u8 0, .int .u8 0, .int .u8 0, .int .u8 0, .slice none 0 0] 26)).heap[w.heap.size]? = some (.cells (v6a p6z none 0) 26 (0, 0)) := hg0
  clear hOR0 hg0
  generalize w.alloc (.cells #[.int .i64 0, .int .i64 0, .int .i64 0, .int .i64 0, .int .u8 0, .int .u8 0, .int .u8 0, .int .u8 0, .int .u8 0, .int .u8 0, .int .u8 0, .int .u8 0, .int .u8 0, .int .u8 0, .int .u8 0, .int .u8 0, .int .u8 0, .int .u8 0, .int .u8 0, .int .u8 0, .int .u8 0, .int .u8 0, .int .u8 0, .int .u8 0, .int .u8 0, .int .u8 0, .int .u8 0, .int .u8 0, .int .u8 0, .int .u8 0, .int .u8 0, .int .u8 0, .int .u8 0, .int .u8 0, .int .u8 0, .int .u8 0, .slice none 0 0] 26) = W at *
  by_cases h40 : b.length < 40
  · have hd40 : decide ((b.length : Int) < 40) = true := by simp; omega
    have HB := Lib.hid (show bad6 b u = 3 by rw [bad6, if_pos h40])
    have HE2 := HB
    have HE1 := Lib.hid (show prs6 b u = p6z by rw [prs6, if_neg (by rw [HB.out]; decide)])
    go_wp2_with (first | ((with_reducible show wpList _ _ _ (Oper.mk _ (Op.store _ _ _) _ _ _ _ :: _) _ _); refine v6_store (g := w.heap.size) (cs := v6a p6z none 0) rfl rfl hg rfl rfl (v6a_one _ _ _) ?_))
    exact bodyPost_ret (res2 rfl rfl (run_loadVar_row _ _ _ 26 (v6a p6z none 0) _ _ (setRow_heap _ _ _ _ _ _ hg) Try.underlying26 rfl (by kernel_rfl))) rfl ⟨none, 0, by rw [HE1.out, HE2.out]; rfl, by rw [HE1.out]; exact Made.nil _ _ (below_row hOR.b (Nat.le_refl _))⟩
    
  · have hd40 : decide ((b.length : Int) < 40) = false := by simp; omega
    obtain ⟨o, of, rfl, hbB, kc⟩ := hR.rd (by omega)
    have hb0 : o < w.heap.size := by omega
    have KC := Lib.hid kc
    have hbd := fun j => (⟨byt_lo b j, byt_hi b j⟩ : 0 ≤ byt b j ∧ byt b j ≤ 255)
    have HBD := Lib.hid hbd
    have E4 := Lib.hid (IntWalk.i64_in (byt b 4) (by have := hbd 4; omega))
    have E5 := Lib.hid (IntWalk.i64_in (byt b 5) (by have := hbd 5; omega))
    have E6 := Lib.hid (IntWalk.i64_in (byt b 6) (by have := hbd 6; omega))
    have E7 := Lib.hid (IntWalk.i64_in (byt b 7) (by have := hbd 7; omega))
    have EM := Lib.hid (IntWalk.i64_in (byt b 4 * 256) (by have := hbd 4; omega))
    have EA := Lib.hid (show IntKind.i64.wrap (byt b 4 * 256 + byt b 5) = n2 b 4 from IntWalk.i64_in (byt b 4 * 256 + byt b 5) (by have := hbd 4; have := hbd 5; omega))
    clear hbd kc
    have n4b := n2_bd b 4
    go_upto_region 3 with fail
    refine wp_region_held_drew (S := OwnR w 26 37) (by kernel_rfl) hOR.drew (fun hS => ?_)
    refine held_pure (i := 0) (oi := ⟨some 13, _, _, _, _, _⟩) rfl (by kernel_rfl) (by kernel_rfl) (by kernel_rfl) (fun _ _ _ h => h) (by rfl) (v := ?_) (fun w hSw => ?_) hS (fun hS => ?_)
    rotate_left
    · go_simp; try with_reducible rfl
    try go_frame
    refine held_pure (i := 1) (oi := ⟨some 14, _, _, _, _, _⟩) rfl (by kernel_rfl) (by kernel_rfl) (by kernel_rfl) (fun _ _ _ h => h) (by rfl) (v := .pointer (some ⟨o, of + 4, none⟩)) (fun w hSw => by go_simp; exact fun hx => absurd hx (by omega)) hS (fun hS => ?_)
    try go_frame
    refine held_pure (i := 2) (oi := ⟨some 15, _, _, _, _, _⟩) rfl (by kernel_rfl) (by kernel_rfl) (by kernel_rfl) (fun _ _ _ h => h) (by rfl) (fun w hSw => run_load_byte rfl rfl ((hSw.b.cell hb0).trans (KC.out 4 (by omega)))) hS (fun hS => ?_)
    try go_frame
    refine held_pure (i := 3) (oi := ⟨some 16, _, _, _, _, _⟩) rfl (by kernel_rfl) (by kernel_rfl) (by kernel_rfl) (fun _ _ _ h => h) (by rfl) (v := .int .i64 (byt b 4)) (fun w hSw => by go_simp; try exact E4.out) hS (fun hS => ?_)
    try go_frame
    refine held_pure (i := 4) (oi := ⟨some 17, _, _, _, _, _⟩) rfl (by kernel_rfl) (by kernel_rfl) (by kernel_rfl) (fun _ _ _ h => h) (by rfl) (v := .int .i64 (byt b 4 * 256)) (fun w hSw => by go_simp; try exact EM.out) hS (fun hS => ?_)
    try go_frame
    refine held_pure (i := 5) (oi := ⟨some 18, _, _, _, _, _⟩) rfl (by kernel_rfl) (by kernel_rfl) (by kernel_rfl) (fun _ _ _ h => h) (by rfl) (v := ?_) (fun w hSw => ?_) hS (fun hS => ?_)
    rotate_left
    · go_simp; try with_reducible rfl
    try go_frame
    refine held_pure (i := 6) (oi := ⟨some 19, _, _, _, _, _⟩) rfl (by kernel_rfl) (by kernel_rfl) (by kernel_rfl) (fun _ _ _ h => h) (by rfl) (v := .pointer (some ⟨o, of + 5, none⟩)) (fun w hSw => by go_simp; exact fun hx => absurd hx (by omega)) hS (fun hS => ?_)
    try go_frame
    refine held_pure (i := 7) (oi := ⟨some 20, _, _, _, _, _⟩) rfl (by kernel_rfl) (by kernel_rfl) (by kernel_rfl) (fun _ _ _ h => h) (by rfl) (fun w hSw => run_load_byte rfl rfl ((hSw.b.cell hb0).trans (KC.out 5 (by omega)))) hS (fun hS => ?_)
    try go_frame
    refine held_pure (i := 8) (oi := ⟨some 21, _, _, _, _, _⟩) rfl (by kernel_rfl) (by kernel_rfl) (by kernel_rfl) (fun _ _ _ h => h) (by rfl) (v := .int .i64 (byt b 5)) (fun w hSw => by go_simp; try exact E5.out) hS (fun hS => ?_)
    try go_frame
    refine held_pure (i := 9) (oi := ⟨some 22, _, _, _, _, _⟩) rfl (by kernel_rfl) (by kernel_rfl) (by kernel_rfl) (fun _ _ _ h => h) (by rfl) (v := .int .i64 (n2 b 4)) (fun w hSw => by go_simp; try exact EA.out) hS (fun hS => ?_)
    try go_frame
    refine held_pure (i := 10) (oi := ⟨some 6, _, _, _, _, _⟩) rfl (by kernel_rfl) (by kernel_rfl) (by kernel_rfl) (fun _ _ _ h => h) (by rfl) (v := ?_) (fun w hSw => ?_) hS (fun hS => ?_)
    rotate_left
    · go_simp; try with_reducible rfl
    try go_frame
    refine wpAnyH_done (by kernel_rfl) ?_ _
    have hg3 : W.drew.heap[w.heap.size]? = some (.cells (v6a p6z none 0) 26 (0, 0)) := hg
    have k0 : W.drew.cell? ⟨o, of, none⟩ = some (.int .u8 (byt b 0)) := (hOR.b.cell hb0).trans (KC.out 0 (by omega))
    have q0 := (HBD.out 0).1; have q0' := (HBD.out 0).2
    have td : Int.tdiv (byt b 0) 16 = byt b 0 / 16 := Int.tdiv_eq_ediv_of_nonneg q0
    generalize W.drew = W3 at *
    by_cases h6 : byt b 0 / 16 = 6
    · have d6 : (byt b 0 / 16 != 6) = false := by simp [h6]
      clear h6
      have F3 := Lib.hid (show Int.tmod (byt b 0) 16 = byt b 0 % 16 from Int.tmod_eq_emod_of_nonneg (HBD.out 0).1)
      have F4 := Lib.hid (IntWalk.i64_in (byt b 0 % 16) (by omega))
      have F5 := Lib.hid (IntWalk.i64_in (byt b 0 % 16 * 16) (by omega))
      have F9 := Lib.hid (show IntKind.u8.wrap (Int.tdiv (byt b 1) 16) = byt b 1 / 16 from by rw [Int.tdiv_eq_ediv_of_nonneg (HBD.out 1).1, IntKind.wrap_u8]; have := HBD.out 1; omega)
      have F10 := Lib.hid (IntWalk.i64_in (byt b 1 / 16) (by have := HBD.out 1; omega))
      have F11 := Lib.hid (IntWalk.i64_in (byt b 0 % 16 * 16 + byt b 1 / 16) (by have := HBD.out 1; omega))
      have H3 := Lib.hid (show Int.tmod (byt b 1) 16 = byt b 1 % 16 from Int.tmod_eq_emod_of_nonneg (HBD.out 1).1)
      have H4 := Lib.hid (IntWalk.i64_in (byt b 1 % 16) (by omega))
      have H5 := Lib.hid (IntWalk.i64_in (byt b 1 % 16 * 65536) (by omega))
      have H9 := Lib.hid (IntWalk.i64_in (byt b 2) (by have := HBD.out 2; omega))
      have H10 := Lib.hid (IntWalk.i64_in (byt b 2 * 256) (by have := HBD.out 2; omega))
      have H11 := Lib.hid (IntWalk.i64_in (byt b 1 % 16 * 65536 + byt b 2 * 256) (by have := HBD.out 2; omega))
      have H15 := Lib.hid (IntWalk.i64_in (byt b 3) (by have := HBD.out 3; omega))
      have H16 := Lib.hid (IntWalk.i64_in (byt b 1 % 16 * 65536 + byt b 2 * 256 + byt b 3) (by have := HBD.out 2; have := HBD.out 3; omega))
      cases u
      · by_cases hsh : (b.length : Int) - 40 < n2 b 4
        · have HB := Lib.hid (show bad6 b false = 3 by rw [bad6, if_neg h40, if_neg (fun h => h (by simpa using d6)), if_pos ⟨rfl, hsh⟩])
          have HE2 := HB
          have HE1 := Lib.hid (show prs6 b false = p6z by rw [prs6, if_neg (by rw [HB.out]; decide)])
          go_wp2_with (first | ((with_reducible show wpList _ _ _ (Oper.mk _ (Op.store _ _ _) _ _ _ _ :: _) _ _); refine v6_store (g := w.heap.size) (cs := v6a p6z none 0) rfl rfl hg3 rfl rfl (v6a_one _ _ _) ?_))
          exact bodyPost_ret (res2 rfl rfl (run_loadVar_row _ _ _ 26 (v6a p6z none 0) _ _ (setRow_heap _ _ _ _ _ _ hg3) Try.underlying26 rfl (by kernel_rfl))) rfl ⟨none, 0, by rw [HE1.out, HE2.out]; rfl, by rw [HE1.out]; exact Made.nil _ _ (below_row hS.b (Nat.le_refl _))⟩
          
        · have dsh : decide ((b.length : Int) - 40 < n2 b 4) = false := by simpa using hsh
          have hlt3 := hS.lt
          go_upto_region 8 with fail
          go_cut [7] from 8 (fun s w' => s = .pointer (some ⟨W3.heap.size, 0, none⟩) ∧ OwnR w 26 37 w' ∧ w'.heap[W3.heap.size]? = some (.cells (v6a ⟨0, 0, byt b 6, byt b 7, nul, nul, []⟩ none 0) 26 (0, 0)))
          case first =>
            refine wp_region_held_drew (S := OwnR w 26 37) (by kernel_rfl) hS.drew (fun hS => ?_)
            refine held_pure (i := 0) (oi := ⟨some 39, _, _, _, _, _⟩) rfl (by kernel_rfl) (by kernel_rfl) (by kernel_rfl) (fun _ _ _ h => h) (by rfl) (v := ?_) (fun w hSw => ?_) hS (fun hS => ?_)
            rotate_left
            · go_simp; try with_reducible rfl
            try go_frame
            refine held_pure (i := 1) (oi := ⟨some 40, _, _, _, _, _⟩) rfl (by kernel_rfl) (by kernel_rfl) (by kernel_rfl) (fun _ _ _ h => h) (by rfl) (v := .pointer (some ⟨o, of + 6, none⟩)) (fun w hSw => by go_simp; exact fun hx => absurd hx (by omega)) hS (fun hS => ?_)
            try go_frame
            refine held_pure (i := 2) (oi := ⟨some 41, _, _, _, _, _⟩) rfl (by kernel_rfl) (by kernel_rfl) (by kernel_rfl) (fun _ _ _ h => h) (by rfl) (fun w hSw => run_load_byte rfl rfl ((hSw.b.cell hb0).trans (KC.out 6 (by omega)))) hS (fun hS => ?_)
            try go_frame
            refine held_pure (i := 3) (oi := ⟨some 42, _, _, _, _, _⟩) rfl (by kernel_rfl) (by kernel_rfl) (by kernel_rfl) (fun _ _ _ h => h) (by rfl) (v := .int .i64 (byt b 6)) (fun w hSw => by go_simp; try exact E6.out) hS (fun hS => ?_)
            try go_frame
            refine held_pure (i := 4) (oi := ⟨some 43, _, _, _, _, _⟩) rfl (by kernel_rfl) (by kernel_rfl) (by kernel_rfl) (fun _ _ _ h => h) (by rfl) (v := ?_) (fun w hSw => ?_) hS (fun hS => ?_)
            rotate_left
            · go_simp; try with_reducible rfl
            try go_frame
            refine held_pure (i := 5) (oi := ⟨some 44, _, _, _, _, _⟩) rfl (by kernel_rfl) (by kernel_rfl) (by kernel_rfl) (fun _ _ _ h => h) (by rfl) (v := .pointer (some ⟨o, of + 7, none⟩)) (fun w hSw => by go_simp; exact fun hx => absurd hx (by omega)) hS (fun hS => ?_)
            try go_frame
            refine held_pure (i := 6) (oi := ⟨some 45, _, _, _, _, _⟩) rfl (by kernel_rfl) (by kernel_rfl) (by kernel_rfl) (fun _ _ _ h => h) (by rfl) (fun w hSw => run_load_byte rfl rfl ((hSw.b.cell hb0).trans (KC.out 7 (by omega)))) hS (fun hS => ?_)
            try go_frame
            refine held_pure (i := 7) (oi := ⟨some 46, _, _, _, _, _⟩) rfl (by kernel_rfl) (by kernel_rfl) (by kernel_rfl) (fun _ _ _ h => h) (by rfl) (v := .int .i64 (byt b 7)) (fun w hSw => by go_simp; try exact E7.out) hS (fun hS => ?_)
            try go_frame
            refine held_pure (i := 8) (oi := ⟨some 47, _, _, _, _, _⟩) rfl (by kernel_rfl) (by kernel_rfl) (by kernel_rfl) (fun _ _ _ h => h) (by rfl) (v := ?_) (fun w hSw => ?_) hS (fun hS => ?_)
            rotate_left
            · go_simp; try with_reducible rfl
            try go_frame
            refine wpAnyH_ready (rs := [9]) (by kernel_rfl) (by simp) (AllReadyH.cons (o := ⟨some 7, _, _, _, _, _⟩) rfl (fun K hK => ?_) AllReadyH.nil)
            rw [if_pos (by rfl)]
            go_simp
            refine hK.out _ _ (hS.alloc _) (fun hS => ?_)
            clear hK K
            try go_frame
            refine wpAnyH_ready (rs := [10]) (by kernel_rfl) (by simp) (AllReadyH.cons (o := ⟨none, _, _, _, _, _⟩) rfl (fun K hK => ?_) AllReadyH.nil)
            rw [if_pos (by rfl)]
            refine wp_store_row 26 _ _ rfl W3.heap.size (v6a ⟨0, 0, byt b 6, byt b 7, nul, nul, []⟩ none 0) rfl rfl 26 _ (World.alloc_heap_new W3 _) (by kernel_rfl) (by rfl) (v6a_one _ _ _) ?_
            have hgz := setRow_heap _ _ _ (v6a ⟨0, 0, byt b 6, byt b 7, nul, nul, []⟩ none 0) _ _ (World.alloc_heap_new W3 (.cells #[.int .i64 0, .int .i64 0, .int .i64 0, .int .i64 0, .int .u8 0, .int .u8 0, .int .u8 0, .int .u8 0, .int .u8 0, .int .u8 0, .int .u8 0, .int .u8 0, .int .u8 0, .int .u8 0, .int .u8 0, .int .u8 0, .int .u8 0, .int .u8 0, .int .u8 0, .int .u8 0, .int .u8 0, .int .u8 0, .int .u8 0, .int .u8 0, .int .u8 0, .int .u8 0, .int .u8 0, .int .u8 0, .int .u8 0, .int .u8 0, .int .u8 0, .int .u8 0, .int .u8 0, .int .u8 0, .int .u8 0, .int .u8 0, .slice none 0 0] 26))
            refine hK.out _ _ (hS.row_other hlt3) (fun hS => ?_)
            clear hK K
            try go_frame
            refine wpAnyH_done (by kernel_rfl) ?_ _
            go_wp2_with fail
            go_meet
            exact ⟨rfl, hS, hgz⟩
          case rest =>
            obtain ⟨hs7, hOR8, hgz⟩ := hcut
            subst hs7
            have hst : St w W3.heap.size ⟨0, 0, byt b 6, byt b 7, nul, nul, []⟩ none 0 wc.drew := ⟨hOR8.drew, hgz⟩
            clear hOR8 hgz
            go_wp2_with fail
            refine wp_region_held_drew (S := OwnR w 26 37) (by kernel_rfl) hst.1 (fun hS => ?_)
            refine held_pure (i := 0) (oi := ⟨some 48, _, _, _, _, _⟩) rfl (by kernel_rfl) (by kernel_rfl) (by kernel_rfl) (fun _ _ _ h => h) (by rfl) (v := ?_) (fun w hSw => ?_) hS (fun hS => ?_)
            rotate_left
            · go_simp; try with_reducible rfl
            try go_frame
            refine held_pure (i := 1) (oi := ⟨some 49, _, _, _, _, _⟩) rfl (by kernel_rfl) (by kernel_rfl) (by kernel_rfl) (fun _ _ _ h => h) (by rfl) (v := .pointer (some ⟨o, of, none⟩)) (fun w hSw => by go_simp; exact fun hx => absurd (congrArg List.length hx) (by rw [List.length_nil]; omega)) hS (fun hS => ?_)
            try go_frame
            refine held_pure (i := 2) (oi := ⟨some 50, _, _, _, _, _⟩) rfl (by kernel_rfl) (by kernel_rfl) (by kernel_rfl) (fun _ _ _ h => h) (by rfl) (fun w hSw => run_load_byte rfl rfl ((hSw.b.cell hb0).trans (KC.out 0 (by omega)))) hS (fun hS => ?_)
            try go_frame
            refine held_pure (i := 3) (oi := ⟨some 51, _, _, _, _, _⟩) rfl (by kernel_rfl) (by kernel_rfl) (by kernel_rfl) (fun _ _ _ h => h) (by rfl) (v := .int .u8 (byt b 0 % 16)) (fun w hSw => by go_simp; try (first | rfl | exact F3.out)) hS (fun hS => ?_)
            try go_frame
            refine held_pure (i := 4) (oi := ⟨some 52, _, _, _, _, _⟩) rfl (by kernel_rfl) (by kernel_rfl) (by kernel_rfl) (fun _ _ _ h => h) (by rfl) (v := .int .i64 (byt b 0 % 16)) (fun w hSw => by go_simp; try (first | rfl | exact F4.out)) hS (fun hS => ?_)
            try go_frame
            refine held_pure (i := 5) (oi := ⟨some 53, _, _, _, _, _⟩) rfl (by kernel_rfl) (by kernel_rfl) (by kernel_rfl) (fun _ _ _ h => h) (by rfl) (v := .int .i64 (byt b 0 % 16 * 16)) (fun w hSw => by go_simp; try (first | rfl | exact F5.out)) hS (fun hS => ?_)
            try go_frame
            refine held_pure (i := 6) (oi := ⟨some 54, _, _, _, _, _⟩) rfl (by kernel_rfl) (by kernel_rfl) (by kernel_rfl) (fun _ _ _ h => h) (by rfl) (v := ?_) (fun w hSw => ?_) hS (fun hS => ?_)
            rotate_left
            · go_simp; try with_reducible rfl
            try go_frame
            refine held_pure (i := 7) (oi := ⟨some 55, _, _, _, _, _⟩) rfl (by kernel_rfl) (by kernel_rfl) (by kernel_rfl) (fun _ _ _ h => h) (by rfl) (v := .pointer (some ⟨o, of + 1, none⟩)) (fun w hSw => by go_simp; exact fun hx => absurd hx (by omega)) hS (fun hS => ?_)
            try go_frame
            refine held_pure (i := 8) (oi := ⟨some 56, _, _, _, _, _⟩) rfl (by kernel_rfl) (by kernel_rfl) (by kernel_rfl) (fun _ _ _ h => h) (by rfl) (fun w hSw => run_load_byte rfl rfl ((hSw.b.cell hb0).trans (KC.out 1 (by omega)))) hS (fun hS => ?_)
            try go_frame
            refine held_pure (i := 9) (oi := ⟨some 57, _, _, _, _, _⟩) rfl (by kernel_rfl) (by kernel_rfl) (by kernel_rfl) (fun _ _ _ h => h) (by rfl) (v := .int .u8 (byt b 1 / 16)) (fun w hSw => by go_simp; try (first | rfl | exact F9.out)) hS (fun hS => ?_)
            try go_frame
            refine held_pure (i := 10) (oi := ⟨some 58, _, _, _, _, _⟩) rfl (by kernel_rfl) (by kernel_rfl) (by kernel_rfl) (fun _ _ _ h => h) (by rfl) (v := .int .i64 (byt b 1 / 16)) (fun w hSw => by go_simp; try (first | rfl | exact F10.out)) hS (fun hS => ?_)
            try go_frame
            refine held_pure (i := 11) (oi := ⟨some 59, _, _, _, _, _⟩) rfl (by kernel_rfl) (by kernel_rfl) (by kernel_rfl) (fun _ _ _ h => h) (by rfl) (v := .int .i64 (byt b 0 % 16 * 16 + byt b 1 / 16)) (fun w hSw => by go_simp; try (first | rfl | exact F11.out)) hS (fun hS => ?_)
            try go_frame
            refine held_pure (i := 12) (oi := ⟨some 60, _, _, _, _, _⟩) rfl (by kernel_rfl) (by kernel_rfl) (by kernel_rfl) (fun _ _ _ h => h) (by rfl) (v := ?_) (fun w hSw => ?_) hS (fun hS => ?_)
            rotate_left
            · go_simp; try with_reducible rfl
            try go_frame
            refine wpAnyH_ready (rs := [13]) (by kernel_rfl) (by simp) (AllReadyH.cons (o := ⟨none, _, _, _, _, _⟩) rfl (fun K hK => ?_) AllReadyH.nil)
            rw [if_pos (by rfl)]
            refine store_int_wp rfl rfl rfl (hst.cell rfl) (hst.frozen 0) ?_
            have hst' := St.set (i := 0) (v := .int .i64 (byt b 0 % 16 * 16 + byt b 1 / 16)) (q' := ⟨(byt b 0 % 16 * 16 + byt b 1 / 16), 0, byt b 6, byt b 7, nul, nul, []⟩) (A' := none) (c' := 0) hst hlt3 rfl
            refine hK.out _ _ hst'.1 (fun hS => ?_)
            clear hK K
            try go_frame
            refine wpAnyH_done (by kernel_rfl) ?_ _
            generalize wc.drew.setCell ⟨W3.heap.size, 0, none⟩ (.int .i64 (byt b 0 % 16 * 16 + byt b 1 / 16)) = W9 at *
            have hst9 : St w W3.heap.size ⟨(byt b 0 % 16 * 16 + byt b 1 / 16), 0, byt b 6, byt b 7, nul, nul, []⟩ none 0 W9.drew := ⟨hst'.1.drew, hst'.2⟩
            clear hst hst'
            have hst := hst9
            clear hst9
            go_wp2_with fail
            refine wp_region_held_drew (S := OwnR w 26 37) (by kernel_rfl) hst.1 (fun hS => ?_)
            refine held_pure (i := 0) (oi := ⟨some 61, _, _, _, _, _⟩) rfl (by kernel_rfl) (by kernel_rfl) (by kernel_rfl) (fun _ _ _ h => h) (by rfl) (v := ?_) (fun w hSw => ?_) hS (fun hS => ?_)
            rotate_left
            · go_simp; try with_reducible rfl
            try go_frame
            refine held_pure (i := 1) (oi := ⟨some 62, _, _, _, _, _⟩) rfl (by kernel_rfl) (by kernel_rfl) (by kernel_rfl) (fun _ _ _ h => h) (by rfl) (v := .pointer (some ⟨o, of + 1, none⟩)) (fun w hSw => by go_simp; exact fun hx => absurd hx (by omega)) hS (fun hS => ?_)
            try go_frame
            refine held_pure (i := 2) (oi := ⟨some 63, _, _, _, _, _⟩) rfl (by kernel_rfl) (by kernel_rfl) (by kernel_rfl) (fun _ _ _ h => h) (by rfl) (fun w hSw => run_load_byte rfl rfl ((hSw.b.cell hb0).trans (KC.out 1 (by omega)))) hS (fun hS => ?_)
            try go_frame
            refine held_pure (i := 3) (oi := ⟨some 64, _, _, _, _, _⟩) rfl (by kernel_rfl) (by kernel_rfl) (by kernel_rfl) (fun _ _ _ h => h) (by rfl) (v := .int .u8 (byt b 1 % 16)) (fun w hSw => by go_simp; try (first | rfl | exact H3.out)) hS (fun hS => ?_)
            try go_frame
            refine held_pure (i := 4) (oi := ⟨some 65, _, _, _, _, _⟩) rfl (by kernel_rfl) (by kernel_rfl) (by kernel_rfl) (fun _ _ _ h => h) (by rfl) (v := .int .i64 (byt b 1 % 16)) (fun w hSw => by go_simp; try (first | rfl | exact H4.out)) hS (fun hS => ?_)
            try go_frame
            refine held_pure (i := 5) (oi := ⟨some 66, _, _, _, _, _⟩) rfl (by kernel_rfl) (by kernel_rfl) (by kernel_rfl) (fun _ _ _ h => h) (by rfl) (v := .int .i64 (byt b 1 % 16 * 65536)) (fun w hSw => by go_simp; try (first | rfl | exact H5.out)) hS (fun hS => ?_)
            try go_frame
            refine held_pure (i := 6) (oi := ⟨some 67, _, _, _, _, _⟩) rfl (by kernel_rfl) (by kernel_rfl) (by kernel_rfl) (fun _ _ _ h => h) (by rfl) (v := ?_) (fun w hSw => ?_) hS (fun hS => ?_)
            rotate_left
            · go_simp; try with_reducible rfl
            try go_frame
            refine held_pure (i := 7) (oi := ⟨some 68, _, _, _, _, _⟩) rfl (by kernel_rfl) (by kernel_rfl) (by kernel_rfl) (fun _ _ _ h => h) (by rfl) (v := .pointer (some ⟨o, of + 2, none⟩)) (fun w hSw => by go_simp; exact fun hx => absurd hx (by omega)) hS (fun hS => ?_)
            try go_frame
            refine held_pure (i := 8) (oi := ⟨some 69, _, _, _, _, _⟩) rfl (by kernel_rfl) (by kernel_rfl) (by kernel_rfl) (fun _ _ _ h => h) (by rfl) (fun w hSw => run_load_byte rfl rfl ((hSw.b.cell hb0).trans (KC.out 2 (by omega)))) hS (fun hS => ?_)
            try go_frame
            refine held_pure (i := 9) (oi := ⟨some 70, _, _, _, _, _⟩) rfl (by kernel_rfl) (by kernel_rfl) (by kernel_rfl) (fun _ _ _ h => h) (by rfl) (v := .int .i64 (byt b 2)) (fun w hSw => by go_simp; try (first | rfl | exact H9.out)) hS (fun hS => ?_)
            try go_frame
            refine held_pure (i := 10) (oi := ⟨some 71, _, _, _, _, _⟩) rfl (by kernel_rfl) (by kernel_rfl) (by kernel_rfl) (fun _ _ _ h => h) (by rfl) (v := .int .i64 (byt b 2 * 256)) (fun w hSw => by go_simp; try (first | rfl | exact H10.out)) hS (fun hS => ?_)
            try go_frame
            refine held_pure (i := 11) (oi := ⟨some 72, _, _, _, _, _⟩) rfl (by kernel_rfl) (by kernel_rfl) (by kernel_rfl) (fun _ _ _ h => h) (by rfl) (v := .int .i64 (byt b 1 % 16 * 65536 + byt b 2 * 256)) (fun w hSw => by go_simp; try (first | rfl | exact H11.out)) hS (fun hS => ?_)
            try go_frame
            refine held_pure (i := 12) (oi := ⟨some 73, _, _, _, _, _⟩) rfl (by kernel_rfl) (by kernel_rfl) (by kernel_rfl) (fun _ _ _ h => h) (by rfl) (v := ?_) (fun w hSw => ?_) hS (fun hS => ?_)
            rotate_left
            · go_simp; try with_reducible rfl
            try go_frame
            refine held_pure (i := 13) (oi := ⟨some 74, _, _, _, _, _⟩) rfl (by kernel_rfl) (by kernel_rfl) (by kernel_rfl) (fun _ _ _ h => h) (by rfl) (v := .pointer (some ⟨o, of + 3, none⟩)) (fun w hSw => by go_simp; exact fun hx => absurd hx (by omega)) hS (fun hS => ?_)
            try go_frame
            refine held_pure (i := 14) (oi := ⟨some 75, _, _, _, _, _⟩) rfl (by kernel_rfl) (by kernel_rfl) (by kernel_rfl) (fun _ _ _ h => h) (by rfl) (fun w hSw => run_load_byte rfl rfl ((hSw.b.cell hb0).trans (KC.out 3 (by omega)))) hS (fun hS => ?_)
            try go_frame
            refine held_pure (i := 15) (oi := ⟨some 76, _, _, _, _, _⟩) rfl (by kernel_rfl) (by kernel_rfl) (by kernel_rfl) (fun _ _ _ h => h) (by rfl) (v := .int .i64 (byt b 3)) (fun w hSw => by go_simp; try (first | rfl | exact H15.out)) hS (fun hS => ?_)
            try go_frame
            refine held_pure (i := 16) (oi := ⟨some 77, _, _, _, _, _⟩) rfl (by kernel_rfl) (by kernel_rfl) (by kernel_rfl) (fun _ _ _ h => h) (by rfl) (v := .int .i64 (byt b 1 % 16 * 65536 + byt b 2 * 256 + byt b 3)) (fun w hSw => by go_simp; try (first | rfl | exact H16.out)) hS (fun hS => ?_)
            try go_frame
            refine held_pure (i := 17) (oi := ⟨some 78, _, _, _, _, _⟩) rfl (by kernel_rfl) (by kernel_rfl) (by kernel_rfl) (fun _ _ _ h => h) (by rfl) (v := ?_) (fun w hSw => ?_) hS (fun hS => ?_)
            rotate_left
            · go_simp; try with_reducible rfl
            try go_frame
            refine wpAnyH_ready (rs := [18]) (by kernel_rfl) (by simp) (AllReadyH.cons (o := ⟨none, _, _, _, _, _⟩) rfl (fun K hK => ?_) AllReadyH.nil)
            rw [if_pos (by rfl)]
            refine store_int_wp rfl rfl rfl (hst.cell rfl) (hst.frozen 1) ?_
            have hst' := St.set (i := 1) (v := .int .i64 (byt b 1 % 16 * 65536 + byt b 2 * 256 + byt b 3)) (q' := ⟨(byt b 0 % 16 * 16 + byt b 1 / 16), (byt b 1 % 16 * 65536 + byt b 2 * 256 + byt b 3), byt b 6, byt b 7, nul, nul, []⟩) (A' := none) (c' := 0) hst hlt3 rfl
            refine hK.out _ _ hst'.1 (fun hS => ?_)
            clear hK K
            try go_frame
            refine wpAnyH_done (by kernel_rfl) ?_ _
            generalize W9.drew.setCell ⟨W3.heap.size, 1, none⟩ (.int .i64 (byt b 1 % 16 * 65536 + byt b 2 * 256 + byt b 3)) = W10 at *
            obtain ⟨LA, hLA⟩ : ∃ l, l = b.drop 8 := ⟨_, rfl⟩
            obtain ⟨LB, hLB⟩ : ∃ l, l = b.drop 24 := ⟨_, rfl⟩
            have hlA : 16 ≤ LA.length := by rw [hLA, List.length_drop]; omega
            have hlB : 16 ≤ LB.length := by rw [hLB, List.length_drop]; omega
            have HXA := Lib.hid (fun k (h : k < LA.length) => show byt b (8 + k) = ((LA[k]).toNat : Int) by subst hLA; simp [byt] at h ⊢; simp [show 8 + k < b.length from by omega])
            have HXB := Lib.hid (fun k (h : k < LB.length) => show byt b (24 + k) = ((LB[k]).toNat : Int) by subst hLB; simp [byt] at h ⊢; simp [show 24 + k < b.length from by omega])
            have HLA := Lib.hid hLA; have HLB := Lib.hid hLB
            have hst10 : St w W3.heap.size ⟨(byt b 0 % 16 * 16 + byt b 1 / 16), (byt b 1 % 16 * 65536 + byt b 2 * 256 + byt b 3), byt b 6, byt b 7, fil LA 0, fil LB 0, []⟩ none 0 W10 := hst'
            obtain ⟨TT, hTT⟩ : ∃ n, n = (byt b 0 % 16 * 16 + byt b 1 / 16) := ⟨_, rfl⟩
            obtain ⟨FF, hFF⟩ : ∃ n, n = (byt b 1 % 16 * 65536 + byt b 2 * 256 + byt b 3) := ⟨_, rfl⟩
            have HTT := Lib.hid hTT; have HFF := Lib.hid hFF
            rw [← hTT, ← hFF] at hst10
            clear hst hst' hLA hLB hTT hFF F3 F4 F5 F9 F10 F11 H3 H4 H5 H9 H10 H11 H15 H16
            go_wp2_with fail
            go_loopw [8] (fun i W => ∃ k : Nat, k ≤ 16 ∧ i = .int .i64 (k : Int) ∧ St w W3.heap.size ⟨TT, FF, byt b 6, byt b 7, fil LA k, fil LB k, []⟩ none 0 W) (fun i _ => 16 - (intOf i).toNat)
            case atStart => exact ⟨0, Nat.zero_le _, rfl, hst10⟩
            case round =>
              obtain ⟨k, hk, rfl, hstk⟩ := hrel
              by_cases hlt : k < 16
              · go_wp2_with fail
                have hf1 := fil_len LA hk hlA
                have hf2 := fil_len LB hk hlB
                have HF1 := Lib.hid hf1; have HF2 := Lib.hid hf2
                clear hf1 hf2
                refine wp_region_held_drew (S := OwnR w 26 37) (by kernel_rfl) hstk.1.drew (fun hS => ?_)
                refine held_pure (i := 0) (oi := ⟨some 83, _, _, _, _, _⟩) rfl (by kernel_rfl) (by kernel_rfl) (by kernel_rfl) (fun _ _ _ h => h) (by rfl) (v := ?_) (fun w hSw => ?_) hS (fun hS => ?_)
                rotate_left
                · go_simp; try with_reducible rfl
                try go_frame
                refine held_pure (i := 1) (oi := ⟨some 84, _, _, _, _, _⟩) rfl (by kernel_rfl) (by kernel_rfl) (by kernel_rfl) (fun _ _ _ h => h) (by rfl) (v := ?_) (fun w hSw => ?_) hS (fun hS => ?_)
                rotate_left
                · go_simp; try with_reducible rfl
                try go_frame
                refine held_pure (i := 2) (oi := ⟨some 85, _, _, _, _, _⟩) rfl (by kernel_rfl) (by kernel_rfl) (by kernel_rfl) (fun _ _ _ h => h) (by rfl) (v := ?_) (fun w hSw => ?_) hS (fun hS => ?_)
                rotate_left
                · go_simp; try with_reducible rfl
                try go_frame
                refine held_pure (i := 3) (oi := ⟨some 86, _, _, _, _, _⟩) rfl (by kernel_rfl) (by kernel_rfl) (by kernel_rfl) (fun _ _ _ h => h) (by rfl) (v := ?_) (fun w hSw => ?_) hS (fun hS => ?_)
                rotate_left
                · go_simp; try with_reducible rfl
                try go_frame
                refine held_pure (i := 4) (oi := ⟨some 87, _, _, _, _, _⟩) rfl (by kernel_rfl) (by kernel_rfl) (by kernel_rfl) (fun _ _ _ h => h) (by rfl) (v := .int .i64 (8 + (k : Int))) (fun w hSw => by go_simp; exact IntWalk.i64_in _ (by omega)) hS (fun hS => ?_)
                try go_frame
                refine held_pure (i := 5) (oi := ⟨some 88, _, _, _, _, _⟩) rfl (by kernel_rfl) (by kernel_rfl) (by kernel_rfl) (fun _ _ _ h => h) (by rfl) (v := .pointer (some ⟨o, of + (8 + k), none⟩)) (fun w hSw => by go_simp; rw [if_pos ⟨by omega, by omega⟩, show (8 + (k : Int)).toNat = 8 + k from by omega]) hS (fun hS => ?_)
                try go_frame
                refine held_pure (i := 6) (oi := ⟨some 89, _, _, _, _, _⟩) rfl (by kernel_rfl) (by kernel_rfl) (by kernel_rfl) (fun _ _ _ h => h) (by rfl) (fun w hSw => run_load_byte rfl rfl ((hSw.b.cell hb0).trans (KC.out (8 + k) (by omega)))) hS (fun hS => ?_)
                try go_frame
                refine held_pure (i := 7) (oi := ⟨some 90, _, _, _, _, _⟩) rfl (by kernel_rfl) (by kernel_rfl) (by kernel_rfl) (fun _ _ _ h => h) (by rfl) (v := ?_) (fun w hSw => ?_) hS (fun hS => ?_)
                rotate_left
                · go_simp; try with_reducible rfl
                try go_frame
                refine held_pure (i := 8) (oi := ⟨some 91, _, _, _, _, _⟩) rfl (by kernel_rfl) (by kernel_rfl) (by kernel_rfl) (fun _ _ _ h => h) (by rfl) (v := ?_) (fun w hSw => ?_) hS (fun hS => ?_)
                rotate_left
                · go_simp; try with_reducible rfl
                try go_frame
                refine held_pure (i := 9) (oi := ⟨some 92, _, _, _, _, _⟩) rfl (by kernel_rfl) (by kernel_rfl) (by kernel_rfl) (fun _ _ _ h => h) (by rfl) (v := .int .i64 (24 + (k : Int))) (fun w hSw => by go_simp; exact IntWalk.i64_in _ (by omega)) hS (fun hS => ?_)
                try go_frame
                refine held_pure (i := 10) (oi := ⟨some 93, _, _, _, _, _⟩) rfl (by kernel_rfl) (by kernel_rfl) (by kernel_rfl) (fun _ _ _ h => h) (by rfl) (v := .pointer (some ⟨o, of + (24 + k), none⟩)) (fun w hSw => by go_simp; rw [if_pos ⟨by omega, by omega⟩, show (24 + (k : Int)).toNat = 24 + k from by omega]) hS (fun hS => ?_)
                try go_frame
                refine held_pure (i := 11) (oi := ⟨some 94, _, _, _, _, _⟩) rfl (by kernel_rfl) (by kernel_rfl) (by kernel_rfl) (fun _ _ _ h => h) (by rfl) (fun w hSw => run_load_byte rfl rfl ((hSw.b.cell hb0).trans (KC.out (24 + k) (by omega)))) hS (fun hS => ?_)
                try go_frame
                refine held_pure (i := 12) (oi := ⟨some 95, _, _, _, _, _⟩) rfl (by kernel_rfl) (by kernel_rfl) (by kernel_rfl) (fun _ _ _ h => h) (by rfl) (v := ?_) (fun w hSw => ?_) hS (fun hS => ?_)
                rotate_left
                · go_simp; try with_reducible rfl
                try go_frame
                refine held_pure (i := 13) (oi := ⟨some 96, _, _, _, _, _⟩) rfl (by kernel_rfl) (by kernel_rfl) (by kernel_rfl) (fun _ _ _ h => h) (by rfl) (v := .pointer (some ⟨W3.heap.size, 4 + k, none⟩)) (fun w hSw => by go_simp) hS (fun hS => ?_)
                try go_frame
                refine held_pure (i := 15) (oi := ⟨some 97, _, _, _, _, _⟩) rfl (by kernel_rfl) (by kernel_rfl) (by kernel_rfl) (fun _ _ _ h => h) (by rfl) (v := ?_) (fun w hSw => ?_) hS (fun hS => ?_)
                rotate_left
                · go_simp; try with_reducible rfl
                try go_frame
                refine wpAnyH_ready (rs := [14]) (by kernel_rfl) (by simp) (AllReadyH.cons (o := ⟨none, _, _, _, _, _⟩) rfl (fun K hK => ?_) AllReadyH.nil)
                rw [if_pos (by rfl)]
                refine store_u8_wp rfl rfl rfl (hstk.cell (v6l_src k _ (row_get _ (by rw [HF1.out]; exact hlt)))) (hstk.frozen _) ?_
                have hstA : St w W3.heap.size ⟨TT, FF, byt b 6, byt b 7, fil LA (k + 1), fil LB k, []⟩ none 0 (wr.drew.setCell ⟨W3.heap.size, 4 + k, none⟩ (.int .u8 (byt b (8 + k)))) := St.set (w' := wr.drew) ⟨hstk.1.drew, hstk.2⟩ hlt3 (by rw [HXA.out k (by omega), set_src _ _ _ _ _ hlt HF1.out, fil_set LA hlt hlA])
                refine hK.out _ _ hstA.1 (fun hS => ?_)
                clear hK K
                try go_frame
                refine held_pure (i := 16) (oi := ⟨some 98, _, _, _, _, _⟩) rfl (by kernel_rfl) (by kernel_rfl) (by kernel_rfl) (fun _ _ _ h => h) (by rfl) (v := .pointer (some ⟨W3.heap.size, 20 + k, none⟩)) (fun w hSw => by go_simp) hS (fun hS => ?_)
                try go_frame
                refine wpAnyH_ready (rs := [17]) (by kernel_rfl) (by simp) (AllReadyH.cons (o := ⟨none, _, _, _, _, _⟩) rfl (fun K hK => ?_) AllReadyH.nil)
                rw [if_pos (by rfl)]
                have HF3 := Lib.hid (fil_len LA (k := k + 1) (by omega) hlA)
                refine store_u8_wp rfl rfl rfl (hstA.cell (v6l_dst HF3.out k _ (row_get _ (by rw [HF2.out]; exact hlt)))) (hstA.frozen _) ?_
                have hstB := St.set (i := 20 + k) (v := .int .u8 (byt b (24 + k))) (q' := ⟨TT, FF, byt b 6, byt b 7, fil LA (k + 1), fil LB (k + 1), []⟩) (A' := none) (c' := 0) hstA hlt3 (by rw [HXB.out k (by omega), set_dst _ _ _ _ _ hlt HF3.out HF2.out, fil_set LB hlt hlB])
                refine hK.out _ _ hstB.1 (fun hS => ?_)
                clear hK K
                try go_frame
                refine wpAnyH_done (by kernel_rfl) ?_ _
                go_wp2_with fail
                go_roundw
                case rel => exact ⟨k + 1, by omega, by simp, hstB⟩
                case measure => simp [intOf]; omega
              · obtain rfl : k = 16 := by omega
                rw [fil_all, fil_all] at hstk
                obtain ⟨D, hD⟩ : ∃ D, D = (b.take (end6 b)).drop 40 := ⟨_, rfl⟩
                have he6 : end6 b ≤ b.length := by unfold end6; omega
                have HDl := Lib.hid (show D.length = end6 b - 40 by rw [hD]; exact end6_len b h40)
                have hA8 : Arg w B (cutA (some ⟨o, of, none⟩) c 40) (c - 40) D := by rw [hD]; exact hR.cut 40 (end6 b) he6
                have HB := Lib.hid (show bad6 b false = 0 by rw [bad6, if_neg h40, if_neg (fun h => h (by simpa using d6)), if_neg (by intro h; have := h.2; omega)])
                have HE1 := Lib.hid (show prs6 b false = raw6 b by rw [prs6, if_pos HB.out])
                have HQ := Lib.hid (show raw6 b = ⟨TT, FF, byt b 6, byt b 7, LA.take 16, LB.take 16, D⟩ by rw [HTT.out, HFF.out, HLA.out, HLB.out, hD]; rfl)
                have HE6 := Lib.hid (show end6 b = 40 + min (n2 b 4).toNat (b.length - 40) from rfl)
                have hlS : (LA.take 16).length = 16 := by rw [List.length_take]; omega
                have hlD : (LB.take 16).length = 16 := by rw [List.length_take]; omega
                have HLS := Lib.hid hlS; have HLD := Lib.hid hlD
                obtain ⟨SS, hSS⟩ : ∃ l, l = LA.take 16 := ⟨_, rfl⟩
                obtain ⟨DD, hDD⟩ : ∃ l, l = LB.take 16 := ⟨_, rfl⟩
                rw [← hSS, ← hDD] at hstk HQ
                rw [← hSS] at HLS
                rw [← hDD] at HLD
                have HX := Lib.hid (fun (h : Int) (h0 : 0 ≤ h) (hh : h = (end6 b : Int)) => show D.length = h.toNat - (40 : Int).toNat by have := HDl.out; rw [this]; omega)
                clear hlS hlD hSS hDD he6 hD
                rcases Int.lt_or_le ((b.length : Int) - 40) (n2 b 4) with hmn | hmn
                · exfalso; omega
                · have hm0 : (40 + n2 b 4) = (end6 b : Int) := by have := HE6.out; omega
                  have HM := Lib.hid hm0
                  clear hm0
                  go_upto_region 16 with (first
                    | ((with_reducible show wpList _ _ _ (Oper.mk _ (Op.slice _ _ _ _ _) _ _ _ _ :: _) _ _); refine wpList_val rfl (run_cut_lh rfl rfl rfl rfl (l := 40) (by omega) (by omega) (by omega) (HX.out _ (by omega) (by have := HM.out; omega))) ?_)
                    | (at_builtin; refine append_rd rfl _ _ rfl wr.heap.size (.slice none 0 0) 0 [] rfl (World.ownsRow_nil _ _ _ _) B _ _ D rfl (hA8.below (hstk.1.b.mono hB)).none_ (hA8.below (hstk.1.b.mono hB)).rd (by have := HDl.out; have := HM.out; omega) (Nat.le_refl _) ?_; intro v5 w5 own5 grow5; obtain ⟨P, p, rfl, owm5⟩ := own_made (bs := D) own5 (by simp) (by simp); have x5 : Below wr.heap.size wr w5 := (Below.refl wr.heap.size wr).grown grow5 (Nat.le_refl _) (fun k hk => by cases hk); have st5 := hstk.step x5; have kc36 := st5.cell (v6l_dat HLS.out HLD.out); have kf36 := st5.frozen 36))
                  have st6 : St w W3.heap.size ⟨TT, FF, byt b 6, byt b 7, SS, DD, D⟩ P p (w5.setCell ⟨W3.heap.size, 36, none⟩ (.slice P D.length p)) := st5.set hlt3 (set_dat ⟨TT, FF, byt b 6, byt b 7, SS, DD, []⟩ none P 0 p D HLS.out HLD.out)
                  have own6 : (w5.setCell ⟨W3.heap.size, 36, none⟩ (.slice P D.length p)).ownsRow wr.heap.size 5 1 (.slice P D.length p) D.length (row D) := own_setCell owm5 (p := ⟨W3.heap.size, 36, none⟩) (heap_lt hstk.2)
                  have hwr := hstk.1.lt
                  clear kc36 kf36 st5
                  generalize w5.setCell ⟨W3.heap.size, 36, none⟩ (.slice P D.length p) = W6 at *
                  have hAt8 := At6.of_heap st6.2 rfl
                  obtain ⟨old, hold, hgo⟩ := st6.1.2
                  go_wp2_with (first
                    | ((with_reducible show wpList _ _ _ (Oper.mk _ (Op.load _ _) _ _ _ _ :: _) _ _); refine wpList_val rfl (run_load_v6 rfl rfl hAt8 (v6l_len HLS.out HLD.out)) ?_)
                    | ((with_reducible show wpList _ _ _ (Oper.mk _ (Op.store _ _ _) _ _ _ _ :: _) _ _); refine v6_store (g := w.heap.size) (cs := v6a ⟨TT, FF, byt b 6, byt b 7, SS, DD, D⟩ P p) rfl rfl hgo hold (by rw [v6a, List.size_toArray]; exact v6l_len HLS.out HLD.out) (v6a_one _ _ _) ?_))
                  exact bodyPost_ret (res2 rfl rfl (run_loadVar_row _ _ _ 26 (v6a ⟨TT, FF, byt b 6, byt b 7, SS, DD, D⟩ P p) _ _ (setRow_heap _ _ _ _ _ _ hgo) Try.underlying26 rfl (by rw [v6a, List.size_toArray, v6l_len HLS.out HLD.out]; kernel_rfl))) rfl ⟨P, p, by rw [HE1.out, HB.out, HQ.out]; rfl, by rw [HE1.out, HQ.out]; exact Made.of_own (own_base (own_setRow own6 hwr) (Nat.le_of_lt hwr)) (below_row st6.1.b (Nat.le_refl _))⟩
      · skip
        have hlt3 := hS.lt
        go_upto_region 8 with fail
        go_cut [7] from 8 (fun s w' => s = .pointer (some ⟨W3.heap.size, 0, none⟩) ∧ OwnR w 26 37 w' ∧ w'.heap[W3.heap.size]? = some (.cells (v6a ⟨0, 0, byt b 6, byt b 7, nul, nul, []⟩ none 0) 26 (0, 0)))
        case first =>
          refine wp_region_held_drew (S := OwnR w 26 37) (by kernel_rfl) hS.drew (fun hS => ?_)
          refine held_pure (i := 0) (oi := ⟨some 39, _, _, _, _, _⟩) rfl (by kernel_rfl) (by kernel_rfl) (by kernel_rfl) (fun _ _ _ h => h) (by rfl) (v := ?_) (fun w hSw => ?_) hS (fun hS => ?_)
          rotate_left
          · go_simp; try with_reducible rfl
          try go_frame
          refine held_pure (i := 1) (oi := ⟨some 40, _, _, _, _, _⟩) rfl (by kernel_rfl) (by kernel_rfl) (by kernel_rfl) (fun _ _ _ h => h) (by rfl) (v := .pointer (some ⟨o, of + 6, none⟩)) (fun w hSw => by go_simp; exact fun hx => absurd hx (by omega)) hS (fun hS => ?_)
          try go_frame
          refine held_pure (i := 2) (oi := ⟨some 41, _, _, _, _, _⟩) rfl (by kernel_rfl) (by kernel_rfl) (by kernel_rfl) (fun _ _ _ h => h) (by rfl) (fun w hSw => run_load_byte rfl rfl ((hSw.b.cell hb0).trans (KC.out 6 (by omega)))) hS (fun hS => ?_)
          try go_frame
          refine held_pure (i := 3) (oi := ⟨some 42, _, _, _, _, _⟩) rfl (by kernel_rfl) (by kernel_rfl) (by kernel_rfl) (fun _ _ _ h => h) (by rfl) (v := .int .i64 (byt b 6)) (fun w hSw => by go_simp; try exact E6.out) hS (fun hS => ?_)
          try go_frame
          refine held_pure (i := 4) (oi := ⟨some 43, _, _, _, _, _⟩) rfl (by kernel_rfl) (by kernel_rfl) (by kernel_rfl) (fun _ _ _ h => h) (by rfl) (v := ?_) (fun w hSw => ?_) hS (fun hS => ?_)
          rotate_left
          · go_simp; try with_reducible rfl
          try go_frame
          refine held_pure (i := 5) (oi := ⟨some 44, _, _, _, _, _⟩) rfl (by kernel_rfl) (by kernel_rfl) (by kernel_rfl) (fun _ _ _ h => h) (by rfl) (v := .pointer (some ⟨o, of + 7, none⟩)) (fun w hSw => by go_simp; exact fun hx => absurd hx (by omega)) hS (fun hS => ?_)
          try go_frame
          refine held_pure (i := 6) (oi := ⟨some 45, _, _, _, _, _⟩) rfl (by kernel_rfl) (by kernel_rfl) (by kernel_rfl) (fun _ _ _ h => h) (by rfl) (fun w hSw => run_load_byte rfl rfl ((hSw.b.cell hb0).trans (KC.out 7 (by omega)))) hS (fun hS => ?_)
          try go_frame
          refine held_pure (i := 7) (oi := ⟨some 46, _, _, _, _, _⟩) rfl (by kernel_rfl) (by kernel_rfl) (by kernel_rfl) (fun _ _ _ h => h) (by rfl) (v := .int .i64 (byt b 7)) (fun w hSw => by go_simp; try exact E7.out) hS (fun hS => ?_)
          try go_frame
          refine held_pure (i := 8) (oi := ⟨some 47, _, _, _, _, _⟩) rfl (by kernel_rfl) (by kernel_rfl) (by kernel_rfl) (fun _ _ _ h => h) (by rfl) (v := ?_) (fun w hSw => ?_) hS (fun hS => ?_)
          rotate_left
          · go_simp; try with_reducible rfl
          try go_frame
          refine wpAnyH_ready (rs := [9]) (by kernel_rfl) (by simp) (AllReadyH.cons (o := ⟨some 7, _, _, _, _, _⟩) rfl (fun K hK => ?_) AllReadyH.nil)
          rw [if_pos (by rfl)]
          go_simp
          refine hK.out _ _ (hS.alloc _) (fun hS => ?_)
          clear hK K
          try go_frame
          refine wpAnyH_ready (rs := [10]) (by kernel_rfl) (by simp) (AllReadyH.cons (o := ⟨none, _, _, _, _, _⟩) rfl (fun K hK => ?_) AllReadyH.nil)
          rw [if_pos (by rfl)]
          refine wp_store_row 26 _ _ rfl W3.heap.size (v6a ⟨0, 0, byt b 6, byt b 7, nul, nul, []⟩ none 0) rfl rfl 26 _ (World.alloc_heap_new W3 _) (by kernel_rfl) (by rfl) (v6a_one _ _ _) ?_
          have hgz := setRow_heap _ _ _ (v6a ⟨0, 0, byt b 6, byt b 7, nul, nul, []⟩ none 0) _ _ (World.alloc_heap_new W3 (.cells #[.int .i64 0, .int .i64 0, .int .i64 0, .int .i64 0, .int .u8 0, .int .u8 0, .int .u8 0, .int .u8 0, .int .u8 0, .int .u8 0, .int .u8 0, .int .u8 0, .int .u8 0, .int .u8 0, .int .u8 0, .int .u8 0, .int .u8 0, .int .u8 0, .int .u8 0, .int .u8 0, .int .u8 0, .int .u8 0, .int .u8 0, .int .u8 0, .int .u8 0, .int .u8 0, .int .u8 0, .int .u8 0, .int .u8 0, .int .u8 0, .int .u8 0, .int .u8 0, .int .u8 0, .int .u8 0, .int .u8 0, .int .u8 0, .slice none 0 0] 26))
          refine hK.out _ _ (hS.row_other hlt3) (fun hS => ?_)
          clear hK K
          try go_frame
          refine wpAnyH_done (by kernel_rfl) ?_ _
          go_wp2_with fail
          go_meet
          exact ⟨rfl, hS, hgz⟩
        case rest =>
          obtain ⟨hs7, hOR8, hgz⟩ := hcut
          subst hs7
          have hst : St w W3.heap.size ⟨0, 0, byt b 6, byt b 7, nul, nul, []⟩ none 0 wc.drew := ⟨hOR8.drew, hgz⟩
          clear hOR8 hgz
          go_wp2_with fail
          refine wp_region_held_drew (S := OwnR w 26 37) (by kernel_rfl) hst.1 (fun hS => ?_)
          refine held_pure (i := 0) (oi := ⟨some 48, _, _, _, _, _⟩) rfl (by kernel_rfl) (by kernel_rfl) (by kernel_rfl) (fun _ _ _ h => h) (by rfl) (v := ?_) (fun w hSw => ?_) hS (fun hS => ?_)
          rotate_left
          · go_simp; try with_reducible rfl
          try go_frame
          refine held_pure (i := 1) (oi := ⟨some 49, _, _, _, _, _⟩) rfl (by kernel_rfl) (by kernel_rfl) (by kernel_rfl) (fun _ _ _ h => h) (by rfl) (v := .pointer (some ⟨o, of, none⟩)) (fun w hSw => by go_simp; exact fun hx => absurd (congrArg List.length hx) (by rw [List.length_nil]; omega)) hS (fun hS => ?_)
          try go_frame
          refine held_pure (i := 2) (oi := ⟨some 50, _, _, _, _, _⟩) rfl (by kernel_rfl) (by kernel_rfl) (by kernel_rfl) (fun _ _ _ h => h) (by rfl) (fun w hSw => run_load_byte rfl rfl ((hSw.b.cell hb0).trans (KC.out 0 (by omega)))) hS (fun hS => ?_)
          try go_frame
          refine held_pure (i := 3) (oi := ⟨some 51, _, _, _, _, _⟩) rfl (by kernel_rfl) (by kernel_rfl) (by kernel_rfl) (fun _ _ _ h => h) (by rfl) (v := .int .u8 (byt b 0 % 16)) (fun w hSw => by go_simp; try (first | rfl | exact F3.out)) hS (fun hS => ?_)
          try go_frame
          refine held_pure (i := 4) (oi := ⟨some 52, _, _, _, _, _⟩) rfl (by kernel_rfl) (by kernel_rfl) (by kernel_rfl) (fun _ _ _ h => h) (by rfl) (v := .int .i64 (byt b 0 % 16)) (fun w hSw => by go_simp; try (first | rfl | exact F4.out)) hS (fun hS => ?_)
          try go_frame
          refine held_pure (i := 5) (oi := ⟨some 53, _, _, _, _, _⟩) rfl (by kernel_rfl) (by kernel_rfl) (by kernel_rfl) (fun _ _ _ h => h) (by rfl) (v := .int .i64 (byt b 0 % 16 * 16)) (fun w hSw => by go_simp; try (first | rfl | exact F5.out)) hS (fun hS => ?_)
          try go_frame
          refine held_pure (i := 6) (oi := ⟨some 54, _, _, _, _, _⟩) rfl (by kernel_rfl) (by kernel_rfl) (by kernel_rfl) (fun _ _ _ h => h) (by rfl) (v := ?_) (fun w hSw => ?_) hS (fun hS => ?_)
          rotate_left
          · go_simp; try with_reducible rfl
          try go_frame
          refine held_pure (i := 7) (oi := ⟨some 55, _, _, _, _, _⟩) rfl (by kernel_rfl) (by kernel_rfl) (by kernel_rfl) (fun _ _ _ h => h) (by rfl) (v := .pointer (some ⟨o, of + 1, none⟩)) (fun w hSw => by go_simp; exact fun hx => absurd hx (by omega)) hS (fun hS => ?_)
          try go_frame
          refine held_pure (i := 8) (oi := ⟨some 56, _, _, _, _, _⟩) rfl (by kernel_rfl) (by kernel_rfl) (by kernel_rfl) (fun _ _ _ h => h) (by rfl) (fun w hSw => run_load_byte rfl rfl ((hSw.b.cell hb0).trans (KC.out 1 (by omega)))) hS (fun hS => ?_)
          try go_frame
          refine held_pure (i := 9) (oi := ⟨some 57, _, _, _, _, _⟩) rfl (by kernel_rfl) (by kernel_rfl) (by kernel_rfl) (fun _ _ _ h => h) (by rfl) (v := .int .u8 (byt b 1 / 16)) (fun w hSw => by go_simp; try (first | rfl | exact F9.out)) hS (fun hS => ?_)
          try go_frame
          refine held_pure (i := 10) (oi := ⟨some 58, _, _, _, _, _⟩) rfl (by kernel_rfl) (by kernel_rfl) (by kernel_rfl) (fun _ _ _ h => h) (by rfl) (v := .int .i64 (byt b 1 / 16)) (fun w hSw => by go_simp; try (first | rfl | exact F10.out)) hS (fun hS => ?_)
          try go_frame
          refine held_pure (i := 11) (oi := ⟨some 59, _, _, _, _, _⟩) rfl (by kernel_rfl) (by kernel_rfl) (by kernel_rfl) (fun _ _ _ h => h) (by rfl) (v := .int .i64 (byt b 0 % 16 * 16 + byt b 1 / 16)) (fun w hSw => by go_simp; try (first | rfl | exact F11.out)) hS (fun hS => ?_)
          try go_frame
          refine held_pure (i := 12) (oi := ⟨some 60, _, _, _, _, _⟩) rfl (by kernel_rfl) (by kernel_rfl) (by kernel_rfl) (fun _ _ _ h => h) (by rfl) (v := ?_) (fun w hSw => ?_) hS (fun hS => ?_)
          rotate_left
          · go_simp; try with_reducible rfl
          try go_frame
          refine wpAnyH_ready (rs := [13]) (by kernel_rfl) (by simp) (AllReadyH.cons (o := ⟨none, _, _, _, _, _⟩) rfl (fun K hK => ?_) AllReadyH.nil)
          rw [if_pos (by rfl)]
          refine store_int_wp rfl rfl rfl (hst.cell rfl) (hst.frozen 0) ?_
          have hst' := St.set (i := 0) (v := .int .i64 (byt b 0 % 16 * 16 + byt b 1 / 16)) (q' := ⟨(byt b 0 % 16 * 16 + byt b 1 / 16), 0, byt b 6, byt b 7, nul, nul, []⟩) (A' := none) (c' := 0) hst hlt3 rfl
          refine hK.out _ _ hst'.1 (fun hS => ?_)
          clear hK K
          try go_frame
          refine wpAnyH_done (by kernel_rfl) ?_ _
          generalize wc.drew.setCell ⟨W3.heap.size, 0, none⟩ (.int .i64 (byt b 0 % 16 * 16 + byt b 1 / 16)) = W9 at *
          have hst9 : St w W3.heap.size ⟨(byt b 0 % 16 * 16 + byt b 1 / 16), 0, byt b 6, byt b 7, nul, nul, []⟩ none 0 W9.drew := ⟨hst'.1.drew, hst'.2⟩
          clear hst hst'
          have hst := hst9
          clear hst9
          go_wp2_with fail
          refine wp_region_held_drew (S := OwnR w 26 37) (by kernel_rfl) hst.1 (fun hS => ?_)
          refine held_pure (i := 0) (oi := ⟨some 61, _, _, _, _, _⟩) rfl (by kernel_rfl) (by kernel_rfl) (by kernel_rfl) (fun _ _ _ h => h) (by rfl) (v := ?_) (fun w hSw => ?_) hS (fun hS => ?_)
          rotate_left
          · go_simp; try with_reducible rfl
          try go_frame
          refine held_pure (i := 1) (oi := ⟨some 62, _, _, _, _, _⟩) rfl (by kernel_rfl) (by kernel_rfl) (by kernel_rfl) (fun _ _ _ h => h) (by rfl) (v := .pointer (some ⟨o, of + 1, none⟩)) (fun w hSw => by go_simp; exact fun hx => absurd hx (by omega)) hS (fun hS => ?_)
          try go_frame
          refine held_pure (i := 2) (oi := ⟨some 63, _, _, _, _, _⟩) rfl (by kernel_rfl) (by kernel_rfl) (by kernel_rfl) (fun _ _ _ h => h) (by rfl) (fun w hSw => run_load_byte rfl rfl ((hSw.b.cell hb0).trans (KC.out 1 (by omega)))) hS (fun hS => ?_)
          try go_frame
          refine held_pure (i := 3) (oi := ⟨some 64, _, _, _, _, _⟩) rfl (by kernel_rfl) (by kernel_rfl) (by kernel_rfl) (fun _ _ _ h => h) (by rfl) (v := .int .u8 (byt b 1 % 16)) (fun w hSw => by go_simp; try (first | rfl | exact H3.out)) hS (fun hS => ?_)
          try go_frame
          refine held_pure (i := 4) (oi := ⟨some 65, _, _, _, _, _⟩) rfl (by kernel_rfl) (by kernel_rfl) (by kernel_rfl) (fun _ _ _ h => h) (by rfl) (v := .int .i64 (byt b 1 % 16)) (fun w hSw => by go_simp; try (first | rfl | exact H4.out)) hS (fun hS => ?_)
          try go_frame
          refine held_pure (i := 5) (oi := ⟨some 66, _, _, _, _, _⟩) rfl (by kernel_rfl) (by kernel_rfl) (by kernel_rfl) (fun _ _ _ h => h) (by rfl) (v := .int .i64 (byt b 1 % 16 * 65536)) (fun w hSw => by go_simp; try (first | rfl | exact H5.out)) hS (fun hS => ?_)
          try go_frame
          refine held_pure (i := 6) (oi := ⟨some 67, _, _, _, _, _⟩) rfl (by kernel_rfl) (by kernel_rfl) (by kernel_rfl) (fun _ _ _ h => h) (by rfl) (v := ?_) (fun w hSw => ?_) hS (fun hS => ?_)
          rotate_left
          · go_simp; try with_reducible rfl
          try go_frame
          refine held_pure (i := 7) (oi := ⟨some 68, _, _, _, _, _⟩) rfl (by kernel_rfl) (by kernel_rfl) (by kernel_rfl) (fun _ _ _ h => h) (by rfl) (v := .pointer (some ⟨o, of + 2, none⟩)) (fun w hSw => by go_simp; exact fun hx => absurd hx (by omega)) hS (fun hS => ?_)
          try go_frame
          refine held_pure (i := 8) (oi := ⟨some 69, _, _, _, _, _⟩) rfl (by kernel_rfl) (by kernel_rfl) (by kernel_rfl) (fun _ _ _ h => h) (by rfl) (fun w hSw => run_load_byte rfl rfl ((hSw.b.cell hb0).trans (KC.out 2 (by omega)))) hS (fun hS => ?_)
          try go_frame
          refine held_pure (i := 9) (oi := ⟨some 70, _, _, _, _, _⟩) rfl (by kernel_rfl) (by kernel_rfl) (by kernel_rfl) (fun _ _ _ h => h) (by rfl) (v := .int .i64 (byt b 2)) (fun w hSw => by go_simp; try (first | rfl | exact H9.out)) hS (fun hS => ?_)
          try go_frame
          refine held_pure (i := 10) (oi := ⟨some 71, _, _, _, _, _⟩) rfl (by kernel_rfl) (by kernel_rfl) (by kernel_rfl) (fun _ _ _ h => h) (by rfl) (v := .int .i64 (byt b 2 * 256)) (fun w hSw => by go_simp; try (first | rfl | exact H10.out)) hS (fun hS => ?_)
          try go_frame
          refine held_pure (i := 11) (oi := ⟨some 72, _, _, _, _, _⟩) rfl (by kernel_rfl) (by kernel_rfl) (by kernel_rfl) (fun _ _ _ h => h) (by rfl) (v := .int .i64 (byt b 1 % 16 * 65536 + byt b 2 * 256)) (fun w hSw => by go_simp; try (first | rfl | exact H11.out)) hS (fun hS => ?_)
          try go_frame
          refine held_pure (i := 12) (oi := ⟨some 73, _, _, _, _, _⟩) rfl (by kernel_rfl) (by kernel_rfl) (by kernel_rfl) (fun _ _ _ h => h) (by rfl) (v := ?_) (fun w hSw => ?_) hS (fun hS => ?_)
          rotate_left
          · go_simp; try with_reducible rfl
          try go_frame
          refine held_pure (i := 13) (oi := ⟨some 74, _, _, _, _, _⟩) rfl (by kernel_rfl) (by kernel_rfl) (by kernel_rfl) (fun _ _ _ h => h) (by rfl) (v := .pointer (some ⟨o, of + 3, none⟩)) (fun w hSw => by go_simp; exact fun hx => absurd hx (by omega)) hS (fun hS => ?_)
          try go_frame
          refine held_pure (i := 14) (oi := ⟨some 75, _, _, _, _, _⟩) rfl (by kernel_rfl) (by kernel_rfl) (by kernel_rfl) (fun _ _ _ h => h) (by rfl) (fun w hSw => run_load_byte rfl rfl ((hSw.b.cell hb0).trans (KC.out 3 (by omega)))) hS (fun hS => ?_)
          try go_frame
          refine held_pure (i := 15) (oi := ⟨some 76, _, _, _, _, _⟩) rfl (by kernel_rfl) (by kernel_rfl) (by kernel_rfl) (fun _ _ _ h => h) (by rfl) (v := .int .i64 (byt b 3)) (fun w hSw => by go_simp; try (first | rfl | exact H15.out)) hS (fun hS => ?_)
          try go_frame
          refine held_pure (i := 16) (oi := ⟨some 77, _, _, _, _, _⟩) rfl (by kernel_rfl) (by kernel_rfl) (by kernel_rfl) (fun _ _ _ h => h) (by rfl) (v := .int .i64 (byt b 1 % 16 * 65536 + byt b 2 * 256 + byt b 3)) (fun w hSw => by go_simp; try (first | rfl | exact H16.out)) hS (fun hS => ?_)
          try go_frame
          refine held_pure (i := 17) (oi := ⟨some 78, _, _, _, _, _⟩) rfl (by kernel_rfl) (by kernel_rfl) (by kernel_rfl) (fun _ _ _ h => h) (by rfl) (v := ?_) (fun w hSw => ?_) hS (fun hS => ?_)
          rotate_left
          · go_simp; try with_reducible rfl
          try go_frame
          refine wpAnyH_ready (rs := [18]) (by kernel_rfl) (by simp) (AllReadyH.cons (o := ⟨none, _, _, _, _, _⟩) rfl (fun K hK => ?_) AllReadyH.nil)
          rw [if_pos (by rfl)]
          refine store_int_wp rfl rfl rfl (hst.cell rfl) (hst.frozen 1) ?_
          have hst' := St.set (i := 1) (v := .int .i64 (byt b 1 % 16 * 65536 + byt b 2 * 256 + byt b 3)) (q' := ⟨(byt b 0 % 16 * 16 + byt b 1 / 16), (byt b 1 % 16 * 65536 + byt b 2 * 256 + byt b 3), byt b 6, byt b 7, nul, nul, []⟩) (A' := none) (c' := 0) hst hlt3 rfl
          refine hK.out _ _ hst'.1 (fun hS => ?_)
          clear hK K
          try go_frame
          refine wpAnyH_done (by kernel_rfl) ?_ _
          generalize W9.drew.setCell ⟨W3.heap.size, 1, none⟩ (.int .i64 (byt b 1 % 16 * 65536 + byt b 2 * 256 + byt b 3)) = W10 at *
          obtain ⟨LA, hLA⟩ : ∃ l, l = b.drop 8 := ⟨_, rfl⟩
          obtain ⟨LB, hLB⟩ : ∃ l, l = b.drop 24 := ⟨_, rfl⟩
          have hlA : 16 ≤ LA.length := by rw [hLA, List.length_drop]; omega
          have hlB : 16 ≤ LB.length := by rw [hLB, List.length_drop]; omega
          have HXA := Lib.hid (fun k (h : k < LA.length) => show byt b (8 + k) = ((LA[k]).toNat : Int) by subst hLA; simp [byt] at h ⊢; simp [show 8 + k < b.length from by omega])
          have HXB := Lib.hid (fun k (h : k < LB.length) => show byt b (24 + k) = ((LB[k]).toNat : Int) by subst hLB; simp [byt] at h ⊢; simp [show 24 + k < b.length from by omega])
          have HLA := Lib.hid hLA; have HLB := Lib.hid hLB
          have hst10 : St w W3.heap.size ⟨(byt b 0 % 16 * 16 + byt b 1 / 16), (byt b 1 % 16 * 65536 + byt b 2 * 256 + byt b 3), byt b 6, byt b 7, fil LA 0, fil LB 0, []⟩ none 0 W10 := hst'
          obtain ⟨TT, hTT⟩ : ∃ n, n = (byt b 0 % 16 * 16 + byt b 1 / 16) := ⟨_, rfl⟩
          obtain ⟨FF, hFF⟩ : ∃ n, n = (byt b 1 % 16 * 65536 + byt b 2 * 256 + byt b 3) := ⟨_, rfl⟩
          have HTT := Lib.hid hTT; have HFF := Lib.hid hFF
          rw [← hTT, ← hFF] at hst10
          clear hst hst' hLA hLB hTT hFF F3 F4 F5 F9 F10 F11 H3 H4 H5 H9 H10 H11 H15 H16
          go_wp2_with fail
          go_loopw [8] (fun i W => ∃ k : Nat, k ≤ 16 ∧ i = .int .i64 (k : Int) ∧ St w W3.heap.size ⟨TT, FF, byt b 6, byt b 7, fil LA k, fil LB k, []⟩ none 0 W) (fun i _ => 16 - (intOf i).toNat)
          case atStart => exact ⟨0, Nat.zero_le _, rfl, hst10⟩
          case round =>
            obtain ⟨k, hk, rfl, hstk⟩ := hrel
            by_cases hlt : k < 16
            · go_wp2_with fail
              have hf1 := fil_len LA hk hlA
              have hf2 := fil_len LB hk hlB
              have HF1 := Lib.hid hf1; have HF2 := Lib.hid hf2
              clear hf1 hf2
              refine wp_region_held_drew (S := OwnR w 26 37) (by kernel_rfl) hstk.1.drew (fun hS => ?_)
              refine held_pure (i := 0) (oi := ⟨some 83, _, _, _, _, _⟩) rfl (by kernel_rfl) (by kernel_rfl) (by kernel_rfl) (fun _ _ _ h => h) (by rfl) (v := ?_) (fun w hSw => ?_) hS (fun hS => ?_)
              rotate_left
              · go_simp; try with_reducible rfl
              try go_frame
              refine held_pure (i := 1) (oi := ⟨some 84, _, _, _, _, _⟩) rfl (by kernel_rfl) (by kernel_rfl) (by kernel_rfl) (fun _ _ _ h => h) (by rfl) (v := ?_) (fun w hSw => ?_) hS (fun hS => ?_)
              rotate_left
              · go_simp; try with_reducible rfl
              try go_frame
              refine held_pure (i := 2) (oi := ⟨some 85, _, _, _, _, _⟩) rfl (by kernel_rfl) (by kernel_rfl) (by kernel_rfl) (fun _ _ _ h => h) (by rfl) (v := ?_) (fun w hSw => ?_) hS (fun hS => ?_)
              rotate_left
              · go_simp; try with_reducible rfl
              try go_frame
              refine held_pure (i := 3) (oi := ⟨some 86, _, _, _, _, _⟩) rfl (by kernel_rfl) (by kernel_rfl) (by kernel_rfl) (fun _ _ _ h => h) (by rfl) (v := ?_) (fun w hSw => ?_) hS (fun hS => ?_)
              rotate_left
              · go_simp; try with_reducible rfl
              try go_frame
              refine held_pure (i := 4) (oi := ⟨some 87, _, _, _, _, _⟩) rfl (by kernel_rfl) (by kernel_rfl) (by kernel_rfl) (fun _ _ _ h => h) (by rfl) (v := .int .i64 (8 + (k : Int))) (fun w hSw => by go_simp; exact IntWalk.i64_in _ (by omega)) hS (fun hS => ?_)
              try go_frame
              refine held_pure (i := 5) (oi := ⟨some 88, _, _, _, _, _⟩) rfl (by kernel_rfl) (by kernel_rfl) (by kernel_rfl) (fun _ _ _ h => h) (by rfl) (v := .pointer (some ⟨o, of + (8 + k), none⟩)) (fun w hSw => by go_simp; rw [if_pos ⟨by omega, by omega⟩, show (8 + (k : Int)).toNat = 8 + k from by omega]) hS (fun hS => ?_)
              try go_frame
              refine held_pure (i := 6) (oi := ⟨some 89, _, _, _, _, _⟩) rfl (by kernel_rfl) (by kernel_rfl) (by kernel_rfl) (fun _ _ _ h => h) (by rfl) (fun w hSw => run_load_byte rfl rfl ((hSw.b.cell hb0).trans (KC.out (8 + k) (by omega)))) hS (fun hS => ?_)
              try go_frame
              refine held_pure (i := 7) (oi := ⟨some 90, _, _, _, _, _⟩) rfl (by kernel_rfl) (by kernel_rfl) (by kernel_rfl) (fun _ _ _ h => h) (by rfl) (v := ?_) (fun w hSw => ?_) hS (fun hS => ?_)
              rotate_left
              · go_simp; try with_reducible rfl
              try go_frame
              refine held_pure (i := 8) (oi := ⟨some 91, _, _, _, _, _⟩) rfl (by kernel_rfl) (by kernel_rfl) (by kernel_rfl) (fun _ _ _ h => h) (by rfl) (v := ?_) (fun w hSw => ?_) hS (fun hS => ?_)
              rotate_left
              · go_simp; try with_reducible rfl
              try go_frame
              refine held_pure (i := 9) (oi := ⟨some 92, _, _, _, _, _⟩) rfl (by kernel_rfl) (by kernel_rfl) (by kernel_rfl) (fun _ _ _ h => h) (by rfl) (v := .int .i64 (24 + (k : Int))) (fun w hSw => by go_simp; exact IntWalk.i64_in _ (by omega)) hS (fun hS => ?_)
              try go_frame
              refine held_pure (i := 10) (oi := ⟨some 93, _, _, _, _, _⟩) rfl (by kernel_rfl) (by kernel_rfl) (by kernel_rfl) (fun _ _ _ h => h) (by rfl) (v := .pointer (some ⟨o, of + (24 + k), none⟩)) (fun w hSw => by go_simp; rw [if_pos ⟨by omega, by omega⟩, show (24 + (k : Int)).toNat = 24 + k from by omega]) hS (fun hS => ?_)
              try go_frame
              refine held_pure (i := 11) (oi := ⟨some 94, _, _, _, _, _⟩) rfl (by kernel_rfl) (by kernel_rfl) (by kernel_rfl) (fun _ _ _ h => h) (by rfl) (fun w hSw => run_load_byte rfl rfl ((hSw.b.cell hb0).trans (KC.out (24 + k) (by omega)))) hS (fun hS => ?_)
              try go_frame
              refine held_pure (i := 12) (oi := ⟨some 95, _, _, _, _, _⟩) rfl (by kernel_rfl) (by kernel_rfl) (by kernel_rfl) (fun _ _ _ h => h) (by rfl) (v := ?_) (fun w hSw => ?_) hS (fun hS => ?_)
              rotate_left
              · go_simp; try with_reducible rfl
              try go_frame
              refine held_pure (i := 13) (oi := ⟨some 96, _, _, _, _, _⟩) rfl (by kernel_rfl) (by kernel_rfl) (by kernel_rfl) (fun _ _ _ h => h) (by rfl) (v := .pointer (some ⟨W3.heap.size, 4 + k, none⟩)) (fun w hSw => by go_simp) hS (fun hS => ?_)
              try go_frame
              refine held_pure (i := 15) (oi := ⟨some 97, _, _, _, _, _⟩) rfl (by kernel_rfl) (by kernel_rfl) (by kernel_rfl) (fun _ _ _ h => h) (by rfl) (v := ?_) (fun w hSw => ?_) hS (fun hS => ?_)
              rotate_left
              · go_simp; try with_reducible rfl
              try go_frame
              refine wpAnyH_ready (rs := [14]) (by kernel_rfl) (by simp) (AllReadyH.cons (o := ⟨none, _, _, _, _, _⟩) rfl (fun K hK => ?_) AllReadyH.nil)
              rw [if_pos (by rfl)]
              refine store_u8_wp rfl rfl rfl (hstk.cell (v6l_src k _ (row_get _ (by rw [HF1.out]; exact hlt)))) (hstk.frozen _) ?_
              have hstA : St w W3.heap.size ⟨TT, FF, byt b 6, byt b 7, fil LA (k + 1), fil LB k, []⟩ none 0 (wr.drew.setCell ⟨W3.heap.size, 4 + k, none⟩ (.int .u8 (byt b (8 + k)))) := St.set (w' := wr.drew) ⟨hstk.1.drew, hstk.2⟩ hlt3 (by rw [HXA.out k (by omega), set_src _ _ _ _ _ hlt HF1.out, fil_set LA hlt hlA])
              refine hK.out _ _ hstA.1 (fun hS => ?_)
              clear hK K
              try go_frame
              refine held_pure (i := 16) (oi := ⟨some 98, _, _, _, _, _⟩) rfl (by kernel_rfl) (by kernel_rfl) (by kernel_rfl) (fun _ _ _ h => h) (by rfl) (v := .pointer (some ⟨W3.heap.size, 20 + k, none⟩)) (fun w hSw => by go_simp) hS (fun hS => ?_)
              try go_frame
              refine wpAnyH_ready (rs := [17]) (by kernel_rfl) (by simp) (AllReadyH.cons (o := ⟨none, _, _, _, _, _⟩) rfl (fun K hK => ?_) AllReadyH.nil)
              rw [if_pos (by rfl)]
              have HF3 := Lib.hid (fil_len LA (k := k + 1) (by omega) hlA)
              refine store_u8_wp rfl rfl rfl (hstA.cell (v6l_dst HF3.out k _ (row_get _ (by rw [HF2.out]; exact hlt)))) (hstA.frozen _) ?_
              have hstB := St.set (i := 20 + k) (v := .int .u8 (byt b (24 + k))) (q' := ⟨TT, FF, byt b 6, byt b 7, fil LA (k + 1), fil LB (k + 1), []⟩) (A' := none) (c' := 0) hstA hlt3 (by rw [HXB.out k (by omega), set_dst _ _ _ _ _ hlt HF3.out HF2.out, fil_set LB hlt hlB])
              refine hK.out _ _ hstB.1 (fun hS => ?_)
              clear hK K
              try go_frame
              refine wpAnyH_done (by kernel_rfl) ?_ _
              go_wp2_with fail
              go_roundw
              case rel => exact ⟨k + 1, by omega, by simp, hstB⟩
              case measure => simp [intOf]; omega
            · obtain rfl : k = 16 := by omega
              rw [fil_all, fil_all] at hstk
              obtain ⟨D, hD⟩ : ∃ D, D = (b.take (end6 b)).drop 40 := ⟨_, rfl⟩
              have he6 : end6 b ≤ b.length := by unfold end6; omega
              have HDl := Lib.hid (show D.length = end6 b - 40 by rw [hD]; exact end6_len b h40)
              have hA8 : Arg w B (cutA (some ⟨o, of, none⟩) c 40) (c - 40) D := by rw [hD]; exact hR.cut 40 (end6 b) he6
              have HB := Lib.hid (show bad6 b true = 0 by rw [bad6, if_neg h40, if_neg (fun h => h (by simpa using d6)), if_neg (by simp)])
              have HE1 := Lib.hid (show prs6 b true = raw6 b by rw [prs6, if_pos HB.out])
              have HQ := Lib.hid (show raw6 b = ⟨TT, FF, byt b 6, byt b 7, LA.take 16, LB.take 16, D⟩ by rw [HTT.out, HFF.out, HLA.out, HLB.out, hD]; rfl)
              have HE6 := Lib.hid (show end6 b = 40 + min (n2 b 4).toNat (b.length - 40) from rfl)
              have hlS : (LA.take 16).length = 16 := by rw [List.length_take]; omega
              have hlD : (LB.take 16).length = 16 := by rw [List.length_take]; omega
              have HLS := Lib.hid hlS; have HLD := Lib.hid hlD
              obtain ⟨SS, hSS⟩ : ∃ l, l = LA.take 16 := ⟨_, rfl⟩
              obtain ⟨DD, hDD⟩ : ∃ l, l = LB.take 16 := ⟨_, rfl⟩
              rw [← hSS, ← hDD] at hstk HQ
              rw [← hSS] at HLS
              rw [← hDD] at HLD
              have HX := Lib.hid (fun (h : Int) (h0 : 0 ≤ h) (hh : h = (end6 b : Int)) => show D.length = h.toNat - (40 : Int).toNat by have := HDl.out; rw [this]; omega)
              clear hlS hlD hSS hDD he6 hD
              rcases Int.lt_or_le ((b.length : Int) - 40) (n2 b 4) with hmn | hmn
              · have hm0 : (40 + ((b.length : Int) - 40)) = (end6 b : Int) := by have := HE6.out; omega
                have HM := Lib.hid hm0
                clear hm0
                go_upto_region 16 with (first
                  | ((with_reducible show wpList _ _ _ (Oper.mk _ (Op.slice _ _ _ _ _) _ _ _ _ :: _) _ _); refine wpList_val rfl (run_cut_lh rfl rfl rfl rfl (l := 40) (by omega) (by omega) (by omega) (HX.out _ (by omega) (by have := HM.out; omega))) ?_)
                  | (at_builtin; refine append_rd rfl _ _ rfl wr.heap.size (.slice none 0 0) 0 [] rfl (World.ownsRow_nil _ _ _ _) B _ _ D rfl (hA8.below (hstk.1.b.mono hB)).none_ (hA8.below (hstk.1.b.mono hB)).rd (by have := HDl.out; have := HM.out; omega) (Nat.le_refl _) ?_; intro v5 w5 own5 grow5; obtain ⟨P, p, rfl, owm5⟩ := own_made (bs := D) own5 (by simp) (by simp); have x5 : Below wr.heap.size wr w5 := (Below.refl wr.heap.size wr).grown grow5 (Nat.le_refl _) (fun k hk => by cases hk); have st5 := hstk.step x5; have kc36 := st5.cell (v6l_dat HLS.out HLD.out); have kf36 := st5.frozen 36))
                have st6 : St w W3.heap.size ⟨TT, FF, byt b 6, byt b 7, SS, DD, D⟩ P p (w5.setCell ⟨W3.heap.size, 36, none⟩ (.slice P D.length p)) := st5.set hlt3 (set_dat ⟨TT, FF, byt b 6, byt b 7, SS, DD, []⟩ none P 0 p D HLS.out HLD.out)
                have own6 : (w5.setCell ⟨W3.heap.size, 36, none⟩ (.slice P D.length p)).ownsRow wr.heap.size 5 1 (.slice P D.length p) D.length (row D) := own_setCell owm5 (p := ⟨W3.heap.size, 36, none⟩) (heap_lt hstk.2)
                have hwr := hstk.1.lt
                clear kc36 kf36 st5
                generalize w5.setCell ⟨W3.heap.size, 36, none⟩ (.slice P D.length p) = W6 at *
                have hAt8 := At6.of_heap st6.2 rfl
                obtain ⟨old, hold, hgo⟩ := st6.1.2
                go_wp2_with (first
                  | ((with_reducible show wpList _ _ _ (Oper.mk _ (Op.load _ _) _ _ _ _ :: _) _ _); refine wpList_val rfl (run_load_v6 rfl rfl hAt8 (v6l_len HLS.out HLD.out)) ?_)
                  | ((with_reducible show wpList _ _ _ (Oper.mk _ (Op.store _ _ _) _ _ _ _ :: _) _ _); refine v6_store (g := w.heap.size) (cs := v6a ⟨TT, FF, byt b 6, byt b 7, SS, DD, D⟩ P p) rfl rfl hgo hold (by rw [v6a, List.size_toArray]; exact v6l_len HLS.out HLD.out) (v6a_one _ _ _) ?_))
                exact bodyPost_ret (res2 rfl rfl (run_loadVar_row _ _ _ 26 (v6a ⟨TT, FF, byt b 6, byt b 7, SS, DD, D⟩ P p) _ _ (setRow_heap _ _ _ _ _ _ hgo) Try.underlying26 rfl (by rw [v6a, List.size_toArray, v6l_len HLS.out HLD.out]; kernel_rfl))) rfl ⟨P, p, by rw [HE1.out, HB.out, HQ.out]; rfl, by rw [HE1.out, HQ.out]; exact Made.of_own (own_base (own_setRow own6 hwr) (Nat.le_of_lt hwr)) (below_row st6.1.b (Nat.le_refl _))⟩
              · have hm0 : (40 + n2 b 4) = (end6 b : Int) := by have := HE6.out; omega
                have HM := Lib.hid hm0
                clear hm0
                go_upto_region 16 with (first
                  | ((with_reducible show wpList _ _ _ (Oper.mk _ (Op.slice _ _ _ _ _) _ _ _ _ :: _) _ _); refine wpList_val rfl (run_cut_lh rfl rfl rfl rfl (l := 40) (by omega) (by omega) (by omega) (HX.out _ (by omega) (by have := HM.out; omega))) ?_)
                  | (at_builtin; refine append_rd rfl _ _ rfl wr.heap.size (.slice none 0 0) 0 [] rfl (World.ownsRow_nil _ _ _ _) B _ _ D rfl (hA8.below (hstk.1.b.mono hB)).none_ (hA8.below (hstk.1.b.mono hB)).rd (by have := HDl.out; have := HM.out; omega) (Nat.le_refl _) ?_; intro v5 w5 own5 grow5; obtain ⟨P, p, rfl, owm5⟩ := own_made (bs := D) own5 (by simp) (by simp); have x5 : Below wr.heap.size wr w5 := (Below.refl wr.heap.size wr).grown grow5 (Nat.le_refl _) (fun k hk => by cases hk); have st5 := hstk.step x5; have kc36 := st5.cell (v6l_dat HLS.out HLD.out); have kf36 := st5.frozen 36))
                have st6 : St w W3.heap.size ⟨TT, FF, byt b 6, byt b 7, SS, DD, D⟩ P p (w5.setCell ⟨W3.heap.size, 36, none⟩ (.slice P D.length p)) := st5.set hlt3 (set_dat ⟨TT, FF, byt b 6, byt b 7, SS, DD, []⟩ none P 0 p D HLS.out HLD.out)
                have own6 : (w5.setCell ⟨W3.heap.size, 36, none⟩ (.slice P D.length p)).ownsRow wr.heap.size 5 1 (.slice P D.length p) D.length (row D) := own_setCell owm5 (p := ⟨W3.heap.size, 36, none⟩) (heap_lt hstk.2)
                have hwr := hstk.1.lt
                clear kc36 kf36 st5
                generalize w5.setCell ⟨W3.heap.size, 36, none⟩ (.slice P D.length p) = W6 at *
                have hAt8 := At6.of_heap st6.2 rfl
                obtain ⟨old, hold, hgo⟩ := st6.1.2
                go_wp2_with (first
                  | ((with_reducible show wpList _ _ _ (Oper.mk _ (Op.load _ _) _ _ _ _ :: _) _ _); refine wpList_val rfl (run_load_v6 rfl rfl hAt8 (v6l_len HLS.out HLD.out)) ?_)
                  | ((with_reducible show wpList _ _ _ (Oper.mk _ (Op.store _ _ _) _ _ _ _ :: _) _ _); refine v6_store (g := w.heap.size) (cs := v6a ⟨TT, FF, byt b 6, byt b 7, SS, DD, D⟩ P p) rfl rfl hgo hold (by rw [v6a, List.size_toArray]; exact v6l_len HLS.out HLD.out) (v6a_one _ _ _) ?_))
                exact bodyPost_ret (res2 rfl rfl (run_loadVar_row _ _ _ 26 (v6a ⟨TT, FF, byt b 6, byt b 7, SS, DD, D⟩ P p) _ _ (setRow_heap _ _ _ _ _ _ hgo) Try.underlying26 rfl (by rw [v6a, List.size_toArray, v6l_len HLS.out HLD.out]; kernel_rfl))) rfl ⟨P, p, by rw [HE1.out, HB.out, HQ.out]; rfl, by rw [HE1.out, HQ.out]; exact Made.of_own (own_base (own_setRow own6 hwr) (Nat.le_of_lt hwr)) (below_row st6.1.b (Nat.le_refl _))⟩
    · have d6 : (byt b 0 / 16 != 6) = true := by simpa using h6
      have HB := Lib.hid (show bad6 b u = 4 by rw [bad6, if_neg h40, if_pos h6])
      have HE2 := HB
      have HE1 := Lib.hid (show prs6 b u = p6z by rw [prs6, if_neg (by rw [HB.out]; decide)])
      clear h6
      go_wp2_with (first | ((with_reducible show wpList _ _ _ (Oper.mk _ (Op.store _ _ _) _ _ _ _ :: _) _ _); refine v6_store (g := w.heap.size) (cs := v6a p6z none 0) rfl rfl hg3 rfl rfl (v6a_one _ _ _) ?_))
      exact bodyPost_ret (res2 rfl rfl (run_loadVar_row _ _ _ 26 (v6a p6z none 0) _ _ (setRow_heap _ _ _ _ _ _ hg3) Try.underlying26 rfl (by kernel_rfl))) rfl ⟨none, 0, by rw [HE1.out, HE2.out]; rfl, by rw [HE1.out]; exact Made.nil _ _ (below_row hS.b (Nat.le_refl _))⟩
      
end
end Go.Proofs.Ytkfbamippjhjcaa

/-
  Contracts of the document's Parse and Quoted of layer 6. Conditions are each theorem's own.
-/
namespace Go.Proofs.Ytkfbamippjhjcaa
open Go.RowKit

section
variable (b : List UInt8) (A : Option Addr) (c : Nat) (w : World)
set_option maxRecDepth 100000 in
set_option maxHeartbeats 1000000 in
theorem r6quoted (B : Nat) (hR : Arg w B A c b) (hB : B ≤ w.heap.size) (hl : b.length ≤ 1000000) :
    Calls Try.prog 38 #[.slice A b.length c] w fun e w' => ∃ P p, e = .returned (.tuple #[v6v (prs6 b true) P p, .int .i64 (bad6 b true)]) ∧ Made w w' (.slice P (prs6 b true).dat.length p) (prs6 b true).dat := by
  have hOR0 := OwnR.new w (v6a p6z none 0) 26
  obtain ⟨hqs, hqd⟩ := prs6_len b true
  have HQS := Lib.hid hqs; have HQD := Lib.hid hqd
  clear hqs hqd
  go_enter Try.func38, Try.ntmps38
  go_upto_region 1 with fail
  have hOR : OwnR w 26 37 (w.alloc (.cells #[.int .i64 0, .int .i64 0, .int .i64 0, .int .i64 0, .int .u8 0, .int .u8 0, .int .u8 0, .int .u8 0, .int .u8 0, .int .u8 0, .int .u8 0, .int .u8 0, .int .u8 0, .int .u8 0, .int .u8 0, .int .u8 0, .int .u8 0, .int .u8 0, .int .u8 0, .int .u8 0, .int .u8 0, .int .u8 0, .int .u8 0, .int .u8 0, .int .u8 0, .int .u8 0, .int .u8 0, .int .u8 0, .int .u8 0, .int .u8 0, .int .u8 0, .int .u8 0, .int .u8 0, .int .u8 0, .int .u8 0, .int .u8 0, .slice none 0 0] 26)) := hOR0
  clear hOR0
  generalize w.alloc (.cells #[.int .i64 0, .int .i64 0, .int .i64 0, .int .i64 0, .int .u8 0, .int .u8 0, .int .u8 0, .int .u8 0, .int .u8 0, .int .u8 0, .int .u8 0, .int .u8 0, .int .u8 0, .int .u8 0, .int .u8 0, .int .u8 0, .int .u8 0, .int .u8 0, .int .u8 0, .int .u8 0, .int .u8 0, .int .u8 0, .int .u8 0, .int .u8 0, .int .u8 0, .int .u8 0, .int .u8 0, .int .u8 0, .int .u8 0, .int .u8 0, .int .u8 0, .int .u8 0, .int .u8 0, .int .u8 0, .int .u8 0, .int .u8 0, .slice none 0 0] 26) = W at *
  have hlt := hOR.lt
  obtain ⟨q, hq⟩ : ∃ q, q = prs6 b true := ⟨_, rfl⟩
  rw [← hq] at HQS HQD
  have HQ := Lib.hid hq
  clear hq
  go_wp2_with (first
    | (go_at_call 58; refine (r6read b A c _ true B (hR.below (hOR.b.mono hB)) (Nat.le_trans hB hOR.b.size) hl).mono ?_; rintro e w1 ⟨P, p, rfl, m1⟩; rw [← HQ.out] at m1 ⊢; have hgo := (hOR.step m1.below).2; obtain ⟨old, hold, hgo⟩ := hgo)
    | ((with_reducible show wpList _ _ _ (Oper.mk _ (Op.store _ _ _) _ _ _ _ :: _) _ _); refine v6_store (g := w.heap.size) (cs := v6a q P p) rfl rfl hgo hold (by rw [v6a, List.size_toArray]; exact v6l_len HQS.out HQD.out) (v6a_one _ _ _) ?_))
  exact bodyPost_ret (res2 rfl rfl (run_loadVar_row _ _ _ 26 (v6a q P p) _ _ (setRow_heap _ _ _ _ _ _ hgo) Try.underlying26 rfl (by rw [v6a, List.size_toArray, v6l_len HQS.out HQD.out]; kernel_rfl))) rfl ⟨P, p, by rw [← HQ.out]; rfl, by rw [← HQ.out]; exact m1.row hOR.b hlt⟩
end
end Go.Proofs.Ytkfbamippjhjcaa
