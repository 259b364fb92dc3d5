/-
  Contracts and lemmas on which the proofs of this seat stand (several texts in one). Conditions are each theorem's own.
-/
import Derived.Test.YtkfbamippjhjcaaRa3
import Derived.Deep.WholeRow
import Derived.Test.YtkfbamippjhjcaaRa1
import Derived.Deep.MidRow
import Derived.Test.YtkfbamippjhjcaaRa2
import Derived.ChangeKeysEq
import Derived.Deep.Cut
import Derived.Deep.CutRange

/-
  Contract of the document's plain answers of layer 5: fields. Conditions are each theorem's own.
-/
namespace Go.Proofs.Ytkfbamippjhjcaa
open Go.RowKit

theorem get_two {b : List UInt8} {i : Nat} (h : i + 2 ≤ b.length) : getV b (i : Int) 2 = n2 b i := by
  have e := getV_ok (bs := b) (a := i) (s := 2) (by omega) (by omega) h
  rw [show (2 : Int) = ((2 : Nat) : Int) from rfl, e, num_two _ (by simp; omega), byt_cut _ _ _ (by omega), byt_cut _ _ _ (by omega)]; rfl
theorem byt_drop (b : List UInt8) (a k : Nat) : byt (b.drop a) k = byt b (a + k) := by simp [byt]
theorem get_four {b : List UInt8} {i : Nat} (h : i + 4 ≤ b.length) : getV b (i : Int) 4 = n4 b i := by
  have e := getV_ok (bs := b) (a := i) (s := 4) (by omega) (by omega) h
  have hl : (b.drop i).length = b.length - i := by simp
  rw [show (4 : Int) = ((4 : Nat) : Int) from rfl, e, num_take _ (k := 3) (by omega), num_take _ (k := 2) (by omega), num_take _ (k := 1) (by omega), num_take _ (k := 0) (by omega), List.take_zero]
  simp only [byt_drop, n4, num, List.foldl_nil, Nat.add_zero]; omega
theorem n2_bd (b : List UInt8) (i : Nat) : 0 ≤ n2 b i ∧ n2 b i ≤ 65535 := by
  have h1 := byt_lo b i; have h2 := byt_hi b i; have h3 := byt_lo b (i + 1); have h4 := byt_hi b (i + 1)
  unfold n2; omega
theorem run_load_byte {o : Oper} {a : Act} {w : World} {x : Operand} {p : Addr} {n : Int} (ho : o.op = .load 5 x) (hx : a.eval x = .pointer (some p)) (hc : w.cell? p = some (.int .u8 n)) :
    (execOp a.eval o).run Try.prog w = .ok (.value (.int .u8 n)) w := by
  unfold execOp
  simp only [ho, hx, Instr.loadAt, Instr.sureAddr, Sem.run_bind, Sem.run_pure, Result.andThen_ok]
  go_simp
theorem heap_new {X : World} {g : Nat} {o : Obj} (h : g = X.heap.size) : (X.alloc o).heap[g]? = some o := by subst h; exact World.alloc_heap_new X o
theorem set_newN (w : World) (cur cur' : Array Value) (t j m : Nat) (x : Value) (hc : cur.setIfInBounds j x = cur') :
    ((w.alloc (.cells cur t (0, 0))).drewN m).setCell ⟨w.heap.size, j, none⟩ x = (w.alloc (.cells cur' t (0, 0))).drewN m := by
  subst hc
  show ((w.alloc (.cells cur t (0, 0))).setCell ⟨w.heap.size, j, none⟩ x).drewN m = _
  rw [World.setCell_alloc_at _ _ _ _ _ rfl]
theorem heap_newN (w : World) (o : Obj) (m : Nat) : ((w.alloc o).drewN m).heap[w.heap.size]? = some o := World.alloc_heap_new w o
theorem own_setCell {w : World} {base e sz n : Nat} {v : Value} {xs : List Value} (h : w.ownsRow base e sz v n xs) {p : Addr} {u : Value} (hp : p.block < base) : (w.setCell p u).ownsRow base e sz v n xs := by
  obtain ⟨h1, h2⟩ := h
  refine ⟨h1, ?_⟩
  rcases h2 with h2 | ⟨g, cap, cur, hv, hg, hh, r⟩
  · exact .inl h2
  · exact .inr ⟨g, cap, cur, hv, hg, (heap_setCell_other w p g u (by omega)).trans hh, r⟩
theorem own_setRow {w : World} {base e sz n : Nat} {v : Value} {xs : List Value} (h : w.ownsRow base e sz v n xs) {g : Nat} {cs : Array Value} (hp : g < base) : (w.setRow g cs).ownsRow base e sz v n xs := by
  obtain ⟨h1, h2⟩ := h
  refine ⟨h1, ?_⟩
  rcases h2 with h2 | ⟨k, cap, cur, hv, hg, hh, r⟩
  · exact .inl h2
  · exact .inr ⟨k, cap, cur, hv, hg, (setRow_other w g k cs (by omega)).trans hh, r⟩
theorem below_row {B : Nat} {a w : World} (h : Below B a w) {g : Nat} {cs : Array Value} (hg : B ≤ g) : Below B a (w.setRow g cs) :=
  ⟨h.os, h.tape, h.output, by rw [size_setRow]; exact h.size, fun k hk => (setRow_other w g k cs (by omega)).trans (h.block k hk)⟩
theorem v4_result {fn : Func} {p : Tmp} {tmps : Array Value} {w : World} {g : Nat} {t : TypeId} {cs : Array Value} {fr : Nat × Nat} (h : fn.results = #[.cell p 28])
    (hp : tmps.getD p undef = .pointer (some ⟨g, 0, none⟩)) (hg : w.heap[g]? = some (.cells cs t fr)) (hl : cs.size = 11) : (results fn tmps).run Try.prog w = .ok (.agg cs) w :=
  results_cell_row h tmps w g t cs fr _ hp hg Try.underlying28 rfl (by rw [hl]; kernel_rfl)
theorem setRow_drew (X : World) (g : Nat) (c' : Array Value) : X.drew.setRow g c' = (X.setRow g c').drew := by unfold World.setRow; rfl
theorem setRow_new {X : World} {g : Nat} {c c' : Array Value} {t : TypeId} (h : g = X.heap.size) : (X.alloc (.cells c t)).setRow g c' = X.alloc (.cells c' t) := by subst h; exact World.setRow_alloc_new X c c' t
section
variable (b dat : List UInt8) (A : Option Addr) (c : Nat) (A' : Option Addr) (c' : Nat) (w : World)
set_option maxRecDepth 100000 in
set_option maxHeartbeats 4000000 in
theorem r5fields (B : Nat) (hR0 : Arg w B A c b) (hD : Arg w B A' c' dat) (hB : B ≤ w.heap.size) (hl : 20 ≤ b.length) (hl2 : b.length ≤ 1000000) (hn : 20 ≤ hlen b ∧ hlen b ≤ (b.length : Int)) (hd : dat.length ≤ 1000000) :
    Calls Try.prog 84 #[.slice A b.length c, .slice A' dat.length c'] w fun e w' => ∃ P p P' p', e = .returned (v4v (fl4 b dat) P p P' p') ∧ Arg w' w'.heap.size P p (fl4 b dat).opt ∧ Arg w' w'.heap.size P' p' dat ∧ Below w.heap.size w w' := by
  obtain ⟨b0, off, rfl, hbB, hcell⟩ := hR0.rd (by omega)
  have hbw : b0 < w.heap.size := by omega
  go_enter Try.func84, Try.ntmps84
  go_upto_region 1 with fail
  have hBl : Below w.heap.size w (w.alloc (.cells #[.int .i64 0, .int .i64 0, .int .i64 0, .int .i64 0, .int .i64 0, .int .i64 0, .int .i64 0, .bool false, .bool false, .slice none 0 0, .slice none 0 0] 28)) := (Below.refl w.heap.size w).alloc (Nat.le_refl _) _
  have hgr := World.alloc_heap_new w (.cells #[.int .i64 0, .int .i64 0, .int .i64 0, .int .i64 0, .int .i64 0, .int .i64 0, .int .i64 0, .bool false, .bool false, .slice none 0 0, .slice none 0 0] 28)
  have hz : (w.alloc (.cells #[.int .i64 0, .int .i64 0, .int .i64 0, .int .i64 0, .int .i64 0, .int .i64 0, .int .i64 0, .bool false, .bool false, .slice none 0 0, .slice none 0 0] 28)).heap.size = w.heap.size + 1 := by simp
  have hR := (hR0.below (hBl.mono hB)).rd
  generalize w.alloc (.cells #[.int .i64 0, .int .i64 0, .int .i64 0, .int .i64 0, .int .i64 0, .int .i64 0, .int .i64 0, .bool false, .bool false, .slice none 0 0, .slice none 0 0] 28) = W at *
  have kc : ∀ j, j < b.length → W.cell? ⟨b0, off + j, none⟩ = some (.int .u8 (byt b j)) := fun j hj => by rw [hBl.cell (show b0 < w.heap.size by omega)]; exact hcell j hj
  have k0 : W.cell? ⟨b0, off, none⟩ = some (.int .u8 (byt b 0)) := kc 0 (by omega)
  have q0 := byt_lo b 0; have q0' := byt_hi b 0
  have tm : Int.tmod (byt b 0) 16 = byt b 0 % 16 := Int.tmod_eq_emod_of_nonneg q0
  have HH := Lib.hid (show hlen b = byt b 0 % 16 * 4 from rfl)
  have HN := Lib.hid hn
  clear hn
  go_upto_region 2 with fail
  rw [← HH.out]
  have hn := HN.out
  clear k0 q0 q0' tm
  have G6 := Lib.hid (get_two (b := b) (i := 6) (by omega))
  obtain ⟨F, hF⟩ : ∃ n, n = n2 b 6 := ⟨_, rfl⟩
  have HF := Lib.hid hF
  have hFb := n2_bd b 6
  rw [← hF] at hFb
  clear hF
  go_upto_region 3 with (go_at_call 82; refine (r5num _ b _ _ 6 2 _ hR (by omega)).mono ?_; rintro e w' ⟨rfl, rfl⟩; rw [show getV b 6 2 = F from by rw [HF.out]; exact G6.out])
  have G4 := Lib.hid (get_two (b := b) (i := 4) (by omega))
  have G12 := Lib.hid (get_four (b := b) (i := 12) (by omega))
  have G16 := Lib.hid (get_four (b := b) (i := 16) (by omega))
  clear G6
  have E1 := Lib.hid (IntWalk.i64_in (byt b 1) (by have := byt_lo b 1; have := byt_hi b 1; omega))
  have E8 := Lib.hid (IntWalk.i64_in (byt b 8) (by have := byt_lo b 8; have := byt_hi b 8; omega))
  have E9 := Lib.hid (IntWalk.i64_in (byt b 9) (by have := byt_lo b 9; have := byt_hi b 9; omega))
  have EF := Lib.hid (show IntKind.i64.wrap (Int.tmod F 8192 * 8) = F % 8192 * 8 by rw [Int.tmod_eq_emod_of_nonneg hFb.1]; exact IntWalk.i64_in _ (by omega))
  go_cut [7] from 8 (fun s w' => s = .pointer (some ⟨W.heap.size, 0, none⟩) ∧ ∃ m, w' = (W.alloc (.cells #[.int .i64 (byt b 1), .int .i64 (n2 b 4), .int .i64 (F % 8192 * 8), .int .i64 (byt b 8), .int .i64 (byt b 9), .int .i64 (n4 b 12), .int .i64 (n4 b 16), .bool false, .bool false, .slice none 0 0, .slice none 0 0] 28)).drewN m)
  case first =>
    refine wp_region_held_drew (S := fun w' => Below W.heap.size W w') (by kernel_rfl) (Below.refl _ W).drew (fun hS => ?_)
    refine held_pure (i := 0) (oi := ⟨some 16, _, _, _, _, _⟩) rfl (by kernel_rfl) (by kernel_rfl) (by kernel_rfl) (fun _ _ _ h => h) (by rfl) (v := ?_) (fun w hSw => ?_) hS (fun hS => ?_)
    rotate_left
    · go_simp; try with_reducible rfl
    try go_frame
    refine held_pure (i := 1) (oi := ⟨some 17, _, _, _, _, _⟩) rfl (by kernel_rfl) (by kernel_rfl) (by kernel_rfl) (fun _ _ _ h => h) (by rfl) (v := Value.pointer (some ⟨b0, off + 1, none⟩)) (fun w hSw => by go_simp; exact fun hx => absurd hx (by omega)) hS (fun hS => ?_)
    try go_frame
    refine held_pure (i := 2) (oi := ⟨some 18, _, _, _, _, _⟩) rfl (by kernel_rfl) (by kernel_rfl) (by kernel_rfl) (fun _ _ _ h => h) (by rfl) (fun w hSw => run_load_byte rfl rfl ((hSw.cell (show b0 < W.heap.size by omega)).trans (kc 1 (by omega)))) hS (fun hS => ?_)
    try go_frame
    refine held_pure (i := 3) (oi := ⟨some 19, _, _, _, _, _⟩) rfl (by kernel_rfl) (by kernel_rfl) (by kernel_rfl) (fun _ _ _ h => h) (by rfl) (v := ?_) (fun w hSw => ?_) hS (fun hS => ?_)
    rotate_left
    · go_simp; try with_reducible rfl
    try go_frame
    refine held_pure (i := 4) (oi := ⟨some 20, _, _, _, _, _⟩) rfl (by kernel_rfl) (by kernel_rfl) (by kernel_rfl) (fun _ _ _ h => h) (by rfl) (v := ?_) (fun w hSw => ?_) hS (fun hS => ?_)
    rotate_left
    · go_simp; try with_reducible rfl
    try go_frame
    refine held_pure (i := 6) (oi := ⟨some 22, _, _, _, _, _⟩) rfl (by kernel_rfl) (by kernel_rfl) (by kernel_rfl) (fun _ _ _ h => h) (by rfl) (v := ?_) (fun w hSw => ?_) hS (fun hS => ?_)
    rotate_left
    · go_simp; try with_reducible rfl
    try go_frame
    refine held_pure (i := 7) (oi := ⟨some 23, _, _, _, _, _⟩) rfl (by kernel_rfl) (by kernel_rfl) (by kernel_rfl) (fun _ _ _ h => h) (by rfl) (v := ?_) (fun w hSw => ?_) hS (fun hS => ?_)
    rotate_left
    · go_simp; try with_reducible rfl
    try go_frame
    refine held_pure (i := 8) (oi := ⟨some 24, _, _, _, _, _⟩) rfl (by kernel_rfl) (by kernel_rfl) (by kernel_rfl) (fun _ _ _ h => h) (by rfl) (v := ?_) (fun w hSw => ?_) hS (fun hS => ?_)
    rotate_left
    · go_simp; try with_reducible rfl
    try go_frame
    refine held_pure (i := 9) (oi := ⟨some 25, _, _, _, _, _⟩) rfl (by kernel_rfl) (by kernel_rfl) (by kernel_rfl) (fun _ _ _ h => h) (by rfl) (v := ?_) (fun w hSw => ?_) hS (fun hS => ?_)
    rotate_left
    · go_simp; try with_reducible rfl
    try go_frame
    refine held_pure (i := 10) (oi := ⟨some 26, _, _, _, _, _⟩) rfl (by kernel_rfl) (by kernel_rfl) (by kernel_rfl) (fun _ _ _ h => h) (by rfl) (v := Value.pointer (some ⟨b0, off + 8, none⟩)) (fun w hSw => by go_simp; exact fun hx => absurd hx (by omega)) hS (fun hS => ?_)
    try go_frame
    refine held_pure (i := 11) (oi := ⟨some 27, _, _, _, _, _⟩) rfl (by kernel_rfl) (by kernel_rfl) (by kernel_rfl) (fun _ _ _ h => h) (by rfl) (fun w hSw => run_load_byte rfl rfl ((hSw.cell (show b0 < W.heap.size by omega)).trans (kc 8 (by omega)))) hS (fun hS => ?_)
    try go_frame
    refine held_pure (i := 12) (oi := ⟨some 28, _, _, _, _, _⟩) rfl (by kernel_rfl) (by kernel_rfl) (by kernel_rfl) (fun _ _ _ h => h) (by rfl) (v := ?_) (fun w hSw => ?_) hS (fun hS => ?_)
    rotate_left
    · go_simp; try with_reducible rfl
    try go_frame
    refine held_pure (i := 13) (oi := ⟨some 29, _, _, _, _, _⟩) rfl (by kernel_rfl) (by kernel_rfl) (by kernel_rfl) (fun _ _ _ h => h) (by rfl) (v := ?_) (fun w hSw => ?_) hS (fun hS => ?_)
    rotate_left
    · go_simp; try with_reducible rfl
    try go_frame
    refine held_pure (i := 14) (oi := ⟨some 30, _, _, _, _, _⟩) rfl (by kernel_rfl) (by kernel_rfl) (by kernel_rfl) (fun _ _ _ h => h) (by rfl) (v := Value.pointer (some ⟨b0, off + 9, none⟩)) (fun w hSw => by go_simp; exact fun hx => absurd hx (by omega)) hS (fun hS => ?_)
    try go_frame
    refine held_pure (i := 15) (oi := ⟨some 31, _, _, _, _, _⟩) rfl (by kernel_rfl) (by kernel_rfl) (by kernel_rfl) (fun _ _ _ h => h) (by rfl) (fun w hSw => run_load_byte rfl rfl ((hSw.cell (show b0 < W.heap.size by omega)).trans (kc 9 (by omega)))) hS (fun hS => ?_)
    try go_frame
    refine held_pure (i := 16) (oi := ⟨some 32, _, _, _, _, _⟩) rfl (by kernel_rfl) (by kernel_rfl) (by kernel_rfl) (fun _ _ _ h => h) (by rfl) (v := ?_) (fun w hSw => ?_) hS (fun hS => ?_)
    rotate_left
    · go_simp; try with_reducible rfl
    try go_frame
    refine held_pure (i := 17) (oi := ⟨some 33, _, _, _, _, _⟩) rfl (by kernel_rfl) (by kernel_rfl) (by kernel_rfl) (fun _ _ _ h => h) (by rfl) (v := ?_) (fun w hSw => ?_) hS (fun hS => ?_)
    rotate_left
    · go_simp; try with_reducible rfl
    try go_frame
    refine held_pure (i := 19) (oi := ⟨some 35, _, _, _, _, _⟩) rfl (by kernel_rfl) (by kernel_rfl) (by kernel_rfl) (fun _ _ _ h => h) (by rfl) (v := ?_) (fun w hSw => ?_) hS (fun hS => ?_)
    rotate_left
    · go_simp; try with_reducible rfl
    try go_frame
    refine wpAnyH_ready (rs := [5, 22]) (by kernel_rfl) (by simp) (AllReadyH.cons (o := ⟨some 21, _, _, _, _, _⟩) rfl (fun K hK => ?_) (AllReadyH.cons (o := ⟨some 7, _, _, _, _, _⟩) rfl (fun K hK => ?_) AllReadyH.nil))
    · rw [if_pos (by rfl)]
      go_simp
      refine (r5num _ b _ _ 4 2 _ (hR.below (hS.mono (by omega))) (by omega)).mono ?_
      rintro e w5 ⟨rfl, rfl⟩
      rw [show getV b 4 2 = n2 b 4 from G4.out]
      show K _ _
      refine hK.out _ _ hS (fun hS => ?_)
      clear hK K
      try go_frame
      refine wpAnyH_ready (rs := [18, 22]) (by kernel_rfl) (by simp) (AllReadyH.cons (o := ⟨some 34, _, _, _, _, _⟩) rfl (fun K hK => ?_) (AllReadyH.cons (o := ⟨some 7, _, _, _, _, _⟩) rfl (fun K hK => ?_) AllReadyH.nil))
      · rw [if_pos (by rfl)]
        go_simp
        refine (r5num _ b _ _ 12 4 _ (hR.below (hS.mono (by omega))) (by omega)).mono ?_
        rintro e w18 ⟨rfl, rfl⟩
        rw [show getV b 12 4 = n4 b 12 from G12.out]
        show K _ _
        refine hK.out _ _ hS (fun hS => ?_)
        clear hK K
        try go_frame
        refine wpAnyH_ready (rs := [20, 22]) (by kernel_rfl) (by simp) (AllReadyH.cons (o := ⟨some 36, _, _, _, _, _⟩) rfl (fun K hK => ?_) (AllReadyH.cons (o := ⟨some 7, _, _, _, _, _⟩) rfl (fun K hK => ?_) AllReadyH.nil))
        · rw [if_pos (by rfl)]
          go_simp
          refine (r5num _ b _ _ 16 4 _ (hR.below (hS.mono (by omega))) (by omega)).mono ?_
          rintro e w20 ⟨rfl, rfl⟩
          rw [show getV b 16 4 = n4 b 16 from G16.out]
          show K _ _
          refine hK.out _ _ hS (fun hS => ?_)
          clear hK K
          try go_frame
          refine held_pure (i := 21) (oi := ⟨some 37, _, _, _, _, _⟩) rfl (by kernel_rfl) (by kernel_rfl) (by kernel_rfl) (fun _ _ _ h => h) (by rfl) (v := ?_) (fun w hSw => ?_) hS (fun hS => ?_)
          rotate_left
          · go_simp; try with_reducible rfl
          try go_frame
          refine wpAnyH_ready (rs := [22]) (by kernel_rfl) (by simp) (AllReadyH.cons (o := ⟨some 7, _, _, _, _, _⟩) rfl (fun K hK => ?_) AllReadyH.nil)
          rw [if_pos (by rfl)]
          go_simp
          refine hK.out _ _ (hS.alloc hS.size _) (fun hS => ?_)
          clear hK K
          try go_frame
          refine wpAnyH_ready (rs := [23]) (by kernel_rfl) (by simp) (AllReadyH.cons (o := ⟨none, _, _, _, _, _⟩) rfl (fun K hK => ?_) AllReadyH.nil)
          rw [if_pos (by rfl)]
          refine wp_store_row 28 _ _ rfl (w.heap.size + 1) _ rfl rfl 28 _ (heap_new (by simp [hz])) (by kernel_rfl) rfl (by simp [Value.oneCell']) ?_
          repeat rw [setRow_drew]
          rw [setRow_new (by simp [hz])]
          refine hK.out _ _ (by first | exact (Below.refl W.heap.size W).drew.alloc (Nat.le_refl _) _ | exact ((Below.refl W.heap.size W).drew.alloc (Nat.le_refl _) _).drew | exact ((Below.refl W.heap.size W).alloc (Nat.le_refl _) _).drew | exact (((Below.refl W.heap.size W).alloc (Nat.le_refl _) _).drew).drew) (fun hS => ?_)
          clear hK K
          try go_frame
          refine wpAnyH_done (by kernel_rfl) ?_ _
          go_wp2_with fail
          go_meet
          refine ⟨by rw [hz], ?_⟩
          rw [E1.out, E8.out, E9.out, EF.out]
          first | exact ⟨1, rfl⟩ | exact ⟨2, rfl⟩ | exact ⟨3, rfl⟩ | exact ⟨4, rfl⟩
        · rw [if_pos (by rfl)]
          go_simp
          refine hK.out _ _ (hS.alloc hS.size _) (fun hS => ?_)
          clear hK K
          try go_frame
          refine wpAnyH_ready (rs := [20]) (by kernel_rfl) (by simp) (AllReadyH.cons (o := ⟨some 36, _, _, _, _, _⟩) rfl (fun K hK => ?_) AllReadyH.nil)
          rw [if_pos (by rfl)]
          go_simp
          refine (r5num _ b _ _ 16 4 _ (hR.below (hS.mono (by omega))) (by omega)).mono ?_
          rintro e w20 ⟨rfl, rfl⟩
          rw [show getV b 16 4 = n4 b 16 from G16.out]
          show K _ _
          refine hK.out _ _ hS (fun hS => ?_)
          clear hK K
          try go_frame
          refine held_pure (i := 21) (oi := ⟨some 37, _, _, _, _, _⟩) rfl (by kernel_rfl) (by kernel_rfl) (by kernel_rfl) (fun _ _ _ h => h) (by rfl) (v := ?_) (fun w hSw => ?_) hS (fun hS => ?_)
          rotate_left
          · go_simp; try with_reducible rfl
          try go_frame
          refine wpAnyH_ready (rs := [23]) (by kernel_rfl) (by simp) (AllReadyH.cons (o := ⟨none, _, _, _, _, _⟩) rfl (fun K hK => ?_) AllReadyH.nil)
          rw [if_pos (by rfl)]
          refine wp_store_row 28 _ _ rfl (w.heap.size + 1) _ rfl rfl 28 _ (heap_new (by simp [hz])) (by kernel_rfl) rfl (by simp [Value.oneCell']) ?_
          repeat rw [setRow_drew]
          rw [setRow_new (by simp [hz])]
          refine hK.out _ _ (by first | exact (Below.refl W.heap.size W).drew.alloc (Nat.le_refl _) _ | exact ((Below.refl W.heap.size W).drew.alloc (Nat.le_refl _) _).drew | exact ((Below.refl W.heap.size W).alloc (Nat.le_refl _) _).drew | exact (((Below.refl W.heap.size W).alloc (Nat.le_refl _) _).drew).drew) (fun hS => ?_)
          clear hK K
          try go_frame
          refine wpAnyH_done (by kernel_rfl) ?_ _
          go_wp2_with fail
          go_meet
          refine ⟨by rw [hz], ?_⟩
          rw [E1.out, E8.out, E9.out, EF.out]
          first | exact ⟨1, rfl⟩ | exact ⟨2, rfl⟩ | exact ⟨3, rfl⟩ | exact ⟨4, rfl⟩
      · rw [if_pos (by rfl)]
        go_simp
        refine hK.out _ _ (hS.alloc hS.size _) (fun hS => ?_)
        clear hK K
        try go_frame
        refine wpAnyH_ready (rs := [18]) (by kernel_rfl) (by simp) (AllReadyH.cons (o := ⟨some 34, _, _, _, _, _⟩) rfl (fun K hK => ?_) AllReadyH.nil)
        rw [if_pos (by rfl)]
        go_simp
        refine (r5num _ b _ _ 12 4 _ (hR.below (hS.mono (by omega))) (by omega)).mono ?_
        rintro e w18 ⟨rfl, rfl⟩
        rw [show getV b 12 4 = n4 b 12 from G12.out]
        show K _ _
        refine hK.out _ _ hS (fun hS => ?_)
        clear hK K
        try go_frame
        refine wpAnyH_ready (rs := [20]) (by kernel_rfl) (by simp) (AllReadyH.cons (o := ⟨some 36, _, _, _, _, _⟩) rfl (fun K hK => ?_) AllReadyH.nil)
        rw [if_pos (by rfl)]
        go_simp
        refine (r5num _ b _ _ 16 4 _ (hR.below (hS.mono (by omega))) (by omega)).mono ?_
        rintro e w20 ⟨rfl, rfl⟩
        rw [show getV b 16 4 = n4 b 16 from G16.out]
        show K _ _
        refine hK.out _ _ hS (fun hS => ?_)
        clear hK K
        try go_frame
        refine held_pure (i := 21) (oi := ⟨some 37, _, _, _, _, _⟩) rfl (by kernel_rfl) (by kernel_rfl) (by kernel_rfl) (fun _ _ _ h => h) (by rfl) (v := ?_) (fun w hSw => ?_) hS (fun hS => ?_)
        rotate_left
        · go_simp; try with_reducible rfl
        try go_frame
        refine wpAnyH_ready (rs := [23]) (by kernel_rfl) (by simp) (AllReadyH.cons (o := ⟨none, _, _, _, _, _⟩) rfl (fun K hK => ?_) AllReadyH.nil)
        rw [if_pos (by rfl)]
        refine wp_store_row 28 _ _ rfl (w.heap.size + 1) _ rfl rfl 28 _ (heap_new (by simp [hz])) (by kernel_rfl) rfl (by simp [Value.oneCell']) ?_
        repeat rw [setRow_drew]
        rw [setRow_new (by simp [hz])]
        refine hK.out _ _ (by first | exact (Below.refl W.heap.size W).drew.alloc (Nat.le_refl _) _ | exact ((Below.refl W.heap.size W).drew.alloc (Nat.le_refl _) _).drew | exact ((Below.refl W.heap.size W).alloc (Nat.le_refl _) _).drew | exact (((Below.refl W.heap.size W).alloc (Nat.le_refl _) _).drew).drew) (fun hS => ?_)
        clear hK K
        try go_frame
        refine wpAnyH_done (by kernel_rfl) ?_ _
        go_wp2_with fail
        go_meet
        refine ⟨by rw [hz], ?_⟩
        rw [E1.out, E8.out, E9.out, EF.out]
        first | exact ⟨1, rfl⟩ | exact ⟨2, rfl⟩ | exact ⟨3, rfl⟩ | exact ⟨4, rfl⟩
    · rw [if_pos (by rfl)]
      go_simp
      refine hK.out _ _ (hS.alloc hS.size _) (fun hS => ?_)
      clear hK K
      try go_frame
      refine wpAnyH_ready (rs := [5]) (by kernel_rfl) (by simp) (AllReadyH.cons (o := ⟨some 21, _, _, _, _, _⟩) rfl (fun K hK => ?_) AllReadyH.nil)
      rw [if_pos (by rfl)]
      go_simp
      refine (r5num _ b _ _ 4 2 _ (hR.below (hS.mono (by omega))) (by omega)).mono ?_
      rintro e w5 ⟨rfl, rfl⟩
      rw [show getV b 4 2 = n2 b 4 from G4.out]
      show K _ _
      refine hK.out _ _ hS (fun hS => ?_)
      clear hK K
      try go_frame
      refine wpAnyH_ready (rs := [18]) (by kernel_rfl) (by simp) (AllReadyH.cons (o := ⟨some 34, _, _, _, _, _⟩) rfl (fun K hK => ?_) AllReadyH.nil)
      rw [if_pos (by rfl)]
      go_simp
      refine (r5num _ b _ _ 12 4 _ (hR.below (hS.mono (by omega))) (by omega)).mono ?_
      rintro e w18 ⟨rfl, rfl⟩
      rw [show getV b 12 4 = n4 b 12 from G12.out]
      show K _ _
      refine hK.out _ _ hS (fun hS => ?_)
      clear hK K
      try go_frame
      refine wpAnyH_ready (rs := [20]) (by kernel_rfl) (by simp) (AllReadyH.cons (o := ⟨some 36, _, _, _, _, _⟩) rfl (fun K hK => ?_) AllReadyH.nil)
      rw [if_pos (by rfl)]
      go_simp
      refine (r5num _ b _ _ 16 4 _ (hR.below (hS.mono (by omega))) (by omega)).mono ?_
      rintro e w20 ⟨rfl, rfl⟩
      rw [show getV b 16 4 = n4 b 16 from G16.out]
      show K _ _
      refine hK.out _ _ hS (fun hS => ?_)
      clear hK K
      try go_frame
      refine held_pure (i := 21) (oi := ⟨some 37, _, _, _, _, _⟩) rfl (by kernel_rfl) (by kernel_rfl) (by kernel_rfl) (fun _ _ _ h => h) (by rfl) (v := ?_) (fun w hSw => ?_) hS (fun hS => ?_)
      rotate_left
      · go_simp; try with_reducible rfl
      try go_frame
      refine wpAnyH_ready (rs := [23]) (by kernel_rfl) (by simp) (AllReadyH.cons (o := ⟨none, _, _, _, _, _⟩) rfl (fun K hK => ?_) AllReadyH.nil)
      rw [if_pos (by rfl)]
      refine wp_store_row 28 _ _ rfl (w.heap.size + 1) _ rfl rfl 28 _ (heap_new (by simp [hz])) (by kernel_rfl) rfl (by simp [Value.oneCell']) ?_
      repeat rw [setRow_drew]
      rw [setRow_new (by simp [hz])]
      refine hK.out _ _ (by first | exact (Below.refl W.heap.size W).drew.alloc (Nat.le_refl _) _ | exact ((Below.refl W.heap.size W).drew.alloc (Nat.le_refl _) _).drew | exact ((Below.refl W.heap.size W).alloc (Nat.le_refl _) _).drew | exact (((Below.refl W.heap.size W).alloc (Nat.le_refl _) _).drew).drew) (fun hS => ?_)
      clear hK K
      try go_frame
      refine wpAnyH_done (by kernel_rfl) ?_ _
      go_wp2_with fail
      go_meet
      refine ⟨by rw [hz], ?_⟩
      rw [E1.out, E8.out, E9.out, EF.out]
      first | exact ⟨1, rfl⟩ | exact ⟨2, rfl⟩ | exact ⟨3, rfl⟩ | exact ⟨4, rfl⟩
  case rest =>
    obtain ⟨hs7, m3, hwc⟩ := hcut
    subst hs7
    subst hwc
    obtain ⟨D, hD⟩ : ∃ d, d = (F / 16384 % 2 == 1) := ⟨_, rfl⟩
    obtain ⟨M, hM⟩ : ∃ d, d = (F / 8192 % 2 == 1) := ⟨_, rfl⟩
    have d1 : Int.tdiv F 16384 = F / 16384 := Int.tdiv_eq_ediv_of_nonneg hFb.1
    have d2 : Int.tdiv F 8192 = F / 8192 := Int.tdiv_eq_ediv_of_nonneg hFb.1
    have d3 : Int.tmod (F / 16384) 2 = F / 16384 % 2 := Int.tmod_eq_emod_of_nonneg (by omega)
    have d4 : Int.tmod (F / 8192) 2 = F / 8192 % 2 := Int.tmod_eq_emod_of_nonneg (by omega)
    have d5 : (F / 16384 % 2 == 1) = D := hD.symm
    have d6 : (F / 8192 % 2 == 1) = M := hM.symm
    have HD := Lib.hid hD; have HM := Lib.hid hM
    clear hD hM
    go_upto_region 5 with fail
    rw [← hz]
    rw [set_newN W _ (#[.int .i64 (byt b 1), .int .i64 (n2 b 4), .int .i64 (F % 8192 * 8), .int .i64 (byt b 8), .int .i64 (byt b 9), .int .i64 (n4 b 12), .int .i64 (n4 b 16), .bool D, .bool false, .slice none 0 0, .slice none 0 0]) _ 7 m3 _ rfl, set_newN W _ (#[.int .i64 (byt b 1), .int .i64 (n2 b 4), .int .i64 (F % 8192 * 8), .int .i64 (byt b 8), .int .i64 (byt b 9), .int .i64 (n4 b 12), .int .i64 (n4 b 16), .bool D, .bool M, .slice none 0 0, .slice none 0 0]) _ 8 m3 _ rfl]
    have hX := heap_newN W (.cells (#[.int .i64 (byt b 1), .int .i64 (n2 b 4), .int .i64 (F % 8192 * 8), .int .i64 (byt b 8), .int .i64 (byt b 9), .int .i64 (n4 b 12), .int .i64 (n4 b 16), .bool D, .bool M, .slice none 0 0, .slice none 0 0]) 28) m3
    have hBX : Below W.heap.size W ((W.alloc (.cells (#[.int .i64 (byt b 1), .int .i64 (n2 b 4), .int .i64 (F % 8192 * 8), .int .i64 (byt b 8), .int .i64 (byt b 9), .int .i64 (n4 b 12), .int .i64 (n4 b 16), .bool D, .bool M, .slice none 0 0, .slice none 0 0]) 28)).drewN m3) := below_drewN ((Below.refl W.heap.size W).alloc (Nat.le_refl _) _) m3
    have HzX := Lib.hid (show ((W.alloc (.cells (#[.int .i64 (byt b 1), .int .i64 (n2 b 4), .int .i64 (F % 8192 * 8), .int .i64 (byt b 8), .int .i64 (byt b 9), .int .i64 (n4 b 12), .int .i64 (n4 b 16), .bool D, .bool M, .slice none 0 0, .slice none 0 0]) 28)).drewN m3).heap.size = W.heap.size + 1 by show (W.alloc _).heap.size = _; simp)
    generalize (W.alloc (.cells (#[.int .i64 (byt b 1), .int .i64 (n2 b 4), .int .i64 (F % 8192 * 8), .int .i64 (byt b 8), .int .i64 (byt b 9), .int .i64 (n4 b 12), .int .i64 (n4 b 16), .bool D, .bool M, .slice none 0 0, .slice none 0 0]) 28)).drewN m3 = X at *
    have HZ := Lib.hid hz
    clear hz d1 d2 d3 d4 d5 d6 E1 E8 E9 EF G4 G12 G16
    have hcp := hR0.cap
    obtain ⟨O, hO⟩ : ∃ l, l = (b.take (hlen b).toNat).drop 20 := ⟨_, rfl⟩
    have HOl := Lib.hid (show O.length = (hlen b).toNat - 20 by rw [hO]; simp; omega)
    have HO := Lib.hid hO
    have hrb : Rd X B (some ⟨b0, off + 20, none⟩) O := by
      intro h0
      have hl := HOl.out
      refine ⟨b0, off + 20, rfl, hbB, fun j hj => ?_⟩
      rw [(hBl.trans (hBX.mono (by have := HZ.out; omega))).cell (show b0 < w.heap.size by omega), hO, Nat.add_assoc, hcell _ (by omega)]
      simp [byt, show 20 + j < (hlen b).toNat by omega]
    have hra : c = 20 → Rd X B (some ⟨b0, off, none⟩) O := fun e h0 => by have hl := HOl.out; omega
    clear hO
    by_cases hc20 : c = 20
    · have hR2 := hra hc20
      subst hc20
      go_upto_region 6 with (first
        | (at_builtin; (refine append_rd rfl _ _ rfl X.heap.size (.slice none 0 0) 0 [] rfl (World.ownsRow_nil _ _ _ _) B (some ⟨b0, off, none⟩) _ O (by rw [HOl.out]; rfl) (fun e => by cases e) hR2 (by have := HOl.out; omega) (Nat.le_refl _) ?_; intro v5 w5 own5 grow5; obtain ⟨A5, c5, rfl, owm5⟩ := own_made (bs := O) own5 (by simp) (by simp); have x5 : Below X.heap.size X w5 := (Below.refl X.heap.size X).grown grow5 (Nat.le_refl _) (fun k hk => by cases hk); have hD5 : Rd w5 B A' dat := ((hD.rd.below ((hBl.trans (hBX.mono (by have := HZ.out; omega))).mono hB))).below (x5.mono (by have := HZ.out; have := HzX.out; omega))))
        | (at_builtin; go_loud (refine append_rd rfl _ _ rfl w5.heap.size (.slice none 0 0) 0 [] rfl (World.ownsRow_nil _ _ _ _) B A' c' dat rfl hD.none_ hD5 (by omega) (Nat.le_refl _) ?_; intro v6 w6 own6 grow6; obtain ⟨A6, c6, rfl, owm6⟩ := own_made (bs := dat) own6 (by simp) (by simp); have x6 : Below w5.heap.size w5 w6 := (Below.refl w5.heap.size w5).grown grow6 (Nat.le_refl _) (fun k hk => by cases hk); have hg6 := (x6.block W.heap.size (by have := x5.size; have := HzX.out; omega)).trans ((x5.block W.heap.size (by have := HzX.out; omega)).trans hX); have k9 : w6.cell? ⟨W.heap.size, 9, none⟩ = some (.slice none 0 0) := by { rw [cell_of_row _ _ _ _ _ _ hg6]; rfl }; have f9 := frozen_of_row w6 W.heap.size 9 _ _ hg6; have hg7 := heap_setCell_same w6 W.heap.size 9 _ _ (.slice A5 O.length c5) hg6; have k10 : (w6.setCell ⟨W.heap.size, 9, none⟩ (.slice A5 O.length c5)).cell? ⟨W.heap.size, 10, none⟩ = some (.slice none 0 0) := by { rw [cell_of_row _ _ _ _ _ _ hg7]; rfl }; have f10 := frozen_of_row _ W.heap.size 10 _ _ hg7)))
      have hg8 := heap_setCell_same _ W.heap.size 10 _ _ (.slice A6 dat.length c6) hg7
      have hg9 := hg8.trans (show some (Obj.cells _ _ _) = some (.cells (v4a (fl4 b dat) A5 c5 A6 c6) 28 (0, 0)) from by rw [HD.out, HM.out, HF.out, HO.out]; rfl)
      have hr6 := (x6.block w.heap.size (by have := x5.size; have := HzX.out; have := HZ.out; omega)).trans ((x5.block w.heap.size (by have := HzX.out; have := HZ.out; omega)).trans ((hBX.block w.heap.size (by have := HZ.out; omega)).trans hgr))
      have hne : w.heap.size ≠ W.heap.size := by have := HZ.out; omega
      have hr8 := ((heap_setCell_other _ ⟨W.heap.size, 10, none⟩ w.heap.size (.slice A6 dat.length c6) hne).trans (heap_setCell_other w6 ⟨W.heap.size, 9, none⟩ w.heap.size (.slice A5 O.length c5) hne)).trans hr6
      go_wp2_with (first
        | ((with_reducible show wpList _ _ _ (Oper.mk _ (Op.load _ _) _ _ _ _ :: _) _ _); refine v4_load (g := W.heap.size) rfl hg9 rfl ?_)
        | ((with_reducible show wpList _ _ _ (Oper.mk _ (Op.store _ _ _) _ _ _ _ :: _) _ _); refine wpList_plain rfl fun _ hK => wp_store_row 28 _ _ rfl w.heap.size _ rfl rfl 28 _ hr8 (by kernel_rfl) rfl (by simp [v4a, Value.oneCell']) (hK _ _ ?_)))
      have oz5 := own_setRow (own_setCell (own_setCell (own_below owm5 x6) (p := ⟨W.heap.size, 9, none⟩) (u := .slice A5 O.length c5) (by have := HzX.out; show W.heap.size < _; omega)) (p := ⟨W.heap.size, 10, none⟩) (u := .slice A6 dat.length c6) (by have := HzX.out; show W.heap.size < _; omega)) (g := w.heap.size) (cs := v4a (fl4 b dat) A5 c5 A6 c6) (by have := HzX.out; have := HZ.out; omega)
      have oz6 := own_setRow (own_setCell (own_setCell owm6 (p := ⟨W.heap.size, 9, none⟩) (u := .slice A5 O.length c5) (by have := HzX.out; have := x5.size; show W.heap.size < _; omega)) (p := ⟨W.heap.size, 10, none⟩) (u := .slice A6 dat.length c6) (by have := HzX.out; have := x5.size; show W.heap.size < _; omega)) (g := w.heap.size) (cs := v4a (fl4 b dat) A5 c5 A6 c6) (by have := HzX.out; have := x5.size; have := HZ.out; omega)
      have bz := (((((hBl.trans (hBX.mono (by have := HZ.out; omega))).trans (x5.mono (by have := HzX.out; have := HZ.out; omega))).trans (x6.mono (by have := x5.size; have := HzX.out; have := HZ.out; omega))).setCell (p := ⟨W.heap.size, 9, none⟩) (by have := HZ.out; show _ ≤ W.heap.size; omega) (.slice A5 O.length c5)).setCell (p := ⟨W.heap.size, 10, none⟩) (by have := HZ.out; show _ ≤ W.heap.size; omega) (.slice A6 dat.length c6))
      have eO : (fl4 b dat).opt = O := HO.out.symm
      exact bodyPost_ret (v4_result rfl rfl (setRow_heap _ _ _ _ _ _ hr8) rfl) rfl ⟨A5, c5, A6, c6, rfl, by rw [eO]; exact arg_own oz5, arg_own oz6, below_row bz (Nat.le_refl _)⟩
    · go_upto_region 6 with (first
        | (at_builtin; (refine append_rd rfl _ _ rfl X.heap.size (.slice none 0 0) 0 [] rfl (World.ownsRow_nil _ _ _ _) B (some ⟨b0, off + 20, none⟩) _ O (by rw [HOl.out]; rfl) (fun e => by cases e) hrb (by have := HOl.out; omega) (Nat.le_refl _) ?_; intro v5 w5 own5 grow5; obtain ⟨A5, c5, rfl, owm5⟩ := own_made (bs := O) own5 (by simp) (by simp); have x5 : Below X.heap.size X w5 := (Below.refl X.heap.size X).grown grow5 (Nat.le_refl _) (fun k hk => by cases hk); have hD5 : Rd w5 B A' dat := ((hD.rd.below ((hBl.trans (hBX.mono (by have := HZ.out; omega))).mono hB))).below (x5.mono (by have := HZ.out; have := HzX.out; omega))))
        | (at_builtin; go_loud (refine append_rd rfl _ _ rfl w5.heap.size (.slice none 0 0) 0 [] rfl (World.ownsRow_nil _ _ _ _) B A' c' dat rfl hD.none_ hD5 (by omega) (Nat.le_refl _) ?_; intro v6 w6 own6 grow6; obtain ⟨A6, c6, rfl, owm6⟩ := own_made (bs := dat) own6 (by simp) (by simp); have x6 : Below w5.heap.size w5 w6 := (Below.refl w5.heap.size w5).grown grow6 (Nat.le_refl _) (fun k hk => by cases hk); have hg6 := (x6.block W.heap.size (by have := x5.size; have := HzX.out; omega)).trans ((x5.block W.heap.size (by have := HzX.out; omega)).trans hX); have k9 : w6.cell? ⟨W.heap.size, 9, none⟩ = some (.slice none 0 0) := by { rw [cell_of_row _ _ _ _ _ _ hg6]; rfl }; have f9 := frozen_of_row w6 W.heap.size 9 _ _ hg6; have hg7 := heap_setCell_same w6 W.heap.size 9 _ _ (.slice A5 O.length c5) hg6; have k10 : (w6.setCell ⟨W.heap.size, 9, none⟩ (.slice A5 O.length c5)).cell? ⟨W.heap.size, 10, none⟩ = some (.slice none 0 0) := by { rw [cell_of_row _ _ _ _ _ _ hg7]; rfl }; have f10 := frozen_of_row _ W.heap.size 10 _ _ hg7)))
      have hg8 := heap_setCell_same _ W.heap.size 10 _ _ (.slice A6 dat.length c6) hg7
      have hg9 := hg8.trans (show some (Obj.cells _ _ _) = some (.cells (v4a (fl4 b dat) A5 c5 A6 c6) 28 (0, 0)) from by rw [HD.out, HM.out, HF.out, HO.out]; rfl)
      have hr6 := (x6.block w.heap.size (by have := x5.size; have := HzX.out; have := HZ.out; omega)).trans ((x5.block w.heap.size (by have := HzX.out; have := HZ.out; omega)).trans ((hBX.block w.heap.size (by have := HZ.out; omega)).trans hgr))
      have hne : w.heap.size ≠ W.heap.size := by have := HZ.out; omega
      have hr8 := ((heap_setCell_other _ ⟨W.heap.size, 10, none⟩ w.heap.size (.slice A6 dat.length c6) hne).trans (heap_setCell_other w6 ⟨W.heap.size, 9, none⟩ w.heap.size (.slice A5 O.length c5) hne)).trans hr6
      go_wp2_with (first
        | ((with_reducible show wpList _ _ _ (Oper.mk _ (Op.load _ _) _ _ _ _ :: _) _ _); refine v4_load (g := W.heap.size) rfl hg9 rfl ?_)
        | ((with_reducible show wpList _ _ _ (Oper.mk _ (Op.store _ _ _) _ _ _ _ :: _) _ _); refine wpList_plain rfl fun _ hK => wp_store_row 28 _ _ rfl w.heap.size _ rfl rfl 28 _ hr8 (by kernel_rfl) rfl (by simp [v4a, Value.oneCell']) (hK _ _ ?_)))
      have oz5 := own_setRow (own_setCell (own_setCell (own_below owm5 x6) (p := ⟨W.heap.size, 9, none⟩) (u := .slice A5 O.length c5) (by have := HzX.out; show W.heap.size < _; omega)) (p := ⟨W.heap.size, 10, none⟩) (u := .slice A6 dat.length c6) (by have := HzX.out; show W.heap.size < _; omega)) (g := w.heap.size) (cs := v4a (fl4 b dat) A5 c5 A6 c6) (by have := HzX.out; have := HZ.out; omega)
      have oz6 := own_setRow (own_setCell (own_setCell owm6 (p := ⟨W.heap.size, 9, none⟩) (u := .slice A5 O.length c5) (by have := HzX.out; have := x5.size; show W.heap.size < _; omega)) (p := ⟨W.heap.size, 10, none⟩) (u := .slice A6 dat.length c6) (by have := HzX.out; have := x5.size; show W.heap.size < _; omega)) (g := w.heap.size) (cs := v4a (fl4 b dat) A5 c5 A6 c6) (by have := HzX.out; have := x5.size; have := HZ.out; omega)
      have bz := (((((hBl.trans (hBX.mono (by have := HZ.out; omega))).trans (x5.mono (by have := HzX.out; have := HZ.out; omega))).trans (x6.mono (by have := x5.size; have := HzX.out; have := HZ.out; omega))).setCell (p := ⟨W.heap.size, 9, none⟩) (by have := HZ.out; show _ ≤ W.heap.size; omega) (.slice A5 O.length c5)).setCell (p := ⟨W.heap.size, 10, none⟩) (by have := HZ.out; show _ ≤ W.heap.size; omega) (.slice A6 dat.length c6))
      have eO : (fl4 b dat).opt = O := HO.out.symm
      exact bodyPost_ret (v4_result rfl rfl (setRow_heap _ _ _ _ _ _ hr8) rfl) rfl ⟨A5, c5, A6, c6, rfl, by rw [eO]; exact arg_own oz5, arg_own oz6, below_row bz (Nat.le_refl _)⟩
end
end Go.Proofs.Ytkfbamippjhjcaa

/-
  Contracts of slices.Index, slices.Contains over Bools, and of v4.all, v6.all: do all conditions hold? Conditions are each theorem's own.
-/
namespace Go.Proofs.Ytkfbamippjhjcaa
open Go.RowKit

/-- Do all hold? A plain definition. -/
def allB (bs : List Bool) : Bool := bs.all id
theorem index_all (g n : Nat) (w : World) (hn : n ≤ 1000) (h : ∀ j, j < n → w.cell? ⟨g, j, none⟩ = some (.bool true)) :
    Calls Try.prog 103 #[.slice (some ⟨g, 0, none⟩) n n, .bool false] w fun e w' => e = .returned (.int .i64 (-1)) ∧ w = w' := by
  have H := Lib.hid h
  clear h
  go_enter Try.func103, Try.ntmps103
  go_wp2
  go_loop [8] (fun i => ∃ k : Nat, k ≤ n ∧ i = .int .i64 k) (fun i => n - (intOf i).toNat)
  case atStart => exact ⟨0, Nat.zero_le _, rfl⟩
  case round =>
    obtain ⟨k, hk, rfl⟩ := hrel
    by_cases hlt : k < n
    · have hc := H.out k hlt
      go_wp2
      go_round
      case rel => exact ⟨k + 1, by omega, by simp⟩
      case measure => simp [intOf]; omega
    · obtain rfl : k = n := by omega
      go_wp2
      go_ret
      exact ⟨rfl, rfl⟩
theorem index_some (g n k0 : Nat) (w : World) (hn : n ≤ 1000) (hk0 : k0 < n) (h : ∀ j, j < k0 → w.cell? ⟨g, j, none⟩ = some (.bool true)) (h0 : w.cell? ⟨g, k0, none⟩ = some (.bool false)) :
    Calls Try.prog 103 #[.slice (some ⟨g, 0, none⟩) n n, .bool false] w fun e w' => e = .returned (.int .i64 (k0 : Int)) ∧ w = w' := by
  have H := Lib.hid h
  have H0 := Lib.hid h0
  clear h h0
  go_enter Try.func103, Try.ntmps103
  go_wp2
  go_loop [8] (fun i => ∃ k : Nat, k ≤ k0 ∧ i = .int .i64 k) (fun i => n - (intOf i).toNat)
  case atStart => exact ⟨0, Nat.zero_le _, rfl⟩
  case round =>
    obtain ⟨k, hk, rfl⟩ := hrel
    have hlt : k < n := by omega
    by_cases hlt2 : k < k0
    · have hc := H.out k hlt2
      go_wp2
      go_round
      case rel => exact ⟨k + 1, by omega, by simp⟩
      case measure => simp [intOf]; omega
    · obtain rfl : k = k0 := by omega
      have hc := H0.out
      go_wp2
      go_ret
      exact ⟨rfl, rfl⟩
theorem first_false : ∀ (bs : List Bool), allB bs = false → ∃ k, k < bs.length ∧ (∀ j, j < k → bs[j]? = some true) ∧ bs[k]? = some false
  | [], h => by cases h
  | false :: l, _ => ⟨0, by simp, fun j hj => absurd hj (Nat.not_lt_zero j), rfl⟩
  | true :: l, h => by
    obtain ⟨k, h1, h2, h3⟩ := first_false l (by simpa [allB] using h)
    refine ⟨k + 1, by simp; omega, fun j hj => ?_, by simpa using h3⟩
    cases j with
    | zero => rfl
    | succ j => simpa using h2 j (by omega)
theorem contains_any (g : Nat) (bs : List Bool) (w : World) (hn : bs.length ≤ 1000) (h : w.rangeAt g 0 (bs.map Value.bool)) :
    Calls Try.prog 76 #[.slice (some ⟨g, 0, none⟩) bs.length bs.length, .bool false] w fun e w' => e = .returned (.bool (!allB bs)) ∧ w = w' := by
  have hc : ∀ j b, bs[j]? = some b → w.cell? ⟨g, j, none⟩ = some (.bool b) := fun j b hj => by
    have := h j (.bool b) (by rw [List.getElem?_map, hj]; rfl)
    rwa [Nat.zero_add] at this
  cases ha : allB bs
  · obtain ⟨k, h1, h2, h3⟩ := first_false bs ha
    have c := index_some g bs.length k w hn h1 (fun j hj => hc j true (h2 j hj)) (hc k false h3)
    clear h hc h2 h3
    go_enter Try.func76, Try.ntmps76
    go_wp2_with (go_at_call 103; refine c.mono ?_; rintro e w' ⟨rfl, rfl⟩)
    go_ret
    exact ⟨rfl, rfl⟩
  · have hall : ∀ j, j < bs.length → bs[j]? = some true := fun j hj => by
      have := (List.all_eq_true.1 ha) bs[j] (List.getElem_mem hj)
      rw [List.getElem?_eq_getElem hj]; simpa using this
    have c := index_all g bs.length w hn (fun j hj => hc j true (hall j hj))
    clear h hc hall
    go_enter Try.func76, Try.ntmps76
    go_wp2_with (go_at_call 103; refine c.mono ?_; rintro e w' ⟨rfl, rfl⟩)
    go_ret
    exact ⟨rfl, rfl⟩
theorem all6_any (g : Nat) (bs : List Bool) (w : World) (hn : bs.length ≤ 1000) (h : w.rangeAt g 0 (bs.map Value.bool)) :
    Calls Try.prog 50 #[.slice (some ⟨g, 0, none⟩) bs.length bs.length] w fun e w' => e = .returned (.bool (allB bs)) ∧ w = w' := by
  have c := contains_any g bs w hn h
  clear h
  go_enter Try.func50, Try.ntmps50
  go_wp2_with (go_at_call 76; refine c.mono ?_; rintro e w' ⟨rfl, rfl⟩)
  go_ret
  exact ⟨ret_bool (by simp), rfl⟩
theorem all4_any (g : Nat) (bs : List Bool) (w : World) (hn : bs.length ≤ 1000) (h : w.rangeAt g 0 (bs.map Value.bool)) :
    Calls Try.prog 91 #[.slice (some ⟨g, 0, none⟩) bs.length bs.length] w fun e w' => e = .returned (.bool (allB bs)) ∧ w = w' := by
  have c := contains_any g bs w hn h
  clear h
  go_enter Try.func91, Try.ntmps91
  go_wp2_with (go_at_call 76; refine c.mono ?_; rintro e w' ⟨rfl, rfl⟩)
  go_ret
  exact ⟨ret_bool (by simp), rfl⟩
end Go.Proofs.Ytkfbamippjhjcaa

/-
  Packets of IPv6 and fragment headers, in plain lists of bytes: what may be, its bytes, what bytes are. No program. Conditions are each theorem's own.
-/
namespace Go.Proofs.Ytkfbamippjhjcaa
open Go.RowKit

/-- What is right with a fragment header. -/
def okF (f : F6) : Prop := 0 ≤ f.next ∧ f.next ≤ 255 ∧ 0 ≤ f.off ∧ f.off ≤ 65528 ∧ f.off % 8 = 0 ∧ 0 ≤ f.id ∧ f.id < 4294967296
instance (f : F6) : Decidable (okF f) := by unfold okF; infer_instance
def offB (f : F6) : Bool := decide (0 ≤ f.off) && decide (f.off ≤ 65528)
def mulB (f : F6) : Bool := decide (f.off % 8 = 0)
theorem okF_iff (f : F6) : okF f ↔ (fitsB f.next 1 = true ∧ offB f = true ∧ mulB f = true ∧ fitsB f.id 4 = true) := by
  unfold okF offB mulB
  simp only [Bool.and_eq_true, fitsB_iff, decide_eq_true_eq, pw]
  constructor
  · rintro ⟨a1, a2, a3, a4, a5, a6, a7⟩
    refine ⟨⟨?_, ?_, ?_, ?_⟩, ⟨?_, ?_⟩, ?_, ?_, ?_, ?_, ?_⟩ <;> (try simp) <;> omega
  · rintro ⟨⟨_, _, f1, f2⟩, ⟨o1, o2⟩, m, _, _, g1, g2⟩
    simp at f2 g2
    refine ⟨?_, ?_, ?_, ?_, ?_, ?_, ?_⟩ <;> omega
def bytF (f : F6) : List UInt8 := [u8 f.next, 0] ++ be2 (f.off + bit f.more 1) ++ be4 f.id
def bldF (f : F6) : List UInt8 := if okF f then bytF f else []
def errF (f : F6) : Int := if okF f then 0 else 1
theorem bldF_len (f : F6) : (bldF f).length ≤ 8 := by unfold bldF bytF; split <;> simp [be2, be4]
def frz : F6 := ⟨0, 0, 0, false⟩
def rawF (b : List UInt8) : F6 := ⟨byt b 0, n2 b 2 / 8 * 8, n4 b 4, decide (n2 b 2 % 2 = 1)⟩
def prsF (b : List UInt8) : F6 := if b.length < 8 then frz else rawF b
def rstF (b : List UInt8) : List UInt8 := if b.length < 8 then [] else b.drop 8
def prsG (b : List UInt8) : Int := if b.length < 8 then 3 else 0
/-- Are two headers the same? -/
def sameF (f g : F6) : Bool := (f.next == g.next && f.off == g.off && f.id == g.id) && (f.more == g.more)
theorem sameF_iff {f g : F6} : sameF f g = true ↔ f = g := by
  obtain ⟨a, b, c, d⟩ := f
  obtain ⟨a', b', c', d'⟩ := g
  simp only [sameF, Bool.and_eq_true, beq_iff_eq, F6.mk.injEq]
  constructor
  · rintro ⟨⟨⟨h0, h1⟩, h2⟩, h3⟩; exact ⟨h0, h1, h2, h3⟩
  · rintro ⟨h0, h1, h2, h3⟩; exact ⟨⟨⟨h0, h1⟩, h2⟩, h3⟩
theorem byt_u8_mod (n : Int) (l : List UInt8) : byt (u8 n :: l) 0 = n % 256 := by simp [byt, u8_val]
theorem backF (f : F6) (more : List UInt8) (h : okF f) : prsF (bldF f ++ more) = f ∧ rstF (bldF f ++ more) = more ∧ prsG (bldF f ++ more) = 0 := by
  obtain ⟨h1, h2, h3, h4, h5, h6, h7⟩ := h
  have hb : bldF f = bytF f := by rw [bldF, if_pos ⟨h1, h2, h3, h4, h5, h6, h7⟩]
  have hl : ¬ (bytF f ++ more).length < 8 := by simp [bytF, be2, be4]
  rw [hb]
  refine ⟨?_, ?_, by rw [prsG, if_neg hl]⟩
  · rw [prsF, if_neg hl]
    obtain ⟨nx, off, id, mr⟩ := f
    simp only at h1 h2 h3 h4 h5 h6 h7
    have e0 : byt (bytF ⟨nx, off, id, mr⟩ ++ more) 0 = nx := by
      have := u8_val nx
      simp [bytF, byt]; omega
    have e2 : n2 (bytF ⟨nx, off, id, mr⟩ ++ more) 2 = off + bit mr 1 := by
      have a := u8_val ((off + bit mr 1) / 256)
      have b := u8_val (off + bit mr 1)
      have c : 0 ≤ bit mr 1 ∧ bit mr 1 ≤ 1 := by unfold bit; cases mr <;> simp
      simp only [bytF, n2, byt, be2, be4, List.cons_append, List.nil_append, List.getElem?_cons_succ, List.getElem?_cons_zero, Option.getD_some]
      omega
    have e4 : n4 (bytF ⟨nx, off, id, mr⟩ ++ more) 4 = id := by
      have a := u8_val (id / 16777216)
      have b := u8_val (id / 65536)
      have c := u8_val (id / 256)
      have d := u8_val id
      simp only [bytF, n4, byt, be2, be4, List.cons_append, List.nil_append, List.getElem?_cons_succ, List.getElem?_cons_zero, Option.getD_some]
      omega
    rw [rawF, e0, e2, e4]
    have f1 : (off + bit mr 1) / 8 * 8 = off := by cases mr <;> simp [bit] <;> omega
    have f2 : decide ((off + bit mr 1) % 2 = 1) = mr := by cases mr <;> simp [bit] <;> omega
    rw [f1, f2]
  · rw [rstF, if_neg hl]
    simp [bytF, be2, be4]

/-- What is right with a packet's fields. -/
def arg6 (q : P6) : Prop := 0 ≤ q.traffic ∧ q.traffic ≤ 255 ∧ 0 ≤ q.next ∧ q.next ≤ 255 ∧ 0 ≤ q.hop ∧ q.hop ≤ 255 ∧ 0 ≤ q.flow ∧ q.flow < 1048576
instance (q : P6) : Decidable (arg6 q) := by unfold arg6; infer_instance
def chk6 (q : P6) : Int := if arg6 q then (if (q.dat.length : Int) > 65535 then 6 else 0) else 1
def size6 (q : P6) : Int := 40 + (q.dat.length : Int)
def fst6 (q : P6) : Int := 1610612736 + q.traffic * 1048576 + q.flow
def hd6 (q : P6) : List UInt8 := be4 (fst6 q) ++ be2 (q.dat.length : Int) ++ [u8 q.next, u8 q.hop]
def bld6 (q : P6) : List UInt8 := hd6 q ++ q.src ++ q.dst ++ q.dat
theorem hd6_len (q : P6) : (hd6 q).length = 8 := by simp [hd6, be2, be4]
theorem bld6_len (q : P6) (hs : q.src.length = 16) (hd : q.dst.length = 16) : (bld6 q).length = 40 + q.dat.length := by
  simp [bld6, hd6_len, hs, hd]; omega
def p6z : P6 := ⟨0, 0, 0, 0, nul, nul, []⟩
/-- What is wrong with bytes; nothing: 0. -/
def bad6 (b : List UInt8) (quoted : Bool) : Int :=
  if b.length < 40 then 3
  else if byt b 0 / 16 ≠ 6 then 4
  else if quoted = false ∧ n2 b 4 > (b.length : Int) - 40 then 3
  else 0
def end6 (b : List UInt8) : Nat := 40 + min (n2 b 4).toNat (b.length - 40)
def raw6 (b : List UInt8) : P6 := ⟨byt b 0 % 16 * 16 + byt b 1 / 16, byt b 1 % 16 * 65536 + byt b 2 * 256 + byt b 3, byt b 6, byt b 7, (b.drop 8).take 16, (b.drop 24).take 16, (b.take (end6 b)).drop 40⟩
def prs6 (b : List UInt8) (quoted : Bool) : P6 := if bad6 b quoted = 0 then raw6 b else p6z
def same6 (q r : P6) : Bool := (q.traffic == r.traffic && q.flow == r.flow && q.next == r.next && q.hop == r.hop) && decide (q.src = r.src) && decide (q.dst = r.dst) && decide (q.dat = r.dat)
theorem same6_iff {q r : P6} : same6 q r = true ↔ q = r := by
  obtain ⟨a0, a1, a2, a3, a4, a5, a6⟩ := q
  obtain ⟨b0, b1, b2, b3, b4, b5, b6⟩ := r
  simp only [same6, Bool.and_eq_true, beq_iff_eq, decide_eq_true_eq, P6.mk.injEq]
  constructor
  · rintro ⟨⟨⟨⟨⟨⟨h0, h1⟩, h2⟩, h3⟩, h4⟩, h5⟩, h6⟩; exact ⟨h0, h1, h2, h3, h4, h5, h6⟩
  · rintro ⟨h0, h1, h2, h3, h4, h5, h6⟩; exact ⟨⟨⟨⟨⟨⟨h0, h1⟩, h2⟩, h3⟩, h4⟩, h5⟩, h6⟩
theorem back6 (q : P6) (more : List UInt8) (hs : q.src.length = 16) (hd : q.dst.length = 16) (h : chk6 q = 0) : bad6 (bld6 q ++ more) false = 0 ∧ raw6 (bld6 q ++ more) = q := by
  have ha : arg6 q := by
    rcases Decidable.em (arg6 q) with h' | h'
    · exact h'
    · rw [chk6, if_neg h'] at h; omega
  have hl : (q.dat.length : Int) ≤ 65535 := by
    rcases Int.lt_or_le 65535 (q.dat.length : Int) with h' | h'
    · rw [chk6, if_pos ha, if_pos h'] at h; omega
    · exact h'
  obtain ⟨a1, a2, a3, a4, a5, a6, a7, a8⟩ := ha
  have hlen : (bld6 q ++ more).length = 40 + q.dat.length + more.length := by rw [List.length_append, bld6_len q hs hd]
  have b0 : byt (bld6 q ++ more) 0 = fst6 q / 16777216 % 256 := by have := u8_val (fst6 q / 16777216); simpa [bld6, hd6, be4, byt] using this
  have b1 : byt (bld6 q ++ more) 1 = fst6 q / 65536 % 256 := by have := u8_val (fst6 q / 65536); simpa [bld6, hd6, be4, byt] using this
  have b2 : byt (bld6 q ++ more) 2 = fst6 q / 256 % 256 := by have := u8_val (fst6 q / 256); simpa [bld6, hd6, be4, byt] using this
  have b3 : byt (bld6 q ++ more) 3 = fst6 q % 256 := by have := u8_val (fst6 q); simpa [bld6, hd6, be4, byt] using this
  have b4 : byt (bld6 q ++ more) 4 = (q.dat.length : Int) / 256 % 256 := by have := u8_val ((q.dat.length : Int) / 256); simpa [bld6, hd6, be4, be2, byt] using this
  have b5 : byt (bld6 q ++ more) 5 = (q.dat.length : Int) % 256 := by have := u8_val (q.dat.length : Int); simpa [bld6, hd6, be4, be2, byt] using this
  have b6 : byt (bld6 q ++ more) 6 = q.next % 256 := by have := u8_val q.next; simpa [bld6, hd6, be4, be2, byt] using this
  have b7 : byt (bld6 q ++ more) 7 = q.hop % 256 := by have := u8_val q.hop; simpa [bld6, hd6, be4, be2, byt] using this
  have hn : n2 (bld6 q ++ more) 4 = (q.dat.length : Int) := by rw [n2, b4, b5]; omega
  have hf : fst6 q = 1610612736 + q.traffic * 1048576 + q.flow := rfl
  have he : end6 (bld6 q ++ more) = 40 + q.dat.length := by rw [end6, hn, hlen]; simp; omega
  have hd8 : (bld6 q ++ more).drop 8 = q.src ++ (q.dst ++ (q.dat ++ more)) := by
    rw [bld6, List.append_assoc, List.append_assoc, List.append_assoc, ← hd6_len q, List.drop_left]
  have hd24 : (bld6 q ++ more).drop 24 = q.dst ++ (q.dat ++ more) := by
    rw [show 24 = 8 + 16 from rfl, ← List.drop_drop, hd8, ← hs, List.drop_left]
  have hd40 : (bld6 q ++ more).drop 40 = q.dat ++ more := by
    rw [show 40 = 24 + 16 from rfl, ← List.drop_drop, hd24, ← hd, List.drop_left]
  refine ⟨?_, ?_⟩
  · rw [bad6, if_neg (by rw [hlen]; omega), if_neg (by rw [b0, hf]; omega), if_neg (by rw [hn, hlen]; omega)]
  · have e1 : ((bld6 q ++ more).take (end6 (bld6 q ++ more))).drop 40 = q.dat := by
      rw [he, List.drop_take, hd40]; simp
    have e2 : ((bld6 q ++ more).drop 8).take 16 = q.src := by rw [hd8, ← hs, List.take_left]
    have e3 : ((bld6 q ++ more).drop 24).take 16 = q.dst := by rw [hd24, ← hd, List.take_left]
    have e4 : byt (bld6 q ++ more) 0 % 16 * 16 + byt (bld6 q ++ more) 1 / 16 = q.traffic := by rw [b0, b1, hf]; omega
    have e5 : byt (bld6 q ++ more) 1 % 16 * 65536 + byt (bld6 q ++ more) 2 * 256 + byt (bld6 q ++ more) 3 = q.flow := by rw [b1, b2, b3, hf]; omega
    have e6 : byt (bld6 q ++ more) 6 = q.next := by rw [b6]; omega
    have e7 : byt (bld6 q ++ more) 7 = q.hop := by rw [b7]; omega
    rw [raw6, e1, e2, e3, e4, e5, e6, e7]
end Go.Proofs.Ytkfbamippjhjcaa

/-
  Layer 6's small functions: get, fresh, put; packets and fragment headers that lie in a block of their own. Conditions are each theorem's own.
-/
namespace Go.Proofs.Ytkfbamippjhjcaa
open Go.RowKit

/-- A fragment header in a block of its own. -/
def fra (f : F6) : Array Value := #[.int .i64 f.next, .int .i64 f.off, .int .i64 f.id, .bool f.more]
def AtF (W : World) (g : Nat) (f : F6) : Prop := W.rangeAt g 0 (fra f).toList
section
variable {W : World} {g : Nat} {f : F6}
theorem AtF.new (w : World) : AtF (w.alloc (.cells (fra f) 87)) w.heap.size f := fun j v hj => by
  rw [Nat.zero_add, World.cell?_alloc_new, ← hj, Array.getElem?_toList]
theorem AtF.below {w : World} {B : Nat} (h : AtF W g f) (hb : Below B W w) (hg : g < B) : AtF w g f := range_below h hg hb
theorem AtF.next (h : AtF W g f) : W.cell? ⟨g, 0, none⟩ = some (.int .i64 f.next) := h 0 _ rfl
theorem AtF.off (h : AtF W g f) : W.cell? ⟨g, 1, none⟩ = some (.int .i64 f.off) := h 1 _ rfl
theorem AtF.id (h : AtF W g f) : W.cell? ⟨g, 2, none⟩ = some (.int .i64 f.id) := h 2 _ rfl
theorem AtF.more (h : AtF W g f) : W.cell? ⟨g, 3, none⟩ = some (.bool f.more) := h 3 _ rfl
end
/-- A new block of Bools. -/
theorem range_bools (w : World) (bs : List Bool) (t : TypeId) : (w.alloc (.cells (bs.map Value.bool).toArray t)).rangeAt w.heap.size 0 (bs.map Value.bool) := fun j v hj => by
  rw [Nat.zero_add, World.cell?_alloc_new, ← hj, List.getElem?_toArray]

theorem all6_new (bs : List Bool) (cs : Array Value) (n : Nat) (t : TypeId) (w : World) (hc : cs = (bs.map Value.bool).toArray) (hn : n = bs.length) (hl : bs.length ≤ 1000) :
    Calls Try.prog 50 #[.slice (some ⟨w.heap.size, 0, none⟩) n n] (w.alloc (.cells cs t)).drew fun e w' => e = .returned (.bool (allB bs)) ∧ (w.alloc (.cells cs t)).drew = w' := by
  subst hc; subst hn
  exact all6_any w.heap.size bs _ hl (range_bools w bs t)
theorem all4_new (bs : List Bool) (cs : Array Value) (n : Nat) (t : TypeId) (w : World) (hc : cs = (bs.map Value.bool).toArray) (hn : n = bs.length) (hl : bs.length ≤ 1000) :
    Calls Try.prog 91 #[.slice (some ⟨w.heap.size, 0, none⟩) n n] (w.alloc (.cells cs t)).drew fun e w' => e = .returned (.bool (allB bs)) ∧ (w.alloc (.cells cs t)).drew = w' := by
  subst hc; subst hn
  exact all4_any w.heap.size bs _ hl (range_bools w bs t)
theorem get6_any (A : Option Addr) (bs : List UInt8) (c B : Nat) (at_ s : Int) (w : World) (h : Rd w B A bs) (hl : bs.length ≤ 1099511627776) (hc : bs.length ≤ c) :
    Calls Try.prog 53 #[.slice A bs.length c, .int .i64 at_, .int .i64 s] w fun e w' => e = .returned (.int .i64 (getV bs at_ s)) ∧ w = w' := by
  go_enter Try.func53, Try.ntmps53
  go_wp2_with (go_at_call 79; refine (get_any A bs c B at_ s _ h hl hc).mono ?_; rintro e w' ⟨rfl, rfl⟩)
  go_ret
  exact ⟨rfl, rfl⟩
theorem get4_any (A : Option Addr) (bs : List UInt8) (c B : Nat) (at_ s : Int) (w : World) (h : Rd w B A bs) (hl : bs.length ≤ 1099511627776) (hc : bs.length ≤ c) :
    Calls Try.prog 80 #[.slice A bs.length c, .int .i64 at_, .int .i64 s] w fun e w' => e = .returned (.int .i64 (getV bs at_ s)) ∧ w = w' := by
  go_enter Try.func80, Try.ntmps80
  go_wp2_with (go_at_call 79; refine (get_any A bs c B at_ s _ h hl hc).mono ?_; rintro e w' ⟨rfl, rfl⟩)
  go_ret
  exact ⟨rfl, rfl⟩
theorem fresh_any (A : Option Addr) (bs : List UInt8) (c B : Nat) (w : World) (h : Arg w B A c bs) (hl : bs.length ≤ 1099511627776) :
    Calls Try.prog 54 #[.slice A bs.length c] w fun e w' => ∃ v, e = .returned v ∧ Made w w' v bs := by
  have hr := h.rd
  have hn := h.none_
  go_enter Try.func54, Try.ntmps54
  go_wp2_with (at_builtin; refine append_rd rfl _ _ rfl w.heap.size _ _ _ rfl (World.ownsRow_nil _ _ _ _) B A c bs rfl hn hr (by omega) (Nat.le_refl _) ?_; intro v1 w1 hown hgrow)
  go_ret
  have hb1 : Below w.heap.size w w1 := (Below.refl _ w).grown hgrow (Nat.le_refl _) (fun k hk => by cases (show (none : Option Nat) = some k from hk))
  exact ⟨_, rfl, Made.of_own (by simpa using hown) hb1⟩
/-- Numbers of so many bytes, one behind the other. -/
def putL (ps : List (Int × Int)) : List UInt8 := ps.foldl (fun b x => putB b x.1 x.2) []
theorem putL_snoc (ps : List (Int × Int)) (x : Int × Int) : putL (ps ++ [x]) = putB (putL ps) x.1 x.2 := by simp [putL]
theorem putL_len (ps : List (Int × Int)) (h : ∀ x ∈ ps, x.2.toNat ≤ 4) : (putL ps).length ≤ 4 * ps.length := by
  have key : ∀ (ps : List (Int × Int)) (b : List UInt8), (∀ x ∈ ps, x.2.toNat ≤ 4) → (ps.foldl (fun b x => putB b x.1 x.2) b).length ≤ b.length + 4 * ps.length := by
    intro ps
    induction ps with
    | nil => intro b _; simp
    | cons x l ih =>
      intro b hx
      have h1 := ih (putB b x.1 x.2) (fun y hy => hx y (by simp [hy]))
      have h2 := putB_le (n := x.1) (Nat.le_refl b.length) (hx x (by simp))
      simp only [List.foldl_cons, List.length_cons]; omega
  simpa [putL] using key ps [] h
theorem putL_take (ps : List (Int × Int)) {k : Nat} {x : Int × Int} (h : ps[k]? = some x) : putL (ps.take (k + 1)) = putB (putL (ps.take k)) x.1 x.2 := by
  rw [List.take_add_one, h]; exact putL_snoc _ _
theorem made_shape {w w' : World} {v : Value} {bs : List UInt8} (h : Made w w' v bs) : ∃ A c, v = .slice A bs.length c ∧ Arg w' w'.heap.size A c bs ∧ w'.ownsRow w.heap.size 5 1 (.slice A bs.length c) bs.length (row bs) ∧ Below w.heap.size w w' := by
  obtain ⟨A, c, rfl, hl, hr, ho, hb⟩ := h
  exact ⟨A, c, rfl, arg_own ho, ho, hb⟩
set_option maxHeartbeats 4000000 in
theorem put6_any (g : Nat) (ps : List (Int × Int)) (w : World) (hn : ps.length ≤ 10) (hs : ∀ x ∈ ps, x.2.toNat ≤ 4) (hg : g < w.heap.size)
    (h : ∀ (k : Nat) (x : Int × Int), ps[k]? = some x → w.cell? ⟨g, k * 2, none⟩ = some (.int .i64 x.1) ∧ w.cell? ⟨g, k * 2 + 1, none⟩ = some (.int .i64 x.2)) :
    Calls Try.prog 45 #[.slice (some ⟨g, 0, none⟩) ps.length ps.length] w fun e w' => ∃ v, e = .returned v ∧ Made w w' v (putL ps) := by
  have H := Lib.hid h
  clear h
  have HL := Lib.hid (fun k => (putL_len (ps.take k) (fun x hx => hs x (List.mem_of_mem_take hx))))
  clear hs
  go_enter Try.func45, Try.ntmps45
  go_wp2
  go_loopw [3, 8] (fun v i W => ∃ (k c : Nat) (A : Option Addr) (bs : List UInt8), k ≤ ps.length ∧ i = .int .i64 (k : Int) ∧ Hid (bs = putL (ps.take k)) ∧ bs.length ≤ 40 ∧ v = .slice A bs.length c ∧ W.ownsRow w.heap.size 5 1 (.slice A bs.length c) bs.length (row bs) ∧ Below w.heap.size w W) (fun _ i _ => ps.length - (intOf i).toNat)
  case atStart => exact ⟨0, 0, none, [], Nat.zero_le _, rfl, Lib.hid rfl, by simp, rfl, World.ownsRow_nil _ _ _ _, Below.refl _ _⟩
  case round =>
    obtain ⟨k, c, A, bs, hk, rfl, HB, hb40, rfl, hown, hbel⟩ := hrel
    by_cases hlt : k < ps.length
    · obtain ⟨x, hx⟩ : ∃ x, ps[k]? = some x := ⟨_, List.getElem?_eq_getElem hlt⟩
      obtain ⟨c1, c2⟩ := H.out k x hx
      have HX := Lib.hid hx
      clear hx
      have d1 := (hbel.cell (p := ⟨g, k * 2, none⟩) hg).trans c1
      have d2 := (hbel.cell (p := ⟨g, k * 2 + 1, none⟩) hg).trans c2
      clear c1 c2
      obtain ⟨n, s⟩ := x
      simp only at d1 d2
      go_wp2_with (go_at_call 71; refine (put_any A bs c _ n s _ (arg_own (own_below hown ((Below.refl _ _).alloc (Nat.le_refl _) _) )).rd (Nat.le_refl _) (by omega)).mono ?_; rintro e w2 ⟨v2, rfl, A2, c2, rfl, l2, rd2, ow2, x2⟩)
      have hz2 := x2.size
      have bel2 : Below w.heap.size w w2 := (hbel.alloc hbel.size _).trans (x2.mono (by simp; exact Nat.le_succ_of_le hbel.size))
      have own2 : w2.ownsRow w.heap.size 5 1 (.slice A2 (putB bs n s).length c2) (putB bs n s).length (row (putB bs n s)) := own_base ow2 (by simp; exact Nat.le_succ_of_le hbel.size)
      have HP := Lib.hid (putL_take ps HX.out)
      have h40 : (putB bs n s).length ≤ 40 := by
        rw [HB.out, ← HP.out]
        have := HL.out (k + 1)
        have h2 : (ps.take (k + 1)).length ≤ ps.length := by rw [List.length_take]; omega
        omega
      go_roundw
      case rel => exact ⟨k + 1, c2, A2, _, by omega, by simp, Lib.hid (by rw [HP.out, HB.out]), h40, rfl, own2, bel2⟩
      case measure => simp [intOf]; omega
    · obtain rfl : k = ps.length := by omega
      go_wp2
      go_ret
      have e : bs = putL ps := by rw [HB.out, List.take_length]
      subst e
      exact ⟨_, rfl, Made.of_own hown hbel⟩
theorem Made.after {w W w' : World} {v : Value} {bs : List UInt8} (h : Made W w' v bs) (hb : Below w.heap.size w W) : Made w w' v bs := by
  obtain ⟨A, c, rfl, hl, hr, ho, hB⟩ := h
  exact Made.of_own (own_base ho hb.size) (hb.trans (hB.mono hb.size))
theorem Made.below {w w' : World} {v : Value} {bs : List UInt8} (h : Made w w' v bs) : Below w.heap.size w w' := by
  obtain ⟨A, c, rfl, hl, hr, ho, hB⟩ := h
  exact hB
theorem putR_F (f : F6) (p : Int) (h : okF f) (hp : p = f.off + bit f.more 1) : putB (putB [u8 f.next, 0] p 2) f.id 4 = bldF f := by
  rw [bldF, if_pos h]
  obtain ⟨h1, h2, h3, h4, h5, h6, h7⟩ := h
  have hb : 0 ≤ bit f.more 1 ∧ bit f.more 1 ≤ 1 := by unfold bit; cases f.more <;> simp
  subst hp
  rw [put_two (by omega) (by omega), put_four h6 h7, bytF]
theorem arg_pair (w : World) (n : Int) {m : Int} (h : m = n % 256) : Arg (w.alloc (.cells #[.int .u8 m, .int .u8 0] 5)) (w.heap.size + 1) (some ⟨w.heap.size, 0, none⟩) 2 [u8 n, 0] :=
  ⟨Rd.pair _ (by rw [u8_val]; exact h) rfl, by simp, fun e => by cases e⟩
def flat : List (Int × Int) → List Value
  | [] => []
  | x :: l => .int .i64 x.1 :: .int .i64 x.2 :: flat l
theorem flat_get : ∀ (ps : List (Int × Int)) (k : Nat) (x : Int × Int), ps[k]? = some x → (flat ps)[k * 2]? = some (.int .i64 x.1) ∧ (flat ps)[k * 2 + 1]? = some (.int .i64 x.2)
  | [], k, x, h => by simp at h
  | y :: l, 0, x, h => by simp at h; subst h; exact ⟨rfl, rfl⟩
  | y :: l, k + 1, x, h => by
    have := flat_get l k x (by simpa using h)
    rw [show (k + 1) * 2 = k * 2 + 1 + 1 from by omega]
    simpa [flat] using this
theorem put6_new (ps : List (Int × Int)) (cs : Array Value) (n : Nat) (t : TypeId) (w : World) (hc : cs = (flat ps).toArray) (hn : n = ps.length) (hl : ps.length ≤ 10) (hs : ∀ x ∈ ps, x.2.toNat ≤ 4) :
    Calls Try.prog 45 #[.slice (some ⟨w.heap.size, 0, none⟩) n n] (w.alloc (.cells cs t)) fun e w' => ∃ v, e = .returned v ∧ Made w w' v (putL ps) := by
  subst hc; subst hn
  refine (put6_any w.heap.size ps _ hl hs (by simp) fun k x hx => ?_).mono ?_
  · obtain ⟨h1, h2⟩ := flat_get ps k x hx
    exact ⟨by rw [World.cell?_alloc_new, List.getElem?_toArray]; exact h1, by rw [World.cell?_alloc_new, List.getElem?_toArray]; exact h2⟩
  · rintro e w' ⟨v, he, hm⟩
    exact ⟨v, he, hm.after ((Below.refl _ w).alloc (Nat.le_refl _) _)⟩
theorem put_one {bs : List UInt8} {n : Int} (h0 : 0 ≤ n) (h1 : n ≤ 255) : putB bs n 1 = bs ++ [u8 n] := by
  rw [putB, if_pos (fitsB_iff.2 ⟨by omega, by omega, h0, by simp [pw]; omega⟩)]
  simp [digs, List.range_succ, u8_dig h0, pw]
theorem putL_F (f : F6) (p : Int) (h : okF f) (hp : p = f.off + bit f.more 1) : putL [(f.next, 1), (0, 1), (p, 2), (f.id, 4)] = bldF f := by
  rw [bldF, if_pos h]
  obtain ⟨h1, h2, h3, h4, h5, h6, h7⟩ := h
  have hb : 0 ≤ bit f.more 1 ∧ bit f.more 1 ≤ 1 := by unfold bit; cases f.more <;> simp
  subst hp
  simp only [putL, List.foldl_cons, List.foldl_nil]
  rw [put_one h1 h2, put_one (by omega) (by omega), put_two (by omega) (by omega), put_four h6 h7, bytF]
  rfl
end Go.Proofs.Ytkfbamippjhjcaa

/-
  Laws: a slice of a slice of bytes, whatever its capacity; a function's own block for its result, kept through a region and stored into. Conditions are each theorem's own.
-/
namespace Go.Proofs.Ytkfbamippjhjcaa
open Go.RowKit

/-- Where a slice of a slice begins. A plain definition. -/
def cutA (A : Option Addr) (c lo : Nat) : Option Addr := if c = lo then A else A.map (·.add lo)
theorem sliced_cut (A : Option Addr) (l h c : Nat) : sliced A l h c 1 = .slice (cutA A c l) (h - l) (c - l) := by simp [sliced, cutA]
theorem Arg.cut {w : World} {B : Nat} {A : Option Addr} {c : Nat} {bs : List UInt8} (h : Arg w B A c bs) (lo hi : Nat) (hh : hi ≤ bs.length) : Arg w B (cutA A c lo) (c - lo) ((bs.take hi).drop lo) := by
  have hcap := h.cap
  refine ⟨fun hn => ?_, by simp; omega, fun e => ?_⟩
  · have hl : lo < hi := by simp at hn; omega
    obtain ⟨b, off, rfl, hb, hc⟩ := h.rd (by omega)
    refine ⟨b, off + lo, by simp [cutA, show ¬ c = lo from by omega, add_off], hb, fun j hj => ?_⟩
    have hj' : j < hi - lo := by simp at hj; omega
    rw [Nat.add_assoc, hc (lo + j) (by omega)]
    simp only [byt, List.getElem?_drop, List.getElem?_take]
    rw [if_pos (by omega)]
  · unfold cutA at e
    split at e
    · have := h.none_ e; omega
    · have : A = none := by cases A <;> simp at e ⊢
      have := h.none_ this; omega
theorem Arg.cut_lo {w : World} {B : Nat} {A : Option Addr} {c : Nat} {bs : List UInt8} (h : Arg w B A c bs) (lo : Nat) : Arg w B (cutA A c lo) (c - lo) (bs.drop lo) := by
  have := h.cut lo bs.length (Nat.le_refl _)
  rwa [List.take_length] at this
theorem Arg.cut_hi {w : World} {B : Nat} {A : Option Addr} {c : Nat} {bs : List UInt8} (h : Arg w B A c bs) (hi : Nat) (hh : hi ≤ bs.length) : Arg w B A c (bs.take hi) := by
  have hcap := h.cap
  refine ⟨fun hn => ?_, by simp; omega, h.none_⟩
  obtain ⟨b, off, rfl, hb, hc⟩ := h.rd (by simp at hn; omega)
  refine ⟨b, off, rfl, hb, fun j hj => ?_⟩
  have hj' : j < hi := by simp at hj; omega
  rw [hc j (by omega)]
  simp only [byt, List.getElem?_take]
  rw [if_pos hj']
theorem slice_bytes : Try.prog.underlying 24 = some (.slice (Try.prog.elem 24)) := by kernel_rfl
theorem run_cut_l {o : Oper} {a : Act} {w : World} {x lo : Operand} {A : Option Addr} {n c l m : Nat} (ho : o.op = .slice 24 x (some lo) none none) (hx : a.eval x = .slice A n c) (hl : a.eval lo = .int .i64 (l : Int)) (hn : l ≤ n) (hm : m = n - l) :
    (execOp a.eval o).run Try.prog w = .ok (.value (.slice (cutA A c l) m (c - l))) w := by
  subst hm
  have h1 := run_slice_l (P := Try.prog) (w := w) 24 A n c slice_bytes .i64 (l : Int) (by omega) (by omega)
  unfold execOp
  simp only [ho, hx, hl, Option.map, Sem.run_bind, run_sliceAt_slice _ _ _ _ _ _ slice_bytes, h1]
  go_simp
  rfl
theorem run_cut_lh {o : Oper} {a : Act} {w : World} {x lo hi : Operand} {A : Option Addr} {n c m : Nat} {l h : Int} (ho : o.op = .slice 24 x (some lo) (some hi) none) (hx : a.eval x = .slice A n c) (hl : a.eval lo = .int .i64 l) (hh : a.eval hi = .int .i64 h)
    (h0 : 0 ≤ l) (h1 : l ≤ h) (h2 : h ≤ (c : Int)) (hm : m = h.toNat - l.toNat) :
    (execOp a.eval o).run Try.prog w = .ok (.value (.slice (cutA A c l.toNat) m (c - l.toNat))) w := by
  subst hm
  have h1 := run_slice_lh (P := Try.prog) (w := w) 24 A n c slice_bytes .i64 .i64 l h h0 h1 h2
  unfold execOp
  simp only [ho, hx, hl, hh, Option.map, Sem.run_bind, run_sliceAt_slice _ _ _ _ _ _ slice_bytes, h1]
  go_simp
  rfl
theorem run_cut_h {o : Oper} {a : Act} {w : World} {x hi : Operand} {A : Option Addr} {n c m : Nat} {h : Int} (ho : o.op = .slice 24 x none (some hi) none) (hx : a.eval x = .slice A n c) (hh : a.eval hi = .int .i64 h)
    (h0 : 0 ≤ h) (h2 : h ≤ (c : Int)) (hm : m = h.toNat) :
    (execOp a.eval o).run Try.prog w = .ok (.value (.slice A m c)) w := by
  subst hm
  have h1 := run_slice_h (P := Try.prog) (w := w) 24 A n c slice_bytes .i64 h h0 h2
  unfold execOp
  simp only [ho, hx, hh, Option.map, Sem.run_bind, run_sliceAt_slice _ _ _ _ _ _ slice_bytes, h1]
  go_simp
/-- An operation that yields a value, in a list that goes in the order of the text. -/
theorem wpList_val {P : Program} {ops : Array Oper} {rest : List Oper} {o : Oper} {a : Act} {w : World} {Q : Exit → Act → World → Prop} {v : Value} (hg : o.guard = none) (hrun : (execOp a.eval o).run P w = .ok (.value v) w)
    (h : wpList P ops Q rest (a.put o.dst v) w) : wpList P ops Q (o :: rest) a w :=
  wpList_plain hg fun K hK => by unfold Oper.wp; rw [hrun]; exact hK _ _ h

/-- What was there below is as it was; the block that came first lies there, n cells of type t. -/
def OwnR (w0 : World) (t n : Nat) (w' : World) : Prop := Below w0.heap.size w0 w' ∧ ∃ cs : Array Value, cs.size = n ∧ w'.heap[w0.heap.size]? = some (.cells cs t (0, 0))
section
variable {w0 w w' : World} {t n : Nat}
theorem OwnR.new (w : World) (cs : Array Value) (t : TypeId) : OwnR w t cs.size (w.alloc (.cells cs t)) := ⟨(Below.refl _ w).alloc (Nat.le_refl _) _, cs, rfl, World.alloc_heap_new w _⟩
theorem OwnR.b (h : OwnR w0 t n w) : Below w0.heap.size w0 w := h.1
theorem OwnR.lt (h : OwnR w0 t n w) : w0.heap.size < w.heap.size := by obtain ⟨_, cs, _, hg⟩ := h; exact heap_lt hg
theorem OwnR.drew (h : OwnR w0 t n w) : OwnR w0 t n w.drew := ⟨h.1.drew, h.2⟩
theorem OwnR.drewN (h : OwnR w0 t n w) (k : Nat) : OwnR w0 t n (w.drewN k) := ⟨below_drewN h.1 k, h.2⟩
theorem OwnR.step (h : OwnR w0 t n w) (hb : Below w.heap.size w w') : OwnR w0 t n w' := by
  have hl := h.lt
  obtain ⟨hB, cs, hn, hg⟩ := h
  exact ⟨hB.trans (hb.mono hB.size), cs, hn, (hb.block _ hl).trans hg⟩
theorem OwnR.alloc (h : OwnR w0 t n w) (o : Obj) : OwnR w0 t n (w.alloc o) := h.step ((Below.refl _ w).alloc (Nat.le_refl _) _)
theorem OwnR.row (h : OwnR w0 t n w) (cs : Array Value) (hc : cs.size = n) : OwnR w0 t n (w.setRow w0.heap.size cs) := by
  obtain ⟨hB, cs', hn, hg⟩ := h
  exact ⟨below_row hB (Nat.le_refl _), cs, hc, setRow_heap _ _ _ _ _ _ hg⟩
end
theorem Made.row {w W w' : World} {v : Value} {bs : List UInt8} {cs : Array Value} (h : Made W w' v bs) (hb : Below w.heap.size w W) (hg : w.heap.size < W.heap.size) : Made w (w'.setRow w.heap.size cs) v bs := by
  obtain ⟨A, c, rfl, hl, hr, ho, hB⟩ := h
  exact Made.of_own (own_base (own_setRow ho hg) hb.size) (below_row (hb.trans (hB.mono hb.size)) (Nat.le_refl _))
/-- Results: a struct in a block, and slots. -/
theorem res2 {fn : Func} {p q : Tmp} {T : TypeId} {tmps : Array Value} {w : World} {g : Nat} {cs : Array Value} (h : fn.results = #[.cell p T, .tmp q])
    (hp : tmps.getD p undef = .pointer (some ⟨g, 0, none⟩)) (hr : (loadVar T ⟨g, 0, none⟩).run Try.prog w = .ok (.agg cs) w) :
    (results fn tmps).run Try.prog w = .ok (.tuple #[.agg cs, tmps.getD q undef]) w := by
  have hp' : tmps[p]?.getD undef = .pointer (some ⟨g, 0, none⟩) := by simpa using hp
  simp [results, h, hp', asAddr, hr]
theorem res3 {fn : Func} {p q r : Tmp} {T : TypeId} {tmps : Array Value} {w : World} {g : Nat} {cs : Array Value} (h : fn.results = #[.cell p T, .tmp q, .tmp r])
    (hp : tmps.getD p undef = .pointer (some ⟨g, 0, none⟩)) (hr : (loadVar T ⟨g, 0, none⟩).run Try.prog w = .ok (.agg cs) w) :
    (results fn tmps).run Try.prog w = .ok (.tuple #[.agg cs, tmps.getD q undef, tmps.getD r undef]) w := by
  have hp' : tmps[p]?.getD undef = .pointer (some ⟨g, 0, none⟩) := by simpa using hp
  simp [results, h, hp', asAddr, hr]
theorem get_one {b : List UInt8} {i : Nat} (h : i + 1 ≤ b.length) : getV b (i : Int) 1 = byt b i := by
  have e := getV_ok (bs := b) (a := i) (s := 1) (by omega) (by omega) h
  have hl : (b.drop i).length = b.length - i := by simp
  rw [show (1 : Int) = ((1 : Nat) : Int) from rfl, e, num_take _ (k := 0) (by omega), List.take_zero]
  simp only [byt_drop, num, List.foldl_nil, Nat.add_zero]; omega
theorem n4_bd (b : List UInt8) (i : Nat) : 0 ≤ n4 b i ∧ n4 b i < 4294967296 := by
  have h1 := byt_lo b i; have h2 := byt_hi b i; have h3 := byt_lo b (i + 1); have h4 := byt_hi b (i + 1)
  have h5 := byt_lo b (i + 2); have h6 := byt_hi b (i + 2); have h7 := byt_lo b (i + 3); have h8 := byt_hi b (i + 3)
  unfold n4; omega
theorem and_mask (k : Nat) (n : Int) (h0 : 0 ≤ n) (h1 : n ≤ 9223372036854775807) (hk : k ≤ 62) : bits .and .i64 n (2 ^ k - 1) = n % 2 ^ k :=
  bits_mask .i64 63 (by decide) wraps63 k (by omega) n h0 (by omega)
end Go.Proofs.Ytkfbamippjhjcaa

/-
  Contracts of the document's plain answers of layer 4: Less, Host, Of. Conditions are each theorem's own.
-/
namespace Go.Proofs.Ytkfbamippjhjcaa
open Go.RowKit

theorem items_eq (a b : List UInt8) (d : Nat) (w : World) : ∀ is : List Nat, (∀ i ∈ is, i < a.length ∧ i < b.length) →
    (Op.eqItems (d + 1) 5 1 (cel a) (cel b) is).run Try.prog w = .ok (decide (∀ i ∈ is, byt a i = byt b i)) w
  | [], _ => by simp [Op.eqItems]
  | i :: is, h => by
    have hp : Try.prog.plainKey 5 = true := by kernel_rfl
    obtain ⟨h1, h2⟩ := h i (by simp)
    have p1 := run_part_plain (P := Try.prog) w hp (off := i * 1) (by rw [Nat.mul_one]; exact cel_get a h1)
    have p2 := run_part_plain (P := Try.prog) w hp (off := i * 1) (by rw [Nat.mul_one]; exact cel_get b h2)
    have p3 := run_equalIn_int w d 5 .u8 .u8 (byt a i) (byt b i) Try.underlying5
    have ih := items_eq a b d w is (fun j hj => h j (by simp [hj]))
    simp only [Op.eqItems, Sem.run_bind, p1, p2, p3, Result.andThen_ok]
    by_cases he : byt a i = byt b i
    · simp [he, ih]
    · simp [he]
theorem same_bytes {a b : List UInt8} (ha : a.length = 16) (hb : b.length = 16) : (∀ i ∈ List.range 16, byt a i = byt b i) ↔ a = b := by
  constructor
  · intro h
    refine List.ext_getElem (by omega) fun i h1 h2 => ?_
    exact (byt_eq h1 h2).1 (h i (by simp; omega))
  · rintro rfl i _; rfl
set_option maxRecDepth 100000 in
theorem six_eq (a b : List UInt8) (ha : a.length = 16) (hb : b.length = 16) (w : World) :
    (Op.equalIn 10000 23 (.agg (cel a)) (.agg (cel b))).run Try.prog w = .ok (decide (a = b)) w := by
  have hi : ∃ i, Try.prog.info? 5 = some i := Option.isSome_iff_exists.1 (by kernel_rfl)
  obtain ⟨i, hi⟩ := hi
  have hc : Try.prog.cellsOf 5 = 1 := by kernel_rfl
  rw [show (10000 : Nat) = 9998 + 1 + 1 from rfl, run_equalIn_array w 9999 (cel a) (cel b) Try.underlying23 hi, hc, items_eq a b 9998 w _ (by simp; omega)]
  congr 1
  rw [decide_eq_decide]
  exact same_bytes ha hb

theorem six_nul (a : List UInt8) (ha : a.length = 16) (w : World) :
    (Op.equalIn 10000 23 (.agg (cel a)) (.agg #[.int .u8 0, .int .u8 0, .int .u8 0, .int .u8 0, .int .u8 0, .int .u8 0, .int .u8 0, .int .u8 0, .int .u8 0, .int .u8 0, .int .u8 0, .int .u8 0, .int .u8 0, .int .u8 0, .int .u8 0, .int .u8 0])).run Try.prog w = .ok (decide (a = nul)) w := six_eq a nul ha rfl w
/-- A whole address is read out of a block of its own. -/
theorem six_load {ops : Array Oper} {rest : List Oper} {d : Tmp} {x : Operand} {ty : TypeId} {pos : String} {af : Array Edge} {a : Act} {w : World} {Q : Exit → Act → World → Prop}
    {g : Nat} {t : TypeId} {cs : List UInt8} {fr : Nat × Nat} (hx : a.eval x = .pointer (some ⟨g, 0, none⟩)) (hg : w.heap[g]? = some (.cells (cel cs) t fr)) (hl : cs.length = 16)
    (h : wpList Try.prog ops Q rest (a.put (some d) (.agg (cel cs))) w) : wpList Try.prog ops Q (⟨some d, .load 23 x, ty, pos, af, none⟩ :: rest) a w :=
  wpList_load_row rfl 23 x rfl g hx t (cel cs) fr _ hg Try.underlying23 rfl (by rw [cel_size, hl]; kernel_rfl) h
/-- A whole address is stored into a block of its own. -/
theorem six_store {ops : Array Oper} {rest : List Oper} {x y : Operand} {ty : TypeId} {pos : String} {af : Array Edge} {a : Act} {w : World} {Q : Exit → Act → World → Prop}
    {g : Nat} {t : TypeId} {cs : List UInt8} {old : Array Value} (hx : a.eval x = .pointer (some ⟨g, 0, none⟩)) (hy : a.eval y = .agg (cel cs)) (hg : w.heap[g]? = some (.cells old t (0, 0))) (ho : old.size = 16) (hl : cs.length = 16)
    (h : wpList Try.prog ops Q rest (a.put none undef) (w.setRow g (cel cs))) : wpList Try.prog ops Q (⟨none, .store 23 x y, ty, pos, af, none⟩ :: rest) a w :=
  wpList_plain rfl fun _ hK => wp_store_row 23 x y rfl g (cel cs) hx hy t old hg (by rw [cel_size, hl]; kernel_rfl) (by rw [ho, cel_size, hl])
    (Array.all_eq_true_iff_forall_mem.2 fun v hv => row_one cs v (by simpa [cel] using hv)) (hK _ _ h)
/-- A whole address is stored into the block that was made last. -/
theorem six_store_new {ops : Array Oper} {rest : List Oper} {x y : Operand} {ty : TypeId} {pos : String} {af : Array Edge} {a : Act} {w : World} {Q : Exit → Act → World → Prop}
    {t : TypeId} {cs : List UInt8} {old : Array Value} (hx : a.eval x = .pointer (some ⟨w.heap.size, 0, none⟩)) (hy : a.eval y = .agg (cel cs)) (ho : old.size = 16) (hl : cs.length = 16)
    (h : wpList Try.prog ops Q rest (a.put none undef) (w.alloc (.cells (cel cs) t))) : wpList Try.prog ops Q (⟨none, .store 23 x y, ty, pos, af, none⟩ :: rest) a (w.alloc (.cells old t)) :=
  six_store hx hy (World.alloc_heap_new w _) ho hl (by rw [World.setRow_alloc_new]; exact h)
/-- One result, an address in a block of its own. -/
theorem six_result {fn : Func} {p : Tmp} {tmps : Array Value} {w : World} {g : Nat} {t : TypeId} {cs : List UInt8} {fr : Nat × Nat} (h : fn.results = #[.cell p 23])
    (hp : tmps.getD p undef = .pointer (some ⟨g, 0, none⟩)) (hg : w.heap[g]? = some (.cells (cel cs) t fr)) (hl : cs.length = 16) : (results fn tmps).run Try.prog w = .ok (.agg (cel cs)) w :=
  results_cell_row h tmps w g t (cel cs) fr _ hp hg Try.underlying23 rfl (by rw [cel_size, hl]; kernel_rfl)
/-- Two results: an address in a block of its own, and a slot. -/
theorem six_result2 {fn : Func} {p q : Tmp} {tmps : Array Value} {w : World} {g : Nat} {t : TypeId} {cs : List UInt8} {fr : Nat × Nat} (h : fn.results = #[.cell p 23, .tmp q])
    (hp : tmps.getD p undef = .pointer (some ⟨g, 0, none⟩)) (hg : w.heap[g]? = some (.cells (cel cs) t fr)) (hl : cs.length = 16) :
    (results fn tmps).run Try.prog w = .ok (.tuple #[.agg (cel cs), tmps.getD q undef]) w := by
  have hp' : tmps[p]?.getD undef = .pointer (some ⟨g, 0, none⟩) := by simpa using hp
  have hr := run_loadVar_row (P := Try.prog) w g t 23 (cel cs) fr _ hg Try.underlying23 rfl (by rw [cel_size, hl]; kernel_rfl)
  simp [results, h, hp', asAddr, hr]
end Go.Proofs.Ytkfbamippjhjcaa

/-
  Packets of IPv6 in a block of their own; laws for loads out of it. Conditions are each theorem's own.
-/
namespace Go.Proofs.Ytkfbamippjhjcaa
open Go.RowKit

def v6a (q : P6) (A : Option Addr) (c : Nat) : Array Value := (v6l q A c).toArray
def At6 (W : World) (g : Nat) (q : P6) (A : Option Addr) (c : Nat) : Prop := W.rangeAt g 0 (v6l q A c)
section
variable {W : World} {g : Nat} {q : P6} {A : Option Addr} {c : Nat}
theorem At6.new (w : World) : At6 (w.alloc (.cells (v6a q A c) 26)) w.heap.size q A c := fun j v hj => by
  rw [Nat.zero_add, World.cell?_alloc_new, v6a, List.getElem?_toArray, ← hj]
theorem At6.below {w : World} {B : Nat} (h : At6 W g q A c) (hb : Below B W w) (hg : g < B) : At6 w g q A c := range_below h hg hb
theorem At6.traffic (h : At6 W g q A c) : W.cell? ⟨g, 0, none⟩ = some (.int .i64 q.traffic) := h 0 _ rfl
theorem At6.flow (h : At6 W g q A c) : W.cell? ⟨g, 1, none⟩ = some (.int .i64 q.flow) := h 1 _ rfl
theorem At6.next (h : At6 W g q A c) : W.cell? ⟨g, 2, none⟩ = some (.int .i64 q.next) := h 2 _ rfl
theorem At6.hop (h : At6 W g q A c) : W.cell? ⟨g, 3, none⟩ = some (.int .i64 q.hop) := h 3 _ rfl
theorem v6l_src (j : Nat) (v : Value) (hj : (row q.src)[j]? = some v) : (v6l q A c)[4 + j]? = some v := by
  have hl : j < (row q.src).length := (List.getElem?_eq_some_iff.1 hj).1
  rw [v6l, List.append_assoc, List.append_assoc, List.getElem?_append_right (by simp)]
  rw [show 4 + j - [Value.int .i64 q.traffic, .int .i64 q.flow, .int .i64 q.next, .int .i64 q.hop].length = j from by simp]
  rw [List.getElem?_append_left hl]; exact hj
theorem v6l_dst (hs : q.src.length = 16) (j : Nat) (v : Value) (hj : (row q.dst)[j]? = some v) : (v6l q A c)[20 + j]? = some v := by
  have hl : j < (row q.dst).length := (List.getElem?_eq_some_iff.1 hj).1
  have e : ([Value.int .i64 q.traffic, .int .i64 q.flow, .int .i64 q.next, .int .i64 q.hop] ++ row q.src).length = 20 := by simp [row_length, hs]
  rw [v6l, List.append_assoc, List.getElem?_append_right (by rw [e]; omega), e, show 20 + j - 20 = j from by omega, List.getElem?_append_left hl]; exact hj
theorem v6l_dat (hs : q.src.length = 16) (hd : q.dst.length = 16) : (v6l q A c)[36]? = some (.slice A q.dat.length c) := by
  have e : ([Value.int .i64 q.traffic, .int .i64 q.flow, .int .i64 q.next, .int .i64 q.hop] ++ row q.src ++ row q.dst).length = 36 := by simp [row_length, hs, hd]
  rw [v6l, List.getElem?_append_right (by rw [e]; omega), e]; rfl
theorem v6l_len (hs : q.src.length = 16) (hd : q.dst.length = 16) : (v6l q A c).length = 37 := by simp [v6l, row_length, hs, hd]
theorem At6.src (h : At6 W g q A c) : W.rangeAt g 4 (row q.src) := fun j v hj => by
  have := h (4 + j) v (v6l_src j v hj); rwa [Nat.zero_add] at this
theorem At6.dst (h : At6 W g q A c) (hs : q.src.length = 16) : W.rangeAt g 20 (row q.dst) := fun j v hj => by
  have := h (20 + j) v (v6l_dst hs j v hj); rwa [Nat.zero_add] at this
theorem At6.dat (h : At6 W g q A c) (hs : q.src.length = 16) (hd : q.dst.length = 16) : W.cell? ⟨g, 36, none⟩ = some (.slice A q.dat.length c) := h 36 _ (v6l_dat hs hd)
end
theorem run_load_v6 {o : Oper} {a : Act} {w : World} {x : Operand} {g : Nat} {cs : List Value} (ho : o.op = .load 26 x) (hx : a.eval x = .pointer (some ⟨g, 0, none⟩)) (hr : w.rangeAt g 0 cs) (hl : cs.length = 37) :
    (execOp a.eval o).run Try.prog w = .ok (.value (.agg cs.toArray)) w := by
  have h := run_loadVar_mid (P := Try.prog) w g 0 26 cs _ hr Try.underlying26 rfl (by rw [hl]; kernel_rfl)
  unfold execOp
  simp only [ho, hx, Instr.loadAt, Instr.sureAddr, Sem.run_bind, Sem.run_pure, Result.andThen_ok, h]
theorem run_load_six {o : Oper} {a : Act} {w : World} {x : Operand} {g i : Nat} {cs : List UInt8} (ho : o.op = .load 23 x) (hx : a.eval x = .pointer (some ⟨g, i, none⟩)) (hr : w.rangeAt g i (row cs)) (hl : cs.length = 16) :
    (execOp a.eval o).run Try.prog w = .ok (.value (.agg (cel cs))) w := by
  have h := run_loadVar_mid (P := Try.prog) w g i 23 (row cs) _ hr Try.underlying23 rfl (by rw [row_length, hl]; kernel_rfl)
  unfold execOp
  simp only [ho, hx, Instr.loadAt, Instr.sureAddr, Sem.run_bind, Sem.run_pure, Result.andThen_ok, h, cel]
/-- An operation that yields a value and is wanted. -/
theorem wpList_valg {P : Program} {ops : Array Oper} {rest : List Oper} {o : Oper} {a : Act} {w : World} {Q : Exit → Act → World → Prop} {v : Value} (hw : Region.wanted o (yielded ops a.tmps) = true) (hrun : (execOp a.eval o).run P w = .ok (.value v) w)
    (h : wpList P ops Q rest (a.put o.dst v) w) : wpList P ops Q (o :: rest) a w :=
  wpList_step fun K hK => by rw [if_pos hw]; unfold Oper.wp; rw [hrun]; exact hK _ _ h
def flowB (q : P6) : Bool := decide (0 ≤ q.flow) && decide (q.flow < 1048576)
theorem arg6_iff (q : P6) : arg6 q ↔ (fitsB q.traffic 1 = true ∧ fitsB q.next 1 = true ∧ fitsB q.hop 1 = true ∧ flowB q = true) := by
  unfold arg6 flowB
  simp only [Bool.and_eq_true, fitsB_iff, decide_eq_true_eq, pw]
  constructor
  · rintro ⟨a1, a2, a3, a4, a5, a6, a7, a8⟩
    refine ⟨⟨?_, ?_, ?_, ?_⟩, ⟨?_, ?_, ?_, ?_⟩, ⟨?_, ?_, ?_, ?_⟩, ?_, ?_⟩ <;> (try simp) <;> omega
  · rintro ⟨⟨_, _, f1, f2⟩, ⟨_, _, g1, g2⟩, ⟨_, _, h1, h2⟩, m1, m2⟩
    simp at f2 g2 h2
    refine ⟨?_, ?_, ?_, ?_, ?_, ?_, ?_, ?_⟩ <;> omega
section
variable (q : P6) (A : Option Addr) (c : Nat) (w : World)
theorem c6size (hs : q.src.length = 16) (hd : q.dst.length = 16) (hl : q.dat.length ≤ 1000000) : Calls Try.prog 34 #[v6v q A c] w fun e w' => e = .returned (.int .i64 (size6 q)) ∧ Below w.heap.size w w' := by
  have hB : Below w.heap.size w (w.alloc (.cells (v6a q A c) 26)) := (Below.refl w.heap.size w).alloc (Nat.le_refl _) _
  have k := (At6.new (q := q) (A := A) (c := c) w).dat hs hd
  unfold v6v size6
  rw [show (v6l q A c).toArray = v6a q A c from rfl]
  go_enter Try.func34, Try.ntmps34
  go_wp2_with fail
  go_ret
  exact ⟨rfl, hB⟩
end
end Go.Proofs.Ytkfbamippjhjcaa
