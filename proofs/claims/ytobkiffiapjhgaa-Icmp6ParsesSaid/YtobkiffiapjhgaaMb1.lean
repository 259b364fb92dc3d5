/-
  Contracts and lemmas on which the proofs of this seat stand (several texts in one). Conditions are each theorem's own.
-/
import Derived.Test.YtobkiffiapjhgaaMa8

/-
  Contracts of layer 10's Pseudo and pseudo, the program's and the document's. Conditions are each theorem's own.
-/
namespace Go.Proofs.Ytobkiffiapjhgaa
open Go.RowKit

theorem concat_two (A : Option Addr) (a b : List UInt8) (c B : Nat) (R : List UInt8) (hR : Hid (R = a ++ b)) (w : World) (h : Rd2 w B A [a, b]) (hB : B ≤ w.heap.size) (h0 : 0 < a.length) (hl : a.length + b.length ≤ 1000000) :
    Calls Try.prog 53 #[.slice A 2 c] w fun e w' => ∃ v, e = .returned v ∧ Made w w' v R := by
  have h1 := concat_any A [a, b] c B w h hB (by rw [bulk2]; omega) (by rw [bulk2]; omega) (by simp) (by simp)
  have e : [a, b].flatten = R := by rw [hR.out]; simp
  rw [e] at h1
  exact h1
theorem arg_four (W : World) (t : TypeId) (x : UInt8) {m : Int} (h : m = (x.toNat : Int)) : Arg (W.alloc (.cells #[.int .u8 0, .int .u8 0, .int .u8 0, .int .u8 m] t)) (W.heap.size + 1) (some ⟨W.heap.size, 0, none⟩) 4 [u8 0, u8 0, u8 0, x] :=
  ⟨Rd.of_block (World.alloc_heap_new W _) (Nat.lt_succ_self _) 0 (fun j hj => by
    have : j = 0 ∨ j = 1 ∨ j = 2 ∨ j = 3 := by have := hj; simp at this; omega
    rcases this with rfl | rfl | rfl | rfl
    · rfl
    · rfl
    · rfl
    · subst h; rfl), by simp, fun e => by cases e⟩
theorem arg_six {w : World} {g B : Nat} {a : List UInt8} (h : w.rangeAt g 0 (row a)) (hg : g < B) (hl : a.length = 16) : Arg w B (some ⟨g, 0, none⟩) 16 a :=
  ⟨Rd.of_range h hg, by rw [hl]; exact Nat.le_refl _, fun e => by cases e⟩
theorem range_new (w : World) (a : List UInt8) (t : TypeId) : (w.alloc (.cells (cel a) t)).rangeAt w.heap.size 0 (row a) := fun j v hj => by
  rw [Nat.zero_add, World.cell?_alloc_new, cel, List.getElem?_toArray]; exact hj
theorem six_first (w : World) (cs ds : Array Value) (t : TypeId) (a : List UInt8) (h : cs = cel a) : ((w.alloc (.cells cs t)).alloc (.cells ds t)).rangeAt w.heap.size 0 (row a) := by
  subst h
  exact range_below (range_new w a t) (B := w.heap.size + 1) (by omega) ((Below.refl (w.heap.size + 1) _).alloc (by simp) _)
theorem six_second (w : World) (cs ds : Array Value) (t : TypeId) (a : List UInt8) (h : ds = cel a) : ((w.alloc (.cells cs t)).alloc (.cells ds t)).rangeAt (w.heap.size + 1) 0 (row a) := by
  subst h
  have := range_new (w.alloc (.cells cs t)) a t
  rwa [show (w.alloc (.cells cs t)).heap.size = w.heap.size + 1 from by simp] at this
theorem rmodJ_any (n m : Int) (w : World) (hm : m = 4294967296 ∨ m = 65536 ∨ m = 256) :
    Calls Try.prog 55 #[.int .i64 n, .int .i64 m] w fun e w' => e = .returned (.int .i64 (n % m)) ∧ w = w' := by
  have hv := Lib.hid (fun h0 h1 => mod_val n m h0 h1)
  rcases hm with rfl | rfl | rfl
  all_goals
    go_enter Try.func55, Try.ntmps55
    go_wp2_with fail
    go_ret
    exact ⟨ret_int (hv.out (by decide) (by decide)), rfl⟩
section
variable (src dst : List UInt8) (w : World)
set_option maxRecDepth 100000 in
set_option maxHeartbeats 2000000 in
theorem cJpsd (next size : Int) (h1 : src.length = 16) (h2 : dst.length = 16) :
    Calls Try.prog 31 #[.agg (cel src), .agg (cel dst), .int .i64 next, .int .i64 size] w fun e w' => ∃ v, e = .returned v ∧ Made w w' v (psJ src dst next size) := by
  have hB : Below w.heap.size w ((w.alloc (.cells (cel src) 41)).alloc (.cells (cel dst) 41)) := below_two w _ _
  have at0 := six_first w (cel src) (cel dst) 41 src rfl
  have at1 := six_second w (cel src) (cel dst) 41 dst rfl
  have hz : w.heap.size + 1 < ((w.alloc (.cells (cel src) 41)).alloc (.cells (cel dst) 41)).heap.size := by simp
  obtain ⟨SD, hSD⟩ : ∃ l, l = src ++ dst := ⟨_, rfl⟩
  obtain ⟨L1, hL1⟩ : ∃ l, l = SD ++ be4 size := ⟨_, rfl⟩
  obtain ⟨R, hR⟩ : ∃ l, l = psJ src dst next size := ⟨_, rfl⟩
  have H0 := Lib.hid hSD
  have H1 := Lib.hid (show putB SD (size % 4294967296) 4 = L1 by rw [putm_four, hL1])
  have H2 := Lib.hid (show R = L1 ++ [u8 0, u8 0, u8 0, u8 next] by rw [hR, hL1, hSD]; rfl)
  have l0 := Lib.hid (show SD.length = 32 by rw [hSD, List.length_append, h1, h2])
  have l1 := Lib.hid (show L1.length = 36 by rw [hL1, List.length_append, hSD, List.length_append, h1, h2]; rfl)
  have HM := Lib.hid (show bits .and .i64 size 4294967295 = size % 4294967296 from and_any 32 size (by decide))
  have hn : next % 256 = ((u8 next).toNat : Int) := by rw [u8_val]
  have h4 : ∀ W : World, Arg (W.alloc (.cells #[.int .u8 0, .int .u8 0, .int .u8 0, .int .u8 (next % 256)] 5)) (W.heap.size + 1) (some ⟨W.heap.size, 0, none⟩) 4 [u8 0, u8 0, u8 0, u8 next] := fun W => arg_four W 5 (u8 next) hn
  rw [← hR]
  clear hSD hL1 hR hn
  go_enter Try.func31, Try.ntmps31
  go_upto_region 1 with fail
  generalize (w.alloc (.cells (cel src) 41)).alloc (.cells (cel dst) 41) = W at *
  refine wp_region_held_drew (S := fun w' => Below W.heap.size W w') (by kernel_rfl) (Below.refl _ W).drew (fun hS => ?_)
  refine held_pure (i := 0) (oi := ⟨some 10, _, _, _, _, _⟩) rfl (by kernel_rfl) (by kernel_rfl) (by kernel_rfl) (fun _ _ _ h => h) (by rfl) (fun w hSw => run_slice_six rfl rfl) hS (fun hS => ?_)
  try go_frame
  refine held_pure (i := 1) (oi := ⟨some 11, _, _, _, _, _⟩) rfl (by kernel_rfl) (by kernel_rfl) (by kernel_rfl) (fun _ _ _ h => h) (by rfl) (fun w hSw => run_slice_six rfl rfl) hS (fun hS => ?_)
  try go_frame
  refine held_pure (i := 4) (oi := ⟨some 14, _, _, _, _, _⟩) rfl (by kernel_rfl) (by kernel_rfl) (by kernel_rfl) (fun _ _ _ h => h) (by rfl) (v := ?_) (fun w hSw => ?_) hS (fun hS => ?_)
  rotate_left
  · go_simp; try with_reducible rfl
  try go_frame
  refine held_pure (i := 5) (oi := ⟨some 15, _, _, _, _, _⟩) rfl (by kernel_rfl) (by kernel_rfl) (by kernel_rfl) (fun _ _ _ h => h) (by rfl) (v := .int .i64 (size % 4294967296)) (fun w hSw => by go_simp; exact HM.out) hS (fun hS => ?_)
  try go_frame
  refine wpAnyH_ready (rs := [2]) (by kernel_rfl) (by simp) (AllReadyH.cons (o := ⟨some 12, _, _, _, _, _⟩) rfl (fun K hK => ?_) AllReadyH.nil)
  rw [if_pos (by rfl)]
  go_simp
  refine hK.out _ _ (hS.alloc hS.size _) (fun hS => ?_)
  clear hK K
  try go_frame
  refine wpAnyH_ready (rs := [3]) (by kernel_rfl) (by simp) (AllReadyH.cons (o := ⟨some 13, _, _, _, _, _⟩) rfl (fun K hK => ?_) AllReadyH.nil)
  rw [if_pos (by rfl)]
  go_simp
  refine (concat_two (some ⟨W.heap.size, 0, none⟩) src dst 2 (W.heap.size + 1) SD H0 (W.alloc (.cells #[.slice (some ⟨w.heap.size, 0, none⟩) 16 16, .slice (some ⟨w.heap.size + 1, 0, none⟩) 16 16] 22)).drew (Rd2.two (n0 := 16) (n1 := 16) h1.symm h2.symm (World.alloc_heap_new _ _) (Nat.lt_succ_self _) (arg_six (range_below at0 (B := W.heap.size) (by omega) ((Below.refl _ W).alloc (Nat.le_refl _) _).drew) (by omega) h1) (arg_six (range_below at1 (B := W.heap.size) (by omega) ((Below.refl _ W).alloc (Nat.le_refl _) _).drew) (by omega) h2)) (by simp) (by omega) (by omega)).mono ?_
  rintro e w3 ⟨v3, rfl, m3⟩
  obtain ⟨A3, c3, rfl, g3, o3, x3⟩ := made_shape m3
  have hS3 := hS
  show K _ _
  refine hK.out _ _ (below_step hS x3) (fun hS => ?_)
  clear hK K
  try go_frame
  refine wpAnyH_ready (rs := [6]) (by kernel_rfl) (by simp) (AllReadyH.cons (o := ⟨some 16, _, _, _, _, _⟩) rfl (fun K hK => ?_) AllReadyH.nil)
  rw [if_pos (by rfl)]
  go_simp
  refine (put_any A3 SD c3 _ (size % 4294967296) 4 _ g3.rd (by have := hS.size; omega) (by have := l0.out; omega)).mono ?_
  rintro e w6 ⟨v6, rfl, m6⟩
  rw [H1.out] at m6
  obtain ⟨A6, c6, rfl, g6, o6, x6⟩ := made_shape m6
  show K _ _
  refine hK.out _ _ (below_step hS x6) (fun hS => ?_)
  clear hK K
  try go_frame
  refine held_pure (i := 7) (oi := ⟨some 9, _, _, _, _, _⟩) rfl (by kernel_rfl) (by kernel_rfl) (by kernel_rfl) (fun _ _ _ h => h) (by rfl) (v := ?_) (fun w hSw => ?_) hS (fun hS => ?_)
  rotate_left
  · go_simp; try with_reducible rfl
  try go_frame
  refine wpAnyH_done (by kernel_rfl) ?_ _
  go_wp2_with (at_builtin; go_loud (refine append_rd rfl _ _ rfl w3.heap.size _ _ _ rfl (o6.alloc _) (w6.heap.size + 1) (some ⟨w6.heap.size, 0, none⟩) 4 [u8 0, u8 0, u8 0, u8 next] rfl (fun e => by cases e) (h4 _).rd (by have := l1.out; simp; omega) (by have := x6.size; simp; omega) ?_; intro v8 w8 own8 grow8; obtain ⟨A8, c8, rfl, owm8⟩ := own_made (bs := R) own8 (by rw [H2.out]; simp) (by rw [H2.out, row_append])))
  go_ret
  have zz := x6.size
  have zS := hS.size
  have x8 : Below W.heap.size W w8 := (hS.alloc hS.size _).grown grow8 (by simp; omega) (fun k hk => by have := own_block_ge o6 k hk; have := hS3.size; have := x3.size; omega)
  exact ⟨_, rfl, Made.of_own (own_base owm8 (by have := hS3.size; have := x3.size; omega)) (hB.trans (x8.mono (by omega)))⟩
set_option maxRecDepth 100000 in
set_option maxHeartbeats 2000000 in
theorem rJpsd (next size : Int) (h1 : src.length = 16) (h2 : dst.length = 16) :
    Calls Try.prog 32 #[.agg (cel src), .agg (cel dst), .int .i64 next, .int .i64 size] w fun e w' => ∃ v, e = .returned v ∧ Made w w' v (psJ src dst next size) := by
  have hB : Below w.heap.size w ((w.alloc (.cells (cel src) 41)).alloc (.cells (cel dst) 41)) := below_two w _ _
  have at0 := six_first w (cel src) (cel dst) 41 src rfl
  have at1 := six_second w (cel src) (cel dst) 41 dst rfl
  have hz : w.heap.size + 1 < ((w.alloc (.cells (cel src) 41)).alloc (.cells (cel dst) 41)).heap.size := by simp
  obtain ⟨SD, hSD⟩ : ∃ l, l = src ++ dst := ⟨_, rfl⟩
  obtain ⟨L1, hL1⟩ : ∃ l, l = SD ++ be4 size := ⟨_, rfl⟩
  obtain ⟨R, hR⟩ : ∃ l, l = psJ src dst next size := ⟨_, rfl⟩
  have H0 := Lib.hid hSD
  have H1 := Lib.hid (show putB SD (size % 4294967296) 4 = L1 by rw [putm_four, hL1])
  have H2 := Lib.hid (show R = L1 ++ [u8 0, u8 0, u8 0, u8 next] by rw [hR, hL1, hSD]; rfl)
  have l0 := Lib.hid (show SD.length = 32 by rw [hSD, List.length_append, h1, h2])
  have l1 := Lib.hid (show L1.length = 36 by rw [hL1, List.length_append, hSD, List.length_append, h1, h2]; rfl)
  have HM := Lib.hid (show bits .and .i64 size 4294967295 = size % 4294967296 from and_any 32 size (by decide))
  have hn : next % 256 = ((u8 next).toNat : Int) := by rw [u8_val]
  have h4 : ∀ W : World, Arg (W.alloc (.cells #[.int .u8 0, .int .u8 0, .int .u8 0, .int .u8 (next % 256)] 5)) (W.heap.size + 1) (some ⟨W.heap.size, 0, none⟩) 4 [u8 0, u8 0, u8 0, u8 next] := fun W => arg_four W 5 (u8 next) hn
  rw [← hR]
  clear hSD hL1 hR hn
  go_enter Try.func32, Try.ntmps32
  go_upto_region 1 with fail
  generalize (w.alloc (.cells (cel src) 41)).alloc (.cells (cel dst) 41) = W at *
  refine wp_region_held_drew (S := fun w' => Below W.heap.size W w') (by kernel_rfl) (Below.refl _ W).drew (fun hS => ?_)
  refine held_pure (i := 0) (oi := ⟨some 10, _, _, _, _, _⟩) rfl (by kernel_rfl) (by kernel_rfl) (by kernel_rfl) (fun _ _ _ h => h) (by rfl) (fun w hSw => run_slice_six rfl rfl) hS (fun hS => ?_)
  try go_frame
  refine held_pure (i := 2) (oi := ⟨some 12, _, _, _, _, _⟩) rfl (by kernel_rfl) (by kernel_rfl) (by kernel_rfl) (fun _ _ _ h => h) (by rfl) (fun w hSw => run_slice_six rfl rfl) hS (fun hS => ?_)
  try go_frame
  refine wpAnyH_ready (rs := [1]) (by kernel_rfl) (by simp) (AllReadyH.cons (o := ⟨some 11, _, _, _, _, _⟩) rfl (fun K hK => ?_) AllReadyH.nil)
  rw [if_pos (by rfl)]
  refine append_wp _ _ rfl W.heap.size (.slice none 0 0) 0 [] rfl (World.ownsRow_nil _ _ _ _) (W.heap.size) (some ⟨w.heap.size, 0, none⟩) 16 src (by rw [h1]; rfl) (fun e => by cases e) (Rd.of_range (range_below at0 (B := W.heap.size) (by omega) hS) (by omega)) (by omega) hS.size ?_
  intro v1 y1 own1 grow1
  obtain ⟨P1, p1, rfl, owm1⟩ := own_made (bs := src) own1 (by simp)  (by simp)
  refine hK.out _ _ (hS.grown grow1 hS.size (fun k hk => by cases hk)) (fun hS => ?_)
  clear hK K
  try go_frame
  refine wpAnyH_ready (rs := [3]) (by kernel_rfl) (by simp) (AllReadyH.cons (o := ⟨some 13, _, _, _, _, _⟩) rfl (fun K hK => ?_) AllReadyH.nil)
  rw [if_pos (by rfl)]
  refine append_wp _ _ rfl W.heap.size (.slice P1 src.length p1) src.length (row src) rfl owm1 (W.heap.size) (some ⟨w.heap.size + 1, 0, none⟩) 16 dst (by rw [h2]; rfl) (fun e => by cases e) (Rd.of_range (range_below at1 (B := W.heap.size) (by omega) hS) (by omega)) (by omega) hS.size ?_
  intro v3 y3 own3 grow3
  obtain ⟨P3, p3, rfl, owm3⟩ := own_made (bs := SD) own3 (by rw [H0.out]; simp) (by rw [H0.out, row_append])
  refine hK.out _ _ (hS.grown grow3 hS.size (fun k hk => own_block_ge owm1 k hk)) (fun hS => ?_)
  clear hK K
  try go_frame
  refine held_pure (i := 4) (oi := ⟨some 9, _, _, _, _, _⟩) rfl (by kernel_rfl) (by kernel_rfl) (by kernel_rfl) (fun _ _ _ h => h) (by rfl) (v := ?_) (fun w hSw => ?_) hS (fun hS => ?_)
  rotate_left
  · go_simp; try with_reducible rfl
  try go_frame
  refine wpAnyH_done (by kernel_rfl) ?_ _
  have zS0 := hS.size
  go_upto_region 3 with (first
    | (go_at_call 55; refine (rmodJ_any size 4294967296 _ (.inl rfl)).mono ?_; rintro e w' ⟨rfl, rfl⟩)
    | (go_at_call 54; refine (rput_any P3 SD p3 y3.heap.size (size % 4294967296) 4 _ (arg_own owm3) (by have := l0.out; omega)).mono ?_; rintro e w6 ⟨v6, rfl, m6⟩; rw [H1.out] at m6; obtain ⟨A6, c6, rfl, g6, o6, x6⟩ := made_shape m6))
  have hS := hS.trans (x6.mono zS0)
  go_wp2_with (first
    | (go_at_call 55; refine (rmodJ_any next 256 _ (.inr (.inr rfl))).mono ?_; rintro e w' ⟨rfl, rfl⟩)
    | (at_builtin; go_loud (refine append_rd rfl _ _ rfl y3.heap.size _ _ _ rfl (o6.alloc _) (w6.heap.size + 1) (some ⟨w6.heap.size, 0, none⟩) 4 [u8 0, u8 0, u8 0, u8 next] rfl (fun e => by cases e) (h4 _).rd (by have := l1.out; simp; omega) (by have := x6.size; simp; omega) ?_; intro v8 w8 own8 grow8; obtain ⟨A8, c8, rfl, owm8⟩ := own_made (bs := R) own8 (by rw [H2.out]; simp) (by rw [H2.out, row_append]))))
  go_ret
  have zz := x6.size
  have zS := hS.size
  have x8 : Below W.heap.size W w8 := (hS.alloc hS.size _).grown grow8 (by simp; omega) (fun k hk => by have := own_block_ge o6 k hk; omega)
  exact ⟨_, rfl, Made.of_own (own_base owm8 (by omega)) (hB.trans (x8.mono (by omega)))⟩
end
end Go.Proofs.Ytobkiffiapjhgaa

/-
  Contracts of layer 10's pseudo and Build, the program's and the document's. Conditions are each theorem's own.
-/
namespace Go.Proofs.Ytobkiffiapjhgaa
open Go.RowKit

section
variable (src dst : List UInt8) (w : World)
set_option maxRecDepth 100000 in
set_option maxHeartbeats 1000000 in
theorem cJpre (b : List UInt8) (A : Option Addr) (c : Nat) (h1 : src.length = 16) (h2 : dst.length = 16) :
    Calls Try.prog 51 #[.agg (cel src), .agg (cel dst), .slice A b.length c] w fun e w' => ∃ v, e = .returned v ∧ Made w w' v (preJ src dst b) := by
  have hB : Below w.heap.size w ((w.alloc (.cells (cel src) 41)).alloc (.cells (cel dst) 41)) := below_two w _ _
  have at0 := six_first w (cel src) (cel dst) 41 src rfl
  have at1 := six_second w (cel src) (cel dst) 41 dst rfl
  have hz : w.heap.size + 1 < ((w.alloc (.cells (cel src) 41)).alloc (.cells (cel dst) 41)).heap.size := by simp
  go_enter Try.func51, Try.ntmps51
  go_upto_region 1 with fail
  generalize (w.alloc (.cells (cel src) 41)).alloc (.cells (cel dst) 41) = W at *
  go_wp2_with (first
    | ((with_reducible show wpList _ _ _ (Oper.mk (some 7) (Op.load 41 _) _ _ _ _ :: _) _ _); refine wpList_val rfl (run_load_six rfl rfl at0 h1) ?_)
    | ((with_reducible show wpList _ _ _ (Oper.mk (some 8) (Op.load 41 _) _ _ _ _ :: _) _ _); refine wpList_val rfl (run_load_six rfl rfl at1 h2) ?_)
    | (go_at_call 31; refine (cJpsd src dst _ 58 (b.length : Int) h1 h2).mono ?_; rintro e w1 ⟨v1, rfl, m1⟩))
  go_ret
  exact ⟨v1, rfl, m1.after hB⟩
variable (q : PI) (A : Option Addr) (c : Nat)
set_option maxRecDepth 100000 in
set_option maxHeartbeats 2000000 in
theorem cJbuild (B : Nat) (hD : Arg w B A c q.dat) (hB0 : B ≤ w.heap.size) (hl : q.dat.length ≤ 1000000) (h1 : src.length = 16) (h2 : dst.length = 16) :
    Calls Try.prog 29 #[.agg (cel src), .agg (cel dst), isv q A c] w fun e w' => ∃ v, e = .returned (.tuple #[v, .int .i64 (chkI q)]) ∧ (chkI q ≠ 0 → v = .slice none 0 0 ∧ Below w.heap.size w w') ∧ (chkI q = 0 → Made w w' v (bldJ src dst q)) := by
  have hB : Below w.heap.size w (((w.alloc (.cells (cel src) 41)).alloc (.cells (cel dst) 41)).alloc (.cells (isa q A c) 24)) := (below_two w _ _).alloc (by simp; omega) _
  have b3 : Below (w.heap.size + 2) ((w.alloc (.cells (cel src) 41)).alloc (.cells (cel dst) 41)) (((w.alloc (.cells (cel src) 41)).alloc (.cells (cel dst) 41)).alloc (.cells (isa q A c) 24)) := (Below.refl _ _).alloc (by simp) _
  have at0 := range_below (six_first w (cel src) (cel dst) 41 src rfl) (by omega) b3
  have at1 := range_below (six_second w (cel src) (cel dst) 41 dst rfl) (by omega) b3
  have hAt : Atis (((w.alloc (.cells (cel src) 41)).alloc (.cells (cel dst) 41)).alloc (.cells (isa q A c) 24)) (w.heap.size + 2) q A c := by
    have := Atis.new (q := q) (A := A) (c := c) ((w.alloc (.cells (cel src) 41)).alloc (.cells (cel dst) 41))
    rwa [show ((w.alloc (.cells (cel src) 41)).alloc (.cells (cel dst) 41)).heap.size = w.heap.size + 2 from by simp] at this
  have hz : w.heap.size + 2 < (((w.alloc (.cells (cel src) 41)).alloc (.cells (cel dst) 41)).alloc (.cells (isa q A c) 24)).heap.size := by simp
  rw [isv_eq]
  clear b3
  go_enter Try.func29, Try.ntmps29
  go_upto_region 1 with fail
  generalize ((w.alloc (.cells (cel src) 41)).alloc (.cells (cel dst) 41)).alloc (.cells (isa q A c) 24) = W at *
  by_cases hc : chkI q = 0
  · have HC := Lib.hid hc
    obtain ⟨ha, hl2⟩ := chkI_ok hc
    clear hc
    obtain ⟨B0, hb0⟩ : ∃ l, l = hdI q 0 ++ q.dat := ⟨_, rfl⟩
    have lB := Lib.hid (show B0.length = 8 + q.dat.length by rw [hb0, List.length_append, hdI_len])
    obtain ⟨PS, hPS⟩ : ∃ l, l = preJ src dst B0 := ⟨_, rfl⟩
    have ePS : PS = psJ src dst 58 (8 + (q.dat.length : Int)) := by rw [hPS, preJ, lB.out]; simp
    have lP := Lib.hid (show PS.length = 40 by rw [ePS, psJ_len _ _ h1 h2])
    obtain ⟨N, hN⟩ : ∃ n, n = smI PS q := ⟨_, rfl⟩
    have bd := smI_bd PS q
    have hN0 : 0 ≤ N := by rw [hN]; exact bd.1
    have hN1 : N ≤ 65535 := by rw [hN]; exact bd.2
    have HSM := Lib.hid (show N = 65535 - fold (psum [PS, B0]) by rw [hN, hb0]; exact smI_two PS q)
    have HBL := Lib.hid (show bldJ src dst q = hdI q N ++ q.dat by rw [bldJ, ← ePS, hN]; rfl)
    have HPS := Lib.hid hPS
    have HB0 := Lib.hid hb0
    clear hb0 hPS ePS hN bd
    have HS0 := Lib.hid (show setB (bldI [] q) 2 0 2 = B0 by rw [HB0.out]; exact setI q (smI [] q) 0 q.dat (by omega) (by omega))
    have HS1 := Lib.hid (show setB B0 2 N 2 = bldJ src dst q by rw [HB0.out, HBL.out]; exact setI q 0 N q.dat hN0 hN1)
    obtain ⟨R0, hR0⟩ : ∃ l, l = bldI [] q := ⟨_, rfl⟩
    have lR := Lib.hid (show R0.length = 8 + q.dat.length by rw [hR0, bldI_len])
    rw [← hR0] at HS0
    have HR0 := Lib.hid hR0
    clear hR0
    go_upto_region 4 with (first
      | ((with_reducible show wpList _ _ _ (Oper.mk (some 11) (Op.load 24 _) _ _ _ _ :: _) _ _); refine wpList_val rfl (run_load_is rfl rfl hAt rfl) ?_)
      | (go_at_call 11; refine (cIbuild q A c _ w.heap.size ((hD.more hB0).below hB) hB.size hl).mono ?_; rintro e w1 ⟨v1, rfl, -, m1⟩; have m1 := m1 HC.out; rw [← HR0.out] at m1; rw [HC.out]; obtain ⟨A1, c1, rfl, g1, o1, x1⟩ := made_shape m1))
    go_upto_region 5 with (go_at_call 50; refine (set_any A1 R0 c1 _ 2 0 2 _ g1.rd (Nat.le_refl _) (by have := lR.out; omega)).mono ?_; rintro e w2 ⟨v2, rfl, m2⟩; rw [HS0.out] at m2; obtain ⟨A2, c2, rfl, g2, o2, x2⟩ := made_shape m2)
    have x02 : Below W.heap.size W w2 := x1.trans (x2.mono x1.size)
    have at0 := range_below at0 (B := W.heap.size) (by omega) x02
    have at1 := range_below at1 (B := W.heap.size) (by omega) x02
    have z2 := x02.size
    go_upto_region 6 with (first
      | ((with_reducible show wpList _ _ _ (Oper.mk (some 25) (Op.load 41 _) _ _ _ _ :: _) _ _); refine wpList_val rfl (run_load_six rfl rfl at0 h1) ?_)
      | ((with_reducible show wpList _ _ _ (Oper.mk (some 26) (Op.load 41 _) _ _ _ _ :: _) _ _); refine wpList_val rfl (run_load_six rfl rfl at1 h2) ?_)
      | (go_at_call 51; refine (cJpre src dst w2 B0 A2 c2 h1 h2).mono ?_; rintro e w3 ⟨v3, rfl, m3⟩; rw [← HPS.out] at m3; obtain ⟨A3, c3, rfl, g3, o3, x3⟩ := made_shape m3; have z3 := x3.size)
      | (go_at_call 38; refine (of_two (some ⟨w3.heap.size, 0, none⟩) PS B0 2 (w3.heap.size + 1) N HSM _ (Rd2.two rfl rfl (World.alloc_heap_new w3 _) (Nat.lt_succ_self _) ((g3.alloc (Nat.le_refl _) _).more (Nat.le_succ _)) (((g2.below x3).alloc z3 _).more (by omega))) (by simp) (by have := lP.out; have := lB.out; omega)).mono ?_; rintro e w4 ⟨rfl, x4⟩)
      | (go_at_call 50; refine (set_any A2 B0 c2 w2.heap.size 2 N 2 _ (((g2.below x3).alloc z3 _).below (x4.mono (by simp; omega))).rd (by have := x4.size; simp at this; omega) (by have := lB.out; omega)).mono ?_; rintro e w5 ⟨v5, rfl, m5⟩; rw [HS1.out] at m5))
    have x34 : Below w2.heap.size w2 w4 := (x3.alloc z3 _).trans (x4.mono (by simp; omega))
    have x04 : Below W.heap.size W w4 := x02.trans (x34.mono z2)
    go_wp2_with fail
    go_ret2
    exact ⟨v5, by rw [HC.out]; rfl, fun h => absurd HC.out h, fun _ => m5.after (hB.trans (x04.mono (by omega)))⟩
  · have hne : (chkI q != 0) = true := by simpa using hc
    have HN := Lib.hid hc
    clear hc
    go_wp2_with (first
      | ((with_reducible show wpList _ _ _ (Oper.mk (some 11) (Op.load 24 _) _ _ _ _ :: _) _ _); refine wpList_val rfl (run_load_is rfl rfl hAt rfl) ?_)
      | (go_at_call 11; refine (cIbuild q A c _ w.heap.size ((hD.more hB0).below hB) hB.size hl).mono ?_; rintro e w1 ⟨v1, rfl, m1, -⟩; obtain ⟨rfl, x1⟩ := m1 HN.out))
    go_ret2
    exact ⟨.slice none 0 0, rfl, fun _ => ⟨rfl, hB.trans (x1.mono hB.size)⟩, fun h => absurd h HN.out⟩
set_option maxRecDepth 100000 in
set_option maxHeartbeats 2000000 in
theorem rJbuild (B : Nat) (hD : Arg w B A c q.dat) (hB0 : B ≤ w.heap.size) (hl : q.dat.length ≤ 1000000) (h1 : src.length = 16) (h2 : dst.length = 16) :
    Calls Try.prog 30 #[.agg (cel src), .agg (cel dst), isv q A c] w fun e w' => ∃ v, e = .returned (.tuple #[v, .int .i64 (chkI q)]) ∧ (chkI q ≠ 0 → v = .slice none 0 0 ∧ Below w.heap.size w w') ∧ (chkI q = 0 → Made w w' v (bldJ src dst q)) := by
  have hB : Below w.heap.size w (((w.alloc (.cells (cel src) 41)).alloc (.cells (cel dst) 41)).alloc (.cells (isa q A c) 24)) := (below_two w _ _).alloc (by simp; omega) _
  have b3 : Below (w.heap.size + 2) ((w.alloc (.cells (cel src) 41)).alloc (.cells (cel dst) 41)) (((w.alloc (.cells (cel src) 41)).alloc (.cells (cel dst) 41)).alloc (.cells (isa q A c) 24)) := (Below.refl _ _).alloc (by simp) _
  have at0 := range_below (six_first w (cel src) (cel dst) 41 src rfl) (by omega) b3
  have at1 := range_below (six_second w (cel src) (cel dst) 41 dst rfl) (by omega) b3
  have hAt : Atis (((w.alloc (.cells (cel src) 41)).alloc (.cells (cel dst) 41)).alloc (.cells (isa q A c) 24)) (w.heap.size + 2) q A c := by
    have := Atis.new (q := q) (A := A) (c := c) ((w.alloc (.cells (cel src) 41)).alloc (.cells (cel dst) 41))
    rwa [show ((w.alloc (.cells (cel src) 41)).alloc (.cells (cel dst) 41)).heap.size = w.heap.size + 2 from by simp] at this
  have hz : w.heap.size + 2 < (((w.alloc (.cells (cel src) 41)).alloc (.cells (cel dst) 41)).alloc (.cells (isa q A c) 24)).heap.size := by simp
  rw [isv_eq]
  clear b3
  go_enter Try.func30, Try.ntmps30
  go_upto_region 1 with fail
  generalize ((w.alloc (.cells (cel src) 41)).alloc (.cells (cel dst) 41)).alloc (.cells (isa q A c) 24) = W at *
  by_cases hc : chkI q = 0
  · have HC := Lib.hid hc
    obtain ⟨ha, hl2⟩ := chkI_ok hc
    clear hc
    obtain ⟨B0, hb0⟩ : ∃ l, l = hdI q 0 ++ q.dat := ⟨_, rfl⟩
    have lB := Lib.hid (show B0.length = 8 + q.dat.length by rw [hb0, List.length_append, hdI_len])
    obtain ⟨PS, hPS⟩ : ∃ l, l = preJ src dst B0 := ⟨_, rfl⟩
    have ePS : PS = psJ src dst 58 (8 + (q.dat.length : Int)) := by rw [hPS, preJ, lB.out]; simp
    have lP := Lib.hid (show PS.length = 40 by rw [ePS, psJ_len _ _ h1 h2])
    obtain ⟨N, hN⟩ : ∃ n, n = smI PS q := ⟨_, rfl⟩
    have bd := smI_bd PS q
    have hN0 : 0 ≤ N := by rw [hN]; exact bd.1
    have hN1 : N ≤ 65535 := by rw [hN]; exact bd.2
    have HSM := Lib.hid (show N = 65535 - fold (psum [PS, B0]) by rw [hN, hb0]; exact smI_two PS q)
    have HBL := Lib.hid (show bldJ src dst q = hdI q N ++ q.dat by rw [bldJ, ← ePS, hN]; rfl)
    have HPS := Lib.hid hPS
    have HB0 := Lib.hid hb0
    clear hb0 hPS ePS hN bd
    go_upto_region 4 with (first
      | ((with_reducible show wpList _ _ _ (Oper.mk (some 10) (Op.load 24 _) _ _ _ _ :: _) _ _); refine wpList_val rfl (run_load_is rfl rfl hAt rfl) ?_)
      | (go_at_call 15; refine (rIcheck q A c _ hl).mono ?_; rintro e w1 ⟨rfl, x1⟩; rw [HC.out]))
    have hAt1 := hAt.below x1 (by omega)
    go_upto_region 5 with (first
      | ((with_reducible show wpList _ _ _ (Oper.mk (some 15) (Op.load 24 _) _ _ _ _ :: _) _ _); refine wpList_val rfl (run_load_is rfl rfl hAt1 rfl) ?_)
      | (go_at_call 39; refine (rIbytes q A c _ w.heap.size 0 B0 HB0 ha hl (by omega) (by omega) ((hD.more hB0).below (hB.trans (x1.mono hB.size))) (by have := x1.size; omega)).mono ?_; rintro e w2 ⟨v2, rfl, m2⟩; obtain ⟨A2, c2, rfl, g2, o2, x2⟩ := made_shape m2))
    have hx : Below W.heap.size W w2 := x1.trans (x2.mono x1.size)
    clear hAt1
    refine wp_region_held_drew (S := fun w' => Below w2.heap.size w2 w') (by kernel_rfl) (Below.refl _ w2).drew (fun hS => ?_)
    refine held_pure (i := 0) (oi := ⟨some 17, _, _, _, _, _⟩) rfl (by kernel_rfl) (by kernel_rfl) (by kernel_rfl) (fun _ _ _ h => h) (by rfl) (fun w hSw => run_load_is rfl rfl (hAt.below (hx.trans (hSw.mono hx.size)) (by omega)) rfl) hS (fun hS => ?_)
    try go_frame
    refine held_pure (i := 1) (oi := ⟨some 18, _, _, _, _, _⟩) rfl (by kernel_rfl) (by kernel_rfl) (by kernel_rfl) (fun _ _ _ h => h) (by rfl) (fun w hSw => run_load_six rfl rfl (range_below at0 (B := W.heap.size) (by omega) (hx.trans (hSw.mono hx.size))) h1) hS (fun hS => ?_)
    try go_frame
    refine held_pure (i := 2) (oi := ⟨some 19, _, _, _, _, _⟩) rfl (by kernel_rfl) (by kernel_rfl) (by kernel_rfl) (fun _ _ _ h => h) (by rfl) (fun w hSw => run_load_six rfl rfl (range_below at1 (B := W.heap.size) (by omega) (hx.trans (hSw.mono hx.size))) h2) hS (fun hS => ?_)
    try go_frame
    refine held_pure (i := 3) (oi := ⟨some 20, _, _, _, _, _⟩) rfl (by kernel_rfl) (by kernel_rfl) (by kernel_rfl) (fun _ _ _ h => h) (by rfl) (v := ?_) (fun w hSw => ?_) hS (fun hS => ?_)
    rotate_left
    · go_simp; try with_reducible rfl
    try go_frame
    refine held_pure (i := 4) (oi := ⟨some 21, _, _, _, _, _⟩) rfl (by kernel_rfl) (by kernel_rfl) (by kernel_rfl) (fun _ _ _ h => h) (by rfl) (v := ?_) (fun w hSw => ?_) hS (fun hS => ?_)
    rotate_left
    · go_simp; try with_reducible rfl
    try go_frame
    refine held_pure (i := 6) (oi := ⟨some 23, _, _, _, _, _⟩) rfl (by kernel_rfl) (by kernel_rfl) (by kernel_rfl) (fun _ _ _ h => h) (by rfl) (v := ?_) (fun w hSw => ?_) hS (fun hS => ?_)
    rotate_left
    · go_simp; try with_reducible rfl
    try go_frame
    refine wpAnyH_ready (rs := [5]) (by kernel_rfl) (by simp) (AllReadyH.cons (o := ⟨some 22, _, _, _, _, _⟩) rfl (fun K hK => ?_) AllReadyH.nil)
    rw [if_pos (by rfl)]
    go_simp
    refine (rJpsd src dst _ 58 (B0.length : Int) h1 h2).mono ?_
    rintro e w3 ⟨v3, rfl, m3⟩
    rw [show psJ src dst 58 (B0.length : Int) = PS from HPS.out.symm] at m3
    obtain ⟨A3, c3, rfl, g3, o3, x3⟩ := made_shape m3
    have hS3 := below_step hS x3
    show K _ _
    refine hK.out _ _ (below_step hS x3) (fun hS => ?_)
    clear hK K
    try go_frame
    refine wpAnyH_ready (rs := [7]) (by kernel_rfl) (by simp) (AllReadyH.cons (o := ⟨some 24, _, _, _, _, _⟩) rfl (fun K hK => ?_) AllReadyH.nil)
    rw [if_pos (by rfl)]
    go_simp
    refine hK.out _ _ (hS.alloc hS.size _) (fun hS => ?_)
    clear hK K
    try go_frame
    refine wpAnyH_ready (rs := [8]) (by kernel_rfl) (by simp) (AllReadyH.cons (o := ⟨some 25, _, _, _, _, _⟩) rfl (fun K hK => ?_) AllReadyH.nil)
    rw [if_pos (by rfl)]
    go_simp
    refine (rof_two (some ⟨w3.heap.size, 0, none⟩) PS B0 2 (w3.heap.size + 1) N HSM _ (Rd2.two rfl rfl (World.alloc_heap_new w3 _) (Nat.lt_succ_self _) ((g3.alloc (Nat.le_refl _) _).more (Nat.le_succ _)) (((g2.below (hS3.mono (Nat.le_refl _))).alloc (by have := hS3.size; omega) _).more (by have := hS3.size; omega))) (by have := lP.out; have := lB.out; omega)).mono ?_
    rintro e w4 ⟨rfl, n4, rfl⟩
    show K _ _
    refine hK.out _ _ (below_drewN hS _) (fun hS => ?_)
    clear hK K
    try go_frame
    refine wpAnyH_ready (rs := [9]) (by kernel_rfl) (by simp) (AllReadyH.cons (o := ⟨some 26, _, _, _, _, _⟩) rfl (fun K hK => ?_) AllReadyH.nil)
    rw [if_pos (by rfl)]
    go_simp
    refine (rIbytes q A c _ w.heap.size N (bldJ src dst q) HBL ha hl hN0 hN1 ((hD.more hB0).below (hB.trans ((hx.trans (hS.mono hx.size)).mono hB.size))) (by have := hS.size; have := hx.size; omega)).mono ?_
    rintro e w9 ⟨v9, rfl, m9⟩
    have hS8 := hS
    show K _ _
    refine hK.out _ _ (below_step hS m9.below) (fun hS => ?_)
    clear hK K
    try go_frame
    refine held_pure (i := 10) (oi := ⟨some 6, _, _, _, _, _⟩) rfl (by kernel_rfl) (by kernel_rfl) (by kernel_rfl) (fun _ _ _ h => h) (by rfl) (v := ?_) (fun w hSw => ?_) hS (fun hS => ?_)
    rotate_left
    · go_simp; try with_reducible rfl
    try go_frame
    refine held_pure (i := 11) (oi := ⟨some 7, _, _, _, _, _⟩) rfl (by kernel_rfl) (by kernel_rfl) (by kernel_rfl) (fun _ _ _ h => h) (by rfl) (v := ?_) (fun w hSw => ?_) hS (fun hS => ?_)
    rotate_left
    · go_simp; try with_reducible rfl
    try go_frame
    refine wpAnyH_done (by kernel_rfl) ?_ _
    go_wp2_with fail
    go_ret2
    exact ⟨v9, by rw [HC.out]; rfl, fun h => absurd HC.out h, fun _ => m9.after (hB.trans ((hx.trans (hS8.mono hx.size)).mono hB.size))⟩
  · have hne : (chkI q != 0) = true := by simpa using hc
    have HN := Lib.hid hc
    clear hc
    go_wp2_with (first
      | ((with_reducible show wpList _ _ _ (Oper.mk (some 10) (Op.load 24 _) _ _ _ _ :: _) _ _); refine wpList_val rfl (run_load_is rfl rfl hAt rfl) ?_)
      | (go_at_call 15; refine (rIcheck q A c _ hl).mono ?_; rintro e w1 ⟨rfl, x1⟩; skip))
    go_ret2
    exact ⟨.slice none 0 0, rfl, fun _ => ⟨rfl, hB.trans (x1.mono hB.size)⟩, fun h => absurd h HN.out⟩
end
end Go.Proofs.Ytobkiffiapjhgaa

/-
  Contracts of layer 10's Parse, the program's and the document's. Conditions are each theorem's own.
-/
namespace Go.Proofs.Ytobkiffiapjhgaa
open Go.RowKit

section
variable (src dst b : List UInt8) (A : Option Addr) (c : Nat) (w : World)
set_option maxRecDepth 100000 in
set_option maxHeartbeats 2000000 in
theorem cJparse (B : Nat) (hR : Arg w B A c b) (hB : B ≤ w.heap.size) (hl : b.length ≤ 1000000) (h1 : src.length = 16) (h2 : dst.length = 16) :
    Calls Try.prog 35 #[.agg (cel src), .agg (cel dst), .slice A b.length c] w fun e w' => ∃ P p, e = .returned (.tuple #[isv (prsI (preJ src dst b) b) P p, .int .i64 (badI (preJ src dst b) b)]) ∧ Made w w' (.slice P (prsI (preJ src dst b) b).dat.length p) (prsI (preJ src dst b) b).dat := by
  have hcap := hR.cap
  obtain ⟨PS, hPS⟩ : ∃ l, l = preJ src dst b := ⟨_, rfl⟩
  have lP := Lib.hid (show PS.length = 40 by rw [hPS, preJ, psJ_len _ _ h1 h2])
  have HPS := Lib.hid hPS
  rw [← hPS]
  clear hPS
  have hBw : Below w.heap.size w ((w.alloc (.cells (cel src) 41)).alloc (.cells (cel dst) 41)) := below_two w _ _
  have at0 := six_first w (cel src) (cel dst) 41 src rfl
  have at1 := six_second w (cel src) (cel dst) 41 dst rfl
  have hz : w.heap.size + 1 < ((w.alloc (.cells (cel src) 41)).alloc (.cells (cel dst) 41)).heap.size := by simp
  by_cases h8 : b.length < 8
  · have d8 : decide ((b.length : Int) < 8) = true := by simp; omega
    have HE := Lib.hid (show badI PS b = 3 by rw [badI, if_pos h8])
    have HV := Lib.hid (show prsI PS b = isz by rw [prsI, HE.out]; rfl)
    go_enter Try.func35, Try.ntmps35
    go_upto_region 1 with fail
    generalize hW0 : (w.alloc (.cells (cel src) 41)).alloc (.cells (cel dst) 41) = W0 at *
    have hsz : w.heap.size + 2 = W0.heap.size := by rw [← hW0]; simp
    rw [hsz]
    have hzz : w.heap.size + 1 < W0.heap.size := by omega
    have hzz0 : w.heap.size < W0.heap.size := by omega
    clear hW0 hsz hz
    have hBs := hBw.size
    have hR := hR.below (hBw.mono hB)
    have hB : B ≤ W0.heap.size := by omega
    have hOR : OwnR W0 24 4 (W0.alloc (.cells #[.int .i64 0, .int .i64 0, .int .i64 0, .slice none 0 0] 24)) := OwnR.new W0 (isa isz none 0) 24
    generalize W0.alloc (.cells #[.int .i64 0, .int .i64 0, .int .i64 0, .slice none 0 0] 24) = W at *
    obtain ⟨old, hold, hgo⟩ := id hOR.2
    go_wp2_with (first | ((with_reducible show wpList _ _ _ (Oper.mk _ (Op.store 24 _ _) _ _ _ _ :: _) _ _); refine is_store (g := W0.heap.size) (cs := isa isz none 0) rfl rfl hgo hold rfl (is_one _ _ _) ?_))
    exact bodyPost_ret (res2 rfl rfl (is_load_run (setRow_heap _ _ _ _ _ _ hgo) rfl)) rfl ⟨none, 0, by rw [HV.out, HE.out]; rfl, by rw [HV.out]; exact Made.nil _ _ (below_row (hBw.trans (hOR.b.mono hBw.size)) (by have := hBw.size; omega))⟩
  · have d8 : decide ((b.length : Int) < 8) = false := by simp; omega
    obtain ⟨b0, off, rfl, hbB, hcell⟩ := hR.rd (by omega)
    have kc0 := hcell 0 (by omega)
    have kc1 := hcell 1 (by omega)
    clear hcell
    have G4 := Lib.hid (show getV b 4 4 = n4 b 4 from get_four (b := b) (i := 4) (by omega))
    obtain ⟨X0, e0⟩ : ∃ x, x = byt b 0 := ⟨_, rfl⟩
    obtain ⟨X1, e1⟩ : ∃ x, x = byt b 1 := ⟨_, rfl⟩
    obtain ⟨X4, e4⟩ : ∃ x, x = n4 b 4 := ⟨_, rfl⟩
    obtain ⟨D, eD⟩ : ∃ l, l = b.drop 8 := ⟨_, rfl⟩
    have HDl := Lib.hid (show D.length = b.length - 8 by rw [eD]; simp)
    have hDD : Arg w B (cutA (some ⟨b0, off, none⟩) c 8) (c - 8) D := by rw [eD]; exact hR.cut_lo 8
    have HR := Lib.hid (show rawI b = ⟨X0, X1, X4, D⟩ by rw [rawI, e0, e1, e4, eD])
    have HW0 := Lib.hid (IntWalk.i64_in X0 (by have := byt_lo b 0; have := byt_hi b 0; omega))
    have HW1 := Lib.hid (IntWalk.i64_in X1 (by have := byt_lo b 1; have := byt_hi b 1; omega))
    rw [← e0] at kc0; rw [← e1] at kc1; rw [← e4] at G4
    clear e0 e1 e4 eD
    go_enter Try.func35, Try.ntmps35
    go_upto_region 1 with fail
    generalize hW0 : (w.alloc (.cells (cel src) 41)).alloc (.cells (cel dst) 41) = W0 at *
    have hsz : w.heap.size + 2 = W0.heap.size := by rw [← hW0]; simp
    rw [hsz]
    have hzz : w.heap.size + 1 < W0.heap.size := by omega
    have hzz0 : w.heap.size < W0.heap.size := by omega
    clear hW0 hsz hz
    have hBs := hBw.size
    have hR := hR.below (hBw.mono hB)
    have hB : B ≤ W0.heap.size := by omega
    have hOR : OwnR W0 24 4 (W0.alloc (.cells #[.int .i64 0, .int .i64 0, .int .i64 0, .slice none 0 0] 24)) := OwnR.new W0 (isa isz none 0) 24
    generalize W0.alloc (.cells #[.int .i64 0, .int .i64 0, .int .i64 0, .slice none 0 0] 24) = W at *
    obtain ⟨old, hold, hgo⟩ := id hOR.2
    have hDD := hDD.below (hBw.mono (by omega))
    have kc0 := (hBw.cell (p := ⟨b0, off, none⟩) (by show b0 < _; omega)).trans kc0
    have kc1 := (hBw.cell (p := ⟨b0, off + 1, none⟩) (by show b0 < _; omega)).trans kc1
    have hzW := hOR.lt
    have hR1 := hR.below (hOR.b.mono hB)
    by_cases hM : 65535 < b.length
    · have dM : decide (65535 < (b.length : Int)) = true := by simp; omega
      have HE := Lib.hid (show badI PS b = 6 by rw [badI, if_neg h8, if_pos hM])
      have HV := Lib.hid (show prsI PS b = isz by rw [prsI, HE.out]; rfl)
      go_wp2_with (first | ((with_reducible show wpList _ _ _ (Oper.mk _ (Op.store 24 _ _) _ _ _ _ :: _) _ _); refine is_store (g := W0.heap.size) (cs := isa isz none 0) rfl rfl hgo hold rfl (is_one _ _ _) ?_))
      exact bodyPost_ret (res2 rfl rfl (is_load_run (setRow_heap _ _ _ _ _ _ hgo) rfl)) rfl ⟨none, 0, by rw [HV.out, HE.out]; rfl, by rw [HV.out]; exact Made.nil _ _ (below_row (hBw.trans (hOR.b.mono hBw.size)) (by have := hBw.size; omega))⟩
    · have dM : decide (65535 < (b.length : Int)) = false := by simp; omega
      obtain ⟨RB, hRB⟩ : ∃ r, r = rightB [PS, b] := ⟨_, rfl⟩
      have HN := Lib.hid hRB
      clear hRB
      cases RB
      · skip
        have HE := Lib.hid (show badI PS b = 5 by rw [badI, if_neg h8, if_neg hM, ← HN.out]; rfl)
        have HV := Lib.hid (show prsI PS b = isz by rw [prsI, HE.out]; rfl)
        go_wp2_with (first | ((with_reducible show wpList _ _ _ (Oper.mk _ (Op.store 24 _ _) _ _ _ _ :: _) _ _); refine is_store (g := W0.heap.size) (cs := isa isz none 0) rfl rfl hgo2 hold2 rfl (is_one _ _ _) ?_) | ((with_reducible show wpList _ _ _ (Oper.mk (some 21) (Op.load 41 _) _ _ _ _ :: _) _ _); refine wpList_val rfl (run_load_six rfl rfl (range_below at0 hzz0 hOR.b) h1) ?_) | ((with_reducible show wpList _ _ _ (Oper.mk (some 22) (Op.load 41 _) _ _ _ _ :: _) _ _); refine wpList_val rfl (run_load_six rfl rfl (range_below at1 hzz hOR.b) h2) ?_) | (go_at_call 51; refine (cJpre src dst W b (some ⟨b0, off, none⟩) c h1 h2).mono ?_; rintro e wp ⟨vp, rfl, mp⟩; rw [← HPS.out] at mp; obtain ⟨Ap, cp, rfl, gp, op, xp⟩ := made_shape mp; have zp := xp.size) | (go_at_call 44; refine (right_two (some ⟨wp.heap.size, 0, none⟩) PS b 2 (wp.heap.size + 1) _ HN _ (Rd2.two rfl rfl (World.alloc_heap_new wp _) (Nat.lt_succ_self _) ((gp.alloc (Nat.le_refl _) _).more (Nat.le_succ _)) (((hR1.below (xp.mono (by omega))).alloc (by omega) _).more (by omega))) (by simp) (by have := lP.out; omega)).mono ?_; rintro e wq ⟨rfl, xq⟩; have hOq := ((hOR.step xp).alloc (.cells #[.slice Ap PS.length cp, .slice (some ⟨b0, off, none⟩) b.length c] 22)).step xq; obtain ⟨old2, hold2, hgo2⟩ := id hOq.2))
        exact bodyPost_ret (res2 rfl rfl (is_load_run (setRow_heap _ _ _ _ _ _ hgo2) rfl)) rfl ⟨none, 0, by rw [HV.out, HE.out]; rfl, by rw [HV.out]; exact Made.nil _ _ (below_row (hBw.trans (hOq.b.mono hBw.size)) (by have := hBw.size; omega))⟩
      · have HE := Lib.hid (show badI PS b = 0 by rw [badI, if_neg h8, if_neg hM, ← HN.out]; rfl)
        have HV := Lib.hid (show prsI PS b = ⟨X0, X1, X4, D⟩ by rw [prsI, if_pos HE.out, HR.out])
        go_upto_region 8 with (first
          | ((with_reducible show wpList _ _ _ (Oper.mk (some 21) (Op.load 41 _) _ _ _ _ :: _) _ _); refine wpList_val rfl (run_load_six rfl rfl (range_below at0 hzz0 hOR.b) h1) ?_)
          | ((with_reducible show wpList _ _ _ (Oper.mk (some 22) (Op.load 41 _) _ _ _ _ :: _) _ _); refine wpList_val rfl (run_load_six rfl rfl (range_below at1 hzz hOR.b) h2) ?_)
          | (go_at_call 51; refine (cJpre src dst W b (some ⟨b0, off, none⟩) c h1 h2).mono ?_; rintro e wp ⟨vp, rfl, mp⟩; rw [← HPS.out] at mp; obtain ⟨Ap, cp, rfl, gp, op, xp⟩ := made_shape mp; have zp := xp.size)
          | (go_at_call 44; refine (right_two (some ⟨wp.heap.size, 0, none⟩) PS b 2 (wp.heap.size + 1) _ HN _ (Rd2.two rfl rfl (World.alloc_heap_new wp _) (Nat.lt_succ_self _) ((gp.alloc (Nat.le_refl _) _).more (Nat.le_succ _)) (((hR1.below (xp.mono (by omega))).alloc (by omega) _).more (by omega))) (by simp) (by have := lP.out; omega)).mono ?_; rintro e wq ⟨rfl, xq⟩; have hOq := ((hOR.step xp).alloc (.cells #[.slice Ap PS.length cp, .slice (some ⟨b0, off, none⟩) b.length c] 22)).step xq; obtain ⟨old2, hold2, hgo2⟩ := id hOq.2)
          | (go_at_call 45; refine (get_any (some ⟨b0, off, none⟩) b c B 4 4 _ (hR.below (hOq.b.mono hB)).rd (by omega) hcap).mono ?_; rintro e w' ⟨rfl, rfl⟩; rw [show getV b 4 4 = X4 from G4.out]))
        refine wp_region_held_drew (S := OwnR W0 24 4) (by kernel_rfl) hOq.drew (fun hS => ?_)
        refine held_pure (i := 0) (oi := ⟨some 35, _, _, _, _, _⟩) rfl (by kernel_rfl) (by kernel_rfl) (by kernel_rfl) (fun _ _ _ h => h) (by rfl) (v := ?_) (fun w hSw => ?_) hS (fun hS => ?_)
        rotate_left
        · go_simp; try with_reducible rfl
        try go_frame
        refine held_pure (i := 1) (oi := ⟨some 36, _, _, _, _, _⟩) rfl (by kernel_rfl) (by kernel_rfl) (by kernel_rfl) (fun _ _ _ h => h) (by rfl) (v := Value.pointer (some ⟨b0, off, none⟩)) (fun w hSw => by go_simp; (intro hx; exfalso; first | omega | (subst hx; simp at *))) hS (fun hS => ?_)
        try go_frame
        refine held_pure (i := 2) (oi := ⟨some 37, _, _, _, _, _⟩) rfl (by kernel_rfl) (by kernel_rfl) (by kernel_rfl) (fun _ _ _ h => h) (by rfl) (fun w hSw => run_load_byte rfl rfl ((hSw.b.cell (Nat.lt_of_lt_of_le hbB hB)).trans kc0)) hS (fun hS => ?_)
        try go_frame
        refine held_pure (i := 3) (oi := ⟨some 38, _, _, _, _, _⟩) rfl (by kernel_rfl) (by kernel_rfl) (by kernel_rfl) (fun _ _ _ h => h) (by rfl) (v := .int .i64 X0) (fun w hSw => by go_simp; exact HW0.out) hS (fun hS => ?_)
        try go_frame
        refine held_pure (i := 4) (oi := ⟨some 39, _, _, _, _, _⟩) rfl (by kernel_rfl) (by kernel_rfl) (by kernel_rfl) (fun _ _ _ h => h) (by rfl) (v := ?_) (fun w hSw => ?_) hS (fun hS => ?_)
        rotate_left
        · go_simp; try with_reducible rfl
        try go_frame
        refine held_pure (i := 5) (oi := ⟨some 40, _, _, _, _, _⟩) rfl (by kernel_rfl) (by kernel_rfl) (by kernel_rfl) (fun _ _ _ h => h) (by rfl) (v := Value.pointer (some ⟨b0, off + 1, none⟩)) (fun w hSw => by go_simp; exact fun hx => absurd hx (by omega)) hS (fun hS => ?_)
        try go_frame
        refine held_pure (i := 6) (oi := ⟨some 41, _, _, _, _, _⟩) rfl (by kernel_rfl) (by kernel_rfl) (by kernel_rfl) (fun _ _ _ h => h) (by rfl) (fun w hSw => run_load_byte rfl rfl ((hSw.b.cell (Nat.lt_of_lt_of_le hbB hB)).trans kc1)) hS (fun hS => ?_)
        try go_frame
        refine held_pure (i := 7) (oi := ⟨some 42, _, _, _, _, _⟩) rfl (by kernel_rfl) (by kernel_rfl) (by kernel_rfl) (fun _ _ _ h => h) (by rfl) (v := .int .i64 X1) (fun w hSw => by go_simp; exact HW1.out) hS (fun hS => ?_)
        try go_frame
        refine held_pure (i := 8) (oi := ⟨some 43, _, _, _, _, _⟩) rfl (by kernel_rfl) (by kernel_rfl) (by kernel_rfl) (fun _ _ _ h => h) (by rfl) (v := ?_) (fun w hSw => ?_) hS (fun hS => ?_)
        rotate_left
        · go_simp; try with_reducible rfl
        try go_frame
        refine held_pure (i := 9) (oi := ⟨some 44, _, _, _, _, _⟩) rfl (by kernel_rfl) (by kernel_rfl) (by kernel_rfl) (fun _ _ _ h => h) (by rfl) (v := ?_) (fun w hSw => ?_) hS (fun hS => ?_)
        rotate_left
        · go_simp; try with_reducible rfl
        try go_frame
        refine held_pure (i := 10) (oi := ⟨some 45, _, _, _, _, _⟩) rfl (by kernel_rfl) (by kernel_rfl) (by kernel_rfl) (fun _ _ _ h => h) (by rfl) (fun w hSw => run_cut_l rfl rfl (l := 8) rfl (by omega) (m := D.length) (by have := HDl.out; omega)) hS (fun hS => ?_)
        try go_frame
        refine wpAnyH_ready (rs := [11]) (by kernel_rfl) (by simp) (AllReadyH.cons (o := ⟨some 46, _, _, _, _, _⟩) rfl (fun K hK => ?_) AllReadyH.nil)
        rw [if_pos (by rfl)]
        refine append_wp _ _ rfl (W0.heap.size + 1) (.slice none 0 0) 0 [] rfl (World.ownsRow_nil _ _ _ _) B (cutA (some ⟨b0, off, none⟩) c 8) (c - 8) D rfl hDD.none_ ((hDD.below (hS.b.mono hB)).rd) (by have := HDl.out; omega) hS.lt ?_
        intro v5 y5 own5 grow5
        obtain ⟨P5, p5, rfl, owm5⟩ := own_made (bs := D) own5 (Nat.zero_add _) (List.nil_append _)
        clear own5
        have x5 := (Below.refl _ _).grown grow5 (Nat.le_refl _) (fun k hk => by cases hk)
        clear grow5
        refine hK.out _ _ (hS.step x5) (fun hS => ?_)
        clear hK K
        try go_frame
        refine held_pure (i := 12) (oi := ⟨some 47, _, _, _, _, _⟩) rfl (by kernel_rfl) (by kernel_rfl) (by kernel_rfl) (fun _ _ _ h => h) (by rfl) (v := ?_) (fun w hSw => ?_) hS (fun hS => ?_)
        rotate_left
        · go_simp; try with_reducible rfl
        try go_frame
        refine wpAnyH_ready (rs := [13]) (by kernel_rfl) (by simp) (AllReadyH.cons (o := ⟨none, _, _, _, _, _⟩) rfl (fun K hK => ?_) AllReadyH.nil)
        rw [if_pos (by rfl)]
        obtain ⟨old, hold, hgo⟩ := hS.2
        have hrow := hS.row (isa ⟨X0, X1, X4, D⟩ P5 p5) rfl
        refine wp_store_row 24 _ _ rfl W0.heap.size (isa ⟨X0, X1, X4, D⟩ P5 p5) rfl rfl 24 old hgo (by kernel_rfl) hold (is_one _ _ _) ?_
        have hgz := setRow_heap _ _ _ (isa ⟨X0, X1, X4, D⟩ P5 p5) _ _ hgo
        refine hK.out _ _ hrow (fun hS => ?_)
        clear hK K
        try go_frame
        refine held_pure (i := 14) (oi := ⟨some 7, _, _, _, _, _⟩) rfl (by kernel_rfl) (by kernel_rfl) (by kernel_rfl) (fun _ _ _ h => h) (by rfl) (v := ?_) (fun w hSw => ?_) hS (fun hS => ?_)
        rotate_left
        · go_simp; try with_reducible rfl
        try go_frame
        refine wpAnyH_done (by kernel_rfl) ?_ _
        go_wp2_with fail
        have oz5 := own_setRow owm5 (g := W0.heap.size) (cs := isa ⟨X0, X1, X4, D⟩ P5 p5) (by omega)
        exact bodyPost_ret (res2 rfl rfl (is_load_run hgz rfl)) rfl ⟨P5, p5, by rw [HV.out, HE.out]; rfl, by rw [HV.out]; exact (Made.of_own (own_base oz5 (by omega)) hS.b).after hBw⟩
set_option maxRecDepth 100000 in
set_option maxHeartbeats 2000000 in
theorem rJparse (B : Nat) (hR : Arg w B A c b) (hB : B ≤ w.heap.size) (hl : b.length ≤ 1000000) (h1 : src.length = 16) (h2 : dst.length = 16) :
    Calls Try.prog 36 #[.agg (cel src), .agg (cel dst), .slice A b.length c] w fun e w' => ∃ P p, e = .returned (.tuple #[isv (prsI (preJ src dst b) b) P p, .int .i64 (badI (preJ src dst b) b)]) ∧ Made w w' (.slice P (prsI (preJ src dst b) b).dat.length p) (prsI (preJ src dst b) b).dat := by
  have hcap := hR.cap
  obtain ⟨PS, hPS⟩ : ∃ l, l = preJ src dst b := ⟨_, rfl⟩
  have lP := Lib.hid (show PS.length = 40 by rw [hPS, preJ, psJ_len _ _ h1 h2])
  have HPS := Lib.hid hPS
  rw [← hPS]
  clear hPS
  have hBw : Below w.heap.size w ((w.alloc (.cells (cel src) 41)).alloc (.cells (cel dst) 41)) := below_two w _ _
  have at0 := six_first w (cel src) (cel dst) 41 src rfl
  have at1 := six_second w (cel src) (cel dst) 41 dst rfl
  have hz : w.heap.size + 1 < ((w.alloc (.cells (cel src) 41)).alloc (.cells (cel dst) 41)).heap.size := by simp
  by_cases h8 : b.length < 8
  · have d8 : decide ((b.length : Int) < 8) = true := by simp; omega
    have HE := Lib.hid (show badI PS b = 3 by rw [badI, if_pos h8])
    have HV := Lib.hid (show prsI PS b = isz by rw [prsI, HE.out]; rfl)
    go_enter Try.func36, Try.ntmps36
    go_upto_region 1 with fail
    generalize hW0 : (w.alloc (.cells (cel src) 41)).alloc (.cells (cel dst) 41) = W0 at *
    have hsz : w.heap.size + 2 = W0.heap.size := by rw [← hW0]; simp
    rw [hsz]
    have hzz : w.heap.size + 1 < W0.heap.size := by omega
    have hzz0 : w.heap.size < W0.heap.size := by omega
    clear hW0 hsz hz
    have hBs := hBw.size
    have hR := hR.below (hBw.mono hB)
    have hB : B ≤ W0.heap.size := by omega
    have hOR : OwnR W0 24 4 (W0.alloc (.cells #[.int .i64 0, .int .i64 0, .int .i64 0, .slice none 0 0] 24)) := OwnR.new W0 (isa isz none 0) 24
    generalize W0.alloc (.cells #[.int .i64 0, .int .i64 0, .int .i64 0, .slice none 0 0] 24) = W at *
    obtain ⟨old, hold, hgo⟩ := id hOR.2
    go_wp2_with (first | ((with_reducible show wpList _ _ _ (Oper.mk _ (Op.store 24 _ _) _ _ _ _ :: _) _ _); refine is_store (g := W0.heap.size) (cs := isa isz none 0) rfl rfl hgo hold rfl (is_one _ _ _) ?_))
    exact bodyPost_ret (res2 rfl rfl (is_load_run (setRow_heap _ _ _ _ _ _ hgo) rfl)) rfl ⟨none, 0, by rw [HV.out, HE.out]; rfl, by rw [HV.out]; exact Made.nil _ _ (below_row (hBw.trans (hOR.b.mono hBw.size)) (by have := hBw.size; omega))⟩
  · have d8 : decide ((b.length : Int) < 8) = false := by simp; omega
    obtain ⟨b0, off, rfl, hbB, hcell⟩ := hR.rd (by omega)
    have kc0 := hcell 0 (by omega)
    have kc1 := hcell 1 (by omega)
    clear hcell
    have G4 := Lib.hid (show getV b 4 4 = n4 b 4 from get_four (b := b) (i := 4) (by omega))
    obtain ⟨X0, e0⟩ : ∃ x, x = byt b 0 := ⟨_, rfl⟩
    obtain ⟨X1, e1⟩ : ∃ x, x = byt b 1 := ⟨_, rfl⟩
    obtain ⟨X4, e4⟩ : ∃ x, x = n4 b 4 := ⟨_, rfl⟩
    obtain ⟨D, eD⟩ : ∃ l, l = b.drop 8 := ⟨_, rfl⟩
    have HDl := Lib.hid (show D.length = b.length - 8 by rw [eD]; simp)
    have hDD : Arg w B (cutA (some ⟨b0, off, none⟩) c 8) (c - 8) D := by rw [eD]; exact hR.cut_lo 8
    have HR := Lib.hid (show rawI b = ⟨X0, X1, X4, D⟩ by rw [rawI, e0, e1, e4, eD])
    have HW0 := Lib.hid (IntWalk.i64_in X0 (by have := byt_lo b 0; have := byt_hi b 0; omega))
    have HW1 := Lib.hid (IntWalk.i64_in X1 (by have := byt_lo b 1; have := byt_hi b 1; omega))
    rw [← e0] at kc0; rw [← e1] at kc1; rw [← e4] at G4
    clear e0 e1 e4 eD
    go_enter Try.func36, Try.ntmps36
    go_upto_region 1 with fail
    generalize hW0 : (w.alloc (.cells (cel src) 41)).alloc (.cells (cel dst) 41) = W0 at *
    have hsz : w.heap.size + 2 = W0.heap.size := by rw [← hW0]; simp
    rw [hsz]
    have hzz : w.heap.size + 1 < W0.heap.size := by omega
    have hzz0 : w.heap.size < W0.heap.size := by omega
    clear hW0 hsz hz
    have hBs := hBw.size
    have hR := hR.below (hBw.mono hB)
    have hB : B ≤ W0.heap.size := by omega
    have hOR : OwnR W0 24 4 (W0.alloc (.cells #[.int .i64 0, .int .i64 0, .int .i64 0, .slice none 0 0] 24)) := OwnR.new W0 (isa isz none 0) 24
    generalize W0.alloc (.cells #[.int .i64 0, .int .i64 0, .int .i64 0, .slice none 0 0] 24) = W at *
    obtain ⟨old, hold, hgo⟩ := id hOR.2
    have hDD := hDD.below (hBw.mono (by omega))
    have kc0 := (hBw.cell (p := ⟨b0, off, none⟩) (by show b0 < _; omega)).trans kc0
    have kc1 := (hBw.cell (p := ⟨b0, off + 1, none⟩) (by show b0 < _; omega)).trans kc1
    have hzW := hOR.lt
    have hR1 := hR.below (hOR.b.mono hB)
    by_cases hM : 65535 < b.length
    · have dM : decide (65535 < (b.length : Int)) = true := by simp; omega
      have HE := Lib.hid (show badI PS b = 6 by rw [badI, if_neg h8, if_pos hM])
      have HV := Lib.hid (show prsI PS b = isz by rw [prsI, HE.out]; rfl)
      go_wp2_with (first | ((with_reducible show wpList _ _ _ (Oper.mk _ (Op.store 24 _ _) _ _ _ _ :: _) _ _); refine is_store (g := W0.heap.size) (cs := isa isz none 0) rfl rfl hgo hold rfl (is_one _ _ _) ?_))
      exact bodyPost_ret (res2 rfl rfl (is_load_run (setRow_heap _ _ _ _ _ _ hgo) rfl)) rfl ⟨none, 0, by rw [HV.out, HE.out]; rfl, by rw [HV.out]; exact Made.nil _ _ (below_row (hBw.trans (hOR.b.mono hBw.size)) (by have := hBw.size; omega))⟩
    · have dM : decide (65535 < (b.length : Int)) = false := by simp; omega
      obtain ⟨RB, hRB⟩ : ∃ r, r = rightB [PS, b] := ⟨_, rfl⟩
      have HN := Lib.hid hRB
      clear hRB
      cases RB
      · skip
        have HE := Lib.hid (show badI PS b = 5 by rw [badI, if_neg h8, if_neg hM, ← HN.out]; rfl)
        have HV := Lib.hid (show prsI PS b = isz by rw [prsI, HE.out]; rfl)
        go_wp2_with (first | ((with_reducible show wpList _ _ _ (Oper.mk _ (Op.store 24 _ _) _ _ _ _ :: _) _ _); refine is_store (g := W0.heap.size) (cs := isa isz none 0) rfl rfl hgo2 hold2 rfl (is_one _ _ _) ?_) | ((with_reducible show wpList _ _ _ (Oper.mk (some 19) (Op.load 41 _) _ _ _ _ :: _) _ _); refine wpList_val rfl (run_load_six rfl rfl (range_below at0 hzz0 hOR.b) h1) ?_) | ((with_reducible show wpList _ _ _ (Oper.mk (some 20) (Op.load 41 _) _ _ _ _ :: _) _ _); refine wpList_val rfl (run_load_six rfl rfl (range_below at1 hzz hOR.b) h2) ?_) | (go_at_call 32; refine (rJpsd src dst W 58 (b.length : Int) h1 h2).mono ?_; rintro e wp ⟨vp, rfl, mp⟩; rw [show psJ src dst 58 (b.length : Int) = PS from HPS.out.symm] at mp; obtain ⟨Ap, cp, rfl, gp, op, xp⟩ := made_shape mp; have zp := xp.size) | (go_at_call 47; refine (rright_two (some ⟨wp.heap.size, 0, none⟩) PS b 2 (wp.heap.size + 1) _ HN _ (Rd2.two rfl rfl (World.alloc_heap_new wp _) (Nat.lt_succ_self _) ((gp.alloc (Nat.le_refl _) _).more (Nat.le_succ _)) (((hR1.below (xp.mono (by omega))).alloc (by omega) _).more (by omega))) (by have := lP.out; omega)).mono ?_; rintro e wq ⟨rfl, nq, rfl⟩; have hOq := ((hOR.step xp).alloc (.cells #[.slice Ap PS.length cp, .slice (some ⟨b0, off, none⟩) b.length c] 22)).drewN nq; obtain ⟨old2, hold2, hgo2⟩ := id hOq.2))
        exact bodyPost_ret (res2 rfl rfl (is_load_run (setRow_heap _ _ _ _ _ _ hgo2) rfl)) rfl ⟨none, 0, by rw [HV.out, HE.out]; rfl, by rw [HV.out]; exact Made.nil _ _ (below_row (hBw.trans (hOq.b.mono hBw.size)) (by have := hBw.size; omega))⟩
      · have HE := Lib.hid (show badI PS b = 0 by rw [badI, if_neg h8, if_neg hM, ← HN.out]; rfl)
        have HV := Lib.hid (show prsI PS b = ⟨X0, X1, X4, D⟩ by rw [prsI, if_pos HE.out, HR.out])
        go_wp2_with (first
          | ((with_reducible show wpList _ _ _ (Oper.mk (some 19) (Op.load 41 _) _ _ _ _ :: _) _ _); refine wpList_val rfl (run_load_six rfl rfl (range_below at0 hzz0 hOR.b) h1) ?_)
          | ((with_reducible show wpList _ _ _ (Oper.mk (some 20) (Op.load 41 _) _ _ _ _ :: _) _ _); refine wpList_val rfl (run_load_six rfl rfl (range_below at1 hzz hOR.b) h2) ?_)
          | (go_at_call 32; refine (rJpsd src dst W 58 (b.length : Int) h1 h2).mono ?_; rintro e wp ⟨vp, rfl, mp⟩; rw [show psJ src dst 58 (b.length : Int) = PS from HPS.out.symm] at mp; obtain ⟨Ap, cp, rfl, gp, op, xp⟩ := made_shape mp; have zp := xp.size)
          | (go_at_call 47; refine (rright_two (some ⟨wp.heap.size, 0, none⟩) PS b 2 (wp.heap.size + 1) _ HN _ (Rd2.two rfl rfl (World.alloc_heap_new wp _) (Nat.lt_succ_self _) ((gp.alloc (Nat.le_refl _) _).more (Nat.le_succ _)) (((hR1.below (xp.mono (by omega))).alloc (by omega) _).more (by omega))) (by have := lP.out; omega)).mono ?_; rintro e wq ⟨rfl, nq, rfl⟩; have hOq := ((hOR.step xp).alloc (.cells #[.slice Ap PS.length cp, .slice (some ⟨b0, off, none⟩) b.length c] 22)).drewN nq; obtain ⟨old2, hold2, hgo2⟩ := id hOq.2)
          | (go_at_call 48; refine (rIread b (some ⟨b0, off, none⟩) c _ B (hR.below (hOq.b.mono hB)) (by have := hOq.lt; omega) hl (by omega)).mono ?_; rintro e w5 ⟨P5, p5, rfl, m5⟩; rw [HR.out] at m5; rw [HR.out]; have hO5 := hOq.step m5.below; obtain ⟨old3, hold3, hgo3⟩ := id hO5.2; have hlq := hOq.lt; have hq0 := hOq.b)
          | ((with_reducible show wpList _ _ _ (Oper.mk _ (Op.store 24 _ _) _ _ _ _ :: _) _ _); refine is_store (g := W0.heap.size) (cs := isa ⟨X0, X1, X4, D⟩ P5 p5) rfl rfl hgo3 hold3 rfl (is_one _ _ _) ?_))
        exact bodyPost_ret (res2 rfl rfl (is_load_run (setRow_heap _ _ _ _ _ _ hgo3) rfl)) rfl ⟨P5, p5, by rw [HV.out, HE.out]; rfl, by rw [HV.out]; exact (m5.row hq0 hlq).after hBw⟩
end
end Go.Proofs.Ytobkiffiapjhgaa
