/-
  Contracts and lemmas on which the proofs of this seat stand (several texts in one). Conditions are each theorem's own.
-/
import Derived.Test.YtkgbjohadkbjaaaWa6
import Derived.Lib.AppendZerosOnto
import Derived.Lib.Walk
import Derived.Lib.SliceRun
import Derived.Test.YtkgbjohadkbjaaaWa2
import Derived.WalkMore
import Derived.Test.YtkgbjohadkbjaaaWa4
import Derived.Test.YtkgbjohadkbjaaaWa3
import Derived.Great.BuildSlice
import Derived.OwnWalkIn
import Derived.Test.YtkgbjohadkbjaaaWa5

/-
  Contracts of layer 7's check and Build, the program's and the document's. Conditions are each theorem's own.
-/
namespace Go.Proofs.Ytkgbjohadkbjaaa
open Go.RowKit

theorem Rd2.two {w : World} {B g t n0 n1 : Nat} {A0 A1 : Option Addr} {c0 c1 : Nat} {b0 b1 : List UInt8} (h0 : n0 = b0.length) (h1 : n1 = b1.length)
    (hg : w.heap[g]? = some (.cells #[.slice A0 n0 c0, .slice A1 n1 c1] t (0, 0))) (hB : g < B) (a0 : Arg w B A0 c0 b0) (a1 : Arg w B A1 c1 b1) : Rd2 w B (some ⟨g, 0, none⟩) [b0, b1] := by
  subst h0; subst h1
  refine Rd2.of_cells hg hB fun j b hj => ?_
  match j, hj with
  | 0, hj => simp at hj; subst hj; exact ⟨A0, c0, rfl, a0⟩
  | 1, hj => simp at hj; subst hj; exact ⟨A1, c1, rfl, a1⟩
  | j + 2, hj => simp at hj
theorem bulk2 (a b : List UInt8) : bulk [a, b] = a.length + b.length := by simp [bulk]
theorem rof_two (A : Option Addr) (a b : List UInt8) (c B : Nat) (N : Int) (hN : Hid (N = 65535 - fold (psum [a, b]))) (w : World) (h : Rd2 w B A [a, b]) (hl : a.length + b.length ≤ 1099511627000) :
    Calls Try.prog 90 #[.slice A 2 c] w fun e w' => e = .returned (.int .i64 N) ∧ ∃ n, w' = w.drewN n := by
  have h1 := rof_any A [a, b] c B w h (by rw [bulk2]; omega) (by simp)
  rw [← hN.out] at h1
  exact h1
theorem rright_two (A : Option Addr) (a b : List UInt8) (c B : Nat) (N : Bool) (hN : Hid (N = rightB [a, b])) (w : World) (h : Rd2 w B A [a, b]) (hl : a.length + b.length ≤ 1099511627000) :
    Calls Try.prog 65 #[.slice A 2 c] w fun e w' => e = .returned (.bool N) ∧ ∃ n, w' = w.drewN n := by
  have h1 := rright_any A [a, b] c B w h (by rw [bulk2]; omega) (by simp)
  rw [← hN.out] at h1
  exact h1
section
variable (q : PU) (A : Option Addr) (c : Nat) (src dst : Int) (w : World)
set_option maxRecDepth 100000 in
set_option maxHeartbeats 1000000 in
theorem rUbytes (B : Nat) (s : Int) (bs : List UInt8) (hbs : Hid (bs = hdU q s ++ q.dat)) (ha : argU q) (hd : q.dat.length ≤ 65527) (s0 : 0 ≤ s) (s1 : s ≤ 65535) (hD : Arg w B A c q.dat) (hB0 : B ≤ w.heap.size) :
    Calls Try.prog 89 #[usv q A c, .int .i64 s] w fun e w' => ∃ v, e = .returned v ∧ Made w w' v bs := by
  have hB : Below w.heap.size w (w.alloc (.cells (usa q A c) 69)) := (Below.refl w.heap.size w).alloc (Nat.le_refl _) _
  have hAt := Atus.new (q := q) (A := A) (c := c) w
  have hz : w.heap.size < (w.alloc (.cells (usa q A c) 69)).heap.size := by simp
  rw [usv_eq]
  obtain ⟨a1, a2, a3, a4⟩ := ha
  obtain ⟨L1, h1⟩ : ∃ l, l = be2 q.src := ⟨_, rfl⟩
  obtain ⟨L2, h2⟩ : ∃ l, l = L1 ++ be2 q.dst := ⟨_, rfl⟩
  obtain ⟨L3, h3⟩ : ∃ l, l = L2 ++ be2 (8 + (q.dat.length : Int)) := ⟨_, rfl⟩
  obtain ⟨L4, h4⟩ : ∃ l, l = L3 ++ be2 s := ⟨_, rfl⟩
  have H1 := Lib.hid (show putB [] q.src 2 = L1 by rw [put_two a1 a2, h1]; rfl)
  have H2 := Lib.hid (show putB L1 q.dst 2 = L2 by rw [put_two a3 a4, h2])
  have H3 := Lib.hid (show putB L2 (8 + (q.dat.length : Int)) 2 = L3 by rw [put_two (by omega) (by omega), h3])
  have H4 := Lib.hid (show putB L3 s 2 = L4 by rw [put_two s0 s1, h4])
  have H5 := Lib.hid (show bs = L4 ++ q.dat by rw [hbs.out, h4, h3, h2, h1]; rfl)
  have l1 : L1.length ≤ 2 := by rw [h1]; simp [be2]
  have l2 : L2.length ≤ 4 := by rw [h2, List.length_append]; simp [be2]; omega
  have l3 : L3.length ≤ 6 := by rw [h3, List.length_append]; simp [be2]; omega
  have l4 : L4.length ≤ 8 := by rw [h4, List.length_append]; simp [be2]; omega
  clear h1 h2 h3 h4 hbs
  go_enter Try.func89, Try.ntmps89
  go_wp2_with fail
  generalize w.alloc (.cells (usa q A c) 69) = W at *
  refine wp_region_held_drew (S := fun w' => Below W.heap.size W w') (by kernel_rfl) (Below.refl _ W).drew (fun hS => ?_)
  refine held_pure (i := 0) (oi := ⟨some 6, _, _, _, _, _⟩) rfl (by kernel_rfl) (by kernel_rfl) (by kernel_rfl) (fun _ _ _ h => h) (by rfl) (v := ?_) (fun w hSw => ?_) hS (fun hS => ?_)
  rotate_left
  · go_simp; try with_reducible rfl
  try go_frame
  refine held_pure (i := 1) (oi := ⟨some 7, _, _, _, _, _⟩) rfl (by kernel_rfl) (by kernel_rfl) (by kernel_rfl) (fun _ _ _ h => h) (by rfl) (fun w hSw => run_load_int rfl rfl ((hAt.below hSw (by omega)).src)) hS (fun hS => ?_)
  try go_frame
  refine held_pure (i := 3) (oi := ⟨some 9, _, _, _, _, _⟩) rfl (by kernel_rfl) (by kernel_rfl) (by kernel_rfl) (fun _ _ _ h => h) (by rfl) (v := ?_) (fun w hSw => ?_) hS (fun hS => ?_)
  rotate_left
  · go_simp; try with_reducible rfl
  try go_frame
  refine held_pure (i := 4) (oi := ⟨some 10, _, _, _, _, _⟩) rfl (by kernel_rfl) (by kernel_rfl) (by kernel_rfl) (fun _ _ _ h => h) (by rfl) (fun w hSw => run_load_int rfl rfl ((hAt.below hSw (by omega)).dst)) hS (fun hS => ?_)
  try go_frame
  refine wpAnyH_ready (rs := [2]) (by kernel_rfl) (by simp) (AllReadyH.cons (o := ⟨some 8, _, _, _, _, _⟩) rfl (fun K hK => ?_) AllReadyH.nil)
  rw [if_pos (by rfl)]
  go_simp
  refine (rput_nil q.src 2 _).mono ?_
  rintro e w2 ⟨v2, rfl, m2⟩
  rw [H1.out] at m2
  obtain ⟨A2, c2, rfl, g2, o2, x2⟩ := made_shape m2
  show K _ _
  refine hK.out _ _ (below_step hS x2) (fun hS => ?_)
  clear hK K
  try go_frame
  refine wpAnyH_ready (rs := [5]) (by kernel_rfl) (by simp) (AllReadyH.cons (o := ⟨some 11, _, _, _, _, _⟩) rfl (fun K hK => ?_) AllReadyH.nil)
  rw [if_pos (by rfl)]
  go_simp
  refine (rput_any A2 L1 c2 _ q.dst 2 _ g2 (by omega)).mono ?_
  rintro e w5 ⟨v5, rfl, m5⟩
  rw [H2.out] at m5
  obtain ⟨A5, c5, rfl, g5, o5, x5⟩ := made_shape m5
  show K _ _
  refine hK.out _ _ (below_step hS x5) (fun hS => ?_)
  clear hK K
  try go_frame
  refine held_pure (i := 6) (oi := ⟨some 5, _, _, _, _, _⟩) rfl (by kernel_rfl) (by kernel_rfl) (by kernel_rfl) (fun _ _ _ h => h) (by rfl) (v := ?_) (fun w hSw => ?_) hS (fun hS => ?_)
  rotate_left
  · go_simp; try with_reducible rfl
  try go_frame
  refine wpAnyH_done (by kernel_rfl) ?_ _
  have k3 := (hAt.below hS (by omega)).dat
  go_upto_region 3 with (first
    | (go_at_call 84; ((with_reducible refine (rput_any A5 L2 c5 _ (8 + (q.dat.length : Int)) 2 _ g5 (by omega)).mono ?_); rintro e w6 ⟨v6, rfl, m6⟩; rw [H3.out] at m6; obtain ⟨A6, c6, rfl, g6, o6, x6⟩ := made_shape m6))
    | (go_at_call 84; ((with_reducible refine (rput_any A6 L3 c6 _ s 2 _ g6 (by omega)).mono ?_); rintro e w7 ⟨v7, rfl, m7⟩; rw [H4.out] at m7; obtain ⟨A7, c7, rfl, g7, o7, x7⟩ := made_shape m7)))
  have x57 : Below W.heap.size W w7 := hS.trans ((x6.trans (x7.mono x6.size)).mono hS.size)
  have k4 := (hAt.below x57 (by omega)).dat
  have hD7 := hD.below ((hB.trans (x57.mono (by omega))).mono hB0)
  clear k3
  go_wp2_with (at_builtin; refine append_rd rfl _ _ rfl w6.heap.size _ _ _ rfl o7 B A c q.dat rfl hD.none_ hD7.rd (by omega) x7.size ?_; intro v8 w8 own8 grow8)
  go_ret
  have own9 := own_base own8 (show w.heap.size ≤ w6.heap.size by have := x6.size; have := hS.size; omega)
  have x8 := (hB.trans (x57.mono (by omega))).grown grow8 (by have := x57.size; omega) (fun k hk => by have := own_block_ge o7 k hk; have := x6.size; have := hS.size; omega)
  obtain ⟨A8, c8, rfl, owm8⟩ := own_made (bs := bs) own9 (by rw [H5.out]; simp) (by rw [H5.out, row_append])
  exact ⟨_, rfl, Made.of_own owm8 x8⟩
end
end Go.Proofs.Ytkgbjohadkbjaaa

/-
  Contracts of the document's Build of layer 7, and of udp's reader. Conditions are each theorem's own.
-/
namespace Go.Proofs.Ytkgbjohadkbjaaa
open Go.RowKit

section
variable (q : PU) (A : Option Addr) (c : Nat) (src dst : Int) (w : World)
set_option maxRecDepth 100000 in
set_option maxHeartbeats 1000000 in
theorem rUbuild (B : Nat) (hD : Arg w B A c q.dat) (hB0 : B ≤ w.heap.size) (hl : q.dat.length ≤ 1000000) :
    Calls Try.prog 61 #[.int .i64 src, .int .i64 dst, usv q A c] w fun e w' => ∃ v, e = .returned (.tuple #[v, .int .i64 (chkU q)]) ∧ (chkU q ≠ 0 → v = .slice none 0 0 ∧ Below w.heap.size w w') ∧ (chkU q = 0 → Made w w' v (bldU src dst q)) := by
  have hB : Below w.heap.size w (w.alloc (.cells (usa q A c) 69)) := (Below.refl w.heap.size w).alloc (Nat.le_refl _) _
  have hAt := Atus.new (q := q) (A := A) (c := c) w
  have hz : w.heap.size < (w.alloc (.cells (usa q A c) 69)).heap.size := by simp
  rw [usv_eq]
  go_enter Try.func61, Try.ntmps61
  go_upto_region 1 with fail
  generalize w.alloc (.cells (usa q A c) 69) = W at *
  by_cases hc : chkU q = 0
  · obtain ⟨ha, hd⟩ := chkU_ok hc
    have HC := Lib.hid hc
    clear hc
    obtain ⟨B0, hb0⟩ : ∃ l, l = hdU q 0 ++ q.dat := ⟨_, rfl⟩
    have HB0 := Lib.hid hb0
    have lB : Hid (B0.length = 8 + q.dat.length) := Lib.hid (by rw [hb0, List.length_append, hdU_len])
    have HSM := Lib.hid (show smU src dst q = 65535 - fold (psum [psd src dst 17 (B0.length : Int), B0]) by rw [lB.out, hb0]; exact (smU_two src dst q).symm)
    clear hb0
    have bd := smU_bd src dst q
    have bk := ckU_bd src dst q
    have hD1 : ∀ X : World, Below W.heap.size W X → Arg X B A c q.dat := fun X hX => hD.below ((hB.trans (hX.mono (by omega))).mono hB0)
    go_upto_region 4 with (first
      | ((with_reducible show wpList _ _ _ (Oper.mk _ (Op.load 69 _) _ _ _ _ :: _) _ _); refine wpList_val rfl (run_load_us rfl rfl hAt rfl) ?_)
      | (go_at_call 88; refine (rUcheck q A c _ hl).mono ?_; rintro e w1 ⟨rfl, x1⟩; rw [HC.out]))
    have hAt1 := hAt.below x1 hz
    go_upto_region 5 with (first
      | ((with_reducible show wpList _ _ _ (Oper.mk _ (Op.load 69 _) _ _ _ _ :: _) _ _); refine wpList_val rfl (run_load_us rfl rfl hAt1 rfl) ?_)
      | (go_at_call 89; refine (rUbytes q A c _ B 0 B0 HB0 ha hd (by omega) (by omega) (hD1 _ x1) (by have := x1.size; omega)).mono ?_; rintro e w2 ⟨v2, rfl, m2⟩; obtain ⟨A2, c2, rfl, g2, o2, x2⟩ := made_shape m2))
    have x12 := x1.trans (x2.mono x1.size)
    have hAt2 := hAt.below x12 hz
    have k2 := hAt2.nosum
    cases hn : q.nosum
    · rw [hn] at k2
      have HN := Lib.hid hn
      clear hn
      go_upto_region 8 with (first
        | (go_at_call 66; refine (rpsd_any src dst 17 (B0.length : Int) _).mono ?_; rintro e w3 ⟨v3, rfl, m3⟩; obtain ⟨A3, c3, rfl, g3, o3, x3⟩ := made_shape m3)
        | (go_at_call 90; refine (rof_two (some ⟨w3.heap.size, 0, none⟩) (psd src dst 17 (B0.length : Int)) B0 2 (w3.heap.size + 1) (smU src dst q) HSM _ (Rd2.two rfl rfl (World.alloc_heap_new w3 _) (Nat.lt_succ_self _) ((g3.alloc (Nat.le_refl _) _).more (Nat.le_succ _)) (((g2.below x3).alloc x3.size _).more (by have := x3.size; omega))) (by rw [psd_len]; have := lB.out; omega)).mono ?_; rintro e w4 ⟨rfl, n4, rfl⟩))
      have x3a : Below W.heap.size W ((w3.alloc (.cells #[.slice A3 (psd src dst 17 (B0.length : Int)).length c3, .slice A2 B0.length c2] 45)).drewN n4) := below_drewN ((x12.trans (x3.mono x12.size)).alloc (by have := x12.size; have := x3.size; omega) _) _
      have hzz := x3a.size
      generalize (w3.alloc (.cells #[.slice A3 (psd src dst 17 (B0.length : Int)).length c3, .slice A2 B0.length c2] 45)).drewN n4 = W4 at *
      have hAt4 := hAt.below x3a hz
      obtain ⟨N, hN⟩ : ∃ n, n = smU src dst q := ⟨_, rfl⟩
      have HBL := Lib.hid (show bldU src dst q = hdU q (ckU src dst q) ++ q.dat from rfl)
      rw [← hN]
      have HNN := Lib.hid hN
      clear hN
      by_cases h0 : N = 0
      · have e0 : (N == 0) = true := by simpa using h0
        have HE := Lib.hid (show ckU src dst q = 65535 by rw [ckU, HN.out, ← HNN.out, if_pos h0]; rfl)
        rw [HE.out] at HBL
        clear h0
        go_wp2_with (first
          | ((with_reducible show wpList _ _ _ (Oper.mk _ (Op.load 69 _) _ _ _ _ :: _) _ _); refine wpList_val rfl (run_load_us rfl rfl hAt4 rfl) ?_)
          | (go_at_call 89; refine (rUbytes q A c _ B 65535 (bldU src dst q) HBL ha hd (by omega) (by omega) (hD1 _ x3a) (by omega)).mono ?_; rintro e w5 ⟨v5, rfl, m5⟩))
        go_ret2
        exact ⟨v5, by rw [HC.out]; rfl, fun h => absurd HC.out h, fun _ => m5.after (hB.trans (x3a.mono (by omega)))⟩
      · have e0 : (N == 0) = false := by simpa using h0
        have HE := Lib.hid (show ckU src dst q = N by rw [ckU, HN.out, ← HNN.out, if_neg h0]; rfl)
        rw [HE.out] at HBL bk
        clear h0
        go_wp2_with (first
          | ((with_reducible show wpList _ _ _ (Oper.mk _ (Op.load 69 _) _ _ _ _ :: _) _ _); refine wpList_val rfl (run_load_us rfl rfl hAt4 rfl) ?_)
          | (go_at_call 89; refine (rUbytes q A c _ B N (bldU src dst q) HBL ha hd bk.1 bk.2 (hD1 _ x3a) (by omega)).mono ?_; rintro e w5 ⟨v5, rfl, m5⟩))
        go_ret2
        exact ⟨v5, by rw [HC.out]; rfl, fun h => absurd HC.out h, fun _ => m5.after (hB.trans (x3a.mono (by omega)))⟩
    · rw [hn] at k2
      have HE := Lib.hid (show bldU src dst q = B0 by rw [bldU, ckU, hn, HB0.out]; rfl)
      clear hn
      go_wp2_with fail
      go_ret2
      exact ⟨.slice A2 B0.length c2, by rw [HC.out]; rfl, fun h => absurd HC.out h, fun _ => by rw [HE.out]; exact m2.after (hB.trans (x1.mono (by omega)))⟩
  · have hne : (chkU q != 0) = true := by simpa using hc
    have HN := Lib.hid hc
    clear hc
    go_wp2_with (first
      | ((with_reducible show wpList _ _ _ (Oper.mk _ (Op.load 69 _) _ _ _ _ :: _) _ _); refine wpList_val rfl (run_load_us rfl rfl hAt rfl) ?_)
      | (go_at_call 88; refine (rUcheck q A c _ hl).mono ?_; rintro e w1 ⟨rfl, x1⟩; skip))
    go_ret2
    exact ⟨.slice none 0 0, rfl, fun _ => ⟨rfl, hB.trans (x1.mono (by omega))⟩, fun h => absurd h HN.out⟩
end
/-- What a reader holds: its bytes, and where it is. -/
def RdrS (W : World) (g : Nat) (A : Option Addr) (n c : Nat) (k : Int) : Prop := W.heap[g]? = some (.cells #[.slice A n c] 45 (0, 0)) ∧ W.heap[g + 1]? = some (.cells #[.int .i64 k] 3 (0, 0))
end Go.Proofs.Ytkgbjohadkbjaaa

/-
  Contract of udp.Parse. Conditions are each theorem's own.
-/
namespace Go.Proofs.Ytkgbjohadkbjaaa
open Go.RowKit

theorem RdrS.alloc {w : World} {g n c : Nat} {A : Option Addr} {k : Int} (h : RdrS w g A n c k) (o : Obj) : RdrS (w.alloc o) g A n c k :=
  ⟨(Below.heap_alloc w o g (heap_lt h.1)).trans h.1, (Below.heap_alloc w o (g + 1) (heap_lt h.2)).trans h.2⟩
section
variable (b : List UInt8) (A : Option Addr) (c : Nat) (src dst : Int) (w : World)
end
end Go.Proofs.Ytkgbjohadkbjaaa

/-
  Contract of the document's Parse of layer 7. Conditions are each theorem's own.
-/
namespace Go.Proofs.Ytkgbjohadkbjaaa
open Go.RowKit

section
variable (b : List UInt8) (A : Option Addr) (c : Nat) (src dst : Int) (w : World)
set_option maxRecDepth 100000 in
set_option maxHeartbeats 2000000 in
theorem rUparse (B : Nat) (hR : Arg w B A c b) (hB : B ≤ w.heap.size) (hl : b.length ≤ 1000000) :
    Calls Try.prog 37 #[.int .i64 src, .int .i64 dst, .slice A b.length c] w fun e w' => ∃ P p, e = .returned (.tuple #[usv (prsU src dst b) P p, .int .i64 (badU src dst b)]) ∧ Made w w' (.slice P (prsU src dst b).dat.length p) (prsU src dst b).dat := by
  have hBW : Below w.heap.size w (w.alloc (.cells (usa usz none 0) 69)) := (Below.refl w.heap.size w).alloc (Nat.le_refl _) _
  have hg := World.alloc_heap_new w (.cells (usa usz none 0) 69)
  have hz : w.heap.size < (w.alloc (.cells (usa usz none 0) 69)).heap.size := by simp
  have hcap := hR.cap
  go_enter Try.func37, Try.ntmps37
  go_upto_region 1 with fail
  rw [show #[.int .i64 0, .int .i64 0, .bool false, .slice none 0 0] = usa usz none 0 from rfl]
  generalize w.alloc (.cells (usa usz none 0) 69) = W at *
  have hR1 := hR.below (hBW.mono hB)
  by_cases h8 : b.length < 8
  · have d8 : decide ((b.length : Int) < 8) = true := by simp; omega
    have HE := Lib.hid (show badU src dst b = 3 by rw [badU, if_pos h8])
    have HV := Lib.hid (show prsU src dst b = usz by rw [prsU, HE.out]; rfl)
    go_wp2_with (first | ((with_reducible show wpList _ _ _ (Oper.mk _ (Op.store 69 _ _) _ _ _ _ :: _) _ _); refine us_store (g := w.heap.size) (cs := usa usz none 0) rfl rfl hg rfl rfl (us_one _ _ _) ?_))
    exact bodyPost_ret (res2 rfl rfl (us_load_run (setRow_heap _ _ _ _ _ _ hg) rfl)) rfl ⟨none, 0, by rw [HV.out, HE.out]; rfl, by rw [HV.out]; exact Made.nil _ _ (below_row hBW (Nat.le_refl _))⟩
  · have d8 : decide ((b.length : Int) < 8) = false := by simp; omega
    have G0 := Lib.hid (show getV b 0 2 = n2 b 0 from get_two (b := b) (i := 0) (by omega))
    have G2 := Lib.hid (show getV b 2 2 = n2 b 2 from get_two (b := b) (i := 2) (by omega))
    have G4 := Lib.hid (show getV b 4 2 = n2 b 4 from get_two (b := b) (i := 4) (by omega))
    have G6 := Lib.hid (show getV b 6 2 = n2 b 6 from get_two (b := b) (i := 6) (by omega))
    obtain ⟨X0, hX0⟩ : ∃ n, n = n2 b 0 := ⟨_, rfl⟩
    obtain ⟨X2, hX2⟩ : ∃ n, n = n2 b 2 := ⟨_, rfl⟩
    obtain ⟨Z4, hZ4⟩ : ∃ n, n = n2 b 4 := ⟨_, rfl⟩
    obtain ⟨Z, hZ⟩ : ∃ n, n = n2 b 6 := ⟨_, rfl⟩
    obtain ⟨D, hD⟩ : ∃ l, l = b.drop 8 := ⟨_, rfl⟩
    rw [← hX0] at G0
    rw [← hX2] at G2
    rw [← hZ4] at G4
    rw [← hZ] at G6
    have HX0 := Lib.hid hX0.symm; have HX2 := Lib.hid hX2.symm; have HX4 := Lib.hid hZ4.symm; have HX6 := Lib.hid hZ.symm
    have HDd := Lib.hid hD
    have HDl := Lib.hid (show D.length = b.length - 8 by rw [hD, List.length_drop])
    clear hX0 hX2 hZ4 hZ hD
    go_upto_region 4 with (go_at_call 64; ((with_reducible refine (rget_any A b c B 4 2 _ hR1.rd (by omega)).mono ?_); rintro e w' ⟨rfl, rfl⟩; rw [show getV b 4 2 = Z4 from G4.out]))
    by_cases h7 : Z4 < 8
    · have d1 : decide (Z4 < 8) = true := by simpa using h7
      have HE := Lib.hid (show badU src dst b = 4 by rw [badU, if_neg h8, if_neg (by rw [HX4.out]; omega), if_pos (by rw [HX4.out]; omega)])
      have HV := Lib.hid (show prsU src dst b = usz by rw [prsU, HE.out]; rfl)
      go_wp2_with (first | ((with_reducible show wpList _ _ _ (Oper.mk _ (Op.store 69 _ _) _ _ _ _ :: _) _ _); refine us_store (g := w.heap.size) (cs := usa usz none 0) rfl rfl hg rfl rfl (us_one _ _ _) ?_))
      exact bodyPost_ret (res2 rfl rfl (us_load_run (setRow_heap _ _ _ _ _ _ hg) rfl)) rfl ⟨none, 0, by rw [HV.out, HE.out]; rfl, by rw [HV.out]; exact Made.nil _ _ (below_row hBW (Nat.le_refl _))⟩
    · have d1 : decide (Z4 < 8) = false := by simpa using h7
      rcases Int.lt_trichotomy (b.length : Int) Z4 with s1 | s1 | s1
      · have d2 : decide ((b.length : Int) < Z4) = true := by simpa using s1
        have HE := Lib.hid (show badU src dst b = 3 by rw [badU, if_neg h8, if_pos (by rw [HX4.out]; exact s1)])
        have HV := Lib.hid (show prsU src dst b = usz by rw [prsU, HE.out]; rfl)
        go_wp2_with (first | ((with_reducible show wpList _ _ _ (Oper.mk _ (Op.store 69 _ _) _ _ _ _ :: _) _ _); refine us_store (g := w.heap.size) (cs := usa usz none 0) rfl rfl hg rfl rfl (us_one _ _ _) ?_))
        exact bodyPost_ret (res2 rfl rfl (us_load_run (setRow_heap _ _ _ _ _ _ hg) rfl)) rfl ⟨none, 0, by rw [HV.out, HE.out]; rfl, by rw [HV.out]; exact Made.nil _ _ (below_row hBW (Nat.le_refl _))⟩
      · subst s1
        have d2 : decide ((b.length : Int) < (b.length : Int)) = false := by simp
        go_upto_region 11 with (first | (go_at_call 64; ((with_reducible refine (rget_any A b c B 4 2 _ hR1.rd (by omega)).mono ?_); rintro e w' ⟨rfl, rfl⟩; rw [show getV b 4 2 = (b.length : Int) from G4.out])) | (go_at_call 64; ((with_reducible refine (rget_any A b c B 6 2 _ hR1.rd (by omega)).mono ?_); rintro e w' ⟨rfl, rfl⟩; rw [show getV b 6 2 = Z from G6.out])))
        refine wp_region_held_drew (S := fun w' => Below W.heap.size W w') (by kernel_rfl) (Below.refl _ W).drew (fun hS => ?_)
        by_cases hz0 : Z = 0
        · have e0 : (Z != 0) = false := by simpa using hz0
          have e1 : (Z == 0) = true := by simpa using hz0
          have HNS : decide (Z = 0) = true := by simpa using hz0
          have HE := Lib.hid (show badU src dst b = 0 by rw [badU, if_neg h8, if_neg (by rw [HX4.out]; omega), if_neg (by rw [HX4.out]; omega), if_neg (by rw [HX6.out]; intro h; exact h.1 hz0)])
          clear hz0
          refine held_pure (i := 0) (oi := ⟨some 43, _, _, _, _, _⟩) rfl (by kernel_rfl) (by kernel_rfl) (by kernel_rfl) (fun _ _ _ h => h) (by rfl) (v := ?_) (fun w hSw => ?_) hS (fun hS => ?_)
          rotate_left
          · go_simp; try with_reducible rfl
          try go_frame
          refine held_pure (i := 1) (oi := ⟨some 44, _, _, _, _, _⟩) rfl (by kernel_rfl) (by kernel_rfl) (by kernel_rfl) (fun _ _ _ h => h) (by rfl) (v := ?_) (fun w hSw => ?_) hS (fun hS => ?_)
          rotate_left
          · go_simp; try with_reducible rfl
          try go_frame
          refine held_pure (i := 2) (oi := ⟨some 45, _, _, _, _, _⟩) rfl (by kernel_rfl) (by kernel_rfl) (by kernel_rfl) (fun _ _ _ h => h) (by rfl) (v := ?_) (fun w hSw => ?_) hS (fun hS => ?_)
          rotate_left
          · go_simp; try with_reducible rfl
          try go_frame
          refine held_skip (i := 3) (oi := ⟨some 46, _, _, _, _, _⟩) rfl (by kernel_rfl) (by kernel_rfl) (by kernel_rfl) (fun _ _ _ h => h) (by rfl) hS (fun hS => ?_)
          try go_frame
          refine held_skip (i := 4) (oi := ⟨some 47, _, _, _, _, _⟩) rfl (by kernel_rfl) (by kernel_rfl) (by kernel_rfl) (fun _ _ _ h => h) (by rfl) hS (fun hS => ?_)
          try go_frame
          refine held_skip (i := 5) (oi := ⟨some 48, _, _, _, _, _⟩) rfl (by kernel_rfl) (by kernel_rfl) (by kernel_rfl) (fun _ _ _ h => h) (by rfl) hS (fun hS => ?_)
          try go_frame
          refine held_skip (i := 6) (oi := ⟨some 49, _, _, _, _, _⟩) rfl (by kernel_rfl) (by kernel_rfl) (by kernel_rfl) (fun _ _ _ h => h) (by rfl) hS (fun hS => ?_)
          try go_frame
          refine held_skip (i := 7) (oi := ⟨some 50, _, _, _, _, _⟩) rfl (by kernel_rfl) (by kernel_rfl) (by kernel_rfl) (fun _ _ _ h => h) (by rfl) hS (fun hS => ?_)
          try go_frame
          refine held_skip (i := 8) (oi := ⟨some 51, _, _, _, _, _⟩) rfl (by kernel_rfl) (by kernel_rfl) (by kernel_rfl) (fun _ _ _ h => h) (by rfl) hS (fun hS => ?_)
          try go_frame
          refine held_skip (i := 9) (oi := ⟨some 52, _, _, _, _, _⟩) rfl (by kernel_rfl) (by kernel_rfl) (by kernel_rfl) (fun _ _ _ h => h) (by rfl) hS (fun hS => ?_)
          try go_frame
          refine held_skip (i := 10) (oi := ⟨some 53, _, _, _, _, _⟩) rfl (by kernel_rfl) (by kernel_rfl) (by kernel_rfl) (fun _ _ _ h => h) (by rfl) hS (fun hS => ?_)
          try go_frame
          refine held_skip (i := 11) (oi := ⟨some 54, _, _, _, _, _⟩) rfl (by kernel_rfl) (by kernel_rfl) (by kernel_rfl) (fun _ _ _ h => h) (by rfl) hS (fun hS => ?_)
          try go_frame
          refine held_skip (i := 12) (oi := ⟨some 55, _, _, _, _, _⟩) rfl (by kernel_rfl) (by kernel_rfl) (by kernel_rfl) (fun _ _ _ h => h) (by rfl) hS (fun hS => ?_)
          try go_frame
          refine held_pure (i := 13) (oi := ⟨some 56, _, _, _, _, _⟩) rfl (by kernel_rfl) (by kernel_rfl) (by kernel_rfl) (fun _ _ _ h => h) (by rfl) (v := ?_) (fun w hSw => ?_) hS (fun hS => ?_)
          rotate_left
          · go_simp; try with_reducible rfl
          try go_frame
          refine wpAnyH_done (by kernel_rfl) ?_ _
          have HV := Lib.hid (show prsU src dst b = ⟨X0, X2, true, D⟩ by rw [prsU, if_pos HE.out, rawU, HX0.out, HX2.out, HX6.out, HNS, HDd.out])
          have xq := hS
          obtain ⟨Wq, hWq⟩ : ∃ X : World, X = W.drew := ⟨_, rfl⟩
          rw [← hWq] at xq ⊢
          clear hWq hS
          have hRq := hR1.below (xq.mono (by omega))
          have hbq := hBW.trans (xq.mono (by omega))
          have hgq := (xq.block w.heap.size (by omega)).trans hg
          have hDq := (hR.cut_lo 8).below (hbq.mono hB)
          rw [← HDd.out] at hDq
          have hzq := xq.size
          go_wp2_with (first
            | (go_at_call 64; ((with_reducible refine (rget_any A b c B 0 2 _ hRq.rd (by omega)).mono ?_); rintro e w' ⟨rfl, rfl⟩; rw [show getV b 0 2 = X0 from G0.out]))
            | (go_at_call 64; ((with_reducible refine (rget_any A b c B 2 2 _ hRq.rd (by omega)).mono ?_); rintro e w' ⟨rfl, rfl⟩; rw [show getV b 2 2 = X2 from G2.out]))
            | ((with_reducible show wpList _ _ _ (Oper.mk _ (Op.slice _ _ _ _ _) _ _ _ _ :: _) _ _); (refine wpList_val rfl (run_cut_lh rfl rfl rfl rfl (l := 8) (h := (b.length : Int)) (by omega) (by omega) (by omega) (m := D.length) (by have := HDl.out; omega)) ?_))
            | (at_builtin; refine append_rd rfl _ _ rfl Wq.heap.size (.slice none 0 0) 0 [] rfl (World.ownsRow_nil _ _ _ _) B (cutA A c 8) (c - 8) D rfl hDq.none_ hDq.rd (by have := HDl.out; omega) (Nat.le_refl _) ?_; intro v8 w8 own8 grow8; obtain ⟨P, p, rfl, owm8⟩ := own_made (bs := D) own8 (by simp) (by simp); have x8 : Below Wq.heap.size Wq w8 := (Below.refl Wq.heap.size Wq).grown grow8 (Nat.le_refl _) (fun k hk => by cases hk); have hr8 := (x8.block w.heap.size (by omega)).trans hgq)
            | ((with_reducible show wpList _ _ _ (Oper.mk _ (Op.store 69 _ _) _ _ _ _ :: _) _ _); refine us_store (g := w.heap.size) (cs := usa ⟨X0, X2, true, D⟩ P p) rfl rfl hr8 rfl rfl (us_one _ _ _) ?_))
          have o9 := own_setRow owm8 (g := w.heap.size) (cs := usa ⟨X0, X2, true, D⟩ P p) (by omega)
          exact bodyPost_ret (res2 rfl rfl (us_load_run (setRow_heap _ _ _ _ _ _ hr8) rfl)) rfl ⟨P, p, by rw [HV.out, HE.out]; rfl, by rw [HV.out]; exact Made.of_own (own_base o9 (by omega)) (below_row (hbq.trans (x8.mono (by omega))) (Nat.le_refl _))⟩
        · have e0 : (Z != 0) = true := by simpa using hz0
          have e1 : (Z == 0) = false := by simpa using hz0
          have HNS : decide (Z = 0) = false := by simpa using hz0
          obtain ⟨N, hN⟩ : ∃ n, n = rightB [psd src dst 17 (b.length : Int), b] := ⟨_, rfl⟩
          have HN := Lib.hid hN
          have HBD := Lib.hid (show badU src dst b = if N = false then 5 else 0 by rw [badU, if_neg h8, if_neg (by rw [HX4.out]; omega), if_neg (by rw [HX4.out]; omega), HX6.out, HX4.out, ← hN]; simp [hz0])
          clear hN hz0
          cases N
          · have HE := Lib.hid (show badU src dst b = 5 by rw [HBD.out]; rfl)
            have HV := Lib.hid (show prsU src dst b = usz by rw [prsU, HE.out]; rfl)
            refine held_pure (i := 0) (oi := ⟨some 43, _, _, _, _, _⟩) rfl (by kernel_rfl) (by kernel_rfl) (by kernel_rfl) (fun _ _ _ h => h) (by rfl) (v := ?_) (fun w hSw => ?_) hS (fun hS => ?_)
            rotate_left
            · go_simp; try with_reducible rfl
            try go_frame
            refine held_pure (i := 1) (oi := ⟨some 44, _, _, _, _, _⟩) rfl (by kernel_rfl) (by kernel_rfl) (by kernel_rfl) (fun _ _ _ h => h) (by rfl) (v := ?_) (fun w hSw => ?_) hS (fun hS => ?_)
            rotate_left
            · go_simp; try with_reducible rfl
            try go_frame
            refine held_pure (i := 2) (oi := ⟨some 45, _, _, _, _, _⟩) rfl (by kernel_rfl) (by kernel_rfl) (by kernel_rfl) (fun _ _ _ h => h) (by rfl) (v := ?_) (fun w hSw => ?_) hS (fun hS => ?_)
            rotate_left
            · go_simp; try with_reducible rfl
            try go_frame
            refine held_pure (i := 3) (oi := ⟨some 46, _, _, _, _, _⟩) rfl (by kernel_rfl) (by kernel_rfl) (by kernel_rfl) (fun _ _ _ h => h) (by rfl) (v := ?_) (fun w hSw => ?_) hS (fun hS => ?_)
            rotate_left
            · go_simp; try with_reducible rfl
            try go_frame
            refine held_pure (i := 4) (oi := ⟨some 47, _, _, _, _, _⟩) rfl (by kernel_rfl) (by kernel_rfl) (by kernel_rfl) (fun _ _ _ h => h) (by rfl) (v := ?_) (fun w hSw => ?_) hS (fun hS => ?_)
            rotate_left
            · go_simp; try with_reducible rfl
            try go_frame
            refine held_pure (i := 5) (oi := ⟨some 48, _, _, _, _, _⟩) rfl (by kernel_rfl) (by kernel_rfl) (by kernel_rfl) (fun _ _ _ h => h) (by rfl) (v := ?_) (fun w hSw => ?_) hS (fun hS => ?_)
            rotate_left
            · go_simp; try with_reducible rfl
            try go_frame
            refine held_pure (i := 7) (oi := ⟨some 50, _, _, _, _, _⟩) rfl (by kernel_rfl) (by kernel_rfl) (by kernel_rfl) (fun _ _ _ h => h) (by rfl) (v := ?_) (fun w hSw => ?_) hS (fun hS => ?_)
            rotate_left
            · go_simp; try with_reducible rfl
            try go_frame
            refine held_pure (i := 8) (oi := ⟨some 51, _, _, _, _, _⟩) rfl (by kernel_rfl) (by kernel_rfl) (by kernel_rfl) (fun _ _ _ h => h) (by rfl) (v := ?_) (fun w hSw => ?_) hS (fun hS => ?_)
            rotate_left
            · go_simp; try with_reducible rfl
            try go_frame
            refine held_pure (i := 9) (oi := ⟨some 52, _, _, _, _, _⟩) rfl (by kernel_rfl) (by kernel_rfl) (by kernel_rfl) (fun _ _ _ h => h) (by rfl) (fun w hSw => run_cut_h rfl rfl rfl (h := (b.length : Int)) (by omega) (by omega) (m := b.length) (by omega)) hS (fun hS => ?_)
            try go_frame
            refine wpAnyH_ready (rs := [6]) (by kernel_rfl) (by simp) (AllReadyH.cons (o := ⟨some 49, _, _, _, _, _⟩) rfl (fun K hK => ?_) AllReadyH.nil)
            rw [if_pos (by rfl)]
            go_simp
            refine (rpsd_any src dst 17 (b.length : Int) _).mono ?_
            rintro e wp ⟨vp, rfl, mp⟩
            obtain ⟨Ap, cp, rfl, gp, op, xp⟩ := made_shape mp
            have hSp := below_step hS xp
            show K _ _
            refine hK.out _ _ (below_step hS xp) (fun hS => ?_)
            clear hK K
            try go_frame
            refine wpAnyH_ready (rs := [10]) (by kernel_rfl) (by simp) (AllReadyH.cons (o := ⟨some 53, _, _, _, _, _⟩) rfl (fun K hK => ?_) AllReadyH.nil)
            rw [if_pos (by rfl)]
            go_simp
            refine hK.out _ _ (hS.alloc hS.size _) (fun hS => ?_)
            clear hK K
            try go_frame
            refine wpAnyH_ready (rs := [11]) (by kernel_rfl) (by simp) (AllReadyH.cons (o := ⟨some 54, _, _, _, _, _⟩) rfl (fun K hK => ?_) AllReadyH.nil)
            rw [if_pos (by rfl)]
            go_simp
            refine (rright_two (some ⟨wp.heap.size, 0, none⟩) (psd src dst 17 (b.length : Int)) b 2 (wp.heap.size + 1) _ HN _ (Rd2.two rfl rfl (World.alloc_heap_new wp _) (Nat.lt_succ_self _) ((gp.alloc (Nat.le_refl _) _).more (Nat.le_succ _)) (((hR1.below (hSp.mono (by omega))).alloc (by have := hSp.size; omega) _).more (by have := hSp.size; omega))) (by rw [psd_len]; omega)).mono ?_
            rintro e wq ⟨rfl, nq, rfl⟩
            show K _ _
            refine hK.out _ _ (below_drewN hS _) (fun hS => ?_)
            clear hK K
            try go_frame
            refine held_pure (i := 12) (oi := ⟨some 55, _, _, _, _, _⟩) rfl (by kernel_rfl) (by kernel_rfl) (by kernel_rfl) (fun _ _ _ h => h) (by rfl) (v := ?_) (fun w hSw => ?_) hS (fun hS => ?_)
            rotate_left
            · go_simp; try with_reducible rfl
            try go_frame
            refine held_pure (i := 13) (oi := ⟨some 56, _, _, _, _, _⟩) rfl (by kernel_rfl) (by kernel_rfl) (by kernel_rfl) (fun _ _ _ h => h) (by rfl) (v := ?_) (fun w hSw => ?_) hS (fun hS => ?_)
            rotate_left
            · go_simp; try with_reducible rfl
            try go_frame
            refine wpAnyH_done (by kernel_rfl) ?_ _
            have hgq := (hS.block w.heap.size (by omega)).trans hg
            have hbq := hBW.trans (hS.mono (by omega))
            go_wp2_with (first | ((with_reducible show wpList _ _ _ (Oper.mk _ (Op.store 69 _ _) _ _ _ _ :: _) _ _); refine us_store (g := w.heap.size) (cs := usa usz none 0) rfl rfl hgq rfl rfl (us_one _ _ _) ?_))
            exact bodyPost_ret (res2 rfl rfl (us_load_run (setRow_heap _ _ _ _ _ _ hgq) rfl)) rfl ⟨none, 0, by rw [HV.out, HE.out]; rfl, by rw [HV.out]; exact Made.nil _ _ (below_row hbq (Nat.le_refl _))⟩
          · have HE := Lib.hid (show badU src dst b = 0 by rw [HBD.out]; rfl)
            refine held_pure (i := 0) (oi := ⟨some 43, _, _, _, _, _⟩) rfl (by kernel_rfl) (by kernel_rfl) (by kernel_rfl) (fun _ _ _ h => h) (by rfl) (v := ?_) (fun w hSw => ?_) hS (fun hS => ?_)
            rotate_left
            · go_simp; try with_reducible rfl
            try go_frame
            refine held_pure (i := 1) (oi := ⟨some 44, _, _, _, _, _⟩) rfl (by kernel_rfl) (by kernel_rfl) (by kernel_rfl) (fun _ _ _ h => h) (by rfl) (v := ?_) (fun w hSw => ?_) hS (fun hS => ?_)
            rotate_left
            · go_simp; try with_reducible rfl
            try go_frame
            refine held_pure (i := 2) (oi := ⟨some 45, _, _, _, _, _⟩) rfl (by kernel_rfl) (by kernel_rfl) (by kernel_rfl) (fun _ _ _ h => h) (by rfl) (v := ?_) (fun w hSw => ?_) hS (fun hS => ?_)
            rotate_left
            · go_simp; try with_reducible rfl
            try go_frame
            refine held_pure (i := 3) (oi := ⟨some 46, _, _, _, _, _⟩) rfl (by kernel_rfl) (by kernel_rfl) (by kernel_rfl) (fun _ _ _ h => h) (by rfl) (v := ?_) (fun w hSw => ?_) hS (fun hS => ?_)
            rotate_left
            · go_simp; try with_reducible rfl
            try go_frame
            refine held_pure (i := 4) (oi := ⟨some 47, _, _, _, _, _⟩) rfl (by kernel_rfl) (by kernel_rfl) (by kernel_rfl) (fun _ _ _ h => h) (by rfl) (v := ?_) (fun w hSw => ?_) hS (fun hS => ?_)
            rotate_left
            · go_simp; try with_reducible rfl
            try go_frame
            refine held_pure (i := 5) (oi := ⟨some 48, _, _, _, _, _⟩) rfl (by kernel_rfl) (by kernel_rfl) (by kernel_rfl) (fun _ _ _ h => h) (by rfl) (v := ?_) (fun w hSw => ?_) hS (fun hS => ?_)
            rotate_left
            · go_simp; try with_reducible rfl
            try go_frame
            refine held_pure (i := 7) (oi := ⟨some 50, _, _, _, _, _⟩) rfl (by kernel_rfl) (by kernel_rfl) (by kernel_rfl) (fun _ _ _ h => h) (by rfl) (v := ?_) (fun w hSw => ?_) hS (fun hS => ?_)
            rotate_left
            · go_simp; try with_reducible rfl
            try go_frame
            refine held_pure (i := 8) (oi := ⟨some 51, _, _, _, _, _⟩) rfl (by kernel_rfl) (by kernel_rfl) (by kernel_rfl) (fun _ _ _ h => h) (by rfl) (v := ?_) (fun w hSw => ?_) hS (fun hS => ?_)
            rotate_left
            · go_simp; try with_reducible rfl
            try go_frame
            refine held_pure (i := 9) (oi := ⟨some 52, _, _, _, _, _⟩) rfl (by kernel_rfl) (by kernel_rfl) (by kernel_rfl) (fun _ _ _ h => h) (by rfl) (fun w hSw => run_cut_h rfl rfl rfl (h := (b.length : Int)) (by omega) (by omega) (m := b.length) (by omega)) hS (fun hS => ?_)
            try go_frame
            refine wpAnyH_ready (rs := [6]) (by kernel_rfl) (by simp) (AllReadyH.cons (o := ⟨some 49, _, _, _, _, _⟩) rfl (fun K hK => ?_) AllReadyH.nil)
            rw [if_pos (by rfl)]
            go_simp
            refine (rpsd_any src dst 17 (b.length : Int) _).mono ?_
            rintro e wp ⟨vp, rfl, mp⟩
            obtain ⟨Ap, cp, rfl, gp, op, xp⟩ := made_shape mp
            have hSp := below_step hS xp
            show K _ _
            refine hK.out _ _ (below_step hS xp) (fun hS => ?_)
            clear hK K
            try go_frame
            refine wpAnyH_ready (rs := [10]) (by kernel_rfl) (by simp) (AllReadyH.cons (o := ⟨some 53, _, _, _, _, _⟩) rfl (fun K hK => ?_) AllReadyH.nil)
            rw [if_pos (by rfl)]
            go_simp
            refine hK.out _ _ (hS.alloc hS.size _) (fun hS => ?_)
            clear hK K
            try go_frame
            refine wpAnyH_ready (rs := [11]) (by kernel_rfl) (by simp) (AllReadyH.cons (o := ⟨some 54, _, _, _, _, _⟩) rfl (fun K hK => ?_) AllReadyH.nil)
            rw [if_pos (by rfl)]
            go_simp
            refine (rright_two (some ⟨wp.heap.size, 0, none⟩) (psd src dst 17 (b.length : Int)) b 2 (wp.heap.size + 1) _ HN _ (Rd2.two rfl rfl (World.alloc_heap_new wp _) (Nat.lt_succ_self _) ((gp.alloc (Nat.le_refl _) _).more (Nat.le_succ _)) (((hR1.below (hSp.mono (by omega))).alloc (by have := hSp.size; omega) _).more (by have := hSp.size; omega))) (by rw [psd_len]; omega)).mono ?_
            rintro e wq ⟨rfl, nq, rfl⟩
            show K _ _
            refine hK.out _ _ (below_drewN hS _) (fun hS => ?_)
            clear hK K
            try go_frame
            refine held_pure (i := 12) (oi := ⟨some 55, _, _, _, _, _⟩) rfl (by kernel_rfl) (by kernel_rfl) (by kernel_rfl) (fun _ _ _ h => h) (by rfl) (v := ?_) (fun w hSw => ?_) hS (fun hS => ?_)
            rotate_left
            · go_simp; try with_reducible rfl
            try go_frame
            refine held_pure (i := 13) (oi := ⟨some 56, _, _, _, _, _⟩) rfl (by kernel_rfl) (by kernel_rfl) (by kernel_rfl) (fun _ _ _ h => h) (by rfl) (v := ?_) (fun w hSw => ?_) hS (fun hS => ?_)
            rotate_left
            · go_simp; try with_reducible rfl
            try go_frame
            refine wpAnyH_done (by kernel_rfl) ?_ _
            have HV := Lib.hid (show prsU src dst b = ⟨X0, X2, false, D⟩ by rw [prsU, if_pos HE.out, rawU, HX0.out, HX2.out, HX6.out, HNS, HDd.out])
            have xq := hS
            obtain ⟨Wq, hWq⟩ : ∃ X : World, X = (wp.alloc (.cells #[.slice Ap (psd src dst 17 (b.length : Int)).length cp, .slice A b.length c] 45)).drewN nq := ⟨_, rfl⟩
            rw [← hWq] at xq ⊢
            clear hWq hS
            have hRq := hR1.below (xq.mono (by omega))
            have hbq := hBW.trans (xq.mono (by omega))
            have hgq := (xq.block w.heap.size (by omega)).trans hg
            have hDq := (hR.cut_lo 8).below (hbq.mono hB)
            rw [← HDd.out] at hDq
            have hzq := xq.size
            go_wp2_with (first
              | (go_at_call 64; ((with_reducible refine (rget_any A b c B 0 2 _ hRq.rd (by omega)).mono ?_); rintro e w' ⟨rfl, rfl⟩; rw [show getV b 0 2 = X0 from G0.out]))
              | (go_at_call 64; ((with_reducible refine (rget_any A b c B 2 2 _ hRq.rd (by omega)).mono ?_); rintro e w' ⟨rfl, rfl⟩; rw [show getV b 2 2 = X2 from G2.out]))
              | ((with_reducible show wpList _ _ _ (Oper.mk _ (Op.slice _ _ _ _ _) _ _ _ _ :: _) _ _); (refine wpList_val rfl (run_cut_lh rfl rfl rfl rfl (l := 8) (h := (b.length : Int)) (by omega) (by omega) (by omega) (m := D.length) (by have := HDl.out; omega)) ?_))
              | (at_builtin; refine append_rd rfl _ _ rfl Wq.heap.size (.slice none 0 0) 0 [] rfl (World.ownsRow_nil _ _ _ _) B (cutA A c 8) (c - 8) D rfl hDq.none_ hDq.rd (by have := HDl.out; omega) (Nat.le_refl _) ?_; intro v8 w8 own8 grow8; obtain ⟨P, p, rfl, owm8⟩ := own_made (bs := D) own8 (by simp) (by simp); have x8 : Below Wq.heap.size Wq w8 := (Below.refl Wq.heap.size Wq).grown grow8 (Nat.le_refl _) (fun k hk => by cases hk); have hr8 := (x8.block w.heap.size (by omega)).trans hgq)
              | ((with_reducible show wpList _ _ _ (Oper.mk _ (Op.store 69 _ _) _ _ _ _ :: _) _ _); refine us_store (g := w.heap.size) (cs := usa ⟨X0, X2, false, D⟩ P p) rfl rfl hr8 rfl rfl (us_one _ _ _) ?_))
            have o9 := own_setRow owm8 (g := w.heap.size) (cs := usa ⟨X0, X2, false, D⟩ P p) (by omega)
            exact bodyPost_ret (res2 rfl rfl (us_load_run (setRow_heap _ _ _ _ _ _ hr8) rfl)) rfl ⟨P, p, by rw [HV.out, HE.out]; rfl, by rw [HV.out]; exact Made.of_own (own_base o9 (by omega)) (below_row (hbq.trans (x8.mono (by omega))) (Nat.le_refl _))⟩
      · have d2 : decide ((b.length : Int) < Z4) = false := by simp; omega
        have d3 : decide (Z4 < (b.length : Int)) = true := by simpa using s1
        have HE := Lib.hid (show badU src dst b = 4 by rw [badU, if_neg h8, if_neg (by rw [HX4.out]; omega), if_pos (by rw [HX4.out]; exact s1)])
        have HV := Lib.hid (show prsU src dst b = usz by rw [prsU, HE.out]; rfl)
        go_wp2_with (first | ((with_reducible show wpList _ _ _ (Oper.mk _ (Op.store 69 _ _) _ _ _ _ :: _) _ _); refine us_store (g := w.heap.size) (cs := usa usz none 0) rfl rfl hg rfl rfl (us_one _ _ _) ?_))
        exact bodyPost_ret (res2 rfl rfl (us_load_run (setRow_heap _ _ _ _ _ _ hg) rfl)) rfl ⟨none, 0, by rw [HV.out, HE.out]; rfl, by rw [HV.out]; exact Made.nil _ _ (below_row hBW (Nat.le_refl _))⟩
end
end Go.Proofs.Ytkgbjohadkbjaaa

/-
  Layer 7's awake, and what Build answers, in one shape. Conditions are each theorem's own.
-/
namespace Go.Proofs.Ytkgbjohadkbjaaa
open Go.RowKit

def resU (src dst : Int) (q : PU) : List UInt8 := if chkU q = 0 then bldU src dst q else []
theorem resU_shape {src dst : Int} {q : PU} {w w' : World} {v : Value} (h : (chkU q ≠ 0 → v = .slice none 0 0 ∧ Below w.heap.size w w') ∧ (chkU q = 0 → Made w w' v (bldU src dst q))) :
    ∃ P k, v = .slice P (resU src dst q).length k ∧ Rd w' w'.heap.size P (resU src dst q) ∧ Below w.heap.size w w' := by
  by_cases hc : chkU q = 0
  · obtain ⟨A, c, rfl, hl, hr, ho, hb⟩ := h.2 hc
    exact ⟨A, c, by rw [resU, if_pos hc], by rw [resU, if_pos hc]; exact hr, hb⟩
  · obtain ⟨rfl, hb⟩ := h.1 hc
    exact ⟨none, 0, by rw [resU, if_neg hc]; rfl, by rw [resU, if_neg hc]; exact Rd.nil, hb⟩
def qaU : PU := ⟨3, 4, false, [5]⟩
end Go.Proofs.Ytkgbjohadkbjaaa

/-
  Contracts of tcp's size, Check, numbers, buildHead, fresh. Conditions are each theorem's own.
-/
namespace Go.Proofs.Ytkgbjohadkbjaaa
open Go.RowKit

theorem argT_iff (q : PT) : argT q ↔ (fitsB q.src 2 = true ∧ fitsB q.dst 2 = true ∧ fitsB q.win 2 = true ∧ fitsB q.urg 2 = true ∧ fitsB q.seq 4 = true ∧ fitsB q.ack 4 = true ∧ 0 ≤ q.res ∧ q.res < 16 ∧ fitsB q.flags 1 = true ∧ q.opt.length ≤ 40 ∧ q.opt.length % 4 = 0) := by
  rw [fitsB_iff, fitsB_iff, fitsB_iff, fitsB_iff, fitsB_iff, fitsB_iff, fitsB_iff, pw1, pw2, pw4, argT]; omega
section
variable (q : PT) (A : Option Addr) (c : Nat) (A' : Option Addr) (c' : Nat) (w : World)
def numsT (q : PT) : List Int := [q.src, q.dst, q.seq, q.ack, q.res, q.flags, q.win, q.urg]
end
section
variable (q : PT) (A : Option Addr) (c : Nat) (A' : Option Addr) (c' : Nat) (w : World)
end
end Go.Proofs.Ytkgbjohadkbjaaa

/-
  Contracts of layer 8's Same, the program's and the document's; of the document's Check. Conditions are each theorem's own.
-/
namespace Go.Proofs.Ytkgbjohadkbjaaa
open Go.RowKit

theorem sameT_nums (q r : PT) : sameT q r = (decide (numsT q = numsT r) && decide (q.opt = r.opt) && decide (q.dat = r.dat)) := by
  rw [sameT, Bool.eq_iff_iff]; simp [numsT, and_assoc]
section
variable (q r : PT) (A : Option Addr) (c : Nat) (A' : Option Addr) (c' : Nat) (X : Option Addr) (d : Nat) (X' : Option Addr) (d' B : Nat) (w : World)
end
def twoB (q : PT) : Bool := fitsB q.src 2 && fitsB q.dst 2 && fitsB q.win 2 && fitsB q.urg 2
def fourB (q : PT) : Bool := fitsB q.seq 4 && fitsB q.ack 4 && fitsB q.flags 1 && decide (0 ≤ q.res) && decide (q.res ≤ 15)
theorem argT_two (q : PT) : argT q ↔ (twoB q = true ∧ fourB q = true ∧ q.opt.length ≤ 40 ∧ q.opt.length % 4 = 0) := by
  rw [argT_iff]
  simp only [twoB, fourB, Bool.and_eq_true, decide_eq_true_eq]
  constructor
  · rintro ⟨h0, h1, h2, h3, h4, h5, h6, h7, h8, h9, h10⟩; exact ⟨⟨⟨⟨h0, h1⟩, h2⟩, h3⟩, ⟨⟨⟨⟨h4, h5⟩, h8⟩, h6⟩, by omega⟩, h9, h10⟩
  · rintro ⟨⟨⟨⟨h0, h1⟩, h2⟩, h3⟩, ⟨⟨⟨⟨h4, h5⟩, h8⟩, h6⟩, h7⟩, h9, h10⟩; exact ⟨h0, h1, h2, h3, h4, h5, h6, by omega, h8, h9, h10⟩
section
variable (q : PT) (A : Option Addr) (c : Nat) (A' : Option Addr) (c' : Nat) (w : World)
end
end Go.Proofs.Ytkgbjohadkbjaaa

/-
  Contracts of slices.Grow at nil, and of slices.Concat, over bytes. Conditions are each theorem's own.
-/
namespace Go.Proofs.Ytkgbjohadkbjaaa
open Go.RowKit

theorem flatten_take (ps : List (List UInt8)) {k : Nat} {bs : List UInt8} (h : ps[k]? = some bs) : (ps.take (k + 1)).flatten = (ps.take k).flatten ++ bs := by
  rw [List.take_add_one, h]; simp
theorem bulk_flatten (ps : List (List UInt8)) : ps.flatten.length = bulk ps := by simp [bulk, List.length_flatten]
end Go.Proofs.Ytkgbjohadkbjaaa

/-
  Contracts of layer 8's Build, the program's and the document's. Conditions are each theorem's own.
-/
namespace Go.Proofs.Ytkgbjohadkbjaaa
open Go.RowKit

section
variable (q : PT) (A : Option Addr) (c : Nat) (A' : Option Addr) (c' : Nat) (src dst : Int) (w : World)
end
end Go.Proofs.Ytkgbjohadkbjaaa

/-
  Contracts of tcp's reader and readHead. Conditions are each theorem's own.
-/
namespace Go.Proofs.Ytkgbjohadkbjaaa
open Go.RowKit

section
variable {w V V' : World} {g U B : Nat} {A : Option Addr} {c : Nat} {b : List UInt8} {k k' : Int} {q q' : PT} {i : Nat} {v : Value}
end
def headT (b : List UInt8) : PT := ⟨n2 b 0, n2 b 2, n4 b 4, n4 b 8, byt b 12 % 16, byt b 13, n2 b 14, n2 b 18, [], []⟩
end Go.Proofs.Ytkgbjohadkbjaaa

/-
  Contract of tcp.Parse. Conditions are each theorem's own.
-/
namespace Go.Proofs.Ytkgbjohadkbjaaa
open Go.RowKit

section
variable {o : Oper} {a : Act} {w : World} {K : Act → World → Prop} {Q : Exit → Act → World → Prop} {x y : Operand} {p : Addr} {v0 : Value}
theorem store_sl_wp {A : Option Addr} {n c : Nat} (ho : o.op = .store 45 x y) (hx : a.eval x = .pointer (some p)) (hy : a.eval y = .slice A n c) (hc : w.cell? p = some v0) (hf : w.frozen? p = false) (h : K (a.put o.dst undef) (w.setCell p (.slice A n c))) : o.wp Try.prog a w K Q := by
  unfold Oper.wp execOp
  simp only [ho, hx, hy]
  go_simp
  exact h
end
section
variable (b : List UInt8) (A : Option Addr) (c : Nat) (src dst : Int) (w : World)
end
end Go.Proofs.Ytkgbjohadkbjaaa

/-
  Contract of the document's Parse of layer 8. Conditions are each theorem's own.
-/
namespace Go.Proofs.Ytkgbjohadkbjaaa
open Go.RowKit

section
variable (b : List UInt8) (A : Option Addr) (c : Nat) (src dst : Int) (w : World)
end
end Go.Proofs.Ytkgbjohadkbjaaa

/-
  Contract of tcp.Options and of the iterator that it hands back. Conditions are each theorem's own.
-/
namespace Go.Proofs.Ytkgbjohadkbjaaa
open Go.RowKit Go.Shelf
attribute [local go_sem] Oper.semAt_some

/-- An option as it comes: where it begins, and where its bytes lie. -/
structure OI where
  at_ : Nat
  A : Option Addr
  c : Nat
  n : Nat
def encO (x : OI) : Array Value := #[.int .i64 (x.at_ : Int), .slice x.A x.n x.c]
/-- What is known of it when it comes. -/
def GO (b : List UInt8) (pre : List OI) (x : OI) (W : World) : Prop :=
  (∃ more, places b = pre.map (·.at_) ++ x.at_ :: more) ∧ x.n = optL b x.at_ ∧ Arg W W.heap.size x.A x.c ((b.drop x.at_).take x.n)
theorem cell_putLoop {W : World} {p : Addr} {v : Value} {l : Nat} {r r' : Loop} (h : W.cell? p = some v) (hl : W.heap[l]? = some (.loop r)) : (W.putObj l (.loop r')).cell? p = some v := by
  obtain ⟨o, ho, hc⟩ := cells_of_cell h
  have hne : p.block ≠ l := fun e => by rw [e, hl] at ho; cases ho; cases hc
  exact (World.cell?_of_block (World.putObj_heap_other hne)).trans h
theorem GO.turn {b : List UInt8} {pre : List OI} {x : OI} {W : World} {l : Nat} {r r' : Loop} (h : GO b pre x W) (hl : W.heap[l]? = some (.loop r)) : GO b pre x (W.putObj l (.loop r')) := by
  refine ⟨h.1, h.2.1, ⟨fun hn => ?_, h.2.2.cap, h.2.2.none_⟩⟩
  obtain ⟨b0, off, e, hb, hc⟩ := h.2.2.rd hn
  exact ⟨b0, off, e, by simpa using hb, fun j hj => cell_putLoop (hc j hj) hl⟩
theorem grown_none {w w' : World} (h : Below w.heap.size w w') : w.grownBy w' none := ⟨h.os, h.tape, h.output, h.size, fun k hk _ => h.block k hk⟩
end Go.Proofs.Ytkgbjohadkbjaaa

/-
  Packets of IPv4 in fragments, in plain lists: options that go with each, the fragments, what fragments are. No program. Conditions are each theorem's own.
-/
namespace Go.Proofs.Ytkgbjohadkbjaaa
open Go.RowKit

/-! ### Options -/
/-- The option at a place, if it goes with each fragment. -/
def cop1 (b : List UInt8) (a : Nat) : List UInt8 := if byt b a ≥ 128 then (b.drop a).take (optL b a) else []
def cops (b : List UInt8) (ps : List Nat) : List UInt8 := ps.flatMap (cop1 b)
def padN (n : Nat) : Nat := (4 - n % 4) % 4
def copied (b : List UInt8) : List UInt8 := cops b (places b) ++ List.replicate (padN (cops b (places b)).length) 0
theorem cops_snoc (b : List UInt8) (ps : List Nat) (a : Nat) : cops b (ps ++ [a]) = cops b ps ++ cop1 b a := by simp [cops]
theorem cops_len (b : List UInt8) : ∀ (f a : Nat), a ≤ b.length → (cops b (plc b f a)).length + a ≤ b.length
  | 0, a, h => by simpa [plc, cops] using h
  | f + 1, a, h => by
    rw [plc]
    split
    · simpa [cops] using h
    · rename_i h0
      have hle := optL_le (b := b) (at_ := a) (by omega)
      have h1 : (cop1 b a).length ≤ optL b a := by unfold cop1; split <;> simp; omega
      split
      · simp only [cops, List.flatMap_cons, List.flatMap_nil, List.append_nil]; omega
      · have ih := cops_len b f (a + optL b a) hle.1
        simp only [cops, List.flatMap_cons, List.length_append] at ih ⊢; omega
theorem cops_le (b : List UInt8) : (cops b (places b)).length ≤ b.length := by have := cops_len b (b.length + 1) 0 (Nat.zero_le _); unfold places; omega
theorem cops_pre (b : List UInt8) {pre more : List Nat} (h : places b = pre ++ more) : (cops b pre).length ≤ b.length := by
  have := cops_le b
  rw [h] at this
  simp only [cops, List.flatMap_append, List.length_append] at this ⊢; omega
theorem padN_mod (n : Nat) : (n + padN n) % 4 = 0 ∧ padN n < 4 := by unfold padN; omega
theorem copied_len (b : List UInt8) : (copied b).length ≤ b.length + 3 ∧ (copied b).length % 4 = 0 := by
  have h := cops_le b
  have p := padN_mod (cops b (places b)).length
  simp only [copied, List.length_append, List.length_replicate]; omega
theorem copied_le {b : List UInt8} (h : b.length % 4 = 0) : (copied b).length ≤ b.length := by
  have := copied_len b; omega
theorem optL_drop (b : List UInt8) (k : Nat) (h : k < b.length) : optL (b.drop k) 0 = optL b k := by
  have e0 : byt (b.drop k) 0 = byt b k := by simp [byt]
  have e1 : byt (b.drop k) 1 = byt b (k + 1) := by simp [byt]
  unfold optL
  rw [List.length_drop, e0, Nat.zero_add, e1]
  by_cases h1 : b.length - k ≤ 0
  · omega
  · rw [if_neg h1, if_neg (by omega : ¬ b.length ≤ k)]
    by_cases h2 : byt b k ≤ 1
    · rw [if_pos h2, if_pos h2]
    · rw [if_neg h2, if_neg h2]
      by_cases h3 : b.length ≤ k + 1 ∨ byt b (k + 1) < 2 ∨ byt b (k + 1) > (b.length : Int) - k
      · rw [if_pos h3, if_pos (by omega)]
      · rw [if_neg h3, if_neg (by omega)]

/-! ### Fragments -/
/-- As many bytes as fit. -/
def room (mtu : Int) (q : P4) : Int := (mtu - head4 q) - (mtu - head4 q) % 8
def part1 (mtu : Int) (q : P4) : P4 := { q with mf := true, dat := q.dat.take (room mtu q).toNat }
def rest1 (mtu : Int) (o : List UInt8) (q : P4) : P4 := { q with off := q.off + room mtu q, opt := o, dat := q.dat.drop (room mtu q).toNat }
def frg (mtu : Int) (o : List UInt8) (mf : Bool) : Nat → P4 → List P4
  | 0, _ => []
  | f + 1, q => if size4 q > mtu then part1 mtu q :: frg mtu o mf f (rest1 mtu o q) else [{ q with mf := mf }]
/-- A packet that can be cut, or what is left of one. -/
structure Cuttable (mtu : Int) (q : P4) : Prop where
  lo : 68 ≤ mtu
  hi : mtu ≤ 65535
  arg : 0 ≤ q.tos ∧ q.tos ≤ 255 ∧ 0 ≤ q.ttl ∧ q.ttl ≤ 255 ∧ 0 ≤ q.proto ∧ q.proto ≤ 255 ∧ 0 ≤ q.id ∧ q.id ≤ 65535 ∧ 0 ≤ q.src ∧ q.src < 4294967296 ∧ 0 ≤ q.dst ∧ q.dst < 4294967296
  off : 0 ≤ q.off ∧ q.off % 8 = 0 ∧ q.off + (q.dat.length : Int) ≤ 65535 ∧ q.off ≤ 65528
  opt : q.opt.length ≤ 40 ∧ q.opt.length % 4 = 0
theorem Cuttable.of {mtu : Int} {q : P4} (h : chk4 q = 0) (lo : 68 ≤ mtu) (hi : mtu ≤ 65535) : Cuttable mtu q := by
  obtain ⟨⟨a1, a2, a3, a4, a5, a6, a7, a8, a9, a10, a11, a12, a13, a14, a15, a16, a17, a18⟩, hs, ho⟩ := chk4_ok h
  exact ⟨lo, hi, ⟨a1, a2, a3, a4, a5, a6, a7, a8, a9, a10, a11, a12⟩, ⟨a13, a15, ho, a14⟩, ⟨a16, a17⟩⟩
section
variable {mtu : Int} {o : List UInt8} {mf : Bool} {q : P4}
theorem room_bd (h : Cuttable mtu q) : 8 ≤ room mtu q ∧ room mtu q ≤ mtu - head4 q ∧ room mtu q % 8 = 0 ∧ mtu - head4 q < room mtu q + 8 := by
  have h1 := h.lo; have h2 := h.opt
  have hh : head4 q = 20 + (q.opt.length : Int) := rfl
  unfold room; omega
theorem room_lt (h : Cuttable mtu q) (hs : size4 q > mtu) : room mtu q < (q.dat.length : Int) := by
  have := room_bd h
  have hz : size4 q = head4 q + (q.dat.length : Int) := rfl
  omega
theorem Cuttable.rest (h : Cuttable mtu q) (hs : size4 q > mtu) (ho : o.length ≤ 40 ∧ o.length % 4 = 0) : Cuttable mtu (rest1 mtu o q) := by
  have hr := room_bd h
  have hl := room_lt h hs
  obtain ⟨b1, b2, b3, b4⟩ := h.off
  refine ⟨h.lo, h.hi, h.arg, ?_, ho⟩
  show 0 ≤ q.off + room mtu q ∧ (q.off + room mtu q) % 8 = 0 ∧ q.off + room mtu q + ((q.dat.drop (room mtu q).toNat).length : Int) ≤ 65535 ∧ q.off + room mtu q ≤ 65528
  rw [List.length_drop]; omega
theorem frg_fuel : ∀ (f g : Nat) (q : P4), Cuttable mtu q → (o.length ≤ 40 ∧ o.length % 4 = 0) → q.dat.length < f → q.dat.length < g → frg mtu o mf f q = frg mtu o mf g q
  | 0, _, _, _, _, h, _ => absurd h (Nat.not_lt_zero _)
  | _ + 1, 0, _, _, _, _, h => absurd h (Nat.not_lt_zero _)
  | f + 1, g + 1, q, hc, ho, hf, hg => by
    rw [frg, frg]
    by_cases hs : size4 q > mtu
    · rw [if_pos hs, if_pos hs]
      have hr := room_bd hc
      have hl := room_lt hc hs
      have e : (rest1 mtu o q).dat.length = q.dat.length - (room mtu q).toNat := by simp [rest1]
      rw [frg_fuel f g (rest1 mtu o q) (hc.rest hs ho) ho (by omega) (by omega)]
    · rw [if_neg hs, if_neg hs]
/-- What is left, cut. -/
def rst4 (mtu : Int) (o : List UInt8) (mf : Bool) (q : P4) : List P4 := frg mtu o mf (q.dat.length + 1) q
theorem rst4_more (hc : Cuttable mtu q) (ho : o.length ≤ 40 ∧ o.length % 4 = 0) (hs : size4 q > mtu) : rst4 mtu o mf q = part1 mtu q :: rst4 mtu o mf (rest1 mtu o q) := by
  rw [rst4, frg, if_pos hs, rst4]
  congr 1
  have hr := room_bd hc
  have hl := room_lt hc hs
  have e : (rest1 mtu o q).dat.length = q.dat.length - (room mtu q).toNat := by simp [rest1]
  exact frg_fuel _ _ _ (hc.rest hs ho) ho (by omega) (by omega)
theorem rst4_last (hs : ¬ size4 q > mtu) : rst4 mtu o mf q = [{ q with mf := mf }] := by rw [rst4, frg, if_neg hs]
end
def cutE (q : P4) (mtu : Int) : Int := if mtu < 68 ∨ mtu > 65535 then 1 else if chk4 q = 0 then (if q.df = true ∧ size4 q > mtu then 6 else 0) else chk4 q
def cutL (q : P4) (mtu : Int) : List P4 := if cutE q mtu = 0 then rst4 mtu (copied q.opt) q.mf q else []
theorem cutE_ok {q : P4} {mtu : Int} (h : cutE q mtu = 0) : Cuttable mtu q ∧ chk4 q = 0 ∧ ((copied q.opt).length ≤ 40 ∧ (copied q.opt).length % 4 = 0) := by
  unfold cutE at h
  split at h
  · cases h
  · split at h
    · rename_i hm hk
      have hc := Cuttable.of hk (mtu := mtu) (by omega) (by omega)
      have h1 := copied_le hc.opt.2; have h2 := copied_len q.opt; have h3 := hc.opt
      exact ⟨hc, hk, by omega, by omega⟩
    · rename_i hk; exact absurd h hk

/-! ### What fragments are -/
def fol (a b : P4) : Bool := a.mf && a.src == b.src && a.dst == b.dst && a.proto == b.proto && a.id == b.id && (a.off + (a.dat.length : Int) == b.off)
def fit4 (f a x : P4) : Bool := x.src == f.src && x.dst == f.dst && x.proto == f.proto && x.id == f.id && a.mf && (x.off == a.off + (a.dat.length : Int))
/-- Up to a place each follows the one ahead. -/
def chn (l : List P4) (k : Nat) : Prop := ∀ i, i + 1 < k → fol (l.getD i p4z) (l.getD (i + 1) p4z) = true
def fitn (l : List P4) (k : Nat) : Prop := ∀ i, i + 1 < k → fit4 (l.getD 0 p4z) (l.getD i p4z) (l.getD (i + 1) p4z) = true
theorem chn_two (l : List P4) : ∀ k, chn l k → ∀ i, i < k → (l.getD i p4z).src = (l.getD 0 p4z).src ∧ (l.getD i p4z).dst = (l.getD 0 p4z).dst ∧ (l.getD i p4z).proto = (l.getD 0 p4z).proto ∧ (l.getD i p4z).id = (l.getD 0 p4z).id := fun k h i hi => by
  induction i with
  | zero => exact ⟨rfl, rfl, rfl, rfl⟩
  | succ i ih =>
    have hh := h i hi
    obtain ⟨h1, h2, h3, h4⟩ := ih (by omega)
    simp only [fol, Bool.and_eq_true, beq_iff_eq] at hh
    obtain ⟨⟨⟨⟨⟨_, g1⟩, g2⟩, g3⟩, g4⟩, _⟩ := hh
    exact ⟨g1 ▸ h1, g2 ▸ h2, g3 ▸ h3, g4 ▸ h4⟩
theorem fitn_two (l : List P4) (k : Nat) (h : fitn l k) : ∀ i, i < k → (l.getD i p4z).src = (l.getD 0 p4z).src ∧ (l.getD i p4z).dst = (l.getD 0 p4z).dst ∧ (l.getD i p4z).proto = (l.getD 0 p4z).proto ∧ (l.getD i p4z).id = (l.getD 0 p4z).id := fun i hi => by
  cases i with
  | zero => exact ⟨rfl, rfl, rfl, rfl⟩
  | succ i =>
    have hh := h i hi
    simp only [fit4, Bool.and_eq_true, beq_iff_eq] at hh
    obtain ⟨⟨⟨⟨⟨g1, g2⟩, g3⟩, g4⟩, _⟩, _⟩ := hh
    exact ⟨g1, g2, g3, g4⟩
theorem chn_iff (l : List P4) (k : Nat) : chn l k ↔ fitn l k := by
  constructor
  · intro h i hi
    have hh := h i hi
    obtain ⟨h1, h2, h3, h4⟩ := chn_two l k h (i + 1) hi
    simp only [fol, Bool.and_eq_true, beq_iff_eq] at hh
    obtain ⟨⟨⟨⟨⟨hm, _⟩, _⟩, _⟩, _⟩, ho⟩ := hh
    simp only [fit4, Bool.and_eq_true, beq_iff_eq]
    exact ⟨⟨⟨⟨⟨h1, h2⟩, h3⟩, h4⟩, hm⟩, ho.symm⟩
  · intro h i hi
    have hh := h i hi
    obtain ⟨h1, h2, h3, h4⟩ := fitn_two l k h i (by omega)
    simp only [fit4, Bool.and_eq_true, beq_iff_eq] at hh
    obtain ⟨⟨⟨⟨⟨g1, g2⟩, g3⟩, g4⟩, hm⟩, ho⟩ := hh
    simp only [fol, Bool.and_eq_true, beq_iff_eq]
    exact ⟨⟨⟨⟨⟨hm, h1.trans g1.symm⟩, h2.trans g2.symm⟩, h3.trans g3.symm⟩, h4.trans g4.symm⟩, ho.symm⟩
instance (l : List P4) (k : Nat) : Decidable (chn l k) := decidable_of_iff (∀ i, i < k - 1 → fol (l.getD i p4z) (l.getD (i + 1) p4z) = true) ⟨fun h i hi => h i (by omega), fun h i hi => h i (by omega)⟩
/-- The first fault of each alone; none: 0. -/
def bad1 : List P4 → Int
  | [] => 0
  | q :: l => if chk4 q = 0 then bad1 l else chk4 q
theorem bad1_at : ∀ (l : List P4) (k : Nat), (∀ i, i < k → chk4 (l.getD i p4z) = 0) → k < l.length → chk4 (l.getD k p4z) ≠ 0 → bad1 l = chk4 (l.getD k p4z)
  | [], _, _, h, _ => by simp at h
  | q :: l, 0, _, _, h => by
    have h' : chk4 q ≠ 0 := by simpa using h
    rw [bad1, if_neg h']; rfl
  | q :: l, k + 1, h0, hk, h => by
    have hq : chk4 q = 0 := by simpa using h0 0 (by omega)
    rw [bad1, if_pos hq]
    have := bad1_at l k (fun i hi => by simpa using h0 (i + 1) (by omega)) (by simpa using hk) (by simpa using h)
    simpa using this
theorem bad1_ok : ∀ (l : List P4), (∀ i, i < l.length → chk4 (l.getD i p4z) = 0) → bad1 l = 0
  | [], _ => rfl
  | q :: l, h => by
    have hq : chk4 q = 0 := by simpa using h 0 (by simp)
    rw [bad1, if_pos hq]
    exact bad1_ok l fun i hi => by simpa using h (i + 1) (by simpa using hi)
def datas (l : List P4) : List UInt8 := l.flatMap (·.dat)
def whl (l : List P4) : P4 := { l.getD 0 p4z with mf := (l.getD (l.length - 1) p4z).mf, dat := datas l }
def glE (l : List P4) : Int := if l.length = 0 then 1 else if bad1 l = 0 then (if chn l l.length then chk4 (whl l) else 4) else bad1 l
def glV (l : List P4) : P4 := if glE l = 0 then whl l else p4z
theorem datas_take (l : List P4) {k : Nat} (h : k < l.length) : datas (l.take (k + 1)) = datas (l.take k) ++ (l.getD k p4z).dat := by
  have e : l.take (k + 1) = l.take k ++ [l.getD k p4z] := by rw [List.take_add_one, List.getD_eq_getElem?_getD, List.getElem?_eq_getElem h]; rfl
  rw [datas, e, List.flatMap_append, List.flatMap_cons, List.flatMap_nil, List.append_nil]; rfl
theorem datas_take_le (l : List P4) (k : Nat) : (datas (l.take k)).length ≤ (datas l).length := by
  conv => rhs; rw [← List.take_append_drop k l]
  simp only [datas, List.flatMap_append, List.length_append]; omega

/-! ### Fragments are the packet -/
section
variable {mtu : Int} {o : List UInt8} {mf : Bool}
theorem rst4_ind {C : P4 → List P4 → Prop} (ho : o.length ≤ 40 ∧ o.length % 4 = 0)
    (last : ∀ q, Cuttable mtu q → ¬ size4 q > mtu → C q [{ q with mf := mf }])
    (more : ∀ q, Cuttable mtu q → size4 q > mtu → C (rest1 mtu o q) (rst4 mtu o mf (rest1 mtu o q)) → C q (part1 mtu q :: rst4 mtu o mf (rest1 mtu o q))) :
    ∀ (f : Nat) (q : P4), q.dat.length < f → Cuttable mtu q → C q (rst4 mtu o mf q)
  | 0, _, h, _ => absurd h (Nat.not_lt_zero _)
  | f + 1, q, h, hc => by
    by_cases hs : size4 q > mtu
    · have hr := room_bd hc
      have hl := room_lt hc hs
      have e : (rest1 mtu o q).dat.length = q.dat.length - (room mtu q).toNat := by simp [rest1]
      rw [rst4_more hc ho hs]
      exact more q hc hs (rst4_ind ho last more f (rest1 mtu o q) (by omega) (hc.rest hs ho))
    · rw [rst4_last hs]; exact last q hc hs
/-- A list that is a packet's fragments. -/
structure Frags (mtu : Int) (mf : Bool) (q : P4) (l : List P4) : Prop where
  ne : l ≠ []
  all : ∀ x ∈ l, size4 x ≤ mtu ∧ chk4 x = 0
  dat : datas l = q.dat
  one : (l.getD 0 p4z).tos = q.tos ∧ (l.getD 0 p4z).id = q.id ∧ (l.getD 0 p4z).off = q.off ∧ (l.getD 0 p4z).ttl = q.ttl ∧ (l.getD 0 p4z).proto = q.proto ∧ (l.getD 0 p4z).src = q.src ∧ (l.getD 0 p4z).dst = q.dst ∧ (l.getD 0 p4z).df = q.df ∧ (l.getD 0 p4z).opt = q.opt
  last : (l.getD (l.length - 1) p4z).mf = mf
  chn : chn l l.length
theorem chk4_of {x : P4} (h : Cuttable mtu x) (hm : x.mf = true → x.dat.length % 8 = 0) (hs : size4 x ≤ mtu) : chk4 x = 0 := by
  obtain ⟨a1, a2, a3, a4, a5, a6, a7, a8, a9, a10, a11, a12⟩ := h.arg
  obtain ⟨b1, b2, b3, b4⟩ := h.off
  have := h.hi
  rw [chk4, if_pos ⟨a1, a2, a3, a4, a5, a6, a7, a8, a9, a10, a11, a12, b1, b4, b2, h.opt.1, h.opt.2, hm⟩, if_neg (by omega)]
theorem frags_of (ho : o.length ≤ 40 ∧ o.length % 4 = 0) (q : P4) (hc : Cuttable mtu q) (hm : mf = true → q.dat.length % 8 = 0) : Frags mtu mf q (rst4 mtu o mf q) := by
  have key := rst4_ind (mtu := mtu) (o := o) (mf := mf) (C := fun q l => (mf = true → q.dat.length % 8 = 0) → Frags mtu mf q l) ho ?_ ?_ (q.dat.length + 1) q (Nat.lt_succ_self _) hc
  · exact key hm
  · intro q hc hs hm
    have hx : Cuttable mtu { q with mf := mf } := ⟨hc.lo, hc.hi, hc.arg, hc.off, hc.opt⟩
    have hz : size4 { q with mf := mf } = size4 q := rfl
    refine ⟨by simp, fun x hx' => ?_, by simp [datas], ⟨rfl, rfl, rfl, rfl, rfl, rfl, rfl, rfl, rfl⟩, rfl, fun i hi => by simp at hi⟩
    rw [List.mem_singleton.1 hx']
    exact ⟨by omega, chk4_of hx hm (by omega)⟩
  · intro q hc hs ih hm
    have hr := room_bd hc
    have hl := room_lt hc hs
    have hh : head4 (part1 mtu q) = head4 q := rfl
    have hdl : (part1 mtu q).dat.length = (room mtu q).toNat := by simp [part1]; omega
    have hpz : size4 (part1 mtu q) = head4 q + room mtu q := by unfold size4; rw [hh, hdl]; omega
    have hx : Cuttable mtu (part1 mtu q) := by
      obtain ⟨b1, b2, b3, b4⟩ := hc.off
      exact ⟨hc.lo, hc.hi, hc.arg, ⟨b1, b2, by show q.off + _ ≤ _; rw [hdl]; omega, b4⟩, hc.opt⟩
    have hm' : mf = true → (rest1 mtu o q).dat.length % 8 = 0 := fun e => by
      have := hm e
      simp only [rest1, List.length_drop]; omega
    obtain ⟨i1, i2, i3, ⟨t1, t2, t3, t4, t5, t6, t7, t8, t9⟩, i5, i6⟩ := ih hm'
    obtain ⟨y, l, e⟩ : ∃ y l, rst4 mtu o mf (rest1 mtu o q) = y :: l := by
      cases h : rst4 mtu o mf (rest1 mtu o q) with
      | nil => exact absurd h i1
      | cons y l => exact ⟨y, l, rfl⟩
    rw [e] at i2 i3 t1 t2 t3 t4 t5 t6 t7 t8 t9 i5 i6 ⊢
    refine ⟨by simp, fun x hx' => ?_, ?_, ⟨rfl, rfl, rfl, rfl, rfl, rfl, rfl, rfl, rfl⟩, ?_, fun i hi => ?_⟩
    · rcases List.mem_cons.1 hx' with rfl | hx'
      · exact ⟨by omega, chk4_of hx (fun _ => by rw [hdl]; omega) (by omega)⟩
      · exact i2 x hx'
    · have i3' : y.dat ++ datas l = q.dat.drop (room mtu q).toNat := by simpa [datas, rest1] using i3
      show (part1 mtu q).dat ++ (y.dat ++ datas l) = q.dat
      rw [i3']; exact List.take_append_drop _ _
    · simpa using i5
    · cases i with
      | zero =>
        have g : ∀ z : P4, ((y :: l).getD 0 p4z) = y := fun _ => rfl
        simp only [List.getD_cons_zero] at t2 t3 t5 t6 t7
        show fol (part1 mtu q) y = true
        simp only [fol, Bool.and_eq_true, beq_iff_eq]
        refine ⟨⟨⟨⟨⟨rfl, t6.symm⟩, t7.symm⟩, t5.symm⟩, t2.symm⟩, ?_⟩
        rw [t3, hdl]
        show q.off + _ = q.off + room mtu q
        omega
      | succ i =>
        have := i6 i (by simpa using hi)
        simpa using this
/-- Glued, they are the packet. -/
theorem glue_back {q : P4} {l : List P4} (h : Frags mtu q.mf q l) (hq : chk4 q = 0) : glE l = 0 ∧ glV l = q := by
  have hw : whl l = q := by
    obtain ⟨t1, t2, t3, t4, t5, t6, t7, t8, t9⟩ := h.one
    obtain ⟨a0, a1, a2, a3, a4, a5, a6, a7, a8, a9, a10⟩ := q
    unfold whl
    rw [h.last, h.dat]
    simp only at t1 t2 t3 t4 t5 t6 t7 t8 t9 ⊢
    simp only [t1, t2, t3, t4, t5, t6, t7, t8, t9]
  have hb : bad1 l = 0 := bad1_ok l fun i hi => by
    rw [List.getD_eq_getElem?_getD, List.getElem?_eq_getElem hi]
    exact (h.all _ (List.getElem_mem hi)).2
  have hl : l.length ≠ 0 := fun e => h.ne (List.eq_nil_of_length_eq_zero e)
  have he : glE l = 0 := by rw [glE, if_neg hl, if_pos hb, if_pos h.chn, hw]; exact hq
  exact ⟨he, by rw [glV, if_pos he, hw]⟩
end
end Go.Proofs.Ytkgbjohadkbjaaa

/-
  Rows of structs: a slice whose elements fill so many cells each, read at an index, grown by one; what a round that grows one keeps. Conditions are each theorem's own.
-/
namespace Go.Proofs.Ytkgbjohadkbjaaa
open Go.RowKit Go.Shelf

section
variable {α : Type} {cl : α → List Value} {sz : Nat}
theorem flat_len (l : List α) (h : ∀ x ∈ l, (cl x).length = sz) : (l.flatMap cl).length = l.length * sz := by
  induction l with
  | nil => simp
  | cons x l ih =>
    rw [List.flatMap_cons, List.length_append, h x (by simp), ih (fun y hy => h y (by simp [hy])), List.length_cons, Nat.add_mul]; omega
theorem flat_at : ∀ (l : List α), (∀ x ∈ l, (cl x).length = sz) → ∀ (j : Nat) (x : α), l[j]? = some x → ∀ (i : Nat) (v : Value), (cl x)[i]? = some v → (l.flatMap cl)[j * sz + i]? = some v
  | [], _, j, x, hx, _, _, _ => by simp at hx
  | y :: l, h, 0, x, hx, i, v, hv => by
    simp only [List.getElem?_cons_zero, Option.some.injEq] at hx
    subst hx
    have hi := (List.getElem?_eq_some_iff.1 hv).1
    rw [List.flatMap_cons, Nat.zero_mul, Nat.zero_add, List.getElem?_append_left hi]; exact hv
  | y :: l, h, j + 1, x, hx, i, v, hv => by
    have hy := h y (by simp)
    rw [List.flatMap_cons, List.getElem?_append_right (by rw [hy, Nat.add_mul]; omega), hy, show (j + 1) * sz + i - sz = j * sz + i from by rw [Nat.add_mul]; omega]
    exact flat_at l (fun z hz => h z (by simp [hz])) j x (by simpa using hx) i v hv
/-- The slice at A reads as these elements; its cells lie below block B. -/
def RdS (cl : α → List Value) (sz : Nat) (w : World) (B : Nat) (A : Option Addr) (l : List α) : Prop :=
  0 < l.length → ∃ b off, A = some ⟨b, off, none⟩ ∧ b < B ∧ ∀ j x, l[j]? = some x → w.rangeAt b (off + j * sz) (cl x)
theorem RdS.keep {w w' : World} {B : Nat} {A : Option Addr} {l : List α} (h : RdS cl sz w B A l) (hk : ∀ p : Addr, p.block < B → w'.cell? p = w.cell? p) : RdS cl sz w' B A l := fun hn => by
  obtain ⟨b, off, e, hb, hc⟩ := h hn
  exact ⟨b, off, e, hb, fun j x hx i v hv => (hk ⟨b, _, none⟩ hb).trans (hc j x hx i v hv)⟩
theorem RdS.below {w w' : World} {B : Nat} {A : Option Addr} {l : List α} (h : RdS cl sz w B A l) (hb : Below B w w') : RdS cl sz w' B A l := h.keep fun _ hp => hb.cell hp
theorem RdS.more {w : World} {B B' : Nat} {A : Option Addr} {l : List α} (h : RdS cl sz w B A l) (hB : B ≤ B') : RdS cl sz w B' A l := fun hn => by
  obtain ⟨b, off, e, hb, hc⟩ := h hn
  exact ⟨b, off, e, by omega, hc⟩
theorem own_rds {w : World} {base e n : Nat} {v : Value} {xs : List Value} {l : List α} (h : w.ownsRow base e sz v n xs) (hn : n = l.length) (hx : xs = l.flatMap cl) (hl : ∀ x ∈ l, (cl x).length = sz) :
    ∃ A c, v = .slice A l.length c ∧ RdS cl sz w w.heap.size A l ∧ l.length ≤ c := by
  subst hn; subst hx
  rcases h.2 with ⟨rfl, h0⟩ | ⟨g, cap, cur, rfl, hb, hh, hle, _, hs, ht⟩
  · exact ⟨none, 0, by rw [h0], fun hn => by omega, by omega⟩
  · refine ⟨_, cap, rfl, fun _ => ⟨g, 0, rfl, heap_lt hh, fun j x hx i v hv => ?_⟩, hle⟩
    have hf := flat_at l hl j x hx i v hv
    have hcl : j * sz + i < l.length * sz := by
      have := (List.getElem?_eq_some_iff.1 hf).1
      rwa [flat_len l hl] at this
    have := World.ownsRow.cellAt h (j * sz + i) hcl
    rw [hf] at this
    rw [Nat.zero_add]; exact this
end

/-! ### What a round keeps -/
/-- Each block of cells lies as it lay, but for variables of type t, and rows of type e of more than one element. -/
structure KeepS (e t sz : Nat) (X Y : World) : Prop where
  size : X.heap.size ≤ Y.heap.size
  block : ∀ (k : Nat) (cs : Array Value) (ty : TypeId) (fr : Nat × Nat), X.heap[k]? = some (.cells cs ty fr) → ty ≠ t → (ty = e → cs.size ≤ sz) → Y.heap[k]? = X.heap[k]?
section
variable {e t sz : Nat} {X Y Z : World}
theorem KeepS.refl (X : World) : KeepS e t sz X X := ⟨Nat.le_refl _, fun _ _ _ _ _ _ _ => rfl⟩
theorem KeepS.trans (h : KeepS e t sz X Y) (k : KeepS e t sz Y Z) : KeepS e t sz X Z :=
  ⟨Nat.le_trans h.size k.size, fun i cs ty fr hi h1 h2 => (k.block i cs ty fr ((h.block i cs ty fr hi h1 h2).trans hi) h1 h2).trans (h.block i cs ty fr hi h1 h2)⟩
theorem KeepS.of_below (h : Below X.heap.size X Y) : KeepS e t sz X Y := ⟨h.size, fun _ _ _ _ hi _ _ => h.block _ (heap_lt hi)⟩
theorem KeepS.loop {l : Nat} {r r' : Loop} (hl : X.heap[l]? = some (.loop r)) : KeepS e t sz X (X.putObj l (.loop r')) :=
  ⟨by simp, fun k cs ty fr hk _ _ => World.putObj_heap_other (fun e => by rw [e, hl] at hk; cases hk)⟩
theorem KeepS.set {b : Nat} {u v : Value} {ty : TypeId} (h : Boxed X b ty u) (ht : ty = t) : KeepS e t sz X (X.setCell ⟨b, 0, none⟩ v) :=
  ⟨by simp, fun k cs ty' fr hk h1 _ => Below.heap_setCell X _ _ k (fun e => by rw [e] at hk; have := (show X.heap[b]? = _ from h).symm.trans hk; simp at this; exact h1 (this.2.1.symm.trans ht))⟩
theorem KeepS.own {base e' s' n : Nat} {v : Value} {xs : List Value} (h : X.ownsRow base e' s' v n xs) (k : KeepS e t sz X Y) (h1 : e' ≠ t) (h2 : e' ≠ e) : Y.ownsRow base e' s' v n xs := by
  refine ⟨h.1, ?_⟩
  rcases h.2 with hn | ⟨g, cap, cur, hv, hb, hg, rest⟩
  · exact .inl hn
  · exact .inr ⟨g, cap, cur, hv, hb, (k.block g cur e' _ hg h1 (fun e => absurd e h2)).trans hg, rest⟩
theorem KeepS.box {b : Nat} {ty : TypeId} {v : Value} (k : KeepS e t sz X Y) (h : Boxed X b ty v) (h1 : ty ≠ t) (h2 : ty = e → 1 ≤ sz) : Boxed Y b ty v := (k.block b _ _ _ h h1 (fun e => by simpa using h2 e)).trans h
theorem KeepS.heap {b : Nat} {cs : Array Value} {ty : TypeId} {fr : Nat × Nat} (k : KeepS e t sz X Y) (h : X.heap[b]? = some (.cells cs ty fr)) (h1 : ty ≠ t) (h2 : cs.size ≤ sz) : Y.heap[b]? = some (.cells cs ty fr) := (k.block b _ _ _ h h1 (fun _ => h2)).trans h
end

/-! ### One element more -/
section
variable {P : Program}
theorem fill_one (cs z : Array Value) (sz : Nat) (hc : cs.size = sz) (hs : 0 < sz) :
    Instr.fill (fun i => some (i * sz, sz)) ((Array.range (1 * sz)).map (z[· % z.size]!)) [(0, .agg cs)] = some cs := by
  have h := Great.fill_whole hs [.agg cs] ((Array.range (1 * sz)).map (z[· % z.size]!)) (by simp [Value.cells, hc]) (by simp)
  simpa [Value.cells] using h
/-- A slice literal of one struct. -/
theorem run_lit1 (w : World) (t e : TypeId) (ie : TypeInfo) (z : Value) (cs : Array Value) (sz : Nat) (hu : P.underlying t = some (.slice e)) (hie : P.info? e = some ie) (hz : ie.zero = some z)
    (hs : ie.size = sz) (hc : cs.size = sz) (h0 : 0 < sz) (h1 : sz ≤ 1000) :
    (Instr.buildSlice t 1 #[(0, .agg cs)]).run P w = .ok (.slice (some ⟨w.heap.size, 0, none⟩) 1 1) (w.alloc (.cells cs e)) :=
  run_buildSlice w t e 1 _ cs ie z hu hie hz (by rw [hs]; omega) (by rw [hs]; omega) (by rw [hs]; exact fill_one cs z.cells sz hc h0)
/-- What an append of one element keeps. -/
theorem append_keeps (w : World) (base t ty e : Nat) (i : TypeInfo) (z : Value) (size bytes : Nat) (ht : P.underlying t = some (.slice e)) (hi : P.info? e = some i) (hz : i.zero = some z)
    (hsize : i.size = size) (hby : i.bytes = bytes) (hsz : 0 < size)
    (v : Value) (n : Nat) (xs : List Value) (hown : w.ownsRow base e size v n xs) (hv : v = .slice none 0 0 ∨ 0 < n)
    (a : Addr) (c : Nat) (news : List Value) (hl : news.length = size) (hnews : ∀ j u, news[j]? = some u → w.cell? (a.add j) = some u) (h1 : ∀ u ∈ news, u.oneCell' = true)
    (h63 : n + 1 ≤ maxLen) (hbytes : (n + 1) * bytes ≤ 140737488355328) {v' : Value} {w' : World}
    (hr : (Builtin.append_ #[t, t] ty #[v, .slice (some a) 1 c]).run P w = .ok v' w') :
    (∀ (k : Nat) (cs : Array Value) (y : TypeId) (fr : Nat × Nat), w.heap[k]? = some (.cells cs y fr) → (y = e → cs.size ≤ size) → w'.heap[k]? = w.heap[k]?) ∧ (v'.ownBlock = v.ownBlock ∨ v'.ownBlock = some w.heap.size) := by
  subst hsize
  subst hby
  have hl1 : news.length = 1 * i.size := by omega
  rcases hown.2 with ⟨rfl, rfl⟩ | ⟨g, cap, cur, rfl, hbg, hg, hnc, hcm, hcs, htake⟩
  · have h := run_append_nil (P := P) w t ty e i z ht hi hz a 1 c news hl1 hnews (by omega) (by omega) (by simp only [Nat.zero_add] at hbytes; omega)
    rw [h] at hr
    cases hr
    exact ⟨fun k cs y fr hk _ => Below.heap_alloc w.drew _ k (heap_lt hk), .inr rfl⟩
  · have hn : 0 < n := by
      rcases hv with e | e
      · cases e
      · exact e
    by_cases hroom : n + 1 ≤ cap
    · have hfit : n * i.size + news.length ≤ cur.size := by rw [hl1, hcs, ← Nat.add_mul]; exact Nat.mul_le_mul_right _ hroom
      have h := run_append_room (P := P) w t ty e i ht hi g n cap cur hg a 1 c news hl1 hnews h1 hroom hfit
      rw [h] at hr
      cases hr
      refine ⟨fun k cs y fr hk hy => setRow_other w g k _ (fun e' => ?_), .inl rfl⟩
      subst e'
      rw [hg] at hk
      cases hk
      have h2 := hy rfl
      have h3 : 2 * i.size ≤ cap * i.size := Nat.mul_le_mul_right _ (by omega)
      omega
    · have holds : ∀ j u, xs[j]? = some u → w.cell? ((⟨g, 0, none⟩ : Addr).add j) = some u := hown.cells (g := g) rfl
      have h := run_append_grow (P := P) w t ty e i z ht hi hz ⟨g, 0, none⟩ n cap xs hown.1 holds a 1 c news hl1 hnews (by omega) (by simp only [maxLen] at h63; omega) (growslice_fits (by omega) hbytes)
      rw [h] at hr
      cases hr
      exact ⟨fun k cs y fr hk _ => Below.heap_alloc w.drew _ k (heap_lt hk), .inr rfl⟩
theorem wpListIn_append_one {F : Fence} {n : Nat} (w : World) {ops : Array Oper} {rest : List Oper} {o : Oper} {a : Act} {Q : Exit → Act → World → Prop}
    (hg : o.guard = none) (s x : Operand) (t : TypeId) (hop : o.op = Op.call { callee := Callee.builtin Builtin.append, args := #[s, x], argTypes := #[t, t] })
    (base : Nat) (e : TypeId) (i : TypeInfo) (z : Value) (size bytes : Nat) (h1 : P.underlying t = some (.slice e)) (h2 : P.info? e = some i) (h3 : i.zero = some z) (h4 : i.size = size) (h5 : i.bytes = bytes) (h6 : z.cells.size = size) (h7 : 0 < size)
    (v : Value) (k : Nat) (xs : List Value) (hs : a.eval s = v) (hown : w.ownsRow base e size v k xs) (hv : v = .slice none 0 0 ∨ 0 < k) (ad : Addr) (c : Nat) (news : List Value) (hx : a.eval x = .slice (some ad) 1 c) (hn : news.length = size)
    (hc : ∀ j u, news[j]? = some u → w.cell? (ad.add j) = some u) (h1c : ∀ u ∈ news, u.oneCell' = true) (b1 : k + 1 ≤ maxLen) (b2 : (k + 1) * bytes ≤ 140737488355328) (b3 : base ≤ w.heap.size)
    (hK : ∀ v' w', w'.ownsRow base e size v' (k + 1) (xs ++ news) → w.grownBy w' v.ownBlock →
      (∀ (j : Nat) (cs : Array Value) (y : TypeId) (fr : Nat × Nat), w.heap[j]? = some (.cells cs y fr) → (y = e → cs.size ≤ size) → w'.heap[j]? = w.heap[j]?) → (v'.ownBlock = v.ownBlock ∨ v'.ownBlock = some w.heap.size) → wpListIn F n P ops Q rest (a.put o.dst v') w') :
    wpListIn F n P ops Q (o :: rest) a w := by
  refine wpListIn_plain hg fun K hK' => ?_
  have hn1 : news.length = 1 * size := by omega
  obtain ⟨v', w', hrun, r1, r2, r3⟩ := run_append_own (P := P) w base t o.type e i z size bytes h1 h2 h3 h4 h5 h6 h7 v k xs hown ad 1 c news hn1 hc h1c b1 b2 b3
  have r4 := append_keeps w base t o.type e i z size bytes h1 h2 h3 h4 h5 h7 v k xs hown hv ad c news hn hc h1c b1 b2 hrun
  unfold Oper.wpIn
  refine ⟨?_, ?_⟩
  · simp [Oper.about, hop, resolve, Target.leads, Sem.run_pure]
  · rw [Oper.semAt_plain F _ _ (by rw [hop]; intro c hc'; cases hc')]
    simp [execOp, hop, resolve, invoke, builtin, hs, hx, hrun, Result.andThen]
    exact hK' _ _ (hK v' w' r1 r2 r4.1 r4.2)
end
end Go.Proofs.Ytkgbjohadkbjaaa

/-
  Contracts of cut4's optionSize, each and its iterator. Conditions are each theorem's own.
-/
namespace Go.Proofs.Ytkgbjohadkbjaaa
open Go.RowKit Go.Shelf
attribute [local go_sem] Oper.semAt_some

/-- The blocks of which S is lie as they lay. -/
def KeepP (S : Nat → Prop) (X Y : World) : Prop := X.heap.size ≤ Y.heap.size ∧ ∀ k, S k → Y.heap[k]? = X.heap[k]?
theorem KeepP.refl (S : Nat → Prop) (X : World) : KeepP S X X := ⟨Nat.le_refl _, fun _ _ => rfl⟩
theorem KeepP.trans {S : Nat → Prop} {X Y Z : World} (h : KeepP S X Y) (k : KeepP S Y Z) : KeepP S X Z := ⟨Nat.le_trans h.1 k.1, fun i hi => (k.2 i hi).trans (h.2 i hi)⟩
theorem KeepP.cell {S : Nat → Prop} {X Y : World} (h : KeepP S X Y) {p : Addr} (hp : S p.block) : Y.cell? p = X.cell? p := World.cell?_of_block (w := X) (h.2 p.block hp)
theorem KeepP.loop {S : Nat → Prop} {X : World} {l : Nat} {r' : Loop} (hl : ¬ S l) : KeepP S X (X.putObj l (.loop r')) :=
  ⟨by simp, fun k hk => World.putObj_heap_other (fun e => hl (e ▸ hk))⟩
theorem KeepP.of_below {S : Nat → Prop} {B : Nat} {X Y : World} (h : Below B X Y) (hS : ∀ k, S k → k < B) : KeepP S X Y := ⟨h.size, fun k hk => h.block k (hS k hk)⟩

def encS (x : OI) : Array Value := #[.slice x.A x.n x.c]
end Go.Proofs.Ytkgbjohadkbjaaa

/-
  Contract of tcp.MSS. Conditions are each theorem's own.
-/
namespace Go.Proofs.Ytkgbjohadkbjaaa
open Go.RowKit Go.Shelf
attribute [local go_sem] Oper.semAt_some
theorem byt_take (b : List UInt8) {n j : Nat} (h : j < n) : byt (b.take n) j = byt b j := by simp [byt, h]
theorem loadv_int {w : World} {g : Nat} {v : Value} (h : Boxed w g 3 v) : (loadVar 3 ⟨g, 0, none⟩).run Try.prog w = .ok v w := by
  have hagg : (isAgg 3).run Try.prog w = .ok false w := by
    unfold isAgg
    rw [Sem.run_bind, run_underlying Try.underlying3 w]; rfl
  have hc := h.cell
  simp [loadVar, Sem.run_bind, hagg, hc]
theorem loadv_bool {w : World} {g : Nat} {v : Value} (h : Boxed w g 4 v) : (loadVar 4 ⟨g, 0, none⟩).run Try.prog w = .ok v w := by
  have hagg : (isAgg 4).run Try.prog w = .ok false w := by
    unfold isAgg
    rw [Sem.run_bind, run_underlying Try.underlying4 w]; rfl
  have hc := h.cell
  simp [loadVar, Sem.run_bind, hagg, hc]
theorem cells3 {fn : Func} {p q r : Tmp} {tmps : Array Value} {w : World} {g : Nat} {x y z : Value} (h : fn.results = #[.cell p 3, .cell q 3, .cell r 4])
    (hp : tmps.getD p undef = .pointer (some ⟨g, 0, none⟩)) (hq : tmps.getD q undef = .pointer (some ⟨g + 1, 0, none⟩)) (hr : tmps.getD r undef = .pointer (some ⟨g + 1 + 1, 0, none⟩))
    (h0 : Boxed w g 3 x) (h1 : Boxed w (g + 1) 3 y) (h2 : Boxed w (g + 1 + 1) 4 z) :
    (results fn tmps).run Try.prog w = .ok (.tuple #[x, y, z]) w := by
  have hp' : tmps[p]?.getD undef = .pointer (some ⟨g, 0, none⟩) := by simpa using hp
  have hq' : tmps[q]?.getD undef = .pointer (some ⟨g + 1, 0, none⟩) := by simpa using hq
  have hr' : tmps[r]?.getD undef = .pointer (some ⟨g + 1 + 1, 0, none⟩) := by simpa using hr
  simp [results, h, hp', hq', hr', asAddr, loadv_int h0, loadv_int h1, loadv_bool h2]
/-- Three results in blocks of their own, in a row. -/
structure Three (W : World) (g : Nat) (x y : Int) (z : Bool) : Prop where
  one : Boxed W g 3 (.int .i64 x)
  two : Boxed W (g + 1) 3 (.int .i64 y)
  three : Boxed W (g + 1 + 1) 4 (.bool z)
theorem Three.below {W V : World} {g n : Nat} {x y : Int} {z : Bool} (h : Three W g x y z) (hb : Below n W V) (hn : g + 1 + 1 < n) : Three V g x y z :=
  ⟨Boxed.below h.one hb (by omega), Boxed.below h.two hb (by omega), Boxed.below h.three hb hn⟩
theorem Three.kept {W V : World} {g n : Nat} {x y : Int} {z : Bool} {r : Option Nat} (h : Three W g x y z) (hg : W.grownBy V r) (hr : ∀ k, r = some k → n ≤ k ∧ ∃ o : Obj, W.heap[k]? = some o ∧ o.isCells = false) : Three V g x y z :=
  ⟨box_keep h.one hg hr, box_keep h.two hg hr, box_keep h.three hg hr⟩
theorem Three.set {W : World} {g : Nat} {x y : Int} {z : Bool} (h : Three W g x y z) (x' y' : Int) (z' : Bool) :
    Three (((W.setCell ⟨g, 0, none⟩ (.int .i64 x')).setCell ⟨g + 1, 0, none⟩ (.int .i64 y')).setCell ⟨g + 1 + 1, 0, none⟩ (.bool z')) g x' y' z' :=
  ⟨(((Boxed.set _ h.one).other (by omega) _).other (by omega) _), ((Boxed.set _ (h.two.other (by omega) _)).other (by omega) _), Boxed.set _ ((h.three.other (by omega) _).other (by omega) _)⟩
theorem find_split {α : Type} {p : α → Bool} {l pre more : List α} (h : l = pre ++ more) (hn : ∀ x ∈ pre, p x = false) : l.find? p = more.find? p := by
  subst h
  rw [List.find?_append, List.find?_eq_none.2 (fun x hx => by simp [hn x hx]), Option.none_or]
section
variable (q : PT) (A A' : Option Addr) (c c' : Nat) (w : World)
end
end Go.Proofs.Ytkgbjohadkbjaaa

/-
  Layer 8's awake, and what Build answers, in one shape. Conditions are each theorem's own.
-/
namespace Go.Proofs.Ytkgbjohadkbjaaa
open Go.RowKit

def resT (src dst : Int) (q : PT) : List UInt8 := if chkT q = 0 then bldT src dst q else []
theorem resT_shape {src dst : Int} {q : PT} {w w' : World} {v : Value} (h : (chkT q ≠ 0 → v = .slice none 0 0 ∧ Below w.heap.size w w') ∧ (chkT q = 0 → Made w w' v (bldT src dst q))) :
    ∃ P k, v = .slice P (resT src dst q).length k ∧ Rd w' w'.heap.size P (resT src dst q) ∧ Below w.heap.size w w' := by
  by_cases hc : chkT q = 0
  · obtain ⟨A, c, rfl, hl, hr, ho, hb⟩ := h.2 hc
    exact ⟨A, c, by rw [resT, if_pos hc], by rw [resT, if_pos hc]; exact hr, hb⟩
  · obtain ⟨rfl, hb⟩ := h.1 hc
    exact ⟨none, 0, by rw [resT, if_neg hc]; rfl, by rw [resT, if_neg hc]; exact Rd.nil, hb⟩
def qaT : PT := ⟨1, 2, 0, 0, 0, 0, 0, 0, [1, 2, 4, 5, 180, 1, 1, 1], []⟩
theorem argA {B g : Nat} {w : World} (hg : w.heap[g]? = some (.cells #[.int .u8 1, .int .u8 2, .int .u8 4, .int .u8 5, .int .u8 180, .int .u8 1, .int .u8 1, .int .u8 1] 5 (0, 0))) (hB : g < B) : Arg w B (some ⟨g, 0, none⟩) 8 qaT.opt :=
  ⟨Rd.of_block hg hB 0 (fun j hj => by
    have hj : j < 8 := hj
    rcases (by omega : j = 0 ∨ j = 1 ∨ j = 2 ∨ j = 3 ∨ j = 4 ∨ j = 5 ∨ j = 6 ∨ j = 7) with rfl | rfl | rfl | rfl | rfl | rfl | rfl | rfl <;> rfl), by decide, fun e => by cases e⟩
end Go.Proofs.Ytkgbjohadkbjaaa

/-
  Contracts of the document's Option, Places and MSS of layer 8. Conditions are each theorem's own.
-/
namespace Go.Proofs.Ytkgbjohadkbjaaa
open Go.RowKit
end Go.Proofs.Ytkgbjohadkbjaaa

/-
  Contract of the document's Places of layer 8. Conditions are each theorem's own.
-/
namespace Go.Proofs.Ytkgbjohadkbjaaa
open Go.RowKit
/-- Places as values. -/
def pv (ps : List Nat) : List Value := ps.map fun (x : Nat) => Value.int .i64 (x : Int)
theorem pv_len (ps : List Nat) : (pv ps).length = ps.length := by simp [pv]
theorem info_int : (Try.prog.info? 3).map (fun i => (i.zero, i.size, i.bytes)) = some (some (.int .i64 0), 1, 8) := by kernel_rfl
/-- append of one number onto a row of the call's own. -/
theorem append_int {w : World} {ops : Array Oper} {rest : List Oper} {o : Oper} {a : Act} {Q : Exit → Act → World → Prop} (hgd : o.guard = none) (s x : Operand)
    (ho : o.op = .call { callee := .builtin .append, args := #[s, x], argTypes := #[30, 30] })
    (base : Nat) (v : Value) (n : Nat) (ls : List Nat) (hs : a.eval s = v) (hown : w.ownsRow base 3 1 v n (pv ls))
    (g : Nat) (y : Nat) (hx : a.eval x = .slice (some ⟨g, 0, none⟩) 1 1) (hy : w.cell? ⟨g, 0, none⟩ = some (.int .i64 (y : Int)))
    (hlen : n ≤ 1000001) (hbase : base ≤ w.heap.size)
    (h : ∀ v' w', w'.ownsRow base 3 1 v' (n + 1) (pv (ls ++ [y])) → w.grownBy w' v.ownBlock → wpList Try.prog ops Q rest (a.put o.dst v') w') : wpList Try.prog ops Q (o :: rest) a w := by
  obtain ⟨i0, hi, hz0, hz1, hz2⟩ := info_parts info_int
  refine wpList_append_own w hgd s x 30 ho base 3 i0 (.int .i64 0) 1 8 Try.underlying30 hi hz0 hz1 hz2 rfl (by decide) v n (pv ls) hs hown ⟨g, 0, none⟩ 1 1 [.int .i64 (y : Int)] hx
      rfl (fun j u hu => ?_) (by intro u hu; simp only [List.mem_singleton] at hu; subst hu; rfl) (by unfold maxLen; omega) (by omega) hbase (fun v' w' h1 h2 _ => h v' w' (by simpa [pv] using h1) h2)
  have hj : j = 0 := by have := (List.getElem?_eq_some_iff.1 hu).1; simp at this; exact this
  subst hj
  simp only [List.getElem?_cons_zero, Option.some.injEq] at hu
  rw [← hu, add_off]; exact hy
end Go.Proofs.Ytkgbjohadkbjaaa

/-
  Contract of the document's MSS of layer 8. Conditions are each theorem's own.
-/
namespace Go.Proofs.Ytkgbjohadkbjaaa
open Go.RowKit
/-- A row of places, as a slice. -/
theorem own_pv {w : World} {base : Nat} {v : Value} {ps : List Nat} (h : w.ownsRow base 3 1 v ps.length (pv ps)) :
    ∃ P c, v = .slice P ps.length c ∧ ∀ j, j < ps.length → ∃ g, P = some ⟨g, 0, none⟩ ∧ g < w.heap.size ∧ w.cell? ⟨g, j, none⟩ = some (.int .i64 ((ps.getD j 0 : Nat) : Int)) := by
  have h' := h
  rcases h'.2 with ⟨e, h0⟩ | ⟨g, cap, cur, e, _, hh, _, _⟩
  · exact ⟨none, 0, by rw [e, h0], fun j hj => by omega⟩
  · refine ⟨_, cap, e, fun j hj => ⟨g, rfl, heap_lt hh, ?_⟩⟩
    have := World.ownsRow.cells h (g := g) (by rw [e]; rfl) j (.int .i64 ((ps.getD j 0 : Nat) : Int)) (by simp [pv, hj])
    rwa [add_off, Nat.zero_add] at this
section
variable (q : PT) (A : Option Addr) (c : Nat) (A' : Option Addr) (c' : Nat) (w : World)
end
end Go.Proofs.Ytkgbjohadkbjaaa

/-
  Contracts of Copied: cut4's, and the document's of layer 13. Conditions are each theorem's own.
-/
namespace Go.Proofs.Ytkgbjohadkbjaaa
open Go.RowKit Go.Shelf
attribute [local go_sem] Oper.semAt_some

theorem cop1_cut (b : List UInt8) (a : Nat) (h : byt b a ≥ 128) : cop1 b a = (b.take (a + optL b a)).drop a := by
  rw [cop1, if_pos h, List.drop_take]; congr 1; omega
theorem cop1_no {b : List UInt8} {a : Nat} (h : ¬ byt b a ≥ 128) : cop1 b a = [] := by rw [cop1, if_neg h]
theorem rep_snoc (C : List UInt8) (j : Nat) : (C ++ List.replicate j 0) ++ [0] = C ++ List.replicate (j + 1) 0 := by
  rw [List.append_assoc, List.replicate_succ']
theorem rd_zero (w : World) : Rd (w.alloc (.cells #[.int .u8 0] 5)) (w.heap.size + 1) (some ⟨w.heap.size, 0, none⟩) [0] := by
  refine Rd.of_block (World.alloc_heap_new w _) (Nat.lt_succ_self _) 0 (fun j hj => ?_)
  have h0 : j = 0 := by simpa using hj
  subst h0; rfl
theorem places_get {b : List UInt8} {k : Nat} (h : k < (places b).length) : 0 < optL b ((places b).getD k 0) := by
  rw [List.getD_eq_getElem?_getD, List.getElem?_eq_getElem h]; exact places_mem (List.getElem_mem h)
theorem cops_step (b : List UInt8) {k : Nat} (h : k < (places b).length) : cops b ((places b).take (k + 1)) = cops b ((places b).take k) ++ cop1 b ((places b).getD k 0) := by
  have e : (places b).take (k + 1) = (places b).take k ++ [(places b).getD k 0] := by rw [List.take_add_one, List.getD_eq_getElem?_getD, List.getElem?_eq_getElem h]; rfl
  rw [e, cops_snoc]
theorem cops_take (b : List UInt8) (k : Nat) : (cops b ((places b).take k)).length ≤ b.length := cops_pre b (more := (places b).drop k) (List.take_append_drop _ _).symm
end Go.Proofs.Ytkgbjohadkbjaaa
