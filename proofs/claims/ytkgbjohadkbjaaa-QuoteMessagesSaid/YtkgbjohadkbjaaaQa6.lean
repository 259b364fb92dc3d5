/-
  Contracts and lemmas on which the proofs of this seat stand (several texts in one). Conditions are each theorem's own.
-/
import Derived.Test.YtkgbjohadkbjaaaQa5
import Derived.Lib.AppendZerosOnto
import Derived.Lib.Walk
import Derived.Lib.SliceRun
import Derived.Test.YtkgbjohadkbjaaaQa4
import Derived.Test.YtkgbjohadkbjaaaQa2

/-
  Contracts of layer 7's check and Build, the program's and the document's. Conditions are each theorem's own.
-/
namespace Go.Proofs.Ytkgbjohadkbjaaa
open Go.RowKit

theorem Rd2.two {w : World} {B g t n0 n1 : Nat} {A0 A1 : Option Addr} {c0 c1 : Nat} {b0 b1 : List UInt8} (h0 : n0 = b0.length) (h1 : n1 = b1.length)
    (hg : w.heap[g]? = some (.cells #[.slice A0 n0 c0, .slice A1 n1 c1] t (0, 0))) (hB : g < B) (a0 : Arg w B A0 c0 b0) (a1 : Arg w B A1 c1 b1) : Rd2 w B (some ⟨g, 0, none⟩) [b0, b1] := by
  subst h0; subst h1
  refine Rd2.of_cells hg hB fun j b hj => ?_
  match j, hj with
  | 0, hj => simp at hj; subst hj; exact ⟨A0, c0, rfl, a0⟩
  | 1, hj => simp at hj; subst hj; exact ⟨A1, c1, rfl, a1⟩
  | j + 2, hj => simp at hj
theorem bulk2 (a b : List UInt8) : bulk [a, b] = a.length + b.length := by simp [bulk]
theorem rof_two (A : Option Addr) (a b : List UInt8) (c B : Nat) (N : Int) (hN : Hid (N = 65535 - fold (psum [a, b]))) (w : World) (h : Rd2 w B A [a, b]) (hl : a.length + b.length ≤ 1099511627000) :
    Calls Try.prog 90 #[.slice A 2 c] w fun e w' => e = .returned (.int .i64 N) ∧ ∃ n, w' = w.drewN n := by
  have h1 := rof_any A [a, b] c B w h (by rw [bulk2]; omega) (by simp)
  rw [← hN.out] at h1
  exact h1
theorem rright_two (A : Option Addr) (a b : List UInt8) (c B : Nat) (N : Bool) (hN : Hid (N = rightB [a, b])) (w : World) (h : Rd2 w B A [a, b]) (hl : a.length + b.length ≤ 1099511627000) :
    Calls Try.prog 65 #[.slice A 2 c] w fun e w' => e = .returned (.bool N) ∧ ∃ n, w' = w.drewN n := by
  have h1 := rright_any A [a, b] c B w h (by rw [bulk2]; omega) (by simp)
  rw [← hN.out] at h1
  exact h1
section
variable (q : PU) (A : Option Addr) (c : Nat) (src dst : Int) (w : World)
set_option maxRecDepth 100000 in
set_option maxHeartbeats 1000000 in
theorem rUbytes (B : Nat) (s : Int) (bs : List UInt8) (hbs : Hid (bs = hdU q s ++ q.dat)) (ha : argU q) (hd : q.dat.length ≤ 65527) (s0 : 0 ≤ s) (s1 : s ≤ 65535) (hD : Arg w B A c q.dat) (hB0 : B ≤ w.heap.size) :
    Calls Try.prog 89 #[usv q A c, .int .i64 s] w fun e w' => ∃ v, e = .returned v ∧ Made w w' v bs := by
  have hB : Below w.heap.size w (w.alloc (.cells (usa q A c) 69)) := (Below.refl w.heap.size w).alloc (Nat.le_refl _) _
  have hAt := Atus.new (q := q) (A := A) (c := c) w
  have hz : w.heap.size < (w.alloc (.cells (usa q A c) 69)).heap.size := by simp
  rw [usv_eq]
  obtain ⟨a1, a2, a3, a4⟩ := ha
  obtain ⟨L1, h1⟩ : ∃ l, l = be2 q.src := ⟨_, rfl⟩
  obtain ⟨L2, h2⟩ : ∃ l, l = L1 ++ be2 q.dst := ⟨_, rfl⟩
  obtain ⟨L3, h3⟩ : ∃ l, l = L2 ++ be2 (8 + (q.dat.length : Int)) := ⟨_, rfl⟩
  obtain ⟨L4, h4⟩ : ∃ l, l = L3 ++ be2 s := ⟨_, rfl⟩
  have H1 := Lib.hid (show putB [] q.src 2 = L1 by rw [put_two a1 a2, h1]; rfl)
  have H2 := Lib.hid (show putB L1 q.dst 2 = L2 by rw [put_two a3 a4, h2])
  have H3 := Lib.hid (show putB L2 (8 + (q.dat.length : Int)) 2 = L3 by rw [put_two (by omega) (by omega), h3])
  have H4 := Lib.hid (show putB L3 s 2 = L4 by rw [put_two s0 s1, h4])
  have H5 := Lib.hid (show bs = L4 ++ q.dat by rw [hbs.out, h4, h3, h2, h1]; rfl)
  have l1 : L1.length ≤ 2 := by rw [h1]; simp [be2]
  have l2 : L2.length ≤ 4 := by rw [h2, List.length_append]; simp [be2]; omega
  have l3 : L3.length ≤ 6 := by rw [h3, List.length_append]; simp [be2]; omega
  have l4 : L4.length ≤ 8 := by rw [h4, List.length_append]; simp [be2]; omega
  clear h1 h2 h3 h4 hbs
  go_enter Try.func89, Try.ntmps89
  go_wp2_with fail
  generalize w.alloc (.cells (usa q A c) 69) = W at *
  refine wp_region_held_drew (S := fun w' => Below W.heap.size W w') (by kernel_rfl) (Below.refl _ W).drew (fun hS => ?_)
  refine held_pure (i := 0) (oi := ⟨some 6, _, _, _, _, _⟩) rfl (by kernel_rfl) (by kernel_rfl) (by kernel_rfl) (fun _ _ _ h => h) (by rfl) (v := ?_) (fun w hSw => ?_) hS (fun hS => ?_)
  rotate_left
  · go_simp; try with_reducible rfl
  try go_frame
  refine held_pure (i := 1) (oi := ⟨some 7, _, _, _, _, _⟩) rfl (by kernel_rfl) (by kernel_rfl) (by kernel_rfl) (fun _ _ _ h => h) (by rfl) (fun w hSw => run_load_int rfl rfl ((hAt.below hSw (by omega)).src)) hS (fun hS => ?_)
  try go_frame
  refine held_pure (i := 3) (oi := ⟨some 9, _, _, _, _, _⟩) rfl (by kernel_rfl) (by kernel_rfl) (by kernel_rfl) (fun _ _ _ h => h) (by rfl) (v := ?_) (fun w hSw => ?_) hS (fun hS => ?_)
  rotate_left
  · go_simp; try with_reducible rfl
  try go_frame
  refine held_pure (i := 4) (oi := ⟨some 10, _, _, _, _, _⟩) rfl (by kernel_rfl) (by kernel_rfl) (by kernel_rfl) (fun _ _ _ h => h) (by rfl) (fun w hSw => run_load_int rfl rfl ((hAt.below hSw (by omega)).dst)) hS (fun hS => ?_)
  try go_frame
  refine wpAnyH_ready (rs := [2]) (by kernel_rfl) (by simp) (AllReadyH.cons (o := ⟨some 8, _, _, _, _, _⟩) rfl (fun K hK => ?_) AllReadyH.nil)
  rw [if_pos (by rfl)]
  go_simp
  refine (rput_nil q.src 2 _).mono ?_
  rintro e w2 ⟨v2, rfl, m2⟩
  rw [H1.out] at m2
  obtain ⟨A2, c2, rfl, g2, o2, x2⟩ := made_shape m2
  show K _ _
  refine hK.out _ _ (below_step hS x2) (fun hS => ?_)
  clear hK K
  try go_frame
  refine wpAnyH_ready (rs := [5]) (by kernel_rfl) (by simp) (AllReadyH.cons (o := ⟨some 11, _, _, _, _, _⟩) rfl (fun K hK => ?_) AllReadyH.nil)
  rw [if_pos (by rfl)]
  go_simp
  refine (rput_any A2 L1 c2 _ q.dst 2 _ g2 (by omega)).mono ?_
  rintro e w5 ⟨v5, rfl, m5⟩
  rw [H2.out] at m5
  obtain ⟨A5, c5, rfl, g5, o5, x5⟩ := made_shape m5
  show K _ _
  refine hK.out _ _ (below_step hS x5) (fun hS => ?_)
  clear hK K
  try go_frame
  refine held_pure (i := 6) (oi := ⟨some 5, _, _, _, _, _⟩) rfl (by kernel_rfl) (by kernel_rfl) (by kernel_rfl) (fun _ _ _ h => h) (by rfl) (v := ?_) (fun w hSw => ?_) hS (fun hS => ?_)
  rotate_left
  · go_simp; try with_reducible rfl
  try go_frame
  refine wpAnyH_done (by kernel_rfl) ?_ _
  have k3 := (hAt.below hS (by omega)).dat
  go_upto_region 3 with (first
    | (go_at_call 84; ((with_reducible refine (rput_any A5 L2 c5 _ (8 + (q.dat.length : Int)) 2 _ g5 (by omega)).mono ?_); rintro e w6 ⟨v6, rfl, m6⟩; rw [H3.out] at m6; obtain ⟨A6, c6, rfl, g6, o6, x6⟩ := made_shape m6))
    | (go_at_call 84; ((with_reducible refine (rput_any A6 L3 c6 _ s 2 _ g6 (by omega)).mono ?_); rintro e w7 ⟨v7, rfl, m7⟩; rw [H4.out] at m7; obtain ⟨A7, c7, rfl, g7, o7, x7⟩ := made_shape m7)))
  have x57 : Below W.heap.size W w7 := hS.trans ((x6.trans (x7.mono x6.size)).mono hS.size)
  have k4 := (hAt.below x57 (by omega)).dat
  have hD7 := hD.below ((hB.trans (x57.mono (by omega))).mono hB0)
  clear k3
  go_wp2_with (at_builtin; refine append_rd rfl _ _ rfl w6.heap.size _ _ _ rfl o7 B A c q.dat rfl hD.none_ hD7.rd (by omega) x7.size ?_; intro v8 w8 own8 grow8)
  go_ret
  have own9 := own_base own8 (show w.heap.size ≤ w6.heap.size by have := x6.size; have := hS.size; omega)
  have x8 := (hB.trans (x57.mono (by omega))).grown grow8 (by have := x57.size; omega) (fun k hk => by have := own_block_ge o7 k hk; have := x6.size; have := hS.size; omega)
  obtain ⟨A8, c8, rfl, owm8⟩ := own_made (bs := bs) own9 (by rw [H5.out]; simp) (by rw [H5.out, row_append])
  exact ⟨_, rfl, Made.of_own owm8 x8⟩
end
end Go.Proofs.Ytkgbjohadkbjaaa

/-
  Contracts of the document's Build of layer 7, and of udp's reader. Conditions are each theorem's own.
-/
namespace Go.Proofs.Ytkgbjohadkbjaaa
open Go.RowKit

section
variable (q : PU) (A : Option Addr) (c : Nat) (src dst : Int) (w : World)
set_option maxRecDepth 100000 in
set_option maxHeartbeats 1000000 in
theorem rUbuild (B : Nat) (hD : Arg w B A c q.dat) (hB0 : B ≤ w.heap.size) (hl : q.dat.length ≤ 1000000) :
    Calls Try.prog 61 #[.int .i64 src, .int .i64 dst, usv q A c] w fun e w' => ∃ v, e = .returned (.tuple #[v, .int .i64 (chkU q)]) ∧ (chkU q ≠ 0 → v = .slice none 0 0 ∧ Below w.heap.size w w') ∧ (chkU q = 0 → Made w w' v (bldU src dst q)) := by
  have hB : Below w.heap.size w (w.alloc (.cells (usa q A c) 69)) := (Below.refl w.heap.size w).alloc (Nat.le_refl _) _
  have hAt := Atus.new (q := q) (A := A) (c := c) w
  have hz : w.heap.size < (w.alloc (.cells (usa q A c) 69)).heap.size := by simp
  rw [usv_eq]
  go_enter Try.func61, Try.ntmps61
  go_upto_region 1 with fail
  generalize w.alloc (.cells (usa q A c) 69) = W at *
  by_cases hc : chkU q = 0
  · obtain ⟨ha, hd⟩ := chkU_ok hc
    have HC := Lib.hid hc
    clear hc
    obtain ⟨B0, hb0⟩ : ∃ l, l = hdU q 0 ++ q.dat := ⟨_, rfl⟩
    have HB0 := Lib.hid hb0
    have lB : Hid (B0.length = 8 + q.dat.length) := Lib.hid (by rw [hb0, List.length_append, hdU_len])
    have HSM := Lib.hid (show smU src dst q = 65535 - fold (psum [psd src dst 17 (B0.length : Int), B0]) by rw [lB.out, hb0]; exact (smU_two src dst q).symm)
    clear hb0
    have bd := smU_bd src dst q
    have bk := ckU_bd src dst q
    have hD1 : ∀ X : World, Below W.heap.size W X → Arg X B A c q.dat := fun X hX => hD.below ((hB.trans (hX.mono (by omega))).mono hB0)
    go_upto_region 4 with (first
      | ((with_reducible show wpList _ _ _ (Oper.mk _ (Op.load 69 _) _ _ _ _ :: _) _ _); refine wpList_val rfl (run_load_us rfl rfl hAt rfl) ?_)
      | (go_at_call 88; refine (rUcheck q A c _ hl).mono ?_; rintro e w1 ⟨rfl, x1⟩; rw [HC.out]))
    have hAt1 := hAt.below x1 hz
    go_upto_region 5 with (first
      | ((with_reducible show wpList _ _ _ (Oper.mk _ (Op.load 69 _) _ _ _ _ :: _) _ _); refine wpList_val rfl (run_load_us rfl rfl hAt1 rfl) ?_)
      | (go_at_call 89; refine (rUbytes q A c _ B 0 B0 HB0 ha hd (by omega) (by omega) (hD1 _ x1) (by have := x1.size; omega)).mono ?_; rintro e w2 ⟨v2, rfl, m2⟩; obtain ⟨A2, c2, rfl, g2, o2, x2⟩ := made_shape m2))
    have x12 := x1.trans (x2.mono x1.size)
    have hAt2 := hAt.below x12 hz
    have k2 := hAt2.nosum
    cases hn : q.nosum
    · rw [hn] at k2
      have HN := Lib.hid hn
      clear hn
      go_upto_region 8 with (first
        | (go_at_call 66; refine (rpsd_any src dst 17 (B0.length : Int) _).mono ?_; rintro e w3 ⟨v3, rfl, m3⟩; obtain ⟨A3, c3, rfl, g3, o3, x3⟩ := made_shape m3)
        | (go_at_call 90; refine (rof_two (some ⟨w3.heap.size, 0, none⟩) (psd src dst 17 (B0.length : Int)) B0 2 (w3.heap.size + 1) (smU src dst q) HSM _ (Rd2.two rfl rfl (World.alloc_heap_new w3 _) (Nat.lt_succ_self _) ((g3.alloc (Nat.le_refl _) _).more (Nat.le_succ _)) (((g2.below x3).alloc x3.size _).more (by have := x3.size; omega))) (by rw [psd_len]; have := lB.out; omega)).mono ?_; rintro e w4 ⟨rfl, n4, rfl⟩))
      have x3a : Below W.heap.size W ((w3.alloc (.cells #[.slice A3 (psd src dst 17 (B0.length : Int)).length c3, .slice A2 B0.length c2] 45)).drewN n4) := below_drewN ((x12.trans (x3.mono x12.size)).alloc (by have := x12.size; have := x3.size; omega) _) _
      have hzz := x3a.size
      generalize (w3.alloc (.cells #[.slice A3 (psd src dst 17 (B0.length : Int)).length c3, .slice A2 B0.length c2] 45)).drewN n4 = W4 at *
      have hAt4 := hAt.below x3a hz
      obtain ⟨N, hN⟩ : ∃ n, n = smU src dst q := ⟨_, rfl⟩
      have HBL := Lib.hid (show bldU src dst q = hdU q (ckU src dst q) ++ q.dat from rfl)
      rw [← hN]
      have HNN := Lib.hid hN
      clear hN
      by_cases h0 : N = 0
      · have e0 : (N == 0) = true := by simpa using h0
        have HE := Lib.hid (show ckU src dst q = 65535 by rw [ckU, HN.out, ← HNN.out, if_pos h0]; rfl)
        rw [HE.out] at HBL
        clear h0
        go_wp2_with (first
          | ((with_reducible show wpList _ _ _ (Oper.mk _ (Op.load 69 _) _ _ _ _ :: _) _ _); refine wpList_val rfl (run_load_us rfl rfl hAt4 rfl) ?_)
          | (go_at_call 89; refine (rUbytes q A c _ B 65535 (bldU src dst q) HBL ha hd (by omega) (by omega) (hD1 _ x3a) (by omega)).mono ?_; rintro e w5 ⟨v5, rfl, m5⟩))
        go_ret2
        exact ⟨v5, by rw [HC.out]; rfl, fun h => absurd HC.out h, fun _ => m5.after (hB.trans (x3a.mono (by omega)))⟩
      · have e0 : (N == 0) = false := by simpa using h0
        have HE := Lib.hid (show ckU src dst q = N by rw [ckU, HN.out, ← HNN.out, if_neg h0]; rfl)
        rw [HE.out] at HBL bk
        clear h0
        go_wp2_with (first
          | ((with_reducible show wpList _ _ _ (Oper.mk _ (Op.load 69 _) _ _ _ _ :: _) _ _); refine wpList_val rfl (run_load_us rfl rfl hAt4 rfl) ?_)
          | (go_at_call 89; refine (rUbytes q A c _ B N (bldU src dst q) HBL ha hd bk.1 bk.2 (hD1 _ x3a) (by omega)).mono ?_; rintro e w5 ⟨v5, rfl, m5⟩))
        go_ret2
        exact ⟨v5, by rw [HC.out]; rfl, fun h => absurd HC.out h, fun _ => m5.after (hB.trans (x3a.mono (by omega)))⟩
    · rw [hn] at k2
      have HE := Lib.hid (show bldU src dst q = B0 by rw [bldU, ckU, hn, HB0.out]; rfl)
      clear hn
      go_wp2_with fail
      go_ret2
      exact ⟨.slice A2 B0.length c2, by rw [HC.out]; rfl, fun h => absurd HC.out h, fun _ => by rw [HE.out]; exact m2.after (hB.trans (x1.mono (by omega)))⟩
  · have hne : (chkU q != 0) = true := by simpa using hc
    have HN := Lib.hid hc
    clear hc
    go_wp2_with (first
      | ((with_reducible show wpList _ _ _ (Oper.mk _ (Op.load 69 _) _ _ _ _ :: _) _ _); refine wpList_val rfl (run_load_us rfl rfl hAt rfl) ?_)
      | (go_at_call 88; refine (rUcheck q A c _ hl).mono ?_; rintro e w1 ⟨rfl, x1⟩; skip))
    go_ret2
    exact ⟨.slice none 0 0, rfl, fun _ => ⟨rfl, hB.trans (x1.mono (by omega))⟩, fun h => absurd h HN.out⟩
end
/-- What a reader holds: its bytes, and where it is. -/
def RdrS (W : World) (g : Nat) (A : Option Addr) (n c : Nat) (k : Int) : Prop := W.heap[g]? = some (.cells #[.slice A n c] 45 (0, 0)) ∧ W.heap[g + 1]? = some (.cells #[.int .i64 k] 3 (0, 0))
end Go.Proofs.Ytkgbjohadkbjaaa

/-
  Contract of udp.Parse. Conditions are each theorem's own.
-/
namespace Go.Proofs.Ytkgbjohadkbjaaa
open Go.RowKit

theorem RdrS.alloc {w : World} {g n c : Nat} {A : Option Addr} {k : Int} (h : RdrS w g A n c k) (o : Obj) : RdrS (w.alloc o) g A n c k :=
  ⟨(Below.heap_alloc w o g (heap_lt h.1)).trans h.1, (Below.heap_alloc w o (g + 1) (heap_lt h.2)).trans h.2⟩
section
variable (b : List UInt8) (A : Option Addr) (c : Nat) (src dst : Int) (w : World)
end
end Go.Proofs.Ytkgbjohadkbjaaa

/-
  Contract of the document's Parse of layer 7. Conditions are each theorem's own.
-/
namespace Go.Proofs.Ytkgbjohadkbjaaa
open Go.RowKit

section
variable (b : List UInt8) (A : Option Addr) (c : Nat) (src dst : Int) (w : World)
set_option maxRecDepth 100000 in
set_option maxHeartbeats 2000000 in
theorem rUparse (B : Nat) (hR : Arg w B A c b) (hB : B ≤ w.heap.size) (hl : b.length ≤ 1000000) :
    Calls Try.prog 37 #[.int .i64 src, .int .i64 dst, .slice A b.length c] w fun e w' => ∃ P p, e = .returned (.tuple #[usv (prsU src dst b) P p, .int .i64 (badU src dst b)]) ∧ Made w w' (.slice P (prsU src dst b).dat.length p) (prsU src dst b).dat := by
  have hBW : Below w.heap.size w (w.alloc (.cells (usa usz none 0) 69)) := (Below.refl w.heap.size w).alloc (Nat.le_refl _) _
  have hg := World.alloc_heap_new w (.cells (usa usz none 0) 69)
  have hz : w.heap.size < (w.alloc (.cells (usa usz none 0) 69)).heap.size := by simp
  have hcap := hR.cap
  go_enter Try.func37, Try.ntmps37
  go_upto_region 1 with fail
  rw [show #[.int .i64 0, .int .i64 0, .bool false, .slice none 0 0] = usa usz none 0 from rfl]
  generalize w.alloc (.cells (usa usz none 0) 69) = W at *
  have hR1 := hR.below (hBW.mono hB)
  by_cases h8 : b.length < 8
  · have d8 : decide ((b.length : Int) < 8) = true := by simp; omega
    have HE := Lib.hid (show badU src dst b = 3 by rw [badU, if_pos h8])
    have HV := Lib.hid (show prsU src dst b = usz by rw [prsU, HE.out]; rfl)
    go_wp2_with (first | ((with_reducible show wpList _ _ _ (Oper.mk _ (Op.store 69 _ _) _ _ _ _ :: _) _ _); refine us_store (g := w.heap.size) (cs := usa usz none 0) rfl rfl hg rfl rfl (us_one _ _ _) ?_))
    exact bodyPost_ret (res2 rfl rfl (us_load_run (setRow_heap _ _ _ _ _ _ hg) rfl)) rfl ⟨none, 0, by rw [HV.out, HE.out]; rfl, by rw [HV.out]; exact Made.nil _ _ (below_row hBW (Nat.le_refl _))⟩
  · have d8 : decide ((b.length : Int) < 8) = false := by simp; omega
    have G0 := Lib.hid (show getV b 0 2 = n2 b 0 from get_two (b := b) (i := 0) (by omega))
    have G2 := Lib.hid (show getV b 2 2 = n2 b 2 from get_two (b := b) (i := 2) (by omega))
    have G4 := Lib.hid (show getV b 4 2 = n2 b 4 from get_two (b := b) (i := 4) (by omega))
    have G6 := Lib.hid (show getV b 6 2 = n2 b 6 from get_two (b := b) (i := 6) (by omega))
    obtain ⟨X0, hX0⟩ : ∃ n, n = n2 b 0 := ⟨_, rfl⟩
    obtain ⟨X2, hX2⟩ : ∃ n, n = n2 b 2 := ⟨_, rfl⟩
    obtain ⟨Z4, hZ4⟩ : ∃ n, n = n2 b 4 := ⟨_, rfl⟩
    obtain ⟨Z, hZ⟩ : ∃ n, n = n2 b 6 := ⟨_, rfl⟩
    obtain ⟨D, hD⟩ : ∃ l, l = b.drop 8 := ⟨_, rfl⟩
    rw [← hX0] at G0
    rw [← hX2] at G2
    rw [← hZ4] at G4
    rw [← hZ] at G6
    have HX0 := Lib.hid hX0.symm; have HX2 := Lib.hid hX2.symm; have HX4 := Lib.hid hZ4.symm; have HX6 := Lib.hid hZ.symm
    have HDd := Lib.hid hD
    have HDl := Lib.hid (show D.length = b.length - 8 by rw [hD, List.length_drop])
    clear hX0 hX2 hZ4 hZ hD
    go_upto_region 4 with (go_at_call 64; ((with_reducible refine (rget_any A b c B 4 2 _ hR1.rd (by omega)).mono ?_); rintro e w' ⟨rfl, rfl⟩; rw [show getV b 4 2 = Z4 from G4.out]))
    by_cases h7 : Z4 < 8
    · have d1 : decide (Z4 < 8) = true := by simpa using h7
      have HE := Lib.hid (show badU src dst b = 4 by rw [badU, if_neg h8, if_neg (by rw [HX4.out]; omega), if_pos (by rw [HX4.out]; omega)])
      have HV := Lib.hid (show prsU src dst b = usz by rw [prsU, HE.out]; rfl)
      go_wp2_with (first | ((with_reducible show wpList _ _ _ (Oper.mk _ (Op.store 69 _ _) _ _ _ _ :: _) _ _); refine us_store (g := w.heap.size) (cs := usa usz none 0) rfl rfl hg rfl rfl (us_one _ _ _) ?_))
      exact bodyPost_ret (res2 rfl rfl (us_load_run (setRow_heap _ _ _ _ _ _ hg) rfl)) rfl ⟨none, 0, by rw [HV.out, HE.out]; rfl, by rw [HV.out]; exact Made.nil _ _ (below_row hBW (Nat.le_refl _))⟩
    · have d1 : decide (Z4 < 8) = false := by simpa using h7
      rcases Int.lt_trichotomy (b.length : Int) Z4 with s1 | s1 | s1
      · have d2 : decide ((b.length : Int) < Z4) = true := by simpa using s1
        have HE := Lib.hid (show badU src dst b = 3 by rw [badU, if_neg h8, if_pos (by rw [HX4.out]; exact s1)])
        have HV := Lib.hid (show prsU src dst b = usz by rw [prsU, HE.out]; rfl)
        go_wp2_with (first | ((with_reducible show wpList _ _ _ (Oper.mk _ (Op.store 69 _ _) _ _ _ _ :: _) _ _); refine us_store (g := w.heap.size) (cs := usa usz none 0) rfl rfl hg rfl rfl (us_one _ _ _) ?_))
        exact bodyPost_ret (res2 rfl rfl (us_load_run (setRow_heap _ _ _ _ _ _ hg) rfl)) rfl ⟨none, 0, by rw [HV.out, HE.out]; rfl, by rw [HV.out]; exact Made.nil _ _ (below_row hBW (Nat.le_refl _))⟩
      · subst s1
        have d2 : decide ((b.length : Int) < (b.length : Int)) = false := by simp
        go_upto_region 11 with (first | (go_at_call 64; ((with_reducible refine (rget_any A b c B 4 2 _ hR1.rd (by omega)).mono ?_); rintro e w' ⟨rfl, rfl⟩; rw [show getV b 4 2 = (b.length : Int) from G4.out])) | (go_at_call 64; ((with_reducible refine (rget_any A b c B 6 2 _ hR1.rd (by omega)).mono ?_); rintro e w' ⟨rfl, rfl⟩; rw [show getV b 6 2 = Z from G6.out])))
        refine wp_region_held_drew (S := fun w' => Below W.heap.size W w') (by kernel_rfl) (Below.refl _ W).drew (fun hS => ?_)
        by_cases hz0 : Z = 0
        · have e0 : (Z != 0) = false := by simpa using hz0
          have e1 : (Z == 0) = true := by simpa using hz0
          have HNS : decide (Z = 0) = true := by simpa using hz0
          have HE := Lib.hid (show badU src dst b = 0 by rw [badU, if_neg h8, if_neg (by rw [HX4.out]; omega), if_neg (by rw [HX4.out]; omega), if_neg (by rw [HX6.out]; intro h; exact h.1 hz0)])
          clear hz0
          refine held_pure (i := 0) (oi := ⟨some 43, _, _, _, _, _⟩) rfl (by kernel_rfl) (by kernel_rfl) (by kernel_rfl) (fun _ _ _ h => h) (by rfl) (v := ?_) (fun w hSw => ?_) hS (fun hS => ?_)
          rotate_left
          · go_simp; try with_reducible rfl
          try go_frame
          refine held_pure (i := 1) (oi := ⟨some 44, _, _, _, _, _⟩) rfl (by kernel_rfl) (by kernel_rfl) (by kernel_rfl) (fun _ _ _ h => h) (by rfl) (v := ?_) (fun w hSw => ?_) hS (fun hS => ?_)
          rotate_left
          · go_simp; try with_reducible rfl
          try go_frame
          refine held_pure (i := 2) (oi := ⟨some 45, _, _, _, _, _⟩) rfl (by kernel_rfl) (by kernel_rfl) (by kernel_rfl) (fun _ _ _ h => h) (by rfl) (v := ?_) (fun w hSw => ?_) hS (fun hS => ?_)
          rotate_left
          · go_simp; try with_reducible rfl
          try go_frame
          refine held_skip (i := 3) (oi := ⟨some 46, _, _, _, _, _⟩) rfl (by kernel_rfl) (by kernel_rfl) (by kernel_rfl) (fun _ _ _ h => h) (by rfl) hS (fun hS => ?_)
          try go_frame
          refine held_skip (i := 4) (oi := ⟨some 47, _, _, _, _, _⟩) rfl (by kernel_rfl) (by kernel_rfl) (by kernel_rfl) (fun _ _ _ h => h) (by rfl) hS (fun hS => ?_)
          try go_frame
          refine held_skip (i := 5) (oi := ⟨some 48, _, _, _, _, _⟩) rfl (by kernel_rfl) (by kernel_rfl) (by kernel_rfl) (fun _ _ _ h => h) (by rfl) hS (fun hS => ?_)
          try go_frame
          refine held_skip (i := 6) (oi := ⟨some 49, _, _, _, _, _⟩) rfl (by kernel_rfl) (by kernel_rfl) (by kernel_rfl) (fun _ _ _ h => h) (by rfl) hS (fun hS => ?_)
          try go_frame
          refine held_skip (i := 7) (oi := ⟨some 50, _, _, _, _, _⟩) rfl (by kernel_rfl) (by kernel_rfl) (by kernel_rfl) (fun _ _ _ h => h) (by rfl) hS (fun hS => ?_)
          try go_frame
          refine held_skip (i := 8) (oi := ⟨some 51, _, _, _, _, _⟩) rfl (by kernel_rfl) (by kernel_rfl) (by kernel_rfl) (fun _ _ _ h => h) (by rfl) hS (fun hS => ?_)
          try go_frame
          refine held_skip (i := 9) (oi := ⟨some 52, _, _, _, _, _⟩) rfl (by kernel_rfl) (by kernel_rfl) (by kernel_rfl) (fun _ _ _ h => h) (by rfl) hS (fun hS => ?_)
          try go_frame
          refine held_skip (i := 10) (oi := ⟨some 53, _, _, _, _, _⟩) rfl (by kernel_rfl) (by kernel_rfl) (by kernel_rfl) (fun _ _ _ h => h) (by rfl) hS (fun hS => ?_)
          try go_frame
          refine held_skip (i := 11) (oi := ⟨some 54, _, _, _, _, _⟩) rfl (by kernel_rfl) (by kernel_rfl) (by kernel_rfl) (fun _ _ _ h => h) (by rfl) hS (fun hS => ?_)
          try go_frame
          refine held_skip (i := 12) (oi := ⟨some 55, _, _, _, _, _⟩) rfl (by kernel_rfl) (by kernel_rfl) (by kernel_rfl) (fun _ _ _ h => h) (by rfl) hS (fun hS => ?_)
          try go_frame
          refine held_pure (i := 13) (oi := ⟨some 56, _, _, _, _, _⟩) rfl (by kernel_rfl) (by kernel_rfl) (by kernel_rfl) (fun _ _ _ h => h) (by rfl) (v := ?_) (fun w hSw => ?_) hS (fun hS => ?_)
          rotate_left
          · go_simp; try with_reducible rfl
          try go_frame
          refine wpAnyH_done (by kernel_rfl) ?_ _
          have HV := Lib.hid (show prsU src dst b = ⟨X0, X2, true, D⟩ by rw [prsU, if_pos HE.out, rawU, HX0.out, HX2.out, HX6.out, HNS, HDd.out])
          have xq := hS
          obtain ⟨Wq, hWq⟩ : ∃ X : World, X = W.drew := ⟨_, rfl⟩
          rw [← hWq] at xq ⊢
          clear hWq hS
          have hRq := hR1.below (xq.mono (by omega))
          have hbq := hBW.trans (xq.mono (by omega))
          have hgq := (xq.block w.heap.size (by omega)).trans hg
          have hDq := (hR.cut_lo 8).below (hbq.mono hB)
          rw [← HDd.out] at hDq
          have hzq := xq.size
          go_wp2_with (first
            | (go_at_call 64; ((with_reducible refine (rget_any A b c B 0 2 _ hRq.rd (by omega)).mono ?_); rintro e w' ⟨rfl, rfl⟩; rw [show getV b 0 2 = X0 from G0.out]))
            | (go_at_call 64; ((with_reducible refine (rget_any A b c B 2 2 _ hRq.rd (by omega)).mono ?_); rintro e w' ⟨rfl, rfl⟩; rw [show getV b 2 2 = X2 from G2.out]))
            | ((with_reducible show wpList _ _ _ (Oper.mk _ (Op.slice _ _ _ _ _) _ _ _ _ :: _) _ _); (refine wpList_val rfl (run_cut_lh rfl rfl rfl rfl (l := 8) (h := (b.length : Int)) (by omega) (by omega) (by omega) (m := D.length) (by have := HDl.out; omega)) ?_))
            | (at_builtin; refine append_rd rfl _ _ rfl Wq.heap.size (.slice none 0 0) 0 [] rfl (World.ownsRow_nil _ _ _ _) B (cutA A c 8) (c - 8) D rfl hDq.none_ hDq.rd (by have := HDl.out; omega) (Nat.le_refl _) ?_; intro v8 w8 own8 grow8; obtain ⟨P, p, rfl, owm8⟩ := own_made (bs := D) own8 (by simp) (by simp); have x8 : Below Wq.heap.size Wq w8 := (Below.refl Wq.heap.size Wq).grown grow8 (Nat.le_refl _) (fun k hk => by cases hk); have hr8 := (x8.block w.heap.size (by omega)).trans hgq)
            | ((with_reducible show wpList _ _ _ (Oper.mk _ (Op.store 69 _ _) _ _ _ _ :: _) _ _); refine us_store (g := w.heap.size) (cs := usa ⟨X0, X2, true, D⟩ P p) rfl rfl hr8 rfl rfl (us_one _ _ _) ?_))
          have o9 := own_setRow owm8 (g := w.heap.size) (cs := usa ⟨X0, X2, true, D⟩ P p) (by omega)
          exact bodyPost_ret (res2 rfl rfl (us_load_run (setRow_heap _ _ _ _ _ _ hr8) rfl)) rfl ⟨P, p, by rw [HV.out, HE.out]; rfl, by rw [HV.out]; exact Made.of_own (own_base o9 (by omega)) (below_row (hbq.trans (x8.mono (by omega))) (Nat.le_refl _))⟩
        · have e0 : (Z != 0) = true := by simpa using hz0
          have e1 : (Z == 0) = false := by simpa using hz0
          have HNS : decide (Z = 0) = false := by simpa using hz0
          obtain ⟨N, hN⟩ : ∃ n, n = rightB [psd src dst 17 (b.length : Int), b] := ⟨_, rfl⟩
          have HN := Lib.hid hN
          have HBD := Lib.hid (show badU src dst b = if N = false then 5 else 0 by rw [badU, if_neg h8, if_neg (by rw [HX4.out]; omega), if_neg (by rw [HX4.out]; omega), HX6.out, HX4.out, ← hN]; simp [hz0])
          clear hN hz0
          cases N
          · have HE := Lib.hid (show badU src dst b = 5 by rw [HBD.out]; rfl)
            have HV := Lib.hid (show prsU src dst b = usz by rw [prsU, HE.out]; rfl)
            refine held_pure (i := 0) (oi := ⟨some 43, _, _, _, _, _⟩) rfl (by kernel_rfl) (by kernel_rfl) (by kernel_rfl) (fun _ _ _ h => h) (by rfl) (v := ?_) (fun w hSw => ?_) hS (fun hS => ?_)
            rotate_left
            · go_simp; try with_reducible rfl
            try go_frame
            refine held_pure (i := 1) (oi := ⟨some 44, _, _, _, _, _⟩) rfl (by kernel_rfl) (by kernel_rfl) (by kernel_rfl) (fun _ _ _ h => h) (by rfl) (v := ?_) (fun w hSw => ?_) hS (fun hS => ?_)
            rotate_left
            · go_simp; try with_reducible rfl
            try go_frame
            refine held_pure (i := 2) (oi := ⟨some 45, _, _, _, _, _⟩) rfl (by kernel_rfl) (by kernel_rfl) (by kernel_rfl) (fun _ _ _ h => h) (by rfl) (v := ?_) (fun w hSw => ?_) hS (fun hS => ?_)
            rotate_left
            · go_simp; try with_reducible rfl
            try go_frame
            refine held_pure (i := 3) (oi := ⟨some 46, _, _, _, _, _⟩) rfl (by kernel_rfl) (by kernel_rfl) (by kernel_rfl) (fun _ _ _ h => h) (by rfl) (v := ?_) (fun w hSw => ?_) hS (fun hS => ?_)
            rotate_left
            · go_simp; try with_reducible rfl
            try go_frame
            refine held_pure (i := 4) (oi := ⟨some 47, _, _, _, _, _⟩) rfl (by kernel_rfl) (by kernel_rfl) (by kernel_rfl) (fun _ _ _ h => h) (by rfl) (v := ?_) (fun w hSw => ?_) hS (fun hS => ?_)
            rotate_left
            · go_simp; try with_reducible rfl
            try go_frame
            refine held_pure (i := 5) (oi := ⟨some 48, _, _, _, _, _⟩) rfl (by kernel_rfl) (by kernel_rfl) (by kernel_rfl) (fun _ _ _ h => h) (by rfl) (v := ?_) (fun w hSw => ?_) hS (fun hS => ?_)
            rotate_left
            · go_simp; try with_reducible rfl
            try go_frame
            refine held_pure (i := 7) (oi := ⟨some 50, _, _, _, _, _⟩) rfl (by kernel_rfl) (by kernel_rfl) (by kernel_rfl) (fun _ _ _ h => h) (by rfl) (v := ?_) (fun w hSw => ?_) hS (fun hS => ?_)
            rotate_left
            · go_simp; try with_reducible rfl
            try go_frame
            refine held_pure (i := 8) (oi := ⟨some 51, _, _, _, _, _⟩) rfl (by kernel_rfl) (by kernel_rfl) (by kernel_rfl) (fun _ _ _ h => h) (by rfl) (v := ?_) (fun w hSw => ?_) hS (fun hS => ?_)
            rotate_left
            · go_simp; try with_reducible rfl
            try go_frame
            refine held_pure (i := 9) (oi := ⟨some 52, _, _, _, _, _⟩) rfl (by kernel_rfl) (by kernel_rfl) (by kernel_rfl) (fun _ _ _ h => h) (by rfl) (fun w hSw => run_cut_h rfl rfl rfl (h := (b.length : Int)) (by omega) (by omega) (m := b.length) (by omega)) hS (fun hS => ?_)
            try go_frame
            refine wpAnyH_ready (rs := [6]) (by kernel_rfl) (by simp) (AllReadyH.cons (o := ⟨some 49, _, _, _, _, _⟩) rfl (fun K hK => ?_) AllReadyH.nil)
            rw [if_pos (by rfl)]
            go_simp
            refine (rpsd_any src dst 17 (b.length : Int) _).mono ?_
            rintro e wp ⟨vp, rfl, mp⟩
            obtain ⟨Ap, cp, rfl, gp, op, xp⟩ := made_shape mp
            have hSp := below_step hS xp
            show K _ _
            refine hK.out _ _ (below_step hS xp) (fun hS => ?_)
            clear hK K
            try go_frame
            refine wpAnyH_ready (rs := [10]) (by kernel_rfl) (by simp) (AllReadyH.cons (o := ⟨some 53, _, _, _, _, _⟩) rfl (fun K hK => ?_) AllReadyH.nil)
            rw [if_pos (by rfl)]
            go_simp
            refine hK.out _ _ (hS.alloc hS.size _) (fun hS => ?_)
            clear hK K
            try go_frame
            refine wpAnyH_ready (rs := [11]) (by kernel_rfl) (by simp) (AllReadyH.cons (o := ⟨some 54, _, _, _, _, _⟩) rfl (fun K hK => ?_) AllReadyH.nil)
            rw [if_pos (by rfl)]
            go_simp
            refine (rright_two (some ⟨wp.heap.size, 0, none⟩) (psd src dst 17 (b.length : Int)) b 2 (wp.heap.size + 1) _ HN _ (Rd2.two rfl rfl (World.alloc_heap_new wp _) (Nat.lt_succ_self _) ((gp.alloc (Nat.le_refl _) _).more (Nat.le_succ _)) (((hR1.below (hSp.mono (by omega))).alloc (by have := hSp.size; omega) _).more (by have := hSp.size; omega))) (by rw [psd_len]; omega)).mono ?_
            rintro e wq ⟨rfl, nq, rfl⟩
            show K _ _
            refine hK.out _ _ (below_drewN hS _) (fun hS => ?_)
            clear hK K
            try go_frame
            refine held_pure (i := 12) (oi := ⟨some 55, _, _, _, _, _⟩) rfl (by kernel_rfl) (by kernel_rfl) (by kernel_rfl) (fun _ _ _ h => h) (by rfl) (v := ?_) (fun w hSw => ?_) hS (fun hS => ?_)
            rotate_left
            · go_simp; try with_reducible rfl
            try go_frame
            refine held_pure (i := 13) (oi := ⟨some 56, _, _, _, _, _⟩) rfl (by kernel_rfl) (by kernel_rfl) (by kernel_rfl) (fun _ _ _ h => h) (by rfl) (v := ?_) (fun w hSw => ?_) hS (fun hS => ?_)
            rotate_left
            · go_simp; try with_reducible rfl
            try go_frame
            refine wpAnyH_done (by kernel_rfl) ?_ _
            have hgq := (hS.block w.heap.size (by omega)).trans hg
            have hbq := hBW.trans (hS.mono (by omega))
            go_wp2_with (first | ((with_reducible show wpList _ _ _ (Oper.mk _ (Op.store 69 _ _) _ _ _ _ :: _) _ _); refine us_store (g := w.heap.size) (cs := usa usz none 0) rfl rfl hgq rfl rfl (us_one _ _ _) ?_))
            exact bodyPost_ret (res2 rfl rfl (us_load_run (setRow_heap _ _ _ _ _ _ hgq) rfl)) rfl ⟨none, 0, by rw [HV.out, HE.out]; rfl, by rw [HV.out]; exact Made.nil _ _ (below_row hbq (Nat.le_refl _))⟩
          · have HE := Lib.hid (show badU src dst b = 0 by rw [HBD.out]; rfl)
            refine held_pure (i := 0) (oi := ⟨some 43, _, _, _, _, _⟩) rfl (by kernel_rfl) (by kernel_rfl) (by kernel_rfl) (fun _ _ _ h => h) (by rfl) (v := ?_) (fun w hSw => ?_) hS (fun hS => ?_)
            rotate_left
            · go_simp; try with_reducible rfl
            try go_frame
            refine held_pure (i := 1) (oi := ⟨some 44, _, _, _, _, _⟩) rfl (by kernel_rfl) (by kernel_rfl) (by kernel_rfl) (fun _ _ _ h => h) (by rfl) (v := ?_) (fun w hSw => ?_) hS (fun hS => ?_)
            rotate_left
            · go_simp; try with_reducible rfl
            try go_frame
            refine held_pure (i := 2) (oi := ⟨some 45, _, _, _, _, _⟩) rfl (by kernel_rfl) (by kernel_rfl) (by kernel_rfl) (fun _ _ _ h => h) (by rfl) (v := ?_) (fun w hSw => ?_) hS (fun hS => ?_)
            rotate_left
            · go_simp; try with_reducible rfl
            try go_frame
            refine held_pure (i := 3) (oi := ⟨some 46, _, _, _, _, _⟩) rfl (by kernel_rfl) (by kernel_rfl) (by kernel_rfl) (fun _ _ _ h => h) (by rfl) (v := ?_) (fun w hSw => ?_) hS (fun hS => ?_)
            rotate_left
            · go_simp; try with_reducible rfl
            try go_frame
            refine held_pure (i := 4) (oi := ⟨some 47, _, _, _, _, _⟩) rfl (by kernel_rfl) (by kernel_rfl) (by kernel_rfl) (fun _ _ _ h => h) (by rfl) (v := ?_) (fun w hSw => ?_) hS (fun hS => ?_)
            rotate_left
            · go_simp; try with_reducible rfl
            try go_frame
            refine held_pure (i := 5) (oi := ⟨some 48, _, _, _, _, _⟩) rfl (by kernel_rfl) (by kernel_rfl) (by kernel_rfl) (fun _ _ _ h => h) (by rfl) (v := ?_) (fun w hSw => ?_) hS (fun hS => ?_)
            rotate_left
            · go_simp; try with_reducible rfl
            try go_frame
            refine held_pure (i := 7) (oi := ⟨some 50, _, _, _, _, _⟩) rfl (by kernel_rfl) (by kernel_rfl) (by kernel_rfl) (fun _ _ _ h => h) (by rfl) (v := ?_) (fun w hSw => ?_) hS (fun hS => ?_)
            rotate_left
            · go_simp; try with_reducible rfl
            try go_frame
            refine held_pure (i := 8) (oi := ⟨some 51, _, _, _, _, _⟩) rfl (by kernel_rfl) (by kernel_rfl) (by kernel_rfl) (fun _ _ _ h => h) (by rfl) (v := ?_) (fun w hSw => ?_) hS (fun hS => ?_)
            rotate_left
            · go_simp; try with_reducible rfl
            try go_frame
            refine held_pure (i := 9) (oi := ⟨some 52, _, _, _, _, _⟩) rfl (by kernel_rfl) (by kernel_rfl) (by kernel_rfl) (fun _ _ _ h => h) (by rfl) (fun w hSw => run_cut_h rfl rfl rfl (h := (b.length : Int)) (by omega) (by omega) (m := b.length) (by omega)) hS (fun hS => ?_)
            try go_frame
            refine wpAnyH_ready (rs := [6]) (by kernel_rfl) (by simp) (AllReadyH.cons (o := ⟨some 49, _, _, _, _, _⟩) rfl (fun K hK => ?_) AllReadyH.nil)
            rw [if_pos (by rfl)]
            go_simp
            refine (rpsd_any src dst 17 (b.length : Int) _).mono ?_
            rintro e wp ⟨vp, rfl, mp⟩
            obtain ⟨Ap, cp, rfl, gp, op, xp⟩ := made_shape mp
            have hSp := below_step hS xp
            show K _ _
            refine hK.out _ _ (below_step hS xp) (fun hS => ?_)
            clear hK K
            try go_frame
            refine wpAnyH_ready (rs := [10]) (by kernel_rfl) (by simp) (AllReadyH.cons (o := ⟨some 53, _, _, _, _, _⟩) rfl (fun K hK => ?_) AllReadyH.nil)
            rw [if_pos (by rfl)]
            go_simp
            refine hK.out _ _ (hS.alloc hS.size _) (fun hS => ?_)
            clear hK K
            try go_frame
            refine wpAnyH_ready (rs := [11]) (by kernel_rfl) (by simp) (AllReadyH.cons (o := ⟨some 54, _, _, _, _, _⟩) rfl (fun K hK => ?_) AllReadyH.nil)
            rw [if_pos (by rfl)]
            go_simp
            refine (rright_two (some ⟨wp.heap.size, 0, none⟩) (psd src dst 17 (b.length : Int)) b 2 (wp.heap.size + 1) _ HN _ (Rd2.two rfl rfl (World.alloc_heap_new wp _) (Nat.lt_succ_self _) ((gp.alloc (Nat.le_refl _) _).more (Nat.le_succ _)) (((hR1.below (hSp.mono (by omega))).alloc (by have := hSp.size; omega) _).more (by have := hSp.size; omega))) (by rw [psd_len]; omega)).mono ?_
            rintro e wq ⟨rfl, nq, rfl⟩
            show K _ _
            refine hK.out _ _ (below_drewN hS _) (fun hS => ?_)
            clear hK K
            try go_frame
            refine held_pure (i := 12) (oi := ⟨some 55, _, _, _, _, _⟩) rfl (by kernel_rfl) (by kernel_rfl) (by kernel_rfl) (fun _ _ _ h => h) (by rfl) (v := ?_) (fun w hSw => ?_) hS (fun hS => ?_)
            rotate_left
            · go_simp; try with_reducible rfl
            try go_frame
            refine held_pure (i := 13) (oi := ⟨some 56, _, _, _, _, _⟩) rfl (by kernel_rfl) (by kernel_rfl) (by kernel_rfl) (fun _ _ _ h => h) (by rfl) (v := ?_) (fun w hSw => ?_) hS (fun hS => ?_)
            rotate_left
            · go_simp; try with_reducible rfl
            try go_frame
            refine wpAnyH_done (by kernel_rfl) ?_ _
            have HV := Lib.hid (show prsU src dst b = ⟨X0, X2, false, D⟩ by rw [prsU, if_pos HE.out, rawU, HX0.out, HX2.out, HX6.out, HNS, HDd.out])
            have xq := hS
            obtain ⟨Wq, hWq⟩ : ∃ X : World, X = (wp.alloc (.cells #[.slice Ap (psd src dst 17 (b.length : Int)).length cp, .slice A b.length c] 45)).drewN nq := ⟨_, rfl⟩
            rw [← hWq] at xq ⊢
            clear hWq hS
            have hRq := hR1.below (xq.mono (by omega))
            have hbq := hBW.trans (xq.mono (by omega))
            have hgq := (xq.block w.heap.size (by omega)).trans hg
            have hDq := (hR.cut_lo 8).below (hbq.mono hB)
            rw [← HDd.out] at hDq
            have hzq := xq.size
            go_wp2_with (first
              | (go_at_call 64; ((with_reducible refine (rget_any A b c B 0 2 _ hRq.rd (by omega)).mono ?_); rintro e w' ⟨rfl, rfl⟩; rw [show getV b 0 2 = X0 from G0.out]))
              | (go_at_call 64; ((with_reducible refine (rget_any A b c B 2 2 _ hRq.rd (by omega)).mono ?_); rintro e w' ⟨rfl, rfl⟩; rw [show getV b 2 2 = X2 from G2.out]))
              | ((with_reducible show wpList _ _ _ (Oper.mk _ (Op.slice _ _ _ _ _) _ _ _ _ :: _) _ _); (refine wpList_val rfl (run_cut_lh rfl rfl rfl rfl (l := 8) (h := (b.length : Int)) (by omega) (by omega) (by omega) (m := D.length) (by have := HDl.out; omega)) ?_))
              | (at_builtin; refine append_rd rfl _ _ rfl Wq.heap.size (.slice none 0 0) 0 [] rfl (World.ownsRow_nil _ _ _ _) B (cutA A c 8) (c - 8) D rfl hDq.none_ hDq.rd (by have := HDl.out; omega) (Nat.le_refl _) ?_; intro v8 w8 own8 grow8; obtain ⟨P, p, rfl, owm8⟩ := own_made (bs := D) own8 (by simp) (by simp); have x8 : Below Wq.heap.size Wq w8 := (Below.refl Wq.heap.size Wq).grown grow8 (Nat.le_refl _) (fun k hk => by cases hk); have hr8 := (x8.block w.heap.size (by omega)).trans hgq)
              | ((with_reducible show wpList _ _ _ (Oper.mk _ (Op.store 69 _ _) _ _ _ _ :: _) _ _); refine us_store (g := w.heap.size) (cs := usa ⟨X0, X2, false, D⟩ P p) rfl rfl hr8 rfl rfl (us_one _ _ _) ?_))
            have o9 := own_setRow owm8 (g := w.heap.size) (cs := usa ⟨X0, X2, false, D⟩ P p) (by omega)
            exact bodyPost_ret (res2 rfl rfl (us_load_run (setRow_heap _ _ _ _ _ _ hr8) rfl)) rfl ⟨P, p, by rw [HV.out, HE.out]; rfl, by rw [HV.out]; exact Made.of_own (own_base o9 (by omega)) (below_row (hbq.trans (x8.mono (by omega))) (Nat.le_refl _))⟩
      · have d2 : decide ((b.length : Int) < Z4) = false := by simp; omega
        have d3 : decide (Z4 < (b.length : Int)) = true := by simpa using s1
        have HE := Lib.hid (show badU src dst b = 4 by rw [badU, if_neg h8, if_neg (by rw [HX4.out]; omega), if_pos (by rw [HX4.out]; exact s1)])
        have HV := Lib.hid (show prsU src dst b = usz by rw [prsU, HE.out]; rfl)
        go_wp2_with (first | ((with_reducible show wpList _ _ _ (Oper.mk _ (Op.store 69 _ _) _ _ _ _ :: _) _ _); refine us_store (g := w.heap.size) (cs := usa usz none 0) rfl rfl hg rfl rfl (us_one _ _ _) ?_))
        exact bodyPost_ret (res2 rfl rfl (us_load_run (setRow_heap _ _ _ _ _ _ hg) rfl)) rfl ⟨none, 0, by rw [HV.out, HE.out]; rfl, by rw [HV.out]; exact Made.nil _ _ (below_row hBW (Nat.le_refl _))⟩
end
end Go.Proofs.Ytkgbjohadkbjaaa

/-
  Layer 7's awake, and what Build answers, in one shape. Conditions are each theorem's own.
-/
namespace Go.Proofs.Ytkgbjohadkbjaaa
open Go.RowKit

def resU (src dst : Int) (q : PU) : List UInt8 := if chkU q = 0 then bldU src dst q else []
theorem resU_shape {src dst : Int} {q : PU} {w w' : World} {v : Value} (h : (chkU q ≠ 0 → v = .slice none 0 0 ∧ Below w.heap.size w w') ∧ (chkU q = 0 → Made w w' v (bldU src dst q))) :
    ∃ P k, v = .slice P (resU src dst q).length k ∧ Rd w' w'.heap.size P (resU src dst q) ∧ Below w.heap.size w w' := by
  by_cases hc : chkU q = 0
  · obtain ⟨A, c, rfl, hl, hr, ho, hb⟩ := h.2 hc
    exact ⟨A, c, by rw [resU, if_pos hc], by rw [resU, if_pos hc]; exact hr, hb⟩
  · obtain ⟨rfl, hb⟩ := h.1 hc
    exact ⟨none, 0, by rw [resU, if_neg hc]; rfl, by rw [resU, if_neg hc]; exact Rd.nil, hb⟩
def qaU : PU := ⟨3, 4, false, [5]⟩
end Go.Proofs.Ytkgbjohadkbjaaa

/-
  Contracts of tcp's size, Check, numbers, buildHead, fresh. Conditions are each theorem's own.
-/
namespace Go.Proofs.Ytkgbjohadkbjaaa
open Go.RowKit

theorem argT_iff (q : PT) : argT q ↔ (fitsB q.src 2 = true ∧ fitsB q.dst 2 = true ∧ fitsB q.win 2 = true ∧ fitsB q.urg 2 = true ∧ fitsB q.seq 4 = true ∧ fitsB q.ack 4 = true ∧ 0 ≤ q.res ∧ q.res < 16 ∧ fitsB q.flags 1 = true ∧ q.opt.length ≤ 40 ∧ q.opt.length % 4 = 0) := by
  rw [fitsB_iff, fitsB_iff, fitsB_iff, fitsB_iff, fitsB_iff, fitsB_iff, fitsB_iff, pw1, pw2, pw4, argT]; omega
section
variable (q : PT) (A : Option Addr) (c : Nat) (A' : Option Addr) (c' : Nat) (w : World)
def numsT (q : PT) : List Int := [q.src, q.dst, q.seq, q.ack, q.res, q.flags, q.win, q.urg]
end
section
variable (q : PT) (A : Option Addr) (c : Nat) (A' : Option Addr) (c' : Nat) (w : World)
end
end Go.Proofs.Ytkgbjohadkbjaaa

/-
  Contracts of layer 8's Same, the program's and the document's; of the document's Check. Conditions are each theorem's own.
-/
namespace Go.Proofs.Ytkgbjohadkbjaaa
open Go.RowKit

theorem sameT_nums (q r : PT) : sameT q r = (decide (numsT q = numsT r) && decide (q.opt = r.opt) && decide (q.dat = r.dat)) := by
  rw [sameT, Bool.eq_iff_iff]; simp [numsT, and_assoc]
section
variable (q r : PT) (A : Option Addr) (c : Nat) (A' : Option Addr) (c' : Nat) (X : Option Addr) (d : Nat) (X' : Option Addr) (d' B : Nat) (w : World)
end
def twoB (q : PT) : Bool := fitsB q.src 2 && fitsB q.dst 2 && fitsB q.win 2 && fitsB q.urg 2
def fourB (q : PT) : Bool := fitsB q.seq 4 && fitsB q.ack 4 && fitsB q.flags 1 && decide (0 ≤ q.res) && decide (q.res ≤ 15)
theorem argT_two (q : PT) : argT q ↔ (twoB q = true ∧ fourB q = true ∧ q.opt.length ≤ 40 ∧ q.opt.length % 4 = 0) := by
  rw [argT_iff]
  simp only [twoB, fourB, Bool.and_eq_true, decide_eq_true_eq]
  constructor
  · rintro ⟨h0, h1, h2, h3, h4, h5, h6, h7, h8, h9, h10⟩; exact ⟨⟨⟨⟨h0, h1⟩, h2⟩, h3⟩, ⟨⟨⟨⟨h4, h5⟩, h8⟩, h6⟩, by omega⟩, h9, h10⟩
  · rintro ⟨⟨⟨⟨h0, h1⟩, h2⟩, h3⟩, ⟨⟨⟨⟨h4, h5⟩, h8⟩, h6⟩, h7⟩, h9, h10⟩; exact ⟨h0, h1, h2, h3, h4, h5, h6, by omega, h8, h9, h10⟩
section
variable (q : PT) (A : Option Addr) (c : Nat) (A' : Option Addr) (c' : Nat) (w : World)
end
end Go.Proofs.Ytkgbjohadkbjaaa

/-
  Contracts of slices.Grow at nil, and of slices.Concat, over bytes. Conditions are each theorem's own.
-/
namespace Go.Proofs.Ytkgbjohadkbjaaa
open Go.RowKit

theorem flatten_take (ps : List (List UInt8)) {k : Nat} {bs : List UInt8} (h : ps[k]? = some bs) : (ps.take (k + 1)).flatten = (ps.take k).flatten ++ bs := by
  rw [List.take_add_one, h]; simp
theorem bulk_flatten (ps : List (List UInt8)) : ps.flatten.length = bulk ps := by simp [bulk, List.length_flatten]
end Go.Proofs.Ytkgbjohadkbjaaa

/-
  The struct api.ICMP as data: its cells, its value, a block that holds one. Conditions are each theorem's own.
-/
namespace Go.Proofs.Ytkgbjohadkbjaaa
open Go.RowKit Go.ChangeShapes Go.WideShapes

structure PI where
  typ : Int
  code : Int
  rest : Int
  dat : List UInt8
def isz : PI := ⟨0, 0, 0, []⟩
/-- Its cells. -/
def isa (q : PI) (A : Option Addr) (c : Nat) : Array Value := #[.int .i64 q.typ, .int .i64 q.code, .int .i64 q.rest, .slice A q.dat.length c]
def isv (q : PI) (A : Option Addr) (c : Nat) : Value := .agg #[.int .i64 q.typ, .int .i64 q.code, .int .i64 q.rest, .slice A q.dat.length c]
theorem isv_eq (q : PI) (A : Option Addr) (c : Nat) : isv q A c = .agg (isa q A c) := rfl
def PI.fits (q : PI) : Prop := ∀ n ∈ [q.typ, q.code, q.rest], (Lit.int .i64 n).wf = true
theorem isa_size (q : PI) (A : Option Addr) (c : Nat) : (isa q A c).size = 4 := rfl
theorem is_one (q : PI) (A : Option Addr) (c : Nat) : (isa q A c).all (·.oneCell') = true := by simp [isa, Value.oneCell']
section
variable {H : Type} {enc : TypeId × Value → H} {w : World} {base : Nat} {v : Value} {d : DataW H} {p : List MemPlace}
set_option maxRecDepth 100000 in
theorem get_is (hv : Value.okWide Try.prog w .any base 59 v) (h : DataW.Trod enc Try.prog w 0 (fun _ => true) true 59 v d p) :
    ∃ q A c, v = isv q A c ∧ Arg w w.heap.size A c q.dat ∧ c ≤ maxLen ∧ q.fits := by
  obtain ⟨cs, rfl, hcs⟩ : ∃ cs, v = .agg cs ∧ cs.size = Try.prog.cellsOf 59 := by
    have := hv
    simp only [Value.okWide, Try.underlying59] at this
    obtain ⟨cs, h1, h2, _⟩ := this
    exact ⟨cs, h1, h2⟩
  obtain ⟨fuel, hf⟩ := h
  obtain ⟨xs, n, _, _, hl, hxs, hall⟩ := DataW.trod_struct Try.underlying59 hf
  have hci : Try.prog.cellsOf 3 = 1 := by kernel_rfl
  have hcy : Try.prog.cellsOf 45 = 1 := by kernel_rfl
  have hcu : Try.prog.cellsOf 5 = 1 := by kernel_rfl
  have hcn : Try.prog.cellsOf 59 = 4 := by kernel_rfl
  obtain ⟨l⟩ := cs
  have hl' : l.length = 4 := by rw [← hcn]; exact hl
  have hall' : ∀ (i : Nat) (f : Field), _ → DataW.trod enc Try.prog w 0 (fun _ => true) true n f.type ((l.drop f.offset).take (Try.prog.cellsOf f.type)) = xs[i]? := hall
  match xs, hxs with
  | [y0, y1, y2, y3], _ =>
    have h0 : DataW.trod enc Try.prog w 0 (fun _ => true) true n 3 ((l.drop 0).take (Try.prog.cellsOf 3)) = some y0 := hall' 0 _ rfl
    rw [hci] at h0
    obtain ⟨a0, e0, f0⟩ := cell_int Try.underlying3 h0
    have h1 : DataW.trod enc Try.prog w 0 (fun _ => true) true n 3 ((l.drop 1).take (Try.prog.cellsOf 3)) = some y1 := hall' 1 _ rfl
    rw [hci] at h1
    obtain ⟨a1, e1, f1⟩ := cell_int Try.underlying3 h1
    have h2 : DataW.trod enc Try.prog w 0 (fun _ => true) true n 3 ((l.drop 2).take (Try.prog.cellsOf 3)) = some y2 := hall' 2 _ rfl
    rw [hci] at h2
    obtain ⟨a2, e2, f2⟩ := cell_int Try.underlying3 h2
    have h3 : DataW.trod enc Try.prog w 0 (fun _ => true) true n 45 ((l.drop 3).take (Try.prog.cellsOf 45)) = some y3 := hall' 3 _ rfl
    rw [hcy] at h3
    obtain ⟨A3, c3, a3, e3, f3, g3⟩ := cell_bytes Try.underlying45 Try.underlying5 hcu h3
    have k0 := piece_get e0
    have k1 := piece_get e1
    have k2 := piece_get e2
    have k3 := piece_get e3
    have el : l = [.int .i64 a0, .int .i64 a1, .int .i64 a2, .slice A3 a3.length c3] := by
      match l, hl' with
      | [x0, x1, x2, x3], _ => simp at k0 k1 k2 k3; simp [k0, k1, k2, k3]
    refine ⟨⟨a0, a1, a2, a3⟩, A3, c3, by rw [el]; rfl, f3, g3, ?_⟩
    intro m hm
    simp only [List.mem_cons, List.not_mem_nil, or_false] at hm
    rcases hm with rfl | rfl | rfl <;> assumption
end
/-- It lies in a block of its own. -/
def Atis (W : World) (g : Nat) (q : PI) (A : Option Addr) (c : Nat) : Prop := W.rangeAt g 0 (isa q A c).toList
section
variable {W : World} {g : Nat} {q : PI} {A : Option Addr} {c : Nat}
theorem Atis.new (w : World) : Atis (w.alloc (.cells (isa q A c) 59)) w.heap.size q A c := fun j v hj => by
  rw [Nat.zero_add, World.cell?_alloc_new, ← hj, Array.getElem?_toList]
theorem Atis.of_heap {t : TypeId} {fr : Nat × Nat} (h : W.heap[g]? = some (.cells (isa q A c) t fr)) : Atis W g q A c := fun j v hj => by
  rw [cell_of_row W g (0 + j) _ _ _ h, Nat.zero_add, ← Array.getElem?_toList]; exact hj
theorem Atis.below {w : World} {B : Nat} (h : Atis W g q A c) (hb : Below B W w) (hg : g < B) : Atis w g q A c := range_below h hg hb
theorem Atis.typ (h : Atis W g q A c) : W.cell? ⟨g, 0, none⟩ = some (.int .i64 q.typ) := h 0 _ rfl
theorem Atis.code (h : Atis W g q A c) : W.cell? ⟨g, 1, none⟩ = some (.int .i64 q.code) := h 1 _ rfl
theorem Atis.rest (h : Atis W g q A c) : W.cell? ⟨g, 2, none⟩ = some (.int .i64 q.rest) := h 2 _ rfl
theorem Atis.dat (h : Atis W g q A c) : W.cell? ⟨g, 3, none⟩ = some (.slice A q.dat.length c) := h 3 _ rfl
end
theorem run_load_is {o : Oper} {a : Act} {w : World} {x : Operand} {g : Nat} {cs : List Value} (ho : o.op = .load 59 x) (hx : a.eval x = .pointer (some ⟨g, 0, none⟩)) (hr : w.rangeAt g 0 cs) (hl : cs.length = 4) :
    (execOp a.eval o).run Try.prog w = .ok (.value (.agg cs.toArray)) w := by
  have h := run_loadVar_mid (P := Try.prog) w g 0 59 cs _ hr Try.underlying59 rfl (by rw [hl]; kernel_rfl)
  unfold execOp
  simp only [ho, hx, Instr.loadAt, Instr.sureAddr, Sem.run_bind, Sem.run_pure, Result.andThen_ok, h]
theorem is_store {ops : Array Oper} {rest : List Oper} {x y : Operand} {ty : TypeId} {pos : String} {af : Array Edge} {a : Act} {w : World} {Q : Exit → Act → World → Prop}
    {g : Nat} {t : TypeId} {cs old : Array Value} (hx : a.eval x = .pointer (some ⟨g, 0, none⟩)) (hy : a.eval y = .agg cs) (hg : w.heap[g]? = some (.cells old t (0, 0))) (ho : old.size = 4) (hl : cs.size = 4) (h1 : cs.all (·.oneCell') = true)
    (h : wpList Try.prog ops Q rest (a.put none undef) (w.setRow g cs)) : wpList Try.prog ops Q (⟨none, .store 59 x y, ty, pos, af, none⟩ :: rest) a w :=
  wpList_plain rfl fun _ hK => wp_store_row 59 x y rfl g cs hx hy t old hg (by rw [hl]; kernel_rfl) (by rw [ho, hl]) h1 (hK _ _ h)
theorem is_store_new {ops : Array Oper} {rest : List Oper} {x y : Operand} {ty : TypeId} {pos : String} {af : Array Edge} {a : Act} {w : World} {Q : Exit → Act → World → Prop}
    {t : TypeId} {cs old : Array Value} (hx : a.eval x = .pointer (some ⟨w.heap.size, 0, none⟩)) (hy : a.eval y = .agg cs) (ho : old.size = 4) (hl : cs.size = 4) (h1 : cs.all (·.oneCell') = true)
    (h : wpList Try.prog ops Q rest (a.put none undef) (w.alloc (.cells cs t))) : wpList Try.prog ops Q (⟨none, .store 59 x y, ty, pos, af, none⟩ :: rest) a (w.alloc (.cells old t)) :=
  is_store hx hy (World.alloc_heap_new w _) ho hl h1 (by rw [World.setRow_alloc_new]; exact h)
theorem is_result {fn : Func} {p : Tmp} {tmps : Array Value} {w : World} {g : Nat} {t : TypeId} {cs : Array Value} {fr : Nat × Nat} (h : fn.results = #[.cell p 59])
    (hp : tmps.getD p undef = .pointer (some ⟨g, 0, none⟩)) (hg : w.heap[g]? = some (.cells cs t fr)) (hl : cs.size = 4) : (results fn tmps).run Try.prog w = .ok (.agg cs) w :=
  results_cell_row h tmps w g t cs fr _ hp hg Try.underlying59 rfl (by rw [hl]; kernel_rfl)
theorem is_load_run {w : World} {g : Nat} {t : TypeId} {cs : Array Value} {fr : Nat × Nat} (hg : w.heap[g]? = some (.cells cs t fr)) (hl : cs.size = 4) : (loadVar 59 ⟨g, 0, none⟩).run Try.prog w = .ok (.agg cs) w :=
  run_loadVar_row w g t 59 cs fr _ hg Try.underlying59 rfl (by rw [hl]; kernel_rfl)
end Go.Proofs.Ytkgbjohadkbjaaa

/-
  Messages of ICMP in plain lists of bytes: what may be, its bytes, what bytes are; of both layers (a sum that is of other bytes, too). No program. Conditions are each theorem's own.
-/
namespace Go.Proofs.Ytkgbjohadkbjaaa
open Go.RowKit

def argI (q : PI) : Prop := 0 ≤ q.typ ∧ q.typ ≤ 255 ∧ 0 ≤ q.code ∧ q.code ≤ 255 ∧ 0 ≤ q.rest ∧ q.rest < 4294967296
instance (q : PI) : Decidable (argI q) := by unfold argI; infer_instance
def chkI (q : PI) : Int := if argI q then (if q.dat.length > 65527 then 6 else 0) else 1
theorem chkI_ok {q : PI} (h : chkI q = 0) : argI q ∧ q.dat.length ≤ 65527 := by
  unfold chkI at h
  split at h
  · rename_i ha
    split at h
    · cases h
    · exact ⟨ha, by omega⟩
  · cases h
theorem argI_iff (q : PI) : argI q ↔ (fitsB q.typ 1 = true ∧ fitsB q.code 1 = true ∧ fitsB q.rest 4 = true) := by
  rw [fitsB_iff, fitsB_iff, fitsB_iff, pw1, pw4, argI]; omega
/-- A head. -/
def hdI (q : PI) (s : Int) : List UInt8 := [u8 q.typ, u8 q.code] ++ be2 s ++ be4 q.rest
theorem hdI_len (q : PI) (s : Int) : (hdI q s).length = 8 := by simp [hdI, be2, be4]
/-- The sum of a message and of other bytes. -/
def smI (p : List UInt8) (q : PI) : Int := 65535 - fold (psum [p, hdI q 0, q.dat])
theorem smI_bd (p : List UInt8) (q : PI) : 0 ≤ smI p q ∧ smI p q ≤ 65535 := by
  have := fold_bd (psum [p, hdI q 0, q.dat]); unfold smI; omega
def bldI (p : List UInt8) (q : PI) : List UInt8 := hdI q (smI p q) ++ q.dat
theorem bldI_len (p : List UInt8) (q : PI) : (bldI p q).length = 8 + q.dat.length := by rw [bldI, List.length_append, hdI_len]
/-- What is wrong with bytes; nothing: 0. -/
def badI (p b : List UInt8) : Int := if b.length < 8 then 3 else if b.length > 65535 then 6 else if rightB [p, b] = false then 5 else 0
def rawI (b : List UInt8) : PI := ⟨byt b 0, byt b 1, n4 b 4, b.drop 8⟩
def prsI (p b : List UInt8) : PI := if badI p b = 0 then rawI b else isz
/-- Are two the same? -/
def sameI (q r : PI) : Bool := (q.typ == r.typ) && (q.code == r.code) && (q.rest == r.rest) && decide (q.dat = r.dat)
theorem sameI_iff {q r : PI} : sameI q r = true ↔ q = r := by
  obtain ⟨a0, a1, a2, a3⟩ := q
  obtain ⟨b0, b1, b2, b3⟩ := r
  simp only [sameI, Bool.and_eq_true, beq_iff_eq, decide_eq_true_eq, PI.mk.injEq]
  constructor
  · rintro ⟨⟨⟨h0, h1⟩, h2⟩, h3⟩; exact ⟨h0, h1, h2, h3⟩
  · rintro ⟨h0, h1, h2, h3⟩; exact ⟨⟨⟨h0, h1⟩, h2⟩, h3⟩
theorem psum_nil (l : List (List UInt8)) : psum ([] :: l) = psum l := by rw [psum_cons]; simp [wall, prs, wsum]
theorem rightB_nil (b : List UInt8) : rightB [[], b] = rightB [b] := by rw [rightB, rightB, psum_nil]
theorem psum_glueI (p : List UInt8) (q : PI) (s : Int) : psum [p, hdI q s, q.dat] = psum [p, hdI q s ++ q.dat] := psum_glue _ _ _ (m := 4) (hdI_len q s)
theorem smI_two (p : List UInt8) (q : PI) : smI p q = 65535 - fold (psum [p, hdI q 0 ++ q.dat]) := by rw [smI, psum_glueI]
theorem smI_one (q : PI) : smI [] q = 65535 - fold (psum [hdI q 0 ++ q.dat]) := by rw [smI_two, psum_nil]
theorem smI_nil (q : PI) : smI [] q = 65535 - fold (psum [hdI q 0, q.dat]) := by rw [smI, psum_nil]
theorem hdI_wall (q : PI) {s : Int} (h0 : 0 ≤ s) (h1 : s ≤ 65535) : wall (hdI q s) = wall (hdI q 0) + s := by
  have z : ∀ n : Int, 0 ≤ n → n ≤ 65535 → wall (hdI q n) = wall [u8 q.typ, u8 q.code] + n + wall (be4 q.rest) := fun n a b => by
    rw [hdI, wall_append (m := 2) (by simp [be2]), wall_append (m := 1) (by simp), be2_wall a b]
  rw [z s h0 h1, z 0 (by omega) (by omega)]; omega
/-- What is built is right. -/
theorem bldI_right (p : List UInt8) (q : PI) : rightB [p, bldI p q] = true := by
  have e : psum [p, bldI p q] = psum [p, hdI q 0, q.dat] + smI p q := by
    rw [bldI, ← psum_glueI]
    simp only [psum_cons]
    rw [hdI_wall q (smI_bd p q).1 (smI_bd p q).2]; omega
  have hs : smI p q = 65535 - fold (psum [p, hdI q 0, q.dat]) := rfl
  rw [rightB, e, right_of (psum_nn _) hs]; rfl
theorem backI {p : List UInt8} {q : PI} (h : chkI q = 0) : badI p (bldI p q) = 0 ∧ prsI p (bldI p q) = q := by
  obtain ⟨⟨a1, a2, a3, a4, a5, a6⟩, hl⟩ := chkI_ok h
  have hlen := bldI_len p q
  have f0 : byt (bldI p q) 0 = q.typ := by
    have e : byt (bldI p q) 0 = q.typ % 256 := u8_val q.typ
    omega
  have f1 : byt (bldI p q) 1 = q.code := by
    have e : byt (bldI p q) 1 = q.code % 256 := u8_val q.code
    omega
  have f4 : n4 (bldI p q) 4 = q.rest := by
    rw [bldI, hdI, List.append_assoc]; exact n4_be4 (a := [u8 q.typ, u8 q.code] ++ be2 (smI p q)) a5 a6 rfl
  have hb : badI p (bldI p q) = 0 := by
    unfold badI
    rw [if_neg (by omega), if_neg (by omega), if_neg (by rw [bldI_right]; simp)]
  refine ⟨hb, ?_⟩
  rw [prsI, if_pos hb, rawI, f0, f1, f4]
  have hd : (bldI p q).drop 8 = q.dat := by rw [bldI, List.drop_left' (hdI_len q _)]
  rw [hd]
/-- What is answered beside an error. -/
def resI (p : List UInt8) (q : PI) : List UInt8 := if chkI q = 0 then bldI p q else []
/-- A sum set in its place. -/
theorem setI (q : PI) (t s : Int) (d : List UInt8) (h0 : 0 ≤ s) (h1 : s ≤ 65535) : setB (hdI q t ++ d) 2 s 2 = hdI q s ++ d := by
  rw [setB, if_pos ⟨fitsB_iff.2 ⟨by omega, by omega, h0, by simp [pw]; omega⟩, by omega, by rw [List.length_append, hdI_len]; omega⟩]
  have e : digs s (2 : Int).toNat = be2 s := digs_two h0
  rw [e, show (2 : Int).toNat = 2 from rfl, hdI, List.append_assoc, List.append_assoc, splice_mid _ _ _ 2 rfl, hdI]
  simp [be2]
/-- What a message's sum is of, too, between two addresses. -/
def psJ (src dst : List UInt8) (next size : Int) : List UInt8 := src ++ dst ++ be4 size ++ [u8 0, u8 0, u8 0, u8 next]
theorem psJ_len {src dst : List UInt8} (next size : Int) (h1 : src.length = 16) (h2 : dst.length = 16) : (psJ src dst next size).length = 40 := by simp [psJ, be4, h1, h2]
def preJ (src dst b : List UInt8) : List UInt8 := psJ src dst 58 (b.length : Int)
/-- A message's bytes between two addresses. -/
def bldJ (src dst : List UInt8) (q : PI) : List UInt8 := bldI (psJ src dst 58 (8 + (q.dat.length : Int))) q
theorem bldJ_len (src dst : List UInt8) (q : PI) : (bldJ src dst q).length = 8 + q.dat.length := bldI_len _ q
theorem preJ_bld (src dst : List UInt8) (q : PI) : preJ src dst (bldJ src dst q) = psJ src dst 58 (8 + (q.dat.length : Int)) := by rw [preJ, bldJ_len]; simp
theorem backJ {src dst : List UInt8} {q : PI} (h : chkI q = 0) : badI (preJ src dst (bldJ src dst q)) (bldJ src dst q) = 0 ∧ prsI (preJ src dst (bldJ src dst q)) (bldJ src dst q) = q := by
  rw [preJ_bld]; exact backI h
/-- Which kinds tell of a fault, which ask. -/
def fltI (k : Int) : Bool := decide (k ∈ [3, 4, 5, 11, 12])
def qryI (k : Int) : Bool := decide (k ∈ [8, 0])
def fltJ (k : Int) : Bool := decide (1 ≤ k ∧ k ≤ 127)
theorem fltqry (k : Int) : (fltI k && qryI k) = false := by
  cases h : fltI k
  · rfl
  · cases h2 : qryI k
    · rfl
    · simp [fltI] at h; simp [qryI] at h2; omega
/-- A message's identifier, and the message with another one. -/
def idI (q : PI) : Int := q.rest / 65536 % 65536
def wdI (q : PI) (id : Int) : PI := ⟨q.typ, q.code, id % 65536 * 65536 + q.rest % 65536, q.dat⟩
end Go.Proofs.Ytkgbjohadkbjaaa

/-
  Packets that are quoted, in plain lists of bytes: their ports, and their bytes from another endpoint. No program. Conditions are each theorem's own.
-/
namespace Go.Proofs.Ytkgbjohadkbjaaa
open Go.RowKit

/-- What is wrong with bytes that are quoted; nothing: 0. -/
def qE (b : List UInt8) : Int :=
  if prsE b true ≠ 0 then prsE b true
  else if 0 < (prsV b true).off then 4
  else if (prsV b true).dat.length < 8 then 3
  else if (prsV b true).proto = 17 ∨ (prsV b true).proto = 6 then 0
  else if (prsV b true).proto = 1 ∧ qryI (byt (prsV b true).dat 0) = true then 0
  else 8
def qV (b : List UInt8) : P4 := if qE b = 0 then prsV b true else p4z
/-- Where the ports of who sends, and of who gets it, stand. -/
def ppQ (pr : Int) (fr : Bool) : Nat := if pr = 1 then 4 else if fr then 0 else 2
def poN (b : List UInt8) (fr : Bool) : Int := if qE b = 0 then n2 (prsV b true).dat (ppQ (prsV b true).proto fr) else 0
def poP (b : List UInt8) : Int := if qE b = 0 then (prsV b true).proto else 0
/-- Its cells: the protocol and both ports. -/
def poA (p s d : Int) : Array Value := #[.int .i64 p, .int .i64 s, .int .i64 d]
def poV (b : List UInt8) : Value := .agg (poA (poP b) (poN b true) (poN b false))

/-- Bytes that are quoted and have ports. -/
structure Quo (b : List UInt8) (q : P4) (H : Nat) : Prop where
  ok : prsE b true = 0
  val : prsV b true = q
  hH : H = 20 + q.opt.length
  hHi : (H : Int) = hlen b
  le : H + q.dat.length ≤ b.length
  d8 : 8 ≤ q.dat.length
  off : ¬ 0 < q.off
  prb : q.proto = byt b 9
  pr : (q.proto = 17 ∨ q.proto = 6) ∨ (q.proto = 1 ∧ qryI (byt q.dat 0) = true)
  dat : ∀ i, i < q.dat.length → byt q.dat i = byt b (H + i)
  src : q.src = n4 b 12
  dst : q.dst = n4 b 16
  raw : q = raw4 b
theorem qE_quo {b : List UInt8} (h : qE b = 0) : ∃ q H, Quo b q H := by
  unfold qE at h
  split at h
  · rename_i h0; exact absurd h h0
  · rename_i h0
    have h0 : prsE b true = 0 := by omega
    split at h
    · cases h
    · rename_i h1
      split at h
      · cases h
      · rename_i h2
        have hr : prsV b true = raw4 b := by rw [prsV, if_pos h0]
        have hb : bad4 b true = 0 := by
          unfold prsE at h0
          split at h0
          · assumption
          · exact h0
        rw [bad4] at hb
        split at hb
        · cases hb
        · rename_i g0
          split at hb
          · cases hb
          · rename_i g1
            split at hb
            · cases hb
            · rename_i g2
              split at hb
              · cases hb
              · rename_i g3
                have l1 : (hlen b).toNat ≤ b.length := by omega
                have l2 : 20 ≤ (hlen b).toNat := by omega
                have ho : (raw4 b).opt.length = (hlen b).toNat - 20 := by
                  show ((b.take (hlen b).toNat).drop 20).length = _
                  simp; omega
                have hd : (raw4 b).dat = (b.take (min (n2 b 2) (b.length : Int)).toNat).drop (hlen b).toNat := rfl
                have hdl : (raw4 b).dat.length = (min (n2 b 2) (b.length : Int)).toNat - (hlen b).toNat := by rw [hd]; simp; omega
                refine ⟨raw4 b, (hlen b).toNat, h0, hr, by omega, by omega, by omega, by rw [← hr]; omega, by rw [← hr]; exact h1, rfl, ?_, fun i hi => ?_, rfl, rfl, rfl⟩
                · rw [← hr]
                  split at h
                  · rename_i g; exact .inl g
                  · split at h
                    · rename_i g; exact .inr g
                    · cases h
                · rw [hdl] at hi
                  rw [hd]
                  unfold byt
                  rw [List.getElem?_drop, List.getElem?_take, if_pos (by omega)]
section
variable {b : List UInt8} {q : P4} {H : Nat}
theorem Quo.qe (h : Quo b q H) : qE b = 0 := by
  rw [qE, if_neg (by rw [h.ok]; simp), h.val, if_neg h.off, if_neg (by have := h.d8; omega)]
  rcases h.pr with g | g
  · rw [if_pos g]
  · split
    · rfl
    · rfl
theorem Quo.qv (h : Quo b q H) : qV b = q := by rw [qV, if_pos h.qe, h.val]
theorem Quo.pp (h : Quo b q H) : poP b = q.proto := by rw [poP, if_pos h.qe, h.val]
theorem Quo.pn (h : Quo b q H) (fr : Bool) : poN b fr = n2 q.dat (ppQ q.proto fr) := by rw [poN, if_pos h.qe, h.val]
theorem ppQ_le (pr : Int) (fr : Bool) : ppQ pr fr ≤ 4 := by unfold ppQ; split; omega; split <;> omega
theorem Quo.n2 (h : Quo b q H) {i : Nat} (hi : i + 1 < q.dat.length) : n2 q.dat i = n2 b (H + i) := by
  unfold Proofs.Ytkgbjohadkbjaaa.n2
  rw [h.dat i (by omega), h.dat (i + 1) (by omega), Nat.add_assoc]
theorem Quo.h20 (h : Quo b q H) : 20 ≤ H := by have := h.hH; omega
end

/-! ### Bytes in the place of others -/
theorem splice_len {l x : List UInt8} {i : Nat} (h : i + x.length ≤ l.length) : (splice l i x).length = l.length := by
  simp [splice]; omega
theorem splice_get {l x : List UInt8} {i : Nat} (h : i + x.length ≤ l.length) (k : Nat) : (splice l i x)[k]? = if i ≤ k ∧ k < i + x.length then x[k - i]? else l[k]? := by
  unfold splice
  by_cases h1 : k < i
  · rw [if_neg (by omega), List.getElem?_append_left (by simp; omega), List.getElem?_take, if_pos h1]
  · rw [List.getElem?_append_right (by simp; omega)]
    have hl : (l.take i).length = i := by simp; omega
    rw [hl]
    by_cases h2 : k < i + x.length
    · rw [if_pos (by omega), List.getElem?_append_left (by omega)]
    · rw [if_neg (by omega), List.getElem?_append_right (by omega), List.getElem?_drop]
      congr 1; omega
theorem splice_comm {l x y : List UInt8} {i j : Nat} (h1 : i + x.length ≤ j) (h2 : j + y.length ≤ l.length) : splice (splice l j y) i x = splice (splice l i x) j y := by
  apply List.ext_getElem?
  intro k
  rw [splice_get (by rw [splice_len h2]; omega), splice_get h2, splice_get (by rw [splice_len (by omega)]; omega), splice_get (by omega)]
  by_cases a : i ≤ k ∧ k < i + x.length
  · rw [if_pos a, if_neg (by omega), if_pos a]
  · rw [if_neg a, if_neg a]
theorem splice_byt {l x : List UInt8} {i : Nat} (h : i + x.length ≤ l.length) (k : Nat) : byt (splice l i x) k = if i ≤ k ∧ k < i + x.length then byt x (k - i) else byt l k := by
  unfold byt
  rw [splice_get h k]
  split <;> rfl
theorem splice_nil (l : List UInt8) (i : Nat) : splice l i [] = l := by simp [splice]

/-! ### From another endpoint -/
/-- Where the address stands. -/
def whQ (fr : Bool) : Nat := if fr then 12 else 16
/-- Where the sum of what is within stands, and whether it is there. -/
def satQ (q : P4) : Nat := if q.proto = 6 then 16 else if q.proto = 1 then 2 else 6
def sisQ (q : P4) : Bool := decide (satQ q + 2 ≤ q.dat.length) && !(decide (q.proto = 17) && decide (n2 q.dat 6 = 0))
def oaQ (b : List UInt8) (fr : Bool) : List UInt8 := (b.drop (whQ fr)).take 4
def opQ (b : List UInt8) (q : P4) (H : Nat) (fr : Bool) : List UInt8 := (b.drop (H + ppQ q.proto fr)).take 2
def hsQ (b : List UInt8) (fr : Bool) (a : Int) : Int := chg (n2 b 10) (oaQ b fr) (be4 a)
def wsQ (b : List UInt8) (q : P4) (H : Nat) (fr : Bool) (a n : Int) : Int :=
  if q.proto = 1 then chg (n2 q.dat (satQ q)) (opQ b q H fr) (be2 n) else chg (n2 q.dat (satQ q)) (oaQ b fr ++ opQ b q H fr) (be4 a ++ be2 n)
def wtQ (b : List UInt8) (q : P4) (H : Nat) (fr : Bool) (a n : Int) : Int := if q.proto = 17 ∧ wsQ b q H fr a n = 0 then 65535 else wsQ b q H fr a n
/-- In the order of the code, in that of the document. -/
def baseQ (b : List UInt8) (q : P4) (H : Nat) (fr : Bool) (a n : Int) : List UInt8 := splice (splice (splice b (whQ fr) (be4 a)) (H + ppQ q.proto fr) (be2 n)) 10 (be2 (hsQ b fr a))
def putQ (b : List UInt8) (q : P4) (H : Nat) (fr : Bool) (a n : Int) : List UInt8 := if sisQ q = true then splice (baseQ b q H fr a n) (H + satQ q) (be2 (wtQ b q H fr a n)) else baseQ b q H fr a n
theorem be2_len (n : Int) : (be2 n).length = 2 := rfl
theorem be4_len (n : Int) : (be4 n).length = 4 := rfl
theorem chg_bd (s : Int) (o n : List UInt8) : 0 ≤ chg s o n ∧ chg s o n ≤ 65535 := by
  unfold chg
  split
  · have := fold_bd (65535 - s + (65535 * (prs o.length : Int) - wall o) + wall n); omega
  · omega
theorem wsQ_bd (b : List UInt8) (q : P4) (H : Nat) (fr : Bool) (a n : Int) : 0 ≤ wsQ b q H fr a n ∧ wsQ b q H fr a n ≤ 65535 := by
  unfold wsQ
  split <;> exact chg_bd _ _ _
theorem wtQ_bd (b : List UInt8) (q : P4) (H : Nat) (fr : Bool) (a n : Int) : 0 ≤ wtQ b q H fr a n ∧ wtQ b q H fr a n ≤ 65535 := by
  have := wsQ_bd b q H fr a n
  unfold wtQ
  split <;> omega
theorem wh_le (fr : Bool) : 12 ≤ whQ fr ∧ whQ fr ≤ 16 := by cases fr <;> decide
section
variable {b : List UInt8} {q : P4} {H : Nat} (h : Quo b q H) (fr : Bool) (a n : Int)
include h
theorem baseQ_alt : baseQ b q H fr a n = splice (splice (splice b (whQ fr) (be4 a)) 10 (be2 (hsQ b fr a))) (H + ppQ q.proto fr) (be2 n) := by
  have h1 := h.h20; have h2 := h.le; have h3 := h.d8; have h4 := ppQ_le q.proto fr; have h5 := wh_le fr
  rw [baseQ, splice_comm (by rw [be2_len]; omega) (by rw [splice_len (by rw [be4_len]; omega), be2_len]; omega)]
theorem baseQ_len : (baseQ b q H fr a n).length = b.length := by
  have h1 := h.h20; have h2 := h.le; have h3 := h.d8; have h4 := ppQ_le q.proto fr; have h5 := wh_le fr
  have e1 : (splice b (whQ fr) (be4 a)).length = b.length := splice_len (by rw [be4_len]; omega)
  have e2 : (splice (splice b (whQ fr) (be4 a)) (H + ppQ q.proto fr) (be2 n)).length = b.length := by rw [splice_len (by rw [be2_len, e1]; omega), e1]
  rw [baseQ, splice_len (by rw [be2_len, e2]; omega), e2]
theorem putQ_len : (putQ b q H fr a n).length = b.length := by
  unfold putQ
  split
  · rename_i g
    simp only [sisQ, Bool.and_eq_true, decide_eq_true_eq] at g
    have h2 := h.le
    rw [splice_len (by rw [be2_len, baseQ_len h]; omega), baseQ_len h]
  · exact baseQ_len h fr a n
end
end Go.Proofs.Ytkgbjohadkbjaaa

/-
  The struct quote.change as data: its cells, its value, a block that holds one. Conditions are each theorem's own.
-/
namespace Go.Proofs.Ytkgbjohadkbjaaa
open Go.RowKit Go.ChangeShapes Go.WideShapes

structure Ch where
  pl : Int
  old : List UInt8
  now : List UInt8
def chz : Ch := ⟨0, [], []⟩
/-- Its cells. -/
def cha (q : Ch) (A : Option Addr) (c : Nat) (A' : Option Addr) (c' : Nat) : Array Value := #[.int .i64 q.pl, .slice A q.old.length c, .slice A' q.now.length c']
def chv (q : Ch) (A : Option Addr) (c : Nat) (A' : Option Addr) (c' : Nat) : Value := .agg #[.int .i64 q.pl, .slice A q.old.length c, .slice A' q.now.length c']
theorem chv_eq (q : Ch) (A : Option Addr) (c : Nat) (A' : Option Addr) (c' : Nat) : chv q A c A' c' = .agg (cha q A c A' c') := rfl
def Ch.fits (q : Ch) : Prop := ∀ n ∈ [q.pl], (Lit.int .i64 n).wf = true
theorem cha_size (q : Ch) (A : Option Addr) (c : Nat) (A' : Option Addr) (c' : Nat) : (cha q A c A' c').size = 3 := rfl
theorem ch_one (q : Ch) (A : Option Addr) (c : Nat) (A' : Option Addr) (c' : Nat) : (cha q A c A' c').all (·.oneCell') = true := by simp [cha, Value.oneCell']
section
variable {H : Type} {enc : TypeId × Value → H} {w : World} {base : Nat} {v : Value} {d : DataW H} {p : List MemPlace}
set_option maxRecDepth 100000 in
theorem get_ch (hv : Value.okWide Try.prog w .any base 126 v) (h : DataW.Trod enc Try.prog w 0 (fun _ => true) true 126 v d p) :
    ∃ q A c A' c', v = chv q A c A' c' ∧ Arg w w.heap.size A c q.old ∧ Arg w w.heap.size A' c' q.now ∧ c ≤ maxLen ∧ c' ≤ maxLen ∧ q.fits := by
  obtain ⟨cs, rfl, hcs⟩ : ∃ cs, v = .agg cs ∧ cs.size = Try.prog.cellsOf 126 := by
    have := hv
    simp only [Value.okWide, Try.underlying126] at this
    obtain ⟨cs, h1, h2, _⟩ := this
    exact ⟨cs, h1, h2⟩
  obtain ⟨fuel, hf⟩ := h
  obtain ⟨xs, n, _, _, hl, hxs, hall⟩ := DataW.trod_struct Try.underlying126 hf
  have hci : Try.prog.cellsOf 3 = 1 := by kernel_rfl
  have hcy : Try.prog.cellsOf 45 = 1 := by kernel_rfl
  have hcu : Try.prog.cellsOf 5 = 1 := by kernel_rfl
  have hcn : Try.prog.cellsOf 126 = 3 := by kernel_rfl
  obtain ⟨l⟩ := cs
  have hl' : l.length = 3 := by rw [← hcn]; exact hl
  have hall' : ∀ (i : Nat) (f : Field), _ → DataW.trod enc Try.prog w 0 (fun _ => true) true n f.type ((l.drop f.offset).take (Try.prog.cellsOf f.type)) = xs[i]? := hall
  match xs, hxs with
  | [y0, y1, y2], _ =>
    have h0 : DataW.trod enc Try.prog w 0 (fun _ => true) true n 3 ((l.drop 0).take (Try.prog.cellsOf 3)) = some y0 := hall' 0 _ rfl
    rw [hci] at h0
    obtain ⟨a0, e0, f0⟩ := cell_int Try.underlying3 h0
    have h1 : DataW.trod enc Try.prog w 0 (fun _ => true) true n 45 ((l.drop 1).take (Try.prog.cellsOf 45)) = some y1 := hall' 1 _ rfl
    rw [hcy] at h1
    obtain ⟨A1, c1, a1, e1, f1, g1⟩ := cell_bytes Try.underlying45 Try.underlying5 hcu h1
    have h2 : DataW.trod enc Try.prog w 0 (fun _ => true) true n 45 ((l.drop 2).take (Try.prog.cellsOf 45)) = some y2 := hall' 2 _ rfl
    rw [hcy] at h2
    obtain ⟨A2, c2, a2, e2, f2, g2⟩ := cell_bytes Try.underlying45 Try.underlying5 hcu h2
    have k0 := piece_get e0
    have k1 := piece_get e1
    have k2 := piece_get e2
    have el : l = [.int .i64 a0, .slice A1 a1.length c1, .slice A2 a2.length c2] := by
      match l, hl' with
      | [x0, x1, x2], _ => simp at k0 k1 k2; simp [k0, k1, k2]
    refine ⟨⟨a0, a1, a2⟩, A1, c1, A2, c2, by rw [el]; rfl, f1, f2, g1, g2, ?_⟩
    intro m hm
    simp only [List.mem_cons, List.not_mem_nil, or_false] at hm
    rcases hm with rfl <;> assumption
end
/-- It lies in a block of its own. -/
def Atch (W : World) (g : Nat) (q : Ch) (A : Option Addr) (c : Nat) (A' : Option Addr) (c' : Nat) : Prop := W.rangeAt g 0 (cha q A c A' c').toList
section
variable {W : World} {g : Nat} {q : Ch} {A : Option Addr} {c : Nat} {A' : Option Addr} {c' : Nat}
theorem Atch.new (w : World) : Atch (w.alloc (.cells (cha q A c A' c') 126)) w.heap.size q A c A' c' := fun j v hj => by
  rw [Nat.zero_add, World.cell?_alloc_new, ← hj, Array.getElem?_toList]
theorem Atch.of_heap {t : TypeId} {fr : Nat × Nat} (h : W.heap[g]? = some (.cells (cha q A c A' c') t fr)) : Atch W g q A c A' c' := fun j v hj => by
  rw [cell_of_row W g (0 + j) _ _ _ h, Nat.zero_add, ← Array.getElem?_toList]; exact hj
theorem Atch.below {w : World} {B : Nat} (h : Atch W g q A c A' c') (hb : Below B W w) (hg : g < B) : Atch w g q A c A' c' := range_below h hg hb
theorem Atch.pl (h : Atch W g q A c A' c') : W.cell? ⟨g, 0, none⟩ = some (.int .i64 q.pl) := h 0 _ rfl
theorem Atch.old (h : Atch W g q A c A' c') : W.cell? ⟨g, 1, none⟩ = some (.slice A q.old.length c) := h 1 _ rfl
theorem Atch.now (h : Atch W g q A c A' c') : W.cell? ⟨g, 2, none⟩ = some (.slice A' q.now.length c') := h 2 _ rfl
end
theorem run_load_ch {o : Oper} {a : Act} {w : World} {x : Operand} {g : Nat} {cs : List Value} (ho : o.op = .load 126 x) (hx : a.eval x = .pointer (some ⟨g, 0, none⟩)) (hr : w.rangeAt g 0 cs) (hl : cs.length = 3) :
    (execOp a.eval o).run Try.prog w = .ok (.value (.agg cs.toArray)) w := by
  have h := run_loadVar_mid (P := Try.prog) w g 0 126 cs _ hr Try.underlying126 rfl (by rw [hl]; kernel_rfl)
  unfold execOp
  simp only [ho, hx, Instr.loadAt, Instr.sureAddr, Sem.run_bind, Sem.run_pure, Result.andThen_ok, h]
theorem ch_store {ops : Array Oper} {rest : List Oper} {x y : Operand} {ty : TypeId} {pos : String} {af : Array Edge} {a : Act} {w : World} {Q : Exit → Act → World → Prop}
    {g : Nat} {t : TypeId} {cs old : Array Value} (hx : a.eval x = .pointer (some ⟨g, 0, none⟩)) (hy : a.eval y = .agg cs) (hg : w.heap[g]? = some (.cells old t (0, 0))) (ho : old.size = 3) (hl : cs.size = 3) (h1 : cs.all (·.oneCell') = true)
    (h : wpList Try.prog ops Q rest (a.put none undef) (w.setRow g cs)) : wpList Try.prog ops Q (⟨none, .store 126 x y, ty, pos, af, none⟩ :: rest) a w :=
  wpList_plain rfl fun _ hK => wp_store_row 126 x y rfl g cs hx hy t old hg (by rw [hl]; kernel_rfl) (by rw [ho, hl]) h1 (hK _ _ h)
theorem ch_store_new {ops : Array Oper} {rest : List Oper} {x y : Operand} {ty : TypeId} {pos : String} {af : Array Edge} {a : Act} {w : World} {Q : Exit → Act → World → Prop}
    {t : TypeId} {cs old : Array Value} (hx : a.eval x = .pointer (some ⟨w.heap.size, 0, none⟩)) (hy : a.eval y = .agg cs) (ho : old.size = 3) (hl : cs.size = 3) (h1 : cs.all (·.oneCell') = true)
    (h : wpList Try.prog ops Q rest (a.put none undef) (w.alloc (.cells cs t))) : wpList Try.prog ops Q (⟨none, .store 126 x y, ty, pos, af, none⟩ :: rest) a (w.alloc (.cells old t)) :=
  ch_store hx hy (World.alloc_heap_new w _) ho hl h1 (by rw [World.setRow_alloc_new]; exact h)
theorem ch_result {fn : Func} {p : Tmp} {tmps : Array Value} {w : World} {g : Nat} {t : TypeId} {cs : Array Value} {fr : Nat × Nat} (h : fn.results = #[.cell p 126])
    (hp : tmps.getD p undef = .pointer (some ⟨g, 0, none⟩)) (hg : w.heap[g]? = some (.cells cs t fr)) (hl : cs.size = 3) : (results fn tmps).run Try.prog w = .ok (.agg cs) w :=
  results_cell_row h tmps w g t cs fr _ hp hg Try.underlying126 rfl (by rw [hl]; kernel_rfl)
theorem ch_load_run {w : World} {g : Nat} {t : TypeId} {cs : Array Value} {fr : Nat × Nat} (hg : w.heap[g]? = some (.cells cs t fr)) (hl : cs.size = 3) : (loadVar 126 ⟨g, 0, none⟩).run Try.prog w = .ok (.agg cs) w :=
  run_loadVar_row w g t 126 cs fr _ hg Try.underlying126 rfl (by rw [hl]; kernel_rfl)
end Go.Proofs.Ytkgbjohadkbjaaa

/-
  A range over an iterator that hands over memory which it made in the round: what is known of an element comes with it. Conditions are each theorem's own.
-/
namespace Go.Proofs.Ytkgbjohadkbjaaa
open Go.RowKit Go.Shelf

/-- An iterator's promise: its elements come in order; of each, when it comes, G is known. -/
def SeqTold {α : Type} (m : Nat) (P : Program) (g : Nat) (lb : Array Value) (encs : α → Array Value) (G : List α → α → World → Prop) (Kp : World → World → Prop) (S Sp : List α → Prop) (w : World) : Prop :=
  ∀ (l : Nat) (J Jx : List α → World → Prop) (W : World), Below w.heap.size w W → AbidesFrom W.heap.size J → AbidesFrom W.heap.size Jx →
    (∀ pre x X, J pre X → G pre x X → YieldAt Fence.wide (m - 1) P l (encs x) X fun e Y =>
      (e = .returned (.bool true) ∧ J (pre ++ [x]) Y ∧ Kp X Y) ∨ (e = .returned (.bool false) ∧ Jx (pre ++ [x]) Y)) →
    J [] W →
    CallsIn Fence.wide m P g (#[.func (.yield l) #[] #[]] ++ lb) W fun e Y => (∃ v, e = .returned v) ∧ ((∃ xs, S xs ∧ J xs Y) ∨ (∃ pre, Sp pre ∧ Jx pre Y))
/-- The loop's record, in a state. -/
def recd (fn : FuncId) (a : Act) (ps : Array Tmp) (assign body : Code) (D : Nat) (st : LoopState) (pe : Option Code) : Loop := { state := st, pending := pe, fn := fn, tmps := a.tmps, params := ps, assign := assign, body := body, defers := D }
/-- The statement's two blocks: the rounds' deferred calls at D, the record behind it. -/
structure Two (W : World) (D : Nat) (r : Loop) : Prop where
  calls : W.heap[D]? = some (.deferred (some []))
  rec_ : W.heap[D + 1]? = some (.loop r)
section
variable {W V : World} {D : Nat} {r : Loop}
theorem Two.turn (h : Two W D r) (s : Loop) : Two (W.putObj (D + 1) (.loop s)) D s :=
  ⟨(World.putObj_heap_other (by omega)).trans h.calls, World.putObj_heap_same (heap_lt h.rec_)⟩
theorem Two.abides (h : Two W D r) {row : Option Nat} (hg : W.grownBy V row) (hr : ∀ k, row = some k → ∃ o : Obj, W.heap[k]? = some o ∧ o.isWalk = true) : Two V D r :=
  ⟨(grownBy_keeps hg hr h.calls rfl).trans h.calls, (grownBy_keeps hg hr h.rec_ rfl).trans h.rec_⟩
theorem Two.keeps (h : Two W D r) (hk : KeepsFrom D W V) : Two V D r := ⟨hk.same _ _ (Nat.le_refl _) h.calls rfl, hk.same _ _ (by omega) h.rec_ rfl⟩
theorem Two.first (w : World) (r : Loop) : Two ((w.alloc (.deferred (some []))).alloc (.loop r)) w.heap.size r := by
  refine ⟨(Below.heap_alloc _ _ _ (by simp)).trans (World.alloc_heap_new w _), ?_⟩
  have := World.alloc_heap_new (w.alloc (.deferred (some []))) (.loop r)
  rwa [World.size_alloc] at this
end
/-- How a round ends, said at once: by going on, or by a jump that waits. -/
theorem round_end {α : Type} {P : Program} {fn : FuncId} {a : Act} {ps : Array Tmp} {assign body : Code} {w X Y : World} {Kp : World → World → Prop} {I : List α → World → Prop} {Ix : Code → List α → World → Prop} {pre : List α}
    (hI : OwnFrom w.heap.size I) (hIx : ∀ c, OwnFrom w.heap.size (Ix c)) (hKt : ∀ {A B C : World}, Kp A B → Kp B C → Kp A C) (hKb : ∀ (W : World) (l : Nat) (r r' : Loop), w.heap.size ≤ l → W.heap[l]? = some (.loop r) → Kp W (W.putObj l (.loop r')))
    (X0 : World) (h0 : Kp X0 X) (hT : Two X w.heap.size (recd fn a ps assign body w.heap.size .busy none)) (e : Exit) (b : Act) (h : ownPostG w.heap.size Kp I Ix pre X e b Y) :
    roundPost P (w.heap.size + 1) (fun e Y => (e = .returned (.bool true) ∧ (I pre Y ∧ Two Y w.heap.size (recd fn a ps assign body w.heap.size .ready none)) ∧ Kp X0 Y) ∨
      (e = .returned (.bool false) ∧ ∃ c, Ix c pre Y ∧ Two Y w.heap.size (recd fn a ps assign body w.heap.size .done (some c)))) e b Y := by
  have jump : ∀ c, KeepsFrom w.heap.size X Y ∧ Ix c pre Y → ∃ v Z, (Instr.endRound (w.heap.size + 1) (some c)).run P Y = .ok v Z ∧
      ((Ending.returned v = .returned (.bool true) ∧ (I pre Z ∧ Two Z w.heap.size (recd fn a ps assign body w.heap.size .ready none)) ∧ Kp X0 Z) ∨
      (Ending.returned v = .returned (.bool false) ∧ ∃ c, Ix c pre Z ∧ Two Z w.heap.size (recd fn a ps assign body w.heap.size .done (some c)))) := fun c hp => by
    have ht := hT.keeps hp.1
    exact ⟨_, _, run_endRound (some c) ht.rec_, .inr ⟨rfl, c, (hIx c).putObj _ hp.2 (by omega) ht.rec_ rfl, ht.turn _⟩⟩
  cases e with
  | normal =>
    have ht := hT.keeps h.1
    exact ⟨_, _, run_endRound none ht.rec_, .inl ⟨rfl, ⟨hI.putObj _ h.2.2 (by omega) ht.rec_ rfl, ht.turn _⟩, hKt (hKt h0 h.2.1) (hKb _ _ _ _ (by omega) ht.rec_)⟩⟩
  | ret => exact jump .ret h
  | exit id => exact jump (.exit id) h
  | goto t => exact jump (.goto t) h
  | panic c => exact h.elim
  | outgrown => exact h.elim
theorem range_told {α : Type} {n : Nat} {P : Program} {g : Operand} {ps : Array Tmp} {assign body : Code} {Q : Exit → Act → World → Prop} {a : Act} {w : World} (h1 : 1 ≤ n)
    {gf : Nat} {lb : Array Value} (hg : a.eval g = .func (.func gf) #[] lb) (eg : ∀ args w, (callFunc gf args).run P w = .ok (.enter gf args) w)
    {encs : α → Array Value} {G : List α → α → World → Prop} {Kp : World → World → Prop} {S Sp : List α → Prop} {w0 : World} (hseq : SeqTold (n - 1) P gf lb encs G Kp S Sp w0)
    (hKt : ∀ {A B C : World}, Kp A B → Kp B C → Kp A C) (hKb : ∀ (W : World) (l : Nat) (r r' : Loop), w.heap.size ≤ l → W.heap[l]? = some (.loop r) → Kp W (W.putObj l (.loop r')))
    (hb0 : Below w0.heap.size w0 w) (hps : ∀ x, (encs x).size = ps.size)
    (hG : ∀ (pre : List α) (x : α) (W : World) (l : Nat) (r r' : Loop), G pre x W → w.heap.size ≤ l → W.heap[l]? = some (.loop r) → G pre x (W.putObj l (.loop r')))
    (I : List α → World → Prop) (Ix : Code → List α → World → Prop) (hI : OwnFrom w.heap.size I) (hIx : ∀ c, OwnFrom w.heap.size (Ix c)) (h0 : I [] w) (a₁ : α → Act)
    (hassign : ∀ (l : Nat) (x : α) (W : World) (K : Act → World → Prop), K (a₁ x) W →
      assign.wpIn (Fence.wide.inRound l) (n - 1 - 1) P (Exit.then K (fun _ _ _ => False)) { tmps := (ps.zip (encs x)).foldl (fun t (p, v) => t.setIfInBounds p v) a.tmps, defers := [] } W)
    (hbody : ∀ (l : Nat) (pre : List α) (x : α) (W : World), I pre W → G pre x W → body.wpIn (Fence.wide.inRound l) (n - 1 - 1) P (ownPostG w.heap.size Kp I Ix (pre ++ [x]) W) (a₁ x) W)
    (hdone : ∀ (D : Nat) (xs : List α) (W : World), w.heap.size ≤ D → S xs → I xs W → W.heap[D]? = some (.deferred (some [])) → Q .normal { a with defers := { target := .collected D, args := #[] } :: a.defers } W)
    (hstop : ∀ (D : Nat) (c : Code) (pre : List α) (W : World), w.heap.size ≤ D → Sp pre → Ix c pre W → W.heap[D]? = some (.deferred (some [])) → c.wpIn Fence.wide n P Q { a with defers := { target := .collected D, args := #[] } :: a.defers } W) :
    (Code.rangeFunc g ps assign body).wpIn Fence.wide n P Q a w := by
  refine wpIn_rangeFunc fun fn _ => ?_
  have t1 := Two.first w (recd fn a ps assign body w.heap.size .ready none)
  have b1 : Below w0.heap.size w0 ((w.alloc (.deferred (some []))).alloc (.loop (recd fn a ps assign body w.heap.size .ready none))) := (hb0.alloc hb0.size _).alloc (by have := hb0.size; simp; omega) _
  have i1 : I [] ((w.alloc (.deferred (some []))).alloc (.loop (recd fn a ps assign body w.heap.size .ready none))) := hI.alloc _ (hI.alloc _ h0)
  have z1 : w.heap.size ≤ ((w.alloc (.deferred (some []))).alloc (.loop (recd fn a ps assign body w.heap.size .ready none))).heap.size := by simp; omega
  obtain ⟨W1, hW1⟩ : ∃ W1, W1 = (w.alloc (.deferred (some []))).alloc (.loop (recd fn a ps assign body w.heap.size .ready none)) := ⟨_, rfl⟩
  rw [← hW1] at t1 b1 i1 z1
  refine ⟨w.heap.size + 1, [{ target := .collected w.heap.size, args := #[] }], W1, { target := .fn (.func gf) lb, args := #[.func (.yield (w.heap.size + 1)) #[] #[]] }, W1, gf, #[.func (.yield (w.heap.size + 1)) #[] #[]] ++ lb, W1,
    ?_, ?_, fun _ _ => trivial, ?_, fun _ => h1, ?_⟩
  · rw [hW1]; exact run_enterLoop_outer fn a.tmps ps assign body
  · simp only [resolve, hg]; simp [go_sem]
  · simp [invoke, go_sem, eg]
  · refine (hseq (w.heap.size + 1) (fun pre W => I pre W ∧ Two W w.heap.size (recd fn a ps assign body w.heap.size .ready none))
      (fun pre W => ∃ c, Ix c pre W ∧ Two W w.heap.size (recd fn a ps assign body w.heap.size .done (some c))) _ b1 ?_ ?_ ?_ ⟨i1, t1⟩).mono ?_
    · rintro s A B row ⟨hi, ht⟩ hgr hr
      exact ⟨hI s A B row hi hgr fun r e => by obtain ⟨hB, o, ho, hw⟩ := hr r e; exact ⟨by omega, o, ho, Obj.not_cells_of_walk hw⟩, ht.abides hgr fun r e => (hr r e).2⟩
    · rintro s A B row ⟨c, hi, ht⟩ hgr hr
      exact ⟨c, hIx c s A B row hi hgr fun r e => by obtain ⟨hB, o, ho, hw⟩ := hr r e; exact ⟨by omega, o, ho, Obj.not_cells_of_walk hw⟩, ht.abides hgr fun r e => (hr r e).2⟩
    · rintro pre x X ⟨hi, ht⟩ hgx
      refine ⟨fn, _, assign, body, run_yield ht.rec_ (hps x), roundIn_of_wpIn trivial (hassign _ x X _ ⟨_, run_beginRound ht.rec_ rfl, ?_⟩)⟩
      have hbu := ht.turn (recd fn a ps assign body w.heap.size .busy none)
      exact wpIn_mono (hbody _ pre x _ (hI.putObj _ hi (by omega) ht.rec_ rfl) (hG pre x X _ _ _ hgx (by omega) ht.rec_))
        (fun e b Y hp => by
          have hk0 : Kp X (X.putObj (w.heap.size + 1) (.loop (recd fn a ps assign body w.heap.size .busy none))) := hKb _ _ _ _ (by omega) ht.rec_
          exact round_end (P := P) (pre := pre ++ [x]) (Kp := Kp) (I := I) (Ix := Ix) hI hIx hKt hKb X hk0 hbu e b hp)
    · rintro e Y ⟨⟨v, rfl⟩, ⟨xs, hs, hi, ht⟩ | ⟨pre, hs, c, hi, ht⟩⟩
      · exact ⟨none, _, run_endLoop ht.rec_ (by simp [recd]), hdone _ xs _ (Nat.le_refl _) hs (hI.putObj _ hi (by omega) ht.rec_ rfl) (ht.turn _).calls⟩
      · exact ⟨some c, _, run_endLoop ht.rec_ (by simp [recd]), hstop _ c pre _ (Nat.le_refl _) hs ((hIx c).putObj _ hi (by omega) ht.rec_ rfl) (ht.turn _).calls⟩
end Go.Proofs.Ytkgbjohadkbjaaa
