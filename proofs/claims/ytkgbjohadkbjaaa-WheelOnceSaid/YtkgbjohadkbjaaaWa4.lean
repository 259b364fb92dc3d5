/-
  Contracts and lemmas on which the proofs of this seat stand (several texts in one). Conditions are each theorem's own.
-/
import Derived.Test.YtkgbjohadkbjaaaWa3
import Derived.Deep.Cut
import Derived.Deep.CutRange
import Derived.Test.YtkgbjohadkbjaaaWa2

/-
  Contracts of the document's plain answers of layer 5: Size, Check. Conditions are each theorem's own.
-/
namespace Go.Proofs.Ytkgbjohadkbjaaa
open Go.RowKit

section
variable (q : P4) (A : Option Addr) (c : Nat) (A' : Option Addr) (c' : Nat) (w : World)
set_option maxHeartbeats 1000000 in
theorem r5size (ho : q.opt.length ≤ 1000000) (hd : q.dat.length ≤ 1000000) : Calls Try.prog 93 #[v4v q A c A' c'] w fun e w' => e = .returned (.int .i64 (size4 q)) ∧ Below w.heap.size w w' := by
  have hB : Below w.heap.size w (w.alloc (.cells (v4a q A c A' c') 48)) := (Below.refl w.heap.size w).alloc (Nat.le_refl _) _
  have hAt := At4.new (q := q) (A := A) (c := c) (A' := A') (c' := c') w
  have hz : (w.alloc (.cells (v4a q A c A' c') 48)).heap.size = w.heap.size + 1 := by simp
  have HZ := Lib.hid (show size4 q = head4 q + (q.dat.length : Int) from rfl)
  have hh : head4 q = 20 + (q.opt.length : Int) := rfl
  have hhb : 0 ≤ head4 q ∧ head4 q ≤ 1000020 := by omega
  clear hh
  have HW := Lib.hid (IntWalk.i64_in (head4 q + (q.dat.length : Int)) (by omega))
  unfold v4v
  rw [show #[Value.int .i64 q.tos, .int .i64 q.id, .int .i64 q.off, .int .i64 q.ttl, .int .i64 q.proto, .int .i64 q.src, .int .i64 q.dst, .bool q.df, .bool q.mf, .slice A q.opt.length c, .slice A' q.dat.length c'] = v4a q A c A' c' from rfl]
  go_enter Try.func93, Try.ntmps93
  go_wp2_with fail
  generalize w.alloc (.cells (v4a q A c A' c') 48) = W at *
  refine wp_region_held_drew (S := fun w' => Below W.heap.size W w') (by kernel_rfl) (Below.refl _ W).drew (fun hS => ?_)
  refine held_pure (i := 0) (oi := ⟨some 3, _, _, _, _, _⟩) rfl (by kernel_rfl) (by kernel_rfl) (by kernel_rfl) (fun _ _ _ h => h) (by rfl) (fun w hSw => run_load_v4 rfl rfl (hAt.below hSw (by omega)) rfl) hS (fun hS => ?_)
  try go_frame
  refine held_pure (i := 2) (oi := ⟨some 5, _, _, _, _, _⟩) rfl (by kernel_rfl) (by kernel_rfl) (by kernel_rfl) (fun _ _ _ h => h) (by rfl) (v := ?_) (fun w hSw => ?_) hS (fun hS => ?_)
  rotate_left
  · go_simp; try with_reducible rfl
  try go_frame
  refine held_pure (i := 3) (oi := ⟨some 6, _, _, _, _, _⟩) rfl (by kernel_rfl) (by kernel_rfl) (by kernel_rfl) (fun _ _ _ h => h) (by rfl) (fun w hSw => run_load_sl rfl rfl (hAt.below hSw (by omega)).dat) hS (fun hS => ?_)
  try go_frame
  refine held_pure (i := 4) (oi := ⟨some 7, _, _, _, _, _⟩) rfl (by kernel_rfl) (by kernel_rfl) (by kernel_rfl) (fun _ _ _ h => h) (by rfl) (v := ?_) (fun w hSw => ?_) hS (fun hS => ?_)
  rotate_left
  · go_simp; try with_reducible rfl
  try go_frame
  refine wpAnyH_ready (rs := [1]) (by kernel_rfl) (by simp) (AllReadyH.cons (o := ⟨some 4, _, _, _, _, _⟩) rfl (fun K hK => ?_) AllReadyH.nil)
  rw [if_pos (by rfl)]
  go_simp
  refine (r5head q A c A' c' _ ho).mono ?_
  rintro e w1 ⟨rfl, x1⟩
  show K _ _
  refine hK.out _ _ (below_step hS x1) (fun hS => ?_)
  clear hK K
  try go_frame
  refine held_pure (i := 5) (oi := ⟨some 8, _, _, _, _, _⟩) rfl (by kernel_rfl) (by kernel_rfl) (by kernel_rfl) (fun _ _ _ h => h) (by rfl) (v := ?_) (fun w hSw => ?_) hS (fun hS => ?_)
  rotate_left
  · go_simp; try with_reducible rfl
  try go_frame
  refine held_pure (i := 6) (oi := ⟨some 2, _, _, _, _, _⟩) rfl (by kernel_rfl) (by kernel_rfl) (by kernel_rfl) (fun _ _ _ h => h) (by rfl) (v := ?_) (fun w hSw => ?_) hS (fun hS => ?_)
  rotate_left
  · go_simp; try with_reducible rfl
  try go_frame
  refine wpAnyH_done (by kernel_rfl) ?_ _
  go_wp2_with fail
  go_ret
  exact ⟨ret_int (by rw [HZ.out]; exact HW.out), hB.trans (hS.mono (by omega))⟩
def fieldsB (q : P4) : Bool := fitsB q.tos 1 && fitsB q.ttl 1 && fitsB q.proto 1 && fitsB q.id 2
def placesB (q : P4) : Bool := okB q.src && okB q.dst && decide (0 ≤ q.off) && decide (q.off ≤ 65528) && decide (q.off % 8 = 0)
def optsB (q : P4) : Bool := decide (q.opt.length ≤ 40) && decide (q.opt.length % 4 = 0)
theorem arg4_iff (q : P4) : arg4 q ↔ fieldsB q = true ∧ placesB q = true ∧ optsB q = true ∧ (q.mf = true → q.dat.length % 8 = 0) := by
  unfold arg4 fieldsB placesB optsB
  simp only [Bool.and_eq_true, fitsB_iff, okB, decide_eq_true_eq, pw]
  constructor
  · rintro ⟨a1, a2, a3, a4, a5, a6, a7, a8, a9, a10, a11, a12, a13, a14, a15, a16, a17, a18⟩
    refine ⟨⟨⟨⟨?_, ?_⟩, ?_⟩, ?_⟩, ⟨⟨⟨⟨?_, ?_⟩, ?_⟩, ?_⟩, ?_⟩, ⟨?_, ?_⟩, a18⟩ <;> (try simp) <;> omega
  · rintro ⟨⟨⟨⟨f1, f2⟩, f3⟩, f4⟩, ⟨⟨⟨⟨p1, p2⟩, p3⟩, p4⟩, p5⟩, ⟨o1, o2⟩, hm⟩
    simp at f1 f2 f3 f4
    refine ⟨?_, ?_, ?_, ?_, ?_, ?_, ?_, ?_, ?_, ?_, ?_, ?_, ?_, ?_, ?_, ?_, ?_, hm⟩ <;> omega
set_option maxRecDepth 100000 in
set_option maxHeartbeats 4000000 in
theorem r5check (ho : q.opt.length ≤ 1000000) (hd : q.dat.length ≤ 1000000) : Calls Try.prog 91 #[v4v q A c A' c'] w fun e w' => e = .returned (.int .i64 (chk4 q)) ∧ Below w.heap.size w w' := by
  have hB : Below w.heap.size w (w.alloc (.cells (v4a q A c A' c') 48)) := (Below.refl w.heap.size w).alloc (Nat.le_refl _) _
  have hAt := At4.new (q := q) (A := A) (c := c) (A' := A') (c' := c') w
  have hz : (w.alloc (.cells (v4a q A c A' c') 48)).heap.size = w.heap.size + 1 := by simp
  have hg := World.alloc_heap_new w (.cells (v4a q A c A' c') 48)
  have h0 := hAt.tos; have h1 := hAt.id; have h2 := hAt.off; have h3 := hAt.ttl; have h4 := hAt.proto; have h5 := hAt.src; have h6 := hAt.dst; have h8 := hAt.mf; have h9 := hAt.opt; have h10 := hAt.dat
  unfold v4v
  rw [show #[Value.int .i64 q.tos, .int .i64 q.id, .int .i64 q.off, .int .i64 q.ttl, .int .i64 q.proto, .int .i64 q.src, .int .i64 q.dst, .bool q.df, .bool q.mf, .slice A q.opt.length c, .slice A' q.dat.length c'] = v4a q A c A' c' from rfl]
  go_enter Try.func91, Try.ntmps91
  go_upto_region 1 with fail
  generalize w.alloc (.cells (v4a q A c A' c') 48) = W at *
  obtain ⟨f0, hf0⟩ : ∃ b, b = fitsB q.tos 1 := ⟨_, rfl⟩
  obtain ⟨f1, hf1⟩ : ∃ b, b = fitsB q.ttl 1 := ⟨_, rfl⟩
  obtain ⟨f2, hf2⟩ : ∃ b, b = fitsB q.proto 1 := ⟨_, rfl⟩
  obtain ⟨f3, hf3⟩ : ∃ b, b = fitsB q.id 2 := ⟨_, rfl⟩
  have HF := Lib.hid (show fieldsB q = (f0 && f1 && f2 && f3) from by rw [fieldsB, hf0, hf1, hf2, hf3])
  have H0 := Lib.hid hf0; have H1 := Lib.hid hf1; have H2 := Lib.hid hf2; have H3 := Lib.hid hf3
  clear hf0 hf1 hf2 hf3
  go_cut [3] from 6 (fun s w' => s = .bool (f0 && f1 && f2 && f3) ∧ w' = W)
  case first =>
    cases f0 <;> cases f1 <;> cases f2 <;> cases f3 <;> (
      go_wp2_with (go_at_call 82; refine (rfits_any _ _ _).mono ?_; rintro e w' ⟨rfl, rfl⟩; (first | rw [← H0.out] | rw [← H1.out] | rw [← H2.out] | rw [← H3.out]))
      go_meet
      exact ⟨rfl, rfl⟩)
  case rest =>
    obtain ⟨hs3, hwc⟩ := hcut
    subst hs3; subst hwc
    go_upto_region 2 with fail
    obtain ⟨g0, hg0⟩ : ∃ b, b = okB q.src := ⟨_, rfl⟩
    obtain ⟨g1, hg1⟩ : ∃ b, b = okB q.dst := ⟨_, rfl⟩
    have HG := Lib.hid (show placesB q = (g0 && g1 && decide (0 ≤ q.off) && decide (q.off ≤ 65528) && decide (q.off % 8 = 0)) from by rw [placesB, hg0, hg1])
    have G0 := Lib.hid hg0; have G1 := Lib.hid hg1
    clear hg0 hg1
    go_cut [4] from 24 (fun s w' => s = .bool (g0 && g1 && decide (0 ≤ q.off) && decide (q.off ≤ 65528) && decide (q.off % 8 = 0)) ∧ w' = wc)
    case first =>
      by_cases p0 : 0 ≤ q.off
      · have p0' : decide (0 ≤ q.off) = true := by simpa using p0
        have ptm : Int.tmod q.off 8 = q.off % 8 := Int.tmod_eq_emod_of_nonneg p0
        by_cases p1 : q.off ≤ 65528
        · have p1' : decide (q.off ≤ 65528) = true := by simpa using p1
          by_cases p2 : q.off % 8 = 0
          · have p2' : (q.off % 8 == 0) = true := by simpa using p2
            have E := Lib.hid (show decide (q.off % 8 = 0) = true by simpa using p2)
            have E1 := Lib.hid p0'; have E2 := Lib.hid p1'
            clear p2
            cases g0 <;> cases g1 <;> (
              go_wp2_with (go_at_call 81; refine (r3right_any _ _).mono ?_; rintro e w' ⟨rfl, rfl⟩; (first | rw [← G0.out] | rw [← G1.out]))
              go_meet
              exact ⟨by simp [E.out, E1.out, E2.out], rfl⟩)
          · have p2' : (q.off % 8 == 0) = false := by simpa using p2
            have E := Lib.hid (show decide (q.off % 8 = 0) = false by simpa using p2)
            have E1 := Lib.hid p0'; have E2 := Lib.hid p1'
            clear p2
            cases g0 <;> cases g1 <;> (
              go_wp2_with (go_at_call 81; refine (r3right_any _ _).mono ?_; rintro e w' ⟨rfl, rfl⟩; (first | rw [← G0.out] | rw [← G1.out]))
              go_meet
              exact ⟨by simp [E.out, E1.out, E2.out], rfl⟩)
        · have p1' : decide (q.off ≤ 65528) = false := by simpa using p1
          have E1 := Lib.hid p0'; have E2 := Lib.hid p1'
          cases g0 <;> cases g1 <;> (
            go_wp2_with (go_at_call 81; refine (r3right_any _ _).mono ?_; rintro e w' ⟨rfl, rfl⟩; (first | rw [← G0.out] | rw [← G1.out]))
            go_meet
            exact ⟨by simp [E1.out, E2.out], rfl⟩)
      · have p0' : decide (0 ≤ q.off) = false := by simpa using p0
        have E1 := Lib.hid p0'
        cases g0 <;> cases g1 <;> (
          go_wp2_with (go_at_call 81; refine (r3right_any _ _).mono ?_; rintro e w' ⟨rfl, rfl⟩; (first | rw [← G0.out] | rw [← G1.out]))
          go_meet
          exact ⟨by simp [E1.out], rfl⟩)
    case rest =>
      obtain ⟨hs4, hwc⟩ := hcut
      subst hs4; subst hwc
      rw [← HF.out, ← HG.out]
      clear HF HG H0 H1 H2 H3 G0 G1
      go_upto_region 3 with fail
      have tm4 : Int.tmod (q.opt.length : Int) 4 = (q.opt.length : Int) % 4 := Int.tmod_eq_emod_of_nonneg (by omega)
      have tm8 : Int.tmod (q.dat.length : Int) 8 = (q.dat.length : Int) % 8 := Int.tmod_eq_emod_of_nonneg (by omega)
      have HA := Lib.hid (arg4_iff q)
      have HC : Hid (chk4 q = if arg4 q then (if size4 q > 65535 ∨ q.off > 65535 - (q.dat.length : Int) then 6 else 0) else 1) := Lib.hid rfl
      have HP := Lib.hid (show placesB q = true → 0 ≤ q.off ∧ q.off ≤ 65528 from fun h => by simp [placesB] at h; omega)
      obtain ⟨F, hF⟩ : ∃ b, b = fieldsB q := ⟨_, rfl⟩
      obtain ⟨G, hG⟩ : ∃ b, b = placesB q := ⟨_, rfl⟩
      obtain ⟨O, hO⟩ : ∃ b, b = optsB q := ⟨_, rfl⟩
      have HO := Lib.hid (show O = (decide (q.opt.length ≤ 40) && decide (q.opt.length % 4 = 0)) from hO)
      rw [← hF, ← hG] 
      rw [← hF, ← hG, ← hO] at HA
      rw [← hG] at HP
      clear hF hG hO
      go_cut [5] from 48 (fun s w' => s = .bool O ∧ w' = wc)
      case first =>
        by_cases o1 : q.opt.length ≤ 40
        · by_cases o2 : q.opt.length % 4 = 0
          · have o2' : (((q.opt.length : Int) % 4) == 0) = true := by simp; omega
            have E := Lib.hid (show O = true by rw [HO.out]; simp [o1, o2])
            clear o2 HA HP
            go_wp2_with fail
            go_meet
            exact ⟨by rw [E.out], rfl⟩
          · have o2' : (((q.opt.length : Int) % 4) == 0) = false := by rw [beq_eq_false_iff_ne]; omega
            have E := Lib.hid (show O = false by rw [HO.out]; simp [o1, o2])
            clear o2 HA HP
            go_wp2_with fail
            go_meet
            exact ⟨by rw [E.out], rfl⟩
        · have o1' : decide ((q.opt.length : Int) ≤ 40) = false := by simp; omega
          have E := Lib.hid (show O = false by rw [HO.out]; simp [o1])
          clear o1 HA HP
          go_wp2_with fail
          go_meet
          exact ⟨by rw [E.out], rfl⟩
      case rest =>
        obtain ⟨hs5, hwc⟩ := hcut
        subst hs5; subst hwc
        have HQ : ∀ b : Bool, q.mf = b → Hid (q.mf = b) := fun b h => Lib.hid h
        by_cases hA : arg4 q
        · obtain ⟨rfl, rfl, rfl, hm⟩ := HA.out.1 hA
          have hp := HP.out rfl
          have hA' := hA
          have hsz0 : 0 ≤ size4 q ∧ size4 q ≤ 2000020 := by unfold size4 head4; omega
          clear hA HA HP
          cases hmf : q.mf
          · rw [hmf] at h8
            clear hmf HQ hm
            by_cases s1 : 65535 < size4 q
            · have HR : Hid (chk4 q = 6) := Lib.hid (by rw [HC.out, if_pos hA', if_pos (.inl s1)])
              clear HC hA'
              go_wp2_with (first
                | ((with_reducible show wpList _ _ _ (Oper.mk _ (Op.load _ _) _ _ _ _ :: _) _ _); refine v4_load (g := w.heap.size) rfl hg rfl ?_)
                | (go_at_call 93; refine (r5size q A c A' c' _ ho hd).mono ?_; rintro e ws ⟨rfl, bS⟩; have h2 := (bS.cell (p := ⟨w.heap.size, 2, none⟩) (by show w.heap.size < _; omega)).trans h2; have h10 := (bS.cell (p := ⟨w.heap.size, 10, none⟩) (by show w.heap.size < _; omega)).trans h10))
              go_ret
              exact ⟨ret_int HR.out.symm, hB.trans (bS.mono hB.size)⟩
            · by_cases s2 : 65535 - (q.dat.length : Int) < q.off
              · have HR : Hid (chk4 q = 6) := Lib.hid (by rw [HC.out, if_pos hA', if_pos (.inr s2)])
                clear HC hA'
                go_wp2_with (first
                | ((with_reducible show wpList _ _ _ (Oper.mk _ (Op.load _ _) _ _ _ _ :: _) _ _); refine v4_load (g := w.heap.size) rfl hg rfl ?_)
                | (go_at_call 93; refine (r5size q A c A' c' _ ho hd).mono ?_; rintro e ws ⟨rfl, bS⟩; have h2 := (bS.cell (p := ⟨w.heap.size, 2, none⟩) (by show w.heap.size < _; omega)).trans h2; have h10 := (bS.cell (p := ⟨w.heap.size, 10, none⟩) (by show w.heap.size < _; omega)).trans h10))
                go_ret
                exact ⟨ret_int HR.out.symm, hB.trans (bS.mono hB.size)⟩
              · have HR : Hid (chk4 q = 0) := Lib.hid (by rw [HC.out, if_pos hA', if_neg (by omega)])
                clear HC hA'
                go_wp2_with (first
                | ((with_reducible show wpList _ _ _ (Oper.mk _ (Op.load _ _) _ _ _ _ :: _) _ _); refine v4_load (g := w.heap.size) rfl hg rfl ?_)
                | (go_at_call 93; refine (r5size q A c A' c' _ ho hd).mono ?_; rintro e ws ⟨rfl, bS⟩; have h2 := (bS.cell (p := ⟨w.heap.size, 2, none⟩) (by show w.heap.size < _; omega)).trans h2; have h10 := (bS.cell (p := ⟨w.heap.size, 10, none⟩) (by show w.heap.size < _; omega)).trans h10))
                go_ret
                exact ⟨ret_int HR.out.symm, hB.trans (bS.mono hB.size)⟩
          · have h8l := hm hmf
            have h8' : (((q.dat.length : Int) % 8) != 0) = false := by simp; omega
            rw [hmf] at h8
            clear hmf HQ hm h8l
            by_cases s1 : 65535 < size4 q
            · have HR : Hid (chk4 q = 6) := Lib.hid (by rw [HC.out, if_pos hA', if_pos (.inl s1)])
              clear HC hA'
              go_wp2_with (first
                | ((with_reducible show wpList _ _ _ (Oper.mk _ (Op.load _ _) _ _ _ _ :: _) _ _); refine v4_load (g := w.heap.size) rfl hg rfl ?_)
                | (go_at_call 93; refine (r5size q A c A' c' _ ho hd).mono ?_; rintro e ws ⟨rfl, bS⟩; have h2 := (bS.cell (p := ⟨w.heap.size, 2, none⟩) (by show w.heap.size < _; omega)).trans h2; have h10 := (bS.cell (p := ⟨w.heap.size, 10, none⟩) (by show w.heap.size < _; omega)).trans h10))
              go_ret
              exact ⟨ret_int HR.out.symm, hB.trans (bS.mono hB.size)⟩
            · by_cases s2 : 65535 - (q.dat.length : Int) < q.off
              · have HR : Hid (chk4 q = 6) := Lib.hid (by rw [HC.out, if_pos hA', if_pos (.inr s2)])
                clear HC hA'
                go_wp2_with (first
                | ((with_reducible show wpList _ _ _ (Oper.mk _ (Op.load _ _) _ _ _ _ :: _) _ _); refine v4_load (g := w.heap.size) rfl hg rfl ?_)
                | (go_at_call 93; refine (r5size q A c A' c' _ ho hd).mono ?_; rintro e ws ⟨rfl, bS⟩; have h2 := (bS.cell (p := ⟨w.heap.size, 2, none⟩) (by show w.heap.size < _; omega)).trans h2; have h10 := (bS.cell (p := ⟨w.heap.size, 10, none⟩) (by show w.heap.size < _; omega)).trans h10))
                go_ret
                exact ⟨ret_int HR.out.symm, hB.trans (bS.mono hB.size)⟩
              · have HR : Hid (chk4 q = 0) := Lib.hid (by rw [HC.out, if_pos hA', if_neg (by omega)])
                clear HC hA'
                go_wp2_with (first
                | ((with_reducible show wpList _ _ _ (Oper.mk _ (Op.load _ _) _ _ _ _ :: _) _ _); refine v4_load (g := w.heap.size) rfl hg rfl ?_)
                | (go_at_call 93; refine (r5size q A c A' c' _ ho hd).mono ?_; rintro e ws ⟨rfl, bS⟩; have h2 := (bS.cell (p := ⟨w.heap.size, 2, none⟩) (by show w.heap.size < _; omega)).trans h2; have h10 := (bS.cell (p := ⟨w.heap.size, 10, none⟩) (by show w.heap.size < _; omega)).trans h10))
                go_ret
                exact ⟨ret_int HR.out.symm, hB.trans (bS.mono hB.size)⟩
        · have HR : Hid (chk4 q = 1) := Lib.hid (by rw [HC.out, if_neg hA])
          have hno : ¬ (F = true ∧ G = true ∧ O = true ∧ (q.mf = true → q.dat.length % 8 = 0)) := fun h => hA (HA.out.2 h)
          clear hA HA HC HP
          cases hmf : q.mf
          · rw [hmf] at h8 hno
            clear hmf HQ
            have hno' : ¬ (F = true ∧ G = true ∧ O = true) := fun h => hno ⟨h.1, h.2.1, h.2.2, fun e => by cases e⟩
            clear hno
            cases F <;> cases G <;> cases O <;> first
              | exact absurd ⟨rfl, rfl, rfl⟩ hno'
              | (clear hno'
                 go_wp2_with fail
                 go_ret
                 exact ⟨ret_int HR.out.symm, hB⟩)
          · rw [hmf] at h8 hno
            clear hmf HQ
            by_cases h8l : q.dat.length % 8 = 0
            · have h8' : (((q.dat.length : Int) % 8) != 0) = false := by simp; omega
              have hno' : ¬ (F = true ∧ G = true ∧ O = true) := fun h => hno ⟨h.1, h.2.1, h.2.2, fun _ => h8l⟩
              clear hno h8l
              cases F <;> cases G <;> cases O <;> first
                | exact absurd ⟨rfl, rfl, rfl⟩ hno'
                | (clear hno'
                   go_wp2_with fail
                   go_ret
                   exact ⟨ret_int HR.out.symm, hB⟩)
            · have h8' : (((q.dat.length : Int) % 8) != 0) = true := by simp; omega
              clear hno h8l
              cases F <;> cases G <;> cases O <;> (
                   go_wp2_with fail
                   go_ret
                   exact ⟨ret_int HR.out.symm, hB⟩)
end
end Go.Proofs.Ytkgbjohadkbjaaa

/-
  Contracts of the document's plain answers of layer 5: Same, num. Conditions are each theorem's own.
-/
namespace Go.Proofs.Ytkgbjohadkbjaaa
open Go.RowKit

theorem r5num (A : Option Addr) (bs : List UInt8) (c B : Nat) (at_ s : Int) (w : World) (h : Rd w B A bs) (hl : bs.length ≤ 1099511627776) :
    Calls Try.prog 94 #[.slice A bs.length c, .int .i64 at_, .int .i64 s] w fun e w' => e = .returned (.int .i64 (getV bs at_ s)) ∧ w = w' := by
  go_enter Try.func94, Try.ntmps94
  go_wp2_with (go_at_call 64; refine (rget_any A bs c B at_ s _ h hl).mono ?_; rintro e w' ⟨rfl, rfl⟩)
  go_ret
  exact ⟨rfl, rfl⟩

/-- Are two packets the same? A plain definition. -/
def same4 (q r : P4) : Bool := (q.tos == r.tos && q.id == r.id && q.off == r.off && q.ttl == r.ttl && q.proto == r.proto && q.src == r.src && q.dst == r.dst) && (q.df == r.df) && (q.mf == r.mf) && decide (q.opt = r.opt) && decide (q.dat = r.dat)
theorem same4_iff {q r : P4} : same4 q r = true ↔ q = r := by
  obtain ⟨a0, a1, a2, a3, a4, a5, a6, a7, a8, a9, a10⟩ := q
  obtain ⟨b0, b1, b2, b3, b4, b5, b6, b7, b8, b9, b10⟩ := r
  simp only [same4, Bool.and_eq_true, beq_iff_eq, decide_eq_true_eq, P4.mk.injEq]
  constructor
  · rintro ⟨⟨⟨⟨⟨⟨⟨⟨⟨⟨h0, h1⟩, h2⟩, h3⟩, h4⟩, h5⟩, h6⟩, h7⟩, h8⟩, h9⟩, h10⟩; exact ⟨h0, h1, h2, h3, h4, h5, h6, h7, h8, h9, h10⟩
  · rintro ⟨h0, h1, h2, h3, h4, h5, h6, h7, h8, h9, h10⟩; exact ⟨⟨⟨⟨⟨⟨⟨⟨⟨⟨h0, h1⟩, h2⟩, h3⟩, h4⟩, h5⟩, h6⟩, h7⟩, h8⟩, h9⟩, h10⟩
set_option maxRecDepth 100000 in
set_option maxHeartbeats 4000000 in
theorem r5same (q r : P4) (A : Option Addr) (c : Nat) (A' : Option Addr) (c' : Nat) (X : Option Addr) (d : Nat) (X' : Option Addr) (d' B : Nat) (w : World) (hB : B ≤ w.heap.size)
    (hA : Rd w B A q.opt) (hA' : Rd w B A' q.dat) (hX : Rd w B X r.opt) (hX' : Rd w B X' r.dat) :
    Calls Try.prog 30 #[v4v q A c A' c', v4v r X d X' d'] w fun e w' => e = .returned (.bool (same4 q r)) ∧ Below w.heap.size w w' := by
  have hBl : ∀ o1 o2, Below w.heap.size w ((w.alloc o1).alloc o2) := fun o1 o2 => ((Below.refl w.heap.size w).alloc (Nat.le_refl _) o1).alloc (by simp) o2
  have at1 : At4 ((w.alloc (.cells (v4a q A c A' c') 48)).alloc (.cells (v4a r X d X' d') 48)) w.heap.size q A c A' c' := (At4.new w).below ((Below.refl (w.heap.size + 1) _).alloc (by simp) _) (by omega)
  have at2 : At4 ((w.alloc (.cells (v4a q A c A' c') 48)).alloc (.cells (v4a r X d X' d') 48)) (w.heap.size + 1) r X d X' d' := by
    have := At4.new (q := r) (A := X) (c := d) (A' := X') (c' := d') (w.alloc (.cells (v4a q A c A' c') 48))
    rwa [show (w.alloc (.cells (v4a q A c A' c') 48)).heap.size = w.heap.size + 1 from by simp] at this
  have keep : ∀ {Y : Option Addr} {bs : List UInt8}, Rd w B Y bs → Rd ((w.alloc (.cells (v4a q A c A' c') 48)).alloc (.cells (v4a r X d X' d') 48)) B Y bs := fun h => h.below ((hBl _ _).mono hB)
  obtain ⟨W, hW⟩ : ∃ W, W = (w.alloc (.cells (v4a q A c A' c') 48)).alloc (.cells (v4a r X d X' d') 48) := ⟨_, rfl⟩
  have HB2 : Below w.heap.size w W := by rw [hW]; exact hBl _ _
  rw [← hW] at at1 at2
  have c1 := conv_any A q.opt c B W (by rw [hW]; exact keep hA)
  have c2 := conv_any A' q.dat c' B W (by rw [hW]; exact keep hA')
  have c3 := conv_any X r.opt d B W (by rw [hW]; exact keep hX)
  have c4 := conv_any X' r.dat d' B W (by rw [hW]; exact keep hX')
  have x0 := at1.tos; have x1 := at1.id; have x2 := at1.off; have x3 := at1.ttl; have x4 := at1.proto; have x5 := at1.src; have x6 := at1.dst; have x7 := at1.df; have x8 := at1.mf; have x9 := at1.opt; have x10 := at1.dat
  have y0 := at2.tos; have y1 := at2.id; have y2 := at2.off; have y3 := at2.ttl; have y4 := at2.proto; have y5 := at2.src; have y6 := at2.dst; have y7 := at2.df; have y8 := at2.mf; have y9 := at2.opt; have y10 := at2.dat
  have HS := Lib.hid (show same4 q r = ((q.tos == r.tos && q.id == r.id && q.off == r.off && q.ttl == r.ttl && q.proto == r.proto && q.src == r.src && q.dst == r.dst) && (q.df == r.df) && (q.mf == r.mf) && decide (q.opt = r.opt) && decide (q.dat = r.dat)) from rfl)
  clear at1 at2 keep hA hA' hX hX' hBl
  have HWW := Lib.hid hW
  unfold v4v
  rw [show #[Value.int .i64 q.tos, .int .i64 q.id, .int .i64 q.off, .int .i64 q.ttl, .int .i64 q.proto, .int .i64 q.src, .int .i64 q.dst, .bool q.df, .bool q.mf, .slice A q.opt.length c, .slice A' q.dat.length c'] = v4a q A c A' c' from rfl,
    show #[Value.int .i64 r.tos, .int .i64 r.id, .int .i64 r.off, .int .i64 r.ttl, .int .i64 r.proto, .int .i64 r.src, .int .i64 r.dst, .bool r.df, .bool r.mf, .slice X r.opt.length d, .slice X' r.dat.length d'] = v4a r X d X' d' from rfl]
  clear hW
  go_enter Try.func30, Try.ntmps30
  go_upto_region 1 with fail
  rw [← HWW.out]
  go_cut [5] from 6 (fun s w' => s = .bool (q.tos == r.tos && q.id == r.id && q.off == r.off && q.ttl == r.ttl && q.proto == r.proto && q.src == r.src && q.dst == r.dst) ∧ w' = W)
  case first =>
    cases e0 : (q.tos == r.tos)
    · go_wp2_with fail
      go_meet
      exact ⟨by rw [e0]; rfl, rfl⟩
    · skip
      cases e1 : (q.id == r.id)
      · go_wp2_with fail
        go_meet
        exact ⟨by rw [e0, e1]; rfl, rfl⟩
      · skip
        cases e2 : (q.off == r.off)
        · go_wp2_with fail
          go_meet
          exact ⟨by rw [e0, e1, e2]; rfl, rfl⟩
        · skip
          cases e3 : (q.ttl == r.ttl)
          · go_wp2_with fail
            go_meet
            exact ⟨by rw [e0, e1, e2, e3]; rfl, rfl⟩
          · skip
            cases e4 : (q.proto == r.proto)
            · go_wp2_with fail
              go_meet
              exact ⟨by rw [e0, e1, e2, e3, e4]; rfl, rfl⟩
            · skip
              cases e5 : (q.src == r.src)
              · go_wp2_with fail
                go_meet
                exact ⟨by rw [e0, e1, e2, e3, e4, e5]; rfl, rfl⟩
              · skip
                cases e6 : (q.dst == r.dst)
                · go_wp2_with fail
                  go_meet
                  exact ⟨by rw [e0, e1, e2, e3, e4, e5, e6]; rfl, rfl⟩
                · go_wp2_with fail
                  go_meet
                  exact ⟨by rw [e0, e1, e2, e3, e4, e5, e6]; rfl, rfl⟩
  case rest =>
    obtain ⟨hs5, hwc⟩ := hcut
    subst hs5
    rw [hwc]
    clear hwc x0 x1 x2 x3 x4 x5 x6 y0 y1 y2 y3 y4 y5 y6
    obtain ⟨K, hK⟩ : ∃ b, b = (q.tos == r.tos && q.id == r.id && q.off == r.off && q.ttl == r.ttl && q.proto == r.proto && q.src == r.src && q.dst == r.dst) := ⟨_, rfl⟩
    rw [← hK] at HS ⊢
    clear hK
    have q1 := strB_eq q.opt r.opt
    have q2 := strB_eq q.dat r.dat
    cases K
    · clear q1 q2
      go_wp2_with fail
      go_ret
      exact ⟨ret_bool (by rw [HS.out]; rfl), HB2⟩
    · cases e7 : (q.df == r.df)
      · clear q1 q2
        go_wp2_with fail
        go_ret
        exact ⟨ret_bool (by rw [HS.out, e7]; rfl), HB2⟩
      · cases e8 : (q.mf == r.mf)
        · clear q1 q2
          go_wp2_with fail
          go_ret
          exact ⟨ret_bool (by rw [HS.out, e7, e8]; rfl), HB2⟩
        · cases e9 : decide (q.opt = r.opt)
          · rw [e9] at q1
            go_wp2_with fail
            go_ret
            exact ⟨ret_bool (by rw [HS.out, e7, e8, e9]; rfl), HB2⟩
          · rw [e9] at q1
            cases e10 : decide (q.dat = r.dat)
            · rw [e10] at q2
              go_wp2_with fail
              go_ret
              exact ⟨ret_bool (by rw [HS.out, e7, e8, e9, e10]; rfl), HB2⟩
            · rw [e10] at q2
              go_wp2_with fail
              go_ret
              exact ⟨ret_bool (by rw [HS.out, e7, e8, e9, e10]; rfl), HB2⟩
end Go.Proofs.Ytkgbjohadkbjaaa

/-
  Packets of IPv4, there and back: what is built is parsed, what is parsed is built. Plain lists of bytes, no program. Conditions are each theorem's own.
-/
namespace Go.Proofs.Ytkgbjohadkbjaaa
open Go.RowKit

theorem chk4_ok {q : P4} (h : chk4 q = 0) : arg4 q ∧ size4 q ≤ 65535 ∧ q.off + (q.dat.length : Int) ≤ 65535 := by
  unfold chk4 at h
  split at h
  · rename_i ha
    split at h
    · cases h
    · exact ⟨ha, by omega, by omega⟩
  · cases h
/-- The head's twenty bytes. -/
def l20 (q : P4) : List UInt8 := hda q (size4 q) ++ be2 (sum4 q) ++ [u8 (q.src / 16777216), u8 (q.src / 65536), u8 (q.src / 256), u8 q.src, u8 (q.dst / 16777216), u8 (q.dst / 65536), u8 (q.dst / 256), u8 q.dst]
theorem bld4_l20 (q : P4) (more : List UInt8) : bld4 q ++ more = l20 q ++ (q.opt ++ (q.dat ++ more)) := by
  simp [bld4, hd4, l20, hdb, List.append_assoc]
theorem hd4_l20 (q : P4) : hd4 q (size4 q) (sum4 q) = l20 q ++ q.opt := by simp [hd4, l20, hdb, List.append_assoc]
theorem l20_len (q : P4) : (l20 q).length = 20 := by simp [l20, hda, be2]
section
variable {q : P4} {more : List UInt8}
theorem byt_b (i : Nat) (hi : i < 20) : byt (bld4 q ++ more) i = byt (l20 q) i := by
  rw [bld4_l20]; exact byt_left (by rw [l20_len]; exact hi)
theorem back_fields (h : chk4 q = 0) :
    hlen (bld4 q ++ more) = head4 q ∧ byt (bld4 q ++ more) 0 / 16 = 4 ∧ n2 (bld4 q ++ more) 2 = size4 q ∧ n2 (bld4 q ++ more) 6 = flags4 q ∧ n2 (bld4 q ++ more) 4 = q.id ∧ byt (bld4 q ++ more) 1 = q.tos ∧ byt (bld4 q ++ more) 8 = q.ttl ∧
      byt (bld4 q ++ more) 9 = q.proto ∧ n4 (bld4 q ++ more) 12 = q.src ∧ n4 (bld4 q ++ more) 16 = q.dst := by
  obtain ⟨⟨a1, a2, a3, a4, a5, a6, a7, a8, a9, a10, a11, a12, a13, a14, a15, a16, a17, a18⟩, hs, ho⟩ := chk4_ok h
  have hh : head4 q = 20 + (q.opt.length : Int) := rfl
  have hz : size4 q = head4 q + (q.dat.length : Int) := rfl
  have hf : 0 ≤ flags4 q ∧ flags4 q < 32768 := by unfold flags4 bit; split <;> split <;> omega
  have b : ∀ i, i < 20 → byt (bld4 q ++ more) i = byt (l20 q) i := fun i hi => byt_b i hi
  have c0 : byt (l20 q) 0 = (64 + head4 q / 4) % 256 := u8_val _
  have c1 : byt (l20 q) 1 = q.tos % 256 := u8_val _
  have c2 : byt (l20 q) 2 = size4 q / 256 % 256 := u8_val _
  have c3 : byt (l20 q) 3 = size4 q % 256 := u8_val _
  have c4 : byt (l20 q) 4 = q.id / 256 % 256 := u8_val _
  have c5 : byt (l20 q) 5 = q.id % 256 := u8_val _
  have c6 : byt (l20 q) 6 = flags4 q / 256 % 256 := u8_val _
  have c7 : byt (l20 q) 7 = flags4 q % 256 := u8_val _
  have c8 : byt (l20 q) 8 = q.ttl % 256 := u8_val _
  have c9 : byt (l20 q) 9 = q.proto % 256 := u8_val _
  have c12 : byt (l20 q) 12 = q.src / 16777216 % 256 := u8_val _
  have c13 : byt (l20 q) 13 = q.src / 65536 % 256 := u8_val _
  have c14 : byt (l20 q) 14 = q.src / 256 % 256 := u8_val _
  have c15 : byt (l20 q) 15 = q.src % 256 := u8_val _
  have c16 : byt (l20 q) 16 = q.dst / 16777216 % 256 := u8_val _
  have c17 : byt (l20 q) 17 = q.dst / 65536 % 256 := u8_val _
  have c18 : byt (l20 q) 18 = q.dst / 256 % 256 := u8_val _
  have c19 : byt (l20 q) 19 = q.dst % 256 := u8_val _
  unfold hlen n2 n4
  rw [b 0 (by omega), b 1 (by omega), b 2 (by omega), b 3 (by omega), b 4 (by omega), b 5 (by omega), b 6 (by omega), b 7 (by omega), b 8 (by omega), b 9 (by omega), b 12 (by omega), b 13 (by omega), b 14 (by omega), b 15 (by omega),
    b 16 (by omega), b 17 (by omega), b 18 (by omega), b 19 (by omega), c0, c1, c2, c3, c4, c5, c6, c7, c8, c9, c12, c13, c14, c15, c16, c17, c18, c19]
  clear b c0 c1 c2 c3 c4 c5 c6 c7 c8 c9 c12 c13 c14 c15 c16 c17 c18 c19 h
  have h4 : head4 q % 4 = 0 := by omega
  refine ⟨by omega, by omega, by omega, by omega, by omega, by omega, by omega, by omega, by omega, by omega⟩
theorem back_take (n : Nat) (hn : n = 20 + q.opt.length) : (bld4 q ++ more).take n = hd4 q (size4 q) (sum4 q) := by
  rw [bld4, List.append_assoc, List.take_left' (by rw [hd4_len, hn])]
theorem back_raw (h : chk4 q = 0) : raw4 (bld4 q ++ more) = q := by
  obtain ⟨f0, f1, f2, f3, f4, f5, f6, f7, f8, f9⟩ := back_fields (more := more) h
  obtain ⟨⟨a1, a2, a3, a4, a5, a6, a7, a8, a9, a10, a11, a12, a13, a14, a15, a16, a17, a18⟩, hs, ho⟩ := chk4_ok h
  have hh : head4 q = 20 + (q.opt.length : Int) := rfl
  have hz : size4 q = head4 q + (q.dat.length : Int) := rfl
  have hl : (bld4 q ++ more).length = 20 + q.opt.length + q.dat.length + more.length := by rw [List.length_append, bld4_len]
  have d1 : (head4 q).toNat = 20 + q.opt.length := by omega
  have d2 : (min (size4 q) ((bld4 q ++ more).length : Int)).toNat = 20 + q.opt.length + q.dat.length := by rw [hl]; omega
  have e1 : (bld4 q ++ more).take (20 + q.opt.length + q.dat.length) = bld4 q := List.take_left' (by rw [bld4_len])
  have e2 : (bld4 q).drop (20 + q.opt.length) = q.dat := by rw [bld4, List.drop_left' (by rw [hd4_len])]
  have e3 : (hd4 q (size4 q) (sum4 q)).drop 20 = q.opt := by rw [hd4_l20, List.drop_left' (l20_len q)]
  have g1 : flags4 q % 8192 * 8 = q.off := by unfold flags4 bit; split <;> split <;> omega
  have g2 : decide (flags4 q / 16384 % 2 = 1) = q.df := by
    rw [Bool.eq_iff_iff, decide_eq_true_iff]; unfold flags4 bit
    cases q.df <;> cases q.mf <;> simp <;> omega
  have g3 : decide (flags4 q / 8192 % 2 = 1) = q.mf := by
    rw [Bool.eq_iff_iff, decide_eq_true_iff]; unfold flags4 bit
    cases q.df <;> cases q.mf <;> simp <;> omega
  unfold raw4 fl4
  rw [f0, f2, f3, f4, f5, f6, f7, f8, f9, d1, d2, e1, e2, back_take _ rfl, e3, g1, g2, g3]
theorem back_ok (h : chk4 q = 0) : prsE (bld4 q ++ more) false = 0 ∧ prsV (bld4 q ++ more) false = q := by
  have hraw := back_raw (more := more) h
  obtain ⟨f0, f1, f2, f3, f4, f5, f6, f7, f8, f9⟩ := back_fields (more := more) h
  obtain ⟨⟨a1, a2, a3, a4, a5, a6, a7, a8, a9, a10, a11, a12, a13, a14, a15, a16, a17, a18⟩, hs, ho⟩ := chk4_ok h
  have hh : head4 q = 20 + (q.opt.length : Int) := rfl
  have hz : size4 q = head4 q + (q.dat.length : Int) := rfl
  have hl : (bld4 q ++ more).length = 20 + q.opt.length + q.dat.length + more.length := by rw [List.length_append, bld4_len]
  have hf : flags4 q < 32768 := by unfold flags4 bit; split <;> split <;> omega
  have hb : bad4 (bld4 q ++ more) false = 0 := by
    unfold bad4
    rw [if_neg (by omega), f0, f1, f2, f3, if_neg (by omega), if_neg (by rw [hl]; omega), if_neg (by omega), if_neg ?_]
    rw [show (head4 q).toNat = 20 + q.opt.length from by omega, back_take _ rfl, head_right]; simp
  have he : prsE (bld4 q ++ more) false = 0 := by
    unfold prsE
    rw [if_pos hb, hraw, if_neg (by rw [h]; simp)]
  exact ⟨he, by rw [prsV, if_pos he, hraw]⟩
end

theorem ub {b : List UInt8} {i : Nat} (h : i < b.length) : u8 (byt b i) = b[i] := by
  apply UInt8.toNat_inj.1
  have h1 := u8_val (byt b i)
  have h2 := byt_lo b i
  have h3 := byt_hi b i
  have h4 : byt b i = (b[i].toNat : Int) := by simp [byt, h]
  omega
theorem u8_eq {b : List UInt8} {i : Nat} {n : Int} (h : i < b.length) (e : n % 256 = byt b i) : u8 n = b[i] := by
  rw [← ub h]
  apply UInt8.toNat_inj.1
  have h1 := u8_val (byt b i)
  have h2 := u8_val n
  have h3 := byt_lo b i
  have h4 := byt_hi b i
  omega
theorem drop_eight {l : List UInt8} (h : 20 ≤ l.length) : l.drop 12 = [l[12], l[13], l[14], l[15], l[16], l[17], l[18], l[19]] ++ l.drop 20 := by
  rw [List.drop_eq_getElem_cons (show 12 < l.length by omega), List.drop_eq_getElem_cons (show 13 < l.length by omega), List.drop_eq_getElem_cons (show 14 < l.length by omega), List.drop_eq_getElem_cons (show 15 < l.length by omega),
    List.drop_eq_getElem_cons (show 16 < l.length by omega), List.drop_eq_getElem_cons (show 17 < l.length by omega), List.drop_eq_getElem_cons (show 18 < l.length by omega), List.drop_eq_getElem_cons (show 19 < l.length by omega)]
  rfl
theorem take_ten {l : List UInt8} (h : 10 ≤ l.length) : l.take 10 = [l[0], l[1], l[2], l[3], l[4], l[5], l[6], l[7], l[8], l[9]] := by
  match l, h with
  | a :: b :: c :: d :: e :: f :: g :: i :: j :: k :: r, _ => rfl
/-- What is parsed may be, and its bytes are the bytes, but for the sum. -/
theorem again4 {b : List UInt8} (h : prsE b false = 0) : prsV b false = raw4 b ∧ chk4 (raw4 b) = 0 ∧ (bld4 (raw4 b)).length = (n2 b 2).toNat ∧ (n2 b 2).toNat ≤ b.length ∧ 20 ≤ (n2 b 2).toNat ∧
    (bld4 (raw4 b)).take 10 = b.take 10 ∧ (bld4 (raw4 b)).drop 12 = (b.take (n2 b 2).toNat).drop 12 := by
  have hV : prsV b false = raw4 b := by rw [prsV, if_pos h]
  unfold prsE at h
  by_cases hb : bad4 b false = 0
  · rw [if_pos hb] at h
    by_cases hc : chk4 (raw4 b) = 0
    · refine ⟨hV, hc, ?_⟩
      unfold bad4 at hb
      split at hb
      · cases hb
      · rename_i g1
        split at hb
        · cases hb
        · rename_i g2
          split at hb
          · cases hb
          · rename_i g3
            split at hb
            · cases hb
            · rename_i g4
              clear hb h hV
              obtain ⟨N, hN⟩ : ∃ N : Nat, hlen b = (N : Int) := ⟨(hlen b).toNat, by omega⟩
              obtain ⟨S, hS⟩ : ∃ S : Nat, n2 b 2 = (S : Int) := ⟨(n2 b 2).toNat, by omega⟩
              have hNS : N ≤ S ∧ S ≤ b.length ∧ 20 ≤ N := by
                refine ⟨by omega, ?_, by omega⟩
                have : ¬ (n2 b 2 > (b.length : Int)) := fun e => g3 (.inr ⟨rfl, e⟩)
                omega
              have hopt : (raw4 b).opt = (b.take N).drop 20 := by show (b.take (hlen b).toNat).drop 20 = _; rw [hN, Int.toNat_natCast]
              have hdat : (raw4 b).dat = (b.take S).drop N := by
                show (b.take (min (n2 b 2) (b.length : Int)).toNat).drop (hlen b).toNat = _
                rw [hN, hS, show (min (S : Int) (b.length : Int)).toNat = S from by omega, Int.toNat_natCast]
              have lo : (raw4 b).opt.length = N - 20 := by rw [hopt, List.length_drop, List.length_take]; omega
              have ld : (raw4 b).dat.length = S - N := by rw [hdat, List.length_drop, List.length_take]; omega
              have hh : head4 (raw4 b) = (N : Int) := by unfold head4; omega
              have hz : size4 (raw4 b) = (S : Int) := by unfold size4; omega
              have hfl : flags4 (raw4 b) = n2 b 6 := by
                show n2 b 6 % 8192 * 8 / 8 + bit (decide (n2 b 6 / 16384 % 2 = 1)) 16384 + bit (decide (n2 b 6 / 8192 % 2 = 1)) 8192 = n2 b 6
                have h0 : 0 ≤ n2 b 6 := by unfold n2; have := byt_lo b 6; have := byt_lo b (6 + 1); omega
                unfold bit
                by_cases e1 : n2 b 6 / 16384 % 2 = 1 <;> by_cases e2 : n2 b 6 / 8192 % 2 = 1 <;> simp [e1, e2] <;> omega
              have B : ∀ i, 0 ≤ byt b i ∧ byt b i ≤ 255 := fun i => ⟨byt_lo b i, byt_hi b i⟩
              have b0 := B 0; have b1 := B 1; have b2 := B 2; have b3 := B 3; have b4 := B 4; have b5 := B 5; have b6 := B 6; have b7 := B 7; have b8 := B 8; have b9 := B 9
              have b12 := B 12; have b13 := B 13; have b14 := B 14; have b15 := B 15; have b16 := B 16; have b17 := B 17; have b18 := B 18; have b19 := B 19
              refine ⟨by rw [bld4_len, lo, ld, hS, Int.toNat_natCast]; omega, by rw [hS, Int.toNat_natCast]; omega, by rw [hS, Int.toNat_natCast]; omega, ?_, ?_⟩
              · have e : (bld4 (raw4 b)).take 10 = hda (raw4 b) (size4 (raw4 b)) := by
                  rw [bld4, hd4, List.append_assoc, List.append_assoc, List.take_left' (by simp [hda])]
                rw [e, take_ten (by omega), hda, hh, hz, hfl]
                have i0 : hlen b = byt b 0 % 16 * 4 := rfl
                have i2 : n2 b 2 = byt b 2 * 256 + byt b (2 + 1) := rfl
                have i6 : n2 b 6 = byt b 6 * 256 + byt b (6 + 1) := rfl
                have i4 : (raw4 b).id = byt b 4 * 256 + byt b (4 + 1) := rfl
                have x0 : byt b 0 / 16 = 4 := by omega
                simp only [Nat.reduceAdd] at i2 i6 i4
                rw [u8_eq (b := b) (i := 0) (n := 64 + (N : Int) / 4) (by omega) (by omega), u8_eq (b := b) (i := 1) (n := (raw4 b).tos) (by omega) (by show byt b 1 % 256 = _; omega), u8_eq (b := b) (i := 2) (n := (S : Int) / 256) (by omega) (by omega),
                  u8_eq (b := b) (i := 3) (n := (S : Int)) (by omega) (by omega), u8_eq (b := b) (i := 4) (n := (raw4 b).id / 256) (by omega) (by omega), u8_eq (b := b) (i := 5) (n := (raw4 b).id) (by omega) (by omega),
                  u8_eq (b := b) (i := 6) (n := n2 b 6 / 256) (by omega) (by omega), u8_eq (b := b) (i := 7) (n := n2 b 6) (by omega) (by omega), u8_eq (b := b) (i := 8) (n := (raw4 b).ttl) (by omega) (by show byt b 8 % 256 = _; omega),
                  u8_eq (b := b) (i := 9) (n := (raw4 b).proto) (by omega) (by show byt b 9 % 256 = _; omega)]
              · have e : (bld4 (raw4 b)).drop 12 = hdb (raw4 b) ++ (raw4 b).dat := by
                  rw [bld4, hd4, List.append_assoc, List.drop_left' (by simp [hda, be2])]
                rw [e, hS, Int.toNat_natCast]
                have hs20 : 20 ≤ (b.take S).length := by rw [List.length_take]; omega
                rw [drop_eight hs20]
                have hcut : (b.take S).drop 20 = (raw4 b).opt ++ (raw4 b).dat := by
                  rw [hopt, hdat]
                  have h1 : b.take N = (b.take S).take N := by rw [List.take_take, Nat.min_eq_left hNS.1]
                  rw [h1]
                  conv => lhs; rw [← List.take_append_drop N (b.take S)]
                  rw [List.drop_append_of_le_length (by rw [List.length_take, List.length_take]; omega)]
                rw [hcut, ← List.append_assoc]
                congr 1
                rw [hdb]
                have gt : ∀ i (h : i < (b.take S).length) (h' : i < b.length), (b.take S)[i] = b[i] := fun i h h' => List.getElem_take
                rw [gt 12 (by omega) (by omega), gt 13 (by omega) (by omega), gt 14 (by omega) (by omega), gt 15 (by omega) (by omega), gt 16 (by omega) (by omega), gt 17 (by omega) (by omega), gt 18 (by omega) (by omega), gt 19 (by omega) (by omega)]
                have i12 : (raw4 b).src = ((byt b 12 * 256 + byt b (12 + 1)) * 256 + byt b (12 + 2)) * 256 + byt b (12 + 3) := rfl
                have i16 : (raw4 b).dst = ((byt b 16 * 256 + byt b (16 + 1)) * 256 + byt b (16 + 2)) * 256 + byt b (16 + 3) := rfl
                simp only [Nat.reduceAdd] at i12 i16
                rw [u8_eq (b := b) (i := 12) (n := (raw4 b).src / 16777216) (by omega) (by omega), u8_eq (b := b) (i := 13) (n := (raw4 b).src / 65536) (by omega) (by omega), u8_eq (b := b) (i := 14) (n := (raw4 b).src / 256) (by omega) (by omega),
                  u8_eq (b := b) (i := 15) (n := (raw4 b).src) (by omega) (by omega), u8_eq (b := b) (i := 16) (n := (raw4 b).dst / 16777216) (by omega) (by omega), u8_eq (b := b) (i := 17) (n := (raw4 b).dst / 65536) (by omega) (by omega),
                  u8_eq (b := b) (i := 18) (n := (raw4 b).dst / 256) (by omega) (by omega), u8_eq (b := b) (i := 19) (n := (raw4 b).dst) (by omega) (by omega)]
    · rw [if_pos ⟨rfl, hc⟩] at h; cases h
  · rw [if_neg hb] at h; exact absurd h hb
end Go.Proofs.Ytkgbjohadkbjaaa

/-
  Contract of the document's plain answers of layer 5: head. Conditions are each theorem's own.
-/
namespace Go.Proofs.Ytkgbjohadkbjaaa
open Go.RowKit

theorem put_two {bs : List UInt8} {n : Int} (h0 : 0 ≤ n) (h1 : n ≤ 65535) : putB bs n 2 = bs ++ be2 n := by
  rw [putB, if_pos (fitsB_iff.2 ⟨by omega, by omega, h0, by simp [pw]; omega⟩), ← digs_two h0]; rfl
theorem put_four {bs : List UInt8} {n : Int} (h0 : 0 ≤ n) (h1 : n < 4294967296) : putB bs n 4 = bs ++ be4 n := by
  rw [putB, if_pos (fitsB_iff.2 ⟨by omega, by omega, h0, by simp [pw]; omega⟩), ← digs_four h0]; rfl
theorem putB_le {bs : List UInt8} {n s : Int} {K : Nat} (h : bs.length ≤ K) (hs : s.toNat ≤ 4) : (putB bs n s).length ≤ K + 4 := by
  rw [putB]; split
  · rw [List.length_append, digs_length]; omega
  · omega
theorem arg_own {w : World} {base c : Nat} {A : Option Addr} {bs : List UInt8} (h : w.ownsRow base 5 1 (.slice A bs.length c) bs.length (row bs)) : Arg w w.heap.size A c bs := by
  refine ⟨Rd.of_own rfl h, ?_, fun e => ?_⟩
  · rcases h.2 with ⟨hv, h0⟩ | ⟨g, cap, cur, hv, _, _, hle, _⟩
    · omega
    · injection hv with h1 h2 h3; omega
  · rcases h.2 with ⟨hv, h0⟩ | ⟨g, cap, cur, hv, _, _, hle, _⟩
    · injection hv
    · injection hv with h1 h2 h3; rw [e] at h1; cases h1
theorem own_base {w : World} {base base' e s n : Nat} {v : Value} {xs : List Value} (h : w.ownsRow base' e s v n xs) (hb : base ≤ base') : w.ownsRow base e s v n xs := by
  obtain ⟨hl, h0 | ⟨g, cap, cur, hv, hg, r⟩⟩ := h
  · exact ⟨hl, .inl h0⟩
  · exact ⟨hl, .inr ⟨g, cap, cur, hv, by omega, r⟩⟩
theorem own_made {w : World} {base n : Nat} {v : Value} {xs : List Value} {bs : List UInt8} (h : w.ownsRow base 5 1 v n xs) (hn : n = bs.length) (hx : xs = row bs) : ∃ A c, v = .slice A bs.length c ∧ w.ownsRow base 5 1 (.slice A bs.length c) bs.length (row bs) := by
  subst hn; subst hx
  rcases h.2 with ⟨hv, h0⟩ | ⟨g, cap, cur, hv, _⟩
  · rw [hv] at h; exact ⟨none, 0, by rw [hv, h0], by rw [h0] at h ⊢; exact h⟩
  · rw [hv] at h; exact ⟨_, _, hv, h⟩
section
variable (q : P4) (A : Option Addr) (c : Nat) (A' : Option Addr) (c' : Nat) (w : World)
set_option maxRecDepth 100000 in
set_option maxHeartbeats 8000000 in
theorem r5hd (B : Nat) (size sum : Int) (hq : arg4 q) (hs0 : 0 ≤ size) (hs1 : size ≤ 65535) (hm0 : 0 ≤ sum) (hm1 : sum ≤ 65535) (hO : Arg w B A c q.opt) (hB : B ≤ w.heap.size) :
    Calls Try.prog 92 #[v4v q A c A' c', .int .i64 size, .int .i64 sum] w fun e w' => ∃ v, e = .returned v ∧ Made w w' v (hd4 q size sum) := by
  have hBl : Below w.heap.size w (w.alloc (.cells (v4a q A c A' c') 48)) := (Below.refl w.heap.size w).alloc (Nat.le_refl _) _
  have hAt := At4.new (q := q) (A := A) (c := c) (A' := A') (c' := c') w
  have hz : (w.alloc (.cells (v4a q A c A' c') 48)).heap.size = w.heap.size + 1 := by simp
  have h2 := hAt.off; have h7 := hAt.df; have h8 := hAt.mf
  obtain ⟨a1, a2, a3, a4, a5, a6, a7, a8, a9, a10, a11, a12, a13, a14, a15, a16, a17, a18⟩ := hq
  have ho : q.opt.length ≤ 1000000 := by omega
  unfold v4v
  rw [show #[Value.int .i64 q.tos, .int .i64 q.id, .int .i64 q.off, .int .i64 q.ttl, .int .i64 q.proto, .int .i64 q.src, .int .i64 q.dst, .bool q.df, .bool q.mf, .slice A q.opt.length c, .slice A' q.dat.length c'] = v4a q A c A' c' from rfl]
  go_enter Try.func92, Try.ntmps92
  go_upto_if 13 with fail
  generalize w.alloc (.cells (v4a q A c A' c') 48) = W at *
  have td : Int.tdiv q.off 8 = q.off / 8 := Int.tdiv_eq_ediv_of_nonneg a13
  have HF := Lib.hid (show flags4 q = q.off / 8 + bit q.df 16384 + bit q.mf 8192 from rfl)
  obtain ⟨D, hD⟩ : ∃ D, D = q.df := ⟨_, rfl⟩
  obtain ⟨M, hM⟩ : ∃ M, M = q.mf := ⟨_, rfl⟩
  rw [← hD] at h7 HF ⊢
  rw [← hM] at h8 HF
  obtain ⟨F1, hF1⟩ : ∃ n, n = q.off / 8 + bit D 16384 := ⟨_, rfl⟩
  have bD : 0 ≤ bit D 16384 ∧ bit D 16384 ≤ 16384 := by unfold bit; cases D <;> simp
  have bM : 0 ≤ bit M 8192 ∧ bit M 8192 ≤ 8192 := by unfold bit; cases M <;> simp
  have hfb : 0 ≤ flags4 q ∧ flags4 q < 32768 := by rw [HF.out]; omega
  rw [← hF1] at HF
  have hf1 : 0 ≤ F1 ∧ F1 < 24576 := by omega
  have HF1 := Lib.hid hF1
  clear hD hM hF1 a18
  go_cut [7] from 9 (fun s w' => s = .int .i64 F1 ∧ w' = W)
  case first =>
    cases D
    · have e1 := Lib.hid (show F1 = q.off / 8 by rw [HF1.out]; simp [bit])
      go_wp2_with fail
      go_meet
      exact ⟨by rw [e1.out], rfl⟩
    · have e1 := Lib.hid (show F1 = q.off / 8 + 16384 by rw [HF1.out]; simp [bit])
      go_wp2_with fail
      go_meet
      exact ⟨by rw [e1.out], rfl⟩
  case rest =>
    obtain ⟨hs7, hwc⟩ := hcut
    subst hs7; rw [hwc]; clear hwc
    go_upto_if 17 with fail
    go_cut [7] from 9 (fun s w' => s = .int .i64 (flags4 q) ∧ w' = W)
    case first =>
      cases M
      · have e1 := Lib.hid (show flags4 q = F1 by rw [HF.out]; simp [bit])
        go_wp2_with fail
        go_meet
        exact ⟨by rw [e1.out], rfl⟩
      · have e1 := Lib.hid (show flags4 q = F1 + 8192 by rw [HF.out]; simp [bit])
        go_wp2_with fail
        go_meet
        exact ⟨by rw [e1.out], rfl⟩
    case rest =>
      obtain ⟨hs7, hwc⟩ := hcut
      subst hs7; rw [hwc]; clear hwc
      clear HF HF1 hf1 bD bM h7 h8 h2
      go_wp2_with fail
      refine wp_region_held_drew (S := fun w' => Below W.heap.size W w') (by kernel_rfl) (Below.refl _ W).drew (fun hS => ?_)
      refine held_pure (i := 0) (oi := ⟨some 20, _, _, _, _, _⟩) rfl (by kernel_rfl) (by kernel_rfl) (by kernel_rfl) (fun _ _ _ h => h) (by rfl) (fun w hSw => run_load_v4 rfl rfl (hAt.below hSw (by omega)) rfl) hS (fun hS => ?_)
      try go_frame
      refine held_pure (i := 5) (oi := ⟨some 25, _, _, _, _, _⟩) rfl (by kernel_rfl) (by kernel_rfl) (by kernel_rfl) (fun _ _ _ h => h) (by rfl) (v := ?_) (fun w hSw => ?_) hS (fun hS => ?_)
      rotate_left
      · go_simp; try with_reducible rfl
      try go_frame
      refine held_pure (i := 6) (oi := ⟨some 26, _, _, _, _, _⟩) rfl (by kernel_rfl) (by kernel_rfl) (by kernel_rfl) (fun _ _ _ h => h) (by rfl) (fun w hSw => run_load_int rfl rfl (hAt.below hSw (by omega)).tos) hS (fun hS => ?_)
      try go_frame
      refine held_pure (i := 7) (oi := ⟨some 27, _, _, _, _, _⟩) rfl (by kernel_rfl) (by kernel_rfl) (by kernel_rfl) (fun _ _ _ h => h) (by rfl) (v := ?_) (fun w hSw => ?_) hS (fun hS => ?_)
      rotate_left
      · go_simp; try with_reducible rfl
      try go_frame
      refine wpAnyH_ready (rs := [1]) (by kernel_rfl) (by simp) (AllReadyH.cons (o := ⟨some 21, _, _, _, _, _⟩) rfl (fun K hK => ?_) AllReadyH.nil)
      rw [if_pos (by rfl)]
      go_simp
      refine (r5head q A c A' c' _ ho).mono ?_
      rintro e w1 ⟨rfl, x1⟩
      show K _ _
      refine hK.out _ _ (below_step hS x1) (fun hS => ?_)
      clear hK K
      try go_frame
      refine held_pure (i := 2) (oi := ⟨some 22, _, _, _, _, _⟩) rfl (by kernel_rfl) (by kernel_rfl) (by kernel_rfl) (fun _ _ _ h => h) (by rfl) (v := ?_) (fun w hSw => ?_) hS (fun hS => ?_)
      rotate_left
      · go_simp; try with_reducible rfl
      try go_frame
      refine held_pure (i := 3) (oi := ⟨some 23, _, _, _, _, _⟩) rfl (by kernel_rfl) (by kernel_rfl) (by kernel_rfl) (fun _ _ _ h => h) (by rfl) (v := ?_) (fun w hSw => ?_) hS (fun hS => ?_)
      rotate_left
      · go_simp; try with_reducible rfl
      try go_frame
      refine held_pure (i := 4) (oi := ⟨some 24, _, _, _, _, _⟩) rfl (by kernel_rfl) (by kernel_rfl) (by kernel_rfl) (fun _ _ _ h => h) (by rfl) (v := ?_) (fun w hSw => ?_) hS (fun hS => ?_)
      rotate_left
      · go_simp; try with_reducible rfl
      try go_frame
      refine wpAnyH_ready (rs := [8]) (by kernel_rfl) (by simp) (AllReadyH.cons (o := ⟨some 28, _, _, _, _, _⟩) rfl (fun K hK => ?_) AllReadyH.nil)
      rw [if_pos (by rfl)]
      go_simp
      refine hK.out _ _ (hS.alloc hS.size _) (fun hS => ?_)
      clear hK K
      try go_frame
      refine held_pure (i := 9) (oi := ⟨some 8, _, _, _, _, _⟩) rfl (by kernel_rfl) (by kernel_rfl) (by kernel_rfl) (fun _ _ _ h => h) (by rfl) (v := ?_) (fun w hSw => ?_) hS (fun hS => ?_)
      rotate_left
      · go_simp; try with_reducible rfl
      try go_frame
      refine wpAnyH_done (by kernel_rfl) ?_ _
      go_wp2_with fail
      have hh4 : 20 ≤ head4 q ∧ head4 q ≤ 60 := by unfold head4; omega
      have e1 : IntKind.u8.wrap (IntKind.i64.wrap (64 + IntKind.i64.wrap (Int.tdiv (head4 q) 4))) = ((u8 (64 + head4 q / 4)).toNat : Int) := by
        rw [u8_val, Int.tdiv_eq_ediv_of_nonneg (by omega), IntWalk.i64_in (head4 q / 4) (by omega), IntWalk.i64_in _ (by omega), IntKind.wrap_u8]
      have e2 : IntKind.u8.wrap q.tos = ((u8 q.tos).toNat : Int) := by rw [u8_val, IntKind.wrap_u8]
      rw [e1, e2] at hS ⊢
      have hArg7 : Arg (w1.alloc (.cells #[.int .u8 ((u8 (64 + head4 q / 4)).toNat : Int), .int .u8 ((u8 q.tos).toNat : Int)] 5)) (w1.heap.size + 1) (some ⟨w1.heap.size, 0, none⟩) 2 [u8 (64 + head4 q / 4), u8 q.tos] :=
        ⟨Rd.pair _ rfl rfl, by simp, fun e => by cases e⟩
      have hz7 : (w1.alloc (.cells #[.int .u8 ((u8 (64 + head4 q / 4)).toNat : Int), .int .u8 ((u8 q.tos).toNat : Int)] 5)).heap.size = w1.heap.size + 1 := by simp
      have hb7 := hS
      clear e1 e2 x1
      generalize w1.alloc (.cells #[.int .u8 ((u8 (64 + head4 q / 4)).toNat : Int), .int .u8 ((u8 q.tos).toNat : Int)] 5) = W7 at *
      refine wp_region_held_drew (S := fun w' => Below W7.heap.size W7 w') (by kernel_rfl) (Below.refl _ W7).drew (fun hS => ?_)
      refine held_pure (i := 0) (oi := ⟨some 29, _, _, _, _, _⟩) rfl (by kernel_rfl) (by kernel_rfl) (by kernel_rfl) (fun _ _ _ h => h) (by rfl) (v := ?_) (fun w hSw => ?_) hS (fun hS => ?_)
      rotate_left
      · go_simp; try with_reducible rfl
      try go_frame
      refine held_pure (i := 1) (oi := ⟨some 30, _, _, _, _, _⟩) rfl (by kernel_rfl) (by kernel_rfl) (by kernel_rfl) (fun _ _ _ h => h) (by rfl) (v := ?_) (fun w hSw => ?_) hS (fun hS => ?_)
      rotate_left
      · go_simp; try with_reducible rfl
      try go_frame
      refine held_pure (i := 3) (oi := ⟨some 32, _, _, _, _, _⟩) rfl (by kernel_rfl) (by kernel_rfl) (by kernel_rfl) (fun _ _ _ h => h) (by rfl) (v := ?_) (fun w hSw => ?_) hS (fun hS => ?_)
      rotate_left
      · go_simp; try with_reducible rfl
      try go_frame
      refine held_pure (i := 4) (oi := ⟨some 33, _, _, _, _, _⟩) rfl (by kernel_rfl) (by kernel_rfl) (by kernel_rfl) (fun _ _ _ h => h) (by rfl) (fun w hSw => run_load_int rfl rfl (hAt.below (hb7.trans (hSw.mono hb7.size)) (by omega)).id) hS (fun hS => ?_)
      try go_frame
      refine held_pure (i := 6) (oi := ⟨some 35, _, _, _, _, _⟩) rfl (by kernel_rfl) (by kernel_rfl) (by kernel_rfl) (fun _ _ _ h => h) (by rfl) (v := ?_) (fun w hSw => ?_) hS (fun hS => ?_)
      rotate_left
      · go_simp; try with_reducible rfl
      try go_frame
      refine wpAnyH_ready (rs := [2]) (by kernel_rfl) (by simp) (AllReadyH.cons (o := ⟨some 31, _, _, _, _, _⟩) rfl (fun K hK => ?_) AllReadyH.nil)
      rw [if_pos (by rfl)]
      go_simp
      refine (rput_any _ _ _ _ size 2 _ (hArg7.drewN 1) (by simp)).mono ?_
      rintro e w72 ⟨v72, rfl, A72, c72, rfl, l72, rd72, ow72, x72⟩
      show K _ _
      refine hK.out _ _ (below_step hS x72) (fun hS => ?_)
      clear hK K
      try go_frame
      refine wpAnyH_ready (rs := [5]) (by kernel_rfl) (by simp) (AllReadyH.cons (o := ⟨some 34, _, _, _, _, _⟩) rfl (fun K hK => ?_) AllReadyH.nil)
      rw [if_pos (by rfl)]
      go_simp
      refine (rput_any _ _ _ _ q.id 2 _ (arg_own ow72) (by exact Nat.le_trans (putB_le (K := 2) (by simp) (by decide)) (by decide))).mono ?_
      rintro e w75 ⟨v75, rfl, A75, c75, rfl, l75, rd75, ow75, x75⟩
      show K _ _
      refine hK.out _ _ (below_step hS x75) (fun hS => ?_)
      clear hK K
      try go_frame
      refine wpAnyH_ready (rs := [7]) (by kernel_rfl) (by simp) (AllReadyH.cons (o := ⟨some 36, _, _, _, _, _⟩) rfl (fun K hK => ?_) AllReadyH.nil)
      rw [if_pos (by rfl)]
      go_simp
      refine (rput_any _ _ _ _ (flags4 q) 2 _ (arg_own ow75) (by exact Nat.le_trans (putB_le (K := 6) (putB_le (K := 2) (by simp) (by decide)) (by decide)) (by decide))).mono ?_
      rintro e w77 ⟨v77, rfl, A77, c77, rfl, l77, rd77, ow77, x77⟩
      show K _ _
      refine hK.out _ _ (below_step hS x77) (fun hS => ?_)
      clear hK K
      try go_frame
      refine held_pure (i := 8) (oi := ⟨some 8, _, _, _, _, _⟩) rfl (by kernel_rfl) (by kernel_rfl) (by kernel_rfl) (fun _ _ _ h => h) (by rfl) (v := ?_) (fun w hSw => ?_) hS (fun hS => ?_)
      rotate_left
      · go_simp; try with_reducible rfl
      try go_frame
      refine wpAnyH_done (by kernel_rfl) ?_ _
      have hW77 : Below W.heap.size W w77 := hb7.trans (hS.mono hb7.size)
      have hsz : W.heap.size ≤ w75.heap.size := by
        have k1 := hb7.size; have k2 := x72.size; have k3 := x75.size
        simp only [World.heap_drewN] at k2; omega
      obtain ⟨b1, hb1⟩ : ∃ b, b = putB (putB (putB [u8 (64 + head4 q / 4), u8 q.tos] size 2) q.id 2) (flags4 q) 2 := ⟨_, rfl⟩
      rw [← hb1] at l77 rd77 ow77 ⊢
      rw [put_two hs0 hs1, put_two a7 a8, put_two hfb.1 (by omega)] at hb1
      have HB1 := Lib.hid hb1
      have hl1 := Lib.hid (show b1.length = 8 by rw [hb1]; simp [be2])
      obtain ⟨b1b, hb1b⟩ : ∃ b, b = b1 ++ [u8 q.ttl, u8 q.proto] := ⟨_, rfl⟩
      have hl1b := Lib.hid (show b1b.length = 10 by rw [hb1b]; simp [hl1.out])
      have HB1b := Lib.hid hb1b
      clear hb1b
      have own77 := own_base ow77 hsz
      have ht := (hAt.below hW77 (by omega)).ttl
      have hp := (hAt.below hW77 (by omega)).proto
      clear hb1 hb7 hS x72 x75 x77 l72 l75 l77 rd72 rd75 rd77 ow72 ow75 ow77 hArg7
      go_wp2_with (first
        | (at_builtin; go_loud (refine append_rd rfl _ _ rfl W.heap.size _ _ _ rfl (own_below own77 ((Below.refl w77.heap.size w77).alloc (Nat.le_refl _) _)) _ (some ⟨_, 0, none⟩) _ [u8 q.ttl, u8 q.proto] rfl (fun e => by cases e) (Rd.pair _ (by rw [u8_val]; omega) (by rw [u8_val]; omega)) (by rw [hl1.out]; simp) (by simp; exact Nat.le_succ_of_le hW77.size) ?_; intro v8 w8 own8 grow8; obtain ⟨A8, c8, rfl, owm8⟩ := own_made (bs := b1b) own8 (by rw [HB1b.out]; simp) (by rw [HB1b.out]; simp [row])))
        | (go_at_call 84; refine (rput_any _ _ _ _ sum 2 _ (arg_own owm8) (by rw [hl1b.out]; decide)).mono ?_; rintro e w9 ⟨v9, rfl, A9, c9, rfl, l9, rd9, ow9, x9⟩))
      have hW8 : Below W.heap.size W w8 := (hW77.alloc hW77.size _).grown grow8 (by simp; exact Nat.le_succ_of_le hW77.size) (fun k hk => own_block_ge own77 k hk)
      obtain ⟨b2, hb2⟩ : ∃ b, b = putB b1b sum 2 := ⟨_, rfl⟩
      rw [← hb2] at rd9 ow9 ⊢
      rw [put_two hm0 hm1] at hb2
      have HB2 := Lib.hid hb2
      have hl2 := Lib.hid (show b2.length = 12 by rw [hb2]; simp [hl1b.out, be2])
      have hb9 : Below W.heap.size W w9 := hW8.trans (x9.mono hW8.size)
      have hArg9 := arg_own ow9
      clear hb2 own77 own8 owm8 rd9 l9 x9 grow8
      refine wp_region_held_drew (S := fun w' => Below w9.heap.size w9 w') (by kernel_rfl) (Below.refl _ w9).drew (fun hS => ?_)
      refine held_pure (i := 0) (oi := ⟨some 48, _, _, _, _, _⟩) rfl (by kernel_rfl) (by kernel_rfl) (by kernel_rfl) (fun _ _ _ h => h) (by rfl) (v := ?_) (fun w hSw => ?_) hS (fun hS => ?_)
      rotate_left
      · go_simp; try with_reducible rfl
      try go_frame
      refine held_pure (i := 1) (oi := ⟨some 49, _, _, _, _, _⟩) rfl (by kernel_rfl) (by kernel_rfl) (by kernel_rfl) (fun _ _ _ h => h) (by rfl) (v := ?_) (fun w hSw => ?_) hS (fun hS => ?_)
      rotate_left
      · go_simp; try with_reducible rfl
      try go_frame
      refine held_pure (i := 2) (oi := ⟨some 50, _, _, _, _, _⟩) rfl (by kernel_rfl) (by kernel_rfl) (by kernel_rfl) (fun _ _ _ h => h) (by rfl) (fun w hSw => run_load_int rfl rfl (hAt.below (hb9.trans (hSw.mono hb9.size)) (by omega)).src) hS (fun hS => ?_)
      try go_frame
      refine held_pure (i := 4) (oi := ⟨some 52, _, _, _, _, _⟩) rfl (by kernel_rfl) (by kernel_rfl) (by kernel_rfl) (fun _ _ _ h => h) (by rfl) (v := ?_) (fun w hSw => ?_) hS (fun hS => ?_)
      rotate_left
      · go_simp; try with_reducible rfl
      try go_frame
      refine held_pure (i := 5) (oi := ⟨some 53, _, _, _, _, _⟩) rfl (by kernel_rfl) (by kernel_rfl) (by kernel_rfl) (fun _ _ _ h => h) (by rfl) (fun w hSw => run_load_int rfl rfl (hAt.below (hb9.trans (hSw.mono hb9.size)) (by omega)).dst) hS (fun hS => ?_)
      try go_frame
      refine wpAnyH_ready (rs := [3]) (by kernel_rfl) (by simp) (AllReadyH.cons (o := ⟨some 51, _, _, _, _, _⟩) rfl (fun K hK => ?_) AllReadyH.nil)
      rw [if_pos (by rfl)]
      go_simp
      refine (rput_any _ _ _ _ q.src 4 _ (hArg9.drewN 1) (by rw [hl2.out]; decide)).mono ?_
      rintro e w93 ⟨v93, rfl, A93, c93, rfl, l93, rd93, ow93, x93⟩
      show K _ _
      refine hK.out _ _ (below_step hS x93) (fun hS => ?_)
      clear hK K
      try go_frame
      refine wpAnyH_ready (rs := [6]) (by kernel_rfl) (by simp) (AllReadyH.cons (o := ⟨some 54, _, _, _, _, _⟩) rfl (fun K hK => ?_) AllReadyH.nil)
      rw [if_pos (by rfl)]
      go_simp
      refine (rput_any _ _ _ _ q.dst 4 _ (arg_own ow93) (by exact Nat.le_trans (putB_le (K := 12) (by rw [hl2.out]; decide) (by decide)) (by decide))).mono ?_
      rintro e w96 ⟨v96, rfl, A96, c96, rfl, l96, rd96, ow96, x96⟩
      show K _ _
      refine hK.out _ _ (below_step hS x96) (fun hS => ?_)
      clear hK K
      try go_frame
      refine held_pure (i := 7) (oi := ⟨some 8, _, _, _, _, _⟩) rfl (by kernel_rfl) (by kernel_rfl) (by kernel_rfl) (fun _ _ _ h => h) (by rfl) (v := ?_) (fun w hSw => ?_) hS (fun hS => ?_)
      rotate_left
      · go_simp; try with_reducible rfl
      try go_frame
      refine wpAnyH_done (by kernel_rfl) ?_ _
      have hW96 : Below W.heap.size W w96 := hb9.trans (hS.mono hb9.size)
      have hsz9 : W.heap.size ≤ w93.heap.size := by
        have k1 := hb9.size; have k2 := x93.size
        simp only [World.heap_drewN] at k2; omega
      obtain ⟨b3, hb3⟩ : ∃ b, b = putB (putB b2 q.src 4) q.dst 4 := ⟨_, rfl⟩
      rw [← hb3] at ow96 ⊢
      rw [put_four a9 a10, put_four a11 a12] at hb3
      have HB3 := Lib.hid hb3
      have hl3 := Lib.hid (show b3.length = 20 by rw [hb3]; simp [hl2.out, be4])
      have own96 := own_base ow96 hsz9
      have hop := (hAt.below hW96 (by omega)).opt
      have hrd := (hO.rd.below (hBl.mono hB)).below (hW96.mono (by omega))
      have hnn := hO.none_
      obtain ⟨b4, hb4⟩ : ∃ b, b = b3 ++ q.opt := ⟨_, rfl⟩
      have HB4 := Lib.hid hb4
      clear hb4
      clear hb3 x93 x96 l93 l96 rd93 rd96 ow93 ow96 hArg9
      go_wp2_with (at_builtin; go_loud (refine append_rd rfl _ _ rfl W.heap.size _ _ _ rfl own96 _ A _ q.opt rfl hnn hrd (by rw [hl3.out]; omega) hW96.size ?_; intro v10 w10 own10 grow10; obtain ⟨A10, c10, rfl, owm10⟩ := own_made (bs := b4) own10 (by rw [HB4.out]; simp) (by rw [HB4.out, row_append])))
      have hW10 : Below W.heap.size W w10 := hW96.grown grow10 hW96.size (fun k hk => own_block_ge own96 k hk)
      go_ret
      have hfin : b4 = hd4 q size sum := by
        rw [HB4.out, HB3.out, HB2.out, HB1b.out, HB1.out]; simp [hd4, hda, hdb, be2, be4]
      rw [← hfin]
      exact ⟨_, rfl, Made.of_own (own_base owm10 (by omega)) (hBl.trans (hW10.mono (by omega)))⟩
end
end Go.Proofs.Ytkgbjohadkbjaaa

/-
  Contract of the document's plain answers of layer 5: Build. Conditions are each theorem's own.
-/
namespace Go.Proofs.Ytkgbjohadkbjaaa
open Go.RowKit

theorem rof_one (A : Option Addr) (bs : List UInt8) (c B : Nat) (w : World) (h : Rd2 w B A [bs]) (hl : bs.length ≤ 1099511627000) :
    Calls Try.prog 90 #[.slice A 1 c] w fun e w' => e = .returned (.int .i64 (65535 - fold (psum [bs]))) ∧ ∃ n, w' = w.drewN n :=
  rof_any A [bs] c B w h (by simpa [bulk] using hl) (by simp)
/-- append onto a row of the call's own, of a source that reads as bytes: as an operation. -/
theorem append_wp {w : World} {o : Oper} {a : Act} {K : Act → World → Prop} {Q : Exit → Act → World → Prop} (s x : Operand)
    (ho : o.op = .call { callee := .builtin .append, args := #[s, x], argTypes := #[45, 45] })
    (base : Nat) (v : Value) (n : Nat) (xs : List Value) (hs : a.eval s = v) (hown : w.ownsRow base 5 1 v n xs)
    (B : Nat) (A : Option Addr) (c : Nat) (bs : List UInt8) (hx : a.eval x = .slice A bs.length c) (hA : A = none → c = 0) (hr : Rd w B A bs)
    (hlen : n + bs.length ≤ 2199023255552) (hbase : base ≤ w.heap.size)
    (h : ∀ v' w', w'.ownsRow base 5 1 v' (n + bs.length) (xs ++ row bs) → w.grownBy w' v.ownBlock → K (a.put o.dst v') w') : o.wp Try.prog a w K Q := by
  obtain ⟨i0, hi, hz0, hz1, hz2⟩ := info_parts info_u8
  rcases A with _ | ad
  · have h0 : bs = [] := by
      rcases Nat.eq_zero_or_pos bs.length with e | e
      · exact List.eq_nil_of_length_eq_zero e
      · obtain ⟨_, _, e', _⟩ := hr e; cases e'
    subst h0
    obtain rfl := hA rfl
    have hrun := run_append_owned_none (P := Try.prog) (w := w) base 45 o.type 5 i0 1 Try.underlying45 hi v n xs hown
    unfold Oper.wp
    simp [execOp, ho, resolve, invoke, builtin, hs, hx, hrun, Result.andThen]
    exact h v w (by simpa [row] using hown) (World.grownBy.refl w _)
  · exact wp_append_own w s x 45 ho base 5 i0 (.int .u8 0) 1 1 Try.underlying45 hi hz0 hz1 hz2 rfl (by decide) v n xs hs hown ad bs.length c (row bs) hx
      (by rw [row_length, Nat.mul_one]) hr.src (row_one bs) (by unfold maxLen; omega) (by omega) hbase (fun v' w' h1 h2 _ => h v' w' h1 h2)
section
variable (q : P4) (A : Option Addr) (c : Nat) (A' : Option Addr) (c' : Nat) (w : World)
set_option maxRecDepth 100000 in
set_option maxHeartbeats 8000000 in
theorem r5build (B : Nat) (hO : Arg w B A c q.opt) (hD : Arg w B A' c' q.dat) (hB : B ≤ w.heap.size) (ho : q.opt.length ≤ 1000000) (hd : q.dat.length ≤ 1000000) :
    Calls Try.prog 62 #[v4v q A c A' c'] w fun e w' => ∃ v, e = .returned (.tuple #[v, .int .i64 (chk4 q)]) ∧ (chk4 q ≠ 0 → v = .slice none 0 0 ∧ Below w.heap.size w w') ∧ (chk4 q = 0 → Made w w' v (bld4 q)) := by
  have hBl : Below w.heap.size w (w.alloc (.cells (v4a q A c A' c') 48)) := (Below.refl w.heap.size w).alloc (Nat.le_refl _) _
  have hAt := At4.new (q := q) (A := A) (c := c) (A' := A') (c' := c') w
  have hz : (w.alloc (.cells (v4a q A c A' c') 48)).heap.size = w.heap.size + 1 := by simp
  unfold v4v
  rw [show #[Value.int .i64 q.tos, .int .i64 q.id, .int .i64 q.off, .int .i64 q.ttl, .int .i64 q.proto, .int .i64 q.src, .int .i64 q.dst, .bool q.df, .bool q.mf, .slice A q.opt.length c, .slice A' q.dat.length c'] = v4a q A c A' c' from rfl]
  go_enter Try.func62, Try.ntmps62
  go_upto_region 1 with fail
  have hg := World.alloc_heap_new w (.cells (v4a q A c A' c') 48)
  generalize w.alloc (.cells (v4a q A c A' c') 48) = W at *
  by_cases hc : chk4 q = 0
  · have ha : arg4 q := by
      rcases Decidable.em (arg4 q) with h | h
      · exact h
      · exfalso; rw [chk4, if_neg h] at hc; omega
    have hz1 : size4 q ≤ 65535 := by
      rcases Int.lt_or_le 65535 (size4 q) with h | h
      · exfalso; rw [chk4, if_pos ha, if_pos (.inl h)] at hc; omega
      · exact h
    have hz0 : 0 ≤ size4 q := by unfold size4 head4; omega
    obtain ⟨hs0, hs1⟩ := sum4_bd q
    have HC := Lib.hid hc
    have ho40 : q.opt.length ≤ 40 := by obtain ⟨_, _, _, _, _, _, _, _, _, _, _, _, _, _, _, h, _⟩ := ha; exact h
    clear hc
    go_upto_region 4 with (first
      | ((with_reducible show wpList _ _ _ (Oper.mk _ (Op.load _ _) _ _ _ _ :: _) _ _); refine v4_load (g := w.heap.size) rfl hg rfl ?_)
      | (go_at_call 91; refine (r5check q A c A' c' _ ho hd).mono ?_; rintro e w1 ⟨rfl, x1⟩; rw [HC.out]))
    have hb1 : Below W.heap.size W w1 := x1
    clear x1
    refine wp_region_held_drew (S := fun w' => Below w1.heap.size w1 w') (by kernel_rfl) (Below.refl _ w1).drew (fun hS => ?_)
    refine held_pure (i := 0) (oi := ⟨some 11, _, _, _, _, _⟩) rfl (by kernel_rfl) (by kernel_rfl) (by kernel_rfl) (fun _ _ _ h => h) (by rfl) (fun w hSw => run_load_v4 rfl rfl (hAt.below (hb1.trans (hSw.mono hb1.size)) (by omega)) rfl) hS (fun hS => ?_)
    try go_frame
    refine held_pure (i := 1) (oi := ⟨some 12, _, _, _, _, _⟩) rfl (by kernel_rfl) (by kernel_rfl) (by kernel_rfl) (fun _ _ _ h => h) (by rfl) (fun w hSw => run_load_v4 rfl rfl (hAt.below (hb1.trans (hSw.mono hb1.size)) (by omega)) rfl) hS (fun hS => ?_)
    try go_frame
    refine wpAnyH_ready (rs := [2]) (by kernel_rfl) (by simp) (AllReadyH.cons (o := ⟨some 13, _, _, _, _, _⟩) rfl (fun K hK => ?_) AllReadyH.nil)
    rw [if_pos (by rfl)]
    go_simp
    refine (r5size q A c A' c' _ ho hd).mono ?_
    rintro e w2 ⟨rfl, x2⟩
    show K _ _
    refine hK.out _ _ (below_step hS x2) (fun hS => ?_)
    clear hK K
    try go_frame
    refine wpAnyH_ready (rs := [3]) (by kernel_rfl) (by simp) (AllReadyH.cons (o := ⟨some 14, _, _, _, _, _⟩) rfl (fun K hK => ?_) AllReadyH.nil)
    rw [if_pos (by rfl)]
    go_simp
    refine (r5hd q A c A' c' _ B (size4 q) 0 ha hz0 hz1 (by omega) (by omega) ((hO.below (hBl.mono hB)).below (((hb1).trans (hS.mono (hb1).size)).mono (by omega))) (by have k1 := hS.size; have k2 := (hb1).size; omega)).mono ?_
    rintro e wh ⟨vh, rfl, Ah, ch, rfl, lh, rdh, owh, xh⟩
    show K _ _
    refine hK.out _ _ (below_step hS xh) (fun hS => ?_)
    clear hK K
    try go_frame
    refine wpAnyH_ready (rs := [4]) (by kernel_rfl) (by simp) (AllReadyH.cons (o := ⟨some 15, _, _, _, _, _⟩) rfl (fun K hK => ?_) AllReadyH.nil)
    rw [if_pos (by rfl)]
    go_simp
    refine hK.out _ _ (hS.alloc hS.size _) (fun hS => ?_)
    clear hK K
    try go_frame
    refine wpAnyH_ready (rs := [5]) (by kernel_rfl) (by simp) (AllReadyH.cons (o := ⟨some 16, _, _, _, _, _⟩) rfl (fun K hK => ?_) AllReadyH.nil)
    rw [if_pos (by rfl)]
    go_simp
    refine (rof_one _ (hd4 q (size4 q) 0) _ _ _ (Rd2.one (World.alloc_heap_new wh _) (Nat.lt_succ_self _) (((arg_own owh).alloc (Nat.le_refl _) _).more (Nat.le_succ _))) (by rw [hd4_len]; omega)).mono ?_
    rintro e w5 ⟨rfl, n5, rfl⟩
    show K _ _
    refine hK.out _ _ (below_drewN hS _) (fun hS => ?_)
    clear hK K
    try go_frame
    refine held_pure (i := 6) (oi := ⟨some 5, _, _, _, _, _⟩) rfl (by kernel_rfl) (by kernel_rfl) (by kernel_rfl) (fun _ _ _ h => h) (by rfl) (v := ?_) (fun w hSw => ?_) hS (fun hS => ?_)
    rotate_left
    · go_simp; try with_reducible rfl
    try go_frame
    refine wpAnyH_done (by kernel_rfl) ?_ _
    go_wp2_with fail
    have hb5 := hb1.trans (hS.mono hb1.size)
    generalize (wh.alloc (.cells #[.slice Ah (hd4 q (size4 q) 0).length ch] 45)).drewN n5 = W5 at hS hb5 ⊢
    have eqs : (65535 - fold (psum [hd4 q (size4 q) 0])) = sum4 q := rfl
    rw [eqs]
    refine wp_region_held_drew (S := fun w' => Below W5.heap.size W5 w') (by kernel_rfl) (Below.refl _ W5).drew (fun hS => ?_)
    refine held_pure (i := 0) (oi := ⟨some 17, _, _, _, _, _⟩) rfl (by kernel_rfl) (by kernel_rfl) (by kernel_rfl) (fun _ _ _ h => h) (by rfl) (fun w hSw => run_load_v4 rfl rfl (hAt.below (hb5.trans (hSw.mono hb5.size)) (by omega)) rfl) hS (fun hS => ?_)
    try go_frame
    refine held_pure (i := 1) (oi := ⟨some 18, _, _, _, _, _⟩) rfl (by kernel_rfl) (by kernel_rfl) (by kernel_rfl) (fun _ _ _ h => h) (by rfl) (fun w hSw => run_load_v4 rfl rfl (hAt.below (hb5.trans (hSw.mono hb5.size)) (by omega)) rfl) hS (fun hS => ?_)
    try go_frame
    refine held_pure (i := 3) (oi := ⟨some 20, _, _, _, _, _⟩) rfl (by kernel_rfl) (by kernel_rfl) (by kernel_rfl) (fun _ _ _ h => h) (by rfl) (v := ?_) (fun w hSw => ?_) hS (fun hS => ?_)
    rotate_left
    · go_simp; try with_reducible rfl
    try go_frame
    refine held_pure (i := 5) (oi := ⟨some 22, _, _, _, _, _⟩) rfl (by kernel_rfl) (by kernel_rfl) (by kernel_rfl) (fun _ _ _ h => h) (by rfl) (v := ?_) (fun w hSw => ?_) hS (fun hS => ?_)
    rotate_left
    · go_simp; try with_reducible rfl
    try go_frame
    refine held_pure (i := 6) (oi := ⟨some 23, _, _, _, _, _⟩) rfl (by kernel_rfl) (by kernel_rfl) (by kernel_rfl) (fun _ _ _ h => h) (by rfl) (fun w hSw => run_load_sl rfl rfl (hAt.below (hb5.trans (hSw.mono hb5.size)) (by omega)).dat) hS (fun hS => ?_)
    try go_frame
    refine wpAnyH_ready (rs := [2]) (by kernel_rfl) (by simp) (AllReadyH.cons (o := ⟨some 19, _, _, _, _, _⟩) rfl (fun K hK => ?_) AllReadyH.nil)
    rw [if_pos (by rfl)]
    go_simp
    refine (r5size q A c A' c' _ ho hd).mono ?_
    rintro e w2 ⟨rfl, x2⟩
    show K _ _
    refine hK.out _ _ (below_step hS x2) (fun hS => ?_)
    clear hK K
    try go_frame
    refine wpAnyH_ready (rs := [4]) (by kernel_rfl) (by simp) (AllReadyH.cons (o := ⟨some 21, _, _, _, _, _⟩) rfl (fun K hK => ?_) AllReadyH.nil)
    rw [if_pos (by rfl)]
    go_simp
    refine (r5hd q A c A' c' _ B (size4 q) (sum4 q) ha hz0 hz1 hs0 hs1 ((hO.below (hBl.mono hB)).below (((hb5).trans (hS.mono (hb5).size)).mono (by omega))) (by have k1 := hS.size; have k2 := (hb5).size; omega)).mono ?_
    rintro e wg ⟨vg, rfl, Ag, cg, rfl, lg, rdg, owg, xg⟩
    have og := own_base owg hS.size
    show K _ _
    refine hK.out _ _ (below_step hS xg) (fun hS => ?_)
    clear hK K
    try go_frame
    refine wpAnyH_ready (rs := [7]) (by kernel_rfl) (by simp) (AllReadyH.cons (o := ⟨some 24, _, _, _, _, _⟩) rfl (fun K hK => ?_) AllReadyH.nil)
    rw [if_pos (by rfl)]
    refine append_wp _ _ rfl W5.heap.size _ _ _ rfl og w.heap.size A' c' q.dat rfl hD.none_ (((hD.below (hBl.mono hB)).below ((hb5.trans (hS.mono hb5.size)).mono (by omega))).rd.more hB) (by rw [hd4_len]; omega) hS.size ?_
    intro v7 w7 own7 grow7
    obtain ⟨A7, c7, rfl, owm7⟩ := own_made (bs := bld4 q) own7 (by simp [bld4]) (by rw [bld4, row_append])
    refine hK.out _ _ (hS.grown grow7 hS.size (fun k hk => own_block_ge og k hk)) (fun hS => ?_)
    clear hK K
    try go_frame
    refine held_pure (i := 8) (oi := ⟨some 2, _, _, _, _, _⟩) rfl (by kernel_rfl) (by kernel_rfl) (by kernel_rfl) (fun _ _ _ h => h) (by rfl) (v := ?_) (fun w hSw => ?_) hS (fun hS => ?_)
    rotate_left
    · go_simp; try with_reducible rfl
    try go_frame
    refine held_pure (i := 9) (oi := ⟨some 3, _, _, _, _, _⟩) rfl (by kernel_rfl) (by kernel_rfl) (by kernel_rfl) (fun _ _ _ h => h) (by rfl) (v := ?_) (fun w hSw => ?_) hS (fun hS => ?_)
    rotate_left
    · go_simp; try with_reducible rfl
    try go_frame
    refine wpAnyH_done (by kernel_rfl) ?_ _
    go_wp2_with fail
    go_ret2
    exact ⟨.slice A7 (bld4 q).length c7, by rw [HC.out]; rfl, fun h => absurd HC.out h, fun _ => Made.of_own (own_base owm7 (by have := hb5.size; omega)) (hBl.trans ((hb5.trans (hS.mono hb5.size)).mono (by omega)))⟩
  · have hne : (chk4 q == 0) = false := by simpa using hc
    have HN := Lib.hid hc
    clear hc
    go_wp2_with (first
      | ((with_reducible show wpList _ _ _ (Oper.mk _ (Op.load _ _) _ _ _ _ :: _) _ _); refine v4_load (g := w.heap.size) rfl hg rfl ?_)
      | (go_at_call 91; refine (r5check q A c A' c' _ ho hd).mono ?_; rintro e w1 ⟨rfl, x1⟩))
    go_ret2
    exact ⟨_, rfl, fun _ => ⟨rfl, hBl.trans (x1.mono (by omega))⟩, fun h => absurd h HN.out⟩
end
end Go.Proofs.Ytkgbjohadkbjaaa
