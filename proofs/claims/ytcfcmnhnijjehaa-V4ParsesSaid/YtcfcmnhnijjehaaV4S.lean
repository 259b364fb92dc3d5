/-
  Contracts of the document's plain answers of layer 5: Size, Check. Conditions are each theorem's own.
-/
import Derived.Test.YtcfcmnhnijjehaaV4H
import Derived.Deep.Cut
import Derived.Deep.CutRange
namespace Go.Proofs.Ytcfcmnhnijjehaa
open Go.RowKit

section
variable (q : P4) (A : Option Addr) (c : Nat) (A' : Option Addr) (c' : Nat) (w : World)
set_option maxHeartbeats 1000000 in
theorem r5size (ho : q.opt.length ≤ 1000000) (hd : q.dat.length ≤ 1000000) : Calls Try.prog 18 #[v4v q A c A' c'] w fun e w' => e = .returned (.int .i64 (size4 q)) ∧ Below w.heap.size w w' := by
  have hB : Below w.heap.size w (w.alloc (.cells (v4a q A c A' c') 24)) := (Below.refl w.heap.size w).alloc (Nat.le_refl _) _
  have hAt := At4.new (q := q) (A := A) (c := c) (A' := A') (c' := c') w
  have hz : (w.alloc (.cells (v4a q A c A' c') 24)).heap.size = w.heap.size + 1 := by simp
  have HZ := Lib.hid (show size4 q = head4 q + (q.dat.length : Int) from rfl)
  have hh : head4 q = 20 + (q.opt.length : Int) := rfl
  have hhb : 0 ≤ head4 q ∧ head4 q ≤ 1000020 := by omega
  clear hh
  have HW := Lib.hid (IntWalk.i64_in (head4 q + (q.dat.length : Int)) (by omega))
  unfold v4v
  rw [show #[Value.int .i64 q.tos, .int .i64 q.id, .int .i64 q.off, .int .i64 q.ttl, .int .i64 q.proto, .int .i64 q.src, .int .i64 q.dst, .bool q.df, .bool q.mf, .slice A q.opt.length c, .slice A' q.dat.length c'] = v4a q A c A' c' from rfl]
  go_enter Try.func18, Try.ntmps18
  go_wp2_with fail
  generalize w.alloc (.cells (v4a q A c A' c') 24) = W at *
  refine wp_region_held_drew (S := fun w' => Below W.heap.size W w') (by kernel_rfl) (Below.refl _ W).drew (fun hS => ?_)
  refine held_pure (i := 0) (oi := ⟨some 3, _, _, _, _, _⟩) rfl (by kernel_rfl) (by kernel_rfl) (by kernel_rfl) (fun _ _ _ h => h) (by rfl) (fun w hSw => run_load_v4 rfl rfl (hAt.below hSw (by omega)) rfl) hS (fun hS => ?_)
  try go_frame
  refine held_pure (i := 2) (oi := ⟨some 5, _, _, _, _, _⟩) rfl (by kernel_rfl) (by kernel_rfl) (by kernel_rfl) (fun _ _ _ h => h) (by rfl) (v := ?_) (fun w hSw => ?_) hS (fun hS => ?_)
  rotate_left
  · go_simp; try with_reducible rfl
  try go_frame
  refine held_pure (i := 3) (oi := ⟨some 6, _, _, _, _, _⟩) rfl (by kernel_rfl) (by kernel_rfl) (by kernel_rfl) (fun _ _ _ h => h) (by rfl) (fun w hSw => run_load_sl rfl rfl (hAt.below hSw (by omega)).dat) hS (fun hS => ?_)
  try go_frame
  refine held_pure (i := 4) (oi := ⟨some 7, _, _, _, _, _⟩) rfl (by kernel_rfl) (by kernel_rfl) (by kernel_rfl) (fun _ _ _ h => h) (by rfl) (v := ?_) (fun w hSw => ?_) hS (fun hS => ?_)
  rotate_left
  · go_simp; try with_reducible rfl
  try go_frame
  refine wpAnyH_ready (rs := [1]) (by kernel_rfl) (by simp) (AllReadyH.cons (o := ⟨some 4, _, _, _, _, _⟩) rfl (fun K hK => ?_) AllReadyH.nil)
  rw [if_pos (by rfl)]
  go_simp
  refine (r5head q A c A' c' _ ho).mono ?_
  rintro e w1 ⟨rfl, x1⟩
  show K _ _
  refine hK.out _ _ (below_step hS x1) (fun hS => ?_)
  clear hK K
  try go_frame
  refine held_pure (i := 5) (oi := ⟨some 8, _, _, _, _, _⟩) rfl (by kernel_rfl) (by kernel_rfl) (by kernel_rfl) (fun _ _ _ h => h) (by rfl) (v := ?_) (fun w hSw => ?_) hS (fun hS => ?_)
  rotate_left
  · go_simp; try with_reducible rfl
  try go_frame
  refine held_pure (i := 6) (oi := ⟨some 2, _, _, _, _, _⟩) rfl (by kernel_rfl) (by kernel_rfl) (by kernel_rfl) (fun _ _ _ h => h) (by rfl) (v := ?_) (fun w hSw => ?_) hS (fun hS => ?_)
  rotate_left
  · go_simp; try with_reducible rfl
  try go_frame
  refine wpAnyH_done (by kernel_rfl) ?_ _
  go_wp2_with fail
  go_ret
  exact ⟨ret_int (by rw [HZ.out]; exact HW.out), hB.trans (hS.mono (by omega))⟩
def fieldsB (q : P4) : Bool := fitsB q.tos 1 && fitsB q.ttl 1 && fitsB q.proto 1 && fitsB q.id 2
def placesB (q : P4) : Bool := okB q.src && okB q.dst && decide (0 ≤ q.off) && decide (q.off ≤ 65528) && decide (q.off % 8 = 0)
def optsB (q : P4) : Bool := decide (q.opt.length ≤ 40) && decide (q.opt.length % 4 = 0)
theorem arg4_iff (q : P4) : arg4 q ↔ fieldsB q = true ∧ placesB q = true ∧ optsB q = true ∧ (q.mf = true → q.dat.length % 8 = 0) := by
  unfold arg4 fieldsB placesB optsB
  simp only [Bool.and_eq_true, fitsB_iff, okB, decide_eq_true_eq, pw]
  constructor
  · rintro ⟨a1, a2, a3, a4, a5, a6, a7, a8, a9, a10, a11, a12, a13, a14, a15, a16, a17, a18⟩
    refine ⟨⟨⟨⟨?_, ?_⟩, ?_⟩, ?_⟩, ⟨⟨⟨⟨?_, ?_⟩, ?_⟩, ?_⟩, ?_⟩, ⟨?_, ?_⟩, a18⟩ <;> (try simp) <;> omega
  · rintro ⟨⟨⟨⟨f1, f2⟩, f3⟩, f4⟩, ⟨⟨⟨⟨p1, p2⟩, p3⟩, p4⟩, p5⟩, ⟨o1, o2⟩, hm⟩
    simp at f1 f2 f3 f4
    refine ⟨?_, ?_, ?_, ?_, ?_, ?_, ?_, ?_, ?_, ?_, ?_, ?_, ?_, ?_, ?_, ?_, ?_, hm⟩ <;> omega
set_option maxRecDepth 100000 in
set_option maxHeartbeats 4000000 in
theorem r5check (ho : q.opt.length ≤ 1000000) (hd : q.dat.length ≤ 1000000) : Calls Try.prog 23 #[v4v q A c A' c'] w fun e w' => e = .returned (.int .i64 (chk4 q)) ∧ Below w.heap.size w w' := by
  have hB : Below w.heap.size w (w.alloc (.cells (v4a q A c A' c') 24)) := (Below.refl w.heap.size w).alloc (Nat.le_refl _) _
  have hAt := At4.new (q := q) (A := A) (c := c) (A' := A') (c' := c') w
  have hz : (w.alloc (.cells (v4a q A c A' c') 24)).heap.size = w.heap.size + 1 := by simp
  have hg := World.alloc_heap_new w (.cells (v4a q A c A' c') 24)
  have h0 := hAt.tos; have h1 := hAt.id; have h2 := hAt.off; have h3 := hAt.ttl; have h4 := hAt.proto; have h5 := hAt.src; have h6 := hAt.dst; have h8 := hAt.mf; have h9 := hAt.opt; have h10 := hAt.dat
  unfold v4v
  rw [show #[Value.int .i64 q.tos, .int .i64 q.id, .int .i64 q.off, .int .i64 q.ttl, .int .i64 q.proto, .int .i64 q.src, .int .i64 q.dst, .bool q.df, .bool q.mf, .slice A q.opt.length c, .slice A' q.dat.length c'] = v4a q A c A' c' from rfl]
  go_enter Try.func23, Try.ntmps23
  go_upto_region 1 with fail
  generalize w.alloc (.cells (v4a q A c A' c') 24) = W at *
  obtain ⟨f0, hf0⟩ : ∃ b, b = fitsB q.tos 1 := ⟨_, rfl⟩
  obtain ⟨f1, hf1⟩ : ∃ b, b = fitsB q.ttl 1 := ⟨_, rfl⟩
  obtain ⟨f2, hf2⟩ : ∃ b, b = fitsB q.proto 1 := ⟨_, rfl⟩
  obtain ⟨f3, hf3⟩ : ∃ b, b = fitsB q.id 2 := ⟨_, rfl⟩
  have HF := Lib.hid (show fieldsB q = (f0 && f1 && f2 && f3) from by rw [fieldsB, hf0, hf1, hf2, hf3])
  have H0 := Lib.hid hf0; have H1 := Lib.hid hf1; have H2 := Lib.hid hf2; have H3 := Lib.hid hf3
  clear hf0 hf1 hf2 hf3
  go_cut [3] from 6 (fun s w' => s = .bool (f0 && f1 && f2 && f3) ∧ w' = W)
  case first =>
    cases f0 <;> cases f1 <;> cases f2 <;> cases f3 <;> (
      go_wp2_with (go_at_call 55; refine (rfits_any _ _ _).mono ?_; rintro e w' ⟨rfl, rfl⟩; (first | rw [← H0.out] | rw [← H1.out] | rw [← H2.out] | rw [← H3.out]))
      go_meet
      exact ⟨rfl, rfl⟩)
  case rest =>
    obtain ⟨hs3, hwc⟩ := hcut
    subst hs3; subst hwc
    go_upto_region 2 with fail
    obtain ⟨g0, hg0⟩ : ∃ b, b = okB q.src := ⟨_, rfl⟩
    obtain ⟨g1, hg1⟩ : ∃ b, b = okB q.dst := ⟨_, rfl⟩
    have HG := Lib.hid (show placesB q = (g0 && g1 && decide (0 ≤ q.off) && decide (q.off ≤ 65528) && decide (q.off % 8 = 0)) from by rw [placesB, hg0, hg1])
    have G0 := Lib.hid hg0; have G1 := Lib.hid hg1
    clear hg0 hg1
    go_cut [4] from 24 (fun s w' => s = .bool (g0 && g1 && decide (0 ≤ q.off) && decide (q.off ≤ 65528) && decide (q.off % 8 = 0)) ∧ w' = wc)
    case first =>
      by_cases p0 : 0 ≤ q.off
      · have p0' : decide (0 ≤ q.off) = true := by simpa using p0
        have ptm : Int.tmod q.off 8 = q.off % 8 := Int.tmod_eq_emod_of_nonneg p0
        by_cases p1 : q.off ≤ 65528
        · have p1' : decide (q.off ≤ 65528) = true := by simpa using p1
          by_cases p2 : q.off % 8 = 0
          · have p2' : (q.off % 8 == 0) = true := by simpa using p2
            have E := Lib.hid (show decide (q.off % 8 = 0) = true by simpa using p2)
            have E1 := Lib.hid p0'; have E2 := Lib.hid p1'
            clear p2
            cases g0 <;> cases g1 <;> (
              go_wp2_with (go_at_call 56; refine (r3right_any _ _).mono ?_; rintro e w' ⟨rfl, rfl⟩; (first | rw [← G0.out] | rw [← G1.out]))
              go_meet
              exact ⟨by simp [E.out, E1.out, E2.out], rfl⟩)
          · have p2' : (q.off % 8 == 0) = false := by simpa using p2
            have E := Lib.hid (show decide (q.off % 8 = 0) = false by simpa using p2)
            have E1 := Lib.hid p0'; have E2 := Lib.hid p1'
            clear p2
            cases g0 <;> cases g1 <;> (
              go_wp2_with (go_at_call 56; refine (r3right_any _ _).mono ?_; rintro e w' ⟨rfl, rfl⟩; (first | rw [← G0.out] | rw [← G1.out]))
              go_meet
              exact ⟨by simp [E.out, E1.out, E2.out], rfl⟩)
        · have p1' : decide (q.off ≤ 65528) = false := by simpa using p1
          have E1 := Lib.hid p0'; have E2 := Lib.hid p1'
          cases g0 <;> cases g1 <;> (
            go_wp2_with (go_at_call 56; refine (r3right_any _ _).mono ?_; rintro e w' ⟨rfl, rfl⟩; (first | rw [← G0.out] | rw [← G1.out]))
            go_meet
            exact ⟨by simp [E1.out, E2.out], rfl⟩)
      · have p0' : decide (0 ≤ q.off) = false := by simpa using p0
        have E1 := Lib.hid p0'
        cases g0 <;> cases g1 <;> (
          go_wp2_with (go_at_call 56; refine (r3right_any _ _).mono ?_; rintro e w' ⟨rfl, rfl⟩; (first | rw [← G0.out] | rw [← G1.out]))
          go_meet
          exact ⟨by simp [E1.out], rfl⟩)
    case rest =>
      obtain ⟨hs4, hwc⟩ := hcut
      subst hs4; subst hwc
      rw [← HF.out, ← HG.out]
      clear HF HG H0 H1 H2 H3 G0 G1
      go_upto_region 3 with fail
      have tm4 : Int.tmod (q.opt.length : Int) 4 = (q.opt.length : Int) % 4 := Int.tmod_eq_emod_of_nonneg (by omega)
      have tm8 : Int.tmod (q.dat.length : Int) 8 = (q.dat.length : Int) % 8 := Int.tmod_eq_emod_of_nonneg (by omega)
      have HA := Lib.hid (arg4_iff q)
      have HC : Hid (chk4 q = if arg4 q then (if size4 q > 65535 ∨ q.off > 65535 - (q.dat.length : Int) then 6 else 0) else 1) := Lib.hid rfl
      have HP := Lib.hid (show placesB q = true → 0 ≤ q.off ∧ q.off ≤ 65528 from fun h => by simp [placesB] at h; omega)
      obtain ⟨F, hF⟩ : ∃ b, b = fieldsB q := ⟨_, rfl⟩
      obtain ⟨G, hG⟩ : ∃ b, b = placesB q := ⟨_, rfl⟩
      obtain ⟨O, hO⟩ : ∃ b, b = optsB q := ⟨_, rfl⟩
      have HO := Lib.hid (show O = (decide (q.opt.length ≤ 40) && decide (q.opt.length % 4 = 0)) from hO)
      rw [← hF, ← hG] 
      rw [← hF, ← hG, ← hO] at HA
      rw [← hG] at HP
      clear hF hG hO
      go_cut [5] from 48 (fun s w' => s = .bool O ∧ w' = wc)
      case first =>
        by_cases o1 : q.opt.length ≤ 40
        · by_cases o2 : q.opt.length % 4 = 0
          · have o2' : (((q.opt.length : Int) % 4) == 0) = true := by simp; omega
            have E := Lib.hid (show O = true by rw [HO.out]; simp [o1, o2])
            clear o2 HA HP
            go_wp2_with fail
            go_meet
            exact ⟨by rw [E.out], rfl⟩
          · have o2' : (((q.opt.length : Int) % 4) == 0) = false := by rw [beq_eq_false_iff_ne]; omega
            have E := Lib.hid (show O = false by rw [HO.out]; simp [o1, o2])
            clear o2 HA HP
            go_wp2_with fail
            go_meet
            exact ⟨by rw [E.out], rfl⟩
        · have o1' : decide ((q.opt.length : Int) ≤ 40) = false := by simp; omega
          have E := Lib.hid (show O = false by rw [HO.out]; simp [o1])
          clear o1 HA HP
          go_wp2_with fail
          go_meet
          exact ⟨by rw [E.out], rfl⟩
      case rest =>
        obtain ⟨hs5, hwc⟩ := hcut
        subst hs5; subst hwc
        have HQ : ∀ b : Bool, q.mf = b → Hid (q.mf = b) := fun b h => Lib.hid h
        by_cases hA : arg4 q
        · obtain ⟨rfl, rfl, rfl, hm⟩ := HA.out.1 hA
          have hp := HP.out rfl
          have hA' := hA
          have hsz0 : 0 ≤ size4 q ∧ size4 q ≤ 2000020 := by unfold size4 head4; omega
          clear hA HA HP
          cases hmf : q.mf
          · rw [hmf] at h8
            clear hmf HQ hm
            by_cases s1 : 65535 < size4 q
            · have HR : Hid (chk4 q = 6) := Lib.hid (by rw [HC.out, if_pos hA', if_pos (.inl s1)])
              clear HC hA'
              go_wp2_with (first
                | ((with_reducible show wpList _ _ _ (Oper.mk _ (Op.load _ _) _ _ _ _ :: _) _ _); refine v4_load (g := w.heap.size) rfl hg rfl ?_)
                | (go_at_call 18; refine (r5size q A c A' c' _ ho hd).mono ?_; rintro e ws ⟨rfl, bS⟩; have h2 := (bS.cell (p := ⟨w.heap.size, 2, none⟩) (by show w.heap.size < _; omega)).trans h2; have h10 := (bS.cell (p := ⟨w.heap.size, 10, none⟩) (by show w.heap.size < _; omega)).trans h10))
              go_ret
              exact ⟨ret_int HR.out.symm, hB.trans (bS.mono hB.size)⟩
            · by_cases s2 : 65535 - (q.dat.length : Int) < q.off
              · have HR : Hid (chk4 q = 6) := Lib.hid (by rw [HC.out, if_pos hA', if_pos (.inr s2)])
                clear HC hA'
                go_wp2_with (first
                | ((with_reducible show wpList _ _ _ (Oper.mk _ (Op.load _ _) _ _ _ _ :: _) _ _); refine v4_load (g := w.heap.size) rfl hg rfl ?_)
                | (go_at_call 18; refine (r5size q A c A' c' _ ho hd).mono ?_; rintro e ws ⟨rfl, bS⟩; have h2 := (bS.cell (p := ⟨w.heap.size, 2, none⟩) (by show w.heap.size < _; omega)).trans h2; have h10 := (bS.cell (p := ⟨w.heap.size, 10, none⟩) (by show w.heap.size < _; omega)).trans h10))
                go_ret
                exact ⟨ret_int HR.out.symm, hB.trans (bS.mono hB.size)⟩
              · have HR : Hid (chk4 q = 0) := Lib.hid (by rw [HC.out, if_pos hA', if_neg (by omega)])
                clear HC hA'
                go_wp2_with (first
                | ((with_reducible show wpList _ _ _ (Oper.mk _ (Op.load _ _) _ _ _ _ :: _) _ _); refine v4_load (g := w.heap.size) rfl hg rfl ?_)
                | (go_at_call 18; refine (r5size q A c A' c' _ ho hd).mono ?_; rintro e ws ⟨rfl, bS⟩; have h2 := (bS.cell (p := ⟨w.heap.size, 2, none⟩) (by show w.heap.size < _; omega)).trans h2; have h10 := (bS.cell (p := ⟨w.heap.size, 10, none⟩) (by show w.heap.size < _; omega)).trans h10))
                go_ret
                exact ⟨ret_int HR.out.symm, hB.trans (bS.mono hB.size)⟩
          · have h8l := hm hmf
            have h8' : (((q.dat.length : Int) % 8) != 0) = false := by simp; omega
            rw [hmf] at h8
            clear hmf HQ hm h8l
            by_cases s1 : 65535 < size4 q
            · have HR : Hid (chk4 q = 6) := Lib.hid (by rw [HC.out, if_pos hA', if_pos (.inl s1)])
              clear HC hA'
              go_wp2_with (first
                | ((with_reducible show wpList _ _ _ (Oper.mk _ (Op.load _ _) _ _ _ _ :: _) _ _); refine v4_load (g := w.heap.size) rfl hg rfl ?_)
                | (go_at_call 18; refine (r5size q A c A' c' _ ho hd).mono ?_; rintro e ws ⟨rfl, bS⟩; have h2 := (bS.cell (p := ⟨w.heap.size, 2, none⟩) (by show w.heap.size < _; omega)).trans h2; have h10 := (bS.cell (p := ⟨w.heap.size, 10, none⟩) (by show w.heap.size < _; omega)).trans h10))
              go_ret
              exact ⟨ret_int HR.out.symm, hB.trans (bS.mono hB.size)⟩
            · by_cases s2 : 65535 - (q.dat.length : Int) < q.off
              · have HR : Hid (chk4 q = 6) := Lib.hid (by rw [HC.out, if_pos hA', if_pos (.inr s2)])
                clear HC hA'
                go_wp2_with (first
                | ((with_reducible show wpList _ _ _ (Oper.mk _ (Op.load _ _) _ _ _ _ :: _) _ _); refine v4_load (g := w.heap.size) rfl hg rfl ?_)
                | (go_at_call 18; refine (r5size q A c A' c' _ ho hd).mono ?_; rintro e ws ⟨rfl, bS⟩; have h2 := (bS.cell (p := ⟨w.heap.size, 2, none⟩) (by show w.heap.size < _; omega)).trans h2; have h10 := (bS.cell (p := ⟨w.heap.size, 10, none⟩) (by show w.heap.size < _; omega)).trans h10))
                go_ret
                exact ⟨ret_int HR.out.symm, hB.trans (bS.mono hB.size)⟩
              · have HR : Hid (chk4 q = 0) := Lib.hid (by rw [HC.out, if_pos hA', if_neg (by omega)])
                clear HC hA'
                go_wp2_with (first
                | ((with_reducible show wpList _ _ _ (Oper.mk _ (Op.load _ _) _ _ _ _ :: _) _ _); refine v4_load (g := w.heap.size) rfl hg rfl ?_)
                | (go_at_call 18; refine (r5size q A c A' c' _ ho hd).mono ?_; rintro e ws ⟨rfl, bS⟩; have h2 := (bS.cell (p := ⟨w.heap.size, 2, none⟩) (by show w.heap.size < _; omega)).trans h2; have h10 := (bS.cell (p := ⟨w.heap.size, 10, none⟩) (by show w.heap.size < _; omega)).trans h10))
                go_ret
                exact ⟨ret_int HR.out.symm, hB.trans (bS.mono hB.size)⟩
        · have HR : Hid (chk4 q = 1) := Lib.hid (by rw [HC.out, if_neg hA])
          have hno : ¬ (F = true ∧ G = true ∧ O = true ∧ (q.mf = true → q.dat.length % 8 = 0)) := fun h => hA (HA.out.2 h)
          clear hA HA HC HP
          cases hmf : q.mf
          · rw [hmf] at h8 hno
            clear hmf HQ
            have hno' : ¬ (F = true ∧ G = true ∧ O = true) := fun h => hno ⟨h.1, h.2.1, h.2.2, fun e => by cases e⟩
            clear hno
            cases F <;> cases G <;> cases O <;> first
              | exact absurd ⟨rfl, rfl, rfl⟩ hno'
              | (clear hno'
                 go_wp2_with fail
                 go_ret
                 exact ⟨ret_int HR.out.symm, hB⟩)
          · rw [hmf] at h8 hno
            clear hmf HQ
            by_cases h8l : q.dat.length % 8 = 0
            · have h8' : (((q.dat.length : Int) % 8) != 0) = false := by simp; omega
              have hno' : ¬ (F = true ∧ G = true ∧ O = true) := fun h => hno ⟨h.1, h.2.1, h.2.2, fun _ => h8l⟩
              clear hno h8l
              cases F <;> cases G <;> cases O <;> first
                | exact absurd ⟨rfl, rfl, rfl⟩ hno'
                | (clear hno'
                   go_wp2_with fail
                   go_ret
                   exact ⟨ret_int HR.out.symm, hB⟩)
            · have h8' : (((q.dat.length : Int) % 8) != 0) = true := by simp; omega
              clear hno h8l
              cases F <;> cases G <;> cases O <;> (
                   go_wp2_with fail
                   go_ret
                   exact ⟨ret_int HR.out.symm, hB⟩)
end
end Go.Proofs.Ytcfcmnhnijjehaa
