/-
  Contracts and lemmas on which the proofs of this seat stand (several texts in one). Conditions are each theorem's own.
-/
import Derived.Test.YtcebobcakiljhaaMa2
import Derived.Deep.Cut
import Derived.Deep.CutRange
import Derived.Test.YtcebobcakiljhaaMa1
import Derived.Deep.WholeRow
import Derived.Deep.MidRow

/-
  Contracts of the document's plain answers of layer 5: Size, Check. Conditions are each theorem's own.
-/
namespace Go.Proofs.Ytcebobcakiljhaa
open Go.RowKit

section
variable (q : P4) (A : Option Addr) (c : Nat) (A' : Option Addr) (c' : Nat) (w : World)
set_option maxHeartbeats 1000000 in
theorem r5size (ho : q.opt.length ≤ 1000000) (hd : q.dat.length ≤ 1000000) : Calls Try.prog 31 #[v4v q A c A' c'] w fun e w' => e = .returned (.int .i64 (size4 q)) ∧ Below w.heap.size w w' := by
  have hB : Below w.heap.size w (w.alloc (.cells (v4a q A c A' c') 24)) := (Below.refl w.heap.size w).alloc (Nat.le_refl _) _
  have hAt := At4.new (q := q) (A := A) (c := c) (A' := A') (c' := c') w
  have hz : (w.alloc (.cells (v4a q A c A' c') 24)).heap.size = w.heap.size + 1 := by simp
  have HZ := Lib.hid (show size4 q = head4 q + (q.dat.length : Int) from rfl)
  have hh : head4 q = 20 + (q.opt.length : Int) := rfl
  have hhb : 0 ≤ head4 q ∧ head4 q ≤ 1000020 := by omega
  clear hh
  have HW := Lib.hid (IntWalk.i64_in (head4 q + (q.dat.length : Int)) (by omega))
  unfold v4v
  rw [show #[Value.int .i64 q.tos, .int .i64 q.id, .int .i64 q.off, .int .i64 q.ttl, .int .i64 q.proto, .int .i64 q.src, .int .i64 q.dst, .bool q.df, .bool q.mf, .slice A q.opt.length c, .slice A' q.dat.length c'] = v4a q A c A' c' from rfl]
  go_enter Try.func31, Try.ntmps31
  go_wp2_with fail
  generalize w.alloc (.cells (v4a q A c A' c') 24) = W at *
  refine wp_region_held_drew (S := fun w' => Below W.heap.size W w') (by kernel_rfl) (Below.refl _ W).drew (fun hS => ?_)
  refine held_pure (i := 0) (oi := ⟨some 3, _, _, _, _, _⟩) rfl (by kernel_rfl) (by kernel_rfl) (by kernel_rfl) (fun _ _ _ h => h) (by rfl) (fun w hSw => run_load_v4 rfl rfl (hAt.below hSw (by omega)) rfl) hS (fun hS => ?_)
  try go_frame
  refine held_pure (i := 2) (oi := ⟨some 5, _, _, _, _, _⟩) rfl (by kernel_rfl) (by kernel_rfl) (by kernel_rfl) (fun _ _ _ h => h) (by rfl) (v := ?_) (fun w hSw => ?_) hS (fun hS => ?_)
  rotate_left
  · go_simp; try with_reducible rfl
  try go_frame
  refine held_pure (i := 3) (oi := ⟨some 6, _, _, _, _, _⟩) rfl (by kernel_rfl) (by kernel_rfl) (by kernel_rfl) (fun _ _ _ h => h) (by rfl) (fun w hSw => run_load_sl rfl rfl (hAt.below hSw (by omega)).dat) hS (fun hS => ?_)
  try go_frame
  refine held_pure (i := 4) (oi := ⟨some 7, _, _, _, _, _⟩) rfl (by kernel_rfl) (by kernel_rfl) (by kernel_rfl) (fun _ _ _ h => h) (by rfl) (v := ?_) (fun w hSw => ?_) hS (fun hS => ?_)
  rotate_left
  · go_simp; try with_reducible rfl
  try go_frame
  refine wpAnyH_ready (rs := [1]) (by kernel_rfl) (by simp) (AllReadyH.cons (o := ⟨some 4, _, _, _, _, _⟩) rfl (fun K hK => ?_) AllReadyH.nil)
  rw [if_pos (by rfl)]
  go_simp
  refine (r5head q A c A' c' _ ho).mono ?_
  rintro e w1 ⟨rfl, x1⟩
  show K _ _
  refine hK.out _ _ (below_step hS x1) (fun hS => ?_)
  clear hK K
  try go_frame
  refine held_pure (i := 5) (oi := ⟨some 8, _, _, _, _, _⟩) rfl (by kernel_rfl) (by kernel_rfl) (by kernel_rfl) (fun _ _ _ h => h) (by rfl) (v := ?_) (fun w hSw => ?_) hS (fun hS => ?_)
  rotate_left
  · go_simp; try with_reducible rfl
  try go_frame
  refine held_pure (i := 6) (oi := ⟨some 2, _, _, _, _, _⟩) rfl (by kernel_rfl) (by kernel_rfl) (by kernel_rfl) (fun _ _ _ h => h) (by rfl) (v := ?_) (fun w hSw => ?_) hS (fun hS => ?_)
  rotate_left
  · go_simp; try with_reducible rfl
  try go_frame
  refine wpAnyH_done (by kernel_rfl) ?_ _
  go_wp2_with fail
  go_ret
  exact ⟨ret_int (by rw [HZ.out]; exact HW.out), hB.trans (hS.mono (by omega))⟩
def fieldsB (q : P4) : Bool := fitsB q.tos 1 && fitsB q.ttl 1 && fitsB q.proto 1 && fitsB q.id 2
def placesB (q : P4) : Bool := okB q.src && okB q.dst && decide (0 ≤ q.off) && decide (q.off ≤ 65528) && decide (q.off % 8 = 0)
def optsB (q : P4) : Bool := decide (q.opt.length ≤ 40) && decide (q.opt.length % 4 = 0)
theorem arg4_iff (q : P4) : arg4 q ↔ fieldsB q = true ∧ placesB q = true ∧ optsB q = true ∧ (q.mf = true → q.dat.length % 8 = 0) := by
  unfold arg4 fieldsB placesB optsB
  simp only [Bool.and_eq_true, fitsB_iff, okB, decide_eq_true_eq, pw]
  constructor
  · rintro ⟨a1, a2, a3, a4, a5, a6, a7, a8, a9, a10, a11, a12, a13, a14, a15, a16, a17, a18⟩
    refine ⟨⟨⟨⟨?_, ?_⟩, ?_⟩, ?_⟩, ⟨⟨⟨⟨?_, ?_⟩, ?_⟩, ?_⟩, ?_⟩, ⟨?_, ?_⟩, a18⟩ <;> (try simp) <;> omega
  · rintro ⟨⟨⟨⟨f1, f2⟩, f3⟩, f4⟩, ⟨⟨⟨⟨p1, p2⟩, p3⟩, p4⟩, p5⟩, ⟨o1, o2⟩, hm⟩
    simp at f1 f2 f3 f4
    refine ⟨?_, ?_, ?_, ?_, ?_, ?_, ?_, ?_, ?_, ?_, ?_, ?_, ?_, ?_, ?_, ?_, ?_, hm⟩ <;> omega
set_option maxRecDepth 100000 in
set_option maxHeartbeats 4000000 in
theorem r5check (ho : q.opt.length ≤ 1000000) (hd : q.dat.length ≤ 1000000) : Calls Try.prog 30 #[v4v q A c A' c'] w fun e w' => e = .returned (.int .i64 (chk4 q)) ∧ Below w.heap.size w w' := by
  have hB : Below w.heap.size w (w.alloc (.cells (v4a q A c A' c') 24)) := (Below.refl w.heap.size w).alloc (Nat.le_refl _) _
  have hAt := At4.new (q := q) (A := A) (c := c) (A' := A') (c' := c') w
  have hz : (w.alloc (.cells (v4a q A c A' c') 24)).heap.size = w.heap.size + 1 := by simp
  have hg := World.alloc_heap_new w (.cells (v4a q A c A' c') 24)
  have h0 := hAt.tos; have h1 := hAt.id; have h2 := hAt.off; have h3 := hAt.ttl; have h4 := hAt.proto; have h5 := hAt.src; have h6 := hAt.dst; have h8 := hAt.mf; have h9 := hAt.opt; have h10 := hAt.dat
  unfold v4v
  rw [show #[Value.int .i64 q.tos, .int .i64 q.id, .int .i64 q.off, .int .i64 q.ttl, .int .i64 q.proto, .int .i64 q.src, .int .i64 q.dst, .bool q.df, .bool q.mf, .slice A q.opt.length c, .slice A' q.dat.length c'] = v4a q A c A' c' from rfl]
  go_enter Try.func30, Try.ntmps30
  go_upto_region 1 with fail
  generalize w.alloc (.cells (v4a q A c A' c') 24) = W at *
  obtain ⟨f0, hf0⟩ : ∃ b, b = fitsB q.tos 1 := ⟨_, rfl⟩
  obtain ⟨f1, hf1⟩ : ∃ b, b = fitsB q.ttl 1 := ⟨_, rfl⟩
  obtain ⟨f2, hf2⟩ : ∃ b, b = fitsB q.proto 1 := ⟨_, rfl⟩
  obtain ⟨f3, hf3⟩ : ∃ b, b = fitsB q.id 2 := ⟨_, rfl⟩
  have HF := Lib.hid (show fieldsB q = (f0 && f1 && f2 && f3) from by rw [fieldsB, hf0, hf1, hf2, hf3])
  have H0 := Lib.hid hf0; have H1 := Lib.hid hf1; have H2 := Lib.hid hf2; have H3 := Lib.hid hf3
  clear hf0 hf1 hf2 hf3
  go_cut [3] from 6 (fun s w' => s = .bool (f0 && f1 && f2 && f3) ∧ w' = W)
  case first =>
    cases f0 <;> cases f1 <;> cases f2 <;> cases f3 <;> (
      go_wp2_with (go_at_call 46; refine (rfits_any _ _ _).mono ?_; rintro e w' ⟨rfl, rfl⟩; (first | rw [← H0.out] | rw [← H1.out] | rw [← H2.out] | rw [← H3.out]))
      go_meet
      exact ⟨rfl, rfl⟩)
  case rest =>
    obtain ⟨hs3, hwc⟩ := hcut
    subst hs3; subst hwc
    go_upto_region 2 with fail
    obtain ⟨g0, hg0⟩ : ∃ b, b = okB q.src := ⟨_, rfl⟩
    obtain ⟨g1, hg1⟩ : ∃ b, b = okB q.dst := ⟨_, rfl⟩
    have HG := Lib.hid (show placesB q = (g0 && g1 && decide (0 ≤ q.off) && decide (q.off ≤ 65528) && decide (q.off % 8 = 0)) from by rw [placesB, hg0, hg1])
    have G0 := Lib.hid hg0; have G1 := Lib.hid hg1
    clear hg0 hg1
    go_cut [4] from 24 (fun s w' => s = .bool (g0 && g1 && decide (0 ≤ q.off) && decide (q.off ≤ 65528) && decide (q.off % 8 = 0)) ∧ w' = wc)
    case first =>
      by_cases p0 : 0 ≤ q.off
      · have p0' : decide (0 ≤ q.off) = true := by simpa using p0
        have ptm : Int.tmod q.off 8 = q.off % 8 := Int.tmod_eq_emod_of_nonneg p0
        by_cases p1 : q.off ≤ 65528
        · have p1' : decide (q.off ≤ 65528) = true := by simpa using p1
          by_cases p2 : q.off % 8 = 0
          · have p2' : (q.off % 8 == 0) = true := by simpa using p2
            have E := Lib.hid (show decide (q.off % 8 = 0) = true by simpa using p2)
            have E1 := Lib.hid p0'; have E2 := Lib.hid p1'
            clear p2
            cases g0 <;> cases g1 <;> (
              go_wp2_with (go_at_call 55; refine (r3right_any _ _).mono ?_; rintro e w' ⟨rfl, rfl⟩; (first | rw [← G0.out] | rw [← G1.out]))
              go_meet
              exact ⟨by simp [E.out, E1.out, E2.out], rfl⟩)
          · have p2' : (q.off % 8 == 0) = false := by simpa using p2
            have E := Lib.hid (show decide (q.off % 8 = 0) = false by simpa using p2)
            have E1 := Lib.hid p0'; have E2 := Lib.hid p1'
            clear p2
            cases g0 <;> cases g1 <;> (
              go_wp2_with (go_at_call 55; refine (r3right_any _ _).mono ?_; rintro e w' ⟨rfl, rfl⟩; (first | rw [← G0.out] | rw [← G1.out]))
              go_meet
              exact ⟨by simp [E.out, E1.out, E2.out], rfl⟩)
        · have p1' : decide (q.off ≤ 65528) = false := by simpa using p1
          have E1 := Lib.hid p0'; have E2 := Lib.hid p1'
          cases g0 <;> cases g1 <;> (
            go_wp2_with (go_at_call 55; refine (r3right_any _ _).mono ?_; rintro e w' ⟨rfl, rfl⟩; (first | rw [← G0.out] | rw [← G1.out]))
            go_meet
            exact ⟨by simp [E1.out, E2.out], rfl⟩)
      · have p0' : decide (0 ≤ q.off) = false := by simpa using p0
        have E1 := Lib.hid p0'
        cases g0 <;> cases g1 <;> (
          go_wp2_with (go_at_call 55; refine (r3right_any _ _).mono ?_; rintro e w' ⟨rfl, rfl⟩; (first | rw [← G0.out] | rw [← G1.out]))
          go_meet
          exact ⟨by simp [E1.out], rfl⟩)
    case rest =>
      obtain ⟨hs4, hwc⟩ := hcut
      subst hs4; subst hwc
      rw [← HF.out, ← HG.out]
      clear HF HG H0 H1 H2 H3 G0 G1
      go_upto_region 3 with fail
      have tm4 : Int.tmod (q.opt.length : Int) 4 = (q.opt.length : Int) % 4 := Int.tmod_eq_emod_of_nonneg (by omega)
      have tm8 : Int.tmod (q.dat.length : Int) 8 = (q.dat.length : Int) % 8 := Int.tmod_eq_emod_of_nonneg (by omega)
      have HA := Lib.hid (arg4_iff q)
      have HC : Hid (chk4 q = if arg4 q then (if size4 q > 65535 ∨ q.off > 65535 - (q.dat.length : Int) then 6 else 0) else 1) := Lib.hid rfl
      have HP := Lib.hid (show placesB q = true → 0 ≤ q.off ∧ q.off ≤ 65528 from fun h => by simp [placesB] at h; omega)
      obtain ⟨F, hF⟩ : ∃ b, b = fieldsB q := ⟨_, rfl⟩
      obtain ⟨G, hG⟩ : ∃ b, b = placesB q := ⟨_, rfl⟩
      obtain ⟨O, hO⟩ : ∃ b, b = optsB q := ⟨_, rfl⟩
      have HO := Lib.hid (show O = (decide (q.opt.length ≤ 40) && decide (q.opt.length % 4 = 0)) from hO)
      rw [← hF, ← hG] 
      rw [← hF, ← hG, ← hO] at HA
      rw [← hG] at HP
      clear hF hG hO
      go_cut [5] from 48 (fun s w' => s = .bool O ∧ w' = wc)
      case first =>
        by_cases o1 : q.opt.length ≤ 40
        · by_cases o2 : q.opt.length % 4 = 0
          · have o2' : (((q.opt.length : Int) % 4) == 0) = true := by simp; omega
            have E := Lib.hid (show O = true by rw [HO.out]; simp [o1, o2])
            clear o2 HA HP
            go_wp2_with fail
            go_meet
            exact ⟨by rw [E.out], rfl⟩
          · have o2' : (((q.opt.length : Int) % 4) == 0) = false := by rw [beq_eq_false_iff_ne]; omega
            have E := Lib.hid (show O = false by rw [HO.out]; simp [o1, o2])
            clear o2 HA HP
            go_wp2_with fail
            go_meet
            exact ⟨by rw [E.out], rfl⟩
        · have o1' : decide ((q.opt.length : Int) ≤ 40) = false := by simp; omega
          have E := Lib.hid (show O = false by rw [HO.out]; simp [o1])
          clear o1 HA HP
          go_wp2_with fail
          go_meet
          exact ⟨by rw [E.out], rfl⟩
      case rest =>
        obtain ⟨hs5, hwc⟩ := hcut
        subst hs5; subst hwc
        have HQ : ∀ b : Bool, q.mf = b → Hid (q.mf = b) := fun b h => Lib.hid h
        by_cases hA : arg4 q
        · obtain ⟨rfl, rfl, rfl, hm⟩ := HA.out.1 hA
          have hp := HP.out rfl
          have hA' := hA
          have hsz0 : 0 ≤ size4 q ∧ size4 q ≤ 2000020 := by unfold size4 head4; omega
          clear hA HA HP
          cases hmf : q.mf
          · rw [hmf] at h8
            clear hmf HQ hm
            by_cases s1 : 65535 < size4 q
            · have HR : Hid (chk4 q = 6) := Lib.hid (by rw [HC.out, if_pos hA', if_pos (.inl s1)])
              clear HC hA'
              go_wp2_with (first
                | ((with_reducible show wpList _ _ _ (Oper.mk _ (Op.load _ _) _ _ _ _ :: _) _ _); refine v4_load (g := w.heap.size) rfl hg rfl ?_)
                | (go_at_call 31; refine (r5size q A c A' c' _ ho hd).mono ?_; rintro e ws ⟨rfl, bS⟩; have h2 := (bS.cell (p := ⟨w.heap.size, 2, none⟩) (by show w.heap.size < _; omega)).trans h2; have h10 := (bS.cell (p := ⟨w.heap.size, 10, none⟩) (by show w.heap.size < _; omega)).trans h10))
              go_ret
              exact ⟨ret_int HR.out.symm, hB.trans (bS.mono hB.size)⟩
            · by_cases s2 : 65535 - (q.dat.length : Int) < q.off
              · have HR : Hid (chk4 q = 6) := Lib.hid (by rw [HC.out, if_pos hA', if_pos (.inr s2)])
                clear HC hA'
                go_wp2_with (first
                | ((with_reducible show wpList _ _ _ (Oper.mk _ (Op.load _ _) _ _ _ _ :: _) _ _); refine v4_load (g := w.heap.size) rfl hg rfl ?_)
                | (go_at_call 31; refine (r5size q A c A' c' _ ho hd).mono ?_; rintro e ws ⟨rfl, bS⟩; have h2 := (bS.cell (p := ⟨w.heap.size, 2, none⟩) (by show w.heap.size < _; omega)).trans h2; have h10 := (bS.cell (p := ⟨w.heap.size, 10, none⟩) (by show w.heap.size < _; omega)).trans h10))
                go_ret
                exact ⟨ret_int HR.out.symm, hB.trans (bS.mono hB.size)⟩
              · have HR : Hid (chk4 q = 0) := Lib.hid (by rw [HC.out, if_pos hA', if_neg (by omega)])
                clear HC hA'
                go_wp2_with (first
                | ((with_reducible show wpList _ _ _ (Oper.mk _ (Op.load _ _) _ _ _ _ :: _) _ _); refine v4_load (g := w.heap.size) rfl hg rfl ?_)
                | (go_at_call 31; refine (r5size q A c A' c' _ ho hd).mono ?_; rintro e ws ⟨rfl, bS⟩; have h2 := (bS.cell (p := ⟨w.heap.size, 2, none⟩) (by show w.heap.size < _; omega)).trans h2; have h10 := (bS.cell (p := ⟨w.heap.size, 10, none⟩) (by show w.heap.size < _; omega)).trans h10))
                go_ret
                exact ⟨ret_int HR.out.symm, hB.trans (bS.mono hB.size)⟩
          · have h8l := hm hmf
            have h8' : (((q.dat.length : Int) % 8) != 0) = false := by simp; omega
            rw [hmf] at h8
            clear hmf HQ hm h8l
            by_cases s1 : 65535 < size4 q
            · have HR : Hid (chk4 q = 6) := Lib.hid (by rw [HC.out, if_pos hA', if_pos (.inl s1)])
              clear HC hA'
              go_wp2_with (first
                | ((with_reducible show wpList _ _ _ (Oper.mk _ (Op.load _ _) _ _ _ _ :: _) _ _); refine v4_load (g := w.heap.size) rfl hg rfl ?_)
                | (go_at_call 31; refine (r5size q A c A' c' _ ho hd).mono ?_; rintro e ws ⟨rfl, bS⟩; have h2 := (bS.cell (p := ⟨w.heap.size, 2, none⟩) (by show w.heap.size < _; omega)).trans h2; have h10 := (bS.cell (p := ⟨w.heap.size, 10, none⟩) (by show w.heap.size < _; omega)).trans h10))
              go_ret
              exact ⟨ret_int HR.out.symm, hB.trans (bS.mono hB.size)⟩
            · by_cases s2 : 65535 - (q.dat.length : Int) < q.off
              · have HR : Hid (chk4 q = 6) := Lib.hid (by rw [HC.out, if_pos hA', if_pos (.inr s2)])
                clear HC hA'
                go_wp2_with (first
                | ((with_reducible show wpList _ _ _ (Oper.mk _ (Op.load _ _) _ _ _ _ :: _) _ _); refine v4_load (g := w.heap.size) rfl hg rfl ?_)
                | (go_at_call 31; refine (r5size q A c A' c' _ ho hd).mono ?_; rintro e ws ⟨rfl, bS⟩; have h2 := (bS.cell (p := ⟨w.heap.size, 2, none⟩) (by show w.heap.size < _; omega)).trans h2; have h10 := (bS.cell (p := ⟨w.heap.size, 10, none⟩) (by show w.heap.size < _; omega)).trans h10))
                go_ret
                exact ⟨ret_int HR.out.symm, hB.trans (bS.mono hB.size)⟩
              · have HR : Hid (chk4 q = 0) := Lib.hid (by rw [HC.out, if_pos hA', if_neg (by omega)])
                clear HC hA'
                go_wp2_with (first
                | ((with_reducible show wpList _ _ _ (Oper.mk _ (Op.load _ _) _ _ _ _ :: _) _ _); refine v4_load (g := w.heap.size) rfl hg rfl ?_)
                | (go_at_call 31; refine (r5size q A c A' c' _ ho hd).mono ?_; rintro e ws ⟨rfl, bS⟩; have h2 := (bS.cell (p := ⟨w.heap.size, 2, none⟩) (by show w.heap.size < _; omega)).trans h2; have h10 := (bS.cell (p := ⟨w.heap.size, 10, none⟩) (by show w.heap.size < _; omega)).trans h10))
                go_ret
                exact ⟨ret_int HR.out.symm, hB.trans (bS.mono hB.size)⟩
        · have HR : Hid (chk4 q = 1) := Lib.hid (by rw [HC.out, if_neg hA])
          have hno : ¬ (F = true ∧ G = true ∧ O = true ∧ (q.mf = true → q.dat.length % 8 = 0)) := fun h => hA (HA.out.2 h)
          clear hA HA HC HP
          cases hmf : q.mf
          · rw [hmf] at h8 hno
            clear hmf HQ
            have hno' : ¬ (F = true ∧ G = true ∧ O = true) := fun h => hno ⟨h.1, h.2.1, h.2.2, fun e => by cases e⟩
            clear hno
            cases F <;> cases G <;> cases O <;> first
              | exact absurd ⟨rfl, rfl, rfl⟩ hno'
              | (clear hno'
                 go_wp2_with fail
                 go_ret
                 exact ⟨ret_int HR.out.symm, hB⟩)
          · rw [hmf] at h8 hno
            clear hmf HQ
            by_cases h8l : q.dat.length % 8 = 0
            · have h8' : (((q.dat.length : Int) % 8) != 0) = false := by simp; omega
              have hno' : ¬ (F = true ∧ G = true ∧ O = true) := fun h => hno ⟨h.1, h.2.1, h.2.2, fun _ => h8l⟩
              clear hno h8l
              cases F <;> cases G <;> cases O <;> first
                | exact absurd ⟨rfl, rfl, rfl⟩ hno'
                | (clear hno'
                   go_wp2_with fail
                   go_ret
                   exact ⟨ret_int HR.out.symm, hB⟩)
            · have h8' : (((q.dat.length : Int) % 8) != 0) = true := by simp; omega
              clear hno h8l
              cases F <;> cases G <;> cases O <;> (
                   go_wp2_with fail
                   go_ret
                   exact ⟨ret_int HR.out.symm, hB⟩)
end
end Go.Proofs.Ytcebobcakiljhaa

/-
  Contracts of the document's plain answers of layer 5: Same, num. Conditions are each theorem's own.
-/
namespace Go.Proofs.Ytcebobcakiljhaa
open Go.RowKit

/-- Are two packets the same? A plain definition. -/
def same4 (q r : P4) : Bool := (q.tos == r.tos && q.id == r.id && q.off == r.off && q.ttl == r.ttl && q.proto == r.proto && q.src == r.src && q.dst == r.dst) && (q.df == r.df) && (q.mf == r.mf) && decide (q.opt = r.opt) && decide (q.dat = r.dat)
theorem same4_iff {q r : P4} : same4 q r = true ↔ q = r := by
  obtain ⟨a0, a1, a2, a3, a4, a5, a6, a7, a8, a9, a10⟩ := q
  obtain ⟨b0, b1, b2, b3, b4, b5, b6, b7, b8, b9, b10⟩ := r
  simp only [same4, Bool.and_eq_true, beq_iff_eq, decide_eq_true_eq, P4.mk.injEq]
  constructor
  · rintro ⟨⟨⟨⟨⟨⟨⟨⟨⟨⟨h0, h1⟩, h2⟩, h3⟩, h4⟩, h5⟩, h6⟩, h7⟩, h8⟩, h9⟩, h10⟩; exact ⟨h0, h1, h2, h3, h4, h5, h6, h7, h8, h9, h10⟩
  · rintro ⟨h0, h1, h2, h3, h4, h5, h6, h7, h8, h9, h10⟩; exact ⟨⟨⟨⟨⟨⟨⟨⟨⟨⟨h0, h1⟩, h2⟩, h3⟩, h4⟩, h5⟩, h6⟩, h7⟩, h8⟩, h9⟩, h10⟩
set_option maxRecDepth 100000 in
set_option maxHeartbeats 4000000 in
theorem r5same (q r : P4) (A : Option Addr) (c : Nat) (A' : Option Addr) (c' : Nat) (X : Option Addr) (d : Nat) (X' : Option Addr) (d' B : Nat) (w : World) (hB : B ≤ w.heap.size)
    (hA : Rd w B A q.opt) (hA' : Rd w B A' q.dat) (hX : Rd w B X r.opt) (hX' : Rd w B X' r.dat) :
    Calls Try.prog 17 #[v4v q A c A' c', v4v r X d X' d'] w fun e w' => e = .returned (.bool (same4 q r)) ∧ Below w.heap.size w w' := by
  have hBl : ∀ o1 o2, Below w.heap.size w ((w.alloc o1).alloc o2) := fun o1 o2 => ((Below.refl w.heap.size w).alloc (Nat.le_refl _) o1).alloc (by simp) o2
  have at1 : At4 ((w.alloc (.cells (v4a q A c A' c') 24)).alloc (.cells (v4a r X d X' d') 24)) w.heap.size q A c A' c' := (At4.new w).below ((Below.refl (w.heap.size + 1) _).alloc (by simp) _) (by omega)
  have at2 : At4 ((w.alloc (.cells (v4a q A c A' c') 24)).alloc (.cells (v4a r X d X' d') 24)) (w.heap.size + 1) r X d X' d' := by
    have := At4.new (q := r) (A := X) (c := d) (A' := X') (c' := d') (w.alloc (.cells (v4a q A c A' c') 24))
    rwa [show (w.alloc (.cells (v4a q A c A' c') 24)).heap.size = w.heap.size + 1 from by simp] at this
  have keep : ∀ {Y : Option Addr} {bs : List UInt8}, Rd w B Y bs → Rd ((w.alloc (.cells (v4a q A c A' c') 24)).alloc (.cells (v4a r X d X' d') 24)) B Y bs := fun h => h.below ((hBl _ _).mono hB)
  obtain ⟨W, hW⟩ : ∃ W, W = (w.alloc (.cells (v4a q A c A' c') 24)).alloc (.cells (v4a r X d X' d') 24) := ⟨_, rfl⟩
  have HB2 : Below w.heap.size w W := by rw [hW]; exact hBl _ _
  rw [← hW] at at1 at2
  have c1 := conv_any A q.opt c B W (by rw [hW]; exact keep hA)
  have c2 := conv_any A' q.dat c' B W (by rw [hW]; exact keep hA')
  have c3 := conv_any X r.opt d B W (by rw [hW]; exact keep hX)
  have c4 := conv_any X' r.dat d' B W (by rw [hW]; exact keep hX')
  have x0 := at1.tos; have x1 := at1.id; have x2 := at1.off; have x3 := at1.ttl; have x4 := at1.proto; have x5 := at1.src; have x6 := at1.dst; have x7 := at1.df; have x8 := at1.mf; have x9 := at1.opt; have x10 := at1.dat
  have y0 := at2.tos; have y1 := at2.id; have y2 := at2.off; have y3 := at2.ttl; have y4 := at2.proto; have y5 := at2.src; have y6 := at2.dst; have y7 := at2.df; have y8 := at2.mf; have y9 := at2.opt; have y10 := at2.dat
  have HS := Lib.hid (show same4 q r = ((q.tos == r.tos && q.id == r.id && q.off == r.off && q.ttl == r.ttl && q.proto == r.proto && q.src == r.src && q.dst == r.dst) && (q.df == r.df) && (q.mf == r.mf) && decide (q.opt = r.opt) && decide (q.dat = r.dat)) from rfl)
  clear at1 at2 keep hA hA' hX hX' hBl
  have HWW := Lib.hid hW
  unfold v4v
  rw [show #[Value.int .i64 q.tos, .int .i64 q.id, .int .i64 q.off, .int .i64 q.ttl, .int .i64 q.proto, .int .i64 q.src, .int .i64 q.dst, .bool q.df, .bool q.mf, .slice A q.opt.length c, .slice A' q.dat.length c'] = v4a q A c A' c' from rfl,
    show #[Value.int .i64 r.tos, .int .i64 r.id, .int .i64 r.off, .int .i64 r.ttl, .int .i64 r.proto, .int .i64 r.src, .int .i64 r.dst, .bool r.df, .bool r.mf, .slice X r.opt.length d, .slice X' r.dat.length d'] = v4a r X d X' d' from rfl]
  clear hW
  go_enter Try.func17, Try.ntmps17
  go_upto_region 1 with fail
  rw [← HWW.out]
  go_cut [5] from 6 (fun s w' => s = .bool (q.tos == r.tos && q.id == r.id && q.off == r.off && q.ttl == r.ttl && q.proto == r.proto && q.src == r.src && q.dst == r.dst) ∧ w' = W)
  case first =>
    cases e0 : (q.tos == r.tos)
    · go_wp2_with fail
      go_meet
      exact ⟨by rw [e0]; rfl, rfl⟩
    · skip
      cases e1 : (q.id == r.id)
      · go_wp2_with fail
        go_meet
        exact ⟨by rw [e0, e1]; rfl, rfl⟩
      · skip
        cases e2 : (q.off == r.off)
        · go_wp2_with fail
          go_meet
          exact ⟨by rw [e0, e1, e2]; rfl, rfl⟩
        · skip
          cases e3 : (q.ttl == r.ttl)
          · go_wp2_with fail
            go_meet
            exact ⟨by rw [e0, e1, e2, e3]; rfl, rfl⟩
          · skip
            cases e4 : (q.proto == r.proto)
            · go_wp2_with fail
              go_meet
              exact ⟨by rw [e0, e1, e2, e3, e4]; rfl, rfl⟩
            · skip
              cases e5 : (q.src == r.src)
              · go_wp2_with fail
                go_meet
                exact ⟨by rw [e0, e1, e2, e3, e4, e5]; rfl, rfl⟩
              · skip
                cases e6 : (q.dst == r.dst)
                · go_wp2_with fail
                  go_meet
                  exact ⟨by rw [e0, e1, e2, e3, e4, e5, e6]; rfl, rfl⟩
                · go_wp2_with fail
                  go_meet
                  exact ⟨by rw [e0, e1, e2, e3, e4, e5, e6]; rfl, rfl⟩
  case rest =>
    obtain ⟨hs5, hwc⟩ := hcut
    subst hs5
    rw [hwc]
    clear hwc x0 x1 x2 x3 x4 x5 x6 y0 y1 y2 y3 y4 y5 y6
    obtain ⟨K, hK⟩ : ∃ b, b = (q.tos == r.tos && q.id == r.id && q.off == r.off && q.ttl == r.ttl && q.proto == r.proto && q.src == r.src && q.dst == r.dst) := ⟨_, rfl⟩
    rw [← hK] at HS ⊢
    clear hK
    have q1 := strB_eq q.opt r.opt
    have q2 := strB_eq q.dat r.dat
    cases K
    · clear q1 q2
      go_wp2_with fail
      go_ret
      exact ⟨ret_bool (by rw [HS.out]; rfl), HB2⟩
    · cases e7 : (q.df == r.df)
      · clear q1 q2
        go_wp2_with fail
        go_ret
        exact ⟨ret_bool (by rw [HS.out, e7]; rfl), HB2⟩
      · cases e8 : (q.mf == r.mf)
        · clear q1 q2
          go_wp2_with fail
          go_ret
          exact ⟨ret_bool (by rw [HS.out, e7, e8]; rfl), HB2⟩
        · cases e9 : decide (q.opt = r.opt)
          · rw [e9] at q1
            go_wp2_with fail
            go_ret
            exact ⟨ret_bool (by rw [HS.out, e7, e8, e9]; rfl), HB2⟩
          · rw [e9] at q1
            cases e10 : decide (q.dat = r.dat)
            · rw [e10] at q2
              go_wp2_with fail
              go_ret
              exact ⟨ret_bool (by rw [HS.out, e7, e8, e9, e10]; rfl), HB2⟩
            · rw [e10] at q2
              go_wp2_with fail
              go_ret
              exact ⟨ret_bool (by rw [HS.out, e7, e8, e9, e10]; rfl), HB2⟩
end Go.Proofs.Ytcebobcakiljhaa

/-
  Packets of IPv4, there and back: what is built is parsed, what is parsed is built. Plain lists of bytes, no program. Conditions are each theorem's own.
-/
namespace Go.Proofs.Ytcebobcakiljhaa
open Go.RowKit

theorem chk4_ok {q : P4} (h : chk4 q = 0) : arg4 q ∧ size4 q ≤ 65535 ∧ q.off + (q.dat.length : Int) ≤ 65535 := by
  unfold chk4 at h
  split at h
  · rename_i ha
    split at h
    · cases h
    · exact ⟨ha, by omega, by omega⟩
  · cases h
/-- The head's twenty bytes. -/
def l20 (q : P4) : List UInt8 := hda q (size4 q) ++ be2 (sum4 q) ++ [u8 (q.src / 16777216), u8 (q.src / 65536), u8 (q.src / 256), u8 q.src, u8 (q.dst / 16777216), u8 (q.dst / 65536), u8 (q.dst / 256), u8 q.dst]
theorem bld4_l20 (q : P4) (more : List UInt8) : bld4 q ++ more = l20 q ++ (q.opt ++ (q.dat ++ more)) := by
  simp [bld4, hd4, l20, hdb, List.append_assoc]
theorem hd4_l20 (q : P4) : hd4 q (size4 q) (sum4 q) = l20 q ++ q.opt := by simp [hd4, l20, hdb, List.append_assoc]
theorem l20_len (q : P4) : (l20 q).length = 20 := by simp [l20, hda, be2]
section
variable {q : P4} {more : List UInt8}
theorem byt_b (i : Nat) (hi : i < 20) : byt (bld4 q ++ more) i = byt (l20 q) i := by
  rw [bld4_l20]; exact byt_left (by rw [l20_len]; exact hi)
theorem back_fields (h : chk4 q = 0) :
    hlen (bld4 q ++ more) = head4 q ∧ byt (bld4 q ++ more) 0 / 16 = 4 ∧ n2 (bld4 q ++ more) 2 = size4 q ∧ n2 (bld4 q ++ more) 6 = flags4 q ∧ n2 (bld4 q ++ more) 4 = q.id ∧ byt (bld4 q ++ more) 1 = q.tos ∧ byt (bld4 q ++ more) 8 = q.ttl ∧
      byt (bld4 q ++ more) 9 = q.proto ∧ n4 (bld4 q ++ more) 12 = q.src ∧ n4 (bld4 q ++ more) 16 = q.dst := by
  obtain ⟨⟨a1, a2, a3, a4, a5, a6, a7, a8, a9, a10, a11, a12, a13, a14, a15, a16, a17, a18⟩, hs, ho⟩ := chk4_ok h
  have hh : head4 q = 20 + (q.opt.length : Int) := rfl
  have hz : size4 q = head4 q + (q.dat.length : Int) := rfl
  have hf : 0 ≤ flags4 q ∧ flags4 q < 32768 := by unfold flags4 bit; split <;> split <;> omega
  have b : ∀ i, i < 20 → byt (bld4 q ++ more) i = byt (l20 q) i := fun i hi => byt_b i hi
  have c0 : byt (l20 q) 0 = (64 + head4 q / 4) % 256 := u8_val _
  have c1 : byt (l20 q) 1 = q.tos % 256 := u8_val _
  have c2 : byt (l20 q) 2 = size4 q / 256 % 256 := u8_val _
  have c3 : byt (l20 q) 3 = size4 q % 256 := u8_val _
  have c4 : byt (l20 q) 4 = q.id / 256 % 256 := u8_val _
  have c5 : byt (l20 q) 5 = q.id % 256 := u8_val _
  have c6 : byt (l20 q) 6 = flags4 q / 256 % 256 := u8_val _
  have c7 : byt (l20 q) 7 = flags4 q % 256 := u8_val _
  have c8 : byt (l20 q) 8 = q.ttl % 256 := u8_val _
  have c9 : byt (l20 q) 9 = q.proto % 256 := u8_val _
  have c12 : byt (l20 q) 12 = q.src / 16777216 % 256 := u8_val _
  have c13 : byt (l20 q) 13 = q.src / 65536 % 256 := u8_val _
  have c14 : byt (l20 q) 14 = q.src / 256 % 256 := u8_val _
  have c15 : byt (l20 q) 15 = q.src % 256 := u8_val _
  have c16 : byt (l20 q) 16 = q.dst / 16777216 % 256 := u8_val _
  have c17 : byt (l20 q) 17 = q.dst / 65536 % 256 := u8_val _
  have c18 : byt (l20 q) 18 = q.dst / 256 % 256 := u8_val _
  have c19 : byt (l20 q) 19 = q.dst % 256 := u8_val _
  unfold hlen n2 n4
  rw [b 0 (by omega), b 1 (by omega), b 2 (by omega), b 3 (by omega), b 4 (by omega), b 5 (by omega), b 6 (by omega), b 7 (by omega), b 8 (by omega), b 9 (by omega), b 12 (by omega), b 13 (by omega), b 14 (by omega), b 15 (by omega),
    b 16 (by omega), b 17 (by omega), b 18 (by omega), b 19 (by omega), c0, c1, c2, c3, c4, c5, c6, c7, c8, c9, c12, c13, c14, c15, c16, c17, c18, c19]
  clear b c0 c1 c2 c3 c4 c5 c6 c7 c8 c9 c12 c13 c14 c15 c16 c17 c18 c19 h
  have h4 : head4 q % 4 = 0 := by omega
  refine ⟨by omega, by omega, by omega, by omega, by omega, by omega, by omega, by omega, by omega, by omega⟩
theorem back_take (n : Nat) (hn : n = 20 + q.opt.length) : (bld4 q ++ more).take n = hd4 q (size4 q) (sum4 q) := by
  rw [bld4, List.append_assoc, List.take_left' (by rw [hd4_len, hn])]
theorem back_raw (h : chk4 q = 0) : raw4 (bld4 q ++ more) = q := by
  obtain ⟨f0, f1, f2, f3, f4, f5, f6, f7, f8, f9⟩ := back_fields (more := more) h
  obtain ⟨⟨a1, a2, a3, a4, a5, a6, a7, a8, a9, a10, a11, a12, a13, a14, a15, a16, a17, a18⟩, hs, ho⟩ := chk4_ok h
  have hh : head4 q = 20 + (q.opt.length : Int) := rfl
  have hz : size4 q = head4 q + (q.dat.length : Int) := rfl
  have hl : (bld4 q ++ more).length = 20 + q.opt.length + q.dat.length + more.length := by rw [List.length_append, bld4_len]
  have d1 : (head4 q).toNat = 20 + q.opt.length := by omega
  have d2 : (min (size4 q) ((bld4 q ++ more).length : Int)).toNat = 20 + q.opt.length + q.dat.length := by rw [hl]; omega
  have e1 : (bld4 q ++ more).take (20 + q.opt.length + q.dat.length) = bld4 q := List.take_left' (by rw [bld4_len])
  have e2 : (bld4 q).drop (20 + q.opt.length) = q.dat := by rw [bld4, List.drop_left' (by rw [hd4_len])]
  have e3 : (hd4 q (size4 q) (sum4 q)).drop 20 = q.opt := by rw [hd4_l20, List.drop_left' (l20_len q)]
  have g1 : flags4 q % 8192 * 8 = q.off := by unfold flags4 bit; split <;> split <;> omega
  have g2 : decide (flags4 q / 16384 % 2 = 1) = q.df := by
    rw [Bool.eq_iff_iff, decide_eq_true_iff]; unfold flags4 bit
    cases q.df <;> cases q.mf <;> simp <;> omega
  have g3 : decide (flags4 q / 8192 % 2 = 1) = q.mf := by
    rw [Bool.eq_iff_iff, decide_eq_true_iff]; unfold flags4 bit
    cases q.df <;> cases q.mf <;> simp <;> omega
  unfold raw4 fl4
  rw [f0, f2, f3, f4, f5, f6, f7, f8, f9, d1, d2, e1, e2, back_take _ rfl, e3, g1, g2, g3]
theorem back_ok (h : chk4 q = 0) : prsE (bld4 q ++ more) false = 0 ∧ prsV (bld4 q ++ more) false = q := by
  have hraw := back_raw (more := more) h
  obtain ⟨f0, f1, f2, f3, f4, f5, f6, f7, f8, f9⟩ := back_fields (more := more) h
  obtain ⟨⟨a1, a2, a3, a4, a5, a6, a7, a8, a9, a10, a11, a12, a13, a14, a15, a16, a17, a18⟩, hs, ho⟩ := chk4_ok h
  have hh : head4 q = 20 + (q.opt.length : Int) := rfl
  have hz : size4 q = head4 q + (q.dat.length : Int) := rfl
  have hl : (bld4 q ++ more).length = 20 + q.opt.length + q.dat.length + more.length := by rw [List.length_append, bld4_len]
  have hf : flags4 q < 32768 := by unfold flags4 bit; split <;> split <;> omega
  have hb : bad4 (bld4 q ++ more) false = 0 := by
    unfold bad4
    rw [if_neg (by omega), f0, f1, f2, f3, if_neg (by omega), if_neg (by rw [hl]; omega), if_neg (by omega), if_neg ?_]
    rw [show (head4 q).toNat = 20 + q.opt.length from by omega, back_take _ rfl, head_right]; simp
  have he : prsE (bld4 q ++ more) false = 0 := by
    unfold prsE
    rw [if_pos hb, hraw, if_neg (by rw [h]; simp)]
  exact ⟨he, by rw [prsV, if_pos he, hraw]⟩
end

theorem ub {b : List UInt8} {i : Nat} (h : i < b.length) : u8 (byt b i) = b[i] := by
  apply UInt8.toNat_inj.1
  have h1 := u8_val (byt b i)
  have h2 := byt_lo b i
  have h3 := byt_hi b i
  have h4 : byt b i = (b[i].toNat : Int) := by simp [byt, h]
  omega
theorem u8_eq {b : List UInt8} {i : Nat} {n : Int} (h : i < b.length) (e : n % 256 = byt b i) : u8 n = b[i] := by
  rw [← ub h]
  apply UInt8.toNat_inj.1
  have h1 := u8_val (byt b i)
  have h2 := u8_val n
  have h3 := byt_lo b i
  have h4 := byt_hi b i
  omega
theorem drop_eight {l : List UInt8} (h : 20 ≤ l.length) : l.drop 12 = [l[12], l[13], l[14], l[15], l[16], l[17], l[18], l[19]] ++ l.drop 20 := by
  rw [List.drop_eq_getElem_cons (show 12 < l.length by omega), List.drop_eq_getElem_cons (show 13 < l.length by omega), List.drop_eq_getElem_cons (show 14 < l.length by omega), List.drop_eq_getElem_cons (show 15 < l.length by omega),
    List.drop_eq_getElem_cons (show 16 < l.length by omega), List.drop_eq_getElem_cons (show 17 < l.length by omega), List.drop_eq_getElem_cons (show 18 < l.length by omega), List.drop_eq_getElem_cons (show 19 < l.length by omega)]
  rfl
theorem take_ten {l : List UInt8} (h : 10 ≤ l.length) : l.take 10 = [l[0], l[1], l[2], l[3], l[4], l[5], l[6], l[7], l[8], l[9]] := by
  match l, h with
  | a :: b :: c :: d :: e :: f :: g :: i :: j :: k :: r, _ => rfl
/-- What is parsed may be, and its bytes are the bytes, but for the sum. -/
theorem again4 {b : List UInt8} (h : prsE b false = 0) : prsV b false = raw4 b ∧ chk4 (raw4 b) = 0 ∧ (bld4 (raw4 b)).length = (n2 b 2).toNat ∧ (n2 b 2).toNat ≤ b.length ∧ 20 ≤ (n2 b 2).toNat ∧
    (bld4 (raw4 b)).take 10 = b.take 10 ∧ (bld4 (raw4 b)).drop 12 = (b.take (n2 b 2).toNat).drop 12 := by
  have hV : prsV b false = raw4 b := by rw [prsV, if_pos h]
  unfold prsE at h
  by_cases hb : bad4 b false = 0
  · rw [if_pos hb] at h
    by_cases hc : chk4 (raw4 b) = 0
    · refine ⟨hV, hc, ?_⟩
      unfold bad4 at hb
      split at hb
      · cases hb
      · rename_i g1
        split at hb
        · cases hb
        · rename_i g2
          split at hb
          · cases hb
          · rename_i g3
            split at hb
            · cases hb
            · rename_i g4
              clear hb h hV
              obtain ⟨N, hN⟩ : ∃ N : Nat, hlen b = (N : Int) := ⟨(hlen b).toNat, by omega⟩
              obtain ⟨S, hS⟩ : ∃ S : Nat, n2 b 2 = (S : Int) := ⟨(n2 b 2).toNat, by omega⟩
              have hNS : N ≤ S ∧ S ≤ b.length ∧ 20 ≤ N := by
                refine ⟨by omega, ?_, by omega⟩
                have : ¬ (n2 b 2 > (b.length : Int)) := fun e => g3 (.inr ⟨rfl, e⟩)
                omega
              have hopt : (raw4 b).opt = (b.take N).drop 20 := by show (b.take (hlen b).toNat).drop 20 = _; rw [hN, Int.toNat_natCast]
              have hdat : (raw4 b).dat = (b.take S).drop N := by
                show (b.take (min (n2 b 2) (b.length : Int)).toNat).drop (hlen b).toNat = _
                rw [hN, hS, show (min (S : Int) (b.length : Int)).toNat = S from by omega, Int.toNat_natCast]
              have lo : (raw4 b).opt.length = N - 20 := by rw [hopt, List.length_drop, List.length_take]; omega
              have ld : (raw4 b).dat.length = S - N := by rw [hdat, List.length_drop, List.length_take]; omega
              have hh : head4 (raw4 b) = (N : Int) := by unfold head4; omega
              have hz : size4 (raw4 b) = (S : Int) := by unfold size4; omega
              have hfl : flags4 (raw4 b) = n2 b 6 := by
                show n2 b 6 % 8192 * 8 / 8 + bit (decide (n2 b 6 / 16384 % 2 = 1)) 16384 + bit (decide (n2 b 6 / 8192 % 2 = 1)) 8192 = n2 b 6
                have h0 : 0 ≤ n2 b 6 := by unfold n2; have := byt_lo b 6; have := byt_lo b (6 + 1); omega
                unfold bit
                by_cases e1 : n2 b 6 / 16384 % 2 = 1 <;> by_cases e2 : n2 b 6 / 8192 % 2 = 1 <;> simp [e1, e2] <;> omega
              have B : ∀ i, 0 ≤ byt b i ∧ byt b i ≤ 255 := fun i => ⟨byt_lo b i, byt_hi b i⟩
              have b0 := B 0; have b1 := B 1; have b2 := B 2; have b3 := B 3; have b4 := B 4; have b5 := B 5; have b6 := B 6; have b7 := B 7; have b8 := B 8; have b9 := B 9
              have b12 := B 12; have b13 := B 13; have b14 := B 14; have b15 := B 15; have b16 := B 16; have b17 := B 17; have b18 := B 18; have b19 := B 19
              refine ⟨by rw [bld4_len, lo, ld, hS, Int.toNat_natCast]; omega, by rw [hS, Int.toNat_natCast]; omega, by rw [hS, Int.toNat_natCast]; omega, ?_, ?_⟩
              · have e : (bld4 (raw4 b)).take 10 = hda (raw4 b) (size4 (raw4 b)) := by
                  rw [bld4, hd4, List.append_assoc, List.append_assoc, List.take_left' (by simp [hda])]
                rw [e, take_ten (by omega), hda, hh, hz, hfl]
                have i0 : hlen b = byt b 0 % 16 * 4 := rfl
                have i2 : n2 b 2 = byt b 2 * 256 + byt b (2 + 1) := rfl
                have i6 : n2 b 6 = byt b 6 * 256 + byt b (6 + 1) := rfl
                have i4 : (raw4 b).id = byt b 4 * 256 + byt b (4 + 1) := rfl
                have x0 : byt b 0 / 16 = 4 := by omega
                simp only [Nat.reduceAdd] at i2 i6 i4
                rw [u8_eq (b := b) (i := 0) (n := 64 + (N : Int) / 4) (by omega) (by omega), u8_eq (b := b) (i := 1) (n := (raw4 b).tos) (by omega) (by show byt b 1 % 256 = _; omega), u8_eq (b := b) (i := 2) (n := (S : Int) / 256) (by omega) (by omega),
                  u8_eq (b := b) (i := 3) (n := (S : Int)) (by omega) (by omega), u8_eq (b := b) (i := 4) (n := (raw4 b).id / 256) (by omega) (by omega), u8_eq (b := b) (i := 5) (n := (raw4 b).id) (by omega) (by omega),
                  u8_eq (b := b) (i := 6) (n := n2 b 6 / 256) (by omega) (by omega), u8_eq (b := b) (i := 7) (n := n2 b 6) (by omega) (by omega), u8_eq (b := b) (i := 8) (n := (raw4 b).ttl) (by omega) (by show byt b 8 % 256 = _; omega),
                  u8_eq (b := b) (i := 9) (n := (raw4 b).proto) (by omega) (by show byt b 9 % 256 = _; omega)]
              · have e : (bld4 (raw4 b)).drop 12 = hdb (raw4 b) ++ (raw4 b).dat := by
                  rw [bld4, hd4, List.append_assoc, List.drop_left' (by simp [hda, be2])]
                rw [e, hS, Int.toNat_natCast]
                have hs20 : 20 ≤ (b.take S).length := by rw [List.length_take]; omega
                rw [drop_eight hs20]
                have hcut : (b.take S).drop 20 = (raw4 b).opt ++ (raw4 b).dat := by
                  rw [hopt, hdat]
                  have h1 : b.take N = (b.take S).take N := by rw [List.take_take, Nat.min_eq_left hNS.1]
                  rw [h1]
                  conv => lhs; rw [← List.take_append_drop N (b.take S)]
                  rw [List.drop_append_of_le_length (by rw [List.length_take, List.length_take]; omega)]
                rw [hcut, ← List.append_assoc]
                congr 1
                rw [hdb]
                have gt : ∀ i (h : i < (b.take S).length) (h' : i < b.length), (b.take S)[i] = b[i] := fun i h h' => List.getElem_take
                rw [gt 12 (by omega) (by omega), gt 13 (by omega) (by omega), gt 14 (by omega) (by omega), gt 15 (by omega) (by omega), gt 16 (by omega) (by omega), gt 17 (by omega) (by omega), gt 18 (by omega) (by omega), gt 19 (by omega) (by omega)]
                have i12 : (raw4 b).src = ((byt b 12 * 256 + byt b (12 + 1)) * 256 + byt b (12 + 2)) * 256 + byt b (12 + 3) := rfl
                have i16 : (raw4 b).dst = ((byt b 16 * 256 + byt b (16 + 1)) * 256 + byt b (16 + 2)) * 256 + byt b (16 + 3) := rfl
                simp only [Nat.reduceAdd] at i12 i16
                rw [u8_eq (b := b) (i := 12) (n := (raw4 b).src / 16777216) (by omega) (by omega), u8_eq (b := b) (i := 13) (n := (raw4 b).src / 65536) (by omega) (by omega), u8_eq (b := b) (i := 14) (n := (raw4 b).src / 256) (by omega) (by omega),
                  u8_eq (b := b) (i := 15) (n := (raw4 b).src) (by omega) (by omega), u8_eq (b := b) (i := 16) (n := (raw4 b).dst / 16777216) (by omega) (by omega), u8_eq (b := b) (i := 17) (n := (raw4 b).dst / 65536) (by omega) (by omega),
                  u8_eq (b := b) (i := 18) (n := (raw4 b).dst / 256) (by omega) (by omega), u8_eq (b := b) (i := 19) (n := (raw4 b).dst) (by omega) (by omega)]
    · rw [if_pos ⟨rfl, hc⟩] at h; cases h
  · rw [if_neg hb] at h; exact absurd h hb
end Go.Proofs.Ytcebobcakiljhaa

/-
  Contract of the document's plain answers of layer 5: head. Conditions are each theorem's own.
-/
namespace Go.Proofs.Ytcebobcakiljhaa
open Go.RowKit

theorem put_two {bs : List UInt8} {n : Int} (h0 : 0 ≤ n) (h1 : n ≤ 65535) : putB bs n 2 = bs ++ be2 n := by
  rw [putB, if_pos (fitsB_iff.2 ⟨by omega, by omega, h0, by simp [pw]; omega⟩), ← digs_two h0]; rfl
theorem put_four {bs : List UInt8} {n : Int} (h0 : 0 ≤ n) (h1 : n < 4294967296) : putB bs n 4 = bs ++ be4 n := by
  rw [putB, if_pos (fitsB_iff.2 ⟨by omega, by omega, h0, by simp [pw]; omega⟩), ← digs_four h0]; rfl
theorem putB_le {bs : List UInt8} {n s : Int} {K : Nat} (h : bs.length ≤ K) (hs : s.toNat ≤ 4) : (putB bs n s).length ≤ K + 4 := by
  rw [putB]; split
  · rw [List.length_append, digs_length]; omega
  · omega
theorem arg_own {w : World} {base c : Nat} {A : Option Addr} {bs : List UInt8} (h : w.ownsRow base 5 1 (.slice A bs.length c) bs.length (row bs)) : Arg w w.heap.size A c bs := by
  refine ⟨Rd.of_own rfl h, ?_, fun e => ?_⟩
  · rcases h.2 with ⟨hv, h0⟩ | ⟨g, cap, cur, hv, _, _, hle, _⟩
    · omega
    · injection hv with h1 h2 h3; omega
  · rcases h.2 with ⟨hv, h0⟩ | ⟨g, cap, cur, hv, _, _, hle, _⟩
    · injection hv
    · injection hv with h1 h2 h3; rw [e] at h1; cases h1
theorem own_base {w : World} {base base' e s n : Nat} {v : Value} {xs : List Value} (h : w.ownsRow base' e s v n xs) (hb : base ≤ base') : w.ownsRow base e s v n xs := by
  obtain ⟨hl, h0 | ⟨g, cap, cur, hv, hg, r⟩⟩ := h
  · exact ⟨hl, .inl h0⟩
  · exact ⟨hl, .inr ⟨g, cap, cur, hv, by omega, r⟩⟩
theorem own_made {w : World} {base n : Nat} {v : Value} {xs : List Value} {bs : List UInt8} (h : w.ownsRow base 5 1 v n xs) (hn : n = bs.length) (hx : xs = row bs) : ∃ A c, v = .slice A bs.length c ∧ w.ownsRow base 5 1 (.slice A bs.length c) bs.length (row bs) := by
  subst hn; subst hx
  rcases h.2 with ⟨hv, h0⟩ | ⟨g, cap, cur, hv, _⟩
  · rw [hv] at h; exact ⟨none, 0, by rw [hv, h0], by rw [h0] at h ⊢; exact h⟩
  · rw [hv] at h; exact ⟨_, _, hv, h⟩
section
variable (q : P4) (A : Option Addr) (c : Nat) (A' : Option Addr) (c' : Nat) (w : World)
end
end Go.Proofs.Ytcebobcakiljhaa

/-
  Contract of the document's plain answers of layer 5: Build. Conditions are each theorem's own.
-/
namespace Go.Proofs.Ytcebobcakiljhaa
open Go.RowKit

/-- append onto a row of the call's own, of a source that reads as bytes: as an operation. -/
theorem append_wp {w : World} {o : Oper} {a : Act} {K : Act → World → Prop} {Q : Exit → Act → World → Prop} (s x : Operand)
    (ho : o.op = .call { callee := .builtin .append, args := #[s, x], argTypes := #[22, 22] })
    (base : Nat) (v : Value) (n : Nat) (xs : List Value) (hs : a.eval s = v) (hown : w.ownsRow base 5 1 v n xs)
    (B : Nat) (A : Option Addr) (c : Nat) (bs : List UInt8) (hx : a.eval x = .slice A bs.length c) (hA : A = none → c = 0) (hr : Rd w B A bs)
    (hlen : n + bs.length ≤ 2199023255552) (hbase : base ≤ w.heap.size)
    (h : ∀ v' w', w'.ownsRow base 5 1 v' (n + bs.length) (xs ++ row bs) → w.grownBy w' v.ownBlock → K (a.put o.dst v') w') : o.wp Try.prog a w K Q := by
  obtain ⟨i0, hi, hz0, hz1, hz2⟩ := info_parts info_u8
  rcases A with _ | ad
  · have h0 : bs = [] := by
      rcases Nat.eq_zero_or_pos bs.length with e | e
      · exact List.eq_nil_of_length_eq_zero e
      · obtain ⟨_, _, e', _⟩ := hr e; cases e'
    subst h0
    obtain rfl := hA rfl
    have hrun := run_append_owned_none (P := Try.prog) (w := w) base 22 o.type 5 i0 1 Try.underlying22 hi v n xs hown
    unfold Oper.wp
    simp [execOp, ho, resolve, invoke, builtin, hs, hx, hrun, Result.andThen]
    exact h v w (by simpa [row] using hown) (World.grownBy.refl w _)
  · exact wp_append_own w s x 22 ho base 5 i0 (.int .u8 0) 1 1 Try.underlying22 hi hz0 hz1 hz2 rfl (by decide) v n xs hs hown ad bs.length c (row bs) hx
      (by rw [row_length, Nat.mul_one]) hr.src (row_one bs) (by unfold maxLen; omega) (by omega) hbase (fun v' w' h1 h2 _ => h v' w' h1 h2)
section
variable (q : P4) (A : Option Addr) (c : Nat) (A' : Option Addr) (c' : Nat) (w : World)
end
end Go.Proofs.Ytcebobcakiljhaa

/-
  Contract of the document's plain answers of layer 5: fields. Conditions are each theorem's own.
-/
namespace Go.Proofs.Ytcebobcakiljhaa
open Go.RowKit

theorem get_two {b : List UInt8} {i : Nat} (h : i + 2 ≤ b.length) : getV b (i : Int) 2 = n2 b i := by
  have e := getV_ok (bs := b) (a := i) (s := 2) (by omega) (by omega) h
  rw [show (2 : Int) = ((2 : Nat) : Int) from rfl, e, num_two _ (by simp; omega), byt_cut _ _ _ (by omega), byt_cut _ _ _ (by omega)]; rfl
theorem byt_drop (b : List UInt8) (a k : Nat) : byt (b.drop a) k = byt b (a + k) := by simp [byt]
theorem get_four {b : List UInt8} {i : Nat} (h : i + 4 ≤ b.length) : getV b (i : Int) 4 = n4 b i := by
  have e := getV_ok (bs := b) (a := i) (s := 4) (by omega) (by omega) h
  have hl : (b.drop i).length = b.length - i := by simp
  rw [show (4 : Int) = ((4 : Nat) : Int) from rfl, e, num_take _ (k := 3) (by omega), num_take _ (k := 2) (by omega), num_take _ (k := 1) (by omega), num_take _ (k := 0) (by omega), List.take_zero]
  simp only [byt_drop, n4, num, List.foldl_nil, Nat.add_zero]; omega
theorem n2_bd (b : List UInt8) (i : Nat) : 0 ≤ n2 b i ∧ n2 b i ≤ 65535 := by
  have h1 := byt_lo b i; have h2 := byt_hi b i; have h3 := byt_lo b (i + 1); have h4 := byt_hi b (i + 1)
  unfold n2; omega
theorem run_load_byte {o : Oper} {a : Act} {w : World} {x : Operand} {p : Addr} {n : Int} (ho : o.op = .load 5 x) (hx : a.eval x = .pointer (some p)) (hc : w.cell? p = some (.int .u8 n)) :
    (execOp a.eval o).run Try.prog w = .ok (.value (.int .u8 n)) w := by
  unfold execOp
  simp only [ho, hx, Instr.loadAt, Instr.sureAddr, Sem.run_bind, Sem.run_pure, Result.andThen_ok]
  go_simp
theorem heap_new {X : World} {g : Nat} {o : Obj} (h : g = X.heap.size) : (X.alloc o).heap[g]? = some o := by subst h; exact World.alloc_heap_new X o
theorem set_newN (w : World) (cur cur' : Array Value) (t j m : Nat) (x : Value) (hc : cur.setIfInBounds j x = cur') :
    ((w.alloc (.cells cur t (0, 0))).drewN m).setCell ⟨w.heap.size, j, none⟩ x = (w.alloc (.cells cur' t (0, 0))).drewN m := by
  subst hc
  show ((w.alloc (.cells cur t (0, 0))).setCell ⟨w.heap.size, j, none⟩ x).drewN m = _
  rw [World.setCell_alloc_at _ _ _ _ _ rfl]
theorem heap_newN (w : World) (o : Obj) (m : Nat) : ((w.alloc o).drewN m).heap[w.heap.size]? = some o := World.alloc_heap_new w o
theorem own_setCell {w : World} {base e sz n : Nat} {v : Value} {xs : List Value} (h : w.ownsRow base e sz v n xs) {p : Addr} {u : Value} (hp : p.block < base) : (w.setCell p u).ownsRow base e sz v n xs := by
  obtain ⟨h1, h2⟩ := h
  refine ⟨h1, ?_⟩
  rcases h2 with h2 | ⟨g, cap, cur, hv, hg, hh, r⟩
  · exact .inl h2
  · exact .inr ⟨g, cap, cur, hv, hg, (heap_setCell_other w p g u (by omega)).trans hh, r⟩
theorem own_setRow {w : World} {base e sz n : Nat} {v : Value} {xs : List Value} (h : w.ownsRow base e sz v n xs) {g : Nat} {cs : Array Value} (hp : g < base) : (w.setRow g cs).ownsRow base e sz v n xs := by
  obtain ⟨h1, h2⟩ := h
  refine ⟨h1, ?_⟩
  rcases h2 with h2 | ⟨k, cap, cur, hv, hg, hh, r⟩
  · exact .inl h2
  · exact .inr ⟨k, cap, cur, hv, hg, (setRow_other w g k cs (by omega)).trans hh, r⟩
theorem below_row {B : Nat} {a w : World} (h : Below B a w) {g : Nat} {cs : Array Value} (hg : B ≤ g) : Below B a (w.setRow g cs) :=
  ⟨h.os, h.tape, h.output, by rw [size_setRow]; exact h.size, fun k hk => (setRow_other w g k cs (by omega)).trans (h.block k hk)⟩
theorem v4_result {fn : Func} {p : Tmp} {tmps : Array Value} {w : World} {g : Nat} {t : TypeId} {cs : Array Value} {fr : Nat × Nat} (h : fn.results = #[.cell p 24])
    (hp : tmps.getD p undef = .pointer (some ⟨g, 0, none⟩)) (hg : w.heap[g]? = some (.cells cs t fr)) (hl : cs.size = 11) : (results fn tmps).run Try.prog w = .ok (.agg cs) w :=
  results_cell_row h tmps w g t cs fr _ hp hg Try.underlying24 rfl (by rw [hl]; kernel_rfl)
theorem setRow_drew (X : World) (g : Nat) (c' : Array Value) : X.drew.setRow g c' = (X.setRow g c').drew := by unfold World.setRow; rfl
theorem setRow_new {X : World} {g : Nat} {c c' : Array Value} {t : TypeId} (h : g = X.heap.size) : (X.alloc (.cells c t)).setRow g c' = X.alloc (.cells c' t) := by subst h; exact World.setRow_alloc_new X c c' t
section
variable (b dat : List UInt8) (A : Option Addr) (c : Nat) (A' : Option Addr) (c' : Nat) (w : World)
end
end Go.Proofs.Ytcebobcakiljhaa

/-
  Contracts of slices.Index, slices.Contains over Bools, and of v4.all, v6.all: do all conditions hold? Conditions are each theorem's own.
-/
namespace Go.Proofs.Ytcebobcakiljhaa
open Go.RowKit

/-- Do all hold? A plain definition. -/
def allB (bs : List Bool) : Bool := bs.all id
theorem index_all (g n : Nat) (w : World) (hn : n ≤ 1000) (h : ∀ j, j < n → w.cell? ⟨g, j, none⟩ = some (.bool true)) :
    Calls Try.prog 69 #[.slice (some ⟨g, 0, none⟩) n n, .bool false] w fun e w' => e = .returned (.int .i64 (-1)) ∧ w = w' := by
  have H := Lib.hid h
  clear h
  go_enter Try.func69, Try.ntmps69
  go_wp2
  go_loop [8] (fun i => ∃ k : Nat, k ≤ n ∧ i = .int .i64 k) (fun i => n - (intOf i).toNat)
  case atStart => exact ⟨0, Nat.zero_le _, rfl⟩
  case round =>
    obtain ⟨k, hk, rfl⟩ := hrel
    by_cases hlt : k < n
    · have hc := H.out k hlt
      go_wp2
      go_round
      case rel => exact ⟨k + 1, by omega, by simp⟩
      case measure => simp [intOf]; omega
    · obtain rfl : k = n := by omega
      go_wp2
      go_ret
      exact ⟨rfl, rfl⟩
theorem index_some (g n k0 : Nat) (w : World) (hn : n ≤ 1000) (hk0 : k0 < n) (h : ∀ j, j < k0 → w.cell? ⟨g, j, none⟩ = some (.bool true)) (h0 : w.cell? ⟨g, k0, none⟩ = some (.bool false)) :
    Calls Try.prog 69 #[.slice (some ⟨g, 0, none⟩) n n, .bool false] w fun e w' => e = .returned (.int .i64 (k0 : Int)) ∧ w = w' := by
  have H := Lib.hid h
  have H0 := Lib.hid h0
  clear h h0
  go_enter Try.func69, Try.ntmps69
  go_wp2
  go_loop [8] (fun i => ∃ k : Nat, k ≤ k0 ∧ i = .int .i64 k) (fun i => n - (intOf i).toNat)
  case atStart => exact ⟨0, Nat.zero_le _, rfl⟩
  case round =>
    obtain ⟨k, hk, rfl⟩ := hrel
    have hlt : k < n := by omega
    by_cases hlt2 : k < k0
    · have hc := H.out k hlt2
      go_wp2
      go_round
      case rel => exact ⟨k + 1, by omega, by simp⟩
      case measure => simp [intOf]; omega
    · obtain rfl : k = k0 := by omega
      have hc := H0.out
      go_wp2
      go_ret
      exact ⟨rfl, rfl⟩
theorem first_false : ∀ (bs : List Bool), allB bs = false → ∃ k, k < bs.length ∧ (∀ j, j < k → bs[j]? = some true) ∧ bs[k]? = some false
  | [], h => by cases h
  | false :: l, _ => ⟨0, by simp, fun j hj => absurd hj (Nat.not_lt_zero j), rfl⟩
  | true :: l, h => by
    obtain ⟨k, h1, h2, h3⟩ := first_false l (by simpa [allB] using h)
    refine ⟨k + 1, by simp; omega, fun j hj => ?_, by simpa using h3⟩
    cases j with
    | zero => rfl
    | succ j => simpa using h2 j (by omega)
theorem contains_any (g : Nat) (bs : List Bool) (w : World) (hn : bs.length ≤ 1000) (h : w.rangeAt g 0 (bs.map Value.bool)) :
    Calls Try.prog 58 #[.slice (some ⟨g, 0, none⟩) bs.length bs.length, .bool false] w fun e w' => e = .returned (.bool (!allB bs)) ∧ w = w' := by
  have hc : ∀ j b, bs[j]? = some b → w.cell? ⟨g, j, none⟩ = some (.bool b) := fun j b hj => by
    have := h j (.bool b) (by rw [List.getElem?_map, hj]; rfl)
    rwa [Nat.zero_add] at this
  cases ha : allB bs
  · obtain ⟨k, h1, h2, h3⟩ := first_false bs ha
    have c := index_some g bs.length k w hn h1 (fun j hj => hc j true (h2 j hj)) (hc k false h3)
    clear h hc h2 h3
    go_enter Try.func58, Try.ntmps58
    go_wp2_with (go_at_call 69; refine c.mono ?_; rintro e w' ⟨rfl, rfl⟩)
    go_ret
    exact ⟨rfl, rfl⟩
  · have hall : ∀ j, j < bs.length → bs[j]? = some true := fun j hj => by
      have := (List.all_eq_true.1 ha) bs[j] (List.getElem_mem hj)
      rw [List.getElem?_eq_getElem hj]; simpa using this
    have c := index_all g bs.length w hn (fun j hj => hc j true (hall j hj))
    clear h hc hall
    go_enter Try.func58, Try.ntmps58
    go_wp2_with (go_at_call 69; refine c.mono ?_; rintro e w' ⟨rfl, rfl⟩)
    go_ret
    exact ⟨rfl, rfl⟩
theorem all6_any (g : Nat) (bs : List Bool) (w : World) (hn : bs.length ≤ 1000) (h : w.rangeAt g 0 (bs.map Value.bool)) :
    Calls Try.prog 61 #[.slice (some ⟨g, 0, none⟩) bs.length bs.length] w fun e w' => e = .returned (.bool (allB bs)) ∧ w = w' := by
  have c := contains_any g bs w hn h
  clear h
  go_enter Try.func61, Try.ntmps61
  go_wp2_with (go_at_call 58; refine c.mono ?_; rintro e w' ⟨rfl, rfl⟩)
  go_ret
  exact ⟨ret_bool (by simp), rfl⟩
theorem all4_any (g : Nat) (bs : List Bool) (w : World) (hn : bs.length ≤ 1000) (h : w.rangeAt g 0 (bs.map Value.bool)) :
    Calls Try.prog 40 #[.slice (some ⟨g, 0, none⟩) bs.length bs.length] w fun e w' => e = .returned (.bool (allB bs)) ∧ w = w' := by
  have c := contains_any g bs w hn h
  clear h
  go_enter Try.func40, Try.ntmps40
  go_wp2_with (go_at_call 58; refine c.mono ?_; rintro e w' ⟨rfl, rfl⟩)
  go_ret
  exact ⟨ret_bool (by simp), rfl⟩
end Go.Proofs.Ytcebobcakiljhaa

/-
  Packets of IPv6 and fragment headers, in plain lists of bytes: what may be, its bytes, what bytes are. No program. Conditions are each theorem's own.
-/
namespace Go.Proofs.Ytcebobcakiljhaa
open Go.RowKit

/-- What is right with a fragment header. -/
def okF (f : F6) : Prop := 0 ≤ f.next ∧ f.next ≤ 255 ∧ 0 ≤ f.off ∧ f.off ≤ 65528 ∧ f.off % 8 = 0 ∧ 0 ≤ f.id ∧ f.id < 4294967296
instance (f : F6) : Decidable (okF f) := by unfold okF; infer_instance
def offB (f : F6) : Bool := decide (0 ≤ f.off) && decide (f.off ≤ 65528)
def mulB (f : F6) : Bool := decide (f.off % 8 = 0)
theorem okF_iff (f : F6) : okF f ↔ (fitsB f.next 1 = true ∧ offB f = true ∧ mulB f = true ∧ fitsB f.id 4 = true) := by
  unfold okF offB mulB
  simp only [Bool.and_eq_true, fitsB_iff, decide_eq_true_eq, pw]
  constructor
  · rintro ⟨a1, a2, a3, a4, a5, a6, a7⟩
    refine ⟨⟨?_, ?_, ?_, ?_⟩, ⟨?_, ?_⟩, ?_, ?_, ?_, ?_, ?_⟩ <;> (try simp) <;> omega
  · rintro ⟨⟨_, _, f1, f2⟩, ⟨o1, o2⟩, m, _, _, g1, g2⟩
    simp at f2 g2
    refine ⟨?_, ?_, ?_, ?_, ?_, ?_, ?_⟩ <;> omega
def bytF (f : F6) : List UInt8 := [u8 f.next, 0] ++ be2 (f.off + bit f.more 1) ++ be4 f.id
def bldF (f : F6) : List UInt8 := if okF f then bytF f else []
def errF (f : F6) : Int := if okF f then 0 else 1
theorem bldF_len (f : F6) : (bldF f).length ≤ 8 := by unfold bldF bytF; split <;> simp [be2, be4]
def frz : F6 := ⟨0, 0, 0, false⟩
def rawF (b : List UInt8) : F6 := ⟨byt b 0, n2 b 2 / 8 * 8, n4 b 4, decide (n2 b 2 % 2 = 1)⟩
def prsF (b : List UInt8) : F6 := if b.length < 8 then frz else rawF b
def rstF (b : List UInt8) : List UInt8 := if b.length < 8 then [] else b.drop 8
def prsG (b : List UInt8) : Int := if b.length < 8 then 3 else 0
/-- Are two headers the same? -/
def sameF (f g : F6) : Bool := (f.next == g.next && f.off == g.off && f.id == g.id) && (f.more == g.more)
theorem sameF_iff {f g : F6} : sameF f g = true ↔ f = g := by
  obtain ⟨a, b, c, d⟩ := f
  obtain ⟨a', b', c', d'⟩ := g
  simp only [sameF, Bool.and_eq_true, beq_iff_eq, F6.mk.injEq]
  constructor
  · rintro ⟨⟨⟨h0, h1⟩, h2⟩, h3⟩; exact ⟨h0, h1, h2, h3⟩
  · rintro ⟨h0, h1, h2, h3⟩; exact ⟨⟨⟨h0, h1⟩, h2⟩, h3⟩
theorem byt_u8_mod (n : Int) (l : List UInt8) : byt (u8 n :: l) 0 = n % 256 := by simp [byt, u8_val]
theorem backF (f : F6) (more : List UInt8) (h : okF f) : prsF (bldF f ++ more) = f ∧ rstF (bldF f ++ more) = more ∧ prsG (bldF f ++ more) = 0 := by
  obtain ⟨h1, h2, h3, h4, h5, h6, h7⟩ := h
  have hb : bldF f = bytF f := by rw [bldF, if_pos ⟨h1, h2, h3, h4, h5, h6, h7⟩]
  have hl : ¬ (bytF f ++ more).length < 8 := by simp [bytF, be2, be4]
  rw [hb]
  refine ⟨?_, ?_, by rw [prsG, if_neg hl]⟩
  · rw [prsF, if_neg hl]
    obtain ⟨nx, off, id, mr⟩ := f
    simp only at h1 h2 h3 h4 h5 h6 h7
    have e0 : byt (bytF ⟨nx, off, id, mr⟩ ++ more) 0 = nx := by
      have := u8_val nx
      simp [bytF, byt]; omega
    have e2 : n2 (bytF ⟨nx, off, id, mr⟩ ++ more) 2 = off + bit mr 1 := by
      have a := u8_val ((off + bit mr 1) / 256)
      have b := u8_val (off + bit mr 1)
      have c : 0 ≤ bit mr 1 ∧ bit mr 1 ≤ 1 := by unfold bit; cases mr <;> simp
      simp only [bytF, n2, byt, be2, be4, List.cons_append, List.nil_append, List.getElem?_cons_succ, List.getElem?_cons_zero, Option.getD_some]
      omega
    have e4 : n4 (bytF ⟨nx, off, id, mr⟩ ++ more) 4 = id := by
      have a := u8_val (id / 16777216)
      have b := u8_val (id / 65536)
      have c := u8_val (id / 256)
      have d := u8_val id
      simp only [bytF, n4, byt, be2, be4, List.cons_append, List.nil_append, List.getElem?_cons_succ, List.getElem?_cons_zero, Option.getD_some]
      omega
    rw [rawF, e0, e2, e4]
    have f1 : (off + bit mr 1) / 8 * 8 = off := by cases mr <;> simp [bit] <;> omega
    have f2 : decide ((off + bit mr 1) % 2 = 1) = mr := by cases mr <;> simp [bit] <;> omega
    rw [f1, f2]
  · rw [rstF, if_neg hl]
    simp [bytF, be2, be4]

/-- What is right with a packet's fields. -/
def arg6 (q : P6) : Prop := 0 ≤ q.traffic ∧ q.traffic ≤ 255 ∧ 0 ≤ q.next ∧ q.next ≤ 255 ∧ 0 ≤ q.hop ∧ q.hop ≤ 255 ∧ 0 ≤ q.flow ∧ q.flow < 1048576
instance (q : P6) : Decidable (arg6 q) := by unfold arg6; infer_instance
def chk6 (q : P6) : Int := if arg6 q then (if (q.dat.length : Int) > 65535 then 6 else 0) else 1
def size6 (q : P6) : Int := 40 + (q.dat.length : Int)
def fst6 (q : P6) : Int := 1610612736 + q.traffic * 1048576 + q.flow
def hd6 (q : P6) : List UInt8 := be4 (fst6 q) ++ be2 (q.dat.length : Int) ++ [u8 q.next, u8 q.hop]
def bld6 (q : P6) : List UInt8 := hd6 q ++ q.src ++ q.dst ++ q.dat
theorem hd6_len (q : P6) : (hd6 q).length = 8 := by simp [hd6, be2, be4]
theorem bld6_len (q : P6) (hs : q.src.length = 16) (hd : q.dst.length = 16) : (bld6 q).length = 40 + q.dat.length := by
  simp [bld6, hd6_len, hs, hd]; omega
def p6z : P6 := ⟨0, 0, 0, 0, nul, nul, []⟩
/-- What is wrong with bytes; nothing: 0. -/
def bad6 (b : List UInt8) (quoted : Bool) : Int :=
  if b.length < 40 then 3
  else if byt b 0 / 16 ≠ 6 then 4
  else if quoted = false ∧ n2 b 4 > (b.length : Int) - 40 then 3
  else 0
def end6 (b : List UInt8) : Nat := 40 + min (n2 b 4).toNat (b.length - 40)
def raw6 (b : List UInt8) : P6 := ⟨byt b 0 % 16 * 16 + byt b 1 / 16, byt b 1 % 16 * 65536 + byt b 2 * 256 + byt b 3, byt b 6, byt b 7, (b.drop 8).take 16, (b.drop 24).take 16, (b.take (end6 b)).drop 40⟩
def prs6 (b : List UInt8) (quoted : Bool) : P6 := if bad6 b quoted = 0 then raw6 b else p6z
def same6 (q r : P6) : Bool := (q.traffic == r.traffic && q.flow == r.flow && q.next == r.next && q.hop == r.hop) && decide (q.src = r.src) && decide (q.dst = r.dst) && decide (q.dat = r.dat)
theorem same6_iff {q r : P6} : same6 q r = true ↔ q = r := by
  obtain ⟨a0, a1, a2, a3, a4, a5, a6⟩ := q
  obtain ⟨b0, b1, b2, b3, b4, b5, b6⟩ := r
  simp only [same6, Bool.and_eq_true, beq_iff_eq, decide_eq_true_eq, P6.mk.injEq]
  constructor
  · rintro ⟨⟨⟨⟨⟨⟨h0, h1⟩, h2⟩, h3⟩, h4⟩, h5⟩, h6⟩; exact ⟨h0, h1, h2, h3, h4, h5, h6⟩
  · rintro ⟨h0, h1, h2, h3, h4, h5, h6⟩; exact ⟨⟨⟨⟨⟨⟨h0, h1⟩, h2⟩, h3⟩, h4⟩, h5⟩, h6⟩
theorem back6 (q : P6) (more : List UInt8) (hs : q.src.length = 16) (hd : q.dst.length = 16) (h : chk6 q = 0) : bad6 (bld6 q ++ more) false = 0 ∧ raw6 (bld6 q ++ more) = q := by
  have ha : arg6 q := by
    rcases Decidable.em (arg6 q) with h' | h'
    · exact h'
    · rw [chk6, if_neg h'] at h; omega
  have hl : (q.dat.length : Int) ≤ 65535 := by
    rcases Int.lt_or_le 65535 (q.dat.length : Int) with h' | h'
    · rw [chk6, if_pos ha, if_pos h'] at h; omega
    · exact h'
  obtain ⟨a1, a2, a3, a4, a5, a6, a7, a8⟩ := ha
  have hlen : (bld6 q ++ more).length = 40 + q.dat.length + more.length := by rw [List.length_append, bld6_len q hs hd]
  have b0 : byt (bld6 q ++ more) 0 = fst6 q / 16777216 % 256 := by have := u8_val (fst6 q / 16777216); simpa [bld6, hd6, be4, byt] using this
  have b1 : byt (bld6 q ++ more) 1 = fst6 q / 65536 % 256 := by have := u8_val (fst6 q / 65536); simpa [bld6, hd6, be4, byt] using this
  have b2 : byt (bld6 q ++ more) 2 = fst6 q / 256 % 256 := by have := u8_val (fst6 q / 256); simpa [bld6, hd6, be4, byt] using this
  have b3 : byt (bld6 q ++ more) 3 = fst6 q % 256 := by have := u8_val (fst6 q); simpa [bld6, hd6, be4, byt] using this
  have b4 : byt (bld6 q ++ more) 4 = (q.dat.length : Int) / 256 % 256 := by have := u8_val ((q.dat.length : Int) / 256); simpa [bld6, hd6, be4, be2, byt] using this
  have b5 : byt (bld6 q ++ more) 5 = (q.dat.length : Int) % 256 := by have := u8_val (q.dat.length : Int); simpa [bld6, hd6, be4, be2, byt] using this
  have b6 : byt (bld6 q ++ more) 6 = q.next % 256 := by have := u8_val q.next; simpa [bld6, hd6, be4, be2, byt] using this
  have b7 : byt (bld6 q ++ more) 7 = q.hop % 256 := by have := u8_val q.hop; simpa [bld6, hd6, be4, be2, byt] using this
  have hn : n2 (bld6 q ++ more) 4 = (q.dat.length : Int) := by rw [n2, b4, b5]; omega
  have hf : fst6 q = 1610612736 + q.traffic * 1048576 + q.flow := rfl
  have he : end6 (bld6 q ++ more) = 40 + q.dat.length := by rw [end6, hn, hlen]; simp; omega
  have hd8 : (bld6 q ++ more).drop 8 = q.src ++ (q.dst ++ (q.dat ++ more)) := by
    rw [bld6, List.append_assoc, List.append_assoc, List.append_assoc, ← hd6_len q, List.drop_left]
  have hd24 : (bld6 q ++ more).drop 24 = q.dst ++ (q.dat ++ more) := by
    rw [show 24 = 8 + 16 from rfl, ← List.drop_drop, hd8, ← hs, List.drop_left]
  have hd40 : (bld6 q ++ more).drop 40 = q.dat ++ more := by
    rw [show 40 = 24 + 16 from rfl, ← List.drop_drop, hd24, ← hd, List.drop_left]
  refine ⟨?_, ?_⟩
  · rw [bad6, if_neg (by rw [hlen]; omega), if_neg (by rw [b0, hf]; omega), if_neg (by rw [hn, hlen]; omega)]
  · have e1 : ((bld6 q ++ more).take (end6 (bld6 q ++ more))).drop 40 = q.dat := by
      rw [he, List.drop_take, hd40]; simp
    have e2 : ((bld6 q ++ more).drop 8).take 16 = q.src := by rw [hd8, ← hs, List.take_left]
    have e3 : ((bld6 q ++ more).drop 24).take 16 = q.dst := by rw [hd24, ← hd, List.take_left]
    have e4 : byt (bld6 q ++ more) 0 % 16 * 16 + byt (bld6 q ++ more) 1 / 16 = q.traffic := by rw [b0, b1, hf]; omega
    have e5 : byt (bld6 q ++ more) 1 % 16 * 65536 + byt (bld6 q ++ more) 2 * 256 + byt (bld6 q ++ more) 3 = q.flow := by rw [b1, b2, b3, hf]; omega
    have e6 : byt (bld6 q ++ more) 6 = q.next := by rw [b6]; omega
    have e7 : byt (bld6 q ++ more) 7 = q.hop := by rw [b7]; omega
    rw [raw6, e1, e2, e3, e4, e5, e6, e7]
end Go.Proofs.Ytcebobcakiljhaa

/-
  Layer 6's small functions: get, fresh, put; packets and fragment headers that lie in a block of their own. Conditions are each theorem's own.
-/
namespace Go.Proofs.Ytcebobcakiljhaa
open Go.RowKit

/-- A fragment header in a block of its own. -/
def fra (f : F6) : Array Value := #[.int .i64 f.next, .int .i64 f.off, .int .i64 f.id, .bool f.more]
def AtF (W : World) (g : Nat) (f : F6) : Prop := W.rangeAt g 0 (fra f).toList
section
variable {W : World} {g : Nat} {f : F6}
theorem AtF.new (w : World) : AtF (w.alloc (.cells (fra f) 51)) w.heap.size f := fun j v hj => by
  rw [Nat.zero_add, World.cell?_alloc_new, ← hj, Array.getElem?_toList]
theorem AtF.below {w : World} {B : Nat} (h : AtF W g f) (hb : Below B W w) (hg : g < B) : AtF w g f := range_below h hg hb
theorem AtF.next (h : AtF W g f) : W.cell? ⟨g, 0, none⟩ = some (.int .i64 f.next) := h 0 _ rfl
theorem AtF.off (h : AtF W g f) : W.cell? ⟨g, 1, none⟩ = some (.int .i64 f.off) := h 1 _ rfl
theorem AtF.id (h : AtF W g f) : W.cell? ⟨g, 2, none⟩ = some (.int .i64 f.id) := h 2 _ rfl
theorem AtF.more (h : AtF W g f) : W.cell? ⟨g, 3, none⟩ = some (.bool f.more) := h 3 _ rfl
end
/-- A new block of Bools. -/
theorem range_bools (w : World) (bs : List Bool) (t : TypeId) : (w.alloc (.cells (bs.map Value.bool).toArray t)).rangeAt w.heap.size 0 (bs.map Value.bool) := fun j v hj => by
  rw [Nat.zero_add, World.cell?_alloc_new, ← hj, List.getElem?_toArray]

theorem all6_new (bs : List Bool) (cs : Array Value) (n : Nat) (t : TypeId) (w : World) (hc : cs = (bs.map Value.bool).toArray) (hn : n = bs.length) (hl : bs.length ≤ 1000) :
    Calls Try.prog 61 #[.slice (some ⟨w.heap.size, 0, none⟩) n n] (w.alloc (.cells cs t)).drew fun e w' => e = .returned (.bool (allB bs)) ∧ (w.alloc (.cells cs t)).drew = w' := by
  subst hc; subst hn
  exact all6_any w.heap.size bs _ hl (range_bools w bs t)
theorem all4_new (bs : List Bool) (cs : Array Value) (n : Nat) (t : TypeId) (w : World) (hc : cs = (bs.map Value.bool).toArray) (hn : n = bs.length) (hl : bs.length ≤ 1000) :
    Calls Try.prog 40 #[.slice (some ⟨w.heap.size, 0, none⟩) n n] (w.alloc (.cells cs t)).drew fun e w' => e = .returned (.bool (allB bs)) ∧ (w.alloc (.cells cs t)).drew = w' := by
  subst hc; subst hn
  exact all4_any w.heap.size bs _ hl (range_bools w bs t)
theorem get6_any (A : Option Addr) (bs : List UInt8) (c B : Nat) (at_ s : Int) (w : World) (h : Rd w B A bs) (hl : bs.length ≤ 1099511627776) (hc : bs.length ≤ c) :
    Calls Try.prog 66 #[.slice A bs.length c, .int .i64 at_, .int .i64 s] w fun e w' => e = .returned (.int .i64 (getV bs at_ s)) ∧ w = w' := by
  go_enter Try.func66, Try.ntmps66
  go_wp2_with (go_at_call 73; refine (get_any A bs c B at_ s _ h hl hc).mono ?_; rintro e w' ⟨rfl, rfl⟩)
  go_ret
  exact ⟨rfl, rfl⟩
theorem fresh_any (A : Option Addr) (bs : List UInt8) (c B : Nat) (w : World) (h : Arg w B A c bs) (hl : bs.length ≤ 1099511627776) :
    Calls Try.prog 67 #[.slice A bs.length c] w fun e w' => ∃ v, e = .returned v ∧ Made w w' v bs := by
  have hr := h.rd
  have hn := h.none_
  go_enter Try.func67, Try.ntmps67
  go_wp2_with (at_builtin; refine append_rd rfl _ _ rfl w.heap.size _ _ _ rfl (World.ownsRow_nil _ _ _ _) B A c bs rfl hn hr (by omega) (Nat.le_refl _) ?_; intro v1 w1 hown hgrow)
  go_ret
  have hb1 : Below w.heap.size w w1 := (Below.refl _ w).grown hgrow (Nat.le_refl _) (fun k hk => by cases (show (none : Option Nat) = some k from hk))
  exact ⟨_, rfl, Made.of_own (by simpa using hown) hb1⟩
/-- Numbers of so many bytes, one behind the other. -/
def putL (ps : List (Int × Int)) : List UInt8 := ps.foldl (fun b x => putB b x.1 x.2) []
theorem putL_snoc (ps : List (Int × Int)) (x : Int × Int) : putL (ps ++ [x]) = putB (putL ps) x.1 x.2 := by simp [putL]
theorem putL_len (ps : List (Int × Int)) (h : ∀ x ∈ ps, x.2.toNat ≤ 4) : (putL ps).length ≤ 4 * ps.length := by
  have key : ∀ (ps : List (Int × Int)) (b : List UInt8), (∀ x ∈ ps, x.2.toNat ≤ 4) → (ps.foldl (fun b x => putB b x.1 x.2) b).length ≤ b.length + 4 * ps.length := by
    intro ps
    induction ps with
    | nil => intro b _; simp
    | cons x l ih =>
      intro b hx
      have h1 := ih (putB b x.1 x.2) (fun y hy => hx y (by simp [hy]))
      have h2 := putB_le (n := x.1) (Nat.le_refl b.length) (hx x (by simp))
      simp only [List.foldl_cons, List.length_cons]; omega
  simpa [putL] using key ps [] h
theorem putL_take (ps : List (Int × Int)) {k : Nat} {x : Int × Int} (h : ps[k]? = some x) : putL (ps.take (k + 1)) = putB (putL (ps.take k)) x.1 x.2 := by
  rw [List.take_add_one, h]; exact putL_snoc _ _
theorem made_shape {w w' : World} {v : Value} {bs : List UInt8} (h : Made w w' v bs) : ∃ A c, v = .slice A bs.length c ∧ Arg w' w'.heap.size A c bs ∧ w'.ownsRow w.heap.size 5 1 (.slice A bs.length c) bs.length (row bs) ∧ Below w.heap.size w w' := by
  obtain ⟨A, c, rfl, hl, hr, ho, hb⟩ := h
  exact ⟨A, c, rfl, arg_own ho, ho, hb⟩
set_option maxHeartbeats 4000000 in
theorem put6_any (g : Nat) (ps : List (Int × Int)) (w : World) (hn : ps.length ≤ 10) (hs : ∀ x ∈ ps, x.2.toNat ≤ 4) (hg : g < w.heap.size)
    (h : ∀ (k : Nat) (x : Int × Int), ps[k]? = some x → w.cell? ⟨g, k * 2, none⟩ = some (.int .i64 x.1) ∧ w.cell? ⟨g, k * 2 + 1, none⟩ = some (.int .i64 x.2)) :
    Calls Try.prog 74 #[.slice (some ⟨g, 0, none⟩) ps.length ps.length] w fun e w' => ∃ v, e = .returned v ∧ Made w w' v (putL ps) := by
  have H := Lib.hid h
  clear h
  have HL := Lib.hid (fun k => (putL_len (ps.take k) (fun x hx => hs x (List.mem_of_mem_take hx))))
  clear hs
  go_enter Try.func74, Try.ntmps74
  go_wp2
  go_loopw [3, 8] (fun v i W => ∃ (k c : Nat) (A : Option Addr) (bs : List UInt8), k ≤ ps.length ∧ i = .int .i64 (k : Int) ∧ Hid (bs = putL (ps.take k)) ∧ bs.length ≤ 40 ∧ v = .slice A bs.length c ∧ W.ownsRow w.heap.size 5 1 (.slice A bs.length c) bs.length (row bs) ∧ Below w.heap.size w W) (fun _ i _ => ps.length - (intOf i).toNat)
  case atStart => exact ⟨0, 0, none, [], Nat.zero_le _, rfl, Lib.hid rfl, by simp, rfl, World.ownsRow_nil _ _ _ _, Below.refl _ _⟩
  case round =>
    obtain ⟨k, c, A, bs, hk, rfl, HB, hb40, rfl, hown, hbel⟩ := hrel
    by_cases hlt : k < ps.length
    · obtain ⟨x, hx⟩ : ∃ x, ps[k]? = some x := ⟨_, List.getElem?_eq_getElem hlt⟩
      obtain ⟨c1, c2⟩ := H.out k x hx
      have HX := Lib.hid hx
      clear hx
      have d1 := (hbel.cell (p := ⟨g, k * 2, none⟩) hg).trans c1
      have d2 := (hbel.cell (p := ⟨g, k * 2 + 1, none⟩) hg).trans c2
      clear c1 c2
      obtain ⟨n, s⟩ := x
      simp only at d1 d2
      go_wp2_with (go_at_call 79; refine (put_any A bs c _ n s _ (arg_own (own_below hown ((Below.refl _ _).alloc (Nat.le_refl _) _) )).rd (Nat.le_refl _) (by omega)).mono ?_; rintro e w2 ⟨v2, rfl, A2, c2, rfl, l2, rd2, ow2, x2⟩)
      have hz2 := x2.size
      have bel2 : Below w.heap.size w w2 := (hbel.alloc hbel.size _).trans (x2.mono (by simp; exact Nat.le_succ_of_le hbel.size))
      have own2 : w2.ownsRow w.heap.size 5 1 (.slice A2 (putB bs n s).length c2) (putB bs n s).length (row (putB bs n s)) := own_base ow2 (by simp; exact Nat.le_succ_of_le hbel.size)
      have HP := Lib.hid (putL_take ps HX.out)
      have h40 : (putB bs n s).length ≤ 40 := by
        rw [HB.out, ← HP.out]
        have := HL.out (k + 1)
        have h2 : (ps.take (k + 1)).length ≤ ps.length := by rw [List.length_take]; omega
        omega
      go_roundw
      case rel => exact ⟨k + 1, c2, A2, _, by omega, by simp, Lib.hid (by rw [HP.out, HB.out]), h40, rfl, own2, bel2⟩
      case measure => simp [intOf]; omega
    · obtain rfl : k = ps.length := by omega
      go_wp2
      go_ret
      have e : bs = putL ps := by rw [HB.out, List.take_length]
      subst e
      exact ⟨_, rfl, Made.of_own hown hbel⟩
theorem Made.after {w W w' : World} {v : Value} {bs : List UInt8} (h : Made W w' v bs) (hb : Below w.heap.size w W) : Made w w' v bs := by
  obtain ⟨A, c, rfl, hl, hr, ho, hB⟩ := h
  exact Made.of_own (own_base ho hb.size) (hb.trans (hB.mono hb.size))
theorem Made.below {w w' : World} {v : Value} {bs : List UInt8} (h : Made w w' v bs) : Below w.heap.size w w' := by
  obtain ⟨A, c, rfl, hl, hr, ho, hB⟩ := h
  exact hB
theorem putR_F (f : F6) (p : Int) (h : okF f) (hp : p = f.off + bit f.more 1) : putB (putB [u8 f.next, 0] p 2) f.id 4 = bldF f := by
  rw [bldF, if_pos h]
  obtain ⟨h1, h2, h3, h4, h5, h6, h7⟩ := h
  have hb : 0 ≤ bit f.more 1 ∧ bit f.more 1 ≤ 1 := by unfold bit; cases f.more <;> simp
  subst hp
  rw [put_two (by omega) (by omega), put_four h6 h7, bytF]
theorem arg_pair (w : World) (n : Int) {m : Int} (h : m = n % 256) : Arg (w.alloc (.cells #[.int .u8 m, .int .u8 0] 5)) (w.heap.size + 1) (some ⟨w.heap.size, 0, none⟩) 2 [u8 n, 0] :=
  ⟨Rd.pair _ (by rw [u8_val]; exact h) rfl, by simp, fun e => by cases e⟩
def flat : List (Int × Int) → List Value
  | [] => []
  | x :: l => .int .i64 x.1 :: .int .i64 x.2 :: flat l
theorem flat_get : ∀ (ps : List (Int × Int)) (k : Nat) (x : Int × Int), ps[k]? = some x → (flat ps)[k * 2]? = some (.int .i64 x.1) ∧ (flat ps)[k * 2 + 1]? = some (.int .i64 x.2)
  | [], k, x, h => by simp at h
  | y :: l, 0, x, h => by simp at h; subst h; exact ⟨rfl, rfl⟩
  | y :: l, k + 1, x, h => by
    have := flat_get l k x (by simpa using h)
    rw [show (k + 1) * 2 = k * 2 + 1 + 1 from by omega]
    simpa [flat] using this
theorem put6_new (ps : List (Int × Int)) (cs : Array Value) (n : Nat) (t : TypeId) (w : World) (hc : cs = (flat ps).toArray) (hn : n = ps.length) (hl : ps.length ≤ 10) (hs : ∀ x ∈ ps, x.2.toNat ≤ 4) :
    Calls Try.prog 74 #[.slice (some ⟨w.heap.size, 0, none⟩) n n] (w.alloc (.cells cs t)) fun e w' => ∃ v, e = .returned v ∧ Made w w' v (putL ps) := by
  subst hc; subst hn
  refine (put6_any w.heap.size ps _ hl hs (by simp) fun k x hx => ?_).mono ?_
  · obtain ⟨h1, h2⟩ := flat_get ps k x hx
    exact ⟨by rw [World.cell?_alloc_new, List.getElem?_toArray]; exact h1, by rw [World.cell?_alloc_new, List.getElem?_toArray]; exact h2⟩
  · rintro e w' ⟨v, he, hm⟩
    exact ⟨v, he, hm.after ((Below.refl _ w).alloc (Nat.le_refl _) _)⟩
theorem put_one {bs : List UInt8} {n : Int} (h0 : 0 ≤ n) (h1 : n ≤ 255) : putB bs n 1 = bs ++ [u8 n] := by
  rw [putB, if_pos (fitsB_iff.2 ⟨by omega, by omega, h0, by simp [pw]; omega⟩)]
  simp [digs, List.range_succ, u8_dig h0, pw]
theorem putL_F (f : F6) (p : Int) (h : okF f) (hp : p = f.off + bit f.more 1) : putL [(f.next, 1), (0, 1), (p, 2), (f.id, 4)] = bldF f := by
  rw [bldF, if_pos h]
  obtain ⟨h1, h2, h3, h4, h5, h6, h7⟩ := h
  have hb : 0 ≤ bit f.more 1 ∧ bit f.more 1 ≤ 1 := by unfold bit; cases f.more <;> simp
  subst hp
  simp only [putL, List.foldl_cons, List.foldl_nil]
  rw [put_one h1 h2, put_one (by omega) (by omega), put_two (by omega) (by omega), put_four h6 h7, bytF]
  rfl
end Go.Proofs.Ytcebobcakiljhaa
