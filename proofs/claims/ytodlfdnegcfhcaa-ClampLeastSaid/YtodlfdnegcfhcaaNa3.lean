/-
  Contracts and lemmas on which the proofs of this seat stand (several texts in one). Conditions are each theorem's own.
-/
import Derived.Test.YtodlfdnegcfhcaaNa2
import Derived.Deep.Cut
import Derived.Deep.CutRange
import Derived.Test.YtodlfdnegcfhcaaNa1
import Derived.Deep.WholeRow
import Derived.Deep.MidRow

/-
  Contracts of the document's plain answers of layer 5: Size, Check. Conditions are each theorem's own.
-/
namespace Go.Proofs.Ytodlfdnegcfhcaa
open Go.RowKit

section
variable (q : P4) (A : Option Addr) (c : Nat) (A' : Option Addr) (c' : Nat) (w : World)
set_option maxHeartbeats 1000000 in
theorem r5size (ho : q.opt.length ≤ 1000000) (hd : q.dat.length ≤ 1000000) : Calls Try.prog 47 #[v4v q A c A' c'] w fun e w' => e = .returned (.int .i64 (size4 q)) ∧ Below w.heap.size w w' := by
  have hB : Below w.heap.size w (w.alloc (.cells (v4a q A c A' c') 25)) := (Below.refl w.heap.size w).alloc (Nat.le_refl _) _
  have hAt := At4.new (q := q) (A := A) (c := c) (A' := A') (c' := c') w
  have hz : (w.alloc (.cells (v4a q A c A' c') 25)).heap.size = w.heap.size + 1 := by simp
  have HZ := Lib.hid (show size4 q = head4 q + (q.dat.length : Int) from rfl)
  have hh : head4 q = 20 + (q.opt.length : Int) := rfl
  have hhb : 0 ≤ head4 q ∧ head4 q ≤ 1000020 := by omega
  clear hh
  have HW := Lib.hid (IntWalk.i64_in (head4 q + (q.dat.length : Int)) (by omega))
  unfold v4v
  rw [show #[Value.int .i64 q.tos, .int .i64 q.id, .int .i64 q.off, .int .i64 q.ttl, .int .i64 q.proto, .int .i64 q.src, .int .i64 q.dst, .bool q.df, .bool q.mf, .slice A q.opt.length c, .slice A' q.dat.length c'] = v4a q A c A' c' from rfl]
  go_enter Try.func47, Try.ntmps47
  go_wp2_with fail
  generalize w.alloc (.cells (v4a q A c A' c') 25) = W at *
  refine wp_region_held_drew (S := fun w' => Below W.heap.size W w') (by kernel_rfl) (Below.refl _ W).drew (fun hS => ?_)
  refine held_pure (i := 0) (oi := ⟨some 3, _, _, _, _, _⟩) rfl (by kernel_rfl) (by kernel_rfl) (by kernel_rfl) (fun _ _ _ h => h) (by rfl) (fun w hSw => run_load_v4 rfl rfl (hAt.below hSw (by omega)) rfl) hS (fun hS => ?_)
  try go_frame
  refine held_pure (i := 2) (oi := ⟨some 5, _, _, _, _, _⟩) rfl (by kernel_rfl) (by kernel_rfl) (by kernel_rfl) (fun _ _ _ h => h) (by rfl) (v := ?_) (fun w hSw => ?_) hS (fun hS => ?_)
  rotate_left
  · go_simp; try with_reducible rfl
  try go_frame
  refine held_pure (i := 3) (oi := ⟨some 6, _, _, _, _, _⟩) rfl (by kernel_rfl) (by kernel_rfl) (by kernel_rfl) (fun _ _ _ h => h) (by rfl) (fun w hSw => run_load_sl rfl rfl (hAt.below hSw (by omega)).dat) hS (fun hS => ?_)
  try go_frame
  refine held_pure (i := 4) (oi := ⟨some 7, _, _, _, _, _⟩) rfl (by kernel_rfl) (by kernel_rfl) (by kernel_rfl) (fun _ _ _ h => h) (by rfl) (v := ?_) (fun w hSw => ?_) hS (fun hS => ?_)
  rotate_left
  · go_simp; try with_reducible rfl
  try go_frame
  refine wpAnyH_ready (rs := [1]) (by kernel_rfl) (by simp) (AllReadyH.cons (o := ⟨some 4, _, _, _, _, _⟩) rfl (fun K hK => ?_) AllReadyH.nil)
  rw [if_pos (by rfl)]
  go_simp
  refine (r5head q A c A' c' _ ho).mono ?_
  rintro e w1 ⟨rfl, x1⟩
  show K _ _
  refine hK.out _ _ (below_step hS x1) (fun hS => ?_)
  clear hK K
  try go_frame
  refine held_pure (i := 5) (oi := ⟨some 8, _, _, _, _, _⟩) rfl (by kernel_rfl) (by kernel_rfl) (by kernel_rfl) (fun _ _ _ h => h) (by rfl) (v := ?_) (fun w hSw => ?_) hS (fun hS => ?_)
  rotate_left
  · go_simp; try with_reducible rfl
  try go_frame
  refine held_pure (i := 6) (oi := ⟨some 2, _, _, _, _, _⟩) rfl (by kernel_rfl) (by kernel_rfl) (by kernel_rfl) (fun _ _ _ h => h) (by rfl) (v := ?_) (fun w hSw => ?_) hS (fun hS => ?_)
  rotate_left
  · go_simp; try with_reducible rfl
  try go_frame
  refine wpAnyH_done (by kernel_rfl) ?_ _
  go_wp2_with fail
  go_ret
  exact ⟨ret_int (by rw [HZ.out]; exact HW.out), hB.trans (hS.mono (by omega))⟩
def fieldsB (q : P4) : Bool := fitsB q.tos 1 && fitsB q.ttl 1 && fitsB q.proto 1 && fitsB q.id 2
def placesB (q : P4) : Bool := okB q.src && okB q.dst && decide (0 ≤ q.off) && decide (q.off ≤ 65528) && decide (q.off % 8 = 0)
def optsB (q : P4) : Bool := decide (q.opt.length ≤ 40) && decide (q.opt.length % 4 = 0)
theorem arg4_iff (q : P4) : arg4 q ↔ fieldsB q = true ∧ placesB q = true ∧ optsB q = true ∧ (q.mf = true → q.dat.length % 8 = 0) := by
  unfold arg4 fieldsB placesB optsB
  simp only [Bool.and_eq_true, fitsB_iff, okB, decide_eq_true_eq, pw]
  constructor
  · rintro ⟨a1, a2, a3, a4, a5, a6, a7, a8, a9, a10, a11, a12, a13, a14, a15, a16, a17, a18⟩
    refine ⟨⟨⟨⟨?_, ?_⟩, ?_⟩, ?_⟩, ⟨⟨⟨⟨?_, ?_⟩, ?_⟩, ?_⟩, ?_⟩, ⟨?_, ?_⟩, a18⟩ <;> (try simp) <;> omega
  · rintro ⟨⟨⟨⟨f1, f2⟩, f3⟩, f4⟩, ⟨⟨⟨⟨p1, p2⟩, p3⟩, p4⟩, p5⟩, ⟨o1, o2⟩, hm⟩
    simp at f1 f2 f3 f4
    refine ⟨?_, ?_, ?_, ?_, ?_, ?_, ?_, ?_, ?_, ?_, ?_, ?_, ?_, ?_, ?_, ?_, ?_, hm⟩ <;> omega
set_option maxRecDepth 100000 in
set_option maxHeartbeats 4000000 in
theorem r5check (ho : q.opt.length ≤ 1000000) (hd : q.dat.length ≤ 1000000) : Calls Try.prog 24 #[v4v q A c A' c'] w fun e w' => e = .returned (.int .i64 (chk4 q)) ∧ Below w.heap.size w w' := by
  have hB : Below w.heap.size w (w.alloc (.cells (v4a q A c A' c') 25)) := (Below.refl w.heap.size w).alloc (Nat.le_refl _) _
  have hAt := At4.new (q := q) (A := A) (c := c) (A' := A') (c' := c') w
  have hz : (w.alloc (.cells (v4a q A c A' c') 25)).heap.size = w.heap.size + 1 := by simp
  have hg := World.alloc_heap_new w (.cells (v4a q A c A' c') 25)
  have h0 := hAt.tos; have h1 := hAt.id; have h2 := hAt.off; have h3 := hAt.ttl; have h4 := hAt.proto; have h5 := hAt.src; have h6 := hAt.dst; have h8 := hAt.mf; have h9 := hAt.opt; have h10 := hAt.dat
  unfold v4v
  rw [show #[Value.int .i64 q.tos, .int .i64 q.id, .int .i64 q.off, .int .i64 q.ttl, .int .i64 q.proto, .int .i64 q.src, .int .i64 q.dst, .bool q.df, .bool q.mf, .slice A q.opt.length c, .slice A' q.dat.length c'] = v4a q A c A' c' from rfl]
  go_enter Try.func24, Try.ntmps24
  go_upto_region 1 with fail
  generalize w.alloc (.cells (v4a q A c A' c') 25) = W at *
  obtain ⟨f0, hf0⟩ : ∃ b, b = fitsB q.tos 1 := ⟨_, rfl⟩
  obtain ⟨f1, hf1⟩ : ∃ b, b = fitsB q.ttl 1 := ⟨_, rfl⟩
  obtain ⟨f2, hf2⟩ : ∃ b, b = fitsB q.proto 1 := ⟨_, rfl⟩
  obtain ⟨f3, hf3⟩ : ∃ b, b = fitsB q.id 2 := ⟨_, rfl⟩
  have HF := Lib.hid (show fieldsB q = (f0 && f1 && f2 && f3) from by rw [fieldsB, hf0, hf1, hf2, hf3])
  have H0 := Lib.hid hf0; have H1 := Lib.hid hf1; have H2 := Lib.hid hf2; have H3 := Lib.hid hf3
  clear hf0 hf1 hf2 hf3
  go_cut [3] from 6 (fun s w' => s = .bool (f0 && f1 && f2 && f3) ∧ w' = W)
  case first =>
    cases f0 <;> cases f1 <;> cases f2 <;> cases f3 <;> (
      go_wp2_with (go_at_call 45; refine (rfits_any _ _ _).mono ?_; rintro e w' ⟨rfl, rfl⟩; (first | rw [← H0.out] | rw [← H1.out] | rw [← H2.out] | rw [← H3.out]))
      go_meet
      exact ⟨rfl, rfl⟩)
  case rest =>
    obtain ⟨hs3, hwc⟩ := hcut
    subst hs3; subst hwc
    go_upto_region 2 with fail
    obtain ⟨g0, hg0⟩ : ∃ b, b = okB q.src := ⟨_, rfl⟩
    obtain ⟨g1, hg1⟩ : ∃ b, b = okB q.dst := ⟨_, rfl⟩
    have HG := Lib.hid (show placesB q = (g0 && g1 && decide (0 ≤ q.off) && decide (q.off ≤ 65528) && decide (q.off % 8 = 0)) from by rw [placesB, hg0, hg1])
    have G0 := Lib.hid hg0; have G1 := Lib.hid hg1
    clear hg0 hg1
    go_cut [4] from 24 (fun s w' => s = .bool (g0 && g1 && decide (0 ≤ q.off) && decide (q.off ≤ 65528) && decide (q.off % 8 = 0)) ∧ w' = wc)
    case first =>
      by_cases p0 : 0 ≤ q.off
      · have p0' : decide (0 ≤ q.off) = true := by simpa using p0
        have ptm : Int.tmod q.off 8 = q.off % 8 := Int.tmod_eq_emod_of_nonneg p0
        by_cases p1 : q.off ≤ 65528
        · have p1' : decide (q.off ≤ 65528) = true := by simpa using p1
          by_cases p2 : q.off % 8 = 0
          · have p2' : (q.off % 8 == 0) = true := by simpa using p2
            have E := Lib.hid (show decide (q.off % 8 = 0) = true by simpa using p2)
            have E1 := Lib.hid p0'; have E2 := Lib.hid p1'
            clear p2
            cases g0 <;> cases g1 <;> (
              go_wp2_with (go_at_call 46; refine (r3right_any _ _).mono ?_; rintro e w' ⟨rfl, rfl⟩; (first | rw [← G0.out] | rw [← G1.out]))
              go_meet
              exact ⟨by simp [E.out, E1.out, E2.out], rfl⟩)
          · have p2' : (q.off % 8 == 0) = false := by simpa using p2
            have E := Lib.hid (show decide (q.off % 8 = 0) = false by simpa using p2)
            have E1 := Lib.hid p0'; have E2 := Lib.hid p1'
            clear p2
            cases g0 <;> cases g1 <;> (
              go_wp2_with (go_at_call 46; refine (r3right_any _ _).mono ?_; rintro e w' ⟨rfl, rfl⟩; (first | rw [← G0.out] | rw [← G1.out]))
              go_meet
              exact ⟨by simp [E.out, E1.out, E2.out], rfl⟩)
        · have p1' : decide (q.off ≤ 65528) = false := by simpa using p1
          have E1 := Lib.hid p0'; have E2 := Lib.hid p1'
          cases g0 <;> cases g1 <;> (
            go_wp2_with (go_at_call 46; refine (r3right_any _ _).mono ?_; rintro e w' ⟨rfl, rfl⟩; (first | rw [← G0.out] | rw [← G1.out]))
            go_meet
            exact ⟨by simp [E1.out, E2.out], rfl⟩)
      · have p0' : decide (0 ≤ q.off) = false := by simpa using p0
        have E1 := Lib.hid p0'
        cases g0 <;> cases g1 <;> (
          go_wp2_with (go_at_call 46; refine (r3right_any _ _).mono ?_; rintro e w' ⟨rfl, rfl⟩; (first | rw [← G0.out] | rw [← G1.out]))
          go_meet
          exact ⟨by simp [E1.out], rfl⟩)
    case rest =>
      obtain ⟨hs4, hwc⟩ := hcut
      subst hs4; subst hwc
      rw [← HF.out, ← HG.out]
      clear HF HG H0 H1 H2 H3 G0 G1
      go_upto_region 3 with fail
      have tm4 : Int.tmod (q.opt.length : Int) 4 = (q.opt.length : Int) % 4 := Int.tmod_eq_emod_of_nonneg (by omega)
      have tm8 : Int.tmod (q.dat.length : Int) 8 = (q.dat.length : Int) % 8 := Int.tmod_eq_emod_of_nonneg (by omega)
      have HA := Lib.hid (arg4_iff q)
      have HC : Hid (chk4 q = if arg4 q then (if size4 q > 65535 ∨ q.off > 65535 - (q.dat.length : Int) then 6 else 0) else 1) := Lib.hid rfl
      have HP := Lib.hid (show placesB q = true → 0 ≤ q.off ∧ q.off ≤ 65528 from fun h => by simp [placesB] at h; omega)
      obtain ⟨F, hF⟩ : ∃ b, b = fieldsB q := ⟨_, rfl⟩
      obtain ⟨G, hG⟩ : ∃ b, b = placesB q := ⟨_, rfl⟩
      obtain ⟨O, hO⟩ : ∃ b, b = optsB q := ⟨_, rfl⟩
      have HO := Lib.hid (show O = (decide (q.opt.length ≤ 40) && decide (q.opt.length % 4 = 0)) from hO)
      rw [← hF, ← hG] 
      rw [← hF, ← hG, ← hO] at HA
      rw [← hG] at HP
      clear hF hG hO
      go_cut [5] from 48 (fun s w' => s = .bool O ∧ w' = wc)
      case first =>
        by_cases o1 : q.opt.length ≤ 40
        · by_cases o2 : q.opt.length % 4 = 0
          · have o2' : (((q.opt.length : Int) % 4) == 0) = true := by simp; omega
            have E := Lib.hid (show O = true by rw [HO.out]; simp [o1, o2])
            clear o2 HA HP
            go_wp2_with fail
            go_meet
            exact ⟨by rw [E.out], rfl⟩
          · have o2' : (((q.opt.length : Int) % 4) == 0) = false := by rw [beq_eq_false_iff_ne]; omega
            have E := Lib.hid (show O = false by rw [HO.out]; simp [o1, o2])
            clear o2 HA HP
            go_wp2_with fail
            go_meet
            exact ⟨by rw [E.out], rfl⟩
        · have o1' : decide ((q.opt.length : Int) ≤ 40) = false := by simp; omega
          have E := Lib.hid (show O = false by rw [HO.out]; simp [o1])
          clear o1 HA HP
          go_wp2_with fail
          go_meet
          exact ⟨by rw [E.out], rfl⟩
      case rest =>
        obtain ⟨hs5, hwc⟩ := hcut
        subst hs5; subst hwc
        have HQ : ∀ b : Bool, q.mf = b → Hid (q.mf = b) := fun b h => Lib.hid h
        by_cases hA : arg4 q
        · obtain ⟨rfl, rfl, rfl, hm⟩ := HA.out.1 hA
          have hp := HP.out rfl
          have hA' := hA
          have hsz0 : 0 ≤ size4 q ∧ size4 q ≤ 2000020 := by unfold size4 head4; omega
          clear hA HA HP
          cases hmf : q.mf
          · rw [hmf] at h8
            clear hmf HQ hm
            by_cases s1 : 65535 < size4 q
            · have HR : Hid (chk4 q = 6) := Lib.hid (by rw [HC.out, if_pos hA', if_pos (.inl s1)])
              clear HC hA'
              go_wp2_with (first
                | ((with_reducible show wpList _ _ _ (Oper.mk _ (Op.load _ _) _ _ _ _ :: _) _ _); refine v4_load (g := w.heap.size) rfl hg rfl ?_)
                | (go_at_call 47; refine (r5size q A c A' c' _ ho hd).mono ?_; rintro e ws ⟨rfl, bS⟩; have h2 := (bS.cell (p := ⟨w.heap.size, 2, none⟩) (by show w.heap.size < _; omega)).trans h2; have h10 := (bS.cell (p := ⟨w.heap.size, 10, none⟩) (by show w.heap.size < _; omega)).trans h10))
              go_ret
              exact ⟨ret_int HR.out.symm, hB.trans (bS.mono hB.size)⟩
            · by_cases s2 : 65535 - (q.dat.length : Int) < q.off
              · have HR : Hid (chk4 q = 6) := Lib.hid (by rw [HC.out, if_pos hA', if_pos (.inr s2)])
                clear HC hA'
                go_wp2_with (first
                | ((with_reducible show wpList _ _ _ (Oper.mk _ (Op.load _ _) _ _ _ _ :: _) _ _); refine v4_load (g := w.heap.size) rfl hg rfl ?_)
                | (go_at_call 47; refine (r5size q A c A' c' _ ho hd).mono ?_; rintro e ws ⟨rfl, bS⟩; have h2 := (bS.cell (p := ⟨w.heap.size, 2, none⟩) (by show w.heap.size < _; omega)).trans h2; have h10 := (bS.cell (p := ⟨w.heap.size, 10, none⟩) (by show w.heap.size < _; omega)).trans h10))
                go_ret
                exact ⟨ret_int HR.out.symm, hB.trans (bS.mono hB.size)⟩
              · have HR : Hid (chk4 q = 0) := Lib.hid (by rw [HC.out, if_pos hA', if_neg (by omega)])
                clear HC hA'
                go_wp2_with (first
                | ((with_reducible show wpList _ _ _ (Oper.mk _ (Op.load _ _) _ _ _ _ :: _) _ _); refine v4_load (g := w.heap.size) rfl hg rfl ?_)
                | (go_at_call 47; refine (r5size q A c A' c' _ ho hd).mono ?_; rintro e ws ⟨rfl, bS⟩; have h2 := (bS.cell (p := ⟨w.heap.size, 2, none⟩) (by show w.heap.size < _; omega)).trans h2; have h10 := (bS.cell (p := ⟨w.heap.size, 10, none⟩) (by show w.heap.size < _; omega)).trans h10))
                go_ret
                exact ⟨ret_int HR.out.symm, hB.trans (bS.mono hB.size)⟩
          · have h8l := hm hmf
            have h8' : (((q.dat.length : Int) % 8) != 0) = false := by simp; omega
            rw [hmf] at h8
            clear hmf HQ hm h8l
            by_cases s1 : 65535 < size4 q
            · have HR : Hid (chk4 q = 6) := Lib.hid (by rw [HC.out, if_pos hA', if_pos (.inl s1)])
              clear HC hA'
              go_wp2_with (first
                | ((with_reducible show wpList _ _ _ (Oper.mk _ (Op.load _ _) _ _ _ _ :: _) _ _); refine v4_load (g := w.heap.size) rfl hg rfl ?_)
                | (go_at_call 47; refine (r5size q A c A' c' _ ho hd).mono ?_; rintro e ws ⟨rfl, bS⟩; have h2 := (bS.cell (p := ⟨w.heap.size, 2, none⟩) (by show w.heap.size < _; omega)).trans h2; have h10 := (bS.cell (p := ⟨w.heap.size, 10, none⟩) (by show w.heap.size < _; omega)).trans h10))
              go_ret
              exact ⟨ret_int HR.out.symm, hB.trans (bS.mono hB.size)⟩
            · by_cases s2 : 65535 - (q.dat.length : Int) < q.off
              · have HR : Hid (chk4 q = 6) := Lib.hid (by rw [HC.out, if_pos hA', if_pos (.inr s2)])
                clear HC hA'
                go_wp2_with (first
                | ((with_reducible show wpList _ _ _ (Oper.mk _ (Op.load _ _) _ _ _ _ :: _) _ _); refine v4_load (g := w.heap.size) rfl hg rfl ?_)
                | (go_at_call 47; refine (r5size q A c A' c' _ ho hd).mono ?_; rintro e ws ⟨rfl, bS⟩; have h2 := (bS.cell (p := ⟨w.heap.size, 2, none⟩) (by show w.heap.size < _; omega)).trans h2; have h10 := (bS.cell (p := ⟨w.heap.size, 10, none⟩) (by show w.heap.size < _; omega)).trans h10))
                go_ret
                exact ⟨ret_int HR.out.symm, hB.trans (bS.mono hB.size)⟩
              · have HR : Hid (chk4 q = 0) := Lib.hid (by rw [HC.out, if_pos hA', if_neg (by omega)])
                clear HC hA'
                go_wp2_with (first
                | ((with_reducible show wpList _ _ _ (Oper.mk _ (Op.load _ _) _ _ _ _ :: _) _ _); refine v4_load (g := w.heap.size) rfl hg rfl ?_)
                | (go_at_call 47; refine (r5size q A c A' c' _ ho hd).mono ?_; rintro e ws ⟨rfl, bS⟩; have h2 := (bS.cell (p := ⟨w.heap.size, 2, none⟩) (by show w.heap.size < _; omega)).trans h2; have h10 := (bS.cell (p := ⟨w.heap.size, 10, none⟩) (by show w.heap.size < _; omega)).trans h10))
                go_ret
                exact ⟨ret_int HR.out.symm, hB.trans (bS.mono hB.size)⟩
        · have HR : Hid (chk4 q = 1) := Lib.hid (by rw [HC.out, if_neg hA])
          have hno : ¬ (F = true ∧ G = true ∧ O = true ∧ (q.mf = true → q.dat.length % 8 = 0)) := fun h => hA (HA.out.2 h)
          clear hA HA HC HP
          cases hmf : q.mf
          · rw [hmf] at h8 hno
            clear hmf HQ
            have hno' : ¬ (F = true ∧ G = true ∧ O = true) := fun h => hno ⟨h.1, h.2.1, h.2.2, fun e => by cases e⟩
            clear hno
            cases F <;> cases G <;> cases O <;> first
              | exact absurd ⟨rfl, rfl, rfl⟩ hno'
              | (clear hno'
                 go_wp2_with fail
                 go_ret
                 exact ⟨ret_int HR.out.symm, hB⟩)
          · rw [hmf] at h8 hno
            clear hmf HQ
            by_cases h8l : q.dat.length % 8 = 0
            · have h8' : (((q.dat.length : Int) % 8) != 0) = false := by simp; omega
              have hno' : ¬ (F = true ∧ G = true ∧ O = true) := fun h => hno ⟨h.1, h.2.1, h.2.2, fun _ => h8l⟩
              clear hno h8l
              cases F <;> cases G <;> cases O <;> first
                | exact absurd ⟨rfl, rfl, rfl⟩ hno'
                | (clear hno'
                   go_wp2_with fail
                   go_ret
                   exact ⟨ret_int HR.out.symm, hB⟩)
            · have h8' : (((q.dat.length : Int) % 8) != 0) = true := by simp; omega
              clear hno h8l
              cases F <;> cases G <;> cases O <;> (
                   go_wp2_with fail
                   go_ret
                   exact ⟨ret_int HR.out.symm, hB⟩)
end
end Go.Proofs.Ytodlfdnegcfhcaa

/-
  Contracts of the document's plain answers of layer 5: Same, num. Conditions are each theorem's own.
-/
namespace Go.Proofs.Ytodlfdnegcfhcaa
open Go.RowKit

theorem r5num (A : Option Addr) (bs : List UInt8) (c B : Nat) (at_ s : Int) (w : World) (h : Rd w B A bs) (hl : bs.length ≤ 1099511627776) :
    Calls Try.prog 21 #[.slice A bs.length c, .int .i64 at_, .int .i64 s] w fun e w' => e = .returned (.int .i64 (getV bs at_ s)) ∧ w = w' := by
  go_enter Try.func21, Try.ntmps21
  go_wp2_with (go_at_call 43; refine (rget_any A bs c B at_ s _ h hl).mono ?_; rintro e w' ⟨rfl, rfl⟩)
  go_ret
  exact ⟨rfl, rfl⟩

/-- Are two packets the same? A plain definition. -/
def same4 (q r : P4) : Bool := (q.tos == r.tos && q.id == r.id && q.off == r.off && q.ttl == r.ttl && q.proto == r.proto && q.src == r.src && q.dst == r.dst) && (q.df == r.df) && (q.mf == r.mf) && decide (q.opt = r.opt) && decide (q.dat = r.dat)
theorem same4_iff {q r : P4} : same4 q r = true ↔ q = r := by
  obtain ⟨a0, a1, a2, a3, a4, a5, a6, a7, a8, a9, a10⟩ := q
  obtain ⟨b0, b1, b2, b3, b4, b5, b6, b7, b8, b9, b10⟩ := r
  simp only [same4, Bool.and_eq_true, beq_iff_eq, decide_eq_true_eq, P4.mk.injEq]
  constructor
  · rintro ⟨⟨⟨⟨⟨⟨⟨⟨⟨⟨h0, h1⟩, h2⟩, h3⟩, h4⟩, h5⟩, h6⟩, h7⟩, h8⟩, h9⟩, h10⟩; exact ⟨h0, h1, h2, h3, h4, h5, h6, h7, h8, h9, h10⟩
  · rintro ⟨h0, h1, h2, h3, h4, h5, h6, h7, h8, h9, h10⟩; exact ⟨⟨⟨⟨⟨⟨⟨⟨⟨⟨h0, h1⟩, h2⟩, h3⟩, h4⟩, h5⟩, h6⟩, h7⟩, h8⟩, h9⟩, h10⟩
set_option maxRecDepth 100000 in
set_option maxHeartbeats 4000000 in
theorem r5same (q r : P4) (A : Option Addr) (c : Nat) (A' : Option Addr) (c' : Nat) (X : Option Addr) (d : Nat) (X' : Option Addr) (d' B : Nat) (w : World) (hB : B ≤ w.heap.size)
    (hA : Rd w B A q.opt) (hA' : Rd w B A' q.dat) (hX : Rd w B X r.opt) (hX' : Rd w B X' r.dat) :
    Calls Try.prog 9 #[v4v q A c A' c', v4v r X d X' d'] w fun e w' => e = .returned (.bool (same4 q r)) ∧ Below w.heap.size w w' := by
  have hBl : ∀ o1 o2, Below w.heap.size w ((w.alloc o1).alloc o2) := fun o1 o2 => ((Below.refl w.heap.size w).alloc (Nat.le_refl _) o1).alloc (by simp) o2
  have at1 : At4 ((w.alloc (.cells (v4a q A c A' c') 25)).alloc (.cells (v4a r X d X' d') 25)) w.heap.size q A c A' c' := (At4.new w).below ((Below.refl (w.heap.size + 1) _).alloc (by simp) _) (by omega)
  have at2 : At4 ((w.alloc (.cells (v4a q A c A' c') 25)).alloc (.cells (v4a r X d X' d') 25)) (w.heap.size + 1) r X d X' d' := by
    have := At4.new (q := r) (A := X) (c := d) (A' := X') (c' := d') (w.alloc (.cells (v4a q A c A' c') 25))
    rwa [show (w.alloc (.cells (v4a q A c A' c') 25)).heap.size = w.heap.size + 1 from by simp] at this
  have keep : ∀ {Y : Option Addr} {bs : List UInt8}, Rd w B Y bs → Rd ((w.alloc (.cells (v4a q A c A' c') 25)).alloc (.cells (v4a r X d X' d') 25)) B Y bs := fun h => h.below ((hBl _ _).mono hB)
  obtain ⟨W, hW⟩ : ∃ W, W = (w.alloc (.cells (v4a q A c A' c') 25)).alloc (.cells (v4a r X d X' d') 25) := ⟨_, rfl⟩
  have HB2 : Below w.heap.size w W := by rw [hW]; exact hBl _ _
  rw [← hW] at at1 at2
  have c1 := conv_any A q.opt c B W (by rw [hW]; exact keep hA)
  have c2 := conv_any A' q.dat c' B W (by rw [hW]; exact keep hA')
  have c3 := conv_any X r.opt d B W (by rw [hW]; exact keep hX)
  have c4 := conv_any X' r.dat d' B W (by rw [hW]; exact keep hX')
  have x0 := at1.tos; have x1 := at1.id; have x2 := at1.off; have x3 := at1.ttl; have x4 := at1.proto; have x5 := at1.src; have x6 := at1.dst; have x7 := at1.df; have x8 := at1.mf; have x9 := at1.opt; have x10 := at1.dat
  have y0 := at2.tos; have y1 := at2.id; have y2 := at2.off; have y3 := at2.ttl; have y4 := at2.proto; have y5 := at2.src; have y6 := at2.dst; have y7 := at2.df; have y8 := at2.mf; have y9 := at2.opt; have y10 := at2.dat
  have HS := Lib.hid (show same4 q r = ((q.tos == r.tos && q.id == r.id && q.off == r.off && q.ttl == r.ttl && q.proto == r.proto && q.src == r.src && q.dst == r.dst) && (q.df == r.df) && (q.mf == r.mf) && decide (q.opt = r.opt) && decide (q.dat = r.dat)) from rfl)
  clear at1 at2 keep hA hA' hX hX' hBl
  have HWW := Lib.hid hW
  unfold v4v
  rw [show #[Value.int .i64 q.tos, .int .i64 q.id, .int .i64 q.off, .int .i64 q.ttl, .int .i64 q.proto, .int .i64 q.src, .int .i64 q.dst, .bool q.df, .bool q.mf, .slice A q.opt.length c, .slice A' q.dat.length c'] = v4a q A c A' c' from rfl,
    show #[Value.int .i64 r.tos, .int .i64 r.id, .int .i64 r.off, .int .i64 r.ttl, .int .i64 r.proto, .int .i64 r.src, .int .i64 r.dst, .bool r.df, .bool r.mf, .slice X r.opt.length d, .slice X' r.dat.length d'] = v4a r X d X' d' from rfl]
  clear hW
  go_enter Try.func9, Try.ntmps9
  go_upto_region 1 with fail
  rw [← HWW.out]
  go_cut [5] from 6 (fun s w' => s = .bool (q.tos == r.tos && q.id == r.id && q.off == r.off && q.ttl == r.ttl && q.proto == r.proto && q.src == r.src && q.dst == r.dst) ∧ w' = W)
  case first =>
    cases e0 : (q.tos == r.tos)
    · go_wp2_with fail
      go_meet
      exact ⟨by rw [e0]; rfl, rfl⟩
    · skip
      cases e1 : (q.id == r.id)
      · go_wp2_with fail
        go_meet
        exact ⟨by rw [e0, e1]; rfl, rfl⟩
      · skip
        cases e2 : (q.off == r.off)
        · go_wp2_with fail
          go_meet
          exact ⟨by rw [e0, e1, e2]; rfl, rfl⟩
        · skip
          cases e3 : (q.ttl == r.ttl)
          · go_wp2_with fail
            go_meet
            exact ⟨by rw [e0, e1, e2, e3]; rfl, rfl⟩
          · skip
            cases e4 : (q.proto == r.proto)
            · go_wp2_with fail
              go_meet
              exact ⟨by rw [e0, e1, e2, e3, e4]; rfl, rfl⟩
            · skip
              cases e5 : (q.src == r.src)
              · go_wp2_with fail
                go_meet
                exact ⟨by rw [e0, e1, e2, e3, e4, e5]; rfl, rfl⟩
              · skip
                cases e6 : (q.dst == r.dst)
                · go_wp2_with fail
                  go_meet
                  exact ⟨by rw [e0, e1, e2, e3, e4, e5, e6]; rfl, rfl⟩
                · go_wp2_with fail
                  go_meet
                  exact ⟨by rw [e0, e1, e2, e3, e4, e5, e6]; rfl, rfl⟩
  case rest =>
    obtain ⟨hs5, hwc⟩ := hcut
    subst hs5
    rw [hwc]
    clear hwc x0 x1 x2 x3 x4 x5 x6 y0 y1 y2 y3 y4 y5 y6
    obtain ⟨K, hK⟩ : ∃ b, b = (q.tos == r.tos && q.id == r.id && q.off == r.off && q.ttl == r.ttl && q.proto == r.proto && q.src == r.src && q.dst == r.dst) := ⟨_, rfl⟩
    rw [← hK] at HS ⊢
    clear hK
    have q1 := strB_eq q.opt r.opt
    have q2 := strB_eq q.dat r.dat
    cases K
    · clear q1 q2
      go_wp2_with fail
      go_ret
      exact ⟨ret_bool (by rw [HS.out]; rfl), HB2⟩
    · cases e7 : (q.df == r.df)
      · clear q1 q2
        go_wp2_with fail
        go_ret
        exact ⟨ret_bool (by rw [HS.out, e7]; rfl), HB2⟩
      · cases e8 : (q.mf == r.mf)
        · clear q1 q2
          go_wp2_with fail
          go_ret
          exact ⟨ret_bool (by rw [HS.out, e7, e8]; rfl), HB2⟩
        · cases e9 : decide (q.opt = r.opt)
          · rw [e9] at q1
            go_wp2_with fail
            go_ret
            exact ⟨ret_bool (by rw [HS.out, e7, e8, e9]; rfl), HB2⟩
          · rw [e9] at q1
            cases e10 : decide (q.dat = r.dat)
            · rw [e10] at q2
              go_wp2_with fail
              go_ret
              exact ⟨ret_bool (by rw [HS.out, e7, e8, e9, e10]; rfl), HB2⟩
            · rw [e10] at q2
              go_wp2_with fail
              go_ret
              exact ⟨ret_bool (by rw [HS.out, e7, e8, e9, e10]; rfl), HB2⟩
end Go.Proofs.Ytodlfdnegcfhcaa

/-
  Packets of IPv4, there and back: what is built is parsed, what is parsed is built. Plain lists of bytes, no program. Conditions are each theorem's own.
-/
namespace Go.Proofs.Ytodlfdnegcfhcaa
open Go.RowKit

theorem chk4_ok {q : P4} (h : chk4 q = 0) : arg4 q ∧ size4 q ≤ 65535 ∧ q.off + (q.dat.length : Int) ≤ 65535 := by
  unfold chk4 at h
  split at h
  · rename_i ha
    split at h
    · cases h
    · exact ⟨ha, by omega, by omega⟩
  · cases h
/-- The head's twenty bytes. -/
def l20 (q : P4) : List UInt8 := hda q (size4 q) ++ be2 (sum4 q) ++ [u8 (q.src / 16777216), u8 (q.src / 65536), u8 (q.src / 256), u8 q.src, u8 (q.dst / 16777216), u8 (q.dst / 65536), u8 (q.dst / 256), u8 q.dst]
theorem bld4_l20 (q : P4) (more : List UInt8) : bld4 q ++ more = l20 q ++ (q.opt ++ (q.dat ++ more)) := by
  simp [bld4, hd4, l20, hdb, List.append_assoc]
theorem hd4_l20 (q : P4) : hd4 q (size4 q) (sum4 q) = l20 q ++ q.opt := by simp [hd4, l20, hdb, List.append_assoc]
theorem l20_len (q : P4) : (l20 q).length = 20 := by simp [l20, hda, be2]
section
variable {q : P4} {more : List UInt8}
theorem byt_b (i : Nat) (hi : i < 20) : byt (bld4 q ++ more) i = byt (l20 q) i := by
  rw [bld4_l20]; exact byt_left (by rw [l20_len]; exact hi)
theorem back_fields (h : chk4 q = 0) :
    hlen (bld4 q ++ more) = head4 q ∧ byt (bld4 q ++ more) 0 / 16 = 4 ∧ n2 (bld4 q ++ more) 2 = size4 q ∧ n2 (bld4 q ++ more) 6 = flags4 q ∧ n2 (bld4 q ++ more) 4 = q.id ∧ byt (bld4 q ++ more) 1 = q.tos ∧ byt (bld4 q ++ more) 8 = q.ttl ∧
      byt (bld4 q ++ more) 9 = q.proto ∧ n4 (bld4 q ++ more) 12 = q.src ∧ n4 (bld4 q ++ more) 16 = q.dst := by
  obtain ⟨⟨a1, a2, a3, a4, a5, a6, a7, a8, a9, a10, a11, a12, a13, a14, a15, a16, a17, a18⟩, hs, ho⟩ := chk4_ok h
  have hh : head4 q = 20 + (q.opt.length : Int) := rfl
  have hz : size4 q = head4 q + (q.dat.length : Int) := rfl
  have hf : 0 ≤ flags4 q ∧ flags4 q < 32768 := by unfold flags4 bit; split <;> split <;> omega
  have b : ∀ i, i < 20 → byt (bld4 q ++ more) i = byt (l20 q) i := fun i hi => byt_b i hi
  have c0 : byt (l20 q) 0 = (64 + head4 q / 4) % 256 := u8_val _
  have c1 : byt (l20 q) 1 = q.tos % 256 := u8_val _
  have c2 : byt (l20 q) 2 = size4 q / 256 % 256 := u8_val _
  have c3 : byt (l20 q) 3 = size4 q % 256 := u8_val _
  have c4 : byt (l20 q) 4 = q.id / 256 % 256 := u8_val _
  have c5 : byt (l20 q) 5 = q.id % 256 := u8_val _
  have c6 : byt (l20 q) 6 = flags4 q / 256 % 256 := u8_val _
  have c7 : byt (l20 q) 7 = flags4 q % 256 := u8_val _
  have c8 : byt (l20 q) 8 = q.ttl % 256 := u8_val _
  have c9 : byt (l20 q) 9 = q.proto % 256 := u8_val _
  have c12 : byt (l20 q) 12 = q.src / 16777216 % 256 := u8_val _
  have c13 : byt (l20 q) 13 = q.src / 65536 % 256 := u8_val _
  have c14 : byt (l20 q) 14 = q.src / 256 % 256 := u8_val _
  have c15 : byt (l20 q) 15 = q.src % 256 := u8_val _
  have c16 : byt (l20 q) 16 = q.dst / 16777216 % 256 := u8_val _
  have c17 : byt (l20 q) 17 = q.dst / 65536 % 256 := u8_val _
  have c18 : byt (l20 q) 18 = q.dst / 256 % 256 := u8_val _
  have c19 : byt (l20 q) 19 = q.dst % 256 := u8_val _
  unfold hlen n2 n4
  rw [b 0 (by omega), b 1 (by omega), b 2 (by omega), b 3 (by omega), b 4 (by omega), b 5 (by omega), b 6 (by omega), b 7 (by omega), b 8 (by omega), b 9 (by omega), b 12 (by omega), b 13 (by omega), b 14 (by omega), b 15 (by omega),
    b 16 (by omega), b 17 (by omega), b 18 (by omega), b 19 (by omega), c0, c1, c2, c3, c4, c5, c6, c7, c8, c9, c12, c13, c14, c15, c16, c17, c18, c19]
  clear b c0 c1 c2 c3 c4 c5 c6 c7 c8 c9 c12 c13 c14 c15 c16 c17 c18 c19 h
  have h4 : head4 q % 4 = 0 := by omega
  refine ⟨by omega, by omega, by omega, by omega, by omega, by omega, by omega, by omega, by omega, by omega⟩
theorem back_take (n : Nat) (hn : n = 20 + q.opt.length) : (bld4 q ++ more).take n = hd4 q (size4 q) (sum4 q) := by
  rw [bld4, List.append_assoc, List.take_left' (by rw [hd4_len, hn])]
theorem back_raw (h : chk4 q = 0) : raw4 (bld4 q ++ more) = q := by
  obtain ⟨f0, f1, f2, f3, f4, f5, f6, f7, f8, f9⟩ := back_fields (more := more) h
  obtain ⟨⟨a1, a2, a3, a4, a5, a6, a7, a8, a9, a10, a11, a12, a13, a14, a15, a16, a17, a18⟩, hs, ho⟩ := chk4_ok h
  have hh : head4 q = 20 + (q.opt.length : Int) := rfl
  have hz : size4 q = head4 q + (q.dat.length : Int) := rfl
  have hl : (bld4 q ++ more).length = 20 + q.opt.length + q.dat.length + more.length := by rw [List.length_append, bld4_len]
  have d1 : (head4 q).toNat = 20 + q.opt.length := by omega
  have d2 : (min (size4 q) ((bld4 q ++ more).length : Int)).toNat = 20 + q.opt.length + q.dat.length := by rw [hl]; omega
  have e1 : (bld4 q ++ more).take (20 + q.opt.length + q.dat.length) = bld4 q := List.take_left' (by rw [bld4_len])
  have e2 : (bld4 q).drop (20 + q.opt.length) = q.dat := by rw [bld4, List.drop_left' (by rw [hd4_len])]
  have e3 : (hd4 q (size4 q) (sum4 q)).drop 20 = q.opt := by rw [hd4_l20, List.drop_left' (l20_len q)]
  have g1 : flags4 q % 8192 * 8 = q.off := by unfold flags4 bit; split <;> split <;> omega
  have g2 : decide (flags4 q / 16384 % 2 = 1) = q.df := by
    rw [Bool.eq_iff_iff, decide_eq_true_iff]; unfold flags4 bit
    cases q.df <;> cases q.mf <;> simp <;> omega
  have g3 : decide (flags4 q / 8192 % 2 = 1) = q.mf := by
    rw [Bool.eq_iff_iff, decide_eq_true_iff]; unfold flags4 bit
    cases q.df <;> cases q.mf <;> simp <;> omega
  unfold raw4 fl4
  rw [f0, f2, f3, f4, f5, f6, f7, f8, f9, d1, d2, e1, e2, back_take _ rfl, e3, g1, g2, g3]
theorem back_ok (h : chk4 q = 0) : prsE (bld4 q ++ more) false = 0 ∧ prsV (bld4 q ++ more) false = q := by
  have hraw := back_raw (more := more) h
  obtain ⟨f0, f1, f2, f3, f4, f5, f6, f7, f8, f9⟩ := back_fields (more := more) h
  obtain ⟨⟨a1, a2, a3, a4, a5, a6, a7, a8, a9, a10, a11, a12, a13, a14, a15, a16, a17, a18⟩, hs, ho⟩ := chk4_ok h
  have hh : head4 q = 20 + (q.opt.length : Int) := rfl
  have hz : size4 q = head4 q + (q.dat.length : Int) := rfl
  have hl : (bld4 q ++ more).length = 20 + q.opt.length + q.dat.length + more.length := by rw [List.length_append, bld4_len]
  have hf : flags4 q < 32768 := by unfold flags4 bit; split <;> split <;> omega
  have hb : bad4 (bld4 q ++ more) false = 0 := by
    unfold bad4
    rw [if_neg (by omega), f0, f1, f2, f3, if_neg (by omega), if_neg (by rw [hl]; omega), if_neg (by omega), if_neg ?_]
    rw [show (head4 q).toNat = 20 + q.opt.length from by omega, back_take _ rfl, head_right]; simp
  have he : prsE (bld4 q ++ more) false = 0 := by
    unfold prsE
    rw [if_pos hb, hraw, if_neg (by rw [h]; simp)]
  exact ⟨he, by rw [prsV, if_pos he, hraw]⟩
end

theorem ub {b : List UInt8} {i : Nat} (h : i < b.length) : u8 (byt b i) = b[i] := by
  apply UInt8.toNat_inj.1
  have h1 := u8_val (byt b i)
  have h2 := byt_lo b i
  have h3 := byt_hi b i
  have h4 : byt b i = (b[i].toNat : Int) := by simp [byt, h]
  omega
theorem u8_eq {b : List UInt8} {i : Nat} {n : Int} (h : i < b.length) (e : n % 256 = byt b i) : u8 n = b[i] := by
  rw [← ub h]
  apply UInt8.toNat_inj.1
  have h1 := u8_val (byt b i)
  have h2 := u8_val n
  have h3 := byt_lo b i
  have h4 := byt_hi b i
  omega
theorem drop_eight {l : List UInt8} (h : 20 ≤ l.length) : l.drop 12 = [l[12], l[13], l[14], l[15], l[16], l[17], l[18], l[19]] ++ l.drop 20 := by
  rw [List.drop_eq_getElem_cons (show 12 < l.length by omega), List.drop_eq_getElem_cons (show 13 < l.length by omega), List.drop_eq_getElem_cons (show 14 < l.length by omega), List.drop_eq_getElem_cons (show 15 < l.length by omega),
    List.drop_eq_getElem_cons (show 16 < l.length by omega), List.drop_eq_getElem_cons (show 17 < l.length by omega), List.drop_eq_getElem_cons (show 18 < l.length by omega), List.drop_eq_getElem_cons (show 19 < l.length by omega)]
  rfl
theorem take_ten {l : List UInt8} (h : 10 ≤ l.length) : l.take 10 = [l[0], l[1], l[2], l[3], l[4], l[5], l[6], l[7], l[8], l[9]] := by
  match l, h with
  | a :: b :: c :: d :: e :: f :: g :: i :: j :: k :: r, _ => rfl
/-- What is parsed may be, and its bytes are the bytes, but for the sum. -/
theorem again4 {b : List UInt8} (h : prsE b false = 0) : prsV b false = raw4 b ∧ chk4 (raw4 b) = 0 ∧ (bld4 (raw4 b)).length = (n2 b 2).toNat ∧ (n2 b 2).toNat ≤ b.length ∧ 20 ≤ (n2 b 2).toNat ∧
    (bld4 (raw4 b)).take 10 = b.take 10 ∧ (bld4 (raw4 b)).drop 12 = (b.take (n2 b 2).toNat).drop 12 := by
  have hV : prsV b false = raw4 b := by rw [prsV, if_pos h]
  unfold prsE at h
  by_cases hb : bad4 b false = 0
  · rw [if_pos hb] at h
    by_cases hc : chk4 (raw4 b) = 0
    · refine ⟨hV, hc, ?_⟩
      unfold bad4 at hb
      split at hb
      · cases hb
      · rename_i g1
        split at hb
        · cases hb
        · rename_i g2
          split at hb
          · cases hb
          · rename_i g3
            split at hb
            · cases hb
            · rename_i g4
              clear hb h hV
              obtain ⟨N, hN⟩ : ∃ N : Nat, hlen b = (N : Int) := ⟨(hlen b).toNat, by omega⟩
              obtain ⟨S, hS⟩ : ∃ S : Nat, n2 b 2 = (S : Int) := ⟨(n2 b 2).toNat, by omega⟩
              have hNS : N ≤ S ∧ S ≤ b.length ∧ 20 ≤ N := by
                refine ⟨by omega, ?_, by omega⟩
                have : ¬ (n2 b 2 > (b.length : Int)) := fun e => g3 (.inr ⟨rfl, e⟩)
                omega
              have hopt : (raw4 b).opt = (b.take N).drop 20 := by show (b.take (hlen b).toNat).drop 20 = _; rw [hN, Int.toNat_natCast]
              have hdat : (raw4 b).dat = (b.take S).drop N := by
                show (b.take (min (n2 b 2) (b.length : Int)).toNat).drop (hlen b).toNat = _
                rw [hN, hS, show (min (S : Int) (b.length : Int)).toNat = S from by omega, Int.toNat_natCast]
              have lo : (raw4 b).opt.length = N - 20 := by rw [hopt, List.length_drop, List.length_take]; omega
              have ld : (raw4 b).dat.length = S - N := by rw [hdat, List.length_drop, List.length_take]; omega
              have hh : head4 (raw4 b) = (N : Int) := by unfold head4; omega
              have hz : size4 (raw4 b) = (S : Int) := by unfold size4; omega
              have hfl : flags4 (raw4 b) = n2 b 6 := by
                show n2 b 6 % 8192 * 8 / 8 + bit (decide (n2 b 6 / 16384 % 2 = 1)) 16384 + bit (decide (n2 b 6 / 8192 % 2 = 1)) 8192 = n2 b 6
                have h0 : 0 ≤ n2 b 6 := by unfold n2; have := byt_lo b 6; have := byt_lo b (6 + 1); omega
                unfold bit
                by_cases e1 : n2 b 6 / 16384 % 2 = 1 <;> by_cases e2 : n2 b 6 / 8192 % 2 = 1 <;> simp [e1, e2] <;> omega
              have B : ∀ i, 0 ≤ byt b i ∧ byt b i ≤ 255 := fun i => ⟨byt_lo b i, byt_hi b i⟩
              have b0 := B 0; have b1 := B 1; have b2 := B 2; have b3 := B 3; have b4 := B 4; have b5 := B 5; have b6 := B 6; have b7 := B 7; have b8 := B 8; have b9 := B 9
              have b12 := B 12; have b13 := B 13; have b14 := B 14; have b15 := B 15; have b16 := B 16; have b17 := B 17; have b18 := B 18; have b19 := B 19
              refine ⟨by rw [bld4_len, lo, ld, hS, Int.toNat_natCast]; omega, by rw [hS, Int.toNat_natCast]; omega, by rw [hS, Int.toNat_natCast]; omega, ?_, ?_⟩
              · have e : (bld4 (raw4 b)).take 10 = hda (raw4 b) (size4 (raw4 b)) := by
                  rw [bld4, hd4, List.append_assoc, List.append_assoc, List.take_left' (by simp [hda])]
                rw [e, take_ten (by omega), hda, hh, hz, hfl]
                have i0 : hlen b = byt b 0 % 16 * 4 := rfl
                have i2 : n2 b 2 = byt b 2 * 256 + byt b (2 + 1) := rfl
                have i6 : n2 b 6 = byt b 6 * 256 + byt b (6 + 1) := rfl
                have i4 : (raw4 b).id = byt b 4 * 256 + byt b (4 + 1) := rfl
                have x0 : byt b 0 / 16 = 4 := by omega
                simp only [Nat.reduceAdd] at i2 i6 i4
                rw [u8_eq (b := b) (i := 0) (n := 64 + (N : Int) / 4) (by omega) (by omega), u8_eq (b := b) (i := 1) (n := (raw4 b).tos) (by omega) (by show byt b 1 % 256 = _; omega), u8_eq (b := b) (i := 2) (n := (S : Int) / 256) (by omega) (by omega),
                  u8_eq (b := b) (i := 3) (n := (S : Int)) (by omega) (by omega), u8_eq (b := b) (i := 4) (n := (raw4 b).id / 256) (by omega) (by omega), u8_eq (b := b) (i := 5) (n := (raw4 b).id) (by omega) (by omega),
                  u8_eq (b := b) (i := 6) (n := n2 b 6 / 256) (by omega) (by omega), u8_eq (b := b) (i := 7) (n := n2 b 6) (by omega) (by omega), u8_eq (b := b) (i := 8) (n := (raw4 b).ttl) (by omega) (by show byt b 8 % 256 = _; omega),
                  u8_eq (b := b) (i := 9) (n := (raw4 b).proto) (by omega) (by show byt b 9 % 256 = _; omega)]
              · have e : (bld4 (raw4 b)).drop 12 = hdb (raw4 b) ++ (raw4 b).dat := by
                  rw [bld4, hd4, List.append_assoc, List.drop_left' (by simp [hda, be2])]
                rw [e, hS, Int.toNat_natCast]
                have hs20 : 20 ≤ (b.take S).length := by rw [List.length_take]; omega
                rw [drop_eight hs20]
                have hcut : (b.take S).drop 20 = (raw4 b).opt ++ (raw4 b).dat := by
                  rw [hopt, hdat]
                  have h1 : b.take N = (b.take S).take N := by rw [List.take_take, Nat.min_eq_left hNS.1]
                  rw [h1]
                  conv => lhs; rw [← List.take_append_drop N (b.take S)]
                  rw [List.drop_append_of_le_length (by rw [List.length_take, List.length_take]; omega)]
                rw [hcut, ← List.append_assoc]
                congr 1
                rw [hdb]
                have gt : ∀ i (h : i < (b.take S).length) (h' : i < b.length), (b.take S)[i] = b[i] := fun i h h' => List.getElem_take
                rw [gt 12 (by omega) (by omega), gt 13 (by omega) (by omega), gt 14 (by omega) (by omega), gt 15 (by omega) (by omega), gt 16 (by omega) (by omega), gt 17 (by omega) (by omega), gt 18 (by omega) (by omega), gt 19 (by omega) (by omega)]
                have i12 : (raw4 b).src = ((byt b 12 * 256 + byt b (12 + 1)) * 256 + byt b (12 + 2)) * 256 + byt b (12 + 3) := rfl
                have i16 : (raw4 b).dst = ((byt b 16 * 256 + byt b (16 + 1)) * 256 + byt b (16 + 2)) * 256 + byt b (16 + 3) := rfl
                simp only [Nat.reduceAdd] at i12 i16
                rw [u8_eq (b := b) (i := 12) (n := (raw4 b).src / 16777216) (by omega) (by omega), u8_eq (b := b) (i := 13) (n := (raw4 b).src / 65536) (by omega) (by omega), u8_eq (b := b) (i := 14) (n := (raw4 b).src / 256) (by omega) (by omega),
                  u8_eq (b := b) (i := 15) (n := (raw4 b).src) (by omega) (by omega), u8_eq (b := b) (i := 16) (n := (raw4 b).dst / 16777216) (by omega) (by omega), u8_eq (b := b) (i := 17) (n := (raw4 b).dst / 65536) (by omega) (by omega),
                  u8_eq (b := b) (i := 18) (n := (raw4 b).dst / 256) (by omega) (by omega), u8_eq (b := b) (i := 19) (n := (raw4 b).dst) (by omega) (by omega)]
    · rw [if_pos ⟨rfl, hc⟩] at h; cases h
  · rw [if_neg hb] at h; exact absurd h hb
end Go.Proofs.Ytodlfdnegcfhcaa

/-
  Contract of the document's plain answers of layer 5: head. Conditions are each theorem's own.
-/
namespace Go.Proofs.Ytodlfdnegcfhcaa
open Go.RowKit

theorem put_two {bs : List UInt8} {n : Int} (h0 : 0 ≤ n) (h1 : n ≤ 65535) : putB bs n 2 = bs ++ be2 n := by
  rw [putB, if_pos (fitsB_iff.2 ⟨by omega, by omega, h0, by simp [pw]; omega⟩), ← digs_two h0]; rfl
theorem put_four {bs : List UInt8} {n : Int} (h0 : 0 ≤ n) (h1 : n < 4294967296) : putB bs n 4 = bs ++ be4 n := by
  rw [putB, if_pos (fitsB_iff.2 ⟨by omega, by omega, h0, by simp [pw]; omega⟩), ← digs_four h0]; rfl
theorem putB_le {bs : List UInt8} {n s : Int} {K : Nat} (h : bs.length ≤ K) (hs : s.toNat ≤ 4) : (putB bs n s).length ≤ K + 4 := by
  rw [putB]; split
  · rw [List.length_append, digs_length]; omega
  · omega
theorem arg_own {w : World} {base c : Nat} {A : Option Addr} {bs : List UInt8} (h : w.ownsRow base 5 1 (.slice A bs.length c) bs.length (row bs)) : Arg w w.heap.size A c bs := by
  refine ⟨Rd.of_own rfl h, ?_, fun e => ?_⟩
  · rcases h.2 with ⟨hv, h0⟩ | ⟨g, cap, cur, hv, _, _, hle, _⟩
    · omega
    · injection hv with h1 h2 h3; omega
  · rcases h.2 with ⟨hv, h0⟩ | ⟨g, cap, cur, hv, _, _, hle, _⟩
    · injection hv
    · injection hv with h1 h2 h3; rw [e] at h1; cases h1
theorem own_base {w : World} {base base' e s n : Nat} {v : Value} {xs : List Value} (h : w.ownsRow base' e s v n xs) (hb : base ≤ base') : w.ownsRow base e s v n xs := by
  obtain ⟨hl, h0 | ⟨g, cap, cur, hv, hg, r⟩⟩ := h
  · exact ⟨hl, .inl h0⟩
  · exact ⟨hl, .inr ⟨g, cap, cur, hv, by omega, r⟩⟩
theorem own_made {w : World} {base n : Nat} {v : Value} {xs : List Value} {bs : List UInt8} (h : w.ownsRow base 5 1 v n xs) (hn : n = bs.length) (hx : xs = row bs) : ∃ A c, v = .slice A bs.length c ∧ w.ownsRow base 5 1 (.slice A bs.length c) bs.length (row bs) := by
  subst hn; subst hx
  rcases h.2 with ⟨hv, h0⟩ | ⟨g, cap, cur, hv, _⟩
  · rw [hv] at h; exact ⟨none, 0, by rw [hv, h0], by rw [h0] at h ⊢; exact h⟩
  · rw [hv] at h; exact ⟨_, _, hv, h⟩
section
variable (q : P4) (A : Option Addr) (c : Nat) (A' : Option Addr) (c' : Nat) (w : World)
end
end Go.Proofs.Ytodlfdnegcfhcaa

/-
  Contract of the document's plain answers of layer 5: Build. Conditions are each theorem's own.
-/
namespace Go.Proofs.Ytodlfdnegcfhcaa
open Go.RowKit

/-- append onto a row of the call's own, of a source that reads as bytes: as an operation. -/
theorem append_wp {w : World} {o : Oper} {a : Act} {K : Act → World → Prop} {Q : Exit → Act → World → Prop} (s x : Operand)
    (ho : o.op = .call { callee := .builtin .append, args := #[s, x], argTypes := #[22, 22] })
    (base : Nat) (v : Value) (n : Nat) (xs : List Value) (hs : a.eval s = v) (hown : w.ownsRow base 5 1 v n xs)
    (B : Nat) (A : Option Addr) (c : Nat) (bs : List UInt8) (hx : a.eval x = .slice A bs.length c) (hA : A = none → c = 0) (hr : Rd w B A bs)
    (hlen : n + bs.length ≤ 2199023255552) (hbase : base ≤ w.heap.size)
    (h : ∀ v' w', w'.ownsRow base 5 1 v' (n + bs.length) (xs ++ row bs) → w.grownBy w' v.ownBlock → K (a.put o.dst v') w') : o.wp Try.prog a w K Q := by
  obtain ⟨i0, hi, hz0, hz1, hz2⟩ := info_parts info_u8
  rcases A with _ | ad
  · have h0 : bs = [] := by
      rcases Nat.eq_zero_or_pos bs.length with e | e
      · exact List.eq_nil_of_length_eq_zero e
      · obtain ⟨_, _, e', _⟩ := hr e; cases e'
    subst h0
    obtain rfl := hA rfl
    have hrun := run_append_owned_none (P := Try.prog) (w := w) base 22 o.type 5 i0 1 Try.underlying22 hi v n xs hown
    unfold Oper.wp
    simp [execOp, ho, resolve, invoke, builtin, hs, hx, hrun, Result.andThen]
    exact h v w (by simpa [row] using hown) (World.grownBy.refl w _)
  · exact wp_append_own w s x 22 ho base 5 i0 (.int .u8 0) 1 1 Try.underlying22 hi hz0 hz1 hz2 rfl (by decide) v n xs hs hown ad bs.length c (row bs) hx
      (by rw [row_length, Nat.mul_one]) hr.src (row_one bs) (by unfold maxLen; omega) (by omega) hbase (fun v' w' h1 h2 _ => h v' w' h1 h2)
section
variable (q : P4) (A : Option Addr) (c : Nat) (A' : Option Addr) (c' : Nat) (w : World)
end
end Go.Proofs.Ytodlfdnegcfhcaa

/-
  Contract of the document's plain answers of layer 5: fields. Conditions are each theorem's own.
-/
namespace Go.Proofs.Ytodlfdnegcfhcaa
open Go.RowKit

theorem get_two {b : List UInt8} {i : Nat} (h : i + 2 ≤ b.length) : getV b (i : Int) 2 = n2 b i := by
  have e := getV_ok (bs := b) (a := i) (s := 2) (by omega) (by omega) h
  rw [show (2 : Int) = ((2 : Nat) : Int) from rfl, e, num_two _ (by simp; omega), byt_cut _ _ _ (by omega), byt_cut _ _ _ (by omega)]; rfl
theorem byt_drop (b : List UInt8) (a k : Nat) : byt (b.drop a) k = byt b (a + k) := by simp [byt]
theorem get_four {b : List UInt8} {i : Nat} (h : i + 4 ≤ b.length) : getV b (i : Int) 4 = n4 b i := by
  have e := getV_ok (bs := b) (a := i) (s := 4) (by omega) (by omega) h
  have hl : (b.drop i).length = b.length - i := by simp
  rw [show (4 : Int) = ((4 : Nat) : Int) from rfl, e, num_take _ (k := 3) (by omega), num_take _ (k := 2) (by omega), num_take _ (k := 1) (by omega), num_take _ (k := 0) (by omega), List.take_zero]
  simp only [byt_drop, n4, num, List.foldl_nil, Nat.add_zero]; omega
theorem n2_bd (b : List UInt8) (i : Nat) : 0 ≤ n2 b i ∧ n2 b i ≤ 65535 := by
  have h1 := byt_lo b i; have h2 := byt_hi b i; have h3 := byt_lo b (i + 1); have h4 := byt_hi b (i + 1)
  unfold n2; omega
theorem run_load_byte {o : Oper} {a : Act} {w : World} {x : Operand} {p : Addr} {n : Int} (ho : o.op = .load 5 x) (hx : a.eval x = .pointer (some p)) (hc : w.cell? p = some (.int .u8 n)) :
    (execOp a.eval o).run Try.prog w = .ok (.value (.int .u8 n)) w := by
  unfold execOp
  simp only [ho, hx, Instr.loadAt, Instr.sureAddr, Sem.run_bind, Sem.run_pure, Result.andThen_ok]
  go_simp
theorem heap_new {X : World} {g : Nat} {o : Obj} (h : g = X.heap.size) : (X.alloc o).heap[g]? = some o := by subst h; exact World.alloc_heap_new X o
theorem set_newN (w : World) (cur cur' : Array Value) (t j m : Nat) (x : Value) (hc : cur.setIfInBounds j x = cur') :
    ((w.alloc (.cells cur t (0, 0))).drewN m).setCell ⟨w.heap.size, j, none⟩ x = (w.alloc (.cells cur' t (0, 0))).drewN m := by
  subst hc
  show ((w.alloc (.cells cur t (0, 0))).setCell ⟨w.heap.size, j, none⟩ x).drewN m = _
  rw [World.setCell_alloc_at _ _ _ _ _ rfl]
theorem heap_newN (w : World) (o : Obj) (m : Nat) : ((w.alloc o).drewN m).heap[w.heap.size]? = some o := World.alloc_heap_new w o
theorem own_setCell {w : World} {base e sz n : Nat} {v : Value} {xs : List Value} (h : w.ownsRow base e sz v n xs) {p : Addr} {u : Value} (hp : p.block < base) : (w.setCell p u).ownsRow base e sz v n xs := by
  obtain ⟨h1, h2⟩ := h
  refine ⟨h1, ?_⟩
  rcases h2 with h2 | ⟨g, cap, cur, hv, hg, hh, r⟩
  · exact .inl h2
  · exact .inr ⟨g, cap, cur, hv, hg, (heap_setCell_other w p g u (by omega)).trans hh, r⟩
theorem own_setRow {w : World} {base e sz n : Nat} {v : Value} {xs : List Value} (h : w.ownsRow base e sz v n xs) {g : Nat} {cs : Array Value} (hp : g < base) : (w.setRow g cs).ownsRow base e sz v n xs := by
  obtain ⟨h1, h2⟩ := h
  refine ⟨h1, ?_⟩
  rcases h2 with h2 | ⟨k, cap, cur, hv, hg, hh, r⟩
  · exact .inl h2
  · exact .inr ⟨k, cap, cur, hv, hg, (setRow_other w g k cs (by omega)).trans hh, r⟩
theorem below_row {B : Nat} {a w : World} (h : Below B a w) {g : Nat} {cs : Array Value} (hg : B ≤ g) : Below B a (w.setRow g cs) :=
  ⟨h.os, h.tape, h.output, by rw [size_setRow]; exact h.size, fun k hk => (setRow_other w g k cs (by omega)).trans (h.block k hk)⟩
theorem v4_result {fn : Func} {p : Tmp} {tmps : Array Value} {w : World} {g : Nat} {t : TypeId} {cs : Array Value} {fr : Nat × Nat} (h : fn.results = #[.cell p 25])
    (hp : tmps.getD p undef = .pointer (some ⟨g, 0, none⟩)) (hg : w.heap[g]? = some (.cells cs t fr)) (hl : cs.size = 11) : (results fn tmps).run Try.prog w = .ok (.agg cs) w :=
  results_cell_row h tmps w g t cs fr _ hp hg Try.underlying25 rfl (by rw [hl]; kernel_rfl)
theorem setRow_drew (X : World) (g : Nat) (c' : Array Value) : X.drew.setRow g c' = (X.setRow g c').drew := by unfold World.setRow; rfl
theorem setRow_new {X : World} {g : Nat} {c c' : Array Value} {t : TypeId} (h : g = X.heap.size) : (X.alloc (.cells c t)).setRow g c' = X.alloc (.cells c' t) := by subst h; exact World.setRow_alloc_new X c c' t
section
variable (b dat : List UInt8) (A : Option Addr) (c : Nat) (A' : Option Addr) (c' : Nat) (w : World)
set_option maxRecDepth 100000 in
set_option maxHeartbeats 4000000 in
theorem r5fields (B : Nat) (hR0 : Arg w B A c b) (hD : Arg w B A' c' dat) (hB : B ≤ w.heap.size) (hl : 20 ≤ b.length) (hl2 : b.length ≤ 1000000) (hn : 20 ≤ hlen b ∧ hlen b ≤ (b.length : Int)) (hd : dat.length ≤ 1000000) :
    Calls Try.prog 23 #[.slice A b.length c, .slice A' dat.length c'] w fun e w' => ∃ P p P' p', e = .returned (v4v (fl4 b dat) P p P' p') ∧ Arg w' w'.heap.size P p (fl4 b dat).opt ∧ Arg w' w'.heap.size P' p' dat ∧ Below w.heap.size w w' := by
  obtain ⟨b0, off, rfl, hbB, hcell⟩ := hR0.rd (by omega)
  have hbw : b0 < w.heap.size := by omega
  go_enter Try.func23, Try.ntmps23
  go_upto_region 1 with fail
  have hBl : Below w.heap.size w (w.alloc (.cells #[.int .i64 0, .int .i64 0, .int .i64 0, .int .i64 0, .int .i64 0, .int .i64 0, .int .i64 0, .bool false, .bool false, .slice none 0 0, .slice none 0 0] 25)) := (Below.refl w.heap.size w).alloc (Nat.le_refl _) _
  have hgr := World.alloc_heap_new w (.cells #[.int .i64 0, .int .i64 0, .int .i64 0, .int .i64 0, .int .i64 0, .int .i64 0, .int .i64 0, .bool false, .bool false, .slice none 0 0, .slice none 0 0] 25)
  have hz : (w.alloc (.cells #[.int .i64 0, .int .i64 0, .int .i64 0, .int .i64 0, .int .i64 0, .int .i64 0, .int .i64 0, .bool false, .bool false, .slice none 0 0, .slice none 0 0] 25)).heap.size = w.heap.size + 1 := by simp
  have hR := (hR0.below (hBl.mono hB)).rd
  generalize w.alloc (.cells #[.int .i64 0, .int .i64 0, .int .i64 0, .int .i64 0, .int .i64 0, .int .i64 0, .int .i64 0, .bool false, .bool false, .slice none 0 0, .slice none 0 0] 25) = W at *
  have kc : ∀ j, j < b.length → W.cell? ⟨b0, off + j, none⟩ = some (.int .u8 (byt b j)) := fun j hj => by rw [hBl.cell (show b0 < w.heap.size by omega)]; exact hcell j hj
  have k0 : W.cell? ⟨b0, off, none⟩ = some (.int .u8 (byt b 0)) := kc 0 (by omega)
  have q0 := byt_lo b 0; have q0' := byt_hi b 0
  have tm : Int.tmod (byt b 0) 16 = byt b 0 % 16 := Int.tmod_eq_emod_of_nonneg q0
  have HH := Lib.hid (show hlen b = byt b 0 % 16 * 4 from rfl)
  have HN := Lib.hid hn
  clear hn
  go_upto_region 2 with fail
  rw [← HH.out]
  have hn := HN.out
  clear k0 q0 q0' tm
  have G6 := Lib.hid (get_two (b := b) (i := 6) (by omega))
  obtain ⟨F, hF⟩ : ∃ n, n = n2 b 6 := ⟨_, rfl⟩
  have HF := Lib.hid hF
  have hFb := n2_bd b 6
  rw [← hF] at hFb
  clear hF
  go_upto_region 3 with (go_at_call 21; refine (r5num _ b _ _ 6 2 _ hR (by omega)).mono ?_; rintro e w' ⟨rfl, rfl⟩; rw [show getV b 6 2 = F from by rw [HF.out]; exact G6.out])
  have G4 := Lib.hid (get_two (b := b) (i := 4) (by omega))
  have G12 := Lib.hid (get_four (b := b) (i := 12) (by omega))
  have G16 := Lib.hid (get_four (b := b) (i := 16) (by omega))
  clear G6
  have E1 := Lib.hid (IntWalk.i64_in (byt b 1) (by have := byt_lo b 1; have := byt_hi b 1; omega))
  have E8 := Lib.hid (IntWalk.i64_in (byt b 8) (by have := byt_lo b 8; have := byt_hi b 8; omega))
  have E9 := Lib.hid (IntWalk.i64_in (byt b 9) (by have := byt_lo b 9; have := byt_hi b 9; omega))
  have EF := Lib.hid (show IntKind.i64.wrap (Int.tmod F 8192 * 8) = F % 8192 * 8 by rw [Int.tmod_eq_emod_of_nonneg hFb.1]; exact IntWalk.i64_in _ (by omega))
  go_cut [7] from 8 (fun s w' => s = .pointer (some ⟨W.heap.size, 0, none⟩) ∧ ∃ m, w' = (W.alloc (.cells #[.int .i64 (byt b 1), .int .i64 (n2 b 4), .int .i64 (F % 8192 * 8), .int .i64 (byt b 8), .int .i64 (byt b 9), .int .i64 (n4 b 12), .int .i64 (n4 b 16), .bool false, .bool false, .slice none 0 0, .slice none 0 0] 25)).drewN m)
  case first =>
    refine wp_region_held_drew (S := fun w' => Below W.heap.size W w') (by kernel_rfl) (Below.refl _ W).drew (fun hS => ?_)
    refine held_pure (i := 0) (oi := ⟨some 16, _, _, _, _, _⟩) rfl (by kernel_rfl) (by kernel_rfl) (by kernel_rfl) (fun _ _ _ h => h) (by rfl) (v := ?_) (fun w hSw => ?_) hS (fun hS => ?_)
    rotate_left
    · go_simp; try with_reducible rfl
    try go_frame
    refine held_pure (i := 1) (oi := ⟨some 17, _, _, _, _, _⟩) rfl (by kernel_rfl) (by kernel_rfl) (by kernel_rfl) (fun _ _ _ h => h) (by rfl) (v := Value.pointer (some ⟨b0, off + 1, none⟩)) (fun w hSw => by go_simp; exact fun hx => absurd hx (by omega)) hS (fun hS => ?_)
    try go_frame
    refine held_pure (i := 2) (oi := ⟨some 18, _, _, _, _, _⟩) rfl (by kernel_rfl) (by kernel_rfl) (by kernel_rfl) (fun _ _ _ h => h) (by rfl) (fun w hSw => run_load_byte rfl rfl ((hSw.cell (show b0 < W.heap.size by omega)).trans (kc 1 (by omega)))) hS (fun hS => ?_)
    try go_frame
    refine held_pure (i := 3) (oi := ⟨some 19, _, _, _, _, _⟩) rfl (by kernel_rfl) (by kernel_rfl) (by kernel_rfl) (fun _ _ _ h => h) (by rfl) (v := ?_) (fun w hSw => ?_) hS (fun hS => ?_)
    rotate_left
    · go_simp; try with_reducible rfl
    try go_frame
    refine held_pure (i := 4) (oi := ⟨some 20, _, _, _, _, _⟩) rfl (by kernel_rfl) (by kernel_rfl) (by kernel_rfl) (fun _ _ _ h => h) (by rfl) (v := ?_) (fun w hSw => ?_) hS (fun hS => ?_)
    rotate_left
    · go_simp; try with_reducible rfl
    try go_frame
    refine held_pure (i := 6) (oi := ⟨some 22, _, _, _, _, _⟩) rfl (by kernel_rfl) (by kernel_rfl) (by kernel_rfl) (fun _ _ _ h => h) (by rfl) (v := ?_) (fun w hSw => ?_) hS (fun hS => ?_)
    rotate_left
    · go_simp; try with_reducible rfl
    try go_frame
    refine held_pure (i := 7) (oi := ⟨some 23, _, _, _, _, _⟩) rfl (by kernel_rfl) (by kernel_rfl) (by kernel_rfl) (fun _ _ _ h => h) (by rfl) (v := ?_) (fun w hSw => ?_) hS (fun hS => ?_)
    rotate_left
    · go_simp; try with_reducible rfl
    try go_frame
    refine held_pure (i := 8) (oi := ⟨some 24, _, _, _, _, _⟩) rfl (by kernel_rfl) (by kernel_rfl) (by kernel_rfl) (fun _ _ _ h => h) (by rfl) (v := ?_) (fun w hSw => ?_) hS (fun hS => ?_)
    rotate_left
    · go_simp; try with_reducible rfl
    try go_frame
    refine held_pure (i := 9) (oi := ⟨some 25, _, _, _, _, _⟩) rfl (by kernel_rfl) (by kernel_rfl) (by kernel_rfl) (fun _ _ _ h => h) (by rfl) (v := ?_) (fun w hSw => ?_) hS (fun hS => ?_)
    rotate_left
    · go_simp; try with_reducible rfl
    try go_frame
    refine held_pure (i := 10) (oi := ⟨some 26, _, _, _, _, _⟩) rfl (by kernel_rfl) (by kernel_rfl) (by kernel_rfl) (fun _ _ _ h => h) (by rfl) (v := Value.pointer (some ⟨b0, off + 8, none⟩)) (fun w hSw => by go_simp; exact fun hx => absurd hx (by omega)) hS (fun hS => ?_)
    try go_frame
    refine held_pure (i := 11) (oi := ⟨some 27, _, _, _, _, _⟩) rfl (by kernel_rfl) (by kernel_rfl) (by kernel_rfl) (fun _ _ _ h => h) (by rfl) (fun w hSw => run_load_byte rfl rfl ((hSw.cell (show b0 < W.heap.size by omega)).trans (kc 8 (by omega)))) hS (fun hS => ?_)
    try go_frame
    refine held_pure (i := 12) (oi := ⟨some 28, _, _, _, _, _⟩) rfl (by kernel_rfl) (by kernel_rfl) (by kernel_rfl) (fun _ _ _ h => h) (by rfl) (v := ?_) (fun w hSw => ?_) hS (fun hS => ?_)
    rotate_left
    · go_simp; try with_reducible rfl
    try go_frame
    refine held_pure (i := 13) (oi := ⟨some 29, _, _, _, _, _⟩) rfl (by kernel_rfl) (by kernel_rfl) (by kernel_rfl) (fun _ _ _ h => h) (by rfl) (v := ?_) (fun w hSw => ?_) hS (fun hS => ?_)
    rotate_left
    · go_simp; try with_reducible rfl
    try go_frame
    refine held_pure (i := 14) (oi := ⟨some 30, _, _, _, _, _⟩) rfl (by kernel_rfl) (by kernel_rfl) (by kernel_rfl) (fun _ _ _ h => h) (by rfl) (v := Value.pointer (some ⟨b0, off + 9, none⟩)) (fun w hSw => by go_simp; exact fun hx => absurd hx (by omega)) hS (fun hS => ?_)
    try go_frame
    refine held_pure (i := 15) (oi := ⟨some 31, _, _, _, _, _⟩) rfl (by kernel_rfl) (by kernel_rfl) (by kernel_rfl) (fun _ _ _ h => h) (by rfl) (fun w hSw => run_load_byte rfl rfl ((hSw.cell (show b0 < W.heap.size by omega)).trans (kc 9 (by omega)))) hS (fun hS => ?_)
    try go_frame
    refine held_pure (i := 16) (oi := ⟨some 32, _, _, _, _, _⟩) rfl (by kernel_rfl) (by kernel_rfl) (by kernel_rfl) (fun _ _ _ h => h) (by rfl) (v := ?_) (fun w hSw => ?_) hS (fun hS => ?_)
    rotate_left
    · go_simp; try with_reducible rfl
    try go_frame
    refine held_pure (i := 17) (oi := ⟨some 33, _, _, _, _, _⟩) rfl (by kernel_rfl) (by kernel_rfl) (by kernel_rfl) (fun _ _ _ h => h) (by rfl) (v := ?_) (fun w hSw => ?_) hS (fun hS => ?_)
    rotate_left
    · go_simp; try with_reducible rfl
    try go_frame
    refine held_pure (i := 19) (oi := ⟨some 35, _, _, _, _, _⟩) rfl (by kernel_rfl) (by kernel_rfl) (by kernel_rfl) (fun _ _ _ h => h) (by rfl) (v := ?_) (fun w hSw => ?_) hS (fun hS => ?_)
    rotate_left
    · go_simp; try with_reducible rfl
    try go_frame
    refine wpAnyH_ready (rs := [5, 22]) (by kernel_rfl) (by simp) (AllReadyH.cons (o := ⟨some 21, _, _, _, _, _⟩) rfl (fun K hK => ?_) (AllReadyH.cons (o := ⟨some 7, _, _, _, _, _⟩) rfl (fun K hK => ?_) AllReadyH.nil))
    · rw [if_pos (by rfl)]
      go_simp
      refine (r5num _ b _ _ 4 2 _ (hR.below (hS.mono (by omega))) (by omega)).mono ?_
      rintro e w5 ⟨rfl, rfl⟩
      rw [show getV b 4 2 = n2 b 4 from G4.out]
      show K _ _
      refine hK.out _ _ hS (fun hS => ?_)
      clear hK K
      try go_frame
      refine wpAnyH_ready (rs := [18, 22]) (by kernel_rfl) (by simp) (AllReadyH.cons (o := ⟨some 34, _, _, _, _, _⟩) rfl (fun K hK => ?_) (AllReadyH.cons (o := ⟨some 7, _, _, _, _, _⟩) rfl (fun K hK => ?_) AllReadyH.nil))
      · rw [if_pos (by rfl)]
        go_simp
        refine (r5num _ b _ _ 12 4 _ (hR.below (hS.mono (by omega))) (by omega)).mono ?_
        rintro e w18 ⟨rfl, rfl⟩
        rw [show getV b 12 4 = n4 b 12 from G12.out]
        show K _ _
        refine hK.out _ _ hS (fun hS => ?_)
        clear hK K
        try go_frame
        refine wpAnyH_ready (rs := [20, 22]) (by kernel_rfl) (by simp) (AllReadyH.cons (o := ⟨some 36, _, _, _, _, _⟩) rfl (fun K hK => ?_) (AllReadyH.cons (o := ⟨some 7, _, _, _, _, _⟩) rfl (fun K hK => ?_) AllReadyH.nil))
        · rw [if_pos (by rfl)]
          go_simp
          refine (r5num _ b _ _ 16 4 _ (hR.below (hS.mono (by omega))) (by omega)).mono ?_
          rintro e w20 ⟨rfl, rfl⟩
          rw [show getV b 16 4 = n4 b 16 from G16.out]
          show K _ _
          refine hK.out _ _ hS (fun hS => ?_)
          clear hK K
          try go_frame
          refine held_pure (i := 21) (oi := ⟨some 37, _, _, _, _, _⟩) rfl (by kernel_rfl) (by kernel_rfl) (by kernel_rfl) (fun _ _ _ h => h) (by rfl) (v := ?_) (fun w hSw => ?_) hS (fun hS => ?_)
          rotate_left
          · go_simp; try with_reducible rfl
          try go_frame
          refine wpAnyH_ready (rs := [22]) (by kernel_rfl) (by simp) (AllReadyH.cons (o := ⟨some 7, _, _, _, _, _⟩) rfl (fun K hK => ?_) AllReadyH.nil)
          rw [if_pos (by rfl)]
          go_simp
          refine hK.out _ _ (hS.alloc hS.size _) (fun hS => ?_)
          clear hK K
          try go_frame
          refine wpAnyH_ready (rs := [23]) (by kernel_rfl) (by simp) (AllReadyH.cons (o := ⟨none, _, _, _, _, _⟩) rfl (fun K hK => ?_) AllReadyH.nil)
          rw [if_pos (by rfl)]
          refine wp_store_row 25 _ _ rfl (w.heap.size + 1) _ rfl rfl 25 _ (heap_new (by simp [hz])) (by kernel_rfl) rfl (by simp [Value.oneCell']) ?_
          repeat rw [setRow_drew]
          rw [setRow_new (by simp [hz])]
          refine hK.out _ _ (by first | exact (Below.refl W.heap.size W).drew.alloc (Nat.le_refl _) _ | exact ((Below.refl W.heap.size W).drew.alloc (Nat.le_refl _) _).drew | exact ((Below.refl W.heap.size W).alloc (Nat.le_refl _) _).drew | exact (((Below.refl W.heap.size W).alloc (Nat.le_refl _) _).drew).drew) (fun hS => ?_)
          clear hK K
          try go_frame
          refine wpAnyH_done (by kernel_rfl) ?_ _
          go_wp2_with fail
          go_meet
          refine ⟨by rw [hz], ?_⟩
          rw [E1.out, E8.out, E9.out, EF.out]
          first | exact ⟨1, rfl⟩ | exact ⟨2, rfl⟩ | exact ⟨3, rfl⟩ | exact ⟨4, rfl⟩
        · rw [if_pos (by rfl)]
          go_simp
          refine hK.out _ _ (hS.alloc hS.size _) (fun hS => ?_)
          clear hK K
          try go_frame
          refine wpAnyH_ready (rs := [20]) (by kernel_rfl) (by simp) (AllReadyH.cons (o := ⟨some 36, _, _, _, _, _⟩) rfl (fun K hK => ?_) AllReadyH.nil)
          rw [if_pos (by rfl)]
          go_simp
          refine (r5num _ b _ _ 16 4 _ (hR.below (hS.mono (by omega))) (by omega)).mono ?_
          rintro e w20 ⟨rfl, rfl⟩
          rw [show getV b 16 4 = n4 b 16 from G16.out]
          show K _ _
          refine hK.out _ _ hS (fun hS => ?_)
          clear hK K
          try go_frame
          refine held_pure (i := 21) (oi := ⟨some 37, _, _, _, _, _⟩) rfl (by kernel_rfl) (by kernel_rfl) (by kernel_rfl) (fun _ _ _ h => h) (by rfl) (v := ?_) (fun w hSw => ?_) hS (fun hS => ?_)
          rotate_left
          · go_simp; try with_reducible rfl
          try go_frame
          refine wpAnyH_ready (rs := [23]) (by kernel_rfl) (by simp) (AllReadyH.cons (o := ⟨none, _, _, _, _, _⟩) rfl (fun K hK => ?_) AllReadyH.nil)
          rw [if_pos (by rfl)]
          refine wp_store_row 25 _ _ rfl (w.heap.size + 1) _ rfl rfl 25 _ (heap_new (by simp [hz])) (by kernel_rfl) rfl (by simp [Value.oneCell']) ?_
          repeat rw [setRow_drew]
          rw [setRow_new (by simp [hz])]
          refine hK.out _ _ (by first | exact (Below.refl W.heap.size W).drew.alloc (Nat.le_refl _) _ | exact ((Below.refl W.heap.size W).drew.alloc (Nat.le_refl _) _).drew | exact ((Below.refl W.heap.size W).alloc (Nat.le_refl _) _).drew | exact (((Below.refl W.heap.size W).alloc (Nat.le_refl _) _).drew).drew) (fun hS => ?_)
          clear hK K
          try go_frame
          refine wpAnyH_done (by kernel_rfl) ?_ _
          go_wp2_with fail
          go_meet
          refine ⟨by rw [hz], ?_⟩
          rw [E1.out, E8.out, E9.out, EF.out]
          first | exact ⟨1, rfl⟩ | exact ⟨2, rfl⟩ | exact ⟨3, rfl⟩ | exact ⟨4, rfl⟩
      · rw [if_pos (by rfl)]
        go_simp
        refine hK.out _ _ (hS.alloc hS.size _) (fun hS => ?_)
        clear hK K
        try go_frame
        refine wpAnyH_ready (rs := [18]) (by kernel_rfl) (by simp) (AllReadyH.cons (o := ⟨some 34, _, _, _, _, _⟩) rfl (fun K hK => ?_) AllReadyH.nil)
        rw [if_pos (by rfl)]
        go_simp
        refine (r5num _ b _ _ 12 4 _ (hR.below (hS.mono (by omega))) (by omega)).mono ?_
        rintro e w18 ⟨rfl, rfl⟩
        rw [show getV b 12 4 = n4 b 12 from G12.out]
        show K _ _
        refine hK.out _ _ hS (fun hS => ?_)
        clear hK K
        try go_frame
        refine wpAnyH_ready (rs := [20]) (by kernel_rfl) (by simp) (AllReadyH.cons (o := ⟨some 36, _, _, _, _, _⟩) rfl (fun K hK => ?_) AllReadyH.nil)
        rw [if_pos (by rfl)]
        go_simp
        refine (r5num _ b _ _ 16 4 _ (hR.below (hS.mono (by omega))) (by omega)).mono ?_
        rintro e w20 ⟨rfl, rfl⟩
        rw [show getV b 16 4 = n4 b 16 from G16.out]
        show K _ _
        refine hK.out _ _ hS (fun hS => ?_)
        clear hK K
        try go_frame
        refine held_pure (i := 21) (oi := ⟨some 37, _, _, _, _, _⟩) rfl (by kernel_rfl) (by kernel_rfl) (by kernel_rfl) (fun _ _ _ h => h) (by rfl) (v := ?_) (fun w hSw => ?_) hS (fun hS => ?_)
        rotate_left
        · go_simp; try with_reducible rfl
        try go_frame
        refine wpAnyH_ready (rs := [23]) (by kernel_rfl) (by simp) (AllReadyH.cons (o := ⟨none, _, _, _, _, _⟩) rfl (fun K hK => ?_) AllReadyH.nil)
        rw [if_pos (by rfl)]
        refine wp_store_row 25 _ _ rfl (w.heap.size + 1) _ rfl rfl 25 _ (heap_new (by simp [hz])) (by kernel_rfl) rfl (by simp [Value.oneCell']) ?_
        repeat rw [setRow_drew]
        rw [setRow_new (by simp [hz])]
        refine hK.out _ _ (by first | exact (Below.refl W.heap.size W).drew.alloc (Nat.le_refl _) _ | exact ((Below.refl W.heap.size W).drew.alloc (Nat.le_refl _) _).drew | exact ((Below.refl W.heap.size W).alloc (Nat.le_refl _) _).drew | exact (((Below.refl W.heap.size W).alloc (Nat.le_refl _) _).drew).drew) (fun hS => ?_)
        clear hK K
        try go_frame
        refine wpAnyH_done (by kernel_rfl) ?_ _
        go_wp2_with fail
        go_meet
        refine ⟨by rw [hz], ?_⟩
        rw [E1.out, E8.out, E9.out, EF.out]
        first | exact ⟨1, rfl⟩ | exact ⟨2, rfl⟩ | exact ⟨3, rfl⟩ | exact ⟨4, rfl⟩
    · rw [if_pos (by rfl)]
      go_simp
      refine hK.out _ _ (hS.alloc hS.size _) (fun hS => ?_)
      clear hK K
      try go_frame
      refine wpAnyH_ready (rs := [5]) (by kernel_rfl) (by simp) (AllReadyH.cons (o := ⟨some 21, _, _, _, _, _⟩) rfl (fun K hK => ?_) AllReadyH.nil)
      rw [if_pos (by rfl)]
      go_simp
      refine (r5num _ b _ _ 4 2 _ (hR.below (hS.mono (by omega))) (by omega)).mono ?_
      rintro e w5 ⟨rfl, rfl⟩
      rw [show getV b 4 2 = n2 b 4 from G4.out]
      show K _ _
      refine hK.out _ _ hS (fun hS => ?_)
      clear hK K
      try go_frame
      refine wpAnyH_ready (rs := [18]) (by kernel_rfl) (by simp) (AllReadyH.cons (o := ⟨some 34, _, _, _, _, _⟩) rfl (fun K hK => ?_) AllReadyH.nil)
      rw [if_pos (by rfl)]
      go_simp
      refine (r5num _ b _ _ 12 4 _ (hR.below (hS.mono (by omega))) (by omega)).mono ?_
      rintro e w18 ⟨rfl, rfl⟩
      rw [show getV b 12 4 = n4 b 12 from G12.out]
      show K _ _
      refine hK.out _ _ hS (fun hS => ?_)
      clear hK K
      try go_frame
      refine wpAnyH_ready (rs := [20]) (by kernel_rfl) (by simp) (AllReadyH.cons (o := ⟨some 36, _, _, _, _, _⟩) rfl (fun K hK => ?_) AllReadyH.nil)
      rw [if_pos (by rfl)]
      go_simp
      refine (r5num _ b _ _ 16 4 _ (hR.below (hS.mono (by omega))) (by omega)).mono ?_
      rintro e w20 ⟨rfl, rfl⟩
      rw [show getV b 16 4 = n4 b 16 from G16.out]
      show K _ _
      refine hK.out _ _ hS (fun hS => ?_)
      clear hK K
      try go_frame
      refine held_pure (i := 21) (oi := ⟨some 37, _, _, _, _, _⟩) rfl (by kernel_rfl) (by kernel_rfl) (by kernel_rfl) (fun _ _ _ h => h) (by rfl) (v := ?_) (fun w hSw => ?_) hS (fun hS => ?_)
      rotate_left
      · go_simp; try with_reducible rfl
      try go_frame
      refine wpAnyH_ready (rs := [23]) (by kernel_rfl) (by simp) (AllReadyH.cons (o := ⟨none, _, _, _, _, _⟩) rfl (fun K hK => ?_) AllReadyH.nil)
      rw [if_pos (by rfl)]
      refine wp_store_row 25 _ _ rfl (w.heap.size + 1) _ rfl rfl 25 _ (heap_new (by simp [hz])) (by kernel_rfl) rfl (by simp [Value.oneCell']) ?_
      repeat rw [setRow_drew]
      rw [setRow_new (by simp [hz])]
      refine hK.out _ _ (by first | exact (Below.refl W.heap.size W).drew.alloc (Nat.le_refl _) _ | exact ((Below.refl W.heap.size W).drew.alloc (Nat.le_refl _) _).drew | exact ((Below.refl W.heap.size W).alloc (Nat.le_refl _) _).drew | exact (((Below.refl W.heap.size W).alloc (Nat.le_refl _) _).drew).drew) (fun hS => ?_)
      clear hK K
      try go_frame
      refine wpAnyH_done (by kernel_rfl) ?_ _
      go_wp2_with fail
      go_meet
      refine ⟨by rw [hz], ?_⟩
      rw [E1.out, E8.out, E9.out, EF.out]
      first | exact ⟨1, rfl⟩ | exact ⟨2, rfl⟩ | exact ⟨3, rfl⟩ | exact ⟨4, rfl⟩
  case rest =>
    obtain ⟨hs7, m3, hwc⟩ := hcut
    subst hs7
    subst hwc
    obtain ⟨D, hD⟩ : ∃ d, d = (F / 16384 % 2 == 1) := ⟨_, rfl⟩
    obtain ⟨M, hM⟩ : ∃ d, d = (F / 8192 % 2 == 1) := ⟨_, rfl⟩
    have d1 : Int.tdiv F 16384 = F / 16384 := Int.tdiv_eq_ediv_of_nonneg hFb.1
    have d2 : Int.tdiv F 8192 = F / 8192 := Int.tdiv_eq_ediv_of_nonneg hFb.1
    have d3 : Int.tmod (F / 16384) 2 = F / 16384 % 2 := Int.tmod_eq_emod_of_nonneg (by omega)
    have d4 : Int.tmod (F / 8192) 2 = F / 8192 % 2 := Int.tmod_eq_emod_of_nonneg (by omega)
    have d5 : (F / 16384 % 2 == 1) = D := hD.symm
    have d6 : (F / 8192 % 2 == 1) = M := hM.symm
    have HD := Lib.hid hD; have HM := Lib.hid hM
    clear hD hM
    go_upto_region 5 with fail
    rw [← hz]
    rw [set_newN W _ (#[.int .i64 (byt b 1), .int .i64 (n2 b 4), .int .i64 (F % 8192 * 8), .int .i64 (byt b 8), .int .i64 (byt b 9), .int .i64 (n4 b 12), .int .i64 (n4 b 16), .bool D, .bool false, .slice none 0 0, .slice none 0 0]) _ 7 m3 _ rfl, set_newN W _ (#[.int .i64 (byt b 1), .int .i64 (n2 b 4), .int .i64 (F % 8192 * 8), .int .i64 (byt b 8), .int .i64 (byt b 9), .int .i64 (n4 b 12), .int .i64 (n4 b 16), .bool D, .bool M, .slice none 0 0, .slice none 0 0]) _ 8 m3 _ rfl]
    have hX := heap_newN W (.cells (#[.int .i64 (byt b 1), .int .i64 (n2 b 4), .int .i64 (F % 8192 * 8), .int .i64 (byt b 8), .int .i64 (byt b 9), .int .i64 (n4 b 12), .int .i64 (n4 b 16), .bool D, .bool M, .slice none 0 0, .slice none 0 0]) 25) m3
    have hBX : Below W.heap.size W ((W.alloc (.cells (#[.int .i64 (byt b 1), .int .i64 (n2 b 4), .int .i64 (F % 8192 * 8), .int .i64 (byt b 8), .int .i64 (byt b 9), .int .i64 (n4 b 12), .int .i64 (n4 b 16), .bool D, .bool M, .slice none 0 0, .slice none 0 0]) 25)).drewN m3) := below_drewN ((Below.refl W.heap.size W).alloc (Nat.le_refl _) _) m3
    have HzX := Lib.hid (show ((W.alloc (.cells (#[.int .i64 (byt b 1), .int .i64 (n2 b 4), .int .i64 (F % 8192 * 8), .int .i64 (byt b 8), .int .i64 (byt b 9), .int .i64 (n4 b 12), .int .i64 (n4 b 16), .bool D, .bool M, .slice none 0 0, .slice none 0 0]) 25)).drewN m3).heap.size = W.heap.size + 1 by show (W.alloc _).heap.size = _; simp)
    generalize (W.alloc (.cells (#[.int .i64 (byt b 1), .int .i64 (n2 b 4), .int .i64 (F % 8192 * 8), .int .i64 (byt b 8), .int .i64 (byt b 9), .int .i64 (n4 b 12), .int .i64 (n4 b 16), .bool D, .bool M, .slice none 0 0, .slice none 0 0]) 25)).drewN m3 = X at *
    have HZ := Lib.hid hz
    clear hz d1 d2 d3 d4 d5 d6 E1 E8 E9 EF G4 G12 G16
    have hcp := hR0.cap
    obtain ⟨O, hO⟩ : ∃ l, l = (b.take (hlen b).toNat).drop 20 := ⟨_, rfl⟩
    have HOl := Lib.hid (show O.length = (hlen b).toNat - 20 by rw [hO]; simp; omega)
    have HO := Lib.hid hO
    have hrb : Rd X B (some ⟨b0, off + 20, none⟩) O := by
      intro h0
      have hl := HOl.out
      refine ⟨b0, off + 20, rfl, hbB, fun j hj => ?_⟩
      rw [(hBl.trans (hBX.mono (by have := HZ.out; omega))).cell (show b0 < w.heap.size by omega), hO, Nat.add_assoc, hcell _ (by omega)]
      simp [byt, show 20 + j < (hlen b).toNat by omega]
    have hra : c = 20 → Rd X B (some ⟨b0, off, none⟩) O := fun e h0 => by have hl := HOl.out; omega
    clear hO
    by_cases hc20 : c = 20
    · have hR2 := hra hc20
      subst hc20
      go_upto_region 6 with (first
        | (at_builtin; (refine append_rd rfl _ _ rfl X.heap.size (.slice none 0 0) 0 [] rfl (World.ownsRow_nil _ _ _ _) B (some ⟨b0, off, none⟩) _ O (by rw [HOl.out]; rfl) (fun e => by cases e) hR2 (by have := HOl.out; omega) (Nat.le_refl _) ?_; intro v5 w5 own5 grow5; obtain ⟨A5, c5, rfl, owm5⟩ := own_made (bs := O) own5 (by simp) (by simp); have x5 : Below X.heap.size X w5 := (Below.refl X.heap.size X).grown grow5 (Nat.le_refl _) (fun k hk => by cases hk); have hD5 : Rd w5 B A' dat := ((hD.rd.below ((hBl.trans (hBX.mono (by have := HZ.out; omega))).mono hB))).below (x5.mono (by have := HZ.out; have := HzX.out; omega))))
        | (at_builtin; go_loud (refine append_rd rfl _ _ rfl w5.heap.size (.slice none 0 0) 0 [] rfl (World.ownsRow_nil _ _ _ _) B A' c' dat rfl hD.none_ hD5 (by omega) (Nat.le_refl _) ?_; intro v6 w6 own6 grow6; obtain ⟨A6, c6, rfl, owm6⟩ := own_made (bs := dat) own6 (by simp) (by simp); have x6 : Below w5.heap.size w5 w6 := (Below.refl w5.heap.size w5).grown grow6 (Nat.le_refl _) (fun k hk => by cases hk); have hg6 := (x6.block W.heap.size (by have := x5.size; have := HzX.out; omega)).trans ((x5.block W.heap.size (by have := HzX.out; omega)).trans hX); have k9 : w6.cell? ⟨W.heap.size, 9, none⟩ = some (.slice none 0 0) := by { rw [cell_of_row _ _ _ _ _ _ hg6]; rfl }; have f9 := frozen_of_row w6 W.heap.size 9 _ _ hg6; have hg7 := heap_setCell_same w6 W.heap.size 9 _ _ (.slice A5 O.length c5) hg6; have k10 : (w6.setCell ⟨W.heap.size, 9, none⟩ (.slice A5 O.length c5)).cell? ⟨W.heap.size, 10, none⟩ = some (.slice none 0 0) := by { rw [cell_of_row _ _ _ _ _ _ hg7]; rfl }; have f10 := frozen_of_row _ W.heap.size 10 _ _ hg7)))
      have hg8 := heap_setCell_same _ W.heap.size 10 _ _ (.slice A6 dat.length c6) hg7
      have hg9 := hg8.trans (show some (Obj.cells _ _ _) = some (.cells (v4a (fl4 b dat) A5 c5 A6 c6) 25 (0, 0)) from by rw [HD.out, HM.out, HF.out, HO.out]; rfl)
      have hr6 := (x6.block w.heap.size (by have := x5.size; have := HzX.out; have := HZ.out; omega)).trans ((x5.block w.heap.size (by have := HzX.out; have := HZ.out; omega)).trans ((hBX.block w.heap.size (by have := HZ.out; omega)).trans hgr))
      have hne : w.heap.size ≠ W.heap.size := by have := HZ.out; omega
      have hr8 := ((heap_setCell_other _ ⟨W.heap.size, 10, none⟩ w.heap.size (.slice A6 dat.length c6) hne).trans (heap_setCell_other w6 ⟨W.heap.size, 9, none⟩ w.heap.size (.slice A5 O.length c5) hne)).trans hr6
      go_wp2_with (first
        | ((with_reducible show wpList _ _ _ (Oper.mk _ (Op.load _ _) _ _ _ _ :: _) _ _); refine v4_load (g := W.heap.size) rfl hg9 rfl ?_)
        | ((with_reducible show wpList _ _ _ (Oper.mk _ (Op.store _ _ _) _ _ _ _ :: _) _ _); refine wpList_plain rfl fun _ hK => wp_store_row 25 _ _ rfl w.heap.size _ rfl rfl 25 _ hr8 (by kernel_rfl) rfl (by simp [v4a, Value.oneCell']) (hK _ _ ?_)))
      have oz5 := own_setRow (own_setCell (own_setCell (own_below owm5 x6) (p := ⟨W.heap.size, 9, none⟩) (u := .slice A5 O.length c5) (by have := HzX.out; show W.heap.size < _; omega)) (p := ⟨W.heap.size, 10, none⟩) (u := .slice A6 dat.length c6) (by have := HzX.out; show W.heap.size < _; omega)) (g := w.heap.size) (cs := v4a (fl4 b dat) A5 c5 A6 c6) (by have := HzX.out; have := HZ.out; omega)
      have oz6 := own_setRow (own_setCell (own_setCell owm6 (p := ⟨W.heap.size, 9, none⟩) (u := .slice A5 O.length c5) (by have := HzX.out; have := x5.size; show W.heap.size < _; omega)) (p := ⟨W.heap.size, 10, none⟩) (u := .slice A6 dat.length c6) (by have := HzX.out; have := x5.size; show W.heap.size < _; omega)) (g := w.heap.size) (cs := v4a (fl4 b dat) A5 c5 A6 c6) (by have := HzX.out; have := x5.size; have := HZ.out; omega)
      have bz := (((((hBl.trans (hBX.mono (by have := HZ.out; omega))).trans (x5.mono (by have := HzX.out; have := HZ.out; omega))).trans (x6.mono (by have := x5.size; have := HzX.out; have := HZ.out; omega))).setCell (p := ⟨W.heap.size, 9, none⟩) (by have := HZ.out; show _ ≤ W.heap.size; omega) (.slice A5 O.length c5)).setCell (p := ⟨W.heap.size, 10, none⟩) (by have := HZ.out; show _ ≤ W.heap.size; omega) (.slice A6 dat.length c6))
      have eO : (fl4 b dat).opt = O := HO.out.symm
      exact bodyPost_ret (v4_result rfl rfl (setRow_heap _ _ _ _ _ _ hr8) rfl) rfl ⟨A5, c5, A6, c6, rfl, by rw [eO]; exact arg_own oz5, arg_own oz6, below_row bz (Nat.le_refl _)⟩
    · go_upto_region 6 with (first
        | (at_builtin; (refine append_rd rfl _ _ rfl X.heap.size (.slice none 0 0) 0 [] rfl (World.ownsRow_nil _ _ _ _) B (some ⟨b0, off + 20, none⟩) _ O (by rw [HOl.out]; rfl) (fun e => by cases e) hrb (by have := HOl.out; omega) (Nat.le_refl _) ?_; intro v5 w5 own5 grow5; obtain ⟨A5, c5, rfl, owm5⟩ := own_made (bs := O) own5 (by simp) (by simp); have x5 : Below X.heap.size X w5 := (Below.refl X.heap.size X).grown grow5 (Nat.le_refl _) (fun k hk => by cases hk); have hD5 : Rd w5 B A' dat := ((hD.rd.below ((hBl.trans (hBX.mono (by have := HZ.out; omega))).mono hB))).below (x5.mono (by have := HZ.out; have := HzX.out; omega))))
        | (at_builtin; go_loud (refine append_rd rfl _ _ rfl w5.heap.size (.slice none 0 0) 0 [] rfl (World.ownsRow_nil _ _ _ _) B A' c' dat rfl hD.none_ hD5 (by omega) (Nat.le_refl _) ?_; intro v6 w6 own6 grow6; obtain ⟨A6, c6, rfl, owm6⟩ := own_made (bs := dat) own6 (by simp) (by simp); have x6 : Below w5.heap.size w5 w6 := (Below.refl w5.heap.size w5).grown grow6 (Nat.le_refl _) (fun k hk => by cases hk); have hg6 := (x6.block W.heap.size (by have := x5.size; have := HzX.out; omega)).trans ((x5.block W.heap.size (by have := HzX.out; omega)).trans hX); have k9 : w6.cell? ⟨W.heap.size, 9, none⟩ = some (.slice none 0 0) := by { rw [cell_of_row _ _ _ _ _ _ hg6]; rfl }; have f9 := frozen_of_row w6 W.heap.size 9 _ _ hg6; have hg7 := heap_setCell_same w6 W.heap.size 9 _ _ (.slice A5 O.length c5) hg6; have k10 : (w6.setCell ⟨W.heap.size, 9, none⟩ (.slice A5 O.length c5)).cell? ⟨W.heap.size, 10, none⟩ = some (.slice none 0 0) := by { rw [cell_of_row _ _ _ _ _ _ hg7]; rfl }; have f10 := frozen_of_row _ W.heap.size 10 _ _ hg7)))
      have hg8 := heap_setCell_same _ W.heap.size 10 _ _ (.slice A6 dat.length c6) hg7
      have hg9 := hg8.trans (show some (Obj.cells _ _ _) = some (.cells (v4a (fl4 b dat) A5 c5 A6 c6) 25 (0, 0)) from by rw [HD.out, HM.out, HF.out, HO.out]; rfl)
      have hr6 := (x6.block w.heap.size (by have := x5.size; have := HzX.out; have := HZ.out; omega)).trans ((x5.block w.heap.size (by have := HzX.out; have := HZ.out; omega)).trans ((hBX.block w.heap.size (by have := HZ.out; omega)).trans hgr))
      have hne : w.heap.size ≠ W.heap.size := by have := HZ.out; omega
      have hr8 := ((heap_setCell_other _ ⟨W.heap.size, 10, none⟩ w.heap.size (.slice A6 dat.length c6) hne).trans (heap_setCell_other w6 ⟨W.heap.size, 9, none⟩ w.heap.size (.slice A5 O.length c5) hne)).trans hr6
      go_wp2_with (first
        | ((with_reducible show wpList _ _ _ (Oper.mk _ (Op.load _ _) _ _ _ _ :: _) _ _); refine v4_load (g := W.heap.size) rfl hg9 rfl ?_)
        | ((with_reducible show wpList _ _ _ (Oper.mk _ (Op.store _ _ _) _ _ _ _ :: _) _ _); refine wpList_plain rfl fun _ hK => wp_store_row 25 _ _ rfl w.heap.size _ rfl rfl 25 _ hr8 (by kernel_rfl) rfl (by simp [v4a, Value.oneCell']) (hK _ _ ?_)))
      have oz5 := own_setRow (own_setCell (own_setCell (own_below owm5 x6) (p := ⟨W.heap.size, 9, none⟩) (u := .slice A5 O.length c5) (by have := HzX.out; show W.heap.size < _; omega)) (p := ⟨W.heap.size, 10, none⟩) (u := .slice A6 dat.length c6) (by have := HzX.out; show W.heap.size < _; omega)) (g := w.heap.size) (cs := v4a (fl4 b dat) A5 c5 A6 c6) (by have := HzX.out; have := HZ.out; omega)
      have oz6 := own_setRow (own_setCell (own_setCell owm6 (p := ⟨W.heap.size, 9, none⟩) (u := .slice A5 O.length c5) (by have := HzX.out; have := x5.size; show W.heap.size < _; omega)) (p := ⟨W.heap.size, 10, none⟩) (u := .slice A6 dat.length c6) (by have := HzX.out; have := x5.size; show W.heap.size < _; omega)) (g := w.heap.size) (cs := v4a (fl4 b dat) A5 c5 A6 c6) (by have := HzX.out; have := x5.size; have := HZ.out; omega)
      have bz := (((((hBl.trans (hBX.mono (by have := HZ.out; omega))).trans (x5.mono (by have := HzX.out; have := HZ.out; omega))).trans (x6.mono (by have := x5.size; have := HzX.out; have := HZ.out; omega))).setCell (p := ⟨W.heap.size, 9, none⟩) (by have := HZ.out; show _ ≤ W.heap.size; omega) (.slice A5 O.length c5)).setCell (p := ⟨W.heap.size, 10, none⟩) (by have := HZ.out; show _ ≤ W.heap.size; omega) (.slice A6 dat.length c6))
      have eO : (fl4 b dat).opt = O := HO.out.symm
      exact bodyPost_ret (v4_result rfl rfl (setRow_heap _ _ _ _ _ _ hr8) rfl) rfl ⟨A5, c5, A6, c6, rfl, by rw [eO]; exact arg_own oz5, arg_own oz6, below_row bz (Nat.le_refl _)⟩
end
end Go.Proofs.Ytodlfdnegcfhcaa

/-
  Contracts of slices.Index, slices.Contains over Bools, and of v4.all, v6.all: do all conditions hold? Conditions are each theorem's own.
-/
namespace Go.Proofs.Ytodlfdnegcfhcaa
open Go.RowKit

/-- Do all hold? A plain definition. -/
def allB (bs : List Bool) : Bool := bs.all id
theorem index_all (g n : Nat) (w : World) (hn : n ≤ 1000) (h : ∀ j, j < n → w.cell? ⟨g, j, none⟩ = some (.bool true)) :
    Calls Try.prog 76 #[.slice (some ⟨g, 0, none⟩) n n, .bool false] w fun e w' => e = .returned (.int .i64 (-1)) ∧ w = w' := by
  have H := Lib.hid h
  clear h
  go_enter Try.func76, Try.ntmps76
  go_wp2
  go_loop [8] (fun i => ∃ k : Nat, k ≤ n ∧ i = .int .i64 k) (fun i => n - (intOf i).toNat)
  case atStart => exact ⟨0, Nat.zero_le _, rfl⟩
  case round =>
    obtain ⟨k, hk, rfl⟩ := hrel
    by_cases hlt : k < n
    · have hc := H.out k hlt
      go_wp2
      go_round
      case rel => exact ⟨k + 1, by omega, by simp⟩
      case measure => simp [intOf]; omega
    · obtain rfl : k = n := by omega
      go_wp2
      go_ret
      exact ⟨rfl, rfl⟩
theorem index_some (g n k0 : Nat) (w : World) (hn : n ≤ 1000) (hk0 : k0 < n) (h : ∀ j, j < k0 → w.cell? ⟨g, j, none⟩ = some (.bool true)) (h0 : w.cell? ⟨g, k0, none⟩ = some (.bool false)) :
    Calls Try.prog 76 #[.slice (some ⟨g, 0, none⟩) n n, .bool false] w fun e w' => e = .returned (.int .i64 (k0 : Int)) ∧ w = w' := by
  have H := Lib.hid h
  have H0 := Lib.hid h0
  clear h h0
  go_enter Try.func76, Try.ntmps76
  go_wp2
  go_loop [8] (fun i => ∃ k : Nat, k ≤ k0 ∧ i = .int .i64 k) (fun i => n - (intOf i).toNat)
  case atStart => exact ⟨0, Nat.zero_le _, rfl⟩
  case round =>
    obtain ⟨k, hk, rfl⟩ := hrel
    have hlt : k < n := by omega
    by_cases hlt2 : k < k0
    · have hc := H.out k hlt2
      go_wp2
      go_round
      case rel => exact ⟨k + 1, by omega, by simp⟩
      case measure => simp [intOf]; omega
    · obtain rfl : k = k0 := by omega
      have hc := H0.out
      go_wp2
      go_ret
      exact ⟨rfl, rfl⟩
theorem first_false : ∀ (bs : List Bool), allB bs = false → ∃ k, k < bs.length ∧ (∀ j, j < k → bs[j]? = some true) ∧ bs[k]? = some false
  | [], h => by cases h
  | false :: l, _ => ⟨0, by simp, fun j hj => absurd hj (Nat.not_lt_zero j), rfl⟩
  | true :: l, h => by
    obtain ⟨k, h1, h2, h3⟩ := first_false l (by simpa [allB] using h)
    refine ⟨k + 1, by simp; omega, fun j hj => ?_, by simpa using h3⟩
    cases j with
    | zero => rfl
    | succ j => simpa using h2 j (by omega)
theorem contains_any (g : Nat) (bs : List Bool) (w : World) (hn : bs.length ≤ 1000) (h : w.rangeAt g 0 (bs.map Value.bool)) :
    Calls Try.prog 69 #[.slice (some ⟨g, 0, none⟩) bs.length bs.length, .bool false] w fun e w' => e = .returned (.bool (!allB bs)) ∧ w = w' := by
  have hc : ∀ j b, bs[j]? = some b → w.cell? ⟨g, j, none⟩ = some (.bool b) := fun j b hj => by
    have := h j (.bool b) (by rw [List.getElem?_map, hj]; rfl)
    rwa [Nat.zero_add] at this
  cases ha : allB bs
  · obtain ⟨k, h1, h2, h3⟩ := first_false bs ha
    have c := index_some g bs.length k w hn h1 (fun j hj => hc j true (h2 j hj)) (hc k false h3)
    clear h hc h2 h3
    go_enter Try.func69, Try.ntmps69
    go_wp2_with (go_at_call 76; refine c.mono ?_; rintro e w' ⟨rfl, rfl⟩)
    go_ret
    exact ⟨rfl, rfl⟩
  · have hall : ∀ j, j < bs.length → bs[j]? = some true := fun j hj => by
      have := (List.all_eq_true.1 ha) bs[j] (List.getElem_mem hj)
      rw [List.getElem?_eq_getElem hj]; simpa using this
    have c := index_all g bs.length w hn (fun j hj => hc j true (hall j hj))
    clear h hc hall
    go_enter Try.func69, Try.ntmps69
    go_wp2_with (go_at_call 76; refine c.mono ?_; rintro e w' ⟨rfl, rfl⟩)
    go_ret
    exact ⟨rfl, rfl⟩
theorem all4_any (g : Nat) (bs : List Bool) (w : World) (hn : bs.length ≤ 1000) (h : w.rangeAt g 0 (bs.map Value.bool)) :
    Calls Try.prog 54 #[.slice (some ⟨g, 0, none⟩) bs.length bs.length] w fun e w' => e = .returned (.bool (allB bs)) ∧ w = w' := by
  have c := contains_any g bs w hn h
  clear h
  go_enter Try.func54, Try.ntmps54
  go_wp2_with (go_at_call 69; refine c.mono ?_; rintro e w' ⟨rfl, rfl⟩)
  go_ret
  exact ⟨ret_bool (by simp), rfl⟩
end Go.Proofs.Ytodlfdnegcfhcaa
